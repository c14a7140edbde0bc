/- Quote: a text as it is written, by the library's Builder. -/
import Derived.Test.YtkbgnbcphmkjkaaDoorQuom
import Derived.Test.YtkbgnbcphmkjkaaDoorLayB
namespace Go.Proofs.YtkbgnbcphmkjkaaDoor
open Go.RowKit

theorem wb_any (B b : Nat) (bs : List Value) (c : Int) (w : World) (h : Lib.IsBuilder 57 5 B b bs w) (hlen : bs.length + 1 ≤ 140737488355328) (hBw : B ≤ w.heap.size) :
    Calls Tryd.prog 39 #[.pointer (some ⟨b, 0, none⟩), .int .u8 c] w fun e w' => e = .returned .nilIface ∧ (Lib.BuilderAt 57 5 B b (.pointer (some ⟨b, 0, none⟩)) (bs ++ [.int .u8 c]) w' ∧ Below B w w') :=
  Any.Builder_WriteByte layWB layWBX B b bs c w h hlen hBw

theorem ws_any (B b : Nat) (bs : List Value) (s : ByteArray) (w : World) (h : Lib.IsBuilder 57 5 B b bs w) (hlen : bs.length + s.size ≤ 140737488355328) (hBw : B ≤ w.heap.size) :
    Calls Tryd.prog 23 #[.pointer (some ⟨b, 0, none⟩), .string s] w fun e w' => e = .returned (.tuple #[.int .i64 s.size, .nilIface]) ∧ (Lib.BuilderAt 57 5 B b (.pointer (some ⟨b, 0, none⟩)) (bs ++ Lib.strCells s) w' ∧ Below B w w') :=
  Any.Builder_WriteString layWS layWSX B b bs s w h hlen hBw

theorem st_any (B b : Nat) (l : List UInt8) (w : World) (h : Lib.IsBuilder 57 5 B b (Lib.byteCells l) w) (hBw : B ≤ w.heap.size) :
    Calls Tryd.prog 24 #[.pointer (some ⟨b, 0, none⟩)] w fun e w' => e = .returned (.string ⟨l.toArray⟩) ∧ Below B w w' :=
  Any.Builder_String_any layST laySTX B b l w h hBw

/-- what the writer of one byte leaves -/
def Wrote (B b : Nat) (acc : List UInt8) (w : World) (e : Ending) (w' : World) : Prop :=
  e = .returned (.tuple #[]) ∧ Lib.IsBuilder 57 5 B b (Lib.byteCells acc) w' ∧ Below B w w'

set_option maxHeartbeats 1000000 in
theorem write_any (B b : Nat) (acc : List UInt8) (c : UInt8) (w : World) (h : Lib.IsBuilder 57 5 B b (Lib.byteCells acc) w) (hlen : acc.length + 2 ≤ 140737488355328) (hBw : B ≤ w.heap.size) :
    Calls Tryd.prog 40 #[.pointer (some ⟨b, 0, none⟩), .int .u8 (c.toNat : Int)] w (Wrote B b (acc ++ esc c) w) := by
  have HI := hide h
  have hl : (Lib.byteCells acc).length + 1 ≤ 140737488355328 := by rw [Lib.byteCells_length]; omega
  have hl2 : (Lib.byteCells acc).length + 2 ≤ 140737488355328 := by rw [Lib.byteCells_length]; omega
  clear h
  by_cases h1 : c.toNat = 92
  · have E := hide (esc_92 h1)
    have hq : ((c.toNat : Int) == 92) = true := by simp; omega
    clear h1
    go_enter Tryd.func40, Tryd.ntmps40
    go_wp2_with fail
    refine (wb_any B b _ 92 w (unhide HI) hl hBw).mono ?_
    rintro e w1 ⟨rfl, h1, b1⟩
    have HI1 := hide (Or.inr h1 : Lib.IsBuilder 57 5 B b _ w1)
    have HB1 := hide b1
    have hB1 : B ≤ w1.heap.size := Nat.le_trans hBw b1.size
    clear h1 b1 HI
    go_wp2_with fail
    refine (wb_any B b _ (c.toNat : Int) w1 (unhide HI1) (by rw [List.length_append, List.length_cons, List.length_nil]; omega) hB1).mono ?_
    rintro e w2 ⟨rfl, h2, b2⟩
    have HF : Hid (Wrote B b (acc ++ esc c) w (.returned (.tuple #[])) w2) := hide ⟨rfl, by
      rw [unhide E, show Lib.byteCells (acc ++ [92, c]) = Lib.byteCells acc ++ [Value.int .u8 92] ++ [Value.int .u8 (c.toNat : Int)] by rw [Lib.byteCells_append, List.append_assoc]; rfl]
      exact Or.inr h2, (unhide HB1).trans b2⟩
    clear h2 b2 HI1 HB1
    go_wp2
    go_end0
    exact unhide HF
  have q1 : ((c.toNat : Int) == 92) = false := by simp; omega
  by_cases h2 : c.toNat = 34
  · have E := hide (esc_34 h2)
    have hq : ((c.toNat : Int) == 34) = true := by simp; omega
    clear h2 h1
    go_enter Tryd.func40, Tryd.ntmps40
    go_wp2_with fail
    refine (wb_any B b _ 92 w (unhide HI) hl hBw).mono ?_
    rintro e w1 ⟨rfl, h1, b1⟩
    have HI1 := hide (Or.inr h1 : Lib.IsBuilder 57 5 B b _ w1)
    have HB1 := hide b1
    have hB1 : B ≤ w1.heap.size := Nat.le_trans hBw b1.size
    clear h1 b1 HI
    go_wp2_with fail
    refine (wb_any B b _ (c.toNat : Int) w1 (unhide HI1) (by rw [List.length_append, List.length_cons, List.length_nil]; omega) hB1).mono ?_
    rintro e w2 ⟨rfl, h2, b2⟩
    have HF : Hid (Wrote B b (acc ++ esc c) w (.returned (.tuple #[])) w2) := hide ⟨rfl, by
      rw [unhide E, show Lib.byteCells (acc ++ [92, c]) = Lib.byteCells acc ++ [Value.int .u8 92] ++ [Value.int .u8 (c.toNat : Int)] by rw [Lib.byteCells_append, List.append_assoc]; rfl]
      exact Or.inr h2, (unhide HB1).trans b2⟩
    clear h2 b2 HI1 HB1
    go_wp2
    go_end0
    exact unhide HF
  have q2 : ((c.toNat : Int) == 34) = false := by simp; omega
  by_cases h3 : c.toNat = 10
  · have E := hide (esc_10 h3)
    have hq : ((c.toNat : Int) == 10) = true := by simp; omega
    clear h3 h2 h1
    go_enter Tryd.func40, Tryd.ntmps40
    go_wp2_with fail
    refine (ws_any B b _ { data := #[92, 110] } w (unhide HI) hl2 hBw).mono ?_
    rintro e w2 ⟨rfl, h2, b2⟩
    have HF : Hid (Wrote B b (acc ++ esc c) w (.returned (.tuple #[])) w2) := hide ⟨rfl, by
      rw [unhide E, show Lib.byteCells (acc ++ [92, 110]) = Lib.byteCells acc ++ Lib.strCells { data := #[92, 110] } by rw [Lib.byteCells_append]; rfl]
      exact Or.inr h2, b2⟩
    clear h2 b2 HI
    go_wp2
    go_end0
    exact unhide HF
  have q3 : ((c.toNat : Int) == 10) = false := by simp; omega
  by_cases h4 : c.toNat = 9
  · have E := hide (esc_9 h4)
    have hq : ((c.toNat : Int) == 9) = true := by simp; omega
    clear h4 h3 h2 h1
    go_enter Tryd.func40, Tryd.ntmps40
    go_wp2_with fail
    refine (ws_any B b _ { data := #[92, 116] } w (unhide HI) hl2 hBw).mono ?_
    rintro e w2 ⟨rfl, h2, b2⟩
    have HF : Hid (Wrote B b (acc ++ esc c) w (.returned (.tuple #[])) w2) := hide ⟨rfl, by
      rw [unhide E, show Lib.byteCells (acc ++ [92, 116]) = Lib.byteCells acc ++ Lib.strCells { data := #[92, 116] } by rw [Lib.byteCells_append]; rfl]
      exact Or.inr h2, b2⟩
    clear h2 b2 HI
    go_wp2
    go_end0
    exact unhide HF
  · have q4 : ((c.toNat : Int) == 9) = false := by simp; omega
    have E := hide (esc_no h1 h2 h3 h4)
    clear h1 h2 h3 h4
    go_enter Tryd.func40, Tryd.ntmps40
    go_wp2_with fail
    refine (wb_any B b _ (c.toNat : Int) w (unhide HI) hl hBw).mono ?_
    rintro e w2 ⟨rfl, h2, b2⟩
    have HF : Hid (Wrote B b (acc ++ esc c) w (.returned (.tuple #[])) w2) := hide ⟨rfl, by
      rw [unhide E, ← cells_snoc]
      exact Or.inr h2, b2⟩
    clear h2 b2 HI
    go_wp2
    go_end0
    exact unhide HF

set_option maxHeartbeats 1000000 in
theorem quote_any (s : ByteArray) (w : World) (hs : s.size ≤ 70368744177000) :
    Calls Tryd.prog 19 #[.string s] w fun e w' => e = .returned (.string ⟨(quo s.data.toList).toArray⟩) ∧ Below w.heap.size w w' := by
  go_enter Tryd.func19, Tryd.ntmps19
  go_wp2_with fail
  refine (wb_any w.heap.size w.heap.size [] 34 _ (Lib.fresh_isBuilder 57 5 w) (by decide) (by rw [World.size_alloc]; omega)).mono ?_
  rintro e w1 ⟨rfl, h1, b1⟩
  have HI1 := hide (Or.inr h1 : Lib.IsBuilder 57 5 w.heap.size w.heap.size _ w1)
  have HB1 := hide (((Below.refl w.heap.size w).alloc (Nat.le_refl _) _).trans b1)
  clear h1 b1
  go_wp2
  go_loopw [8] (fun i wr => ∃ k : Nat, k ≤ s.size ∧ i = .int .i64 k ∧ Lib.IsBuilder 57 5 w.heap.size w.heap.size (Lib.byteCells (qpre s k)) wr ∧ Below w.heap.size w wr) (fun i _ => s.size - (intOf i).toNat)
  case atStart => exact ⟨0, by omega, rfl, unhide HI1, unhide HB1⟩
  case round =>
    obtain ⟨k, hk, rfl, hI, hB⟩ := hrel
    have hsz := hB.size
    have hql := qpre_len s k
    by_cases hlt : k < s.size
    · have hb := by_at s k hlt
      have E := hide (qpre_step s k hlt)
      have HI := hide hI
      have HB := hide hB
      clear hI hB HI1 HB1
      go_wp2_with fail
      refine (write_any w.heap.size w.heap.size _ (by_ s k) wr (unhide HI) (by omega) hsz).mono ?_
      rintro e w2 ⟨rfl, h2, b2⟩
      rw [← unhide E] at h2
      have HI2 := hide h2
      have HB2 := hide ((unhide HB).trans b2)
      clear h2 b2 HI HB
      go_wp2
      go_roundw
      case rel => exact ⟨k + 1, by omega, by go_num, unhide HI2, unhide HB2⟩
      case measure => simp [intOf]; omega
    · have e : k = s.size := by omega
      subst e
      have HI := hide hI
      have HB := hide hB
      clear hI hB HI1 HB1
      go_wp2_with fail
      refine (wb_any w.heap.size w.heap.size _ 34 wr (unhide HI) (by rw [Lib.byteCells_length]; omega) hsz).mono ?_
      rintro e w2 ⟨rfl, h2, b2⟩
      rw [show Lib.byteCells (qpre s s.size) ++ [Value.int .u8 34] = Lib.byteCells (qpre s s.size ++ [34]) by rw [Lib.byteCells_append]; rfl, qpre_end] at h2
      have HI2 := hide (Or.inr h2 : Lib.IsBuilder 57 5 w.heap.size w.heap.size _ w2)
      have HB2 := hide ((unhide HB).trans b2)
      have hsz2 := (unhide HB2).size
      clear h2 b2 HI HB
      go_wp2_with fail
      refine (st_any w.heap.size w.heap.size _ w2 (unhide HI2) hsz2).mono ?_
      rintro e w3 ⟨rfl, b3⟩
      have HB3 := hide ((unhide HB2).trans b3)
      clear b3 HB2 HI2
      go_wp2
      go_ret
      exact ⟨rfl, unhide HB3⟩

end Go.Proofs.YtkbgnbcphmkjkaaDoor
