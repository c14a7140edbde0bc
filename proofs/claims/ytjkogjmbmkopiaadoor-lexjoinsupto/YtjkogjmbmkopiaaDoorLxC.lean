/- The document's lexer: what stands at a place. -/
import Derived.Test.YtjkogjmbmkopiaaDoorLxB
import Derived.Handy
namespace Go.Proofs.YtjkogjmbmkopiaaDoor
open Go.RowKit

/-- what a reader of one token answers -/
def tkEnd (x : Tk) : Ending := .returned (.tuple #[tokV x.k ⟨x.t.toArray⟩ x.n 0 0, .int .i64 (x.len : Int), .int .i64 x.e])

theorem ext_cut_list (s : ByteArray) (a n : Nat) : (s.extract a (a + n)).data.toList = (s.data.toList.drop a).take n := by
  rw [ByteArray.data_extract, Array.toList_extract, List.extract_eq_take_drop, Nat.add_sub_cancel_left]

theorem ext_cut (s : ByteArray) (a n : Nat) : s.extract a (a + n) = ⟨((s.data.toList.drop a).take n).toArray⟩ :=
  WideShapes.bytes_inj ((ext_cut_list s a n).trans (arr_list _).symm)

/-- the zero token in a block -/
def tokZ : Array Value := #[.int .i64 0, .string ⟨#[]⟩, .int .i64 0, .int .i64 0, .int .i64 0]

/-- a block that holds a token, and nothing but that -/
structure TokAt (w : World) (B : Nat) : Prop where
  blk : ∃ v0 v1 v2 v3 v4, w.heap[B]? = some (.cells #[v0, v1, v2, v3, v4] 42 (0, 0))

theorem TokAt.cell {w : World} {B : Nat} (h : TokAt w B) : ∃ v0 v1 v2 v3 v4, w.cell? ⟨B, 0, none⟩ = some v0 ∧ w.cell? ⟨B, 1, none⟩ = some v1 ∧ w.cell? ⟨B, 2, none⟩ = some v2 ∧ w.cell? ⟨B, 3, none⟩ = some v3 ∧ w.cell? ⟨B, 4, none⟩ = some v4 := by
  obtain ⟨v0, v1, v2, v3, v4, h⟩ := h.blk
  exact ⟨v0, v1, v2, v3, v4, by simp [World.cell?, h], by simp [World.cell?, h], by simp [World.cell?, h], by simp [World.cell?, h], by simp [World.cell?, h]⟩

theorem TokAt.froz {w : World} {B : Nat} (h : TokAt w B) (i : Nat) : w.frozen? ⟨B, i, none⟩ = false := by
  obtain ⟨v0, v1, v2, v3, v4, h⟩ := h.blk
  simp [World.frozen?, h]

theorem TokAt.new (w : World) (v0 v1 v2 v3 v4 : Value) : TokAt (w.alloc (.cells #[v0, v1, v2, v3, v4] 42)) w.heap.size := ⟨v0, v1, v2, v3, v4, (MapKept.heap_alloc w _).1⟩

theorem TokAt.lt {w : World} {B : Nat} (h : TokAt w B) : B < w.heap.size := by
  obtain ⟨v0, v1, v2, v3, v4, h⟩ := h.blk
  exact (Array.getElem?_eq_some_iff.1 h).1

theorem TokAt.below {w w' : World} {B : Nat} (h : TokAt w B) (hb : Below w.heap.size w w') : TokAt w' B := by
  have hl := h.lt
  obtain ⟨v0, v1, v2, v3, v4, h⟩ := h.blk
  exact ⟨v0, v1, v2, v3, v4, (hb.block B hl).trans h⟩

/-- a token is written over -/
def put5 (w : World) (B : Nat) (v0 v1 v2 v3 v4 : Value) : World :=
  ((((w.setCell ⟨B, 0, none⟩ v0).setCell ⟨B, 1, none⟩ v1).setCell ⟨B, 2, none⟩ v2).setCell ⟨B, 3, none⟩ v3).setCell ⟨B, 4, none⟩ v4

theorem put5_heap {w : World} {B : Nat} (h : TokAt w B) (v0 v1 v2 v3 v4 : Value) : (put5 w B v0 v1 v2 v3 v4).heap[B]? = some (.cells #[v0, v1, v2, v3, v4] 42 (0, 0)) := by
  obtain ⟨u0, u1, u2, u3, u4, h⟩ := h.blk
  simp [put5, World.setCell, Array.getElem?_modify, h]

theorem put5_cells {w : World} {B : Nat} (h : TokAt w B) (v0 v1 v2 v3 v4 : Value) : (put5 w B v0 v1 v2 v3 v4).cell? ⟨B, 0, none⟩ = some v0 ∧ (put5 w B v0 v1 v2 v3 v4).cell? ⟨B, 1, none⟩ = some v1 ∧ (put5 w B v0 v1 v2 v3 v4).cell? ⟨B, 2, none⟩ = some v2 ∧
    (put5 w B v0 v1 v2 v3 v4).cell? ⟨B, 3, none⟩ = some v3 ∧ (put5 w B v0 v1 v2 v3 v4).cell? ⟨B, 4, none⟩ = some v4 := by
  have h := put5_heap h v0 v1 v2 v3 v4
  exact ⟨by simp [World.cell?, h], by simp [World.cell?, h], by simp [World.cell?, h], by simp [World.cell?, h], by simp [World.cell?, h]⟩

theorem put5_below {B : Nat} {a w : World} {C : Nat} (h : Below B a w) (hC : B ≤ C) (v0 v1 v2 v3 v4 : Value) : Below B a (put5 w C v0 v1 v2 v3 v4) :=
  ((((h.setCell hC _).setCell hC _).setCell hC _).setCell hC _).setCell hC _

theorem name_word {l : List UInt8} (h : isWord ⟨(l.take (runN l)).toArray⟩ = true) : tkName l = ⟨0, 2, l.take (runN l), 0, runN l⟩ := by unfold tkName; rw [if_pos h]
theorem name_long {l : List UInt8} (h : isWord ⟨(l.take (runN l)).toArray⟩ = false) (g : 30 < runN l) : tkName l = ⟨35, 0, [], 0, 0⟩ := by unfold tkName; rw [h, if_neg (by decide), if_pos g]; rfl
theorem name_name {l : List UInt8} (h : isWord ⟨(l.take (runN l)).toArray⟩ = false) (g : ¬ 30 < runN l) : tkName l = ⟨0, 1, l.take (runN l), 0, runN l⟩ := by unfold tkName; rw [h, if_neg (by decide), if_neg g]

set_option maxHeartbeats 1000000 in
theorem tname_any (s : ByteArray) (a : Nat) (w : World) (hs : s.size ≤ 281474976710656) (ha : a < s.size) :
    Calls Tryd.prog 36 #[.string s, .int .i64 (a : Int)] w fun e w' => e = tkEnd (tkName (s.data.toList.drop a)) ∧ Below w.heap.size w w' := by
  have hn := runN_le (s.data.toList.drop a)
  rw [List.length_drop, ← size_len] at hn
  have X := ext_cut s a (runN (s.data.toList.drop a))
  have T1 := hide (fun h => name_word (l := s.data.toList.drop a) h)
  have T2 := hide (fun h g => name_long (l := s.data.toList.drop a) h g)
  have T3 := hide (fun h g => name_name (l := s.data.toList.drop a) h g)
  go_enter Tryd.func36, Tryd.ntmps36
  go_wp2_with fail
  refine (run_any s a _ hs (by omega)).mono ?_
  rintro e w1 ⟨rfl, rfl⟩
  generalize runN (s.data.toList.drop a) = n at *
  generalize ((s.data.toList.drop a).take n) = W at *
  go_wp2_with fail
  refine (refword_any _ _).mono ?_
  rintro e w2 ⟨rfl, b2⟩
  have HT := hide ((TokAt.new w (.int .i64 0) (.string ⟨#[]⟩) (.int .i64 0) (.int .i64 0) (.int .i64 0)).below b2)
  have HB := hide (((Below.refl w.heap.size w).alloc (Nat.le_refl _) _).trans (b2.mono (by rw [World.size_alloc]; omega)))
  obtain ⟨v0, v1, v2, v3, v4, c0, c1, c2, c3, c4⟩ := (unhide HT).cell
  have f := fun i => (unhide HT).froz i
  clear b2
  cases hw : isWord ⟨W.toArray⟩
  · by_cases h30 : 30 < n
    · have E : Hid (_ = tkEnd _) := hide (congrArg tkEnd (unhide T2 hw h30).symm)
      clear T1 T2 T3
      go_wp2
      change bodyPost _ _ _ _ _ (put5 _ w.heap.size (.int .i64 0) (.string ⟨#[]⟩) (.int .i64 0) (.int .i64 0) (.int .i64 0))
      obtain ⟨g0, g1, g2, g3, g4⟩ := put5_cells (unhide HT) (.int .i64 0) (.string ⟨#[]⟩) (.int .i64 0) (.int .i64 0) (.int .i64 0)
      have HF := hide (put5_below (unhide HB) (Nat.le_refl _) (.int .i64 0) (.string ⟨#[]⟩) (.int .i64 0) (.int .i64 0) (.int .i64 0))
      generalize put5 _ w.heap.size (.int .i64 0) (.string ⟨#[]⟩) (.int .i64 0) (.int .i64 0) (.int .i64 0) = wf at *
      refine bodyPost_ret (by simp [results, Tryd.results36, go_sem, g0, g1, g2, g3, g4]; try rfl) rfl ?_
      exact ⟨unhide E, unhide HF⟩
    · have E : Hid (_ = tkEnd _) := hide (congrArg tkEnd (unhide T3 hw h30).symm)
      clear T1 T2 T3
      go_wp2
      change bodyPost _ _ _ _ _ (put5 _ w.heap.size (.int .i64 1) (.string ⟨W.toArray⟩) (.int .i64 0) (.int .i64 0) (.int .i64 0))
      obtain ⟨g0, g1, g2, g3, g4⟩ := put5_cells (unhide HT) (.int .i64 1) (.string ⟨W.toArray⟩) (.int .i64 0) (.int .i64 0) (.int .i64 0)
      have HF := hide (put5_below (unhide HB) (Nat.le_refl _) (.int .i64 1) (.string ⟨W.toArray⟩) (.int .i64 0) (.int .i64 0) (.int .i64 0))
      generalize put5 _ w.heap.size (.int .i64 1) (.string ⟨W.toArray⟩) (.int .i64 0) (.int .i64 0) (.int .i64 0) = wf at *
      refine bodyPost_ret (by simp [results, Tryd.results36, go_sem, g0, g1, g2, g3, g4]; try rfl) rfl ?_
      exact ⟨unhide E, unhide HF⟩
  · have E : Hid (_ = tkEnd _) := hide (congrArg tkEnd (unhide T1 hw).symm)
    clear T1 T2 T3
    go_wp2
    change bodyPost _ _ _ _ _ (put5 _ w.heap.size (.int .i64 2) (.string ⟨W.toArray⟩) (.int .i64 0) (.int .i64 0) (.int .i64 0))
    obtain ⟨g0, g1, g2, g3, g4⟩ := put5_cells (unhide HT) (.int .i64 2) (.string ⟨W.toArray⟩) (.int .i64 0) (.int .i64 0) (.int .i64 0)
    have HF := hide (put5_below (unhide HB) (Nat.le_refl _) (.int .i64 2) (.string ⟨W.toArray⟩) (.int .i64 0) (.int .i64 0) (.int .i64 0))
    generalize put5 _ w.heap.size (.int .i64 2) (.string ⟨W.toArray⟩) (.int .i64 0) (.int .i64 0) (.int .i64 0) = wf at *
    refine bodyPost_ret (by simp [results, Tryd.results36, go_sem, g0, g1, g2, g3, g4]; try rfl) rfl ?_
    exact ⟨unhide E, unhide HF⟩

end Go.Proofs.YtjkogjmbmkopiaaDoor
