/- The program's Join: any token as it is written; an empty list. A list of tokens in memory, read. The law of joined tokens: its walk: what it asks at its head, and the empty list. The law of joined tokens: its walk at lists that are not empty. -/
import Derived.Test.YtkbgnbcphmkjkaaDoorPvA
import Derived.Test.YtkbgnbcphmkjkaaDoorPvB
import Derived.Test.YtkbgnbcphmkjkaaDoorPvC
import Derived.Test.YtkbgnbcphmkjkaaDoorPv2
import Derived.Test.YtkbgnbcphmkjkaaDoorPk
import Derived.Test.YtkbgnbcphmkjkaaDoorPg
import Derived.Test.YtkbgnbcphmkjkaaDoorLz
import Derived.Test.YtkbgnbcphmkjkaaDoorBkA
namespace Go.Proofs.YtkbgnbcphmkjkaaDoor
open Go.RowKit

theorem w_none {k : Int} {t : List UInt8} {n : Int} (h0 : ¬ k = 0) (h1 : ¬ k = 1) (h2 : ¬ k = 2) (h3 : ¬ k = 3) (h4 : ¬ k = 4) (h5 : ¬ k = 5) (h6 : ¬ k = 6) : Ending.returned (.tuple #[.string ⟨#[]⟩, .bool false]) = wEnd k t n := by
  unfold wEnd wtx wok
  rw [if_neg (by omega), if_neg h3, if_neg h4, if_neg h6, if_neg (by omega), if_neg h1, if_neg h2, if_neg h3, if_neg h5, if_neg h6]

set_option maxHeartbeats 4000000 in
theorem lexwrite_ok : WriteOk := by
  intro k X n a l w hs hn0 hn1 hV
  by_cases h0 : k = 0
  · exact write_end X n a l w hs hn0 hn1 hV k h0
  by_cases h1 : k = 1
  · exact write_name X n a l w hs hV k h1
  by_cases h2 : k = 2
  · exact write_word X n a l w hs hn0 hn1 hV k h2
  by_cases h3 : k = 3
  · exact write_int X n a l w hs hn0 hn1 hV k h3
  by_cases h4 : k = 4
  · exact write_text X n a l w hs hn0 hn1 hV k h4
  by_cases h5 : k = 5
  · cases qh : has sgl X.data.toList
    · exact wsign_no X n a l w hs hn0 hn1 hV k h5 qh
    · by_cases h9 : X.data.toList = [59]
      · exact wsign_semi X n a l w hs hn0 hn1 hV k h5 qh h9
      · exact wsign_yes X n a l w hs hn0 hn1 hV k h5 qh h9
  by_cases h6 : k = 6
  · exact write_semi X n a l w hs hn0 hn1 hV k h6
  have E := hide (w_none (t := X.data.toList) (n := n) h0 h1 h2 h3 h4 h5 h6)
  unfold tokV
  have q0 : (k == 0) = false := beq_false_of_ne h0
  have q1 : (k == 1) = false := beq_false_of_ne h1
  have q2 : (k == 2) = false := beq_false_of_ne h2
  have q3 : (k == 3) = false := beq_false_of_ne h3
  have q4 : (k == 4) = false := beq_false_of_ne h4
  have q5 : (k == 5) = false := beq_false_of_ne h5
  have q6 : (k == 6) = false := beq_false_of_ne h6
  clear h0 h1 h2 h3 h4 h5 h6
  go_enter Tryd.func7, Tryd.ntmps7
  go_wp2
  go_ret2
  exact ⟨unhide E, (Below.refl w.heap.size w).alloc (Nat.le_refl _) _⟩

set_option maxRecDepth 100000 in
set_option maxHeartbeats 8000000 in
theorem lexjoin_z (a : Option Addr) (z cap : Nat) (hz : z = 0) (w : World) :
    Calls Tryd.prog 4 #[.slice a z cap] w fun e w' => e = .returned (.tuple #[.string ⟨#[]⟩, .int .i64 0]) ∧ Below w.heap.size w w' := by
  have hmk := run_make_row' (P := Tryd.prog) 35 9 (.string ByteArray.empty) 16 Tryd.underlying35 Tryd.infoS rfl .i64 .i64 z (by omega) (by omega)
  have HM := hide (World.rowIs_made w (.string ByteArray.empty) z 9)
  have HB0 := hide ((Below.refl w.heap.size w).alloc (Nat.le_refl _) (.cells (madeCells #[.string ByteArray.empty] z) 9))
  have HZ := hide hz
  clear hz
  go_enter Tryd.func4, Tryd.ntmps4
  go_wp2
  clear hmk
  generalize w.alloc (.cells (madeCells #[.string ByteArray.empty] z) 9) = w0 at *
  go_loopw [14] (fun i wr => i = .int .i64 0 ∧ wr = w0) (fun _ _ => 0)
  case atStart => exact ⟨rfl, rfl⟩
  case round =>
    obtain ⟨rfl, hw⟩ := hrel
    have HRx := hide (show wr.rowIs w.heap.size 9 z (fun j => .string (txAt [] j)) by rw [hw]; exact (unhide HM).congr fun i hi => absurd hi (by rw [unhide HZ]; exact Nat.not_lt_zero i))
    have HB := hide (show Below w.heap.size w wr by rw [hw]; exact unhide HB0)
    have hszr := (unhide HB).size
    clear hw HB0 HM
    obtain ⟨wx, rfl⟩ : ∃ q, q = wr := ⟨_, rfl⟩
    obtain rfl : z = 0 := unhide HZ
    go_wp2_with fail
    refine (join_row (l := []) ⟨by decide, fun x hx => by cases hx⟩ (unhide HRx)).mono ?_
    rintro e w2 ⟨rfl, b2⟩
    have HB2 := hide ((unhide HB).trans (b2.mono hszr))
    clear b2
    go_wp2
    go_ret2
    exact ⟨rfl, unhide HB2⟩

theorem lexjoin_empty (a : Option Addr) (cap : Nat) (w : World) :
    Calls Tryd.prog 4 #[.slice a 0 cap] w fun e w' => e = .returned (.tuple #[.string ⟨#[]⟩, .int .i64 0]) ∧ Below w.heap.size w w' := lexjoin_z a 0 cap rfl w

/-- Calls, of the document -/
theorem refcallsX_any (k : Int) (t : ByteArray) (n a l : Int) (w : World) :
    Calls Tryd.prog 6 #[tokV k t n a l] w fun e w' => e = .returned (.bool (callsK k t.data.toList)) ∧ Below w.heap.size w w' := by
  have HB1 := hide ((Below.refl w.heap.size w).alloc (Nat.le_refl _) (.cells #[.int .i64 k, .string t, .int .i64 n, .int .i64 a, .int .i64 l] 28))
  unfold tokV
  go_enter Tryd.func6, Tryd.ntmps6
  go_wp2_with fail
  refine (refcalls_any k t n a l _).mono ?_
  rintro e w1 ⟨rfl, b1⟩
  have HB2 := hide ((unhide HB1).trans (b1.mono (unhide HB1).size))
  clear b1
  go_wp2
  go_ret
  exact ⟨rfl, unhide HB2⟩

end Go.Proofs.YtkbgnbcphmkjkaaDoor

namespace Go.Proofs.YtkbgnbcphmkjkaaDoor
open Go.RowKit

/-- tokens in a block -/
structure RowAt (w : World) (g : Nat) (l : List Tok) : Prop where
  lt : g < w.heap.size
  cell : ∀ i (h : i < l.length), w.cell? ⟨g, i * 5, none⟩ = some (.int .i64 l[i].k) ∧ w.cell? ⟨g, i * 5 + 1, none⟩ = some (.string ⟨l[i].t.toArray⟩) ∧ w.cell? ⟨g, i * 5 + 2, none⟩ = some (.int .i64 l[i].n) ∧ w.cell? ⟨g, i * 5 + 3, none⟩ = some (.int .i64 (l[i].at_ : Int)) ∧ w.cell? ⟨g, i * 5 + 4, none⟩ = some (.int .i64 (l[i].line : Int))

theorem toksC_get : ∀ (l : List Tok) (i c : Nat) (h : i < l.length) (_ : c < 5), (toksC l)[i * 5 + c]? = (tokC l[i])[c]? := by
  intro l
  induction l with
  | nil => intro i c h; cases h
  | cons t r ih =>
    intro i c h hc
    unfold toksC
    cases i with
    | zero =>
      rw [Nat.zero_mul, Nat.zero_add, List.getElem?_append_left (by simp [tokC]; exact hc)]
      rfl
    | succ i =>
      rw [List.getElem?_append_right (by simp [tokC]; omega)]
      have e : (i + 1) * 5 + c - (tokC t).length = i * 5 + c := by simp [tokC]; omega
      rw [e, ih i c (by rw [List.length_cons] at h; omega) hc]
      rfl

theorem OwnT.row {w : World} {B : Nat} {v : Value} {l : List Tok} (h : OwnT w B v l) (hp : 0 < l.length) : ∃ g cap, v = .slice (some ⟨g, 0, none⟩) l.length cap ∧ B ≤ g ∧ RowAt w g l := by
  have h0 := h
  rcases h with ⟨_, ⟨_, hn⟩ | ⟨g, cap, cur, rfl, hB, hg, hr⟩⟩
  · omega
  · refine ⟨g, cap, rfl, hB, (Array.getElem?_eq_some_iff.1 hg).1, fun i hi => ?_⟩
    have key : ∀ c u, c < 5 → (tokC l[i])[c]? = some u → w.cell? ⟨g, i * 5 + c, none⟩ = some u := fun c u hc e => by
      have h1 := World.ownsRow.cells h0 (g := g) rfl (i * 5 + c) u ((toksC_get l i c hi hc).trans e)
      rwa [show (⟨g, 0, none⟩ : Addr).add (i * 5 + c) = ⟨g, i * 5 + c, none⟩ by simp [Addr.add]; intros; omega] at h1
    exact ⟨key 0 _ (by decide) rfl, key 1 _ (by decide) rfl, key 2 _ (by decide) rfl, key 3 _ (by decide) rfl, key 4 _ (by decide) rfl⟩

theorem RowAt.below {w w' : World} {g C : Nat} {l : List Tok} (h : RowAt w g l) (hb : Below C w w') (hg : g < C) (hC : C ≤ w.heap.size) : RowAt w' g l :=
  ⟨Nat.lt_of_lt_of_le hg (Nat.le_trans hC (Nat.le_trans (by have := hb.size; omega) (Nat.le_refl _))), fun i hi => by
    have := h.cell i hi
    have e := hb.block g hg
    unfold World.cell? at this ⊢
    simp only [e]
    exact this⟩
theorem RowAt.dn {w : World} {g : Nat} {l : List Tok} (h : RowAt w g l) (m : Nat) : RowAt (w.drewN m) g l := ⟨h.lt, h.cell⟩

end Go.Proofs.YtkbgnbcphmkjkaaDoor

namespace Go.Proofs.YtkbgnbcphmkjkaaDoor
open Go.RowKit Go.Lib

def r17 : RT := ⟨3, ⟨#[]⟩, 17, 0, 0⟩

theorem row17 (w : World) : RRow (w.alloc (.cells #[.int .i64 3, .string ⟨#[]⟩, .int .i64 17, .int .i64 0, .int .i64 0] 28)) w.heap.size 0 [r17] :=
  ⟨fun _ => by rw [World.size_alloc]; omega, fun i hi => by
    have e : i = 0 := by simpa using hi
    subst e
    refine ⟨?_, ?_, ?_, ?_, ?_⟩ <;> (rw [World.cell?_alloc_new]; rfl)⟩

theorem fit17 : RFit [r17] := ⟨by decide, fun x hx => by
  rw [List.mem_singleton] at hx
  subst hx
  exact ⟨by decide, by decide, by decide⟩⟩

theorem itoa17 : Lib.itoa 17 = [49, 55] := by
  unfold Lib.itoa
  rw [if_neg (by decide)]
  rw [show (17 : Int).toNat = 17 from rfl, decDigits, dif_neg (by decide), decDigits, dif_pos (by decide)]
  rfl

theorem end17 : jEnd [r17] = .returned (.tuple #[.string ⟨#[49, 55]⟩, .int .i64 0]) := by
  have h1 : jok [r17] = true := by decide
  have h2 : jtx [r17] = [49, 55] := by
    rw [jtx_all]
    show r17.tx ++ [] = _
    rw [List.append_nil]
    exact itoa17
  unfold jEnd
  rw [h1, h2]
  rfl

theorem join17 (w : World) (hV : Tab w) : Calls Tryd.prog 4 #[.slice (some ⟨w.heap.size, 0, none⟩) 1 1] (w.alloc (.cells #[.int .i64 3, .string ⟨#[]⟩, .int .i64 17, .int .i64 0, .int .i64 0] 28)) fun e w' =>
    e = .returned (.tuple #[.string ⟨#[49, 55]⟩, .int .i64 0]) ∧ Below w.heap.size w w' := by
  have hb := (Below.refl w.heap.size w).alloc (Nat.le_refl _) (.cells #[.int .i64 3, .string ⟨#[]⟩, .int .i64 17, .int .i64 0, .int .i64 0] 28)
  refine (lexjoin_any (l := [r17]) (cap := 1) lexwrite_ok (row17 w) fit17 (hV.below hb)).mono ?_
  rintro e w' ⟨rfl, b⟩
  exact ⟨end17, hb.trans (b.mono (by rw [World.size_alloc]; omega))⟩

theorem scan_nil : scan [] = .ok [endAt 0 1] := rfl

/-- an answer of Scan that has no fault -/
theorem lex_is {s : ByteArray} {w : World} {e : Ending} {w' : World} {m : List Tok} (h : LexPost s w e w') (hs : scan s.data.toList = .ok m) :
    ∃ g cap, e = .returned (.tuple #[.slice (some ⟨g, 0, none⟩) m.length cap, .nilIface]) ∧ w.heap.size ≤ g ∧ RowAt w' g m ∧ Below w.heap.size w w' := by
  obtain ⟨h1, _, h3⟩ := h
  obtain ⟨v, he, ho⟩ := h1 m hs
  obtain ⟨g, cap, rfl, hg, hr⟩ := ho.row (scan_bounds hs).2.2.1
  exact ⟨g, cap, he, by omega, hr, h3⟩

set_option maxRecDepth 100000 in
set_option maxHeartbeats 4000000 in
theorem lback_empty (a : Option Addr) (cap : Nat) (w : World) (hV : Vars w) :
    Calls Tryd.prog 3 #[.slice a 0 cap] w fun e w' => e = .returned (.bool true) ∧ Below w.heap.size w w' := by
  have HV := hide hV
  clear hV
  go_enter Tryd.func3, Tryd.ntmps3
  go_wp2_with fail
  refine (lexjoin_empty a cap _).mono ?_
  rintro e w1 ⟨rfl, b1⟩
  have HB1 := hide b1
  have HV1 := hide ((unhide HV).below b1)
  clear b1
  go_wp2_with fail
  refine (join17 w1 (unhide HV1).toTab).mono ?_
  rintro e w2 ⟨rfl, b2⟩
  have HB2 := hide ((unhide HB1).trans (b2.mono (unhide HB1).size))
  have HV2 := hide ((unhide HV1).below b2)
  clear b2 HB1 HV1
  go_wp2_with fail
  refine (lexscan_any ⟨#[]⟩ _ (by decide) (unhide HV2)).mono ?_
  intro e w3 h3
  obtain ⟨g, cp, rfl, hg, hrow, b3⟩ := lex_is h3 scan_nil
  have HB3 := hide ((unhide HB2).trans (b3.mono (unhide HB2).size))
  obtain ⟨y0, y1, y2, y3, y4⟩ := hrow.cell 0 (by decide)
  replace y0 : w3.cell? ⟨g, 0, none⟩ = some (.int .i64 0) := y0
  replace y1 : w3.cell? ⟨g, 1, none⟩ = some (.string ⟨#[]⟩) := y1
  replace y2 : w3.cell? ⟨g, 2, none⟩ = some (.int .i64 0) := y2
  replace y3 : w3.cell? ⟨g, 3, none⟩ = some (.int .i64 0) := y3
  replace y4 : w3.cell? ⟨g, 4, none⟩ = some (.int .i64 1) := y4
  clear h3 b3 hrow hg HB2 HV2
  rw [show [endAt 0 1].length = 1 from rfl]
  go_wp2
  go_loopw [10] (fun i wr => i = .int .i64 0 ∧ wr = w3) (fun _ _ => 0)
  case atStart => exact ⟨rfl, rfl⟩
  case round =>
    obtain ⟨rfl, hw⟩ := hrel
    subst hw
    have HB4 := hide ((unhide HB3).alloc (unhide HB3).size (.cells #[.int .i64 0, .string ⟨#[]⟩, .int .i64 0, .int .i64 0, .int .i64 1] 28))
    go_wp2
    go_ret
    exact ⟨rfl, unhide HB4⟩

end Go.Proofs.YtkbgnbcphmkjkaaDoor

namespace Go.Proofs.YtkbgnbcphmkjkaaDoor
open Go.RowKit

/-- Join, told of a list whose length has a name -/
theorem join_no {w : World} {b off cap L : Nat} {l : List RT} (hr : RRow w b off l) (hf : RFit l) (hL : l.length = L) (hV : Tab w) (hj : jok l = false) :
    Calls Tryd.prog 4 #[.slice (some ⟨b, off, none⟩) L cap] w fun e w' => e = .returned (.tuple #[.string ⟨#[]⟩, .int .i64 1]) ∧ Below w.heap.size w w' := by
  subst hL
  refine (lexjoin_any lexwrite_ok hr hf hV).mono ?_
  rintro e w' ⟨rfl, h⟩
  exact ⟨by unfold jEnd; rw [hj]; rfl, h⟩
theorem join_yes {w : World} {b off cap L : Nat} {l : List RT} {S : ByteArray} (hr : RRow w b off l) (hf : RFit l) (hL : l.length = L) (hV : Tab w) (hj : jok l = true) (hS : (⟨(jtx l).toArray⟩ : ByteArray) = S) :
    Calls Tryd.prog 4 #[.slice (some ⟨b, off, none⟩) L cap] w fun e w' => e = .returned (.tuple #[.string S, .int .i64 0]) ∧ Below w.heap.size w w' := by
  subst hL hS
  refine (lexjoin_any lexwrite_ok hr hf hV).mono ?_
  rintro e w' ⟨rfl, h⟩
  exact ⟨by unfold jEnd; rw [hj]; rfl, h⟩

/-- Scan, told of a source whose tokens are known -/
theorem scan_is {S : ByteArray} {w : World} {m : List Tok} {M : Nat} (hS : S.size ≤ 281474976710656) (hV : Vars w) (hs : scan S.data.toList = .ok m) (hm : m.length = M) :
    Calls Tryd.prog 5 #[.string S] w fun e w' => ∃ g cap, e = .returned (.tuple #[.slice (some ⟨g, 0, none⟩) M cap, .nilIface]) ∧ w.heap.size ≤ g ∧ RowAt w' g m ∧ Below w.heap.size w w' := by
  subst hm
  refine (lexscan_any S w hS hV).mono ?_
  intro e w' h
  exact lex_is h hs

set_option maxRecDepth 100000 in
set_option maxHeartbeats 4000000 in
theorem lback_no {w : World} {b off cap L : Nat} {l : List RT} (hr : RRow w b off l) (hf : RFit l) (hL : l.length = L) (hV : Vars w) (hj : jok l = false) :
    Calls Tryd.prog 3 #[.slice (some ⟨b, off, none⟩) L cap] w fun e w' => e = .returned (.bool true) ∧ Below w.heap.size w w' := by
  have HV := hide hV
  have HJ := hide (join_no (cap := cap) hr hf hL hV.toTab hj)
  clear hV hr hf hL hj
  go_enter Tryd.func3, Tryd.ntmps3
  go_wp2_with fail
  refine (unhide HJ).mono ?_
  rintro e w1 ⟨rfl, b1⟩
  have HB1 := hide b1
  have HV1 := hide ((unhide HV).below b1)
  clear b1
  go_wp2_with fail
  refine (join17 w1 (unhide HV1).toTab).mono ?_
  rintro e w2 ⟨rfl, b2⟩
  have HB2 := hide ((unhide HB1).trans (b2.mono (unhide HB1).size))
  have HV2 := hide ((unhide HV1).below b2)
  clear b2 HB1 HV1
  go_wp2
  go_ret
  exact ⟨rfl, unhide HB2⟩

set_option maxRecDepth 100000 in
set_option maxHeartbeats 4000000 in
theorem lback_long {w : World} {b off cap L : Nat} {l : List RT} (hr : RRow w b off l) (hf : RFit l) (hL : l.length = L) (hV : Vars w) (hj : jok l = true) (hs : ¬ (jtx l).length ≤ 20000) :
    Calls Tryd.prog 3 #[.slice (some ⟨b, off, none⟩) L cap] w fun e w' => e = .returned (.bool true) ∧ Below w.heap.size w w' := by
  have HV := hide hV
  obtain ⟨S, hS⟩ : ∃ S, (⟨(jtx l).toArray⟩ : ByteArray) = S := ⟨_, rfl⟩
  have hz : S.size = (jtx l).length := by rw [← hS, arr_size]
  have q : decide (20000 < (S.size : Int)) = true := decide_eq_true (by omega)
  have HJ := hide (join_yes (cap := cap) hr hf hL hV.toTab hj hS)
  clear hV hr hf hL hj hS hz hs
  go_enter Tryd.func3, Tryd.ntmps3
  go_wp2_with fail
  refine (unhide HJ).mono ?_
  rintro e w1 ⟨rfl, b1⟩
  have HB1 := hide b1
  have HV1 := hide ((unhide HV).below b1)
  clear b1
  go_wp2_with fail
  refine (join17 w1 (unhide HV1).toTab).mono ?_
  rintro e w2 ⟨rfl, b2⟩
  have HB2 := hide ((unhide HB1).trans (b2.mono (unhide HB1).size))
  have HV2 := hide ((unhide HV1).below b2)
  clear b2 HB1 HV1
  go_wp2
  go_ret
  exact ⟨rfl, unhide HB2⟩

/-- a cell of a told token, by what the token is -/
theorem RowAt.tell {w : World} {g i : Nat} {m : List Tok} {k n : Int} {t : ByteArray} (h : RowAt w g m) (hi : i < m.length) (hk : m[i].k = k) (ht : (⟨m[i].t.toArray⟩ : ByteArray) = t) (hn : m[i].n = n) :
    w.cell? ⟨g, i * 5, none⟩ = some (.int .i64 k) ∧ w.cell? ⟨g, i * 5 + 1, none⟩ = some (.string t) ∧ w.cell? ⟨g, i * 5 + 2, none⟩ = some (.int .i64 n) ∧ w.cell? ⟨g, i * 5 + 3, none⟩ = some (.int .i64 (m[i].at_ : Int)) ∧ w.cell? ⟨g, i * 5 + 4, none⟩ = some (.int .i64 (m[i].line : Int)) := by
  subst hk ht hn
  exact h.cell i hi

set_option maxRecDepth 100000 in
set_option maxHeartbeats 8000000 in
theorem lback_one {w : World} {b off cap : Nat} {l : List RT} (hr : RRow w b off l) (hf : RFit l) (hL : l.length = 1) (hV : Vars w) (hj : jok l = true) (hk : ∀ (h : 0 < l.length), l[0].k = 0) (hx : jtx l = []) :
    Calls Tryd.prog 3 #[.slice (some ⟨b, off, none⟩) 1 cap] w fun e w' => e = .returned (.bool true) ∧ Below w.heap.size w w' := by
  have HV := hide hV
  have HJ := hide (join_yes (cap := cap) (S := ⟨#[]⟩) hr hf hL hV.toTab hj (by rw [hx]))
  have HR := hide hr
  have HL := hide hL
  have HK := hide hk
  clear hV hr hf hL hj hk hx
  go_enter Tryd.func3, Tryd.ntmps3
  go_wp2_with fail
  refine (unhide HJ).mono ?_
  rintro e w1 ⟨rfl, b1⟩
  have HB1 := hide b1
  have HV1 := hide ((unhide HV).below b1)
  clear b1
  go_wp2_with fail
  refine (join17 w1 (unhide HV1).toTab).mono ?_
  rintro e w2 ⟨rfl, b2⟩
  have HB2 := hide ((unhide HB1).trans (b2.mono (unhide HB1).size))
  have HV2 := hide ((unhide HV1).below b2)
  clear b2 HB1 HV1
  go_wp2_with fail
  refine (lexscan_any ⟨#[]⟩ _ (by decide) (unhide HV2)).mono ?_
  intro e w3 h3
  obtain ⟨g, cp, rfl, hg, hrow, b3⟩ := lex_is h3 scan_nil
  have HB3 := hide ((unhide HB2).trans (b3.mono (unhide HB2).size))
  have z0 := (((unhide HR).below (unhide HB3)).cell 0 (by rw [unhide HL]; omega)).1
  rw [unhide HK (by rw [unhide HL]; omega)] at z0
  replace z0 : w3.cell? ⟨b, off, none⟩ = some (.int .i64 0) := z0
  obtain ⟨y0, y1, y2, y3, y4⟩ := hrow.cell 0 (by decide)
  replace y0 : w3.cell? ⟨g, 0, none⟩ = some (.int .i64 0) := y0
  replace y1 : w3.cell? ⟨g, 1, none⟩ = some (.string ⟨#[]⟩) := y1
  replace y2 : w3.cell? ⟨g, 2, none⟩ = some (.int .i64 0) := y2
  replace y3 : w3.cell? ⟨g, 3, none⟩ = some (.int .i64 0) := y3
  replace y4 : w3.cell? ⟨g, 4, none⟩ = some (.int .i64 1) := y4
  clear h3 b3 hrow hg HB2 HV2
  rw [show [endAt 0 1].length = 1 from rfl]
  go_wp2
  go_loopw [10] (fun i wr => i = .int .i64 0 ∧ wr = w3) (fun _ _ => 0)
  case atStart => exact ⟨rfl, rfl⟩
  case round =>
    obtain ⟨rfl, hw⟩ := hrel
    subst hw
    have HB4 := hide ((unhide HB3).alloc (unhide HB3).size (.cells #[.int .i64 0, .string ⟨#[]⟩, .int .i64 0, .int .i64 0, .int .i64 1] 28))
    go_wp2
    go_ret
    exact ⟨rfl, unhide HB4⟩

end Go.Proofs.YtkbgnbcphmkjkaaDoor
