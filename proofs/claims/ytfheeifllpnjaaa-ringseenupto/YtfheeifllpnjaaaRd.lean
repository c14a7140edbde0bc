/- Layer 12: the landed ring of ints, each call in one word; the laws' head. -/
import Derived.Test.YtfheeifllpnjaaaRc
namespace Go.Proofs.Ytfheeifllpnjaaa
open Go.RowKit

def PRI (w : World) (B : Nat) (F : Nat → Prop) (p : Nat) (xs : List Int) (n : Nat) : Prop := ∃ g f pl, RgI w B F p xs n g f pl
def putE {α : Type} (xs : List α) (n : Nat) : Int := if xs.length < n then 0 else 121
def putL {α : Type} (xs : List α) (n : Nat) (x : α) : List α := if xs.length < n then xs ++ [x] else xs
def tkE {α : Type} (xs : List α) : Int := if xs.isEmpty then 122 else 0
def atB {α : Type} (xs : List α) (i : Int) : Bool := decide (0 ≤ i) && decide (i < (xs.length : Int))
def atX (xs : List Int) (i : Int) : Int := if atB xs i then xs[i.toNat]?.getD 0 else 0
def atE {α : Type} (xs : List α) (i : Int) : Int := if atB xs i then 0 else 1

section
variable {w w' : World} {B : Nat} {F : Nat → Prop} {p : Nat} {xs : List Int} {n : Nat}

theorem PRI.ch {Q : Nat → Prop} (h : PRI w B F p xs n) (hc : Ch Q w w') (hq : ∀ x, F x → ¬ Q x) : PRI w' B F p xs n := by
  obtain ⟨g, f, pl, h⟩ := h
  exact ⟨g, f, pl, h.ch hc hq⟩
theorem PRI.below (h : PRI w B F p xs n) (hb : Below w.heap.size w w') : PRI w' B F p xs n := h.ch (Ch.of_below (Q := fun _ => False) hb) (fun _ _ h => h)
theorem PRI.foot (h : PRI w B F p xs n) (x : Nat) (hx : F x) : B ≤ x ∧ x < w.heap.size := by
  obtain ⟨g, f, pl, h⟩ := h
  rcases (h.foot x).1 hx with rfl | rfl
  · exact ⟨h.lo, h.lt_p⟩
  · exact ⟨h.lg, h.lt_g⟩
theorem PRI.len (h : PRI w B F p xs n) : xs.length ≤ n ∧ n ≤ 100 := by
  obtain ⟨g, f, pl, h⟩ := h
  exact ⟨h.lies.cnt, h.n1⟩
theorem pr_new (w : World) (m : Int) (n : Nat) (hm : m = n) (h2 : n ≤ 100) : Calls Try.prog 8 #[.int .i64 m] w fun e w' => ∃ p F, e = .returned (.tuple #[.pointer (some ⟨p, 0, none⟩), .int .i64 0]) ∧ PRI w' w.heap.size F p [] n ∧ Below w.heap.size w w' := by
  refine (new_isI w m n hm h2).mono ?_
  rintro e w' ⟨p, g, F, rfl, h, hb⟩
  exact ⟨p, F, rfl, ⟨_, _, _, h⟩, hb⟩
theorem pr_put (h : PRI w B F p xs n) (x : Int) : Calls Try.prog 9 #[.pointer (some ⟨p, 0, none⟩), .int .i64 x] w fun e w' => e = .returned (.int .i64 (putE xs n)) ∧ PRI w' B F p (putL xs n x) n ∧ Ch F w w' := by
  obtain ⟨g, f, pl, h⟩ := h
  unfold putE putL
  by_cases hn : xs.length < n
  · rw [if_pos hn, if_pos hn]
    exact (put_okI h x hn).mono fun e w' ⟨e1, e2, e3⟩ => ⟨e1, ⟨_, _, _, e2⟩, e3⟩
  · rw [if_neg hn, if_neg hn]
    have := h.lies.cnt
    exact (put_fullI h x (by omega)).mono fun e w' ⟨e1, e2⟩ => ⟨e1, ⟨_, _, _, h.below e2⟩, Ch.of_below e2⟩
theorem pr_take (h : PRI w B F p xs n) : Calls Try.prog 11 #[.pointer (some ⟨p, 0, none⟩)] w fun e w' => e = .returned (.tuple #[.int .i64 (xs.headD 0), .int .i64 (tkE xs)]) ∧ PRI w' B F p xs.tail n ∧ Ch F w w' := by
  obtain ⟨g, f, pl, h⟩ := h
  cases xs with
  | nil => exact (take_noI h).mono fun e w' ⟨e1, e2⟩ => ⟨e1, ⟨_, _, _, h.below e2⟩, Ch.of_below e2⟩
  | cons x xs => exact (take_okI h).mono fun e w' ⟨e1, e2, e3⟩ => ⟨e1, ⟨_, _, _, e2⟩, e3⟩
theorem pr_at (h : PRI w B F p xs n) (i : Int) : Calls Try.prog 13 #[.pointer (some ⟨p, 0, none⟩), .int .i64 i] w fun e w' => e = .returned (.tuple #[.int .i64 (atX xs i), .int .i64 (atE xs i)]) ∧ Below w.heap.size w w' := by
  obtain ⟨g, f, pl, h⟩ := h
  unfold atX atE
  cases hb : atB xs i with
  | false =>
    refine at_noI h i ?_
    unfold atB at hb
    simp only [Bool.and_eq_false_iff, decide_eq_false_iff_not] at hb
    omega
  | true =>
    unfold atB at hb
    simp only [Bool.and_eq_true, decide_eq_true_eq] at hb
    have hm : i.toNat < xs.length := by omega
    refine at_okI h i i.toNat (by omega) hm _ ?_
    rw [if_pos rfl, List.getElem?_eq_getElem hm]
    rfl
theorem pr_len (h : PRI w B F p xs n) : Calls Try.prog 16 #[.pointer (some ⟨p, 0, none⟩)] w fun e w' => e = .returned (.int .i64 (xs.length : Int)) ∧ w' = w := by
  obtain ⟨g, f, pl, h⟩ := h
  exact len_isI h
theorem pr_cap (h : PRI w B F p xs n) : Calls Try.prog 18 #[.pointer (some ⟨p, 0, none⟩)] w fun e w' => e = .returned (.int .i64 (n : Int)) ∧ w' = w := by
  obtain ⟨g, f, pl, h⟩ := h
  exact cap_isI h
theorem PRI.out (h : PRI w B F p xs n) {w0 : World} (hb : Below B w0 w) (hc : Ch F w w') (hB : B ≤ w.heap.size) : Below B w0 w' :=
  hb.trans (hc.below hB (fun b hb hF => by have := (h.foot b hF).1; omega))

end

set_option maxRecDepth 100000 in
set_option maxHeartbeats 4000000 in
theorem awake_is (w : World) : Calls Try.prog 7 #[] w fun e w' => e = .returned (.bool true) ∧ Below w.heap.size w w' := by
  go_enter Try.func7, Try.ntmps7
  go_wp2_with fail
  refine (pr_new w 2 2 rfl (by decide)).mono ?_
  rintro e w1 ⟨p, F, rfl, h1, b1⟩
  have H1 := hide h1
  have B1 := hide b1
  clear h1 b1
  go_wp2_with fail
  refine (pr_put H1.out 1).mono ?_
  rintro e w2 ⟨rfl, h2, c2⟩
  have B2 := hide (H1.out.out B1.out c2 B1.out.size)
  have H2 := hide (show PRI w2 w.heap.size F p [1] 2 from h2)
  rw [show putE ([] : List Int) 2 = 0 from rfl]
  clear h2 c2 H1 B1
  go_wp2_with fail
  refine (pr_put H2.out 2).mono ?_
  rintro e w3 ⟨rfl, h3, c3⟩
  have B3 := hide (H2.out.out B2.out c3 B2.out.size)
  have H3 := hide (show PRI w3 w.heap.size F p [1, 2] 2 from h3)
  rw [show putE ([1] : List Int) 2 = 0 from rfl]
  clear h3 c3 H2 B2
  go_wp2_with fail
  refine (pr_put H3.out 3).mono ?_
  rintro e w4 ⟨rfl, h4, c4⟩
  have B4 := hide (H3.out.out B3.out c4 B3.out.size)
  have H4 := hide (show PRI w4 w.heap.size F p [1, 2] 2 from h4)
  rw [show putE ([1, 2] : List Int) 2 = 121 from rfl]
  clear h4 c4 H3 B3
  go_wp2_with fail
  refine (pr_take H4.out).mono ?_
  rintro e w5 ⟨rfl, h5, c5⟩
  have B5 := hide (H4.out.out B4.out c5 B4.out.size)
  have H5 := hide (show PRI w5 w.heap.size F p [2] 2 from h5)
  rw [show ([1, 2] : List Int).headD 0 = 1 from rfl, show tkE ([1, 2] : List Int) = 0 from rfl]
  clear h5 c5 H4 B4
  go_wp2_with fail
  refine (pr_put H5.out 4).mono ?_
  rintro e w6 ⟨rfl, h6, c6⟩
  have B6 := hide (H5.out.out B5.out c6 B5.out.size)
  have H6 := hide (show PRI w6 w.heap.size F p [2, 4] 2 from h6)
  rw [show putE ([2] : List Int) 2 = 0 from rfl]
  clear h6 c6 H5 B5
  go_wp2_with fail
  refine (pr_at H6.out 1).mono ?_
  rintro e w7 ⟨rfl, b7⟩
  have H7 := hide (H6.out.below b7)
  have B7 := hide (B6.out.trans (b7.mono B6.out.size))
  rw [show atX ([2, 4] : List Int) 1 = 4 from rfl, show atE ([2, 4] : List Int) 1 = 0 from rfl]
  clear b7 H6 B6
  go_wp2_with fail
  refine (pr_len H7.out).mono ?_
  rintro e w7 ⟨rfl, rfl⟩
  rw [show (([2, 4] : List Int).length : Int) = 2 from rfl]
  go_wp2_with fail
  go_ret
  exact ⟨rfl, B7.out⟩

end Go.Proofs.Ytfheeifllpnjaaa
