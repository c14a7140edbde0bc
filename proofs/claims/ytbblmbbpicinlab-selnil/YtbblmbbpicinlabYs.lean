/- Layer 14: the law's awake: its sends and receives. Layer 14: the law's awake: what each of its calls answers. Layer 14: the law's awake. -/
import Derived.Test.YtbblmbbpicinlabYr
namespace Go.Proofs.Ytbblmbbpicinlab
open Go.RowKit

theorem wp_thenC {P : Program} {c : Code} {K : Act → World → Prop} {Q : Exit → Act → World → Prop} {a : Act} {w : World} (h : c.wp P (Exit.then K (fun _ _ _ => False)) a w) : c.wp P (Exit.then K Q) a w :=
  Code.wp_mono (fun e a w h => by cases e <;> first | exact h | exact (h : False).elim) h

end Go.Proofs.Ytbblmbbpicinlab

namespace Go.Proofs.Ytbblmbbpicinlab
open Go.RowKit

def v7 : Va := ⟨7, 0, 0⟩
def v8 : Va := ⟨8, 0, 0⟩
def l1 : List Wt := putW [] 1 1 1 5 1 0 8 0 0
def r1 : Rc := ⟨1, 1, 5, 1, 1, 1, 1, 0, 8, 0, 0⟩
theorem l1_row : sel (inRow 1 1 1) l1 = [r1] := by rfl
theorem l1_six : sel (isWho 6 1) l1 = [] := by rfl
theorem l1_left : cntW (leaW l1 5 1) = 0 := by rfl
theorem l1_len : l1.length ≤ 100000 := by decide
theorem us_n {n : Int} (h : 0 ≤ n) (h1 : n ≤ 100) : UsW n := ⟨h, by omega⟩

/-- the channel of awake -/
structure Zc (z : Cn) (xs : List Va) : Prop where
  h : z.h = (1, 1)
  n : z.n = 1
  xs : z.xs = xs
  cl : z.cl = false
theorem Zc.put {z : Cn} {xs : List Va} (h : Zc z xs) (v : Va) : Zc (z.put v) (xs ++ [v]) := ⟨h.h, h.n, by show z.xs ++ [v] = _; rw [h.xs], h.cl⟩
theorem Zc.find {z : Cn} {xs : List Va} (h : Zc z xs) : fnc [z] (1, 1) = some z := by
  unfold fnc
  simp [h.h]

section
variable {V : World} {B c bp M : Nat} {F : Nat → Prop} {z : Cn}
theorem aw_send1 (h : CI V B c bp M F [] [z]) (hz : Zc z []) : Calls Try.prog 19 #[.pointer (some ⟨c, 0, none⟩), hkV (5, 1), hkV (1, 1), vaV v7] V fun e w' => ∃ sa, e = .returned (.tuple #[didV 0 zVa false (.slice sa 0 0), .int .i64 0]) ∧ CI w' B c bp M F [] [z.put v7] ∧ Ch z.mine V w' := by
  have hrf : rfE [] [z] (5, 1) (1, 1) = 0 := by
    unfold rfE
    rw [hz.find]
    rfl
  have hin : z ∈ [z] := List.mem_singleton.2 rfl
  refine (send_via h (by simp) (g := (5, 1)) (x := (1, 1)) (v := v7) (us_n (by decide) (by decide)) (us_n (by decide) (by decide)) hrf rfl hz.find (Qs := z.mine) (fun y hy => (h.ch z hin).lt y hy) (R := fun f u ok sa sn sc _ w' => (f = 0 ∧ u = zVa ∧ ok = false ∧ sa = none ∧ sn = 0 ∧ sc = 0) ∧ CI w' B c bp M F [] [z.put v7]) (fun V' cV => ?_)).mono ?_
  · refine (send_put (h.quiet cV) (by simp) (i := 0) (by simp) (x := z) rfl (g := (5, 1)) (v := v7) ⟨by rw [hz.h]; exact us_n (by decide) (by decide), by rw [hz.h]; exact us_n (by decide) (by decide), us_n (by decide) (by decide), us_n (by decide) (by decide), by constructor <;> decide, us_n (by decide) (by decide), us_n (by decide) (by decide)⟩ hz.cl rfl (by rw [hz.xs, hz.n]; decide)).mono ?_
    rintro e w' ⟨rfl, hi, hc⟩
    exact ⟨0, zVa, false, none, 0, 0, rfl, ⟨⟨rfl, rfl, rfl, rfl, rfl, rfl⟩, hi⟩, hc⟩
  · rintro e w' ⟨f, u, ok, sa, sn, sc, V', w6, A, rfl, ⟨⟨rfl, rfl, rfl, rfl, rfl, rfl⟩, hi⟩, cV, hA, hA2, cA, cQ⟩
    have ho := h.olds hA
    exact ⟨none, rfl, hi.away cA ho.1 ho.2.1 (fun x hx => by rw [List.mem_singleton.1 hx]; exact ho.2.2.1 z hin) ho.2.2.2, cQ⟩

theorem aw_send2 (h : CI V B c bp M F [] [z]) (hz : Zc z [v7]) : Calls Try.prog 19 #[.pointer (some ⟨c, 0, none⟩), hkV (5, 1), hkV (1, 1), vaV v8] V fun e w' => ∃ sa, e = .returned (.tuple #[didV 1 zVa false (.slice sa 0 0), .int .i64 0]) ∧ (∃ F', CI w' B c bp M F' l1 [z] ∧ ∀ y, F' y → F y ∨ V.heap.size ≤ y) ∧ Ch F V w' := by
  have hrf : rfE [] [z] (5, 1) (1, 1) = 0 := by
    unfold rfE
    rw [hz.find]
    rfl
  have hin : z ∈ [z] := List.mem_singleton.2 rfl
  refine (send_via h (by simp) (g := (5, 1)) (x := (1, 1)) (v := v8) (us_n (by decide) (by decide)) (us_n (by decide) (by decide)) hrf rfl hz.find (Qs := F) (fun y hy => (face.foot h.bk y hy).2) (R := fun f u ok sa sn sc V' w' => (f = 1 ∧ u = zVa ∧ ok = false ∧ sa = none ∧ sn = 0 ∧ sc = 0) ∧ ∃ F', CI w' B c bp M F' l1 [z] ∧ ∀ y, F' y → F y ∨ V'.heap.size ≤ y) (fun V' cV => ?_)).mono ?_
  · refine (send_park (h.quiet cV) (by simp) (i := 0) (by simp) (x := z) rfl (g := (5, 1)) (v := v8) ⟨by rw [hz.h]; exact us_n (by decide) (by decide), by rw [hz.h]; exact us_n (by decide) (by decide), us_n (by decide) (by decide), us_n (by decide) (by decide), by constructor <;> decide, us_n (by decide) (by decide), us_n (by decide) (by decide)⟩ hz.cl rfl (by rw [hz.xs, hz.n]; rfl)).mono ?_
    rintro e w' ⟨rfl, F', hi, hc, hd⟩
    rw [hz.h] at hi
    exact ⟨1, zVa, false, none, 0, 0, rfl, ⟨⟨rfl, rfl, rfl, rfl, rfl, rfl⟩, F', hi, hd⟩, hc⟩
  · rintro e w' ⟨f, u, ok, sa, sn, sc, V', w6, A, rfl, ⟨⟨rfl, rfl, rfl, rfl, rfl, rfl⟩, F', hi, hd⟩, cV, hA, hA2, cA, cQ⟩
    have ho := h.olds hA
    exact ⟨none, rfl, ⟨F', hi.away cA ho.1 ho.2.1 ho.2.2.1 (fun e => (hd A e).elim ho.2.2.2 (fun e => by omega)), fun y hy => (hd y hy).imp_right fun e => Nat.le_trans cV.size e⟩, cQ⟩

theorem aw_recv (h : CI V B c bp M F l1 [z]) (hz : Zc z [v7]) : Calls Try.prog 14 #[.pointer (some ⟨c, 0, none⟩), hkV (6, 1), hkV (1, 1)] V fun e w' => ∃ sa, e = .returned (.tuple #[didV 0 v7 true (.slice sa 1 1), .int .i64 0]) ∧ (∃ nb F' cs, sa = some ⟨nb, 0, none⟩ ∧ V.heap.size ≤ nb ∧ w'.heap[nb]? = some (.cells (wkF 5 1 0 zVa false 0).toArray 59 (0, 0)) ∧ CI w' B c bp M F' (leaW l1 5 1) cs ∧ ∀ y, F' y → F y ∨ V.heap.size ≤ y) ∧ Ch (fun y => z.mine y ∨ F y) V w' := by
  have hrf : rfE l1 [z] (6, 1) (1, 1) = 0 := by
    unfold rfE
    rw [hz.find, l1_six]
    rfl
  have hin : z ∈ [z] := List.mem_singleton.2 rfl
  refine (recv_via h l1_len (g := (6, 1)) (x := (1, 1)) (us_n (by decide) (by decide)) (us_n (by decide) (by decide)) hrf rfl hz.find (Qs := fun y => z.mine y ∨ F y) (fun y hy => hy.elim (fun hy => (h.ch z hin).lt y hy) (fun hy => (face.foot h.bk y hy).2)) (R := fun f u ok sa sn sc V' w' => (f = 0 ∧ u = v7 ∧ ok = true ∧ sn = 1 ∧ sc = 1) ∧ ∃ nb F', sa = some ⟨nb, 0, none⟩ ∧ V'.heap.size ≤ nb ∧ w'.heap[nb]? = some (.cells (wkF 5 1 0 zVa false 0).toArray 59 (0, 0)) ∧ CI w' B c bp M F' (leaW l1 5 1) [z.take.put (vaR r1)] ∧ ∀ y, F' y → F y ∨ V'.heap.size ≤ y) (fun V' cV => ?_)).mono ?_
  · refine (recv_take1 (h.quiet cV) l1_len (i := 0) (by simp) (x := z) rfl (by rw [hz.h]; exact us_n (by decide) (by decide)) (by rw [hz.h]; exact us_n (by decide) (by decide)) (g := (6, 1)) (v := v7) (rest := []) hz.xs (r := r1) (more := []) (by rw [hz.h]; exact l1_row) (us_n (by decide) (by decide)) (us_n (by decide) (by decide))).mono ?_
    rintro e w' ⟨nb, F', rfl, hnb, hw, hi, hc, hd⟩
    exact ⟨0, v7, true, some ⟨nb, 0, none⟩, 1, 1, rfl, ⟨⟨rfl, rfl, rfl, rfl, rfl⟩, nb, F', rfl, hnb, hw, hi, hd⟩, hc⟩
  · rintro e w' ⟨f, u, ok, sa, sn, sc, V', w6, A, rfl, ⟨⟨rfl, rfl, rfl, rfl, rfl⟩, nb, F', rfl, hnb, hw, hi, hd⟩, cV, hA, hA2, cA, cQ⟩
    have ho := h.olds hA
    exact ⟨some ⟨nb, 0, none⟩, rfl, ⟨nb, F', _, rfl, Nat.le_trans cV.size hnb, cA.box hw (fun e => by omega), hi.away cA ho.1 ho.2.1 (fun x hx => by rw [List.mem_singleton.1 hx]; exact ho.2.2.1 z hin) (fun e => (hd A e).elim ho.2.2.2 (fun e => by omega)), fun y hy => (hd y hy).imp id (fun e => Nat.le_trans cV.size e)⟩, cQ⟩
end

end Go.Proofs.Ytbblmbbpicinlab

namespace Go.Proofs.Ytbblmbbpicinlab
open Go.RowKit

/-- a box of another kind is none of a channel's blocks -/
theorem ChAt.not {w : World} {bp H : Nat} {z : Cn} (h : ChAt w bp z) {cs : Array Value} {T : TypeId} {r : Nat × Nat} (hH : w.heap[H]? = some (.cells cs T r)) (h1 : T ≠ 120) (h2 : T ≠ 135) (h3 : T ≠ 41) : ¬ z.mine H := by
  have ne : ∀ {b : Nat} {cs' : Array Value} {T' : TypeId} {r' : Nat × Nat}, w.heap[b]? = some (.cells cs' T' r') → T ≠ T' → ¬ H = b := fun {b cs' T' r'} hb hT e => by
    rw [e, hb] at hH
    injection hH with hH
    injection hH with _ hT2 _
    exact hT hT2.symm
  rintro (e | e | e)
  · exact ne h.box h1 e
  · exact ne h.ring.box h2 e
  · exact ne h.ring.row h3 e

end Go.Proofs.Ytbblmbbpicinlab
