/- Layer 11: the document's Put in one word. -/
import Derived.Test.YthnnpipekeanoaaWq
namespace Go.Proofs.Ythnnpipekeanoaa
open Go.RowKit

variable {w : World} {B b : Nat} {av ov : Value} {l : List Wt}

/-- a Put's error -/
def ecW (l : List Wt) (ws wg rd ar : Int) : Int := if ws = 0 ∧ wg = 0 then 111 else if rd < 1 ∨ 4 < rd then 112 else if twW l ws wg ar then 113 else 0
/-- a Put's handle -/
def psW (l : List Wt) (ws wg rd ar : Int) : Int := if ecW l ws wg rd ar = 0 then (slW l : Int) else 0
def pgW (l : List Wt) (ws wg rd ar : Int) : Int := if ecW l ws wg rd ar = 0 then (genW l (slW l : Int) : Int) + 1 else 0
/-- the waits behind a Put -/
def putW (l : List Wt) (rs rg rd ws wg ar vn vs vg : Int) : List Wt := if ecW l ws wg rd ar = 0 then l ++ [⟨⟨slW l, (genW l (slW l : Int) : Int) + 1, ws, wg, rs, rg, rd, ar, vn, vs, vg⟩, false⟩] else l

theorem putW_len (l : List Wt) (rs rg rd ws wg ar vn vs vg : Int) : (putW l rs rg rd ws wg ar vn vs vg).length ≤ l.length + 1 := by
  unfold putW
  split <;> simp

theorem FitW.put (h : FitW l) (hl : l.length ≤ 100000) (rs rg rd ws wg ar vn vs vg : Int) : FitW (putW l rs rg rd ws wg ar vn vs vg) := by
  unfold putW
  split
  · intro t ht
    rcases List.mem_append.1 ht with ht | ht
    · exact h t ht
    · have := slW_le l
      rw [List.mem_singleton.1 ht]
      exact ⟨Int.natCast_nonneg _, by show (slW l : Int) ≤ _; omega⟩
  · exact h

set_option maxRecDepth 100000 in
set_option maxHeartbeats 8000000 in
theorem rputW (h : DB w B b av ov l) (hl : l.length ≤ 100000) (hf : FitW l) (hB : B ≤ w.heap.size) (rs rg rd ws wg ar vn vs vg : Int) :
    Calls Try.prog 23 #[.pointer (some ⟨b, 0, none⟩), rvW rs rg rd, hvW ws wg, .int .i64 ar, .agg #[.int .i64 vn, .int .u32 vs, .int .u32 vg]] w fun e w' => e = .returned (.tuple #[hvW (psW l ws wg rd ar) (pgW l ws wg rd ar), .int .i64 (ecW l ws wg rd ar)]) ∧
      ∃ av' ov', DB w' B b av' ov' (putW l rs rg rd ws wg ar vn vs vg) ∧ Ch (fun y => y = b ∨ av.ownBlock = some y ∨ ov.ownBlock = some y) w w' ∧ (∀ x, av'.ownBlock = some x → av.ownBlock = some x ∨ w.heap.size ≤ x) ∧ (∀ x, ov'.ownBlock = some x → ov.ownBlock = some x ∨ w.heap.size ≤ x) := by
  by_cases hw : ws = 0 ∧ wg = 0
  · refine (rput_who (b := b) (w := w) rs rg rd ar vn vs vg hw.1 hw.2).mono fun e w' he => ?_
    have e1 : ecW l ws wg rd ar = 111 := by simp [ecW, hw]
    exact ⟨by rw [he.1]; simp [psW, pgW, e1], av, ov, by simp only [putW, e1]; exact h.below he.2, Ch.of_below he.2, fun _ hx => Or.inl hx, fun _ hx => Or.inl hx⟩
  by_cases hr : rd < 1 ∨ 4 < rd
  · refine (rput_row (b := b) (w := w) rs rg ar vn vs vg hw hr).mono fun e w' he => ?_
    have e1 : ecW l ws wg rd ar = 112 := by simp [ecW, hw, hr]
    exact ⟨by rw [he.1]; simp [psW, pgW, e1], av, ov, by simp only [putW, e1]; exact h.below he.2, Ch.of_below he.2, fun _ hx => Or.inl hx, fun _ hx => Or.inl hx⟩
  go_enter Try.func23, Try.ntmps23
  refine (rput_head (REST := rest4 (Try.f23.body.getD .skip)) h hl rs rg ar vn vs vg hw (show 1 ≤ rd ∧ rd ≤ 4 by omega) ?_ ?_ : (tail4 (Try.f23.body.getD .skip) (rest4 (Try.f23.body.getD .skip))).wp _ _ _ _)
  · intro ht tm W' h10 h11 c0 c1 hb
    have e1 : ecW l ws wg rd ar = 113 := by simp [ecW, hw, hr, ht]
    exact bodyPost_ret (v := .tuple #[hvW 0 0, .int .i64 113]) (resPutW _ (w.heap.size + 3) _ 0 0 113 h10 h11 c0 c1) rfl ⟨by simp [psW, pgW, e1], av, ov, by simp only [putW, e1]; exact h.below hb, Ch.of_below hb, fun _ hx => Or.inl hx, fun _ hx => Or.inl hx⟩
  intro ht w1 hp
  intros
  rename_i W1 hc1
  have e1 : ecW l ws wg rd ar = 0 := by simp [ecW, hw, hr, ht]
  have cW : Ch (fun _ => False) w W1 := hp.c1.trans hc1 (fun _ _ h => h)
  have hs := hc1.size
  have hs1 := hp.s1
  have hW := h.ch cW (fun h => h) (fun _ _ h => h) (fun _ _ h => h)
  have k1 := slW_le l
  have k2 := genW_le l (slW l : Int)
  refine (rput_slot (REST := rest5 (rest4 (Try.f23.body.getD .skip))) hW hl hf ?_ : (tail5 (rest4 (Try.f23.body.getD .skip)) (rest5 (rest4 (Try.f23.body.getD .skip)))).wp _ _ _ _)
  intros
  refine rput_tail hW hl (by omega) (by omega) (by omega) (hc1.box hp.n0 (fun h => h)) (hc1.box hp.n1 (fun h => h)) (hc1.box hp.n2 (fun h => h)) (hc1.box hp.n3 (fun h => h)) ?_
  intro tm W' av' ov' h10 h11 c0 c1 hd hc ha ho
  refine bodyPost_ret (v := .tuple #[hvW (slW l) ((genW l (slW l : Int) : Int) + 1), .int .i64 0]) (resPutW _ (w.heap.size + 3) _ _ _ 0 h10 h11 c0 c1) rfl ⟨by simp [psW, pgW, e1], av', ov', by simp only [putW, e1]; exact hd, ?_, fun x hx => (ha x hx).imp id (fun e => by omega), fun x hx => (ho x hx).imp id (fun e => by omega)⟩
  refine ((cW.mono (fun _ _ h => h.elim)).trans hc (fun x hx e => ?_))
  rcases e with e | e | e | e
  · exact Or.inl e
  · exact Or.inr (Or.inl e)
  · exact Or.inr (Or.inr e)
  · omega

end Go.Proofs.Ythnnpipekeanoaa
