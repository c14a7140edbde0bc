/- Layer 11: the landed book keeps what the laws ask of it. -/
import Derived.Test.YtoabhmpakcgloaaHzb
import Derived.Test.YtoabhmpakcgloaaHv
namespace Go.Proofs.Ytoabhmpakcgloaa
open Go.RowKit

theorem new_is (w : World) : Calls Try.prog 7 #[] w fun e w' => ∃ p F, e = .returned (.pointer (some ⟨p, 0, none⟩)) ∧ PTb w' w.heap.size F p [] ∧ Below w.heap.size w w' := by
  have hmm : ∀ (t : TypeId) (w : World), (Instr.makeMap t none).run Try.prog w = .ok (.map (some w.heap.size)) (w.alloc (.map #[] 0)) := fun _ _ => rfl
  go_enter Try.func7, Try.ntmps7
  go_wp2_with fail
  go_ret
  have e0 := heap_new w (.map #[] 0)
  have e1 := heap_new (w.alloc (.map #[] 0)) (.map #[] 0)
  have e2 := heap_new ((w.alloc (.map #[] 0)).alloc (.map #[] 0)) (.cells #[.slice none 0 0, .int .u32 0, .map (some w.heap.size), .map (some (w.heap.size + 1))] 78)
  rw [World.size_alloc] at e1 e2
  rw [World.size_alloc] at e2
  have al : ∀ (W : World) (o : Obj) {b : Nat} {x : Obj}, W.heap[b]? = some x → (W.alloc o).heap[b]? = some x := fun W o b x h => (Ch.alloc (Q := fun _ => False) W o).box h (fun h => h)
  have mt : ∀ {κ : Type} [DecidableEq κ] (key : κ → Value) {W : World} {b : Nat}, W.heap[b]? = some (.map #[] 0) → MapF key W b (fun _ => none) 0 := fun key W b h => ⟨[], ⟨#[], 0, h, rfl⟩, by simp, fun _ => rfl, rfl⟩
  refine ⟨_, _, rfl, ⟨.slice none 0 0, w.heap.size, w.heap.size + 1, [], 0, fun _ => none, fun _ => none, 0, ⟨e2, Row.nil _ _, ⟨0, mt lnV (al _ _ (al _ _ e0))⟩, mt clV (al _ _ e1), ⟨by omega, by omega, by omega⟩, by omega⟩, ?_, rfl, Nat.le_refl _⟩, ((below1 _ _).trans ((below1 _ _).mono (by simp))).trans ((below1 _ _).mono (by simp; omega))⟩
  refine ⟨⟨fun _ => rfl, fun _ => trivial, fun _ s hs => (by cases hs), fun _ => List.nodup_nil, fun _ _ _ s hs => (by cases hs)⟩, fun i hi => absurd hi (by simp), fun t ht => (by cases ht), fun i hi => absurd hi (by simp), fun t ht => (by cases ht), List.Pairwise.nil, fun t ht => (by cases ht), fun _ _ => rfl, rfl, fun s h1 h2 => by omega, by omega⟩

theorem face : FaceW PTb where
  ch := by
    rintro Q w w' B F p l ⟨wv, M, C, sl, full, en, cl, n, hb, hi, rfl, hs⟩ hc hq
    exact ⟨wv, M, C, sl, full, en, cl, n, hb.ch hc hq, hi, rfl, hs⟩
  foot := by
    rintro w B F p l ⟨wv, M, C, sl, full, en, cl, n, hb, hi, rfl, hs⟩ y hy
    exact hb.foot y hy
  new := new_is
  put := by
    rintro w B F p l rs rg rd ws wg ar vn vs vg - - - - - - - - - ⟨wv, M, C, sl, full, en, cl, n, hb, hi, rfl, hs⟩ hl hB
    refine (put_b hb hl hs hB hi rs rg rd ws wg ar vn vs vg).mono ?_
    rintro e w' ⟨rfl, wv', sl', full', en', cl', n', b', i', l', c', o'⟩
    refine ⟨bkF p M C wv', rfl, ⟨wv', M, C, sl', full', en', cl', n', b', i', rfl, l'⟩, c', ?_⟩
    rintro y (hy | hy | hy | hy)
    · exact Or.inl (Or.inl hy)
    · exact Or.inl (Or.inr (Or.inl hy))
    · exact Or.inl (Or.inr (Or.inr (Or.inl hy)))
    · exact (o' y hy).imp (fun e => Or.inr (Or.inr (Or.inr e))) id
  leave := by
    rintro w B F p l s g hs hg ⟨wv, M, C, sl, full, en, cl, n, hb, hi, rfl, hs'⟩ hl
    refine (leave_b hb (by omega) hl hi s g).mono ?_
    rintro e w' ⟨rfl, sl', full', en', cl', n', b', i', l', c'⟩
    refine ⟨bkF p M C wv, rfl, ⟨wv, M, C, sl', full', en', cl', n', b', i', rfl, ?_⟩, c', fun y hy => Or.inl hy⟩
    rw [l', leaW_len]
    exact hs'
  first := by
    rintro w B F p l s g d - - - ⟨wv, M, C, sl, full, en, cl, n, hb, hi, rfl, hs'⟩ hl
    exact first_b hb (by omega) hi s g d
  row := fun s g d _ _ _ h hl => row_is h hl s g d
  of := fun s g _ _ h hl => of_is h hl s g
  count := fun h _ => cnt_is h

end Go.Proofs.Ytoabhmpakcgloaa
