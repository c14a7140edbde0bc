/- Layer 13: the law's refs is what the heap asks. -/
import Derived.Test.YtcogiklnegpfiaaWb
import Derived.Test.YtcogiklnegpfiaaWd
namespace Go.Proofs.Ytcogiklnegpfiaa
open Go.RowKit Go.Shelf

theorem HLo.weak {W : World} {O O' : Nat → Prop} {v : Value} {hs : List Hd} (h : HLo W O v hs) (hO : ∀ y, O y → O' y) : HLo W O' v hs := by
  obtain ⟨a, c, e, hl, h⟩ := h
  refine ⟨a, c, e, hl, fun h0 => ?_⟩
  obtain ⟨b, o, e, ho, h⟩ := h h0
  exact ⟨b, o, e, hO b ho, h⟩

theorem refs_teller {bw N : Nat} {pa pb vT vl vw : Value} {L : List Lk} {A0 : List Hd} (hL : L.length ≤ 400) (hus : ∀ k ∈ L, Us k.ts) (hA0 : A0.length ≤ 1000000) :
    Teller (.func (.func 31) #[.pointer (some ⟨bw, 0, none⟩)] #[]) (fun A w O => JL bw N pa pb vT vl vw L A0 A w O) (tlL L) where
  told := fun A w O s g hA _ hJ => by
    obtain ⟨vL, vA, vE, le, hW, hO, hle⟩ := hJ.ex
    have c1 : Ch (fun _ => False) w (w.alloc (.cells #[.int .u32 s, .int .u32 g] 43)) := Ch.alloc _ _
    refine (told_fun (R := fun v w' => ∃ O', HLo w' O' v (tlL L (s, g)) ∧ JL bw N pa pb vT vl vw L A0 (A ++ [(s, g)]) w' O' ∧ Ch O w w' ∧ ∀ y, O' y → O y ∨ w.heap.size ≤ y) ((refs_is (hW.ch0 c1) (Nat.le_trans hJ.low c1.size) hL hle (by rw [List.length_append]; omega) s g).mono ?_)).mono ?_
    · rintro e w' ⟨v, vA', vE', le', rfl, hJ', hl', hc', ha', ⟨y, hy1, hy2⟩, hle'⟩
      have hz : w.heap.size ≤ (w.alloc (.cells #[.int .u32 s, .int .u32 g] 43)).heap.size := c1.size
      refine ⟨v, rfl, JO bw vL vA' vE', hl'.weak (fun y hy => .inr (.inr (.inr hy))), ⟨⟨vL, vA', vE', le', by rw [← List.append_assoc]; exact hJ', fun _ => Iff.rfl, hle'⟩, Nat.le_trans hJ.low (Nat.le_trans hz hc'.size)⟩, (c1.mono (Q' := O) (fun _ _ h => h.elim)).trans hc' (fun x _ hx => (hO x).2 hx), fun x hx => ?_⟩
      rcases hx with e | e | e | e
      · exact .inl ((hO x).2 (.inl e))
      · exact .inl ((hO x).2 (.inr (.inl e)))
      · rcases ha' with h1 | ⟨z, h1, h2⟩
        · exact .inl ((hO x).2 (.inr (.inr (.inl (by rw [← h1]; exact e)))))
        · rw [h2] at e
          injection e with e
          exact .inr (by omega)
      · rw [hy2] at e
        injection e with e
        exact .inr (by omega)
    · rintro e w' ⟨v, rfl, O', h1, h2, h3, h4⟩
      exact ⟨v, O', rfl, h1, h2, h3, h4⟩
  keep := fun A w O w' Q h hc hq => h.keep hc hq
  low := fun A w O h => h.ltO
  us := fun x y hy => by
    unfold tlL at hy
    obtain ⟨k, hk, rfl⟩ := List.mem_map.1 hy
    exact hus k (List.mem_filter.1 hk).1

end Go.Proofs.Ytcogiklnegpfiaa
