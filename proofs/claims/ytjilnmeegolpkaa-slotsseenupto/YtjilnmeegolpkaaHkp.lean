/- Layer 10: the landed table of pairs keeps what SlotsSeen asks of it. -/
import Derived.Test.YtjilnmeegolpkaaHjp
namespace Go.Proofs.Ytjilnmeegolpkaa
open Go.RowKit Go.Shelf

def PTP (w : World) (B : Nat) (F : Nat → Prop) (p : Nat) (l : List (ThG Pa)) (M : Nat) : Prop := ∃ g, TbP w B F p l M g
def SqP (w : World) (B : Nat) (G : Nat → Prop) (gf : Nat) (lb : Array Value) (p : Nat) : Prop := gf = 42 ∧ ∃ bx, lb = #[.pointer (some ⟨bx, 0, none⟩)] ∧ w.heap[bx]? = some (.cells #[.pointer (some ⟨p, 0, none⟩)] 58 (0, 0)) ∧ B ≤ bx ∧ ∀ x, G x ↔ x = bx

theorem faceP : FaceP PTP SqP where
  ch := fun ⟨g, h⟩ hc hq => ⟨g, h.ch hc hq⟩
  foot := by
    rintro w B F p l M ⟨g, h⟩ x hx
    rcases (h.foot x).1 hx with rfl | rfl
    · exact ⟨h.low, _, _, _, h.box⟩
    · obtain ⟨h1, _, cur, h2⟩ := h.own
      exact ⟨h1, _, _, _, h2⟩
  sch := by
    rintro Q w w' B G gf lb p ⟨rfl, bx, rfl, h1, h2, h3⟩ hc hq
    exact ⟨rfl, bx, rfl, hc.box h1 (hq _ ((h3 _).2 rfl)), h2, h3⟩
  sfoot := by
    rintro w B G gf lb p ⟨rfl, bx, rfl, h1, h2, h3⟩ x hx
    rw [(h3 x).1 hx]
    exact ⟨h2, _, _, _, h1⟩
  enters := by
    rintro w B G gf lb p ⟨rfl, -⟩
    exact enters_of Try.func42 (by kernel_rfl) rfl
  all := by
    rintro w B F p l M ⟨g, h⟩
    refine (all_isP w (.pointer (some ⟨p, 0, none⟩)) rfl).mono ?_
    rintro e w' ⟨rfl, rfl⟩
    exact ⟨_, _, fun x => x = w.heap.size, rfl, ⟨rfl, w.heap.size, rfl, heap_new _ _, Nat.le_refl _, fun _ => Iff.rfl⟩, below1 _ _⟩
  stops := by
    rintro w B F p l M B' G gf lb n hn ⟨g, h⟩ ⟨rfl, bx, rfl, h1, -, -⟩
    have := stopsP n hn h1 (ks := toldF l 0) fun W hW => living_isP (h.ch hW (fun _ _ h => h))
    rw [told_map h.wf (fun s g x => #[hv s g, paV x])] at this
    exact this
  new := by
    intro w m M hm h1 h2
    refine (new_isP w m M hm h1 h2).mono ?_
    rintro e w' ⟨p, g, F, he, h, hb⟩
    exact ⟨p, F, he, ⟨g, h⟩, hb⟩
  take := by
    rintro w B F p l M x ⟨g, h⟩ hl
    refine (take_isP h x hl).mono ?_
    rintro e w' ⟨he, h', hc⟩
    exact ⟨F, he, ⟨g, h'⟩, hc, fun y hy => Or.inl hy⟩
  free := by
    rintro w B F p l M s G hu ⟨g, h⟩
    refine (free_isP h hu).mono ?_
    rintro e w' ⟨he, h', hc⟩
    exact ⟨F, he, ⟨g, h'⟩, hc, fun y hy => Or.inl hy⟩
  set := by
    rintro w B F p l M s G x hu ⟨g, h⟩
    refine (set_isP h hu x).mono ?_
    rintro e w' ⟨he, h', hc⟩
    exact ⟨F, he, ⟨g, h'⟩, hc, fun y hy => Or.inl hy⟩
  get := fun _ _ hu ⟨_, h⟩ => get_isP h hu
  count := fun ⟨_, h⟩ => count_isP h

end Go.Proofs.Ytjilnmeegolpkaa
