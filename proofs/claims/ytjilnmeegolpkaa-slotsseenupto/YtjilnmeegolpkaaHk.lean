/- Layer 10: the landed table of ints keeps what the laws ask of it. -/
import Derived.Test.YtjilnmeegolpkaaHj
namespace Go.Proofs.Ytjilnmeegolpkaa
open Go.RowKit Go.Shelf

def PTI (w : World) (B : Nat) (F : Nat → Prop) (p : Nat) (l : List Th) (M : Nat) : Prop := ∃ g, TbI w B F p l M g
def SqI (w : World) (B : Nat) (G : Nat → Prop) (gf : Nat) (lb : Array Value) (p : Nat) : Prop := gf = 45 ∧ ∃ bx, lb = #[.pointer (some ⟨bx, 0, none⟩)] ∧ w.heap[bx]? = some (.cells #[.pointer (some ⟨p, 0, none⟩)] 24 (0, 0)) ∧ B ≤ bx ∧ ∀ x, G x ↔ x = bx

theorem face : Face PTI SqI where
  ch := fun ⟨g, h⟩ hc hq => ⟨g, h.ch hc hq⟩
  foot := by
    rintro w B F p l M ⟨g, h⟩ x hx
    rcases (h.foot x).1 hx with rfl | rfl
    · exact ⟨h.low, h.lt_p⟩
    · exact ⟨h.own.1, h.own.2.1⟩
  sch := by
    rintro Q w w' B G gf lb p ⟨rfl, bx, rfl, h1, h2, h3⟩ hc hq
    exact ⟨rfl, bx, rfl, hc.box h1 (hq _ ((h3 _).2 rfl)), h2, h3⟩
  sfoot := by
    rintro w B G gf lb p ⟨rfl, bx, rfl, h1, h2, h3⟩ x hx
    rw [(h3 x).1 hx]
    exact ⟨h2, (Array.getElem?_eq_some_iff.1 h1).1⟩
  enters := by
    rintro w B G gf lb p ⟨rfl, -⟩
    exact enters_of Try.func45 (by kernel_rfl) rfl
  all := by
    rintro w B F p l M ⟨g, h⟩
    refine (all_isI w (.pointer (some ⟨p, 0, none⟩)) rfl).mono ?_
    rintro e w' ⟨rfl, rfl⟩
    exact ⟨_, _, fun x => x = w.heap.size, rfl, ⟨rfl, w.heap.size, rfl, heap_new _ _, Nat.le_refl _, fun _ => Iff.rfl⟩, below1 _ _⟩
  stops := by
    rintro w B F p l M B' G gf lb n hn ⟨g, h⟩ ⟨rfl, bx, rfl, h1, -, -⟩
    have := stopsI n hn h1 (ks := toldF l 0) fun W hW => living_isI (h.ch hW (fun _ _ h => h))
    rw [told_map h.wf (fun s g x => #[hv s g, .int .i64 x])] at this
    exact this
  new := by
    intro w m M hm h1 h2
    refine (new_isI w m M hm h1 h2).mono ?_
    rintro e w' ⟨p, g, F, he, h, hb⟩
    exact ⟨p, F, he, ⟨g, h⟩, hb⟩
  newNo := fun w m hm => new_noI w m hm
  take := by
    rintro w B F p l M x ⟨g, h⟩ hl
    refine (take_isI h x hl).mono ?_
    rintro e w' ⟨he, h', hc⟩
    exact ⟨F, he, ⟨g, h'⟩, hc, fun y hy => Or.inl hy⟩
  free := by
    rintro w B F p l M s G hu ⟨g, h⟩
    refine (free_isI h hu).mono ?_
    rintro e w' ⟨he, h', hc⟩
    exact ⟨F, he, ⟨g, h'⟩, hc, fun y hy => Or.inl hy⟩
  set := by
    rintro w B F p l M s G x hu ⟨g, h⟩
    refine (set_isI h hu x).mono ?_
    rintro e w' ⟨he, h', hc⟩
    exact ⟨F, he, ⟨g, h'⟩, hc, fun y hy => Or.inl hy⟩
  get := fun _ _ hu ⟨_, h⟩ => get_isI h hu
  serial := fun _ _ hu ⟨_, h⟩ => serial_isI h hu
  lives := fun _ _ hu ⟨_, h⟩ => lives_isI h hu
  count := fun ⟨_, h⟩ => count_isI h
  born := fun ⟨_, h⟩ => born_isI h

end Go.Proofs.Ytjilnmeegolpkaa
