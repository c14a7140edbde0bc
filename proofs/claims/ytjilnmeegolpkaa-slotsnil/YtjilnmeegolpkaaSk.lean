/- Layer 10: a pair of tables, the program's and the document's. -/
import Derived.Test.YtjilnmeegolpkaaSj
import Derived.Test.YtjilnmeegolpkaaWf
namespace Go.Proofs.Ytjilnmeegolpkaa
open Go.RowKit Go.Shelf

theorem fit_tkd {l : List Th} (h : Fit l) (M : Nat) (hM : M ≤ 500) (x : Int) : Fit (tkd l M x) := by
  have key : ∀ (n : Nat) (s r : Int), emp l n s = some r → s ≤ r ∧ r < s + n := by
    intro n
    induction n with
    | zero => intro s r h; cases h
    | succ n ih =>
      intro s r h
      unfold emp at h
      split at h
      · have := ih _ _ h
        omega
      · cases h
        omega
  unfold tkd
  split
  · exact h
  · rename_i s hs
    have := key M 1 s hs
    intro t ht
    unfold tkn at ht
    rcases List.mem_append.1 ht with ht | ht
    · exact h t ht
    · rw [List.mem_singleton.1 ht]
      show 0 ≤ s ∧ s < 4294967296
      omega
theorem fit_mod {l : List Th} (h : Fit l) (i : Nat) (f : Th → Th) (hf : ∀ t, (f t).s = t.s) : Fit (l.modify i f) := by
  intro t ht
  obtain ⟨j, hj, rfl⟩ := List.getElem_of_mem ht
  rw [List.getElem_modify]
  rw [List.length_modify] at hj
  have := h _ (List.getElem_mem hj)
  split
  · rw [hf]
    exact this
  · exact this
theorem fit_frd {l : List Th} (h : Fit l) (s g : Int) : Fit (frd l s g) := by
  unfold frd
  split
  · exact h
  · exact fit_mod h _ _ fun _ => rfl
theorem fit_std {l : List Th} (h : Fit l) (s g x : Int) : Fit (std l s g x) := by
  unfold std
  split
  · exact h
  · exact fit_mod h _ _ fun _ => rfl

theorem tkS_us (l : List Th) {M : Nat} (hM : M ≤ 500) : Us (tkS l M) := by
  unfold tkS
  cases he : emp l M 1 with
  | none => exact ⟨by simp, by simp⟩
  | some s =>
    obtain ⟨_, h2, h3⟩ := emp_some he
    exact ⟨by simp; omega, by simp; omega⟩
theorem us_snoc {hs : List (Int × Int)} (h : ∀ a ∈ hs, Us a.1) {s g : Int} (hu : Us s) : ∀ a ∈ hs ++ [(s, g)], Us a.1 := fun a ha => (List.mem_append.1 ha).elim (h a) fun e => by rw [List.mem_singleton.1 e]; exact hu

/-- the law's pair: both tables hold the same things; hs: the handles that were told -/
structure Pr (PT : World → Nat → (Nat → Prop) → Nat → List Th → Nat → Prop) (w : World) (B C p b : Nat) (v tv : Value) (hs : List (Int × Int)) (l : List Th) (M : Nat) (F : Nat → Prop) : Prop where
  box : w.heap[C]? = some (.cells #[.pointer (some ⟨p, 0, none⟩), .pointer (some ⟨b, 0, none⟩), tv] 35 (0, 0))
  pt : PT w B F p l M
  dt : DT w B b v l M
  tl : HdRow w B tv hs
  fC : ¬ F C
  fb : ¬ F b
  fv : ∀ g, v.ownBlock = some g → ¬ F g
  ft : ∀ g, tv.ownBlock = some g → ¬ F g
  bC : B ≤ C
  bb : B ≤ b
  fit : Fit l
  most : M ≤ 500
  tu : ∀ a ∈ hs, Us a.1

variable {PT : World → Nat → (Nat → Prop) → Nat → List Th → Nat → Prop} {Sq : World → Nat → (Nat → Prop) → Nat → Array Value → Nat → Prop} (I : Face PT Sq)
variable {w W w1 w2 : World} {B C p b : Nat} {v v2 tv tv' : Value} {hs : List (Int × Int)} {l l1 : List Th} {M : Nat} {F F1 : Nat → Prop}

theorem Pr.ltC (h : Pr PT w B C p b v tv hs l M F) : C < w.heap.size := (Array.getElem?_eq_some_iff.1 h.box).1
theorem Pr.neb (h : Pr PT w B C p b v tv hs l M F) : C ≠ b := fun e => by
  have h1 := h.box
  have h2 := h.dt.box
  rw [e, h2] at h1
  injection h1 with h1
  injection h1 with _ h1 _
  exact absurd h1 (by decide)
theorem Pr.nev (h : Pr PT w B C p b v tv hs l M F) : ¬ v.ownBlock = some C := own_box h.dt.row h.box (by decide)
theorem Pr.net (h : Pr PT w B C p b v tv hs l M F) : ¬ tv.ownBlock = some C := own_box h.tl h.box (by decide)
theorem Pr.nbt (h : Pr PT w B C p b v tv hs l M F) : ¬ tv.ownBlock = some b := own_box h.tl h.dt.box (by decide)
theorem Pr.nvt (h : Pr PT w B C p b v tv hs l M F) (g : Nat) (hg : tv.ownBlock = some g) : ¬ v.ownBlock = some g := own_ne h.tl h.dt.row (by decide) g hg
include I in
theorem Pr.ch0 (h : Pr PT w B C p b v tv hs l M F) (hc : Ch (fun _ => False) w W) : Pr PT W B C p b v tv hs l M F :=
  ⟨hc.box h.box (fun h => h), I.ch h.pt hc (fun _ _ h => h), h.dt.ch hc (fun h => h) (fun _ _ h => h), h.tl.ch hc (fun _ _ h => h), h.fC, h.fb, h.fv, h.ft, h.bC, h.bb, h.fit, h.most, h.tu⟩
include I in
/-- the program's table has changed, then the document's -/
theorem Pr.two (h : Pr PT w B C p b v tv hs l M F) (hA : Ch F w w1) (hp : PT w1 B F1 p l1 M) (hF1 : ∀ y, F1 y → F y ∨ w.heap.size ≤ y) (hB : Ch (fun y => y = b ∨ v.ownBlock = some y) w1 w2) (hd : DT w2 B b v2 l1 M)
    (hv2 : ∀ g, v2.ownBlock = some g → v.ownBlock = some g ∨ w1.heap.size ≤ g) (hf : Fit l1) : Pr PT w2 B C p b v2 tv hs l1 M F1 := by
  have hC := h.ltC
  have hb := h.dt.lt
  have lv : ∀ g, v.ownBlock = some g → g < w.heap.size := fun g hg => (own_in h.dt.row hg).2.1
  have lt : ∀ g, tv.ownBlock = some g → g < w.heap.size := fun g hg => (own_in h.tl hg).2.1
  have box1 := hA.box h.box h.fC
  refine ⟨hB.box box1 (fun e => e.elim h.neb h.nev), I.ch hp hB (fun x hx e => ?_), hd, ?_, fun e => ?_, fun e => ?_, fun g hg e => ?_, fun g hg e => ?_, h.bC, h.bb, hf, h.most, h.tu⟩
  · rcases e with rfl | e
    · rcases hF1 _ hx with hx | hx
      · exact h.fb hx
      · omega
    · rcases hF1 _ hx with hx | hx
      · exact h.fv _ e hx
      · have := lv _ e
        omega
  · exact (h.tl.ch hA (fun g hg e => h.ft g hg e)).ch hB (fun g hg e => e.elim (fun e => h.nbt (by rw [← e]; exact hg)) (h.nvt g hg))
  · rcases hF1 _ e with e | e
    · exact h.fC e
    · omega
  · rcases hF1 _ e with e | e
    · exact h.fb e
    · omega
  · rcases hv2 g hg with hg | hg
    · rcases hF1 _ e with e | e
      · exact h.fv _ hg e
      · have := lv _ hg
        omega
    · have := (I.foot hp g e).2
      omega
  · rcases hF1 _ e with e | e
    · exact h.ft _ hg e
    · have := lt _ hg
      omega
include I in
/-- blocks from B on alone have changed -/
theorem Pr.low (h : Pr PT w B C p b v tv hs l M F) (hA : Ch F w w1) (hB : Ch (fun y => y = b ∨ v.ownBlock = some y) w1 w2) (hw : B ≤ w.heap.size) : Below B w w2 := by
  refine (hA.below hw fun x hx e => ?_).trans (hB.below (Nat.le_trans hw hA.size) fun x hx e => ?_)
  · have := (I.foot h.pt x e).1
    omega
  · rcases e with rfl | e
    · have := h.bb
      omega
    · have := (own_in h.dt.row e).1
      omega

include I in
/-- one handle more is told -/
theorem Pr.more (h : Pr PT w B C p b v tv hs l M F) (hg : w.grownBy w1 tv.ownBlock) {hs' : List (Int × Int)} (hr : HdRow w1 B tv' hs') (ho : tv'.ownBlock = tv.ownBlock ∨ tv'.ownBlock = some w.heap.size) (hu : ∀ a ∈ hs', Us a.1) :
    Pr PT (w1.setCell ⟨C, 2, none⟩ tv') B C p b v tv' hs' l M F ∧ Ch (fun x => tv.ownBlock = some x ∨ x = C) w (w1.setCell ⟨C, 2, none⟩ tv') := by
  have h1 : Ch (fun x => tv.ownBlock = some x ∨ x = C) w w1 := Ch.of_grown hg (fun k e => Or.inl e)
  have h2 := Ch.set (Q := fun x => tv.ownBlock = some x ∨ x = C) w1 (Or.inr rfl) 2 tv'
  have h3 := h1.trans h2 (fun _ _ h => h)
  have hC := h.ltC
  have hb := h.dt.lt
  have box1 : w1.heap[C]? = some (.cells #[.pointer (some ⟨p, 0, none⟩), .pointer (some ⟨b, 0, none⟩), tv] 35 (0, 0)) := (hg.block C hC (fun e => h.net e.symm)).trans h.box
  refine ⟨⟨by rw [heap_set box1 2 tv']; rfl, I.ch h.pt h3 (fun x hx e => e.elim (fun e => h.ft _ e hx) (fun e => h.fC (by rw [← e]; exact hx))), h.dt.ch h3 (fun e => e.elim h.nbt (fun e => h.neb e.symm)) (fun g hg e => e.elim (fun e => h.nvt g e hg) (fun e => h.nev (by rw [← e]; exact hg))),
    hr.ch (Ch.set (Q := fun x => x = C) w1 rfl 2 tv') (fun g hg' e => ?_), h.fC, h.fb, h.fv, fun g hg' e => ?_, h.bC, h.bb, h.fit, h.most, hu⟩, h3⟩
  · subst e
    rcases ho with ho | ho
    · exact h.net (ho ▸ hg')
    · rw [ho] at hg'
      injection hg' with hg'
      omega
  · rcases ho with ho | ho
    · exact h.ft g (ho ▸ hg') e
    · rw [ho] at hg'
      injection hg' with hg'
      have := (I.foot h.pt g e).2
      omega

end Go.Proofs.Ytjilnmeegolpkaa
