/- Layer 10: what SlotsNever holds: the table, all handles, all things, which are gone. -/
import Derived.Test.YtjilnmeegolpkaaSz
import Derived.Test.YtjilnmeegolpkaaWf
namespace Go.Proofs.Ytjilnmeegolpkaa
open Go.RowKit Go.Shelf

def inF (a : Int) : List Value := [.int .i64 a]
theorem inF_len (a : Int) : (inF a).length = 1 := rfl
abbrev InRow (w : World) (B : Nat) (v : Value) (l : List Int) : Prop := Row inF 1 3 w B v l
theorem nfInt : (Try.prog.info? 3).map (fun i => (i.zero, i.size, i.bytes)) = some (some (.int .i64 0), 1, 8) := by kernel_rfl

/-- on lists: what the law keeps beside the table -/
structure Nl (l : List Th) (xs gs : List Int) (M : Nat) : Prop where
  wf : Wf l M
  xlen : xs.length = l.length
  glen : gs.length = l.length
  xis : ∀ i (h : i < l.length), l[i].d = false → xs[i]? = some l[i].x
  gis : ∀ i (h : i < l.length), gs[i]? = some (if l[i].d then 1 else 0)

theorem Nl.nil (M : Nat) : Nl [] [] [] M := ⟨Wf.nil M, rfl, rfl, fun i h => (by cases h), fun i h => (by cases h)⟩
theorem tkd_some {l : List Th} {M : Nat} (hB : tkB l M = true) (x : Int) : tkd l M x = l ++ [⟨tkS l M, tkG l M, x, false⟩] ∧ (∃ s, emp l M 1 = some s ∧ tkS l M = s ∧ tkG l M = gens l s + 1) := by
  unfold tkB at hB
  unfold tkd tkS tkG
  cases he : emp l M 1 with
  | none => rw [he] at hB; cases hB
  | some s => exact ⟨rfl, s, rfl, rfl, rfl⟩
theorem tkd_none {l : List Th} {M : Nat} (hB : tkB l M = false) (x : Int) : tkd l M x = l := by
  unfold tkB at hB
  unfold tkd
  cases he : emp l M 1 with
  | none => rfl
  | some s => rw [he] at hB; cases hB
theorem Nl.take {l : List Th} {xs gs : List Int} {M : Nat} (h : Nl l xs gs M) (hB : tkB l M = true) (x : Int) : Nl (tkd l M x) (xs ++ [x]) (gs ++ [0]) M ∧ hnds (tkd l M x) = hnds l ++ [(tkS l M, tkG l M)] ∧ cnt (tkd l M x) = cnt l + 1 := by
  have hw := h.wf.tkd x
  obtain ⟨e, _⟩ := tkd_some hB x
  rw [e] at hw ⊢
  refine ⟨⟨hw, by simp [h.xlen], by simp [h.glen], fun i hi hd => ?_, fun i hi => ?_⟩, by simp [hnds], by rw [cnt_snoc]; simp⟩
  · by_cases hl : i < l.length
    · rw [List.getElem_append_left hl] at hd ⊢
      rw [List.getElem?_append_left (by rw [h.xlen]; exact hl)]
      exact h.xis i hl hd
    · have : i = l.length := by simp at hi; omega
      subst this
      rw [List.getElem?_append_right (by rw [h.xlen]; exact Nat.le_refl _), List.getElem_append_right (Nat.le_refl _), h.xlen]
      simp
  · by_cases hl : i < l.length
    · rw [List.getElem_append_left hl, List.getElem?_append_left (by rw [h.glen]; exact hl)]
      exact h.gis i hl
    · have : i = l.length := by simp at hi; omega
      subst this
      rw [List.getElem?_append_right (by rw [h.glen]; exact Nat.le_refl _), List.getElem_append_right (Nat.le_refl _), h.glen]
      simp
/-- no handle comes twice -/
theorem Nl.fresh {l : List Th} {xs gs : List Int} {M : Nat} (h : Nl l xs gs M) (hB : tkB l M = true) {i : Nat} (hi : i < l.length) (hs : l[i].s = tkS l M) : l[i].g ≠ tkG l M := by
  obtain ⟨_, s, _, e1, e2⟩ := tkd_some hB 0
  intro hg
  have := h.wf.gen_le hi
  rw [hs, e1, hg, e2] at this
  omega
theorem cnt_mod (l : List Th) (i : Nat) (hi : i < l.length) (f : Th → Th) : cnt (l.modify i f) + (if l[i].d then 0 else 1) = cnt l + if (f l[i]).d then 0 else 1 := by
  unfold cnt
  induction l generalizing i with
  | nil => cases hi
  | cons t l ih =>
    cases i with
    | zero =>
      simp only [List.modify_zero_cons, List.countP_cons, List.getElem_cons_zero]
      by_cases h1 : t.d = true <;> by_cases h2 : (f t).d = true <;> simp [h1, h2]
    | succ i =>
      have := ih i (by simpa using hi)
      simp only [List.modify_succ_cons, List.countP_cons, List.getElem_cons_succ]
      omega
theorem Nl.free {l : List Th} {xs gs : List Int} {M : Nat} (h : Nl l xs gs M) {i : Nat} (hi : i < l.length) (hd : l[i].d = false) : Nl (frd l l[i].s l[i].g) xs (gs.set i 1) M ∧ cnt (frd l l[i].s l[i].g) + 1 = cnt l := by
  have hw := h.wf.frd l[i].s l[i].g
  have e : frd l l[i].s l[i].g = fre l i := by unfold frd; rw [h.wf.fnd_live hi hd]
  rw [e] at hw ⊢
  have hlen : (fre l i).length = l.length := by simp [fre]
  have at_ : ∀ k (hk : k < (fre l i).length) (hk' : k < l.length), (fre l i)[k] = if i = k then { l[k] with d := true } else l[k] := by
    intro k hk hk'
    simp only [fre, List.getElem_modify]
  refine ⟨⟨hw, by rw [hlen]; exact h.xlen, by rw [hlen, List.length_set]; exact h.glen, fun k hk hdk => ?_, fun k hk => ?_⟩, ?_⟩
  · have hk' : k < l.length := by omega
    rw [at_ k hk hk'] at hdk ⊢
    split at hdk
    · cases hdk
    · rename_i hne
      rw [if_neg hne]
      exact h.xis k hk' hdk
  · have hk' : k < l.length := by omega
    rw [at_ k hk hk']
    by_cases hik : i = k
    · subst hik
      rw [List.getElem?_set_self (by rw [h.glen]; exact hi)]
      simp
    · rw [List.getElem?_set_ne hik, if_neg hik]
      exact h.gis k hk'
  · have := cnt_mod l i hi (fun t => { t with d := true })
    rw [hd] at this
    simpa [fre] using this
theorem Nl.same {l : List Th} {xs gs : List Int} {M : Nat} (h : Nl l xs gs M) {i : Nat} (hi : i < l.length) (hd : l[i].d = true) (x : Int) : frd l l[i].s l[i].g = l ∧ std l l[i].s l[i].g x = l := by
  unfold frd std
  rw [h.wf.fnd_gone hi hd]
  exact ⟨rfl, rfl⟩
theorem Nl.set {l : List Th} {xs gs : List Int} {M : Nat} (h : Nl l xs gs M) {i : Nat} (hi : i < l.length) (x : Int) : Nl (std l l[i].s l[i].g x) (xs.set i x) gs M ∧ cnt (std l l[i].s l[i].g x) = cnt l := by
  cases hd : l[i].d
  · have hw := h.wf.std l[i].s l[i].g x
    have e : std l l[i].s l[i].g x = sett l i x := by unfold std; rw [h.wf.fnd_live hi hd]
    rw [e] at hw ⊢
    have hlen : (sett l i x).length = l.length := by simp [sett]
    have at_ : ∀ k (hk : k < (sett l i x).length) (hk' : k < l.length), (sett l i x)[k] = if i = k then { l[k] with x := x } else l[k] := by
      intro k hk hk'
      simp only [sett, List.getElem_modify]
    refine ⟨⟨hw, by rw [hlen, List.length_set]; exact h.xlen, by rw [hlen]; exact h.glen, fun k hk hdk => ?_, fun k hk => ?_⟩, ?_⟩
    · have hk' : k < l.length := by omega
      rw [at_ k hk hk'] at hdk ⊢
      by_cases hik : i = k
      · subst hik
        rw [List.getElem?_set_self (by rw [h.xlen]; exact hi)]
        simp
      · rw [List.getElem?_set_ne hik, if_neg hik]
        rw [if_neg hik] at hdk
        exact h.xis k hk' hdk
    · have hk' : k < l.length := by omega
      rw [at_ k hk hk']
      by_cases hik : i = k
      · subst hik
        have := h.gis i hk'
        simpa using this
      · rw [if_neg hik]
        exact h.gis k hk'
    · have := cnt_mod l i hi (fun t => { t with x := x })
      rw [hd] at this
      simpa [sett] using this
  · rw [(h.same hi hd x).2]
    refine ⟨⟨h.wf, by rw [List.length_set]; exact h.xlen, h.glen, fun k hk hdk => ?_, h.gis⟩, rfl⟩
    have hik : i ≠ k := fun e => by subst e; rw [hd] at hdk; cases hdk
    rw [List.getElem?_set_ne hik]
    exact h.xis k hk hdk

/-- in memory -/
structure Nv (PT : World → Nat → (Nat → Prop) → Nat → List Th → Nat → Prop) (w : World) (B p : Nat) (tv xv gv : Value) (hs : List (Int × Int)) (xs gs : List Int) (l : List Th) (M : Nat) (F : Nat → Prop) : Prop where
  pt : PT w B F p l M
  tl : HdRow w B tv hs
  xl : InRow w B xv xs
  gl : InRow w B gv gs
  ft : ∀ g, tv.ownBlock = some g → ¬ F g
  fx : ∀ g, xv.ownBlock = some g → ¬ F g
  fg : ∀ g, gv.ownBlock = some g → ¬ F g
  xg : ∀ g, xv.ownBlock = some g → ¬ gv.ownBlock = some g

variable {PT : World → Nat → (Nat → Prop) → Nat → List Th → Nat → Prop} {Sq : World → Nat → (Nat → Prop) → Nat → Array Value → Nat → Prop} (I : Face PT Sq)
variable {w w1 : World} {B p : Nat} {tv xv gv v' : Value} {hs hs' : List (Int × Int)} {xs gs ys : List Int} {l l1 : List Th} {M : Nat} {F F1 : Nat → Prop}

theorem Nv.tx (h : Nv PT w B p tv xv gv hs xs gs l M F) (g : Nat) (hg : tv.ownBlock = some g) : ¬ xv.ownBlock = some g := own_ne h.tl h.xl (by decide) g hg
theorem Nv.tg (h : Nv PT w B p tv xv gv hs xs gs l M F) (g : Nat) (hg : tv.ownBlock = some g) : ¬ gv.ownBlock = some g := own_ne h.tl h.gl (by decide) g hg
include I in
theorem Nv.ch0 (h : Nv PT w B p tv xv gv hs xs gs l M F) (hc : Ch (fun _ => False) w w1) : Nv PT w1 B p tv xv gv hs xs gs l M F :=
  ⟨I.ch h.pt hc (fun _ _ h => h), h.tl.ch hc (fun _ _ h => h), h.xl.ch hc (fun _ _ h => h), h.gl.ch hc (fun _ _ h => h), h.ft, h.fx, h.fg, h.xg⟩
/-- the program's table has changed -/
theorem Nv.prog (h : Nv PT w B p tv xv gv hs xs gs l M F) (hc : Ch F w w1) (hp : PT w1 B F1 p l1 M) (hF : ∀ y, F1 y → F y ∨ w.heap.size ≤ y) : Nv PT w1 B p tv xv gv hs xs gs l1 M F1 := by
  refine ⟨hp, h.tl.ch hc h.ft, h.xl.ch hc h.fx, h.gl.ch hc h.fg, fun g hg e => ?_, fun g hg e => ?_, fun g hg e => ?_, h.xg⟩
  · rcases hF _ e with e | e
    · exact h.ft g hg e
    · have := (own_in h.tl hg).2.1; omega
  · rcases hF _ e with e | e
    · exact h.fx g hg e
    · have := (own_in h.xl hg).2.1; omega
  · rcases hF _ e with e | e
    · exact h.fg g hg e
    · have := (own_in h.gl hg).2.1; omega
include I in
theorem Nv.told (h : Nv PT w B p tv xv gv hs xs gs l M F) (hg : w.grownBy w1 tv.ownBlock) (hr : HdRow w1 B v' hs') (ho : v'.ownBlock = tv.ownBlock ∨ v'.ownBlock = some w.heap.size) : Nv PT w1 B p v' xv gv hs' xs gs l M F := by
  have hc : Ch (fun x => tv.ownBlock = some x) w w1 := Ch.of_grown hg (fun _ e => e)
  refine ⟨I.ch h.pt hc (fun x hx e => h.ft x e hx), hr, h.xl.ch hc (fun g hg e => h.tx g e hg), h.gl.ch hc (fun g hg e => h.tg g e hg), fun g hg' e => ?_, h.fx, h.fg, h.xg⟩
  rcases ho with ho | ho
  · exact h.ft g (ho ▸ hg') e
  · rw [ho] at hg'
    injection hg' with hg'
    have := (I.foot h.pt g e).2
    omega
include I in
theorem Nv.thing (h : Nv PT w B p tv xv gv hs xs gs l M F) (hc : Ch (fun x => xv.ownBlock = some x) w w1) (hr : InRow w1 B v' ys) (ho : v'.ownBlock = xv.ownBlock ∨ v'.ownBlock = some w.heap.size) : Nv PT w1 B p tv v' gv hs ys gs l M F := by
  refine ⟨I.ch h.pt hc (fun x hx e => h.fx x e hx), h.tl.ch hc (fun g hg e => h.tx g hg e), hr, h.gl.ch hc (fun g hg e => h.xg g e hg), h.ft, fun g hg' e => ?_, h.fg, fun g hg' e => ?_⟩
  · rcases ho with ho | ho
    · exact h.fx g (ho ▸ hg') e
    · rw [ho] at hg'
      injection hg' with hg'
      have := (I.foot h.pt g e).2
      omega
  · rcases ho with ho | ho
    · exact h.xg g (ho ▸ hg') e
    · rw [ho] at hg'
      injection hg' with hg'
      have := (own_in h.gl e).2.1
      omega
include I in
theorem Nv.gone (h : Nv PT w B p tv xv gv hs xs gs l M F) (hc : Ch (fun x => gv.ownBlock = some x) w w1) (hr : InRow w1 B v' ys) (ho : v'.ownBlock = gv.ownBlock ∨ v'.ownBlock = some w.heap.size) : Nv PT w1 B p tv xv v' hs xs ys l M F := by
  refine ⟨I.ch h.pt hc (fun x hx e => h.fg x e hx), h.tl.ch hc (fun g hg e => h.tg g hg e), h.xl.ch hc (fun g hg e => h.xg g hg e), hr, h.ft, h.fx, fun g hg' e => ?_, fun g hg' e => ?_⟩
  · rcases ho with ho | ho
    · exact h.fg g (ho ▸ hg') e
    · rw [ho] at hg'
      injection hg' with hg'
      have := (I.foot h.pt g e).2
      omega
  · rcases ho with ho | ho
    · exact h.xg g hg' (ho ▸ e)
    · rw [ho] at e
      injection e with e
      have := (own_in h.xl hg').2.1
      omega

end Go.Proofs.Ytjilnmeegolpkaa
