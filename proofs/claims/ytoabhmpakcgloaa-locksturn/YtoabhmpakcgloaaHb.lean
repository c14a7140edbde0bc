/- Layer 11: the landed book, on lists alone: slots, links, claims. -/
import Derived.Test.YtoabhmpakcgloaaHa
namespace Go.Proofs.Ytoabhmpakcgloaa
open Go.RowKit

/-- the lines in which a wait stands -/
def lnOf (k : Nat) (r : Rc) : Ln := match k with
  | 0 => ⟨0, r.rs, r.rg, r.rd, 0, 0⟩
  | 1 => ⟨1, 0, 0, 0, r.ws, r.wg⟩
  | _ => ⟨2, 0, 0, 0, 0, 0⟩
def stW (x : Ln) (t : Wt) : Bool := !t.o && decide (x = lnOf x.k t.r)
def mbW (l : List Wt) (x : Ln) : List Int := (sel (stW x) l).map Rc.ms
theorem stW_row (s g d : Int) : stW ⟨0, s, g, d, 0, 0⟩ = inRow s g d := by
  funext t
  unfold stW inRow lnOf
  rw [Bool.eq_iff_iff]
  simp only [Bool.and_eq_true, decide_eq_true_eq, Ln.mk.injEq, true_and, and_true]
  exact ⟨fun h => ⟨h.1, h.2.1.symm, h.2.2.1.symm, h.2.2.2.symm⟩, fun h => ⟨h.1, h.2.1.symm, h.2.2.1.symm, h.2.2.2.symm⟩⟩
theorem stW_who (s g : Int) : stW ⟨1, 0, 0, 0, s, g⟩ = isWho s g := by
  funext t
  unfold stW isWho lnOf
  rw [Bool.eq_iff_iff]
  simp only [Bool.and_eq_true, decide_eq_true_eq, Ln.mk.injEq, true_and]
  exact ⟨fun h => ⟨h.1, h.2.1.symm, h.2.2.symm⟩, fun h => ⟨h.1, h.2.1.symm, h.2.2.symm⟩⟩
theorem stW_all : stW ⟨2, 0, 0, 0, 0, 0⟩ = isNow := by
  funext t
  simp [stW, isNow, lnOf]

/-- a slot -/
structure Sl where
  g : Int
  r : Rc
  a0 : Int
  b0 : Int
  a1 : Int
  b1 : Int
  a2 : Int
  b2 : Int
def zSl (g : Int) : Sl := ⟨g, zRc, 0, 0, 0, 0, 0, 0⟩
def Sl.lk (x : Sl) : Nat → Int × Int
  | 0 => (x.a0, x.b0)
  | 1 => (x.a1, x.b1)
  | 2 => (x.a2, x.b2)
  | _ => (0, 0)
def Sl.setA (k : Nat) (v : Int) (x : Sl) : Sl := match k with
  | 0 => { x with a0 := v }
  | 1 => { x with a1 := v }
  | _ => { x with a2 := v }
def Sl.setB (k : Nat) (v : Int) (x : Sl) : Sl := match k with
  | 0 => { x with b0 := v }
  | 1 => { x with b1 := v }
  | _ => { x with b2 := v }
theorem k3 {k : Nat} {p : Nat → Prop} (hk : k < 3) (h0 : p 0) (h1 : p 1) (h2 : p 2) : p k := by
  match k, hk with
  | 0, _ => exact h0
  | 1, _ => exact h1
  | 2, _ => exact h2
theorem Sl.lkA (x : Sl) {k : Nat} (hk : k < 3) (v : Int) (k' : Nat) : (x.setA k v).lk k' = if k' = k then (v, (x.lk k).2) else x.lk k' := by
  revert k'
  refine k3 (p := fun k => ∀ k', (x.setA k v).lk k' = if k' = k then (v, (x.lk k).2) else x.lk k') hk ?_ ?_ ?_ <;> intro k' <;> match k' with
  | 0 => rfl
  | 1 => rfl
  | 2 => rfl
  | _ + 3 => rfl
theorem Sl.lkB (x : Sl) {k : Nat} (hk : k < 3) (v : Int) (k' : Nat) : (x.setB k v).lk k' = if k' = k then ((x.lk k).1, v) else x.lk k' := by
  revert k'
  refine k3 (p := fun k => ∀ k', (x.setB k v).lk k' = if k' = k then ((x.lk k).1, v) else x.lk k') hk ?_ ?_ ?_ <;> intro k' <;> match k' with
  | 0 => rfl
  | 1 => rfl
  | 2 => rfl
  | _ + 3 => rfl
def Sl.gr (x : Sl) : Int × Rc := (x.g, x.r)
theorem Sl.grA (x : Sl) (k : Nat) (v : Int) : (x.setA k v).gr = x.gr := by unfold Sl.setA; split <;> rfl
theorem Sl.grB (x : Sl) (k : Nat) (v : Int) : (x.setB k v).gr = x.gr := by unfold Sl.setB; split <;> rfl

/-- the links of a kind by slots -/
def lkS (sl : List Sl) (k : Nat) (s : Int) : Int × Int := if 1 ≤ s then ((sl[(s - 1).toNat]?).map fun x => x.lk k).getD (0, 0) else (0, 0)
def modS (sl : List Sl) (s : Int) (f : Sl → Sl) : List Sl := sl.modify (s - 1).toNat f
theorem modS_len (sl : List Sl) (s : Int) (f : Sl → Sl) : (modS sl s f).length = sl.length := by simp [modS]
theorem lkS_mod {sl : List Sl} {s : Int} (h1 : 1 ≤ s) (h2 : s ≤ sl.length) (f : Sl → Sl) (k : Nat) (F : Int × Int → Int × Int) (hF : ∀ x, (f x).lk k = F (x.lk k)) (x : Int) : lkS (modS sl s f) k x = if x = s then F (lkS sl k s) else lkS sl k x := by
  unfold lkS modS
  by_cases hx : x = s
  · subst hx
    have hi : (x - 1).toNat < sl.length := by omega
    generalize (x - 1).toNat = i at hi
    simp [h1, List.getElem?_eq_getElem hi, hF]
  · rw [if_neg hx]
    by_cases h3 : 1 ≤ x
    · have : ¬ (s - 1).toNat = (x - 1).toNat := by omega
      generalize (x - 1).toNat = i at this
      generalize (s - 1).toNat = j at this
      simp [h3, this]
    · simp [h3]
theorem lkS_setA {sl : List Sl} {s : Int} (h1 : 1 ≤ s) (h2 : s ≤ sl.length) {k : Nat} (hk : k < 3) (v : Int) : lkS (modS sl s (Sl.setA k v)) = updW (lkS sl) k (updW (lkS sl k) s (v, (lkS sl k s).2)) := by
  funext k' x
  by_cases hk' : k' = k
  · subst hk'
    rw [updW_same, lkS_mod h1 h2 _ _ (fun p => (v, p.2)) (fun x => by rw [Sl.lkA _ hk, if_pos rfl])]
    rfl
  · rw [updW_ne _ _ hk', lkS_mod h1 h2 _ _ id (fun x => by rw [Sl.lkA _ hk, if_neg hk']; rfl)]
    split
    · rename_i e; rw [e]; rfl
    · rfl
theorem lkS_setB {sl : List Sl} {s : Int} (h1 : 1 ≤ s) (h2 : s ≤ sl.length) {k : Nat} (hk : k < 3) (v : Int) : lkS (modS sl s (Sl.setB k v)) = updW (lkS sl) k (updW (lkS sl k) s ((lkS sl k s).1, v)) := by
  funext k' x
  by_cases hk' : k' = k
  · subst hk'
    rw [updW_same, lkS_mod h1 h2 _ _ (fun p => (p.1, v)) (fun x => by rw [Sl.lkB _ hk, if_pos rfl])]
    rfl
  · rw [updW_ne _ _ hk', lkS_mod h1 h2 _ _ id (fun x => by rw [Sl.lkB _ hk, if_neg hk']; rfl)]
    split
    · rename_i e; rw [e]; rfl
    · rfl
theorem upd_upd {α β : Type} [DecidableEq α] (f : α → β) (a : α) (b c : β) : updW (updW f a b) a c = updW f a c := by
  funext x
  unfold updW
  split <;> rfl
theorem upd_id {α β : Type} [DecidableEq α] (f : α → β) (a : α) : updW f a (f a) = f := by
  funext x
  unfold updW
  split
  · rename_i h; rw [h]
  · rfl

/-- a slot joins a line, parts from one -/
def linkS (sl : List Sl) (k : Nat) (s v : Int) : List Sl := modS (modS sl s (Sl.setA k v)) s (Sl.setB k 0)
def joinS (sl : List Sl) (e : Int × Int) (k : Nat) (s : Int) : List Sl := if e.2 = 0 then linkS sl k s e.2 else modS (linkS sl k s e.2) e.2 (Sl.setB k s)
def partS1 (sl : List Sl) (gone : Int × Int) (k : Nat) : List Sl := if gone.1 = 0 then sl else modS sl gone.1 (Sl.setB k gone.2)
def partS (sl : List Sl) (gone : Int × Int) (k : Nat) : List Sl := if gone.2 = 0 then partS1 sl gone k else modS (partS1 sl gone k) gone.2 (Sl.setA k gone.1)

theorem linkS_len (sl : List Sl) (k : Nat) (s v : Int) : (linkS sl k s v).length = sl.length := by simp [linkS, modS_len]
theorem joinS_len (sl : List Sl) (e : Int × Int) (k : Nat) (s : Int) : (joinS sl e k s).length = sl.length := by unfold joinS; split <;> simp [modS_len, linkS_len]
theorem partS1_len (sl : List Sl) (gone : Int × Int) (k : Nat) : (partS1 sl gone k).length = sl.length := by unfold partS1; split <;> simp [modS_len]
theorem partS_len (sl : List Sl) (gone : Int × Int) (k : Nat) : (partS sl gone k).length = sl.length := by unfold partS; split <;> simp [modS_len, partS1_len]
theorem gr_mod (sl : List Sl) (s : Int) {f : Sl → Sl} (hf : ∀ x, (f x).gr = x.gr) : (modS sl s f).map Sl.gr = sl.map Sl.gr := by
  refine List.ext_getElem (by simp [modS]) fun i h1 h2 => ?_
  simp only [modS, List.getElem_map, List.getElem_modify]
  split
  · exact hf _
  · rfl
theorem gr_link (sl : List Sl) (k : Nat) (s v : Int) : (linkS sl k s v).map Sl.gr = sl.map Sl.gr := by
  unfold linkS
  rw [gr_mod _ _ (fun x => x.grB k 0), gr_mod _ _ (fun x => x.grA k v)]
theorem gr_join (sl : List Sl) (e : Int × Int) (k : Nat) (s : Int) : (joinS sl e k s).map Sl.gr = sl.map Sl.gr := by
  unfold joinS
  split
  · exact gr_link ..
  · rw [gr_mod _ _ (fun x => x.grB k s), gr_link]
theorem gr_part1 (sl : List Sl) (gone : Int × Int) (k : Nat) : (partS1 sl gone k).map Sl.gr = sl.map Sl.gr := by
  unfold partS1
  split
  · rfl
  · rw [gr_mod _ _ (fun x => x.grB k _)]
theorem gr_part (sl : List Sl) (gone : Int × Int) (k : Nat) : (partS sl gone k).map Sl.gr = sl.map Sl.gr := by
  unfold partS
  split
  · exact gr_part1 ..
  · rw [gr_mod _ _ (fun x => x.grA k _), gr_part1]

theorem lkS_link {sl : List Sl} {s v : Int} (h1 : 1 ≤ s) (h2 : s ≤ sl.length) {k : Nat} (hk : k < 3) : lkS (linkS sl k s v) = updW (lkS sl) k (updW (lkS sl k) s (v, 0)) := by
  unfold linkS
  rw [lkS_setB h1 (by rw [modS_len]; exact h2) hk, lkS_setA h1 h2 hk, upd_upd, updW_same, upd_upd, updW_same]
theorem lkS_join {sl : List Sl} {s : Int} {e : Int × Int} (h1 : 1 ≤ s) (h2 : s ≤ sl.length) (h3 : 0 ≤ e.2) (h4 : e.2 ≤ sl.length) {k : Nat} (hk : k < 3) : lkS (joinS sl e k s) = updW (lkS sl) k (joinG (lkS sl k) e s) := by
  unfold joinS joinG
  by_cases h0 : e.2 = 0
  · rw [if_pos h0, if_pos h0, lkS_link h1 h2 hk]
  · rw [if_neg h0, if_neg h0, lkS_setB (by omega) (by rw [linkS_len]; exact h4) hk, lkS_link h1 h2 hk, upd_upd, updW_same]
theorem lkS_part {sl : List Sl} {gone : Int × Int} (h1 : 0 ≤ gone.1) (h2 : gone.1 ≤ sl.length) (h3 : 0 ≤ gone.2) (h4 : gone.2 ≤ sl.length) {k : Nat} (hk : k < 3) : lkS (partS sl gone k) = updW (lkS sl) k (partG (lkS sl k) gone) := by
  have e1 : lkS (partS1 sl gone k) = updW (lkS sl) k (partG1 (lkS sl k) gone) := by
    unfold partS1 partG1
    by_cases h0 : gone.1 = 0
    · rw [if_pos h0, if_pos h0, upd_id]
    · rw [if_neg h0, if_neg h0, lkS_setB (by omega) h2 hk]
  unfold partS partG
  by_cases h0 : gone.2 = 0
  · rw [if_pos h0, if_pos h0, e1]
  · rw [if_neg h0, if_neg h0, lkS_setA (by omega) (by rw [partS1_len]; exact h4) hk, e1, upd_upd, updW_same]

end Go.Proofs.Ytoabhmpakcgloaa
