/- Layer 11: lines of waits, linked both ways, on lists alone. -/
import Derived.Test.YtoabhmpakcgloaaWr
namespace Go.Proofs.Ytoabhmpakcgloaa
open Go.RowKit

/-- a line: its kind, the row, who -/
structure Ln where
  k : Nat
  rs : Int
  rg : Int
  rd : Int
  ws : Int
  wg : Int
  deriving DecidableEq

/-- a link's chain: what g says of each, from behind p to ahead of n -/
def Seg (g : Int → Int × Int) : Int → List Int → Int → Prop
  | _, [], _ => True
  | p, a :: r, n => g a = (p, r.headD n) ∧ Seg g a r n

theorem headD_app (A C : List Int) (n : Int) : (A ++ C).headD n = A.headD (C.headD n) := by cases A <;> rfl

theorem Seg.app {g : Int → Int × Int} : ∀ {p : Int} {A C : List Int} {n : Int}, Seg g p (A ++ C) n ↔ Seg g p A (C.headD n) ∧ Seg g (A.getLastD p) C n
  | p, [], C, n => by simp [Seg]
  | p, a :: A, C, n => by
    rw [List.cons_append, Seg, Seg, Seg.app (A := A), headD_app, List.getLastD_cons, and_assoc]

theorem Seg.congr {g g' : Int → Int × Int} : ∀ {p : Int} {A : List Int} {n : Int}, (∀ x ∈ A, g' x = g x) → Seg g p A n → Seg g' p A n
  | _, [], _, _, _ => trivial
  | _, a :: _, _, h, hs => ⟨(h a (List.mem_cons_self ..)).trans hs.1, Seg.congr (fun x hx => h x (List.mem_cons_of_mem _ hx)) hs.2⟩

/-- the ends of a line -/
def endW : List Int → Option (Int × Int)
  | [] => none
  | a :: r => some (a, r.getLastD a)

def updW {α β : Type} [DecidableEq α] (f : α → β) (a : α) (b : β) : α → β := fun x => if x = a then b else f x
theorem updW_same {α β : Type} [DecidableEq α] (f : α → β) (a : α) (b : β) : updW f a b a = b := if_pos rfl
theorem updW_ne {α β : Type} [DecidableEq α] (f : α → β) {a x : α} (b : β) (h : x ≠ a) : updW f a b x = f x := if_neg h

/-- a line's ends, none: noughts -/
def e0 (o : Option (Int × Int)) : Int × Int := o.getD (0, 0)

/-- one more joins: the ends, the links -/
def joinE (e : Int × Int) (s : Int) : Int × Int := (if e.2 = 0 then s else e.1, s)
def joinG (g : Int → Int × Int) (e : Int × Int) (s : Int) : Int → Int × Int :=
  if e.2 = 0 then updW g s (e.2, 0) else updW (updW g s (e.2, 0)) e.2 ((updW g s (e.2, 0) e.2).1, s)
/-- one parts -/
def partF (e gone : Int × Int) : Int := if gone.1 = 0 then gone.2 else e.1
def partL (e gone : Int × Int) : Int := if gone.2 = 0 then gone.1 else e.2
def partE (e gone : Int × Int) : Option (Int × Int) := if partF e gone = 0 then none else some (partF e gone, partL e gone)
def partG1 (g : Int → Int × Int) (gone : Int × Int) : Int → Int × Int := if gone.1 = 0 then g else updW g gone.1 ((g gone.1).1, gone.2)
def partG (g : Int → Int × Int) (gone : Int × Int) : Int → Int × Int := if gone.2 = 0 then partG1 g gone else updW (partG1 g gone) gone.2 (gone.1, (partG1 g gone gone.2).2)

/-- the lines' ends and links are those of the members -/
structure LInv (en : Ln → Option (Int × Int)) (lk : Nat → Int → Int × Int) (M : Ln → List Int) : Prop where
  en : ∀ x, en x = endW (M x)
  sg : ∀ x, Seg (lk x.k) 0 (M x) 0
  nz : ∀ x, ∀ s ∈ M x, 0 < s
  nd : ∀ x, (M x).Nodup
  dj : ∀ x y, x.k = y.k → ∀ s, s ∈ M x → s ∈ M y → x = y

theorem endW_snoc (L : List Int) (s : Int) (h : ∀ x ∈ L, 0 < x) : endW (L ++ [s]) = some (joinE (e0 (endW L)) s) := by
  cases L with
  | nil => simp [endW, joinE, e0]
  | cons a r =>
    have hl : r.getLastD a ≠ 0 := by
      have := h (r.getLastD a) List.getLastD_mem_cons
      omega
    rw [List.getLastD_eq_getLast?] at hl
    simp [endW, joinE, e0, hl, List.getLastD_eq_getLast?]

theorem Seg.snoc {g : Int → Int × Int} {L : List Int} {s : Int} (h : Seg g 0 L 0) (hz : ∀ x ∈ L, 0 < x) (hn : s ∉ L) (hd : L.Nodup) : Seg (joinG g (e0 (endW L)) s) 0 (L ++ [s]) 0 := by
  rcases List.eq_nil_or_concat L with rfl | ⟨A, z, rfl⟩
  · simp [Seg, joinG, e0, endW, updW]
  · rw [List.concat_eq_append] at *
    have he : (e0 (endW (A ++ [z]))).2 = z := by rw [endW_snoc A z (fun x hx => hz x (by simp [hx]))]; rfl
    have hzz : z ≠ 0 := by have := hz z (by simp); omega
    have hsz : z ≠ s := fun e => hn (by simp [e])
    rw [Seg.app] at h ⊢
    obtain ⟨h1, h2⟩ := h
    simp only [List.headD_cons] at h1 h2 ⊢
    rw [Seg.app]
    have hA : z ∉ A := fun hz' => by
      rw [List.nodup_append] at hd
      exact hd.2.2 z hz' z (by simp) rfl
    refine ⟨⟨Seg.congr (g := g) (fun x hx => ?_) h1, ?_⟩, ?_⟩
    · have e1 : x ≠ z := fun e => hA (e ▸ hx)
      have e2 : x ≠ s := fun e => hn (by simp [← e, hx])
      simp [joinG, he, hzz, updW, e1, e2]
    · simp only [Seg, List.headD_nil, and_true] at h2 ⊢
      simp [joinG, he, hzz, updW, hsz, h2]
    · simp only [Seg, List.headD_nil, and_true]
      simp [joinG, he, hzz, updW, Ne.symm hsz]

theorem joinG_other {g : Int → Int × Int} {L : List Int} {s x : Int} (h1 : x ≠ s) (h2 : x ∉ L) : joinG g (e0 (endW L)) s x = g x := by
  rcases List.eq_nil_or_concat L with rfl | ⟨A, z, rfl⟩
  · simp [joinG, e0, endW, updW, h1]
  · rw [List.concat_eq_append] at *
    have he : (e0 (endW (A ++ [z]))).2 = z := by
      cases A with
      | nil => rfl
      | cons a r => simp [endW, e0, List.getLastD_eq_getLast?]
    have e1 : x ≠ z := fun e => h2 (by simp [e])
    unfold joinG
    rw [he]
    split <;> simp [updW, h1, e1]

variable {en : Ln → Option (Int × Int)} {lk : Nat → Int → Int × Int} {M : Ln → List Int}

theorem LInv.join (h : LInv en lk M) (y : Ln) (s : Int) (h0 : 0 < s) (hn : ∀ x, x.k = y.k → s ∉ M x) :
    LInv (updW en y (some (joinE (e0 (en y)) s))) (updW lk y.k (joinG (lk y.k) (e0 (en y)) s)) (updW M y (M y ++ [s])) := by
  refine ⟨fun x => ?_, fun x => ?_, fun x => ?_, fun x => ?_, fun x z e t => ?_⟩
  · by_cases hx : x = y
    · subst hx
      rw [updW_same, updW_same, h.en x, endW_snoc _ _ (h.nz x)]
    · rw [updW_ne _ _ hx, updW_ne _ _ hx, h.en x]
  · by_cases hx : x = y
    · subst hx
      rw [updW_same, updW_same, h.en x]
      exact (h.sg x).snoc (h.nz x) (hn x rfl) (h.nd x)
    · rw [updW_ne _ _ hx]
      by_cases hk : x.k = y.k
      · rw [hk, updW_same, h.en y]
        refine Seg.congr (g := lk y.k) (fun t ht => joinG_other (fun e => hn x hk (e ▸ ht)) (fun ht' => hx (h.dj x y hk t ht ht'))) ?_
        rw [← hk]
        exact h.sg x
      · rw [updW_ne _ _ hk]
        exact h.sg x
  · by_cases hx : x = y
    · subst hx
      rw [updW_same]
      intro t ht
      rcases List.mem_append.1 ht with ht | ht
      · exact h.nz x t ht
      · rw [List.mem_singleton.1 ht]; exact h0
    · rw [updW_ne _ _ hx]; exact h.nz x
  · by_cases hx : x = y
    · subst hx
      rw [updW_same, List.nodup_append]
      refine ⟨h.nd x, by simp, fun a ha b hb => ?_⟩
      rw [List.mem_singleton.1 hb]
      exact fun e => hn x rfl (e ▸ ha)
    · rw [updW_ne _ _ hx]; exact h.nd x
  · intro h1 h2
    by_cases hx : x = y
    · by_cases hz : z = y
      · rw [hx, hz]
      · rw [updW_ne _ _ hz] at h2
        rw [hx, updW_same] at h1
        rcases List.mem_append.1 h1 with h1 | h1
        · rw [hx]; exact h.dj y z (hx ▸ e) t h1 h2
        · rw [List.mem_singleton.1 h1] at h2
          exact absurd h2 (hn z (by rw [← e, hx]))
    · rw [updW_ne _ _ hx] at h1
      by_cases hz : z = y
      · rw [hz, updW_same] at h2
        rcases List.mem_append.1 h2 with h2 | h2
        · rw [hz]; exact h.dj x y (hz ▸ e) t h1 h2
        · rw [List.mem_singleton.1 h2] at h1
          exact absurd h1 (hn x (by rw [e, hz]))
      · rw [updW_ne _ _ hz] at h2
        exact h.dj x z e t h1 h2

theorem partG_other {g : Int → Int × Int} {gone : Int × Int} {x : Int} (h1 : x ≠ gone.1 ∨ gone.1 = 0) (h2 : x ≠ gone.2 ∨ gone.2 = 0) : partG g gone x = g x := by
  have k : partG1 g gone x = g x := by
    unfold partG1
    split
    · rfl
    · rw [updW_ne]; exact h1.resolve_right (by assumption)
  unfold partG
  split
  · exact k
  · rw [updW_ne _ _ (h2.resolve_right (by assumption))]; exact k

/-- one parts from a line -/
theorem part_line {g : Int → Int × Int} {A C : List Int} {s : Int} (h : Seg g 0 (A ++ s :: C) 0) (hz : ∀ x ∈ A ++ s :: C, 0 < x) (hd : (A ++ s :: C).Nodup) :
    g s = (A.getLastD 0, C.headD 0) ∧ Seg (partG g (g s)) 0 (A ++ C) 0 ∧ partE (e0 (endW (A ++ s :: C))) (g s) = endW (A ++ C) := by
  rw [Seg.app] at h
  obtain ⟨h1, h2⟩ := h
  rw [Seg] at h2
  obtain ⟨h2, h3⟩ := h2
  refine ⟨h2, ?_⟩
  rw [h2]
  simp only [List.headD_cons] at h1
  rw [List.nodup_append] at hd
  obtain ⟨hd1, hd2, hd3⟩ := hd
  rw [List.nodup_cons] at hd2
  have hC : ∀ x ∈ C, 0 < x := fun x hx => hz x (by simp [hx])
  have hA : ∀ x ∈ A, 0 < x := fun x hx => hz x (by simp [hx])
  have hAC : ∀ x ∈ A, ∀ y ∈ C, x ≠ y := fun x hx y hy => hd3 x hx y (by simp [hy])
  rcases List.eq_nil_or_concat A with rfl | ⟨A', a, rfl⟩
  · cases C with
    | nil => simp [Seg, partE, partF, endW]
    | cons c C' =>
      have hc : c ≠ 0 := by have := hC c (by simp); omega
      rw [Seg] at h3
      have hn : c ∉ C' := (List.nodup_cons.1 hd2.2).1
      refine ⟨?_, ?_⟩
      · simp only [List.nil_append, List.getLastD_nil, List.headD_cons]
        rw [Seg]
        refine ⟨by simp [partG, partG1, hc, updW, h3.1], Seg.congr (g := g) (fun x hx => partG_other (Or.inr rfl) (Or.inl fun e => hn ((show x = c from e) ▸ hx))) h3.2⟩
      · simp only [List.nil_append, List.getLastD_nil, List.headD_cons, endW, e0, Option.getD_some, partE, partF, partL, hc, if_true, if_false, List.getLastD_cons]
  · rw [List.concat_eq_append] at *
    have ha : a ≠ 0 := by have := hA a (by simp); omega
    have hl : (A' ++ [a]).getLastD 0 = a := by simp [List.getLastD_eq_getLast?]
    rw [hl] at h2 ⊢
    rw [Seg.app] at h1
    obtain ⟨h1, h1'⟩ := h1
    simp only [Seg, List.headD_nil, List.headD_cons, and_true] at h1 h1'
    have hna : a ∉ A' := fun hx => by
      rw [List.nodup_append] at hd1
      exact hd1.2.2 a hx a (by simp) rfl
    have hf : ∀ (L : List Int), ((A' ++ [a]) ++ L).headD 0 = A'.headD a := fun L => by rw [headD_app, headD_app]; rfl
    have hf0 : A'.headD a ≠ 0 := by
      have : 0 < A'.headD a := by
        cases A' with
        | nil => exact hA a (by simp)
        | cons b B => exact hA b (by simp)
      omega
    have hend : ∀ (L : List Int), endW ((A' ++ [a]) ++ L) = some (A'.headD a, L.getLastD a) := fun L => by
      cases A' with
      | nil => rfl
      | cons b B => simp [endW, List.getLastD_eq_getLast?, List.getLast?_cons]
    cases C with
    | nil =>
      refine ⟨?_, ?_⟩
      · simp only [List.headD_nil, List.append_nil]
        rw [Seg.app]
        refine ⟨Seg.congr (g := g) (fun x hx => partG_other (Or.inl fun e => hna ((show x = a from e) ▸ hx)) (Or.inr rfl)) h1, ?_⟩
        simp [Seg, partG, partG1, ha, updW, h1']
      · rw [hend, hend]
        simp only [e0, Option.getD_some, partE, partF, partL, List.headD_nil, if_true, if_neg ha, if_neg hf0, List.getLastD_nil]
    | cons c C' =>
      have hc : c ≠ 0 := by have := hC c (by simp); omega
      rw [Seg] at h3
      have hn : c ∉ C' := (List.nodup_cons.1 hd2.2).1
      have hac : a ≠ c := hAC a (by simp) c (by simp)
      simp only [List.headD_cons]
      refine ⟨?_, ?_⟩
      · rw [Seg.app, Seg.app]
        refine ⟨⟨Seg.congr (g := g) (fun x hx => partG_other (Or.inl fun e => hna ((show x = a from e) ▸ hx)) (Or.inl fun e => hAC x (by simp [hx]) c (by simp) e)) h1, ?_⟩, ?_⟩
        · simp [Seg, partG, partG1, ha, hc, hac, updW, h1']
        · rw [hl, Seg]
          refine ⟨by simp [partG, partG1, ha, hc, Ne.symm hac, updW, h3.1], Seg.congr (g := g) (fun x hx => partG_other (Or.inl fun e => hAC a (by simp) x (by simp [hx]) (show x = a from e).symm) (Or.inl fun e => hn ((show x = c from e) ▸ hx))) h3.2⟩
      · rw [hend, hend]
        simp only [e0, Option.getD_some, partE, partF, partL, if_neg ha, if_neg hc, if_neg hf0, List.getLastD_cons]

theorem LInv.link (h : LInv en lk M) (y : Ln) {s : Int} {A C : List Int} (hs : M y = A ++ s :: C) : lk y.k s = (A.getLastD 0, C.headD 0) := by
  have h1 := h.sg y
  rw [hs] at h1
  exact (part_line h1 (by rw [← hs]; exact h.nz y) (by rw [← hs]; exact h.nd y)).1

theorem LInv.part (h : LInv en lk M) (y : Ln) (s : Int) (hs : s ∈ M y) :
    LInv (updW en y (partE (e0 (en y)) (lk y.k s))) (updW lk y.k (partG (lk y.k) (lk y.k s))) (updW M y ((M y).erase s)) := by
  obtain ⟨A, C, hM⟩ := List.append_of_mem hs
  have hnd := h.nd y
  rw [hM] at hnd
  have hsA : s ∉ A := fun hx => by
    rw [List.nodup_append] at hnd
    exact hnd.2.2 s hx s (by simp) rfl
  have he : (M y).erase s = A ++ C := by rw [hM, List.erase_append_right _ hsA, List.erase_cons_head]
  have h1 := h.sg y
  have h2 := h.nz y
  rw [hM] at h1 h2
  obtain ⟨hg, hseg, hend⟩ := part_line h1 h2 hnd
  have hsub : ∀ t, t ∈ (M y).erase s → t ∈ M y := fun t ht => List.mem_of_mem_erase ht
  refine ⟨fun x => ?_, fun x => ?_, fun x => ?_, fun x => ?_, fun x z e t => ?_⟩
  · by_cases hx : x = y
    · subst hx
      rw [updW_same, updW_same, h.en x, he, hM, hend]
    · rw [updW_ne _ _ hx, updW_ne _ _ hx, h.en x]
  · by_cases hx : x = y
    · subst hx
      rw [updW_same, updW_same, he]
      exact hseg
    · rw [updW_ne _ _ hx]
      by_cases hk : x.k = y.k
      · rw [hk, updW_same, hg]
        refine Seg.congr (g := lk y.k) (fun t ht => ?_) (by rw [← hk]; exact h.sg x)
        refine partG_other ?_ ?_
        · rcases List.eq_nil_or_concat A with rfl | ⟨A', a, rfl⟩
          · exact Or.inr rfl
          · left
            rw [List.concat_eq_append] at *
            rw [show (A' ++ [a]).getLastD 0 = a by simp [List.getLastD_eq_getLast?]]
            intro e'
            exact hx (h.dj x y hk t ht (by rw [hM, e']; simp))
        · cases C with
          | nil => exact Or.inr rfl
          | cons c C' =>
            left
            intro e'
            have e' : t = c := e'
            exact hx (h.dj x y hk t ht (by rw [hM, e']; simp))
      · rw [updW_ne _ _ hk]
        exact h.sg x
  · by_cases hx : x = y
    · subst hx
      rw [updW_same]
      exact fun t ht => h.nz x t (hsub t ht)
    · rw [updW_ne _ _ hx]; exact h.nz x
  · by_cases hx : x = y
    · subst hx
      rw [updW_same]
      exact (h.nd x).erase s
    · rw [updW_ne _ _ hx]; exact h.nd x
  · intro k1 k2
    have m1 : t ∈ M x := by
      by_cases hx : x = y
      · subst hx; rw [updW_same] at k1; exact hsub t k1
      · rw [updW_ne _ _ hx] at k1; exact k1
    have m2 : t ∈ M z := by
      by_cases hx : z = y
      · subst hx; rw [updW_same] at k2; exact hsub t k2
      · rw [updW_ne _ _ hx] at k2; exact k2
    exact h.dj x z e t m1 m2

end Go.Proofs.Ytoabhmpakcgloaa
