/- Layer 13: the marker, on lists alone. -/
import Derived.Test.YtcogiklnegpfiaaSl
namespace Go.Proofs.Ytcogiklnegpfiaa
open Go.RowKit

abbrev Hd := Int × Int

/-- what can be come to -/
inductive Rc (lv : Hd → Bool) (tl : Hd → List Hd) (rts : List Hd) : Hd → Prop
  | root {x : Hd} : x ∈ rts → lv x = true → Rc lv tl rts x
  | step {x y : Hd} : Rc lv tl rts x → y ∈ tl x → lv y = true → Rc lv tl rts y

theorem Rc.lives {lv : Hd → Bool} {tl : Hd → List Hd} {rts : List Hd} {x : Hd} (h : Rc lv tl rts x) : lv x = true := by
  cases h <;> assumption

/-- the mark of a slot -/
def mg (mt : List Bool) (s : Int) : Bool := (mt[s.toNat]?).getD false
/-- one handle is met -/
def meetS (lv : Hd → Bool) (st : List Bool × List Hd) (x : Hd) : List Bool × List Hd :=
  if lv x && !mg st.1 x.1 then (st.1.set x.1.toNat true, st.2 ++ [x]) else st
def meets (lv : Hd → Bool) (st : List Bool × List Hd) (xs : List Hd) : List Bool × List Hd := xs.foldl (meetS lv) st
def unm (mt : List Bool) : Nat := mt.countP fun b => !b

theorem mg_set {mt : List Bool} {s t : Int} (hs : 0 ≤ s) (hl : s.toNat < mt.length) (ht : 0 ≤ t) : mg (mt.set s.toNat true) t = (decide (s = t) || mg mt t) := by
  unfold mg
  by_cases h : s = t
  · subst h
    simp [hl]
  · have : ¬ s.toNat = t.toNat := by omega
    rw [List.getElem?_set_ne this]
    simp [h]
theorem unm_set : ∀ {mt : List Bool} {i : Nat}, mt[i]? = some false → unm (mt.set i true) + 1 = unm mt
  | [], i, h => by simp at h
  | b :: mt, 0, h => by
    simp only [List.getElem?_cons_zero, Option.some.injEq] at h
    subst h
    simp [unm]
  | b :: mt, i + 1, h => by
    have := unm_set (mt := mt) (i := i) (by simpa using h)
    unfold unm at *
    rw [List.set_cons_succ, List.countP_cons, List.countP_cons]
    omega

/-- live handles: one in a slot, slots in bounds -/
structure LvOk (lv : Hd → Bool) (N : Nat) : Prop where
  one : ∀ x y, lv x = true → lv y = true → x.1 = y.1 → x = y
  bnd : ∀ x, lv x = true → 0 ≤ x.1 ∧ x.1.toNat < N

/-- the marker's state: marks, met and not asked yet, asked, to be met -/
structure MS (lv : Hd → Bool) (tl : Hd → List Hd) (rts : List Hd) (N : Nat) (mt : List Bool) (look A pend : List Hd) : Prop where
  len : mt.length = N
  snd : ∀ x, lv x = true → mg mt x.1 = true → Rc lv tl rts x
  rt : ∀ x, x ∈ rts → lv x = true → mg mt x.1 = true ∨ x ∈ pend
  cl : ∀ z, z ∈ A → ∀ y, y ∈ tl z → lv y = true → mg mt y.1 = true ∨ y ∈ pend
  pd : ∀ y, y ∈ pend → lv y = true → Rc lv tl rts y
  fr : ∀ x, lv x = true → mg mt x.1 = true → x ∈ A ∨ x ∈ look
  nd : (A ++ look).Nodup
  li : ∀ x, x ∈ A ++ look → lv x = true ∧ mg mt x.1 = true
  ct : A.length + look.length + unm mt = N

section
variable {lv : Hd → Bool} {tl : Hd → List Hd} {rts : List Hd} {N : Nat} {mt : List Bool} {look A pend : List Hd}

theorem mg_rep (N : Nat) (s : Int) : mg (List.replicate N false) s = false := by
  unfold mg
  rw [List.getElem?_replicate]
  split <;> rfl
theorem MS.start (N : Nat) : MS lv tl rts N (List.replicate N false) [] [] rts :=
  ⟨by simp, fun x _ h => (by rw [mg_rep] at h; cases h), fun x hx _ => .inr hx, fun z hz => (by cases hz), fun y hy hl => .root hy hl, fun x _ h => (by rw [mg_rep] at h; cases h), List.nodup_nil, fun x hx => (by cases hx), by simp [unm, List.countP_replicate]⟩

theorem MS.meet {y : Hd} (hv : LvOk lv N) (h : MS lv tl rts N mt look A (y :: pend)) :
    MS lv tl rts N (meetS lv (mt, []) y).1 (look ++ (meetS lv (mt, []) y).2) A pend ∧ unm (meetS lv (mt, []) y).1 + (meetS lv (mt, []) y).2.length = unm mt := by
  unfold meetS
  by_cases hl : lv y = true
  · by_cases hm : mg mt y.1 = true
    · rw [if_neg (by simp [hm])]
      refine ⟨⟨h.len, h.snd, fun x hx hlx => ?_, fun z hz x hx hlx => ?_, fun x hx => h.pd x (List.mem_cons_of_mem _ hx), ?_, ?_, ?_, ?_⟩, rfl⟩
      · rcases h.rt x hx hlx with h1 | h1
        · exact .inl h1
        · rcases List.mem_cons.1 h1 with rfl | h1
          · exact .inl hm
          · exact .inr h1
      · rcases h.cl z hz x hx hlx with h1 | h1
        · exact .inl h1
        · rcases List.mem_cons.1 h1 with rfl | h1
          · exact .inl hm
          · exact .inr h1
      · simpa using h.fr
      · simpa using h.nd
      · simpa using h.li
      · simpa using h.ct
    · have hm' : mg mt y.1 = false := by cases e : mg mt y.1 <;> simp_all
      rw [if_pos (by simp [hm', hl])]
      obtain ⟨b0, b1⟩ := hv.bnd y hl
      have hlen : y.1.toNat < mt.length := by rw [h.len]; exact b1
      have hg : ∀ x, lv x = true → mg (mt.set y.1.toNat true) x.1 = (decide (y.1 = x.1) || mg mt x.1) := fun x hx => mg_set b0 hlen (hv.bnd x hx).1
      have hmono : ∀ x, lv x = true → mg mt x.1 = true → mg (mt.set y.1.toNat true) x.1 = true := fun x hx e => by rw [hg x hx, e]; simp
      have hny : ¬ y ∈ A ++ look := fun hy => hm (h.li y hy).2
      refine ⟨⟨by simpa using h.len, fun x hx e => ?_, fun x hx hlx => ?_, fun z hz x hx hlx => ?_, fun x hx => h.pd x (List.mem_cons_of_mem _ hx), fun x hx e => ?_, ?_, fun x hx => ?_, ?_⟩, ?_⟩
      · rw [hg x hx] at e
        by_cases ey : y.1 = x.1
        · obtain rfl := hv.one _ _ hl hx ey
          exact h.pd y (List.mem_cons_self ..) hl
        · exact h.snd x hx (by simpa [ey] using e)
      · rcases h.rt x hx hlx with h1 | h1
        · exact .inl (hmono x hlx h1)
        · rcases List.mem_cons.1 h1 with rfl | h1
          · exact .inl (by rw [hg x hl]; simp)
          · exact .inr h1
      · rcases h.cl z hz x hx hlx with h1 | h1
        · exact .inl (hmono x hlx h1)
        · rcases List.mem_cons.1 h1 with rfl | h1
          · exact .inl (by rw [hg x hl]; simp)
          · exact .inr h1
      · rw [hg x hx] at e
        by_cases ey : y.1 = x.1
        · obtain rfl := hv.one _ _ hl hx ey
          exact .inr (by simp)
        · rcases h.fr x hx (by simpa [ey] using e) with h1 | h1
          · exact .inl h1
          · exact .inr (by simp [h1])
      · show (A ++ (look ++ ([] ++ [y]))).Nodup
        rw [List.nil_append, ← List.append_assoc, List.nodup_append]
        exact ⟨h.nd, by simp, fun a ha b hb e => by rw [List.mem_singleton] at hb; subst hb; subst e; exact hny ha⟩
      · have hx' : x ∈ A ++ look ∨ x = y := by simpa [or_assoc] using hx
        rcases hx' with h1 | rfl
        · exact ⟨(h.li x h1).1, hmono x (h.li x h1).1 (h.li x h1).2⟩
        · exact ⟨hl, by rw [hg x hl]; simp⟩
      · have hu : unm (mt.set y.1.toNat true) + 1 = unm mt := by
          apply unm_set
          unfold mg at hm'
          cases e : mt[y.1.toNat]? with
          | none => rw [List.getElem?_eq_none_iff] at e; omega
          | some b => rw [e] at hm'; cases b <;> simp_all
        have := h.ct
        simp only [List.nil_append, List.length_append, List.length_singleton]
        omega
      · simp only [List.nil_append, List.length_singleton]
        apply unm_set
        unfold mg at hm'
        cases e : mt[y.1.toNat]? with
        | none => rw [List.getElem?_eq_none_iff] at e; omega
        | some b => rw [e] at hm'; cases b <;> simp_all
  · have hl' : lv y = false := by cases e : lv y <;> simp_all
    rw [if_neg (by simp [hl'])]
    refine ⟨⟨h.len, h.snd, fun x hx hlx => ?_, fun z hz x hx hlx => ?_, fun x hx => h.pd x (List.mem_cons_of_mem _ hx), ?_, ?_, ?_, ?_⟩, rfl⟩
    · rcases h.rt x hx hlx with h1 | h1
      · exact .inl h1
      · rcases List.mem_cons.1 h1 with rfl | h1
        · exact absurd hlx hl
        · exact .inr h1
    · rcases h.cl z hz x hx hlx with h1 | h1
      · exact .inl h1
      · rcases List.mem_cons.1 h1 with rfl | h1
        · exact absurd hlx hl
        · exact .inr h1
    · simpa using h.fr
    · simpa using h.nd
    · simpa using h.li
    · simpa using h.ct

theorem meetS_app (st : List Bool × List Hd) (y : Hd) : meetS lv st y = ((meetS lv (st.1, []) y).1, st.2 ++ (meetS lv (st.1, []) y).2) := by
  unfold meetS
  dsimp only
  split <;> simp

/-- all of a list are met -/
theorem MS.meets (hv : LvOk lv N) : ∀ {pend : List Hd} {mt : List Bool} {look nx : List Hd}, MS lv tl rts N mt (look ++ nx) A pend →
    MS lv tl rts N (meets lv (mt, nx) pend).1 (look ++ (meets lv (mt, nx) pend).2) A [] ∧ unm (Proofs.Ytcogiklnegpfiaa.meets lv (mt, nx) pend).1 + (Proofs.Ytcogiklnegpfiaa.meets lv (mt, nx) pend).2.length = unm mt + nx.length
  | [], mt, look, nx, h => ⟨h, rfl⟩
  | y :: pend, mt, look, nx, h => by
    obtain ⟨h1, h2⟩ := h.meet hv
    have e := meetS_app (lv := lv) (mt, nx) y
    have key := MS.meets hv (pend := pend) (mt := (meetS lv (mt, []) y).1) (look := look) (nx := nx ++ (meetS lv (mt, []) y).2) (by rw [← List.append_assoc]; exact h1)
    have e2 : Proofs.Ytcogiklnegpfiaa.meets lv (mt, nx) (y :: pend) = Proofs.Ytcogiklnegpfiaa.meets lv ((meetS lv (mt, []) y).1, nx ++ (meetS lv (mt, []) y).2) pend := by
      unfold Proofs.Ytcogiklnegpfiaa.meets
      rw [List.foldl_cons, e]
    rw [e2]
    refine ⟨key.1, ?_⟩
    have k2 := key.2
    simp only [List.length_append] at k2
    omega

/-- one is asked -/
theorem MS.ask {x : Hd} (h : MS lv tl rts N mt (x :: look) A []) : MS lv tl rts N mt look (A ++ [x]) (tl x) ∧ lv x = true ∧ x ∉ A := by
  have hx : x ∈ A ++ x :: look := by simp
  have hlx := (h.li x hx)
  have hR := h.snd x hlx.1 hlx.2
  refine ⟨⟨h.len, h.snd, fun y hy hl => ?_, fun z hz y hy hl => ?_, fun y hy hl => .step hR hy hl, fun y hl e => ?_, by simpa using h.nd, fun y hy => h.li y (by simpa using hy), by have := h.ct; simp only [List.length_append, List.length_cons, List.length_nil] at this ⊢; omega⟩, hlx.1, ?_⟩
  · rcases h.rt y hy hl with h1 | h1
    · exact .inl h1
    · cases h1
  · rcases List.mem_append.1 hz with h1 | h1
    · rcases h.cl z h1 y hy hl with h2 | h2
      · exact .inl h2
      · cases h2
    · rw [List.mem_singleton] at h1
      subst h1
      exact .inr hy
  · rcases h.fr y hl e with h1 | h1
    · exact .inl (by simp [h1])
    · rcases List.mem_cons.1 h1 with rfl | h1
      · exact .inl (by simp)
      · exact .inr h1
  · intro hA
    have := h.nd
    rw [List.nodup_append] at this
    exact this.2.2 x hA x (by simp) rfl

/-- at the end -/
theorem MS.done (h : MS lv tl rts N mt [] A []) {x : Hd} (hl : lv x = true) : mg mt x.1 = true ↔ Rc lv tl rts x := by
  refine ⟨h.snd x hl, fun hr => ?_⟩
  have key : ∀ x, Rc lv tl rts x → mg mt x.1 = true := by
    intro x hx
    induction hx with
    | root h1 h2 => rcases h.rt _ h1 h2 with h3 | h3; exact h3; cases h3
    | step h1 h2 h3 ih =>
      rcases h.fr _ h1.lives ih with h4 | h4
      · rcases h.cl _ h4 _ h2 h3 with h5 | h5
        · exact h5
        · cases h5
      · cases h4
  exact key x hr
theorem MS.asked (h : MS lv tl rts N mt look A pend) : A.Nodup ∧ ∀ x ∈ A, lv x = true :=
  ⟨(List.nodup_append.1 h.nd).1, fun x hx => (h.li x (by simp [hx])).1⟩
theorem meets_len (st : List Bool × List Hd) : ∀ (xs : List Hd), (meets lv st xs).1.length = st.1.length := by
  intro xs
  induction xs generalizing st with
  | nil => rfl
  | cons x xs ih =>
    unfold meets at *
    rw [List.foldl_cons, ih]
    unfold meetS
    split <;> simp
end
end Go.Proofs.Ytcogiklnegpfiaa
