/- Layer 10: what holds of all things ever taken, on lists alone. -/
import Derived.Test.YtcogiklnegpfiaaSl
namespace Go.Proofs.Ytcogiklnegpfiaa
open Go.RowKit

section
variable {α : Type}

/-- slots are in bounds; the generation is how many the slot has had; what lives is alone in its slot -/
structure Wf (l : List (ThG α)) (M : Nat) : Prop where
  slot : ∀ t ∈ l, 1 ≤ t.s ∧ t.s ≤ M
  gen : ∀ i (h : i < l.length), l[i].g = gens (l.take i) l[i].s + 1
  one : ∀ i j (hi : i < l.length) (hj : j < l.length), l[i].d = false → l[j].d = false → l[i].s = l[j].s → i = j

theorem Wf.nil (M : Nat) : Wf ([] : List (ThG α)) M := ⟨fun _ h => (by cases h), fun i h => (by cases h), fun i j h => (by cases h)⟩

theorem gens_take_le (l : List (ThG α)) (s : Int) (i : Nat) : gens (l.take i) s ≤ gens l s := by
  unfold gens
  exact (List.take_sublist i l).countP_le
theorem gens_take_succ {l : List (ThG α)} {i : Nat} (h : i < l.length) : gens (l.take (i + 1)) l[i].s = gens (l.take i) l[i].s + 1 := by
  rw [List.take_succ_eq_append_getElem h, gens, List.countP_append]
  simp [gens]
theorem gens_mono (l : List (ThG α)) (s : Int) {i j : Nat} (h : i ≤ j) : gens (l.take i) s ≤ gens (l.take j) s := by
  have := gens_take_le (l.take j) s i
  rwa [List.take_take, Nat.min_eq_left h] at this
theorem Wf.uniq {l : List (ThG α)} {M : Nat} (h : Wf l M) {i j : Nat} (hi : i < l.length) (hj : j < l.length) (hs : l[i].s = l[j].s) (hg : l[i].g = l[j].g) : i = j := by
  have key : ∀ i j (hi : i < l.length) (hj : j < l.length), l[i].s = l[j].s → i < j → l[i].g < l[j].g := by
    intro i j hi hj hs hlt
    rw [h.gen i hi, h.gen j hj, ← hs]
    have := gens_mono l l[i].s (show i + 1 ≤ j by omega)
    rw [gens_take_succ hi] at this
    omega
  rcases Nat.lt_trichotomy i j with h1 | h1 | h1
  · have := key i j hi hj hs h1
    omega
  · exact h1
  · have := key j i hj hi hs.symm h1
    omega
theorem Wf.gen_le {l : List (ThG α)} {M : Nat} (h : Wf l M) {i : Nat} (hi : i < l.length) : l[i].g ≤ gens l l[i].s := by
  rw [h.gen i hi]
  have := gens_take_le l l[i].s (i + 1)
  rw [gens_take_succ hi] at this
  omega
theorem Wf.gen_pos {l : List (ThG α)} {M : Nat} (h : Wf l M) {i : Nat} (hi : i < l.length) : 1 ≤ l[i].g := by
  rw [h.gen i hi]
  omega

theorem fndF_of {s g : Int} : ∀ {l : List (ThG α)} {k i : Nat} (hi : i < l.length), l[i].s = s → l[i].g = g → l[i].d = false → (∀ j (hj : j < l.length), l[j].s = s → l[j].g = g → l[j].d = false → j = i) → fndF s g l k = some (k + i)
  | t :: l, k, 0, _, h1, h2, h3, _ => by
    simp only [List.getElem_cons_zero] at h1 h2 h3
    unfold fndF
    rw [if_pos (by simp [h1, h2, h3])]
    rfl
  | t :: l, k, i + 1, hi, h1, h2, h3, hu => by
    unfold fndF
    rw [if_neg]
    · rw [fndF_of (k := k + 1) (i := i) (by simpa using hi) (by simpa using h1) (by simpa using h2) (by simpa using h3) (fun j hj a b c => by have := hu (j + 1) (by simpa using hj) (by simpa using a) (by simpa using b) (by simpa using c); omega)]
      congr 1
      omega
    · intro hc
      simp only [Bool.and_eq_true, decide_eq_true_eq, Bool.not_eq_true'] at hc
      have := hu 0 (by simp) (by simpa using hc.1.1) (by simpa using hc.1.2) (by simpa using hc.2)
      omega
theorem Wf.fnd_live {l : List (ThG α)} {M : Nat} (h : Wf l M) {i : Nat} (hi : i < l.length) (hd : l[i].d = false) : fnd l l[i].s l[i].g = some i := by
  have := fndF_of (k := 0) hi rfl rfl hd (fun j hj a b _ => h.uniq hj hi a b)
  rwa [Nat.zero_add] at this
theorem Wf.fnd_gone {l : List (ThG α)} {M : Nat} (h : Wf l M) {i : Nat} (hi : i < l.length) (hd : l[i].d = true) : fnd l l[i].s l[i].g = none := by
  cases hf : fnd l l[i].s l[i].g with
  | none => rfl
  | some j =>
    obtain ⟨hj, a, b, c⟩ := fnd_some hf
    have := h.uniq hj hi a b
    subst this
    rw [hd] at c
    cases c
theorem Wf.fnB {l : List (ThG α)} {M : Nat} (h : Wf l M) {i : Nat} (hi : i < l.length) : fnB l l[i].s l[i].g = !l[i].d := by
  unfold Proofs.Ytcogiklnegpfiaa.fnB
  cases hd : l[i].d
  · rw [h.fnd_live hi hd]; rfl
  · rw [h.fnd_gone hi hd]; rfl
/-! ### How many live -/

def cntTo (l : List (ThG α)) (n : Nat) : Nat := l.countP fun t => !t.d && decide (t.s ≤ (n : Int))
theorem cnt_one {l : List (ThG α)} {s : Int} (h : ∀ i j (hi : i < l.length) (hj : j < l.length), l[i].d = false → l[j].d = false → l[i].s = s → l[j].s = s → i = j) : (l.countP fun t => !t.d && decide (t.s = s)) = if usd l s then 1 else 0 := by
  induction l with
  | nil => rfl
  | cons t l ih =>
    have ih' := ih (fun i j hi hj a b c d => by
      have := h (i + 1) (j + 1) (by simpa using hi) (by simpa using hj) (by simpa using a) (by simpa using b) (by simpa using c) (by simpa using d)
      omega)
    rw [List.countP_cons]
    by_cases ht : t.d = false ∧ t.s = s
    · have hu : usd l s = false := by
        cases hu : usd l s
        · rfl
        · unfold usd at hu
          obtain ⟨u, hu1, hu2⟩ := List.any_eq_true.1 hu
          obtain ⟨j, hj, rfl⟩ := List.getElem_of_mem hu1
          simp only [Bool.and_eq_true, decide_eq_true_eq, Bool.not_eq_true'] at hu2
          have := h 0 (j + 1) (by simp) (by simpa using hj) (by simpa using ht.1) (by simpa using hu2.2) (by simpa using ht.2) (by simpa using hu2.1)
          omega
      rw [ih', hu]
      have hu' : usd (t :: l) s = true := by simp [usd, ht.1, ht.2]
      rw [hu']
      simp [ht.1, ht.2]
    · have hn : (!t.d && decide (t.s = s)) = false := by
        cases hd : t.d
        · have : ¬ t.s = s := fun e => ht ⟨hd, e⟩
          simp [this]
        · rfl
      have hn' : (decide (t.s = s) && !t.d) = false := by rw [Bool.and_comm]; exact hn
      rw [ih', hn]
      have : usd (t :: l) s = usd l s := by simp only [usd, List.any_cons, hn', Bool.false_or]
      rw [this]
      simp
theorem cntTo_succ {l : List (ThG α)} {M : Nat} (h : Wf l M) (n : Nat) : cntTo l (n + 1) = cntTo l n + if usd l ((n : Int) + 1) then 1 else 0 := by
  rw [← cnt_one (s := (n : Int) + 1) (fun i j hi hj a b c d => h.one i j hi hj a b (c.trans d.symm))]
  unfold cntTo
  clear h
  induction l with
  | nil => rfl
  | cons t l ih =>
    simp only [List.countP_cons]
    have e : (if (!t.d && decide (t.s ≤ ((n + 1 : Nat) : Int))) = true then 1 else 0) = (if (!t.d && decide (t.s ≤ (n : Int))) = true then 1 else 0) + (if (!t.d && decide (t.s = (n : Int) + 1)) = true then 1 else 0) := by
      cases t.d
      · by_cases h1 : t.s ≤ (n : Int)
        · have h2 : t.s ≤ ((n + 1 : Nat) : Int) := by omega
          have h3 : ¬ t.s = (n : Int) + 1 := by omega
          simp [h1, h3]
          omega
        · by_cases h3 : t.s = (n : Int) + 1
          · have h2 : t.s ≤ ((n + 1 : Nat) : Int) := by omega
            simp [h3]
            omega
          · have h2 : ¬ t.s ≤ ((n + 1 : Nat) : Int) := by omega
            simp [h1, h3]
            omega
      · rfl
    rw [ih, e]
    omega
theorem cntTo_zero {l : List (ThG α)} {M : Nat} (h : Wf l M) : cntTo l 0 = 0 := by
  unfold cntTo
  rw [List.countP_eq_zero]
  intro t ht
  have := (h.slot t ht).1
  simp
  intro _
  omega
theorem cntTo_all {l : List (ThG α)} {M : Nat} (h : Wf l M) : cntTo l M = cnt l := by
  unfold cntTo cnt
  apply List.countP_congr
  intro t ht
  have := (h.slot t ht).2
  simp [this]
theorem cntTo_le {l : List (ThG α)} {M : Nat} (h : Wf l M) (n : Nat) : cntTo l n ≤ n := by
  induction n with
  | zero => rw [cntTo_zero h]; exact Nat.le_refl _
  | succ n ih =>
    rw [cntTo_succ h]
    split <;> omega
/-- none is empty: all slots are used -/
theorem emp_none {l : List (ThG α)} : ∀ {n : Nat} {s : Int}, emp l n s = none → ∀ i : Nat, i < n → usd l (s + i) = true
  | 0, _, _, i, hi => by omega
  | n + 1, s, h, i, hi => by
    unfold emp at h
    split at h
    · rename_i hu
      cases i with
      | zero => simpa using hu
      | succ i =>
        have := emp_none h i (by omega)
        rw [← this]
        congr 1
        omega
    · cases h
theorem emp_some {l : List (ThG α)} : ∀ {n : Nat} {s r : Int}, emp l n s = some r → usd l r = false ∧ s ≤ r ∧ r < s + n
  | 0, _, _, h => by cases h
  | n + 1, s, r, h => by
    unfold emp at h
    split at h
    · have := emp_some h
      exact ⟨this.1, by omega, by omega⟩
    · rename_i hu
      cases h
      exact ⟨by simpa using hu, by omega, by omega⟩
/-- it is full just if so many live -/
theorem Wf.full {l : List (ThG α)} {M : Nat} (h : Wf l M) : tkB l M = decide (cnt l < M) := by
  rw [← cntTo_all h]
  unfold tkB
  cases he : emp l M 1 with
  | none =>
    have hu := emp_none he
    have : ∀ n, n ≤ M → cntTo l n = n := by
      intro n
      induction n with
      | zero => intro _; exact cntTo_zero h
      | succ n ih =>
        intro hn
        have := hu n (by omega)
        rw [cntTo_succ h, ih (by omega), show (n : Int) + 1 = 1 + n by omega, this]
        rfl
    rw [this M (Nat.le_refl _)]
    simp
  | some s =>
    obtain ⟨h1, h2, h3⟩ := emp_some he
    obtain ⟨k, rfl⟩ : ∃ k : Nat, s = (k : Int) + 1 := ⟨(s - 1).toNat, by omega⟩
    have hk : cntTo l (k + 1) ≤ k := by
      rw [cntTo_succ h, h1]
      have := cntTo_le h k
      simpa using this
    have : ∀ n, cntTo l (k + 1 + n) ≤ k + n := by
      intro n
      induction n with
      | zero => exact hk
      | succ n ih =>
        rw [show k + 1 + (n + 1) = (k + 1 + n) + 1 by omega, cntTo_succ h]
        split <;> omega
    have := this (M - (k + 1))
    rw [show k + 1 + (M - (k + 1)) = M by omega] at this
    symm
    simp
    omega
theorem Wf.cnt_le {l : List (ThG α)} {M : Nat} (h : Wf l M) : cnt l ≤ M := by
  rw [← cntTo_all h]
  exact cntTo_le h M

/-! ### It stays so -/

theorem usd_false {l : List (ThG α)} {s : Int} (h : usd l s = false) {i : Nat} (hi : i < l.length) (hd : l[i].d = false) : l[i].s ≠ s := fun e => by
  have : usd l s = true := by
    unfold usd
    rw [List.any_eq_true]
    exact ⟨l[i], List.getElem_mem hi, by simp [e, hd]⟩
  rw [h] at this
  cases this
theorem Wf.tkd {l : List (ThG α)} {M : Nat} (h : Wf l M) (x : α) : Wf (tkd l M x) M := by
  unfold Proofs.Ytcogiklnegpfiaa.tkd
  cases he : emp l M 1 with
  | none => exact h
  | some s =>
    obtain ⟨h1, h2, h3⟩ := emp_some he
    show Wf (tkn l s x) M
    unfold tkn
    refine ⟨fun t ht => ?_, fun i hi => ?_, fun i j hi hj a b c => ?_⟩
    · rcases List.mem_append.1 ht with ht | ht
      · exact h.slot t ht
      · rw [List.mem_singleton.1 ht]
        exact ⟨h2, by show s ≤ M; omega⟩
    · rw [List.length_append, List.length_singleton] at hi
      by_cases hl : i < l.length
      · rw [List.getElem_append_left hl, List.take_append_of_le_length (by omega)]
        exact h.gen i hl
      · have : i = l.length := by omega
        subst this
        rw [List.getElem_append_right (Nat.le_refl _), List.take_left']
        · simp
        · rfl
    · rw [List.length_append, List.length_singleton] at hi hj
      by_cases hl : i < l.length
      · rw [List.getElem_append_left hl] at a c
        by_cases hl' : j < l.length
        · rw [List.getElem_append_left hl'] at b c
          exact h.one i j hl hl' a b c
        · have : j = l.length := by omega
          subst this
          rw [List.getElem_append_right (Nat.le_refl _)] at c
          simp at c
          exact absurd c (usd_false h1 hl a)
      · have : i = l.length := by omega
        subst this
        rw [List.getElem_append_right (Nat.le_refl _)] at c
        by_cases hl' : j < l.length
        · rw [List.getElem_append_left hl'] at b c
          simp at c
          exact absurd c.symm (usd_false h1 hl' b)
        · omega
theorem gens_mod (l : List (ThG α)) (i : Nat) (f : ThG α → ThG α) (hf : ∀ t, (f t).s = t.s) (k : Nat) (s : Int) : gens ((l.modify i f).take k) s = gens (l.take k) s := by
  unfold gens
  induction l generalizing i k with
  | nil => simp
  | cons t l ih =>
    cases k with
    | zero => simp
    | succ k =>
      cases i with
      | zero => simp [hf, List.countP_cons]
      | succ i => simp [ih, List.countP_cons]
theorem Wf.mod {l : List (ThG α)} {M : Nat} (h : Wf l M) (i : Nat) (f : ThG α → ThG α) (hf : ∀ t, (f t).s = t.s) (hg : ∀ t, (f t).g = t.g) (hd : ∀ t, (f t).d = false → t.d = false) : Wf (l.modify i f) M := by
  have at_ : ∀ k (hk : k < (l.modify i f).length) (hk' : k < l.length), (l.modify i f)[k].s = l[k].s ∧ (l.modify i f)[k].g = l[k].g ∧ ((l.modify i f)[k].d = false → l[k].d = false) := by
    intro k hk hk'
    rw [List.getElem_modify]
    split
    · exact ⟨hf _, hg _, hd _⟩
    · exact ⟨rfl, rfl, id⟩
  refine ⟨fun t ht => ?_, fun k hk => ?_, fun a b ha hb da db e => ?_⟩
  · obtain ⟨k, hk, rfl⟩ := List.getElem_of_mem ht
    have hk' : k < l.length := by simpa using hk
    rw [(at_ k hk hk').1]
    exact h.slot _ (List.getElem_mem hk')
  · have hk' : k < l.length := by simpa using hk
    rw [(at_ k hk hk').1, (at_ k hk hk').2.1, gens_mod l i f hf]
    exact h.gen k hk'
  · have ha' : a < l.length := by simpa using ha
    have hb' : b < l.length := by simpa using hb
    rw [(at_ a ha ha').1, (at_ b hb hb').1] at e
    exact h.one a b ha' hb' ((at_ a ha ha').2.2 da) ((at_ b hb hb').2.2 db) e
theorem Wf.frd {l : List (ThG α)} {M : Nat} (h : Wf l M) (s g : Int) : Wf (frd l s g) M := by
  unfold Proofs.Ytcogiklnegpfiaa.frd
  cases fnd l s g with
  | none => exact h
  | some i => exact h.mod i _ (fun _ => rfl) (fun _ => rfl) (fun _ h => by cases h)
theorem Wf.std {l : List (ThG α)} {M : Nat} (h : Wf l M) (s g : Int) (x : α) : Wf (std l s g x) M := by
  unfold Proofs.Ytcogiklnegpfiaa.std
  cases fnd l s g with
  | none => exact h
  | some i => exact h.mod i _ (fun _ => rfl) (fun _ => rfl) (fun _ h => h)

end
theorem Wf.gtX {l : List Th} {M : Nat} (h : Wf l M) {i : Nat} (hi : i < l.length) (hd : l[i].d = false) : gtX l l[i].s l[i].g = l[i].x := by
  unfold Proofs.Ytcogiklnegpfiaa.gtX
  rw [h.fnd_live hi hd]
  simp [hi]

end Go.Proofs.Ytcogiklnegpfiaa
