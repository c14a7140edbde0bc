/- Tokens, on lists of bytes alone: each stands where it says, and between two is nothing of weight. -/
import Derived.Test.YtjkogjmbmkopiaaDoorLz
namespace Go.Proofs.YtjkogjmbmkopiaaDoor
open Go.Lib

/-- blanks, line ends and comments alone; how many line ends -/
inductive Gap : List UInt8 → Nat → Prop
  | nil : Gap [] 0
  | line {c : UInt8} {r : List UInt8} {n : Nat} : c.toNat = 10 → Gap r n → Gap (c :: r) (n + 1)
  | blank {c : UInt8} {r : List UInt8} {n : Nat} : (c.toNat = 32 ∨ c.toNat = 9 ∨ c.toNat = 13) → Gap r n → Gap (c :: r) n
  | comment {l : List UInt8} {n : Nat} : 0 < cmt l → Gap (l.drop (cmt l)) n → Gap l n

theorem Gap.inv {l : List UInt8} {n : Nat} (h : Gap l n) : (l = [] ∧ n = 0) ∨ (∃ c r m, l = c :: r ∧ c.toNat = 10 ∧ n = m + 1 ∧ Gap r m) ∨ (∃ c r, l = c :: r ∧ (c.toNat = 32 ∨ c.toNat = 9 ∨ c.toNat = 13) ∧ Gap r n) ∨ (0 < cmt l ∧ Gap (l.drop (cmt l)) n) := by
  cases h with
  | nil => exact Or.inl ⟨rfl, rfl⟩
  | line hc hg => exact Or.inr (Or.inl ⟨_, _, _, rfl, hc, rfl, hg⟩)
  | blank hc hg => exact Or.inr (Or.inr (Or.inl ⟨_, _, rfl, hc, hg⟩))
  | comment hc hg => exact Or.inr (Or.inr (Or.inr ⟨hc, hg⟩))

/-- how many bytes a token has in its source, l: the source from where it begins -/
def szOf (l : List UInt8) (t : Tok) : Nat :=
  if t.k = 3 then (itoa t.n).length else if t.k = 4 then (match unquote l with | some p => p.2 | none => 0) else if t.k = 6 ∧ t.t = [10] then 0 else t.t.length

/-- what is asked of a token at its place -/
structure Fits (l : List UInt8) (t : Tok) : Prop where
  size : szOf l t ≤ l.length
  kind : ¬ t.k = 0
  text : t.k = 1 ∨ t.k = 2 ∨ t.k = 5 → l.take (szOf l t) = t.t
  num : t.k = 3 → 0 ≤ t.n ∧ t.n ≤ 9223372036854775807

/-- tokens one behind the other, from a place on -/
inductive Pl : List UInt8 → Nat → Nat → List Tok → Prop
  | last {l : List UInt8} {a ln n : Nat} {t : Tok} : Gap l n → t = endAt (a + l.length) (ln + n) → Pl l a ln [t]
  | more {l g l' : List UInt8} {a ln n : Nat} {t : Tok} {r : List Tok} : l = g ++ l' → Gap g n → t.at_ = a + g.length → t.line = ln + n → Fits l' t → Pl (l'.drop (szOf l' t)) (t.at_ + szOf l' t) t.line r → Pl l a ln (t :: r)

theorem Pl.line {c : UInt8} {r : List UInt8} {a ln : Nat} {x : List Tok} (hc : c.toNat = 10) (h : Pl r (a + 1) (ln + 1) x) : Pl (c :: r) a ln x := by
  cases h with
  | last hg ht => exact .last (.line hc hg) (by rw [ht, List.length_cons]; congr 1 <;> omega)
  | more hl hg ha hln hf hp => exact .more (by rw [hl, List.cons_append]) (.line hc hg) (by rw [ha, List.length_cons]; omega) (by rw [hln]; omega) hf hp
theorem Pl.blank {c : UInt8} {r : List UInt8} {a ln : Nat} {x : List Tok} (hc : c.toNat = 32 ∨ c.toNat = 9 ∨ c.toNat = 13) (h : Pl r (a + 1) ln x) : Pl (c :: r) a ln x := by
  cases h with
  | last hg ht => exact .last (.blank hc hg) (by rw [ht, List.length_cons]; congr 1; omega)
  | more hl hg ha hln hf hp => exact .more (by rw [hl, List.cons_append]) (.blank hc hg) (by rw [ha, List.length_cons]; omega) hln hf hp

theorem up_head (l : List UInt8) : l.drop (upTo10 l) = [] ∨ ∃ r, l.drop (upTo10 l) = 10 :: r := by
  induction l with
  | nil => exact Or.inl rfl
  | cons c r ih =>
    unfold upTo10
    by_cases h : c.toNat = 10
    · rw [if_pos h]
      exact Or.inr ⟨r, by rw [List.drop_zero]; congr 1; exact UInt8.toNat_inj.1 h⟩
    · rw [if_neg h, List.drop_succ_cons]
      exact ih

theorem up_take (l g : List UInt8) (hg : g = [] ∨ ∃ r, g = 10 :: r) : upTo10 (l.take (upTo10 l) ++ g) = upTo10 l := by
  have h0 : upTo10 g = 0 := by
    rcases hg with rfl | ⟨r, rfl⟩ <;> rfl
  induction l with
  | nil => exact h0
  | cons c r ih =>
    have e : upTo10 (c :: r) = if c.toNat = 10 then 0 else upTo10 r + 1 := rfl
    rw [e]
    by_cases h : c.toNat = 10
    · rw [if_pos h, List.take_zero, List.nil_append]
      exact h0
    · rw [if_neg h, List.take_succ_cons, List.cons_append]
      show (if c.toNat = 10 then 0 else upTo10 (r.take (upTo10 r) ++ g) + 1) = _
      rw [if_neg h, ih]

theorem cmt_take {l : List UInt8} (h : 0 < cmt l) {g : List UInt8} (hg : g = [] ∨ ∃ r, g = 10 :: r) : cmt (l.take (cmt l) ++ g) = cmt l ∧ cmt l = upTo10 l := by
  match l, h with
  | a :: b :: r, h =>
    have hc : a.toNat = 47 ∧ b.toNat = 47 := by
      by_cases hc : a.toNat = 47 ∧ b.toNat = 47
      · exact hc
      · exact absurd h (by show ¬ 0 < if a.toNat = 47 ∧ b.toNat = 47 then _ else 0; rw [if_neg hc]; decide)
    have e1 : cmt (a :: b :: r) = upTo10 (a :: b :: r) := if_pos hc
    have e2 : upTo10 (a :: b :: r) = upTo10 r + 1 + 1 := by
      show (if a.toNat = 10 then 0 else (if b.toNat = 10 then 0 else upTo10 r + 1) + 1) = _
      rw [if_neg (by omega), if_neg (by omega)]
    refine ⟨?_, e1⟩
    rw [e1, e2, List.take_succ_cons, List.take_succ_cons, List.cons_append, List.cons_append]
    have e3 : cmt (a :: b :: (r.take (upTo10 r) ++ g)) = upTo10 (a :: b :: (r.take (upTo10 r) ++ g)) := if_pos hc
    rw [e3]
    show (if a.toNat = 10 then 0 else (if b.toNat = 10 then 0 else upTo10 (r.take (upTo10 r) ++ g) + 1) + 1) = _
    rw [if_neg (by omega), if_neg (by omega), up_take r g hg]
  | [], h => exact absurd h (by decide)
  | [a], h => exact absurd h (by show ¬ 0 < 0; decide)

theorem Pl.comment {l : List UInt8} {a ln : Nat} {x : List Tok} (hc : 0 < cmt l) (h : Pl (l.drop (cmt l)) (a + cmt l) ln x) : Pl l a ln x := by
  have hle := cmt_le l
  have e1 := (cmt_take hc (g := []) (Or.inl rfl)).2
  have hh := up_head l
  rw [← e1] at hh
  generalize hd : l.drop (cmt l) = d at *
  have hld : l = l.take (cmt l) ++ d := by rw [← hd, List.take_append_drop]
  cases h with
  | last hg ht =>
    refine .last (.comment hc (by rw [hd]; exact hg)) ?_
    have : d.length = l.length - cmt l := by rw [← hd, List.length_drop]
    rw [ht]
    congr 1
    omega
  | @more _ g l' _ _ n t r hl hg ha hln hf hp =>
    have hgg : g = [] ∨ ∃ r, g = 10 :: r := by
      cases g with
      | nil => exact Or.inl rfl
      | cons y g' =>
        rcases hh with hh | ⟨r', hh⟩
        · rw [hh] at hl; cases hl
        · rw [hh, List.cons_append] at hl
          exact Or.inr ⟨g', by rw [(List.cons.inj hl).1]⟩
    have e2 := (cmt_take hc hgg).1
    refine .more (g := l.take (cmt l) ++ g) (by rw [List.append_assoc, ← hl]; exact hld) (n := n) ?_ ?_ hln hf hp
    · refine .comment (by rw [e2]; exact hc) ?_
      rw [e2, List.drop_append_of_le_length (by rw [List.length_take]; omega), List.drop_of_length_le (by rw [List.length_take]; omega), List.nil_append]
      exact hg
    · rw [ha, List.length_append, List.length_take]; omega

theorem pe_zero {l : List UInt8} (h : pe l = 0) : Formed l ∧ dval 0 (mag l) ≤ lim l ∧ pv l = pval l := by
  unfold pe at h
  cases hf : isForm l
  · rw [hf] at h; exact absurd h (by simp)
  · by_cases hv : dval 0 (mag l) ≤ lim l
    · exact ⟨(isForm_iff l).1 hf, hv, (p_ok hf hv).1.symm⟩
    · rw [hf, if_pos rfl, decide_eq_false hv] at h; exact absurd h (by simp)

theorem tk_fits {l : List UInt8} (h : (tk l).e = 0) (a ln : Nat) : szOf l ⟨(tk l).k, (tk l).t, (tk l).n, a, ln⟩ = (tk l).len ∧ Fits l ⟨(tk l).k, (tk l).t, (tk l).n, a, ln⟩ := by
  have hlen := tk_len h
  have key : szOf l ⟨(tk l).k, (tk l).t, (tk l).n, a, ln⟩ = (tk l).len ∧ (¬ (tk l).k = 0) ∧ ((tk l).k = 1 ∨ (tk l).k = 2 ∨ (tk l).k = 5 → l.take (tk l).len = (tk l).t) ∧ ((tk l).k = 3 → 0 ≤ (tk l).n ∧ (tk l).n ≤ 9223372036854775807) := by
    clear hlen
    cases l with
    | nil => exact absurd h (by unfold tk tkErr; decide)
    | cons c r =>
      have hd : tk (c :: r) = if letter c.toNat then tkName (c :: r) else if digit c.toNat then tkNum (c :: r) else if c.toNat = 34 then tkText (c :: r) else tkSign (c :: r) := rfl
      rw [hd] at h ⊢
      have hrl := runN_le (c :: r)
      by_cases h1 : letter c.toNat = true
      · rw [if_pos h1] at h ⊢
        unfold tkName at h ⊢
        cases hw : isWord ⟨((c :: r).take (runN (c :: r))).toArray⟩
        · rw [hw, if_neg (by simp)] at h
          rw [if_neg (by simp)]
          by_cases hn : 30 < runN (c :: r)
          · rw [if_pos hn] at h; exact absurd h (by unfold tkErr; decide)
          · rw [if_neg hn]
            refine ⟨?_, by simp, fun _ => rfl, fun h => absurd h (by simp)⟩
            unfold szOf
            rw [if_neg (by simp), if_neg (by simp), if_neg (fun e => absurd e.1 (by simp)), List.length_take]
            simp only
            omega
        · rw [if_pos rfl]
          refine ⟨?_, by simp, fun _ => rfl, fun h => absurd h (by simp)⟩
          unfold szOf
          rw [if_neg (by simp), if_neg (by simp), if_neg (fun e => absurd e.1 (by simp)), List.length_take]
          simp only
          omega
      rw [if_neg h1] at h ⊢
      by_cases h2 : digit c.toNat = true
      · rw [if_pos h2] at h ⊢
        unfold tkNum at h ⊢
        by_cases hp : pe ((c :: r).take (runN (c :: r))) = 0
        · rw [if_pos hp]
          obtain ⟨f1, f2, f3⟩ := pe_zero hp
          refine ⟨?_, by simp, fun h => absurd h (by simp), fun _ => ?_⟩
          · unfold szOf
            rw [if_pos rfl]
            simp only
            rw [f3, formed_back f1, List.length_take]
            omega
          · simp only
            rw [f3]
            have hm : minus ((c :: r).take (runN (c :: r))) = false := by
              have hp : runN (c :: r) = (runN (c :: r) - 1) + 1 := by
                have := runN_pos (c := c) (r := r) (by unfold ld; rw [h2, Bool.or_true])
                omega
              rw [hp, List.take_succ_cons]
              unfold minus
              simp only
              unfold digit at h2
              simp at h2 ⊢
              omega
            unfold pval
            unfold lim at f2
            rw [hm] at f2 ⊢
            simp only [Bool.false_eq_true, if_false] at f2 ⊢
            omega
        · rw [if_neg hp] at h; exact absurd h (by unfold tkErr; decide)
      rw [if_neg h2] at h ⊢
      by_cases h3 : c.toNat = 34
      · rw [if_pos h3] at h ⊢
        unfold tkText at h ⊢
        cases hu : unquote (c :: r) with
        | none => rw [hu] at h; exact absurd h (by unfold tkErr; decide)
        | some p =>
          refine ⟨?_, by simp, fun h => absurd h (by simp), fun h => absurd h (by simp)⟩
          unfold szOf
          rw [if_neg (by simp), if_pos rfl, hu]
      · rw [if_neg h3] at h ⊢
        unfold tkSign at h ⊢
        cases hs : sgn (c :: r) with
        | none => rw [hs] at h; exact absurd h (by unfold tkErr; decide)
        | some g =>
          obtain ⟨m1, m2⟩ := sgn_mem hs
          simp only
          by_cases h59 : g = [59]
          · rw [if_pos h59]
            refine ⟨?_, by simp, fun h => absurd h (by simp), fun h => absurd h (by simp)⟩
            unfold szOf
            rw [if_neg (by simp), if_neg (by simp), if_neg (fun e => absurd e.2 (by simp))]
            rfl
          · rw [if_neg h59]
            refine ⟨?_, by simp, fun _ => (List.prefix_iff_eq_take.1 (List.isPrefixOf_iff_prefix.1 m2)).symm, fun h => absurd h (by simp)⟩
            unfold szOf
            rw [if_neg (by simp), if_neg (by simp), if_neg (fun e => absurd e.1 (by simp))]
  obtain ⟨k1, k2, k3, k4⟩ := key
  exact ⟨k1, by rw [k1]; exact hlen.2, k2, by rw [k1]; exact k3, k4⟩

theorem semi_fits (l : List UInt8) (a ln : Nat) : szOf l (semiAt a ln) = 0 ∧ Fits l (semiAt a ln) := by
  have e : szOf l (semiAt a ln) = 0 := by unfold szOf semiAt; rw [if_neg (by simp), if_neg (by simp), if_pos ⟨rfl, rfl⟩]
  exact ⟨e, by rw [e]; exact Nat.zero_le _, by simp [semiAt], fun h => absurd h (by simp [semiAt]), fun h => absurd h (by simp [semiAt])⟩

theorem Pl.semi {l : List UInt8} {a ln : Nat} {x : List Tok} (h : Pl l a ln x) : Pl l a ln (semiAt a ln :: x) := by
  obtain ⟨e, f⟩ := semi_fits l a ln
  refine .more (g := []) (l' := l) rfl .nil rfl rfl f ?_
  rw [e, List.drop_zero]
  exact h

theorem scanFrom_places : ∀ (f : Nat) (l : List UInt8) (a ln : Nat) (k : Int) (t : List UInt8) (x : List Tok), scanFrom f l a ln k t = .ok x → l.length + 1 ≤ f → Pl l a ln x := by
  intro f
  induction f with
  | zero => intro l a ln k t x h hf; omega
  | succ f ih =>
    intro l a ln k t x h hf
    cases l with
    | nil =>
      rw [scanFrom_nil] at h
      cases h
      have p : Pl [] a ln [endAt a ln] := .last .nil rfl
      split
      · exact p.semi
      · exact p
    | cons c r =>
      rw [scanFrom_cons] at h
      rw [List.length_cons] at hf
      by_cases h0 : 0 < cmt (c :: r)
      · rw [if_pos h0] at h
        exact .comment h0 (ih _ _ _ _ _ x h (by rw [List.length_drop, List.length_cons]; omega))
      rw [if_neg h0] at h
      by_cases h10 : c.toNat = 10
      · rw [if_pos h10] at h
        cases hs : scanFrom f r (a + 1) (ln + 1) 0 [] with
        | error p => rw [hs] at h; cases h
        | ok y =>
          rw [hs] at h
          cases h
          have p := Pl.line h10 (ih _ _ _ _ _ y hs (by omega))
          split
          · exact p.semi
          · exact p
      rw [if_neg h10] at h
      by_cases hb : c.toNat = 32 ∨ c.toNat = 9 ∨ c.toNat = 13
      · rw [if_pos hb] at h
        exact .blank hb (ih _ _ _ _ _ x h (by omega))
      rw [if_neg hb] at h
      by_cases he : (tk (c :: r)).e = 0
      · have hl := tk_len he
        rw [if_pos he] at h
        cases hs : scanFrom f ((c :: r).drop (tk (c :: r)).len) (a + (tk (c :: r)).len) ln (tk (c :: r)).k (tk (c :: r)).t with
        | error p => rw [hs] at h; cases h
        | ok y =>
          rw [hs] at h
          cases h
          obtain ⟨e1, e2⟩ := tk_fits he a ln
          refine .more (g := []) (l' := c :: r) rfl .nil rfl rfl e2 ?_
          rw [e1]
          exact ih _ _ _ _ _ y hs (by rw [List.length_drop, List.length_cons]; omega)
      · rw [if_neg he] at h; cases h

theorem scan_places {l : List UInt8} {x : List Tok} (h : scan l = .ok x) : Pl l 0 1 x := by
  unfold scan at h
  by_cases hl : 20000 < l.length
  · rw [if_pos hl] at h; cases h
  · rw [if_neg hl] at h
    exact scanFrom_places _ _ _ _ _ _ x h (Nat.le_refl _)

theorem scanFrom_fault : ∀ (f : Nat) (l : List UInt8) (a ln : Nat) (k : Int) (t : List UInt8) (p : Nat) (e : Int), scanFrom f l a ln k t = .error (p, e) → p ≤ a + l.length ∧ ¬ e = 0 := by
  intro f
  induction f with
  | zero => intro l a ln k t p e h; cases h
  | succ f ih =>
    intro l a ln k t p e h
    cases l with
    | nil => rw [scanFrom_nil] at h; cases h
    | cons c r =>
      rw [scanFrom_cons] at h
      have hcl := cmt_le (c :: r)
      rw [List.length_cons] at hcl ⊢
      by_cases h0 : 0 < cmt (c :: r)
      · rw [if_pos h0] at h
        have := ih _ _ _ _ _ p e h
        rw [List.length_drop, List.length_cons] at this
        exact ⟨by omega, this.2⟩
      rw [if_neg h0] at h
      by_cases h10 : c.toNat = 10
      · rw [if_pos h10] at h
        cases hs : scanFrom f r (a + 1) (ln + 1) 0 [] with
        | ok y => rw [hs] at h; cases h
        | error q =>
          rw [hs] at h
          cases h
          have := ih _ _ _ _ _ p e hs
          exact ⟨by omega, this.2⟩
      rw [if_neg h10] at h
      by_cases hb : c.toNat = 32 ∨ c.toNat = 9 ∨ c.toNat = 13
      · rw [if_pos hb] at h
        have := ih _ _ _ _ _ p e h
        exact ⟨by omega, this.2⟩
      rw [if_neg hb] at h
      by_cases he : (tk (c :: r)).e = 0
      · have hl := tk_len he
        rw [List.length_cons] at hl
        rw [if_pos he] at h
        cases hs : scanFrom f ((c :: r).drop (tk (c :: r)).len) (a + (tk (c :: r)).len) ln (tk (c :: r)).k (tk (c :: r)).t with
        | ok y => rw [hs] at h; cases h
        | error q =>
          rw [hs] at h
          cases h
          have := ih _ _ _ _ _ p e hs
          rw [List.length_drop, List.length_cons] at this
          exact ⟨by omega, this.2⟩
      · rw [if_neg he] at h
        cases h
        exact ⟨by omega, he⟩

theorem scan_fault {l : List UInt8} {p : Nat} {e : Int} (h : scan l = .error (p, e)) : p ≤ l.length ∧ ¬ e = 0 := by
  unfold scan at h
  by_cases hl : 20000 < l.length
  · rw [if_pos hl] at h; cases h; exact ⟨Nat.zero_le _, by decide⟩
  · rw [if_neg hl] at h
    have := scanFrom_fault _ _ _ _ _ _ p e h
    exact ⟨by omega, this.2⟩

end Go.Proofs.YtjkogjmbmkopiaaDoor
