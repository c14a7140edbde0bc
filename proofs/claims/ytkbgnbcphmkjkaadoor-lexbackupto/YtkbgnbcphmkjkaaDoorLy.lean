/- Tokens, on lists of bytes alone: what a line's end or a blank behind a piece of a source changes (nothing); a source's places, shifted; two sources with a line's end between. -/
import Derived.Test.YtkbgnbcphmkjkaaDoorLx
namespace Go.Proofs.YtkbgnbcphmkjkaaDoor

theorem scanFrom_nil (f a ln : Nat) (k : Int) (t : List UInt8) : scanFrom (f + 1) [] a ln k t = .ok ((if callsK k t then [semiAt a ln] else []) ++ [endAt a ln]) := rfl
theorem scanFrom_cons (f a ln : Nat) (k : Int) (t : List UInt8) (c : UInt8) (r : List UInt8) : scanFrom (f + 1) (c :: r) a ln k t =
      if 0 < cmt (c :: r) then scanFrom f ((c :: r).drop (cmt (c :: r))) (a + cmt (c :: r)) ln k t
      else if c.toNat = 10 then (scanFrom f r (a + 1) (ln + 1) 0 []).map fun x => (if callsK k t then [semiAt a ln] else []) ++ x
      else if c.toNat = 32 ∨ c.toNat = 9 ∨ c.toNat = 13 then scanFrom f r (a + 1) ln k t
      else if (tk (c :: r)).e = 0 then (scanFrom f ((c :: r).drop (tk (c :: r)).len) (a + (tk (c :: r)).len) ln (tk (c :: r)).k (tk (c :: r)).t).map fun x => ⟨(tk (c :: r)).k, (tk (c :: r)).t, (tk (c :: r)).n, a, ln⟩ :: x
      else .error (a, (tk (c :: r)).e) := rfl

theorem map_map_ok {ε α β γ : Type} (x : Except ε α) (f : α → β) (g : β → γ) : (x.map f).map g = x.map fun y => g (f y) := by cases x <;> rfl

/-- enough rounds are enough -/
theorem scanFrom_fuel : ∀ (f g : Nat) (l : List UInt8) (a ln : Nat) (k : Int) (t : List UInt8), l.length + 1 ≤ f → l.length + 1 ≤ g → scanFrom f l a ln k t = scanFrom g l a ln k t := by
  intro f
  induction f with
  | zero => intro g l a ln k t h; omega
  | succ f ih =>
    intro g l a ln k t h1 h2
    obtain ⟨g, rfl⟩ : ∃ m, g = m + 1 := ⟨g - 1, by omega⟩
    cases l with
    | nil => rfl
    | cons c r =>
      rw [scanFrom_cons, scanFrom_cons]
      rw [List.length_cons] at h1 h2
      by_cases h0 : 0 < cmt (c :: r)
      · rw [if_pos h0, if_pos h0]
        exact ih _ _ _ _ _ _ (by rw [List.length_drop, List.length_cons]; omega) (by rw [List.length_drop, List.length_cons]; omega)
      rw [if_neg h0, if_neg h0]
      by_cases h10 : c.toNat = 10
      · rw [if_pos h10, if_pos h10, ih g r _ _ _ _ (by omega) (by omega)]
      rw [if_neg h10, if_neg h10]
      by_cases hb : c.toNat = 32 ∨ c.toNat = 9 ∨ c.toNat = 13
      · rw [if_pos hb, if_pos hb, ih g r _ _ _ _ (by omega) (by omega)]
      rw [if_neg hb, if_neg hb]
      by_cases he : (tk (c :: r)).e = 0
      · have hl := tk_len he
        rw [List.length_cons] at hl
        rw [if_pos he, if_pos he, ih g _ _ _ _ _ (by rw [List.length_drop, List.length_cons]; omega) (by rw [List.length_drop, List.length_cons]; omega)]
      · rw [if_neg he, if_neg he]

/-- a token's place, shifted -/
def Tok.sh (d e : Nat) (t : Tok) : Tok := ⟨t.k, t.t, t.n, t.at_ + d, t.line + e⟩
def shE (d e : Nat) : Except (Nat × Int) (List Tok) → Except (Nat × Int) (List Tok)
  | .ok l => .ok (l.map (Tok.sh d e))
  | .error (p, x) => .error (p + d, x)

theorem shE_map (d e : Nat) (y : Except (Nat × Int) (List Tok)) (g : List Tok) : shE d e (y.map fun x => g ++ x) = (shE d e y).map fun x => g.map (Tok.sh d e) ++ x := by
  cases y with
  | ok l => show Except.ok _ = Except.ok _; rw [List.map_append]
  | error p => rfl

theorem scanFrom_shift (d e : Nat) : ∀ (f : Nat) (l : List UInt8) (a ln : Nat) (k : Int) (t : List UInt8), scanFrom f l (a + d) (ln + e) k t = shE d e (scanFrom f l a ln k t) := by
  intro f
  induction f with
  | zero => intro l a ln k t; rfl
  | succ f ih =>
    intro l a ln k t
    have hsemi : (if callsK k t then [semiAt (a + d) (ln + e)] else []) = (if callsK k t then [semiAt a ln] else []).map (Tok.sh d e) := by
      cases callsK k t <;> rfl
    cases l with
    | nil =>
      rw [scanFrom_nil, scanFrom_nil, hsemi]
      show _ = Except.ok _
      rw [List.map_append]
      rfl
    | cons c r =>
      rw [scanFrom_cons, scanFrom_cons]
      by_cases h0 : 0 < cmt (c :: r)
      · rw [if_pos h0, if_pos h0, ← ih]
        congr 1
        omega
      rw [if_neg h0, if_neg h0]
      by_cases h10 : c.toNat = 10
      · rw [if_pos h10, if_pos h10, shE_map, ← ih, hsemi, show a + d + 1 = a + 1 + d from by omega, show ln + e + 1 = ln + 1 + e from by omega]
      rw [if_neg h10, if_neg h10]
      by_cases hb : c.toNat = 32 ∨ c.toNat = 9 ∨ c.toNat = 13
      · rw [if_pos hb, if_pos hb, ← ih]
        congr 1
        omega
      rw [if_neg hb, if_neg hb]
      by_cases he : (tk (c :: r)).e = 0
      · rw [if_pos he, if_pos he]
        have e1 := shE_map d e (scanFrom f ((c :: r).drop (tk (c :: r)).len) (a + (tk (c :: r)).len) ln (tk (c :: r)).k (tk (c :: r)).t) [⟨(tk (c :: r)).k, (tk (c :: r)).t, (tk (c :: r)).n, a, ln⟩]
        rw [← ih, show a + (tk (c :: r)).len + d = a + d + (tk (c :: r)).len from by omega] at e1
        exact e1.symm
      · rw [if_neg he, if_neg he]
        rfl

/-- a byte that is of no token but a text -/
structure Stop (c : UInt8) : Prop where
  ld : ld c = false
  sg : ∀ g ∈ sgl, c ∉ g
  n47 : ¬ c.toNat = 47

theorem stop10 : Stop 10 := ⟨by decide, by decide, by decide⟩
theorem stop32 : Stop 32 := ⟨by decide, by decide, by decide⟩

theorem runN_app {c : UInt8} (hc : Stop c) (l b : List UInt8) : runN (l ++ c :: b) = runN l := by
  induction l with
  | nil =>
    rw [List.nil_append]
    show (if ld c then runN b + 1 else 0) = 0
    rw [hc.ld]
    rfl
  | cons d r ih => rw [List.cons_append, runN, runN, ih]

theorem take_runN {c : UInt8} (hc : Stop c) (l b : List UInt8) : (l ++ c :: b).take (runN (l ++ c :: b)) = l.take (runN l) := by
  rw [runN_app hc, List.take_append_of_le_length (runN_le l)]

theorem pre_app {c : UInt8} : ∀ (g l b : List UInt8), c ∉ g → g.isPrefixOf (l ++ c :: b) = g.isPrefixOf l := by
  intro g
  induction g with
  | nil => intro l b h; rfl
  | cons x g ih =>
    intro l b h
    rw [List.mem_cons, not_or] at h
    cases l with
    | nil =>
      rw [List.nil_append, List.isPrefixOf_cons_cons]
      rw [show (x == c) = false from by simp; exact fun e => h.1 e.symm]
      rfl
    | cons y r => rw [List.cons_append, List.isPrefixOf_cons_cons, List.isPrefixOf_cons_cons, ih r b h.2]

theorem find_same {α : Type} {p q : α → Bool} : ∀ (l : List α), (∀ x ∈ l, p x = q x) → l.find? p = l.find? q := by
  intro l
  induction l with
  | nil => intro _; rfl
  | cons x r ih =>
    intro h
    rw [List.find?_cons, List.find?_cons, h x (List.mem_cons_self ..), ih (fun y hy => h y (List.mem_cons_of_mem _ hy))]

theorem sgn_app {c : UInt8} (hc : Stop c) (l b : List UInt8) : sgn (l ++ c :: b) = sgn l := by
  unfold sgn
  exact find_same _ fun g hg => pre_app g l b (hc.sg g hg)

theorem unq_app {l t : List UInt8} {k : Nat} (h : unq l = some (t, k)) (b : List UInt8) : unq (l ++ b) = some (t, k) := by
  obtain ⟨_, _, _, _, a5, _⟩ := unq_ends _ l t k (Nat.le_refl _) h
  have := a5 (l.drop k ++ b)
  rwa [← List.append_assoc, List.take_append_drop] at this

theorem unquote_app {l : List UInt8} {p : List UInt8 × Nat} (h : unquote l = some p) (b : List UInt8) : unquote (l ++ b) = some p := by
  cases l with
  | nil => cases h
  | cons c r =>
    unfold unquote at h ⊢
    rw [List.cons_append]
    simp only at h ⊢
    by_cases hc : c.toNat = 34
    · rw [if_pos hc] at h ⊢
      cases hr : unq r with
      | none => rw [hr] at h; cases h
      | some q =>
        obtain ⟨t, k⟩ := q
        rw [unq_app hr]
        rw [hr] at h
        exact h
    · rw [if_neg hc] at h; cases h

theorem tk_app {c : UInt8} (hc : Stop c) {l : List UInt8} (h : (tk l).e = 0) (b : List UInt8) : tk (l ++ c :: b) = tk l := by
  cases l with
  | nil => exact absurd h (by unfold tk tkErr; decide)
  | cons d r =>
    rw [tk] at h
    rw [List.cons_append, tk, tk]
    by_cases h1 : letter d.toNat = true
    · rw [if_pos h1, if_pos h1, ← List.cons_append]
      unfold tkName
      rw [take_runN hc, runN_app hc]
    rw [if_neg h1, if_neg h1]
    by_cases h2 : digit d.toNat = true
    · rw [if_pos h2, if_pos h2, ← List.cons_append]
      unfold tkNum
      rw [take_runN hc, runN_app hc]
    rw [if_neg h2, if_neg h2]
    by_cases h3 : d.toNat = 34
    · rw [if_neg h1, if_neg h2, if_pos h3] at h
      rw [if_pos h3, if_pos h3, ← List.cons_append]
      unfold tkText at h ⊢
      cases hu : unquote (d :: r) with
      | none => rw [hu] at h; exact absurd h (by unfold tkErr; simp)
      | some p => rw [unquote_app hu]
    · rw [if_neg h3, if_neg h3, ← List.cons_append]
      unfold tkSign
      rw [sgn_app hc]

theorem upTo10_app (l b : List UInt8) : upTo10 (l ++ 10 :: b) = upTo10 l := by
  induction l with
  | nil => rfl
  | cons d r ih => rw [List.cons_append, upTo10, upTo10, ih]

theorem cmt_app {l : List UInt8} (h : l ≠ []) (b : List UInt8) : cmt (l ++ 10 :: b) = cmt l := by
  match l, h with
  | [c], _ =>
    show cmt (c :: 10 :: b) = 0
    unfold cmt
    exact if_neg (fun e => absurd e.2 (by decide))
  | c :: d :: r, _ =>
    show (if c.toNat = 47 ∧ d.toNat = 47 then upTo10 ((c :: d :: r) ++ 10 :: b) else 0) = if c.toNat = 47 ∧ d.toNat = 47 then upTo10 (c :: d :: r) else 0
    rw [upTo10_app]

theorem drop_app {n : Nat} {l : List UInt8} (h : n ≤ l.length) (b : List UInt8) : (l ++ b).drop n = l.drop n ++ b := List.drop_append_of_le_length h

/-- two sources, a line's end between -/
theorem scanFrom_parts (b : List UInt8) : ∀ (f g : Nat) (l : List UInt8) (a ln : Nat) (k : Int) (t : List UInt8) (x : List Tok), l.length + 1 ≤ f → l.length + b.length + 2 ≤ g → scanFrom f l a ln k t = .ok x →
    ∃ x0 m, x = x0 ++ [endAt (a + l.length) m] ∧ scanFrom g (l ++ 10 :: b) a ln k t = (scanFrom (b.length + 1) b (a + l.length + 1) (m + 1) 0 []).map fun y => x0 ++ y := by
  intro f
  induction f with
  | zero => intro g l a ln k t x h; omega
  | succ f ih =>
    intro g l a ln k t x h1 h2 hx
    obtain ⟨g, rfl⟩ : ∃ m, g = m + 1 := ⟨g - 1, by omega⟩
    cases l with
    | nil =>
      rw [scanFrom_nil] at hx
      cases hx
      rw [List.length_nil] at h2
      refine ⟨_, ln, rfl, ?_⟩
      rw [List.nil_append, scanFrom_cons, if_neg (by unfold cmt; split <;> first | (rename_i e; cases e; rw [if_neg (fun e => absurd e.1 (by decide))]; decide) | decide), if_pos (by decide), scanFrom_fuel g (b.length + 1) b _ _ _ _ (by omega) (by omega)]
      rfl
    | cons c r =>
      have hcm := cmt_app (l := c :: r) (by simp) b
      have hcl := cmt_le (c :: r)
      rw [List.length_cons] at h1 h2 hcl
      rw [scanFrom_cons] at hx
      rw [List.cons_append, scanFrom_cons, ← List.cons_append, hcm]
      by_cases h0 : 0 < cmt (c :: r)
      · rw [if_pos h0] at hx ⊢
        obtain ⟨x0, m, rfl, e⟩ := ih g _ _ _ _ _ x (by rw [List.length_drop, List.length_cons]; omega) (by rw [List.length_drop, List.length_cons]; omega) hx
        rw [List.length_drop, List.length_cons] at e ⊢
        rw [drop_app (by rw [List.length_cons]; exact hcl), e]
        have ee : a + cmt (c :: r) + (r.length + 1 - cmt (c :: r)) = a + (r.length + 1) := by omega
        rw [ee]
        exact ⟨x0, m, rfl, rfl⟩
      rw [if_neg h0] at hx ⊢
      by_cases h10 : c.toNat = 10
      · rw [if_pos h10] at hx ⊢
        cases hs : scanFrom f r (a + 1) (ln + 1) 0 [] with
        | error p => rw [hs] at hx; cases hx
        | ok y =>
          rw [hs] at hx
          cases hx
          obtain ⟨x0, m, rfl, e⟩ := ih g _ _ _ _ _ y (by omega) (by omega) hs
          rw [e, map_map_ok, List.length_cons, show a + (r.length + 1) = a + 1 + r.length from by omega]
          refine ⟨(if callsK k t then [semiAt a ln] else []) ++ x0, m, by rw [List.append_assoc], ?_⟩
          congr 1
          funext z
          rw [List.append_assoc]
      rw [if_neg h10] at hx ⊢
      by_cases hb : c.toNat = 32 ∨ c.toNat = 9 ∨ c.toNat = 13
      · rw [if_pos hb] at hx ⊢
        obtain ⟨x0, m, rfl, e⟩ := ih g _ _ _ _ _ x (by omega) (by omega) hx
        rw [e, List.length_cons, show a + (r.length + 1) = a + 1 + r.length from by omega]
        exact ⟨x0, m, rfl, rfl⟩
      rw [if_neg hb] at hx ⊢
      by_cases he : (tk (c :: r)).e = 0
      · have ht := tk_app stop10 he b
        have hl := tk_len he
        rw [ht]
        rw [if_pos he] at hx ⊢
        cases hs : scanFrom f ((c :: r).drop (tk (c :: r)).len) (a + (tk (c :: r)).len) ln (tk (c :: r)).k (tk (c :: r)).t with
        | error p => rw [hs] at hx; cases hx
        | ok y =>
          rw [hs] at hx
          cases hx
          rw [List.length_cons] at hl
          obtain ⟨x0, m, rfl, e⟩ := ih g _ _ _ _ _ y (by rw [List.length_drop, List.length_cons]; omega) (by rw [List.length_drop, List.length_cons]; omega) hs
          rw [List.length_drop, List.length_cons, show a + (tk (c :: r)).len + (r.length + 1 - (tk (c :: r)).len) = a + (r.length + 1) from by omega] at e ⊢
          rw [drop_app (by rw [List.length_cons]; omega), e, map_map_ok]
          exact ⟨_ :: x0, m, rfl, rfl⟩
      · rw [if_neg he] at hx; cases hx

theorem scan_parts {a b : List UInt8} {x y : List Tok} (h : a.length + 1 + b.length ≤ 20000) (hx : scan a = .ok x) (hy : scan b = .ok y) :
    ∃ x0 m, x = x0 ++ [endAt a.length m] ∧ scan (a ++ 10 :: b) = .ok (x0 ++ y.map (Tok.sh (a.length + 1) m)) := by
  unfold scan at hx hy ⊢
  rw [if_neg (by omega)] at hx hy
  rw [if_neg (by rw [List.length_append, List.length_cons]; omega)]
  obtain ⟨x0, m, rfl, e⟩ := scanFrom_parts b _ ((a ++ 10 :: b).length + 1) _ _ _ _ _ x (Nat.le_refl _) (by rw [List.length_append, List.length_cons]; omega) hx
  refine ⟨x0, m, by rw [Nat.zero_add], ?_⟩
  rw [e]
  have s := scanFrom_shift (a.length + 1) m (b.length + 1) b 0 1 0 []
  rw [hy] at s
  rw [show 0 + a.length + 1 = 0 + (a.length + 1) from by omega, show m + 1 = 1 + m from by omega, s]
  rfl

end Go.Proofs.YtkbgnbcphmkjkaaDoor
