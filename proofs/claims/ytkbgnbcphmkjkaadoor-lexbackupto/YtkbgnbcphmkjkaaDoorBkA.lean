/- Joined tokens, scanned: on lists of bytes alone. Joined tokens, scanned: what the law asks of them, on lists alone. -/
import Derived.Test.YtkbgnbcphmkjkaaDoorPj
import Derived.Test.YtkbgnbcphmkjkaaDoorLz
namespace Go.Proofs.YtkbgnbcphmkjkaaDoor
open Go.RowKit Go.Lib

/-- a token's text and number as they are told again -/
def RT.st (x : RT) : List UInt8 := if x.k = 3 then [] else if x.k = 6 then [59] else x.t.data.toList
def RT.sn (x : RT) : Int := if x.k = 3 then x.n else 0

/-- what stands at the beginning of a token as it is written -/
structure Told (l : List UInt8) (k : Int) (t : List UInt8) (n : Int) : Prop where
  e : (tk l).e = 0
  k : (tk l).k = k
  t : (tk l).t = t
  n : (tk l).n = n
  len : (tk l).len = l.length
  head : ∃ c r, l = c :: r ∧ ¬ c.toNat = 10 ∧ ¬ c.toNat = 32 ∧ ¬ c.toNat = 9 ∧ ¬ c.toNat = 13
  cm : cmt l = 0

theorem cm_head {c : UInt8} {r : List UInt8} (h : ¬ c.toNat = 47) : cmt (c :: r) = 0 := by
  cases r with
  | nil => rfl
  | cons d r =>
    show (if c.toNat = 47 ∧ d.toNat = 47 then _ else 0) = 0
    rw [if_neg (fun e => h e.1)]

theorem cm_blank {l : List UInt8} (hl : l ≠ []) (h : cmt l = 0) (b : List UInt8) : cmt (l ++ 32 :: b) = 0 := by
  match l, hl with
  | [c], _ =>
    show (if c.toNat = 47 ∧ (32 : UInt8).toNat = 47 then _ else 0) = 0
    rw [if_neg (fun e => absurd e.2 (by decide))]
  | c :: d :: r, _ =>
    show (if c.toNat = 47 ∧ d.toNat = 47 then _ else 0) = 0
    by_cases hc : c.toNat = 47 ∧ d.toNat = 47
    · exfalso
      have h' : (if c.toNat = 47 ∧ d.toNat = 47 then upTo10 (c :: d :: r) else 0) = 0 := h
      rw [if_pos hc, upTo10, if_neg (by omega)] at h'
      omega
    · rw [if_neg hc]

theorem runN_all : ∀ {l : List UInt8}, (∀ c ∈ l, ld c = true) → runN l = l.length := by
  intro l
  induction l with
  | nil => intro _; rfl
  | cons c r ih =>
    intro h
    unfold runN
    rw [if_pos (h c (List.mem_cons_self ..)), ih (fun y hy => h y (List.mem_cons_of_mem _ hy)), List.length_cons]

theorem letter_not {n : Nat} (h : letter n = true) : ¬ n = 10 ∧ ¬ n = 32 ∧ ¬ n = 9 ∧ ¬ n = 13 ∧ ¬ n = 47 := by
  refine ⟨?_, ?_, ?_, ?_, ?_⟩ <;> (rintro rfl; exact absurd h (by decide))
theorem digit_not {n : Nat} (h : digit n = true) : ¬ n = 10 ∧ ¬ n = 32 ∧ ¬ n = 9 ∧ ¬ n = 13 ∧ ¬ n = 47 := by
  refine ⟨?_, ?_, ?_, ?_, ?_⟩ <;> (rintro rfl; exact absurd h (by decide))
theorem digit_letter {n : Nat} (h : digit n = true) : letter n = false := by
  unfold digit at h
  unfold letter
  simp at h ⊢
  omega

theorem told_letters {l : List UInt8} {c : UInt8} {r : List UInt8} (e : l = c :: r) (hc : letter c.toNat = true) (ha : ∀ c ∈ l, ld c = true) (hn : isWord ⟨l.toArray⟩ = true ∨ l.length ≤ 30) : Told l (if isWord ⟨l.toArray⟩ then 2 else 1) l 0 := by
  have hr := runN_all ha
  have ht : tk l = tkName l := by rw [e]; unfold tk; simp only; rw [if_pos hc]
  have hq : tkName l = ⟨0, if isWord ⟨l.toArray⟩ then 2 else 1, l, 0, l.length⟩ := by
    unfold tkName
    rw [hr, List.take_length]
    by_cases hw : isWord ⟨l.toArray⟩ = true
    · rw [if_pos hw, if_pos hw]
    · rw [if_neg hw, if_neg hw, if_neg (by rcases hn with h | h; exact absurd h hw; omega)]
  obtain ⟨n1, n2, n3, n4, n5⟩ := letter_not hc
  exact ⟨by rw [ht, hq], by rw [ht, hq], by rw [ht, hq], by rw [ht, hq], by rw [ht, hq], ⟨c, r, e, n1, n2, n3, n4⟩, by rw [e]; exact cm_head n5⟩

theorem told_name {s : ByteArray} (h : isName s = true) : Told s.data.toList 1 s.data.toList 0 := by
  unfold isName at h
  simp only [Bool.and_eq_true, decide_eq_true_eq, Bool.not_eq_true'] at h
  obtain ⟨⟨⟨⟨h1, h2⟩, h3⟩, h4⟩, h5⟩ := h
  rw [List.all_eq_true] at h4
  have ha : ∀ c ∈ s.data.toList, ld c = true := all_by (p := fun c => ld c = true) fun j hj => h4 j (List.mem_range.2 hj)
  have hk := told_letters (list_first s h1) h3 ha (Or.inr (by rw [← size_len]; exact h2))
  have e : (⟨s.data.toList.toArray⟩ : ByteArray) = s := rfl
  rw [e, h5] at hk
  exact hk

def wordOk (l : List UInt8) : Bool := l.all ld && (match l with | c :: _ => letter c.toNat | [] => false)

theorem words_ok : (wl.all fun y => wordOk y.data.toList) = true := by decide +kernel

theorem told_word {s : ByteArray} (h : isWord s = true) : Told s.data.toList 2 s.data.toList 0 := by
  have hw := h
  unfold isWord at h
  rw [List.any_eq_true] at h
  obtain ⟨y, hy, hs⟩ := h
  rw [decide_eq_true_eq] at hs
  subst hs
  have h1 := (List.all_eq_true.1 words_ok) s hy
  unfold wordOk at h1
  rw [Bool.and_eq_true, List.all_eq_true] at h1
  have e : (⟨s.data.toList.toArray⟩ : ByteArray) = s := rfl
  cases hl : s.data.toList with
  | nil => rw [hl] at h1; exact absurd h1.2 (by simp)
  | cons c r =>
    have h2 := h1.2
    rw [hl] at h2
    have hk := told_letters hl h2 h1.1 (Or.inl (by rw [e]; exact hw))
    rw [e, hw] at hk
    rw [← hl]
    exact hk

theorem told_int {n : Int} (h0 : 0 ≤ n) (h1 : n ≤ 9223372036854775807) : Told (Lib.itoa n) 3 [] n := by
  obtain ⟨p1, p2, p3⟩ := itoa_parts n
  have e : Lib.itoa n = decDigits n.natAbs := by
    unfold Lib.itoa
    rw [if_neg (by omega)]
    congr 1
    omega
  have hd : ∀ c ∈ Lib.itoa n, digit c.toNat = true := by rw [e]; exact dec_digits n.natAbs
  have hn : Lib.itoa n ≠ [] := by
    intro hc
    have := (formed_digits p1).1
    rw [hc] at this
    exact this rfl
  obtain ⟨c, r, hcr⟩ := List.exists_cons_of_ne_nil hn
  have hc : digit c.toNat = true := hd c (by rw [hcr]; exact List.mem_cons_self ..)
  have hr : runN (Lib.itoa n) = (Lib.itoa n).length := runN_all fun c hc => by unfold ld; rw [hd c hc, Bool.or_true]
  obtain ⟨q1, q2⟩ := p_ok (isForm_yes p1) (itoa_fits n (by omega) h1)
  have ht : tk (Lib.itoa n) = ⟨0, 3, [], n, (Lib.itoa n).length⟩ := by
    have : tk (Lib.itoa n) = tkNum (Lib.itoa n) := by rw [hcr]; unfold tk; simp only; rw [if_neg (by rw [digit_letter hc]; simp), if_pos hc]
    rw [this]
    unfold tkNum
    rw [hr, List.take_length, ← q2, if_pos rfl, ← q1, itoa_val]
  obtain ⟨n1, n2, n3, n4, n5⟩ := digit_not hc
  exact ⟨by rw [ht], by rw [ht], by rw [ht], by rw [ht], by rw [ht], ⟨c, r, hcr, n1, n2, n3, n4⟩, by rw [hcr]; exact cm_head n5⟩

theorem told_text (l : List UInt8) : Told (quo l) 4 l 0 := by
  have hu := unquote_quo l []
  rw [List.append_nil] at hu
  have ht : tk (quo l) = ⟨0, 4, l, 0, (quo l).length⟩ := by
    have : tk (quo l) = tkText (quo l) := by unfold quo tk; simp only; rw [if_neg (by decide), if_neg (by decide), if_pos (by decide)]
    rw [this]
    unfold tkText
    rw [hu]
  exact ⟨by rw [ht], by rw [ht], by rw [ht], by rw [ht], by rw [ht], ⟨34, _, rfl, by decide, by decide, by decide, by decide⟩, cm_head (by decide)⟩

def signOk (g : List UInt8) : Bool := decide (g = [59]) || (decide ((tk g).e = 0) && decide ((tk g).k = 5) && decide ((tk g).t = g) && decide ((tk g).n = 0) && decide ((tk g).len = g.length) && decide (cmt g = 0) && (match g with | c :: _ => !decide (c.toNat = 10) && !decide (c.toNat = 32) && !decide (c.toNat = 9) && !decide (c.toNat = 13) | [] => false))

theorem signs_ok : (sgl.all signOk) = true := by decide +kernel

theorem told_sign {g : List UInt8} (h : has sgl g = true) (h9 : ¬ g = [59]) : Told g 5 g 0 := by
  unfold has at h
  rw [List.contains_iff_mem] at h
  have h1 := (List.all_eq_true.1 signs_ok) g h
  unfold signOk at h1
  rw [decide_eq_false h9, Bool.false_or] at h1
  simp only [Bool.and_eq_true, decide_eq_true_eq] at h1
  obtain ⟨⟨⟨⟨⟨⟨a1, a2⟩, a3⟩, a4⟩, a5⟩, a6⟩, a7⟩ := h1
  refine ⟨a1, a2, a3, a4, a5, ?_, a6⟩
  cases g with
  | nil => cases a7
  | cons c r =>
    simp only [Bool.and_eq_true, Bool.not_eq_true', decide_eq_false_iff_not] at a7
    exact ⟨c, r, rfl, a7.1.1.1, a7.1.1.2, a7.1.2, a7.2⟩

theorem told_semi : Told [59] 6 [59] 0 := ⟨by decide, by decide, by decide, by decide, by decide, ⟨59, [], rfl, by decide, by decide, by decide, by decide⟩, by decide⟩

theorem told_ok {x : RT} (h : x.ok = true) (h0 : ¬ x.k = 0) (h1 : x.n ≤ 9223372036854775807) : Told x.tx x.k x.st x.sn := by
  unfold RT.ok wok at h
  rw [show (⟨x.t.data.toList.toArray⟩ : ByteArray) = x.t from rfl] at h
  unfold RT.tx wtx RT.st RT.sn
  by_cases k1 : x.k = 1
  · rw [if_neg (by omega), if_pos k1] at h
    rw [if_pos (by omega), if_neg (by omega), if_neg (by omega), if_neg (by omega), k1]
    exact told_name h
  by_cases k2 : x.k = 2
  · rw [if_neg (by omega), if_neg k1, if_pos k2] at h
    rw [if_pos (by omega), if_neg (by omega), if_neg (by omega), if_neg (by omega), k2]
    exact told_word h
  by_cases k3 : x.k = 3
  · rw [if_neg (by omega), if_neg k1, if_neg k2, if_pos k3, decide_eq_true_eq] at h
    rw [if_neg (by omega), if_pos k3, if_pos k3, if_pos k3, k3]
    exact told_int h h1
  by_cases k4 : x.k = 4
  · rw [if_neg (by omega), if_neg (by omega), if_pos k4, if_neg (by omega), if_neg (by omega), if_neg (by omega), k4]
    exact told_text _
  by_cases k5 : x.k = 5
  · rw [if_neg (by omega), if_neg k1, if_neg k2, if_neg k3, if_pos k5, Bool.and_eq_true, Bool.not_eq_true', decide_eq_false_iff_not] at h
    rw [if_pos (by omega), if_neg (by omega), if_neg (by omega), if_neg (by omega), k5]
    exact told_sign h.1 h.2
  by_cases k6 : x.k = 6
  · rw [if_neg (by omega), if_neg (by omega), if_neg (by omega), if_pos k6, if_neg (by omega), if_pos k6, if_neg (by omega), k6]
    exact told_semi
  · rw [if_neg (by omega), if_neg k1, if_neg k2, if_neg k3, if_neg k5, if_neg k6] at h
    cases h

/-- tokens behind one another: each with a blank ahead -/
def sep : List RT → List UInt8 → List UInt8
  | [], rest => rest
  | x :: r, rest => 32 :: (x.tx ++ sep r rest)
def bd : List RT → List UInt8 → List UInt8
  | [], rest => rest
  | x :: r, rest => x.tx ++ sep r rest

/-- the tokens that are told -/
def tks : List RT → Nat → List Tok
  | [], _ => []
  | x :: r, a => ⟨x.k, x.st, x.sn, a, 1⟩ :: tks r (a + x.tx.length + 1)
def fin (k : Int) (t : List UInt8) (A : Nat) : List Tok := (if callsK k t then [semiAt A 1] else []) ++ [endAt A 1]
def lastK : List RT → Int → List UInt8 → Int × List UInt8
  | [], k, t => (k, t)
  | x :: r, _, _ => lastK r x.k x.st

theorem blank_step (f a : Nat) (k : Int) (t b : List UInt8) : scanFrom (f + 1) (32 :: b) a 1 k t = scanFrom f b (a + 1) 1 k t := by
  rw [scanFrom_cons, cm_head (by decide), if_neg (by omega), if_neg (by decide), if_pos (Or.inl (by decide))]

theorem tok_step {x : RT} (hx : Told x.tx x.k x.st x.sn) {S : List UInt8} (hS : S = [] ∨ ∃ b, S = 32 :: b) {f a : Nat} (k : Int) (t : List UInt8) {y : List Tok} (h : scanFrom f S (a + x.tx.length) 1 x.k x.st = .ok y) :
    scanFrom (f + 1) (x.tx ++ S) a 1 k t = .ok (⟨x.k, x.st, x.sn, a, 1⟩ :: y) := by
  obtain ⟨c, r, hc, n1, n2, n3, n4⟩ := hx.head
  have hne : x.tx ≠ [] := by rw [hc]; simp
  have ht : tk (x.tx ++ S) = tk x.tx := by
    rcases hS with rfl | ⟨b, rfl⟩
    · rw [List.append_nil]
    · exact tk_app stop32 hx.e b
  have hcm : cmt (x.tx ++ S) = 0 := by
    rcases hS with rfl | ⟨b, rfl⟩
    · rw [List.append_nil]; exact hx.cm
    · exact cm_blank hne hx.cm b
  have hd : (x.tx ++ S).drop x.tx.length = S := by simp
  have key : ∀ l : List UInt8, l = c :: (r ++ S) → tk l = tk x.tx → cmt l = 0 → l.drop x.tx.length = S → scanFrom (f + 1) l a 1 k t = .ok (⟨x.k, x.st, x.sn, a, 1⟩ :: y) := by
    intro l hl h1 h2 h3
    subst hl
    rw [scanFrom_cons, h2, if_neg (by omega), if_neg n1, if_neg (by omega), h1, if_pos hx.e, hx.len, h3, hx.k, hx.t, h, hx.n]
    rfl
  exact key _ (by rw [hc]; rfl) ht hcm hd

theorem sep_or (l : List RT) {rest : List UInt8} (h : rest = [] ∨ rest = [32]) : sep l rest = [] ∨ ∃ b, sep l rest = 32 :: b := by
  cases l with
  | nil =>
    rcases h with rfl | rfl
    · exact Or.inl rfl
    · exact Or.inr ⟨[], rfl⟩
  | cons x r => exact Or.inr ⟨_, rfl⟩

theorem scan_sep {rest : List UInt8} (hr : rest = [] ∨ rest = [32]) : ∀ (l : List RT) (_ : ∀ x ∈ l, Told x.tx x.k x.st x.sn) (f a : Nat) (k : Int) (t : List UInt8), (sep l rest).length + 1 ≤ f →
    scanFrom f (sep l rest) a 1 k t = .ok (tks l (a + 1) ++ fin (lastK l k t).1 (lastK l k t).2 (a + (sep l rest).length)) := by
  intro l
  induction l with
  | nil =>
    intro _ f a k t hf
    rcases hr with rfl | rfl
    · obtain ⟨f, rfl⟩ : ∃ g, f = g + 1 := ⟨f - 1, by have : (sep [] []).length = 0 := rfl; omega⟩
      rfl
    · obtain ⟨f, rfl⟩ : ∃ g, f = g + 2 := ⟨f - 2, by have : (sep [] [32]).length = 1 := rfl; omega⟩
      show scanFrom (f + 2) (32 :: []) a 1 k t = _
      rw [blank_step]
      rfl
  | cons x r ih =>
    intro hg f a k t hf
    have hl : (sep (x :: r) rest).length = x.tx.length + (sep r rest).length + 1 := by simp [sep]
    have hx := hg x (List.mem_cons_self ..)
    obtain ⟨f, rfl⟩ : ∃ g, f = g + 2 := ⟨f - 2, by
      obtain ⟨c, r', hc, _⟩ := hx.head
      have : 1 ≤ x.tx.length := by rw [hc]; simp
      omega⟩
    have h1 : 1 ≤ x.tx.length := by
      obtain ⟨c, r', hc, _⟩ := hx.head
      rw [hc]; simp
    have ih' := ih (fun y hy => hg y (List.mem_cons_of_mem _ hy)) f (a + 1 + x.tx.length) x.k x.st (by omega)
    show scanFrom (f + 2) (32 :: (x.tx ++ sep r rest)) a 1 k t = _
    rw [blank_step, tok_step hx (sep_or r hr) k t ih', hl]
    show _ = Except.ok (⟨x.k, x.st, x.sn, a + 1, 1⟩ :: tks r (a + 1 + x.tx.length + 1) ++ fin (lastK r x.k x.st).1 (lastK r x.k x.st).2 (a + (x.tx.length + (sep r rest).length + 1)))
    rw [show a + 1 + x.tx.length + (sep r rest).length = a + (x.tx.length + (sep r rest).length + 1) by omega]
    rfl

theorem scan_bd {rest : List UInt8} (hr : rest = [] ∨ rest = [32]) (l : List RT) (hl0 : l = [] → rest = []) (hg : ∀ x ∈ l, Told x.tx x.k x.st x.sn) (h : (bd l rest).length ≤ 20000) :
    scan (bd l rest) = .ok (tks l 0 ++ fin (lastK l 0 []).1 (lastK l 0 []).2 (bd l rest).length) := by
  unfold scan
  rw [if_neg (by omega)]
  cases l with
  | nil => rw [hl0 rfl]; rfl
  | cons x r =>
    have hl : (bd (x :: r) rest).length = x.tx.length + (sep r rest).length := by simp [bd]
    have hx := hg x (List.mem_cons_self ..)
    have h1 : 1 ≤ x.tx.length := by
      obtain ⟨c, r', hc, _⟩ := hx.head
      rw [hc]; simp
    have ih' := scan_sep hr r (fun y hy => hg y (List.mem_cons_of_mem _ hy)) (bd (x :: r) rest).length (0 + x.tx.length) x.k x.st (by omega)
    show scanFrom _ (x.tx ++ sep r rest) 0 1 0 [] = _
    rw [tok_step hx (sep_or r hr) 0 [] ih', hl]
    show _ = Except.ok (⟨x.k, x.st, x.sn, 0, 1⟩ :: tks r (0 + x.tx.length + 1) ++ fin (lastK r x.k x.st).1 (lastK r x.k x.st).2 (x.tx.length + (sep r rest).length))
    rw [show 0 + x.tx.length + (sep r rest).length = x.tx.length + (sep r rest).length by omega]
    rfl

theorem join_sep : ∀ (x : RT) (r : List RT), Lib.join ((x :: r).map RT.tx) [32] = x.tx ++ sep r [] := by
  intro x r
  induction r generalizing x with
  | nil => simp [Lib.join, List.intercalate, sep]
  | cons y r ih =>
    have := ih y
    unfold Lib.join List.intercalate at this ⊢
    simp only [List.map_cons, List.intersperse_cons_cons, List.flatten_cons] at this ⊢
    rw [this]
    simp [sep]

theorem sep_end {e : RT} (he : e.tx = []) : ∀ r : List RT, sep (r ++ [e]) [] = sep r [32] := by
  intro r
  induction r with
  | nil => simp [sep, he]
  | cons x r ih => rw [List.cons_append, sep, sep, ih]

theorem jtx_all (l : List RT) : jtx l = bd l [] := by
  unfold jtx
  cases l with
  | nil => rfl
  | cons x r => exact join_sep x r

theorem jtx_end {l : List RT} {e : RT} (he : e.tx = []) : jtx (l ++ [e]) = bd l (if l = [] then [] else [32]) := by
  cases l with
  | nil => rw [List.nil_append, jtx_all]; simp [bd, sep, he]
  | cons x r =>
    rw [if_neg (by simp), jtx_all, List.cons_append]
    show x.tx ++ sep (r ++ [e]) [] = x.tx ++ sep r [32]
    rw [sep_end he]

theorem tks_len : ∀ (l : List RT) (a : Nat), (tks l a).length = l.length := by
  intro l
  induction l with
  | nil => intro a; rfl
  | cons x r ih => intro a; rw [tks, List.length_cons, ih, List.length_cons]

theorem tks_at : ∀ (l : List RT) (a i : Nat) (h : i < l.length) (h2 : i < (tks l a).length), (tks l a)[i].k = l[i].k ∧ (tks l a)[i].t = l[i].st ∧ (tks l a)[i].n = l[i].sn := by
  intro l
  induction l with
  | nil => intro a i h; cases h
  | cons x r ih =>
    intro a i h h2
    cases i with
    | zero => exact ⟨rfl, rfl, rfl⟩
    | succ i =>
      have h3 : i < r.length := by simpa using h
      exact ih (a + x.tx.length + 1) i h3 (by rw [tks_len]; exact h3)

theorem lastK_at : ∀ (l : List RT) (k : Int) (t : List UInt8) (h : 0 < l.length), lastK l k t = (l[l.length - 1].k, l[l.length - 1].st) := by
  intro l
  induction l with
  | nil => intro k t h; cases h
  | cons x r ih =>
    intro k t h
    show lastK r x.k x.st = _
    cases r with
    | nil => rfl
    | cons y r' =>
      rw [ih x.k x.st (by simp)]
      simp

theorem calls_st (x : RT) : callsK x.k x.st = callsK x.k x.t.data.toList := by
  unfold callsK RT.st
  by_cases h3 : x.k = 3
  · rw [if_pos (by omega), if_pos (by omega)]
  · by_cases h6 : x.k = 6
    · rw [if_neg (by omega), if_neg (by omega), if_neg (by omega), if_neg (by omega), if_neg (by omega), if_neg (by omega)]
    · rw [if_neg h3, if_neg h6]

end Go.Proofs.YtkbgnbcphmkjkaaDoor

namespace Go.Proofs.YtkbgnbcphmkjkaaDoor
open Go.RowKit

/-- what is told of the tokens x behind one another, in a source of A bytes -/
structure Again (x : List RT) (m : List Tok) (A : Nat) (put : Bool) : Prop where
  len : m.length = if put then x.length + 2 else x.length + 1
  tok : ∀ i (h : i < x.length) (h2 : i < m.length), m[i].k = x[i].k ∧ m[i].t = x[i].st ∧ m[i].n = x[i].sn
  calls : ∀ (h : x.length - 1 < x.length), callsK x[x.length - 1].k x[x.length - 1].t.data.toList = put
  none : x.length = 0 → put = false
  semi : put = true → ∀ (h : x.length < m.length), m[x.length] = semiAt A 1
  last : ∀ (h : m.length - 1 < m.length), m[m.length - 1] = endAt A 1

theorem again_core {x : List RT} {rest : List UInt8} (hr : rest = [] ∨ rest = [32]) (hl0 : x = [] → rest = []) (hg : ∀ y ∈ x, Told y.tx y.k y.st y.sn) (h : (bd x rest).length ≤ 20000) :
    ∃ m put, scan (bd x rest) = .ok m ∧ Again x m (bd x rest).length put := by
  have hsc := scan_bd hr x hl0 hg h
  generalize (bd x rest).length = A at *
  have hc : ∃ put, callsK (lastK x 0 []).1 (lastK x 0 []).2 = put := ⟨_, rfl⟩
  obtain ⟨put, hput⟩ := hc
  have hlen := tks_len x 0
  refine ⟨_, put, hsc, ?_⟩
  have hcalls : ∀ (h : x.length - 1 < x.length), callsK x[x.length - 1].k x[x.length - 1].t.data.toList = put := by
    intro h
    rw [← hput, lastK_at x 0 [] (by omega), ← calls_st]
  have hnone : x.length = 0 → put = false := by
    intro h
    have : x = [] := List.eq_nil_of_length_eq_zero h
    subst this
    rw [← hput]
    rfl
  unfold fin
  rw [hput]
  have htok : ∀ (F : List Tok) i (h : i < x.length) (h2 : i < (tks x 0 ++ F).length), (tks x 0 ++ F)[i].k = x[i].k ∧ (tks x 0 ++ F)[i].t = x[i].st ∧ (tks x 0 ++ F)[i].n = x[i].sn := by
    intro F i h h2
    rw [List.getElem_append_left (by omega)]
    exact tks_at x 0 i h _
  cases put
  · refine ⟨by simp [hlen], htok _, hcalls, hnone, (fun e => by cases e), fun h => ?_⟩
    rw [List.getElem_append_right (by simp)]
    simp
  · refine ⟨by simp [hlen], htok _, hcalls, hnone, fun _ h => ?_, fun h => ?_⟩
    · rw [List.getElem_append_right (by omega)]
      simp [hlen]
    · rw [List.getElem_append_right (by simp)]
      simp

theorem jok_yes {l : List RT} (h : jok l = true) (i : Nat) (hi : i < l.length) : l[i].ok = true ∧ (l[i].k = 0 → i + 1 = l.length) := by
  unfold jok at h
  rw [List.all_eq_true] at h
  have := h i (List.mem_range.2 hi)
  rw [List.getElem?_eq_getElem hi] at this
  simp only [Bool.and_eq_true, Bool.or_eq_true, Bool.not_eq_true', decide_eq_false_iff_not, decide_eq_true_eq] at this
  refine ⟨this.1, fun e => ?_⟩
  rcases this.2 with h | h
  · exact absurd e h
  · exact h

/-- no end behind -/
theorem again_all {l : List RT} (hf : RFit l) (h : jok l = true) (hs : (jtx l).length ≤ 20000) (hl : ∀ (h : l.length - 1 < l.length), ¬ l[l.length - 1].k = 0) :
    ∃ m put, scan (jtx l) = .ok m ∧ Again l m (jtx l).length put := by
  rw [jtx_all] at hs ⊢
  refine again_core (Or.inl rfl) (fun _ => rfl) (fun y hy => ?_) hs
  obtain ⟨i, hi, rfl⟩ := List.getElem_of_mem hy
  obtain ⟨h1, h2⟩ := jok_yes h i hi
  refine told_ok h1 (fun e => ?_) (hf.each _ hy).2.2
  have := h2 e
  have e2 : i = l.length - 1 := by omega
  subst e2
  exact hl (by omega) e

/-- an end behind -/
theorem again_end {x : List RT} {e : RT} (he : e.k = 0) (hf : RFit (x ++ [e])) (h : jok (x ++ [e]) = true) (hs : (jtx (x ++ [e])).length ≤ 20000) :
    ∃ m put, scan (jtx (x ++ [e])) = .ok m ∧ Again x m (jtx (x ++ [e])).length put := by
  have het : e.tx = [] := by unfold RT.tx wtx; rw [if_neg (by omega), if_neg (by omega), if_neg (by omega), if_neg (by omega)]
  rw [jtx_end het] at hs ⊢
  refine again_core (by split; exact Or.inl rfl; exact Or.inr rfl) (fun hx => by rw [if_pos hx]) (fun y hy => ?_) hs
  obtain ⟨i, hi, rfl⟩ := List.getElem_of_mem hy
  have hi' : i < (x ++ [e]).length := by rw [List.length_append]; omega
  obtain ⟨h1, h2⟩ := jok_yes h i hi'
  rw [List.getElem_append_left hi] at h1 h2
  refine told_ok h1 (fun e0 => ?_) (hf.each _ (List.mem_append_left _ hy)).2.2
  have := h2 e0
  rw [List.length_append, List.length_singleton] at this
  omega

end Go.Proofs.YtkbgnbcphmkjkaaDoor
