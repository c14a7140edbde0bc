/- Whole numbers below 2^53 as words: sums and products are exact, a quotient of such lies between 0 and 1; no program in it. -/
import Derived.Test.YtifmkphdmfechabFa
namespace Go.Proofs.Ytifmkphdmfechab
namespace FM
open Ieee

theorem log2_of {n k : Nat} (h1 : 2 ^ k ≤ n) (h2 : n < 2 ^ (k + 1)) : n.log2 = k := by
  have hp : 0 < 2 ^ k := Nat.two_pow_pos _
  have h0 : n ≠ 0 := by omega
  have a := (Nat.le_log2 h0).2 h1
  have b := (Nat.log2_lt h0).2 h2
  omega

theorem log2_pos {n : Nat} (h : 0 < n) : 2 ^ n.log2 ≤ n ∧ n < 2 ^ (n.log2 + 1) := ⟨Nat.log2_self_le (by omega), Nat.lt_log2_self⟩

/-- nothing is dropped -/
theorem cut_zero (n : Nat) : Toward.even.cut false n 0 = n := by
  unfold Toward.cut
  simp [Nat.mod_one]

/-- what is dropped is nought -/
theorem cut_exact (K d : Nat) (hK : 0 < K) : Toward.even.cut false (K * 2 ^ d) d = K := by
  have hp : 0 < 2 ^ d := Nat.two_pow_pos _
  have hle : 2 ^ d ≤ K * 2 ^ d := Nat.le_mul_of_pos_left _ hK
  have hl : d ≤ (K * 2 ^ d).log2 := (Nat.le_log2 (by omega)).2 hle
  unfold Toward.cut
  dsimp only
  rw [Nat.min_eq_left (by omega), Nat.shiftLeft_eq, Nat.one_mul, Nat.mul_div_cancel _ hp, Nat.mul_mod_left]
  simp

/-- the word of a whole number from 1 to 2^53 - 1 -/
def wn (c : Nat) : Nat := (c.log2 + 1022) * 4503599627370496 + c * 2 ^ (52 - c.log2)

theorem wn_K {c : Nat} (h1 : 0 < c) (h2 : c < 9007199254740992) : c.log2 ≤ 52 ∧ 4503599627370496 ≤ c * 2 ^ (52 - c.log2) ∧ c * 2 ^ (52 - c.log2) < 9007199254740992 := by
  obtain ⟨a, b⟩ := log2_pos h1
  have hl : c.log2 < 53 := (Nat.log2_lt (by omega)).2 (by simpa using h2)
  have e1 : (2 : Nat) ^ 52 = 2 ^ c.log2 * 2 ^ (52 - c.log2) := by rw [← Nat.pow_add]; congr 1; omega
  have e2 : (2 : Nat) ^ 53 = 2 ^ (c.log2 + 1) * 2 ^ (52 - c.log2) := by rw [← Nat.pow_add]; congr 1; omega
  have hp : 0 < 2 ^ (52 - c.log2) := Nat.two_pow_pos _
  have f1 : (2 : Nat) ^ 52 = 4503599627370496 := by decide
  have f2 : (2 : Nat) ^ 53 = 9007199254740992 := by decide
  refine ⟨by omega, ?_, ?_⟩
  · rw [← f1, e1]; exact Nat.mul_le_mul_right _ a
  · rw [← f2, e2]; exact Nat.mul_lt_mul_of_pos_right b hp

/-- whatever spells a whole number is written as its word -/
theorem nearest_wn {c mag P E : Nat} (hE : E = 1074) (h1 : 0 < c) (h2 : c < 9007199254740992) (hv : mag * 2 ^ P = c * 2 ^ E) :
    double.nearest false mag (-1074 + (P : Int)) = wn c := by
  obtain ⟨hs, hK1, hK2⟩ := wn_K h1 h2
  obtain ⟨a, b⟩ := log2_pos h1
  have hp : 0 < 2 ^ P := Nat.two_pow_pos _
  have hm : mag ≠ 0 := by
    intro e
    rw [e, Nat.zero_mul] at hv
    have h3 : 0 < c * 2 ^ E := Nat.mul_pos h1 (Nat.two_pow_pos _)
    exact absurd hv (Nat.ne_of_lt h3)
  -- the digits
  have hl : mag.log2 + P = c.log2 + E := by
    have hx : mag * 2 ^ P ≠ 0 := by have := Nat.mul_pos (Nat.pos_of_ne_zero hm) hp; omega
    have e1 : (mag * 2 ^ P).log2 = mag.log2 + P := by
      obtain ⟨u, v⟩ := log2_pos (Nat.pos_of_ne_zero hm)
      apply log2_of
      · rw [Nat.pow_add]; exact Nat.mul_le_mul_right _ u
      · rw [show mag.log2 + P + 1 = (mag.log2 + 1) + P by omega, Nat.pow_add]; exact Nat.mul_lt_mul_of_pos_right v hp
    have e2 : (c * 2 ^ E).log2 = c.log2 + E := by
      apply log2_of
      · rw [Nat.pow_add]; exact Nat.mul_le_mul_right _ a
      · rw [show c.log2 + E + 1 = (c.log2 + 1) + E by omega, Nat.pow_add]; exact Nat.mul_lt_mul_of_pos_right b (Nat.two_pow_pos _)
    rw [← e1, hv, e2]
  generalize hsd : c.log2 = s at *
  generalize hKd : c * 2 ^ (52 - s) = K at *
  have hKv : mag * 2 ^ P = K * 2 ^ (s + 1022) := by
    rw [hv, ← hKd, Nat.mul_assoc, ← Nat.pow_add, show 52 - s + (s + 1022) = E by omega]
  unfold Format.nearest
  rw [if_neg hm]
  have hlast : max (-1074 + (P : Int) + (mag.log2 : Int) - (double.fractionBits : Int)) double.leastPlace = -1074 + ((s + 1022 : Nat) : Int) := by
    show max (-1074 + (P : Int) + (mag.log2 : Int) - 52) (-1074) = _
    omega
  simp only [hlast]
  have hkept : Toward.even.cut false (mag <<< (-1074 + (P : Int) - (-1074 + ((s + 1022 : Nat) : Int))).toNat) (-1074 + ((s + 1022 : Nat) : Int) - (-1074 + (P : Int))).toNat = K := by
    by_cases hQ : P ≤ s + 1022
    · have e1 : (-1074 + (P : Int) - (-1074 + ((s + 1022 : Nat) : Int))).toNat = 0 := by omega
      have e2 : (-1074 + ((s + 1022 : Nat) : Int) - (-1074 + (P : Int))).toNat = s + 1022 - P := by omega
      rw [e1, e2, Nat.shiftLeft_zero]
      have e3 : mag = K * 2 ^ (s + 1022 - P) := by
        apply Nat.eq_of_mul_eq_mul_right hp
        rw [hKv, Nat.mul_assoc, ← Nat.pow_add, show s + 1022 - P + P = s + 1022 by omega]
      rw [e3]
      exact cut_exact K _ (by omega)
    · have e1 : (-1074 + (P : Int) - (-1074 + ((s + 1022 : Nat) : Int))).toNat = P - (s + 1022) := by omega
      have e2 : (-1074 + ((s + 1022 : Nat) : Int) - (-1074 + (P : Int))).toNat = 0 := by omega
      rw [e1, e2, Nat.shiftLeft_eq]
      have e3 : mag * 2 ^ (P - (s + 1022)) = K := by
        apply Nat.eq_of_mul_eq_mul_right (Nat.two_pow_pos (s + 1022))
        rw [← hKv, Nat.mul_assoc, ← Nat.pow_add, show P - (s + 1022) + (s + 1022) = P by omega]
      rw [e3]
      exact cut_zero K
  rw [hkept]
  have e4 : (-1074 + ((s + 1022 : Nat) : Int) - double.leastPlace).toNat = s + 1022 := by
    show (-1074 + ((s + 1022 : Nat) : Int) - (-1074)).toNat = _
    omega
  rw [e4]
  show double.word false (min ((s + 1022) * 4503599627370496 + K) 9218868437227405312) = wn c
  rw [Nat.min_eq_left (by omega)]
  show (s + 1022) * 4503599627370496 + K = wn c
  unfold wn
  rw [hsd, hKd]

/-- the word of a whole number below 2^53 -/
def fi (c : Nat) : Nat := if c = 0 then 0 else wn c

theorem fi_zero : fi 0 = 0 := rfl
theorem fi_pos {c : Nat} (h : 0 < c) : fi c = wn c := by unfold fi; rw [if_neg (by omega)]

theorem wn_lt {c : Nat} (h1 : 0 < c) (h2 : c < 9007199254740992) : 4503599627370496 ≤ wn c ∧ wn c < 9218868437227405312 := by
  obtain ⟨hs, hK1, hK2⟩ := wn_K h1 h2
  unfold wn
  omega

theorem small_word {x : Nat} (h : x < 9218868437227405312) : rung x = x ∧ neg x = false ∧ nan x = false := by
  have h1 : rung x = x := by unfold rung; omega
  refine ⟨h1, ?_, ?_⟩
  · unfold neg
    rw [show x / 9223372036854775808 = 0 by omega]; rfl
  · unfold nan; rw [h1]; exact decide_eq_false (by omega)

theorem read_wn {c : Nat} (h1 : 0 < c) (h2 : c < 9007199254740992) :
    double.read (wn c) = .number false (c * 2 ^ (52 - c.log2)) (-1074 + ((c.log2 + 1022 : Nat) : Int)) := by
  obtain ⟨hs, hK1, hK2⟩ := wn_K h1 h2
  obtain ⟨a, b⟩ := wn_lt h1 h2
  obtain ⟨r, n, _⟩ := small_word b
  rw [read_eq, r, n, if_neg (by omega), if_pos b]
  have e : wn c = (c.log2 + 1022) * 4503599627370496 + c * 2 ^ (52 - c.log2) := rfl
  generalize wn c = x at *
  generalize c * 2 ^ (52 - c.log2) = K at *
  have e1 : x % 4503599627370496 = K - 4503599627370496 := by omega
  have e2 : x / 4503599627370496 - 1 = c.log2 + 1022 := by omega
  rw [e1, e2, show 4503599627370496 + (K - 4503599627370496) = K by omega]

theorem read_fi {c E : Nat} (hE : E = 1074) (h2 : c < 9007199254740992) :
    ∃ m i : Nat, double.read (fi c) = .number false m (-1074 + (i : Int)) ∧ m * 2 ^ i = c * 2 ^ E ∧ (0 < c → 1022 ≤ i) := by
  by_cases h : c = 0
  · subst h
    refine ⟨0, 0, ?_, by rw [Nat.zero_mul, Nat.zero_mul], fun h => by omega⟩
    rw [fi_zero, read_eq, if_pos (by decide)]
    rfl
  · refine ⟨_, _, by rw [fi_pos (by omega)]; exact read_wn (by omega) h2, ?_, fun _ => by omega⟩
    obtain ⟨hs, _, _⟩ := wn_K (c := c) (by omega) h2
    rw [Nat.mul_assoc, ← Nat.pow_add, show 52 - c.log2 + (c.log2 + 1022) = E by omega]

theorem nearest_zero (p : Int) : double.nearest false 0 p = 0 := by
  unfold Format.nearest
  rw [if_pos rfl]
  unfold Format.word
  rw [if_neg Bool.false_ne_true]

theorem nearest_fi {c mag P E : Nat} (hE : E = 1074) (h2 : c < 9007199254740992) (hv : mag * 2 ^ P = c * 2 ^ E) :
    double.nearest false mag (-1074 + (P : Int)) = fi c := by
  by_cases h : c = 0
  · subst h
    rw [Nat.zero_mul] at hv
    have hp : 2 ^ P ≠ 0 := Nat.ne_of_gt (Nat.two_pow_pos _)
    have hm : mag = 0 := by
      rcases Nat.mul_eq_zero.1 hv with h | h
      · exact h
      · exact absurd h hp
    subst hm
    rw [nearest_zero, fi_zero]
  · rw [fi_pos (by omega)]
    exact nearest_wn hE (by omega) h2 hv

theorem add_fi {a b : Nat} (h : a + b < 9007199254740992) : double.add (fi a) (fi b) = some (fi (a + b)) := by
  obtain ⟨E, hE⟩ : ∃ E : Nat, E = 1074 := ⟨_, rfl⟩
  obtain ⟨m, i, hr, hm, _⟩ := read_fi (c := a) hE (by omega)
  obtain ⟨n, j, hr', hn, _⟩ := read_fi (c := b) hE (by omega)
  unfold Format.add
  rw [hr, hr']
  have key : ∀ I : Nat, I ≤ i → I ≤ j → min (-1074 + (i : Int)) (-1074 + (j : Int)) = -1074 + (I : Int) →
      Datum.sum (.number false m (-1074 + (i : Int))) (.number false n (-1074 + (j : Int))) = some (.number false (m * 2 ^ (i - I) + n * 2 ^ (j - I)) (-1074 + (I : Int))) := by
    intro I hi hj hb
    simp only [Datum.sum, hb]
    have e1 : (-1074 + (i : Int) - (-1074 + (I : Int))).toNat = i - I := by omega
    have e2 : (-1074 + (j : Int) - (-1074 + (I : Int))).toNat = j - I := by omega
    rw [e1, e2]
    have e3 : signed false m (i - I) + signed false n (j - I) = ((m * 2 ^ (i - I) + n * 2 ^ (j - I) : Nat) : Int) := by
      unfold signed
      rw [if_neg Bool.false_ne_true, if_neg Bool.false_ne_true, Nat.shiftLeft_eq, Nat.shiftLeft_eq]
      omega
    rw [e3, Int.natAbs_natCast]
    have e4 : (if ((m * 2 ^ (i - I) + n * 2 ^ (j - I) : Nat) : Int) = 0 then (false && false) else decide (((m * 2 ^ (i - I) + n * 2 ^ (j - I) : Nat) : Int) < 0)) = false := by
      split
      · rfl
      · exact decide_eq_false (by omega)
    rw [e4]
  have fin : ∀ I : Nat, I ≤ i → I ≤ j → (m * 2 ^ (i - I) + n * 2 ^ (j - I)) * 2 ^ I = (a + b) * 2 ^ E := by
    intro I hi hj
    rw [Nat.add_mul, Nat.mul_assoc, Nat.mul_assoc, ← Nat.pow_add, ← Nat.pow_add, show i - I + I = i by omega, show j - I + I = j by omega, hm, hn, Nat.add_mul]
  rcases Nat.le_total i j with hij | hij
  · rw [key i (Nat.le_refl _) hij (by omega)]
    exact congrArg some (nearest_fi hE h (fin i (Nat.le_refl _) hij))
  · rw [key j hij (Nat.le_refl _) (by omega)]
    exact congrArg some (nearest_fi hE h (fin j hij (Nat.le_refl _)))

theorem mul_fi {a b : Nat} (ha : a < 9007199254740992) (hb : b < 9007199254740992) (h : a * b < 9007199254740992) : double.mul (fi a) (fi b) = some (fi (a * b)) := by
  obtain ⟨E, hE⟩ : ∃ E : Nat, E = 1074 := ⟨_, rfl⟩
  obtain ⟨m, i, hr, hm, hi⟩ := read_fi (c := a) hE ha
  obtain ⟨n, j, hr', hn, hj⟩ := read_fi (c := b) hE hb
  unfold Format.mul
  rw [hr, hr']
  show some (double.nearest (false ^^ false) (m * n) (-1074 + (i : Int) + (-1074 + (j : Int)))) = _
  by_cases h0 : a = 0 ∨ b = 0
  · have hmn : m * n = 0 := by
      have hpi : (2 : Nat) ^ i ≠ 0 := Nat.ne_of_gt (Nat.two_pow_pos _)
      have hpj : (2 : Nat) ^ j ≠ 0 := Nat.ne_of_gt (Nat.two_pow_pos _)
      rcases h0 with h0 | h0
      · rw [h0, Nat.zero_mul] at hm
        rcases Nat.mul_eq_zero.1 hm with h | h
        · rw [h, Nat.zero_mul]
        · exact absurd h hpi
      · rw [h0, Nat.zero_mul] at hn
        rcases Nat.mul_eq_zero.1 hn with h | h
        · rw [h, Nat.mul_zero]
        · exact absurd h hpj
    have hab : a * b = 0 := by
      rcases h0 with h0 | h0
      · rw [h0, Nat.zero_mul]
      · rw [h0, Nat.mul_zero]
    rw [hmn, hab, fi_zero, Bool.false_xor, nearest_zero]
  · have h1 := hi (by omega)
    have h2 := hj (by omega)
    have e : -1074 + (i : Int) + (-1074 + (j : Int)) = -1074 + ((i + j - E : Nat) : Int) := by omega
    rw [e]
    refine congrArg some (nearest_fi hE h ?_)
    apply Nat.eq_of_mul_eq_mul_right (Nat.two_pow_pos E)
    have e2 : m * n * 2 ^ (i + j - E) * 2 ^ E = (m * 2 ^ i) * (n * 2 ^ j) := by
      rw [Nat.mul_assoc, ← Nat.pow_add, show i + j - E + E = i + j by omega, Nat.pow_add]
      simp only [Nat.mul_left_comm, Nat.mul_assoc]
    rw [e2, hm, hn]
    simp only [Nat.mul_left_comm, Nat.mul_assoc]

theorem floatOf (c : Nat) (h : c < 9007199254740992) : double.nearest false c 0 = fi c := by
  obtain ⟨E, hE⟩ : ∃ E : Nat, E = 1074 := ⟨_, rfl⟩
  have h1 := nearest_fi (c := c) (mag := c) (P := E) hE h rfl
  rw [show -1074 + (E : Int) = 0 by omega] at h1
  exact h1

/-- what is dropped rounds up by one at most -/
theorem cut_le (n d : Nat) (h : d ≤ n.log2 + 2) : n / 2 ^ d ≤ Toward.even.cut false n d ∧ Toward.even.cut false n d ≤ n / 2 ^ d + 1 := by
  unfold Toward.cut
  dsimp only
  rw [Nat.min_eq_left h, Nat.shiftLeft_eq, Nat.one_mul]
  generalize (decide (2 ^ d < 2 * (n % 2 ^ d)) || 2 ^ d == 2 * (n % 2 ^ d) && n / 2 ^ d % 2 == 1) = c
  cases c <;> simp

/-- a number below 1, of 54 digits and more, is written as a word from above 0 to 1 -/
theorem nearest_below {mag : Nat} {place : Int} (hm : 0 < mag) (hl : 52 ≤ mag.log2) (h1 : place + (mag.log2 : Int) ≤ -1) (h2 : -1000 ≤ place) :
    4503599627370496 ≤ double.nearest false mag place ∧ double.nearest false mag place ≤ 4607182418800017408 := by
  obtain ⟨a, b⟩ := log2_pos hm
  generalize hL : mag.log2 = l at *
  unfold Format.nearest
  rw [if_neg (by omega)]
  have hlast : max (place + (mag.log2 : Int) - (double.fractionBits : Int)) double.leastPlace = place + (l : Int) - 52 := by
    rw [hL]
    show max (place + (l : Int) - 52) (-1074) = _
    omega
  simp only [hlast]
  have e1 : (place - (place + (l : Int) - 52)).toNat = 0 := by omega
  have e2 : (place + (l : Int) - 52 - place).toNat = l - 52 := by omega
  rw [e1, e2, Nat.shiftLeft_zero]
  obtain ⟨c1, c2⟩ := cut_le mag (l - 52) (by omega)
  have hp : 0 < 2 ^ (l - 52) := Nat.two_pow_pos _
  have k1 : 4503599627370496 ≤ mag / 2 ^ (l - 52) := by
    rw [Nat.le_div_iff_mul_le hp]
    have e : 4503599627370496 * 2 ^ (l - 52) = 2 ^ l := by
      rw [show (4503599627370496 : Nat) = 2 ^ 52 by decide, ← Nat.pow_add, show 52 + (l - 52) = l by omega]
    rw [e]; exact a
  have k2 : mag / 2 ^ (l - 52) < 9007199254740992 := by
    rw [Nat.div_lt_iff_lt_mul hp]
    have e : 9007199254740992 * 2 ^ (l - 52) = 2 ^ (l + 1) := by
      rw [show (9007199254740992 : Nat) = 2 ^ 53 by decide, ← Nat.pow_add, show 53 + (l - 52) = l + 1 by omega]
    rw [e]; exact b
  have e4 : (place + (l : Int) - 52 - double.leastPlace).toNat = (place + (l : Int) + 1022).toNat := by
    show (place + (l : Int) - 52 - (-1074)).toNat = _
    omega
  rw [e4]
  show 4503599627370496 ≤ double.word false (min ((place + (l : Int) + 1022).toNat * 4503599627370496 + Toward.even.cut false mag (l - 52)) 9218868437227405312) ∧ double.word false (min ((place + (l : Int) + 1022).toNat * 4503599627370496 + Toward.even.cut false mag (l - 52)) 9218868437227405312) ≤ 4607182418800017408
  have hT : (place + (l : Int) + 1022).toNat ≤ 1021 := by omega
  generalize (place + (l : Int) + 1022).toNat = T at *
  generalize Toward.even.cut false mag (l - 52) = K at *
  rw [Nat.min_eq_left (by omega)]
  show 4503599627370496 ≤ T * 4503599627370496 + K ∧ T * 4503599627370496 + K ≤ 4607182418800017408
  omega

theorem log2_K {c : Nat} (h1 : 0 < c) (h2 : c < 9007199254740992) : (c * 2 ^ (52 - c.log2)).log2 = 52 := by
  obtain ⟨_, a, b⟩ := wn_K h1 h2
  exact log2_of (by simpa using a) (by simpa using b)

/-- a part of a whole: above 0, at most 1 -/
theorem div_fi {a b : Nat} (ha : 0 < a) (hab : a ≤ b) (hb : b < 9007199254740992) :
    ∃ z, double.div (fi a) (fi b) = some z ∧ 4503599627370496 ≤ z ∧ z ≤ 4607182418800017408 ∧ (a = b → z = 4607182418800017408) := by
  obtain ⟨E, hE⟩ : ∃ E : Nat, E = 1074 := ⟨_, rfl⟩
  obtain ⟨sa, a1, a2⟩ := wn_K ha (show a < 9007199254740992 by omega)
  obtain ⟨sb, b1, b2⟩ := wn_K (show 0 < b by omega) hb
  have la := log2_K ha (show a < 9007199254740992 by omega)
  have lb := log2_K (show 0 < b by omega) hb
  unfold Format.div
  rw [fi_pos ha, fi_pos (by omega), read_wn ha (by omega), read_wn (by omega) hb]
  have hsl : a.log2 ≤ b.log2 := by
    have h1 := (log2_pos ha).1
    exact (Nat.le_log2 (by omega)).2 (by omega)
  have hmm : a.log2 = b.log2 → a * 2 ^ (52 - a.log2) ≤ b * 2 ^ (52 - b.log2) := by
    intro e; rw [e]; exact Nat.mul_le_mul_right _ hab
  have hmm' : a.log2 = b.log2 → a < b → a * 2 ^ (52 - a.log2) < b * 2 ^ (52 - b.log2) := by
    intro e h; rw [e]; exact Nat.mul_lt_mul_of_pos_right h (Nat.two_pow_pos _)
  have heq : a = b → a * 2 ^ (52 - a.log2) = b * 2 ^ (52 - b.log2) := by intro e; rw [e]
  generalize a * 2 ^ (52 - a.log2) = m at *
  generalize b * 2 ^ (52 - b.log2) = n at *
  have hq : Datum.quotient (double.fractionBits + 2) (.number false m (-1074 + ((a.log2 + 1022 : Nat) : Int))) (.number false n (-1074 + ((b.log2 + 1022 : Nat) : Int))) =
      some (.number false (2 * (m * 18014398509481984 / n) + (m * 18014398509481984 % n != 0).toNat) ((a.log2 : Int) - (b.log2 : Int) - 55)) := by
    show (if n = 0 then _ else _) = _
    rw [if_neg (by omega)]
    rw [la, lb]
    show some (Datum.number false (2 * (m <<< 54 / n) + (m <<< 54 % n != 0).toNat) (-1074 + ((a.log2 + 1022 : Nat) : Int) - (-1074 + ((b.log2 + 1022 : Nat) : Int)) - 54 - 1)) = _
    rw [Nat.shiftLeft_eq, show (2 : Nat) ^ 54 = 18014398509481984 by decide]
    rw [show -1074 + ((a.log2 + 1022 : Nat) : Int) - (-1074 + ((b.log2 + 1022 : Nat) : Int)) - 54 - 1 = (a.log2 : Int) - (b.log2 : Int) - 55 by omega]
  rw [hq]
  by_cases e : a = b
  · have em := heq e
    subst e
    subst em
    have e1 : m * 18014398509481984 / m = 18014398509481984 := by rw [Nat.mul_comm, Nat.mul_div_cancel _ (by omega)]
    have e2 : m * 18014398509481984 % m = 0 := Nat.mul_mod_right _ _
    rw [e1, e2]
    obtain ⟨P, hP⟩ : ∃ P : Nat, P = 1019 := ⟨_, rfl⟩
    have h1 := nearest_fi (c := 1) (mag := 36028797018963968) (P := P) hE (by omega) (by
      rw [show (36028797018963968 : Nat) = 2 ^ 55 by decide, ← Nat.pow_add, Nat.one_mul, show 55 + P = E by omega])
    refine ⟨4607182418800017408, ?_, by omega, by omega, fun _ => rfl⟩
    show some (double.nearest false (2 * 18014398509481984 + 0) ((a.log2 : Int) - (a.log2 : Int) - 55)) = _
    rw [show (a.log2 : Int) - (a.log2 : Int) - 55 = -1074 + (P : Int) by omega, show 2 * 18014398509481984 + 0 = 36028797018963968 by omega, h1]
    rfl
  · have ht : (m * 18014398509481984 % n != 0).toNat ≤ 1 := by cases (m * 18014398509481984 % n != 0) <;> simp
    have d1 : 9007199254740992 ≤ m * 18014398509481984 / n := by
      rw [Nat.le_div_iff_mul_le (by omega)]; omega
    have d2 : m * 18014398509481984 / n < 36028797018963968 := by
      rw [Nat.div_lt_iff_lt_mul (by omega)]; omega
    have d3 : a.log2 = b.log2 → m * 18014398509481984 / n < 18014398509481984 := by
      intro h
      have := hmm' h (by omega)
      rw [Nat.div_lt_iff_lt_mul (by omega)]; omega
    generalize m * 18014398509481984 / n = D at *
    generalize (m * 18014398509481984 % n != 0).toNat = t at *
    have hlo : 54 ≤ (2 * D + t).log2 := (Nat.le_log2 (by omega)).2 (by rw [show (2 : Nat) ^ 54 = 18014398509481984 by decide]; omega)
    have hhi : (2 * D + t).log2 < 56 := (Nat.log2_lt (by omega)).2 (by rw [show (2 : Nat) ^ 56 = 72057594037927936 by decide]; omega)
    have hhi2 : a.log2 = b.log2 → (2 * D + t).log2 < 55 := fun h => (Nat.log2_lt (by omega)).2 (by rw [show (2 : Nat) ^ 55 = 36028797018963968 by decide]; have := d3 h; omega)
    obtain ⟨z1, z2⟩ := nearest_below (mag := 2 * D + t) (place := (a.log2 : Int) - (b.log2 : Int) - 55) (by omega) (by omega) (by
      by_cases h : a.log2 = b.log2
      · have := hhi2 h; omega
      · omega) (by omega)
    exact ⟨_, rfl, z1, z2, fun h => absurd h e⟩

end FM
end Go.Proofs.Ytifmkphdmfechab
