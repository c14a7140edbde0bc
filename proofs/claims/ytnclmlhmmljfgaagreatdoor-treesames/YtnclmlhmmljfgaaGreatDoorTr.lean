/- Trees of nodes, and how they lie in memory. -/
import Derived.Test.YtnclmlhmmljfgaaGreatDoorKm
namespace Go.Proofs.YtnclmlhmmljfgaaGreatDoor
open Go.RowKit

/-- a node's own fields -/
structure Nd where
  k : Int
  t : ByteArray
  n : Int
  y : ByteArray
  s : Int
  a : Int
  l : Int

inductive Tr where
  | mk (f : Nd) (ks : List Tr)

def Tr.f : Tr → Nd
  | .mk f _ => f
def Tr.ks : Tr → List Tr
  | .mk _ ks => ks

mutual
/-- how many nodes -/
def cnt : Tr → Nat
  | .mk _ ks => 1 + cnts ks
def cnts : List Tr → Nat
  | [] => 0
  | t :: r => cnt t + cnts r
end

mutual
/-- how deep -/
def dep : Tr → Nat
  | .mk _ ks => 1 + deps ks
def deps : List Tr → Nat
  | [] => 0
  | t :: r => max (dep t) (deps r)
end

/-- kinds whose type is a mark of check -/
def mrk (k : Int) : Bool := decide (k = 21) || decide (k = 22) || decide (k = 23) || decide (k = 24) || decide (k = 26) || decide (k = 27) || decide (k = 28) || decide (k = 30)

def sameF (a b : Nd) : Bool := decide (a.k = b.k) && decide (a.t = b.t) && decide (a.n = b.n) && (mrk a.k || decide (a.y = b.y))

mutual
def same : Tr → Tr → Bool
  | .mk f ks, .mk g ls => sameF f g && sames ks ls
def sames : List Tr → List Tr → Bool
  | [], [] => true
  | a :: r, b :: q => same a b && sames r q
  | _, _ => false
end

def bareF (f : Nd) : Nd := ⟨f.k, f.t, f.n, if mrk f.k then ⟨#[]⟩ else f.y, 0, 0, 0⟩

mutual
def bareT : Tr → Tr
  | .mk f ks => .mk (bareF f) (bares ks)
def bares : List Tr → List Tr
  | [] => []
  | t :: r => bareT t :: bares r
end

theorem cnt_pos (t : Tr) : 1 ≤ cnt t := by
  obtain ⟨f, ks⟩ := t
  unfold cnt
  omega

theorem cnts_app : ∀ (l m : List Tr), cnts (l ++ m) = cnts l + cnts m
  | [], m => by simp [cnts]
  | t :: r, m => by simp only [List.cons_append, cnts, cnts_app r m]; omega

theorem cnts_mem : ∀ {l : List Tr} {t : Tr}, t ∈ l → cnt t ≤ cnts l
  | x :: r, t, h => by
    unfold cnts
    rcases List.mem_cons.1 h with rfl | h
    · omega
    · have := cnts_mem h; omega

theorem len_le_cnts : ∀ (l : List Tr), l.length ≤ cnts l
  | [] => Nat.zero_le _
  | t :: r => by
    have := len_le_cnts r
    have := cnt_pos t
    simp only [List.length_cons, cnts]
    omega

theorem bares_len : ∀ (l : List Tr), (bares l).length = l.length
  | [] => rfl
  | t :: r => by simp [bares, bares_len r]

theorem bares_at : ∀ (l : List Tr) (i : Nat) (h : i < l.length), (bares l)[i]? = some (bareT l[i])
  | t :: r, 0, _ => by simp [bares]
  | t :: r, i + 1, h => by simpa [bares] using bares_at r i (by simpa using h)

theorem sames_len : ∀ {l m : List Tr}, sames l m = true → l.length = m.length
  | [], [], _ => rfl
  | [], _ :: _, h => by simp [sames] at h
  | _ :: _, [], h => by simp [sames] at h
  | a :: r, b :: q, h => by
    simp only [sames, Bool.and_eq_true] at h
    simp [sames_len h.2]

/-- alike, as far as i -/
theorem sames_take (l m : List Tr) (hl : l.length = m.length) : sames l m = true ↔ ∀ i (h : i < l.length) (h' : i < m.length), same l[i] m[i] = true := by
  induction l generalizing m with
  | nil =>
    cases m with
    | nil => simp [sames]
    | cons _ _ => simp at hl
  | cons a r ih =>
    cases m with
    | nil => simp at hl
    | cons b q =>
      have hl' : r.length = q.length := by simpa using hl
      simp only [sames, Bool.and_eq_true, ih q hl']
      constructor
      · rintro ⟨h1, h2⟩ i h h'
        cases i with
        | zero => exact h1
        | succ j => exact h2 j (by simpa using h) (by simpa using h')
      · intro h
        exact ⟨h 0 (by simp) (by simp), fun i h1 h2 => h (i + 1) (by simpa using h1) (by simpa using h2)⟩

theorem sames_no {l m : List Tr} {i : Nat} (h : i < l.length) (h' : i < m.length) (hne : same l[i] m[i] = false) : sames l m = false := by
  cases e : sames l m
  · rfl
  · have := (sames_take l m (sames_len e)).1 e i h h'
    rw [hne] at this
    cases this

theorem sames_nolen {l m : List Tr} (h : l.length ≠ m.length) : sames l m = false := by
  cases e : sames l m
  · rfl
  · exact absurd (sames_len e) h

/-! ### In memory -/

/-- how a list lies: in a plain block; with a mark behind it -/
structure Md where
  plain : Bool
  mark : Bool

def bhd : ByteArray := ⟨#[98, 101, 104, 105, 110, 100]⟩

/-- a mark stands behind the list -/
def Mkd (w : World) (S : Nat → Prop) (v : Value) (n b o : Nat) : Prop := ∃ c, v = .slice (some ⟨b, o, none⟩) n c ∧ n + 1 ≤ c ∧ S b ∧ w.cell? ⟨b, o + n * 8 + 1, none⟩ = some (.string bhd)

/-- a slice's head: of none, or of some from here on, in a block that is there -/
def Hd (w : World) (m : Md) (S : Nat → Prop) (v : Value) (n b o : Nat) : Prop :=
  ((n = 0 ∧ ∃ a c, v = .slice a 0 c) ∨ (0 < n ∧ S b ∧ (m.plain = true → PB w b) ∧ ∃ c, n ≤ 9223372036854775807 ∧ v = .slice (some ⟨b, o, none⟩) n c)) ∧ (m.mark = true → Mkd w S v n b o)

mutual
/-- the node whose eight cells begin here -/
def NodeAt (w : World) (m : Md) (S : Nat → Prop) (b o : Nat) : Tr → Prop
  | .mk f ks => ∃ v b' o', w.cell? ⟨b, o, none⟩ = some (.int .i64 f.k) ∧ w.cell? ⟨b, o + 1, none⟩ = some (.string f.t) ∧ w.cell? ⟨b, o + 2, none⟩ = some (.int .i64 f.n) ∧ w.cell? ⟨b, o + 3, none⟩ = some (.string f.y) ∧
      w.cell? ⟨b, o + 4, none⟩ = some (.int .i64 f.s) ∧ w.cell? ⟨b, o + 5, none⟩ = some (.int .i64 f.a) ∧ w.cell? ⟨b, o + 6, none⟩ = some (.int .i64 f.l) ∧ w.cell? ⟨b, o + 7, none⟩ = some v ∧
      Hd w m S v ks.length b' o' ∧ RowAt w m S b' o' ks
/-- nodes one behind the other -/
def RowAt (w : World) (m : Md) (S : Nat → Prop) (b o : Nat) : List Tr → Prop
  | [] => True
  | t :: r => NodeAt w m S b o t ∧ RowAt w m S b (o + 8) r
end

/-- a list of nodes -/
def Kids (w : World) (m : Md) (S : Nat → Prop) (v : Value) (ts : List Tr) : Prop := ∃ b o, Hd w m S v ts.length b o ∧ RowAt w m S b o ts

/-- a node as a value -/
abbrev nv (f : Nd) (v : Value) : Value := .agg #[.int .i64 f.k, .string f.t, .int .i64 f.n, .string f.y, .int .i64 f.s, .int .i64 f.a, .int .i64 f.l, v]

theorem RowAt.get {w : World} {m : Md} {S : Nat → Prop} {b : Nat} : ∀ {ts : List Tr} {o : Nat}, RowAt w m S b o ts → ∀ i (h : i < ts.length), NodeAt w m S b (o + i * 8) ts[i]
  | t :: r, o, h, 0, _ => by
    have := h.1
    rw [Nat.zero_mul, Nat.add_zero]
    exact this
  | t :: r, o, h, i + 1, hi => by
    have := RowAt.get (o := o + 8) h.2 i (by simpa using hi)
    rw [show o + (i + 1) * 8 = o + 8 + i * 8 by omega]
    simpa using this

theorem RowAt.mk {w : World} {m : Md} {S : Nat → Prop} {b : Nat} : ∀ {ts : List Tr} {o : Nat}, (∀ i (h : i < ts.length), NodeAt w m S b (o + i * 8) ts[i]) → RowAt w m S b o ts
  | [], _, _ => trivial
  | t :: r, o, h => ⟨by
      have := h 0 (by simp)
      rw [Nat.zero_mul, Nat.add_zero] at this
      exact this, RowAt.mk fun i hi => by
      have := h (i + 1) (by simpa using hi)
      rw [show o + (i + 1) * 8 = o + 8 + i * 8 by omega] at this
      simpa using this⟩

/-- worlds alike at these blocks -/
def Agree (S : Nat → Prop) (w w' : World) : Prop := ∀ i, S i → w'.heap[i]? = w.heap[i]?

theorem Agree.refl (S : Nat → Prop) (w : World) : Agree S w w := fun _ _ => rfl
theorem Agree.trans {S : Nat → Prop} {a b c : World} (h : Agree S a b) (k : Agree S b c) : Agree S a c := fun i hi => (k i hi).trans (h i hi)
theorem Agree.mono {S S' : Nat → Prop} {a b : World} (h : Agree S' a b) (hn : ∀ i, S i → S' i) : Agree S a b := fun i hi => h i (hn i hi)
theorem Agree.of_below {S : Nat → Prop} {M : Nat} {w w' : World} (h : Below M w w') (hn : ∀ i, S i → i < M) : Agree S w w' := fun i hi => h.block i (hn i hi)

theorem Agree.cell {S : Nat → Prop} {w w' : World} (h : Agree S w w') {b : Nat} (hb : S b) (o : Nat) : w'.cell? ⟨b, o, none⟩ = w.cell? ⟨b, o, none⟩ := by
  unfold World.cell?
  simp only [h b hb]

theorem PB.agree {S : Nat → Prop} {w w' : World} {b : Nat} (h : Agree S w w') (hb : S b) (hp : PB w b) : PB w' b := by
  obtain ⟨cs, t, h1⟩ := hp
  exact ⟨cs, t, (h b hb).trans h1⟩

theorem Hd.agree {w w' : World} {m : Md} {S : Nat → Prop} {n b o : Nat} {v : Value} (ha : Agree S w w') (h : Hd w m S v n b o) : Hd w' m S v n b o := by
  obtain ⟨h, hm⟩ := h
  refine ⟨?_, fun e => ?_⟩
  · rcases h with h | ⟨h1, h2, h3, h4⟩
    · exact Or.inl h
    · exact Or.inr ⟨h1, h2, fun hp => (h3 hp).agree ha h2, h4⟩
  · obtain ⟨c, h1, h2, h3, h4⟩ := hm e
    exact ⟨c, h1, h2, h3, by rw [ha.cell h3]; exact h4⟩

theorem Hd.nil_or {w : World} {m : Md} {S : Nat → Prop} {b o : Nat} {v : Value} {ks : List Tr} (h : Hd w m S v ks.length b o) : ks = [] ∨ S b := by
  rcases h.1 with ⟨h, _⟩ | ⟨_, h, _⟩
  · exact Or.inl (List.eq_nil_of_length_eq_zero h)
  · exact Or.inr h

mutual
theorem NodeAt.agree {w w' : World} {m : Md} {S : Nat → Prop} (ha : Agree S w w') : ∀ {t : Tr} {b o : Nat}, S b → NodeAt w m S b o t → NodeAt w' m S b o t
  | .mk f ks, b, o, hb, h => by
    obtain ⟨v, b', o', h0, h1, h2, h3, h4, h5, h6, h7, hh, hr⟩ := h
    refine ⟨v, b', o', ?_, ?_, ?_, ?_, ?_, ?_, ?_, ?_, hh.agree ha, ?_⟩
    · rw [ha.cell hb]; exact h0
    · rw [ha.cell hb]; exact h1
    · rw [ha.cell hb]; exact h2
    · rw [ha.cell hb]; exact h3
    · rw [ha.cell hb]; exact h4
    · rw [ha.cell hb]; exact h5
    · rw [ha.cell hb]; exact h6
    · rw [ha.cell hb]; exact h7
    · rcases hh.nil_or with h | hb'
      · subst h
        trivial
      · exact RowAt.agree ha hb' hr
theorem RowAt.agree {w w' : World} {m : Md} {S : Nat → Prop} (ha : Agree S w w') : ∀ {ts : List Tr} {b o : Nat}, S b → RowAt w m S b o ts → RowAt w' m S b o ts
  | [], _, _, _, _ => trivial
  | _ :: _, _, _, hb, h => ⟨NodeAt.agree ha hb h.1, RowAt.agree ha hb h.2⟩
end

theorem Kids.agree {w w' : World} {m : Md} {S : Nat → Prop} {v : Value} {ts : List Tr} (ha : Agree S w w') (h : Kids w m S v ts) : Kids w' m S v ts := by
  obtain ⟨b, o, hh, hr⟩ := h
  refine ⟨b, o, hh.agree ha, ?_⟩
  rcases hh.nil_or with h | hb'
  · subst h
    trivial
  · exact hr.agree ha hb'

theorem Kids.below {w w' : World} {m : Md} {S : Nat → Prop} {M : Nat} {v : Value} {ts : List Tr} (h : Kids w m S v ts) (hb : Below M w w') (hn : ∀ i, S i → i < M) : Kids w' m S v ts := h.agree (Agree.of_below hb hn)

theorem Hd.mono {w : World} {m : Md} {S S' : Nat → Prop} {n b o : Nat} {v : Value} (h : Hd w m S v n b o) (hn : ∀ i, S i → S' i) : Hd w m S' v n b o := by
  obtain ⟨h, hm⟩ := h
  refine ⟨?_, fun e => ?_⟩
  · rcases h with h | ⟨h1, h2, h3, h4⟩
    · exact Or.inl h
    · exact Or.inr ⟨h1, hn _ h2, h3, h4⟩
  · obtain ⟨c, h1, h2, h3, h4⟩ := hm e
    exact ⟨c, h1, h2, hn _ h3, h4⟩

mutual
theorem NodeAt.mono {w : World} {m : Md} {S S' : Nat → Prop} (hn : ∀ i, S i → S' i) : ∀ {t : Tr} {b o : Nat}, NodeAt w m S b o t → NodeAt w m S' b o t
  | .mk f ks, b, o, h => by
    obtain ⟨v, b', o', h0, h1, h2, h3, h4, h5, h6, h7, hh, hr⟩ := h
    exact ⟨v, b', o', h0, h1, h2, h3, h4, h5, h6, h7, hh.mono hn, RowAt.mono hn hr⟩
theorem RowAt.mono {w : World} {m : Md} {S S' : Nat → Prop} (hn : ∀ i, S i → S' i) : ∀ {ts : List Tr} {b o : Nat}, RowAt w m S b o ts → RowAt w m S' b o ts
  | [], _, _, _ => trivial
  | _ :: _, _, _, h => ⟨NodeAt.mono hn h.1, RowAt.mono hn h.2⟩
end

theorem Kids.mono {w : World} {m : Md} {S S' : Nat → Prop} {v : Value} {ts : List Tr} (h : Kids w m S v ts) (hn : ∀ i, S i → S' i) : Kids w m S' v ts := by
  obtain ⟨b, o, hh, hr⟩ := h
  exact ⟨b, o, hh.mono hn, hr.mono hn⟩

theorem NodeAt.open {w : World} {m : Md} {S : Nat → Prop} {b o : Nat} {t : Tr} (h : NodeAt w m S b o t) : ∃ v, w.cell? ⟨b, o, none⟩ = some (.int .i64 t.f.k) ∧ w.cell? ⟨b, o + 1, none⟩ = some (.string t.f.t) ∧ w.cell? ⟨b, o + 2, none⟩ = some (.int .i64 t.f.n) ∧ w.cell? ⟨b, o + 3, none⟩ = some (.string t.f.y) ∧
      w.cell? ⟨b, o + 4, none⟩ = some (.int .i64 t.f.s) ∧ w.cell? ⟨b, o + 5, none⟩ = some (.int .i64 t.f.a) ∧ w.cell? ⟨b, o + 6, none⟩ = some (.int .i64 t.f.l) ∧ w.cell? ⟨b, o + 7, none⟩ = some v ∧ Kids w m S v t.ks := by
  obtain ⟨f, ks⟩ := t
  obtain ⟨v, b', o', h0, h1, h2, h3, h4, h5, h6, h7, hh, hr⟩ := h
  exact ⟨v, h0, h1, h2, h3, h4, h5, h6, h7, b', o', hh, hr⟩

theorem NodeAt.shut {w : World} {m : Md} {S : Nat → Prop} {b o : Nat} {t : Tr} {v : Value} (h0 : w.cell? ⟨b, o, none⟩ = some (.int .i64 t.f.k)) (h1 : w.cell? ⟨b, o + 1, none⟩ = some (.string t.f.t)) (h2 : w.cell? ⟨b, o + 2, none⟩ = some (.int .i64 t.f.n)) (h3 : w.cell? ⟨b, o + 3, none⟩ = some (.string t.f.y))
    (h4 : w.cell? ⟨b, o + 4, none⟩ = some (.int .i64 t.f.s)) (h5 : w.cell? ⟨b, o + 5, none⟩ = some (.int .i64 t.f.a)) (h6 : w.cell? ⟨b, o + 6, none⟩ = some (.int .i64 t.f.l)) (h7 : w.cell? ⟨b, o + 7, none⟩ = some v) (hk : Kids w m S v t.ks) : NodeAt w m S b o t := by
  obtain ⟨f, ks⟩ := t
  obtain ⟨b', o', hh, hr⟩ := hk
  exact ⟨v, b', o', h0, h1, h2, h3, h4, h5, h6, h7, hh, hr⟩

/-- one form for none and for some -/
theorem Kids.form {w : World} {m : Md} {S : Nat → Prop} {v : Value} {ts : List Tr} (h : Kids w m S v ts) : ∃ A c b o, v = .slice A ts.length c ∧ ts.length ≤ 9223372036854775807 ∧ (0 < ts.length → A = some ⟨b, o, none⟩ ∧ S b ∧ (m.plain = true → PB w b)) ∧ RowAt w m S b o ts := by
  obtain ⟨b, o, ⟨hh, _⟩, hr⟩ := h
  rcases hh with ⟨h, a, c, e⟩ | ⟨h1, h2, h3, c, hn, e⟩
  · exact ⟨a, c, b, o, by rw [e, h], by omega, fun h' => by omega, hr⟩
  · exact ⟨_, c, b, o, e, hn, fun _ => ⟨rfl, h2, h3⟩, hr⟩

/-- with a mark behind -/
theorem Kids.marked {w : World} {m : Md} {S : Nat → Prop} {v : Value} {ts : List Tr} (h : Kids w m S v ts) (hm : m.mark = true) : ∃ c b o, v = .slice (some ⟨b, o, none⟩) ts.length c ∧ ts.length + 1 ≤ c ∧ ts.length ≤ 9223372036854775807 ∧ S b ∧ w.cell? ⟨b, o + ts.length * 8 + 1, none⟩ = some (.string bhd) ∧ RowAt w m S b o ts := by
  obtain ⟨b, o, ⟨hh, hk⟩, hr⟩ := h
  obtain ⟨c, h1, h2, h3, h4⟩ := hk hm
  refine ⟨c, b, o, h1, h2, ?_, h3, h4, hr⟩
  rcases hh with ⟨h, _⟩ | ⟨_, _, _, _, hn, _⟩
  · omega
  · exact hn

theorem Kids.nil (w : World) {m : Md} (hm : m.mark = false) (S : Nat → Prop) (a : Option Addr) (c : Nat) : Kids w m S (.slice a 0 c) [] := ⟨0, 0, ⟨Or.inl ⟨rfl, a, c, rfl⟩, fun e => by rw [hm] at e; cases e⟩, trivial⟩

mutual
/-- less is asked -/
theorem NodeAt.weak {w : World} {m m' : Md} {S : Nat → Prop} (hp : m'.plain = true → m.plain = true) (hm : m'.mark = false) : ∀ {t : Tr} {b o : Nat}, NodeAt w m S b o t → NodeAt w m' S b o t
  | .mk f ks, b, o, h => by
    obtain ⟨v, b', o', h0, h1, h2, h3, h4, h5, h6, h7, hh, hr⟩ := h
    refine ⟨v, b', o', h0, h1, h2, h3, h4, h5, h6, h7, ⟨?_, fun e => by rw [hm] at e; cases e⟩, RowAt.weak hp hm hr⟩
    rcases hh.1 with h | ⟨h1, h2, h3, h4⟩
    · exact Or.inl h
    · exact Or.inr ⟨h1, h2, fun e => h3 (hp e), h4⟩
theorem RowAt.weak {w : World} {m m' : Md} {S : Nat → Prop} (hp : m'.plain = true → m.plain = true) (hm : m'.mark = false) : ∀ {ts : List Tr} {b o : Nat}, RowAt w m S b o ts → RowAt w m' S b o ts
  | [], _, _, _ => trivial
  | _ :: _, _, _, h => ⟨NodeAt.weak hp hm h.1, RowAt.weak hp hm h.2⟩
end

theorem Kids.weak {w : World} {m m' : Md} {S : Nat → Prop} {v : Value} {ts : List Tr} (h : Kids w m S v ts) (hp : m'.plain = true → m.plain = true) (hm : m'.mark = false) : Kids w m' S v ts := by
  obtain ⟨b, o, hh, hr⟩ := h
  refine ⟨b, o, ⟨?_, fun e => by rw [hm] at e; cases e⟩, hr.weak hp hm⟩
  rcases hh.1 with h | ⟨h1, h2, h3, h4⟩
  · exact Or.inl h
  · exact Or.inr ⟨h1, h2, fun e => h3 (hp e), h4⟩

mutual
/-- what lies there is one tree alone -/
theorem NodeAt.one {w : World} {m m' : Md} {S S' : Nat → Prop} : ∀ {t t' : Tr} {b o : Nat}, NodeAt w m S b o t → NodeAt w m' S' b o t' → t = t'
  | .mk f ks, .mk f' ks', b, o, h, h' => by
    obtain ⟨v, b', o', h0, h1, h2, h3, h4, h5, h6, h7, ⟨hh, _⟩, hr⟩ := h
    obtain ⟨v', b'', o'', g0, g1, g2, g3, g4, g5, g6, g7, ⟨gh, _⟩, gr⟩ := h'
    rw [h0] at g0; rw [h1] at g1; rw [h2] at g2; rw [h3] at g3; rw [h4] at g4; rw [h5] at g5; rw [h6] at g6; rw [h7] at g7
    simp only [Option.some.injEq, Value.int.injEq, true_and, Value.string.injEq] at g0 g1 g2 g3 g4 g5 g6 g7
    subst g7
    have hf : f = f' := by
      obtain ⟨_, _, _, _, _, _, _⟩ := f
      obtain ⟨_, _, _, _, _, _, _⟩ := f'
      simp only at g0 g1 g2 g3 g4 g5 g6
      subst g0 g1 g2 g3 g4 g5 g6
      rfl
    subst hf
    have hk : ks = ks' := by
      rcases hh with ⟨h, a, c, e⟩ | ⟨h1, h2, h3, c, hn, e⟩
      · rcases gh with ⟨g, _⟩ | ⟨g1, _, _, c', _, e'⟩
        · rw [List.eq_nil_of_length_eq_zero h, List.eq_nil_of_length_eq_zero g]
        · rw [e] at e'
          injection e' with _ e2 _
          omega
      · rcases gh with ⟨g, a', c', e'⟩ | ⟨g1, _, _, c', _, e'⟩
        · rw [e] at e'
          injection e' with _ e2 _
          omega
        · rw [e] at e'
          injection e' with e1 e2 _
          injection e1 with e1
          injection e1 with e1 e3 _
          subst e1 e3
          exact RowAt.one e2 hr gr
    rw [hk]
theorem RowAt.one {w : World} {m m' : Md} {S S' : Nat → Prop} : ∀ {ts ts' : List Tr} {b o : Nat}, ts.length = ts'.length → RowAt w m S b o ts → RowAt w m' S' b o ts' → ts = ts'
  | [], [], _, _, _, _, _ => rfl
  | [], _ :: _, _, _, hl, _, _ => by simp at hl
  | _ :: _, [], _, _, hl, _, _ => by simp at hl
  | t :: r, t' :: r', b, o, hl, h, h' => by
    rw [NodeAt.one h.1 h'.1, RowAt.one (by simpa using hl) h.2 h'.2]
end

/-- a node's eight cells -/
structure Cs (w : World) (b o : Nat) (f : Nd) (v : Value) : Prop where
  c0 : w.cell? ⟨b, o, none⟩ = some (.int .i64 f.k)
  c1 : w.cell? ⟨b, o + 1, none⟩ = some (.string f.t)
  c2 : w.cell? ⟨b, o + 2, none⟩ = some (.int .i64 f.n)
  c3 : w.cell? ⟨b, o + 3, none⟩ = some (.string f.y)
  c4 : w.cell? ⟨b, o + 4, none⟩ = some (.int .i64 f.s)
  c5 : w.cell? ⟨b, o + 5, none⟩ = some (.int .i64 f.a)
  c6 : w.cell? ⟨b, o + 6, none⟩ = some (.int .i64 f.l)
  c7 : w.cell? ⟨b, o + 7, none⟩ = some v

theorem Cs.agree {S : Nat → Prop} {w w' : World} {b o : Nat} {f : Nd} {v : Value} (h : Cs w b o f v) (ha : Agree S w w') (hb : S b) : Cs w' b o f v :=
  ⟨(ha.cell hb _).trans h.c0, (ha.cell hb _).trans h.c1, (ha.cell hb _).trans h.c2, (ha.cell hb _).trans h.c3, (ha.cell hb _).trans h.c4, (ha.cell hb _).trans h.c5, (ha.cell hb _).trans h.c6, (ha.cell hb _).trans h.c7⟩
theorem Cs.below {w w' : World} {M b o : Nat} {f : Nd} {v : Value} (h : Cs w b o f v) (hb : Below M w w') (hl : b < M) : Cs w' b o f v := h.agree (S := fun i => i < M) (Agree.of_below hb fun _ h => h) hl

theorem NodeAt.cs {w : World} {m : Md} {S : Nat → Prop} {b o : Nat} {t : Tr} (h : NodeAt w m S b o t) : ∃ v, Hid (Cs w b o t.f v) ∧ Hid (Kids w m S v t.ks) := by
  obtain ⟨v, h0, h1, h2, h3, h4, h5, h6, h7, hk⟩ := h.open
  exact ⟨v, hide ⟨h0, h1, h2, h3, h4, h5, h6, h7⟩, hide hk⟩

theorem below_drw (w : World) : Below w.heap.size w w.drew := ⟨rfl, rfl, rfl, Nat.le_refl _, fun _ _ => rfl⟩

/-! ### A node that is boxed -/

structure Box (w : World) (B : Nat) (f : Nd) (v : Value) : Prop where
  blk : w.heap[B]? = some (.cells #[.int .i64 f.k, .string f.t, .int .i64 f.n, .string f.y, .int .i64 f.s, .int .i64 f.a, .int .i64 f.l, v] 25 (0, 0))

theorem Box.lt {w : World} {B : Nat} {f : Nd} {v : Value} (h : Box w B f v) : B < w.heap.size := (Array.getElem?_eq_some_iff.1 h.blk).1

theorem Box.cell {w : World} {B : Nat} {f : Nd} {v : Value} (h : Box w B f v) : w.cell? ⟨B, 0, none⟩ = some (.int .i64 f.k) ∧ w.cell? ⟨B, 1, none⟩ = some (.string f.t) ∧ w.cell? ⟨B, 2, none⟩ = some (.int .i64 f.n) ∧ w.cell? ⟨B, 3, none⟩ = some (.string f.y) ∧
    w.cell? ⟨B, 4, none⟩ = some (.int .i64 f.s) ∧ w.cell? ⟨B, 5, none⟩ = some (.int .i64 f.a) ∧ w.cell? ⟨B, 6, none⟩ = some (.int .i64 f.l) ∧ w.cell? ⟨B, 7, none⟩ = some v := by
  refine ⟨?_, ?_, ?_, ?_, ?_, ?_, ?_, ?_⟩ <;> simp [World.cell?, h.blk]

theorem Box.froz {w : World} {B : Nat} {f : Nd} {v : Value} (h : Box w B f v) (i : Nat) : w.frozen? ⟨B, i, none⟩ = false := by simp [World.frozen?, h.blk]

theorem Box.below {w w' : World} {B M : Nat} {f : Nd} {v : Value} (h : Box w B f v) (ha : Below M w w') (hB : B < M) : Box w' B f v := ⟨(ha.block B hB).trans h.blk⟩

/-- a node is boxed: the world behind it -/
theorem boxed (w : World) (f : Nd) (v : Value) : ∃ w1, w.alloc (.cells #[.int .i64 f.k, .string f.t, .int .i64 f.n, .string f.y, .int .i64 f.s, .int .i64 f.a, .int .i64 f.l, v] 25) = w1 ∧ Hid (Below w.heap.size w w1) ∧ Hid (Box w1 w.heap.size f v) ∧ w1.heap.size = w.heap.size + 1 :=
  ⟨_, rfl, hide ((Below.refl _ _).alloc (Nat.le_refl _) _), hide ⟨(MapKept.heap_alloc w _).1⟩, World.size_alloc _ _⟩

/-- below a bound -/
abbrev Lt (N : Nat) : Nat → Prop := fun i => i < N

theorem Kids.belowLt {w w' : World} {m : Md} {S : Nat → Prop} {M : Nat} {v : Value} {ts : List Tr} (h : Kids w m S v ts) (hb : Below M w w') (hn : ∀ i, S i → i < M) : Kids w' m S v ts := h.below hb hn

end Go.Proofs.YtnclmlhmmljfgaaGreatDoor
