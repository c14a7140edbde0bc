/- Layer 13: the law's world and its heap; each call in one word. -/
import Derived.Test.YtcogiklnegpfiaaWe
import Derived.Test.YtcogiklnegpfiaaLf
namespace Go.Proofs.Ytcogiklnegpfiaa
open Go.RowKit Go.Shelf

/-- what stays where it is -/
structure Sx where
  bw : Nat
  N : Nat
  B : Nat
  b : Nat
  p : Nat
  g : Nat
  M : Nat
  pb : Value
  vl : Value
  vw : Value

/-- the law's world and its heap: all things, what was told, the links, how much was asked, whose blocks -/
structure SI (P : Sx) (w : World) (vT : Value) (l : List Th) (L : List Lk) (q : Nat) (O : Nat → Prop) : Prop where
  hp : Hp w P.B P.b P.p P.g l P.M
  ex : ∃ vL vA vE aq le, JW P.bw P.N (.pointer (some ⟨P.b, 0, none⟩)) P.pb vT P.vl P.vw L w vL vA vE aq le ∧ le.length ≤ 1000000 ∧ aq.length ≤ q ∧ ∀ y, O y ↔ JO P.bw vL vA vE y
  tr : Row hF 2 43 w P.N vT (hnds l)
  to : ∀ y, vT.ownBlock = some y → ¬ O y
  low : P.N ≤ w.heap.size
  two : ∀ t ∈ l, t.x = 2
  l4 : L.length ≤ 400
  lus : ∀ k ∈ L, Us k.ts

/-- a list that came out, or was made -/
def KL (P : Sx) (w : World) (O : Nat → Prop) (v : Value) (hs : List Hd) : Prop := HLo w (fun y => y < w.heap.size ∧ ¬ O y ∧ y ≠ P.p ∧ y ≠ P.g) v hs

section
variable {P : Sx} {w w' : World} {vT : Value} {l : List Th} {L : List Lk} {q : Nat} {O O' : Nat → Prop} {v : Value} {hs : List Hd}

theorem SI.ltO (h : SI P w vT l L q O) : ∀ y, O y → y < w.heap.size := by
  intro y hy
  obtain ⟨vL, vA, vE, aq, le, hJ, -, -, hO⟩ := h.ex
  rcases (hO y).1 hy with e | e | e | e
  · subst e
    exact (Array.getElem?_eq_some_iff.1 hJ.box).1
  · exact (own_in hJ.lk e).2.1
  · exact (own_in hJ.ak e).2.1
  · exact (own_in hJ.en e).2.1
theorem SI.apart (h : SI P w vT l L q O) : ∀ y, O y → y ≠ P.b ∧ y ≠ P.p ∧ y ≠ P.g := by
  intro y hy
  obtain ⟨vL, vA, vE, aq, le, hJ, -, -, hO⟩ := h.ex
  rcases (hO y).1 hy with e | e | e | e
  · subst e
    refine ⟨fun e => ?_, fun e => ?_, fun e => own_box h.hp.tb.row hJ.box (by decide) (by rw [e]; rfl)⟩
    · have h1 := hJ.box
      rw [e, h.hp.box] at h1
      injection h1 with h1
      injection h1 with _ h2 _
      exact absurd h2 (by decide)
    · have h1 := hJ.box
      rw [e, h.hp.tb.box] at h1
      injection h1 with h1
      injection h1 with _ h2 _
      exact absurd h2 (by decide)
  · have := h.hp.apart hJ.lk (by decide) (by decide) (by decide) y e
    exact ⟨this.1.symm, this.2.1.symm, this.2.2.symm⟩
  · have := h.hp.apart hJ.ak (by decide) (by decide) (by decide) y e
    exact ⟨this.1.symm, this.2.1.symm, this.2.2.symm⟩
  · have := h.hp.apart hJ.en (by decide) (by decide) (by decide) y e
    exact ⟨this.1.symm, this.2.1.symm, this.2.2.symm⟩
theorem KL.next (h : KL P w O v hs) (hc : Ch (fun y => O y ∨ y = P.p ∨ y = P.g) w w') (hd : ∀ y, O' y → O y ∨ w.heap.size ≤ y) : KL P w' O' v hs := by
  have h2 := HLo.ch h hc (fun y hy e => by obtain ⟨-, h1, h2, h3⟩ := hy; rcases e with e | e | e; exact h1 e; exact h2 e; exact h3 e)
  exact h2.weak (fun y hy => ⟨Nat.lt_of_lt_of_le hy.1 hc.size, fun e => (hd y e).elim hy.2.1 (fun e => by have := hy.1; omega), hy.2.2⟩)
theorem KL.quiet (h : KL P w O v hs) (hc : Ch (fun _ => False) w w') : KL P w' O v hs := h.next (hc.mono (fun _ _ h => h.elim)) (fun _ h => .inl h)
theorem KL.hl (h : KL P w O v hs) (hn : hs.length ≤ 1000000) : HL w v hs := by
  obtain ⟨a, c, e, -, h⟩ := h
  refine ⟨a, c, e, by omega, fun h0 => ?_⟩
  obtain ⟨b, o, e, ho, hlt, h⟩ := h h0
  exact ⟨b, o, e, hlt, h⟩
theorem KL.of_row {N : Nat} (hr : Row hF 2 43 w N v hs) (h1 : ∀ y, v.ownBlock = some y → ¬ O y) (hp : Hp w P.B P.b P.p P.g l P.M) : KL P w O v hs := by
  have ha := hp.apart hr (by decide) (by decide) (by decide)
  obtain ⟨a, c, rfl, _, hm⟩ := hr.form
  refine ⟨a, c, rfl, by unfold maxLen at hm; omega, fun h0 => ?_⟩
  obtain ⟨g', c', cur, e, _, _, hlt, _, _, hc⟩ := hr.at hF_len h0
  cases e
  refine ⟨g', 0, rfl, ⟨hlt, h1 _ rfl, (ha _ rfl).2.1.symm, (ha _ rfl).2.2.symm⟩, hlt, fun i hi => ?_⟩
  rw [Nat.zero_add]
  exact ⟨hc i hi 0 _ rfl, hc i hi 1 _ rfl⟩
theorem KL.low (h : KL P w O v hs) : HLo w (fun y => y < w.heap.size) v hs := HLo.weak h (fun _ hy => hy.1)

theorem SI.box (h : SI P w vT l L q O) : ∃ vL vA vE, w.heap[P.bw]? = some (.cells #[.pointer (some ⟨P.b, 0, none⟩), P.pb, vL, vT, vA, P.vl, P.vw, vE] 37 (0, 0)) ∧ Row lkF 4 51 w P.N vL L := by
  obtain ⟨vL, vA, vE, aq, le, hJ, -⟩ := h.ex
  exact ⟨vL, vA, vE, hJ.box, hJ.lk⟩
theorem SI.quiet (h : SI P w vT l L q O) (hc : Ch (fun _ => False) w w') : SI P w' vT l L q O := by
  obtain ⟨vL, vA, vE, aq, le, hJ, h1⟩ := h.ex
  exact ⟨h.hp.ch0 hc, ⟨vL, vA, vE, aq, le, hJ.ch0 hc, h1⟩, h.tr.ch hc (fun _ _ h => h), h.to, Nat.le_trans h.low hc.size, h.two, h.l4, h.lus⟩
theorem SI.cell (h : SI P w vT l L q O) : w.cell? ⟨P.bw, 0, none⟩ = some (.pointer (some ⟨P.b, 0, none⟩)) := by
  obtain ⟨vL, vA, vE, hb, -⟩ := h.box
  simp [Lib.cell_of_heap hb]

/-- after a call -/
structure After (P : Sx) (w w' : World) (vT : Value) (l' : List Th) (L : List Lk) (q : Nat) (O O' : Nat → Prop) (v : Value) (R : List Hd) : Prop where
  si : SI P w' vT l' L (q + 501) O'
  kl : KL P w' O' v R
  ch : Ch (fun y => O y ∨ y = P.p ∨ y = P.g) w w'
  dis : ∀ y, O' y → O y ∨ w.heap.size ≤ y

abbrev refsV (P : Sx) : Value := .func (.func 31) #[.pointer (some ⟨P.bw, 0, none⟩)] #[]

theorem si_next {l' : List Th} {aq A : List Hd} {K : Nat} (h : SI P w vT l L q O) (hq : aq.length ≤ q) (hA : A.length ≤ K) (hj : JL P.bw P.N (.pointer (some ⟨P.b, 0, none⟩)) P.pb vT P.vl P.vw L aq A w' O') (hp' : Hp w' P.B P.b P.p P.g l' P.M) (hc : Ch (fun y => O y ∨ y = P.p ∨ y = P.g) w w') (hd : ∀ y, O' y → O y ∨ w.heap.size ≤ y) (hh : hnds l' = hnds l) (h2 : ∀ t ∈ l', t.x = 2) : SI P w' vT l' L (q + K) O' := by
  obtain ⟨vL', vA', vE', le', hJ', hO', hle'⟩ := hj.ex
  have ha := h.hp.apart h.tr (by decide) (by decide) (by decide)
  refine ⟨hp', ⟨vL', vA', vE', aq ++ A, le', hJ', hle', by rw [List.length_append]; omega, hO'⟩, ?_, fun y hy e => ?_, hj.low, h2, h.l4, h.lus⟩
  · rw [hh]
    exact h.tr.ch hc (fun y hy e => by rcases e with e | e | e; exact h.to y hy e; exact (ha y hy).2.1 e.symm; exact (ha y hy).2.2 e.symm)
  · rcases hd y e with e | e
    · exact h.to y hy e
    · have := (own_in h.tr hy).2.1
      omega

theorem si_reach (h : SI P w vT l L q O) (hq : q ≤ 1000000) (hR : KL P w O v hs) (us : ∀ x ∈ hs, Us x.1) :
    Calls Try.prog 18 #[.pointer (some ⟨P.b, 0, none⟩), v, refsV P] w fun e w' => ∃ v' R O', e = .returned v' ∧ After P w w' vT l L q O O' v' R ∧ R.Pairwise (fun a b => a.1 < b.1) ∧ ∀ x, x ∈ R ↔ Rc (lvH l) (tlL L) hs x := by
  obtain ⟨vL, vA, vE, aq, le, hJ, hle, haq, hO⟩ := h.ex
  refine (reach_is (refs_teller h.l4 h.lus (Nat.le_trans haq hq)) (Or.inr ⟨_, _, _, rfl⟩) h.hp (O := O) ⟨⟨vL, vA, vE, le, by rw [List.append_nil]; exact hJ, hO, hle⟩, h.low⟩ h.apart hR.low us).mono ?_
  rintro e w' ⟨v', R, A, O', rfl, hI⟩
  have hm := reach_mem h.hp.tb.wf h.hp.tb.lt hI.ms
  have hA : A.length ≤ 501 := by
    obtain ⟨mt, hms, -⟩ := hI.ms
    have := hms.ct
    have := h.hp.tb.m2
    omega
  have hc : Ch (fun y => O y ∨ y = P.p ∨ y = P.g) w w' := hI.ch.mono (fun _ _ e => .inl e)
  exact ⟨v', R, O', rfl, ⟨si_next h haq hA hI.j hI.hp hc hI.dis rfl h.two, KL.of_row hI.row hI.own hI.hp, hc, hI.dis⟩, hm.1, hm.2⟩

theorem si_collect (h : SI P w vT l L q O) (hq : q ≤ 1000000) (hR : KL P w O v hs) (us : ∀ x ∈ hs, Us x.1) :
    Calls Try.prog 19 #[.pointer (some ⟨P.b, 0, none⟩), v, refsV P] w fun e w' => ∃ v' R O', e = .returned v' ∧ After P w w' vT (frees l R) L q O O' v' R ∧ R.Pairwise (fun a b => a.1 < b.1) ∧ ∀ x, x ∈ R ↔ lvH l x = true ∧ ¬ Rc (lvH l) (tlL L) hs x := by
  obtain ⟨vL, vA, vE, aq, le, hJ, hle, haq, hO⟩ := h.ex
  refine (collect_is (refs_teller h.l4 h.lus (Nat.le_trans haq hq)) (Or.inr ⟨_, _, _, rfl⟩) h.hp (O := O) ⟨⟨vL, vA, vE, le, by rw [List.append_nil]; exact hJ, hO, hle⟩, h.low⟩ h.apart hR.low us).mono ?_
  rintro e w' ⟨v', R, A, O', rfl, hI⟩
  have hm := sweep_mem h.hp.tb.wf h.hp.tb.lt hI.ms
  have hA : A.length ≤ 501 := by
    obtain ⟨mt, hms, -⟩ := hI.ms
    have := hms.ct
    have := h.hp.tb.m2
    omega
  exact ⟨v', R, O', rfl, ⟨si_next h haq hA hI.j hI.hp hI.ch hI.dis (frees_hnds R l) (frees_two R h.two), KL.of_row hI.row hI.own hI.hp, hI.ch, hI.dis⟩, hm.1, hm.2⟩

theorem kl_in (h : KL P w O v hs) (hn : hs.length ≤ 1000000) (s g : Int) : Calls Try.prog 32 #[v, hv s g] w fun e w' => e = .returned (.bool (decide ((s, g) ∈ hs))) ∧ Ch (fun _ => False) w w' := by
  refine (lin_is (h.hl hn) s g).mono ?_
  rintro e w' ⟨rfl, hb⟩
  refine ⟨?_, Ch.of_below hb⟩
  have : amH hs s g = decide ((s, g) ∈ hs) := by
    rw [Bool.eq_iff_iff, decide_eq_true_eq]
    exact amH_iff
  rw [this]
theorem kl_same {v' : Value} {hs' : List Hd} (h : KL P w O v hs) (h' : KL P w O v' hs') (hn : hs.length ≤ 1000000) (hn' : hs'.length ≤ 1000000) : Calls Try.prog 29 #[v, v'] w fun e w' => e = .returned (.bool (decide (hs = hs'))) ∧ Ch (fun _ => False) w w' := by
  refine (same_is (h.hl hn) (h'.hl hn')).mono ?_
  rintro e w' ⟨rfl, hb⟩
  exact ⟨rfl, Ch.of_below hb⟩
/-- a handle of a list -/
theorem KL.at (h : KL P w O v hs) {i : Nat} (hi : i < hs.length) : ∃ b o c, v = .slice (some ⟨b, o, none⟩) hs.length c ∧ w.cell? ⟨b, o + i * 2, none⟩ = some (.int .u32 hs[i].1) ∧ w.cell? ⟨b, o + i * 2 + 1, none⟩ = some (.int .u32 hs[i].2) := by
  obtain ⟨a, c, e, -, h⟩ := h
  obtain ⟨b, o, rfl, -, -, h⟩ := h (by omega)
  exact ⟨b, o, c, e, (h i hi).1, (h i hi).2⟩
theorem KL.form (h : KL P w O v hs) : ∃ a c, v = .slice a hs.length c := by
  obtain ⟨a, c, e, -⟩ := h
  exact ⟨a, c, e⟩
/-- half of a list -/
theorem KL.half {a : Option Addr} {c n : Nat} (h : KL P w O (.slice a hs.length c) hs) (hn : n ≤ hs.length) : KL P w O (.slice a n c) (hs.take n) := by
  obtain ⟨a', c', e, hl, h⟩ := h
  injection e with e1 e2 e3
  subst e1
  have hln : (hs.take n).length = n := by rw [List.length_take]; omega
  refine ⟨a, c, by rw [hln], by omega, fun h0 => ?_⟩
  obtain ⟨b, o, e, ho, hlt, h⟩ := h (by omega)
  refine ⟨b, o, e, ho, hlt, fun i hi => ?_⟩
  rw [List.getElem_take]
  exact h i (by omega)

theorem si_all (h : SI P w vT l L q O) : Calls Try.prog 20 #[.pointer (some ⟨P.b, 0, none⟩)] w fun e w' => ∃ v', e = .returned v' ∧ SI P w' vT l L q O ∧ KL P w' O v' (allH l P.M) ∧ Ch (fun _ => False) w w' := by
  refine (hall_is h.hp).mono ?_
  rintro e w' ⟨v', rfl, hr, hb⟩
  have hc := Ch.of_below (Q := fun _ => False) hb
  have h' := h.quiet hc
  exact ⟨v', rfl, h', KL.of_row hr (fun y hy e => by have h1 := (own_in hr hy).1; have h2 := h.ltO y e; omega) h'.hp, hc⟩
end

end Go.Proofs.Ytcogiklnegpfiaa
