/- Layer 15: who waits for which arms, on lists. Layer 15: the law's woken. Layer 15: one world of channels, its parked ones; what ready means. -/
import Derived.Test.YtbblmbbpicinlaaYyb
import Derived.Test.YtbblmbbpicinlaaYya
namespace Go.Proofs.Ytbblmbbpicinlaa
open Go.RowKit

/-- who is parked: the arms lie in block ga -/
structure Pk where
  g : Hnd
  ga : Nat
  c : Nat
  az : List Am
def paF (q : Pk) : List Value := [.int .u32 q.g.1, .int .u32 q.g.2, .slice (some ⟨q.ga, 0, none⟩) q.az.length q.c]
theorem paF_len (q : Pk) : (paF q).length = 3 := rfl
theorem paF_one (q : Pk) : ∀ v ∈ paF q, v.oneCell' = true := by
  intro u hu
  simp only [paF, List.mem_cons, List.not_mem_nil, or_false] at hu
  rcases hu with rfl | rfl | rfl <;> rfl

/-- a wait without its own handle, for an arm -/
def wtR (g : Hnd) (i : Nat) (x : Am) : Rc := ⟨0, 0, g.1, g.2, x.h.1, x.h.2, wtD x, (i : Int), (wtV x).n, (wtV x).s, (wtV x).g⟩
def wtRs (g : Hnd) : Nat → List Am → List Rc
  | _, [] => []
  | i, x :: r => wtR g i x :: wtRs g (i + 1) r
theorem wtRs_len (g : Hnd) : ∀ (i : Nat) (r : List Am), (wtRs g i r).length = r.length
  | _, [] => rfl
  | i, x :: r => by rw [wtRs, List.length_cons, List.length_cons, wtRs_len g (i + 1) r]
theorem wtRs_mem {g : Hnd} {q : Rc} : ∀ {i : Nat} {r : List Am}, q ∈ wtRs g i r → ∃ m, ∃ hm : m < r.length, q = wtR g (i + m) r[m]
  | _, [], h => by cases h
  | i, x :: r, h => by
    rw [wtRs] at h
    rcases List.mem_cons.1 h with rfl | h
    · exact ⟨0, by simp, rfl⟩
    · obtain ⟨m, hm, e⟩ := wtRs_mem h
      exact ⟨m + 1, by simpa using hm, by rw [e, show i + 1 + m = i + (m + 1) by omega]; rfl⟩

theorem isWho_r {s g : Int} {t : Wt} : isWho s g t = true ↔ t.o = false ∧ t.r.ws = s ∧ t.r.wg = g := by
  unfold isWho
  simp
theorem mem_sel {q : Wt → Bool} {l : List Wt} {r : Rc} : r ∈ sel q l ↔ ∃ t ∈ l, q t = true ∧ t.r = r := by
  unfold sel
  rw [List.mem_map]
  constructor
  · rintro ⟨t, ht, e⟩
    obtain ⟨h1, h2⟩ := List.mem_filter.1 ht
    exact ⟨t, h1, h2, e⟩
  · rintro ⟨t, h1, h2, e⟩
    exact ⟨t, List.mem_filter.2 ⟨h1, h2⟩, e⟩
theorem twW_no {l : List Wt} {ws wg ar : Int} (h : ∀ r ∈ sel (isWho ws wg) l, r.ar ≠ ar) : twW l ws wg ar = false := by
  unfold twW
  rw [List.any_eq_false]
  intro t ht hh
  simp only [Bool.and_eq_true, decide_eq_true_eq] at hh
  exact h t.r (mem_sel.2 ⟨t, ht, hh.1, rfl⟩) hh.2
theorem wtD_r (x : Am) : wtD x = 1 ∨ wtD x = 2 := by
  unfold wtD
  split
  · exact .inl rfl
  · exact .inr rfl
theorem put_at {l : List Wt} {g : Hnd} {x : Am} {i : Nat} (ng : nnH g = false) (h : ∀ r ∈ sel (isWho g.1 g.2) l, r.ar < (i : Int)) : ∃ t, putW l x.h.1 x.h.2 (wtD x) g.1 g.2 (i : Int) (wtV x).n (wtV x).s (wtV x).g = l ++ [t] ∧ t.o = false ∧ noMe t.r = wtR g i x ∧ t.r.ws = g.1 ∧ t.r.wg = g.2 ∧ t.r.ar = (i : Int) := by
  have he : ecW l g.1 g.2 (wtD x) (i : Int) = 0 := by
    unfold ecW
    rw [if_neg (fun e => by unfold nnH at ng; rw [e.1, e.2] at ng; exact absurd ng (by decide)), if_neg (by rcases wtD_r x with e | e <;> rw [e] <;> decide), twW_no (fun r hr e => by have := h r hr; omega), if_neg (by decide)]
  refine ⟨⟨⟨slW l, (genW l (slW l : Int) : Int) + 1, g.1, g.2, x.h.1, x.h.2, wtD x, (i : Int), (wtV x).n, (wtV x).s, (wtV x).g⟩, false⟩, by unfold putW; rw [if_pos he], rfl, rfl, rfl, rfl, rfl⟩
theorem pk_sel {g : Hnd} (ng : nnH g = false) : ∀ (r : List Am) (i : Nat) (l : List Wt), (∀ q ∈ sel (isWho g.1 g.2) l, q.ar < (i : Int)) → (sel (isWho g.1 g.2) (pkL g i r l)).map noMe = (sel (isWho g.1 g.2) l).map noMe ++ wtRs g i r
  | [], _, _, _ => by rw [pkL, wtRs, List.append_nil]
  | x :: r, i, l, h => by
    obtain ⟨t, he, ho, hr, h1, h2, h3⟩ := put_at (x := x) ng h
    have hq : isWho g.1 g.2 t = true := isWho_r.2 ⟨ho, h1, h2⟩
    rw [pkL, he, wtRs, pk_sel ng r (i + 1) (l ++ [t]) (fun q hq' => ?_)]
    · rw [sel_snoc, if_pos hq, List.map_append, List.map_cons, List.map_nil, hr, List.append_assoc]
      rfl
    · rw [sel_snoc, if_pos hq] at hq'
      rcases List.mem_append.1 hq' with e | e
      · have := h q e; omega
      · rw [List.mem_singleton.1 e, h3]; omega
theorem pk_other {g : Hnd} {q : Wt → Bool} (hq : ∀ t : Wt, t.r.ws = g.1 → t.r.wg = g.2 → q t = false) : ∀ (r : List Am) (i : Nat) (l : List Wt), sel q (pkL g i r l) = sel q l
  | [], _, _ => rfl
  | x :: r, i, l => by
    rw [pkL, pk_other hq r]
    unfold putW
    split
    · rw [sel_snoc, if_neg]
      rw [hq _ rfl rfl]
      decide
    · rfl
theorem pk_mem {g : Hnd} {t : Wt} : ∀ {r : List Am} {i : Nat} {l : List Wt}, t ∈ pkL g i r l → t ∈ l ∨ (t.r.ws = g.1 ∧ t.r.wg = g.2)
  | [], _, _, h => .inl h
  | x :: r, i, l, h => by
    rw [pkL] at h
    rcases pk_mem h with h | h
    · unfold putW at h
      split at h
      · rcases List.mem_append.1 h with h | h
        · exact .inl h
        · rw [List.mem_singleton.1 h]; exact .inr ⟨rfl, rfl⟩
      · exact .inl h
    · exact .inr h
theorem pk_ok {g : Hnd} (g1 : UsW g.1) (g2 : UsW g.2) : ∀ {r : List Am} {i : Nat} {l : List Wt}, WtOk l → (∀ x ∈ r, AmOk x) → i + r.length ≤ 1000 → WtOk (pkL g i r l)
  | [], _, _, h, _, _ => h
  | x :: r, i, l, h, hu, hi => by
    rw [List.length_cons] at hi
    have hx := wt_ok (hu x (List.mem_cons_self ..))
    rw [pkL]
    exact pk_ok g1 g2 (h.put g1 g2 ⟨by omega, by omega⟩ hx.2.1 hx.2.2.1 hx.2.2.2) (fun y hy => hu y (List.mem_cons_of_mem _ hy)) (by omega)

/-- the waits of the book are those of the parked ones -/
structure PI (l : List Wt) (ps : List Pk) : Prop where
  nd : ps.Pairwise fun a b => a.g ≠ b.g
  rg : ∀ p ∈ ps, nnH p.g = false ∧ (UsW p.g.1 ∧ UsW p.g.2) ∧ 0 < p.az.length ∧ p.az.length ≤ 50
  wt : ∀ p ∈ ps, (sel (isWho p.g.1 p.g.2) l).map noMe = wtRs p.g 0 p.az
  al : ∀ t ∈ l, t.o = false → ∃ p ∈ ps, p.g = (t.r.ws, t.r.wg)
theorem PI.nil : PI [] [] := ⟨List.Pairwise.nil, (fun p h => by cases h), (fun p h => by cases h), (fun t h => by cases h)⟩
theorem PI.park {l : List Wt} {ps : List Pk} (h : PI l ps) {q : Pk} (ng : nnH q.g = false) (u : UsW q.g.1 ∧ UsW q.g.2) (nw : sel (isWho q.g.1 q.g.2) l = []) (h0 : 0 < q.az.length) (h5 : q.az.length ≤ 50) : PI (pkL q.g 0 q.az l) (ps ++ [q]) := by
  have hne : ∀ p ∈ ps, p.g ≠ q.g := fun p hp e => by
    have h1 := h.wt p hp
    rw [e, nw] at h1
    have h2 := congrArg List.length h1
    rw [wtRs_len] at h2
    have := (h.rg p hp).2.2.1
    simp at h2
    omega
  refine ⟨List.pairwise_append.2 ⟨h.nd, List.pairwise_singleton _ _, fun a ha b hb => by rw [List.mem_singleton.1 hb]; exact hne a ha⟩, fun p hp => ?_, fun p hp => ?_, fun t ht ho => ?_⟩
  · rcases List.mem_append.1 hp with hp | hp
    · exact h.rg p hp
    · rw [List.mem_singleton.1 hp]; exact ⟨ng, u, h0, h5⟩
  · rcases List.mem_append.1 hp with hp | hp
    · rw [pk_other (fun t h1 h2 => ?_), h.wt p hp]
      rw [← Bool.not_eq_true, isWho_r]
      rintro ⟨_, h3, h4⟩
      exact hne p hp (Prod.ext (h3.symm.trans h1) (h4.symm.trans h2))
    · rw [List.mem_singleton.1 hp, pk_sel ng q.az 0 l (fun r hr => by rw [nw] at hr; cases hr), nw]
      rfl
  · rcases pk_mem ht with ht | ht
    · obtain ⟨p, hp, e⟩ := h.al t ht ho
      exact ⟨p, List.mem_append_left _ hp, e⟩
    · exact ⟨q, List.mem_append_right _ (List.mem_singleton.2 rfl), Prod.ext ht.1.symm ht.2.symm⟩

theorem sel_lea_sub {q : Wt → Bool} (ho : ∀ t, q (over t) = false) {l : List Wt} {s g : Int} {r : Rc} (h : r ∈ sel q (leaW l s g)) : ∃ t ∈ l, q t = true ∧ isWho s g t = false ∧ t.r = r := by
  obtain ⟨t, ht, hq, e⟩ := mem_sel.1 h
  unfold leaW at ht
  obtain ⟨u, hu, e2⟩ := List.mem_map.1 ht
  by_cases hw : isWho s g u = true
  · rw [if_pos hw] at e2
    rw [← e2, ho] at hq
    cases hq
  · rw [if_neg hw] at e2
    subst e2
    exact ⟨u, hu, hq, by simpa using hw, e⟩
theorem isWho_over (s g : Int) (t : Wt) : isWho s g (over t) = false := by simp [isWho, over]
theorem inRow_over (s g d : Int) (t : Wt) : inRow s g d (over t) = false := by simp [inRow, over]
theorem lea_gone (l : List Wt) (s g : Int) : sel (isWho s g) (leaW l s g) = [] := by
  apply List.eq_nil_iff_forall_not_mem.2
  intro r hr
  obtain ⟨t, ht, hq, hn, e⟩ := sel_lea_sub (isWho_over s g) hr
  rw [hq] at hn
  cases hn
theorem lea_gone2 {l : List Wt} {a b : Int} (h : sel (isWho a b) l = []) (s g : Int) : sel (isWho a b) (leaW l s g) = [] := by
  apply List.eq_nil_iff_forall_not_mem.2
  intro r hr
  obtain ⟨t, ht, hq, hn, e⟩ := sel_lea_sub (isWho_over a b) hr
  have : t.r ∈ sel (isWho a b) l := mem_sel.2 ⟨t, ht, hq, rfl⟩
  rw [h] at this
  cases this
theorem lea_other {l : List Wt} {q : Wt → Bool} {s g : Int} (ho : ∀ t, q (over t) = false) (hq : ∀ t, isWho s g t = true → q t = false) : sel q (leaW l s g) = sel q l := by
  unfold leaW sel
  induction l with
  | nil => rfl
  | cons t l ih =>
    rw [List.map_cons, List.filter_cons, List.filter_cons]
    by_cases hw : isWho s g t = true
    · rw [if_pos hw, ho, hq t hw]
      simpa using ih
    · rw [if_neg hw]
      split
      · rw [List.map_cons, List.map_cons, ih]
      · exact ih
/-- somebody of a row is woken -/
theorem PI.wake {l : List Wt} {ps : List Pk} (h : PI l ps) {s g d : Int} {r : Rc} (hr : r ∈ sel (inRow s g d) l) :
    ∃ i, ∃ hi : i < ps.length, ps[i].g = (r.ws, r.wg) ∧ (∀ j (hj : j < ps.length), j ≠ i → ps[j].g ≠ (r.ws, r.wg)) ∧ (∃ m, ∃ hm : m < ps[i].az.length, r.ar = (m : Int) ∧ ps[i].az[m].h = (s, g) ∧ wtD ps[i].az[m] = d) ∧ PI (leaW l r.ws r.wg) (ps.eraseIdx i) := by
  obtain ⟨t, ht, hq, e⟩ := mem_sel.1 hr
  subst e
  have hq2 : t.o = false ∧ t.r.rs = s ∧ t.r.rg = g ∧ t.r.rd = d := by
    unfold inRow at hq
    simpa using hq
  obtain ⟨p, hp, hpg⟩ := h.al t ht hq2.1
  obtain ⟨i, hi, rfl⟩ := List.getElem_of_mem hp
  have huniq : ∀ j (hj : j < ps.length), j ≠ i → ps[j].g ≠ (t.r.ws, t.r.wg) := fun j hj hji e => by
    rcases Nat.lt_or_gt_of_ne hji with hlt | hlt
    · exact List.pairwise_iff_getElem.1 h.nd j i hj hi hlt (e.trans hpg.symm)
    · exact List.pairwise_iff_getElem.1 h.nd i j hi hj hlt (hpg.trans e.symm)
  refine ⟨i, hi, hpg, huniq, ?_, ?_⟩
  · have h1 := h.wt _ hp
    rw [hpg] at h1
    have h2 : noMe t.r ∈ (sel (isWho t.r.ws t.r.wg) l).map noMe := List.mem_map_of_mem (mem_sel.2 ⟨t, ht, isWho_r.2 ⟨hq2.1, rfl, rfl⟩, rfl⟩)
    rw [h1] at h2
    obtain ⟨m, hm, e⟩ := wtRs_mem h2
    refine ⟨m, hm, ?_, ?_, ?_⟩
    · have := congrArg Rc.ar e
      simpa [noMe, wtR] using this
    · have h5 := congrArg Rc.rs e
      have h6 := congrArg Rc.rg e
      simp only [noMe, wtR] at h5 h6
      exact Prod.ext (h5.symm.trans hq2.2.1) (h6.symm.trans hq2.2.2.1)
    · have := congrArg Rc.rd e
      simp only [noMe, wtR] at this
      exact this.symm.trans hq2.2.2.2
  · have hmem : ∀ p ∈ ps.eraseIdx i, p ∈ ps ∧ p.g ≠ (t.r.ws, t.r.wg) := fun p hp2 => by
      obtain ⟨j, hj, hji, e⟩ := List.mem_eraseIdx_iff_getElem.1 hp2
      rw [← e]
      exact ⟨List.getElem_mem _, huniq j _ hji⟩
    refine ⟨h.nd.sublist (List.eraseIdx_sublist _ _), fun p hp2 => h.rg p (hmem p hp2).1, fun p hp2 => ?_, fun u hu ho => ?_⟩
    · rw [lea_other (isWho_over _ _) (fun u hu => ?_)]
      · exact h.wt p (hmem p hp2).1
      · obtain ⟨_, h3, h4⟩ := isWho_r.1 hu
        rw [← Bool.not_eq_true, isWho_r]
        rintro ⟨_, h5, h6⟩
        exact (hmem p hp2).2 (Prod.ext (h5.symm.trans h3) (h6.symm.trans h4))
    · unfold leaW at hu
      obtain ⟨v, hv, e2⟩ := List.mem_map.1 hu
      by_cases hw : isWho t.r.ws t.r.wg v = true
      · rw [if_pos hw] at e2
        rw [← e2] at ho
        cases ho
      · rw [if_neg hw] at e2
        subst e2
        obtain ⟨p, hp2, hpg2⟩ := h.al v hv ho
        refine ⟨p, ?_, hpg2⟩
        obtain ⟨j, hj, rfl⟩ := List.getElem_of_mem hp2
        refine List.mem_eraseIdx_iff_getElem.2 ⟨j, hj, fun e3 => hw ?_, rfl⟩
        subst e3
        rw [hpg] at hpg2
        injection hpg2 with a1 a2
        exact isWho_r.2 ⟨ho, a1.symm, a2.symm⟩

/-- whom a call has woken, of the parked ones: Fin is the book behind it -/
inductive WkP (Fin : List Wt) (h : Hnd) (sent : Bool) (v : Va) : List Pk → List Wk → List Pk → Prop
  | nil {ps : List Pk} : WkP Fin h sent v ps [] ps
  | cons {ps : List Pk} {k : Wk} {ws : List Wk} {ps' : List Pk} (i : Nat) (hi : i < ps.length) (m : Nat) (hm : m < ps[i].az.length) : ps[i].g = (k.s, k.g) → (∀ j (hj : j < ps.length), j ≠ i → ps[j].g ≠ (k.s, k.g)) → k.a = (m : Int) → ps[i].az[m].h = h → sel (isWho k.s k.g) Fin = [] → (UsW k.s ∧ UsW k.g) → (sent = true → ps[i].az[m].sd = false ∧ k.v = v ∧ k.ok = true) → (ps[i].az[m].sd = true → k.ok = false ∧ k.v = zVa) → WkP Fin h sent v (ps.eraseIdx i) ws ps' → WkP Fin h sent v ps (k :: ws) ps'
theorem sd_of (x : Am) : (wtD x = 2 → x.sd = false) ∧ (wtD x = 1 → x.sd = true) := by
  unfold wtD
  cases x.sd
  · exact ⟨fun _ => rfl, fun h => absurd h (by decide)⟩
  · exact ⟨fun h => absurd h (by decide), fun _ => rfl⟩
theorem PI.us {l : List Wt} {ps : List Pk} (h : PI l ps) {i : Nat} (hi : i < ps.length) {a b : Int} (e : ps[i].g = (a, b)) : UsW a ∧ UsW b := by
  have := (h.rg _ (List.getElem_mem hi)).2.1
  rw [e] at this
  exact this
theorem snd_wk {l : List Wt} {ps : List Pk} (h : PI l ps) {x : Kn} {g : Hnd} {v : Va} (np : (sndK l x g v).1.f ≠ 1) : ∃ ps', WkP (sndK l x g v).2.1 x.h true v ps (sndK l x g v).1.wk ps' ∧ PI (sndK l x g v).2.1 ps' ∧ ps'.length ≤ ps.length := by
  unfold sndK at np ⊢
  split
  · exact ⟨ps, .nil, h, Nat.le_refl _⟩
  · rename_i hc
    rw [if_neg hc] at np
    split
    · rename_i r rest hq
      obtain ⟨i, hi, e1, e2, ⟨m, hm, e3, e4, e5⟩, hp⟩ := h.wake (s := x.h.1) (g := x.h.2) (d := 2) (r := r) (by rw [hq]; exact List.mem_cons_self ..)
      have hsd := (sd_of ps[i].az[m]).1 e5
      exact ⟨_, .cons i hi m hm e1 e2 e3 e4 (lea_gone _ _ _) (h.us hi e1) (fun _ => ⟨hsd, rfl, rfl⟩) (fun e => by rw [hsd] at e; cases e) .nil, hp, by rw [List.length_eraseIdx_of_lt hi]; omega⟩
    · rename_i hq
      rw [hq] at np
      simp only at np
      split
      · exact ⟨ps, .nil, h, Nat.le_refl _⟩
      · rename_i hn
        rw [if_neg hn] at np
        exact absurd rfl np
theorem rcv_wk {l : List Wt} {ps : List Pk} (h : PI l ps) {x : Kn} {g : Hnd} {v : Va} (np : (rcvK l x g).1.f ≠ 1) : ∃ ps', WkP (rcvK l x g).2.1 x.h false v ps (rcvK l x g).1.wk ps' ∧ PI (rcvK l x g).2.1 ps' ∧ ps'.length ≤ ps.length := by
  have key : ∀ (r : Rc) (rest : List Rc), sel (inRow x.h.1 x.h.2 1) l = r :: rest → ∃ ps', WkP (leaW l r.ws r.wg) x.h false v ps [⟨r.ws, r.wg, r.ar, zVa, false, 0⟩] ps' ∧ PI (leaW l r.ws r.wg) ps' ∧ ps'.length ≤ ps.length := fun r rest hq => by
    obtain ⟨i, hi, e1, e2, ⟨m, hm, e3, e4, e5⟩, hp⟩ := h.wake (s := x.h.1) (g := x.h.2) (d := 1) (r := r) (by rw [hq]; exact List.mem_cons_self ..)
    exact ⟨_, .cons i hi m hm e1 e2 e3 e4 (lea_gone _ _ _) (h.us hi e1) (fun e => by cases e) (fun _ => ⟨rfl, rfl⟩) .nil, hp, by rw [List.length_eraseIdx_of_lt hi]; omega⟩
  unfold rcvK at np ⊢
  split
  · split
    · exact ⟨ps, .nil, h, Nat.le_refl _⟩
    · rename_i r rest hq
      exact key r rest hq
  · rename_i hx
    rw [hx] at np
    simp only at np
    split
    · rename_i r rest hq
      exact key r rest hq
    · rename_i hq
      rw [hq] at np
      simp only at np
      split
      · exact ⟨ps, .nil, h, Nat.le_refl _⟩
      · rename_i hc
        rw [if_neg hc] at np
        exact absurd rfl np
theorem WA.gone {q : Wt → Bool} {v : Va} {ok : Bool} {f : Int} {l : List Wt} {ws : List Wk} {l' : List Wt} (h : WA q v ok f l ws l') {a b : Int} (hg : sel (isWho a b) l = []) : sel (isWho a b) l' = [] := by
  induction h with
  | nil _ => exact hg
  | cons _ _ ih => exact ih (lea_gone2 hg _ _)
theorem WkP.app {Fin : List Wt} {h : Hnd} {sent : Bool} {v : Va} {ps ps1 ps2 : List Pk} {ws1 ws2 : List Wk} (a : WkP Fin h sent v ps ws1 ps1) (b : WkP Fin h sent v ps1 ws2 ps2) : WkP Fin h sent v ps (ws1 ++ ws2) ps2 := by
  induction a with
  | nil => exact b
  | cons i hi m hm h1 h2 h3 h4 h5 h6 h7 h8 _ ih => exact .cons i hi m hm h1 h2 h3 h4 h5 h6 h7 h8 (ih b)
theorem wa_wk {Fin : List Wt} {s g d : Int} {f : Int} {l : List Wt} {ws : List Wk} {l' : List Wt} (h : WA (inRow s g d) zVa false f l ws l') : ∀ {ps : List Pk}, PI l ps → (∀ a b, sel (isWho a b) l' = [] → sel (isWho a b) Fin = []) → ∃ ps', WkP Fin (s, g) false zVa ps ws ps' ∧ PI l' ps' ∧ ps'.length ≤ ps.length := by
  induction h with
  | nil _ => exact fun {ps} hp _ => ⟨ps, .nil, hp, Nat.le_refl _⟩
  | cons hq hw ih =>
    intro ps hp hF
    rename_i l r rest ws l'
    obtain ⟨i, hi, e1, e2, ⟨m, hm, e3, e4, e5⟩, hp2⟩ := hp.wake (s := s) (g := g) (d := d) (r := r) (by rw [hq]; exact List.mem_cons_self ..)
    obtain ⟨ps', h1, h2, h3⟩ := ih hp2 hF
    exact ⟨ps', .cons i hi m hm e1 e2 e3 e4 (hF _ _ (hw.gone (lea_gone _ _ _))) (hp.us hi e1) (fun e => by cases e) (fun _ => ⟨rfl, rfl⟩) h1, h2, Nat.le_trans h3 (by rw [List.length_eraseIdx_of_lt hi]; omega)⟩
theorem cls_wk {l : List Wt} {ps : List Pk} (h : PI l ps) {x : Kn} {d : Dd} {l' : List Wt} {x' : Kn} (hk : ClsK l x d l' x') : ∃ ps', WkP l' x.h false zVa ps d.wk ps' ∧ PI l' ps' ∧ ps'.length ≤ ps.length := by
  rcases hk with ⟨-, rfl, rfl, rfl⟩ | ⟨-, ws1, l1, ws2, a1, a2, rfl, rfl⟩
  · exact ⟨ps, .nil, h, Nat.le_refl _⟩
  · obtain ⟨p1, b1, b2, b3⟩ := wa_wk (Fin := l') a1 h (fun a b e => a2.gone e)
    obtain ⟨p2, c1, c2, c3⟩ := wa_wk (Fin := l') a2 b2 (fun a b e => e)
    exact ⟨p2, b1.app c1, c2, by omega⟩

end Go.Proofs.Ytbblmbbpicinlaa

namespace Go.Proofs.Ytbblmbbpicinlaa
open Go.RowKit

abbrev xwc0 : Oper := { dst := some 38, op := Op.move (Operand.tmp 1), type := 99, pos := "law.go:216", after := #[], guard := none }
abbrev xwc1 : Oper := { dst := some 39, op := Op.move (Operand.tmp 17), type := 3, pos := "law.go:216", after := #[], guard := none }
abbrev xwc2 : Oper := { dst := some 40, op := Op.indexAddr 99 (Operand.tmp 38) (Operand.tmp 39), type := 0, pos := "law.go:216", after := #[{ on := 0, ground := Ground.data }, { on := 1, ground := Ground.data }], guard := none }
abbrev xwc3 : Oper := { dst := some 41, op := Op.fieldAddr 113 (Operand.tmp 40) 0, type := 0, pos := "law.go:216", after := #[{ on := 2, ground := Ground.data }], guard := none }
abbrev xwc4 : Oper := { dst := some 42, op := Op.load 43 (Operand.tmp 41), type := 43, pos := "law.go:216", after := #[{ on := 3, ground := Ground.data }], guard := none }
abbrev xwc5 : Oper := { dst := some 43, op := Op.fieldAddr 119 (Operand.tmp 15) 0, type := 0, pos := "law.go:216", after := #[], guard := none }
abbrev xwc6 : Oper := { dst := some 44, op := Op.load 43 (Operand.tmp 43), type := 43, pos := "law.go:216", after := #[{ on := 5, ground := Ground.data }], guard := none }
abbrev xwc7 : Oper := { dst := some 45, op := Op.binOp BinOp.eql 43 (Operand.tmp 42) (Operand.tmp 44) 43, type := 4, pos := "law.go:216", after := #[{ on := 4, ground := Ground.data }, { on := 6, ground := Ground.data }], guard := none }
abbrev xwd0 : Oper := { dst := some 47, op := Op.move (Operand.tmp 16), type := 3, pos := "law.go:220", after := #[], guard := none }
abbrev xwd1 : Oper := { dst := some 48, op := Op.binOp BinOp.lss 3 (Operand.tmp 47) (Operand.const (Value.int IntKind.i64 0)) 3, type := 4, pos := "law.go:220", after := #[{ on := 0, ground := Ground.data }], guard := none }
abbrev xwd2 : Oper := { dst := some 49, op := Op.move (Operand.tmp 48), type := 4, pos := "law.go:220", after := #[{ on := 1, ground := Ground.data }], guard := none }
abbrev xwd3 : Oper := { dst := some 50, op := Op.fieldAddr 119 (Operand.tmp 15) 1, type := 0, pos := "law.go:220", after := #[{ on := 2, ground := Ground.guard }], guard := some (2, false) }
abbrev xwd4 : Oper := { dst := some 51, op := Op.fieldAddr 117 (Operand.tmp 50) 0, type := 0, pos := "law.go:220", after := #[{ on := 3, ground := Ground.data }, { on := 2, ground := Ground.guard }], guard := some (2, false) }
abbrev xwd5 : Oper := { dst := some 52, op := Op.load 3 (Operand.tmp 51), type := 3, pos := "law.go:220", after := #[{ on := 4, ground := Ground.data }, { on := 2, ground := Ground.guard }], guard := some (2, false) }
abbrev xwd6 : Oper := { dst := some 53, op := Op.binOp BinOp.lss 3 (Operand.tmp 52) (Operand.const (Value.int IntKind.i64 0)) 3, type := 4, pos := "law.go:220", after := #[{ on := 5, ground := Ground.data }, { on := 2, ground := Ground.guard }], guard := some (2, false) }
abbrev xwd7 : Oper := { dst := some 54, op := Op.pick (Operand.tmp 49) (Operand.const (Value.bool true)) (Operand.tmp 53), type := 4, pos := "law.go:220", after := #[{ on := 2, ground := Ground.data }, { on := 6, ground := Ground.data }], guard := none }
abbrev xwd8 : Oper := { dst := some 55, op := Op.move (Operand.tmp 54), type := 4, pos := "law.go:220", after := #[{ on := 7, ground := Ground.data }, { on := 2, ground := Ground.chain }], guard := none }
abbrev xwd9 : Oper := { dst := some 56, op := Op.fieldAddr 119 (Operand.tmp 15) 1, type := 0, pos := "law.go:220", after := #[{ on := 8, ground := Ground.guard }], guard := some (8, false) }
abbrev xwd10 : Oper := { dst := some 57, op := Op.fieldAddr 117 (Operand.tmp 56) 0, type := 0, pos := "law.go:220", after := #[{ on := 9, ground := Ground.data }, { on := 8, ground := Ground.guard }], guard := some (8, false) }
abbrev xwd11 : Oper := { dst := some 58, op := Op.load 3 (Operand.tmp 57), type := 3, pos := "law.go:220", after := #[{ on := 10, ground := Ground.data }, { on := 8, ground := Ground.guard }], guard := some (8, false) }
abbrev xwd12 : Oper := { dst := some 59, op := Op.move (Operand.tmp 1), type := 99, pos := "law.go:220", after := #[{ on := 8, ground := Ground.guard }], guard := some (8, false) }
abbrev xwd13 : Oper := { dst := some 60, op := Op.move (Operand.tmp 16), type := 3, pos := "law.go:220", after := #[{ on := 8, ground := Ground.guard }], guard := some (8, false) }
abbrev xwd14 : Oper := { dst := some 61, op := Op.indexAddr 99 (Operand.tmp 59) (Operand.tmp 60), type := 0, pos := "law.go:220", after := #[{ on := 12, ground := Ground.data }, { on := 13, ground := Ground.data }, { on := 8, ground := Ground.guard }], guard := some (8, false) }
abbrev xwd15 : Oper := { dst := some 62, op := Op.fieldAddr 113 (Operand.tmp 61) 1, type := 0, pos := "law.go:220", after := #[{ on := 14, ground := Ground.data }, { on := 8, ground := Ground.guard }], guard := some (8, false) }
abbrev xwd16 : Oper := { dst := some 63, op := Op.load 94 (Operand.tmp 62), type := 94, pos := "law.go:220", after := #[{ on := 15, ground := Ground.data }, { on := 8, ground := Ground.guard }], guard := some (8, false) }
abbrev xwd17 : Oper := { dst := some 64, op := Op.call { callee := Callee.builtin Builtin.len, args := #[Operand.tmp 63], argTypes := #[94] }, type := 3, pos := "law.go:220", after := #[{ on := 16, ground := Ground.data }, { on := 8, ground := Ground.guard }], guard := some (8, false) }
abbrev xwd18 : Oper := { dst := some 65, op := Op.binOp BinOp.geq 3 (Operand.tmp 58) (Operand.tmp 64) 3, type := 4, pos := "law.go:220", after := #[{ on := 11, ground := Ground.data }, { on := 17, ground := Ground.data }, { on := 8, ground := Ground.guard }], guard := some (8, false) }
abbrev xwd19 : Oper := { dst := some 66, op := Op.pick (Operand.tmp 55) (Operand.const (Value.bool true)) (Operand.tmp 65), type := 4, pos := "law.go:220", after := #[{ on := 8, ground := Ground.data }, { on := 18, ground := Ground.data }], guard := none }
abbrev xwd20 : Oper := { dst := some 67, op := Op.move (Operand.tmp 66), type := 4, pos := "law.go:220", after := #[{ on := 19, ground := Ground.data }, { on := 8, ground := Ground.chain }], guard := none }
abbrev xwd21 : Oper := { dst := some 68, op := Op.move (Operand.tmp 0), type := 24, pos := "law.go:220", after := #[{ on := 20, ground := Ground.guard }], guard := some (20, false) }
abbrev xwd22 : Oper := { dst := some 69, op := Op.fieldAddr 119 (Operand.tmp 15) 0, type := 0, pos := "law.go:220", after := #[{ on := 20, ground := Ground.guard }], guard := some (20, false) }
abbrev xwd23 : Oper := { dst := some 70, op := Op.load 43 (Operand.tmp 69), type := 43, pos := "law.go:220", after := #[{ on := 22, ground := Ground.data }, { on := 20, ground := Ground.guard }], guard := some (20, false) }
abbrev xwd24 : Oper := { dst := some 71, op := Op.call { callee := Callee.value (Operand.func 43), args := #[Operand.tmp 68, Operand.tmp 70], argTypes := #[24, 43] }, type := 33, pos := "law.go:220", after := #[{ on := 21, ground := Ground.data }, { on := 23, ground := Ground.data }, { on := 20, ground := Ground.chain }, { on := 20, ground := Ground.guard }], guard := some (20, false) }
abbrev xwd25 : Oper := { dst := some 72, op := Op.call { callee := Callee.builtin Builtin.len, args := #[Operand.tmp 71], argTypes := #[33] }, type := 3, pos := "law.go:220", after := #[{ on := 24, ground := Ground.data }, { on := 20, ground := Ground.guard }], guard := some (20, false) }
abbrev xwd26 : Oper := { dst := some 73, op := Op.binOp BinOp.gtr 3 (Operand.tmp 72) (Operand.const (Value.int IntKind.i64 0)) 3, type := 4, pos := "law.go:220", after := #[{ on := 25, ground := Ground.data }, { on := 20, ground := Ground.guard }], guard := some (20, false) }
abbrev xwd27 : Oper := { dst := some 74, op := Op.pick (Operand.tmp 67) (Operand.const (Value.bool true)) (Operand.tmp 73), type := 4, pos := "law.go:220", after := #[{ on := 20, ground := Ground.data }, { on := 26, ground := Ground.data }], guard := none }
abbrev xwf0 : Oper := { dst := some 76, op := Op.move (Operand.tmp 1), type := 99, pos := "law.go:223", after := #[], guard := none }
abbrev xwf1 : Oper := { dst := some 77, op := Op.move (Operand.tmp 16), type := 3, pos := "law.go:223", after := #[], guard := none }
abbrev xwf2 : Oper := { dst := some 78, op := Op.indexAddr 99 (Operand.tmp 76) (Operand.tmp 77), type := 0, pos := "law.go:223", after := #[{ on := 0, ground := Ground.data }, { on := 1, ground := Ground.data }], guard := none }
abbrev xwf3 : Oper := { dst := some 79, op := Op.fieldAddr 113 (Operand.tmp 78) 1, type := 0, pos := "law.go:223", after := #[{ on := 2, ground := Ground.data }], guard := none }
abbrev xwf4 : Oper := { dst := some 80, op := Op.load 94 (Operand.tmp 79), type := 94, pos := "law.go:223", after := #[{ on := 3, ground := Ground.data }], guard := none }
abbrev xwf5 : Oper := { dst := some 81, op := Op.fieldAddr 119 (Operand.tmp 15) 1, type := 0, pos := "law.go:223", after := #[], guard := none }
abbrev xwf6 : Oper := { dst := some 82, op := Op.fieldAddr 117 (Operand.tmp 81) 0, type := 0, pos := "law.go:223", after := #[{ on := 5, ground := Ground.data }], guard := none }
abbrev xwf7 : Oper := { dst := some 83, op := Op.load 3 (Operand.tmp 82), type := 3, pos := "law.go:223", after := #[{ on := 6, ground := Ground.data }], guard := none }
abbrev xwf8 : Oper := { dst := some 84, op := Op.indexAddr 94 (Operand.tmp 80) (Operand.tmp 83), type := 0, pos := "law.go:223", after := #[{ on := 4, ground := Ground.data }, { on := 7, ground := Ground.data }], guard := none }
abbrev xwf9 : Oper := { dst := some 85, op := Op.load 105 (Operand.tmp 84), type := 105, pos := "law.go:223", after := #[{ on := 8, ground := Ground.data }], guard := none }
abbrev xwf10 : Oper := { dst := some 18, op := Op.alloc 105, type := 0, pos := "law.go:223", after := #[], guard := none }
abbrev xwf11 : Oper := { dst := none, op := Op.store 105 (Operand.tmp 18) (Operand.tmp 85), type := 0, pos := "law.go:223", after := #[{ on := 10, ground := Ground.data }, { on := 9, ground := Ground.data }, { on := 0, ground := Ground.phase }, { on := 1, ground := Ground.phase }, { on := 2, ground := Ground.phase }, { on := 3, ground := Ground.phase }, { on := 4, ground := Ground.phase }, { on := 5, ground := Ground.phase }, { on := 6, ground := Ground.phase }, { on := 7, ground := Ground.phase }, { on := 8, ground := Ground.phase }, { on := 9, ground := Ground.phase }, { on := 10, ground := Ground.phase }], guard := none }

/-- append of some, or none -/
theorem wpList_append_any {P : Program} {w : World} {ops : Array Oper} {rest : List Oper} {o : Oper} {a : Act} {Q : Exit → Act → World → Prop} (hgd : o.guard = none) (s x : Operand) (t : TypeId)
    (ho : o.op = .call { callee := .builtin .append, args := #[s, x], argTypes := #[t, t] })
    (base : Nat) (e : TypeId) (i : TypeInfo) (z : Value) (size bytes : Nat) (ht : P.underlying t = some (.slice e)) (hi : P.info? e = some i) (hz : i.zero = some z)
    (hsize : i.size = size) (hby : i.bytes = bytes) (hzs : z.cells.size = size) (hsz : 0 < size)
    (v : Value) (n : Nat) (xs : List Value) (hs : a.eval s = v) (hown : w.ownsRow base e size v n xs)
    (ad : Option Addr) (ad' : Addr) (m c : Nat) (news : List Value) (hx : a.eval x = .slice ad m c) (had : 0 < m → ad = some ad') (hl : news.length = m * size) (hnews : 0 < m → ∀ j u, news[j]? = some u → w.cell? (ad'.add j) = some u) (h1 : ∀ u ∈ news, u.oneCell' = true)
    (h63 : n + m ≤ maxLen) (hbytes : (n + m) * bytes ≤ 140737488355328) (hbase : base ≤ w.heap.size)
    (h : ∀ v' w', w'.ownsRow base e size v' (n + m) (xs ++ news) → w.grownBy w' v.ownBlock → wpList P ops Q rest (a.put o.dst v') w') :
    wpList P ops Q (o :: rest) a w := by
  by_cases hm : m = 0
  · subst hm
    have hn : news = [] := List.eq_nil_of_length_eq_zero (by simpa using hl)
    subst hn
    exact wpList_append_zero hgd s x t ho base e i size ht hi v n xs hs hown ad c hx (h v w (by rw [List.append_nil]; exact hown) (World.grownBy.refl w _))
  · have had := had (by omega)
    subst had
    exact wpList_append_own_at w hgd s x t ho base e i z size bytes ht hi hz hsize hby hzs hsz v n xs hs hown ad' m c news hx hl (hnews (by omega)) h1 h63 hbytes hbase (fun v' w' a1 a2 _ _ => h v' w' a1 a2)
theorem nfPa : (Try.prog.info? 113).map (fun i => (i.zero, i.size, i.bytes)) = some (some (.agg #[.int .u32 0, .int .u32 0, .slice none 0 0]), 3, 32) := by kernel_rfl
theorem erase_eq {α : Type} (l : List α) {i : Nat} (_ : i < l.length) : l.take i ++ l.drop (i + 1) = l.eraseIdx i := (List.eraseIdx_eq_take_drop_succ l i).symm
abbrev PaRow (w : World) (B : Nat) (v : Value) (l : List Pk) : Prop := Row paF 3 113 w B v l

theorem row_take {α : Type} {f : α → List Value} {K : Nat} {e : TypeId} {w : World} {B n g c : Nat} {l : List α} (h : Row f K e w B (.slice (some ⟨g, 0, none⟩) n c) l) (i : Nat) : ∀ j u, ((l.take i).flatMap f)[j]? = some u → w.cell? ((⟨g, 0, none⟩ : Addr).add j) = some u := by
  intro j u hj
  refine World.ownsRow.cells h (g := g) rfl j u ?_
  have e : l.flatMap f = (l.take i).flatMap f ++ (l.drop i).flatMap f := by rw [← List.flatMap_append, List.take_append_drop]
  rw [e, List.getElem?_append_left (List.getElem?_eq_some_iff.1 hj).1]
  exact hj
theorem row_drop {α : Type} {f : α → List Value} {K : Nat} {e : TypeId} {w : World} {B n g c : Nat} {l : List α} (h : Row f K e w B (.slice (some ⟨g, 0, none⟩) n c) l) (hK : ∀ x, (f x).length = K) {i : Nat} (hi : i ≤ l.length) : ∀ j u, ((l.drop i).flatMap f)[j]? = some u → w.cell? ((⟨g, i * K, none⟩ : Addr).add j) = some u := by
  intro j u hj
  have h1 := World.ownsRow.cells h (g := g) rfl (i * K + j) u (by
    have e : l.flatMap f = (l.take i).flatMap f ++ (l.drop i).flatMap f := by rw [← List.flatMap_append, List.take_append_drop]
    have e2 : ((l.take i).flatMap f).length = i * K := by rw [flat_len f K hK, List.length_take, Nat.min_eq_left hi]
    rw [e, List.getElem?_append_right (by omega), e2, Nat.add_sub_cancel_left]
    exact hj)
  rw [Addr.add_lit, Nat.zero_add] at h1
  rw [Addr.add_lit]
  exact h1

set_option maxRecDepth 100000 in
set_option maxHeartbeats 64000000 in
theorem woken_is {w : World} {B bp B0 B1 : Nat} {Fb : Nat → Prop} {l : List Wt} (hp : PTb w B Fb bp l) (hl : l.length ≤ 100000) {sent : Bool} {v : Va} {h0 : Hnd} {ps ps' : List Pk} {d : Dd} {lv dv : Value} (hrow : PaRow w B0 lv ps) (hB0 : B0 ≤ w.heap.size) (hdv : WkRow w B1 dv d.wk) (hk : WkP l h0 sent v ps d.wk ps') (hm : ∀ q ∈ ps, ∃ cur, ArmB w q.ga cur q.az) (hsz : ∀ q ∈ ps, q.az.length ≤ 50) (hps : ps.length ≤ 1000) (hws : d.wk.length ≤ 1000000) :
    Calls Try.prog 42 #[.pointer (some ⟨bp, 0, none⟩), lv, ddV d dv, hkV h0, .bool sent, vaV v] w fun e w' => ∃ lv', e = .returned (.tuple #[lv', .bool true]) ∧ PaRow w' B0 lv' ps' ∧ Below w.heap.size w w' := by
  obtain ⟨i0, hi0, hz0, hz1, hz2⟩ := nf_open nfPa
  obtain ⟨da, dc, rfl, -, -⟩ := hdv.form
  obtain ⟨w1, hw1⟩ : ∃ z, w.alloc (.cells #[.int .i64 d.f, .int .i64 d.v.n, .int .u32 d.v.s, .int .u32 d.v.g, .bool d.ok, .slice da d.wk.length dc] 72) = z := ⟨_, rfl⟩
  obtain ⟨w2, hw2⟩ : ∃ z, w1.alloc (.cells #[.int .u32 h0.1, .int .u32 h0.2] 43) = z := ⟨_, rfl⟩
  obtain ⟨w3, hw3⟩ : ∃ z, w2.alloc (.cells #[.int .i64 v.n, .int .u32 v.s, .int .u32 v.g] 46) = z := ⟨_, rfl⟩
  have c1 : Ch (fun _ => False) w w1 := by rw [← hw1]; exact Ch.alloc _ _
  have c2 : Ch (fun _ => False) w1 w2 := by rw [← hw2]; exact Ch.alloc _ _
  have c3 : Ch (fun _ => False) w2 w3 := by rw [← hw3]; exact Ch.alloc _ _
  have ND := hide (show w3.heap[w.heap.size]? = some (.cells #[.int .i64 d.f, .int .i64 d.v.n, .int .u32 d.v.s, .int .u32 d.v.g, .bool d.ok, .slice da d.wk.length dc] 72 (0, 0)) from c3.box (c2.box (by rw [← hw1]; exact heap_new _ _) (fun h => h)) (fun h => h))
  have NH := hide (show w3.heap[w1.heap.size]? = some (.cells #[.int .u32 h0.1, .int .u32 h0.2] 43 (0, 0)) from c3.box (by rw [← hw2]; exact heap_new _ _) (fun h => h))
  have NV := hide (show w3.heap[w2.heap.size]? = some (.cells #[.int .i64 v.n, .int .u32 v.s, .int .u32 v.g] 46 (0, 0)) by rw [← hw3]; exact heap_new _ _)
  have C3 := hide ((c1.trans c2 (fun _ _ h => h)).trans c3 (fun _ _ h => h))
  have HP := hide hp
  have HDV := hide hdv
  have HM := hide (And.intro hm hsz)
  have HPS := hide (And.intro hps hws)
  have HB0 := hide hB0
  have HROW := hide (Row.ch hrow C3.out (fun _ _ h => h))
  have HK := hide hk
  clear hp hdv hm hsz hps hws hB0 hrow hk c1 c2 c3
  show Calls Try.prog _ #[.pointer (some ⟨bp, 0, none⟩), lv, .agg #[.int .i64 d.f, .int .i64 d.v.n, .int .u32 d.v.s, .int .u32 d.v.g, .bool d.ok, .slice da d.wk.length dc], hkV h0, .bool sent, vaV v] w _
  go_enter Try.func42, Try.ntmps42
  go_wp2_with fail
  try rw [hw1]
  try rw [hw2]
  try rw [hw3]
  clear hw1 hw2 hw3
  go_loopw [1, 14] (fun t i wr => ∃ j : Nat, j ≤ d.wk.length ∧ i = .int .i64 (j : Int) ∧ Hid (∃ qs, PaRow wr B0 t qs ∧ WkP l h0 sent v qs (d.wk.drop j) ps' ∧ (∀ q ∈ qs, q ∈ ps) ∧ qs.length ≤ 1000 ∧ Ch (fun _ => False) w3 wr)) (fun _ i _ => d.wk.length - (intOf i).toNat)
  case atStart => exact ⟨0, Nat.zero_le _, rfl, hide ⟨ps, HROW.out, HK.out, fun _ h => h, HPS.out.1, Ch.refl _ _⟩⟩
  case round =>
    obtain ⟨j, hj, rfl, HI⟩ := hrel
    obtain ⟨W0, rfl⟩ : ∃ x, x = wr := ⟨_, rfl⟩
    obtain ⟨t0, et⟩ : ∃ u, u = u1 := ⟨_, rfl⟩
    subst et
    obtain ⟨qs, hqr, hqk, hqm, hql, hqc⟩ := HI.out
    have QR := hide hqr
    have QM := hide (And.intro hqm hql)
    have QC := hide hqc
    have b5 : W0.cell? ⟨w.heap.size, 5, none⟩ = some (.slice da d.wk.length dc) := by simp [Lib.cell_of_heap (hqc.box ND.out (fun h => h))]
    by_cases hlt : j < d.wk.length
    · have i1 : (j : Int) < (d.wk.length : Int) := by omega
      have ij : (j : Int) ≤ 1000000 := by have := HPS.out.2; omega
      have hdr : d.wk.drop j = d.wk[j] :: d.wk.drop (j + 1) := List.drop_eq_getElem_cons hlt
      rw [hdr] at hqk
      obtain ⟨k, hkx⟩ : ∃ k, d.wk[j] = k := ⟨_, rfl⟩
      rw [hkx] at hqk
      obtain ⟨gd, hda, hcell⟩ := row_cells HDV.out wkL_len (C3.out.trans hqc (fun _ _ h => h)) hlt
      rw [hkx] at hcell
      subst hda
      cases hqk with
      | cons i hi m hm e1 e2 e3 e4 e5 e6 e7 e8 hnext =>
        have HL := hide hlt
        have HNX := hide hnext
        have HE := hide (And.intro e1 (And.intro e2 (And.intro e4 (And.intro e5 (And.intro e6 (And.intro e7 e8))))))
        have HI2 := hide hi
        have HM2 := hide hm
        have x0 := hcell 0 _ rfl
        have x1 := hcell 1 _ rfl
        have x2 := hcell 2 _ rfl
        have x3 := hcell 3 _ rfl
        have x4 := hcell 4 _ rfl
        have x5 := hcell 5 _ rfl
        have x6 := hcell 6 _ rfl
        have x7 := hcell 7 _ rfl
        simp only [Nat.add_zero] at x0
        rw [e3] at x2
        obtain ⟨gl, cl, curl, ht0, hncl, -, -, -, -, -⟩ := QR.out.at paF_len (by omega)
        subst ht0
        have HCL := hide hncl
        obtain ⟨p, hpx⟩ : ∃ p, qs[i] = p := ⟨_, rfl⟩
        have HPX := hide (show qs[i]'(HI2.out) = p from hpx)
        obtain ⟨cura, haa⟩ := HM.out.1 p (QM.out.1 p (by rw [← hpx]; exact List.getElem_mem hi))
        have HAA := hide haa
        have hm2 : m < p.az.length := by rw [← hpx]; exact hm
        have hp50 := HM.out.2 p (QM.out.1 p (by rw [← hpx]; exact List.getElem_mem hi))
        have HMP := hide (And.intro hm2 hp50)
        obtain ⟨x, hxx⟩ : ∃ x, p.az[m] = x := ⟨_, rfl⟩
        have HXX0 := hide (show p.az[m]'(HMP.out.1) = x from hxx)
        have hxe : qs[i].az[m] = x := by rw [← hxx]; simp only [hpx]
        have HF := hide (show p.g = (k.s, k.g) ∧ (∀ j (hj : j < qs.length), j ≠ i → qs[j].g ≠ (k.s, k.g)) ∧ x.h = h0 ∧ sel (isWho k.s k.g) l = [] ∧ (UsW k.s ∧ UsW k.g) ∧ (sent = true → x.sd = false ∧ k.v = v ∧ k.ok = true) ∧ (x.sd = true → k.ok = false ∧ k.v = zVa) from by rw [← hpx, ← hxe]; exact HE.out)
        clear hcell hqr hqm hql hqc hkx hdr hlt hj HI HE HM2 hi hm e1 e2 e3 e4 e5 e6 e7 e8 hnext hpx haa hm2 hp50 hxx hxe hncl
        go_wp2_with fail
        obtain ⟨W1, hW1⟩ : ∃ z, W0.alloc (.cells #[.int .u32 k.s, .int .u32 k.g, .int .i64 (m : Int), .int .i64 k.v.n, .int .u32 k.v.s, .int .u32 k.v.g, .bool k.ok, .int .i64 k.f] 119) = z := ⟨_, rfl⟩
        try rw [hW1]
        have NX := hide (show W1.heap[W0.heap.size]? = some (.cells #[.int .u32 k.s, .int .u32 k.g, .int .i64 (m : Int), .int .i64 k.v.n, .int .u32 k.v.s, .int .u32 k.v.g, .bool k.ok, .int .i64 k.f] 119 (0, 0)) by rw [← hW1]; exact heap_new _ _)
        have C1 := hide (QC.out.trans (show Ch (fun _ => False) W0 W1 by rw [← hW1]; exact Ch.alloc _ _) (fun _ _ h => h))
        have D1 := hide (show Ch (fun _ => False) W0 W1 by rw [← hW1]; exact Ch.alloc _ _)
        clear hW1 b5 x0 x1 x2 x3 x4 x5 x6 x7
        go_loopw [16, 17] (fun av qv wr => ∃ q : Nat, q ≤ qs.length ∧ qv = .int .i64 (q : Int) ∧ av = .int .i64 (if i < q then (i : Int) else -1) ∧ Hid (Ch (fun _ => False) W1 wr)) (fun _ qv _ => qs.length - (intOf qv).toNat)
        case atStart => exact ⟨0, Nat.zero_le _, rfl, by rw [if_neg (by omega)], hide (Ch.refl _ _)⟩
        case round =>
          obtain ⟨q, hq, rfl, rfl, HC2⟩ := hrel
          obtain ⟨V0, rfl⟩ : ∃ x, x = wr := ⟨_, rfl⟩
          have ql : qs.length ≤ 1000 := QM.out.2
          obtain ⟨av, hav⟩ : ∃ z : Int, (if i < q then (i : Int) else -1) = z := ⟨_, rfl⟩
          rw [hav]
          have HAV := hide hav
          clear hav
          by_cases hql : q < qs.length
          · have i3 : (q : Int) < (qs.length : Int) := by omega
            have i4 : (q : Int) ≤ 1000 := by omega
            have HQL := hide hql
            obtain ⟨pq, hpq⟩ : ∃ p, qs[q] = p := ⟨_, rfl⟩
            have HPQ := hide (show qs[q]'(HQL.out) = pq from hpq)
            clear hql hq hpq
            go_wp2_with fail
            refine wp_reg (fun _ => False) (R := fun V => Ch (fun _ => False) V0 V) (by kernel_rfl) (Ch.drew _) (fun V cV zk => ?_)
            have CV := hide (HC2.out.trans cV (fun _ _ h => h))
            clear cV
            have HXX := hide (fun wq (kq : Ch (fun _ => False) V wq) => show (wq.cell? ⟨W0.heap.size, 0, none⟩ = some (.int .u32 k.s) ∧ wq.cell? ⟨W0.heap.size, 1, none⟩ = some (.int .u32 k.g)) ∧ wq.cell? ⟨gl, q * 3, none⟩ = some (.int .u32 pq.g.1) ∧ wq.cell? ⟨gl, q * 3 + 1, none⟩ = some (.int .u32 pq.g.2) from by
              have cc := CV.out.trans kq (fun _ _ h => h)
              have e0 := Lib.cell_of_heap (cc.box NX.out (fun h => h))
              obtain ⟨g', e3, k1⟩ := row_cells QR.out paF_len (D1.out.trans cc (fun _ _ h => h)) HQL.out
              cases e3
              rw [HPQ.out] at k1
              exact ⟨⟨by simp [e0], by simp [e0]⟩, k1 0 _ rfl, k1 1 _ rfl⟩)
            by_cases hqi : q = i
            · subst hqi
              have hpg : pq.g = (k.s, k.g) := by rw [← HPQ.out, HPX.out]; exact HF.out.1
              have q1 : (pq.g.1 == k.s) = true := by rw [hpg]; simp
              have q2 : (pq.g.2 == k.g) = true := by rw [hpg]; simp
              clear hpg
              apply tk 0 xwc0 rfl (by kernel_rfl) (fun _ _ _ h => h) zk
              · intro wq zq
                go_simp
                try rfl
              go_frame
              apply tk 1 xwc1 rfl (by kernel_rfl) (fun _ _ _ h => h) zk
              · intro wq zq
                go_simp
                try rfl
              go_frame
              apply tk 2 xwc2 rfl (by kernel_rfl) (fun _ _ _ h => h) zk
              · intro wq zq
                go_simp
                try rfl
              go_frame
              apply tk 3 xwc3 rfl (by kernel_rfl) (fun _ _ _ h => h) zk
              · intro wq zq
                go_simp
                try rfl
              go_frame
              apply tk 4 xwc4 rfl (by kernel_rfl) (fun _ _ _ h => h) zk
              · intro wq zq
                obtain ⟨⟨s0, s1⟩, s2, s3⟩ := HXX.out _ zq
                go_simp
                try rfl
              go_frame
              apply tk 5 xwc5 rfl (by kernel_rfl) (fun _ _ _ h => h) zk
              · intro wq zq
                go_simp
                try rfl
              go_frame
              apply tk 6 xwc6 rfl (by kernel_rfl) (fun _ _ _ h => h) zk
              · intro wq zq
                obtain ⟨⟨s0, s1⟩, s2, s3⟩ := HXX.out _ zq
                go_simp
                try rfl
              go_frame
              apply tk 7 xwc7 rfl (by kernel_rfl) (fun _ _ _ h => h) zk
              · intro wq zq
                go_simp
                try rfl
              go_frame
              refine wpAnyH_done (by kernel_rfl) ?_ _
              have HZ := hide (CV.out.trans zk (fun _ _ h => h))
              clear HXX zk
              have hiw : IntKind.i64.wrap ((q : Int) + 1) = (q : Int) + 1 := by rw [IntKind.wrap_i64]; omega
              go_wp2_with fail
              refine ⟨?rel, ?measure⟩
              case rel =>
                refine ⟨q + 1, HQL.out, rfl, ?_, HZ⟩
                rw [if_pos (by omega)]
              case measure =>
                show qs.length - ((q : Int) + 1).toNat < qs.length - (q : Int).toNat
                have := HQL.out
                omega
            · have hng : pq.g ≠ (k.s, k.g) := by rw [← HPQ.out]; exact HF.out.2.1 q HQL.out hqi
              by_cases h1 : pq.g.1 = k.s
              · have q1 : (pq.g.1 == k.s) = true := by simpa using h1
                have q2 : (pq.g.2 == k.g) = false := by
                  have : pq.g.2 ≠ k.g := fun e => hng (Prod.ext h1 e)
                  simpa using this
                clear hng h1
                apply tk 0 xwc0 rfl (by kernel_rfl) (fun _ _ _ h => h) zk
                · intro wq zq
                  go_simp
                  try rfl
                go_frame
                apply tk 1 xwc1 rfl (by kernel_rfl) (fun _ _ _ h => h) zk
                · intro wq zq
                  go_simp
                  try rfl
                go_frame
                apply tk 2 xwc2 rfl (by kernel_rfl) (fun _ _ _ h => h) zk
                · intro wq zq
                  go_simp
                  try rfl
                go_frame
                apply tk 3 xwc3 rfl (by kernel_rfl) (fun _ _ _ h => h) zk
                · intro wq zq
                  go_simp
                  try rfl
                go_frame
                apply tk 4 xwc4 rfl (by kernel_rfl) (fun _ _ _ h => h) zk
                · intro wq zq
                  obtain ⟨⟨s0, s1⟩, s2, s3⟩ := HXX.out _ zq
                  go_simp
                  try rfl
                go_frame
                apply tk 5 xwc5 rfl (by kernel_rfl) (fun _ _ _ h => h) zk
                · intro wq zq
                  go_simp
                  try rfl
                go_frame
                apply tk 6 xwc6 rfl (by kernel_rfl) (fun _ _ _ h => h) zk
                · intro wq zq
                  obtain ⟨⟨s0, s1⟩, s2, s3⟩ := HXX.out _ zq
                  go_simp
                  try rfl
                go_frame
                apply tk 7 xwc7 rfl (by kernel_rfl) (fun _ _ _ h => h) zk
                · intro wq zq
                  go_simp
                  try rfl
                go_frame
                refine wpAnyH_done (by kernel_rfl) ?_ _
                have HZ := hide (CV.out.trans zk (fun _ _ h => h))
                clear HXX zk
                have hiw : IntKind.i64.wrap ((q : Int) + 1) = (q : Int) + 1 := by rw [IntKind.wrap_i64]; omega
                go_wp2_with fail
                refine ⟨?rel, ?measure⟩
                case rel =>
                  refine ⟨q + 1, HQL.out, rfl, ?_, HZ⟩
                  rw [← HAV.out]
                  by_cases hlt : i < q
                  · rw [if_pos hlt, if_pos (by omega)]
                  · rw [if_neg hlt, if_neg (by omega)]
                case measure =>
                  show qs.length - ((q : Int) + 1).toNat < qs.length - (q : Int).toNat
                  have := HQL.out
                  omega
              · have q1 : (pq.g.1 == k.s) = false := by simpa using h1
                clear hng h1
                apply tk 0 xwc0 rfl (by kernel_rfl) (fun _ _ _ h => h) zk
                · intro wq zq
                  go_simp
                  try rfl
                go_frame
                apply tk 1 xwc1 rfl (by kernel_rfl) (fun _ _ _ h => h) zk
                · intro wq zq
                  go_simp
                  try rfl
                go_frame
                apply tk 2 xwc2 rfl (by kernel_rfl) (fun _ _ _ h => h) zk
                · intro wq zq
                  go_simp
                  try rfl
                go_frame
                apply tk 3 xwc3 rfl (by kernel_rfl) (fun _ _ _ h => h) zk
                · intro wq zq
                  go_simp
                  try rfl
                go_frame
                apply tk 4 xwc4 rfl (by kernel_rfl) (fun _ _ _ h => h) zk
                · intro wq zq
                  obtain ⟨⟨s0, s1⟩, s2, s3⟩ := HXX.out _ zq
                  go_simp
                  try rfl
                go_frame
                apply tk 5 xwc5 rfl (by kernel_rfl) (fun _ _ _ h => h) zk
                · intro wq zq
                  go_simp
                  try rfl
                go_frame
                apply tk 6 xwc6 rfl (by kernel_rfl) (fun _ _ _ h => h) zk
                · intro wq zq
                  obtain ⟨⟨s0, s1⟩, s2, s3⟩ := HXX.out _ zq
                  go_simp
                  try rfl
                go_frame
                apply tk 7 xwc7 rfl (by kernel_rfl) (fun _ _ _ h => h) zk
                · intro wq zq
                  go_simp
                  try rfl
                go_frame
                refine wpAnyH_done (by kernel_rfl) ?_ _
                have HZ := hide (CV.out.trans zk (fun _ _ h => h))
                clear HXX zk
                have hiw : IntKind.i64.wrap ((q : Int) + 1) = (q : Int) + 1 := by rw [IntKind.wrap_i64]; omega
                go_wp2_with fail
                refine ⟨?rel, ?measure⟩
                case rel =>
                  refine ⟨q + 1, HQL.out, rfl, ?_, HZ⟩
                  rw [← HAV.out]
                  by_cases hlt : i < q
                  · rw [if_pos hlt, if_pos (by omega)]
                  · rw [if_neg hlt, if_neg (by omega)]
                case measure =>
                  show qs.length - ((q : Int) + 1).toNat < qs.length - (q : Int).toNat
                  have := HQL.out
                  omega
          · have i3 : ¬ (q : Int) < (qs.length : Int) := by omega
            have hai : (if i < q then (i : Int) else -1) = (i : Int) := if_pos (by have := HI2.out; omega)
            rw [show av = (i : Int) from HAV.out.symm.trans hai]
            have i4 : (i : Int) ≤ 1000 := by have := HI2.out; omega
            have i5 : ¬ (i : Int) < 0 := by omega
            have i6 : (i : Int) < (qs.length : Int) := by have := HI2.out; omega
            have i7 : (0 : Int) ≤ (i : Int) := by omega
            have HC := hide (C1.out.trans HC2.out (fun _ _ h => h))
            have NX2 := hide (HC2.out.box NX.out (fun h => h))
            clear hql hq hai
            go_wp2_with fail
            refine wp_reg (fun _ => False) (R := fun V => Ch (fun _ => False) V0 V) (by kernel_rfl) (Ch.drew _) (fun V cV zk => ?_)
            have CV := hide (HC.out.trans cV (fun _ _ h => h))
            have NX3 := hide (cV.box NX2.out (fun h => h))
            have E0 := hide (((D1.out.trans HC2.out (fun _ _ h => h)).trans cV (fun _ _ h => h)))
            clear cV
            have HXX := hide (fun wq (kq : Ch (fun _ => False) V wq) => show (wq.cell? ⟨W0.heap.size, 0, none⟩ = some (.int .u32 k.s) ∧ wq.cell? ⟨W0.heap.size, 1, none⟩ = some (.int .u32 k.g) ∧ wq.cell? ⟨W0.heap.size, 2, none⟩ = some (.int .i64 (m : Int))) ∧ wq.cell? ⟨gl, i * 3 + 2, none⟩ = some (.slice (some ⟨p.ga, 0, none⟩) p.az.length p.c) from by
              have e0 := Lib.cell_of_heap (kq.box NX3.out (fun h => h))
              obtain ⟨g', e3, k1⟩ := row_cells QR.out paF_len (E0.out.trans kq (fun _ _ h => h)) HI2.out
              cases e3
              rw [HPX.out] at k1
              exact ⟨⟨by simp [e0], by simp [e0], by simp [e0]⟩, k1 2 _ rfl⟩)
            have m1 : ¬ (m : Int) < 0 := by omega
            have m2 : ¬ (m : Int) ≥ (p.az.length : Int) := by have := HMP.out.1; omega
            have m3 : (m : Int) < (p.az.length : Int) := by have := HMP.out.1; omega
            apply tk 0 xwd0 rfl (by kernel_rfl) (fun _ _ _ h => h) zk
            · intro wq zq
              go_simp
              try rfl
            go_frame
            apply tk 1 xwd1 rfl (by kernel_rfl) (fun _ _ _ h => h) zk
            · intro wq zq
              go_simp
              try rfl
            go_frame
            apply tk 2 xwd2 rfl (by kernel_rfl) (fun _ _ _ h => h) zk
            · intro wq zq
              go_simp
              try rfl
            go_frame
            apply tk 3 xwd3 rfl (by kernel_rfl) (fun _ _ _ h => h) zk
            · intro wq zq
              go_simp
              try rfl
            go_frame
            apply tk 4 xwd4 rfl (by kernel_rfl) (fun _ _ _ h => h) zk
            · intro wq zq
              go_simp
              try rfl
            go_frame
            apply tk 5 xwd5 rfl (by kernel_rfl) (fun _ _ _ h => h) zk
            · intro wq zq
              obtain ⟨⟨s0, s1, s2⟩, s3⟩ := HXX.out _ zq
              go_simp
              try rfl
            go_frame
            apply tk 6 xwd6 rfl (by kernel_rfl) (fun _ _ _ h => h) zk
            · intro wq zq
              go_simp
              try rfl
            go_frame
            apply tk 7 xwd7 rfl (by kernel_rfl) (fun _ _ _ h => h) zk
            · intro wq zq
              go_simp
              try rfl
            go_frame
            apply tk 8 xwd8 rfl (by kernel_rfl) (fun _ _ _ h => h) zk
            · intro wq zq
              go_simp
              try rfl
            go_frame
            apply tk 9 xwd9 rfl (by kernel_rfl) (fun _ _ _ h => h) zk
            · intro wq zq
              go_simp
              try rfl
            go_frame
            apply tk 10 xwd10 rfl (by kernel_rfl) (fun _ _ _ h => h) zk
            · intro wq zq
              go_simp
              try rfl
            go_frame
            apply tk 11 xwd11 rfl (by kernel_rfl) (fun _ _ _ h => h) zk
            · intro wq zq
              obtain ⟨⟨s0, s1, s2⟩, s3⟩ := HXX.out _ zq
              go_simp
              try rfl
            go_frame
            apply tk 12 xwd12 rfl (by kernel_rfl) (fun _ _ _ h => h) zk
            · intro wq zq
              go_simp
              try rfl
            go_frame
            apply tk 13 xwd13 rfl (by kernel_rfl) (fun _ _ _ h => h) zk
            · intro wq zq
              go_simp
              try rfl
            go_frame
            apply tk 14 xwd14 rfl (by kernel_rfl) (fun _ _ _ h => h) zk
            · intro wq zq
              go_simp
              try rfl
            go_frame
            apply tk 15 xwd15 rfl (by kernel_rfl) (fun _ _ _ h => h) zk
            · intro wq zq
              go_simp
              try rfl
            go_frame
            apply tk 16 xwd16 rfl (by kernel_rfl) (fun _ _ _ h => h) zk
            · intro wq zq
              obtain ⟨⟨s0, s1, s2⟩, s3⟩ := HXX.out _ zq
              go_simp
              try rfl
            go_frame
            apply tk 17 xwd17 rfl (by kernel_rfl) (fun _ _ _ h => h) zk
            · intro wq zq
              go_simp
              try rfl
            go_frame
            apply tk 18 xwd18 rfl (by kernel_rfl) (fun _ _ _ h => h) zk
            · intro wq zq
              go_simp
              try rfl
            go_frame
            apply tk 19 xwd19 rfl (by kernel_rfl) (fun _ _ _ h => h) zk
            · intro wq zq
              go_simp
              try rfl
            go_frame
            apply tk 20 xwd20 rfl (by kernel_rfl) (fun _ _ _ h => h) zk
            · intro wq zq
              go_simp
              try rfl
            go_frame
            apply tk 21 xwd21 rfl (by kernel_rfl) (fun _ _ _ h => h) zk
            · intro wq zq
              go_simp
              try rfl
            go_frame
            apply tk 22 xwd22 rfl (by kernel_rfl) (fun _ _ _ h => h) zk
            · intro wq zq
              go_simp
              try rfl
            go_frame
            apply tk 23 xwd23 rfl (by kernel_rfl) (fun _ _ _ h => h) zk
            · intro wq zq
              obtain ⟨⟨s0, s1, s2⟩, s3⟩ := HXX.out _ zq
              go_simp
              try rfl
            go_frame
            refine Go.Proofs.Ytbblmbbpicinlaa.rd 24 xwd24 rfl (by kernel_rfl) fun K hK => ?_
            go_simp
            refine (face.of k.s k.g HF.out.2.2.2.2.1.1 HF.out.2.2.2.2.1.2 (face.ch HP.out ((C3.out.trans CV.out (fun _ _ h => h)).trans zk (fun _ _ h => h)) (fun _ _ h => h)) hl).mono ?_
            rintro e V1 ⟨v4, rfl, hr4, hb⟩
            rw [HF.out.2.2.2.1] at hr4
            obtain ⟨a4, c4, rfl, -, -⟩ := hr4.form
            have Z1 := hide (zk.trans (Ch.of_below (Q := fun _ => False) hb) (fun _ _ h => h))
            rw [List.length_nil]
            clear hb hr4
            go_wp2_with fail
            refine hK.out _ _ ?_ (fun zk => ?_)
            · exact Z1.out
            clear hK K
            try go_frame
            apply tk 25 xwd25 rfl (by kernel_rfl) (fun _ _ _ h => h) zk
            · intro wq zq
              go_simp
              try rfl
            go_frame
            apply tk 26 xwd26 rfl (by kernel_rfl) (fun _ _ _ h => h) zk
            · intro wq zq
              go_simp
              try rfl
            go_frame
            apply tk 27 xwd27 rfl (by kernel_rfl) (fun _ _ _ h => h) zk
            · intro wq zq
              go_simp
              try rfl
            go_frame
            refine wpAnyH_done (by kernel_rfl) ?_ _
            have CY := hide (CV.out.trans zk (fun _ _ h => h))
            have NX4 := hide (zk.box NX3.out (fun h => h))
            have E1 := hide (E0.out.trans zk (fun _ _ h => h))
            clear HXX zk Z1
            go_wp2_with fail
            refine wp_reg (fun _ => False) (R := fun Y => Ch (fun _ => False) V1 Y) (by kernel_rfl) (Ch.drew _) (fun Y cV zk => ?_)
            have CZ := hide (CY.out.trans cV (fun _ _ h => h))
            have NX5 := hide (cV.box NX4.out (fun h => h))
            have E2 := hide (E1.out.trans cV (fun _ _ h => h))
            clear cV
            have HXX := hide (fun wq (kq : Ch (fun _ => False) Y wq) => show (wq.cell? ⟨W0.heap.size, 2, none⟩ = some (.int .i64 (m : Int)) ∧ wq.cell? ⟨gl, i * 3 + 2, none⟩ = some (.slice (some ⟨p.ga, 0, none⟩) p.az.length p.c)) ∧ wq.cell? ⟨p.ga, m * 6, none⟩ = some (.int .u32 h0.1) ∧ wq.cell? ⟨p.ga, m * 6 + 1, none⟩ = some (.int .u32 h0.2) ∧ wq.cell? ⟨p.ga, m * 6 + 2, none⟩ = some (.bool x.sd) ∧ wq.cell? ⟨p.ga, m * 6 + 3, none⟩ = some (.int .i64 x.v.n) ∧ wq.cell? ⟨p.ga, m * 6 + 4, none⟩ = some (.int .u32 x.v.s) ∧ wq.cell? ⟨p.ga, m * 6 + 5, none⟩ = some (.int .u32 x.v.g) from by
              have e0 := Lib.cell_of_heap (kq.box NX5.out (fun h => h))
              obtain ⟨g', e3, k1⟩ := row_cells QR.out paF_len (E2.out.trans kq (fun _ _ h => h)) HI2.out
              cases e3
              rw [HPX.out] at k1
              have k2 := (HAA.out.mv (((C3.out.trans CZ.out (fun _ _ h => h)).trans kq (fun _ _ h => h)).box HAA.out.1 (fun h => h))).2 m HMP.out.1
              rw [HXX0.out, HF.out.2.2.1] at k2
              exact ⟨⟨by simp [e0], k1 2 _ rfl⟩, k2⟩)
            apply tk 0 xwf0 rfl (by kernel_rfl) (fun _ _ _ h => h) zk
            · intro wq zq
              go_simp
              try rfl
            go_frame
            apply tk 1 xwf1 rfl (by kernel_rfl) (fun _ _ _ h => h) zk
            · intro wq zq
              go_simp
              try rfl
            go_frame
            apply tk 2 xwf2 rfl (by kernel_rfl) (fun _ _ _ h => h) zk
            · intro wq zq
              go_simp
              try rfl
            go_frame
            apply tk 3 xwf3 rfl (by kernel_rfl) (fun _ _ _ h => h) zk
            · intro wq zq
              go_simp
              try rfl
            go_frame
            apply tk 4 xwf4 rfl (by kernel_rfl) (fun _ _ _ h => h) zk
            · intro wq zq
              obtain ⟨⟨s0, s1⟩, s2, s3, s4, s5, s6, s7⟩ := HXX.out _ zq
              go_simp
              try rfl
            go_frame
            apply tk 5 xwf5 rfl (by kernel_rfl) (fun _ _ _ h => h) zk
            · intro wq zq
              go_simp
              try rfl
            go_frame
            apply tk 6 xwf6 rfl (by kernel_rfl) (fun _ _ _ h => h) zk
            · intro wq zq
              go_simp
              try rfl
            go_frame
            apply tk 7 xwf7 rfl (by kernel_rfl) (fun _ _ _ h => h) zk
            · intro wq zq
              obtain ⟨⟨s0, s1⟩, s2, s3, s4, s5, s6, s7⟩ := HXX.out _ zq
              go_simp
              try rfl
            go_frame
            apply tk 8 xwf8 rfl (by kernel_rfl) (fun _ _ _ h => h) zk
            · intro wq zq
              go_simp
              try rfl
            go_frame
            apply tk 9 xwf9 rfl (by kernel_rfl) (fun _ _ _ h => h) zk
            · intro wq zq
              obtain ⟨⟨s0, s1⟩, s2, s3, s4, s5, s6, s7⟩ := HXX.out _ zq
              go_simp
              try rfl
            go_frame
            refine Go.Proofs.Ytbblmbbpicinlaa.rd 10 xwf10 rfl (by kernel_rfl) fun K hK => ?_
            go_simp
            refine hK.out _ _ ?_ (fun zk => ?_)
            · exact zk.trans (Ch.alloc (Q := fun _ => False) _ _) (fun _ _ h => h)
            clear hK K
            try go_frame
            obtain ⟨V9, hV9⟩ : ∃ z, Y.alloc (.cells #[.int .u32 0, .int .u32 0, .bool false, .int .i64 0, .int .u32 0, .int .u32 0] 105) = z := ⟨_, rfl⟩
            try rw [hV9]
            rw [hV9] at zk
            have n9 : V9.heap[Y.heap.size]? = some (.cells #[.int .u32 0, .int .u32 0, .bool false, .int .i64 0, .int .u32 0, .int .u32 0] 105 (0, 0)) := by rw [← hV9]; exact heap_new _ _
            have z9 : Y.heap.size < V9.heap.size := (Array.getElem?_eq_some_iff.1 n9).1
            clear hV9
            have d0 : V9.cell? ⟨Y.heap.size, 0, none⟩ = some (.int .u32 0) := by simp [Lib.cell_of_heap n9]
            have d1 : V9.cell? ⟨Y.heap.size, 1, none⟩ = some (.int .u32 0) := by simp [Lib.cell_of_heap n9]
            have d2 : V9.cell? ⟨Y.heap.size, 2, none⟩ = some (.bool false) := by simp [Lib.cell_of_heap n9]
            have d3 : V9.cell? ⟨Y.heap.size, 3, none⟩ = some (.int .i64 0) := by simp [Lib.cell_of_heap n9]
            have d4 : V9.cell? ⟨Y.heap.size, 4, none⟩ = some (.int .u32 0) := by simp [Lib.cell_of_heap n9]
            have d5 : V9.cell? ⟨Y.heap.size, 5, none⟩ = some (.int .u32 0) := by simp [Lib.cell_of_heap n9]
            have df : ∀ o, V9.frozen? ⟨Y.heap.size, o, none⟩ = false := frz n9
            have HSE := hide (am_set n9 (.int .u32 h0.1) (.int .u32 h0.2) (.bool x.sd) (.int .i64 x.v.n) (.int .u32 x.v.s) (.int .u32 x.v.g))
            clear n9
            refine Go.Proofs.Ytbblmbbpicinlaa.rd 11 xwf11 rfl (by kernel_rfl) fun K hK => ?_
            go_simp
            refine hK.out _ _ ?_ (fun zk => ?_)
            · exact zk.trans HSE.out.2 (fun y hy e => by omega)
            clear hK K
            try go_frame
            refine wpAnyH_done (by kernel_rfl) ?_ _
            obtain ⟨V10, hV10⟩ : ∃ z, ((((((V9.setCell ⟨Y.heap.size, 0, none⟩ (.int .u32 h0.1)).setCell ⟨Y.heap.size, 1, none⟩ (.int .u32 h0.2)).setCell ⟨Y.heap.size, 2, none⟩ (.bool x.sd)).setCell ⟨Y.heap.size, 3, none⟩ (.int .i64 x.v.n)).setCell ⟨Y.heap.size, 4, none⟩ (.int .u32 x.v.s)).setCell ⟨Y.heap.size, 5, none⟩ (.int .u32 x.v.g)) = z := ⟨_, rfl⟩
            have hse := HSE.out
            rw [hV10] at hse zk ⊢
            have NA := hide hse.1
            have C10 := hide (CZ.out.trans zk (fun _ _ h => h))
            have NX6 := hide (zk.box NX5.out (fun h => h))
            have NH6 := hide (C10.out.box NH.out (fun h => h))
            have NV6 := hide (C10.out.box NV.out (fun h => h))
            have E3 := hide (E2.out.trans zk (fun _ _ h => h))
            clear d0 d1 d2 d3 d4 d5 df HSE hse z9 zk hV10 HXX m1 m2 m3
            cases sent with
            | true =>
              obtain ⟨hs1, hs2, hs3⟩ := HF.out.2.2.2.2.2.1 rfl
              have nx6 := NX6.out
              have na := NA.out
              rw [hs2, hs3] at nx6
              rw [hs1] at na
              have g3 : V10.cell? ⟨W0.heap.size, 3, none⟩ = some (.int .i64 v.n) := by simp [Lib.cell_of_heap nx6]
              have g4 : V10.cell? ⟨W0.heap.size, 4, none⟩ = some (.int .u32 v.s) := by simp [Lib.cell_of_heap nx6]
              have g5 : V10.cell? ⟨W0.heap.size, 5, none⟩ = some (.int .u32 v.g) := by simp [Lib.cell_of_heap nx6]
              have g6 : V10.cell? ⟨W0.heap.size, 6, none⟩ = some (.bool true) := by simp [Lib.cell_of_heap nx6]
              have b0 : V10.cell? ⟨Y.heap.size, 0, none⟩ = some (.int .u32 h0.1) := by simp [Lib.cell_of_heap na]
              have b1 : V10.cell? ⟨Y.heap.size, 1, none⟩ = some (.int .u32 h0.2) := by simp [Lib.cell_of_heap na]
              have b2 : V10.cell? ⟨Y.heap.size, 2, none⟩ = some (.bool false) := by simp [Lib.cell_of_heap na]
              have hh0 : V10.cell? ⟨w1.heap.size, 0, none⟩ = some (.int .u32 h0.1) := by simp [Lib.cell_of_heap NH6.out]
              have hh1 : V10.cell? ⟨w1.heap.size, 1, none⟩ = some (.int .u32 h0.2) := by simp [Lib.cell_of_heap NH6.out]
              have u80 : V10.cell? ⟨w2.heap.size, 0, none⟩ = some (.int .i64 v.n) := by simp [Lib.cell_of_heap NV6.out]
              have u81 : V10.cell? ⟨w2.heap.size, 1, none⟩ = some (.int .u32 v.s) := by simp [Lib.cell_of_heap NV6.out]
              have u82 : V10.cell? ⟨w2.heap.size, 2, none⟩ = some (.int .u32 v.g) := by simp [Lib.cell_of_heap NV6.out]
              clear nx6 na hs1 hs2 hs3
              have QX := hide (Row.ch QR.out E3.out (fun _ _ h => h))
              have hiq := HI2.out
              have hiw : IntKind.i64.wrap ((i : Int) + 1) = (i : Int) + 1 := by rw [IntKind.wrap_i64]; omega
              have hjw : IntKind.i64.wrap ((j : Int) + 1) = (j : Int) + 1 := by rw [IntKind.wrap_i64]; omega
              have hcl0 : (i : Int) ≤ (cl : Int) := by have := HCL.out; omega
              have hcl1 : (i : Int) + 1 ≤ (qs.length : Int) := by omega
              have hcl2 : (qs.length : Int) ≤ (cl : Int) := by have := HCL.out; omega
              have hcl3 : (0 : Int) ≤ (i : Int) + 1 := by omega
              have HM1 := hide (show 0 + i ≤ maxLen by unfold maxLen; have := QM.out.2; omega)
              have HM2 := hide (show (0 + i) * 32 ≤ 140737488355328 by have := QM.out.2; omega)
              have HFL := hide (show ((qs.take i).flatMap paF).length = i * 3 by rw [flat_len paF 3 paF_len, List.length_take]; omega)
              have HON := hide (show ∀ u ∈ (qs.take i).flatMap paF, u.oneCell' = true from fun u hu => by obtain ⟨z, _, hz⟩ := List.mem_flatMap.1 hu; exact paF_one z u hz)
              go_wp2_with (at_builtin; refine wpList_append_any rfl _ _ 99 rfl V10.heap.size 113 i0 (.agg #[.int .u32 0, .int .u32 0, .slice none 0 0]) 3 32 Try.underlying99 hi0 hz0 hz1 hz2 rfl (by decide) _ 0 [] rfl (World.ownsRow_nil V10 V10.heap.size 113 3) (some ⟨gl, 0, none⟩) ⟨gl, 0, none⟩ i cl ((qs.take i).flatMap paF) rfl (fun _ => rfl) HFL.out (fun _ => row_take QX.out i) HON.out HM1.out HM2.out (Nat.le_refl _) ?_)
              intro v5 w5 hown5 hgrow5
              have HOW5 := hide (show w5.ownsRow V10.heap.size 113 3 v5 i ((qs.take i).flatMap paF) from by have := hown5; simpa using this)
              have c95 : Ch (fun _ => False) V10 w5 := Ch.of_grown hgrow5 (fun _ e => by cases e)
              have Q5 := hide (Row.ch QX.out c95 (fun _ _ h => h))
              have C5 := hide (C10.out.trans c95 (fun _ _ h => h))
              have HBB := hide c95.size
              have htn : ((i : Int) + 1).toNat = i + 1 := by omega
              have HN5 := hide (show i + (qs.length - (i + 1)) ≤ maxLen by unfold maxLen; have := QM.out.2; have := HI2.out; omega)
              have HN6 := hide (show (i + (qs.length - (i + 1))) * 32 ≤ 140737488355328 by have := QM.out.2; have := HI2.out; omega)
              have HFL5 := hide (show ((qs.drop (i + 1)).flatMap paF).length = (qs.length - (i + 1)) * 3 by rw [flat_len paF 3 paF_len, List.length_drop])
              have HON5 := hide (show ∀ u ∈ (qs.drop (i + 1)).flatMap paF, u.oneCell' = true from fun u hu => by obtain ⟨z, _, hz⟩ := List.mem_flatMap.1 hu; exact paF_one z u hz)
              clear hown5 hgrow5 c95
              by_cases hce : cl = i + 1
              · subst hce
                have hzq : qs.length - (i + 1) = 0 := by have := HCL.out; omega
                have R6 := hide (show PaRow w5 V10.heap.size v5 (qs.eraseIdx i) from by
                  unfold PaRow Row
                  rw [← erase_eq qs HI2.out, List.flatMap_append, List.length_append, List.length_take, List.length_drop, Nat.min_eq_left (by have := HI2.out; omega), hzq, List.drop_eq_nil_of_le (by omega), List.flatMap_nil, List.append_nil, Nat.add_zero]
                  exact HOW5.out)
                have C6 := hide C5.out
                go_wp2_with (at_builtin; refine wpList_append_zero rfl _ _ 99 rfl V10.heap.size 113 i0 3 Try.underlying99 hi0 _ i ((qs.take i).flatMap paF) rfl HOW5.out (some ⟨gl, 0, none⟩) 0 rfl ?_)
                refine ⟨?rel, ?measure⟩
                case rel =>
                  exact ⟨j + 1, HL.out, rfl, hide ⟨qs.eraseIdx i, rowLow R6.out (by have h1 := HB0.out; have h2 := C3.out.size; have h3 := C10.out.size; omega), HNX.out, fun q hq => QM.out.1 q (List.mem_of_mem_eraseIdx hq), by rw [List.length_eraseIdx_of_lt HI2.out]; have := QM.out.2; omega, C6.out⟩⟩
                case measure =>
                  show d.wk.length - ((j : Int) + 1).toNat < d.wk.length - (j : Int).toNat
                  have := HL.out
                  omega
              · have HCE := hide hce
                go_wp2_with (at_builtin; refine wpList_append_any rfl _ _ 99 rfl V10.heap.size 113 i0 (.agg #[.int .u32 0, .int .u32 0, .slice none 0 0]) 3 32 Try.underlying99 hi0 hz0 hz1 hz2 rfl (by decide) _ i ((qs.take i).flatMap paF) rfl HOW5.out (some ⟨gl, (i + 1) * 3, none⟩) ⟨gl, (i + 1) * 3, none⟩ (qs.length - (i + 1)) (cl - (i + 1)) ((qs.drop (i + 1)).flatMap paF) rfl (fun _ => rfl) HFL5.out (fun _ => row_drop Q5.out paF_len (by have := HI2.out; omega)) HON5.out HN5.out HN6.out HBB.out ?_)
                intro v6 w6 hown6 hgrow6
                have R6 := hide (show PaRow w6 V10.heap.size v6 (qs.eraseIdx i) from by
                  unfold PaRow Row
                  rw [← erase_eq qs HI2.out, List.flatMap_append, List.length_append, List.length_take, List.length_drop, Nat.min_eq_left (by have := HI2.out; omega)]
                  exact hown6)
                have C6 := hide (C5.out.trans (Ch.of_grown (Q := fun y => v5.ownBlock = some y) hgrow6 (fun _ e => e)) (fun y hy e => by have h1 := (own_in HOW5.out e).1; have h2 := C10.out.size; omega))
                clear hown6 hgrow6 hce
                go_wp2_with fail
                refine ⟨?rel, ?measure⟩
                case rel =>
                  exact ⟨j + 1, HL.out, rfl, hide ⟨qs.eraseIdx i, rowLow R6.out (by have h1 := HB0.out; have h2 := C3.out.size; have h3 := C10.out.size; omega), HNX.out, fun q hq => QM.out.1 q (List.mem_of_mem_eraseIdx hq), by rw [List.length_eraseIdx_of_lt HI2.out]; have := QM.out.2; omega, C6.out⟩⟩
                case measure =>
                  show d.wk.length - ((j : Int) + 1).toNat < d.wk.length - (j : Int).toNat
                  have := HL.out
                  omega
            | false =>
              cases hsd : x.sd with
              | true =>
                obtain ⟨hs3, hs2⟩ := HF.out.2.2.2.2.2.2 hsd
                have nx6 := NX6.out
                have na := NA.out
                rw [hs2, hs3] at nx6
                rw [hsd] at na
                have g3 : V10.cell? ⟨W0.heap.size, 3, none⟩ = some (.int .i64 zVa.n) := by simp [Lib.cell_of_heap nx6]
                have g4 : V10.cell? ⟨W0.heap.size, 4, none⟩ = some (.int .u32 zVa.s) := by simp [Lib.cell_of_heap nx6]
                have g5 : V10.cell? ⟨W0.heap.size, 5, none⟩ = some (.int .u32 zVa.g) := by simp [Lib.cell_of_heap nx6]
                have g6 : V10.cell? ⟨W0.heap.size, 6, none⟩ = some (.bool false) := by simp [Lib.cell_of_heap nx6]
                have b0 : V10.cell? ⟨Y.heap.size, 0, none⟩ = some (.int .u32 h0.1) := by simp [Lib.cell_of_heap na]
                have b1 : V10.cell? ⟨Y.heap.size, 1, none⟩ = some (.int .u32 h0.2) := by simp [Lib.cell_of_heap na]
                have b2 : V10.cell? ⟨Y.heap.size, 2, none⟩ = some (.bool true) := by simp [Lib.cell_of_heap na]
                have hh0 : V10.cell? ⟨w1.heap.size, 0, none⟩ = some (.int .u32 h0.1) := by simp [Lib.cell_of_heap NH6.out]
                have hh1 : V10.cell? ⟨w1.heap.size, 1, none⟩ = some (.int .u32 h0.2) := by simp [Lib.cell_of_heap NH6.out]
                have u80 : V10.cell? ⟨w2.heap.size, 0, none⟩ = some (.int .i64 v.n) := by simp [Lib.cell_of_heap NV6.out]
                have u81 : V10.cell? ⟨w2.heap.size, 1, none⟩ = some (.int .u32 v.s) := by simp [Lib.cell_of_heap NV6.out]
                have u82 : V10.cell? ⟨w2.heap.size, 2, none⟩ = some (.int .u32 v.g) := by simp [Lib.cell_of_heap NV6.out]
                clear nx6 na hs2 hs3
                have QX := hide (Row.ch QR.out E3.out (fun _ _ h => h))
                have hiq := HI2.out
                have hiw : IntKind.i64.wrap ((i : Int) + 1) = (i : Int) + 1 := by rw [IntKind.wrap_i64]; omega
                have hjw : IntKind.i64.wrap ((j : Int) + 1) = (j : Int) + 1 := by rw [IntKind.wrap_i64]; omega
                have hcl0 : (i : Int) ≤ (cl : Int) := by have := HCL.out; omega
                have hcl1 : (i : Int) + 1 ≤ (qs.length : Int) := by omega
                have hcl2 : (qs.length : Int) ≤ (cl : Int) := by have := HCL.out; omega
                have hcl3 : (0 : Int) ≤ (i : Int) + 1 := by omega
                have HM1 := hide (show 0 + i ≤ maxLen by unfold maxLen; have := QM.out.2; omega)
                have HM2 := hide (show (0 + i) * 32 ≤ 140737488355328 by have := QM.out.2; omega)
                have HFL := hide (show ((qs.take i).flatMap paF).length = i * 3 by rw [flat_len paF 3 paF_len, List.length_take]; omega)
                have HON := hide (show ∀ u ∈ (qs.take i).flatMap paF, u.oneCell' = true from fun u hu => by obtain ⟨z, _, hz⟩ := List.mem_flatMap.1 hu; exact paF_one z u hz)
                go_wp2_with (at_builtin; refine wpList_append_any rfl _ _ 99 rfl V10.heap.size 113 i0 (.agg #[.int .u32 0, .int .u32 0, .slice none 0 0]) 3 32 Try.underlying99 hi0 hz0 hz1 hz2 rfl (by decide) _ 0 [] rfl (World.ownsRow_nil V10 V10.heap.size 113 3) (some ⟨gl, 0, none⟩) ⟨gl, 0, none⟩ i cl ((qs.take i).flatMap paF) rfl (fun _ => rfl) HFL.out (fun _ => row_take QX.out i) HON.out HM1.out HM2.out (Nat.le_refl _) ?_)
                intro v5 w5 hown5 hgrow5
                have HOW5 := hide (show w5.ownsRow V10.heap.size 113 3 v5 i ((qs.take i).flatMap paF) from by have := hown5; simpa using this)
                have c95 : Ch (fun _ => False) V10 w5 := Ch.of_grown hgrow5 (fun _ e => by cases e)
                have Q5 := hide (Row.ch QX.out c95 (fun _ _ h => h))
                have C5 := hide (C10.out.trans c95 (fun _ _ h => h))
                have HBB := hide c95.size
                have htn : ((i : Int) + 1).toNat = i + 1 := by omega
                have HN5 := hide (show i + (qs.length - (i + 1)) ≤ maxLen by unfold maxLen; have := QM.out.2; have := HI2.out; omega)
                have HN6 := hide (show (i + (qs.length - (i + 1))) * 32 ≤ 140737488355328 by have := QM.out.2; have := HI2.out; omega)
                have HFL5 := hide (show ((qs.drop (i + 1)).flatMap paF).length = (qs.length - (i + 1)) * 3 by rw [flat_len paF 3 paF_len, List.length_drop])
                have HON5 := hide (show ∀ u ∈ (qs.drop (i + 1)).flatMap paF, u.oneCell' = true from fun u hu => by obtain ⟨z, _, hz⟩ := List.mem_flatMap.1 hu; exact paF_one z u hz)
                clear hown5 hgrow5 c95
                by_cases hce : cl = i + 1
                · subst hce
                  have hzq : qs.length - (i + 1) = 0 := by have := HCL.out; omega
                  have R6 := hide (show PaRow w5 V10.heap.size v5 (qs.eraseIdx i) from by
                    unfold PaRow Row
                    rw [← erase_eq qs HI2.out, List.flatMap_append, List.length_append, List.length_take, List.length_drop, Nat.min_eq_left (by have := HI2.out; omega), hzq, List.drop_eq_nil_of_le (by omega), List.flatMap_nil, List.append_nil, Nat.add_zero]
                    exact HOW5.out)
                  have C6 := hide C5.out
                  go_wp2_with (at_builtin; refine wpList_append_zero rfl _ _ 99 rfl V10.heap.size 113 i0 3 Try.underlying99 hi0 _ i ((qs.take i).flatMap paF) rfl HOW5.out (some ⟨gl, 0, none⟩) 0 rfl ?_)
                  refine ⟨?rel, ?measure⟩
                  case rel =>
                    exact ⟨j + 1, HL.out, rfl, hide ⟨qs.eraseIdx i, rowLow R6.out (by have h1 := HB0.out; have h2 := C3.out.size; have h3 := C10.out.size; omega), HNX.out, fun q hq => QM.out.1 q (List.mem_of_mem_eraseIdx hq), by rw [List.length_eraseIdx_of_lt HI2.out]; have := QM.out.2; omega, C6.out⟩⟩
                  case measure =>
                    show d.wk.length - ((j : Int) + 1).toNat < d.wk.length - (j : Int).toNat
                    have := HL.out
                    omega
                · have HCE := hide hce
                  go_wp2_with (at_builtin; refine wpList_append_any rfl _ _ 99 rfl V10.heap.size 113 i0 (.agg #[.int .u32 0, .int .u32 0, .slice none 0 0]) 3 32 Try.underlying99 hi0 hz0 hz1 hz2 rfl (by decide) _ i ((qs.take i).flatMap paF) rfl HOW5.out (some ⟨gl, (i + 1) * 3, none⟩) ⟨gl, (i + 1) * 3, none⟩ (qs.length - (i + 1)) (cl - (i + 1)) ((qs.drop (i + 1)).flatMap paF) rfl (fun _ => rfl) HFL5.out (fun _ => row_drop Q5.out paF_len (by have := HI2.out; omega)) HON5.out HN5.out HN6.out HBB.out ?_)
                  intro v6 w6 hown6 hgrow6
                  have R6 := hide (show PaRow w6 V10.heap.size v6 (qs.eraseIdx i) from by
                    unfold PaRow Row
                    rw [← erase_eq qs HI2.out, List.flatMap_append, List.length_append, List.length_take, List.length_drop, Nat.min_eq_left (by have := HI2.out; omega)]
                    exact hown6)
                  have C6 := hide (C5.out.trans (Ch.of_grown (Q := fun y => v5.ownBlock = some y) hgrow6 (fun _ e => e)) (fun y hy e => by have h1 := (own_in HOW5.out e).1; have h2 := C10.out.size; omega))
                  clear hown6 hgrow6 hce
                  go_wp2_with fail
                  refine ⟨?rel, ?measure⟩
                  case rel =>
                    exact ⟨j + 1, HL.out, rfl, hide ⟨qs.eraseIdx i, rowLow R6.out (by have h1 := HB0.out; have h2 := C3.out.size; have h3 := C10.out.size; omega), HNX.out, fun q hq => QM.out.1 q (List.mem_of_mem_eraseIdx hq), by rw [List.length_eraseIdx_of_lt HI2.out]; have := QM.out.2; omega, C6.out⟩⟩
                  case measure =>
                    show d.wk.length - ((j : Int) + 1).toNat < d.wk.length - (j : Int).toNat
                    have := HL.out
                    omega
              | false =>
                have nx6 := NX6.out
                have na := NA.out
                rw [hsd] at na
                have g3 : V10.cell? ⟨W0.heap.size, 3, none⟩ = some (.int .i64 k.v.n) := by simp [Lib.cell_of_heap nx6]
                have g4 : V10.cell? ⟨W0.heap.size, 4, none⟩ = some (.int .u32 k.v.s) := by simp [Lib.cell_of_heap nx6]
                have g5 : V10.cell? ⟨W0.heap.size, 5, none⟩ = some (.int .u32 k.v.g) := by simp [Lib.cell_of_heap nx6]
                have g6 : V10.cell? ⟨W0.heap.size, 6, none⟩ = some (.bool k.ok) := by simp [Lib.cell_of_heap nx6]
                have b0 : V10.cell? ⟨Y.heap.size, 0, none⟩ = some (.int .u32 h0.1) := by simp [Lib.cell_of_heap na]
                have b1 : V10.cell? ⟨Y.heap.size, 1, none⟩ = some (.int .u32 h0.2) := by simp [Lib.cell_of_heap na]
                have b2 : V10.cell? ⟨Y.heap.size, 2, none⟩ = some (.bool false) := by simp [Lib.cell_of_heap na]
                have hh0 : V10.cell? ⟨w1.heap.size, 0, none⟩ = some (.int .u32 h0.1) := by simp [Lib.cell_of_heap NH6.out]
                have hh1 : V10.cell? ⟨w1.heap.size, 1, none⟩ = some (.int .u32 h0.2) := by simp [Lib.cell_of_heap NH6.out]
                have u80 : V10.cell? ⟨w2.heap.size, 0, none⟩ = some (.int .i64 v.n) := by simp [Lib.cell_of_heap NV6.out]
                have u81 : V10.cell? ⟨w2.heap.size, 1, none⟩ = some (.int .u32 v.s) := by simp [Lib.cell_of_heap NV6.out]
                have u82 : V10.cell? ⟨w2.heap.size, 2, none⟩ = some (.int .u32 v.g) := by simp [Lib.cell_of_heap NV6.out]
                clear nx6 na
                have QX := hide (Row.ch QR.out E3.out (fun _ _ h => h))
                have hiq := HI2.out
                have hiw : IntKind.i64.wrap ((i : Int) + 1) = (i : Int) + 1 := by rw [IntKind.wrap_i64]; omega
                have hjw : IntKind.i64.wrap ((j : Int) + 1) = (j : Int) + 1 := by rw [IntKind.wrap_i64]; omega
                have hcl0 : (i : Int) ≤ (cl : Int) := by have := HCL.out; omega
                have hcl1 : (i : Int) + 1 ≤ (qs.length : Int) := by omega
                have hcl2 : (qs.length : Int) ≤ (cl : Int) := by have := HCL.out; omega
                have hcl3 : (0 : Int) ≤ (i : Int) + 1 := by omega
                have HM1 := hide (show 0 + i ≤ maxLen by unfold maxLen; have := QM.out.2; omega)
                have HM2 := hide (show (0 + i) * 32 ≤ 140737488355328 by have := QM.out.2; omega)
                have HFL := hide (show ((qs.take i).flatMap paF).length = i * 3 by rw [flat_len paF 3 paF_len, List.length_take]; omega)
                have HON := hide (show ∀ u ∈ (qs.take i).flatMap paF, u.oneCell' = true from fun u hu => by obtain ⟨z, _, hz⟩ := List.mem_flatMap.1 hu; exact paF_one z u hz)
                go_wp2_with (at_builtin; refine wpList_append_any rfl _ _ 99 rfl V10.heap.size 113 i0 (.agg #[.int .u32 0, .int .u32 0, .slice none 0 0]) 3 32 Try.underlying99 hi0 hz0 hz1 hz2 rfl (by decide) _ 0 [] rfl (World.ownsRow_nil V10 V10.heap.size 113 3) (some ⟨gl, 0, none⟩) ⟨gl, 0, none⟩ i cl ((qs.take i).flatMap paF) rfl (fun _ => rfl) HFL.out (fun _ => row_take QX.out i) HON.out HM1.out HM2.out (Nat.le_refl _) ?_)
                intro v5 w5 hown5 hgrow5
                have HOW5 := hide (show w5.ownsRow V10.heap.size 113 3 v5 i ((qs.take i).flatMap paF) from by have := hown5; simpa using this)
                have c95 : Ch (fun _ => False) V10 w5 := Ch.of_grown hgrow5 (fun _ e => by cases e)
                have Q5 := hide (Row.ch QX.out c95 (fun _ _ h => h))
                have C5 := hide (C10.out.trans c95 (fun _ _ h => h))
                have HBB := hide c95.size
                have htn : ((i : Int) + 1).toNat = i + 1 := by omega
                have HN5 := hide (show i + (qs.length - (i + 1)) ≤ maxLen by unfold maxLen; have := QM.out.2; have := HI2.out; omega)
                have HN6 := hide (show (i + (qs.length - (i + 1))) * 32 ≤ 140737488355328 by have := QM.out.2; have := HI2.out; omega)
                have HFL5 := hide (show ((qs.drop (i + 1)).flatMap paF).length = (qs.length - (i + 1)) * 3 by rw [flat_len paF 3 paF_len, List.length_drop])
                have HON5 := hide (show ∀ u ∈ (qs.drop (i + 1)).flatMap paF, u.oneCell' = true from fun u hu => by obtain ⟨z, _, hz⟩ := List.mem_flatMap.1 hu; exact paF_one z u hz)
                clear hown5 hgrow5 c95
                by_cases hce : cl = i + 1
                · subst hce
                  have hzq : qs.length - (i + 1) = 0 := by have := HCL.out; omega
                  have R6 := hide (show PaRow w5 V10.heap.size v5 (qs.eraseIdx i) from by
                    unfold PaRow Row
                    rw [← erase_eq qs HI2.out, List.flatMap_append, List.length_append, List.length_take, List.length_drop, Nat.min_eq_left (by have := HI2.out; omega), hzq, List.drop_eq_nil_of_le (by omega), List.flatMap_nil, List.append_nil, Nat.add_zero]
                    exact HOW5.out)
                  have C6 := hide C5.out
                  go_wp2_with (at_builtin; refine wpList_append_zero rfl _ _ 99 rfl V10.heap.size 113 i0 3 Try.underlying99 hi0 _ i ((qs.take i).flatMap paF) rfl HOW5.out (some ⟨gl, 0, none⟩) 0 rfl ?_)
                  refine ⟨?rel, ?measure⟩
                  case rel =>
                    exact ⟨j + 1, HL.out, rfl, hide ⟨qs.eraseIdx i, rowLow R6.out (by have h1 := HB0.out; have h2 := C3.out.size; have h3 := C10.out.size; omega), HNX.out, fun q hq => QM.out.1 q (List.mem_of_mem_eraseIdx hq), by rw [List.length_eraseIdx_of_lt HI2.out]; have := QM.out.2; omega, C6.out⟩⟩
                  case measure =>
                    show d.wk.length - ((j : Int) + 1).toNat < d.wk.length - (j : Int).toNat
                    have := HL.out
                    omega
                · have HCE := hide hce
                  go_wp2_with (at_builtin; refine wpList_append_any rfl _ _ 99 rfl V10.heap.size 113 i0 (.agg #[.int .u32 0, .int .u32 0, .slice none 0 0]) 3 32 Try.underlying99 hi0 hz0 hz1 hz2 rfl (by decide) _ i ((qs.take i).flatMap paF) rfl HOW5.out (some ⟨gl, (i + 1) * 3, none⟩) ⟨gl, (i + 1) * 3, none⟩ (qs.length - (i + 1)) (cl - (i + 1)) ((qs.drop (i + 1)).flatMap paF) rfl (fun _ => rfl) HFL5.out (fun _ => row_drop Q5.out paF_len (by have := HI2.out; omega)) HON5.out HN5.out HN6.out HBB.out ?_)
                  intro v6 w6 hown6 hgrow6
                  have R6 := hide (show PaRow w6 V10.heap.size v6 (qs.eraseIdx i) from by
                    unfold PaRow Row
                    rw [← erase_eq qs HI2.out, List.flatMap_append, List.length_append, List.length_take, List.length_drop, Nat.min_eq_left (by have := HI2.out; omega)]
                    exact hown6)
                  have C6 := hide (C5.out.trans (Ch.of_grown (Q := fun y => v5.ownBlock = some y) hgrow6 (fun _ e => e)) (fun y hy e => by have h1 := (own_in HOW5.out e).1; have h2 := C10.out.size; omega))
                  clear hown6 hgrow6 hce
                  go_wp2_with fail
                  refine ⟨?rel, ?measure⟩
                  case rel =>
                    exact ⟨j + 1, HL.out, rfl, hide ⟨qs.eraseIdx i, rowLow R6.out (by have h1 := HB0.out; have h2 := C3.out.size; have h3 := C10.out.size; omega), HNX.out, fun q hq => QM.out.1 q (List.mem_of_mem_eraseIdx hq), by rw [List.length_eraseIdx_of_lt HI2.out]; have := QM.out.2; omega, C6.out⟩⟩
                  case measure =>
                    show d.wk.length - ((j : Int) + 1).toNat < d.wk.length - (j : Int).toNat
                    have := HL.out
                    omega
    · have hnil : d.wk.drop j = [] := List.drop_eq_nil_of_le (by omega)
      have i1 : ¬ (j : Int) < (d.wk.length : Int) := by omega
      rw [hnil] at hqk
      cases hqk
      clear hlt hj hnil HI hqr hqm hql hqc
      go_wp2_with fail
      go_ret2
      exact ⟨_, rfl, QR.out, (C3.out.trans QC.out (fun _ _ h => h)).below (Nat.le_refl _) (fun _ _ h => h)⟩

end Go.Proofs.Ytbblmbbpicinlaa

namespace Go.Proofs.Ytbblmbbpicinlaa
open Go.RowKit

theorem SW.kr {w w' : World} {B c bp : Nat} {l : List Wt} {ks : List Kn} {G : Nat → Prop} (h : SW w B c bp l ks G) (hc : Ch G w w') {α : Type} {f : α → List Value} {K : Nat} {e : TypeId} (hT : okT e) {B' : Nat} {v : Value} {xs : List α} (hr : Row f K e w B' v xs) : Row f K e w' B' v xs :=
  Row.ch hr hc (fun b hb => by obtain ⟨_, _, cur, e⟩ := own_in hr hb; exact h.nb e hT)
def PaM (w : World) (ps : List Pk) : Prop := ∀ q ∈ ps, ∃ cur, ArmB w q.ga cur q.az
theorem PaM.quiet {w w' : World} {ps : List Pk} (h : PaM w ps) (hc : Ch (fun _ => False) w w') : PaM w' ps := fun q hq => by
  obtain ⟨cur, hb⟩ := h q hq
  exact ⟨cur, hb.mv (hc.box hb.1 (fun h => h))⟩
theorem PaM.keep {w w' : World} {B c bp : Nat} {l : List Wt} {ks : List Kn} {G : Nat → Prop} {ps : List Pk} (h : PaM w ps) (hs : SW w B c bp l ks G) (hc : Ch G w w') : PaM w' ps := fun q hq => by
  obtain ⟨cur, hb⟩ := h q hq
  exact ⟨cur, hb.mv (hs.keep hc hb.1 (by decide))⟩
/-- one world of channels -/
structure Ow (w wr : World) (B c bp s : Nat) (l : List Wt) (ks : List Kn) (G : Nat → Prop) : Prop where
  s1 : SW wr B c bp l ks G
  sa : SelAt wr s c bp
  bl : Below w.heap.size w wr
  lo : w.heap.size ≤ B
theorem Ow.quiet {w wr w' : World} {B c bp s : Nat} {l : List Wt} {ks : List Kn} {G : Nat → Prop} (h : Ow w wr B c bp s l ks G) (hc : Ch (fun _ => False) wr w') : Ow w w' B c bp s l ks G :=
  ⟨h.s1.quiet hc, hc.box h.sa (fun h => h), h.bl.trans (hc.below (N := w.heap.size) h.bl.size (fun _ _ h => h)), h.lo⟩
theorem Ow.one {w wr w' : World} {B c bp s : Nat} {l l' : List Wt} {ks ks' : List Kn} {G G' : Nat → Prop} (h : Ow w wr B c bp s l ks G) (hc : Ch G wr w') (hs : SW w' B c bp l' ks' G') : Ow w w' B c bp s l' ks' G' :=
  ⟨hs, h.s1.keep hc h.sa (by decide), h.bl.trans (h.s1.blw hc h.lo), h.lo⟩

theorem WkP.sub {Fin : List Wt} {h : Hnd} {sent : Bool} {v : Va} {ps ps' : List Pk} {ws : List Wk} (a : WkP Fin h sent v ps ws ps') : ∀ q ∈ ps', q ∈ ps := by
  induction a with
  | nil => exact fun _ h => h
  | cons i hi m hm _ _ _ _ _ _ _ _ _ ih => exact fun q hq => List.mem_of_mem_eraseIdx (ih q hq)
theorem ArmsIn.of_row {w : World} {B n c : Nat} {aa : Option Addr} {az : List Am} (h : Row amF 6 105 w B (.slice aa n c) az) : ∃ ga, ArmsIn w aa ga az ∧ (0 < az.length → ∃ cur, w.heap[ga]? = some (.cells cur 105 (0, 0))) := by
  by_cases h0 : 0 < az.length
  · obtain ⟨ga, c', cur, e, _, _, _, hc, _, _⟩ := h.at amF_len h0
    injection e with e1 e2 e3
    subst e1
    exact ⟨ga, ⟨fun _ => rfl, AmL.of_row h⟩, fun _ => ⟨cur, hc⟩⟩
  · refine ⟨0, ⟨fun h => absurd h h0, fun i hi => absurd hi (by omega)⟩, fun h => absurd h h0⟩

section
variable {l : List Wt} {ks : List Kn} {gr : Hnd} {az : List Am} {n : Nat}
theorem pl_ok (hh : ∀ x ∈ az, ∃ k, fnk ks x.h = some k) (h5 : az.length ≤ 50) : plA l ks az = (idxA l ks 0 az, 0) := by
  unfold plA
  rw [if_neg (by omega)]
  unfold lkA
  rw [if_neg]
  rw [List.any_eq_true]
  rintro ⟨x, hx, hb⟩
  obtain ⟨k, hk⟩ := hh x hx
  simp [badA, hk] at hb
theorem ak_wait (ng : nnH gr = false) (nw : sel (isWho gr.1 gr.2) l ≠ []) : akA l ks gr az = ([], 143) := by
  unfold akA
  rw [ng, if_neg (by decide), if_pos (List.length_pos_iff.2 nw)]
theorem ak_free (ng : nnH gr = false) (nw : sel (isWho gr.1 gr.2) l = []) (hh : ∀ x ∈ az, ∃ k, fnk ks x.h = some k) (h5 : az.length ≤ 50) : akA l ks gr az = (idxA l ks 0 az, 0) := by
  unfold akA
  rw [ng, if_neg (by decide), nw, if_neg (by decide), pl_ok hh h5]
theorem snd_rdy {x : Am} {k : Kn} {v : Va} {g : Hnd} (hk : fnk ks x.h = some k) (hsd : x.sd = true) (hr : rdA l ks x = true) : (sndK l k g v).1.f ≠ 1 ∧ (sndK l k g v).1.ok = false := by
  unfold rdA fkS at hr
  rw [hsd, if_pos rfl, hk] at hr
  simp only [cnS] at hr
  unfold sndK
  split
  · exact ⟨(fun h => by cases h), rfl⟩
  · rename_i hc
    split
    · exact ⟨(fun h => by cases h), rfl⟩
    · rename_i hq
      split
      · exact ⟨(fun h => by cases h), rfl⟩
      · rename_i hn
        rw [hq] at hr
        simp [hc, hn] at hr
theorem rcv_rdy {x : Am} {k : Kn} {g : Hnd} (hk : fnk ks x.h = some k) (hsd : x.sd = false) (hr : rdA l ks x = true) : (rcvK l k g).1.f ≠ 1 := by
  unfold rdA fkR at hr
  rw [hsd, if_neg (by decide), hk] at hr
  simp only [cnR] at hr
  unfold rcvK
  split
  · split <;> exact (by decide : (0 : Int) ≠ 1)
  · rename_i hx
    split
    · exact (by decide : (0 : Int) ≠ 1)
    · rename_i hq
      split
      · exact (by decide : (0 : Int) ≠ 1)
      · rename_i hc
        rw [hx, hq] at hr
        simp [hc] at hr
theorem inN_mem {zs : List Nat} {z : Nat} (h : z ∈ zs) : inN zs (z : Int) = true := by
  unfold inN
  exact List.any_eq_true.2 ⟨z, h, by simp⟩
theorem pk_len {g : Hnd} (ng : nnH g = false) (nw : sel (isWho g.1 g.2) l = []) : (sel (isWho g.1 g.2) (pkL g 0 az l)).length = az.length := by
  have h := congrArg List.length (pk_sel ng az 0 l (fun r hr => by rw [nw] at hr; cases hr))
  rw [List.length_map, nw, List.map_nil, List.nil_append, wtRs_len] at h
  exact h
theorem PI.len {ps : List Pk} (h : PI l ps) {q : Pk} (hq : q ∈ ps) : (sel (isWho q.g.1 q.g.2) l).length = q.az.length := by
  have := congrArg List.length (h.wt q hq)
  rwa [List.length_map, wtRs_len] at this
end

end Go.Proofs.Ytbblmbbpicinlaa
