/- Layer 11: what holds of the landed book, on lists alone. -/
import Derived.Test.YtoabhmpakcgloaaHb
namespace Go.Proofs.Ytoabhmpakcgloaa
open Go.RowKit

def clT (t : Wt) : Int × Int × Int := (t.r.ws, t.r.wg, t.r.ar)
/-- the landed book holds these waits -/
structure BInv (l : List Wt) (sl : List Sl) (full : Int) (en : Ln → Option (Int × Int)) (cl : Int × Int × Int → Option Int) (n : Nat) : Prop where
  lines : LInv en (lkS sl) (mbW l)
  gen : ∀ i (hi : i < sl.length), sl[i].g = (genW l ((i : Int) + 1) : Int)
  live : ∀ t ∈ l, t.o = false → ∀ i (hi : i < sl.length), t.r.ms = (i : Int) + 1 → sl[i].r = t.r
  free : ∀ i (hi : i < sl.length), usdW l ((i : Int) + 1) = false → sl[i].r = zRc
  dom : ∀ t ∈ l, 1 ≤ t.r.ms ∧ t.r.ms ≤ sl.length
  one : l.Pairwise fun t u => t.o = false → u.o = false → t.r.ms ≠ u.r.ms ∧ clT t ≠ clT u
  has : ∀ t ∈ l, t.o = false → cl (clT t) = some t.r.ms
  not : ∀ c, (∀ t ∈ l, t.o = false → clT t ≠ c) → cl c = none
  cnt : n = (sel isNow l).length
  fl : ∀ s : Int, 1 ≤ s → s ≤ full → usdW l s = true
  full0 : 0 ≤ full

theorem usdW_mem {l : List Wt} {s : Int} : usdW l s = true ↔ ∃ t ∈ l, t.o = false ∧ t.r.ms = s := by
  unfold usdW
  rw [List.any_eq_true]
  simp only [Bool.and_eq_true, Bool.not_eq_true', decide_eq_true_eq]
theorem mbW_mem {l : List Wt} {x : Ln} {s : Int} : s ∈ mbW l x ↔ ∃ t ∈ l, stW x t = true ∧ t.r.ms = s := by
  unfold mbW sel
  simp only [List.mem_map, List.mem_filter, List.map_map, Function.comp]
  constructor
  · rintro ⟨t, ⟨h1, h2⟩, rfl⟩; exact ⟨t, h1, h2, rfl⟩
  · rintro ⟨t, h1, h2, rfl⟩; exact ⟨t, ⟨h1, h2⟩, rfl⟩
theorem stW_live {x : Ln} {t : Wt} (h : stW x t = true) : t.o = false := by
  unfold stW at h
  simp only [Bool.and_eq_true, Bool.not_eq_true'] at h
  exact h.1
theorem lnOf_k (k : Nat) (hk : k < 3) (r : Rc) : (lnOf k r).k = k := k3 (p := fun k => (lnOf k r).k = k) hk rfl rfl rfl
theorem stW_of {k : Nat} (hk : k < 3) {t : Wt} (h : t.o = false) : stW (lnOf k t.r) t = true := by
  unfold stW
  rw [lnOf_k k hk, h]
  simp
theorem stW_kind {x : Ln} {t : Wt} (h : stW x t = true) : x.k < 3 ∧ x = lnOf x.k t.r := by
  unfold stW at h
  simp only [Bool.and_eq_true, decide_eq_true_eq] at h
  refine ⟨?_, h.2⟩
  have h2 := h.2
  match hk : x.k with
  | 0 => omega
  | 1 => omega
  | 2 => omega
  | k + 3 =>
    rw [hk] at h2
    rw [h2] at hk
    simp [lnOf] at hk
theorem mbW_app (A D : List Wt) (x : Ln) : mbW (A ++ D) x = mbW A x ++ mbW D x := by simp [mbW, sel]
theorem mbW_cons (t : Wt) (D : List Wt) (x : Ln) : mbW (t :: D) x = (if stW x t then [t.r.ms] else []) ++ mbW D x := by
  unfold mbW sel
  cases h : stW x t <;> simp [h]

/-- the members when one is taken out, line by line; when one is put -/
def cutM (Mb : Ln → List Int) (r : Rc) (s : Int) : Nat → Ln → List Int
  | 0 => Mb
  | k + 1 => updW (cutM Mb r s k) (lnOf k r) ((cutM Mb r s k (lnOf k r)).erase s)
def putM (Mb : Ln → List Int) (r : Rc) (s : Int) : Nat → Ln → List Int
  | 0 => Mb
  | k + 1 => updW (putM Mb r s k) (lnOf k r) (putM Mb r s k (lnOf k r) ++ [s])
theorem cutM_le (Mb : Ln → List Int) (r : Rc) (s : Int) : ∀ (k : Nat), k ≤ 3 → ∀ x, cutM Mb r s k x = if x.k < k ∧ x = lnOf x.k r then (Mb x).erase s else Mb x
  | 0, _, x => by simp [cutM]
  | k + 1, hk, x => by
    have ih := cutM_le Mb r s k (by omega)
    have e := lnOf_k k (by omega) r
    unfold cutM
    by_cases hx : x = lnOf k r
    · rw [hx, updW_same, ih, e, if_neg (by omega), if_pos ⟨by omega, rfl⟩]
    · rw [updW_ne _ _ hx, ih]
      by_cases h : x.k < k ∧ x = lnOf x.k r
      · rw [if_pos h, if_pos ⟨by omega, h.2⟩]
      · rw [if_neg h, if_neg]
        rintro ⟨h1, h2⟩
        have : x.k = k := by
          refine Nat.le_antisymm (by omega) (Nat.le_of_not_lt fun h3 => h ⟨h3, h2⟩)
        exact hx (this ▸ h2)
theorem putM_le (Mb : Ln → List Int) (r : Rc) (s : Int) : ∀ (k : Nat), k ≤ 3 → ∀ x, putM Mb r s k x = if x.k < k ∧ x = lnOf x.k r then Mb x ++ [s] else Mb x
  | 0, _, x => by simp [putM]
  | k + 1, hk, x => by
    have ih := putM_le Mb r s k (by omega)
    have e := lnOf_k k (by omega) r
    unfold putM
    by_cases hx : x = lnOf k r
    · rw [hx, updW_same, ih, e, if_neg (by omega), if_pos ⟨by omega, rfl⟩]
    · rw [updW_ne _ _ hx, ih]
      by_cases h : x.k < k ∧ x = lnOf x.k r
      · rw [if_pos h, if_pos ⟨by omega, h.2⟩]
      · rw [if_neg h, if_neg]
        rintro ⟨h1, h2⟩
        have : x.k = k := by
          refine Nat.le_antisymm (by omega) (Nat.le_of_not_lt fun h3 => h ⟨h3, h2⟩)
        exact hx (this ▸ h2)
theorem st_iff {x : Ln} {t : Wt} (h : t.o = false) : (x.k < 3 ∧ x = lnOf x.k t.r) ↔ stW x t = true := by
  refine ⟨fun h' => ?_, stW_kind⟩
  unfold stW
  rw [h, ← h'.2]
  simp

section
variable {A D : List Wt} {t : Wt}
theorem over_not (x : Ln) : stW x (over t) = false := by simp [stW, over]
theorem one_A (h : (A ++ t :: D).Pairwise fun t u => t.o = false → u.o = false → t.r.ms ≠ u.r.ms ∧ clT t ≠ clT u) (ht : t.o = false) : (∀ u ∈ A, u.o = false → u.r.ms ≠ t.r.ms ∧ clT u ≠ clT t) ∧ (∀ u ∈ D, u.o = false → u.r.ms ≠ t.r.ms ∧ clT u ≠ clT t) := by
  rw [List.pairwise_append] at h
  obtain ⟨_, h2, h3⟩ := h
  rw [List.pairwise_cons] at h2
  refine ⟨fun u hu ho => h3 u hu t (by simp) ho ht, fun u hu ho => ?_⟩
  have := h2.1 u hu ht ho
  exact ⟨this.1.symm, this.2.symm⟩
theorem cut_mb (h : (A ++ t :: D).Pairwise fun t u => t.o = false → u.o = false → t.r.ms ≠ u.r.ms ∧ clT t ≠ clT u) (ht : t.o = false) : cutM (mbW (A ++ t :: D)) t.r t.r.ms 3 = mbW (A ++ over t :: D) := by
  funext x
  rw [cutM_le _ _ _ 3 (by omega)]
  have e : mbW (A ++ over t :: D) x = mbW A x ++ mbW D x := by rw [mbW_app, mbW_cons, over_not]; rfl
  rw [e, mbW_app, mbW_cons]
  by_cases hs : stW x t = true
  · rw [if_pos ((st_iff ht).2 hs), if_pos hs]
    have hA : t.r.ms ∉ mbW A x := fun hm => by
      obtain ⟨u, h1, h2, h3⟩ := mbW_mem.1 hm
      exact ((one_A h ht).1 u h1 (stW_live h2)).1 h3
    rw [List.erase_append_right _ hA]
    simp
  · rw [if_neg (fun h' => hs ((st_iff ht).1 h')), if_neg hs]
    simp
theorem put_mb {l : List Wt} (ht : t.o = false) : putM (mbW l) t.r t.r.ms 3 = mbW (l ++ [t]) := by
  funext x
  rw [putM_le _ _ _ 3 (by omega), mbW_app, mbW_cons]
  by_cases hs : stW x t = true
  · rw [if_pos ((st_iff ht).2 hs), if_pos hs]
    simp [mbW, sel]
  · rw [if_neg (fun h' => hs ((st_iff ht).1 h')), if_neg hs]
    simp [mbW, sel]
end
theorem LInv.congr {en : Ln → Option (Int × Int)} {lk lk' : Nat → Int → Int × Int} {Mb : Ln → List Int} (h : LInv en lk Mb) (hc : ∀ x, ∀ s ∈ Mb x, lk' x.k s = lk x.k s) : LInv en lk' Mb := ⟨h.en, fun x => (h.sg x).congr (hc x), h.nz, h.nd, h.dj⟩

theorem gr_len {sl sl' : List Sl} {q : List (Int × Rc)} (h : sl'.map Sl.gr = q) (hq : q.length = sl.length) : sl'.length = sl.length := by
  have := congrArg List.length h
  rw [List.length_map] at this
  omega
theorem gr_same {sl sl' : List Sl} (h : sl'.map Sl.gr = sl.map Sl.gr) : sl'.length = sl.length ∧ ∀ i (hi : i < sl.length) (hi' : i < sl'.length), sl'[i].g = sl[i].g ∧ sl'[i].r = sl[i].r := by
  refine ⟨gr_len h (by simp), fun i hi hi' => ?_⟩
  have e : (sl'.map Sl.gr)[i]? = (sl.map Sl.gr)[i]? := by rw [h]
  rw [List.getElem?_map, List.getElem?_map, List.getElem?_eq_getElem hi, List.getElem?_eq_getElem hi'] at e
  simp only [Option.map_some, Option.some.injEq, Sl.gr, Prod.mk.injEq] at e
  exact e
theorem gr_set {sl sl' : List Sl} {i : Nat} {q : Int × Rc} (h : sl'.map Sl.gr = (sl.map Sl.gr).set i q) : sl'.length = sl.length ∧ ∀ j (hj : j < sl.length) (hj' : j < sl'.length), (j ≠ i → sl'[j].g = sl[j].g ∧ sl'[j].r = sl[j].r) ∧ (j = i → sl'[j].g = q.1 ∧ sl'[j].r = q.2) := by
  refine ⟨gr_len h (by simp), fun j hj hj' => ?_⟩
  have e : (sl'.map Sl.gr)[j]? = ((sl.map Sl.gr).set i q)[j]? := by rw [h]
  rw [List.getElem?_map, List.getElem?_eq_getElem hj'] at e
  refine ⟨fun hne => ?_, fun he => ?_⟩
  · rw [List.getElem?_set_ne (Ne.symm hne), List.getElem?_map, List.getElem?_eq_getElem hj] at e
    simp only [Option.map_some, Option.some.injEq, Sl.gr, Prod.mk.injEq] at e
    exact e
  · subst he
    rw [List.getElem?_set_self (by simpa using hj)] at e
    simp only [Option.map_some, Option.some.injEq, Sl.gr] at e
    rw [← e]
    exact ⟨rfl, rfl⟩

section
variable {l A D : List Wt} {t : Wt} {sl sl' : List Sl} {full : Int} {en en' : Ln → Option (Int × Int)} {cl : Int × Int × Int → Option Int} {n : Nat}
theorem gen_over (s : Int) : genW (A ++ over t :: D) s = genW (A ++ t :: D) s := by simp [genW, over, List.countP_cons]
theorem usd_over (ht : t.o = false) (h : (A ++ t :: D).Pairwise fun t u => t.o = false → u.o = false → t.r.ms ≠ u.r.ms ∧ clT t ≠ clT u) (s : Int) : usdW (A ++ over t :: D) s = (usdW (A ++ t :: D) s && decide (s ≠ t.r.ms)) := by
  obtain ⟨o1, o2⟩ := one_A h ht
  rw [Bool.eq_iff_iff, Bool.and_eq_true, usdW_mem, usdW_mem, decide_eq_true_eq]
  constructor
  · rintro ⟨u, hu, ho, rfl⟩
    rcases List.mem_append.1 hu with hu | hu
    · exact ⟨⟨u, by simp [hu], ho, rfl⟩, (o1 u hu ho).1⟩
    · rcases List.mem_cons.1 hu with rfl | hu
      · cases ho
      · exact ⟨⟨u, by simp [hu], ho, rfl⟩, (o2 u hu ho).1⟩
  · rintro ⟨⟨u, hu, ho, rfl⟩, hne⟩
    rcases List.mem_append.1 hu with hu | hu
    · exact ⟨u, by simp [hu], ho, rfl⟩
    · rcases List.mem_cons.1 hu with rfl | hu
      · exact absurd rfl hne
      · exact ⟨u, by simp [hu], ho, rfl⟩
theorem mem_over {u : Wt} (hu : u ∈ A ++ over t :: D) (ho : u.o = false) : u ∈ A ∨ u ∈ D := by
  rcases List.mem_append.1 hu with hu | hu
  · exact Or.inl hu
  · rcases List.mem_cons.1 hu with rfl | hu
    · cases ho
    · exact Or.inr hu
theorem one_over (h : (A ++ t :: D).Pairwise fun t u => t.o = false → u.o = false → t.r.ms ≠ u.r.ms ∧ clT t ≠ clT u) : (A ++ over t :: D).Pairwise fun t u => t.o = false → u.o = false → t.r.ms ≠ u.r.ms ∧ clT t ≠ clT u := by
  rw [List.pairwise_append, List.pairwise_cons] at h ⊢
  refine ⟨h.1, ⟨fun u _ ho => (by cases ho), h.2.1.2⟩, fun a ha b hb => ?_⟩
  rcases List.mem_cons.1 hb with rfl | hb
  · intro _ ho; cases ho
  · exact h.2.2 a ha b (by simp [hb])
theorem cnt_over (ht : t.o = false) : (sel isNow (A ++ t :: D)).length = (sel isNow (A ++ over t :: D)).length + 1 := by
  simp [sel, isNow, ht, over, List.filter_append]
  omega

/-- one is taken out -/
theorem BInv.cut (h : BInv (A ++ t :: D) sl full en cl n) (ht : t.o = false) {i : Nat} (hi : i < sl.length) (hm : t.r.ms = (i : Int) + 1) (hL : LInv en' (lkS sl') (mbW (A ++ over t :: D))) (hg : sl'.map Sl.gr = (sl.map Sl.gr).set i (sl[i].g, zRc)) {full' : Int} (hf : full' = min full (i : Int)) : BInv (A ++ over t :: D) sl' full' en' (updW cl (clT t) none) (n - 1) := by
  obtain ⟨e1, e2⟩ := gr_set hg
  obtain ⟨o1, o2⟩ := one_A h.one ht
  subst hf
  refine ⟨hL, fun j hj => ?_, fun u hu ho j hj hjm => ?_, fun j hj hu => ?_, fun u hu => ?_, one_over h.one, fun u hu ho => ?_, fun c hc => ?_, ?_, fun s h1 h2 => ?_, ?_⟩
  · rw [gen_over]
    by_cases hji : j = i
    · rw [((e2 j (e1 ▸ hj) hj).2 hji).1]
      subst hji
      exact h.gen j (e1 ▸ hj)
    · rw [((e2 j (e1 ▸ hj) hj).1 hji).1]
      exact h.gen j (e1 ▸ hj)
  · have hu' := mem_over hu ho
    have hne : u.r.ms ≠ t.r.ms := hu'.elim (fun h => (o1 u h ho).1) (fun h => (o2 u h ho).1)
    have hji : j ≠ i := fun e => hne (by rw [hjm, hm, e])
    rw [((e2 j (e1 ▸ hj) hj).1 hji).2]
    exact h.live u (by rcases hu' with h | h <;> simp [h]) ho j (e1 ▸ hj) hjm
  · rw [usd_over ht h.one] at hu
    by_cases hji : j = i
    · rw [((e2 j (e1 ▸ hj) hj).2 hji).2]
    · rw [((e2 j (e1 ▸ hj) hj).1 hji).2]
      refine h.free j (e1 ▸ hj) ?_
      have : decide ((j : Int) + 1 ≠ t.r.ms) = true := decide_eq_true (by omega)
      rw [this, Bool.and_true] at hu
      exact hu
  · rw [e1]
    rcases List.mem_append.1 hu with hu | hu
    · exact h.dom u (by simp [hu])
    · rcases List.mem_cons.1 hu with rfl | hu
      · exact h.dom t (by simp)
      · exact h.dom u (by simp [hu])
  · have hu' := mem_over hu ho
    have hne : clT u ≠ clT t := hu'.elim (fun h => (o1 u h ho).2) (fun h => (o2 u h ho).2)
    rw [updW_ne _ _ hne]
    exact h.has u (by rcases hu' with h | h <;> simp [h]) ho
  · by_cases hct : c = clT t
    · rw [hct, updW_same]
    · rw [updW_ne _ _ hct]
      refine h.not c fun u hu ho => ?_
      rcases List.mem_append.1 hu with hu | hu
      · exact hc u (by simp [hu]) ho
      · rcases List.mem_cons.1 hu with rfl | hu
        · exact Ne.symm hct
        · exact hc u (by simp [hu]) ho
  · have := cnt_over (A := A) (D := D) ht
    have := h.cnt
    omega
  · rw [usd_over ht h.one, h.fl s h1 (by omega), Bool.true_and]
    exact decide_eq_true (by omega)
  · have := h.full0
    omega

/-- a wait more -/
theorem BInv.put (h : BInv l sl full en cl n) (ht : t.o = false) {i : Nat} {g : Int} (hm : t.r.ms = (i : Int) + 1) (hfree : usdW l ((i : Int) + 1) = false) (hall : ∀ s : Int, 1 ≤ s → s ≤ i → usdW l s = true) (hcl : ∀ u ∈ l, u.o = false → clT u ≠ clT t) (hL : LInv en' (lkS sl') (mbW (l ++ [t]))) {sl1 : List Sl} (h1 : sl1 = sl ∨ i = sl.length ∧ sl1 = sl ++ [zSl 0]) (hi : i < sl1.length) (hgn : g = (genW l ((i : Int) + 1) : Int) + 1) (hg : sl'.map Sl.gr = (sl1.map Sl.gr).set i (g, t.r)) : BInv (l ++ [t]) sl' ((i : Int) + 1) en' (updW cl (clT t) (some ((i : Int) + 1))) (n + 1) := by
  obtain ⟨e1, e2⟩ := gr_set hg
  have hle : sl.length ≤ sl1.length := by rcases h1 with rfl | ⟨_, rfl⟩ <;> simp
  have hold : ∀ j (hj : j < sl1.length), j ≠ i → ∃ hj' : j < sl.length, sl1[j] = sl[j] := fun j hj hne => by
    rcases h1 with rfl | ⟨hil, rfl⟩
    · exact ⟨hj, rfl⟩
    · have hj' : j < sl.length := by
        rw [List.length_append, List.length_singleton] at hj
        omega
      exact ⟨hj', List.getElem_append_left hj'⟩
  refine ⟨hL, fun j hj => ?_, fun u hu ho j hj hjm => ?_, fun j hj hu => ?_, fun u hu => ?_, ?_, fun u hu ho => ?_, fun c hc => ?_, ?_, fun s k1 k2 => ?_, by omega⟩
  · rw [genW_snoc]
    by_cases hji : j = i
    · subst hji
      rw [((e2 j (e1 ▸ hj) hj).2 rfl).1, if_pos hm, hgn]
      omega
    · obtain ⟨hj', ej⟩ := hold j (e1 ▸ hj) hji
      rw [((e2 j (e1 ▸ hj) hj).1 hji).1, ej, if_neg (by omega), h.gen j hj']
      rfl
  · rcases List.mem_append.1 hu with hu | hu
    · have hne : j ≠ i := fun e => by
        have : usdW l ((i : Int) + 1) = true := usdW_mem.2 ⟨u, hu, ho, by rw [hjm, e]⟩
        rw [hfree] at this
        cases this
      obtain ⟨hj', ej⟩ := hold j (e1 ▸ hj) hne
      rw [((e2 j (e1 ▸ hj) hj).1 hne).2, ej]
      exact h.live u hu ho j hj' hjm
    · rw [List.mem_singleton.1 hu] at hjm ⊢
      have : j = i := by omega
      rw [((e2 j (e1 ▸ hj) hj).2 this).2]
  · rw [usdW_snoc] at hu
    have hne : j ≠ i := fun e => by
      rw [ht, e, hm] at hu
      simp at hu
    obtain ⟨hj', ej⟩ := hold j (e1 ▸ hj) hne
    rw [((e2 j (e1 ▸ hj) hj).1 hne).2, ej]
    refine h.free j hj' ?_
    cases hx : usdW l ((j : Int) + 1) with
    | false => rfl
    | true => rw [hx] at hu; simp at hu
  · rw [e1]
    rcases List.mem_append.1 hu with hu | hu
    · have := h.dom u hu
      omega
    · rw [List.mem_singleton.1 hu]
      omega
  · rw [List.pairwise_append]
    refine ⟨h.one, by simp, fun u hu v hv ho _ => ?_⟩
    rw [List.mem_singleton.1 hv]
    refine ⟨fun e => ?_, hcl u hu ho⟩
    have : usdW l ((i : Int) + 1) = true := usdW_mem.2 ⟨u, hu, ho, by rw [e, hm]⟩
    rw [hfree] at this
    cases this
  · rcases List.mem_append.1 hu with hu | hu
    · rw [updW_ne _ _ (hcl u hu ho)]
      exact h.has u hu ho
    · rw [List.mem_singleton.1 hu, updW_same, hm]
  · have hct : c ≠ clT t := fun e => hc t (by simp) ht e.symm
    rw [updW_ne _ _ hct]
    exact h.not c fun u hu ho => hc u (by simp [hu]) ho
  · rw [sel_snoc]
    have : isNow t = true := by simp [isNow, ht]
    rw [if_pos this, List.length_append, ← h.cnt]
    rfl
  · rw [usdW_snoc]
    by_cases hs : s ≤ i
    · rw [hall s k1 hs]; rfl
    · have : s = (i : Int) + 1 := by omega
      rw [this, ht, hm]
      simp
end

end Go.Proofs.Ytoabhmpakcgloaa
