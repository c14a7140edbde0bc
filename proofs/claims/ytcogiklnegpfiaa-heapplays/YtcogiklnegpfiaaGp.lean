/- Layer 13: All. -/
import Derived.Test.YtcogiklnegpfiaaGl
namespace Go.Proofs.Ytcogiklnegpfiaa
open Go.RowKit Go.Shelf

attribute [local go_sem] Oper.semAt_some

theorem grown_cells {B : Nat} {X Y : World} {row : Option Nat} (hg : X.grownBy Y row) (hr : ∀ r, row = some r → B ≤ r ∧ ∃ o, X.heap[r]? = some o ∧ o.isCells = false) : Ch (fun x => row = some x) X Y ∧ ∀ {x : Nat} {cs : Array Value} {T : TypeId} {r : Nat × Nat}, X.heap[x]? = some (.cells cs T r) → ¬ row = some x :=
  ⟨Ch.of_grown hg (fun _ e => e), fun hx e => by
    obtain ⟨_, o, h1, h2⟩ := hr _ e
    rw [hx] at h1
    cases h1
    cases h2⟩
theorem Ch.put (W : World) (D : Nat) (o : Obj) : Ch (fun x => x = D) W (W.putObj D o) := ⟨rfl, rfl, rfl, by simp, fun x _ hn => World.putObj_heap_other hn⟩
theorem told_born {l : List Th} {M : Nat} (hw : Wf l M) : (toldF l 0).map (fun e => (#[hv (e.s : Int) (e.g : Int), .int .i64 e.x] : Array Value)) = (l.filter fun t => !t.d).map fun t => #[hv t.s t.g, .int .i64 t.x] := told_map hw (fun s g x => #[hv s g, .int .i64 x])

/-- what the range keeps -/
def AllI (N LB LX cap : Nat) (w4 : World) (hs : List Hd) (i : Nat) (W : World) : Prop :=
  Row hF 2 43 W N (.slice (some ⟨LB, 0, none⟩) (hs.take i).length cap) (hs.take i) ∧ Boxed W LX 34 (.slice (some ⟨LB, 0, none⟩) (hs.take i).length cap) ∧ Ch (fun x => x = LB ∨ x = LX) w4 W
theorem allI_own {N LB LX cap B : Nat} {w4 : World} {hs : List Hd} (hB : w4.heap.size ≤ B) : OwnFrom B (AllI N LB LX cap w4 hs) := by
  rintro i X Y row ⟨h1, h2, h3⟩ hg hr
  obtain ⟨k1, k2⟩ := grown_cells hg hr
  refine ⟨h1.ch k1 (fun g e => ?_), k1.box h2 (k2 h2), h3.trans k1 (fun x hx e => by have := (hr x e).1; omega)⟩
  obtain ⟨_, _, cur, hc⟩ := own_in h1 e
  exact k2 hc

theorem name_tmps {Fe : Fence} {n : Nat} {P : Program} {c : Code} {Q : Exit → Act → World → Prop} {T : Array Value} {df : List Deferred} {w : World} (h : ∀ tm, Hid (tm = T) → c.wpIn Fe n P Q { tmps := tm, defers := df } w) : c.wpIn Fe n P Q { tmps := T, defers := df } w := h T (hide rfl)

set_option maxRecDepth 100000 in
set_option maxHeartbeats 8000000 in
theorem hall_is {w : World} {B b p g M : Nat} {l : List Th} (h : Hp w B b p g l M) : Calls Try.prog 20 #[.pointer (some ⟨b, 0, none⟩)] w fun e w' => ∃ v, e = .returned v ∧ Row hF 2 43 w' w.heap.size v (allH l M) ∧ Below w.heap.size w w' := by
  have hwf := h.tb.wf
  have hlt := h.tb.lt
  have hm2 := h.tb.m2
  have hcl := hwf.cnt_le
  have hbl := bornH_len l
  refine (callsIn_wide (n := 20)).1 ?_
  refine callsIn_of_wp_marks Try.func20 rfl trivial ?_ rfl
  refine wpIn_wide.2 ?_
  obtain ⟨i0, hi0, hz0, hz1, hz2⟩ := nf_open info_hd
  have c0 := h.cells.1
  have H := hide h
  have HW := hide (And.intro hwf hlt)
  simp only [Try.ntmps20, List.size_toArray, List.length_cons, List.length_nil, Nat.reduceAdd, Nat.reduceSub, Array.replicate_succ, Array.replicate_zero, List.push_toArray, List.append_toArray, List.nil_append, List.cons_append]
  clear h hwf hlt
  go_wp2_with fail
  refine (count_isI H.out.tb).mono ?_
  rintro e w1 ⟨rfl, hb1⟩
  obtain ⟨w2, hmk, hrow, hg2⟩ := run_makeSlice_owned w1 w1.heap.size 34 43 i0 _ 2 Try.underlying34 hi0 hz0 hz1 .i64 .i64 (cnt l) (by omega) (by rw [hz2]; omega) (by unfold maxLen; omega) (Nat.le_refl _)
  have hb2 : Below w1.heap.size w1 w2 := ⟨hg2.os, hg2.tape, hg2.output, hg2.size, fun b hb => hg2.block b hb (by simp)⟩
  have hlt2 := (own_in hrow (g := w1.heap.size) rfl).2.1
  obtain ⟨w3, hw3⟩ : ∃ w3, w2.alloc (.cells #[.slice (some ⟨w1.heap.size, 0, none⟩) 0 (cnt l)] 34) = w3 := ⟨_, rfl⟩
  have hn3 : w3.heap[w2.heap.size]? = some (.cells #[.slice (some ⟨w1.heap.size, 0, none⟩) 0 (cnt l)] 34 (0, 0)) := by rw [← hw3]; exact heap_new _ _
  have cc := Ch.alloc (Q := fun _ => False) w2 (.cells #[.slice (some ⟨w1.heap.size, 0, none⟩) 0 (cnt l)] 34)
  rw [hw3] at cc
  have z3 : w3.heap.size = w2.heap.size + 1 := by rw [← hw3]; simp
  have c13 : Ch (fun _ => False) w1 w3 := (Ch.of_below hb2).trans cc (fun _ _ h => h)
  have c03 : Ch (fun _ => False) w w3 := (Ch.of_below hb1).trans c13 (fun _ _ h => h)
  have H3 := hide (H.out.ch0 c03)
  have c3 := H3.out.cells.1
  have R3 := hide (show Row hF 2 43 w3 w.heap.size (.slice (some ⟨w1.heap.size, 0, none⟩) ((bornH l).take 0).length (cnt l)) ((bornH l).take 0) from own_low (own_ch hrow cc (fun _ _ h => h)) hb1.size)
  have Z := hide (And.intro hb1.size (And.intro hb2.size (And.intro z3 hlt2)))
  have C03 := hide c03
  have N3 := hide hn3
  clear hb1 hb2 hg2 hrow cc c13 c03 hn3 z3 hlt2
  go_wp2_with fail
  refine (all_isI w3 (.pointer (some ⟨p, 0, none⟩)) rfl).mono ?_
  rintro e w4 ⟨rfl, hw4⟩
  have c34 : Ch (fun _ => False) w3 w4 := by rw [hw4]; exact Ch.alloc _ _
  have n4 : w4.heap[w3.heap.size]? = some (.cells #[.pointer (some ⟨p, 0, none⟩)] 59 (0, 0)) := by rw [hw4]; exact heap_new _ _
  have H4 := hide (H3.out.ch0 c34)
  clear hmk hw3 hw4
  have I4 := hide (show AllI w.heap.size w1.heap.size w2.heap.size (cnt l) w4 (bornH l) 0 w4 from ⟨R3.out.ch c34 (fun _ _ h => h), c34.box N3.out (fun h => h), Ch.refl _ _⟩)
  have hseq := stopsI (n := 19) (by decide) n4 (ks := toldF l 0) (fun W hW => living_isI (H4.out.ch0 hW).tb)
  rw [told_born HW.out.1] at hseq
  have HSEQ := hide hseq
  have C04 := hide (C03.out.trans c34 (fun _ _ h => h))
  have z4 := c34.size
  clear hseq n4 c34 c3 c0
  go_wp2_with fail
  obtain ⟨L, hL⟩ : ∃ L, (l.filter fun t => !t.d) = L := ⟨_, rfl⟩
  have hbL : bornH l = L.map fun t => (t.s, t.g) := by unfold bornH; rw [hL]
  have hlen : (bornH l).length = L.length := by rw [hbL, List.length_map]
  rw [hL] at HSEQ
  have HBL := hide hbL
  have HLN := hide hlen
  clear hL hbL hlen
  rename_i K1 hK1
  refine (wpIn_wide (n := 20)).1 (name_tmps (fun tm HT => ?_))
  refine range_is (by decide) (gf := 53) (lb := #[.pointer (some ⟨w3.heap.size, 0, none⟩)]) (by rw [HT.out]; rfl) (enters_of Try.func53 (by kernel_rfl) rfl) HSEQ.out (fun h k => h.trans k) (fun W l o o' _ h hc _ => Kc.put W l o o' h hc) (fun i h => by simp)
    (AllI w.heap.size w1.heap.size w2.heap.size (cnt l) w4 (bornH l)) (fun _ _ _ => False) (allI_own (Nat.le_refl _)) (fun c => ownFrom_pure _ _) I4.out
    (fun i a' W => ∃ A, w4.heap.size ≤ A ∧ ∃ hi : i < L.length, W.heap[A]? = some (.cells #[.int .u32 L[i].s, .int .u32 L[i].g] 43 (0, 0)) ∧ a' = { tmps := ((tm.setIfInBounds 18 (hv L[i].s L[i].g)).setIfInBounds 19 (.int .i64 L[i].x)).setIfInBounds 4 (.pointer (some ⟨A, 0, none⟩)), defers := [] })
    ?ownA ?assign ?body ?done (fun _ _ _ _ _ _ h => h.elim)
  case ownA =>
    rintro i a' _ X Y row ⟨A, hA, hi, h1, h2⟩ hg hr
    obtain ⟨k1, k2⟩ := grown_cells hg hr
    exact ⟨A, hA, hi, k1.box h1 (k2 h1), h2⟩
  case assign =>
    rintro lp i hi W K hI hK
    have hi' : i < L.length := by simpa using hi
    have hz := hI.2.2.size
    have ca : Ch (fun _ => False) W (W.alloc (.cells #[.int .u32 L[i].s, .int .u32 L[i].g] 43)) := Ch.alloc _ _
    have HK := hide (hK _ (W.alloc (.cells #[.int .u32 L[i].s, .int .u32 L[i].g] 43)) (keeps_of_ch ca (fun _ h => h.elim)) (Kc.of_ch ca (fun _ h => h.elim)) ⟨hI.1.ch ca (fun _ _ h => h), ca.box hI.2.1 (fun h => h), hI.2.2.trans ca (fun _ _ h => h.elim)⟩ ⟨W.heap.size, hz, hi', heap_new _ _, rfl⟩)
    rw [List.getElem_map]
    generalize L[i] = z at HK ⊢
    rw [HT.out] at HK ⊢
    clear hK ca
    gi_wp2
    exact HK.out
  case body =>
    rintro lp i hi a' W hlp - hI ⟨A, hA, hi', hx, rfl⟩
    have hzW := hI.2.2.size
    have hb : i < (bornH l).length := by rw [HLN.out]; exact hi'
    have hbi : (bornH l)[i] = (L[i].s, L[i].g) := by
      have : (bornH l)[i]? = some (L[i].s, L[i].g) := by rw [HBL.out, List.getElem?_map, List.getElem?_eq_getElem hi']; rfl
      rw [List.getElem?_eq_getElem hb] at this
      exact Option.some.inj this
    have htk : (bornH l).take (i + 1) = (bornH l).take i ++ [(L[i].s, L[i].g)] := by rw [List.take_succ_eq_append_getElem hb, hbi]
    have hln : ((bornH l).take i).length = i := by rw [List.length_take]; omega
    have hic : i + 1 ≤ cnt l := by omega
    have y0 : W.cell? ⟨A, 0, none⟩ = some (.int .u32 L[i].s) := by simp [Lib.cell_of_heap hx]
    have y1 : W.cell? ⟨A, 1, none⟩ = some (.int .u32 L[i].g) := by simp [Lib.cell_of_heap hx]
    generalize L[i] = z at y0 y1 htk hx ⊢
    obtain ⟨hI1, hI2, hI3⟩ := hI
    rw [hln] at hI1 hI2
    have y2 : W.cell? ⟨w2.heap.size, 0, none⟩ = some (.slice (some ⟨w1.heap.size, 0, none⟩) i (cnt l)) := by simp [Lib.cell_of_heap hI2]
    have HOW := hide (World.ownsRow.alloc (show W.ownsRow w.heap.size 43 2 (.slice (some ⟨w1.heap.size, 0, none⟩) i (cnt l)) i (((bornH l).take i).flatMap hF) from by have := hI1; unfold Row at this; rwa [hln] at this) (.cells #[.int .u32 z.s, .int .u32 z.g] 43))
    have HN1 := hide (row_new W (hF (z.s, z.g)) 43 rfl)
    have HON := hide (hF_one (z.s, z.g))
    have HIC := hide hic
    have HBX := hide hI2
    have HCH := hide hI3
    have HTK := hide htk
    have HLT := hide hln
    have HZW := hide hzW
    clear hI1 hI2 hI3 hx hbi hln hb hi' hi hic htk hzW
    rw [HT.out]
    refine wpIn_block (region_plain (by kernel_rfl) (by rintro ⟨_, _, h⟩; exact h) ?_)
    go_wp2_with (at_builtin; refine wpList_append_fits _ rfl _ _ 34 rfl w.heap.size 43 i0 2 Try.underlying34 hi0 hz1 w1.heap.size i (cnt l) (((bornH l).take i).flatMap hF) rfl HOW.out ⟨W.heap.size, 0, none⟩ 1 1 (hF (z.s, z.g)) rfl rfl HN1.out HON.out HIC.out ?_)
    intro w5 hown hgrow
    have cG : Ch (fun x => x = w1.heap.size ∨ x = w2.heap.size) W w5 := (Ch.alloc (Q := fun x => x = w1.heap.size ∨ x = w2.heap.size) W _).trans (Ch.of_grown (Q := fun x => x = w1.heap.size) hgrow (fun k e => by injection e with e; exact e.symm)) (fun _ _ h => .inl h)
    have cG1 : Ch (fun x => x = w1.heap.size) W w5 := (Ch.alloc (Q := fun x => x = w1.heap.size) W _).trans (Ch.of_grown (Q := fun x => x = w1.heap.size) hgrow (fun k e => by injection e with e; exact e.symm)) (fun _ _ h => h)
    have hz2 := Z.out
    have hb5 := cG1.box HBX.out (by omega)
    have y5 : w5.cell? ⟨w2.heap.size, 0, none⟩ = some (.slice (some ⟨w1.heap.size, 0, none⟩) i (cnt l)) := by simp [Lib.cell_of_heap hb5]
    have y6 : w5.frozen? ⟨w2.heap.size, 0, none⟩ = false := by simp [World.frozen?, hb5]
    have HF : ∀ W7, W7 = w5.setCell ⟨w2.heap.size, 0, none⟩ (.slice (some ⟨w1.heap.size, 0, none⟩) (i + 1) (cnt l)) → KeepsFrom w4.heap.size W W7 ∧ Kc w4.heap.size W W7 ∧ AllI w.heap.size w1.heap.size w2.heap.size (cnt l) w4 (bornH l) (i + 1) W7 := by
      rintro W7 rfl
      have cS := Ch.set (Q := fun x => x = w1.heap.size ∨ x = w2.heap.size) w5 (Or.inr rfl) 0 (.slice (some ⟨w1.heap.size, 0, none⟩) (i + 1) (cnt l))
      have c := cG.trans cS (fun _ _ h => h)
      have hlow : ∀ x, (x = w1.heap.size ∨ x = w2.heap.size) → x < w4.heap.size := by rintro x (rfl | rfl) <;> omega
      have hl1 : ((bornH l).take (i + 1)).length = i + 1 := by rw [HTK.out, List.length_append, HLT.out]; rfl
      refine ⟨keeps_of_ch c hlow, Kc.of_ch c hlow, ?_, ?_, HCH.out.trans c (fun _ _ h => h)⟩
      · rw [hl1, HTK.out]
        have hr : Row hF 2 43 w5 w.heap.size (.slice (some ⟨w1.heap.size, 0, none⟩) (i + 1) (cnt l)) ((bornH l).take i ++ [(z.s, z.g)]) := Row.snoc (by rw [HLT.out]; exact hown)
        exact hr.ch (Ch.set (Q := fun x => x = w2.heap.size) w5 rfl 0 _) (fun k e => by injection e with e; show ¬ k = _; have e : w1.heap.size = k := e; omega)
      · rw [hl1]
        exact heap_set hb5 0 _
    have HF := hide HF
    clear hown hgrow cG cG1 hb5 hz2 y0 y1 y2
    go_wp2
    exact HF.out _ rfl
  case done =>
    rintro D W hD hI hdef
    refine hK1 _ _ ?_
    clear hK1
    rw [List.length_map, ← HLN.out] at hI
    obtain ⟨hI1, hI2, hI3⟩ := hI
    rw [List.take_length] at hI1 hI2
    have hl5 : (bornH l).length ≤ 500 := by omega
    clear hbl
    have hz2 := Z.out
    have y2 : W.cell? ⟨w2.heap.size, 0, none⟩ = some (.slice (some ⟨w1.heap.size, 0, none⟩) (bornH l).length (cnt l)) := by simp [Lib.cell_of_heap hI2]
    have HS := hide (sortH_is hI1 hl5)
    have hDn := (Array.getElem?_eq_some_iff.1 hdef).1
    rw [HT.out]
    go_wp2_with fail
    refine HS.out.mono ?_
    rintro e w6 ⟨rfl, d, hp, hs, hrow, hch⟩
    have ed := sorted_all (M := M) HW.out.1 HW.out.2 hp hs
    subst ed
    have hb6 := hch.box hI2 (by omega)
    have y6 : w6.cell? ⟨w2.heap.size, 0, none⟩ = some (.slice (some ⟨w1.heap.size, 0, none⟩) (bornH l).length (cnt l)) := by simp [Lib.cell_of_heap hb6]
    have hd6 := hch.box hdef (by omega)
    have hel : (allH l M).length = (bornH l).length := by rw [allH_perm HW.out.1 HW.out.2, bornH_len]
    have hlt1 := (own_in hI1 (g := w1.heap.size) rfl).2.1
    have cf0 := ((C04.out.mono (Q' := fun x => x = w1.heap.size ∨ x = w2.heap.size) (fun _ _ h => h.elim)).trans hI3 (fun _ _ h => h)).trans hch (fun _ _ h => Or.inl h)
    have cf := (cf0.mono (Q' := fun x => x = w1.heap.size ∨ x = w2.heap.size ∨ x = D) (fun _ _ h => h.imp_right Or.inl)).trans (Ch.put w6 D (.deferred none)) (fun _ _ h => Or.inr (Or.inr h))
    have HF := hide (show Row hF 2 43 (w6.putObj D (.deferred none)) w.heap.size (.slice (some ⟨w1.heap.size, 0, none⟩) (bornH l).length (cnt l)) (allH l M) ∧ Below w.heap.size w (w6.putObj D (.deferred none)) from
      ⟨hrow.ch (Ch.put w6 D (.deferred none)) (fun g e => by injection e with e; have e : w1.heap.size = g := e; omega), cf.below (Nat.le_refl _) (fun x hx e => by omega)⟩)
    have HD6 := hide hd6
    clear hrow hch hI1 hI2 hI3 hb6 hd6 y2 hp hs
    go_wp2_with fail
    refine ⟨by simp, .inl ⟨_, _, rfl, run_takeDeferred HD6.out, ?_⟩⟩
    exact ⟨_, results_tmp rfl _ _ _, .slice (some ⟨w1.heap.size, 0, none⟩) (bornH l).length (cnt l), rfl, HF.out⟩

end Go.Proofs.Ytcogiklnegpfiaa
