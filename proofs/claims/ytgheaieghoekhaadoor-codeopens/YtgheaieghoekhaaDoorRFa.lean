/- Read: the document's. -/
import Derived.Test.YtgheaieghoekhaaDoorRXa
namespace Go.Proofs.YtgheaieghoekhaaDoor
open Go.RowKit
set_option maxRecDepth 100000 in
set_option maxHeartbeats 16000000 in
theorem read_is (s : ByteArray) (hl : s.size ≤ 140737488355328) (w : World) :
    Calls Tryd.prog 24 #[.string s] w fun e w' => (∃ v1 v2 v3, e = .returned (.tuple #[pv v1 v2 v3 (cProg ⟨s.data.toList, false⟩).1.mn, .bool (!(cProg ⟨s.data.toList, false⟩).2.b)]) ∧ Owns w.heap.size w' v1 v2 v3 (cProg ⟨s.data.toList, false⟩).1) ∧ Below w.heap.size w w' := by
  obtain ⟨W, hW⟩ : ∃ W, ((w.alloc (.cells #[.slice none 0 0, .slice none 0 0, .slice none 0 0, .int .i64 0] 26)).alloc (.cells #[.slice none 0 0, .slice none 0 0, .slice none 0 0, .int .i64 0] 26)).alloc (.cells #[.string s, .int .i64 0, .bool false] 104) = W := ⟨_, rfl⟩
  have hb0 : Below w.heap.size w W := by rw [← hW]; exact below3 w _ _ _
  have hsz : W.heap.size = w.heap.size + 3 := by rw [← hW]; simp
  have hA : PB w.heap.size (.slice none 0 0) (.slice none 0 0) (.slice none 0 0) 0 W := by rw [← hW]; exact new3 w _ _ _
  have hP : PB (w.heap.size + 1) (.slice none 0 0) (.slice none 0 0) (.slice none 0 0) 0 W := by rw [← hW]; exact new3' w _ _ _
  have hC : Cu (w.heap.size + 1 + 1) s ⟨s.data.toList, false⟩ W := ⟨0, Nat.zero_le _, hl, rfl, by rw [← hW]; exact new3'' w _ _ _⟩
  obtain ⟨A, eA⟩ : ∃ A, w.heap.size = A := ⟨_, rfl⟩
  obtain ⟨P, eP⟩ : ∃ P, A + 1 = P := ⟨_, rfl⟩
  obtain ⟨R, eR⟩ : ∃ R, P + 1 = R := ⟨_, rfl⟩
  rw [eA] at hA hP hC hsz
  rw [eP] at hP hC
  rw [eR] at hC
  have hRW : R < W.heap.size := by omega
  have hPR : P < R := by omega
  have hAP : A < P := by omega
  obtain ⟨c0, hc0⟩ : ∃ c0, c0 = (⟨s.data.toList, false⟩ : Cs) := ⟨_, rfl⟩
  rw [← hc0] at hC ⊢
  obtain ⟨x0, c1, e1⟩ : ∃ x c, cNum 4 c0 = (x, c) := ⟨_, _, rfl⟩
  obtain ⟨mn, c2, e2⟩ : ∃ x c, cNum 4 c1 = (x, c) := ⟨_, _, rfl⟩
  have EA := hide (show cA c0 = (mn, c2) by unfold cA; rw [e1]; exact e2)
  obtain ⟨n1, en1, hn1⟩ := cNum_small (k := 4) (c := c2) (by omega)
  obtain ⟨c3, e3⟩ : ∃ c, cNum 4 c2 = ((n1 : Int), c) := ⟨_, by rw [← en1]⟩
  have EB := hide (show cB c0 = cMany cFn n1 c3 by unfold cB; rw [unhide EA]; unfold cList; rw [e3]; rfl)
  have G1 := hide e1
  have G2 := hide e2
  have G3 := hide e3
  have HA := hide hA
  have HP := hide hP
  have HC := hide hC
  have HB0 := hide hb0
  have HL := hide hl
  have HW := hide hW
  have HEA := hide eA
  have HEP := hide eP
  have HER := hide eR
  have HSZ := hide hsz
  clear hA hP hC hb0 hW eA eP eR e1 e2 e3 en1 hc0 hl hsz
  go_enter Tryd.func24, Tryd.ntmps24
  go_wp2_with fail
  rw [unhide HW, unhide HEA, unhide HEP, unhide HER]
  refine (cnum_is (unhide HC) 4 rfl (by omega) (unhide G1)).mono ?_
  rintro e w1 ⟨rfl, hC1, hK1⟩
  have HC1 := hide hC1
  have HK1 := hide hK1
  clear hC1 hK1
  go_wp2_with fail
  refine (cnum_is (unhide HC1) 4 rfl (by omega) (unhide G2)).mono ?_
  rintro e w2 ⟨rfl, hC2, hK2⟩
  have hP2 : PB P (.slice none 0 0) (.slice none 0 0) (.slice none 0 0) 0 w2 := BX.keep (BX.keep (unhide HP) (unhide HK1) (by omega)) hK2 (by omega)
  have cP := hP2.cell
  have HP3 := hide (hP2.set3 mn)
  have HC2 := hide (hC2.ch (Ch.set (Q := fun b => b = P) w2 rfl 3 (.int .i64 mn)) (by omega))
  have HH2 := hide ((((Ch.of_keep (unhide HK1)).mono (Q' := two R P) fun _ _ h => Or.inl h).trans (Ch.of_keep hK2) fun _ _ h => Or.inl h).trans (Ch.set (Q := two R P) w2 (Or.inr rfl) 3 (.int .i64 mn)) fun _ _ h => h)
  clear hP2 hC2 hK2
  go_wp2_with fail
  clear cP
  refine (cnum_is (unhide HC2) 4 rfl (by omega) (unhide G3)).mono ?_
  rintro e W1 ⟨rfl, hC3, hK3⟩
  have HP1 := hide (show PB P (.slice none 0 0) (.slice none 0 0) (.slice none 0 0) mn W1 from BX.keep (unhide HP3) hK3 (by omega))
  have HH1 := hide ((unhide HH2).trans (Ch.of_keep hK3) fun _ _ h => Or.inl h)
  have HC3 := hide hC3
  have hRW1 : R < W1.heap.size := hC3.lt
  clear hC3 hK3 HP3 HC2 HH2 HK1 HC1
  go_wp2
  go_loopw [7] (fun i wr => ∃ (j : Nat) (l : List (Fu × Value)) (c : Cs) (u1 : Value), j ≤ n1 ∧ i = .int .i64 j ∧ l.length = j ∧ cMany cFn n1 c3 = (l.map Prod.fst ++ (cMany cFn (n1 - j) c).1, (cMany cFn (n1 - j) c).2) ∧
    PB P u1 (.slice none 0 0) (.slice none 0 0) mn wr ∧ Cu R s c wr ∧ OwnFu wr W1.heap.size u1 l ∧ Ch (two R P) W1 wr) (fun i _ => n1 - (intOf i).toNat)
  case atStart => exact ⟨0, [], c3, _, Nat.zero_le _, rfl, rfl, rfl, unhide HP1, unhide HC3, ⟨World.ownsRow_nil _ _ _ _, fun _ h => by cases h⟩, Ch.refl _ _⟩
  case round =>
    obtain ⟨j, l, c, u1, hj, rfl, hlj, hM, hP, hC, hO, hH⟩ := hrel
    have hsz1 := hH.size
    obtain ⟨k0, hk0, hk1, hk2, hk3⟩ := hC
    have cR := cells3 hk3
    have hC : Cu R s c wr := ⟨k0, hk0, hk1, hk2, hk3⟩
    have HM := hide hM
    have HO := hide hO
    have HH := hide hH
    have HCr := hide hC
    have HPr := hide hP
    have HLJ := hide hlj
    clear hM hO hH hC hk0 hk1 hk2 hk3 hP hlj
    by_cases hlt : j < n1 ∧ c.b = false
    · obtain ⟨hlt, hbf⟩ := hlt
      rw [hbf] at cR
      have HBF := hide hbf
      clear hbf
      obtain ⟨wq, rfl⟩ : ∃ x, x = wr := ⟨_, rfl⟩
      obtain ⟨t, d1, g1⟩ : ∃ t d, cText c = (t, d) := ⟨_, _, rfl⟩
      obtain ⟨pa, d2, g2⟩ : ∃ x d, cNum 1 d1 = (x, d) := ⟨_, _, rfl⟩
      obtain ⟨sl, d3, g3⟩ : ∃ x d, cNum 2 d2 = (x, d) := ⟨_, _, rfl⟩
      obtain ⟨rx, d4, g4⟩ : ∃ x d, cNum 1 d3 = (x, d) := ⟨_, _, rfl⟩
      obtain ⟨m, em, hm⟩ := cNum_small (k := 4) (c := d4) (by omega)
      obtain ⟨d5, g5⟩ : ∃ c, cNum 4 d4 = ((m : Int), c) := ⟨_, by rw [← em]⟩
      have EF := hide (show cFn c = (⟨t, pa, sl, rx == 1, (cMany cIns m d5).1⟩, (cMany cIns m d5).2) by unfold cFn cFn1 cFlag cList; simp only [g1, g2, g3, g4, g5, Int.toNat_natCast])
      have K1 := hide g1
      have K2 := hide g2
      have K3 := hide g3
      have K4 := hide g4
      have K5 := hide g5
      obtain ⟨F, hF⟩ : ∃ F, wq.heap.size = F := ⟨_, rfl⟩
      have hRF : R < F := by omega
      have hFR : F ≠ R := by omega
      have HF := hide hF
      have HX0 := hide (show BX (wq.alloc (.cells #[.string ⟨#[]⟩, .int .i64 0, .int .i64 0, .bool false, .slice none 0 0] 51)) F #[.string ⟨#[]⟩, .int .i64 0, .int .i64 0, .bool false, .slice none 0 0] 51 by rw [← hF]; exact BX.new wq _ _)
      have HC0 := hide ((unhide HCr).below (below1 wq (.cells #[.string ⟨#[]⟩, .int .i64 0, .int .i64 0, .bool false, .slice none 0 0] 51)))
      clear em g1 g2 g3 g4 g5 hF
      go_wp2_with fail
      rw [unhide HF]
      refine (ctext_is (unhide HC0) (unhide K1)).mono ?_
      rintro e w1 ⟨rfl, hC, hK⟩
      have hX := (unhide HX0).keep hK hFR
      have cX := hX.c5
      have HZw1 := hide (boxed hX hFR hC hK (i := 0) (cs' := #[.string t, .int .i64 0, .int .i64 0, .bool false, .slice none 0 0]) (.string t) rfl)
      clear hX hC hK
      go_wp2_with fail
      clear cX
      refine (cnum_is (unhide HZw1).2.1 1 rfl (by omega) (unhide K2)).mono ?_
      rintro e w2 ⟨rfl, hC, hK⟩
      have hX := (unhide HZw1).1.keep hK hFR
      have cX := hX.c5
      have HZw2 := hide (boxed hX hFR hC hK (i := 1) (cs' := #[.string t, .int .i64 pa, .int .i64 0, .bool false, .slice none 0 0]) (.int .i64 pa) rfl)
      clear hX hC hK
      go_wp2_with fail
      clear cX
      refine (cnum_is (unhide HZw2).2.1 2 rfl (by omega) (unhide K3)).mono ?_
      rintro e w3 ⟨rfl, hC, hK⟩
      have hX := (unhide HZw2).1.keep hK hFR
      have cX := hX.c5
      have HZw3 := hide (boxed hX hFR hC hK (i := 2) (cs' := #[.string t, .int .i64 pa, .int .i64 sl, .bool false, .slice none 0 0]) (.int .i64 sl) rfl)
      clear hX hC hK
      go_wp2_with fail
      clear cX
      refine (cnum_is (unhide HZw3).2.1 1 rfl (by omega) (unhide K4)).mono ?_
      rintro e w4 ⟨rfl, hC, hK⟩
      have hX := (unhide HZw3).1.keep hK hFR
      have cX := hX.c5
      have HZw4 := hide (boxed hX hFR hC hK (i := 3) (cs' := #[.string t, .int .i64 pa, .int .i64 sl, .bool (rx == 1), .slice none 0 0]) (.bool (rx == 1)) rfl)
      clear hX hC hK
      go_wp2_with fail
      clear cX
      refine (cnum_is (unhide HZw4).2.1 4 rfl (by omega) (unhide K5)).mono ?_
      rintro e Wi ⟨rfl, hC, hK⟩
      have HXi := hide ((unhide HZw4).1.keep hK hFR)
      have HCi := hide hC
      have HHi := hide ((((((Ch.alloc (Q := two R F) wq (.cells #[.string ⟨#[]⟩, .int .i64 0, .int .i64 0, .bool false, .slice none 0 0] 51)).trans (unhide HZw1).2.2 fun _ _ h => h).trans (unhide HZw2).2.2 fun _ _ h => h).trans (unhide HZw3).2.2 fun _ _ h => h).trans (unhide HZw4).2.2 fun _ _ h => h).trans (Ch.of_keep hK) fun _ _ h => Or.inl h)
      have hFi : F < Wi.heap.size := (unhide HXi).lt
      clear hC hK HZw1 HZw2 HZw3 HZw4 HX0 HC0
      go_wp2
      go_loopw [10] (fun i wr => ∃ (k : Nat) (cd : List In) (d : Cs) (v : Value), k ≤ m ∧ i = .int .i64 k ∧ cd.length = k ∧ cMany cIns m d5 = (cd ++ (cMany cIns (m - k) d).1, (cMany cIns (m - k) d).2) ∧
        BX wr F #[.string t, .int .i64 pa, .int .i64 sl, .bool (rx == 1), v] 51 ∧ Cu R s d wr ∧ OwnIn wr Wi.heap.size v cd ∧ Ch (two R F) Wi wr) (fun i _ => m - (intOf i).toNat)
      case atStart => exact ⟨0, [], d5, _, Nat.zero_le _, rfl, rfl, rfl, unhide HXi, unhide HCi, World.ownsRow_nil _ _ _ _, Ch.refl _ _⟩
      case round =>
        obtain ⟨k, cd, d, v, hk, rfl, hck, hM2, hX2, hC2, hO2, hH2⟩ := hrel
        have hsz2 := hH2.size
        obtain ⟨k0, hk0, hk1, hk2, hk3⟩ := hC2
        have cR2 := cells3 hk3
        have hC2 : Cu R s d wr := ⟨k0, hk0, hk1, hk2, hk3⟩
        have HM2 := hide hM2
        have HO2 := hide hO2
        have HH2 := hide hH2
        have HC2 := hide hC2
        have HX2 := hide hX2
        have HCK := hide hck
        clear hM2 hO2 hH2 hC2 hk0 hk1 hk2 hk3 hX2 hck cR
        by_cases hlt2 : k < m ∧ d.b = false
        · obtain ⟨hlt2, hbf⟩ := hlt2
          rw [hbf] at cR2
          have HBF2 := hide hbf
          clear hbf
          obtain ⟨x1, f1, g1⟩ : ∃ x e, cNum 1 d = (x, e) := ⟨_, _, rfl⟩
          obtain ⟨x2, f2, g2⟩ : ∃ x e, cNum 8 f1 = (x, e) := ⟨_, _, rfl⟩
          obtain ⟨x3, f3, g3⟩ : ∃ x e, cNum 1 f2 = (x, e) := ⟨_, _, rfl⟩
          obtain ⟨x4, f4, g4⟩ : ∃ x e, cNum 4 f3 = (x, e) := ⟨_, _, rfl⟩
          have EI := hide (show cIns d = (⟨x1, x2, x3, x4⟩, f4) by unfold cIns; simp only [g1, g2, g3, g4])
          have J1 := hide g1
          have J2 := hide g2
          have J3 := hide g3
          have J4 := hide g4
          obtain ⟨X, hX⟩ : ∃ X, wr.heap.size = X := ⟨_, rfl⟩
          have hXR : X ≠ R := by omega
          have hXF : X ≠ F := by omega
          have hXw : wr.heap.size ≤ X := by omega
          have HXX := hide hX
          have HY0 := hide (show BX (wr.alloc (.cells #[.int .i64 0, .int .i64 0, .int .i64 0, .int .i64 0] 29)) X #[.int .i64 0, .int .i64 0, .int .i64 0, .int .i64 0] 29 by rw [← hX]; exact BX.new wr _ _)
          have HD0 := hide ((unhide HC2).below (below1 wr (.cells #[.int .i64 0, .int .i64 0, .int .i64 0, .int .i64 0] 29)))
          clear g1 g2 g3 g4 hX
          go_wp2_with fail
          rw [unhide HXX]
          refine (cnum_is (unhide HD0) 1 rfl (by omega) (unhide J1)).mono ?_
          rintro e v1 ⟨rfl, hC, hK⟩
          have hX := (unhide HY0).keep hK hXR
          have cX := hX.c4
          have HZv1 := hide (boxed hX hXR hC hK (i := 0) (cs' := #[.int .i64 x1, .int .i64 0, .int .i64 0, .int .i64 0]) (.int .i64 x1) rfl)
          clear hX hC hK
          go_wp2_with fail
          clear cX
          refine (cnum_is (unhide HZv1).2.1 8 rfl (by omega) (unhide J2)).mono ?_
          rintro e v2 ⟨rfl, hC, hK⟩
          have hX := (unhide HZv1).1.keep hK hXR
          have cX := hX.c4
          have HZv2 := hide (boxed hX hXR hC hK (i := 1) (cs' := #[.int .i64 x1, .int .i64 x2, .int .i64 0, .int .i64 0]) (.int .i64 x2) rfl)
          clear hX hC hK
          go_wp2_with fail
          clear cX
          refine (cnum_is (unhide HZv2).2.1 1 rfl (by omega) (unhide J3)).mono ?_
          rintro e v3 ⟨rfl, hC, hK⟩
          have hX := (unhide HZv2).1.keep hK hXR
          have cX := hX.c4
          have HZv3 := hide (boxed hX hXR hC hK (i := 2) (cs' := #[.int .i64 x1, .int .i64 x2, .int .i64 x3, .int .i64 0]) (.int .i64 x3) rfl)
          clear hX hC hK
          go_wp2_with fail
          clear cX
          refine (cnum_is (unhide HZv3).2.1 4 rfl (by omega) (unhide J4)).mono ?_
          rintro e v4 ⟨rfl, hC, hK⟩
          have hX := (unhide HZv3).1.keep hK hXR
          have hZ := boxed hX hXR hC hK (i := 3) (cs' := #[.int .i64 x1, .int .i64 x2, .int .i64 x3, .int .i64 x4]) (.int .i64 x4) rfl
          have hCh := ((((Ch.alloc (Q := two R X) wr (.cells #[.int .i64 0, .int .i64 0, .int .i64 0, .int .i64 0] 29)).trans (unhide HZv1).2.2 fun _ _ h => h).trans (unhide HZv2).2.2 fun _ _ h => h).trans (unhide HZv3).2.2 fun _ _ h => h).trans hZ.2.2 fun _ _ h => h
          have hXF2 : BX (v4.setCell ⟨X, 3, none⟩ (.int .i64 x4)) F #[.string t, .int .i64 pa, .int .i64 sl, .bool (rx == 1), v] 51 := (unhide HX2).ch hCh (fun h => by rcases h with h | h <;> omega)
          have cX := hX.c4
          have cY := hZ.1.c4
          have cF := hXF2.c5
          obtain ⟨V, hV⟩ : ∃ V, V = v4.setCell ⟨X, 3, none⟩ (.int .i64 x4) := ⟨_, rfl⟩
          have hVs : V.heap.size = v4.heap.size := by rw [hV, size_set]
          have HOW := hide (show ((v4.setCell ⟨X, 3, none⟩ (.int .i64 x4)).alloc (.cells #[.int .i64 x1, .int .i64 x2, .int .i64 x3, .int .i64 x4] 29)).ownsRow Wi.heap.size 29 4 v cd.length (cd.flatMap inF) from World.ownsRow.alloc (own_ch (unhide HO2) hCh (fun g h1 h2 h => by rcases h with h | h <;> omega)) _)
          have HNW := hide (show ∀ (j : Nat) (u : Value), (inF ⟨x1, x2, x3, x4⟩)[j]? = some u → ((v4.setCell ⟨X, 3, none⟩ (.int .i64 x4)).alloc (.cells #[.int .i64 x1, .int .i64 x2, .int .i64 x3, .int .i64 x4] 29)).cell? ((⟨v4.heap.size, 0, none⟩ : Addr).add j) = some u from row_new _ (inF ⟨x1, x2, x3, x4⟩) 29 (by rw [size_set]))
          have HN1 := hide (show ∀ u ∈ inF ⟨x1, x2, x3, x4⟩, u.oneCell' = true by intro u hu; simp only [inF, List.mem_cons, List.not_mem_nil, or_false] at hu; rcases hu with rfl | rfl | rfl | rfl <;> rfl)
          have HM1 := hide (show cd.length + 1 ≤ maxLen by rw [unhide HCK]; unfold maxLen; omega)
          have HM2b := hide (show (cd.length + 1) * 32 ≤ 140737488355328 by rw [unhide HCK]; omega)
          have HM3 := hide (show Wi.heap.size ≤ ((v4.setCell ⟨X, 3, none⟩ (.int .i64 x4)).alloc (.cells #[.int .i64 x1, .int .i64 x2, .int .i64 x3, .int .i64 x4] 29)).heap.size by have := hCh.size; rw [World.size_alloc]; omega)
          have HCH := hide hCh
          have HZ := hide hZ
          have HXF := hide hXF2
          obtain ⟨i0, hi0, hz0, hz1, hz2⟩ := nf_open nfIn
          clear hX hZ hCh hXF2 hC hK hV hVs
          go_wp2_with (at_builtin; refine wpList_append_own _ rfl _ _ 49 rfl Wi.heap.size 29 i0 (.agg #[.int .i64 0, .int .i64 0, .int .i64 0, .int .i64 0]) 4 32 Tryd.underlying49 hi0 hz0 hz1 hz2 rfl (by decide) v cd.length (cd.flatMap inF) rfl (unhide HOW) ⟨v4.heap.size, 0, none⟩ 1 1 (inF ⟨x1, x2, x3, x4⟩) rfl rfl (unhide HNW) (unhide HN1) (unhide HM1) (unhide HM2b) (unhide HM3) ?_)
          intro v' w5 hown' hgrow _
          obtain ⟨sa, sn, sc, rfl⟩ := own_form hown'
          have hG5 : Ch (fun b => Wi.heap.size ≤ b) _ w5 := Ch.of_grown hgrow (fun g e => (own_in (unhide HOW) e).1)
          have hA5 := (Ch.alloc (Q := fun b => Wi.heap.size ≤ b) (v4.setCell ⟨X, 3, none⟩ (.int .i64 x4)) (.cells #[.int .i64 x1, .int .i64 x2, .int .i64 x3, .int .i64 x4] 29)).trans hG5 fun _ _ h => h
          have hF5 := (unhide HXF).ch hA5 (by omega)
          have cF5 := hF5.c5
          have HF6 := hide (hF5.set (i := 4) (v := (.slice sa sn sc)) (cs' := #[.string t, .int .i64 pa, .int .i64 sl, .bool (rx == 1), (.slice sa sn sc)]) rfl)
          have HC6 := hide (((unhide HZ).2.1.ch hA5 (by omega)).ch (Ch.set (Q := fun b => b = F) w5 rfl 4 (.slice sa sn sc)) (by omega))
          have HO6 := hide (show OwnIn (w5.setCell ⟨F, 4, none⟩ (.slice sa sn sc)) Wi.heap.size (.slice sa sn sc) (cd ++ [⟨x1, x2, x3, x4⟩]) from OwnIn.ch (Ch.set (Q := fun b => b = F) w5 rfl 4 (.slice sa sn sc)) (fun g h1 h2 h => by omega) (own_snoc (f := inF) hown'))
          have HH6 := hide ((((unhide HH2).trans (unhide HCH) (fun x h1 h => by rcases h with h | h; exact Or.inl h; omega)).trans hA5 (fun x h1 h => by omega)).trans (Ch.set (Q := two R F) w5 (Or.inr rfl) 4 (.slice sa sn sc)) fun _ _ h => h)
          clear hown' hgrow hG5 hA5 hF5 cX cY cF HOW HNW HN1 HM1 HM2b HM3
          go_wp2
          go_roundw
          case rel => exact ⟨k + 1, cd ++ [⟨x1, x2, x3, x4⟩], f4, _, by omega, by go_num, by rw [List.length_append, unhide HCK]; rfl, cMany_step (unhide HM2) hlt2 (unhide HBF2) (unhide EI), unhide HF6, unhide HC6, unhide HO6, unhide HH6⟩
          case measure => simp [intOf]; omega
        · have he : m ≤ k ∨ d.b = true := by
            by_cases h1 : k < m
            · right
              cases hd : d.b
              · exact absurd ⟨h1, hd⟩ hlt2
              · rfl
            · left; omega
          have EE := hide (show cFn c = (⟨t, pa, sl, rx == 1, cd⟩, d) by have h := cMany_end (unhide HM2) he; rw [unhide EF, h])
          have hQ := (unhide HHi).trans (unhide HH2) fun _ _ h => h
          have hPq := BX.ch (unhide HPr) hQ (fun h => by rcases h with h | h <;> omega)
          have cP := hPq.c4
          have cF := (unhide HX2).c5
          have hFq := unhide HF
          have hOq := OwnFu.ch hQ (fun g h1 h2 h => by rcases h with h | h <;> omega) (unhide HO)
          have hVq := own_mono (unhide HO2) (B' := W1.heap.size) (by have := (unhide HHi).size; omega)
          have HOW := hide (show OwnFu (wr.alloc (.cells #[.string t, .int .i64 pa, .int .i64 sl, .bool (rx == 1), v] 51)) W1.heap.size u1 l from OwnFu.ch (Ch.alloc (Q := fun _ => False) wr _) (fun g h1 h2 h => h) hOq)
          have HVW := hide (show OwnIn (wr.alloc (.cells #[.string t, .int .i64 pa, .int .i64 sl, .bool (rx == 1), v] 51)) W1.heap.size v cd from OwnIn.ch (Ch.alloc (Q := fun _ => False) wr _) (fun g h1 h2 h => h) hVq)
          have HNW := hide (row_new wr (fuF (⟨t, pa, sl, rx == 1, cd⟩, v)) 51 rfl)
          obtain ⟨va, vn, vc, rfl⟩ := own_form (unhide HO2)
          have HN1 := hide (show ∀ u ∈ fuF (⟨t, pa, sl, rx == 1, cd⟩, .slice va vn vc), u.oneCell' = true by intro u hu; simp only [fuF, List.mem_cons, List.not_mem_nil, or_false] at hu; rcases hu with rfl | rfl | rfl | rfl | rfl <;> rfl)
          have HM1 := hide (show l.length + 1 ≤ maxLen by rw [unhide HLJ]; unfold maxLen; omega)
          have HM2b := hide (show (l.length + 1) * 64 ≤ 140737488355328 by rw [unhide HLJ]; omega)
          have HM3 := hide (show W1.heap.size ≤ (wr.alloc (.cells #[.string t, .int .i64 pa, .int .i64 sl, .bool (rx == 1), .slice va vn vc] 51)).heap.size by have := (unhide HHi).size; rw [World.size_alloc]; omega)
          have HPq := hide hPq
          have HQ := hide hQ
          obtain ⟨i0, hi0, hz0, hz1, hz2⟩ := nf_open nfFu
          clear hQ hPq hOq hVq hlt2
          rcases (show m ≤ k ∨ (k < m ∧ d.b = true) by rcases he with h | h; exact Or.inl h; by_cases h1 : k < m; exact Or.inr ⟨h1, h⟩; exact Or.inl (by omega)) with hx | ⟨hx, hxb⟩
          rotate_left
          · rw [hxb] at cR2
            clear he hxb
            go_wp2_with (at_builtin; refine wpList_append_own _ rfl _ _ 22 rfl W1.heap.size 51 i0 (.agg #[.string ⟨#[]⟩, .int .i64 0, .int .i64 0, .bool false, .slice none 0 0]) 5 64 Tryd.underlying22 hi0 hz0 hz1 hz2 rfl (by decide) u1 l.length (l.flatMap fuF) rfl (unhide HOW).1 ⟨wr.heap.size, 0, none⟩ 1 1 (fuF (⟨t, pa, sl, rx == 1, cd⟩, .slice va vn vc)) rfl rfl (unhide HNW) (unhide HN1) (unhide HM1) (unhide HM2b) (unhide HM3) ?_)
            intro v' w5 hown' hgrow _
            obtain ⟨sa, sn, sc, rfl⟩ := own_form hown'
            have hO5 := (unhide HOW).snoc (x := (⟨t, pa, sl, rx == 1, cd⟩, .slice va vn vc)) (unhide HVW) hown' hgrow
            have hG5 : Ch (fun b => W1.heap.size ≤ b) _ w5 := Ch.of_grown hgrow (fun g e => (own_in (unhide HOW).1 e).1)
            have hA5 := (Ch.alloc (Q := fun b => W1.heap.size ≤ b) wr (.cells #[.string t, .int .i64 pa, .int .i64 sl, .bool (rx == 1), .slice va vn vc] 51)).trans hG5 fun _ _ h => h
            have hP5 := (unhide HPq).ch hA5 (by omega)
            have cP5 := hP5.c4
            have HP6 := hide (PB.set0 (show PB P _ _ _ mn w5 from hP5) (.slice sa sn sc))
            have HC6 := hide (((unhide HC2).ch hA5 (by omega)).ch (Ch.set (Q := fun b => b = P) w5 rfl 0 (.slice sa sn sc)) (by omega))
            have HO6 := hide (OwnFu.ch (Ch.set (Q := fun b => b = P) w5 rfl 0 (.slice sa sn sc)) (fun g h1 h2 h => by omega) hO5)
            have HH6 := hide ((((unhide HH).trans (unhide HQ) (fun x h1 h => by rcases h with h | h; exact Or.inl h; omega)).trans hA5 (fun x h1 h => by omega)).trans (Ch.set (Q := two R P) w5 (Or.inr rfl) 0 (.slice sa sn sc)) fun _ _ h => h)
            clear hown' hgrow hG5 hA5 hP5 cP cF HOW HNW HN1 HM1 HM2b HM3 hO5
            go_wp2
            go_roundw
            case rel => exact ⟨j + 1, l ++ [(⟨t, pa, sl, rx == 1, cd⟩, .slice va vn vc)], d, _, by omega, by go_num, by rw [List.length_append, unhide HLJ]; rfl, by rw [List.map_append]; exact cMany_step (unhide HM) hlt (unhide HBF) (unhide EE), unhide HP6, unhide HC6, unhide HO6, unhide HH6⟩
            case measure => simp [intOf]; omega
          · clear he
            go_wp2_with (at_builtin; refine wpList_append_own _ rfl _ _ 22 rfl W1.heap.size 51 i0 (.agg #[.string ⟨#[]⟩, .int .i64 0, .int .i64 0, .bool false, .slice none 0 0]) 5 64 Tryd.underlying22 hi0 hz0 hz1 hz2 rfl (by decide) u1 l.length (l.flatMap fuF) rfl (unhide HOW).1 ⟨wr.heap.size, 0, none⟩ 1 1 (fuF (⟨t, pa, sl, rx == 1, cd⟩, .slice va vn vc)) rfl rfl (unhide HNW) (unhide HN1) (unhide HM1) (unhide HM2b) (unhide HM3) ?_)
            intro v' w5 hown' hgrow _
            obtain ⟨sa, sn, sc, rfl⟩ := own_form hown'
            have hO5 := (unhide HOW).snoc (x := (⟨t, pa, sl, rx == 1, cd⟩, .slice va vn vc)) (unhide HVW) hown' hgrow
            have hG5 : Ch (fun b => W1.heap.size ≤ b) _ w5 := Ch.of_grown hgrow (fun g e => (own_in (unhide HOW).1 e).1)
            have hA5 := (Ch.alloc (Q := fun b => W1.heap.size ≤ b) wr (.cells #[.string t, .int .i64 pa, .int .i64 sl, .bool (rx == 1), .slice va vn vc] 51)).trans hG5 fun _ _ h => h
            have hP5 := (unhide HPq).ch hA5 (by omega)
            have cP5 := hP5.c4
            have HP6 := hide (PB.set0 (show PB P _ _ _ mn w5 from hP5) (.slice sa sn sc))
            have HC6 := hide (((unhide HC2).ch hA5 (by omega)).ch (Ch.set (Q := fun b => b = P) w5 rfl 0 (.slice sa sn sc)) (by omega))
            have HO6 := hide (OwnFu.ch (Ch.set (Q := fun b => b = P) w5 rfl 0 (.slice sa sn sc)) (fun g h1 h2 h => by omega) hO5)
            have HH6 := hide ((((unhide HH).trans (unhide HQ) (fun x h1 h => by rcases h with h | h; exact Or.inl h; omega)).trans hA5 (fun x h1 h => by omega)).trans (Ch.set (Q := two R P) w5 (Or.inr rfl) 0 (.slice sa sn sc)) fun _ _ h => h)
            clear hown' hgrow hG5 hA5 hP5 cP cF HOW HNW HN1 HM1 HM2b HM3 hO5
            go_wp2
            go_roundw
            case rel => exact ⟨j + 1, l ++ [(⟨t, pa, sl, rx == 1, cd⟩, .slice va vn vc)], d, _, by omega, by go_num, by rw [List.length_append, unhide HLJ]; rfl, by rw [List.map_append]; exact cMany_step (unhide HM) hlt (unhide HBF) (unhide EE), unhide HP6, unhide HC6, unhide HO6, unhide HH6⟩
            case measure => simp [intOf]; omega
    · have he : n1 ≤ j ∨ c.b = true := by
        by_cases h1 : j < n1
        · right
          cases hd : c.b
          · exact absurd ⟨h1, hd⟩ hlt
          · rfl
        · left; omega
      have hend := cMany_end (unhide HM) he
      have EB2 := hide ((unhide EB).trans hend)
      obtain ⟨n2, en2, hn2⟩ := cNum_small (k := 4) (c := c) (by omega)
      obtain ⟨c4, e4⟩ : ∃ e, cNum 4 c = ((n2 : Int), e) := ⟨_, by rw [← en2]⟩
      have EC := hide (show cC c0 = cMany cPrint n2 c4 by unfold cC; rw [unhide EB2]; unfold cList; rw [e4]; rfl)
      have G4 := hide e4
      clear hend e4 en2 hlt
      rcases (show n1 ≤ j ∨ (j < n1 ∧ c.b = true) by rcases he with h | h; exact Or.inl h; by_cases h1 : j < n1; exact Or.inr ⟨h1, h⟩; exact Or.inl (by omega)) with hx | ⟨hx, hxb⟩
      rotate_left
      all_goals
        try rw [hxb] at cR
        try clear hxb
        clear he
        go_wp2_with fail
        refine (cnum_is (unhide HCr) 4 rfl (by omega) (unhide G4)).mono ?_
        rintro e W2 ⟨rfl, hC, hK⟩
        have HCa := hide hC
        have HPa := hide (show PB P u1 (.slice none 0 0) (.slice none 0 0) mn W2 from BX.keep (unhide HPr) hK (by omega))
        have HOa := hide (OwnFu.ch (Ch.of_keep hK) (fun g h1 h2 h => by omega) (unhide HO))
        have HHa := hide ((unhide HH).trans (Ch.of_keep hK) fun _ _ h => Or.inl h)
        have hRW2 : R < W2.heap.size := hC.lt
        clear hC hK HCr HPr HO HH cR
        obtain ⟨wl1, rfl⟩ : ∃ x, x = wr := ⟨_, rfl⟩
        go_wp2
        go_loopw [12] (fun i wr => ∃ (j : Nat) (q : List (List It × Value)) (c : Cs) (u2 : Value), j ≤ n2 ∧ i = .int .i64 j ∧ q.length = j ∧ cMany cPrint n2 c4 = (q.map Prod.fst ++ (cMany cPrint (n2 - j) c).1, (cMany cPrint (n2 - j) c).2) ∧
          PB P u1 u2 (.slice none 0 0) mn wr ∧ Cu R s c wr ∧ OwnPr wr W2.heap.size u2 q ∧ Ch (two R P) W2 wr) (fun i _ => n2 - (intOf i).toNat)
        case atStart => exact ⟨0, [], c4, _, Nat.zero_le _, rfl, rfl, rfl, unhide HPa, unhide HCa, ⟨World.ownsRow_nil _ _ _ _, fun _ h => by cases h⟩, Ch.refl _ _⟩
        case round =>
          obtain ⟨j2, q, c5, u2, hj2, rfl, hlj2, hM, hP, hC, hO, hH⟩ := hrel
          have hsz2 := hH.size
          obtain ⟨k0, hk0, hk1, hk2, hk3⟩ := hC
          have cR := cells3 hk3
          have hC : Cu R s c5 wr := ⟨k0, hk0, hk1, hk2, hk3⟩
          have HMb := hide hM
          have HOb := hide hO
          have HHb := hide hH
          have HCb := hide hC
          have HPb := hide hP
          have HLJ2 := hide hlj2
          clear hM hO hH hC hk0 hk1 hk2 hk3 hP hlj2
          by_cases hlt : j2 < n2 ∧ c5.b = false
          · obtain ⟨hlt, hbf⟩ := hlt
            rw [hbf] at cR
            have HBF := hide hbf
            clear hbf
            obtain ⟨wq, rfl⟩ : ∃ x, x = wr := ⟨_, rfl⟩
            obtain ⟨m, em, hm⟩ := cNum_small (k := 1) (c := c5) (by omega)
            obtain ⟨d5, g5⟩ : ∃ c, cNum 1 c5 = ((m : Int), c) := ⟨_, by rw [← em]⟩
            have EF := hide (show cPrint c5 = cMany cItem m d5 by unfold cPrint cList; rw [g5]; rfl)
            have K5 := hide g5
            clear em g5
            go_wp2_with fail
            refine (cnum_is (unhide HCb) 1 rfl (by omega) (unhide K5)).mono ?_
            rintro e Wi ⟨rfl, hC, hK⟩
            have HCi := hide hC
            have HKi := hide hK
            have hRi : R < Wi.heap.size := hC.lt
            have hsi := hK.size
            clear hC hK
            go_wp2
            go_loopw [13, 15] (fun v i wr => ∃ (k : Nat) (it : List It) (d : Cs) (u : Value), u = v ∧ k ≤ m ∧ i = .int .i64 k ∧ it.length = k ∧ cMany cItem m d5 = (it ++ (cMany cItem (m - k) d).1, (cMany cItem (m - k) d).2) ∧
              Cu R s d wr ∧ OwnIt wr Wi.heap.size u it ∧ Ch (fun b => b = R) Wi wr) (fun _ i _ => m - (intOf i).toNat)
            case atStart => exact ⟨0, [], d5, _, rfl, Nat.zero_le _, rfl, rfl, rfl, unhide HCi, World.ownsRow_nil _ _ _ _, Ch.refl _ _⟩
            case round =>
              obtain ⟨k, it, d, v, hv, hk, rfl, hck, hM2, hC2, hO2, hH2⟩ := hrel
              subst hv
              have hsz3 := hH2.size
              obtain ⟨k0, hk0, hk1, hk2, hk3⟩ := hC2
              have cR2 := cells3 hk3
              have hC2 : Cu R s d wr := ⟨k0, hk0, hk1, hk2, hk3⟩
              have HM2 := hide hM2
              have HO2 := hide hO2
              have HH2 := hide hH2
              have HC2 := hide hC2
              have HCK := hide hck
              clear hM2 hO2 hH2 hC2 hk0 hk1 hk2 hk3 hck cR
              by_cases hlt2 : k < m ∧ d.b = false
              · obtain ⟨hlt2, hbf⟩ := hlt2
                rw [hbf] at cR2
                have HBF2 := hide hbf
                clear hbf
                obtain ⟨x1, f1, g1⟩ : ∃ x e, cNum 1 d = (x, e) := ⟨_, _, rfl⟩
                have J1 := hide g1
                obtain ⟨X, hX⟩ : ∃ X, wr.heap.size = X := ⟨_, rfl⟩
                have hXR : X ≠ R := by omega
                have hXw : wr.heap.size ≤ X := by omega
                have HXX := hide hX
                have HY0 := hide (show BX (wr.alloc (.cells #[.int .i64 0, .string ⟨#[]⟩] 64)) X #[.int .i64 0, .string ⟨#[]⟩] 64 by rw [← hX]; exact BX.new wr _ _)
                have HD0 := hide ((unhide HC2).below (below1 wr (.cells #[.int .i64 0, .string ⟨#[]⟩] 64)))
                clear g1 hX
                go_wp2_with fail
                rw [unhide HXX]
                refine (cnum_is (unhide HD0) 1 rfl (by omega) (unhide J1)).mono ?_
                rintro e v1 ⟨rfl, hC, hK⟩
                have hX := (unhide HY0).keep hK hXR
                have cX := hX.c2
                have hZ := boxed hX hXR hC hK (i := 0) (cs' := #[.int .i64 x1, .string ⟨#[]⟩]) (.int .i64 x1) rfl
                have cY := hZ.1.c2
                have hCh := (Ch.alloc (Q := two R X) wr (.cells #[.int .i64 0, .string ⟨#[]⟩] 64)).trans hZ.2.2 fun _ _ h => h
                have HZ := hide hZ
                have HCH := hide hCh
                clear hX hC hK hZ hCh
                by_cases hx1 : x1 = 1
                · subst hx1
                  obtain ⟨t, f2, g2⟩ : ∃ x e, cText f1 = (x, e) := ⟨_, _, rfl⟩
                  have EI := hide (show cItem d = (⟨1, t⟩, f2) by unfold cItem; simp only [unhide J1, g2, if_true])
                  have J2 := hide g2
                  clear g2
                  go_wp2_with fail
                  refine (ctext_is (unhide HZ).2.1 (unhide J2)).mono ?_
                  rintro e v2 ⟨rfl, hC, hK⟩
                  have hX := (unhide HZ).1.keep hK hXR
                  clear cX cY
                  have cX := hX.c2
                  have hZ2 := boxed hX hXR hC hK (i := 1) (cs' := #[.int .i64 1, .string t]) (.string t) rfl
                  have cY := hZ2.1.c2
                  have hCh2 := (unhide HCH).trans hZ2.2.2 fun _ _ h => h
                  have HZ2 := hide hZ2
                  have HCH2 := hide hCh2
                  have HOW := hide (show ((v2.setCell ⟨X, 1, none⟩ (.string t)).alloc (.cells #[.int .i64 1, .string t] 64)).ownsRow Wi.heap.size 64 2 v it.length (it.flatMap itF) from World.ownsRow.alloc (own_ch (unhide HO2) hCh2 (fun g h1 h2 h => by rcases h with h | h <;> omega)) _)
                  have HNW := hide (show ∀ (j : Nat) (u : Value), (itF ⟨1, t⟩)[j]? = some u → ((v2.setCell ⟨X, 1, none⟩ (.string t)).alloc (.cells #[.int .i64 1, .string t] 64)).cell? ((⟨v2.heap.size, 0, none⟩ : Addr).add j) = some u from row_new _ (itF ⟨1, t⟩) 64 (by rw [size_set]))
                  have HN1 := hide (show ∀ u ∈ itF ⟨1, t⟩, u.oneCell' = true by intro u hu; simp only [itF, List.mem_cons, List.not_mem_nil, or_false] at hu; rcases hu with rfl | rfl <;> rfl)
                  have HM1 := hide (show it.length + 1 ≤ maxLen by rw [unhide HCK]; unfold maxLen; omega)
                  have HM2b := hide (show (it.length + 1) * 24 ≤ 140737488355328 by rw [unhide HCK]; omega)
                  have HM3 := hide (show Wi.heap.size ≤ ((v2.setCell ⟨X, 1, none⟩ (.string t)).alloc (.cells #[.int .i64 1, .string t] 64)).heap.size by have := hCh2.size; rw [World.size_alloc]; omega)
                  clear hX hC hK hZ2 hCh2
                  obtain ⟨i0, hi0, hz0, hz1, hz2⟩ := nf_open nfIt
                  go_wp2_with (at_builtin; refine wpList_append_own _ rfl _ _ 61 rfl Wi.heap.size 64 i0 (.agg #[.int .i64 0, .string ⟨#[]⟩]) 2 24 Tryd.underlying61 hi0 hz0 hz1 hz2 rfl (by decide) v it.length (it.flatMap itF) rfl (unhide HOW) ⟨v2.heap.size, 0, none⟩ 1 1 (itF ⟨1, t⟩) rfl rfl (unhide HNW) (unhide HN1) (unhide HM1) (unhide HM2b) (unhide HM3) ?_)
                  intro v' w5 hown' hgrow _
                  obtain ⟨sa, sn, sc, rfl⟩ := own_form hown'
                  have hG5 : Ch (fun b => Wi.heap.size ≤ b) _ w5 := Ch.of_grown hgrow (fun g e => (own_in (unhide HOW) e).1)
                  have hA5 := (Ch.alloc (Q := fun b => Wi.heap.size ≤ b) (v2.setCell ⟨X, 1, none⟩ (.string t)) (.cells #[.int .i64 1, .string t] 64)).trans hG5 fun _ _ h => h
                  have HC6 := hide ((unhide HZ2).2.1.ch hA5 (by omega))
                  have HO6 := hide (show OwnIt w5 Wi.heap.size (.slice sa sn sc) (it ++ [⟨1, t⟩]) from own_snoc (f := itF) hown')
                  have HH6 := hide (((unhide HH2).trans (unhide HCH2) (fun x h1 h => by rcases h with h | h; exact h; omega)).trans hA5 (fun x h1 h => by omega))
                  clear hown' hgrow hG5 hA5 cX cY HOW HNW HN1 HM1 HM2b HM3
                  go_wp2
                  go_roundw
                  case rel => exact ⟨k + 1, it ++ [⟨1, t⟩], f2, _, rfl, by omega, by go_num, by rw [List.length_append, unhide HCK]; rfl, cMany_step (unhide HM2) hlt2 (unhide HBF2) (unhide EI), unhide HC6, unhide HO6, unhide HH6⟩
                  case measure => simp [intOf]; omega
                · have EI := hide (show cItem d = (⟨x1, ⟨#[]⟩⟩, f1) by unfold cItem; simp only [unhide J1, if_neg hx1])
                  have q1 : (x1 == 1) = false := by simpa using hx1
                  clear hx1
                  have HOW := hide (show ((v1.setCell ⟨X, 0, none⟩ (.int .i64 x1)).alloc (.cells #[.int .i64 x1, .string ⟨#[]⟩] 64)).ownsRow Wi.heap.size 64 2 v it.length (it.flatMap itF) from World.ownsRow.alloc (own_ch (unhide HO2) (unhide HCH) (fun g h1 h2 h => by rcases h with h | h <;> omega)) _)
                  have HNW := hide (show ∀ (j : Nat) (u : Value), (itF ⟨x1, ⟨#[]⟩⟩)[j]? = some u → ((v1.setCell ⟨X, 0, none⟩ (.int .i64 x1)).alloc (.cells #[.int .i64 x1, .string ⟨#[]⟩] 64)).cell? ((⟨v1.heap.size, 0, none⟩ : Addr).add j) = some u from row_new _ (itF ⟨x1, ⟨#[]⟩⟩) 64 (by rw [size_set]))
                  have HN1 := hide (show ∀ u ∈ itF ⟨x1, ⟨#[]⟩⟩, u.oneCell' = true by intro u hu; simp only [itF, List.mem_cons, List.not_mem_nil, or_false] at hu; rcases hu with rfl | rfl <;> rfl)
                  have HM1 := hide (show it.length + 1 ≤ maxLen by rw [unhide HCK]; unfold maxLen; omega)
                  have HM2b := hide (show (it.length + 1) * 24 ≤ 140737488355328 by rw [unhide HCK]; omega)
                  have HM3 := hide (show Wi.heap.size ≤ ((v1.setCell ⟨X, 0, none⟩ (.int .i64 x1)).alloc (.cells #[.int .i64 x1, .string ⟨#[]⟩] 64)).heap.size by have := (unhide HCH).size; rw [World.size_alloc]; omega)
                  obtain ⟨i0, hi0, hz0, hz1, hz2⟩ := nf_open nfIt
                  go_wp2_with (at_builtin; refine wpList_append_own _ rfl _ _ 61 rfl Wi.heap.size 64 i0 (.agg #[.int .i64 0, .string ⟨#[]⟩]) 2 24 Tryd.underlying61 hi0 hz0 hz1 hz2 rfl (by decide) v it.length (it.flatMap itF) rfl (unhide HOW) ⟨v1.heap.size, 0, none⟩ 1 1 (itF ⟨x1, ⟨#[]⟩⟩) rfl rfl (unhide HNW) (unhide HN1) (unhide HM1) (unhide HM2b) (unhide HM3) ?_)
                  intro v' w5 hown' hgrow _
                  obtain ⟨sa, sn, sc, rfl⟩ := own_form hown'
                  have hG5 : Ch (fun b => Wi.heap.size ≤ b) _ w5 := Ch.of_grown hgrow (fun g e => (own_in (unhide HOW) e).1)
                  have hA5 := (Ch.alloc (Q := fun b => Wi.heap.size ≤ b) (v1.setCell ⟨X, 0, none⟩ (.int .i64 x1)) (.cells #[.int .i64 x1, .string ⟨#[]⟩] 64)).trans hG5 fun _ _ h => h
                  have HC6 := hide ((unhide HZ).2.1.ch hA5 (by omega))
                  have HO6 := hide (show OwnIt w5 Wi.heap.size (.slice sa sn sc) (it ++ [⟨x1, ⟨#[]⟩⟩]) from own_snoc (f := itF) hown')
                  have HH6 := hide (((unhide HH2).trans (unhide HCH) (fun x h1 h => by rcases h with h | h; exact h; omega)).trans hA5 (fun x h1 h => by omega))
                  clear hown' hgrow hG5 hA5 cX cY HOW HNW HN1 HM1 HM2b HM3
                  go_wp2
                  go_roundw
                  case rel => exact ⟨k + 1, it ++ [⟨x1, ⟨#[]⟩⟩], f1, _, rfl, by omega, by go_num, by rw [List.length_append, unhide HCK]; rfl, cMany_step (unhide HM2) hlt2 (unhide HBF2) (unhide EI), unhide HC6, unhide HO6, unhide HH6⟩
                  case measure => simp [intOf]; omega
              · have he : m ≤ k ∨ d.b = true := by
                  by_cases h1 : k < m
                  · right
                    cases hd : d.b
                    · exact absurd ⟨h1, hd⟩ hlt2
                    · rfl
                  · left; omega
                have EE := hide (show cPrint c5 = (it, d) by rw [unhide EF]; exact cMany_end (unhide HM2) he)
                have hQR := (Ch.of_keep (unhide HKi)).trans (unhide HH2) fun _ _ h => h
                have hQ := hQR.mono (Q' := two R P) fun _ _ h => Or.inl h
                have hPq := BX.ch (unhide HPb) hQR (by omega)
                have cP := hPq.c4
                have hOq := OwnPr.ch hQR (fun g h1 h2 h => by omega) (unhide HOb)
                have hVq := own_mono (unhide HO2) (B' := W2.heap.size) (by omega)
                obtain ⟨va, vn, vc, rfl⟩ := own_form (unhide HO2)
                have HOW := hide (show OwnPr (wr.alloc (.cells #[.slice va vn vc] 61)) W2.heap.size u2 q from OwnPr.ch (Ch.alloc (Q := fun _ => False) wr _) (fun g h1 h2 h => h) hOq)
                have HVW := hide (show OwnIt (wr.alloc (.cells #[.slice va vn vc] 61)) W2.heap.size (.slice va vn vc) it from OwnIt.ch (Ch.alloc (Q := fun _ => False) wr _) (fun g h1 h2 h => h) hVq)
                have HNW := hide (row_new wr [.slice va vn vc] 61 rfl)
                have HN1 := hide (show ∀ u ∈ [Value.slice va vn vc], u.oneCell' = true by intro u hu; simp only [List.mem_cons, List.not_mem_nil, or_false] at hu; subst hu; rfl)
                have HM1 := hide (show q.length + 1 ≤ maxLen by rw [unhide HLJ2]; unfold maxLen; omega)
                have HM2b := hide (show (q.length + 1) * 24 ≤ 140737488355328 by rw [unhide HLJ2]; omega)
                have HM3 := hide (show W2.heap.size ≤ (wr.alloc (.cells #[.slice va vn vc] 61)).heap.size by rw [World.size_alloc]; omega)
                have HPq := hide hPq
                have HQ := hide hQ
                clear hQ hPq hOq hVq hlt2 hQR
                rcases (show m ≤ k ∨ (k < m ∧ d.b = true) by rcases he with h | h; exact Or.inl h; by_cases h1 : k < m; exact Or.inr ⟨h1, h⟩; exact Or.inl (by omega)) with hx | ⟨hx, hxb⟩
                rotate_left
                all_goals
                  try rw [hxb] at cR2
                  try have HXB := hide hxb
                  try clear hxb
                  clear he
                  obtain ⟨i0, hi0, hz0, hz1, hz2⟩ := nf_open nfLi
                  go_wp2_with (at_builtin; refine wpList_append_own _ rfl _ _ 23 rfl W2.heap.size 61 i0 (.slice none 0 0) 1 24 Tryd.underlying23 hi0 hz0 hz1 hz2 rfl (by decide) u2 q.length (q.flatMap fun x => [x.2]) rfl ((unhide HOW).1) ⟨wr.heap.size, 0, none⟩ 1 1 ([.slice va vn vc]) rfl rfl (unhide HNW) (unhide HN1) (unhide HM1) (unhide HM2b) (unhide HM3) ?_)
                  intro v' w5 hown' hgrow _
                  obtain ⟨sa, sn, sc, rfl⟩ := own_form hown'
                  have hO5 := (unhide HOW).snoc (x := (it, .slice va vn vc)) (unhide HVW) hown' hgrow
                  have hG5 : Ch (fun b => W2.heap.size ≤ b) _ w5 := Ch.of_grown hgrow (fun g e => (own_in (unhide HOW).1 e).1)
                  have hA5 := (Ch.alloc (Q := fun b => W2.heap.size ≤ b) wr (.cells #[.slice va vn vc] 61)).trans hG5 fun _ _ h => h
                  have hP5 := (unhide HPq).ch hA5 (by omega)
                  have cP5 := hP5.c4
                  have HP6 := hide (PB.set1 (show PB P _ _ _ mn w5 from hP5) (.slice sa sn sc))
                  have HC6 := hide (((unhide HC2).ch hA5 (by omega)).ch (Ch.set (Q := fun b => b = P) w5 rfl 1 (.slice sa sn sc)) (by omega))
                  have HO6 := hide (OwnPr.ch (Ch.set (Q := fun b => b = P) w5 rfl 1 (.slice sa sn sc)) (fun g h1 h2 h => by omega) hO5)
                  have HH6 := hide ((((unhide HHb).trans (unhide HQ) (fun x h1 h => h)).trans hA5 (fun x h1 h => by omega)).trans (Ch.set (Q := two R P) w5 (Or.inr rfl) 1 (.slice sa sn sc)) fun _ _ h => h)
                  clear hown' hgrow hG5 hA5 hP5 cP HOW HNW HN1 HM1 HM2b HM3 hO5
                  go_wp2
                  go_roundw
                  case rel => exact ⟨j2 + 1, q ++ [(it, .slice va vn vc)], d, _, by omega, by go_num, by rw [List.length_append, unhide HLJ2]; rfl, by rw [List.map_append]; exact cMany_step (unhide HMb) hlt (unhide HBF) (unhide EE), unhide HP6, unhide HC6, unhide HO6, unhide HH6⟩
                  case measure => simp [intOf]; omega
          · have he : n2 ≤ j2 ∨ c5.b = true := by
              by_cases h1 : j2 < n2
              · right
                cases hd : c5.b
                · exact absurd ⟨h1, hd⟩ hlt
                · rfl
              · left; omega
            have hend := cMany_end (unhide HMb) he
            have EC2 := hide ((unhide EC).trans hend)
            obtain ⟨n3, en3, hn3⟩ := cNum_small (k := 4) (c := c5) (by omega)
            obtain ⟨c6, e6⟩ : ∃ e, cNum 4 c5 = ((n3 : Int), e) := ⟨_, by rw [← en3]⟩
            have ED := hide (show cD c0 = cMany cArm n3 c6 by unfold cD; rw [unhide EC2]; unfold cList; rw [e6]; rfl)
            have G6 := hide e6
            clear hend e6 en3 hlt
            rcases (show n2 ≤ j2 ∨ (j2 < n2 ∧ c5.b = true) by rcases he with h | h; exact Or.inl h; by_cases h1 : j2 < n2; exact Or.inr ⟨h1, h⟩; exact Or.inl (by omega)) with hx | ⟨hx, hxb⟩
            rotate_left
            all_goals
              try rw [hxb] at cR
              try have HXB := hide hxb
              try clear hxb
              clear he
              go_wp2_with fail
              refine (cnum_is (unhide HCb) 4 rfl (by omega) (unhide G6)).mono ?_
              rintro e W3 ⟨rfl, hC, hK⟩
              have HCc := hide hC
              have hH3 := (unhide HHb).trans (Ch.of_keep hK) fun _ _ h => Or.inl h
              have HPc := hide (show PB P u1 u2 (.slice none 0 0) mn W3 from BX.keep (unhide HPb) hK (by omega))
              have HOc := hide (OwnPr.ch (Ch.of_keep hK) (fun g h1 h2 h => by omega) (unhide HOb))
              have HFc := hide (OwnFu.ch hH3 (fun g h1 h2 h => by rcases h with h | h <;> omega) (unhide HOa))
              have HHc := hide ((unhide HHa).trans hH3 fun _ _ h => h)
              have hRW3 : R < W3.heap.size := hC.lt
              have hW23 := hH3.size
              clear hC hK HCb HPb HOb HHb HHa HOa HPa HCa cR hH3
              obtain ⟨wl2, rfl⟩ : ∃ x, x = wr := ⟨_, rfl⟩
              go_wp2
              go_loopw [17] (fun i wr => ∃ (j : Nat) (r : List (List Bool × Value)) (c : Cs) (u3 : Value), j ≤ n3 ∧ i = .int .i64 j ∧ r.length = j ∧ cMany cArm n3 c6 = (r.map Prod.fst ++ (cMany cArm (n3 - j) c).1, (cMany cArm (n3 - j) c).2) ∧
                PB P u1 u2 u3 mn wr ∧ Cu R s c wr ∧ OwnAr wr W3.heap.size u3 r ∧ Ch (two R P) W3 wr) (fun i _ => n3 - (intOf i).toNat)
              case atStart => exact ⟨0, [], c6, _, Nat.zero_le _, rfl, rfl, rfl, unhide HPc, unhide HCc, ⟨World.ownsRow_nil _ _ _ _, fun _ h => by cases h⟩, Ch.refl _ _⟩
              case round =>
                obtain ⟨j3, r, c7, u3, hj3, rfl, hlj3, hM, hP, hC, hO, hH⟩ := hrel
                have hsz3 := hH.size
                obtain ⟨k0, hk0, hk1, hk2, hk3⟩ := hC
                have cR := cells3 hk3
                have hC : Cu R s c7 wr := ⟨k0, hk0, hk1, hk2, hk3⟩
                have HMd := hide hM
                have HOd := hide hO
                have HHd := hide hH
                have HCd := hide hC
                have HPd := hide hP
                have HLJ3 := hide hlj3
                clear hM hO hH hC hk0 hk1 hk2 hk3 hP hlj3
                by_cases hlt : j3 < n3 ∧ c7.b = false
                · obtain ⟨hlt, hbf⟩ := hlt
                  rw [hbf] at cR
                  have HBF := hide hbf
                  clear hbf
                  obtain ⟨wq, rfl⟩ : ∃ x, x = wr := ⟨_, rfl⟩
                  obtain ⟨m, em, hm⟩ := cNum_small (k := 1) (c := c7) (by omega)
                  obtain ⟨d5, g5⟩ : ∃ c, cNum 1 c7 = ((m : Int), c) := ⟨_, by rw [← em]⟩
                  have EF := hide (show cArm c7 = cMany cFlag m d5 by unfold cArm cList; rw [g5]; rfl)
                  have K5 := hide g5
                  clear em g5
                  go_wp2_with fail
                  refine (cnum_is (unhide HCd) 1 rfl (by omega) (unhide K5)).mono ?_
                  rintro e Wi ⟨rfl, hC, hK⟩
                  have HCi := hide hC
                  have HKi := hide hK
                  have hRi : R < Wi.heap.size := hC.lt
                  have hsi := hK.size
                  clear hC hK
                  go_wp2
                  go_loopw [18, 20] (fun v i wr => ∃ (k : Nat) (it : List Bool) (d : Cs) (u : Value), u = v ∧ k ≤ m ∧ i = .int .i64 k ∧ it.length = k ∧ cMany cFlag m d5 = (it ++ (cMany cFlag (m - k) d).1, (cMany cFlag (m - k) d).2) ∧
                    Cu R s d wr ∧ OwnBo wr Wi.heap.size u it ∧ Ch (fun b => b = R) Wi wr) (fun _ i _ => m - (intOf i).toNat)
                  case atStart => exact ⟨0, [], d5, _, rfl, Nat.zero_le _, rfl, rfl, rfl, unhide HCi, World.ownsRow_nil _ _ _ _, Ch.refl _ _⟩
                  case round =>
                    obtain ⟨k, it, d, v, hv, hk, rfl, hck, hM2, hC2, hO2, hH2⟩ := hrel
                    subst hv
                    have hsz3b := hH2.size
                    obtain ⟨k0, hk0, hk1, hk2, hk3⟩ := hC2
                    have cR2 := cells3 hk3
                    have hC2 : Cu R s d wr := ⟨k0, hk0, hk1, hk2, hk3⟩
                    have HM2 := hide hM2
                    have HO2 := hide hO2
                    have HH2 := hide hH2
                    have HC2 := hide hC2
                    have HCK := hide hck
                    clear hM2 hO2 hH2 hC2 hk0 hk1 hk2 hk3 hck cR
                    by_cases hlt2 : k < m ∧ d.b = false
                    · obtain ⟨hlt2, hbf⟩ := hlt2
                      rw [hbf] at cR2
                      have HBF2 := hide hbf
                      clear hbf
                      obtain ⟨x1, f1, g1⟩ : ∃ x e, cNum 1 d = (x, e) := ⟨_, _, rfl⟩
                      have EI := hide (show cFlag d = (x1 == 1, f1) by unfold cFlag; rw [g1])
                      have J1 := hide g1
                      clear g1
                      go_wp2_with fail
                      refine (cnum_is (unhide HC2) 1 rfl (by omega) (unhide J1)).mono ?_
                      rintro e v1 ⟨rfl, hC, hK⟩
                      have HC1 := hide hC
                      have HK1 := hide hK
                      have HOW := hide (show (v1.alloc (.cells #[.bool (x1 == 1)] 4)).ownsRow Wi.heap.size 4 1 v it.length (it.flatMap boF) from World.ownsRow.alloc (own_ch (unhide HO2) (Ch.of_keep hK) (fun g h1 h2 h => by omega)) _)
                      have HNW := hide (show ∀ (j : Nat) (u : Value), (boF (x1 == 1))[j]? = some u → (v1.alloc (.cells #[.bool (x1 == 1)] 4)).cell? ((⟨v1.heap.size, 0, none⟩ : Addr).add j) = some u from row_new _ (boF (x1 == 1)) 4 rfl)
                      have HN1 := hide (show ∀ u ∈ boF (x1 == 1), u.oneCell' = true by intro u hu; simp only [boF, List.mem_cons, List.not_mem_nil, or_false] at hu; subst hu; rfl)
                      have HM1 := hide (show it.length + 1 ≤ maxLen by rw [unhide HCK]; unfold maxLen; omega)
                      have HM2b := hide (show (it.length + 1) * 1 ≤ 140737488355328 by rw [unhide HCK]; omega)
                      have HM3 := hide (show Wi.heap.size ≤ (v1.alloc (.cells #[.bool (x1 == 1)] 4)).heap.size by have := hK.size; rw [World.size_alloc]; omega)
                      clear hC hK
                      obtain ⟨i0, hi0, hz0, hz1, hz2⟩ := nf_open nfBo
                      go_wp2_with (at_builtin; refine wpList_append_own _ rfl _ _ 43 rfl Wi.heap.size 4 i0 (.bool false) 1 1 Tryd.underlying43 hi0 hz0 hz1 hz2 rfl (by decide) v it.length (it.flatMap boF) rfl (unhide HOW) ⟨v1.heap.size, 0, none⟩ 1 1 (boF (x1 == 1)) rfl rfl (unhide HNW) (unhide HN1) (unhide HM1) (unhide HM2b) (unhide HM3) ?_)
                      intro v' w5 hown' hgrow _
                      obtain ⟨sa, sn, sc, rfl⟩ := own_form hown'
                      have hG5 : Ch (fun b => Wi.heap.size ≤ b) _ w5 := Ch.of_grown hgrow (fun g e => (own_in (unhide HOW) e).1)
                      have hA5 := (Ch.alloc (Q := fun b => Wi.heap.size ≤ b) v1 (.cells #[.bool (x1 == 1)] 4)).trans hG5 fun _ _ h => h
                      have HC6 := hide ((unhide HC1).ch hA5 (by omega))
                      have HO6 := hide (show OwnBo w5 Wi.heap.size (.slice sa sn sc) (it ++ [x1 == 1]) from own_snoc (f := boF) hown')
                      have HH6 := hide (((unhide HH2).trans (Ch.of_keep (unhide HK1)) (fun x h1 h => h)).trans hA5 (fun x h1 h => by omega))
                      clear hown' hgrow hG5 hA5 HOW HNW HN1 HM1 HM2b HM3
                      go_wp2
                      go_roundw
                      case rel => exact ⟨k + 1, it ++ [x1 == 1], f1, _, rfl, by omega, by go_num, by rw [List.length_append, unhide HCK]; rfl, cMany_step (unhide HM2) hlt2 (unhide HBF2) (unhide EI), unhide HC6, unhide HO6, unhide HH6⟩
                      case measure => simp [intOf]; omega
                    · have he : m ≤ k ∨ d.b = true := by
                        by_cases h1 : k < m
                        · right
                          cases hd : d.b
                          · exact absurd ⟨h1, hd⟩ hlt2
                          · rfl
                        · left; omega
                      have EE := hide (show cArm c7 = (it, d) by rw [unhide EF]; exact cMany_end (unhide HM2) he)
                      have hQR := (Ch.of_keep (unhide HKi)).trans (unhide HH2) fun _ _ h => h
                      have hQ := hQR.mono (Q' := two R P) fun _ _ h => Or.inl h
                      have hPq := BX.ch (unhide HPd) hQR (by omega)
                      have cP := hPq.c4
                      have hOq := OwnAr.ch hQR (fun g h1 h2 h => by omega) (unhide HOd)
                      have hVq := own_mono (unhide HO2) (B' := W3.heap.size) (by omega)
                      obtain ⟨va, vn, vc, rfl⟩ := own_form (unhide HO2)
                      have HOW := hide (show OwnAr (wr.alloc (.cells #[.slice va vn vc] 43)) W3.heap.size u3 r from OwnAr.ch (Ch.alloc (Q := fun _ => False) wr _) (fun g h1 h2 h => h) hOq)
                      have HVW := hide (show OwnBo (wr.alloc (.cells #[.slice va vn vc] 43)) W3.heap.size (.slice va vn vc) it from OwnBo.ch (Ch.alloc (Q := fun _ => False) wr _) (fun g h1 h2 h => h) hVq)
                      have HNW := hide (row_new wr [.slice va vn vc] 43 rfl)
                      have HN1 := hide (show ∀ u ∈ [Value.slice va vn vc], u.oneCell' = true by intro u hu; simp only [List.mem_cons, List.not_mem_nil, or_false] at hu; subst hu; rfl)
                      have HM1 := hide (show r.length + 1 ≤ maxLen by rw [unhide HLJ3]; unfold maxLen; omega)
                      have HM2b := hide (show (r.length + 1) * 24 ≤ 140737488355328 by rw [unhide HLJ3]; omega)
                      have HM3 := hide (show W3.heap.size ≤ (wr.alloc (.cells #[.slice va vn vc] 43)).heap.size by rw [World.size_alloc]; omega)
                      have HPq := hide hPq
                      have HQ := hide hQ
                      clear hQ hPq hOq hVq hlt2 hQR
                      rcases (show m ≤ k ∨ (k < m ∧ d.b = true) by rcases he with h | h; exact Or.inl h; by_cases h1 : k < m; exact Or.inr ⟨h1, h⟩; exact Or.inl (by omega)) with hx | ⟨hx, hxb⟩
                      rotate_left
                      all_goals
                        try rw [hxb] at cR2
                        try have HXB := hide hxb
                        try clear hxb
                        clear he
                        obtain ⟨i0, hi0, hz0, hz1, hz2⟩ := nf_open nfLb
                        go_wp2_with (at_builtin; refine wpList_append_own _ rfl _ _ 24 rfl W3.heap.size 43 i0 (.slice none 0 0) 1 24 Tryd.underlying24 hi0 hz0 hz1 hz2 rfl (by decide) u3 r.length (r.flatMap fun x => [x.2]) rfl ((unhide HOW).1) ⟨wr.heap.size, 0, none⟩ 1 1 ([.slice va vn vc]) rfl rfl (unhide HNW) (unhide HN1) (unhide HM1) (unhide HM2b) (unhide HM3) ?_)
                        intro v' w5 hown' hgrow _
                        obtain ⟨sa, sn, sc, rfl⟩ := own_form hown'
                        have hO5 := (unhide HOW).snoc (x := (it, .slice va vn vc)) (unhide HVW) hown' hgrow
                        have hG5 : Ch (fun b => W3.heap.size ≤ b) _ w5 := Ch.of_grown hgrow (fun g e => (own_in (unhide HOW).1 e).1)
                        have hA5 := (Ch.alloc (Q := fun b => W3.heap.size ≤ b) wr (.cells #[.slice va vn vc] 43)).trans hG5 fun _ _ h => h
                        have hP5 := (unhide HPq).ch hA5 (by omega)
                        have cP5 := hP5.c4
                        have HP6 := hide (PB.set2 (show PB P _ _ _ mn w5 from hP5) (.slice sa sn sc))
                        have HC6 := hide (((unhide HC2).ch hA5 (by omega)).ch (Ch.set (Q := fun b => b = P) w5 rfl 2 (.slice sa sn sc)) (by omega))
                        have HO6 := hide (OwnAr.ch (Ch.set (Q := fun b => b = P) w5 rfl 2 (.slice sa sn sc)) (fun g h1 h2 h => by omega) hO5)
                        have HH6 := hide ((((unhide HHd).trans (unhide HQ) (fun x h1 h => h)).trans hA5 (fun x h1 h => by omega)).trans (Ch.set (Q := two R P) w5 (Or.inr rfl) 2 (.slice sa sn sc)) fun _ _ h => h)
                        clear hown' hgrow hG5 hA5 hP5 cP HOW HNW HN1 HM1 HM2b HM3 hO5
                        go_wp2
                        go_roundw
                        case rel => exact ⟨j3 + 1, r ++ [(it, .slice va vn vc)], d, _, by omega, by go_num, by rw [List.length_append, unhide HLJ3]; rfl, by rw [List.map_append]; exact cMany_step (unhide HMd) hlt (unhide HBF) (unhide EE), unhide HP6, unhide HC6, unhide HO6, unhide HH6⟩
                        case measure => simp [intOf]; omega
                · have he : n3 ≤ j3 ∨ c7.b = true := by
                    by_cases h1 : j3 < n3
                    · right
                      cases hd : c7.b
                      · exact absurd ⟨h1, hd⟩ hlt
                      · rfl
                    · left; omega
                  have hend := cMany_end (unhide HMd) he
                  have ED2 := hide ((unhide ED).trans hend)
                  have hAw : PB A (.slice none 0 0) (.slice none 0 0) (.slice none 0 0) 0 wr := (((unhide HA).ch (unhide HH1) (fun h => by rcases h with h | h <;> omega)).ch (unhide HHc) (fun h => by rcases h with h | h <;> omega)).ch (unhide HHd) (fun h => by rcases h with h | h <;> omega)
                  have cA := hAw.cell
                  have cP := (unhide HPd).cell
                  have hFd := OwnFu.ch (unhide HHd) (fun g h1 h2 h => by rcases h with h | h <;> omega) (unhide HFc)
                  have hPd := OwnPr.ch (unhide HHd) (fun g h1 h2 h => by rcases h with h | h <;> omega) (unhide HOc)
                  have HFd := hide hFd
                  have HPe := hide hPd
                  have hN1 : (cProg c0).1.mn = mn := by unfold cProg; rw [unhide EA]
                  have hN2 : (cProg c0).2.b = c7.b := by unfold cProg; rw [unhide ED2]
                  have HHz := hide (((((Ch.of_below (Q := fun b => A ≤ b) (unhide HB0)).trans (unhide HH1) (fun x h1 h => by rcases h with h | h <;> omega)).trans (unhide HHc) (fun x h1 h => by rcases h with h | h <;> omega)).trans (unhide HHd) (fun x h1 h => by rcases h with h | h <;> omega)))
                  have HAw := hide hAw
                  obtain ⟨a1, l1, z1, rfl⟩ := own_form hFd.1
                  obtain ⟨a2, l2, z2, rfl⟩ := own_form hPd.1
                  obtain ⟨a3, l3, z3, rfl⟩ := own_form (unhide HOd).1
                  have HN1 := hide hN1
                  have HN2 := hide hN2
                  clear hend hlt hAw hFd hPd hN1 hN2
                  rcases (show n3 ≤ j3 ∨ (j3 < n3 ∧ c7.b = true) by rcases he with h | h; exact Or.inl h; by_cases h1 : j3 < n3; exact Or.inr ⟨h1, h⟩; exact Or.inl (by omega)) with hx | ⟨hx, hxb⟩
                  rotate_left
                  all_goals
                    try rw [hxb] at cR
                    try have HXB := hide hxb
                    try clear hxb
                    clear he
                    go_wp2
                    go_region
                  all_goals
                    obtain ⟨Z, hZ⟩ : ∃ Z, Z = (put4 wr A (.slice a1 l1 z1) (.slice a2 l2 z2) (.slice a3 l3 z3) (.int .i64 mn)).drew := ⟨_, rfl⟩
                    have hAz : PB A (.slice a1 l1 z1) (.slice a2 l2 z2) (.slice a3 l3 z3) mn Z := by
                      have h := put4_pb (unhide HAw) (.slice a1 l1 z1) (.slice a2 l2 z2) (.slice a3 l3 z3) mn
                      rw [hZ]
                      exact h
                    have hCz : Ch (fun b => b = A) wr Z := by
                      rw [hZ]
                      exact (put4_ch wr A (.slice a1 l1 z1) (.slice a2 l2 z2) (.slice a3 l3 z3) (.int .i64 mn)).trans (drew_ch (fun b => b = A) _) fun _ _ h => h
                    unfold put4 at hZ
                    rw [← hZ]
                    have cZ := hAz.cell
                    have HCz := hide hCz
                    clear hZ hAz hCz cA cP
                    go_wp2
                    refine bodyPost_ret (v := .tuple #[pv (.slice a1 l1 z1) (.slice a2 l2 z2) (.slice a3 l3 z3) mn, .bool (!c7.b)]) (by first | (simp [results, Tryd.results24, go_sem, cZ]; done) | (simp [results, Tryd.results24, go_sem, cZ, unhide HXB]; done)) rfl ⟨⟨.slice a1 l1 z1, .slice a2 l2 z2, .slice a3 l3 z3, ?_, ?_⟩, ?_⟩
                    · rw [unhide HN1, unhide HN2]
                    · unfold cProg
                      rw [unhide EB2, unhide EC2, unhide ED2]
                      exact ⟨l, q, r, (OwnFu.ch (unhide HCz) (fun g h1 h2 h => by omega) (unhide HFd)).low (by have := unhide HEA; omega), (OwnPr.ch (unhide HCz) (fun g h1 h2 h => by omega) (unhide HPe)).low (by have := unhide HEA; omega), (OwnAr.ch (unhide HCz) (fun g h1 h2 h => by omega) (unhide HOd)).low (by have := unhide HEA; omega), rfl, rfl, rfl⟩
                    · have h := ((unhide HHz).trans (unhide HCz) fun x h1 h => by omega).below (N := w.heap.size) (Nat.le_refl _) (fun b h1 h2 => by have := unhide HEA; omega)
                      exact h
end Go.Proofs.YtgheaieghoekhaaDoor
