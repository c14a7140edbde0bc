/- The law of Join held against the document's answer: its walk. -/
import Derived.Test.YtjkogjmbmkopiaaDoorPz
namespace Go.Proofs.YtjkogjmbmkopiaaDoor
open Go.RowKit

theorem signs_row (w : World) : (w.alloc (.cells (strCs sgl) 9)).rowIs w.heap.size 9 27 (fun j => .string (sx sgl j)) :=
  ⟨strCs sgl, (MapKept.heap_alloc w _).1, by decide, fun i hi => by
    show (strCs sgl)[i]? = some (Value.string (sx sgl i))
    unfold strCs sx
    rw [List.getElem?_toArray, List.getElem?_map, List.getD_eq_getElem?_getD, List.getElem?_eq_getElem (show i < sgl.length from hi)]
    rfl⟩

theorem rrow_cells {w : World} {b off : Nat} {l : List RT} (h : RRow w b off l) : ∀ (j : Nat) (u : Value), (rtsC l)[j]? = some u → w.cell? ((⟨b, off, none⟩ : Addr).add j) = some u := by
  intro j u hj
  have hlt : j < l.length * 5 := by rw [← rtsC_len]; exact (List.getElem?_eq_some_iff.1 hj).1
  have hi : j / 5 < l.length := by omega
  have hc : j % 5 < 5 := by omega
  have e : j = j / 5 * 5 + j % 5 := by omega
  rw [e, rtsC_get l (j / 5) (j % 5) hi hc] at hj
  obtain ⟨k0, k1, k2, k3, k4⟩ := h.cell (j / 5) hi
  have ea : (⟨b, off, none⟩ : Addr).add j = ⟨b, off + j / 5 * 5 + j % 5, none⟩ := by
    rw [Nat.add_assoc, ← e]
    simp [Addr.add]
    try (intros; omega)
  rw [ea]
  generalize j % 5 = c at *
  match c, hc, hj with
  | 0, _, hj => simp [rtC] at hj; subst hj; exact k0
  | 1, _, hj => simp [rtC] at hj; subst hj; exact k1
  | 2, _, hj => simp [rtC] at hj; subst hj; exact k2
  | 3, _, hj => simp [rtC] at hj; subst hj; exact k3
  | 4, _, hj => simp [rtC] at hj; subst hj; exact k4

theorem rts_one (l : List RT) : ∀ u ∈ rtsC l, u.oneCell' = true := by
  induction l with
  | nil => intro u hu; cases hu
  | cons t r ih =>
    intro u hu
    unfold rtsC at hu
    rw [List.mem_append] at hu
    rcases hu with hu | hu
    · simp [rtC] at hu
      rcases hu with rfl | rfl | rfl | rfl | rfl <;> rfl
    · exact ih u hu

theorem own_empty (w : World) : (w.alloc (.cells #[] 42)).ownsRow w.heap.size 42 5 (.slice (some ⟨w.heap.size, 0, none⟩) 0 0) 0 [] :=
  ⟨rfl, Or.inr ⟨w.heap.size, 0, #[], rfl, Nat.le_refl _, (MapKept.heap_alloc w _).1, Nat.le_refl _, by decide, rfl, rfl⟩⟩

theorem own_rrow' {w : World} {B : Nat} {v : Value} {l : List RT} (h : w.ownsRow B 42 5 v l.length (rtsC l)) (hp : ¬ v = .slice none 0 0) : ∃ g cap, v = .slice (some ⟨g, 0, none⟩) l.length cap ∧ B ≤ g ∧ RRow w g 0 l := by
  by_cases h0 : 0 < l.length
  · exact own_rrow h h0
  · rcases h with ⟨_, ⟨hn, _⟩ | ⟨g, cap, cur, rfl, hB, hg, hr⟩⟩
    · exact absurd hn hp
    · exact ⟨g, cap, rfl, hB, fun _ => (Array.getElem?_eq_some_iff.1 hg).1, fun i hi => by omega⟩

theorem RRow.dn {w : World} {b off : Nat} {l : List RT} (h : RRow w b off l) (m : Nat) : RRow (w.drewN m) b off l := ⟨h.lt, h.cell⟩

set_option maxRecDepth 100000 in
set_option maxHeartbeats 16000000 in
theorem joins_walk {w : World} {b off cap : Nat} {l : List RT} (hr : RRow w b off l) (hf : RFit l) (hV : Tab w) :
    Calls Tryd.prog 4 #[.slice (some ⟨b, off, none⟩) l.length cap] w fun e w' => e = .returned (.bool true) ∧ Below w.heap.size w w' := by
  obtain ⟨i0, hi0, hz0, hz1, hz2⟩ := info_parts Tryd.infoT
  have hlen := hf.len
  have HR := hide hr
  have HF := hide hf
  have HV := hide hV
  have hb0 := (Below.refl w.heap.size w).alloc (Nat.le_refl _) (.cells #[] 42)
  have HRa := hide (hr.below hb0)
  have HB0 := hide hb0
  have hm1 : 0 + l.length ≤ maxLen := by unfold maxLen; omega
  have hm2 : (0 + l.length) * 48 ≤ 140737488355328 := by omega
  have hrl := rtsC_len l
  clear hr hf hV hb0
  go_enter Tryd.func4, Tryd.ntmps4
  go_wp2_with (first | (at_builtin; refine wpList_append_own _ rfl _ _ 22 rfl w.heap.size 42 i0 zeroTok 5 48 Tryd.underlying22 hi0 hz0 hz1 hz2 rfl (by decide) _ _ _ rfl (own_empty w) ⟨b, off, none⟩ l.length cap (rtsC l) rfl hrl (rrow_cells (unhide HRa)) (rts_one l) hm1 hm2 (by rw [World.size_alloc]; omega) ?_) | fail)
  intro v' w1 hv hgrow hnn
  obtain ⟨g, cp, rfl, hg, hrow⟩ := own_rrow' hv hnn
  have b1 := (unhide HB0).grown hgrow (by rw [World.size_alloc]; omega) (fun j e => by cases e; exact Nat.le_refl _)
  have HB1 := hide b1
  have HO1 := hide hrow
  have HR1 := hide ((unhide HR).below b1)
  have HV1 := hide ((unhide HV).below b1)
  have hs1 := b1.size
  clear hv hgrow hnn hrow b1 HB0 HRa hm1 hm2 hrl
  go_wp2_with fail
  refine (lexjoin_any lexwrite_ok (unhide HO1) (unhide HF) (unhide HV1)).mono ?_
  rintro e w2 ⟨rfl, b2⟩
  have HB2 := hide ((unhide HB1).trans (b2.mono hs1))
  have HO2 := hide ((unhide HO1).below b2)
  have HR2 := hide ((unhide HR1).below b2)
  have hs2 := b2.size
  clear b2 HB1 HO1 HR1 HV1
  cases hj : jok l
  · have EJ := hide (jEnd_no hj)
    rw [← unhide EJ]
    go_wp2_with fail
    refine (refjoin_any (unhide HR2) (unhide HF)).mono ?_
    rintro e w3 ⟨rfl, b3⟩
    have HB3 := hide ((unhide HB2).trans (b3.mono (by omega)))
    have HO3 := hide ((unhide HO2).below b3)
    have HR3 := hide ((unhide HR2).below b3)
    clear b3 HB2 HO2 HR2
    rw [← unhide EJ]
    go_wp2_with fail
    refine (same_rrows (unhide HO3) (unhide HR3) hlen).mono ?_
    rintro e w4 ⟨rfl, m4, rfl⟩
    have HB := hide (below_dn (unhide HB3) m4)
    generalize w3.drewN m4 = s0 at *
    clear HB3 HO3 HR3 EJ
    go_wp2_with fail
    refine (lexsigns_any _).mono ?_
    rintro e s1 ⟨rfl, e1⟩
    have HB1 := hide (show Below w.heap.size w s1 by rw [e1]; exact (unhide HB).alloc (unhide HB).size _)
    have HSR := hide (show s1.rowIs s0.heap.size 9 27 (fun j => .string (sx sgl j)) by rw [e1]; exact signs_row s0)
    have hs1 := (unhide HB1).size
    have hs0 : w.heap.size ≤ s0.heap.size := (unhide HB).size
    clear e1 HB
    go_wp2
    go_loopw [10] (fun i wr => ∃ k : Nat, k ≤ 27 ∧ i = .int .i64 (k : Int) ∧ Below w.heap.size w wr ∧ ∃ f, wr.rowIs s0.heap.size 9 27 f) (fun i _ => 27 - (intOf i).toNat)
    case atStart => exact ⟨0, by omega, rfl, unhide HB1, _, unhide HSR⟩
    case round =>
      obtain ⟨k, hk, rfl, hB, f, hrow⟩ := hrel
      have HB2 := hide hB
      have HR2 := hide hrow
      by_cases hlt : k < 27
      · have c := hrow.cell hlt
        have fz := fun i => hrow.frozen i
        clear hB hrow
        go_wp2
        go_roundw
        case rel => exact ⟨k + 1, by omega, by go_num, (unhide HB2).setCell hs0 _, _, (unhide HR2).set k _⟩
        case measure => simp [intOf]; omega
      · clear hB hrow
        obtain ⟨wq, rfl⟩ : ∃ q, q = wr := ⟨_, rfl⟩
        go_wp2_with fail
        refine (lexsigns_any _).mono ?_
        rintro e s3 ⟨rfl, e3⟩
        have HB3 := hide (show Below w.heap.size w s3 by rw [e3]; exact (unhide HB2).alloc (unhide HB2).size _)
        have HA3 := hide (show StrsAt s3 wq.heap.size sgl by rw [e3]; exact strsAt_new wq 9 sgl)
        have hz3 : wq.heap.size < s3.heap.size := by rw [e3, World.size_alloc]; omega
        clear e3
        go_wp2_with fail
        refine (refsigns_any _).mono ?_
        rintro e s4 ⟨rfl, e4⟩
        have HB4 := hide (show Below w.heap.size w s4 by rw [e4]; exact (unhide HB3).alloc (unhide HB3).size _)
        have HA4 := hide (show StrsAt s4 s3.heap.size sgl by rw [e4]; exact strsAt_new s3 9 sgl)
        have HA5 := hide (show StrsAt s4 wq.heap.size sgl by rw [e4]; exact (unhide HA3).below hz3 ((Below.refl _ _).alloc (Nat.le_refl _) _))
        clear e4
        go_wp2
        go_loopw [13] (fun i wr => ∃ k m : Nat, k ≤ 27 ∧ i = .int .i64 (k : Int) ∧ wr = s4.drewN m) (fun i _ => 27 - (intOf i).toNat)
        case atStart => exact ⟨0, 0, by omega, rfl, rfl⟩
        case round =>
          obtain ⟨j, m, hj, rfl, hw⟩ := hrel
          by_cases hlt2 : j < 27
          · have x1 : wr.cell? ⟨wq.heap.size, j, none⟩ = some (.string (sx sgl j)) := by rw [hw]; exact (unhide HA5).cell j hlt2
            have x2 : wr.cell? ⟨s3.heap.size, j, none⟩ = some (.string (sx sgl j)) := by rw [hw]; exact (unhide HA4).cell j hlt2
            have HW := hide hw
            clear hw
            go_wp2
            go_quiet (fail)
            go_wp2
            go_roundw
            case rel => exact ⟨j + 1, m + nq, by omega, by go_num, by rw [unhide HW, World.drewN_drewN]⟩
            case measure => simp [intOf]; omega
          · have HBf := hide (show Below w.heap.size w wr by rw [hw]; exact below_dn (unhide HB4) m)
            clear hw
            go_wp2
            go_ret
            exact ⟨rfl, unhide HBf⟩
  · have EJ := hide (jEnd_ok hj)
    rw [← unhide EJ]
    go_wp2_with fail
    refine (refjoin_any (unhide HR2) (unhide HF)).mono ?_
    rintro e w3 ⟨rfl, b3⟩
    have HB3 := hide ((unhide HB2).trans (b3.mono (by omega)))
    have HO3 := hide ((unhide HO2).below b3)
    have HR3 := hide ((unhide HR2).below b3)
    clear b3 HB2 HO2 HR2
    rw [← unhide EJ]
    go_wp2_with fail
    refine (same_rrows (unhide HO3) (unhide HR3) hlen).mono ?_
    rintro e w4 ⟨rfl, m4, rfl⟩
    have HB := hide (below_dn (unhide HB3) m4)
    generalize w3.drewN m4 = s0 at *
    clear HB3 HO3 HR3 EJ
    go_wp2_with fail
    refine (lexsigns_any _).mono ?_
    rintro e s1 ⟨rfl, e1⟩
    have HB1 := hide (show Below w.heap.size w s1 by rw [e1]; exact (unhide HB).alloc (unhide HB).size _)
    have HSR := hide (show s1.rowIs s0.heap.size 9 27 (fun j => .string (sx sgl j)) by rw [e1]; exact signs_row s0)
    have hs1 := (unhide HB1).size
    have hs0 : w.heap.size ≤ s0.heap.size := (unhide HB).size
    clear e1 HB
    go_wp2
    go_loopw [10] (fun i wr => ∃ k : Nat, k ≤ 27 ∧ i = .int .i64 (k : Int) ∧ Below w.heap.size w wr ∧ ∃ f, wr.rowIs s0.heap.size 9 27 f) (fun i _ => 27 - (intOf i).toNat)
    case atStart => exact ⟨0, by omega, rfl, unhide HB1, _, unhide HSR⟩
    case round =>
      obtain ⟨k, hk, rfl, hB, f, hrow⟩ := hrel
      have HB2 := hide hB
      have HR2 := hide hrow
      by_cases hlt : k < 27
      · have c := hrow.cell hlt
        have fz := fun i => hrow.frozen i
        clear hB hrow
        go_wp2
        go_roundw
        case rel => exact ⟨k + 1, by omega, by go_num, (unhide HB2).setCell hs0 _, _, (unhide HR2).set k _⟩
        case measure => simp [intOf]; omega
      · clear hB hrow
        obtain ⟨wq, rfl⟩ : ∃ q, q = wr := ⟨_, rfl⟩
        go_wp2_with fail
        refine (lexsigns_any _).mono ?_
        rintro e s3 ⟨rfl, e3⟩
        have HB3 := hide (show Below w.heap.size w s3 by rw [e3]; exact (unhide HB2).alloc (unhide HB2).size _)
        have HA3 := hide (show StrsAt s3 wq.heap.size sgl by rw [e3]; exact strsAt_new wq 9 sgl)
        have hz3 : wq.heap.size < s3.heap.size := by rw [e3, World.size_alloc]; omega
        clear e3
        go_wp2_with fail
        refine (refsigns_any _).mono ?_
        rintro e s4 ⟨rfl, e4⟩
        have HB4 := hide (show Below w.heap.size w s4 by rw [e4]; exact (unhide HB3).alloc (unhide HB3).size _)
        have HA4 := hide (show StrsAt s4 s3.heap.size sgl by rw [e4]; exact strsAt_new s3 9 sgl)
        have HA5 := hide (show StrsAt s4 wq.heap.size sgl by rw [e4]; exact (unhide HA3).below hz3 ((Below.refl _ _).alloc (Nat.le_refl _) _))
        clear e4
        go_wp2
        go_loopw [13] (fun i wr => ∃ k m : Nat, k ≤ 27 ∧ i = .int .i64 (k : Int) ∧ wr = s4.drewN m) (fun i _ => 27 - (intOf i).toNat)
        case atStart => exact ⟨0, 0, by omega, rfl, rfl⟩
        case round =>
          obtain ⟨j, m, hj, rfl, hw⟩ := hrel
          by_cases hlt2 : j < 27
          · have x1 : wr.cell? ⟨wq.heap.size, j, none⟩ = some (.string (sx sgl j)) := by rw [hw]; exact (unhide HA5).cell j hlt2
            have x2 : wr.cell? ⟨s3.heap.size, j, none⟩ = some (.string (sx sgl j)) := by rw [hw]; exact (unhide HA4).cell j hlt2
            have HW := hide hw
            clear hw
            go_wp2
            go_quiet (fail)
            go_wp2
            go_roundw
            case rel => exact ⟨j + 1, m + nq, by omega, by go_num, by rw [unhide HW, World.drewN_drewN]⟩
            case measure => simp [intOf]; omega
          · have HBf := hide (show Below w.heap.size w wr by rw [hw]; exact below_dn (unhide HB4) m)
            clear hw
            go_wp2
            go_ret
            exact ⟨rfl, unhide HBf⟩

end Go.Proofs.YtjkogjmbmkopiaaDoor
