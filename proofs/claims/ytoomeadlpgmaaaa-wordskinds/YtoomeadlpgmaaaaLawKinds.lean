/- WordsKinds: names and words, whatever the text; the list of words is the caller's. Proved: WordsKindsSaid, for every input. -/
import Derived.Test.YtoomeadlpgmaaaaName
import Derived.Test.YtoomeadlpgmaaaaKeep
import Derived.ProofKit
import Derived.OpenShut
import Derived.ShutString
import Derived.ChangeOld
import Derived.Below
namespace Go.Proofs.Ytoomeadlpgmaaaa
open Go.ChangeShapes Go.WideShapes Go.ChangeAt Go.RowKit
open Go.ChangeMaps (open_string shut_string)

theorem own_knob : ownKnob Try.prog.godebug = none := by kernel_rfl

theorem Try.infoS : (Try.prog.info? 9).map (fun i => (i.zero, i.size, i.bytes)) = some (some (.string ByteArray.empty), 1, 16) := by kernel_rfl

theorem one_new (w : World) (v : Value) (t : TypeId) : ∀ (j : Nat) (u : Value), [v][j]? = some u → (w.alloc (.cells #[v] t)).cell? ((⟨w.heap.size, 0, none⟩ : Addr).add j) = some u := by
  intro j u hj
  match j, hj with
  | 0, hj => simp at hj; subst hj; simp [Addr.add]

theorem own_slice {w : World} {B n : Nat} {e : TypeId} {v : Value} {xs : List Value} (h : w.ownsRow B e 1 v (n + 1) xs) : ∃ a cap, v = .slice a (n + 1) cap := by
  rcases h with ⟨_, ⟨rfl, h0⟩ | ⟨g, cap, cur, rfl, _⟩⟩
  · exact absurd h0 (by omega)
  · exact ⟨_, _, rfl⟩

theorem WordsAt.drewN {w : World} {B : Nat} (h : WordsAt w B) (m : Nat) : WordsAt (w.drewN m) B := ⟨h.cell⟩

set_option maxHeartbeats 4000000 in
theorem kinds_walk (s : ByteArray) (w : World) (hs : s.size ≤ maxLen) :
    Calls Try.prog 4 #[.string s] w fun e w' => e = .returned (.bool true) ∧ Below w.heap.size w w' := by
  obtain ⟨i0, hi0, hz0, hz1, hz2⟩ := info_parts Try.infoS
  have HS := hide hs
  clear hs
  go_enter Try.func4, Try.ntmps4
  go_wp2_with fail
  refine (words_any w).mono ?_
  rintro e w1 ⟨rfl, e1⟩
  have HBK : Hid (Blk w1 w.heap.size 28 9) := hide (by rw [e1]; exact Blk.new w wcells 9)
  have HB := hide (show Below w.heap.size w w1 by rw [e1]; exact (Below.refl w.heap.size w).alloc (Nat.le_refl _) _)
  clear e1
  go_wp2
  go_loopw [4] (fun i wr => ∃ q : Nat, q ≤ 28 ∧ i = .int .i64 q ∧ Keep w.heap.size w1 wr ∧ Blk wr w.heap.size 28 9) (fun i _ => 28 - (intOf i).toNat)
  case atStart => exact ⟨0, by omega, rfl, Keep.refl _ _, unhide HBK⟩
  case round =>
    obtain ⟨q, hq, rfl, hK, hBq⟩ := hrel
    by_cases hlt2 : q < 28
    · obtain ⟨u, hu⟩ := hBq.cell q hlt2
      have hfz := hBq.froz q
      have HK := hide (hK.set q (.string { data := #[110, 111, 116, 32, 121, 111, 117, 114, 115] }))
      have HQ := hide (hBq.set q (.string { data := #[110, 111, 116, 32, 121, 111, 117, 114, 115] }))
      clear hK hBq
      go_wp2
      go_roundw
      case rel => exact ⟨q + 1, by omega, by go_num, unhide HK, unhide HQ⟩
      case measure => simp [intOf]; omega
    · have e : q = 28 := by omega
      subst e
      obtain ⟨xs, hown⟩ := hBq.own (base := w.heap.size) (by omega) (by decide)
      have HO := hide hown
      have HK := hide hK
      have hsz := hBq.lt
      clear hown hK hBq
      go_wp2_with (first
        | (at_builtin; refine wpList_append_own _ rfl _ _ 27 rfl w.heap.size 9 i0 (.string ByteArray.empty) 1 16 Try.underlying27 hi0 hz0 hz1 hz2 rfl (by decide) _ _ _ rfl ((unhide HO).alloc _) ⟨wr.heap.size, 0, none⟩ 1 1 [.string { data := #[109, 111, 114, 101] }] rfl rfl (one_new _ _ _) (by intro u hu; simp at hu; subst hu; rfl) (by decide) (by decide) (by simp; omega) ?_)
        | fail)
      intro v' w5 hv hgrow _
      obtain ⟨a', cap', rfl⟩ := own_slice hv
      have HB5 := hide (Keep.below (unhide HB) (Nat.le_refl _) (((unhide HK).alloc _).trans hgrow))
      clear hv hgrow HO HK hsz HBK HB
      go_wp2_with fail
      refine (words_any w5).mono ?_
      rintro e w6 ⟨rfl, e6⟩
      have HA6 := hide (show WordsAt w6 w5.heap.size by rw [e6]; exact wordsAt_new w5 _)
      have HB6 := hide (show Below w5.heap.size w5 w6 by rw [e6]; exact (Below.refl w5.heap.size w5).alloc (Nat.le_refl _) _)
      have HS6 := hide (show w5.heap.size < w6.heap.size by rw [e6, World.size_alloc]; omega)
      clear e6
      go_wp2_with fail
      refine (refwords_any w6).mono ?_
      rintro e w7 ⟨rfl, e7⟩
      have HC7 := hide (show WordsAt w7 w6.heap.size by rw [e7]; exact wordsAt_new w6 _)
      have hb7 : Below w6.heap.size w6 w7 := by rw [e7]; exact (Below.refl w6.heap.size w6).alloc (Nat.le_refl _) _
      have HA7 := hide ((unhide HA6).below (unhide HS6) hb7)
      have HB7 := hide (((unhide HB5).trans ((unhide HB6).mono (unhide HB5).size)).trans (hb7.mono (((unhide HB5).trans ((unhide HB6).mono (unhide HB5).size))).size))
      clear e7 hb7 HA6 HB6 HS6 HB5
      go_wp2
      go_loopw [7] (fun i wr => ∃ k m : Nat, k ≤ 28 ∧ i = .int .i64 k ∧ wr = w7.drewN m) (fun i _ => 28 - (intOf i).toNat)
      case atStart => exact ⟨0, 0, by omega, rfl, rfl⟩
      case round =>
        obtain ⟨k, m, hk, rfl, hw⟩ := hrel
        by_cases hlt : k < 28
        · have hck : wr.cell? ⟨w5.heap.size, k, none⟩ = some (.string (wd k)) := by rw [hw]; exact (unhide HA7).cell k hlt
          have hdk : wr.cell? ⟨w6.heap.size, k, none⟩ = some (.string (wd k)) := by rw [hw]; exact (unhide HC7).cell k hlt
          have HW2 := hide hw
          clear hw
          go_wp2
          go_quiet (fail)
          go_wp2
          go_roundw
          case rel => exact ⟨k + 1, m + nq, by omega, by go_num, by rw [unhide HW2, World.drewN_drewN]⟩
          case measure => simp [intOf]; omega
        · have e : k = 28 := by omega
          subst e
          have HBr := hide (show Below w.heap.size w wr by rw [hw]; exact ⟨(unhide HB7).os, (unhide HB7).tape, (unhide HB7).output, (unhide HB7).size, (unhide HB7).block⟩)
          clear hw HA7 HC7 HB7
          go_wp2_with fail
          refine (name_any s wr (unhide HS)).mono ?_
          rintro e w8 ⟨rfl, h8⟩
          have HB8 := hide ((unhide HBr).trans (h8.mono (unhide HBr).size))
          clear h8 HBr
          go_wp2_with fail
          refine (word_any s w8).mono ?_
          rintro e w9 ⟨rfl, h9⟩
          have HB9 := hide ((unhide HB8).trans (h9.mono (unhide HB8).size))
          clear h9 HB8
          go_wp2_with fail
          refine (refname_any s w9 (unhide HS)).mono ?_
          rintro e w10 ⟨rfl, h10⟩
          have HB10 := hide ((unhide HB9).trans (h10.mono (unhide HB9).size))
          clear h10 HB9
          have hqn : (isName s == isName s) = true := by simp
          have hqw : (isWord s == isWord s) = true := by simp
          go_wp2_with fail
          refine (refword_any s w10).mono ?_
          rintro e w11 ⟨rfl, h11⟩
          have HB11 := hide ((unhide HB10).trans (h11.mono (unhide HB10).size))
          clear h11 HB10
          go_wp2
          go_ret
          exact ⟨ret_bool (by simp), unhide HB11⟩

set_option maxRecDepth 100000 in
theorem kinds_lifted (os : Os) (started : os.Started) (H : Type) (enc : TypeId × Value → H) :
    ReturnsInHanded {} Try.checked os 4 .any (Rows.wordsKindsSpec.pre6 enc Try.prog Try.f4 Rows.wordsKindsRow.domain false) (Rows.wordsKindsSpec.post enc Try.prog Try.f4 false true false false) := by
  refine returnsInHanded_of_change (C := Try.checked) own_knob started (by kernel_rfl) Try.func4
    (ChangeSpec.witness6 (enc := enc) (C := Try.checked) false ⟨#[], #[.string ByteArray.empty], []⟩ 8 (by kernel_rfl) (by kernel_rfl) (by kernel_rfl) (by kernel_rfl)) ?_
  intro W base args ds gs before hval0 hW _ _
  have hval : ∀ (j : Nat) t v, Try.f4.params[j]? = some t → args[j]? = some v → Value.okWide Try.prog W .any base t v := hval0
  have hW' := hW
  obtain ⟨p, q, hA0, hV, rfl, hfz, hnd⟩ := hW
  have hA : DataW.TrodAll enc Try.prog W 0 (fun _ => true) true Try.f4.params.toList args.toList ds p := hA0
  rw [Try.params4] at hA hval
  obtain ⟨v0, vs0, d0, ds0, p0, q0, hargs, rfl, rfl, h0, r0⟩ := trodAll_cons hA
  obtain ⟨rfl, rfl, rfl⟩ := trodAll_nil r0
  obtain rfl : args = #[v0] := by cases args; simp_all
  obtain ⟨rfl, rfl⟩ := trodVars_none hV
  obtain ⟨a0, rfl, rfl, rfl, w0⟩ := open_string Try.underlying9 (hval 0 9 v0 rfl rfl) h0
  clear hA0 hval0
  refine (kinds_walk a0 W w0).mono fun e W' ⟨he, bel⟩ => ?_
  subst he
  exact ⟨_, rfl, _, _, _, [], _, [], hW', trodAll_mk1 (shut_bool Try.underlying4 _), (trodAll_cons_mk (shut_string Try.underlying9 w0) trodAll_mk0), rfl, bel.frame _, fun h => by cases h⟩

theorem wordsKinds_holds : Rows.WordsKindsSaid :=
  OpenClaim.holds_of_wide 4 Try.f4 rfl rfl rfl rfl rfl rfl rfl ⟨rfl, rfl, rfl, rfl, rfl⟩ rfl rfl rfl rfl rfl (by kernel_rfl) Try.func4 (by kernel_rfl)
    (of_decide_eq_true (by kernel_rfl)) (by unfold Func.isWrapper; first | (rw [if_pos (by decide +kernel)]; kernel_rfl) | (rw [if_neg (by decide +kernel)]; exact ⟨rfl, rfl⟩))
    (fun os started H enc _ => kinds_lifted os started H enc)

end Go.Proofs.Ytoomeadlpgmaaaa
