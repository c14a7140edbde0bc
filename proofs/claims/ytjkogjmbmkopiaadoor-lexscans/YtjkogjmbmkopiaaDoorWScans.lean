/- The law of Scan held against the document's answer: its walk. -/
import Derived.Test.YtjkogjmbmkopiaaDoorQb
import Derived.Test.YtjkogjmbmkopiaaDoorRs
namespace Go.Proofs.YtjkogjmbmkopiaaDoor
open Go.RowKit

theorem OwnAny.dn {w : World} {B n : Nat} {v : Value} (h : OwnAny w B v n) (m : Nat) : OwnAny (w.drewN m) B v n := h

set_option maxHeartbeats 8000000 in
theorem scans_walk (s : ByteArray) (w : World) (hs : s.size ≤ 140737488355327) (hV : Vars w) :
    Calls Tryd.prog 3 #[.string s] w fun e w' => e = .returned (.bool true) ∧ Below w.heap.size w w' := by
  have HV0 := hide hV
  clear hV
  go_enter Tryd.func3, Tryd.ntmps3
  go_wp2_with fail
  refine (refscan_any s w (by omega)).mono ?_
  intro e w1 h1
  obtain ⟨p1, p2, b1⟩ := h1
  have HV1 := hide ((unhide HV0).below b1)
  have HB1 := hide b1
  clear b1 HV0
  cases hsc : scan s.data.toList with
  | ok toks =>
    obtain ⟨v, rfl, ho⟩ := p1 toks hsc
    obtain ⟨hb1, hb2, hb3, hb4⟩ := scan_bounds hsc
    obtain ⟨gw, cw, rfl, hgw, hrow⟩ := ho.row hb3
    have HR := hide hrow
    have HC := hide hsc
    clear p1 p2 ho hgw hb1 hb2 hrow hsc
    go_wp2
    go_loopw [6] (fun i wr => ∃ k : Nat, k ≤ 2 ∧ i = .int .i64 (k : Int) ∧ Below w1.heap.size w1 wr) (fun i _ => 2 - (intOf i).toNat)
    case atStart => exact ⟨0, by omega, rfl, Below.refl _ _⟩
    case round =>
      obtain ⟨k, hk, rfl, hbr⟩ := hrel
      have HBr := hide hbr
      have HVr := hide ((unhide HV1).below hbr)
      have HRr := hide ((unhide HR).below hbr (unhide HR).lt (Nat.le_refl _))
      have hszr := hbr.size
      clear hbr
      by_cases hlt : k < 2
      · go_wp2_with fail
        refine (lexscan_any s wr (by omega) (unhide HVr)).mono ?_
        intro e w2 h2
        obtain ⟨q1, q2, b2⟩ := h2
        obtain ⟨v2, rfl, ho2⟩ := q1 toks (unhide HC)
        obtain ⟨g2, c2, rfl, hg2, hr2⟩ := ho2.row hb3
        have HR2 := hide ((unhide HRr).below b2 (unhide HRr).lt (Nat.le_refl _))
        have HX2 := hide hr2
        have HO2 := hide ho2.any
        have HB2 := hide ((unhide HBr).trans (b2.mono hszr))
        have hsz2 := hr2.lt
        have hszb := b2.size
        clear q1 q2 b2 ho2 hr2 HRr HVr HBr
        go_wp2_with fail
        refine (number_nil _).mono ?_
        rintro e w3 ⟨rfl, rfl⟩
        go_wp2_with fail
        refine (same_rows (unhide HX2) (unhide HR2) (by omega)).mono ?_
        rintro e w4 ⟨rfl, m, rfl⟩
        have HO4 := hide ((unhide HO2).dn m)
        have HB4 := hide (below_dn (unhide HB2) m)
        have hsz4 : (w3.drewN m).heap.size = w3.heap.size := rfl
        generalize w3.drewN m = w4 at *
        clear HO2 HB2 HX2 HR2
        go_wp2_with fail
        refine (spoil_any (unhide HO4) (by omega) (by omega)).mono ?_
        rintro e w5 ⟨rfl, b5⟩
        have HB5 := hide ((unhide HB4).trans (b5.mono (by omega)))
        clear b5
        go_wp2
        go_roundw
        case rel => exact ⟨k + 1, by omega, by go_num, unhide HB5⟩
        case measure => simp [intOf]; omega
      · have e2 : k = 2 := by omega
        subst e2
        go_wp2
        go_ret
        exact ⟨rfl, (unhide HB1).trans ((unhide HBr).mono (unhide HB1).size)⟩
  | error p =>
    obtain ⟨a, x⟩ := p
    obtain rfl := p2 a x hsc
    have HC := hide hsc
    clear p1 p2 hsc
    go_wp2
    go_loopw [6] (fun i wr => ∃ k : Nat, k ≤ 2 ∧ i = .int .i64 (k : Int) ∧ Below w1.heap.size w1 wr) (fun i _ => 2 - (intOf i).toNat)
    case atStart => exact ⟨0, by omega, rfl, Below.refl _ _⟩
    case round =>
      obtain ⟨k, hk, rfl, hbr⟩ := hrel
      have HBr := hide hbr
      have HVr := hide ((unhide HV1).below hbr)
      have hszr := hbr.size
      clear hbr
      by_cases hlt : k < 2
      · go_wp2_with fail
        refine (lexscan_any s wr (by omega) (unhide HVr)).mono ?_
        intro e w2 h2
        obtain ⟨q1, q2, b2⟩ := h2
        obtain ⟨b, rfl, hb, hf⟩ := q2 a x (unhide HC)
        have HF := hide hf
        have HB2 := hide ((unhide HBr).trans (b2.mono hszr))
        have hszb := b2.size
        clear q1 q2 b2 hf HVr HBr
        go_wp2_with fail
        refine (number_fault (unhide HF)).mono ?_
        rintro e w3 ⟨rfl, m, rfl⟩
        have HB3 := hide (below_dn (unhide HB2) m)
        have hsz3 : (w2.drewN m).heap.size = w2.heap.size := rfl
        generalize w2.drewN m = w3 at *
        clear HB2 HF
        go_wp2_with fail
        refine (same_nil _).mono ?_
        rintro e w4 ⟨rfl, m4, rfl⟩
        have HB4 := hide (below_dn (unhide HB3) m4)
        have hsz4 : (w3.drewN m4).heap.size = w3.heap.size := rfl
        generalize w3.drewN m4 = w4 at *
        clear HB3
        go_wp2_with fail
        refine (spoil_any (B := w4.heap.size) (n := 0) ⟨[], World.ownsRow_nil _ _ _ _⟩ (by omega) (by omega)).mono ?_
        rintro e w5 ⟨rfl, b5⟩
        have HB5 := hide ((unhide HB4).trans (b5.mono (by omega)))
        clear b5
        go_wp2
        go_roundw
        case rel => exact ⟨k + 1, by omega, by go_num, unhide HB5⟩
        case measure => simp [intOf]; omega
      · have e2 : k = 2 := by omega
        subst e2
        go_wp2
        go_ret
        exact ⟨rfl, (unhide HB1).trans ((unhide HBr).mono (unhide HB1).size)⟩

end Go.Proofs.YtjkogjmbmkopiaaDoor
