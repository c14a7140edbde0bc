/- The program's lexer: what stands between tokens is passed by. -/
import Derived.Test.YtkbgnbcphmkjkaaDoorPe
namespace Go.Proofs.YtkbgnbcphmkjkaaDoor
open Go.RowKit

theorem hasprefix_is {s p : ByteArray} {b : Bool} (h : pfx p.data.toList s.data.toList = b) (w : World) :
    Calls Tryd.prog 25 #[.string s, .string p] w fun e w' => e = .returned (.bool b) ∧ w' = w := h ▸ hasprefix_any s p w

theorem cmt_no {s : ByteArray} {a : Nat} (hc : ¬ (by_ s a).toNat = 47) : ¬ 0 < cmt (s.data.toList.drop a) := by
  by_cases h1 : a + 1 < s.size
  · rw [cmt_at h1, if_neg (fun e => hc e.1)]; decide
  · rw [cmt_short h1]; decide

theorem pfx_cmt (l : List UInt8) : pfx [47, 47] l = decide (0 < cmt l) := by
  unfold pfx
  match l with
  | [] => rfl
  | [a] =>
    show ((47 : UInt8) == a && false) = decide (0 < 0)
    rw [Bool.and_false]; rfl
  | a :: b :: r =>
    show ((47 : UInt8) == a && ((47 : UInt8) == b && true)) = decide (0 < if a.toNat = 47 ∧ b.toNat = 47 then upTo10 (a :: b :: r) else 0)
    by_cases h : a.toNat = 47 ∧ b.toNat = 47
    · have ea : a = 47 := UInt8.toNat_inj.1 h.1
      have eb : b = 47 := UInt8.toNat_inj.1 h.2
      rw [if_pos h]
      subst ea
      subst eb
      have : 0 < upTo10 (47 :: 47 :: r) := by unfold upTo10; rw [if_neg (by decide)]; omega
      rw [decide_eq_true this]
      rfl
    · rw [if_neg h]
      cases hx : ((47 : UInt8) == a && ((47 : UInt8) == b && true))
      · rfl
      · exfalso
        simp at hx
        exact h ⟨by rw [← hx.1]; rfl, by rw [← hx.2]; rfl⟩

theorem cmt_up {l : List UInt8} (h : 0 < cmt l) : cmt l = upTo10 l := by
  unfold cmt at h ⊢
  split
  · split
    · rfl
    · rename_i h1
      simp only at h
      rw [if_neg h1] at h
      omega
  · rename_i h1
    exact absurd h (by split <;> first | (rename_i a b c d; exact absurd rfl (h1 _ _ _)) | decide)

/-- where the reader stands behind what parts tokens: a token begins here, or the source has ended -/
def Passed (B k0 : Nat) (s : ByteArray) (sg : Value) (w : World) (e : Ending) (w' : World) : Prop :=
  e = .returned (.tuple #[]) ∧ ∃ (k ln : Nat) (lk : Int) (lt : List UInt8) (out : List Tok) (tv : Value), k0 ≤ k ∧ k ≤ s.size ∧ ln ≤ k + 1 ∧ ScAt w' B s k ln sg tv (callsK lk lt) ∧ OwnT w' (B + 1) tv out ∧ Below B w w' ∧ out.length ≤ k ∧ MidS s k ln lk lt out ∧
    (¬ k < s.size ∨ (¬ 0 < cmt (s.data.toList.drop k) ∧ ¬ (by_ s k).toNat = 10 ∧ ¬ ((by_ s k).toNat = 32 ∨ (by_ s k).toNat = 9 ∨ (by_ s k).toNat = 13)))

set_option maxHeartbeats 8000000 in
theorem pass_any {w : World} {B : Nat} {s : ByteArray} {k ln : Nat} {lk : Int} {lt : List UInt8} {out : List Tok} {sg tv : Value} (hs : s.size ≤ 20000) (hk : k ≤ s.size) (hln : ln ≤ k + 1) (h : ScAt w B s k ln sg tv (callsK lk lt)) (ho : OwnT w (B + 1) tv out) (hol : out.length ≤ k) (hM : MidS s k ln lk lt out) :
    Calls Tryd.prog 10 #[.pointer (some ⟨B, 0, none⟩)] w (Passed B k s sg w) := by
  have HS := hide h
  have HO := hide ho
  have HM := hide hM
  have HB := hide ((Below.refl w.heap.size w).mono (Nat.le_of_lt h.lt))
  clear h ho hM
  go_enter Tryd.func10, Tryd.ntmps10
  go_wp2
  go_loopw [3] (fun _ wr => ∃ (j n : Nat) (lk : Int) (lt : List UInt8) (o : List Tok) (v : Value), k ≤ j ∧ j ≤ s.size ∧ n ≤ j + 1 ∧ ScAt wr B s j n sg v (callsK lk lt) ∧ OwnT wr (B + 1) v o ∧ Below B w wr ∧ o.length ≤ j ∧ MidS s j n lk lt o) (fun _ wr => s.size - atOf wr B)
  case atStart => exact ⟨k, ln, lk, lt, out, tv, Nat.le_refl _, hk, hln, unhide HS, unhide HO, unhide HB, hol, unhide HM⟩
  case round =>
    clear HS HO HM HB hol hln hk
    obtain ⟨j, n, lk, lt, o, v, hkj, hj, hn, hS, hO, hB, hol, hM⟩ := hrel
    have HS := hide hS
    have HO := hide hO
    have HB := hide hB
    have HM := hide hM
    have HA := hide hS.at_
    obtain ⟨c0, c1, c2, c3, c4, c5⟩ := hS.cell
    have f := fun i => hS.froz i
    clear hS hO hB hM
    by_cases hlt : j < s.size
    · have hb := by_at s j hlt
      by_cases hc32 : (by_ s j).toNat = 32
      · have q32 : (((by_ s j).toNat : Int) == 32) = true := by simp; omega
        have N := hide (mids_blank (unhide HM) hlt (cmt_no (by omega)) (by omega) (by omega))
        clear HM  hc32
        go_wp2
        go_quiet (fail)
        have HS1 := hide ((unhide HS).drew nq)
        have HO1 := hide ((unhide HO).dn nq)
        have HB1 := hide (below_dn (unhide HB) nq)
        clear c0 c1 c2 c3 c4 c5 f HS HO HB
        generalize wr.drewN nq = wr1 at *
        obtain ⟨c0, c1, c2, c3, c4, c5⟩ := (unhide HS1).cell
        have f := fun i => (unhide HS1).froz i
        go_wp2
        go_quiet (fail)
        have HS2 := hide ((unhide HS1).drew nq)
        have HO2 := hide ((unhide HO1).dn nq)
        have HB2 := hide (below_dn (unhide HB1) nq)
        clear c0 c1 c2 c3 c4 c5 f HS1 HO1 HB1
        generalize wr1.drewN nq = wr2 at *
        obtain ⟨c0, c1, c2, c3, c4, c5⟩ := (unhide HS2).cell
        have f := fun i => (unhide HS2).froz i
        go_wp2
        go_roundw
        case rel => exact ⟨j + 1, n, lk, lt, o, v, by omega, by omega, by omega, (unhide HS2).setAt (j + 1) (by go_num), (unhide HO2).only ((Only.refl B wr2 (Nat.le_of_lt (unhide HS2).lt)).setCell 1 _), (unhide HB2).setCell (Nat.le_refl _) _, by omega, unhide N⟩
        case measure =>
          rw [((unhide HS2).setAt (j + 1) (by go_num)).at_, unhide HA]
          omega
      by_cases hc9 : (by_ s j).toNat = 9
      · have q32 : (((by_ s j).toNat : Int) == 32) = false := by simp; omega
        have q9 : (((by_ s j).toNat : Int) == 9) = true := by simp; omega
        have N := hide (mids_blank (unhide HM) hlt (cmt_no (by omega)) (by omega) (by omega))
        clear HM hc32 hc9
        go_wp2
        go_quiet (fail)
        have HS1 := hide ((unhide HS).drew nq)
        have HO1 := hide ((unhide HO).dn nq)
        have HB1 := hide (below_dn (unhide HB) nq)
        clear c0 c1 c2 c3 c4 c5 f HS HO HB
        generalize wr.drewN nq = wr1 at *
        obtain ⟨c0, c1, c2, c3, c4, c5⟩ := (unhide HS1).cell
        have f := fun i => (unhide HS1).froz i
        go_wp2
        go_quiet (fail)
        have HS2 := hide ((unhide HS1).drew nq)
        have HO2 := hide ((unhide HO1).dn nq)
        have HB2 := hide (below_dn (unhide HB1) nq)
        clear c0 c1 c2 c3 c4 c5 f HS1 HO1 HB1
        generalize wr1.drewN nq = wr2 at *
        obtain ⟨c0, c1, c2, c3, c4, c5⟩ := (unhide HS2).cell
        have f := fun i => (unhide HS2).froz i
        go_wp2
        go_roundw
        case rel => exact ⟨j + 1, n, lk, lt, o, v, by omega, by omega, by omega, (unhide HS2).setAt (j + 1) (by go_num), (unhide HO2).only ((Only.refl B wr2 (Nat.le_of_lt (unhide HS2).lt)).setCell 1 _), (unhide HB2).setCell (Nat.le_refl _) _, by omega, unhide N⟩
        case measure =>
          rw [((unhide HS2).setAt (j + 1) (by go_num)).at_, unhide HA]
          omega
      by_cases hc13 : (by_ s j).toNat = 13
      · have q32 : (((by_ s j).toNat : Int) == 32) = false := by simp; omega
        have q9 : (((by_ s j).toNat : Int) == 9) = false := by simp; omega
        have q13 : (((by_ s j).toNat : Int) == 13) = true := by simp; omega
        have N := hide (mids_blank (unhide HM) hlt (cmt_no (by omega)) (by omega) (by omega))
        clear HM hc32 hc9 hc13
        go_wp2
        go_quiet (fail)
        have HS1 := hide ((unhide HS).drew nq)
        have HO1 := hide ((unhide HO).dn nq)
        have HB1 := hide (below_dn (unhide HB) nq)
        clear c0 c1 c2 c3 c4 c5 f HS HO HB
        generalize wr.drewN nq = wr1 at *
        obtain ⟨c0, c1, c2, c3, c4, c5⟩ := (unhide HS1).cell
        have f := fun i => (unhide HS1).froz i
        go_wp2
        go_quiet (fail)
        have HS2 := hide ((unhide HS1).drew nq)
        have HO2 := hide ((unhide HO1).dn nq)
        have HB2 := hide (below_dn (unhide HB1) nq)
        clear c0 c1 c2 c3 c4 c5 f HS1 HO1 HB1
        generalize wr1.drewN nq = wr2 at *
        obtain ⟨c0, c1, c2, c3, c4, c5⟩ := (unhide HS2).cell
        have f := fun i => (unhide HS2).froz i
        go_wp2
        go_roundw
        case rel => exact ⟨j + 1, n, lk, lt, o, v, by omega, by omega, by omega, (unhide HS2).setAt (j + 1) (by go_num), (unhide HO2).only ((Only.refl B wr2 (Nat.le_of_lt (unhide HS2).lt)).setCell 1 _), (unhide HB2).setCell (Nat.le_refl _) _, by omega, unhide N⟩
        case measure =>
          rw [((unhide HS2).setAt (j + 1) (by go_num)).at_, unhide HA]
          omega
      by_cases hc10 : (by_ s j).toNat = 10
      · have q32 : (((by_ s j).toNat : Int) == 32) = false := by simp; omega
        have q9 : (((by_ s j).toNat : Int) == 9) = false := by simp; omega
        have q13 : (((by_ s j).toNat : Int) == 13) = false := by simp; omega
        have q10 : (((by_ s j).toNat : Int) == 10) = true := by simp; omega
        have N := hide (mids_line (unhide HM) hlt (cmt_no (by omega)) hc10)
        clear HM hc10 hc32 hc9 hc13
        go_wp2
        go_quiet (fail)
        have HS1 := hide ((unhide HS).drew nq)
        have HO1 := hide ((unhide HO).dn nq)
        have HB1 := hide (below_dn (unhide HB) nq)
        clear c0 c1 c2 c3 c4 c5 f HS HO HB
        generalize wr.drewN nq = wr1 at *
        obtain ⟨c0, c1, c2, c3, c4, c5⟩ := (unhide HS1).cell
        have f := fun i => (unhide HS1).froz i
        go_wp2
        go_quiet (fail)
        have HS2 := hide ((unhide HS1).drew nq)
        have HO2 := hide ((unhide HO1).dn nq)
        have HB2 := hide (below_dn (unhide HB1) nq)
        clear c0 c1 c2 c3 c4 c5 f HS1 HO1 HB1
        generalize wr1.drewN nq = wr2 at *
        obtain ⟨c0, c1, c2, c3, c4, c5⟩ := (unhide HS2).cell
        have f := fun i => (unhide HS2).froz i
        go_wp2_with fail
        refine (endline_any (unhide HS2) (unhide HO2) (by omega)).mono ?_
        rintro e w3 ⟨rfl, v3, hs3, ho3, hb3⟩
        clear c0 c1 c2 c3 c4 c5 f
        have HS3 := hide hs3
        have HO3 := hide ho3
        have HB3 := hide ((unhide HB2).trans hb3)
        obtain ⟨c0, c1, c2, c3, c4, c5⟩ := hs3.cell
        have f := fun i => hs3.froz i
        clear hs3 ho3 hb3 HS2 HO2 HB2
        go_wp2
        have HS4 := hide (((unhide HS3).setAt (z := (j : Int) + 1) (j + 1) (by omega)).setLine (z := (n : Int) + 1) (n + 1) (by omega))
        have HO4 := hide ((unhide HO3).only (((Only.refl B w3 (Nat.le_of_lt (unhide HS3).lt)).setCell 1 (.int .i64 ((j : Int) + 1))).setCell 2 (.int .i64 ((n : Int) + 1))))
        go_roundw
        case rel => exact ⟨j + 1, n + 1, 0, [], _, v3, by omega, by omega, by omega, unhide HS4, unhide HO4, ((unhide HB3).setCell (Nat.le_refl _) _).setCell (Nat.le_refl _) _, by rw [List.length_append]; split <;> simp <;> omega, unhide N⟩
        case measure =>
          rw [(unhide HS4).at_, unhide HA]
          omega
      have q32 : (((by_ s j).toNat : Int) == 32) = false := by simp; omega
      have q9 : (((by_ s j).toNat : Int) == 9) = false := by simp; omega
      have q13 : (((by_ s j).toNat : Int) == 13) = false := by simp; omega
      have q10 : (((by_ s j).toNat : Int) == 10) = false := by simp; omega
      have EX := hide (ext_list s j)
      have hR0 : (s.extract j s.size).size = s.size - j := ext_size s j (by omega)
      by_cases hcm : 0 < cmt (s.data.toList.drop j)
      · have N := hide (mids_comment (unhide HM) hlt hcm)
        have hcl := cmt_le (s.data.toList.drop j)
        rw [List.length_drop, ← size_len] at hcl
        have EU := hide (cmt_up hcm)
        have qp : pfx (⟨#[47, 47]⟩ : ByteArray).data.toList (s.extract j s.size).data.toList = true := by rw [unhide EX]; exact (pfx_cmt _).trans (decide_eq_true hcm)
        clear HM EX hc10 hc32 hc9 hc13
        go_wp2
        go_quiet (fail)
        have HS1 := hide ((unhide HS).drew nq)
        have HO1 := hide ((unhide HO).dn nq)
        have HB1 := hide (below_dn (unhide HB) nq)
        clear c0 c1 c2 c3 c4 c5 f HS HO HB
        generalize wr.drewN nq = wr1 at *
        obtain ⟨c0, c1, c2, c3, c4, c5⟩ := (unhide HS1).cell
        have f := fun i => (unhide HS1).froz i
        go_wp2
        go_quiet (fail)
        have HS2 := hide ((unhide HS1).drew nq)
        have HO2 := hide ((unhide HO1).dn nq)
        have HB2 := hide (below_dn (unhide HB1) nq)
        clear c0 c1 c2 c3 c4 c5 f HS1 HO1 HB1
        generalize wr1.drewN nq = wr2 at *
        obtain ⟨c0, c1, c2, c3, c4, c5⟩ := (unhide HS2).cell
        have f := fun i => (unhide HS2).froz i
        go_wp2
        go_quiet ((go_at_call 25; exact Calls.quiet_of_same (hasprefix_is qp _)))
        have HS3 := hide ((unhide HS2).drew nq)
        have HO3 := hide ((unhide HO2).dn nq)
        have HB3 := hide (below_dn (unhide HB2) nq)
        clear c0 c1 c2 c3 c4 c5 f HS2 HO2 HB2
        generalize wr2.drewN nq = wr3 at *
        obtain ⟨c0, c1, c2, c3, c4, c5⟩ := (unhide HS3).cell
        have f := fun i => (unhide HS3).froz i
        go_wp2_with fail
        refine (passcomment_any (by omega) (by omega) (unhide HS3)).mono ?_
        rintro e w4 ⟨rfl, hs4, ho4⟩
        rw [← unhide EU] at hs4
        have HS4 := hide hs4
        have HO4 := hide ((unhide HO3).only ho4)
        have HB4 := hide ((unhide HB3).trans ho4.below)
        clear hs4 ho4 c0 c1 c2 c3 c4 c5 f HS3 HO3 HB3 qp
        generalize cmt (s.data.toList.drop j) = cm at *
        go_wp2
        go_roundw
        case rel => exact ⟨j + cm, n, lk, lt, o, v, by omega, by omega, by omega, unhide HS4, unhide HO4, unhide HB4, by omega, unhide N⟩
        case measure =>
          rw [(unhide HS4).at_, unhide HA]
          omega
      · have qp : pfx (⟨#[47, 47]⟩ : ByteArray).data.toList (s.extract j s.size).data.toList = false := by rw [unhide EX]; exact (pfx_cmt _).trans (decide_eq_false hcm)
        have NN := hide (show ¬ j < s.size ∨ (¬ 0 < cmt (s.data.toList.drop j) ∧ ¬ (by_ s j).toNat = 10 ∧ ¬ ((by_ s j).toNat = 32 ∨ (by_ s j).toNat = 9 ∨ (by_ s j).toNat = 13)) from Or.inr ⟨hcm, hc10, by omega⟩)
        clear EX hcm hc10 hc32 hc9 hc13
        go_wp2
        go_quiet (fail)
        have HS1 := hide ((unhide HS).drew nq)
        have HO1 := hide ((unhide HO).dn nq)
        have HB1 := hide (below_dn (unhide HB) nq)
        clear c0 c1 c2 c3 c4 c5 f HS HO HB
        generalize wr.drewN nq = wr1 at *
        obtain ⟨c0, c1, c2, c3, c4, c5⟩ := (unhide HS1).cell
        have f := fun i => (unhide HS1).froz i
        go_wp2
        go_quiet (fail)
        have HS2 := hide ((unhide HS1).drew nq)
        have HO2 := hide ((unhide HO1).dn nq)
        have HB2 := hide (below_dn (unhide HB1) nq)
        clear c0 c1 c2 c3 c4 c5 f HS1 HO1 HB1
        generalize wr1.drewN nq = wr2 at *
        obtain ⟨c0, c1, c2, c3, c4, c5⟩ := (unhide HS2).cell
        have f := fun i => (unhide HS2).froz i
        go_wp2
        go_quiet ((go_at_call 25; exact Calls.quiet_of_same (hasprefix_is qp _)))
        have HS3 := hide ((unhide HS2).drew nq)
        have HO3 := hide ((unhide HO2).dn nq)
        have HB3 := hide (below_dn (unhide HB2) nq)
        clear c0 c1 c2 c3 c4 c5 f HS2 HO2 HB2
        generalize wr2.drewN nq = wr3 at *
        obtain ⟨c0, c1, c2, c3, c4, c5⟩ := (unhide HS3).cell
        have f := fun i => (unhide HS3).froz i
        go_wp2
        refine bodyPost_ret (by simp [results, Tryd.results10, go_sem]; try rfl) rfl ?_
        exact ⟨rfl, j, n, lk, lt, o, v, hkj, hj, hn, unhide HS3, unhide HO3, unhide HB3, hol, unhide HM, unhide NN⟩
    · have q : decide ((j : Int) < (s.size : Int)) = false := decide_eq_false (by omega)
      go_wp2
      go_quiet (fail)
      have HS1 := hide ((unhide HS).drew nq)
      have HO1 := hide ((unhide HO).dn nq)
      have HB1 := hide (below_dn (unhide HB) nq)
      clear c0 c1 c2 c3 c4 c5 f HS HO HB
      generalize wr.drewN nq = wr1 at *
      obtain ⟨c0, c1, c2, c3, c4, c5⟩ := (unhide HS1).cell
      have f := fun i => (unhide HS1).froz i
      go_wp2
      go_end0
      exact ⟨rfl, j, n, lk, lt, o, v, hkj, hj, hn, unhide HS1, unhide HO1, unhide HB1, hol, unhide HM, Or.inl hlt⟩

end Go.Proofs.YtkbgnbcphmkjkaaDoor
