/- Parse, of the program. -/
import Derived.Test.YtoomeadlpgmaaaaDoorNumP
namespace Go.Proofs.YtoomeadlpgmaaaaDoor
open Go.RowKit

/-- what Parse answers -/
def pv (l : List UInt8) : Int := if isForm l && decide (dval 0 (mag l) ≤ lim l) then pval l else 0
def pe (l : List UInt8) : Int := if isForm l then (if decide (dval 0 (mag l) ≤ lim l) then 0 else 22) else 21

theorem p_no {l : List UInt8} (h : isForm l = false) : 0 = pv l ∧ 21 = pe l := by unfold pv pe; rw [h]; exact ⟨rfl, rfl⟩
theorem p_range {l : List UInt8} (h : isForm l = true) (hv : ¬ dval 0 (mag l) ≤ lim l) : 0 = pv l ∧ 22 = pe l := by unfold pv pe; rw [h, decide_eq_false hv]; exact ⟨rfl, rfl⟩
theorem p_ok {l : List UInt8} (h : isForm l = true) (hv : dval 0 (mag l) ≤ lim l) : pval l = pv l ∧ 0 = pe l := by unfold pv pe; rw [h, decide_eq_true hv]; exact ⟨rfl, rfl⟩

theorem ret_p {l : List UInt8} {a b : Int} (h : a = pv l ∧ b = pe l) : Ending.returned (.tuple #[.int .i64 a, .int .i64 b]) = .returned (.tuple #[.int .i64 (pv l), .int .i64 (pe l)]) := by rw [h.1, h.2]

set_option maxHeartbeats 1000000 in
theorem parse_any (s : ByteArray) (w : World) (hs : s.size ≤ 281474976710656) (h : Vars w) :
    Calls Tryd.prog 7 #[.string s] w fun e w' => e = .returned (.tuple #[.int .i64 (pv s.data.toList), .int .i64 (pe s.data.toList)]) ∧ Below w.heap.size w w' := by
  have HV := hide h
  clear h
  cases hf : isForm s.data.toList
  · have E := hide (p_no hf)
    go_enter Tryd.func7, Tryd.ntmps7
    go_wp2_with (go_at_call 13; refine (form_any s w hs).mono ?_; rintro e w' ⟨rfl, rfl⟩)
    go_ret2
    exact ⟨ret_p (unhide E), Below.refl _ _⟩
  · by_cases hv : dval 0 (mag s.data.toList) ≤ lim s.data.toList
    · have E := hide (p_ok hf hv)
      have HP := hide (parse_ok ((isForm_iff _).1 hf) hv)
      clear hv
      go_enter Tryd.func7, Tryd.ntmps7
      go_wp2_with fail
      refine (form_any s w hs).mono ?_
      rintro e w' ⟨rfl, rfl⟩
      rw [hf]
      go_wp2_with fail
      refine (pi_ok s hs _ (unhide HP) _).mono ?_
      rintro e w1 ⟨rfl, b1⟩
      have HB := hide b1
      clear b1
      go_wp2
      go_ret2
      exact ⟨ret_p (unhide E), unhide HB⟩
    · have E := hide (p_range hf hv)
      have HP := hide (parse_range ((isForm_iff _).1 hf) hv)
      clear hv
      go_enter Tryd.func7, Tryd.ntmps7
      go_wp2_with fail
      refine (form_any s w hs).mono ?_
      rintro e w' ⟨rfl, rfl⟩
      rw [hf]
      go_wp2_with fail
      refine (pi_range s hs (unhide HP) _ (unhide HV)).mono ?_
      rintro e w1 ⟨⟨v, t, x, rfl⟩, b1⟩
      have HB := hide b1
      clear b1
      go_wp2
      go_ret2
      exact ⟨ret_p (unhide E), unhide HB⟩

end Go.Proofs.YtoomeadlpgmaaaaDoor
