/- Parse, of the program. -/
import Derived.Test.YtkbgnbcphmkjkaaDoorNumP
namespace Go.Proofs.YtkbgnbcphmkjkaaDoor
open Go.RowKit

set_option maxHeartbeats 1000000 in
theorem parse_any (s : ByteArray) (w : World) (hs : s.size ≤ 281474976710656) (h : Vars w) :
    Calls Tryd.prog 45 #[.string s] w fun e w' => e = .returned (.tuple #[.int .i64 (pv s.data.toList), .int .i64 (pe s.data.toList)]) ∧ Below w.heap.size w w' := by
  have HV := hide h
  clear h
  cases hf : isForm s.data.toList
  · have E := hide (p_no hf)
    go_enter Tryd.func45, Tryd.ntmps45
    go_wp2_with (go_at_call 50; refine (form_any s w hs).mono ?_; rintro e w' ⟨rfl, rfl⟩)
    go_ret2
    exact ⟨ret_p (unhide E), Below.refl _ _⟩
  · by_cases hv : dval 0 (mag s.data.toList) ≤ lim s.data.toList
    · have E := hide (p_ok hf hv)
      have HP := hide (parse_ok ((isForm_iff _).1 hf) hv)
      clear hv
      go_enter Tryd.func45, Tryd.ntmps45
      go_wp2_with fail
      refine (form_any s w hs).mono ?_
      rintro e w' ⟨rfl, rfl⟩
      rw [hf]
      go_wp2_with fail
      refine (pi_ok s hs _ (unhide HP) _).mono ?_
      rintro e w1 ⟨rfl, b1⟩
      have HB := hide b1
      clear b1
      go_wp2
      go_ret2
      exact ⟨ret_p (unhide E), unhide HB⟩
    · have E := hide (p_range hf hv)
      have HP := hide (parse_range ((isForm_iff _).1 hf) hv)
      clear hv
      go_enter Tryd.func45, Tryd.ntmps45
      go_wp2_with fail
      refine (form_any s w hs).mono ?_
      rintro e w' ⟨rfl, rfl⟩
      rw [hf]
      go_wp2_with fail
      refine (pi_range s hs (unhide HP) _ (unhide HV)).mono ?_
      rintro e w1 ⟨⟨v, t, x, rfl⟩, b1⟩
      have HB := hide b1
      clear b1
      go_wp2
      go_ret2
      exact ⟨ret_p (unhide E), unhide HB⟩

end Go.Proofs.YtkbgnbcphmkjkaaDoor
