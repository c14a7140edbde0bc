/- Which instructions may be: the document's. Walk: the document's depths. Where jumps may go: the document's ways. A function held against the rules: the document's. A program's sizes, items and main: the document's wholes. Check: the document's. -/
import Derived.Test.YtgheaieghoekhaaDoorCl
import Derived.Test.YtgheaieghoekhaaDoorRXa
import Derived.Test.YtgheaieghoekhaaDoorCe
namespace Go.Proofs.YtgheaieghoekhaaDoor
open Go.RowKit

def jmpB (op : Int) : Bool := decide (op = 21) || decide (op = 22) || decide (op = 23)
def nxtB (op : Int) : Bool := !(decide (op = 21) || decide (op = 26) || decide (op = 27))

set_option maxHeartbeats 1000000 in
theorem jmp_any (op : Int) (w : World) : Calls Tryd.prog 79 #[.int .i64 op] w fun e w' => e = .returned (.bool (jmpB op)) ∧ w' = w := by
  by_cases c21 : op = 21
  · subst c21
    go_enter Tryd.func79, Tryd.ntmps79
    go_wp2
    go_ret
    exact ⟨rfl, rfl⟩
  have q21 : (op == 21) = false := by simpa using c21
  have r21 : (op != 21) = true := by simpa using c21
  by_cases c22 : op = 22
  · subst c22
    go_enter Tryd.func79, Tryd.ntmps79
    go_wp2
    go_ret
    exact ⟨rfl, rfl⟩
  have q22 : (op == 22) = false := by simpa using c22
  have r22 : (op != 22) = true := by simpa using c22
  by_cases c23 : op = 23
  · subst c23
    go_enter Tryd.func79, Tryd.ntmps79
    go_wp2
    go_ret
    exact ⟨rfl, rfl⟩
  have q23 : (op == 23) = false := by simpa using c23
  have r23 : (op != 23) = true := by simpa using c23
  have E := hide (show jmpB op = false by simp [jmpB, c21, c22, c23])
  clear c21 c22 c23
  go_enter Tryd.func79, Tryd.ntmps79
  go_wp2
  go_ret
  exact ⟨ret_bool (unhide E).symm, rfl⟩

set_option maxHeartbeats 1000000 in
theorem nxt_any (op : Int) (w : World) : Calls Tryd.prog 80 #[.int .i64 op] w fun e w' => e = .returned (.bool (nxtB op)) ∧ w' = w := by
  by_cases c21 : op = 21
  · subst c21
    go_enter Tryd.func80, Tryd.ntmps80
    go_wp2
    go_ret
    exact ⟨rfl, rfl⟩
  have q21 : (op == 21) = false := by simpa using c21
  have r21 : (op != 21) = true := by simpa using c21
  by_cases c26 : op = 26
  · subst c26
    go_enter Tryd.func80, Tryd.ntmps80
    go_wp2
    go_ret
    exact ⟨rfl, rfl⟩
  have q26 : (op == 26) = false := by simpa using c26
  have r26 : (op != 26) = true := by simpa using c26
  by_cases c27 : op = 27
  · subst c27
    go_enter Tryd.func80, Tryd.ntmps80
    go_wp2
    go_ret
    exact ⟨rfl, rfl⟩
  have q27 : (op == 27) = false := by simpa using c27
  have r27 : (op != 27) = true := by simpa using c27
  have E := hide (show nxtB op = true by simp [nxtB, c21, c26, c27])
  clear c21 c26 c27
  go_enter Tryd.func80, Tryd.ntmps80
  go_wp2
  go_ret
  exact ⟨ret_bool (unhide E).symm, rfl⟩

section
variable {N : Nat} {w : World} {v1 v2 v3 v : Value} {p : Pg} (h : PgAt N w v1 v2 v3 p) (hN : N ≤ w.heap.size) (f : Fu)

set_option maxRecDepth 100000 in
set_option maxHeartbeats 4000000 in
theorem may_low (i : In) (c : i.op < 1) : Calls Tryd.prog 71 #[pv v1 v2 v3 p.mn, fv f v, iv i] w fun e w' => e = .returned (.bool (okI p f i)) ∧ Below w.heap.size w w' := by
  have E := hide (show okI p f i = false by simp [okI, knw]; omega)
  go_enter Tryd.func71, Tryd.ntmps71
  go_wp2
  go_ret
  exact ⟨ret_bool (unhide E).symm, below3 _ _ _ _⟩

set_option maxRecDepth 100000 in
set_option maxHeartbeats 4000000 in
theorem may_high (i : In) (c : 43 < i.op) : Calls Tryd.prog 71 #[pv v1 v2 v3 p.mn, fv f v, iv i] w fun e w' => e = .returned (.bool (okI p f i)) ∧ Below w.heap.size w w' := by
  have E := hide (show okI p f i = false by simp [okI, knw]; omega)
  have q0 : decide (i.op < 1) = false := by simp; omega
  go_enter Tryd.func71, Tryd.ntmps71
  go_wp2
  go_ret
  exact ⟨ret_bool (unhide E).symm, below3 _ _ _ _⟩

set_option maxRecDepth 100000 in
set_option maxHeartbeats 4000000 in
theorem may_line (i : In) (c0 : 0 < i.op) (c1 : i.op < 44) (c : i.l < 0 ∨ 2147483647 < i.l) : Calls Tryd.prog 71 #[pv v1 v2 v3 p.mn, fv f v, iv i] w fun e w' => e = .returned (.bool (okI p f i)) ∧ Below w.heap.size w w' := by
  have q0 : decide (i.op < 1) = false := by simp; omega
  have q1 : decide (43 < i.op) = false := by simp; omega
  have E := hide (show okI p f i = false by have : rNum p f i = false := by (unfold rNum; simp; omega)
                                            simp [okI, this])
  by_cases c2 : i.l < 0
  · clear c
    go_enter Tryd.func71, Tryd.ntmps71
    go_wp2
    go_ret
    exact ⟨ret_bool (unhide E).symm, below3 _ _ _ _⟩
  have c3 : 2147483647 < i.l := by omega
  have q2 : decide (i.l < 0) = false := by simpa using c2
  clear c
  go_enter Tryd.func71, Tryd.ntmps71
  go_wp2
  go_ret
  exact ⟨ret_bool (unhide E).symm, below3 _ _ _ _⟩

set_option maxRecDepth 100000 in
set_option maxHeartbeats 4000000 in
theorem may_b (i : In) (c0 : 0 < i.op) (c1 : i.op < 44) (c2 : 0 ≤ i.l) (c3 : i.l ≤ 2147483647) (c4 : i.b ≠ 0) (c : i.op ≠ 41 ∨ i.b ≠ 1) : Calls Tryd.prog 71 #[pv v1 v2 v3 p.mn, fv f v, iv i] w fun e w' => e = .returned (.bool (okI p f i)) ∧ Below w.heap.size w w' := by
  have q0 : decide (i.op < 1) = false := by simp; omega
  have q1 : decide (43 < i.op) = false := by simp; omega
  have q2 : decide (i.l < 0) = false := by simp; omega
  have q3 : decide (2147483647 < i.l) = false := by simp; omega
  have E := hide (show okI p f i = false by have : rNum p f i = false := by (unfold rNum rNumB; rcases c with c | c <;> simp [c4, c])
                                            simp [okI, this])
  have q4 : (i.b != 0) = true := by simpa using c4
  by_cases c5 : i.op = 41
  · have c6 : i.b ≠ 1 := by rcases c with c | c; exact absurd c5 c; exact c
    have q5 : (i.op != 41) = false := by simpa using c5
    have q6 : (i.b != 1) = true := by simpa using c6
    clear c c5 c6
    go_enter Tryd.func71, Tryd.ntmps71
    go_wp2
    go_ret
    exact ⟨ret_bool (unhide E).symm, below3 _ _ _ _⟩
  have q5 : (i.op != 41) = true := by simpa using c5
  clear c c5
  go_enter Tryd.func71, Tryd.ntmps71
  go_wp2
  go_ret
  exact ⟨ret_bool (unhide E).symm, below3 _ _ _ _⟩

set_option maxRecDepth 100000 in
set_option maxHeartbeats 4000000 in
theorem may_2 (a l : Int) (c2 : 0 ≤ l) (c3 : l ≤ 2147483647) : Calls Tryd.prog 71 #[pv v1 v2 v3 p.mn, fv f v, iv ⟨2, a, 0, l⟩] w fun e w' => e = .returned (.bool (okI p f ⟨2, a, 0, l⟩)) ∧ Below w.heap.size w w' := by
  have q2 : decide (l < 0) = false := by simp; omega
  have q3 : decide (2147483647 < l) = false := by simp; omega
  have E := hide (show okI p f ⟨2, a, 0, l⟩ = true by simp [okI, rNum, rNumA, rNumB, rRet, knw, nmd, tA, c2, c3])
  go_enter Tryd.func71, Tryd.ntmps71
  go_wp2
  go_ret
  exact ⟨ret_bool (unhide E).symm, below3 _ _ _ _⟩

set_option maxRecDepth 100000 in
set_option maxHeartbeats 4000000 in
theorem may_21 (a l : Int) (c2 : 0 ≤ l) (c3 : l ≤ 2147483647) : Calls Tryd.prog 71 #[pv v1 v2 v3 p.mn, fv f v, iv ⟨21, a, 0, l⟩] w fun e w' => e = .returned (.bool (okI p f ⟨21, a, 0, l⟩)) ∧ Below w.heap.size w w' := by
  have q2 : decide (l < 0) = false := by simp; omega
  have q3 : decide (2147483647 < l) = false := by simp; omega
  have E := hide (show okI p f ⟨21, a, 0, l⟩ = true by simp [okI, rNum, rNumA, rNumB, rRet, knw, nmd, tA, c2, c3])
  go_enter Tryd.func71, Tryd.ntmps71
  go_wp2
  go_ret
  exact ⟨ret_bool (unhide E).symm, below3 _ _ _ _⟩

set_option maxRecDepth 100000 in
set_option maxHeartbeats 4000000 in
theorem may_22 (a l : Int) (c2 : 0 ≤ l) (c3 : l ≤ 2147483647) : Calls Tryd.prog 71 #[pv v1 v2 v3 p.mn, fv f v, iv ⟨22, a, 0, l⟩] w fun e w' => e = .returned (.bool (okI p f ⟨22, a, 0, l⟩)) ∧ Below w.heap.size w w' := by
  have q2 : decide (l < 0) = false := by simp; omega
  have q3 : decide (2147483647 < l) = false := by simp; omega
  have E := hide (show okI p f ⟨22, a, 0, l⟩ = true by simp [okI, rNum, rNumA, rNumB, rRet, knw, nmd, tA, c2, c3])
  go_enter Tryd.func71, Tryd.ntmps71
  go_wp2
  go_ret
  exact ⟨ret_bool (unhide E).symm, below3 _ _ _ _⟩

set_option maxRecDepth 100000 in
set_option maxHeartbeats 4000000 in
theorem may_23 (a l : Int) (c2 : 0 ≤ l) (c3 : l ≤ 2147483647) : Calls Tryd.prog 71 #[pv v1 v2 v3 p.mn, fv f v, iv ⟨23, a, 0, l⟩] w fun e w' => e = .returned (.bool (okI p f ⟨23, a, 0, l⟩)) ∧ Below w.heap.size w w' := by
  have q2 : decide (l < 0) = false := by simp; omega
  have q3 : decide (2147483647 < l) = false := by simp; omega
  have E := hide (show okI p f ⟨23, a, 0, l⟩ = true by simp [okI, rNum, rNumA, rNumB, rRet, knw, nmd, tA, c2, c3])
  go_enter Tryd.func71, Tryd.ntmps71
  go_wp2
  go_ret
  exact ⟨ret_bool (unhide E).symm, below3 _ _ _ _⟩

set_option maxRecDepth 100000 in
set_option maxHeartbeats 4000000 in
theorem may_4 (a l : Int) (c2 : 0 ≤ l) (c3 : l ≤ 2147483647) : Calls Tryd.prog 71 #[pv v1 v2 v3 p.mn, fv f v, iv ⟨4, a, 0, l⟩] w fun e w' => e = .returned (.bool (okI p f ⟨4, a, 0, l⟩)) ∧ Below w.heap.size w w' := by
  have q2 : decide (l < 0) = false := by simp; omega
  have q3 : decide (2147483647 < l) = false := by simp; omega
  have E := hide (show okI p f ⟨4, a, 0, l⟩ = (decide (0 ≤ a) && decide (a < f.sl)) by simp [okI, rNum, rNumA, rNumB, rRet, knw, tA, c2, c3])
  by_cases ha : 0 ≤ a
  · have E2 := hide ((unhide E).trans (show _ = decide (a < f.sl) by simp [ha]))
    go_enter Tryd.func71, Tryd.ntmps71
    go_wp2
    go_ret
    exact ⟨ret_bool (unhide E2).symm, below3 _ _ _ _⟩
  · have E2 := hide ((unhide E).trans (show _ = false by simp [ha]))
    have qa : decide (0 ≤ a) = false := by simpa using ha
    clear ha
    go_enter Tryd.func71, Tryd.ntmps71
    go_wp2
    go_ret
    exact ⟨ret_bool (unhide E2).symm, below3 _ _ _ _⟩

set_option maxRecDepth 100000 in
set_option maxHeartbeats 4000000 in
theorem may_5 (a l : Int) (c2 : 0 ≤ l) (c3 : l ≤ 2147483647) : Calls Tryd.prog 71 #[pv v1 v2 v3 p.mn, fv f v, iv ⟨5, a, 0, l⟩] w fun e w' => e = .returned (.bool (okI p f ⟨5, a, 0, l⟩)) ∧ Below w.heap.size w w' := by
  have q2 : decide (l < 0) = false := by simp; omega
  have q3 : decide (2147483647 < l) = false := by simp; omega
  have E := hide (show okI p f ⟨5, a, 0, l⟩ = (decide (0 ≤ a) && decide (a < f.sl)) by simp [okI, rNum, rNumA, rNumB, rRet, knw, tA, c2, c3])
  by_cases ha : 0 ≤ a
  · have E2 := hide ((unhide E).trans (show _ = decide (a < f.sl) by simp [ha]))
    go_enter Tryd.func71, Tryd.ntmps71
    go_wp2
    go_ret
    exact ⟨ret_bool (unhide E2).symm, below3 _ _ _ _⟩
  · have E2 := hide ((unhide E).trans (show _ = false by simp [ha]))
    have qa : decide (0 ≤ a) = false := by simpa using ha
    clear ha
    go_enter Tryd.func71, Tryd.ntmps71
    go_wp2
    go_ret
    exact ⟨ret_bool (unhide E2).symm, below3 _ _ _ _⟩

set_option maxRecDepth 100000 in
set_option maxHeartbeats 4000000 in
theorem may_6 (a l : Int) (c2 : 0 ≤ l) (c3 : l ≤ 2147483647) : Calls Tryd.prog 71 #[pv v1 v2 v3 p.mn, fv f v, iv ⟨6, a, 0, l⟩] w fun e w' => e = .returned (.bool (okI p f ⟨6, a, 0, l⟩)) ∧ Below w.heap.size w w' := by
  have q2 : decide (l < 0) = false := by simp; omega
  have q3 : decide (2147483647 < l) = false := by simp; omega
  have E := hide (show okI p f ⟨6, a, 0, l⟩ = (decide (0 ≤ a) && decide (a < f.sl)) by simp [okI, rNum, rNumA, rNumB, rRet, knw, tA, c2, c3])
  by_cases ha : 0 ≤ a
  · have E2 := hide ((unhide E).trans (show _ = decide (a < f.sl) by simp [ha]))
    go_enter Tryd.func71, Tryd.ntmps71
    go_wp2
    go_ret
    exact ⟨ret_bool (unhide E2).symm, below3 _ _ _ _⟩
  · have E2 := hide ((unhide E).trans (show _ = false by simp [ha]))
    have qa : decide (0 ≤ a) = false := by simpa using ha
    clear ha
    go_enter Tryd.func71, Tryd.ntmps71
    go_wp2
    go_ret
    exact ⟨ret_bool (unhide E2).symm, below3 _ _ _ _⟩

include h in
set_option maxRecDepth 100000 in
set_option maxHeartbeats 4000000 in
theorem may_24 (a l : Int) (c2 : 0 ≤ l) (c3 : l ≤ 2147483647) : Calls Tryd.prog 71 #[pv v1 v2 v3 p.mn, fv f v, iv ⟨24, a, 0, l⟩] w fun e w' => e = .returned (.bool (okI p f ⟨24, a, 0, l⟩)) ∧ Below w.heap.size w w' := by
  have q2 : decide (l < 0) = false := by simp; omega
  have q3 : decide (2147483647 < l) = false := by simp; omega
  obtain ⟨b1, o1, ⟨a1, z1, rfl, -, hm1, -⟩, -⟩ := h.hf
  clear h
  have E := hide (show okI p f ⟨24, a, 0, l⟩ = (decide (0 ≤ a) && decide (a < (p.fs.length : Int))) by simp [okI, rNum, rNumA, rNumB, rRet, knw, nmd, wthn, tA, c2, c3])
  by_cases ha : 0 ≤ a
  · have E2 := hide ((unhide E).trans (show _ = decide (a < (p.fs.length : Int)) by simp [ha]))
    go_enter Tryd.func71, Tryd.ntmps71
    go_wp2
    go_ret
    exact ⟨ret_bool (unhide E2).symm, below3 _ _ _ _⟩
  · have E2 := hide ((unhide E).trans (show _ = false by simp [ha]))
    have qa : decide (0 ≤ a) = false := by simpa using ha
    clear ha
    go_enter Tryd.func71, Tryd.ntmps71
    go_wp2
    go_ret
    exact ⟨ret_bool (unhide E2).symm, below3 _ _ _ _⟩

include h in
set_option maxRecDepth 100000 in
set_option maxHeartbeats 4000000 in
theorem may_25 (a l : Int) (c2 : 0 ≤ l) (c3 : l ≤ 2147483647) : Calls Tryd.prog 71 #[pv v1 v2 v3 p.mn, fv f v, iv ⟨25, a, 0, l⟩] w fun e w' => e = .returned (.bool (okI p f ⟨25, a, 0, l⟩)) ∧ Below w.heap.size w w' := by
  have q2 : decide (l < 0) = false := by simp; omega
  have q3 : decide (2147483647 < l) = false := by simp; omega
  obtain ⟨b1, o1, ⟨a1, z1, rfl, -, hm1, -⟩, -⟩ := h.hf
  clear h
  have E := hide (show okI p f ⟨25, a, 0, l⟩ = (decide (0 ≤ a) && decide (a < (p.fs.length : Int))) by simp [okI, rNum, rNumA, rNumB, rRet, knw, nmd, wthn, tA, c2, c3])
  by_cases ha : 0 ≤ a
  · have E2 := hide ((unhide E).trans (show _ = decide (a < (p.fs.length : Int)) by simp [ha]))
    go_enter Tryd.func71, Tryd.ntmps71
    go_wp2
    go_ret
    exact ⟨ret_bool (unhide E2).symm, below3 _ _ _ _⟩
  · have E2 := hide ((unhide E).trans (show _ = false by simp [ha]))
    have qa : decide (0 ≤ a) = false := by simpa using ha
    clear ha
    go_enter Tryd.func71, Tryd.ntmps71
    go_wp2
    go_ret
    exact ⟨ret_bool (unhide E2).symm, below3 _ _ _ _⟩

include h in
set_option maxRecDepth 100000 in
set_option maxHeartbeats 4000000 in
theorem may_41 (a l : Int) (c2 : 0 ≤ l) (c3 : l ≤ 2147483647) : Calls Tryd.prog 71 #[pv v1 v2 v3 p.mn, fv f v, iv ⟨41, a, 0, l⟩] w fun e w' => e = .returned (.bool (okI p f ⟨41, a, 0, l⟩)) ∧ Below w.heap.size w w' := by
  have q2 : decide (l < 0) = false := by simp; omega
  have q3 : decide (2147483647 < l) = false := by simp; omega
  obtain ⟨b1, o1, ⟨a1, z1, rfl, -, hm1, -⟩, -⟩ := h.ha
  clear h
  have E := hide (show okI p f ⟨41, a, 0, l⟩ = (decide (0 ≤ a) && decide (a < (p.ar.length : Int))) by simp [okI, rNum, rNumA, rNumB, rRet, knw, nmd, wthn, tA, c2, c3])
  by_cases ha : 0 ≤ a
  · have E2 := hide ((unhide E).trans (show _ = decide (a < (p.ar.length : Int)) by simp [ha]))
    go_enter Tryd.func71, Tryd.ntmps71
    go_wp2
    go_ret
    exact ⟨ret_bool (unhide E2).symm, below3 _ _ _ _⟩
  · have E2 := hide ((unhide E).trans (show _ = false by simp [ha]))
    have qa : decide (0 ≤ a) = false := by simpa using ha
    clear ha
    go_enter Tryd.func71, Tryd.ntmps71
    go_wp2
    go_ret
    exact ⟨ret_bool (unhide E2).symm, below3 _ _ _ _⟩

include h in
set_option maxRecDepth 100000 in
set_option maxHeartbeats 4000000 in
theorem may_41b (a l : Int) (c2 : 0 ≤ l) (c3 : l ≤ 2147483647) : Calls Tryd.prog 71 #[pv v1 v2 v3 p.mn, fv f v, iv ⟨41, a, 1, l⟩] w fun e w' => e = .returned (.bool (okI p f ⟨41, a, 1, l⟩)) ∧ Below w.heap.size w w' := by
  have q2 : decide (l < 0) = false := by simp; omega
  have q3 : decide (2147483647 < l) = false := by simp; omega
  obtain ⟨b1, o1, ⟨a1, z1, rfl, -, hm1, -⟩, -⟩ := h.ha
  clear h
  have E := hide (show okI p f ⟨41, a, 1, l⟩ = (decide (0 ≤ a) && decide (a < (p.ar.length : Int))) by simp [okI, rNum, rNumA, rNumB, rRet, knw, nmd, wthn, tA, c2, c3])
  by_cases ha : 0 ≤ a
  · have E2 := hide ((unhide E).trans (show _ = decide (a < (p.ar.length : Int)) by simp [ha]))
    go_enter Tryd.func71, Tryd.ntmps71
    go_wp2
    go_ret
    exact ⟨ret_bool (unhide E2).symm, below3 _ _ _ _⟩
  · have E2 := hide ((unhide E).trans (show _ = false by simp [ha]))
    have qa : decide (0 ≤ a) = false := by simpa using ha
    clear ha
    go_enter Tryd.func71, Tryd.ntmps71
    go_wp2
    go_ret
    exact ⟨ret_bool (unhide E2).symm, below3 _ _ _ _⟩

include h in
set_option maxRecDepth 100000 in
set_option maxHeartbeats 4000000 in
theorem may_43 (a l : Int) (c2 : 0 ≤ l) (c3 : l ≤ 2147483647) : Calls Tryd.prog 71 #[pv v1 v2 v3 p.mn, fv f v, iv ⟨43, a, 0, l⟩] w fun e w' => e = .returned (.bool (okI p f ⟨43, a, 0, l⟩)) ∧ Below w.heap.size w w' := by
  have q2 : decide (l < 0) = false := by simp; omega
  have q3 : decide (2147483647 < l) = false := by simp; omega
  obtain ⟨b1, o1, ⟨a1, z1, rfl, -, hm1, -⟩, -⟩ := h.hp
  clear h
  have E := hide (show okI p f ⟨43, a, 0, l⟩ = (decide (0 ≤ a) && decide (a < (p.ps.length : Int))) by simp [okI, rNum, rNumA, rNumB, rRet, knw, nmd, wthn, tA, c2, c3])
  by_cases ha : 0 ≤ a
  · have E2 := hide ((unhide E).trans (show _ = decide (a < (p.ps.length : Int)) by simp [ha]))
    go_enter Tryd.func71, Tryd.ntmps71
    go_wp2
    go_ret
    exact ⟨ret_bool (unhide E2).symm, below3 _ _ _ _⟩
  · have E2 := hide ((unhide E).trans (show _ = false by simp [ha]))
    have qa : decide (0 ≤ a) = false := by simpa using ha
    clear ha
    go_enter Tryd.func71, Tryd.ntmps71
    go_wp2
    go_ret
    exact ⟨ret_bool (unhide E2).symm, below3 _ _ _ _⟩

set_option maxRecDepth 100000 in
set_option maxHeartbeats 4000000 in
theorem may_26 (a l : Int) (c2 : 0 ≤ l) (c3 : l ≤ 2147483647) : Calls Tryd.prog 71 #[pv v1 v2 v3 p.mn, fv f v, iv ⟨26, a, 0, l⟩] w fun e w' => e = .returned (.bool (okI p f ⟨26, a, 0, l⟩)) ∧ Below w.heap.size w w' := by
  have q2 : decide (l < 0) = false := by simp; omega
  have q3 : decide (2147483647 < l) = false := by simp; omega
  cases hr : f.rs
  · have hr2 : f.rs = false := hr
    have E := hide (show okI p f ⟨26, a, 0, l⟩ = (decide (0 ≤ a) && decide (a < 1)) by simp [okI, rNum, rNumA, rNumB, rRet, knw, tA, hr2, c2, c3]; first | omega | (by_cases ha : a = 0 <;> simp [ha] <;> omega))
    obtain ⟨nm, pa, sl, rs, cd⟩ := f
    simp only at hr2
    subst hr2
    clear hr
    by_cases ha : 0 ≤ a
    · have E2 := hide ((unhide E).trans (show _ = decide (a < 1) by simp [ha]))
      go_enter Tryd.func71, Tryd.ntmps71
      go_wp2
      go_ret
      exact ⟨ret_bool (unhide E2).symm, below3 _ _ _ _⟩
    · have E2 := hide ((unhide E).trans (show _ = false by simp [ha]))
      have qa : decide (0 ≤ a) = false := by simpa using ha
      clear ha
      go_enter Tryd.func71, Tryd.ntmps71
      go_wp2
      go_ret
      exact ⟨ret_bool (unhide E2).symm, below3 _ _ _ _⟩
  · have hr2 : f.rs = true := hr
    have E := hide (show okI p f ⟨26, a, 0, l⟩ = false by simp [okI, rRet, hr2])
    obtain ⟨nm, pa, sl, rs, cd⟩ := f
    simp only at hr2
    subst hr2
    clear hr
    go_enter Tryd.func71, Tryd.ntmps71
    go_wp2
    go_ret
    exact ⟨ret_bool (unhide E).symm, below3 _ _ _ _⟩

set_option maxRecDepth 100000 in
set_option maxHeartbeats 4000000 in
theorem may_27 (a l : Int) (c2 : 0 ≤ l) (c3 : l ≤ 2147483647) : Calls Tryd.prog 71 #[pv v1 v2 v3 p.mn, fv f v, iv ⟨27, a, 0, l⟩] w fun e w' => e = .returned (.bool (okI p f ⟨27, a, 0, l⟩)) ∧ Below w.heap.size w w' := by
  have q2 : decide (l < 0) = false := by simp; omega
  have q3 : decide (2147483647 < l) = false := by simp; omega
  cases hr : f.rs
  · have hr2 : f.rs = false := hr
    have E := hide (show okI p f ⟨27, a, 0, l⟩ = false by simp [okI, rRet, hr2])
    obtain ⟨nm, pa, sl, rs, cd⟩ := f
    simp only at hr2
    subst hr2
    clear hr
    go_enter Tryd.func71, Tryd.ntmps71
    go_wp2
    go_ret
    exact ⟨ret_bool (unhide E).symm, below3 _ _ _ _⟩
  · have hr2 : f.rs = true := hr
    have E := hide (show okI p f ⟨27, a, 0, l⟩ = (decide (0 ≤ a) && decide (a < 1)) by simp [okI, rNum, rNumA, rNumB, rRet, knw, tA, hr2, c2, c3]; first | omega | (by_cases ha : a = 0 <;> simp [ha] <;> omega))
    obtain ⟨nm, pa, sl, rs, cd⟩ := f
    simp only at hr2
    subst hr2
    clear hr
    by_cases ha : 0 ≤ a
    · have E2 := hide ((unhide E).trans (show _ = decide (a < 1) by simp [ha]))
      go_enter Tryd.func71, Tryd.ntmps71
      go_wp2
      go_ret
      exact ⟨ret_bool (unhide E2).symm, below3 _ _ _ _⟩
    · have E2 := hide ((unhide E).trans (show _ = false by simp [ha]))
      have qa : decide (0 ≤ a) = false := by simpa using ha
      clear ha
      go_enter Tryd.func71, Tryd.ntmps71
      go_wp2
      go_ret
      exact ⟨ret_bool (unhide E2).symm, below3 _ _ _ _⟩

theorem tA_zero {k : Nat} (h : k < 44) (h2 : k ≠ 2) (h3 : k ≠ 4) (h4 : k ≠ 5) (h5 : k ≠ 6) (h6 : k ≠ 21) (h7 : k ≠ 22) (h8 : k ≠ 23) (h9 : k ≠ 24) (h10 : k ≠ 25) (h11 : k ≠ 41) (h12 : k ≠ 43) : tA k = 0 := by
  have : ∀ k : Fin 44, ([2, 4, 5, 6, 21, 22, 23, 24, 25, 41, 43].contains k.1 || decide (tA k.1 = 0)) = true := by decide
  have h0 := this ⟨k, h⟩
  simp only [Bool.or_eq_true, decide_eq_true_eq, List.contains_iff_mem, List.mem_cons, List.not_mem_nil, or_false] at h0
  omega

set_option maxRecDepth 100000 in
set_option maxHeartbeats 4000000 in
theorem may_else {k : Nat} (a l : Int) (c0 : 0 < k) (c1 : k < 44) (c2 : 0 ≤ l) (c3 : l ≤ 2147483647) (n2 : k ≠ 2) (n21 : k ≠ 21) (n22 : k ≠ 22) (n23 : k ≠ 23) (n4 : k ≠ 4) (n5 : k ≠ 5) (n6 : k ≠ 6) (n24 : k ≠ 24) (n25 : k ≠ 25) (n41 : k ≠ 41) (n43 : k ≠ 43) (n26 : k ≠ 26) (n27 : k ≠ 27) : Calls Tryd.prog 71 #[pv v1 v2 v3 p.mn, fv f v, iv ⟨(k : Int), a, 0, l⟩] w fun e w' => e = .returned (.bool (okI p f ⟨(k : Int), a, 0, l⟩)) ∧ Below w.heap.size w w' := by
  have q2 : decide (l < 0) = false := by simp; omega
  have q3 : decide (2147483647 < l) = false := by simp; omega
  have tz := tA_zero c1 n2 n4 n5 n6 n21 n22 n23 n24 n25 n41 n43
  have q0 : decide ((k : Int) < 1) = false := by simp; omega
  have q1 : decide (43 < (k : Int)) = false := by simp; omega
  have e2 : ((k : Int) == 2) = false := by simp; omega
  have e21 : ((k : Int) == 21) = false := by simp; omega
  have e22 : ((k : Int) == 22) = false := by simp; omega
  have e23 : ((k : Int) == 23) = false := by simp; omega
  have e4 : ((k : Int) == 4) = false := by simp; omega
  have e5 : ((k : Int) == 5) = false := by simp; omega
  have e6 : ((k : Int) == 6) = false := by simp; omega
  have e24 : ((k : Int) == 24) = false := by simp; omega
  have e25 : ((k : Int) == 25) = false := by simp; omega
  have e41 : ((k : Int) == 41) = false := by simp; omega
  have e43 : ((k : Int) == 43) = false := by simp; omega
  have e26 : ((k : Int) == 26) = false := by simp; omega
  have e27 : ((k : Int) == 27) = false := by simp; omega
  have E := hide (show okI p f ⟨(k : Int), a, 0, l⟩ = (decide (0 ≤ a) && decide (a < 1)) by
    have h1 : knw (k : Int) = true := by simp [knw]; omega
    have h2 : rRet f (k : Int) = true := by unfold rRet; rw [if_neg (by omega), if_neg (by omega)]
    have h3 : rNum p f ⟨(k : Int), a, 0, l⟩ = decide (a = 0) := by simp [rNum, rNumA, rNumB, tz, c2, c3]
    unfold okI
    rw [h1, h2, h3]
    by_cases ha : a = 0
    · simp [ha]
    · simp [ha]; omega)
  clear tz c0 n2 n21 n22 n23 n4 n5 n6 n24 n25 n41 n43 n26 n27
  by_cases ha : 0 ≤ a
  · have E2 := hide ((unhide E).trans (show _ = decide (a < 1) by simp [ha]))
    go_enter Tryd.func71, Tryd.ntmps71
    go_wp2
    go_ret
    exact ⟨ret_bool (unhide E2).symm, below3 _ _ _ _⟩
  · have E2 := hide ((unhide E).trans (show _ = false by simp [ha]))
    have qa : decide (0 ≤ a) = false := by simpa using ha
    clear ha
    go_enter Tryd.func71, Tryd.ntmps71
    go_wp2
    go_ret
    exact ⟨ret_bool (unhide E2).symm, below3 _ _ _ _⟩

include h in
theorem may_is (i : In) {z : Bool} (hz : okI p f i = z) : Calls Tryd.prog 71 #[pv v1 v2 v3 p.mn, fv f v, iv i] w fun e w' => e = .returned (.bool z) ∧ Below w.heap.size w w' := by
  subst hz
  by_cases c0 : i.op < 1
  · exact may_low f i c0
  by_cases c1 : 43 < i.op
  · exact may_high f i c1
  by_cases c2 : i.l < 0
  · exact may_line f i (by omega) (by omega) (Or.inl c2)
  by_cases c3 : 2147483647 < i.l
  · exact may_line f i (by omega) (by omega) (Or.inr c3)
  by_cases c4 : i.b ≠ 0 ∧ (i.op ≠ 41 ∨ i.b ≠ 1)
  · exact may_b f i (by omega) (by omega) (by omega) (by omega) c4.1 c4.2
  obtain ⟨op, a, b, l⟩ := i
  simp only at c0 c1 c2 c3 c4
  obtain ⟨k, rfl⟩ : ∃ k : Nat, op = (k : Int) := ⟨op.toNat, by omega⟩
  by_cases c5 : b = 0
  · subst c5
    by_cases d2 : k = 2
    · subst d2; exact may_2 f a l (by omega) (by omega)
    by_cases d21 : k = 21
    · subst d21; exact may_21 f a l (by omega) (by omega)
    by_cases d22 : k = 22
    · subst d22; exact may_22 f a l (by omega) (by omega)
    by_cases d23 : k = 23
    · subst d23; exact may_23 f a l (by omega) (by omega)
    by_cases d4 : k = 4
    · subst d4; exact may_4 f a l (by omega) (by omega)
    by_cases d5 : k = 5
    · subst d5; exact may_5 f a l (by omega) (by omega)
    by_cases d6 : k = 6
    · subst d6; exact may_6 f a l (by omega) (by omega)
    by_cases d24 : k = 24
    · subst d24; exact may_24 h f a l (by omega) (by omega)
    by_cases d25 : k = 25
    · subst d25; exact may_25 h f a l (by omega) (by omega)
    by_cases d41 : k = 41
    · subst d41; exact may_41 h f a l (by omega) (by omega)
    by_cases d43 : k = 43
    · subst d43; exact may_43 h f a l (by omega) (by omega)
    by_cases d26 : k = 26
    · subst d26; exact may_26 f a l (by omega) (by omega)
    by_cases d27 : k = 27
    · subst d27; exact may_27 f a l (by omega) (by omega)
    exact may_else f a l (by omega) (by omega) (by omega) (by omega) d2 d21 d22 d23 d4 d5 d6 d24 d25 d41 d43 d26 d27
  · obtain rfl : k = 41 := by
      have := fun h => c4 ⟨c5, h⟩
      omega
    obtain rfl : b = 1 := by
      have := fun h => c4 ⟨c5, h⟩
      omega
    exact may_41b h f a l (by omega) (by omega)
end

end Go.Proofs.YtgheaieghoekhaaDoor

namespace Go.Proofs.YtgheaieghoekhaaDoor
open Go.RowKit

theorem reff_is {N : Nat} {w : World} {v1 v2 v3 : Value} {p : Pg} (h : PgAt N w v1 v2 v3 p) (hle : N ≤ w.heap.size) (i : In) {tk gv : Int} (he : eff p i = (tk, gv)) :
    Calls Tryd.prog 8 #[pv v1 v2 v3 p.mn, iv i] w fun e w' => e = .returned (.tuple #[.int .i64 tk, .int .i64 gv]) ∧ Below w.heap.size w w' := by
  have := reff_any h hle i
  unfold effV at this
  rw [he] at this
  exact this
theorem jmp_is (op : Int) {z : Bool} (hz : jmpB op = z) (w : World) : Calls Tryd.prog 79 #[.int .i64 op] w fun e w' => e = .returned (.bool z) ∧ w' = w := hz ▸ jmp_any op w
theorem nxt_is (op : Int) {z : Bool} (hz : nxtB op = z) (w : World) : Calls Tryd.prog 80 #[.int .i64 op] w fun e w' => e = .returned (.bool z) ∧ w' = w := hz ▸ nxt_any op w

theorem jmp_tA {op : Int} (h : knw op = true) : jmpB op = decide (tA op.toNat = 3) := by
  unfold knw at h
  simp only [Bool.and_eq_true, decide_eq_true_eq] at h
  obtain ⟨k, rfl⟩ : ∃ k : Nat, op = (k : Int) := ⟨op.toNat, by omega⟩
  have : ∀ k : Fin 44, jmpB ((k.1 : Nat) : Int) = decide (tA k.1 = 3) := by decide
  have := this ⟨k, by omega⟩
  simpa using this
theorem nxt_tS {op : Int} (h : knw op = true) : nxtB op = !tS op.toNat := by
  unfold knw at h
  simp only [Bool.and_eq_true, decide_eq_true_eq] at h
  obtain ⟨k, rfl⟩ : ∃ k : Nat, op = (k : Int) := ⟨op.toNat, by omega⟩
  have : ∀ k : Fin 44, nxtB ((k.1 : Nat) : Int) = !tS k.1 := by decide
  have := this ⟨k, by omega⟩
  simpa using this

/-- what an instruction takes is no great number -/
def EffB (p : Pg) : Prop := ∀ i, 0 ≤ (eff p i).1 ∧ (eff p i).1 ≤ 1125899906842624

def WPost (w : World) (r : Int) (e : Ending) (w' : World) : Prop := (∃ v b, e = .returned (.tuple #[v, .int .i64 r, .int .i64 b])) ∧ Below w.heap.size w w'

theorem RowI.cellD {w : World} {D : Nat} {d : List Int} (h : RowI w D d) {i : Nat} (hi : i < d.length) : w.cell? ⟨D, i, none⟩ = some (.int .i64 (d.getD i 0)) := by rw [h.cell hi, getD_at d hi]
theorem InB.atD {d : List Int} (h : InB d) {k : Nat} (hk : k < d.length) : d.getD k 0 = -1 ∨ (0 ≤ d.getD k 0 ∧ d.getD k 0 ≤ 1000) := by rw [getD_at d hk]; exact h.at hk

theorem fill1 (n k : Nat) (h : k < n) : ((0 : Int) :: (List.replicate k (-1 : Int) ++ List.replicate (n - k) 0)).set (k + 1) (-1) = 0 :: (List.replicate (k + 1) (-1) ++ List.replicate (n - (k + 1)) 0) := by
  rw [List.set_cons_succ, fill_set n k h]

set_option maxRecDepth 100000 in
set_option maxHeartbeats 8000000 in
theorem walk_is {N : Nat} {w : World} {v1 v2 v3 v : Value} {p : Pg} (h : PgAt N w v1 v2 v3 p) (hle : N ≤ w.heap.size) (hE : EffB p) (f : Fu) (hv : Lst N 4 (InAt w) v f.cd) (h0 : 0 < f.cd.length) (hs : f.cd.length ≤ 8388608) (hK : AllK f.cd.length f.cd) :
    Calls Tryd.prog 73 #[pv v1 v2 v3 p.mn, fv f v] w fun e w' => WPost w (dps p f.cd 0 (dp0 f.cd.length)).1 e w' := by
  obtain ⟨b1, o1, ⟨a1, c1, rfl, hc1, hm1, hs1⟩, hl1⟩ := hv
  obtain ⟨rfl, hb1⟩ := hs1 h0
  have hmk := run_make_row' (P := Tryd.prog) 46 3 (.int .i64 0) 8 Tryd.underlying46 infoI rfl .i64 .i64 f.cd.length (by omega) (by omega)
  obtain ⟨A, eA⟩ : ∃ A, w.heap.size = A := ⟨_, rfl⟩
  obtain ⟨F, eF⟩ : ∃ F, A + 1 = F := ⟨_, rfl⟩
  obtain ⟨D, eD⟩ : ∃ D, F + 1 = D := ⟨_, rfl⟩
  obtain ⟨U, hU⟩ : ∃ U, U = (w.alloc (.cells #[v1, v2, v3, .int .i64 p.mn] 26)).alloc (.cells #[.string f.nm, .int .i64 f.pa, .int .i64 f.sl, .bool f.rs, .slice (some ⟨b1, o1, none⟩) f.cd.length c1] 51) := ⟨_, rfl⟩
  obtain ⟨W, hW⟩ : ∃ W, U.alloc (.cells (madeCells #[.int .i64 0] f.cd.length) 3) = W := ⟨_, rfl⟩
  have hUs : U.heap.size = D := by rw [hU]; simp; omega
  have r0 : RowI W D (List.replicate f.cd.length 0) := by rw [← hW, ← hUs]; exact rowI_made U f.cd.length
  have hbW : Below w.heap.size w W := by rw [← hW, hU]; exact below3 w _ _ _
  have hWs : W.heap.size = D + 1 := by rw [← hW]; simp [hUs]
  have xP : BX W A #[v1, v2, v3, .int .i64 p.mn] 26 := by unfold BX; rw [← hW, hU, ← eA]; exact new3 w _ _ _
  have xF : BX W F #[.string f.nm, .int .i64 f.pa, .int .i64 f.sl, .bool f.rs, .slice (some ⟨b1, o1, none⟩) f.cd.length c1] 51 := by unfold BX; rw [← hW, hU, ← eF, ← eA]; exact new3' w _ _ _
  rw [hU] at hW
  have HG := hide h
  have H1 := hide hl1
  have HKK := hide hK
  have HEE := hide hE
  have HBW := hide hbW
  have HXP := hide xP
  have HXF := hide xF
  have HEA := hide eA
  have HEF := hide eF
  have HED := hide eD
  have HW := hide hW
  have hAF : A < F := by omega
  have hFD : F < D := by omega
  have hNA : N ≤ A := by omega
  obtain ⟨m, em⟩ : ∃ m, f.cd.length = m + 1 := ⟨f.cd.length - 1, by omega⟩
  rw [em, List.replicate_succ] at r0
  have HR0 := hide r0
  have HM := hide em
  have hm1 : m < f.cd.length := by omega
  have hm2 : f.cd.length ≤ m + 1 := by omega
  clear h hl1 hs1 hK hE hbW xP xF eA eF eD hW hU hUs r0 em
  go_enter Tryd.func73, Tryd.ntmps73
  go_wp2
  rw [unhide HW, unhide HEA, unhide HEF, unhide HED]
  clear hmk
  go_loopw [8] (fun i wr => ∃ k : Nat, k ≤ m ∧ i = .int .i64 ((k : Int) + 1) ∧ RowI wr D (0 :: (List.replicate k (-1) ++ List.replicate (m - k) 0)) ∧ Keep D W wr) (fun i _ => f.cd.length - (intOf i).toNat)
  case atStart => exact ⟨0, Nat.zero_le _, rfl, unhide HR0, Keep.of_below (Below.refl _ _)⟩
  case round =>
    obtain ⟨k, hk, rfl, hR, hKp⟩ := hrel
    by_cases hlt : k < m
    · have q1 := hR.cell (i := k + 1) (by simp; omega)
      have q2 := hR.froz (k + 1)
      have q3 := hR.set (k + 1) (-1)
      rw [fill1 _ _ hlt] at q3
      have Q3 := hide q3
      have HKp := hide (hKp.set (k + 1) (.int .i64 (-1)))
      have q4 : decide ((k : Int) + 1 < (f.cd.length : Int)) = true := by simp; omega
      generalize ((0 : Int) :: (List.replicate k (-1 : Int) ++ List.replicate (m - k) 0))[k + 1]'(by simp; omega) = y at q1
      clear hR hKp q3
      go_wp2
      go_roundw
      case rel => exact ⟨k + 1, by omega, by go_num, unhide Q3, unhide HKp⟩
      case measure => simp [intOf]; omega
    · have e : k = m := by omega
      subst e
      rw [Nat.sub_self, List.replicate_zero, List.append_nil] at hR
      have hR' : RowI wr D (dp0 f.cd.length) := by rw [unhide HM]; exact hR
      have Q3 := hide hR'
      have HKp := hide hKp
      have q4 : decide ((k : Int) + 1 < (f.cd.length : Int)) = false := by simp; omega
      clear hR hKp hR'
      obtain ⟨wq, rfl⟩ : ∃ x, x = wr := ⟨_, rfl⟩
      go_wp2
      clear q4 hk hlt
      go_loopw [9] (fun i wr => ∃ (k : Nat) (d : List Int), k ≤ f.cd.length ∧ i = .int .i64 k ∧ d.length = f.cd.length ∧ RowI wr D d ∧ InB d ∧ Keep D W wr ∧ dps p f.cd 0 (dp0 f.cd.length) = dps p (f.cd.drop k) k d) (fun i _ => f.cd.length - (intOf i).toNat)
      case atStart => exact ⟨0, _, Nat.zero_le _, rfl, by simp [dp0]; omega, unhide Q3, dp0_inb _, unhide HKp, rfl⟩
      case round =>
        obtain ⟨k, d, hk, rfl, hdl, hR, hI, hKp, hE⟩ := hrel
        have hszr := hKp.size
        by_cases hlt : k < f.cd.length
        · have hBN : Below N w wr := ((unhide HBW).mono hle).trans (hKp.belowN (by omega) (by omega))
          have hXF := (unhide HXF).keep hKp (by omega)
          have hXP := (unhide HXP).keep hKp (by omega)
          obtain ⟨g1, g2, g3, g4⟩ := InAt.below hBN hb1 (unhide H1 k hlt)
          have hKx := unhide HKK f.cd[k] (List.getElem_mem hlt)
          rw [dps_drop p f.cd k d hlt] at hE
          have q1 := hR.cellD (i := k) (by omega)
          generalize f.cd[k] = x at *
          have cF := hXF.c5
          have z1 : A < wr.heap.size := by omega
          have z2 : b1 < wr.heap.size := by omega
          have z3 : D < wr.heap.size := by omega
          have z4 : F < wr.heap.size := by omega
          obtain ⟨V, hV⟩ : ∃ V, wr.alloc (.cells #[.int .i64 x.op, .int .i64 x.a, .int .i64 x.b, .int .i64 x.l] 29) = V := ⟨_, rfl⟩
          have hwV : Below wr.heap.size wr V := by rw [← hV]; exact below1 wr _
          have hVs : V.heap.size = wr.heap.size + 1 := by rw [← hV]; simp
          obtain ⟨X, eX⟩ : ∃ X, wr.heap.size = X := ⟨_, rfl⟩
          have hXV : BX V X #[.int .i64 x.op, .int .i64 x.a, .int .i64 x.b, .int .i64 x.l] 29 := by rw [← hV, ← eX]; exact BX.new wr _ _
          have hPV : BX V A #[v1, v2, v3, .int .i64 p.mn] 26 := (hwV.block A z1).trans hXP
          have hRV : RowI V D d := hR.below hwV z3
          have hKV : Keep D W V := hKp.trans (Keep.of_below hwV)
          have HGV := hide ((unhide HG).below (hBN.trans (hwV.mono (by omega))))
          have cV := hXV.c4
          have cP := hXP.c4
          have hIk := hI.atD (k := k) (by omega)
          have hcV := hRV.cellD (i := k) (by omega)
          have HI := hide hI
          have HE := hide hE
          have HXV := hide hXV
          have HRV := hide hRV
          have HKV := hide hKV
          have HXx := hide hKx
          have HDL := hide hdl
          have HEX := hide eX
          have HV := hide hV
          have hDX : D < X := by omega
          have hXv : X < V.heap.size := by omega
          clear hBN hXF hXP hKx hE hR hI hKp hdl hwV hXV hPV hRV hKV eX hV
          by_cases cd1 : d.getD k 0 = -1
          · rw [cd1] at q1 hcV
            have HE2 := hide ((unhide HE).trans (if_pos cd1))
            clear cd1 hIk
            go_wp2
            rw [unhide HV]
            go_roundw
            case rel => exact ⟨k + 1, d, by omega, by go_num, unhide HDL, unhide HRV, unhide HI, unhide HKV, unhide HE2⟩
            case measure => simp [intOf]; omega
          have HE2 := hide ((unhide HE).trans (if_neg cd1))
          have h00 : 0 ≤ d.getD k 0 ∧ d.getD k 0 ≤ 1000 := by rcases hIk with h | h; exact absurd h cd1; exact h
          obtain ⟨tk, gv, he⟩ : ∃ a b, eff p x = (a, b) := ⟨_, _, rfl⟩
          have hb := unhide HEE x
          have hgv := eff_gv p x
          rw [he] at hb hgv
          obtain ⟨ht0, ht1⟩ := hb
          obtain ⟨hg0, hg1⟩ := hgv
          simp only at ht0 ht1 hg0 hg1
          obtain ⟨y, hy⟩ : ∃ y, y = d.getD k 0 := ⟨_, rfl⟩
          rw [← hy] at q1 hcV h00 cd1
          obtain ⟨hy0, hy1⟩ := h00
          have qy : (y == -1) = false := by simpa using cd1
          have hps : passS p d k x = if y < tk ∨ tk < y + gv - 1000 then (84, d) else if (stp1 d x.op.toNat k (y - tk + gv)).1 = 0 then stp2 (stp1 d x.op.toNat k (y - tk + gv)).2 x.op.toNat k x.a.toNat (y - tk + gv) else stp1 d x.op.toNat k (y - tk + gv) := by
            unfold passS
            rw [he, ← hy]
          have HPS := hide hps
          have HF := hide he
          have HY := hide hy
          clear hps he hIk hy cd1 HE
          go_wp2_with fail
          rw [unhide HV, unhide HEX]
          refine (reff_is (unhide HGV) (by omega) x (unhide HF)).mono ?_
          rintro e w1 ⟨rfl, hB⟩
          have hs1 := hB.size
          have hR1 := (unhide HRV).below hB (by omega)
          have hX1 : BX w1 X #[.int .i64 x.op, .int .i64 x.a, .int .i64 x.b, .int .i64 x.l] 29 := (hB.block X (by omega)).trans (unhide HXV)
          have hK1 := (unhide HKV).trans (Keep.of_below hB)
          clear cV cP cF hcV q1 g1 g2 g3 g4
          have cX := hX1.c4
          have c1 := hR1.cellD (i := k) (by have := unhide HDL; omega)
          rw [← unhide HY] at c1
          have HR1 := hide hR1
          have HX1 := hide hX1
          have HK1 := hide hK1
          clear hB hR1 hX1 hK1
          by_cases cA : y < tk ∨ 1000 < y - tk + gv
          · have HP2 := hide (show passS p d k x = (84, d) by rw [unhide HPS, if_pos (by omega)])
            have HE3 := hide (show (dps p f.cd 0 (dp0 f.cd.length)).1 = 84 by rw [unhide HE2, unhide HP2]; rfl)
            have HB := hide ((unhide HBW).trans (((unhide HK1).belowN (N := A) (by omega) (by omega)).mono (by have := unhide HEA; omega)))
            by_cases cB : y < tk
            · clear cA
              go_wp2
              go_ret3
              exact ⟨⟨_, _, by rw [unhide HE3]; rfl⟩, unhide HB⟩
            · have qB : decide (y < tk) = false := by simpa using cB
              have cC : 1000 < y - tk + gv := by omega
              clear cA cB
              go_wp2
              go_ret3
              exact ⟨⟨_, _, by rw [unhide HE3]; rfl⟩, unhide HB⟩
          have HnA := hide (show ¬ (y < tk ∨ tk < y + gv - 1000) by omega)
          have qA : decide (y < tk) = false := by simp; omega
          have qB : decide (1000 < y - tk + gv) = false := by simp; omega
          clear cA
          obtain ⟨z, hz⟩ : ∃ z, nxtB x.op = z := ⟨_, rfl⟩
          obtain ⟨J, hJ⟩ : ∃ z, jmpB x.op = z := ⟨_, rfl⟩
          have HJ := hide hJ
          have hzS : tS x.op.toNat = !z := by rw [← hz, nxt_tS (unhide HXx).1]; simp
          have HZ := hide hz
          clear hJ hz
          go_wp2_with fail
          refine (nxt_is x.op (unhide HZ) w1).mono ?_
          rintro e wn ⟨rfl, rfl⟩
          clear c1
          cases z
          · obtain ⟨d1, hd1⟩ : ∃ q, q = d := ⟨_, rfl⟩
            have HS1 := hide (show stp1 d x.op.toNat k (y - tk + gv) = (0, d1) by unfold stp1; rw [if_pos (by simpa using hzS), hd1])
            have HR2 := hide (show RowI wn D d1 by rw [hd1]; exact unhide HR1)
            have HK2 := HK1
            have HD1 := hide (show d1.length = f.cd.length by rw [hd1]; exact unhide HDL)
            have HHd := hide hd1
            clear hzS HR1 hd1
            go_wp2_with fail
            refine (jmp_is x.op (unhide HJ) wn).mono ?_
            rintro e wj ⟨rfl, rfl⟩
            cases J
            · have HP2 := hide (show passS p d k x = (0, d1) by rw [unhide HPS, if_neg (unhide HnA), unhide HS1, if_pos rfl]; unfold stp2; rw [if_neg (by have := (unhide HJ).symm.trans (jmp_tA (unhide HXx).1); simpa using this)])
              have HE3 := hide ((unhide HE2).trans (by rw [unhide HP2, if_pos rfl]))
              have HI1 := hide (show InB d1 from by have h := pass_inb (p := p) (at_ := k) (i := x) (unhide HI); rw [unhide HP2] at h; exact h)
              go_wp2
              go_roundw
              case rel => exact ⟨k + 1, d1, by omega, by go_num, unhide HD1, unhide HR2, unhide HI1, unhide HK2, unhide HE3⟩
              case measure => simp [intOf]; omega
            · have hT3 : tA x.op.toNat = 3 := by have := (unhide HJ).symm.trans (jmp_tA (unhide HXx).1); simpa using this
              obtain ⟨j, hja, hjn⟩ := (unhide HXx).2 hT3
              have HJA := hide hja
              have hjd : j < d1.length := by rw [unhide HD1]; exact hjn
              have cj := (unhide HR2).cellD (i := j) hjd
              have fj := (unhide HR2).froz j
              have hPS2 : passS p d k x = (if layB d1 k j (y - tk + gv) then (0, layL d1 k j (y - tk + gv)) else (84, layL d1 k j (y - tk + gv))) := by
                rw [unhide HPS, if_neg (unhide HnA), unhide HS1, if_pos rfl]; unfold stp2; rw [if_pos hT3, hja]; rfl
              have HPS2 := hide hPS2
              have HR2j := hide ((unhide HR2).set j (y - tk + gv))
              have HK2j := hide ((unhide HK2).set j (.int .i64 (y - tk + gv)))
              have HB := hide ((unhide HBW).trans (((unhide HK2).belowN (N := A) (by omega) (by omega)).mono (by have := unhide HEA; omega)))
              rw [hja] at cX
              clear hja hPS2 hT3
              obtain ⟨yj, hyj⟩ : ∃ z, z = d1.getD j 0 := ⟨_, rfl⟩
              rw [← hyj] at cj
              have HYJ := hide hyj
              clear hyj
              by_cases ck : k < j
              · by_cases cm : yj = -1
                · subst cm
                  have hl1 : layL d1 k j (y - tk + gv) = d1.set j (y - tk + gv) := by unfold layL; rw [if_pos ⟨(unhide HYJ).symm, ck⟩]
                  have HP2 := hide (show passS p d k x = (0, d1.set j (y - tk + gv)) by
                    have hb : layB d1 k j (y - tk + gv) = true := by unfold layB; rw [hl1]; simp [hjd]
                    rw [unhide HPS2, hb, hl1, if_pos rfl])
                  have HE3 := hide ((unhide HE2).trans (by rw [unhide HP2, if_pos rfl]))
                  have HI1 := hide (show InB (d1.set j (y - tk + gv)) from by have h := pass_inb (p := p) (at_ := k) (i := x) (unhide HI); rw [unhide HP2] at h; exact h)
                  clear hl1
                  go_wp2
                  go_roundw
                  case rel => exact ⟨k + 1, d1.set j (y - tk + gv), by omega, by go_num, by rw [List.length_set]; exact unhide HD1, unhide HR2j, unhide HI1, unhide HK2j, unhide HE3⟩
                  case measure => simp [intOf]; omega
                · have qm : (yj == -1) = false := by simpa using cm
                  have HLL := hide (show layL d1 k j (y - tk + gv) = d1 by unfold layL; rw [if_neg (by rw [← unhide HYJ]; exact fun h => cm h.1)])
                  clear cm
                  by_cases cn : yj = y - tk + gv
                  · have qn : (yj != y - tk + gv) = false := by simp [cn]
                    have HP2 := hide (show passS p d k x = (0, d1) by
                      have hb : layB d1 k j (y - tk + gv) = true := by unfold layB; rw [unhide HLL, ← unhide HYJ, cn]; simp
                      rw [unhide HPS2, hb, unhide HLL, if_pos rfl])
                    have HE3 := hide ((unhide HE2).trans (by rw [unhide HP2, if_pos rfl]))
                    have HI1 := hide (show InB d1 from by have h := pass_inb (p := p) (at_ := k) (i := x) (unhide HI); rw [unhide HP2] at h; exact h)
                    clear cn
                    go_wp2
                    go_roundw
                    case rel => exact ⟨k + 1, d1, by omega, by go_num, unhide HD1, unhide HR2, unhide HI1, unhide HK2, unhide HE3⟩
                    case measure => simp [intOf]; omega
                  · have qn : (yj != y - tk + gv) = true := by simpa using cn
                    have HE3 := hide (show (dps p f.cd 0 (dp0 f.cd.length)).1 = 84 by
                      have hb : layB d1 k j (y - tk + gv) = false := by unfold layB; rw [unhide HLL, ← unhide HYJ]; simpa using cn
                      rw [unhide HE2, unhide HPS2, hb]; rfl)
                    clear cn
                    go_wp2
                    go_ret3
                    exact ⟨⟨_, _, by rw [unhide HE3]; rfl⟩, unhide HB⟩
              · have HLL := hide (show layL d1 k j (y - tk + gv) = d1 by unfold layL; rw [if_neg (fun h => ck h.2)])
                by_cases cn : yj = y - tk + gv
                · have qn : (yj != y - tk + gv) = false := by simp [cn]
                  have HP2 := hide (show passS p d k x = (0, d1) by
                    have hb : layB d1 k j (y - tk + gv) = true := by unfold layB; rw [unhide HLL, ← unhide HYJ, cn]; simp
                    rw [unhide HPS2, hb, unhide HLL, if_pos rfl])
                  have HE3 := hide ((unhide HE2).trans (by rw [unhide HP2, if_pos rfl]))
                  have HI1 := hide (show InB d1 from by have h := pass_inb (p := p) (at_ := k) (i := x) (unhide HI); rw [unhide HP2] at h; exact h)
                  clear cn
                  go_wp2
                  go_roundw
                  case rel => exact ⟨k + 1, d1, by omega, by go_num, unhide HD1, unhide HR2, unhide HI1, unhide HK2, unhide HE3⟩
                  case measure => simp [intOf]; omega
                · have qn : (yj != y - tk + gv) = true := by simpa using cn
                  have HE3 := hide (show (dps p f.cd 0 (dp0 f.cd.length)).1 = 84 by
                    have hb : layB d1 k j (y - tk + gv) = false := by unfold layB; rw [unhide HLL, ← unhide HYJ]; simpa using cn
                    rw [unhide HE2, unhide HPS2, hb]; rfl)
                  clear cn
                  go_wp2
                  go_ret3
                  exact ⟨⟨_, _, by rw [unhide HE3]; rfl⟩, unhide HB⟩
          · by_cases cl : k + 1 = f.cd.length
            · have ql : ((k : Int) == (f.cd.length : Int) - 1) = true := by simp; omega
              have HE3 := hide (show (dps p f.cd 0 (dp0 f.cd.length)).1 = 83 by
                have hS : stp1 d x.op.toNat k (y - tk + gv) = (83, d) := by unfold stp1; rw [if_neg (by simpa using hzS), if_pos (by rw [unhide HDL]; exact cl)]
                have hP : passS p d k x = (83, d) := by rw [unhide HPS, if_neg (unhide HnA), hS]; rfl
                rw [unhide HE2, hP]; rfl)
              clear cl hzS
              have HB := hide ((unhide HBW).trans (((unhide HK1).belowN (N := A) (by omega) (by omega)).mono (by have := unhide HEA; omega)))
              go_wp2
              go_ret3
              exact ⟨⟨_, _, by rw [unhide HE3]; rfl⟩, unhide HB⟩
            have ql : ((k : Int) == (f.cd.length : Int) - 1) = false := by simp; omega
            have hk1 : k + 1 < f.cd.length := by omega
            have qk : decide ((k : Int) + 1 < (f.cd.length : Int)) = true := by simp; omega
            have cy := (unhide HR1).cellD (i := k + 1) (by rw [unhide HDL]; exact hk1)
            have fy := (unhide HR1).froz (k + 1)
            have hst : stp1 d x.op.toNat k (y - tk + gv) = if layB d k (k + 1) (y - tk + gv) then (0, layL d k (k + 1) (y - tk + gv)) else (84, layL d k (k + 1) (y - tk + gv)) := by
              unfold stp1; rw [if_neg (by simpa using hzS), if_neg (by rw [unhide HDL]; exact cl)]
            have HST := hide hst
            have HRk := hide ((unhide HR1).set (k + 1) (y - tk + gv))
            have HKk := hide ((unhide HK1).set (k + 1) (.int .i64 (y - tk + gv)))
            obtain ⟨y1, hy1⟩ : ∃ z, z = d.getD (k + 1) 0 := ⟨_, rfl⟩
            rw [← hy1] at cy
            have HY1 := hide hy1
            clear hst hy1 cl hzS
            by_cases cm : y1 = -1
            · subst cm
              have hl1 : layL d k (k + 1) (y - tk + gv) = d.set (k + 1) (y - tk + gv) := by unfold layL; rw [if_pos ⟨(unhide HY1).symm, by omega⟩]
              have hb : layB d k (k + 1) (y - tk + gv) = true := by unfold layB; rw [hl1]; simp [unhide HDL, hk1]
              obtain ⟨d1, hd1⟩ : ∃ q, q = d.set (k + 1) (y - tk + gv) := ⟨_, rfl⟩
              have HS1 := hide (show stp1 d x.op.toNat k (y - tk + gv) = (0, d1) by rw [unhide HST, hb, hl1, hd1]; rfl)
              have HR2 := hide (show RowI (wn.setCell ⟨D, k + 1, none⟩ (.int .i64 (y - tk + gv))) D d1 by rw [hd1]; exact unhide HRk)
              have HD1 := hide (show d1.length = f.cd.length by rw [hd1, List.length_set]; exact unhide HDL)
              have HK2 := HKk
              have hXs : BX (wn.setCell ⟨D, k + 1, none⟩ (.int .i64 (y - tk + gv))) X #[.int .i64 x.op, .int .i64 x.a, .int .i64 x.b, .int .i64 x.l] 29 := (unhide HX1).ch (Ch.set (Q := fun b => b = D) wn rfl (k + 1) (.int .i64 (y - tk + gv))) (by omega)
              have cXs := hXs.c4
              have HHd := hide hd1
              clear hl1 hb hd1
              go_wp2_with fail
              clear cX
              have cX := cXs
              clear cXs cy fy hXs
              refine (jmp_is x.op (unhide HJ) (wn.setCell ⟨D, k + 1, none⟩ (.int .i64 (y - tk + gv)))).mono ?_
              rintro e wj ⟨rfl, rfl⟩
              cases J
              · have HP2 := hide (show passS p d k x = (0, d1) by rw [unhide HPS, if_neg (unhide HnA), unhide HS1, if_pos rfl]; unfold stp2; rw [if_neg (by have := (unhide HJ).symm.trans (jmp_tA (unhide HXx).1); simpa using this)])
                have HE3 := hide ((unhide HE2).trans (by rw [unhide HP2, if_pos rfl]))
                have HI1 := hide (show InB d1 from by have h := pass_inb (p := p) (at_ := k) (i := x) (unhide HI); rw [unhide HP2] at h; exact h)
                go_wp2
                go_roundw
                case rel => exact ⟨k + 1, d1, by omega, by go_num, unhide HD1, unhide HR2, unhide HI1, unhide HK2, unhide HE3⟩
                case measure => simp [intOf]; omega
              · have hT3 : tA x.op.toNat = 3 := by have := (unhide HJ).symm.trans (jmp_tA (unhide HXx).1); simpa using this
                obtain ⟨j, hja, hjn⟩ := (unhide HXx).2 hT3
                have HJA := hide hja
                have hjd : j < d1.length := by rw [unhide HD1]; exact hjn
                have cj := (unhide HR2).cellD (i := j) hjd
                have fj := (unhide HR2).froz j
                have hPS2 : passS p d k x = (if layB d1 k j (y - tk + gv) then (0, layL d1 k j (y - tk + gv)) else (84, layL d1 k j (y - tk + gv))) := by
                  rw [unhide HPS, if_neg (unhide HnA), unhide HS1, if_pos rfl]; unfold stp2; rw [if_pos hT3, hja]; rfl
                have HPS2 := hide hPS2
                have HR2j := hide ((unhide HR2).set j (y - tk + gv))
                have HK2j := hide ((unhide HK2).set j (.int .i64 (y - tk + gv)))
                have HB := hide ((unhide HBW).trans (((unhide HK2).belowN (N := A) (by omega) (by omega)).mono (by have := unhide HEA; omega)))
                rw [hja] at cX
                clear hja hPS2 hT3
                obtain ⟨yj, hyj⟩ : ∃ z, z = d1.getD j 0 := ⟨_, rfl⟩
                rw [← hyj] at cj
                have HYJ := hide hyj
                clear hyj
                by_cases ck : k < j
                · by_cases cm : yj = -1
                  · subst cm
                    have hl1 : layL d1 k j (y - tk + gv) = d1.set j (y - tk + gv) := by unfold layL; rw [if_pos ⟨(unhide HYJ).symm, ck⟩]
                    have HP2 := hide (show passS p d k x = (0, d1.set j (y - tk + gv)) by
                      have hb : layB d1 k j (y - tk + gv) = true := by unfold layB; rw [hl1]; simp [hjd]
                      rw [unhide HPS2, hb, hl1, if_pos rfl])
                    have HE3 := hide ((unhide HE2).trans (by rw [unhide HP2, if_pos rfl]))
                    have HI1 := hide (show InB (d1.set j (y - tk + gv)) from by have h := pass_inb (p := p) (at_ := k) (i := x) (unhide HI); rw [unhide HP2] at h; exact h)
                    clear hl1
                    go_wp2
                    go_roundw
                    case rel => exact ⟨k + 1, d1.set j (y - tk + gv), by omega, by go_num, by rw [List.length_set]; exact unhide HD1, unhide HR2j, unhide HI1, unhide HK2j, unhide HE3⟩
                    case measure => simp [intOf]; omega
                  · have qm : (yj == -1) = false := by simpa using cm
                    have HLL := hide (show layL d1 k j (y - tk + gv) = d1 by unfold layL; rw [if_neg (by rw [← unhide HYJ]; exact fun h => cm h.1)])
                    clear cm
                    by_cases cn : yj = y - tk + gv
                    · have qn : (yj != y - tk + gv) = false := by simp [cn]
                      have HP2 := hide (show passS p d k x = (0, d1) by
                        have hb : layB d1 k j (y - tk + gv) = true := by unfold layB; rw [unhide HLL, ← unhide HYJ, cn]; simp
                        rw [unhide HPS2, hb, unhide HLL, if_pos rfl])
                      have HE3 := hide ((unhide HE2).trans (by rw [unhide HP2, if_pos rfl]))
                      have HI1 := hide (show InB d1 from by have h := pass_inb (p := p) (at_ := k) (i := x) (unhide HI); rw [unhide HP2] at h; exact h)
                      clear cn
                      go_wp2
                      go_roundw
                      case rel => exact ⟨k + 1, d1, by omega, by go_num, unhide HD1, unhide HR2, unhide HI1, unhide HK2, unhide HE3⟩
                      case measure => simp [intOf]; omega
                    · have qn : (yj != y - tk + gv) = true := by simpa using cn
                      have HE3 := hide (show (dps p f.cd 0 (dp0 f.cd.length)).1 = 84 by
                        have hb : layB d1 k j (y - tk + gv) = false := by unfold layB; rw [unhide HLL, ← unhide HYJ]; simpa using cn
                        rw [unhide HE2, unhide HPS2, hb]; rfl)
                      clear cn
                      go_wp2
                      go_ret3
                      exact ⟨⟨_, _, by rw [unhide HE3]; rfl⟩, unhide HB⟩
                · have HLL := hide (show layL d1 k j (y - tk + gv) = d1 by unfold layL; rw [if_neg (fun h => ck h.2)])
                  by_cases cn : yj = y - tk + gv
                  · have qn : (yj != y - tk + gv) = false := by simp [cn]
                    have HP2 := hide (show passS p d k x = (0, d1) by
                      have hb : layB d1 k j (y - tk + gv) = true := by unfold layB; rw [unhide HLL, ← unhide HYJ, cn]; simp
                      rw [unhide HPS2, hb, unhide HLL, if_pos rfl])
                    have HE3 := hide ((unhide HE2).trans (by rw [unhide HP2, if_pos rfl]))
                    have HI1 := hide (show InB d1 from by have h := pass_inb (p := p) (at_ := k) (i := x) (unhide HI); rw [unhide HP2] at h; exact h)
                    clear cn
                    go_wp2
                    go_roundw
                    case rel => exact ⟨k + 1, d1, by omega, by go_num, unhide HD1, unhide HR2, unhide HI1, unhide HK2, unhide HE3⟩
                    case measure => simp [intOf]; omega
                  · have qn : (yj != y - tk + gv) = true := by simpa using cn
                    have HE3 := hide (show (dps p f.cd 0 (dp0 f.cd.length)).1 = 84 by
                      have hb : layB d1 k j (y - tk + gv) = false := by unfold layB; rw [unhide HLL, ← unhide HYJ]; simpa using cn
                      rw [unhide HE2, unhide HPS2, hb]; rfl)
                    clear cn
                    go_wp2
                    go_ret3
                    exact ⟨⟨_, _, by rw [unhide HE3]; rfl⟩, unhide HB⟩
            have qm : (y1 == -1) = false := by simpa using cm
            have HLL := hide (show layL d k (k + 1) (y - tk + gv) = d by unfold layL; rw [if_neg (by rw [← unhide HY1]; exact fun h => cm h.1)])
            clear cm
            by_cases cn : y1 = y - tk + gv
            · have qn : (y1 != y - tk + gv) = false := by simp [cn]
              have hb : layB d k (k + 1) (y - tk + gv) = true := by unfold layB; rw [unhide HLL, ← unhide HY1, cn]; simp
              obtain ⟨d1, hd1⟩ : ∃ q, q = d := ⟨_, rfl⟩
              have HS1 := hide (show stp1 d x.op.toNat k (y - tk + gv) = (0, d1) by rw [unhide HST, hb, unhide HLL, hd1]; rfl)
              have HR2 := hide (show RowI wn D d1 by rw [hd1]; exact unhide HR1)
              have HD1 := hide (show d1.length = f.cd.length by rw [hd1]; exact unhide HDL)
              have HK2 := HK1
              have HHd := hide hd1
              clear cn hb hd1
              go_wp2_with fail
              clear cy fy qm qn
              refine (jmp_is x.op (unhide HJ) wn).mono ?_
              rintro e wj ⟨rfl, rfl⟩
              cases J
              · have HP2 := hide (show passS p d k x = (0, d1) by rw [unhide HPS, if_neg (unhide HnA), unhide HS1, if_pos rfl]; unfold stp2; rw [if_neg (by have := (unhide HJ).symm.trans (jmp_tA (unhide HXx).1); simpa using this)])
                have HE3 := hide ((unhide HE2).trans (by rw [unhide HP2, if_pos rfl]))
                have HI1 := hide (show InB d1 from by have h := pass_inb (p := p) (at_ := k) (i := x) (unhide HI); rw [unhide HP2] at h; exact h)
                go_wp2
                go_roundw
                case rel => exact ⟨k + 1, d1, by omega, by go_num, unhide HD1, unhide HR2, unhide HI1, unhide HK2, unhide HE3⟩
                case measure => simp [intOf]; omega
              · have hT3 : tA x.op.toNat = 3 := by have := (unhide HJ).symm.trans (jmp_tA (unhide HXx).1); simpa using this
                obtain ⟨j, hja, hjn⟩ := (unhide HXx).2 hT3
                have HJA := hide hja
                have hjd : j < d1.length := by rw [unhide HD1]; exact hjn
                have cj := (unhide HR2).cellD (i := j) hjd
                have fj := (unhide HR2).froz j
                have hPS2 : passS p d k x = (if layB d1 k j (y - tk + gv) then (0, layL d1 k j (y - tk + gv)) else (84, layL d1 k j (y - tk + gv))) := by
                  rw [unhide HPS, if_neg (unhide HnA), unhide HS1, if_pos rfl]; unfold stp2; rw [if_pos hT3, hja]; rfl
                have HPS2 := hide hPS2
                have HR2j := hide ((unhide HR2).set j (y - tk + gv))
                have HK2j := hide ((unhide HK2).set j (.int .i64 (y - tk + gv)))
                have HB := hide ((unhide HBW).trans (((unhide HK2).belowN (N := A) (by omega) (by omega)).mono (by have := unhide HEA; omega)))
                rw [hja] at cX
                clear hja hPS2 hT3
                obtain ⟨yj, hyj⟩ : ∃ z, z = d1.getD j 0 := ⟨_, rfl⟩
                rw [← hyj] at cj
                have HYJ := hide hyj
                clear hyj
                by_cases ck : k < j
                · by_cases cm : yj = -1
                  · subst cm
                    have hl1 : layL d1 k j (y - tk + gv) = d1.set j (y - tk + gv) := by unfold layL; rw [if_pos ⟨(unhide HYJ).symm, ck⟩]
                    have HP2 := hide (show passS p d k x = (0, d1.set j (y - tk + gv)) by
                      have hb : layB d1 k j (y - tk + gv) = true := by unfold layB; rw [hl1]; simp [hjd]
                      rw [unhide HPS2, hb, hl1, if_pos rfl])
                    have HE3 := hide ((unhide HE2).trans (by rw [unhide HP2, if_pos rfl]))
                    have HI1 := hide (show InB (d1.set j (y - tk + gv)) from by have h := pass_inb (p := p) (at_ := k) (i := x) (unhide HI); rw [unhide HP2] at h; exact h)
                    clear hl1
                    go_wp2
                    go_roundw
                    case rel => exact ⟨k + 1, d1.set j (y - tk + gv), by omega, by go_num, by rw [List.length_set]; exact unhide HD1, unhide HR2j, unhide HI1, unhide HK2j, unhide HE3⟩
                    case measure => simp [intOf]; omega
                  · have qm : (yj == -1) = false := by simpa using cm
                    have HLL := hide (show layL d1 k j (y - tk + gv) = d1 by unfold layL; rw [if_neg (by rw [← unhide HYJ]; exact fun h => cm h.1)])
                    clear cm
                    by_cases cn : yj = y - tk + gv
                    · have qn : (yj != y - tk + gv) = false := by simp [cn]
                      have HP2 := hide (show passS p d k x = (0, d1) by
                        have hb : layB d1 k j (y - tk + gv) = true := by unfold layB; rw [unhide HLL, ← unhide HYJ, cn]; simp
                        rw [unhide HPS2, hb, unhide HLL, if_pos rfl])
                      have HE3 := hide ((unhide HE2).trans (by rw [unhide HP2, if_pos rfl]))
                      have HI1 := hide (show InB d1 from by have h := pass_inb (p := p) (at_ := k) (i := x) (unhide HI); rw [unhide HP2] at h; exact h)
                      clear cn
                      go_wp2
                      go_roundw
                      case rel => exact ⟨k + 1, d1, by omega, by go_num, unhide HD1, unhide HR2, unhide HI1, unhide HK2, unhide HE3⟩
                      case measure => simp [intOf]; omega
                    · have qn : (yj != y - tk + gv) = true := by simpa using cn
                      have HE3 := hide (show (dps p f.cd 0 (dp0 f.cd.length)).1 = 84 by
                        have hb : layB d1 k j (y - tk + gv) = false := by unfold layB; rw [unhide HLL, ← unhide HYJ]; simpa using cn
                        rw [unhide HE2, unhide HPS2, hb]; rfl)
                      clear cn
                      go_wp2
                      go_ret3
                      exact ⟨⟨_, _, by rw [unhide HE3]; rfl⟩, unhide HB⟩
                · have HLL := hide (show layL d1 k j (y - tk + gv) = d1 by unfold layL; rw [if_neg (fun h => ck h.2)])
                  by_cases cn : yj = y - tk + gv
                  · have qn : (yj != y - tk + gv) = false := by simp [cn]
                    have HP2 := hide (show passS p d k x = (0, d1) by
                      have hb : layB d1 k j (y - tk + gv) = true := by unfold layB; rw [unhide HLL, ← unhide HYJ, cn]; simp
                      rw [unhide HPS2, hb, unhide HLL, if_pos rfl])
                    have HE3 := hide ((unhide HE2).trans (by rw [unhide HP2, if_pos rfl]))
                    have HI1 := hide (show InB d1 from by have h := pass_inb (p := p) (at_ := k) (i := x) (unhide HI); rw [unhide HP2] at h; exact h)
                    clear cn
                    go_wp2
                    go_roundw
                    case rel => exact ⟨k + 1, d1, by omega, by go_num, unhide HD1, unhide HR2, unhide HI1, unhide HK2, unhide HE3⟩
                    case measure => simp [intOf]; omega
                  · have qn : (yj != y - tk + gv) = true := by simpa using cn
                    have HE3 := hide (show (dps p f.cd 0 (dp0 f.cd.length)).1 = 84 by
                      have hb : layB d1 k j (y - tk + gv) = false := by unfold layB; rw [unhide HLL, ← unhide HYJ]; simpa using cn
                      rw [unhide HE2, unhide HPS2, hb]; rfl)
                    clear cn
                    go_wp2
                    go_ret3
                    exact ⟨⟨_, _, by rw [unhide HE3]; rfl⟩, unhide HB⟩
            have qn : (y1 != y - tk + gv) = true := by simpa using cn
            have HE3 := hide (show (dps p f.cd 0 (dp0 f.cd.length)).1 = 84 by
              have hb : layB d k (k + 1) (y - tk + gv) = false := by unfold layB; rw [unhide HLL, ← unhide HY1]; simpa using cn
              have hP : passS p d k x = (84, layL d k (k + 1) (y - tk + gv)) := by rw [unhide HPS, if_neg (unhide HnA), unhide HST, hb]; rfl
              rw [unhide HE2, hP]; rfl)
            clear cn
            have HB := hide ((unhide HBW).trans (((unhide HK1).belowN (N := A) (by omega) (by omega)).mono (by have := unhide HEA; omega)))
            go_wp2
            go_ret3
            exact ⟨⟨_, _, by rw [unhide HE3]; rfl⟩, unhide HB⟩
        · have HE := hide (hE.trans (by rw [List.drop_eq_nil_of_le (by omega)] : _ = dps p [] k d))
          have HB := hide ((unhide HBW).trans ((hKp.belowN (N := A) (by omega) (by omega)).mono (by have := unhide HEA; omega)))
          clear hR hI hKp hE hdl
          go_wp2
          go_ret3
          exact ⟨⟨_, _, by rw [unhide HE]; rfl⟩, unhide HB⟩

end Go.Proofs.YtgheaieghoekhaaDoor

namespace Go.Proofs.YtgheaieghoekhaaDoor
open Go.RowKit

theorem cj_nojump {cd : List In} {k : Nat} {i : In} (h : ¬ tA i.op.toNat = 3) : cJump cd k i = 0 := by unfold cJump; rw [if_neg h]

theorem rj_out {cd : List In} {k : Nat} {i : In} (h : tA i.op.toNat = 3) (ha : i.a < 0 ∨ (cd.length : Int) ≤ i.a) : cJump cd k i = 83 := by
  unfold cJump
  rw [if_pos h]
  have : pick_ cd i.a = none := by
    unfold pick_
    by_cases h0 : 0 ≤ i.a
    · rw [if_pos h0, List.getElem?_eq_none (by omega)]
    · rw [if_neg h0]
  rw [this]
theorem rj_at {cd : List In} {k j : Nat} {i : In} (h : tA i.op.toNat = 3) (ha : i.a = (j : Int)) (hj : j < cd.length) : cJump cd k i = if j ≤ k ∧ cd[j].op ≠ 1 then 85 else 0 := by
  unfold cJump
  rw [if_pos h]
  have : pick_ cd i.a = some cd[j] := by
    unfold pick_
    rw [if_pos (by omega), ha, Int.toNat_natCast, List.getElem?_eq_getElem hj]
  rw [this]
  simp only [ha]
  by_cases hc : j ≤ k ∧ cd[j].op ≠ 1
  · rw [if_pos hc, if_pos ⟨by omega, hc.2⟩]
  · rw [if_neg hc, if_neg (fun h => hc ⟨by omega, h.2⟩)]
theorem ret_pr {a b c d : Int} (h : (c, d) = (a, b)) : Ending.returned (.tuple #[.int .i64 a, .int .i64 b]) = .returned (.tuple #[.int .i64 c, .int .i64 d]) := by
  injection h with h1 h2
  rw [h1, h2]

set_option maxRecDepth 100000 in
set_option maxHeartbeats 4000000 in
theorem ways_is {N : Nat} {w : World} {v : Value} (hle : N ≤ w.heap.size) (f : Fu) (hv : Lst N 4 (InAt w) v f.cd) (h0 : 0 < f.cd.length) (hK : ∀ x ∈ f.cd, knw x.op = true) {ra rb : Int} (hr : fstJ f.cd f.cd 0 = (ra, rb)) :
    Calls Tryd.prog 72 #[fv f v] w fun e w' => e = .returned (.tuple #[.int .i64 ra, .int .i64 rb]) ∧ Below w.heap.size w w' := by
  obtain ⟨b1, o1, ⟨a1, c1, rfl, hc1, hm1, hs1⟩, hl1⟩ := hv
  obtain ⟨rfl, hb1⟩ := hs1 h0
  obtain ⟨F, eF⟩ : ∃ F, w.heap.size = F := ⟨_, rfl⟩
  obtain ⟨W, hW⟩ : ∃ W, w.alloc (.cells #[.string f.nm, .int .i64 f.pa, .int .i64 f.sl, .bool f.rs, .slice (some ⟨b1, o1, none⟩) f.cd.length c1] 51) = W := ⟨_, rfl⟩
  have hbW : Below w.heap.size w W := by rw [← hW]; exact below1 w _
  have hWs : W.heap.size = F + 1 := by rw [← hW]; simp [eF]
  have xF : BX W F #[.string f.nm, .int .i64 f.pa, .int .i64 f.sl, .bool f.rs, .slice (some ⟨b1, o1, none⟩) f.cd.length c1] 51 := by rw [← hW, ← eF]; exact BX.new w _ _
  have H1 := hide hl1
  have HKK := hide hK
  have HBW := hide hbW
  have HXF := hide xF
  have HEF := hide eF
  have HW := hide hW
  have HR := hide hr
  have hNF : N ≤ F := by omega
  clear hl1 hs1 hK hbW xF eF hW hr
  go_enter Tryd.func72, Tryd.ntmps72
  go_wp2
  rw [unhide HW, unhide HEF]
  go_loopw [4] (fun i wr => ∃ k : Nat, k ≤ f.cd.length ∧ i = .int .i64 k ∧ (ra, rb) = fstJ f.cd (f.cd.drop k) k ∧ Below W.heap.size W wr) (fun i _ => f.cd.length - (intOf i).toNat)
  case atStart => exact ⟨0, Nat.zero_le _, rfl, (unhide HR).symm, Below.refl _ _⟩
  case round =>
    obtain ⟨k, hk, rfl, hE, hB⟩ := hrel
    have hszr := hB.size
    have HBr := hide ((unhide HBW).trans (hB.mono (by have := unhide HEF; omega)))
    have hXF : BX wr F _ _ := (hB.block F (by omega)).trans (unhide HXF)
    have cF := hXF.c5
    by_cases hlt : k < f.cd.length
    · have hBN : Below N w wr := (unhide HBr).mono hle
      obtain ⟨g1, g2, g3, g4⟩ := InAt.below hBN hb1 (unhide H1 k hlt)
      have hKx := unhide HKK f.cd[k] (List.getElem_mem hlt)
      rw [fstJ_drop f.cd f.cd k hlt] at hE
      generalize f.cd[k] = x at *
      have z2 : b1 < wr.heap.size := by omega
      have z4 : F < wr.heap.size := by omega
      have HE := hide hE
      have HB := hide hB
      have HB2 := hide (hB.alloc (by omega) (.cells #[.int .i64 x.op, .int .i64 x.a, .int .i64 x.b, .int .i64 x.l] 29))
      have HB3 := hide ((unhide HBr).alloc (by have := unhide HEF; omega) (.cells #[.int .i64 x.op, .int .i64 x.a, .int .i64 x.b, .int .i64 x.l] 29))
      have HBN := hide hBN
      obtain ⟨J, hJ⟩ : ∃ z, jmpB x.op = z := ⟨_, rfl⟩
      have hT := hJ.symm.trans (jmp_tA hKx)
      have HJ := hide hJ
      clear hBN hXF hKx hE hB hJ
      go_wp2_with fail
      refine (jmp_is x.op (unhide HJ) _).mono ?_
      rintro e wj ⟨rfl, rfl⟩
      cases J
      · have HE2 := hide ((unhide HE).trans (if_pos (cj_nojump (by simpa using hT))))
        clear hT
        go_wp2
        go_roundw
        case rel => exact ⟨k + 1, by omega, by go_num, unhide HE2, unhide HB2⟩
        case measure => simp [intOf]; omega
      · have hT3 : tA x.op.toNat = 3 := by simpa using hT
        have HT3 := hide hT3
        clear hT hT3
        by_cases ca : x.a < 0
        · have HE2 := hide ((unhide HE).trans (show _ = ((83 : Int), (k : Int)) by rw [rj_out (unhide HT3) (Or.inl ca)]; rfl))
          go_wp2
          go_ret2
          exact ⟨ret_pr (unhide HE2), unhide HB3⟩
        have qa : decide (x.a < 0) = false := by simpa using ca
        by_cases cb : (f.cd.length : Int) ≤ x.a
        · have HE2 := hide ((unhide HE).trans (show _ = ((83 : Int), (k : Int)) by rw [rj_out (unhide HT3) (Or.inr cb)]; rfl))
          clear ca
          go_wp2
          go_ret2
          exact ⟨ret_pr (unhide HE2), unhide HB3⟩
        have qb : decide ((f.cd.length : Int) ≤ x.a) = false := by simpa using cb
        obtain ⟨j, hj⟩ : ∃ j : Nat, x.a = (j : Int) := ⟨x.a.toNat, by omega⟩
        have hjn : j < f.cd.length := by omega
        have HCJ := hide (rj_at (k := k) (unhide HT3) hj hjn)
        obtain ⟨i1, i2, i3, i4⟩ := InAt.below (unhide HBN) hb1 (unhide H1 j hjn)
        rw [hj] at qa qb g2 HB2 HB3
        obtain ⟨y, hy⟩ : ∃ y, f.cd[j] = y := ⟨_, rfl⟩
        rw [hy] at i1
        have HCJ := hide ((unhide HCJ).trans (by rw [hy] : _ = if j ≤ k ∧ y.op ≠ 1 then (85 : Int) else 0))
        obtain ⟨op, xa, xb, xl⟩ := x
        simp only at hj g1 g2 g3 g4 HB2 HB3 qa qb
        subst hj
        clear i2 i3 i4 ca cb hy
        by_cases cj : j ≤ k
        · by_cases co : y.op = 1
          · rw [co] at i1
            have HE2 := hide ((unhide HE).trans (if_pos ((unhide HCJ).trans (if_neg (fun h => h.2 co)))))
            clear co
            go_wp2
            go_roundw
            case rel => exact ⟨k + 1, by omega, by go_num, unhide HE2, unhide HB2⟩
            case measure => simp [intOf]; omega
          · have qo : (y.op != 1) = true := by simpa using co
            have HE2 := hide ((unhide HE).trans (show _ = ((85 : Int), (k : Int)) by rw [(unhide HCJ).trans (if_pos ⟨cj, co⟩)]; rfl))
            clear co
            go_wp2
            go_ret2
            exact ⟨ret_pr (unhide HE2), unhide HB3⟩
        · have HE2 := hide ((unhide HE).trans (if_pos ((unhide HCJ).trans (if_neg (fun h => cj h.1)))))
          have qj : decide (j ≤ k) = false := by simpa using cj
          go_wp2
          go_roundw
          case rel => exact ⟨k + 1, by omega, by go_num, unhide HE2, unhide HB2⟩
          case measure => simp [intOf]; omega
    · have HE := hide (hE.trans (by rw [List.drop_eq_nil_of_le (by omega)]; rfl : _ = ((0 : Int), (-1 : Int))))
      clear hE hB hXF
      go_wp2
      go_ret2
      exact ⟨ret_pr (unhide HE), unhide HBr⟩

end Go.Proofs.YtgheaieghoekhaaDoor

namespace Go.Proofs.YtgheaieghoekhaaDoor
open Go.RowKit

def FPost (w : World) (r : Int) (e : Ending) (w' : World) : Prop := (∃ b, e = .returned (.tuple #[.int .i64 r, .int .i64 b])) ∧ Below w.heap.size w w'

set_option maxRecDepth 100000 in
set_option maxHeartbeats 4000000 in
theorem func_sizes {w : World} {v1 v2 v3 : Value} {p : Pg} (f : Fu) (a : Option Addr) (c : Nat) (hm : f.cd.length ≤ 9223372036854775807) (hz : rSizes f = false) :
    Calls Tryd.prog 47 #[pv v1 v2 v3 p.mn, fv f (.slice a f.cd.length c)] w fun e w' => FPost w (cFun p f).1 e w' := by
  have E := hide (show (cFun p f).1 = 81 by unfold cFun; rw [if_pos hz])
  unfold rSizes at hz
  by_cases c0 : f.nm.size ≤ 30
  rotate_left
  · have qc0 : 30 < (f.nm.size : Int) := by omega
    have rc0 : decide (30 < (f.nm.size : Int)) = true := by simp; omega
    have sc0 : 30 < f.nm.size := by omega
    clear hz c0 hm
    go_enter Tryd.func47, Tryd.ntmps47
    go_wp2
    go_ret2
    exact ⟨⟨_, by rw [unhide E]; rfl⟩, below2 _ _ _⟩
  have qc0 : decide (30 < (f.nm.size : Int)) = false := by simp; omega
  have tc0 : ¬ 30 < f.nm.size := by omega
  by_cases c1 : 0 ≤ f.pa
  rotate_left
  · have qc1 : f.pa < 0 := by omega
    have rc1 : decide (f.pa < 0) = true := by simp; omega
    clear hz c1 hm
    go_enter Tryd.func47, Tryd.ntmps47
    go_wp2
    go_ret2
    exact ⟨⟨_, by rw [unhide E]; rfl⟩, below2 _ _ _⟩
  have qc1 : decide (f.pa < 0) = false := by simp; omega
  by_cases c2 : f.pa ≤ 8
  rotate_left
  · have qc2 : 8 < f.pa := by omega
    have rc2 : decide (8 < f.pa) = true := by simp; omega
    clear hz c2 hm
    go_enter Tryd.func47, Tryd.ntmps47
    go_wp2
    go_ret2
    exact ⟨⟨_, by rw [unhide E]; rfl⟩, below2 _ _ _⟩
  have qc2 : decide (8 < f.pa) = false := by simp; omega
  by_cases c3 : f.pa ≤ f.sl
  rotate_left
  · have qc3 : f.sl < f.pa := by omega
    have rc3 : decide (f.sl < f.pa) = true := by simp; omega
    clear hz c3 hm
    go_enter Tryd.func47, Tryd.ntmps47
    go_wp2
    go_ret2
    exact ⟨⟨_, by rw [unhide E]; rfl⟩, below2 _ _ _⟩
  have qc3 : decide (f.sl < f.pa) = false := by simp; omega
  by_cases c4 : f.sl ≤ 250
  rotate_left
  · have qc4 : 250 < f.sl := by omega
    have rc4 : decide (250 < f.sl) = true := by simp; omega
    clear hz c4 hm
    go_enter Tryd.func47, Tryd.ntmps47
    go_wp2
    go_ret2
    exact ⟨⟨_, by rw [unhide E]; rfl⟩, below2 _ _ _⟩
  have qc4 : decide (250 < f.sl) = false := by simp; omega
  by_cases c5 : 0 < f.cd.length
  rotate_left
  · have qc5 : (f.cd.length : Int) < 1 := by omega
    have rc5 : decide ((f.cd.length : Int) < 1) = true := by simp; omega
    have sc5 : f.cd.length < 1 := by omega
    clear hz hm
    go_enter Tryd.func47, Tryd.ntmps47
    go_wp2
    go_ret2
    exact ⟨⟨_, by rw [unhide E]; rfl⟩, below2 _ _ _⟩
  have qc5 : decide ((f.cd.length : Int) < 1) = false := by simp; omega
  have tc5 : ¬ f.cd.length < 1 := by omega
  have c6 : ¬ f.cd.length ≤ 8388608 := by intro h; simp [c0, c1, c2, c3, c4, c5, h] at hz
  have qc6 : 8388608 < (f.cd.length : Int) := by omega
  have rc6 : decide (8388608 < (f.cd.length : Int)) = true := by simp; omega
  have sc6 : 8388608 < f.cd.length := by omega
  clear hz c6 hm
  go_enter Tryd.func47, Tryd.ntmps47
  go_wp2
  go_ret2
  exact ⟨⟨_, by rw [unhide E]; rfl⟩, below2 _ _ _⟩

set_option maxRecDepth 100000 in
set_option maxHeartbeats 8000000 in
theorem func_rest {N : Nat} {w : World} {v1 v2 v3 v : Value} {p : Pg} (h : PgAt N w v1 v2 v3 p) (hle : N ≤ w.heap.size) (hE : EffB p) (f : Fu) (hv : Lst N 4 (InAt w) v f.cd) (hz : rSizes f = true) :
    Calls Tryd.prog 47 #[pv v1 v2 v3 p.mn, fv f v] w fun e w' => FPost w (cFun p f).1 e w' := by
  have E := hide (show cFun p f = (match fstBad (okI p f) f.cd 0 with | some k => (82, (k : Int)) | none => if op0 f.cd ≠ 1 then (85, 0) else if (fstJ f.cd f.cd 0).1 ≠ 0 then fstJ f.cd f.cd 0 else ((dps p f.cd 0 (dp0 f.cd.length)).1, (dps p f.cd 0 (dp0 f.cd.length)).2.1)) by unfold cFun; rw [if_neg (by rw [hz]; simp)]; rfl)
  unfold rSizes at hz
  simp only [Bool.and_eq_true, decide_eq_true_eq] at hz
  obtain ⟨⟨⟨⟨⟨⟨c0, c1⟩, c2⟩, c3⟩, c4⟩, c5⟩, c6⟩ := hz
  have HV := hide hv
  obtain ⟨b1, o1, ⟨a1, z1, rfl, hc1, hm1, hs1⟩, hl1⟩ := hv
  obtain ⟨rfl, hb1⟩ := hs1 c5
  obtain ⟨A, eA⟩ : ∃ A, w.heap.size = A := ⟨_, rfl⟩
  obtain ⟨F, eF⟩ : ∃ F, A + 1 = F := ⟨_, rfl⟩
  obtain ⟨W, hW⟩ : ∃ W, (w.alloc (.cells #[v1, v2, v3, .int .i64 p.mn] 26)).alloc (.cells #[.string f.nm, .int .i64 f.pa, .int .i64 f.sl, .bool f.rs, .slice (some ⟨b1, o1, none⟩) f.cd.length z1] 51) = W := ⟨_, rfl⟩
  have hbW : Below w.heap.size w W := by rw [← hW]; exact below2 w _ _
  have hWs : W.heap.size = F + 1 := by rw [← hW]; simp; omega
  have xP : BX W A #[v1, v2, v3, .int .i64 p.mn] 26 := by unfold BX; rw [← hW, ← eA]; exact new2 w _ _
  have xF : BX W F #[.string f.nm, .int .i64 f.pa, .int .i64 f.sl, .bool f.rs, .slice (some ⟨b1, o1, none⟩) f.cd.length z1] 51 := by unfold BX; rw [← hW, ← eF, ← eA]; exact new2' w _ _
  have qc0 : decide (30 < (f.nm.size : Int)) = false := by simp; omega
  have tc0 : ¬ 30 < f.nm.size := by omega
  have qc1 : decide (f.pa < 0) = false := by simp; omega
  have qc2 : decide (8 < f.pa) = false := by simp; omega
  have qc3 : decide (f.sl < f.pa) = false := by simp; omega
  have qc4 : decide (250 < f.sl) = false := by simp; omega
  have qc5 : decide ((f.cd.length : Int) < 1) = false := by simp; omega
  have tc5 : ¬ f.cd.length < 1 := by omega
  have qc6 : decide (8388608 < (f.cd.length : Int)) = false := by simp; omega
  have tc6 : ¬ 8388608 < f.cd.length := by omega
  have HG := hide h
  have H1 := hide hl1
  have HEE := hide hE
  have HBW := hide hbW
  have HXP := hide xP
  have HXF := hide xF
  have HEA := hide eA
  have HEF := hide eF
  have HW := hide hW
  have hAF : A < F := by omega
  have hNA : N ≤ A := by omega
  clear h hl1 hs1 hE hbW xP xF eA eF hW c0 c1 c2 c3 c4
  go_enter Tryd.func47, Tryd.ntmps47
  go_wp2
  rw [unhide HW, unhide HEA, unhide HEF]
  clear qc0 tc0 qc1 qc2 qc3 qc4 qc5 tc5 qc6 tc6
  go_loopw [6] (fun i wr => ∃ k : Nat, k ≤ f.cd.length ∧ i = .int .i64 k ∧ fstBad (okI p f) f.cd 0 = fstBad (okI p f) (f.cd.drop k) k ∧ Below W.heap.size W wr) (fun i _ => f.cd.length - (intOf i).toNat)
  case atStart => exact ⟨0, Nat.zero_le _, rfl, rfl, Below.refl _ _⟩
  case round =>
    obtain ⟨k, hk, rfl, hR, hB⟩ := hrel
    have hszr := hB.size
    have HBr := hide ((unhide HBW).trans (hB.mono (by have := unhide HEA; omega)))
    have hwr : w.heap.size ≤ wr.heap.size := (unhide HBr).size
    have hXF : BX wr F _ _ := (hB.block F (by omega)).trans (unhide HXF)
    have hXP : BX wr A _ _ := (hB.block A (by omega)).trans (unhide HXP)
    have cF := hXF.c5
    have cP := hXP.c4
    have HXFr := hide hXF
    have HXPr := hide hXP
    have HGr := hide ((unhide HG).below ((unhide HBr).mono hle))
    have HVr := hide (code_below ((unhide HBr).mono hle) (unhide HV))
    have z1' : A < wr.heap.size := by omega
    have z2 : b1 < wr.heap.size := by omega
    have z4 : F < wr.heap.size := by omega
    by_cases hlt : k < f.cd.length
    · obtain ⟨g1, g2, g3, g4⟩ := InAt.below ((unhide HBr).mono hle) hb1 (unhide H1 k hlt)
      rw [fstBad_drop _ _ _ hlt] at hR
      generalize f.cd[k] = x at *
      have HR := hide hR
      have HB := hide hB
      clear hR hB hXF hXP
      cases hok : okI p f x
      · have HR2 := hide (show (cFun p f).1 = 82 by rw [unhide E, unhide HR, hok]; rfl)
        go_wp2
        go_region_with (first | (go_at_call 71; refine (may_is ((unhide HGr).below (Below.refl _ _).drew) f x hok).mono ?_; rintro e w8 ⟨rfl, hB8⟩; have HB8 := hide hB8; clear hB8))
        all_goals
          go_wp2
          go_ret2
          exact ⟨⟨_, by rw [unhide HR2]; rfl⟩, (unhide HBr).trans (((Below.refl _ _).drew.trans (unhide HB8)).mono hwr)⟩
      · have HR2 := hide ((unhide HR).trans (if_pos hok))
        go_wp2
        go_region_with (first | (go_at_call 71; refine (may_is ((unhide HGr).below (Below.refl _ _).drew) f x hok).mono ?_; rintro e w8 ⟨rfl, hB8⟩; have HB8 := hide hB8; clear hB8))
        all_goals
          go_wp2
          go_roundw
          case rel => exact ⟨k + 1, by omega, by go_num, unhide HR2, (unhide HB).trans (((Below.refl _ _).drew.trans (unhide HB8)).mono hszr)⟩
          case measure => simp [intOf]; omega
    · have hnone : fstBad (okI p f) f.cd 0 = none := hR.trans (by rw [List.drop_eq_nil_of_le (by omega)]; rfl)
      have HNO := hide hnone
      have HKN := hide (show ∀ x ∈ f.cd, knw x.op = true from fun x hx => (okI_k (fstBad_none hnone x hx)).1)
      have HE1 := hide (show cFun p f = if op0 f.cd ≠ 1 then (85, 0) else if (fstJ f.cd f.cd 0).1 ≠ 0 then fstJ f.cd f.cd 0 else ((dps p f.cd 0 (dp0 f.cd.length)).1, (dps p f.cd 0 (dp0 f.cd.length)).2.1) by rw [unhide E, hnone])
      obtain ⟨g1, g2, g3, g4⟩ := InAt.below ((unhide HBr).mono hle) hb1 (unhide H1 0 c5)
      rw [Nat.zero_mul, Nat.add_zero] at g1
      rw [← op0_at c5] at g1
      obtain ⟨wl, rfl⟩ : ∃ x, x = wr := ⟨_, rfl⟩
      clear hR hB hXF hXP hnone g2 g3 g4
      by_cases co : op0 f.cd = 1
      rotate_left
      · have HR2 := hide (show (cFun p f).1 = 85 by rw [unhide HE1, if_pos co])
        have qo : (op0 f.cd != 1) = true := by simpa using co
        clear co
        go_wp2
        go_ret2
        exact ⟨⟨_, by rw [unhide HR2]; rfl⟩, unhide HBr⟩
      have HE2 := hide ((unhide HE1).trans (if_neg (fun h => h co)))
      rw [co] at g1
      clear co
      obtain ⟨ra, rb, hj⟩ : ∃ a b, fstJ f.cd f.cd 0 = (a, b) := ⟨_, _, rfl⟩
      have HJ := hide hj
      clear hj
      go_wp2_with fail
      refine (ways_is (by omega : N ≤ wl.heap.size) f (unhide HVr) c5 (unhide HKN) (unhide HJ)).mono ?_
      rintro e w5 ⟨rfl, hB5⟩
      have h5s := hB5.size
      have hX5 : BX w5 F _ _ := (hB5.block F (by omega)).trans (unhide HXFr)
      have hP5 : BX w5 A _ _ := (hB5.block A (by omega)).trans (unhide HXPr)
      have HB5 := hide ((unhide HBr).trans (hB5.mono (by have := unhide HEA; omega)))
      have HG5 := hide ((unhide HG).below ((unhide HB5).mono hle))
      have HV5 := hide (code_below ((unhide HB5).mono hle) (unhide HV))
      clear cF cP hB5 g1
      have cF := hX5.c5
      have cP := hP5.c4
      clear hX5 hP5
      by_cases cj : ra = 0
      rotate_left
      · have qj : (ra != 0) = true := by simpa using cj
        have HR2 := hide (show (cFun p f).1 = ra by rw [unhide HE2, unhide HJ, if_pos cj])
        clear cj
        go_wp2
        go_ret2
        exact ⟨⟨_, by rw [unhide HR2]; rfl⟩, unhide HB5⟩
      subst cj
      have HR2 := hide (show (cFun p f).1 = (dps p f.cd 0 (dp0 f.cd.length)).1 by rw [unhide HE2, unhide HJ, if_neg (fun h => h rfl)])
      have HAK := hide (allK_of (unhide HNO) (by rw [unhide HJ]))
      go_wp2_with fail
      refine (walk_is (unhide HG5) (by omega : N ≤ w5.heap.size) (unhide HEE) f (unhide HV5) c5 c6 (unhide HAK)).mono ?_
      rintro e w6 ⟨⟨vv, bb, rfl⟩, hB6⟩
      have HB6 := hide ((unhide HB5).trans (hB6.mono (by have := unhide HEA; omega)))
      obtain ⟨rr, hrr⟩ : ∃ r, r = (dps p f.cd 0 (dp0 f.cd.length)).1 := ⟨_, rfl⟩
      rw [← hrr]
      have HR3 := hide ((unhide HR2).trans hrr.symm)
      clear hB6 cF cP hrr
      go_wp2
      go_ret2
      exact ⟨⟨_, by rw [unhide HR3]; rfl⟩, unhide HB6⟩

theorem func_is {N : Nat} {w : World} {v1 v2 v3 v : Value} {p : Pg} (h : PgAt N w v1 v2 v3 p) (hle : N ≤ w.heap.size) (hE : EffB p) (f : Fu) (hv : Lst N 4 (InAt w) v f.cd) {r : Int} (hr : (cFun p f).1 = r) :
    Calls Tryd.prog 47 #[pv v1 v2 v3 p.mn, fv f v] w fun e w' => FPost w r e w' := by
  subst hr
  cases hz : rSizes f
  · obtain ⟨b1, o1, ⟨a1, z1, rfl, hc1, hm1, hs1⟩, hl1⟩ := hv
    exact func_sizes f a1 z1 hm1 hz
  · exact func_rest h hle hE f hv hz

end Go.Proofs.YtgheaieghoekhaaDoor

namespace Go.Proofs.YtgheaieghoekhaaDoor
open Go.RowKit

def whl (p : Pg) : Int := if tmAny p then 81 else if rItems p.ps && rMain p then 0 else 82

theorem sums_le (ps : List (List It)) (k : Nat) : tsums (ps.take k) ≤ tsums ps := by
  have h : tsums ps = tsums (ps.take k) + tsums (ps.drop k) := by
    unfold tsums
    rw [← List.sum_append, ← List.map_append, List.take_append_drop]
  omega
theorem sum_le (l : List It) (k : Nat) : tsum (l.take k) ≤ tsum l := by
  have h : tsum l = tsum (l.take k) + tsum (l.drop k) := by
    unfold tsum
    rw [← List.sum_append, ← List.map_append, List.take_append_drop]
  omega
theorem any_take {α : Type} (f : α → Bool) (l : List α) (k : Nat) (h : k < l.length) : (l.take (k + 1)).any f = ((l.take k).any f || f l[k]) := by
  rw [List.take_succ_eq_append_getElem h, List.any_append]
  simp
theorem all_take {α : Type} (f : α → Bool) (l : List α) (k : Nat) (h : k < l.length) : (l.take (k + 1)).all f = ((l.take k).all f && f l[k]) := by
  rw [List.take_succ_eq_append_getElem h, List.all_append]
  simp

theorem tm_texts {p : Pg} (h : 20000 < tsums p.ps) (hb : tsums p.ps ≤ 140737488355328) : tmAny p = true := by
  have : tmPrints p.ps = true := by
    unfold tmPrints
    rw [wrap_in (by omega)]
    simp
    omega
  unfold tmAny
  simp [this]
theorem tm_list {p : Pg} {k : Nat} (h : k < p.ps.length) (hl : 20 < p.ps[k].length) : tmAny p = true := by
  have : tmPrints p.ps = true := by
    unfold tmPrints
    have h2 : p.ps.any (fun l => decide (20 < l.length)) = true := List.any_eq_true.2 ⟨p.ps[k], List.getElem_mem h, by simpa using hl⟩
    simp [h2]
  unfold tmAny
  simp [this]
theorem tm_arms {p : Pg} {k : Nat} (h : k < p.ar.length) (hl : 50 < p.ar[k].length) : tmAny p = true := by
  have : tmArms p.ar = true := by
    unfold tmArms
    have h2 : p.ar.any (fun l => decide (50 < l.length)) = true := List.any_eq_true.2 ⟨p.ar[k], List.getElem_mem h, by simpa using hl⟩
    simp [h2]
  unfold tmAny
  simp [this]

section
variable {N : Nat} {w : World} {v1 v2 v3 : Value} {p : Pg} (h : PgAt N w v1 v2 v3 p) (hle : N ≤ w.heap.size)
include h
set_option maxRecDepth 100000 in
set_option maxHeartbeats 4000000 in
theorem whole_len (hx : p.fs.length < 1 ∨ 100 < p.fs.length ∨ 8388608 < p.ps.length ∨ 8388608 < p.ar.length) :
    Calls Tryd.prog 46 #[pv v1 v2 v3 p.mn] w fun e w' => e = .returned (.int .i64 (whl p)) ∧ Below w.heap.size w w' := by
  have E := hide (show whl p = 81 by
    unfold whl
    rw [if_pos]
    unfold tmAny tmPrints tmArms
    rcases hx with h | h | h | h
    · simp [show p.fs.length = 0 by omega]
    · simp [h]
    · simp [h]
    · simp [h])
  obtain ⟨b1, o1, ⟨a1, c1, rfl, -, hm1, -⟩, -⟩ := h.hf
  obtain ⟨b2, o2, ⟨a2, c2, rfl, -, hm2, -⟩, -⟩ := h.hp
  obtain ⟨b3, o3, ⟨a3, c3, rfl, -, hm3, -⟩, -⟩ := h.ha
  clear h
  by_cases d1 : p.fs.length < 1
  · have q1 : decide ((p.fs.length : Int) < 1) = true := by simp; omega
    have r1 : (p.fs.length : Int) < 1 := by omega
    clear hx
    go_enter Tryd.func46, Tryd.ntmps46
    go_wp2
    go_ret
    exact ⟨ret_int (unhide E).symm, below1 _ _⟩
  have q1 : decide ((p.fs.length : Int) < 1) = false := by simp; omega
  by_cases d2 : 100 < p.fs.length
  · have q2 : decide (100 < (p.fs.length : Int)) = true := by simp; omega
    have r2 : (100 : Int) < (p.fs.length : Int) := by omega
    clear hx
    go_enter Tryd.func46, Tryd.ntmps46
    go_wp2
    go_ret
    exact ⟨ret_int (unhide E).symm, below1 _ _⟩
  have q2 : decide (100 < (p.fs.length : Int)) = false := by simp; omega
  by_cases d3 : 8388608 < p.ps.length
  · have q3 : decide (8388608 < (p.ps.length : Int)) = true := by simp; omega
    have r3 : (8388608 : Int) < (p.ps.length : Int) := by omega
    clear hx
    go_enter Tryd.func46, Tryd.ntmps46
    go_wp2
    go_ret
    exact ⟨ret_int (unhide E).symm, below1 _ _⟩
  have q3 : decide (8388608 < (p.ps.length : Int)) = false := by simp; omega
  have d4 : 8388608 < p.ar.length := by omega
  have q4 : decide (8388608 < (p.ar.length : Int)) = true := by simp; omega
  have r4 : (8388608 : Int) < (p.ar.length : Int) := by omega
  clear hx
  go_enter Tryd.func46, Tryd.ntmps46
  go_wp2
  go_ret
  exact ⟨ret_int (unhide E).symm, below1 _ _⟩

include hle
set_option maxRecDepth 100000 in
set_option maxHeartbeats 16000000 in
theorem whole_rest (hT : tsums p.ps ≤ 140737488355328) (d1 : ¬ p.fs.length < 1) (d2 : ¬ 100 < p.fs.length) (d3 : ¬ 8388608 < p.ps.length) (d4 : ¬ 8388608 < p.ar.length) :
    Calls Tryd.prog 46 #[pv v1 v2 v3 p.mn] w fun e w' => e = .returned (.int .i64 (whl p)) ∧ Below w.heap.size w w' := by
  obtain ⟨b1, o1, ⟨a1, c1, rfl, hc1, hm1, hs1⟩, hl1⟩ := h.hf
  obtain ⟨b2, o2, ⟨a2, c2, rfl, hc2, hm2, hs2⟩, hl2⟩ := h.hp
  obtain ⟨b3, o3, ⟨a3, c3, rfl, hc3, hm3, hs3⟩, hl3⟩ := h.ha
  obtain ⟨A, eA⟩ : ∃ A, w.heap.size = A := ⟨_, rfl⟩
  obtain ⟨W, hW⟩ : ∃ W, w.alloc (.cells #[.slice a1 p.fs.length c1, .slice a2 p.ps.length c2, .slice a3 p.ar.length c3, .int .i64 p.mn] 26) = W := ⟨_, rfl⟩
  have hbW : Below w.heap.size w W := by rw [← hW]; exact below1 w _
  have hWs : W.heap.size = A + 1 := by rw [← hW]; simp [eA]
  have xP : BX W A #[.slice a1 p.fs.length c1, .slice a2 p.ps.length c2, .slice a3 p.ar.length c3, .int .i64 p.mn] 26 := by rw [← hW, ← eA]; exact BX.new w _ _
  have q1 : decide ((p.fs.length : Int) < 1) = false := by simp; omega
  have q2 : decide (100 < (p.fs.length : Int)) = false := by simp; omega
  have q3 : decide (8388608 < (p.ps.length : Int)) = false := by simp; omega
  have q4 : decide (8388608 < (p.ar.length : Int)) = false := by simp; omega
  have hNA : N ≤ A := by omega
  have H1 := hide hl1
  have H2 := hide hl2
  have H3 := hide hl3
  have S1 := hide hs1
  have S2 := hide hs2
  have S3 := hide hs3
  have HBW := hide hbW
  have HXP := hide xP
  have HEA := hide eA
  have HW := hide hW
  have HT := hide hT
  have D1 := hide d1
  have D2 := hide d2
  have D3 := hide d3
  have D4 := hide d4
  clear h hl1 hl2 hl3 hs1 hs2 hs3 hbW xP eA hW hT d1 d2
  go_enter Tryd.func46, Tryd.ntmps46
  go_wp2
  rw [unhide HW, unhide HEA]
  clear q1 q2 q3 q4
  go_loopw [3, 4, 5] (fun t ft i wr => ∃ k : Nat, k ≤ p.ps.length ∧ i = .int .i64 k ∧ t = .int .i64 ((tsums (p.ps.take k) : Nat) : Int) ∧ ft = .bool (rItems (p.ps.take k)) ∧ tsums (p.ps.take k) ≤ 20000 ∧ (p.ps.take k).any (fun l => decide (20 < l.length)) = false ∧ Below W.heap.size W wr) (fun _ _ i _ => p.ps.length - (intOf i).toNat)
  case atStart => exact ⟨0, Nat.zero_le _, rfl, rfl, rfl, Nat.zero_le _, rfl, Below.refl _ _⟩
  case round =>
    obtain ⟨k, hk, rfl, rfl, rfl, hts, hany, hB⟩ := hrel
    have hszr := hB.size
    have hXP : BX wr A _ _ := (hB.block A (by omega)).trans (unhide HXP)
    have cP := hXP.c4
    have z1 : A < wr.heap.size := by omega
    have HBr := hide ((unhide HBW).trans (hB.mono (by have := unhide HEA; omega)))
    have HB := hide hB
    have HANY := hide hany
    clear hB hany
    by_cases hlt : k < p.ps.length
    · obtain ⟨rfl, hb2⟩ := unhide S2 (by omega)
      obtain ⟨v, f1, f2⟩ := PrAt.below ((unhide HBr).mono hle) hb2 (unhide H2 k hlt)
      rw [Nat.mul_one] at f1
      have HF2 := hide f2
      obtain ⟨b5, o5, ⟨a5, c5, rfl, hc5, hm5, hs5⟩, hl5⟩ := f2
      have HSm := hide (sums_take p.ps k hlt)
      have HAn := hide (any_take (fun l => decide (20 < l.length)) p.ps k hlt)
      have HAl := hide (show rItems (p.ps.take (k + 1)) = (rItems (p.ps.take k) && p.ps[k].all rItem) by unfold rItems; exact all_take (fun l => l.all rItem) p.ps k hlt)
      have HTL := hide (fun h : 20 < p.ps[k].length => tm_list (p := p) hlt h)
      have HLe := hide (sums_le p.ps (k + 1))
      generalize hz : p.ps[k] = z at *
      have z2 : b2 < wr.heap.size := by omega
      by_cases d5 : 20 < z.length
      · have E := hide (show whl p = 81 by unfold whl; rw [if_pos (unhide HTL d5)])
        have q5 : decide (20 < (z.length : Int)) = true := by simp; omega
        have r5 : (20 : Int) < (z.length : Int) := by omega
        clear hs5 hl5 hz
        go_wp2
        go_ret
        exact ⟨ret_int (unhide E).symm, unhide HBr⟩
      have q5 : decide (20 < (z.length : Int)) = false := by simp; omega
      have r5 : ¬ (20 : Int) < (z.length : Int) := by omega
      have HD5 := hide d5
      obtain ⟨T, hTe⟩ : ∃ T, T = tsums (p.ps.take k) := ⟨_, rfl⟩
      obtain ⟨g0, hge⟩ : ∃ g, g = rItems (p.ps.take k) := ⟨_, rfl⟩
      rw [← hTe] at hts HSm
      rw [← hge] at HAl
      rw [← hTe, ← hge]
      have HTe := hide hTe
      have HGe := hide hge
      have H5 := hide hl5
      have S5 := hide hs5
      obtain ⟨wq, rfl⟩ : ∃ x, x = wr := ⟨_, rfl⟩
      have HF1 := hide f1
      have HXPq := hide hXP
      clear hTe hge hl5 hs5 hz hXP
      go_wp2
      clear f1 cP q5 r5
      go_loopw [3, 4, 6] (fun t ft i wr => ∃ j : Nat, j ≤ z.length ∧ i = .int .i64 j ∧ t = .int .i64 ((T + tsum (z.take j) : Nat) : Int) ∧ ft = .bool (g0 && (z.take j).all rItem) ∧ T + tsum (z.take j) ≤ 20000 ∧ Below wq.heap.size wq wr) (fun _ _ i _ => z.length - (intOf i).toNat)
      case atStart => exact ⟨0, Nat.zero_le _, rfl, by simp [tsum], by simp, by simp [tsum]; omega, Below.refl _ _⟩
      case round =>
        obtain ⟨j, hj, rfl, rfl, rfl, hts2, hB2⟩ := hrel
        have hsz2 := hB2.size
        have hXP2 : BX wr A _ _ := (hB2.block A (by omega)).trans (unhide HXPq)
        have cP := hXP2.c4
        have f1 := (hB2.cell (p := ⟨b2, o2 + k, none⟩) z2).trans (unhide HF1)
        have z3 : A < wr.heap.size := by omega
        have z4 : b2 < wr.heap.size := by omega
        have HB2 := hide hB2
        have HBr2 := hide ((unhide HBr).trans (hB2.mono (by have := (unhide HBr).size; omega)))
        clear hXP2 hB2
        by_cases hlt2 : j < z.length
        · obtain ⟨rfl, hb5⟩ := unhide S5 (by omega)
          obtain ⟨y1, y2⟩ := ItAt.below ((unhide HB2).mono (Nat.le_trans (by omega : N ≤ A) (by omega))) hb5 (unhide H5 j hlt2)
          have HS2 := hide (sum_take z j hlt2)
          have HA2 := hide (all_take rItem z j hlt2)
          have HLe2 := hide (sum_le z (j + 1))
          generalize hy : z[j] = y at *
          have HBa := hide ((unhide HB2).alloc (by omega) (.cells #[.int .i64 y.k, .string y.t] 64))
          have HBb := hide ((unhide HBr2).alloc (by have := (unhide HBr2).size; omega) (.cells #[.int .i64 y.k, .string y.t] 64))
          obtain ⟨T2, hT2⟩ : ∃ T2, T2 = T + tsum (z.take j) := ⟨_, rfl⟩
          have HT2 := hide hT2
          rw [← hT2] at hts2 ⊢
          have z5 : b5 < wr.heap.size := by omega
          have hys : y.t.size ≤ 140737488355328 := by have := unhide HS2; have := unhide HLe2; have := unhide HSm; have := unhide HLe; have := unhide HT; omega
          clear hy hT2
          by_cases d6 : 20000 - (T2 : Int) < (y.t.size : Int)
          · have E := hide (show whl p = 81 by
              unfold whl
              rw [if_pos (tm_texts (by have := unhide HS2; have := unhide HLe2; have := unhide HSm; have := unhide HLe; have := unhide HT2; omega) (unhide HT))])
            go_wp2
            go_ret
            exact ⟨ret_int (unhide E).symm, unhide HBb⟩
          have q6 : decide (20000 - (T2 : Int) < (y.t.size : Int)) = false := by simpa using d6
          have HTn := hide (show ((T2 : Int) + (y.t.size : Int)) = ((T + tsum (z.take (j + 1)) : Nat) : Int) by have := unhide HS2; have := unhide HT2; omega)
          have HTm := hide (show T + tsum (z.take (j + 1)) ≤ 20000 by have := unhide HS2; have := unhide HT2; omega)
          obtain ⟨g, hg⟩ : ∃ g, g = (g0 && (z.take j).all rItem) := ⟨_, rfl⟩
          rw [← hg]
          have HGn := hide (show (g0 && (z.take (j + 1)).all rItem) = (g && rItem y) by rw [unhide HA2, hg, Bool.and_assoc])
          clear hg d6
          cases g
          · go_wp2
            go_roundw
            case rel => exact ⟨j + 1, by omega, by go_num, vint64 (unhide HTn), by rw [unhide HGn]; simp, unhide HTm, unhide HBa⟩
            case measure => simp [intOf]; omega
          · by_cases e1 : y.k < 1
            · have HV := hide (show (true && rItem y) = false by simp [rItem]; omega)
              go_wp2
              go_roundw
              case rel => exact ⟨j + 1, by omega, by go_num, vint64 (unhide HTn), by rw [unhide HGn, unhide HV], unhide HTm, unhide HBa⟩
              case measure => simp [intOf]; omega
            have qe1 : decide (1 ≤ y.k) = true := by simp; omega
            have re1 : 1 ≤ y.k := by omega
            by_cases e2 : 3 < y.k
            · have HV := hide (show (true && rItem y) = false by simp [rItem]; omega)
              have qe2 : decide (y.k ≤ 3) = false := by simp; omega
              go_wp2
              go_roundw
              case rel => exact ⟨j + 1, by omega, by go_num, vint64 (unhide HTn), by rw [unhide HGn, unhide HV], unhide HTm, unhide HBa⟩
              case measure => simp [intOf]; omega
            have qe2 : decide (y.k ≤ 3) = true := by simp; omega
            have re2 : y.k ≤ 3 := by omega
            by_cases e3 : y.k = 1
            · have HV := hide (show (true && rItem y) = true by simp [rItem, e3])
              have qe3 : (y.k == 1) = true := by simpa using e3
              clear e3 e1 e2
              go_wp2
              go_roundw
              case rel => exact ⟨j + 1, by omega, by go_num, vint64 (unhide HTn), by rw [unhide HGn, unhide HV], unhide HTm, unhide HBa⟩
              case measure => simp [intOf]; omega
            have qe3 : (y.k == 1) = false := by simpa using e3
            have e4 : y.k = 2 ∨ y.k = 3 := by omega
            have HV := hide (show (true && rItem y) = y.t.toList.isEmpty by rw [emp_iff]; rcases e4 with h | h <;> simp [rItem, h])
            clear e4
            clear e1 e2 e3
            go_wp2
            go_roundw
            case rel => exact ⟨j + 1, by omega, by go_num, vint64 (unhide HTn), by rw [unhide HGn, unhide HV], unhide HTm, unhide HBa⟩
            case measure => simp [intOf]; omega
        · have ej : z.take j = z := List.take_of_length_le (by omega)
          have HTn := hide (show T + tsum (z.take j) = tsums (p.ps.take (k + 1)) by rw [ej, unhide HSm])
          have HGn := hide (show (g0 && (z.take j).all rItem) = rItems (p.ps.take (k + 1)) by rw [ej, unhide HAl])
          have HAx := hide (show (p.ps.take (k + 1)).any (fun l => decide (20 < l.length)) = false by rw [unhide HAn, unhide HANY]; simpa using unhide HD5)
          rw [unhide HTn] at hts2 ⊢
          rw [unhide HGn]
          clear ej
          go_wp2
          go_roundw
          case rel => exact ⟨k + 1, by omega, by go_num, rfl, rfl, hts2, unhide HAx, (unhide HB).trans ((unhide HB2).mono hszr)⟩
          case measure => simp [intOf]; omega
    · have ek : p.ps.take k = p.ps := List.take_of_length_le (by omega)
      rw [ek] at hts ⊢
      have HANP := hide (show tmPrints p.ps = false by
        unfold tmPrints
        rw [wrap_in (by omega)]
        have h1 := unhide HANY
        rw [ek] at h1
        rw [h1]
        have := unhide D3
        simp; omega)
      obtain ⟨gI, hgI⟩ : ∃ g, g = rItems p.ps := ⟨_, rfl⟩
      rw [← hgI]
      have HGI := hide hgI
      have HXPq := hide hXP
      clear ek hgI hXP HANY
      obtain ⟨wq, rfl⟩ : ∃ x, x = wr := ⟨_, rfl⟩
      go_wp2
      clear cP
      go_loopw [8] (fun i wr => ∃ k : Nat, k ≤ p.ar.length ∧ i = .int .i64 k ∧ (p.ar.take k).any (fun l => decide (50 < l.length)) = false ∧ wr = wq) (fun i _ => p.ar.length - (intOf i).toNat)
      case atStart => exact ⟨0, Nat.zero_le _, rfl, rfl, rfl⟩
      case round =>
        obtain ⟨m, hm, rfl, hany, rfl⟩ := hrel
        have cP := (unhide HXPq).c4
        have HANY := hide hany
        clear hany
        by_cases hlt2 : m < p.ar.length
        · obtain ⟨rfl, hb3⟩ := unhide S3 (by omega)
          obtain ⟨v, f1, f2⟩ := ArAt.below ((unhide HBr).mono hle) hb3 (unhide H3 m hlt2)
          rw [Nat.mul_one] at f1
          obtain ⟨b5, o5, ⟨a5, c5, rfl, hc5, hm5, hs5⟩, hl5⟩ := f2
          have HAn := hide (any_take (fun l => decide (50 < l.length)) p.ar m hlt2)
          have HTL := hide (fun h : 50 < p.ar[m].length => tm_arms (p := p) hlt2 h)
          have z2 : b3 < wr.heap.size := by omega
          generalize hz : p.ar[m] = z at *
          clear hs5 hl5 hz
          by_cases d5 : 50 < z.length
          · have E := hide (show whl p = 81 by unfold whl; rw [if_pos (unhide HTL d5)])
            have q5 : decide (50 < (z.length : Int)) = true := by simp; omega
            have r5 : (50 : Int) < (z.length : Int) := by omega
            go_wp2
            go_ret
            exact ⟨ret_int (unhide E).symm, unhide HBr⟩
          have q5 : decide (50 < (z.length : Int)) = false := by simp; omega
          have r5 : ¬ (50 : Int) < (z.length : Int) := by omega
          go_wp2
          go_roundw
          case rel => exact ⟨m + 1, by omega, by go_num, by rw [unhide HAn, unhide HANY]; simpa using d5, by first | rfl | trivial⟩
          case measure => simp [intOf]; omega
        · have em : p.ar.take m = p.ar := List.take_of_length_le (by omega)
          have HTM := hide (show tmAny p = false by
            have h1 := unhide HANY
            rw [em] at h1
            have := unhide D1
            have := unhide D2
            have := unhide D4
            have e1 : decide (p.fs.length = 0) = false := decide_eq_false (by omega)
            have e2 : decide (100 < p.fs.length) = false := decide_eq_false (by omega)
            have e3 : decide (8388608 < p.ar.length) = false := decide_eq_false (by omega)
            unfold tmAny tmArms
            rw [unhide HANP, h1, e1, e2, e3]
            rfl)
          have EW := hide (show whl p = if gI && rMain p then 0 else 82 by unfold whl; rw [unhide HTM, unhide HGI]; rfl)
          clear em
          cases gI
          · have E := hide ((unhide EW).trans (by simp : _ = (82 : Int)))
            go_wp2
            go_ret
            exact ⟨ret_int (unhide E).symm, unhide HBr⟩
          by_cases m1 : p.mn < 0
          · have E := hide ((unhide EW).trans (by rw [show rMain p = false by unfold rMain pick_; rw [if_neg (by omega)]]; rfl : _ = (82 : Int)))
            go_wp2
            go_ret
            exact ⟨ret_int (unhide E).symm, unhide HBr⟩
          have qm1 : decide (p.mn < 0) = false := by simpa using m1
          by_cases m2 : (p.fs.length : Int) ≤ p.mn
          · have E := hide ((unhide EW).trans (by rw [show rMain p = false by unfold rMain pick_; rw [if_pos (by omega), List.getElem?_eq_none (by omega)]]; rfl : _ = (82 : Int)))
            clear m1
            go_wp2
            go_ret
            exact ⟨ret_int (unhide E).symm, unhide HBr⟩
          have qm2 : decide ((p.fs.length : Int) ≤ p.mn) = false := by simpa using m2
          obtain ⟨j, hj⟩ : ∃ j : Nat, p.mn = (j : Int) := ⟨p.mn.toNat, by omega⟩
          have hjn : j < p.fs.length := by omega
          obtain ⟨rfl, hb1⟩ := unhide S1 (by omega)
          obtain ⟨v, f1, f2, f3, f4, f5, -⟩ := FuAt.below ((unhide HBr).mono hle) hb1 (unhide H1 j hjn)
          have HM := hide (show rMain p = (decide (p.fs[j].pa = 0) && !p.fs[j].rs) by unfold rMain; rw [hj, pick_yes hjn])
          have z2 : b1 < wr.heap.size := by omega
          generalize p.fs[j] = y at *
          rw [hj] at cP qm1 qm2
          clear m1 m2 f1 f3 f5
          by_cases y1 : y.pa = 0
          rotate_left
          · have qy : (y.pa != 0) = true := by simpa using y1
            have E := hide ((unhide EW).trans (by rw [unhide HM]; simp [y1] : _ = (82 : Int)))
            clear y1 hj
            go_wp2
            go_ret
            exact ⟨ret_int (unhide E).symm, unhide HBr⟩
          rw [y1] at f2
          cases y2 : y.rs
          · rw [y2] at f4
            have E := hide ((unhide EW).trans (by rw [unhide HM]; simp [y1, y2] : _ = (0 : Int)))
            clear y1 y2 hj
            go_wp2
            go_ret
            exact ⟨ret_int (unhide E).symm, unhide HBr⟩
          · rw [y2] at f4
            have E := hide ((unhide EW).trans (by rw [unhide HM]; simp [y2] : _ = (82 : Int)))
            clear y1 y2 hj
            go_wp2
            go_ret
            exact ⟨ret_int (unhide E).symm, unhide HBr⟩
theorem whole_is (hT : tsums p.ps ≤ 140737488355328) {r : Int} (hr : whl p = r) :
    Calls Tryd.prog 46 #[pv v1 v2 v3 p.mn] w fun e w' => e = .returned (.int .i64 r) ∧ Below w.heap.size w w' := by
  subst hr
  by_cases hx : p.fs.length < 1 ∨ 100 < p.fs.length ∨ 8388608 < p.ps.length ∨ 8388608 < p.ar.length
  · exact whole_len h hx
  · exact whole_rest h hle hT (fun h => hx (Or.inl h)) (fun h => hx (Or.inr (Or.inl h))) (fun h => hx (Or.inr (Or.inr (Or.inl h)))) (fun h => hx (Or.inr (Or.inr (Or.inr h))))
end

end Go.Proofs.YtgheaieghoekhaaDoor

namespace Go.Proofs.YtgheaieghoekhaaDoor
open Go.RowKit

def CPost (w : World) (r : Int) (e : Ending) (w' : World) : Prop := (∃ b c, e = .returned (.tuple #[.int .i64 r, .int .i64 b, .int .i64 c])) ∧ Below w.heap.size w w'

theorem chk_whl {p : Pg} (h : whl p ≠ 0) : (chk p).1 = whl p := by
  unfold whl at *
  unfold chk
  by_cases h1 : tmAny p = true
  · rw [if_pos h1, if_pos h1]
  · rw [if_neg h1] at h
    rw [if_neg h1, if_neg h1]
    by_cases h2 : (rItems p.ps && rMain p) = true
    · rw [if_pos h2] at h; exact absurd rfl h
    · rw [if_neg h2, if_pos]
      cases ha : rItems p.ps
      · exact Or.inl rfl
      · cases hb : rMain p
        · exact Or.inr rfl
        · rw [ha, hb] at h2; exact absurd rfl h2
theorem chk_fst {p : Pg} (h : whl p = 0) : chk p = fstF p p.fs 0 := by
  unfold whl at h
  unfold chk
  by_cases h1 : tmAny p = true
  · rw [if_pos h1] at h; cases h
  · rw [if_neg h1] at h
    rw [if_neg h1]
    by_cases h2 : (rItems p.ps && rMain p) = true
    · simp only [Bool.and_eq_true] at h2
      rw [if_neg (by rw [h2.1, h2.2]; simp)]
    · rw [if_neg h2] at h; cases h

set_option maxRecDepth 100000 in
set_option maxHeartbeats 8000000 in
theorem rcheck_is {N : Nat} {w : World} {v1 v2 v3 : Value} {p : Pg} (h : PgAt N w v1 v2 v3 p) (hle : N ≤ w.heap.size) (hT : tsums p.ps ≤ 140737488355328) (hE : EffB p) {r : Int} (hr : (chk p).1 = r) :
    Calls Tryd.prog 25 #[pv v1 v2 v3 p.mn] w fun e w' => CPost w r e w' := by
  obtain ⟨A, eA⟩ : ∃ A, w.heap.size = A := ⟨_, rfl⟩
  obtain ⟨W, hW⟩ : ∃ W, w.alloc (.cells #[v1, v2, v3, .int .i64 p.mn] 26) = W := ⟨_, rfl⟩
  have hbW : Below w.heap.size w W := by rw [← hW]; exact below1 w _
  have hWs : W.heap.size = A + 1 := by rw [← hW]; simp [eA]
  have xP : BX W A #[v1, v2, v3, .int .i64 p.mn] 26 := by rw [← hW, ← eA]; exact BX.new w _ _
  obtain ⟨wh, hwh⟩ : ∃ x, whl p = x := ⟨_, rfl⟩
  have HG := hide h
  have HGW := hide (h.below (hbW.mono hle))
  have HBW := hide hbW
  have HXP := hide xP
  have HEA := hide eA
  have HW := hide hW
  have HT := hide hT
  have HEE := hide hE
  have HR := hide hr
  have HWH := hide hwh
  have hNA : N ≤ A := by omega
  clear h hbW xP eA hW hT hE hr
  go_enter Tryd.func25, Tryd.ntmps25
  go_wp2_with fail
  rw [unhide HW, unhide HEA]
  refine (whole_is (unhide HGW) (by omega) (unhide HT) (unhide HWH)).mono ?_
  rintro e w5 ⟨rfl, hB5⟩
  have h5s := hB5.size
  have HB5 := hide ((unhide HBW).trans (hB5.mono (by have := unhide HEA; omega)))
  have HBW5 := hide hB5
  clear hB5
  by_cases cw : wh = 0
  rotate_left
  · have qw : (wh != 0) = true := by simpa using cw
    have HR2 := hide (show r = wh by rw [← unhide HR, ← unhide HWH]; exact chk_whl (by rw [unhide HWH]; exact cw))
    clear cw hwh
    go_wp2
    go_ret3
    exact ⟨⟨_, _, by rw [unhide HR2]; rfl⟩, unhide HB5⟩
  subst cw
  have HR2 := hide (show (fstF p p.fs 0).1 = r by rw [← unhide HR, chk_fst hwh])
  clear hwh
  go_wp2
  go_loopw [6] (fun i wr => ∃ k : Nat, k ≤ p.fs.length ∧ i = .int .i64 k ∧ fstF p p.fs 0 = fstF p (p.fs.drop k) k ∧ Below W.heap.size W wr) (fun i _ => p.fs.length - (intOf i).toNat)
  case atStart => exact ⟨0, Nat.zero_le _, rfl, rfl, unhide HBW5⟩
  case round =>
    obtain ⟨k, hk, rfl, hR, hB⟩ := hrel
    have hszr := hB.size
    have HBr := hide ((unhide HBW).trans (hB.mono (by have := unhide HEA; omega)))
    have hwr : w.heap.size ≤ wr.heap.size := (unhide HBr).size
    have hXP : BX wr A _ _ := (hB.block A (by omega)).trans (unhide HXP)
    have cP := hXP.c4
    have HGr := hide ((unhide HG).below ((unhide HBr).mono hle))
    have z1' : A < wr.heap.size := by omega
    have hNd : N ≤ wr.drew.heap.size := by show N ≤ wr.heap.size; omega
    obtain ⟨b1, o1, ⟨a1, c1, rfl, hc1, hm1, hs1⟩, hl1⟩ := (unhide HGr).hf
    by_cases hlt : k < p.fs.length
    · obtain ⟨rfl, hb1⟩ := hs1 (by omega)
      obtain ⟨v, g1, g2, g3, g4, g5, hcd⟩ := hl1 k hlt
      have HCD := hide hcd
      obtain ⟨b2, o2, ⟨a2, c2', rfl, -⟩, -⟩ := hcd
      rw [fstF_drop _ _ _ hlt] at hR
      have z2 : b1 < wr.heap.size := by omega
      generalize p.fs[k] = f at *
      obtain ⟨ea, hc⟩ : ∃ a, (cFun p f).1 = a := ⟨_, rfl⟩
      have HRk := hide hR
      have HC := hide hc
      have HB := hide hB
      clear hR hB hc hXP hl1 hs1
      by_cases ce : ea = 0
      · subst ce
        have HRn := hide ((unhide HRk).trans (if_pos (unhide HC)))
        go_wp2
        go_region_with (first | (go_at_call 47; refine (func_is ((unhide HGr).below (Below.refl _ _).drew) hNd (unhide HEE) f (code_below (Below.refl _ _).drew (unhide HCD)) (unhide HC)).mono ?_; rintro e w8 ⟨⟨bb, rfl⟩, hB8⟩; have HB8 := hide hB8; clear hB8))
        all_goals
          go_wp2
          go_roundw
          case rel => exact ⟨k + 1, by omega, by go_num, unhide HRn, (unhide HB).trans (((Below.refl _ _).drew.trans (unhide HB8)).mono hszr)⟩
          case measure => simp [intOf]; omega
      · have q : (ea != 0) = true := by simpa using ce
        have HRn := hide (show r = ea by rw [← unhide HR2, (unhide HRk).trans (if_neg (by rw [unhide HC]; exact ce)), unhide HC])
        clear ce
        go_wp2
        go_region_with (first | (go_at_call 47; refine (func_is ((unhide HGr).below (Below.refl _ _).drew) hNd (unhide HEE) f (code_below (Below.refl _ _).drew (unhide HCD)) (unhide HC)).mono ?_; rintro e w8 ⟨⟨bb, rfl⟩, hB8⟩; have HB8 := hide hB8; clear hB8))
        all_goals
          go_wp2
          go_ret3
          exact ⟨⟨_, _, by rw [unhide HRn]; rfl⟩, (unhide HBr).trans (((Below.refl _ _).drew.trans (unhide HB8)).mono hwr)⟩
    · have HRn := hide (show r = 0 by rw [← unhide HR2, hR, List.drop_eq_nil_of_le (by omega)]; rfl)
      clear hR hB hXP hl1 hs1
      go_wp2
      go_ret3
      exact ⟨⟨_, _, by rw [unhide HRn]; rfl⟩, unhide HBr⟩

end Go.Proofs.YtgheaieghoekhaaDoor
