import Derived.Test.YtmdhjiammcpogaaGreatDoorQ05
namespace Go.Proofs.YtmdhjiammcpogaaGreatDoor
set_option maxRecDepth 100000
set_option maxHeartbeats 16000000
open Go.RowKit
variable {b : Bool} {f : Nd} {u : Value}
def kDef (f : Nd) : Bool := f.n == 1
theorem kDef_is (h : kDef f = b) (w : World) :
 Calls Tryz.prog 88 #[nv f u] w fun e w' => e = .returned (.bool b) /\ Below w.heap.size w w' := by
 obtain ⟨k, t, n, y, s, a, l⟩ := f
 unfold nv
 unfold kDef at h
 by_cases c : n = 1
 ·subst c
  have E := zz (show true = b by rw [<- h]; rfl)
  clear h
  go_enter Tryz.func88, Tryz.ntmps88
  go_wp2
  go_ret
  exact ⟨zb E.out, (box1 _ _).out⟩
 ·have q := beq_false_of_ne c
  have E := zz (show false = b by rw [<- h]; exact q.symm)
  clear h c
  go_enter Tryz.func88, Tryz.ntmps88
  go_wp2
  go_ret
  exact ⟨zb E.out, (box1 _ _).out⟩
def numFit (f : Nd) : Bool := if f.k = 22 then decide (0 <= f.n) else if f.k = 23 ∨ f.k = 13 ∨ f.k = 14 ∨ f.k = 16 then f.n == 0 || f.n == 1 else if f.k = 6 ∨ f.k = 7 then f.n == 1 || f.n == 2 else if f.k = 8 then f.n == 1 || f.n == (-1) else if f.k = 12 then decide (0 <= f.n) && decide (f.n <= 3) else f.n == 0
theorem numFit_is (h : numFit f = b) (w : World) :
 Calls Tryz.prog 26 #[nv f u] w fun e w' => e = .returned (.bool b) /\ Below w.heap.size w w' := by
 obtain ⟨k, t, n, y, s, a, l⟩ := f
 unfold nv
 unfold numFit at h
 by_cases c22 : k = 22
 ·subst c22
  by_cases e : 0 <= n
  ·have qe : decide (0 <= n) = true := decide_eq_true e
   have E := zz (show true = b by rw [<- h]; exact qe.symm)
   clear h e
   go_enter Tryz.func26, Tryz.ntmps26
   go_wp2
   go_ret
   exact ⟨zb E.out, (box1 _ _).out⟩
  ·have qe : decide (0 <= n) = false := decide_eq_false e
   have E := zz (show false = b by rw [<- h]; exact qe.symm)
   clear h e
   go_enter Tryz.func26, Tryz.ntmps26
   go_wp2
   go_ret
   exact ⟨zb E.out, (box1 _ _).out⟩
 have q22 := beq_false_of_ne c22
 by_cases c23 : k = 23
 ·subst c23
  by_cases e : n = 0
  ·subst e
   have E := zz (show true = b by rw [<- h]; rfl)
   clear h c22 q22
   go_enter Tryz.func26, Tryz.ntmps26
   go_wp2
   go_ret
   exact ⟨zb E.out, (box1 _ _).out⟩
  ·have qe := beq_false_of_ne e
   by_cases e2 : n = 1
   ·subst e2
    have E := zz (show true = b by rw [<- h]; rfl)
    clear h c22 q22 e qe
    go_enter Tryz.func26, Tryz.ntmps26
    go_wp2
    go_ret
    exact ⟨zb E.out, (box1 _ _).out⟩
   ·have qf := beq_false_of_ne e2
    have E := zz (show false = b by rw [<- h]; show false = (n == 0 || n == 1); rw [qe, qf]; rfl)
    clear h c22 q22 e e2
    go_enter Tryz.func26, Tryz.ntmps26
    go_wp2
    go_ret
    exact ⟨zb E.out, (box1 _ _).out⟩
 have q23 := beq_false_of_ne c23
 by_cases c13 : k = 13
 ·subst c13
  by_cases e : n = 0
  ·subst e
   have E := zz (show true = b by rw [<- h]; rfl)
   clear h c22 q22 c23 q23
   go_enter Tryz.func26, Tryz.ntmps26
   go_wp2
   go_ret
   exact ⟨zb E.out, (box1 _ _).out⟩
  ·have qe := beq_false_of_ne e
   by_cases e2 : n = 1
   ·subst e2
    have E := zz (show true = b by rw [<- h]; rfl)
    clear h c22 q22 c23 q23 e qe
    go_enter Tryz.func26, Tryz.ntmps26
    go_wp2
    go_ret
    exact ⟨zb E.out, (box1 _ _).out⟩
   ·have qf := beq_false_of_ne e2
    have E := zz (show false = b by rw [<- h]; show false = (n == 0 || n == 1); rw [qe, qf]; rfl)
    clear h c22 q22 c23 q23 e e2
    go_enter Tryz.func26, Tryz.ntmps26
    go_wp2
    go_ret
    exact ⟨zb E.out, (box1 _ _).out⟩
 have q13 := beq_false_of_ne c13
 by_cases c14 : k = 14
 ·subst c14
  by_cases e : n = 0
  ·subst e
   have E := zz (show true = b by rw [<- h]; rfl)
   clear h c22 q22 c23 q23 c13 q13
   go_enter Tryz.func26, Tryz.ntmps26
   go_wp2
   go_ret
   exact ⟨zb E.out, (box1 _ _).out⟩
  ·have qe := beq_false_of_ne e
   by_cases e2 : n = 1
   ·subst e2
    have E := zz (show true = b by rw [<- h]; rfl)
    clear h c22 q22 c23 q23 c13 q13 e qe
    go_enter Tryz.func26, Tryz.ntmps26
    go_wp2
    go_ret
    exact ⟨zb E.out, (box1 _ _).out⟩
   ·have qf := beq_false_of_ne e2
    have E := zz (show false = b by rw [<- h]; show false = (n == 0 || n == 1); rw [qe, qf]; rfl)
    clear h c22 q22 c23 q23 c13 q13 e e2
    go_enter Tryz.func26, Tryz.ntmps26
    go_wp2
    go_ret
    exact ⟨zb E.out, (box1 _ _).out⟩
 have q14 := beq_false_of_ne c14
 by_cases c16 : k = 16
 ·subst c16
  by_cases e : n = 0
  ·subst e
   have E := zz (show true = b by rw [<- h]; rfl)
   clear h c22 q22 c23 q23 c13 q13 c14 q14
   go_enter Tryz.func26, Tryz.ntmps26
   go_wp2
   go_ret
   exact ⟨zb E.out, (box1 _ _).out⟩
  ·have qe := beq_false_of_ne e
   by_cases e2 : n = 1
   ·subst e2
    have E := zz (show true = b by rw [<- h]; rfl)
    clear h c22 q22 c23 q23 c13 q13 c14 q14 e qe
    go_enter Tryz.func26, Tryz.ntmps26
    go_wp2
    go_ret
    exact ⟨zb E.out, (box1 _ _).out⟩
   ·have qf := beq_false_of_ne e2
    have E := zz (show false = b by rw [<- h]; show false = (n == 0 || n == 1); rw [qe, qf]; rfl)
    clear h c22 q22 c23 q23 c13 q13 c14 q14 e e2
    go_enter Tryz.func26, Tryz.ntmps26
    go_wp2
    go_ret
    exact ⟨zb E.out, (box1 _ _).out⟩
 have q16 := beq_false_of_ne c16
 by_cases c6 : k = 6
 ·subst c6
  by_cases e : n = 1
  ·subst e
   have E := zz (show true = b by rw [<- h]; rfl)
   clear h c22 q22 c23 q23 c13 q13 c14 q14 c16 q16
   go_enter Tryz.func26, Tryz.ntmps26
   go_wp2
   go_ret
   exact ⟨zb E.out, (box1 _ _).out⟩
  ·have qe := beq_false_of_ne e
   by_cases e2 : n = 2
   ·subst e2
    have E := zz (show true = b by rw [<- h]; rfl)
    clear h c22 q22 c23 q23 c13 q13 c14 q14 c16 q16 e qe
    go_enter Tryz.func26, Tryz.ntmps26
    go_wp2
    go_ret
    exact ⟨zb E.out, (box1 _ _).out⟩
   ·have qf := beq_false_of_ne e2
    have E := zz (show false = b by rw [<- h]; show false = (n == 1 || n == 2); rw [qe, qf]; rfl)
    clear h c22 q22 c23 q23 c13 q13 c14 q14 c16 q16 e e2
    go_enter Tryz.func26, Tryz.ntmps26
    go_wp2
    go_ret
    exact ⟨zb E.out, (box1 _ _).out⟩
 have q6 := beq_false_of_ne c6
 by_cases c7 : k = 7
 ·subst c7
  by_cases e : n = 1
  ·subst e
   have E := zz (show true = b by rw [<- h]; rfl)
   clear h c22 q22 c23 q23 c13 q13 c14 q14 c16 q16 c6 q6
   go_enter Tryz.func26, Tryz.ntmps26
   go_wp2
   go_ret
   exact ⟨zb E.out, (box1 _ _).out⟩
  ·have qe := beq_false_of_ne e
   by_cases e2 : n = 2
   ·subst e2
    have E := zz (show true = b by rw [<- h]; rfl)
    clear h c22 q22 c23 q23 c13 q13 c14 q14 c16 q16 c6 q6 e qe
    go_enter Tryz.func26, Tryz.ntmps26
    go_wp2
    go_ret
    exact ⟨zb E.out, (box1 _ _).out⟩
   ·have qf := beq_false_of_ne e2
    have E := zz (show false = b by rw [<- h]; show false = (n == 1 || n == 2); rw [qe, qf]; rfl)
    clear h c22 q22 c23 q23 c13 q13 c14 q14 c16 q16 c6 q6 e e2
    go_enter Tryz.func26, Tryz.ntmps26
    go_wp2
    go_ret
    exact ⟨zb E.out, (box1 _ _).out⟩
 have q7 := beq_false_of_ne c7
 by_cases c8 : k = 8
 ·subst c8
  by_cases e : n = 1
  ·subst e
   have E := zz (show true = b by rw [<- h]; rfl)
   clear h c22 q22 c23 q23 c13 q13 c14 q14 c16 q16 c6 q6 c7 q7
   go_enter Tryz.func26, Tryz.ntmps26
   go_wp2
   go_ret
   exact ⟨zb E.out, (box1 _ _).out⟩
  ·have qe := beq_false_of_ne e
   by_cases e2 : n = (-1)
   ·subst e2
    have E := zz (show true = b by rw [<- h]; rfl)
    clear h c22 q22 c23 q23 c13 q13 c14 q14 c16 q16 c6 q6 c7 q7 e qe
    go_enter Tryz.func26, Tryz.ntmps26
    go_wp2
    go_ret
    exact ⟨zb E.out, (box1 _ _).out⟩
   ·have qf : (n == (-1)) = false := beq_false_of_ne e2
    have E := zz (show false = b by rw [<- h]; show false = (n == 1 || n == (-1)); rw [qe, qf]; rfl)
    clear h c22 q22 c23 q23 c13 q13 c14 q14 c16 q16 c6 q6 c7 q7 e e2
    go_enter Tryz.func26, Tryz.ntmps26
    go_wp2
    go_ret
    exact ⟨zb E.out, (box1 _ _).out⟩
 have q8 := beq_false_of_ne c8
 by_cases c12 : k = 12
 ·subst c12
  by_cases e : 0 <= n
  ·have qe : decide (0 <= n) = true := decide_eq_true e
   by_cases e3 : n <= 3
   ·have qf : decide (n <= 3) = true := decide_eq_true e3
    have E := zz (show true = b by rw [<- h]; show true = (decide (0 <= n) && decide (n <= 3)); rw [qe, qf]; rfl)
    clear h c22 q22 c23 q23 c13 q13 c14 q14 c16 q16 c6 q6 c7 q7 c8 q8 e e3
    go_enter Tryz.func26, Tryz.ntmps26
    go_wp2
    go_ret
    exact ⟨zb E.out, (box1 _ _).out⟩
   ·have qf : decide (n <= 3) = false := decide_eq_false e3
    have E := zz (show false = b by rw [<- h]; show false = (decide (0 <= n) && decide (n <= 3)); rw [qe, qf]; rfl)
    clear h c22 q22 c23 q23 c13 q13 c14 q14 c16 q16 c6 q6 c7 q7 c8 q8 e e3
    go_enter Tryz.func26, Tryz.ntmps26
    go_wp2
    go_ret
    exact ⟨zb E.out, (box1 _ _).out⟩
  ·have qe : decide (0 <= n) = false := decide_eq_false e
   have E := zz (show false = b by rw [<- h]; show false = (decide (0 <= n) && decide (n <= 3)); rw [qe]; rfl)
   clear h c22 q22 c23 q23 c13 q13 c14 q14 c16 q16 c6 q6 c7 q7 c8 q8 e
   go_enter Tryz.func26, Tryz.ntmps26
   go_wp2
   go_ret
   exact ⟨zb E.out, (box1 _ _).out⟩
 have q12 := beq_false_of_ne c12
 rw [if_neg (show ¬(k = 22) from fun hh => by exact c22 hh)] at h
 rw [if_neg (show ¬(k = 23 ∨ k = 13 ∨ k = 14 ∨ k = 16) from fun hh => by rcases hh with hh | hh | hh | hh; exact c23 hh; exact c13 hh; exact c14 hh; exact c16 hh)] at h
 rw [if_neg (show ¬(k = 6 ∨ k = 7) from fun hh => by rcases hh with hh | hh; exact c6 hh; exact c7 hh)] at h
 rw [if_neg (show ¬(k = 8) from fun hh => by exact c8 hh)] at h
 rw [if_neg (show ¬(k = 12) from fun hh => by exact c12 hh)] at h
 by_cases e : n = 0
 ·subst e
  have E := zz (show true = b by rw [<- h]; rfl)
  clear h c22 c23 c13 c14 c16 c6 c7 c8 c12
  go_enter Tryz.func26, Tryz.ntmps26
  go_wp2
  go_ret
  exact ⟨zb E.out, (box1 _ _).out⟩
 ·have qe := beq_false_of_ne e
  have E := zz (show false = b by rw [<- h]; exact qe.symm)
  clear h c22 c23 c13 c14 c16 c6 c7 c8 c12 e
  go_enter Tryz.func26, Tryz.ntmps26
  go_wp2
  go_ret
  exact ⟨zb E.out, (box1 _ _).out⟩
end Go.Proofs.YtmdhjiammcpogaaGreatDoor
