import Derived.Test.YtmdhjiammcpogaaGreatDoorQ04
namespace Go.Proofs.YtmdhjiammcpogaaGreatDoor
set_option maxRecDepth 100000
set_option maxHeartbeats 16000000
section
open Go.RowKit
variable {b : Bool} {f : Nd} {u : Value}
def kNone (f : Nd) : Bool := f.k == 0
theorem kNone_is (h : kNone f = b) (w : World) :
 Calls Tryz.prog 87 #[nv f u] w fun e w' => e = .returned (.bool b) /\ Below w.heap.size w w' := by
 obtain ⟨k, t, n, y, s, a, l⟩ := f
 unfold nv
 unfold kNone at h
 by_cases c0 : k = 0
 ·subst c0
  have E := zz (show true = b by rw [<- h]; rfl)
  clear h
  go_enter Tryz.func87, Tryz.ntmps87
  go_wp2
  go_ret
  exact ⟨zb E.out, (box1 _ _).out⟩
 have q0 := beq_false_of_ne c0
 have E := zz (show false = b by rw [<- h]; simp only [q0])
 clear h c0
 go_enter Tryz.func87, Tryz.ntmps87
 go_wp2
 go_ret
 exact ⟨zb E.out, (box1 _ _).out⟩
def kFunc (f : Nd) : Bool := f.k == 2
theorem kFunc_is (h : kFunc f = b) (w : World) :
 Calls Tryz.prog 51 #[nv f u] w fun e w' => e = .returned (.bool b) /\ Below w.heap.size w w' := by
 obtain ⟨k, t, n, y, s, a, l⟩ := f
 unfold nv
 unfold kFunc at h
 by_cases c0 : k = 2
 ·subst c0
  have E := zz (show true = b by rw [<- h]; rfl)
  clear h
  go_enter Tryz.func51, Tryz.ntmps51
  go_wp2
  go_ret
  exact ⟨zb E.out, (box1 _ _).out⟩
 have q0 := beq_false_of_ne c0
 have E := zz (show false = b by rw [<- h]; simp only [q0])
 clear h c0
 go_enter Tryz.func51, Tryz.ntmps51
 go_wp2
 go_ret
 exact ⟨zb E.out, (box1 _ _).out⟩
def kParam (f : Nd) : Bool := f.k == 3
theorem kParam_is (h : kParam f = b) (w : World) :
 Calls Tryz.prog 53 #[nv f u] w fun e w' => e = .returned (.bool b) /\ Below w.heap.size w w' := by
 obtain ⟨k, t, n, y, s, a, l⟩ := f
 unfold nv
 unfold kParam at h
 by_cases c0 : k = 3
 ·subst c0
  have E := zz (show true = b by rw [<- h]; rfl)
  clear h
  go_enter Tryz.func53, Tryz.ntmps53
  go_wp2
  go_ret
  exact ⟨zb E.out, (box1 _ _).out⟩
 have q0 := beq_false_of_ne c0
 have E := zz (show false = b by rw [<- h]; simp only [q0])
 clear h c0
 go_enter Tryz.func53, Tryz.ntmps53
 go_wp2
 go_ret
 exact ⟨zb E.out, (box1 _ _).out⟩
def kBlock (f : Nd) : Bool := f.k == 4
theorem kBlock_is (h : kBlock f = b) (w : World) :
 Calls Tryz.prog 60 #[nv f u] w fun e w' => e = .returned (.bool b) /\ Below w.heap.size w w' := by
 obtain ⟨k, t, n, y, s, a, l⟩ := f
 unfold nv
 unfold kBlock at h
 by_cases c0 : k = 4
 ·subst c0
  have E := zz (show true = b by rw [<- h]; rfl)
  clear h
  go_enter Tryz.func60, Tryz.ntmps60
  go_wp2
  go_ret
  exact ⟨zb E.out, (box1 _ _).out⟩
 have q0 := beq_false_of_ne c0
 have E := zz (show false = b by rw [<- h]; simp only [q0])
 clear h c0
 go_enter Tryz.func60, Tryz.ntmps60
 go_wp2
 go_ret
 exact ⟨zb E.out, (box1 _ _).out⟩
def kElse (f : Nd) : Bool := f.k == 4 || f.k == 11
theorem kElse_is (h : kElse f = b) (w : World) :
 Calls Tryz.prog 61 #[nv f u] w fun e w' => e = .returned (.bool b) /\ Below w.heap.size w w' := by
 obtain ⟨k, t, n, y, s, a, l⟩ := f
 unfold nv
 unfold kElse at h
 by_cases c0 : k = 4
 ·subst c0
  have E := zz (show true = b by rw [<- h]; rfl)
  clear h
  go_enter Tryz.func61, Tryz.ntmps61
  go_wp2
  go_ret
  exact ⟨zb E.out, (box1 _ _).out⟩
 have q0 := beq_false_of_ne c0
 by_cases c1 : k = 11
 ·subst c1
  have E := zz (show true = b by rw [<- h]; rfl)
  clear h c0 q0
  go_enter Tryz.func61, Tryz.ntmps61
  go_wp2
  go_ret
  exact ⟨zb E.out, (box1 _ _).out⟩
 have q1 := beq_false_of_ne c1
 have E := zz (show false = b by rw [<- h]; simp only [q0, q1]; rfl)
 clear h c0 c1
 go_enter Tryz.func61, Tryz.ntmps61
 go_wp2
 go_ret
 exact ⟨zb E.out, (box1 _ _).out⟩
def kTarget (f : Nd) : Bool := f.k == 21
theorem kTarget_is (h : kTarget f = b) (w : World) :
 Calls Tryz.prog 82 #[nv f u] w fun e w' => e = .returned (.bool b) /\ Below w.heap.size w w' := by
 obtain ⟨k, t, n, y, s, a, l⟩ := f
 unfold nv
 unfold kTarget at h
 by_cases c0 : k = 21
 ·subst c0
  have E := zz (show true = b by rw [<- h]; rfl)
  clear h
  go_enter Tryz.func82, Tryz.ntmps82
  go_wp2
  go_ret
  exact ⟨zb E.out, (box1 _ _).out⟩
 have q0 := beq_false_of_ne c0
 have E := zz (show false = b by rw [<- h]; simp only [q0])
 clear h c0
 go_enter Tryz.func82, Tryz.ntmps82
 go_wp2
 go_ret
 exact ⟨zb E.out, (box1 _ _).out⟩
def kStmt (f : Nd) : Bool := f.k == 5 || f.k == 6 || f.k == 7 || f.k == 8 || f.k == 9 || f.k == 10 || f.k == 11 || f.k == 12 || f.k == 13 || f.k == 15 || f.k == 4 || f.k == 17 || f.k == 18 || f.k == 19 || f.k == 20
theorem kStmt_is (h : kStmt f = b) (w : World) :
 Calls Tryz.prog 54 #[nv f u] w fun e w' => e = .returned (.bool b) /\ Below w.heap.size w w' := by
 obtain ⟨k, t, n, y, s, a, l⟩ := f
 unfold nv
 unfold kStmt at h
 by_cases c0 : k = 5
 ·subst c0
  have E := zz (show true = b by rw [<- h]; rfl)
  clear h
  go_enter Tryz.func54, Tryz.ntmps54
  go_wp2
  go_ret
  exact ⟨zb E.out, (box1 _ _).out⟩
 have q0 := beq_false_of_ne c0
 by_cases c1 : k = 6
 ·subst c1
  have E := zz (show true = b by rw [<- h]; rfl)
  clear h c0 q0
  go_enter Tryz.func54, Tryz.ntmps54
  go_wp2
  go_ret
  exact ⟨zb E.out, (box1 _ _).out⟩
 have q1 := beq_false_of_ne c1
 by_cases c2 : k = 7
 ·subst c2
  have E := zz (show true = b by rw [<- h]; rfl)
  clear h c0 q0 c1 q1
  go_enter Tryz.func54, Tryz.ntmps54
  go_wp2
  go_ret
  exact ⟨zb E.out, (box1 _ _).out⟩
 have q2 := beq_false_of_ne c2
 by_cases c3 : k = 8
 ·subst c3
  have E := zz (show true = b by rw [<- h]; rfl)
  clear h c0 q0 c1 q1 c2 q2
  go_enter Tryz.func54, Tryz.ntmps54
  go_wp2
  go_ret
  exact ⟨zb E.out, (box1 _ _).out⟩
 have q3 := beq_false_of_ne c3
 by_cases c4 : k = 9
 ·subst c4
  have E := zz (show true = b by rw [<- h]; rfl)
  clear h c0 q0 c1 q1 c2 q2 c3 q3
  go_enter Tryz.func54, Tryz.ntmps54
  go_wp2
  go_ret
  exact ⟨zb E.out, (box1 _ _).out⟩
 have q4 := beq_false_of_ne c4
 by_cases c5 : k = 10
 ·subst c5
  have E := zz (show true = b by rw [<- h]; rfl)
  clear h c0 q0 c1 q1 c2 q2 c3 q3 c4 q4
  go_enter Tryz.func54, Tryz.ntmps54
  go_wp2
  go_ret
  exact ⟨zb E.out, (box1 _ _).out⟩
 have q5 := beq_false_of_ne c5
 by_cases c6 : k = 11
 ·subst c6
  have E := zz (show true = b by rw [<- h]; rfl)
  clear h c0 q0 c1 q1 c2 q2 c3 q3 c4 q4 c5 q5
  go_enter Tryz.func54, Tryz.ntmps54
  go_wp2
  go_ret
  exact ⟨zb E.out, (box1 _ _).out⟩
 have q6 := beq_false_of_ne c6
 by_cases c7 : k = 12
 ·subst c7
  have E := zz (show true = b by rw [<- h]; rfl)
  clear h c0 q0 c1 q1 c2 q2 c3 q3 c4 q4 c5 q5 c6 q6
  go_enter Tryz.func54, Tryz.ntmps54
  go_wp2
  go_ret
  exact ⟨zb E.out, (box1 _ _).out⟩
 have q7 := beq_false_of_ne c7
 by_cases c8 : k = 13
 ·subst c8
  have E := zz (show true = b by rw [<- h]; rfl)
  clear h c0 q0 c1 q1 c2 q2 c3 q3 c4 q4 c5 q5 c6 q6 c7 q7
  go_enter Tryz.func54, Tryz.ntmps54
  go_wp2
  go_ret
  exact ⟨zb E.out, (box1 _ _).out⟩
 have q8 := beq_false_of_ne c8
 by_cases c9 : k = 15
 ·subst c9
  have E := zz (show true = b by rw [<- h]; rfl)
  clear h c0 q0 c1 q1 c2 q2 c3 q3 c4 q4 c5 q5 c6 q6 c7 q7 c8 q8
  go_enter Tryz.func54, Tryz.ntmps54
  go_wp2
  go_ret
  exact ⟨zb E.out, (box1 _ _).out⟩
 have q9 := beq_false_of_ne c9
 by_cases c10 : k = 4
 ·subst c10
  have E := zz (show true = b by rw [<- h]; rfl)
  clear h c0 q0 c1 q1 c2 q2 c3 q3 c4 q4 c5 q5 c6 q6 c7 q7 c8 q8 c9 q9
  go_enter Tryz.func54, Tryz.ntmps54
  go_wp2
  go_ret
  exact ⟨zb E.out, (box1 _ _).out⟩
 have q10 := beq_false_of_ne c10
 by_cases c11 : k = 17
 ·subst c11
  have E := zz (show true = b by rw [<- h]; rfl)
  clear h c0 q0 c1 q1 c2 q2 c3 q3 c4 q4 c5 q5 c6 q6 c7 q7 c8 q8 c9 q9 c10 q10
  go_enter Tryz.func54, Tryz.ntmps54
  go_wp2
  go_ret
  exact ⟨zb E.out, (box1 _ _).out⟩
 have q11 := beq_false_of_ne c11
 by_cases c12 : k = 18
 ·subst c12
  have E := zz (show true = b by rw [<- h]; rfl)
  clear h c0 q0 c1 q1 c2 q2 c3 q3 c4 q4 c5 q5 c6 q6 c7 q7 c8 q8 c9 q9 c10 q10 c11 q11
  go_enter Tryz.func54, Tryz.ntmps54
  go_wp2
  go_ret
  exact ⟨zb E.out, (box1 _ _).out⟩
 have q12 := beq_false_of_ne c12
 by_cases c13 : k = 19
 ·subst c13
  have E := zz (show true = b by rw [<- h]; rfl)
  clear h c0 q0 c1 q1 c2 q2 c3 q3 c4 q4 c5 q5 c6 q6 c7 q7 c8 q8 c9 q9 c10 q10 c11 q11 c12 q12
  go_enter Tryz.func54, Tryz.ntmps54
  go_wp2
  go_ret
  exact ⟨zb E.out, (box1 _ _).out⟩
 have q13 := beq_false_of_ne c13
 by_cases c14 : k = 20
 ·subst c14
  have E := zz (show true = b by rw [<- h]; rfl)
  clear h c0 q0 c1 q1 c2 q2 c3 q3 c4 q4 c5 q5 c6 q6 c7 q7 c8 q8 c9 q9 c10 q10 c11 q11 c12 q12 c13 q13
  go_enter Tryz.func54, Tryz.ntmps54
  go_wp2
  go_ret
  exact ⟨zb E.out, (box1 _ _).out⟩
 have q14 := beq_false_of_ne c14
 have E := zz (show false = b by rw [<- h]; simp only [q0, q1, q2, q3, q4, q5, q6, q7, q8, q9, q10, q11, q12, q13, q14]; rfl)
 clear h c0 c1 c2 c3 c4 c5 c6 c7 c8 c9 c10 c11 c12 c13 c14
 go_enter Tryz.func54, Tryz.ntmps54
 go_wp2
 go_ret
 exact ⟨zb E.out, (box1 _ _).out⟩
def kNext (f : Nd) : Bool := f.k == 0 || f.k == 7 || f.k == 8 || f.k == 9 || f.k == 10
theorem kNext_is (h : kNext f = b) (w : World) :
 Calls Tryz.prog 86 #[nv f u] w fun e w' => e = .returned (.bool b) /\ Below w.heap.size w w' := by
 obtain ⟨k, t, n, y, s, a, l⟩ := f
 unfold nv
 unfold kNext at h
 by_cases c0 : k = 0
 ·subst c0
  have E := zz (show true = b by rw [<- h]; rfl)
  clear h
  go_enter Tryz.func86, Tryz.ntmps86
  go_wp2
  go_ret
  exact ⟨zb E.out, (box1 _ _).out⟩
 have q0 := beq_false_of_ne c0
 by_cases c1 : k = 7
 ·subst c1
  have E := zz (show true = b by rw [<- h]; rfl)
  clear h c0 q0
  go_enter Tryz.func86, Tryz.ntmps86
  go_wp2
  go_ret
  exact ⟨zb E.out, (box1 _ _).out⟩
 have q1 := beq_false_of_ne c1
 by_cases c2 : k = 8
 ·subst c2
  have E := zz (show true = b by rw [<- h]; rfl)
  clear h c0 q0 c1 q1
  go_enter Tryz.func86, Tryz.ntmps86
  go_wp2
  go_ret
  exact ⟨zb E.out, (box1 _ _).out⟩
 have q2 := beq_false_of_ne c2
 by_cases c3 : k = 9
 ·subst c3
  have E := zz (show true = b by rw [<- h]; rfl)
  clear h c0 q0 c1 q1 c2 q2
  go_enter Tryz.func86, Tryz.ntmps86
  go_wp2
  go_ret
  exact ⟨zb E.out, (box1 _ _).out⟩
 have q3 := beq_false_of_ne c3
 by_cases c4 : k = 10
 ·subst c4
  have E := zz (show true = b by rw [<- h]; rfl)
  clear h c0 q0 c1 q1 c2 q2 c3 q3
  go_enter Tryz.func86, Tryz.ntmps86
  go_wp2
  go_ret
  exact ⟨zb E.out, (box1 _ _).out⟩
 have q4 := beq_false_of_ne c4
 have E := zz (show false = b by rw [<- h]; simp only [q0, q1, q2, q3, q4]; rfl)
 clear h c0 c1 c2 c3 c4
 go_enter Tryz.func86, Tryz.ntmps86
 go_wp2
 go_ret
 exact ⟨zb E.out, (box1 _ _).out⟩
def kBlank (f : Nd) : Bool := f.k == 21 && decide (f.t.data.toList = [95])
theorem kBlank_is (h : kBlank f = b) (w : World) :
 Calls Tryz.prog 81 #[nv f u] w fun e w' => e = .returned (.bool b) /\ Below w.heap.size w w' := by
 obtain ⟨k, t, n, y, s, a, l⟩ := f
 unfold nv
 unfold kBlank at h
 by_cases c0 : k = 21
 rotate_left
 ·have q0 := beq_false_of_ne c0
  have E := zz (show false = b by rw [<- h]; simp only [q0]; rfl)
  clear h c0
  go_enter Tryz.func81, Tryz.ntmps81
  go_wp2
  go_ret
  exact ⟨zb E.out, (box1 _ _).out⟩
 subst c0
 by_cases ct : t.data.toList = [95]
 ·have qt : (t.toList == [95]) = true := by rw [ByteArray.toList_eq]; rw [ct]; rfl
  have E := zz (show true = b by rw [<- h, decide_eq_true ct]; rfl)
  clear h ct
  go_enter Tryz.func81, Tryz.ntmps81
  go_wp2
  go_ret
  exact ⟨zb E.out, (box1 _ _).out⟩
 ·have qt : (t.toList == [95]) = false := by rw [ByteArray.toList_eq]; exact beq_false_of_ne ct
  have E := zz (show false = b by rw [<- h, decide_eq_false ct]; rfl)
  clear h ct
  go_enter Tryz.func81, Tryz.ntmps81
  go_wp2
  go_ret
  exact ⟨zb E.out, (box1 _ _).out⟩
def kOwn (f : Nd) : Bool := f.k == 21 && !decide (f.t.data.toList = [95])
theorem kOwn_is (h : kOwn f = b) (w : World) :
 Calls Tryz.prog 58 #[nv f u] w fun e w' => e = .returned (.bool b) /\ Below w.heap.size w w' := by
 obtain ⟨k, t, n, y, s, a, l⟩ := f
 unfold nv
 unfold kOwn at h
 by_cases c0 : k = 21
 rotate_left
 ·have q0 := beq_false_of_ne c0
  have E := zz (show false = b by rw [<- h]; simp only [q0]; rfl)
  clear h c0
  go_enter Tryz.func58, Tryz.ntmps58
  go_wp2
  go_ret
  exact ⟨zb E.out, (box1 _ _).out⟩
 subst c0
 by_cases ct : t.data.toList = [95]
 ·have qt : (t.toList == [95]) = true := by rw [ByteArray.toList_eq]; rw [ct]; rfl
  have E := zz (show false = b by rw [<- h, decide_eq_true ct]; rfl)
  clear h ct
  go_enter Tryz.func58, Tryz.ntmps58
  go_wp2
  go_ret
  exact ⟨zb E.out, (box1 _ _).out⟩
 ·have qt : (t.toList == [95]) = false := by rw [ByteArray.toList_eq]; exact beq_false_of_ne ct
  have E := zz (show true = b by rw [<- h, decide_eq_false ct]; rfl)
  clear h ct
  go_enter Tryz.func58, Tryz.ntmps58
  go_wp2
  go_ret
  exact ⟨zb E.out, (box1 _ _).out⟩
def kRecv (f : Nd) : Bool := f.k == 26 && decide (f.t.data.toList = [60, 45])
theorem kRecv_is (h : kRecv f = b) (w : World) :
 Calls Tryz.prog 83 #[nv f u] w fun e w' => e = .returned (.bool b) /\ Below w.heap.size w w' := by
 obtain ⟨k, t, n, y, s, a, l⟩ := f
 unfold nv
 unfold kRecv at h
 by_cases c0 : k = 26
 rotate_left
 ·have q0 := beq_false_of_ne c0
  have E := zz (show false = b by rw [<- h]; simp only [q0]; rfl)
  clear h c0
  go_enter Tryz.func83, Tryz.ntmps83
  go_wp2
  go_ret
  exact ⟨zb E.out, (box1 _ _).out⟩
 subst c0
 by_cases ct : t.data.toList = [60, 45]
 ·have qt : (t.toList == [60, 45]) = true := by rw [ByteArray.toList_eq]; rw [ct]; rfl
  have E := zz (show true = b by rw [<- h, decide_eq_true ct]; rfl)
  clear h ct
  go_enter Tryz.func83, Tryz.ntmps83
  go_wp2
  go_ret
  exact ⟨zb E.out, (box1 _ _).out⟩
 ·have qt : (t.toList == [60, 45]) = false := by rw [ByteArray.toList_eq]; exact beq_false_of_ne ct
  have E := zz (show false = b by rw [<- h, decide_eq_false ct]; rfl)
  clear h ct
  go_enter Tryz.func83, Tryz.ntmps83
  go_wp2
  go_ret
  exact ⟨zb E.out, (box1 _ _).out⟩
end
section
open Go.RowKit
variable {b : Bool} {f : Nd} {s : ByteArray} {u : Value}
def uSign (s : List UInt8) : Bool := if s = [43] then true else if s = [45] then true else if s = [33] then true else if s = [60, 45] then true else false
theorem uSign_is (h : uSign s.data.toList = b) (w : World) :
 Calls Tryz.prog 44 #[.string s] w fun e w' => e = .returned (.bool b) /\ w' = w := by
 unfold uSign at h
 by_cases c0 : s.data.toList = [43]
 ·have q0 : (s.toList == [43]) = true := by rw [ByteArray.toList_eq, c0]; rfl
  rw [if_pos c0] at h
  have E := zz (show (true : Bool) = b from h)
  clear h c0
  go_enter Tryz.func44, Tryz.ntmps44
  go_wp2
  go_ret
  exact ⟨zb E.out, rfl⟩
 have q0 : (s.toList == [43]) = false := by rw [ByteArray.toList_eq]; exact beq_false_of_ne c0
 rw [if_neg c0] at h
 by_cases c1 : s.data.toList = [45]
 ·have q1 : (s.toList == [45]) = true := by rw [ByteArray.toList_eq, c1]; rfl
  rw [if_pos c1] at h
  have E := zz (show (true : Bool) = b from h)
  clear h c0 c1
  go_enter Tryz.func44, Tryz.ntmps44
  go_wp2
  go_ret
  exact ⟨zb E.out, rfl⟩
 have q1 : (s.toList == [45]) = false := by rw [ByteArray.toList_eq]; exact beq_false_of_ne c1
 rw [if_neg c1] at h
 by_cases c2 : s.data.toList = [33]
 ·have q2 : (s.toList == [33]) = true := by rw [ByteArray.toList_eq, c2]; rfl
  rw [if_pos c2] at h
  have E := zz (show (true : Bool) = b from h)
  clear h c0 c1 c2
  go_enter Tryz.func44, Tryz.ntmps44
  go_wp2
  go_ret
  exact ⟨zb E.out, rfl⟩
 have q2 : (s.toList == [33]) = false := by rw [ByteArray.toList_eq]; exact beq_false_of_ne c2
 rw [if_neg c2] at h
 by_cases c3 : s.data.toList = [60, 45]
 ·have q3 : (s.toList == [60, 45]) = true := by rw [ByteArray.toList_eq, c3]; rfl
  rw [if_pos c3] at h
  have E := zz (show (true : Bool) = b from h)
  clear h c0 c1 c2 c3
  go_enter Tryz.func44, Tryz.ntmps44
  go_wp2
  go_ret
  exact ⟨zb E.out, rfl⟩
 have q3 : (s.toList == [60, 45]) = false := by rw [ByteArray.toList_eq]; exact beq_false_of_ne c3
 rw [if_neg c3] at h
 have E := zz (show (false : Bool) = b from h)
 clear h c0 c1 c2 c3
 go_enter Tryz.func44, Tryz.ntmps44
 go_wp2
 go_ret
 exact ⟨zb E.out, rfl⟩
def cWord (s : List UInt8) : Bool := if s = [108, 101, 110] then true else if s = [99, 97, 112] then true else if s = [99, 108, 111, 115, 101] then true else if s = [121, 105, 101, 108, 100] then true else if s = [112, 114, 105, 110, 116, 108, 110] then true else false
theorem cWord_is (h : cWord s.data.toList = b) (w : World) :
 Calls Tryz.prog 46 #[.string s] w fun e w' => e = .returned (.bool b) /\ w' = w := by
 unfold cWord at h
 by_cases c0 : s.data.toList = [108, 101, 110]
 ·have q0 : (s.toList == [108, 101, 110]) = true := by rw [ByteArray.toList_eq, c0]; rfl
  rw [if_pos c0] at h
  have E := zz (show (true : Bool) = b from h)
  clear h c0
  go_enter Tryz.func46, Tryz.ntmps46
  go_wp2
  go_ret
  exact ⟨zb E.out, rfl⟩
 have q0 : (s.toList == [108, 101, 110]) = false := by rw [ByteArray.toList_eq]; exact beq_false_of_ne c0
 rw [if_neg c0] at h
 by_cases c1 : s.data.toList = [99, 97, 112]
 ·have q1 : (s.toList == [99, 97, 112]) = true := by rw [ByteArray.toList_eq, c1]; rfl
  rw [if_pos c1] at h
  have E := zz (show (true : Bool) = b from h)
  clear h c0 c1
  go_enter Tryz.func46, Tryz.ntmps46
  go_wp2
  go_ret
  exact ⟨zb E.out, rfl⟩
 have q1 : (s.toList == [99, 97, 112]) = false := by rw [ByteArray.toList_eq]; exact beq_false_of_ne c1
 rw [if_neg c1] at h
 by_cases c2 : s.data.toList = [99, 108, 111, 115, 101]
 ·have q2 : (s.toList == [99, 108, 111, 115, 101]) = true := by rw [ByteArray.toList_eq, c2]; rfl
  rw [if_pos c2] at h
  have E := zz (show (true : Bool) = b from h)
  clear h c0 c1 c2
  go_enter Tryz.func46, Tryz.ntmps46
  go_wp2
  go_ret
  exact ⟨zb E.out, rfl⟩
 have q2 : (s.toList == [99, 108, 111, 115, 101]) = false := by rw [ByteArray.toList_eq]; exact beq_false_of_ne c2
 rw [if_neg c2] at h
 by_cases c3 : s.data.toList = [121, 105, 101, 108, 100]
 ·have q3 : (s.toList == [121, 105, 101, 108, 100]) = true := by rw [ByteArray.toList_eq, c3]; rfl
  rw [if_pos c3] at h
  have E := zz (show (true : Bool) = b from h)
  clear h c0 c1 c2 c3
  go_enter Tryz.func46, Tryz.ntmps46
  go_wp2
  go_ret
  exact ⟨zb E.out, rfl⟩
 have q3 : (s.toList == [121, 105, 101, 108, 100]) = false := by rw [ByteArray.toList_eq]; exact beq_false_of_ne c3
 rw [if_neg c3] at h
 by_cases c4 : s.data.toList = [112, 114, 105, 110, 116, 108, 110]
 ·have q4 : (s.toList == [112, 114, 105, 110, 116, 108, 110]) = true := by rw [ByteArray.toList_eq, c4]; rfl
  rw [if_pos c4] at h
  have E := zz (show (true : Bool) = b from h)
  clear h c0 c1 c2 c3 c4
  go_enter Tryz.func46, Tryz.ntmps46
  go_wp2
  go_ret
  exact ⟨zb E.out, rfl⟩
 have q4 : (s.toList == [112, 114, 105, 110, 116, 108, 110]) = false := by rw [ByteArray.toList_eq]; exact beq_false_of_ne c4
 rw [if_neg c4] at h
 have E := zz (show (false : Bool) = b from h)
 clear h c0 c1 c2 c3 c4
 go_enter Tryz.func46, Tryz.ntmps46
 go_wp2
 go_ret
 exact ⟨zb E.out, rfl⟩
def mName (s : List UInt8) : Bool := if s = [76, 111, 99, 107] then true else if s = [85, 110, 108, 111, 99, 107] then true else if s = [65, 100, 100] then true else if s = [68, 111, 110, 101] then true else if s = [87, 97, 105, 116] then true else false
theorem mName_is (h : mName s.data.toList = b) (w : World) :
 Calls Tryz.prog 47 #[.string s] w fun e w' => e = .returned (.bool b) /\ w' = w := by
 unfold mName at h
 by_cases c0 : s.data.toList = [76, 111, 99, 107]
 ·have q0 : (s.toList == [76, 111, 99, 107]) = true := by rw [ByteArray.toList_eq, c0]; rfl
  rw [if_pos c0] at h
  have E := zz (show (true : Bool) = b from h)
  clear h c0
  go_enter Tryz.func47, Tryz.ntmps47
  go_wp2
  go_ret
  exact ⟨zb E.out, rfl⟩
 have q0 : (s.toList == [76, 111, 99, 107]) = false := by rw [ByteArray.toList_eq]; exact beq_false_of_ne c0
 rw [if_neg c0] at h
 by_cases c1 : s.data.toList = [85, 110, 108, 111, 99, 107]
 ·have q1 : (s.toList == [85, 110, 108, 111, 99, 107]) = true := by rw [ByteArray.toList_eq, c1]; rfl
  rw [if_pos c1] at h
  have E := zz (show (true : Bool) = b from h)
  clear h c0 c1
  go_enter Tryz.func47, Tryz.ntmps47
  go_wp2
  go_ret
  exact ⟨zb E.out, rfl⟩
 have q1 : (s.toList == [85, 110, 108, 111, 99, 107]) = false := by rw [ByteArray.toList_eq]; exact beq_false_of_ne c1
 rw [if_neg c1] at h
 by_cases c2 : s.data.toList = [65, 100, 100]
 ·have q2 : (s.toList == [65, 100, 100]) = true := by rw [ByteArray.toList_eq, c2]; rfl
  rw [if_pos c2] at h
  have E := zz (show (true : Bool) = b from h)
  clear h c0 c1 c2
  go_enter Tryz.func47, Tryz.ntmps47
  go_wp2
  go_ret
  exact ⟨zb E.out, rfl⟩
 have q2 : (s.toList == [65, 100, 100]) = false := by rw [ByteArray.toList_eq]; exact beq_false_of_ne c2
 rw [if_neg c2] at h
 by_cases c3 : s.data.toList = [68, 111, 110, 101]
 ·have q3 : (s.toList == [68, 111, 110, 101]) = true := by rw [ByteArray.toList_eq, c3]; rfl
  rw [if_pos c3] at h
  have E := zz (show (true : Bool) = b from h)
  clear h c0 c1 c2 c3
  go_enter Tryz.func47, Tryz.ntmps47
  go_wp2
  go_ret
  exact ⟨zb E.out, rfl⟩
 have q3 : (s.toList == [68, 111, 110, 101]) = false := by rw [ByteArray.toList_eq]; exact beq_false_of_ne c3
 rw [if_neg c3] at h
 by_cases c4 : s.data.toList = [87, 97, 105, 116]
 ·have q4 : (s.toList == [87, 97, 105, 116]) = true := by rw [ByteArray.toList_eq, c4]; rfl
  rw [if_pos c4] at h
  have E := zz (show (true : Bool) = b from h)
  clear h c0 c1 c2 c3 c4
  go_enter Tryz.func47, Tryz.ntmps47
  go_wp2
  go_ret
  exact ⟨zb E.out, rfl⟩
 have q4 : (s.toList == [87, 97, 105, 116]) = false := by rw [ByteArray.toList_eq]; exact beq_false_of_ne c4
 rw [if_neg c4] at h
 have E := zz (show (false : Bool) = b from h)
 clear h c0 c1 c2 c3 c4
 go_enter Tryz.func47, Tryz.ntmps47
 go_wp2
 go_ret
 exact ⟨zb E.out, rfl⟩
def bnd (s : List UInt8) : Int := if s = [124, 124] then 1 else if s = [38, 38] then 2 else if s = [61, 61] then 3 else if s = [33, 61] then 3 else if s = [60] then 3 else if s = [60, 61] then 3 else if s = [62] then 3 else if s = [62, 61] then 3 else if s = [43] then 4 else if s = [45] then 4 else if s = [42] then 5 else if s = [47] then 5 else if s = [37] then 5 else 0
theorem bnd_is {b : Int} (h : bnd s.data.toList = b) (w : World) :
 Calls Tryz.prog 45 #[.string s] w fun e w' => e = .returned (.int .i64 b) /\ w' = w := by
 unfold bnd at h
 by_cases c0 : s.data.toList = [124, 124]
 ·have q0 : (s.toList == [124, 124]) = true := by rw [ByteArray.toList_eq, c0]; rfl
  rw [if_pos c0] at h
  have E := zz (show (1 : Int) = b from h)
  clear h c0
  go_enter Tryz.func45, Tryz.ntmps45
  go_wp2
  go_ret
  exact ⟨ret_int E.out, rfl⟩
 have q0 : (s.toList == [124, 124]) = false := by rw [ByteArray.toList_eq]; exact beq_false_of_ne c0
 rw [if_neg c0] at h
 by_cases c1 : s.data.toList = [38, 38]
 ·have q1 : (s.toList == [38, 38]) = true := by rw [ByteArray.toList_eq, c1]; rfl
  rw [if_pos c1] at h
  have E := zz (show (2 : Int) = b from h)
  clear h c0 c1
  go_enter Tryz.func45, Tryz.ntmps45
  go_wp2
  go_ret
  exact ⟨ret_int E.out, rfl⟩
 have q1 : (s.toList == [38, 38]) = false := by rw [ByteArray.toList_eq]; exact beq_false_of_ne c1
 rw [if_neg c1] at h
 by_cases c2 : s.data.toList = [61, 61]
 ·have q2 : (s.toList == [61, 61]) = true := by rw [ByteArray.toList_eq, c2]; rfl
  rw [if_pos c2] at h
  have E := zz (show (3 : Int) = b from h)
  clear h c0 c1 c2
  go_enter Tryz.func45, Tryz.ntmps45
  go_wp2
  go_ret
  exact ⟨ret_int E.out, rfl⟩
 have q2 : (s.toList == [61, 61]) = false := by rw [ByteArray.toList_eq]; exact beq_false_of_ne c2
 rw [if_neg c2] at h
 by_cases c3 : s.data.toList = [33, 61]
 ·have q3 : (s.toList == [33, 61]) = true := by rw [ByteArray.toList_eq, c3]; rfl
  rw [if_pos c3] at h
  have E := zz (show (3 : Int) = b from h)
  clear h c0 c1 c2 c3
  go_enter Tryz.func45, Tryz.ntmps45
  go_wp2
  go_ret
  exact ⟨ret_int E.out, rfl⟩
 have q3 : (s.toList == [33, 61]) = false := by rw [ByteArray.toList_eq]; exact beq_false_of_ne c3
 rw [if_neg c3] at h
 by_cases c4 : s.data.toList = [60]
 ·have q4 : (s.toList == [60]) = true := by rw [ByteArray.toList_eq, c4]; rfl
  rw [if_pos c4] at h
  have E := zz (show (3 : Int) = b from h)
  clear h c0 c1 c2 c3 c4
  go_enter Tryz.func45, Tryz.ntmps45
  go_wp2
  go_ret
  exact ⟨ret_int E.out, rfl⟩
 have q4 : (s.toList == [60]) = false := by rw [ByteArray.toList_eq]; exact beq_false_of_ne c4
 rw [if_neg c4] at h
 by_cases c5 : s.data.toList = [60, 61]
 ·have q5 : (s.toList == [60, 61]) = true := by rw [ByteArray.toList_eq, c5]; rfl
  rw [if_pos c5] at h
  have E := zz (show (3 : Int) = b from h)
  clear h c0 c1 c2 c3 c4 c5
  go_enter Tryz.func45, Tryz.ntmps45
  go_wp2
  go_ret
  exact ⟨ret_int E.out, rfl⟩
 have q5 : (s.toList == [60, 61]) = false := by rw [ByteArray.toList_eq]; exact beq_false_of_ne c5
 rw [if_neg c5] at h
 by_cases c6 : s.data.toList = [62]
 ·have q6 : (s.toList == [62]) = true := by rw [ByteArray.toList_eq, c6]; rfl
  rw [if_pos c6] at h
  have E := zz (show (3 : Int) = b from h)
  clear h c0 c1 c2 c3 c4 c5 c6
  go_enter Tryz.func45, Tryz.ntmps45
  go_wp2
  go_ret
  exact ⟨ret_int E.out, rfl⟩
 have q6 : (s.toList == [62]) = false := by rw [ByteArray.toList_eq]; exact beq_false_of_ne c6
 rw [if_neg c6] at h
 by_cases c7 : s.data.toList = [62, 61]
 ·have q7 : (s.toList == [62, 61]) = true := by rw [ByteArray.toList_eq, c7]; rfl
  rw [if_pos c7] at h
  have E := zz (show (3 : Int) = b from h)
  clear h c0 c1 c2 c3 c4 c5 c6 c7
  go_enter Tryz.func45, Tryz.ntmps45
  go_wp2
  go_ret
  exact ⟨ret_int E.out, rfl⟩
 have q7 : (s.toList == [62, 61]) = false := by rw [ByteArray.toList_eq]; exact beq_false_of_ne c7
 rw [if_neg c7] at h
 by_cases c8 : s.data.toList = [43]
 ·have q8 : (s.toList == [43]) = true := by rw [ByteArray.toList_eq, c8]; rfl
  rw [if_pos c8] at h
  have E := zz (show (4 : Int) = b from h)
  clear h c0 c1 c2 c3 c4 c5 c6 c7 c8
  go_enter Tryz.func45, Tryz.ntmps45
  go_wp2
  go_ret
  exact ⟨ret_int E.out, rfl⟩
 have q8 : (s.toList == [43]) = false := by rw [ByteArray.toList_eq]; exact beq_false_of_ne c8
 rw [if_neg c8] at h
 by_cases c9 : s.data.toList = [45]
 ·have q9 : (s.toList == [45]) = true := by rw [ByteArray.toList_eq, c9]; rfl
  rw [if_pos c9] at h
  have E := zz (show (4 : Int) = b from h)
  clear h c0 c1 c2 c3 c4 c5 c6 c7 c8 c9
  go_enter Tryz.func45, Tryz.ntmps45
  go_wp2
  go_ret
  exact ⟨ret_int E.out, rfl⟩
 have q9 : (s.toList == [45]) = false := by rw [ByteArray.toList_eq]; exact beq_false_of_ne c9
 rw [if_neg c9] at h
 by_cases c10 : s.data.toList = [42]
 ·have q10 : (s.toList == [42]) = true := by rw [ByteArray.toList_eq, c10]; rfl
  rw [if_pos c10] at h
  have E := zz (show (5 : Int) = b from h)
  clear h c0 c1 c2 c3 c4 c5 c6 c7 c8 c9 c10
  go_enter Tryz.func45, Tryz.ntmps45
  go_wp2
  go_ret
  exact ⟨ret_int E.out, rfl⟩
 have q10 : (s.toList == [42]) = false := by rw [ByteArray.toList_eq]; exact beq_false_of_ne c10
 rw [if_neg c10] at h
 by_cases c11 : s.data.toList = [47]
 ·have q11 : (s.toList == [47]) = true := by rw [ByteArray.toList_eq, c11]; rfl
  rw [if_pos c11] at h
  have E := zz (show (5 : Int) = b from h)
  clear h c0 c1 c2 c3 c4 c5 c6 c7 c8 c9 c10 c11
  go_enter Tryz.func45, Tryz.ntmps45
  go_wp2
  go_ret
  exact ⟨ret_int E.out, rfl⟩
 have q11 : (s.toList == [47]) = false := by rw [ByteArray.toList_eq]; exact beq_false_of_ne c11
 rw [if_neg c11] at h
 by_cases c12 : s.data.toList = [37]
 ·have q12 : (s.toList == [37]) = true := by rw [ByteArray.toList_eq, c12]; rfl
  rw [if_pos c12] at h
  have E := zz (show (5 : Int) = b from h)
  clear h c0 c1 c2 c3 c4 c5 c6 c7 c8 c9 c10 c11 c12
  go_enter Tryz.func45, Tryz.ntmps45
  go_wp2
  go_ret
  exact ⟨ret_int E.out, rfl⟩
 have q12 : (s.toList == [37]) = false := by rw [ByteArray.toList_eq]; exact beq_false_of_ne c12
 rw [if_neg c12] at h
 have E := zz (show (0 : Int) = b from h)
 clear h c0 c1 c2 c3 c4 c5 c6 c7 c8 c9 c10 c11 c12
 go_enter Tryz.func45, Tryz.ntmps45
 go_wp2
 go_ret
 exact ⟨ret_int E.out, rfl⟩
def kExpr (f : Nd) : Bool := f.k == 29 || (mrk f.k && !kBlank f)
theorem kExpr_is (h : kExpr f = b) (w : World) :
 Calls Tryz.prog 56 #[nv f u] w fun e w' => e = .returned (.bool b) /\ Below w.heap.size w w' := by
 obtain ⟨k, t, n, y, s, a, l⟩ := f
 unfold nv
 unfold kExpr at h
 by_cases c0 : k = 29
 ·subst c0
  have E := zz (show true = b by rw [<- h]; rfl)
  clear h
  go_enter Tryz.func56, Tryz.ntmps56
  go_wp2
  go_ret
  exact ⟨zb E.out, (box1 _ _).out⟩
 have q0 := beq_false_of_ne c0
 simp only [q0, Bool.false_or] at h
 cases hm : mrk k
 ·have HM := zz hm
  have E := zz (show false = b by rw [<- h, hm]; rfl)
  clear h hm c0
  go_enter Tryz.func56, Tryz.ntmps56
  go_wp2_with fail
  refine (ismarked_is HM.out _).mono ?_
  rintro e w1 ⟨rfl, rfl⟩
  go_wp2
  go_ret
  exact ⟨zb E.out, (box1 _ _).out⟩
 ·cases hb : kBlank ⟨k, t, n, y, s, a, l⟩
  ·have HM := zz hm
   have HBL := zz hb
   have E := zz (show true = b by rw [<- h, hm, hb]; rfl)
   clear h hm c0 hb
   go_enter Tryz.func56, Tryz.ntmps56
   go_wp2_with fail
   refine (ismarked_is HM.out _).mono ?_
   rintro e w1 ⟨rfl, rfl⟩
   go_wp2_with fail
   refine (kBlank_is (f := ⟨k, t, n, y, s, a, l⟩) HBL.out _).mono ?_
   rintro e w2 ⟨rfl, b2⟩
   have HB := zz (((box1 w _).out).trans (b2.mono ((box1 w _).out).size))
   clear b2
   go_wp2
   go_ret
   exact ⟨zb E.out, HB.out⟩
  ·have HM := zz hm
   have HBL := zz hb
   have E := zz (show false = b by rw [<- h, hm, hb]; rfl)
   clear h hm c0 hb
   go_enter Tryz.func56, Tryz.ntmps56
   go_wp2_with fail
   refine (ismarked_is HM.out _).mono ?_
   rintro e w1 ⟨rfl, rfl⟩
   go_wp2_with fail
   refine (kBlank_is (f := ⟨k, t, n, y, s, a, l⟩) HBL.out _).mono ?_
   rintro e w2 ⟨rfl, b2⟩
   have HB := zz (((box1 w _).out).trans (b2.mono ((box1 w _).out).size))
   clear b2
   go_wp2
   go_ret
   exact ⟨zb E.out, HB.out⟩
def kItem (f : Nd) : Bool := f.k == 25 || kExpr f
theorem kItem_is (h : kItem f = b) (w : World) :
 Calls Tryz.prog 89 #[nv f u] w fun e w' => e = .returned (.bool b) /\ Below w.heap.size w w' := by
 obtain ⟨k, t, n, y, s, a, l⟩ := f
 unfold nv
 unfold kItem at h
 by_cases c0 : k = 25
 ·subst c0
  have E := zz (show true = b by rw [<- h]; rfl)
  clear h
  go_enter Tryz.func89, Tryz.ntmps89
  go_wp2
  go_ret
  exact ⟨zb E.out, (box1 _ _).out⟩
 have q0 := beq_false_of_ne c0
 simp only [q0, Bool.false_or] at h
 have HS := zz h
 clear h c0
 go_enter Tryz.func89, Tryz.ntmps89
 go_wp2_with fail
 refine (kExpr_is (f := ⟨k, t, n, y, s, a, l⟩) HS.out _).mono ?_
 rintro e w1 ⟨rfl, b1⟩
 have HB := zz (((box1 w _).out).trans (b1.mono ((box1 w _).out).size))
 clear b1
 go_wp2
 go_ret
 exact ⟨rfl, HB.out⟩
def kStart (f : Nd) : Bool := f.k == 6 || kNext f
theorem kStart_is (h : kStart f = b) (w : World) :
 Calls Tryz.prog 84 #[nv f u] w fun e w' => e = .returned (.bool b) /\ Below w.heap.size w w' := by
 obtain ⟨k, t, n, y, s, a, l⟩ := f
 unfold nv
 unfold kStart at h
 by_cases c0 : k = 6
 ·subst c0
  have E := zz (show true = b by rw [<- h]; rfl)
  clear h
  go_enter Tryz.func84, Tryz.ntmps84
  go_wp2
  go_ret
  exact ⟨zb E.out, (box1 _ _).out⟩
 have q0 := beq_false_of_ne c0
 simp only [q0, Bool.false_or] at h
 have HS := zz h
 clear h c0
 go_enter Tryz.func84, Tryz.ntmps84
 go_wp2_with fail
 refine (kNext_is (f := ⟨k, t, n, y, s, a, l⟩) HS.out _).mono ?_
 rintro e w1 ⟨rfl, b1⟩
 have HB := zz (((box1 w _).out).trans (b1.mono ((box1 w _).out).size))
 clear b1
 go_wp2
 go_ret
 exact ⟨rfl, HB.out⟩
def kDo (f : Nd) : Bool := f.k == 28 || f.k == 30 || kRecv f
theorem kDo_is (h : kDo f = b) (w : World) :
 Calls Tryz.prog 59 #[nv f u] w fun e w' => e = .returned (.bool b) /\ Below w.heap.size w w' := by
 obtain ⟨k, t, n, y, s, a, l⟩ := f
 unfold nv
 unfold kDo at h
 by_cases c0 : k = 28
 ·subst c0
  have E := zz (show true = b by rw [<- h]; rfl)
  clear h
  go_enter Tryz.func59, Tryz.ntmps59
  go_wp2
  go_ret
  exact ⟨zb E.out, (box1 _ _).out⟩
 have q0 := beq_false_of_ne c0
 by_cases c1 : k = 30
 ·subst c1
  have E := zz (show true = b by rw [<- h]; rfl)
  clear h c0 q0
  go_enter Tryz.func59, Tryz.ntmps59
  go_wp2
  go_ret
  exact ⟨zb E.out, (box1 _ _).out⟩
 have q1 := beq_false_of_ne c1
 simp only [q0, q1, Bool.false_or] at h
 have HS := zz h
 clear h c0 c1
 go_enter Tryz.func59, Tryz.ntmps59
 go_wp2_with fail
 refine (kRecv_is (f := ⟨k, t, n, y, s, a, l⟩) HS.out _).mono ?_
 rintro e w1 ⟨rfl, b1⟩
 have HB := zz (((box1 w _).out).trans (b1.mono ((box1 w _).out).size))
 clear b1
 go_wp2
 go_ret
 exact ⟨rfl, HB.out⟩
end
end Go.Proofs.YtmdhjiammcpogaaGreatDoor
