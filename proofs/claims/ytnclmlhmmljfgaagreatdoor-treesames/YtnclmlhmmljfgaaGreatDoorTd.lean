/- Marked kinds; two nodes' own fields held against each other; where a list lies. -/
import Derived.Test.YtnclmlhmmljfgaaGreatDoorTr
import Derived.Deep.RegionHeld3
namespace Go.Proofs.YtnclmlhmmljfgaaGreatDoor
open Go.RowKit

set_option maxHeartbeats 1000000 in
theorem ismarked_is {k : Int} {b : Bool} (h : mrk k = b) (w : World) :
    Calls Tryz.prog 35 #[.int .i64 k] w fun e w' => e = .returned (.bool b) ∧ w' = w := by
  by_cases c0 : k = 21
  · subst c0
    have E := hide (show true = b by rw [← h]; rfl)
    clear h
    go_enter Tryz.func35, Tryz.ntmps35
    go_wp2
    go_ret
    exact ⟨ret_bool (unhide E), rfl⟩
  have q0 : (k == 21) = false := beq_false_of_ne c0
  by_cases c1 : k = 22
  · subst c1
    have E := hide (show true = b by rw [← h]; rfl)
    clear h c0 q0
    go_enter Tryz.func35, Tryz.ntmps35
    go_wp2
    go_ret
    exact ⟨ret_bool (unhide E), rfl⟩
  have q1 : (k == 22) = false := beq_false_of_ne c1
  by_cases c2 : k = 23
  · subst c2
    have E := hide (show true = b by rw [← h]; rfl)
    clear h c0 q0 c1 q1
    go_enter Tryz.func35, Tryz.ntmps35
    go_wp2
    go_ret
    exact ⟨ret_bool (unhide E), rfl⟩
  have q2 : (k == 23) = false := beq_false_of_ne c2
  by_cases c3 : k = 24
  · subst c3
    have E := hide (show true = b by rw [← h]; rfl)
    clear h c0 q0 c1 q1 c2 q2
    go_enter Tryz.func35, Tryz.ntmps35
    go_wp2
    go_ret
    exact ⟨ret_bool (unhide E), rfl⟩
  have q3 : (k == 24) = false := beq_false_of_ne c3
  by_cases c4 : k = 26
  · subst c4
    have E := hide (show true = b by rw [← h]; rfl)
    clear h c0 q0 c1 q1 c2 q2 c3 q3
    go_enter Tryz.func35, Tryz.ntmps35
    go_wp2
    go_ret
    exact ⟨ret_bool (unhide E), rfl⟩
  have q4 : (k == 26) = false := beq_false_of_ne c4
  by_cases c5 : k = 27
  · subst c5
    have E := hide (show true = b by rw [← h]; rfl)
    clear h c0 q0 c1 q1 c2 q2 c3 q3 c4 q4
    go_enter Tryz.func35, Tryz.ntmps35
    go_wp2
    go_ret
    exact ⟨ret_bool (unhide E), rfl⟩
  have q5 : (k == 27) = false := beq_false_of_ne c5
  by_cases c6 : k = 28
  · subst c6
    have E := hide (show true = b by rw [← h]; rfl)
    clear h c0 q0 c1 q1 c2 q2 c3 q3 c4 q4 c5 q5
    go_enter Tryz.func35, Tryz.ntmps35
    go_wp2
    go_ret
    exact ⟨ret_bool (unhide E), rfl⟩
  have q6 : (k == 28) = false := beq_false_of_ne c6
  by_cases c7 : k = 30
  · subst c7
    have E := hide (show true = b by rw [← h]; rfl)
    clear h c0 q0 c1 q1 c2 q2 c3 q3 c4 q4 c5 q5 c6 q6
    go_enter Tryz.func35, Tryz.ntmps35
    go_wp2
    go_ret
    exact ⟨ret_bool (unhide E), rfl⟩
  have q7 : (k == 30) = false := beq_false_of_ne c7
  have E := hide (show false = b by rw [← h]; unfold mrk; rw [decide_eq_false c0, decide_eq_false c1, decide_eq_false c2, decide_eq_false c3, decide_eq_false c4, decide_eq_false c5, decide_eq_false c6, decide_eq_false c7]; rfl)
  clear h c0 c1 c2 c3 c4 c5 c6 c7
  go_enter Tryz.func35, Tryz.ntmps35
  go_wp2
  go_ret
  exact ⟨ret_bool (unhide E), rfl⟩

set_option maxHeartbeats 1000000 in
theorem rmarked_is {k : Int} {b : Bool} (h : mrk k = b) (w : World) :
    Calls Tryz.prog 36 #[.int .i64 k] w fun e w' => e = .returned (.bool b) ∧ w' = w := by
  by_cases c0 : k = 21
  · subst c0
    have E := hide (show true = b by rw [← h]; rfl)
    clear h
    go_enter Tryz.func36, Tryz.ntmps36
    go_wp2
    go_ret
    exact ⟨ret_bool (unhide E), rfl⟩
  have q0 : (k == 21) = false := beq_false_of_ne c0
  by_cases c1 : k = 22
  · subst c1
    have E := hide (show true = b by rw [← h]; rfl)
    clear h c0 q0
    go_enter Tryz.func36, Tryz.ntmps36
    go_wp2
    go_ret
    exact ⟨ret_bool (unhide E), rfl⟩
  have q1 : (k == 22) = false := beq_false_of_ne c1
  by_cases c2 : k = 23
  · subst c2
    have E := hide (show true = b by rw [← h]; rfl)
    clear h c0 q0 c1 q1
    go_enter Tryz.func36, Tryz.ntmps36
    go_wp2
    go_ret
    exact ⟨ret_bool (unhide E), rfl⟩
  have q2 : (k == 23) = false := beq_false_of_ne c2
  by_cases c3 : k = 24
  · subst c3
    have E := hide (show true = b by rw [← h]; rfl)
    clear h c0 q0 c1 q1 c2 q2
    go_enter Tryz.func36, Tryz.ntmps36
    go_wp2
    go_ret
    exact ⟨ret_bool (unhide E), rfl⟩
  have q3 : (k == 24) = false := beq_false_of_ne c3
  by_cases c4 : k = 26
  · subst c4
    have E := hide (show true = b by rw [← h]; rfl)
    clear h c0 q0 c1 q1 c2 q2 c3 q3
    go_enter Tryz.func36, Tryz.ntmps36
    go_wp2
    go_ret
    exact ⟨ret_bool (unhide E), rfl⟩
  have q4 : (k == 26) = false := beq_false_of_ne c4
  by_cases c5 : k = 27
  · subst c5
    have E := hide (show true = b by rw [← h]; rfl)
    clear h c0 q0 c1 q1 c2 q2 c3 q3 c4 q4
    go_enter Tryz.func36, Tryz.ntmps36
    go_wp2
    go_ret
    exact ⟨ret_bool (unhide E), rfl⟩
  have q5 : (k == 27) = false := beq_false_of_ne c5
  by_cases c6 : k = 28
  · subst c6
    have E := hide (show true = b by rw [← h]; rfl)
    clear h c0 q0 c1 q1 c2 q2 c3 q3 c4 q4 c5 q5
    go_enter Tryz.func36, Tryz.ntmps36
    go_wp2
    go_ret
    exact ⟨ret_bool (unhide E), rfl⟩
  have q6 : (k == 28) = false := beq_false_of_ne c6
  by_cases c7 : k = 30
  · subst c7
    have E := hide (show true = b by rw [← h]; rfl)
    clear h c0 q0 c1 q1 c2 q2 c3 q3 c4 q4 c5 q5 c6 q6
    go_enter Tryz.func36, Tryz.ntmps36
    go_wp2
    go_ret
    exact ⟨ret_bool (unhide E), rfl⟩
  have q7 : (k == 30) = false := beq_false_of_ne c7
  have E := hide (show false = b by rw [← h]; unfold mrk; rw [decide_eq_false c0, decide_eq_false c1, decide_eq_false c2, decide_eq_false c3, decide_eq_false c4, decide_eq_false c5, decide_eq_false c6, decide_eq_false c7]; rfl)
  clear h c0 c1 c2 c3 c4 c5 c6 c7
  go_enter Tryz.func36, Tryz.ntmps36
  go_wp2
  go_ret
  exact ⟨ret_bool (unhide E), rfl⟩

theorem beq_int (a b : Int) : (a == b) = decide (a = b) := by rw [Bool.eq_iff_iff]; simp

set_option maxHeartbeats 2000000 in
theorem samef_is {f g : Nd} {u v : Value} {b : Bool} (h : sameF f g = b) (w : World) :
    Calls Tryz.prog 33 #[nv f u, nv g v] w fun e w' => e = .returned (.bool b) ∧ Below w.heap.size w w' := by
  unfold nv
  have qk := beq_int f.k g.k
  have qt := bytes_beq f.t g.t
  have qn := beq_int f.n g.n
  have qy := bytes_beq f.y g.y
  have HB : ∀ o o', Hid (Below w.heap.size w ((w.alloc o).alloc o')) := fun o o' => hide (((Below.refl _ _).alloc (Nat.le_refl _) _).alloc (by rw [World.size_alloc]; omega) _)
  unfold sameF at h
  by_cases ck : f.k = g.k
  rotate_left
  · rw [decide_eq_false ck] at qk
    have E := hide (show false = b by rw [← h, decide_eq_false ck]; rfl)
    clear h ck qt qn qy
    go_enter Tryz.func33, Tryz.ntmps33
    go_wp2
    go_ret
    exact ⟨ret_bool (unhide E), unhide (HB _ _)⟩
  by_cases ct : f.t = g.t
  rotate_left
  · rw [decide_eq_true ck] at qk
    rw [decide_eq_false ct] at qt
    have E := hide (show false = b by rw [← h, decide_eq_true ck, decide_eq_false ct]; rfl)
    clear h ck ct qn qy
    go_enter Tryz.func33, Tryz.ntmps33
    go_wp2
    go_ret
    exact ⟨ret_bool (unhide E), unhide (HB _ _)⟩
  by_cases cn : f.n = g.n
  rotate_left
  · rw [decide_eq_true ck] at qk
    rw [decide_eq_true ct] at qt
    rw [decide_eq_false cn] at qn
    have E := hide (show false = b by rw [← h, decide_eq_true ck, decide_eq_true ct, decide_eq_false cn]; rfl)
    clear h ck ct cn qy
    go_enter Tryz.func33, Tryz.ntmps33
    go_wp2
    go_ret
    exact ⟨ret_bool (unhide E), unhide (HB _ _)⟩
  rw [decide_eq_true ck] at qk h
  rw [decide_eq_true ct] at qt h
  rw [decide_eq_true cn] at qn h
  cases hm : mrk f.k
  rotate_left
  · have HM := hide hm
    rw [hm] at h
    have E := hide (show true = b by rw [← h]; rfl)
    clear h ck ct cn hm qy
    go_enter Tryz.func33, Tryz.ntmps33
    go_wp2_with (go_at_call 35; refine (ismarked_is (unhide HM) _).mono ?_; rintro e w' ⟨rfl, rfl⟩)
    go_ret
    exact ⟨ret_bool (unhide E), unhide (HB _ _)⟩
  have HM := hide hm
  rw [hm] at h
  by_cases cy : f.y = g.y
  · rw [decide_eq_true cy] at qy h
    have E := hide (show true = b by rw [← h]; rfl)
    clear h ck ct cn hm cy
    go_enter Tryz.func33, Tryz.ntmps33
    go_wp2_with (go_at_call 35; refine (ismarked_is (unhide HM) _).mono ?_; rintro e w' ⟨rfl, rfl⟩)
    go_ret
    exact ⟨ret_bool (unhide E), unhide (HB _ _)⟩
  · rw [decide_eq_false cy] at qy h
    have E := hide (show false = b by rw [← h]; rfl)
    clear h ck ct cn hm cy
    go_enter Tryz.func33, Tryz.ntmps33
    go_wp2_with (go_at_call 35; refine (ismarked_is (unhide HM) _).mono ?_; rintro e w' ⟨rfl, rfl⟩)
    go_ret
    exact ⟨ret_bool (unhide E), unhide (HB _ _)⟩

set_option maxHeartbeats 1000000 in
theorem listof_is {b o n c : Nat} (hn : 0 < n) (w : World) :
    Calls Tryz.prog 41 #[.slice (some ⟨b, o, none⟩) n c] w fun e w' => e = .returned (.agg #[.pointer (some ⟨b, o, none⟩), .int .i64 (n : Int)]) ∧ Below w.heap.size w w' := by
  have hn' : (0 : Int) < (n : Int) := by omega
  go_enter Tryz.func41, Tryz.ntmps41
  go_wp2
  exact bodyPost_ret (v := .agg #[.pointer (some ⟨b, o, none⟩), .int .i64 (n : Int)]) (by simp [results, Tryz.results41, go_sem]) rfl ⟨rfl, (Below.refl _ _).alloc (Nat.le_refl _) _⟩

end Go.Proofs.YtnclmlhmmljfgaaGreatDoor
