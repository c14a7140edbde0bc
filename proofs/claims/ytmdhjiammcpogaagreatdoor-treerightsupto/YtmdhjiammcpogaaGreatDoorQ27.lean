import Derived.Test.YtmdhjiammcpogaaGreatDoorQ26
namespace Go.Proofs.YtmdhjiammcpogaaGreatDoor
set_option maxRecDepth 100000
set_option maxHeartbeats 16000000
open Go.RowKit
variable {b : Bool} {c n : Nat} {f : Nd} {s : ByteArray} {u : Value} {w : World}
theorem rbnd_is {b : Int} (h : bnd s.data.toList = b) (w : World) :
 Calls Tryz.prog 121 #[.string s] w fun e w' => e = .returned (.int .i64 b) /\ w' = w := by
 unfold bnd at h
 by_cases c0 : s.data.toList = [124, 124]
 ·have q0 : (s.toList == [124, 124]) = true := by rw [ByteArray.toList_eq, c0]; rfl
  rw [if_pos c0] at h
  have E := zz (show (1 : Int) = b from h)
  clear h c0
  go_enter Tryz.func121, Tryz.ntmps121
  go_wp2
  go_ret
  exact ⟨ret_int E.out, rfl⟩
 have q0 : (s.toList == [124, 124]) = false := by rw [ByteArray.toList_eq]; exact beq_false_of_ne c0
 rw [if_neg c0] at h
 by_cases c1 : s.data.toList = [38, 38]
 ·have q1 : (s.toList == [38, 38]) = true := by rw [ByteArray.toList_eq, c1]; rfl
  rw [if_pos c1] at h
  have E := zz (show (2 : Int) = b from h)
  clear h c0 c1
  go_enter Tryz.func121, Tryz.ntmps121
  go_wp2
  go_ret
  exact ⟨ret_int E.out, rfl⟩
 have q1 : (s.toList == [38, 38]) = false := by rw [ByteArray.toList_eq]; exact beq_false_of_ne c1
 rw [if_neg c1] at h
 by_cases c2 : s.data.toList = [61, 61]
 ·have q2 : (s.toList == [61, 61]) = true := by rw [ByteArray.toList_eq, c2]; rfl
  rw [if_pos c2] at h
  have E := zz (show (3 : Int) = b from h)
  clear h c0 c1 c2
  go_enter Tryz.func121, Tryz.ntmps121
  go_wp2
  go_ret
  exact ⟨ret_int E.out, rfl⟩
 have q2 : (s.toList == [61, 61]) = false := by rw [ByteArray.toList_eq]; exact beq_false_of_ne c2
 rw [if_neg c2] at h
 by_cases c3 : s.data.toList = [33, 61]
 ·have q3 : (s.toList == [33, 61]) = true := by rw [ByteArray.toList_eq, c3]; rfl
  rw [if_pos c3] at h
  have E := zz (show (3 : Int) = b from h)
  clear h c0 c1 c2 c3
  go_enter Tryz.func121, Tryz.ntmps121
  go_wp2
  go_ret
  exact ⟨ret_int E.out, rfl⟩
 have q3 : (s.toList == [33, 61]) = false := by rw [ByteArray.toList_eq]; exact beq_false_of_ne c3
 rw [if_neg c3] at h
 by_cases c4 : s.data.toList = [60]
 ·have q4 : (s.toList == [60]) = true := by rw [ByteArray.toList_eq, c4]; rfl
  rw [if_pos c4] at h
  have E := zz (show (3 : Int) = b from h)
  clear h c0 c1 c2 c3 c4
  go_enter Tryz.func121, Tryz.ntmps121
  go_wp2
  go_ret
  exact ⟨ret_int E.out, rfl⟩
 have q4 : (s.toList == [60]) = false := by rw [ByteArray.toList_eq]; exact beq_false_of_ne c4
 rw [if_neg c4] at h
 by_cases c5 : s.data.toList = [60, 61]
 ·have q5 : (s.toList == [60, 61]) = true := by rw [ByteArray.toList_eq, c5]; rfl
  rw [if_pos c5] at h
  have E := zz (show (3 : Int) = b from h)
  clear h c0 c1 c2 c3 c4 c5
  go_enter Tryz.func121, Tryz.ntmps121
  go_wp2
  go_ret
  exact ⟨ret_int E.out, rfl⟩
 have q5 : (s.toList == [60, 61]) = false := by rw [ByteArray.toList_eq]; exact beq_false_of_ne c5
 rw [if_neg c5] at h
 by_cases c6 : s.data.toList = [62]
 ·have q6 : (s.toList == [62]) = true := by rw [ByteArray.toList_eq, c6]; rfl
  rw [if_pos c6] at h
  have E := zz (show (3 : Int) = b from h)
  clear h c0 c1 c2 c3 c4 c5 c6
  go_enter Tryz.func121, Tryz.ntmps121
  go_wp2
  go_ret
  exact ⟨ret_int E.out, rfl⟩
 have q6 : (s.toList == [62]) = false := by rw [ByteArray.toList_eq]; exact beq_false_of_ne c6
 rw [if_neg c6] at h
 by_cases c7 : s.data.toList = [62, 61]
 ·have q7 : (s.toList == [62, 61]) = true := by rw [ByteArray.toList_eq, c7]; rfl
  rw [if_pos c7] at h
  have E := zz (show (3 : Int) = b from h)
  clear h c0 c1 c2 c3 c4 c5 c6 c7
  go_enter Tryz.func121, Tryz.ntmps121
  go_wp2
  go_ret
  exact ⟨ret_int E.out, rfl⟩
 have q7 : (s.toList == [62, 61]) = false := by rw [ByteArray.toList_eq]; exact beq_false_of_ne c7
 rw [if_neg c7] at h
 by_cases c8 : s.data.toList = [43]
 ·have q8 : (s.toList == [43]) = true := by rw [ByteArray.toList_eq, c8]; rfl
  rw [if_pos c8] at h
  have E := zz (show (4 : Int) = b from h)
  clear h c0 c1 c2 c3 c4 c5 c6 c7 c8
  go_enter Tryz.func121, Tryz.ntmps121
  go_wp2
  go_ret
  exact ⟨ret_int E.out, rfl⟩
 have q8 : (s.toList == [43]) = false := by rw [ByteArray.toList_eq]; exact beq_false_of_ne c8
 rw [if_neg c8] at h
 by_cases c9 : s.data.toList = [45]
 ·have q9 : (s.toList == [45]) = true := by rw [ByteArray.toList_eq, c9]; rfl
  rw [if_pos c9] at h
  have E := zz (show (4 : Int) = b from h)
  clear h c0 c1 c2 c3 c4 c5 c6 c7 c8 c9
  go_enter Tryz.func121, Tryz.ntmps121
  go_wp2
  go_ret
  exact ⟨ret_int E.out, rfl⟩
 have q9 : (s.toList == [45]) = false := by rw [ByteArray.toList_eq]; exact beq_false_of_ne c9
 rw [if_neg c9] at h
 by_cases c10 : s.data.toList = [42]
 ·have q10 : (s.toList == [42]) = true := by rw [ByteArray.toList_eq, c10]; rfl
  rw [if_pos c10] at h
  have E := zz (show (5 : Int) = b from h)
  clear h c0 c1 c2 c3 c4 c5 c6 c7 c8 c9 c10
  go_enter Tryz.func121, Tryz.ntmps121
  go_wp2
  go_ret
  exact ⟨ret_int E.out, rfl⟩
 have q10 : (s.toList == [42]) = false := by rw [ByteArray.toList_eq]; exact beq_false_of_ne c10
 rw [if_neg c10] at h
 by_cases c11 : s.data.toList = [47]
 ·have q11 : (s.toList == [47]) = true := by rw [ByteArray.toList_eq, c11]; rfl
  rw [if_pos c11] at h
  have E := zz (show (5 : Int) = b from h)
  clear h c0 c1 c2 c3 c4 c5 c6 c7 c8 c9 c10 c11
  go_enter Tryz.func121, Tryz.ntmps121
  go_wp2
  go_ret
  exact ⟨ret_int E.out, rfl⟩
 have q11 : (s.toList == [47]) = false := by rw [ByteArray.toList_eq]; exact beq_false_of_ne c11
 rw [if_neg c11] at h
 by_cases c12 : s.data.toList = [37]
 ·have q12 : (s.toList == [37]) = true := by rw [ByteArray.toList_eq, c12]; rfl
  rw [if_pos c12] at h
  have E := zz (show (5 : Int) = b from h)
  clear h c0 c1 c2 c3 c4 c5 c6 c7 c8 c9 c10 c11 c12
  go_enter Tryz.func121, Tryz.ntmps121
  go_wp2
  go_ret
  exact ⟨ret_int E.out, rfl⟩
 have q12 : (s.toList == [37]) = false := by rw [ByteArray.toList_eq]; exact beq_false_of_ne c12
 rw [if_neg c12] at h
 have E := zz (show (0 : Int) = b from h)
 clear h c0 c1 c2 c3 c4 c5 c6 c7 c8 c9 c10 c11 c12
 go_enter Tryz.func121, Tryz.ntmps121
 go_wp2
 go_ret
 exact ⟨ret_int E.out, rfl⟩
theorem rRecv_is (h : kRecv f = b) (w : World) :
 Calls Tryz.prog 130 #[nv f u] w fun e w' => e = .returned (.bool b) /\ Below w.heap.size w w' := by
 obtain ⟨k, t, n, y, s, a, l⟩ := f
 unfold nv
 unfold kRecv at h
 by_cases c0 : k = 26
 rotate_left
 ·have q0 := beq_false_of_ne c0
  have E := zz (show false = b by rw [<- h]; simp only [q0]; rfl)
  clear h c0
  go_enter Tryz.func130, Tryz.ntmps130
  go_wp2
  go_ret
  exact ⟨zb E.out, (box1 _ _).out⟩
 subst c0
 by_cases ct : t.data.toList = [60, 45]
 ·have qt : (t.toList == [60, 45]) = true := by rw [ByteArray.toList_eq]; rw [ct]; rfl
  have E := zz (show true = b by rw [<- h, decide_eq_true ct]; rfl)
  clear h ct
  go_enter Tryz.func130, Tryz.ntmps130
  go_wp2
  go_ret
  exact ⟨zb E.out, (box1 _ _).out⟩
 ·have qt : (t.toList == [60, 45]) = false := by rw [ByteArray.toList_eq]; exact beq_false_of_ne ct
  have E := zz (show false = b by rw [<- h, decide_eq_false ct]; rfl)
  clear h ct
  go_enter Tryz.func130, Tryz.ntmps130
  go_wp2
  go_ret
  exact ⟨zb E.out, (box1 _ _).out⟩
def dE (s : ByteArray) : Bool := decide (s.data.toList = [])
def rbare (f : Nd) (x y z : Bool) : Bool := (x || dE f.t) && ((y || mrk f.k) || dE f.y) && (z || f.n == 0)
theorem qE (h : dE s = b) : (s.toList == []) = b := by
 unfold dE at h
 rw [ByteArray.toList_eq]
 cases b
 ·exact beq_false_of_ne (of_decide_eq_false h)
 ·rw [of_decide_eq_true h]; rfl
theorem rbare_is {x y z r : Bool} (h : rbare f x y z = r) (w : World) :
 Calls Tryz.prog 23 #[nv f u, .bool x, .bool y, .bool z] w fun e w' => e = .returned (.bool r) /\ Below w.heap.size w w' := by
 obtain ⟨k, t, n, ty, s, a, l⟩ := f
 unfold nv
 unfold rbare at h
 cases ht : dE t <;> cases hy : dE ty <;> cases hn : (n == 0) <;> cases hm : mrk k <;> cases x <;> cases y <;> cases z <;> (
  simp only [ht, hy, hn, hm, Bool.and_true, Bool.and_false, Bool.or_true, Bool.or_false] at h
  subst h
  have qt := qE ht
  have qy := qE hy
  have HM := zz hm
  clear ht hy hm
  go_enter Tryz.func23, Tryz.ntmps23
  go_wp2_with fail
  refine (rmarked_is HM.out _).mono ?_
  rintro e w1 ⟨rfl, rfl⟩
  go_wp2
  go_ret
  exact ⟨rfl, (box1 _ _).out⟩)
theorem proper_is {r : Bool} (hs : s.size <= maxLen) (h : (isName s && !decide (s.data.toList = [95])) = r) (w : World) :
 Calls Tryz.prog 39 #[.string s] w fun e w' => e = .returned (.bool r) /\ Below w.heap.size w w' := by
 have qs : (s.toList != [95]) = !decide (s.data.toList = [95]) := by
  rw [ByteArray.toList_eq, bne]
  by_cases c : s.data.toList = [95]
  ·rw [decide_eq_true c, c]; rfl
  ·rw [decide_eq_false c, beq_false_of_ne c]
 generalize decide (s.data.toList = [95]) = d at *
 go_enter Tryz.func39, Tryz.ntmps39
 go_wp2_with fail
 refine (refname_any s _ hs).mono ?_
 rintro e w1 ⟨rfl, b1⟩
 have HB := zz b1
 clear b1
 cases hn : isName s
 ·rw [hn] at h
  subst h
  go_wp2
  go_ret
  exact ⟨rfl, HB.out⟩
 ·rw [hn] at h
  have E := zz h
  clear h
  go_wp2
  go_ret
  exact ⟨zb (by rw [<- E.out, Bool.true_and]; exact qs), HB.out⟩
def oneOf (ls : List ByteArray) (s : ByteArray) : Bool := ls.any fun x => decide (x = s)
theorem one_no {ls : List ByteArray} {k : Nat} (hk : ls.length <= k) (h : ∀ j (_ : j < k) (h1 : j < ls.length), ls[j] ≠ s) : oneOf ls s = false := by
 unfold oneOf
 rw [List.any_eq_false]
 intro x hx
 obtain ⟨j, hj, rfl⟩ := List.getElem_of_mem hx
 simpa using h j (by omega) hj
theorem one_is {ls : List ByteArray} {bt : Nat} (hn : ls.length <= 100) (hc : ∀ j (h : j < ls.length), w.cell? ⟨bt, j, none⟩ = some (.string ls[j])) :
 Calls Tryz.prog 128 #[.slice (some ⟨bt, 0, none⟩) ls.length c, .string s] w fun e w' => e = .returned (.bool (oneOf ls s)) /\ w' = w := by
 have HC := zz hc
 clear hc
 go_enter Tryz.func128, Tryz.ntmps128
 go_wp2
 go_loopw [5] (fun i wr => ∃ k : Nat, k <= ls.length /\ i = .int .i64 k /\ wr = w /\ ∀ j (_ : j < k) (h1 : j < ls.length), ls[j] ≠ s) (fun i _ => ls.length - (intOf i).toNat)
 case atStart => exact ⟨0, Nat.zero_le _, rfl, rfl, fun j h => by omega⟩
 case round =>
  obtain ⟨k, hk, rfl, rfl, hall⟩ := hrel
  have HALL := zz hall
  clear hall
  by_cases hkl : k < ls.length
  ·have c0 := HC.out k hkl
   have i0 : (0 : Int) <= (k : Int) := by omega
   have i1 : (k : Int) < (ls.length : Int) := by omega
   have qq := bytes_beq ls[k] s
   by_cases hx : ls[k] = s
   ·rw [decide_eq_true hx] at qq
    have E := zz (show true = oneOf ls s from (List.any_eq_true.2 ⟨_, List.getElem_mem hkl, decide_eq_true hx⟩).symm)
    clear hx
    go_wp2
    go_ret
    exact ⟨zb E.out, rfl⟩
   ·rw [decide_eq_false hx] at qq
    have HX := zz hx
    clear hx
    go_wp2
    go_roundw
    case rel => exact ⟨k + 1, by omega, by go_num, by first | trivial | rfl, fun j hj h1 => by
     rcases Nat.lt_or_ge j k with h | h
     ·exact HALL.out j h h1
     ·obtain rfl : j = k := by omega
      exact HX.out⟩
    case measure => simp [intOf]; omega
  ·have E := zz (show false = oneOf ls s from (one_no (by omega) HALL.out).symm)
   go_wp2
   go_ret
   exact ⟨zb E.out, rfl⟩
theorem one_call {T : TypeId} {bt : Nat} {cs : Array Value} {r : Bool} (ls : List ByteArray) (hbt : bt = w.heap.size) (hnn : n = ls.length) (hcs : cs = (ls.map Value.string).toArray) (hn : ls.length <= 100) (hr : oneOf ls s = r) :
 Calls Tryz.prog 128 #[.slice (some ⟨bt, 0, none⟩) n c, .string s] (w.alloc (.cells cs T)) fun e w' => e = .returned (.bool r) /\ Below w.heap.size w w' := by
 subst hbt hnn hcs hr
 refine (one_is hn (fun j h => ?_)).mono ?_
 ·have h1 := (MapKept.heap_alloc w (.cells (ls.map Value.string).toArray T)).1
  simp only [World.cell?, h1]
  simp [h]
 ·rintro e w' ⟨rfl, rfl⟩
  exact ⟨rfl, (box1 _ _).out⟩
theorem ba_eq (a : Array UInt8) (s : ByteArray) : decide ((⟨a⟩ : ByteArray) = s) = decide (s.data.toList = a.toList) := by
 obtain ⟨d⟩ := s
 by_cases h : a = d
 ·subst h; simp
 ·have h1 : ¬ (⟨a⟩ : ByteArray) = ⟨d⟩ := fun e => h (by injection e)
  have h2 : ¬ d.toList = a.toList := fun e => h (Array.toList_inj.1 e.symm)
  rw [decide_eq_false h1, decide_eq_false h2]
theorem one_usign (s : ByteArray) : oneOf [⟨#[43]⟩, ⟨#[45]⟩, ⟨#[33]⟩, ⟨#[60, 45]⟩] s = uSign s.data.toList := by
 simp only [oneOf, List.any_cons, List.any_nil, ba_eq, uSign]
 split <;> simp_all
theorem one_cword (s : ByteArray) : oneOf [⟨#[108, 101, 110]⟩, ⟨#[99, 97, 112]⟩, ⟨#[99, 108, 111, 115, 101]⟩, ⟨#[121, 105, 101, 108, 100]⟩, ⟨#[112, 114, 105, 110, 116, 108, 110]⟩] s = cWord s.data.toList := by
 simp only [oneOf, List.any_cons, List.any_nil, ba_eq, cWord]
 split <;> simp_all
theorem one_mname (s : ByteArray) : oneOf [⟨#[76, 111, 99, 107]⟩, ⟨#[85, 110, 108, 111, 99, 107]⟩, ⟨#[65, 100, 100]⟩, ⟨#[68, 111, 110, 101]⟩, ⟨#[87, 97, 105, 116]⟩] s = mName s.data.toList := by
 simp only [oneOf, List.any_cons, List.any_nil, ba_eq, mName]
 split <;> simp_all
end Go.Proofs.YtmdhjiammcpogaaGreatDoor
