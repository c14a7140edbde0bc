import Derived.Test.YtmdhjiammcpogaaGreatDoorQ06
import Derived.Test.YtmdhjiammcpogaaGreatDoorQ07
namespace Go.Proofs.YtmdhjiammcpogaaGreatDoor
set_option maxRecDepth 100000
set_option maxHeartbeats 16000000
section
open Go.RowKit
def digit (n : Nat) : Bool := decide (48 <= n) && decide (n <= 57)
theorem digit_any (n : Nat) (w : World) :
 Calls Tryz.prog 78 #[.int .u8 (n : Int)] w fun e w' => e = .returned (.bool (digit n)) /\ w' = w := by
 by_cases h1 : n < 48
 ·have E := zz (show false = digit n by unfold digit; simp; omega)
  go_enter Tryz.func78, Tryz.ntmps78
  go_wp2
  go_ret
  exact ⟨zb (Eq.trans (by first | rfl | (simp; done) | (simp; omega)) E.out), rfl⟩
 by_cases h2 : n <= 57
 ·have E := zz (show true = digit n by unfold digit; simp; omega)
  go_enter Tryz.func78, Tryz.ntmps78
  go_wp2
  go_ret
  exact ⟨zb (Eq.trans (by first | rfl | (simp; done) | (simp; omega)) E.out), rfl⟩
 ·have E := zz (show false = digit n by unfold digit; simp; omega)
  go_enter Tryz.func78, Tryz.ntmps78
  go_wp2
  go_ret
  exact ⟨zb (Eq.trans (by first | rfl | (simp; done) | (simp; omega)) E.out), rfl⟩
theorem refdigit_any (n : Nat) (w : World) :
 Calls Tryz.prog 97 #[.int .u8 (n : Int)] w fun e w' => e = .returned (.bool (digit n)) /\ w' = w := by
 by_cases h1 : n < 48
 ·have E := zz (show false = digit n by unfold digit; simp; omega)
  go_enter Tryz.func97, Tryz.ntmps97
  go_wp2
  go_ret
  exact ⟨zb (Eq.trans (by first | rfl | (simp; done) | (simp; omega)) E.out), rfl⟩
 by_cases h2 : n <= 57
 ·have E := zz (show true = digit n by unfold digit; simp; omega)
  go_enter Tryz.func97, Tryz.ntmps97
  go_wp2
  go_ret
  exact ⟨zb (Eq.trans (by first | rfl | (simp; done) | (simp; omega)) E.out), rfl⟩
 ·have E := zz (show false = digit n by unfold digit; simp; omega)
  go_enter Tryz.func97, Tryz.ntmps97
  go_wp2
  go_ret
  exact ⟨zb (Eq.trans (by first | rfl | (simp; done) | (simp; omega)) E.out), rfl⟩
end
section
open Go.RowKit
def letter (n : Nat) : Bool := (decide (65 <= n) && decide (n <= 90)) || (decide (97 <= n) && decide (n <= 122)) || decide (n = 95)
theorem letter_any (n : Nat) (w : World) :
 Calls Tryz.prog 77 #[.int .u8 (n : Int)] w fun e w' => e = .returned (.bool (letter n)) /\ w' = w := by
 by_cases h1 : n < 65
 ·have E := zz (show false = letter n by unfold letter; simp; omega)
  go_enter Tryz.func77, Tryz.ntmps77
  go_wp2
  go_ret
  exact ⟨zb (Eq.trans (by first | rfl | (simp; done) | (simp; omega)) E.out), rfl⟩
 by_cases h2 : n <= 90
 ·have E := zz (show true = letter n by unfold letter; simp; omega)
  go_enter Tryz.func77, Tryz.ntmps77
  go_wp2
  go_ret
  exact ⟨zb (Eq.trans (by first | rfl | (simp; done) | (simp; omega)) E.out), rfl⟩
 by_cases h3 : n < 97
 ·by_cases h4 : n = 95
  ·subst h4
   go_enter Tryz.func77, Tryz.ntmps77
   go_wp2
   go_ret
   exact ⟨rfl, rfl⟩
  ·have E := zz (show false = letter n by unfold letter; simp; omega)
   have h5 : ((n : Int) == 95) = false := by simp; omega
   clear h4
   go_enter Tryz.func77, Tryz.ntmps77
   go_wp2
   go_ret
   exact ⟨zb (Eq.trans (by first | rfl | (simp; done) | (simp; omega)) E.out), rfl⟩
 by_cases h4 : n <= 122
 ·have E := zz (show true = letter n by unfold letter; simp; omega)
  go_enter Tryz.func77, Tryz.ntmps77
  go_wp2
  go_ret
  exact ⟨zb (Eq.trans (by first | rfl | (simp; done) | (simp; omega)) E.out), rfl⟩
 ·have E := zz (show false = letter n by unfold letter; simp; omega)
  have h5 : ((n : Int) == 95) = false := by simp; omega
  go_enter Tryz.func77, Tryz.ntmps77
  go_wp2
  go_ret
  exact ⟨zb (Eq.trans (by first | rfl | (simp; done) | (simp; omega)) E.out), rfl⟩
theorem refletter_any (n : Nat) (w : World) :
 Calls Tryz.prog 96 #[.int .u8 (n : Int)] w fun e w' => e = .returned (.bool (letter n)) /\ w' = w := by
 by_cases h1 : n < 65
 ·have E := zz (show false = letter n by unfold letter; simp; omega)
  go_enter Tryz.func96, Tryz.ntmps96
  go_wp2
  go_ret
  exact ⟨zb (Eq.trans (by first | rfl | (simp; done) | (simp; omega)) E.out), rfl⟩
 by_cases h2 : n <= 90
 ·have E := zz (show true = letter n by unfold letter; simp; omega)
  go_enter Tryz.func96, Tryz.ntmps96
  go_wp2
  go_ret
  exact ⟨zb (Eq.trans (by first | rfl | (simp; done) | (simp; omega)) E.out), rfl⟩
 by_cases h3 : n < 97
 ·by_cases h4 : n = 95
  ·subst h4
   go_enter Tryz.func96, Tryz.ntmps96
   go_wp2
   go_ret
   exact ⟨rfl, rfl⟩
  ·have E := zz (show false = letter n by unfold letter; simp; omega)
   have h5 : ((n : Int) == 95) = false := by simp; omega
   clear h4
   go_enter Tryz.func96, Tryz.ntmps96
   go_wp2
   go_ret
   exact ⟨zb (Eq.trans (by first | rfl | (simp; done) | (simp; omega)) E.out), rfl⟩
 by_cases h4 : n <= 122
 ·have E := zz (show true = letter n by unfold letter; simp; omega)
  go_enter Tryz.func96, Tryz.ntmps96
  go_wp2
  go_ret
  exact ⟨zb (Eq.trans (by first | rfl | (simp; done) | (simp; omega)) E.out), rfl⟩
 ·have E := zz (show false = letter n by unfold letter; simp; omega)
  have h5 : ((n : Int) == 95) = false := by simp; omega
  go_enter Tryz.func96, Tryz.ntmps96
  go_wp2
  go_ret
  exact ⟨zb (Eq.trans (by first | rfl | (simp; done) | (simp; omega)) E.out), rfl⟩
end
section
open Go.RowKit
variable {s : ByteArray}
def isName (s : ByteArray) : Bool :=
 decide (0 < s.size) && decide (s.size <= 30) && letter (bt s 0) && ((List.range s.size).all fun j => letter (bt s j) || digit (bt s j)) && !isWord s
theorem isName_empty (h : s.size = 0) : isName s = false := by unfold isName; simp [h]
theorem isName_long (h : ¬ s.size <= 30) : isName s = false := by unfold isName; simp [h]
theorem isName_head (h : letter (bt s 0) = false) : isName s = false := by unfold isName; simp [h]
theorem isName_bad {k : Nat} (hk : k < s.size) (h1 : letter (bt s k) = false) (h2 : digit (bt s k) = false) : isName s = false := by
 have e : ((List.range s.size).all fun j => letter (bt s j) || digit (bt s j)) = false := by
  rw [List.all_eq_false]
  exact ⟨k, List.mem_range.2 hk, by simp [h1, h2]⟩
 unfold isName
 rw [e]
 simp
theorem isName_all (h0 : 0 < s.size) (h1 : s.size <= 30) (h2 : letter (bt s 0) = true) (h3 : ∀ j, j < s.size -> (letter (bt s j) || digit (bt s j)) = true) : isName s = !isWord s := by
 have e : ((List.range s.size).all fun j => letter (bt s j) || digit (bt s j)) = true := by
  rw [List.all_eq_true]
  intro j hj
  exact h3 j (List.mem_range.1 hj)
 unfold isName
 rw [e, decide_eq_true h0, decide_eq_true h1, h2]
 simp
theorem name_any (s : ByteArray) (w : World) (hs : s.size <= maxLen) :
 Calls Tryz.prog 43 #[.string s] w fun e w' => e = .returned (.bool (isName s)) /\ Below w.heap.size w w' := by
 unfold maxLen at hs
 by_cases h0 : s.size = 0
 ·have E := zz (isName_empty h0)
  have e := empty_of h0
  subst e
  clear hs h0
  go_enter Tryz.func43, Tryz.ntmps43
  go_wp2
  go_ret
  exact ⟨zb E.out.symm, Below.refl _ _⟩
 have hq := ne_empty (s := s) (by omega)
 have hq2 : s.toList.isEmpty = false := by cases e : s.toList with | nil => exact absurd e hq | cons a l => rfl
 by_cases h1 : s.size <= 30
 ·have hb0 := bt_at s 0 (by omega)
  have hq3 : decide (30 < (s.size : Int)) = false := decide_eq_false (by omega)
  cases h2 : letter (bt s 0)
  ·have E := zz (isName_head h2)
   go_enter Tryz.func43, Tryz.ntmps43
   go_wp2_with (go_at_call 77; refine (letter_any _ _).mono ?_; rintro e w' ⟨rfl, rfl⟩)
   go_ret
   exact ⟨zb E.out.symm, Below.refl _ _⟩
  ·have HL := zz h2
   go_enter Tryz.func43, Tryz.ntmps43
   go_wp2_with (go_at_call 77; refine (letter_any _ _).mono ?_; rintro e w' ⟨rfl, rfl⟩)
   clear h2 hb0
   go_loop [19] (fun i => ∃ k : Nat, k <= s.size /\ i = .int .i64 k /\ ∀ j, j < k -> (letter (bt s j) || digit (bt s j)) = true) (fun i => s.size - (intOf i).toNat)
   case atStart => exact ⟨0, by omega, rfl, fun j hj => by omega⟩
   case round =>
    obtain ⟨k, hk, rfl, hall⟩ := hrel
    by_cases hlt : k < s.size
    ·have hb := bt_at s k hlt
     cases c1 : letter (bt s k)
     ·cases c2 : digit (bt s k)
      ·have E := zz (isName_bad hlt c1 c2)
       clear hall
       go_wp2_with (first | (go_at_call 77; refine (letter_any _ _).mono ?_; rintro e w' ⟨rfl, rfl⟩) | (go_at_call 78; refine (digit_any _ _).mono ?_; rintro e w' ⟨rfl, rfl⟩))
       go_ret
       exact ⟨zb E.out.symm, Below.refl _ _⟩
      ·have HN := zz (show ∀ j, j < k + 1 -> (letter (bt s j) || digit (bt s j)) = true from fun j hj => if h : j = k then by rw [h, c2, Bool.or_true] else hall j (by omega))
       clear hall
       go_wp2_with (first | (go_at_call 77; refine (letter_any _ _).mono ?_; rintro e w' ⟨rfl, rfl⟩) | (go_at_call 78; refine (digit_any _ _).mono ?_; rintro e w' ⟨rfl, rfl⟩))
       go_round
       case rel => exact ⟨k + 1, by omega, by go_num, HN.out⟩
       case measure => simp [intOf]; omega
     ·have HN := zz (show ∀ j, j < k + 1 -> (letter (bt s j) || digit (bt s j)) = true from fun j hj => if h : j = k then by rw [h, c1, Bool.true_or] else hall j (by omega))
      clear hall
      go_wp2_with (first | (go_at_call 77; refine (letter_any _ _).mono ?_; rintro e w' ⟨rfl, rfl⟩) | (go_at_call 78; refine (digit_any _ _).mono ?_; rintro e w' ⟨rfl, rfl⟩))
      go_round
      case rel => exact ⟨k + 1, by omega, by go_num, HN.out⟩
      case measure => simp [intOf]; omega
    ·have e : k = s.size := by omega
     subst e
     have E := zz (isName_all (by omega) h1 HL.out hall)
     clear hall
     go_wp2_with (go_at_call 79; refine (word_any _ _).mono ?_; rintro e w' ⟨rfl, hw⟩)
     go_ret
     exact ⟨zb E.out.symm, hw⟩
 ·have E := zz (isName_long h1)
  go_enter Tryz.func43, Tryz.ntmps43
  go_wp2
  go_ret
  exact ⟨zb E.out.symm, Below.refl _ _⟩
theorem refname_any (s : ByteArray) (w : World) (hs : s.size <= maxLen) :
 Calls Tryz.prog 73 #[.string s] w fun e w' => e = .returned (.bool (isName s)) /\ Below w.heap.size w w' := by
 unfold maxLen at hs
 by_cases h0 : s.size = 0
 ·have E := zz (isName_empty h0)
  have e := empty_of h0
  subst e
  clear hs h0
  go_enter Tryz.func73, Tryz.ntmps73
  go_wp2
  go_ret
  exact ⟨zb E.out.symm, Below.refl _ _⟩
 by_cases h1 : s.size <= 30
 ·go_enter Tryz.func73, Tryz.ntmps73
  go_wp2
  go_loop [3] (fun i => ∃ k : Nat, k <= s.size /\ i = .int .i64 k /\ (0 < k -> letter (bt s 0) = true) /\ ∀ j, j < k -> (letter (bt s j) || digit (bt s j)) = true) (fun i => s.size - (intOf i).toNat)
  case atStart => exact ⟨0, by omega, rfl, fun h => by omega, fun j hj => by omega⟩
  case round =>
   obtain ⟨k, hk, rfl, hl0, hall⟩ := hrel
   by_cases hlt : k < s.size
   ·have hb := bt_at s k hlt
    cases c1 : letter (bt s k)
    ·cases c2 : digit (bt s k)
     ·have E := zz (isName_bad hlt c1 c2)
      clear hall hl0
      go_wp2_with (first | (go_at_call 96; refine (refletter_any _ _).mono ?_; rintro e w' ⟨rfl, rfl⟩) | (go_at_call 97; refine (refdigit_any _ _).mono ?_; rintro e w' ⟨rfl, rfl⟩))
      go_ret
      exact ⟨zb E.out.symm, Below.refl _ _⟩
     ·by_cases hk0 : k = 0
      ·subst hk0
       have E := zz (isName_head c1)
       clear hall hl0
       go_wp2_with (first | (go_at_call 96; refine (refletter_any _ _).mono ?_; rintro e w' ⟨rfl, rfl⟩) | (go_at_call 97; refine (refdigit_any _ _).mono ?_; rintro e w' ⟨rfl, rfl⟩))
       go_ret
       exact ⟨zb E.out.symm, Below.refl _ _⟩
      ·have HN := zz (show ∀ j, j < k + 1 -> (letter (bt s j) || digit (bt s j)) = true from fun j hj => if h : j = k then by rw [h, c2, Bool.or_true] else hall j (by omega))
       have HL := zz (hl0 (by omega))
       have hk1 : 0 < k := by omega
       clear hall hl0
       go_wp2_with (first | (go_at_call 96; refine (refletter_any _ _).mono ?_; rintro e w' ⟨rfl, rfl⟩) | (go_at_call 97; refine (refdigit_any _ _).mono ?_; rintro e w' ⟨rfl, rfl⟩))
       go_round
       case rel => exact ⟨k + 1, by omega, by go_num, fun _ => HL.out, HN.out⟩
       case measure => simp [intOf]; omega
    ·have HN := zz (show ∀ j, j < k + 1 -> (letter (bt s j) || digit (bt s j)) = true from fun j hj => if h : j = k then by rw [h, c1, Bool.true_or] else hall j (by omega))
     have HL := zz (show letter (bt s 0) = true from if h : k = 0 then h ▸ c1 else hl0 (by omega))
     clear hall hl0
     go_wp2_with (first | (go_at_call 96; refine (refletter_any _ _).mono ?_; rintro e w' ⟨rfl, rfl⟩) | (go_at_call 97; refine (refdigit_any _ _).mono ?_; rintro e w' ⟨rfl, rfl⟩))
     go_round
     case rel => exact ⟨k + 1, by omega, by go_num, fun _ => HL.out, HN.out⟩
     case measure => simp [intOf]; omega
   ·have e : k = s.size := by omega
    subst e
    have E := zz (isName_all (by omega) h1 (hl0 (by omega)) hall)
    clear hall hl0
    go_wp2_with (go_at_call 98; refine (refword_any _ _).mono ?_; rintro e w' ⟨rfl, hw⟩)
    go_ret
    exact ⟨zb E.out.symm, hw⟩
 ·have E := zz (isName_long h1)
  go_enter Tryz.func73, Tryz.ntmps73
  go_wp2
  go_ret
  exact ⟨zb E.out.symm, Below.refl _ _⟩
end
section
open Go.RowKit
variable {b : Bool} {f : Nd} {u : Value}
structure NFit (f : Nd) : Prop where
 tl : f.t.size <= maxLen
 yl : Fit f.y
def kNamed (f : Nd) : Bool := !decide (f.t.data.toList = [95]) && isName f.t
theorem kNamed_is (hf : NFit f) (h : kNamed f = b) (w : World) :
 Calls Tryz.prog 42 #[nv f u] w fun e w' => e = .returned (.bool b) /\ Below w.heap.size w w' := by
 obtain ⟨k, t, n, y, s, a, l⟩ := f
 unfold nv
 unfold kNamed at h
 have HF := zz hf
 clear hf
 by_cases ct : t.data.toList = [95]
 ·have qt : (t.toList == [95]) = true := by rw [ByteArray.toList_eq]; rw [ct]; rfl
  have E := zz (show false = b by rw [<- h, decide_eq_true ct]; rfl)
  clear h ct
  go_enter Tryz.func42, Tryz.ntmps42
  go_wp2
  go_ret
  exact ⟨zb E.out, (box1 _ _).out⟩
 ·have qt : (t.toList == [95]) = false := by rw [ByteArray.toList_eq]; exact beq_false_of_ne ct
  rw [decide_eq_false ct] at h
  have HN := zz (show isName t = b from h)
  clear h ct
  go_enter Tryz.func42, Tryz.ntmps42
  go_wp2_with fail
  refine (name_any t _ HF.out.tl).mono ?_
  rintro e w1 ⟨rfl, b1⟩
  rw [HN.out]
  have HB := zz (((box1 w _).out).trans (b1.mono ((box1 w _).out).size))
  clear b1
  go_wp2
  go_ret
  exact ⟨rfl, HB.out⟩
def kNCall (f : Nd) : Bool := f.k == 28 && kNamed f
theorem kNCall_is (hf : NFit f) (h : kNCall f = b) (w : World) :
 Calls Tryz.prog 67 #[nv f u] w fun e w' => e = .returned (.bool b) /\ Below w.heap.size w w' := by
 obtain ⟨k, t, n, y, s, a, l⟩ := f
 unfold nv
 unfold kNCall at h
 have HF := zz hf
 clear hf
 by_cases c : k = 28
 ·subst c
  have HS := zz (show kNamed ⟨28, t, n, y, s, a, l⟩ = b from h)
  clear h
  go_enter Tryz.func67, Tryz.ntmps67
  go_wp2_with fail
  refine (kNamed_is (f := ⟨28, t, n, y, s, a, l⟩) HF.out HS.out _).mono ?_
  rintro e w1 ⟨rfl, b1⟩
  have HB := zz (((box1 w _).out).trans (b1.mono ((box1 w _).out).size))
  clear b1
  go_wp2
  go_ret
  exact ⟨rfl, HB.out⟩
 ·have q := beq_false_of_ne c
  have E := zz (show false = b by rw [<- h]; simp only [q]; rfl)
  clear h c
  go_enter Tryz.func67, Tryz.ntmps67
  go_wp2
  go_ret
  exact ⟨zb E.out, (box1 _ _).out⟩
def kCond (f : Nd) : Bool := kNone f || kExpr f
theorem kCond_is (h : kCond f = b) (w : World) :
 Calls Tryz.prog 85 #[nv f u] w fun e w' => e = .returned (.bool b) /\ Below w.heap.size w w' := by
 obtain ⟨k, t, n, y, s, a, l⟩ := f
 unfold nv
 unfold kCond at h
 cases hn : kNone ⟨k, t, n, y, s, a, l⟩
 ·have HN := zz hn
  have HS := zz (show kExpr ⟨k, t, n, y, s, a, l⟩ = b by rw [<- h, hn]; rfl)
  clear h hn
  go_enter Tryz.func85, Tryz.ntmps85
  go_wp2_with fail
  obtain ⟨w0, hw0, HB0, HX0, hs0⟩ := jb w ⟨k, t, n, y, s, a, l⟩ u
  simp only at hw0
  rw [hw0]
  clear hw0
  refine (kNone_is (f := ⟨k, t, n, y, s, a, l⟩) HN.out _).mono ?_
  rintro e w1 ⟨rfl, b1⟩
  have x0 := (HX0.out.below b1 (by omega)).cell
  have HB := zz (HB0.out.trans (b1.mono HB0.out.size))
  clear b1 HB0 HX0
  go_wp2_with fail
  refine (kExpr_is (f := ⟨k, t, n, y, s, a, l⟩) HS.out _).mono ?_
  rintro e w2 ⟨rfl, b2⟩
  have HB2 := zz (HB.out.trans (b2.mono HB.out.size))
  clear b2 x0
  go_wp2
  go_ret
  exact ⟨rfl, HB2.out⟩
 ·have HN := zz hn
  have E := zz (show true = b by rw [<- h, hn]; rfl)
  clear h hn
  go_enter Tryz.func85, Tryz.ntmps85
  go_wp2_with fail
  refine (kNone_is (f := ⟨k, t, n, y, s, a, l⟩) HN.out _).mono ?_
  rintro e w1 ⟨rfl, b1⟩
  have HB := zz (((box1 w _).out).trans (b1.mono ((box1 w _).out).size))
  clear b1
  go_wp2
  go_ret
  exact ⟨zb E.out, HB.out⟩
def typFit (f : Nd) : Bool := if f.k = 3 ∨ f.k = 5 ∨ f.k = 29 then right f.y.data.toList else if f.k = 2 then decide (f.y.data.toList = []) || right f.y.data.toList else decide (f.y.data.toList = []) || mrk f.k
theorem typFit_is (hf : NFit f) (h : typFit f = b) (w : World) :
 Calls Tryz.prog 27 #[nv f u] w fun e w' => e = .returned (.bool b) /\ Below w.heap.size w w' := by
 obtain ⟨k, t, n, y, s, a, l⟩ := f
 unfold nv
 unfold typFit at h
 have HF := zz hf
 clear hf
 by_cases c3 : k = 3
 ·subst c3
  have HR := zz (show right y.data.toList = b from h)
  clear h
  go_enter Tryz.func27, Tryz.ntmps27
  go_wp2_with fail
  refine (right_is HF.out.yl rfl HR.out _).mono ?_
  rintro e w1 ⟨rfl, rfl⟩
  go_wp2
  go_ret
  exact ⟨rfl, (box1 _ _).out⟩
 have q3 := beq_false_of_ne c3
 by_cases c5 : k = 5
 ·subst c5
  have HR := zz (show right y.data.toList = b from h)
  clear h c3 q3
  go_enter Tryz.func27, Tryz.ntmps27
  go_wp2_with fail
  refine (right_is HF.out.yl rfl HR.out _).mono ?_
  rintro e w1 ⟨rfl, rfl⟩
  go_wp2
  go_ret
  exact ⟨rfl, (box1 _ _).out⟩
 have q5 := beq_false_of_ne c5
 by_cases c29 : k = 29
 ·subst c29
  have HR := zz (show right y.data.toList = b from h)
  clear h c3 q3 c5 q5
  go_enter Tryz.func27, Tryz.ntmps27
  go_wp2_with fail
  refine (right_is HF.out.yl rfl HR.out _).mono ?_
  rintro e w1 ⟨rfl, rfl⟩
  go_wp2
  go_ret
  exact ⟨rfl, (box1 _ _).out⟩
 have q29 := beq_false_of_ne c29
 rw [if_neg (show ¬(k = 3 ∨ k = 5 ∨ k = 29) from fun hh => by rcases hh with hh | hh | hh; exact c3 hh; exact c5 hh; exact c29 hh)] at h
 by_cases ct : y.data.toList = []
 ·have qt : (y.toList == []) = true := by rw [ByteArray.toList_eq]; rw [ct]; rfl
  have E := zz (show true = b by rw [<- h]; simp only [ct]; split <;> rfl)
  by_cases c2 : k = 2
  ·subst c2
   clear h ct c3 c5 c29 q3 q5 q29
   go_enter Tryz.func27, Tryz.ntmps27
   go_wp2
   go_ret
   exact ⟨zb E.out, (box1 _ _).out⟩
  ·have q2 := beq_false_of_ne c2
   clear h ct c3 c5 c29 c2
   go_enter Tryz.func27, Tryz.ntmps27
   go_wp2
   go_ret
   exact ⟨zb E.out, (box1 _ _).out⟩
 have qt : (y.toList == []) = false := by rw [ByteArray.toList_eq]; exact beq_false_of_ne ct
 by_cases c2 : k = 2
 ·subst c2
  have HR := zz (show right y.data.toList = b by rw [<- h, if_pos rfl, decide_eq_false ct]; rfl)
  clear h ct c3 c5 c29 q3 q5 q29
  go_enter Tryz.func27, Tryz.ntmps27
  go_wp2_with fail
  refine (right_is HF.out.yl rfl HR.out _).mono ?_
  rintro e w1 ⟨rfl, rfl⟩
  go_wp2
  go_ret
  exact ⟨rfl, (box1 _ _).out⟩
 ·have q2 := beq_false_of_ne c2
  have HM := zz (show mrk k = b by rw [<- h, if_neg c2, decide_eq_false ct]; rfl)
  clear h ct c3 c5 c29 c2
  go_enter Tryz.func27, Tryz.ntmps27
  go_wp2_with fail
  refine (ismarked_is HM.out _).mono ?_
  rintro e w1 ⟨rfl, rfl⟩
  go_wp2
  go_ret
  exact ⟨rfl, (box1 _ _).out⟩
end
section
open Go.RowKit
variable {b : Bool} {f : Nd} {u : Value}
def txtFit (f : Nd) : Bool := if f.k = 2 ∨ f.k = 3 ∨ f.k = 5 then kNamed f else if f.k = 21 then isName f.t else if f.k = 25 then true else if f.k = 26 then uSign f.t.data.toList else if f.k = 27 then decide (0 < bnd f.t.data.toList) else if f.k = 28 then kNamed f || cWord f.t.data.toList else if f.k = 30 then mName f.t.data.toList else if f.k = 12 then decide (f.t.data.toList = []) || (f.n == 3 && (decide (f.t.data.toList = [58, 61]) || decide (f.t.data.toList = [61]))) else decide (f.t.data.toList = [])
theorem txtFit_is (hf : NFit f) (h : txtFit f = b) (w : World) :
 Calls Tryz.prog 25 #[nv f u] w fun e w' => e = .returned (.bool b) /\ Below w.heap.size w w' := by
 obtain ⟨k, t, n, y, s, a, l⟩ := f
 unfold nv
 unfold txtFit at h
 have HF := zz hf
 clear hf
 by_cases c2 : k = 2
 ·subst c2
  have HS := zz (show kNamed ⟨2, t, n, y, s, a, l⟩ = b from h)
  clear h
  go_enter Tryz.func25, Tryz.ntmps25
  go_wp2_with fail
  refine (kNamed_is (f := ⟨2, t, n, y, s, a, l⟩) HF.out HS.out _).mono ?_
  rintro e w1 ⟨rfl, b1⟩
  have HB := zz (((box1 w _).out).trans (b1.mono ((box1 w _).out).size))
  clear b1
  go_wp2
  go_ret
  exact ⟨rfl, HB.out⟩
 have q2 := beq_false_of_ne c2
 by_cases c3 : k = 3
 ·subst c3
  clear c2 q2
  have HS := zz (show kNamed ⟨3, t, n, y, s, a, l⟩ = b from h)
  clear h
  go_enter Tryz.func25, Tryz.ntmps25
  go_wp2_with fail
  refine (kNamed_is (f := ⟨3, t, n, y, s, a, l⟩) HF.out HS.out _).mono ?_
  rintro e w1 ⟨rfl, b1⟩
  have HB := zz (((box1 w _).out).trans (b1.mono ((box1 w _).out).size))
  clear b1
  go_wp2
  go_ret
  exact ⟨rfl, HB.out⟩
 have q3 := beq_false_of_ne c3
 by_cases c5 : k = 5
 ·subst c5
  clear c2 q2 c3 q3
  have HS := zz (show kNamed ⟨5, t, n, y, s, a, l⟩ = b from h)
  clear h
  go_enter Tryz.func25, Tryz.ntmps25
  go_wp2_with fail
  refine (kNamed_is (f := ⟨5, t, n, y, s, a, l⟩) HF.out HS.out _).mono ?_
  rintro e w1 ⟨rfl, b1⟩
  have HB := zz (((box1 w _).out).trans (b1.mono ((box1 w _).out).size))
  clear b1
  go_wp2
  go_ret
  exact ⟨rfl, HB.out⟩
 have q5 := beq_false_of_ne c5
 by_cases c21 : k = 21
 ·subst c21
  clear c2 q2 c3 q3 c5 q5
  have HN := zz (show isName t = b from h)
  clear h
  go_enter Tryz.func25, Tryz.ntmps25
  go_wp2_with fail
  refine (name_any t _ HF.out.tl).mono ?_
  rintro e w1 ⟨rfl, b1⟩
  rw [HN.out]
  have HB := zz (((box1 w _).out).trans (b1.mono ((box1 w _).out).size))
  clear b1
  go_wp2
  go_ret
  exact ⟨rfl, HB.out⟩
 have q21 := beq_false_of_ne c21
 by_cases c25 : k = 25
 ·subst c25
  clear c2 q2 c3 q3 c5 q5 c21 q21
  have E := zz (show true = b from h)
  clear h
  go_enter Tryz.func25, Tryz.ntmps25
  go_wp2
  go_ret
  exact ⟨zb E.out, (box1 _ _).out⟩
 have q25 := beq_false_of_ne c25
 by_cases c26 : k = 26
 ·subst c26
  clear c2 q2 c3 q3 c5 q5 c21 q21 c25 q25
  have HS := zz (show uSign t.data.toList = b from h)
  clear h
  go_enter Tryz.func25, Tryz.ntmps25
  go_wp2_with fail
  refine (uSign_is HS.out _).mono ?_
  rintro e w1 ⟨rfl, rfl⟩
  go_wp2
  go_ret
  exact ⟨rfl, (box1 _ _).out⟩
 have q26 := beq_false_of_ne c26
 by_cases c27 : k = 27
 ·subst c27
  clear c2 q2 c3 q3 c5 q5 c21 q21 c25 q25 c26 q26
  obtain ⟨z, hz⟩ : ∃ z, bnd t.data.toList = z := ⟨_, rfl⟩
  have HS := zz hz
  have E := zz (show decide (0 < z) = b by rw [<- hz]; exact h)
  clear h hz
  go_enter Tryz.func25, Tryz.ntmps25
  go_wp2_with fail
  refine (bnd_is HS.out _).mono ?_
  rintro e w1 ⟨rfl, rfl⟩
  go_wp2
  go_ret
  exact ⟨zb E.out, (box1 _ _).out⟩
 have q27 := beq_false_of_ne c27
 by_cases c28 : k = 28
 ·subst c28
  clear c2 q2 c3 q3 c5 q5 c21 q21 c25 q25 c26 q26 c27 q27
  cases hn : kNamed ⟨28, t, n, y, s, a, l⟩
  ·have HN := zz hn
   have HS := zz (show cWord t.data.toList = b by rw [<- h]; show cWord t.data.toList = (kNamed ⟨28, t, n, y, s, a, l⟩ || cWord t.data.toList); rw [hn]; rfl)
   clear h hn
   go_enter Tryz.func25, Tryz.ntmps25
   go_wp2_with fail
   obtain ⟨w0, hw0, HB0, HX0, hs0⟩ := jb w ⟨28, t, n, y, s, a, l⟩ u
   simp only at hw0
   rw [hw0]
   clear hw0
   refine (kNamed_is (f := ⟨28, t, n, y, s, a, l⟩) HF.out HN.out _).mono ?_
   rintro e w1 ⟨rfl, b1⟩
   have x0 := (HX0.out.below b1 (by omega)).cell
   have HB := zz (HB0.out.trans (b1.mono HB0.out.size))
   clear b1 HB0 HX0
   go_wp2_with fail
   refine (cWord_is HS.out _).mono ?_
   rintro e w2 ⟨rfl, rfl⟩
   clear x0
   go_wp2
   go_ret
   exact ⟨rfl, HB.out⟩
  ·have HN := zz hn
   have E := zz (show true = b by rw [<- h]; show true = (kNamed ⟨28, t, n, y, s, a, l⟩ || cWord t.data.toList); rw [hn]; rfl)
   clear h hn
   go_enter Tryz.func25, Tryz.ntmps25
   go_wp2_with fail
   refine (kNamed_is (f := ⟨28, t, n, y, s, a, l⟩) HF.out HN.out _).mono ?_
   rintro e w1 ⟨rfl, b1⟩
   have HB := zz (((box1 w _).out).trans (b1.mono ((box1 w _).out).size))
   clear b1
   go_wp2
   go_ret
   exact ⟨zb E.out, HB.out⟩
 have q28 := beq_false_of_ne c28
 by_cases c30 : k = 30
 ·subst c30
  clear c2 q2 c3 q3 c5 q5 c21 q21 c25 q25 c26 q26 c27 q27 c28 q28
  have HS := zz (show mName t.data.toList = b from h)
  clear h
  go_enter Tryz.func25, Tryz.ntmps25
  go_wp2_with fail
  refine (mName_is HS.out _).mono ?_
  rintro e w1 ⟨rfl, rfl⟩
  go_wp2
  go_ret
  exact ⟨rfl, (box1 _ _).out⟩
 have q30 := beq_false_of_ne c30
 by_cases c12 : k = 12
 ·subst c12
  clear c2 q2 c3 q3 c5 q5 c21 q21 c25 q25 c26 q26 c27 q27 c28 q28 c30 q30
  have h' : (decide (t.data.toList = []) || (n == 3 && (decide (t.data.toList = [58, 61]) || decide (t.data.toList = [61])))) = b := h
  clear h
  by_cases e0 : t.data.toList = []
  ·have qe : (t.toList == []) = true := by rw [ByteArray.toList_eq]; rw [e0]; rfl
   have E := zz (show true = b by rw [<- h', decide_eq_true e0]; rfl)
   clear h' e0
   go_enter Tryz.func25, Tryz.ntmps25
   go_wp2
   go_ret
   exact ⟨zb E.out, (box1 _ _).out⟩
  have qe : (t.toList == []) = false := by rw [ByteArray.toList_eq]; exact beq_false_of_ne e0
  by_cases e1 : n = 3
  rotate_left
  ·have qn := beq_false_of_ne e1
   have E := zz (show false = b by rw [<- h', decide_eq_false e0, qn]; rfl)
   clear h' e0 e1
   go_enter Tryz.func25, Tryz.ntmps25
   go_wp2
   go_ret
   exact ⟨zb E.out, (box1 _ _).out⟩
  subst e1
  by_cases e2 : t.data.toList = [58, 61]
  ·have qf : (t.toList == [58, 61]) = true := by rw [ByteArray.toList_eq]; rw [e2]; rfl
   have E := zz (show true = b by rw [<- h', decide_eq_false e0, decide_eq_true e2]; rfl)
   clear h' e0 e2
   go_enter Tryz.func25, Tryz.ntmps25
   go_wp2
   go_ret
   exact ⟨zb E.out, (box1 _ _).out⟩
  have qf : (t.toList == [58, 61]) = false := by rw [ByteArray.toList_eq]; exact beq_false_of_ne e2
  by_cases e3 : t.data.toList = [61]
  ·have qg : (t.toList == [61]) = true := by rw [ByteArray.toList_eq]; rw [e3]; rfl
   have E := zz (show true = b by rw [<- h', decide_eq_false e0, decide_eq_false e2, decide_eq_true e3]; rfl)
   clear h' e0 e2 e3
   go_enter Tryz.func25, Tryz.ntmps25
   go_wp2
   go_ret
   exact ⟨zb E.out, (box1 _ _).out⟩
  ·have qg : (t.toList == [61]) = false := by rw [ByteArray.toList_eq]; exact beq_false_of_ne e3
   have E := zz (show false = b by rw [<- h', decide_eq_false e0, decide_eq_false e2, decide_eq_false e3]; rfl)
   clear h' e0 e2 e3
   go_enter Tryz.func25, Tryz.ntmps25
   go_wp2
   go_ret
   exact ⟨zb E.out, (box1 _ _).out⟩
 have q12 := beq_false_of_ne c12
 rw [if_neg (show ¬(k = 2 ∨ k = 3 ∨ k = 5) from fun hh => by rcases hh with hh | hh | hh; exact c2 hh; exact c3 hh; exact c5 hh)] at h
 rw [if_neg (show ¬(k = 21) from fun hh => by exact c21 hh)] at h
 rw [if_neg (show ¬(k = 25) from fun hh => by exact c25 hh)] at h
 rw [if_neg (show ¬(k = 26) from fun hh => by exact c26 hh)] at h
 rw [if_neg (show ¬(k = 27) from fun hh => by exact c27 hh)] at h
 rw [if_neg (show ¬(k = 28) from fun hh => by exact c28 hh)] at h
 rw [if_neg (show ¬(k = 30) from fun hh => by exact c30 hh)] at h
 rw [if_neg (show ¬(k = 12) from fun hh => by exact c12 hh)] at h
 by_cases e0 : t.data.toList = []
 ·have qe : (t.toList == []) = true := by rw [ByteArray.toList_eq]; rw [e0]; rfl
  have E := zz (show true = b by rw [<- h, decide_eq_true e0])
  clear h e0 c2 c3 c5 c21 c25 c26 c27 c28 c30 c12
  go_enter Tryz.func25, Tryz.ntmps25
  go_wp2
  go_ret
  exact ⟨zb E.out, (box1 _ _).out⟩
 ·have qe : (t.toList == []) = false := by rw [ByteArray.toList_eq]; exact beq_false_of_ne e0
  have E := zz (show false = b by rw [<- h, decide_eq_false e0])
  clear h e0 c2 c3 c5 c21 c25 c26 c27 c28 c30 c12
  go_enter Tryz.func25, Tryz.ntmps25
  go_wp2
  go_ret
  exact ⟨zb E.out, (box1 _ _).out⟩
end
end Go.Proofs.YtmdhjiammcpogaaGreatDoor
