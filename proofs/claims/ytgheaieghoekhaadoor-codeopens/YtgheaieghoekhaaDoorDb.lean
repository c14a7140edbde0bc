/- What is read: texts, flags, instructions, items. -/
import Derived.Test.YtgheaieghoekhaaDoorDa
import Derived.Test.YtgheaieghoekhaaDoorLayC
namespace Go.Proofs.YtgheaieghoekhaaDoor
open Go.RowKit

/-! ### What bytes say -/

def gNum (k : Nat) (l : List UInt8) : Option (Int × List UInt8) := if k ≤ l.length then some (wrap64 (bval (l.take k)), l.drop k) else none
def gTake (n : Int) (l : List UInt8) : Option (ByteArray × List UInt8) := if n ≤ l.length then some (⟨(l.take n.toNat).toArray⟩, l.drop n.toNat) else none
def gText (l : List UInt8) : Option (ByteArray × List UInt8) := (gNum 4 l).bind fun x => gTake x.1 x.2
def gFlag (l : List UInt8) : Option (Bool × List UInt8) := (gNum 1 l).bind fun x => if x.1 ≤ 1 then some (x.1 == 1, x.2) else none
def gIns (l : List UInt8) : Option (In × List UInt8) :=
  (gNum 1 l).bind fun a => (gNum 8 a.2).bind fun b => (gNum 1 b.2).bind fun c => (gNum 4 c.2).bind fun d => some (⟨a.1, b.1, c.1, d.1⟩, d.2)
def gItem (l : List UInt8) : Option (It × List UInt8) :=
  (gNum 1 l).bind fun a => if a.1 = 1 then (gText a.2).bind fun b => some (⟨a.1, b.1⟩, b.2) else some (⟨a.1, ⟨#[]⟩⟩, a.2)
def gMany {α : Type} (one : List UInt8 → Option (α × List UInt8)) : Nat → List UInt8 → Option (List α × List UInt8)
  | 0, l => some ([], l)
  | n + 1, l => (one l).bind fun a => (gMany one n a.2).bind fun b => some (a.1 :: b.1, b.2)
def gList {α : Type} (one : List UInt8 → Option (α × List UInt8)) (size : Nat) (most : Int) (least : Nat) (l : List UInt8) : Option (List α × List UInt8) :=
  (gNum size l).bind fun c => if c.1 ≤ most ∧ c.1 ≤ ((c.2.length / least : Nat) : Int) then gMany one c.1.toNat c.2 else none
def gFun (l : List UInt8) : Option (Fu × List UInt8) :=
  (gText l).bind fun a => (gNum 1 a.2).bind fun b => (gNum 2 b.2).bind fun c => (gFlag c.2).bind fun d => (gList gIns 4 8388608 14 d.2).bind fun e => some (⟨a.1, b.1, c.1, d.1, e.1⟩, e.2)
def gPrint (l : List UInt8) : Option (List It × List UInt8) := gList gItem 1 20 1 l
def gArm (l : List UInt8) : Option (List Bool × List UInt8) := gList gFlag 1 50 1 l
def gProg (l : List UInt8) : Option Pg :=
  (gTake 4 l).bind fun a => if a.1 = ⟨#[68, 82, 87, 49]⟩ then (gNum 4 a.2).bind fun b => (gList gFun 4 100 12 b.2).bind fun c => (gList gPrint 4 8388608 1 c.2).bind fun d => (gList gArm 4 8388608 1 d.2).bind fun e => if e.2 = [] then some ⟨c.1, d.1, e.1, b.1⟩ else none else none

theorem gNum_some {k : Nat} {l r : List UInt8} {x : Int} (h : gNum k l = some (x, r)) : k ≤ l.length ∧ x = wrap64 (bval (l.take k)) ∧ r = l.drop k := by
  unfold gNum at h
  split at h
  · rename_i hk
    injection h with h
    injection h with h1 h2
    exact ⟨hk, h1.symm, h2.symm⟩
  · cases h

theorem gNum_small {k : Nat} {l r : List UInt8} {x : Int} (h : gNum k l = some (x, r)) (hk : k ≤ 7) : ∃ n : Nat, x = (n : Int) ∧ n < 256 ^ k := by
  obtain ⟨h1, h2, _⟩ := gNum_some h
  have hb := bval_lt (l.take k)
  rw [List.length_take, Nat.min_eq_left h1] at hb
  have hp : (256 : Nat) ^ k ≤ 256 ^ 7 := Nat.pow_le_pow_right (by decide) hk
  refine ⟨bval (l.take k), ?_, hb⟩
  rw [h2]
  have : bval (l.take k) < 256 ^ 7 := Nat.lt_of_lt_of_le hb hp
  unfold wrap64
  omega

theorem bind_some {α β : Type} {o : Option α} {f : α → Option β} {b : β} (h : o.bind f = some b) : ∃ a, o = some a ∧ f a = some b := Option.bind_eq_some_iff.1 h

/-- read so: the value, what is left, all else as it was -/
def Got (R : Nat) (w : World) (r : List UInt8) (V : World → Value → Prop) (e : Ending) (w' : World) : Prop := (∃ v, e = .returned v ∧ V w' v) ∧ Rd R r w' ∧ Keep R w w'

theorem num_is {R : Nat} {l r : List UInt8} {w : World} (h : Rd R l w) {k : Nat} {x : Int} (hg : gNum k l = some (x, r)) {k' : Int} (ek : k' = (k : Int)) (hk8 : k ≤ 8) :
    Calls Tryd.prog 37 #[.pointer (some ⟨R, 0, none⟩), .int .i64 k'] w fun e w' => e = .returned (.int .i64 x) ∧ Rd R r w' ∧ Keep R w w' := by
  obtain ⟨h1, rfl, rfl⟩ := gNum_some hg
  exact number_is h k ek h1 hk8

theorem ba_of {t : ByteArray} {l : List UInt8} (h : t.data.toList = l) : t = ⟨l.toArray⟩ := by
  subst h
  cases t
  simp

theorem take_is {R : Nat} {l r : List UInt8} {w : World} (h : Rd R l w) {n : Int} (hn : 0 ≤ n) {t : ByteArray} (hg : gTake n l = some (t, r)) :
    Calls Tryd.prog 36 #[.pointer (some ⟨R, 0, none⟩), .int .i64 n] w fun e w' => e = .returned (.string t) ∧ Rd R r w' ∧ Keep R w w' := by
  unfold gTake at hg
  split at hg
  · rename_i hk
    injection hg with hg
    injection hg with h1 h2
    subst h1 h2
    refine (bytes_is h n.toNat (by omega) (by omega)).mono ?_
    rintro e w' ⟨⟨t, ht, rfl⟩, hR, hK⟩
    exact ⟨by rw [ba_of ht], hR, hK⟩
  · cases hg

set_option maxHeartbeats 1000000 in
theorem sclone_is (s : ByteArray) (w : World) (hs : s.size ≤ 281474976710656) : Calls Tryd.prog 78 #[.string s] w fun e w' => e = .returned (.string s) ∧ Below w.heap.size w w' := by
  go_enter Tryd.func78, Tryd.ntmps78
  go_wp2_with fail
  refine (Any.stringslite_Clone layCL s w hs).mono ?_
  rintro e w' ⟨rfl, hB⟩
  have HB := hide hB
  clear hB
  go_wp2
  go_ret
  exact ⟨rfl, unhide HB⟩

theorem gTake_len {n : Int} {l r : List UInt8} {t : ByteArray} (h : gTake n l = some (t, r)) : t.size ≤ l.length := by
  unfold gTake at h
  split at h
  · injection h with h
    injection h with h1 h2
    subst h1
    show (l.take n.toNat).toArray.size ≤ _
    simp
    omega
  · cases h

set_option maxHeartbeats 1000000 in
theorem text_is {R : Nat} {l r : List UInt8} {w : World} (h : Rd R l w) (hl : l.length ≤ 140737488355328) {t : ByteArray} (hg : gText l = some (t, r)) :
    Calls Tryd.prog 64 #[.pointer (some ⟨R, 0, none⟩)] w fun e w' => e = .returned (.string t) ∧ Rd R r w' ∧ Keep R w w' := by
  obtain ⟨⟨x, r1⟩, g1, g2⟩ := bind_some hg
  simp only at g2
  obtain ⟨n, rfl, _⟩ := gNum_small g1 (by omega)
  have hr1 : r1.length ≤ l.length := by rw [(gNum_some g1).2.2, List.length_drop]; omega
  have hts := gTake_len g2
  have H := hide h
  have G1 := hide g1
  have G2 := hide g2
  clear h g1 g2 hg
  go_enter Tryd.func64, Tryd.ntmps64
  go_wp2_with fail
  refine (num_is (unhide H) (unhide G1) rfl (by omega)).mono ?_
  rintro e w1 ⟨rfl, hR1, hK1⟩
  have HR1 := hide hR1
  have HK1 := hide hK1
  clear hR1 hK1
  go_wp2_with fail
  refine (take_is (unhide HR1) (by omega) (unhide G2)).mono ?_
  rintro e w2 ⟨rfl, hR2, hK2⟩
  have HR2 := hide hR2
  have HK2 := hide hK2
  clear hR2 hK2
  go_wp2_with fail
  refine (sclone_is t _ (by omega)).mono ?_
  rintro e w3 ⟨rfl, hB3⟩
  have HB3 := hide hB3
  clear hB3
  go_wp2
  go_ret
  exact ⟨rfl, (unhide HR2).below (unhide HB3), ((unhide HK1).trans (unhide HK2)).trans (Keep.of_below (unhide HB3))⟩

set_option maxHeartbeats 1000000 in
theorem flag_is {R : Nat} {l r : List UInt8} {w : World} (h : Rd R l w) {b : Bool} (hg : gFlag l = some (b, r)) :
    Calls Tryd.prog 65 #[.pointer (some ⟨R, 0, none⟩)] w fun e w' => e = .returned (.bool b) ∧ Rd R r w' ∧ Keep R w w' := by
  obtain ⟨⟨x, r1⟩, g1, g2⟩ := bind_some hg
  simp only at g2
  split at g2
  · rename_i hx
    injection g2 with g2
    injection g2 with e1 e2
    subst e1 e2
    have q : decide (x ≤ 1) = true := by simpa using hx
    have H := hide h
    have G1 := hide g1
    clear h g1 hg hx
    go_enter Tryd.func65, Tryd.ntmps65
    go_wp2_with fail
    refine (num_is (unhide H) (unhide G1) rfl (by omega)).mono ?_
    rintro e w1 ⟨rfl, hR1, hK1⟩
    have HR1 := hide hR1
    have HK1 := hide hK1
    clear hR1 hK1
    go_wp2_with (go_at_call 23; refine (need_ok _ _).mono ?_; rintro e w' ⟨rfl, rfl⟩)
    go_ret
    exact ⟨rfl, unhide HR1, unhide HK1⟩
  · cases g2

end Go.Proofs.YtgheaieghoekhaaDoor
