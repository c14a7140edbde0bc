import Derived.Laws.Concat
import Derived.Test.YtmdhjiammcpogaaGreatDoorQ27
namespace Go.Proofs.YtmdhjiammcpogaaGreatDoor
set_option maxRecDepth 100000
set_option maxHeartbeats 16000000
section
open Go.RowKit
variable {B n : Nat} {v : Value} {w : World}
def Own (w : World) (B : Nat) (v : Value) (acc : List UInt8) : Prop := w.ownsRow B 5 1 v acc.length (Lib.byteCells acc)
theorem Tryz.infoB : (Tryz.prog.info? 5).map (fun i => (i.zero, i.size, i.bytes)) = some (some (.int .u8 0), 1, 1) := by kernel_rfl
theorem own_conv {acc : List UInt8} (h : Own w B v acc) : (convert 40 9 v).run Tryz.prog w = .ok (.string ⟨acc.toArray⟩) w := by
 have h0 := h
 obtain ⟨hl, h⟩ := h
 rcases h with ⟨rfl, hn⟩ | ⟨g, cap, cur, rfl, hB, hg, hn, hm, hsz, ht⟩
 ·have e : acc = [] := List.length_eq_zero_iff.1 hn
  subst e
  exact run_convert_bytes_nil w 40 5 Tryz.underlying40 Tryz.underlying5 0 0 9 Tryz.underlying9
 ·refine run_convert_bytes_back w 40 9 5 ⟨g, 0, none⟩ cap acc Tryz.underlying40 Tryz.underlying5 Tryz.underlying9 ?_
  intro j hj
  have h2 := World.ownsRow.cells h0 (g := g) rfl j (.int .u8 (acc[j].toNat : Int)) (by
   unfold Lib.byteCells
   rw [List.getElem?_map, List.getElem?_eq_getElem hj]
   rfl)
  exact h2
theorem one_new (w : World) (v : Value) (t : TypeId) : ∀ (j : Nat) (u : Value), [v][j]? = some u -> (w.alloc (.cells #[v] t)).cell? ((⟨w.heap.size, 0, none⟩ : Addr).add j) = some u := by
 intro j u hj
 match j, hj with
 | 0, hj => simp at hj; subst hj; simp [Addr.add]
theorem two_new (w : World) (v v' : Value) (t : TypeId) : ∀ (j : Nat) (u : Value), [v, v'][j]? = some u -> (w.alloc (.cells #[v, v'] t)).cell? ((⟨w.heap.size, 0, none⟩ : Addr).add j) = some u := by
 intro j u hj
 match j, hj with
 | 0, hj => simp at hj; subst hj; simp [Addr.add]
 | 1, hj => simp at hj; subst hj; simp [Addr.add]
theorem Own.nil (w : World) (B : Nat) : Own w B (.slice none 0 0) [] := World.ownsRow_nil _ _ _ _
theorem Own.drewN {acc : List UInt8} (h : Own w B v acc) (m : Nat) : Own (w.drewN m) B v acc := h
theorem Own.one {acc : List UInt8} {c : UInt8} (h : w.ownsRow B 5 1 v (acc.length + 1) (Lib.byteCells acc ++ [.int .u8 (c.toNat : Int)])) : Own w B v (acc ++ [c]) := by
 unfold Own
 rw [<- cells_snoc, List.length_append]
 exact h
theorem Own.two {acc : List UInt8} {c d : UInt8} (h : w.ownsRow B 5 1 v (acc.length + 2) (Lib.byteCells acc ++ [.int .u8 (c.toNat : Int), .int .u8 (d.toNat : Int)])) : Own w B v (acc ++ [c, d]) := by
 unfold Own
 rw [List.length_append, Lib.byteCells_append]
 exact h
theorem own_block {e : TypeId} {xs : List Value} (h : w.ownsRow B e 1 v n xs) : ∀ k, v.ownBlock = some k -> B <= k := by
 rcases h with ⟨_, ⟨rfl, rfl⟩ | ⟨g, cap, cur, rfl, hB, _⟩⟩
 ·intro k hk; cases hk
 ·intro k hk; cases hk; exact hB
theorem own_start (w : World) : Own (w.alloc (.cells #[.int .u8 34] 5)) w.heap.size (.slice (some ⟨w.heap.size, 0, none⟩) 1 1) [34] :=
 ⟨rfl, Or.inr ⟨w.heap.size, 1, #[.int .u8 34], rfl, Nat.le_refl _, (MapKept.heap_alloc w _).1, Nat.le_refl _, by decide, rfl, rfl⟩⟩
end
section
open Go.RowKit
theorem refquote_any (s : ByteArray) (w : World) (hs : s.size <= 70368744177000) :
 Calls Tryz.prog 119 #[.string s] w fun e w' => e = .returned (.string ⟨(quo s.data.toList).toArray⟩) /\ Below w.heap.size w w' := by
 obtain ⟨i0, hi0, hz0, hz1, hz2⟩ := info_parts Tryz.infoB
 go_enter Tryz.func119, Tryz.ntmps119
 go_wp2
 go_loopw [3, 4] (fun v i wr => ∃ k : Nat, k <= s.size /\ i = .int .i64 k /\ Own wr w.heap.size v (qpre s k) /\ Below w.heap.size w wr) (fun _ i _ => s.size - (intOf i).toNat)
 case atStart => exact ⟨0, by omega, rfl, own_start w, (Below.refl w.heap.size w).alloc (Nat.le_refl _) _⟩
 case round =>
  obtain ⟨k, hk, rfl, hO, hB⟩ := hrel
  have hsz := hB.size
  have hql := qpre_len s k
  have HO := zz hO
  have HB := zz hB
  clear hO hB
  have hm : (qpre s k).length + 2 <= maxLen := by unfold maxLen; omega
  by_cases hlt : k < s.size
  ·have hb := by_at s k hlt
   have E := zz (qpre_step s k hlt)
   by_cases h1 : (by_ s k).toNat = 92
   ·have hq : (((by_ s k).toNat : Int) == 92) = true := by simp; omega
    rw [esc_92 h1] at E
    clear h1
    go_wp2_with (first
     | (at_builtin; refine wpList_append_own _ rfl _ _ 40 rfl w.heap.size 5 i0 (.int .u8 0) 1 1 Tryz.underlying40 hi0 hz0 hz1 hz2 rfl (by decide) _ _ _ rfl (HO.out.alloc _) ⟨wr.heap.size, 0, none⟩ 2 2 [.int .u8 92, .int .u8 ((by_ s k).toNat : Int)] rfl rfl (two_new _ _ _ _) (by intro u hu; simp at hu; rcases hu with rfl | rfl <;> rfl) hm (by omega) (by rw [World.size_alloc]; omega) ?_)
     | fail)
    intro v' w5 hv hgrow _
    have HO5 : Hid (Own w5 w.heap.size v' (qpre s (k + 1))) := zz (by rw [E.out]; exact Own.two hv)
    have HB5 := zz ((HB.out.alloc hsz _).grown hgrow (by rw [World.size_alloc]; omega) (own_block HO.out))
    clear hv hgrow HO HB
    go_wp2
    go_roundw
    case rel => exact ⟨k + 1, by omega, by go_num, HO5.out, HB5.out⟩
    case measure => simp [intOf]; omega
   have q1 : (((by_ s k).toNat : Int) == 92) = false := by simp; omega
   by_cases h2 : (by_ s k).toNat = 34
   ·have hq : (((by_ s k).toNat : Int) == 34) = true := by simp; omega
    rw [esc_34 h2] at E
    clear h1 h2
    go_wp2_with (first
     | (at_builtin; refine wpList_append_own _ rfl _ _ 40 rfl w.heap.size 5 i0 (.int .u8 0) 1 1 Tryz.underlying40 hi0 hz0 hz1 hz2 rfl (by decide) _ _ _ rfl (HO.out.alloc _) ⟨wr.heap.size, 0, none⟩ 2 2 [.int .u8 92, .int .u8 ((by_ s k).toNat : Int)] rfl rfl (two_new _ _ _ _) (by intro u hu; simp at hu; rcases hu with rfl | rfl <;> rfl) hm (by omega) (by rw [World.size_alloc]; omega) ?_)
     | fail)
    intro v' w5 hv hgrow _
    have HO5 : Hid (Own w5 w.heap.size v' (qpre s (k + 1))) := zz (by rw [E.out]; exact Own.two hv)
    have HB5 := zz ((HB.out.alloc hsz _).grown hgrow (by rw [World.size_alloc]; omega) (own_block HO.out))
    clear hv hgrow HO HB
    go_wp2
    go_roundw
    case rel => exact ⟨k + 1, by omega, by go_num, HO5.out, HB5.out⟩
    case measure => simp [intOf]; omega
   have q2 : (((by_ s k).toNat : Int) == 34) = false := by simp; omega
   by_cases h3 : (by_ s k).toNat = 10
   ·have hq : (((by_ s k).toNat : Int) == 10) = true := by simp; omega
    rw [esc_10 h3] at E
    clear h1 h2 h3
    go_wp2_with (first
     | (at_builtin; refine wpList_append_own _ rfl _ _ 40 rfl w.heap.size 5 i0 (.int .u8 0) 1 1 Tryz.underlying40 hi0 hz0 hz1 hz2 rfl (by decide) _ _ _ rfl (HO.out.alloc _) ⟨wr.heap.size, 0, none⟩ 2 2 [.int .u8 92, .int .u8 110] rfl rfl (two_new _ _ _ _) (by intro u hu; simp at hu; rcases hu with rfl | rfl <;> rfl) hm (by omega) (by rw [World.size_alloc]; omega) ?_)
     | fail)
    intro v' w5 hv hgrow _
    have HO5 : Hid (Own w5 w.heap.size v' (qpre s (k + 1))) := zz (by rw [E.out]; exact Own.two (c := 92) (d := 110) hv)
    have HB5 := zz ((HB.out.alloc hsz _).grown hgrow (by rw [World.size_alloc]; omega) (own_block HO.out))
    clear hv hgrow HO HB
    go_wp2
    go_roundw
    case rel => exact ⟨k + 1, by omega, by go_num, HO5.out, HB5.out⟩
    case measure => simp [intOf]; omega
   have q3 : (((by_ s k).toNat : Int) == 10) = false := by simp; omega
   by_cases h4 : (by_ s k).toNat = 9
   ·have hq : (((by_ s k).toNat : Int) == 9) = true := by simp; omega
    rw [esc_9 h4] at E
    clear h1 h2 h3 h4
    go_wp2_with (first
     | (at_builtin; refine wpList_append_own _ rfl _ _ 40 rfl w.heap.size 5 i0 (.int .u8 0) 1 1 Tryz.underlying40 hi0 hz0 hz1 hz2 rfl (by decide) _ _ _ rfl (HO.out.alloc _) ⟨wr.heap.size, 0, none⟩ 2 2 [.int .u8 92, .int .u8 116] rfl rfl (two_new _ _ _ _) (by intro u hu; simp at hu; rcases hu with rfl | rfl <;> rfl) hm (by omega) (by rw [World.size_alloc]; omega) ?_)
     | fail)
    intro v' w5 hv hgrow _
    have HO5 : Hid (Own w5 w.heap.size v' (qpre s (k + 1))) := zz (by rw [E.out]; exact Own.two (c := 92) (d := 116) hv)
    have HB5 := zz ((HB.out.alloc hsz _).grown hgrow (by rw [World.size_alloc]; omega) (own_block HO.out))
    clear hv hgrow HO HB
    go_wp2
    go_roundw
    case rel => exact ⟨k + 1, by omega, by go_num, HO5.out, HB5.out⟩
    case measure => simp [intOf]; omega
   ·have q4 : (((by_ s k).toNat : Int) == 9) = false := by simp; omega
    rw [esc_no h1 h2 h3 h4] at E
    have hm1 : (qpre s k).length + 1 <= maxLen := by omega
    clear h1 h2 h3 h4
    go_wp2_with (first
     | (at_builtin; refine wpList_append_own _ rfl _ _ 40 rfl w.heap.size 5 i0 (.int .u8 0) 1 1 Tryz.underlying40 hi0 hz0 hz1 hz2 rfl (by decide) _ _ _ rfl (HO.out.alloc _) ⟨wr.heap.size, 0, none⟩ 1 1 [.int .u8 ((by_ s k).toNat : Int)] rfl rfl (one_new _ _ _) (by intro u hu; simp at hu; subst hu; rfl) hm1 (by omega) (by rw [World.size_alloc]; omega) ?_)
     | fail)
    intro v' w5 hv hgrow _
    have HO5 : Hid (Own w5 w.heap.size v' (qpre s (k + 1))) := zz (by rw [E.out]; exact Own.one hv)
    have HB5 := zz ((HB.out.alloc hsz _).grown hgrow (by rw [World.size_alloc]; omega) (own_block HO.out))
    clear hv hgrow HO HB
    go_wp2
    go_roundw
    case rel => exact ⟨k + 1, by omega, by go_num, HO5.out, HB5.out⟩
    case measure => simp [intOf]; omega
  ·have e : k = s.size := by omega
   subst e
   have hm1 : (qpre s s.size).length + 1 <= maxLen := by omega
   go_wp2_with (first
    | (at_builtin; refine wpList_append_own _ rfl _ _ 40 rfl w.heap.size 5 i0 (.int .u8 0) 1 1 Tryz.underlying40 hi0 hz0 hz1 hz2 rfl (by decide) _ _ _ rfl (HO.out.alloc _) ⟨wr.heap.size, 0, none⟩ 1 1 [.int .u8 34] rfl rfl (one_new _ _ _) (by intro u hu; simp at hu; subst hu; rfl) hm1 (by omega) (by rw [World.size_alloc]; omega) ?_)
    | fail)
   intro v' w5 hv hgrow _
   have hO5 : Own w5 w.heap.size v' (quo s.data.toList) := by rw [<- qpre_end]; exact Own.one (c := 34) hv
   have hcv := own_conv hO5
   have HB5 := zz ((HB.out.alloc hsz _).grown hgrow (by rw [World.size_alloc]; omega) (own_block HO.out))
   clear hv hgrow HO HB hO5
   go_wp2
   go_ret
   exact ⟨rfl, HB5.out⟩
end
section
open Go.RowKit
variable {S : Nat -> Prop} {b : Bool} {m : Md} {t : Tr} {ts : List Tr} {v : Value} {w : World} {x : List UInt8}
theorem cat_is {a b : ByteArray} {y p : List UInt8} (W : World) (ha : bs a = x) (hb : bs b = y) (hp : p = x ++ y) (hl : x.length + y.length <= 9223372036854775807) : (Op.stringOp .add a b).run Tryz.prog W = .ok (.string ⟨p.toArray⟩) W := by
 have h1 : a.size = x.length := by rw [<- ha]; exact Array.length_toList.symm
 have h2 : b.size = y.length := by rw [<- hb]; exact Array.length_toList.symm
 rw [run_string_add_sum W a b (by omega)]
 obtain ⟨⟨a⟩⟩ := a
 obtain ⟨⟨b⟩⟩ := b
 have e1 : a = x := ha
 have e2 : b = y := hb
 subst e1 e2 hp
 exact congrArg (fun s => Result.ok (Value.string s) W) (ByteArray.mk_append_mk a b)
theorem cte (a b : ByteArray) (x y : List UInt8) (ha : bs a = x) (hb : bs b = y) (hl : x.length + y.length <= 9223372036854775807) : ∃ p : List UInt8, (∀ W' : World, (Op.stringOp .add a b).run Tryz.prog W' = .ok (.string ⟨p.toArray⟩) W') /\ Hid (p = x ++ y) := ⟨_, fun W' => cat_is W' ha hb rfl hl, zz rfl⟩
theorem ret_str {a b : List UInt8} (h : a = b) : Ending.returned (.string ⟨a.toArray⟩) = Ending.returned (.string ⟨b.toArray⟩) := by rw [h]
theorem ret_bs {a : ByteArray} {b : List UInt8} (h : bs a = b) : Ending.returned (.string a) = Ending.returned (.string ⟨b.toArray⟩) := by
 subst h
 rfl
def Tells (t : Tr) : Prop := ∀ {w : World} {v : Value} {m : Md} {S : Nat -> Prop}, Kids w m S v t.ks -> (∀ i, S i -> i < w.heap.size) -> (te t).length <= 140737488355328 -> Calls Tryz.prog 92 #[nv t.f v] w fun e w' => e = .returned (.string ⟨(te t).toArray⟩) /\ Below w.heap.size w w'
theorem rheld_is (hx : x = brk b (te t)) (hl : x.length <= 140737488355328) (hE : Tells t) (hK : Kids w m S v t.ks) (hN : ∀ i, S i -> i < w.heap.size) :
 Calls Tryz.prog 120 #[nv t.f v, .bool b] w fun e w' => e = .returned (.string ⟨x.toArray⟩) /\ Below w.heap.size w w' := by
 have HN := zz hN
 have HKv := zz hK
 clear hN hK
 obtain ⟨Av, cv, bv, ov, rfl, h1_, h2_, h3_⟩ := HKv.out.form
 clear h1_ h2_ h3_
 unfold nv
 cases b
 ·replace hx : x = te t := hx
  have HX0 := zz hx
  have HL := zz hl
  have HB0 := zz (Below.refl w.heap.size w)
  clear hx hl
  go_enter Tryz.func120, Tryz.ntmps120
  go_wp2_with fail
  obtain ⟨w1, hw1, HB, HXb, hs1⟩ := jb w t.f (.slice Av t.ks.length cv)
  rw [hw1]
  clear hw1
  have hz1 := (HB.out).size
  have HB1 := bt2 HB0 HB.out
  clear HB0
  clear HB
  refine (hE (w := w1) (m := m) (S := S) (HKv.out.below HB1.out HN.out) (fun i hi => by have := HN.out i hi; have := HB1.out.size; omega) (by have h := HL.out; rw [HX0.out] at h; (try simp only [List.length_append, List.length_cons, List.length_nil] at h |-); omega)).mono ?_
  rintro e w2 ⟨rfl, b⟩
  have hz2 := (b).size
  have HB2 := bt2 HB1 b
  replace HXb := bx HXb b
  clear HB1
  clear b
  have E := zz (show te t = x by rw [HX0.out]; first | done | simp only [List.append_assoc])
  go_wp2
  go_ret
  exact ⟨ret_str E.out, HB2.out⟩
 ·replace hx : x = [40] ++ te t ++ [41] := hx
  have HX0 := zz hx
  have HL := zz hl
  have HB0 := zz (Below.refl w.heap.size w)
  clear hx hl
  go_enter Tryz.func120, Tryz.ntmps120
  go_wp2_with fail
  obtain ⟨w1, hw1, HB, HXb, hs1⟩ := jb w t.f (.slice Av t.ks.length cv)
  rw [hw1]
  clear hw1
  have hz1 := (HB.out).size
  have HB1 := bt2 HB0 HB.out
  clear HB0
  clear HB
  refine (hE (w := w1) (m := m) (S := S) (HKv.out.below HB1.out HN.out) (fun i hi => by have := HN.out i hi; have := HB1.out.size; omega) (by have h := HL.out; rw [HX0.out] at h; (try simp only [List.length_append, List.length_cons, List.length_nil] at h |-); omega)).mono ?_
  rintro e w2 ⟨rfl, b⟩
  have hz2 := (b).size
  have HB2 := bt2 HB1 b
  replace HXb := bx HXb b
  clear HB1
  clear b
  obtain ⟨p1, g1, HP1⟩ := cte ⟨#[40]⟩ ⟨(te t).toArray⟩ [40] (te t) rfl rfl (by have h := HL.out; rw [HX0.out] at h; (try simp only [List.length_append, List.length_cons, List.length_nil] at h |-); omega)
  obtain ⟨p2, g2, HP2⟩ := cte ⟨p1.toArray⟩ ⟨#[41]⟩ _ [41] HP1.out rfl (by have h := HL.out; rw [HX0.out] at h; (try simp only [List.length_append, List.length_cons, List.length_nil] at h |-); omega)
  have E := zz (show p2 = x by rw [HP2.out, HX0.out]; first | done | simp only [List.append_assoc])
  go_wp2
  go_ret
  exact ⟨ret_str E.out, HB2.out⟩
theorem rlist_is {va : Value} (hx : x = cm (ts.map te)) (hl : x.length <= 140737488355328) (hE : ∀ t ∈ ts, Tells t) (hK : Lst w m S va ts) (hN : ∀ i, S i -> i < w.heap.size) :
 Calls Tryz.prog 122 #[va] w fun e w' => e = .returned (.string ⟨x.toArray⟩) /\ Below w.heap.size w w' := by
 obtain ⟨A, ca, ba, oa, rfl, hla, hcap, hA, hra⟩ := hK
 have HA := zz hA
 have HR := zz hra
 have HE := zz hE
 have HN := zz hN
 have HX0 := zz hx
 have HL := zz hl
 clear hA hra hE hN hcap hx hl
 go_enter Tryz.func122, Tryz.ntmps122
 go_wp2
 go_loopw [3, 4] (fun s i wr => ∃ (k : Nat) (y : List UInt8), k <= ts.length /\ i = .int .i64 k /\ s = .string ⟨y.toArray⟩ /\ Below w.heap.size w wr /\ y = cm ((ts.map te).take k)) (fun _ i _ => ts.length - (intOf i).toNat)
 case atStart => exact ⟨0, [], Nat.zero_le _, rfl, rfl, Below.refl _ _, rfl⟩
 case round =>
  obtain ⟨k, y, hk, rfl, rfl, hbw, hy⟩ := hrel
  have hsz := hbw.size
  have HBW := zz hbw
  have HY := zz hy
  clear hbw hy
  by_cases hkl : k < ts.length
  rotate_left
  ·have E := zz (show y = x by rw [HY.out, HX0.out, List.take_of_length_le (by simp; omega)])
   go_wp2
   go_ret
   exact ⟨ret_str E.out, HBW.out⟩
  have i0 : (0 : Int) <= (k : Int) := by omega
  have i1 : (k : Int) < (ts.length : Int) := by omega
  obtain ⟨hA1, hb⟩ := HA.out (by omega)
  subst hA1
  obtain ⟨vk, HCk, HKk⟩ := Lst.at (HR.out.agree (Agree.of_below HBW.out HN.out) hb) k hkl
  obtain ⟨Ak, ck, bk, ok, rfl, h1_, h2_, h3_⟩ := HKk.out.form
  have HTK := zz (te_take hkl)
  have HLE := zz (show (cm ((ts.map te).take (k + 1))).length <= 140737488355328 by have h := HL.out; rw [HX0.out] at h; have := cm_le (ts.map te) (k + 1); omega)
  have k0 := HCk.out.cell
  clear h1_ h2_ h3_
  by_cases h0 : k = 0
  ·have q1 : ¬ (0 < k) := by omega
   have HT2 := zz (show cm ((ts.map te).take (k + 1)) = y ++ te ts[k] by rw [HTK.out, if_pos h0, HY.out]; simp)
   have HLT := zz (show (te ts[k]).length <= 140737488355328 by have h := HLE.out; rw [HT2.out] at h; simp only [List.length_append] at h; omega)
   obtain ⟨p, hp⟩ : ∃ p, p = y ++ te ts[k] := ⟨_, rfl⟩
   have g1 : ∀ W' : World, (Op.stringOp .add ⟨y.toArray⟩ ⟨(te ts[k]).toArray⟩).run Tryz.prog W' = .ok (.string ⟨p.toArray⟩) W' := fun W' => cat_is (x := y) (y := te ts[k]) W' rfl rfl hp (by have h := HLE.out; rw [HT2.out] at h; simp only [List.length_append] at h |-; omega)
   have HP := zz hp
   clear HTK h0 hp
   go_wp2_with fail
   refine (HE.out ts[k] (List.getElem_mem hkl) (w := wr) (m := m) (S := S) HKk.out (fun i hi => by have := HN.out i hi; omega) HLT.out).mono ?_
   rintro e w2 ⟨rfl, b⟩
   have HB2 := zz (HBW.out.trans (b.mono hsz))
   have HY2 := zz (show p = cm ((ts.map te).take (k + 1)) by rw [HT2.out, HP.out])
   clear b k0
   go_wp2
   go_roundw
   case rel => exact ⟨k + 1, p, by omega, by go_num, rfl, HB2.out, HY2.out⟩
   case measure => simp [intOf]; omega
  ·have q1 : 0 < k := by omega
   have HT2 := zz (show cm ((ts.map te).take (k + 1)) = y ++ [44, 32] ++ te ts[k] by rw [HTK.out, if_neg h0, HY.out])
   have HLT := zz (show (te ts[k]).length <= 140737488355328 by have h := HLE.out; rw [HT2.out] at h; simp only [List.length_append] at h; omega)
   obtain ⟨r, hr⟩ : ∃ p, p = y ++ [44, 32] := ⟨_, rfl⟩
   obtain ⟨p, hp⟩ : ∃ p, p = r ++ te ts[k] := ⟨_, rfl⟩
   have g1 : ∀ W' : World, (Op.stringOp .add ⟨y.toArray⟩ ⟨#[44, 32]⟩).run Tryz.prog W' = .ok (.string ⟨r.toArray⟩) W' := fun W' => cat_is (x := y) (y := [44, 32]) W' rfl rfl hr (by have h := HLE.out; rw [HT2.out] at h; simp only [List.length_append] at h |-; omega)
   have g2 : ∀ W' : World, (Op.stringOp .add ⟨r.toArray⟩ ⟨(te ts[k]).toArray⟩).run Tryz.prog W' = .ok (.string ⟨p.toArray⟩) W' := fun W' => cat_is (x := r) (y := te ts[k]) W' rfl rfl hp (by have h := HLE.out; rw [HT2.out, <- hr] at h; simp only [List.length_append] at h |-; omega)
   have HP := zz (show p = y ++ [44, 32] ++ te ts[k] by rw [hp, hr])
   clear HTK h0 hp hr
   go_wp2_with fail
   refine (HE.out ts[k] (List.getElem_mem hkl) (w := wr) (m := m) (S := S) HKk.out (fun i hi => by have := HN.out i hi; omega) HLT.out).mono ?_
   rintro e w2 ⟨rfl, b⟩
   have HB2 := zz (HBW.out.trans (b.mono hsz))
   have HY2 := zz (show p = cm ((ts.map te).take (k + 1)) by rw [HT2.out, HP.out])
   clear b k0
   go_wp2
   go_roundw
   case rel => exact ⟨k + 1, p, by omega, by go_num, rfl, HB2.out, HY2.out⟩
   case measure => simp [intOf]; omega
end
section
open Go.RowKit
variable {A : Option Addr} {S : Nat -> Prop} {a : Tr} {c d n : Nat} {f : Nd} {m : Md} {r : List Tr} {v : Value} {w : World} {x : List UInt8}
def TellsM (t : Tr) : Prop := ∀ {w : World} {v : Value} {m : Md} {S : Nat -> Prop}, Kids w m S v t.ks -> (∀ i, S i -> i < w.heap.size) -> (te t).length <= 140737488355328 -> Calls Tryz.prog 95 #[nv t.f v] w fun e w' => e = .returned (.string ⟨(te t).toArray⟩) /\ Below w.heap.size w w'
theorem short_6 (hx : x = cm (r.map te) ++ [32, 58, 61, 32] ++ te a) (hl : x.length <= 140737488355328) (hk : f.k = 6) (hn : f.n = (r.length : Int)) (hR : ∀ t ∈ r, Tells t) (hA : Tells a) (hK : Kids w m S v (r ++ [a])) (hN : ∀ i, S i -> i < w.heap.size) :
 Calls Tryz.prog 95 #[nv f v] w fun e w' => e = .returned (.string ⟨x.toArray⟩) /\ Below w.heap.size w w' := by
 have HE := zz hR
 have HN := zz hN
 have HQ := zz hn
 clear hR hN hn
 obtain ⟨bv, ov, cv, rfl, hcv, hlv, hbv, hn_a, hrr⟩ := hK.snoc
 have HRr := zz hrr
 obtain ⟨va, HCa, HKa⟩ := hn_a.cs
 obtain ⟨Aa, ca, ba, oa, rfl, h1_, h2_, h3_⟩ := HKa.out.form
 clear h1_ h2_ h3_ hK hn_a hrr
 unfold nv
 have i0 : (0 : Int) <= (r.length : Int) := by omega
 have i1 : (r.length : Int) < (r.length : Int) + 1 := by omega
 have i3 : r.length <= cv := by omega
 have i4 : (r.length : Int) <= (cv : Int) := by omega
 have q6 := yk hk
 clear hk
 have HX0 := zz hx
 have HL := zz hl
 have HB0 := zz (Below.refl w.heap.size w)
 clear hx hl
 obtain ⟨p1, g1, HP1⟩ := cte ⟨(cm (r.map te)).toArray⟩ ⟨#[32, 58, 61, 32]⟩ (cm (r.map te)) [32, 58, 61, 32] rfl rfl (by have h := HL.out; rw [HX0.out] at h; (try simp only [List.length_append] at h |-); omega)
 obtain ⟨p2, g2, HP2⟩ := cte ⟨p1.toArray⟩ ⟨(te a).toArray⟩ _ (te a) HP1.out rfl (by have h := HL.out; rw [HX0.out] at h; (try simp only [List.length_append] at h |-); omega)
 go_enter Tryz.func95, Tryz.ntmps95
 go_wp2_with fail
 obtain ⟨w1, hw1, HB, HXb, hs1⟩ := jb w f (.slice (some ⟨bv, ov, none⟩) (r.length + 1) cv)
 rw [hw1]
 clear hw1
 have hz1 := (HB.out).size
 have HB1 := bt2 HB0 HB.out
 clear HB0
 clear HB
 refine wp_region_held_drew (S := Below w1.heap.size w1) (by kernel_rfl) ?_ (fun zk => ?_)
 ·exact zd _
 apply tk 0 o85_ rfl (by kernel_rfl) (fun _ _ _ h => h) zk
 ·intro wq zq
  go_simp
  try rfl
 go_frame
 apply tk 1 o86_ rfl (by kernel_rfl) (fun _ _ _ h => h) zk
 ·intro wq zq
  have b0 := (HXb.out.below zq HXb.out.lt).cell
  go_simp
  try rfl
 go_frame
 apply tk 2 o87_ rfl (by kernel_rfl) (fun _ _ _ h => h) zk
 ·intro wq zq
  go_simp
  try rfl
 go_frame
 apply tk 3 o88_ rfl (by kernel_rfl) (fun _ _ _ h => h) zk
 ·intro wq zq
  have b0 := (HXb.out.below zq HXb.out.lt).cell
  rw [HQ.out] at b0
  go_simp
  try rfl
 go_frame
 apply tk 4 o89_ rfl (by kernel_rfl) (fun _ _ _ h => h) zk
 ·intro wq zq
  go_simp
  try rfl
 go_frame
 apply tk 7 o90_ rfl (by kernel_rfl) (fun _ _ _ h => h) zk
 ·intro wq zq
  go_simp
  try rfl
 go_frame
 apply tk 8 o91_ rfl (by kernel_rfl) (fun _ _ _ h => h) zk
 ·intro wq zq
  have b0 := (HXb.out.below zq HXb.out.lt).cell
  go_simp
  try rfl
 go_frame
 apply tk 9 o92_ rfl (by kernel_rfl) (fun _ _ _ h => h) zk
 ·intro wq zq
  go_simp
  try rfl
 go_frame
 apply tk 10 o93_ rfl (by kernel_rfl) (fun _ _ _ h => h) zk
 ·intro wq zq
  have b0 := (HXb.out.below zq HXb.out.lt).cell
  rw [HQ.out] at b0
  go_simp
  try rfl
 go_frame
 apply tk 11 o94_ rfl (by kernel_rfl) (fun _ _ _ h => h) zk
 ·intro wq zq
  go_simp
  try rfl
 go_frame
 apply tk 12 o95_ rfl (by kernel_rfl) (fun _ _ _ h => h) zk
 ·intro wq zq
  have a0 := ((HCa.out.agree (Agree.of_below HB1.out HN.out) hbv).below zq (by have := HN.out bv hbv; have := HB1.out.size; omega)).cell
  go_simp
  try rfl
 go_frame
 refine rd 5 o96_ rfl (by kernel_rfl) fun K hK => ?_
 go_simp
 refine (rlist_is rfl (by have h := HL.out; rw [HX0.out] at h; (try simp only [List.length_append] at h |-); omega) HE.out (Lst.init hcv hlv hbv (HRr.out.agree (Agree.of_below (HB1.out.trans (zk.mono HB1.out.size)) HN.out) hbv)) (fun i hi => by have := HN.out i hi; have := HB1.out.size; have := zk.size; omega)).mono ?_
 rintro e w27 ⟨rfl, b27⟩
 have HB27 := bt2 (zz zk) b27
 clear b27
 go_wp2_with fail
 refine hK.out _ _ ?_ (fun zk => ?_)
 ·exact HB27.out
 clear hK K
 try go_frame
 apply tk 6 o97_ rfl (by kernel_rfl) (fun _ _ _ h => h) zk
 ·intro wq zq
  go_simp
  try rfl
 go_frame
 refine rd 13 o98_ rfl (by kernel_rfl) fun K hK => ?_
 go_simp
 refine (hA (m := m) (S := S) (HKa.out.below (HB1.out.trans (zk.mono HB1.out.size)) HN.out) (fun i hi => by have := HN.out i hi; have := HB1.out.size; have := zk.size; omega) (by have h := HL.out; rw [HX0.out] at h; (try simp only [List.length_append] at h |-); omega)).mono ?_
 rintro e w28 ⟨rfl, b28⟩
 have HB28 := bt2 (zz zk) b28
 clear b28
 go_wp2_with fail
 refine hK.out _ _ ?_ (fun zk => ?_)
 ·exact HB28.out
 clear hK K
 try go_frame
 apply tk 14 o99_ rfl (by kernel_rfl) (fun _ _ _ h => h) zk
 ·intro wq zq
  go_simp
  try rfl
 go_frame
 apply tk 15 o100_ rfl (by kernel_rfl) (fun _ _ _ h => h) zk
 ·intro wq zq
  go_simp
  try rfl
 go_frame
 refine wpAnyH_done (by kernel_rfl) ?_ _
 replace HB1 := bt2 HB1 zk
 replace HXb := bx HXb zk
 have E := zz (show p2 = x by rw [HP2.out, HX0.out]; first | done | simp only [List.append_assoc])
 go_wp2
 go_ret
 exact ⟨ret_str E.out, HB1.out⟩
theorem short_7 (hx : x = cm (r.map te) ++ [32, 61, 32] ++ te a) (hl : x.length <= 140737488355328) (hk : f.k = 7) (hn : f.n = (r.length : Int)) (hR : ∀ t ∈ r, Tells t) (hA : Tells a) (hK : Kids w m S v (r ++ [a])) (hN : ∀ i, S i -> i < w.heap.size) :
 Calls Tryz.prog 95 #[nv f v] w fun e w' => e = .returned (.string ⟨x.toArray⟩) /\ Below w.heap.size w w' := by
 have HE := zz hR
 have HN := zz hN
 have HQ := zz hn
 clear hR hN hn
 obtain ⟨bv, ov, cv, rfl, hcv, hlv, hbv, hn_a, hrr⟩ := hK.snoc
 have HRr := zz hrr
 obtain ⟨va, HCa, HKa⟩ := hn_a.cs
 obtain ⟨Aa, ca, ba, oa, rfl, h1_, h2_, h3_⟩ := HKa.out.form
 clear h1_ h2_ h3_ hK hn_a hrr
 unfold nv
 have i0 : (0 : Int) <= (r.length : Int) := by omega
 have i1 : (r.length : Int) < (r.length : Int) + 1 := by omega
 have i3 : r.length <= cv := by omega
 have i4 : (r.length : Int) <= (cv : Int) := by omega
 have q6 := nk 6 hk rfl
 have q7 := yk hk
 clear hk
 have HX0 := zz hx
 have HL := zz hl
 have HB0 := zz (Below.refl w.heap.size w)
 clear hx hl
 obtain ⟨p1, g1, HP1⟩ := cte ⟨(cm (r.map te)).toArray⟩ ⟨#[32, 61, 32]⟩ (cm (r.map te)) [32, 61, 32] rfl rfl (by have h := HL.out; rw [HX0.out] at h; (try simp only [List.length_append] at h |-); omega)
 obtain ⟨p2, g2, HP2⟩ := cte ⟨p1.toArray⟩ ⟨(te a).toArray⟩ _ (te a) HP1.out rfl (by have h := HL.out; rw [HX0.out] at h; (try simp only [List.length_append] at h |-); omega)
 go_enter Tryz.func95, Tryz.ntmps95
 go_wp2_with fail
 obtain ⟨w1, hw1, HB, HXb, hs1⟩ := jb w f (.slice (some ⟨bv, ov, none⟩) (r.length + 1) cv)
 rw [hw1]
 clear hw1
 have hz1 := (HB.out).size
 have HB1 := bt2 HB0 HB.out
 clear HB0
 clear HB
 refine wp_region_held_drew (S := Below w1.heap.size w1) (by kernel_rfl) ?_ (fun zk => ?_)
 ·exact zd _
 apply tk 0 o101_ rfl (by kernel_rfl) (fun _ _ _ h => h) zk
 ·intro wq zq
  go_simp
  try rfl
 go_frame
 apply tk 1 o102_ rfl (by kernel_rfl) (fun _ _ _ h => h) zk
 ·intro wq zq
  have b0 := (HXb.out.below zq HXb.out.lt).cell
  go_simp
  try rfl
 go_frame
 apply tk 2 o103_ rfl (by kernel_rfl) (fun _ _ _ h => h) zk
 ·intro wq zq
  go_simp
  try rfl
 go_frame
 apply tk 3 o104_ rfl (by kernel_rfl) (fun _ _ _ h => h) zk
 ·intro wq zq
  have b0 := (HXb.out.below zq HXb.out.lt).cell
  rw [HQ.out] at b0
  go_simp
  try rfl
 go_frame
 apply tk 4 o105_ rfl (by kernel_rfl) (fun _ _ _ h => h) zk
 ·intro wq zq
  go_simp
  try rfl
 go_frame
 apply tk 7 o106_ rfl (by kernel_rfl) (fun _ _ _ h => h) zk
 ·intro wq zq
  go_simp
  try rfl
 go_frame
 apply tk 8 o107_ rfl (by kernel_rfl) (fun _ _ _ h => h) zk
 ·intro wq zq
  have b0 := (HXb.out.below zq HXb.out.lt).cell
  go_simp
  try rfl
 go_frame
 apply tk 9 o108_ rfl (by kernel_rfl) (fun _ _ _ h => h) zk
 ·intro wq zq
  go_simp
  try rfl
 go_frame
 apply tk 10 o109_ rfl (by kernel_rfl) (fun _ _ _ h => h) zk
 ·intro wq zq
  have b0 := (HXb.out.below zq HXb.out.lt).cell
  rw [HQ.out] at b0
  go_simp
  try rfl
 go_frame
 apply tk 11 o110_ rfl (by kernel_rfl) (fun _ _ _ h => h) zk
 ·intro wq zq
  go_simp
  try rfl
 go_frame
 apply tk 12 o111_ rfl (by kernel_rfl) (fun _ _ _ h => h) zk
 ·intro wq zq
  have a0 := ((HCa.out.agree (Agree.of_below HB1.out HN.out) hbv).below zq (by have := HN.out bv hbv; have := HB1.out.size; omega)).cell
  go_simp
  try rfl
 go_frame
 refine rd 5 o112_ rfl (by kernel_rfl) fun K hK => ?_
 go_simp
 refine (rlist_is rfl (by have h := HL.out; rw [HX0.out] at h; (try simp only [List.length_append] at h |-); omega) HE.out (Lst.init hcv hlv hbv (HRr.out.agree (Agree.of_below (HB1.out.trans (zk.mono HB1.out.size)) HN.out) hbv)) (fun i hi => by have := HN.out i hi; have := HB1.out.size; have := zk.size; omega)).mono ?_
 rintro e w27 ⟨rfl, b27⟩
 have HB27 := bt2 (zz zk) b27
 clear b27
 go_wp2_with fail
 refine hK.out _ _ ?_ (fun zk => ?_)
 ·exact HB27.out
 clear hK K
 try go_frame
 apply tk 6 o113_ rfl (by kernel_rfl) (fun _ _ _ h => h) zk
 ·intro wq zq
  go_simp
  try rfl
 go_frame
 refine rd 13 o114_ rfl (by kernel_rfl) fun K hK => ?_
 go_simp
 refine (hA (m := m) (S := S) (HKa.out.below (HB1.out.trans (zk.mono HB1.out.size)) HN.out) (fun i hi => by have := HN.out i hi; have := HB1.out.size; have := zk.size; omega) (by have h := HL.out; rw [HX0.out] at h; (try simp only [List.length_append] at h |-); omega)).mono ?_
 rintro e w28 ⟨rfl, b28⟩
 have HB28 := bt2 (zz zk) b28
 clear b28
 go_wp2_with fail
 refine hK.out _ _ ?_ (fun zk => ?_)
 ·exact HB28.out
 clear hK K
 try go_frame
 apply tk 14 o115_ rfl (by kernel_rfl) (fun _ _ _ h => h) zk
 ·intro wq zq
  go_simp
  try rfl
 go_frame
 apply tk 15 o116_ rfl (by kernel_rfl) (fun _ _ _ h => h) zk
 ·intro wq zq
  go_simp
  try rfl
 go_frame
 refine wpAnyH_done (by kernel_rfl) ?_ _
 replace HB1 := bt2 HB1 zk
 replace HXb := bx HXb zk
 have E := zz (show p2 = x by rw [HP2.out, HX0.out]; first | done | simp only [List.append_assoc])
 go_wp2
 go_ret
 exact ⟨ret_str E.out, HB1.out⟩
theorem short_8p (hx : x = bs a.f.t ++ [43, 43]) (hl : x.length <= 140737488355328) (hk : f.k = 8) (hn : f.n = 1) (hK : Kids w m S v [a]) (hN : ∀ i, S i -> i < w.heap.size) :
 Calls Tryz.prog 95 #[nv f v] w fun e w' => e = .returned (.string ⟨x.toArray⟩) /\ Below w.heap.size w w' := by
 have HN := zz hN
 clear hN
 obtain ⟨bv, ov, cv, rfl, hcv, hbv, hn_a⟩ := hK.one1
 obtain ⟨va, HCa, HKa⟩ := hn_a.cs
 obtain ⟨Aa, ca, ba, oa, rfl, h1_, h2_, h3_⟩ := HKa.out.form
 clear h1_ h2_ h3_
 clear hK hn_a
 unfold nv
 have q6 := nk 6 hk rfl
 have q7 := nk 7 hk rfl
 have q8 := yk hk
 have qn := yk hn
 clear hk hn
 have HX0 := zz hx
 have HL := zz hl
 have HB0 := zz (Below.refl w.heap.size w)
 clear hx hl
 obtain ⟨p1, g1, HP1⟩ := cte a.f.t ⟨#[43, 43]⟩ (bs a.f.t) [43, 43] rfl rfl (by have h := HL.out; rw [HX0.out] at h; (try simp only [List.length_append] at h |-); omega)
 have hbs : bv < w.heap.size := HN.out bv hbv
 have a0 := al8 hbs HCa
 have HB := box1 w (.cells #[.int .i64 f.k, .string f.t, .int .i64 f.n, .string f.y, .int .i64 f.s, .int .i64 f.a, .int .i64 f.l, .slice (some ⟨bv, ov, none⟩) 1 cv] 25)
 go_enter Tryz.func95, Tryz.ntmps95
 have E := zz (show p1 = x by rw [HP1.out, HX0.out])
 go_wp2
 go_ret
 exact ⟨ret_str E.out, HB.out⟩
theorem short_8m (hx : x = bs a.f.t ++ [45, 45]) (hl : x.length <= 140737488355328) (hk : f.k = 8) (hn : ¬ f.n = 1) (hK : Kids w m S v [a]) (hN : ∀ i, S i -> i < w.heap.size) :
 Calls Tryz.prog 95 #[nv f v] w fun e w' => e = .returned (.string ⟨x.toArray⟩) /\ Below w.heap.size w w' := by
 have HN := zz hN
 clear hN
 obtain ⟨bv, ov, cv, rfl, hcv, hbv, hn_a⟩ := hK.one1
 obtain ⟨va, HCa, HKa⟩ := hn_a.cs
 obtain ⟨Aa, ca, ba, oa, rfl, h1_, h2_, h3_⟩ := HKa.out.form
 clear h1_ h2_ h3_
 clear hK hn_a
 unfold nv
 have q6 := nk 6 hk rfl
 have q7 := nk 7 hk rfl
 have q8 := yk hk
 have qn := beq_false_of_ne hn
 clear hk hn
 have HX0 := zz hx
 have HL := zz hl
 have HB0 := zz (Below.refl w.heap.size w)
 clear hx hl
 obtain ⟨p1, g1, HP1⟩ := cte a.f.t ⟨#[45, 45]⟩ (bs a.f.t) [45, 45] rfl rfl (by have h := HL.out; rw [HX0.out] at h; (try simp only [List.length_append] at h |-); omega)
 have hbs : bv < w.heap.size := HN.out bv hbv
 have a0 := al8 hbs HCa
 have HB := box1 w (.cells #[.int .i64 f.k, .string f.t, .int .i64 f.n, .string f.y, .int .i64 f.s, .int .i64 f.a, .int .i64 f.l, .slice (some ⟨bv, ov, none⟩) 1 cv] 25)
 go_enter Tryz.func95, Tryz.ntmps95
 have E := zz (show p1 = x by rw [HP1.out, HX0.out])
 go_wp2
 go_ret
 exact ⟨ret_str E.out, HB.out⟩
theorem short_9 {c : Tr} (hx : x = te a ++ [32, 60, 45, 32] ++ te c) (hl : x.length <= 140737488355328) (hk : f.k = 9) (hA : Tells a) (hC : Tells c) (hK : Kids w m S v [a, c]) (hN : ∀ i, S i -> i < w.heap.size) :
 Calls Tryz.prog 95 #[nv f v] w fun e w' => e = .returned (.string ⟨x.toArray⟩) /\ Below w.heap.size w w' := by
 have HN := zz hN
 clear hN
 obtain ⟨bv, ov, cv, rfl, hcv, hbv, hn_a, hn_c⟩ := hK.two2
 obtain ⟨va, HCa, HKa⟩ := hn_a.cs
 obtain ⟨Aa, ca, ba, oa, rfl, h1_, h2_, h3_⟩ := HKa.out.form
 clear h1_ h2_ h3_
 obtain ⟨vc, HCc, HKc⟩ := hn_c.cs
 obtain ⟨Ac, cc, bc, oc, rfl, h1_, h2_, h3_⟩ := HKc.out.form
 clear h1_ h2_ h3_
 clear hK hn_a hn_c
 unfold nv
 have q6 := nk 6 hk rfl
 have q7 := nk 7 hk rfl
 have q8 := nk 8 hk rfl
 have q9 := yk hk
 clear hk
 have HX0 := zz hx
 have HL := zz hl
 have HB0 := zz (Below.refl w.heap.size w)
 clear hx hl
 obtain ⟨p1, g1, HP1⟩ := cte ⟨(te a).toArray⟩ ⟨#[32, 60, 45, 32]⟩ (te a) [32, 60, 45, 32] rfl rfl (by have h := HL.out; rw [HX0.out] at h; (try simp only [List.length_append] at h |-); omega)
 obtain ⟨p2, g2, HP2⟩ := cte ⟨p1.toArray⟩ ⟨(te c).toArray⟩ _ (te c) HP1.out rfl (by have h := HL.out; rw [HX0.out] at h; (try simp only [List.length_append] at h |-); omega)
 go_enter Tryz.func95, Tryz.ntmps95
 go_wp2_with fail
 obtain ⟨w1, hw1, HB, HXb, hs1⟩ := jb w f (.slice (some ⟨bv, ov, none⟩) 2 cv)
 rw [hw1]
 clear hw1
 have hz1 := (HB.out).size
 have HB1 := bt2 HB0 HB.out
 clear HB0
 clear HB
 refine wp_region_held_drew (S := Below w1.heap.size w1) (by kernel_rfl) ?_ (fun zk => ?_)
 ·exact zd _
 apply tk 0 o117_ rfl (by kernel_rfl) (fun _ _ _ h => h) zk
 ·intro wq zq
  go_simp
  try rfl
 go_frame
 apply tk 1 o118_ rfl (by kernel_rfl) (fun _ _ _ h => h) zk
 ·intro wq zq
  have b0 := (HXb.out.below zq HXb.out.lt).cell
  go_simp
  try rfl
 go_frame
 apply tk 2 o119_ rfl (by kernel_rfl) (fun _ _ _ h => h) zk
 ·intro wq zq
  go_simp
  try rfl
 go_frame
 apply tk 3 o120_ rfl (by kernel_rfl) (fun _ _ _ h => h) zk
 ·intro wq zq
  have a0 := ((HCa.out.agree (Agree.of_below HB1.out HN.out) hbv).below zq (by have := HN.out bv hbv; have := HB1.out.size; omega)).cell
  go_simp
  try rfl
 go_frame
 apply tk 6 o121_ rfl (by kernel_rfl) (fun _ _ _ h => h) zk
 ·intro wq zq
  go_simp
  try rfl
 go_frame
 apply tk 7 o122_ rfl (by kernel_rfl) (fun _ _ _ h => h) zk
 ·intro wq zq
  have b0 := (HXb.out.below zq HXb.out.lt).cell
  go_simp
  try rfl
 go_frame
 apply tk 8 o123_ rfl (by kernel_rfl) (fun _ _ _ h => h) zk
 ·intro wq zq
  go_simp
  try rfl
 go_frame
 apply tk 9 o124_ rfl (by kernel_rfl) (fun _ _ _ h => h) zk
 ·intro wq zq
  have c0 := ((HCc.out.agree (Agree.of_below HB1.out HN.out) hbv).below zq (by have := HN.out bv hbv; have := HB1.out.size; omega)).cell
  go_simp
  try rfl
 go_frame
 refine rd 4 o125_ rfl (by kernel_rfl) fun K hK => ?_
 go_simp
 refine (hA (m := m) (S := S) (HKa.out.below (HB1.out.trans (zk.mono HB1.out.size)) HN.out) (fun i hi => by have := HN.out i hi; have := HB1.out.size; have := zk.size; omega) (by have h := HL.out; rw [HX0.out] at h; (try simp only [List.length_append] at h |-); omega)).mono ?_
 rintro e w27 ⟨rfl, b27⟩
 have HB27 := bt2 (zz zk) b27
 clear b27
 go_wp2_with fail
 refine hK.out _ _ ?_ (fun zk => ?_)
 ·exact HB27.out
 clear hK K
 try go_frame
 apply tk 5 o126_ rfl (by kernel_rfl) (fun _ _ _ h => h) zk
 ·intro wq zq
  go_simp
  try rfl
 go_frame
 refine rd 10 o127_ rfl (by kernel_rfl) fun K hK => ?_
 go_simp
 refine (hC (m := m) (S := S) (HKc.out.below (HB1.out.trans (zk.mono HB1.out.size)) HN.out) (fun i hi => by have := HN.out i hi; have := HB1.out.size; have := zk.size; omega) (by have h := HL.out; rw [HX0.out] at h; (try simp only [List.length_append] at h |-); omega)).mono ?_
 rintro e w28 ⟨rfl, b28⟩
 have HB28 := bt2 (zz zk) b28
 clear b28
 go_wp2_with fail
 refine hK.out _ _ ?_ (fun zk => ?_)
 ·exact HB28.out
 clear hK K
 try go_frame
 apply tk 11 o128_ rfl (by kernel_rfl) (fun _ _ _ h => h) zk
 ·intro wq zq
  go_simp
  try rfl
 go_frame
 apply tk 12 o129_ rfl (by kernel_rfl) (fun _ _ _ h => h) zk
 ·intro wq zq
  go_simp
  try rfl
 go_frame
 refine wpAnyH_done (by kernel_rfl) ?_ _
 replace HB1 := bt2 HB1 zk
 replace HXb := bx HXb zk
 have E := zz (show p2 = x by rw [HP2.out, HX0.out]; first | done | simp only [List.append_assoc])
 go_wp2
 go_ret
 exact ⟨ret_str E.out, HB1.out⟩
theorem short_10 (hx : x = te a) (hl : x.length <= 140737488355328) (hk : f.k = 10) (hA : Tells a) (hK : Kids w m S v [a]) (hN : ∀ i, S i -> i < w.heap.size) :
 Calls Tryz.prog 95 #[nv f v] w fun e w' => e = .returned (.string ⟨x.toArray⟩) /\ Below w.heap.size w w' := by
 have HN := zz hN
 clear hN
 obtain ⟨bv, ov, cv, rfl, hcv, hbv, hn_a⟩ := hK.one1
 obtain ⟨va, HCa, HKa⟩ := hn_a.cs
 obtain ⟨Aa, ca, ba, oa, rfl, h1_, h2_, h3_⟩ := HKa.out.form
 clear h1_ h2_ h3_
 clear hK hn_a
 unfold nv
 have q6 := nk 6 hk rfl
 have q7 := nk 7 hk rfl
 have q8 := nk 8 hk rfl
 have q9 := nk 9 hk rfl
 have q10 := yk hk
 clear hk
 have HX0 := zz hx
 have HL := zz hl
 have HB0 := zz (Below.refl w.heap.size w)
 clear hx hl
 have hbs : bv < w.heap.size := HN.out bv hbv
 have a0 := al8 hbs HCa
 go_enter Tryz.func95, Tryz.ntmps95
 go_wp2_with fail
 obtain ⟨w1, hw1, HB, HXb, hs1⟩ := jb w f (.slice (some ⟨bv, ov, none⟩) 1 cv)
 rw [hw1]
 clear hw1
 have hz1 := (HB.out).size
 have HB1 := bt2 HB0 HB.out
 clear HB0 a0
 clear HB
 refine (hA (m := m) (S := S) (HKa.out.below HB1.out HN.out) (fun i hi => by have := HN.out i hi; have := HB1.out.size; omega) (by have h := HL.out; rw [HX0.out] at h; (try simp only [List.length_append] at h |-); omega)).mono ?_
 rintro e w2 ⟨rfl, b⟩
 have hz2 := (b).size
 have HB2 := bt2 HB1 b
 replace HXb := bx HXb b
 clear HB1
 clear b
 have E := zz (show te a = x by rw [HX0.out]; first | done | simp only [List.append_assoc])
 go_wp2
 go_ret
 exact ⟨ret_str E.out, HB2.out⟩
theorem short_0 (hk : f.k = 0) :
 Calls Tryz.prog 95 #[nv f (.slice A n c)] w fun e w' => e = .returned (.string ⟨([] : List UInt8).toArray⟩) /\ Below w.heap.size w w' := by
 unfold nv
 have q6 := nk 6 hk rfl
 have q7 := nk 7 hk rfl
 have q8 := nk 8 hk rfl
 have q9 := nk 9 hk rfl
 have q10 := nk 10 hk rfl
 clear hk
 have HB := box1 w (.cells #[.int .i64 f.k, .string f.t, .int .i64 f.n, .string f.y, .int .i64 f.s, .int .i64 f.a, .int .i64 f.l, .slice A n c] 25)
 go_enter Tryz.func95, Tryz.ntmps95
 go_wp2
 go_ret
 exact ⟨rfl, HB.out⟩
theorem rtabs_is (hd : d <= 1000000) :
 Calls Tryz.prog 37 #[.int .i64 (d : Int)] w fun e w' => e = .returned (.string ⟨(tbs d).toArray⟩) /\ Below w.heap.size w w' := by
 go_enter Tryz.func37, Tryz.ntmps37
 go_wp2
 go_loopw [3, 4] (fun s i wr => ∃ (k : Nat) (y : List UInt8), k <= d /\ i = .int .i64 k /\ s = .string ⟨y.toArray⟩ /\ wr = w /\ y = tbs k) (fun _ i _ => d - (intOf i).toNat)
 case atStart => exact ⟨0, [], Nat.zero_le _, rfl, rfl, rfl, rfl⟩
 case round =>
  obtain ⟨k, y, hk, rfl, rfl, rfl, hy⟩ := hrel
  have HY := zz hy
  clear hy
  by_cases hkl : k < d
  ·have q : decide ((k : Int) < (d : Int)) = true := decide_eq_true (by omega)
   obtain ⟨p, hp⟩ : ∃ p, p = y ++ [9] := ⟨_, rfl⟩
   have g1 : ∀ W' : World, (Op.stringOp .add ⟨y.toArray⟩ ⟨#[9]⟩).run Tryz.prog W' = .ok (.string ⟨p.toArray⟩) W' := fun W' => cat_is (x := y) (y := [9]) W' rfl rfl hp (by rw [HY.out, tbs, List.length_replicate]; show k + 1 <= _; omega)
   have HY2 := zz (show p = tbs (k + 1) by rw [hp, HY.out, tbs_succ])
   clear hp
   go_wp2
   go_roundw
   case rel => exact ⟨k + 1, p, by omega, by go_num, rfl, by trivial, HY2.out⟩
   case measure => simp [intOf]; omega
  ·have q : decide ((k : Int) < (d : Int)) = false := decide_eq_false (by omega)
   obtain rfl : k = d := by omega
   go_wp2
   go_ret
   exact ⟨ret_str HY.out, Below.refl _ _⟩
end
end Go.Proofs.YtmdhjiammcpogaaGreatDoor
