import Derived.Lib.AppendStr
import Derived.Lib.UnsafeStr
import Derived.Shelf.Strconv.Itoa4
import Derived.Lib.AppendIntMem
import Derived.Lib.AtoiErrMem
import Derived.WalkSmall
import Derived.Lib.ItoaLen
import Derived.Test.YtmdhjiammcpogaaGreatDoorQ11
namespace Go.Proofs.YtmdhjiammcpogaaGreatDoor
set_option maxRecDepth 100000
set_option maxHeartbeats 16000000
section
open Go.RowKit
variable {N W : Nat} {s : ByteArray} {tb : Int} {w w' : World}
theorem bSize : (Tryz.prog.info? 42).map (·.size) = some 2 := by kernel_rfl
theorem bLies : liesAt Tryz.prog Tryz.prog.depth 44 (3 / Tryz.prog.cellsOf 44) 0 42 1 = true := by kernel_rfl
theorem bcheck_used (b : Nat) (w : World) (h0 : w.cell? ⟨b, 0, none⟩ = some (.pointer (some ⟨b, 0, none⟩))) :
 Calls Tryz.prog 90 #[.pointer (some ⟨b, 0, none⟩)] w fun e w' => e = .returned (.tuple #[]) /\ w' = w := by
 obtain ⟨j, hj, _⟩ := Option.map_eq_some_iff.1 bSize
 go_enter Tryz.func90, Tryz.ntmps90
 go_wp2
 rw [Lib.run_neq_ptr_same w _ Tryz.underlying39 hj]
 go_wp2
 go_end0
 exact ⟨rfl, rfl⟩
theorem bcheck_fresh (b : Nat) (w : World) (h0 : w.cell? ⟨b, 0, none⟩ = some (.pointer none)) (hsh : w.shape? b = some (44, 3)) (hfz : w.frozen? ⟨b, 0, none⟩ = false) :
 Calls Tryz.prog 90 #[.pointer (some ⟨b, 0, none⟩)] w fun e w' => e = .returned (.tuple #[]) /\ w' = w.setCell ⟨b, 0, none⟩ (.pointer (some ⟨b, 0, none⟩)) := by
 obtain ⟨j, hj, hjs⟩ := Option.map_eq_some_iff.1 bSize
 go_enter Tryz.func90, Tryz.ntmps90
 go_wp2
 rw [Lib.run_to_unsafe w ⟨b, 0, none⟩ Tryz.underlying39 Tryz.underlying94 hj (by rw [hjs]; decide) hsh (Nat.zero_lt_succ 2)]
 simp only [Result.andThen]
 rw [Oper.upon_value]
 go_wp2
 rw [run_callFunc_extern Tryz.func110 (by kernel_rfl) (by kernel_rfl) (by kernel_rfl) (e := Extern.AbiNoEscape.same) (by kernel_rfl)]
 rw [Lib.run_noEscape]
 simp only [Result.andThen]
 rw [Oper.upon_value]
 go_wp2
 rw [Lib.run_from_unsafe w ⟨b, 0, none⟩ Tryz.underlying94 Tryz.underlying39 hj hsh bLies]
 simp only [Result.andThen]
 rw [Oper.upon_value]
 go_wp2
 go_end0
 exact ⟨rfl, rfl⟩
structure Fx (N W : Nat) (w w' : World) : Prop where
 os : w'.os = w.os
 tape : w'.tape = w.tape
 output : w'.output = w.output
 size : w.heap.size <= w'.heap.size
 low : ∀ i, i < N -> w'.heap[i]? = w.heap[i]?
 blk : ∀ i cs T fz, i ≠ W -> T ≠ 5 -> w.heap[i]? = some (.cells cs T fz) -> w'.heap[i]? = w.heap[i]?
theorem Fx.refl (N W : Nat) (w : World) : Fx N W w w := ⟨rfl, rfl, rfl, Nat.le_refl _, fun _ _ => rfl, fun _ _ _ _ _ _ _ => rfl⟩
theorem Fx.trans {N W : Nat} {a b c : World} (h : Fx N W a b) (k : Fx N W b c) : Fx N W a c :=
 ⟨k.os.trans h.os, k.tape.trans h.tape, k.output.trans h.output, Nat.le_trans h.size k.size, fun i hi => (k.low i hi).trans (h.low i hi), fun i cs T fz h1 h2 h3 => (k.blk i cs T fz h1 h2 ((h.blk i cs T fz h1 h2 h3).trans h3)).trans (h.blk i cs T fz h1 h2 h3)⟩
theorem Fx.of_below (h : Below w.heap.size w w') (hN : N <= w.heap.size) : Fx N W w w' :=
 ⟨h.os, h.tape, h.output, h.size, fun i hi => h.block i (by omega), fun i cs T fz _ _ h3 => h.block i (Array.getElem?_eq_some_iff.1 h3).1⟩
theorem Fx.below (h : Fx N W w w') : Below N w w' := ⟨h.os, h.tape, h.output, h.size, h.low⟩
structure Wr (N W : Nat) (acc : List UInt8) (tb : Int) (w : World) : Prop where
 le : N <= W
 blk : ∃ p v, (p = .pointer none ∨ p = .pointer (some ⟨W, 0, none⟩)) /\ w.heap[W]? = some (.cells #[p, v, .int .i64 tb] 44 (0, 0)) /\ w.ownsRow N 5 1 v acc.length (Lib.byteCells acc) /\ (acc = [] -> v = .slice none 0 0)
theorem Wr.lt {acc : List UInt8} (h : Wr N W acc tb w) : W < w.heap.size := by
 obtain ⟨p, v, _, h1, _⟩ := h.blk
 exact (Array.getElem?_eq_some_iff.1 h1).1
theorem Wr.nle {acc : List UInt8} (h : Wr N W acc tb w) : N <= w.heap.size := by
 have := h.lt
 have := h.le
 omega
theorem Wr.below {acc : List UInt8} (h : Wr N W acc tb w) (hb : Below w.heap.size w w') : Wr N W acc tb w' := by
 have hl := h.lt
 obtain ⟨h0, p, v, h1, h2, h3, h4⟩ := h
 refine ⟨h0, p, v, h1, (hb.block W hl).trans h2, h3.kept (row := none) ⟨hb.os, hb.tape, hb.output, hb.size, fun k hk _ => hb.block k hk⟩ ?_, h4⟩
 cases v.ownBlock <;> simp
theorem ba_empty (h : s.data.toList = []) : s = ByteArray.empty := by
 obtain ⟨d⟩ := s
 have : d = #[] := by simpa using h
 subst this
 rfl
theorem infoW : (Tryz.prog.info? 5).map (fun i => (i.zero, i.size, i.bytes)) = some (some (.int .u8 0), 1, 1) := by kernel_rfl
theorem bcheck_is {acc : List UInt8} (h : Wr N W acc tb w) :
 Calls Tryz.prog 90 #[.pointer (some ⟨W, 0, none⟩)] w fun e w' => e = .returned (.tuple #[]) /\ Fx N W w w' /\ ∃ v, w'.heap[W]? = some (.cells #[.pointer (some ⟨W, 0, none⟩), v, .int .i64 tb] 44 (0, 0)) /\ w'.ownsRow N 5 1 v acc.length (Lib.byteCells acc) /\ (acc = [] -> v = .slice none 0 0) := by
 have hW := h.le
 obtain ⟨h0, p, v, h1, h2, h3, h4⟩ := h
 rcases h1 with rfl | rfl
 ·refine (bcheck_fresh W w (by simp [World.cell?, h2]) (by simp [World.shape?, h2]) (by simp [World.frozen?, h2])).mono ?_
  rintro e w' ⟨rfl, rfl⟩
  have hne : v.ownBlock ≠ some W := Lib.ownBlock_ne h3 h2 (by decide)
  refine ⟨rfl, ⟨rfl, rfl, rfl, by simp [World.setCell], fun i hi => Below.heap_setCell _ _ _ _ (by show i ≠ W; omega), fun i cs T fz g1 _ _ => Below.heap_setCell _ _ _ _ g1⟩, v, ?_, ?_, h4⟩
  ·simp [World.setCell, Array.getElem?_modify, h2]
  ·exact h3.kept (row := some W) ⟨rfl, rfl, rfl, by simp [World.setCell], fun k _ hk => Below.heap_setCell _ _ _ _ (fun e => hk (by simp [e]))⟩ (Or.inr hne)
 ·refine (bcheck_used W w (by simp [World.cell?, h2])).mono ?_
  rintro e w' ⟨rfl, rfl⟩
  exact ⟨rfl, Fx.refl _ _ _, v, h2, h3, h4⟩
theorem wstr_is {acc : List UInt8} (s : ByteArray) (h : Wr N W acc tb w) (hlen : acc.length + s.size <= 140737488355328) :
 Calls Tryz.prog 69 #[.pointer (some ⟨W, 0, none⟩), .string s] w fun e w' => e = .returned (.tuple #[.int .i64 s.size, .nilIface]) /\ Fx N W w w' /\ Wr N W (acc ++ s.data.toList) tb w' := by
 obtain ⟨i0, hi, hpa⟩ := Option.map_eq_some_iff.1 infoW
 simp only [Prod.mk.injEq] at hpa
 obtain ⟨hz0, hz1, hz2⟩ := hpa
 have hNw := h.nle
 have hNW := h.le
 have H := zz h
 clear h
 go_enter Tryz.func69, Tryz.ntmps69
 go_wp2_with fail
 refine (bcheck_is H.out).mono ?_
 rintro e w1 ⟨rfl, fx, v, hbk, hown, hnil⟩
 have HNIL := zz hnil
 clear hnil
 have hs1 := fx.size
 have HF := zz fx
 clear fx H
 have c1 : w1.cell? ⟨W, 1, none⟩ = some v := by rw [Lib.cell_of_heap hbk]; rfl
 have HBK := zz hbk
 have HOWN := zz hown
 clear hbk hown
 go_wp2_with (at_builtin; refine Lib.wpList_append_own_string _ rfl _ _ 40 9 rfl N 5 i0 Tryz.underlying40 Tryz.underlying9 hi hz0 hz1 hz2 _ _ _ rfl HOWN.out s rfl ?c3 ?c4 ?c5 ?_)
 case c3 => unfold maxLen; omega
 case c4 => omega
 case c5 => omega
 intro v' w2 hown' hgrow hnl
 have HNL := zz (show acc ++ s.data.toList = [] -> v' = .slice none 0 0 from fun e => hnl.2 (by
  obtain ⟨e1, e2⟩ := List.append_eq_nil_iff.1 e
  exact ⟨HNIL.out e1, ba_empty e2⟩))
 clear hnl
 have hlt : W < w1.heap.size := (Array.getElem?_eq_some_iff.1 HBK.out).1
 have hne : v.ownBlock ≠ some W := Lib.ownBlock_ne HOWN.out HBK.out (by decide)
 have hb2 : w2.heap[W]? = some (.cells #[.pointer (some ⟨W, 0, none⟩), v, .int .i64 tb] 44 (0, 0)) := by
  rw [hgrow.block W hlt (fun e => hne e.symm)]
  exact HBK.out
 have HF2 := zz (show Fx N W w1 w2 from ⟨hgrow.os, hgrow.tape, hgrow.output, hgrow.size, fun i hi => hgrow.block i (by omega) (fun e => by have := (HOWN.out.lt i e.symm).1; omega), fun i cs T fz g1 g2 g3 => hgrow.block i (Array.getElem?_eq_some_iff.1 g3).1 (fun e => Lib.ownBlock_ne HOWN.out g3 g2 e.symm)⟩)
 have d1 : w2.cell? ⟨W, 1, none⟩ = some v := by rw [Lib.cell_of_heap hb2]; rfl
 have f1 : w2.frozen? ⟨W, 1, none⟩ = false := Lib.frozen_of_heap hb2 1
 obtain ⟨ao, n', cap, rfl⟩ : ∃ ao n' cap, v' = .slice ao n' cap := by
  rcases hown'.2 with ⟨hv, _⟩ | ⟨g, cap, cur, hv, _⟩
  ·exact ⟨_, _, _, hv⟩
  ·exact ⟨_, _, _, hv⟩
 have HB2 := zz hb2
 have HO2 := zz hown'
 clear hb2 hown' hgrow c1 hne hlt
 go_wp2
 go_ret2
 have hb2 := HB2.out
 have hown' := HO2.out
 have hne' := Lib.ownBlock_ne hown' hb2 (by decide)
 refine ⟨rfl, HF.out.trans (HF2.out.trans ⟨rfl, rfl, rfl, by simp [World.setCell], fun i hi => Below.heap_setCell _ _ _ _ (by show i ≠ W; omega), fun i cs T fz g1 _ _ => Below.heap_setCell _ _ _ _ g1⟩), hNW, .pointer (some ⟨W, 0, none⟩), .slice ao n' cap, Or.inr rfl, ?_, ?_, HNL.out⟩
 ·simp [World.setCell, Array.getElem?_modify, hb2]
 ·rw [List.length_append, Lib.byteCells_append, Array.length_toList]
  exact hown'.kept (row := some W) ⟨rfl, rfl, rfl, by simp [World.setCell], fun k _ hk => Below.heap_setCell _ _ _ _ (fun e => hk (by simp [e]))⟩ (Or.inr hne')
theorem stb {N W : Nat} {u w w' : World} {acc : List UInt8} {tb : Int} (hN : N <= u.heap.size) (h : Hid (Fx N W u w)) (k : Hid (Wr N W acc tb w)) (b : Hid (Below w.heap.size w w')) : w.heap.size <= w'.heap.size /\ Hid (Fx N W u w') /\ Hid (Wr N W acc tb w') :=
 have i : N <= w.heap.size := Nat.le_trans hN h.out.size
 ⟨b.out.size, zz (h.out.trans (Fx.of_below b.out i)), zz (k.out.below b.out)⟩
theorem stf {N W : Nat} {u w w' : World} {acc : List UInt8} {tb : Int} (h : Hid (Fx N W u w)) (fx : Fx N W w w') (wr : Wr N W acc tb w') : w.heap.size <= w'.heap.size /\ Hid (Fx N W u w') /\ Hid (Wr N W acc tb w') := ⟨fx.size, zz (h.out.trans fx), zz wr⟩
end
section
open Go.RowKit
variable {N W c n : Nat} {tb : Int} {w : World} {x : List UInt8}
def Puts (N W : Nat) (tb : Int) (x : List UInt8) (g : FuncId) (args : Array Value) (w : World) : Prop := ∀ acc, Wr N W acc tb w -> acc.length + x.length <= 140737488355328 -> Calls Tryz.prog g args w fun e w' => e = .returned (.tuple #[]) /\ Fx N W w w' /\ Wr N W (acc ++ x) tb w'
abbrev fl (ps : List ByteArray) : List UInt8 := (ps.map fun s => s.data.toList).flatten
theorem fl_take {ps : List ByteArray} {k : Nat} (h : k < ps.length) : fl (ps.take (k + 1)) = fl (ps.take k) ++ ps[k].data.toList := by
 unfold fl
 rw [List.take_succ_eq_append_getElem h, List.map_append, List.flatten_append]
 simp
theorem fl_le {ps : List ByteArray} {k : Nat} (h : k < ps.length) : (fl (ps.take k)).length + ps[k].size <= (fl ps).length := by
 have h1 : ps = ps.take (k + 1) ++ ps.drop (k + 1) := (List.take_append_drop _ _).symm
 have h2 : (fl ps).length = (fl (ps.take (k + 1))).length + (fl (ps.drop (k + 1))).length := by
  unfold fl
  rw [<- List.length_append, <- List.flatten_append, <- List.map_append, List.take_append_drop]
 have h3 : (ps[k].data.toList).length = ps[k].size := Array.length_toList
 rw [h2, fl_take h, List.length_append, h3]
 omega
theorem put_is {bt : Nat} {ps : List ByteArray} (hl : ps.length <= 100) (hb : bt ≠ W) (hc : w.heap[bt]? = some (.cells (ps.map Value.string).toArray 9 (0, 0))) :
 Puts N W tb (fl ps) 31 #[.pointer (some ⟨W, 0, none⟩), .slice (some ⟨bt, 0, none⟩) ps.length c] w := by
 intro acc hw hlen
 have HW := zz hw
 have HC := zz hc
 have hp1 : ps.length <= 9223372036854775807 := by omega
 clear hw hc
 go_enter Tryz.func31, Tryz.ntmps31
 go_wp2
 go_loopw [8] (fun i wr => ∃ k : Nat, k <= ps.length /\ i = .int .i64 k /\ Fx N W w wr /\ Wr N W (acc ++ fl (ps.take k)) tb wr) (fun i _ => ps.length - (intOf i).toNat)
 case atStart => exact ⟨0, Nat.zero_le _, rfl, Fx.refl _ _ _, by simpa [fl] using HW.out⟩
 case round =>
  obtain ⟨k, hk, rfl, hfx, hwr⟩ := hrel
  have HFX := zz hfx
  have HWR := zz hwr
  clear hfx hwr
  by_cases hkl : k < ps.length
  ·have i0 : (0 : Int) <= (k : Int) := by omega
   have i1 : (k : Int) < (ps.length : Int) := by omega
   have c0 : wr.cell? ⟨bt, k, none⟩ = some (.string ps[k]) := by
    have h1 := (HFX.out.blk bt _ _ _ hb (by decide) HC.out).trans HC.out
    simp only [World.cell?, h1]
    simp [hkl]
   have HL := zz (fl_le hkl)
   have HT := zz (fl_take hkl)
   go_wp2_with fail
   refine (wstr_is ps[k] HWR.out (by have := HL.out; rw [List.length_append]; omega)).mono ?_
   rintro e w2 ⟨rfl, fx, wr2⟩
   have HF2 := zz (HFX.out.trans fx)
   have HW2 := zz (show Wr N W (acc ++ fl (ps.take (k + 1))) tb w2 by rw [HT.out, <- List.append_assoc]; exact wr2)
   clear fx wr2 c0
   go_wp2
   go_roundw
   case rel => exact ⟨k + 1, by omega, by go_num, HF2.out, HW2.out⟩
   case measure => simp [intOf]; omega
  ·have HE := zz (show ps.take k = ps from List.take_of_length_le (by omega))
   go_wp2
   go_end0
   exact ⟨rfl, HFX.out, by rw [<- HE.out]; exact HWR.out⟩
theorem zc {bt : Nat} {cs : Array Value} (ps : List ByteArray) (hx : fl ps = x) (hl : ps.length <= 100) (hbt : bt = w.heap.size) (hn : n = ps.length) (hcs : cs = (ps.map Value.string).toArray) {acc : List UInt8} (hw : Wr N W acc tb w) (hlen : acc.length + x.length <= 140737488355328) :
 Calls Tryz.prog 31 #[.pointer (some ⟨W, 0, none⟩), .slice (some ⟨bt, 0, none⟩) n c] (w.alloc (.cells cs 9)) fun e w' => e = .returned (.tuple #[]) /\ Fx N W w w' /\ Wr N W (acc ++ x) tb w' := by
 subst hbt hn hcs hx
 have hb := (Below.refl w.heap.size w).alloc (Nat.le_refl _) (.cells (ps.map Value.string).toArray 9)
 refine (put_is (N := N) (W := W) (tb := tb) (c := c) hl (by have := hw.lt; omega) (MapKept.heap_alloc w _).1 acc (hw.below hb) hlen).mono ?_
 rintro e w' ⟨rfl, fx, wr⟩
 exact ⟨rfl, (Fx.of_below hb hw.nle).trans fx, wr⟩
end
section
open Go.RowKit
theorem size_len (s : ByteArray) : s.size = s.data.toList.length := by rw [Array.length_toList]; rfl
end
section
open Go.Shelf
def layFI_ren : Go.Shelf.Ren := ⟨fun | 173 => 151 | 246 => 158 | 283 => 160 | 284 => 161 | 285 => 162 | 286 => 163 | 129 => 165 | 317 => 164 | 318 => 166 | 319 => 167 | 320 => 168 | 337 => 169 | 338 => 170 | n => n, fun | 2 => 2 | 3 => 3 | 9 => 9 | 4 => 4 | 171 => 112 | 0 => 0 | 53 => 113 | 37 => 40 | 5 => 5 | 173 => 116 | 212 => 120 | 51 => 121 | 20 => 20 | 213 => 122 | 46 => 123 | 232 => 126 | 233 => 127 | n => n, fun | 17 => 0 | 18 => 1 | 19 => 2 | n => n⟩
theorem layFI : Go.Proofs.LaysM.n173 Tryz.prog layFI_ren := {
 mixed := by kernel_rfl,
 f129 := Tryz.func165.trans (congrArg some (by kernel_rfl)),
 f173 := Tryz.func151.trans (congrArg some (by kernel_rfl)),
 f246 := Tryz.func158.trans (congrArg some (by kernel_rfl)),
 f283 := Tryz.func160.trans (congrArg some (by kernel_rfl)),
 f284 := Tryz.func161.trans (congrArg some (by kernel_rfl)),
 f285 := Tryz.func162.trans (congrArg some (by kernel_rfl)),
 f286 := Tryz.func163.trans (congrArg some (by kernel_rfl)),
 f317 := Tryz.func164.trans (congrArg some (by kernel_rfl)),
 f318 := Tryz.func166.trans (congrArg some (by kernel_rfl)),
 f319 := Tryz.func167.trans (congrArg some (by kernel_rfl)),
 f320 := Tryz.func168.trans (congrArg some (by kernel_rfl)),
 f337 := Tryz.func169.trans (congrArg some (by kernel_rfl)),
 f338 := Tryz.func170.trans (congrArg some (by kernel_rfl)),
 t0 := Tryz.underlying0,
 a0 := Tryz.isAgg0,
 z0 := Tryz.sizeOf0,
 v0 := Tryz.zeroValue0,
 t2 := Tryz.underlying2,
 a2 := Tryz.isAgg2,
 z2 := Tryz.sizeOf2,
 v2 := Tryz.zeroValue2,
 t3 := Tryz.underlying3,
 a3 := Tryz.isAgg3,
 z3 := Tryz.sizeOf3,
 v3 := Tryz.zeroValue3,
 t4 := Tryz.underlying4,
 a4 := Tryz.isAgg4,
 z4 := Tryz.sizeOf4,
 v4 := Tryz.zeroValue4,
 t5 := Tryz.underlying5,
 a5 := Tryz.isAgg5,
 z5 := Tryz.sizeOf5,
 v5 := Tryz.zeroValue5,
 t9 := Tryz.underlying9,
 a9 := Tryz.isAgg9,
 z9 := Tryz.sizeOf9,
 v9 := Tryz.zeroValue9,
 t20 := Tryz.underlying20,
 a20 := Tryz.isAgg20,
 z20 := Tryz.sizeOf20,
 v20 := Tryz.zeroValue20,
 t37 := Tryz.underlying40,
 a37 := Tryz.isAgg40,
 z37 := Tryz.sizeOf40,
 v37 := Tryz.zeroValue40,
 t46 := Tryz.underlying123,
 a46 := Tryz.isAgg123,
 z46 := Tryz.sizeOf123,
 v46 := Tryz.zeroValue123,
 t51 := Tryz.underlying121,
 a51 := Tryz.isAgg121,
 z51 := Tryz.sizeOf121,
 v51 := Tryz.zeroValue121,
 t53 := Tryz.underlying113,
 a53 := Tryz.isAgg113,
 z53 := Tryz.sizeOf113,
 v53 := Tryz.zeroValue113,
 t171 := Tryz.underlying112,
 a171 := Tryz.isAgg112,
 z171 := Tryz.sizeOf112,
 v171 := Tryz.zeroValue112,
 t173 := Tryz.underlying116,
 a173 := Tryz.isAgg116,
 z173 := Tryz.sizeOf116,
 v173 := Tryz.zeroValue116,
 t212 := Tryz.underlying120,
 a212 := Tryz.isAgg120,
 z212 := Tryz.sizeOf120,
 v212 := Tryz.zeroValue120,
 t213 := Tryz.underlying122,
 a213 := Tryz.isAgg122,
 z213 := Tryz.sizeOf122,
 t232 := Tryz.underlying126,
 a232 := Tryz.isAgg126,
 z232 := Tryz.sizeOf126,
 v232 := Tryz.zeroValue126,
 t233 := Tryz.underlying127,
 a233 := Tryz.isAgg127,
 z233 := Tryz.sizeOf127,
 v233 := Tryz.zeroValue127,
 g17 := by kernel_rfl,
 g18 := by kernel_rfl,
 g19 := by kernel_rfl,
 i0 := by kernel_rfl,
 i2 := by kernel_rfl,
 i3 := by kernel_rfl,
 i4 := by kernel_rfl,
 i5 := by kernel_rfl,
 i9 := by kernel_rfl,
 i20 := by kernel_rfl,
 i37 := by kernel_rfl,
 i46 := by kernel_rfl,
 i51 := by kernel_rfl,
 i53 := by kernel_rfl,
 i171 := by kernel_rfl,
 i173 := by kernel_rfl,
 i212 := by kernel_rfl,
 i232 := by kernel_rfl,
 i233 := by kernel_rfl,
 m17 := by kernel_rfl,
 m18 := by kernel_rfl,
 m19 := by kernel_rfl }
end
section
open Go.RowKit
variable {N : Nat} {w w' : World}
structure TabN (N : Nat) (w : World) : Prop where
 tab : Lib.TabIs Tryz.prog w "internal/strconv.uint64pow10" .u64 Lib.pow10Tab
 lt : ∀ g, Tryz.prog.globalNamed "internal/strconv.uint64pow10" = some g -> g < N
theorem gTabN : ∃ g, Tryz.prog.globalNamed "internal/strconv.uint64pow10" = some g := Option.isSome_iff_exists.1 (by kernel_rfl)
theorem TabN.below (h : TabN N w) (hb : Below N w w') : TabN N w' := by
 obtain ⟨g, hg⟩ := gTabN
 exact ⟨var?_below hb hg (h.lt g hg) h.tab, h.lt⟩
theorem int_tabN (n : Int) (h0 : -9223372036854775808 <= n) (h1 : n <= 9223372036854775807) (w : World) (h : TabN N w) :
 Calls Tryz.prog 151 #[.int .i64 n, .int .i64 10] w fun e w' => e = .returned (.string ⟨(Lib.itoa n).toArray⟩) /\ Below w.heap.size w w' :=
 (Any.strconv_FormatInt_10 layFI n h0 h1 w h.tab).mono (by
  rintro e w' ⟨rfl, k, os, rfl⟩
  exact ⟨rfl, Lib.below_grow _ w (Nat.le_refl _) k os⟩)
theorem wint_is (n : Int) (h0 : -9223372036854775808 <= n) (h1 : n <= 9223372036854775807) (w : World) (h : TabN N w) :
 Calls Tryz.prog 137 #[.int .i64 n] w fun e w' => e = .returned (.string ⟨(Lib.itoa n).toArray⟩) /\ Below w.heap.size w w' := by
 have HV := zz h
 clear h
 go_enter Tryz.func137, Tryz.ntmps137
 go_wp2_with fail
 refine (int_tabN n h0 h1 w HV.out).mono ?_
 rintro e w1 ⟨rfl, b1⟩
 have HB := zz b1
 clear b1
 go_wp2
 go_ret
 exact ⟨rfl, HB.out⟩
end
section
open Go.RowKit
variable {B N W : Nat} {S : Nat -> Prop} {a t : Tr} {b : Bool} {f : Nd} {m : Md} {r : List Tr} {tb : Int} {u v : Value} {w w' : World} {x : List UInt8}
theorem Box.fx (h : Box w B f v) (hx : Fx N W w w') (hB : B ≠ W) : Box w' B f v := ⟨(hx.blk B _ _ _ hB (by decide) h.blk).trans h.blk⟩
theorem fxx {N W B : Nat} {w w' : World} {f : Nd} {v : Value} (h : Hid (Box w B f v)) (hx : Fx N W w w') (hB : B ≠ W) : Hid (Box w' B f v) := zz (h.out.fx hx hB)
theorem Kids.one1 (h : Kids w m S v [a]) : ∃ bv ov cv, v = .slice (some ⟨bv, ov, none⟩) 1 cv /\ 1 <= cv /\ S bv /\ NodeAt w m S bv ov a := by
 obtain ⟨b, o, ⟨hh, _⟩, hr⟩ := h
 rcases hh with ⟨h0, _⟩ | ⟨_, h2, _, c, hn, e⟩
 ·simp at h0
 ·exact ⟨b, o, c, e, hn.2, h2, hr.1⟩
theorem Kids.two2 {c : Tr} (h : Kids w m S v [a, c]) : ∃ bv ov cv, v = .slice (some ⟨bv, ov, none⟩) 2 cv /\ 2 <= cv /\ S bv /\ NodeAt w m S bv ov a /\ NodeAt w m S bv (ov + 8) c := by
 obtain ⟨b, o, ⟨hh, _⟩, hr⟩ := h
 rcases hh with ⟨h0, _⟩ | ⟨_, h2, _, c, hn, e⟩
 ·simp at h0
 ·exact ⟨b, o, c, e, hn.2, h2, hr.1, hr.2.1⟩
theorem Kids.cons1 (h : Kids w m S v (a :: r)) : ∃ bv ov cv, v = .slice (some ⟨bv, ov, none⟩) (r.length + 1) cv /\ r.length + 1 <= cv /\ r.length + 1 <= 9223372036854775807 /\ S bv /\ NodeAt w m S bv ov a /\ RowAt w m S bv (ov + 8) r := by
 obtain ⟨b, o, ⟨hh, _⟩, hr⟩ := h
 rcases hh with ⟨h0, _⟩ | ⟨_, h2, _, c, hn, e⟩
 ·simp at h0
 ·exact ⟨b, o, c, e, hn.2, hn.1, h2, hr.1, hr.2⟩
def PutE (t : Tr) : Prop := ∀ {N W : Nat} {tb : Int} {w : World} {v : Value} {m : Md} {S : Nat -> Prop}, Kids w m S v t.ks -> (∀ i, S i -> i < N) -> TabN N w -> Puts N W tb (te t) 115 #[.pointer (some ⟨W, 0, none⟩), nv t.f v] w
theorem sgn_is (h : sgn f = b) (w : World) :
 Calls Tryz.prog 155 #[nv f u] w fun e w' => e = .returned (.bool b) /\ Below w.heap.size w w' := by
 obtain ⟨k, t, n, y, s, a, l⟩ := f
 unfold nv
 unfold sgn bs at h
 by_cases c0 : k = 26
 rotate_left
 ·have q0 := beq_false_of_ne c0
  have E := zz (show false = b by rw [<- h]; simp only [q0]; rfl)
  clear h c0
  go_enter Tryz.func155, Tryz.ntmps155
  go_wp2
  go_ret
  exact ⟨zb E.out, (box1 _ _).out⟩
 subst c0
 by_cases c1 : t.data.toList = [43]
 ·have q1 : (t.toList == [43]) = true := by rw [ByteArray.toList_eq, c1]; rfl
  have E := zz (show true = b by rw [<- h]; simp [c1])
  clear h c1
  go_enter Tryz.func155, Tryz.ntmps155
  go_wp2
  go_ret
  exact ⟨zb E.out, (box1 _ _).out⟩
 have q1 : (t.toList == [43]) = false := by rw [ByteArray.toList_eq]; exact beq_false_of_ne c1
 by_cases c2 : t.data.toList = [45]
 ·have q2 : (t.toList == [45]) = true := by rw [ByteArray.toList_eq, c2]; rfl
  have E := zz (show true = b by rw [<- h]; simp [c2])
  clear h c1 c2
  go_enter Tryz.func155, Tryz.ntmps155
  go_wp2
  go_ret
  exact ⟨zb E.out, (box1 _ _).out⟩
 have q2 : (t.toList == [45]) = false := by rw [ByteArray.toList_eq]; exact beq_false_of_ne c2
 have E := zz (show false = b by rw [<- h]; simp [c1, c2])
 clear h c1 c2
 go_enter Tryz.func155, Tryz.ntmps155
 go_wp2
 go_ret
 exact ⟨zb E.out, (box1 _ _).out⟩
theorem boolean_is (h : (if f.n = 1 then [116, 114, 117, 101] else [102, 97, 108, 115, 101]) = x) :
 Puts N W tb x 138 #[.pointer (some ⟨W, 0, none⟩), nv f v] w := by
 unfold nv
 by_cases c : f.n = 1
 ·have hx : x = [116, 114, 117, 101] := by rw [<- h, if_pos c]
  have q := yk c
  clear h c
  intro acc hw hlen
  have HW0 := zz hw
  have hWl := hw.lt
  have hNw := hw.nle
  have HX0 := zz (show x = [116, 114, 117, 101] from hx)
  have HL := zz hlen
  have HF0 := zz (Fx.refl N W w)
  clear hw hlen
  go_enter Tryz.func138, Tryz.ntmps138
  go_wp2_with fail
  obtain ⟨w1, hw1, HB, HXb, hs1⟩ := jb w f v
  rw [hw1]
  clear hw1
  obtain ⟨hz1, HF1, HW1⟩ := stb hNw HF0 HW0 HB
  clear HF0 HW0
  have hnb : w.heap.size ≠ W := by have := HF1.out.size; omega
  clear HB
  refine (zc (x := [116, 114, 117, 101]) [⟨#[116, 114, 117, 101]⟩] (by simp [fl]) (by simp) (by omega) rfl rfl HW1.out (by have h := HL.out; rw [HX0.out] at h; (try simp only [List.length_append] at h |-); omega)).mono ?_
  rintro e w2 ⟨rfl, fx, wr⟩
  obtain ⟨hz2, HF2, HW2⟩ := stf HF1 fx wr
  replace HXb := fxx HXb fx hnb
  clear HF1 HW1 fx wr
  go_wp2
  go_end0
  exact ⟨rfl, HF2.out, by rw [HX0.out]; first | exact HW2.out | simpa only [List.append_assoc] using HW2.out⟩
 ·have hx : x = [102, 97, 108, 115, 101] := by rw [<- h, if_neg c]
  have q := beq_false_of_ne c
  clear h c
  intro acc hw hlen
  have HW0 := zz hw
  have hWl := hw.lt
  have hNw := hw.nle
  have HX0 := zz (show x = [102, 97, 108, 115, 101] from hx)
  have HL := zz hlen
  have HF0 := zz (Fx.refl N W w)
  clear hw hlen
  go_enter Tryz.func138, Tryz.ntmps138
  go_wp2_with fail
  obtain ⟨w1, hw1, HB, HXb, hs1⟩ := jb w f v
  rw [hw1]
  clear hw1
  obtain ⟨hz1, HF1, HW1⟩ := stb hNw HF0 HW0 HB
  clear HF0 HW0
  have hnb : w.heap.size ≠ W := by have := HF1.out.size; omega
  clear HB
  refine (zc (x := [102, 97, 108, 115, 101]) [⟨#[102, 97, 108, 115, 101]⟩] (by simp [fl]) (by simp) (by omega) rfl rfl HW1.out (by have h := HL.out; rw [HX0.out] at h; (try simp only [List.length_append] at h |-); omega)).mono ?_
  rintro e w2 ⟨rfl, fx, wr⟩
  obtain ⟨hz2, HF2, HW2⟩ := stf HF1 fx wr
  replace HXb := fxx HXb fx hnb
  clear HF1 HW1 fx wr
  go_wp2
  go_end0
  exact ⟨rfl, HF2.out, by rw [HX0.out]; first | exact HW2.out | simpa only [List.append_assoc] using HW2.out⟩
theorem operand_is (hx : x = brk b (te t)) (hE : PutE t) (hK : Kids w m S v t.ks) (hN : ∀ i, S i -> i < N) (hT : TabN N w) :
 Puts N W tb x 154 #[.pointer (some ⟨W, 0, none⟩), nv t.f v, .bool b] w := by
 have HN := zz hN
 have HT := zz hT
 have HKV := zz hK
 clear hN hT hK
 obtain ⟨Av, cv, bv, ov, rfl, _, _, _⟩ := HKV.out.form
 unfold nv
 cases b
 ·replace hx : x = te t := hx
  intro acc hw hlen
  have HW0 := zz hw
  have hWl := hw.lt
  have hNw := hw.nle
  have HX0 := zz (show x = te t from hx)
  have HL := zz hlen
  have HF0 := zz (Fx.refl N W w)
  clear hw hlen
  go_enter Tryz.func154, Tryz.ntmps154
  go_wp2_with fail
  obtain ⟨w1, hw1, HB, HXb, hs1⟩ := jb w t.f (.slice Av t.ks.length cv)
  rw [hw1]
  clear hw1
  obtain ⟨hz1, HF1, HW1⟩ := stb hNw HF0 HW0 HB
  clear HF0 HW0
  have hnb : w.heap.size ≠ W := by have := HF1.out.size; omega
  clear HB
  refine (hE (N := N) (W := W) (tb := tb) (w := w1) (m := m) (S := S) (HKV.out.below HF1.out.below HN.out) HN.out (HT.out.below HF1.out.below) _ HW1.out (by have h := HL.out; rw [HX0.out] at h; (try simp only [List.length_append] at h |-); omega)).mono ?_
  rintro e w2 ⟨rfl, fx, wr⟩
  obtain ⟨hz2, HF2, HW2⟩ := stf HF1 fx wr
  replace HXb := fxx HXb fx hnb
  clear HF1 HW1 fx wr
  go_wp2
  go_end0
  exact ⟨rfl, HF2.out, by rw [HX0.out]; first | exact HW2.out | simpa only [List.append_assoc] using HW2.out⟩
 ·replace hx : x = [40] ++ te t ++ [41] := hx
  intro acc hw hlen
  have HW0 := zz hw
  have hWl := hw.lt
  have hNw := hw.nle
  have HX0 := zz (show x = [40] ++ te t ++ [41] from hx)
  have HL := zz hlen
  have HF0 := zz (Fx.refl N W w)
  clear hw hlen
  go_enter Tryz.func154, Tryz.ntmps154
  go_wp2_with fail
  obtain ⟨w1, hw1, HB, HXb, hs1⟩ := jb w t.f (.slice Av t.ks.length cv)
  rw [hw1]
  clear hw1
  obtain ⟨hz1, HF1, HW1⟩ := stb hNw HF0 HW0 HB
  clear HF0 HW0
  have hnb : w.heap.size ≠ W := by have := HF1.out.size; omega
  clear HB
  refine (zc (x := [40]) [⟨#[40]⟩] (by simp [fl]) (by simp) (by omega) rfl rfl HW1.out (by have h := HL.out; rw [HX0.out] at h; (try simp only [List.length_append] at h |-); omega)).mono ?_
  rintro e w2 ⟨rfl, fx, wr⟩
  obtain ⟨hz2, HF2, HW2⟩ := stf HF1 fx wr
  replace HXb := fxx HXb fx hnb
  clear HF1 HW1 fx wr
  have b0 := HXb.out.cell
  go_wp2_with fail
  refine (hE (N := N) (W := W) (tb := tb) (w := w2) (m := m) (S := S) (HKV.out.below HF2.out.below HN.out) HN.out (HT.out.below HF2.out.below) _ HW2.out (by have h := HL.out; rw [HX0.out] at h; (try simp only [List.length_append] at h |-); omega)).mono ?_
  rintro e w3 ⟨rfl, fx, wr⟩
  obtain ⟨hz3, HF3, HW3⟩ := stf HF2 fx wr
  replace HXb := fxx HXb fx hnb
  clear HF2 HW2 b0
  clear fx wr
  go_wp2_with fail
  refine (zc (x := [41]) [⟨#[41]⟩] (by simp [fl]) (by simp) (by omega) rfl rfl HW3.out (by have h := HL.out; rw [HX0.out] at h; (try simp only [List.length_append] at h |-); omega)).mono ?_
  rintro e w4 ⟨rfl, fx, wr⟩
  obtain ⟨hz4, HF4, HW4⟩ := stf HF3 fx wr
  replace HXb := fxx HXb fx hnb
  clear HF3 HW3 fx wr
  go_wp2
  go_end0
  exact ⟨rfl, HF4.out, by rw [HX0.out]; first | exact HW4.out | simpa only [List.append_assoc] using HW4.out⟩
end
section
open Go.RowKit
def vk (d : ByteArray) (k : Nat) : Nat := dval 0 (d.data.toList.take k)
end
section
open Go.RowKit
variable {N : Nat}
def Rest (N m : Nat) (l : List UInt8) : Prop := (m = 0 /\ l = Lib.decDigits N) ∨ (1 <= m /\ Lib.decDigits m ++ l = Lib.decDigits N)
theorem rest_start (h : 1 <= N) : Rest N N [] := Or.inr ⟨h, List.append_nil _⟩
theorem rest_end {l : List UInt8} (h : Rest N 0 l) : l = Lib.decDigits N := by
 rcases h with ⟨_, h⟩ | ⟨h, _⟩
 ·exact h
 ·omega
theorem rest_len {m : Nat} {l : List UInt8} (h : Rest N m l) : l.length <= (Lib.decDigits N).length := by
 rcases h with ⟨_, h⟩ | ⟨_, h⟩
 ·rw [h]; exact Nat.le_refl _
 ·rw [<- h, List.length_append]; omega
theorem rest_step {m : Nat} {l : List UInt8} (h : Rest N m l) (hm : 1 <= m) : Rest N (m / 10) (UInt8.ofNat (48 + m % 10) :: l) := by
 rcases h with ⟨h, _⟩ | ⟨_, h⟩
 ·omega
 ·rw [Lib.decDigits] at h
  by_cases h10 : m < 10
  ·rw [dif_pos h10] at h
   left
   refine ⟨by omega, ?_⟩
   rw [show m % 10 = m from by omega]
   exact h
  ·rw [dif_neg h10] at h
   right
   refine ⟨by omega, ?_⟩
   rw [<- h, List.append_assoc]
   rfl
theorem dec_len (n : Int) (h0 : -9223372036854775808 <= n) (h1 : n <= 9223372036854775807) : (Lib.decDigits n.natAbs).length <= 21 := by
 have h := Lib.itoa_length_le n h0 h1
 unfold Lib.itoa at h
 by_cases hn : n < 0
 ·rw [if_pos hn, List.length_cons] at h; omega
 ·rw [if_neg hn, show n.toNat = n.natAbs from by omega] at h; exact h
theorem conv_one (w : World) (m : Nat) : (convert 40 9 (.slice (some ⟨w.heap.size, 0, none⟩) 1 1)).run Tryz.prog (w.alloc (.cells #[.int .u8 (48 + (m : Int) % 10)] 5)) = .ok (.string ⟨#[UInt8.ofNat (48 + m % 10)]⟩) (w.alloc (.cells #[.int .u8 (48 + (m : Int) % 10)] 5)) := by
 refine run_convert_bytes_back _ 40 9 5 ⟨w.heap.size, 0, none⟩ 1 [UInt8.ofNat (48 + m % 10)] Tryz.underlying40 Tryz.underlying5 Tryz.underlying9 ?_
 intro j hj
 have e : j = 0 := by simp at hj; omega
 subst e
 simp only [List.getElem_cons_zero]
 rw [toNat_digit (m % 10) (by omega)]
 simp [Addr.add]
theorem conv_zero (w : World) : (convert 40 9 (.slice (some ⟨w.heap.size, 0, none⟩) 1 1)).run Tryz.prog (w.alloc (.cells #[.int .u8 48] 5)) = .ok (.string ⟨#[48]⟩) (w.alloc (.cells #[.int .u8 48] 5)) :=
 conv_one w 0
theorem cat_one (c : UInt8) (l : List UInt8) : (⟨#[c]⟩ : ByteArray) ++ (⟨l.toArray⟩ : ByteArray) = ⟨(c :: l).toArray⟩ := by
 ext1
 simp [ByteArray.data_append]
theorem cat_dig (m : Nat) (l : List UInt8) : Value.string ((⟨#[48 + UInt8.ofNat (m % 10)]⟩ : ByteArray) ++ (⟨l.toArray⟩ : ByteArray)) = Value.string ⟨(UInt8.ofNat (48 + m % 10) :: l).toArray⟩ := by
 rw [<- cat_one, UInt8.ofNat_add]
 rfl
theorem cat_zero (m : Nat) (h : m % 10 = 0) (l : List UInt8) : Value.string ((⟨#[48]⟩ : ByteArray) ++ (⟨l.toArray⟩ : ByteArray)) = Value.string ⟨(UInt8.ofNat (48 + m % 10) :: l).toArray⟩ := by
 rw [<- cat_one, h]
 rfl
theorem refint_pos (N : Nat) (hN : 1 <= N) (h1 : N <= 9223372036854775807) (w : World) :
 Calls Tryz.prog 118 #[.int .i64 ((N : Int))] w fun e w' => e = .returned (.string ⟨(Lib.itoa ((N : Int))).toArray⟩) /\ Below w.heap.size w w' := by
 have hl := dec_len ((N : Int)) (by omega) (by omega)
 rw [Int.natAbs_natCast] at hl
 have q0 : (((N : Int)) == 0) = false := beq_false_of_ne (by omega)
 have qn : decide (((N : Int)) < 0) = false := decide_eq_false (by omega)
 have HS := zz (rest_start hN)
 go_enter Tryz.func118, Tryz.ntmps118
 go_wp2
 go_loopw [0, 4] (fun n o wr => ∃ (m : Nat) (l : List UInt8), n = .int .i64 ((m : Int)) /\ m <= N /\ o = .string ⟨l.toArray⟩ /\ Rest N m l /\ Below w.heap.size w wr) (fun n _ _ => (intOf n).natAbs)
 case atStart => exact ⟨N, [], rfl, Nat.le_refl _, rfl, HS.out, Below.refl _ _⟩
 case round =>
  obtain ⟨m, l, rfl, hmN, rfl, hR, hB⟩ := hrel
  have hll := rest_len hR
  by_cases hm : m = 0
  ·have EI : Hid ((⟨l.toArray⟩ : ByteArray) = ⟨(Lib.itoa ((N : Int))).toArray⟩) := zz (by subst hm; rw [Lib.itoa_nonneg, rest_end hR])
   have qm : (((m : Int)) != 0) = false := by rw [hm]; rfl
   have HB := zz hB
   clear hR hB HS hm
   go_wp2
   go_ret
   exact ⟨congrArg (fun z => Ending.returned (.string z)) EI.out, HB.out⟩
  ·have qm : (((m : Int)) != 0) = true := by simp; omega
   have N1 := zz (rest_step hR (by omega))
   have hcv := conv_one wr m
   have CT := zz (cat_dig m l)
   have HB := zz (hB.alloc hB.size (.cells #[.int .u8 (48 + (m : Int) % 10)] 5))
   clear hR hB HS
   go_wp2
   go_roundw
   case rel => exact ⟨m / 10, _, by go_num, by omega, CT.out, N1.out, HB.out⟩
   case measure => simp [intOf]; omega
theorem refint_neg (N : Nat) (hN : 1 <= N) (h1 : N <= 9223372036854775808) (w : World) :
 Calls Tryz.prog 118 #[.int .i64 (-(N : Int))] w fun e w' => e = .returned (.string ⟨(Lib.itoa (-(N : Int))).toArray⟩) /\ Below w.heap.size w w' := by
 have hl := dec_len (-(N : Int)) (by omega) (by omega)
 rw [Int.natAbs_neg, Int.natAbs_natCast] at hl
 have q0 : ((-(N : Int)) == 0) = false := beq_false_of_ne (by omega)
 have qn : decide ((-(N : Int)) < 0) = true := decide_eq_true (by omega)
 have HS := zz (rest_start hN)
 go_enter Tryz.func118, Tryz.ntmps118
 go_wp2
 go_loopw [0, 4] (fun n o wr => ∃ (m : Nat) (l : List UInt8), n = .int .i64 (-(m : Int)) /\ m <= N /\ o = .string ⟨l.toArray⟩ /\ Rest N m l /\ Below w.heap.size w wr) (fun n _ _ => (intOf n).natAbs)
 case atStart => exact ⟨N, [], rfl, Nat.le_refl _, rfl, HS.out, Below.refl _ _⟩
 case round =>
  obtain ⟨m, l, rfl, hmN, rfl, hR, hB⟩ := hrel
  have hll := rest_len hR
  by_cases hm : m = 0
  ·have EI : Hid ((⟨#[45]⟩ : ByteArray) ++ (⟨l.toArray⟩ : ByteArray) = ⟨(Lib.itoa (-(N : Int))).toArray⟩) := zz (by subst hm; rw [Lib.itoa_neg N hN, rest_end hR, cat_one])
   have qm : ((-(m : Int)) != 0) = false := by rw [hm]; rfl
   have HB := zz hB
   clear hR hB HS hm
   go_wp2
   go_ret
   exact ⟨congrArg (fun z => Ending.returned (.string z)) EI.out, HB.out⟩
  ·have qm : ((-(m : Int)) != 0) = true := by simp; omega
   have N1 := zz (rest_step hR (by omega))
   have hcv := conv_one wr m
   have CT := zz (cat_dig m l)
   have HB := zz (hB.alloc hB.size (.cells #[.int .u8 (48 + (m : Int) % 10)] 5))
   clear hR hB HS
   have ht : Int.tmod (-(m : Int)) 10 = -((m : Int) % 10) := by rw [Int.neg_tmod, Int.tmod_eq_emod_of_nonneg (by omega)]
   have hd : Int.tdiv (-(m : Int)) 10 = -((m : Int) / 10) := by rw [Int.neg_tdiv, Int.tdiv_eq_ediv_of_nonneg (by omega)]
   by_cases hx : m % 10 = 0
   ·have hx2 : (m : Int) % 10 = 0 := by omega
    have hcv0 := conv_zero wr
    have CZ := zz (cat_zero m hx l)
    have HB0 : Hid (Below w.heap.size w (wr.alloc (.cells #[.int .u8 48] 5))) := by rw [hx2] at HB; exact HB
    clear hcv HB
    go_wp2
    go_roundw
    case rel => exact ⟨m / 10, _, by go_num, by omega, CZ.out, N1.out, HB0.out⟩
    case measure => simp [intOf]; omega
   ·have hx2 : 0 < (m : Int) % 10 := by omega
    go_wp2
    go_roundw
    case rel => exact ⟨m / 10, _, by go_num, by omega, CT.out, N1.out, HB.out⟩
    case measure => simp [intOf]; omega
theorem refint_any (n : Int) (h0 : -9223372036854775808 <= n) (h1 : n <= 9223372036854775807) (w : World) :
 Calls Tryz.prog 118 #[.int .i64 n] w fun e w' => e = .returned (.string ⟨(Lib.itoa n).toArray⟩) /\ Below w.heap.size w w' := by
 rcases Int.lt_trichotomy n 0 with h | h | h
 ·obtain ⟨N, rfl⟩ : ∃ N : Nat, n = -(N : Int) := ⟨n.natAbs, by omega⟩
  exact refint_neg N (by omega) (by omega) w
 ·subst h
  have E : Hid ((⟨#[48]⟩ : ByteArray) = ⟨(Lib.itoa 0).toArray⟩) := zz (by rw [show Lib.itoa 0 = Lib.decDigits 0 from Lib.itoa_nonneg 0, dec_zero])
  clear h0 h1
  go_enter Tryz.func118, Tryz.ntmps118
  go_wp2
  go_ret
  exact ⟨congrArg (fun z => Ending.returned (.string z)) E.out, Below.refl _ _⟩
 ·obtain ⟨N, rfl⟩ : ∃ N : Nat, n = (N : Int) := ⟨n.natAbs, by omega⟩
  exact refint_pos N (by omega) (by omega) w
end
end Go.Proofs.YtmdhjiammcpogaaGreatDoor
