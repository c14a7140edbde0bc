import Derived.Laws.Rows
import Derived.Test.YtmdhjiammcpogaaGreatDoorQ13
namespace Go.Proofs.YtmdhjiammcpogaaGreatDoor
set_option maxRecDepth 100000
set_option maxHeartbeats 16000000
section
open Go.RowKit
variable {N W d n : Nat} {S : Nat -> Prop} {a : Tr} {f : Nd} {ks r : List Tr} {m : Md} {tb : Int} {v : Value} {w : World} {x : List UInt8}
theorem Wr.tcell {acc : List UInt8} (h : Wr N W acc tb w) : w.cell? ⟨W, 2, none⟩ = some (.int .i64 tb) := by
 obtain ⟨p, v, _, h1, _⟩ := h.blk
 simp [World.cell?, h1]
theorem Wr.tfroz {acc : List UInt8} (h : Wr N W acc tb w) : w.frozen? ⟨W, 2, none⟩ = false := by
 obtain ⟨p, v, _, h1, _⟩ := h.blk
 simp [World.frozen?, h1]
theorem Wr.set {acc : List UInt8} (h : Wr N W acc tb w) (tc : Int) : Wr N W acc tc (w.setCell ⟨W, 2, none⟩ (.int .i64 tc)) /\ Fx N W w (w.setCell ⟨W, 2, none⟩ (.int .i64 tc)) := by
 have hW := h.le
 obtain ⟨h0, p, v, h1, h2, h3, h4⟩ := h
 have hne : v.ownBlock ≠ some W := Lib.ownBlock_ne h3 h2 (by decide)
 refine ⟨⟨h0, p, v, h1, ?_, ?_, h4⟩, ⟨rfl, rfl, rfl, by simp [World.setCell], fun i hi => Below.heap_setCell _ _ _ _ (by show i ≠ W; omega), fun i cs T fz g1 _ _ => Below.heap_setCell _ _ _ _ g1⟩⟩
 ·simp [World.setCell, Array.getElem?_modify, h2]
 ·exact h3.kept (row := some W) ⟨rfl, rfl, rfl, by simp [World.setCell], fun k _ hk => Below.heap_setCell _ _ _ _ (fun e => hk (by simp [e]))⟩ (Or.inr hne)
theorem tbs_succ (k : Nat) : tbs (k + 1) = tbs k ++ [9] := by
 unfold tbs
 rw [List.replicate_succ']
theorem indent_is (hd : d <= 1000000) : Puts N W (d : Int) (tbs d) 71 #[.pointer (some ⟨W, 0, none⟩)] w := by
 intro acc hw hlen
 have hWl := hw.lt
 have hNw := hw.nle
 have c2 := hw.tcell
 have HW0 := zz hw
 have hlen2 : acc.length + d <= 140737488355328 := by simpa [tbs] using hlen
 clear hw hlen
 go_enter Tryz.func71, Tryz.ntmps71
 go_wp2
 go_loopw [6] (fun i wr => ∃ k : Nat, k <= d /\ i = .int .i64 k /\ Fx N W w wr /\ Wr N W (acc ++ tbs k) (d : Int) wr) (fun i _ => d - (intOf i).toNat)
 case atStart => exact ⟨0, Nat.zero_le _, rfl, Fx.refl _ _ _, by simpa [tbs] using HW0.out⟩
 case round =>
  obtain ⟨k, hk, rfl, hfx, hwr⟩ := hrel
  have HF0 := zz hfx
  have HWr := zz hwr
  have hsz := hfx.size
  clear hfx hwr HW0 c2
  by_cases hkl : k < d
  ·have q : decide ((k : Int) < (d : Int)) = true := decide_eq_true (by omega)
   have HTS := zz (tbs_succ k)
   go_wp2_with fail
   refine (zc (x := [9]) [⟨#[9]⟩] (by simp [fl]) (by simp) (by omega) rfl rfl HWr.out (by rw [List.length_append]; show _ + (tbs k).length + 1 <= _; rw [tbs, List.length_replicate]; omega)).mono ?_
   rintro e w2 ⟨rfl, fx, wr2⟩
   have HF2 := zz (HF0.out.trans fx)
   have HW2 := zz (show Wr N W (acc ++ tbs (k + 1)) (d : Int) w2 by rw [HTS.out, <- List.append_assoc]; exact wr2)
   clear fx wr2
   go_wp2
   go_roundw
   case rel => exact ⟨k + 1, by omega, by go_num, HF2.out, HW2.out⟩
   case measure => simp [intOf]; omega
  ·have q : decide ((k : Int) < (d : Int)) = false := decide_eq_false (by omega)
   obtain rfl : k = d := by omega
   go_wp2
   go_end0
   exact ⟨rfl, HF0.out, HWr.out⟩
theorem Kids.snoc (h : Kids w m S v (r ++ [a])) : ∃ bv ov cv, v = .slice (some ⟨bv, ov, none⟩) (r.length + 1) cv /\ r.length + 1 <= cv /\ r.length + 1 <= 9223372036854775807 /\ S bv /\ NodeAt w m S bv (ov + r.length * 8) a /\ RowAt w m S bv ov r := by
 obtain ⟨b, o, ⟨hh, _⟩, hr⟩ := h
 rcases hh with ⟨h0, _⟩ | ⟨_, h2, _, c, hn, e⟩
 ·simp at h0
 ·rw [List.length_append] at hn e
  refine ⟨b, o, c, e, hn.2, hn.1, h2, ?_, RowAt.mk fun i hi => ?_⟩
  ·have := hr.get r.length (by simp)
   simpa using this
  ·have := hr.get i (by simp; omega)
   rw [List.getElem_append_left hi] at this
   exact this
theorem results_tmp_cell {P : Program} {fn : Func} {u p : Tmp} {ty : TypeId} (h : fn.results = #[.tmp u, .cell p ty]) (tmps : Array Value) (w : World) (g : Nat) (t : TypeId) (cs : Array Value) (fr : Nat × Nat) (d : TypeDesc) (hp : tmps.getD p undef = .pointer (some ⟨g, 0, none⟩)) (hg : w.heap[g]? = some (.cells cs t fr)) (hu : P.underlying ty = some d) (hd : (match d with | .struct _ | .array _ _ => true | _ => false) = true) (hi : (P.info? ty).map (·.size) = some cs.size) :
 (results fn tmps).run P w = .ok (.tuple #[tmps.getD u undef, .agg cs]) w := by
 have hp' : tmps[p]?.getD undef = .pointer (some ⟨g, 0, none⟩) := by simpa using hp
 simp [results, h, hp', asAddr, run_loadVar_row w g t ty cs fr d hg hu hd hi]
theorem ahead_is {bv ov cv : Nat} {va : Value} (hl : n + 1 <= 9223372036854775807) (hc : n + 1 <= cv) (hb : bv < w.heap.size) (hC : Cs w bv (ov + n * 8) a.f va) (hs : ∃ A l c, va = .slice A l c) :
 Calls Tryz.prog 30 #[nv f (.slice (some ⟨bv, ov, none⟩) (n + 1) cv)] w fun e w' => e = .returned (.tuple #[.slice (some ⟨bv, ov, none⟩) n cv, nv a.f va]) /\ Below w.heap.size w w' := by
 obtain ⟨A, l, c, rfl⟩ := hs
 obtain ⟨a0, a1, a2, a3, a4, a5, a6, a7⟩ := hC
 have ad0 := al2 (show bv < w.heap.size by omega) a0
 have ad1 := al2 (show bv < w.heap.size by omega) a1
 have ad2 := al2 (show bv < w.heap.size by omega) a2
 have ad3 := al2 (show bv < w.heap.size by omega) a3
 have ad4 := al2 (show bv < w.heap.size by omega) a4
 have ad5 := al2 (show bv < w.heap.size by omega) a5
 have ad6 := al2 (show bv < w.heap.size by omega) a6
 have ad7 := al2 (show bv < w.heap.size by omega) a7
 unfold nv
 have i0 : (0 : Int) <= (n : Int) := by omega
 have i1 : (n : Int) < (n : Int) + 1 := by omega
 have i2 : (n : Int) < ((n + 1 : Nat) : Int) := by omega
 have i3 : n <= cv := by omega
 have i4 : (n : Int) <= (cv : Int) := by omega
 have n1 : ¬ bv = w.heap.size := by omega
 have n2 : ¬ bv = w.heap.size + 1 := by omega
 have n3 : ¬ w.heap.size = bv := by omega
 have n4 : ¬ w.heap.size + 1 = bv := by omega
 go_enter Tryz.func30, Tryz.ntmps30
 go_wp2
 go_region
 go_wp2
 try simp only [Exit.inBlock, Exit.then]
 refine bodyPost_ret (results_tmp_cell rfl _ _ (w.heap.size + 1) _ _ _ _ rfl (heap_alloc2_new w _ _) Tryz.underlying25 rfl Tryz.sizeN) rfl ?_
 exact ⟨rfl, Below.drew (((Below.refl _ _).alloc (Nat.le_refl _) _).alloc (by rw [World.size_alloc]; omega) _)⟩
def PutS (t : Tr) (d : Nat) : Prop := ∀ {N W : Nat} {w : World} {v : Value} {m : Md} {S : Nat -> Prop}, Kids w m S v t.ks -> (∀ i, S i -> i < N) -> TabN N w -> Puts N W (d : Int) (tx t d false) 91 #[.pointer (some ⟨W, 0, none⟩), nv t.f v] w
theorem rows_take {k : Nat} (h : k < ks.length) : rowsT (ks.take (k + 1)) d = rowsT (ks.take k) d ++ (tbs d ++ tx ks[k] d false ++ [10]) := by
 unfold rowsT rws
 rw [List.take_succ_eq_append_getElem h, List.map_append, List.map_append, List.flatten_append]
 congr 1
 exact List.append_nil _
theorem rows_le (k d : Nat) : (rowsT (ks.take k) d).length <= (rowsT ks d).length := by
 have h2 : (rowsT ks d).length = (rowsT (ks.take k) d).length + (rowsT (ks.drop k) d).length := by
  unfold rowsT rws
  rw [<- List.length_append, <- List.flatten_append, <- List.map_append, <- List.map_append, List.take_append_drop]
 omega
theorem inside_is (hd : d < 1000000) (hx : x = rowsT ks (d + 1)) (hE : ∀ t ∈ ks, PutS t (d + 1)) (hK : Kids w m S v ks) (hN : ∀ i, S i -> i < N) (hT : TabN N w) :
 Puts N W (d : Int) x 70 #[.pointer (some ⟨W, 0, none⟩), nv f v] w := by
 have HN := zz hN
 have HT := zz hT
 have HE := zz hE
 have HX0 := zz hx
 clear hN hT hE hx
 obtain ⟨A, ca, ba, oa, rfl, hla, hcap, hA, hra⟩ := hK.lstA
 have HA := zz hA
 have HR := zz hra
 clear hA hra hcap hK
 unfold nv
 intro acc hw hlen
 have hWl := hw.lt
 have hNw := hw.nle
 have HW0 := zz hw
 have HL := zz hlen
 have d2 : ∀ o, (w.alloc o).cell? ⟨W, 2, none⟩ = some (.int .i64 (d : Int)) := fun o => (World.cell?_alloc_lt w o _ hWl).trans hw.tcell
 have f2 : ∀ o, (w.alloc o).frozen? ⟨W, 2, none⟩ = false := fun o => (hw.below ((Below.refl _ _).alloc (Nat.le_refl _) o)).tfroz
 have n5 : ¬ W = w.heap.size := by omega
 have n6 : ¬ w.heap.size = W := by omega
 clear hw hlen
 go_enter Tryz.func70, Tryz.ntmps70
 go_wp2
 have HS1 := zz (HW0.out.set ((d : Int) + 1))
 have hsS := HS1.out.2.size
 generalize w.setCell ⟨W, 2, none⟩ (.int .i64 ((d : Int) + 1)) = wS at *
 obtain ⟨w2, hw1, HB, HXb, hs1⟩ := jb wS f (.slice A ks.length ca)
 rw [hw1]
 have HF1 := zz (HS1.out.2.trans (Fx.of_below (N := N) (W := W) HB.out (by omega)))
 have HW2 := zz (HS1.out.1.below HB.out)
 clear hw1 HB HXb HS1 d2 f2 HW0
 go_loopw [16] (fun i wr => ∃ k : Nat, k <= ks.length /\ i = .int .i64 k /\ Fx N W w wr /\ Wr N W (acc ++ rowsT (ks.take k) (d + 1)) ((d + 1 : Nat) : Int) wr) (fun i _ => ks.length - (intOf i).toNat)
 case atStart => exact ⟨0, Nat.zero_le _, rfl, HF1.out, by simpa [rowsT, rws] using HW2.out⟩
 case round =>
  obtain ⟨k, hk, rfl, hfx, hwr⟩ := hrel
  have hsz := hfx.size
  have HF0 := zz hfx
  have HWr := zz hwr
  clear hfx hwr HF1 HW2
  by_cases hkl : k < ks.length
  rotate_left
  ·have HE2 := zz (show rowsT (ks.take k) (d + 1) = x by rw [HX0.out, List.take_of_length_le (by omega)])
   have e2 : wr.cell? ⟨W, 2, none⟩ = some (.int .i64 ((d : Int) + 1)) := HWr.out.tcell
   have g2 := HWr.out.tfroz
   have HS := zz (HWr.out.set (d : Int))
   go_wp2
   go_end0
   exact ⟨rfl, HF0.out.trans HS.out.2, by rw [<- HE2.out]; exact HS.out.1⟩
  have i0 : (0 : Int) <= (k : Int) := by omega
  have i1 : (k : Int) < (ks.length : Int) := by omega
  obtain ⟨hA1, hb⟩ := HA.out (by omega)
  subst hA1
  obtain ⟨vk, HCk, HKk⟩ := Lst.at (HR.out.agree (Agree.of_below HF0.out.below HN.out) hb) k hkl
  obtain ⟨Ak, ck, bk, ok, rfl, _, _, _⟩ := HKk.out.form
  have HT2 := zz (rows_take (d := d + 1) hkl)
  have HLE := zz (show acc.length + (rowsT (ks.take (k + 1)) (d + 1)).length <= 140737488355328 by have h := HL.out; rw [HX0.out] at h; have := rows_le (ks := ks) (k + 1) (d + 1); omega)
  have k0 := HCk.out.cell
  go_wp2_with fail
  obtain ⟨w3, hw3, HB, HXb, hs3⟩ := jb wr ks[k].f (.slice Ak ks[k].ks.length ck)
  rw [hw3]
  have HF3 := zz (HF0.out.trans (Fx.of_below (N := N) (W := W) HB.out (by omega)))
  have HW3 := zz (HWr.out.below HB.out)
  have HK3 := zz (HKk.out.below HB.out fun i hi => by have := HN.out i hi; omega)
  have hnb : wr.heap.size ≠ W := by omega
  clear hw3 k0 HB HKk HCk
  refine (indent_is (N := N) (W := W) (d := d + 1) (by omega) _ HW3.out (by have h := HLE.out; rw [HT2.out] at h; simp only [List.length_append] at h |-; omega)).mono ?_
  rintro e w4 ⟨rfl, fx, wr4⟩
  have HF4 := zz (HF3.out.trans fx)
  have HW4 := zz wr4
  have HK4 := zz (HK3.out.below fx.below HN.out)
  have b0 := (HXb.out.fx fx hnb).cell
  clear fx wr4 HXb HF3 HW3 HK3
  go_wp2_with fail
  refine (HE.out ks[k] (List.getElem_mem hkl) (N := N) (W := W) (w := w4) (m := m) (S := S) HK4.out HN.out (HT.out.below HF4.out.below) _ HW4.out (by have h := HLE.out; rw [HT2.out] at h; simp only [List.length_append] at h |-; omega)).mono ?_
  rintro e w5 ⟨rfl, fx, wr5⟩
  have HF5 := zz (HF4.out.trans fx)
  have HW5 := zz wr5
  clear fx wr5 b0 HF4 HW4 HK4
  go_wp2_with fail
  refine (zc (x := [10]) [⟨#[10]⟩] (by simp [fl]) (by simp) (by omega) rfl rfl HW5.out (by have h := HLE.out; rw [HT2.out] at h; simp only [List.length_append] at h |-; omega)).mono ?_
  rintro e w6 ⟨rfl, fx, wr6⟩
  have HF6 := zz (HF5.out.trans fx)
  have HW6 := zz (show Wr N W (acc ++ rowsT (ks.take (k + 1)) (d + 1)) ((d + 1 : Nat) : Int) w6 by rw [HT2.out]; simpa only [List.append_assoc] using wr6)
  clear fx wr6 HF5 HW5
  go_wp2
  go_roundw
  case rel => exact ⟨k + 1, by omega, by go_num, HF6.out, HW6.out⟩
  case measure => simp [intOf]; omega
theorem block_is (hd : d < 1000000) (hx : x = [123, 10] ++ rowsT ks (d + 1) ++ tbs d ++ [125]) (hE : ∀ t ∈ ks, PutS t (d + 1)) (hK : Kids w m S v ks) (hN : ∀ i, S i -> i < N) (hT : TabN N w) :
 Puts N W (d : Int) x 34 #[.pointer (some ⟨W, 0, none⟩), nv f v] w := by
 have HN := zz hN
 have HT := zz hT
 have HE := zz hE
 have HKv := zz hK
 clear hN hT hE hK
 obtain ⟨A, c, b, o, rfl, _, _, _⟩ := HKv.out.form
 unfold nv
 intro acc hw hlen
 have HW0 := zz hw
 have hWl := hw.lt
 have hNw := hw.nle
 have HX0 := zz (show x = [123, 10] ++ rowsT ks (d + 1) ++ tbs d ++ [125] from hx)
 have HL := zz hlen
 have HF0 := zz (Fx.refl N W w)
 clear hw hlen
 go_enter Tryz.func34, Tryz.ntmps34
 go_wp2_with fail
 obtain ⟨w1, hw1, HB, HXb, hs1⟩ := jb w f (.slice A ks.length c)
 rw [hw1]
 clear hw1
 obtain ⟨hz1, HF1, HW1⟩ := stb hNw HF0 HW0 HB
 clear HF0 HW0
 have hnb : w.heap.size ≠ W := by have := HF1.out.size; omega
 clear HB
 refine (zc (x := [123, 10]) [⟨#[123, 10]⟩] (by simp [fl]) (by simp) (by omega) rfl rfl HW1.out (by have h := HL.out; rw [HX0.out] at h; (try simp only [List.length_append] at h |-); omega)).mono ?_
 rintro e w2 ⟨rfl, fx, wr⟩
 obtain ⟨hz2, HF2, HW2⟩ := stf HF1 fx wr
 replace HXb := fxx HXb fx hnb
 clear HF1 HW1 fx wr
 have b0 := HXb.out.cell
 go_wp2_with fail
 refine (inside_is (N := N) (W := W) (m := m) (S := S) hd rfl HE.out (HKv.out.below HF2.out.below HN.out) HN.out (HT.out.below HF2.out.below) _ HW2.out (by have h := HL.out; rw [HX0.out] at h; (try simp only [List.length_append] at h |-); omega)).mono ?_
 rintro e w3 ⟨rfl, fx, wr⟩
 obtain ⟨hz3, HF3, HW3⟩ := stf HF2 fx wr
 replace HXb := fxx HXb fx hnb
 clear HF2 HW2 b0
 clear fx wr
 go_wp2_with fail
 refine (indent_is (N := N) (W := W) (d := d) (by omega) _ HW3.out (by have h := HL.out; rw [HX0.out] at h; (try simp only [List.length_append] at h |-); omega)).mono ?_
 rintro e w4 ⟨rfl, fx, wr⟩
 obtain ⟨hz4, HF4, HW4⟩ := stf HF3 fx wr
 replace HXb := fxx HXb fx hnb
 clear HF3 HW3 fx wr
 go_wp2_with fail
 refine (zc (x := [125]) [⟨#[125]⟩] (by simp [fl]) (by simp) (by omega) rfl rfl HW4.out (by have h := HL.out; rw [HX0.out] at h; (try simp only [List.length_append] at h |-); omega)).mono ?_
 rintro e w5 ⟨rfl, fx, wr⟩
 obtain ⟨hz5, HF5, HW5⟩ := stf HF4 fx wr
 replace HXb := fxx HXb fx hnb
 clear HF4 HW4 fx wr
 go_wp2
 go_end0
 exact ⟨rfl, HF5.out, by rw [HX0.out]; first | exact HW5.out | simpa only [List.append_assoc] using HW5.out⟩
end
section
open Go.RowKit
variable {A : Option Addr} {N W c n : Nat} {S : Nat -> Prop} {a : Tr} {f : Nd} {m : Md} {r : List Tr} {tb : Int} {v : Value} {w : World} {x : List UInt8}
def PutM (t : Tr) : Prop := ∀ {N W : Nat} {tb : Int} {w : World} {v : Value} {m : Md} {S : Nat -> Prop}, Kids w m S v t.ks -> (∀ i, S i -> i < N) -> TabN N w -> Puts N W tb (te t) 117 #[.pointer (some ⟨W, 0, none⟩), nv t.f v] w
theorem Kids.three3 {c e : Tr} (h : Kids w m S v [a, c, e]) : ∃ bv ov cv, v = .slice (some ⟨bv, ov, none⟩) 3 cv /\ 3 <= cv /\ S bv /\ NodeAt w m S bv ov a /\ NodeAt w m S bv (ov + 8) c /\ NodeAt w m S bv (ov + 16) e := by
 obtain ⟨b, o, ⟨hh, _⟩, hr⟩ := h
 rcases hh with ⟨h0, _⟩ | ⟨_, h2, _, c, hn, e⟩
 ·simp at h0
 ·exact ⟨b, o, c, e, hn.2, h2, hr.1, hr.2.1, hr.2.2.1⟩
theorem Lst.init {bv ov : Nat} (hc : r.length + 1 <= c) (hl : r.length + 1 <= 9223372036854775807) (hb : S bv) (h : RowAt w m S bv ov r) : Lst w m S (.slice (some ⟨bv, ov, none⟩) r.length c) r :=
 ⟨_, c, bv, ov, rfl, by omega, by omega, fun _ => ⟨rfl, hb⟩, h⟩
theorem assign_is {sg : ByteArray} (hx : x = cm (r.map te) ++ ([32] ++ bs sg ++ [32]) ++ te a) (hR : ∀ t ∈ r, PutE t) (hA : PutE a) (hK : Kids w m S v (r ++ [a])) (hN : ∀ i, S i -> i < N) (hT : TabN N w) :
 Puts N W tb x 145 #[.pointer (some ⟨W, 0, none⟩), nv f v, .string sg] w := by
 have HN := zz hN
 have HT := zz hT
 clear hN hT
 have HR := zz hR
 clear hR
 obtain ⟨bv, ov, cv, rfl, hcv, hlv, hbv, hn_a, hrr⟩ := hK.snoc
 have HRr := zz hrr
 obtain ⟨va, HCa, HKa⟩ := hn_a.cs
 obtain ⟨Aa, ca, ba, oa, rfl, h1_, h2_, h3_⟩ := HKa.out.form
 clear h1_ h2_ h3_ hK hn_a hrr
 unfold nv
 intro acc hw hlen
 have HW0 := zz hw
 have hWl := hw.lt
 have hNw := hw.nle
 have HX0 := zz (show x = cm (r.map te) ++ ([32] ++ bs sg ++ [32]) ++ te a from hx)
 have HL := zz hlen
 have HF0 := zz (Fx.refl N W w)
 clear hw hlen
 go_enter Tryz.func145, Tryz.ntmps145
 go_wp2_with fail
 obtain ⟨w1, hw1, HB, HXb, hs1⟩ := jb w f (.slice (some ⟨bv, ov, none⟩) (r.length + 1) cv)
 rw [hw1]
 clear hw1
 obtain ⟨hz1, HF1, HW1⟩ := stb hNw HF0 HW0 HB
 clear HF0 HW0
 have hnb : w.heap.size ≠ W := by have := HF1.out.size; omega
 clear HB
 refine (ahead_is (f := f) (a := a) hlv hcv (by have := HN.out bv hbv; have := HF1.out.size; omega) (HCa.out.agree (Agree.of_below HF1.out.below HN.out) hbv) ⟨_, _, _, rfl⟩).mono ?_
 rintro e w2 ⟨rfl, b⟩
 have hz2 := Fx.size (Fx.of_below (N := N) (W := W) b (by have := HF1.out.size; omega))
 have HF2 := zz (HF1.out.trans (Fx.of_below (N := N) (W := W) b (by have := HF1.out.size; omega)))
 have HW2 := zz (HW1.out.below b)
 replace HXb := zz (HXb.out.fx (Fx.of_below (N := N) (W := W) b (by have := HF1.out.size; omega)) hnb)
 clear HF1 HW1
 clear b
 go_wp2_with fail
 obtain ⟨w3, hw3, HB, HXk, hs3⟩ := jb w2 a.f (.slice Aa a.ks.length ca)
 rw [hw3]
 clear hw3
 obtain ⟨hz3, HF3, HW3⟩ := stb hNw HF2 HW2 HB
 replace HXb := zz (HXb.out.fx (Fx.of_below (N := N) (W := W) HB.out (by have := HF2.out.size; omega)) hnb)
 clear HF2 HW2
 have hnk : w2.heap.size ≠ W := by have := HF3.out.size; omega
 clear HB
 refine (parted_expr (N := N) (W := W) (tb := tb) (m := m) (S := S) rfl HR.out (Lst.init hcv hlv hbv (HRr.out.agree (Agree.of_below HF3.out.below HN.out) hbv)) HN.out (HT.out.below HF3.out.below) _ HW3.out (by have h := HL.out; rw [HX0.out] at h; (try simp only [List.length_append] at h |-); omega)).mono ?_
 rintro e w4 ⟨rfl, fx, wr⟩
 obtain ⟨hz4, HF4, HW4⟩ := stf HF3 fx wr
 replace HXb := fxx HXb fx hnb
 replace HXk := fxx HXk fx hnk
 clear HF3 HW3 fx wr
 go_wp2_with fail
 refine (zc (x := ([32] ++ bs sg ++ [32])) [⟨#[32]⟩, sg, ⟨#[32]⟩] (by simp [fl]) (by simp) (by omega) rfl rfl HW4.out (by have h := HL.out; rw [HX0.out] at h; (try simp only [List.length_append] at h |-); omega)).mono ?_
 rintro e w5 ⟨rfl, fx, wr⟩
 obtain ⟨hz5, HF5, HW5⟩ := stf HF4 fx wr
 replace HXb := fxx HXb fx hnb
 replace HXk := fxx HXk fx hnk
 clear HF4 HW4 fx wr
 have k0 := HXk.out.cell
 go_wp2_with fail
 refine (hA (N := N) (W := W) (tb := tb) (w := w5) (m := m) (S := S) (HKa.out.below HF5.out.below HN.out) HN.out (HT.out.below HF5.out.below) _ HW5.out (by have h := HL.out; rw [HX0.out] at h; (try simp only [List.length_append] at h |-); omega)).mono ?_
 rintro e w6 ⟨rfl, fx, wr⟩
 obtain ⟨hz6, HF6, HW6⟩ := stf HF5 fx wr
 replace HXb := fxx HXb fx hnb
 replace HXk := fxx HXk fx hnk
 clear HF5 HW5 k0
 clear fx wr
 go_wp2
 go_end0
 exact ⟨rfl, HF6.out, by rw [HX0.out]; first | exact HW6.out | simpa only [List.append_assoc] using HW6.out⟩
theorem step_p (hx : x = te a ++ [43, 43]) (hq : f.n = 1) (hA : PutE a) (hK : Kids w m S v [a]) (hN : ∀ i, S i -> i < N) (hT : TabN N w) :
 Puts N W tb x 146 #[.pointer (some ⟨W, 0, none⟩), nv f v] w := by
 have HN := zz hN
 have HT := zz hT
 clear hN hT
 obtain ⟨bv, ov, cv, rfl, hcv, hbv, hn_a⟩ := hK.one1
 obtain ⟨va, HCa, HKa⟩ := hn_a.cs
 obtain ⟨Aa, ca, ba, oa, rfl, h1_, h2_, h3_⟩ := HKa.out.form
 clear h1_ h2_ h3_
 clear hK hn_a
 unfold nv
 have q : decide (0 < f.n) = true := decide_eq_true (by omega)
 have q2 : 0 < f.n := by omega
 clear hq
 intro acc hw hlen
 have HW0 := zz hw
 have hWl := hw.lt
 have hNw := hw.nle
 have HX0 := zz (show x = te a ++ [43, 43] from hx)
 have HL := zz hlen
 have HF0 := zz (Fx.refl N W w)
 clear hw hlen
 have hbs : bv < w.heap.size := by have := HN.out bv hbv; omega
 have a0 := al8 hbs HCa
 go_enter Tryz.func146, Tryz.ntmps146
 go_wp2_with fail
 obtain ⟨w1, hw1, HB, HXb, hs1⟩ := jb w f (.slice (some ⟨bv, ov, none⟩) 1 cv)
 rw [hw1]
 clear hw1
 obtain ⟨hz1, HF1, HW1⟩ := stb hNw HF0 HW0 HB
 clear HF0 HW0 a0
 have hnb : w.heap.size ≠ W := by have := HF1.out.size; omega
 clear HB
 refine (hA (N := N) (W := W) (tb := tb) (w := w1) (m := m) (S := S) (HKa.out.below HF1.out.below HN.out) HN.out (HT.out.below HF1.out.below) _ HW1.out (by have h := HL.out; rw [HX0.out] at h; (try simp only [List.length_append] at h |-); omega)).mono ?_
 rintro e w2 ⟨rfl, fx, wr⟩
 obtain ⟨hz2, HF2, HW2⟩ := stf HF1 fx wr
 replace HXb := fxx HXb fx hnb
 clear HF1 HW1 fx wr
 have b0 := HXb.out.cell
 go_wp2_with fail
 refine (zc (x := [43, 43]) [⟨#[43, 43]⟩] (by simp [fl]) (by simp) (by omega) rfl rfl HW2.out (by have h := HL.out; rw [HX0.out] at h; (try simp only [List.length_append] at h |-); omega)).mono ?_
 rintro e w3 ⟨rfl, fx, wr⟩
 obtain ⟨hz3, HF3, HW3⟩ := stf HF2 fx wr
 replace HXb := fxx HXb fx hnb
 clear HF2 HW2 b0
 clear fx wr
 go_wp2
 go_end0
 exact ⟨rfl, HF3.out, by rw [HX0.out]; first | exact HW3.out | simpa only [List.append_assoc] using HW3.out⟩
theorem step_m (hx : x = te a ++ [45, 45]) (hq : f.n = -1) (hA : PutE a) (hK : Kids w m S v [a]) (hN : ∀ i, S i -> i < N) (hT : TabN N w) :
 Puts N W tb x 146 #[.pointer (some ⟨W, 0, none⟩), nv f v] w := by
 have HN := zz hN
 have HT := zz hT
 clear hN hT
 obtain ⟨bv, ov, cv, rfl, hcv, hbv, hn_a⟩ := hK.one1
 obtain ⟨va, HCa, HKa⟩ := hn_a.cs
 obtain ⟨Aa, ca, ba, oa, rfl, h1_, h2_, h3_⟩ := HKa.out.form
 clear h1_ h2_ h3_
 clear hK hn_a
 unfold nv
 have q : decide (0 < f.n) = false := decide_eq_false (by omega)
 have q2 : ¬ 0 < f.n := by omega
 clear hq
 intro acc hw hlen
 have HW0 := zz hw
 have hWl := hw.lt
 have hNw := hw.nle
 have HX0 := zz (show x = te a ++ [45, 45] from hx)
 have HL := zz hlen
 have HF0 := zz (Fx.refl N W w)
 clear hw hlen
 have hbs : bv < w.heap.size := by have := HN.out bv hbv; omega
 have a0 := al8 hbs HCa
 go_enter Tryz.func146, Tryz.ntmps146
 go_wp2_with fail
 obtain ⟨w1, hw1, HB, HXb, hs1⟩ := jb w f (.slice (some ⟨bv, ov, none⟩) 1 cv)
 rw [hw1]
 clear hw1
 obtain ⟨hz1, HF1, HW1⟩ := stb hNw HF0 HW0 HB
 clear HF0 HW0 a0
 have hnb : w.heap.size ≠ W := by have := HF1.out.size; omega
 clear HB
 refine (hA (N := N) (W := W) (tb := tb) (w := w1) (m := m) (S := S) (HKa.out.below HF1.out.below HN.out) HN.out (HT.out.below HF1.out.below) _ HW1.out (by have h := HL.out; rw [HX0.out] at h; (try simp only [List.length_append] at h |-); omega)).mono ?_
 rintro e w2 ⟨rfl, fx, wr⟩
 obtain ⟨hz2, HF2, HW2⟩ := stf HF1 fx wr
 replace HXb := fxx HXb fx hnb
 clear HF1 HW1 fx wr
 have b0 := HXb.out.cell
 go_wp2_with fail
 refine (zc (x := [45, 45]) [⟨#[45, 45]⟩] (by simp [fl]) (by simp) (by omega) rfl rfl HW2.out (by have h := HL.out; rw [HX0.out] at h; (try simp only [List.length_append] at h |-); omega)).mono ?_
 rintro e w3 ⟨rfl, fx, wr⟩
 obtain ⟨hz3, HF3, HW3⟩ := stf HF2 fx wr
 replace HXb := fxx HXb fx hnb
 clear HF2 HW2 b0
 clear fx wr
 go_wp2
 go_end0
 exact ⟨rfl, HF3.out, by rw [HX0.out]; first | exact HW3.out | simpa only [List.append_assoc] using HW3.out⟩
theorem simple_6 (hx : x = (cm (r.map te) ++ ([32] ++ [58, 61] ++ [32]) ++ te a)) (hk : f.k = 6) (hR : ∀ t ∈ r, PutE t) (hA : PutE a) (hK : Kids w m S v (r ++ [a])) (hN : ∀ i, S i -> i < N) (hT : TabN N w) :
 Puts N W tb x 117 #[.pointer (some ⟨W, 0, none⟩), nv f v] w := by
 have HN := zz hN
 have HT := zz hT
 have HKv := zz hK
 clear hN hT hK
 obtain ⟨Av, cv, bv, ov, rfl, h1_, h2_, h3_⟩ := HKv.out.form
 clear h1_ h2_ h3_
 unfold nv
 have HR := zz hR
 clear hR
 have q6 := yk hk
 clear hk
 simp only [List.length_append, List.length_cons, List.length_nil, Nat.zero_add] at HKv |-
 intro acc hw hlen
 have HW0 := zz hw
 have hWl := hw.lt
 have hNw := hw.nle
 have HX0 := zz (show x = (cm (r.map te) ++ ([32] ++ [58, 61] ++ [32]) ++ te a) from hx)
 have HL := zz hlen
 have HF0 := zz (Fx.refl N W w)
 clear hw hlen
 go_enter Tryz.func117, Tryz.ntmps117
 go_wp2_with fail
 obtain ⟨w1, hw1, HB, HXb, hs1⟩ := jb w f (.slice Av (r.length + 1) cv)
 rw [hw1]
 clear hw1
 obtain ⟨hz1, HF1, HW1⟩ := stb hNw HF0 HW0 HB
 clear HF0 HW0
 have hnb : w.heap.size ≠ W := by have := HF1.out.size; omega
 clear HB
 refine (assign_is (N := N) (W := W) (tb := tb) (sg := ⟨#[58, 61]⟩) rfl HR.out hA (HKv.out.below HF1.out.below HN.out) HN.out (HT.out.below HF1.out.below) _ HW1.out (by have h := HL.out; rw [HX0.out] at h; (try simp only [List.length_append] at h |-); omega)).mono ?_
 rintro e w2 ⟨rfl, fx, wr⟩
 obtain ⟨hz2, HF2, HW2⟩ := stf HF1 fx wr
 replace HXb := fxx HXb fx hnb
 clear HF1 HW1 fx wr
 go_wp2
 go_end0
 exact ⟨rfl, HF2.out, by rw [HX0.out]; first | exact HW2.out | simpa only [List.append_assoc] using HW2.out⟩
theorem simple_7 (hx : x = (cm (r.map te) ++ ([32] ++ [61] ++ [32]) ++ te a)) (hk : f.k = 7) (hR : ∀ t ∈ r, PutE t) (hA : PutE a) (hK : Kids w m S v (r ++ [a])) (hN : ∀ i, S i -> i < N) (hT : TabN N w) :
 Puts N W tb x 117 #[.pointer (some ⟨W, 0, none⟩), nv f v] w := by
 have HN := zz hN
 have HT := zz hT
 have HKv := zz hK
 clear hN hT hK
 obtain ⟨Av, cv, bv, ov, rfl, h1_, h2_, h3_⟩ := HKv.out.form
 clear h1_ h2_ h3_
 unfold nv
 have HR := zz hR
 clear hR
 have q6 := nk 6 hk rfl
 have q7 := yk hk
 clear hk
 simp only [List.length_append, List.length_cons, List.length_nil, Nat.zero_add] at HKv |-
 intro acc hw hlen
 have HW0 := zz hw
 have hWl := hw.lt
 have hNw := hw.nle
 have HX0 := zz (show x = (cm (r.map te) ++ ([32] ++ [61] ++ [32]) ++ te a) from hx)
 have HL := zz hlen
 have HF0 := zz (Fx.refl N W w)
 clear hw hlen
 go_enter Tryz.func117, Tryz.ntmps117
 go_wp2_with fail
 obtain ⟨w1, hw1, HB, HXb, hs1⟩ := jb w f (.slice Av (r.length + 1) cv)
 rw [hw1]
 clear hw1
 obtain ⟨hz1, HF1, HW1⟩ := stb hNw HF0 HW0 HB
 clear HF0 HW0
 have hnb : w.heap.size ≠ W := by have := HF1.out.size; omega
 clear HB
 refine (assign_is (N := N) (W := W) (tb := tb) (sg := ⟨#[61]⟩) rfl HR.out hA (HKv.out.below HF1.out.below HN.out) HN.out (HT.out.below HF1.out.below) _ HW1.out (by have h := HL.out; rw [HX0.out] at h; (try simp only [List.length_append] at h |-); omega)).mono ?_
 rintro e w2 ⟨rfl, fx, wr⟩
 obtain ⟨hz2, HF2, HW2⟩ := stf HF1 fx wr
 replace HXb := fxx HXb fx hnb
 clear HF1 HW1 fx wr
 go_wp2
 go_end0
 exact ⟨rfl, HF2.out, by rw [HX0.out]; first | exact HW2.out | simpa only [List.append_assoc] using HW2.out⟩
theorem simple_8p (hx : x = (te a ++ [43, 43])) (hk : f.k = 8) (hq : f.n = 1) (hA : PutE a) (hK : Kids w m S v [a]) (hN : ∀ i, S i -> i < N) (hT : TabN N w) :
 Puts N W tb x 117 #[.pointer (some ⟨W, 0, none⟩), nv f v] w := by
 have HN := zz hN
 have HT := zz hT
 have HKv := zz hK
 clear hN hT hK
 obtain ⟨Av, cv, bv, ov, rfl, h1_, h2_, h3_⟩ := HKv.out.form
 clear h1_ h2_ h3_
 unfold nv
 have HQ := zz hq
 clear hq
 have q6 := nk 6 hk rfl
 have q7 := nk 7 hk rfl
 have q8 := yk hk
 clear hk
 simp only [List.length_cons, List.length_nil, Nat.zero_add] at HKv |-
 intro acc hw hlen
 have HW0 := zz hw
 have hWl := hw.lt
 have hNw := hw.nle
 have HX0 := zz (show x = (te a ++ [43, 43]) from hx)
 have HL := zz hlen
 have HF0 := zz (Fx.refl N W w)
 clear hw hlen
 go_enter Tryz.func117, Tryz.ntmps117
 go_wp2_with fail
 obtain ⟨w1, hw1, HB, HXb, hs1⟩ := jb w f (.slice Av 1 cv)
 rw [hw1]
 clear hw1
 obtain ⟨hz1, HF1, HW1⟩ := stb hNw HF0 HW0 HB
 clear HF0 HW0
 have hnb : w.heap.size ≠ W := by have := HF1.out.size; omega
 clear HB
 refine (step_p (N := N) (W := W) (tb := tb) rfl HQ.out hA (HKv.out.below HF1.out.below HN.out) HN.out (HT.out.below HF1.out.below) _ HW1.out (by have h := HL.out; rw [HX0.out] at h; (try simp only [List.length_append] at h |-); omega)).mono ?_
 rintro e w2 ⟨rfl, fx, wr⟩
 obtain ⟨hz2, HF2, HW2⟩ := stf HF1 fx wr
 replace HXb := fxx HXb fx hnb
 clear HF1 HW1 fx wr
 go_wp2
 go_end0
 exact ⟨rfl, HF2.out, by rw [HX0.out]; first | exact HW2.out | simpa only [List.append_assoc] using HW2.out⟩
theorem simple_8m (hx : x = (te a ++ [45, 45])) (hk : f.k = 8) (hq : f.n = -1) (hA : PutE a) (hK : Kids w m S v [a]) (hN : ∀ i, S i -> i < N) (hT : TabN N w) :
 Puts N W tb x 117 #[.pointer (some ⟨W, 0, none⟩), nv f v] w := by
 have HN := zz hN
 have HT := zz hT
 have HKv := zz hK
 clear hN hT hK
 obtain ⟨Av, cv, bv, ov, rfl, h1_, h2_, h3_⟩ := HKv.out.form
 clear h1_ h2_ h3_
 unfold nv
 have HQ := zz hq
 clear hq
 have q6 := nk 6 hk rfl
 have q7 := nk 7 hk rfl
 have q8 := yk hk
 clear hk
 simp only [List.length_cons, List.length_nil, Nat.zero_add] at HKv |-
 intro acc hw hlen
 have HW0 := zz hw
 have hWl := hw.lt
 have hNw := hw.nle
 have HX0 := zz (show x = (te a ++ [45, 45]) from hx)
 have HL := zz hlen
 have HF0 := zz (Fx.refl N W w)
 clear hw hlen
 go_enter Tryz.func117, Tryz.ntmps117
 go_wp2_with fail
 obtain ⟨w1, hw1, HB, HXb, hs1⟩ := jb w f (.slice Av 1 cv)
 rw [hw1]
 clear hw1
 obtain ⟨hz1, HF1, HW1⟩ := stb hNw HF0 HW0 HB
 clear HF0 HW0
 have hnb : w.heap.size ≠ W := by have := HF1.out.size; omega
 clear HB
 refine (step_m (N := N) (W := W) (tb := tb) rfl HQ.out hA (HKv.out.below HF1.out.below HN.out) HN.out (HT.out.below HF1.out.below) _ HW1.out (by have h := HL.out; rw [HX0.out] at h; (try simp only [List.length_append] at h |-); omega)).mono ?_
 rintro e w2 ⟨rfl, fx, wr⟩
 obtain ⟨hz2, HF2, HW2⟩ := stf HF1 fx wr
 replace HXb := fxx HXb fx hnb
 clear HF1 HW1 fx wr
 go_wp2
 go_end0
 exact ⟨rfl, HF2.out, by rw [HX0.out]; first | exact HW2.out | simpa only [List.append_assoc] using HW2.out⟩
theorem simple_9 {c : Tr} (hx : x = te a ++ [32, 60, 45, 32] ++ te c) (hk : f.k = 9) (hA : PutE a) (hC : PutE c) (hK : Kids w m S v [a, c]) (hN : ∀ i, S i -> i < N) (hT : TabN N w) :
 Puts N W tb x 117 #[.pointer (some ⟨W, 0, none⟩), nv f v] w := by
 have HN := zz hN
 have HT := zz hT
 clear hN hT
 obtain ⟨bv, ov, cv, rfl, hcv, hbv, hn_a, hn_c⟩ := hK.two2
 obtain ⟨va, HCa, HKa⟩ := hn_a.cs
 obtain ⟨Aa, ca, ba, oa, rfl, h1_, h2_, h3_⟩ := HKa.out.form
 clear h1_ h2_ h3_
 obtain ⟨vc, HCc, HKc⟩ := hn_c.cs
 obtain ⟨Ac, cc, bc, oc, rfl, h1_, h2_, h3_⟩ := HKc.out.form
 clear h1_ h2_ h3_
 clear hK hn_a hn_c
 unfold nv
 have q6 := nk 6 hk rfl
 have q7 := nk 7 hk rfl
 have q8 := nk 8 hk rfl
 have q9 := yk hk
 clear hk
 intro acc hw hlen
 have HW0 := zz hw
 have hWl := hw.lt
 have hNw := hw.nle
 have HX0 := zz (show x = te a ++ [32, 60, 45, 32] ++ te c from hx)
 have HL := zz hlen
 have HF0 := zz (Fx.refl N W w)
 clear hw hlen
 have hbs : bv < w.heap.size := by have := HN.out bv hbv; omega
 have a0 := al8 hbs HCa
 go_enter Tryz.func117, Tryz.ntmps117
 go_wp2_with fail
 obtain ⟨w1, hw1, HB, HXb, hs1⟩ := jb w f (.slice (some ⟨bv, ov, none⟩) 2 cv)
 rw [hw1]
 clear hw1
 obtain ⟨hz1, HF1, HW1⟩ := stb hNw HF0 HW0 HB
 clear HF0 HW0 a0
 have hnb : w.heap.size ≠ W := by have := HF1.out.size; omega
 clear HB
 refine (hA (N := N) (W := W) (tb := tb) (w := w1) (m := m) (S := S) (HKa.out.below HF1.out.below HN.out) HN.out (HT.out.below HF1.out.below) _ HW1.out (by have h := HL.out; rw [HX0.out] at h; (try simp only [List.length_append] at h |-); omega)).mono ?_
 rintro e w2 ⟨rfl, fx, wr⟩
 obtain ⟨hz2, HF2, HW2⟩ := stf HF1 fx wr
 replace HXb := fxx HXb fx hnb
 clear HF1 HW1 fx wr
 go_wp2_with fail
 refine (zc (x := [32, 60, 45, 32]) [⟨#[32]⟩, ⟨#[60, 45]⟩, ⟨#[32]⟩] (by simp [fl]) (by simp) (by omega) rfl rfl HW2.out (by have h := HL.out; rw [HX0.out] at h; (try simp only [List.length_append] at h |-); omega)).mono ?_
 rintro e w3 ⟨rfl, fx, wr⟩
 obtain ⟨hz3, HF3, HW3⟩ := stf HF2 fx wr
 replace HXb := fxx HXb fx hnb
 clear HF2 HW2 fx wr
 have b0 := HXb.out.cell
 have c0 := (HCc.out.agree (Agree.of_below HF3.out.below HN.out) hbv).cell
 go_wp2_with fail
 refine (hC (N := N) (W := W) (tb := tb) (w := w3) (m := m) (S := S) (HKc.out.below HF3.out.below HN.out) HN.out (HT.out.below HF3.out.below) _ HW3.out (by have h := HL.out; rw [HX0.out] at h; (try simp only [List.length_append] at h |-); omega)).mono ?_
 rintro e w4 ⟨rfl, fx, wr⟩
 obtain ⟨hz4, HF4, HW4⟩ := stf HF3 fx wr
 replace HXb := fxx HXb fx hnb
 clear HF3 HW3 b0 c0
 clear fx wr
 go_wp2
 go_end0
 exact ⟨rfl, HF4.out, by rw [HX0.out]; first | exact HW4.out | simpa only [List.append_assoc] using HW4.out⟩
theorem simple_10 (hx : x = te a) (hk : f.k = 10) (hA : PutE a) (hK : Kids w m S v [a]) (hN : ∀ i, S i -> i < N) (hT : TabN N w) :
 Puts N W tb x 117 #[.pointer (some ⟨W, 0, none⟩), nv f v] w := by
 have HN := zz hN
 have HT := zz hT
 clear hN hT
 obtain ⟨bv, ov, cv, rfl, hcv, hbv, hn_a⟩ := hK.one1
 obtain ⟨va, HCa, HKa⟩ := hn_a.cs
 obtain ⟨Aa, ca, ba, oa, rfl, h1_, h2_, h3_⟩ := HKa.out.form
 clear h1_ h2_ h3_
 clear hK hn_a
 unfold nv
 have q6 := nk 6 hk rfl
 have q7 := nk 7 hk rfl
 have q8 := nk 8 hk rfl
 have q9 := nk 9 hk rfl
 have q10 := yk hk
 clear hk
 intro acc hw hlen
 have HW0 := zz hw
 have hWl := hw.lt
 have hNw := hw.nle
 have HX0 := zz (show x = te a from hx)
 have HL := zz hlen
 have HF0 := zz (Fx.refl N W w)
 clear hw hlen
 have hbs : bv < w.heap.size := by have := HN.out bv hbv; omega
 have a0 := al8 hbs HCa
 go_enter Tryz.func117, Tryz.ntmps117
 go_wp2_with fail
 obtain ⟨w1, hw1, HB, HXb, hs1⟩ := jb w f (.slice (some ⟨bv, ov, none⟩) 1 cv)
 rw [hw1]
 clear hw1
 obtain ⟨hz1, HF1, HW1⟩ := stb hNw HF0 HW0 HB
 clear HF0 HW0 a0
 have hnb : w.heap.size ≠ W := by have := HF1.out.size; omega
 clear HB
 refine (hA (N := N) (W := W) (tb := tb) (w := w1) (m := m) (S := S) (HKa.out.below HF1.out.below HN.out) HN.out (HT.out.below HF1.out.below) _ HW1.out (by have h := HL.out; rw [HX0.out] at h; (try simp only [List.length_append] at h |-); omega)).mono ?_
 rintro e w2 ⟨rfl, fx, wr⟩
 obtain ⟨hz2, HF2, HW2⟩ := stf HF1 fx wr
 replace HXb := fxx HXb fx hnb
 clear HF1 HW1 fx wr
 go_wp2
 go_end0
 exact ⟨rfl, HF2.out, by rw [HX0.out]; first | exact HW2.out | simpa only [List.append_assoc] using HW2.out⟩
theorem simple_0 (hk : f.k = 0) :
 Puts N W tb [] 117 #[.pointer (some ⟨W, 0, none⟩), nv f (.slice A n c)] w := by
 unfold nv
 have q6 := nk 6 hk rfl
 have q7 := nk 7 hk rfl
 have q8 := nk 8 hk rfl
 have q9 := nk 9 hk rfl
 have q10 := nk 10 hk rfl
 clear hk
 intro acc hw hlen
 have hNw := hw.nle
 have HW0 := zz hw
 clear hw hlen
 have HB := box1 w (.cells #[.int .i64 f.k, .string f.t, .int .i64 f.n, .string f.y, .int .i64 f.s, .int .i64 f.a, .int .i64 f.l, .slice A n c] 25)
 go_enter Tryz.func117, Tryz.ntmps117
 go_wp2
 go_end0
 exact ⟨rfl, Fx.of_below HB.out hNw, by rw [List.append_nil]; exact HW0.out.below HB.out⟩
end
end Go.Proofs.YtmdhjiammcpogaaGreatDoor
