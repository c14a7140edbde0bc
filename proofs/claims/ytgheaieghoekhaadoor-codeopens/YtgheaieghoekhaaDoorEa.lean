/- A strings.Builder that lies at the head of a writer. -/
import Derived.Test.YtgheaieghoekhaaDoorCl
import Derived.OwnWalk
import Derived.Lib.Builder
import Derived.Lib.AppendStr
import Derived.Lib.UnsafeStr
namespace Go.Proofs.YtgheaieghoekhaaDoor
open Go.RowKit

theorem bSize : (Tryd.prog.info? 75).map (·.size) = some 2 := by kernel_rfl

theorem bLies : liesAt Tryd.prog Tryd.prog.depth 77 (2 / Tryd.prog.cellsOf 77) 0 75 1 = true := by kernel_rfl

set_option maxHeartbeats 1000000 in
set_option maxRecDepth 100000 in
theorem bcheck_used (b : Nat) (w : World) (h0 : w.cell? ⟨b, 0, none⟩ = some (.pointer (some ⟨b, 0, none⟩))) :
    Calls Tryd.prog 74 #[.pointer (some ⟨b, 0, none⟩)] w fun e w' => e = .returned (.tuple #[]) ∧ w' = w := by
  obtain ⟨j, hj, _⟩ := Option.map_eq_some_iff.1 bSize
  go_enter Tryd.func74, Tryd.ntmps74
  go_wp2
  rw [Lib.run_neq_ptr_same w _ Tryd.underlying72 hj]
  go_wp2
  go_end0
  exact ⟨rfl, rfl⟩

set_option maxHeartbeats 1000000 in
set_option maxRecDepth 100000 in
theorem bcheck_fresh (b : Nat) (w : World) (h0 : w.cell? ⟨b, 0, none⟩ = some (.pointer none)) (hsh : w.shape? b = some (77, 2)) (hfz : w.frozen? ⟨b, 0, none⟩ = false) :
    Calls Tryd.prog 74 #[.pointer (some ⟨b, 0, none⟩)] w fun e w' => e = .returned (.tuple #[]) ∧ w' = w.setCell ⟨b, 0, none⟩ (.pointer (some ⟨b, 0, none⟩)) := by
  obtain ⟨j, hj, hjs⟩ := Option.map_eq_some_iff.1 bSize
  go_enter Tryd.func74, Tryd.ntmps74
  go_wp2
  rw [Lib.run_to_unsafe w ⟨b, 0, none⟩ Tryd.underlying72 Tryd.underlying142 hj (by rw [hjs]; decide) hsh (Nat.zero_lt_succ 1)]
  simp only [Result.andThen]
  rw [Oper.upon_value]
  go_wp2
  rw [run_callFunc_extern Tryd.func81 (by kernel_rfl) (by kernel_rfl) (by kernel_rfl) (e := Extern.AbiNoEscape.same) (by kernel_rfl)]
  rw [Lib.run_noEscape]
  simp only [Result.andThen]
  rw [Oper.upon_value]
  go_wp2
  rw [Lib.run_from_unsafe w ⟨b, 0, none⟩ Tryd.underlying142 Tryd.underlying72 hj hsh bLies]
  simp only [Result.andThen]
  rw [Oper.upon_value]
  go_wp2
  go_end0
  exact ⟨rfl, rfl⟩

/-- blocks below N stay, and so do all but the writer's and rows of bytes -/
structure Fx (N W : Nat) (w w' : World) : Prop where
  os : w'.os = w.os
  tape : w'.tape = w.tape
  output : w'.output = w.output
  size : w.heap.size ≤ w'.heap.size
  low : ∀ i, i < N → w'.heap[i]? = w.heap[i]?
  blk : ∀ i cs T fz, i ≠ W → T ≠ 5 → w.heap[i]? = some (.cells cs T fz) → w'.heap[i]? = w.heap[i]?

theorem Fx.refl (N W : Nat) (w : World) : Fx N W w w := ⟨rfl, rfl, rfl, Nat.le_refl _, fun _ _ => rfl, fun _ _ _ _ _ _ _ => rfl⟩

theorem Fx.trans {N W : Nat} {a b c : World} (h : Fx N W a b) (k : Fx N W b c) : Fx N W a c :=
  ⟨k.os.trans h.os, k.tape.trans h.tape, k.output.trans h.output, Nat.le_trans h.size k.size, fun i hi => (k.low i hi).trans (h.low i hi), fun i cs T fz h1 h2 h3 => (k.blk i cs T fz h1 h2 ((h.blk i cs T fz h1 h2 h3).trans h3)).trans (h.blk i cs T fz h1 h2 h3)⟩

theorem Fx.of_below {N W : Nat} {w w' : World} (h : Below w.heap.size w w') (hN : N ≤ w.heap.size) : Fx N W w w' :=
  ⟨h.os, h.tape, h.output, h.size, fun i hi => h.block i (by omega), fun i cs T fz _ _ h3 => h.block i (Array.getElem?_eq_some_iff.1 h3).1⟩

theorem Fx.below {N W : Nat} {w w' : World} (h : Fx N W w w') : Below N w w' := ⟨h.os, h.tape, h.output, h.size, h.low⟩

/-- a writer: what is written, how far in -/
structure Wr (N W : Nat) (acc : List UInt8) (w : World) : Prop where
  le : N ≤ W
  blk : ∃ p v, (p = .pointer none ∨ p = .pointer (some ⟨W, 0, none⟩)) ∧ w.heap[W]? = some (.cells #[p, v] 77 (0, 0)) ∧ w.ownsRow N 5 1 v acc.length (Lib.byteCells acc) ∧ (acc = [] → v = .slice none 0 0)

theorem Wr.lt {N W : Nat} {acc : List UInt8} {w : World} (h : Wr N W acc w) : W < w.heap.size := by
  obtain ⟨p, v, _, h1, _⟩ := h.blk
  exact (Array.getElem?_eq_some_iff.1 h1).1

theorem Wr.nle {N W : Nat} {acc : List UInt8} {w : World} (h : Wr N W acc w) : N ≤ w.heap.size := by
  have := h.lt
  have := h.le
  omega

theorem Wr.below {N W : Nat} {acc : List UInt8} {w w' : World} (h : Wr N W acc w) (hb : Below w.heap.size w w') : Wr N W acc w' := by
  have hl := h.lt
  obtain ⟨h0, p, v, h1, h2, h3, h4⟩ := h
  refine ⟨h0, p, v, h1, (hb.block W hl).trans h2, h3.kept (row := none) ⟨hb.os, hb.tape, hb.output, hb.size, fun k hk _ => hb.block k hk⟩ ?_, h4⟩
  cases v.ownBlock <;> simp

theorem ba_empty {s : ByteArray} (h : s.data.toList = []) : s = ByteArray.empty := by
  obtain ⟨d⟩ := s
  have : d = #[] := by simpa using h
  subst this
  rfl

theorem infoW : (Tryd.prog.info? 5).map (fun i => (i.zero, i.size, i.bytes)) = some (some (.int .u8 0), 1, 1) := by kernel_rfl

set_option maxHeartbeats 2000000 in
set_option maxRecDepth 100000 in
/-- the builder's own address is there now -/
theorem bcheck_is {N W : Nat} {acc : List UInt8} {w : World} (h : Wr N W acc w) :
    Calls Tryd.prog 74 #[.pointer (some ⟨W, 0, none⟩)] w fun e w' => e = .returned (.tuple #[]) ∧ Fx N W w w' ∧ ∃ v, w'.heap[W]? = some (.cells #[.pointer (some ⟨W, 0, none⟩), v] 77 (0, 0)) ∧ w'.ownsRow N 5 1 v acc.length (Lib.byteCells acc) ∧ (acc = [] → v = .slice none 0 0) := by
  have hW := h.le
  obtain ⟨h0, p, v, h1, h2, h3, h4⟩ := h
  rcases h1 with rfl | rfl
  · refine (bcheck_fresh W w (by simp [World.cell?, h2]) (by simp [World.shape?, h2]) (by simp [World.frozen?, h2])).mono ?_
    rintro e w' ⟨rfl, rfl⟩
    have hne : v.ownBlock ≠ some W := Lib.ownBlock_ne h3 h2 (by decide)
    refine ⟨rfl, ⟨rfl, rfl, rfl, by simp [World.setCell], fun i hi => Below.heap_setCell _ _ _ _ (by show i ≠ W; omega), fun i cs T fz g1 _ _ => Below.heap_setCell _ _ _ _ g1⟩, v, ?_, ?_, h4⟩
    · simp [World.setCell, Array.getElem?_modify, h2]
    · exact h3.kept (row := some W) ⟨rfl, rfl, rfl, by simp [World.setCell], fun k _ hk => Below.heap_setCell _ _ _ _ (fun e => hk (by simp [e]))⟩ (Or.inr hne)
  · refine (bcheck_used W w (by simp [World.cell?, h2])).mono ?_
    rintro e w' ⟨rfl, rfl⟩
    exact ⟨rfl, Fx.refl _ _ _, v, h2, h3, h4⟩

set_option maxHeartbeats 2000000 in
set_option maxRecDepth 100000 in
theorem wstr_is {N W : Nat} {acc : List UInt8} {w : World} (s : ByteArray) (h : Wr N W acc w) (hlen : acc.length + s.size ≤ 140737488355328) :
    Calls Tryd.prog 51 #[.pointer (some ⟨W, 0, none⟩), .string s] w fun e w' => e = .returned (.tuple #[.int .i64 s.size, .nilIface]) ∧ Fx N W w w' ∧ Wr N W (acc ++ s.data.toList) w' := by
  obtain ⟨i0, hi, hpa⟩ := Option.map_eq_some_iff.1 infoW
  simp only [Prod.mk.injEq] at hpa
  obtain ⟨hz0, hz1, hz2⟩ := hpa
  have hNw := h.nle
  have hNW := h.le
  have H := hide h
  clear h
  go_enter Tryd.func51, Tryd.ntmps51
  go_wp2_with fail
  refine (bcheck_is (unhide H)).mono ?_
  rintro e w1 ⟨rfl, fx, v, hbk, hown, hnil⟩
  have HNIL := hide hnil
  clear hnil
  have hs1 := fx.size
  have HF := hide fx
  clear fx H
  have c1 : w1.cell? ⟨W, 1, none⟩ = some v := by rw [Lib.cell_of_heap hbk]; rfl
  have HBK := hide hbk
  have HOWN := hide hown
  clear hbk hown
  go_wp2_with (at_builtin; refine Lib.wpList_append_own_string _ rfl _ _ 73 9 rfl N 5 i0 Tryd.underlying73 Tryd.underlying9 hi hz0 hz1 hz2 _ _ _ rfl (unhide HOWN) s rfl ?c3 ?c4 ?c5 ?_)
  case c3 => unfold maxLen; omega
  case c4 => omega
  case c5 => omega
  intro v' w2 hown' hgrow hnl
  have HNL := hide (show acc ++ s.data.toList = [] → v' = .slice none 0 0 from fun e => hnl.2 (by
    obtain ⟨e1, e2⟩ := List.append_eq_nil_iff.1 e
    exact ⟨unhide HNIL e1, ba_empty e2⟩))
  clear hnl
  have hlt : W < w1.heap.size := (Array.getElem?_eq_some_iff.1 (unhide HBK)).1
  have hne : v.ownBlock ≠ some W := Lib.ownBlock_ne (unhide HOWN) (unhide HBK) (by decide)
  have hb2 : w2.heap[W]? = some (.cells #[.pointer (some ⟨W, 0, none⟩), v] 77 (0, 0)) := by
    rw [hgrow.block W hlt (fun e => hne e.symm)]
    exact unhide HBK
  have HF2 := hide (show Fx N W w1 w2 from ⟨hgrow.os, hgrow.tape, hgrow.output, hgrow.size, fun i hi => hgrow.block i (by omega) (fun e => by have := ((unhide HOWN).lt i e.symm).1; omega), fun i cs T fz g1 g2 g3 => hgrow.block i (Array.getElem?_eq_some_iff.1 g3).1 (fun e => Lib.ownBlock_ne (unhide HOWN) g3 g2 e.symm)⟩)
  have d1 : w2.cell? ⟨W, 1, none⟩ = some v := by rw [Lib.cell_of_heap hb2]; rfl
  have f1 : w2.frozen? ⟨W, 1, none⟩ = false := Lib.frozen_of_heap hb2 1
  obtain ⟨ao, n', cap, rfl⟩ : ∃ ao n' cap, v' = .slice ao n' cap := by
    rcases hown'.2 with ⟨hv, _⟩ | ⟨g, cap, cur, hv, _⟩
    · exact ⟨_, _, _, hv⟩
    · exact ⟨_, _, _, hv⟩
  have HB2 := hide hb2
  have HO2 := hide hown'
  clear hb2 hown' hgrow c1 hne hlt
  go_wp2
  go_ret2
  have hb2 := unhide HB2
  have hown' := unhide HO2
  have hne' := Lib.ownBlock_ne hown' hb2 (by decide)
  refine ⟨rfl, (unhide HF).trans ((unhide HF2).trans ⟨rfl, rfl, rfl, by simp [World.setCell], fun i hi => Below.heap_setCell _ _ _ _ (by show i ≠ W; omega), fun i cs T fz g1 _ _ => Below.heap_setCell _ _ _ _ g1⟩), hNW, .pointer (some ⟨W, 0, none⟩), .slice ao n' cap, Or.inr rfl, ?_, ?_, unhide HNL⟩
  · simp [World.setCell, Array.getElem?_modify, hb2]
  · rw [List.length_append, Lib.byteCells_append, Array.length_toList]
    exact hown'.kept (row := some W) ⟨rfl, rfl, rfl, by simp [World.setCell], fun k _ hk => Below.heap_setCell _ _ _ _ (fun e => hk (by simp [e]))⟩ (Or.inr hne')

theorem one_new (w : World) (v : Value) (t : TypeId) : ∀ (j : Nat) (u : Value), [v][j]? = some u → (w.alloc (.cells #[v] t)).cell? ((⟨w.heap.size, 0, none⟩ : Addr).add j) = some u := by
  intro j u hj
  match j, hj with
  | 0, hj => simp at hj; subst hj; simp [Addr.add]

theorem cells_snoc (acc : List UInt8) (c : UInt8) : Lib.byteCells acc ++ [.int .u8 (c.toNat : Int)] = Lib.byteCells (acc ++ [c]) := by
  unfold Lib.byteCells
  simp

set_option maxHeartbeats 2000000 in
set_option maxRecDepth 100000 in
theorem wbyte_is {N W : Nat} {acc : List UInt8} {w : World} (c : UInt8) (h : Wr N W acc w) (hlen : acc.length + 1 ≤ 140737488355328) :
    Calls Tryd.prog 75 #[.pointer (some ⟨W, 0, none⟩), .int .u8 (c.toNat : Int)] w fun e w' => e = .returned .nilIface ∧ Fx N W w w' ∧ Wr N W (acc ++ [c]) w' := by
  obtain ⟨i0, hi, hpa⟩ := Option.map_eq_some_iff.1 infoW
  simp only [Prod.mk.injEq] at hpa
  obtain ⟨hz0, hz1, hz2⟩ := hpa
  have hNw := h.nle
  have hNW := h.le
  have H := hide h
  clear h
  go_enter Tryd.func75, Tryd.ntmps75
  go_wp2_with fail
  refine (bcheck_is (unhide H)).mono ?_
  rintro e w1 ⟨rfl, fx, v, hbk, hown, hnil⟩
  have HNIL := hide hnil
  clear hnil
  have hs1 := fx.size
  have HF := hide fx
  clear fx H
  have c1 : w1.cell? ⟨W, 1, none⟩ = some v := by rw [Lib.cell_of_heap hbk]; rfl
  have HBK := hide hbk
  have HOWN := hide hown
  clear hbk hown
  have hm1 : acc.length + 1 ≤ maxLen := by unfold maxLen; omega
  have hN1 : N ≤ w1.heap.size := by omega
  go_wp2_with (first
    | (at_builtin; refine wpList_append_own _ rfl _ _ 73 rfl N 5 i0 (.int .u8 0) 1 1 Tryd.underlying73 hi hz0 hz1 hz2 rfl (by decide) _ _ _ rfl ((unhide HOWN).alloc _) ⟨w1.heap.size, 0, none⟩ 1 1 [.int .u8 (c.toNat : Int)] rfl rfl (one_new _ _ _) (by intro u hu; simp at hu; subst hu; rfl) hm1 (by omega) (by rw [World.size_alloc]; omega) ?_)
    | fail)
  intro v' w2 hown' hgrow _
  have HNL := hide (show acc ++ [c] = [] → v' = .slice none 0 0 from fun e => by simp at e)
  have hlt : W < w1.heap.size := (Array.getElem?_eq_some_iff.1 (unhide HBK)).1
  have hne : v.ownBlock ≠ some W := Lib.ownBlock_ne (unhide HOWN) (unhide HBK) (by decide)
  have hb2 : w2.heap[W]? = some (.cells #[.pointer (some ⟨W, 0, none⟩), v] 77 (0, 0)) := by
    rw [hgrow.block W (by rw [World.size_alloc]; omega) (fun e => hne e.symm), Below.heap_alloc _ _ _ hlt]
    exact unhide HBK
  have HF2 := hide (show Fx N W w1 w2 from ⟨hgrow.os, hgrow.tape, hgrow.output, Nat.le_trans (by rw [World.size_alloc]; omega) hgrow.size, fun i hi => (hgrow.block i (by rw [World.size_alloc]; omega) (fun e => by have := ((unhide HOWN).lt i e.symm).1; omega)).trans (Below.heap_alloc _ _ _ (by omega)), fun i cs T fz g1 g2 g3 => (hgrow.block i (by rw [World.size_alloc]; have := (Array.getElem?_eq_some_iff.1 g3).1; omega) (fun e => Lib.ownBlock_ne (unhide HOWN) g3 g2 e.symm)).trans (Below.heap_alloc _ _ _ (Array.getElem?_eq_some_iff.1 g3).1)⟩)
  have d1 : w2.cell? ⟨W, 1, none⟩ = some v := by rw [Lib.cell_of_heap hb2]; rfl
  have f1 : w2.frozen? ⟨W, 1, none⟩ = false := Lib.frozen_of_heap hb2 1
  obtain ⟨ao, n', cap, rfl⟩ : ∃ ao n' cap, v' = .slice ao n' cap := by
    rcases hown'.2 with ⟨hv, _⟩ | ⟨g, cap, cur, hv, _⟩
    · exact ⟨_, _, _, hv⟩
    · exact ⟨_, _, _, hv⟩
  have HB2 := hide hb2
  have HO2 := hide hown'
  clear hb2 hown' hgrow c1 hne hlt
  go_wp2
  go_ret
  have hb2 := unhide HB2
  have hown' := unhide HO2
  have hne' := Lib.ownBlock_ne hown' hb2 (by decide)
  refine ⟨rfl, (unhide HF).trans ((unhide HF2).trans ⟨rfl, rfl, rfl, by simp [World.setCell], fun i hi => Below.heap_setCell _ _ _ _ (by show i ≠ W; omega), fun i cs T fz g1 _ _ => Below.heap_setCell _ _ _ _ g1⟩), hNW, .pointer (some ⟨W, 0, none⟩), .slice ao n' cap, Or.inr rfl, ?_, ?_, unhide HNL⟩
  · simp [World.setCell, Array.getElem?_modify, hb2]
  · rw [← cells_snoc, List.length_append]
    exact hown'.kept (row := some W) ⟨rfl, rfl, rfl, by simp [World.setCell], fun k _ hk => Below.heap_setCell _ _ _ _ (fun e => hk (by simp [e]))⟩ (Or.inr hne')

theorem cellsU8 : Tryd.prog.cellsOf 5 = 1 := by kernel_rfl

set_option maxHeartbeats 2000000 in
set_option maxRecDepth 100000 in
theorem wtold_is {N W : Nat} {acc : List UInt8} {w : World} (h : Wr N W acc w) (hz : acc ≠ []) :
    Calls Tryd.prog 29 #[.pointer (some ⟨W, 0, none⟩)] w fun e w' => e = .returned (.string ⟨acc.toArray⟩) ∧ Below N w w' := by
  have hNw := h.nle
  obtain ⟨h0, p, v, h1, hbk, hown, hnil⟩ := h
  have hl0 : acc.length ≠ 0 := by simpa using hz
  obtain ⟨g, cap, cur, rfl, hbg, hg, hnc, hcm, hcs, htake⟩ : ∃ g cap cur, v = .slice (some ⟨g, 0, none⟩) acc.length cap ∧ N ≤ g ∧ w.heap[g]? = some (.cells cur 5 (0, 0)) ∧ acc.length ≤ cap ∧ cap ≤ maxLen ∧ cur.size = cap * 1 ∧ cur.toList.take (acc.length * 1) = Lib.byteCells acc := by
    rcases hown.2 with ⟨_, hz⟩ | ⟨g, cap, cur, hv, r⟩
    · exact absurd hz hl0
    · exact ⟨g, cap, cur, hv, r⟩
  have c1 : w.drew.cell? ⟨W, 1, none⟩ = some (.slice (some ⟨g, 0, none⟩) acc.length cap) := by
    have : w.drew.heap[W]? = some (.cells #[p, .slice (some ⟨g, 0, none⟩) acc.length cap] 77 (0, 0)) := hbk
    rw [Lib.cell_of_heap this]; rfl
  have hSD : (Builtin.unsafeSliceData_ #[73] 119 #[.slice (some ⟨g, 0, none⟩) acc.length cap]).run Tryd.prog w.drew = .ok (.pointer (some ⟨g, 0, none⟩)) w.drew :=
    Lib.run_unsafeSliceData_row _ _ _ _ _ _ (by omega)
  have hUS : (Builtin.unsafeString_ #[119, 3] 9 #[.pointer (some ⟨g, 0, none⟩), .int .i64 acc.length]).run Tryd.prog w.drew = .ok (.string ⟨acc.toArray⟩) (w.drew.freeze ⟨g, 0, none⟩ acc.length) := by
    refine Lib.run_unsafeString_row w.drew 119 3 9 5 Tryd.underlying119 cellsU8 g cur.size (by have hg' : w.drew.heap[g]? = some (.cells cur 5 (0, 0)) := hg; simp [World.shape?, hg']) acc hz (by omega) (by unfold maxLen at hcm; omega) ?_
    intro j x hx
    have := hown.cells (g := g) rfl j (.int .u8 x.toNat) (by simp [Lib.byteCells, hx])
    exact this
  clear hown hnil hbk hg htake hz
  go_enter Tryd.func29, Tryd.ntmps29
  go_wp2
  go_region
  all_goals (go_wp2; go_ret; exact ⟨rfl, Lib.below_freeze (Below.drew (Below.refl N w)) (p := ⟨g, 0, none⟩) hbg _⟩)

end Go.Proofs.YtgheaieghoekhaaDoor
