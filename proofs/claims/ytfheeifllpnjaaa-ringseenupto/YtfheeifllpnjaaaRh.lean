/- Layer 12: All of the landed ring of ints, and of no ring. -/
import Derived.Test.YtfheeifllpnjaaaRg
import Derived.Test.YtfheeifllpnjaaaRl
namespace Go.Proofs.Ytfheeifllpnjaaa
open Go.RowKit Go.Shelf

attribute [local go_sem] Oper.semAt_some

theorem run_equalIn_func_nil {P : Program} (w : World) (d : Nat) (t : TypeId) {ps rs : Array TypeId} {vd : Bool} (fn : Fn) (fi lb : Array Value) (h : P.underlying t = some (.func ps rs vd)) :
    (Op.equalIn (d + 1) t (.func fn fi lb) .nilFunc).run P w = .ok false w := by
  simp [Op.equalIn, run_underlying h]
theorem run_eql_func_nil {P : Program} (w : World) (t : TypeId) {ps rs : Array TypeId} {vd : Bool} (fn : Fn) (fi lb : Array Value) (h : P.underlying t = some (.func ps rs vd)) :
    (binOp .eql t (.func fn fi lb) .nilFunc).run P w = .ok (.bool false) w := by
  have := run_equalIn_func_nil (P := P) w 9999 t fn fi lb h
  unfold binOp
  simp only [Sem.run_bind, Op.equal, Op.maxDepth, this, Result.andThen]
  rfl
theorem seq_some (gf : Nat) (lb : Array Value) (w : World) : (binOp .eql 56 (.func (.func gf) #[] lb) .nilFunc).run Try.prog w = .ok (.bool false) w :=
  run_eql_func_nil w _ _ _ _ Try.underlying56

theorem grown_below {w w' : World} (h : Below w.heap.size w w') : w.grownBy w' none := ⟨h.os, h.tape, h.output, h.size, fun b hb _ => h.block b hb⟩
theorem abides_below {β : Type} {B : Nat} {J : β → World → Prop} (h : AbidesFrom B J) {s : β} {w w' : World} (hs : J s w) (hb : Below w.heap.size w w') : J s w' := h s w w' none hs (grown_below hb) (fun _ e => by cases e)

set_option maxRecDepth 100000 in
set_option maxHeartbeats 2000000 in
theorem stops_is {w : World} {B : Nat} {F : Nat → Prop} {bx p : Nat} {xs : List Int} {m : Nat} (n : Nat) (hn : 3 ≤ n) (hb : w.heap[bx]? = some (.cells #[.pointer (some ⟨p, 0, none⟩)] 24 (0, 0))) (hR : PRI w B F p xs m) :
    SeqIs n Try.prog 27 #[.pointer (some ⟨bx, 0, none⟩)] (xs.map fun x => #[.int .i64 x]) (Kc w.heap.size) w := by
  intro lp J Jx W hW hJ hJx hY h0
  have cW := Ch.of_below (Q := fun _ => False) hW
  have hbW := cW.box hb (fun h => h)
  have b0 : W.cell? ⟨bx, 0, none⟩ = some (.pointer (some ⟨p, 0, none⟩)) := by simp [Lib.cell_of_heap hbW]
  have HY := hide hY
  obtain ⟨g, f, pl, hR⟩ := hR.below hW
  have hl1 : xs.length ≤ 100 := Nat.le_trans hR.lies.cnt hR.n1
  clear hY
  refine callsIn_of_wp Try.func27 rfl trivial ?_ rfl
  simp only [Try.ntmps27, List.size_toArray, List.length_cons, List.length_nil, Nat.reduceAdd, Nat.reduceSub, Array.replicate_succ, Array.replicate_zero, List.push_toArray, List.append_toArray, List.nil_append, List.cons_append]
  gi_wp2
  refine ⟨trivial, fun _ => by omega, (callsIn_wide.2 (held_is hR)).mono ?_⟩
  rintro e W2 ⟨rfl, hrow, hb2⟩
  have hJ2 := abides_below hJ h0 hb2
  have s2 := hb2.size
  have sW := hW.size
  gi_wp2
  gi_loopw [8] (fun iv wr => ∃ i : Nat, iv = .int .i64 (i : Int) ∧ i ≤ xs.length ∧ J i wr ∧ Hid (wr.heap[W.heap.size]? = some (.cells (xs.map vfI).toArray 3 (0, 0))) ∧ W.heap.size ≤ wr.heap.size) (fun iv _ => xs.length - (intOf iv).toNat)
  case atStart => exact ⟨0, rfl, Nat.zero_le _, hJ2, hide hrow, s2⟩
  case round =>
    obtain ⟨i, rfl, hi, hJi, hri, sr⟩ := hrel
    by_cases hlt : i < xs.length
    · have q1 : decide ((i : Int) < (xs.length : Int)) = true := decide_eq_true (by omega)
      have y0 : wr.cell? ⟨W.heap.size, i, none⟩ = some (.int .i64 xs[i]) := by simp [Lib.cell_of_heap hri.out, hlt, vfI]
      have hYi := HY.out i (by simpa using hlt) _ hJi
      rw [List.getElem_map] at hYi
      generalize xs[i] = z at y0 hYi
      obtain ⟨fn, tmps, assign, body, hy, hR⟩ := hYi
      gi_wp2
      refine ⟨fun _ => by omega, hR.mono ?_⟩
      rintro e W3 (⟨rfl, hJ4, hk3⟩ | ⟨rfl, hJx3⟩)
      · have s3 := hk3.size
        have hr3 := hide (hk3.blk _ _ _ _ sW hri.out)
        gi_wp2
        go_roundw
        case rel => exact ⟨i + 1, by go_num, by omega, hJ4, hr3, by omega⟩
        case measure => simp [intOf]; omega
      · gi_wp2
        refine bodyPost_ret (results_none rfl _ _ _) rfl ?_
        exact ⟨⟨_, rfl⟩, .inr ⟨i + 1, by simp; omega, hJx3⟩⟩
    · have q1 : decide ((i : Int) < (xs.length : Int)) = false := decide_eq_false (by omega)
      gi_wp2
      go_end0
      obtain rfl : i = xs.length := by omega
      exact ⟨⟨_, rfl⟩, .inl (by rw [List.length_map]; exact hJi)⟩

theorem all_is (w : World) (pv : Value) (hp : pv.oneCell' = true) : Calls Try.prog 24 #[pv] w fun e w' => e = .returned (.func (.func 27) #[] #[.pointer (some ⟨w.heap.size, 0, none⟩)]) ∧ w' = w.alloc (.cells #[pv] 24) := by
  go_enter Try.func24, Try.ntmps24
  go_wp2
  go_ret
  exact ⟨rfl, rfl⟩

theorem put_nil (w : World) (x : Int) : Calls Try.prog 9 #[.pointer none, .int .i64 x] w fun e w' => e = .returned (.int .i64 1) ∧ w' = w := by
  go_enter Try.func9, Try.ntmps9
  go_wp2
  go_ret
  exact ⟨rfl, rfl⟩
theorem take_nil (w : World) : Calls Try.prog 11 #[.pointer none] w fun e w' => e = .returned (.tuple #[.int .i64 0, .int .i64 1]) ∧ w' = w := by
  go_enter Try.func11, Try.ntmps11
  go_wp2
  go_ret2
  exact ⟨rfl, rfl⟩
theorem at_nil (w : World) (x : Int) : Calls Try.prog 13 #[.pointer none, .int .i64 x] w fun e w' => e = .returned (.tuple #[.int .i64 0, .int .i64 1]) ∧ w' = w := by
  go_enter Try.func13, Try.ntmps13
  go_wp2
  go_ret2
  exact ⟨rfl, rfl⟩
theorem len_nil (w : World) : Calls Try.prog 16 #[.pointer none] w fun e w' => e = .returned (.int .i64 0) ∧ w' = w := by
  go_enter Try.func16, Try.ntmps16
  go_wp2
  go_ret
  exact ⟨rfl, rfl⟩
theorem cap_nil (w : World) : Calls Try.prog 18 #[.pointer none] w fun e w' => e = .returned (.int .i64 0) ∧ w' = w := by
  go_enter Try.func18, Try.ntmps18
  go_wp2
  go_ret
  exact ⟨rfl, rfl⟩
theorem held_nil (w : World) : Calls Try.prog 28 #[.pointer none] w fun e w' => e = .returned (.slice none 0 0) ∧ w' = w := by
  go_enter Try.func28, Try.ntmps28
  go_wp2
  go_ret
  exact ⟨rfl, rfl⟩

set_option maxRecDepth 100000 in
set_option maxHeartbeats 2000000 in
theorem stops_nil {w : World} {bx : Nat} (n : Nat) (hn : 3 ≤ n) (hb : w.heap[bx]? = some (.cells #[.pointer none] 24 (0, 0))) : SeqIs n Try.prog 27 #[.pointer (some ⟨bx, 0, none⟩)] [] (Kc w.heap.size) w := by
  intro lp J Jx W hW hJ hJx hY h0
  have cW := Ch.of_below (Q := fun _ => False) hW
  have hbW := cW.box hb (fun h => h)
  have b0 : W.cell? ⟨bx, 0, none⟩ = some (.pointer none) := by simp [Lib.cell_of_heap hbW]
  clear hY
  refine callsIn_of_wp Try.func27 rfl trivial ?_ rfl
  simp only [Try.ntmps27, List.size_toArray, List.length_cons, List.length_nil, Nat.reduceAdd, Nat.reduceSub, Array.replicate_succ, Array.replicate_zero, List.push_toArray, List.append_toArray, List.nil_append, List.cons_append]
  gi_wp2
  refine ⟨trivial, fun _ => by omega, (callsIn_wide.2 (held_nil W)).mono ?_⟩
  rintro e W ⟨rfl, rfl⟩
  gi_wp2
  gi_loopw [8] (fun iv wr => iv = .int .i64 0 ∧ J 0 wr) (fun _ _ => 0)
  case atStart => exact ⟨rfl, h0⟩
  case round =>
    obtain ⟨rfl, hJi⟩ := hrel
    gi_wp2
    go_end0
    exact ⟨⟨_, rfl⟩, .inl hJi⟩

end Go.Proofs.Ytfheeifllpnjaaa
