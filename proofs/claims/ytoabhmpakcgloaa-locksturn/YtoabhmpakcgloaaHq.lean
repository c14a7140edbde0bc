/- Layer 11: the landed book: refuse. -/
import Derived.Test.YtoabhmpakcgloaaHm
namespace Go.Proofs.Ytoabhmpakcgloaa
open Go.RowKit

abbrev rf0 : Oper := { dst := some 25, op := Op.move (Operand.tmp 0), type := 24, pos := "waitq.go:149", after := #[], guard := none }
abbrev rf1 : Oper := { dst := some 26, op := Op.nilCheck (Operand.tmp 25), type := 0, pos := "waitq.go:149", after := #[{ on := 0, ground := Ground.data }], guard := none }
abbrev rf2 : Oper := { dst := some 27, op := Op.fieldAddr 78 (Operand.tmp 26) 3, type := 0, pos := "waitq.go:149", after := #[{ on := 1, ground := Ground.data }], guard := none }
abbrev rf3 : Oper := { dst := some 28, op := Op.load 75 (Operand.tmp 27), type := 75, pos := "waitq.go:149", after := #[{ on := 2, ground := Ground.data }], guard := none }
abbrev rf4 : Oper := { dst := some 29, op := Op.load 35 (Operand.tmp 6), type := 35, pos := "waitq.go:149", after := #[], guard := none }
abbrev rf5 : Oper := { dst := some 30, op := Op.move (Operand.tmp 3), type := 3, pos := "waitq.go:149", after := #[], guard := none }
abbrev rf6 : Oper := { dst := some 31, op := Op.build 130 #[(0, Operand.tmp 29), (1, Operand.tmp 30)], type := 130, pos := "waitq.go:149", after := #[{ on := 4, ground := Ground.data }, { on := 5, ground := Ground.data }], guard := none }
abbrev rf7 : Oper := { dst := some 32, op := Op.lookup 75 (Operand.tmp 28) (Operand.tmp 31) true, type := 136, pos := "waitq.go:149", after := #[{ on := 3, ground := Ground.data }, { on := 6, ground := Ground.data }], guard := none }
abbrev rf8 : Oper := { dst := some 24, op := Op.move (Operand.tmp 32), type := 136, pos := "waitq.go:149", after := #[{ on := 7, ground := Ground.data }], guard := none }
abbrev rf9 : Oper := { dst := some 33, op := Op.extract (Operand.tmp 24) 0, type := 33, pos := "waitq.go:149", after := #[{ on := 8, ground := Ground.data }], guard := none }
abbrev rf10 : Oper := { dst := some 34, op := Op.extract (Operand.tmp 24) 1, type := 4, pos := "waitq.go:149", after := #[{ on := 8, ground := Ground.data }, { on := 11, ground := Ground.gcOnly Departure.lateStores }], guard := none }
abbrev rf11 : Oper := { dst := some 9, op := Op.assign (Operand.tmp 33), type := 33, pos := "waitq.go:149", after := #[{ on := 9, ground := Ground.data }, { on := 0, ground := Ground.phase }, { on := 1, ground := Ground.phase }, { on := 2, ground := Ground.phase }, { on := 3, ground := Ground.phase }, { on := 4, ground := Ground.phase }, { on := 5, ground := Ground.phase }, { on := 6, ground := Ground.phase }, { on := 7, ground := Ground.phase }, { on := 8, ground := Ground.phase }, { on := 9, ground := Ground.phase }, { on := 10, ground := Ground.textOnly Departure.lateStores }], guard := none }
abbrev rf12 : Oper := { dst := some 10, op := Op.assign (Operand.tmp 34), type := 4, pos := "waitq.go:149", after := #[{ on := 10, ground := Ground.data }, { on := 11, ground := Ground.chain }, { on := 0, ground := Ground.phase }, { on := 1, ground := Ground.phase }, { on := 2, ground := Ground.phase }, { on := 3, ground := Ground.phase }, { on := 4, ground := Ground.phase }, { on := 5, ground := Ground.phase }, { on := 6, ground := Ground.phase }, { on := 7, ground := Ground.phase }, { on := 8, ground := Ground.phase }, { on := 9, ground := Ground.phase }, { on := 10, ground := Ground.phase }, { on := 11, ground := Ground.phase }], guard := none }

variable {w : World} {B p M C n : Nat} {wv : Value} {sl : List Sl} {full : Int} {en : Ln → Option (Int × Int)} {cl : Int × Int × Int → Option Int}

/-- why a Put is refused -/
def ecC (cl : Int × Int × Int → Option Int) (ws wg rd ar : Int) : Int := if ws = 0 ∧ wg = 0 then 111 else if rd < 1 ∨ 4 < rd then 112 else if (cl (ws, wg, ar)).isSome then 113 else 0

set_option maxRecDepth 100000 in
set_option maxHeartbeats 8000000 in
theorem refuse_is (h : Bk w B p wv M C sl full en cl n) (rs rg rd ws wg ar : Int) :
    Calls Try.prog 45 #[.pointer (some ⟨p, 0, none⟩), rvW rs rg rd, hvW ws wg, .int .i64 ar] w fun e w' => e = .returned (.int .i64 (ecC cl ws wg rd ar)) ∧ Below w.heap.size w w' := by
  obtain ⟨w1, hw1⟩ : ∃ w1, (w.alloc (.cells #[.int .u32 rs, .int .u32 rg, .int .i64 rd] 60)).alloc (.cells #[.int .u32 ws, .int .u32 wg] 35) = w1 := ⟨_, rfl⟩
  have hB1 : Below w.heap.size w w1 := by rw [← hw1]; exact (below1 _ _).trans ((below1 _ _).mono (by simp))
  have h1 := h.below hB1
  have hA : w1.heap[w.heap.size]? = some (.cells #[.int .u32 rs, .int .u32 rg, .int .i64 rd] 60 (0, 0)) := by
    rw [← hw1, (MapKept.heap_alloc _ _).2 _ (by simp)]
    exact heap_new _ _
  have hA2 : w1.heap[w.heap.size + 1]? = some (.cells #[.int .u32 ws, .int .u32 wg] 35 (0, 0)) := by
    rw [← hw1]
    have := heap_new (w.alloc (.cells #[.int .u32 rs, .int .u32 rg, .int .i64 rd] 60)) (.cells #[.int .u32 ws, .int .u32 wg] 35)
    rwa [World.size_alloc] at this
  have x2 : w1.cell? ⟨w.heap.size, 2, none⟩ = some (.int .i64 rd) := by simp [Lib.cell_of_heap hA]
  have y0 : w1.cell? ⟨w.heap.size + 1, 0, none⟩ = some (.int .u32 ws) := by simp [Lib.cell_of_heap hA2]
  have y1 : w1.cell? ⟨w.heap.size + 1, 1, none⟩ = some (.int .u32 wg) := by simp [Lib.cell_of_heap hA2]
  have HB := hide hB1
  have H1 := hide h1
  have HA2 := hide hA2
  clear hB1 h1 hA hA2 h
  go_enter Try.func45, Try.ntmps45
  by_cases hw : ws = 0 ∧ wg = 0
  · obtain ⟨rfl, rfl⟩ := hw
    go_wp2_with fail
    go_ret
    exact ⟨rfl, HB.out⟩
  · have qw : (ws == 0 && wg == 0) = false := by
      cases hq : (ws == 0 && wg == 0) with
      | false => rfl
      | true =>
        rw [Bool.and_eq_true, beq_iff_eq, beq_iff_eq] at hq
        exact absurd hq hw
    have HWW := hide hw
    clear hw
    by_cases hr : rd < 1 ∨ 4 < rd
    · by_cases hr1 : rd < 1
      · have q1 : decide (rd < 1) = true := decide_eq_true hr1
        have HRR := hide hr
        clear hr hr1
        by_cases hws : ws = 0
        · have qs : (ws == 0) = true := by simpa using hws
          have qg : (wg == 0) = false := by rw [qs] at qw; simpa using qw
          clear hws
          go_wp2_with fail
          go_ret
          exact ⟨ret_int (by unfold ecC; rw [if_neg HWW.out, if_pos HRR.out]), HB.out⟩
        · have qs : (ws == 0) = false := by simpa using hws
          clear hws
          go_wp2_with fail
          go_ret
          exact ⟨ret_int (by unfold ecC; rw [if_neg HWW.out, if_pos HRR.out]), HB.out⟩
      · have q1 : decide (rd < 1) = false := decide_eq_false hr1
        have q2 : decide (4 < rd) = true := decide_eq_true (by omega)
        have HRR := hide hr
        clear hr hr1
        by_cases hws : ws = 0
        · have qs : (ws == 0) = true := by simpa using hws
          have qg : (wg == 0) = false := by rw [qs] at qw; simpa using qw
          clear hws
          go_wp2_with fail
          go_ret
          exact ⟨ret_int (by unfold ecC; rw [if_neg HWW.out, if_pos HRR.out]), HB.out⟩
        · have qs : (ws == 0) = false := by simpa using hws
          clear hws
          go_wp2_with fail
          go_ret
          exact ⟨ret_int (by unfold ecC; rw [if_neg HWW.out, if_pos HRR.out]), HB.out⟩
    · have q1 : decide (rd < 1) = false := decide_eq_false (by omega)
      have q2 : decide (4 < rd) = false := decide_eq_false (by omega)
      have HRR := hide hr
      clear hr
      by_cases hws : ws = 0
      · have qs : (ws == 0) = true := by simpa using hws
        have qg : (wg == 0) = false := by rw [qs] at qw; simpa using qw
        clear hws
        go_wp2_with fail
        refine wp_reg (fun _ => False) (R := fun W => Ch (fun _ => False) w1 W) (by kernel_rfl) (Ch.drew _) ?_
        rintro V v zk
        have HV := hide v
        clear v
        have HG := hide (fun wq (zq : Ch (fun _ => False) V wq) => have c := HV.out.trans zq (fun _ _ h => h); have e := Lib.cell_of_heap (c.box HA2.out (fun h => h)); show wq.cell? ⟨p, 3, none⟩ = some (.map (some C)) ∧ wq.cell? ⟨w.heap.size + 1, 0, none⟩ = some (.int .u32 ws) ∧ wq.cell? ⟨w.heap.size + 1, 1, none⟩ = some (.int .u32 wg) ∧ ClMap wq C cl n from ⟨(H1.out.ch c (fun _ _ h => h)).cells.2.2.2, by simp [e], by simp [e], (H1.out.ch c (fun _ _ h => h)).cm⟩)
        apply tk 0 rf0 rfl (by kernel_rfl) (fun _ _ _ h => h) zk
        · intro wq zq
          go_simp
          try rfl
        go_frame
        apply tk 1 rf1 rfl (by kernel_rfl) (fun _ _ _ h => h) zk
        · intro wq zq
          go_simp
          try rfl
        go_frame
        apply tk 2 rf2 rfl (by kernel_rfl) (fun _ _ _ h => h) zk
        · intro wq zq
          go_simp
          try rfl
        go_frame
        apply tk 3 rf3 rfl (by kernel_rfl) (fun _ _ _ h => h) zk
        · intro wq zq
          obtain ⟨s1, s2, s3, -⟩ := HG.out _ zq
          go_simp
          try rfl
        go_frame
        apply tk 4 rf4 rfl (by kernel_rfl) (fun _ _ _ h => h) zk
        · intro wq zq
          obtain ⟨s1, s2, s3, -⟩ := HG.out _ zq
          go_simp
          try rfl
        go_frame
        apply tk 5 rf5 rfl (by kernel_rfl) (fun _ _ _ h => h) zk
        · intro wq zq
          go_simp
          try rfl
        go_frame
        apply tk 6 rf6 rfl (by kernel_rfl) (fun _ _ _ h => h) zk
        · intro wq zq
          go_simp
          try rfl
        go_frame
        apply tk 7 rf7 rfl (by kernel_rfl) (fun _ _ _ h => h) zk
        · intro wq zq
          exact val_lookC (x := (ws, wg, ar)) (.tmp 28) (.tmp 31) rfl rfl rfl (HG.out _ zq).2.2.2
        go_frame
        apply tk 8 rf8 rfl (by kernel_rfl) (fun _ _ _ h => h) zk
        · intro wq zq
          go_simp
          try rfl
        go_frame
        apply tk 9 rf9 rfl (by kernel_rfl) (fun _ _ _ h => h) zk
        · intro wq zq
          go_simp
          try rfl
        go_frame
        apply tk 10 rf10 rfl (by kernel_rfl) (fun _ _ _ h => h) zk
        · intro wq zq
          go_simp
          try rfl
        go_frame
        apply tk 11 rf11 rfl (by kernel_rfl) (fun _ _ _ h => h) zk
        · intro wq zq
          go_simp
          try rfl
        go_frame
        apply tk 12 rf12 rfl (by kernel_rfl) (fun _ _ _ h => h) zk
        · intro wq zq
          go_simp
          try rfl
        go_frame
        refine wpAnyH_done (by kernel_rfl) ?_ _
        have HE := hide (HB.out.trans (Below.mono (Ch.below HV.out (N := w1.heap.size) (Nat.le_refl _) (fun _ _ h => h)) HB.out.size))
        cases hcl : (cl (ws, wg, ar)).isSome
        · go_wp2_with fail
          go_ret
          exact ⟨ret_int (by unfold ecC; rw [if_neg HWW.out, if_neg HRR.out, hcl]; rfl), HE.out⟩
        · go_wp2_with fail
          go_ret
          exact ⟨ret_int (by unfold ecC; rw [if_neg HWW.out, if_neg HRR.out, hcl]; rfl), HE.out⟩
      · have qs : (ws == 0) = false := by simpa using hws
        clear hws
        go_wp2_with fail
        refine wp_reg (fun _ => False) (R := fun W => Ch (fun _ => False) w1 W) (by kernel_rfl) (Ch.drew _) ?_
        rintro V v zk
        have HV := hide v
        clear v
        have HG := hide (fun wq (zq : Ch (fun _ => False) V wq) => have c := HV.out.trans zq (fun _ _ h => h); have e := Lib.cell_of_heap (c.box HA2.out (fun h => h)); show wq.cell? ⟨p, 3, none⟩ = some (.map (some C)) ∧ wq.cell? ⟨w.heap.size + 1, 0, none⟩ = some (.int .u32 ws) ∧ wq.cell? ⟨w.heap.size + 1, 1, none⟩ = some (.int .u32 wg) ∧ ClMap wq C cl n from ⟨(H1.out.ch c (fun _ _ h => h)).cells.2.2.2, by simp [e], by simp [e], (H1.out.ch c (fun _ _ h => h)).cm⟩)
        apply tk 0 rf0 rfl (by kernel_rfl) (fun _ _ _ h => h) zk
        · intro wq zq
          go_simp
          try rfl
        go_frame
        apply tk 1 rf1 rfl (by kernel_rfl) (fun _ _ _ h => h) zk
        · intro wq zq
          go_simp
          try rfl
        go_frame
        apply tk 2 rf2 rfl (by kernel_rfl) (fun _ _ _ h => h) zk
        · intro wq zq
          go_simp
          try rfl
        go_frame
        apply tk 3 rf3 rfl (by kernel_rfl) (fun _ _ _ h => h) zk
        · intro wq zq
          obtain ⟨s1, s2, s3, -⟩ := HG.out _ zq
          go_simp
          try rfl
        go_frame
        apply tk 4 rf4 rfl (by kernel_rfl) (fun _ _ _ h => h) zk
        · intro wq zq
          obtain ⟨s1, s2, s3, -⟩ := HG.out _ zq
          go_simp
          try rfl
        go_frame
        apply tk 5 rf5 rfl (by kernel_rfl) (fun _ _ _ h => h) zk
        · intro wq zq
          go_simp
          try rfl
        go_frame
        apply tk 6 rf6 rfl (by kernel_rfl) (fun _ _ _ h => h) zk
        · intro wq zq
          go_simp
          try rfl
        go_frame
        apply tk 7 rf7 rfl (by kernel_rfl) (fun _ _ _ h => h) zk
        · intro wq zq
          exact val_lookC (x := (ws, wg, ar)) (.tmp 28) (.tmp 31) rfl rfl rfl (HG.out _ zq).2.2.2
        go_frame
        apply tk 8 rf8 rfl (by kernel_rfl) (fun _ _ _ h => h) zk
        · intro wq zq
          go_simp
          try rfl
        go_frame
        apply tk 9 rf9 rfl (by kernel_rfl) (fun _ _ _ h => h) zk
        · intro wq zq
          go_simp
          try rfl
        go_frame
        apply tk 10 rf10 rfl (by kernel_rfl) (fun _ _ _ h => h) zk
        · intro wq zq
          go_simp
          try rfl
        go_frame
        apply tk 11 rf11 rfl (by kernel_rfl) (fun _ _ _ h => h) zk
        · intro wq zq
          go_simp
          try rfl
        go_frame
        apply tk 12 rf12 rfl (by kernel_rfl) (fun _ _ _ h => h) zk
        · intro wq zq
          go_simp
          try rfl
        go_frame
        refine wpAnyH_done (by kernel_rfl) ?_ _
        have HE := hide (HB.out.trans (Below.mono (Ch.below HV.out (N := w1.heap.size) (Nat.le_refl _) (fun _ _ h => h)) HB.out.size))
        cases hcl : (cl (ws, wg, ar)).isSome
        · go_wp2_with fail
          go_ret
          exact ⟨ret_int (by unfold ecC; rw [if_neg HWW.out, if_neg HRR.out, hcl]; rfl), HE.out⟩
        · go_wp2_with fail
          go_ret
          exact ⟨ret_int (by unfold ecC; rw [if_neg HWW.out, if_neg HRR.out, hcl]; rfl), HE.out⟩

end Go.Proofs.Ytoabhmpakcgloaa
