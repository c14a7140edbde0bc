/- Layer 11: the landed book: know. -/
import Derived.Test.YthnnpipekeanoaaHp
namespace Go.Proofs.Ythnnpipekeanoaa
open Go.RowKit

abbrev kn0 : Oper := { dst := some 7, op := Op.fieldAddr 41 (Operand.tmp 3) 0, type := 0, pos := "waitq.go:160", after := #[], guard := none }
abbrev kn1 : Oper := { dst := some 8, op := Op.load 39 (Operand.tmp 7), type := 39, pos := "waitq.go:160", after := #[{ on := 0, ground := Ground.data }], guard := none }
abbrev kn2 : Oper := { dst := some 9, op := Op.binOp BinOp.eql 39 (Operand.tmp 8) (Operand.const (Value.int IntKind.u32 0)) 39, type := 4, pos := "waitq.go:160", after := #[{ on := 1, ground := Ground.data }], guard := none }
abbrev kn3 : Oper := { dst := some 10, op := Op.move (Operand.tmp 9), type := 4, pos := "waitq.go:160", after := #[{ on := 2, ground := Ground.data }], guard := none }
abbrev kn4 : Oper := { dst := some 11, op := Op.fieldAddr 41 (Operand.tmp 3) 0, type := 0, pos := "waitq.go:160", after := #[{ on := 3, ground := Ground.guard }], guard := some (3, false) }
abbrev kn5 : Oper := { dst := some 12, op := Op.load 39 (Operand.tmp 11), type := 39, pos := "waitq.go:160", after := #[{ on := 4, ground := Ground.data }, { on := 3, ground := Ground.guard }], guard := some (3, false) }
abbrev kn6 : Oper := { dst := some 13, op := Op.convert 39 99 (Operand.tmp 12), type := 99, pos := "waitq.go:160", after := #[{ on := 5, ground := Ground.data }, { on := 3, ground := Ground.guard }], guard := some (3, false) }
abbrev kn7 : Oper := { dst := some 14, op := Op.move (Operand.tmp 0), type := 25, pos := "waitq.go:160", after := #[{ on := 3, ground := Ground.guard }], guard := some (3, false) }
abbrev kn8 : Oper := { dst := some 15, op := Op.nilCheck (Operand.tmp 14), type := 0, pos := "waitq.go:160", after := #[{ on := 7, ground := Ground.data }, { on := 3, ground := Ground.guard }], guard := some (3, false) }
abbrev kn9 : Oper := { dst := some 16, op := Op.fieldAddr 73 (Operand.tmp 15) 0, type := 0, pos := "waitq.go:160", after := #[{ on := 8, ground := Ground.data }, { on := 3, ground := Ground.guard }], guard := some (3, false) }
abbrev kn10 : Oper := { dst := some 17, op := Op.load 71 (Operand.tmp 16), type := 71, pos := "waitq.go:160", after := #[{ on := 9, ground := Ground.data }, { on := 3, ground := Ground.guard }], guard := some (3, false) }
abbrev kn11 : Oper := { dst := some 18, op := Op.call { callee := Callee.builtin Builtin.len, args := #[Operand.tmp 17], argTypes := #[71] }, type := 3, pos := "waitq.go:160", after := #[{ on := 10, ground := Ground.data }, { on := 3, ground := Ground.guard }], guard := some (3, false) }
abbrev kn12 : Oper := { dst := some 19, op := Op.convert 3 99 (Operand.tmp 18), type := 99, pos := "waitq.go:160", after := #[{ on := 11, ground := Ground.data }, { on := 3, ground := Ground.guard }], guard := some (3, false) }
abbrev kn13 : Oper := { dst := some 20, op := Op.binOp BinOp.gtr 99 (Operand.tmp 13) (Operand.tmp 19) 99, type := 4, pos := "waitq.go:160", after := #[{ on := 6, ground := Ground.data }, { on := 12, ground := Ground.data }, { on := 3, ground := Ground.guard }], guard := some (3, false) }
abbrev kn14 : Oper := { dst := some 21, op := Op.pick (Operand.tmp 10) (Operand.const (Value.bool true)) (Operand.tmp 20), type := 4, pos := "waitq.go:160", after := #[{ on := 3, ground := Ground.data }, { on := 13, ground := Ground.data }], guard := none }
abbrev kn15 : Oper := { dst := some 22, op := Op.move (Operand.tmp 21), type := 4, pos := "waitq.go:160", after := #[{ on := 14, ground := Ground.data }, { on := 3, ground := Ground.chain }], guard := none }
abbrev kn16 : Oper := { dst := some 23, op := Op.move (Operand.tmp 0), type := 25, pos := "waitq.go:160", after := #[{ on := 15, ground := Ground.guard }], guard := some (15, false) }
abbrev kn17 : Oper := { dst := some 24, op := Op.fieldAddr 41 (Operand.tmp 3) 0, type := 0, pos := "waitq.go:160", after := #[{ on := 15, ground := Ground.guard }], guard := some (15, false) }
abbrev kn18 : Oper := { dst := some 25, op := Op.load 39 (Operand.tmp 24), type := 39, pos := "waitq.go:160", after := #[{ on := 17, ground := Ground.data }, { on := 15, ground := Ground.guard }], guard := some (15, false) }
abbrev kn19 : Oper := { dst := some 26, op := Op.call { callee := Callee.value (Operand.func 37), args := #[Operand.tmp 23, Operand.tmp 25], argTypes := #[25, 39] }, type := 86, pos := "waitq.go:160", after := #[{ on := 16, ground := Ground.data }, { on := 18, ground := Ground.data }, { on := 15, ground := Ground.chain }, { on := 15, ground := Ground.guard }], guard := some (15, false) }
abbrev kn20 : Oper := { dst := some 27, op := Op.nilCheck (Operand.tmp 26), type := 0, pos := "waitq.go:160", after := #[{ on := 19, ground := Ground.data }, { on := 15, ground := Ground.guard }], guard := some (15, false) }
abbrev kn21 : Oper := { dst := some 28, op := Op.fieldAddr 92 (Operand.tmp 27) 1, type := 0, pos := "waitq.go:160", after := #[{ on := 20, ground := Ground.data }, { on := 15, ground := Ground.guard }], guard := some (15, false) }
abbrev kn22 : Oper := { dst := some 29, op := Op.fieldAddr 57 (Operand.tmp 28) 0, type := 0, pos := "waitq.go:160", after := #[{ on := 21, ground := Ground.data }, { on := 15, ground := Ground.guard }], guard := some (15, false) }
abbrev kn23 : Oper := { dst := some 30, op := Op.load 41 (Operand.tmp 29), type := 41, pos := "waitq.go:160", after := #[{ on := 22, ground := Ground.data }, { on := 15, ground := Ground.guard }], guard := some (15, false) }
abbrev kn24 : Oper := { dst := some 31, op := Op.load 41 (Operand.tmp 3), type := 41, pos := "waitq.go:160", after := #[{ on := 15, ground := Ground.guard }], guard := some (15, false) }
abbrev kn25 : Oper := { dst := some 32, op := Op.binOp BinOp.neq 41 (Operand.tmp 30) (Operand.tmp 31) 41, type := 4, pos := "waitq.go:160", after := #[{ on := 23, ground := Ground.data }, { on := 24, ground := Ground.data }, { on := 15, ground := Ground.guard }], guard := some (15, false) }
abbrev kn26 : Oper := { dst := some 33, op := Op.pick (Operand.tmp 22) (Operand.const (Value.bool true)) (Operand.tmp 32), type := 4, pos := "waitq.go:160", after := #[{ on := 15, ground := Ground.data }, { on := 25, ground := Ground.data }], guard := none }

variable {w : World} {B p M C n : Nat} {wv : Value} {sl : List Sl} {full : Int} {en : Ln → Option (Int × Int)} {cl : Int × Int × Int → Option Int}

set_option maxRecDepth 100000 in
set_option maxHeartbeats 8000000 in
theorem know_out (h : Bk w B p wv M C sl full en cl n) (hl : sl.length ≤ 100001) {s g : Int} (hu : 0 ≤ s ∧ s ≤ 4294967295) (hs : s = 0 ∨ (sl.length : Int) < s) :
    Calls Try.prog 33 #[.pointer (some ⟨p, 0, none⟩), hvW s g] w fun e w' => e = .returned (.int .i64 111) ∧ Below w.heap.size w w' := by
  obtain ⟨a, c, rfl, hc, -⟩ := h.row.form
  have e64 : IntKind.u64.wrap s = s := by have h1 := hu.1; have h2 := hu.2; rw [IntKind.wrap_u64]; omega
  have el64 : IntKind.u64.wrap (sl.length : Int) = (sl.length : Int) := by rw [IntKind.wrap_u64]; omega
  obtain ⟨w1, hw1⟩ : ∃ w1, w.alloc (.cells #[.int .u32 s, .int .u32 g] 41) = w1 := ⟨_, rfl⟩
  have hB1 : Below w.heap.size w w1 := by rw [← hw1]; exact below1 _ _
  have HB := hide hB1
  have H1 := hide (h.below hB1)
  have HA := hide (show w1.heap[w.heap.size]? = some (.cells #[.int .u32 s, .int .u32 g] 41 (0, 0)) by rw [← hw1]; exact heap_new _ _)
  clear hB1 h
  go_enter Try.func33, Try.ntmps33
  go_wp2_with fail
  clear hw1
  by_cases h0 : s = 0
  · have q0 : (s == 0) = true := by simpa using h0
    have HS0 := hide h0
    clear h0 hs hu
    refine wp_reg (fun _ => False) (R := fun W => Ch (fun _ => False) w1 W) (by kernel_rfl) (Ch.drew _) ?_
    rintro V v zk
    have HV := hide v
    clear v
    have HG := hide (fun wq (zq : Ch (fun _ => False) V wq) => have cz := HV.out.trans zq (fun _ _ h => h); have e := Lib.cell_of_heap (cz.box HA.out (fun h => h)); show wq.cell? ⟨p, 0, none⟩ = some (.slice a sl.length c) ∧ wq.cell? ⟨w.heap.size, 0, none⟩ = some (.int .u32 s) ∧ wq.cell? ⟨w.heap.size, 1, none⟩ = some (.int .u32 g) from ⟨(H1.out.ch cz (fun _ _ h => h)).cells.1, by simp [e], by simp [e]⟩)
    apply tk 0 kn0 rfl (by kernel_rfl) (fun _ _ _ h => h) zk
    · intro wq zq
      go_simp
      try rfl
    go_frame
    apply tk 1 kn1 rfl (by kernel_rfl) (fun _ _ _ h => h) zk
    · intro wq zq
      obtain ⟨s1, s2, s3⟩ := HG.out _ zq
      go_simp
      try rfl
    go_frame
    apply tk 2 kn2 rfl (by kernel_rfl) (fun _ _ _ h => h) zk
    · intro wq zq
      go_simp
      try rfl
    go_frame
    apply tk 3 kn3 rfl (by kernel_rfl) (fun _ _ _ h => h) zk
    · intro wq zq
      go_simp
      try rfl
    go_frame
    apply sk 4 kn4 rfl (by kernel_rfl) (fun _ _ _ h => h) zk
    go_frame
    apply sk 5 kn5 rfl (by kernel_rfl) (fun _ _ _ h => h) zk
    go_frame
    apply sk 6 kn6 rfl (by kernel_rfl) (fun _ _ _ h => h) zk
    go_frame
    apply sk 7 kn7 rfl (by kernel_rfl) (fun _ _ _ h => h) zk
    go_frame
    apply sk 8 kn8 rfl (by kernel_rfl) (fun _ _ _ h => h) zk
    go_frame
    apply sk 9 kn9 rfl (by kernel_rfl) (fun _ _ _ h => h) zk
    go_frame
    apply sk 10 kn10 rfl (by kernel_rfl) (fun _ _ _ h => h) zk
    go_frame
    apply sk 11 kn11 rfl (by kernel_rfl) (fun _ _ _ h => h) zk
    go_frame
    apply sk 12 kn12 rfl (by kernel_rfl) (fun _ _ _ h => h) zk
    go_frame
    apply sk 13 kn13 rfl (by kernel_rfl) (fun _ _ _ h => h) zk
    go_frame
    apply tk 14 kn14 rfl (by kernel_rfl) (fun _ _ _ h => h) zk
    · intro wq zq
      go_simp
      try rfl
    go_frame
    apply tk 15 kn15 rfl (by kernel_rfl) (fun _ _ _ h => h) zk
    · intro wq zq
      go_simp
      try rfl
    go_frame
    apply sk 16 kn16 rfl (by kernel_rfl) (fun _ _ _ h => h) zk
    go_frame
    apply sk 17 kn17 rfl (by kernel_rfl) (fun _ _ _ h => h) zk
    go_frame
    apply sk 18 kn18 rfl (by kernel_rfl) (fun _ _ _ h => h) zk
    go_frame
    apply sk 19 kn19 rfl (by kernel_rfl) (fun _ _ _ h => h) zk
    go_frame
    apply sk 20 kn20 rfl (by kernel_rfl) (fun _ _ _ h => h) zk
    go_frame
    apply sk 21 kn21 rfl (by kernel_rfl) (fun _ _ _ h => h) zk
    go_frame
    apply sk 22 kn22 rfl (by kernel_rfl) (fun _ _ _ h => h) zk
    go_frame
    apply sk 23 kn23 rfl (by kernel_rfl) (fun _ _ _ h => h) zk
    go_frame
    apply sk 24 kn24 rfl (by kernel_rfl) (fun _ _ _ h => h) zk
    go_frame
    apply sk 25 kn25 rfl (by kernel_rfl) (fun _ _ _ h => h) zk
    go_frame
    apply tk 26 kn26 rfl (by kernel_rfl) (fun _ _ _ h => h) zk
    · intro wq zq
      go_simp
      try rfl
    go_frame
    refine wpAnyH_done (by kernel_rfl) ?_ _
    have HE := hide (HB.out.trans (Below.mono (Ch.below HV.out (N := w1.heap.size) (Nat.le_refl _) (fun _ _ h => h)) HB.out.size))
    go_wp2_with fail
    go_ret
    exact ⟨rfl, HE.out⟩
  · have q0 : (s == 0) = false := by simpa using h0
    have q1 : decide ((sl.length : Int) < s) = true := decide_eq_true (hs.resolve_left h0)
    clear h0 hs hu
    refine wp_reg (fun _ => False) (R := fun W => Ch (fun _ => False) w1 W) (by kernel_rfl) (Ch.drew _) ?_
    rintro V v zk
    have HV := hide v
    clear v
    have HG := hide (fun wq (zq : Ch (fun _ => False) V wq) => have cz := HV.out.trans zq (fun _ _ h => h); have e := Lib.cell_of_heap (cz.box HA.out (fun h => h)); show wq.cell? ⟨p, 0, none⟩ = some (.slice a sl.length c) ∧ wq.cell? ⟨w.heap.size, 0, none⟩ = some (.int .u32 s) ∧ wq.cell? ⟨w.heap.size, 1, none⟩ = some (.int .u32 g) from ⟨(H1.out.ch cz (fun _ _ h => h)).cells.1, by simp [e], by simp [e]⟩)
    apply tk 0 kn0 rfl (by kernel_rfl) (fun _ _ _ h => h) zk
    · intro wq zq
      go_simp
      try rfl
    go_frame
    apply tk 1 kn1 rfl (by kernel_rfl) (fun _ _ _ h => h) zk
    · intro wq zq
      obtain ⟨s1, s2, s3⟩ := HG.out _ zq
      go_simp
      try rfl
    go_frame
    apply tk 2 kn2 rfl (by kernel_rfl) (fun _ _ _ h => h) zk
    · intro wq zq
      go_simp
      try rfl
    go_frame
    apply tk 3 kn3 rfl (by kernel_rfl) (fun _ _ _ h => h) zk
    · intro wq zq
      go_simp
      try rfl
    go_frame
    apply tk 4 kn4 rfl (by kernel_rfl) (fun _ _ _ h => h) zk
    · intro wq zq
      go_simp
      try rfl
    go_frame
    apply tk 5 kn5 rfl (by kernel_rfl) (fun _ _ _ h => h) zk
    · intro wq zq
      obtain ⟨s1, s2, s3⟩ := HG.out _ zq
      go_simp
      try rfl
    go_frame
    apply tk 6 kn6 rfl (by kernel_rfl) (fun _ _ _ h => h) zk
    · intro wq zq
      go_simp
      try rfl
    go_frame
    apply tk 7 kn7 rfl (by kernel_rfl) (fun _ _ _ h => h) zk
    · intro wq zq
      go_simp
      try rfl
    go_frame
    apply tk 8 kn8 rfl (by kernel_rfl) (fun _ _ _ h => h) zk
    · intro wq zq
      go_simp
      try rfl
    go_frame
    apply tk 9 kn9 rfl (by kernel_rfl) (fun _ _ _ h => h) zk
    · intro wq zq
      go_simp
      try rfl
    go_frame
    apply tk 10 kn10 rfl (by kernel_rfl) (fun _ _ _ h => h) zk
    · intro wq zq
      obtain ⟨s1, s2, s3⟩ := HG.out _ zq
      go_simp
      try rfl
    go_frame
    apply tk 11 kn11 rfl (by kernel_rfl) (fun _ _ _ h => h) zk
    · intro wq zq
      go_simp
      try rfl
    go_frame
    apply tk 12 kn12 rfl (by kernel_rfl) (fun _ _ _ h => h) zk
    · intro wq zq
      go_simp
      try rfl
    go_frame
    apply tk 13 kn13 rfl (by kernel_rfl) (fun _ _ _ h => h) zk
    · intro wq zq
      go_simp
      try rfl
    go_frame
    apply tk 14 kn14 rfl (by kernel_rfl) (fun _ _ _ h => h) zk
    · intro wq zq
      go_simp
      try rfl
    go_frame
    apply tk 15 kn15 rfl (by kernel_rfl) (fun _ _ _ h => h) zk
    · intro wq zq
      go_simp
      try rfl
    go_frame
    apply sk 16 kn16 rfl (by kernel_rfl) (fun _ _ _ h => h) zk
    go_frame
    apply sk 17 kn17 rfl (by kernel_rfl) (fun _ _ _ h => h) zk
    go_frame
    apply sk 18 kn18 rfl (by kernel_rfl) (fun _ _ _ h => h) zk
    go_frame
    apply sk 19 kn19 rfl (by kernel_rfl) (fun _ _ _ h => h) zk
    go_frame
    apply sk 20 kn20 rfl (by kernel_rfl) (fun _ _ _ h => h) zk
    go_frame
    apply sk 21 kn21 rfl (by kernel_rfl) (fun _ _ _ h => h) zk
    go_frame
    apply sk 22 kn22 rfl (by kernel_rfl) (fun _ _ _ h => h) zk
    go_frame
    apply sk 23 kn23 rfl (by kernel_rfl) (fun _ _ _ h => h) zk
    go_frame
    apply sk 24 kn24 rfl (by kernel_rfl) (fun _ _ _ h => h) zk
    go_frame
    apply sk 25 kn25 rfl (by kernel_rfl) (fun _ _ _ h => h) zk
    go_frame
    apply tk 26 kn26 rfl (by kernel_rfl) (fun _ _ _ h => h) zk
    · intro wq zq
      go_simp
      try rfl
    go_frame
    refine wpAnyH_done (by kernel_rfl) ?_ _
    have HE := hide (HB.out.trans (Below.mono (Ch.below HV.out (N := w1.heap.size) (Nat.le_refl _) (fun _ _ h => h)) HB.out.size))
    go_wp2_with fail
    go_ret
    exact ⟨rfl, HE.out⟩

set_option maxRecDepth 100000 in
set_option maxHeartbeats 8000000 in
theorem know_at (h : Bk w B p wv M C sl full en cl n) (hl : sl.length ≤ 100001) {i : Nat} (hi : i < sl.length) {g : Int} {b : Bool} (hb : (sl[i].r.ms == (i : Int) + 1 && sl[i].r.mg == g) = b) :
    Calls Try.prog 33 #[.pointer (some ⟨p, 0, none⟩), hvW ((i : Int) + 1) g] w fun e w' => e = .returned (.int .i64 (if b then 0 else 111)) ∧ Below w.heap.size w w' := by
  obtain ⟨gb, c, -, rfl, -⟩ := h.at (by omega)
  have e64 : IntKind.u64.wrap ((i : Int) + 1) = (i : Int) + 1 := by rw [IntKind.wrap_u64]; omega
  have el64 : IntKind.u64.wrap (sl.length : Int) = (sl.length : Int) := by rw [IntKind.wrap_u64]; omega
  have q0 : (((i : Int) + 1) == 0) = false := by simp; omega
  have q1 : decide ((sl.length : Int) < (i : Int) + 1) = false := decide_eq_false (by omega)
  obtain ⟨w1, hw1⟩ : ∃ w1, w.alloc (.cells #[.int .u32 ((i : Int) + 1), .int .u32 g] 41) = w1 := ⟨_, rfl⟩
  have hB1 : Below w.heap.size w w1 := by rw [← hw1]; exact below1 _ _
  have HB := hide hB1
  have H1 := hide (h.below hB1)
  have HA := hide (show w1.heap[w.heap.size]? = some (.cells #[.int .u32 ((i : Int) + 1), .int .u32 g] 41 (0, 0)) by rw [← hw1]; exact heap_new _ _)
  clear hB1 h
  go_enter Try.func33, Try.ntmps33
  go_wp2_with fail
  clear hw1
  cases hm : (sl[i].r.ms == (i : Int) + 1)
  · rw [hm] at hb
    have hb : b = false := hb.symm
    subst hb
    refine wp_reg (fun _ => False) (R := fun W => Ch (fun _ => False) w1 W) (by kernel_rfl) (Ch.drew _) ?_
    rintro V v zk
    have HV := hide v
    clear v
    have HG := hide (fun wq (zq : Ch (fun _ => False) V wq) => have cz := HV.out.trans zq (fun _ _ h => h); have e := Lib.cell_of_heap (cz.box HA.out (fun h => h)); show wq.cell? ⟨p, 0, none⟩ = some (.slice (some ⟨gb, 0, none⟩) sl.length c) ∧ wq.cell? ⟨w.heap.size, 0, none⟩ = some (.int .u32 ((i : Int) + 1)) ∧ wq.cell? ⟨w.heap.size, 1, none⟩ = some (.int .u32 g) from ⟨(H1.out.ch cz (fun _ _ h => h)).cells.1, by simp [e], by simp [e]⟩)
    apply tk 0 kn0 rfl (by kernel_rfl) (fun _ _ _ h => h) zk
    · intro wq zq
      go_simp
      try rfl
    go_frame
    apply tk 1 kn1 rfl (by kernel_rfl) (fun _ _ _ h => h) zk
    · intro wq zq
      obtain ⟨s1, s2, s3⟩ := HG.out _ zq
      go_simp
      try rfl
    go_frame
    apply tk 2 kn2 rfl (by kernel_rfl) (fun _ _ _ h => h) zk
    · intro wq zq
      go_simp
      try rfl
    go_frame
    apply tk 3 kn3 rfl (by kernel_rfl) (fun _ _ _ h => h) zk
    · intro wq zq
      go_simp
      try rfl
    go_frame
    apply tk 4 kn4 rfl (by kernel_rfl) (fun _ _ _ h => h) zk
    · intro wq zq
      go_simp
      try rfl
    go_frame
    apply tk 5 kn5 rfl (by kernel_rfl) (fun _ _ _ h => h) zk
    · intro wq zq
      obtain ⟨s1, s2, s3⟩ := HG.out _ zq
      go_simp
      try rfl
    go_frame
    apply tk 6 kn6 rfl (by kernel_rfl) (fun _ _ _ h => h) zk
    · intro wq zq
      go_simp
      try rfl
    go_frame
    apply tk 7 kn7 rfl (by kernel_rfl) (fun _ _ _ h => h) zk
    · intro wq zq
      go_simp
      try rfl
    go_frame
    apply tk 8 kn8 rfl (by kernel_rfl) (fun _ _ _ h => h) zk
    · intro wq zq
      go_simp
      try rfl
    go_frame
    apply tk 9 kn9 rfl (by kernel_rfl) (fun _ _ _ h => h) zk
    · intro wq zq
      go_simp
      try rfl
    go_frame
    apply tk 10 kn10 rfl (by kernel_rfl) (fun _ _ _ h => h) zk
    · intro wq zq
      obtain ⟨s1, s2, s3⟩ := HG.out _ zq
      go_simp
      try rfl
    go_frame
    apply tk 11 kn11 rfl (by kernel_rfl) (fun _ _ _ h => h) zk
    · intro wq zq
      go_simp
      try rfl
    go_frame
    apply tk 12 kn12 rfl (by kernel_rfl) (fun _ _ _ h => h) zk
    · intro wq zq
      go_simp
      try rfl
    go_frame
    apply tk 13 kn13 rfl (by kernel_rfl) (fun _ _ _ h => h) zk
    · intro wq zq
      go_simp
      try rfl
    go_frame
    apply tk 14 kn14 rfl (by kernel_rfl) (fun _ _ _ h => h) zk
    · intro wq zq
      go_simp
      try rfl
    go_frame
    apply tk 15 kn15 rfl (by kernel_rfl) (fun _ _ _ h => h) zk
    · intro wq zq
      go_simp
      try rfl
    go_frame
    apply tk 16 kn16 rfl (by kernel_rfl) (fun _ _ _ h => h) zk
    · intro wq zq
      go_simp
      try rfl
    go_frame
    apply tk 17 kn17 rfl (by kernel_rfl) (fun _ _ _ h => h) zk
    · intro wq zq
      go_simp
      try rfl
    go_frame
    apply tk 18 kn18 rfl (by kernel_rfl) (fun _ _ _ h => h) zk
    · intro wq zq
      obtain ⟨s1, s2, s3⟩ := HG.out _ zq
      go_simp
      try rfl
    go_frame
    apply tk 24 kn24 rfl (by kernel_rfl) (fun _ _ _ h => h) zk
    · intro wq zq
      obtain ⟨s1, s2, s3⟩ := HG.out _ zq
      go_simp
      try rfl
    go_frame
    refine Go.Proofs.Ythnnpipekeanoaa.rd 19 kn19 rfl (by kernel_rfl) fun K hK => ?_
    go_simp
    refine (at_is (HG.out _ zk).1 hi hl).mono ?_
    rintro e W4 ⟨rfl, rfl⟩
    go_wp2_with fail
    refine hK.out _ _ ?_ (fun zk => ?_)
    · exact zk
    clear hK K
    try go_frame
    apply tk 20 kn20 rfl (by kernel_rfl) (fun _ _ _ h => h) zk
    · intro wq zq
      go_simp
      try rfl
    go_frame
    apply tk 21 kn21 rfl (by kernel_rfl) (fun _ _ _ h => h) zk
    · intro wq zq
      go_simp
      try rfl
    go_frame
    apply tk 22 kn22 rfl (by kernel_rfl) (fun _ _ _ h => h) zk
    · intro wq zq
      go_simp
      try rfl
    go_frame
    apply tk 23 kn23 rfl (by kernel_rfl) (fun _ _ _ h => h) zk
    · intro wq zq
      have k := H1.out.ch (HV.out.trans zq (fun _ _ h => h)) (fun _ _ h => h)
      have s5 := (k.cell hi (j := 1) (u := .int .u32 sl[i].r.ms) rfl (o := i18 i 1) rfl).1
      have s6 := (k.cell hi (j := 2) (u := .int .u32 sl[i].r.mg) rfl (o := i18 i 2) rfl).1
      unfold i18 at s5 s6
      go_simp
      try rfl
    go_frame
    apply tk 25 kn25 rfl (by kernel_rfl) (fun _ _ _ h => h) zk
    · intro wq zq
      go_simp
      try rfl
    go_frame
    apply tk 26 kn26 rfl (by kernel_rfl) (fun _ _ _ h => h) zk
    · intro wq zq
      go_simp
      try rfl
    go_frame
    refine wpAnyH_done (by kernel_rfl) ?_ _
    have HE := hide (HB.out.trans (Below.mono (Ch.below HV.out (N := w1.heap.size) (Nat.le_refl _) (fun _ _ h => h)) HB.out.size))
    go_wp2_with fail
    go_ret
    exact ⟨rfl, HE.out⟩
  · cases hg : (sl[i].r.mg == g)
    · rw [hm, hg] at hb
      have hb : b = false := hb.symm
      subst hb
      refine wp_reg (fun _ => False) (R := fun W => Ch (fun _ => False) w1 W) (by kernel_rfl) (Ch.drew _) ?_
      rintro V v zk
      have HV := hide v
      clear v
      have HG := hide (fun wq (zq : Ch (fun _ => False) V wq) => have cz := HV.out.trans zq (fun _ _ h => h); have e := Lib.cell_of_heap (cz.box HA.out (fun h => h)); show wq.cell? ⟨p, 0, none⟩ = some (.slice (some ⟨gb, 0, none⟩) sl.length c) ∧ wq.cell? ⟨w.heap.size, 0, none⟩ = some (.int .u32 ((i : Int) + 1)) ∧ wq.cell? ⟨w.heap.size, 1, none⟩ = some (.int .u32 g) from ⟨(H1.out.ch cz (fun _ _ h => h)).cells.1, by simp [e], by simp [e]⟩)
      apply tk 0 kn0 rfl (by kernel_rfl) (fun _ _ _ h => h) zk
      · intro wq zq
        go_simp
        try rfl
      go_frame
      apply tk 1 kn1 rfl (by kernel_rfl) (fun _ _ _ h => h) zk
      · intro wq zq
        obtain ⟨s1, s2, s3⟩ := HG.out _ zq
        go_simp
        try rfl
      go_frame
      apply tk 2 kn2 rfl (by kernel_rfl) (fun _ _ _ h => h) zk
      · intro wq zq
        go_simp
        try rfl
      go_frame
      apply tk 3 kn3 rfl (by kernel_rfl) (fun _ _ _ h => h) zk
      · intro wq zq
        go_simp
        try rfl
      go_frame
      apply tk 4 kn4 rfl (by kernel_rfl) (fun _ _ _ h => h) zk
      · intro wq zq
        go_simp
        try rfl
      go_frame
      apply tk 5 kn5 rfl (by kernel_rfl) (fun _ _ _ h => h) zk
      · intro wq zq
        obtain ⟨s1, s2, s3⟩ := HG.out _ zq
        go_simp
        try rfl
      go_frame
      apply tk 6 kn6 rfl (by kernel_rfl) (fun _ _ _ h => h) zk
      · intro wq zq
        go_simp
        try rfl
      go_frame
      apply tk 7 kn7 rfl (by kernel_rfl) (fun _ _ _ h => h) zk
      · intro wq zq
        go_simp
        try rfl
      go_frame
      apply tk 8 kn8 rfl (by kernel_rfl) (fun _ _ _ h => h) zk
      · intro wq zq
        go_simp
        try rfl
      go_frame
      apply tk 9 kn9 rfl (by kernel_rfl) (fun _ _ _ h => h) zk
      · intro wq zq
        go_simp
        try rfl
      go_frame
      apply tk 10 kn10 rfl (by kernel_rfl) (fun _ _ _ h => h) zk
      · intro wq zq
        obtain ⟨s1, s2, s3⟩ := HG.out _ zq
        go_simp
        try rfl
      go_frame
      apply tk 11 kn11 rfl (by kernel_rfl) (fun _ _ _ h => h) zk
      · intro wq zq
        go_simp
        try rfl
      go_frame
      apply tk 12 kn12 rfl (by kernel_rfl) (fun _ _ _ h => h) zk
      · intro wq zq
        go_simp
        try rfl
      go_frame
      apply tk 13 kn13 rfl (by kernel_rfl) (fun _ _ _ h => h) zk
      · intro wq zq
        go_simp
        try rfl
      go_frame
      apply tk 14 kn14 rfl (by kernel_rfl) (fun _ _ _ h => h) zk
      · intro wq zq
        go_simp
        try rfl
      go_frame
      apply tk 15 kn15 rfl (by kernel_rfl) (fun _ _ _ h => h) zk
      · intro wq zq
        go_simp
        try rfl
      go_frame
      apply tk 16 kn16 rfl (by kernel_rfl) (fun _ _ _ h => h) zk
      · intro wq zq
        go_simp
        try rfl
      go_frame
      apply tk 17 kn17 rfl (by kernel_rfl) (fun _ _ _ h => h) zk
      · intro wq zq
        go_simp
        try rfl
      go_frame
      apply tk 18 kn18 rfl (by kernel_rfl) (fun _ _ _ h => h) zk
      · intro wq zq
        obtain ⟨s1, s2, s3⟩ := HG.out _ zq
        go_simp
        try rfl
      go_frame
      apply tk 24 kn24 rfl (by kernel_rfl) (fun _ _ _ h => h) zk
      · intro wq zq
        obtain ⟨s1, s2, s3⟩ := HG.out _ zq
        go_simp
        try rfl
      go_frame
      refine Go.Proofs.Ythnnpipekeanoaa.rd 19 kn19 rfl (by kernel_rfl) fun K hK => ?_
      go_simp
      refine (at_is (HG.out _ zk).1 hi hl).mono ?_
      rintro e W4 ⟨rfl, rfl⟩
      go_wp2_with fail
      refine hK.out _ _ ?_ (fun zk => ?_)
      · exact zk
      clear hK K
      try go_frame
      apply tk 20 kn20 rfl (by kernel_rfl) (fun _ _ _ h => h) zk
      · intro wq zq
        go_simp
        try rfl
      go_frame
      apply tk 21 kn21 rfl (by kernel_rfl) (fun _ _ _ h => h) zk
      · intro wq zq
        go_simp
        try rfl
      go_frame
      apply tk 22 kn22 rfl (by kernel_rfl) (fun _ _ _ h => h) zk
      · intro wq zq
        go_simp
        try rfl
      go_frame
      apply tk 23 kn23 rfl (by kernel_rfl) (fun _ _ _ h => h) zk
      · intro wq zq
        have k := H1.out.ch (HV.out.trans zq (fun _ _ h => h)) (fun _ _ h => h)
        have s5 := (k.cell hi (j := 1) (u := .int .u32 sl[i].r.ms) rfl (o := i18 i 1) rfl).1
        have s6 := (k.cell hi (j := 2) (u := .int .u32 sl[i].r.mg) rfl (o := i18 i 2) rfl).1
        unfold i18 at s5 s6
        go_simp
        try rfl
      go_frame
      apply tk 25 kn25 rfl (by kernel_rfl) (fun _ _ _ h => h) zk
      · intro wq zq
        go_simp
        try rfl
      go_frame
      apply tk 26 kn26 rfl (by kernel_rfl) (fun _ _ _ h => h) zk
      · intro wq zq
        go_simp
        try rfl
      go_frame
      refine wpAnyH_done (by kernel_rfl) ?_ _
      have HE := hide (HB.out.trans (Below.mono (Ch.below HV.out (N := w1.heap.size) (Nat.le_refl _) (fun _ _ h => h)) HB.out.size))
      go_wp2_with fail
      go_ret
      exact ⟨rfl, HE.out⟩
    · rw [hm, hg] at hb
      have hb : b = true := hb.symm
      subst hb
      refine wp_reg (fun _ => False) (R := fun W => Ch (fun _ => False) w1 W) (by kernel_rfl) (Ch.drew _) ?_
      rintro V v zk
      have HV := hide v
      clear v
      have HG := hide (fun wq (zq : Ch (fun _ => False) V wq) => have cz := HV.out.trans zq (fun _ _ h => h); have e := Lib.cell_of_heap (cz.box HA.out (fun h => h)); show wq.cell? ⟨p, 0, none⟩ = some (.slice (some ⟨gb, 0, none⟩) sl.length c) ∧ wq.cell? ⟨w.heap.size, 0, none⟩ = some (.int .u32 ((i : Int) + 1)) ∧ wq.cell? ⟨w.heap.size, 1, none⟩ = some (.int .u32 g) from ⟨(H1.out.ch cz (fun _ _ h => h)).cells.1, by simp [e], by simp [e]⟩)
      apply tk 0 kn0 rfl (by kernel_rfl) (fun _ _ _ h => h) zk
      · intro wq zq
        go_simp
        try rfl
      go_frame
      apply tk 1 kn1 rfl (by kernel_rfl) (fun _ _ _ h => h) zk
      · intro wq zq
        obtain ⟨s1, s2, s3⟩ := HG.out _ zq
        go_simp
        try rfl
      go_frame
      apply tk 2 kn2 rfl (by kernel_rfl) (fun _ _ _ h => h) zk
      · intro wq zq
        go_simp
        try rfl
      go_frame
      apply tk 3 kn3 rfl (by kernel_rfl) (fun _ _ _ h => h) zk
      · intro wq zq
        go_simp
        try rfl
      go_frame
      apply tk 4 kn4 rfl (by kernel_rfl) (fun _ _ _ h => h) zk
      · intro wq zq
        go_simp
        try rfl
      go_frame
      apply tk 5 kn5 rfl (by kernel_rfl) (fun _ _ _ h => h) zk
      · intro wq zq
        obtain ⟨s1, s2, s3⟩ := HG.out _ zq
        go_simp
        try rfl
      go_frame
      apply tk 6 kn6 rfl (by kernel_rfl) (fun _ _ _ h => h) zk
      · intro wq zq
        go_simp
        try rfl
      go_frame
      apply tk 7 kn7 rfl (by kernel_rfl) (fun _ _ _ h => h) zk
      · intro wq zq
        go_simp
        try rfl
      go_frame
      apply tk 8 kn8 rfl (by kernel_rfl) (fun _ _ _ h => h) zk
      · intro wq zq
        go_simp
        try rfl
      go_frame
      apply tk 9 kn9 rfl (by kernel_rfl) (fun _ _ _ h => h) zk
      · intro wq zq
        go_simp
        try rfl
      go_frame
      apply tk 10 kn10 rfl (by kernel_rfl) (fun _ _ _ h => h) zk
      · intro wq zq
        obtain ⟨s1, s2, s3⟩ := HG.out _ zq
        go_simp
        try rfl
      go_frame
      apply tk 11 kn11 rfl (by kernel_rfl) (fun _ _ _ h => h) zk
      · intro wq zq
        go_simp
        try rfl
      go_frame
      apply tk 12 kn12 rfl (by kernel_rfl) (fun _ _ _ h => h) zk
      · intro wq zq
        go_simp
        try rfl
      go_frame
      apply tk 13 kn13 rfl (by kernel_rfl) (fun _ _ _ h => h) zk
      · intro wq zq
        go_simp
        try rfl
      go_frame
      apply tk 14 kn14 rfl (by kernel_rfl) (fun _ _ _ h => h) zk
      · intro wq zq
        go_simp
        try rfl
      go_frame
      apply tk 15 kn15 rfl (by kernel_rfl) (fun _ _ _ h => h) zk
      · intro wq zq
        go_simp
        try rfl
      go_frame
      apply tk 16 kn16 rfl (by kernel_rfl) (fun _ _ _ h => h) zk
      · intro wq zq
        go_simp
        try rfl
      go_frame
      apply tk 17 kn17 rfl (by kernel_rfl) (fun _ _ _ h => h) zk
      · intro wq zq
        go_simp
        try rfl
      go_frame
      apply tk 18 kn18 rfl (by kernel_rfl) (fun _ _ _ h => h) zk
      · intro wq zq
        obtain ⟨s1, s2, s3⟩ := HG.out _ zq
        go_simp
        try rfl
      go_frame
      apply tk 24 kn24 rfl (by kernel_rfl) (fun _ _ _ h => h) zk
      · intro wq zq
        obtain ⟨s1, s2, s3⟩ := HG.out _ zq
        go_simp
        try rfl
      go_frame
      refine Go.Proofs.Ythnnpipekeanoaa.rd 19 kn19 rfl (by kernel_rfl) fun K hK => ?_
      go_simp
      refine (at_is (HG.out _ zk).1 hi hl).mono ?_
      rintro e W4 ⟨rfl, rfl⟩
      go_wp2_with fail
      refine hK.out _ _ ?_ (fun zk => ?_)
      · exact zk
      clear hK K
      try go_frame
      apply tk 20 kn20 rfl (by kernel_rfl) (fun _ _ _ h => h) zk
      · intro wq zq
        go_simp
        try rfl
      go_frame
      apply tk 21 kn21 rfl (by kernel_rfl) (fun _ _ _ h => h) zk
      · intro wq zq
        go_simp
        try rfl
      go_frame
      apply tk 22 kn22 rfl (by kernel_rfl) (fun _ _ _ h => h) zk
      · intro wq zq
        go_simp
        try rfl
      go_frame
      apply tk 23 kn23 rfl (by kernel_rfl) (fun _ _ _ h => h) zk
      · intro wq zq
        have k := H1.out.ch (HV.out.trans zq (fun _ _ h => h)) (fun _ _ h => h)
        have s5 := (k.cell hi (j := 1) (u := .int .u32 sl[i].r.ms) rfl (o := i18 i 1) rfl).1
        have s6 := (k.cell hi (j := 2) (u := .int .u32 sl[i].r.mg) rfl (o := i18 i 2) rfl).1
        unfold i18 at s5 s6
        go_simp
        try rfl
      go_frame
      apply tk 25 kn25 rfl (by kernel_rfl) (fun _ _ _ h => h) zk
      · intro wq zq
        go_simp
        try rfl
      go_frame
      apply tk 26 kn26 rfl (by kernel_rfl) (fun _ _ _ h => h) zk
      · intro wq zq
        go_simp
        try rfl
      go_frame
      refine wpAnyH_done (by kernel_rfl) ?_ _
      have HE := hide (HB.out.trans (Below.mono (Ch.below HV.out (N := w1.heap.size) (Nat.le_refl _) (fun _ _ h => h)) HB.out.size))
      go_wp2_with fail
      go_ret
      exact ⟨rfl, HE.out⟩

end Go.Proofs.Ythnnpipekeanoaa
