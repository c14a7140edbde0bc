/- Layer 11: the landed book: leastFree. -/
import Derived.Test.YtoabhmpakcgloaaHn
namespace Go.Proofs.Ytoabhmpakcgloaa
open Go.RowKit

def i18 (m j : Nat) : Nat := m * 18 + j
abbrev lf0 : Oper := { dst := some 10, op := Op.move (Operand.tmp 0), type := 24, pos := "waitq.go:172", after := #[], guard := none }
abbrev lf1 : Oper := { dst := some 11, op := Op.nilCheck (Operand.tmp 10), type := 0, pos := "waitq.go:172", after := #[{ on := 0, ground := Ground.data }], guard := none }
abbrev lf2 : Oper := { dst := some 12, op := Op.fieldAddr 78 (Operand.tmp 11) 1, type := 0, pos := "waitq.go:172", after := #[{ on := 1, ground := Ground.data }], guard := none }
abbrev lf3 : Oper := { dst := some 13, op := Op.load 33 (Operand.tmp 12), type := 33, pos := "waitq.go:172", after := #[{ on := 2, ground := Ground.data }], guard := none }
abbrev lf4 : Oper := { dst := some 14, op := Op.convert 33 3 (Operand.tmp 13), type := 3, pos := "waitq.go:172", after := #[{ on := 3, ground := Ground.data }], guard := none }
abbrev lf5 : Oper := { dst := some 15, op := Op.move (Operand.tmp 0), type := 24, pos := "waitq.go:172", after := #[], guard := none }
abbrev lf6 : Oper := { dst := some 16, op := Op.nilCheck (Operand.tmp 15), type := 0, pos := "waitq.go:172", after := #[{ on := 5, ground := Ground.data }], guard := none }
abbrev lf7 : Oper := { dst := some 17, op := Op.fieldAddr 78 (Operand.tmp 16) 0, type := 0, pos := "waitq.go:172", after := #[{ on := 6, ground := Ground.data }], guard := none }
abbrev lf8 : Oper := { dst := some 18, op := Op.load 76 (Operand.tmp 17), type := 76, pos := "waitq.go:172", after := #[{ on := 7, ground := Ground.data }], guard := none }
abbrev lf9 : Oper := { dst := some 19, op := Op.call { callee := Callee.builtin Builtin.len, args := #[Operand.tmp 18], argTypes := #[76] }, type := 3, pos := "waitq.go:172", after := #[{ on := 8, ground := Ground.data }], guard := none }
abbrev lf10 : Oper := { dst := some 20, op := Op.binOp BinOp.leq 3 (Operand.tmp 14) (Operand.tmp 19) 3, type := 4, pos := "waitq.go:172", after := #[{ on := 4, ground := Ground.data }, { on := 9, ground := Ground.data }], guard := none }
abbrev lf11 : Oper := { dst := some 21, op := Op.move (Operand.tmp 20), type := 4, pos := "waitq.go:172", after := #[{ on := 10, ground := Ground.data }], guard := none }
abbrev lf12 : Oper := { dst := some 22, op := Op.move (Operand.tmp 0), type := 24, pos := "waitq.go:172", after := #[{ on := 11, ground := Ground.guard }], guard := some (11, true) }
abbrev lf13 : Oper := { dst := some 23, op := Op.move (Operand.tmp 0), type := 24, pos := "waitq.go:172", after := #[{ on := 11, ground := Ground.guard }], guard := some (11, true) }
abbrev lf14 : Oper := { dst := some 24, op := Op.nilCheck (Operand.tmp 23), type := 0, pos := "waitq.go:172", after := #[{ on := 13, ground := Ground.data }, { on := 11, ground := Ground.guard }], guard := some (11, true) }
abbrev lf15 : Oper := { dst := some 25, op := Op.fieldAddr 78 (Operand.tmp 24) 1, type := 0, pos := "waitq.go:172", after := #[{ on := 14, ground := Ground.data }, { on := 11, ground := Ground.guard }], guard := some (11, true) }
abbrev lf16 : Oper := { dst := some 26, op := Op.load 33 (Operand.tmp 25), type := 33, pos := "waitq.go:172", after := #[{ on := 15, ground := Ground.data }, { on := 11, ground := Ground.guard }], guard := some (11, true) }
abbrev lf17 : Oper := { dst := some 27, op := Op.call { callee := Callee.value (Operand.func 44), args := #[Operand.tmp 22, Operand.tmp 26], argTypes := #[24, 33] }, type := 125, pos := "waitq.go:172", after := #[{ on := 12, ground := Ground.data }, { on := 16, ground := Ground.data }, { on := 11, ground := Ground.chain }, { on := 11, ground := Ground.guard }], guard := some (11, true) }
abbrev lf18 : Oper := { dst := some 28, op := Op.nilCheck (Operand.tmp 27), type := 0, pos := "waitq.go:172", after := #[{ on := 17, ground := Ground.data }, { on := 11, ground := Ground.guard }], guard := some (11, true) }
abbrev lf19 : Oper := { dst := some 29, op := Op.fieldAddr 124 (Operand.tmp 28) 1, type := 0, pos := "waitq.go:172", after := #[{ on := 18, ground := Ground.data }, { on := 11, ground := Ground.guard }], guard := some (11, true) }
abbrev lf20 : Oper := { dst := some 30, op := Op.fieldAddr 114 (Operand.tmp 29) 0, type := 0, pos := "waitq.go:172", after := #[{ on := 19, ground := Ground.data }, { on := 11, ground := Ground.guard }], guard := some (11, true) }
abbrev lf21 : Oper := { dst := some 31, op := Op.load 35 (Operand.tmp 30), type := 35, pos := "waitq.go:172", after := #[{ on := 20, ground := Ground.data }, { on := 11, ground := Ground.guard }], guard := some (11, true) }
abbrev lf22 : Oper := { dst := some 32, op := Op.build 35 #[], type := 35, pos := "waitq.go:172", after := #[{ on := 11, ground := Ground.guard }], guard := some (11, true) }
abbrev lf23 : Oper := { dst := some 33, op := Op.binOp BinOp.neq 35 (Operand.tmp 31) (Operand.tmp 32) 35, type := 4, pos := "waitq.go:172", after := #[{ on := 21, ground := Ground.data }, { on := 22, ground := Ground.data }, { on := 11, ground := Ground.guard }], guard := some (11, true) }
abbrev lf24 : Oper := { dst := some 34, op := Op.pick (Operand.tmp 21) (Operand.tmp 33) (Operand.const (Value.bool false)), type := 4, pos := "waitq.go:172", after := #[{ on := 11, ground := Ground.data }, { on := 23, ground := Ground.data }], guard := none }
abbrev lg0 : Oper := { dst := some 42, op := Op.move (Operand.tmp 0), type := 24, pos := "waitq.go:175", after := #[], guard := none }
abbrev lg1 : Oper := { dst := some 43, op := Op.nilCheck (Operand.tmp 42), type := 0, pos := "waitq.go:175", after := #[{ on := 0, ground := Ground.data }], guard := none }
abbrev lg2 : Oper := { dst := some 44, op := Op.fieldAddr 78 (Operand.tmp 43) 1, type := 0, pos := "waitq.go:175", after := #[{ on := 1, ground := Ground.data }], guard := none }
abbrev lg3 : Oper := { dst := some 45, op := Op.load 33 (Operand.tmp 44), type := 33, pos := "waitq.go:175", after := #[{ on := 2, ground := Ground.data }], guard := none }
abbrev lg4 : Oper := { dst := some 46, op := Op.convert 33 3 (Operand.tmp 45), type := 3, pos := "waitq.go:175", after := #[{ on := 3, ground := Ground.data }], guard := none }
abbrev lg5 : Oper := { dst := some 47, op := Op.move (Operand.tmp 0), type := 24, pos := "waitq.go:175", after := #[], guard := none }
abbrev lg6 : Oper := { dst := some 48, op := Op.nilCheck (Operand.tmp 47), type := 0, pos := "waitq.go:175", after := #[{ on := 5, ground := Ground.data }], guard := none }
abbrev lg7 : Oper := { dst := some 49, op := Op.fieldAddr 78 (Operand.tmp 48) 0, type := 0, pos := "waitq.go:175", after := #[{ on := 6, ground := Ground.data }], guard := none }
abbrev lg8 : Oper := { dst := some 50, op := Op.load 76 (Operand.tmp 49), type := 76, pos := "waitq.go:175", after := #[{ on := 7, ground := Ground.data }], guard := none }
abbrev lg9 : Oper := { dst := some 51, op := Op.call { callee := Callee.builtin Builtin.len, args := #[Operand.tmp 50], argTypes := #[76] }, type := 3, pos := "waitq.go:175", after := #[{ on := 8, ground := Ground.data }], guard := none }
abbrev lg10 : Oper := { dst := some 52, op := Op.binOp BinOp.gtr 3 (Operand.tmp 46) (Operand.tmp 51) 3, type := 4, pos := "waitq.go:175", after := #[{ on := 4, ground := Ground.data }, { on := 9, ground := Ground.data }], guard := none }

theorem nfSl : (Try.prog.info? 124).map (fun i => (i.zero, i.size, i.bytes)) = some (some (.agg #[.int .u32 0, .int .u32 0, .int .u32 0, .int .u32 0, .int .u32 0, .int .u32 0, .int .u32 0, .int .i64 0, .int .i64 0, .int .i64 0, .int .u32 0, .int .u32 0, .int .u32 0, .int .u32 0, .int .u32 0, .int .u32 0, .int .u32 0, .int .u32 0]), 18, 88) := by kernel_rfl
/-- the number of full slots, as it lies -/
def fullN (w : World) (p : Nat) : Nat := match w.cell? ⟨p, 1, none⟩ with
  | some (.int _ z) => z.toNat
  | _ => 0
variable {w : World} {B p M C n : Nat} {wv : Value} {sl : List Sl} {en : Ln → Option (Int × Int)} {cl : Int × Int × Int → Option Int}

theorem fullN_is {m : Nat} (h : Bk w B p wv M C sl ((m : Int) + 1) en cl n) : fullN w p = m + 1 := by
  unfold fullN
  rw [h.cells.2.1]
  show ((m : Int) + 1).toNat = m + 1
  omega

set_option maxRecDepth 100000 in
set_option maxHeartbeats 16000000 in
theorem least_is {f k : Nat} (h : Bk w B p wv M C sl (f : Int) en cl n) (hl : sl.length ≤ 100000) (hB : B ≤ w.heap.size) (hfk : f ≤ k) (hk : k ≤ sl.length) (hocc : ∀ j (hj : j < sl.length), f ≤ j → j < k → sl[j].r.ms ≠ 0) (hfree : ∀ hj : k < sl.length, sl[k].r = zRc) :
    Calls Try.prog 46 #[.pointer (some ⟨p, 0, none⟩)] w fun e w' => e = .returned (.int .u32 ((k : Int) + 1)) ∧ ∃ wv' sl', (sl' = sl ∨ k = sl.length ∧ sl' = sl ++ [zSl 0]) ∧ k < sl'.length ∧ Bk w' B p wv' M C sl' ((k : Int) + 1) en cl n ∧ Ch (fun y => y = p ∨ wv.ownBlock = some y) w w' ∧ ∀ x, wv'.ownBlock = some x → wv.ownBlock = some x ∨ w.heap.size ≤ x := by
  obtain ⟨a, c, rfl, hc, -⟩ := h.row.form
  have c1 := h.cells.2.1
  have ff := frz h.box 1
  have e8 : IntKind.u32.wrap ((f : Int) + 1) = (f : Int) + 1 := by rw [IntKind.wrap_u32]; omega
  have HB := hide (And.intro (h.setF ((f : Int) + 1)) (Ch.set (Q := fun y => y = p) w rfl 1 (.int .u32 ((f : Int) + 1))))
  clear h
  go_enter Try.func46, Try.ntmps46
  go_wp2_with fail
  clear c1 ff e8
  obtain ⟨W1, hW1⟩ : ∃ x, w.setCell ⟨p, 1, none⟩ (.int .u32 ((f : Int) + 1)) = x := ⟨_, rfl⟩
  rw [hW1] at HB ⊢
  clear hW1
  go_loopw [] (fun wr => ∃ m : Nat, f ≤ m ∧ m ≤ k ∧ Hid (Bk wr B p (.slice a sl.length c) M C sl ((m : Int) + 1) en cl n ∧ Ch (fun y => y = p) w wr)) (fun wr => k + 2 - fullN wr p)
  case atStart => exact ⟨f, Nat.le_refl _, hfk, HB⟩
  case round =>
    obtain ⟨m, hfm, hmk', HBW⟩ := hrel
    obtain ⟨W2, rfl⟩ : ∃ x, x = wr := ⟨_, rfl⟩
    have hm0 := fullN_is HBW.out.1
    have eI : IntKind.i64.wrap ((m : Int) + 1) = (m : Int) + 1 := by rw [IntKind.wrap_i64]; omega
    by_cases hlt : m < k
    · have hmk : m < sl.length := by omega
      have q1 : decide ((m : Int) + 1 ≤ (sl.length : Int)) = true := decide_eq_true (by omega)
      have q2 : (sl[m].r.ms == 0) = false := by simpa using hocc m hmk hfm hlt
      have e9 : IntKind.u32.wrap ((m : Int) + 1 + 1) = (m : Int) + 2 := by rw [IntKind.wrap_u32]; omega
      go_wp2_with fail
      refine wp_reg (fun _ => False) (R := fun W => Bk W B p (.slice a sl.length c) M C sl ((m : Int) + 1) en cl n ∧ Ch (fun y => y = p) w W) (by kernel_rfl) ⟨HBW.out.1.ch (Ch.drew (Q := fun _ => False) _) (fun _ _ h => h), HBW.out.2.trans (Ch.drew (Q := fun _ => False) _) (fun _ _ h => h.elim)⟩ ?_
      rintro V ⟨vb, vc⟩ zk
      have HV := hide (And.intro vb vc)
      clear vb vc
      have HG := hide (fun wq (zq : Ch (fun _ => False) V wq) => (HV.out.1.ch zq (fun _ _ h => h)).cells)
      apply tk 0 lf0 rfl (by kernel_rfl) (fun _ _ _ h => h) zk
      · intro wq zq
        go_simp
        try rfl
      go_frame
      apply tk 1 lf1 rfl (by kernel_rfl) (fun _ _ _ h => h) zk
      · intro wq zq
        go_simp
        try rfl
      go_frame
      apply tk 2 lf2 rfl (by kernel_rfl) (fun _ _ _ h => h) zk
      · intro wq zq
        go_simp
        try rfl
      go_frame
      apply tk 3 lf3 rfl (by kernel_rfl) (fun _ _ _ h => h) zk
      · intro wq zq
        obtain ⟨s1, s2, s3, s4⟩ := HG.out _ zq
        go_simp
        try rfl
      go_frame
      apply tk 4 lf4 rfl (by kernel_rfl) (fun _ _ _ h => h) zk
      · intro wq zq
        go_simp
        try rfl
      go_frame
      apply tk 5 lf5 rfl (by kernel_rfl) (fun _ _ _ h => h) zk
      · intro wq zq
        go_simp
        try rfl
      go_frame
      apply tk 6 lf6 rfl (by kernel_rfl) (fun _ _ _ h => h) zk
      · intro wq zq
        go_simp
        try rfl
      go_frame
      apply tk 7 lf7 rfl (by kernel_rfl) (fun _ _ _ h => h) zk
      · intro wq zq
        go_simp
        try rfl
      go_frame
      apply tk 8 lf8 rfl (by kernel_rfl) (fun _ _ _ h => h) zk
      · intro wq zq
        obtain ⟨s1, s2, s3, s4⟩ := HG.out _ zq
        go_simp
        try rfl
      go_frame
      apply tk 9 lf9 rfl (by kernel_rfl) (fun _ _ _ h => h) zk
      · intro wq zq
        go_simp
        try rfl
      go_frame
      apply tk 10 lf10 rfl (by kernel_rfl) (fun _ _ _ h => h) zk
      · intro wq zq
        go_simp
        try rfl
      go_frame
      apply tk 11 lf11 rfl (by kernel_rfl) (fun _ _ _ h => h) zk
      · intro wq zq
        go_simp
        try rfl
      go_frame
      apply tk 12 lf12 rfl (by kernel_rfl) (fun _ _ _ h => h) zk
      · intro wq zq
        go_simp
        try rfl
      go_frame
      apply tk 13 lf13 rfl (by kernel_rfl) (fun _ _ _ h => h) zk
      · intro wq zq
        go_simp
        try rfl
      go_frame
      apply tk 14 lf14 rfl (by kernel_rfl) (fun _ _ _ h => h) zk
      · intro wq zq
        go_simp
        try rfl
      go_frame
      apply tk 15 lf15 rfl (by kernel_rfl) (fun _ _ _ h => h) zk
      · intro wq zq
        go_simp
        try rfl
      go_frame
      apply tk 16 lf16 rfl (by kernel_rfl) (fun _ _ _ h => h) zk
      · intro wq zq
        obtain ⟨s1, s2, s3, s4⟩ := HG.out _ zq
        go_simp
        try rfl
      go_frame
      apply tk 22 lf22 rfl (by kernel_rfl) (fun _ _ _ h => h) zk
      · intro wq zq
        go_simp
        try rfl
      go_frame
      obtain ⟨g, cq, cur, e, -⟩ := HV.out.1.at (by omega)
      cases e
      refine Go.Proofs.Ytoabhmpakcgloaa.rd 17 lf17 rfl (by kernel_rfl) fun K hK => ?_
      go_simp
      refine (at_is (HG.out _ zk).1 hmk (by omega)).mono ?_
      rintro e W4 ⟨rfl, rfl⟩
      go_wp2_with fail
      refine hK.out _ _ ?_ (fun zk => ?_)
      · exact zk
      clear hK K
      try go_frame
      apply tk 18 lf18 rfl (by kernel_rfl) (fun _ _ _ h => h) zk
      · intro wq zq
        go_simp
        try rfl
      go_frame
      apply tk 19 lf19 rfl (by kernel_rfl) (fun _ _ _ h => h) zk
      · intro wq zq
        go_simp
        try rfl
      go_frame
      apply tk 20 lf20 rfl (by kernel_rfl) (fun _ _ _ h => h) zk
      · intro wq zq
        go_simp
        try rfl
      go_frame
      apply tk 21 lf21 rfl (by kernel_rfl) (fun _ _ _ h => h) zk
      · intro wq zq
        have k := HV.out.1.ch zq (fun _ _ h => h)
        have s5 := (k.cell hmk (j := 1) (u := .int .u32 sl[m].r.ms) rfl (o := i18 m 1) rfl).1
        have s6 := (k.cell hmk (j := 2) (u := .int .u32 sl[m].r.mg) rfl (o := i18 m 2) rfl).1
        unfold i18 at s5 s6
        go_simp
        try rfl
      go_frame
      apply tk 23 lf23 rfl (by kernel_rfl) (fun _ _ _ h => h) zk
      · intro wq zq
        go_simp
        try rfl
      go_frame
      apply tk 24 lf24 rfl (by kernel_rfl) (fun _ _ _ h => h) zk
      · intro wq zq
        go_simp
        try rfl
      go_frame
      refine wpAnyH_done (by kernel_rfl) ?_ _
      have c1 := HV.out.1.cells.2.1
      have ff := frz HV.out.1.box 1
      go_wp2_with fail
      clear c1 ff
      have b3 := HV.out.1.setF ((m : Int) + 2)
      go_roundw
      case rel => exact ⟨m + 1, by omega, by omega, hide ⟨by have e : (((m + 1 : Nat) : Int) + 1) = (m : Int) + 2 := (by omega); rw [e]; exact b3, HV.out.2.trans (Ch.set (Q := fun y => y = p) _ rfl _ _) (fun _ _ h => h)⟩⟩
      case measure =>
        have e : ((m : Int) + 2) = (((m + 1 : Nat) : Int) + 1) := by omega
        rw [e] at b3 ⊢
        rw [hm0, fullN_is b3]
        omega
    · have hke : m = k := by omega
      subst hke
      by_cases hin : m < sl.length
      · have hmk := hin
        have q1 : decide ((m : Int) + 1 ≤ (sl.length : Int)) = true := decide_eq_true (by omega)
        have q2 : sl[m].r.ms = 0 := by rw [hfree hin]; rfl
        have q3 : sl[m].r.mg = 0 := by rw [hfree hin]; rfl
        go_wp2_with fail
        refine wp_reg (fun _ => False) (R := fun W => Bk W B p (.slice a sl.length c) M C sl ((m : Int) + 1) en cl n ∧ Ch (fun y => y = p) w W) (by kernel_rfl) ⟨HBW.out.1.ch (Ch.drew (Q := fun _ => False) _) (fun _ _ h => h), HBW.out.2.trans (Ch.drew (Q := fun _ => False) _) (fun _ _ h => h.elim)⟩ ?_
        rintro V ⟨vb, vc⟩ zk
        have HV := hide (And.intro vb vc)
        clear vb vc
        have HG := hide (fun wq (zq : Ch (fun _ => False) V wq) => (HV.out.1.ch zq (fun _ _ h => h)).cells)
        apply tk 0 lf0 rfl (by kernel_rfl) (fun _ _ _ h => h) zk
        · intro wq zq
          go_simp
          try rfl
        go_frame
        apply tk 1 lf1 rfl (by kernel_rfl) (fun _ _ _ h => h) zk
        · intro wq zq
          go_simp
          try rfl
        go_frame
        apply tk 2 lf2 rfl (by kernel_rfl) (fun _ _ _ h => h) zk
        · intro wq zq
          go_simp
          try rfl
        go_frame
        apply tk 3 lf3 rfl (by kernel_rfl) (fun _ _ _ h => h) zk
        · intro wq zq
          obtain ⟨s1, s2, s3, s4⟩ := HG.out _ zq
          go_simp
          try rfl
        go_frame
        apply tk 4 lf4 rfl (by kernel_rfl) (fun _ _ _ h => h) zk
        · intro wq zq
          go_simp
          try rfl
        go_frame
        apply tk 5 lf5 rfl (by kernel_rfl) (fun _ _ _ h => h) zk
        · intro wq zq
          go_simp
          try rfl
        go_frame
        apply tk 6 lf6 rfl (by kernel_rfl) (fun _ _ _ h => h) zk
        · intro wq zq
          go_simp
          try rfl
        go_frame
        apply tk 7 lf7 rfl (by kernel_rfl) (fun _ _ _ h => h) zk
        · intro wq zq
          go_simp
          try rfl
        go_frame
        apply tk 8 lf8 rfl (by kernel_rfl) (fun _ _ _ h => h) zk
        · intro wq zq
          obtain ⟨s1, s2, s3, s4⟩ := HG.out _ zq
          go_simp
          try rfl
        go_frame
        apply tk 9 lf9 rfl (by kernel_rfl) (fun _ _ _ h => h) zk
        · intro wq zq
          go_simp
          try rfl
        go_frame
        apply tk 10 lf10 rfl (by kernel_rfl) (fun _ _ _ h => h) zk
        · intro wq zq
          go_simp
          try rfl
        go_frame
        apply tk 11 lf11 rfl (by kernel_rfl) (fun _ _ _ h => h) zk
        · intro wq zq
          go_simp
          try rfl
        go_frame
        apply tk 12 lf12 rfl (by kernel_rfl) (fun _ _ _ h => h) zk
        · intro wq zq
          go_simp
          try rfl
        go_frame
        apply tk 13 lf13 rfl (by kernel_rfl) (fun _ _ _ h => h) zk
        · intro wq zq
          go_simp
          try rfl
        go_frame
        apply tk 14 lf14 rfl (by kernel_rfl) (fun _ _ _ h => h) zk
        · intro wq zq
          go_simp
          try rfl
        go_frame
        apply tk 15 lf15 rfl (by kernel_rfl) (fun _ _ _ h => h) zk
        · intro wq zq
          go_simp
          try rfl
        go_frame
        apply tk 16 lf16 rfl (by kernel_rfl) (fun _ _ _ h => h) zk
        · intro wq zq
          obtain ⟨s1, s2, s3, s4⟩ := HG.out _ zq
          go_simp
          try rfl
        go_frame
        apply tk 22 lf22 rfl (by kernel_rfl) (fun _ _ _ h => h) zk
        · intro wq zq
          go_simp
          try rfl
        go_frame
        obtain ⟨g, cq, cur, e, -⟩ := HV.out.1.at (by omega)
        cases e
        refine Go.Proofs.Ytoabhmpakcgloaa.rd 17 lf17 rfl (by kernel_rfl) fun K hK => ?_
        go_simp
        refine (at_is (HG.out _ zk).1 hmk (by omega)).mono ?_
        rintro e W4 ⟨rfl, rfl⟩
        go_wp2_with fail
        refine hK.out _ _ ?_ (fun zk => ?_)
        · exact zk
        clear hK K
        try go_frame
        apply tk 18 lf18 rfl (by kernel_rfl) (fun _ _ _ h => h) zk
        · intro wq zq
          go_simp
          try rfl
        go_frame
        apply tk 19 lf19 rfl (by kernel_rfl) (fun _ _ _ h => h) zk
        · intro wq zq
          go_simp
          try rfl
        go_frame
        apply tk 20 lf20 rfl (by kernel_rfl) (fun _ _ _ h => h) zk
        · intro wq zq
          go_simp
          try rfl
        go_frame
        apply tk 21 lf21 rfl (by kernel_rfl) (fun _ _ _ h => h) zk
        · intro wq zq
          have k := HV.out.1.ch zq (fun _ _ h => h)
          have s5 := (k.cell hmk (j := 1) (u := .int .u32 sl[m].r.ms) rfl (o := i18 m 1) rfl).1
          have s6 := (k.cell hmk (j := 2) (u := .int .u32 sl[m].r.mg) rfl (o := i18 m 2) rfl).1
          unfold i18 at s5 s6
          go_simp
          try rfl
        go_frame
        apply tk 23 lf23 rfl (by kernel_rfl) (fun _ _ _ h => h) zk
        · intro wq zq
          go_simp
          try rfl
        go_frame
        apply tk 24 lf24 rfl (by kernel_rfl) (fun _ _ _ h => h) zk
        · intro wq zq
          go_simp
          try rfl
        go_frame
        refine wpAnyH_done (by kernel_rfl) ?_ _
        go_wp2_with fail
        have q5 : decide ((sl.length : Int) < (m : Int) + 1) = false := decide_eq_false (by omega)
        refine wp_reg (fun _ => False) (R := fun W => Bk W B p (.slice (some ⟨g, 0, none⟩) sl.length c) M C sl ((m : Int) + 1) en cl n ∧ Ch (fun y => y = p) w W) (by kernel_rfl) ⟨HV.out.1.ch (Ch.drew (Q := fun _ => False) _) (fun _ _ h => h), HV.out.2.trans (Ch.drew (Q := fun _ => False) _) (fun _ _ h => h.elim)⟩ ?_
        rintro U ⟨vb, vc⟩ zk
        have HU := hide (And.intro vb vc)
        clear vb vc
        have HG4 := hide (fun wq (zq : Ch (fun _ => False) U wq) => (HU.out.1.ch zq (fun _ _ h => h)).cells)
        apply tk 0 lg0 rfl (by kernel_rfl) (fun _ _ _ h => h) zk
        · intro wq zq
          go_simp
          try rfl
        go_frame
        apply tk 1 lg1 rfl (by kernel_rfl) (fun _ _ _ h => h) zk
        · intro wq zq
          go_simp
          try rfl
        go_frame
        apply tk 2 lg2 rfl (by kernel_rfl) (fun _ _ _ h => h) zk
        · intro wq zq
          go_simp
          try rfl
        go_frame
        apply tk 3 lg3 rfl (by kernel_rfl) (fun _ _ _ h => h) zk
        · intro wq zq
          obtain ⟨s1, s2, s3, s4⟩ := HG4.out _ zq
          go_simp
          try rfl
        go_frame
        apply tk 4 lg4 rfl (by kernel_rfl) (fun _ _ _ h => h) zk
        · intro wq zq
          go_simp
          try rfl
        go_frame
        apply tk 5 lg5 rfl (by kernel_rfl) (fun _ _ _ h => h) zk
        · intro wq zq
          go_simp
          try rfl
        go_frame
        apply tk 6 lg6 rfl (by kernel_rfl) (fun _ _ _ h => h) zk
        · intro wq zq
          go_simp
          try rfl
        go_frame
        apply tk 7 lg7 rfl (by kernel_rfl) (fun _ _ _ h => h) zk
        · intro wq zq
          go_simp
          try rfl
        go_frame
        apply tk 8 lg8 rfl (by kernel_rfl) (fun _ _ _ h => h) zk
        · intro wq zq
          obtain ⟨s1, s2, s3, s4⟩ := HG4.out _ zq
          go_simp
          try rfl
        go_frame
        apply tk 9 lg9 rfl (by kernel_rfl) (fun _ _ _ h => h) zk
        · intro wq zq
          go_simp
          try rfl
        go_frame
        apply tk 10 lg10 rfl (by kernel_rfl) (fun _ _ _ h => h) zk
        · intro wq zq
          go_simp
          try rfl
        go_frame
        refine wpAnyH_done (by kernel_rfl) ?_ _
        have c1 := HU.out.1.cells.2.1
        go_wp2_with fail
        go_ret
        exact ⟨rfl, _, sl, Or.inl rfl, hin, HU.out.1, HU.out.2.mono (fun y _ e => Or.inl e), fun x hx => Or.inl hx⟩
      · have HML := hide (show m = sl.length by omega)
        have q1 : decide ((m : Int) + 1 ≤ (sl.length : Int)) = false := decide_eq_false (by omega)
        clear hlt hin hmk' hk
        go_wp2_with fail
        refine wp_reg (fun _ => False) (R := fun W => Bk W B p (.slice a sl.length c) M C sl ((m : Int) + 1) en cl n ∧ Ch (fun y => y = p) w W) (by kernel_rfl) ⟨HBW.out.1.ch (Ch.drew (Q := fun _ => False) _) (fun _ _ h => h), HBW.out.2.trans (Ch.drew (Q := fun _ => False) _) (fun _ _ h => h.elim)⟩ ?_
        rintro V ⟨vb, vc⟩ zk
        have HV := hide (And.intro vb vc)
        clear vb vc
        have HG := hide (fun wq (zq : Ch (fun _ => False) V wq) => (HV.out.1.ch zq (fun _ _ h => h)).cells)
        apply tk 0 lf0 rfl (by kernel_rfl) (fun _ _ _ h => h) zk
        · intro wq zq
          go_simp
          try rfl
        go_frame
        apply tk 1 lf1 rfl (by kernel_rfl) (fun _ _ _ h => h) zk
        · intro wq zq
          go_simp
          try rfl
        go_frame
        apply tk 2 lf2 rfl (by kernel_rfl) (fun _ _ _ h => h) zk
        · intro wq zq
          go_simp
          try rfl
        go_frame
        apply tk 3 lf3 rfl (by kernel_rfl) (fun _ _ _ h => h) zk
        · intro wq zq
          obtain ⟨s1, s2, s3, s4⟩ := HG.out _ zq
          go_simp
          try rfl
        go_frame
        apply tk 4 lf4 rfl (by kernel_rfl) (fun _ _ _ h => h) zk
        · intro wq zq
          go_simp
          try rfl
        go_frame
        apply tk 5 lf5 rfl (by kernel_rfl) (fun _ _ _ h => h) zk
        · intro wq zq
          go_simp
          try rfl
        go_frame
        apply tk 6 lf6 rfl (by kernel_rfl) (fun _ _ _ h => h) zk
        · intro wq zq
          go_simp
          try rfl
        go_frame
        apply tk 7 lf7 rfl (by kernel_rfl) (fun _ _ _ h => h) zk
        · intro wq zq
          go_simp
          try rfl
        go_frame
        apply tk 8 lf8 rfl (by kernel_rfl) (fun _ _ _ h => h) zk
        · intro wq zq
          obtain ⟨s1, s2, s3, s4⟩ := HG.out _ zq
          go_simp
          try rfl
        go_frame
        apply tk 9 lf9 rfl (by kernel_rfl) (fun _ _ _ h => h) zk
        · intro wq zq
          go_simp
          try rfl
        go_frame
        apply tk 10 lf10 rfl (by kernel_rfl) (fun _ _ _ h => h) zk
        · intro wq zq
          go_simp
          try rfl
        go_frame
        apply tk 11 lf11 rfl (by kernel_rfl) (fun _ _ _ h => h) zk
        · intro wq zq
          go_simp
          try rfl
        go_frame
        apply sk 12 lf12 rfl (by kernel_rfl) (fun _ _ _ h => h) zk
        go_frame
        apply sk 13 lf13 rfl (by kernel_rfl) (fun _ _ _ h => h) zk
        go_frame
        apply sk 14 lf14 rfl (by kernel_rfl) (fun _ _ _ h => h) zk
        go_frame
        apply sk 15 lf15 rfl (by kernel_rfl) (fun _ _ _ h => h) zk
        go_frame
        apply sk 16 lf16 rfl (by kernel_rfl) (fun _ _ _ h => h) zk
        go_frame
        apply sk 17 lf17 rfl (by kernel_rfl) (fun _ _ _ h => h) zk
        go_frame
        apply sk 18 lf18 rfl (by kernel_rfl) (fun _ _ _ h => h) zk
        go_frame
        apply sk 19 lf19 rfl (by kernel_rfl) (fun _ _ _ h => h) zk
        go_frame
        apply sk 20 lf20 rfl (by kernel_rfl) (fun _ _ _ h => h) zk
        go_frame
        apply sk 21 lf21 rfl (by kernel_rfl) (fun _ _ _ h => h) zk
        go_frame
        apply sk 22 lf22 rfl (by kernel_rfl) (fun _ _ _ h => h) zk
        go_frame
        apply sk 23 lf23 rfl (by kernel_rfl) (fun _ _ _ h => h) zk
        go_frame
        apply tk 24 lf24 rfl (by kernel_rfl) (fun _ _ _ h => h) zk
        · intro wq zq
          go_simp
          try rfl
        go_frame
        refine wpAnyH_done (by kernel_rfl) ?_ _
        go_wp2_with fail
        have q5 : decide ((sl.length : Int) < (m : Int) + 1) = true := decide_eq_true (by have := HML.out; omega)
        refine wp_reg (fun _ => False) (R := fun W => Bk W B p (.slice a sl.length c) M C sl ((m : Int) + 1) en cl n ∧ Ch (fun y => y = p) w W) (by kernel_rfl) ⟨HV.out.1.ch (Ch.drew (Q := fun _ => False) _) (fun _ _ h => h), HV.out.2.trans (Ch.drew (Q := fun _ => False) _) (fun _ _ h => h.elim)⟩ ?_
        rintro U ⟨vb, vc⟩ zk
        have HU := hide (And.intro vb vc)
        clear vb vc
        have HG4 := hide (fun wq (zq : Ch (fun _ => False) U wq) => (HU.out.1.ch zq (fun _ _ h => h)).cells)
        apply tk 0 lg0 rfl (by kernel_rfl) (fun _ _ _ h => h) zk
        · intro wq zq
          go_simp
          try rfl
        go_frame
        apply tk 1 lg1 rfl (by kernel_rfl) (fun _ _ _ h => h) zk
        · intro wq zq
          go_simp
          try rfl
        go_frame
        apply tk 2 lg2 rfl (by kernel_rfl) (fun _ _ _ h => h) zk
        · intro wq zq
          go_simp
          try rfl
        go_frame
        apply tk 3 lg3 rfl (by kernel_rfl) (fun _ _ _ h => h) zk
        · intro wq zq
          obtain ⟨s1, s2, s3, s4⟩ := HG4.out _ zq
          go_simp
          try rfl
        go_frame
        apply tk 4 lg4 rfl (by kernel_rfl) (fun _ _ _ h => h) zk
        · intro wq zq
          go_simp
          try rfl
        go_frame
        apply tk 5 lg5 rfl (by kernel_rfl) (fun _ _ _ h => h) zk
        · intro wq zq
          go_simp
          try rfl
        go_frame
        apply tk 6 lg6 rfl (by kernel_rfl) (fun _ _ _ h => h) zk
        · intro wq zq
          go_simp
          try rfl
        go_frame
        apply tk 7 lg7 rfl (by kernel_rfl) (fun _ _ _ h => h) zk
        · intro wq zq
          go_simp
          try rfl
        go_frame
        apply tk 8 lg8 rfl (by kernel_rfl) (fun _ _ _ h => h) zk
        · intro wq zq
          obtain ⟨s1, s2, s3, s4⟩ := HG4.out _ zq
          go_simp
          try rfl
        go_frame
        apply tk 9 lg9 rfl (by kernel_rfl) (fun _ _ _ h => h) zk
        · intro wq zq
          go_simp
          try rfl
        go_frame
        apply tk 10 lg10 rfl (by kernel_rfl) (fun _ _ _ h => h) zk
        · intro wq zq
          go_simp
          try rfl
        go_frame
        refine wpAnyH_done (by kernel_rfl) ?_ _
        obtain ⟨i0, hi0, hz0, hz1, hz2⟩ := nf_open nfSl
        have c0 := HU.out.1.cells.1
        have HOW := hide (show (U.alloc (.cells #[.int .u32 0, .int .u32 0, .int .u32 0, .int .u32 0, .int .u32 0, .int .u32 0, .int .u32 0, .int .i64 0, .int .i64 0, .int .i64 0, .int .u32 0, .int .u32 0, .int .u32 0, .int .u32 0, .int .u32 0, .int .u32 0, .int .u32 0, .int .u32 0] 124)).ownsRow B 124 18 (.slice a sl.length c) sl.length (sl.flatMap slF) from World.ownsRow.alloc HU.out.1.row _)
        have HN1 := hide (row_new U (slF (zSl 0)) 124 rfl)
        have HM1 := hide (show sl.length + 1 ≤ maxLen by unfold maxLen; omega)
        have HM2 := hide (show (sl.length + 1) * 88 ≤ 140737488355328 by omega)
        have HM3 := hide (show B ≤ (U.alloc (.cells #[.int .u32 0, .int .u32 0, .int .u32 0, .int .u32 0, .int .u32 0, .int .u32 0, .int .u32 0, .int .i64 0, .int .i64 0, .int .i64 0, .int .u32 0, .int .u32 0, .int .u32 0, .int .u32 0, .int .u32 0, .int .u32 0, .int .u32 0, .int .u32 0] 124)).heap.size by have := HU.out.2.size; simp; omega)
        have HON := hide (show ∀ u ∈ slF (zSl 0), u.oneCell' = true by simp [slF, rcF, zSl, zRc, Value.oneCell'])
        go_wp2_with (at_builtin; refine wpList_append_own_at _ rfl _ _ 76 rfl B 124 i0 (.agg #[.int .u32 0, .int .u32 0, .int .u32 0, .int .u32 0, .int .u32 0, .int .u32 0, .int .u32 0, .int .i64 0, .int .i64 0, .int .i64 0, .int .u32 0, .int .u32 0, .int .u32 0, .int .u32 0, .int .u32 0, .int .u32 0, .int .u32 0, .int .u32 0]) 18 88 Try.underlying76 hi0 hz0 hz1 hz2 rfl (by decide) _ sl.length (sl.flatMap slF) rfl HOW.out ⟨U.heap.size, 0, none⟩ 1 1 (slF (zSl 0)) rfl rfl HN1.out HON.out HM1.out HM2.out HM3.out ?_)
        intro v5 w5 hown5 hgrow5 _ hat5
        have C5 := hide ((Ch.alloc (Q := fun y => (Value.slice a sl.length c).ownBlock = some y) U _).trans (Ch.of_grown (Q := fun y => (Value.slice a sl.length c).ownBlock = some y) hgrow5 (fun _ e => e)) (fun _ _ h => h))
        have R5 := hide (show SlRow w5 B v5 (sl ++ [zSl 0]) from Row.snoc hown5)
        have HA5 := hide hat5
        obtain ⟨a5, n5, c5, e5⟩ := own_form hown5
        subst e5
        obtain ⟨ap1, ap2, ap3, ap4⟩ := HU.out.1.apart
        have b5 := C5.out.box HU.out.1.box (fun e => (ap4 p e).1 rfl)
        have y0 : w5.cell? ⟨p, 0, none⟩ = some (.slice a sl.length c) := by simp [Lib.cell_of_heap b5]
        have yf := frz b5 0
        have y1 : (w5.setCell ⟨p, 0, none⟩ (.slice a5 n5 c5)).cell? ⟨p, 1, none⟩ = some (.int .u32 ((m : Int) + 1)) := by simp [Lib.cell_of_heap (heap_set b5 0 (.slice a5 n5 c5))]
        have B5 := hide b5
        clear hown5 hgrow5 hat5 b5 c0
        go_wp2_with fail
        go_ret
        have c6 := (Ch.set (Q := fun y => y = p) w5 rfl 0 (.slice a5 n5 c5))
        obtain ⟨km, hmap⟩ := HU.out.1.mp
        have cU := HU.out.2
        refine ⟨rfl, _, sl ++ [zSl 0], Or.inr ⟨HML.out, rfl⟩, by rw [List.length_append]; have := HML.out; simp; omega, ⟨heap_set B5.out 0 _, R5.out.ch c6 (fun x hx e => own_box R5.out B5.out (by decide) (by rw [← e]; exact hx)), ⟨km, (hmap.ch C5.out (fun e => (ap4 _ e).2.1 rfl)).ch c6 ap1.symm⟩, (HU.out.1.cm.ch C5.out (fun e => (ap4 _ e).2.2 rfl)).ch c6 ap2.symm, HU.out.1.lo, HU.out.1.ne⟩, ?_, fun x hx => ?_⟩
        · exact ((cU.mono (fun y _ e => Or.inl e)).trans C5.out (fun y _ e => Or.inr e)).trans c6 (fun y _ e => Or.inl e)
        · rcases HA5.out with e | e
          · exact Or.inl (e.symm.trans hx)
          · right
            rw [e] at hx
            injection hx with hx
            have := cU.size
            omega

end Go.Proofs.Ytoabhmpakcgloaa
