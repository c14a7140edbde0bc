/- Layer 10: SlotsPlays' walk. -/
import Derived.Test.YtjilnmeegolpkaaSv
namespace Go.Proofs.Ytjilnmeegolpkaa
open Go.RowKit Go.Shelf

/-- a slice of n, from here on, in a block below N -/
def Sl (N : Nat) (v : Value) (n b o : Nat) : Prop := ∃ a c, v = .slice a n c ∧ n ≤ c ∧ n ≤ 9223372036854775807 ∧ (0 < n → a = some ⟨b, o, none⟩ ∧ b < N)
/-- a list of elements of k cells each -/
def Lst {α : Type} (N k : Nat) (A : Nat → Nat → α → Prop) (v : Value) (l : List α) : Prop := ∃ b o, Sl N v l.length b o ∧ ∀ i (h : i < l.length), A b (o + i * k) l[i]

/-- an op of a script -/
structure Opr where
  k : Int
  x : Int
  wh : Int
  ea : Int
  s : Int
  g : Int
  hd : Bool

def OpAt (w : World) (b o : Nat) (y : Opr) : Prop := (w.cell? ⟨b, o, none⟩ = some (.int .i64 y.k) ∧ w.cell? ⟨b, o + 1, none⟩ = some (.int .i64 y.x) ∧ w.cell? ⟨b, o + 2, none⟩ = some (.int .i64 y.wh) ∧ w.cell? ⟨b, o + 3, none⟩ = some (.int .i64 y.ea) ∧
  w.cell? ⟨b, o + 4, none⟩ = some (.int .u32 y.s) ∧ w.cell? ⟨b, o + 5, none⟩ = some (.int .u32 y.g) ∧ w.cell? ⟨b, o + 6, none⟩ = some (.bool y.hd)) ∧ -9223372036854775808 ≤ y.wh ∧ y.wh ≤ 9223372036854775807 ∧ Us y.s
theorem OpAt.below {N : Nat} {w w' : World} (hb : Below N w w') {b o : Nat} {y : Opr} (h : b < N) (hy : OpAt w b o y) : OpAt w' b o y := by
  have e : ∀ o, w'.cell? ⟨b, o, none⟩ = w.cell? ⟨b, o, none⟩ := fun o => hb.cell (p := ⟨b, o, none⟩) h
  unfold OpAt
  rw [e, e, e, e, e, e, e]
  exact hy

abbrev pz0 : Oper := { dst := some 64, op := Op.move (Operand.tmp 12), type := 4, pos := "law.go:155", after := #[], guard := none }
abbrev pz1 : Oper := { dst := some 65, op := Op.unOp UnOp.not 4 (Operand.tmp 64), type := 4, pos := "law.go:155", after := #[{ on := 0, ground := Ground.data }], guard := none }
abbrev pz2 : Oper := { dst := some 66, op := Op.move (Operand.tmp 65), type := 4, pos := "law.go:155", after := #[{ on := 1, ground := Ground.data }], guard := none }
abbrev pz3 : Oper := { dst := some 67, op := Op.move (Operand.tmp 6), type := 24, pos := "law.go:155", after := #[{ on := 2, ground := Ground.guard }], guard := some (2, false) }
abbrev pz4 : Oper := { dst := some 68, op := Op.call { callee := Callee.value (Operand.func 12), args := #[Operand.tmp 67], argTypes := #[24] }, type := 3, pos := "law.go:155", after := #[{ on := 3, ground := Ground.data }, { on := 2, ground := Ground.chain }, { on := 2, ground := Ground.guard }], guard := some (2, false) }
abbrev pz5 : Oper := { dst := some 69, op := Op.move (Operand.tmp 8), type := 28, pos := "law.go:155", after := #[{ on := 2, ground := Ground.guard }], guard := some (2, false) }
abbrev pz6 : Oper := { dst := some 70, op := Op.call { callee := Callee.value (Operand.func 13), args := #[Operand.tmp 69], argTypes := #[28] }, type := 3, pos := "law.go:155", after := #[{ on := 5, ground := Ground.data }, { on := 4, ground := Ground.chain }, { on := 2, ground := Ground.guard }], guard := some (2, false) }
abbrev pz7 : Oper := { dst := some 71, op := Op.binOp BinOp.neq 3 (Operand.tmp 68) (Operand.tmp 70) 3, type := 4, pos := "law.go:155", after := #[{ on := 4, ground := Ground.data }, { on := 6, ground := Ground.data }, { on := 2, ground := Ground.guard }], guard := some (2, false) }
abbrev pz8 : Oper := { dst := some 72, op := Op.pick (Operand.tmp 66) (Operand.const (Value.bool true)) (Operand.tmp 71), type := 4, pos := "law.go:155", after := #[{ on := 2, ground := Ground.data }, { on := 7, ground := Ground.data }], guard := none }
abbrev pz9 : Oper := { dst := some 73, op := Op.move (Operand.tmp 72), type := 4, pos := "law.go:155", after := #[{ on := 8, ground := Ground.data }, { on := 6, ground := Ground.chain }], guard := none }
abbrev pz10 : Oper := { dst := some 74, op := Op.move (Operand.tmp 6), type := 24, pos := "law.go:155", after := #[{ on := 9, ground := Ground.guard }], guard := some (9, false) }
abbrev pz11 : Oper := { dst := some 75, op := Op.call { callee := Callee.value (Operand.func 14), args := #[Operand.tmp 74], argTypes := #[24] }, type := 3, pos := "law.go:155", after := #[{ on := 10, ground := Ground.data }, { on := 9, ground := Ground.chain }, { on := 9, ground := Ground.guard }], guard := some (9, false) }
abbrev pz12 : Oper := { dst := some 76, op := Op.move (Operand.tmp 8), type := 28, pos := "law.go:155", after := #[{ on := 9, ground := Ground.guard }], guard := some (9, false) }
abbrev pz13 : Oper := { dst := some 77, op := Op.nilCheck (Operand.tmp 76), type := 0, pos := "law.go:155", after := #[{ on := 12, ground := Ground.data }, { on := 9, ground := Ground.guard }], guard := some (9, false) }
abbrev pz14 : Oper := { dst := some 78, op := Op.fieldAddr 45 (Operand.tmp 77) 0, type := 0, pos := "law.go:155", after := #[{ on := 13, ground := Ground.data }, { on := 9, ground := Ground.guard }], guard := some (9, false) }
abbrev pz15 : Oper := { dst := some 79, op := Op.load 43 (Operand.tmp 78), type := 43, pos := "law.go:155", after := #[{ on := 14, ground := Ground.data }, { on := 9, ground := Ground.guard }], guard := some (9, false) }
abbrev pz16 : Oper := { dst := some 80, op := Op.call { callee := Callee.builtin Builtin.len, args := #[Operand.tmp 79], argTypes := #[43] }, type := 3, pos := "law.go:155", after := #[{ on := 15, ground := Ground.data }, { on := 9, ground := Ground.guard }], guard := some (9, false) }
abbrev pz17 : Oper := { dst := some 81, op := Op.binOp BinOp.neq 3 (Operand.tmp 75) (Operand.tmp 80) 3, type := 4, pos := "law.go:155", after := #[{ on := 11, ground := Ground.data }, { on := 16, ground := Ground.data }, { on := 9, ground := Ground.guard }], guard := some (9, false) }
abbrev pz18 : Oper := { dst := some 82, op := Op.pick (Operand.tmp 73) (Operand.const (Value.bool true)) (Operand.tmp 81), type := 4, pos := "law.go:155", after := #[{ on := 9, ground := Ground.data }, { on := 17, ground := Ground.data }], guard := none }

variable {PT : World → Nat → (Nat → Prop) → Nat → List Th → Nat → Prop} {Sq : World → Nat → (Nat → Prop) → Nat → Array Value → Nat → Prop} (I : Face PT Sq)
include I

set_option maxRecDepth 100000 in
set_option maxHeartbeats 4000000 in
theorem plays_is (w : World) (m : Int) {sv : Value} {sc : List Opr} (hs : Lst w.heap.size 7 (OpAt w) sv sc) :
    Calls Try.prog 3 #[.int .i64 m, sv] w fun e w' => e = .returned (.bool true) ∧ Below w.heap.size w w' := by
  obtain ⟨bs, os, ⟨az, cs, rfl, hcs, hms, has⟩, hop⟩ := hs
  have HOP := hide hop
  have HAS := hide has
  clear hop has
  cases hz : (decide (1 ≤ m) && decide (m ≤ 500))
  · go_enter Try.func3, Try.ntmps3
    go_wp2_with fail
    refine (awake_is I w).mono ?_
    rintro e w1 ⟨rfl, b1⟩
    have B1 := hide b1
    have s1 := b1.size
    clear b1
    go_wp2_with fail
    refine (I.newNo w1 m hz).mono ?_
    rintro e w2 ⟨rfl, b2⟩
    have B2 := hide (B1.out.trans (b2.mono s1))
    have s2 := b2.size
    clear b2
    go_wp2_with fail
    refine (rnew_is w2 m hz).mono ?_
    rintro e w3 ⟨rfl, rfl⟩
    go_wp2_with (go_at_call 10; refine (code_is _ _ _).mono ?_; rintro e w' ⟨rfl, rfl⟩; simp only [ec, Bool.false_eq_true, if_false])
    go_ret
    exact ⟨rfl, B2.out.trans ((below1 _ _).mono (by omega))⟩
  obtain ⟨M, rfl, hM1, hM2⟩ : ∃ M : Nat, m = M ∧ 1 ≤ M ∧ M ≤ 500 := by
    simp only [Bool.and_eq_true, decide_eq_true_eq] at hz
    exact ⟨m.toNat, by omega, by omega, by omega⟩
  go_enter Try.func3, Try.ntmps3
  go_wp2_with fail
  refine (awake_is I w).mono ?_
  rintro e w1 ⟨rfl, b1⟩
  have B1 := hide b1
  have s1 := b1.size
  clear b1
  go_wp2_with fail
  refine (I.new w1 M M rfl hM1 hM2).mono ?_
  rintro e w2 ⟨p, F, rfl, hp, b2⟩
  have B2 := hide (B1.out.trans (b2.mono s1))
  have s2 := b2.size
  have HP := hide hp
  clear hp b2
  go_wp2_with fail
  refine (rnew_is w2 M hz).mono ?_
  rintro e w3 ⟨rfl, rfl⟩
  go_wp2_with (go_at_call 10; refine (code_is _ _ _).mono ?_; rintro e w' ⟨rfl, rfl⟩; simp only [ec, if_true])
  obtain ⟨W0, hW0⟩ : ∃ W, (w2.alloc (.cells #[.slice none 0 0, .int .i64 (M : Int)] 45)).alloc (.cells #[.pointer (some ⟨p, 0, none⟩), .pointer (some ⟨w2.heap.size, 0, none⟩), .slice none 0 0] 35) = W := ⟨_, rfl⟩
  have c0 : Ch (fun _ => False) w2 W0 := by rw [← hW0]; exact (Ch.alloc _ _).trans (Ch.alloc _ _) (fun _ _ h => h)
  have hf2 := I.foot HP.out
  have PR0 := hide (show Pr PT W0 w1.heap.size (w2.heap.size + 1) p w2.heap.size (.slice none 0 0) (.slice none 0 0) [] [] M F from
    ⟨by rw [← hW0]; have := heap_new (w2.alloc (.cells #[.slice none 0 0, .int .i64 (M : Int)] 45)) (.cells #[.pointer (some ⟨p, 0, none⟩), .pointer (some ⟨w2.heap.size, 0, none⟩), .slice none 0 0] 35); rwa [World.size_alloc] at this,
     I.ch HP.out c0 (fun _ _ h => h), by rw [← hW0]; exact (DT.new w2 M).ch (Ch.alloc (Q := fun _ => False) _ _) (fun h => h) (fun _ _ h => h), Row.nil _ _, fun e => by have := hf2 _ e; omega, fun e => by have := hf2 _ e; omega, fun g hg => (by cases hg), fun g hg => (by cases hg), by omega, by omega, fun t ht => (by cases ht), hM2, fun a ha => (by cases ha)⟩)
  have BL0 := hide (B2.out.trans (c0.below (N := w.heap.size) (by omega) (fun _ _ h => h)))
  have HS1 := hide s1
  rw [hW0]
  clear hW0 c0 hf2
  go_loopw [11] (fun iv wr => ∃ (i : Nat) (v tv : Value) (hs : List (Int × Int)) (l : List Th) (F : Nat → Prop), iv = .int .i64 (i : Int) ∧ i ≤ sc.length ∧ i ≤ 1000 ∧ Hid (Pr PT wr w1.heap.size (w2.heap.size + 1) p w2.heap.size v tv hs l M F) ∧ l.length ≤ i ∧ hs.length ≤ i ∧ Hid (Below w.heap.size w wr)) (fun iv _ => sc.length + 1 - (intOf iv).toNat)
  case atStart => exact ⟨0, _, _, [], [], F, rfl, Nat.zero_le _, Nat.zero_le _, PR0, Nat.le_refl _, Nat.le_refl _, BL0⟩
  case round =>
    clear PR0 BL0
    obtain ⟨i, v, tv, hs, l, F, rfl, hi1, hi2, PR, hl, hh, BL⟩ := hrel
    obtain ⟨V, rfl⟩ : ∃ V, V = wr := ⟨_, rfl⟩
    by_cases hlt : i < sc.length
    · by_cases hlt2 : i < 1000
      · have q1 : decide ((i : Int) < (sc.length : Int)) = true := decide_eq_true (by omega)
        have q2 : decide ((i : Int) < 1000) = true := decide_eq_true (by omega)
        obtain ⟨rfl, hbs⟩ := HAS.out (by omega)
        obtain ⟨⟨y0, y1, y2, y3, y4, y5, y6⟩, yw1, yw2, yu⟩ := OpAt.below BL.out hbs (HOP.out i hlt)
        go_wp2_with fail
        refine (step_any I PR.out (by have := BL.out.size; have := PR.out.bC; have := PR.out.ltC; omega) (by omega) (by omega) _ _ _ _ _ _ _ yw1 yw2 yu).mono ?_
        rintro e W2 ⟨v', tv', hs', l', F', rfl, pr, hb, hl', hh'⟩
        have BL2 := hide (BL.out.trans (hb.mono HS1.out))
        clear PR BL y0 y1 y2 y3 y4 y5 y6 yw1 yw2 yu hb
        have PR := hide pr
        clear pr
        obtain ⟨av, cv, rfl, hcv, hmv⟩ := PR.out.dt.row.form
        have HV := hide (fun wq (h : Ch (fun _ => False) W2 wq) => (PR.out.dt.ch h (fun h => h) (fun _ _ h => h)).cells.1)
        go_wp2
        refine wp_region_held_drew (S := Ch (fun _ => False) W2) (by kernel_rfl) (Ch.drew _) (fun zk => ?_)
        apply tk 0 pz0 rfl (by kernel_rfl) (fun _ _ _ h => h) zk
        · intro wq zq
          go_simp
          try rfl
        go_frame
        apply tk 1 pz1 rfl (by kernel_rfl) (fun _ _ _ h => h) zk
        · intro wq zq
          go_simp
          try rfl
        go_frame
        apply tk 2 pz2 rfl (by kernel_rfl) (fun _ _ _ h => h) zk
        · intro wq zq
          go_simp
          try rfl
        go_frame
        apply tk 3 pz3 rfl (by kernel_rfl) (fun _ _ _ h => h) zk
        · intro wq zq
          go_simp
          try rfl
        go_frame
        apply tk 5 pz5 rfl (by kernel_rfl) (fun _ _ _ h => h) zk
        · intro wq zq
          go_simp
          try rfl
        go_frame
        refine rd 4 pz4 rfl (by kernel_rfl) fun K hK => ?_
        go_simp
        refine (I.count (I.ch PR.out.pt (Ch.drew (Q := fun _ => False) _) (fun _ _ h => h))).mono ?_
        rintro e u1 ⟨rfl, hb⟩
        have Z1 := hide (zk.trans (Ch.of_below (Q := fun _ => False) hb) (fun _ _ h => h))
        clear hb
        go_wp2_with fail
        refine hK.out _ _ ?_ (fun zk => ?_)
        · exact Z1.out
        clear hK K
        try go_frame
        refine rd 6 pz6 rfl (by kernel_rfl) fun K hK => ?_
        go_simp
        refine (rcount_is (PR.out.dt.ch Z1.out (fun h => h) (fun _ _ h => h))).mono ?_
        rintro e u2 ⟨rfl, rfl⟩
        have Z2 := Z1
        go_wp2_with fail
        refine hK.out _ _ ?_ (fun zk => ?_)
        · exact Z1.out
        clear hK K
        try go_frame
        apply tk 7 pz7 rfl (by kernel_rfl) (fun _ _ _ h => h) zk
        · intro wq zq
          go_simp
          try rfl
        go_frame
        apply tk 8 pz8 rfl (by kernel_rfl) (fun _ _ _ h => h) zk
        · intro wq zq
          go_simp
          try rfl
        go_frame
        apply tk 9 pz9 rfl (by kernel_rfl) (fun _ _ _ h => h) zk
        · intro wq zq
          go_simp
          try rfl
        go_frame
        apply tk 10 pz10 rfl (by kernel_rfl) (fun _ _ _ h => h) zk
        · intro wq zq
          go_simp
          try rfl
        go_frame
        apply tk 12 pz12 rfl (by kernel_rfl) (fun _ _ _ h => h) zk
        · intro wq zq
          go_simp
          try rfl
        go_frame
        apply tk 13 pz13 rfl (by kernel_rfl) (fun _ _ _ h => h) zk
        · intro wq zq
          go_simp
          try rfl
        go_frame
        apply tk 14 pz14 rfl (by kernel_rfl) (fun _ _ _ h => h) zk
        · intro wq zq
          go_simp
          try rfl
        go_frame
        apply tk 15 pz15 rfl (by kernel_rfl) (fun _ _ _ h => h) zk
        · intro wq zq
          have d0 := HV.out _ zq
          go_simp
          try rfl
        go_frame
        apply tk 16 pz16 rfl (by kernel_rfl) (fun _ _ _ h => h) zk
        · intro wq zq
          go_simp
          try rfl
        go_frame
        refine rd 11 pz11 rfl (by kernel_rfl) fun K hK => ?_
        go_simp
        refine (I.born (I.ch PR.out.pt Z2.out (fun _ _ h => h))).mono ?_
        rintro e u3 ⟨rfl, hb⟩
        have Z3 := hide (Z2.out.trans (Ch.of_below (Q := fun _ => False) hb) (fun _ _ h => h))
        clear hb
        go_wp2_with fail
        refine hK.out _ _ ?_ (fun zk => ?_)
        · exact Z3.out
        clear hK K
        try go_frame
        apply tk 17 pz17 rfl (by kernel_rfl) (fun _ _ _ h => h) zk
        · intro wq zq
          go_simp
          try rfl
        go_frame
        apply tk 18 pz18 rfl (by kernel_rfl) (fun _ _ _ h => h) zk
        · intro wq zq
          go_simp
          try rfl
        go_frame
        refine wpAnyH_done (by kernel_rfl) ?_ _
        have Y := hide (Z3.out : Ch (fun _ => False) W2 u3)
        go_wp2
        go_roundw
        case rel => exact ⟨i + 1, _, tv', hs', l', F', by go_num, by omega, by omega, hide (PR.out.ch0 I Y.out), by omega, by omega, hide (BL2.out.trans (Y.out.below (N := w.heap.size) BL2.out.size (fun _ _ h => h)))⟩
        case measure => simp [intOf]; omega
      · have q1 : decide ((i : Int) < (sc.length : Int)) = true := decide_eq_true (by omega)
        have q2 : decide ((i : Int) < 1000) = false := decide_eq_false (by omega)
        go_wp2_with (go_at_call 15; refine (all_is I PR.out.pt PR.out.dt (by omega) PR.out.box 0).mono ?_; rintro e w5 ⟨rfl, hb5⟩)
        go_ret
        exact ⟨rfl, BL.out.trans (hb5.mono BL.out.size)⟩
    · have q1 : decide ((i : Int) < (sc.length : Int)) = false := decide_eq_false (by omega)
      go_wp2_with (go_at_call 15; refine (all_is I PR.out.pt PR.out.dt (by omega) PR.out.box 0).mono ?_; rintro e w5 ⟨rfl, hb5⟩)
      go_ret
      exact ⟨rfl, BL.out.trans (hb5.mono BL.out.size)⟩

end Go.Proofs.Ytjilnmeegolpkaa
