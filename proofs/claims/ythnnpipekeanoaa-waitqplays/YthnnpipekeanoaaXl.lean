/- Layer 11: the law's step: Row, Of, All. -/
import Derived.Test.YthnnpipekeanoaaXk
namespace Go.Proofs.Ythnnpipekeanoaa
open Go.RowKit

variable {wB : World} {PT : World → Nat → (Nat → Prop) → Nat → List Wt → Prop} {C : Nat → Nat} {w w' : World} {B T p b : Nat} {F : Nat → Prop} {l : List Wt} {hs : List (Int × Int)} {av ov tv lv wv : Value} {ls ws : List Value} {rs : List (List Rc)} {n : Nat}

theorem Row.low {α : Type} {f : α → List Value} {K : Nat} {e : TypeId} {w : World} {B B' : Nat} {v : Value} {l : List α} (h : Row f K e w B' v l) (hB : B ≤ B') : Row f K e w B v l := by
  obtain ⟨h0, h1 | ⟨g, cap, cur, h1, h2, h3⟩⟩ := h
  · exact ⟨h0, Or.inl h1⟩
  · exact ⟨h0, Or.inr ⟨g, cap, cur, h1, Nat.le_trans hB h2, h3⟩⟩

theorem tw_S {V wq : World} {lp ld : List Wt} {Q : Nat → Prop} (h : Tw wB PT C wq B T p b F lp ld hs av ov tv lv wv ls ws rs n) (hc : Ch Q V wq) : Ch Q V wq ∧ wq.cell? ⟨T, 0, none⟩ = some (.pointer (some ⟨p, 0, none⟩)) ∧ wq.cell? ⟨T, 1, none⟩ = some (.pointer (some ⟨b, 0, none⟩)) :=
  ⟨hc, by simp [Lib.cell_of_heap h.hT], by simp [Lib.cell_of_heap h.hT]⟩

theorem op_rows {V wq : World} {T A : Nat} {x y tv lv wv : Value} {ls ws : List Value} {o : Oq} (hT : V.heap[T]? = some (.cells #[x, y, tv, lv, wv] 37 (0, 0))) (hl : LsRow V B lv ls) (hw : LsRow V B wv ws) (hA : V.heap[A]? = some (.cells (opF o).toArray 48 (0, 0))) (zq : Ch (fun y => y = T ∨ lv.ownBlock = some y ∨ wv.ownBlock = some y) V wq) :
    (wq.cell? ⟨A, 3, none⟩ = some (.int .u32 o.rs) ∧ wq.cell? ⟨A, 4, none⟩ = some (.int .u32 o.rg) ∧ wq.cell? ⟨A, 5, none⟩ = some (.int .i64 o.rd)) ∧ (wq.cell? ⟨A, 6, none⟩ = some (.int .u32 o.ws) ∧ wq.cell? ⟨A, 7, none⟩ = some (.int .u32 o.wg)) := by
  have k2 := Lib.cell_of_heap (zq.box hA (fun e => by
    rcases e with e | e | e
    · subst e; exact blk_ne hA hT (by decide) rfl
    · exact own_box hl hA (by decide) e
    · exact own_box hw hA (by decide) e))
  simp [k2, opF]

/-- two lists came out and are kept -/
theorem tw_more (fc : FaceW PT) {V W4 W5 W6 : World} (h : Tw wB PT C V B T p b F l l hs av ov tv lv wv ls ws rs n) (hn : rs.length = n) {v v' lv' wv' : Value} {r : List Rc} (h4 : RcRow W4 V.heap.size v r) (h5 : RcRow W5 W4.heap.size v' r) (c4 : Ch (fun _ => False) V W4) (c5 : Ch (fun _ => False) W4 W5)
    (hT6 : W6.heap[T]? = some (.cells #[.pointer (some ⟨p, 0, none⟩), .pointer (some ⟨b, 0, none⟩), tv, lv', wv'] 37 (0, 0))) (hl6 : LsRow W6 B lv' (ls ++ [v])) (hw6 : LsRow W6 B wv' (ws ++ [v'])) (hd6 : ∀ x, lv'.ownBlock = some x → ¬ wv'.ownBlock = some x) (nl6 : ∀ x, lv'.ownBlock = some x → lv.ownBlock = some x ∨ W5.heap.size ≤ x) (nw6 : ∀ x, wv'.ownBlock = some x → wv.ownBlock = some x ∨ W5.heap.size ≤ x) (hc6 : Ch (fun y => y = T ∨ lv.ownBlock = some y ∨ wv.ownBlock = some y) W5 W6) :
    Tw wB PT (paint3 C V n v v' lv') W6 B T p b F l l hs av ov tv lv' wv' (ls ++ [v]) (ws ++ [v']) (rs ++ [r]) (n + 1) := by
  have s4 := c4.size
  have s5 := c5.size
  have c45 := c4.trans c5 (fun _ _ h => h)
  have hT5 := c45.box h.hT (fun h => h)
  have nq : ∀ {x B' : Nat} {u : Value} {rr : List Rc}, RcRow W5 B' u rr → u.ownBlock = some x → ¬ (x = T ∨ lv.ownBlock = some x ∨ wv.ownBlock = some x) := fun hu hx e => by
    rcases e with rfl | e | e
    · exact own_box hu hT5 (by decide) hx
    · exact own_ne hu (h.hl.ch c45 (fun _ _ h => h)) (by decide) _ hx e
    · exact own_ne hu (h.hw.ch c45 (fun _ _ h => h)) (by decide) _ hx e
  have h45 := h4.ch c5 (fun _ _ h => h)
  refine h.more fc hn hT6 hl6 hw6 hd6 (Row.low (h45.ch hc6 (fun x hx => nq h45 hx)) h.hB) (Row.low (h5.ch hc6 (fun x hx => nq h5 hx)) (Nat.le_trans h.hB s4)) (fun x hx e => ?_) (fun x hx => (own_in h4 hx).1) (fun x hx => Nat.le_trans s4 (own_in h5 hx).1) (fun x hx => (nl6 x hx).imp id (fun e => by omega)) (fun x hx => (nw6 x hx).imp id (fun e => by omega)) ((c45.mono (fun _ _ h => h.elim)).trans hc6 (fun _ _ h => h))
  have a := (own_in h4 hx).2.1
  have b := (own_in h5 e).1
  omega

abbrev xla0 : Oper := { dst := some 197, op := Op.move (Operand.tmp 0), type := 24, pos := "law.go:119", after := #[], guard := none }
abbrev xla1 : Oper := { dst := some 198, op := Op.nilCheck (Operand.tmp 197), type := 0, pos := "law.go:119", after := #[{ on := 0, ground := Ground.data }], guard := none }
abbrev xla2 : Oper := { dst := some 199, op := Op.fieldAddr 37 (Operand.tmp 198) 3, type := 0, pos := "law.go:119", after := #[{ on := 1, ground := Ground.data }], guard := none }
abbrev xla3 : Oper := { dst := some 200, op := Op.move (Operand.tmp 0), type := 24, pos := "law.go:119", after := #[], guard := none }
abbrev xla4 : Oper := { dst := some 201, op := Op.nilCheck (Operand.tmp 200), type := 0, pos := "law.go:119", after := #[{ on := 3, ground := Ground.data }], guard := none }
abbrev xla5 : Oper := { dst := some 202, op := Op.fieldAddr 37 (Operand.tmp 201) 0, type := 0, pos := "law.go:119", after := #[{ on := 4, ground := Ground.data }], guard := none }
abbrev xla6 : Oper := { dst := some 203, op := Op.load 25 (Operand.tmp 202), type := 25, pos := "law.go:119", after := #[{ on := 5, ground := Ground.data }], guard := none }
abbrev xla7 : Oper := { dst := some 204, op := Op.fieldAddr 48 (Operand.tmp 3) 3, type := 0, pos := "law.go:119", after := #[], guard := none }
abbrev xla8 : Oper := { dst := some 205, op := Op.load 44 (Operand.tmp 204), type := 44, pos := "law.go:119", after := #[{ on := 7, ground := Ground.data }], guard := none }
abbrev xla9 : Oper := { dst := some 206, op := Op.call { callee := Callee.value (Operand.func 20), args := #[Operand.tmp 203, Operand.tmp 205], argTypes := #[25, 44] }, type := 28, pos := "law.go:119", after := #[{ on := 6, ground := Ground.data }, { on := 8, ground := Ground.data }], guard := none }
abbrev xla10 : Oper := { dst := some 207, op := Op.move (Operand.tmp 0), type := 24, pos := "law.go:119", after := #[], guard := none }
abbrev xla11 : Oper := { dst := some 208, op := Op.nilCheck (Operand.tmp 207), type := 0, pos := "law.go:119", after := #[{ on := 10, ground := Ground.data }], guard := none }
abbrev xla12 : Oper := { dst := some 209, op := Op.fieldAddr 37 (Operand.tmp 208) 1, type := 0, pos := "law.go:119", after := #[{ on := 11, ground := Ground.data }], guard := none }
abbrev xla13 : Oper := { dst := some 210, op := Op.load 27 (Operand.tmp 209), type := 27, pos := "law.go:119", after := #[{ on := 12, ground := Ground.data }], guard := none }
abbrev xla14 : Oper := { dst := some 211, op := Op.fieldAddr 48 (Operand.tmp 3) 3, type := 0, pos := "law.go:119", after := #[], guard := none }
abbrev xla15 : Oper := { dst := some 212, op := Op.load 44 (Operand.tmp 211), type := 44, pos := "law.go:119", after := #[{ on := 14, ground := Ground.data }], guard := none }
abbrev xla16 : Oper := { dst := some 213, op := Op.call { callee := Callee.value (Operand.func 30), args := #[Operand.tmp 210, Operand.tmp 212], argTypes := #[27, 44] }, type := 28, pos := "law.go:119", after := #[{ on := 13, ground := Ground.data }, { on := 15, ground := Ground.data }, { on := 9, ground := Ground.chain }], guard := none }
abbrev xla17 : Oper := { dst := some 214, op := Op.call { callee := Callee.value (Operand.func 29), args := #[Operand.tmp 199, Operand.tmp 206, Operand.tmp 213], argTypes := #[35, 28, 28] }, type := 4, pos := "law.go:119", after := #[{ on := 2, ground := Ground.data }, { on := 9, ground := Ground.data }, { on := 16, ground := Ground.data }, { on := 16, ground := Ground.chain }], guard := none }
abbrev xla18 : Oper := { dst := some 4, op := Op.assign (Operand.tmp 214), type := 4, pos := "law.go:119", after := #[{ on := 17, ground := Ground.data }, { on := 17, ground := Ground.chain }, { on := 0, ground := Ground.phase }, { on := 1, ground := Ground.phase }, { on := 2, ground := Ground.phase }, { on := 3, ground := Ground.phase }, { on := 4, ground := Ground.phase }, { on := 5, ground := Ground.phase }, { on := 6, ground := Ground.phase }, { on := 7, ground := Ground.phase }, { on := 8, ground := Ground.phase }, { on := 9, ground := Ground.phase }, { on := 10, ground := Ground.phase }, { on := 11, ground := Ground.phase }, { on := 12, ground := Ground.phase }, { on := 13, ground := Ground.phase }, { on := 14, ground := Ground.phase }, { on := 15, ground := Ground.phase }, { on := 16, ground := Ground.phase }, { on := 17, ground := Ground.phase }], guard := none }
abbrev xlb0 : Oper := { dst := some 217, op := Op.move (Operand.tmp 0), type := 24, pos := "law.go:121", after := #[], guard := none }
abbrev xlb1 : Oper := { dst := some 218, op := Op.nilCheck (Operand.tmp 217), type := 0, pos := "law.go:121", after := #[{ on := 0, ground := Ground.data }], guard := none }
abbrev xlb2 : Oper := { dst := some 219, op := Op.fieldAddr 37 (Operand.tmp 218) 3, type := 0, pos := "law.go:121", after := #[{ on := 1, ground := Ground.data }], guard := none }
abbrev xlb3 : Oper := { dst := some 220, op := Op.move (Operand.tmp 0), type := 24, pos := "law.go:121", after := #[], guard := none }
abbrev xlb4 : Oper := { dst := some 221, op := Op.nilCheck (Operand.tmp 220), type := 0, pos := "law.go:121", after := #[{ on := 3, ground := Ground.data }], guard := none }
abbrev xlb5 : Oper := { dst := some 222, op := Op.fieldAddr 37 (Operand.tmp 221) 0, type := 0, pos := "law.go:121", after := #[{ on := 4, ground := Ground.data }], guard := none }
abbrev xlb6 : Oper := { dst := some 223, op := Op.load 25 (Operand.tmp 222), type := 25, pos := "law.go:121", after := #[{ on := 5, ground := Ground.data }], guard := none }
abbrev xlb7 : Oper := { dst := some 224, op := Op.fieldAddr 48 (Operand.tmp 3) 4, type := 0, pos := "law.go:121", after := #[], guard := none }
abbrev xlb8 : Oper := { dst := some 225, op := Op.load 41 (Operand.tmp 224), type := 41, pos := "law.go:121", after := #[{ on := 7, ground := Ground.data }], guard := none }
abbrev xlb9 : Oper := { dst := some 226, op := Op.call { callee := Callee.value (Operand.func 21), args := #[Operand.tmp 223, Operand.tmp 225], argTypes := #[25, 41] }, type := 28, pos := "law.go:121", after := #[{ on := 6, ground := Ground.data }, { on := 8, ground := Ground.data }], guard := none }
abbrev xlb10 : Oper := { dst := some 227, op := Op.move (Operand.tmp 0), type := 24, pos := "law.go:121", after := #[], guard := none }
abbrev xlb11 : Oper := { dst := some 228, op := Op.nilCheck (Operand.tmp 227), type := 0, pos := "law.go:121", after := #[{ on := 10, ground := Ground.data }], guard := none }
abbrev xlb12 : Oper := { dst := some 229, op := Op.fieldAddr 37 (Operand.tmp 228) 1, type := 0, pos := "law.go:121", after := #[{ on := 11, ground := Ground.data }], guard := none }
abbrev xlb13 : Oper := { dst := some 230, op := Op.load 27 (Operand.tmp 229), type := 27, pos := "law.go:121", after := #[{ on := 12, ground := Ground.data }], guard := none }
abbrev xlb14 : Oper := { dst := some 231, op := Op.fieldAddr 48 (Operand.tmp 3) 4, type := 0, pos := "law.go:121", after := #[], guard := none }
abbrev xlb15 : Oper := { dst := some 232, op := Op.load 41 (Operand.tmp 231), type := 41, pos := "law.go:121", after := #[{ on := 14, ground := Ground.data }], guard := none }
abbrev xlb16 : Oper := { dst := some 233, op := Op.call { callee := Callee.value (Operand.func 31), args := #[Operand.tmp 230, Operand.tmp 232], argTypes := #[27, 41] }, type := 28, pos := "law.go:121", after := #[{ on := 13, ground := Ground.data }, { on := 15, ground := Ground.data }, { on := 9, ground := Ground.chain }], guard := none }
abbrev xlb17 : Oper := { dst := some 234, op := Op.call { callee := Callee.value (Operand.func 29), args := #[Operand.tmp 219, Operand.tmp 226, Operand.tmp 233], argTypes := #[35, 28, 28] }, type := 4, pos := "law.go:121", after := #[{ on := 2, ground := Ground.data }, { on := 9, ground := Ground.data }, { on := 16, ground := Ground.data }, { on := 16, ground := Ground.chain }], guard := none }
abbrev xlb18 : Oper := { dst := some 4, op := Op.assign (Operand.tmp 234), type := 4, pos := "law.go:121", after := #[{ on := 17, ground := Ground.data }, { on := 17, ground := Ground.chain }, { on := 0, ground := Ground.phase }, { on := 1, ground := Ground.phase }, { on := 2, ground := Ground.phase }, { on := 3, ground := Ground.phase }, { on := 4, ground := Ground.phase }, { on := 5, ground := Ground.phase }, { on := 6, ground := Ground.phase }, { on := 7, ground := Ground.phase }, { on := 8, ground := Ground.phase }, { on := 9, ground := Ground.phase }, { on := 10, ground := Ground.phase }, { on := 11, ground := Ground.phase }, { on := 12, ground := Ground.phase }, { on := 13, ground := Ground.phase }, { on := 14, ground := Ground.phase }, { on := 15, ground := Ground.phase }, { on := 16, ground := Ground.phase }, { on := 17, ground := Ground.phase }], guard := none }
abbrev lc0 : Oper := { dst := some 237, op := Op.move (Operand.tmp 0), type := 24, pos := "law.go:123", after := #[], guard := none }
abbrev lc1 : Oper := { dst := some 238, op := Op.nilCheck (Operand.tmp 237), type := 0, pos := "law.go:123", after := #[{ on := 0, ground := Ground.data }], guard := none }
abbrev lc2 : Oper := { dst := some 239, op := Op.fieldAddr 37 (Operand.tmp 238) 3, type := 0, pos := "law.go:123", after := #[{ on := 1, ground := Ground.data }], guard := none }
abbrev lc3 : Oper := { dst := some 240, op := Op.move (Operand.tmp 0), type := 24, pos := "law.go:123", after := #[], guard := none }
abbrev lc4 : Oper := { dst := some 241, op := Op.nilCheck (Operand.tmp 240), type := 0, pos := "law.go:123", after := #[{ on := 3, ground := Ground.data }], guard := none }
abbrev lc5 : Oper := { dst := some 242, op := Op.fieldAddr 37 (Operand.tmp 241) 0, type := 0, pos := "law.go:123", after := #[{ on := 4, ground := Ground.data }], guard := none }
abbrev lc6 : Oper := { dst := some 243, op := Op.load 25 (Operand.tmp 242), type := 25, pos := "law.go:123", after := #[{ on := 5, ground := Ground.data }], guard := none }
abbrev lc7 : Oper := { dst := some 244, op := Op.call { callee := Callee.value (Operand.func 13), args := #[Operand.tmp 243], argTypes := #[25] }, type := 28, pos := "law.go:123", after := #[{ on := 6, ground := Ground.data }], guard := none }
abbrev lc8 : Oper := { dst := some 245, op := Op.move (Operand.tmp 0), type := 24, pos := "law.go:123", after := #[], guard := none }
abbrev lc9 : Oper := { dst := some 246, op := Op.nilCheck (Operand.tmp 245), type := 0, pos := "law.go:123", after := #[{ on := 8, ground := Ground.data }], guard := none }
abbrev lc10 : Oper := { dst := some 247, op := Op.fieldAddr 37 (Operand.tmp 246) 1, type := 0, pos := "law.go:123", after := #[{ on := 9, ground := Ground.data }], guard := none }
abbrev lc11 : Oper := { dst := some 248, op := Op.load 27 (Operand.tmp 247), type := 27, pos := "law.go:123", after := #[{ on := 10, ground := Ground.data }], guard := none }
abbrev lc12 : Oper := { dst := some 249, op := Op.call { callee := Callee.value (Operand.func 9), args := #[Operand.tmp 248], argTypes := #[27] }, type := 28, pos := "law.go:123", after := #[{ on := 11, ground := Ground.data }, { on := 7, ground := Ground.chain }], guard := none }
abbrev lc13 : Oper := { dst := some 250, op := Op.call { callee := Callee.value (Operand.func 29), args := #[Operand.tmp 239, Operand.tmp 244, Operand.tmp 249], argTypes := #[35, 28, 28] }, type := 4, pos := "law.go:123", after := #[{ on := 2, ground := Ground.data }, { on := 7, ground := Ground.data }, { on := 12, ground := Ground.data }, { on := 12, ground := Ground.chain }], guard := none }
abbrev lc14 : Oper := { dst := some 4, op := Op.assign (Operand.tmp 250), type := 4, pos := "law.go:123", after := #[{ on := 13, ground := Ground.data }, { on := 13, ground := Ground.chain }, { on := 0, ground := Ground.phase }, { on := 1, ground := Ground.phase }, { on := 2, ground := Ground.phase }, { on := 3, ground := Ground.phase }, { on := 4, ground := Ground.phase }, { on := 5, ground := Ground.phase }, { on := 6, ground := Ground.phase }, { on := 7, ground := Ground.phase }, { on := 8, ground := Ground.phase }, { on := 9, ground := Ground.phase }, { on := 10, ground := Ground.phase }, { on := 11, ground := Ground.phase }, { on := 12, ground := Ground.phase }, { on := 13, ground := Ground.phase }], guard := none }

set_option maxRecDepth 100000 in
set_option maxHeartbeats 8000000 in
theorem step_row (fc : FaceW PT) (h : Tw wB PT C w B T p b F l l hs av ov tv lv wv ls ws rs n) (hl : l.length ≤ 100000) (hn : rs.length = n) (hn2 : n ≤ 100000) (o : Oq) (ho : o.Fit) (hk : o.k = 6) :
    Calls Try.prog 8 #[.pointer (some ⟨T, 0, none⟩), opV o] w fun e w' => e = .returned (.bool true) ∧ ∃ C' lv' wv' v v', Tw wB PT C' w' B T p b F l l hs av ov tv lv' wv' (ls ++ [v]) (ws ++ [v']) (rs ++ [sel (inRow o.rs o.rg o.rd) l]) (n + 1) := by
  obtain ⟨V, hV⟩ : ∃ V, w.alloc (.cells (opF o).toArray 48) = V := ⟨_, rfl⟩
  have c1 : Ch (fun _ => False) w V := by rw [← hV]; exact Ch.alloc _ _
  have nA : V.heap[w.heap.size]? = some (.cells (opF o).toArray 48 (0, 0)) := by rw [← hV]; exact heap_new _ _
  have hV2 := h.quiet fc c1
  have HC := hide (fun wq (zq : Ch (fun y => y = T ∨ lv.ownBlock = some y ∨ wv.ownBlock = some y) V wq) => op_rows (o := o) hV2.hT hV2.hl hV2.hw nA zq)
  have HV := hide (hV2.quiet fc (Ch.drew (Q := fun _ => False) V))
  have HS0 := hide (tw_S HV.out (Ch.drew (Q := fun y => y = T ∨ lv.ownBlock = some y ∨ wv.ownBlock = some y) V))
  have hTl := (Array.getElem?_eq_some_iff.1 h.hT).1
  have yk : V.cell? ⟨w.heap.size, 0, none⟩ = some (.int .i64 6) := by simp [Lib.cell_of_heap nA, opF, hk]
  have EV := hide hV
  clear h c1 nA hV2 hV
  dsimp only [opF] at EV
  rw [hk] at EV
  go_enter Try.func8, Try.ntmps8
  go_wp2
  rw [EV.out]
  refine wp_region_held_drew (S := (fun wq => Ch (fun y => y = T ∨ lv.ownBlock = some y ∨ wv.ownBlock = some y) V wq ∧ wq.cell? ⟨T, 0, none⟩ = some (.pointer (some ⟨p, 0, none⟩)) ∧ wq.cell? ⟨T, 1, none⟩ = some (.pointer (some ⟨b, 0, none⟩)))) (by kernel_rfl) HS0.out (fun zk => ?_)
  apply tk 0 xla0 rfl (by kernel_rfl) (fun _ _ _ h => h) zk
  · intro wq zq
    go_simp
    try rfl
  go_frame
  apply tk 1 xla1 rfl (by kernel_rfl) (fun _ _ _ h => h) zk
  · intro wq zq
    go_simp
    try rfl
  go_frame
  apply tk 2 xla2 rfl (by kernel_rfl) (fun _ _ _ h => h) zk
  · intro wq zq
    go_simp
    try rfl
  go_frame
  apply tk 3 xla3 rfl (by kernel_rfl) (fun _ _ _ h => h) zk
  · intro wq zq
    go_simp
    try rfl
  go_frame
  apply tk 4 xla4 rfl (by kernel_rfl) (fun _ _ _ h => h) zk
  · intro wq zq
    go_simp
    try rfl
  go_frame
  apply tk 5 xla5 rfl (by kernel_rfl) (fun _ _ _ h => h) zk
  · intro wq zq
    go_simp
    try rfl
  go_frame
  apply tk 6 xla6 rfl (by kernel_rfl) (fun _ _ _ h => h) zk
  · intro wq zq
    have s1 := zq.2.1
    go_simp
    try rfl
  go_frame
  apply tk 7 xla7 rfl (by kernel_rfl) (fun _ _ _ h => h) zk
  · intro wq zq
    go_simp
    try rfl
  go_frame
  apply tk 8 xla8 rfl (by kernel_rfl) (fun _ _ _ h => h) zk
  · intro wq zq
    obtain ⟨s1, s2, s3⟩ := (HC.out _ zq.1).1
    go_simp
    try rfl
  go_frame
  apply tk 10 xla10 rfl (by kernel_rfl) (fun _ _ _ h => h) zk
  · intro wq zq
    go_simp
    try rfl
  go_frame
  apply tk 11 xla11 rfl (by kernel_rfl) (fun _ _ _ h => h) zk
  · intro wq zq
    go_simp
    try rfl
  go_frame
  apply tk 12 xla12 rfl (by kernel_rfl) (fun _ _ _ h => h) zk
  · intro wq zq
    go_simp
    try rfl
  go_frame
  apply tk 13 xla13 rfl (by kernel_rfl) (fun _ _ _ h => h) zk
  · intro wq zq
    have s1 := zq.2.2
    go_simp
    try rfl
  go_frame
  apply tk 14 xla14 rfl (by kernel_rfl) (fun _ _ _ h => h) zk
  · intro wq zq
    go_simp
    try rfl
  go_frame
  apply tk 15 xla15 rfl (by kernel_rfl) (fun _ _ _ h => h) zk
  · intro wq zq
    obtain ⟨s1, s2, s3⟩ := (HC.out _ zq.1).1
    go_simp
    try rfl
  go_frame
  refine Go.Proofs.Ythnnpipekeanoaa.rd 9 xla9 rfl (by kernel_rfl) fun K hK => ?_
  go_simp
  refine (fc.row _ _ _ ho.rs ho.rg ho.rd HV.out.pt hl).mono ?_
  rintro e W4 ⟨v, rfl, hv4, hb4⟩
  have C4 := hide (Ch.of_below (Q := fun _ => False) hb4)
  have TW4 := hide (HV.out.quiet fc C4.out)
  have V4 := hide hv4
  have Z4 := hide (show (fun wq => Ch (fun y => y = T ∨ lv.ownBlock = some y ∨ wv.ownBlock = some y) V wq ∧ wq.cell? ⟨T, 0, none⟩ = some (.pointer (some ⟨p, 0, none⟩)) ∧ wq.cell? ⟨T, 1, none⟩ = some (.pointer (some ⟨b, 0, none⟩))) W4 from tw_S TW4.out (zk.1.trans (C4.out.mono (fun _ _ h => h.elim)) (fun _ _ h => h)))
  clear hb4 hv4
  go_wp2_with fail
  refine hK.out _ _ ?_ (fun zk => ?_)
  · exact Z4.out
  clear hK K
  try go_frame
  refine Go.Proofs.Ythnnpipekeanoaa.rd 16 xla16 rfl (by kernel_rfl) fun K hK => ?_
  go_simp
  refine (rrowW TW4.out.db hl _ _ _).mono ?_
  rintro e W5 ⟨v', rfl, hv5, hb5⟩
  have C5 := hide (Ch.of_below (Q := fun _ => False) hb5)
  have TW5 := hide (TW4.out.quiet fc C5.out)
  have V5 := hide hv5
  have Z5 := hide (show (fun wq => Ch (fun y => y = T ∨ lv.ownBlock = some y ∨ wv.ownBlock = some y) V wq ∧ wq.cell? ⟨T, 0, none⟩ = some (.pointer (some ⟨p, 0, none⟩)) ∧ wq.cell? ⟨T, 1, none⟩ = some (.pointer (some ⟨b, 0, none⟩))) W5 from tw_S TW5.out (Z4.out.1.trans (C5.out.mono (fun _ _ h => h.elim)) (fun _ _ h => h)))
  have BP := hide (bput TW5.out.hT TW5.out.hl TW5.out.hw (fun x hx e => by have a := TW5.out.clv x hx; have b := TW5.out.cwv x e; omega) (V4.out.ch C5.out (fun _ _ h => h)) V5.out (Nat.le_trans (sel_le _ _) hl) (by rw [TW5.out.n1]; exact hn2) (by rw [TW5.out.n2]; exact hn2) TW5.out.hB)
  clear hb5 hv5
  go_wp2_with fail
  refine hK.out _ _ ?_ (fun zk => ?_)
  · exact Z5.out
  clear hK K
  try go_frame
  refine Go.Proofs.Ythnnpipekeanoaa.rd 17 xla17 rfl (by kernel_rfl) fun K hK => ?_
  go_simp
  refine (BP.out).mono ?_
  rintro e W6 ⟨rfl, lv', wv', hT6, hl6, hw6, hd6, nl6, nw6, hc6⟩
  have TW6 := hide (tw_more fc HV.out hn V4.out V5.out C4.out C5.out hT6 hl6 hw6 hd6 nl6 nw6 hc6)
  have Z6 := hide (show (fun wq => Ch (fun y => y = T ∨ lv.ownBlock = some y ∨ wv.ownBlock = some y) V wq ∧ wq.cell? ⟨T, 0, none⟩ = some (.pointer (some ⟨p, 0, none⟩)) ∧ wq.cell? ⟨T, 1, none⟩ = some (.pointer (some ⟨b, 0, none⟩))) W6 from ⟨Z5.out.1.trans hc6 (fun _ _ h => h), by simp [Lib.cell_of_heap hT6], by simp [Lib.cell_of_heap hT6]⟩)
  clear hT6 hl6 hw6 hd6 nl6 nw6 hc6
  go_wp2_with fail
  refine hK.out _ _ ?_ (fun zk => ?_)
  · exact Z6.out
  clear hK K
  try go_frame
  refine Go.Proofs.Ythnnpipekeanoaa.rd 18 xla18 rfl (by kernel_rfl) fun K hK => ?_
  go_simp
  refine hK.out _ _ ?_ (fun zk => ?_)
  · exact Z6.out
  clear hK K
  try go_frame
  refine wpAnyH_done (by kernel_rfl) ?_ _
  go_wp2
  exact bodyPost_ret (v := .bool true) (by simp [results, Try.results8, go_sem]) rfl ⟨rfl, _, _, _, _, _, TW6.out⟩

set_option maxRecDepth 100000 in
set_option maxHeartbeats 8000000 in
theorem step_of (fc : FaceW PT) (h : Tw wB PT C w B T p b F l l hs av ov tv lv wv ls ws rs n) (hl : l.length ≤ 100000) (hn : rs.length = n) (hn2 : n ≤ 100000) (o : Oq) (ho : o.Fit) (hk : o.k = 7) :
    Calls Try.prog 8 #[.pointer (some ⟨T, 0, none⟩), opV o] w fun e w' => e = .returned (.bool true) ∧ ∃ C' lv' wv' v v', Tw wB PT C' w' B T p b F l l hs av ov tv lv' wv' (ls ++ [v]) (ws ++ [v']) (rs ++ [sel (isWho o.ws o.wg) l]) (n + 1) := by
  obtain ⟨V, hV⟩ : ∃ V, w.alloc (.cells (opF o).toArray 48) = V := ⟨_, rfl⟩
  have c1 : Ch (fun _ => False) w V := by rw [← hV]; exact Ch.alloc _ _
  have nA : V.heap[w.heap.size]? = some (.cells (opF o).toArray 48 (0, 0)) := by rw [← hV]; exact heap_new _ _
  have hV2 := h.quiet fc c1
  have HC := hide (fun wq (zq : Ch (fun y => y = T ∨ lv.ownBlock = some y ∨ wv.ownBlock = some y) V wq) => op_rows (o := o) hV2.hT hV2.hl hV2.hw nA zq)
  have HV := hide (hV2.quiet fc (Ch.drew (Q := fun _ => False) V))
  have HS0 := hide (tw_S HV.out (Ch.drew (Q := fun y => y = T ∨ lv.ownBlock = some y ∨ wv.ownBlock = some y) V))
  have hTl := (Array.getElem?_eq_some_iff.1 h.hT).1
  have yk : V.cell? ⟨w.heap.size, 0, none⟩ = some (.int .i64 7) := by simp [Lib.cell_of_heap nA, opF, hk]
  have EV := hide hV
  clear h c1 nA hV2 hV
  dsimp only [opF] at EV
  rw [hk] at EV
  go_enter Try.func8, Try.ntmps8
  go_wp2
  rw [EV.out]
  refine wp_region_held_drew (S := (fun wq => Ch (fun y => y = T ∨ lv.ownBlock = some y ∨ wv.ownBlock = some y) V wq ∧ wq.cell? ⟨T, 0, none⟩ = some (.pointer (some ⟨p, 0, none⟩)) ∧ wq.cell? ⟨T, 1, none⟩ = some (.pointer (some ⟨b, 0, none⟩)))) (by kernel_rfl) HS0.out (fun zk => ?_)
  apply tk 0 xlb0 rfl (by kernel_rfl) (fun _ _ _ h => h) zk
  · intro wq zq
    go_simp
    try rfl
  go_frame
  apply tk 1 xlb1 rfl (by kernel_rfl) (fun _ _ _ h => h) zk
  · intro wq zq
    go_simp
    try rfl
  go_frame
  apply tk 2 xlb2 rfl (by kernel_rfl) (fun _ _ _ h => h) zk
  · intro wq zq
    go_simp
    try rfl
  go_frame
  apply tk 3 xlb3 rfl (by kernel_rfl) (fun _ _ _ h => h) zk
  · intro wq zq
    go_simp
    try rfl
  go_frame
  apply tk 4 xlb4 rfl (by kernel_rfl) (fun _ _ _ h => h) zk
  · intro wq zq
    go_simp
    try rfl
  go_frame
  apply tk 5 xlb5 rfl (by kernel_rfl) (fun _ _ _ h => h) zk
  · intro wq zq
    go_simp
    try rfl
  go_frame
  apply tk 6 xlb6 rfl (by kernel_rfl) (fun _ _ _ h => h) zk
  · intro wq zq
    have s1 := zq.2.1
    go_simp
    try rfl
  go_frame
  apply tk 7 xlb7 rfl (by kernel_rfl) (fun _ _ _ h => h) zk
  · intro wq zq
    go_simp
    try rfl
  go_frame
  apply tk 8 xlb8 rfl (by kernel_rfl) (fun _ _ _ h => h) zk
  · intro wq zq
    obtain ⟨s1, s2⟩ := (HC.out _ zq.1).2
    go_simp
    try rfl
  go_frame
  apply tk 10 xlb10 rfl (by kernel_rfl) (fun _ _ _ h => h) zk
  · intro wq zq
    go_simp
    try rfl
  go_frame
  apply tk 11 xlb11 rfl (by kernel_rfl) (fun _ _ _ h => h) zk
  · intro wq zq
    go_simp
    try rfl
  go_frame
  apply tk 12 xlb12 rfl (by kernel_rfl) (fun _ _ _ h => h) zk
  · intro wq zq
    go_simp
    try rfl
  go_frame
  apply tk 13 xlb13 rfl (by kernel_rfl) (fun _ _ _ h => h) zk
  · intro wq zq
    have s1 := zq.2.2
    go_simp
    try rfl
  go_frame
  apply tk 14 xlb14 rfl (by kernel_rfl) (fun _ _ _ h => h) zk
  · intro wq zq
    go_simp
    try rfl
  go_frame
  apply tk 15 xlb15 rfl (by kernel_rfl) (fun _ _ _ h => h) zk
  · intro wq zq
    obtain ⟨s1, s2⟩ := (HC.out _ zq.1).2
    go_simp
    try rfl
  go_frame
  refine Go.Proofs.Ythnnpipekeanoaa.rd 9 xlb9 rfl (by kernel_rfl) fun K hK => ?_
  go_simp
  refine (fc.of _ _ ho.ws ho.wg HV.out.pt hl).mono ?_
  rintro e W4 ⟨v, rfl, hv4, hb4⟩
  have C4 := hide (Ch.of_below (Q := fun _ => False) hb4)
  have TW4 := hide (HV.out.quiet fc C4.out)
  have V4 := hide hv4
  have Z4 := hide (show (fun wq => Ch (fun y => y = T ∨ lv.ownBlock = some y ∨ wv.ownBlock = some y) V wq ∧ wq.cell? ⟨T, 0, none⟩ = some (.pointer (some ⟨p, 0, none⟩)) ∧ wq.cell? ⟨T, 1, none⟩ = some (.pointer (some ⟨b, 0, none⟩))) W4 from tw_S TW4.out (zk.1.trans (C4.out.mono (fun _ _ h => h.elim)) (fun _ _ h => h)))
  clear hb4 hv4
  go_wp2_with fail
  refine hK.out _ _ ?_ (fun zk => ?_)
  · exact Z4.out
  clear hK K
  try go_frame
  refine Go.Proofs.Ythnnpipekeanoaa.rd 16 xlb16 rfl (by kernel_rfl) fun K hK => ?_
  go_simp
  refine (rofW TW4.out.db hl _ _).mono ?_
  rintro e W5 ⟨v', rfl, hv5, hb5⟩
  have C5 := hide (Ch.of_below (Q := fun _ => False) hb5)
  have TW5 := hide (TW4.out.quiet fc C5.out)
  have V5 := hide hv5
  have Z5 := hide (show (fun wq => Ch (fun y => y = T ∨ lv.ownBlock = some y ∨ wv.ownBlock = some y) V wq ∧ wq.cell? ⟨T, 0, none⟩ = some (.pointer (some ⟨p, 0, none⟩)) ∧ wq.cell? ⟨T, 1, none⟩ = some (.pointer (some ⟨b, 0, none⟩))) W5 from tw_S TW5.out (Z4.out.1.trans (C5.out.mono (fun _ _ h => h.elim)) (fun _ _ h => h)))
  have BP := hide (bput TW5.out.hT TW5.out.hl TW5.out.hw (fun x hx e => by have a := TW5.out.clv x hx; have b := TW5.out.cwv x e; omega) (V4.out.ch C5.out (fun _ _ h => h)) V5.out (Nat.le_trans (sel_le _ _) hl) (by rw [TW5.out.n1]; exact hn2) (by rw [TW5.out.n2]; exact hn2) TW5.out.hB)
  clear hb5 hv5
  go_wp2_with fail
  refine hK.out _ _ ?_ (fun zk => ?_)
  · exact Z5.out
  clear hK K
  try go_frame
  refine Go.Proofs.Ythnnpipekeanoaa.rd 17 xlb17 rfl (by kernel_rfl) fun K hK => ?_
  go_simp
  refine (BP.out).mono ?_
  rintro e W6 ⟨rfl, lv', wv', hT6, hl6, hw6, hd6, nl6, nw6, hc6⟩
  have TW6 := hide (tw_more fc HV.out hn V4.out V5.out C4.out C5.out hT6 hl6 hw6 hd6 nl6 nw6 hc6)
  have Z6 := hide (show (fun wq => Ch (fun y => y = T ∨ lv.ownBlock = some y ∨ wv.ownBlock = some y) V wq ∧ wq.cell? ⟨T, 0, none⟩ = some (.pointer (some ⟨p, 0, none⟩)) ∧ wq.cell? ⟨T, 1, none⟩ = some (.pointer (some ⟨b, 0, none⟩))) W6 from ⟨Z5.out.1.trans hc6 (fun _ _ h => h), by simp [Lib.cell_of_heap hT6], by simp [Lib.cell_of_heap hT6]⟩)
  clear hT6 hl6 hw6 hd6 nl6 nw6 hc6
  go_wp2_with fail
  refine hK.out _ _ ?_ (fun zk => ?_)
  · exact Z6.out
  clear hK K
  try go_frame
  refine Go.Proofs.Ythnnpipekeanoaa.rd 18 xlb18 rfl (by kernel_rfl) fun K hK => ?_
  go_simp
  refine hK.out _ _ ?_ (fun zk => ?_)
  · exact Z6.out
  clear hK K
  try go_frame
  refine wpAnyH_done (by kernel_rfl) ?_ _
  go_wp2
  exact bodyPost_ret (v := .bool true) (by simp [results, Try.results8, go_sem]) rfl ⟨rfl, _, _, _, _, _, TW6.out⟩

set_option maxRecDepth 100000 in
set_option maxHeartbeats 8000000 in
theorem step_all (fc : FaceW PT) (h : Tw wB PT C w B T p b F l l hs av ov tv lv wv ls ws rs n) (hl : l.length ≤ 100000) (hn : rs.length = n) (hn2 : n ≤ 100000) (o : Oq) (hk : o.k = 8) :
    Calls Try.prog 8 #[.pointer (some ⟨T, 0, none⟩), opV o] w fun e w' => e = .returned (.bool true) ∧ ∃ C' lv' wv' v v', Tw wB PT C' w' B T p b F l l hs av ov tv lv' wv' (ls ++ [v]) (ws ++ [v']) (rs ++ [sel isNow l]) (n + 1) := by
  obtain ⟨V, hV⟩ : ∃ V, w.alloc (.cells (opF o).toArray 48) = V := ⟨_, rfl⟩
  have c1 : Ch (fun _ => False) w V := by rw [← hV]; exact Ch.alloc _ _
  have nA : V.heap[w.heap.size]? = some (.cells (opF o).toArray 48 (0, 0)) := by rw [← hV]; exact heap_new _ _
  have hV2 := h.quiet fc c1
  have HV := hide (hV2.quiet fc (Ch.drew (Q := fun _ => False) V))
  have HS0 := hide (tw_S HV.out (Ch.drew (Q := fun y => y = T ∨ lv.ownBlock = some y ∨ wv.ownBlock = some y) V))
  have hTl := (Array.getElem?_eq_some_iff.1 h.hT).1
  have yk : V.cell? ⟨w.heap.size, 0, none⟩ = some (.int .i64 8) := by simp [Lib.cell_of_heap nA, opF, hk]
  have EV := hide hV
  clear h c1 nA hV2 hV
  dsimp only [opF] at EV
  rw [hk] at EV
  go_enter Try.func8, Try.ntmps8
  go_wp2
  rw [EV.out]
  refine wp_region_held_drew (S := (fun wq => Ch (fun y => y = T ∨ lv.ownBlock = some y ∨ wv.ownBlock = some y) V wq ∧ wq.cell? ⟨T, 0, none⟩ = some (.pointer (some ⟨p, 0, none⟩)) ∧ wq.cell? ⟨T, 1, none⟩ = some (.pointer (some ⟨b, 0, none⟩)))) (by kernel_rfl) HS0.out (fun zk => ?_)
  apply tk 0 lc0 rfl (by kernel_rfl) (fun _ _ _ h => h) zk
  · intro wq zq
    go_simp
    try rfl
  go_frame
  apply tk 1 lc1 rfl (by kernel_rfl) (fun _ _ _ h => h) zk
  · intro wq zq
    go_simp
    try rfl
  go_frame
  apply tk 2 lc2 rfl (by kernel_rfl) (fun _ _ _ h => h) zk
  · intro wq zq
    go_simp
    try rfl
  go_frame
  apply tk 3 lc3 rfl (by kernel_rfl) (fun _ _ _ h => h) zk
  · intro wq zq
    go_simp
    try rfl
  go_frame
  apply tk 4 lc4 rfl (by kernel_rfl) (fun _ _ _ h => h) zk
  · intro wq zq
    go_simp
    try rfl
  go_frame
  apply tk 5 lc5 rfl (by kernel_rfl) (fun _ _ _ h => h) zk
  · intro wq zq
    go_simp
    try rfl
  go_frame
  apply tk 6 lc6 rfl (by kernel_rfl) (fun _ _ _ h => h) zk
  · intro wq zq
    have s1 := zq.2.1
    go_simp
    try rfl
  go_frame
  apply tk 8 lc8 rfl (by kernel_rfl) (fun _ _ _ h => h) zk
  · intro wq zq
    go_simp
    try rfl
  go_frame
  apply tk 9 lc9 rfl (by kernel_rfl) (fun _ _ _ h => h) zk
  · intro wq zq
    go_simp
    try rfl
  go_frame
  apply tk 10 lc10 rfl (by kernel_rfl) (fun _ _ _ h => h) zk
  · intro wq zq
    go_simp
    try rfl
  go_frame
  apply tk 11 lc11 rfl (by kernel_rfl) (fun _ _ _ h => h) zk
  · intro wq zq
    have s1 := zq.2.2
    go_simp
    try rfl
  go_frame
  refine Go.Proofs.Ythnnpipekeanoaa.rd 7 lc7 rfl (by kernel_rfl) fun K hK => ?_
  go_simp
  refine (fc.all  HV.out.pt hl).mono ?_
  rintro e W4 ⟨v, rfl, hv4, hb4⟩
  have C4 := hide (Ch.of_below (Q := fun _ => False) hb4)
  have TW4 := hide (HV.out.quiet fc C4.out)
  have V4 := hide hv4
  have Z4 := hide (show (fun wq => Ch (fun y => y = T ∨ lv.ownBlock = some y ∨ wv.ownBlock = some y) V wq ∧ wq.cell? ⟨T, 0, none⟩ = some (.pointer (some ⟨p, 0, none⟩)) ∧ wq.cell? ⟨T, 1, none⟩ = some (.pointer (some ⟨b, 0, none⟩))) W4 from tw_S TW4.out (zk.1.trans (C4.out.mono (fun _ _ h => h.elim)) (fun _ _ h => h)))
  clear hb4 hv4
  go_wp2_with fail
  refine hK.out _ _ ?_ (fun zk => ?_)
  · exact Z4.out
  clear hK K
  try go_frame
  refine Go.Proofs.Ythnnpipekeanoaa.rd 12 lc12 rfl (by kernel_rfl) fun K hK => ?_
  go_simp
  refine (rnowW TW4.out.db hl).mono ?_
  rintro e W5 ⟨v', rfl, hv5, hb5⟩
  have C5 := hide (Ch.of_below (Q := fun _ => False) hb5)
  have TW5 := hide (TW4.out.quiet fc C5.out)
  have V5 := hide hv5
  have Z5 := hide (show (fun wq => Ch (fun y => y = T ∨ lv.ownBlock = some y ∨ wv.ownBlock = some y) V wq ∧ wq.cell? ⟨T, 0, none⟩ = some (.pointer (some ⟨p, 0, none⟩)) ∧ wq.cell? ⟨T, 1, none⟩ = some (.pointer (some ⟨b, 0, none⟩))) W5 from tw_S TW5.out (Z4.out.1.trans (C5.out.mono (fun _ _ h => h.elim)) (fun _ _ h => h)))
  have BP := hide (bput TW5.out.hT TW5.out.hl TW5.out.hw (fun x hx e => by have a := TW5.out.clv x hx; have b := TW5.out.cwv x e; omega) (V4.out.ch C5.out (fun _ _ h => h)) V5.out (Nat.le_trans (sel_le _ _) hl) (by rw [TW5.out.n1]; exact hn2) (by rw [TW5.out.n2]; exact hn2) TW5.out.hB)
  clear hb5 hv5
  go_wp2_with fail
  refine hK.out _ _ ?_ (fun zk => ?_)
  · exact Z5.out
  clear hK K
  try go_frame
  refine Go.Proofs.Ythnnpipekeanoaa.rd 13 lc13 rfl (by kernel_rfl) fun K hK => ?_
  go_simp
  refine (BP.out).mono ?_
  rintro e W6 ⟨rfl, lv', wv', hT6, hl6, hw6, hd6, nl6, nw6, hc6⟩
  have TW6 := hide (tw_more fc HV.out hn V4.out V5.out C4.out C5.out hT6 hl6 hw6 hd6 nl6 nw6 hc6)
  have Z6 := hide (show (fun wq => Ch (fun y => y = T ∨ lv.ownBlock = some y ∨ wv.ownBlock = some y) V wq ∧ wq.cell? ⟨T, 0, none⟩ = some (.pointer (some ⟨p, 0, none⟩)) ∧ wq.cell? ⟨T, 1, none⟩ = some (.pointer (some ⟨b, 0, none⟩))) W6 from ⟨Z5.out.1.trans hc6 (fun _ _ h => h), by simp [Lib.cell_of_heap hT6], by simp [Lib.cell_of_heap hT6]⟩)
  clear hT6 hl6 hw6 hd6 nl6 nw6 hc6
  go_wp2_with fail
  refine hK.out _ _ ?_ (fun zk => ?_)
  · exact Z6.out
  clear hK K
  try go_frame
  refine Go.Proofs.Ythnnpipekeanoaa.rd 14 lc14 rfl (by kernel_rfl) fun K hK => ?_
  go_simp
  refine hK.out _ _ ?_ (fun zk => ?_)
  · exact Z6.out
  clear hK K
  try go_frame
  refine wpAnyH_done (by kernel_rfl) ?_ _
  go_wp2
  exact bodyPost_ret (v := .bool true) (by simp [results, Try.results8, go_sem]) rfl ⟨rfl, _, _, _, _, _, TW6.out⟩

end Go.Proofs.Ythnnpipekeanoaa
