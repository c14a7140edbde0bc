/- Layer 13: the document's examples. -/
import Derived.Test.YtcogiklnegpfiaaGr
namespace Go.Proofs.Ytcogiklnegpfiaa
open Go.RowKit Go.Shelf

abbrev aw0 : Oper := { dst := some 88, op := Op.move (Operand.tmp 16), type := 4, pos := "law.go:35", after := #[], guard := none }
abbrev aw1 : Oper := { dst := some 89, op := Op.move (Operand.tmp 88), type := 4, pos := "law.go:35", after := #[{ on := 0, ground := Ground.data }], guard := none }
abbrev aw2 : Oper := { dst := some 90, op := Op.move (Operand.tmp 11), type := 34, pos := "law.go:35", after := #[{ on := 1, ground := Ground.guard }], guard := some (1, true) }
abbrev aw3 : Oper := { dst := some 91, op := Op.call { callee := Callee.builtin Builtin.len, args := #[Operand.tmp 90], argTypes := #[34] }, type := 3, pos := "law.go:35", after := #[{ on := 2, ground := Ground.data }, { on := 1, ground := Ground.guard }], guard := some (1, true) }
abbrev aw4 : Oper := { dst := some 92, op := Op.binOp BinOp.eql 3 (Operand.tmp 91) (Operand.const (Value.int IntKind.i64 2)) 3, type := 4, pos := "law.go:35", after := #[{ on := 3, ground := Ground.data }, { on := 1, ground := Ground.guard }], guard := some (1, true) }
abbrev aw5 : Oper := { dst := some 93, op := Op.pick (Operand.tmp 89) (Operand.tmp 92) (Operand.const (Value.bool false)), type := 4, pos := "law.go:35", after := #[{ on := 1, ground := Ground.data }, { on := 4, ground := Ground.data }], guard := none }
abbrev aw6 : Oper := { dst := some 94, op := Op.move (Operand.tmp 93), type := 4, pos := "law.go:35", after := #[{ on := 5, ground := Ground.data }, { on := 1, ground := Ground.chain }], guard := none }
abbrev aw7 : Oper := { dst := some 95, op := Op.move (Operand.tmp 11), type := 34, pos := "law.go:35", after := #[{ on := 6, ground := Ground.guard }], guard := some (6, true) }
abbrev aw8 : Oper := { dst := some 96, op := Op.indexAddr 34 (Operand.tmp 95) (Operand.const (Value.int IntKind.i64 0)), type := 0, pos := "law.go:35", after := #[{ on := 7, ground := Ground.data }, { on := 6, ground := Ground.guard }], guard := some (6, true) }
abbrev aw9 : Oper := { dst := some 97, op := Op.load 43 (Operand.tmp 96), type := 43, pos := "law.go:35", after := #[{ on := 8, ground := Ground.data }, { on := 6, ground := Ground.guard }], guard := some (6, true) }
abbrev aw10 : Oper := { dst := some 98, op := Op.load 43 (Operand.tmp 3), type := 43, pos := "law.go:35", after := #[{ on := 6, ground := Ground.guard }], guard := some (6, true) }
abbrev aw11 : Oper := { dst := some 99, op := Op.binOp BinOp.eql 43 (Operand.tmp 97) (Operand.tmp 98) 43, type := 4, pos := "law.go:35", after := #[{ on := 9, ground := Ground.data }, { on := 10, ground := Ground.data }, { on := 6, ground := Ground.guard }], guard := some (6, true) }
abbrev aw12 : Oper := { dst := some 100, op := Op.pick (Operand.tmp 94) (Operand.tmp 99) (Operand.const (Value.bool false)), type := 4, pos := "law.go:35", after := #[{ on := 6, ground := Ground.data }, { on := 11, ground := Ground.data }], guard := none }
abbrev aw13 : Oper := { dst := some 101, op := Op.move (Operand.tmp 100), type := 4, pos := "law.go:35", after := #[{ on := 12, ground := Ground.data }, { on := 6, ground := Ground.chain }], guard := none }
abbrev aw14 : Oper := { dst := some 102, op := Op.move (Operand.tmp 11), type := 34, pos := "law.go:35", after := #[{ on := 13, ground := Ground.guard }], guard := some (13, true) }
abbrev aw15 : Oper := { dst := some 103, op := Op.indexAddr 34 (Operand.tmp 102) (Operand.const (Value.int IntKind.i64 1)), type := 0, pos := "law.go:35", after := #[{ on := 14, ground := Ground.data }, { on := 13, ground := Ground.guard }], guard := some (13, true) }
abbrev aw16 : Oper := { dst := some 104, op := Op.load 43 (Operand.tmp 103), type := 43, pos := "law.go:35", after := #[{ on := 15, ground := Ground.data }, { on := 13, ground := Ground.guard }], guard := some (13, true) }
abbrev aw17 : Oper := { dst := some 105, op := Op.load 43 (Operand.tmp 5), type := 43, pos := "law.go:35", after := #[{ on := 13, ground := Ground.guard }], guard := some (13, true) }
abbrev aw18 : Oper := { dst := some 106, op := Op.binOp BinOp.eql 43 (Operand.tmp 104) (Operand.tmp 105) 43, type := 4, pos := "law.go:35", after := #[{ on := 16, ground := Ground.data }, { on := 17, ground := Ground.data }, { on := 13, ground := Ground.guard }], guard := some (13, true) }
abbrev aw19 : Oper := { dst := some 107, op := Op.pick (Operand.tmp 101) (Operand.tmp 106) (Operand.const (Value.bool false)), type := 4, pos := "law.go:35", after := #[{ on := 13, ground := Ground.data }, { on := 18, ground := Ground.data }], guard := none }
abbrev aw20 : Oper := { dst := some 108, op := Op.move (Operand.tmp 107), type := 4, pos := "law.go:35", after := #[{ on := 19, ground := Ground.data }, { on := 13, ground := Ground.chain }], guard := none }
abbrev aw21 : Oper := { dst := some 109, op := Op.load 43 (Operand.tmp 14), type := 43, pos := "law.go:35", after := #[{ on := 20, ground := Ground.guard }], guard := some (20, true) }
abbrev aw22 : Oper := { dst := some 110, op := Op.build 43 #[(0, Operand.const (Value.int IntKind.u32 1)), (1, Operand.const (Value.int IntKind.u32 2))], type := 43, pos := "law.go:35", after := #[{ on := 20, ground := Ground.guard }], guard := some (20, true) }
abbrev aw23 : Oper := { dst := some 111, op := Op.binOp BinOp.eql 43 (Operand.tmp 109) (Operand.tmp 110) 43, type := 4, pos := "law.go:35", after := #[{ on := 21, ground := Ground.data }, { on := 22, ground := Ground.data }, { on := 20, ground := Ground.guard }], guard := some (20, true) }
abbrev aw24 : Oper := { dst := some 112, op := Op.pick (Operand.tmp 108) (Operand.tmp 111) (Operand.const (Value.bool false)), type := 4, pos := "law.go:35", after := #[{ on := 20, ground := Ground.data }, { on := 23, ground := Ground.data }], guard := none }
abbrev aw25 : Oper := { dst := some 113, op := Op.move (Operand.tmp 112), type := 4, pos := "law.go:35", after := #[{ on := 24, ground := Ground.data }, { on := 20, ground := Ground.chain }], guard := none }
abbrev aw26 : Oper := { dst := some 114, op := Op.move (Operand.tmp 1), type := 24, pos := "law.go:35", after := #[{ on := 25, ground := Ground.guard }], guard := some (25, true) }
abbrev aw27 : Oper := { dst := some 115, op := Op.call { callee := Callee.value (Operand.func 10), args := #[Operand.tmp 114], argTypes := #[24] }, type := 3, pos := "law.go:35", after := #[{ on := 26, ground := Ground.data }, { on := 25, ground := Ground.chain }, { on := 25, ground := Ground.guard }], guard := some (25, true) }
abbrev aw28 : Oper := { dst := some 116, op := Op.binOp BinOp.eql 3 (Operand.tmp 115) (Operand.const (Value.int IntKind.i64 2)) 3, type := 4, pos := "law.go:35", after := #[{ on := 27, ground := Ground.data }, { on := 25, ground := Ground.guard }], guard := some (25, true) }
abbrev aw29 : Oper := { dst := some 117, op := Op.pick (Operand.tmp 113) (Operand.tmp 116) (Operand.const (Value.bool false)), type := 4, pos := "law.go:35", after := #[{ on := 25, ground := Ground.data }, { on := 28, ground := Ground.data }], guard := none }
abbrev aw30 : Oper := { dst := some 0, op := Op.assign (Operand.tmp 117), type := 4, pos := "law.go:35", after := #[{ on := 29, ground := Ground.data }, { on := 27, ground := Ground.chain }, { on := 0, ground := Ground.phase }, { on := 1, ground := Ground.phase }, { on := 2, ground := Ground.phase }, { on := 3, ground := Ground.phase }, { on := 4, ground := Ground.phase }, { on := 5, ground := Ground.phase }, { on := 6, ground := Ground.phase }, { on := 7, ground := Ground.phase }, { on := 8, ground := Ground.phase }, { on := 9, ground := Ground.phase }, { on := 10, ground := Ground.phase }, { on := 11, ground := Ground.phase }, { on := 12, ground := Ground.phase }, { on := 13, ground := Ground.phase }, { on := 14, ground := Ground.phase }, { on := 15, ground := Ground.phase }, { on := 16, ground := Ground.phase }, { on := 17, ground := Ground.phase }, { on := 18, ground := Ground.phase }, { on := 19, ground := Ground.phase }, { on := 20, ground := Ground.phase }, { on := 21, ground := Ground.phase }, { on := 22, ground := Ground.phase }, { on := 23, ground := Ground.phase }, { on := 24, ground := Ground.phase }, { on := 25, ground := Ground.phase }, { on := 26, ground := Ground.phase }, { on := 27, ground := Ground.phase }, { on := 28, ground := Ground.phase }, { on := 29, ground := Ground.phase }], guard := none }

abbrev A1 : List Th := [⟨1, 1, 1, false⟩]
abbrev A2 : List Th := [⟨1, 1, 1, false⟩, ⟨2, 1, 2, false⟩]
abbrev A3 : List Th := [⟨1, 1, 1, false⟩, ⟨2, 1, 2, false⟩, ⟨3, 1, 3, false⟩]
abbrev A5 : List Th := [⟨1, 1, 1, true⟩, ⟨2, 1, 2, true⟩, ⟨3, 1, 3, false⟩]
abbrev A6 : List Th := [⟨1, 1, 1, true⟩, ⟨2, 1, 2, true⟩, ⟨3, 1, 3, false⟩, ⟨1, 2, 1, false⟩]

section
variable {w V : World} {b p g : Nat} {N : Nat}
theorem ex_mk1 (h : Hp V N b p g [] 3) : Calls Try.prog 16 #[.pointer (some ⟨b, 0, none⟩), .int .i64 1] V fun e w' => e = .returned (.tuple #[hv 1 1, .int .i64 0]) ∧ Hp w' N b p g A1 3 ∧ Ch (fun x => x = p ∨ x = g) V w' := hmake_is h rfl (by decide)
theorem ex_mk2 (h : Hp V N b p g A1 3) : Calls Try.prog 16 #[.pointer (some ⟨b, 0, none⟩), .int .i64 2] V fun e w' => e = .returned (.tuple #[hv 2 1, .int .i64 0]) ∧ Hp w' N b p g A2 3 ∧ Ch (fun x => x = p ∨ x = g) V w' := hmake_is h rfl (by decide)
theorem ex_mk3 (h : Hp V N b p g A2 3) : Calls Try.prog 16 #[.pointer (some ⟨b, 0, none⟩), .int .i64 3] V fun e w' => e = .returned (.tuple #[hv 3 1, .int .i64 0]) ∧ Hp w' N b p g A3 3 ∧ Ch (fun x => x = p ∨ x = g) V w' := hmake_is h rfl (by decide)
theorem ex_mk4 (h : Hp V N b p g A3 3) : Calls Try.prog 16 #[.pointer (some ⟨b, 0, none⟩), .int .i64 1] V fun e w' => e = .returned (.tuple #[hv 0 0, .int .i64 131]) ∧ Hp w' N b p g A3 3 ∧ Ch (fun x => x = p ∨ x = g) V w' := hmake_is h rfl (by decide)
theorem ex_mk6 (h : Hp V N b p g A5 3) : Calls Try.prog 16 #[.pointer (some ⟨b, 0, none⟩), .int .i64 1] V fun e w' => e = .returned (.tuple #[hv 1 2, .int .i64 0]) ∧ Hp w' N b p g A6 3 ∧ Ch (fun x => x = p ∨ x = g) V w' := hmake_is h rfl (by decide)
theorem ex_kd5 (h : Hp V N b p g A5 3) : Calls Try.prog 17 #[.pointer (some ⟨b, 0, none⟩), hv 2 1] V fun e w' => e = .returned (.tuple #[.int .i64 0, .int .i64 132]) ∧ Below V.heap.size V w' := hkind_is h (show Us 2 from by constructor <;> decide)

theorem rc_nil {x : Hd} (h : Rc (lvH A3) (fun _ => []) [(3, 1)] x) : x = (3, 1) := by
  cases h with
  | root h1 _ => simpa using h1
  | step _ h2 _ => cases h2
theorem ex_co4 (h : Hp V N b p g A3 3) {k : Nat} (hk : V.heap[k]? = some (.cells #[.int .u32 3, .int .u32 1] 43 (0, 0))) : Calls Try.prog 19 #[.pointer (some ⟨b, 0, none⟩), .slice (some ⟨k, 0, none⟩) 1 1, .nilFunc] V fun e w' => ∃ v, e = .returned v ∧ Row hF 2 43 w' V.heap.size v [(1, 1), (2, 1)] ∧ Hp w' N b p g A5 3 ∧ Ch (fun y => y = p ∨ y = g) V w' := by
  have hlt := (Array.getElem?_eq_some_iff.1 hk).1
  have hL : HLo V (fun y => y < V.heap.size) (.slice (some ⟨k, 0, none⟩) 1 1) [(3, 1)] := ⟨_, 1, rfl, by decide, fun _ => ⟨k, 0, rfl, hlt, hlt, fun i hi => by
    obtain rfl : i = 0 := by simpa using hi
    simp [Lib.cell_of_heap hk]⟩⟩
  refine (collect_is nil_teller (Or.inl rfl) h (O := fun _ => False) (fun _ h => h) (fun _ h => h.elim) hL (fun x hx => by rw [List.mem_singleton] at hx; subst hx; constructor <;> decide)).mono ?_
  rintro e w' ⟨v, R, A, O', rfl, hI⟩
  obtain ⟨mt, hms, hR⟩ := hI.ms
  have f1 : mg mt 1 = false := by
    cases e : mg mt 1
    · rfl
    · have := rc_nil ((hms.done (x := (1, 1)) (by decide)).1 e)
      cases this
  have f2 : mg mt 2 = false := by
    cases e : mg mt 2
    · rfl
    · have := rc_nil ((hms.done (x := (2, 1)) (by decide)).1 e)
      cases this
  have f3 : mg mt 3 = true := (hms.done (x := (3, 1)) (by decide)).2 (.root (by simp) (by decide))
  have hR2 : R = [(1, 1), (2, 1)] := by
    rw [hR, show allH A3 3 = [(1, 1), (2, 1), (3, 1)] from rfl]
    simp [f1, f2, f3]
  subst hR2
  exact ⟨v, rfl, hI.row, hI.hp, hI.ch.mono (fun y _ e => e.elim (fun e => e.elim) (fun e => e))⟩
end

set_option maxRecDepth 100000 in
set_option maxHeartbeats 8000000 in
theorem awake_is (w : World) : Calls Try.prog 6 #[] w fun e w' => e = .returned (.bool true) ∧ Below w.heap.size w w' := by
  go_enter Try.func6, Try.ntmps6
  go_wp2_with fail
  refine (hnew_is w 3 3 rfl (by decide) (by decide)).mono ?_
  rintro e V1 ⟨b, p, g, rfl, h1, b1⟩
  have hlo := h1.lows
  have H1 := hide h1
  have B1 := hide b1
  clear h1 b1
  go_wp2_with fail
  refine (ex_mk1 H1.out).mono ?_
  rintro e w1 ⟨rfl, h1, c1⟩
  obtain ⟨V2, hV2⟩ : ∃ V, w1.alloc (.cells #[.int .u32 1, .int .u32 1] 43) = V := ⟨_, rfl⟩
  have a1 : Ch (fun _ => False) w1 V2 := by rw [← hV2]; exact Ch.alloc _ _
  have n1 : V2.heap[w1.heap.size]? = some (.cells #[.int .u32 1, .int .u32 1] 43 (0, 0)) := by rw [← hV2]; exact heap_new _ _
  have H2 := hide (h1.ch0 a1)
  have C1 := hide (c1.trans a1 (fun _ _ h => h.elim))
  have N1 := hide n1
  have Z1 := hide c1.size
  clear h1 c1 a1 n1
  go_wp2_with fail
  refine (ex_mk2 H2.out).mono ?_
  rintro e w2 ⟨rfl, h2, c2⟩
  obtain ⟨V3, hV3⟩ : ∃ V, w2.alloc (.cells #[.int .u32 2, .int .u32 1] 43) = V := ⟨_, rfl⟩
  have a2 : Ch (fun _ => False) w2 V3 := by rw [← hV3]; exact Ch.alloc _ _
  have n2 : V3.heap[w2.heap.size]? = some (.cells #[.int .u32 2, .int .u32 1] 43 (0, 0)) := by rw [← hV3]; exact heap_new _ _
  have H3 := hide (h2.ch0 a2)
  have C2 := hide (c2.trans a2 (fun _ _ h => h.elim))
  have N2 := hide n2
  have Z2 := hide c2.size
  clear h2 c2 a2 n2
  go_wp2_with fail
  refine (ex_mk3 H3.out).mono ?_
  rintro e w3 ⟨rfl, h3, c3⟩
  obtain ⟨V4, hV4⟩ : ∃ V, w3.alloc (.cells #[.int .u32 3, .int .u32 1] 43) = V := ⟨_, rfl⟩
  have a3 : Ch (fun _ => False) w3 V4 := by rw [← hV4]; exact Ch.alloc _ _
  have n3 : V4.heap[w3.heap.size]? = some (.cells #[.int .u32 3, .int .u32 1] 43 (0, 0)) := by rw [← hV4]; exact heap_new _ _
  have H4 := hide (h3.ch0 a3)
  have C3 := hide (c3.trans a3 (fun _ _ h => h.elim))
  have N3 := hide n3
  have Z3 := hide c3.size
  clear h3 c3 a3 n3
  go_wp2_with fail
  refine (ex_mk4 H4.out).mono ?_
  rintro e w4 ⟨rfl, h4, c4⟩
  have a4 : Ch (fun _ => False) w4 (w4.alloc (.cells #[.int .u32 0, .int .u32 0] 43)) := by exact Ch.alloc _ _
  have n4 : (w4.alloc (.cells #[.int .u32 0, .int .u32 0] 43)).heap[w4.heap.size]? = some (.cells #[.int .u32 0, .int .u32 0] 43 (0, 0)) := by exact heap_new _ _
  have H5 := hide (h4.ch0 a4)
  have C4 := hide (c4.trans a4 (fun _ _ h => h.elim))
  have N4 := hide n4
  have Z4 := hide c4.size
  clear h4 c4 a4 n4
  have hs4 : w3.heap.size < (w4.alloc (.cells #[.int .u32 0, .int .u32 0] 43)).heap.size := by have := (Array.getElem?_eq_some_iff.1 (C4.out.box N3.out (by have := Z1.out; have := C2.out.size; have := C1.out.size; have := C3.out.size; have := Z2.out; have := Z3.out; omega))).1; exact this
  have hq : ∀ {V V' : World} {A : Nat} {T : Obj}, Ch (fun x => x = p ∨ x = g) V V' → V1.heap.size ≤ A → V.heap[A]? = some T → V'.heap[A]? = some T := fun c hA h => c.box h (by omega)
  have hz1 : V1.heap.size ≤ w1.heap.size := Z1.out
  have hz2 : V1.heap.size ≤ w2.heap.size := Nat.le_trans C1.out.size Z2.out
  have hz3 : V1.heap.size ≤ w3.heap.size := Nat.le_trans (Nat.le_trans C1.out.size C2.out.size) Z3.out
  have k3 := hq C4.out hz3 N3.out
  have k31 : (w4.alloc (.cells #[.int .u32 0, .int .u32 0] 43)).cell? ⟨w3.heap.size, 0, none⟩ = some (.int .u32 3) := by simp [Lib.cell_of_heap k3]
  have k32 : (w4.alloc (.cells #[.int .u32 0, .int .u32 0] 43)).cell? ⟨w3.heap.size, 1, none⟩ = some (.int .u32 1) := by simp [Lib.cell_of_heap k3]
  clear k3
  obtain ⟨W5, hW5⟩ : ∃ V, (w4.alloc (.cells #[.int .u32 0, .int .u32 0] 43)).alloc (.cells #[.int .u32 3, .int .u32 1] 43) = V := ⟨_, rfl⟩
  have a5 : Ch (fun _ => False) (w4.alloc (.cells #[.int .u32 0, .int .u32 0] 43)) W5 := by rw [← hW5]; exact Ch.alloc _ _
  have n5 : W5.heap[w4.heap.size + 1]? = some (.cells #[.int .u32 3, .int .u32 1] 43 (0, 0)) := by rw [← hW5]; have := heap_new (w4.alloc (.cells #[.int .u32 0, .int .u32 0] 43)) (.cells #[.int .u32 3, .int .u32 1] 43); rwa [World.size_alloc] at this
  have HC5 := hide (ex_co4 (H5.out.ch0 a5) n5)
  have A5' := hide a5
  clear a5 n5
  go_wp2_with fail
  refine HC5.out.mono ?_
  rintro e w5 ⟨v, rfl, hr5, h5, c5⟩
  have c15 := ((((C1.out.trans C2.out (fun _ _ h => h)).trans C3.out (fun _ _ h => h)).trans C4.out (fun _ _ h => h)).trans A5'.out (fun _ _ h => h.elim)).trans c5 (fun _ _ h => h)
  have c25 := (((C2.out.trans C3.out (fun _ _ h => h)).trans C4.out (fun _ _ h => h)).trans A5'.out (fun _ _ h => h.elim)).trans c5 (fun _ _ h => h)
  have c35 := ((C3.out.trans C4.out (fun _ _ h => h)).trans A5'.out (fun _ _ h => h.elim)).trans c5 (fun _ _ h => h)
  have x1 := hq c25 hz1 N1.out
  have x2 := hq c35 hz2 N2.out
  have k21 : w5.cell? ⟨w2.heap.size, 0, none⟩ = some (.int .u32 2) := by simp [Lib.cell_of_heap x2]
  have k22 : w5.cell? ⟨w2.heap.size, 1, none⟩ = some (.int .u32 1) := by simp [Lib.cell_of_heap x2]
  have hz5 : V1.heap.size ≤ W5.heap.size := Nat.le_trans (Nat.le_trans (Nat.le_trans (Nat.le_trans C1.out.size C2.out.size) C3.out.size) C4.out.size) A5'.out.size
  have hm0 : ∀ y, v.ownBlock = some y → V1.heap.size ≤ y := fun y hy => Nat.le_trans hz5 (own_in hr5 hy).1
  have X1 := hide x1
  have X2 := hide x2
  have HR5 := hide hr5
  have H5' := hide h5
  have C15 := hide c15
  clear x1 x2 hr5 h5 c5 c15 c25 c35 HC5 k31 k32 hs4
  go_wp2_with fail
  refine (ex_kd5 H5'.out).mono ?_
  rintro e w6 ⟨rfl, b6⟩
  have c6 := Ch.of_below (Q := fun _ => False) b6
  have H6 := hide (H5'.out.ch0 c6)
  have R6 := hide (HR5.out.ch c6 (fun _ _ h => h))
  have Y1 := hide (c6.box X1.out (fun h => h))
  have Y2 := hide (c6.box X2.out (fun h => h))
  have C16 := hide (C15.out.trans c6 (fun _ _ h => h.elim))
  clear c6 b6 k21 k22
  go_wp2_with fail
  refine (ex_mk6 H6.out).mono ?_
  rintro e w8 ⟨rfl, h8, c8⟩
  obtain ⟨w9, hw9⟩ : ∃ V, w8.alloc (.cells #[.int .u32 1, .int .u32 2] 43) = V := ⟨_, rfl⟩
  have a9 : Ch (fun _ => False) w8 w9 := by rw [← hw9]; exact Ch.alloc _ _
  have n9 : w9.heap[w8.heap.size]? = some (.cells #[.int .u32 1, .int .u32 2] 43 (0, 0)) := by rw [← hw9]; exact heap_new _ _
  have H9 := hide (h8.ch0 a9)
  have c9 := c8.trans a9 (fun _ _ h => h.elim)
  have R9 := hide (R6.out.ch c9 (fun y hy e => by have := hm0 y hy; omega))
  have Q1 := hide (hq c9 hz1 Y1.out)
  have Q2 := hide (hq c9 hz2 Y2.out)
  have N9 := hide n9
  have HB := hide (B1.out.trans ((C16.out.trans c9 (fun _ _ h => h)).below B1.out.size (fun x hx e => by omega)))
  obtain ⟨vb, vc, cur, rfl, -, -, -, -, -, -⟩ := R9.out.at hF_len (by simp)
  have HC := hide (fun wq (kq : Ch (fun _ => False) w9 wq) => show (wq.cell? ⟨w1.heap.size, 0, none⟩ = some (.int .u32 1) ∧ wq.cell? ⟨w1.heap.size, 1, none⟩ = some (.int .u32 1)) ∧ (wq.cell? ⟨w2.heap.size, 0, none⟩ = some (.int .u32 2) ∧ wq.cell? ⟨w2.heap.size, 1, none⟩ = some (.int .u32 1)) ∧ (wq.cell? ⟨w8.heap.size, 0, none⟩ = some (.int .u32 1) ∧ wq.cell? ⟨w8.heap.size, 1, none⟩ = some (.int .u32 2)) ∧ (wq.cell? ⟨vb, 0, none⟩ = some (.int .u32 1) ∧ wq.cell? ⟨vb, 1, none⟩ = some (.int .u32 1)) ∧ (wq.cell? ⟨vb, 2, none⟩ = some (.int .u32 2) ∧ wq.cell? ⟨vb, 3, none⟩ = some (.int .u32 1)) from by
    have e1 := Lib.cell_of_heap (kq.box Q1.out (fun h => h))
    have e2 := Lib.cell_of_heap (kq.box Q2.out (fun h => h))
    have e3 := Lib.cell_of_heap (kq.box N9.out (fun h => h))
    obtain ⟨g', c', cur, e, _, _, _, _, _, hc⟩ := (R9.out.ch kq (fun _ _ h => h)).at hF_len (by simp)
    cases e
    exact ⟨⟨by simp [e1], by simp [e1]⟩, ⟨by simp [e2], by simp [e2]⟩, ⟨by simp [e3], by simp [e3]⟩, ⟨hc 0 (by simp) 0 _ rfl, hc 0 (by simp) 1 _ rfl⟩, hc 1 (by simp) 0 _ rfl, hc 1 (by simp) 1 _ rfl⟩)
  clear h8 c8 a9 n9 c9 hm0 hz1 hz2 hz3 hz5 hlo
  go_wp2_with fail
  clear hw9
  refine wp_region_held_drew (S := Ch (fun _ => False) w9) (by kernel_rfl) (Ch.drew _) (fun zk => ?_)
  apply tk 0 aw0 rfl (by kernel_rfl) (fun _ _ _ h => h) zk
  · intro wq zq
    go_simp
    try rfl
  go_frame
  apply tk 1 aw1 rfl (by kernel_rfl) (fun _ _ _ h => h) zk
  · intro wq zq
    go_simp
    try rfl
  go_frame
  apply tk 2 aw2 rfl (by kernel_rfl) (fun _ _ _ h => h) zk
  · intro wq zq
    go_simp
    try rfl
  go_frame
  apply tk 3 aw3 rfl (by kernel_rfl) (fun _ _ _ h => h) zk
  · intro wq zq
    go_simp
    try rfl
  go_frame
  apply tk 4 aw4 rfl (by kernel_rfl) (fun _ _ _ h => h) zk
  · intro wq zq
    go_simp
    try rfl
  go_frame
  apply tk 5 aw5 rfl (by kernel_rfl) (fun _ _ _ h => h) zk
  · intro wq zq
    go_simp
    try rfl
  go_frame
  apply tk 6 aw6 rfl (by kernel_rfl) (fun _ _ _ h => h) zk
  · intro wq zq
    go_simp
    try rfl
  go_frame
  apply tk 7 aw7 rfl (by kernel_rfl) (fun _ _ _ h => h) zk
  · intro wq zq
    go_simp
    try rfl
  go_frame
  apply tk 8 aw8 rfl (by kernel_rfl) (fun _ _ _ h => h) zk
  · intro wq zq
    go_simp
    try rfl
  go_frame
  apply tk 9 aw9 rfl (by kernel_rfl) (fun _ _ _ h => h) zk
  · intro wq zq
    obtain ⟨s0, s1⟩ := (HC.out _ zq).2.2.2.1
    go_simp
    try rfl
  go_frame
  apply tk 10 aw10 rfl (by kernel_rfl) (fun _ _ _ h => h) zk
  · intro wq zq
    obtain ⟨s0, s1⟩ := (HC.out _ zq).1
    go_simp
    try rfl
  go_frame
  apply tk 11 aw11 rfl (by kernel_rfl) (fun _ _ _ h => h) zk
  · intro wq zq
    go_simp
    try rfl
  go_frame
  apply tk 12 aw12 rfl (by kernel_rfl) (fun _ _ _ h => h) zk
  · intro wq zq
    go_simp
    try rfl
  go_frame
  apply tk 13 aw13 rfl (by kernel_rfl) (fun _ _ _ h => h) zk
  · intro wq zq
    go_simp
    try rfl
  go_frame
  apply tk 14 aw14 rfl (by kernel_rfl) (fun _ _ _ h => h) zk
  · intro wq zq
    go_simp
    try rfl
  go_frame
  apply tk 15 aw15 rfl (by kernel_rfl) (fun _ _ _ h => h) zk
  · intro wq zq
    go_simp
    try rfl
  go_frame
  apply tk 16 aw16 rfl (by kernel_rfl) (fun _ _ _ h => h) zk
  · intro wq zq
    obtain ⟨s0, s1⟩ := (HC.out _ zq).2.2.2.2
    go_simp
    try rfl
  go_frame
  apply tk 17 aw17 rfl (by kernel_rfl) (fun _ _ _ h => h) zk
  · intro wq zq
    obtain ⟨s0, s1⟩ := (HC.out _ zq).2.1
    go_simp
    try rfl
  go_frame
  apply tk 18 aw18 rfl (by kernel_rfl) (fun _ _ _ h => h) zk
  · intro wq zq
    go_simp
    try rfl
  go_frame
  apply tk 19 aw19 rfl (by kernel_rfl) (fun _ _ _ h => h) zk
  · intro wq zq
    go_simp
    try rfl
  go_frame
  apply tk 20 aw20 rfl (by kernel_rfl) (fun _ _ _ h => h) zk
  · intro wq zq
    go_simp
    try rfl
  go_frame
  apply tk 21 aw21 rfl (by kernel_rfl) (fun _ _ _ h => h) zk
  · intro wq zq
    obtain ⟨s0, s1⟩ := (HC.out _ zq).2.2.1
    go_simp
    try rfl
  go_frame
  apply tk 22 aw22 rfl (by kernel_rfl) (fun _ _ _ h => h) zk
  · intro wq zq
    go_simp
    try rfl
  go_frame
  apply tk 23 aw23 rfl (by kernel_rfl) (fun _ _ _ h => h) zk
  · intro wq zq
    go_simp
    try rfl
  go_frame
  apply tk 24 aw24 rfl (by kernel_rfl) (fun _ _ _ h => h) zk
  · intro wq zq
    go_simp
    try rfl
  go_frame
  apply tk 25 aw25 rfl (by kernel_rfl) (fun _ _ _ h => h) zk
  · intro wq zq
    go_simp
    try rfl
  go_frame
  apply tk 26 aw26 rfl (by kernel_rfl) (fun _ _ _ h => h) zk
  · intro wq zq
    go_simp
    try rfl
  go_frame
  refine rd 27 aw27 rfl (by kernel_rfl) fun K hK => ?_
  go_simp
  refine (hcount_is (H9.out.ch0 zk)).mono ?_
  rintro e w10 ⟨rfl, hb10⟩
  have Z10 := hide (zk.trans (Ch.of_below (Q := fun _ => False) hb10) (fun _ _ h => h))
  clear hb10
  go_wp2_with fail
  refine hK.out _ _ ?_ (fun zk => ?_)
  · exact Z10.out
  clear hK K
  try go_frame
  apply tk 28 aw28 rfl (by kernel_rfl) (fun _ _ _ h => h) zk
  · intro wq zq
    go_simp
    try rfl
  go_frame
  apply tk 29 aw29 rfl (by kernel_rfl) (fun _ _ _ h => h) zk
  · intro wq zq
    go_simp
    try rfl
  go_frame
  apply tk 30 aw30 rfl (by kernel_rfl) (fun _ _ _ h => h) zk
  · intro wq zq
    go_simp
    try rfl
  go_frame
  refine wpAnyH_done (by kernel_rfl) ?_ _
  go_wp2
  go_ret
  exact ⟨rfl, HB.out.trans (zk.below HB.out.size (fun _ _ h => h))⟩

end Go.Proofs.Ytcogiklnegpfiaa
