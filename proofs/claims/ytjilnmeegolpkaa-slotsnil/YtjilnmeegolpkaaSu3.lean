/- Layer 10: the law's step: get. -/
import Derived.Test.YtjilnmeegolpkaaSt
import Derived.Test.YtjilnmeegolpkaaSk
namespace Go.Proofs.Ytjilnmeegolpkaa
open Go.RowKit Go.Shelf

abbrev q3a0 : Oper := { dst := some 95, op := Op.move (Operand.tmp 0), type := 32, pos := "law.go:85", after := #[], guard := none }
abbrev q3a1 : Oper := { dst := some 96, op := Op.nilCheck (Operand.tmp 95), type := 0, pos := "law.go:85", after := #[{ on := 0, ground := Ground.data }], guard := none }
abbrev q3a2 : Oper := { dst := some 97, op := Op.fieldAddr 35 (Operand.tmp 96) 0, type := 0, pos := "law.go:85", after := #[{ on := 1, ground := Ground.data }], guard := none }
abbrev q3a3 : Oper := { dst := some 98, op := Op.load 24 (Operand.tmp 97), type := 24, pos := "law.go:85", after := #[{ on := 2, ground := Ground.data }], guard := none }
abbrev q3a4 : Oper := { dst := some 99, op := Op.load 39 (Operand.tmp 5), type := 39, pos := "law.go:85", after := #[], guard := none }
abbrev q3a5 : Oper := { dst := some 100, op := Op.call { callee := Callee.value (Operand.func 18), args := #[Operand.tmp 98, Operand.tmp 99], argTypes := #[24, 39] }, type := 52, pos := "law.go:85", after := #[{ on := 3, ground := Ground.data }, { on := 4, ground := Ground.data }], guard := none }
abbrev q3a6 : Oper := { dst := some 94, op := Op.move (Operand.tmp 100), type := 52, pos := "law.go:85", after := #[{ on := 5, ground := Ground.data }], guard := none }
abbrev q3a7 : Oper := { dst := some 101, op := Op.extract (Operand.tmp 94) 0, type := 3, pos := "law.go:85", after := #[{ on := 6, ground := Ground.data }], guard := none }
abbrev q3a8 : Oper := { dst := some 102, op := Op.extract (Operand.tmp 94) 1, type := 25, pos := "law.go:85", after := #[{ on := 6, ground := Ground.data }, { on := 9, ground := Ground.gcOnly Departure.lateStores }], guard := none }
abbrev q3a9 : Oper := { dst := some 12, op := Op.assign (Operand.tmp 101), type := 3, pos := "law.go:85", after := #[{ on := 7, ground := Ground.data }, { on := 5, ground := Ground.chain }, { on := 0, ground := Ground.phase }, { on := 1, ground := Ground.phase }, { on := 2, ground := Ground.phase }, { on := 3, ground := Ground.phase }, { on := 4, ground := Ground.phase }, { on := 5, ground := Ground.phase }, { on := 6, ground := Ground.phase }, { on := 7, ground := Ground.phase }, { on := 8, ground := Ground.textOnly Departure.lateStores }], guard := none }
abbrev q3a10 : Oper := { dst := some 13, op := Op.assign (Operand.tmp 102), type := 25, pos := "law.go:85", after := #[{ on := 8, ground := Ground.data }, { on := 9, ground := Ground.chain }, { on := 0, ground := Ground.phase }, { on := 1, ground := Ground.phase }, { on := 2, ground := Ground.phase }, { on := 3, ground := Ground.phase }, { on := 4, ground := Ground.phase }, { on := 5, ground := Ground.phase }, { on := 6, ground := Ground.phase }, { on := 7, ground := Ground.phase }, { on := 8, ground := Ground.phase }, { on := 9, ground := Ground.phase }], guard := none }
abbrev q3b0 : Oper := { dst := some 104, op := Op.move (Operand.tmp 0), type := 32, pos := "law.go:86", after := #[], guard := none }
abbrev q3b1 : Oper := { dst := some 105, op := Op.nilCheck (Operand.tmp 104), type := 0, pos := "law.go:86", after := #[{ on := 0, ground := Ground.data }], guard := none }
abbrev q3b2 : Oper := { dst := some 106, op := Op.fieldAddr 35 (Operand.tmp 105) 1, type := 0, pos := "law.go:86", after := #[{ on := 1, ground := Ground.data }], guard := none }
abbrev q3b3 : Oper := { dst := some 107, op := Op.load 28 (Operand.tmp 106), type := 28, pos := "law.go:86", after := #[{ on := 2, ground := Ground.data }], guard := none }
abbrev q3b4 : Oper := { dst := some 108, op := Op.load 39 (Operand.tmp 5), type := 39, pos := "law.go:86", after := #[], guard := none }
abbrev q3b5 : Oper := { dst := some 109, op := Op.call { callee := Callee.value (Operand.func 34), args := #[Operand.tmp 107, Operand.tmp 108], argTypes := #[28, 39] }, type := 81, pos := "law.go:86", after := #[{ on := 3, ground := Ground.data }, { on := 4, ground := Ground.data }], guard := none }
abbrev q3b6 : Oper := { dst := some 103, op := Op.move (Operand.tmp 109), type := 81, pos := "law.go:86", after := #[{ on := 5, ground := Ground.data }], guard := none }
abbrev q3b7 : Oper := { dst := some 110, op := Op.extract (Operand.tmp 103) 0, type := 3, pos := "law.go:86", after := #[{ on := 6, ground := Ground.data }], guard := none }
abbrev q3b8 : Oper := { dst := some 111, op := Op.extract (Operand.tmp 103) 1, type := 4, pos := "law.go:86", after := #[{ on := 6, ground := Ground.data }, { on := 9, ground := Ground.gcOnly Departure.lateStores }], guard := none }
abbrev q3b9 : Oper := { dst := some 14, op := Op.assign (Operand.tmp 110), type := 3, pos := "law.go:86", after := #[{ on := 7, ground := Ground.data }, { on := 5, ground := Ground.chain }, { on := 0, ground := Ground.phase }, { on := 1, ground := Ground.phase }, { on := 2, ground := Ground.phase }, { on := 3, ground := Ground.phase }, { on := 4, ground := Ground.phase }, { on := 5, ground := Ground.phase }, { on := 6, ground := Ground.phase }, { on := 7, ground := Ground.phase }, { on := 8, ground := Ground.textOnly Departure.lateStores }], guard := none }
abbrev q3b10 : Oper := { dst := some 15, op := Op.assign (Operand.tmp 111), type := 4, pos := "law.go:86", after := #[{ on := 8, ground := Ground.data }, { on := 9, ground := Ground.chain }, { on := 0, ground := Ground.phase }, { on := 1, ground := Ground.phase }, { on := 2, ground := Ground.phase }, { on := 3, ground := Ground.phase }, { on := 4, ground := Ground.phase }, { on := 5, ground := Ground.phase }, { on := 6, ground := Ground.phase }, { on := 7, ground := Ground.phase }, { on := 8, ground := Ground.phase }, { on := 9, ground := Ground.phase }], guard := none }
variable {PT : World → Nat → (Nat → Prop) → Nat → List Th → Nat → Prop} {Sq : World → Nat → (Nat → Prop) → Nat → Array Value → Nat → Prop} (I : Face PT Sq)
variable {w : World} {B C p b : Nat} {v tv : Value} {hs : List (Int × Int)} {l : List Th} {M : Nat} {F : Nat → Prop}
include I

set_option maxRecDepth 100000 in
set_option maxHeartbeats 4000000 in
theorem step_get (h0 : Pr PT w B C p b v tv hs l M F) (hw0 : B ≤ w.heap.size) (hh : hs.length ≤ 100000) (x wh ea s0 g0 : Int) (hd : Bool) (h1 : -9223372036854775808 ≤ wh) (h2 : wh ≤ 9223372036854775807) (hu0 : Us s0) :
    Calls Try.prog 11 #[.pointer (some ⟨C, 0, none⟩), .agg #[.int .i64 3, .int .i64 x, .int .i64 wh, .int .i64 ea, .int .u32 s0, .int .u32 g0, .bool hd]] w fun e w' => ∃ v' tv' hs' l' F', e = .returned (.bool true) ∧ Pr PT w' B C p b v' tv' hs' l' M F' ∧ Below B w w' ∧ l'.length ≤ l.length + 1 ∧ hs'.length ≤ hs.length + 1 := by
  refine step_head h0.box h0.tl hh 3 x wh ea s0 g0 hd h1 h2 hu0 h0.tu ?_
  intro A s g W hus hW hO hA' hA
  have HUS := hide hus
  clear hus hu0
  have h := h0.ch0 I hW
  have hWs := hW.size
  have fA : ¬ F A := fun e => by have := (I.foot h0.pt A e).2; omega
  have fO : ¬ F w.heap.size := fun e => by have := (I.foot h0.pt _ e).2; omega
  have hw : B ≤ W.heap.size := by omega
  have vA : ¬ (A = b ∨ v.ownBlock = some A) := fun e => by
    rcases e with rfl | e
    · have := h0.dt.lt; omega
    · have := (own_in h0.dt.row e).2.1; omega
  have vO : ¬ (w.heap.size = b ∨ v.ownBlock = some w.heap.size) := fun e => by
    rcases e with e | e
    · have := h0.dt.lt; omega
    · have := (own_in h0.dt.row e).2.1; omega
  have H := hide h
  have H0 := hide h0
  have LOW := hide (fun w2 (hb : Below B W w2) => ((hW.below (N := B) hw0 (fun _ _ h => h)).trans hb : Below B w w2))
  have cO := Lib.cell_of_heap hO
  have k0 : W.cell? ⟨w.heap.size, 0, none⟩ = some (.int .i64 3) := by simp [cO]
  have HO := hide (fun wq (h : Ch F W wq) => have e := Lib.cell_of_heap (h.box hO fO); show wq.cell? ⟨w.heap.size, 1, none⟩ = some (.int .i64 x) by simp [e])
  have HA := hide (fun wq (h : Ch F W wq) => have e := Lib.cell_of_heap (h.box hA fA); show wq.cell? ⟨A, 0, none⟩ = some (.int .u32 s) ∧ wq.cell? ⟨A, 1, none⟩ = some (.int .u32 g) from ⟨by simp [e], by simp [e]⟩)
  have HC := hide (fun wq (h : Ch F W wq) => have e := Lib.cell_of_heap (h.box H.out.box H.out.fC); show wq.cell? ⟨C, 0, none⟩ = some (.pointer (some ⟨p, 0, none⟩)) ∧ wq.cell? ⟨C, 1, none⟩ = some (.pointer (some ⟨b, 0, none⟩)) ∧ wq.cell? ⟨C, 2, none⟩ = some tv from ⟨by simp [e], by simp [e], by simp [e]⟩)
  have HBO := hide (fun wq (h : Ch F W wq) => h.box hO fO)
  have HBA := hide (fun wq (h : Ch F W wq) => h.box hA fA)
  have HBC := hide (fun wq (h : Ch F W wq) => h.box H.out.box H.out.fC)
  clear h h0 hW hO hA cO hA' fA fO
  dsimp only [rest2, Try.f11, Option.getD]
  go_wp2
  refine wp_region_held_drew (S := Ch (F) W) (by kernel_rfl) (Ch.drew _) (fun zk => ?_)
  apply tk 0 q3a0 rfl (by kernel_rfl) (fun _ _ _ h => h) zk
  · intro wq zq
    go_simp
    try rfl
  go_frame
  apply tk 1 q3a1 rfl (by kernel_rfl) (fun _ _ _ h => h) zk
  · intro wq zq
    go_simp
    try rfl
  go_frame
  apply tk 2 q3a2 rfl (by kernel_rfl) (fun _ _ _ h => h) zk
  · intro wq zq
    go_simp
    try rfl
  go_frame
  apply tk 3 q3a3 rfl (by kernel_rfl) (fun _ _ _ h => h) zk
  · intro wq zq
    obtain ⟨s1, s2, s3⟩ := HC.out _ zq
    go_simp
    try rfl
  go_frame
  apply tk 4 q3a4 rfl (by kernel_rfl) (fun _ _ _ h => h) zk
  · intro wq zq
    obtain ⟨s4, s5⟩ := HA.out _ zq
    go_simp
    try rfl
  go_frame
  refine rd 5 q3a5 rfl (by kernel_rfl) fun K hK => ?_
  go_simp
  refine (I.get s g HUS.out (I.ch H.out.pt (Ch.drew (Q := fun _ => False) _) (fun _ _ h => h))).mono ?_
  rintro e w2 ⟨rfl, hb2⟩
  have Y2 := hide ((Ch.drew (Q := fun _ => False) W).trans (Ch.of_below (Q := fun _ => False) hb2) (fun _ _ h => h))
  have Z2 := hide (Y2.out.mono (Q' := F) (fun _ _ h => h.elim))
  clear hb2
  go_wp2_with fail
  refine hK.out _ _ ?_ (fun zk => ?_)
  · exact Z2.out
  clear hK K
  try go_frame
  apply tk 6 q3a6 rfl (by kernel_rfl) (fun _ _ _ h => h) zk
  · intro wq zq
    go_simp
    try rfl
  go_frame
  apply tk 7 q3a7 rfl (by kernel_rfl) (fun _ _ _ h => h) zk
  · intro wq zq
    go_simp
    try rfl
  go_frame
  apply tk 8 q3a8 rfl (by kernel_rfl) (fun _ _ _ h => h) zk
  · intro wq zq
    go_simp
    try rfl
  go_frame
  apply tk 9 q3a9 rfl (by kernel_rfl) (fun _ _ _ h => h) zk
  · intro wq zq
    go_simp
    try rfl
  go_frame
  apply tk 10 q3a10 rfl (by kernel_rfl) (fun _ _ _ h => h) zk
  · intro wq zq
    go_simp
    try rfl
  go_frame
  refine wpAnyH_done (by kernel_rfl) ?_ _
  have HO2 := hide (fun wq (h : Ch (fun y => y = b ∨ v.ownBlock = some y) w2 wq) => have e := Lib.cell_of_heap (h.box (HBO.out _ Z2.out) vO); show wq.cell? ⟨w.heap.size, 1, none⟩ = some (.int .i64 x) by simp [e])
  have HA2 := hide (fun wq (h : Ch (fun y => y = b ∨ v.ownBlock = some y) w2 wq) => have e := Lib.cell_of_heap (h.box (HBA.out _ Z2.out) vA); show wq.cell? ⟨A, 0, none⟩ = some (.int .u32 s) ∧ wq.cell? ⟨A, 1, none⟩ = some (.int .u32 g) from ⟨by simp [e], by simp [e]⟩)
  have HC2 := hide (fun wq (h : Ch (fun y => y = b ∨ v.ownBlock = some y) w2 wq) => have e := Lib.cell_of_heap (h.box (HBC.out _ Z2.out) (fun e => e.elim H.out.neb H.out.nev)); show wq.cell? ⟨C, 0, none⟩ = some (.pointer (some ⟨p, 0, none⟩)) ∧ wq.cell? ⟨C, 1, none⟩ = some (.pointer (some ⟨b, 0, none⟩)) ∧ wq.cell? ⟨C, 2, none⟩ = some tv from ⟨by simp [e], by simp [e], by simp [e]⟩)
  have HD2 := hide (fun wq (h : Ch (fun _ => False) w2 wq) => ((H.out.dt.ch Z2.out H.out.fb H.out.fv).ch h (fun h => h) (fun _ _ h => h)))
  have HP2 := hide (fun wq (h : Ch (fun _ => False) w2 wq) => I.ch H.out.pt (Y2.out.trans h (fun _ _ h => h)) (fun _ _ h => h))
  go_wp2
  refine wp_region_held_drew (S := Ch (fun y => y = b ∨ v.ownBlock = some y) w2) (by kernel_rfl) (Ch.drew _) (fun zk => ?_)
  apply tk 0 q3b0 rfl (by kernel_rfl) (fun _ _ _ h => h) zk
  · intro wq zq
    go_simp
    try rfl
  go_frame
  apply tk 1 q3b1 rfl (by kernel_rfl) (fun _ _ _ h => h) zk
  · intro wq zq
    go_simp
    try rfl
  go_frame
  apply tk 2 q3b2 rfl (by kernel_rfl) (fun _ _ _ h => h) zk
  · intro wq zq
    go_simp
    try rfl
  go_frame
  apply tk 3 q3b3 rfl (by kernel_rfl) (fun _ _ _ h => h) zk
  · intro wq zq
    obtain ⟨s1, s2, s3⟩ := HC2.out _ zq
    go_simp
    try rfl
  go_frame
  apply tk 4 q3b4 rfl (by kernel_rfl) (fun _ _ _ h => h) zk
  · intro wq zq
    obtain ⟨s4, s5⟩ := HA2.out _ zq
    go_simp
    try rfl
  go_frame
  refine rd 5 q3b5 rfl (by kernel_rfl) fun K hK => ?_
  go_simp
  refine (rget_u (HD2.out _ (Ch.drew _)) s g).mono ?_
  rintro e w3 ⟨rfl, hb3⟩
  have Y3 := hide ((Ch.drew (Q := fun _ => False) w2).trans (Ch.of_below (Q := fun _ => False) hb3) (fun _ _ h => h))
  clear hb3
  go_wp2_with fail
  refine hK.out _ _ ?_ (fun zk => ?_)
  · exact Y3.out.mono (fun _ _ h => h.elim)
  clear hK K
  try go_frame
  apply tk 6 q3b6 rfl (by kernel_rfl) (fun _ _ _ h => h) zk
  · intro wq zq
    go_simp
    try rfl
  go_frame
  apply tk 7 q3b7 rfl (by kernel_rfl) (fun _ _ _ h => h) zk
  · intro wq zq
    go_simp
    try rfl
  go_frame
  apply tk 8 q3b8 rfl (by kernel_rfl) (fun _ _ _ h => h) zk
  · intro wq zq
    go_simp
    try rfl
  go_frame
  apply tk 9 q3b9 rfl (by kernel_rfl) (fun _ _ _ h => h) zk
  · intro wq zq
    go_simp
    try rfl
  go_frame
  apply tk 10 q3b10 rfl (by kernel_rfl) (fun _ _ _ h => h) zk
  · intro wq zq
    go_simp
    try rfl
  go_frame
  refine wpAnyH_done (by kernel_rfl) ?_ _
  go_wp2_with (go_at_call 10; refine (code_is _ _ _).mono ?_; rintro e w' ⟨rfl, rfl⟩)
  go_ret
  have Y := Y2.out.trans Y3.out (fun _ _ h => h)
  exact ⟨v, tv, hs, l, F, ret_bool (by simp), H.out.ch0 I Y, LOW.out _ (Y.below hw (fun _ _ h => h)), by omega, by omega⟩

end Go.Proofs.Ytjilnmeegolpkaa
