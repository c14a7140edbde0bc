/- Layer 10: the law's step: free. -/
import Derived.Test.YtjilnmeegolpkaaSt
import Derived.Test.YtjilnmeegolpkaaSk
namespace Go.Proofs.Ytjilnmeegolpkaa
open Go.RowKit Go.Shelf

abbrev q2a0 : Oper := { dst := some 76, op := Op.move (Operand.tmp 0), type := 32, pos := "law.go:81", after := #[], guard := none }
abbrev q2a1 : Oper := { dst := some 77, op := Op.nilCheck (Operand.tmp 76), type := 0, pos := "law.go:81", after := #[{ on := 0, ground := Ground.data }], guard := none }
abbrev q2a2 : Oper := { dst := some 78, op := Op.fieldAddr 35 (Operand.tmp 77) 0, type := 0, pos := "law.go:81", after := #[{ on := 1, ground := Ground.data }], guard := none }
abbrev q2a3 : Oper := { dst := some 79, op := Op.load 24 (Operand.tmp 78), type := 24, pos := "law.go:81", after := #[{ on := 2, ground := Ground.data }], guard := none }
abbrev q2a4 : Oper := { dst := some 80, op := Op.load 39 (Operand.tmp 5), type := 39, pos := "law.go:81", after := #[], guard := none }
abbrev q2a5 : Oper := { dst := some 81, op := Op.call { callee := Callee.value (Operand.func 20), args := #[Operand.tmp 79, Operand.tmp 80], argTypes := #[24, 39] }, type := 25, pos := "law.go:81", after := #[{ on := 3, ground := Ground.data }, { on := 4, ground := Ground.data }], guard := none }
abbrev q2a6 : Oper := { dst := some 10, op := Op.assign (Operand.tmp 81), type := 25, pos := "law.go:81", after := #[{ on := 5, ground := Ground.data }, { on := 5, ground := Ground.chain }, { on := 0, ground := Ground.phase }, { on := 1, ground := Ground.phase }, { on := 2, ground := Ground.phase }, { on := 3, ground := Ground.phase }, { on := 4, ground := Ground.phase }, { on := 5, ground := Ground.phase }], guard := none }
abbrev q2b0 : Oper := { dst := some 82, op := Op.move (Operand.tmp 0), type := 32, pos := "law.go:82", after := #[], guard := none }
abbrev q2b1 : Oper := { dst := some 83, op := Op.nilCheck (Operand.tmp 82), type := 0, pos := "law.go:82", after := #[{ on := 0, ground := Ground.data }], guard := none }
abbrev q2b2 : Oper := { dst := some 84, op := Op.fieldAddr 35 (Operand.tmp 83) 1, type := 0, pos := "law.go:82", after := #[{ on := 1, ground := Ground.data }], guard := none }
abbrev q2b3 : Oper := { dst := some 85, op := Op.load 28 (Operand.tmp 84), type := 28, pos := "law.go:82", after := #[{ on := 2, ground := Ground.data }], guard := none }
abbrev q2b4 : Oper := { dst := some 86, op := Op.load 39 (Operand.tmp 5), type := 39, pos := "law.go:82", after := #[], guard := none }
abbrev q2b5 : Oper := { dst := some 87, op := Op.call { callee := Callee.value (Operand.func 33), args := #[Operand.tmp 85, Operand.tmp 86], argTypes := #[28, 39] }, type := 4, pos := "law.go:82", after := #[{ on := 3, ground := Ground.data }, { on := 4, ground := Ground.data }], guard := none }
abbrev q2b6 : Oper := { dst := some 11, op := Op.assign (Operand.tmp 87), type := 4, pos := "law.go:82", after := #[{ on := 5, ground := Ground.data }, { on := 5, ground := Ground.chain }, { on := 0, ground := Ground.phase }, { on := 1, ground := Ground.phase }, { on := 2, ground := Ground.phase }, { on := 3, ground := Ground.phase }, { on := 4, ground := Ground.phase }, { on := 5, ground := Ground.phase }], guard := none }
variable {PT : World → Nat → (Nat → Prop) → Nat → List Th → Nat → Prop} {Sq : World → Nat → (Nat → Prop) → Nat → Array Value → Nat → Prop} (I : Face PT Sq)
variable {w : World} {B C p b : Nat} {v tv : Value} {hs : List (Int × Int)} {l : List Th} {M : Nat} {F : Nat → Prop}
include I

set_option maxRecDepth 100000 in
set_option maxHeartbeats 4000000 in
theorem step_free (h0 : Pr PT w B C p b v tv hs l M F) (hw0 : B ≤ w.heap.size) (hh : hs.length ≤ 100000) (x wh ea s0 g0 : Int) (hd : Bool) (h1 : -9223372036854775808 ≤ wh) (h2 : wh ≤ 9223372036854775807) (hu0 : Us s0) :
    Calls Try.prog 11 #[.pointer (some ⟨C, 0, none⟩), .agg #[.int .i64 2, .int .i64 x, .int .i64 wh, .int .i64 ea, .int .u32 s0, .int .u32 g0, .bool hd]] w fun e w' => ∃ v' tv' hs' l' F', e = .returned (.bool true) ∧ Pr PT w' B C p b v' tv' hs' l' M F' ∧ Below B w w' ∧ l'.length ≤ l.length + 1 ∧ hs'.length ≤ hs.length + 1 := by
  refine step_head h0.box h0.tl hh 2 x wh ea s0 g0 hd h1 h2 hu0 h0.tu ?_
  intro A s g W hus hW hO hA' hA
  have HUS := hide hus
  clear hus hu0
  have h := h0.ch0 I hW
  have hWs := hW.size
  have fA : ¬ F A := fun e => by have := (I.foot h0.pt A e).2; omega
  have fO : ¬ F w.heap.size := fun e => by have := (I.foot h0.pt _ e).2; omega
  have hw : B ≤ W.heap.size := by omega
  have vA : ¬ (A = b ∨ v.ownBlock = some A) := fun e => by
    rcases e with rfl | e
    · have := h0.dt.lt; omega
    · have := (own_in h0.dt.row e).2.1; omega
  have vO : ¬ (w.heap.size = b ∨ v.ownBlock = some w.heap.size) := fun e => by
    rcases e with e | e
    · have := h0.dt.lt; omega
    · have := (own_in h0.dt.row e).2.1; omega
  have H := hide h
  have H0 := hide h0
  have LOW := hide (fun w2 (hb : Below B W w2) => ((hW.below (N := B) hw0 (fun _ _ h => h)).trans hb : Below B w w2))
  have cO := Lib.cell_of_heap hO
  have k0 : W.cell? ⟨w.heap.size, 0, none⟩ = some (.int .i64 2) := by simp [cO]
  have HO := hide (fun wq (h : Ch F W wq) => have e := Lib.cell_of_heap (h.box hO fO); show wq.cell? ⟨w.heap.size, 1, none⟩ = some (.int .i64 x) by simp [e])
  have HA := hide (fun wq (h : Ch F W wq) => have e := Lib.cell_of_heap (h.box hA fA); show wq.cell? ⟨A, 0, none⟩ = some (.int .u32 s) ∧ wq.cell? ⟨A, 1, none⟩ = some (.int .u32 g) from ⟨by simp [e], by simp [e]⟩)
  have HC := hide (fun wq (h : Ch F W wq) => have e := Lib.cell_of_heap (h.box H.out.box H.out.fC); show wq.cell? ⟨C, 0, none⟩ = some (.pointer (some ⟨p, 0, none⟩)) ∧ wq.cell? ⟨C, 1, none⟩ = some (.pointer (some ⟨b, 0, none⟩)) ∧ wq.cell? ⟨C, 2, none⟩ = some tv from ⟨by simp [e], by simp [e], by simp [e]⟩)
  have HBO := hide (fun wq (h : Ch F W wq) => h.box hO fO)
  have HBA := hide (fun wq (h : Ch F W wq) => h.box hA fA)
  have HBC := hide (fun wq (h : Ch F W wq) => h.box H.out.box H.out.fC)
  clear h h0 hW hO hA cO hA' fA fO
  dsimp only [rest2, Try.f11, Option.getD]
  go_wp2
  refine wp_region_held_drew (S := Ch (F) W) (by kernel_rfl) (Ch.drew _) (fun zk => ?_)
  apply tk 0 q2a0 rfl (by kernel_rfl) (fun _ _ _ h => h) zk
  · intro wq zq
    go_simp
    try rfl
  go_frame
  apply tk 1 q2a1 rfl (by kernel_rfl) (fun _ _ _ h => h) zk
  · intro wq zq
    go_simp
    try rfl
  go_frame
  apply tk 2 q2a2 rfl (by kernel_rfl) (fun _ _ _ h => h) zk
  · intro wq zq
    go_simp
    try rfl
  go_frame
  apply tk 3 q2a3 rfl (by kernel_rfl) (fun _ _ _ h => h) zk
  · intro wq zq
    obtain ⟨s1, s2, s3⟩ := HC.out _ zq
    go_simp
    try rfl
  go_frame
  apply tk 4 q2a4 rfl (by kernel_rfl) (fun _ _ _ h => h) zk
  · intro wq zq
    obtain ⟨s4, s5⟩ := HA.out _ zq
    go_simp
    try rfl
  go_frame
  refine rd 5 q2a5 rfl (by kernel_rfl) fun K hK => ?_
  go_simp
  refine (I.free s g HUS.out (I.ch H.out.pt (Ch.drew (Q := fun _ => False) _) (fun _ _ h => h))).mono ?_
  rintro e w2 ⟨F1, rfl, hp2, hc2, hf2⟩
  have Z2 := hide ((Ch.drew (Q := F) W).trans hc2 (fun _ _ h => h))
  have HP2 := hide (show PT w2 B F1 p (frd l s g) M ∧ ∀ y, F1 y → F y ∨ W.heap.size ≤ y from ⟨hp2, hf2⟩)
  clear hp2 hc2 hf2
  go_wp2_with fail
  refine hK.out _ _ ?_ (fun zk => ?_)
  · exact Z2.out
  clear hK K
  try go_frame
  apply tk 6 q2a6 rfl (by kernel_rfl) (fun _ _ _ h => h) zk
  · intro wq zq
    go_simp
    try rfl
  go_frame
  refine wpAnyH_done (by kernel_rfl) ?_ _
  have HO2 := hide (fun wq (h : Ch (fun y => y = b ∨ v.ownBlock = some y) w2 wq) => have e := Lib.cell_of_heap (h.box (HBO.out _ Z2.out) vO); show wq.cell? ⟨w.heap.size, 1, none⟩ = some (.int .i64 x) by simp [e])
  have HA2 := hide (fun wq (h : Ch (fun y => y = b ∨ v.ownBlock = some y) w2 wq) => have e := Lib.cell_of_heap (h.box (HBA.out _ Z2.out) vA); show wq.cell? ⟨A, 0, none⟩ = some (.int .u32 s) ∧ wq.cell? ⟨A, 1, none⟩ = some (.int .u32 g) from ⟨by simp [e], by simp [e]⟩)
  have HC2 := hide (fun wq (h : Ch (fun y => y = b ∨ v.ownBlock = some y) w2 wq) => have e := Lib.cell_of_heap (h.box (HBC.out _ Z2.out) (fun e => e.elim H.out.neb H.out.nev)); show wq.cell? ⟨C, 0, none⟩ = some (.pointer (some ⟨p, 0, none⟩)) ∧ wq.cell? ⟨C, 1, none⟩ = some (.pointer (some ⟨b, 0, none⟩)) ∧ wq.cell? ⟨C, 2, none⟩ = some tv from ⟨by simp [e], by simp [e], by simp [e]⟩)
  have HD2 := hide (fun wq (h : Ch (fun _ => False) w2 wq) => ((H.out.dt.ch Z2.out H.out.fb H.out.fv).ch h (fun h => h) (fun _ _ h => h)))
  go_wp2
  refine wp_region_held_drew (S := Ch (fun y => y = b ∨ v.ownBlock = some y) w2) (by kernel_rfl) (Ch.drew _) (fun zk => ?_)
  apply tk 0 q2b0 rfl (by kernel_rfl) (fun _ _ _ h => h) zk
  · intro wq zq
    go_simp
    try rfl
  go_frame
  apply tk 1 q2b1 rfl (by kernel_rfl) (fun _ _ _ h => h) zk
  · intro wq zq
    go_simp
    try rfl
  go_frame
  apply tk 2 q2b2 rfl (by kernel_rfl) (fun _ _ _ h => h) zk
  · intro wq zq
    go_simp
    try rfl
  go_frame
  apply tk 3 q2b3 rfl (by kernel_rfl) (fun _ _ _ h => h) zk
  · intro wq zq
    obtain ⟨s1, s2, s3⟩ := HC2.out _ zq
    go_simp
    try rfl
  go_frame
  apply tk 4 q2b4 rfl (by kernel_rfl) (fun _ _ _ h => h) zk
  · intro wq zq
    obtain ⟨s4, s5⟩ := HA2.out _ zq
    go_simp
    try rfl
  go_frame
  refine rd 5 q2b5 rfl (by kernel_rfl) fun K hK => ?_
  go_simp
  refine (rfree_u (HD2.out _ (Ch.drew _)) s g).mono ?_
  rintro e w3 ⟨rfl, hd3, hc3⟩
  have Z3 := hide ((Ch.drew (Q := fun y => y = b ∨ v.ownBlock = some y) w2).trans hc3 (fun _ _ h => Or.inr h))
  have HD3 := hide hd3
  clear hd3 hc3
  go_wp2_with fail
  refine hK.out _ _ ?_ (fun zk => ?_)
  · exact Z3.out
  clear hK K
  try go_frame
  apply tk 6 q2b6 rfl (by kernel_rfl) (fun _ _ _ h => h) zk
  · intro wq zq
    go_simp
    try rfl
  go_frame
  refine wpAnyH_done (by kernel_rfl) ?_ _
  go_wp2_with (go_at_call 10; refine (code_is _ _ _).mono ?_; rintro e w' ⟨rfl, rfl⟩)
  go_ret
  exact ⟨v, tv, hs, _, F1, ret_bool (by simp), H.out.two I Z2.out HP2.out.1 HP2.out.2 Z3.out HD3.out (fun g hg => Or.inl hg) (fit_frd H.out.fit s g), LOW.out _ (H.out.low I Z2.out Z3.out hw), by rw [frd_len]; omega, by omega⟩

end Go.Proofs.Ytjilnmeegolpkaa
