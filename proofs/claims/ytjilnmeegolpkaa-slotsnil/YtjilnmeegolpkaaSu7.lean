/- Layer 10: the law's step: all. -/
import Derived.Test.YtjilnmeegolpkaaSt
import Derived.Test.YtjilnmeegolpkaaSk
import Derived.Test.YtjilnmeegolpkaaSw
namespace Go.Proofs.Ytjilnmeegolpkaa
open Go.RowKit Go.Shelf

variable {PT : World → Nat → (Nat → Prop) → Nat → List Th → Nat → Prop} {Sq : World → Nat → (Nat → Prop) → Nat → Array Value → Nat → Prop} (I : Face PT Sq)
variable {w : World} {B C p b : Nat} {v tv : Value} {hs : List (Int × Int)} {l : List Th} {M : Nat} {F : Nat → Prop}
include I

set_option maxRecDepth 100000 in
set_option maxHeartbeats 4000000 in
theorem step_all (h0 : Pr PT w B C p b v tv hs l M F) (hw0 : B ≤ w.heap.size) (hl : l.length ≤ 100000) (hh : hs.length ≤ 100000) (x wh ea s0 g0 : Int) (hd : Bool) (h1 : -9223372036854775808 ≤ wh) (h2 : wh ≤ 9223372036854775807) (hu0 : Us s0) :
    Calls Try.prog 11 #[.pointer (some ⟨C, 0, none⟩), .agg #[.int .i64 7, .int .i64 x, .int .i64 wh, .int .i64 ea, .int .u32 s0, .int .u32 g0, .bool hd]] w fun e w' => ∃ v' tv' hs' l' F', e = .returned (.bool true) ∧ Pr PT w' B C p b v' tv' hs' l' M F' ∧ Below B w w' ∧ l'.length ≤ l.length + 1 ∧ hs'.length ≤ hs.length + 1 := by
  refine step_head h0.box h0.tl hh 7 x wh ea s0 g0 hd h1 h2 hu0 h0.tu ?_
  intro A s g W hus hW hO hA' hA
  have HUS := hide hus
  clear hus hu0
  have h := h0.ch0 I hW
  have hWs := hW.size
  have fA : ¬ F A := fun e => by have := (I.foot h0.pt A e).2; omega
  have fO : ¬ F w.heap.size := fun e => by have := (I.foot h0.pt _ e).2; omega
  have hw : B ≤ W.heap.size := by omega
  have vA : ¬ (A = b ∨ v.ownBlock = some A) := fun e => by
    rcases e with rfl | e
    · have := h0.dt.lt; omega
    · have := (own_in h0.dt.row e).2.1; omega
  have vO : ¬ (w.heap.size = b ∨ v.ownBlock = some w.heap.size) := fun e => by
    rcases e with e | e
    · have := h0.dt.lt; omega
    · have := (own_in h0.dt.row e).2.1; omega
  have H := hide h
  have H0 := hide h0
  have LOW := hide (fun w2 (hb : Below B W w2) => ((hW.below (N := B) hw0 (fun _ _ h => h)).trans hb : Below B w w2))
  have cO := Lib.cell_of_heap hO
  have k0 : W.cell? ⟨w.heap.size, 0, none⟩ = some (.int .i64 7) := by simp [cO]
  have HO := hide (fun wq (h : Ch F W wq) => have e := Lib.cell_of_heap (h.box hO fO); show wq.cell? ⟨w.heap.size, 1, none⟩ = some (.int .i64 x) by simp [e])
  have HA := hide (fun wq (h : Ch F W wq) => have e := Lib.cell_of_heap (h.box hA fA); show wq.cell? ⟨A, 0, none⟩ = some (.int .u32 s) ∧ wq.cell? ⟨A, 1, none⟩ = some (.int .u32 g) from ⟨by simp [e], by simp [e]⟩)
  have HC := hide (fun wq (h : Ch F W wq) => have e := Lib.cell_of_heap (h.box H.out.box H.out.fC); show wq.cell? ⟨C, 0, none⟩ = some (.pointer (some ⟨p, 0, none⟩)) ∧ wq.cell? ⟨C, 1, none⟩ = some (.pointer (some ⟨b, 0, none⟩)) ∧ wq.cell? ⟨C, 2, none⟩ = some tv from ⟨by simp [e], by simp [e], by simp [e]⟩)
  have HBO := hide (fun wq (h : Ch F W wq) => h.box hO fO)
  have HBA := hide (fun wq (h : Ch F W wq) => h.box hA fA)
  have HBC := hide (fun wq (h : Ch F W wq) => h.box H.out.box H.out.fC)
  clear h h0 hW hO hA cO hA' fA fO
  dsimp only [rest2, Try.f11, Option.getD]
  have cC := Lib.cell_of_heap H.out.box
  have ko : W.cell? ⟨w.heap.size, 3, none⟩ = some (.int .i64 ea) := by simp [Lib.cell_of_heap (HBO.out _ (Ch.refl _ _))]
  go_wp2_with (go_at_call 15; refine (all_is I H.out.pt H.out.dt hl H.out.box ea).mono ?_; rintro e w2 ⟨rfl, hb⟩)
  go_ret
  exact ⟨v, tv, hs, l, F, rfl, H.out.ch0 I (Ch.of_below hb), LOW.out _ (hb.mono hw), by omega, by omega⟩

end Go.Proofs.Ytjilnmeegolpkaa
