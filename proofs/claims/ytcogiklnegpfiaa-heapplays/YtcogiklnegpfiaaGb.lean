/- Layer 13: what refs tells, asked with care. -/
import Derived.Test.YtcogiklnegpfiaaGa
import Derived.Test.YtcogiklnegpfiaaMa
import Derived.Tactics2
import Derived.Defers
import Derived.Recover
namespace Go.Proofs.Ytcogiklnegpfiaa
open Go.RowKit Go.Shelf

/-- a list of handles that lies in a block of O's -/
def HLo (W : World) (O : Nat → Prop) (v : Value) (hs : List Hd) : Prop := ∃ (a : Option Addr) (c : Nat), v = .slice a hs.length c ∧ hs.length ≤ 9223372036854775807 ∧ (0 < hs.length → ∃ b o, a = some ⟨b, o, none⟩ ∧ O b ∧ b < W.heap.size ∧ ∀ i (hi : i < hs.length), W.cell? ⟨b, o + i * 2, none⟩ = some (.int .u32 hs[i].1) ∧ W.cell? ⟨b, o + i * 2 + 1, none⟩ = some (.int .u32 hs[i].2))
theorem HLo.ch {W W' : World} {O Q : Nat → Prop} {v : Value} {hs : List Hd} (h : HLo W O v hs) (hc : Ch Q W W') (hq : ∀ y, O y → ¬ Q y) : HLo W' O v hs := by
  obtain ⟨a, c, e, hl, h⟩ := h
  refine ⟨a, c, e, hl, fun h0 => ?_⟩
  obtain ⟨b, o, e, ho, hlt, h⟩ := h h0
  exact ⟨b, o, e, ho, Nat.lt_of_lt_of_le hlt hc.size, fun i hi => ⟨(hc.cell hlt (hq b ho) _).trans (h i hi).1, (hc.cell hlt (hq b ho) _).trans (h i hi).2⟩⟩
theorem HLo.nil (W : World) (O : Nat → Prop) : HLo W O (.slice none 0 0) [] := ⟨none, 0, rfl, by simp, fun h => absurd h (by simp)⟩

/-- what is asked: its world A so far, its own blocks -/
structure Teller (f : Value) (J : List Hd → World → (Nat → Prop) → Prop) (tl : Hd → List Hd) : Prop where
  told : ∀ A w O s g, A.length ≤ 1000 → Us s → J A w O → Calls Try.prog 52 #[f, hv s g] w fun e w' => ∃ v O', e = .returned v ∧ HLo w' O' v (tl (s, g)) ∧ J (A ++ [(s, g)]) w' O' ∧ Ch O w w' ∧ ∀ y, O' y → O y ∨ w.heap.size ≤ y
  keep : ∀ A w O w' Q, J A w O → Ch Q w w' → (∀ y, O y → ¬ Q y) → J A w' O
  low : ∀ A w O, J A w O → ∀ y, O y → y < w.heap.size
  us : ∀ x y, y ∈ tl x → Us y.1

theorem told_idle (w : World) :
    CallsD Try.prog 60 #[] .returning w fun e u' w' => e = .returned (.tuple #[]) ∧ u' = .returning ∧ w' = w := by
  refine callsD_of_wpS Try.func60 rfl fun c₀ cs hu => ?_
  apply wpS_region
  simp [wpOpsS, go_sem, recoverD, hu, Try.ntmps60, bodyPostS, results, Try.results60]
  cases c₀
  simp_all

theorem run_equalIn_func_nil {P : Program} (w : World) (d : Nat) (t : TypeId) {ps rs : Array TypeId} {vd : Bool} (fn : Fn) (fi lb : Array Value) (h : P.underlying t = some (.func ps rs vd)) :
    (Op.equalIn (d + 1) t (.func fn fi lb) .nilFunc).run P w = .ok false w := by
  simp [Op.equalIn, run_underlying h]
theorem run_equalIn_nil_nil {P : Program} (w : World) (d : Nat) (t : TypeId) {ps rs : Array TypeId} {vd : Bool} (h : P.underlying t = some (.func ps rs vd)) :
    (Op.equalIn (d + 1) t .nilFunc .nilFunc).run P w = .ok true w := by
  simp [Op.equalIn, run_underlying h]
theorem fn_some (fn : Fn) (fi lb : Array Value) (w : World) : (binOp .eql 69 (.func fn fi lb) .nilFunc).run Try.prog w = .ok (.bool false) w := by
  have := run_equalIn_func_nil (P := Try.prog) w 9999 _ fn fi lb Try.underlying69
  unfold binOp
  simp only [Sem.run_bind, Op.equal, Op.maxDepth, this, Result.andThen]
  rfl
theorem fn_none (w : World) : (binOp .eql 69 .nilFunc .nilFunc).run Try.prog w = .ok (.bool true) w := by
  have := run_equalIn_nil_nil (P := Try.prog) w 9999 _ Try.underlying69
  unfold binOp
  simp only [Sem.run_bind, Op.equal, Op.maxDepth, this, Result.andThen]
  rfl

set_option maxRecDepth 100000 in
set_option maxHeartbeats 2000000 in
theorem told_nil (w : World) (s g : Int) : Calls Try.prog 52 #[.nilFunc, hv s g] w fun e w' => e = .returned (.slice none 0 0) ∧ w' = w.alloc (.cells #[.int .u32 s, .int .u32 g] 43) := by
  have hmf : ∀ (fn : Fn) (first cap : Array Value) (w : World), (Instr.makeFunc fn first cap).run Try.prog w = .ok (.func fn first cap) w := fun _ _ _ _ => rfl
  have heq : ∀ w : World, (binOp .eql 69 .nilFunc .nilFunc).run Try.prog w = .ok (.bool true) w := fn_none
  go_enter_defers Try.func52, Try.ntmps52
  go_wp2
  refine leaves_cons (f := 60) (args := #[]) (by simp) (by simp [go_sem]) ?_
  refine (told_idle _).mono ?_
  rintro e u' w'' ⟨rfl, rfl, rfl⟩
  exact ⟨_, results_tmp rfl _ _ _, rfl, rfl⟩

set_option maxRecDepth 100000 in
set_option maxHeartbeats 2000000 in
theorem told_fun {w : World} {s g : Int} {R : Value → World → Prop} {rv : Value} (hr : Calls Try.prog 31 #[rv, hv s g] (w.alloc (.cells #[.int .u32 s, .int .u32 g] 43)) fun e w' => ∃ v, e = .returned v ∧ R v w') :
    Calls Try.prog 52 #[.func (.func 31) #[rv] #[], hv s g] w fun e w' => ∃ v, e = .returned v ∧ R v w' := by
  have hmf : ∀ (fn : Fn) (first cap : Array Value) (w : World), (Instr.makeFunc fn first cap).run Try.prog w = .ok (.func fn first cap) w := fun _ _ _ _ => rfl
  have heq : ∀ w : World, (binOp .eql 69 (.func (.func 31) #[rv] #[]) .nilFunc).run Try.prog w = .ok (.bool false) w := fn_some _ _ _
  have HR := hide hr
  clear hr
  go_enter_defers Try.func52, Try.ntmps52
  go_wp2_with fail
  refine HR.out.mono ?_
  rintro e w' ⟨v, rfl, hR⟩
  go_wp2
  refine leaves_cons (f := 60) (args := #[]) (by simp) (by simp [go_sem]) ?_
  refine (told_idle _).mono ?_
  rintro e u' w'' ⟨rfl, rfl, rfl⟩
  exact ⟨_, results_tmp rfl _ _ _, v, rfl, hR⟩

theorem nil_teller : Teller .nilFunc (fun _ _ O => ∀ y, ¬ O y) (fun _ => []) where
  told := fun A w O s g _ hu hO => (told_nil w s g).mono (by
    rintro e w' ⟨rfl, rfl⟩
    exact ⟨_, fun _ => False, rfl, HLo.nil _ _, fun _ h => h, Ch.alloc _ _, fun y h => h.elim⟩)
  keep := fun A w O w' Q h _ _ => h
  low := fun A w O h y hy => absurd hy (h y)
  us := fun x y h => (by cases h)

end Go.Proofs.Ytcogiklnegpfiaa
