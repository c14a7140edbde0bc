/- a function value that is held against nil -/
import Derived.Test.YtjilnmeegolpkaaIg
namespace Go.Proofs.Ytjilnmeegolpkaa
open Go.RowKit Go.Shelf

theorem run_equalIn_func_nil {P : Program} (w : World) (d : Nat) (t : TypeId) {ps rs : Array TypeId} {vd : Bool} (fn : Fn) (fi lb : Array Value) (h : P.underlying t = some (.func ps rs vd)) :
    (Op.equalIn (d + 1) t (.func fn fi lb) .nilFunc).run P w = .ok false w := by
  simp [Op.equalIn, run_underlying h]
theorem run_eql_func_nil {P : Program} (w : World) (t : TypeId) {ps rs : Array TypeId} {vd : Bool} (fn : Fn) (fi lb : Array Value) (h : P.underlying t = some (.func ps rs vd)) :
    (binOp .eql t (.func fn fi lb) .nilFunc).run P w = .ok (.bool false) w := by
  have := run_equalIn_func_nil (P := P) w 9999 t fn fi lb h
  unfold binOp
  simp only [Sem.run_bind, Op.equal, Op.maxDepth, this, Result.andThen]
  rfl
theorem seq_some (gf : Nat) (lb : Array Value) (w : World) : (binOp .eql 72 (.func (.func gf) #[] lb) .nilFunc).run Try.prog w = .ok (.bool false) w :=
  run_eql_func_nil w _ _ _ _ Try.underlying72

end Go.Proofs.Ytjilnmeegolpkaa
