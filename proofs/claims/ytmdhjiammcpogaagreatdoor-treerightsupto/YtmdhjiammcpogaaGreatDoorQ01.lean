import Derived.Test.YtmdhjiammcpogaaGreatDoorRows
import Derived.Deep.RegionHeld
import Derived.WalkKit
import Derived.Below
import Derived.WalkSpells
import Derived.WalkLawsBesides
import Derived.Deep.QuietTactic
import Derived.BigQuiet
import Derived.Laws.Externs
import Derived.Lib.ItoaMem
import Derived.Lib.ParseIntB
namespace Go.Proofs.YtmdhjiammcpogaaGreatDoor
set_option maxRecDepth 100000
set_option maxHeartbeats 16000000
section
open Go.RowKit
theorem tk {P : Program} {ops : Array Oper} {Q : Exit -> Act -> World -> Prop} {md : Region.Mode} {S : World -> Prop} (i : Nat) (oi : Oper) {v : Value} {fuel : Nat} {listed : Array Bool} {a : Act} {w : World} (hi : ops[i]? = some oi) (hc : (Region.noSelect ops && Region.free md ops listed i && (Region.ready md ops listed).contains i && Region.wanted oi (yielded ops a.tmps)) = true) (hQ : ∀ c a w, Q (.panic c) (a.put oi.dst v) w -> Q (.panic c) a w) (hS : S w) (hy : ∀ w, S w -> (execOp a.eval oi).run P w = .ok (.value v) w) (h : wpAnyH P md ops Q S fuel (listed.setIfInBounds i true) (a.put oi.dst v) w) : wpAnyH P md ops Q S (fuel + 1) listed a w := by
  simp only [Bool.and_eq_true] at hc
  exact wpAnyH_take hi hc.1.1.1 hc.1.1.2 hc.1.2 hQ (.inl ⟨hc.2, hy⟩) hS h
theorem sk {P : Program} {ops : Array Oper} {Q : Exit -> Act -> World -> Prop} {md : Region.Mode} {S : World -> Prop} (i : Nat) (oi : Oper) {fuel : Nat} {listed : Array Bool} {a : Act} {w : World} (hi : ops[i]? = some oi) (hc : (Region.noSelect ops && Region.free md ops listed i && (Region.ready md ops listed).contains i && !Region.wanted oi (yielded ops a.tmps)) = true) (hQ : ∀ c a w, Q (.panic c) (a.put oi.dst undef) w -> Q (.panic c) a w) (hS : S w) (h : wpAnyH P md ops Q S fuel (listed.setIfInBounds i true) (a.put oi.dst undef) w) : wpAnyH P md ops Q S (fuel + 1) listed a w := by
  simp only [Bool.and_eq_true, Bool.not_eq_true'] at hc
  exact wpAnyH_take hi hc.1.1.1 hc.1.1.2 hc.1.2 hQ (.inr ⟨hc.2, rfl⟩) hS h
theorem rd {P : Program} {ops : Array Oper} {Q : Exit -> Act -> World -> Prop} {md : Region.Mode} {S : World -> Prop} (i : Nat) (o : Oper) {fuel : Nat} {listed : Array Bool} {a : Act} {w : World} (ho : ops[i]? = some o) (hr : Region.ready md ops listed = [i]) (h : ∀ K' : Act -> World -> Prop, Shut (∀ a w, S w -> (S w -> wpAnyH P md ops Q S fuel (listed.setIfInBounds i true) a w) -> K' a w) -> if Region.wanted o (yielded ops a.tmps) = true then Oper.wp P o a w K' Q else K' (a.put o.dst undef) w) : wpAnyH P md ops Q S (fuel + 1) listed a w :=
  wpAnyH_ready hr (by simp) (.cons ho h .nil)
theorem nk {a b : Int} (c : Int) (h : a = b) (e : (b == c) = false) : (a == c) = false := h ▸ e
theorem yk {a b : Int} (h : a = b) : (a == b) = true := by rw [h]; exact beq_self_eq_true b
theorem al2 {w : World} {A : Addr} {x : Value} (h : A.block < w.heap.size) (e : w.cell? A = some x) : ∀ o o', ((w.alloc o).alloc o').cell? A = some x := fun o o' => (World.cell?_alloc_lt (w.alloc o) o' _ (by rw [World.size_alloc]; omega)).trans ((World.cell?_alloc_lt w o _ h).trans e)
theorem al1 {w : World} {A : Addr} {x : Value} (h : A.block < w.heap.size) (e : ∀ o, (w.alloc o).cell? A = some x) : ∀ o o', ((w.alloc o).alloc o').cell? A = some x := fun o o' => (World.cell?_alloc_lt (w.alloc o) o' _ (by rw [World.size_alloc]; omega)).trans (e o)
abbrev o0_ : Oper := ⟨some 87, .fieldAddr 25 (.tmp 3) 7, 0, "law.go:38", #[], none⟩
abbrev o1_ : Oper := ⟨some 88, .load 23 (.tmp 87), 23, "law.go:38", #[⟨0, .data⟩], none⟩
abbrev o2_ : Oper := ⟨some 89, .move (.tmp 8), 3, "law.go:38", #[], none⟩
abbrev o3_ : Oper := ⟨some 90, .indexAddr 23 (.tmp 88) (.tmp 89), 0, "law.go:38", #[⟨1, .data⟩, ⟨2, .data⟩], none⟩
abbrev o4_ : Oper := ⟨some 91, .load 25 (.tmp 90), 25, "law.go:38", #[⟨3, .data⟩], none⟩
abbrev o5_ : Oper := ⟨some 92, .fieldAddr 25 (.tmp 4) 7, 0, "law.go:38", #[], none⟩
abbrev o6_ : Oper := ⟨some 93, .load 23 (.tmp 92), 23, "law.go:38", #[⟨5, .data⟩], none⟩
abbrev o7_ : Oper := ⟨some 94, .move (.tmp 8), 3, "law.go:38", #[], none⟩
abbrev o8_ : Oper := ⟨some 95, .indexAddr 23 (.tmp 93) (.tmp 94), 0, "law.go:38", #[⟨6, .data⟩, ⟨7, .data⟩], none⟩
abbrev o9_ : Oper := ⟨some 96, .load 25 (.tmp 95), 25, "law.go:38", #[⟨8, .data⟩], none⟩
abbrev o10_ : Oper := ⟨some 97, .move (.tmp 2), 4, "law.go:38", #[], none⟩
abbrev o11_ : Oper := ⟨some 98, .call ⟨.value (.func 11), #[.tmp 91, .tmp 96, .tmp 97], #[25, 25, 4]⟩, 4, "law.go:38", #[⟨4, .data⟩, ⟨9, .data⟩, ⟨10, .data⟩], none⟩
abbrev o12_ : Oper := ⟨some 9, .assign (.tmp 98), 4, "law.go:38", #[⟨11, .data⟩, ⟨11, .chain⟩, ⟨0, .phase⟩, ⟨1, .phase⟩, ⟨2, .phase⟩, ⟨3, .phase⟩, ⟨4, .phase⟩, ⟨5, .phase⟩, ⟨6, .phase⟩, ⟨7, .phase⟩, ⟨8, .phase⟩, ⟨9, .phase⟩, ⟨10, .phase⟩, ⟨11, .phase⟩], none⟩
abbrev o13_ : Oper := ⟨some 15, .fieldAddr 25 (.tmp 3) 7, 0, "law.go:21", #[], none⟩
abbrev o14_ : Oper := ⟨some 17, .fieldAddr 25 (.tmp 1) 7, 0, "law.go:21", #[], none⟩
abbrev o15_ : Oper := ⟨some 18, .load 23 (.tmp 17), 23, "law.go:21", #[⟨2, .data⟩], none⟩
abbrev o16_ : Oper := ⟨some 19, .move (.tmp 4), 3, "law.go:21", #[], none⟩
abbrev o17_ : Oper := ⟨some 20, .indexAddr 23 (.tmp 18) (.tmp 19), 0, "law.go:21", #[⟨3, .data⟩, ⟨4, .data⟩], none⟩
abbrev o18_ : Oper := ⟨some 21, .load 25 (.tmp 20), 25, "law.go:21", #[⟨5, .data⟩], none⟩
abbrev o19_ : Oper := ⟨some 16, .load 23 (.tmp 15), 23, "law.go:21", #[⟨0, .data⟩], none⟩
abbrev o20_ : Oper := ⟨some 22, .call ⟨.value (.func 6), #[.tmp 21], #[25]⟩, 25, "law.go:21", #[⟨6, .data⟩], none⟩
abbrev o21_ : Oper := ⟨some 23, .buildSlice 23 1 #[(0, .tmp 22)], 23, "law.go:21", #[⟨7, .data⟩], none⟩
abbrev o22_ : Oper := ⟨some 24, .call ⟨.builtin Builtin.append, #[.tmp 16, .tmp 23], #[23, 23]⟩, 23, "law.go:21", #[⟨1, .data⟩, ⟨8, .data⟩, ⟨7, .chain⟩], none⟩
abbrev o23_ : Oper := ⟨some 25, .fieldAddr 25 (.tmp 3) 7, 0, "law.go:21", #[⟨0, .phase⟩, ⟨1, .phase⟩, ⟨2, .phase⟩, ⟨3, .phase⟩, ⟨4, .phase⟩, ⟨5, .phase⟩, ⟨6, .phase⟩, ⟨7, .phase⟩, ⟨8, .phase⟩, ⟨9, .phase⟩], none⟩
abbrev o24_ : Oper := ⟨none, .store 23 (.tmp 25) (.tmp 24), 0, "law.go:21", #[⟨10, .data⟩, ⟨9, .data⟩, ⟨9, .chain⟩, ⟨0, .phase⟩, ⟨1, .phase⟩, ⟨2, .phase⟩, ⟨3, .phase⟩, ⟨4, .phase⟩, ⟨5, .phase⟩, ⟨6, .phase⟩, ⟨7, .phase⟩, ⟨8, .phase⟩, ⟨9, .phase⟩], none⟩
abbrev o25_ : Oper := ⟨some 14, .move (.tmp 0), 61, "write.go:312", #[], none⟩
abbrev o26_ : Oper := ⟨some 15, .load 25 (.tmp 4), 25, "write.go:312", #[], none⟩
abbrev o27_ : Oper := ⟨some 16, .fieldAddr 25 (.tmp 4) 0, 0, "write.go:312", #[], none⟩
abbrev o28_ : Oper := ⟨some 17, .load 22 (.tmp 16), 22, "write.go:312", #[⟨2, .data⟩], none⟩
abbrev o29_ : Oper := ⟨some 18, .binOp .eql 22 (.tmp 17) (.const (.int .i64 27)) 22, 4, "write.go:312", #[⟨3, .data⟩], none⟩
abbrev o30_ : Oper := ⟨some 19, .move (.tmp 18), 4, "write.go:312", #[⟨4, .data⟩], none⟩
abbrev o31_ : Oper := ⟨some 20, .load 25 (.tmp 3), 25, "write.go:312", #[⟨5, .guard⟩], some (5, false)⟩
abbrev o32_ : Oper := ⟨some 21, .call ⟨.value (.func 155), #[.tmp 20], #[25]⟩, 4, "write.go:312", #[⟨6, .data⟩, ⟨5, .chain⟩, ⟨5, .guard⟩], some (5, false)⟩
abbrev o33_ : Oper := ⟨some 22, .move (.tmp 21), 4, "write.go:312", #[⟨7, .data⟩, ⟨7, .chain⟩, ⟨5, .guard⟩], some (5, false)⟩
abbrev o34_ : Oper := ⟨some 23, .load 25 (.tmp 4), 25, "write.go:312", #[⟨8, .guard⟩], some (8, true)⟩
abbrev o35_ : Oper := ⟨some 24, .call ⟨.value (.func 155), #[.tmp 23], #[25]⟩, 4, "write.go:312", #[⟨9, .data⟩, ⟨8, .chain⟩, ⟨8, .guard⟩], some (8, true)⟩
abbrev o36_ : Oper := ⟨some 25, .pick (.tmp 22) (.tmp 24) (.const (.bool false)), 4, "write.go:312", #[⟨8, .data⟩, ⟨10, .data⟩, ⟨5, .guard⟩], some (5, false)⟩
abbrev o37_ : Oper := ⟨some 26, .pick (.tmp 19) (.const (.bool true)) (.tmp 25), 4, "write.go:312", #[⟨5, .data⟩, ⟨11, .data⟩], none⟩
abbrev o38_ : Oper := ⟨some 27, .call ⟨.value (.func 154), #[.tmp 14, .tmp 15, .tmp 26], #[61, 25, 4]⟩, 0, "write.go:312", #[⟨0, .data⟩, ⟨1, .data⟩, ⟨12, .data⟩, ⟨10, .chain⟩], none⟩
abbrev o39_ : Oper := ⟨some 14, .move (.tmp 0), 61, "write.go:322", #[], none⟩
abbrev o40_ : Oper := ⟨some 15, .load 25 (.tmp 4), 25, "write.go:322", #[], none⟩
abbrev o41_ : Oper := ⟨some 16, .fieldAddr 25 (.tmp 4) 0, 0, "write.go:322", #[], none⟩
abbrev o42_ : Oper := ⟨some 17, .load 22 (.tmp 16), 22, "write.go:322", #[⟨2, .data⟩], none⟩
abbrev o43_ : Oper := ⟨some 18, .binOp .eql 22 (.tmp 17) (.const (.int .i64 27)) 22, 4, "write.go:322", #[⟨3, .data⟩], none⟩
abbrev o44_ : Oper := ⟨some 19, .move (.tmp 18), 4, "write.go:322", #[⟨4, .data⟩], none⟩
abbrev o45_ : Oper := ⟨some 20, .fieldAddr 25 (.tmp 3) 1, 0, "write.go:322", #[⟨5, .guard⟩], some (5, true)⟩
abbrev o46_ : Oper := ⟨some 21, .load 9 (.tmp 20), 9, "write.go:322", #[⟨6, .data⟩, ⟨5, .guard⟩], some (5, true)⟩
abbrev o47_ : Oper := ⟨some 22, .call ⟨.value (.func 45), #[.tmp 21], #[9]⟩, 3, "write.go:322", #[⟨7, .data⟩, ⟨5, .chain⟩, ⟨5, .guard⟩], some (5, true)⟩
abbrev o48_ : Oper := ⟨some 23, .fieldAddr 25 (.tmp 4) 1, 0, "write.go:322", #[⟨5, .guard⟩], some (5, true)⟩
abbrev o49_ : Oper := ⟨some 24, .load 9 (.tmp 23), 9, "write.go:322", #[⟨9, .data⟩, ⟨5, .guard⟩], some (5, true)⟩
abbrev o50_ : Oper := ⟨some 25, .call ⟨.value (.func 45), #[.tmp 24], #[9]⟩, 3, "write.go:322", #[⟨10, .data⟩, ⟨8, .chain⟩, ⟨5, .guard⟩], some (5, true)⟩
abbrev o51_ : Oper := ⟨some 26, .binOp .gtr 3 (.tmp 22) (.tmp 25) 3, 4, "write.go:322", #[⟨8, .data⟩, ⟨11, .data⟩, ⟨5, .guard⟩], some (5, true)⟩
abbrev o52_ : Oper := ⟨some 27, .pick (.tmp 19) (.tmp 26) (.const (.bool false)), 4, "write.go:322", #[⟨5, .data⟩, ⟨12, .data⟩], none⟩
abbrev o53_ : Oper := ⟨some 28, .call ⟨.value (.func 154), #[.tmp 14, .tmp 15, .tmp 27], #[61, 25, 4]⟩, 0, "write.go:322", #[⟨0, .data⟩, ⟨1, .data⟩, ⟨13, .data⟩, ⟨11, .chain⟩], none⟩
abbrev o54_ : Oper := ⟨some 34, .move (.tmp 0), 61, "write.go:324", #[], none⟩
abbrev o55_ : Oper := ⟨some 35, .load 25 (.tmp 5), 25, "write.go:324", #[], none⟩
abbrev o56_ : Oper := ⟨some 36, .fieldAddr 25 (.tmp 5) 0, 0, "write.go:324", #[], none⟩
abbrev o57_ : Oper := ⟨some 37, .load 22 (.tmp 36), 22, "write.go:324", #[⟨2, .data⟩], none⟩
abbrev o58_ : Oper := ⟨some 38, .binOp .eql 22 (.tmp 37) (.const (.int .i64 27)) 22, 4, "write.go:324", #[⟨3, .data⟩], none⟩
abbrev o59_ : Oper := ⟨some 39, .move (.tmp 38), 4, "write.go:324", #[⟨4, .data⟩], none⟩
abbrev o60_ : Oper := ⟨some 40, .fieldAddr 25 (.tmp 3) 1, 0, "write.go:324", #[⟨5, .guard⟩], some (5, true)⟩
abbrev o61_ : Oper := ⟨some 41, .load 9 (.tmp 40), 9, "write.go:324", #[⟨6, .data⟩, ⟨5, .guard⟩], some (5, true)⟩
abbrev o62_ : Oper := ⟨some 42, .call ⟨.value (.func 45), #[.tmp 41], #[9]⟩, 3, "write.go:324", #[⟨7, .data⟩, ⟨5, .chain⟩, ⟨5, .guard⟩], some (5, true)⟩
abbrev o63_ : Oper := ⟨some 43, .fieldAddr 25 (.tmp 5) 1, 0, "write.go:324", #[⟨5, .guard⟩], some (5, true)⟩
abbrev o64_ : Oper := ⟨some 44, .load 9 (.tmp 43), 9, "write.go:324", #[⟨9, .data⟩, ⟨5, .guard⟩], some (5, true)⟩
abbrev o65_ : Oper := ⟨some 45, .call ⟨.value (.func 45), #[.tmp 44], #[9]⟩, 3, "write.go:324", #[⟨10, .data⟩, ⟨8, .chain⟩, ⟨5, .guard⟩], some (5, true)⟩
abbrev o66_ : Oper := ⟨some 46, .binOp .geq 3 (.tmp 42) (.tmp 45) 3, 4, "write.go:324", #[⟨8, .data⟩, ⟨11, .data⟩, ⟨5, .guard⟩], some (5, true)⟩
abbrev o67_ : Oper := ⟨some 47, .pick (.tmp 39) (.tmp 46) (.const (.bool false)), 4, "write.go:324", #[⟨5, .data⟩, ⟨12, .data⟩], none⟩
abbrev o68_ : Oper := ⟨some 48, .call ⟨.value (.func 154), #[.tmp 34, .tmp 35, .tmp 47], #[61, 25, 4]⟩, 0, "write.go:324", #[⟨0, .data⟩, ⟨1, .data⟩, ⟨13, .data⟩, ⟨11, .chain⟩], none⟩
abbrev o69_ : Oper := ⟨some 73, .load 25 (.tmp 1), 25, "right.go:166", #[], none⟩
abbrev o70_ : Oper := ⟨some 74, .move (.tmp 3), 23, "right.go:166", #[], none⟩
abbrev o71_ : Oper := ⟨some 75, .call ⟨.builtin Builtin.len, #[.tmp 74], #[23]⟩, 3, "right.go:166", #[⟨1, .data⟩], none⟩
abbrev o72_ : Oper := ⟨some 76, .binOp .gtr 3 (.tmp 75) (.const (.int .i64 1)) 3, 4, "right.go:166", #[⟨2, .data⟩], none⟩
abbrev o73_ : Oper := ⟨some 77, .move (.tmp 76), 4, "right.go:166", #[⟨3, .data⟩], none⟩
abbrev o74_ : Oper := ⟨some 78, .move (.tmp 3), 23, "right.go:166", #[⟨4, .guard⟩], some (4, true)⟩
abbrev o75_ : Oper := ⟨some 79, .call ⟨.value (.func 52), #[.tmp 78, .func 56], #[23, 87]⟩, 4, "right.go:166", #[⟨5, .data⟩, ⟨4, .chain⟩, ⟨4, .guard⟩], some (4, true)⟩
abbrev o76_ : Oper := ⟨some 80, .pick (.tmp 77) (.tmp 79) (.const (.bool false)), 4, "right.go:166", #[⟨4, .data⟩, ⟨6, .data⟩], none⟩
abbrev o77_ : Oper := ⟨some 81, .call ⟨.value (.func 64), #[.tmp 73, .tmp 80], #[25, 4]⟩, 4, "right.go:166", #[⟨0, .data⟩, ⟨7, .data⟩, ⟨6, .chain⟩], none⟩
abbrev o78_ : Oper := ⟨some 2, .assign (.tmp 81), 4, "right.go:166", #[⟨8, .data⟩, ⟨8, .chain⟩, ⟨0, .phase⟩, ⟨1, .phase⟩, ⟨2, .phase⟩, ⟨3, .phase⟩, ⟨4, .phase⟩, ⟨5, .phase⟩, ⟨6, .phase⟩, ⟨7, .phase⟩, ⟨8, .phase⟩], none⟩
abbrev o79_ : Oper := ⟨some 88, .load 25 (.tmp 1), 25, "right.go:170", #[], none⟩
abbrev o80_ : Oper := ⟨some 89, .move (.tmp 3), 23, "right.go:170", #[], none⟩
abbrev o81_ : Oper := ⟨some 90, .buildSlice 88 2 #[(0, .func 66), (1, .func 60)], 88, "right.go:170", #[], none⟩
abbrev o82_ : Oper := ⟨some 91, .call ⟨.value (.func 55), #[.tmp 89, .tmp 90], #[23, 88]⟩, 4, "right.go:170", #[⟨1, .data⟩, ⟨2, .data⟩], none⟩
abbrev o83_ : Oper := ⟨some 92, .call ⟨.value (.func 64), #[.tmp 88, .tmp 91], #[25, 4]⟩, 4, "right.go:170", #[⟨0, .data⟩, ⟨3, .data⟩, ⟨3, .chain⟩], none⟩
abbrev o84_ : Oper := ⟨some 2, .assign (.tmp 92), 4, "right.go:170", #[⟨4, .data⟩, ⟨4, .chain⟩, ⟨0, .phase⟩, ⟨1, .phase⟩, ⟨2, .phase⟩, ⟨3, .phase⟩, ⟨4, .phase⟩], none⟩
abbrev o85_ : Oper := ⟨some 7, .fieldAddr 25 (.tmp 1) 7, 0, "text.go:70", #[], none⟩
abbrev o86_ : Oper := ⟨some 8, .load 23 (.tmp 7), 23, "text.go:70", #[⟨0, .data⟩], none⟩
abbrev o87_ : Oper := ⟨some 9, .fieldAddr 25 (.tmp 1) 2, 0, "text.go:70", #[], none⟩
abbrev o88_ : Oper := ⟨some 10, .load 2 (.tmp 9), 2, "text.go:70", #[⟨2, .data⟩], none⟩
abbrev o89_ : Oper := ⟨some 11, .slice 23 (.tmp 8) none (some (.tmp 10)) none, 23, "text.go:70", #[⟨1, .data⟩, ⟨3, .data⟩], none⟩
abbrev o90_ : Oper := ⟨some 14, .fieldAddr 25 (.tmp 1) 7, 0, "text.go:70", #[], none⟩
abbrev o91_ : Oper := ⟨some 15, .load 23 (.tmp 14), 23, "text.go:70", #[⟨7, .data⟩], none⟩
abbrev o92_ : Oper := ⟨some 16, .fieldAddr 25 (.tmp 1) 2, 0, "text.go:70", #[], none⟩
abbrev o93_ : Oper := ⟨some 17, .load 2 (.tmp 16), 2, "text.go:70", #[⟨9, .data⟩], none⟩
abbrev o94_ : Oper := ⟨some 18, .indexAddr 23 (.tmp 15) (.tmp 17), 0, "text.go:70", #[⟨8, .data⟩, ⟨10, .data⟩], none⟩
abbrev o95_ : Oper := ⟨some 19, .load 25 (.tmp 18), 25, "text.go:70", #[⟨11, .data⟩], none⟩
abbrev o96_ : Oper := ⟨some 12, .call ⟨.value (.func 122), #[.tmp 11], #[23]⟩, 9, "text.go:70", #[⟨4, .data⟩], none⟩
abbrev o97_ : Oper := ⟨some 13, .binOp .add 9 (.tmp 12) (.const (.string ⟨#[32, 58, 61, 32]⟩)) 9, 9, "text.go:70", #[⟨5, .data⟩], none⟩
abbrev o98_ : Oper := ⟨some 20, .call ⟨.value (.func 92), #[.tmp 19], #[25]⟩, 9, "text.go:70", #[⟨12, .data⟩, ⟨5, .chain⟩], none⟩
abbrev o99_ : Oper := ⟨some 21, .binOp .add 9 (.tmp 13) (.tmp 20) 9, 9, "text.go:70", #[⟨6, .data⟩, ⟨13, .data⟩], none⟩
abbrev o100_ : Oper := ⟨some 2, .assign (.tmp 21), 9, "text.go:70", #[⟨14, .data⟩, ⟨13, .chain⟩, ⟨0, .phase⟩, ⟨1, .phase⟩, ⟨2, .phase⟩, ⟨3, .phase⟩, ⟨4, .phase⟩, ⟨5, .phase⟩, ⟨6, .phase⟩, ⟨7, .phase⟩, ⟨8, .phase⟩, ⟨9, .phase⟩, ⟨10, .phase⟩, ⟨11, .phase⟩, ⟨12, .phase⟩, ⟨13, .phase⟩, ⟨14, .phase⟩], none⟩
abbrev o101_ : Oper := ⟨some 24, .fieldAddr 25 (.tmp 1) 7, 0, "text.go:72", #[], none⟩
abbrev o102_ : Oper := ⟨some 25, .load 23 (.tmp 24), 23, "text.go:72", #[⟨0, .data⟩], none⟩
abbrev o103_ : Oper := ⟨some 26, .fieldAddr 25 (.tmp 1) 2, 0, "text.go:72", #[], none⟩
abbrev o104_ : Oper := ⟨some 27, .load 2 (.tmp 26), 2, "text.go:72", #[⟨2, .data⟩], none⟩
abbrev o105_ : Oper := ⟨some 28, .slice 23 (.tmp 25) none (some (.tmp 27)) none, 23, "text.go:72", #[⟨1, .data⟩, ⟨3, .data⟩], none⟩
abbrev o106_ : Oper := ⟨some 31, .fieldAddr 25 (.tmp 1) 7, 0, "text.go:72", #[], none⟩
abbrev o107_ : Oper := ⟨some 32, .load 23 (.tmp 31), 23, "text.go:72", #[⟨7, .data⟩], none⟩
abbrev o108_ : Oper := ⟨some 33, .fieldAddr 25 (.tmp 1) 2, 0, "text.go:72", #[], none⟩
abbrev o109_ : Oper := ⟨some 34, .load 2 (.tmp 33), 2, "text.go:72", #[⟨9, .data⟩], none⟩
abbrev o110_ : Oper := ⟨some 35, .indexAddr 23 (.tmp 32) (.tmp 34), 0, "text.go:72", #[⟨8, .data⟩, ⟨10, .data⟩], none⟩
abbrev o111_ : Oper := ⟨some 36, .load 25 (.tmp 35), 25, "text.go:72", #[⟨11, .data⟩], none⟩
abbrev o112_ : Oper := ⟨some 29, .call ⟨.value (.func 122), #[.tmp 28], #[23]⟩, 9, "text.go:72", #[⟨4, .data⟩], none⟩
abbrev o113_ : Oper := ⟨some 30, .binOp .add 9 (.tmp 29) (.const (.string ⟨#[32, 61, 32]⟩)) 9, 9, "text.go:72", #[⟨5, .data⟩], none⟩
abbrev o114_ : Oper := ⟨some 37, .call ⟨.value (.func 92), #[.tmp 36], #[25]⟩, 9, "text.go:72", #[⟨12, .data⟩, ⟨5, .chain⟩], none⟩
abbrev o115_ : Oper := ⟨some 38, .binOp .add 9 (.tmp 30) (.tmp 37) 9, 9, "text.go:72", #[⟨6, .data⟩, ⟨13, .data⟩], none⟩
abbrev o116_ : Oper := ⟨some 2, .assign (.tmp 38), 9, "text.go:72", #[⟨14, .data⟩, ⟨13, .chain⟩, ⟨0, .phase⟩, ⟨1, .phase⟩, ⟨2, .phase⟩, ⟨3, .phase⟩, ⟨4, .phase⟩, ⟨5, .phase⟩, ⟨6, .phase⟩, ⟨7, .phase⟩, ⟨8, .phase⟩, ⟨9, .phase⟩, ⟨10, .phase⟩, ⟨11, .phase⟩, ⟨12, .phase⟩, ⟨13, .phase⟩, ⟨14, .phase⟩], none⟩
abbrev o117_ : Oper := ⟨some 58, .fieldAddr 25 (.tmp 1) 7, 0, "text.go:79", #[], none⟩
abbrev o118_ : Oper := ⟨some 59, .load 23 (.tmp 58), 23, "text.go:79", #[⟨0, .data⟩], none⟩
abbrev o119_ : Oper := ⟨some 60, .indexAddr 23 (.tmp 59) (.const (.int .i64 0)), 0, "text.go:79", #[⟨1, .data⟩], none⟩
abbrev o120_ : Oper := ⟨some 61, .load 25 (.tmp 60), 25, "text.go:79", #[⟨2, .data⟩], none⟩
abbrev o121_ : Oper := ⟨some 64, .fieldAddr 25 (.tmp 1) 7, 0, "text.go:79", #[], none⟩
abbrev o122_ : Oper := ⟨some 65, .load 23 (.tmp 64), 23, "text.go:79", #[⟨6, .data⟩], none⟩
abbrev o123_ : Oper := ⟨some 66, .indexAddr 23 (.tmp 65) (.const (.int .i64 1)), 0, "text.go:79", #[⟨7, .data⟩], none⟩
abbrev o124_ : Oper := ⟨some 67, .load 25 (.tmp 66), 25, "text.go:79", #[⟨8, .data⟩], none⟩
abbrev o125_ : Oper := ⟨some 62, .call ⟨.value (.func 92), #[.tmp 61], #[25]⟩, 9, "text.go:79", #[⟨3, .data⟩], none⟩
abbrev o126_ : Oper := ⟨some 63, .binOp .add 9 (.tmp 62) (.const (.string ⟨#[32, 60, 45, 32]⟩)) 9, 9, "text.go:79", #[⟨4, .data⟩], none⟩
abbrev o127_ : Oper := ⟨some 68, .call ⟨.value (.func 92), #[.tmp 67], #[25]⟩, 9, "text.go:79", #[⟨9, .data⟩, ⟨4, .chain⟩], none⟩
abbrev o128_ : Oper := ⟨some 69, .binOp .add 9 (.tmp 63) (.tmp 68) 9, 9, "text.go:79", #[⟨5, .data⟩, ⟨10, .data⟩], none⟩
abbrev o129_ : Oper := ⟨some 2, .assign (.tmp 69), 9, "text.go:79", #[⟨11, .data⟩, ⟨10, .chain⟩, ⟨0, .phase⟩, ⟨1, .phase⟩, ⟨2, .phase⟩, ⟨3, .phase⟩, ⟨4, .phase⟩, ⟨5, .phase⟩, ⟨6, .phase⟩, ⟨7, .phase⟩, ⟨8, .phase⟩, ⟨9, .phase⟩, ⟨10, .phase⟩, ⟨11, .phase⟩], none⟩
abbrev o130_ : Oper := ⟨some 13, .move (.tmp 5), 9, "text.go:104", #[], none⟩
abbrev o131_ : Oper := ⟨some 14, .move (.tmp 1), 3, "text.go:104", #[], none⟩
abbrev o132_ : Oper := ⟨some 17, .move (.tmp 0), 23, "text.go:104", #[], none⟩
abbrev o133_ : Oper := ⟨some 18, .move (.tmp 6), 3, "text.go:104", #[], none⟩
abbrev o134_ : Oper := ⟨some 19, .indexAddr 23 (.tmp 17) (.tmp 18), 0, "text.go:104", #[⟨4, .data⟩, ⟨5, .data⟩], none⟩
abbrev o135_ : Oper := ⟨some 20, .load 25 (.tmp 19), 25, "text.go:104", #[⟨6, .data⟩], none⟩
abbrev o136_ : Oper := ⟨some 21, .move (.tmp 1), 3, "text.go:104", #[], none⟩
abbrev o137_ : Oper := ⟨some 15, .call ⟨.value (.func 37), #[.tmp 14], #[3]⟩, 9, "text.go:104", #[⟨1, .data⟩], none⟩
abbrev o138_ : Oper := ⟨some 16, .binOp .add 9 (.tmp 13) (.tmp 15) 9, 9, "text.go:104", #[⟨0, .data⟩, ⟨2, .data⟩], none⟩
abbrev o139_ : Oper := ⟨some 22, .call ⟨.value (.func 72), #[.tmp 20, .tmp 21], #[25, 3]⟩, 9, "text.go:104", #[⟨7, .data⟩, ⟨8, .data⟩, ⟨2, .chain⟩], none⟩
abbrev o140_ : Oper := ⟨some 23, .binOp .add 9 (.tmp 16) (.tmp 22) 9, 9, "text.go:104", #[⟨3, .data⟩, ⟨9, .data⟩], none⟩
abbrev o141_ : Oper := ⟨some 24, .binOp .add 9 (.tmp 23) (.const (.string ⟨#[10]⟩)) 9, 9, "text.go:104", #[⟨10, .data⟩], none⟩
abbrev o142_ : Oper := ⟨some 5, .assign (.tmp 24), 9, "text.go:104", #[⟨11, .data⟩, ⟨9, .chain⟩, ⟨0, .phase⟩, ⟨1, .phase⟩, ⟨2, .phase⟩, ⟨3, .phase⟩, ⟨4, .phase⟩, ⟨5, .phase⟩, ⟨6, .phase⟩, ⟨7, .phase⟩, ⟨8, .phase⟩, ⟨9, .phase⟩, ⟨10, .phase⟩, ⟨11, .phase⟩], none⟩
abbrev o143_ : Oper := ⟨some 66, .fieldAddr 25 (.tmp 1) 7, 0, "text.go:128", #[], none⟩
abbrev o144_ : Oper := ⟨some 67, .load 23 (.tmp 66), 23, "text.go:128", #[⟨0, .data⟩], none⟩
abbrev o145_ : Oper := ⟨some 68, .indexAddr 23 (.tmp 67) (.const (.int .i64 0)), 0, "text.go:128", #[⟨1, .data⟩], none⟩
abbrev o146_ : Oper := ⟨some 69, .fieldAddr 25 (.tmp 68) 1, 0, "text.go:128", #[⟨2, .data⟩], none⟩
abbrev o147_ : Oper := ⟨some 70, .load 9 (.tmp 69), 9, "text.go:128", #[⟨3, .data⟩], none⟩
abbrev o148_ : Oper := ⟨some 71, .binOp .add 9 (.tmp 70) (.const (.string ⟨#[32]⟩)) 9, 9, "text.go:128", #[⟨4, .data⟩], none⟩
abbrev o149_ : Oper := ⟨some 72, .fieldAddr 25 (.tmp 1) 1, 0, "text.go:128", #[], none⟩
abbrev o150_ : Oper := ⟨some 73, .load 9 (.tmp 72), 9, "text.go:128", #[⟨6, .data⟩], none⟩
abbrev o151_ : Oper := ⟨some 74, .binOp .add 9 (.tmp 71) (.tmp 73) 9, 9, "text.go:128", #[⟨5, .data⟩, ⟨7, .data⟩], none⟩
abbrev o152_ : Oper := ⟨some 75, .binOp .add 9 (.tmp 74) (.const (.string ⟨#[32, 114, 97, 110, 103, 101, 32]⟩)) 9, 9, "text.go:128", #[⟨8, .data⟩], none⟩
abbrev o153_ : Oper := ⟨some 76, .fieldAddr 25 (.tmp 1) 7, 0, "text.go:128", #[], none⟩
abbrev o154_ : Oper := ⟨some 77, .load 23 (.tmp 76), 23, "text.go:128", #[⟨10, .data⟩], none⟩
abbrev o155_ : Oper := ⟨some 78, .indexAddr 23 (.tmp 77) (.const (.int .i64 1)), 0, "text.go:128", #[⟨11, .data⟩], none⟩
abbrev o156_ : Oper := ⟨some 79, .load 25 (.tmp 78), 25, "text.go:128", #[⟨12, .data⟩], none⟩
abbrev o157_ : Oper := ⟨some 80, .call ⟨.value (.func 92), #[.tmp 79], #[25]⟩, 9, "text.go:128", #[⟨13, .data⟩], none⟩
abbrev o158_ : Oper := ⟨some 81, .binOp .add 9 (.tmp 75) (.tmp 80) 9, 9, "text.go:128", #[⟨9, .data⟩, ⟨14, .data⟩], none⟩
abbrev o159_ : Oper := ⟨some 82, .binOp .add 9 (.tmp 81) (.const (.string ⟨#[32]⟩)) 9, 9, "text.go:128", #[⟨15, .data⟩], none⟩
abbrev o160_ : Oper := ⟨some 2, .assign (.tmp 82), 9, "text.go:128", #[⟨16, .data⟩, ⟨14, .chain⟩, ⟨0, .phase⟩, ⟨1, .phase⟩, ⟨2, .phase⟩, ⟨3, .phase⟩, ⟨4, .phase⟩, ⟨5, .phase⟩, ⟨6, .phase⟩, ⟨7, .phase⟩, ⟨8, .phase⟩, ⟨9, .phase⟩, ⟨10, .phase⟩, ⟨11, .phase⟩, ⟨12, .phase⟩, ⟨13, .phase⟩, ⟨14, .phase⟩, ⟨15, .phase⟩, ⟨16, .phase⟩], none⟩
abbrev o161_ : Oper := ⟨some 52, .move (.tmp 5), 9, "text.go:146", #[], none⟩
abbrev o162_ : Oper := ⟨some 53, .move (.tmp 1), 3, "text.go:146", #[], none⟩
abbrev o163_ : Oper := ⟨some 56, .move (.tmp 9), 9, "text.go:146", #[], none⟩
abbrev o164_ : Oper := ⟨some 59, .fieldAddr 25 (.tmp 7) 7, 0, "text.go:146", #[], none⟩
abbrev o165_ : Oper := ⟨some 60, .load 23 (.tmp 59), 23, "text.go:146", #[⟨7, .data⟩], none⟩
abbrev o166_ : Oper := ⟨some 61, .move (.tmp 8), 3, "text.go:146", #[], none⟩
abbrev o167_ : Oper := ⟨some 62, .indexAddr 23 (.tmp 60) (.tmp 61), 0, "text.go:146", #[⟨8, .data⟩, ⟨9, .data⟩], none⟩
abbrev o168_ : Oper := ⟨some 63, .fieldAddr 25 (.tmp 62) 7, 0, "text.go:146", #[⟨10, .data⟩], none⟩
abbrev o169_ : Oper := ⟨some 64, .load 23 (.tmp 63), 23, "text.go:146", #[⟨11, .data⟩], none⟩
abbrev o170_ : Oper := ⟨some 65, .move (.tmp 1), 3, "text.go:146", #[], none⟩
abbrev o171_ : Oper := ⟨some 66, .binOp .add 3 (.tmp 65) (.const (.int .i64 1)) 3, 3, "text.go:146", #[⟨13, .data⟩], none⟩
abbrev o172_ : Oper := ⟨some 54, .call ⟨.value (.func 37), #[.tmp 53], #[3]⟩, 9, "text.go:146", #[⟨1, .data⟩], none⟩
abbrev o173_ : Oper := ⟨some 55, .binOp .add 9 (.tmp 52) (.tmp 54) 9, 9, "text.go:146", #[⟨0, .data⟩, ⟨2, .data⟩], none⟩
abbrev o174_ : Oper := ⟨some 57, .binOp .add 9 (.tmp 55) (.tmp 56) 9, 9, "text.go:146", #[⟨3, .data⟩, ⟨4, .data⟩], none⟩
abbrev o175_ : Oper := ⟨some 58, .binOp .add 9 (.tmp 57) (.const (.string ⟨#[58, 10]⟩)) 9, 9, "text.go:146", #[⟨5, .data⟩], none⟩
abbrev o176_ : Oper := ⟨some 67, .call ⟨.value (.func 36), #[.tmp 64, .tmp 66], #[23, 3]⟩, 9, "text.go:146", #[⟨12, .data⟩, ⟨14, .data⟩, ⟨2, .chain⟩], none⟩
abbrev o177_ : Oper := ⟨some 68, .binOp .add 9 (.tmp 58) (.tmp 67) 9, 9, "text.go:146", #[⟨6, .data⟩, ⟨15, .data⟩], none⟩
abbrev o178_ : Oper := ⟨some 5, .assign (.tmp 68), 9, "text.go:146", #[⟨16, .data⟩, ⟨15, .chain⟩, ⟨0, .phase⟩, ⟨1, .phase⟩, ⟨2, .phase⟩, ⟨3, .phase⟩, ⟨4, .phase⟩, ⟨5, .phase⟩, ⟨6, .phase⟩, ⟨7, .phase⟩, ⟨8, .phase⟩, ⟨9, .phase⟩, ⟨10, .phase⟩, ⟨11, .phase⟩, ⟨12, .phase⟩, ⟨13, .phase⟩, ⟨14, .phase⟩, ⟨15, .phase⟩, ⟨16, .phase⟩], none⟩
abbrev o179_ : Oper := ⟨some 39, .fieldAddr 25 (.tmp 2) 7, 0, "text.go:163", #[], none⟩
abbrev o180_ : Oper := ⟨some 40, .load 23 (.tmp 39), 23, "text.go:163", #[⟨0, .data⟩], none⟩
abbrev o181_ : Oper := ⟨some 41, .indexAddr 23 (.tmp 40) (.const (.int .i64 0)), 0, "text.go:163", #[⟨1, .data⟩], none⟩
abbrev o182_ : Oper := ⟨some 42, .load 25 (.tmp 41), 25, "text.go:163", #[⟨2, .data⟩], none⟩
abbrev o183_ : Oper := ⟨some 46, .fieldAddr 25 (.tmp 2) 7, 0, "text.go:163", #[], none⟩
abbrev o184_ : Oper := ⟨some 47, .load 23 (.tmp 46), 23, "text.go:163", #[⟨7, .data⟩], none⟩
abbrev o185_ : Oper := ⟨some 48, .indexAddr 23 (.tmp 47) (.const (.int .i64 1)), 0, "text.go:163", #[⟨8, .data⟩], none⟩
abbrev o186_ : Oper := ⟨some 49, .load 25 (.tmp 48), 25, "text.go:163", #[⟨9, .data⟩], none⟩
abbrev o187_ : Oper := ⟨some 50, .move (.tmp 1), 3, "text.go:163", #[], none⟩
abbrev o188_ : Oper := ⟨some 43, .call ⟨.value (.func 92), #[.tmp 42], #[25]⟩, 9, "text.go:163", #[⟨3, .data⟩], none⟩
abbrev o189_ : Oper := ⟨some 44, .binOp .add 9 (.const (.string ⟨#[105, 102, 32]⟩)) (.tmp 43) 9, 9, "text.go:163", #[⟨4, .data⟩], none⟩
abbrev o190_ : Oper := ⟨some 45, .binOp .add 9 (.tmp 44) (.const (.string ⟨#[32]⟩)) 9, 9, "text.go:163", #[⟨5, .data⟩], none⟩
abbrev o191_ : Oper := ⟨some 51, .call ⟨.value (.func 22), #[.tmp 49, .tmp 50], #[25, 3]⟩, 9, "text.go:163", #[⟨10, .data⟩, ⟨11, .data⟩, ⟨4, .chain⟩], none⟩
abbrev o192_ : Oper := ⟨some 52, .binOp .add 9 (.tmp 45) (.tmp 51) 9, 9, "text.go:163", #[⟨6, .data⟩, ⟨12, .data⟩], none⟩
abbrev o193_ : Oper := ⟨some 6, .assign (.tmp 52), 9, "text.go:163", #[⟨13, .data⟩, ⟨12, .chain⟩, ⟨0, .phase⟩, ⟨1, .phase⟩, ⟨2, .phase⟩, ⟨3, .phase⟩, ⟨4, .phase⟩, ⟨5, .phase⟩, ⟨6, .phase⟩, ⟨7, .phase⟩, ⟨8, .phase⟩, ⟨9, .phase⟩, ⟨10, .phase⟩, ⟨11, .phase⟩, ⟨12, .phase⟩, ⟨13, .phase⟩], none⟩
abbrev o194_ : Oper := ⟨some 69, .load 25 (.tmp 2), 25, "text.go:169", #[], none⟩
abbrev o195_ : Oper := ⟨some 72, .fieldAddr 25 (.tmp 2) 7, 0, "text.go:169", #[], none⟩
abbrev o196_ : Oper := ⟨some 73, .load 23 (.tmp 72), 23, "text.go:169", #[⟨3, .data⟩], none⟩
abbrev o197_ : Oper := ⟨some 74, .fieldAddr 25 (.tmp 2) 7, 0, "text.go:169", #[], none⟩
abbrev o198_ : Oper := ⟨some 75, .load 23 (.tmp 74), 23, "text.go:169", #[⟨5, .data⟩], none⟩
abbrev o199_ : Oper := ⟨some 76, .call ⟨.builtin Builtin.len, #[.tmp 75], #[23]⟩, 3, "text.go:169", #[⟨6, .data⟩], none⟩
abbrev o200_ : Oper := ⟨some 77, .binOp .sub 3 (.tmp 76) (.const (.int .i64 1)) 3, 3, "text.go:169", #[⟨7, .data⟩], none⟩
abbrev o201_ : Oper := ⟨some 78, .indexAddr 23 (.tmp 73) (.tmp 77), 0, "text.go:169", #[⟨4, .data⟩, ⟨8, .data⟩], none⟩
abbrev o202_ : Oper := ⟨some 79, .load 25 (.tmp 78), 25, "text.go:169", #[⟨9, .data⟩], none⟩
abbrev o203_ : Oper := ⟨some 80, .move (.tmp 1), 3, "text.go:169", #[], none⟩
abbrev o204_ : Oper := ⟨some 70, .call ⟨.value (.func 93), #[.tmp 69], #[25]⟩, 9, "text.go:169", #[⟨0, .data⟩], none⟩
abbrev o205_ : Oper := ⟨some 71, .binOp .add 9 (.const (.string ⟨#[102, 111, 114, 32]⟩)) (.tmp 70) 9, 9, "text.go:169", #[⟨1, .data⟩], none⟩
abbrev o206_ : Oper := ⟨some 81, .call ⟨.value (.func 22), #[.tmp 79, .tmp 80], #[25, 3]⟩, 9, "text.go:169", #[⟨10, .data⟩, ⟨11, .data⟩, ⟨1, .chain⟩], none⟩
abbrev o207_ : Oper := ⟨some 82, .binOp .add 9 (.tmp 71) (.tmp 81) 9, 9, "text.go:169", #[⟨2, .data⟩, ⟨12, .data⟩], none⟩
abbrev o208_ : Oper := ⟨some 4, .assign (.tmp 82), 9, "text.go:169", #[⟨13, .data⟩, ⟨12, .chain⟩, ⟨0, .phase⟩, ⟨1, .phase⟩, ⟨2, .phase⟩, ⟨3, .phase⟩, ⟨4, .phase⟩, ⟨5, .phase⟩, ⟨6, .phase⟩, ⟨7, .phase⟩, ⟨8, .phase⟩, ⟨9, .phase⟩, ⟨10, .phase⟩, ⟨11, .phase⟩, ⟨12, .phase⟩, ⟨13, .phase⟩], none⟩
abbrev o209_ : Oper := ⟨some 121, .fieldAddr 25 (.tmp 1) 1, 0, "text.go:55", #[], none⟩
abbrev o210_ : Oper := ⟨some 122, .load 9 (.tmp 121), 9, "text.go:55", #[⟨0, .data⟩], none⟩
abbrev o211_ : Oper := ⟨some 123, .binOp .add 9 (.tmp 122) (.const (.string ⟨#[40]⟩)) 9, 9, "text.go:55", #[⟨1, .data⟩], none⟩
abbrev o212_ : Oper := ⟨some 124, .fieldAddr 25 (.tmp 1) 7, 0, "text.go:55", #[], none⟩
abbrev o213_ : Oper := ⟨some 125, .load 23 (.tmp 124), 23, "text.go:55", #[⟨3, .data⟩], none⟩
abbrev o214_ : Oper := ⟨some 126, .call ⟨.value (.func 122), #[.tmp 125], #[23]⟩, 9, "text.go:55", #[⟨4, .data⟩], none⟩
abbrev o215_ : Oper := ⟨some 127, .binOp .add 9 (.tmp 123) (.tmp 126) 9, 9, "text.go:55", #[⟨2, .data⟩, ⟨5, .data⟩], none⟩
abbrev o216_ : Oper := ⟨some 128, .binOp .add 9 (.tmp 127) (.const (.string ⟨#[41]⟩)) 9, 9, "text.go:55", #[⟨6, .data⟩], none⟩
abbrev o217_ : Oper := ⟨some 2, .assign (.tmp 128), 9, "text.go:55", #[⟨7, .data⟩, ⟨5, .chain⟩, ⟨0, .phase⟩, ⟨1, .phase⟩, ⟨2, .phase⟩, ⟨3, .phase⟩, ⟨4, .phase⟩, ⟨5, .phase⟩, ⟨6, .phase⟩, ⟨7, .phase⟩], none⟩
abbrev o218_ : Oper := ⟨some 135, .fieldAddr 25 (.tmp 1) 3, 0, "text.go:58", #[], none⟩
abbrev o219_ : Oper := ⟨some 136, .load 9 (.tmp 135), 9, "text.go:58", #[⟨0, .data⟩], none⟩
abbrev o220_ : Oper := ⟨some 137, .binOp .add 9 (.const (.string ⟨#[109, 97, 107, 101, 40]⟩)) (.tmp 136) 9, 9, "text.go:58", #[⟨1, .data⟩], none⟩
abbrev o221_ : Oper := ⟨some 138, .binOp .add 9 (.tmp 137) (.const (.string ⟨#[44, 32]⟩)) 9, 9, "text.go:58", #[⟨2, .data⟩], none⟩
abbrev o222_ : Oper := ⟨some 139, .fieldAddr 25 (.tmp 1) 7, 0, "text.go:58", #[], none⟩
abbrev o223_ : Oper := ⟨some 140, .load 23 (.tmp 139), 23, "text.go:58", #[⟨4, .data⟩], none⟩
abbrev o224_ : Oper := ⟨some 141, .indexAddr 23 (.tmp 140) (.const (.int .i64 0)), 0, "text.go:58", #[⟨5, .data⟩], none⟩
abbrev o225_ : Oper := ⟨some 142, .load 25 (.tmp 141), 25, "text.go:58", #[⟨6, .data⟩], none⟩
abbrev o226_ : Oper := ⟨some 143, .call ⟨.value (.func 92), #[.tmp 142], #[25]⟩, 9, "text.go:58", #[⟨7, .data⟩], none⟩
abbrev o227_ : Oper := ⟨some 144, .binOp .add 9 (.tmp 138) (.tmp 143) 9, 9, "text.go:58", #[⟨3, .data⟩, ⟨8, .data⟩], none⟩
abbrev o228_ : Oper := ⟨some 145, .binOp .add 9 (.tmp 144) (.const (.string ⟨#[41]⟩)) 9, 9, "text.go:58", #[⟨9, .data⟩], none⟩
abbrev o229_ : Oper := ⟨some 2, .assign (.tmp 145), 9, "text.go:58", #[⟨10, .data⟩, ⟨8, .chain⟩, ⟨0, .phase⟩, ⟨1, .phase⟩, ⟨2, .phase⟩, ⟨3, .phase⟩, ⟨4, .phase⟩, ⟨5, .phase⟩, ⟨6, .phase⟩, ⟨7, .phase⟩, ⟨8, .phase⟩, ⟨9, .phase⟩, ⟨10, .phase⟩], none⟩
abbrev o230_ : Oper := ⟨some 62, .fieldAddr 25 (.tmp 1) 1, 0, "text.go:47", #[], none⟩
abbrev o231_ : Oper := ⟨some 63, .load 9 (.tmp 62), 9, "text.go:47", #[⟨0, .data⟩], none⟩
abbrev o232_ : Oper := ⟨some 64, .load 25 (.tmp 3), 25, "text.go:47", #[], none⟩
abbrev o233_ : Oper := ⟨some 65, .move (.tmp 4), 4, "text.go:47", #[], none⟩
abbrev o234_ : Oper := ⟨some 66, .move (.tmp 65), 4, "text.go:47", #[⟨3, .data⟩], none⟩
abbrev o235_ : Oper := ⟨some 67, .fieldAddr 25 (.tmp 3) 0, 0, "text.go:47", #[⟨4, .guard⟩], some (4, false)⟩
abbrev o236_ : Oper := ⟨some 68, .load 22 (.tmp 67), 22, "text.go:47", #[⟨5, .data⟩, ⟨4, .guard⟩], some (4, false)⟩
abbrev o237_ : Oper := ⟨some 69, .binOp .eql 22 (.tmp 68) (.const (.int .i64 27)) 22, 4, "text.go:47", #[⟨6, .data⟩, ⟨4, .guard⟩], some (4, false)⟩
abbrev o238_ : Oper := ⟨some 70, .pick (.tmp 66) (.const (.bool true)) (.tmp 69), 4, "text.go:47", #[⟨4, .data⟩, ⟨7, .data⟩], none⟩
abbrev o239_ : Oper := ⟨some 71, .call ⟨.value (.func 120), #[.tmp 64, .tmp 70], #[25, 4]⟩, 9, "text.go:47", #[⟨2, .data⟩, ⟨8, .data⟩, ⟨4, .chain⟩], none⟩
abbrev o240_ : Oper := ⟨some 72, .binOp .add 9 (.tmp 63) (.tmp 71) 9, 9, "text.go:47", #[⟨1, .data⟩, ⟨9, .data⟩], none⟩
abbrev o241_ : Oper := ⟨some 2, .assign (.tmp 72), 9, "text.go:47", #[⟨10, .data⟩, ⟨9, .chain⟩, ⟨0, .phase⟩, ⟨1, .phase⟩, ⟨2, .phase⟩, ⟨3, .phase⟩, ⟨4, .phase⟩, ⟨5, .phase⟩, ⟨6, .phase⟩, ⟨7, .phase⟩, ⟨8, .phase⟩, ⟨9, .phase⟩, ⟨10, .phase⟩], none⟩
abbrev o242_ : Oper := ⟨some 83, .fieldAddr 25 (.tmp 5) 0, 0, "text.go:51", #[], none⟩
abbrev o243_ : Oper := ⟨some 84, .load 22 (.tmp 83), 22, "text.go:51", #[⟨0, .data⟩], none⟩
abbrev o244_ : Oper := ⟨some 85, .binOp .eql 22 (.tmp 84) (.const (.int .i64 27)) 22, 4, "text.go:51", #[⟨1, .data⟩], none⟩
abbrev o245_ : Oper := ⟨some 86, .move (.tmp 85), 4, "text.go:51", #[⟨2, .data⟩], none⟩
abbrev o246_ : Oper := ⟨some 87, .fieldAddr 25 (.tmp 5) 1, 0, "text.go:51", #[⟨3, .guard⟩], some (3, true)⟩
abbrev o247_ : Oper := ⟨some 88, .load 9 (.tmp 87), 9, "text.go:51", #[⟨4, .data⟩, ⟨3, .guard⟩], some (3, true)⟩
abbrev o248_ : Oper := ⟨some 89, .call ⟨.value (.func 121), #[.tmp 88], #[9]⟩, 3, "text.go:51", #[⟨5, .data⟩, ⟨3, .chain⟩, ⟨3, .guard⟩], some (3, true)⟩
abbrev o249_ : Oper := ⟨some 90, .fieldAddr 25 (.tmp 1) 1, 0, "text.go:51", #[⟨3, .guard⟩], some (3, true)⟩
abbrev o250_ : Oper := ⟨some 91, .load 9 (.tmp 90), 9, "text.go:51", #[⟨7, .data⟩, ⟨3, .guard⟩], some (3, true)⟩
abbrev o251_ : Oper := ⟨some 92, .call ⟨.value (.func 121), #[.tmp 91], #[9]⟩, 3, "text.go:51", #[⟨8, .data⟩, ⟨6, .chain⟩, ⟨3, .guard⟩], some (3, true)⟩
abbrev o252_ : Oper := ⟨some 93, .binOp .lss 3 (.tmp 89) (.tmp 92) 3, 4, "text.go:51", #[⟨6, .data⟩, ⟨9, .data⟩, ⟨3, .guard⟩], some (3, true)⟩
abbrev o253_ : Oper := ⟨some 94, .pick (.tmp 86) (.tmp 93) (.const (.bool false)), 4, "text.go:51", #[⟨3, .data⟩, ⟨10, .data⟩], none⟩
abbrev o254_ : Oper := ⟨some 7, .assign (.tmp 94), 4, "text.go:51", #[⟨11, .data⟩, ⟨9, .chain⟩, ⟨0, .phase⟩, ⟨1, .phase⟩, ⟨2, .phase⟩, ⟨3, .phase⟩, ⟨4, .phase⟩, ⟨5, .phase⟩, ⟨6, .phase⟩, ⟨7, .phase⟩, ⟨8, .phase⟩, ⟨9, .phase⟩, ⟨10, .phase⟩, ⟨11, .phase⟩], none⟩
abbrev o255_ : Oper := ⟨some 95, .fieldAddr 25 (.tmp 6) 0, 0, "text.go:52", #[], none⟩
abbrev o256_ : Oper := ⟨some 96, .load 22 (.tmp 95), 22, "text.go:52", #[⟨0, .data⟩], none⟩
abbrev o257_ : Oper := ⟨some 97, .binOp .eql 22 (.tmp 96) (.const (.int .i64 27)) 22, 4, "text.go:52", #[⟨1, .data⟩], none⟩
abbrev o258_ : Oper := ⟨some 98, .move (.tmp 97), 4, "text.go:52", #[⟨2, .data⟩], none⟩
abbrev o259_ : Oper := ⟨some 99, .fieldAddr 25 (.tmp 6) 1, 0, "text.go:52", #[⟨3, .guard⟩], some (3, true)⟩
abbrev o260_ : Oper := ⟨some 100, .load 9 (.tmp 99), 9, "text.go:52", #[⟨4, .data⟩, ⟨3, .guard⟩], some (3, true)⟩
abbrev o261_ : Oper := ⟨some 101, .call ⟨.value (.func 121), #[.tmp 100], #[9]⟩, 3, "text.go:52", #[⟨5, .data⟩, ⟨3, .chain⟩, ⟨3, .guard⟩], some (3, true)⟩
abbrev o262_ : Oper := ⟨some 102, .fieldAddr 25 (.tmp 1) 1, 0, "text.go:52", #[⟨3, .guard⟩], some (3, true)⟩
abbrev o263_ : Oper := ⟨some 103, .load 9 (.tmp 102), 9, "text.go:52", #[⟨7, .data⟩, ⟨3, .guard⟩], some (3, true)⟩
abbrev o264_ : Oper := ⟨some 104, .call ⟨.value (.func 121), #[.tmp 103], #[9]⟩, 3, "text.go:52", #[⟨8, .data⟩, ⟨6, .chain⟩, ⟨3, .guard⟩], some (3, true)⟩
abbrev o265_ : Oper := ⟨some 105, .binOp .leq 3 (.tmp 101) (.tmp 104) 3, 4, "text.go:52", #[⟨6, .data⟩, ⟨9, .data⟩, ⟨3, .guard⟩], some (3, true)⟩
abbrev o266_ : Oper := ⟨some 106, .pick (.tmp 98) (.tmp 105) (.const (.bool false)), 4, "text.go:52", #[⟨3, .data⟩, ⟨10, .data⟩], none⟩
abbrev o267_ : Oper := ⟨some 8, .assign (.tmp 106), 4, "text.go:52", #[⟨11, .data⟩, ⟨9, .chain⟩, ⟨0, .phase⟩, ⟨1, .phase⟩, ⟨2, .phase⟩, ⟨3, .phase⟩, ⟨4, .phase⟩, ⟨5, .phase⟩, ⟨6, .phase⟩, ⟨7, .phase⟩, ⟨8, .phase⟩, ⟨9, .phase⟩, ⟨10, .phase⟩, ⟨11, .phase⟩], none⟩
abbrev o268_ : Oper := ⟨some 107, .load 25 (.tmp 5), 25, "text.go:53", #[], none⟩
abbrev o269_ : Oper := ⟨some 108, .move (.tmp 7), 4, "text.go:53", #[], none⟩
abbrev o270_ : Oper := ⟨some 111, .fieldAddr 25 (.tmp 1) 1, 0, "text.go:53", #[], none⟩
abbrev o271_ : Oper := ⟨some 112, .load 9 (.tmp 111), 9, "text.go:53", #[⟨4, .data⟩], none⟩
abbrev o272_ : Oper := ⟨some 115, .load 25 (.tmp 6), 25, "text.go:53", #[], none⟩
abbrev o273_ : Oper := ⟨some 116, .move (.tmp 8), 4, "text.go:53", #[], none⟩
abbrev o274_ : Oper := ⟨some 109, .call ⟨.value (.func 120), #[.tmp 107, .tmp 108], #[25, 4]⟩, 9, "text.go:53", #[⟨0, .data⟩, ⟨1, .data⟩], none⟩
abbrev o275_ : Oper := ⟨some 110, .binOp .add 9 (.tmp 109) (.const (.string ⟨#[32]⟩)) 9, 9, "text.go:53", #[⟨2, .data⟩], none⟩
abbrev o276_ : Oper := ⟨some 113, .binOp .add 9 (.tmp 110) (.tmp 112) 9, 9, "text.go:53", #[⟨3, .data⟩, ⟨5, .data⟩], none⟩
abbrev o277_ : Oper := ⟨some 114, .binOp .add 9 (.tmp 113) (.const (.string ⟨#[32]⟩)) 9, 9, "text.go:53", #[⟨6, .data⟩], none⟩
abbrev o278_ : Oper := ⟨some 117, .call ⟨.value (.func 120), #[.tmp 115, .tmp 116], #[25, 4]⟩, 9, "text.go:53", #[⟨8, .data⟩, ⟨9, .data⟩, ⟨2, .chain⟩], none⟩
abbrev o279_ : Oper := ⟨some 118, .binOp .add 9 (.tmp 114) (.tmp 117) 9, 9, "text.go:53", #[⟨7, .data⟩, ⟨10, .data⟩], none⟩
abbrev o280_ : Oper := ⟨some 2, .assign (.tmp 118), 9, "text.go:53", #[⟨11, .data⟩, ⟨10, .chain⟩, ⟨0, .phase⟩, ⟨1, .phase⟩, ⟨2, .phase⟩, ⟨3, .phase⟩, ⟨4, .phase⟩, ⟨5, .phase⟩, ⟨6, .phase⟩, ⟨7, .phase⟩, ⟨8, .phase⟩, ⟨9, .phase⟩, ⟨10, .phase⟩, ⟨11, .phase⟩], none⟩
abbrev o281_ : Oper := ⟨some 154, .load 25 (.tmp 9), 25, "text.go:63", #[], none⟩
abbrev o282_ : Oper := ⟨some 155, .fieldAddr 25 (.tmp 9) 0, 0, "text.go:63", #[], none⟩
abbrev o283_ : Oper := ⟨some 156, .load 22 (.tmp 155), 22, "text.go:63", #[⟨1, .data⟩], none⟩
abbrev o284_ : Oper := ⟨some 157, .binOp .eql 22 (.tmp 156) (.const (.int .i64 27)) 22, 4, "text.go:63", #[⟨2, .data⟩], none⟩
abbrev o285_ : Oper := ⟨some 158, .move (.tmp 157), 4, "text.go:63", #[⟨3, .data⟩], none⟩
abbrev o286_ : Oper := ⟨some 159, .fieldAddr 25 (.tmp 9) 0, 0, "text.go:63", #[⟨4, .guard⟩], some (4, false)⟩
abbrev o287_ : Oper := ⟨some 160, .load 22 (.tmp 159), 22, "text.go:63", #[⟨5, .data⟩, ⟨4, .guard⟩], some (4, false)⟩
abbrev o288_ : Oper := ⟨some 161, .binOp .eql 22 (.tmp 160) (.const (.int .i64 26)) 22, 4, "text.go:63", #[⟨6, .data⟩, ⟨4, .guard⟩], some (4, false)⟩
abbrev o289_ : Oper := ⟨some 162, .pick (.tmp 158) (.const (.bool true)) (.tmp 161), 4, "text.go:63", #[⟨4, .data⟩, ⟨7, .data⟩], none⟩
abbrev o290_ : Oper := ⟨some 165, .fieldAddr 25 (.tmp 1) 1, 0, "text.go:63", #[], none⟩
abbrev o291_ : Oper := ⟨some 166, .load 9 (.tmp 165), 9, "text.go:63", #[⟨11, .data⟩], none⟩
abbrev o292_ : Oper := ⟨some 169, .fieldAddr 25 (.tmp 1) 7, 0, "text.go:63", #[], none⟩
abbrev o293_ : Oper := ⟨some 170, .load 23 (.tmp 169), 23, "text.go:63", #[⟨15, .data⟩], none⟩
abbrev o294_ : Oper := ⟨some 171, .slice 23 (.tmp 170) (some (.const (.int .i64 1))) none none, 23, "text.go:63", #[⟨16, .data⟩], none⟩
abbrev o295_ : Oper := ⟨some 163, .call ⟨.value (.func 120), #[.tmp 154, .tmp 162], #[25, 4]⟩, 9, "text.go:63", #[⟨0, .data⟩, ⟨8, .data⟩, ⟨4, .chain⟩], none⟩
abbrev o296_ : Oper := ⟨some 164, .binOp .add 9 (.tmp 163) (.const (.string ⟨#[46]⟩)) 9, 9, "text.go:63", #[⟨9, .data⟩], none⟩
abbrev o297_ : Oper := ⟨some 167, .binOp .add 9 (.tmp 164) (.tmp 166) 9, 9, "text.go:63", #[⟨10, .data⟩, ⟨12, .data⟩], none⟩
abbrev o298_ : Oper := ⟨some 168, .binOp .add 9 (.tmp 167) (.const (.string ⟨#[40]⟩)) 9, 9, "text.go:63", #[⟨13, .data⟩], none⟩
abbrev o299_ : Oper := ⟨some 172, .call ⟨.value (.func 122), #[.tmp 171], #[23]⟩, 9, "text.go:63", #[⟨17, .data⟩, ⟨9, .chain⟩], none⟩
abbrev o300_ : Oper := ⟨some 173, .binOp .add 9 (.tmp 168) (.tmp 172) 9, 9, "text.go:63", #[⟨14, .data⟩, ⟨18, .data⟩], none⟩
abbrev o301_ : Oper := ⟨some 174, .binOp .add 9 (.tmp 173) (.const (.string ⟨#[41]⟩)) 9, 9, "text.go:63", #[⟨19, .data⟩], none⟩
abbrev o302_ : Oper := ⟨some 2, .assign (.tmp 174), 9, "text.go:63", #[⟨20, .data⟩, ⟨18, .chain⟩, ⟨0, .phase⟩, ⟨1, .phase⟩, ⟨2, .phase⟩, ⟨3, .phase⟩, ⟨4, .phase⟩, ⟨5, .phase⟩, ⟨6, .phase⟩, ⟨7, .phase⟩, ⟨8, .phase⟩, ⟨9, .phase⟩, ⟨10, .phase⟩, ⟨11, .phase⟩, ⟨12, .phase⟩, ⟨13, .phase⟩, ⟨14, .phase⟩, ⟨15, .phase⟩, ⟨16, .phase⟩, ⟨17, .phase⟩, ⟨18, .phase⟩, ⟨19, .phase⟩, ⟨20, .phase⟩], none⟩
abbrev o303_ : Oper := ⟨some 10, .fieldAddr 25 (.tmp 1) 2, 0, "ref.go:236", #[], none⟩
abbrev o304_ : Oper := ⟨some 11, .load 2 (.tmp 10), 2, "ref.go:236", #[⟨0, .data⟩], none⟩
abbrev o305_ : Oper := ⟨some 12, .binOp .lss 2 (.tmp 11) (.const (.int .i64 0)) 2, 4, "ref.go:236", #[⟨1, .data⟩], none⟩
abbrev o306_ : Oper := ⟨some 13, .move (.tmp 12), 4, "ref.go:236", #[⟨2, .data⟩], none⟩
abbrev o307_ : Oper := ⟨some 14, .fieldAddr 25 (.tmp 1) 2, 0, "ref.go:236", #[⟨3, .guard⟩], some (3, false)⟩
abbrev o308_ : Oper := ⟨some 15, .load 2 (.tmp 14), 2, "ref.go:236", #[⟨4, .data⟩, ⟨3, .guard⟩], some (3, false)⟩
abbrev o309_ : Oper := ⟨some 16, .binOp .gtr 2 (.tmp 15) (.const (.int .i64 3)) 2, 4, "ref.go:236", #[⟨5, .data⟩, ⟨3, .guard⟩], some (3, false)⟩
abbrev o310_ : Oper := ⟨some 17, .pick (.tmp 13) (.const (.bool true)) (.tmp 16), 4, "ref.go:236", #[⟨3, .data⟩, ⟨6, .data⟩], none⟩
abbrev o311_ : Oper := ⟨some 18, .move (.tmp 17), 4, "ref.go:236", #[⟨7, .data⟩, ⟨3, .chain⟩], none⟩
abbrev o312_ : Oper := ⟨some 19, .fieldAddr 25 (.tmp 1) 7, 0, "ref.go:236", #[⟨8, .guard⟩], some (8, false)⟩
abbrev o313_ : Oper := ⟨some 20, .load 23 (.tmp 19), 23, "ref.go:236", #[⟨9, .data⟩, ⟨8, .guard⟩], some (8, false)⟩
abbrev o314_ : Oper := ⟨some 21, .call ⟨.builtin Builtin.len, #[.tmp 20], #[23]⟩, 3, "ref.go:236", #[⟨10, .data⟩, ⟨8, .guard⟩], some (8, false)⟩
abbrev o315_ : Oper := ⟨some 22, .buildSlice 100 4 #[(0, .const (.int .i64 1)), (1, .const (.int .i64 2)), (2, .const (.int .i64 4)), (3, .const (.int .i64 3))], 100, "ref.go:236", #[⟨8, .guard⟩], some (8, false)⟩
abbrev o316_ : Oper := ⟨some 23, .fieldAddr 25 (.tmp 1) 2, 0, "ref.go:236", #[⟨8, .guard⟩], some (8, false)⟩
abbrev o317_ : Oper := ⟨some 24, .load 2 (.tmp 23), 2, "ref.go:236", #[⟨13, .data⟩, ⟨8, .guard⟩], some (8, false)⟩
abbrev o318_ : Oper := ⟨some 25, .indexAddr 100 (.tmp 22) (.tmp 24), 0, "ref.go:236", #[⟨12, .data⟩, ⟨14, .data⟩, ⟨8, .guard⟩], some (8, false)⟩
abbrev o319_ : Oper := ⟨some 26, .load 3 (.tmp 25), 3, "ref.go:236", #[⟨15, .data⟩, ⟨8, .guard⟩], some (8, false)⟩
abbrev o320_ : Oper := ⟨some 27, .binOp .neq 3 (.tmp 21) (.tmp 26) 3, 4, "ref.go:236", #[⟨11, .data⟩, ⟨16, .data⟩, ⟨8, .guard⟩], some (8, false)⟩
abbrev o321_ : Oper := ⟨some 28, .pick (.tmp 18) (.const (.bool true)) (.tmp 27), 4, "ref.go:236", #[⟨8, .data⟩, ⟨17, .data⟩], none⟩
abbrev o322_ : Oper := ⟨some 29, .move (.tmp 28), 4, "ref.go:236", #[⟨18, .data⟩, ⟨8, .chain⟩], none⟩
abbrev o323_ : Oper := ⟨some 30, .load 25 (.tmp 1), 25, "ref.go:236", #[⟨19, .guard⟩], some (19, false)⟩
abbrev o324_ : Oper := ⟨some 31, .fieldAddr 25 (.tmp 1) 2, 0, "ref.go:236", #[⟨19, .guard⟩], some (19, false)⟩
abbrev o325_ : Oper := ⟨some 32, .load 2 (.tmp 31), 2, "ref.go:236", #[⟨21, .data⟩, ⟨19, .guard⟩], some (19, false)⟩
abbrev o326_ : Oper := ⟨some 33, .binOp .eql 2 (.tmp 32) (.const (.int .i64 3)) 2, 4, "ref.go:236", #[⟨22, .data⟩, ⟨19, .guard⟩], some (19, false)⟩
abbrev o327_ : Oper := ⟨some 34, .call ⟨.value (.func 23), #[.tmp 30, .tmp 33, .const (.bool false), .const (.bool true)], #[25, 4, 4, 4]⟩, 4, "ref.go:236", #[⟨20, .data⟩, ⟨23, .data⟩, ⟨19, .chain⟩, ⟨19, .guard⟩], some (19, false)⟩
abbrev o328_ : Oper := ⟨some 35, .unOp .not 4 (.tmp 34), 4, "ref.go:236", #[⟨24, .data⟩, ⟨19, .guard⟩], some (19, false)⟩
abbrev o329_ : Oper := ⟨some 36, .pick (.tmp 29) (.const (.bool true)) (.tmp 35), 4, "ref.go:236", #[⟨19, .data⟩, ⟨25, .data⟩], none⟩
abbrev o330_ : Oper := ⟨some 46, .move (.tmp 5), 9, "text.go:208", #[], none⟩
abbrev o331_ : Oper := ⟨some 47, .fieldAddr 25 (.tmp 7) 7, 0, "text.go:208", #[], none⟩
abbrev o332_ : Oper := ⟨some 48, .load 23 (.tmp 47), 23, "text.go:208", #[⟨1, .data⟩], none⟩
abbrev o333_ : Oper := ⟨some 49, .move (.tmp 9), 3, "text.go:208", #[], none⟩
abbrev o334_ : Oper := ⟨some 50, .indexAddr 23 (.tmp 48) (.tmp 49), 0, "text.go:208", #[⟨2, .data⟩, ⟨3, .data⟩], none⟩
abbrev o335_ : Oper := ⟨some 51, .fieldAddr 25 (.tmp 50) 1, 0, "text.go:208", #[⟨4, .data⟩], none⟩
abbrev o336_ : Oper := ⟨some 52, .load 9 (.tmp 51), 9, "text.go:208", #[⟨5, .data⟩], none⟩
abbrev o337_ : Oper := ⟨some 53, .binOp .add 9 (.tmp 46) (.tmp 52) 9, 9, "text.go:208", #[⟨0, .data⟩, ⟨6, .data⟩], none⟩
abbrev o338_ : Oper := ⟨some 54, .binOp .add 9 (.tmp 53) (.const (.string ⟨#[32]⟩)) 9, 9, "text.go:208", #[⟨7, .data⟩], none⟩
abbrev o339_ : Oper := ⟨some 55, .fieldAddr 25 (.tmp 7) 7, 0, "text.go:208", #[], none⟩
abbrev o340_ : Oper := ⟨some 56, .load 23 (.tmp 55), 23, "text.go:208", #[⟨9, .data⟩], none⟩
abbrev o341_ : Oper := ⟨some 57, .move (.tmp 9), 3, "text.go:208", #[], none⟩
abbrev o342_ : Oper := ⟨some 58, .indexAddr 23 (.tmp 56) (.tmp 57), 0, "text.go:208", #[⟨10, .data⟩, ⟨11, .data⟩], none⟩
abbrev o343_ : Oper := ⟨some 59, .fieldAddr 25 (.tmp 58) 3, 0, "text.go:208", #[⟨12, .data⟩], none⟩
abbrev o344_ : Oper := ⟨some 60, .load 9 (.tmp 59), 9, "text.go:208", #[⟨13, .data⟩], none⟩
abbrev o345_ : Oper := ⟨some 61, .binOp .add 9 (.tmp 54) (.tmp 60) 9, 9, "text.go:208", #[⟨8, .data⟩, ⟨14, .data⟩], none⟩
abbrev o346_ : Oper := ⟨some 5, .assign (.tmp 61), 9, "text.go:208", #[⟨15, .data⟩, ⟨0, .phase⟩, ⟨1, .phase⟩, ⟨2, .phase⟩, ⟨3, .phase⟩, ⟨4, .phase⟩, ⟨5, .phase⟩, ⟨6, .phase⟩, ⟨7, .phase⟩, ⟨8, .phase⟩, ⟨9, .phase⟩, ⟨10, .phase⟩, ⟨11, .phase⟩, ⟨12, .phase⟩, ⟨13, .phase⟩, ⟨14, .phase⟩, ⟨15, .phase⟩], none⟩
abbrev o347_ : Oper := ⟨some 20, .move (.tmp 0), 67, "tree.go:104", #[], none⟩
abbrev o348_ : Oper := ⟨some 21, .nilCheck (.tmp 20), 0, "tree.go:104", #[⟨0, .data⟩], none⟩
abbrev o349_ : Oper := ⟨some 22, .fieldAddr 49 (.tmp 21) 1, 0, "tree.go:104", #[⟨1, .data⟩], none⟩
abbrev o350_ : Oper := ⟨some 23, .load 47 (.tmp 22), 47, "tree.go:104", #[⟨2, .data⟩], none⟩
abbrev o351_ : Oper := ⟨some 24, .move (.tmp 1), 23, "tree.go:104", #[], none⟩
abbrev o352_ : Oper := ⟨some 25, .call ⟨.value (.func 29), #[.tmp 24], #[23]⟩, 59, "tree.go:104", #[⟨4, .data⟩], none⟩
abbrev o353_ : Oper := ⟨some 26, .lookup 47 (.tmp 23) (.tmp 25) true, 50, "tree.go:104", #[⟨3, .data⟩, ⟨5, .data⟩], none⟩
abbrev o354_ : Oper := ⟨some 19, .move (.tmp 26), 50, "tree.go:104", #[⟨6, .data⟩], none⟩
abbrev o355_ : Oper := ⟨some 27, .extract (.tmp 19) 0, 3, "tree.go:104", #[⟨7, .data⟩], none⟩
abbrev o356_ : Oper := ⟨some 28, .extract (.tmp 19) 1, 4, "tree.go:104", #[⟨7, .data⟩, { on := 10, ground := Ground.gcOnly Departure.lateStores }], none⟩
abbrev o357_ : Oper := ⟨some 5, .assign (.tmp 27), 3, "tree.go:104", #[⟨8, .data⟩, ⟨5, .chain⟩, ⟨0, .phase⟩, ⟨1, .phase⟩, ⟨2, .phase⟩, ⟨3, .phase⟩, ⟨4, .phase⟩, ⟨5, .phase⟩, ⟨6, .phase⟩, ⟨7, .phase⟩, ⟨8, .phase⟩, { on := 9, ground := Ground.textOnly Departure.lateStores }], none⟩
abbrev o358_ : Oper := ⟨some 6, .assign (.tmp 28), 4, "tree.go:104", #[⟨9, .data⟩, ⟨10, .chain⟩, ⟨0, .phase⟩, ⟨1, .phase⟩, ⟨2, .phase⟩, ⟨3, .phase⟩, ⟨4, .phase⟩, ⟨5, .phase⟩, ⟨6, .phase⟩, ⟨7, .phase⟩, ⟨8, .phase⟩, ⟨9, .phase⟩, ⟨10, .phase⟩], none⟩
abbrev o359_ : Oper := ⟨some 33, .move (.tmp 0), 67, "tree.go:107", #[], none⟩
abbrev o360_ : Oper := ⟨some 34, .nilCheck (.tmp 33), 0, "tree.go:107", #[⟨0, .data⟩], none⟩
abbrev o361_ : Oper := ⟨some 35, .fieldAddr 49 (.tmp 34) 1, 0, "tree.go:107", #[⟨1, .data⟩], none⟩
abbrev o362_ : Oper := ⟨some 36, .load 47 (.tmp 35), 47, "tree.go:107", #[⟨2, .data⟩], none⟩
abbrev o363_ : Oper := ⟨some 37, .move (.tmp 1), 23, "tree.go:107", #[], none⟩
abbrev o364_ : Oper := ⟨some 38, .call ⟨.value (.func 29), #[.tmp 37], #[23]⟩, 59, "tree.go:107", #[⟨4, .data⟩], none⟩
abbrev o365_ : Oper := ⟨none, .mapUpdate 47 (.tmp 36) (.tmp 38) (.const (.int .i64 9223372036854775807)), 0, "tree.go:107", #[⟨3, .data⟩, ⟨5, .data⟩, ⟨5, .chain⟩, ⟨0, .phase⟩, ⟨1, .phase⟩, ⟨2, .phase⟩, ⟨3, .phase⟩, ⟨4, .phase⟩, ⟨5, .phase⟩], none⟩
abbrev o366_ : Oper := ⟨some 66, .move (.tmp 0), 67, "tree.go:115", #[], none⟩
abbrev o367_ : Oper := ⟨some 67, .nilCheck (.tmp 66), 0, "tree.go:115", #[⟨0, .data⟩], none⟩
abbrev o368_ : Oper := ⟨some 68, .fieldAddr 49 (.tmp 67) 1, 0, "tree.go:115", #[⟨1, .data⟩], none⟩
abbrev o369_ : Oper := ⟨some 69, .load 47 (.tmp 68), 47, "tree.go:115", #[⟨2, .data⟩], none⟩
abbrev o370_ : Oper := ⟨some 70, .move (.tmp 1), 23, "tree.go:115", #[], none⟩
abbrev o371_ : Oper := ⟨some 72, .move (.tmp 7), 3, "tree.go:115", #[], none⟩
abbrev o372_ : Oper := ⟨some 73, .move (.tmp 0), 67, "tree.go:115", #[], none⟩
abbrev o373_ : Oper := ⟨some 74, .nilCheck (.tmp 73), 0, "tree.go:115", #[⟨7, .data⟩], none⟩
abbrev o374_ : Oper := ⟨some 75, .fieldAddr 49 (.tmp 74) 0, 0, "tree.go:115", #[⟨8, .data⟩], none⟩
abbrev o375_ : Oper := ⟨some 76, .load 3 (.tmp 75), 3, "tree.go:115", #[⟨9, .data⟩], none⟩
abbrev o376_ : Oper := ⟨some 77, .binOp .sub 3 (.tmp 72) (.tmp 76) 3, 3, "tree.go:115", #[⟨6, .data⟩, ⟨10, .data⟩], none⟩
abbrev o377_ : Oper := ⟨some 71, .call ⟨.value (.func 29), #[.tmp 70], #[23]⟩, 59, "tree.go:115", #[⟨4, .data⟩], none⟩
abbrev o378_ : Oper := ⟨none, .mapUpdate 47 (.tmp 69) (.tmp 71) (.tmp 77), 0, "tree.go:115", #[⟨3, .data⟩, ⟨5, .data⟩, ⟨11, .data⟩, ⟨5, .chain⟩, ⟨0, .phase⟩, ⟨1, .phase⟩, ⟨2, .phase⟩, ⟨3, .phase⟩, ⟨4, .phase⟩, ⟨5, .phase⟩, ⟨6, .phase⟩, ⟨7, .phase⟩, ⟨8, .phase⟩, ⟨9, .phase⟩, ⟨10, .phase⟩, ⟨11, .phase⟩], none⟩
end
section
open Go.RowKit
variable {b : Bool} {s : ByteArray}
theorem zz {p : Prop} (h : p) : Hid p := h
theorem unhide {p : Prop} (h : Hid p) : p := h.out
theorem bt2 {u w w' : World} (h : Hid (Below u.heap.size u w)) (b : Below w.heap.size w w') : Hid (Below u.heap.size u w') := zz (h.out.trans (b.mono h.out.size))
theorem zb {a : Bool} (h : a = b) : Ending.returned (.bool a) = .returned (.bool b) := by rw [h]
theorem ret_int {k : IntKind} {a b : Int} (h : a = b) : Ending.returned (.int k a) = .returned (.int k b) := by rw [h]
theorem below_drewN (w : World) (n : Nat) : Below w.heap.size w (w.drewN n) := ⟨rfl, rfl, rfl, Nat.le_refl _, fun _ _ => rfl⟩
def bt (s : ByteArray) (k : Nat) : Nat := (s.data.toList.getD k 0).toNat
theorem bt_at (s : ByteArray) (k : Nat) (h : k < s.size) : s[k].toNat = bt s k := by
 unfold bt
 have h' : k < s.data.size := h
 rw [List.getD_eq_getElem?_getD, Array.getElem?_toList, Array.getElem?_eq_getElem h']
 rfl
theorem bytes_beq (a b : ByteArray) : (a.toList == b.toList) = decide (a = b) := by
 rw [Bool.eq_iff_iff, beq_iff_eq, decide_eq_true_eq, ByteArray.toList_eq, ByteArray.toList_eq]
 exact ⟨WideShapes.bytes_inj, fun h => by rw [h]⟩
theorem empty_of (h : s.size = 0) : s = ⟨#[]⟩ := by
 have : s.data = #[] := Array.eq_empty_of_size_eq_zero h
 cases s; simp at this; rw [this]
theorem ne_empty (h : 0 < s.size) : ¬ s.toList = [] := by
 rw [ByteArray.toList_eq]
 intro e
 have : s.data.size = 0 := by rw [<- Array.length_toList, e]; rfl
 have h' : 0 < s.data.size := h
 omega
def by_ (s : ByteArray) (k : Nat) : UInt8 := s.data.toList.getD k 0
theorem by_at (s : ByteArray) (k : Nat) (h : k < s.size) : s[k].toNat = (by_ s k).toNat := bt_at s k h
theorem drop_by (s : ByteArray) (k : Nat) (h : k < s.size) : s.data.toList.drop k = by_ s k :: s.data.toList.drop (k + 1) := by
 have h' : k < s.data.toList.length := by rw [Array.length_toList]; exact h
 rw [List.drop_eq_getElem_cons h']
 unfold by_
 rw [List.getD_eq_getElem?_getD, List.getElem?_eq_getElem h']
 rfl
theorem take_by (s : ByteArray) (k : Nat) (h : k < s.size) : s.data.toList.take (k + 1) = s.data.toList.take k ++ [by_ s k] := by
 have h' : k < s.data.toList.length := by rw [Array.length_toList]; exact h
 rw [List.take_succ_eq_append_getElem h']
 unfold by_
 rw [List.getD_eq_getElem?_getD, List.getElem?_eq_getElem h']
 rfl
theorem ext_size (s : ByteArray) (k : Nat) (h : k <= s.size) : (s.extract k s.size).size = s.size - k := by rw [ByteArray.size_extract]; omega
theorem ext_list (s : ByteArray) (k : Nat) : (s.extract k s.size).data.toList = s.data.toList.drop k := by
 rw [ByteArray.data_extract, Array.toList_extract, List.extract_eq_take_drop, List.take_of_length_le]
 rw [List.length_drop, Array.length_toList]
 exact Nat.le_refl _
end
section
open Go.RowKit
variable {B : Nat} {s : ByteArray} {w w' : World}
def wl : List ByteArray := [⟨#[77, 117, 116, 101, 120]⟩, ⟨#[87, 97, 105, 116, 71, 114, 111, 117, 112]⟩, ⟨#[98, 111, 111, 108]⟩, ⟨#[98, 114, 101, 97, 107]⟩, ⟨#[99, 97, 112]⟩, ⟨#[99, 97, 115, 101]⟩,
 ⟨#[99, 104, 97, 110]⟩, ⟨#[99, 108, 111, 115, 101]⟩, ⟨#[99, 111, 110, 116, 105, 110, 117, 101]⟩, ⟨#[100, 101, 102, 97, 117, 108, 116]⟩, ⟨#[101, 108, 115, 101]⟩, ⟨#[102, 97, 108, 115, 101]⟩, ⟨#[102, 111, 114]⟩,
 ⟨#[102, 117, 110, 99]⟩, ⟨#[103, 111]⟩, ⟨#[105, 102]⟩, ⟨#[105, 110, 116]⟩, ⟨#[108, 101, 110]⟩, ⟨#[109, 97, 107, 101]⟩, ⟨#[110, 105, 108]⟩, ⟨#[112, 114, 105, 110, 116, 108, 110]⟩, ⟨#[114, 97, 110, 103, 101]⟩,
 ⟨#[114, 101, 116, 117, 114, 110]⟩, ⟨#[115, 101, 108, 101, 99, 116]⟩, ⟨#[115, 119, 105, 116, 99, 104]⟩, ⟨#[116, 114, 117, 101]⟩, ⟨#[118, 97, 114]⟩, ⟨#[121, 105, 101, 108, 100]⟩]
def wd (k : Nat) : ByteArray := wl.getD k ByteArray.empty
def wcells : Array Value := (wl.map Value.string).toArray
def isWord (s : ByteArray) : Bool := wl.any fun x => decide (s = x)
theorem wl_len : wl.length = 28 := rfl
theorem isWord_hit {k : Nat} (hk : k < 28) (h : s = wd k) : isWord s = true := by
 unfold isWord
 rw [List.any_eq_true]
 refine ⟨wd k, ?_, decide_eq_true h⟩
 unfold wd
 rw [List.getD_eq_getElem?_getD, List.getElem?_eq_getElem (by rw [wl_len]; exact hk)]
 exact List.getElem_mem _
theorem isWord_none (h : ∀ j, j < 28 -> s ≠ wd j) : isWord s = false := by
 unfold isWord
 rw [List.any_eq_false]
 intro x hx
 obtain ⟨j, hj, rfl⟩ := List.getElem_of_mem hx
 have := h j (by rw [wl_len] at hj; exact hj)
 unfold wd at this
 rw [List.getD_eq_getElem?_getD, List.getElem?_eq_getElem hj] at this
 simpa using this
structure WordsAt (w : World) (B : Nat) : Prop where
 cell : ∀ j, j < 28 -> w.cell? ⟨B, j, none⟩ = some (.string (wd j))
theorem wcells_at (j : Nat) (h : j < 28) : wcells[j]? = some (.string (wd j)) := by
 unfold wcells wd
 rw [List.getElem?_toArray, List.getElem?_map, List.getD_eq_getElem?_getD, List.getElem?_eq_getElem (by rw [wl_len]; exact h)]
 rfl
theorem wordsAt_new (w : World) (t : TypeId) : WordsAt (w.alloc (.cells wcells t)) w.heap.size :=
 ⟨fun j hj => by rw [World.cell?_alloc_new]; exact wcells_at j hj⟩
theorem WordsAt.below (h : WordsAt w B) (hB : B < w.heap.size) (hb : Below w.heap.size w w') : WordsAt w' B :=
 ⟨fun j hj => by
  have := h.cell j hj
  have e := hb.block B hB
  unfold World.cell? at this |-
  simp only [e]
  exact this⟩
theorem words_any (w : World) :
 Calls Tryz.prog 107 #[] w fun e w' => e = .returned (.slice (some ⟨w.heap.size, 0, none⟩) 28 28) /\ w' = w.alloc (.cells wcells 9) := by
 go_enter Tryz.func107, Tryz.ntmps107
 go_wp2
 go_ret
 exact ⟨rfl, rfl⟩
theorem refwords_any (w : World) :
 Calls Tryz.prog 123 #[] w fun e w' => e = .returned (.slice (some ⟨w.heap.size, 0, none⟩) 28 28) /\ w' = w.alloc (.cells wcells 9) := by
 go_enter Tryz.func123, Tryz.ntmps123
 go_wp2
 go_ret
 exact ⟨rfl, rfl⟩
theorem index_any (s : ByteArray) (h : WordsAt w B) :
 Calls Tryz.prog 131 #[.slice (some ⟨B, 0, none⟩) 28 28, .string s] w fun e w' =>
  (∃ i : Int, e = .returned (.int .i64 i) /\ decide (0 <= i) = isWord s) /\ w' = w := by
 have HC := zz h
 clear h
 go_enter Tryz.func131, Tryz.ntmps131
 go_wp2
 go_loop [8] (fun i => ∃ k : Nat, k <= 28 /\ i = .int .i64 k /\ ∀ j, j < k -> s ≠ wd j) (fun i => 28 - (intOf i).toNat)
 case atStart => exact ⟨0, by omega, rfl, fun j hj => by omega⟩
 case round =>
  obtain ⟨k, hk, rfl, hno⟩ := hrel
  by_cases hlt : k < 28
  ·have hc := HC.out.cell k hlt
   have hq := bytes_beq s (wd k)
   by_cases e : s = wd k
   ·rw [decide_eq_true e] at hq
    have E := zz (isWord_hit hlt e)
    clear hno e
    go_wp2
    go_ret
    exact ⟨⟨k, rfl, by rw [E.out]; exact decide_eq_true (Int.natCast_nonneg k)⟩, rfl⟩
   ·rw [decide_eq_false e] at hq
    have HN := zz (show ∀ j, j < k + 1 -> s ≠ wd j from fun j hj => if h : j = k then h ▸ e else hno j (by omega))
    clear hno e
    go_wp2
    go_round
    case rel => exact ⟨k + 1, by omega, by go_num, HN.out⟩
    case measure => simp [intOf]; omega
  ·have e : k = 28 := by omega
   subst e
   have E := zz (isWord_none hno)
   clear hno
   go_wp2
   go_ret
   exact ⟨⟨-1, rfl, by rw [E.out]; rfl⟩, rfl⟩
theorem contains_any (s : ByteArray) (h : WordsAt w B) :
 Calls Tryz.prog 106 #[.slice (some ⟨B, 0, none⟩) 28 28, .string s] w fun e w' => e = .returned (.bool (isWord s)) /\ w' = w := by
 have HC := zz h
 clear h
 go_enter Tryz.func106, Tryz.ntmps106
 go_wp2_with fail
 refine (index_any s HC.out).mono ?_
 rintro e w' ⟨⟨i, rfl, hi⟩, rfl⟩
 have HI := zz hi
 clear hi
 go_wp2
 go_ret
 exact ⟨zb HI.out, rfl⟩
theorem word_any (s : ByteArray) (w : World) :
 Calls Tryz.prog 79 #[.string s] w fun e w' => e = .returned (.bool (isWord s)) /\ Below w.heap.size w w' := by
 go_enter Tryz.func79, Tryz.ntmps79
 go_wp2_with fail
 refine (words_any w).mono ?_
 rintro e w' ⟨rfl, rfl⟩
 have HA := zz (wordsAt_new w 9)
 have HB := zz ((Below.refl w.heap.size w).alloc (Nat.le_refl _) (.cells wcells 9))
 generalize w.alloc (.cells wcells 9) = w1 at *
 go_wp2_with fail
 refine (contains_any s HA.out).mono ?_
 rintro e w' ⟨rfl, rfl⟩
 go_wp2
 go_ret
 exact ⟨rfl, HB.out⟩
theorem refword_any (s : ByteArray) (w : World) :
 Calls Tryz.prog 98 #[.string s] w fun e w' => e = .returned (.bool (isWord s)) /\ Below w.heap.size w w' := by
 go_enter Tryz.func98, Tryz.ntmps98
 go_wp2_with fail
 refine (refwords_any w).mono ?_
 rintro e w' ⟨rfl, rfl⟩
 have HA := zz (wordsAt_new w 9)
 have HB := zz ((Below.refl w.heap.size w).alloc (Nat.le_refl _) (.cells wcells 9))
 generalize w.alloc (.cells wcells 9) = w1 at *
 go_wp2
 go_loop [4] (fun i => ∃ k : Nat, k <= 28 /\ i = .int .i64 k /\ ∀ j, j < k -> s ≠ wd j) (fun i => 28 - (intOf i).toNat)
 case atStart => exact ⟨0, by omega, rfl, fun j hj => by omega⟩
 case round =>
  obtain ⟨k, hk, rfl, hno⟩ := hrel
  by_cases hlt : k < 28
  ·have hc := HA.out.cell k hlt
   have hq := bytes_beq (wd k) s
   by_cases e : s = wd k
   ·rw [decide_eq_true e.symm] at hq
    have E := zz (isWord_hit hlt e)
    clear hno e
    go_wp2
    go_ret
    exact ⟨zb E.out.symm, HB.out⟩
   ·rw [decide_eq_false (fun h => e h.symm)] at hq
    have HN := zz (show ∀ j, j < k + 1 -> s ≠ wd j from fun j hj => if h : j = k then h ▸ e else hno j (by omega))
    clear hno e
    go_wp2
    go_round
    case rel => exact ⟨k + 1, by omega, by go_num, HN.out⟩
    case measure => simp [intOf]; omega
  ·have e : k = 28 := by omega
   subst e
   have E := zz (isWord_none hno)
   clear hno
   go_wp2
   go_ret
   exact ⟨zb E.out.symm, HB.out⟩
end
section
open Go.Lib
def dval (acc : Nat) (l : List UInt8) : Nat := l.foldl (fun a c => a * 10 + (c.toNat - 48)) acc
theorem toNat_digit (x : Nat) (h : x < 10) : (UInt8.ofNat (48 + x)).toNat = 48 + x := by
 exact UInt8.toNat_ofNat_of_lt (by show 48 + x < 256; omega)
theorem dec_zero : decDigits 0 = [48] := by rw [decDigits, dif_pos (by decide)]; rfl
end
end Go.Proofs.YtmdhjiammcpogaaGreatDoor
