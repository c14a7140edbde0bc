/- The program's Join: a sign as it is written. -/
import Derived.Test.YtkbgnbcphmkjkaaDoorPw
namespace Go.Proofs.YtkbgnbcphmkjkaaDoor
open Go.RowKit

theorem strs_newC {w w2 : World} {C : Nat} {t : TypeId} {xs : List (List UInt8)} (e : w2 = w.alloc (.cells (strCs xs) t)) (hC : w.heap.size = C) : StrsAt w2 C xs := by
  subst hC
  subst e
  exact strsAt_new w t xs

theorem scontains_is {s : ByteArray} {B n : Nat} {w : World} {xs : List (List UInt8)} {c : Bool} (h : StrsAt w B xs) (hn : xs.length = n) (hm : n ≤ 1000) (hc : has xs s.data.toList = c) :
    Calls Tryd.prog 20 #[.slice (some ⟨B, 0, none⟩) n n, .string s] w fun e w' => e = .returned (.bool c) ∧ w' = w := hc ▸ scontains_any s h hn hm

theorem signkind_is {s : ByteArray} {z : Int} (h : sgk s.data.toList = z) (w : World) :
    Calls Tryd.prog 21 #[.string s] w fun e w' => e = .returned (.int .i64 z) ∧ w' = w := h ▸ signkind_any s w

end Go.Proofs.YtkbgnbcphmkjkaaDoor
