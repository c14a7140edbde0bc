/- Layer 11: the document's book, in memory. -/
import Derived.Test.YtoabhmpakcgloaaWm
import Derived.Test.YtoabhmpakcgloaaFr
namespace Go.Proofs.Ytoabhmpakcgloaa
open Go.RowKit

def rcF (r : Rc) : List Value := [.int .u32 r.ms, .int .u32 r.mg, .int .u32 r.ws, .int .u32 r.wg, .int .u32 r.rs, .int .u32 r.rg, .int .i64 r.rd, .int .i64 r.ar, .int .i64 r.vn, .int .u32 r.vs, .int .u32 r.vg]
theorem rcF_len (r : Rc) : (rcF r).length = 11 := rfl
def ovF (b : Bool) : List Value := [.int .i64 (if b then 1 else 0)]
theorem ovF_len (b : Bool) : (ovF b).length = 1 := rfl
abbrev RcRow (w : World) (B : Nat) (v : Value) (l : List Rc) : Prop := Row rcF 11 114 w B v l
abbrev OvRow (w : World) (B : Nat) (v : Value) (l : List Bool) : Prop := Row ovF 1 3 w B v l
abbrev hvW (s g : Int) : Value := .agg #[.int .u32 s, .int .u32 g]
abbrev rvW (s g d : Int) : Value := .agg #[.int .u32 s, .int .u32 g, .int .i64 d]
abbrev rcV (r : Rc) : Value := .agg #[.int .u32 r.ms, .int .u32 r.mg, .int .u32 r.ws, .int .u32 r.wg, .int .u32 r.rs, .int .u32 r.rg, .int .i64 r.rd, .int .i64 r.ar, .int .i64 r.vn, .int .u32 r.vs, .int .u32 r.vg]

end Go.Proofs.Ytoabhmpakcgloaa
