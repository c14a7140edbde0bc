import Derived.Lib.ItoaNum
import Derived.Lib.BufferWrite
import Derived.Shelf.Strings.Builder1
import Derived.Test.YtmdhjiammcpogaaGreatDoorQ10
namespace Go.Proofs.YtmdhjiammcpogaaGreatDoor
set_option maxRecDepth 100000
set_option maxHeartbeats 16000000
section
def esc (c : UInt8) : List UInt8 :=
 if c.toNat = 92 then [92, c] else if c.toNat = 34 then [92, c] else if c.toNat = 10 then [92, 110] else if c.toNat = 9 then [92, 116] else [c]
def escs : List UInt8 -> List UInt8
 | [] => []
 | c :: r => esc c ++ escs r
def quo (l : List UInt8) : List UInt8 := 34 :: (escs l ++ [34])
theorem escs_append (a b : List UInt8) : escs (a ++ b) = escs a ++ escs b := by
 induction a with
 | nil => rfl
 | cons c r ih => simp [escs, ih]
theorem esc_len (c : UInt8) : (esc c).length <= 2 := by
 unfold esc
 split
 ·simp
 ·split
  ·simp
  ·split
   ·simp
   ·split <;> simp
theorem escs_len (l : List UInt8) : (escs l).length <= 2 * l.length := by
 induction l with
 | nil => simp [escs]
 | cons c r ih => have := esc_len c; simp [escs]; omega
theorem quo_len (l : List UInt8) : (quo l).length <= 2 * l.length + 2 := by
 have := escs_len l
 simp [quo]; omega
end
section
open Go.RowKit
variable {a t : Tr} {f : Nd} {ks r : List Tr}
abbrev bs (s : ByteArray) : List UInt8 := s.data.toList
def cm : List (List UInt8) -> List UInt8
 | [] => []
 | x :: r => x ++ (r.map ([44, 32] ++ ·)).flatten
theorem cm_snoc (l : List (List UInt8)) (y : List UInt8) : cm (l ++ [y]) = cm l ++ (if l.length = 0 then [] else [44, 32]) ++ y := by
 cases l with
 | nil => simp [cm]
 | cons x r => simp [cm]
theorem cm_take {l : List (List UInt8)} {k : Nat} (h : k < l.length) : cm (l.take (k + 1)) = cm (l.take k) ++ (if k = 0 then [] else [44, 32]) ++ l[k] := by
 rw [List.take_succ_eq_append_getElem h, cm_snoc, List.length_take, Nat.min_eq_left (by omega)]
theorem cm_le : ∀ (l : List (List UInt8)) (k : Nat), (cm (l.take k)).length <= (cm l).length
 | [], k => by simp
 | x :: r, 0 => by simp [cm]
 | x :: r, k + 1 => by
  have h1 : r = r.take k ++ r.drop k := (List.take_append_drop _ _).symm
  have h2 : ((r.map ([44, 32] ++ ·)).flatten).length = (((r.take k).map ([44, 32] ++ ·)).flatten).length + (((r.drop k).map ([44, 32] ++ ·)).flatten).length := by
   rw [<- List.length_append, <- List.flatten_append, <- List.map_append, List.take_append_drop]
  simp only [List.take_succ_cons, cm, List.length_append, h2]
  omega
def brk (b : Bool) (x : List UInt8) : List UInt8 := if b = true then [40] ++ x ++ [41] else x
def tbs (d : Nat) : List UInt8 := List.replicate d 9
def sgn (f : Nd) : Bool := f.k == 26 && (decide (bs f.t = [43]) || decide (bs f.t = [45]))
def unB (f g : Nd) : Bool := g.k == 27 || (sgn f && sgn g)
def leB (f g : Nd) : Bool := g.k == 27 && decide (bnd (bs g.t) < bnd (bs f.t))
def riB (f g : Nd) : Bool := g.k == 27 && decide (bnd (bs g.t) <= bnd (bs f.t))
def meB (g : Nd) : Bool := g.k == 26 || g.k == 27
abbrev Tx : Type := Nat -> Bool -> List UInt8
def ex (xs : List Tx) (i : Nat) : List UInt8 := xs.getD i (fun _ _ => []) 0 false
def st (xs : List Tx) (i d : Nat) : List UInt8 := xs.getD i (fun _ _ => []) d false
def ins (xs : List Tx) (i d : Nat) : List UInt8 := xs.getD i (fun _ _ => []) d true
def fk (ks : List Tr) (i : Nat) : Nd := (ks.map Tr.f).getD i ⟨0, .empty, 0, .empty, 0, 0, 0⟩
abbrev exs (xs : List Tx) : List (List UInt8) := xs.map fun x => x 0 false
def rws (xs : List Tx) (d : Nat) : List UInt8 := (xs.map fun x => tbs d ++ x d false ++ [10]).flatten
def cls_ (xs : List Tx) (d : Nat) : List UInt8 := (xs.map fun x => x d false).flatten
def hdT (f : Nd) (ks : List Tr) (xs : List Tx) : List UInt8 :=
 if f.n = 1 then ex xs 0 ++ [32]
 else if f.n = 2 then ex xs 0 ++ [59] ++ (if (fk ks 1).k = 0 then [] else [32] ++ ex xs 1) ++ [59] ++ (if (fk ks 2).k = 0 then [] else [32] ++ ex xs 2) ++ [32]
 else if f.n = 3 then (if bs f.t = [] then [] else ex xs 0 ++ [32] ++ bs f.t ++ [32]) ++ [114, 97, 110, 103, 101, 32] ++ ex xs 1 ++ [32]
 else []
def bodyOf (n : Int) : Nat := if n = 0 then 0 else if n = 1 then 1 else if n = 2 then 3 else 2
def ndT (f : Nd) (ks : List Tr) (xs : List Tx) : Tx := fun d b =>
 if f.k = 21 then bs f.t
 else if f.k = 22 then Lib.itoa f.n
 else if f.k = 23 then (if f.n = 1 then [116, 114, 117, 101] else [102, 97, 108, 115, 101])
 else if f.k = 24 then [110, 105, 108]
 else if f.k = 25 then quo (bs f.t)
 else if f.k = 26 then bs f.t ++ brk (unB f (fk ks 0)) (ex xs 0)
 else if f.k = 27 then brk (leB f (fk ks 0)) (ex xs 0) ++ ([32] ++ bs f.t ++ [32]) ++ brk (riB f (fk ks 1)) (ex xs 1)
 else if f.k = 28 then bs f.t ++ ([40] ++ cm (exs xs) ++ [41])
 else if f.k = 29 then [109, 97, 107, 101, 40] ++ bs f.y ++ (if ks.length = 1 then [44, 32] ++ ex xs 0 else []) ++ [41]
 else if f.k = 30 then brk (meB (fk ks 0)) (ex xs 0) ++ ([46] ++ bs f.t) ++ ([40] ++ cm (exs (xs.drop 1)) ++ [41])
 else if f.k = 6 then cm (exs (xs.take (ks.length - 1))) ++ [32, 58, 61, 32] ++ ex xs (ks.length - 1)
 else if f.k = 7 then cm (exs (xs.take (ks.length - 1))) ++ [32, 61, 32] ++ ex xs (ks.length - 1)
 else if f.k = 8 then ex xs 0 ++ (if f.n = 1 then [43, 43] else [45, 45])
 else if f.k = 9 then ex xs 0 ++ [32, 60, 45, 32] ++ ex xs 1
 else if f.k = 10 then ex xs 0
 else if f.k = 4 then (if b = true then rws xs (d + 1) else [123, 10] ++ rws xs (d + 1) ++ tbs d ++ [125])
 else if f.k = 5 then [118, 97, 114, 32] ++ bs f.t ++ [32] ++ bs f.y ++ (if ks.length = 1 then [32, 61, 32] ++ ex xs 0 else [])
 else if f.k = 11 then [105, 102, 32] ++ ex xs 0 ++ [32] ++ st xs 1 d ++ (if ks.length = 3 then [32, 101, 108, 115, 101, 32] ++ st xs 2 d else [])
 else if f.k = 12 then [102, 111, 114, 32] ++ hdT f ks xs ++ st xs (bodyOf f.n) d
 else if f.k = 13 then [115, 119, 105, 116, 99, 104, 32] ++ (if f.n = 1 then ex xs 0 ++ [32] ++ ([123, 10] ++ cls_ (xs.drop 1) d) else [123, 10] ++ cls_ xs d) ++ tbs d ++ [125]
 else if f.k = 15 then [115, 101, 108, 101, 99, 116, 32] ++ [123, 10] ++ cls_ xs d ++ tbs d ++ [125]
 else if f.k = 14 then tbs d ++ (if f.n = 1 then [100, 101, 102, 97, 117, 108, 116] else [99, 97, 115, 101, 32] ++ cm (exs (xs.take (ks.length - 1)))) ++ [58, 10] ++ ins xs (ks.length - 1) d
 else if f.k = 16 then tbs d ++ (if f.n = 1 then [100, 101, 102, 97, 117, 108, 116] else [99, 97, 115, 101, 32] ++ ex xs 0) ++ [58, 10] ++ ins xs (ks.length - 1) d
 else if f.k = 17 then [103, 111, 32] ++ ex xs 0
 else if f.k = 18 then [114, 101, 116, 117, 114, 110] ++ (if ks.length = 1 then [32] ++ ex xs 0 else [])
 else if f.k = 19 then [98, 114, 101, 97, 107]
 else if f.k = 20 then [99, 111, 110, 116, 105, 110, 117, 101]
 else if f.k = 3 then bs f.t ++ [32] ++ bs f.y
 else if f.k = 2 then [102, 117, 110, 99, 32] ++ bs f.t ++ [40] ++ cm (exs (xs.take (ks.length - 1))) ++ [41, 32] ++ (if bs f.y = [] then [] else bs f.y ++ [32]) ++ st xs (ks.length - 1) 0 ++ [10]
 else if f.k = 1 then cls_ xs 0
 else []
mutual
def tx : Tr -> Tx
 | .mk f ks => ndT f ks (txs ks)
def txs : List Tr -> List Tx
 | [] => []
 | t :: r => tx t :: txs r
end
theorem txs_map : ∀ (l : List Tr), txs l = l.map tx
 | [] => rfl
 | t :: r => by rw [txs, txs_map r]; rfl
theorem tx_eq (t : Tr) : tx t = ndT t.f t.ks (t.ks.map tx) := by
 cases t
 rw [tx, txs_map]
 rfl
abbrev te (t : Tr) : List UInt8 := tx t 0 false
theorem exs_map (l : List Tr) : exs (l.map tx) = l.map te := List.map_map
theorem take_last (r : List Tr) (a : Tr) : ((r ++ [a]).map tx).take ((r ++ [a]).length - 1) = r.map tx := by simp
theorem getD_last (r : List Tr) (a : Tr) (z : Tx) : ((r ++ [a]).map tx).getD ((r ++ [a]).length - 1) z = tx a := by simp [List.getD]
theorem tx_21 (h : f.k = 21) (d : Nat) (b : Bool) : tx (.mk f ks) d b = bs f.t := by
 rw [tx_eq]
 simp only [Tr.f, Tr.ks, ndT, h]
 rfl
theorem tx_22 (h : f.k = 22) (d : Nat) (b : Bool) : tx (.mk f ks) d b = Lib.itoa f.n := by
 rw [tx_eq]
 simp only [Tr.f, Tr.ks, ndT, h]
 rfl
theorem tx_23 (h : f.k = 23) (d : Nat) (b : Bool) : tx (.mk f ks) d b = (if f.n = 1 then [116, 114, 117, 101] else [102, 97, 108, 115, 101]) := by
 rw [tx_eq]
 simp only [Tr.f, Tr.ks, ndT, h]
 rfl
theorem tx_24 (h : f.k = 24) (d : Nat) (b : Bool) : tx (.mk f ks) d b = [110, 105, 108] := by
 rw [tx_eq]
 simp only [Tr.f, Tr.ks, ndT, h]
 rfl
theorem tx_25 (h : f.k = 25) (d : Nat) (b : Bool) : tx (.mk f ks) d b = quo (bs f.t) := by
 rw [tx_eq]
 simp only [Tr.f, Tr.ks, ndT, h]
 rfl
theorem tx_26 (h : f.k = 26) (d : Nat) (b : Bool) : tx (.mk f [a]) d b = bs f.t ++ brk (unB f a.f) (te a) := by
 rw [tx_eq]
 simp only [Tr.f, Tr.ks, ndT, h]
 rfl
theorem tx_27 {c : Tr} (h : f.k = 27) (d : Nat) (b : Bool) : tx (.mk f [a, c]) d b = brk (leB f a.f) (te a) ++ ([32] ++ bs f.t ++ [32]) ++ brk (riB f c.f) (te c) := by
 rw [tx_eq]
 simp only [Tr.f, Tr.ks, ndT, h]
 rfl
theorem tx_28 (h : f.k = 28) (d : Nat) (b : Bool) : tx (.mk f ks) d b = bs f.t ++ ([40] ++ cm (ks.map te) ++ [41]) := by
 rw [tx_eq]
 simp only [Tr.f, Tr.ks, ndT, h]
 rw [exs_map]
 rfl
theorem tx_29n (h : f.k = 29) (d : Nat) (b : Bool) : tx (.mk f []) d b = [109, 97, 107, 101, 40] ++ bs f.y ++ [41] := by
 rw [tx_eq]
 simp only [Tr.f, Tr.ks, ndT]
 simp [h]
theorem tx_29 (h : f.k = 29) (d : Nat) (b : Bool) : tx (.mk f [a]) d b = [109, 97, 107, 101, 40] ++ bs f.y ++ ([44, 32] ++ te a) ++ [41] := by
 rw [tx_eq]
 simp only [Tr.f, Tr.ks, ndT, h]
 rfl
theorem tx_30 (h : f.k = 30) (d : Nat) (b : Bool) : tx (.mk f (a :: r)) d b = brk (meB a.f) (te a) ++ ([46] ++ bs f.t) ++ ([40] ++ cm (r.map te) ++ [41]) := by
 rw [tx_eq]
 simp only [Tr.f, Tr.ks, ndT]
 simp [h, ex, fk]
 rfl
theorem tx_6 (h : f.k = 6) (d : Nat) (b : Bool) : tx (.mk f (r ++ [a])) d b = cm (r.map te) ++ [32, 58, 61, 32] ++ te a := by
 rw [tx_eq]
 simp only [Tr.f, Tr.ks, ndT, h, take_last, exs_map, ex, getD_last]
 rfl
theorem tx_7 (h : f.k = 7) (d : Nat) (b : Bool) : tx (.mk f (r ++ [a])) d b = cm (r.map te) ++ [32, 61, 32] ++ te a := by
 rw [tx_eq]
 simp only [Tr.f, Tr.ks, ndT, h, take_last, exs_map, ex, getD_last]
 rfl
theorem tx_8 (h : f.k = 8) (d : Nat) (b : Bool) : tx (.mk f [a]) d b = te a ++ (if f.n = 1 then [43, 43] else [45, 45]) := by
 rw [tx_eq]
 simp only [Tr.f, Tr.ks, ndT, h]
 rfl
theorem tx_9 {c : Tr} (h : f.k = 9) (d : Nat) (b : Bool) : tx (.mk f [a, c]) d b = te a ++ [32, 60, 45, 32] ++ te c := by
 rw [tx_eq]
 simp only [Tr.f, Tr.ks, ndT, h]
 rfl
theorem tx_10 (h : f.k = 10) (d : Nat) (b : Bool) : tx (.mk f [a]) d b = te a := by
 rw [tx_eq]
 simp only [Tr.f, Tr.ks, ndT, h]
 rfl
def rowsT (l : List Tr) (d : Nat) : List UInt8 := rws (l.map tx) d
def clsT (l : List Tr) (d : Nat) : List UInt8 := cls_ (l.map tx) d
theorem tx_4 (h : f.k = 4) (d : Nat) : tx (.mk f ks) d false = [123, 10] ++ rowsT ks (d + 1) ++ tbs d ++ [125] := by
 rw [tx_eq]
 simp only [Tr.f, Tr.ks, ndT, h]
 rfl
theorem tx_4i (h : f.k = 4) (d : Nat) : tx (.mk f ks) d true = rowsT ks (d + 1) := by
 rw [tx_eq]
 simp only [Tr.f, Tr.ks, ndT, h]
 rfl
theorem tx_5n (h : f.k = 5) (d : Nat) (b : Bool) : tx (.mk f []) d b = [118, 97, 114, 32] ++ bs f.t ++ [32] ++ bs f.y := by
 rw [tx_eq]
 simp only [Tr.f, Tr.ks, ndT]
 simp [h]
theorem tx_5 (h : f.k = 5) (d : Nat) (b : Bool) : tx (.mk f [a]) d b = [118, 97, 114, 32] ++ bs f.t ++ [32] ++ bs f.y ++ ([32, 61, 32] ++ te a) := by
 rw [tx_eq]
 simp only [Tr.f, Tr.ks, ndT, h]
 rfl
theorem tx_11 {c : Tr} (h : f.k = 11) (d : Nat) (b : Bool) : tx (.mk f [a, c]) d b = [105, 102, 32] ++ te a ++ [32] ++ tx c d false := by
 rw [tx_eq]
 simp only [Tr.f, Tr.ks, ndT]
 simp [h, ex, st]
theorem tx_11e {c e : Tr} (h : f.k = 11) (d : Nat) (b : Bool) : tx (.mk f [a, c, e]) d b = [105, 102, 32] ++ te a ++ [32] ++ tx c d false ++ ([32, 101, 108, 115, 101, 32] ++ tx e d false) := by
 rw [tx_eq]
 simp only [Tr.f, Tr.ks, ndT, h]
 rfl
theorem tx_12z (h : f.k = 12) (hn : f.n = 0) (d : Nat) (b : Bool) : tx (.mk f [a]) d b = [102, 111, 114, 32] ++ tx a d false := by
 rw [tx_eq]
 simp only [Tr.f, Tr.ks, ndT]
 simp [h, hn, hdT, bodyOf, st]
theorem tx_12a {e : Tr} (h : f.k = 12) (hn : f.n = 1) (d : Nat) (b : Bool) : tx (.mk f [e, a]) d b = [102, 111, 114, 32] ++ (te e ++ [32]) ++ tx a d false := by
 rw [tx_eq]
 simp only [Tr.f, Tr.ks, ndT]
 simp [h, hn, hdT, bodyOf, st, ex]
def three (s c x : Tr) : List UInt8 := te s ++ [59] ++ (if c.f.k = 0 then [] else [32] ++ te c) ++ [59] ++ (if x.f.k = 0 then [] else [32] ++ te x)
theorem tx_12b {s c x : Tr} (h : f.k = 12) (hn : f.n = 2) (d : Nat) (b : Bool) : tx (.mk f [s, c, x, a]) d b = [102, 111, 114, 32] ++ (three s c x ++ [32]) ++ tx a d false := by
 rw [tx_eq]
 simp only [Tr.f, Tr.ks, ndT]
 simp [h, hn, hdT, bodyOf, st, ex, fk, three]
def rngT (t : List UInt8) (x e : Tr) : List UInt8 := (if t = [] then [] else te x ++ [32] ++ t ++ [32]) ++ [114, 97, 110, 103, 101, 32] ++ te e
theorem tx_12c {x e : Tr} (h : f.k = 12) (hn : f.n = 3) (d : Nat) (b : Bool) : tx (.mk f [x, e, a]) d b = [102, 111, 114, 32] ++ (rngT (bs f.t) x e ++ [32]) ++ tx a d false := by
 rw [tx_eq]
 simp only [Tr.f, Tr.ks, ndT]
 simp [h, hn, hdT, bodyOf, st, ex, rngT]
theorem tx_13z (h : f.k = 13) (hn : f.n = 0) (d : Nat) (b : Bool) : tx (.mk f ks) d b = [115, 119, 105, 116, 99, 104, 32] ++ ([123, 10] ++ clsT ks d) ++ tbs d ++ [125] := by
 rw [tx_eq]
 simp only [Tr.f, Tr.ks, ndT, h, hn]
 rfl
theorem tx_13 (h : f.k = 13) (hn : f.n = 1) (d : Nat) (b : Bool) : tx (.mk f (a :: r)) d b = [115, 119, 105, 116, 99, 104, 32] ++ (te a ++ [32] ++ ([123, 10] ++ clsT r d)) ++ tbs d ++ [125] := by
 rw [tx_eq]
 simp only [Tr.f, Tr.ks, ndT, h, hn]
 rfl
theorem tx_15 (h : f.k = 15) (d : Nat) (b : Bool) : tx (.mk f ks) d b = [115, 101, 108, 101, 99, 116, 32] ++ [123, 10] ++ clsT ks d ++ tbs d ++ [125] := by
 rw [tx_eq]
 simp only [Tr.f, Tr.ks, ndT, h]
 rfl
theorem tx_14 (h : f.k = 14) (d : Nat) (b : Bool) : tx (.mk f (r ++ [a])) d b = tbs d ++ (if f.n = 1 then [100, 101, 102, 97, 117, 108, 116] else [99, 97, 115, 101, 32] ++ cm (r.map te)) ++ [58, 10] ++ tx a d true := by
 rw [tx_eq]
 simp only [Tr.f, Tr.ks, ndT, h, take_last, exs_map, ins, getD_last]
 rfl
theorem tx_16d (h : f.k = 16) (hn : f.n = 1) (d : Nat) (b : Bool) : tx (.mk f [a]) d b = tbs d ++ [100, 101, 102, 97, 117, 108, 116] ++ [58, 10] ++ tx a d true := by
 rw [tx_eq]
 simp only [Tr.f, Tr.ks, ndT, h, hn]
 rfl
theorem tx_16 {s : Tr} (h : f.k = 16) (hn : ¬ f.n = 1) (d : Nat) (b : Bool) : tx (.mk f [s, a]) d b = tbs d ++ ([99, 97, 115, 101, 32] ++ te s) ++ [58, 10] ++ tx a d true := by
 rw [tx_eq]
 simp only [Tr.f, Tr.ks, ndT, h, hn]
 rfl
theorem tx_17 (h : f.k = 17) (d : Nat) (b : Bool) : tx (.mk f [a]) d b = [103, 111, 32] ++ te a := by
 rw [tx_eq]
 simp only [Tr.f, Tr.ks, ndT, h]
 rfl
theorem tx_18n (h : f.k = 18) (d : Nat) (b : Bool) : tx (.mk f []) d b = [114, 101, 116, 117, 114, 110] := by
 rw [tx_eq]
 simp only [Tr.f, Tr.ks, ndT]
 simp [h]
theorem tx_18 (h : f.k = 18) (d : Nat) (b : Bool) : tx (.mk f [a]) d b = [114, 101, 116, 117, 114, 110] ++ ([32] ++ te a) := by
 rw [tx_eq]
 simp only [Tr.f, Tr.ks, ndT, h]
 rfl
theorem tx_19 (h : f.k = 19) (d : Nat) (b : Bool) : tx (.mk f ks) d b = [98, 114, 101, 97, 107] := by
 rw [tx_eq]
 simp only [Tr.f, Tr.ks, ndT, h]
 rfl
theorem tx_20 (h : f.k = 20) (d : Nat) (b : Bool) : tx (.mk f ks) d b = [99, 111, 110, 116, 105, 110, 117, 101] := by
 rw [tx_eq]
 simp only [Tr.f, Tr.ks, ndT, h]
 rfl
theorem tx_3 (h : f.k = 3) (d : Nat) (b : Bool) : tx (.mk f ks) d b = bs f.t ++ [32] ++ bs f.y := by
 rw [tx_eq]
 simp only [Tr.f, Tr.ks, ndT, h]
 rfl
theorem tx_2 (h : f.k = 2) (d : Nat) (b : Bool) : tx (.mk f (r ++ [a])) d b = [102, 117, 110, 99, 32] ++ bs f.t ++ [40] ++ cm (r.map te) ++ [41, 32] ++ (if bs f.y = [] then [] else bs f.y ++ [32]) ++ tx a 0 false ++ [10] := by
 rw [tx_eq]
 simp only [Tr.f, Tr.ks, ndT, h, take_last, exs_map, st, getD_last]
 rfl
theorem tx_0 (h : f.k = 0) (d : Nat) (b : Bool) : tx (.mk f ks) d b = [] := by
 rw [tx_eq]
 simp only [Tr.f, Tr.ks, ndT, h]
 rfl
theorem tx_1 (h : f.k = 1) (d : Nat) (b : Bool) : tx (.mk f ks) d b = clsT ks 0 := by
 rw [tx_eq]
 simp only [Tr.f, Tr.ks, ndT, h]
 rfl
theorem tx_simp (h : kSimp t.f = true ∨ t.f.k = 0) (d : Nat) (b : Bool) : tx t d b = te t := by
 cases t with
 | mk f ks =>
  simp only [te, tx_eq, Tr.f, Tr.ks, ndT] at *
  simp only [kSimp, Bool.or_eq_true, beq_iff_eq] at h
  rcases h with ((((h | h) | h) | h) | h) | h <;> simp only [h] <;> rfl
end
section
open Go.RowKit
theorem cells_snoc (l : List UInt8) (c : UInt8) : Lib.byteCells l ++ [Value.int .u8 (c.toNat : Int)] = Lib.byteCells (l ++ [c]) := by
 rw [Lib.byteCells_append]; rfl
theorem esc_92 {c : UInt8} (h : c.toNat = 92) : esc c = [92, c] := by unfold esc; rw [if_pos h]
theorem esc_34 {c : UInt8} (h : c.toNat = 34) : esc c = [92, c] := by unfold esc; rw [if_neg (by omega), if_pos h]
theorem esc_10 {c : UInt8} (h : c.toNat = 10) : esc c = [92, 110] := by unfold esc; rw [if_neg (by omega), if_neg (by omega), if_pos h]
theorem esc_9 {c : UInt8} (h : c.toNat = 9) : esc c = [92, 116] := by unfold esc; rw [if_neg (by omega), if_neg (by omega), if_neg (by omega), if_pos h]
theorem esc_no {c : UInt8} (h1 : ¬ c.toNat = 92) (h2 : ¬ c.toNat = 34) (h3 : ¬ c.toNat = 10) (h4 : ¬ c.toNat = 9) : esc c = [c] := by unfold esc; rw [if_neg h1, if_neg h2, if_neg h3, if_neg h4]
def qpre (s : ByteArray) (k : Nat) : List UInt8 := 34 :: escs (s.data.toList.take k)
theorem qpre_step (s : ByteArray) (k : Nat) (h : k < s.size) : qpre s (k + 1) = qpre s k ++ esc (by_ s k) := by
 unfold qpre
 rw [take_by s k h, escs_append]
 simp [escs]
theorem qpre_len (s : ByteArray) (k : Nat) : (qpre s k).length <= 2 * k + 1 := by
 unfold qpre
 have h1 := escs_len (s.data.toList.take k)
 have h2 : (s.data.toList.take k).length <= k := by rw [List.length_take]; omega
 rw [List.length_cons]
 omega
theorem qpre_end (s : ByteArray) : qpre s s.size ++ [34] = quo s.data.toList := by
 unfold qpre quo
 rw [List.take_of_length_le (by rw [Array.length_toList]; exact Nat.le_refl _)]
 rfl
end
section
open Go.Shelf
def layWB_ren : Go.Shelf.Ren := ⟨fun | 167 => 152 | 240 => 90 | 276 => 110 | n => n, fun | 70 => 39 | 5 => 5 | 75 => 80 | 0 => 0 | 72 => 42 | 37 => 40 | 4 => 4 | 164 => 94 | 80 => 46 | 9 => 9 | 20 => 20 | n => n, fun | n => n⟩
theorem layWB : Go.Proofs.Lays.n167 Tryz.prog layWB_ren := {
 mixed := by kernel_rfl,
 f167 := Tryz.func152.trans (congrArg some (by kernel_rfl)),
 f240 := Tryz.func90.trans (congrArg some (by kernel_rfl)),
 f276 := Tryz.func110.trans (congrArg some (by kernel_rfl)),
 t0 := Tryz.underlying0,
 a0 := Tryz.isAgg0,
 z0 := Tryz.sizeOf0,
 v0 := Tryz.zeroValue0,
 t4 := Tryz.underlying4,
 a4 := Tryz.isAgg4,
 z4 := Tryz.sizeOf4,
 v4 := Tryz.zeroValue4,
 t5 := Tryz.underlying5,
 a5 := Tryz.isAgg5,
 z5 := Tryz.sizeOf5,
 v5 := Tryz.zeroValue5,
 t9 := Tryz.underlying9,
 a9 := Tryz.isAgg9,
 z9 := Tryz.sizeOf9,
 v9 := Tryz.zeroValue9,
 t20 := Tryz.underlying20,
 a20 := Tryz.isAgg20,
 z20 := Tryz.sizeOf20,
 v20 := Tryz.zeroValue20,
 t37 := Tryz.underlying40,
 a37 := Tryz.isAgg40,
 z37 := Tryz.sizeOf40,
 v37 := Tryz.zeroValue40,
 t70 := Tryz.underlying39,
 a70 := Tryz.isAgg39,
 z70 := Tryz.sizeOf39,
 v70 := Tryz.zeroValue39,
 t72 := Tryz.underlying42,
 a72 := Tryz.isAgg42,
 z72 := Tryz.sizeOf42,
 v72 := Tryz.zeroValue42,
 t75 := Tryz.underlying80,
 a75 := Tryz.isAgg80,
 z75 := Tryz.sizeOf80,
 v75 := Tryz.zeroValue80,
 t164 := Tryz.underlying94,
 a164 := Tryz.isAgg94,
 z164 := Tryz.sizeOf94,
 v164 := Tryz.zeroValue94 }
theorem layWBX : Go.Proofs.Builder.Extra Tryz.prog layWB_ren := {
 sizeBuilder := by kernel_rfl,
 liesBuilder := by kernel_rfl,
 t5 := Tryz.underlying5,
 a5 := Tryz.isAgg5,
 z5 := Tryz.sizeOf5,
 v5 := Tryz.zeroValue5,
 infoByte := by kernel_rfl,
 cellsByte := by kernel_rfl,
 sizeByte := by kernel_rfl,
 neB5 := by decide }
def layWS_ren : Go.Shelf.Ren := ⟨fun | 166 => 69 | 240 => 90 | 276 => 110 | n => n, fun | 70 => 39 | 9 => 9 | 3 => 3 | 75 => 80 | 0 => 0 | 72 => 42 | 37 => 40 | 4 => 4 | 164 => 94 | 80 => 46 | 5 => 5 | 20 => 20 | n => n, fun | n => n⟩
theorem layWS : Go.Proofs.Lays.n166 Tryz.prog layWS_ren := {
 mixed := by kernel_rfl,
 f166 := Tryz.func69.trans (congrArg some (by kernel_rfl)),
 f240 := Tryz.func90.trans (congrArg some (by kernel_rfl)),
 f276 := Tryz.func110.trans (congrArg some (by kernel_rfl)),
 t0 := Tryz.underlying0,
 a0 := Tryz.isAgg0,
 z0 := Tryz.sizeOf0,
 v0 := Tryz.zeroValue0,
 t3 := Tryz.underlying3,
 a3 := Tryz.isAgg3,
 z3 := Tryz.sizeOf3,
 v3 := Tryz.zeroValue3,
 t4 := Tryz.underlying4,
 a4 := Tryz.isAgg4,
 z4 := Tryz.sizeOf4,
 v4 := Tryz.zeroValue4,
 t9 := Tryz.underlying9,
 a9 := Tryz.isAgg9,
 z9 := Tryz.sizeOf9,
 v9 := Tryz.zeroValue9,
 t20 := Tryz.underlying20,
 a20 := Tryz.isAgg20,
 z20 := Tryz.sizeOf20,
 v20 := Tryz.zeroValue20,
 t37 := Tryz.underlying40,
 a37 := Tryz.isAgg40,
 z37 := Tryz.sizeOf40,
 v37 := Tryz.zeroValue40,
 t70 := Tryz.underlying39,
 a70 := Tryz.isAgg39,
 z70 := Tryz.sizeOf39,
 v70 := Tryz.zeroValue39,
 t72 := Tryz.underlying42,
 a72 := Tryz.isAgg42,
 z72 := Tryz.sizeOf42,
 v72 := Tryz.zeroValue42,
 t75 := Tryz.underlying80,
 a75 := Tryz.isAgg80,
 z75 := Tryz.sizeOf80,
 v75 := Tryz.zeroValue80,
 t164 := Tryz.underlying94,
 a164 := Tryz.isAgg94,
 z164 := Tryz.sizeOf94,
 v164 := Tryz.zeroValue94 }
theorem layWSX : Go.Proofs.Builder.Extra Tryz.prog layWS_ren := {
 sizeBuilder := by kernel_rfl,
 liesBuilder := by kernel_rfl,
 t5 := Tryz.underlying5,
 a5 := Tryz.isAgg5,
 z5 := Tryz.sizeOf5,
 v5 := Tryz.zeroValue5,
 infoByte := by kernel_rfl,
 cellsByte := by kernel_rfl,
 sizeByte := by kernel_rfl,
 neB5 := by decide }
def layST_ren : Go.Shelf.Ren := ⟨fun | 169 => 19 | n => n, fun | 70 => 39 | 9 => 9 | 0 => 0 | 72 => 42 | 37 => 40 | 127 => 66 | 3 => 3 | 5 => 5 | 20 => 20 | n => n, fun | n => n⟩
theorem layST : Go.Proofs.Lays.n169 Tryz.prog layST_ren := {
 mixed := by kernel_rfl,
 f169 := Tryz.func19.trans (congrArg some (by kernel_rfl)),
 t0 := Tryz.underlying0,
 a0 := Tryz.isAgg0,
 z0 := Tryz.sizeOf0,
 v0 := Tryz.zeroValue0,
 t3 := Tryz.underlying3,
 a3 := Tryz.isAgg3,
 z3 := Tryz.sizeOf3,
 v3 := Tryz.zeroValue3,
 t9 := Tryz.underlying9,
 a9 := Tryz.isAgg9,
 z9 := Tryz.sizeOf9,
 v9 := Tryz.zeroValue9,
 t37 := Tryz.underlying40,
 a37 := Tryz.isAgg40,
 z37 := Tryz.sizeOf40,
 v37 := Tryz.zeroValue40,
 t70 := Tryz.underlying39,
 a70 := Tryz.isAgg39,
 z70 := Tryz.sizeOf39,
 v70 := Tryz.zeroValue39,
 t72 := Tryz.underlying42,
 a72 := Tryz.isAgg42,
 z72 := Tryz.sizeOf42,
 v72 := Tryz.zeroValue42,
 t127 := Tryz.underlying66,
 a127 := Tryz.isAgg66,
 z127 := Tryz.sizeOf66,
 v127 := Tryz.zeroValue66 }
theorem laySTX : Go.Proofs.Builder.Extra Tryz.prog layST_ren := {
 sizeBuilder := by kernel_rfl,
 liesBuilder := by kernel_rfl,
 t5 := Tryz.underlying5,
 a5 := Tryz.isAgg5,
 z5 := Tryz.sizeOf5,
 v5 := Tryz.zeroValue5,
 infoByte := by kernel_rfl,
 cellsByte := by kernel_rfl,
 sizeByte := by kernel_rfl,
 neB5 := by decide }
end
section
open Go.RowKit
theorem wb_any (B b : Nat) (bs : List Value) (c : Int) (w : World) (h : Lib.IsBuilder 42 5 B b bs w) (hlen : bs.length + 1 <= 140737488355328) (hBw : B <= w.heap.size) :
 Calls Tryz.prog 152 #[.pointer (some ⟨b, 0, none⟩), .int .u8 c] w fun e w' => e = .returned .nilIface /\ (Lib.BuilderAt 42 5 B b (.pointer (some ⟨b, 0, none⟩)) (bs ++ [.int .u8 c]) w' /\ Below B w w') :=
 Any.Builder_WriteByte layWB layWBX B b bs c w h hlen hBw
theorem ws_any (B b : Nat) (bs : List Value) (s : ByteArray) (w : World) (h : Lib.IsBuilder 42 5 B b bs w) (hlen : bs.length + s.size <= 140737488355328) (hBw : B <= w.heap.size) :
 Calls Tryz.prog 69 #[.pointer (some ⟨b, 0, none⟩), .string s] w fun e w' => e = .returned (.tuple #[.int .i64 s.size, .nilIface]) /\ (Lib.BuilderAt 42 5 B b (.pointer (some ⟨b, 0, none⟩)) (bs ++ Lib.strCells s) w' /\ Below B w w') :=
 Any.Builder_WriteString layWS layWSX B b bs s w h hlen hBw
theorem st_any (B b : Nat) (l : List UInt8) (w : World) (h : Lib.IsBuilder 42 5 B b (Lib.byteCells l) w) (hBw : B <= w.heap.size) :
 Calls Tryz.prog 19 #[.pointer (some ⟨b, 0, none⟩)] w fun e w' => e = .returned (.string ⟨l.toArray⟩) /\ Below B w w' :=
 Any.Builder_String_any layST laySTX B b l w h hBw
def Wrote (B b : Nat) (acc : List UInt8) (w : World) (e : Ending) (w' : World) : Prop :=
 e = .returned (.tuple #[]) /\ Lib.IsBuilder 42 5 B b (Lib.byteCells acc) w' /\ Below B w w'
theorem write_any (B b : Nat) (acc : List UInt8) (c : UInt8) (w : World) (h : Lib.IsBuilder 42 5 B b (Lib.byteCells acc) w) (hlen : acc.length + 2 <= 140737488355328) (hBw : B <= w.heap.size) :
 Calls Tryz.prog 153 #[.pointer (some ⟨b, 0, none⟩), .int .u8 (c.toNat : Int)] w (Wrote B b (acc ++ esc c) w) := by
 have HI := zz h
 have hl : (Lib.byteCells acc).length + 1 <= 140737488355328 := by rw [Lib.byteCells_length]; omega
 have hl2 : (Lib.byteCells acc).length + 2 <= 140737488355328 := by rw [Lib.byteCells_length]; omega
 clear h
 by_cases h1 : c.toNat = 92
 ·have E := zz (esc_92 h1)
  have hq : ((c.toNat : Int) == 92) = true := by simp; omega
  clear h1
  go_enter Tryz.func153, Tryz.ntmps153
  go_wp2_with fail
  refine (wb_any B b _ 92 w HI.out hl hBw).mono ?_
  rintro e w1 ⟨rfl, h1, b1⟩
  have HI1 := zz (Or.inr h1 : Lib.IsBuilder 42 5 B b _ w1)
  have HB1 := zz b1
  have hB1 : B <= w1.heap.size := Nat.le_trans hBw b1.size
  clear h1 b1 HI
  go_wp2_with fail
  refine (wb_any B b _ (c.toNat : Int) w1 HI1.out (by rw [List.length_append, List.length_cons, List.length_nil]; omega) hB1).mono ?_
  rintro e w2 ⟨rfl, h2, b2⟩
  have HF : Hid (Wrote B b (acc ++ esc c) w (.returned (.tuple #[])) w2) := zz ⟨rfl, by
   rw [E.out, show Lib.byteCells (acc ++ [92, c]) = Lib.byteCells acc ++ [Value.int .u8 92] ++ [Value.int .u8 (c.toNat : Int)] by rw [Lib.byteCells_append, List.append_assoc]; rfl]
   exact Or.inr h2, HB1.out.trans b2⟩
  clear h2 b2 HI1 HB1
  go_wp2
  go_end0
  exact HF.out
 have q1 : ((c.toNat : Int) == 92) = false := by simp; omega
 by_cases h2 : c.toNat = 34
 ·have E := zz (esc_34 h2)
  have hq : ((c.toNat : Int) == 34) = true := by simp; omega
  clear h2 h1
  go_enter Tryz.func153, Tryz.ntmps153
  go_wp2_with fail
  refine (wb_any B b _ 92 w HI.out hl hBw).mono ?_
  rintro e w1 ⟨rfl, h1, b1⟩
  have HI1 := zz (Or.inr h1 : Lib.IsBuilder 42 5 B b _ w1)
  have HB1 := zz b1
  have hB1 : B <= w1.heap.size := Nat.le_trans hBw b1.size
  clear h1 b1 HI
  go_wp2_with fail
  refine (wb_any B b _ (c.toNat : Int) w1 HI1.out (by rw [List.length_append, List.length_cons, List.length_nil]; omega) hB1).mono ?_
  rintro e w2 ⟨rfl, h2, b2⟩
  have HF : Hid (Wrote B b (acc ++ esc c) w (.returned (.tuple #[])) w2) := zz ⟨rfl, by
   rw [E.out, show Lib.byteCells (acc ++ [92, c]) = Lib.byteCells acc ++ [Value.int .u8 92] ++ [Value.int .u8 (c.toNat : Int)] by rw [Lib.byteCells_append, List.append_assoc]; rfl]
   exact Or.inr h2, HB1.out.trans b2⟩
  clear h2 b2 HI1 HB1
  go_wp2
  go_end0
  exact HF.out
 have q2 : ((c.toNat : Int) == 34) = false := by simp; omega
 by_cases h3 : c.toNat = 10
 ·have E := zz (esc_10 h3)
  have hq : ((c.toNat : Int) == 10) = true := by simp; omega
  clear h3 h2 h1
  go_enter Tryz.func153, Tryz.ntmps153
  go_wp2_with fail
  refine (ws_any B b _ { data := #[92, 110] } w HI.out hl2 hBw).mono ?_
  rintro e w2 ⟨rfl, h2, b2⟩
  have HF : Hid (Wrote B b (acc ++ esc c) w (.returned (.tuple #[])) w2) := zz ⟨rfl, by
   rw [E.out, show Lib.byteCells (acc ++ [92, 110]) = Lib.byteCells acc ++ Lib.strCells { data := #[92, 110] } by rw [Lib.byteCells_append]; rfl]
   exact Or.inr h2, b2⟩
  clear h2 b2 HI
  go_wp2
  go_end0
  exact HF.out
 have q3 : ((c.toNat : Int) == 10) = false := by simp; omega
 by_cases h4 : c.toNat = 9
 ·have E := zz (esc_9 h4)
  have hq : ((c.toNat : Int) == 9) = true := by simp; omega
  clear h4 h3 h2 h1
  go_enter Tryz.func153, Tryz.ntmps153
  go_wp2_with fail
  refine (ws_any B b _ { data := #[92, 116] } w HI.out hl2 hBw).mono ?_
  rintro e w2 ⟨rfl, h2, b2⟩
  have HF : Hid (Wrote B b (acc ++ esc c) w (.returned (.tuple #[])) w2) := zz ⟨rfl, by
   rw [E.out, show Lib.byteCells (acc ++ [92, 116]) = Lib.byteCells acc ++ Lib.strCells { data := #[92, 116] } by rw [Lib.byteCells_append]; rfl]
   exact Or.inr h2, b2⟩
  clear h2 b2 HI
  go_wp2
  go_end0
  exact HF.out
 ·have q4 : ((c.toNat : Int) == 9) = false := by simp; omega
  have E := zz (esc_no h1 h2 h3 h4)
  clear h1 h2 h3 h4
  go_enter Tryz.func153, Tryz.ntmps153
  go_wp2_with fail
  refine (wb_any B b _ (c.toNat : Int) w HI.out hl hBw).mono ?_
  rintro e w2 ⟨rfl, h2, b2⟩
  have HF : Hid (Wrote B b (acc ++ esc c) w (.returned (.tuple #[])) w2) := zz ⟨rfl, by
   rw [E.out, <- cells_snoc]
   exact Or.inr h2, b2⟩
  clear h2 b2 HI
  go_wp2
  go_end0
  exact HF.out
theorem quote_any (s : ByteArray) (w : World) (hs : s.size <= 70368744177000) :
 Calls Tryz.prog 139 #[.string s] w fun e w' => e = .returned (.string ⟨(quo s.data.toList).toArray⟩) /\ Below w.heap.size w w' := by
 go_enter Tryz.func139, Tryz.ntmps139
 go_wp2_with fail
 refine (wb_any w.heap.size w.heap.size [] 34 _ (Lib.fresh_isBuilder 42 5 w) (by decide) (by rw [World.size_alloc]; omega)).mono ?_
 rintro e w1 ⟨rfl, h1, b1⟩
 have HI1 := zz (Or.inr h1 : Lib.IsBuilder 42 5 w.heap.size w.heap.size _ w1)
 have HB1 := zz (((Below.refl w.heap.size w).alloc (Nat.le_refl _) _).trans b1)
 clear h1 b1
 go_wp2
 go_loopw [8] (fun i wr => ∃ k : Nat, k <= s.size /\ i = .int .i64 k /\ Lib.IsBuilder 42 5 w.heap.size w.heap.size (Lib.byteCells (qpre s k)) wr /\ Below w.heap.size w wr) (fun i _ => s.size - (intOf i).toNat)
 case atStart => exact ⟨0, by omega, rfl, HI1.out, HB1.out⟩
 case round =>
  obtain ⟨k, hk, rfl, hI, hB⟩ := hrel
  have hsz := hB.size
  have hql := qpre_len s k
  by_cases hlt : k < s.size
  ·have hb := by_at s k hlt
   have E := zz (qpre_step s k hlt)
   have HI := zz hI
   have HB := zz hB
   clear hI hB HI1 HB1
   go_wp2_with fail
   refine (write_any w.heap.size w.heap.size _ (by_ s k) wr HI.out (by omega) hsz).mono ?_
   rintro e w2 ⟨rfl, h2, b2⟩
   rw [<- E.out] at h2
   have HI2 := zz h2
   have HB2 := zz (HB.out.trans b2)
   clear h2 b2 HI HB
   go_wp2
   go_roundw
   case rel => exact ⟨k + 1, by omega, by go_num, HI2.out, HB2.out⟩
   case measure => simp [intOf]; omega
  ·have e : k = s.size := by omega
   subst e
   have HI := zz hI
   have HB := zz hB
   clear hI hB HI1 HB1
   go_wp2_with fail
   refine (wb_any w.heap.size w.heap.size _ 34 wr HI.out (by rw [Lib.byteCells_length]; omega) hsz).mono ?_
   rintro e w2 ⟨rfl, h2, b2⟩
   rw [show Lib.byteCells (qpre s s.size) ++ [Value.int .u8 34] = Lib.byteCells (qpre s s.size ++ [34]) by rw [Lib.byteCells_append]; rfl, qpre_end] at h2
   have HI2 := zz (Or.inr h2 : Lib.IsBuilder 42 5 w.heap.size w.heap.size _ w2)
   have HB2 := zz (HB.out.trans b2)
   have hsz2 := HB2.out.size
   clear h2 b2 HI HB
   go_wp2_with fail
   refine (st_any w.heap.size w.heap.size _ w2 HI2.out hsz2).mono ?_
   rintro e w3 ⟨rfl, b3⟩
   have HB3 := zz (HB2.out.trans b3)
   clear b3 HB2 HI2
   go_wp2
   go_ret
   exact ⟨rfl, HB3.out⟩
end
end Go.Proofs.YtmdhjiammcpogaaGreatDoor
