/- The program's lexer: a token put at the list's end. -/
import Derived.Test.YtkbgnbcphmkjkaaDoorPc
import Derived.Deep.RegionLawGrows
import Derived.RegionTactic
import Derived.BigRegion
namespace Go.Proofs.YtkbgnbcphmkjkaaDoor
open Go.RowKit

/-- append to a list that is the call's own, as one step of a region that draws its order -/
theorem step_append_own {P : Program} {ops : Array Oper} {o : Oper} {a : Act} {w : World} {K : Act → World → Prop} {Q : Exit → Act → World → Prop} {E : Prop}
    (hg : o.guard = none) (s x : Operand) (t : TypeId) (hop : o.op = Op.call { callee := Callee.builtin Builtin.append, args := #[s, x], argTypes := #[t, t] })
    (B : Nat) (e : TypeId) (i : TypeInfo) (z : Value) (size bytes : Nat) (h1 : P.underlying t = some (.slice e)) (h2 : P.info? e = some i) (h3 : i.zero = some z) (h4 : i.size = size) (h5 : i.bytes = bytes) (h6 : z.cells.size = size) (h7 : 0 < size)
    (v : Value) (n : Nat) (xs : List Value) (hs : a.eval s = v) (hown : w.ownsRow B e size v n xs)
    (ad : Addr) (m c : Nat) (news : List Value) (hx : a.eval x = .slice (some ad) m c) (hn : news.length = m * size) (hc : ∀ j u, news[j]? = some u → w.cell? (ad.add j) = some u) (h1c : ∀ u ∈ news, u.oneCell' = true)
    (b1 : n + m ≤ maxLen) (b2 : (n + m) * bytes ≤ 140737488355328) (hB : B ≤ w.heap.size)
    (hK : ∀ v' w', w'.ownsRow B e size v' (n + m) (xs ++ news) → w.grownBy w' v.ownBlock → K (a.put o.dst v') w') :
    if Region.wanted o (yielded ops a.tmps) = true then Oper.wp P o a w K Q else E := by
  have hw : Region.wanted o (yielded ops a.tmps) = true := by simp [Region.wanted, hg]
  rw [if_pos hw]
  obtain ⟨v', w', hrun, r1, r2, _⟩ := run_append_own (P := P) w B t o.type e i z size bytes h1 h2 h3 h4 h5 h6 h7 v n xs hown ad m c news hn hc h1c b1 b2 hB
  unfold Oper.wp
  simp [execOp, hop, resolve, invoke, builtin, hs, hx, hrun, Result.andThen]
  exact hK v' w' r1 r2

theorem below_drew {B : Nat} {a w : World} (h : Below B a w) : Below B a w.drew := ⟨h.os, h.tape, h.output, h.size, h.block⟩

/-- the list's blocks are not this one -/
def Far (v : Value) (T : Nat) : Prop := ∀ g, v.ownBlock = some g → g ≠ T

theorem own_apart {w : World} {B T : Nat} {v : Value} {l : List Tok} (h : OwnT w B v l) (hf : Far v T) (x y : Value) : OwnT ((w.setCell ⟨T, 3, none⟩ x).setCell ⟨T, 4, none⟩ y).drew B v l := by
  obtain ⟨h1, h2⟩ := h
  refine ⟨h1, ?_⟩
  rcases h2 with h2 | ⟨g, cap, cur, rfl, hB, hg, hr⟩
  · exact Or.inl h2
  · refine Or.inr ⟨g, cap, cur, rfl, hB, ?_, hr⟩
    have hne : T ≠ g := fun e => hf g rfl e.symm
    rw [← hg]
    simp [World.drew, World.setCell, Array.getElem?_modify, hne]

theorem own_far {w : World} {B : Nat} {v : Value} {l : List Tok} (h : OwnT w B v l) : Far v w.heap.size := by
  intro g hg
  rcases h with ⟨_, ⟨rfl, _⟩ | ⟨g', cap, cur, rfl, hB, hg', hr⟩⟩
  · cases hg
  · cases hg
    exact Nat.ne_of_lt (Array.getElem?_eq_some_iff.1 hg').1

theorem own_form {w : World} {B n m : Nat} {e : TypeId} {v : Value} {xs : List Value} (h : w.ownsRow B e m v (n + 1) xs) : ∃ g cap, v = .slice (some ⟨g, 0, none⟩) (n + 1) cap := by
  rcases h with ⟨_, ⟨_, h0⟩ | ⟨g, cap, cur, rfl, _⟩⟩
  · cases h0
  · exact ⟨g, cap, rfl⟩

theorem OwnT.put1 {w : World} {B : Nat} {v : Value} {l : List Tok} {kd n : Int} {tx : List UInt8} {X : ByteArray} {a b : Nat} (hX : (⟨tx.toArray⟩ : ByteArray) = X) (h : w.ownsRow B 28 5 v (l.length + 1) (toksC l ++ [.int .i64 kd, .string X, .int .i64 n, .int .i64 (a : Int), .int .i64 (b : Int)])) : OwnT w B v (l ++ [⟨kd, tx, n, a, b⟩]) := by
  subst hX
  exact OwnT.one h

theorem OwnT.alloc {w : World} {B : Nat} {v : Value} {l : List Tok} (h : OwnT w B v l) (o : Obj) : OwnT (w.alloc o) B v l := h.below ((Below.refl _ _).alloc (Nat.le_refl _) _)

set_option maxHeartbeats 4000000 in
theorem add_any {w : World} {B : Nat} {s : ByteArray} {k ln : Nat} {sg tv : Value} {op : Bool} {out : List Tok} (h : ScAt w B s k ln sg tv op) (ho : OwnT w (B + 1) tv out) (hl : out.length ≤ 100000) (kd : Int) (tx : List UInt8) (n a l : Int) :
    Calls Tryd.prog 14 #[.pointer (some ⟨B, 0, none⟩), tokV kd ⟨tx.toArray⟩ n a l] w fun e w' => e = .returned (.tuple #[]) ∧ ∃ tv', ScAt w' B s k ln sg tv' op ∧ OwnT w' (B + 1) tv' (out ++ [⟨kd, tx, n, k, ln⟩]) ∧ Below B w w' ∧ ∀ i, i < w.heap.size → i ≠ B → tv.ownBlock ≠ some i → w'.heap[i]? = w.heap[i]? := by
  obtain ⟨i0, hi0, hz0, hz1, hz2⟩ := info_parts Tryd.infoT
  unfold tokV
  generalize hX : (⟨tx.toArray⟩ : ByteArray) = X
  have HX := hide hX
  clear hX
  have hlt := h.lt
  have HS := hide h
  have HO := hide ho
  clear h ho
  go_enter Tryd.func14, Tryd.ntmps14
  go_wp2
  have hb1 := (Below.refl w.heap.size w).alloc (Nat.le_refl _) (.cells #[.int .i64 kd, .string X, .int .i64 n, .int .i64 a, .int .i64 l] 28)
  have HS1 := hide ((unhide HS).below hb1 hlt)
  have HO1 := hide ((unhide HO).below hb1)
  have HT1 := hide (show (w.alloc (.cells #[.int .i64 kd, .string X, .int .i64 n, .int .i64 a, .int .i64 l] 28)).heap[w.heap.size]? = some (.cells #[.int .i64 kd, .string X, .int .i64 n, .int .i64 a, .int .i64 l] 28 (0, 0)) from (MapKept.heap_alloc w _).1)
  have HB1 := hide hb1
  have HF1 := hide (own_far (unhide HO))
  clear hb1 HS HO
  generalize w.alloc (.cells #[.int .i64 kd, .string X, .int .i64 n, .int .i64 a, .int .i64 l] 28) = w1 at *
  obtain ⟨c0, c1, c2, c3, c4, c5⟩ := (unhide HS1).cell
  have f := fun i => (unhide HS1).froz i
  have t0 : w1.cell? ⟨w.heap.size, 0, none⟩ = some (.int .i64 kd) := by simp [World.cell?, unhide HT1]
  have t1 : w1.cell? ⟨w.heap.size, 1, none⟩ = some (.string X) := by simp [World.cell?, unhide HT1]
  have t2 : w1.cell? ⟨w.heap.size, 2, none⟩ = some (.int .i64 n) := by simp [World.cell?, unhide HT1]
  have t3 : w1.cell? ⟨w.heap.size, 3, none⟩ = some (.int .i64 a) := by simp [World.cell?, unhide HT1]
  have t4 : w1.cell? ⟨w.heap.size, 4, none⟩ = some (.int .i64 l) := by simp [World.cell?, unhide HT1]
  have tf : ∀ i, w1.frozen? ⟨w.heap.size, i, none⟩ = false := fun i => by simp [World.frozen?, unhide HT1]
  have hne : B ≠ w.heap.size := by omega
  have hne' : w.heap.size ≠ B := by omega
  go_region
  have HS2 := hide (show ScAt ((w1.setCell ⟨w.heap.size, 3, none⟩ (.int .i64 (k : Int))).setCell ⟨w.heap.size, 4, none⟩ (.int .i64 (ln : Int))).drew B s k ln sg tv op from ⟨by rw [← (unhide HS1).blk]; simp [World.drew, World.setCell, Array.getElem?_modify, hne']⟩)
  have HO2 := hide (show OwnT ((w1.setCell ⟨w.heap.size, 3, none⟩ (.int .i64 (k : Int))).setCell ⟨w.heap.size, 4, none⟩ (.int .i64 (ln : Int))).drew (B + 1) tv out from own_apart (unhide HO1) (unhide HF1) _ _)
  have HT2 := hide (show ((w1.setCell ⟨w.heap.size, 3, none⟩ (.int .i64 (k : Int))).setCell ⟨w.heap.size, 4, none⟩ (.int .i64 (ln : Int))).drew.heap[w.heap.size]? = some (.cells #[.int .i64 kd, .string X, .int .i64 n, .int .i64 (k : Int), .int .i64 (ln : Int)] 28 (0, 0)) by simp [World.drew, World.setCell, Array.getElem?_modify, unhide HT1])
  have HB2 := hide (show Below w.heap.size w ((w1.setCell ⟨w.heap.size, 3, none⟩ (.int .i64 (k : Int))).setCell ⟨w.heap.size, 4, none⟩ (.int .i64 (ln : Int))).drew from below_drew (((unhide HB1).setCell (Nat.le_refl _) _).setCell (Nat.le_refl _) _))
  clear c0 c1 c2 c3 c4 c5 f t0 t1 t2 t3 t4 tf HS1 HO1 HT1 HB1 HF1
  generalize ((w1.setCell ⟨w.heap.size, 3, none⟩ (.int .i64 (k : Int))).setCell ⟨w.heap.size, 4, none⟩ (.int .i64 (ln : Int))).drew = w2 at *
  have hsz2 := (unhide HB2).size
  obtain ⟨c0, c1, c2, c3, c4, c5⟩ := (unhide HS2).cell
  have f := fun i => (unhide HS2).froz i
  have t0 : w2.cell? ⟨w.heap.size, 0, none⟩ = some (.int .i64 kd) := by simp [World.cell?, unhide HT2]
  have t1 : w2.cell? ⟨w.heap.size, 1, none⟩ = some (.string X) := by simp [World.cell?, unhide HT2]
  have t2 : w2.cell? ⟨w.heap.size, 2, none⟩ = some (.int .i64 n) := by simp [World.cell?, unhide HT2]
  have t3 : w2.cell? ⟨w.heap.size, 3, none⟩ = some (.int .i64 (k : Int)) := by simp [World.cell?, unhide HT2]
  have t4 : w2.cell? ⟨w.heap.size, 4, none⟩ = some (.int .i64 (ln : Int)) := by simp [World.cell?, unhide HT2]
  have hm2 : (out.length + 1) * 48 ≤ 140737488355328 := by omega
  have hm3 : ∀ o, B + 1 ≤ (w2.drew.alloc o).heap.size := fun o => by rw [World.size_alloc]; have : w2.drew.heap.size = w2.heap.size := rfl; omega
  have HO2' := hide (show OwnT w2.drew (B + 1) tv out from unhide HO2)
  have HS2' := hide (show ScAt w2.drew B s k ln sg tv op from ⟨(unhide HS2).blk⟩)
  have hm4 : B < w2.drew.heap.size := (unhide HS2').lt
  have c4a : (w2.alloc (.cells #[.int .i64 kd, .string X, .int .i64 n, .int .i64 (k : Int), .int .i64 (ln : Int)] 28)).cell? ⟨B, 4, none⟩ = some tv := ((unhide HS2).below ((Below.refl w2.heap.size w2).alloc (Nat.le_refl _) _) (unhide HS2).lt).cell.2.2.2.2.1
  have hm1 : out.length + 1 ≤ maxLen := by unfold maxLen; omega
  go_wp2
  have HBm := hide (below_drew ((unhide HB2).mono (Nat.le_of_lt hlt)))
  have hm6 : ∀ o i, i < w.heap.size → i < (w2.drew.alloc o).heap.size := fun o i hi => by rw [World.size_alloc]; have : w2.drew.heap.size = w2.heap.size := rfl; omega
  have hm7 : ∀ i, i < w.heap.size → i < w2.drew.heap.size := fun i hi => by have : w2.drew.heap.size = w2.heap.size := rfl; omega
  have hm5 : B ≤ w2.drew.heap.size := Nat.le_of_lt hm4
  go_region_law (
    refine step_append_own rfl (.tmp 18) (.tmp 20) 22 rfl (B + 1) 28 i0 zeroTok 5 48 Tryd.underlying22 hi0 hz0 hz1 hz2 rfl (by decide) tv out.length (toksC out) rfl (OwnT.alloc (unhide HO2') _) ⟨w2.drew.heap.size, 0, none⟩ 1 1 [.int .i64 kd, .string X, .int .i64 n, .int .i64 (k : Int), .int .i64 (ln : Int)] rfl rfl (five_new w2.drew _ _ _ _ _ 28) (five_one _ _ _ _ _) hm1 hm2 (hm3 _) ?_
    intro v' w5 hv hgrow
    obtain ⟨g, cap, rfl⟩ := own_form hv
    have HS5 := hide (((unhide HS2').below ((Below.refl w2.drew.heap.size w2.drew).alloc (Nat.le_refl _) _) hm4).grown hgrow (ownB (unhide HO2')))
    obtain ⟨d0, d1, d2, d3, d4, d5⟩ := (unhide HS5).cell
    have f5 := fun i => (unhide HS5).froz i
    have HB5 := hide (((unhide HBm).alloc hm5 _).grown hgrow (Nat.le_of_succ_le (hm3 _)) (fun j e => Nat.le_of_succ_le (ownB (unhide HO2') j e)))
    have HK5 := hide (fun (i : Nat) (hi : i < w.heap.size) (hne : tv.ownBlock ≠ some i) => (hgrow.block i (hm6 _ i hi) (fun e => hne e.symm)).trans ((((Below.refl w2.drew.heap.size w2.drew).alloc (Nat.le_refl _) _).block i (hm7 i hi)).trans ((unhide HB2).block i hi)))
    have HO5 := hide (OwnT.put1 (unhide HX) hv))
  all_goals
    go_end0
    exact ⟨rfl, _, (unhide HS5).setToks _, (unhide HO5).only ((Only.refl B w5 (Nat.le_of_lt (unhide HS5).lt)).setCell 4 _), (unhide HB5).setCell (Nat.le_refl _) _, fun i hi hne ho => (((Only.refl B w5 (Nat.le_of_lt (unhide HS5).lt)).setCell 4 _).other i hne).trans (unhide HK5 i hi ho)⟩

end Go.Proofs.YtkbgnbcphmkjkaaDoor
