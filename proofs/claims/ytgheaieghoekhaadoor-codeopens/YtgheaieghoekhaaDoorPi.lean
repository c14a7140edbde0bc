/- Programs that came in, as they lie in memory; the table that the rows list, and a world that holds it. -/
import Derived.Test.YtgheaieghoekhaaDoorLw
import Derived.Test.YtgheaieghoekhaaDoorCards
import Derived.Test.YtgheaieghoekhaaDoorTie
import Derived.ProofKit
import Derived.OpenShut
import Derived.ShutString
import Derived.Deep.DeepHandedRow
import Derived.Lib.LaidTab
import Derived.Stop.LaidErr
import Derived.SizedLaws
import Derived.Deep.SlicePairs
namespace Go.Proofs.YtgheaieghoekhaaDoor
open Go.ChangeShapes Go.WideShapes Go.ChangeAt Go.RowKit Go.Deep

theorem own_knob : ownKnob Tryd.prog.godebug = none := by kernel_rfl
theorem laid_out : laidOutB Tryd.prog = true := by kernel_rfl

/-- the list that the rows of this seat bear -/
def laids1 : List (String × DataW Unit) := [("drowse/code.table", Rows.laid_drowse_code_table)]

def rowOf : DataW Unit → List Value
  | .lit (.int k z) => [.int k z]
  | .lit (.bool b) => [.bool b]
  | .agg [a, b, c, d] => rowOf a ++ rowOf b ++ rowOf c ++ rowOf d
  | _ => []
def rowsOf : DataW Unit → Array Value
  | .agg l => (l.flatMap rowOf).toArray
  | _ => #[]

/-- a world for the witness: the settled one, the listed variable holding what its initialiser lays -/
noncomputable def laidWorld (os : Os) : World :=
  let w0 := World.holding Tryd.prog os ⟨#[], #[], []⟩
  { w0 with heap := w0.heap.modify 0 fun
      | .cells _ t frozen => .cells (rowsOf Rows.laid_drowse_code_table) t frozen
      | o => o }

theorem laid_met1 (os : Os) (args : Array Value) : laidMet Tryd.prog laids1 ((laidWorld os).forCall (fun _ _ => 0) ⟨#[], args, []⟩).memory :=
  laidMet_of_run' 8 (by kernel_rfl) (by kernel_rfl)

section
variable {H : Type} {enc : TypeId × Value → H} {w : World} {base : Nat} {spare : Nat → Bool} {held : Bool} {fuel : Nat} {v : Value} {x : DataW H × List MemPlace}

theorem trod_i64 {t : TypeId} (hu : Tryd.prog.underlying t = some (.int .i64)) (h : DataW.trod enc Tryd.prog w base spare held fuel t [v] = some x) : ∃ z, v = .int .i64 z := by
  cases fuel with
  | zero => simp [DataW.trod] at h
  | succ n =>
    simp only [DataW.trod, hu] at h
    cases v <;> simp at h
    rename_i k b
    obtain ⟨⟨rfl, h2⟩, _⟩ := h
    exact ⟨b, rfl⟩

theorem trod_str (h : DataW.trod enc Tryd.prog w base spare held fuel 9 [v] = some x) : ∃ s, v = .string s := by
  cases fuel with
  | zero => simp [DataW.trod] at h
  | succ n =>
    simp only [DataW.trod, Tryd.underlying9] at h
    cases v <;> simp at h
    rename_i s
    exact ⟨s, rfl⟩

theorem trod_bool (h : DataW.trod enc Tryd.prog w base spare held fuel 4 [v] = some x) : ∃ s, v = .bool s := by
  cases fuel with
  | zero => simp [DataW.trod] at h
  | succ n =>
    simp only [DataW.trod, Tryd.underlying4] at h
    cases v <;> simp at h
    rename_i s
    exact ⟨s, rfl⟩
end

set_option maxRecDepth 100000 in
theorem lst_of_trod {α : Type} [Inhabited α] {H : Type} {enc : TypeId × Value → H} {W : World} {spare : Nat → Bool} {held : Bool} {sT eT : TypeId} {K : Nat} (hK : 0 < K) (hu : Tryd.prog.underlying sT = some (.slice eT)) (hce : Tryd.prog.cellsOf eT = K) {A : Nat → Nat → α → Prop}
    (hel : ∀ n cs x, cs.length = K → DataW.trod enc Tryd.prog W 0 spare held n eT cs = some x → ∃ y : α, ∀ b o, (∀ j (h : j < cs.length), W.cell? ⟨b, o + j, none⟩ = some cs[j]) → A b o y) :
    ∀ n v x, DataW.trod enc Tryd.prog W 0 spare held n sT [v] = some x → ∃ l : List α, Lst W.heap.size K A v l := by
  intro n v x h
  rcases DataW.trod_slice hu h with ⟨e, _⟩ | ⟨a, len, cap, elems, rest, k, hk, e, _, _, hl, hc, hlen, hg, _, _⟩
  · obtain rfl : v = .slice none 0 0 := by simpa using e
    exact ⟨[], 0, 0, ⟨none, 0, rfl, Nat.le_refl _, Nat.zero_le _, fun h => absurd h (Nat.lt_irrefl _)⟩, fun i hi => absurd hi (Nat.not_lt_zero _)⟩
  · obtain rfl : v = .slice (some a) len cap := by simpa using e
    by_cases h0 : len = 0
    · subst h0
      exact ⟨[], 0, 0, ⟨some a, cap, rfl, Nat.zero_le _, Nat.zero_le _, fun h => absurd h (Nat.lt_irrefl _)⟩, fun i hi => absurd hi (Nat.not_lt_zero _)⟩
    rw [hce] at hg
    have hcs : ∀ i, i < len → ∃ cs : List Value, cs.length = K ∧ (∀ j (h : j < cs.length), W.cell? ((a.add (i * K)).add j) = some cs[j]) ∧ ∃ x, DataW.trod enc Tryd.prog W 0 spare held k eT cs = some x := by
      intro i hi
      have h1 := hg i hi
      rw [List.getElem?_eq_getElem (by omega)] at h1
      obtain ⟨cs, h2, h3⟩ := Option.bind_eq_some_iff.1 h1
      obtain ⟨_, hcl, hcell⟩ := World.cells?_some h2
      exact ⟨cs, hcl, fun j hj => (hcell j (by omega)).trans (List.getElem?_eq_getElem hj), _, h3⟩
    obtain ⟨b, off, spot⟩ := a
    have hspot : spot = none := by
      obtain ⟨cs, hcl, hcell, _⟩ := hcs 0 (by omega)
      have := World.cell?_spot (hcell 0 (by omega))
      simpa [Addr.add] using this
    subst hspot
    have hplain : ∀ i j, ((⟨b, off, none⟩ : Addr).add i).add j = ⟨b, off + i + j, none⟩ := by intro i j; unfold Addr.add; split <;> split <;> simp_all <;> omega
    have hb : b < W.heap.size := by
      obtain ⟨cs, hcl, hcell, _⟩ := hcs 0 (by omega)
      have c0 := hcell 0 (by omega)
      rw [hplain] at c0
      rcases Nat.lt_or_ge b W.heap.size with h1 | h1
      · exact h1
      · simp [World.cell?, Array.getElem?_eq_none h1] at c0
    have hA : ∀ i, i < len → ∃ y : α, A b (off + i * K) y := by
      intro i hi
      obtain ⟨cs, hcl, hcell, x, hx⟩ := hcs i hi
      obtain ⟨y, hy⟩ := hel k cs x hcl hx
      exact ⟨y, hy b (off + i * K) fun j hj => by have := hcell j hj; rwa [hplain] at this⟩
    obtain ⟨R, hR⟩ := choose_lt hA
    have hll : ((List.range len).map R).length = len := by simp
    have hmx : maxLen = 9223372036854775807 := rfl
    refine ⟨(List.range len).map R, b, off, ⟨some ⟨b, off, none⟩, cap, by rw [hll], by omega, by omega, fun _ => ⟨rfl, hb⟩⟩, fun i hi => ?_⟩
    rw [List.getElem_map, List.getElem_range]
    exact hR i (by omega)

instance : Inhabited In := ⟨⟨0, 0, 0, 0⟩⟩
instance : Inhabited It := ⟨⟨0, .empty⟩⟩
instance : Inhabited Fu := ⟨⟨.empty, 0, 0, false, []⟩⟩

theorem ceIns : Tryd.prog.cellsOf 29 = 4 := by kernel_rfl
theorem ceOp : Tryd.prog.cellsOf 27 = 1 := by kernel_rfl
theorem ceI64 : Tryd.prog.cellsOf 2 = 1 := by kernel_rfl
theorem ceInt : Tryd.prog.cellsOf 3 = 1 := by kernel_rfl
theorem ceStr : Tryd.prog.cellsOf 9 = 1 := by kernel_rfl
theorem ceBool : Tryd.prog.cellsOf 4 = 1 := by kernel_rfl
theorem ceItem : Tryd.prog.cellsOf 64 = 2 := by kernel_rfl
theorem ceIk : Tryd.prog.cellsOf 62 = 1 := by kernel_rfl
theorem ceFunc : Tryd.prog.cellsOf 51 = 5 := by kernel_rfl
theorem ceCode : Tryd.prog.cellsOf 49 = 1 := by kernel_rfl
theorem ceItems : Tryd.prog.cellsOf 61 = 1 := by kernel_rfl
theorem ceBools : Tryd.prog.cellsOf 43 = 1 := by kernel_rfl
theorem ceFs : Tryd.prog.cellsOf 22 = 1 := by kernel_rfl
theorem cePs : Tryd.prog.cellsOf 23 = 1 := by kernel_rfl
theorem ceAs : Tryd.prog.cellsOf 24 = 1 := by kernel_rfl
theorem cePg : Tryd.prog.cellsOf 26 = 4 := by kernel_rfl

section
variable {H : Type} {enc : TypeId × Value → H} {W : World} {spare : Nat → Bool} {held : Bool}

set_option maxRecDepth 100000 in
theorem ins_in {n : Nat} {cs : List Value} {x : DataW H × List MemPlace} (hl : cs.length = 4) (h : DataW.trod enc Tryd.prog W 0 spare held n 29 cs = some x) : ∃ y : In, cs = [.int .i64 y.op, .int .i64 y.a, .int .i64 y.b, .int .i64 y.l] := by
  obtain ⟨xs, k, hk, hxy, hlen, hxl, hf⟩ := DataW.trod_struct Tryd.underlying29 h
  match xs, hxl, cs, hl with
  | [y0, y1, y2, y3], _, [v0, v1, v2, v3], _ =>
    have g0 := hf 0 _ rfl
    have g1 := hf 1 _ rfl
    have g2 := hf 2 _ rfl
    have g3 := hf 3 _ rfl
    simp [ceOp, ceI64, ceInt] at g0 g1 g2 g3
    obtain ⟨z0, rfl⟩ := trod_i64 Tryd.underlying27 g0
    obtain ⟨z1, rfl⟩ := trod_i64 Tryd.underlying2 g1
    obtain ⟨z2, rfl⟩ := trod_i64 Tryd.underlying3 g2
    obtain ⟨z3, rfl⟩ := trod_i64 Tryd.underlying3 g3
    exact ⟨⟨z0, z1, z2, z3⟩, rfl⟩

theorem code_in (n : Nat) (v : Value) (x : DataW H × List MemPlace) (h : DataW.trod enc Tryd.prog W 0 spare held n 49 [v] = some x) : ∃ l : List In, Lst W.heap.size 4 (InAt W) v l :=
  lst_of_trod (by decide) Tryd.underlying49 ceIns (fun n cs x hl h => by
    obtain ⟨y, rfl⟩ := ins_in hl h
    exact ⟨y, fun b o hc => ⟨hc 0 (by simp), hc 1 (by simp), hc 2 (by simp), hc 3 (by simp)⟩⟩) n v x h

set_option maxRecDepth 100000 in
theorem items_in (n : Nat) (v : Value) (x : DataW H × List MemPlace) (h : DataW.trod enc Tryd.prog W 0 spare held n 61 [v] = some x) : ∃ l : List It, Lst W.heap.size 2 (ItAt W) v l :=
  lst_of_trod (by decide) Tryd.underlying61 ceItem (fun n cs x hl h => by
    obtain ⟨xs, k, hk, hxy, hlen, hxl, hf⟩ := DataW.trod_struct Tryd.underlying64 h
    match xs, hxl, cs, hl with
    | [y0, y1], _, [v0, v1], _ =>
      have g0 := hf 0 _ rfl
      have g1 := hf 1 _ rfl
      simp [ceIk, ceStr] at g0 g1
      obtain ⟨z0, rfl⟩ := trod_i64 Tryd.underlying62 g0
      obtain ⟨z1, rfl⟩ := trod_str g1
      exact ⟨⟨z0, z1⟩, fun b o hc => ⟨hc 0 (by simp), hc 1 (by simp)⟩⟩) n v x h

theorem bools_in (n : Nat) (v : Value) (x : DataW H × List MemPlace) (h : DataW.trod enc Tryd.prog W 0 spare held n 43 [v] = some x) : ∃ l : List Bool, Lst W.heap.size 1 (BoAt W) v l :=
  lst_of_trod (by decide) Tryd.underlying43 ceBool (fun n cs x hl h => by
    match cs, hl with
    | [v0], _ =>
      obtain ⟨z0, rfl⟩ := trod_bool h
      exact ⟨z0, fun b o hc => hc 0 (by simp)⟩) n v x h

theorem prints_in (n : Nat) (v : Value) (x : DataW H × List MemPlace) (h : DataW.trod enc Tryd.prog W 0 spare held n 23 [v] = some x) : ∃ l : List (List It), Lst W.heap.size 1 (PrAt W.heap.size W) v l :=
  lst_of_trod (by decide) Tryd.underlying23 ceItems (fun n cs x hl h => by
    match cs, hl with
    | [v0], _ =>
      obtain ⟨l, hl⟩ := items_in _ _ _ h
      exact ⟨l, fun b o hc => ⟨v0, hc 0 (by simp), hl⟩⟩) n v x h

theorem arms_in (n : Nat) (v : Value) (x : DataW H × List MemPlace) (h : DataW.trod enc Tryd.prog W 0 spare held n 24 [v] = some x) : ∃ l : List (List Bool), Lst W.heap.size 1 (ArAt W.heap.size W) v l :=
  lst_of_trod (by decide) Tryd.underlying24 ceBools (fun n cs x hl h => by
    match cs, hl with
    | [v0], _ =>
      obtain ⟨l, hl⟩ := bools_in _ _ _ h
      exact ⟨l, fun b o hc => ⟨v0, hc 0 (by simp), hl⟩⟩) n v x h

set_option maxRecDepth 100000 in
theorem funs_in (n : Nat) (v : Value) (x : DataW H × List MemPlace) (h : DataW.trod enc Tryd.prog W 0 spare held n 22 [v] = some x) : ∃ l : List Fu, Lst W.heap.size 5 (FuAt W.heap.size W) v l :=
  lst_of_trod (by decide) Tryd.underlying22 ceFunc (fun n cs x hl h => by
    obtain ⟨xs, k, hk, hxy, hlen, hxl, hf⟩ := DataW.trod_struct Tryd.underlying51 h
    match xs, hxl, cs, hl with
    | [y0, y1, y2, y3, y4], _, [v0, v1, v2, v3, v4], _ =>
      have g0 := hf 0 _ rfl
      have g1 := hf 1 _ rfl
      have g2 := hf 2 _ rfl
      have g3 := hf 3 _ rfl
      have g4 := hf 4 _ rfl
      simp [ceInt, ceStr, ceBool, ceCode] at g0 g1 g2 g3 g4
      obtain ⟨z0, rfl⟩ := trod_str g0
      obtain ⟨z1, rfl⟩ := trod_i64 Tryd.underlying3 g1
      obtain ⟨z2, rfl⟩ := trod_i64 Tryd.underlying3 g2
      obtain ⟨z3, rfl⟩ := trod_bool g3
      obtain ⟨l, hl⟩ := code_in _ _ _ g4
      exact ⟨⟨z0, z1, z2, z3, l⟩, fun b o hc => ⟨v4, hc 0 (by simp), hc 1 (by simp), hc 2 (by simp), hc 3 (by simp), hc 4 (by simp), hl⟩⟩) n v x h

set_option maxRecDepth 100000 in
/-- a program that came in -/
theorem prog_in {base : Nat} {v : Value} {d : DataW H} {q : List MemPlace} (hv : Value.okWide Tryd.prog W .any base 26 v)
    (h : DataW.Trod enc Tryd.prog W 0 (fun _ => true) true 26 v d q) : ∃ (p : Pg) (v1 v2 v3 : Value), v = pv v1 v2 v3 p.mn ∧ PgAt W.heap.size W v1 v2 v3 p := by
  obtain ⟨cs, rfl, hsz⟩ := okWide_struct Tryd.underlying26 hv
  rw [cePg] at hsz
  obtain ⟨n, hn⟩ := h
  obtain ⟨xs, k, hk, hxy, hlen, hxl, hf⟩ := DataW.trod_struct Tryd.underlying26 hn
  obtain ⟨cl⟩ := cs
  match xs, hxl, cl, hsz with
  | [y0, y1, y2, y3], _, [v0, v1, v2, v3], _ =>
    have g0 := hf 0 _ rfl
    have g1 := hf 1 _ rfl
    have g2 := hf 2 _ rfl
    have g3 := hf 3 _ rfl
    simp [Value.cells, ceInt, ceFs, cePs, ceAs] at g0 g1 g2 g3
    obtain ⟨l0, h0⟩ := funs_in _ _ _ g0
    obtain ⟨l1, h1⟩ := prints_in _ _ _ g1
    obtain ⟨l2, h2⟩ := arms_in _ _ _ g2
    obtain ⟨z3, rfl⟩ := trod_i64 Tryd.underlying3 g3
    exact ⟨⟨l0, l1, l2, z3⟩, v0, v1, v2, rfl, h0, h1, h2⟩

set_option maxRecDepth 100000 in
theorem instr_in {base : Nat} {v : Value} {d : DataW H} {q : List MemPlace} (hv : Value.okWide Tryd.prog W .any base 29 v)
    (h : DataW.Trod enc Tryd.prog W 0 (fun _ => true) true 29 v d q) : ∃ i : In, v = iv i := by
  obtain ⟨cs, rfl, hsz⟩ := okWide_struct Tryd.underlying29 hv
  rw [ceIns] at hsz
  obtain ⟨n, hn⟩ := h
  obtain ⟨cl⟩ := cs
  obtain ⟨y, e⟩ := ins_in (cs := cl) hsz hn
  subst e
  exact ⟨y, rfl⟩
end

end Go.Proofs.YtgheaieghoekhaaDoor
