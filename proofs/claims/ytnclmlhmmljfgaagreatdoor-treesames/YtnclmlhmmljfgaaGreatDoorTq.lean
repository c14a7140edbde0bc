/- Trees that came in, as they lie in memory; the three variables that the rows list, and a world that holds them. -/
import Derived.Test.YtnclmlhmmljfgaaGreatDoorTr
import Derived.Test.YtnclmlhmmljfgaaGreatDoorCards
import Derived.Test.YtnclmlhmmljfgaaGreatDoorTie
import Derived.ProofKit
import Derived.OpenShut
import Derived.ShutString
import Derived.Deep.DeepHandedRow
import Derived.Lib.LaidTab
import Derived.Stop.LaidErr
import Derived.SizedLaws
import Derived.Deep.SlicePairs
namespace Go.Proofs.YtnclmlhmmljfgaaGreatDoor
open Go.ChangeShapes Go.WideShapes Go.ChangeAt Go.RowKit Go.Deep

theorem own_knob : ownKnob Tryz.prog.godebug = none := by kernel_rfl

theorem laid_out : laidOutB Tryz.prog = true := by kernel_rfl

/-- the list that the rows of this seat bear -/
def laids3 : List (String × DataW Unit) := [("math/bits.deBruijn32tab", Rows.laid_math_bits_deBruijn32tab), ("math/bits.deBruijn64tab", Rows.laid_math_bits_deBruijn64tab), ("internal/strconv.uint64pow10", Rows.laid_internal_strconv_uint64pow10)]

def numsOf : DataW Unit → Array Value
  | .agg l => (l.filterMap fun | .lit (.int k z) => some (Value.int k z) | _ => Option.none).toArray
  | _ => #[]

/-- a world for the witness: the settled one, each listed variable holding what its initialiser lays -/
noncomputable def laidWorld (os : Os) : World :=
  let w0 := World.holding Tryz.prog os ⟨#[], #[], []⟩
  { w0 with heap := ((w0.heap.modify 0 fun
      | .cells _ t frozen => .cells (numsOf Rows.laid_internal_strconv_uint64pow10) t frozen
      | o => o).modify 1 fun
      | .cells _ t frozen => .cells (numsOf Rows.laid_math_bits_deBruijn32tab) t frozen
      | o => o).modify 2 fun
      | .cells _ t frozen => .cells (numsOf Rows.laid_math_bits_deBruijn64tab) t frozen
      | o => o }

theorem laid_met3 (os : Os) (args : Array Value) : laidMet Tryz.prog laids3 ((laidWorld os).forCall (fun _ _ => 0) ⟨#[], args, []⟩).memory :=
  laidMet_of_run' 8 (by kernel_rfl) (by kernel_rfl)

section
variable {H : Type} {enc : TypeId × Value → H} {w : World} {base : Nat} {spare : Nat → Bool} {held : Bool} {fuel : Nat} {v : Value} {x : DataW H × List MemPlace}

theorem trod_i64 {t : TypeId} (hu : Tryz.prog.underlying t = some (.int .i64)) (h : DataW.trod enc Tryz.prog w base spare held fuel t [v] = some x) : ∃ z, v = .int .i64 z := by
  cases fuel with
  | zero => simp [DataW.trod] at h
  | succ n =>
    simp only [DataW.trod, hu] at h
    cases v <;> simp at h
    rename_i k b
    obtain ⟨⟨rfl, h2⟩, _⟩ := h
    exact ⟨b, rfl⟩

theorem trod_str (h : DataW.trod enc Tryz.prog w base spare held fuel 9 [v] = some x) : ∃ s, v = .string s ∧ x.1 = .lit (.string s.data.toList) := by
  cases fuel with
  | zero => simp [DataW.trod] at h
  | succ n =>
    simp only [DataW.trod, Tryz.underlying9] at h
    cases v <;> simp at h
    rename_i s
    exact ⟨s, rfl, by rw [← h.2]⟩
end

theorem ceNode : Tryz.prog.cellsOf 25 = 8 := by kernel_rfl
theorem ceNodes : Tryz.prog.cellsOf 23 = 1 := by kernel_rfl
theorem ceKind : Tryz.prog.cellsOf 22 = 1 := by kernel_rfl
theorem ceStr : Tryz.prog.cellsOf 9 = 1 := by kernel_rfl
theorem ceI64 : Tryz.prog.cellsOf 2 = 1 := by kernel_rfl
theorem ceInt : Tryz.prog.cellsOf 3 = 1 := by kernel_rfl

abbrev rawMd : Md := ⟨false, false⟩

instance : Inhabited Tr := ⟨.mk ⟨0, .empty, 0, .empty, 0, 0, 0⟩ []⟩

set_option maxRecDepth 100000 in
/-- a list, and a node's cells, at any fuel -/
theorem tree_of_trod {H : Type} {enc : TypeId × Value → H} {W : World} {spare : Nat → Bool} {held : Bool} : ∀ (n : Nat),
    (∀ v x, DataW.trod enc Tryz.prog W 0 spare held n 23 [v] = some x → ∃ ts, Kids W rawMd (fun i => i < W.heap.size) v ts) ∧
    (∀ cs x, DataW.trod enc Tryz.prog W 0 spare held n 25 cs = some x → ∃ (f : Nd) (v : Value) (ts : List Tr), cs = [.int .i64 f.k, .string f.t, .int .i64 f.n, .string f.y, .int .i64 f.s, .int .i64 f.a, .int .i64 f.l, v] ∧ Kids W rawMd (fun i => i < W.heap.size) v ts)
  | 0 => ⟨fun v x h => by simp [DataW.trod] at h, fun cs x h => by simp [DataW.trod] at h⟩
  | n + 1 => by
    obtain ⟨ih1, ih2⟩ := tree_of_trod (enc := enc) (W := W) (spare := spare) (held := held) n
    refine ⟨fun v x h => ?_, fun cs x h => ?_⟩
    · rcases DataW.trod_slice Tryz.underlying23 h with ⟨e, _⟩ | ⟨a, len, cap, elems, rest, k, hk, e, _, _, hl, hc, hel, hg, _, _⟩
      · obtain rfl : v = .slice none 0 0 := by simpa using e
        exact ⟨[], Kids.nil _ rfl _ _ _⟩
      · obtain rfl : n = k := by omega
        obtain rfl : v = .slice (some a) len cap := by simpa using e
        by_cases h0 : len = 0
        · subst h0
          exact ⟨[], Kids.nil _ rfl _ _ _⟩
        rw [ceNode] at hg
        have hcell : ∀ i, i < len → ∃ t : Tr, ∃ v, W.cell? ((a.add (i * 8)).add 0) = some (.int .i64 t.f.k) ∧ W.cell? ((a.add (i * 8)).add 1) = some (.string t.f.t) ∧ W.cell? ((a.add (i * 8)).add 2) = some (.int .i64 t.f.n) ∧ W.cell? ((a.add (i * 8)).add 3) = some (.string t.f.y) ∧
            W.cell? ((a.add (i * 8)).add 4) = some (.int .i64 t.f.s) ∧ W.cell? ((a.add (i * 8)).add 5) = some (.int .i64 t.f.a) ∧ W.cell? ((a.add (i * 8)).add 6) = some (.int .i64 t.f.l) ∧ W.cell? ((a.add (i * 8)).add 7) = some v ∧ Kids W rawMd (fun i => i < W.heap.size) v t.ks := by
          intro i hi
          have h1 := hg i hi
          rw [List.getElem?_eq_getElem (by omega)] at h1
          obtain ⟨cs, h2, h3⟩ := Option.bind_eq_some_iff.1 h1
          obtain ⟨f, v, ts, rfl, hk⟩ := ih2 cs _ h3
          obtain ⟨_, _, hcell⟩ := World.cells?_some h2
          exact ⟨.mk f ts, v, hcell 0 (by omega), hcell 1 (by omega), hcell 2 (by omega), hcell 3 (by omega), hcell 4 (by omega), hcell 5 (by omega), hcell 6 (by omega), hcell 7 (by omega), hk⟩
        obtain ⟨R, hR⟩ := choose_lt hcell
        obtain ⟨b, off, spot⟩ := a
        have hspot : spot = none := by
          obtain ⟨_, q, _⟩ := hR 0 (by omega)
          have := World.cell?_spot q
          simpa [Addr.add] using this
        subst hspot
        have hplain : ∀ i j, ((⟨b, off, none⟩ : Addr).add i).add j = ⟨b, off + i + j, none⟩ := by intro i j; unfold Addr.add; split <;> split <;> simp_all <;> omega
        have hb : b < W.heap.size := by
          obtain ⟨_, c0, _⟩ := hR 0 (by omega)
          rw [hplain] at c0
          rcases Nat.lt_or_ge b W.heap.size with h1 | h1
          · exact h1
          · simp [World.cell?, Array.getElem?_eq_none h1] at c0
        have hm : maxLen = 9223372036854775807 ∨ maxLen ≤ 9223372036854775807 := by right; decide
        refine ⟨(List.range len).map R, b, off, ⟨Or.inr ⟨(by simp; omega), hb, (fun e => by cases e), cap, ?_, (by simp)⟩, (fun e => by cases e)⟩, RowAt.mk fun i hi => ?_⟩
        · have : ((List.range len).map R).length = len := by simp
          omega
        · have hi' : i < len := by simpa using hi
          obtain ⟨v, q0, q1, q2, q3, q4, q5, q6, q7, hk⟩ := hR i hi'
          rw [hplain] at q0 q1 q2 q3 q4 q5 q6 q7
          rw [List.getElem_map, List.getElem_range]
          exact NodeAt.shut q0 q1 q2 q3 q4 q5 q6 q7 hk
    · obtain ⟨xs, k, hk, hxy, hlen, hxl, hf⟩ := DataW.trod_struct Tryz.underlying25 h
      obtain rfl : n = k := by omega
      rw [ceNode] at hlen
      match xs, hxl, cs, hlen with
      | [y0, y1, y2, y3, y4, y5, y6, y7], _, [v0, v1, v2, v3, v4, v5, v6, v7], _ =>
        have g0 := hf 0 _ rfl
        have g1 := hf 1 _ rfl
        have g2 := hf 2 _ rfl
        have g3 := hf 3 _ rfl
        have g4 := hf 4 _ rfl
        have g5 := hf 5 _ rfl
        have g6 := hf 6 _ rfl
        have g7 := hf 7 _ rfl
        simp [ceKind, ceStr, ceI64, ceInt, ceNodes] at g0 g1 g2 g3 g4 g5 g6 g7
        obtain ⟨k0, rfl⟩ := trod_i64 Tryz.underlying22 g0
        obtain ⟨s1, rfl, _⟩ := trod_str g1
        obtain ⟨z2, rfl⟩ := trod_i64 Tryz.underlying2 g2
        obtain ⟨s3, rfl, _⟩ := trod_str g3
        obtain ⟨z4, rfl⟩ := trod_i64 Tryz.underlying3 g4
        obtain ⟨z5, rfl⟩ := trod_i64 Tryz.underlying3 g5
        obtain ⟨z6, rfl⟩ := trod_i64 Tryz.underlying3 g6
        obtain ⟨ts, hk⟩ := ih1 _ _ g7
        exact ⟨⟨k0, s1, z2, s3, z4, z5, z6⟩, v7, ts, rfl, hk⟩

set_option maxRecDepth 100000 in
/-- a node that came in -/
theorem node_in {H : Type} {enc : TypeId × Value → H} {W : World} {base : Nat} {v : Value} {d : DataW H} {p : List MemPlace} (hv : Value.okWide Tryz.prog W .any base 25 v)
    (h : DataW.Trod enc Tryz.prog W 0 (fun _ => true) true 25 v d p) : ∃ (t : Tr) (u : Value), v = nv t.f u ∧ Kids W rawMd (fun i => i < W.heap.size) u t.ks := by
  obtain ⟨cs, rfl, _⟩ := okWide_struct Tryz.underlying25 hv
  obtain ⟨n, hn⟩ := h
  obtain ⟨f, u, ts, e, hk⟩ := (tree_of_trod n).2 _ _ hn
  refine ⟨.mk f ts, u, ?_, hk⟩
  simp only [Value.cells] at e
  obtain ⟨l⟩ := cs
  have e2 : l = _ := e
  subst e2
  rfl

end Go.Proofs.YtnclmlhmmljfgaaGreatDoor
