/- LexBack: joined tokens are scanned as themselves, with a semicolon put in behind the last one where it calls for one, and the end. Proved: LexBackUptoCardSaid: where what comes in is of bulk at most 1048576 (the library's five variables start as the program's text lays them). -/
import Derived.Test.YtkbgnbcphmkjkaaDoorNumP
import Derived.Test.YtkbgnbcphmkjkaaDoorCards
import Derived.Test.YtkbgnbcphmkjkaaDoorTie
import Derived.ProofKit
import Derived.OpenShut
import Derived.ShutString
import Derived.Deep.DeepHandedRow
import Derived.Lib.LaidTab
import Derived.Stop.LaidErr
import Derived.SizedLaws
import Derived.Test.YtkbgnbcphmkjkaaDoorPj
import Derived.Deep.SlicePairs
import Derived.Test.YtkbgnbcphmkjkaaDoorWBC
import Derived.Test.YtkbgnbcphmkjkaaDoorWBD
namespace Go.Proofs.YtkbgnbcphmkjkaaDoor
open Go.ChangeShapes Go.WideShapes Go.ChangeAt Go.RowKit

theorem own_knob : ownKnob Tryd.prog.godebug = none := by kernel_rfl

theorem gPow : Tryd.prog.globalNamed "internal/strconv.uint64pow10" = some 1 := by kernel_rfl
theorem gPowType : (Tryd.prog.globals[1]?).map (·.type) = some 94 := by kernel_rfl
theorem cellsPow : Tryd.prog.cellsOf 94 = 20 := by kernel_rfl
theorem cellsU64 : Tryd.prog.cellsOf 85 = 1 := by kernel_rfl
theorem gER : Tryd.prog.globalNamed "strconv.ErrRange" = some 3 := by kernel_rfl
theorem gERType : (Tryd.prog.globals[3]?).map (·.type) = some 30 := by kernel_rfl
theorem cellsES : Tryd.prog.cellsOf 115 = 1 := by kernel_rfl
theorem cellsStr : Tryd.prog.cellsOf 9 = 1 := by kernel_rfl
theorem star : "*" ++ "errors.errorString" = "*errors.errorString" := by decide
theorem rowES (u : TypeId) (h : Tryd.prog.typeName? 3 u = some "*errors.errorString") : u = 113 :=
  typeName_ptr_named (nm := "errors.errorString") (by rw [star]; kernel_rfl) (by kernel_rfl) (by decide) u (by rw [star]; exact h)

theorem i64_of_wf {n : Int} (h : (Lit.int .i64 n).wf = true) : -9223372036854775808 ≤ n ∧ n ≤ 9223372036854775807 := by
  rw [show (Lit.int .i64 n).wf = (decide (-9223372036854775808 ≤ n) && decide (n ≤ 9223372036854775807)) from rfl, Bool.and_eq_true, decide_eq_true_eq, decide_eq_true_eq] at h
  exact h

/-- the list that all rows of this seat bear -/
def laids : List (String × DataW Unit) := [("math/bits.deBruijn32tab", Rows.laid_math_bits_deBruijn32tab), ("math/bits.deBruijn64tab", Rows.laid_math_bits_deBruijn64tab), ("internal/strconv.uint64pow10", Rows.laid_internal_strconv_uint64pow10), ("strconv.ErrRange", Rows.laid_strconv_ErrRange), ("strconv.ErrSyntax", Rows.laid_strconv_ErrSyntax)]

theorem vars_of {W : World} (h : laidMetH Tryd.prog laids W) : Vars W := by
  have h0 : laidMet Tryd.prog laids W := h
  have h1 := laidMet.tail (laidMet.tail h0)
  obtain ⟨a, s, hv, _⟩ := laid_sentinel (laidMet.tail h1) gER gERType Tryd.underlying30 rowES Tryd.underlying113 Tryd.underlying115 rfl rfl Tryd.underlying9 cellsES cellsStr
  exact ⟨Lib.tabIs_of_head (zs := Lib.pow10Tab) gPow gPowType Tryd.underlying94 Tryd.underlying85 cellsU64 cellsPow h1, _, _, hv⟩

/-- a world for the witness: the settled one, each listed variable holding what its initialiser lays -/
noncomputable def low : Nat := (World.holding Tryd.prog default ⟨#[], #[], []⟩).heap.size

def numsOf : DataW Unit → Array Value
  | .agg l => (l.filterMap fun | .lit (.int k z) => some (Value.int k z) | _ => Option.none).toArray
  | _ => #[]

noncomputable def laidWorld (os : Os) : World :=
  let w0 := World.holding Tryd.prog os ⟨#[.cells #[.string ⟨#[118, 97, 108, 117, 101, 32, 111, 117, 116, 32, 111, 102, 32, 114, 97, 110, 103, 101]⟩] 115, .cells #[.string ⟨#[105, 110, 118, 97, 108, 105, 100, 32, 115, 121, 110, 116, 97, 120]⟩] 115], #[], []⟩
  { w0 with heap := ((((w0.heap.modify 1 fun
      | .cells _ t frozen => .cells (numsOf Rows.laid_internal_strconv_uint64pow10) t frozen
      | o => o).modify 4 fun
      | .cells _ t frozen => .cells (numsOf Rows.laid_math_bits_deBruijn32tab) t frozen
      | o => o).modify 5 fun
      | .cells _ t frozen => .cells (numsOf Rows.laid_math_bits_deBruijn64tab) t frozen
      | o => o).modify 3 fun
      | .cells _ t frozen => .cells #[.iface 113 (.pointer (some ⟨low, 0, none⟩))] t frozen
      | o => o).modify 2 fun
      | .cells _ t frozen => .cells #[.iface 113 (.pointer (some ⟨low + 1, 0, none⟩))] t frozen
      | o => o }

theorem laid_met (os : Os) (args : Array Value) : laidMet Tryd.prog laids ((laidWorld os).forCall (fun _ _ => 0) ⟨#[], args, []⟩).memory :=
  laidMet_of_run' 8 (by kernel_rfl) (by kernel_rfl)

end Go.Proofs.YtkbgnbcphmkjkaaDoor

namespace Go.Proofs.YtkbgnbcphmkjkaaDoor
open Go.ChangeShapes Go.WideShapes Go.ChangeAt Go.RowKit Go.Deep

section
variable {H : Type} {enc : TypeId × Value → H} {w : World} {base : Nat} {spare : Nat → Bool} {held : Bool} {fuel : Nat} {v : Value} {x : DataW H × List MemPlace}

theorem trod_i64 {t : TypeId} (hu : Tryd.prog.underlying t = some (.int .i64)) (h : DataW.trod enc Tryd.prog w base spare held fuel t [v] = some x) : ∃ z, v = .int .i64 z ∧ -9223372036854775808 ≤ z ∧ z ≤ 9223372036854775807 := by
  cases fuel with
  | zero => simp [DataW.trod] at h
  | succ n =>
    simp only [DataW.trod, hu] at h
    cases v <;> simp at h
    rename_i k b
    obtain ⟨⟨rfl, h2⟩, _⟩ := h
    exact ⟨b, rfl, i64_of_wf h2⟩

theorem trod_str (h : DataW.trod enc Tryd.prog w base spare held fuel 9 [v] = some x) : ∃ s, v = .string s ∧ x.1 = .lit (.string s.data.toList) := by
  cases fuel with
  | zero => simp [DataW.trod] at h
  | succ n =>
    simp only [DataW.trod, Tryd.underlying9] at h
    cases v <;> simp at h
    rename_i s
    exact ⟨s, rfl, by rw [← h.2]⟩

end

theorem ceTok : Tryd.prog.cellsOf 28 = 5 := by kernel_rfl
theorem ceKind : Tryd.prog.cellsOf 26 = 1 := by kernel_rfl
theorem ceStr : Tryd.prog.cellsOf 9 = 1 := by kernel_rfl
theorem ceI64 : Tryd.prog.cellsOf 2 = 1 := by kernel_rfl
theorem ceInt : Tryd.prog.cellsOf 3 = 1 := by kernel_rfl

set_option maxRecDepth 100000 in
/-- one token, from its cells -/
theorem tok_of_trod {H : Type} {enc : TypeId × Value → H} {w : World} {base : Nat} {spare : Nat → Bool} {held : Bool} {n : Nat} {a : Addr} {cs : List Value} {x : DataW H × List MemPlace}
    (h1 : w.cells? base a 5 = some cs) (h2 : DataW.trod enc Tryd.prog w base spare held n 28 cs = some x) :
    ∃ r : RT, w.cell? (a.add 0) = some (.int .i64 r.k) ∧ w.cell? (a.add 1) = some (.string r.t) ∧ w.cell? (a.add 2) = some (.int .i64 r.n) ∧ w.cell? (a.add 3) = some (.int .i64 r.a) ∧ w.cell? (a.add 4) = some (.int .i64 r.l) ∧
      (-9223372036854775808 ≤ r.n ∧ r.n ≤ 9223372036854775807) ∧ ∃ d0 d2 d3 d4, x.1 = .agg [d0, .lit (.string r.t.data.toList), d2, d3, d4] := by
  obtain ⟨_, hlen, hcell⟩ := World.cells?_some h1
  obtain ⟨xs, k, _, hxy, _, hxl, hf⟩ := DataW.trod_struct Tryd.underlying28 h2
  match xs, hxl, cs, hlen with
  | [y0, y1, y2, y3, y4], _, [v0, v1, v2, v3, v4], _ =>
    have g0 := hf 0 _ rfl
    have g1 := hf 1 _ rfl
    have g2 := hf 2 _ rfl
    have g3 := hf 3 _ rfl
    have g4 := hf 4 _ rfl
    simp [ceKind, ceStr, ceI64, ceInt] at g0 g1 g2 g3 g4
    obtain ⟨k0, rfl, _⟩ := trod_i64 Tryd.underlying26 g0
    obtain ⟨s1, rfl, e1⟩ := trod_str g1
    obtain ⟨z2, rfl, b2⟩ := trod_i64 Tryd.underlying2 g2
    obtain ⟨z3, rfl, _⟩ := trod_i64 Tryd.underlying3 g3
    obtain ⟨z4, rfl, _⟩ := trod_i64 Tryd.underlying3 g4
    refine ⟨⟨k0, s1, z2, z3, z4⟩, hcell 0 (by omega), hcell 1 (by omega), hcell 2 (by omega), hcell 3 (by omega), hcell 4 (by omega), b2, y0.1, y2.1, y3.1, y4.1, ?_⟩
    rw [hxy]
    simp [e1]

instance : Inhabited RT := ⟨⟨0, ByteArray.empty, 0, 0, 0⟩⟩

theorem bulk_mem {H : Type} (ds : List (DataW H)) (d : DataW H) (h : d ∈ ds) : Rows.uptoBulk d ≤ Rows.uptoBulkAll ds := by
  induction ds with
  | nil => cases h
  | cons x r ih =>
    unfold Rows.uptoBulkAll
    rcases List.mem_cons.1 h with rfl | h
    · omega
    · have := ih h; omega

theorem bulk_pos {H : Type} (d : DataW H) : 1 ≤ Rows.uptoBulk d := by
  unfold Rows.uptoBulk
  split <;> omega

theorem bulk_len {H : Type} (ds : List (DataW H)) : ds.length ≤ Rows.uptoBulkAll ds := by
  induction ds with
  | nil => exact Nat.zero_le _
  | cons x r ih =>
    unfold Rows.uptoBulkAll
    have := bulk_pos x
    rw [List.length_cons]
    omega

set_option maxRecDepth 100000 in
/-- a list that came in -/
theorem toks_of_trod {H : Type} {enc : TypeId × Value → H} {W : World} {a : Option Addr} {len cap : Nat} {d : DataW H} {p : List MemPlace}
    (h : DataW.Trod enc Tryd.prog W 0 (fun _ => true) true 22 (.slice a len cap) d p) :
    len = 0 ∨ ∃ b off, ∃ l : List RT, a = some ⟨b, off, none⟩ ∧ l.length = len ∧ RRow W b off l ∧ (Rows.uptoBulk d ≤ 1048576 → RFit l) := by
  obtain ⟨fuel, hf⟩ := h
  rcases open_slice Tryd.underlying22 hf with ⟨hcs, _⟩ | ⟨x, l, c, m, n, D, Pl, hcs, _, hl, hm, hmm, hx, hcell⟩
  · simp [Value.cells] at hcs
    exact Or.inl hcs.2.1
  · simp [Value.cells] at hcs
    obtain ⟨rfl, rfl, rfl⟩ := hcs
    simp only [if_true] at hmm
    subst hmm
    by_cases h0 : len = 0
    · exact Or.inl h0
    · right
      rw [ceTok] at hcell
      obtain ⟨R, hR⟩ := choose_lt (α := RT) (n := m) (p := fun i r => W.cell? ((x.add (i * 5)).add 0) = some (.int .i64 r.k) ∧ W.cell? ((x.add (i * 5)).add 1) = some (.string r.t) ∧ W.cell? ((x.add (i * 5)).add 2) = some (.int .i64 r.n) ∧ W.cell? ((x.add (i * 5)).add 3) = some (.int .i64 r.a) ∧ W.cell? ((x.add (i * 5)).add 4) = some (.int .i64 r.l) ∧
        (-9223372036854775808 ≤ r.n ∧ r.n ≤ 9223372036854775807) ∧ ∃ d0 d2 d3 d4, D i = .agg [d0, .lit (.string r.t.data.toList), d2, d3, d4]) (fun i hi => by
          obtain ⟨cs', q1, q2⟩ := hcell i hi
          exact tok_of_trod q1 q2)
      obtain ⟨b, off, spot⟩ := x
      have hspot : spot = none := by
        have := World.cell?_spot (hR 0 (by omega)).1
        simpa [Addr.add] using this
      subst hspot
      have hplain : ∀ i j, ((⟨b, off, none⟩ : Addr).add i).add j = ⟨b, off + i + j, none⟩ := by intro i j; unfold Addr.add; split <;> split <;> simp_all <;> omega
      refine ⟨b, off, (List.range len).map R, rfl, by simp, ⟨fun _ => ?_, fun i hi => ?_⟩, fun hk => ⟨?_, fun r hr => ?_⟩⟩
      · have c0 := (hR 0 (by omega)).1
        rw [hplain] at c0
        rcases Nat.lt_or_ge b W.heap.size with h1 | h1
        · exact h1
        · simp [World.cell?, Array.getElem?_eq_none h1] at c0
      · have hi' : i < len := by simpa using hi
        obtain ⟨q0, q1, q2, q3, q4, _⟩ := hR i (by omega)
        rw [hplain] at q0 q1 q2 q3 q4
        rw [List.getElem_map, List.getElem_range]
        exact ⟨q0, q1, q2, q3, q4⟩
      · have e := (Prod.mk.inj hx).1
        subst e
        unfold Rows.uptoBulk at hk
        have := bulk_len (List.map D (List.range len))
        rw [List.length_map, List.length_range] at this ⊢
        omega
      · obtain ⟨i, hi, rfl⟩ := List.mem_map.1 hr
        have hi' := List.mem_range.1 hi
        obtain ⟨_, _, _, _, _, bn, d0, d2, d3, d4, ed⟩ := hR i (by omega)
        refine ⟨?_, bn⟩
        have e := (Prod.mk.inj hx).1
        subst e
        unfold Rows.uptoBulk at hk
        have h1 := bulk_mem (List.map D (List.range len)) (D i) (List.mem_map.2 ⟨i, hi, rfl⟩)
        rw [ed] at h1
        simp only [Rows.uptoBulk, Rows.uptoBulkAll] at h1
        rw [size_len]
        omega

end Go.Proofs.YtkbgnbcphmkjkaaDoor

namespace Go.Proofs.YtkbgnbcphmkjkaaDoor
open Go.ChangeShapes Go.WideShapes Go.ChangeAt Go.RowKit
open Go.ChangeMaps (open_string shut_string)

theorem split_last {l : List RT} {N : Nat} (h : l.length = N + 1) : ∃ x e, l = x ++ [e] ∧ x.length = N := by
  have hn : l ≠ [] := by intro hc; rw [hc] at h; cases h
  exact ⟨l.dropLast, l.getLast hn, (List.dropLast_concat_getLast hn).symm, by rw [List.length_dropLast, h]; omega⟩

theorem jtx_one {e : RT} (he : e.k = 0) : jtx ([] ++ [e]) = [] := by
  have het : e.tx = [] := by unfold RT.tx wtx; rw [if_neg (by omega), if_neg (by omega), if_neg (by omega), if_neg (by omega)]
  rw [jtx_end het]
  rfl

/-- a list with no end behind -/
theorem lback_all {w : World} {b off cap K : Nat} {l : List RT} (hr : RRow w b off l) (hf : RFit l) (hL : l.length = K + 1) (hV : Vars w) (hj : jok l = true) (hs : (jtx l).length ≤ 20000) (hk : ∀ (h : K < l.length), ¬ l[K].k = 0) :
    Calls Tryd.prog 3 #[.slice (some ⟨b, off, none⟩) (K + 1) cap] w fun e w' => e = .returned (.bool true) ∧ Below w.heap.size w w' := by
  have e1 : l.length - 1 = K := by omega
  obtain ⟨m, put, hsc, hA⟩ := again_all hf hj hs (by simp only [e1]; exact hk)
  have hc := hA.calls
  simp only [e1] at hc
  have hl := hA.last
  have hn := hA.len
  have hm := hA.semi
  have ht := hA.tok
  cases put
  · have hn : m.length = K + 2 := by rw [hn, hL]; rfl
    have e2 : m.length - 1 = K + 1 := by omega
    simp only [e2] at hl
    exact lback_An hr hf hL hV hj hs hsc hn (fun i h h1 h2 => ht i h1 h2) hc hl hk
  · have hn : m.length = K + 3 := by rw [hn, hL]; rfl
    have e2 : m.length - 1 = K + 2 := by omega
    simp only [e2] at hl
    have hm := hm rfl
    simp only [hL] at hm
    exact lback_Ap hr hf hL hV hj hs hsc hn (fun i h h1 h2 => ht i h1 h2) hc hm hl hk

/-- a list with an end behind -/
theorem lback_end {w : World} {b off cap K : Nat} {x : List RT} {e : RT} (hx : x.length = K + 1) (he : e.k = 0) (hr : RRow w b off (x ++ [e])) (hf : RFit (x ++ [e])) (hV : Vars w) (hj : jok (x ++ [e]) = true) (hs : (jtx (x ++ [e])).length ≤ 20000) :
    Calls Tryd.prog 3 #[.slice (some ⟨b, off, none⟩) (K + 2) cap] w fun e w' => e = .returned (.bool true) ∧ Below w.heap.size w w' := by
  have hL : (x ++ [e]).length = K + 2 := by rw [List.length_append, hx]; rfl
  obtain ⟨m, put, hsc, hA⟩ := again_end he hf hj hs
  have e1 : x.length - 1 = K := by omega
  have hc := hA.calls
  simp only [e1] at hc
  have hl := hA.last
  have hn := hA.len
  have hm := hA.semi
  have ht : ∀ i (_ : i < K + 1) (h1 : i < (x ++ [e]).length) (h2 : i < m.length), m[i].k = (x ++ [e])[i].k ∧ m[i].t = (x ++ [e])[i].st ∧ m[i].n = (x ++ [e])[i].sn := fun i h h1 h2 => by
    rw [List.getElem_append_left (by omega)]
    exact hA.tok i (by omega) h2
  have hc' : ∀ (h : K < (x ++ [e]).length), callsK (x ++ [e])[K].k (x ++ [e])[K].t.data.toList = put := fun h => by
    rw [List.getElem_append_left (by omega)]
    exact hc (by omega)
  have hk : ∀ (h : K + 1 < (x ++ [e]).length), (x ++ [e])[K + 1].k = 0 := fun h => by
    rw [List.getElem_append_right (by omega)]
    simp only [hx, Nat.sub_self, List.getElem_singleton]
    exact he
  cases put
  · have hn : m.length = K + 2 := by rw [hn, hx]; rfl
    have e2 : m.length - 1 = K + 1 := by omega
    simp only [e2] at hl
    exact lback_Bn hr hf hL hV hj hs hsc hn ht hc' hl hk
  · have hn : m.length = K + 3 := by rw [hn, hx]; rfl
    have e2 : m.length - 1 = K + 2 := by omega
    simp only [e2] at hl
    have hm := hm rfl
    simp only [hx] at hm
    exact lback_Bp hr hf hL hV hj hs hsc hn ht hc' hm hl hk

theorem lback_any {w : World} {a : Option Addr} {len cap : Nat} (hV : Vars w) (ht : len = 0 ∨ ∃ b off, ∃ l : List RT, a = some ⟨b, off, none⟩ ∧ l.length = len ∧ RRow w b off l ∧ RFit l) :
    Calls Tryd.prog 3 #[.slice a len cap] w fun e w' => e = .returned (.bool true) ∧ Below w.heap.size w w' := by
  by_cases h0 : len = 0
  · subst h0
    exact lback_empty a cap w hV
  rcases ht with h | ⟨b, off, l, rfl, hL, hr, hf⟩
  · exact absurd h h0
  cases hj : jok l
  · exact lback_no hr hf hL hV hj
  by_cases hs : (jtx l).length ≤ 20000
  · obtain ⟨N, rfl⟩ : ∃ N, len = N + 1 := ⟨len - 1, by omega⟩
    have hN : N < l.length := by rw [hL]; exact Nat.lt_succ_self N
    by_cases hk : l[N].k = 0
    rotate_left
    · exact lback_all hr hf hL hV hj hs (fun _ => hk)
    · obtain ⟨x, e, rfl, hx⟩ := split_last hL
      have h1 : (x ++ [e])[N]'hN = e := by
        rw [List.getElem_append_right (Nat.le_of_eq hx)]
        simp only [hx, Nat.sub_self, List.getElem_singleton]
      have he : e.k = 0 := by rw [h1] at hk; exact hk
      cases N with
      | zero =>
        have : x = [] := List.eq_nil_of_length_eq_zero hx
        subst this
        exact lback_one hr hf rfl hV hj (fun _ => he) (jtx_one he)
      | succ K => exact lback_end hx he hr hf hV hj hs
  · exact lback_long hr hf hL hV hj hs

theorem laid_out : laidOutB Tryd.prog = true := by kernel_rfl

set_option maxRecDepth 100000 in
theorem lbackc_contract (H : Type) (enc : TypeId × Value → H) (W : World) (base : Nat) (args : Array Value) (ds gs : List (DataW H)) (before : List MemPlace)
    (hval : ∀ (j : Nat) t v, Tryd.f3.params[j]? = some t → args[j]? = some v → Value.okWide Tryd.prog W .any base t v)
    (hW : DataW.Whole enc Tryd.prog Tryd.f3.params.toList Rows.lexBackSpec.vars false W args.toList ds gs before) (hk : Rows.uptoSmall H (ds ++ gs) = true)
    (hL : laidMetH Tryd.prog laids W) :
    Calls Tryd.prog 3 args W fun e W' => ∃ v, e = .returned v ∧ Rows.lexBackSpec.post enc Tryd.prog Tryd.f3 false true false false W args v W' := by
  have hW' := hW
  obtain ⟨p, q, hA0, hVr, rfl, hfz, hnd⟩ := hW
  have hA : DataW.TrodAll enc Tryd.prog W 0 (fun _ => true) true Tryd.f3.params.toList args.toList ds p := hA0
  rw [Tryd.params3] at hA hval
  obtain ⟨v0, vs0, d0, ds0, p0, q0, hargs, rfl, rfl, h0, r0⟩ := trodAll_cons hA
  obtain ⟨rfl, rfl, rfl⟩ := trodAll_nil r0
  obtain rfl : args = #[v0] := by cases args; simp_all
  obtain ⟨rfl, rfl⟩ := trodVars_none hVr
  obtain ⟨a0, len0, cap0, rfl⟩ := okWide_slice Tryd.underlying22 (hval 0 22 v0 rfl rfl)
  have k0 := h0
  have lt0 : ∀ x ∈ p0, x.block < W.heap.size := by obtain ⟨m, hm⟩ := k0; exact DataW.trod_lt m _ _ _ hm
  clear hA0
  simp only [List.append_nil] at hW' hk
  have hz : Rows.uptoBulk d0 ≤ 1048576 := by
    have h : Rows.uptoBulkAll [d0] ≤ 1048576 := of_decide_eq_true hk
    simp only [Rows.uptoBulkAll] at h
    omega
  have ht : len0 = 0 ∨ ∃ b off, ∃ l : List RT, a0 = some ⟨b, off, none⟩ ∧ l.length = len0 ∧ RRow W b off l ∧ RFit l := by
    rcases toks_of_trod h0 with e | ⟨b, off, l, e1, e2, e3, e4⟩
    · exact Or.inl e
    · exact Or.inr ⟨b, off, l, e1, e2, e3, e4 hz⟩
  refine (lback_any (vars_of hL) ht).mono fun e W' ⟨he, bel⟩ => ?_
  subst he
  exact ⟨_, rfl, _, _, _, [], _, [], hW', trodAll_mk1 (shut_bool Tryd.underlying4 _), (trodAll_cons_mk (Below.trod laid_out (by kernel_rfl) (of_decide_eq_true (by kernel_rfl)) k0 bel lt0) trodAll_mk0), rfl, bel.frame _, fun h => by cases h⟩

theorem lbackc_reads (os : Os) {H : Type} (enc : TypeId × Value → H) : ∃ places, DataW.whole enc Tryd.prog ((laidWorld os).forCall (fun _ _ => 0) ⟨#[], #[.slice none 0 0], []⟩).memory Tryd.f3.params.toList Rows.lexBackSpec.vars false (#[.slice none 0 0] : Array Value).toList 8 = some ([.nil], [], places) :=
  ⟨[], by kernel_rfl⟩

set_option maxRecDepth 100000 in
theorem lbackc_lifted (os : Os) (started : os.Started) (H : Type) (enc : TypeId × Value → H) (F : Stop.Interp) :
    ReturnsInHanded {} Tryd.checked os 3 .any ((Rows.OpenSpec.upto Rows.lexBackSpec).preRow enc Tryd.prog Tryd.f3 Rows.lexBackUptoRow.domain false Rows.lexBackUptoRow.laid) (((Rows.OpenSpec.upto Rows.lexBackSpec).at F).post enc Tryd.prog Tryd.f3 false true false false) := by
  obtain ⟨places, hx⟩ := lbackc_reads os enc
  refine returnsInHanded_of_row (C := Tryd.checked) (s := Rows.OpenSpec.upto Rows.lexBackSpec) own_knob started (by kernel_rfl) Tryd.func3
    (witness_row_at (enc := enc) (C := Tryd.checked) false (laidWorld os) #[.slice none 0 0] rfl (by kernel_rfl) (by kernel_rfl) (by kernel_rfl)
      (OpenSpec.preRow_of_cond 8 hx (by kernel_rfl) (fun k hk => by cases hk; kernel_rfl) (by kernel_rfl) (laid_met os _))) ?_
  intro W base args ds gs before hval hW _ hcond _ hL _ _
  exact lbackc_contract H enc W base args ds gs before hval hW (hcond _ rfl) hL

theorem lbackc_said : Rows.LexBackUptoSaid :=
  OpenClaim.holds_of_cond 3 Tryd.f3 rfl rfl rfl rfl rfl rfl rfl ⟨rfl, rfl, rfl, rfl, rfl⟩ rfl rfl rfl rfl rfl (by kernel_rfl) Tryd.func3 (by kernel_rfl)
    (of_decide_eq_true (by kernel_rfl)) (by unfold Func.isWrapper; first | (rw [if_pos (by decide +kernel)]; kernel_rfl) | (rw [if_neg (by decide +kernel)]; exact ⟨rfl, rfl⟩))
    (fun os started H enc _ F => by rw [OpenClaim.pre_eq_preRow]; exact lbackc_lifted os started H enc F)

theorem lbackc_plain (f : FuncId) (fn : Func) (hf : Tryd.pinned.checked.prog.funcNamed "drowse/drowselaw03.LexBack" = some f) (hfn : Tryd.pinned.checked.prog.funcs[f]? = some fn) :
    true = Tryd.pinned.checked.prog.looks [] ∧ ∀ (j : Nat) t, fn.params[j]? = some t → Tryd.pinned.checked.prog.wantsStandIn t = false := by
  obtain rfl : f = 3 := Option.some.inj ((show Tryd.prog.funcNamed "drowse/drowselaw03.LexBack" = some 3 by kernel_rfl).symm.trans hf) |>.symm
  obtain rfl : fn = Tryd.f3 := (Option.some.inj (Tryd.func3.symm.trans hfn)).symm
  refine ⟨by kernel_rfl, fun j t ht => ?_⟩
  rw [Tryd.params3] at ht
  have hm := Array.mem_of_getElem? ht
  have h2 : t = 22 := by simpa using hm
  subst h2
  exact (show Tryd.prog.wantsStandIn 22 = false by kernel_rfl)

theorem lexBack_holds : Rows.LexBackUptoCardSaid :=
  Claim7.holds_tied_plain_at .later [] _ _ _ _ lbackc_said (fun _ h => by cases h) (by kernel_rfl) (fun _ h => by cases h) lexBackUpto_row_tie rfl ⟨rfl, rfl⟩ (by kernel_rfl) rfl lbackc_plain (by kernel_rfl)

end Go.Proofs.YtkbgnbcphmkjkaaDoor
