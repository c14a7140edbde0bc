/- A list of tokens that came in, as it lies in memory. -/
import Derived.Test.YtjkogjmbmkopiaaDoorPj
import Derived.Test.YtjkogjmbmkopiaaDoorLaid
import Derived.Deep.SlicePairs
namespace Go.Proofs.YtjkogjmbmkopiaaDoor
open Go.ChangeShapes Go.WideShapes Go.ChangeAt Go.RowKit Go.Deep

section
variable {H : Type} {enc : TypeId × Value → H} {w : World} {base : Nat} {spare : Nat → Bool} {held : Bool} {fuel : Nat} {v : Value} {x : DataW H × List MemPlace}

theorem trod_i64 {t : TypeId} (hu : Tryd.prog.underlying t = some (.int .i64)) (h : DataW.trod enc Tryd.prog w base spare held fuel t [v] = some x) : ∃ z, v = .int .i64 z ∧ -9223372036854775808 ≤ z ∧ z ≤ 9223372036854775807 := by
  cases fuel with
  | zero => simp [DataW.trod] at h
  | succ n =>
    simp only [DataW.trod, hu] at h
    cases v <;> simp at h
    rename_i k b
    obtain ⟨⟨rfl, h2⟩, _⟩ := h
    exact ⟨b, rfl, i64_of_wf h2⟩

theorem trod_str (h : DataW.trod enc Tryd.prog w base spare held fuel 9 [v] = some x) : ∃ s, v = .string s ∧ x.1 = .lit (.string s.data.toList) := by
  cases fuel with
  | zero => simp [DataW.trod] at h
  | succ n =>
    simp only [DataW.trod, Tryd.underlying9] at h
    cases v <;> simp at h
    rename_i s
    exact ⟨s, rfl, by rw [← h.2]⟩

end

theorem ceTok : Tryd.prog.cellsOf 42 = 5 := by kernel_rfl
theorem ceKind : Tryd.prog.cellsOf 40 = 1 := by kernel_rfl
theorem ceStr : Tryd.prog.cellsOf 9 = 1 := by kernel_rfl
theorem ceI64 : Tryd.prog.cellsOf 2 = 1 := by kernel_rfl
theorem ceInt : Tryd.prog.cellsOf 3 = 1 := by kernel_rfl

set_option maxRecDepth 100000 in
/-- one token, from its cells -/
theorem tok_of_trod {H : Type} {enc : TypeId × Value → H} {w : World} {base : Nat} {spare : Nat → Bool} {held : Bool} {n : Nat} {a : Addr} {cs : List Value} {x : DataW H × List MemPlace}
    (h1 : w.cells? base a 5 = some cs) (h2 : DataW.trod enc Tryd.prog w base spare held n 42 cs = some x) :
    ∃ r : RT, w.cell? (a.add 0) = some (.int .i64 r.k) ∧ w.cell? (a.add 1) = some (.string r.t) ∧ w.cell? (a.add 2) = some (.int .i64 r.n) ∧ w.cell? (a.add 3) = some (.int .i64 r.a) ∧ w.cell? (a.add 4) = some (.int .i64 r.l) ∧
      (-9223372036854775808 ≤ r.n ∧ r.n ≤ 9223372036854775807) ∧ ∃ d0 d2 d3 d4, x.1 = .agg [d0, .lit (.string r.t.data.toList), d2, d3, d4] := by
  obtain ⟨_, hlen, hcell⟩ := World.cells?_some h1
  obtain ⟨xs, k, _, hxy, _, hxl, hf⟩ := DataW.trod_struct Tryd.underlying42 h2
  match xs, hxl, cs, hlen with
  | [y0, y1, y2, y3, y4], _, [v0, v1, v2, v3, v4], _ =>
    have g0 := hf 0 _ rfl
    have g1 := hf 1 _ rfl
    have g2 := hf 2 _ rfl
    have g3 := hf 3 _ rfl
    have g4 := hf 4 _ rfl
    simp [ceKind, ceStr, ceI64, ceInt] at g0 g1 g2 g3 g4
    obtain ⟨k0, rfl, _⟩ := trod_i64 Tryd.underlying40 g0
    obtain ⟨s1, rfl, e1⟩ := trod_str g1
    obtain ⟨z2, rfl, b2⟩ := trod_i64 Tryd.underlying2 g2
    obtain ⟨z3, rfl, _⟩ := trod_i64 Tryd.underlying3 g3
    obtain ⟨z4, rfl, _⟩ := trod_i64 Tryd.underlying3 g4
    refine ⟨⟨k0, s1, z2, z3, z4⟩, hcell 0 (by omega), hcell 1 (by omega), hcell 2 (by omega), hcell 3 (by omega), hcell 4 (by omega), b2, y0.1, y2.1, y3.1, y4.1, ?_⟩
    rw [hxy]
    simp [e1]

instance : Inhabited RT := ⟨⟨0, ByteArray.empty, 0, 0, 0⟩⟩

theorem bulk_mem {H : Type} (ds : List (DataW H)) (d : DataW H) (h : d ∈ ds) : Rows.uptoBulk d ≤ Rows.uptoBulkAll ds := by
  induction ds with
  | nil => cases h
  | cons x r ih =>
    unfold Rows.uptoBulkAll
    rcases List.mem_cons.1 h with rfl | h
    · omega
    · have := ih h; omega

theorem bulk_pos {H : Type} (d : DataW H) : 1 ≤ Rows.uptoBulk d := by
  unfold Rows.uptoBulk
  split <;> omega

theorem bulk_len {H : Type} (ds : List (DataW H)) : ds.length ≤ Rows.uptoBulkAll ds := by
  induction ds with
  | nil => exact Nat.zero_le _
  | cons x r ih =>
    unfold Rows.uptoBulkAll
    have := bulk_pos x
    rw [List.length_cons]
    omega

set_option maxRecDepth 100000 in
/-- a list that came in -/
theorem toks_of_trod {H : Type} {enc : TypeId × Value → H} {W : World} {a : Option Addr} {len cap : Nat} {d : DataW H} {p : List MemPlace}
    (h : DataW.Trod enc Tryd.prog W 0 (fun _ => true) true 22 (.slice a len cap) d p) :
    len = 0 ∨ ∃ b off, ∃ l : List RT, a = some ⟨b, off, none⟩ ∧ l.length = len ∧ RRow W b off l ∧ (Rows.uptoBulk d ≤ 1048576 → RFit l) := by
  obtain ⟨fuel, hf⟩ := h
  rcases open_slice Tryd.underlying22 hf with ⟨hcs, _⟩ | ⟨x, l, c, m, n, D, Pl, hcs, _, hl, hm, hmm, hx, hcell⟩
  · simp [Value.cells] at hcs
    exact Or.inl hcs.2.1
  · simp [Value.cells] at hcs
    obtain ⟨rfl, rfl, rfl⟩ := hcs
    simp only [if_true] at hmm
    subst hmm
    by_cases h0 : len = 0
    · exact Or.inl h0
    · right
      rw [ceTok] at hcell
      obtain ⟨R, hR⟩ := choose_lt (α := RT) (n := m) (p := fun i r => W.cell? ((x.add (i * 5)).add 0) = some (.int .i64 r.k) ∧ W.cell? ((x.add (i * 5)).add 1) = some (.string r.t) ∧ W.cell? ((x.add (i * 5)).add 2) = some (.int .i64 r.n) ∧ W.cell? ((x.add (i * 5)).add 3) = some (.int .i64 r.a) ∧ W.cell? ((x.add (i * 5)).add 4) = some (.int .i64 r.l) ∧
        (-9223372036854775808 ≤ r.n ∧ r.n ≤ 9223372036854775807) ∧ ∃ d0 d2 d3 d4, D i = .agg [d0, .lit (.string r.t.data.toList), d2, d3, d4]) (fun i hi => by
          obtain ⟨cs', q1, q2⟩ := hcell i hi
          exact tok_of_trod q1 q2)
      obtain ⟨b, off, spot⟩ := x
      have hspot : spot = none := by
        have := World.cell?_spot (hR 0 (by omega)).1
        simpa [Addr.add] using this
      subst hspot
      have hplain : ∀ i j, ((⟨b, off, none⟩ : Addr).add i).add j = ⟨b, off + i + j, none⟩ := by intro i j; unfold Addr.add; split <;> split <;> simp_all <;> omega
      refine ⟨b, off, (List.range len).map R, rfl, by simp, ⟨fun _ => ?_, fun i hi => ?_⟩, fun hk => ⟨?_, fun r hr => ?_⟩⟩
      · have c0 := (hR 0 (by omega)).1
        rw [hplain] at c0
        rcases Nat.lt_or_ge b W.heap.size with h1 | h1
        · exact h1
        · simp [World.cell?, Array.getElem?_eq_none h1] at c0
      · have hi' : i < len := by simpa using hi
        obtain ⟨q0, q1, q2, q3, q4, _⟩ := hR i (by omega)
        rw [hplain] at q0 q1 q2 q3 q4
        rw [List.getElem_map, List.getElem_range]
        exact ⟨q0, q1, q2, q3, q4⟩
      · have e := (Prod.mk.inj hx).1
        subst e
        unfold Rows.uptoBulk at hk
        have := bulk_len (List.map D (List.range len))
        rw [List.length_map, List.length_range] at this ⊢
        omega
      · obtain ⟨i, hi, rfl⟩ := List.mem_map.1 hr
        have hi' := List.mem_range.1 hi
        obtain ⟨_, _, _, _, _, bn, d0, d2, d3, d4, ed⟩ := hR i (by omega)
        refine ⟨?_, bn⟩
        have e := (Prod.mk.inj hx).1
        subst e
        unfold Rows.uptoBulk at hk
        have h1 := bulk_mem (List.map D (List.range len)) (D i) (List.mem_map.2 ⟨i, hi, rfl⟩)
        rw [ed] at h1
        simp only [Rows.uptoBulk, Rows.uptoBulkAll] at h1
        rw [size_len]
        omega

end Go.Proofs.YtjkogjmbmkopiaaDoor
