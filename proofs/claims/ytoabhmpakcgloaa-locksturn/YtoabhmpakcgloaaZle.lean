/- LocksTurn for every script: a mutex is held by one at most, who asked for it first has it first, and while it is free nobody waits for it. There are no conditions. Layer 14: arguments that came in: rows, handles, values. Layer 16: LocksTurn's argument: a list of steps. -/
import Derived.Test.YtoabhmpakcgloaaXa
import Derived.ProofKit
import Derived.OpenShut
import Derived.ShutString
import Derived.JoinedCond
import Derived.Deep.DeepHandedRow
import Derived.Deep.SlicePairs
import Derived.Carry
import Derived.ChangeOld
import Derived.Below
import Derived.Test.YtoabhmpakcgloaaZli
import Derived.Deep.MidRow
namespace Go.Proofs.Ytoabhmpakcgloaa
open Go.ChangeShapes Go.WideShapes Go.ChangeAt Go.RowKit Go.Deep

theorem own_knob : ownKnob Try.prog.godebug = none := by kernel_rfl
theorem laid_out : laidOutB Try.prog = true := by kernel_rfl
theorem i64_of_wf {n : Int} (h : (Lit.int .i64 n).wf = true) : -9223372036854775808 ≤ n ∧ n ≤ 9223372036854775807 := by
  rw [show (Lit.int .i64 n).wf = (decide (-9223372036854775808 ≤ n) && decide (n ≤ 9223372036854775807)) from rfl, Bool.and_eq_true, decide_eq_true_eq, decide_eq_true_eq] at h
  exact h

theorem u32_of_wf {n : Int} (h : (Lit.int .u32 n).wf = true) : UsW n := by
  rw [show (Lit.int .u32 n).wf = (decide (0 ≤ n) && decide (n ≤ 4294967295)) from rfl, Bool.and_eq_true, decide_eq_true_eq, decide_eq_true_eq] at h
  exact h

section
variable {H : Type} {enc : TypeId × Value → H} {w : World} {base : Nat} {spare : Nat → Bool} {held : Bool} {fuel : Nat} {v : Value} {x : DataW H × List MemPlace}

theorem trod_i64 {t : TypeId} (hu : Try.prog.underlying t = some (.int .i64)) (h : DataW.trod enc Try.prog w base spare held fuel t [v] = some x) : ∃ z, v = .int .i64 z ∧ -9223372036854775808 ≤ z ∧ z ≤ 9223372036854775807 := by
  cases fuel with
  | zero => simp [DataW.trod] at h
  | succ n =>
    simp only [DataW.trod, hu] at h
    cases v <;> simp at h
    rename_i k b
    obtain ⟨⟨rfl, h2⟩, _⟩ := h
    exact ⟨b, rfl, i64_of_wf h2⟩
theorem trod_u32 {t : TypeId} (hu : Try.prog.underlying t = some (.int .u32)) (h : DataW.trod enc Try.prog w base spare held fuel t [v] = some x) : ∃ z, v = .int .u32 z ∧ UsW z := by
  cases fuel with
  | zero => simp [DataW.trod] at h
  | succ n =>
    simp only [DataW.trod, hu] at h
    cases v <;> simp at h
    rename_i k b
    obtain ⟨⟨rfl, h2⟩, _⟩ := h
    exact ⟨b, rfl, u32_of_wf h2⟩
theorem trod_bool (h : DataW.trod enc Try.prog w base spare held fuel 4 [v] = some x) : ∃ s, v = .bool s := by
  cases fuel with
  | zero => simp [DataW.trod] at h
  | succ n =>
    simp only [DataW.trod, Try.underlying4] at h
    cases v <;> simp at h
    rename_i s
    exact ⟨s, rfl⟩
end

theorem ceInt : Try.prog.cellsOf 3 = 1 := by kernel_rfl
theorem ceSide : Try.prog.cellsOf 58 = 1 := by kernel_rfl
theorem ceBool : Try.prog.cellsOf 4 = 1 := by kernel_rfl
theorem ceU32 : Try.prog.cellsOf 33 = 1 := by kernel_rfl
theorem ceHd : Try.prog.cellsOf 35 = 2 := by kernel_rfl
theorem ceVal : Try.prog.cellsOf 43 = 3 := by kernel_rfl
theorem ceI64 : Try.prog.cellsOf 2 = 1 := by kernel_rfl
theorem ceRow : Try.prog.cellsOf 60 = 3 := by kernel_rfl

section
variable {H : Type} {enc : TypeId × Value → H} {W : World} {spare : Nat → Bool} {held : Bool}

set_option maxRecDepth 100000 in
theorem hd_in {n : Nat} {cs : List Value} {x : DataW H × List MemPlace} (hl : cs.length = 2) (h : DataW.trod enc Try.prog W 0 spare held n 35 cs = some x) : ∃ s g, cs = [.int .u32 s, .int .u32 g] ∧ UsW s ∧ UsW g := by
  obtain ⟨xs, k, hk, hxy, hlen, hxl, hf⟩ := DataW.trod_struct Try.underlying35 h
  match xs, hxl, cs, hl with
  | [y0, y1], _, [v0, v1], _ =>
    have g0 := hf 0 _ rfl
    have g1 := hf 1 _ rfl
    simp [ceU32] at g0 g1
    obtain ⟨z0, rfl, u0⟩ := trod_u32 Try.underlying33 g0
    obtain ⟨z1, rfl, u1⟩ := trod_u32 Try.underlying33 g1
    exact ⟨z0, z1, rfl, u0, u1⟩

set_option maxRecDepth 100000 in
theorem row_in {n : Nat} {cs : List Value} {x : DataW H × List MemPlace} (hl : cs.length = 3) (h : DataW.trod enc Try.prog W 0 spare held n 60 cs = some x) : ∃ s g d, cs = [.int .u32 s, .int .u32 g, .int .i64 d] ∧ UsW s ∧ UsW g ∧ I64 d := by
  obtain ⟨xs, k, hk, hxy, hlen, hxl, hf⟩ := DataW.trod_struct Try.underlying60 h
  match xs, hxl, cs, hl with
  | [y0, y1], _, [v0, v1, v2], _ =>
    have g0 := hf 0 _ rfl
    have g1 := hf 1 _ rfl
    simp [ceHd, ceSide] at g0 g1
    obtain ⟨s, g, e, us, ug⟩ := hd_in rfl g0
    cases e
    obtain ⟨z1, rfl, b1, b2⟩ := trod_i64 Try.underlying58 g1
    exact ⟨s, g, z1, rfl, us, ug, b1, b2⟩
end

set_option maxRecDepth 100000 in
theorem handle_in {H : Type} {enc : TypeId × Value → H} {W : World} {base : Nat} {v : Value} {d : DataW H} {ps : List MemPlace} (hv : Value.okWide Try.prog W .any base 35 v) (h : DataW.Trod enc Try.prog W 0 (fun _ => true) true 35 v d ps) : ∃ s g, v = .agg #[.int .u32 s, .int .u32 g] := by
  obtain ⟨cs, rfl, hsz⟩ := okWide_struct Try.underlying35 hv
  rw [ceHd] at hsz
  obtain ⟨n, hn⟩ := h
  obtain ⟨cl⟩ := cs
  obtain ⟨s, g, e, _, _⟩ := hd_in (cs := cl) hsz hn
  subst e
  exact ⟨s, g, rfl⟩

set_option maxRecDepth 100000 in
theorem rowv_in {H : Type} {enc : TypeId × Value → H} {W : World} {base : Nat} {v : Value} {d : DataW H} {ps : List MemPlace} (hv : Value.okWide Try.prog W .any base 60 v) (h : DataW.Trod enc Try.prog W 0 (fun _ => true) true 60 v d ps) : ∃ s g d, v = .agg #[.int .u32 s, .int .u32 g, .int .i64 d] := by
  obtain ⟨cs, rfl, hsz⟩ := okWide_struct Try.underlying60 hv
  rw [ceRow] at hsz
  obtain ⟨n, hn⟩ := h
  obtain ⟨cl⟩ := cs
  obtain ⟨s, g, d, e, _⟩ := row_in (cs := cl) hsz hn
  subst e
  exact ⟨s, g, d, rfl⟩

section
variable {H : Type} {enc : TypeId × Value → H} {W : World} {spare : Nat → Bool} {held : Bool}

set_option maxRecDepth 100000 in
theorem val_in {n : Nat} {cs : List Value} {x : DataW H × List MemPlace} (hl : cs.length = 3) (h : DataW.trod enc Try.prog W 0 spare held n 43 cs = some x) : ∃ d s g, cs = [.int .i64 d, .int .u32 s, .int .u32 g] ∧ I64 d ∧ UsW s ∧ UsW g := by
  obtain ⟨xs, k, hk, hxy, hlen, hxl, hf⟩ := DataW.trod_struct Try.underlying43 h
  match xs, hxl, cs, hl with
  | [y0, y1], _, [v0, v1, v2], _ =>
    have g0 := hf 0 _ rfl
    have g1 := hf 1 _ rfl
    simp [ceHd, ceI64] at g0 g1
    obtain ⟨z0, rfl, b1, b2⟩ := trod_i64 Try.underlying2 g0
    obtain ⟨s, g, e, us, ug⟩ := hd_in rfl g1
    cases e
    exact ⟨z0, s, g, rfl, ⟨b1, b2⟩, us, ug⟩
end

set_option maxRecDepth 100000 in
theorem valv_in {H : Type} {enc : TypeId × Value → H} {W : World} {base : Nat} {v : Value} {d : DataW H} {ps : List MemPlace} (hv : Value.okWide Try.prog W .any base 43 v) (h : DataW.Trod enc Try.prog W 0 (fun _ => true) true 43 v d ps) : ∃ s g d, v = .agg #[.int .i64 s, .int .u32 g, .int .u32 d] := by
  obtain ⟨cs, rfl, hsz⟩ := okWide_struct Try.underlying43 hv
  rw [ceVal] at hsz
  obtain ⟨n, hn⟩ := h
  obtain ⟨cl⟩ := cs
  obtain ⟨s, g, d, e, _⟩ := val_in (cs := cl) hsz hn
  subst e
  exact ⟨s, g, d, rfl⟩

end Go.Proofs.Ytoabhmpakcgloaa

namespace Go.Proofs.Ytoabhmpakcgloaa
open Go.ChangeShapes Go.WideShapes Go.ChangeAt Go.RowKit Go.Deep

theorem choose_lt {α : Type} [Inhabited α] {n : Nat} {A : Nat → α → Prop} (h : ∀ i, i < n → ∃ y : α, A i y) : ∃ R : Nat → α, ∀ i, i < n → A i (R i) := by
  refine ⟨fun i => if hi : i < n then Classical.choose (h i hi) else default, fun i hi => ?_⟩
  dsimp only
  rw [dif_pos hi]
  exact Classical.choose_spec (h i hi)
set_option maxRecDepth 100000 in
theorem lst_of_trod {α : Type} [Inhabited α] {H : Type} {enc : TypeId × Value → H} {W : World} {spare : Nat → Bool} {held : Bool} {sT eT : TypeId} {K : Nat} (hK : 0 < K) (hu : Try.prog.underlying sT = some (.slice eT)) (hce : Try.prog.cellsOf eT = K) {A : Nat → Nat → α → Prop}
    (hel : ∀ n cs x, cs.length = K → DataW.trod enc Try.prog W 0 spare held n eT cs = some x → ∃ y : α, ∀ b o, (∀ j (h : j < cs.length), W.cell? ⟨b, o + j, none⟩ = some cs[j]) → A b o y) :
    ∀ n v x, DataW.trod enc Try.prog W 0 spare held n sT [v] = some x → ∃ l : List α, Lst W.heap.size K A v l := by
  intro n v x h
  rcases DataW.trod_slice hu h with ⟨e, _⟩ | ⟨a, len, cap, elems, rest, k, hk, e, _, _, hl, hc, hlen, hg, _, _⟩
  · obtain rfl : v = .slice none 0 0 := by simpa using e
    exact ⟨[], 0, 0, ⟨none, 0, rfl, Nat.le_refl _, Nat.zero_le _, fun h => absurd h (Nat.lt_irrefl _)⟩, fun i hi => absurd hi (Nat.not_lt_zero _)⟩
  · obtain rfl : v = .slice (some a) len cap := by simpa using e
    by_cases h0 : len = 0
    · subst h0
      exact ⟨[], 0, 0, ⟨some a, cap, rfl, Nat.zero_le _, Nat.zero_le _, fun h => absurd h (Nat.lt_irrefl _)⟩, fun i hi => absurd hi (Nat.not_lt_zero _)⟩
    rw [hce] at hg
    have hcs : ∀ i, i < len → ∃ cs : List Value, cs.length = K ∧ (∀ j (h : j < cs.length), W.cell? ((a.add (i * K)).add j) = some cs[j]) ∧ ∃ x, DataW.trod enc Try.prog W 0 spare held k eT cs = some x := by
      intro i hi
      have h1 := hg i hi
      rw [List.getElem?_eq_getElem (by omega)] at h1
      obtain ⟨cs, h2, h3⟩ := Option.bind_eq_some_iff.1 h1
      obtain ⟨_, hcl, hcell⟩ := World.cells?_some h2
      exact ⟨cs, hcl, fun j hj => (hcell j (by omega)).trans (List.getElem?_eq_getElem hj), _, h3⟩
    obtain ⟨b, off, spot⟩ := a
    have hspot : spot = none := by
      obtain ⟨cs, hcl, hcell, _⟩ := hcs 0 (by omega)
      have := World.cell?_spot (hcell 0 (by omega))
      simpa [Addr.add] using this
    subst hspot
    have hplain : ∀ i j, ((⟨b, off, none⟩ : Addr).add i).add j = ⟨b, off + i + j, none⟩ := by intro i j; unfold Addr.add; split <;> split <;> simp_all <;> omega
    have hb : b < W.heap.size := by
      obtain ⟨cs, hcl, hcell, _⟩ := hcs 0 (by omega)
      have c0 := hcell 0 (by omega)
      rw [hplain] at c0
      rcases Nat.lt_or_ge b W.heap.size with h1 | h1
      · exact h1
      · simp [World.cell?, Array.getElem?_eq_none h1] at c0
    have hA : ∀ i, i < len → ∃ y : α, A b (off + i * K) y := by
      intro i hi
      obtain ⟨cs, hcl, hcell, x, hx⟩ := hcs i hi
      obtain ⟨y, hy⟩ := hel k cs x hcl hx
      exact ⟨y, hy b (off + i * K) fun j hj => by have := hcell j hj; rwa [hplain] at this⟩
    obtain ⟨R, hR⟩ := choose_lt hA
    have hll : ((List.range len).map R).length = len := by simp
    have hmx : maxLen = 9223372036854775807 := rfl
    refine ⟨(List.range len).map R, b, off, ⟨some ⟨b, off, none⟩, cap, by rw [hll], by omega, by omega, fun _ => ⟨rfl, hb⟩⟩, fun i hi => ?_⟩
    rw [List.getElem_map, List.getElem_range]
    exact hR i (by omega)
theorem ceSp : Try.prog.cellsOf 40 = 3 := by kernel_rfl
instance : Inhabited Sp := ⟨⟨0, 0, 0⟩⟩
section
variable {H : Type} {enc : TypeId × Value → H} {W : World} {spare : Nat → Bool} {held : Bool}
set_option maxRecDepth 100000 in
theorem step_in {n : Nat} {cs : List Value} {x : DataW H × List MemPlace} (hl : cs.length = 3) (h : DataW.trod enc Try.prog W 0 spare held n 40 cs = some x) : ∃ y : Sp, cs = [.int .i64 y.k, .int .i64 y.g, .int .i64 y.h] ∧ I64 y.k ∧ I64 y.g ∧ I64 y.h := by
  obtain ⟨xs, k, hk, hxy, hlen, hxl, hf⟩ := DataW.trod_struct Try.underlying40 h
  match xs, hxl, cs, hl with
  | [y0, y1, y2], _, [v0, v1, v2], _ =>
    have g0 := hf 0 _ rfl
    have g1 := hf 1 _ rfl
    have g2 := hf 2 _ rfl
    simp [ceInt] at g0 g1 g2
    obtain ⟨z0, rfl, a0⟩ := trod_i64 Try.underlying3 g0
    obtain ⟨z1, rfl, a1⟩ := trod_i64 Try.underlying3 g1
    obtain ⟨z2, rfl, a2⟩ := trod_i64 Try.underlying3 g2
    exact ⟨⟨z0, z1, z2⟩, rfl, a0, a1, a2⟩
theorem steps_in (n : Nat) (v : Value) (x : DataW H × List MemPlace) (h : DataW.trod enc Try.prog W 0 spare held n 22 [v] = some x) : ∃ l : List Sp, Lst W.heap.size 3 (SpAt W) v l :=
  lst_of_trod (by decide) Try.underlying22 ceSp (fun n cs x hl h => by
    obtain ⟨y, rfl, b1, b2, b3⟩ := step_in hl h
    exact ⟨y, fun b o hc => ⟨hc 0 (by simp), hc 1 (by simp), hc 2 (by simp), b1, b2, b3⟩⟩) n v x h
end
end Go.Proofs.Ytoabhmpakcgloaa

namespace Go.Proofs.Ytoabhmpakcgloaa
open Go.ChangeShapes Go.WideShapes Go.ChangeAt Go.RowKit Go.Deep

set_option maxRecDepth 100000 in
theorem turn_lifted (os : Os) (started : os.Started) (H : Type) (enc : TypeId × Value → H) :
    ReturnsInHanded {} Try.checked os 3 .any (Rows.locksTurnSpec.pre6 enc Try.prog Try.f3 Rows.locksTurnRow.domain false) (Rows.locksTurnSpec.post enc Try.prog Try.f3 false true false false) := by
  refine returnsInHanded_of_change (C := Try.checked) own_knob started (by kernel_rfl) Try.func3
    (ChangeSpec.witness6 (enc := enc) (C := Try.checked) false ⟨#[], #[.slice none 0 0], []⟩ 8 (by kernel_rfl) (by kernel_rfl) (by kernel_rfl) (by kernel_rfl)) ?_
  intro W base args ds gs before hval0 hW _ _
  have hval : ∀ (j : Nat) t v, Try.f3.params[j]? = some t → args[j]? = some v → Value.okWide Try.prog W .any base t v := hval0
  have hW' := hW
  obtain ⟨p, q, hA0, hV, rfl, hfz, hnd⟩ := hW
  have hA : DataW.TrodAll enc Try.prog W 0 (fun _ => true) true Try.f3.params.toList args.toList ds p := hA0
  rw [Try.params3] at hA hval
  obtain ⟨v0, vs0, d0, ds0, p0, q0, hargs, rfl, rfl, h0, r0⟩ := trodAll_cons hA
  obtain ⟨rfl, rfl, rfl⟩ := trodAll_nil r0
  obtain rfl : args = #[v0] := by cases args; simp_all
  obtain ⟨rfl, rfl⟩ := trodVars_none hV
  obtain ⟨sa, sl, sk, rfl⟩ := okWide_slice Try.underlying22 (hval 0 22 v0 rfl rfl)
  have k0 := h0
  have lt0 : ∀ x ∈ p0, x.block < W.heap.size := by obtain ⟨m, hm⟩ := k0; exact DataW.trod_lt m _ _ _ hm
  obtain ⟨n0, hn0⟩ := h0
  obtain ⟨sc, hsc⟩ := steps_in _ _ _ hn0
  clear hA0 hval0
  refine (lturn_is hsc).mono fun e W' ⟨he, bel⟩ => ?_
  subst he
  exact ⟨_, rfl, _, _, _, [], _, [], hW', trodAll_mk1 (shut_bool Try.underlying4 _), (trodAll_cons_mk (Below.trod laid_out (by kernel_rfl) (of_decide_eq_true (by kernel_rfl)) k0 bel lt0) trodAll_mk0), rfl, bel.frame _, fun h => by cases h⟩

theorem locksTurn_holds : Rows.LocksTurnSaid :=
  OpenClaim.holds_of_wide 3 Try.f3 rfl rfl rfl rfl rfl rfl rfl ⟨rfl, rfl, rfl, rfl, rfl⟩ rfl rfl rfl rfl rfl (by kernel_rfl) Try.func3 (by kernel_rfl)
    (of_decide_eq_true (by kernel_rfl)) (by unfold Func.isWrapper; first | (rw [if_pos (by decide +kernel)]; kernel_rfl) | (rw [if_neg (by decide +kernel)]; exact ⟨rfl, rfl⟩))
    (fun os started H enc _ => turn_lifted os started H enc)

#print axioms locksTurn_holds
end Go.Proofs.Ytoabhmpakcgloaa
