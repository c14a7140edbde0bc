/- RingSeen, for every size, number and lists up to the bulk that the row names: a range over All of the landed ring goes over what there was when it began, whatever is put in or taken out within. There are no other conditions. -/
import Derived.Test.YtfheeifllpnjaaaSe
import Derived.Test.YtfheeifllpnjaaaPl
namespace Go.Proofs.Ytfheeifllpnjaaa
open Go.ChangeShapes Go.WideShapes Go.ChangeAt Go.RowKit Go.Deep

theorem ceInts : Try.prog.cellsOf 29 = 1 := by kernel_rfl
theorem ceSeen : Try.prog.cellsOf 54 = 4 := by kernel_rfl

set_option maxRecDepth 100000 in
theorem seen_in {H : Type} {enc : TypeId × Value → H} {W : World} {base : Nat} {v : Value} {d : DataW H} {ps : List MemPlace} (hv : Value.okWide Try.prog W .any base 54 v) (h : DataW.Trod enc Try.prog W 0 (fun _ => true) true 54 v d ps) :
    ∃ z outs lv iv l li, v = .agg #[.int .i64 z, .int .i64 outs, lv, iv] ∧ -9223372036854775808 ≤ z ∧ z ≤ 9223372036854775807 ∧ Lst W.heap.size 1 (InAt W) lv l ∧ Lst W.heap.size 1 (InAt W) iv li := by
  obtain ⟨cs, rfl, hsz⟩ := okWide_struct Try.underlying54 hv
  rw [ceSeen] at hsz
  obtain ⟨n, hn⟩ := h
  obtain ⟨cl⟩ := cs
  have hn : DataW.trod enc Try.prog W 0 (fun _ => true) true n 54 cl = some (d, ps) := hn
  have hl : cl.length = 4 := hsz
  clear hsz hv
  obtain ⟨xs, k, hk, hxy, hlen, hxl, hf⟩ := DataW.trod_struct Try.underlying54 hn
  match xs, hxl, cl, hl with
  | [y0, y1, y2, y3], _, [v0, v1, v2, v3], _ =>
    have g0 := hf 0 _ rfl
    have g1 := hf 1 _ rfl
    have g2 := hf 2 _ rfl
    have g3 := hf 3 _ rfl
    simp [ceInt, ceInts] at g0 g1 g2 g3
    obtain ⟨z0, rfl, a1, a2⟩ := trod_i64 Try.underlying3 g0
    obtain ⟨z1, rfl, _⟩ := trod_i64 Try.underlying3 g1
    obtain ⟨l, hl1⟩ := ints_in _ _ _ g2
    obtain ⟨li, hl2⟩ := ints_in _ _ _ g3
    exact ⟨z0, z1, v2, v3, l, li, rfl, a1, a2, hl1, hl2⟩

set_option maxRecDepth 100000 in
theorem seen_contract (H : Type) (enc : TypeId × Value → H) (W : World) (base : Nat) (args : Array Value) (ds gs : List (DataW H)) (before : List MemPlace)
    (hval : ∀ (j : Nat) t v, Try.f5.params[j]? = some t → args[j]? = some v → Value.okWide Try.prog W .any base t v)
    (hW : DataW.Whole enc Try.prog Try.f5.params.toList Rows.ringSeenSpec.vars false W args.toList ds gs before) :
    Calls Try.prog 5 args W fun e W' => ∃ v, e = .returned v ∧ Rows.ringSeenSpec.post enc Try.prog Try.f5 false true false false W args v W' := by
  have hW' := hW
  obtain ⟨p, q, hA0, hV, rfl, hfz, hnd⟩ := hW
  have hA : DataW.TrodAll enc Try.prog W 0 (fun _ => true) true Try.f5.params.toList args.toList ds p := hA0
  rw [Try.params5] at hA hval
  obtain ⟨v0, vs0, d0, ds0, p0, q0, hargs, rfl, rfl, h0, r0⟩ := trodAll_cons hA
  obtain ⟨rfl, rfl, rfl⟩ := trodAll_nil r0
  obtain rfl : args = #[v0] := by cases args; simp_all
  obtain ⟨rfl, rfl⟩ := trodVars_none hV
  obtain ⟨z, outs, lv, iv, l, li, rfl, a1, a2, hl, hi⟩ := seen_in (hval 0 54 v0 rfl rfl) h0
  have lt0 : ∀ x ∈ p0, x.block < W.heap.size := by obtain ⟨m, hm⟩ := h0; exact DataW.trod_lt m _ _ _ hm
  clear hA0
  refine (seen_is W z outs a1 a2 hl hi).mono fun e W' ⟨he, bel⟩ => ?_
  subst he
  exact ⟨_, rfl, _, _, _, [], _, [], hW', trodAll_mk1 (shut_bool Try.underlying4 _), (trodAll_cons_mk (Below.trod laid_out (by kernel_rfl) (of_decide_eq_true (by kernel_rfl)) h0 bel lt0) trodAll_mk0), rfl, bel.frame _, fun h => by cases h⟩

set_option maxRecDepth 100000 in
theorem seen_lifted (os : Os) (started : os.Started) (H : Type) (enc : TypeId × Value → H) (F : Stop.Interp) :
    ReturnsInHanded {} Try.checked os 5 .any ((Rows.OpenSpec.upto Rows.ringSeenSpec).pre6 enc Try.prog Try.f5 Rows.ringSeenUptoRow.domain false) (((Rows.OpenSpec.upto Rows.ringSeenSpec).at F).post enc Try.prog Try.f5 false true false false) := by
  refine returnsInHanded_of_cond (C := Try.checked) (s := Rows.OpenSpec.upto Rows.ringSeenSpec) (k := Rows.uptoSmall) rfl own_knob started (by kernel_rfl) Try.func5
    (OpenSpec.witness (enc := enc) (C := Try.checked) (s := Rows.OpenSpec.upto Rows.ringSeenSpec) (k := Rows.uptoSmall) rfl false ⟨#[], #[.agg #[.int .i64 0, .int .i64 0, .slice none 0 0, .slice none 0 0]], []⟩ 8 (by kernel_rfl) (by kernel_rfl) (by kernel_rfl)
      (x := ([.agg [.lit (.int .i64 0), .lit (.int .i64 0), .nil, .nil]], [], [])) (by kernel_rfl) rfl (by kernel_rfl)) ?_
  intro W base args ds gs before hval hW _ _ _
  exact seen_contract H enc W base args ds gs before hval hW

theorem ringSeen_holds : Rows.RingSeenUptoSaid :=
  OpenClaim.holds_of_cond 5 Try.f5 rfl rfl rfl rfl rfl rfl rfl ⟨rfl, rfl, rfl, rfl, rfl⟩ rfl rfl rfl rfl rfl (by kernel_rfl) Try.func5 (by kernel_rfl)
    (of_decide_eq_true (by kernel_rfl)) (by unfold Func.isWrapper; first | (rw [if_pos (by decide +kernel)]; kernel_rfl) | (rw [if_neg (by decide +kernel)]; exact ⟨rfl, rfl⟩))
    (fun os started H enc _ F => seen_lifted os started H enc F)

#print axioms ringSeen_holds
end Go.Proofs.Ytfheeifllpnjaaa
