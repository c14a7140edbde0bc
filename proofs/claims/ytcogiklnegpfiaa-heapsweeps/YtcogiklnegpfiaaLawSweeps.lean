/- HeapSweeps for every size and every script: behind Collect just those objects are left that Reach told, the others do not live, no handle comes twice, Collect again takes nothing away, and more roots never make fewer stay. There are no conditions. -/
import Derived.Test.YtcogiklnegpfiaaWk
import Derived.Test.YtcogiklnegpfiaaPlo
namespace Go.Proofs.Ytcogiklnegpfiaa
open Go.ChangeShapes Go.WideShapes Go.ChangeAt Go.RowKit Go.Deep

instance : Inhabited (Oq × List Int) := ⟨⟨⟨0, 0, 0, 0, none, 0, 0, false, 0, 0⟩, []⟩⟩
theorem ceOp : Try.prog.cellsOf 45 = 8 := by kernel_rfl
theorem ceKind : Try.prog.cellsOf 39 = 1 := by kernel_rfl
theorem ceInts : Try.prog.cellsOf 40 = 1 := by kernel_rfl

section
variable {H : Type} {enc : TypeId × Value → H} {W : World} {spare : Nat → Bool} {held : Bool}
set_option maxRecDepth 100000 in
theorem opr_in {n : Nat} {cs : List Value} {x : DataW H × List MemPlace} (hl : cs.length = 8) (h : DataW.trod enc Try.prog W 0 spare held n 45 cs = some x) :
    ∃ y : Oq × List Int, cs = opF y.1 ∧ RtsAt W.heap.size W y.1 y.2 ∧ I64 y.1.a ∧ I64 y.1.b ∧ Us y.1.s := by
  obtain ⟨xs, k, hk, hxy, hlen, hxl, hf⟩ := DataW.trod_struct Try.underlying45 h
  match xs, hxl, cs, hl with
  | [y0, y1, y2, y3, y4, y5, y6], _, [v0, v1, v2, v3, v4, v5, v6, v7], _ =>
    have g0 := hf 0 _ rfl
    have g1 := hf 1 _ rfl
    have g2 := hf 2 _ rfl
    have g3 := hf 3 _ rfl
    have g4 := hf 4 _ rfl
    have g5 := hf 5 _ rfl
    have g6 := hf 6 _ rfl
    simp [ceInt, ceHd, ceBool, ceKind, ceInts] at g0 g1 g2 g3 g4 g5 g6
    obtain ⟨z0, rfl, _⟩ := trod_i64 Try.underlying3 g0
    obtain ⟨z1, rfl, a1⟩ := trod_i64 Try.underlying3 g1
    obtain ⟨z2, rfl, a2⟩ := trod_i64 Try.underlying3 g2
    obtain ⟨z3, rfl, _⟩ := trod_i64 Try.underlying39 g3
    obtain ⟨rs, b, o, ⟨ra, rc, rfl, _, hn, hr⟩, hI⟩ := ints_in _ _ _ g4
    obtain ⟨z5, rfl⟩ := trod_bool g5
    obtain ⟨s, g, e, us, _⟩ := hd_in rfl g6
    cases e
    refine ⟨⟨⟨z0, z1, z2, z3, ra, rs.length, rc, z5, s, g⟩, rs⟩, rfl, ⟨rfl, hn, fun h0 => ?_, fun z hz => ?_⟩, a1, a2, us⟩
    · obtain ⟨e1, e2⟩ := hr h0
      exact ⟨b, o, e1, e2, fun i hi => by have := (hI i hi).1; rwa [Nat.mul_one] at this⟩
    · obtain ⟨i, hi, rfl⟩ := List.getElem_of_mem hz
      exact (hI i hi).2
theorem ops_in (n : Nat) (v : Value) (x : DataW H × List MemPlace) (h : DataW.trod enc Try.prog W 0 spare held n 22 [v] = some x) : ∃ l : List (Oq × List Int), Lst W.heap.size 8 (OpAt W) v l :=
  lst_of_trod (by decide) Try.underlying22 ceOp (fun n cs x hl h => by
    obtain ⟨y, rfl, b1, b2, b3, b4⟩ := opr_in hl h
    exact ⟨y, fun b o hc => ⟨fun j u hj => by
      obtain ⟨h1, h2⟩ := List.getElem?_eq_some_iff.1 hj
      rw [← h2]
      exact hc j h1, b1, b2, b3, b4⟩⟩) n v x h
end

set_option maxRecDepth 100000 in
theorem sweeps_lifted (os : Os) (started : os.Started) (H : Type) (enc : TypeId × Value → H) :
    ReturnsInHanded {} Try.checked os 4 .any (Rows.heapSweepsSpec.pre6 enc Try.prog Try.f4 Rows.heapSweepsRow.domain false) (Rows.heapSweepsSpec.post enc Try.prog Try.f4 false true false false) := by
  refine returnsInHanded_of_change (C := Try.checked) own_knob started (by kernel_rfl) Try.func4
    (ChangeSpec.witness6 (enc := enc) (C := Try.checked) false ⟨#[], #[.int .i64 0, .slice none 0 0], []⟩ 8 (by kernel_rfl) (by kernel_rfl) (by kernel_rfl) (by kernel_rfl)) ?_
  intro W base args ds gs before hval0 hW _ _
  have hval : ∀ (j : Nat) t v, Try.f4.params[j]? = some t → args[j]? = some v → Value.okWide Try.prog W .any base t v := hval0
  have hW' := hW
  obtain ⟨p, q, hA0, hV, rfl, hfz, hnd⟩ := hW
  have hA : DataW.TrodAll enc Try.prog W 0 (fun _ => true) true Try.f4.params.toList args.toList ds p := hA0
  rw [Try.params4] at hA hval
  obtain ⟨v0, vs0, d0, ds0, p0, q0, hargs, rfl, rfl, h0, r0⟩ := trodAll_cons hA
  obtain ⟨v1, vs1, d1, ds1, p1, q1, rfl, rfl, rfl, h1, r1⟩ := trodAll_cons r0
  obtain ⟨rfl, rfl, rfl⟩ := trodAll_nil r1
  obtain rfl : args = #[v0, v1] := by cases args; simp_all
  obtain ⟨rfl, rfl⟩ := trodVars_none hV
  obtain ⟨a0, rfl, rfl, rfl, w0⟩ := open_int Try.underlying3 (hval 0 3 v0 rfl rfl) h0
  obtain ⟨sa, sl, sk, rfl⟩ := okWide_slice Try.underlying22 (hval 1 22 v1 rfl rfl)
  have k1 := h1
  have lt1 : ∀ x ∈ p1, x.block < W.heap.size := by obtain ⟨m, hm⟩ := k1; exact DataW.trod_lt m _ _ _ hm
  obtain ⟨n1, hn1⟩ := h1
  obtain ⟨sc, hsc⟩ := ops_in _ _ _ hn1
  clear hA0 hval0
  refine (sweepsL_is (i64_of_wf w0) hsc).mono fun e W' ⟨he, bel⟩ => ?_
  subst he
  exact ⟨_, rfl, _, _, _, [], _, [], hW', trodAll_mk1 (shut_bool Try.underlying4 _), (trodAll_cons_mk (shut_int Try.underlying3 w0) (trodAll_cons_mk (Below.trod laid_out (by kernel_rfl) (of_decide_eq_true (by kernel_rfl)) k1 bel lt1) trodAll_mk0)), rfl, bel.frame _, fun h => by cases h⟩

theorem heapSweeps_holds : Rows.HeapSweepsSaid :=
  OpenClaim.holds_of_wide 4 Try.f4 rfl rfl rfl rfl rfl rfl rfl ⟨rfl, rfl, rfl, rfl, rfl⟩ rfl rfl rfl rfl rfl (by kernel_rfl) Try.func4 (by kernel_rfl)
    (of_decide_eq_true (by kernel_rfl)) (by unfold Func.isWrapper; first | (rw [if_pos (by decide +kernel)]; kernel_rfl) | (rw [if_neg (by decide +kernel)]; exact ⟨rfl, rfl⟩))
    (fun os started H enc _ => sweeps_lifted os started H enc)

#print axioms heapSweeps_holds
end Go.Proofs.Ytcogiklnegpfiaa
