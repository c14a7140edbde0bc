/- TreeRights: of any tree: is it right, how it is written, how many nodes, how deep, by the document's answer; it stays. Proved: TreeRightsUptoCardSaid: where what comes in is of bulk at most 1048576 (three variables of the library start as the program's text lays them). -/
import Derived.Test.YtmdhjiammcpogaaGreatDoorQ51
namespace Go.Proofs.YtmdhjiammcpogaaGreatDoor
set_option maxRecDepth 100000
set_option maxHeartbeats 16000000
open Go.ChangeShapes Go.WideShapes Go.ChangeAt Go.RowKit
theorem tab_of {W : World} (h : laidMetH Tryz.prog laids3 W) : TabN W.heap.size W := by
 have h0 : laidMet Tryz.prog laids3 W := h
 have h1 := laidMet.tail (laidMet.tail h0)
 have h2 := Lib.tabIs_of_head (zs := Lib.pow10Tab) gPow gPowType Tryz.underlying120 Tryz.underlying113 cellsU64 cellsPow h1
 refine ⟨h2, fun g hg => ?_⟩
 have h3 := World.var?_cell hg h2 0
 rw [Array.getElem?_eq_getElem (by decide)] at h3
 rcases Nat.lt_or_ge g W.heap.size with h4 | h4
 ·exact h4
 ·simp [World.cell?, Array.getElem?_eq_none h4] at h3
theorem rightsc_contract (H : Type) (enc : TypeId × Value -> H) (W : World) (base : Nat) (args : Array Value) (ds gs : List (DataW H)) (before : List MemPlace) (hval : ∀ (j : Nat) t v, Tryz.f3.params[j]? = some t -> args[j]? = some v -> Value.okWide Tryz.prog W .any base t v) (hW : DataW.Whole enc Tryz.prog Tryz.f3.params.toList Rows.treeRightsSpec.vars false W args.toList ds gs before) (hk : Rows.uptoSmall H (ds ++ gs) = true) (hL : laidMetH Tryz.prog laids3 W) :
 Calls Tryz.prog 3 args W fun e W' => ∃ v, e = .returned v /\ Rows.treeRightsSpec.post enc Tryz.prog Tryz.f3 false true false false W args v W' := by
 have hW' := hW
 obtain ⟨p, q, hA0, hVr, rfl, hfz, hnd⟩ := hW
 have hA : DataW.TrodAll enc Tryz.prog W 0 (fun _ => true) true Tryz.f3.params.toList args.toList ds p := hA0
 rw [Tryz.params3] at hA hval
 obtain ⟨v0, vs0, d0, ds0, p0, q0, hargs, rfl, rfl, h0, r0⟩ := trodAll_cons hA
 obtain ⟨v1, vs1, d1, ds1, p1, q1, rfl, rfl, rfl, h1, r1⟩ := trodAll_cons r0
 obtain ⟨rfl, rfl, rfl⟩ := trodAll_nil r1
 obtain rfl : args = #[v0, v1] := by cases args; simp_all
 obtain ⟨rfl, rfl⟩ := trodVars_none hVr
 obtain ⟨a, u, rfl, ha, hB⟩ := node_in (hval 0 25 v0 rfl rfl) h0
 have k1 := h1
 obtain ⟨mo, rfl, rfl, rfl, wf1⟩ := open_int Tryz.underlying3 (hval 1 3 v1 rfl rfl) h1
 have hm1 := (i64_of_wf wf1).2
 have lt0 : ∀ x ∈ p0, x.block < W.heap.size := by obtain ⟨m, hm⟩ := h0; exact DataW.trod_lt m _ _ _ hm
 clear hA0
 simp only [List.append_nil] at hW' hk
 have hz : Rows.uptoBulk d0 <= 1048576 := by
  have h : Rows.uptoBulkAll [d0, .lit (.int .i64 mo)] <= 1048576 := of_decide_eq_true hk
  simp only [Rows.uptoBulkAll] at h
  omega
 have hT := hB hz
 refine (rights_walk (Nat.lt_or_ge 65536 (cnt a)).symm hm1 hT.allF hT (tab_of hL) ha (fun _ hi => hi)).mono fun e W' ⟨he, bel⟩ => ?_
 subst he
 exact ⟨_, rfl, _, _, _, [], _, [], hW', trodAll_mk1 (shut_bool Tryz.underlying4 _), (trodAll_cons_mk (Below.trod laid_out (by kernel_rfl) (of_decide_eq_true (by kernel_rfl)) h0 bel lt0) (trodAll_cons_mk (Below.trod laid_out (by kernel_rfl) (of_decide_eq_true (by kernel_rfl)) k1 bel (fun _ h => by cases h)) trodAll_mk0)), rfl, bel.frame _, fun h => by cases h⟩
theorem rightsc_reads (os : Os) {H : Type} (enc : TypeId × Value -> H) : ∃ places, DataW.whole enc Tryz.prog ((laidWorld os).forCall (fun _ _ => 0) ⟨#[], #[.agg #[.int .i64 0, .string .empty, .int .i64 0, .string .empty, .int .i64 0, .int .i64 0, .int .i64 0, .slice none 0 0], .int .i64 0], []⟩).memory Tryz.f3.params.toList Rows.treeRightsSpec.vars false (#[.agg #[.int .i64 0, .string .empty, .int .i64 0, .string .empty, .int .i64 0, .int .i64 0, .int .i64 0, .slice none 0 0], .int .i64 0] : Array Value).toList 8 = some ([.agg [.lit (.int .i64 0), .lit (.string []), .lit (.int .i64 0), .lit (.string []), .lit (.int .i64 0), .lit (.int .i64 0), .lit (.int .i64 0), .nil], .lit (.int .i64 0)], [], places) :=
 ⟨[], by kernel_rfl⟩
theorem rightsc_lifted (os : Os) (started : os.Started) (H : Type) (enc : TypeId × Value -> H) (F : Stop.Interp) :
 ReturnsInHanded {} Tryz.checked os 3 .any ((Rows.OpenSpec.upto Rows.treeRightsSpec).preRow enc Tryz.prog Tryz.f3 Rows.treeRightsUptoRow.domain false Rows.treeRightsUptoRow.laid) (((Rows.OpenSpec.upto Rows.treeRightsSpec).at F).post enc Tryz.prog Tryz.f3 false true false false) := by
 obtain ⟨places, hx⟩ := rightsc_reads os enc
 refine returnsInHanded_of_row (C := Tryz.checked) (s := Rows.OpenSpec.upto Rows.treeRightsSpec) own_knob started (by kernel_rfl) Tryz.func3
  (witness_row_at (enc := enc) (C := Tryz.checked) false (laidWorld os) #[.agg #[.int .i64 0, .string .empty, .int .i64 0, .string .empty, .int .i64 0, .int .i64 0, .int .i64 0, .slice none 0 0], .int .i64 0] rfl (by kernel_rfl) (by kernel_rfl) (by kernel_rfl)
   (OpenSpec.preRow_of_cond 8 hx (by kernel_rfl) (fun k hk => by cases hk; kernel_rfl) (by kernel_rfl) (laid_met3 os _))) ?_
 intro W base args ds gs before hval hW _ hcond _ hL _ _
 exact rightsc_contract H enc W base args ds gs before hval hW (hcond _ rfl) hL
theorem rightsc_said : Rows.TreeRightsUptoSaid :=
 OpenClaim.holds_of_cond 3 Tryz.f3 rfl rfl rfl rfl rfl rfl rfl ⟨rfl, rfl, rfl, rfl, rfl⟩ rfl rfl rfl rfl rfl (by kernel_rfl) Tryz.func3 (by kernel_rfl)
  (of_decide_eq_true (by kernel_rfl)) (by unfold Func.isWrapper; first | (rw [if_pos (by decide +kernel)]; kernel_rfl) | (rw [if_neg (by decide +kernel)]; exact ⟨rfl, rfl⟩))
  (fun os started H enc _ F => by rw [OpenClaim.pre_eq_preRow]; exact rightsc_lifted os started H enc F)
theorem rightsc_plain (f : FuncId) (fn : Func) (hf : Tryz.pinned.checked.prog.funcNamed "drowse/drowselaw05.TreeRights" = some f) (hfn : Tryz.pinned.checked.prog.funcs[f]? = some fn) :
 false = Tryz.pinned.checked.prog.looks [] /\ ∀ (j : Nat) t, fn.params[j]? = some t -> Tryz.pinned.checked.prog.wantsStandIn t = false := by
 obtain rfl : f = 3 := Option.some.inj ((show Tryz.prog.funcNamed "drowse/drowselaw05.TreeRights" = some 3 by kernel_rfl).symm.trans hf) |>.symm
 obtain rfl : fn = Tryz.f3 := (Option.some.inj (Tryz.func3.symm.trans hfn)).symm
 refine ⟨by kernel_rfl, fun j t ht => ?_⟩
 rw [Tryz.params3] at ht
 have hm := Array.mem_of_getElem? ht
 have h2 : t = 25 ∨ t = 3 := by simpa using hm
 rcases h2 with rfl | rfl
 ·exact (show Tryz.prog.wantsStandIn 25 = false by kernel_rfl)
 ·exact (show Tryz.prog.wantsStandIn 3 = false by kernel_rfl)
theorem treeRights_holds : Rows.TreeRightsUptoCardSaid :=
 Claim7.holds_tied_plain_at .later [] _ _ _ _ rightsc_said (fun _ h => by cases h) (by kernel_rfl) (fun _ h => by cases h) treeRightsUpto_row_tie rfl ⟨rfl, rfl⟩ (by kernel_rfl) rfl rightsc_plain (by kernel_rfl)
end Go.Proofs.YtmdhjiammcpogaaGreatDoor
