/- A function and a program as bytes. -/
import Derived.Test.YtgheaieghoekhaaDoorEc
namespace Go.Proofs.YtgheaieghoekhaaDoor
open Go.RowKit

theorem flat_take {α : Type} (g : α → List UInt8) (l : List α) (k : Nat) (h : k < l.length) : (l.take (k + 1)).flatMap g = (l.take k).flatMap g ++ g l[k] := by
  rw [List.take_succ_eq_append_getElem h, List.flatMap_append]
  simp
theorem flat_le {α : Type} (g : α → List UInt8) (l : List α) (k : Nat) : ((l.take k).flatMap g).length ≤ (l.flatMap g).length := by
  conv => rhs; rw [← List.take_append_drop k l, List.flatMap_append, List.length_append]
  omega
theorem flat_at {α : Type} (g : α → List UInt8) (l : List α) (k : Nat) (h : k < l.length) : ((l.take k).flatMap g).length + (g l[k]).length ≤ (l.flatMap g).length := by
  have := flat_le g l (k + 1)
  rw [flat_take g l k h, List.length_append] at this
  exact this
theorem bins_len (i : In) : (bins i).length = 14 := by unfold bins; simp [beb_len]

theorem Wr.eq {N W : Nat} {acc acc' : List UInt8} {w : World} (h : Wr N W acc w) (e : acc = acc') : Wr N W acc' w := e ▸ h

set_option maxHeartbeats 4000000 in
theorem wfun_is {N W : Nat} {acc : List UInt8} {w : World} (f : Fu) (v : Value) (hv : Lst N 4 (InAt w) v f.cd) (h : Wr N W acc w) (hlen : acc.length + (bfun f).length ≤ 140737488355328) :
    Calls Tryd.prog 53 #[.pointer (some ⟨W, 0, none⟩), fv f v] w fun e w' => Wrote N W acc (bfun f) w e w' := by
  obtain ⟨nm, pa, sl, rs, cd⟩ := f
  have hWn : w.heap.size ≠ W := by have := h.lt; omega
  have hNw := h.nle
  obtain ⟨b1, o1, ⟨a1, c1, rfl, hc1, hm1, hs1⟩, hl1⟩ := hv
  simp only at hs1 hl1 hc1 hm1 ⊢
  have HW := hide (h.box (.cells #[.string nm, .int .i64 pa, .int .i64 sl, .bool rs, .slice a1 cd.length c1] 51))
  have HF := hide (h.fxa (.cells #[.string nm, .int .i64 pa, .int .i64 sl, .bool rs, .slice a1 cd.length c1] 51))
  have HB := hide (heap_new w (.cells #[.string nm, .int .i64 pa, .int .i64 sl, .bool rs, .slice a1 cd.length c1] 51))
  have hlen2 : acc.length + ((btext nm).length + (1 + (2 + (1 + (4 + (cd.flatMap bins).length))))) ≤ 140737488355328 := by
    unfold bfun at hlen
    simp only [List.length_append, beb_len] at hlen
    rw [show (bflag rs).length = 1 from rfl] at hlen
    exact hlen
  have E0 := hide (show bfun ⟨nm, pa, sl, rs, cd⟩ = btext nm ++ (beb pa 1 ++ (beb sl 2 ++ (bflag rs ++ (beb cd.length 4 ++ cd.flatMap bins)))) from rfl)
  have H1 := hide hl1
  have HS := hide hs1
  clear h hlen hl1 hs1
  go_enter Tryd.func53, Tryd.ntmps53
  go_wp2_with fail
  refine (wtext_is nm (unhide HW) (by omega)).mono ?_
  rintro e w2 ⟨rfl, hF, hW⟩
  have HF_w2 := hide hF
  have HW_w2 := hide hW
  have d0 : w2.cell? ⟨w.heap.size, 0, none⟩ = some (.string nm) := (unhide HF_w2).boxc (unhide HB) hWn (by decide) rfl
  have d1 : w2.cell? ⟨w.heap.size, 1, none⟩ = some (.int .i64 pa) := (unhide HF_w2).boxc (unhide HB) hWn (by decide) rfl
  have d2 : w2.cell? ⟨w.heap.size, 2, none⟩ = some (.int .i64 sl) := (unhide HF_w2).boxc (unhide HB) hWn (by decide) rfl
  have d3 : w2.cell? ⟨w.heap.size, 3, none⟩ = some (.bool rs) := (unhide HF_w2).boxc (unhide HB) hWn (by decide) rfl
  have d4 : w2.cell? ⟨w.heap.size, 4, none⟩ = some (.slice a1 cd.length c1) := (unhide HF_w2).boxc (unhide HB) hWn (by decide) rfl
  clear hF hW
  go_wp2_with fail
  refine (wnum_eq _ 1 rfl (by omega) (unhide HW_w2) (by simp only [List.length_append]; omega)).mono ?_
  rintro e w3 ⟨rfl, hF, hW⟩
  have HF_w3 := hide ((unhide HF_w2).trans hF)
  have HW_w3 := hide hW
  have d0 : w3.cell? ⟨w.heap.size, 0, none⟩ = some (.string nm) := (unhide HF_w3).boxc (unhide HB) hWn (by decide) rfl
  have d1 : w3.cell? ⟨w.heap.size, 1, none⟩ = some (.int .i64 pa) := (unhide HF_w3).boxc (unhide HB) hWn (by decide) rfl
  have d2 : w3.cell? ⟨w.heap.size, 2, none⟩ = some (.int .i64 sl) := (unhide HF_w3).boxc (unhide HB) hWn (by decide) rfl
  have d3 : w3.cell? ⟨w.heap.size, 3, none⟩ = some (.bool rs) := (unhide HF_w3).boxc (unhide HB) hWn (by decide) rfl
  have d4 : w3.cell? ⟨w.heap.size, 4, none⟩ = some (.slice a1 cd.length c1) := (unhide HF_w3).boxc (unhide HB) hWn (by decide) rfl
  clear hF hW
  go_wp2_with fail
  refine (wnum_eq _ 2 rfl (by omega) (unhide HW_w3) (by simp only [List.length_append, beb_len]; omega)).mono ?_
  rintro e w4 ⟨rfl, hF, hW⟩
  have HF_w4 := hide ((unhide HF_w3).trans hF)
  have HW_w4 := hide hW
  have d0 : w4.cell? ⟨w.heap.size, 0, none⟩ = some (.string nm) := (unhide HF_w4).boxc (unhide HB) hWn (by decide) rfl
  have d1 : w4.cell? ⟨w.heap.size, 1, none⟩ = some (.int .i64 pa) := (unhide HF_w4).boxc (unhide HB) hWn (by decide) rfl
  have d2 : w4.cell? ⟨w.heap.size, 2, none⟩ = some (.int .i64 sl) := (unhide HF_w4).boxc (unhide HB) hWn (by decide) rfl
  have d3 : w4.cell? ⟨w.heap.size, 3, none⟩ = some (.bool rs) := (unhide HF_w4).boxc (unhide HB) hWn (by decide) rfl
  have d4 : w4.cell? ⟨w.heap.size, 4, none⟩ = some (.slice a1 cd.length c1) := (unhide HF_w4).boxc (unhide HB) hWn (by decide) rfl
  clear hF hW
  go_wp2_with fail
  refine (wflag_is rs (unhide HW_w4) (by simp only [List.length_append, beb_len]; omega)).mono ?_
  rintro e w5 ⟨rfl, hF, hW⟩
  have HF_w5 := hide ((unhide HF_w4).trans hF)
  have HW_w5 := hide hW
  have d0 : w5.cell? ⟨w.heap.size, 0, none⟩ = some (.string nm) := (unhide HF_w5).boxc (unhide HB) hWn (by decide) rfl
  have d1 : w5.cell? ⟨w.heap.size, 1, none⟩ = some (.int .i64 pa) := (unhide HF_w5).boxc (unhide HB) hWn (by decide) rfl
  have d2 : w5.cell? ⟨w.heap.size, 2, none⟩ = some (.int .i64 sl) := (unhide HF_w5).boxc (unhide HB) hWn (by decide) rfl
  have d3 : w5.cell? ⟨w.heap.size, 3, none⟩ = some (.bool rs) := (unhide HF_w5).boxc (unhide HB) hWn (by decide) rfl
  have d4 : w5.cell? ⟨w.heap.size, 4, none⟩ = some (.slice a1 cd.length c1) := (unhide HF_w5).boxc (unhide HB) hWn (by decide) rfl
  clear hF hW
  go_wp2_with fail
  refine (wnum_eq _ 4 rfl (by omega) (unhide HW_w5) (by simp only [List.length_append, beb_len]; rw [show (bflag rs).length = 1 from rfl]; omega)).mono ?_
  rintro e w6 ⟨rfl, hF, hW⟩
  have HF_w6 := hide ((unhide HF_w5).trans hF)
  have HW_w6 := hide hW
  have d0 : w6.cell? ⟨w.heap.size, 0, none⟩ = some (.string nm) := (unhide HF_w6).boxc (unhide HB) hWn (by decide) rfl
  have d1 : w6.cell? ⟨w.heap.size, 1, none⟩ = some (.int .i64 pa) := (unhide HF_w6).boxc (unhide HB) hWn (by decide) rfl
  have d2 : w6.cell? ⟨w.heap.size, 2, none⟩ = some (.int .i64 sl) := (unhide HF_w6).boxc (unhide HB) hWn (by decide) rfl
  have d3 : w6.cell? ⟨w.heap.size, 3, none⟩ = some (.bool rs) := (unhide HF_w6).boxc (unhide HB) hWn (by decide) rfl
  have d4 : w6.cell? ⟨w.heap.size, 4, none⟩ = some (.slice a1 cd.length c1) := (unhide HF_w6).boxc (unhide HB) hWn (by decide) rfl
  clear hF hW
  go_wp2
  obtain ⟨A, hA⟩ : ∃ A, A = acc ++ (btext nm ++ (beb pa 1 ++ (beb sl 2 ++ (bflag rs ++ beb cd.length 4)))) := ⟨_, rfl⟩
  have hAl : A.length = acc.length + ((btext nm).length + (1 + (2 + (1 + 4)))) := by
    rw [hA]
    simp only [List.length_append, beb_len]
    rw [show (bflag rs).length = 1 from rfl]
  have HWA := hide ((unhide HW_w6).eq (show _ = A by rw [hA]; simp only [List.append_assoc]))
  have HFA := hide ((unhide HF).trans (unhide HF_w6))
  have HA := hide hA
  clear d0 d1 d2 d3 d4 hA
  go_loopw [30] (fun i wr => ∃ k : Nat, k ≤ cd.length ∧ i = .int .i64 k ∧ Fx N W w wr ∧ Wr N W (A ++ (cd.take k).flatMap bins) wr) (fun i _ => cd.length - (intOf i).toNat)
  case atStart => exact ⟨0, Nat.zero_le _, rfl, unhide HFA, by simpa using unhide HWA⟩
  case round =>
    obtain ⟨k, hk, rfl, hF, hW⟩ := hrel
    by_cases hlt : k < cd.length
    · obtain ⟨rfl, hb1⟩ := unhide HS (by omega)
      obtain ⟨g1, g2, g3, g4⟩ := InAt.below hF.below hb1 (unhide H1 k hlt)
      have hat := flat_at bins cd k hlt
      rw [bins_len] at hat
      have htk := flat_take bins cd k hlt
      have hWn2 : wr.heap.size ≠ W := by have := hW.lt; omega
      generalize cd[k] = x at *
      have HWx := hide (hW.box (.cells #[.int .i64 x.op, .int .i64 x.a, .int .i64 x.b, .int .i64 x.l] 29))
      have HFx := hide (hF.trans (hW.fxa (.cells #[.int .i64 x.op, .int .i64 x.a, .int .i64 x.b, .int .i64 x.l] 29)))
      have HBx := hide (heap_new wr (.cells #[.int .i64 x.op, .int .i64 x.a, .int .i64 x.b, .int .i64 x.l] 29))
      have HTK := hide htk
      generalize (cd.take k).flatMap bins = Y at *
      have hAY : A.length + Y.length + 14 ≤ 140737488355328 := by omega
      clear hF hW htk hat
      go_wp2_with fail
      refine (wnum_eq _ 1 rfl (by omega) (unhide HWx) (by simp only [List.length_append]; omega)).mono ?_
      rintro e u2 ⟨rfl, hF, hW⟩
      have HF_u2 := hide hF
      have HW_u2 := hide hW
      have d0 : u2.cell? ⟨wr.heap.size, 0, none⟩ = some (.int .i64 x.op) := (unhide HF_u2).boxc (unhide HBx) hWn2 (by decide) rfl
      have d1 : u2.cell? ⟨wr.heap.size, 1, none⟩ = some (.int .i64 x.a) := (unhide HF_u2).boxc (unhide HBx) hWn2 (by decide) rfl
      have d2 : u2.cell? ⟨wr.heap.size, 2, none⟩ = some (.int .i64 x.b) := (unhide HF_u2).boxc (unhide HBx) hWn2 (by decide) rfl
      have d3 : u2.cell? ⟨wr.heap.size, 3, none⟩ = some (.int .i64 x.l) := (unhide HF_u2).boxc (unhide HBx) hWn2 (by decide) rfl
      clear hF hW
      go_wp2_with fail
      refine (wnum_eq _ 8 rfl (by omega) (unhide HW_u2) (by simp only [List.length_append, beb_len]; omega)).mono ?_
      rintro e u3 ⟨rfl, hF, hW⟩
      have HF_u3 := hide ((unhide HF_u2).trans hF)
      have HW_u3 := hide hW
      have d0 : u3.cell? ⟨wr.heap.size, 0, none⟩ = some (.int .i64 x.op) := (unhide HF_u3).boxc (unhide HBx) hWn2 (by decide) rfl
      have d1 : u3.cell? ⟨wr.heap.size, 1, none⟩ = some (.int .i64 x.a) := (unhide HF_u3).boxc (unhide HBx) hWn2 (by decide) rfl
      have d2 : u3.cell? ⟨wr.heap.size, 2, none⟩ = some (.int .i64 x.b) := (unhide HF_u3).boxc (unhide HBx) hWn2 (by decide) rfl
      have d3 : u3.cell? ⟨wr.heap.size, 3, none⟩ = some (.int .i64 x.l) := (unhide HF_u3).boxc (unhide HBx) hWn2 (by decide) rfl
      clear hF hW
      go_wp2_with fail
      refine (wnum_eq _ 1 rfl (by omega) (unhide HW_u3) (by simp only [List.length_append, beb_len]; omega)).mono ?_
      rintro e u4 ⟨rfl, hF, hW⟩
      have HF_u4 := hide ((unhide HF_u3).trans hF)
      have HW_u4 := hide hW
      have d0 : u4.cell? ⟨wr.heap.size, 0, none⟩ = some (.int .i64 x.op) := (unhide HF_u4).boxc (unhide HBx) hWn2 (by decide) rfl
      have d1 : u4.cell? ⟨wr.heap.size, 1, none⟩ = some (.int .i64 x.a) := (unhide HF_u4).boxc (unhide HBx) hWn2 (by decide) rfl
      have d2 : u4.cell? ⟨wr.heap.size, 2, none⟩ = some (.int .i64 x.b) := (unhide HF_u4).boxc (unhide HBx) hWn2 (by decide) rfl
      have d3 : u4.cell? ⟨wr.heap.size, 3, none⟩ = some (.int .i64 x.l) := (unhide HF_u4).boxc (unhide HBx) hWn2 (by decide) rfl
      clear hF hW
      go_wp2_with fail
      refine (wnum_eq _ 4 rfl (by omega) (unhide HW_u4) (by simp only [List.length_append, beb_len]; omega)).mono ?_
      rintro e u5 ⟨rfl, hF, hW⟩
      have HF_u5 := hide ((unhide HF_u4).trans hF)
      have HW_u5 := hide hW
      clear hF hW
      go_wp2
      go_roundw
      case rel => exact ⟨k + 1, by omega, by go_num, (unhide HFx).trans (unhide HF_u5), (unhide HW_u5).eq (by rw [unhide HTK]; unfold bins; simp only [List.append_assoc])⟩
      case measure => simp [intOf]; omega
    · have e : k = cd.length := by omega
      subst e
      have HFr := hide hF
      have HWr := hide (hW.eq (show _ = acc ++ bfun ⟨nm, pa, sl, rs, cd⟩ by rw [List.take_length, unhide HA, unhide E0]; simp only [List.append_assoc]))
      clear hF hW
      go_wp2
      go_end0
      exact ⟨rfl, unhide HFr, unhide HWr⟩

end Go.Proofs.YtgheaieghoekhaaDoor
