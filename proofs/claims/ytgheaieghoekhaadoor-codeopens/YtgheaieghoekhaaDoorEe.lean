/- A program as bytes: the writer's. -/
import Derived.Test.YtgheaieghoekhaaDoorEd
namespace Go.Proofs.YtgheaieghoekhaaDoor
open Go.RowKit

theorem bprog_parts (p : Pg) : (bprog p).length = 4 + (4 + (4 + ((p.fs.flatMap bfun).length + (4 + ((p.ps.flatMap bprint).length + (4 + (p.ar.flatMap barm).length)))))) := by
  unfold bprog
  simp only [List.length_append, beb_len, List.length_cons, List.length_nil]

set_option maxHeartbeats 8000000 in
theorem wprog_is {N W : Nat} {w : World} {v1 v2 v3 : Value} {p : Pg} (hp : PgAt N w v1 v2 v3 p) (h : Wr N W [] w) (hlen : (bprog p).length ≤ 140737488355328) :
    Calls Tryd.prog 28 #[.pointer (some ⟨W, 0, none⟩), pv v1 v2 v3 p.mn] w fun e w' => Wrote N W [] (bprog p) w e w' := by
  have E0 := hide (show bprog p = [68, 82, 87, 49] ++ (beb p.mn 4 ++ (beb p.fs.length 4 ++ (p.fs.flatMap bfun ++ (beb p.ps.length 4 ++ (p.ps.flatMap bprint ++ (beb p.ar.length 4 ++ p.ar.flatMap barm)))))) from rfl)
  rw [bprog_parts] at hlen
  have hWn : w.heap.size ≠ W := by have := h.lt; omega
  have hNw := h.nle
  obtain ⟨fs, ps, ar, mn⟩ := p
  have HP := hide hp
  obtain ⟨⟨b1, o1, ⟨a1, c1, rfl, hc1, hm1, hs1⟩, hl1⟩, ⟨b2, o2, ⟨a2, c2, rfl, hc2, hm2, hs2⟩, hl2⟩, ⟨b3, o3, ⟨a3, c3, rfl, hc3, hm3, hs3⟩, hl3⟩⟩ := hp
  simp only at hs1 hl1 hc1 hm1 hs2 hl2 hc2 hm2 hs3 hl3 hc3 hm3 hlen E0 HP ⊢
  have HW := hide (h.box (.cells #[.slice a1 fs.length c1, .slice a2 ps.length c2, .slice a3 ar.length c3, .int .i64 mn] 26))
  have HF := hide (h.fxa (.cells #[.slice a1 fs.length c1, .slice a2 ps.length c2, .slice a3 ar.length c3, .int .i64 mn] 26))
  have HB := hide (heap_new w (.cells #[.slice a1 fs.length c1, .slice a2 ps.length c2, .slice a3 ar.length c3, .int .i64 mn] 26))
  obtain ⟨u0, k0⟩ := (unhide HW).c0
  have H1 := hide hl1
  have HS1 := hide hs1
  have H2 := hide hl2
  have HS2 := hide hs2
  have H3 := hide hl3
  have HS3 := hide hs3
  clear h hl1 hs1 hl2 hs2 hl3 hs3 HP
  go_enter Tryd.func28, Tryd.ntmps28
  go_wp2_with fail
  refine (wstr_is ⟨#[68, 82, 87, 49]⟩ (unhide HW) (by show 0 + 4 ≤ _; omega)).mono ?_
  rintro e w2 ⟨rfl, hF, hW⟩
  have HF_w2 := hide hF
  have HW_w2 := hide hW
  have d0 : w2.cell? ⟨w.heap.size, 0, none⟩ = some (.slice a1 fs.length c1) := (unhide HF_w2).boxc (unhide HB) hWn (by decide) rfl
  have d1 : w2.cell? ⟨w.heap.size, 1, none⟩ = some (.slice a2 ps.length c2) := (unhide HF_w2).boxc (unhide HB) hWn (by decide) rfl
  have d2 : w2.cell? ⟨w.heap.size, 2, none⟩ = some (.slice a3 ar.length c3) := (unhide HF_w2).boxc (unhide HB) hWn (by decide) rfl
  have d3 : w2.cell? ⟨w.heap.size, 3, none⟩ = some (.int .i64 mn) := (unhide HF_w2).boxc (unhide HB) hWn (by decide) rfl
  clear hF hW
  obtain ⟨x2, h2⟩ : ∃ x, x = [] ++ (⟨#[68, 82, 87, 49]⟩ : ByteArray).data.toList := ⟨_, rfl⟩
  rw [← h2] at HW_w2
  have hx2 : x2.length = 4 := by rw [h2]; rfl
  have X2 := hide (show x2 = [68, 82, 87, 49] from h2)
  clear h2 k0
  go_wp2_with fail
  refine (wnum_eq _ 4 rfl (by omega) (unhide HW_w2) (by omega)).mono ?_
  rintro e w3 ⟨rfl, hF, hW⟩
  have HF_w3 := hide ((unhide HF_w2).trans hF)
  have HW_w3 := hide hW
  have d0 : w3.cell? ⟨w.heap.size, 0, none⟩ = some (.slice a1 fs.length c1) := (unhide HF_w3).boxc (unhide HB) hWn (by decide) rfl
  have d1 : w3.cell? ⟨w.heap.size, 1, none⟩ = some (.slice a2 ps.length c2) := (unhide HF_w3).boxc (unhide HB) hWn (by decide) rfl
  have d2 : w3.cell? ⟨w.heap.size, 2, none⟩ = some (.slice a3 ar.length c3) := (unhide HF_w3).boxc (unhide HB) hWn (by decide) rfl
  have d3 : w3.cell? ⟨w.heap.size, 3, none⟩ = some (.int .i64 mn) := (unhide HF_w3).boxc (unhide HB) hWn (by decide) rfl
  clear hF hW
  go_wp2_with fail
  refine (wnum_eq _ 4 rfl (by omega) (unhide HW_w3) (by simp only [List.length_append, beb_len]; omega)).mono ?_
  rintro e w4 ⟨rfl, hF, hW⟩
  have HF_w4 := hide ((unhide HF_w3).trans hF)
  have HW_w4 := hide hW
  have d0 : w4.cell? ⟨w.heap.size, 0, none⟩ = some (.slice a1 fs.length c1) := (unhide HF_w4).boxc (unhide HB) hWn (by decide) rfl
  have d1 : w4.cell? ⟨w.heap.size, 1, none⟩ = some (.slice a2 ps.length c2) := (unhide HF_w4).boxc (unhide HB) hWn (by decide) rfl
  have d2 : w4.cell? ⟨w.heap.size, 2, none⟩ = some (.slice a3 ar.length c3) := (unhide HF_w4).boxc (unhide HB) hWn (by decide) rfl
  have d3 : w4.cell? ⟨w.heap.size, 3, none⟩ = some (.int .i64 mn) := (unhide HF_w4).boxc (unhide HB) hWn (by decide) rfl
  clear hF hW
  obtain ⟨A1, hA1⟩ : ∃ A, A = x2 ++ beb mn 4 ++ beb fs.length 4 := ⟨_, rfl⟩
  rw [← hA1] at HW_w4
  have hl1 : A1.length = 12 := by rw [hA1]; simp only [List.length_append, beb_len]; omega
  have EA1 := hide hA1
  clear hA1
  go_wp2
  have HFA := hide ((unhide HF).trans (unhide HF_w4))
  clear d0 d1 d2 d3
  go_loopw [30] (fun i wr => ∃ k : Nat, k ≤ fs.length ∧ i = .int .i64 k ∧ Fx N W w wr ∧ Fx N W (w.alloc (.cells #[.slice a1 fs.length c1, .slice a2 ps.length c2, .slice a3 ar.length c3, .int .i64 mn] 26)) wr ∧ Wr N W (A1 ++ (fs.take k).flatMap bfun) wr) (fun i _ => fs.length - (intOf i).toNat)
  case atStart => exact ⟨0, Nat.zero_le _, rfl, unhide HFA, unhide HF_w4, by simpa using unhide HW_w4⟩
  case round =>
    obtain ⟨k, hk, rfl, hF, hFa, hW⟩ := hrel
    by_cases hlt : k < fs.length
    · obtain ⟨rfl, hb1⟩ := unhide HS1 (by omega)
      obtain ⟨v, g1, g2, g3, g4, g5, g6⟩ := FuAt.below hF.below hb1 (unhide H1 k hlt)
      have hat := flat_at bfun fs k hlt
      have htk := flat_take bfun fs k hlt
      have hbw : b1 < wr.heap.size := by have := hW.nle; omega
      generalize fs[k] = x at *
      have HV := hide (code_below ((Below.refl N wr).alloc hW.nle (.cells #[.string x.nm, .int .i64 x.pa, .int .i64 x.sl, .bool x.rs, v] 51)) g6)
      obtain ⟨b5, o5, ⟨a5, c5, rfl, -⟩, -⟩ := g6
      have HWx := hide (hW.box (.cells #[.string x.nm, .int .i64 x.pa, .int .i64 x.sl, .bool x.rs, .slice a5 x.cd.length c5] 51))
      have hfx := hW.fxa (.cells #[.string x.nm, .int .i64 x.pa, .int .i64 x.sl, .bool x.rs, .slice a5 x.cd.length c5] 51)
      have HFx := hide (hF.trans hfx)
      have HFxa := hide (hFa.trans hfx)
      have HTK := hide htk
      generalize (fs.take k).flatMap bfun = Y at *
      have hAY : (A1 ++ Y).length + (bfun x).length ≤ 140737488355328 := by rw [List.length_append]; omega
      clear hF hW htk hat hFa hfx
      go_wp2_with fail
      refine (wfun_is x _ (unhide HV) (unhide HWx) hAY).mono ?_
      rintro e w5 ⟨rfl, hF5, hW5⟩
      have HF5 := hide hF5
      have HW5 := hide hW5
      clear hF5 hW5
      go_wp2
      go_roundw
      case rel => exact ⟨k + 1, by omega, by go_num, (unhide HFx).trans (unhide HF5), (unhide HFxa).trans (unhide HF5), (unhide HW5).eq (by rw [unhide HTK, List.append_assoc])⟩
      case measure => simp [intOf]; omega
    · have e : k = fs.length := by omega
      subst e
      rw [List.take_length] at hW
      have d1 : wr.cell? ⟨w.heap.size, 1, none⟩ = some (.slice a2 ps.length c2) := hFa.boxc (unhide HB) hWn (by decide) rfl
      have HFr := hide hF
      have HFa := hide hFa
      have HWr := hide hW
      clear hF hFa hW
      obtain ⟨wq, rfl⟩ : ∃ x, x = wr := ⟨_, rfl⟩
      go_wp2_with fail
      refine (wnum_eq _ 4 rfl (by omega) (unhide HWr) (by simp only [List.length_append]; omega)).mono ?_
      rintro e w6 ⟨rfl, hF, hW⟩
      have HF_w6 := hide ((unhide HFa).trans hF)
      have HW_w6 := hide hW
      have d1 : w6.cell? ⟨w.heap.size, 1, none⟩ = some (.slice a2 ps.length c2) := (unhide HF_w6).boxc (unhide HB) hWn (by decide) rfl
      clear hF hW
      obtain ⟨A2, hA2⟩ : ∃ A, A = A1 ++ fs.flatMap bfun ++ beb ps.length 4 := ⟨_, rfl⟩
      rw [← hA2] at HW_w6
      have hl2 : A2.length = 16 + (fs.flatMap bfun).length := by rw [hA2]; simp only [List.length_append, beb_len]; omega
      have EA2 := hide hA2
      clear hA2
      go_wp2
      clear d1
      have HFA6 := hide ((unhide HF).trans (unhide HF_w6))
      go_loopw [46] (fun i wr => ∃ k : Nat, k ≤ ps.length ∧ i = .int .i64 k ∧ Fx N W w wr ∧ Fx N W (w.alloc (.cells #[.slice a1 fs.length c1, .slice a2 ps.length c2, .slice a3 ar.length c3, .int .i64 mn] 26)) wr ∧ Wr N W (A2 ++ (ps.take k).flatMap bprint) wr) (fun i _ => ps.length - (intOf i).toNat)
      case atStart => exact ⟨0, Nat.zero_le _, rfl, unhide HFA6, unhide HF_w6, by simpa using unhide HW_w6⟩
      case round =>
        obtain ⟨k, hk, rfl, hF, hFa, hW⟩ := hrel
        by_cases hlt : k < ps.length
        · obtain ⟨rfl, hb2⟩ := unhide HS2 (by omega)
          obtain ⟨v, g1, b5, o5, ⟨a5, c5, rfl, hc5, hm5, hs5⟩, hl5⟩ := PrAt.below hF.below hb2 (unhide H2 k hlt)
          rw [Nat.mul_one] at g1
          have hat := flat_at bprint ps k hlt
          have htk := flat_take bprint ps k hlt
          have hbw : b2 < wr.heap.size := by have := hW.nle; omega
          generalize ps[k] = x at *
          have hbp : (bprint x).length = 1 + (x.flatMap bitem).length := by unfold bprint; rw [List.length_append, beb_len]
          have HFx := hide hF
          have HFxa := hide hFa
          have HWx := hide hW
          have HTK := hide htk
          generalize (ps.take k).flatMap bprint = Y at *
          have hAY : (A2 ++ Y).length + (1 + (x.flatMap bitem).length) ≤ 140737488355328 := by rw [List.length_append]; omega
          have H5 := hide hl5
          have HS5 := hide hs5
          clear hF hW htk hat hFa hl5 hs5 hbp
          obtain ⟨wp, rfl⟩ : ∃ x, x = wr := ⟨_, rfl⟩
          go_wp2_with fail
          refine (wnum_eq _ 1 rfl (by omega) (unhide HWx) (by omega)).mono ?_
          rintro e w7 ⟨rfl, hF7, hW7⟩
          have HF7 := hide hF7
          have HW7 := hide hW7
          clear hF7 hW7
          go_wp2
          go_loopw [56] (fun i wr => ∃ j : Nat, j ≤ x.length ∧ i = .int .i64 j ∧ Fx N W wp wr ∧ Wr N W (A2 ++ Y ++ beb x.length 1 ++ (x.take j).flatMap bitem) wr) (fun i _ => x.length - (intOf i).toNat)
          case atStart => exact ⟨0, Nat.zero_le _, rfl, unhide HF7, by simpa using unhide HW7⟩
          case round =>
            obtain ⟨j, hj, rfl, hF, hW⟩ := hrel
            by_cases hlt2 : j < x.length
            · obtain ⟨rfl, hb5⟩ := unhide HS5 (by omega)
              obtain ⟨g1, g2⟩ := ItAt.below hF.below hb5 (unhide H5 j hlt2)
              have hat := flat_at bitem x j hlt2
              have htk := flat_take bitem x j hlt2
              have hbw5 : b5 < wr.heap.size := by have := hW.nle; omega
              generalize x[j] = y at *
              have HWy := hide (hW.box (.cells #[.int .i64 y.k, .string y.t] 64))
              have HFy := hide (hF.trans (hW.fxa (.cells #[.int .i64 y.k, .string y.t] 64)))
              have HTK2 := hide htk
              generalize (x.take j).flatMap bitem = Z at *
              have hAZ : (A2 ++ Y ++ beb x.length 1 ++ Z).length + (bitem y).length ≤ 140737488355328 := by rw [List.length_append, List.length_append, beb_len]; omega
              clear hF hW htk hat
              go_wp2_with fail
              refine (witem_is y (unhide HWy) hAZ).mono ?_
              rintro e w8 ⟨rfl, hF8, hW8⟩
              have HF8 := hide hF8
              have HW8 := hide hW8
              clear hF8 hW8
              go_wp2
              go_roundw
              case rel => exact ⟨j + 1, by omega, by go_num, (unhide HFy).trans (unhide HF8), (unhide HW8).eq (by rw [unhide HTK2, List.append_assoc])⟩
              case measure => simp [intOf]; omega
            · have e : j = x.length := by omega
              subst e
              rw [List.take_length] at hW
              have HF8 := hide hF
              have HW8 := hide hW
              clear hF hW
              go_wp2
              go_roundw
              case rel => exact ⟨k + 1, by omega, by go_num, (unhide HFx).trans (unhide HF8), (unhide HFxa).trans (unhide HF8), (unhide HW8).eq (by rw [unhide HTK]; unfold bprint; simp only [List.append_assoc])⟩
              case measure => simp [intOf]; omega
        · have e : k = ps.length := by omega
          subst e
          rw [List.take_length] at hW
          have d2 : wr.cell? ⟨w.heap.size, 2, none⟩ = some (.slice a3 ar.length c3) := hFa.boxc (unhide HB) hWn (by decide) rfl
          have HFr2 := hide hF
          have HFa2 := hide hFa
          have HWr2 := hide hW
          clear hF hFa hW
          obtain ⟨ws, rfl⟩ : ∃ x, x = wr := ⟨_, rfl⟩
          go_wp2_with fail
          refine (wnum_eq _ 4 rfl (by omega) (unhide HWr2) (by simp only [List.length_append]; omega)).mono ?_
          rintro e w9 ⟨rfl, hF, hW⟩
          have HF_w9 := hide ((unhide HFa2).trans hF)
          have HW_w9 := hide hW
          have d2 : w9.cell? ⟨w.heap.size, 2, none⟩ = some (.slice a3 ar.length c3) := (unhide HF_w9).boxc (unhide HB) hWn (by decide) rfl
          clear hF hW
          obtain ⟨A3, hA3⟩ : ∃ A, A = A2 ++ ps.flatMap bprint ++ beb ar.length 4 := ⟨_, rfl⟩
          rw [← hA3] at HW_w9
          have hl3 : A3.length = 20 + (fs.flatMap bfun).length + (ps.flatMap bprint).length := by rw [hA3]; simp only [List.length_append, beb_len]; omega
          have EA3 := hide hA3
          clear hA3
          go_wp2
          clear d2
          have HFA9 := hide ((unhide HF).trans (unhide HF_w9))
          go_loopw [73] (fun i wr => ∃ k : Nat, k ≤ ar.length ∧ i = .int .i64 k ∧ Fx N W w wr ∧ Wr N W (A3 ++ (ar.take k).flatMap barm) wr) (fun i _ => ar.length - (intOf i).toNat)
          case atStart => exact ⟨0, Nat.zero_le _, rfl, unhide HFA9, by simpa using unhide HW_w9⟩
          case round =>
            obtain ⟨k, hk, rfl, hF, hW⟩ := hrel
            by_cases hlt : k < ar.length
            · obtain ⟨rfl, hb3⟩ := unhide HS3 (by omega)
              obtain ⟨v, g1, b5, o5, ⟨a5, c5, rfl, hc5, hm5, hs5⟩, hl5⟩ := ArAt.below hF.below hb3 (unhide H3 k hlt)
              rw [Nat.mul_one] at g1
              have hat := flat_at barm ar k hlt
              have htk := flat_take barm ar k hlt
              have hbw : b3 < wr.heap.size := by have := hW.nle; omega
              generalize ar[k] = x at *
              have hbp : (barm x).length = 1 + (x.flatMap bflag).length := by unfold barm; rw [List.length_append, beb_len]
              have HFx := hide hF
              have HWx := hide hW
              have HTK := hide htk
              generalize (ar.take k).flatMap barm = Y at *
              have hAY : (A3 ++ Y).length + (1 + (x.flatMap bflag).length) ≤ 140737488355328 := by rw [List.length_append]; omega
              have H5 := hide hl5
              have HS5 := hide hs5
              clear hF hW htk hat hl5 hs5 hbp
              obtain ⟨wp, rfl⟩ : ∃ x, x = wr := ⟨_, rfl⟩
              go_wp2_with fail
              refine (wnum_eq _ 1 rfl (by omega) (unhide HWx) (by omega)).mono ?_
              rintro e w7 ⟨rfl, hF7, hW7⟩
              have HF7 := hide hF7
              have HW7 := hide hW7
              clear hF7 hW7
              go_wp2
              go_loopw [83] (fun i wr => ∃ j : Nat, j ≤ x.length ∧ i = .int .i64 j ∧ Fx N W wp wr ∧ Wr N W (A3 ++ Y ++ beb x.length 1 ++ (x.take j).flatMap bflag) wr) (fun i _ => x.length - (intOf i).toNat)
              case atStart => exact ⟨0, Nat.zero_le _, rfl, unhide HF7, by simpa using unhide HW7⟩
              case round =>
                obtain ⟨j, hj, rfl, hF, hW⟩ := hrel
                by_cases hlt2 : j < x.length
                · obtain ⟨rfl, hb5⟩ := unhide HS5 (by omega)
                  have g1 := BoAt.below hF.below hb5 (unhide H5 j hlt2)
                  unfold BoAt at g1
                  rw [Nat.mul_one] at g1
                  have hat := flat_at bflag x j hlt2
                  have htk := flat_take bflag x j hlt2
                  have hbw5 : b5 < wr.heap.size := by have := hW.nle; omega
                  generalize x[j] = y at *
                  rw [show (bflag y).length = 1 from rfl] at hat
                  have HWy := hide hW
                  have HFy := hide hF
                  have HTK2 := hide htk
                  generalize (x.take j).flatMap bflag = Z at *
                  have hAZ : (A3 ++ Y ++ beb x.length 1 ++ Z).length + 1 ≤ 140737488355328 := by rw [List.length_append, List.length_append, beb_len]; omega
                  clear hF hW htk hat
                  go_wp2_with fail
                  refine (wflag_is y (unhide HWy) hAZ).mono ?_
                  rintro e w8 ⟨rfl, hF8, hW8⟩
                  have HF8 := hide hF8
                  have HW8 := hide hW8
                  clear hF8 hW8
                  go_wp2
                  go_roundw
                  case rel => exact ⟨j + 1, by omega, by go_num, (unhide HFy).trans (unhide HF8), (unhide HW8).eq (by rw [unhide HTK2, List.append_assoc])⟩
                  case measure => simp [intOf]; omega
                · have e : j = x.length := by omega
                  subst e
                  rw [List.take_length] at hW
                  have HF8 := hide hF
                  have HW8 := hide hW
                  clear hF hW
                  go_wp2
                  go_roundw
                  case rel => exact ⟨k + 1, by omega, by go_num, (unhide HFx).trans (unhide HF8), (unhide HW8).eq (by rw [unhide HTK]; unfold barm; simp only [List.append_assoc])⟩
                  case measure => simp [intOf]; omega
            · have e : k = ar.length := by omega
              subst e
              rw [List.take_length] at hW
              have HF8 := hide hF
              have HW8 := hide (hW.eq (show _ = [] ++ bprog ⟨fs, ps, ar, mn⟩ by rw [unhide E0, unhide EA3, unhide EA2, unhide EA1, unhide X2]; simp only [List.append_assoc, List.nil_append]))
              clear hF hW
              go_wp2
              go_end0
              exact ⟨rfl, unhide HF8, unhide HW8⟩

end Go.Proofs.YtgheaieghoekhaaDoor
