/- Layer 11: the document's book: the lists. -/
import Derived.Test.YthnnpipekeanoaaWd
import Derived.Deep.RegionHeld3
namespace Go.Proofs.Ythnnpipekeanoaa
open Go.RowKit

theorem nfRc : (Try.prog.info? 57).map (fun i => (i.zero, i.size, i.bytes)) = some (some (rcV zRc), 11, 56) := by kernel_rfl
theorem nf_open {P : Program} {T : TypeId} {z : Value} {k b : Nat} (h : (P.info? T).map (fun i => (i.zero, i.size, i.bytes)) = some (some z, k, b)) : ∃ i, P.info? T = some i ∧ i.zero = some z ∧ i.size = k ∧ i.bytes = b := by
  cases hi : P.info? T with
  | none => rw [hi] at h; cases h
  | some i =>
    rw [hi] at h
    simp only [Option.map_some, Option.some.injEq, Prod.mk.injEq] at h
    exact ⟨i, rfl, h.1, h.2.1, h.2.2⟩
/-- a new block's cells, one by one -/
theorem row_new (V : World) (cs : List Value) (T : TypeId) {n : Nat} (hn : V.heap.size = n) : ∀ (j : Nat) (u : Value), cs[j]? = some u → (V.alloc (.cells cs.toArray T)).cell? ((⟨n, 0, none⟩ : Addr).add j) = some u := by
  intro j u hu
  subst hn
  rw [Addr.add_lit, Nat.zero_add, Lib.cell_of_heap (heap_new V (.cells cs.toArray T))]
  simpa using hu
theorem rcF_one (r : Rc) : ∀ u ∈ rcF r, u.oneCell' = true := by
  intro u hu
  simp only [rcF, List.mem_cons, List.not_mem_nil, or_false] at hu
  rcases hu with rfl | rfl | rfl | rfl | rfl | rfl | rfl | rfl | rfl | rfl | rfl <;> rfl

set_option maxRecDepth 100000 in
set_option maxHeartbeats 4000000 in
theorem rnowW {w : World} {B b : Nat} {av ov : Value} {l : List Wt} (h : DB w B b av ov l) (hl : l.length ≤ 100000) :
    Calls Try.prog 9 #[.pointer (some ⟨b, 0, none⟩)] w fun e w' => ∃ v', e = .returned v' ∧ RcRow w' w.heap.size v' (sel isNow l) ∧ Below w.heap.size w w' := by
  obtain ⟨a, c, a', c', rfl, rfl, hc, hc', hm⟩ := h.forms
  obtain ⟨i0, hi0, hz0, hz1, hz2⟩ := nf_open nfRc
  have HB1 := hide (Below.refl w.heap.size w)
  go_enter Try.func9, Try.ntmps9
  go_wp2
  go_loopw [3, 4] (fun t i wr => ∃ k : Nat, k ≤ l.length ∧ i = .int .i64 k ∧ Hid (RcRow wr w.heap.size t (sel isNow (l.take k))) ∧ Hid (Below w.heap.size w wr)) (fun _ i _ => l.length - (intOf i).toNat)
  case atStart => exact ⟨0, Nat.zero_le _, rfl, hide (Row.nil _ _), HB1⟩
  case round =>
    obtain ⟨k, hk, rfl, HR, HB⟩ := hrel
    obtain ⟨W, rfl⟩ : ∃ W, W = wr := ⟨_, rfl⟩
    obtain ⟨u0, eu⟩ : ∃ u, u = u3 := ⟨_, rfl⟩
    subst eu
    have h1 := h.below HB.out
    obtain ⟨hx0, hx1⟩ := h1.cells
    by_cases hlt : k < l.length
    · obtain ⟨ga, gc, oa, oc, e1, e2, k1, k2, -, -, hcell, hov, -⟩ := h1.at (by omega)
      cases e1
      cases e2
      have q1 : decide ((k : Int) < (l.length : Int)) = true := decide_eq_true (by omega)
      have y0 : W.cell? ⟨ga, k * 11, none⟩ = _ := hcell k hlt 0 (.int .u32 l[k].r.ms) rfl
      have y1 := hcell k hlt 1 (.int .u32 l[k].r.mg) rfl
      have y2 := hcell k hlt 2 (.int .u32 l[k].r.ws) rfl
      have y3 := hcell k hlt 3 (.int .u32 l[k].r.wg) rfl
      have y4 := hcell k hlt 4 (.int .u32 l[k].r.rs) rfl
      have y5 := hcell k hlt 5 (.int .u32 l[k].r.rg) rfl
      have y6 := hcell k hlt 6 (.int .i64 l[k].r.rd) rfl
      have y7 := hcell k hlt 7 (.int .i64 l[k].r.ar) rfl
      have y8 := hcell k hlt 8 (.int .i64 l[k].r.vn) rfl
      have y9 := hcell k hlt 9 (.int .u32 l[k].r.vs) rfl
      have y10 := hcell k hlt 10 (.int .u32 l[k].r.vg) rfl
      have yo := hov k hlt
      have hle : (sel isNow (l.take k)).length ≤ k := Nat.le_trans (sel_le _ _) (List.length_take_le _ _)
      have hnx := sel_snoc isNow (l.take k) l[k]
      rw [← List.take_succ_eq_append_getElem hlt] at hnx
      generalize l[k] = z at hnx yo y0 y1 y2 y3 y4 y5 y6 y7 y8 y9 y10
      have HN := hide hnx
      clear hnx hcell hov
      cases hd : z.o
      · rw [hd] at yo
        have HRV := HR
        have HBV := HB
        obtain ⟨V, eV⟩ : ∃ V, V = W := ⟨_, rfl⟩
        subst eV
        have HQ := hide (show isNow z = true by simp [isNow, hd])
        have HOW := hide (World.ownsRow.alloc HRV.out (.cells #[.int .u32 z.r.ms, .int .u32 z.r.mg, .int .u32 z.r.ws, .int .u32 z.r.wg, .int .u32 z.r.rs, .int .u32 z.r.rg, .int .i64 z.r.rd, .int .i64 z.r.ar, .int .i64 z.r.vn, .int .u32 z.r.vs, .int .u32 z.r.vg] 57))
        have HN1 := hide (row_new V (rcF z.r) 57 rfl)
        have HM1 := hide (show (sel isNow (l.take k)).length + 1 ≤ maxLen by unfold maxLen; omega)
        have HM2 := hide (show ((sel isNow (l.take k)).length + 1) * 56 ≤ 140737488355328 by omega)
        have HM3 := hide (show w.heap.size ≤ (V.alloc (.cells #[.int .u32 z.r.ms, .int .u32 z.r.mg, .int .u32 z.r.ws, .int .u32 z.r.wg, .int .u32 z.r.rs, .int .u32 z.r.rg, .int .i64 z.r.rd, .int .i64 z.r.ar, .int .i64 z.r.vn, .int .u32 z.r.vs, .int .u32 z.r.vg] 57)).heap.size by have := HBV.out.size; simp; omega)
        have HON := hide (rcF_one z.r)
        go_wp2_with (at_builtin; refine wpList_append_own_at _ rfl _ _ 28 rfl w.heap.size 57 i0 (rcV zRc) 11 56 Try.underlying28 hi0 hz0 hz1 hz2 rfl (by decide) _ (sel isNow (l.take k)).length ((sel isNow (l.take k)).flatMap rcF) rfl HOW.out ⟨V.heap.size, 0, none⟩ 1 1 (rcF z.r) rfl rfl HN1.out HON.out HM1.out HM2.out HM3.out ?_)
        intro v' w5 hown' hgrow _ hat
        have HO' := hide hown'
        have C5 := hide ((Ch.alloc (Q := fun x => u0.ownBlock = some x) V (.cells #[.int .u32 z.r.ms, .int .u32 z.r.mg, .int .u32 z.r.ws, .int .u32 z.r.wg, .int .u32 z.r.rs, .int .u32 z.r.rg, .int .i64 z.r.rd, .int .i64 z.r.ar, .int .i64 z.r.vn, .int .u32 z.r.vs, .int .u32 z.r.vg] 57)).trans (Ch.of_grown (Q := fun x => u0.ownBlock = some x) hgrow (fun _ e => e)) (fun _ _ h => h))
        clear hown' hgrow hat
        go_wp2
        go_roundw
        case rel => exact ⟨k + 1, by omega, by go_num, hide (by rw [HN.out, HQ.out]; exact Row.snoc HO'.out), hide (HBV.out.trans (C5.out.below HBV.out.size (fun x hx e => by have := (own_in HRV.out e).1; omega)))⟩
        case measure => simp [intOf]; omega
      · rw [hd] at yo
        have HRV := HR
        have HBV := HB
        have HQ := hide (show isNow z = false by simp [isNow, hd])
        go_wp2
        go_roundw
        case rel => exact ⟨k + 1, by omega, by go_num, hide (by rw [HN.out, HQ.out]; exact HRV.out), HBV⟩
        case measure => simp [intOf]; omega
    · have ek : l.take k = l := List.take_of_length_le (by omega)
      rw [ek] at HR
      have q1 : decide ((k : Int) < (l.length : Int)) = false := decide_eq_false (by omega)
      go_wp2
      go_ret
      exact ⟨u0, rfl, HR.out, HB.out⟩

set_option maxRecDepth 100000 in
set_option maxHeartbeats 4000000 in
theorem rrowW {w : World} {B b : Nat} {av ov : Value} {l : List Wt} (h : DB w B b av ov l) (hl : l.length ≤ 100000) (s g d : Int) :
    Calls Try.prog 30 #[.pointer (some ⟨b, 0, none⟩), rvW s g d] w fun e w' => ∃ v', e = .returned v' ∧ RcRow w' w.heap.size v' (sel (inRow s g d) l) ∧ Below w.heap.size w w' := by
  obtain ⟨a, c, a', c', rfl, rfl, hc, hc', hm⟩ := h.forms
  obtain ⟨i0, hi0, hz0, hz1, hz2⟩ := nf_open nfRc
  obtain ⟨w1, hw1⟩ : ∃ w1, w.alloc (.cells #[.int .u32 s, .int .u32 g, .int .i64 d] 44) = w1 := ⟨_, rfl⟩
  have HB1 := hide (show Below w.heap.size w w1 by rw [← hw1]; exact below1 _ _)
  have hn : w1.heap[w.heap.size]? = some (.cells #[.int .u32 s, .int .u32 g, .int .i64 d] 44 (0, 0)) := by rw [← hw1]; exact heap_new _ _
  go_enter Try.func30, Try.ntmps30
  go_wp2
  clear hw1
  go_loopw [5, 6] (fun t i wr => ∃ k : Nat, k ≤ l.length ∧ i = .int .i64 k ∧ Hid (RcRow wr w.heap.size t (sel (inRow s g d) (l.take k))) ∧ Hid (Below w.heap.size w wr) ∧ wr.heap[w.heap.size]? = some (.cells #[.int .u32 s, .int .u32 g, .int .i64 d] 44 (0, 0))) (fun _ i _ => l.length - (intOf i).toNat)
  case atStart => exact ⟨0, Nat.zero_le _, rfl, hide (Row.nil _ _), HB1, hn⟩
  case round =>
    obtain ⟨k, hk, rfl, HR, HB, hbx⟩ := hrel
    obtain ⟨W, rfl⟩ : ∃ W, W = wr := ⟨_, rfl⟩
    obtain ⟨u0, eu⟩ : ∃ u, u = u5 := ⟨_, rfl⟩
    subst eu
    have h1 := h.below HB.out
    obtain ⟨hx0, hx1⟩ := h1.cells
    have hy0 : W.cell? ⟨w.heap.size, 0, none⟩ = some (.int .u32 s) := by simp [Lib.cell_of_heap hbx]
    have hy1 : W.cell? ⟨w.heap.size, 1, none⟩ = some (.int .u32 g) := by simp [Lib.cell_of_heap hbx]
    have hy2 : W.cell? ⟨w.heap.size, 2, none⟩ = some (.int .i64 d) := by simp [Lib.cell_of_heap hbx]
    by_cases hlt : k < l.length
    · obtain ⟨ga, gc, oa, oc, e1, e2, k1, k2, -, -, hcell, hov, -⟩ := h1.at (by omega)
      cases e1
      cases e2
      have q1 : decide ((k : Int) < (l.length : Int)) = true := decide_eq_true (by omega)
      have y0 : W.cell? ⟨ga, k * 11, none⟩ = _ := hcell k hlt 0 (.int .u32 l[k].r.ms) rfl
      have y1 := hcell k hlt 1 (.int .u32 l[k].r.mg) rfl
      have y2 := hcell k hlt 2 (.int .u32 l[k].r.ws) rfl
      have y3 := hcell k hlt 3 (.int .u32 l[k].r.wg) rfl
      have y4 := hcell k hlt 4 (.int .u32 l[k].r.rs) rfl
      have y5 := hcell k hlt 5 (.int .u32 l[k].r.rg) rfl
      have y6 := hcell k hlt 6 (.int .i64 l[k].r.rd) rfl
      have y7 := hcell k hlt 7 (.int .i64 l[k].r.ar) rfl
      have y8 := hcell k hlt 8 (.int .i64 l[k].r.vn) rfl
      have y9 := hcell k hlt 9 (.int .u32 l[k].r.vs) rfl
      have y10 := hcell k hlt 10 (.int .u32 l[k].r.vg) rfl
      have yo := hov k hlt
      have hle : (sel (inRow s g d) (l.take k)).length ≤ k := Nat.le_trans (sel_le _ _) (List.length_take_le _ _)
      have hnx := sel_snoc (inRow s g d) (l.take k) l[k]
      rw [← List.take_succ_eq_append_getElem hlt] at hnx
      generalize l[k] = z at hnx yo y0 y1 y2 y3 y4 y5 y6 y7 y8 y9 y10
      have HN := hide hnx
      clear hnx hcell hov
      cases hd : z.o
      · rw [hd] at yo
        by_cases ers : z.r.rs = s
        · have qrs : (z.r.rs == s) = true := by simpa using ers
          have Hrs := hide ers
          clear ers
          by_cases erg : z.r.rg = g
          · have qrg : (z.r.rg == g) = true := by simpa using erg
            have Hrg := hide erg
            clear erg
            by_cases erd : z.r.rd = d
            · have qrd : (z.r.rd == d) = true := by simpa using erd
              have Hrd := hide erd
              clear erd
              go_wp2
              go_quiet (fail)
              generalize hV : W.drewN nq = V
              have cV : Ch (fun _ => False) W V := by rw [← hV]; exact Ch.drewN _ _
              have HRV := hide (HR.out.ch cV (fun _ _ h => h))
              have HBV := hide (HB.out.trans (cV.below HB.out.size (fun _ _ h => h)))
              have CW : ∀ p, V.cell? p = W.cell? p := by rw [← hV]; exact fun _ => rfl
              have hbV := cV.box hbx (fun h => h)
              rw [← CW] at y0 y1 y2 y3 y4 y5 y6 y7 y8 y9 y10 hx0 hx1 hy0 hy1 hy2
              clear hV CW
              have HQ := hide (show (inRow s g d) z = true by simp [inRow, hd, Hrs.out, Hrg.out, Hrd.out])
              have HOW := hide (World.ownsRow.alloc HRV.out (.cells #[.int .u32 z.r.ms, .int .u32 z.r.mg, .int .u32 z.r.ws, .int .u32 z.r.wg, .int .u32 z.r.rs, .int .u32 z.r.rg, .int .i64 z.r.rd, .int .i64 z.r.ar, .int .i64 z.r.vn, .int .u32 z.r.vs, .int .u32 z.r.vg] 57))
              have HN1 := hide (row_new V (rcF z.r) 57 rfl)
              have HM1 := hide (show (sel (inRow s g d) (l.take k)).length + 1 ≤ maxLen by unfold maxLen; omega)
              have HM2 := hide (show ((sel (inRow s g d) (l.take k)).length + 1) * 56 ≤ 140737488355328 by omega)
              have HM3 := hide (show w.heap.size ≤ (V.alloc (.cells #[.int .u32 z.r.ms, .int .u32 z.r.mg, .int .u32 z.r.ws, .int .u32 z.r.wg, .int .u32 z.r.rs, .int .u32 z.r.rg, .int .i64 z.r.rd, .int .i64 z.r.ar, .int .i64 z.r.vn, .int .u32 z.r.vs, .int .u32 z.r.vg] 57)).heap.size by have := HBV.out.size; simp; omega)
              have HON := hide (rcF_one z.r)
              go_wp2_with (at_builtin; refine wpList_append_own_at _ rfl _ _ 28 rfl w.heap.size 57 i0 (rcV zRc) 11 56 Try.underlying28 hi0 hz0 hz1 hz2 rfl (by decide) _ (sel (inRow s g d) (l.take k)).length ((sel (inRow s g d) (l.take k)).flatMap rcF) rfl HOW.out ⟨V.heap.size, 0, none⟩ 1 1 (rcF z.r) rfl rfl HN1.out HON.out HM1.out HM2.out HM3.out ?_)
              intro v' w5 hown' hgrow _ hat
              have HO' := hide hown'
              have C5 := hide ((Ch.alloc (Q := fun x => u0.ownBlock = some x) V (.cells #[.int .u32 z.r.ms, .int .u32 z.r.mg, .int .u32 z.r.ws, .int .u32 z.r.wg, .int .u32 z.r.rs, .int .u32 z.r.rg, .int .i64 z.r.rd, .int .i64 z.r.ar, .int .i64 z.r.vn, .int .u32 z.r.vs, .int .u32 z.r.vg] 57)).trans (Ch.of_grown (Q := fun x => u0.ownBlock = some x) hgrow (fun _ e => e)) (fun _ _ h => h))
              clear hown' hgrow hat
              go_wp2
              go_roundw
              case rel => exact ⟨k + 1, by omega, by go_num, hide (by rw [HN.out, HQ.out]; exact Row.snoc HO'.out), hide (HBV.out.trans (C5.out.below HBV.out.size (fun x hx e => by have := (own_in HRV.out e).1; omega))), (C5.out.box hbV (fun e => own_box HRV.out hbV (by decide) e))⟩
              case measure => simp [intOf]; omega
            · have qrd : (z.r.rd == d) = false := by simpa using erd
              have Hrd := hide erd
              clear erd
              go_wp2
              go_quiet (fail)
              generalize hV : W.drewN nq = V
              have cV : Ch (fun _ => False) W V := by rw [← hV]; exact Ch.drewN _ _
              have HRV := hide (HR.out.ch cV (fun _ _ h => h))
              have HBV := hide (HB.out.trans (cV.below HB.out.size (fun _ _ h => h)))
              have CW : ∀ p, V.cell? p = W.cell? p := by rw [← hV]; exact fun _ => rfl
              have hbV := cV.box hbx (fun h => h)
              rw [← CW] at y0 y1 y2 y3 y4 y5 y6 y7 y8 y9 y10 hx0 hx1 hy0 hy1 hy2
              clear hV CW
              have HQ := hide (show (inRow s g d) z = false by simp [inRow, Hrd.out])
              go_wp2
              go_roundw
              case rel => exact ⟨k + 1, by omega, by go_num, hide (by rw [HN.out, HQ.out]; exact HRV.out), HBV, hbV⟩
              case measure => simp [intOf]; omega
          · have qrg : (z.r.rg == g) = false := by simpa using erg
            have Hrg := hide erg
            clear erg
            go_wp2
            go_quiet (fail)
            generalize hV : W.drewN nq = V
            have cV : Ch (fun _ => False) W V := by rw [← hV]; exact Ch.drewN _ _
            have HRV := hide (HR.out.ch cV (fun _ _ h => h))
            have HBV := hide (HB.out.trans (cV.below HB.out.size (fun _ _ h => h)))
            have CW : ∀ p, V.cell? p = W.cell? p := by rw [← hV]; exact fun _ => rfl
            have hbV := cV.box hbx (fun h => h)
            rw [← CW] at y0 y1 y2 y3 y4 y5 y6 y7 y8 y9 y10 hx0 hx1 hy0 hy1 hy2
            clear hV CW
            have HQ := hide (show (inRow s g d) z = false by simp [inRow, Hrg.out])
            go_wp2
            go_roundw
            case rel => exact ⟨k + 1, by omega, by go_num, hide (by rw [HN.out, HQ.out]; exact HRV.out), HBV, hbV⟩
            case measure => simp [intOf]; omega
        · have qrs : (z.r.rs == s) = false := by simpa using ers
          have Hrs := hide ers
          clear ers
          go_wp2
          go_quiet (fail)
          generalize hV : W.drewN nq = V
          have cV : Ch (fun _ => False) W V := by rw [← hV]; exact Ch.drewN _ _
          have HRV := hide (HR.out.ch cV (fun _ _ h => h))
          have HBV := hide (HB.out.trans (cV.below HB.out.size (fun _ _ h => h)))
          have CW : ∀ p, V.cell? p = W.cell? p := by rw [← hV]; exact fun _ => rfl
          have hbV := cV.box hbx (fun h => h)
          rw [← CW] at y0 y1 y2 y3 y4 y5 y6 y7 y8 y9 y10 hx0 hx1 hy0 hy1 hy2
          clear hV CW
          have HQ := hide (show (inRow s g d) z = false by simp [inRow, Hrs.out])
          go_wp2
          go_roundw
          case rel => exact ⟨k + 1, by omega, by go_num, hide (by rw [HN.out, HQ.out]; exact HRV.out), HBV, hbV⟩
          case measure => simp [intOf]; omega
      · rw [hd] at yo
        go_wp2
        go_quiet (fail)
        generalize hV : W.drewN nq = V
        have cV : Ch (fun _ => False) W V := by rw [← hV]; exact Ch.drewN _ _
        have HRV := hide (HR.out.ch cV (fun _ _ h => h))
        have HBV := hide (HB.out.trans (cV.below HB.out.size (fun _ _ h => h)))
        have CW : ∀ p, V.cell? p = W.cell? p := by rw [← hV]; exact fun _ => rfl
        have hbV := cV.box hbx (fun h => h)
        rw [← CW] at y0 y1 y2 y3 y4 y5 y6 y7 y8 y9 y10 hx0 hx1 hy0 hy1 hy2
        clear hV CW
        have HQ := hide (show (inRow s g d) z = false by simp [inRow, hd])
        go_wp2
        go_roundw
        case rel => exact ⟨k + 1, by omega, by go_num, hide (by rw [HN.out, HQ.out]; exact HRV.out), HBV, hbV⟩
        case measure => simp [intOf]; omega
    · have ek : l.take k = l := List.take_of_length_le (by omega)
      rw [ek] at HR
      have q1 : decide ((k : Int) < (l.length : Int)) = false := decide_eq_false (by omega)
      go_wp2
      go_ret
      exact ⟨u0, rfl, HR.out, HB.out⟩

set_option maxRecDepth 100000 in
set_option maxHeartbeats 4000000 in
theorem rofW {w : World} {B b : Nat} {av ov : Value} {l : List Wt} (h : DB w B b av ov l) (hl : l.length ≤ 100000) (s g : Int) :
    Calls Try.prog 31 #[.pointer (some ⟨b, 0, none⟩), hvW s g] w fun e w' => ∃ v', e = .returned v' ∧ RcRow w' w.heap.size v' (sel (isWho s g) l) ∧ Below w.heap.size w w' := by
  obtain ⟨a, c, a', c', rfl, rfl, hc, hc', hm⟩ := h.forms
  obtain ⟨i0, hi0, hz0, hz1, hz2⟩ := nf_open nfRc
  obtain ⟨w1, hw1⟩ : ∃ w1, w.alloc (.cells #[.int .u32 s, .int .u32 g] 41) = w1 := ⟨_, rfl⟩
  have HB1 := hide (show Below w.heap.size w w1 by rw [← hw1]; exact below1 _ _)
  have hn : w1.heap[w.heap.size]? = some (.cells #[.int .u32 s, .int .u32 g] 41 (0, 0)) := by rw [← hw1]; exact heap_new _ _
  go_enter Try.func31, Try.ntmps31
  go_wp2
  clear hw1
  go_loopw [5, 6] (fun t i wr => ∃ k : Nat, k ≤ l.length ∧ i = .int .i64 k ∧ Hid (RcRow wr w.heap.size t (sel (isWho s g) (l.take k))) ∧ Hid (Below w.heap.size w wr) ∧ wr.heap[w.heap.size]? = some (.cells #[.int .u32 s, .int .u32 g] 41 (0, 0))) (fun _ i _ => l.length - (intOf i).toNat)
  case atStart => exact ⟨0, Nat.zero_le _, rfl, hide (Row.nil _ _), HB1, hn⟩
  case round =>
    obtain ⟨k, hk, rfl, HR, HB, hbx⟩ := hrel
    obtain ⟨W, rfl⟩ : ∃ W, W = wr := ⟨_, rfl⟩
    obtain ⟨u0, eu⟩ : ∃ u, u = u5 := ⟨_, rfl⟩
    subst eu
    have h1 := h.below HB.out
    obtain ⟨hx0, hx1⟩ := h1.cells
    have hy0 : W.cell? ⟨w.heap.size, 0, none⟩ = some (.int .u32 s) := by simp [Lib.cell_of_heap hbx]
    have hy1 : W.cell? ⟨w.heap.size, 1, none⟩ = some (.int .u32 g) := by simp [Lib.cell_of_heap hbx]
    by_cases hlt : k < l.length
    · obtain ⟨ga, gc, oa, oc, e1, e2, k1, k2, -, -, hcell, hov, -⟩ := h1.at (by omega)
      cases e1
      cases e2
      have q1 : decide ((k : Int) < (l.length : Int)) = true := decide_eq_true (by omega)
      have y0 : W.cell? ⟨ga, k * 11, none⟩ = _ := hcell k hlt 0 (.int .u32 l[k].r.ms) rfl
      have y1 := hcell k hlt 1 (.int .u32 l[k].r.mg) rfl
      have y2 := hcell k hlt 2 (.int .u32 l[k].r.ws) rfl
      have y3 := hcell k hlt 3 (.int .u32 l[k].r.wg) rfl
      have y4 := hcell k hlt 4 (.int .u32 l[k].r.rs) rfl
      have y5 := hcell k hlt 5 (.int .u32 l[k].r.rg) rfl
      have y6 := hcell k hlt 6 (.int .i64 l[k].r.rd) rfl
      have y7 := hcell k hlt 7 (.int .i64 l[k].r.ar) rfl
      have y8 := hcell k hlt 8 (.int .i64 l[k].r.vn) rfl
      have y9 := hcell k hlt 9 (.int .u32 l[k].r.vs) rfl
      have y10 := hcell k hlt 10 (.int .u32 l[k].r.vg) rfl
      have yo := hov k hlt
      have hle : (sel (isWho s g) (l.take k)).length ≤ k := Nat.le_trans (sel_le _ _) (List.length_take_le _ _)
      have hnx := sel_snoc (isWho s g) (l.take k) l[k]
      rw [← List.take_succ_eq_append_getElem hlt] at hnx
      generalize l[k] = z at hnx yo y0 y1 y2 y3 y4 y5 y6 y7 y8 y9 y10
      have HN := hide hnx
      clear hnx hcell hov
      cases hd : z.o
      · rw [hd] at yo
        by_cases ews : z.r.ws = s
        · have qws : (z.r.ws == s) = true := by simpa using ews
          have Hws := hide ews
          clear ews
          by_cases ewg : z.r.wg = g
          · have qwg : (z.r.wg == g) = true := by simpa using ewg
            have Hwg := hide ewg
            clear ewg
            go_wp2
            go_quiet (fail)
            generalize hV : W.drewN nq = V
            have cV : Ch (fun _ => False) W V := by rw [← hV]; exact Ch.drewN _ _
            have HRV := hide (HR.out.ch cV (fun _ _ h => h))
            have HBV := hide (HB.out.trans (cV.below HB.out.size (fun _ _ h => h)))
            have CW : ∀ p, V.cell? p = W.cell? p := by rw [← hV]; exact fun _ => rfl
            have hbV := cV.box hbx (fun h => h)
            rw [← CW] at y0 y1 y2 y3 y4 y5 y6 y7 y8 y9 y10 hx0 hx1 hy0 hy1
            clear hV CW
            have HQ := hide (show (isWho s g) z = true by simp [isWho, hd, Hws.out, Hwg.out])
            have HOW := hide (World.ownsRow.alloc HRV.out (.cells #[.int .u32 z.r.ms, .int .u32 z.r.mg, .int .u32 z.r.ws, .int .u32 z.r.wg, .int .u32 z.r.rs, .int .u32 z.r.rg, .int .i64 z.r.rd, .int .i64 z.r.ar, .int .i64 z.r.vn, .int .u32 z.r.vs, .int .u32 z.r.vg] 57))
            have HN1 := hide (row_new V (rcF z.r) 57 rfl)
            have HM1 := hide (show (sel (isWho s g) (l.take k)).length + 1 ≤ maxLen by unfold maxLen; omega)
            have HM2 := hide (show ((sel (isWho s g) (l.take k)).length + 1) * 56 ≤ 140737488355328 by omega)
            have HM3 := hide (show w.heap.size ≤ (V.alloc (.cells #[.int .u32 z.r.ms, .int .u32 z.r.mg, .int .u32 z.r.ws, .int .u32 z.r.wg, .int .u32 z.r.rs, .int .u32 z.r.rg, .int .i64 z.r.rd, .int .i64 z.r.ar, .int .i64 z.r.vn, .int .u32 z.r.vs, .int .u32 z.r.vg] 57)).heap.size by have := HBV.out.size; simp; omega)
            have HON := hide (rcF_one z.r)
            go_wp2_with (at_builtin; refine wpList_append_own_at _ rfl _ _ 28 rfl w.heap.size 57 i0 (rcV zRc) 11 56 Try.underlying28 hi0 hz0 hz1 hz2 rfl (by decide) _ (sel (isWho s g) (l.take k)).length ((sel (isWho s g) (l.take k)).flatMap rcF) rfl HOW.out ⟨V.heap.size, 0, none⟩ 1 1 (rcF z.r) rfl rfl HN1.out HON.out HM1.out HM2.out HM3.out ?_)
            intro v' w5 hown' hgrow _ hat
            have HO' := hide hown'
            have C5 := hide ((Ch.alloc (Q := fun x => u0.ownBlock = some x) V (.cells #[.int .u32 z.r.ms, .int .u32 z.r.mg, .int .u32 z.r.ws, .int .u32 z.r.wg, .int .u32 z.r.rs, .int .u32 z.r.rg, .int .i64 z.r.rd, .int .i64 z.r.ar, .int .i64 z.r.vn, .int .u32 z.r.vs, .int .u32 z.r.vg] 57)).trans (Ch.of_grown (Q := fun x => u0.ownBlock = some x) hgrow (fun _ e => e)) (fun _ _ h => h))
            clear hown' hgrow hat
            go_wp2
            go_roundw
            case rel => exact ⟨k + 1, by omega, by go_num, hide (by rw [HN.out, HQ.out]; exact Row.snoc HO'.out), hide (HBV.out.trans (C5.out.below HBV.out.size (fun x hx e => by have := (own_in HRV.out e).1; omega))), (C5.out.box hbV (fun e => own_box HRV.out hbV (by decide) e))⟩
            case measure => simp [intOf]; omega
          · have qwg : (z.r.wg == g) = false := by simpa using ewg
            have Hwg := hide ewg
            clear ewg
            go_wp2
            go_quiet (fail)
            generalize hV : W.drewN nq = V
            have cV : Ch (fun _ => False) W V := by rw [← hV]; exact Ch.drewN _ _
            have HRV := hide (HR.out.ch cV (fun _ _ h => h))
            have HBV := hide (HB.out.trans (cV.below HB.out.size (fun _ _ h => h)))
            have CW : ∀ p, V.cell? p = W.cell? p := by rw [← hV]; exact fun _ => rfl
            have hbV := cV.box hbx (fun h => h)
            rw [← CW] at y0 y1 y2 y3 y4 y5 y6 y7 y8 y9 y10 hx0 hx1 hy0 hy1
            clear hV CW
            have HQ := hide (show (isWho s g) z = false by simp [isWho, Hwg.out])
            go_wp2
            go_roundw
            case rel => exact ⟨k + 1, by omega, by go_num, hide (by rw [HN.out, HQ.out]; exact HRV.out), HBV, hbV⟩
            case measure => simp [intOf]; omega
        · have qws : (z.r.ws == s) = false := by simpa using ews
          have Hws := hide ews
          clear ews
          go_wp2
          go_quiet (fail)
          generalize hV : W.drewN nq = V
          have cV : Ch (fun _ => False) W V := by rw [← hV]; exact Ch.drewN _ _
          have HRV := hide (HR.out.ch cV (fun _ _ h => h))
          have HBV := hide (HB.out.trans (cV.below HB.out.size (fun _ _ h => h)))
          have CW : ∀ p, V.cell? p = W.cell? p := by rw [← hV]; exact fun _ => rfl
          have hbV := cV.box hbx (fun h => h)
          rw [← CW] at y0 y1 y2 y3 y4 y5 y6 y7 y8 y9 y10 hx0 hx1 hy0 hy1
          clear hV CW
          have HQ := hide (show (isWho s g) z = false by simp [isWho, Hws.out])
          go_wp2
          go_roundw
          case rel => exact ⟨k + 1, by omega, by go_num, hide (by rw [HN.out, HQ.out]; exact HRV.out), HBV, hbV⟩
          case measure => simp [intOf]; omega
      · rw [hd] at yo
        go_wp2
        go_quiet (fail)
        generalize hV : W.drewN nq = V
        have cV : Ch (fun _ => False) W V := by rw [← hV]; exact Ch.drewN _ _
        have HRV := hide (HR.out.ch cV (fun _ _ h => h))
        have HBV := hide (HB.out.trans (cV.below HB.out.size (fun _ _ h => h)))
        have CW : ∀ p, V.cell? p = W.cell? p := by rw [← hV]; exact fun _ => rfl
        have hbV := cV.box hbx (fun h => h)
        rw [← CW] at y0 y1 y2 y3 y4 y5 y6 y7 y8 y9 y10 hx0 hx1 hy0 hy1
        clear hV CW
        have HQ := hide (show (isWho s g) z = false by simp [isWho, hd])
        go_wp2
        go_roundw
        case rel => exact ⟨k + 1, by omega, by go_num, hide (by rw [HN.out, HQ.out]; exact HRV.out), HBV, hbV⟩
        case measure => simp [intOf]; omega
    · have ek : l.take k = l := List.take_of_length_le (by omega)
      rw [ek] at HR
      have q1 : decide ((k : Int) < (l.length : Int)) = false := decide_eq_false (by omega)
      go_wp2
      go_ret
      exact ⟨u0, rfl, HR.out, HB.out⟩

end Go.Proofs.Ythnnpipekeanoaa
