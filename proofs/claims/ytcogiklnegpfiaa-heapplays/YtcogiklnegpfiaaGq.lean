/- Layer 13: pick, Reach. -/
import Derived.Test.YtcogiklnegpfiaaGp
namespace Go.Proofs.Ytcogiklnegpfiaa
open Go.RowKit Go.Shelf

def pickL (mt : List Bool) (k : Bool) (hs : List Hd) : List Hd := hs.filter fun x => mg mt x.1 == k
theorem pickL_snoc (mt : List Bool) (k : Bool) (hs : List Hd) (x : Hd) : pickL mt k (hs ++ [x]) = if mg mt x.1 == k then pickL mt k hs ++ [x] else pickL mt k hs := by
  unfold pickL
  rw [List.filter_append]
  by_cases h : (mg mt x.1 == k) = true
  · rw [if_pos h]
    simp only [List.filter_cons, h, if_true, List.filter_nil]
  · rw [if_neg h]
    simp only [List.filter_cons, h, Bool.false_eq_true, if_false, List.filter_nil, List.append_nil]
theorem pickL_le (mt : List Bool) (k : Bool) (hs : List Hd) : (pickL mt k hs).length ≤ hs.length := List.length_filter_le _ _

set_option maxRecDepth 100000 in
set_option maxHeartbeats 8000000 in
theorem pick_is {w : World} {B N b p g bt M : Nat} {l : List Th} {mt : List Bool} (h : Hp w B b p g l M) (hr : Row bF 1 4 w N (.slice (some ⟨bt, 0, none⟩) mt.length mt.length) mt) (hlen : mt.length = M + 1) (mk : Bool) :
    Calls Try.prog 35 #[.pointer (some ⟨b, 0, none⟩), .slice (some ⟨bt, 0, none⟩) mt.length mt.length, .bool mk] w fun e w' => ∃ v, e = .returned v ∧ Row hF 2 43 w' w.heap.size v (pickL mt mk (allH l M)) ∧ Below w.heap.size w w' := by
  obtain ⟨i0, hi0, hz0, hz1, hz2⟩ := nf_open info_hd
  have hwf := h.tb.wf
  have hlt' := h.tb.lt
  have hm2 := h.tb.m2
  have HA := hide (hall_is h)
  have hal : (allH l M).length ≤ 500 := by rw [allH_perm hwf hlt']; have := hwf.cnt_le; omega
  have HIN := hide (fun x (hx : x ∈ allH l M) => lv_at hwf hlt' ((allH_mem hwf hlt' x).1 hx))
  have HR := hide hr
  have hbt := (own_in hr (g := bt) rfl).2.1
  clear h hwf hlt' hr
  go_enter Try.func35, Try.ntmps35
  go_wp2_with fail
  refine HA.out.mono ?_
  rintro e w1 ⟨v1, rfl, hv1, hb1⟩
  have HV := hide hv1
  have HB1 := hide hb1
  generalize hhs : allH l M = hs at HV HIN hal
  obtain ⟨la, lc, rfl, hlc, hlm⟩ := HV.out.form
  have hs1 := hb1.size
  clear hv1 hb1 HA
  go_wp2
  go_loopw [7, 13] (fun fv iv wr => ∃ k : Nat, k ≤ hs.length ∧ iv = .int .i64 (k : Int) ∧ Hid (Row hF 2 43 wr w1.heap.size fv (pickL mt mk (hs.take k))) ∧ Hid (Below w1.heap.size w1 wr)) (fun _ iv _ => hs.length - (intOf iv).toNat)
  case atStart => exact ⟨0, Nat.zero_le _, rfl, hide (Row.nil _ _), hide (Below.refl _ _)⟩
  case round =>
    obtain ⟨k, hk, rfl, HF, HB⟩ := hrel
    by_cases hlt : k < hs.length
    · have hrr := HV.out.ch (Ch.of_below (Q := fun _ => False) HB.out) (fun _ _ h => h)
      obtain ⟨bo, c', cur, e2, -, -, -, -, -, hc⟩ := hrr.at hF_len (by omega)
      cases e2
      have y0 : wr.cell? ⟨bo, k * 2, none⟩ = some (.int .u32 hs[k].1) := hc k hlt 0 _ rfl
      have y1 : wr.cell? ⟨bo, k * 2 + 1, none⟩ = some (.int .u32 hs[k].2) := hc k hlt 1 _ rfl
      have q1 : decide ((k : Int) < (hs.length : Int)) = true := decide_eq_true (by omega)
      obtain ⟨i, hi, hzi, -⟩ := HIN.out hs[k] (List.getElem_mem hlt)
      have HN := hide (show pickL mt mk (hs.take (k + 1)) = if mg mt hs[k].1 == mk then pickL mt mk (hs.take k) ++ [hs[k]] else pickL mt mk (hs.take k) by rw [List.take_succ_eq_append_getElem hlt, pickL_snoc])
      have hpl : (pickL mt mk (hs.take k)).length ≤ 500 := Nat.le_trans (pickL_le _ _ _) (by rw [List.length_take]; omega)
      generalize hs[k] = z at y0 y1 hzi HN
      obtain ⟨zs, zg⟩ := z
      obtain ⟨n, hn1, hn2, rfl⟩ : ∃ n : Nat, 1 ≤ n ∧ n ≤ M ∧ zs = (n : Int) := ⟨i + 1, by omega, by omega, by simpa using hzi⟩
      dsimp only at y0 y1
      have hnl : n < mt.length := by omega
      have q2 : (n : Int) < (mt.length : Int) := by omega
      have y2 : wr.cell? ⟨bt, n, none⟩ = some (.bool mt[n]) := by
        obtain ⟨g', c', cur, e, _, _, _, _, _, hc⟩ := (HR.out.ch ((Ch.of_below (Q := fun _ => False) HB1.out).trans (Ch.of_below HB.out) (fun _ _ h => h)) (fun _ _ h => h)).at bF_len (by omega)
        cases e
        have := hc n hnl 0 (.bool mt[n]) rfl
        simpa using this
      have hmg : mg mt (n : Int) = mt[n] := by unfold mg; simp [hnl]
      rw [hmg] at HN
      generalize mt[n] = mv at y2 HN
      have cA : Below w1.heap.size wr (wr.alloc (.cells #[.int .u32 (n : Int), .int .u32 zg] 43)) := (below1 wr _).mono HB.out.size
      have hbw : bt < wr.heap.size := Nat.lt_of_lt_of_le hbt (Nat.le_trans hs1 HB.out.size)
      have y3 : ∀ o, (wr.alloc o).cell? ⟨bt, n, none⟩ = some (.bool mv) := fun o => ((below1 wr o).cell (p := ⟨bt, n, none⟩) hbw).trans y2
      have CA := hide cA
      clear hrr hc hmg hzi hnl cA hi i
      by_cases hq : mv = mk
      · subst hq
        have HN2 := hide (show pickL mt mv (hs.take (k + 1)) = pickL mt mv (hs.take k) ++ [((n : Int), zg)] by rw [HN.out]; simp)
        have hq1 : (mv == mv) = true := by simp
        have HOW := hide (World.ownsRow.alloc (show wr.ownsRow w1.heap.size 43 2 u7 (pickL mt mv (hs.take k)).length ((pickL mt mv (hs.take k)).flatMap hF) from HF.out) (.cells #[.int .u32 (n : Int), .int .u32 zg] 43))
        have HOW := hide (World.ownsRow.alloc HOW.out (.cells #[.int .u32 (n : Int), .int .u32 zg] 43))
        have HN1 := hide (row_new (wr.alloc (.cells #[.int .u32 (n : Int), .int .u32 zg] 43)) (hF ((n : Int), zg)) 43 (n := wr.heap.size + 1) (by simp))
        have HM1 := hide (show (pickL mt mv (hs.take k)).length + 1 ≤ maxLen by unfold maxLen; omega)
        have HM2 := hide (show ((pickL mt mv (hs.take k)).length + 1) * 8 ≤ 140737488355328 by omega)
        have HM3 := hide (show w1.heap.size ≤ ((wr.alloc (.cells #[.int .u32 (n : Int), .int .u32 zg] 43)).alloc (.cells #[.int .u32 (n : Int), .int .u32 zg] 43)).heap.size by have := HB.out.size; simp; omega)
        have HON := hide (hF_one ((n : Int), zg))
        clear hpl
        go_wp2_with (at_builtin; refine wpList_append_own_at _ rfl _ _ 34 rfl w1.heap.size 43 i0 (.agg #[.int .u32 0, .int .u32 0]) 2 8 Try.underlying34 hi0 hz0 hz1 hz2 rfl (by decide) _ (pickL mt mv (hs.take k)).length ((pickL mt mv (hs.take k)).flatMap hF) rfl HOW.out ⟨wr.heap.size + 1, 0, none⟩ 1 1 (hF ((n : Int), zg)) rfl rfl HN1.out HON.out HM1.out HM2.out HM3.out ?_)
        intro v' w6 hown' hgrow _ hat
        have HR6 := hide (show Row hF 2 43 w6 w1.heap.size v' (pickL mt mv (hs.take (k + 1))) by rw [HN2.out]; exact Row.snoc hown')
        have HB6 := hide (show Below w1.heap.size w1 w6 from (HB.out.trans (CA.out.alloc (by have := HB.out.size; simp; omega) _ |>.trans (Below.refl _ _))).trans ⟨hgrow.os, hgrow.tape, hgrow.output, hgrow.size, fun x hx => hgrow.block x (Nat.lt_of_lt_of_le hx HM3.out) (fun e => by have := (own_in HF.out e.symm).1; omega)⟩)
        clear hown' hgrow hat
        go_wp2
        go_roundw
        case rel => exact ⟨k + 1, by omega, by go_num, HR6, HB6⟩
        case measure => simp [intOf]; omega
      · have hq2 : (mv == mk) = false := by simpa using hq
        have HN2 := hide (show pickL mt mk (hs.take (k + 1)) = pickL mt mk (hs.take k) by rw [HN.out, hq2]; rfl)
        clear hpl hq
        go_wp2
        go_roundw
        case rel => exact ⟨k + 1, by omega, by go_num, hide (by rw [HN2.out]; exact HF.out.ch (Ch.alloc (Q := fun _ => False) _ _) (fun _ _ h => h)), hide (HB.out.trans CA.out)⟩
        case measure => simp [intOf]; omega
    · have q1 : decide ((k : Int) < (hs.length : Int)) = false := decide_eq_false (by omega)
      have ek : hs.take k = hs := List.take_of_length_le (by omega)
      rw [ek] at HF
      have HE := hide hhs
      clear hhs
      go_wp2
      go_ret
      rw [HE.out]
      exact ⟨u7, rfl, own_low HF.out hs1, HB1.out.trans (HB.out.mono hs1)⟩

/-- what comes back: the list, what was asked -/
structure ReachI (J : List Hd → World → (Nat → Prop) → Prop) (tl : Hd → List Hd) (rts : List Hd) (w w' : World) (B b p g M : Nat) (l : List Th) (O : Nat → Prop) (v : Value) (R : List Hd) (A : List Hd) (O' : Nat → Prop) : Prop where
  row : Row hF 2 43 w' w.heap.size v R
  own : ∀ y, v.ownBlock = some y → ¬ O' y
  hp : Hp w' B b p g l M
  ms : ∃ mt, MS (lvH l) tl rts (M + 1) mt [] A [] ∧ R = (allH l M).filter fun x => mg mt x.1
  j : J A w' O'
  ch : Ch O w w'
  dis : ∀ y, O' y → O y ∨ w.heap.size ≤ y
  dis2 : ∀ y, O' y → y ≠ b ∧ y ≠ p ∧ y ≠ g

section
variable {w : World} {B b p g M : Nat} {l : List Th} {f vl : Value} {J : List Hd → World → (Nat → Prop) → Prop} {tl : Hd → List Hd} {rts : List Hd} {O : Nat → Prop}

theorem pick_next (T : Teller f J tl) {w1 w2 : World} {bt : Nat} {mt : List Bool} {A : List Hd} {O' : Nat → Prop} {v : Value} {R : List Hd} (h : MarksI J tl rts w w1 B b p g M l O bt mt A O') (hb : Below w1.heap.size w1 w2) (hr : Row hF 2 43 w2 w1.heap.size v R) :
    Row hF 2 43 w2 w.heap.size v R ∧ (∀ y, v.ownBlock = some y → ¬ O' y) ∧ Hp w2 B b p g l M ∧ J A w2 O' ∧ Ch O w w2 :=
  ⟨own_low hr h.ch.size, fun y hy e => by have h1 := (own_in hr hy).1; have h2 := T.low _ _ _ h.j y e; omega, h.hp.below hb, T.keep _ _ _ _ (fun _ => False) h.j (Ch.of_below hb) (fun _ _ h => h), h.ch.trans (Ch.of_below (Q := fun _ => False) hb) (fun _ _ h => h.elim)⟩

set_option maxHeartbeats 2000000 in
theorem reach_is (T : Teller f J tl) (hf1 : f = .nilFunc ∨ ∃ fn fi lb, f = .func fn fi lb)
    (hp : Hp w B b p g l M) (hj : J [] w O) (hO : ∀ y, O y → y ≠ b ∧ y ≠ p ∧ y ≠ g) (hL : HLo w (fun y => y < w.heap.size) vl rts) (us : ∀ x ∈ rts, Us x.1) :
    Calls Try.prog 18 #[.pointer (some ⟨b, 0, none⟩), vl, f] w fun e w' => ∃ v R A O', e = .returned v ∧ ReachI J tl rts w w' B b p g M l O v R A O' := by
  have HM := hide (marks_is T hf1 hp hj hO hL us)
  clear hp hj hO hL us
  go_enter Try.func18, Try.ntmps18
  go_wp2_with fail
  refine HM.out.mono ?_
  rintro e w1 ⟨bt, mt, A, O', rfl, hI⟩
  have HI := hide hI
  have HP := hide (pick_is hI.hp hI.row hI.len true)
  clear hI HM
  go_wp2_with fail
  refine HP.out.mono ?_
  rintro e w2 ⟨v, rfl, hr, hb⟩
  have K := hide (pick_next T HI.out hb hr)
  clear hr hb HP
  go_wp2
  go_ret
  refine ⟨v, _, A, O', rfl, K.out.1, K.out.2.1, K.out.2.2.1, ⟨mt, HI.out.ms, ?_⟩, K.out.2.2.2.1, K.out.2.2.2.2, fun y hy => (HI.out.dis y hy).1, HI.out.dis2⟩
  unfold pickL
  congr 1
  funext x
  cases mg mt x.1 <;> rfl

theorem reach_no (vl f : Value) (w : World) : Calls Try.prog 18 #[.pointer none, vl, f] w fun e w' => e = .returned (.slice none 0 0) ∧ w' = w := by
  go_enter Try.func18, Try.ntmps18
  go_wp2
  go_ret
  exact ⟨rfl, rfl⟩
end

end Go.Proofs.Ytcogiklnegpfiaa
