/- Layer 13: Collect. -/
import Derived.Test.YtcogiklnegpfiaaGq
namespace Go.Proofs.Ytcogiklnegpfiaa
open Go.RowKit Go.Shelf

abbrev co0 : Oper := { dst := some 24, op := Op.move (Operand.tmp 0), type := 24, pos := "heap.go:78", after := #[], guard := none }
abbrev co1 : Oper := { dst := some 25, op := Op.nilCheck (Operand.tmp 24), type := 0, pos := "heap.go:78", after := #[{ on := 0, ground := Ground.data }], guard := none }
abbrev co2 : Oper := { dst := some 26, op := Op.fieldAddr 63 (Operand.tmp 25) 0, type := 0, pos := "heap.go:78", after := #[{ on := 1, ground := Ground.data }], guard := none }
abbrev co3 : Oper := { dst := some 27, op := Op.load 59 (Operand.tmp 26), type := 59, pos := "heap.go:78", after := #[{ on := 2, ground := Ground.data }], guard := none }
abbrev co4 : Oper := { dst := some 28, op := Op.load 43 (Operand.tmp 9), type := 43, pos := "heap.go:78", after := #[], guard := none }
abbrev co5 : Oper := { dst := some 29, op := Op.call { callee := Callee.value (Operand.func 37), args := #[Operand.tmp 27, Operand.tmp 28], argTypes := #[59, 43] }, type := 25, pos := "heap.go:78", after := #[{ on := 3, ground := Ground.data }, { on := 4, ground := Ground.data }], guard := none }

def frees (l : List Th) (xs : List Hd) : List Th := xs.foldl (fun l x => frd l x.1 x.2) l
theorem frees_snoc (l : List Th) (xs : List Hd) (x : Hd) : frees l (xs ++ [x]) = frd (frees l xs) x.1 x.2 := by simp [frees, List.foldl_append]

structure CollI (J : List Hd → World → (Nat → Prop) → Prop) (tl : Hd → List Hd) (rts : List Hd) (w w' : World) (B b p g M : Nat) (l : List Th) (O : Nat → Prop) (v : Value) (R : List Hd) (A : List Hd) (O' : Nat → Prop) : Prop where
  row : Row hF 2 43 w' w.heap.size v R
  own : ∀ y, v.ownBlock = some y → ¬ O' y
  hp : Hp w' B b p g (frees l R) M
  ms : ∃ mt, MS (lvH l) tl rts (M + 1) mt [] A [] ∧ R = (allH l M).filter fun x => !mg mt x.1
  j : J A w' O'
  ch : Ch (fun y => O y ∨ y = p ∨ y = g) w w'
  dis : ∀ y, O' y → O y ∨ w.heap.size ≤ y
  dis2 : ∀ y, O' y → y ≠ b ∧ y ≠ p ∧ y ≠ g

section
variable {w : World} {B b p g M : Nat} {l : List Th} {f vl : Value} {J : List Hd → World → (Nat → Prop) → Prop} {tl : Hd → List Hd} {rts : List Hd} {O : Nat → Prop}

set_option maxRecDepth 100000 in
set_option maxHeartbeats 8000000 in
theorem collect_is (T : Teller f J tl) (hf1 : f = .nilFunc ∨ ∃ fn fi lb, f = .func fn fi lb)
    (hp : Hp w B b p g l M) (hj : J [] w O) (hO : ∀ y, O y → y ≠ b ∧ y ≠ p ∧ y ≠ g) (hL : HLo w (fun y => y < w.heap.size) vl rts) (us : ∀ x ∈ rts, Us x.1) :
    Calls Try.prog 19 #[.pointer (some ⟨b, 0, none⟩), vl, f] w fun e w' => ∃ v R A O', e = .returned v ∧ CollI J tl rts w w' B b p g M l O v R A O' := by
  have HM := hide (marks_is T hf1 hp hj hO hL us)
  have hwf := hp.tb.wf
  have hlt' := hp.tb.lt
  have HIN := hide (fun x (hx : x ∈ allH l M) => lv_at hwf hlt' ((allH_mem hwf hlt' x).1 hx))
  have hm2 := hp.tb.m2
  have hal : (allH l M).length ≤ 500 := by rw [allH_perm hwf hlt']; have := hwf.cnt_le; omega
  clear hp hj hO hL us hwf hlt'
  go_enter Try.func19, Try.ntmps19
  go_wp2_with fail
  refine HM.out.mono ?_
  rintro e w1 ⟨bt, mt, A, O', rfl, hI⟩
  have HI := hide hI
  have HP := hide (pick_is hI.hp hI.row hI.len false)
  clear hI HM
  go_wp2_with fail
  refine HP.out.mono ?_
  rintro e w2 ⟨v, rfl, hr, hb⟩
  have K := hide (pick_next T HI.out hb hr)
  have HPL := hide (fun x (hx : x ∈ pickL mt false (allH l M)) => HIN.out x (List.mem_filter.1 hx).1)
  have hpl : (pickL mt false (allH l M)).length ≤ 500 := Nat.le_trans (pickL_le _ _ _) hal
  have HRE := hide (show pickL mt false (allH l M) = (allH l M).filter fun x => !mg mt x.1 by unfold pickL; congr 1; funext x; cases mg mt x.1 <;> rfl)
  generalize pickL mt false (allH l M) = R at hr K HPL hpl HRE
  clear hr hb HP HIN hal
  obtain ⟨la, lc, rfl, hlc, hlm⟩ := K.out.1.form
  have HAP := hide (K.out.2.2.1.apart K.out.1 (by decide) (by decide) (by decide))
  go_wp2
  go_loopw [20] (fun iv wr => ∃ k : Nat, k ≤ R.length ∧ iv = .int .i64 (k : Int) ∧ Hid (Hp wr B b p g (frees l (R.take k)) M) ∧ Hid (Ch (fun y => y = p ∨ y = g) w2 wr)) (fun iv _ => R.length - (intOf iv).toNat)
  case atStart => exact ⟨0, Nat.zero_le _, rfl, hide K.out.2.2.1, hide (Ch.refl _ _)⟩
  case round =>
    obtain ⟨k, hk, rfl, HH, HC2⟩ := hrel
    have hrr := K.out.1.ch HC2.out (fun y hy e => by have := HAP.out y hy; omega)
    by_cases hlt : k < R.length
    · obtain ⟨bo, c', cur, e2, -, -, -, -, -, hc⟩ := hrr.at hF_len (by omega)
      cases e2
      have y0 : wr.cell? ⟨bo, k * 2, none⟩ = some (.int .u32 R[k].1) := hc k hlt 0 _ rfl
      have y1 : wr.cell? ⟨bo, k * 2 + 1, none⟩ = some (.int .u32 R[k].2) := hc k hlt 1 _ rfl
      have q1 : decide ((k : Int) < (R.length : Int)) = true := decide_eq_true (by omega)
      obtain ⟨i, hi, hzi, -⟩ := HPL.out R[k] (List.getElem_mem hlt)
      have HN := hide (show frees l (R.take (k + 1)) = frd (frees l (R.take k)) R[k].1 R[k].2 by rw [List.take_succ_eq_append_getElem hlt, frees_snoc])
      generalize R[k] = z at y0 y1 hzi HN
      have hus : Us z.1 := ⟨by omega, by omega⟩
      obtain ⟨w3, hw3⟩ : ∃ w3, wr.alloc (.cells #[.int .u32 z.1, .int .u32 z.2] 43) = w3 := ⟨_, rfl⟩
      have hB1 : Ch (fun _ => False) wr w3 := by rw [← hw3]; exact Ch.alloc _ _
      have hn : w3.heap[wr.heap.size]? = some (.cells #[.int .u32 z.1, .int .u32 z.2] 43 (0, 0)) := by rw [← hw3]; exact heap_new _ _
      have H3 := hide (HH.out.ch0 hB1)
      have hlo := HH.out.lows
      have HC := hide (fun wq (kq : Ch (fun y => y = p ∨ y = g) w3 wq) => show wq.cell? ⟨b, 0, none⟩ = some (.pointer (some ⟨p, 0, none⟩)) ∧ (wq.cell? ⟨wr.heap.size, 0, none⟩ = some (.int .u32 z.1) ∧ wq.cell? ⟨wr.heap.size, 1, none⟩ = some (.int .u32 z.2)) from by
        have e := Lib.cell_of_heap (kq.box hn (by omega))
        have e1 := Lib.cell_of_heap (kq.box H3.out.box (fun e => e.elim H3.out.ne.1 H3.out.ne.2))
        exact ⟨by simp [e1], by simp [e], by simp [e]⟩)
      have HFR := hide (fun V (kv : Ch (fun _ => False) w3 V) => free_isI (s := z.1) (G := z.2) (H3.out.ch0 kv).tb hus)
      have HB1 := hide hB1
      clear hB1 hn hlo hrr hc hus hzi hi
      go_wp2
      clear hw3
      refine wp_region_held_drew (S := Ch (fun y => y = p ∨ y = g) w3) (by kernel_rfl) (Ch.drew _) (fun zk => ?_)
      apply tk 0 co0 rfl (by kernel_rfl) (fun _ _ _ h => h) zk
      · intro wq zq
        go_simp
        try rfl
      go_frame
      apply tk 1 co1 rfl (by kernel_rfl) (fun _ _ _ h => h) zk
      · intro wq zq
        go_simp
        try rfl
      go_frame
      apply tk 2 co2 rfl (by kernel_rfl) (fun _ _ _ h => h) zk
      · intro wq zq
        go_simp
        try rfl
      go_frame
      apply tk 3 co3 rfl (by kernel_rfl) (fun _ _ _ h => h) zk
      · intro wq zq
        have s0 := (HC.out _ zq).1
        go_simp
        try rfl
      go_frame
      apply tk 4 co4 rfl (by kernel_rfl) (fun _ _ _ h => h) zk
      · intro wq zq
        obtain ⟨s0, s1⟩ := (HC.out _ zq).2
        go_simp
        try rfl
      go_frame
      refine rd 5 co5 rfl (by kernel_rfl) fun K hK => ?_
      go_simp
      refine (HFR.out _ (Ch.drew _)).mono ?_
      rintro e w5 ⟨rfl, ht5, hc5⟩
      have X5 := hide (And.intro ht5 hc5)
      have Z5 := hide ((Ch.drew w3).trans hc5 (fun _ _ h => h))
      clear ht5 hc5
      go_wp2_with fail
      refine hK.out _ _ ?_ (fun zk => ?_)
      · exact Z5.out
      clear hK K
      try go_frame
      refine wpAnyH_done (by kernel_rfl) ?_ _
      have HF := hide (show Hp w5 B b p g (frees l (R.take (k + 1))) M by rw [HN.out]; exact (H3.out.ch0 (Ch.drew _)).table X5.out.2 X5.out.1)
      have HC5 := hide ((HC2.out.trans HB1.out (fun _ _ h => h.elim)).trans Z5.out (fun _ _ h => h))
      go_wp2
      go_roundw
      case rel => exact ⟨k + 1, by omega, by go_num, HF, HC5⟩
      case measure => simp [intOf]; omega
    · have q1 : decide ((k : Int) < (R.length : Int)) = false := decide_eq_false (by omega)
      have ek : R.take k = R := List.take_of_length_le (by omega)
      rw [ek] at HH
      go_wp2
      go_ret
      refine ⟨_, R, A, O', rfl, hrr, K.out.2.1, HH.out, ⟨mt, HI.out.ms, HRE.out⟩, T.keep _ _ _ _ _ K.out.2.2.2.1 HC2.out (fun y hy e => ?_), ((K.out.2.2.2.2.mono (Q' := fun y => O y ∨ y = p ∨ y = g) (fun _ _ h => .inl h)).trans HC2.out (fun _ _ h => .inr h)), fun y hy => (HI.out.dis y hy).1, HI.out.dis2⟩
      have := HI.out.dis2 y hy
      omega

theorem collect_no (vl f : Value) (w : World) : Calls Try.prog 19 #[.pointer none, vl, f] w fun e w' => e = .returned (.slice none 0 0) ∧ w' = w := by
  go_enter Try.func19, Try.ntmps19
  go_wp2
  go_ret
  exact ⟨rfl, rfl⟩
theorem all_no (w : World) : Calls Try.prog 20 #[.pointer none] w fun e w' => e = .returned (.slice none 0 0) ∧ w' = w := by
  go_enter Try.func20, Try.ntmps20
  go_wp2
  go_ret
  exact ⟨rfl, rfl⟩
theorem count_no (w : World) : Calls Try.prog 10 #[.pointer none] w fun e w' => e = .returned (.int .i64 0) ∧ w' = w := by
  go_enter Try.func10, Try.ntmps10
  go_wp2
  go_ret
  exact ⟨rfl, rfl⟩
theorem room_no (w : World) : Calls Try.prog 11 #[.pointer none] w fun e w' => e = .returned (.int .i64 0) ∧ w' = w := by
  go_enter Try.func11, Try.ntmps11
  go_wp2
  go_ret
  exact ⟨rfl, rfl⟩
end

end Go.Proofs.Ytcogiklnegpfiaa
