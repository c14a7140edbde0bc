/- Layer 12: RingSeen's walk. -/
import Derived.Test.YtfheeifllpnjaaaSn
import Derived.Test.YtfheeifllpnjaaaTe
namespace Go.Proofs.Ytfheeifllpnjaaa
open Go.RowKit Go.Shelf

attribute [local go_sem] Oper.semAt_some

abbrev sa0 : Oper := { dst := some 60, op := Op.load 24 (Operand.tmp 8), type := 24, pos := "law.go:185", after := #[], guard := none }
abbrev sa1 : Oper := { dst := some 61, op := Op.move (Operand.tmp 5), type := 29, pos := "law.go:185", after := #[], guard := none }
abbrev sa2 : Oper := { dst := some 62, op := Op.move (Operand.tmp 11), type := 3, pos := "law.go:185", after := #[], guard := none }
abbrev sa3 : Oper := { dst := some 63, op := Op.indexAddr 29 (Operand.tmp 61) (Operand.tmp 62), type := 0, pos := "law.go:185", after := #[{ on := 1, ground := Ground.data }, { on := 2, ground := Ground.data }], guard := none }
abbrev sa4 : Oper := { dst := some 64, op := Op.load 3 (Operand.tmp 63), type := 3, pos := "law.go:185", after := #[{ on := 3, ground := Ground.data }], guard := none }
abbrev sa5 : Oper := { dst := some 65, op := Op.call { callee := Callee.value (Operand.func 9), args := #[Operand.tmp 60, Operand.tmp 64], argTypes := #[24, 3] }, type := 25, pos := "law.go:185", after := #[{ on := 0, ground := Ground.data }, { on := 4, ground := Ground.data }], guard := none }
abbrev sa6 : Oper := { dst := some 66, op := Op.binOp BinOp.neq 25 (Operand.tmp 65) (Operand.const (Value.int IntKind.i64 0)) 25, type := 4, pos := "law.go:185", after := #[{ on := 5, ground := Ground.data }], guard := none }
abbrev sb0 : Oper := { dst := some 67, op := Op.load 29 (Operand.tmp 10), type := 29, pos := "law.go:188", after := #[], guard := none }
abbrev sb1 : Oper := { dst := some 68, op := Op.move (Operand.tmp 5), type := 29, pos := "law.go:188", after := #[], guard := none }
abbrev sb2 : Oper := { dst := some 69, op := Op.move (Operand.tmp 11), type := 3, pos := "law.go:188", after := #[], guard := none }
abbrev sb3 : Oper := { dst := some 70, op := Op.indexAddr 29 (Operand.tmp 68) (Operand.tmp 69), type := 0, pos := "law.go:188", after := #[{ on := 1, ground := Ground.data }, { on := 2, ground := Ground.data }], guard := none }
abbrev sb4 : Oper := { dst := some 71, op := Op.load 3 (Operand.tmp 70), type := 3, pos := "law.go:188", after := #[{ on := 3, ground := Ground.data }], guard := none }
abbrev sb5 : Oper := { dst := some 72, op := Op.buildSlice 29 1 #[(0, Operand.tmp 71)], type := 29, pos := "law.go:188", after := #[{ on := 4, ground := Ground.data }], guard := none }
abbrev sb6 : Oper := { dst := some 73, op := Op.call { callee := Callee.builtin Builtin.append, args := #[Operand.tmp 67, Operand.tmp 72], argTypes := #[29, 29] }, type := 29, pos := "law.go:188", after := #[{ on := 0, ground := Ground.data }, { on := 5, ground := Ground.data }], guard := none }
abbrev sb7 : Oper := { dst := none, op := Op.store 29 (Operand.tmp 10) (Operand.tmp 73), type := 0, pos := "law.go:188", after := #[{ on := 6, ground := Ground.data }, { on := 6, ground := Ground.chain }, { on := 0, ground := Ground.phase }, { on := 1, ground := Ground.phase }, { on := 2, ground := Ground.phase }, { on := 3, ground := Ground.phase }, { on := 4, ground := Ground.phase }, { on := 5, ground := Ground.phase }, { on := 6, ground := Ground.phase }], guard := none }
abbrev sc0 : Oper := { dst := some 117, op := Op.load 24 (Operand.tmp 8), type := 24, pos := "law.go:200", after := #[], guard := none }
abbrev sc1 : Oper := { dst := some 118, op := Op.load 29 (Operand.tmp 7), type := 29, pos := "law.go:200", after := #[], guard := none }
abbrev sc2 : Oper := { dst := some 119, op := Op.move (Operand.tmp 16), type := 3, pos := "law.go:200", after := #[], guard := none }
abbrev sc3 : Oper := { dst := some 120, op := Op.indexAddr 29 (Operand.tmp 118) (Operand.tmp 119), type := 0, pos := "law.go:200", after := #[{ on := 1, ground := Ground.data }, { on := 2, ground := Ground.data }], guard := none }
abbrev sc4 : Oper := { dst := some 121, op := Op.load 3 (Operand.tmp 120), type := 3, pos := "law.go:200", after := #[{ on := 3, ground := Ground.data }], guard := none }
abbrev sc5 : Oper := { dst := some 122, op := Op.call { callee := Callee.value (Operand.func 9), args := #[Operand.tmp 117, Operand.tmp 121], argTypes := #[24, 3] }, type := 25, pos := "law.go:200", after := #[{ on := 0, ground := Ground.data }, { on := 4, ground := Ground.data }], guard := none }

set_option maxRecDepth 100000 in
set_option maxHeartbeats 8000000 in
theorem seen_is (w : World) (z outs : Int) (hz1 : -9223372036854775808 ≤ z) (hz2 : z ≤ 9223372036854775807) {lv iv : Value} {l li : List Int} (hl : Lst w.heap.size 1 (InAt w) lv l) (hi : Lst w.heap.size 1 (InAt w) iv li) : Calls Try.prog 5 #[.agg #[.int .i64 z, .int .i64 outs, lv, iv]] w fun e w' => e = .returned (.bool true) ∧ Below w.heap.size w w' := by
  obtain ⟨b0, o0, ⟨A, c, rfl, hcl, hlm, hA⟩, hat⟩ := hl
  obtain ⟨b9, o9, ⟨A9, c9, hiv, hcl9, hlm9, hA9⟩, hat9⟩ := hi
  obtain ⟨y, hy, hy0⟩ : ∃ y : Nat, (y : Int) = (if z < 0 then -(z + 1) else z) ∧ (y : Int) ≤ 9223372036854775807 := by
    split
    · exact ⟨(-(z + 1)).toNat, by omega, by omega⟩
    · exact ⟨z.toNat, by omega, by omega⟩
  obtain ⟨n, hn⟩ : ∃ n, y % 101 = n := ⟨_, rfl⟩
  have hn1 : n ≤ 100 := by omega
  have em : (y : Int).tmod 101 = (n : Int) := by rw [Int.tmod_eq_emod_of_nonneg (by omega)]; omega
  have HL := hide (And.intro hA hat)
  have HL9 := hide (And.intro hA9 hat9)
  have HIV := hide hiv
  clear hA hat hA9 hat9 hn
  obtain ⟨w1, hw1⟩ : ∃ w1, w.alloc (.cells #[.int .i64 z, .int .i64 outs, .slice A l.length c, iv] 54) = w1 := ⟨_, rfl⟩
  have c1 : Ch (fun _ => False) w w1 := by rw [← hw1]; exact Ch.alloc _ _
  have x1 : w1.heap[w.heap.size]? = some (.cells #[.int .i64 z, .int .i64 outs, .slice A l.length c, iv] 54 (0, 0)) := by rw [← hw1]; exact heap_new _ _
  rw [hiv] at x1 hw1 ⊢
  refine (callsIn_wide (n := 20)).1 ?_
  refine callsIn_of_wp_marks Try.func5 rfl trivial ?_ rfl
  simp only [Try.ntmps5, List.size_toArray, List.length_cons, List.length_nil, Nat.reduceAdd, Nat.reduceSub, Array.replicate_succ, Array.replicate_zero, List.push_toArray, List.append_toArray, List.nil_append, List.cons_append]
  refine wpIn_wide.2 ?_
  go_wp2_with (rw [hw1])
  refine (awake_is w1).mono ?_
  rintro e w2 ⟨rfl, b2⟩
  have c2 := c1.trans (Ch.of_below (Q := fun _ => False) b2) (fun _ _ h => h)
  have x2 := (b2.block _ (Array.getElem?_eq_some_iff.1 x1).1).trans x1
  have hw2 : w.heap.size < w2.heap.size := (Array.getElem?_eq_some_iff.1 x2).1
  obtain ⟨w3, hw3⟩ : ∃ w3, (w2.alloc (.cells #[.int .i64 outs] 3)).alloc (.cells #[.slice A9 li.length c9] 29) = w3 := ⟨_, rfl⟩
  have k0 : w2.cell? ⟨w.heap.size, 0, none⟩ = some (.int .i64 z) := by simp [Lib.cell_of_heap x2]
  have k1 : w2.cell? ⟨w.heap.size, 1, none⟩ = some (.int .i64 outs) := by simp [Lib.cell_of_heap x2]
  have k2 : w2.cell? ⟨w.heap.size, 2, none⟩ = some (.slice A l.length c) := by simp [Lib.cell_of_heap x2]
  have k3 : ∀ o, (w2.alloc o).cell? ⟨w.heap.size, 3, none⟩ = some (.slice A9 li.length c9) := fun o => by simp [Lib.cell_of_heap ((Ch.alloc (Q := fun _ => False) w2 o).box x2 (fun h => h))]
  have c3 : Ch (fun _ => False) w2 w3 := by rw [← hw3]; exact (Ch.alloc _ _).trans (Ch.alloc _ _) (fun _ _ h => h)
  have hs3 : w3.heap.size = w2.heap.size + 1 + 1 := by rw [← hw3]; simp
  have bo3 : Boxed w3 w2.heap.size 3 (.int .i64 outs) := by rw [← hw3]; exact (Boxed.new _ _ _).alloc _
  have bi3 : Boxed w3 (w2.heap.size + 1) 29 iv := by rw [← hw3, hiv]; have := Boxed.new (w2.alloc (.cells #[.int .i64 outs] 3)) 29 (.slice A9 li.length c9); rwa [World.size_alloc] at this
  have H3 := hide hw3
  have HC3 := hide (And.intro (c2.trans c3 (fun _ _ h => h)) (And.intro bo3 bi3))
  have HS3 := hide hs3
  clear c1 x1 hw1 b2 c2 x2 hw3 c3 hs3 bo3 bi3 hiv
  by_cases hz : z < 0
  · have q0 : decide (z < 0) = true := decide_eq_true hz
    have e0 : IntKind.i64.wrap (z + 1) = z + 1 := by rw [IntKind.wrap_i64]; omega
    have e1 : IntKind.i64.wrap (-(z + 1)) = (y : Int) := by rw [hy, if_pos hz, IntKind.wrap_i64]; omega
    clear hy hz hz1 hz2
    go_wp2_with fail
    rw [H3.out]
    clear k0 k1 k2 k3 e0 e1 em H3 hy0
    refine (pr_new w3 _ n rfl hn1).mono ?_
    rintro e w4 ⟨p, F, rfl, h4, b4⟩
    obtain ⟨w6, hw6⟩ : ∃ w6, (w4.alloc (.cells #[.pointer (some ⟨p, 0, none⟩)] 24)).alloc (.cells #[.slice none 0 0] 29) = w6 := ⟨_, rfl⟩
    have c6 : Ch (fun _ => False) w4 w6 := by rw [← hw6]; exact (Ch.alloc _ _).trans (Ch.alloc _ _) (fun _ _ h => h)
    have br6 : Boxed w6 w4.heap.size 24 (.pointer (some ⟨p, 0, none⟩)) := by rw [← hw6]; exact (Boxed.new _ _ _).alloc _
    have bt6 : Boxed w6 (w4.heap.size + 1) 29 (.slice none 0 0) := by rw [← hw6]; have := Boxed.new (w4.alloc (.cells #[.pointer (some ⟨p, 0, none⟩)] 24)) 29 (.slice none 0 0); rwa [World.size_alloc] at this
    have hs4 := b4.size
    have HSN := hide (show Sn w w2.heap.size (w2.heap.size + 1) w4.heap.size (w4.heap.size + 1) (w4.heap.size + 1 + 1) F p n outs iv [] [] (.slice none 0 0) w6 by
      obtain ⟨q1, q2, q3⟩ := HC3.out
      have e3 := HS3.out
      have q4 := (Ch.of_below (Q := fun _ => False) b4).trans c6 (fun _ _ h => h)
      rw [show w3.heap.size = w2.heap.size + 1 + 1 from e3] at h4
      exact ⟨q4.box q2 (fun h => h), q4.box q3 (fun h => h), br6, bt6, h4.ch c6 (fun _ _ h => h), Row.nil _ _, (q1.trans q4 (fun _ _ h => h)).below (Nat.le_refl _) (fun _ _ h => h), fun x hx => (h4.foot x hx).2, by omega, by omega, by omega, by omega, by omega⟩)
    have HN46 := hide (show w4.heap.size + 1 + 1 ≤ w6.heap.size by have := bt6.lt; omega)
    have H6 := hide hw6
    clear h4 b4 c6 br6 bt6 hs4 hw6
    go_wp2_with fail
    rw [H6.out]
    clear H6
    go_loopw [11] (fun iq wr => ∃ (i : Nat) (v : Value), iq = .int .i64 (i : Int) ∧ i ≤ l.length ∧ i ≤ n ∧ Hid (Sn w w2.heap.size (w2.heap.size + 1) w4.heap.size (w4.heap.size + 1) (w4.heap.size + 1 + 1) F p n outs iv (l.take i) (l.take i) v wr ∧ w6.heap.size ≤ wr.heap.size)) (fun iq _ => n - (intOf iq).toNat)
    case atStart => exact ⟨0, .slice none 0 0, rfl, Nat.zero_le _, Nat.zero_le _, hide ⟨HSN.out, Nat.le_refl _⟩⟩
    case round =>
      clear HSN
      obtain ⟨i, v, rfl, hi, hin, HI⟩ := hrel
      obtain ⟨va, vc, hv, hvc, -⟩ := HI.out.1.row.form
      rw [List.length_take, Nat.min_eq_left hi] at hv hvc
      subst hv
      have kt := HI.out.1.bt.cell
      have kr := HI.out.1.br.cell
      have HQ := hide (fun k => pr_cap (HI.out.1.pr.ch (Ch.drewN (Q := fun _ => False) wr k) (fun _ _ h => h)))
      by_cases hlt : i < l.length
      · have q1 : decide ((i : Int) < (l.length : Int)) = true := decide_eq_true (by omega)
        have q1' : i < l.length := hlt
        by_cases hcap : i < n
        · have q2 : decide ((i : Int) < (n : Int)) = true := decide_eq_true (by omega)
          obtain ⟨hA, hat⟩ := HL.out
          obtain ⟨rfl, hb0⟩ := hA (by omega)
          obtain ⟨hx, hx1, hx2⟩ := hat i hlt
          have HX := hide (show w.cell? ⟨b0, o0 + i, none⟩ = some (.int .i64 l[i]) by rw [Nat.mul_one] at hx; exact hx)
          have HTK := hide (show l.take (i + 1) = l.take i ++ [l[i]] from List.take_succ_eq_append_getElem hlt)
          clear hA hat hx hx1 hx2
          generalize l[i] = x at HX HTK
          have eI : IntKind.i64.wrap ((i : Int) + 1) = (i : Int) + 1 := by rw [IntKind.wrap_i64]; omega
          have hA8 : ¬ F w4.heap.size := fun e => by have := HI.out.1.lF _ e; omega
          have hbF : ¬ F b0 := fun e => by have := (HI.out.1.pr.foot _ e).1; omega
          have hlo6 := HI.out.1.l6
          go_wp2_with fail
          go_quiet ((go_at_call 18; exact Calls.quiet_of_same (HQ.out _)))
          have HQW := hide (HI.out.1.quiet (Ch.drewN (Q := fun _ => False) wr nq))
          have HSZ := hide (show w6.heap.size ≤ (wr.drewN nq).heap.size from HI.out.2)
          clear kt kr HQ HI
          generalize wr.drewN nq = W at HQW HSZ ⊢
          go_wp2_with fail
          refine wp_anyH ?_
          refine wp_reg (F) (R := fun V => Sn w w2.heap.size (w2.heap.size + 1) w4.heap.size (w4.heap.size + 1) (w4.heap.size + 1 + 1) F p n outs iv (l.take i) (l.take i) (.slice va i vc) V ∧ w6.heap.size ≤ V.heap.size) (by kernel_rfl) ⟨HQW.out.quiet (Ch.drew _), HSZ.out⟩ ?_
          rintro V ⟨hv, hvz⟩ zk
          have HV := hide hv
          have HVZ := hide hvz
          have HG := hide (fun wq (zq : Ch F V wq) => have r := HV.out.ring (HV.out.pr.ch (Ch.refl (fun _ => False) V) (fun _ _ h => h)) (Ch.refl F V); show wq.cell? ⟨w4.heap.size, 0, none⟩ = some (.pointer (some ⟨p, 0, none⟩)) ∧ wq.cell? ⟨b0, o0 + i, none⟩ = some (.int .i64 x) from ⟨Boxed.cell (t := 24) (zq.box HV.out.br hA8), (zq.cell (by have := r.fr.size; omega) hbF _).trans (HV.out.in_ hb0 HX.out)⟩)
          clear hv hvz HQW HSZ
          apply tk 0 sa0 rfl (by kernel_rfl) (fun _ _ _ h => h) zk
          · intro wq zq
            obtain ⟨s1, s2⟩ := HG.out _ zq
            go_simp
            try rfl
          go_frame
          apply tk 1 sa1 rfl (by kernel_rfl) (fun _ _ _ h => h) zk
          · intro wq zq
            go_simp
            try rfl
          go_frame
          apply tk 2 sa2 rfl (by kernel_rfl) (fun _ _ _ h => h) zk
          · intro wq zq
            go_simp
            try rfl
          go_frame
          apply tk 3 sa3 rfl (by kernel_rfl) (fun _ _ _ h => h) zk
          · intro wq zq
            go_simp
            try rfl
          go_frame
          apply tk 4 sa4 rfl (by kernel_rfl) (fun _ _ _ h => h) zk
          · intro wq zq
            obtain ⟨s1, s2⟩ := HG.out _ zq
            go_simp
            try rfl
          go_frame
          refine rd 5 sa5 rfl (by kernel_rfl) fun K hK => ?_
          go_simp
          refine (pr_put HV.out.pr x).mono ?_
          rintro e V2 ⟨rfl, h2, c2⟩
          have HS2 := hide (HV.out.ring h2 c2)
          have HZ2 := hide (Nat.le_trans HVZ.out c2.size)
          have HC2 := hide c2
          rw [show putE (l.take i) n = 0 from if_pos (by rw [List.length_take]; omega)]
          clear h2 c2
          go_wp2_with fail
          refine hK.out _ _ ?_ (fun zk => ?_)
          · exact HC2.out
          clear hK K
          try go_frame
          apply tk 6 sa6 rfl (by kernel_rfl) (fun _ _ _ h => h) zk
          · intro wq zq
            go_simp
            try rfl
          go_frame
          refine wpAnyH_done (by kernel_rfl) ?_ _
          clear zk HG
          have HS2 := hide (show Sn w w2.heap.size (w2.heap.size + 1) w4.heap.size (w4.heap.size + 1) (w4.heap.size + 1 + 1) F p n outs iv (l.take (i + 1)) (l.take i) (.slice va i vc) V2 by rw [HTK.out]; have h := HS2.out; unfold putL at h; rw [if_pos (by rw [List.length_take]; omega)] at h; exact h)
          go_wp2_with fail
          refine wp_anyH ?_
          refine wp_reg (fun y => y = w4.heap.size + 1 ∨ (Value.slice va i vc).ownBlock = some y) (R := fun V => Sn w w2.heap.size (w2.heap.size + 1) w4.heap.size (w4.heap.size + 1) (w4.heap.size + 1 + 1) F p n outs iv (l.take (i + 1)) (l.take i) (.slice va i vc) V ∧ w6.heap.size ≤ V.heap.size) (by kernel_rfl) ⟨HS2.out.quiet (Ch.drew _), HZ2.out⟩ ?_
          rintro V3 ⟨hv3, hvz3⟩ zk
          have H3 := hide hv3
          have HZ3 := hide hvz3
          have hbQ : ¬ (b0 = w4.heap.size + 1 ∨ (Value.slice va i vc).ownBlock = some b0) := fun e => e.elim (fun e => by have := H3.out.l7; have := H3.out.l8; omega) (fun e => by have := (own_in H3.out.row e).1; have := H3.out.l7; have := H3.out.l8; omega)
          have HG := hide (fun wq (zq : Ch (fun y => y = w4.heap.size + 1 ∨ (Value.slice va i vc).ownBlock = some y) V3 wq) => (zq.cell (b := b0) (by have := H3.out.fr.size; omega) hbQ _).trans (H3.out.in_ hb0 HX.out))
          clear hv3 hvz3 HS2 HZ2 HV HVZ HC2
          apply tk 1 sb1 rfl (by kernel_rfl) (fun _ _ _ h => h) zk
          · intro wq zq
            go_simp
            try rfl
          go_frame
          apply tk 2 sb2 rfl (by kernel_rfl) (fun _ _ _ h => h) zk
          · intro wq zq
            go_simp
            try rfl
          go_frame
          apply tk 3 sb3 rfl (by kernel_rfl) (fun _ _ _ h => h) zk
          · intro wq zq
            go_simp
            try rfl
          go_frame
          apply tk 4 sb4 rfl (by kernel_rfl) (fun _ _ _ h => h) zk
          · intro wq zq
            have s1 := HG.out _ zq
            go_simp
            try rfl
          go_frame
          have HOW := hide (World.ownsRow.alloc H3.out.row (.cells #[.int .i64 x] 3))
          have HBT := hide (H3.out.bt)
          have kt := H3.out.bt.cell
          have kt2 : ∀ o, (V3.alloc o).cell? ⟨w4.heap.size + 1, 0, none⟩ = some (.slice va i vc) := fun o => (H3.out.bt.alloc o).cell
          obtain ⟨i0, hi0, hz0, hz1, hz2⟩ := nf_open infoInt
          have hlt4 := HZ3.out
          have hln : (l.take i).length = i := by rw [List.length_take]; omega
          have HLN := hide hln
          clear hln
          refine wpAnyH_ready (rs := [0, 5]) (by kernel_rfl) (by simp) ?_
          refine AllReadyH.cons (o := sb0) rfl (fun K hK => ?_) (AllReadyH.cons (o := sb5) rfl (fun K hK => ?_) AllReadyH.nil)
          · go_simp
            refine hK.out _ _ ?_ (fun zk => ?_)
            · exact zk
            clear hK K
            try go_frame
            refine Go.Proofs.Ytfheeifllpnjaaa.rd 5 sb5 rfl (by kernel_rfl) fun K hK => ?_
            go_simp
            refine hK.out _ _ ?_ (fun zk => ?_)
            · exact zk.trans (Ch.alloc (Q := fun _ => False) _ _) (fun _ _ h => h.elim)
            clear hK K
            try go_frame
            refine Go.Proofs.Ytfheeifllpnjaaa.rd 6 sb6 rfl (by kernel_rfl) fun K hK => ?_
            refine step_append_at rfl (.tmp 67) (.tmp 72) 29 rfl (w4.heap.size + 1 + 1) 3 i0 (.int .i64 0) 1 8 Try.underlying29 hi0 hz0 hz1 hz2 rfl (by decide) (.slice va i vc) (l.take i).length ((l.take i).flatMap inF) rfl HOW.out ⟨V3.heap.size, 0, none⟩ 1 1 (inF x) rfl rfl (row_new1 V3 x 3 rfl) (inF_one x) (by rw [HLN.out]; unfold maxLen; omega) (by rw [HLN.out]; omega) (by have := HN46.out; simp; omega) ?_
            intro v2 W5 hr5 hg5 ho5
            have hc5 := Ch.of_grown (Q := fun y => y = w4.heap.size + 1 ∨ (Value.slice va i vc).ownBlock = some y) hg5 (fun k e => Or.inr e)
            have hne : ¬ (Value.slice va i vc).ownBlock = some (w4.heap.size + 1) := fun e => by have := (own_in H3.out.row e).1; omega
            have hb5 : W5.heap[w4.heap.size + 1]? = some (.cells #[.slice va i vc] 29 (0, 0)) := (hg5.block _ (by have := H3.out.bt.lt; simp; omega) (fun e => hne e.symm)).trans (H3.out.bt.alloc _)
            have k5 : W5.cell? ⟨w4.heap.size + 1, 0, none⟩ = some (.slice va i vc) := by simp [Lib.cell_of_heap hb5]
            have f5 : W5.frozen? ⟨w4.heap.size + 1, 0, none⟩ = false := by simp [World.frozen?, hb5]
            obtain ⟨a5, c5, e5, -, -⟩ := Row.form (Row.snoc hr5)
            have hlen5 : (l.take i ++ [x]).length = i + 1 := by rw [List.length_append, HLN.out]; rfl
            rw [hlen5] at e5
            subst e5
            have HR5 := hide (Row.snoc hr5)
            have HO5 := hide ho5
            have HB5 := hide hb5
            have Z5 := hide (zk.trans hc5 (fun _ _ h => h))
            have Z6 := hide ((zk.trans hc5 (fun _ _ h => h)).trans (Ch.set (Q := fun y => y = w4.heap.size + 1 ∨ (Value.slice va i vc).ownBlock = some y) W5 (Or.inl rfl) 0 (.slice a5 (i + 1) c5)) (fun _ _ h => h))
            clear hr5 hg5 ho5 hb5 hc5 hlen5
            refine hK.out _ _ ?_ (fun zk => ?_)
            · exact Z5.out
            clear hK K
            try go_frame
            refine Go.Proofs.Ytfheeifllpnjaaa.rd 7 sb7 rfl (by kernel_rfl) fun K hK => ?_
            go_simp
            refine hK.out _ _ ?_ (fun zk => ?_)
            · exact Z6.out
            clear hK K
            try go_frame
            refine wpAnyH_done (by kernel_rfl) ?_ _
            have HS7 := hide (show Sn w w2.heap.size (w2.heap.size + 1) w4.heap.size (w4.heap.size + 1) (w4.heap.size + 1 + 1) F p n outs iv (l.take (i + 1)) (l.take (i + 1)) (.slice a5 (i + 1) c5) (W5.setCell ⟨w4.heap.size + 1, 0, none⟩ (.slice a5 (i + 1) c5)) by
              have l6 := H3.out.l6
              have l7 := H3.out.l7
              have l8 := H3.out.l8
              have hq : ∀ y, y < w4.heap.size + 1 → ¬ (y = w4.heap.size + 1 ∨ (Value.slice va i vc).ownBlock = some y) := fun y hy e => e.elim (fun e => by omega) (fun e => by have := (own_in H3.out.row e).1; omega)
              have hz6 := Z6.out
              refine ⟨hz6.box H3.out.bo (hq _ (by omega)), hz6.box H3.out.bi (hq _ (by omega)), hz6.box H3.out.br (hq _ (by omega)), (heap_set HB5.out 0 _).trans rfl, H3.out.pr.ch hz6 (fun y hy => hq y (by have := H3.out.lF y hy; omega)), ?_, H3.out.fr.trans (hz6.below H3.out.fr.size (fun y hy => hq y (by omega))), H3.out.lF, l6, l7, l8, by omega, by omega⟩
              rw [HTK.out]
              refine HR5.out.ch (Ch.set (Q := fun y => y = w4.heap.size + 1) W5 rfl 0 (.slice a5 (i + 1) c5)) (fun y hy e => ?_)
              subst e
              exact absurd (own_in HR5.out hy).1 (by omega))
            have HZ7 := hide (Nat.le_trans HZ3.out Z6.out.size)
            generalize W5.setCell ⟨w4.heap.size + 1, 0, none⟩ (.slice a5 (i + 1) c5) = W7 at HS7 HZ7 ⊢
            clear k5 f5 Z5 Z6 HB5 HR5 HO5 zk HOW HBT kt kt2
            go_wp2_with fail
            go_roundw
            case rel => exact ⟨i + 1, _, by go_num, by omega, by omega, hide ⟨HS7.out, HZ7.out⟩⟩
            case measure => simp [intOf]; omega
          · go_simp
            refine hK.out _ _ ?_ (fun zk => ?_)
            · exact zk.trans (Ch.alloc (Q := fun _ => False) _ _) (fun _ _ h => h.elim)
            clear hK K
            try go_frame
            refine Go.Proofs.Ytfheeifllpnjaaa.rd 0 sb0 rfl (by kernel_rfl) fun K hK => ?_
            go_simp
            refine hK.out _ _ ?_ (fun zk => ?_)
            · exact zk
            clear hK K
            try go_frame
            refine Go.Proofs.Ytfheeifllpnjaaa.rd 6 sb6 rfl (by kernel_rfl) fun K hK => ?_
            refine step_append_at rfl (.tmp 67) (.tmp 72) 29 rfl (w4.heap.size + 1 + 1) 3 i0 (.int .i64 0) 1 8 Try.underlying29 hi0 hz0 hz1 hz2 rfl (by decide) (.slice va i vc) (l.take i).length ((l.take i).flatMap inF) rfl HOW.out ⟨V3.heap.size, 0, none⟩ 1 1 (inF x) rfl rfl (row_new1 V3 x 3 rfl) (inF_one x) (by rw [HLN.out]; unfold maxLen; omega) (by rw [HLN.out]; omega) (by have := HN46.out; simp; omega) ?_
            intro v2 W5 hr5 hg5 ho5
            have hc5 := Ch.of_grown (Q := fun y => y = w4.heap.size + 1 ∨ (Value.slice va i vc).ownBlock = some y) hg5 (fun k e => Or.inr e)
            have hne : ¬ (Value.slice va i vc).ownBlock = some (w4.heap.size + 1) := fun e => by have := (own_in H3.out.row e).1; omega
            have hb5 : W5.heap[w4.heap.size + 1]? = some (.cells #[.slice va i vc] 29 (0, 0)) := (hg5.block _ (by have := H3.out.bt.lt; simp; omega) (fun e => hne e.symm)).trans (H3.out.bt.alloc _)
            have k5 : W5.cell? ⟨w4.heap.size + 1, 0, none⟩ = some (.slice va i vc) := by simp [Lib.cell_of_heap hb5]
            have f5 : W5.frozen? ⟨w4.heap.size + 1, 0, none⟩ = false := by simp [World.frozen?, hb5]
            obtain ⟨a5, c5, e5, -, -⟩ := Row.form (Row.snoc hr5)
            have hlen5 : (l.take i ++ [x]).length = i + 1 := by rw [List.length_append, HLN.out]; rfl
            rw [hlen5] at e5
            subst e5
            have HR5 := hide (Row.snoc hr5)
            have HO5 := hide ho5
            have HB5 := hide hb5
            have Z5 := hide (zk.trans hc5 (fun _ _ h => h))
            have Z6 := hide ((zk.trans hc5 (fun _ _ h => h)).trans (Ch.set (Q := fun y => y = w4.heap.size + 1 ∨ (Value.slice va i vc).ownBlock = some y) W5 (Or.inl rfl) 0 (.slice a5 (i + 1) c5)) (fun _ _ h => h))
            clear hr5 hg5 ho5 hb5 hc5 hlen5
            refine hK.out _ _ ?_ (fun zk => ?_)
            · exact Z5.out
            clear hK K
            try go_frame
            refine Go.Proofs.Ytfheeifllpnjaaa.rd 7 sb7 rfl (by kernel_rfl) fun K hK => ?_
            go_simp
            refine hK.out _ _ ?_ (fun zk => ?_)
            · exact Z6.out
            clear hK K
            try go_frame
            refine wpAnyH_done (by kernel_rfl) ?_ _
            have HS7 := hide (show Sn w w2.heap.size (w2.heap.size + 1) w4.heap.size (w4.heap.size + 1) (w4.heap.size + 1 + 1) F p n outs iv (l.take (i + 1)) (l.take (i + 1)) (.slice a5 (i + 1) c5) (W5.setCell ⟨w4.heap.size + 1, 0, none⟩ (.slice a5 (i + 1) c5)) by
              have l6 := H3.out.l6
              have l7 := H3.out.l7
              have l8 := H3.out.l8
              have hq : ∀ y, y < w4.heap.size + 1 → ¬ (y = w4.heap.size + 1 ∨ (Value.slice va i vc).ownBlock = some y) := fun y hy e => e.elim (fun e => by omega) (fun e => by have := (own_in H3.out.row e).1; omega)
              have hz6 := Z6.out
              refine ⟨hz6.box H3.out.bo (hq _ (by omega)), hz6.box H3.out.bi (hq _ (by omega)), hz6.box H3.out.br (hq _ (by omega)), (heap_set HB5.out 0 _).trans rfl, H3.out.pr.ch hz6 (fun y hy => hq y (by have := H3.out.lF y hy; omega)), ?_, H3.out.fr.trans (hz6.below H3.out.fr.size (fun y hy => hq y (by omega))), H3.out.lF, l6, l7, l8, by omega, by omega⟩
              rw [HTK.out]
              refine HR5.out.ch (Ch.set (Q := fun y => y = w4.heap.size + 1) W5 rfl 0 (.slice a5 (i + 1) c5)) (fun y hy e => ?_)
              subst e
              exact absurd (own_in HR5.out hy).1 (by omega))
            have HZ7 := hide (Nat.le_trans HZ3.out Z6.out.size)
            generalize W5.setCell ⟨w4.heap.size + 1, 0, none⟩ (.slice a5 (i + 1) c5) = W7 at HS7 HZ7 ⊢
            clear k5 f5 Z5 Z6 HB5 HR5 HO5 zk HOW HBT kt kt2
            go_wp2_with fail
            go_roundw
            case rel => exact ⟨i + 1, _, by go_num, by omega, by omega, hide ⟨HS7.out, HZ7.out⟩⟩
            case measure => simp [intOf]; omega
        · have q2 : decide ((i : Int) < (n : Int)) = false := decide_eq_false (by omega)
          go_wp2_with fail
          go_quiet ((go_at_call 18; exact Calls.quiet_of_same (HQ.out _)))
          have HQW := hide (HI.out.1.quiet (Ch.drewN (Q := fun _ => False) wr nq))
          have HSZ := hide (show w6.heap.size ≤ (wr.drewN nq).heap.size from HI.out.2)
          clear kt kr HQ HI
          generalize wr.drewN nq = W at HQW HSZ ⊢
          have hTl : (l.take i).length = i := by rw [List.length_take]; omega
          generalize l.take i = T at HQW hTl
          have hS := HQW.out
          obtain ⟨W1, hW1⟩ : ∃ W1, (W.alloc (.cells #[.int .i64 0] 3)).alloc (.cells #[.bool true] 4) = W1 := ⟨_, rfl⟩
          have c1 : Ch (fun _ => False) W W1 := by rw [← hW1]; exact (Ch.alloc _ _).trans (Ch.alloc _ _) (fun _ _ h => h)
          have n1 : Boxed W1 W.heap.size 3 (.int .i64 ((0 : Nat) : Int)) := by rw [← hW1]; exact (Boxed.new _ _ _).alloc _
          have o1 : Boxed W1 (W.heap.size + 1) 4 (.bool true) := by rw [← hW1]; have := Boxed.new (W.alloc (.cells #[.int .i64 0] 3)) 4 (.bool true); rwa [World.size_alloc] at this
          have kr : ∀ o o', ((W.alloc o).alloc o').cell? ⟨w4.heap.size, 0, none⟩ = some (.pointer (some ⟨p, 0, none⟩)) := fun o o' => ((hS.br.alloc o).alloc o').cell
          have HW1 := hide hW1
          have H1 := hide (And.intro (hS.quiet c1) (And.intro n1 o1))
          have hrl : ∀ g, (Value.slice va i vc).ownBlock = some g → g < W.heap.size := fun g hg => (own_in hS.row hg).2.1
          have HRL := hide hrl
          have hsw := hS.bt.lt
          have hFl := hS.lF
          clear hW1 c1 n1 o1 hS HQW hrl
          go_wp2_with fail
          rw [HW1.out]
          clear HW1 kr
          refine (all_is W1 (.pointer (some ⟨p, 0, none⟩)) rfl).mono ?_
          rintro e W3 ⟨rfl, hW3⟩
          have c3 : Ch (fun _ => False) W1 W3 := by rw [hW3]; exact Ch.alloc _ _
          have bx3 : Boxed W3 W1.heap.size 24 (.pointer (some ⟨p, 0, none⟩)) := by rw [hW3]; exact Boxed.new _ _ _
          have S3 := H1.out.1.quiet c3
          have n3 : Boxed W3 W.heap.size 3 (.int .i64 ((0 : Nat) : Int)) := c3.box H1.out.2.1 (fun h => h)
          have o3 : Boxed W3 (W.heap.size + 1) 4 (.bool true) := c3.box H1.out.2.2 (fun h => h)
          have ho1 : W.heap.size + 1 < W1.heap.size := H1.out.2.2.lt
          have ho3 : W1.heap.size < W3.heap.size := bx3.lt
          have hlN : w4.heap.size + 1 + 1 ≤ W.heap.size := Nat.le_trans HN46.out HSZ.out
          clear hW3 c3 H1
          go_wp2_with fail
          rename_i K2 hK2
          have HK2 := hide hK2
          clear hK2
          refine (wpIn_wide (n := 20)).1 ?_
          refine name_tmps fun tm htm => ?_
          have HT := hide htm
          clear htm
          have hgo : ∀ (V : World) (ys : List Int), PRI V (w2.heap.size + 1 + 1) F p ys n → Ch (fun x => (x = W.heap.size ∨ x = W.heap.size + 1) ∨ F x) W3 V → Sn w w2.heap.size (w2.heap.size + 1) w4.heap.size (w4.heap.size + 1) (w4.heap.size + 1 + 1) F p n outs iv ys T (.slice va i vc) V := fun V ys h1 h2 => S3.go h1 h2 (fun x hx => hx.elim (fun e => Or.inr ⟨by omega, fun hg => by have := HRL.out x hg; omega⟩) Or.inl)
          have HGO := hide hgo
          clear hgo
          refine range_is (by decide) (gf := 27) (lb := #[.pointer (some ⟨W1.heap.size, 0, none⟩)]) (by rw [HT.out]; rfl) (enters_of Try.func27 (by kernel_rfl) rfl) (stops_is 19 (by decide) bx3 S3.pr) (fun h k => h.trans k) (fun W l o o' _ h hc _ => Kc.put W l o o' h hc) (fun i h => by simp)
            (fun j V => (Boxed V W.heap.size 3 (.int .i64 (j : Int)) ∧ Boxed V (W.heap.size + 1) 4 (.bool true)) ∧ (∃ ys, PRI V (w2.heap.size + 1 + 1) F p ys n) ∧ Ch (fun x => (x = W.heap.size ∨ x = W.heap.size + 1) ∨ F x) W3 V)
            (fun _ _ _ => False)
            (OwnFrom.and (OwnFrom.and (Own.from (boxed_own _ _ _) _) (Own.from (boxed_own _ _ _) _)) (OwnFrom.and (pri_own (fun x hx => by have := hFl x hx; omega)) (ownFrom_ch (Nat.le_refl _))))
            (fun c => ownFrom_pure _ _)
            ⟨⟨n3, o3⟩, ⟨T, S3.pr⟩, Ch.refl _ _⟩
            (fun j a' V => a' = { tmps := (tm.setIfInBounds 76 (.int .i64 (T[j]?.getD 0))).setIfInBounds 14 (.int .i64 (T[j]?.getD 0)), defers := [] })
            (fun j a' => ownFrom_pure _ _) ?assign ?body ?done ?stop
          case assign =>
            clear HK2
            rintro lp j hj V K hI hK
            have hj' : j < T.length := by simpa using hj
            obtain ⟨z, hz⟩ : ∃ z, T[j] = z := ⟨_, rfl⟩
            rw [List.getElem?_eq_getElem hj', hz] at hK
            rw [List.getElem_map, hz]
            have HI := hide (hK _ V (keeps_of_ch (Ch.refl (fun _ => False) V) (fun _ h => h.elim)) (Kc.refl _ _) hI rfl)
            rw [HT.out] at HI ⊢
            clear hK
            gi_wp2
            exact HI.out
          case body =>
            clear HK2
            rintro lp j hj a' V hlp ⟨r, hr⟩ ⟨⟨b1, b2⟩, ⟨ys, hys⟩, hc⟩ rfl
            have hj' : j < T.length := by simpa using hj
            have SV := HGO.out V ys hys hc
            rw [List.getElem?_eq_getElem hj', HT.out]
            obtain ⟨g, cc, cur, hsl, -, -, hgl, -, -, hcell⟩ := SV.row.at inF_len (by omega)
            have y0 := hcell j hj' 0 (.int .i64 T[j]) rfl
            rw [Nat.mul_one, Nat.add_zero] at y0
            rw [hTl] at hsl
            obtain ⟨z, hz⟩ : ∃ z, T[j] = z := ⟨_, rfl⟩
            rw [hz] at y0 ⊢
            have kt := SV.bt.cell
            rw [hsl] at kt
            have hgne : ¬ g = W.heap.size + 1 ∧ ¬ g = W.heap.size := by have := HRL.out g (by rw [hsl]; rfl); omega
            have y1 : (V.setCell ⟨W.heap.size + 1, 0, none⟩ (.bool true)).cell? ⟨g, j, none⟩ = some (.int .i64 z) := ((Ch.set (Q := fun x => x = W.heap.size + 1) V rfl 0 (.bool true)).cell (b := g) hgl hgne.1 j).trans y0
            have g1 := b1.cell
            have g1f := b1.frozen
            have g2 := b2.cell
            have g2f := b2.frozen
            have q1 : decide ((j : Int) < (i : Int)) = true := decide_eq_true (by omega)
            have q1' : j < i := by omega
            have eJ : IntKind.i64.wrap ((j : Int) + 1) = (j : Int) + 1 := by rw [IntKind.wrap_i64]; omega
            have HC := hide hc
            have HY := hide hys
            have HSV := hide SV
            clear hcell hz hc hys SV hsl
            have FIN : ∀ V7, V7 = (V.setCell ⟨W.heap.size + 1, 0, none⟩ (.bool true)).setCell ⟨W.heap.size, 0, none⟩ (.int .i64 ((j : Int) + 1)) →
                Ch (fun x => (x = W.heap.size ∨ x = W.heap.size + 1) ∨ F x) V V7 ∧ (Boxed V7 W.heap.size 3 (.int .i64 ((j + 1 : Nat) : Int)) ∧ Boxed V7 (W.heap.size + 1) 4 (.bool true)) ∧ PRI V7 (w2.heap.size + 1 + 1) F p ys n := by
              rintro V7 rfl
              have q1 := Ch.set (Q := fun x => x = W.heap.size ∨ x = W.heap.size + 1) V (Or.inr rfl) 0 (.bool true)
              have q2 := Ch.set (Q := fun x => x = W.heap.size ∨ x = W.heap.size + 1) (V.setCell ⟨W.heap.size + 1, 0, none⟩ (.bool true)) (Or.inl rfl) 0 (.int .i64 ((j : Int) + 1))
              have q3 := q1.trans q2 (fun _ _ h => h)
              exact ⟨q3.mono (fun _ _ h => Or.inl h), ⟨(b1.other (by omega) (.bool true)).set _, (b2.set _).other (by omega) _⟩, HY.out.ch q3 (fun x hx e => by have := hFl x hx; omega)⟩
            replace FIN := hide FIN
            by_cases hj0 : j = 0
            · subst hj0
              have qj : (((0 : Nat) : Int) + 1 == 1) = true := rfl
              have q0z : decide (((0 : Nat) : Int) < (i : Int)) = true := q1
              gi_wp2
              obtain ⟨f1, f2, f3⟩ := FIN.out ((V.setCell ⟨W.heap.size + 1, 0, none⟩ (.bool true)).setCell ⟨W.heap.size, 0, none⟩ (.int .i64 1)) rfl
              have HJ := hide (show (Boxed ((V.setCell ⟨W.heap.size + 1, 0, none⟩ (.bool true)).setCell ⟨W.heap.size, 0, none⟩ (.int .i64 1)) W.heap.size 3 (.int .i64 1) ∧ Boxed ((V.setCell ⟨W.heap.size + 1, 0, none⟩ (.bool true)).setCell ⟨W.heap.size, 0, none⟩ (.int .i64 1)) (W.heap.size + 1) 4 (.bool true)) ∧ (∃ ys, PRI ((V.setCell ⟨W.heap.size + 1, 0, none⟩ (.bool true)).setCell ⟨W.heap.size, 0, none⟩ (.int .i64 1)) (w2.heap.size + 1 + 1) F p ys n) ∧ Ch (fun x => (x = W.heap.size ∨ x = W.heap.size + 1) ∨ F x) V ((V.setCell ⟨W.heap.size + 1, 0, none⟩ (.bool true)).setCell ⟨W.heap.size, 0, none⟩ (.int .i64 1)) from ⟨f2, ⟨ys, f3⟩, f1⟩)
              clear FIN f1 f2 f3 y0 y1 kt g1 g1f g2 g2f
              gi_loopw [15] (fun kv wr => ∃ k : Nat, kv = .int .i64 (k : Int) ∧ k ≤ 101 ∧ Hid ((Boxed wr W.heap.size 3 (.int .i64 1) ∧ Boxed wr (W.heap.size + 1) 4 (.bool true)) ∧ (∃ ys, PRI wr (w2.heap.size + 1 + 1) F p ys n) ∧ Ch (fun x => (x = W.heap.size ∨ x = W.heap.size + 1) ∨ F x) V wr)) (fun kv _ => 101 - (intOf kv).toNat)
              case atStart => exact ⟨0, rfl, by omega, HJ⟩
              case round =>
                clear HJ
                obtain ⟨k, rfl, hk, HJ⟩ := hrel
                obtain ⟨⟨d1, d2⟩, ⟨us, hus⟩, hd⟩ := HJ.out
                have SU := HGO.out wr us hus (HC.out.trans hd (fun _ _ h => h))
                have ko := SU.bo.cell
                have kr := SU.br.cell
                have eK : IntKind.i64.wrap ((k : Int) + 1) = (k : Int) + 1 := by rw [IntKind.wrap_i64]; omega
                by_cases hko : (k : Int) < outs
                · have p1 : decide ((k : Int) < outs) = true := decide_eq_true hko
                  by_cases hk1 : k < 101
                  · have p2 : decide ((k : Int) < 101) = true := decide_eq_true (by omega)
                    clear hko
                    gi_wp2
                    refine ⟨trivial, (CallsIn.inRound lp (callsIn_wide.2 (pr_take hus))).mono ?_⟩
                    rintro e U ⟨rfl, hu, cu⟩
                    have HJ2 := hide (show (Boxed U W.heap.size 3 (.int .i64 1) ∧ Boxed U (W.heap.size + 1) 4 (.bool true)) ∧ (∃ ys, PRI U (w2.heap.size + 1 + 1) F p ys n) ∧ Ch (fun x => (x = W.heap.size ∨ x = W.heap.size + 1) ∨ F x) V U from ⟨⟨cu.box d1 (fun e => by have := hFl _ e; omega), cu.box d2 (fun e => by have := hFl _ e; omega)⟩, ⟨_, hu⟩, hd.trans cu (fun _ _ h => Or.inr h)⟩)
                    clear hu cu hus hd d1 d2 SU ko kr HJ
                    gi_wp2
                    go_roundw
                    case rel => exact ⟨k + 1, by go_num, by omega, HJ2⟩
                    case measure => simp [intOf]; omega
                  · have p2 : decide ((k : Int) < 101) = false := decide_eq_false (by omega)
                    clear hko
                    gi_wp2
                    clear hus hd d1 d2 SU ko kr p1
                    obtain ⟨wq, rfl⟩ : ∃ x, x = wr := ⟨_, rfl⟩
                    gi_loopw [16] (fun kv wr => ∃ k : Nat, kv = .int .i64 (k : Int) ∧ k ≤ 101 ∧ Hid ((Boxed wr W.heap.size 3 (.int .i64 1) ∧ Boxed wr (W.heap.size + 1) 4 (.bool true)) ∧ (∃ ys, PRI wr (w2.heap.size + 1 + 1) F p ys n) ∧ Ch (fun x => (x = W.heap.size ∨ x = W.heap.size + 1) ∨ F x) V wr)) (fun kv _ => 101 - (intOf kv).toNat)
                    case atStart => exact ⟨0, rfl, by omega, HJ⟩
                    case round =>
                      clear HJ eK
                      obtain ⟨k, rfl, hk, HJ⟩ := hrel
                      obtain ⟨⟨d1, d2⟩, ⟨us, hus⟩, hd⟩ := HJ.out
                      have SU := HGO.out wr us hus (HC.out.trans hd (fun _ _ h => h))
                      have ki := SU.bi.cell
                      rw [HIV.out] at ki
                      have eK : IntKind.i64.wrap ((k : Int) + 1) = (k : Int) + 1 := by rw [IntKind.wrap_i64]; omega
                      by_cases hko : k < li.length
                      · have p1 : decide ((k : Int) < (li.length : Int)) = true := decide_eq_true (by omega)
                        by_cases hk1 : k < 101
                        · have p2 : decide ((k : Int) < 101) = true := decide_eq_true (by omega)
                          obtain ⟨hA9, hat9⟩ := HL9.out
                          obtain ⟨rfl, hb9⟩ := hA9 (by omega)
                          obtain ⟨hx, -, -⟩ := hat9 k hko
                          rw [Nat.mul_one] at hx
                          have hx := SU.in_ hb9 hx
                          generalize li[k] = x at hx
                          have hbF : ¬ F b9 := fun e => by have := (hus.foot _ e).1; omega
                          have hA8 : ¬ F w4.heap.size := fun e => by have := hFl _ e; omega
                          have hA7 : ¬ F (w2.heap.size + 1) := fun e => by have := (hus.foot _ e).1; omega
                          have hb9w : b9 < wr.heap.size := by have := SU.fr.size; omega
                          have HG := hide (fun wq (zq : Ch F wr wq) => show wq.cell? ⟨w4.heap.size, 0, none⟩ = some (.pointer (some ⟨p, 0, none⟩)) ∧ wq.cell? ⟨w2.heap.size + 1, 0, none⟩ = some (.slice (some ⟨b9, o9, none⟩) li.length c9) ∧ wq.cell? ⟨b9, o9 + k, none⟩ = some (.int .i64 x) from ⟨Boxed.cell (t := 24) (zq.box SU.br hA8), (zq.cell (SU.bi.lt) hA7 _).trans ki, (zq.cell hb9w hbF _).trans hx⟩)
                          clear hA9 hat9
                          gi_wp2
                          refine region_round (S := Ch F wr) (by kernel_rfl) (by kernel_rfl) ?_ (Ch.drew wr) (fun zk => ?_)
                          · rintro ⟨_, _, h⟩
                            exact h
                          apply tk 0 sc0 rfl (by kernel_rfl) (fun _ _ _ h => h) zk
                          · intro wq zq
                            obtain ⟨s1, s2, s3⟩ := HG.out _ zq
                            go_simp
                            try rfl
                          go_frame
                          apply tk 1 sc1 rfl (by kernel_rfl) (fun _ _ _ h => h) zk
                          · intro wq zq
                            obtain ⟨s1, s2, s3⟩ := HG.out _ zq
                            go_simp
                            try rfl
                          go_frame
                          apply tk 2 sc2 rfl (by kernel_rfl) (fun _ _ _ h => h) zk
                          · intro wq zq
                            go_simp
                            try rfl
                          go_frame
                          apply tk 3 sc3 rfl (by kernel_rfl) (fun _ _ _ h => h) zk
                          · intro wq zq
                            go_simp
                            try rfl
                          go_frame
                          apply tk 4 sc4 rfl (by kernel_rfl) (fun _ _ _ h => h) zk
                          · intro wq zq
                            obtain ⟨s1, s2, s3⟩ := HG.out _ zq
                            go_simp
                            try rfl
                          go_frame
                          refine rd 5 sc5 rfl (by kernel_rfl) fun K hK => ?_
                          go_simp
                          refine (pr_put (hus.ch (Ch.drew (Q := fun _ => False) wr) (fun _ _ h => h)) x).mono ?_
                          rintro e U ⟨rfl, hu, cu⟩
                          have HU := hide hu
                          have HCU := hide ((Ch.drew (Q := F) wr).trans cu (fun _ _ h => h))
                          clear hu cu
                          go_wp2_with fail
                          refine hK.out _ _ ?_ (fun zk => ?_)
                          · exact HCU.out
                          clear hK K
                          try go_frame
                          refine wpAnyH_done (by kernel_rfl) ?_ _
                          have HJ2 := hide (show (Boxed U W.heap.size 3 (.int .i64 1) ∧ Boxed U (W.heap.size + 1) 4 (.bool true)) ∧ (∃ ys, PRI U (w2.heap.size + 1 + 1) F p ys n) ∧ Ch (fun x => (x = W.heap.size ∨ x = W.heap.size + 1) ∨ F x) V U from ⟨⟨HCU.out.box d1 (fun e => by have := hFl _ e; omega), HCU.out.box d2 (fun e => by have := hFl _ e; omega)⟩, ⟨_, HU.out⟩, hd.trans HCU.out (fun _ _ h => Or.inr h)⟩)
                          clear HU HCU hus hd d1 d2 SU ki HJ HG hx zk
                          gi_wp2
                          go_roundw
                          case rel => exact ⟨k + 1, by go_num, by omega, HJ2⟩
                          case measure => simp [intOf]; omega
                        · have p2 : decide ((k : Int) < 101) = false := decide_eq_false (by omega)
                          gi_wp2
                          exact ⟨keeps_of_ch hd (fun y hy => hy.elim (fun e => by omega) (fun e => by have := hFl y e; omega)), Kc.of_ch hd (fun y hy => hy.elim (fun e => by omega) (fun e => by have := hFl y e; omega)), ⟨d1, d2⟩, ⟨us, hus⟩, HC.out.trans hd (fun _ _ h => h)⟩
                      · have p1 : decide ((k : Int) < (li.length : Int)) = false := decide_eq_false (by omega)
                        have p1' : ¬ k < li.length := hko
                        gi_wp2
                        exact ⟨keeps_of_ch hd (fun y hy => hy.elim (fun e => by omega) (fun e => by have := hFl y e; omega)), Kc.of_ch hd (fun y hy => hy.elim (fun e => by omega) (fun e => by have := hFl y e; omega)), ⟨d1, d2⟩, ⟨us, hus⟩, HC.out.trans hd (fun _ _ h => h)⟩
                · have p1 : decide ((k : Int) < outs) = false := decide_eq_false hko
                  clear hko
                  gi_wp2
                  clear hus hd d1 d2 SU ko kr p1
                  obtain ⟨wq, rfl⟩ : ∃ x, x = wr := ⟨_, rfl⟩
                  gi_loopw [16] (fun kv wr => ∃ k : Nat, kv = .int .i64 (k : Int) ∧ k ≤ 101 ∧ Hid ((Boxed wr W.heap.size 3 (.int .i64 1) ∧ Boxed wr (W.heap.size + 1) 4 (.bool true)) ∧ (∃ ys, PRI wr (w2.heap.size + 1 + 1) F p ys n) ∧ Ch (fun x => (x = W.heap.size ∨ x = W.heap.size + 1) ∨ F x) V wr)) (fun kv _ => 101 - (intOf kv).toNat)
                  case atStart => exact ⟨0, rfl, by omega, HJ⟩
                  case round =>
                    clear HJ eK
                    obtain ⟨k, rfl, hk, HJ⟩ := hrel
                    obtain ⟨⟨d1, d2⟩, ⟨us, hus⟩, hd⟩ := HJ.out
                    have SU := HGO.out wr us hus (HC.out.trans hd (fun _ _ h => h))
                    have ki := SU.bi.cell
                    rw [HIV.out] at ki
                    have eK : IntKind.i64.wrap ((k : Int) + 1) = (k : Int) + 1 := by rw [IntKind.wrap_i64]; omega
                    by_cases hko : k < li.length
                    · have p1 : decide ((k : Int) < (li.length : Int)) = true := decide_eq_true (by omega)
                      by_cases hk1 : k < 101
                      · have p2 : decide ((k : Int) < 101) = true := decide_eq_true (by omega)
                        obtain ⟨hA9, hat9⟩ := HL9.out
                        obtain ⟨rfl, hb9⟩ := hA9 (by omega)
                        obtain ⟨hx, -, -⟩ := hat9 k hko
                        rw [Nat.mul_one] at hx
                        have hx := SU.in_ hb9 hx
                        generalize li[k] = x at hx
                        have hbF : ¬ F b9 := fun e => by have := (hus.foot _ e).1; omega
                        have hA8 : ¬ F w4.heap.size := fun e => by have := hFl _ e; omega
                        have hA7 : ¬ F (w2.heap.size + 1) := fun e => by have := (hus.foot _ e).1; omega
                        have hb9w : b9 < wr.heap.size := by have := SU.fr.size; omega
                        have HG := hide (fun wq (zq : Ch F wr wq) => show wq.cell? ⟨w4.heap.size, 0, none⟩ = some (.pointer (some ⟨p, 0, none⟩)) ∧ wq.cell? ⟨w2.heap.size + 1, 0, none⟩ = some (.slice (some ⟨b9, o9, none⟩) li.length c9) ∧ wq.cell? ⟨b9, o9 + k, none⟩ = some (.int .i64 x) from ⟨Boxed.cell (t := 24) (zq.box SU.br hA8), (zq.cell (SU.bi.lt) hA7 _).trans ki, (zq.cell hb9w hbF _).trans hx⟩)
                        clear hA9 hat9
                        gi_wp2
                        refine region_round (S := Ch F wr) (by kernel_rfl) (by kernel_rfl) ?_ (Ch.drew wr) (fun zk => ?_)
                        · rintro ⟨_, _, h⟩
                          exact h
                        apply tk 0 sc0 rfl (by kernel_rfl) (fun _ _ _ h => h) zk
                        · intro wq zq
                          obtain ⟨s1, s2, s3⟩ := HG.out _ zq
                          go_simp
                          try rfl
                        go_frame
                        apply tk 1 sc1 rfl (by kernel_rfl) (fun _ _ _ h => h) zk
                        · intro wq zq
                          obtain ⟨s1, s2, s3⟩ := HG.out _ zq
                          go_simp
                          try rfl
                        go_frame
                        apply tk 2 sc2 rfl (by kernel_rfl) (fun _ _ _ h => h) zk
                        · intro wq zq
                          go_simp
                          try rfl
                        go_frame
                        apply tk 3 sc3 rfl (by kernel_rfl) (fun _ _ _ h => h) zk
                        · intro wq zq
                          go_simp
                          try rfl
                        go_frame
                        apply tk 4 sc4 rfl (by kernel_rfl) (fun _ _ _ h => h) zk
                        · intro wq zq
                          obtain ⟨s1, s2, s3⟩ := HG.out _ zq
                          go_simp
                          try rfl
                        go_frame
                        refine rd 5 sc5 rfl (by kernel_rfl) fun K hK => ?_
                        go_simp
                        refine (pr_put (hus.ch (Ch.drew (Q := fun _ => False) wr) (fun _ _ h => h)) x).mono ?_
                        rintro e U ⟨rfl, hu, cu⟩
                        have HU := hide hu
                        have HCU := hide ((Ch.drew (Q := F) wr).trans cu (fun _ _ h => h))
                        clear hu cu
                        go_wp2_with fail
                        refine hK.out _ _ ?_ (fun zk => ?_)
                        · exact HCU.out
                        clear hK K
                        try go_frame
                        refine wpAnyH_done (by kernel_rfl) ?_ _
                        have HJ2 := hide (show (Boxed U W.heap.size 3 (.int .i64 1) ∧ Boxed U (W.heap.size + 1) 4 (.bool true)) ∧ (∃ ys, PRI U (w2.heap.size + 1 + 1) F p ys n) ∧ Ch (fun x => (x = W.heap.size ∨ x = W.heap.size + 1) ∨ F x) V U from ⟨⟨HCU.out.box d1 (fun e => by have := hFl _ e; omega), HCU.out.box d2 (fun e => by have := hFl _ e; omega)⟩, ⟨_, HU.out⟩, hd.trans HCU.out (fun _ _ h => Or.inr h)⟩)
                        clear HU HCU hus hd d1 d2 SU ki HJ HG hx zk
                        gi_wp2
                        go_roundw
                        case rel => exact ⟨k + 1, by go_num, by omega, HJ2⟩
                        case measure => simp [intOf]; omega
                      · have p2 : decide ((k : Int) < 101) = false := decide_eq_false (by omega)
                        gi_wp2
                        exact ⟨keeps_of_ch hd (fun y hy => hy.elim (fun e => by omega) (fun e => by have := hFl y e; omega)), Kc.of_ch hd (fun y hy => hy.elim (fun e => by omega) (fun e => by have := hFl y e; omega)), ⟨d1, d2⟩, ⟨us, hus⟩, HC.out.trans hd (fun _ _ h => h)⟩
                    · have p1 : decide ((k : Int) < (li.length : Int)) = false := decide_eq_false (by omega)
                      have p1' : ¬ k < li.length := hko
                      gi_wp2
                      exact ⟨keeps_of_ch hd (fun y hy => hy.elim (fun e => by omega) (fun e => by have := hFl y e; omega)), Kc.of_ch hd (fun y hy => hy.elim (fun e => by omega) (fun e => by have := hFl y e; omega)), ⟨d1, d2⟩, ⟨us, hus⟩, HC.out.trans hd (fun _ _ h => h)⟩
            · have qj : ((j : Int) + 1 == 1) = false := by simp; omega
              clear hj0
              gi_wp2
              obtain ⟨f1, f2, f3⟩ := FIN.out _ rfl
              exact ⟨keeps_of_ch f1 (fun y hy => hy.elim (fun e => by omega) (fun e => by have := hFl y e; omega)), Kc.of_ch f1 (fun y hy => hy.elim (fun e => by omega) (fun e => by have := hFl y e; omega)), f2, ⟨ys, f3⟩, HC.out.trans f1 (fun _ _ h => h)⟩
          case done =>
            rintro D V hD ⟨⟨b1, b2⟩, ⟨ys, hys⟩, hc⟩ hK
            rw [List.length_map, hTl] at b1
            refine HK2.out _ _ ?_
            clear HK2
            rw [HT.out]
            have SV := HGO.out V ys hys hc
            have g1 := b1.cell
            have g2 := b2.cell
            have kt := SV.bt.cell
            have HF := hide SV.fr
            have HK := hide hK
            clear hK SV hys hc
            have hwD : w.heap.size ≤ D := by have := S3.fr.size; omega
            go_wp2_with fail
            refine ⟨by simp, .inl ⟨_, _, rfl, run_takeDeferred HK.out, ?_⟩⟩
            exact ⟨_, results_tmp rfl _ _ _, rfl, HF.out.trans (belowK_b (w := w) (Nat.le_refl _) V D _ _ hwD HK.out rfl rfl)⟩
          case stop =>
            rintro D c j V hD hp h hK
            exact h.elim
      · have q1 : decide ((i : Int) < (l.length : Int)) = false := decide_eq_false (by omega)
        have q1' : ¬ i < l.length := hlt
        go_wp2_with fail
        go_quiet (fail)
        have HQW := hide (HI.out.1.quiet (Ch.drewN (Q := fun _ => False) wr nq))
        have HSZ := hide (show w6.heap.size ≤ (wr.drewN nq).heap.size from HI.out.2)
        clear kt kr HQ HI
        generalize wr.drewN nq = W at HQW HSZ ⊢
        have hTl : (l.take i).length = i := by rw [List.length_take]; omega
        generalize l.take i = T at HQW hTl
        have hS := HQW.out
        obtain ⟨W1, hW1⟩ : ∃ W1, (W.alloc (.cells #[.int .i64 0] 3)).alloc (.cells #[.bool true] 4) = W1 := ⟨_, rfl⟩
        have c1 : Ch (fun _ => False) W W1 := by rw [← hW1]; exact (Ch.alloc _ _).trans (Ch.alloc _ _) (fun _ _ h => h)
        have n1 : Boxed W1 W.heap.size 3 (.int .i64 ((0 : Nat) : Int)) := by rw [← hW1]; exact (Boxed.new _ _ _).alloc _
        have o1 : Boxed W1 (W.heap.size + 1) 4 (.bool true) := by rw [← hW1]; have := Boxed.new (W.alloc (.cells #[.int .i64 0] 3)) 4 (.bool true); rwa [World.size_alloc] at this
        have kr : ∀ o o', ((W.alloc o).alloc o').cell? ⟨w4.heap.size, 0, none⟩ = some (.pointer (some ⟨p, 0, none⟩)) := fun o o' => ((hS.br.alloc o).alloc o').cell
        have HW1 := hide hW1
        have H1 := hide (And.intro (hS.quiet c1) (And.intro n1 o1))
        have hrl : ∀ g, (Value.slice va i vc).ownBlock = some g → g < W.heap.size := fun g hg => (own_in hS.row hg).2.1
        have HRL := hide hrl
        have hsw := hS.bt.lt
        have hFl := hS.lF
        clear hW1 c1 n1 o1 hS HQW hrl
        go_wp2_with fail
        rw [HW1.out]
        clear HW1 kr
        refine (all_is W1 (.pointer (some ⟨p, 0, none⟩)) rfl).mono ?_
        rintro e W3 ⟨rfl, hW3⟩
        have c3 : Ch (fun _ => False) W1 W3 := by rw [hW3]; exact Ch.alloc _ _
        have bx3 : Boxed W3 W1.heap.size 24 (.pointer (some ⟨p, 0, none⟩)) := by rw [hW3]; exact Boxed.new _ _ _
        have S3 := H1.out.1.quiet c3
        have n3 : Boxed W3 W.heap.size 3 (.int .i64 ((0 : Nat) : Int)) := c3.box H1.out.2.1 (fun h => h)
        have o3 : Boxed W3 (W.heap.size + 1) 4 (.bool true) := c3.box H1.out.2.2 (fun h => h)
        have ho1 : W.heap.size + 1 < W1.heap.size := H1.out.2.2.lt
        have ho3 : W1.heap.size < W3.heap.size := bx3.lt
        have hlN : w4.heap.size + 1 + 1 ≤ W.heap.size := Nat.le_trans HN46.out HSZ.out
        clear hW3 c3 H1
        go_wp2_with fail
        rename_i K2 hK2
        have HK2 := hide hK2
        clear hK2
        refine (wpIn_wide (n := 20)).1 ?_
        refine name_tmps fun tm htm => ?_
        have HT := hide htm
        clear htm
        have hgo : ∀ (V : World) (ys : List Int), PRI V (w2.heap.size + 1 + 1) F p ys n → Ch (fun x => (x = W.heap.size ∨ x = W.heap.size + 1) ∨ F x) W3 V → Sn w w2.heap.size (w2.heap.size + 1) w4.heap.size (w4.heap.size + 1) (w4.heap.size + 1 + 1) F p n outs iv ys T (.slice va i vc) V := fun V ys h1 h2 => S3.go h1 h2 (fun x hx => hx.elim (fun e => Or.inr ⟨by omega, fun hg => by have := HRL.out x hg; omega⟩) Or.inl)
        have HGO := hide hgo
        clear hgo
        refine range_is (by decide) (gf := 27) (lb := #[.pointer (some ⟨W1.heap.size, 0, none⟩)]) (by rw [HT.out]; rfl) (enters_of Try.func27 (by kernel_rfl) rfl) (stops_is 19 (by decide) bx3 S3.pr) (fun h k => h.trans k) (fun W l o o' _ h hc _ => Kc.put W l o o' h hc) (fun i h => by simp)
          (fun j V => (Boxed V W.heap.size 3 (.int .i64 (j : Int)) ∧ Boxed V (W.heap.size + 1) 4 (.bool true)) ∧ (∃ ys, PRI V (w2.heap.size + 1 + 1) F p ys n) ∧ Ch (fun x => (x = W.heap.size ∨ x = W.heap.size + 1) ∨ F x) W3 V)
          (fun _ _ _ => False)
          (OwnFrom.and (OwnFrom.and (Own.from (boxed_own _ _ _) _) (Own.from (boxed_own _ _ _) _)) (OwnFrom.and (pri_own (fun x hx => by have := hFl x hx; omega)) (ownFrom_ch (Nat.le_refl _))))
          (fun c => ownFrom_pure _ _)
          ⟨⟨n3, o3⟩, ⟨T, S3.pr⟩, Ch.refl _ _⟩
          (fun j a' V => a' = { tmps := (tm.setIfInBounds 76 (.int .i64 (T[j]?.getD 0))).setIfInBounds 14 (.int .i64 (T[j]?.getD 0)), defers := [] })
          (fun j a' => ownFrom_pure _ _) ?assign ?body ?done ?stop
        case assign =>
          clear HK2
          rintro lp j hj V K hI hK
          have hj' : j < T.length := by simpa using hj
          obtain ⟨z, hz⟩ : ∃ z, T[j] = z := ⟨_, rfl⟩
          rw [List.getElem?_eq_getElem hj', hz] at hK
          rw [List.getElem_map, hz]
          have HI := hide (hK _ V (keeps_of_ch (Ch.refl (fun _ => False) V) (fun _ h => h.elim)) (Kc.refl _ _) hI rfl)
          rw [HT.out] at HI ⊢
          clear hK
          gi_wp2
          exact HI.out
        case body =>
          clear HK2
          rintro lp j hj a' V hlp ⟨r, hr⟩ ⟨⟨b1, b2⟩, ⟨ys, hys⟩, hc⟩ rfl
          have hj' : j < T.length := by simpa using hj
          have SV := HGO.out V ys hys hc
          rw [List.getElem?_eq_getElem hj', HT.out]
          obtain ⟨g, cc, cur, hsl, -, -, hgl, -, -, hcell⟩ := SV.row.at inF_len (by omega)
          have y0 := hcell j hj' 0 (.int .i64 T[j]) rfl
          rw [Nat.mul_one, Nat.add_zero] at y0
          rw [hTl] at hsl
          obtain ⟨z, hz⟩ : ∃ z, T[j] = z := ⟨_, rfl⟩
          rw [hz] at y0 ⊢
          have kt := SV.bt.cell
          rw [hsl] at kt
          have hgne : ¬ g = W.heap.size + 1 ∧ ¬ g = W.heap.size := by have := HRL.out g (by rw [hsl]; rfl); omega
          have y1 : (V.setCell ⟨W.heap.size + 1, 0, none⟩ (.bool true)).cell? ⟨g, j, none⟩ = some (.int .i64 z) := ((Ch.set (Q := fun x => x = W.heap.size + 1) V rfl 0 (.bool true)).cell (b := g) hgl hgne.1 j).trans y0
          have g1 := b1.cell
          have g1f := b1.frozen
          have g2 := b2.cell
          have g2f := b2.frozen
          have q1 : decide ((j : Int) < (i : Int)) = true := decide_eq_true (by omega)
          have q1' : j < i := by omega
          have eJ : IntKind.i64.wrap ((j : Int) + 1) = (j : Int) + 1 := by rw [IntKind.wrap_i64]; omega
          have HC := hide hc
          have HY := hide hys
          have HSV := hide SV
          clear hcell hz hc hys SV hsl
          have FIN : ∀ V7, V7 = (V.setCell ⟨W.heap.size + 1, 0, none⟩ (.bool true)).setCell ⟨W.heap.size, 0, none⟩ (.int .i64 ((j : Int) + 1)) →
              Ch (fun x => (x = W.heap.size ∨ x = W.heap.size + 1) ∨ F x) V V7 ∧ (Boxed V7 W.heap.size 3 (.int .i64 ((j + 1 : Nat) : Int)) ∧ Boxed V7 (W.heap.size + 1) 4 (.bool true)) ∧ PRI V7 (w2.heap.size + 1 + 1) F p ys n := by
            rintro V7 rfl
            have q1 := Ch.set (Q := fun x => x = W.heap.size ∨ x = W.heap.size + 1) V (Or.inr rfl) 0 (.bool true)
            have q2 := Ch.set (Q := fun x => x = W.heap.size ∨ x = W.heap.size + 1) (V.setCell ⟨W.heap.size + 1, 0, none⟩ (.bool true)) (Or.inl rfl) 0 (.int .i64 ((j : Int) + 1))
            have q3 := q1.trans q2 (fun _ _ h => h)
            exact ⟨q3.mono (fun _ _ h => Or.inl h), ⟨(b1.other (by omega) (.bool true)).set _, (b2.set _).other (by omega) _⟩, HY.out.ch q3 (fun x hx e => by have := hFl x hx; omega)⟩
          replace FIN := hide FIN
          by_cases hj0 : j = 0
          · subst hj0
            have qj : (((0 : Nat) : Int) + 1 == 1) = true := rfl
            have q0z : decide (((0 : Nat) : Int) < (i : Int)) = true := q1
            gi_wp2
            obtain ⟨f1, f2, f3⟩ := FIN.out ((V.setCell ⟨W.heap.size + 1, 0, none⟩ (.bool true)).setCell ⟨W.heap.size, 0, none⟩ (.int .i64 1)) rfl
            have HJ := hide (show (Boxed ((V.setCell ⟨W.heap.size + 1, 0, none⟩ (.bool true)).setCell ⟨W.heap.size, 0, none⟩ (.int .i64 1)) W.heap.size 3 (.int .i64 1) ∧ Boxed ((V.setCell ⟨W.heap.size + 1, 0, none⟩ (.bool true)).setCell ⟨W.heap.size, 0, none⟩ (.int .i64 1)) (W.heap.size + 1) 4 (.bool true)) ∧ (∃ ys, PRI ((V.setCell ⟨W.heap.size + 1, 0, none⟩ (.bool true)).setCell ⟨W.heap.size, 0, none⟩ (.int .i64 1)) (w2.heap.size + 1 + 1) F p ys n) ∧ Ch (fun x => (x = W.heap.size ∨ x = W.heap.size + 1) ∨ F x) V ((V.setCell ⟨W.heap.size + 1, 0, none⟩ (.bool true)).setCell ⟨W.heap.size, 0, none⟩ (.int .i64 1)) from ⟨f2, ⟨ys, f3⟩, f1⟩)
            clear FIN f1 f2 f3 y0 y1 kt g1 g1f g2 g2f
            gi_loopw [15] (fun kv wr => ∃ k : Nat, kv = .int .i64 (k : Int) ∧ k ≤ 101 ∧ Hid ((Boxed wr W.heap.size 3 (.int .i64 1) ∧ Boxed wr (W.heap.size + 1) 4 (.bool true)) ∧ (∃ ys, PRI wr (w2.heap.size + 1 + 1) F p ys n) ∧ Ch (fun x => (x = W.heap.size ∨ x = W.heap.size + 1) ∨ F x) V wr)) (fun kv _ => 101 - (intOf kv).toNat)
            case atStart => exact ⟨0, rfl, by omega, HJ⟩
            case round =>
              clear HJ
              obtain ⟨k, rfl, hk, HJ⟩ := hrel
              obtain ⟨⟨d1, d2⟩, ⟨us, hus⟩, hd⟩ := HJ.out
              have SU := HGO.out wr us hus (HC.out.trans hd (fun _ _ h => h))
              have ko := SU.bo.cell
              have kr := SU.br.cell
              have eK : IntKind.i64.wrap ((k : Int) + 1) = (k : Int) + 1 := by rw [IntKind.wrap_i64]; omega
              by_cases hko : (k : Int) < outs
              · have p1 : decide ((k : Int) < outs) = true := decide_eq_true hko
                by_cases hk1 : k < 101
                · have p2 : decide ((k : Int) < 101) = true := decide_eq_true (by omega)
                  clear hko
                  gi_wp2
                  refine ⟨trivial, (CallsIn.inRound lp (callsIn_wide.2 (pr_take hus))).mono ?_⟩
                  rintro e U ⟨rfl, hu, cu⟩
                  have HJ2 := hide (show (Boxed U W.heap.size 3 (.int .i64 1) ∧ Boxed U (W.heap.size + 1) 4 (.bool true)) ∧ (∃ ys, PRI U (w2.heap.size + 1 + 1) F p ys n) ∧ Ch (fun x => (x = W.heap.size ∨ x = W.heap.size + 1) ∨ F x) V U from ⟨⟨cu.box d1 (fun e => by have := hFl _ e; omega), cu.box d2 (fun e => by have := hFl _ e; omega)⟩, ⟨_, hu⟩, hd.trans cu (fun _ _ h => Or.inr h)⟩)
                  clear hu cu hus hd d1 d2 SU ko kr HJ
                  gi_wp2
                  go_roundw
                  case rel => exact ⟨k + 1, by go_num, by omega, HJ2⟩
                  case measure => simp [intOf]; omega
                · have p2 : decide ((k : Int) < 101) = false := decide_eq_false (by omega)
                  clear hko
                  gi_wp2
                  clear hus hd d1 d2 SU ko kr p1
                  obtain ⟨wq, rfl⟩ : ∃ x, x = wr := ⟨_, rfl⟩
                  gi_loopw [16] (fun kv wr => ∃ k : Nat, kv = .int .i64 (k : Int) ∧ k ≤ 101 ∧ Hid ((Boxed wr W.heap.size 3 (.int .i64 1) ∧ Boxed wr (W.heap.size + 1) 4 (.bool true)) ∧ (∃ ys, PRI wr (w2.heap.size + 1 + 1) F p ys n) ∧ Ch (fun x => (x = W.heap.size ∨ x = W.heap.size + 1) ∨ F x) V wr)) (fun kv _ => 101 - (intOf kv).toNat)
                  case atStart => exact ⟨0, rfl, by omega, HJ⟩
                  case round =>
                    clear HJ eK
                    obtain ⟨k, rfl, hk, HJ⟩ := hrel
                    obtain ⟨⟨d1, d2⟩, ⟨us, hus⟩, hd⟩ := HJ.out
                    have SU := HGO.out wr us hus (HC.out.trans hd (fun _ _ h => h))
                    have ki := SU.bi.cell
                    rw [HIV.out] at ki
                    have eK : IntKind.i64.wrap ((k : Int) + 1) = (k : Int) + 1 := by rw [IntKind.wrap_i64]; omega
                    by_cases hko : k < li.length
                    · have p1 : decide ((k : Int) < (li.length : Int)) = true := decide_eq_true (by omega)
                      by_cases hk1 : k < 101
                      · have p2 : decide ((k : Int) < 101) = true := decide_eq_true (by omega)
                        obtain ⟨hA9, hat9⟩ := HL9.out
                        obtain ⟨rfl, hb9⟩ := hA9 (by omega)
                        obtain ⟨hx, -, -⟩ := hat9 k hko
                        rw [Nat.mul_one] at hx
                        have hx := SU.in_ hb9 hx
                        generalize li[k] = x at hx
                        have hbF : ¬ F b9 := fun e => by have := (hus.foot _ e).1; omega
                        have hA8 : ¬ F w4.heap.size := fun e => by have := hFl _ e; omega
                        have hA7 : ¬ F (w2.heap.size + 1) := fun e => by have := (hus.foot _ e).1; omega
                        have hb9w : b9 < wr.heap.size := by have := SU.fr.size; omega
                        have HG := hide (fun wq (zq : Ch F wr wq) => show wq.cell? ⟨w4.heap.size, 0, none⟩ = some (.pointer (some ⟨p, 0, none⟩)) ∧ wq.cell? ⟨w2.heap.size + 1, 0, none⟩ = some (.slice (some ⟨b9, o9, none⟩) li.length c9) ∧ wq.cell? ⟨b9, o9 + k, none⟩ = some (.int .i64 x) from ⟨Boxed.cell (t := 24) (zq.box SU.br hA8), (zq.cell (SU.bi.lt) hA7 _).trans ki, (zq.cell hb9w hbF _).trans hx⟩)
                        clear hA9 hat9
                        gi_wp2
                        refine region_round (S := Ch F wr) (by kernel_rfl) (by kernel_rfl) ?_ (Ch.drew wr) (fun zk => ?_)
                        · rintro ⟨_, _, h⟩
                          exact h
                        apply tk 0 sc0 rfl (by kernel_rfl) (fun _ _ _ h => h) zk
                        · intro wq zq
                          obtain ⟨s1, s2, s3⟩ := HG.out _ zq
                          go_simp
                          try rfl
                        go_frame
                        apply tk 1 sc1 rfl (by kernel_rfl) (fun _ _ _ h => h) zk
                        · intro wq zq
                          obtain ⟨s1, s2, s3⟩ := HG.out _ zq
                          go_simp
                          try rfl
                        go_frame
                        apply tk 2 sc2 rfl (by kernel_rfl) (fun _ _ _ h => h) zk
                        · intro wq zq
                          go_simp
                          try rfl
                        go_frame
                        apply tk 3 sc3 rfl (by kernel_rfl) (fun _ _ _ h => h) zk
                        · intro wq zq
                          go_simp
                          try rfl
                        go_frame
                        apply tk 4 sc4 rfl (by kernel_rfl) (fun _ _ _ h => h) zk
                        · intro wq zq
                          obtain ⟨s1, s2, s3⟩ := HG.out _ zq
                          go_simp
                          try rfl
                        go_frame
                        refine rd 5 sc5 rfl (by kernel_rfl) fun K hK => ?_
                        go_simp
                        refine (pr_put (hus.ch (Ch.drew (Q := fun _ => False) wr) (fun _ _ h => h)) x).mono ?_
                        rintro e U ⟨rfl, hu, cu⟩
                        have HU := hide hu
                        have HCU := hide ((Ch.drew (Q := F) wr).trans cu (fun _ _ h => h))
                        clear hu cu
                        go_wp2_with fail
                        refine hK.out _ _ ?_ (fun zk => ?_)
                        · exact HCU.out
                        clear hK K
                        try go_frame
                        refine wpAnyH_done (by kernel_rfl) ?_ _
                        have HJ2 := hide (show (Boxed U W.heap.size 3 (.int .i64 1) ∧ Boxed U (W.heap.size + 1) 4 (.bool true)) ∧ (∃ ys, PRI U (w2.heap.size + 1 + 1) F p ys n) ∧ Ch (fun x => (x = W.heap.size ∨ x = W.heap.size + 1) ∨ F x) V U from ⟨⟨HCU.out.box d1 (fun e => by have := hFl _ e; omega), HCU.out.box d2 (fun e => by have := hFl _ e; omega)⟩, ⟨_, HU.out⟩, hd.trans HCU.out (fun _ _ h => Or.inr h)⟩)
                        clear HU HCU hus hd d1 d2 SU ki HJ HG hx zk
                        gi_wp2
                        go_roundw
                        case rel => exact ⟨k + 1, by go_num, by omega, HJ2⟩
                        case measure => simp [intOf]; omega
                      · have p2 : decide ((k : Int) < 101) = false := decide_eq_false (by omega)
                        gi_wp2
                        exact ⟨keeps_of_ch hd (fun y hy => hy.elim (fun e => by omega) (fun e => by have := hFl y e; omega)), Kc.of_ch hd (fun y hy => hy.elim (fun e => by omega) (fun e => by have := hFl y e; omega)), ⟨d1, d2⟩, ⟨us, hus⟩, HC.out.trans hd (fun _ _ h => h)⟩
                    · have p1 : decide ((k : Int) < (li.length : Int)) = false := decide_eq_false (by omega)
                      have p1' : ¬ k < li.length := hko
                      gi_wp2
                      exact ⟨keeps_of_ch hd (fun y hy => hy.elim (fun e => by omega) (fun e => by have := hFl y e; omega)), Kc.of_ch hd (fun y hy => hy.elim (fun e => by omega) (fun e => by have := hFl y e; omega)), ⟨d1, d2⟩, ⟨us, hus⟩, HC.out.trans hd (fun _ _ h => h)⟩
              · have p1 : decide ((k : Int) < outs) = false := decide_eq_false hko
                clear hko
                gi_wp2
                clear hus hd d1 d2 SU ko kr p1
                obtain ⟨wq, rfl⟩ : ∃ x, x = wr := ⟨_, rfl⟩
                gi_loopw [16] (fun kv wr => ∃ k : Nat, kv = .int .i64 (k : Int) ∧ k ≤ 101 ∧ Hid ((Boxed wr W.heap.size 3 (.int .i64 1) ∧ Boxed wr (W.heap.size + 1) 4 (.bool true)) ∧ (∃ ys, PRI wr (w2.heap.size + 1 + 1) F p ys n) ∧ Ch (fun x => (x = W.heap.size ∨ x = W.heap.size + 1) ∨ F x) V wr)) (fun kv _ => 101 - (intOf kv).toNat)
                case atStart => exact ⟨0, rfl, by omega, HJ⟩
                case round =>
                  clear HJ eK
                  obtain ⟨k, rfl, hk, HJ⟩ := hrel
                  obtain ⟨⟨d1, d2⟩, ⟨us, hus⟩, hd⟩ := HJ.out
                  have SU := HGO.out wr us hus (HC.out.trans hd (fun _ _ h => h))
                  have ki := SU.bi.cell
                  rw [HIV.out] at ki
                  have eK : IntKind.i64.wrap ((k : Int) + 1) = (k : Int) + 1 := by rw [IntKind.wrap_i64]; omega
                  by_cases hko : k < li.length
                  · have p1 : decide ((k : Int) < (li.length : Int)) = true := decide_eq_true (by omega)
                    by_cases hk1 : k < 101
                    · have p2 : decide ((k : Int) < 101) = true := decide_eq_true (by omega)
                      obtain ⟨hA9, hat9⟩ := HL9.out
                      obtain ⟨rfl, hb9⟩ := hA9 (by omega)
                      obtain ⟨hx, -, -⟩ := hat9 k hko
                      rw [Nat.mul_one] at hx
                      have hx := SU.in_ hb9 hx
                      generalize li[k] = x at hx
                      have hbF : ¬ F b9 := fun e => by have := (hus.foot _ e).1; omega
                      have hA8 : ¬ F w4.heap.size := fun e => by have := hFl _ e; omega
                      have hA7 : ¬ F (w2.heap.size + 1) := fun e => by have := (hus.foot _ e).1; omega
                      have hb9w : b9 < wr.heap.size := by have := SU.fr.size; omega
                      have HG := hide (fun wq (zq : Ch F wr wq) => show wq.cell? ⟨w4.heap.size, 0, none⟩ = some (.pointer (some ⟨p, 0, none⟩)) ∧ wq.cell? ⟨w2.heap.size + 1, 0, none⟩ = some (.slice (some ⟨b9, o9, none⟩) li.length c9) ∧ wq.cell? ⟨b9, o9 + k, none⟩ = some (.int .i64 x) from ⟨Boxed.cell (t := 24) (zq.box SU.br hA8), (zq.cell (SU.bi.lt) hA7 _).trans ki, (zq.cell hb9w hbF _).trans hx⟩)
                      clear hA9 hat9
                      gi_wp2
                      refine region_round (S := Ch F wr) (by kernel_rfl) (by kernel_rfl) ?_ (Ch.drew wr) (fun zk => ?_)
                      · rintro ⟨_, _, h⟩
                        exact h
                      apply tk 0 sc0 rfl (by kernel_rfl) (fun _ _ _ h => h) zk
                      · intro wq zq
                        obtain ⟨s1, s2, s3⟩ := HG.out _ zq
                        go_simp
                        try rfl
                      go_frame
                      apply tk 1 sc1 rfl (by kernel_rfl) (fun _ _ _ h => h) zk
                      · intro wq zq
                        obtain ⟨s1, s2, s3⟩ := HG.out _ zq
                        go_simp
                        try rfl
                      go_frame
                      apply tk 2 sc2 rfl (by kernel_rfl) (fun _ _ _ h => h) zk
                      · intro wq zq
                        go_simp
                        try rfl
                      go_frame
                      apply tk 3 sc3 rfl (by kernel_rfl) (fun _ _ _ h => h) zk
                      · intro wq zq
                        go_simp
                        try rfl
                      go_frame
                      apply tk 4 sc4 rfl (by kernel_rfl) (fun _ _ _ h => h) zk
                      · intro wq zq
                        obtain ⟨s1, s2, s3⟩ := HG.out _ zq
                        go_simp
                        try rfl
                      go_frame
                      refine rd 5 sc5 rfl (by kernel_rfl) fun K hK => ?_
                      go_simp
                      refine (pr_put (hus.ch (Ch.drew (Q := fun _ => False) wr) (fun _ _ h => h)) x).mono ?_
                      rintro e U ⟨rfl, hu, cu⟩
                      have HU := hide hu
                      have HCU := hide ((Ch.drew (Q := F) wr).trans cu (fun _ _ h => h))
                      clear hu cu
                      go_wp2_with fail
                      refine hK.out _ _ ?_ (fun zk => ?_)
                      · exact HCU.out
                      clear hK K
                      try go_frame
                      refine wpAnyH_done (by kernel_rfl) ?_ _
                      have HJ2 := hide (show (Boxed U W.heap.size 3 (.int .i64 1) ∧ Boxed U (W.heap.size + 1) 4 (.bool true)) ∧ (∃ ys, PRI U (w2.heap.size + 1 + 1) F p ys n) ∧ Ch (fun x => (x = W.heap.size ∨ x = W.heap.size + 1) ∨ F x) V U from ⟨⟨HCU.out.box d1 (fun e => by have := hFl _ e; omega), HCU.out.box d2 (fun e => by have := hFl _ e; omega)⟩, ⟨_, HU.out⟩, hd.trans HCU.out (fun _ _ h => Or.inr h)⟩)
                      clear HU HCU hus hd d1 d2 SU ki HJ HG hx zk
                      gi_wp2
                      go_roundw
                      case rel => exact ⟨k + 1, by go_num, by omega, HJ2⟩
                      case measure => simp [intOf]; omega
                    · have p2 : decide ((k : Int) < 101) = false := decide_eq_false (by omega)
                      gi_wp2
                      exact ⟨keeps_of_ch hd (fun y hy => hy.elim (fun e => by omega) (fun e => by have := hFl y e; omega)), Kc.of_ch hd (fun y hy => hy.elim (fun e => by omega) (fun e => by have := hFl y e; omega)), ⟨d1, d2⟩, ⟨us, hus⟩, HC.out.trans hd (fun _ _ h => h)⟩
                  · have p1 : decide ((k : Int) < (li.length : Int)) = false := decide_eq_false (by omega)
                    have p1' : ¬ k < li.length := hko
                    gi_wp2
                    exact ⟨keeps_of_ch hd (fun y hy => hy.elim (fun e => by omega) (fun e => by have := hFl y e; omega)), Kc.of_ch hd (fun y hy => hy.elim (fun e => by omega) (fun e => by have := hFl y e; omega)), ⟨d1, d2⟩, ⟨us, hus⟩, HC.out.trans hd (fun _ _ h => h)⟩
          · have qj : ((j : Int) + 1 == 1) = false := by simp; omega
            clear hj0
            gi_wp2
            obtain ⟨f1, f2, f3⟩ := FIN.out _ rfl
            exact ⟨keeps_of_ch f1 (fun y hy => hy.elim (fun e => by omega) (fun e => by have := hFl y e; omega)), Kc.of_ch f1 (fun y hy => hy.elim (fun e => by omega) (fun e => by have := hFl y e; omega)), f2, ⟨ys, f3⟩, HC.out.trans f1 (fun _ _ h => h)⟩
        case done =>
          rintro D V hD ⟨⟨b1, b2⟩, ⟨ys, hys⟩, hc⟩ hK
          rw [List.length_map, hTl] at b1
          refine HK2.out _ _ ?_
          clear HK2
          rw [HT.out]
          have SV := HGO.out V ys hys hc
          have g1 := b1.cell
          have g2 := b2.cell
          have kt := SV.bt.cell
          have HF := hide SV.fr
          have HK := hide hK
          clear hK SV hys hc
          have hwD : w.heap.size ≤ D := by have := S3.fr.size; omega
          go_wp2_with fail
          refine ⟨by simp, .inl ⟨_, _, rfl, run_takeDeferred HK.out, ?_⟩⟩
          exact ⟨_, results_tmp rfl _ _ _, rfl, HF.out.trans (belowK_b (w := w) (Nat.le_refl _) V D _ _ hwD HK.out rfl rfl)⟩
        case stop =>
          rintro D c j V hD hp h hK
          exact h.elim
  · have q0 : decide (z < 0) = false := decide_eq_false hz
    have e1 : z = (y : Int) := by rw [hy, if_neg hz]
    clear hy hz hz1 hz2
    subst e1
    go_wp2_with fail
    rw [H3.out]
    clear k0 k1 k2 k3 em H3 hy0
    refine (pr_new w3 _ n rfl hn1).mono ?_
    rintro e w4 ⟨p, F, rfl, h4, b4⟩
    obtain ⟨w6, hw6⟩ : ∃ w6, (w4.alloc (.cells #[.pointer (some ⟨p, 0, none⟩)] 24)).alloc (.cells #[.slice none 0 0] 29) = w6 := ⟨_, rfl⟩
    have c6 : Ch (fun _ => False) w4 w6 := by rw [← hw6]; exact (Ch.alloc _ _).trans (Ch.alloc _ _) (fun _ _ h => h)
    have br6 : Boxed w6 w4.heap.size 24 (.pointer (some ⟨p, 0, none⟩)) := by rw [← hw6]; exact (Boxed.new _ _ _).alloc _
    have bt6 : Boxed w6 (w4.heap.size + 1) 29 (.slice none 0 0) := by rw [← hw6]; have := Boxed.new (w4.alloc (.cells #[.pointer (some ⟨p, 0, none⟩)] 24)) 29 (.slice none 0 0); rwa [World.size_alloc] at this
    have hs4 := b4.size
    have HSN := hide (show Sn w w2.heap.size (w2.heap.size + 1) w4.heap.size (w4.heap.size + 1) (w4.heap.size + 1 + 1) F p n outs iv [] [] (.slice none 0 0) w6 by
      obtain ⟨q1, q2, q3⟩ := HC3.out
      have e3 := HS3.out
      have q4 := (Ch.of_below (Q := fun _ => False) b4).trans c6 (fun _ _ h => h)
      rw [show w3.heap.size = w2.heap.size + 1 + 1 from e3] at h4
      exact ⟨q4.box q2 (fun h => h), q4.box q3 (fun h => h), br6, bt6, h4.ch c6 (fun _ _ h => h), Row.nil _ _, (q1.trans q4 (fun _ _ h => h)).below (Nat.le_refl _) (fun _ _ h => h), fun x hx => (h4.foot x hx).2, by omega, by omega, by omega, by omega, by omega⟩)
    have HN46 := hide (show w4.heap.size + 1 + 1 ≤ w6.heap.size by have := bt6.lt; omega)
    have H6 := hide hw6
    clear h4 b4 c6 br6 bt6 hs4 hw6
    go_wp2_with fail
    rw [H6.out]
    clear H6
    go_loopw [11] (fun iq wr => ∃ (i : Nat) (v : Value), iq = .int .i64 (i : Int) ∧ i ≤ l.length ∧ i ≤ n ∧ Hid (Sn w w2.heap.size (w2.heap.size + 1) w4.heap.size (w4.heap.size + 1) (w4.heap.size + 1 + 1) F p n outs iv (l.take i) (l.take i) v wr ∧ w6.heap.size ≤ wr.heap.size)) (fun iq _ => n - (intOf iq).toNat)
    case atStart => exact ⟨0, .slice none 0 0, rfl, Nat.zero_le _, Nat.zero_le _, hide ⟨HSN.out, Nat.le_refl _⟩⟩
    case round =>
      clear HSN
      obtain ⟨i, v, rfl, hi, hin, HI⟩ := hrel
      obtain ⟨va, vc, hv, hvc, -⟩ := HI.out.1.row.form
      rw [List.length_take, Nat.min_eq_left hi] at hv hvc
      subst hv
      have kt := HI.out.1.bt.cell
      have kr := HI.out.1.br.cell
      have HQ := hide (fun k => pr_cap (HI.out.1.pr.ch (Ch.drewN (Q := fun _ => False) wr k) (fun _ _ h => h)))
      by_cases hlt : i < l.length
      · have q1 : decide ((i : Int) < (l.length : Int)) = true := decide_eq_true (by omega)
        have q1' : i < l.length := hlt
        by_cases hcap : i < n
        · have q2 : decide ((i : Int) < (n : Int)) = true := decide_eq_true (by omega)
          obtain ⟨hA, hat⟩ := HL.out
          obtain ⟨rfl, hb0⟩ := hA (by omega)
          obtain ⟨hx, hx1, hx2⟩ := hat i hlt
          have HX := hide (show w.cell? ⟨b0, o0 + i, none⟩ = some (.int .i64 l[i]) by rw [Nat.mul_one] at hx; exact hx)
          have HTK := hide (show l.take (i + 1) = l.take i ++ [l[i]] from List.take_succ_eq_append_getElem hlt)
          clear hA hat hx hx1 hx2
          generalize l[i] = x at HX HTK
          have eI : IntKind.i64.wrap ((i : Int) + 1) = (i : Int) + 1 := by rw [IntKind.wrap_i64]; omega
          have hA8 : ¬ F w4.heap.size := fun e => by have := HI.out.1.lF _ e; omega
          have hbF : ¬ F b0 := fun e => by have := (HI.out.1.pr.foot _ e).1; omega
          have hlo6 := HI.out.1.l6
          go_wp2_with fail
          go_quiet ((go_at_call 18; exact Calls.quiet_of_same (HQ.out _)))
          have HQW := hide (HI.out.1.quiet (Ch.drewN (Q := fun _ => False) wr nq))
          have HSZ := hide (show w6.heap.size ≤ (wr.drewN nq).heap.size from HI.out.2)
          clear kt kr HQ HI
          generalize wr.drewN nq = W at HQW HSZ ⊢
          go_wp2_with fail
          refine wp_anyH ?_
          refine wp_reg (F) (R := fun V => Sn w w2.heap.size (w2.heap.size + 1) w4.heap.size (w4.heap.size + 1) (w4.heap.size + 1 + 1) F p n outs iv (l.take i) (l.take i) (.slice va i vc) V ∧ w6.heap.size ≤ V.heap.size) (by kernel_rfl) ⟨HQW.out.quiet (Ch.drew _), HSZ.out⟩ ?_
          rintro V ⟨hv, hvz⟩ zk
          have HV := hide hv
          have HVZ := hide hvz
          have HG := hide (fun wq (zq : Ch F V wq) => have r := HV.out.ring (HV.out.pr.ch (Ch.refl (fun _ => False) V) (fun _ _ h => h)) (Ch.refl F V); show wq.cell? ⟨w4.heap.size, 0, none⟩ = some (.pointer (some ⟨p, 0, none⟩)) ∧ wq.cell? ⟨b0, o0 + i, none⟩ = some (.int .i64 x) from ⟨Boxed.cell (t := 24) (zq.box HV.out.br hA8), (zq.cell (by have := r.fr.size; omega) hbF _).trans (HV.out.in_ hb0 HX.out)⟩)
          clear hv hvz HQW HSZ
          apply tk 0 sa0 rfl (by kernel_rfl) (fun _ _ _ h => h) zk
          · intro wq zq
            obtain ⟨s1, s2⟩ := HG.out _ zq
            go_simp
            try rfl
          go_frame
          apply tk 1 sa1 rfl (by kernel_rfl) (fun _ _ _ h => h) zk
          · intro wq zq
            go_simp
            try rfl
          go_frame
          apply tk 2 sa2 rfl (by kernel_rfl) (fun _ _ _ h => h) zk
          · intro wq zq
            go_simp
            try rfl
          go_frame
          apply tk 3 sa3 rfl (by kernel_rfl) (fun _ _ _ h => h) zk
          · intro wq zq
            go_simp
            try rfl
          go_frame
          apply tk 4 sa4 rfl (by kernel_rfl) (fun _ _ _ h => h) zk
          · intro wq zq
            obtain ⟨s1, s2⟩ := HG.out _ zq
            go_simp
            try rfl
          go_frame
          refine rd 5 sa5 rfl (by kernel_rfl) fun K hK => ?_
          go_simp
          refine (pr_put HV.out.pr x).mono ?_
          rintro e V2 ⟨rfl, h2, c2⟩
          have HS2 := hide (HV.out.ring h2 c2)
          have HZ2 := hide (Nat.le_trans HVZ.out c2.size)
          have HC2 := hide c2
          rw [show putE (l.take i) n = 0 from if_pos (by rw [List.length_take]; omega)]
          clear h2 c2
          go_wp2_with fail
          refine hK.out _ _ ?_ (fun zk => ?_)
          · exact HC2.out
          clear hK K
          try go_frame
          apply tk 6 sa6 rfl (by kernel_rfl) (fun _ _ _ h => h) zk
          · intro wq zq
            go_simp
            try rfl
          go_frame
          refine wpAnyH_done (by kernel_rfl) ?_ _
          clear zk HG
          have HS2 := hide (show Sn w w2.heap.size (w2.heap.size + 1) w4.heap.size (w4.heap.size + 1) (w4.heap.size + 1 + 1) F p n outs iv (l.take (i + 1)) (l.take i) (.slice va i vc) V2 by rw [HTK.out]; have h := HS2.out; unfold putL at h; rw [if_pos (by rw [List.length_take]; omega)] at h; exact h)
          go_wp2_with fail
          refine wp_anyH ?_
          refine wp_reg (fun y => y = w4.heap.size + 1 ∨ (Value.slice va i vc).ownBlock = some y) (R := fun V => Sn w w2.heap.size (w2.heap.size + 1) w4.heap.size (w4.heap.size + 1) (w4.heap.size + 1 + 1) F p n outs iv (l.take (i + 1)) (l.take i) (.slice va i vc) V ∧ w6.heap.size ≤ V.heap.size) (by kernel_rfl) ⟨HS2.out.quiet (Ch.drew _), HZ2.out⟩ ?_
          rintro V3 ⟨hv3, hvz3⟩ zk
          have H3 := hide hv3
          have HZ3 := hide hvz3
          have hbQ : ¬ (b0 = w4.heap.size + 1 ∨ (Value.slice va i vc).ownBlock = some b0) := fun e => e.elim (fun e => by have := H3.out.l7; have := H3.out.l8; omega) (fun e => by have := (own_in H3.out.row e).1; have := H3.out.l7; have := H3.out.l8; omega)
          have HG := hide (fun wq (zq : Ch (fun y => y = w4.heap.size + 1 ∨ (Value.slice va i vc).ownBlock = some y) V3 wq) => (zq.cell (b := b0) (by have := H3.out.fr.size; omega) hbQ _).trans (H3.out.in_ hb0 HX.out))
          clear hv3 hvz3 HS2 HZ2 HV HVZ HC2
          apply tk 1 sb1 rfl (by kernel_rfl) (fun _ _ _ h => h) zk
          · intro wq zq
            go_simp
            try rfl
          go_frame
          apply tk 2 sb2 rfl (by kernel_rfl) (fun _ _ _ h => h) zk
          · intro wq zq
            go_simp
            try rfl
          go_frame
          apply tk 3 sb3 rfl (by kernel_rfl) (fun _ _ _ h => h) zk
          · intro wq zq
            go_simp
            try rfl
          go_frame
          apply tk 4 sb4 rfl (by kernel_rfl) (fun _ _ _ h => h) zk
          · intro wq zq
            have s1 := HG.out _ zq
            go_simp
            try rfl
          go_frame
          have HOW := hide (World.ownsRow.alloc H3.out.row (.cells #[.int .i64 x] 3))
          have HBT := hide (H3.out.bt)
          have kt := H3.out.bt.cell
          have kt2 : ∀ o, (V3.alloc o).cell? ⟨w4.heap.size + 1, 0, none⟩ = some (.slice va i vc) := fun o => (H3.out.bt.alloc o).cell
          obtain ⟨i0, hi0, hz0, hz1, hz2⟩ := nf_open infoInt
          have hlt4 := HZ3.out
          have hln : (l.take i).length = i := by rw [List.length_take]; omega
          have HLN := hide hln
          clear hln
          refine wpAnyH_ready (rs := [0, 5]) (by kernel_rfl) (by simp) ?_
          refine AllReadyH.cons (o := sb0) rfl (fun K hK => ?_) (AllReadyH.cons (o := sb5) rfl (fun K hK => ?_) AllReadyH.nil)
          · go_simp
            refine hK.out _ _ ?_ (fun zk => ?_)
            · exact zk
            clear hK K
            try go_frame
            refine Go.Proofs.Ytfheeifllpnjaaa.rd 5 sb5 rfl (by kernel_rfl) fun K hK => ?_
            go_simp
            refine hK.out _ _ ?_ (fun zk => ?_)
            · exact zk.trans (Ch.alloc (Q := fun _ => False) _ _) (fun _ _ h => h.elim)
            clear hK K
            try go_frame
            refine Go.Proofs.Ytfheeifllpnjaaa.rd 6 sb6 rfl (by kernel_rfl) fun K hK => ?_
            refine step_append_at rfl (.tmp 67) (.tmp 72) 29 rfl (w4.heap.size + 1 + 1) 3 i0 (.int .i64 0) 1 8 Try.underlying29 hi0 hz0 hz1 hz2 rfl (by decide) (.slice va i vc) (l.take i).length ((l.take i).flatMap inF) rfl HOW.out ⟨V3.heap.size, 0, none⟩ 1 1 (inF x) rfl rfl (row_new1 V3 x 3 rfl) (inF_one x) (by rw [HLN.out]; unfold maxLen; omega) (by rw [HLN.out]; omega) (by have := HN46.out; simp; omega) ?_
            intro v2 W5 hr5 hg5 ho5
            have hc5 := Ch.of_grown (Q := fun y => y = w4.heap.size + 1 ∨ (Value.slice va i vc).ownBlock = some y) hg5 (fun k e => Or.inr e)
            have hne : ¬ (Value.slice va i vc).ownBlock = some (w4.heap.size + 1) := fun e => by have := (own_in H3.out.row e).1; omega
            have hb5 : W5.heap[w4.heap.size + 1]? = some (.cells #[.slice va i vc] 29 (0, 0)) := (hg5.block _ (by have := H3.out.bt.lt; simp; omega) (fun e => hne e.symm)).trans (H3.out.bt.alloc _)
            have k5 : W5.cell? ⟨w4.heap.size + 1, 0, none⟩ = some (.slice va i vc) := by simp [Lib.cell_of_heap hb5]
            have f5 : W5.frozen? ⟨w4.heap.size + 1, 0, none⟩ = false := by simp [World.frozen?, hb5]
            obtain ⟨a5, c5, e5, -, -⟩ := Row.form (Row.snoc hr5)
            have hlen5 : (l.take i ++ [x]).length = i + 1 := by rw [List.length_append, HLN.out]; rfl
            rw [hlen5] at e5
            subst e5
            have HR5 := hide (Row.snoc hr5)
            have HO5 := hide ho5
            have HB5 := hide hb5
            have Z5 := hide (zk.trans hc5 (fun _ _ h => h))
            have Z6 := hide ((zk.trans hc5 (fun _ _ h => h)).trans (Ch.set (Q := fun y => y = w4.heap.size + 1 ∨ (Value.slice va i vc).ownBlock = some y) W5 (Or.inl rfl) 0 (.slice a5 (i + 1) c5)) (fun _ _ h => h))
            clear hr5 hg5 ho5 hb5 hc5 hlen5
            refine hK.out _ _ ?_ (fun zk => ?_)
            · exact Z5.out
            clear hK K
            try go_frame
            refine Go.Proofs.Ytfheeifllpnjaaa.rd 7 sb7 rfl (by kernel_rfl) fun K hK => ?_
            go_simp
            refine hK.out _ _ ?_ (fun zk => ?_)
            · exact Z6.out
            clear hK K
            try go_frame
            refine wpAnyH_done (by kernel_rfl) ?_ _
            have HS7 := hide (show Sn w w2.heap.size (w2.heap.size + 1) w4.heap.size (w4.heap.size + 1) (w4.heap.size + 1 + 1) F p n outs iv (l.take (i + 1)) (l.take (i + 1)) (.slice a5 (i + 1) c5) (W5.setCell ⟨w4.heap.size + 1, 0, none⟩ (.slice a5 (i + 1) c5)) by
              have l6 := H3.out.l6
              have l7 := H3.out.l7
              have l8 := H3.out.l8
              have hq : ∀ y, y < w4.heap.size + 1 → ¬ (y = w4.heap.size + 1 ∨ (Value.slice va i vc).ownBlock = some y) := fun y hy e => e.elim (fun e => by omega) (fun e => by have := (own_in H3.out.row e).1; omega)
              have hz6 := Z6.out
              refine ⟨hz6.box H3.out.bo (hq _ (by omega)), hz6.box H3.out.bi (hq _ (by omega)), hz6.box H3.out.br (hq _ (by omega)), (heap_set HB5.out 0 _).trans rfl, H3.out.pr.ch hz6 (fun y hy => hq y (by have := H3.out.lF y hy; omega)), ?_, H3.out.fr.trans (hz6.below H3.out.fr.size (fun y hy => hq y (by omega))), H3.out.lF, l6, l7, l8, by omega, by omega⟩
              rw [HTK.out]
              refine HR5.out.ch (Ch.set (Q := fun y => y = w4.heap.size + 1) W5 rfl 0 (.slice a5 (i + 1) c5)) (fun y hy e => ?_)
              subst e
              exact absurd (own_in HR5.out hy).1 (by omega))
            have HZ7 := hide (Nat.le_trans HZ3.out Z6.out.size)
            generalize W5.setCell ⟨w4.heap.size + 1, 0, none⟩ (.slice a5 (i + 1) c5) = W7 at HS7 HZ7 ⊢
            clear k5 f5 Z5 Z6 HB5 HR5 HO5 zk HOW HBT kt kt2
            go_wp2_with fail
            go_roundw
            case rel => exact ⟨i + 1, _, by go_num, by omega, by omega, hide ⟨HS7.out, HZ7.out⟩⟩
            case measure => simp [intOf]; omega
          · go_simp
            refine hK.out _ _ ?_ (fun zk => ?_)
            · exact zk.trans (Ch.alloc (Q := fun _ => False) _ _) (fun _ _ h => h.elim)
            clear hK K
            try go_frame
            refine Go.Proofs.Ytfheeifllpnjaaa.rd 0 sb0 rfl (by kernel_rfl) fun K hK => ?_
            go_simp
            refine hK.out _ _ ?_ (fun zk => ?_)
            · exact zk
            clear hK K
            try go_frame
            refine Go.Proofs.Ytfheeifllpnjaaa.rd 6 sb6 rfl (by kernel_rfl) fun K hK => ?_
            refine step_append_at rfl (.tmp 67) (.tmp 72) 29 rfl (w4.heap.size + 1 + 1) 3 i0 (.int .i64 0) 1 8 Try.underlying29 hi0 hz0 hz1 hz2 rfl (by decide) (.slice va i vc) (l.take i).length ((l.take i).flatMap inF) rfl HOW.out ⟨V3.heap.size, 0, none⟩ 1 1 (inF x) rfl rfl (row_new1 V3 x 3 rfl) (inF_one x) (by rw [HLN.out]; unfold maxLen; omega) (by rw [HLN.out]; omega) (by have := HN46.out; simp; omega) ?_
            intro v2 W5 hr5 hg5 ho5
            have hc5 := Ch.of_grown (Q := fun y => y = w4.heap.size + 1 ∨ (Value.slice va i vc).ownBlock = some y) hg5 (fun k e => Or.inr e)
            have hne : ¬ (Value.slice va i vc).ownBlock = some (w4.heap.size + 1) := fun e => by have := (own_in H3.out.row e).1; omega
            have hb5 : W5.heap[w4.heap.size + 1]? = some (.cells #[.slice va i vc] 29 (0, 0)) := (hg5.block _ (by have := H3.out.bt.lt; simp; omega) (fun e => hne e.symm)).trans (H3.out.bt.alloc _)
            have k5 : W5.cell? ⟨w4.heap.size + 1, 0, none⟩ = some (.slice va i vc) := by simp [Lib.cell_of_heap hb5]
            have f5 : W5.frozen? ⟨w4.heap.size + 1, 0, none⟩ = false := by simp [World.frozen?, hb5]
            obtain ⟨a5, c5, e5, -, -⟩ := Row.form (Row.snoc hr5)
            have hlen5 : (l.take i ++ [x]).length = i + 1 := by rw [List.length_append, HLN.out]; rfl
            rw [hlen5] at e5
            subst e5
            have HR5 := hide (Row.snoc hr5)
            have HO5 := hide ho5
            have HB5 := hide hb5
            have Z5 := hide (zk.trans hc5 (fun _ _ h => h))
            have Z6 := hide ((zk.trans hc5 (fun _ _ h => h)).trans (Ch.set (Q := fun y => y = w4.heap.size + 1 ∨ (Value.slice va i vc).ownBlock = some y) W5 (Or.inl rfl) 0 (.slice a5 (i + 1) c5)) (fun _ _ h => h))
            clear hr5 hg5 ho5 hb5 hc5 hlen5
            refine hK.out _ _ ?_ (fun zk => ?_)
            · exact Z5.out
            clear hK K
            try go_frame
            refine Go.Proofs.Ytfheeifllpnjaaa.rd 7 sb7 rfl (by kernel_rfl) fun K hK => ?_
            go_simp
            refine hK.out _ _ ?_ (fun zk => ?_)
            · exact Z6.out
            clear hK K
            try go_frame
            refine wpAnyH_done (by kernel_rfl) ?_ _
            have HS7 := hide (show Sn w w2.heap.size (w2.heap.size + 1) w4.heap.size (w4.heap.size + 1) (w4.heap.size + 1 + 1) F p n outs iv (l.take (i + 1)) (l.take (i + 1)) (.slice a5 (i + 1) c5) (W5.setCell ⟨w4.heap.size + 1, 0, none⟩ (.slice a5 (i + 1) c5)) by
              have l6 := H3.out.l6
              have l7 := H3.out.l7
              have l8 := H3.out.l8
              have hq : ∀ y, y < w4.heap.size + 1 → ¬ (y = w4.heap.size + 1 ∨ (Value.slice va i vc).ownBlock = some y) := fun y hy e => e.elim (fun e => by omega) (fun e => by have := (own_in H3.out.row e).1; omega)
              have hz6 := Z6.out
              refine ⟨hz6.box H3.out.bo (hq _ (by omega)), hz6.box H3.out.bi (hq _ (by omega)), hz6.box H3.out.br (hq _ (by omega)), (heap_set HB5.out 0 _).trans rfl, H3.out.pr.ch hz6 (fun y hy => hq y (by have := H3.out.lF y hy; omega)), ?_, H3.out.fr.trans (hz6.below H3.out.fr.size (fun y hy => hq y (by omega))), H3.out.lF, l6, l7, l8, by omega, by omega⟩
              rw [HTK.out]
              refine HR5.out.ch (Ch.set (Q := fun y => y = w4.heap.size + 1) W5 rfl 0 (.slice a5 (i + 1) c5)) (fun y hy e => ?_)
              subst e
              exact absurd (own_in HR5.out hy).1 (by omega))
            have HZ7 := hide (Nat.le_trans HZ3.out Z6.out.size)
            generalize W5.setCell ⟨w4.heap.size + 1, 0, none⟩ (.slice a5 (i + 1) c5) = W7 at HS7 HZ7 ⊢
            clear k5 f5 Z5 Z6 HB5 HR5 HO5 zk HOW HBT kt kt2
            go_wp2_with fail
            go_roundw
            case rel => exact ⟨i + 1, _, by go_num, by omega, by omega, hide ⟨HS7.out, HZ7.out⟩⟩
            case measure => simp [intOf]; omega
        · have q2 : decide ((i : Int) < (n : Int)) = false := decide_eq_false (by omega)
          go_wp2_with fail
          go_quiet ((go_at_call 18; exact Calls.quiet_of_same (HQ.out _)))
          have HQW := hide (HI.out.1.quiet (Ch.drewN (Q := fun _ => False) wr nq))
          have HSZ := hide (show w6.heap.size ≤ (wr.drewN nq).heap.size from HI.out.2)
          clear kt kr HQ HI
          generalize wr.drewN nq = W at HQW HSZ ⊢
          have hTl : (l.take i).length = i := by rw [List.length_take]; omega
          generalize l.take i = T at HQW hTl
          have hS := HQW.out
          obtain ⟨W1, hW1⟩ : ∃ W1, (W.alloc (.cells #[.int .i64 0] 3)).alloc (.cells #[.bool true] 4) = W1 := ⟨_, rfl⟩
          have c1 : Ch (fun _ => False) W W1 := by rw [← hW1]; exact (Ch.alloc _ _).trans (Ch.alloc _ _) (fun _ _ h => h)
          have n1 : Boxed W1 W.heap.size 3 (.int .i64 ((0 : Nat) : Int)) := by rw [← hW1]; exact (Boxed.new _ _ _).alloc _
          have o1 : Boxed W1 (W.heap.size + 1) 4 (.bool true) := by rw [← hW1]; have := Boxed.new (W.alloc (.cells #[.int .i64 0] 3)) 4 (.bool true); rwa [World.size_alloc] at this
          have kr : ∀ o o', ((W.alloc o).alloc o').cell? ⟨w4.heap.size, 0, none⟩ = some (.pointer (some ⟨p, 0, none⟩)) := fun o o' => ((hS.br.alloc o).alloc o').cell
          have HW1 := hide hW1
          have H1 := hide (And.intro (hS.quiet c1) (And.intro n1 o1))
          have hrl : ∀ g, (Value.slice va i vc).ownBlock = some g → g < W.heap.size := fun g hg => (own_in hS.row hg).2.1
          have HRL := hide hrl
          have hsw := hS.bt.lt
          have hFl := hS.lF
          clear hW1 c1 n1 o1 hS HQW hrl
          go_wp2_with fail
          rw [HW1.out]
          clear HW1 kr
          refine (all_is W1 (.pointer (some ⟨p, 0, none⟩)) rfl).mono ?_
          rintro e W3 ⟨rfl, hW3⟩
          have c3 : Ch (fun _ => False) W1 W3 := by rw [hW3]; exact Ch.alloc _ _
          have bx3 : Boxed W3 W1.heap.size 24 (.pointer (some ⟨p, 0, none⟩)) := by rw [hW3]; exact Boxed.new _ _ _
          have S3 := H1.out.1.quiet c3
          have n3 : Boxed W3 W.heap.size 3 (.int .i64 ((0 : Nat) : Int)) := c3.box H1.out.2.1 (fun h => h)
          have o3 : Boxed W3 (W.heap.size + 1) 4 (.bool true) := c3.box H1.out.2.2 (fun h => h)
          have ho1 : W.heap.size + 1 < W1.heap.size := H1.out.2.2.lt
          have ho3 : W1.heap.size < W3.heap.size := bx3.lt
          have hlN : w4.heap.size + 1 + 1 ≤ W.heap.size := Nat.le_trans HN46.out HSZ.out
          clear hW3 c3 H1
          go_wp2_with fail
          rename_i K2 hK2
          have HK2 := hide hK2
          clear hK2
          refine (wpIn_wide (n := 20)).1 ?_
          refine name_tmps fun tm htm => ?_
          have HT := hide htm
          clear htm
          have hgo : ∀ (V : World) (ys : List Int), PRI V (w2.heap.size + 1 + 1) F p ys n → Ch (fun x => (x = W.heap.size ∨ x = W.heap.size + 1) ∨ F x) W3 V → Sn w w2.heap.size (w2.heap.size + 1) w4.heap.size (w4.heap.size + 1) (w4.heap.size + 1 + 1) F p n outs iv ys T (.slice va i vc) V := fun V ys h1 h2 => S3.go h1 h2 (fun x hx => hx.elim (fun e => Or.inr ⟨by omega, fun hg => by have := HRL.out x hg; omega⟩) Or.inl)
          have HGO := hide hgo
          clear hgo
          refine range_is (by decide) (gf := 27) (lb := #[.pointer (some ⟨W1.heap.size, 0, none⟩)]) (by rw [HT.out]; rfl) (enters_of Try.func27 (by kernel_rfl) rfl) (stops_is 19 (by decide) bx3 S3.pr) (fun h k => h.trans k) (fun W l o o' _ h hc _ => Kc.put W l o o' h hc) (fun i h => by simp)
            (fun j V => (Boxed V W.heap.size 3 (.int .i64 (j : Int)) ∧ Boxed V (W.heap.size + 1) 4 (.bool true)) ∧ (∃ ys, PRI V (w2.heap.size + 1 + 1) F p ys n) ∧ Ch (fun x => (x = W.heap.size ∨ x = W.heap.size + 1) ∨ F x) W3 V)
            (fun _ _ _ => False)
            (OwnFrom.and (OwnFrom.and (Own.from (boxed_own _ _ _) _) (Own.from (boxed_own _ _ _) _)) (OwnFrom.and (pri_own (fun x hx => by have := hFl x hx; omega)) (ownFrom_ch (Nat.le_refl _))))
            (fun c => ownFrom_pure _ _)
            ⟨⟨n3, o3⟩, ⟨T, S3.pr⟩, Ch.refl _ _⟩
            (fun j a' V => a' = { tmps := (tm.setIfInBounds 76 (.int .i64 (T[j]?.getD 0))).setIfInBounds 14 (.int .i64 (T[j]?.getD 0)), defers := [] })
            (fun j a' => ownFrom_pure _ _) ?assign ?body ?done ?stop
          case assign =>
            clear HK2
            rintro lp j hj V K hI hK
            have hj' : j < T.length := by simpa using hj
            obtain ⟨z, hz⟩ : ∃ z, T[j] = z := ⟨_, rfl⟩
            rw [List.getElem?_eq_getElem hj', hz] at hK
            rw [List.getElem_map, hz]
            have HI := hide (hK _ V (keeps_of_ch (Ch.refl (fun _ => False) V) (fun _ h => h.elim)) (Kc.refl _ _) hI rfl)
            rw [HT.out] at HI ⊢
            clear hK
            gi_wp2
            exact HI.out
          case body =>
            clear HK2
            rintro lp j hj a' V hlp ⟨r, hr⟩ ⟨⟨b1, b2⟩, ⟨ys, hys⟩, hc⟩ rfl
            have hj' : j < T.length := by simpa using hj
            have SV := HGO.out V ys hys hc
            rw [List.getElem?_eq_getElem hj', HT.out]
            obtain ⟨g, cc, cur, hsl, -, -, hgl, -, -, hcell⟩ := SV.row.at inF_len (by omega)
            have y0 := hcell j hj' 0 (.int .i64 T[j]) rfl
            rw [Nat.mul_one, Nat.add_zero] at y0
            rw [hTl] at hsl
            obtain ⟨z, hz⟩ : ∃ z, T[j] = z := ⟨_, rfl⟩
            rw [hz] at y0 ⊢
            have kt := SV.bt.cell
            rw [hsl] at kt
            have hgne : ¬ g = W.heap.size + 1 ∧ ¬ g = W.heap.size := by have := HRL.out g (by rw [hsl]; rfl); omega
            have y1 : (V.setCell ⟨W.heap.size + 1, 0, none⟩ (.bool true)).cell? ⟨g, j, none⟩ = some (.int .i64 z) := ((Ch.set (Q := fun x => x = W.heap.size + 1) V rfl 0 (.bool true)).cell (b := g) hgl hgne.1 j).trans y0
            have g1 := b1.cell
            have g1f := b1.frozen
            have g2 := b2.cell
            have g2f := b2.frozen
            have q1 : decide ((j : Int) < (i : Int)) = true := decide_eq_true (by omega)
            have q1' : j < i := by omega
            have eJ : IntKind.i64.wrap ((j : Int) + 1) = (j : Int) + 1 := by rw [IntKind.wrap_i64]; omega
            have HC := hide hc
            have HY := hide hys
            have HSV := hide SV
            clear hcell hz hc hys SV hsl
            have FIN : ∀ V7, V7 = (V.setCell ⟨W.heap.size + 1, 0, none⟩ (.bool true)).setCell ⟨W.heap.size, 0, none⟩ (.int .i64 ((j : Int) + 1)) →
                Ch (fun x => (x = W.heap.size ∨ x = W.heap.size + 1) ∨ F x) V V7 ∧ (Boxed V7 W.heap.size 3 (.int .i64 ((j + 1 : Nat) : Int)) ∧ Boxed V7 (W.heap.size + 1) 4 (.bool true)) ∧ PRI V7 (w2.heap.size + 1 + 1) F p ys n := by
              rintro V7 rfl
              have q1 := Ch.set (Q := fun x => x = W.heap.size ∨ x = W.heap.size + 1) V (Or.inr rfl) 0 (.bool true)
              have q2 := Ch.set (Q := fun x => x = W.heap.size ∨ x = W.heap.size + 1) (V.setCell ⟨W.heap.size + 1, 0, none⟩ (.bool true)) (Or.inl rfl) 0 (.int .i64 ((j : Int) + 1))
              have q3 := q1.trans q2 (fun _ _ h => h)
              exact ⟨q3.mono (fun _ _ h => Or.inl h), ⟨(b1.other (by omega) (.bool true)).set _, (b2.set _).other (by omega) _⟩, HY.out.ch q3 (fun x hx e => by have := hFl x hx; omega)⟩
            replace FIN := hide FIN
            by_cases hj0 : j = 0
            · subst hj0
              have qj : (((0 : Nat) : Int) + 1 == 1) = true := rfl
              have q0z : decide (((0 : Nat) : Int) < (i : Int)) = true := q1
              gi_wp2
              obtain ⟨f1, f2, f3⟩ := FIN.out ((V.setCell ⟨W.heap.size + 1, 0, none⟩ (.bool true)).setCell ⟨W.heap.size, 0, none⟩ (.int .i64 1)) rfl
              have HJ := hide (show (Boxed ((V.setCell ⟨W.heap.size + 1, 0, none⟩ (.bool true)).setCell ⟨W.heap.size, 0, none⟩ (.int .i64 1)) W.heap.size 3 (.int .i64 1) ∧ Boxed ((V.setCell ⟨W.heap.size + 1, 0, none⟩ (.bool true)).setCell ⟨W.heap.size, 0, none⟩ (.int .i64 1)) (W.heap.size + 1) 4 (.bool true)) ∧ (∃ ys, PRI ((V.setCell ⟨W.heap.size + 1, 0, none⟩ (.bool true)).setCell ⟨W.heap.size, 0, none⟩ (.int .i64 1)) (w2.heap.size + 1 + 1) F p ys n) ∧ Ch (fun x => (x = W.heap.size ∨ x = W.heap.size + 1) ∨ F x) V ((V.setCell ⟨W.heap.size + 1, 0, none⟩ (.bool true)).setCell ⟨W.heap.size, 0, none⟩ (.int .i64 1)) from ⟨f2, ⟨ys, f3⟩, f1⟩)
              clear FIN f1 f2 f3 y0 y1 kt g1 g1f g2 g2f
              gi_loopw [15] (fun kv wr => ∃ k : Nat, kv = .int .i64 (k : Int) ∧ k ≤ 101 ∧ Hid ((Boxed wr W.heap.size 3 (.int .i64 1) ∧ Boxed wr (W.heap.size + 1) 4 (.bool true)) ∧ (∃ ys, PRI wr (w2.heap.size + 1 + 1) F p ys n) ∧ Ch (fun x => (x = W.heap.size ∨ x = W.heap.size + 1) ∨ F x) V wr)) (fun kv _ => 101 - (intOf kv).toNat)
              case atStart => exact ⟨0, rfl, by omega, HJ⟩
              case round =>
                clear HJ
                obtain ⟨k, rfl, hk, HJ⟩ := hrel
                obtain ⟨⟨d1, d2⟩, ⟨us, hus⟩, hd⟩ := HJ.out
                have SU := HGO.out wr us hus (HC.out.trans hd (fun _ _ h => h))
                have ko := SU.bo.cell
                have kr := SU.br.cell
                have eK : IntKind.i64.wrap ((k : Int) + 1) = (k : Int) + 1 := by rw [IntKind.wrap_i64]; omega
                by_cases hko : (k : Int) < outs
                · have p1 : decide ((k : Int) < outs) = true := decide_eq_true hko
                  by_cases hk1 : k < 101
                  · have p2 : decide ((k : Int) < 101) = true := decide_eq_true (by omega)
                    clear hko
                    gi_wp2
                    refine ⟨trivial, (CallsIn.inRound lp (callsIn_wide.2 (pr_take hus))).mono ?_⟩
                    rintro e U ⟨rfl, hu, cu⟩
                    have HJ2 := hide (show (Boxed U W.heap.size 3 (.int .i64 1) ∧ Boxed U (W.heap.size + 1) 4 (.bool true)) ∧ (∃ ys, PRI U (w2.heap.size + 1 + 1) F p ys n) ∧ Ch (fun x => (x = W.heap.size ∨ x = W.heap.size + 1) ∨ F x) V U from ⟨⟨cu.box d1 (fun e => by have := hFl _ e; omega), cu.box d2 (fun e => by have := hFl _ e; omega)⟩, ⟨_, hu⟩, hd.trans cu (fun _ _ h => Or.inr h)⟩)
                    clear hu cu hus hd d1 d2 SU ko kr HJ
                    gi_wp2
                    go_roundw
                    case rel => exact ⟨k + 1, by go_num, by omega, HJ2⟩
                    case measure => simp [intOf]; omega
                  · have p2 : decide ((k : Int) < 101) = false := decide_eq_false (by omega)
                    clear hko
                    gi_wp2
                    clear hus hd d1 d2 SU ko kr p1
                    obtain ⟨wq, rfl⟩ : ∃ x, x = wr := ⟨_, rfl⟩
                    gi_loopw [16] (fun kv wr => ∃ k : Nat, kv = .int .i64 (k : Int) ∧ k ≤ 101 ∧ Hid ((Boxed wr W.heap.size 3 (.int .i64 1) ∧ Boxed wr (W.heap.size + 1) 4 (.bool true)) ∧ (∃ ys, PRI wr (w2.heap.size + 1 + 1) F p ys n) ∧ Ch (fun x => (x = W.heap.size ∨ x = W.heap.size + 1) ∨ F x) V wr)) (fun kv _ => 101 - (intOf kv).toNat)
                    case atStart => exact ⟨0, rfl, by omega, HJ⟩
                    case round =>
                      clear HJ eK
                      obtain ⟨k, rfl, hk, HJ⟩ := hrel
                      obtain ⟨⟨d1, d2⟩, ⟨us, hus⟩, hd⟩ := HJ.out
                      have SU := HGO.out wr us hus (HC.out.trans hd (fun _ _ h => h))
                      have ki := SU.bi.cell
                      rw [HIV.out] at ki
                      have eK : IntKind.i64.wrap ((k : Int) + 1) = (k : Int) + 1 := by rw [IntKind.wrap_i64]; omega
                      by_cases hko : k < li.length
                      · have p1 : decide ((k : Int) < (li.length : Int)) = true := decide_eq_true (by omega)
                        by_cases hk1 : k < 101
                        · have p2 : decide ((k : Int) < 101) = true := decide_eq_true (by omega)
                          obtain ⟨hA9, hat9⟩ := HL9.out
                          obtain ⟨rfl, hb9⟩ := hA9 (by omega)
                          obtain ⟨hx, -, -⟩ := hat9 k hko
                          rw [Nat.mul_one] at hx
                          have hx := SU.in_ hb9 hx
                          generalize li[k] = x at hx
                          have hbF : ¬ F b9 := fun e => by have := (hus.foot _ e).1; omega
                          have hA8 : ¬ F w4.heap.size := fun e => by have := hFl _ e; omega
                          have hA7 : ¬ F (w2.heap.size + 1) := fun e => by have := (hus.foot _ e).1; omega
                          have hb9w : b9 < wr.heap.size := by have := SU.fr.size; omega
                          have HG := hide (fun wq (zq : Ch F wr wq) => show wq.cell? ⟨w4.heap.size, 0, none⟩ = some (.pointer (some ⟨p, 0, none⟩)) ∧ wq.cell? ⟨w2.heap.size + 1, 0, none⟩ = some (.slice (some ⟨b9, o9, none⟩) li.length c9) ∧ wq.cell? ⟨b9, o9 + k, none⟩ = some (.int .i64 x) from ⟨Boxed.cell (t := 24) (zq.box SU.br hA8), (zq.cell (SU.bi.lt) hA7 _).trans ki, (zq.cell hb9w hbF _).trans hx⟩)
                          clear hA9 hat9
                          gi_wp2
                          refine region_round (S := Ch F wr) (by kernel_rfl) (by kernel_rfl) ?_ (Ch.drew wr) (fun zk => ?_)
                          · rintro ⟨_, _, h⟩
                            exact h
                          apply tk 0 sc0 rfl (by kernel_rfl) (fun _ _ _ h => h) zk
                          · intro wq zq
                            obtain ⟨s1, s2, s3⟩ := HG.out _ zq
                            go_simp
                            try rfl
                          go_frame
                          apply tk 1 sc1 rfl (by kernel_rfl) (fun _ _ _ h => h) zk
                          · intro wq zq
                            obtain ⟨s1, s2, s3⟩ := HG.out _ zq
                            go_simp
                            try rfl
                          go_frame
                          apply tk 2 sc2 rfl (by kernel_rfl) (fun _ _ _ h => h) zk
                          · intro wq zq
                            go_simp
                            try rfl
                          go_frame
                          apply tk 3 sc3 rfl (by kernel_rfl) (fun _ _ _ h => h) zk
                          · intro wq zq
                            go_simp
                            try rfl
                          go_frame
                          apply tk 4 sc4 rfl (by kernel_rfl) (fun _ _ _ h => h) zk
                          · intro wq zq
                            obtain ⟨s1, s2, s3⟩ := HG.out _ zq
                            go_simp
                            try rfl
                          go_frame
                          refine rd 5 sc5 rfl (by kernel_rfl) fun K hK => ?_
                          go_simp
                          refine (pr_put (hus.ch (Ch.drew (Q := fun _ => False) wr) (fun _ _ h => h)) x).mono ?_
                          rintro e U ⟨rfl, hu, cu⟩
                          have HU := hide hu
                          have HCU := hide ((Ch.drew (Q := F) wr).trans cu (fun _ _ h => h))
                          clear hu cu
                          go_wp2_with fail
                          refine hK.out _ _ ?_ (fun zk => ?_)
                          · exact HCU.out
                          clear hK K
                          try go_frame
                          refine wpAnyH_done (by kernel_rfl) ?_ _
                          have HJ2 := hide (show (Boxed U W.heap.size 3 (.int .i64 1) ∧ Boxed U (W.heap.size + 1) 4 (.bool true)) ∧ (∃ ys, PRI U (w2.heap.size + 1 + 1) F p ys n) ∧ Ch (fun x => (x = W.heap.size ∨ x = W.heap.size + 1) ∨ F x) V U from ⟨⟨HCU.out.box d1 (fun e => by have := hFl _ e; omega), HCU.out.box d2 (fun e => by have := hFl _ e; omega)⟩, ⟨_, HU.out⟩, hd.trans HCU.out (fun _ _ h => Or.inr h)⟩)
                          clear HU HCU hus hd d1 d2 SU ki HJ HG hx zk
                          gi_wp2
                          go_roundw
                          case rel => exact ⟨k + 1, by go_num, by omega, HJ2⟩
                          case measure => simp [intOf]; omega
                        · have p2 : decide ((k : Int) < 101) = false := decide_eq_false (by omega)
                          gi_wp2
                          exact ⟨keeps_of_ch hd (fun y hy => hy.elim (fun e => by omega) (fun e => by have := hFl y e; omega)), Kc.of_ch hd (fun y hy => hy.elim (fun e => by omega) (fun e => by have := hFl y e; omega)), ⟨d1, d2⟩, ⟨us, hus⟩, HC.out.trans hd (fun _ _ h => h)⟩
                      · have p1 : decide ((k : Int) < (li.length : Int)) = false := decide_eq_false (by omega)
                        have p1' : ¬ k < li.length := hko
                        gi_wp2
                        exact ⟨keeps_of_ch hd (fun y hy => hy.elim (fun e => by omega) (fun e => by have := hFl y e; omega)), Kc.of_ch hd (fun y hy => hy.elim (fun e => by omega) (fun e => by have := hFl y e; omega)), ⟨d1, d2⟩, ⟨us, hus⟩, HC.out.trans hd (fun _ _ h => h)⟩
                · have p1 : decide ((k : Int) < outs) = false := decide_eq_false hko
                  clear hko
                  gi_wp2
                  clear hus hd d1 d2 SU ko kr p1
                  obtain ⟨wq, rfl⟩ : ∃ x, x = wr := ⟨_, rfl⟩
                  gi_loopw [16] (fun kv wr => ∃ k : Nat, kv = .int .i64 (k : Int) ∧ k ≤ 101 ∧ Hid ((Boxed wr W.heap.size 3 (.int .i64 1) ∧ Boxed wr (W.heap.size + 1) 4 (.bool true)) ∧ (∃ ys, PRI wr (w2.heap.size + 1 + 1) F p ys n) ∧ Ch (fun x => (x = W.heap.size ∨ x = W.heap.size + 1) ∨ F x) V wr)) (fun kv _ => 101 - (intOf kv).toNat)
                  case atStart => exact ⟨0, rfl, by omega, HJ⟩
                  case round =>
                    clear HJ eK
                    obtain ⟨k, rfl, hk, HJ⟩ := hrel
                    obtain ⟨⟨d1, d2⟩, ⟨us, hus⟩, hd⟩ := HJ.out
                    have SU := HGO.out wr us hus (HC.out.trans hd (fun _ _ h => h))
                    have ki := SU.bi.cell
                    rw [HIV.out] at ki
                    have eK : IntKind.i64.wrap ((k : Int) + 1) = (k : Int) + 1 := by rw [IntKind.wrap_i64]; omega
                    by_cases hko : k < li.length
                    · have p1 : decide ((k : Int) < (li.length : Int)) = true := decide_eq_true (by omega)
                      by_cases hk1 : k < 101
                      · have p2 : decide ((k : Int) < 101) = true := decide_eq_true (by omega)
                        obtain ⟨hA9, hat9⟩ := HL9.out
                        obtain ⟨rfl, hb9⟩ := hA9 (by omega)
                        obtain ⟨hx, -, -⟩ := hat9 k hko
                        rw [Nat.mul_one] at hx
                        have hx := SU.in_ hb9 hx
                        generalize li[k] = x at hx
                        have hbF : ¬ F b9 := fun e => by have := (hus.foot _ e).1; omega
                        have hA8 : ¬ F w4.heap.size := fun e => by have := hFl _ e; omega
                        have hA7 : ¬ F (w2.heap.size + 1) := fun e => by have := (hus.foot _ e).1; omega
                        have hb9w : b9 < wr.heap.size := by have := SU.fr.size; omega
                        have HG := hide (fun wq (zq : Ch F wr wq) => show wq.cell? ⟨w4.heap.size, 0, none⟩ = some (.pointer (some ⟨p, 0, none⟩)) ∧ wq.cell? ⟨w2.heap.size + 1, 0, none⟩ = some (.slice (some ⟨b9, o9, none⟩) li.length c9) ∧ wq.cell? ⟨b9, o9 + k, none⟩ = some (.int .i64 x) from ⟨Boxed.cell (t := 24) (zq.box SU.br hA8), (zq.cell (SU.bi.lt) hA7 _).trans ki, (zq.cell hb9w hbF _).trans hx⟩)
                        clear hA9 hat9
                        gi_wp2
                        refine region_round (S := Ch F wr) (by kernel_rfl) (by kernel_rfl) ?_ (Ch.drew wr) (fun zk => ?_)
                        · rintro ⟨_, _, h⟩
                          exact h
                        apply tk 0 sc0 rfl (by kernel_rfl) (fun _ _ _ h => h) zk
                        · intro wq zq
                          obtain ⟨s1, s2, s3⟩ := HG.out _ zq
                          go_simp
                          try rfl
                        go_frame
                        apply tk 1 sc1 rfl (by kernel_rfl) (fun _ _ _ h => h) zk
                        · intro wq zq
                          obtain ⟨s1, s2, s3⟩ := HG.out _ zq
                          go_simp
                          try rfl
                        go_frame
                        apply tk 2 sc2 rfl (by kernel_rfl) (fun _ _ _ h => h) zk
                        · intro wq zq
                          go_simp
                          try rfl
                        go_frame
                        apply tk 3 sc3 rfl (by kernel_rfl) (fun _ _ _ h => h) zk
                        · intro wq zq
                          go_simp
                          try rfl
                        go_frame
                        apply tk 4 sc4 rfl (by kernel_rfl) (fun _ _ _ h => h) zk
                        · intro wq zq
                          obtain ⟨s1, s2, s3⟩ := HG.out _ zq
                          go_simp
                          try rfl
                        go_frame
                        refine rd 5 sc5 rfl (by kernel_rfl) fun K hK => ?_
                        go_simp
                        refine (pr_put (hus.ch (Ch.drew (Q := fun _ => False) wr) (fun _ _ h => h)) x).mono ?_
                        rintro e U ⟨rfl, hu, cu⟩
                        have HU := hide hu
                        have HCU := hide ((Ch.drew (Q := F) wr).trans cu (fun _ _ h => h))
                        clear hu cu
                        go_wp2_with fail
                        refine hK.out _ _ ?_ (fun zk => ?_)
                        · exact HCU.out
                        clear hK K
                        try go_frame
                        refine wpAnyH_done (by kernel_rfl) ?_ _
                        have HJ2 := hide (show (Boxed U W.heap.size 3 (.int .i64 1) ∧ Boxed U (W.heap.size + 1) 4 (.bool true)) ∧ (∃ ys, PRI U (w2.heap.size + 1 + 1) F p ys n) ∧ Ch (fun x => (x = W.heap.size ∨ x = W.heap.size + 1) ∨ F x) V U from ⟨⟨HCU.out.box d1 (fun e => by have := hFl _ e; omega), HCU.out.box d2 (fun e => by have := hFl _ e; omega)⟩, ⟨_, HU.out⟩, hd.trans HCU.out (fun _ _ h => Or.inr h)⟩)
                        clear HU HCU hus hd d1 d2 SU ki HJ HG hx zk
                        gi_wp2
                        go_roundw
                        case rel => exact ⟨k + 1, by go_num, by omega, HJ2⟩
                        case measure => simp [intOf]; omega
                      · have p2 : decide ((k : Int) < 101) = false := decide_eq_false (by omega)
                        gi_wp2
                        exact ⟨keeps_of_ch hd (fun y hy => hy.elim (fun e => by omega) (fun e => by have := hFl y e; omega)), Kc.of_ch hd (fun y hy => hy.elim (fun e => by omega) (fun e => by have := hFl y e; omega)), ⟨d1, d2⟩, ⟨us, hus⟩, HC.out.trans hd (fun _ _ h => h)⟩
                    · have p1 : decide ((k : Int) < (li.length : Int)) = false := decide_eq_false (by omega)
                      have p1' : ¬ k < li.length := hko
                      gi_wp2
                      exact ⟨keeps_of_ch hd (fun y hy => hy.elim (fun e => by omega) (fun e => by have := hFl y e; omega)), Kc.of_ch hd (fun y hy => hy.elim (fun e => by omega) (fun e => by have := hFl y e; omega)), ⟨d1, d2⟩, ⟨us, hus⟩, HC.out.trans hd (fun _ _ h => h)⟩
            · have qj : ((j : Int) + 1 == 1) = false := by simp; omega
              clear hj0
              gi_wp2
              obtain ⟨f1, f2, f3⟩ := FIN.out _ rfl
              exact ⟨keeps_of_ch f1 (fun y hy => hy.elim (fun e => by omega) (fun e => by have := hFl y e; omega)), Kc.of_ch f1 (fun y hy => hy.elim (fun e => by omega) (fun e => by have := hFl y e; omega)), f2, ⟨ys, f3⟩, HC.out.trans f1 (fun _ _ h => h)⟩
          case done =>
            rintro D V hD ⟨⟨b1, b2⟩, ⟨ys, hys⟩, hc⟩ hK
            rw [List.length_map, hTl] at b1
            refine HK2.out _ _ ?_
            clear HK2
            rw [HT.out]
            have SV := HGO.out V ys hys hc
            have g1 := b1.cell
            have g2 := b2.cell
            have kt := SV.bt.cell
            have HF := hide SV.fr
            have HK := hide hK
            clear hK SV hys hc
            have hwD : w.heap.size ≤ D := by have := S3.fr.size; omega
            go_wp2_with fail
            refine ⟨by simp, .inl ⟨_, _, rfl, run_takeDeferred HK.out, ?_⟩⟩
            exact ⟨_, results_tmp rfl _ _ _, rfl, HF.out.trans (belowK_b (w := w) (Nat.le_refl _) V D _ _ hwD HK.out rfl rfl)⟩
          case stop =>
            rintro D c j V hD hp h hK
            exact h.elim
      · have q1 : decide ((i : Int) < (l.length : Int)) = false := decide_eq_false (by omega)
        have q1' : ¬ i < l.length := hlt
        go_wp2_with fail
        go_quiet (fail)
        have HQW := hide (HI.out.1.quiet (Ch.drewN (Q := fun _ => False) wr nq))
        have HSZ := hide (show w6.heap.size ≤ (wr.drewN nq).heap.size from HI.out.2)
        clear kt kr HQ HI
        generalize wr.drewN nq = W at HQW HSZ ⊢
        have hTl : (l.take i).length = i := by rw [List.length_take]; omega
        generalize l.take i = T at HQW hTl
        have hS := HQW.out
        obtain ⟨W1, hW1⟩ : ∃ W1, (W.alloc (.cells #[.int .i64 0] 3)).alloc (.cells #[.bool true] 4) = W1 := ⟨_, rfl⟩
        have c1 : Ch (fun _ => False) W W1 := by rw [← hW1]; exact (Ch.alloc _ _).trans (Ch.alloc _ _) (fun _ _ h => h)
        have n1 : Boxed W1 W.heap.size 3 (.int .i64 ((0 : Nat) : Int)) := by rw [← hW1]; exact (Boxed.new _ _ _).alloc _
        have o1 : Boxed W1 (W.heap.size + 1) 4 (.bool true) := by rw [← hW1]; have := Boxed.new (W.alloc (.cells #[.int .i64 0] 3)) 4 (.bool true); rwa [World.size_alloc] at this
        have kr : ∀ o o', ((W.alloc o).alloc o').cell? ⟨w4.heap.size, 0, none⟩ = some (.pointer (some ⟨p, 0, none⟩)) := fun o o' => ((hS.br.alloc o).alloc o').cell
        have HW1 := hide hW1
        have H1 := hide (And.intro (hS.quiet c1) (And.intro n1 o1))
        have hrl : ∀ g, (Value.slice va i vc).ownBlock = some g → g < W.heap.size := fun g hg => (own_in hS.row hg).2.1
        have HRL := hide hrl
        have hsw := hS.bt.lt
        have hFl := hS.lF
        clear hW1 c1 n1 o1 hS HQW hrl
        go_wp2_with fail
        rw [HW1.out]
        clear HW1 kr
        refine (all_is W1 (.pointer (some ⟨p, 0, none⟩)) rfl).mono ?_
        rintro e W3 ⟨rfl, hW3⟩
        have c3 : Ch (fun _ => False) W1 W3 := by rw [hW3]; exact Ch.alloc _ _
        have bx3 : Boxed W3 W1.heap.size 24 (.pointer (some ⟨p, 0, none⟩)) := by rw [hW3]; exact Boxed.new _ _ _
        have S3 := H1.out.1.quiet c3
        have n3 : Boxed W3 W.heap.size 3 (.int .i64 ((0 : Nat) : Int)) := c3.box H1.out.2.1 (fun h => h)
        have o3 : Boxed W3 (W.heap.size + 1) 4 (.bool true) := c3.box H1.out.2.2 (fun h => h)
        have ho1 : W.heap.size + 1 < W1.heap.size := H1.out.2.2.lt
        have ho3 : W1.heap.size < W3.heap.size := bx3.lt
        have hlN : w4.heap.size + 1 + 1 ≤ W.heap.size := Nat.le_trans HN46.out HSZ.out
        clear hW3 c3 H1
        go_wp2_with fail
        rename_i K2 hK2
        have HK2 := hide hK2
        clear hK2
        refine (wpIn_wide (n := 20)).1 ?_
        refine name_tmps fun tm htm => ?_
        have HT := hide htm
        clear htm
        have hgo : ∀ (V : World) (ys : List Int), PRI V (w2.heap.size + 1 + 1) F p ys n → Ch (fun x => (x = W.heap.size ∨ x = W.heap.size + 1) ∨ F x) W3 V → Sn w w2.heap.size (w2.heap.size + 1) w4.heap.size (w4.heap.size + 1) (w4.heap.size + 1 + 1) F p n outs iv ys T (.slice va i vc) V := fun V ys h1 h2 => S3.go h1 h2 (fun x hx => hx.elim (fun e => Or.inr ⟨by omega, fun hg => by have := HRL.out x hg; omega⟩) Or.inl)
        have HGO := hide hgo
        clear hgo
        refine range_is (by decide) (gf := 27) (lb := #[.pointer (some ⟨W1.heap.size, 0, none⟩)]) (by rw [HT.out]; rfl) (enters_of Try.func27 (by kernel_rfl) rfl) (stops_is 19 (by decide) bx3 S3.pr) (fun h k => h.trans k) (fun W l o o' _ h hc _ => Kc.put W l o o' h hc) (fun i h => by simp)
          (fun j V => (Boxed V W.heap.size 3 (.int .i64 (j : Int)) ∧ Boxed V (W.heap.size + 1) 4 (.bool true)) ∧ (∃ ys, PRI V (w2.heap.size + 1 + 1) F p ys n) ∧ Ch (fun x => (x = W.heap.size ∨ x = W.heap.size + 1) ∨ F x) W3 V)
          (fun _ _ _ => False)
          (OwnFrom.and (OwnFrom.and (Own.from (boxed_own _ _ _) _) (Own.from (boxed_own _ _ _) _)) (OwnFrom.and (pri_own (fun x hx => by have := hFl x hx; omega)) (ownFrom_ch (Nat.le_refl _))))
          (fun c => ownFrom_pure _ _)
          ⟨⟨n3, o3⟩, ⟨T, S3.pr⟩, Ch.refl _ _⟩
          (fun j a' V => a' = { tmps := (tm.setIfInBounds 76 (.int .i64 (T[j]?.getD 0))).setIfInBounds 14 (.int .i64 (T[j]?.getD 0)), defers := [] })
          (fun j a' => ownFrom_pure _ _) ?assign ?body ?done ?stop
        case assign =>
          clear HK2
          rintro lp j hj V K hI hK
          have hj' : j < T.length := by simpa using hj
          obtain ⟨z, hz⟩ : ∃ z, T[j] = z := ⟨_, rfl⟩
          rw [List.getElem?_eq_getElem hj', hz] at hK
          rw [List.getElem_map, hz]
          have HI := hide (hK _ V (keeps_of_ch (Ch.refl (fun _ => False) V) (fun _ h => h.elim)) (Kc.refl _ _) hI rfl)
          rw [HT.out] at HI ⊢
          clear hK
          gi_wp2
          exact HI.out
        case body =>
          clear HK2
          rintro lp j hj a' V hlp ⟨r, hr⟩ ⟨⟨b1, b2⟩, ⟨ys, hys⟩, hc⟩ rfl
          have hj' : j < T.length := by simpa using hj
          have SV := HGO.out V ys hys hc
          rw [List.getElem?_eq_getElem hj', HT.out]
          obtain ⟨g, cc, cur, hsl, -, -, hgl, -, -, hcell⟩ := SV.row.at inF_len (by omega)
          have y0 := hcell j hj' 0 (.int .i64 T[j]) rfl
          rw [Nat.mul_one, Nat.add_zero] at y0
          rw [hTl] at hsl
          obtain ⟨z, hz⟩ : ∃ z, T[j] = z := ⟨_, rfl⟩
          rw [hz] at y0 ⊢
          have kt := SV.bt.cell
          rw [hsl] at kt
          have hgne : ¬ g = W.heap.size + 1 ∧ ¬ g = W.heap.size := by have := HRL.out g (by rw [hsl]; rfl); omega
          have y1 : (V.setCell ⟨W.heap.size + 1, 0, none⟩ (.bool true)).cell? ⟨g, j, none⟩ = some (.int .i64 z) := ((Ch.set (Q := fun x => x = W.heap.size + 1) V rfl 0 (.bool true)).cell (b := g) hgl hgne.1 j).trans y0
          have g1 := b1.cell
          have g1f := b1.frozen
          have g2 := b2.cell
          have g2f := b2.frozen
          have q1 : decide ((j : Int) < (i : Int)) = true := decide_eq_true (by omega)
          have q1' : j < i := by omega
          have eJ : IntKind.i64.wrap ((j : Int) + 1) = (j : Int) + 1 := by rw [IntKind.wrap_i64]; omega
          have HC := hide hc
          have HY := hide hys
          have HSV := hide SV
          clear hcell hz hc hys SV hsl
          have FIN : ∀ V7, V7 = (V.setCell ⟨W.heap.size + 1, 0, none⟩ (.bool true)).setCell ⟨W.heap.size, 0, none⟩ (.int .i64 ((j : Int) + 1)) →
              Ch (fun x => (x = W.heap.size ∨ x = W.heap.size + 1) ∨ F x) V V7 ∧ (Boxed V7 W.heap.size 3 (.int .i64 ((j + 1 : Nat) : Int)) ∧ Boxed V7 (W.heap.size + 1) 4 (.bool true)) ∧ PRI V7 (w2.heap.size + 1 + 1) F p ys n := by
            rintro V7 rfl
            have q1 := Ch.set (Q := fun x => x = W.heap.size ∨ x = W.heap.size + 1) V (Or.inr rfl) 0 (.bool true)
            have q2 := Ch.set (Q := fun x => x = W.heap.size ∨ x = W.heap.size + 1) (V.setCell ⟨W.heap.size + 1, 0, none⟩ (.bool true)) (Or.inl rfl) 0 (.int .i64 ((j : Int) + 1))
            have q3 := q1.trans q2 (fun _ _ h => h)
            exact ⟨q3.mono (fun _ _ h => Or.inl h), ⟨(b1.other (by omega) (.bool true)).set _, (b2.set _).other (by omega) _⟩, HY.out.ch q3 (fun x hx e => by have := hFl x hx; omega)⟩
          replace FIN := hide FIN
          by_cases hj0 : j = 0
          · subst hj0
            have qj : (((0 : Nat) : Int) + 1 == 1) = true := rfl
            have q0z : decide (((0 : Nat) : Int) < (i : Int)) = true := q1
            gi_wp2
            obtain ⟨f1, f2, f3⟩ := FIN.out ((V.setCell ⟨W.heap.size + 1, 0, none⟩ (.bool true)).setCell ⟨W.heap.size, 0, none⟩ (.int .i64 1)) rfl
            have HJ := hide (show (Boxed ((V.setCell ⟨W.heap.size + 1, 0, none⟩ (.bool true)).setCell ⟨W.heap.size, 0, none⟩ (.int .i64 1)) W.heap.size 3 (.int .i64 1) ∧ Boxed ((V.setCell ⟨W.heap.size + 1, 0, none⟩ (.bool true)).setCell ⟨W.heap.size, 0, none⟩ (.int .i64 1)) (W.heap.size + 1) 4 (.bool true)) ∧ (∃ ys, PRI ((V.setCell ⟨W.heap.size + 1, 0, none⟩ (.bool true)).setCell ⟨W.heap.size, 0, none⟩ (.int .i64 1)) (w2.heap.size + 1 + 1) F p ys n) ∧ Ch (fun x => (x = W.heap.size ∨ x = W.heap.size + 1) ∨ F x) V ((V.setCell ⟨W.heap.size + 1, 0, none⟩ (.bool true)).setCell ⟨W.heap.size, 0, none⟩ (.int .i64 1)) from ⟨f2, ⟨ys, f3⟩, f1⟩)
            clear FIN f1 f2 f3 y0 y1 kt g1 g1f g2 g2f
            gi_loopw [15] (fun kv wr => ∃ k : Nat, kv = .int .i64 (k : Int) ∧ k ≤ 101 ∧ Hid ((Boxed wr W.heap.size 3 (.int .i64 1) ∧ Boxed wr (W.heap.size + 1) 4 (.bool true)) ∧ (∃ ys, PRI wr (w2.heap.size + 1 + 1) F p ys n) ∧ Ch (fun x => (x = W.heap.size ∨ x = W.heap.size + 1) ∨ F x) V wr)) (fun kv _ => 101 - (intOf kv).toNat)
            case atStart => exact ⟨0, rfl, by omega, HJ⟩
            case round =>
              clear HJ
              obtain ⟨k, rfl, hk, HJ⟩ := hrel
              obtain ⟨⟨d1, d2⟩, ⟨us, hus⟩, hd⟩ := HJ.out
              have SU := HGO.out wr us hus (HC.out.trans hd (fun _ _ h => h))
              have ko := SU.bo.cell
              have kr := SU.br.cell
              have eK : IntKind.i64.wrap ((k : Int) + 1) = (k : Int) + 1 := by rw [IntKind.wrap_i64]; omega
              by_cases hko : (k : Int) < outs
              · have p1 : decide ((k : Int) < outs) = true := decide_eq_true hko
                by_cases hk1 : k < 101
                · have p2 : decide ((k : Int) < 101) = true := decide_eq_true (by omega)
                  clear hko
                  gi_wp2
                  refine ⟨trivial, (CallsIn.inRound lp (callsIn_wide.2 (pr_take hus))).mono ?_⟩
                  rintro e U ⟨rfl, hu, cu⟩
                  have HJ2 := hide (show (Boxed U W.heap.size 3 (.int .i64 1) ∧ Boxed U (W.heap.size + 1) 4 (.bool true)) ∧ (∃ ys, PRI U (w2.heap.size + 1 + 1) F p ys n) ∧ Ch (fun x => (x = W.heap.size ∨ x = W.heap.size + 1) ∨ F x) V U from ⟨⟨cu.box d1 (fun e => by have := hFl _ e; omega), cu.box d2 (fun e => by have := hFl _ e; omega)⟩, ⟨_, hu⟩, hd.trans cu (fun _ _ h => Or.inr h)⟩)
                  clear hu cu hus hd d1 d2 SU ko kr HJ
                  gi_wp2
                  go_roundw
                  case rel => exact ⟨k + 1, by go_num, by omega, HJ2⟩
                  case measure => simp [intOf]; omega
                · have p2 : decide ((k : Int) < 101) = false := decide_eq_false (by omega)
                  clear hko
                  gi_wp2
                  clear hus hd d1 d2 SU ko kr p1
                  obtain ⟨wq, rfl⟩ : ∃ x, x = wr := ⟨_, rfl⟩
                  gi_loopw [16] (fun kv wr => ∃ k : Nat, kv = .int .i64 (k : Int) ∧ k ≤ 101 ∧ Hid ((Boxed wr W.heap.size 3 (.int .i64 1) ∧ Boxed wr (W.heap.size + 1) 4 (.bool true)) ∧ (∃ ys, PRI wr (w2.heap.size + 1 + 1) F p ys n) ∧ Ch (fun x => (x = W.heap.size ∨ x = W.heap.size + 1) ∨ F x) V wr)) (fun kv _ => 101 - (intOf kv).toNat)
                  case atStart => exact ⟨0, rfl, by omega, HJ⟩
                  case round =>
                    clear HJ eK
                    obtain ⟨k, rfl, hk, HJ⟩ := hrel
                    obtain ⟨⟨d1, d2⟩, ⟨us, hus⟩, hd⟩ := HJ.out
                    have SU := HGO.out wr us hus (HC.out.trans hd (fun _ _ h => h))
                    have ki := SU.bi.cell
                    rw [HIV.out] at ki
                    have eK : IntKind.i64.wrap ((k : Int) + 1) = (k : Int) + 1 := by rw [IntKind.wrap_i64]; omega
                    by_cases hko : k < li.length
                    · have p1 : decide ((k : Int) < (li.length : Int)) = true := decide_eq_true (by omega)
                      by_cases hk1 : k < 101
                      · have p2 : decide ((k : Int) < 101) = true := decide_eq_true (by omega)
                        obtain ⟨hA9, hat9⟩ := HL9.out
                        obtain ⟨rfl, hb9⟩ := hA9 (by omega)
                        obtain ⟨hx, -, -⟩ := hat9 k hko
                        rw [Nat.mul_one] at hx
                        have hx := SU.in_ hb9 hx
                        generalize li[k] = x at hx
                        have hbF : ¬ F b9 := fun e => by have := (hus.foot _ e).1; omega
                        have hA8 : ¬ F w4.heap.size := fun e => by have := hFl _ e; omega
                        have hA7 : ¬ F (w2.heap.size + 1) := fun e => by have := (hus.foot _ e).1; omega
                        have hb9w : b9 < wr.heap.size := by have := SU.fr.size; omega
                        have HG := hide (fun wq (zq : Ch F wr wq) => show wq.cell? ⟨w4.heap.size, 0, none⟩ = some (.pointer (some ⟨p, 0, none⟩)) ∧ wq.cell? ⟨w2.heap.size + 1, 0, none⟩ = some (.slice (some ⟨b9, o9, none⟩) li.length c9) ∧ wq.cell? ⟨b9, o9 + k, none⟩ = some (.int .i64 x) from ⟨Boxed.cell (t := 24) (zq.box SU.br hA8), (zq.cell (SU.bi.lt) hA7 _).trans ki, (zq.cell hb9w hbF _).trans hx⟩)
                        clear hA9 hat9
                        gi_wp2
                        refine region_round (S := Ch F wr) (by kernel_rfl) (by kernel_rfl) ?_ (Ch.drew wr) (fun zk => ?_)
                        · rintro ⟨_, _, h⟩
                          exact h
                        apply tk 0 sc0 rfl (by kernel_rfl) (fun _ _ _ h => h) zk
                        · intro wq zq
                          obtain ⟨s1, s2, s3⟩ := HG.out _ zq
                          go_simp
                          try rfl
                        go_frame
                        apply tk 1 sc1 rfl (by kernel_rfl) (fun _ _ _ h => h) zk
                        · intro wq zq
                          obtain ⟨s1, s2, s3⟩ := HG.out _ zq
                          go_simp
                          try rfl
                        go_frame
                        apply tk 2 sc2 rfl (by kernel_rfl) (fun _ _ _ h => h) zk
                        · intro wq zq
                          go_simp
                          try rfl
                        go_frame
                        apply tk 3 sc3 rfl (by kernel_rfl) (fun _ _ _ h => h) zk
                        · intro wq zq
                          go_simp
                          try rfl
                        go_frame
                        apply tk 4 sc4 rfl (by kernel_rfl) (fun _ _ _ h => h) zk
                        · intro wq zq
                          obtain ⟨s1, s2, s3⟩ := HG.out _ zq
                          go_simp
                          try rfl
                        go_frame
                        refine rd 5 sc5 rfl (by kernel_rfl) fun K hK => ?_
                        go_simp
                        refine (pr_put (hus.ch (Ch.drew (Q := fun _ => False) wr) (fun _ _ h => h)) x).mono ?_
                        rintro e U ⟨rfl, hu, cu⟩
                        have HU := hide hu
                        have HCU := hide ((Ch.drew (Q := F) wr).trans cu (fun _ _ h => h))
                        clear hu cu
                        go_wp2_with fail
                        refine hK.out _ _ ?_ (fun zk => ?_)
                        · exact HCU.out
                        clear hK K
                        try go_frame
                        refine wpAnyH_done (by kernel_rfl) ?_ _
                        have HJ2 := hide (show (Boxed U W.heap.size 3 (.int .i64 1) ∧ Boxed U (W.heap.size + 1) 4 (.bool true)) ∧ (∃ ys, PRI U (w2.heap.size + 1 + 1) F p ys n) ∧ Ch (fun x => (x = W.heap.size ∨ x = W.heap.size + 1) ∨ F x) V U from ⟨⟨HCU.out.box d1 (fun e => by have := hFl _ e; omega), HCU.out.box d2 (fun e => by have := hFl _ e; omega)⟩, ⟨_, HU.out⟩, hd.trans HCU.out (fun _ _ h => Or.inr h)⟩)
                        clear HU HCU hus hd d1 d2 SU ki HJ HG hx zk
                        gi_wp2
                        go_roundw
                        case rel => exact ⟨k + 1, by go_num, by omega, HJ2⟩
                        case measure => simp [intOf]; omega
                      · have p2 : decide ((k : Int) < 101) = false := decide_eq_false (by omega)
                        gi_wp2
                        exact ⟨keeps_of_ch hd (fun y hy => hy.elim (fun e => by omega) (fun e => by have := hFl y e; omega)), Kc.of_ch hd (fun y hy => hy.elim (fun e => by omega) (fun e => by have := hFl y e; omega)), ⟨d1, d2⟩, ⟨us, hus⟩, HC.out.trans hd (fun _ _ h => h)⟩
                    · have p1 : decide ((k : Int) < (li.length : Int)) = false := decide_eq_false (by omega)
                      have p1' : ¬ k < li.length := hko
                      gi_wp2
                      exact ⟨keeps_of_ch hd (fun y hy => hy.elim (fun e => by omega) (fun e => by have := hFl y e; omega)), Kc.of_ch hd (fun y hy => hy.elim (fun e => by omega) (fun e => by have := hFl y e; omega)), ⟨d1, d2⟩, ⟨us, hus⟩, HC.out.trans hd (fun _ _ h => h)⟩
              · have p1 : decide ((k : Int) < outs) = false := decide_eq_false hko
                clear hko
                gi_wp2
                clear hus hd d1 d2 SU ko kr p1
                obtain ⟨wq, rfl⟩ : ∃ x, x = wr := ⟨_, rfl⟩
                gi_loopw [16] (fun kv wr => ∃ k : Nat, kv = .int .i64 (k : Int) ∧ k ≤ 101 ∧ Hid ((Boxed wr W.heap.size 3 (.int .i64 1) ∧ Boxed wr (W.heap.size + 1) 4 (.bool true)) ∧ (∃ ys, PRI wr (w2.heap.size + 1 + 1) F p ys n) ∧ Ch (fun x => (x = W.heap.size ∨ x = W.heap.size + 1) ∨ F x) V wr)) (fun kv _ => 101 - (intOf kv).toNat)
                case atStart => exact ⟨0, rfl, by omega, HJ⟩
                case round =>
                  clear HJ eK
                  obtain ⟨k, rfl, hk, HJ⟩ := hrel
                  obtain ⟨⟨d1, d2⟩, ⟨us, hus⟩, hd⟩ := HJ.out
                  have SU := HGO.out wr us hus (HC.out.trans hd (fun _ _ h => h))
                  have ki := SU.bi.cell
                  rw [HIV.out] at ki
                  have eK : IntKind.i64.wrap ((k : Int) + 1) = (k : Int) + 1 := by rw [IntKind.wrap_i64]; omega
                  by_cases hko : k < li.length
                  · have p1 : decide ((k : Int) < (li.length : Int)) = true := decide_eq_true (by omega)
                    by_cases hk1 : k < 101
                    · have p2 : decide ((k : Int) < 101) = true := decide_eq_true (by omega)
                      obtain ⟨hA9, hat9⟩ := HL9.out
                      obtain ⟨rfl, hb9⟩ := hA9 (by omega)
                      obtain ⟨hx, -, -⟩ := hat9 k hko
                      rw [Nat.mul_one] at hx
                      have hx := SU.in_ hb9 hx
                      generalize li[k] = x at hx
                      have hbF : ¬ F b9 := fun e => by have := (hus.foot _ e).1; omega
                      have hA8 : ¬ F w4.heap.size := fun e => by have := hFl _ e; omega
                      have hA7 : ¬ F (w2.heap.size + 1) := fun e => by have := (hus.foot _ e).1; omega
                      have hb9w : b9 < wr.heap.size := by have := SU.fr.size; omega
                      have HG := hide (fun wq (zq : Ch F wr wq) => show wq.cell? ⟨w4.heap.size, 0, none⟩ = some (.pointer (some ⟨p, 0, none⟩)) ∧ wq.cell? ⟨w2.heap.size + 1, 0, none⟩ = some (.slice (some ⟨b9, o9, none⟩) li.length c9) ∧ wq.cell? ⟨b9, o9 + k, none⟩ = some (.int .i64 x) from ⟨Boxed.cell (t := 24) (zq.box SU.br hA8), (zq.cell (SU.bi.lt) hA7 _).trans ki, (zq.cell hb9w hbF _).trans hx⟩)
                      clear hA9 hat9
                      gi_wp2
                      refine region_round (S := Ch F wr) (by kernel_rfl) (by kernel_rfl) ?_ (Ch.drew wr) (fun zk => ?_)
                      · rintro ⟨_, _, h⟩
                        exact h
                      apply tk 0 sc0 rfl (by kernel_rfl) (fun _ _ _ h => h) zk
                      · intro wq zq
                        obtain ⟨s1, s2, s3⟩ := HG.out _ zq
                        go_simp
                        try rfl
                      go_frame
                      apply tk 1 sc1 rfl (by kernel_rfl) (fun _ _ _ h => h) zk
                      · intro wq zq
                        obtain ⟨s1, s2, s3⟩ := HG.out _ zq
                        go_simp
                        try rfl
                      go_frame
                      apply tk 2 sc2 rfl (by kernel_rfl) (fun _ _ _ h => h) zk
                      · intro wq zq
                        go_simp
                        try rfl
                      go_frame
                      apply tk 3 sc3 rfl (by kernel_rfl) (fun _ _ _ h => h) zk
                      · intro wq zq
                        go_simp
                        try rfl
                      go_frame
                      apply tk 4 sc4 rfl (by kernel_rfl) (fun _ _ _ h => h) zk
                      · intro wq zq
                        obtain ⟨s1, s2, s3⟩ := HG.out _ zq
                        go_simp
                        try rfl
                      go_frame
                      refine rd 5 sc5 rfl (by kernel_rfl) fun K hK => ?_
                      go_simp
                      refine (pr_put (hus.ch (Ch.drew (Q := fun _ => False) wr) (fun _ _ h => h)) x).mono ?_
                      rintro e U ⟨rfl, hu, cu⟩
                      have HU := hide hu
                      have HCU := hide ((Ch.drew (Q := F) wr).trans cu (fun _ _ h => h))
                      clear hu cu
                      go_wp2_with fail
                      refine hK.out _ _ ?_ (fun zk => ?_)
                      · exact HCU.out
                      clear hK K
                      try go_frame
                      refine wpAnyH_done (by kernel_rfl) ?_ _
                      have HJ2 := hide (show (Boxed U W.heap.size 3 (.int .i64 1) ∧ Boxed U (W.heap.size + 1) 4 (.bool true)) ∧ (∃ ys, PRI U (w2.heap.size + 1 + 1) F p ys n) ∧ Ch (fun x => (x = W.heap.size ∨ x = W.heap.size + 1) ∨ F x) V U from ⟨⟨HCU.out.box d1 (fun e => by have := hFl _ e; omega), HCU.out.box d2 (fun e => by have := hFl _ e; omega)⟩, ⟨_, HU.out⟩, hd.trans HCU.out (fun _ _ h => Or.inr h)⟩)
                      clear HU HCU hus hd d1 d2 SU ki HJ HG hx zk
                      gi_wp2
                      go_roundw
                      case rel => exact ⟨k + 1, by go_num, by omega, HJ2⟩
                      case measure => simp [intOf]; omega
                    · have p2 : decide ((k : Int) < 101) = false := decide_eq_false (by omega)
                      gi_wp2
                      exact ⟨keeps_of_ch hd (fun y hy => hy.elim (fun e => by omega) (fun e => by have := hFl y e; omega)), Kc.of_ch hd (fun y hy => hy.elim (fun e => by omega) (fun e => by have := hFl y e; omega)), ⟨d1, d2⟩, ⟨us, hus⟩, HC.out.trans hd (fun _ _ h => h)⟩
                  · have p1 : decide ((k : Int) < (li.length : Int)) = false := decide_eq_false (by omega)
                    have p1' : ¬ k < li.length := hko
                    gi_wp2
                    exact ⟨keeps_of_ch hd (fun y hy => hy.elim (fun e => by omega) (fun e => by have := hFl y e; omega)), Kc.of_ch hd (fun y hy => hy.elim (fun e => by omega) (fun e => by have := hFl y e; omega)), ⟨d1, d2⟩, ⟨us, hus⟩, HC.out.trans hd (fun _ _ h => h)⟩
          · have qj : ((j : Int) + 1 == 1) = false := by simp; omega
            clear hj0
            gi_wp2
            obtain ⟨f1, f2, f3⟩ := FIN.out _ rfl
            exact ⟨keeps_of_ch f1 (fun y hy => hy.elim (fun e => by omega) (fun e => by have := hFl y e; omega)), Kc.of_ch f1 (fun y hy => hy.elim (fun e => by omega) (fun e => by have := hFl y e; omega)), f2, ⟨ys, f3⟩, HC.out.trans f1 (fun _ _ h => h)⟩
        case done =>
          rintro D V hD ⟨⟨b1, b2⟩, ⟨ys, hys⟩, hc⟩ hK
          rw [List.length_map, hTl] at b1
          refine HK2.out _ _ ?_
          clear HK2
          rw [HT.out]
          have SV := HGO.out V ys hys hc
          have g1 := b1.cell
          have g2 := b2.cell
          have kt := SV.bt.cell
          have HF := hide SV.fr
          have HK := hide hK
          clear hK SV hys hc
          have hwD : w.heap.size ≤ D := by have := S3.fr.size; omega
          go_wp2_with fail
          refine ⟨by simp, .inl ⟨_, _, rfl, run_takeDeferred HK.out, ?_⟩⟩
          exact ⟨_, results_tmp rfl _ _ _, rfl, HF.out.trans (belowK_b (w := w) (Nat.le_refl _) V D _ _ hwD HK.out rfl rfl)⟩
        case stop =>
          rintro D c j V hD hp h hK
          exact h.elim

end Go.Proofs.Ytfheeifllpnjaaa
