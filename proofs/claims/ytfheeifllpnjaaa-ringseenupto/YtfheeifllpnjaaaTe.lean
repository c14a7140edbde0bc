/- Layer 12: the law's 'told': ranges over All against the document's ring. -/
import Derived.Test.YtfheeifllpnjaaaDb
namespace Go.Proofs.Ytfheeifllpnjaaa
open Go.RowKit Go.Shelf

attribute [local go_sem] Oper.semAt_some

abbrev tq0 : Oper := { dst := some 96, op := Op.load 4 (Operand.tmp 9), type := 4, pos := "law.go:64", after := #[], guard := none }
abbrev tq1 : Oper := { dst := some 97, op := Op.move (Operand.tmp 96), type := 4, pos := "law.go:64", after := #[{ on := 0, ground := Ground.data }], guard := none }
abbrev tq2 : Oper := { dst := some 98, op := Op.load 3 (Operand.tmp 17), type := 3, pos := "law.go:64", after := #[{ on := 1, ground := Ground.guard }], guard := some (1, true) }
abbrev tq3 : Oper := { dst := some 99, op := Op.load 28 (Operand.tmp 4), type := 28, pos := "law.go:64", after := #[{ on := 1, ground := Ground.guard }], guard := some (1, true) }
abbrev tq4 : Oper := { dst := some 100, op := Op.call { callee := Callee.value (Operand.func 17), args := #[Operand.tmp 99], argTypes := #[28] }, type := 3, pos := "law.go:64", after := #[{ on := 3, ground := Ground.data }, { on := 1, ground := Ground.chain }, { on := 1, ground := Ground.guard }], guard := some (1, true) }
abbrev tq5 : Oper := { dst := some 101, op := Op.binOp BinOp.eql 3 (Operand.tmp 98) (Operand.tmp 100) 3, type := 4, pos := "law.go:64", after := #[{ on := 2, ground := Ground.data }, { on := 4, ground := Ground.data }, { on := 1, ground := Ground.guard }], guard := some (1, true) }
abbrev tq6 : Oper := { dst := some 102, op := Op.pick (Operand.tmp 97) (Operand.tmp 101) (Operand.const (Value.bool false)), type := 4, pos := "law.go:64", after := #[{ on := 1, ground := Ground.data }, { on := 5, ground := Ground.data }], guard := none }
abbrev tq7 : Oper := { dst := none, op := Op.store 4 (Operand.tmp 9) (Operand.tmp 102), type := 0, pos := "law.go:64", after := #[{ on := 6, ground := Ground.data }, { on := 4, ground := Ground.chain }, { on := 0, ground := Ground.phase }, { on := 1, ground := Ground.phase }, { on := 2, ground := Ground.phase }, { on := 3, ground := Ground.phase }, { on := 4, ground := Ground.phase }, { on := 5, ground := Ground.phase }, { on := 6, ground := Ground.phase }], guard := none }

theorem atX_at {xs : List Int} {i : Nat} (h : i < xs.length) : atX xs (i : Int) = xs[i] ∧ atB xs (i : Int) = true := by
  have hb : atB xs (i : Int) = true := by
    unfold atB
    rw [decide_eq_true (by omega), decide_eq_true (by omega)]
    rfl
  refine ⟨?_, hb⟩
  unfold atX
  rw [if_pos hb, show (i : Int).toNat = i from rfl, List.getElem?_eq_getElem h]
  rfl

theorem store_new {P : Program} (W : World) (T : TypeId) (z v : Value) (hv : v.oneCell' = true) : (store ⟨W.heap.size, 0, none⟩ v).run P (W.alloc (.cells #[z] T)) = .ok () (W.alloc (.cells #[v] T)) := by
  have h := heap_new W (.cells #[z] T)
  have hf : (W.alloc (.cells #[z] T)).frozen? ⟨W.heap.size, 0, none⟩ = false := by
    unfold World.frozen?
    rw [h]
    rfl
  rw [run_store P _ _ v _ hv]
  simp [Lib.cell_of_heap h, hf, World.setCell_alloc_new]

set_option maxRecDepth 100000 in
set_option maxHeartbeats 8000000 in
theorem told_is {w : World} {B p b : Nat} {F G : Nat → Prop} {xs : List Int} {n m : Nat} (hP : PRI w B F p xs n) (hD : DRI w B G b xs n m) (early : Int) :
    Calls Try.prog 15 #[.pointer (some ⟨p, 0, none⟩), .pointer (some ⟨b, 0, none⟩), .int .i64 early] w fun e w' => e = .returned (.bool true) ∧ Below w.heap.size w w' := by
  refine (callsIn_wide (n := 20)).1 ?_
  refine callsIn_of_wp_marks Try.func15 rfl trivial ?_ rfl
  simp only [Try.ntmps15, List.size_toArray, List.length_cons, List.length_nil, Nat.reduceAdd, Nat.reduceSub, Array.replicate_succ, Array.replicate_zero, List.push_toArray, List.append_toArray, List.nil_append, List.cons_append]
  obtain ⟨W1, hW1⟩ : ∃ W1, (w.alloc (.cells #[.pointer (some ⟨b, 0, none⟩)] 28)).alloc (.cells #[.int .i64 early] 3) = W1 := ⟨_, rfl⟩
  have hs1 : W1.heap.size = w.heap.size + 2 := by rw [← hW1]; simp
  have c1 : Ch (fun _ => False) w W1 := by rw [← hW1]; exact (Ch.alloc _ _).trans (Ch.alloc _ _) (fun _ _ h => h)
  have bB1 : Boxed W1 w.heap.size 28 (.pointer (some ⟨b, 0, none⟩)) := by rw [← hW1]; exact (Boxed.new w _ _).alloc _
  have bE1 : Boxed W1 (w.heap.size + 1) 3 (.int .i64 early) := by rw [← hW1]; have := Boxed.new (w.alloc (.cells #[.pointer (some ⟨b, 0, none⟩)] 28)) 3 (.int .i64 early); rwa [World.size_alloc] at this
  gi_wp2_with (rw [hW1])
  clear hW1
  refine ⟨trivial, (callsIn_wide.2 (all_is W1 (.pointer (some ⟨p, 0, none⟩)) rfl)).mono ?_⟩
  rintro e W2 ⟨rfl, hW2⟩
  have c2 : Ch (fun _ => False) W1 W2 := by rw [hW2]; exact Ch.alloc _ _
  have bX2 : Boxed W2 (W1.heap.size) 24 (.pointer (some ⟨p, 0, none⟩)) := by rw [hW2]; exact Boxed.new _ _ _
  have hs2 : W2.heap.size = W1.heap.size + 1 := by rw [hW2]; simp
  clear hW2
  have hst : (store ⟨W2.heap.size, 0, none⟩ (.func (.func 27) #[] #[.pointer (some ⟨W1.heap.size, 0, none⟩)])).run Try.prog (W2.alloc (.cells #[.nilFunc] 56)) = .ok () (W2.alloc (.cells #[.func (.func 27) #[] #[.pointer (some ⟨W1.heap.size, 0, none⟩)]] 56)) := by
    exact store_new W2 _ _ _ rfl
  obtain ⟨W3, hW3⟩ : ∃ W3, W2.alloc (.cells #[.func (.func 27) #[] #[.pointer (some ⟨W1.heap.size, 0, none⟩)]] 56) = W3 := ⟨_, rfl⟩
  obtain ⟨W5, hW5⟩ : ∃ W5, (W3.alloc (.cells #[.int .i64 0] 3)).alloc (.cells #[.bool true] 4) = W5 := ⟨_, rfl⟩
  have c3 : Ch (fun _ => False) W2 W3 := by rw [← hW3]; exact Ch.alloc _ _
  have hs3 : W3.heap.size = W2.heap.size + 1 := by rw [← hW3]; simp
  have c5 : Ch (fun _ => False) W3 W5 := by rw [← hW5]; exact (Ch.alloc _ _).trans (Ch.alloc _ _) (fun _ _ h => h)
  have hs5 : W5.heap.size = W2.heap.size + 1 + 1 + 1 := by rw [← hW5]; simp; omega
  have bS3 : Boxed W3 (W2.heap.size) 56 (.func (.func 27) #[] #[.pointer (some ⟨W1.heap.size, 0, none⟩)]) := by rw [← hW3]; exact Boxed.new _ _ _
  have bN5 : Boxed W5 (W2.heap.size + 1) 3 (.int .i64 0) := by rw [← hW5, ← hs3]; exact (Boxed.new _ _ _).alloc _
  have bO5 : Boxed W5 (W2.heap.size + 1 + 1) 4 (.bool true) := by rw [← hW5]; have := Boxed.new (W3.alloc (.cells #[.int .i64 0] 3)) 4 (.bool true); rwa [World.size_alloc, hs3] at this
  have c05 := ((c1.trans c2 (fun _ _ h => h)).trans c3 (fun _ _ h => h)).trans c5 (fun _ _ h => h)
  have T5 : TS w.heap.size (w.heap.size + 1) (W2.heap.size) (W1.heap.size) p b (W2.heap.size + 1) early xs n m W5 :=
    ⟨((c2.trans c3 (fun _ _ h => h)).trans c5 (fun _ _ h => h)).box bB1 (fun h => h), ((c2.trans c3 (fun _ _ h => h)).trans c5 (fun _ _ h => h)).box bE1 (fun h => h), c5.box bS3 (fun h => h), (c3.trans c5 (fun _ _ h => h)).box bX2 (fun h => h), ⟨B, F, G, hP.ch c05 (fun _ _ h => h), hD.ch c05 (fun _ _ h => h), fun x hx => by have := (hP.foot x hx).2; omega, fun x hx => by have := (hD.foot x hx).2; omega⟩, by omega, by omega, by omega, by omega⟩
  have hB5 : Below w.heap.size w W5 := c05.below (Nat.le_refl _) (fun _ _ h => h)
  have hl1 : xs.length ≤ 100 := by have := hP.len; omega
  have HP := hide hP
  have HD := hide hD
  have kS : W3.cell? ⟨W2.heap.size, 0, none⟩ = _ := bS3.cell
  have kS2 : ∀ o, (W3.alloc o).cell? ⟨W2.heap.size, 0, none⟩ = _ := fun o => (bS3.alloc o).cell
  have kS3 : ∀ o o', ((W3.alloc o).alloc o').cell? ⟨W2.heap.size, 0, none⟩ = _ := fun o o' => ((bS3.alloc o).alloc o').cell
  have H3 := hide hW3
  have H5 := hide hW5
  have qS := seq_some 27 #[.pointer (some ⟨W1.heap.size, 0, none⟩)]
  have ha1 : w.heap.size + 1 < W1.heap.size := by omega
  have ha2 : W1.heap.size < W2.heap.size := by omega
  have ha5 : W2.heap.size + 1 + 1 < W5.heap.size := by omega
  clear hs1 hs2 hs3 hs5
  clear hW3 hW5 bS3 bX2 bE1 bB1 c1 c2 c3 c5 c05 hP hD
  gi_wp2
  rw [H3.out, H5.out]
  clear H3 H5 kS kS2 kS3 hst
  rename_i K1 hK1
  have HK1 := hide hK1
  clear hK1
  refine name_tmps fun tm htm => ?_
  have HT := hide htm
  clear htm
  have R5 := T5.rings
  obtain ⟨B', F', G', hP5, hD5, hF5, hG5⟩ := R5
  have cont : ∀ (D : Nat) (n0 : Int) (W : World), (n0 = (xs.length : Int) ∨ n0 = early) → Boxed W (W2.heap.size + 1) 3 (.int .i64 n0) → Boxed W (W2.heap.size + 1 + 1) 4 (.bool true) → Ch (fun x => x = W2.heap.size + 1 ∨ x = W2.heap.size + 1 + 1) W5 W → W5.heap.size ≤ D → W.heap[D]? = some (.deferred (some [])) →
      K1 { tmps := tm, defers := [{ target := .collected D, args := #[] }] } W := by
    intro D n0 W hn b1 b2 hc hD hK
    refine HK1.out _ _ ?_
    clear HK1
    rw [HT.out]
    refine wpIn_wide.2 ?_
    have T7 := T5.ch hc (fun x hx e => by omega)
    obtain ⟨B7, F7, G7, -, hD7, -, -⟩ := T7.rings
    have HQ := hide (dr_lenq hD7)
    have kN := b1.cell
    have kB := T7.bB.cell
    have kE := T7.bE.cell
    clear hD7
    by_cases hnl : n0 = (xs.length : Int)
    · clear hn
      subst hnl
      go_wp2_with fail
      go_quiet ((go_at_call 17; exact HQ.out _))
      clear kN kB kE HQ
      have HQW := hide (Ch.drewN (Q := fun _ => False) W nq)
      generalize W.drewN nq = W' at HQW ⊢
      have c7 := HQW.out
      clear HQW
      have T7' := T7.ch c7 (fun _ _ h => h)
      have o7 : Boxed W' (W2.heap.size + 1 + 1) 4 (.bool true) := c7.box b2 (fun h => h)
      have K7 := c7.box hK (fun h => h)
      obtain ⟨W8, hW8⟩ : ∃ W8, W'.alloc (.cells #[.int .i64 0] 3) = W8 := ⟨_, rfl⟩
      have c8 : Ch (fun _ => False) W' W8 := by rw [← hW8]; exact Ch.alloc _ _
      have hs8 : W'.heap.size < W8.heap.size := by rw [← hW8]; simp
      have T8 := T7'.ch c8 (fun _ _ h => h)
      have m8 : Boxed W8 W'.heap.size 3 (.int .i64 ((0 : Nat) : Int)) := by rw [← hW8]; exact Boxed.new _ _ _
      have o8 : Boxed W8 (W2.heap.size + 1 + 1) 4 (.bool true) := c8.box o7 (fun h => h)
      have K8 := c8.box K7 (fun h => h)
      have hW7 := hc.size
      have hW7' := c7.size
      have hDlt : D < W'.heap.size := (Array.getElem?_eq_some_iff.1 K7).1
      have HB8 := hide (hB5.trans ((hc.trans (c7.trans c8 (fun _ _ h => h)) (fun _ _ h => h.elim)).below (N := w.heap.size) (by omega) (fun x hx e => by omega)))
      have kS : ∀ o, (W'.alloc o).cell? ⟨W2.heap.size, 0, none⟩ = _ := fun o => (T7'.bS.alloc o).cell
      have HW8 := hide hW8
      clear hW8
      go_wp2_with fail
      rw [HW8.out]
      clear HW8 kS
      rename_i K2 hK2
      have HK2 := hide hK2
      clear hK2
      refine (wpIn_wide (n := 20)).1 ?_
      refine name_tmps fun tm2 htm2 => ?_
      have HT2 := hide htm2
      clear htm2
      obtain ⟨B8, F8, G8, hP8, hD8, hF8, hG8⟩ := T8.rings
      refine range_is (by decide) (gf := 27) (lb := #[.pointer (some ⟨W1.heap.size, 0, none⟩)]) (by rw [HT2.out]; rfl) (enters_of Try.func27 (by kernel_rfl) rfl) (stops_is 19 (by decide) T8.bX hP8) (fun h k => h.trans k) (fun W l o o' _ h hc _ => Kc.put W l o o' h hc) (fun i h => by simp)
        (fun i W => (Boxed W (W'.heap.size) 3 (.int .i64 (i : Int)) ∧ Boxed W (W2.heap.size + 1 + 1) 4 (.bool true)) ∧ Ch (fun x => x = W'.heap.size ∨ x = W2.heap.size + 1 + 1) W8 W)
        (fun _ _ _ => False)
        (OwnFrom.and (OwnFrom.and (Own.from (boxed_own _ _ _) _) (Own.from (boxed_own _ _ _) _)) (ownFrom_ch (Nat.le_refl _)))
        (fun c => ownFrom_pure _ _)
        ⟨⟨m8, o8⟩, Ch.refl _ _⟩
        (fun i a' W => a' = { tmps := (tm2.setIfInBounds 57 (.int .i64 (xs[i]?.getD 0))).setIfInBounds 14 (.int .i64 (xs[i]?.getD 0)), defers := [] })
        (fun i a' => ownFrom_pure _ _) ?assign2 ?body2 ?done2 ?stop2
      case assign2 =>
        clear HK2
        rintro lp i hi W K ⟨⟨b1, b2⟩, hc⟩ hK
        have hi' : i < xs.length := by simpa using hi
        obtain ⟨z, hz⟩ : ∃ z, xs[i] = z := ⟨_, rfl⟩
        rw [List.getElem?_eq_getElem hi', hz] at hK
        rw [List.getElem_map, hz]
        have HI := hide (hK _ W (keeps_of_ch (Ch.refl (fun _ => False) W) (fun _ h => h.elim)) (Kc.refl _ _) ⟨⟨b1, b2⟩, hc⟩ rfl)
        rw [HT2.out] at HI ⊢
        clear hK
        gi_wp2
        exact HI.out
      case body2 =>
        clear HK2
        rintro lp i hi a' V hl ⟨r, hr⟩ ⟨⟨b3, b4⟩, hc⟩ rfl
        have hi' : i < xs.length := by simpa using hi
        have TW := T8.ch hc (fun x hx e => by omega)
        obtain ⟨Bw, Fw, Gw, -, hDw, -, -⟩ := TW.rings
        obtain ⟨a1, a2⟩ := atX_at hi'
        rw [List.getElem?_eq_getElem hi', HT2.out]
        obtain ⟨z, hz⟩ : ∃ z, xs[i] = z := ⟨_, rfl⟩
        rw [hz] at a1 ⊢
        have kB := TW.bB.cell
        have k1 := b3.cell
        have HA := hide (dr_at hDw (i : Int))
        rw [a1, a2] at HA
        have HCV := hide hc
        clear hDw a1 a2 hc
        gi_wp2
        refine ⟨trivial, (CallsIn.inRound lp (callsIn_wide.2 HA.out)).mono ?_⟩
        rintro e V6 ⟨rfl, c6⟩
        have n6 : Boxed V6 (W'.heap.size) 3 (.int .i64 (i : Int)) := c6.box b3 (fun h => h)
        have o6 : Boxed V6 (W2.heap.size + 1 + 1) 4 (.bool true) := c6.box b4 (fun h => h)
        have e6 : Boxed V6 (w.heap.size + 1) 3 (.int .i64 early) := c6.box TW.bE (fun h => h)
        have s6 := c6.box TW.bS (fun h => h)
        have g1 := n6.cell
        have g1f := n6.frozen
        have g2 := o6.cell
        have g2f := o6.frozen
        have g3 := e6.cell
        clear kB k1 HA
        have FIN : ∀ V7, V7 = (V6.setCell ⟨W2.heap.size + 1 + 1, 0, none⟩ (.bool true)).setCell ⟨W'.heap.size, 0, none⟩ (.int .i64 ((i : Int) + 1)) →
            KeepsFrom W8.heap.size V V7 ∧ Kc W8.heap.size V V7 ∧ (Boxed V7 (W'.heap.size) 3 (.int .i64 ((i + 1 : Nat) : Int)) ∧ Boxed V7 (W2.heap.size + 1 + 1) 4 (.bool true)) ∧ Ch (fun x => x = W'.heap.size ∨ x = W2.heap.size + 1 + 1) W8 V7 := by
          rintro V7 rfl
          have q1 := Ch.set (Q := fun x => x = W'.heap.size ∨ x = W2.heap.size + 1 + 1) V6 (Or.inr rfl) 0 (.bool true)
          have q2 := Ch.set (Q := fun x => x = W'.heap.size ∨ x = W2.heap.size + 1 + 1) (V6.setCell ⟨W2.heap.size + 1 + 1, 0, none⟩ (.bool true)) (Or.inl rfl) 0 (.int .i64 ((i : Int) + 1))
          have q3 := (c6.mono (Q' := fun x => x = W'.heap.size ∨ x = W2.heap.size + 1 + 1) (fun _ _ h => h.elim)).trans (q1.trans q2 (fun _ _ h => h)) (fun _ _ h => h)
          exact ⟨keeps_of_ch q3 (fun y hy => by omega), Kc.of_ch q3 (fun y hy => by omega), ⟨(n6.other (by omega) (.bool true)).set _, (o6.set _).other (by omega) _⟩, HCV.out.trans q3 (fun _ _ h => h)⟩
        replace FIN := hide FIN
        by_cases h3 : (i : Int) + 1 < 3
        · have q3 : decide ((i : Int) + 1 < 3) = true := decide_eq_true h3
          clear h3
          obtain ⟨V1, hV1⟩ : ∃ V1, (V6.setCell ⟨W2.heap.size + 1 + 1, 0, none⟩ (.bool true)).setCell ⟨W'.heap.size, 0, none⟩ (.int .i64 ((i : Int) + 1)) = V1 := ⟨_, rfl⟩
          obtain ⟨f1, f2, ⟨f3, f4⟩, f5⟩ := FIN.out V1 hV1.symm
          obtain ⟨V2, hV2⟩ : ∃ V2, V1.alloc (.cells #[.int .i64 0] 3) = V2 := ⟨_, rfl⟩
          have c12 : Ch (fun _ => False) V1 V2 := by rw [← hV2]; exact Ch.alloc _ _
          have hsz1 : V1.heap.size = V6.heap.size := by rw [← hV1]; simp
          have n2 : Boxed V2 V6.heap.size 3 (.int .i64 ((0 : Nat) : Int)) := by rw [← hV2, ← hsz1]; exact Boxed.new _ _ _
          have o2 : Boxed V2 (W2.heap.size + 1 + 1) 4 (.bool true) := c12.box f4 (fun h => h)
          have m2 : Boxed V2 W'.heap.size 3 (.int .i64 ((i + 1 : Nat) : Int)) := c12.box f3 (fun h => h)
          have TV1 := T8.ch f5 (fun x hx e => by omega)
          have TV := TV1.ch c12 (fun _ _ h => h)
          have kS : ∀ o, (((V6.setCell ⟨W2.heap.size + 1 + 1, 0, none⟩ (.bool true)).setCell ⟨W'.heap.size, 0, none⟩ (.int .i64 ((i : Int) + 1))).alloc o).cell? ⟨W2.heap.size, 0, none⟩ = some (.func (.func 27) #[] #[.pointer (some ⟨W1.heap.size, 0, none⟩)]) := fun o => by rw [hV1]; exact (TV1.bS.alloc o).cell
          have HS1 := hide hsz1
          clear hsz1
          have HV1 := hide hV1
          have HV2 := hide hV2
          have hsV : W8.heap.size ≤ V6.heap.size := by have := f5.size; have := HS1.out; omega
          have hsV2 : V6.heap.size < V2.heap.size := n2.lt
          have hr' : V2.heap[lp]? = some (.loop r) := c12.box (f1.same lp _ hl hr rfl) (fun h => h)
          clear hV1 hV2
          gi_wp2
          rw [HV1.out, HV2.out]
          clear kS HV1 HV2 g1 g1f g2 g2f g3
          rename_i K3 hK3
          have HK3 := hide hK3
          clear hK3
          refine name_tmps fun tv htv => ?_
          have HV := hide htv
          clear htv
          obtain ⟨Bv, Fv, Gv, hPv, hDv, hFv, hGv⟩ := TV.rings
          refine range_in hr' (by decide) (gf := 27) (lb := #[.pointer (some ⟨W1.heap.size, 0, none⟩)]) (by rw [HV.out]; rfl) (enters_of Try.func27 (by kernel_rfl) rfl) (stops_is 17 (by decide) TV.bX hPv) (fun h k => h.trans k) (fun W l o o' _ h hc _ => Kc.put W l o o' h hc) (fun i h => by simp)
            (fun i W => (Boxed W (V6.heap.size) 3 (.int .i64 (i : Int)) ∧ Boxed W (W2.heap.size + 1 + 1) 4 (.bool true)) ∧ Ch (fun x => x = V6.heap.size ∨ x = W2.heap.size + 1 + 1) V2 W)
            (fun _ _ _ => False)
            (OwnFrom.and (OwnFrom.and (Own.from (boxed_own _ _ _) _) (Own.from (boxed_own _ _ _) _)) (ownFrom_ch (Nat.le_refl _)))
            (fun c => ownFrom_pure _ _)
            ⟨⟨n2, o2⟩, Ch.refl _ _⟩
            (fun i a' W => a' = { tmps := (tv.setIfInBounds 78 (.int .i64 (xs[i]?.getD 0))).setIfInBounds 18 (.int .i64 (xs[i]?.getD 0)), defers := [] })
            (fun i a' => ownFrom_pure _ _) ?assign3 ?body3 ?done3 ?stop3
          case assign3 =>
            clear HK3
            rintro lp i hi W K ⟨⟨b1, b2⟩, hc⟩ hK
            have hi' : i < xs.length := by simpa using hi
            obtain ⟨z, hz⟩ : ∃ z, xs[i] = z := ⟨_, rfl⟩
            rw [List.getElem?_eq_getElem hi', hz] at hK
            rw [List.getElem_map, hz]
            have HI := hide (hK _ W (keeps_of_ch (Ch.refl (fun _ => False) W) (fun _ h => h.elim)) (Kc.refl _ _) ⟨⟨b1, b2⟩, hc⟩ rfl)
            rw [HV.out] at HI ⊢
            clear hK
            gi_wp2
            exact HI.out
          case body3 =>
            clear HK3
            rintro lp k hk a' U hlq ⟨rq, hrq⟩ ⟨⟨b5, b6⟩, hc⟩ rfl
            have hi' : k < xs.length := by simpa using hk
            have TW := TV.ch hc (fun x hx e => by omega)
            obtain ⟨Bw, Fw, Gw, -, hDw, -, -⟩ := TW.rings
            obtain ⟨a1, a2⟩ := atX_at hi'
            rw [List.getElem?_eq_getElem hi', HV.out]
            obtain ⟨z, hz⟩ : ∃ z, xs[k] = z := ⟨_, rfl⟩
            rw [hz] at a1 ⊢
            have kB := TW.bB.cell
            have k1 := b5.cell
            have HA := hide (dr_at hDw (k : Int))
            rw [a1, a2] at HA
            have HCU := hide hc
            clear hDw a1 a2 hc
            gi_wp2
            refine ⟨trivial, (CallsIn.inRound lp (callsIn_wide.2 HA.out)).mono ?_⟩
            rintro e U6 ⟨rfl, c6⟩
            have n6 : Boxed U6 (V6.heap.size) 3 (.int .i64 (k : Int)) := c6.box b5 (fun h => h)
            have o6 : Boxed U6 (W2.heap.size + 1 + 1) 4 (.bool true) := c6.box b6 (fun h => h)
            have e6 : Boxed U6 (w.heap.size + 1) 3 (.int .i64 early) := c6.box TW.bE (fun h => h)
            have s6 := c6.box TW.bS (fun h => h)
            have g1 := n6.cell
            have g1f := n6.frozen
            have g2 := o6.cell
            have g2f := o6.frozen
            have g3 := e6.cell
            clear kB k1 HA
            have FIN : ∀ U7, U7 = (U6.setCell ⟨W2.heap.size + 1 + 1, 0, none⟩ (.bool true)).setCell ⟨V6.heap.size, 0, none⟩ (.int .i64 ((k : Int) + 1)) →
                KeepsFrom V2.heap.size U U7 ∧ Kc V2.heap.size U U7 ∧ (Boxed U7 (V6.heap.size) 3 (.int .i64 ((k + 1 : Nat) : Int)) ∧ Boxed U7 (W2.heap.size + 1 + 1) 4 (.bool true)) ∧ Ch (fun x => x = V6.heap.size ∨ x = W2.heap.size + 1 + 1) V2 U7 := by
              rintro U7 rfl
              have q1 := Ch.set (Q := fun x => x = V6.heap.size ∨ x = W2.heap.size + 1 + 1) U6 (Or.inr rfl) 0 (.bool true)
              have q2 := Ch.set (Q := fun x => x = V6.heap.size ∨ x = W2.heap.size + 1 + 1) (U6.setCell ⟨W2.heap.size + 1 + 1, 0, none⟩ (.bool true)) (Or.inl rfl) 0 (.int .i64 ((k : Int) + 1))
              have q3 := (c6.mono (Q' := fun x => x = V6.heap.size ∨ x = W2.heap.size + 1 + 1) (fun _ _ h => h.elim)).trans (q1.trans q2 (fun _ _ h => h)) (fun _ _ h => h)
              exact ⟨keeps_of_ch q3 (fun y hy => by omega), Kc.of_ch q3 (fun y hy => by omega), ⟨(n6.other (by omega) (.bool true)).set _, (o6.set _).other (by omega) _⟩, HCU.out.trans q3 (fun _ _ h => h)⟩
            replace FIN := hide FIN
            gi_wp2
            exact FIN.out _ rfl
          case done3 =>
            rintro U ⟨⟨b5, b6⟩, hu⟩
            rw [List.length_map] at b5
            refine HK3.out _ _ ?_
            clear HK3
            rw [HV.out]
            have TU := TV.ch hu (fun x hx e => by omega)
            have hVU := hu.size
            obtain ⟨Bu, Fu, Gu, -, hDu, -, -⟩ := TU.rings
            have HU := hide (fun wq (h : Ch (fun x => x = W2.heap.size + 1 + 1) U wq) => And.intro (Boxed.cell (t := 3) (h.box b5 (fun e => by omega))) (Boxed.cell (t := 28) (h.box TU.bB (fun e => by omega))))
            gi_wp2
            refine region_round (S := Ch (fun x => x = W2.heap.size + 1 + 1) U) (by kernel_rfl) (by kernel_rfl) ?_ (Ch.drew U) (fun zk => ?_)
            · rintro ⟨_, _, h⟩
              exact h
            refine rd 0 tq0 rfl (by kernel_rfl) fun K hK => ?_
            have s1 := b6.cell
            go_simp
            refine hK.out _ _ ?_ (fun zk => ?_)
            · exact zk
            clear hK K
            try go_frame
            apply tk 1 tq1 rfl (by kernel_rfl) (fun _ _ _ h => h) zk
            · intro wq zq
              go_simp
              try rfl
            go_frame
            apply tk 2 tq2 rfl (by kernel_rfl) (fun _ _ _ h => h) zk
            · intro wq zq
              have s2 := (HU.out _ zq).1
              go_simp
              try rfl
            go_frame
            apply tk 3 tq3 rfl (by kernel_rfl) (fun _ _ _ h => h) zk
            · intro wq zq
              have s3 := (HU.out _ zq).2
              go_simp
              try rfl
            go_frame
            refine rd 4 tq4 rfl (by kernel_rfl) fun K hK => ?_
            go_simp
            refine (dr_len (hDu.ch (Ch.drew (Q := fun _ => False) U) (fun _ _ h => h))).mono ?_
            rintro e W9 ⟨rfl, c9⟩
            have HC9 := hide ((Ch.drew (Q := fun x => x = W2.heap.size + 1 + 1) U).trans (c9.mono (fun _ _ h => h.elim)) (fun _ _ h => h))
            have c9' := (Ch.drew (Q := fun _ => False) U).trans c9 (fun _ _ h => h)
            clear c9
            go_wp2_with fail
            refine hK.out _ _ ?_ (fun zk => ?_)
            · exact HC9.out
            clear hK K
            try go_frame
            apply tk 5 tq5 rfl (by kernel_rfl) (fun _ _ _ h => h) zk
            · intro wq zq
              go_simp
              try rfl
            go_frame
            apply tk 6 tq6 rfl (by kernel_rfl) (fun _ _ _ h => h) zk
            · intro wq zq
              go_simp
              try rfl
            go_frame
            have o9 : Boxed W9 (W2.heap.size + 1 + 1) 4 (.bool true) := c9'.box b6 (fun h => h)
            have g9 := o9.cell
            have g9f := o9.frozen
            refine rd 7 tq7 rfl (by kernel_rfl) fun K hK => ?_
            go_simp
            refine hK.out _ _ ?_ (fun zk => ?_)
            · exact HC9.out.trans (Ch.set (Q := fun x => x = W2.heap.size + 1 + 1) _ rfl _ _) (fun _ _ h => h)
            clear hK K
            try go_frame
            refine wpAnyH_done (by kernel_rfl) ?_ _
            have qe := HC9.out.trans (Ch.set (Q := fun x => x = W2.heap.size + 1 + 1) W9 rfl 0 (.bool true)) (fun _ _ h => h)
            have qc : Ch (fun x => x = W2.heap.size + 1 + 1) V1 (W9.setCell ⟨W2.heap.size + 1 + 1, 0, none⟩ (.bool true)) := (c12.mono (fun _ _ h => h.elim)).trans ((hu.trans qe (fun _ _ h => Or.inr h)).mono (Q' := fun x => x = V6.heap.size ∨ x = W2.heap.size + 1 + 1) (fun _ _ h => h)) (fun x hx h => h.elim (fun e => by have := HS1.out; omega) id)
            exact ⟨f1.trans (keeps_of_ch qc (fun y hy => by omega)), f2.trans (Kc.of_ch qc (fun y hy => by omega)), ⟨qc.box f3 (fun e => by omega), o9.set _⟩, f5.trans qc (fun _ _ h => Or.inr h)⟩
          case stop3 =>
            rintro c k U hk h
            exact h.elim
        · have q3 : decide ((i : Int) + 1 < 3) = false := decide_eq_false h3
          clear h3
          gi_wp2
          exact FIN.out _ rfl
      case done2 =>
        rintro D2 V hD2 ⟨⟨b3, b4⟩, hvv⟩ hK2
        rw [List.length_map] at b3
        refine HK2.out _ _ ?_
        clear HK2
        rw [HT2.out]
        have TV := T8.ch hvv (fun x hx e => by omega)
        obtain ⟨Bv, Fv, Gv, -, hDv, -, -⟩ := TV.rings
        have HQ := hide (dr_lenq hDv)
        have kM := b3.cell
        have kO := b4.cell
        have kB := TV.bB.cell
        have HK := hide hK2
        clear hDv hK2
        go_wp2_with fail
        go_quiet ((go_at_call 17; exact HQ.out _))
        have HQW := hide (Ch.drewN (Q := fun _ => False) V nq)
        generalize V.drewN nq = V' at HQW ⊢
        have c9 := HQW.out
        have k2 : V'.heap[D2]? = some (.deferred (some [])) := c9.box HK.out (fun h => h)
        have k1 : V'.heap[D]? = some (.deferred (some [])) := c9.box (hvv.box K8 (by omega)) (fun h => h)
        have k1' : (V'.putObj D2 (.deferred none)).heap[D]? = some (.deferred (some [])) := (World.putObj_heap_other (by omega)).trans k1
        have HB9 := hide (HB8.out.trans (hvv.below (N := w.heap.size) (by omega) (fun x hx e => by omega) |>.trans (c9.below (N := w.heap.size) (by have := hvv.size; omega) (fun _ _ h => h))))
        have KK2 := hide k2
        have KK1 := hide k1'
        clear kM kO kB HQ c9 HQW k1 k2 k1'
        go_wp2_with fail
        refine ⟨by simp, .inl ⟨_, _, rfl, run_takeDeferred KK2.out, by simp, .inl ⟨_, _, rfl, run_takeDeferred KK1.out, ?_⟩⟩⟩
        exact ⟨_, results_tmp rfl _ _ _, rfl, HB9.out.trans ((belowK_b (w := w) (Nat.le_refl _) V' D2 _ _ (by omega) KK2.out rfl rfl).trans (belowK_b (w := w) (Nat.le_refl _) _ D _ _ (by omega) KK1.out rfl rfl))⟩
      case stop2 =>
        rintro D' c i W hD' hp h hK'
        exact h.elim
    · have en := (hn.resolve_left hnl).symm
      subst en
      have q1 : (early == (xs.length : Int)) = false := by simpa using hnl
      have q2 : (early != (xs.length : Int)) = true := by simpa using hnl
      clear hn hnl
      go_wp2_with fail
      go_quiet ((go_at_call 17; exact HQ.out _))
      clear kN kB kE HQ
      have HQW := hide (Ch.drewN (Q := fun _ => False) W nq)
      generalize W.drewN nq = W' at HQW ⊢
      have c7 := HQW.out
      clear HQW
      have T7' := T7.ch c7 (fun _ _ h => h)
      have o7 : Boxed W' (W2.heap.size + 1 + 1) 4 (.bool true) := c7.box b2 (fun h => h)
      have K7 := c7.box hK (fun h => h)
      obtain ⟨W8, hW8⟩ : ∃ W8, W'.alloc (.cells #[.int .i64 0] 3) = W8 := ⟨_, rfl⟩
      have c8 : Ch (fun _ => False) W' W8 := by rw [← hW8]; exact Ch.alloc _ _
      have hs8 : W'.heap.size < W8.heap.size := by rw [← hW8]; simp
      have T8 := T7'.ch c8 (fun _ _ h => h)
      have m8 : Boxed W8 W'.heap.size 3 (.int .i64 ((0 : Nat) : Int)) := by rw [← hW8]; exact Boxed.new _ _ _
      have o8 : Boxed W8 (W2.heap.size + 1 + 1) 4 (.bool true) := c8.box o7 (fun h => h)
      have K8 := c8.box K7 (fun h => h)
      have hW7 := hc.size
      have hW7' := c7.size
      have hDlt : D < W'.heap.size := (Array.getElem?_eq_some_iff.1 K7).1
      have HB8 := hide (hB5.trans ((hc.trans (c7.trans c8 (fun _ _ h => h)) (fun _ _ h => h.elim)).below (N := w.heap.size) (by omega) (fun x hx e => by omega)))
      have kS : ∀ o, (W'.alloc o).cell? ⟨W2.heap.size, 0, none⟩ = _ := fun o => (T7'.bS.alloc o).cell
      have HW8 := hide hW8
      clear hW8
      go_wp2_with fail
      rw [HW8.out]
      clear HW8 kS
      rename_i K2 hK2
      have HK2 := hide hK2
      clear hK2
      refine (wpIn_wide (n := 20)).1 ?_
      refine name_tmps fun tm2 htm2 => ?_
      have HT2 := hide htm2
      clear htm2
      obtain ⟨B8, F8, G8, hP8, hD8, hF8, hG8⟩ := T8.rings
      refine range_is (by decide) (gf := 27) (lb := #[.pointer (some ⟨W1.heap.size, 0, none⟩)]) (by rw [HT2.out]; rfl) (enters_of Try.func27 (by kernel_rfl) rfl) (stops_is 19 (by decide) T8.bX hP8) (fun h k => h.trans k) (fun W l o o' _ h hc _ => Kc.put W l o o' h hc) (fun i h => by simp)
        (fun i W => (Boxed W (W'.heap.size) 3 (.int .i64 (i : Int)) ∧ Boxed W (W2.heap.size + 1 + 1) 4 (.bool true)) ∧ Ch (fun x => x = W'.heap.size ∨ x = W2.heap.size + 1 + 1) W8 W)
        (fun _ _ _ => False)
        (OwnFrom.and (OwnFrom.and (Own.from (boxed_own _ _ _) _) (Own.from (boxed_own _ _ _) _)) (ownFrom_ch (Nat.le_refl _)))
        (fun c => ownFrom_pure _ _)
        ⟨⟨m8, o8⟩, Ch.refl _ _⟩
        (fun i a' W => a' = { tmps := (tm2.setIfInBounds 57 (.int .i64 (xs[i]?.getD 0))).setIfInBounds 14 (.int .i64 (xs[i]?.getD 0)), defers := [] })
        (fun i a' => ownFrom_pure _ _) ?assign2 ?body2 ?done2 ?stop2
      case assign2 =>
        clear HK2
        rintro lp i hi W K ⟨⟨b1, b2⟩, hc⟩ hK
        have hi' : i < xs.length := by simpa using hi
        obtain ⟨z, hz⟩ : ∃ z, xs[i] = z := ⟨_, rfl⟩
        rw [List.getElem?_eq_getElem hi', hz] at hK
        rw [List.getElem_map, hz]
        have HI := hide (hK _ W (keeps_of_ch (Ch.refl (fun _ => False) W) (fun _ h => h.elim)) (Kc.refl _ _) ⟨⟨b1, b2⟩, hc⟩ rfl)
        rw [HT2.out] at HI ⊢
        clear hK
        gi_wp2
        exact HI.out
      case body2 =>
        clear HK2
        rintro lp i hi a' V hl ⟨r, hr⟩ ⟨⟨b3, b4⟩, hc⟩ rfl
        have hi' : i < xs.length := by simpa using hi
        have TW := T8.ch hc (fun x hx e => by omega)
        obtain ⟨Bw, Fw, Gw, -, hDw, -, -⟩ := TW.rings
        obtain ⟨a1, a2⟩ := atX_at hi'
        rw [List.getElem?_eq_getElem hi', HT2.out]
        obtain ⟨z, hz⟩ : ∃ z, xs[i] = z := ⟨_, rfl⟩
        rw [hz] at a1 ⊢
        have kB := TW.bB.cell
        have k1 := b3.cell
        have HA := hide (dr_at hDw (i : Int))
        rw [a1, a2] at HA
        have HCV := hide hc
        clear hDw a1 a2 hc
        gi_wp2
        refine ⟨trivial, (CallsIn.inRound lp (callsIn_wide.2 HA.out)).mono ?_⟩
        rintro e V6 ⟨rfl, c6⟩
        have n6 : Boxed V6 (W'.heap.size) 3 (.int .i64 (i : Int)) := c6.box b3 (fun h => h)
        have o6 : Boxed V6 (W2.heap.size + 1 + 1) 4 (.bool true) := c6.box b4 (fun h => h)
        have e6 : Boxed V6 (w.heap.size + 1) 3 (.int .i64 early) := c6.box TW.bE (fun h => h)
        have s6 := c6.box TW.bS (fun h => h)
        have g1 := n6.cell
        have g1f := n6.frozen
        have g2 := o6.cell
        have g2f := o6.frozen
        have g3 := e6.cell
        clear kB k1 HA
        have FIN : ∀ V7, V7 = (V6.setCell ⟨W2.heap.size + 1 + 1, 0, none⟩ (.bool true)).setCell ⟨W'.heap.size, 0, none⟩ (.int .i64 ((i : Int) + 1)) →
            KeepsFrom W8.heap.size V V7 ∧ Kc W8.heap.size V V7 ∧ (Boxed V7 (W'.heap.size) 3 (.int .i64 ((i + 1 : Nat) : Int)) ∧ Boxed V7 (W2.heap.size + 1 + 1) 4 (.bool true)) ∧ Ch (fun x => x = W'.heap.size ∨ x = W2.heap.size + 1 + 1) W8 V7 := by
          rintro V7 rfl
          have q1 := Ch.set (Q := fun x => x = W'.heap.size ∨ x = W2.heap.size + 1 + 1) V6 (Or.inr rfl) 0 (.bool true)
          have q2 := Ch.set (Q := fun x => x = W'.heap.size ∨ x = W2.heap.size + 1 + 1) (V6.setCell ⟨W2.heap.size + 1 + 1, 0, none⟩ (.bool true)) (Or.inl rfl) 0 (.int .i64 ((i : Int) + 1))
          have q3 := (c6.mono (Q' := fun x => x = W'.heap.size ∨ x = W2.heap.size + 1 + 1) (fun _ _ h => h.elim)).trans (q1.trans q2 (fun _ _ h => h)) (fun _ _ h => h)
          exact ⟨keeps_of_ch q3 (fun y hy => by omega), Kc.of_ch q3 (fun y hy => by omega), ⟨(n6.other (by omega) (.bool true)).set _, (o6.set _).other (by omega) _⟩, HCV.out.trans q3 (fun _ _ h => h)⟩
        replace FIN := hide FIN
        by_cases h3 : (i : Int) + 1 < 3
        · have q3 : decide ((i : Int) + 1 < 3) = true := decide_eq_true h3
          clear h3
          obtain ⟨V1, hV1⟩ : ∃ V1, (V6.setCell ⟨W2.heap.size + 1 + 1, 0, none⟩ (.bool true)).setCell ⟨W'.heap.size, 0, none⟩ (.int .i64 ((i : Int) + 1)) = V1 := ⟨_, rfl⟩
          obtain ⟨f1, f2, ⟨f3, f4⟩, f5⟩ := FIN.out V1 hV1.symm
          obtain ⟨V2, hV2⟩ : ∃ V2, V1.alloc (.cells #[.int .i64 0] 3) = V2 := ⟨_, rfl⟩
          have c12 : Ch (fun _ => False) V1 V2 := by rw [← hV2]; exact Ch.alloc _ _
          have hsz1 : V1.heap.size = V6.heap.size := by rw [← hV1]; simp
          have n2 : Boxed V2 V6.heap.size 3 (.int .i64 ((0 : Nat) : Int)) := by rw [← hV2, ← hsz1]; exact Boxed.new _ _ _
          have o2 : Boxed V2 (W2.heap.size + 1 + 1) 4 (.bool true) := c12.box f4 (fun h => h)
          have m2 : Boxed V2 W'.heap.size 3 (.int .i64 ((i + 1 : Nat) : Int)) := c12.box f3 (fun h => h)
          have TV1 := T8.ch f5 (fun x hx e => by omega)
          have TV := TV1.ch c12 (fun _ _ h => h)
          have kS : ∀ o, (((V6.setCell ⟨W2.heap.size + 1 + 1, 0, none⟩ (.bool true)).setCell ⟨W'.heap.size, 0, none⟩ (.int .i64 ((i : Int) + 1))).alloc o).cell? ⟨W2.heap.size, 0, none⟩ = some (.func (.func 27) #[] #[.pointer (some ⟨W1.heap.size, 0, none⟩)]) := fun o => by rw [hV1]; exact (TV1.bS.alloc o).cell
          have HS1 := hide hsz1
          clear hsz1
          have HV1 := hide hV1
          have HV2 := hide hV2
          have hsV : W8.heap.size ≤ V6.heap.size := by have := f5.size; have := HS1.out; omega
          have hsV2 : V6.heap.size < V2.heap.size := n2.lt
          have hr' : V2.heap[lp]? = some (.loop r) := c12.box (f1.same lp _ hl hr rfl) (fun h => h)
          clear hV1 hV2
          gi_wp2
          rw [HV1.out, HV2.out]
          clear kS HV1 HV2 g1 g1f g2 g2f g3
          rename_i K3 hK3
          have HK3 := hide hK3
          clear hK3
          refine name_tmps fun tv htv => ?_
          have HV := hide htv
          clear htv
          obtain ⟨Bv, Fv, Gv, hPv, hDv, hFv, hGv⟩ := TV.rings
          refine range_in hr' (by decide) (gf := 27) (lb := #[.pointer (some ⟨W1.heap.size, 0, none⟩)]) (by rw [HV.out]; rfl) (enters_of Try.func27 (by kernel_rfl) rfl) (stops_is 17 (by decide) TV.bX hPv) (fun h k => h.trans k) (fun W l o o' _ h hc _ => Kc.put W l o o' h hc) (fun i h => by simp)
            (fun i W => (Boxed W (V6.heap.size) 3 (.int .i64 (i : Int)) ∧ Boxed W (W2.heap.size + 1 + 1) 4 (.bool true)) ∧ Ch (fun x => x = V6.heap.size ∨ x = W2.heap.size + 1 + 1) V2 W)
            (fun _ _ _ => False)
            (OwnFrom.and (OwnFrom.and (Own.from (boxed_own _ _ _) _) (Own.from (boxed_own _ _ _) _)) (ownFrom_ch (Nat.le_refl _)))
            (fun c => ownFrom_pure _ _)
            ⟨⟨n2, o2⟩, Ch.refl _ _⟩
            (fun i a' W => a' = { tmps := (tv.setIfInBounds 78 (.int .i64 (xs[i]?.getD 0))).setIfInBounds 18 (.int .i64 (xs[i]?.getD 0)), defers := [] })
            (fun i a' => ownFrom_pure _ _) ?assign3 ?body3 ?done3 ?stop3
          case assign3 =>
            clear HK3
            rintro lp i hi W K ⟨⟨b1, b2⟩, hc⟩ hK
            have hi' : i < xs.length := by simpa using hi
            obtain ⟨z, hz⟩ : ∃ z, xs[i] = z := ⟨_, rfl⟩
            rw [List.getElem?_eq_getElem hi', hz] at hK
            rw [List.getElem_map, hz]
            have HI := hide (hK _ W (keeps_of_ch (Ch.refl (fun _ => False) W) (fun _ h => h.elim)) (Kc.refl _ _) ⟨⟨b1, b2⟩, hc⟩ rfl)
            rw [HV.out] at HI ⊢
            clear hK
            gi_wp2
            exact HI.out
          case body3 =>
            clear HK3
            rintro lp k hk a' U hlq ⟨rq, hrq⟩ ⟨⟨b5, b6⟩, hc⟩ rfl
            have hi' : k < xs.length := by simpa using hk
            have TW := TV.ch hc (fun x hx e => by omega)
            obtain ⟨Bw, Fw, Gw, -, hDw, -, -⟩ := TW.rings
            obtain ⟨a1, a2⟩ := atX_at hi'
            rw [List.getElem?_eq_getElem hi', HV.out]
            obtain ⟨z, hz⟩ : ∃ z, xs[k] = z := ⟨_, rfl⟩
            rw [hz] at a1 ⊢
            have kB := TW.bB.cell
            have k1 := b5.cell
            have HA := hide (dr_at hDw (k : Int))
            rw [a1, a2] at HA
            have HCU := hide hc
            clear hDw a1 a2 hc
            gi_wp2
            refine ⟨trivial, (CallsIn.inRound lp (callsIn_wide.2 HA.out)).mono ?_⟩
            rintro e U6 ⟨rfl, c6⟩
            have n6 : Boxed U6 (V6.heap.size) 3 (.int .i64 (k : Int)) := c6.box b5 (fun h => h)
            have o6 : Boxed U6 (W2.heap.size + 1 + 1) 4 (.bool true) := c6.box b6 (fun h => h)
            have e6 : Boxed U6 (w.heap.size + 1) 3 (.int .i64 early) := c6.box TW.bE (fun h => h)
            have s6 := c6.box TW.bS (fun h => h)
            have g1 := n6.cell
            have g1f := n6.frozen
            have g2 := o6.cell
            have g2f := o6.frozen
            have g3 := e6.cell
            clear kB k1 HA
            have FIN : ∀ U7, U7 = (U6.setCell ⟨W2.heap.size + 1 + 1, 0, none⟩ (.bool true)).setCell ⟨V6.heap.size, 0, none⟩ (.int .i64 ((k : Int) + 1)) →
                KeepsFrom V2.heap.size U U7 ∧ Kc V2.heap.size U U7 ∧ (Boxed U7 (V6.heap.size) 3 (.int .i64 ((k + 1 : Nat) : Int)) ∧ Boxed U7 (W2.heap.size + 1 + 1) 4 (.bool true)) ∧ Ch (fun x => x = V6.heap.size ∨ x = W2.heap.size + 1 + 1) V2 U7 := by
              rintro U7 rfl
              have q1 := Ch.set (Q := fun x => x = V6.heap.size ∨ x = W2.heap.size + 1 + 1) U6 (Or.inr rfl) 0 (.bool true)
              have q2 := Ch.set (Q := fun x => x = V6.heap.size ∨ x = W2.heap.size + 1 + 1) (U6.setCell ⟨W2.heap.size + 1 + 1, 0, none⟩ (.bool true)) (Or.inl rfl) 0 (.int .i64 ((k : Int) + 1))
              have q3 := (c6.mono (Q' := fun x => x = V6.heap.size ∨ x = W2.heap.size + 1 + 1) (fun _ _ h => h.elim)).trans (q1.trans q2 (fun _ _ h => h)) (fun _ _ h => h)
              exact ⟨keeps_of_ch q3 (fun y hy => by omega), Kc.of_ch q3 (fun y hy => by omega), ⟨(n6.other (by omega) (.bool true)).set _, (o6.set _).other (by omega) _⟩, HCU.out.trans q3 (fun _ _ h => h)⟩
            replace FIN := hide FIN
            gi_wp2
            exact FIN.out _ rfl
          case done3 =>
            rintro U ⟨⟨b5, b6⟩, hu⟩
            rw [List.length_map] at b5
            refine HK3.out _ _ ?_
            clear HK3
            rw [HV.out]
            have TU := TV.ch hu (fun x hx e => by omega)
            have hVU := hu.size
            obtain ⟨Bu, Fu, Gu, -, hDu, -, -⟩ := TU.rings
            have HU := hide (fun wq (h : Ch (fun x => x = W2.heap.size + 1 + 1) U wq) => And.intro (Boxed.cell (t := 3) (h.box b5 (fun e => by omega))) (Boxed.cell (t := 28) (h.box TU.bB (fun e => by omega))))
            gi_wp2
            refine region_round (S := Ch (fun x => x = W2.heap.size + 1 + 1) U) (by kernel_rfl) (by kernel_rfl) ?_ (Ch.drew U) (fun zk => ?_)
            · rintro ⟨_, _, h⟩
              exact h
            refine rd 0 tq0 rfl (by kernel_rfl) fun K hK => ?_
            have s1 := b6.cell
            go_simp
            refine hK.out _ _ ?_ (fun zk => ?_)
            · exact zk
            clear hK K
            try go_frame
            apply tk 1 tq1 rfl (by kernel_rfl) (fun _ _ _ h => h) zk
            · intro wq zq
              go_simp
              try rfl
            go_frame
            apply tk 2 tq2 rfl (by kernel_rfl) (fun _ _ _ h => h) zk
            · intro wq zq
              have s2 := (HU.out _ zq).1
              go_simp
              try rfl
            go_frame
            apply tk 3 tq3 rfl (by kernel_rfl) (fun _ _ _ h => h) zk
            · intro wq zq
              have s3 := (HU.out _ zq).2
              go_simp
              try rfl
            go_frame
            refine rd 4 tq4 rfl (by kernel_rfl) fun K hK => ?_
            go_simp
            refine (dr_len (hDu.ch (Ch.drew (Q := fun _ => False) U) (fun _ _ h => h))).mono ?_
            rintro e W9 ⟨rfl, c9⟩
            have HC9 := hide ((Ch.drew (Q := fun x => x = W2.heap.size + 1 + 1) U).trans (c9.mono (fun _ _ h => h.elim)) (fun _ _ h => h))
            have c9' := (Ch.drew (Q := fun _ => False) U).trans c9 (fun _ _ h => h)
            clear c9
            go_wp2_with fail
            refine hK.out _ _ ?_ (fun zk => ?_)
            · exact HC9.out
            clear hK K
            try go_frame
            apply tk 5 tq5 rfl (by kernel_rfl) (fun _ _ _ h => h) zk
            · intro wq zq
              go_simp
              try rfl
            go_frame
            apply tk 6 tq6 rfl (by kernel_rfl) (fun _ _ _ h => h) zk
            · intro wq zq
              go_simp
              try rfl
            go_frame
            have o9 : Boxed W9 (W2.heap.size + 1 + 1) 4 (.bool true) := c9'.box b6 (fun h => h)
            have g9 := o9.cell
            have g9f := o9.frozen
            refine rd 7 tq7 rfl (by kernel_rfl) fun K hK => ?_
            go_simp
            refine hK.out _ _ ?_ (fun zk => ?_)
            · exact HC9.out.trans (Ch.set (Q := fun x => x = W2.heap.size + 1 + 1) _ rfl _ _) (fun _ _ h => h)
            clear hK K
            try go_frame
            refine wpAnyH_done (by kernel_rfl) ?_ _
            have qe := HC9.out.trans (Ch.set (Q := fun x => x = W2.heap.size + 1 + 1) W9 rfl 0 (.bool true)) (fun _ _ h => h)
            have qc : Ch (fun x => x = W2.heap.size + 1 + 1) V1 (W9.setCell ⟨W2.heap.size + 1 + 1, 0, none⟩ (.bool true)) := (c12.mono (fun _ _ h => h.elim)).trans ((hu.trans qe (fun _ _ h => Or.inr h)).mono (Q' := fun x => x = V6.heap.size ∨ x = W2.heap.size + 1 + 1) (fun _ _ h => h)) (fun x hx h => h.elim (fun e => by have := HS1.out; omega) id)
            exact ⟨f1.trans (keeps_of_ch qc (fun y hy => by omega)), f2.trans (Kc.of_ch qc (fun y hy => by omega)), ⟨qc.box f3 (fun e => by omega), o9.set _⟩, f5.trans qc (fun _ _ h => Or.inr h)⟩
          case stop3 =>
            rintro c k U hk h
            exact h.elim
        · have q3 : decide ((i : Int) + 1 < 3) = false := decide_eq_false h3
          clear h3
          gi_wp2
          exact FIN.out _ rfl
      case done2 =>
        rintro D2 V hD2 ⟨⟨b3, b4⟩, hvv⟩ hK2
        rw [List.length_map] at b3
        refine HK2.out _ _ ?_
        clear HK2
        rw [HT2.out]
        have TV := T8.ch hvv (fun x hx e => by omega)
        obtain ⟨Bv, Fv, Gv, -, hDv, -, -⟩ := TV.rings
        have HQ := hide (dr_lenq hDv)
        have kM := b3.cell
        have kO := b4.cell
        have kB := TV.bB.cell
        have HK := hide hK2
        clear hDv hK2
        go_wp2_with fail
        go_quiet ((go_at_call 17; exact HQ.out _))
        have HQW := hide (Ch.drewN (Q := fun _ => False) V nq)
        generalize V.drewN nq = V' at HQW ⊢
        have c9 := HQW.out
        have k2 : V'.heap[D2]? = some (.deferred (some [])) := c9.box HK.out (fun h => h)
        have k1 : V'.heap[D]? = some (.deferred (some [])) := c9.box (hvv.box K8 (by omega)) (fun h => h)
        have k1' : (V'.putObj D2 (.deferred none)).heap[D]? = some (.deferred (some [])) := (World.putObj_heap_other (by omega)).trans k1
        have HB9 := hide (HB8.out.trans (hvv.below (N := w.heap.size) (by omega) (fun x hx e => by omega) |>.trans (c9.below (N := w.heap.size) (by have := hvv.size; omega) (fun _ _ h => h))))
        have KK2 := hide k2
        have KK1 := hide k1'
        clear kM kO kB HQ c9 HQW k1 k2 k1'
        go_wp2_with fail
        refine ⟨by simp, .inl ⟨_, _, rfl, run_takeDeferred KK2.out, by simp, .inl ⟨_, _, rfl, run_takeDeferred KK1.out, ?_⟩⟩⟩
        exact ⟨_, results_tmp rfl _ _ _, rfl, HB9.out.trans ((belowK_b (w := w) (Nat.le_refl _) V' D2 _ _ (by omega) KK2.out rfl rfl).trans (belowK_b (w := w) (Nat.le_refl _) _ D _ _ (by omega) KK1.out rfl rfl))⟩
      case stop2 =>
        rintro D' c i W hD' hp h hK'
        exact h.elim
  refine range_is (by decide) (gf := 27) (lb := #[.pointer (some ⟨W1.heap.size, 0, none⟩)]) (by rw [HT.out]; rfl) (enters_of Try.func27 (by kernel_rfl) rfl) (stops_is 19 (by decide) T5.bX hP5) (fun h k => h.trans k) (fun W l o o' _ h hc _ => Kc.put W l o o' h hc) (fun i h => by simp)
    (fun i W => (Boxed W (W2.heap.size + 1) 3 (.int .i64 (i : Int)) ∧ Boxed W (W2.heap.size + 1 + 1) 4 (.bool true)) ∧ Ch (fun x => x = W2.heap.size + 1 ∨ x = W2.heap.size + 1 + 1) W5 W)
    (fun c i W => (c = .exit 0 ∧ (i : Int) = early) ∧ (Boxed W (W2.heap.size + 1) 3 (.int .i64 (i : Int)) ∧ Boxed W (W2.heap.size + 1 + 1) 4 (.bool true)) ∧ Ch (fun x => x = W2.heap.size + 1 ∨ x = W2.heap.size + 1 + 1) W5 W)
    (OwnFrom.and (OwnFrom.and (Own.from (boxed_own _ _ _) _) (Own.from (boxed_own _ _ _) _)) (ownFrom_ch (Nat.le_refl _)))
    (fun c => OwnFrom.and (ownFrom_pure _ _) (OwnFrom.and (OwnFrom.and (Own.from (boxed_own _ _ _) _) (Own.from (boxed_own _ _ _) _)) (ownFrom_ch (Nat.le_refl _))))
    ⟨⟨bN5, bO5⟩, Ch.refl _ _⟩
    (fun i a' W => a' = { tmps := (tm.setIfInBounds 26 (.int .i64 (xs[i]?.getD 0))).setIfInBounds 10 (.int .i64 (xs[i]?.getD 0)), defers := [] })
    (fun i a' => ownFrom_pure _ _) ?assign ?body ?done ?stop
  case assign =>
    clear cont HK1
    rintro lp i hi W K ⟨⟨b1, b2⟩, hc⟩ hK
    have hi' : i < xs.length := by simpa using hi
    obtain ⟨z, hz⟩ : ∃ z, xs[i] = z := ⟨_, rfl⟩
    rw [List.getElem?_eq_getElem hi', hz] at hK
    rw [List.getElem_map, hz]
    have HI := hide (hK _ W (keeps_of_ch (Ch.refl (fun _ => False) W) (fun _ h => h.elim)) (Kc.refl _ _) ⟨⟨b1, b2⟩, hc⟩ rfl)
    rw [HT.out] at HI ⊢
    clear hK
    gi_wp2
    exact HI.out
  case body =>
    clear cont HK1
    rintro lp i hi a' W hl ⟨r, hr⟩ ⟨⟨b1, b2⟩, hc⟩ rfl
    have hi' : i < xs.length := by simpa using hi
    have TW := T5.ch hc (fun x hx e => by omega)
    obtain ⟨Bw, Fw, Gw, -, hDw, -, -⟩ := TW.rings
    obtain ⟨a1, a2⟩ := atX_at hi'
    rw [List.getElem?_eq_getElem hi', HT.out]
    obtain ⟨z, hz⟩ : ∃ z, xs[i] = z := ⟨_, rfl⟩
    rw [hz] at a1 ⊢
    have kB := TW.bB.cell
    have k1 := b1.cell
    have HA := hide (dr_at hDw (i : Int))
    rw [a1, a2] at HA
    have HC := hide hc
    clear hDw a1 a2
    gi_wp2
    refine ⟨trivial, (CallsIn.inRound lp (callsIn_wide.2 HA.out)).mono ?_⟩
    rintro e W6 ⟨rfl, c6⟩
    have n6 : Boxed W6 (W2.heap.size + 1) 3 (.int .i64 (i : Int)) := c6.box b1 (fun h => h)
    have o6 : Boxed W6 (W2.heap.size + 1 + 1) 4 (.bool true) := c6.box b2 (fun h => h)
    have e6 : Boxed W6 (w.heap.size + 1) 3 (.int .i64 early) := c6.box TW.bE (fun h => h)
    have g1 := Boxed.cell n6
    have g1f := Boxed.frozen n6
    have g2 := Boxed.cell o6
    have g2f := Boxed.frozen o6
    have g3 := Boxed.cell e6
    clear kB k1 HA
    have FIN : ∀ W7, W7 = (W6.setCell ⟨W2.heap.size + 1 + 1, 0, none⟩ (.bool true)).setCell ⟨W2.heap.size + 1, 0, none⟩ (.int .i64 ((i : Int) + 1)) →
        KeepsFrom W5.heap.size W W7 ∧ Kc W5.heap.size W W7 ∧ (Boxed W7 (W2.heap.size + 1) 3 (.int .i64 ((i + 1 : Nat) : Int)) ∧ Boxed W7 (W2.heap.size + 1 + 1) 4 (.bool true)) ∧ Ch (fun x => x = W2.heap.size + 1 ∨ x = W2.heap.size + 1 + 1) W5 W7 := by
      rintro W7 rfl
      have q1 := Ch.set (Q := fun x => x = W2.heap.size + 1 ∨ x = W2.heap.size + 1 + 1) W6 (Or.inr rfl) 0 (.bool true)
      have q2 := Ch.set (Q := fun x => x = W2.heap.size + 1 ∨ x = W2.heap.size + 1 + 1) (W6.setCell ⟨W2.heap.size + 1 + 1, 0, none⟩ (.bool true)) (Or.inl rfl) 0 (.int .i64 ((i : Int) + 1))
      have q3 := (c6.mono (Q' := fun x => x = W2.heap.size + 1 ∨ x = W2.heap.size + 1 + 1) (fun _ _ h => h.elim)).trans (q1.trans q2 (fun _ _ h => h)) (fun _ _ h => h)
      exact ⟨keeps_of_ch q3 (fun y hy => by omega), Kc.of_ch q3 (fun y hy => by omega), ⟨(n6.other (by omega) (.bool true)).set _, (o6.set _).other (by omega) _⟩, HC.out.trans q3 (fun _ _ h => h)⟩
    replace FIN := hide FIN
    by_cases he : (i : Int) + 1 = early
    · have he' : ((i : Int) + 1 == early) = true := by simpa using he
      have HE := hide he
      clear he
      gi_wp2
      obtain ⟨q1, q2, q3⟩ := FIN.out _ rfl
      exact ⟨q1, ⟨rfl, by simpa using HE.out⟩, q3⟩
    · have he' : ((i : Int) + 1 == early) = false := by simpa using he
      clear he
      gi_wp2
      exact FIN.out _ rfl
  case done =>
    rintro D W hD ⟨⟨b1, b2⟩, hc⟩ hK
    rw [List.length_map] at b1
    exact cont D _ W (Or.inl rfl) b1 b2 hc hD hK
  case stop =>
    rintro D c i W hD hp ⟨⟨rfl, he⟩, ⟨b1, b2⟩, hc⟩ hK
    gi_wp2
    exact cont D _ W (Or.inr he) b1 b2 hc hD hK

end Go.Proofs.Ytfheeifllpnjaaa
