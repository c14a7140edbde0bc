/- The document's Bare. -/
import Derived.Test.YtnclmlhmmljfgaaGreatDoorTj
namespace Go.Proofs.YtnclmlhmmljfgaaGreatDoor
open Go.RowKit

abbrev set8 (w : World) (B : Nat) (f : Nd) (u : Value) : World := (((((((w.setCell ⟨B, 0, none⟩ (.int .i64 f.k)).setCell ⟨B, 1, none⟩ (.string f.t)).setCell ⟨B, 2, none⟩ (.int .i64 f.n)).setCell ⟨B, 3, none⟩ (.string f.y)).setCell ⟨B, 4, none⟩ (.int .i64 f.s)).setCell ⟨B, 5, none⟩ (.int .i64 f.a)).setCell ⟨B, 6, none⟩ (.int .i64 f.l)).setCell ⟨B, 7, none⟩ u
theorem Ex.set8 {X : Nat → Prop} {a w : World} {B : Nat} {f : Nd} {u : Value} (h : Ex X a w) (h1 : X B) : Ex X a (set8 w B f u) := (((((((h.setCell' h1).setCell' h1).setCell' h1).setCell' h1).setCell' h1).setCell' h1).setCell' h1).setCell' h1

set_option maxHeartbeats 8000000 in
theorem rbare_all (n : Nat) (hn : n ≤ 65536) : ∀ (t : Tr) (w : World) (v : Value) (m : Md) (S : Nat → Prop), cnt t ≤ n → Kids w m S v t.ks → (∀ i, S i → i < w.heap.size) →
    Calls Tryz.prog 21 #[nv t.f v] w fun e w' => ∃ v', e = .returned (nv (bareF t.f) v') ∧ Below w.heap.size w w' ∧ Kids w' ⟨true, false⟩ (fun i => w.heap.size ≤ i ∧ i < w'.heap.size) v' (bares t.ks) := by
  induction n with
  | zero => intro t w v m S h; have := cnt_pos t; omega
  | succ n ih =>
    intro t w v m S hc hv hS
    obtain ⟨i0, hi0, hz0, hz1, hz2⟩ := info_parts Tryz.infoN
    obtain ⟨A, ca, ba, oa, rfl, hla, hA, hra⟩ := hv.form
    have hll : t.ks.length ≤ 65536 := by
      have h1 := len_le_cnts t.ks
      obtain ⟨f, ks⟩ := t
      unfold cnt at hc
      simp only [Tr.ks] at h1 ⊢
      omega
    have HIH := hide (ih (by omega))
    have HA := hide hA
    have HC := hide hc
    have HI0 := hide hi0
    have HZ0 := hide hz0
    have HZ1 := hide hz1
    have HZ2 := hide hz2
    clear hv hA hc ih hi0 hz0 hz1 hz2
    cases hmk : mrk t.f.k
    · have HMK := hide hmk
      clear hmk
      have ey : (bareF t.f).y = t.f.y := by unfold bareF; rw [unhide HMK]; rfl
      have EY := hide ey
      clear ey
      go_enter Tryz.func21, Tryz.ntmps21
      go_wp2_with (go_at_call 36; refine (rmarked_is (unhide HMK) _).mono ?_; rintro e w' ⟨rfl, rfl⟩)
      obtain ⟨w1, hw1, HB1, HX1, hs1⟩ := boxed w t.f (.slice A t.ks.length ca)
      rw [hw1]
      clear hw1
      obtain ⟨w2, hw2, HB2, HX2, hs2⟩ := boxed w1 zNd (.slice none 0 0)
      unfold zNd at hw2
      rw [hw2]
      clear hw2
      obtain ⟨w3, hw3, HB3, HX3, hs3⟩ := boxed w2 (bareF t.f) (.slice none 0 0)
      have hw4 : w2.alloc (.cells #[.int .i64 t.f.k, .string t.f.t, .int .i64 t.f.n, .string t.f.y, .int .i64 0, .int .i64 0, .int .i64 0, .slice none 0 0] 25) = w3 := by
        rw [← unhide EY]
        exact hw3
      rw [hw4]
      clear hw3 hw4
      rw [hs1] at HX2 hs2
      rw [hs2] at HX3 hs3
      have HX1 := hide (((unhide HX1).below (unhide HB2) (by omega)).below (unhide HB3) (by omega))
      have HX2 := hide ((unhide HX2).below (unhide HB3) (by omega))
      have HBw := hide ((unhide HB1).trans (((unhide HB2).trans ((unhide HB3).mono (by omega))).mono (by omega)))
      clear HB1 HB2 HB3
      go_loopw [5] (fun i wr => ∃ (k : Nat) (vo : Value) (L : List (Nd × Value)), k ≤ t.ks.length ∧ i = .int .i64 k ∧ CpI w3 wr (w.heap.size + 1 + 1) (bareF t.f) (bares t.ks) false k vo L) (fun i _ => t.ks.length - (intOf i).toNat)
      case atStart => exact ⟨0, _, _, Nat.zero_le _, rfl, CpI.start _ _ (unhide HX3)⟩
      case round =>
        obtain ⟨k, vo, L, hk, rfl, hcp⟩ := hrel
        have HCP := hide hcp
        have hsz := hcp.ex.size
        have hbxo := hcp.box.cell.2.2.2.2.2.2.2
        have hfro := hcp.box.froz
        have hBr := hcp.box.lt
        have HX1 := hide ((unhide HX1).ex hcp.ex (by omega))
        have HX2 := hide ((unhide HX2).ex hcp.ex (by omega))
        have hgov := hcp.own.blk
        have HGO := hide hgov
        have hnX : ∀ i, i < w3.heap.size → i ≠ w.heap.size + 1 + 1 → ¬ (i = w.heap.size + 1 + 1 ∨ vo.ownBlock = some i) := fun i h1 h2 h3 => by
          rcases h3 with h3 | h3
          · exact h2 h3
          · have := (hgov i h3).1; omega
        have HNX := hide hnX
        have HNB := hide (show vo.ownBlock ≠ some (w.heap.size + 1 + 1) from fun e => by have := (hgov _ e).1; omega)
        clear hcp hgov hnX
        have x7 := (unhide HX1).cell.2.2.2.2.2.2.2
        by_cases hkl : k < t.ks.length
        · obtain ⟨rfl, hba, _⟩ := unhide HA (by omega)
          have hbaw : ba < w.heap.size := hS ba hba
          obtain ⟨va', HCa, HKa⟩ := ((hra.agree (Agree.of_below (unhide HBw) hS) hba).get k hkl).cs
          have HKw := hide ((unhide HKa).agree ((unhide HCP).ex.agree fun i hi => by have := hS i hi; exact ⟨by omega, by omega⟩))
          have HCw := hide ((unhide HCa).agree ((unhide HCP).ex.agree (S := fun i => i = ba) fun i hi => by subst hi; exact ⟨by omega, by omega⟩) rfl)
          have HCN := hide (cnts_lt (unhide HC) hkl)
          have HKL := hide (show k < (bares t.ks).length by rw [bares_len]; exact hkl)
          have hbt : (bares t.ks)[k]'(unhide HKL) = bareT t.ks[k] := by
            have h := bares_at t.ks k hkl
            rw [List.getElem?_eq_getElem (unhide HKL)] at h
            exact Option.some.inj h
          have HBK := hide (show ((bares t.ks)[k]'(unhide HKL)).ks = bares t.ks[k].ks by rw [hbt]; cases t.ks[k]; rfl)
          have HBF := hide (show ((bares t.ks)[k]'(unhide HKL)).f = bareF t.ks[k].f by rw [hbt]; cases t.ks[k]; rfl)
          have i0' : (0 : Int) ≤ (k : Int) := by omega
          have i1 : (k : Int) < (t.ks.length : Int) := by omega
          have hLk : L.length = k := (unhide HCP).len
          have HM1 := hide (show L.length + 1 ≤ maxLen by unfold maxLen; omega)
          have HM2 := hide (show (L.length + 1) * 96 ≤ 140737488355328 by omega)
          clear hLk hbt
          go_wp2
          refine wp_region_held_drew (S := Ex (fun i => i = w.heap.size + 1 + 1 ∨ vo.ownBlock = some i) wr) (by kernel_rfl) ?_ (fun hHeld => ?_)
          · exact Ex.drew _ _
          refine wpAnyH_take (i := 0) (oi := { dst := some 28, op := Op.fieldAddr 25 (Operand.tmp 3) 7, type := 0, pos := "ref.go:391", after := #[], guard := none }) (v := ?_) rfl (by kernel_rfl) (by kernel_rfl) (by kernel_rfl) (fun _ _ _ h => h) (Or.inl ⟨by rfl, ?_⟩) (by assumption) ?_
          rotate_left
          · intro wq hSw
            go_simp
            try (with_reducible rfl)
          go_frame
          refine wpAnyH_take (i := 2) (oi := { dst := some 30, op := Op.fieldAddr 25 (Operand.tmp 1) 7, type := 0, pos := "ref.go:391", after := #[], guard := none }) (v := ?_) rfl (by kernel_rfl) (by kernel_rfl) (by kernel_rfl) (fun _ _ _ h => h) (Or.inl ⟨by rfl, ?_⟩) (by assumption) ?_
          rotate_left
          · intro wq hSw
            go_simp
            try (with_reducible rfl)
          go_frame
          refine wpAnyH_take (i := 3) (oi := { dst := some 31, op := Op.load 23 (Operand.tmp 30), type := 23, pos := "ref.go:391", after := #[{ on := 2, ground := Ground.data }], guard := none }) (v := ?_) rfl (by kernel_rfl) (by kernel_rfl) (by kernel_rfl) (fun _ _ _ h => h) (Or.inl ⟨by rfl, ?_⟩) (by assumption) ?_
          rotate_left
          · intro wq hSw
            obtain ⟨x0, x1, x2, x3, x4, x5, x6, x7⟩ := ((unhide HX1).ex hSw (unhide HNX _ (by omega) (by omega))).cell
            go_simp
            try (with_reducible rfl)
          go_frame
          refine wpAnyH_take (i := 4) (oi := { dst := some 32, op := Op.move (Operand.tmp 5), type := 3, pos := "ref.go:391", after := #[], guard := none }) (v := ?_) rfl (by kernel_rfl) (by kernel_rfl) (by kernel_rfl) (fun _ _ _ h => h) (Or.inl ⟨by rfl, ?_⟩) (by assumption) ?_
          rotate_left
          · intro wq hSw
            go_simp
            try (with_reducible rfl)
          go_frame
          refine wpAnyH_take (i := 5) (oi := { dst := some 33, op := Op.indexAddr 23 (Operand.tmp 31) (Operand.tmp 32), type := 0, pos := "ref.go:391", after := #[{ on := 3, ground := Ground.data }, { on := 4, ground := Ground.data }], guard := none }) (v := ?_) rfl (by kernel_rfl) (by kernel_rfl) (by kernel_rfl) (fun _ _ _ h => h) (Or.inl ⟨by rfl, ?_⟩) (by assumption) ?_
          rotate_left
          · intro wq hSw
            go_simp
            try (with_reducible rfl)
          go_frame
          refine wpAnyH_take (i := 6) (oi := { dst := some 34, op := Op.load 25 (Operand.tmp 33), type := 25, pos := "ref.go:391", after := #[{ on := 5, ground := Ground.data }], guard := none }) (v := ?_) rfl (by kernel_rfl) (by kernel_rfl) (by kernel_rfl) (fun _ _ _ h => h) (Or.inl ⟨by rfl, ?_⟩) (by assumption) ?_
          rotate_left
          · intro wq hSw
            obtain ⟨y0, y1, y2, y3, y4, y5, y6, y7⟩ := (unhide HCw).agree (hSw.agree (S := fun i => i = ba) fun i hi => by subst hi; exact ⟨by omega, unhide HNX _ (by omega) (by omega)⟩) rfl
            go_simp
            try (with_reducible rfl)
          go_frame
          refine wpAnyH_ready (rs := [1, 7]) (by kernel_rfl) (by simp) ?_
          refine AllReadyH.cons (o := { dst := some 29, op := Op.load 23 (Operand.tmp 28), type := 23, pos := "ref.go:391", after := #[{ on := 0, ground := Ground.data }], guard := none }) rfl (fun K hK => ?_) (AllReadyH.cons (o := { dst := some 35, op := Op.call { callee := Callee.value (Operand.func 21), args := #[Operand.tmp 34], argTypes := #[25] }, type := 25, pos := "ref.go:391", after := #[{ on := 6, ground := Ground.data }], guard := none }) rfl (fun K hK => ?_) AllReadyH.nil)
          · go_simp
            refine hK.out _ _ ?_ (fun hHeld => ?_)
            · exact hHeld
            clear hK K
            try go_frame
            refine wpAnyH_ready (rs := [7]) (by kernel_rfl) (by simp) ?_
            refine AllReadyH.cons (o := { dst := some 35, op := Op.call { callee := Callee.value (Operand.func 21), args := #[Operand.tmp 34], argTypes := #[25] }, type := 25, pos := "ref.go:391", after := #[{ on := 6, ground := Ground.data }], guard := none }) rfl (fun K hK => ?_) AllReadyH.nil
            go_simp
            refine (unhide HIH t.ks[k] _ va' m S (unhide HCN) ((unhide HKw).agree (Agree.of_below (below_drw wr) fun i hi => by have := hS i hi; omega)) (fun i hi => by have := hS i hi; show i < wr.heap.size; omega)).mono ?_
            rintro e w5 ⟨v5, rfl, b5, hk5⟩
            have HB5 := hide (below_undrew b5)
            have HK5 : Hid (Kids w5 ⟨true, false⟩ (fun i => wr.heap.size ≤ i ∧ i < w5.heap.size) v5 (bares t.ks[k].ks)) := hide hk5
            have hs5 := (unhide HB5).size
            have hb5 : w5.cell? ⟨w.heap.size + 1 + 1, 7, none⟩ = some vo := ((unhide HB5).cell (p := ⟨w.heap.size + 1 + 1, 7, none⟩) hBr).trans hbxo
            have hb6 : ∀ o, (w5.alloc o).cell? ⟨w.heap.size + 1 + 1, 7, none⟩ = some vo := fun o => (World.cell?_alloc_lt _ _ _ (by show w.heap.size + 1 + 1 < _; omega)).trans hb5
            clear b5 hk5
            go_wp2_with fail
            refine hK.out _ _ ?_ (fun hHeld => ?_)
            · exact hHeld.trans (Ex.of_below ⟨(unhide HB5).os, (unhide HB5).tape, (unhide HB5).output, (unhide HB5).size, (unhide HB5).block⟩)
            clear hK K
            try go_frame
            refine wpAnyH_ready (rs := [8]) (by kernel_rfl) (by simp) ?_
            refine AllReadyH.cons (o := { dst := some 36, op := Op.buildSlice 23 1 #[(0, Operand.tmp 35)], type := 23, pos := "ref.go:391", after := #[{ on := 7, ground := Ground.data }], guard := none }) rfl (fun K hK => ?_) AllReadyH.nil
            go_simp
            refine hK.out _ _ ?_ (fun hHeld => ?_)
            · exact hHeld.trans (Ex.of_below ((Below.refl _ _).alloc (Nat.le_refl _) _))
            clear hK K
            try go_frame
            refine wpAnyH_ready (rs := [9]) (by kernel_rfl) (by simp) ?_
            refine AllReadyH.cons (o := { dst := some 37, op := Op.call { callee := Callee.builtin Builtin.append, args := #[Operand.tmp 29, Operand.tmp 36], argTypes := #[23, 23] }, type := 23, pos := "ref.go:391", after := #[{ on := 1, ground := Ground.data }, { on := 8, ground := Ground.data }, { on := 7, ground := Ground.chain }], guard := none }) rfl (fun K hK => ?_) AllReadyH.nil
            refine step_append_at rfl (.tmp 29) (.tmp 36) 23 rfl w3.heap.size 25 i0 (.agg #[.int .i64 0, .string ⟨#[]⟩, .int .i64 0, .string ⟨#[]⟩, .int .i64 0, .int .i64 0, .int .i64 0, .slice none 0 0]) 8 96 Tryz.underlying23 (unhide HI0) (unhide HZ0) (unhide HZ1) (unhide HZ2) rfl (by decide) vo L.length (rowC L) rfl (((unhide HCP).own.same fun g hg => (unhide HB5).block g (unhide HGO g hg).2).same fun g hg => ((Below.refl w5.heap.size w5).alloc (Nat.le_refl _) _).block g (by have := (unhide HGO g hg).2; omega)) ⟨w5.heap.size, 0, none⟩ 1 1 (ncs (bareF t.ks[k].f, v5)) rfl rfl (node_new w5 _ _) (node_one _ (unhide HK5).oneCell) (unhide HM1) (unhide HM2) (by rw [World.size_alloc]; omega) ?_
            intro v7 w7 ho7 hg7 hl7
            obtain ⟨g7, cap7, rfl⟩ := own_form ho7
            have HO7 := hide ho7
            have HG7 := hide hg7
            have HL7 := hide hl7
            have hb7 : w7.cell? ⟨w.heap.size + 1 + 1, 7, none⟩ = some vo := (World.cell?_of_block (hg7.block _ (by rw [World.size_alloc]; show w.heap.size + 1 + 1 < _; omega) fun e => unhide HNB e.symm)).trans (hb6 _)
            have hf7 : w7.frozen? ⟨w.heap.size + 1 + 1, 7, none⟩ = false := ((World.frozen?_of_block (hg7.block _ (by rw [World.size_alloc]; show w.heap.size + 1 + 1 < _; omega) fun e => unhide HNB e.symm)).trans (World.frozen?_of_block (((Below.refl w5.heap.size w5).alloc (Nat.le_refl _) _).block _ (by show w.heap.size + 1 + 1 < _; omega)))).trans ((World.frozen?_of_block ((unhide HB5).block _ hBr)).trans (hfro 7))
            clear ho7 hg7 hl7
            refine hK.out _ _ ?_ (fun hHeld => ?_)
            · exact hHeld.trans (Ex.of_grown (unhide HG7) fun i e => Or.inr e)
            clear hK K
            try go_frame
            refine wpAnyH_take (i := 10) (oi := { dst := some 38, op := Op.fieldAddr 25 (Operand.tmp 3) 7, type := 0, pos := "ref.go:391", after := #[{ on := 0, ground := Ground.phase }, { on := 1, ground := Ground.phase }, { on := 2, ground := Ground.phase }, { on := 3, ground := Ground.phase }, { on := 4, ground := Ground.phase }, { on := 5, ground := Ground.phase }, { on := 6, ground := Ground.phase }, { on := 7, ground := Ground.phase }, { on := 8, ground := Ground.phase }, { on := 9, ground := Ground.phase }], guard := none }) (v := ?_) rfl (by kernel_rfl) (by kernel_rfl) (by kernel_rfl) (fun _ _ _ h => h) (Or.inl ⟨by rfl, ?_⟩) (by assumption) ?_
            rotate_left
            · intro wq hSw
              go_simp
              try (with_reducible rfl)
            go_frame
            refine wpAnyH_ready (rs := [11]) (by kernel_rfl) (by simp) ?_
            refine AllReadyH.cons (o := { dst := none, op := Op.store 23 (Operand.tmp 38) (Operand.tmp 37), type := 0, pos := "ref.go:391", after := #[{ on := 10, ground := Ground.data }, { on := 9, ground := Ground.data }, { on := 9, ground := Ground.chain }, { on := 0, ground := Ground.phase }, { on := 1, ground := Ground.phase }, { on := 2, ground := Ground.phase }, { on := 3, ground := Ground.phase }, { on := 4, ground := Ground.phase }, { on := 5, ground := Ground.phase }, { on := 6, ground := Ground.phase }, { on := 7, ground := Ground.phase }, { on := 8, ground := Ground.phase }, { on := 9, ground := Ground.phase }], guard := none }) rfl (fun K hK => ?_) AllReadyH.nil
            go_simp
            refine hK.out _ _ ?_ (fun hHeld => ?_)
            · exact hHeld.trans (Ex.setCell _ _ _ _ (Or.inl rfl))
            clear hK K
            try go_frame
            refine wpAnyH_done (by kernel_rfl) ?_ _
            go_wp2
            go_roundw
            case rel => exact ⟨k + 1, _, _, by omega, by go_num, (unhide HCP).step (by omega) (unhide HKL) (unhide HB5) (by rw [unhide HBK]; exact unhide HK5) (by rw [unhide HBF]; exact unhide HO7) (unhide HG7) (unhide HL7)⟩
            case measure => simp [intOf]; omega
          · go_simp
            refine (unhide HIH t.ks[k] _ va' m S (unhide HCN) ((unhide HKw).agree (Agree.of_below (below_drw wr) fun i hi => by have := hS i hi; omega)) (fun i hi => by have := hS i hi; show i < wr.heap.size; omega)).mono ?_
            rintro e w5 ⟨v5, rfl, b5, hk5⟩
            have HB5 := hide (below_undrew b5)
            have HK5 : Hid (Kids w5 ⟨true, false⟩ (fun i => wr.heap.size ≤ i ∧ i < w5.heap.size) v5 (bares t.ks[k].ks)) := hide hk5
            have hs5 := (unhide HB5).size
            have hb5 : w5.cell? ⟨w.heap.size + 1 + 1, 7, none⟩ = some vo := ((unhide HB5).cell (p := ⟨w.heap.size + 1 + 1, 7, none⟩) hBr).trans hbxo
            have hb6 : ∀ o, (w5.alloc o).cell? ⟨w.heap.size + 1 + 1, 7, none⟩ = some vo := fun o => (World.cell?_alloc_lt _ _ _ (by show w.heap.size + 1 + 1 < _; omega)).trans hb5
            clear b5 hk5
            go_wp2_with fail
            refine hK.out _ _ ?_ (fun hHeld => ?_)
            · exact hHeld.trans (Ex.of_below ⟨(unhide HB5).os, (unhide HB5).tape, (unhide HB5).output, (unhide HB5).size, (unhide HB5).block⟩)
            clear hK K
            try go_frame
            refine wpAnyH_ready (rs := [1, 8]) (by kernel_rfl) (by simp) ?_
            refine AllReadyH.cons (o := { dst := some 29, op := Op.load 23 (Operand.tmp 28), type := 23, pos := "ref.go:391", after := #[{ on := 0, ground := Ground.data }], guard := none }) rfl (fun K hK => ?_) (AllReadyH.cons (o := { dst := some 36, op := Op.buildSlice 23 1 #[(0, Operand.tmp 35)], type := 23, pos := "ref.go:391", after := #[{ on := 7, ground := Ground.data }], guard := none }) rfl (fun K hK => ?_) AllReadyH.nil)
            · go_simp
              refine hK.out _ _ ?_ (fun hHeld => ?_)
              · exact hHeld
              clear hK K
              try go_frame
              refine wpAnyH_ready (rs := [8]) (by kernel_rfl) (by simp) ?_
              refine AllReadyH.cons (o := { dst := some 36, op := Op.buildSlice 23 1 #[(0, Operand.tmp 35)], type := 23, pos := "ref.go:391", after := #[{ on := 7, ground := Ground.data }], guard := none }) rfl (fun K hK => ?_) AllReadyH.nil
              go_simp
              refine hK.out _ _ ?_ (fun hHeld => ?_)
              · exact hHeld.trans (Ex.of_below ((Below.refl _ _).alloc (Nat.le_refl _) _))
              clear hK K
              try go_frame
              refine wpAnyH_ready (rs := [9]) (by kernel_rfl) (by simp) ?_
              refine AllReadyH.cons (o := { dst := some 37, op := Op.call { callee := Callee.builtin Builtin.append, args := #[Operand.tmp 29, Operand.tmp 36], argTypes := #[23, 23] }, type := 23, pos := "ref.go:391", after := #[{ on := 1, ground := Ground.data }, { on := 8, ground := Ground.data }, { on := 7, ground := Ground.chain }], guard := none }) rfl (fun K hK => ?_) AllReadyH.nil
              refine step_append_at rfl (.tmp 29) (.tmp 36) 23 rfl w3.heap.size 25 i0 (.agg #[.int .i64 0, .string ⟨#[]⟩, .int .i64 0, .string ⟨#[]⟩, .int .i64 0, .int .i64 0, .int .i64 0, .slice none 0 0]) 8 96 Tryz.underlying23 (unhide HI0) (unhide HZ0) (unhide HZ1) (unhide HZ2) rfl (by decide) vo L.length (rowC L) rfl (((unhide HCP).own.same fun g hg => (unhide HB5).block g (unhide HGO g hg).2).same fun g hg => ((Below.refl w5.heap.size w5).alloc (Nat.le_refl _) _).block g (by have := (unhide HGO g hg).2; omega)) ⟨w5.heap.size, 0, none⟩ 1 1 (ncs (bareF t.ks[k].f, v5)) rfl rfl (node_new w5 _ _) (node_one _ (unhide HK5).oneCell) (unhide HM1) (unhide HM2) (by rw [World.size_alloc]; omega) ?_
              intro v7 w7 ho7 hg7 hl7
              obtain ⟨g7, cap7, rfl⟩ := own_form ho7
              have HO7 := hide ho7
              have HG7 := hide hg7
              have HL7 := hide hl7
              have hb7 : w7.cell? ⟨w.heap.size + 1 + 1, 7, none⟩ = some vo := (World.cell?_of_block (hg7.block _ (by rw [World.size_alloc]; show w.heap.size + 1 + 1 < _; omega) fun e => unhide HNB e.symm)).trans (hb6 _)
              have hf7 : w7.frozen? ⟨w.heap.size + 1 + 1, 7, none⟩ = false := ((World.frozen?_of_block (hg7.block _ (by rw [World.size_alloc]; show w.heap.size + 1 + 1 < _; omega) fun e => unhide HNB e.symm)).trans (World.frozen?_of_block (((Below.refl w5.heap.size w5).alloc (Nat.le_refl _) _).block _ (by show w.heap.size + 1 + 1 < _; omega)))).trans ((World.frozen?_of_block ((unhide HB5).block _ hBr)).trans (hfro 7))
              clear ho7 hg7 hl7
              refine hK.out _ _ ?_ (fun hHeld => ?_)
              · exact hHeld.trans (Ex.of_grown (unhide HG7) fun i e => Or.inr e)
              clear hK K
              try go_frame
              refine wpAnyH_take (i := 10) (oi := { dst := some 38, op := Op.fieldAddr 25 (Operand.tmp 3) 7, type := 0, pos := "ref.go:391", after := #[{ on := 0, ground := Ground.phase }, { on := 1, ground := Ground.phase }, { on := 2, ground := Ground.phase }, { on := 3, ground := Ground.phase }, { on := 4, ground := Ground.phase }, { on := 5, ground := Ground.phase }, { on := 6, ground := Ground.phase }, { on := 7, ground := Ground.phase }, { on := 8, ground := Ground.phase }, { on := 9, ground := Ground.phase }], guard := none }) (v := ?_) rfl (by kernel_rfl) (by kernel_rfl) (by kernel_rfl) (fun _ _ _ h => h) (Or.inl ⟨by rfl, ?_⟩) (by assumption) ?_
              rotate_left
              · intro wq hSw
                go_simp
                try (with_reducible rfl)
              go_frame
              refine wpAnyH_ready (rs := [11]) (by kernel_rfl) (by simp) ?_
              refine AllReadyH.cons (o := { dst := none, op := Op.store 23 (Operand.tmp 38) (Operand.tmp 37), type := 0, pos := "ref.go:391", after := #[{ on := 10, ground := Ground.data }, { on := 9, ground := Ground.data }, { on := 9, ground := Ground.chain }, { on := 0, ground := Ground.phase }, { on := 1, ground := Ground.phase }, { on := 2, ground := Ground.phase }, { on := 3, ground := Ground.phase }, { on := 4, ground := Ground.phase }, { on := 5, ground := Ground.phase }, { on := 6, ground := Ground.phase }, { on := 7, ground := Ground.phase }, { on := 8, ground := Ground.phase }, { on := 9, ground := Ground.phase }], guard := none }) rfl (fun K hK => ?_) AllReadyH.nil
              go_simp
              refine hK.out _ _ ?_ (fun hHeld => ?_)
              · exact hHeld.trans (Ex.setCell _ _ _ _ (Or.inl rfl))
              clear hK K
              try go_frame
              refine wpAnyH_done (by kernel_rfl) ?_ _
              go_wp2
              go_roundw
              case rel => exact ⟨k + 1, _, _, by omega, by go_num, (unhide HCP).step (by omega) (unhide HKL) (unhide HB5) (by rw [unhide HBK]; exact unhide HK5) (by rw [unhide HBF]; exact unhide HO7) (unhide HG7) (unhide HL7)⟩
              case measure => simp [intOf]; omega
            · go_simp
              refine hK.out _ _ ?_ (fun hHeld => ?_)
              · exact hHeld.trans (Ex.of_below ((Below.refl _ _).alloc (Nat.le_refl _) _))
              clear hK K
              try go_frame
              refine wpAnyH_ready (rs := [1]) (by kernel_rfl) (by simp) ?_
              refine AllReadyH.cons (o := { dst := some 29, op := Op.load 23 (Operand.tmp 28), type := 23, pos := "ref.go:391", after := #[{ on := 0, ground := Ground.data }], guard := none }) rfl (fun K hK => ?_) AllReadyH.nil
              go_simp
              refine hK.out _ _ ?_ (fun hHeld => ?_)
              · exact hHeld
              clear hK K
              try go_frame
              refine wpAnyH_ready (rs := [9]) (by kernel_rfl) (by simp) ?_
              refine AllReadyH.cons (o := { dst := some 37, op := Op.call { callee := Callee.builtin Builtin.append, args := #[Operand.tmp 29, Operand.tmp 36], argTypes := #[23, 23] }, type := 23, pos := "ref.go:391", after := #[{ on := 1, ground := Ground.data }, { on := 8, ground := Ground.data }, { on := 7, ground := Ground.chain }], guard := none }) rfl (fun K hK => ?_) AllReadyH.nil
              refine step_append_at rfl (.tmp 29) (.tmp 36) 23 rfl w3.heap.size 25 i0 (.agg #[.int .i64 0, .string ⟨#[]⟩, .int .i64 0, .string ⟨#[]⟩, .int .i64 0, .int .i64 0, .int .i64 0, .slice none 0 0]) 8 96 Tryz.underlying23 (unhide HI0) (unhide HZ0) (unhide HZ1) (unhide HZ2) rfl (by decide) vo L.length (rowC L) rfl (((unhide HCP).own.same fun g hg => (unhide HB5).block g (unhide HGO g hg).2).same fun g hg => ((Below.refl w5.heap.size w5).alloc (Nat.le_refl _) _).block g (by have := (unhide HGO g hg).2; omega)) ⟨w5.heap.size, 0, none⟩ 1 1 (ncs (bareF t.ks[k].f, v5)) rfl rfl (node_new w5 _ _) (node_one _ (unhide HK5).oneCell) (unhide HM1) (unhide HM2) (by rw [World.size_alloc]; omega) ?_
              intro v7 w7 ho7 hg7 hl7
              obtain ⟨g7, cap7, rfl⟩ := own_form ho7
              have HO7 := hide ho7
              have HG7 := hide hg7
              have HL7 := hide hl7
              have hb7 : w7.cell? ⟨w.heap.size + 1 + 1, 7, none⟩ = some vo := (World.cell?_of_block (hg7.block _ (by rw [World.size_alloc]; show w.heap.size + 1 + 1 < _; omega) fun e => unhide HNB e.symm)).trans (hb6 _)
              have hf7 : w7.frozen? ⟨w.heap.size + 1 + 1, 7, none⟩ = false := ((World.frozen?_of_block (hg7.block _ (by rw [World.size_alloc]; show w.heap.size + 1 + 1 < _; omega) fun e => unhide HNB e.symm)).trans (World.frozen?_of_block (((Below.refl w5.heap.size w5).alloc (Nat.le_refl _) _).block _ (by show w.heap.size + 1 + 1 < _; omega)))).trans ((World.frozen?_of_block ((unhide HB5).block _ hBr)).trans (hfro 7))
              clear ho7 hg7 hl7
              refine hK.out _ _ ?_ (fun hHeld => ?_)
              · exact hHeld.trans (Ex.of_grown (unhide HG7) fun i e => Or.inr e)
              clear hK K
              try go_frame
              refine wpAnyH_take (i := 10) (oi := { dst := some 38, op := Op.fieldAddr 25 (Operand.tmp 3) 7, type := 0, pos := "ref.go:391", after := #[{ on := 0, ground := Ground.phase }, { on := 1, ground := Ground.phase }, { on := 2, ground := Ground.phase }, { on := 3, ground := Ground.phase }, { on := 4, ground := Ground.phase }, { on := 5, ground := Ground.phase }, { on := 6, ground := Ground.phase }, { on := 7, ground := Ground.phase }, { on := 8, ground := Ground.phase }, { on := 9, ground := Ground.phase }], guard := none }) (v := ?_) rfl (by kernel_rfl) (by kernel_rfl) (by kernel_rfl) (fun _ _ _ h => h) (Or.inl ⟨by rfl, ?_⟩) (by assumption) ?_
              rotate_left
              · intro wq hSw
                go_simp
                try (with_reducible rfl)
              go_frame
              refine wpAnyH_ready (rs := [11]) (by kernel_rfl) (by simp) ?_
              refine AllReadyH.cons (o := { dst := none, op := Op.store 23 (Operand.tmp 38) (Operand.tmp 37), type := 0, pos := "ref.go:391", after := #[{ on := 10, ground := Ground.data }, { on := 9, ground := Ground.data }, { on := 9, ground := Ground.chain }, { on := 0, ground := Ground.phase }, { on := 1, ground := Ground.phase }, { on := 2, ground := Ground.phase }, { on := 3, ground := Ground.phase }, { on := 4, ground := Ground.phase }, { on := 5, ground := Ground.phase }, { on := 6, ground := Ground.phase }, { on := 7, ground := Ground.phase }, { on := 8, ground := Ground.phase }, { on := 9, ground := Ground.phase }], guard := none }) rfl (fun K hK => ?_) AllReadyH.nil
              go_simp
              refine hK.out _ _ ?_ (fun hHeld => ?_)
              · exact hHeld.trans (Ex.setCell _ _ _ _ (Or.inl rfl))
              clear hK K
              try go_frame
              refine wpAnyH_done (by kernel_rfl) ?_ _
              go_wp2
              go_roundw
              case rel => exact ⟨k + 1, _, _, by omega, by go_num, (unhide HCP).step (by omega) (unhide HKL) (unhide HB5) (by rw [unhide HBK]; exact unhide HK5) (by rw [unhide HBF]; exact unhide HO7) (unhide HG7) (unhide HL7)⟩
              case measure => simp [intOf]; omega
        · obtain rfl : k = t.ks.length := by omega
          have hLk : L.length = t.ks.length := (unhide HCP).len
          obtain ⟨o0, o1, o2, o3, o4, o5, o6, o7⟩ := (unhide HCP).box.cell
          obtain ⟨r0, r1, r2, r3, r4, r5, r6, r7⟩ := (unhide HX2).cell
          have fr := (unhide HX2).froz
          have HKD := hide (show Kids wr ⟨true, false⟩ (fun i => w3.heap.size ≤ i ∧ i < wr.heap.size) vo (bares t.ks) from (unhide HCP).own.kids (by rw [bares_len]; exact hLk) (fun g hg => unhide HGO g hg) (by rw [bares_len]; exact hll) (fun i h h' => ⟨((unhide HCP).kid i h h').1, ((unhide HCP).kid i h h').2.mono fun j hj => ⟨hj.1, hj.2.1⟩⟩) rfl)
          obtain ⟨ao, co, rfl, _⟩ := (unhide HCP).own.form
          clear hLk hbxo hfro
          go_wp2
          refine bodyPost_ret (v := nv (bareF t.f) (.slice ao L.length co)) (by simp [results, Tryz.results21, go_sem, r0, r1, r2, r3, r4, r5, r6, r7]) rfl ⟨_, rfl, ?_, ?_⟩
          · exact (((unhide HCP).ex.mono (Y := fun i => w.heap.size ≤ i) fun i _ e => by omega).set8 (B := w.heap.size + 1) (by omega)).below (unhide HBw) (fun i hi => by omega) (by omega)
          · have hx := (Ex.refl (fun i => i = w.heap.size + 1) wr).set8 (B := w.heap.size + 1) (f := bareF t.f) (u := .slice ao L.length co) rfl
            have hz := hx.size
            exact ((unhide HKD).agree (hx.agree fun i hi => ⟨hi.2, fun h => by omega⟩)).mono fun i hi => ⟨by omega, Nat.lt_of_lt_of_le hi.2 hz⟩
    · have HMK := hide hmk
      clear hmk
      have ey : (bareF t.f).y = ⟨#[]⟩ := by unfold bareF; rw [unhide HMK]; rfl
      have EY := hide ey
      clear ey
      go_enter Tryz.func21, Tryz.ntmps21
      go_wp2_with (go_at_call 36; refine (rmarked_is (unhide HMK) _).mono ?_; rintro e w' ⟨rfl, rfl⟩)
      obtain ⟨w1, hw1, HB1, HX1, hs1⟩ := boxed w t.f (.slice A t.ks.length ca)
      rw [hw1]
      clear hw1
      obtain ⟨w2, hw2, HB2, HX2, hs2⟩ := boxed w1 zNd (.slice none 0 0)
      unfold zNd at hw2
      rw [hw2]
      clear hw2
      obtain ⟨w3, hw3, HB3, HX3, hs3⟩ := boxed w2 (bareF t.f) (.slice none 0 0)
      have hw4 : w2.alloc (.cells #[.int .i64 t.f.k, .string t.f.t, .int .i64 t.f.n, .string ⟨#[]⟩, .int .i64 0, .int .i64 0, .int .i64 0, .slice none 0 0] 25) = w3 := by
        rw [← unhide EY]
        exact hw3
      rw [hw4]
      clear hw3 hw4
      rw [hs1] at HX2 hs2
      rw [hs2] at HX3 hs3
      have HX1 := hide (((unhide HX1).below (unhide HB2) (by omega)).below (unhide HB3) (by omega))
      have HX2 := hide ((unhide HX2).below (unhide HB3) (by omega))
      have HBw := hide ((unhide HB1).trans (((unhide HB2).trans ((unhide HB3).mono (by omega))).mono (by omega)))
      clear HB1 HB2 HB3
      go_loopw [5] (fun i wr => ∃ (k : Nat) (vo : Value) (L : List (Nd × Value)), k ≤ t.ks.length ∧ i = .int .i64 k ∧ CpI w3 wr (w.heap.size + 1 + 1) (bareF t.f) (bares t.ks) false k vo L) (fun i _ => t.ks.length - (intOf i).toNat)
      case atStart => exact ⟨0, _, _, Nat.zero_le _, rfl, CpI.start _ _ (unhide HX3)⟩
      case round =>
        obtain ⟨k, vo, L, hk, rfl, hcp⟩ := hrel
        have HCP := hide hcp
        have hsz := hcp.ex.size
        have hbxo := hcp.box.cell.2.2.2.2.2.2.2
        have hfro := hcp.box.froz
        have hBr := hcp.box.lt
        have HX1 := hide ((unhide HX1).ex hcp.ex (by omega))
        have HX2 := hide ((unhide HX2).ex hcp.ex (by omega))
        have hgov := hcp.own.blk
        have HGO := hide hgov
        have hnX : ∀ i, i < w3.heap.size → i ≠ w.heap.size + 1 + 1 → ¬ (i = w.heap.size + 1 + 1 ∨ vo.ownBlock = some i) := fun i h1 h2 h3 => by
          rcases h3 with h3 | h3
          · exact h2 h3
          · have := (hgov i h3).1; omega
        have HNX := hide hnX
        have HNB := hide (show vo.ownBlock ≠ some (w.heap.size + 1 + 1) from fun e => by have := (hgov _ e).1; omega)
        clear hcp hgov hnX
        have x7 := (unhide HX1).cell.2.2.2.2.2.2.2
        by_cases hkl : k < t.ks.length
        · obtain ⟨rfl, hba, _⟩ := unhide HA (by omega)
          have hbaw : ba < w.heap.size := hS ba hba
          obtain ⟨va', HCa, HKa⟩ := ((hra.agree (Agree.of_below (unhide HBw) hS) hba).get k hkl).cs
          have HKw := hide ((unhide HKa).agree ((unhide HCP).ex.agree fun i hi => by have := hS i hi; exact ⟨by omega, by omega⟩))
          have HCw := hide ((unhide HCa).agree ((unhide HCP).ex.agree (S := fun i => i = ba) fun i hi => by subst hi; exact ⟨by omega, by omega⟩) rfl)
          have HCN := hide (cnts_lt (unhide HC) hkl)
          have HKL := hide (show k < (bares t.ks).length by rw [bares_len]; exact hkl)
          have hbt : (bares t.ks)[k]'(unhide HKL) = bareT t.ks[k] := by
            have h := bares_at t.ks k hkl
            rw [List.getElem?_eq_getElem (unhide HKL)] at h
            exact Option.some.inj h
          have HBK := hide (show ((bares t.ks)[k]'(unhide HKL)).ks = bares t.ks[k].ks by rw [hbt]; cases t.ks[k]; rfl)
          have HBF := hide (show ((bares t.ks)[k]'(unhide HKL)).f = bareF t.ks[k].f by rw [hbt]; cases t.ks[k]; rfl)
          have i0' : (0 : Int) ≤ (k : Int) := by omega
          have i1 : (k : Int) < (t.ks.length : Int) := by omega
          have hLk : L.length = k := (unhide HCP).len
          have HM1 := hide (show L.length + 1 ≤ maxLen by unfold maxLen; omega)
          have HM2 := hide (show (L.length + 1) * 96 ≤ 140737488355328 by omega)
          clear hLk hbt
          go_wp2
          refine wp_region_held_drew (S := Ex (fun i => i = w.heap.size + 1 + 1 ∨ vo.ownBlock = some i) wr) (by kernel_rfl) ?_ (fun hHeld => ?_)
          · exact Ex.drew _ _
          refine wpAnyH_take (i := 0) (oi := { dst := some 28, op := Op.fieldAddr 25 (Operand.tmp 3) 7, type := 0, pos := "ref.go:391", after := #[], guard := none }) (v := ?_) rfl (by kernel_rfl) (by kernel_rfl) (by kernel_rfl) (fun _ _ _ h => h) (Or.inl ⟨by rfl, ?_⟩) (by assumption) ?_
          rotate_left
          · intro wq hSw
            go_simp
            try (with_reducible rfl)
          go_frame
          refine wpAnyH_take (i := 2) (oi := { dst := some 30, op := Op.fieldAddr 25 (Operand.tmp 1) 7, type := 0, pos := "ref.go:391", after := #[], guard := none }) (v := ?_) rfl (by kernel_rfl) (by kernel_rfl) (by kernel_rfl) (fun _ _ _ h => h) (Or.inl ⟨by rfl, ?_⟩) (by assumption) ?_
          rotate_left
          · intro wq hSw
            go_simp
            try (with_reducible rfl)
          go_frame
          refine wpAnyH_take (i := 3) (oi := { dst := some 31, op := Op.load 23 (Operand.tmp 30), type := 23, pos := "ref.go:391", after := #[{ on := 2, ground := Ground.data }], guard := none }) (v := ?_) rfl (by kernel_rfl) (by kernel_rfl) (by kernel_rfl) (fun _ _ _ h => h) (Or.inl ⟨by rfl, ?_⟩) (by assumption) ?_
          rotate_left
          · intro wq hSw
            obtain ⟨x0, x1, x2, x3, x4, x5, x6, x7⟩ := ((unhide HX1).ex hSw (unhide HNX _ (by omega) (by omega))).cell
            go_simp
            try (with_reducible rfl)
          go_frame
          refine wpAnyH_take (i := 4) (oi := { dst := some 32, op := Op.move (Operand.tmp 5), type := 3, pos := "ref.go:391", after := #[], guard := none }) (v := ?_) rfl (by kernel_rfl) (by kernel_rfl) (by kernel_rfl) (fun _ _ _ h => h) (Or.inl ⟨by rfl, ?_⟩) (by assumption) ?_
          rotate_left
          · intro wq hSw
            go_simp
            try (with_reducible rfl)
          go_frame
          refine wpAnyH_take (i := 5) (oi := { dst := some 33, op := Op.indexAddr 23 (Operand.tmp 31) (Operand.tmp 32), type := 0, pos := "ref.go:391", after := #[{ on := 3, ground := Ground.data }, { on := 4, ground := Ground.data }], guard := none }) (v := ?_) rfl (by kernel_rfl) (by kernel_rfl) (by kernel_rfl) (fun _ _ _ h => h) (Or.inl ⟨by rfl, ?_⟩) (by assumption) ?_
          rotate_left
          · intro wq hSw
            go_simp
            try (with_reducible rfl)
          go_frame
          refine wpAnyH_take (i := 6) (oi := { dst := some 34, op := Op.load 25 (Operand.tmp 33), type := 25, pos := "ref.go:391", after := #[{ on := 5, ground := Ground.data }], guard := none }) (v := ?_) rfl (by kernel_rfl) (by kernel_rfl) (by kernel_rfl) (fun _ _ _ h => h) (Or.inl ⟨by rfl, ?_⟩) (by assumption) ?_
          rotate_left
          · intro wq hSw
            obtain ⟨y0, y1, y2, y3, y4, y5, y6, y7⟩ := (unhide HCw).agree (hSw.agree (S := fun i => i = ba) fun i hi => by subst hi; exact ⟨by omega, unhide HNX _ (by omega) (by omega)⟩) rfl
            go_simp
            try (with_reducible rfl)
          go_frame
          refine wpAnyH_ready (rs := [1, 7]) (by kernel_rfl) (by simp) ?_
          refine AllReadyH.cons (o := { dst := some 29, op := Op.load 23 (Operand.tmp 28), type := 23, pos := "ref.go:391", after := #[{ on := 0, ground := Ground.data }], guard := none }) rfl (fun K hK => ?_) (AllReadyH.cons (o := { dst := some 35, op := Op.call { callee := Callee.value (Operand.func 21), args := #[Operand.tmp 34], argTypes := #[25] }, type := 25, pos := "ref.go:391", after := #[{ on := 6, ground := Ground.data }], guard := none }) rfl (fun K hK => ?_) AllReadyH.nil)
          · go_simp
            refine hK.out _ _ ?_ (fun hHeld => ?_)
            · exact hHeld
            clear hK K
            try go_frame
            refine wpAnyH_ready (rs := [7]) (by kernel_rfl) (by simp) ?_
            refine AllReadyH.cons (o := { dst := some 35, op := Op.call { callee := Callee.value (Operand.func 21), args := #[Operand.tmp 34], argTypes := #[25] }, type := 25, pos := "ref.go:391", after := #[{ on := 6, ground := Ground.data }], guard := none }) rfl (fun K hK => ?_) AllReadyH.nil
            go_simp
            refine (unhide HIH t.ks[k] _ va' m S (unhide HCN) ((unhide HKw).agree (Agree.of_below (below_drw wr) fun i hi => by have := hS i hi; omega)) (fun i hi => by have := hS i hi; show i < wr.heap.size; omega)).mono ?_
            rintro e w5 ⟨v5, rfl, b5, hk5⟩
            have HB5 := hide (below_undrew b5)
            have HK5 : Hid (Kids w5 ⟨true, false⟩ (fun i => wr.heap.size ≤ i ∧ i < w5.heap.size) v5 (bares t.ks[k].ks)) := hide hk5
            have hs5 := (unhide HB5).size
            have hb5 : w5.cell? ⟨w.heap.size + 1 + 1, 7, none⟩ = some vo := ((unhide HB5).cell (p := ⟨w.heap.size + 1 + 1, 7, none⟩) hBr).trans hbxo
            have hb6 : ∀ o, (w5.alloc o).cell? ⟨w.heap.size + 1 + 1, 7, none⟩ = some vo := fun o => (World.cell?_alloc_lt _ _ _ (by show w.heap.size + 1 + 1 < _; omega)).trans hb5
            clear b5 hk5
            go_wp2_with fail
            refine hK.out _ _ ?_ (fun hHeld => ?_)
            · exact hHeld.trans (Ex.of_below ⟨(unhide HB5).os, (unhide HB5).tape, (unhide HB5).output, (unhide HB5).size, (unhide HB5).block⟩)
            clear hK K
            try go_frame
            refine wpAnyH_ready (rs := [8]) (by kernel_rfl) (by simp) ?_
            refine AllReadyH.cons (o := { dst := some 36, op := Op.buildSlice 23 1 #[(0, Operand.tmp 35)], type := 23, pos := "ref.go:391", after := #[{ on := 7, ground := Ground.data }], guard := none }) rfl (fun K hK => ?_) AllReadyH.nil
            go_simp
            refine hK.out _ _ ?_ (fun hHeld => ?_)
            · exact hHeld.trans (Ex.of_below ((Below.refl _ _).alloc (Nat.le_refl _) _))
            clear hK K
            try go_frame
            refine wpAnyH_ready (rs := [9]) (by kernel_rfl) (by simp) ?_
            refine AllReadyH.cons (o := { dst := some 37, op := Op.call { callee := Callee.builtin Builtin.append, args := #[Operand.tmp 29, Operand.tmp 36], argTypes := #[23, 23] }, type := 23, pos := "ref.go:391", after := #[{ on := 1, ground := Ground.data }, { on := 8, ground := Ground.data }, { on := 7, ground := Ground.chain }], guard := none }) rfl (fun K hK => ?_) AllReadyH.nil
            refine step_append_at rfl (.tmp 29) (.tmp 36) 23 rfl w3.heap.size 25 i0 (.agg #[.int .i64 0, .string ⟨#[]⟩, .int .i64 0, .string ⟨#[]⟩, .int .i64 0, .int .i64 0, .int .i64 0, .slice none 0 0]) 8 96 Tryz.underlying23 (unhide HI0) (unhide HZ0) (unhide HZ1) (unhide HZ2) rfl (by decide) vo L.length (rowC L) rfl (((unhide HCP).own.same fun g hg => (unhide HB5).block g (unhide HGO g hg).2).same fun g hg => ((Below.refl w5.heap.size w5).alloc (Nat.le_refl _) _).block g (by have := (unhide HGO g hg).2; omega)) ⟨w5.heap.size, 0, none⟩ 1 1 (ncs (bareF t.ks[k].f, v5)) rfl rfl (node_new w5 _ _) (node_one _ (unhide HK5).oneCell) (unhide HM1) (unhide HM2) (by rw [World.size_alloc]; omega) ?_
            intro v7 w7 ho7 hg7 hl7
            obtain ⟨g7, cap7, rfl⟩ := own_form ho7
            have HO7 := hide ho7
            have HG7 := hide hg7
            have HL7 := hide hl7
            have hb7 : w7.cell? ⟨w.heap.size + 1 + 1, 7, none⟩ = some vo := (World.cell?_of_block (hg7.block _ (by rw [World.size_alloc]; show w.heap.size + 1 + 1 < _; omega) fun e => unhide HNB e.symm)).trans (hb6 _)
            have hf7 : w7.frozen? ⟨w.heap.size + 1 + 1, 7, none⟩ = false := ((World.frozen?_of_block (hg7.block _ (by rw [World.size_alloc]; show w.heap.size + 1 + 1 < _; omega) fun e => unhide HNB e.symm)).trans (World.frozen?_of_block (((Below.refl w5.heap.size w5).alloc (Nat.le_refl _) _).block _ (by show w.heap.size + 1 + 1 < _; omega)))).trans ((World.frozen?_of_block ((unhide HB5).block _ hBr)).trans (hfro 7))
            clear ho7 hg7 hl7
            refine hK.out _ _ ?_ (fun hHeld => ?_)
            · exact hHeld.trans (Ex.of_grown (unhide HG7) fun i e => Or.inr e)
            clear hK K
            try go_frame
            refine wpAnyH_take (i := 10) (oi := { dst := some 38, op := Op.fieldAddr 25 (Operand.tmp 3) 7, type := 0, pos := "ref.go:391", after := #[{ on := 0, ground := Ground.phase }, { on := 1, ground := Ground.phase }, { on := 2, ground := Ground.phase }, { on := 3, ground := Ground.phase }, { on := 4, ground := Ground.phase }, { on := 5, ground := Ground.phase }, { on := 6, ground := Ground.phase }, { on := 7, ground := Ground.phase }, { on := 8, ground := Ground.phase }, { on := 9, ground := Ground.phase }], guard := none }) (v := ?_) rfl (by kernel_rfl) (by kernel_rfl) (by kernel_rfl) (fun _ _ _ h => h) (Or.inl ⟨by rfl, ?_⟩) (by assumption) ?_
            rotate_left
            · intro wq hSw
              go_simp
              try (with_reducible rfl)
            go_frame
            refine wpAnyH_ready (rs := [11]) (by kernel_rfl) (by simp) ?_
            refine AllReadyH.cons (o := { dst := none, op := Op.store 23 (Operand.tmp 38) (Operand.tmp 37), type := 0, pos := "ref.go:391", after := #[{ on := 10, ground := Ground.data }, { on := 9, ground := Ground.data }, { on := 9, ground := Ground.chain }, { on := 0, ground := Ground.phase }, { on := 1, ground := Ground.phase }, { on := 2, ground := Ground.phase }, { on := 3, ground := Ground.phase }, { on := 4, ground := Ground.phase }, { on := 5, ground := Ground.phase }, { on := 6, ground := Ground.phase }, { on := 7, ground := Ground.phase }, { on := 8, ground := Ground.phase }, { on := 9, ground := Ground.phase }], guard := none }) rfl (fun K hK => ?_) AllReadyH.nil
            go_simp
            refine hK.out _ _ ?_ (fun hHeld => ?_)
            · exact hHeld.trans (Ex.setCell _ _ _ _ (Or.inl rfl))
            clear hK K
            try go_frame
            refine wpAnyH_done (by kernel_rfl) ?_ _
            go_wp2
            go_roundw
            case rel => exact ⟨k + 1, _, _, by omega, by go_num, (unhide HCP).step (by omega) (unhide HKL) (unhide HB5) (by rw [unhide HBK]; exact unhide HK5) (by rw [unhide HBF]; exact unhide HO7) (unhide HG7) (unhide HL7)⟩
            case measure => simp [intOf]; omega
          · go_simp
            refine (unhide HIH t.ks[k] _ va' m S (unhide HCN) ((unhide HKw).agree (Agree.of_below (below_drw wr) fun i hi => by have := hS i hi; omega)) (fun i hi => by have := hS i hi; show i < wr.heap.size; omega)).mono ?_
            rintro e w5 ⟨v5, rfl, b5, hk5⟩
            have HB5 := hide (below_undrew b5)
            have HK5 : Hid (Kids w5 ⟨true, false⟩ (fun i => wr.heap.size ≤ i ∧ i < w5.heap.size) v5 (bares t.ks[k].ks)) := hide hk5
            have hs5 := (unhide HB5).size
            have hb5 : w5.cell? ⟨w.heap.size + 1 + 1, 7, none⟩ = some vo := ((unhide HB5).cell (p := ⟨w.heap.size + 1 + 1, 7, none⟩) hBr).trans hbxo
            have hb6 : ∀ o, (w5.alloc o).cell? ⟨w.heap.size + 1 + 1, 7, none⟩ = some vo := fun o => (World.cell?_alloc_lt _ _ _ (by show w.heap.size + 1 + 1 < _; omega)).trans hb5
            clear b5 hk5
            go_wp2_with fail
            refine hK.out _ _ ?_ (fun hHeld => ?_)
            · exact hHeld.trans (Ex.of_below ⟨(unhide HB5).os, (unhide HB5).tape, (unhide HB5).output, (unhide HB5).size, (unhide HB5).block⟩)
            clear hK K
            try go_frame
            refine wpAnyH_ready (rs := [1, 8]) (by kernel_rfl) (by simp) ?_
            refine AllReadyH.cons (o := { dst := some 29, op := Op.load 23 (Operand.tmp 28), type := 23, pos := "ref.go:391", after := #[{ on := 0, ground := Ground.data }], guard := none }) rfl (fun K hK => ?_) (AllReadyH.cons (o := { dst := some 36, op := Op.buildSlice 23 1 #[(0, Operand.tmp 35)], type := 23, pos := "ref.go:391", after := #[{ on := 7, ground := Ground.data }], guard := none }) rfl (fun K hK => ?_) AllReadyH.nil)
            · go_simp
              refine hK.out _ _ ?_ (fun hHeld => ?_)
              · exact hHeld
              clear hK K
              try go_frame
              refine wpAnyH_ready (rs := [8]) (by kernel_rfl) (by simp) ?_
              refine AllReadyH.cons (o := { dst := some 36, op := Op.buildSlice 23 1 #[(0, Operand.tmp 35)], type := 23, pos := "ref.go:391", after := #[{ on := 7, ground := Ground.data }], guard := none }) rfl (fun K hK => ?_) AllReadyH.nil
              go_simp
              refine hK.out _ _ ?_ (fun hHeld => ?_)
              · exact hHeld.trans (Ex.of_below ((Below.refl _ _).alloc (Nat.le_refl _) _))
              clear hK K
              try go_frame
              refine wpAnyH_ready (rs := [9]) (by kernel_rfl) (by simp) ?_
              refine AllReadyH.cons (o := { dst := some 37, op := Op.call { callee := Callee.builtin Builtin.append, args := #[Operand.tmp 29, Operand.tmp 36], argTypes := #[23, 23] }, type := 23, pos := "ref.go:391", after := #[{ on := 1, ground := Ground.data }, { on := 8, ground := Ground.data }, { on := 7, ground := Ground.chain }], guard := none }) rfl (fun K hK => ?_) AllReadyH.nil
              refine step_append_at rfl (.tmp 29) (.tmp 36) 23 rfl w3.heap.size 25 i0 (.agg #[.int .i64 0, .string ⟨#[]⟩, .int .i64 0, .string ⟨#[]⟩, .int .i64 0, .int .i64 0, .int .i64 0, .slice none 0 0]) 8 96 Tryz.underlying23 (unhide HI0) (unhide HZ0) (unhide HZ1) (unhide HZ2) rfl (by decide) vo L.length (rowC L) rfl (((unhide HCP).own.same fun g hg => (unhide HB5).block g (unhide HGO g hg).2).same fun g hg => ((Below.refl w5.heap.size w5).alloc (Nat.le_refl _) _).block g (by have := (unhide HGO g hg).2; omega)) ⟨w5.heap.size, 0, none⟩ 1 1 (ncs (bareF t.ks[k].f, v5)) rfl rfl (node_new w5 _ _) (node_one _ (unhide HK5).oneCell) (unhide HM1) (unhide HM2) (by rw [World.size_alloc]; omega) ?_
              intro v7 w7 ho7 hg7 hl7
              obtain ⟨g7, cap7, rfl⟩ := own_form ho7
              have HO7 := hide ho7
              have HG7 := hide hg7
              have HL7 := hide hl7
              have hb7 : w7.cell? ⟨w.heap.size + 1 + 1, 7, none⟩ = some vo := (World.cell?_of_block (hg7.block _ (by rw [World.size_alloc]; show w.heap.size + 1 + 1 < _; omega) fun e => unhide HNB e.symm)).trans (hb6 _)
              have hf7 : w7.frozen? ⟨w.heap.size + 1 + 1, 7, none⟩ = false := ((World.frozen?_of_block (hg7.block _ (by rw [World.size_alloc]; show w.heap.size + 1 + 1 < _; omega) fun e => unhide HNB e.symm)).trans (World.frozen?_of_block (((Below.refl w5.heap.size w5).alloc (Nat.le_refl _) _).block _ (by show w.heap.size + 1 + 1 < _; omega)))).trans ((World.frozen?_of_block ((unhide HB5).block _ hBr)).trans (hfro 7))
              clear ho7 hg7 hl7
              refine hK.out _ _ ?_ (fun hHeld => ?_)
              · exact hHeld.trans (Ex.of_grown (unhide HG7) fun i e => Or.inr e)
              clear hK K
              try go_frame
              refine wpAnyH_take (i := 10) (oi := { dst := some 38, op := Op.fieldAddr 25 (Operand.tmp 3) 7, type := 0, pos := "ref.go:391", after := #[{ on := 0, ground := Ground.phase }, { on := 1, ground := Ground.phase }, { on := 2, ground := Ground.phase }, { on := 3, ground := Ground.phase }, { on := 4, ground := Ground.phase }, { on := 5, ground := Ground.phase }, { on := 6, ground := Ground.phase }, { on := 7, ground := Ground.phase }, { on := 8, ground := Ground.phase }, { on := 9, ground := Ground.phase }], guard := none }) (v := ?_) rfl (by kernel_rfl) (by kernel_rfl) (by kernel_rfl) (fun _ _ _ h => h) (Or.inl ⟨by rfl, ?_⟩) (by assumption) ?_
              rotate_left
              · intro wq hSw
                go_simp
                try (with_reducible rfl)
              go_frame
              refine wpAnyH_ready (rs := [11]) (by kernel_rfl) (by simp) ?_
              refine AllReadyH.cons (o := { dst := none, op := Op.store 23 (Operand.tmp 38) (Operand.tmp 37), type := 0, pos := "ref.go:391", after := #[{ on := 10, ground := Ground.data }, { on := 9, ground := Ground.data }, { on := 9, ground := Ground.chain }, { on := 0, ground := Ground.phase }, { on := 1, ground := Ground.phase }, { on := 2, ground := Ground.phase }, { on := 3, ground := Ground.phase }, { on := 4, ground := Ground.phase }, { on := 5, ground := Ground.phase }, { on := 6, ground := Ground.phase }, { on := 7, ground := Ground.phase }, { on := 8, ground := Ground.phase }, { on := 9, ground := Ground.phase }], guard := none }) rfl (fun K hK => ?_) AllReadyH.nil
              go_simp
              refine hK.out _ _ ?_ (fun hHeld => ?_)
              · exact hHeld.trans (Ex.setCell _ _ _ _ (Or.inl rfl))
              clear hK K
              try go_frame
              refine wpAnyH_done (by kernel_rfl) ?_ _
              go_wp2
              go_roundw
              case rel => exact ⟨k + 1, _, _, by omega, by go_num, (unhide HCP).step (by omega) (unhide HKL) (unhide HB5) (by rw [unhide HBK]; exact unhide HK5) (by rw [unhide HBF]; exact unhide HO7) (unhide HG7) (unhide HL7)⟩
              case measure => simp [intOf]; omega
            · go_simp
              refine hK.out _ _ ?_ (fun hHeld => ?_)
              · exact hHeld.trans (Ex.of_below ((Below.refl _ _).alloc (Nat.le_refl _) _))
              clear hK K
              try go_frame
              refine wpAnyH_ready (rs := [1]) (by kernel_rfl) (by simp) ?_
              refine AllReadyH.cons (o := { dst := some 29, op := Op.load 23 (Operand.tmp 28), type := 23, pos := "ref.go:391", after := #[{ on := 0, ground := Ground.data }], guard := none }) rfl (fun K hK => ?_) AllReadyH.nil
              go_simp
              refine hK.out _ _ ?_ (fun hHeld => ?_)
              · exact hHeld
              clear hK K
              try go_frame
              refine wpAnyH_ready (rs := [9]) (by kernel_rfl) (by simp) ?_
              refine AllReadyH.cons (o := { dst := some 37, op := Op.call { callee := Callee.builtin Builtin.append, args := #[Operand.tmp 29, Operand.tmp 36], argTypes := #[23, 23] }, type := 23, pos := "ref.go:391", after := #[{ on := 1, ground := Ground.data }, { on := 8, ground := Ground.data }, { on := 7, ground := Ground.chain }], guard := none }) rfl (fun K hK => ?_) AllReadyH.nil
              refine step_append_at rfl (.tmp 29) (.tmp 36) 23 rfl w3.heap.size 25 i0 (.agg #[.int .i64 0, .string ⟨#[]⟩, .int .i64 0, .string ⟨#[]⟩, .int .i64 0, .int .i64 0, .int .i64 0, .slice none 0 0]) 8 96 Tryz.underlying23 (unhide HI0) (unhide HZ0) (unhide HZ1) (unhide HZ2) rfl (by decide) vo L.length (rowC L) rfl (((unhide HCP).own.same fun g hg => (unhide HB5).block g (unhide HGO g hg).2).same fun g hg => ((Below.refl w5.heap.size w5).alloc (Nat.le_refl _) _).block g (by have := (unhide HGO g hg).2; omega)) ⟨w5.heap.size, 0, none⟩ 1 1 (ncs (bareF t.ks[k].f, v5)) rfl rfl (node_new w5 _ _) (node_one _ (unhide HK5).oneCell) (unhide HM1) (unhide HM2) (by rw [World.size_alloc]; omega) ?_
              intro v7 w7 ho7 hg7 hl7
              obtain ⟨g7, cap7, rfl⟩ := own_form ho7
              have HO7 := hide ho7
              have HG7 := hide hg7
              have HL7 := hide hl7
              have hb7 : w7.cell? ⟨w.heap.size + 1 + 1, 7, none⟩ = some vo := (World.cell?_of_block (hg7.block _ (by rw [World.size_alloc]; show w.heap.size + 1 + 1 < _; omega) fun e => unhide HNB e.symm)).trans (hb6 _)
              have hf7 : w7.frozen? ⟨w.heap.size + 1 + 1, 7, none⟩ = false := ((World.frozen?_of_block (hg7.block _ (by rw [World.size_alloc]; show w.heap.size + 1 + 1 < _; omega) fun e => unhide HNB e.symm)).trans (World.frozen?_of_block (((Below.refl w5.heap.size w5).alloc (Nat.le_refl _) _).block _ (by show w.heap.size + 1 + 1 < _; omega)))).trans ((World.frozen?_of_block ((unhide HB5).block _ hBr)).trans (hfro 7))
              clear ho7 hg7 hl7
              refine hK.out _ _ ?_ (fun hHeld => ?_)
              · exact hHeld.trans (Ex.of_grown (unhide HG7) fun i e => Or.inr e)
              clear hK K
              try go_frame
              refine wpAnyH_take (i := 10) (oi := { dst := some 38, op := Op.fieldAddr 25 (Operand.tmp 3) 7, type := 0, pos := "ref.go:391", after := #[{ on := 0, ground := Ground.phase }, { on := 1, ground := Ground.phase }, { on := 2, ground := Ground.phase }, { on := 3, ground := Ground.phase }, { on := 4, ground := Ground.phase }, { on := 5, ground := Ground.phase }, { on := 6, ground := Ground.phase }, { on := 7, ground := Ground.phase }, { on := 8, ground := Ground.phase }, { on := 9, ground := Ground.phase }], guard := none }) (v := ?_) rfl (by kernel_rfl) (by kernel_rfl) (by kernel_rfl) (fun _ _ _ h => h) (Or.inl ⟨by rfl, ?_⟩) (by assumption) ?_
              rotate_left
              · intro wq hSw
                go_simp
                try (with_reducible rfl)
              go_frame
              refine wpAnyH_ready (rs := [11]) (by kernel_rfl) (by simp) ?_
              refine AllReadyH.cons (o := { dst := none, op := Op.store 23 (Operand.tmp 38) (Operand.tmp 37), type := 0, pos := "ref.go:391", after := #[{ on := 10, ground := Ground.data }, { on := 9, ground := Ground.data }, { on := 9, ground := Ground.chain }, { on := 0, ground := Ground.phase }, { on := 1, ground := Ground.phase }, { on := 2, ground := Ground.phase }, { on := 3, ground := Ground.phase }, { on := 4, ground := Ground.phase }, { on := 5, ground := Ground.phase }, { on := 6, ground := Ground.phase }, { on := 7, ground := Ground.phase }, { on := 8, ground := Ground.phase }, { on := 9, ground := Ground.phase }], guard := none }) rfl (fun K hK => ?_) AllReadyH.nil
              go_simp
              refine hK.out _ _ ?_ (fun hHeld => ?_)
              · exact hHeld.trans (Ex.setCell _ _ _ _ (Or.inl rfl))
              clear hK K
              try go_frame
              refine wpAnyH_done (by kernel_rfl) ?_ _
              go_wp2
              go_roundw
              case rel => exact ⟨k + 1, _, _, by omega, by go_num, (unhide HCP).step (by omega) (unhide HKL) (unhide HB5) (by rw [unhide HBK]; exact unhide HK5) (by rw [unhide HBF]; exact unhide HO7) (unhide HG7) (unhide HL7)⟩
              case measure => simp [intOf]; omega
        · obtain rfl : k = t.ks.length := by omega
          have hLk : L.length = t.ks.length := (unhide HCP).len
          obtain ⟨o0, o1, o2, o3, o4, o5, o6, o7⟩ := (unhide HCP).box.cell
          obtain ⟨r0, r1, r2, r3, r4, r5, r6, r7⟩ := (unhide HX2).cell
          have fr := (unhide HX2).froz
          have HKD := hide (show Kids wr ⟨true, false⟩ (fun i => w3.heap.size ≤ i ∧ i < wr.heap.size) vo (bares t.ks) from (unhide HCP).own.kids (by rw [bares_len]; exact hLk) (fun g hg => unhide HGO g hg) (by rw [bares_len]; exact hll) (fun i h h' => ⟨((unhide HCP).kid i h h').1, ((unhide HCP).kid i h h').2.mono fun j hj => ⟨hj.1, hj.2.1⟩⟩) rfl)
          obtain ⟨ao, co, rfl, _⟩ := (unhide HCP).own.form
          clear hLk hbxo hfro
          go_wp2
          refine bodyPost_ret (v := nv (bareF t.f) (.slice ao L.length co)) (by simp [results, Tryz.results21, go_sem, r0, r1, r2, r3, r4, r5, r6, r7]) rfl ⟨_, rfl, ?_, ?_⟩
          · exact (((unhide HCP).ex.mono (Y := fun i => w.heap.size ≤ i) fun i _ e => by omega).set8 (B := w.heap.size + 1) (by omega)).below (unhide HBw) (fun i hi => by omega) (by omega)
          · have hx := (Ex.refl (fun i => i = w.heap.size + 1) wr).set8 (B := w.heap.size + 1) (f := bareF t.f) (u := .slice ao L.length co) rfl
            have hz := hx.size
            exact ((unhide HKD).agree (hx.agree fun i hi => ⟨hi.2, fun h => by omega⟩)).mono fun i hi => ⟨by omega, Nat.lt_of_lt_of_le hi.2 hz⟩

end Go.Proofs.YtnclmlhmmljfgaaGreatDoor
