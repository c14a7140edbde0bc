/- Alike: a tree and itself, wherever each lies. -/
import Derived.Test.YtnclmlhmmljfgaaGreatDoorTg
namespace Go.Proofs.YtnclmlhmmljfgaaGreatDoor
open Go.RowKit

set_option maxHeartbeats 4000000 in
theorem alike_all (n : Nat) (hn : n ≤ 65536) : ∀ (t : Tr) (w : World) (u v : Value) (ms mt : Md) (S : Nat → Prop) (mk : Bool), cnt t ≤ n → cnt t ≤ 65536 → (mk = true → ms.mark = true) → Kids w ms S u t.ks → Kids w mt S v t.ks → (∀ i, S i → i < w.heap.size) →
    Calls Tryz.prog 14 #[nv t.f u, nv t.f v, .bool mk] w fun e w' => e = .returned (.bool true) ∧ Below w.heap.size w w' := by
  induction n with
  | zero => intro t w u v ms mt S mk h; have := cnt_pos t; omega
  | succ n ih =>
    intro t w u v ms mt S mk hc hc2 hmk hu hv hS
    obtain ⟨B, cb, bb, ob, rfl, hlb, hB, hrb⟩ := hv.form
    have hll : t.ks.length ≤ 65536 := by
      have h1 := len_le_cnts t.ks
      obtain ⟨f, ks⟩ := t
      unfold cnt at hc2
      simp only [Tr.ks] at h1 ⊢
      omega
    have HIH := hide (ih (by omega))
    have HB := hide hB
    have HC := hide hc
    clear hv hB hc hc2 ih
    unfold nv
    cases mk
    · obtain ⟨A, ca, ba, oa, rfl, hla, hA, hra⟩ := hu.form
      have HA := hide hA
      clear hA hu hmk
      go_enter Tryz.func14, Tryz.ntmps14
      go_wp2
      obtain ⟨w1, hw1, HB1, HX1, hs1⟩ := boxed w t.f (.slice A t.ks.length ca)
      rw [hw1]
      clear hw1
      obtain ⟨w2, hw2, HB2', HX2, hs2⟩ := boxed w1 t.f (.slice B t.ks.length cb)
      rw [hw2]
      clear hw2
      rw [hs1] at HX2
      have HX1 := hide ((unhide HX1).below (unhide HB2') (by omega))
      have HBw := hide ((unhide HB1).trans ((unhide HB2').mono (by omega)))
      clear HB1 HB2'
      go_loopw [8] (fun i wr => ∃ k : Nat, k ≤ t.ks.length ∧ i = .int .i64 k ∧ Below w2.heap.size w2 wr) (fun i _ => t.ks.length - (intOf i).toNat)
      case atStart => exact ⟨0, Nat.zero_le _, rfl, Below.refl _ _⟩
      case round =>
        obtain ⟨k, hk, rfl, hbw⟩ := hrel
        have hsz := hbw.size
        have HX1 := hide ((unhide HX1).below hbw (by omega))
        have HX2 := hide ((unhide HX2).below hbw (by omega))
        have HBW := hide ((unhide HBw).trans (hbw.mono (by omega)))
        have HBR := hide hbw
        clear hbw
        by_cases hkl : k < t.ks.length
        · obtain ⟨rfl, hba, _⟩ := unhide HA (by omega)
          obtain ⟨rfl, hbb, _⟩ := unhide HB (by omega)
          have hbaw : ba < wr.heap.size := by have := hS ba hba; omega
          have hbbw : bb < wr.heap.size := by have := hS bb hbb; omega
          have hSw0 : ∀ i, S i → i < wr.heap.size := fun i hi => by have := hS i hi; omega
          obtain ⟨va', HCa, HKa⟩ := ((hra.agree (Agree.of_below (unhide HBW) hS) hba).get k hkl).cs
          obtain ⟨vb', HCb, HKb⟩ := ((hrb.agree (Agree.of_below (unhide HBW) hS) hbb).get k hkl).cs
          have HCN := hide (cnts_lt (unhide HC) hkl)
          have i0 : (0 : Int) ≤ (k : Int) := by omega
          have i1 : (k : Int) < (t.ks.length : Int) := by omega
          have hle : wr.heap.size ≥ w.heap.size + 2 := by omega
          go_wp2
          refine wp_region_held_drew (S := Below wr.heap.size wr) (by kernel_rfl) ?_ (fun hHeld => ?_)
          · exact below_drw _
          refine wpAnyH_take (i := 0) (oi := { dst := some 87, op := Op.fieldAddr 25 (Operand.tmp 3) 7, type := 0, pos := "law.go:38", after := #[], guard := none }) (v := ?_) rfl (by kernel_rfl) (by kernel_rfl) (by kernel_rfl) (fun _ _ _ h => h) (Or.inl ⟨by rfl, ?_⟩) (by assumption) ?_
          rotate_left
          · intro wq hSw
            go_simp
            try (with_reducible rfl)
          go_frame
          refine wpAnyH_take (i := 1) (oi := { dst := some 88, op := Op.load 23 (Operand.tmp 87), type := 23, pos := "law.go:38", after := #[{ on := 0, ground := Ground.data }], guard := none }) (v := ?_) rfl (by kernel_rfl) (by kernel_rfl) (by kernel_rfl) (fun _ _ _ h => h) (Or.inl ⟨by rfl, ?_⟩) (by assumption) ?_
          rotate_left
          · intro wq hSw
            obtain ⟨x0, x1, x2, x3, x4, x5, x6, x7⟩ := ((unhide HX1).below hSw (by omega)).cell
            go_simp
            try (with_reducible rfl)
          go_frame
          refine wpAnyH_take (i := 2) (oi := { dst := some 89, op := Op.move (Operand.tmp 8), type := 3, pos := "law.go:38", after := #[], guard := none }) (v := ?_) rfl (by kernel_rfl) (by kernel_rfl) (by kernel_rfl) (fun _ _ _ h => h) (Or.inl ⟨by rfl, ?_⟩) (by assumption) ?_
          rotate_left
          · intro wq hSw
            go_simp
            try (with_reducible rfl)
          go_frame
          refine wpAnyH_take (i := 3) (oi := { dst := some 90, op := Op.indexAddr 23 (Operand.tmp 88) (Operand.tmp 89), type := 0, pos := "law.go:38", after := #[{ on := 1, ground := Ground.data }, { on := 2, ground := Ground.data }], guard := none }) (v := ?_) rfl (by kernel_rfl) (by kernel_rfl) (by kernel_rfl) (fun _ _ _ h => h) (Or.inl ⟨by rfl, ?_⟩) (by assumption) ?_
          rotate_left
          · intro wq hSw
            go_simp
            try (with_reducible rfl)
          go_frame
          refine wpAnyH_take (i := 4) (oi := { dst := some 91, op := Op.load 25 (Operand.tmp 90), type := 25, pos := "law.go:38", after := #[{ on := 3, ground := Ground.data }], guard := none }) (v := ?_) rfl (by kernel_rfl) (by kernel_rfl) (by kernel_rfl) (fun _ _ _ h => h) (Or.inl ⟨by rfl, ?_⟩) (by assumption) ?_
          rotate_left
          · intro wq hSw
            obtain ⟨y0, y1, y2, y3, y4, y5, y6, y7⟩ := (unhide HCa).below hSw hbaw
            go_simp
            try (with_reducible rfl)
          go_frame
          refine wpAnyH_take (i := 5) (oi := { dst := some 92, op := Op.fieldAddr 25 (Operand.tmp 4) 7, type := 0, pos := "law.go:38", after := #[], guard := none }) (v := ?_) rfl (by kernel_rfl) (by kernel_rfl) (by kernel_rfl) (fun _ _ _ h => h) (Or.inl ⟨by rfl, ?_⟩) (by assumption) ?_
          rotate_left
          · intro wq hSw
            go_simp
            try (with_reducible rfl)
          go_frame
          refine wpAnyH_take (i := 6) (oi := { dst := some 93, op := Op.load 23 (Operand.tmp 92), type := 23, pos := "law.go:38", after := #[{ on := 5, ground := Ground.data }], guard := none }) (v := ?_) rfl (by kernel_rfl) (by kernel_rfl) (by kernel_rfl) (fun _ _ _ h => h) (Or.inl ⟨by rfl, ?_⟩) (by assumption) ?_
          rotate_left
          · intro wq hSw
            obtain ⟨z0, z1, z2, z3, z4, z5, z6, z7⟩ := ((unhide HX2).below hSw (by omega)).cell
            go_simp
            try (with_reducible rfl)
          go_frame
          refine wpAnyH_take (i := 7) (oi := { dst := some 94, op := Op.move (Operand.tmp 8), type := 3, pos := "law.go:38", after := #[], guard := none }) (v := ?_) rfl (by kernel_rfl) (by kernel_rfl) (by kernel_rfl) (fun _ _ _ h => h) (Or.inl ⟨by rfl, ?_⟩) (by assumption) ?_
          rotate_left
          · intro wq hSw
            go_simp
            try (with_reducible rfl)
          go_frame
          refine wpAnyH_take (i := 8) (oi := { dst := some 95, op := Op.indexAddr 23 (Operand.tmp 93) (Operand.tmp 94), type := 0, pos := "law.go:38", after := #[{ on := 6, ground := Ground.data }, { on := 7, ground := Ground.data }], guard := none }) (v := ?_) rfl (by kernel_rfl) (by kernel_rfl) (by kernel_rfl) (fun _ _ _ h => h) (Or.inl ⟨by rfl, ?_⟩) (by assumption) ?_
          rotate_left
          · intro wq hSw
            go_simp
            try (with_reducible rfl)
          go_frame
          refine wpAnyH_take (i := 9) (oi := { dst := some 96, op := Op.load 25 (Operand.tmp 95), type := 25, pos := "law.go:38", after := #[{ on := 8, ground := Ground.data }], guard := none }) (v := ?_) rfl (by kernel_rfl) (by kernel_rfl) (by kernel_rfl) (fun _ _ _ h => h) (Or.inl ⟨by rfl, ?_⟩) (by assumption) ?_
          rotate_left
          · intro wq hSw
            obtain ⟨y0, y1, y2, y3, y4, y5, y6, y7⟩ := (unhide HCb).below hSw hbbw
            go_simp
            try (with_reducible rfl)
          go_frame
          refine wpAnyH_take (i := 10) (oi := { dst := some 97, op := Op.move (Operand.tmp 2), type := 4, pos := "law.go:38", after := #[], guard := none }) (v := ?_) rfl (by kernel_rfl) (by kernel_rfl) (by kernel_rfl) (fun _ _ _ h => h) (Or.inl ⟨by rfl, ?_⟩) (by assumption) ?_
          rotate_left
          · intro wq hSw
            go_simp
            try (with_reducible rfl)
          go_frame
          refine wpAnyH_ready (rs := [11]) (by kernel_rfl) (by simp) ?_
          refine AllReadyH.cons (o := { dst := some 98, op := Op.call { callee := Callee.value (Operand.func 14), args := #[Operand.tmp 91, Operand.tmp 96, Operand.tmp 97], argTypes := #[25, 25, 4] }, type := 4, pos := "law.go:38", after := #[{ on := 4, ground := Ground.data }, { on := 9, ground := Ground.data }, { on := 10, ground := Ground.data }], guard := none }) rfl (fun K hK => ?_) AllReadyH.nil
          go_simp
          refine (unhide HIH t.ks[k] _ va' vb' ms mt S false (unhide HCN) (by have := unhide HCN; omega) (fun h => by cases h) ((unhide HKa).below hHeld hSw0) ((unhide HKb).below hHeld hSw0) (fun i hi => by have := hSw0 i hi; have := hHeld.size; omega)).mono ?_
          rintro e w5 ⟨rfl, b5⟩
          have HB5 := hide (below_undrew b5)
          clear b5
          go_wp2_with fail
          refine hK.out _ _ ?_ (fun hHeld => ?_)
          · exact unhide HB5
          clear hK K
          try go_frame
          refine wpAnyH_take (i := 12) (oi := { dst := some 9, op := Op.assign (Operand.tmp 98), type := 4, pos := "law.go:38", after := #[{ on := 11, ground := Ground.data }, { on := 11, ground := Ground.chain }, { on := 0, ground := Ground.phase }, { on := 1, ground := Ground.phase }, { on := 2, ground := Ground.phase }, { on := 3, ground := Ground.phase }, { on := 4, ground := Ground.phase }, { on := 5, ground := Ground.phase }, { on := 6, ground := Ground.phase }, { on := 7, ground := Ground.phase }, { on := 8, ground := Ground.phase }, { on := 9, ground := Ground.phase }, { on := 10, ground := Ground.phase }, { on := 11, ground := Ground.phase }], guard := none }) (v := ?_) rfl (by kernel_rfl) (by kernel_rfl) (by kernel_rfl) (fun _ _ _ h => h) (Or.inl ⟨by rfl, ?_⟩) (by assumption) ?_
          rotate_left
          · intro wq hSw
            go_simp
            try (with_reducible rfl)
          go_frame
          refine wpAnyH_done (by kernel_rfl) ?_ _
          go_wp2
          go_roundw
          case rel => exact ⟨k + 1, by omega, by go_num, (unhide HBR).trans (hHeld.mono (by omega))⟩
          case measure => simp [intOf]; omega
        · go_wp2
          go_ret
          exact ⟨rfl, unhide HBW⟩
    · have hmk := hmk rfl
      obtain ⟨ca, ba, oa, rfl, hca, hla, hba, hcell, hra⟩ := hu.marked hmk
      have hbs := hS ba hba
      have HA := hide hba
      clear hu
      unfold bhd at hcell
      have hcell2 : ∀ o o', ((w.alloc o).alloc o').cell? ⟨ba, oa + t.ks.length * 8 + 1, none⟩ = some (.string ⟨#[98, 101, 104, 105, 110, 100]⟩) := fun o o' => by
        rw [World.cell?_alloc_lt _ _ _ (by rw [World.size_alloc]; show ba < _; omega), World.cell?_alloc_lt _ _ _ (by show ba < _; omega)]
        exact hcell
      have HMK := hide hmk
      clear hcell hmk
      have j0 : (0 : Int) ≤ (t.ks.length : Int) := by omega
      have j1 : (t.ks.length : Int) + 1 ≤ (ca : Int) := by omega
      go_enter Tryz.func14, Tryz.ntmps14
      go_wp2
      obtain ⟨w1, hw1, HB1, HX1, hs1⟩ := boxed w t.f (.slice (some ⟨ba, oa, none⟩) t.ks.length ca)
      rw [hw1]
      clear hw1
      obtain ⟨w2, hw2, HB2', HX2, hs2⟩ := boxed w1 t.f (.slice B t.ks.length cb)
      rw [hw2]
      clear hw2
      rw [hs1] at HX2
      have HX1 := hide ((unhide HX1).below (unhide HB2') (by omega))
      have HBw := hide ((unhide HB1).trans ((unhide HB2').mono (by omega)))
      clear HB1 HB2'
      go_loopw [8] (fun i wr => ∃ k : Nat, k ≤ t.ks.length ∧ i = .int .i64 k ∧ Below w2.heap.size w2 wr) (fun i _ => t.ks.length - (intOf i).toNat)
      case atStart => exact ⟨0, Nat.zero_le _, rfl, Below.refl _ _⟩
      case round =>
        obtain ⟨k, hk, rfl, hbw⟩ := hrel
        have hsz := hbw.size
        have HX1 := hide ((unhide HX1).below hbw (by omega))
        have HX2 := hide ((unhide HX2).below hbw (by omega))
        have HBW := hide ((unhide HBw).trans (hbw.mono (by omega)))
        have HBR := hide hbw
        clear hbw
        by_cases hkl : k < t.ks.length
        · obtain ⟨rfl, hbb, _⟩ := unhide HB (by omega)
          have hbaw : ba < wr.heap.size := by have := hS ba hba; omega
          have hbbw : bb < wr.heap.size := by have := hS bb hbb; omega
          have hSw0 : ∀ i, S i → i < wr.heap.size := fun i hi => by have := hS i hi; omega
          obtain ⟨va', HCa, HKa⟩ := ((hra.agree (Agree.of_below (unhide HBW) hS) hba).get k hkl).cs
          obtain ⟨vb', HCb, HKb⟩ := ((hrb.agree (Agree.of_below (unhide HBW) hS) hbb).get k hkl).cs
          have HCN := hide (cnts_lt (unhide HC) hkl)
          have i0 : (0 : Int) ≤ (k : Int) := by omega
          have i1 : (k : Int) < (t.ks.length : Int) := by omega
          have hle : wr.heap.size ≥ w.heap.size + 2 := by omega
          go_wp2
          refine wp_region_held_drew (S := Below wr.heap.size wr) (by kernel_rfl) ?_ (fun hHeld => ?_)
          · exact below_drw _
          refine wpAnyH_take (i := 0) (oi := { dst := some 87, op := Op.fieldAddr 25 (Operand.tmp 3) 7, type := 0, pos := "law.go:38", after := #[], guard := none }) (v := ?_) rfl (by kernel_rfl) (by kernel_rfl) (by kernel_rfl) (fun _ _ _ h => h) (Or.inl ⟨by rfl, ?_⟩) (by assumption) ?_
          rotate_left
          · intro wq hSw
            go_simp
            try (with_reducible rfl)
          go_frame
          refine wpAnyH_take (i := 1) (oi := { dst := some 88, op := Op.load 23 (Operand.tmp 87), type := 23, pos := "law.go:38", after := #[{ on := 0, ground := Ground.data }], guard := none }) (v := ?_) rfl (by kernel_rfl) (by kernel_rfl) (by kernel_rfl) (fun _ _ _ h => h) (Or.inl ⟨by rfl, ?_⟩) (by assumption) ?_
          rotate_left
          · intro wq hSw
            obtain ⟨x0, x1, x2, x3, x4, x5, x6, x7⟩ := ((unhide HX1).below hSw (by omega)).cell
            go_simp
            try (with_reducible rfl)
          go_frame
          refine wpAnyH_take (i := 2) (oi := { dst := some 89, op := Op.move (Operand.tmp 8), type := 3, pos := "law.go:38", after := #[], guard := none }) (v := ?_) rfl (by kernel_rfl) (by kernel_rfl) (by kernel_rfl) (fun _ _ _ h => h) (Or.inl ⟨by rfl, ?_⟩) (by assumption) ?_
          rotate_left
          · intro wq hSw
            go_simp
            try (with_reducible rfl)
          go_frame
          refine wpAnyH_take (i := 3) (oi := { dst := some 90, op := Op.indexAddr 23 (Operand.tmp 88) (Operand.tmp 89), type := 0, pos := "law.go:38", after := #[{ on := 1, ground := Ground.data }, { on := 2, ground := Ground.data }], guard := none }) (v := ?_) rfl (by kernel_rfl) (by kernel_rfl) (by kernel_rfl) (fun _ _ _ h => h) (Or.inl ⟨by rfl, ?_⟩) (by assumption) ?_
          rotate_left
          · intro wq hSw
            go_simp
            try (with_reducible rfl)
          go_frame
          refine wpAnyH_take (i := 4) (oi := { dst := some 91, op := Op.load 25 (Operand.tmp 90), type := 25, pos := "law.go:38", after := #[{ on := 3, ground := Ground.data }], guard := none }) (v := ?_) rfl (by kernel_rfl) (by kernel_rfl) (by kernel_rfl) (fun _ _ _ h => h) (Or.inl ⟨by rfl, ?_⟩) (by assumption) ?_
          rotate_left
          · intro wq hSw
            obtain ⟨y0, y1, y2, y3, y4, y5, y6, y7⟩ := (unhide HCa).below hSw hbaw
            go_simp
            try (with_reducible rfl)
          go_frame
          refine wpAnyH_take (i := 5) (oi := { dst := some 92, op := Op.fieldAddr 25 (Operand.tmp 4) 7, type := 0, pos := "law.go:38", after := #[], guard := none }) (v := ?_) rfl (by kernel_rfl) (by kernel_rfl) (by kernel_rfl) (fun _ _ _ h => h) (Or.inl ⟨by rfl, ?_⟩) (by assumption) ?_
          rotate_left
          · intro wq hSw
            go_simp
            try (with_reducible rfl)
          go_frame
          refine wpAnyH_take (i := 6) (oi := { dst := some 93, op := Op.load 23 (Operand.tmp 92), type := 23, pos := "law.go:38", after := #[{ on := 5, ground := Ground.data }], guard := none }) (v := ?_) rfl (by kernel_rfl) (by kernel_rfl) (by kernel_rfl) (fun _ _ _ h => h) (Or.inl ⟨by rfl, ?_⟩) (by assumption) ?_
          rotate_left
          · intro wq hSw
            obtain ⟨z0, z1, z2, z3, z4, z5, z6, z7⟩ := ((unhide HX2).below hSw (by omega)).cell
            go_simp
            try (with_reducible rfl)
          go_frame
          refine wpAnyH_take (i := 7) (oi := { dst := some 94, op := Op.move (Operand.tmp 8), type := 3, pos := "law.go:38", after := #[], guard := none }) (v := ?_) rfl (by kernel_rfl) (by kernel_rfl) (by kernel_rfl) (fun _ _ _ h => h) (Or.inl ⟨by rfl, ?_⟩) (by assumption) ?_
          rotate_left
          · intro wq hSw
            go_simp
            try (with_reducible rfl)
          go_frame
          refine wpAnyH_take (i := 8) (oi := { dst := some 95, op := Op.indexAddr 23 (Operand.tmp 93) (Operand.tmp 94), type := 0, pos := "law.go:38", after := #[{ on := 6, ground := Ground.data }, { on := 7, ground := Ground.data }], guard := none }) (v := ?_) rfl (by kernel_rfl) (by kernel_rfl) (by kernel_rfl) (fun _ _ _ h => h) (Or.inl ⟨by rfl, ?_⟩) (by assumption) ?_
          rotate_left
          · intro wq hSw
            go_simp
            try (with_reducible rfl)
          go_frame
          refine wpAnyH_take (i := 9) (oi := { dst := some 96, op := Op.load 25 (Operand.tmp 95), type := 25, pos := "law.go:38", after := #[{ on := 8, ground := Ground.data }], guard := none }) (v := ?_) rfl (by kernel_rfl) (by kernel_rfl) (by kernel_rfl) (fun _ _ _ h => h) (Or.inl ⟨by rfl, ?_⟩) (by assumption) ?_
          rotate_left
          · intro wq hSw
            obtain ⟨y0, y1, y2, y3, y4, y5, y6, y7⟩ := (unhide HCb).below hSw hbbw
            go_simp
            try (with_reducible rfl)
          go_frame
          refine wpAnyH_take (i := 10) (oi := { dst := some 97, op := Op.move (Operand.tmp 2), type := 4, pos := "law.go:38", after := #[], guard := none }) (v := ?_) rfl (by kernel_rfl) (by kernel_rfl) (by kernel_rfl) (fun _ _ _ h => h) (Or.inl ⟨by rfl, ?_⟩) (by assumption) ?_
          rotate_left
          · intro wq hSw
            go_simp
            try (with_reducible rfl)
          go_frame
          refine wpAnyH_ready (rs := [11]) (by kernel_rfl) (by simp) ?_
          refine AllReadyH.cons (o := { dst := some 98, op := Op.call { callee := Callee.value (Operand.func 14), args := #[Operand.tmp 91, Operand.tmp 96, Operand.tmp 97], argTypes := #[25, 25, 4] }, type := 4, pos := "law.go:38", after := #[{ on := 4, ground := Ground.data }, { on := 9, ground := Ground.data }, { on := 10, ground := Ground.data }], guard := none }) rfl (fun K hK => ?_) AllReadyH.nil
          go_simp
          refine (unhide HIH t.ks[k] _ va' vb' ms mt S true (unhide HCN) (by have := unhide HCN; omega) (fun _ => unhide HMK) ((unhide HKa).below hHeld hSw0) ((unhide HKb).below hHeld hSw0) (fun i hi => by have := hSw0 i hi; have := hHeld.size; omega)).mono ?_
          rintro e w5 ⟨rfl, b5⟩
          have HB5 := hide (below_undrew b5)
          clear b5
          go_wp2_with fail
          refine hK.out _ _ ?_ (fun hHeld => ?_)
          · exact unhide HB5
          clear hK K
          try go_frame
          refine wpAnyH_take (i := 12) (oi := { dst := some 9, op := Op.assign (Operand.tmp 98), type := 4, pos := "law.go:38", after := #[{ on := 11, ground := Ground.data }, { on := 11, ground := Ground.chain }, { on := 0, ground := Ground.phase }, { on := 1, ground := Ground.phase }, { on := 2, ground := Ground.phase }, { on := 3, ground := Ground.phase }, { on := 4, ground := Ground.phase }, { on := 5, ground := Ground.phase }, { on := 6, ground := Ground.phase }, { on := 7, ground := Ground.phase }, { on := 8, ground := Ground.phase }, { on := 9, ground := Ground.phase }, { on := 10, ground := Ground.phase }, { on := 11, ground := Ground.phase }], guard := none }) (v := ?_) rfl (by kernel_rfl) (by kernel_rfl) (by kernel_rfl) (fun _ _ _ h => h) (Or.inl ⟨by rfl, ?_⟩) (by assumption) ?_
          rotate_left
          · intro wq hSw
            go_simp
            try (with_reducible rfl)
          go_frame
          refine wpAnyH_done (by kernel_rfl) ?_ _
          go_wp2
          go_roundw
          case rel => exact ⟨k + 1, by omega, by go_num, (unhide HBR).trans (hHeld.mono (by omega))⟩
          case measure => simp [intOf]; omega
        · go_wp2
          go_ret
          exact ⟨rfl, unhide HBW⟩

end Go.Proofs.YtnclmlhmmljfgaaGreatDoor
