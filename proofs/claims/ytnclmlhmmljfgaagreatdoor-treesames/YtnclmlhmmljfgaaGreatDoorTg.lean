/- The document's Same. -/
import Derived.Test.YtnclmlhmmljfgaaGreatDoorTf
namespace Go.Proofs.YtnclmlhmmljfgaaGreatDoor
open Go.RowKit

theorem bne_int (a b : Int) : (a != b) = !decide (a = b) := by rw [bne, beq_int]
theorem bytes_bne (a b : ByteArray) : (a.toList != b.toList) = !decide (a = b) := by rw [bne, bytes_beq]

theorem sames_eq_of {a b : List Tr} (hl : a.length = b.length) {k : Nat} (hk : ¬ k < a.length) (h : ∀ j (_ : j < k) (h1 : j < a.length) (h2 : j < b.length), same a[j] b[j] = true) : sames a b = true := (sames_take a b hl).2 fun i h1 h2 => h i (by omega) h1 h2

theorem cnts_lt {t : Tr} {n k : Nat} (h : cnt t ≤ n + 1) (hk : k < t.ks.length) : cnt t.ks[k] ≤ n := by
  have := cnts_mem (List.getElem_mem hk)
  obtain ⟨f, ks⟩ := t
  unfold cnt at h
  simp only [Tr.ks] at this ⊢
  omega

set_option maxHeartbeats 4000000 in
theorem rsame_all (n : Nat) : ∀ (s t : Tr) (w : World) (u v : Value) (m : Md) (S : Nat → Prop), cnt s ≤ n → Kids w m S u s.ks → Kids w m S v t.ks → (∀ i, S i → i < w.heap.size) →
    Calls Tryz.prog 23 #[nv s.f u, nv t.f v] w fun e w' => e = .returned (.bool (same s t)) ∧ Below w.heap.size w w' := by
  induction n with
  | zero => intro s t w u v m S h; have := cnt_pos s; omega
  | succ n ih =>
    intro s t w u v m S hc hu hv hS
    obtain ⟨A, ca, ba, oa, rfl, hla, hA, hra⟩ := hu.form
    obtain ⟨B, cb, bb, ob, rfl, hlb, hB, hrb⟩ := hv.form
    have HK1 := hide hu
    have HK2 := hide hv
    have HA := hide hA
    have HB := hide hB
    have HC := hide hc
    clear hu hv hA hB hc
    have HB2 : ∀ o o', Hid (Below w.heap.size w ((w.alloc o).alloc o')) := fun o o' => hide (((Below.refl _ _).alloc (Nat.le_refl _) _).alloc (by rw [World.size_alloc]; omega) _)
    unfold nv
    have HM : Hid (mrk s.f.k = mrk s.f.k) := hide rfl
    generalize hmk : mrk s.f.k = mk at HM
    replace HM : Hid (mrk s.f.k = mk) := hide hmk
    have HMK := HM
    clear hmk
    have q0 := beq_int (s.f.k) (t.f.k)
    have r0 := bne_int (s.f.k) (t.f.k)
    have q1 := bytes_beq (s.f.t) (t.f.t)
    have r1 := bytes_bne (s.f.t) (t.f.t)
    have q2 := beq_int (s.f.n) (t.f.n)
    have r2 := bne_int (s.f.n) (t.f.n)
    have q3 := beq_int ((s.ks.length : Int)) ((t.ks.length : Int))
    have r3 := bne_int ((s.ks.length : Int)) ((t.ks.length : Int))
    by_cases c0 : s.f.k = t.f.k
    rotate_left
    · rw [decide_eq_false c0] at q0 r0
      have E := hide (show false = same s t by rw [same_eq, sameF]; rw [decide_eq_false c0]; rfl)
      clear ih HK1 HK2 hra hrb q1 r1 q2 r2 q3 r3 c0
      go_enter Tryz.func23, Tryz.ntmps23
      go_wp2_with (go_at_call 36; refine (rmarked_is (unhide HM) _).mono ?_; rintro e w' ⟨rfl, rfl⟩)
      go_ret
      exact ⟨ret_bool (unhide E), unhide (HB2 _ _)⟩
    rw [decide_eq_true c0] at q0 r0
    by_cases c1 : s.f.t = t.f.t
    rotate_left
    · rw [decide_eq_false c1] at q1 r1
      have E := hide (show false = same s t by rw [same_eq, sameF]; rw [decide_eq_false c1, Bool.and_false]; rfl)
      clear ih HK1 HK2 hra hrb q2 r2 q3 r3 c0 c1
      go_enter Tryz.func23, Tryz.ntmps23
      go_wp2_with (go_at_call 36; refine (rmarked_is (unhide HM) _).mono ?_; rintro e w' ⟨rfl, rfl⟩)
      go_ret
      exact ⟨ret_bool (unhide E), unhide (HB2 _ _)⟩
    rw [decide_eq_true c1] at q1 r1
    by_cases c2 : s.f.n = t.f.n
    rotate_left
    · rw [decide_eq_false c2] at q2 r2
      have E := hide (show false = same s t by rw [same_eq, sameF]; rw [decide_eq_false c2, Bool.and_false]; rfl)
      clear ih HK1 HK2 hra hrb q3 r3 c0 c1 c2
      go_enter Tryz.func23, Tryz.ntmps23
      go_wp2_with (go_at_call 36; refine (rmarked_is (unhide HM) _).mono ?_; rintro e w' ⟨rfl, rfl⟩)
      go_ret
      exact ⟨ret_bool (unhide E), unhide (HB2 _ _)⟩
    rw [decide_eq_true c2] at q2 r2
    by_cases c3 : (s.ks.length : Int) = (t.ks.length : Int)
    rotate_left
    · rw [decide_eq_false c3] at q3 r3
      have E := hide (show false = same s t by rw [same_eq, sames_nolen (by omega), Bool.and_false])
      clear ih HK1 HK2 hra hrb c0 c1 c2 c3
      go_enter Tryz.func23, Tryz.ntmps23
      go_wp2_with (go_at_call 36; refine (rmarked_is (unhide HM) _).mono ?_; rintro e w' ⟨rfl, rfl⟩)
      go_ret
      exact ⟨ret_bool (unhide E), unhide (HB2 _ _)⟩
    rw [decide_eq_true c3] at q3 r3
    have q4 := bytes_beq s.f.y t.f.y
    have r4 := bytes_bne s.f.y t.f.y
    by_cases hy : mk = false ∧ ¬ s.f.y = t.f.y
    · obtain ⟨rfl, c4⟩ := hy
      rw [decide_eq_false c4] at q4 r4
      have E := hide (show false = same s t by rw [same_eq, sameF, unhide HMK, decide_eq_false c4]; simp)
      clear ih HK1 HK2 hra hrb c0 c1 c2 c3 c4
      go_enter Tryz.func23, Tryz.ntmps23
      go_wp2_with (go_at_call 36; refine (rmarked_is (unhide HM) _).mono ?_; rintro e w' ⟨rfl, rfl⟩)
      go_ret
      exact ⟨ret_bool (unhide E), unhide (HB2 _ _)⟩
    have hsf : sameF s.f t.f = true := by
      unfold sameF
      rw [decide_eq_true c0, decide_eq_true c1, decide_eq_true c2, unhide HMK]
      cases mk
      · have : s.f.y = t.f.y := Classical.byContradiction fun h => hy ⟨rfl, h⟩
        rw [decide_eq_true this]; rfl
      · rfl
    have HSF := hide hsf
    have HL := hide (show s.ks.length = t.ks.length by omega)
    have hq : mk = true ∨ s.f.y = t.f.y := by
      cases mk
      · exact Or.inr (Classical.byContradiction fun h => hy ⟨rfl, h⟩)
      · exact Or.inl rfl
    have HIH := hide ih
    clear ih c0 c1 c2 c3 hy hsf
    cases mk
    · have c4 : s.f.y = t.f.y := by rcases hq with h | h; cases h; exact h
      rw [decide_eq_true c4] at q4 r4
      clear hq c4
      go_enter Tryz.func23, Tryz.ntmps23
      go_wp2_with (go_at_call 36; refine (rmarked_is (unhide HM) _).mono ?_; rintro e w' ⟨rfl, rfl⟩)
      obtain ⟨w1, hw1, HB1, HX1, hs1⟩ := boxed w s.f (.slice A s.ks.length ca)
      rw [hw1]
      clear hw1
      obtain ⟨w2, hw2, HB2', HX2, hs2⟩ := boxed w1 t.f (.slice B t.ks.length cb)
      rw [hw2]
      clear hw2
      rw [hs1] at HX2
      have HX1 := hide ((unhide HX1).below (unhide HB2') (by omega))
      have HBw := hide ((unhide HB1).trans ((unhide HB2').mono (by omega)))
      clear HB1 HB2' HB2
      go_loopw [6] (fun i wr => ∃ k : Nat, k ≤ s.ks.length ∧ i = .int .i64 k ∧ Below w2.heap.size w2 wr ∧ ∀ j (_ : j < k) (h1 : j < s.ks.length) (h2 : j < t.ks.length), same s.ks[j] t.ks[j] = true) (fun i _ => s.ks.length - (intOf i).toNat)
      case atStart => exact ⟨0, Nat.zero_le _, rfl, Below.refl _ _, fun j h => by omega⟩
      case round =>
        obtain ⟨k, hk, rfl, hbw, hsm⟩ := hrel
        have hsz := hbw.size
        have HX1 := hide ((unhide HX1).below hbw (by omega))
        have HX2 := hide ((unhide HX2).below hbw (by omega))
        have HBW := hide ((unhide HBw).trans (hbw.mono (by omega)))
        have HBR := hide hbw
        have HSM := hide hsm
        clear hbw hsm
        obtain ⟨x0, x1, x2, x3, x4, x5, x6, x7⟩ := (unhide HX1).cell
        by_cases hkl : k < s.ks.length
        · have hkt : k < t.ks.length := by have := unhide HL; omega
          obtain ⟨rfl, hba, _⟩ := unhide HA (by omega)
          obtain ⟨rfl, hbb, _⟩ := unhide HB (by omega)
          have hbaw : ba < wr.heap.size := by have := hS ba hba; omega
          have hbbw : bb < wr.heap.size := by have := hS bb hbb; omega
          have hSw0 : ∀ i, S i → i < wr.heap.size := fun i hi => by have := hS i hi; omega
          obtain ⟨va', HCa, HKa⟩ := ((hra.agree (Agree.of_below (unhide HBW) hS) hba).get k hkl).cs
          obtain ⟨vb', HCb, HKb⟩ := ((hrb.agree (Agree.of_below (unhide HBW) hS) hbb).get k hkt).cs
          have HCN := hide (cnts_lt (unhide HC) hkl)
          have i0 : (0 : Int) ≤ (k : Int) := by omega
          have i1 : (k : Int) < (s.ks.length : Int) := by omega
          have i2 : (k : Int) < (t.ks.length : Int) := by omega
          have hle : wr.heap.size ≥ w.heap.size + 2 := by omega
          cases hs : same s.ks[k] t.ks[k]
          · have HSK := hide hs
            have E := hide (show false = same s t by rw [same_eq, sames_no hkl hkt hs, Bool.and_false])
            clear hs
            go_wp2
            refine wp_region_held_drew (S := Below wr.heap.size wr) (by kernel_rfl) ?_ (fun hHeld => ?_)
            · exact below_drw _
            refine wpAnyH_take (i := 0) (oi := { dst := some 57, op := Op.fieldAddr 25 (Operand.tmp 2) 7, type := 0, pos := "ref.go:375", after := #[], guard := none }) (v := ?_) rfl (by kernel_rfl) (by kernel_rfl) (by kernel_rfl) (fun _ _ _ h => h) (Or.inl ⟨by rfl, ?_⟩) (by assumption) ?_
            rotate_left
            · intro wq hSw
              go_simp
              try (with_reducible rfl)
            go_frame
            refine wpAnyH_take (i := 1) (oi := { dst := some 58, op := Op.load 23 (Operand.tmp 57), type := 23, pos := "ref.go:375", after := #[{ on := 0, ground := Ground.data }], guard := none }) (v := ?_) rfl (by kernel_rfl) (by kernel_rfl) (by kernel_rfl) (fun _ _ _ h => h) (Or.inl ⟨by rfl, ?_⟩) (by assumption) ?_
            rotate_left
            · intro wq hSw
              obtain ⟨x0, x1, x2, x3, x4, x5, x6, x7⟩ := ((unhide HX1).below hSw (by omega)).cell
              go_simp
              try (with_reducible rfl)
            go_frame
            refine wpAnyH_take (i := 2) (oi := { dst := some 59, op := Op.move (Operand.tmp 6), type := 3, pos := "ref.go:375", after := #[], guard := none }) (v := ?_) rfl (by kernel_rfl) (by kernel_rfl) (by kernel_rfl) (fun _ _ _ h => h) (Or.inl ⟨by rfl, ?_⟩) (by assumption) ?_
            rotate_left
            · intro wq hSw
              go_simp
              try (with_reducible rfl)
            go_frame
            refine wpAnyH_take (i := 3) (oi := { dst := some 60, op := Op.indexAddr 23 (Operand.tmp 58) (Operand.tmp 59), type := 0, pos := "ref.go:375", after := #[{ on := 1, ground := Ground.data }, { on := 2, ground := Ground.data }], guard := none }) (v := ?_) rfl (by kernel_rfl) (by kernel_rfl) (by kernel_rfl) (fun _ _ _ h => h) (Or.inl ⟨by rfl, ?_⟩) (by assumption) ?_
            rotate_left
            · intro wq hSw
              go_simp
              try (with_reducible rfl)
            go_frame
            refine wpAnyH_take (i := 4) (oi := { dst := some 61, op := Op.load 25 (Operand.tmp 60), type := 25, pos := "ref.go:375", after := #[{ on := 3, ground := Ground.data }], guard := none }) (v := ?_) rfl (by kernel_rfl) (by kernel_rfl) (by kernel_rfl) (fun _ _ _ h => h) (Or.inl ⟨by rfl, ?_⟩) (by assumption) ?_
            rotate_left
            · intro wq hSw
              obtain ⟨y0, y1, y2, y3, y4, y5, y6, y7⟩ := (unhide HCa).below hSw hbaw
              go_simp
              try (with_reducible rfl)
            go_frame
            refine wpAnyH_take (i := 5) (oi := { dst := some 62, op := Op.fieldAddr 25 (Operand.tmp 3) 7, type := 0, pos := "ref.go:375", after := #[], guard := none }) (v := ?_) rfl (by kernel_rfl) (by kernel_rfl) (by kernel_rfl) (fun _ _ _ h => h) (Or.inl ⟨by rfl, ?_⟩) (by assumption) ?_
            rotate_left
            · intro wq hSw
              go_simp
              try (with_reducible rfl)
            go_frame
            refine wpAnyH_take (i := 6) (oi := { dst := some 63, op := Op.load 23 (Operand.tmp 62), type := 23, pos := "ref.go:375", after := #[{ on := 5, ground := Ground.data }], guard := none }) (v := ?_) rfl (by kernel_rfl) (by kernel_rfl) (by kernel_rfl) (fun _ _ _ h => h) (Or.inl ⟨by rfl, ?_⟩) (by assumption) ?_
            rotate_left
            · intro wq hSw
              obtain ⟨z0, z1, z2, z3, z4, z5, z6, z7⟩ := ((unhide HX2).below hSw (by omega)).cell
              go_simp
              try (with_reducible rfl)
            go_frame
            refine wpAnyH_take (i := 7) (oi := { dst := some 64, op := Op.move (Operand.tmp 6), type := 3, pos := "ref.go:375", after := #[], guard := none }) (v := ?_) rfl (by kernel_rfl) (by kernel_rfl) (by kernel_rfl) (fun _ _ _ h => h) (Or.inl ⟨by rfl, ?_⟩) (by assumption) ?_
            rotate_left
            · intro wq hSw
              go_simp
              try (with_reducible rfl)
            go_frame
            refine wpAnyH_take (i := 8) (oi := { dst := some 65, op := Op.indexAddr 23 (Operand.tmp 63) (Operand.tmp 64), type := 0, pos := "ref.go:375", after := #[{ on := 6, ground := Ground.data }, { on := 7, ground := Ground.data }], guard := none }) (v := ?_) rfl (by kernel_rfl) (by kernel_rfl) (by kernel_rfl) (fun _ _ _ h => h) (Or.inl ⟨by rfl, ?_⟩) (by assumption) ?_
            rotate_left
            · intro wq hSw
              go_simp
              try (with_reducible rfl)
            go_frame
            refine wpAnyH_take (i := 9) (oi := { dst := some 66, op := Op.load 25 (Operand.tmp 65), type := 25, pos := "ref.go:375", after := #[{ on := 8, ground := Ground.data }], guard := none }) (v := ?_) rfl (by kernel_rfl) (by kernel_rfl) (by kernel_rfl) (fun _ _ _ h => h) (Or.inl ⟨by rfl, ?_⟩) (by assumption) ?_
            rotate_left
            · intro wq hSw
              obtain ⟨y0, y1, y2, y3, y4, y5, y6, y7⟩ := (unhide HCb).below hSw hbbw
              go_simp
              try (with_reducible rfl)
            go_frame
            refine wpAnyH_ready (rs := [10]) (by kernel_rfl) (by simp) ?_
            refine AllReadyH.cons (o := { dst := some 67, op := Op.call { callee := Callee.value (Operand.func 23), args := #[Operand.tmp 61, Operand.tmp 66], argTypes := #[25, 25] }, type := 4, pos := "ref.go:375", after := #[{ on := 4, ground := Ground.data }, { on := 9, ground := Ground.data }], guard := none }) rfl (fun K hK => ?_) AllReadyH.nil
            go_simp
            refine (unhide HIH s.ks[k] t.ks[k] _ va' vb' m S (unhide HCN) ((unhide HKa).below hHeld hSw0) ((unhide HKb).below hHeld hSw0) (fun i hi => by have := hSw0 i hi; have := hHeld.size; omega)).mono ?_
            rintro e w5 ⟨rfl, b5⟩
            rw [unhide HSK]
            have HB5 := hide (below_undrew b5)
            clear b5
            go_wp2_with fail
            refine hK.out _ _ ?_ (fun hHeld => ?_)
            · exact unhide HB5
            clear hK K
            try go_frame
            refine wpAnyH_take (i := 11) (oi := { dst := some 7, op := Op.assign (Operand.tmp 67), type := 4, pos := "ref.go:375", after := #[{ on := 10, ground := Ground.data }, { on := 10, ground := Ground.chain }, { on := 0, ground := Ground.phase }, { on := 1, ground := Ground.phase }, { on := 2, ground := Ground.phase }, { on := 3, ground := Ground.phase }, { on := 4, ground := Ground.phase }, { on := 5, ground := Ground.phase }, { on := 6, ground := Ground.phase }, { on := 7, ground := Ground.phase }, { on := 8, ground := Ground.phase }, { on := 9, ground := Ground.phase }, { on := 10, ground := Ground.phase }], guard := none }) (v := ?_) rfl (by kernel_rfl) (by kernel_rfl) (by kernel_rfl) (fun _ _ _ h => h) (Or.inl ⟨by rfl, ?_⟩) (by assumption) ?_
            rotate_left
            · intro wq hSw
              go_simp
              try (with_reducible rfl)
            go_frame
            refine wpAnyH_done (by kernel_rfl) ?_ _
            go_wp2
            go_ret
            exact ⟨ret_bool (unhide E), (unhide HBW).trans (hHeld.mono (by omega))⟩
          · have HSK := hide hs
            clear hs
            go_wp2
            refine wp_region_held_drew (S := Below wr.heap.size wr) (by kernel_rfl) ?_ (fun hHeld => ?_)
            · exact below_drw _
            refine wpAnyH_take (i := 0) (oi := { dst := some 57, op := Op.fieldAddr 25 (Operand.tmp 2) 7, type := 0, pos := "ref.go:375", after := #[], guard := none }) (v := ?_) rfl (by kernel_rfl) (by kernel_rfl) (by kernel_rfl) (fun _ _ _ h => h) (Or.inl ⟨by rfl, ?_⟩) (by assumption) ?_
            rotate_left
            · intro wq hSw
              go_simp
              try (with_reducible rfl)
            go_frame
            refine wpAnyH_take (i := 1) (oi := { dst := some 58, op := Op.load 23 (Operand.tmp 57), type := 23, pos := "ref.go:375", after := #[{ on := 0, ground := Ground.data }], guard := none }) (v := ?_) rfl (by kernel_rfl) (by kernel_rfl) (by kernel_rfl) (fun _ _ _ h => h) (Or.inl ⟨by rfl, ?_⟩) (by assumption) ?_
            rotate_left
            · intro wq hSw
              obtain ⟨x0, x1, x2, x3, x4, x5, x6, x7⟩ := ((unhide HX1).below hSw (by omega)).cell
              go_simp
              try (with_reducible rfl)
            go_frame
            refine wpAnyH_take (i := 2) (oi := { dst := some 59, op := Op.move (Operand.tmp 6), type := 3, pos := "ref.go:375", after := #[], guard := none }) (v := ?_) rfl (by kernel_rfl) (by kernel_rfl) (by kernel_rfl) (fun _ _ _ h => h) (Or.inl ⟨by rfl, ?_⟩) (by assumption) ?_
            rotate_left
            · intro wq hSw
              go_simp
              try (with_reducible rfl)
            go_frame
            refine wpAnyH_take (i := 3) (oi := { dst := some 60, op := Op.indexAddr 23 (Operand.tmp 58) (Operand.tmp 59), type := 0, pos := "ref.go:375", after := #[{ on := 1, ground := Ground.data }, { on := 2, ground := Ground.data }], guard := none }) (v := ?_) rfl (by kernel_rfl) (by kernel_rfl) (by kernel_rfl) (fun _ _ _ h => h) (Or.inl ⟨by rfl, ?_⟩) (by assumption) ?_
            rotate_left
            · intro wq hSw
              go_simp
              try (with_reducible rfl)
            go_frame
            refine wpAnyH_take (i := 4) (oi := { dst := some 61, op := Op.load 25 (Operand.tmp 60), type := 25, pos := "ref.go:375", after := #[{ on := 3, ground := Ground.data }], guard := none }) (v := ?_) rfl (by kernel_rfl) (by kernel_rfl) (by kernel_rfl) (fun _ _ _ h => h) (Or.inl ⟨by rfl, ?_⟩) (by assumption) ?_
            rotate_left
            · intro wq hSw
              obtain ⟨y0, y1, y2, y3, y4, y5, y6, y7⟩ := (unhide HCa).below hSw hbaw
              go_simp
              try (with_reducible rfl)
            go_frame
            refine wpAnyH_take (i := 5) (oi := { dst := some 62, op := Op.fieldAddr 25 (Operand.tmp 3) 7, type := 0, pos := "ref.go:375", after := #[], guard := none }) (v := ?_) rfl (by kernel_rfl) (by kernel_rfl) (by kernel_rfl) (fun _ _ _ h => h) (Or.inl ⟨by rfl, ?_⟩) (by assumption) ?_
            rotate_left
            · intro wq hSw
              go_simp
              try (with_reducible rfl)
            go_frame
            refine wpAnyH_take (i := 6) (oi := { dst := some 63, op := Op.load 23 (Operand.tmp 62), type := 23, pos := "ref.go:375", after := #[{ on := 5, ground := Ground.data }], guard := none }) (v := ?_) rfl (by kernel_rfl) (by kernel_rfl) (by kernel_rfl) (fun _ _ _ h => h) (Or.inl ⟨by rfl, ?_⟩) (by assumption) ?_
            rotate_left
            · intro wq hSw
              obtain ⟨z0, z1, z2, z3, z4, z5, z6, z7⟩ := ((unhide HX2).below hSw (by omega)).cell
              go_simp
              try (with_reducible rfl)
            go_frame
            refine wpAnyH_take (i := 7) (oi := { dst := some 64, op := Op.move (Operand.tmp 6), type := 3, pos := "ref.go:375", after := #[], guard := none }) (v := ?_) rfl (by kernel_rfl) (by kernel_rfl) (by kernel_rfl) (fun _ _ _ h => h) (Or.inl ⟨by rfl, ?_⟩) (by assumption) ?_
            rotate_left
            · intro wq hSw
              go_simp
              try (with_reducible rfl)
            go_frame
            refine wpAnyH_take (i := 8) (oi := { dst := some 65, op := Op.indexAddr 23 (Operand.tmp 63) (Operand.tmp 64), type := 0, pos := "ref.go:375", after := #[{ on := 6, ground := Ground.data }, { on := 7, ground := Ground.data }], guard := none }) (v := ?_) rfl (by kernel_rfl) (by kernel_rfl) (by kernel_rfl) (fun _ _ _ h => h) (Or.inl ⟨by rfl, ?_⟩) (by assumption) ?_
            rotate_left
            · intro wq hSw
              go_simp
              try (with_reducible rfl)
            go_frame
            refine wpAnyH_take (i := 9) (oi := { dst := some 66, op := Op.load 25 (Operand.tmp 65), type := 25, pos := "ref.go:375", after := #[{ on := 8, ground := Ground.data }], guard := none }) (v := ?_) rfl (by kernel_rfl) (by kernel_rfl) (by kernel_rfl) (fun _ _ _ h => h) (Or.inl ⟨by rfl, ?_⟩) (by assumption) ?_
            rotate_left
            · intro wq hSw
              obtain ⟨y0, y1, y2, y3, y4, y5, y6, y7⟩ := (unhide HCb).below hSw hbbw
              go_simp
              try (with_reducible rfl)
            go_frame
            refine wpAnyH_ready (rs := [10]) (by kernel_rfl) (by simp) ?_
            refine AllReadyH.cons (o := { dst := some 67, op := Op.call { callee := Callee.value (Operand.func 23), args := #[Operand.tmp 61, Operand.tmp 66], argTypes := #[25, 25] }, type := 4, pos := "ref.go:375", after := #[{ on := 4, ground := Ground.data }, { on := 9, ground := Ground.data }], guard := none }) rfl (fun K hK => ?_) AllReadyH.nil
            go_simp
            refine (unhide HIH s.ks[k] t.ks[k] _ va' vb' m S (unhide HCN) ((unhide HKa).below hHeld hSw0) ((unhide HKb).below hHeld hSw0) (fun i hi => by have := hSw0 i hi; have := hHeld.size; omega)).mono ?_
            rintro e w5 ⟨rfl, b5⟩
            rw [unhide HSK]
            have HB5 := hide (below_undrew b5)
            clear b5
            go_wp2_with fail
            refine hK.out _ _ ?_ (fun hHeld => ?_)
            · exact unhide HB5
            clear hK K
            try go_frame
            refine wpAnyH_take (i := 11) (oi := { dst := some 7, op := Op.assign (Operand.tmp 67), type := 4, pos := "ref.go:375", after := #[{ on := 10, ground := Ground.data }, { on := 10, ground := Ground.chain }, { on := 0, ground := Ground.phase }, { on := 1, ground := Ground.phase }, { on := 2, ground := Ground.phase }, { on := 3, ground := Ground.phase }, { on := 4, ground := Ground.phase }, { on := 5, ground := Ground.phase }, { on := 6, ground := Ground.phase }, { on := 7, ground := Ground.phase }, { on := 8, ground := Ground.phase }, { on := 9, ground := Ground.phase }, { on := 10, ground := Ground.phase }], guard := none }) (v := ?_) rfl (by kernel_rfl) (by kernel_rfl) (by kernel_rfl) (fun _ _ _ h => h) (Or.inl ⟨by rfl, ?_⟩) (by assumption) ?_
            rotate_left
            · intro wq hSw
              go_simp
              try (with_reducible rfl)
            go_frame
            refine wpAnyH_done (by kernel_rfl) ?_ _
            go_wp2
            go_roundw
            case rel => exact ⟨k + 1, by omega, by go_num, (unhide HBR).trans (hHeld.mono (by omega)), fun j h h1 h2 => by
              rcases Nat.lt_or_ge j k with hj | hj
              · exact unhide HSM j hj h1 h2
              · obtain rfl : j = k := by omega
                exact unhide HSK⟩
            case measure => simp [intOf]; omega
        · have E := hide (show true = same s t by rw [same_eq, unhide HSF, sames_eq_of (unhide HL) hkl (unhide HSM)]; rfl)
          go_wp2
          go_ret
          exact ⟨ret_bool (unhide E), unhide HBW⟩
    · clear hq q4 r4
      go_enter Tryz.func23, Tryz.ntmps23
      go_wp2_with (go_at_call 36; refine (rmarked_is (unhide HM) _).mono ?_; rintro e w' ⟨rfl, rfl⟩)
      obtain ⟨w1, hw1, HB1, HX1, hs1⟩ := boxed w s.f (.slice A s.ks.length ca)
      rw [hw1]
      clear hw1
      obtain ⟨w2, hw2, HB2', HX2, hs2⟩ := boxed w1 t.f (.slice B t.ks.length cb)
      rw [hw2]
      clear hw2
      rw [hs1] at HX2
      have HX1 := hide ((unhide HX1).below (unhide HB2') (by omega))
      have HBw := hide ((unhide HB1).trans ((unhide HB2').mono (by omega)))
      clear HB1 HB2' HB2
      go_loopw [6] (fun i wr => ∃ k : Nat, k ≤ s.ks.length ∧ i = .int .i64 k ∧ Below w2.heap.size w2 wr ∧ ∀ j (_ : j < k) (h1 : j < s.ks.length) (h2 : j < t.ks.length), same s.ks[j] t.ks[j] = true) (fun i _ => s.ks.length - (intOf i).toNat)
      case atStart => exact ⟨0, Nat.zero_le _, rfl, Below.refl _ _, fun j h => by omega⟩
      case round =>
        obtain ⟨k, hk, rfl, hbw, hsm⟩ := hrel
        have hsz := hbw.size
        have HX1 := hide ((unhide HX1).below hbw (by omega))
        have HX2 := hide ((unhide HX2).below hbw (by omega))
        have HBW := hide ((unhide HBw).trans (hbw.mono (by omega)))
        have HBR := hide hbw
        have HSM := hide hsm
        clear hbw hsm
        obtain ⟨x0, x1, x2, x3, x4, x5, x6, x7⟩ := (unhide HX1).cell
        by_cases hkl : k < s.ks.length
        · have hkt : k < t.ks.length := by have := unhide HL; omega
          obtain ⟨rfl, hba, _⟩ := unhide HA (by omega)
          obtain ⟨rfl, hbb, _⟩ := unhide HB (by omega)
          have hbaw : ba < wr.heap.size := by have := hS ba hba; omega
          have hbbw : bb < wr.heap.size := by have := hS bb hbb; omega
          have hSw0 : ∀ i, S i → i < wr.heap.size := fun i hi => by have := hS i hi; omega
          obtain ⟨va', HCa, HKa⟩ := ((hra.agree (Agree.of_below (unhide HBW) hS) hba).get k hkl).cs
          obtain ⟨vb', HCb, HKb⟩ := ((hrb.agree (Agree.of_below (unhide HBW) hS) hbb).get k hkt).cs
          have HCN := hide (cnts_lt (unhide HC) hkl)
          have i0 : (0 : Int) ≤ (k : Int) := by omega
          have i1 : (k : Int) < (s.ks.length : Int) := by omega
          have i2 : (k : Int) < (t.ks.length : Int) := by omega
          have hle : wr.heap.size ≥ w.heap.size + 2 := by omega
          cases hs : same s.ks[k] t.ks[k]
          · have HSK := hide hs
            have E := hide (show false = same s t by rw [same_eq, sames_no hkl hkt hs, Bool.and_false])
            clear hs
            go_wp2
            refine wp_region_held_drew (S := Below wr.heap.size wr) (by kernel_rfl) ?_ (fun hHeld => ?_)
            · exact below_drw _
            refine wpAnyH_take (i := 0) (oi := { dst := some 57, op := Op.fieldAddr 25 (Operand.tmp 2) 7, type := 0, pos := "ref.go:375", after := #[], guard := none }) (v := ?_) rfl (by kernel_rfl) (by kernel_rfl) (by kernel_rfl) (fun _ _ _ h => h) (Or.inl ⟨by rfl, ?_⟩) (by assumption) ?_
            rotate_left
            · intro wq hSw
              go_simp
              try (with_reducible rfl)
            go_frame
            refine wpAnyH_take (i := 1) (oi := { dst := some 58, op := Op.load 23 (Operand.tmp 57), type := 23, pos := "ref.go:375", after := #[{ on := 0, ground := Ground.data }], guard := none }) (v := ?_) rfl (by kernel_rfl) (by kernel_rfl) (by kernel_rfl) (fun _ _ _ h => h) (Or.inl ⟨by rfl, ?_⟩) (by assumption) ?_
            rotate_left
            · intro wq hSw
              obtain ⟨x0, x1, x2, x3, x4, x5, x6, x7⟩ := ((unhide HX1).below hSw (by omega)).cell
              go_simp
              try (with_reducible rfl)
            go_frame
            refine wpAnyH_take (i := 2) (oi := { dst := some 59, op := Op.move (Operand.tmp 6), type := 3, pos := "ref.go:375", after := #[], guard := none }) (v := ?_) rfl (by kernel_rfl) (by kernel_rfl) (by kernel_rfl) (fun _ _ _ h => h) (Or.inl ⟨by rfl, ?_⟩) (by assumption) ?_
            rotate_left
            · intro wq hSw
              go_simp
              try (with_reducible rfl)
            go_frame
            refine wpAnyH_take (i := 3) (oi := { dst := some 60, op := Op.indexAddr 23 (Operand.tmp 58) (Operand.tmp 59), type := 0, pos := "ref.go:375", after := #[{ on := 1, ground := Ground.data }, { on := 2, ground := Ground.data }], guard := none }) (v := ?_) rfl (by kernel_rfl) (by kernel_rfl) (by kernel_rfl) (fun _ _ _ h => h) (Or.inl ⟨by rfl, ?_⟩) (by assumption) ?_
            rotate_left
            · intro wq hSw
              go_simp
              try (with_reducible rfl)
            go_frame
            refine wpAnyH_take (i := 4) (oi := { dst := some 61, op := Op.load 25 (Operand.tmp 60), type := 25, pos := "ref.go:375", after := #[{ on := 3, ground := Ground.data }], guard := none }) (v := ?_) rfl (by kernel_rfl) (by kernel_rfl) (by kernel_rfl) (fun _ _ _ h => h) (Or.inl ⟨by rfl, ?_⟩) (by assumption) ?_
            rotate_left
            · intro wq hSw
              obtain ⟨y0, y1, y2, y3, y4, y5, y6, y7⟩ := (unhide HCa).below hSw hbaw
              go_simp
              try (with_reducible rfl)
            go_frame
            refine wpAnyH_take (i := 5) (oi := { dst := some 62, op := Op.fieldAddr 25 (Operand.tmp 3) 7, type := 0, pos := "ref.go:375", after := #[], guard := none }) (v := ?_) rfl (by kernel_rfl) (by kernel_rfl) (by kernel_rfl) (fun _ _ _ h => h) (Or.inl ⟨by rfl, ?_⟩) (by assumption) ?_
            rotate_left
            · intro wq hSw
              go_simp
              try (with_reducible rfl)
            go_frame
            refine wpAnyH_take (i := 6) (oi := { dst := some 63, op := Op.load 23 (Operand.tmp 62), type := 23, pos := "ref.go:375", after := #[{ on := 5, ground := Ground.data }], guard := none }) (v := ?_) rfl (by kernel_rfl) (by kernel_rfl) (by kernel_rfl) (fun _ _ _ h => h) (Or.inl ⟨by rfl, ?_⟩) (by assumption) ?_
            rotate_left
            · intro wq hSw
              obtain ⟨z0, z1, z2, z3, z4, z5, z6, z7⟩ := ((unhide HX2).below hSw (by omega)).cell
              go_simp
              try (with_reducible rfl)
            go_frame
            refine wpAnyH_take (i := 7) (oi := { dst := some 64, op := Op.move (Operand.tmp 6), type := 3, pos := "ref.go:375", after := #[], guard := none }) (v := ?_) rfl (by kernel_rfl) (by kernel_rfl) (by kernel_rfl) (fun _ _ _ h => h) (Or.inl ⟨by rfl, ?_⟩) (by assumption) ?_
            rotate_left
            · intro wq hSw
              go_simp
              try (with_reducible rfl)
            go_frame
            refine wpAnyH_take (i := 8) (oi := { dst := some 65, op := Op.indexAddr 23 (Operand.tmp 63) (Operand.tmp 64), type := 0, pos := "ref.go:375", after := #[{ on := 6, ground := Ground.data }, { on := 7, ground := Ground.data }], guard := none }) (v := ?_) rfl (by kernel_rfl) (by kernel_rfl) (by kernel_rfl) (fun _ _ _ h => h) (Or.inl ⟨by rfl, ?_⟩) (by assumption) ?_
            rotate_left
            · intro wq hSw
              go_simp
              try (with_reducible rfl)
            go_frame
            refine wpAnyH_take (i := 9) (oi := { dst := some 66, op := Op.load 25 (Operand.tmp 65), type := 25, pos := "ref.go:375", after := #[{ on := 8, ground := Ground.data }], guard := none }) (v := ?_) rfl (by kernel_rfl) (by kernel_rfl) (by kernel_rfl) (fun _ _ _ h => h) (Or.inl ⟨by rfl, ?_⟩) (by assumption) ?_
            rotate_left
            · intro wq hSw
              obtain ⟨y0, y1, y2, y3, y4, y5, y6, y7⟩ := (unhide HCb).below hSw hbbw
              go_simp
              try (with_reducible rfl)
            go_frame
            refine wpAnyH_ready (rs := [10]) (by kernel_rfl) (by simp) ?_
            refine AllReadyH.cons (o := { dst := some 67, op := Op.call { callee := Callee.value (Operand.func 23), args := #[Operand.tmp 61, Operand.tmp 66], argTypes := #[25, 25] }, type := 4, pos := "ref.go:375", after := #[{ on := 4, ground := Ground.data }, { on := 9, ground := Ground.data }], guard := none }) rfl (fun K hK => ?_) AllReadyH.nil
            go_simp
            refine (unhide HIH s.ks[k] t.ks[k] _ va' vb' m S (unhide HCN) ((unhide HKa).below hHeld hSw0) ((unhide HKb).below hHeld hSw0) (fun i hi => by have := hSw0 i hi; have := hHeld.size; omega)).mono ?_
            rintro e w5 ⟨rfl, b5⟩
            rw [unhide HSK]
            have HB5 := hide (below_undrew b5)
            clear b5
            go_wp2_with fail
            refine hK.out _ _ ?_ (fun hHeld => ?_)
            · exact unhide HB5
            clear hK K
            try go_frame
            refine wpAnyH_take (i := 11) (oi := { dst := some 7, op := Op.assign (Operand.tmp 67), type := 4, pos := "ref.go:375", after := #[{ on := 10, ground := Ground.data }, { on := 10, ground := Ground.chain }, { on := 0, ground := Ground.phase }, { on := 1, ground := Ground.phase }, { on := 2, ground := Ground.phase }, { on := 3, ground := Ground.phase }, { on := 4, ground := Ground.phase }, { on := 5, ground := Ground.phase }, { on := 6, ground := Ground.phase }, { on := 7, ground := Ground.phase }, { on := 8, ground := Ground.phase }, { on := 9, ground := Ground.phase }, { on := 10, ground := Ground.phase }], guard := none }) (v := ?_) rfl (by kernel_rfl) (by kernel_rfl) (by kernel_rfl) (fun _ _ _ h => h) (Or.inl ⟨by rfl, ?_⟩) (by assumption) ?_
            rotate_left
            · intro wq hSw
              go_simp
              try (with_reducible rfl)
            go_frame
            refine wpAnyH_done (by kernel_rfl) ?_ _
            go_wp2
            go_ret
            exact ⟨ret_bool (unhide E), (unhide HBW).trans (hHeld.mono (by omega))⟩
          · have HSK := hide hs
            clear hs
            go_wp2
            refine wp_region_held_drew (S := Below wr.heap.size wr) (by kernel_rfl) ?_ (fun hHeld => ?_)
            · exact below_drw _
            refine wpAnyH_take (i := 0) (oi := { dst := some 57, op := Op.fieldAddr 25 (Operand.tmp 2) 7, type := 0, pos := "ref.go:375", after := #[], guard := none }) (v := ?_) rfl (by kernel_rfl) (by kernel_rfl) (by kernel_rfl) (fun _ _ _ h => h) (Or.inl ⟨by rfl, ?_⟩) (by assumption) ?_
            rotate_left
            · intro wq hSw
              go_simp
              try (with_reducible rfl)
            go_frame
            refine wpAnyH_take (i := 1) (oi := { dst := some 58, op := Op.load 23 (Operand.tmp 57), type := 23, pos := "ref.go:375", after := #[{ on := 0, ground := Ground.data }], guard := none }) (v := ?_) rfl (by kernel_rfl) (by kernel_rfl) (by kernel_rfl) (fun _ _ _ h => h) (Or.inl ⟨by rfl, ?_⟩) (by assumption) ?_
            rotate_left
            · intro wq hSw
              obtain ⟨x0, x1, x2, x3, x4, x5, x6, x7⟩ := ((unhide HX1).below hSw (by omega)).cell
              go_simp
              try (with_reducible rfl)
            go_frame
            refine wpAnyH_take (i := 2) (oi := { dst := some 59, op := Op.move (Operand.tmp 6), type := 3, pos := "ref.go:375", after := #[], guard := none }) (v := ?_) rfl (by kernel_rfl) (by kernel_rfl) (by kernel_rfl) (fun _ _ _ h => h) (Or.inl ⟨by rfl, ?_⟩) (by assumption) ?_
            rotate_left
            · intro wq hSw
              go_simp
              try (with_reducible rfl)
            go_frame
            refine wpAnyH_take (i := 3) (oi := { dst := some 60, op := Op.indexAddr 23 (Operand.tmp 58) (Operand.tmp 59), type := 0, pos := "ref.go:375", after := #[{ on := 1, ground := Ground.data }, { on := 2, ground := Ground.data }], guard := none }) (v := ?_) rfl (by kernel_rfl) (by kernel_rfl) (by kernel_rfl) (fun _ _ _ h => h) (Or.inl ⟨by rfl, ?_⟩) (by assumption) ?_
            rotate_left
            · intro wq hSw
              go_simp
              try (with_reducible rfl)
            go_frame
            refine wpAnyH_take (i := 4) (oi := { dst := some 61, op := Op.load 25 (Operand.tmp 60), type := 25, pos := "ref.go:375", after := #[{ on := 3, ground := Ground.data }], guard := none }) (v := ?_) rfl (by kernel_rfl) (by kernel_rfl) (by kernel_rfl) (fun _ _ _ h => h) (Or.inl ⟨by rfl, ?_⟩) (by assumption) ?_
            rotate_left
            · intro wq hSw
              obtain ⟨y0, y1, y2, y3, y4, y5, y6, y7⟩ := (unhide HCa).below hSw hbaw
              go_simp
              try (with_reducible rfl)
            go_frame
            refine wpAnyH_take (i := 5) (oi := { dst := some 62, op := Op.fieldAddr 25 (Operand.tmp 3) 7, type := 0, pos := "ref.go:375", after := #[], guard := none }) (v := ?_) rfl (by kernel_rfl) (by kernel_rfl) (by kernel_rfl) (fun _ _ _ h => h) (Or.inl ⟨by rfl, ?_⟩) (by assumption) ?_
            rotate_left
            · intro wq hSw
              go_simp
              try (with_reducible rfl)
            go_frame
            refine wpAnyH_take (i := 6) (oi := { dst := some 63, op := Op.load 23 (Operand.tmp 62), type := 23, pos := "ref.go:375", after := #[{ on := 5, ground := Ground.data }], guard := none }) (v := ?_) rfl (by kernel_rfl) (by kernel_rfl) (by kernel_rfl) (fun _ _ _ h => h) (Or.inl ⟨by rfl, ?_⟩) (by assumption) ?_
            rotate_left
            · intro wq hSw
              obtain ⟨z0, z1, z2, z3, z4, z5, z6, z7⟩ := ((unhide HX2).below hSw (by omega)).cell
              go_simp
              try (with_reducible rfl)
            go_frame
            refine wpAnyH_take (i := 7) (oi := { dst := some 64, op := Op.move (Operand.tmp 6), type := 3, pos := "ref.go:375", after := #[], guard := none }) (v := ?_) rfl (by kernel_rfl) (by kernel_rfl) (by kernel_rfl) (fun _ _ _ h => h) (Or.inl ⟨by rfl, ?_⟩) (by assumption) ?_
            rotate_left
            · intro wq hSw
              go_simp
              try (with_reducible rfl)
            go_frame
            refine wpAnyH_take (i := 8) (oi := { dst := some 65, op := Op.indexAddr 23 (Operand.tmp 63) (Operand.tmp 64), type := 0, pos := "ref.go:375", after := #[{ on := 6, ground := Ground.data }, { on := 7, ground := Ground.data }], guard := none }) (v := ?_) rfl (by kernel_rfl) (by kernel_rfl) (by kernel_rfl) (fun _ _ _ h => h) (Or.inl ⟨by rfl, ?_⟩) (by assumption) ?_
            rotate_left
            · intro wq hSw
              go_simp
              try (with_reducible rfl)
            go_frame
            refine wpAnyH_take (i := 9) (oi := { dst := some 66, op := Op.load 25 (Operand.tmp 65), type := 25, pos := "ref.go:375", after := #[{ on := 8, ground := Ground.data }], guard := none }) (v := ?_) rfl (by kernel_rfl) (by kernel_rfl) (by kernel_rfl) (fun _ _ _ h => h) (Or.inl ⟨by rfl, ?_⟩) (by assumption) ?_
            rotate_left
            · intro wq hSw
              obtain ⟨y0, y1, y2, y3, y4, y5, y6, y7⟩ := (unhide HCb).below hSw hbbw
              go_simp
              try (with_reducible rfl)
            go_frame
            refine wpAnyH_ready (rs := [10]) (by kernel_rfl) (by simp) ?_
            refine AllReadyH.cons (o := { dst := some 67, op := Op.call { callee := Callee.value (Operand.func 23), args := #[Operand.tmp 61, Operand.tmp 66], argTypes := #[25, 25] }, type := 4, pos := "ref.go:375", after := #[{ on := 4, ground := Ground.data }, { on := 9, ground := Ground.data }], guard := none }) rfl (fun K hK => ?_) AllReadyH.nil
            go_simp
            refine (unhide HIH s.ks[k] t.ks[k] _ va' vb' m S (unhide HCN) ((unhide HKa).below hHeld hSw0) ((unhide HKb).below hHeld hSw0) (fun i hi => by have := hSw0 i hi; have := hHeld.size; omega)).mono ?_
            rintro e w5 ⟨rfl, b5⟩
            rw [unhide HSK]
            have HB5 := hide (below_undrew b5)
            clear b5
            go_wp2_with fail
            refine hK.out _ _ ?_ (fun hHeld => ?_)
            · exact unhide HB5
            clear hK K
            try go_frame
            refine wpAnyH_take (i := 11) (oi := { dst := some 7, op := Op.assign (Operand.tmp 67), type := 4, pos := "ref.go:375", after := #[{ on := 10, ground := Ground.data }, { on := 10, ground := Ground.chain }, { on := 0, ground := Ground.phase }, { on := 1, ground := Ground.phase }, { on := 2, ground := Ground.phase }, { on := 3, ground := Ground.phase }, { on := 4, ground := Ground.phase }, { on := 5, ground := Ground.phase }, { on := 6, ground := Ground.phase }, { on := 7, ground := Ground.phase }, { on := 8, ground := Ground.phase }, { on := 9, ground := Ground.phase }, { on := 10, ground := Ground.phase }], guard := none }) (v := ?_) rfl (by kernel_rfl) (by kernel_rfl) (by kernel_rfl) (fun _ _ _ h => h) (Or.inl ⟨by rfl, ?_⟩) (by assumption) ?_
            rotate_left
            · intro wq hSw
              go_simp
              try (with_reducible rfl)
            go_frame
            refine wpAnyH_done (by kernel_rfl) ?_ _
            go_wp2
            go_roundw
            case rel => exact ⟨k + 1, by omega, by go_num, (unhide HBR).trans (hHeld.mono (by omega)), fun j h h1 h2 => by
              rcases Nat.lt_or_ge j k with hj | hj
              · exact unhide HSM j hj h1 h2
              · obtain rfl : j = k := by omega
                exact unhide HSK⟩
            case measure => simp [intOf]; omega
        · have E := hide (show true = same s t by rw [same_eq, unhide HSF, sames_eq_of (unhide HL) hkl (unhide HSM)]; rfl)
          go_wp2
          go_ret
          exact ⟨ret_bool (unhide E), unhide HBW⟩

end Go.Proofs.YtnclmlhmmljfgaaGreatDoor
