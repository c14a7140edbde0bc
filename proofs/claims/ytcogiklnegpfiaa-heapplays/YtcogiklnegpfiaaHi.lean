/- Layer 10: the program's table of kinds: what lives, as it was taken. -/
import Derived.Test.YtcogiklnegpfiaaHh
namespace Go.Proofs.Ytcogiklnegpfiaa
open Go.RowKit Go.Shelf

abbrev lvI0 : Oper := { dst := some 30, op := Op.move (Operand.tmp 3), type := 97, pos := "slots.go:172", after := #[], guard := none }
abbrev lvI1 : Oper := { dst := some 31, op := Op.move (Operand.tmp 4), type := 3, pos := "slots.go:172", after := #[], guard := none }
abbrev lvI2 : Oper := { dst := some 32, op := Op.move (Operand.tmp 5), type := 87, pos := "slots.go:172", after := #[], guard := none }
abbrev lvI3 : Oper := { dst := some 33, op := Op.nilCheck (Operand.tmp 32), type := 0, pos := "slots.go:172", after := #[{ on := 2, ground := Ground.data }], guard := none }
abbrev lvI4 : Oper := { dst := some 34, op := Op.fieldAddr 89 (Operand.tmp 33) 0, type := 0, pos := "slots.go:172", after := #[{ on := 3, ground := Ground.data }], guard := none }
abbrev lvI5 : Oper := { dst := some 35, op := Op.load 41 (Operand.tmp 34), type := 41, pos := "slots.go:172", after := #[{ on := 4, ground := Ground.data }], guard := none }
abbrev lvI6 : Oper := { dst := some 36, op := Op.call { callee := Callee.value (Operand.func 47), args := #[Operand.tmp 31, Operand.tmp 35], argTypes := #[3, 41] }, type := 43, pos := "slots.go:172", after := #[{ on := 1, ground := Ground.data }, { on := 5, ground := Ground.data }], guard := none }
abbrev lvI7 : Oper := { dst := some 37, op := Op.move (Operand.tmp 5), type := 87, pos := "slots.go:172", after := #[], guard := none }
abbrev lvI8 : Oper := { dst := some 38, op := Op.nilCheck (Operand.tmp 37), type := 0, pos := "slots.go:172", after := #[{ on := 7, ground := Ground.data }], guard := none }
abbrev lvI9 : Oper := { dst := some 39, op := Op.fieldAddr 89 (Operand.tmp 38) 1, type := 0, pos := "slots.go:172", after := #[{ on := 8, ground := Ground.data }], guard := none }
abbrev lvI10 : Oper := { dst := some 40, op := Op.load 3 (Operand.tmp 39), type := 3, pos := "slots.go:172", after := #[{ on := 9, ground := Ground.data }], guard := none }
abbrev lvI11 : Oper := { dst := some 41, op := Op.move (Operand.tmp 5), type := 87, pos := "slots.go:172", after := #[], guard := none }
abbrev lvI12 : Oper := { dst := some 42, op := Op.nilCheck (Operand.tmp 41), type := 0, pos := "slots.go:172", after := #[{ on := 11, ground := Ground.data }], guard := none }
abbrev lvI13 : Oper := { dst := some 43, op := Op.fieldAddr 89 (Operand.tmp 42) 2, type := 0, pos := "slots.go:172", after := #[{ on := 12, ground := Ground.data }], guard := none }
abbrev lvI14 : Oper := { dst := some 44, op := Op.load 39 (Operand.tmp 43), type := 39, pos := "slots.go:172", after := #[{ on := 13, ground := Ground.data }], guard := none }
abbrev lvI15 : Oper := { dst := some 45, op := Op.build 100 #[(0, Operand.tmp 36), (1, Operand.tmp 40), (2, Operand.tmp 44)], type := 100, pos := "slots.go:172", after := #[{ on := 6, ground := Ground.data }, { on := 10, ground := Ground.data }, { on := 14, ground := Ground.data }], guard := none }
abbrev lvI16 : Oper := { dst := some 46, op := Op.buildSlice 97 1 #[(0, Operand.tmp 45)], type := 97, pos := "slots.go:172", after := #[{ on := 15, ground := Ground.data }], guard := none }
abbrev lvI17 : Oper := { dst := some 47, op := Op.call { callee := Callee.builtin Builtin.append, args := #[Operand.tmp 30, Operand.tmp 46], argTypes := #[97, 97] }, type := 97, pos := "slots.go:172", after := #[{ on := 0, ground := Ground.data }, { on := 16, ground := Ground.data }, { on := 6, ground := Ground.chain }], guard := none }
abbrev lvI18 : Oper := { dst := some 3, op := Op.assign (Operand.tmp 47), type := 97, pos := "slots.go:172", after := #[{ on := 17, ground := Ground.data }, { on := 17, ground := Ground.chain }, { on := 0, ground := Ground.phase }, { on := 1, ground := Ground.phase }, { on := 2, ground := Ground.phase }, { on := 3, ground := Ground.phase }, { on := 4, ground := Ground.phase }, { on := 5, ground := Ground.phase }, { on := 6, ground := Ground.phase }, { on := 7, ground := Ground.phase }, { on := 8, ground := Ground.phase }, { on := 9, ground := Ground.phase }, { on := 10, ground := Ground.phase }, { on := 11, ground := Ground.phase }, { on := 12, ground := Ground.phase }, { on := 13, ground := Ground.phase }, { on := 14, ground := Ground.phase }, { on := 15, ground := Ground.phase }, { on := 16, ground := Ground.phase }, { on := 17, ground := Ground.phase }], guard := none }

variable {w : World} {B : Nat} {F : Nat → Prop} {p : Nat} {l : List (ThG Int)} {M g : Nat}

theorem info_enI : (Try.prog.info? 100).map (fun i => (i.zero, i.size, i.bytes)) = some (some (.agg #[.int .u32 0, .int .u32 0, .int .i64 0, .int .i64 0]), 4, 24) := by kernel_rfl

set_option maxRecDepth 100000 in
set_option maxHeartbeats 4000000 in
theorem living_isI (h : TbI w B F p l M g) : Calls Try.prog 54 #[.pointer (some ⟨p, 0, none⟩)] w fun e w' => ∃ b c, e = .returned (.slice (some ⟨b, 0, none⟩) (toldF l 0).length c) ∧ LsI w' b (toldF l 0) ∧ (toldF l 0).length ≤ 500 ∧ w.heap.size ≤ b ∧ Below w.heap.size w w' := by
  have hm := h.m2
  have hcl := h.wf.cnt_le
  obtain ⟨i0, hi0, hz0, hz1, hz2⟩ := nf_open info_enI
  obtain ⟨w1, hmk, hrow, hg1⟩ := run_makeSlice_owned w w.heap.size 97 100 i0 _ 4 Try.underlying97 hi0 hz0 hz1 .i64 .i64 (cnt l) (by omega) (by rw [hz2]; omega) (by unfold maxLen; omega) (Nat.le_refl _)
  have hb1 : Below w.heap.size w w1 := ⟨hg1.os, hg1.tape, hg1.output, hg1.size, fun b hb => hg1.block b hb (by simp)⟩
  obtain ⟨-, c1, -⟩ := h.cells
  have h1 := h.below hb1
  obtain ⟨b0, -, -⟩ := h1.cells
  obtain ⟨-, hlt, -⟩ := own_in hrow (g := w.heap.size) rfl
  have HR0 := hide (show Row enFI 4 100 w1 w.heap.size (.slice (some ⟨w.heap.size, 0, none⟩) (ents (0 : Int) l 0).length (cnt l)) (ents (0 : Int) l 0) from hrow)
  have HB0 := hide hb1
  have H := hide h
  clear hrow hg1 hb1 h1
  go_enter Try.func54, Try.ntmps54
  go_wp2
  clear hmk c1 b0
  go_loopw [3, 18] (fun tv iv wr => ∃ k b c : Nat, k ≤ M ∧ iv = .int .i64 (k : Int) ∧ tv = .slice (some ⟨b, 0, none⟩) (ents (0 : Int) l k).length c ∧ Hid (Row enFI 4 100 wr w.heap.size tv (ents (0 : Int) l k)) ∧ w.heap.size ≤ b ∧ Hid (Below w.heap.size w wr)) (fun _ iv _ => M - (intOf iv).toNat)
  case atStart => exact ⟨0, w.heap.size, cnt l, Nat.zero_le _, rfl, rfl, HR0, Nat.le_refl _, HB0⟩
  case round =>
    clear HR0 HB0
    obtain ⟨k, b, c, hk, rfl, rfl, ROW, hNb, BL⟩ := hrel
    obtain ⟨W, rfl⟩ : ∃ W, W = wr := ⟨_, rfl⟩
    have h1 := H.out.below BL.out
    obtain ⟨b0, -, -⟩ := h1.cells
    have hWs := BL.out.size
    by_cases hlt : k < M
    · have q1 : decide ((k : Int) < (M : Int)) = true := decide_eq_true (by omega)
      have c1 := (h1.slot hlt).2.1
      have hz := sloR_zero l ((k : Int) + 1)
      have hle := ents_le (0 : Int) l k
      cases hu : usd l ((k : Int) + 1)
      · rw [hu] at hz
        have hz : decide (sloR l ((k : Int) + 1) = 0) = true := decide_eq_true (by rw [hz])
        have HE := hide (show ents (0 : Int) l (k + 1) = ents (0 : Int) l k by rw [ents_succ, hu]; rfl)
        go_wp2_with (go_at_call 59; refine (empty_isI c1).mono ?_; rintro e W ⟨rfl, rfl⟩; rw [hz])
        go_roundw
        case rel => exact ⟨k + 1, b, c, by omega, by go_num, by rw [HE.out], by rw [HE.out]; exact ROW, hNb, BL⟩
        case measure => simp [intOf]; omega
      · have hz : decide (sloR l ((k : Int) + 1) = 0) = false := by rw [decide_eq_false_iff_not, hz, hu]; simp
        have HE := hide (show ents (0 : Int) l (k + 1) = ents (0 : Int) l k ++ [ent (0 : Int) l k] by rw [ents_succ, hu]; rfl)
        go_wp2_with (go_at_call 59; refine (empty_isI c1).mono ?_; rintro e W ⟨rfl, rfl⟩; rw [hz])
        have hpg : p ≠ b ∧ g ≠ b := by have e1 := H.out.lt_p; have e2 := H.out.own.2.1; exact ⟨by omega, by omega⟩
        have HS := hide (fun wq (hq : Ch (fun y => y = b) W wq) => (h1.ch hq (fun x hx e => by rcases (h1.foot x).1 hx with e' | e' <;> omega)).slot hlt)
        have HR := hide (fun wq (hq : Ch (fun _ => False) W wq) => ROW.out.ch hq (fun _ _ h => h))
        obtain ⟨N, hN⟩ : ∃ N, N = w.heap.size := ⟨_, rfl⟩
        rw [← hN] at HR hNb hWs
        clear b0 c1 h1
        refine wp_region_held_drew (S := Ch (fun y => y = b) W) (by kernel_rfl) (Ch.drew _) (fun zk => ?_)
        apply tk 0 lvI0 rfl (by kernel_rfl) (fun _ _ _ h => h) zk
        · intro wq zq
          go_simp
          try rfl
        go_frame
        apply tk 1 lvI1 rfl (by kernel_rfl) (fun _ _ _ h => h) zk
        · intro wq zq
          go_simp
          try rfl
        go_frame
        apply tk 2 lvI2 rfl (by kernel_rfl) (fun _ _ _ h => h) zk
        · intro wq zq
          go_simp
          try rfl
        go_frame
        apply tk 3 lvI3 rfl (by kernel_rfl) (fun _ _ _ h => h) zk
        · intro wq zq
          go_simp
          try rfl
        go_frame
        apply tk 4 lvI4 rfl (by kernel_rfl) (fun _ _ _ h => h) zk
        · intro wq zq
          go_simp
          try rfl
        go_frame
        apply tk 5 lvI5 rfl (by kernel_rfl) (fun _ _ _ h => h) zk
        · intro wq zq
          have s0 := (HS.out _ zq).1
          go_simp
          try rfl
        go_frame
        apply tk 7 lvI7 rfl (by kernel_rfl) (fun _ _ _ h => h) zk
        · intro wq zq
          go_simp
          try rfl
        go_frame
        apply tk 8 lvI8 rfl (by kernel_rfl) (fun _ _ _ h => h) zk
        · intro wq zq
          go_simp
          try rfl
        go_frame
        apply tk 9 lvI9 rfl (by kernel_rfl) (fun _ _ _ h => h) zk
        · intro wq zq
          go_simp
          try rfl
        go_frame
        apply tk 10 lvI10 rfl (by kernel_rfl) (fun _ _ _ h => h) zk
        · intro wq zq
          have s0 := (HS.out _ zq).2.1
          go_simp
          try rfl
        go_frame
        apply tk 11 lvI11 rfl (by kernel_rfl) (fun _ _ _ h => h) zk
        · intro wq zq
          go_simp
          try rfl
        go_frame
        apply tk 12 lvI12 rfl (by kernel_rfl) (fun _ _ _ h => h) zk
        · intro wq zq
          go_simp
          try rfl
        go_frame
        apply tk 13 lvI13 rfl (by kernel_rfl) (fun _ _ _ h => h) zk
        · intro wq zq
          go_simp
          try rfl
        go_frame
        apply tk 14 lvI14 rfl (by kernel_rfl) (fun _ _ _ h => h) zk
        · intro wq zq
          have s0 := (HS.out _ zq).2.2
          go_simp
          try rfl
        go_frame
        refine rd 6 lvI6 rfl (by kernel_rfl) fun K hK => ?_
        go_simp
        refine (mkhandle_is _ k (by omega) _).mono ?_
        rintro e w5 ⟨rfl, hb5⟩
        have Y5 := hide ((Ch.drew (Q := fun _ => False) W).trans (Ch.of_below (Q := fun _ => False) hb5) (fun _ _ h => h))
        have Z5 := hide (zk.trans (Ch.of_below (Q := fun y => y = b) hb5) (fun _ _ h => h))
        clear hb5
        go_wp2_with fail
        refine hK.out _ _ ?_ (fun zk => ?_)
        · exact Z5.out
        clear hK K
        try go_frame
        apply tk 15 lvI15 rfl (by kernel_rfl) (fun _ _ _ h => h) zk
        · intro wq zq
          go_simp
          try rfl
        go_frame
        refine rd 16 lvI16 rfl (by kernel_rfl) fun K hK => ?_
        go_simp
        refine hK.out _ _ ?_ (fun zk => ?_)
        · exact zk.trans (Ch.alloc (Q := fun y => y = b) _ _) (fun _ _ h => h)
        clear hK K
        try go_frame
        have ROW5 := hide (HR.out _ Y5.out)
        have HN5 := hide (row_new w5 (enFI (ent (0 : Int) l k)) 100 rfl)
        have SZ5 := hide Z5.out.size
        refine rd 17 lvI17 rfl (by kernel_rfl) fun K hK => ?_
        refine step_append_at rfl (.tmp 30) (.tmp 46) 97 rfl N 100 i0 (.agg #[.int .u32 0, .int .u32 0, .int .i64 0, .int .i64 0]) 4 24 Try.underlying97 hi0 hz0 hz1 hz2 rfl (by decide) (.slice (some ⟨b, 0, none⟩) (ents (0 : Int) l k).length c) (ents (0 : Int) l k).length ((ents (0 : Int) l k).flatMap enFI) rfl (World.ownsRow.alloc ROW5.out (.cells (enFI (ent (0 : Int) l k)).toArray 100)) ⟨w5.heap.size, 0, none⟩ 1 1 (enFI (ent (0 : Int) l k)) rfl rfl HN5.out (enFI_one _) (by unfold maxLen; omega) (by omega) (by show N ≤ (w5.alloc _).heap.size; rw [World.size_alloc]; have := SZ5.out; omega) ?_
        intro tv2 W6 hr6 hg6 ho6
        have R6 := hide (Row.snoc (f := enFI) (x := ent (0 : Int) l k) hr6)
        obtain ⟨b6, c6, -, e6, -, hB6, hb6, -, -, -⟩ := R6.out.at enFI_len (by simp)
        have Z6 := hide ((zk.trans (Ch.of_grown (Q := fun y => y = b) hg6 (fun y e => by injection e with e; exact e.symm)) (fun _ _ h => h)))
        have E6 := hide e6
        have B6 := hide hB6
        clear hr6 hg6 ho6 e6 hB6
        refine hK.out _ _ ?_ (fun zk => ?_)
        · exact Z6.out
        clear hK K
        try go_frame
        rw [E6.out]
        refine rd 18 lvI18 rfl (by kernel_rfl) fun K hK => ?_
        go_simp
        refine hK.out _ _ ?_ (fun zk => ?_)
        · exact Z6.out
        clear hK K
        try go_frame
        refine wpAnyH_done (by kernel_rfl) ?_ _
        go_wp2
        go_roundw
        case rel => exact ⟨k + 1, b6, c6, by omega, by go_num, by rw [HE.out, List.length_append]; rfl, by rw [HE.out, ← hN]; have e := R6.out; rw [E6.out] at e; rw [List.length_append] at e; exact hide e, by rw [← hN]; exact B6.out, hide (BL.out.trans (Z6.out.below (N := w.heap.size) (by omega) (fun x hx e => by omega)))⟩
        case measure => simp [intOf]; omega
    · have q1 : decide ((k : Int) < (M : Int)) = false := decide_eq_false (by omega)
      obtain rfl : k = M := by omega
      have hle := ents_le (0 : Int) l k
      go_wp2_with fail
      refine (sort_isI ROW.out (by omega)).mono ?_
      rintro e w5 ⟨rfl, d, hp, hs, hls, hc⟩
      have HT := hide (sorted_told (0 : Int) H.out.wf H.out.lt hp hs)
      rw [HT.out] at hp hls
      have HP := hide hp
      have HL := hide hls
      have HC := hide hc
      clear hp hls hc hs
      go_wp2
      go_ret
      exact ⟨b, c, by rw [HP.out.length_eq]; rfl, HL.out, by rw [HP.out.length_eq]; omega, hNb, BL.out.trans (HC.out.below (N := w.heap.size) BL.out.size (fun x hx e => by omega))⟩

end Go.Proofs.Ytcogiklnegpfiaa
