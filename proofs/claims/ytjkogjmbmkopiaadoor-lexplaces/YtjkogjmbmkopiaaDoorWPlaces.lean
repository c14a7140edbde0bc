/- The law of places: its walk. -/
import Derived.Test.YtjkogjmbmkopiaaDoorQp
import Derived.Test.YtjkogjmbmkopiaaDoorWParts
namespace Go.Proofs.YtjkogjmbmkopiaaDoor
open Go.RowKit

set_option maxRecDepth 100000 in
set_option maxHeartbeats 16000000 in
theorem places_walk (s : ByteArray) (w : World) (hs : s.size ≤ 140737488355327) (hV : Vars w) :
    Calls Tryd.prog 6 #[.string s] w fun e w' => e = .returned (.bool true) ∧ Below w.heap.size w w' := by
  go_enter Tryd.func6, Tryd.ntmps6
  go_wp2_with fail
  refine (lexscan_any s w (by omega) hV).mono ?_
  intro e w1 h1
  rcases lex_cases h1 with ⟨toks, g, cap, hsc, rfl, hg, hrow, b1⟩ | ⟨pa, x, b, hsc, rfl, hb, hblk, b1⟩
  · obtain ⟨hl0, hbd, hp0, hp1⟩ := scan_bounds hsc
    rw [← size_len] at hl0
    have PL := hide (scan_places hsc)
    obtain ⟨y, ml, hfin⟩ := (scan_places hsc).fin
    have HFN := hide (show ∀ (h : toks.length - 1 < toks.length), (toks[toks.length - 1].at_ : Int) = (s.size : Int) by
      intro h
      rw [size_len]
      simp only [hfin, Nat.zero_add]
      rw [List.getElem_append_right (by simp)]
      simp [endAt])
    have HR := hide hrow
    have HBD := hide hbd
    have HB1 := hide b1
    clear h1 hsc hg hrow b1 hbd hfin hV
    go_wp2_with fail
    refine (number_nil _).mono ?_
    rintro e w2 ⟨rfl, rfl⟩
    have q1 : decide ((s.size : Int) < 0) = false := decide_eq_false (by omega)
    go_wp2
    go_loopw [8, 9, 10] (fun fr li i wr => ∃ a ln j : Nat, a ≤ s.size ∧ ln ≤ 20001 ∧ j ≤ toks.length ∧ fr = .int .i64 (a : Int) ∧ li = .int .i64 (ln : Int) ∧ i = .int .i64 (j : Int) ∧ Below w2.heap.size w2 wr ∧ (j = toks.length ∨ Pl (s.data.toList.drop a) a ln (toks.drop j))) (fun _ _ i _ => toks.length - (intOf i).toNat)
    case atStart => exact ⟨0, 1, 0, by omega, by omega, by omega, rfl, rfl, rfl, Below.refl _ _, Or.inr (by rw [List.drop_zero, List.drop_zero]; exact unhide PL)⟩
    case round =>
      obtain ⟨a, ln, j, ha, hln, hj, rfl, rfl, rfl, hbr, hpl⟩ := hrel
      have hszr := hbr.size
      by_cases hlt : j < toks.length
      · have hpl := hpl.resolve_left (by omega)
        obtain ⟨n, G, A1, A2, A3, A4, A5, A6, A7⟩ := place_step hlt hpl (by rw [← size_len]; exact ha)
        obtain ⟨z0, z1, z2, z3, z4⟩ := ((unhide HR).below hbr (unhide HR).lt (Nat.le_refl _)).cell j hlt
        obtain ⟨u1, u2⟩ := unhide HBD _ (List.getElem_mem hlt)
        rw [← size_len] at A2 A4
        clear hpl
        generalize toks[j] = t at *
        have HLN := hide A3
        have hnn : ln + n ≤ 20001 := by omega
        have qline : ((t.line : Int) != (ln : Int) + (n : Int)) = false := by rw [A3]; simp
        have HBs := hide hbr
        have hnb := (Below.refl wr.heap.size wr).alloc (Nat.le_refl _) (.cells #[.int .i64 t.k, .string ⟨t.t.toArray⟩, .int .i64 t.n, .int .i64 (t.at_ : Int), .int .i64 (t.line : Int)] 42)
        have HBn := hide ((unhide HBs).trans (hnb.mono hszr))
        have HTH := hide (MapKept.heap_alloc wr (.cells #[.int .i64 t.k, .string ⟨t.t.toArray⟩, .int .i64 t.n, .int .i64 (t.at_ : Int), .int .i64 (t.line : Int)] 42)).1
        have NX := hide (show j + 1 = toks.length ∨ Pl (s.data.toList.drop (t.at_ + szOf (s.data.toList.drop t.at_) t)) (t.at_ + szOf (s.data.toList.drop t.at_) t) t.line (toks.drop (j + 1)) by
          rcases A7 with ⟨_, h⟩ | ⟨_, _, h⟩
          · exact Or.inl h
          · exact Or.inr h)
        have HKX := hide A7
        have hgap : (s.extract a t.at_).data.toList = (s.data.toList.drop a).take (t.at_ - a) := by
          have := ext_cut_list s a (t.at_ - a)
          rwa [show a + (t.at_ - a) = t.at_ by omega] at this
        have hgz : (s.extract a t.at_).size ≤ 20000 := by rw [ByteArray.size_extract]; omega
        rw [← hgap] at G
        have HG := hide G
        have HA6 := hide A6
        have TX := A5
        clear hbr hnb A3 A5 A6 hgap G
        have qat : decide ((t.at_ : Int) < (a : Int)) = false := decide_eq_false (by omega)
        have qat2 : decide ((s.size : Int) < (t.at_ : Int)) = false := decide_eq_false (by omega)
        rcases A7 with ⟨h, h'⟩ | ⟨h, h', _⟩
        · have qk0 : (t.k == 0) = true := by rw [h]; rfl
          have qk1 : ((j : Int) == (toks.length : Int) - 1) = true := by simp; omega
          have hk1 : ¬ t.k = 1 := by omega
          have hk2 : ¬ t.k = 2 := by omega
          have hk5 : ¬ t.k = 5 := by omega
          clear h h'
          obtain ⟨wx, rfl⟩ : ∃ x, x = wr := ⟨_, rfl⟩
          go_wp2_with fail
          refine (between_any _ n _ hgz (unhide HG)).mono ?_
          rintro e w3 ⟨rfl, rfl⟩
          go_wp2_with fail
          refine (long_any s t _ hl0 A2 (unhide HA6)).mono ?_
          rintro e w4 ⟨rfl, b4⟩
          have HTB := (b4.block wx.heap.size (by rw [World.size_alloc]; omega)).trans (unhide HTH)
          have t0 : w4.cell? ⟨wx.heap.size, 0, none⟩ = some (.int .i64 t.k) := by simp [World.cell?, HTB]
          have t1 : w4.cell? ⟨wx.heap.size, 1, none⟩ = some (.string ⟨t.t.toArray⟩) := by simp [World.cell?, HTB]
          have t2 : w4.cell? ⟨wx.heap.size, 2, none⟩ = some (.int .i64 t.n) := by simp [World.cell?, HTB]
          have t3 : w4.cell? ⟨wx.heap.size, 3, none⟩ = some (.int .i64 (t.at_ : Int)) := by simp [World.cell?, HTB]
          have t4 : w4.cell? ⟨wx.heap.size, 4, none⟩ = some (.int .i64 (t.line : Int)) := by simp [World.cell?, HTB]
          have HB3 := hide ((unhide HBn).trans (b4.mono (unhide HBn).size))
          have qsz : decide (((szOf (s.data.toList.drop t.at_) t : Nat) : Int) < 0) = false := decide_eq_false (by omega)
          have qsz2 : decide ((s.size : Int) - (t.at_ : Int) < ((szOf (s.data.toList.drop t.at_) t : Nat) : Int)) = false := decide_eq_false (by omega)
          clear b4 HTB HG HTH HBs HBn
          have q1 : (t.k == 1) = false := beq_false_of_ne hk1
          have q2 : (t.k == 2) = false := beq_false_of_ne hk2
          have q5 : (t.k == 5) = false := beq_false_of_ne hk5
          clear TX
          clear HKX
          generalize szOf (s.data.toList.drop t.at_) t = sz at *
          go_wp2
          go_quiet (fail)
          go_wp2
          go_roundw
          case rel => exact ⟨t.at_ + sz, t.line, j + 1, by omega, by omega, by omega, by go_num, by rw [unhide HLN]; go_num, by go_num, below_dn (unhide HB3) nq, unhide NX⟩
          case measure => simp [intOf]; omega
        · have qk0 : (t.k == 0) = false := beq_false_of_ne h
          have qk1 : ((j : Int) == (toks.length : Int) - 1) = false := by simp; omega
          clear h
          obtain ⟨wx, rfl⟩ : ∃ x, x = wr := ⟨_, rfl⟩
          go_wp2_with fail
          refine (between_any _ n _ hgz (unhide HG)).mono ?_
          rintro e w3 ⟨rfl, rfl⟩
          go_wp2_with fail
          refine (long_any s t _ hl0 A2 (unhide HA6)).mono ?_
          rintro e w4 ⟨rfl, b4⟩
          have HTB := (b4.block wx.heap.size (by rw [World.size_alloc]; omega)).trans (unhide HTH)
          have t0 : w4.cell? ⟨wx.heap.size, 0, none⟩ = some (.int .i64 t.k) := by simp [World.cell?, HTB]
          have t1 : w4.cell? ⟨wx.heap.size, 1, none⟩ = some (.string ⟨t.t.toArray⟩) := by simp [World.cell?, HTB]
          have t2 : w4.cell? ⟨wx.heap.size, 2, none⟩ = some (.int .i64 t.n) := by simp [World.cell?, HTB]
          have t3 : w4.cell? ⟨wx.heap.size, 3, none⟩ = some (.int .i64 (t.at_ : Int)) := by simp [World.cell?, HTB]
          have t4 : w4.cell? ⟨wx.heap.size, 4, none⟩ = some (.int .i64 (t.line : Int)) := by simp [World.cell?, HTB]
          have HB3 := hide ((unhide HBn).trans (b4.mono (unhide HBn).size))
          have qsz : decide (((szOf (s.data.toList.drop t.at_) t : Nat) : Int) < 0) = false := decide_eq_false (by omega)
          have qsz2 : decide ((s.size : Int) - (t.at_ : Int) < ((szOf (s.data.toList.drop t.at_) t : Nat) : Int)) = false := decide_eq_false (by omega)
          clear b4 HTB HG HTH HBs HBn
          by_cases hk1 : t.k = 1
          · have q1 : (t.k == 1) = true := by rw [hk1]; rfl
            have hx := TX (by omega)
            have qx : ((s.extract t.at_ (t.at_ + szOf (s.data.toList.drop t.at_) t)).toList == t.t) = true := by
              rw [eqb, decide_eq_true_eq, ext_cut_list, hx]
            clear hx TX
            clear HKX
            generalize szOf (s.data.toList.drop t.at_) t = sz at *
            go_wp2
            go_quiet (fail)
            go_wp2
            go_roundw
            case rel => exact ⟨t.at_ + sz, t.line, j + 1, by omega, by omega, by omega, by go_num, by rw [unhide HLN]; go_num, by go_num, below_dn (unhide HB3) nq, unhide NX⟩
            case measure => simp [intOf]; omega
          by_cases hk2 : t.k = 2
          · have q2 : (t.k == 2) = true := by rw [hk2]; rfl
            have q1 : (t.k == 1) = false := beq_false_of_ne hk1
            have hx := TX (by omega)
            have qx : ((s.extract t.at_ (t.at_ + szOf (s.data.toList.drop t.at_) t)).toList == t.t) = true := by
              rw [eqb, decide_eq_true_eq, ext_cut_list, hx]
            clear hx TX
            clear HKX
            generalize szOf (s.data.toList.drop t.at_) t = sz at *
            go_wp2
            go_quiet (fail)
            go_wp2
            go_roundw
            case rel => exact ⟨t.at_ + sz, t.line, j + 1, by omega, by omega, by omega, by go_num, by rw [unhide HLN]; go_num, by go_num, below_dn (unhide HB3) nq, unhide NX⟩
            case measure => simp [intOf]; omega
          by_cases hk5 : t.k = 5
          · have q5 : (t.k == 5) = true := by rw [hk5]; rfl
            have q1 : (t.k == 1) = false := beq_false_of_ne hk1
            have q2 : (t.k == 2) = false := beq_false_of_ne hk2
            have hx := TX (by omega)
            have qx : ((s.extract t.at_ (t.at_ + szOf (s.data.toList.drop t.at_) t)).toList == t.t) = true := by
              rw [eqb, decide_eq_true_eq, ext_cut_list, hx]
            clear hx TX
            clear HKX
            generalize szOf (s.data.toList.drop t.at_) t = sz at *
            go_wp2
            go_quiet (fail)
            go_wp2
            go_roundw
            case rel => exact ⟨t.at_ + sz, t.line, j + 1, by omega, by omega, by omega, by go_num, by rw [unhide HLN]; go_num, by go_num, below_dn (unhide HB3) nq, unhide NX⟩
            case measure => simp [intOf]; omega
          · have q1 : (t.k == 1) = false := beq_false_of_ne hk1
            have q2 : (t.k == 2) = false := beq_false_of_ne hk2
            have q5 : (t.k == 5) = false := beq_false_of_ne hk5
            clear TX
            clear HKX
            generalize szOf (s.data.toList.drop t.at_) t = sz at *
            go_wp2
            go_quiet (fail)
            go_wp2
            go_roundw
            case rel => exact ⟨t.at_ + sz, t.line, j + 1, by omega, by omega, by omega, by go_num, by rw [unhide HLN]; go_num, by go_num, below_dn (unhide HB3) nq, unhide NX⟩
            case measure => simp [intOf]; omega
      · have e : j = toks.length := by omega
        subst e
        obtain ⟨z0, z1, z2, z3, z4⟩ := ((unhide HR).below hbr (unhide HR).lt (Nat.le_refl _)).cell (toks.length - 1) (by omega)
        rw [unhide HFN (by omega)] at z3
        have HBf := hide ((unhide HB1).trans (hbr.mono (unhide HB1).size))
        have qp : decide (0 < (toks.length : Int)) = true := decide_eq_true (by omega)
        have qs : ((s.size : Int) == (s.size : Int)) = true := by simp
        clear hpl hbr z0 z1 z2 z4 HR HFN HBD PL
        obtain ⟨L, hL⟩ : ∃ L, toks.length = L + 1 := ⟨toks.length - 1, by omega⟩
        rw [hL, Nat.add_sub_cancel] at z3
        rw [hL] at hp1 qp
        rw [hL]
        clear hL hj hlt hp0
        go_wp2
        go_ret
        exact ⟨rfl, unhide HBf⟩
  · obtain ⟨hf1, hf2⟩ := scan_fault hsc
    rw [← size_len] at hf1
    have HF := hide hblk
    have HB1 := hide b1
    have qx : (x != 0) = true := bne_iff_ne.2 hf2
    have q1 : decide ((s.size : Int) < (pa : Int)) = false := decide_eq_false (by omega)
    clear h1 hsc hb hblk b1 hf2 hV
    go_wp2_with fail
    refine (number_fault (unhide HF)).mono ?_
    rintro e w2 ⟨rfl, m, rfl⟩
    have HB2 := hide (below_dn (unhide HB1) m)
    generalize w1.drewN m = w2 at *
    go_wp2
    go_ret
    exact ⟨rfl, unhide HB2⟩

end Go.Proofs.YtjkogjmbmkopiaaDoor
