/- Layer 12: RingPlays' walk. -/
import Derived.Test.YtfheeifllpnjaaaTe
import Derived.Test.YtfheeifllpnjaaaLi
namespace Go.Proofs.Ytfheeifllpnjaaa
open Go.RowKit Go.Shelf

/-- an op of a script -/
structure Opr where
  k : Int
  x : Int
def OpAt (w : World) (b o : Nat) (y : Opr) : Prop := w.cell? ⟨b, o, none⟩ = some (.int .i64 y.k) ∧ w.cell? ⟨b, o + 1, none⟩ = some (.int .i64 y.x)

/-- both rings -/
structure Tw (w0 : World) (B : Nat) (F : Nat → Prop) (p b n m : Nat) (xs : List Int) (W : World) : Prop where
  pr : PRI W B F p xs n
  dr : ∃ G, DRI W B G b xs n m ∧ ∀ x, G x → ¬ F x
  fr : Below w0.heap.size w0 W
  lo : w0.heap.size ≤ B

section
variable {w0 W W' : World} {B : Nat} {F : Nat → Prop} {p b n m : Nat} {xs : List Int}

theorem Tw.quiet (h : Tw w0 B F p b n m xs W) (hc : Ch (fun _ => False) W W') : Tw w0 B F p b n m xs W' := by
  obtain ⟨G, h1, h2⟩ := h.dr
  exact ⟨h.pr.ch hc (fun _ _ h => h), ⟨G, h1.ch hc (fun _ _ h => h), h2⟩, h.fr.trans (hc.below h.fr.size (fun _ _ h => h)), h.lo⟩
theorem Tw.below (h : Tw w0 B F p b n m xs W) (hb : Below W.heap.size W W') : Tw w0 B F p b n m xs W' := h.quiet (Ch.of_below hb)
theorem Tw.ring (h : Tw w0 B F p b n m xs W) {ys : List Int} (hp : PRI W' B F p ys n) (hc : Ch F W W') : PRI W' B F p ys n ∧ (∃ G, DRI W' B G b xs n m ∧ ∀ x, G x → ¬ F x) ∧ Below w0.heap.size w0 W' := by
  obtain ⟨G, h1, h2⟩ := h.dr
  exact ⟨hp, ⟨G, h1.ch hc h2, h2⟩, h.fr.trans (hc.below h.fr.size (fun x hx e => by have := (h.pr.foot x e).1; have := h.lo; omega))⟩
theorem Tw.more {k : Nat} (h : Tw w0 B F p b n m xs W) (hk : m ≤ k) : Tw w0 B F p b n k xs W := by
  obtain ⟨G, ⟨v, ys, o, h1, h2, h3⟩, h4⟩ := h.dr
  exact ⟨h.pr, ⟨G, ⟨v, ys, o, h1, h2, by omega⟩, h4⟩, h.fr, h.lo⟩
end

set_option maxRecDepth 100000 in
set_option maxHeartbeats 8000000 in
theorem plays_is (w : World) (z : Int) {v : Value} {l : List Opr} (hl : Lst w.heap.size 2 (OpAt w) v l) : Calls Try.prog 3 #[.int .i64 z, v] w fun e w' => e = .returned (.bool true) ∧ Below w.heap.size w w' := by
  obtain ⟨b0, o0, ⟨A, c, rfl, hcl, hlm, hA⟩, hat⟩ := hl
  have HL := hide (And.intro hA hat)
  clear hA hat
  go_enter Try.func3, Try.ntmps3
  go_wp2_with fail
  refine (awake_is w).mono ?_
  rintro e w1 ⟨rfl, b1⟩
  have HB1 := hide b1
  clear b1
  cases hm : decide (0 ≤ z) && decide (z ≤ 100) with
  | false =>
    have HN := hide (new_noI w1 z hm)
    by_cases h0 : 0 ≤ z
    · have q0 : decide (0 ≤ z) = true := decide_eq_true h0
      have q1 : decide (z ≤ 100) = false := by rw [q0] at hm; simpa using hm
      clear hm h0
      go_wp2_with fail
      refine HN.out.mono ?_
      rintro e w2 ⟨rfl, b2⟩
      have HB2 := hide b2
      clear b2
      go_wp2_with fail
      go_ret
      exact ⟨rfl, HB1.out.trans (HB2.out.mono HB1.out.size)⟩
    · have q0 : decide (0 ≤ z) = false := decide_eq_false h0
      clear hm h0
      go_wp2_with fail
      refine HN.out.mono ?_
      rintro e w2 ⟨rfl, b2⟩
      have HB2 := hide b2
      clear b2
      go_wp2_with fail
      go_ret
      exact ⟨rfl, HB1.out.trans (HB2.out.mono HB1.out.size)⟩
  | true =>
    simp only [Bool.and_eq_true, decide_eq_true_eq] at hm
    obtain ⟨n, rfl⟩ : ∃ n : Nat, z = n := ⟨z.toNat, by omega⟩
    have hn1 : n ≤ 100 := by omega
    have q0 : decide (0 ≤ (n : Int)) = true := decide_eq_true (by omega)
    have q1 : decide ((n : Int) ≤ 100) = true := decide_eq_true (by omega)
    clear hm
    go_wp2_with fail
    refine (pr_new w1 _ n rfl hn1).mono ?_
    rintro e w2 ⟨p, F, rfl, h2, b2⟩
    obtain ⟨w3, hw3⟩ : ∃ w3, w2.alloc (.cells #[.slice none 0 0, .int .i64 0, .int .i64 (n : Int)] 31) = w3 := ⟨_, rfl⟩
    have c3 : Ch (fun _ => False) w2 w3 := by rw [← hw3]; exact Ch.alloc _ _
    have HT := hide (show Tw w w1.heap.size F p w2.heap.size n 0 [] w3 from ⟨h2.ch c3 (fun _ _ h => h), ⟨fun x => x = w2.heap.size, ⟨.slice none 0 0, [], 0, ⟨by rw [← hw3]; exact heap_new _ _, Row.nil _ _, b2.size, Nat.le_refl _, hn1, fun x => by simp [Value.ownBlock]⟩, rfl, Nat.le_refl _⟩, fun x hx hF => by have := (h2.foot x hF).2; omega⟩, HB1.out.trans ((b2.mono HB1.out.size).trans (c3.below (Nat.le_trans HB1.out.size b2.size) (fun _ _ h => h))), HB1.out.size⟩)
    have HW3 := hide hw3
    clear h2 b2 c3 hw3
    go_wp2_with fail
    rw [HW3.out]
    clear HW3
    go_loopw [10] (fun iv wr => ∃ i : Nat, iv = .int .i64 (i : Int) ∧ i ≤ l.length ∧ i ≤ 5000 ∧ Hid (∃ xs, Tw w w1.heap.size F p w2.heap.size n i xs wr)) (fun iv _ => 5000 - (intOf iv).toNat)
    case atStart => exact ⟨0, rfl, Nat.zero_le _, Nat.zero_le _, hide ⟨_, HT.out⟩⟩
    case round =>
      clear HT
      obtain ⟨i, rfl, hi, hi5, HI⟩ := hrel
      obtain ⟨xs, ht⟩ := HI.out
      clear HI
      by_cases hlt : i < l.length
      · have q2 : decide ((i : Int) < (l.length : Int)) = true := decide_eq_true (by omega)
        by_cases h5 : i < 5000
        · have q3 : decide ((i : Int) < 5000) = true := decide_eq_true (by omega)
          obtain ⟨hA, hat⟩ := HL.out
          obtain ⟨rfl, hb0⟩ := hA (by omega)
          obtain ⟨hy0, hy1⟩ := hat i hlt
          generalize l[i] = o at hy0 hy1
          obtain ⟨k, x⟩ := o
          have y0 := (ht.fr.cell (p := ⟨b0, o0 + i * 2, none⟩) hb0).trans hy0
          have y1 := (ht.fr.cell (p := ⟨b0, o0 + i * 2 + 1, none⟩) hb0).trans hy1
          clear hA hat hy0 hy1
          obtain ⟨W, hW⟩ : ∃ W, wr.alloc (.cells #[.int .i64 k, .int .i64 x] 33) = W := ⟨_, rfl⟩
          have cW : Ch (fun _ => False) wr W := by rw [← hW]; exact Ch.alloc _ _
          have bO : W.heap[wr.heap.size]? = some (.cells #[.int .i64 k, .int .i64 x] 33 (0, 0)) := by rw [← hW]; exact heap_new _ _
          have HT := hide (ht.quiet cW)
          have HF := hide (show ¬ F wr.heap.size from fun e => by have := (ht.pr.foot _ e).2; omega)
          have HO := hide bO
          have HW := hide hW
          have eI : IntKind.i64.wrap ((i : Int) + 1) = (i : Int) + 1 := by rw [IntKind.wrap_i64]; omega
          have k0 : W.cell? ⟨wr.heap.size, 0, none⟩ = some (.int .i64 k) := by simp [Lib.cell_of_heap bO]
          have k1 : W.cell? ⟨wr.heap.size, 1, none⟩ = some (.int .i64 x) := by simp [Lib.cell_of_heap bO]
          clear ht cW bO
          by_cases hk1 : k = 1
          · have p1 : (k == 1) = true := by simp [hk1]
            clear hk1
            go_wp2_with (rw [hW])
            clear k0 k1 hW HW
            refine (pr_put HT.out.pr x).mono ?_
            rintro e W3 ⟨rfl, h3, c3⟩
            have H3 := hide (HT.out.ring h3 c3)
            have bO3 := c3.box HO.out HF.out
            have k1 : W3.cell? ⟨wr.heap.size, 1, none⟩ = some (.int .i64 x) := by simp [Lib.cell_of_heap bO3]
            have LO := hide HT.out.lo
            clear h3 c3 bO3
            go_wp2_with fail
            obtain ⟨hp3, ⟨G, hG, hGF⟩, hb3⟩ := H3.out
            refine (dr_put hG (by omega) x).mono ?_
            rintro e W4 ⟨G', rfl, h4, c4, hg4⟩
            have HTX := hide (show Tw w w1.heap.size F p w2.heap.size n (i + 1) (putL xs n x) W4 from ⟨hp3.ch c4 (fun y hy hGy => hGF y hGy hy), ⟨G', h4, fun y hy hF => (hg4 y hy).elim (fun e => hGF y e hF) (fun e => by have := (hp3.foot y hF).2; omega)⟩, hb3.trans (c4.below hb3.size (fun y hy e => by have := (hG.foot y e).1; have := LO.out; omega)), LO.out⟩)
            clear hp3 hG hGF hb3 h4 c4 hg4 k1 H3 HT LO
            by_cases hfl : xs.length < n
            · rw [show putE xs n = 0 from if_pos hfl, decide_eq_true hfl]
              clear hfl
              go_wp2_with fail
              refine (pr_len HTX.out.pr).mono ?_
              rintro e X ⟨rfl, rfl⟩
              go_wp2_with fail
              obtain ⟨G, hG, hGF⟩ := HTX.out.dr
              refine (dr_len hG).mono ?_
              rintro e Y ⟨rfl, cY⟩
              have HTY := hide (HTX.out.quiet cY)
              clear cY hG hGF
              go_wp2_with fail
              refine (pr_cap HTY.out.pr).mono ?_
              rintro e Y ⟨rfl, rfl⟩
              go_wp2_with fail
              go_roundw
              case rel => exact ⟨i + 1, by go_num, by omega, by omega, hide ⟨_, HTY.out⟩⟩
              case measure => simp [intOf]; omega
            · rw [show putE xs n = 121 from if_neg hfl, decide_eq_false hfl]
              clear hfl
              go_wp2_with fail
              refine (pr_len HTX.out.pr).mono ?_
              rintro e X ⟨rfl, rfl⟩
              go_wp2_with fail
              obtain ⟨G, hG, hGF⟩ := HTX.out.dr
              refine (dr_len hG).mono ?_
              rintro e Y ⟨rfl, cY⟩
              have HTY := hide (HTX.out.quiet cY)
              clear cY hG hGF
              go_wp2_with fail
              refine (pr_cap HTY.out.pr).mono ?_
              rintro e Y ⟨rfl, rfl⟩
              go_wp2_with fail
              go_roundw
              case rel => exact ⟨i + 1, by go_num, by omega, by omega, hide ⟨_, HTY.out⟩⟩
              case measure => simp [intOf]; omega
          · have p1 : (k == 1) = false := by simp [hk1]
            clear hk1
            by_cases hk2 : k = 2
            · have p2 : (k == 2) = true := by simp [hk2]
              clear hk2
              go_wp2_with (rw [hW])
              clear k0 k1 hW HW
              obtain ⟨hd, hhd⟩ : ∃ hd, xs.headD 0 = hd := ⟨_, rfl⟩
              have HHD := hide hhd
              have htk := pr_take HT.out.pr
              rw [hhd] at htk
              clear hhd
              refine htk.mono ?_
              clear htk
              rintro e W3 ⟨rfl, h3, c3⟩
              have H3 := hide (HT.out.ring h3 c3)
              have LO := hide HT.out.lo
              clear h3 c3
              go_wp2_with fail
              obtain ⟨hp3, ⟨G, hG, hGF⟩, hb3⟩ := H3.out
              have htk := dr_take hG
              rw [HHD.out] at htk
              refine htk.mono ?_
              clear htk
              rintro e W4 ⟨rfl, h4, c4⟩
              have HTX := hide ((show Tw w w1.heap.size F p w2.heap.size n i xs.tail W4 from ⟨hp3.ch c4 (fun y hy hGy => hGF y hGy hy), ⟨G, h4, hGF⟩, hb3.trans (c4.below hb3.size (fun y hy e => by have := (hG.foot y e).1; have := LO.out; omega)), LO.out⟩).more (Nat.le_succ i))
              clear hp3 hG hGF hb3 h4 c4 H3 HT LO
              cases he : xs.isEmpty
              · rw [show tkE xs = 0 by unfold tkE; rw [he]; rfl]
                clear he
                go_wp2_with fail
                refine (pr_len HTX.out.pr).mono ?_
                rintro e X ⟨rfl, rfl⟩
                go_wp2_with fail
                obtain ⟨G, hG, hGF⟩ := HTX.out.dr
                refine (dr_len hG).mono ?_
                rintro e Y ⟨rfl, cY⟩
                have HTY := hide (HTX.out.quiet cY)
                clear cY hG hGF
                go_wp2_with fail
                refine (pr_cap HTY.out.pr).mono ?_
                rintro e Y ⟨rfl, rfl⟩
                go_wp2_with fail
                go_roundw
                case rel => exact ⟨i + 1, by go_num, by omega, by omega, hide ⟨_, HTY.out⟩⟩
                case measure => simp [intOf]; omega
              · rw [show tkE xs = 122 by unfold tkE; rw [he]; rfl]
                clear he
                go_wp2_with fail
                refine (pr_len HTX.out.pr).mono ?_
                rintro e X ⟨rfl, rfl⟩
                go_wp2_with fail
                obtain ⟨G, hG, hGF⟩ := HTX.out.dr
                refine (dr_len hG).mono ?_
                rintro e Y ⟨rfl, cY⟩
                have HTY := hide (HTX.out.quiet cY)
                clear cY hG hGF
                go_wp2_with fail
                refine (pr_cap HTY.out.pr).mono ?_
                rintro e Y ⟨rfl, rfl⟩
                go_wp2_with fail
                go_roundw
                case rel => exact ⟨i + 1, by go_num, by omega, by omega, hide ⟨_, HTY.out⟩⟩
                case measure => simp [intOf]; omega
            · have p2 : (k == 2) = false := by simp [hk2]
              clear hk2
              by_cases hk3 : k = 3
              · have p3 : (k == 3) = true := by simp [hk3]
                clear hk3
                go_wp2_with (rw [hW])
                clear k0 k1 hW HW
                refine (pr_at HT.out.pr x).mono ?_
                rintro e W3 ⟨rfl, b3⟩
                have H3 := hide (HT.out.below b3)
                have bO3 := (Ch.of_below (Q := fun _ => False) b3).box HO.out (fun h => h)
                have k1 : W3.cell? ⟨wr.heap.size, 1, none⟩ = some (.int .i64 x) := by simp [Lib.cell_of_heap bO3]
                clear b3 bO3
                go_wp2_with fail
                obtain ⟨G, hG, hGF⟩ := H3.out.dr
                refine (dr_at hG x).mono ?_
                rintro e W4 ⟨rfl, c4⟩
                have HTX := hide ((H3.out.quiet c4).more (Nat.le_succ i))
                clear hG hGF c4 k1 H3 HT
                generalize atX xs x = hd
                cases he : atB xs x
                · rw [show atE xs x = 1 by unfold atE; rw [he]; rfl]
                  clear he
                  go_wp2_with fail
                  refine (pr_len HTX.out.pr).mono ?_
                  rintro e X ⟨rfl, rfl⟩
                  go_wp2_with fail
                  obtain ⟨G, hG, hGF⟩ := HTX.out.dr
                  refine (dr_len hG).mono ?_
                  rintro e Y ⟨rfl, cY⟩
                  have HTY := hide (HTX.out.quiet cY)
                  clear cY hG hGF
                  go_wp2_with fail
                  refine (pr_cap HTY.out.pr).mono ?_
                  rintro e Y ⟨rfl, rfl⟩
                  go_wp2_with fail
                  go_roundw
                  case rel => exact ⟨i + 1, by go_num, by omega, by omega, hide ⟨_, HTY.out⟩⟩
                  case measure => simp [intOf]; omega
                · rw [show atE xs x = 0 by unfold atE; rw [he]; rfl]
                  clear he
                  go_wp2_with fail
                  refine (pr_len HTX.out.pr).mono ?_
                  rintro e X ⟨rfl, rfl⟩
                  go_wp2_with fail
                  obtain ⟨G, hG, hGF⟩ := HTX.out.dr
                  refine (dr_len hG).mono ?_
                  rintro e Y ⟨rfl, cY⟩
                  have HTY := hide (HTX.out.quiet cY)
                  clear cY hG hGF
                  go_wp2_with fail
                  refine (pr_cap HTY.out.pr).mono ?_
                  rintro e Y ⟨rfl, rfl⟩
                  go_wp2_with fail
                  go_roundw
                  case rel => exact ⟨i + 1, by go_num, by omega, by omega, hide ⟨_, HTY.out⟩⟩
                  case measure => simp [intOf]; omega
              · have p3 : (k == 3) = false := by simp [hk3]
                clear hk3
                by_cases hk4 : k = 4
                · have p4 : (k == 4) = true := by simp [hk4]
                  clear hk4
                  go_wp2_with (rw [hW])
                  clear k0 k1 hW HW
                  obtain ⟨G, hG, hGF⟩ := HT.out.dr
                  refine (told_is HT.out.pr hG x).mono ?_
                  rintro e W4 ⟨rfl, b4⟩
                  have HTX := hide ((HT.out.below b4).more (Nat.le_succ i))
                  clear hG hGF b4 HT
                  go_wp2_with fail
                  refine (pr_len HTX.out.pr).mono ?_
                  rintro e X ⟨rfl, rfl⟩
                  go_wp2_with fail
                  obtain ⟨G, hG, hGF⟩ := HTX.out.dr
                  refine (dr_len hG).mono ?_
                  rintro e Y ⟨rfl, cY⟩
                  have HTY := hide (HTX.out.quiet cY)
                  clear cY hG hGF
                  go_wp2_with fail
                  refine (pr_cap HTY.out.pr).mono ?_
                  rintro e Y ⟨rfl, rfl⟩
                  go_wp2_with fail
                  go_roundw
                  case rel => exact ⟨i + 1, by go_num, by omega, by omega, hide ⟨_, HTY.out⟩⟩
                  case measure => simp [intOf]; omega
                · have p4 : (k == 4) = false := by simp [hk4]
                  clear hk4
                  have HTX := hide (HT.out.more (Nat.le_succ i))
                  go_wp2_with (rw [hW])
                  clear k0 k1 hW HW HT
                  refine (pr_len HTX.out.pr).mono ?_
                  rintro e X ⟨rfl, rfl⟩
                  go_wp2_with fail
                  obtain ⟨G, hG, hGF⟩ := HTX.out.dr
                  refine (dr_len hG).mono ?_
                  rintro e Y ⟨rfl, cY⟩
                  have HTY := hide (HTX.out.quiet cY)
                  clear cY hG hGF
                  go_wp2_with fail
                  refine (pr_cap HTY.out.pr).mono ?_
                  rintro e Y ⟨rfl, rfl⟩
                  go_wp2_with fail
                  go_roundw
                  case rel => exact ⟨i + 1, by go_num, by omega, by omega, hide ⟨_, HTY.out⟩⟩
                  case measure => simp [intOf]; omega
        · have q3 : decide ((i : Int) < 5000) = false := decide_eq_false (by omega)
          go_wp2_with fail
          obtain ⟨G, hG, hGF⟩ := ht.dr
          refine (told_is ht.pr hG 0).mono ?_
          rintro e W4 ⟨rfl, b4⟩
          have HE := hide (ht.below b4).fr
          clear b4 hG hGF
          go_wp2_with fail
          go_ret
          exact ⟨rfl, HE.out⟩
      · have q2 : decide ((i : Int) < (l.length : Int)) = false := decide_eq_false (by omega)
        go_wp2_with fail
        obtain ⟨G, hG, hGF⟩ := ht.dr
        refine (told_is ht.pr hG 0).mono ?_
        rintro e W4 ⟨rfl, b4⟩
        have HE := hide (ht.below b4).fr
        clear b4 hG hGF
        go_wp2_with fail
        go_ret
        exact ⟨rfl, HE.out⟩

end Go.Proofs.Ytfheeifllpnjaaa
