/- Layer 12: RingOrder's walk. -/
import Derived.Test.YtfheeifllpnjaaaRe
import Derived.Test.YtfheeifllpnjaaaLi
namespace Go.Proofs.Ytfheeifllpnjaaa
open Go.RowKit

def PRS (w : World) (B : Nat) (F : Nat → Prop) (p : Nat) (xs : List ByteArray) (n : Nat) : Prop := ∃ g f pl, RgS w B F p xs n g f pl
section
variable {w w' : World} {B : Nat} {F : Nat → Prop} {p : Nat} {xs : List ByteArray} {n : Nat}

theorem PRS.below (h : PRS w B F p xs n) (hb : Below w.heap.size w w') : PRS w' B F p xs n := by
  obtain ⟨g, f, pl, h⟩ := h
  exact ⟨g, f, pl, h.below hb⟩
theorem PRS.foot (h : PRS w B F p xs n) (x : Nat) (hx : F x) : B ≤ x ∧ x < w.heap.size := by
  obtain ⟨g, f, pl, h⟩ := h
  rcases (h.foot x).1 hx with rfl | rfl
  · exact ⟨h.lo, h.lt_p⟩
  · exact ⟨h.lg, h.lt_g⟩
theorem ps_new (w : World) (m : Int) (n : Nat) (hm : m = n) (h2 : n ≤ 100) : Calls Try.prog 19 #[.int .i64 m] w fun e w' => ∃ p F, e = .returned (.tuple #[.pointer (some ⟨p, 0, none⟩), .int .i64 0]) ∧ PRS w' w.heap.size F p [] n ∧ Below w.heap.size w w' := by
  refine (new_isS w m n hm h2).mono ?_
  rintro e w' ⟨p, g, F, rfl, h, hb⟩
  exact ⟨p, F, rfl, ⟨_, _, _, h⟩, hb⟩
theorem ps_put (h : PRS w B F p xs n) (x : ByteArray) : Calls Try.prog 20 #[.pointer (some ⟨p, 0, none⟩), .string x] w fun e w' => e = .returned (.int .i64 (putE xs n)) ∧ PRS w' B F p (putL xs n x) n ∧ Ch F w w' := by
  obtain ⟨g, f, pl, h⟩ := h
  unfold putE putL
  by_cases hn : xs.length < n
  · rw [if_pos hn, if_pos hn]
    exact (put_okS h x hn).mono fun e w' ⟨e1, e2, e3⟩ => ⟨e1, ⟨_, _, _, e2⟩, e3⟩
  · rw [if_neg hn, if_neg hn]
    have := h.lies.cnt
    exact (put_fullS h x (by omega)).mono fun e w' ⟨e1, e2⟩ => ⟨e1, ⟨_, _, _, h.below e2⟩, Ch.of_below e2⟩
theorem ps_take (h : PRS w B F p xs n) : Calls Try.prog 22 #[.pointer (some ⟨p, 0, none⟩)] w fun e w' => e = .returned (.tuple #[.string (xs.headD ⟨#[]⟩), .int .i64 (tkE xs)]) ∧ PRS w' B F p xs.tail n ∧ Ch F w w' := by
  obtain ⟨g, f, pl, h⟩ := h
  cases xs with
  | nil => exact (take_noS h).mono fun e w' ⟨e1, e2⟩ => ⟨e1, ⟨_, _, _, h.below e2⟩, Ch.of_below e2⟩
  | cons x xs => exact (take_okS h).mono fun e w' ⟨e1, e2, e3⟩ => ⟨e1, ⟨_, _, _, e2⟩, e3⟩
theorem ps_len (h : PRS w B F p xs n) : Calls Try.prog 23 #[.pointer (some ⟨p, 0, none⟩)] w fun e w' => e = .returned (.int .i64 (xs.length : Int)) ∧ w' = w := by
  obtain ⟨g, f, pl, h⟩ := h
  exact len_isS h
theorem PRS.out (h : PRS w B F p xs n) {w0 : World} {N : Nat} (hb : Below N w0 w) (hc : Ch F w w') (hN : N ≤ B) (hB : N ≤ w.heap.size) : Below N w0 w' :=
  hb.trans (hc.below hB (fun b hb hF => by have := (h.foot b hF).1; omega))
end

/-- the texts of the numbers from a up to b -/
def tds (a b : Nat) : List ByteArray := (List.range' a (b - a)).map tx4
theorem tds_len (a b : Nat) : (tds a b).length = b - a := by simp [tds]
theorem tds_put {a b n : Nat} (h : a ≤ b) (hn : b - a < n) : putL (tds a b) n (tx4 b) = tds a (b + 1) ∧ putE (tds a b) n = 0 := by
  unfold putL putE
  rw [tds_len, if_pos hn, if_pos hn]
  refine ⟨?_, rfl⟩
  unfold tds
  rw [show b + 1 - a = (b - a) + 1 by omega, List.range'_1_concat, List.map_append, show a + (b - a) = b by omega]
  rfl
theorem tds_full {a b n : Nat} (x : ByteArray) (hn : ¬ b - a < n) : putL (tds a b) n x = tds a b ∧ putE (tds a b) n = 121 := by
  unfold putL putE
  rw [tds_len, if_neg hn, if_neg hn]
  exact ⟨rfl, rfl⟩
theorem tds_take {a b : Nat} (h : a < b) : tds a b = tx4 a :: tds (a + 1) b := by
  unfold tds
  rw [show b - a = (b - (a + 1)) + 1 by omega, List.range'_succ]
  rfl
theorem tds_nil (a : Nat) : tds a a = [] := by simp [tds]

set_option maxRecDepth 100000 in
set_option maxHeartbeats 8000000 in
theorem order_is (w : World) (z : Int) (hz1 : -9223372036854775808 ≤ z) (hz2 : z ≤ 9223372036854775807) {v : Value} {l : List Int} (hl : Lst w.heap.size 1 (InAt w) v l) : Calls Try.prog 4 #[.int .i64 z, v] w fun e w' => e = .returned (.bool true) ∧ Below w.heap.size w w' := by
  obtain ⟨b0, o0, ⟨A, c, rfl, hcl, hlm, hA⟩, hat⟩ := hl
  obtain ⟨y, hy, hy0⟩ : ∃ y : Nat, (y : Int) = (if z < 0 then -(z + 1) else z) ∧ (y : Int) ≤ 9223372036854775807 := by
    split
    · exact ⟨(-(z + 1)).toNat, by omega, by omega⟩
    · exact ⟨z.toNat, by omega, by omega⟩
  obtain ⟨n, hn⟩ : ∃ n, 1 + y % 100 = n := ⟨_, rfl⟩
  have hn1 : n ≤ 100 := by omega
  have e2 : (y : Int).tmod 100 = ((y % 100 : Nat) : Int) := by rw [Int.tmod_eq_emod_of_nonneg (by omega)]; omega
  have e3 : IntKind.i64.wrap (1 + ((y % 100 : Nat) : Int)) = (n : Int) := by rw [IntKind.wrap_i64]; omega
  have em : 1 + (y : Int) % 100 = (n : Int) := by omega
  have HL := hide (And.intro hA hat)
  clear hA hat
  go_enter Try.func4, Try.ntmps4
  go_wp2_with fail
  refine (awake_is w).mono ?_
  rintro e w1 ⟨rfl, b1⟩
  have HB1 := hide b1
  clear b1
  by_cases hz : z < 0
  · have q0 : decide (z < 0) = true := decide_eq_true hz
    have e0 : IntKind.i64.wrap (z + 1) = z + 1 := by rw [IntKind.wrap_i64]; omega
    have e1 : IntKind.i64.wrap (-(z + 1)) = (y : Int) := by rw [hy, if_pos hz, IntKind.wrap_i64]; omega
    clear hy hz hz1 hz2
    go_wp2_with fail
    refine (ps_new w1 _ n rfl hn1).mono ?_
    rintro e w2 ⟨p, F, rfl, h2, b2⟩
    have HI := hide (And.intro (show PRS w2 w1.heap.size F p (tds 0 0) n from h2) (HB1.out.trans (b2.mono HB1.out.size)))
    have HN := hide HB1.out.size
    clear h2 b2 em e0 e2 e3 e1 hn hy0
    go_wp2_with fail
    go_loopw [9, 10, 11] (fun inv outv iv wr => ∃ i a b : Nat, inv = .int .i64 (b : Int) ∧ outv = .int .i64 (a : Int) ∧ iv = .int .i64 (i : Int) ∧ i ≤ l.length ∧ i ≤ 5000 ∧ a ≤ b ∧ b ≤ i ∧ Hid (PRS wr w1.heap.size F p (tds a b) n ∧ Below w.heap.size w wr)) (fun _ _ iv _ => 5000 - (intOf iv).toNat)
    case atStart => exact ⟨0, 0, 0, rfl, rfl, rfl, Nat.zero_le _, Nat.zero_le _, Nat.le_refl _, Nat.le_refl _, HI⟩
    case round =>
      clear HI
      obtain ⟨i, a, b, rfl, rfl, rfl, hi, hi5, hab, hbi, HI⟩ := hrel
      have hB := HI.out.2.size
      by_cases hlt : i < l.length
      · have q1 : decide ((i : Int) < (l.length : Int)) = true := decide_eq_true (by omega)
        by_cases h5 : i < 5000
        · have q2 : decide ((i : Int) < 5000) = true := decide_eq_true (by omega)
          obtain ⟨hA, hat⟩ := HL.out
          obtain ⟨rfl, hb0⟩ := hA (by omega)
          obtain ⟨hx, hx1, hx2⟩ := hat i hlt
          rw [Nat.mul_one] at hx
          generalize l[i] = x at hx hx1 hx2
          have hx := (HI.out.2.cell (p := ⟨b0, o0 + i, none⟩) hb0).trans hx
          clear hA hat
          have HAB := hide hab
          have eI : IntKind.i64.wrap ((i : Int) + 1) = (i : Int) + 1 := by rw [IntKind.wrap_i64]; omega
          have eB : IntKind.i64.wrap ((b : Int) + 1) = (b : Int) + 1 := by rw [IntKind.wrap_i64]; omega
          have eA : IntKind.i64.wrap ((a : Int) + 1) = (a : Int) + 1 := by rw [IntKind.wrap_i64]; omega
          have eBA : IntKind.i64.wrap ((b : Int) - (a : Int)) = (b : Int) - (a : Int) := by rw [IntKind.wrap_i64]; omega
          have hb5 : b ≤ 10000 := by omega
          have ha5 : a ≤ 10000 := by omega
          have HW := hide (show w.heap.size ≤ wr.heap.size from hB)
          by_cases hp : x.tmod 3 = 0
          · have q3 : (x.tmod 3 == 0) = true := by simp [hp]
            clear hp
            by_cases hlt2 : a < b
            · have q4 : decide ((a : Int) < (b : Int)) = true := decide_eq_true (by omega)
              have H1 := hide (show PRS wr w1.heap.size F p (tx4 a :: tds (a + 1) b) n by rw [← tds_take hlt2]; exact HI.out.1)
              go_wp2_with fail
              refine (ps_take H1.out).mono ?_
              rintro e w3 ⟨rfl, h3, c3⟩
              have HI3 := hide (And.intro (show PRS w3 w1.heap.size F p (tds (a + 1) b) n from h3) (H1.out.out HI.out.2 c3 HN.out HW.out))
              rw [show (tx4 a :: tds (a + 1) b).headD ⟨#[]⟩ = tx4 a from rfl, show tkE (tx4 a :: tds (a + 1) b) = 0 from rfl]
              clear h3 c3 H1 HI hx
              go_wp2_with (go_at_call 21; refine (text_is _ a ha5).mono ?_; rintro e w3 ⟨rfl, rfl⟩)
              go_roundw
              case rel => exact ⟨i + 1, a + 1, b, rfl, by go_num, by go_num, by omega, by omega, by omega, by omega, HI3⟩
              case measure => simp [intOf]; omega
            · have q4 : decide ((a : Int) < (b : Int)) = false := decide_eq_false (by omega)
              obtain rfl : a = b := by omega
              have H1 := hide (show PRS wr w1.heap.size F p [] n by rw [← tds_nil a]; exact HI.out.1)
              go_wp2_with fail
              refine (ps_take H1.out).mono ?_
              rintro e w3 ⟨rfl, h3, c3⟩
              have HI3 := hide (And.intro (show PRS w3 w1.heap.size F p (tds a a) n by rw [tds_nil]; exact h3) (H1.out.out HI.out.2 c3 HN.out HW.out))
              rw [show tkE ([] : List ByteArray) = 122 from rfl]
              clear h3 c3 H1 HI hx
              go_wp2_with fail
              go_roundw
              case rel => exact ⟨i + 1, a, a, rfl, rfl, by go_num, by omega, by omega, by omega, by omega, HI3⟩
              case measure => simp [intOf]; omega
          · have q3 : (x.tmod 3 == 0) = false := by simp [hp]
            clear hp
            go_wp2_with fail
            refine (text_is _ b hb5).mono ?_
            rintro e wr ⟨rfl, rfl⟩
            go_wp2_with fail
            refine (ps_put HI.out.1 (tx4 b)).mono ?_
            rintro e w3 ⟨rfl, h3, c3⟩
            have HC := hide (HI.out.1.out HI.out.2 c3 HN.out HW.out)
            have H3 := hide h3
            clear h3 c3 hx
            by_cases hfull : b - a < n
            · have q4 : decide ((b : Int) - (a : Int) < (n : Int)) = true := decide_eq_true (by omega)
              obtain ⟨t1, t2⟩ := tds_put HAB.out hfull
              have HI3 := hide (And.intro (show PRS w3 w1.heap.size F p (tds a (b + 1)) n by rw [← t1]; exact H3.out) HC.out)
              rw [t2]
              clear t1 t2 H3 HC
              go_wp2_with fail
              go_roundw
              case rel => exact ⟨i + 1, a, b + 1, by go_num, rfl, by go_num, by omega, by omega, by omega, by omega, HI3⟩
              case measure => simp [intOf]; omega
            · have q4 : decide ((b : Int) - (a : Int) < (n : Int)) = false := decide_eq_false (by omega)
              obtain ⟨t1, t2⟩ := tds_full (tx4 b) hfull
              have HI3 := hide (And.intro (show PRS w3 w1.heap.size F p (tds a b) n by rw [← t1]; exact H3.out) HC.out)
              rw [t2]
              clear t1 t2 H3 HC
              go_wp2_with fail
              go_roundw
              case rel => exact ⟨i + 1, a, b, rfl, rfl, by go_num, by omega, by omega, by omega, by omega, HI3⟩
              case measure => simp [intOf]; omega
        · have q2 : decide ((i : Int) < 5000) = false := decide_eq_false (by omega)
          have hb5 : b ≤ 10000 := by omega
          have HBI := hide (And.intro hi (And.intro hi5 hbi))
          clear hi hi5 hbi
          go_wp2_with fail
          go_loopw [10] (fun outv wr => ∃ a : Nat, outv = .int .i64 (a : Int) ∧ a ≤ b ∧ Hid (PRS wr w1.heap.size F p (tds a b) n ∧ Below w.heap.size w wr)) (fun outv _ => b - (intOf outv).toNat)
          case atStart => exact ⟨a, rfl, hab, HI⟩
          case round =>
            clear HI hab hB
            obtain ⟨a, rfl, hab, HI⟩ := hrel
            have HW := hide (show w.heap.size ≤ wr.heap.size from HI.out.2.size)
            by_cases hlt2 : a < b
            · have q4 : decide ((a : Int) < (b : Int)) = true := decide_eq_true (by omega)
              have eA : IntKind.i64.wrap ((a : Int) + 1) = (a : Int) + 1 := by rw [IntKind.wrap_i64]; omega
              have ha5 : a ≤ 10000 := by omega
              have H1 := hide (show PRS wr w1.heap.size F p (tx4 a :: tds (a + 1) b) n by rw [← tds_take hlt2]; exact HI.out.1)
              go_wp2_with fail
              refine (ps_take H1.out).mono ?_
              rintro e w3 ⟨rfl, h3, c3⟩
              have HI3 := hide (And.intro (show PRS w3 w1.heap.size F p (tds (a + 1) b) n from h3) (H1.out.out HI.out.2 c3 HN.out HW.out))
              rw [show (tx4 a :: tds (a + 1) b).headD ⟨#[]⟩ = tx4 a from rfl, show tkE (tx4 a :: tds (a + 1) b) = 0 from rfl]
              clear h3 c3 H1 HI
              go_wp2_with (go_at_call 21; refine (text_is _ a ha5).mono ?_; rintro e w3 ⟨rfl, rfl⟩)
              go_roundw
              case rel => exact ⟨a + 1, by go_num, by omega, HI3⟩
              case measure => simp [intOf]; omega
            · have q4 : decide ((a : Int) < (b : Int)) = false := decide_eq_false (by omega)
              obtain rfl : a = b := by omega
              have H1 := hide (show PRS wr w1.heap.size F p [] n by rw [← tds_nil a]; exact HI.out.1)
              go_wp2_with fail
              refine (ps_len H1.out).mono ?_
              rintro e wr ⟨rfl, rfl⟩
              rw [show (([] : List ByteArray).length : Int) = 0 from rfl]
              go_wp2_with fail
              go_ret
              exact ⟨rfl, HI.out.2⟩
      · have q1 : decide ((i : Int) < (l.length : Int)) = false := decide_eq_false (by omega)
        have hb5 : b ≤ 10000 := by omega
        have HBI := hide (And.intro hi (And.intro hi5 hbi))
        clear hi hi5 hbi
        go_wp2_with fail
        go_loopw [10] (fun outv wr => ∃ a : Nat, outv = .int .i64 (a : Int) ∧ a ≤ b ∧ Hid (PRS wr w1.heap.size F p (tds a b) n ∧ Below w.heap.size w wr)) (fun outv _ => b - (intOf outv).toNat)
        case atStart => exact ⟨a, rfl, hab, HI⟩
        case round =>
          clear HI hab hB
          obtain ⟨a, rfl, hab, HI⟩ := hrel
          have HW := hide (show w.heap.size ≤ wr.heap.size from HI.out.2.size)
          by_cases hlt2 : a < b
          · have q4 : decide ((a : Int) < (b : Int)) = true := decide_eq_true (by omega)
            have eA : IntKind.i64.wrap ((a : Int) + 1) = (a : Int) + 1 := by rw [IntKind.wrap_i64]; omega
            have ha5 : a ≤ 10000 := by omega
            have H1 := hide (show PRS wr w1.heap.size F p (tx4 a :: tds (a + 1) b) n by rw [← tds_take hlt2]; exact HI.out.1)
            go_wp2_with fail
            refine (ps_take H1.out).mono ?_
            rintro e w3 ⟨rfl, h3, c3⟩
            have HI3 := hide (And.intro (show PRS w3 w1.heap.size F p (tds (a + 1) b) n from h3) (H1.out.out HI.out.2 c3 HN.out HW.out))
            rw [show (tx4 a :: tds (a + 1) b).headD ⟨#[]⟩ = tx4 a from rfl, show tkE (tx4 a :: tds (a + 1) b) = 0 from rfl]
            clear h3 c3 H1 HI
            go_wp2_with (go_at_call 21; refine (text_is _ a ha5).mono ?_; rintro e w3 ⟨rfl, rfl⟩)
            go_roundw
            case rel => exact ⟨a + 1, by go_num, by omega, HI3⟩
            case measure => simp [intOf]; omega
          · have q4 : decide ((a : Int) < (b : Int)) = false := decide_eq_false (by omega)
            obtain rfl : a = b := by omega
            have H1 := hide (show PRS wr w1.heap.size F p [] n by rw [← tds_nil a]; exact HI.out.1)
            go_wp2_with fail
            refine (ps_len H1.out).mono ?_
            rintro e wr ⟨rfl, rfl⟩
            rw [show (([] : List ByteArray).length : Int) = 0 from rfl]
            go_wp2_with fail
            go_ret
            exact ⟨rfl, HI.out.2⟩
  · have q0 : decide (z < 0) = false := decide_eq_false hz
    have e1 : z = (y : Int) := by rw [hy, if_neg hz]
    clear hy hz hz1 hz2
    subst e1
    go_wp2_with fail
    refine (ps_new w1 _ n rfl hn1).mono ?_
    rintro e w2 ⟨p, F, rfl, h2, b2⟩
    have HI := hide (And.intro (show PRS w2 w1.heap.size F p (tds 0 0) n from h2) (HB1.out.trans (b2.mono HB1.out.size)))
    have HN := hide HB1.out.size
    clear h2 b2 em e2 e3 hn hy0
    go_wp2_with fail
    go_loopw [9, 10, 11] (fun inv outv iv wr => ∃ i a b : Nat, inv = .int .i64 (b : Int) ∧ outv = .int .i64 (a : Int) ∧ iv = .int .i64 (i : Int) ∧ i ≤ l.length ∧ i ≤ 5000 ∧ a ≤ b ∧ b ≤ i ∧ Hid (PRS wr w1.heap.size F p (tds a b) n ∧ Below w.heap.size w wr)) (fun _ _ iv _ => 5000 - (intOf iv).toNat)
    case atStart => exact ⟨0, 0, 0, rfl, rfl, rfl, Nat.zero_le _, Nat.zero_le _, Nat.le_refl _, Nat.le_refl _, HI⟩
    case round =>
      clear HI
      obtain ⟨i, a, b, rfl, rfl, rfl, hi, hi5, hab, hbi, HI⟩ := hrel
      have hB := HI.out.2.size
      by_cases hlt : i < l.length
      · have q1 : decide ((i : Int) < (l.length : Int)) = true := decide_eq_true (by omega)
        by_cases h5 : i < 5000
        · have q2 : decide ((i : Int) < 5000) = true := decide_eq_true (by omega)
          obtain ⟨hA, hat⟩ := HL.out
          obtain ⟨rfl, hb0⟩ := hA (by omega)
          obtain ⟨hx, hx1, hx2⟩ := hat i hlt
          rw [Nat.mul_one] at hx
          generalize l[i] = x at hx hx1 hx2
          have hx := (HI.out.2.cell (p := ⟨b0, o0 + i, none⟩) hb0).trans hx
          clear hA hat
          have HAB := hide hab
          have eI : IntKind.i64.wrap ((i : Int) + 1) = (i : Int) + 1 := by rw [IntKind.wrap_i64]; omega
          have eB : IntKind.i64.wrap ((b : Int) + 1) = (b : Int) + 1 := by rw [IntKind.wrap_i64]; omega
          have eA : IntKind.i64.wrap ((a : Int) + 1) = (a : Int) + 1 := by rw [IntKind.wrap_i64]; omega
          have eBA : IntKind.i64.wrap ((b : Int) - (a : Int)) = (b : Int) - (a : Int) := by rw [IntKind.wrap_i64]; omega
          have hb5 : b ≤ 10000 := by omega
          have ha5 : a ≤ 10000 := by omega
          have HW := hide (show w.heap.size ≤ wr.heap.size from hB)
          by_cases hp : x.tmod 3 = 0
          · have q3 : (x.tmod 3 == 0) = true := by simp [hp]
            clear hp
            by_cases hlt2 : a < b
            · have q4 : decide ((a : Int) < (b : Int)) = true := decide_eq_true (by omega)
              have H1 := hide (show PRS wr w1.heap.size F p (tx4 a :: tds (a + 1) b) n by rw [← tds_take hlt2]; exact HI.out.1)
              go_wp2_with fail
              refine (ps_take H1.out).mono ?_
              rintro e w3 ⟨rfl, h3, c3⟩
              have HI3 := hide (And.intro (show PRS w3 w1.heap.size F p (tds (a + 1) b) n from h3) (H1.out.out HI.out.2 c3 HN.out HW.out))
              rw [show (tx4 a :: tds (a + 1) b).headD ⟨#[]⟩ = tx4 a from rfl, show tkE (tx4 a :: tds (a + 1) b) = 0 from rfl]
              clear h3 c3 H1 HI hx
              go_wp2_with (go_at_call 21; refine (text_is _ a ha5).mono ?_; rintro e w3 ⟨rfl, rfl⟩)
              go_roundw
              case rel => exact ⟨i + 1, a + 1, b, rfl, by go_num, by go_num, by omega, by omega, by omega, by omega, HI3⟩
              case measure => simp [intOf]; omega
            · have q4 : decide ((a : Int) < (b : Int)) = false := decide_eq_false (by omega)
              obtain rfl : a = b := by omega
              have H1 := hide (show PRS wr w1.heap.size F p [] n by rw [← tds_nil a]; exact HI.out.1)
              go_wp2_with fail
              refine (ps_take H1.out).mono ?_
              rintro e w3 ⟨rfl, h3, c3⟩
              have HI3 := hide (And.intro (show PRS w3 w1.heap.size F p (tds a a) n by rw [tds_nil]; exact h3) (H1.out.out HI.out.2 c3 HN.out HW.out))
              rw [show tkE ([] : List ByteArray) = 122 from rfl]
              clear h3 c3 H1 HI hx
              go_wp2_with fail
              go_roundw
              case rel => exact ⟨i + 1, a, a, rfl, rfl, by go_num, by omega, by omega, by omega, by omega, HI3⟩
              case measure => simp [intOf]; omega
          · have q3 : (x.tmod 3 == 0) = false := by simp [hp]
            clear hp
            go_wp2_with fail
            refine (text_is _ b hb5).mono ?_
            rintro e wr ⟨rfl, rfl⟩
            go_wp2_with fail
            refine (ps_put HI.out.1 (tx4 b)).mono ?_
            rintro e w3 ⟨rfl, h3, c3⟩
            have HC := hide (HI.out.1.out HI.out.2 c3 HN.out HW.out)
            have H3 := hide h3
            clear h3 c3 hx
            by_cases hfull : b - a < n
            · have q4 : decide ((b : Int) - (a : Int) < (n : Int)) = true := decide_eq_true (by omega)
              obtain ⟨t1, t2⟩ := tds_put HAB.out hfull
              have HI3 := hide (And.intro (show PRS w3 w1.heap.size F p (tds a (b + 1)) n by rw [← t1]; exact H3.out) HC.out)
              rw [t2]
              clear t1 t2 H3 HC
              go_wp2_with fail
              go_roundw
              case rel => exact ⟨i + 1, a, b + 1, by go_num, rfl, by go_num, by omega, by omega, by omega, by omega, HI3⟩
              case measure => simp [intOf]; omega
            · have q4 : decide ((b : Int) - (a : Int) < (n : Int)) = false := decide_eq_false (by omega)
              obtain ⟨t1, t2⟩ := tds_full (tx4 b) hfull
              have HI3 := hide (And.intro (show PRS w3 w1.heap.size F p (tds a b) n by rw [← t1]; exact H3.out) HC.out)
              rw [t2]
              clear t1 t2 H3 HC
              go_wp2_with fail
              go_roundw
              case rel => exact ⟨i + 1, a, b, rfl, rfl, by go_num, by omega, by omega, by omega, by omega, HI3⟩
              case measure => simp [intOf]; omega
        · have q2 : decide ((i : Int) < 5000) = false := decide_eq_false (by omega)
          have hb5 : b ≤ 10000 := by omega
          have HBI := hide (And.intro hi (And.intro hi5 hbi))
          clear hi hi5 hbi
          go_wp2_with fail
          go_loopw [10] (fun outv wr => ∃ a : Nat, outv = .int .i64 (a : Int) ∧ a ≤ b ∧ Hid (PRS wr w1.heap.size F p (tds a b) n ∧ Below w.heap.size w wr)) (fun outv _ => b - (intOf outv).toNat)
          case atStart => exact ⟨a, rfl, hab, HI⟩
          case round =>
            clear HI hab hB
            obtain ⟨a, rfl, hab, HI⟩ := hrel
            have HW := hide (show w.heap.size ≤ wr.heap.size from HI.out.2.size)
            by_cases hlt2 : a < b
            · have q4 : decide ((a : Int) < (b : Int)) = true := decide_eq_true (by omega)
              have eA : IntKind.i64.wrap ((a : Int) + 1) = (a : Int) + 1 := by rw [IntKind.wrap_i64]; omega
              have ha5 : a ≤ 10000 := by omega
              have H1 := hide (show PRS wr w1.heap.size F p (tx4 a :: tds (a + 1) b) n by rw [← tds_take hlt2]; exact HI.out.1)
              go_wp2_with fail
              refine (ps_take H1.out).mono ?_
              rintro e w3 ⟨rfl, h3, c3⟩
              have HI3 := hide (And.intro (show PRS w3 w1.heap.size F p (tds (a + 1) b) n from h3) (H1.out.out HI.out.2 c3 HN.out HW.out))
              rw [show (tx4 a :: tds (a + 1) b).headD ⟨#[]⟩ = tx4 a from rfl, show tkE (tx4 a :: tds (a + 1) b) = 0 from rfl]
              clear h3 c3 H1 HI
              go_wp2_with (go_at_call 21; refine (text_is _ a ha5).mono ?_; rintro e w3 ⟨rfl, rfl⟩)
              go_roundw
              case rel => exact ⟨a + 1, by go_num, by omega, HI3⟩
              case measure => simp [intOf]; omega
            · have q4 : decide ((a : Int) < (b : Int)) = false := decide_eq_false (by omega)
              obtain rfl : a = b := by omega
              have H1 := hide (show PRS wr w1.heap.size F p [] n by rw [← tds_nil a]; exact HI.out.1)
              go_wp2_with fail
              refine (ps_len H1.out).mono ?_
              rintro e wr ⟨rfl, rfl⟩
              rw [show (([] : List ByteArray).length : Int) = 0 from rfl]
              go_wp2_with fail
              go_ret
              exact ⟨rfl, HI.out.2⟩
      · have q1 : decide ((i : Int) < (l.length : Int)) = false := decide_eq_false (by omega)
        have hb5 : b ≤ 10000 := by omega
        have HBI := hide (And.intro hi (And.intro hi5 hbi))
        clear hi hi5 hbi
        go_wp2_with fail
        go_loopw [10] (fun outv wr => ∃ a : Nat, outv = .int .i64 (a : Int) ∧ a ≤ b ∧ Hid (PRS wr w1.heap.size F p (tds a b) n ∧ Below w.heap.size w wr)) (fun outv _ => b - (intOf outv).toNat)
        case atStart => exact ⟨a, rfl, hab, HI⟩
        case round =>
          clear HI hab hB
          obtain ⟨a, rfl, hab, HI⟩ := hrel
          have HW := hide (show w.heap.size ≤ wr.heap.size from HI.out.2.size)
          by_cases hlt2 : a < b
          · have q4 : decide ((a : Int) < (b : Int)) = true := decide_eq_true (by omega)
            have eA : IntKind.i64.wrap ((a : Int) + 1) = (a : Int) + 1 := by rw [IntKind.wrap_i64]; omega
            have ha5 : a ≤ 10000 := by omega
            have H1 := hide (show PRS wr w1.heap.size F p (tx4 a :: tds (a + 1) b) n by rw [← tds_take hlt2]; exact HI.out.1)
            go_wp2_with fail
            refine (ps_take H1.out).mono ?_
            rintro e w3 ⟨rfl, h3, c3⟩
            have HI3 := hide (And.intro (show PRS w3 w1.heap.size F p (tds (a + 1) b) n from h3) (H1.out.out HI.out.2 c3 HN.out HW.out))
            rw [show (tx4 a :: tds (a + 1) b).headD ⟨#[]⟩ = tx4 a from rfl, show tkE (tx4 a :: tds (a + 1) b) = 0 from rfl]
            clear h3 c3 H1 HI
            go_wp2_with (go_at_call 21; refine (text_is _ a ha5).mono ?_; rintro e w3 ⟨rfl, rfl⟩)
            go_roundw
            case rel => exact ⟨a + 1, by go_num, by omega, HI3⟩
            case measure => simp [intOf]; omega
          · have q4 : decide ((a : Int) < (b : Int)) = false := decide_eq_false (by omega)
            obtain rfl : a = b := by omega
            have H1 := hide (show PRS wr w1.heap.size F p [] n by rw [← tds_nil a]; exact HI.out.1)
            go_wp2_with fail
            refine (ps_len H1.out).mono ?_
            rintro e wr ⟨rfl, rfl⟩
            rw [show (([] : List ByteArray).length : Int) = 0 from rfl]
            go_wp2_with fail
            go_ret
            exact ⟨rfl, HI.out.2⟩

end Go.Proofs.Ytfheeifllpnjaaa
