/- Layer 13: lists of handles; does a handle stand in a list; the document's Count. (Over a trial copy; nothing of it is handed in.) -/
import Derived.Test.YtcogiklnegpfiaaRt
namespace Go.Proofs.Ytcogiklnegpfiaa
open Go.RowKit

abbrev hvH (s g : Int) : Value := .agg #[.int .u32 s, .int .u32 g]

/-- a list of handles, in some block -/
def HL (W : World) (v : Value) (hs : List (Int × Int)) : Prop := ∃ a c, v = .slice a hs.length c ∧ hs.length ≤ 9223372036854775806 ∧ (0 < hs.length → ∃ b o, a = some ⟨b, o, none⟩ ∧ b < W.heap.size ∧ ∀ i (h : i < hs.length), W.cell? ⟨b, o + i * 2, none⟩ = some (.int .u32 hs[i].1) ∧ W.cell? ⟨b, o + i * 2 + 1, none⟩ = some (.int .u32 hs[i].2))
theorem HL.quiet {W W' : World} {v : Value} {hs : List (Int × Int)} (h : HL W v hs) (hb : Below W.heap.size W W') : HL W' v hs := by
  obtain ⟨a, c, e, hl, h⟩ := h
  refine ⟨a, c, e, hl, fun h0 => ?_⟩
  obtain ⟨b, o, e, hlt, hc⟩ := h h0
  exact ⟨b, o, e, Nat.lt_of_lt_of_le hlt hb.size, fun i hi => ⟨(hb.cell (p := ⟨b, _, none⟩) hlt).trans (hc i hi).1, (hb.cell (p := ⟨b, _, none⟩) hlt).trans (hc i hi).2⟩⟩

/-- does it stand there? -/
def amH (hs : List (Int × Int)) (s g : Int) : Bool := hs.any fun h => decide (h.1 = s) && decide (h.2 = g)

set_option maxRecDepth 100000 in
set_option maxHeartbeats 4000000 in
theorem among_is {w : World} {v : Value} {hs : List (Int × Int)} (h : HL w v hs) (s g : Int) :
    Calls Try.prog 58 #[v, hvH s g] w fun e w' => e = .returned (.bool (amH hs s g)) ∧ Below w.heap.size w w' := by
  obtain ⟨w1, hw1⟩ : ∃ w1, w.alloc (.cells #[.int .u32 s, .int .u32 g] 43) = w1 := ⟨_, rfl⟩
  have hB1 : Below w.heap.size w w1 := by rw [← hw1]; exact below1 _ _
  have hn : w1.heap[w.heap.size]? = some (.cells #[.int .u32 s, .int .u32 g] 43 (0, 0)) := by rw [← hw1]; exact heap_new _ _
  have x0 : w1.cell? ⟨w.heap.size, 0, none⟩ = some (.int .u32 s) := by simp [Lib.cell_of_heap hn]
  have x1 : w1.cell? ⟨w.heap.size, 1, none⟩ = some (.int .u32 g) := by simp [Lib.cell_of_heap hn]
  obtain ⟨a, c, rfl, hl, hh⟩ := h.quiet hB1
  have HH := hide hh
  have HB := hide hB1
  clear hB1 h hn hh
  go_enter Try.func58, Try.ntmps58
  go_wp2
  clear hw1
  go_loopw [5] (fun iv wr => ∃ k m : Nat, k ≤ hs.length ∧ iv = .int .i64 (k : Int) ∧ Hid (amH hs s g = amH (hs.drop k) s g) ∧ wr = w1.drewN m) (fun iv _ => hs.length - (intOf iv).toNat)
  case atStart => exact ⟨0, 0, Nat.zero_le _, rfl, hide rfl, rfl⟩
  case round =>
    obtain ⟨k, m, hk, rfl, HE, rfl⟩ := hrel
    by_cases hlt : k < hs.length
    · obtain ⟨b, o, rfl, -, hc⟩ := HH.out (by omega)
      obtain ⟨y0, y1⟩ := hc k hlt
      have q1 : decide ((k : Int) < (hs.length : Int)) = true := decide_eq_true (by omega)
      have HN := hide (show amH (hs.drop k) s g = ((decide (hs[k].1 = s) && decide (hs[k].2 = g)) || amH (hs.drop (k + 1)) s g) by rw [List.drop_eq_getElem_cons hlt]; rfl)
      generalize hs[k] = z at y0 y1 HN
      clear hc
      by_cases es : z.1 = s
      · have qs : (z.1 == s) = true := by simpa using es
        by_cases eg : z.2 = g
        · have qg : (z.2 == g) = true := by simpa using eg
          have HT := hide (show amH hs s g = true by rw [HE.out, HN.out]; simp [es, eg])
          clear es eg
          go_wp2
          go_quiet (fail)
          go_wp2
          go_ret
          exact ⟨ret_bool HT.out.symm, HB.out.trans ((below_dr _ _ m).trans (below_dr _ _ nq))⟩
        · have qg : (z.2 == g) = false := by simpa using eg
          have HT := hide (show amH hs s g = amH (hs.drop (k + 1)) s g by rw [HE.out, HN.out]; simp [eg])
          clear es eg
          go_wp2
          go_quiet (fail)
          go_wp2
          go_roundw
          case rel => exact ⟨k + 1, _, by omega, by go_num, HT, rfl⟩
          case measure => simp [intOf]; omega
      · have qs : (z.1 == s) = false := by simpa using es
        have HT := hide (show amH hs s g = amH (hs.drop (k + 1)) s g by rw [HE.out, HN.out]; simp [es])
        clear es
        go_wp2
        go_quiet (fail)
        go_wp2
        go_roundw
        case rel => exact ⟨k + 1, _, by omega, by go_num, HT, rfl⟩
        case measure => simp [intOf]; omega
    · have q1 : decide ((k : Int) < (hs.length : Int)) = false := decide_eq_false (by omega)
      have HT := hide (show amH hs s g = false by rw [HE.out, List.drop_of_length_le (by omega)]; rfl)
      go_wp2
      go_ret
      exact ⟨ret_bool HT.out.symm, HB.out.trans (below_dr _ _ _)⟩

set_option maxRecDepth 100000 in
set_option maxHeartbeats 4000000 in
theorem lin_is {w : World} {v : Value} {hs : List (Int × Int)} (h : HL w v hs) (s g : Int) :
    Calls Try.prog 32 #[v, hvH s g] w fun e w' => e = .returned (.bool (amH hs s g)) ∧ Below w.heap.size w w' := by
  obtain ⟨w1, hw1⟩ : ∃ w1, w.alloc (.cells #[.int .u32 s, .int .u32 g] 43) = w1 := ⟨_, rfl⟩
  have hB1 : Below w.heap.size w w1 := by rw [← hw1]; exact below1 _ _
  have hn : w1.heap[w.heap.size]? = some (.cells #[.int .u32 s, .int .u32 g] 43 (0, 0)) := by rw [← hw1]; exact heap_new _ _
  have x0 : w1.cell? ⟨w.heap.size, 0, none⟩ = some (.int .u32 s) := by simp [Lib.cell_of_heap hn]
  have x1 : w1.cell? ⟨w.heap.size, 1, none⟩ = some (.int .u32 g) := by simp [Lib.cell_of_heap hn]
  obtain ⟨a, c, rfl, hl, hh⟩ := h.quiet hB1
  have HH := hide hh
  have HB := hide hB1
  clear hB1 h hn hh
  go_enter Try.func32, Try.ntmps32
  go_wp2
  clear hw1
  go_loopw [5] (fun iv wr => ∃ k m : Nat, k ≤ hs.length ∧ iv = .int .i64 (k : Int) ∧ Hid (amH hs s g = amH (hs.drop k) s g) ∧ wr = w1.drewN m) (fun iv _ => hs.length - (intOf iv).toNat)
  case atStart => exact ⟨0, 0, Nat.zero_le _, rfl, hide rfl, rfl⟩
  case round =>
    obtain ⟨k, m, hk, rfl, HE, rfl⟩ := hrel
    by_cases hlt : k < hs.length
    · obtain ⟨b, o, rfl, -, hc⟩ := HH.out (by omega)
      obtain ⟨y0, y1⟩ := hc k hlt
      have q1 : decide ((k : Int) < (hs.length : Int)) = true := decide_eq_true (by omega)
      have HN := hide (show amH (hs.drop k) s g = ((decide (hs[k].1 = s) && decide (hs[k].2 = g)) || amH (hs.drop (k + 1)) s g) by rw [List.drop_eq_getElem_cons hlt]; rfl)
      generalize hs[k] = z at y0 y1 HN
      clear hc
      by_cases es : z.1 = s
      · have qs : (z.1 == s) = true := by simpa using es
        by_cases eg : z.2 = g
        · have qg : (z.2 == g) = true := by simpa using eg
          have HT := hide (show amH hs s g = true by rw [HE.out, HN.out]; simp [es, eg])
          clear es eg
          go_wp2
          go_quiet (fail)
          go_wp2
          go_ret
          exact ⟨ret_bool HT.out.symm, HB.out.trans ((below_dr _ _ m).trans (below_dr _ _ nq))⟩
        · have qg : (z.2 == g) = false := by simpa using eg
          have HT := hide (show amH hs s g = amH (hs.drop (k + 1)) s g by rw [HE.out, HN.out]; simp [eg])
          clear es eg
          go_wp2
          go_quiet (fail)
          go_wp2
          go_roundw
          case rel => exact ⟨k + 1, _, by omega, by go_num, HT, rfl⟩
          case measure => simp [intOf]; omega
      · have qs : (z.1 == s) = false := by simpa using es
        have HT := hide (show amH hs s g = amH (hs.drop (k + 1)) s g by rw [HE.out, HN.out]; simp [es])
        clear es
        go_wp2
        go_quiet (fail)
        go_wp2
        go_roundw
        case rel => exact ⟨k + 1, _, by omega, by go_num, HT, rfl⟩
        case measure => simp [intOf]; omega
    · have q1 : decide ((k : Int) < (hs.length : Int)) = false := decide_eq_false (by omega)
      have HT := hide (show amH hs s g = false by rw [HE.out, List.drop_of_length_le (by omega)]; rfl)
      go_wp2
      go_ret
      exact ⟨ret_bool HT.out.symm, HB.out.trans (below_dr _ _ _)⟩

set_option maxRecDepth 100000 in
set_option maxHeartbeats 4000000 in
theorem same_is {w : World} {v v' : Value} {hs hs' : List (Int × Int)} (h : HL w v hs) (h' : HL w v' hs') :
    Calls Try.prog 29 #[v, v'] w fun e w' => e = .returned (.bool (decide (hs = hs'))) ∧ Below w.heap.size w w' := by
  obtain ⟨a, c, rfl, hl, hh⟩ := h
  obtain ⟨a', c', rfl, hl', hh'⟩ := h'
  have HH := hide hh
  have HH' := hide hh'
  clear hh hh'
  by_cases hn : hs.length = hs'.length
  · have qn : ((hs.length : Int) == (hs'.length : Int)) = true := by simp [hn]
    have HN := hide hn
    clear hn
    go_enter Try.func29, Try.ntmps29
    go_wp2
    go_loopw [5] (fun iv wr => ∃ k m : Nat, k ≤ hs.length ∧ iv = .int .i64 (k : Int) ∧ Hid (hs.take k = hs'.take k) ∧ wr = w.drewN m) (fun iv _ => hs.length - (intOf iv).toNat)
    case atStart => exact ⟨0, 0, Nat.zero_le _, rfl, hide rfl, rfl⟩
    case round =>
      obtain ⟨k, m, hk, rfl, HE, rfl⟩ := hrel
      by_cases hlt : k < hs.length
      · have hlt' : k < hs'.length := by rw [← HN.out]; exact hlt
        obtain ⟨b, o, rfl, -, hc⟩ := HH.out (by omega)
        obtain ⟨b', o', rfl, -, hc'⟩ := HH'.out (by omega)
        obtain ⟨y0, y1⟩ := hc k hlt
        obtain ⟨z0, z1⟩ := hc' k hlt'
        have q1 : decide ((k : Int) < (hs.length : Int)) = true := decide_eq_true (by omega)
        have q2 : (k : Int) < (hs'.length : Int) := by omega
        have HT := hide (fun (e : hs[k] = hs'[k]) => show hs.take (k + 1) = hs'.take (k + 1) by rw [List.take_succ_eq_append_getElem hlt, List.take_succ_eq_append_getElem hlt', HE.out, e])
        have HF := hide (fun (e : ¬ hs[k] = hs'[k]) => show ¬ hs = hs' from fun h => e (by subst h; rfl))
        generalize hs[k] = x at y0 y1 HT HF
        generalize hs'[k] = z at z0 z1 HT HF
        clear hc hc'
        by_cases es : x.1 = z.1
        · have qs : (x.1 == z.1) = true := by simpa using es
          by_cases eg : x.2 = z.2
          · have qg : (x.2 == z.2) = true := by simpa using eg
            have HT := hide (HT.out (Prod.ext es eg))
            clear es eg
            go_wp2
            go_quiet (fail)
            go_wp2
            go_roundw
            case rel => exact ⟨k + 1, _, by omega, by go_num, HT, rfl⟩
            case measure => simp [intOf]; omega
          · have qg : (x.2 == z.2) = false := by simpa using eg
            have HT := hide (HF.out (fun e => eg (by rw [e])))
            clear es eg
            go_wp2
            go_quiet (fail)
            go_wp2
            go_ret
            exact ⟨ret_bool (decide_eq_false HT.out).symm, (below_dr _ _ m).trans (below_dr _ _ nq)⟩
        · have qs : (x.1 == z.1) = false := by simpa using es
          have HT := hide (HF.out (fun e => es (by rw [e])))
          clear es
          go_wp2
          go_quiet (fail)
          go_wp2
          go_ret
          exact ⟨ret_bool (decide_eq_false HT.out).symm, (below_dr _ _ m).trans (below_dr _ _ nq)⟩
      · have q1 : decide ((k : Int) < (hs.length : Int)) = false := decide_eq_false (by omega)
        have HT := hide (show hs = hs' by have e := HE.out; rw [List.take_of_length_le (by omega), List.take_of_length_le (by have := HN.out; omega)] at e; exact e)
        go_wp2
        go_ret
        exact ⟨ret_bool (decide_eq_true HT.out).symm, below_dr _ _ _⟩
  · have qn : ((hs.length : Int) == (hs'.length : Int)) = false := by simp; omega
    have HN := hide (show ¬ hs = hs' from fun h => hn (by rw [h]))
    clear hn
    go_enter Try.func29, Try.ntmps29
    go_wp2
    go_ret
    exact ⟨ret_bool (decide_eq_false HN.out).symm, Below.refl _ _⟩

end Go.Proofs.Ytcogiklnegpfiaa
