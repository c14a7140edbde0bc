/- Layer 11: WaitqStands: how often a wait stands in a list. -/
import Derived.Test.YthnnpipekeanoaaXa
namespace Go.Proofs.Ythnnpipekeanoaa
open Go.RowKit

def meR (s g : Int) (r : Rc) : Bool := decide (r.ms = s) && decide (r.mg = g)
/-- how often -/
def hasW (rs : List Rc) (s g : Int) : Nat := rs.countP (meR s g)

set_option maxRecDepth 100000 in
set_option maxHeartbeats 4000000 in
theorem has_is {w : World} {B : Nat} {v : Value} {rs : List Rc} (h : RcRow w B v rs) (hl : rs.length ≤ 100000) (s g : Int) :
    Calls Try.prog 18 #[v, hvW s g] w fun e w' => e = .returned (.int .i64 (hasW rs s g : Int)) ∧ Below w.heap.size w w' := by
  obtain ⟨w1, hw1⟩ : ∃ w1, w.alloc (.cells #[.int .u32 s, .int .u32 g] 41) = w1 := ⟨_, rfl⟩
  have hB1 : Below w.heap.size w w1 := by rw [← hw1]; exact below1 _ _
  have hn : w1.heap[w.heap.size]? = some (.cells #[.int .u32 s, .int .u32 g] 41 (0, 0)) := by rw [← hw1]; exact heap_new _ _
  have x0 : w1.cell? ⟨w.heap.size, 0, none⟩ = some (.int .u32 s) := by simp [Lib.cell_of_heap hn]
  have x1 : w1.cell? ⟨w.heap.size, 1, none⟩ = some (.int .u32 g) := by simp [Lib.cell_of_heap hn]
  have H1 := hide (h.ch (Ch.of_below (Q := fun _ => False) hB1) (fun _ _ h => h))
  have HB := hide hB1
  obtain ⟨a, c, rfl, hc, hm⟩ := h.form
  clear hB1 h hn
  go_enter Try.func18, Try.ntmps18
  go_wp2
  clear hw1
  go_loopw [5, 6] (fun nv iv wr => ∃ k m : Nat, k ≤ rs.length ∧ iv = .int .i64 (k : Int) ∧ nv = .int .i64 (((rs.take k).countP (meR s g) : Nat) : Int) ∧ wr = w1.drewN m) (fun _ iv _ => rs.length - (intOf iv).toNat)
  case atStart => exact ⟨0, 0, Nat.zero_le _, rfl, rfl, rfl⟩
  case round =>
    obtain ⟨k, m, hk, rfl, rfl, rfl⟩ := hrel
    by_cases hlt : k < rs.length
    · obtain ⟨ga, gc, cur, e1, -, -, -, -, -, hcell⟩ := H1.out.at rcF_len (by omega)
      cases e1
      have q1 : decide ((k : Int) < (rs.length : Int)) = true := decide_eq_true (by omega)
      have y0 : w1.cell? ⟨ga, k * 11, none⟩ = _ := hcell k hlt 0 (.int .u32 rs[k].ms) rfl
      have y1 := hcell k hlt 1 (.int .u32 rs[k].mg) rfl
      have hcp := List.countP_le_length (p := meR s g) (l := rs.take k)
      rw [List.length_take] at hcp
      have HN := hide (show (rs.take (k + 1)).countP (meR s g) = (rs.take k).countP (meR s g) + (if meR s g rs[k] then 1 else 0) by
        rw [List.take_succ_eq_append_getElem hlt, List.countP_append]
        cases hx : meR s g rs[k] <;> simp [hx])
      generalize rs[k] = z at y0 y1 HN
      generalize hcn : (rs.take k).countP (meR s g) = cn at HN hcp
      have ew : IntKind.i64.wrap ((cn : Int) + 1) = (cn : Int) + 1 := by rw [IntKind.wrap_i64]; omega
      have HC := hide hcp
      clear hcell hcp hcn
      by_cases es : z.ms = s
      · have qs : (z.ms == s) = true := by simpa using es
        by_cases eg : z.mg = g
        · have qg : (z.mg == g) = true := by simpa using eg
          have HM := hide (show meR s g z = true by simp [meR, es, eg])
          clear es eg
          go_wp2
          go_quiet (fail)
          go_wp2
          go_roundw
          case rel => exact ⟨k + 1, _, by omega, by go_num, by rw [HN.out, HM.out]; rfl, rfl⟩
          case measure => simp [intOf]; omega
        · have qg : (z.mg == g) = false := by simpa using eg
          have HM := hide (show meR s g z = false by simp [meR, eg])
          clear es eg
          go_wp2
          go_quiet (fail)
          go_wp2
          go_roundw
          case rel => exact ⟨k + 1, _, by omega, by go_num, by rw [HN.out, HM.out]; rfl, rfl⟩
          case measure => simp [intOf]; omega
      · have qs : (z.ms == s) = false := by simpa using es
        have HM := hide (show meR s g z = false by simp [meR, es])
        clear es
        go_wp2
        go_quiet (fail)
        go_wp2
        go_roundw
        case rel => exact ⟨k + 1, _, by omega, by go_num, by rw [HN.out, HM.out]; rfl, rfl⟩
        case measure => simp [intOf]; omega
    · have q1 : decide ((k : Int) < (rs.length : Int)) = false := decide_eq_false (by omega)
      have HE := hide (show (rs.take k).countP (meR s g) = hasW rs s g by rw [List.take_of_length_le (by omega)]; rfl)
      go_wp2
      go_ret
      exact ⟨ret_int (by rw [HE.out]), HB.out.trans (below_dr _ _ _)⟩

end Go.Proofs.Ythnnpipekeanoaa
