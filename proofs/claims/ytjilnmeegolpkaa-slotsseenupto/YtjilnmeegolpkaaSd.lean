/- Layer 10: the document's table, in memory. -/
import Derived.Test.YtjilnmeegolpkaaSm
import Derived.Test.YtjilnmeegolpkaaFr
namespace Go.Proofs.Ytjilnmeegolpkaa
open Go.RowKit

def thF (t : Th) : List Value := [.int .u32 t.s, .int .u32 t.g, .int .i64 t.x, .bool t.d]
theorem thF_len (t : Th) : (thF t).length = 4 := rfl
abbrev ThRow (w : World) (B : Nat) (v : Value) (l : List Th) : Prop := Row thF 4 84 w B v l

/-- the document's table lies in block b -/
structure DT (w : World) (B b : Nat) (v : Value) (l : List Th) (m : Int) : Prop where
  box : w.heap[b]? = some (.cells #[v, .int .i64 m] 45 (0, 0))
  row : ThRow w B v l

theorem DT.lt {w : World} {B b : Nat} {v : Value} {l : List Th} {m : Int} (h : DT w B b v l m) : b < w.heap.size := (Array.getElem?_eq_some_iff.1 h.box).1
theorem DT.cells {w : World} {B b : Nat} {v : Value} {l : List Th} {m : Int} (h : DT w B b v l m) : w.cell? ⟨b, 0, none⟩ = some v ∧ w.cell? ⟨b, 1, none⟩ = some (.int .i64 m) := by
  simp [Lib.cell_of_heap h.box]
theorem DT.ch {Q : Nat → Prop} {w w' : World} {B b : Nat} {v : Value} {l : List Th} {m : Int} (h : DT w B b v l m) (hc : Ch Q w w') (hb : ¬ Q b) (hq : ∀ g, v.ownBlock = some g → ¬ Q g) : DT w' B b v l m := ⟨hc.box h.box hb, h.row.ch hc hq⟩
theorem DT.ne {w : World} {B b : Nat} {v : Value} {l : List Th} {m : Int} (h : DT w B b v l m) : ¬ v.ownBlock = some b := own_box h.row h.box (by decide)

/-- a handle as a value -/
abbrev hv (s g : Int) : Value := .agg #[.int .u32 s, .int .u32 g]

set_option maxHeartbeats 1000000 in
theorem rcount_is {w : World} {B b : Nat} {v : Value} {l : List Th} {m : Int} (h : DT w B b v l m) :
    Calls Try.prog 13 #[.pointer (some ⟨b, 0, none⟩)] w fun e w' => e = .returned (.int .i64 (cnt l : Int)) ∧ w' = w := by
  obtain ⟨a, c, rfl, hc, hm⟩ := h.row.form
  have hm' : l.length ≤ 9223372036854775807 := by unfold maxLen at hm; omega
  obtain ⟨hx0, hx1⟩ := h.cells
  go_enter Try.func13, Try.ntmps13
  go_wp2
  go_loopw [3, 4] (fun t i wr => ∃ k : Nat, k ≤ l.length ∧ i = .int .i64 k ∧ t = .int .i64 (cnt (l.take k) : Int) ∧ wr = w) (fun _ i _ => l.length - (intOf i).toNat)
  case atStart => exact ⟨0, Nat.zero_le _, rfl, by simp [cnt], rfl⟩
  case round =>
    obtain ⟨k, hk, rfl, rfl, rfl⟩ := hrel
    by_cases hlt : k < l.length
    · obtain ⟨g, c', cur, hv, hc', hB, hg, hgc, hcs, hcell⟩ := h.row.at thF_len (by omega)
      cases hv
      have y2 := hcell k hlt 2 (.int .i64 l[k].x) rfl
      have y3 := hcell k hlt 3 (.bool l[k].d) rfl
      have hle : cnt (l.take k) ≤ k := Nat.le_trans (cnt_le _) (List.length_take_le _ _)
      have hn := cnt_snoc (l.take k) l[k]
      rw [← List.take_succ_eq_append_getElem hlt] at hn
      generalize l[k] = z at hn y2 y3
      have HN := hide hn
      clear hn hcell
      cases hd : z.d
      · rw [hd] at y3
        go_wp2
        go_roundw
        case rel => exact ⟨k + 1, by omega, by go_num, by rw [unhide HN, hd]; go_num, trivial⟩
        case measure => simp [intOf]; omega
      · rw [hd] at y3
        go_wp2
        go_roundw
        case rel => exact ⟨k + 1, by omega, by go_num, by rw [unhide HN, hd]; go_num, trivial⟩
        case measure => simp [intOf]; omega
    · go_wp2
      go_ret
      have e : k = l.length := by omega
      subst e
      exact ⟨ret_int (by simp), rfl⟩

set_option maxHeartbeats 1000000 in
theorem rfind_is {w : World} {B b : Nat} {v : Value} {l : List Th} {m : Int} (h : DT w B b v l m) (s g : Int) {r : Option Nat} (hr : fnd l s g = r) :
    Calls Try.prog 47 #[.pointer (some ⟨b, 0, none⟩), hv s g] w fun e w' => e = .returned (.int .i64 (ix r)) ∧ Below w.heap.size w w' := by
  obtain ⟨a, c, rfl, hc, hm⟩ := h.row.form
  have hm' : l.length ≤ 9223372036854775807 := by unfold maxLen at hm; omega
  go_enter Try.func47, Try.ntmps47
  go_wp2
  obtain ⟨w1, hw1⟩ : ∃ w1, w.alloc (.cells #[.int .u32 s, .int .u32 g] 39) = w1 := ⟨_, rfl⟩
  have hB1 : Below w.heap.size w w1 := by rw [← hw1]; exact below1 _ _
  have h1 := h.ch (Ch.of_below (Q := fun _ => False) hB1) (fun h => h) (fun _ _ h => h)
  have hn : w1.heap[w.heap.size]? = some (.cells #[.int .u32 s, .int .u32 g] 39) := by rw [← hw1]; exact heap_new _ _
  obtain ⟨hx0, hx1⟩ := h1.cells
  have hy0 : w1.cell? ⟨w.heap.size, 0, none⟩ = some (.int .u32 s) := by simp [Lib.cell_of_heap hn]
  have hy1 : w1.cell? ⟨w.heap.size, 1, none⟩ = some (.int .u32 g) := by simp [Lib.cell_of_heap hn]
  rw [hw1]
  go_loopw [5] (fun i wr => ∃ k m : Nat, k ≤ l.length ∧ i = .int .i64 k ∧ fnd l s g = fndF s g (l.drop k) k ∧ wr = w1.drewN m) (fun i _ => l.length - (intOf i).toNat)
  case atStart => exact ⟨0, 0, Nat.zero_le _, rfl, rfl, rfl⟩
  case round =>
    obtain ⟨k, m, hk, rfl, hf, rfl⟩ := hrel
    by_cases hlt : k < l.length
    · obtain ⟨g', c', cur, hv, hc', hB, hg, hgc, hcs, hcell⟩ := h1.row.at thF_len (by omega)
      cases hv
      have y0 : w1.cell? ⟨g', k * 4, none⟩ = _ := hcell k hlt 0 (.int .u32 l[k].s) rfl
      have y1 := hcell k hlt 1 (.int .u32 l[k].g) rfl
      have y2 := hcell k hlt 2 (.int .i64 l[k].x) rfl
      have y3 := hcell k hlt 3 (.bool l[k].d) rfl
      rw [List.drop_eq_getElem_cons hlt] at hf
      unfold fndF at hf
      generalize l[k] = z at hf y0 y1 y2 y3
      have HF := hide hf
      have HR := hide hr
      clear hf hr hcell
      by_cases es : z.s = s
      · subst es
        have q : (z.s == z.s) = true := by simp
        by_cases eg : z.g = g
        · subst eg
          have q' : (z.g == z.g) = true := by simp
          cases hd : z.d
          · rw [hd] at y3
            go_wp2
            go_quiet (fail)
            go_wp2
            go_ret
            have hf := unhide HF
            rw [unhide HR] at hf
            exact ⟨by rw [hf]; simp [hd, ix], hB1.trans ((below_dr _ _ _).trans (below_dr _ _ _))⟩
          · rw [hd] at y3
            go_wp2
            go_quiet (fail)
            go_wp2
            go_roundw
            case rel => exact ⟨k + 1, _, by omega, by go_num, by rw [unhide HF]; simp [hd], rfl⟩
            case measure => simp [intOf]; omega
        · have q' : (z.g == g) = false := by simpa using eg
          have HE := hide eg
          clear eg
          go_wp2
          go_quiet (fail)
          go_wp2
          go_roundw
          case rel => exact ⟨k + 1, _, by omega, by go_num, by rw [unhide HF]; simp [unhide HE], rfl⟩
          case measure => simp [intOf]; omega
      · have q : (z.s == s) = false := by simpa using es
        have HE := hide es
        clear es
        go_wp2
        go_quiet (fail)
        go_wp2
        go_roundw
        case rel => exact ⟨k + 1, _, by omega, by go_num, by rw [unhide HF]; simp [unhide HE], rfl⟩
        case measure => simp [intOf]; omega
    · go_wp2
      go_ret
      have e : k = l.length := by omega
      subst e
      rw [List.drop_length, hr] at hf
      exact ⟨by rw [hf]; rfl, hB1.trans (below_dr _ _ _)⟩

end Go.Proofs.Ytjilnmeegolpkaa
