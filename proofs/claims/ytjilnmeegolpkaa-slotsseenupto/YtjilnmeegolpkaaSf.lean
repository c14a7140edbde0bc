/- Layer 10: the document's table: New, Told, Take. -/
import Derived.Test.YtjilnmeegolpkaaSe
import Derived.Deep.RegionHeld3
namespace Go.Proofs.Ytjilnmeegolpkaa
open Go.RowKit

variable {w : World} {B b : Nat} {v : Value} {l : List Th} {m : Int}

theorem rnew_is (w : World) (m : Int) {z : Bool} (hz : (decide (1 ≤ m) && decide (m ≤ 500)) = z) : Calls Try.prog 9 #[.int .i64 m] w fun e w' => e = .returned (.tuple #[.pointer (some ⟨w.heap.size, 0, none⟩), .bool z]) ∧ w' = w.alloc (.cells #[.slice none 0 0, .int .i64 m] 45) := by
  have HZ := hide hz
  clear hz
  have E : ∀ {x y : Value} {p q : Bool}, p = q → x = .bool p → Ending.returned (.tuple #[y, x]) = .returned (.tuple #[y, .bool q]) := by
    rintro _ _ _ _ rfl rfl
    rfl
  by_cases h1 : 1 ≤ m
  · by_cases h2 : m ≤ 500
    · have K := hide (show true = z by rw [← unhide HZ]; simp [h1, h2])
      go_enter Try.func9, Try.ntmps9
      go_wp2
      go_ret2
      exact ⟨E (unhide K) rfl, rfl⟩
    · have K := hide (show false = z by rw [← unhide HZ]; simp [h2])
      go_enter Try.func9, Try.ntmps9
      go_wp2
      go_ret2
      exact ⟨E (unhide K) rfl, rfl⟩
  · have K := hide (show false = z by rw [← unhide HZ]; simp [h1])
    go_enter Try.func9, Try.ntmps9
    go_wp2
    go_ret2
    exact ⟨E (unhide K) rfl, rfl⟩

theorem DT.new (w : World) {B : Nat} (m : Int) : DT (w.alloc (.cells #[.slice none 0 0, .int .i64 m] 45)) B w.heap.size (.slice none 0 0) [] m := ⟨heap_new _ _, Row.nil _ _⟩

theorem nfTh : (Try.prog.info? 84).map (fun i => (i.zero, i.size, i.bytes)) = some (some (.agg #[.int .u32 0, .int .u32 0, .int .i64 0, .bool false]), 4, 24) := by kernel_rfl

theorem nf_open {P : Program} {T : TypeId} {z : Value} {k b : Nat} (h : (P.info? T).map (fun i => (i.zero, i.size, i.bytes)) = some (some z, k, b)) : ∃ i, P.info? T = some i ∧ i.zero = some z ∧ i.size = k ∧ i.bytes = b := by
  cases hi : P.info? T with
  | none => rw [hi] at h; cases h
  | some i =>
    rw [hi] at h
    simp only [Option.map_some, Option.some.injEq, Prod.mk.injEq] at h
    exact ⟨i, rfl, h.1, h.2.1, h.2.2⟩

/-- a new block's cells, one by one -/
theorem row_new (V : World) (cs : List Value) (T : TypeId) {n : Nat} (hn : V.heap.size = n) : ∀ (j : Nat) (u : Value), cs[j]? = some u → (V.alloc (.cells cs.toArray T)).cell? ((⟨n, 0, none⟩ : Addr).add j) = some u := by
  intro j u hu
  subst hn
  rw [Addr.add_lit, Nat.zero_add, Lib.cell_of_heap (heap_new V (.cells cs.toArray T))]
  simpa using hu
theorem thF_one (t : Th) : ∀ u ∈ thF t, u.oneCell' = true := by
  intro u hu
  simp only [thF, List.mem_cons, List.not_mem_nil, or_false] at hu
  rcases hu with rfl | rfl | rfl | rfl <;> rfl

def lvs (l : List Th) : List Th := l.filter fun t => !t.d
theorem lvs_snoc (l : List Th) (t : Th) : lvs (l ++ [t]) = if t.d then lvs l else lvs l ++ [t] := by
  unfold lvs
  cases h : t.d <;> simp [List.filter_append, h]
theorem lvs_le (l : List Th) : (lvs l).length ≤ l.length := List.length_filter_le _ _

set_option maxHeartbeats 2000000 in
theorem rtold_is (h : DT w B b v l m) (hl : l.length ≤ 100000) :
    Calls Try.prog 37 #[.pointer (some ⟨b, 0, none⟩)] w fun e w' => ∃ v', e = .returned v' ∧ ThRow w' w.heap.size v' (lvs l) ∧ Below w.heap.size w w' := by
  obtain ⟨a, c, rfl, hc, hm⟩ := h.row.form
  obtain ⟨i0, hi0, hz0, hz1, hz2⟩ := nf_open nfTh
  go_enter Try.func37, Try.ntmps37
  go_wp2
  go_loopw [3, 4] (fun t i wr => ∃ k : Nat, k ≤ l.length ∧ i = .int .i64 k ∧ ThRow wr w.heap.size t (lvs (l.take k)) ∧ Below w.heap.size w wr) (fun _ i _ => l.length - (intOf i).toNat)
  case atStart => exact ⟨0, Nat.zero_le _, rfl, Row.nil _ _, Below.refl _ _⟩
  case round =>
    obtain ⟨k, hk, rfl, hrow, hB⟩ := hrel
    have h1 : DT wr B b (.slice a l.length c) l m := h.below hB
    obtain ⟨hx0, hx1⟩ := h1.cells
    by_cases hlt : k < l.length
    · obtain ⟨g, c', cur, hv, hc', hBg, hg, hgc, hcs, hcell⟩ := h1.row.at thF_len (by omega)
      cases hv
      have y0 : wr.cell? ⟨g, k * 4, none⟩ = _ := hcell k hlt 0 (.int .u32 l[k].s) rfl
      have y1 := hcell k hlt 1 (.int .u32 l[k].g) rfl
      have y2 := hcell k hlt 2 (.int .i64 l[k].x) rfl
      have y3 := hcell k hlt 3 (.bool l[k].d) rfl
      have hle : (lvs (l.take k)).length ≤ k := Nat.le_trans (lvs_le _) (List.length_take_le _ _)
      have hn := lvs_snoc (l.take k) l[k]
      rw [← List.take_succ_eq_append_getElem hlt] at hn
      generalize l[k] = z at hn y0 y1 y2 y3
      have HN := hide hn
      clear hn hcell
      have hsz := hB.size
      cases hd : z.d
      · rw [hd] at y3
        have HOW := hide (World.ownsRow.alloc hrow (.cells #[.int .u32 z.s, .int .u32 z.g, .int .i64 z.x, .bool false] 84))
        have HN1 := hide (row_new wr [.int .u32 z.s, .int .u32 z.g, .int .i64 z.x, .bool false] 84 rfl)
        have HM1 := hide (show (lvs (l.take k)).length + 1 ≤ maxLen by unfold maxLen; omega)
        have HM2 := hide (show ((lvs (l.take k)).length + 1) * 24 ≤ 140737488355328 by omega)
        have HM3 := hide (show w.heap.size ≤ (wr.alloc (.cells #[.int .u32 z.s, .int .u32 z.g, .int .i64 z.x, .bool false] 84)).heap.size by simp; omega)
        have HB := hide hB
        have HON := hide (thF_one ⟨z.s, z.g, z.x, false⟩)
        clear hrow hB hle hsz hgc hcs
        go_wp2_with (at_builtin; refine wpList_append_own_at _ rfl _ _ 43 rfl w.heap.size 84 i0 (.agg #[.int .u32 0, .int .u32 0, .int .i64 0, .bool false]) 4 24 Try.underlying43 hi0 hz0 hz1 hz2 rfl (by decide) _ (lvs (l.take k)).length ((lvs (l.take k)).flatMap thF) rfl (unhide HOW) ⟨wr.heap.size, 0, none⟩ 1 1 (thF ⟨z.s, z.g, z.x, false⟩) rfl rfl (unhide HN1) (unhide HON) (unhide HM1) (unhide HM2) (unhide HM3) ?_)
        intro v' w1 hown' hgrow _ hat
        have HO' := hide hown'
        have HBw := hide (((unhide HB).alloc (unhide HB).size (.cells #[.int .u32 z.s, .int .u32 z.g, .int .i64 z.x, .bool false] 84)).trans ((Ch.of_grown (Q := fun x => u3.ownBlock = some x) hgrow (fun _ e => e)).below (unhide HM3) (fun x hx e => by have := (own_in (unhide HOW) e).1; omega)))
        clear hown' hgrow hat
        go_wp2
        go_roundw
        case rel => exact ⟨k + 1, by omega, by go_num, by rw [unhide HN, if_neg (by rw [hd]; decide)]; cases z; cases hd; exact Row.snoc (unhide HO'), unhide HBw⟩
        case measure => simp [intOf]; omega
      · rw [hd] at y3
        go_wp2
        go_roundw
        case rel => exact ⟨k + 1, by omega, by go_num, by rw [unhide HN, hd]; exact hrow, hB⟩
        case measure => simp [intOf]; omega
    · go_wp2
      go_ret
      have e : k = l.length := by omega
      subst e
      rw [List.take_length] at hrow
      exact ⟨_, rfl, hrow, hB⟩

end Go.Proofs.Ytjilnmeegolpkaa
