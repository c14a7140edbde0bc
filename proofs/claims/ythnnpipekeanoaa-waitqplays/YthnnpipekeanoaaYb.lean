/- Layer 11: the landed book: refuse. Layer 11: the landed book: what Put needs. Layer 11: the landed book: Put lays a record. Layer 11: the landed book, as the face asks: Put. Layer 11: the landed book, as the face asks: First. Layer 11: the landed book keeps what the laws ask of it. -/
import Derived.Test.YthnnpipekeanoaaYa
import Derived.Test.YthnnpipekeanoaaHp
import Derived.Test.YthnnpipekeanoaaHu
namespace Go.Proofs.Ythnnpipekeanoaa
open Go.RowKit

abbrev rf0 : Oper := { dst := some 25, op := Op.move (Operand.tmp 0), type := 25, pos := "waitq.go:149", after := #[], guard := none }
abbrev rf1 : Oper := { dst := some 26, op := Op.nilCheck (Operand.tmp 25), type := 0, pos := "waitq.go:149", after := #[{ on := 0, ground := Ground.data }], guard := none }
abbrev rf2 : Oper := { dst := some 27, op := Op.fieldAddr 73 (Operand.tmp 26) 3, type := 0, pos := "waitq.go:149", after := #[{ on := 1, ground := Ground.data }], guard := none }
abbrev rf3 : Oper := { dst := some 28, op := Op.load 70 (Operand.tmp 27), type := 70, pos := "waitq.go:149", after := #[{ on := 2, ground := Ground.data }], guard := none }
abbrev rf4 : Oper := { dst := some 29, op := Op.load 41 (Operand.tmp 6), type := 41, pos := "waitq.go:149", after := #[], guard := none }
abbrev rf5 : Oper := { dst := some 30, op := Op.move (Operand.tmp 3), type := 3, pos := "waitq.go:149", after := #[], guard := none }
abbrev rf6 : Oper := { dst := some 31, op := Op.build 94 #[(0, Operand.tmp 29), (1, Operand.tmp 30)], type := 94, pos := "waitq.go:149", after := #[{ on := 4, ground := Ground.data }, { on := 5, ground := Ground.data }], guard := none }
abbrev rf7 : Oper := { dst := some 32, op := Op.lookup 70 (Operand.tmp 28) (Operand.tmp 31) true, type := 100, pos := "waitq.go:149", after := #[{ on := 3, ground := Ground.data }, { on := 6, ground := Ground.data }], guard := none }
abbrev rf8 : Oper := { dst := some 24, op := Op.move (Operand.tmp 32), type := 100, pos := "waitq.go:149", after := #[{ on := 7, ground := Ground.data }], guard := none }
abbrev rf9 : Oper := { dst := some 33, op := Op.extract (Operand.tmp 24) 0, type := 39, pos := "waitq.go:149", after := #[{ on := 8, ground := Ground.data }], guard := none }
abbrev rf10 : Oper := { dst := some 34, op := Op.extract (Operand.tmp 24) 1, type := 4, pos := "waitq.go:149", after := #[{ on := 8, ground := Ground.data }, { on := 11, ground := Ground.gcOnly Departure.lateStores }], guard := none }
abbrev rf11 : Oper := { dst := some 9, op := Op.assign (Operand.tmp 33), type := 39, pos := "waitq.go:149", after := #[{ on := 9, ground := Ground.data }, { on := 0, ground := Ground.phase }, { on := 1, ground := Ground.phase }, { on := 2, ground := Ground.phase }, { on := 3, ground := Ground.phase }, { on := 4, ground := Ground.phase }, { on := 5, ground := Ground.phase }, { on := 6, ground := Ground.phase }, { on := 7, ground := Ground.phase }, { on := 8, ground := Ground.phase }, { on := 9, ground := Ground.phase }, { on := 10, ground := Ground.textOnly Departure.lateStores }], guard := none }
abbrev rf12 : Oper := { dst := some 10, op := Op.assign (Operand.tmp 34), type := 4, pos := "waitq.go:149", after := #[{ on := 10, ground := Ground.data }, { on := 11, ground := Ground.chain }, { on := 0, ground := Ground.phase }, { on := 1, ground := Ground.phase }, { on := 2, ground := Ground.phase }, { on := 3, ground := Ground.phase }, { on := 4, ground := Ground.phase }, { on := 5, ground := Ground.phase }, { on := 6, ground := Ground.phase }, { on := 7, ground := Ground.phase }, { on := 8, ground := Ground.phase }, { on := 9, ground := Ground.phase }, { on := 10, ground := Ground.phase }, { on := 11, ground := Ground.phase }], guard := none }

variable {w : World} {B p M C n : Nat} {wv : Value} {sl : List Sl} {full : Int} {en : Ln → Option (Int × Int)} {cl : Int × Int × Int → Option Int}

/-- why a Put is refused -/
def ecC (cl : Int × Int × Int → Option Int) (ws wg rd ar : Int) : Int := if ws = 0 ∧ wg = 0 then 111 else if rd < 1 ∨ 4 < rd then 112 else if (cl (ws, wg, ar)).isSome then 113 else 0

set_option maxRecDepth 100000 in
set_option maxHeartbeats 8000000 in
theorem refuse_is (h : Bk w B p wv M C sl full en cl n) (rs rg rd ws wg ar : Int) :
    Calls Try.prog 35 #[.pointer (some ⟨p, 0, none⟩), rvW rs rg rd, hvW ws wg, .int .i64 ar] w fun e w' => e = .returned (.int .i64 (ecC cl ws wg rd ar)) ∧ Below w.heap.size w w' := by
  obtain ⟨w1, hw1⟩ : ∃ w1, (w.alloc (.cells #[.int .u32 rs, .int .u32 rg, .int .i64 rd] 44)).alloc (.cells #[.int .u32 ws, .int .u32 wg] 41) = w1 := ⟨_, rfl⟩
  have hB1 : Below w.heap.size w w1 := by rw [← hw1]; exact (below1 _ _).trans ((below1 _ _).mono (by simp))
  have h1 := h.below hB1
  have hA : w1.heap[w.heap.size]? = some (.cells #[.int .u32 rs, .int .u32 rg, .int .i64 rd] 44 (0, 0)) := by
    rw [← hw1, (MapKept.heap_alloc _ _).2 _ (by simp)]
    exact heap_new _ _
  have hA2 : w1.heap[w.heap.size + 1]? = some (.cells #[.int .u32 ws, .int .u32 wg] 41 (0, 0)) := by
    rw [← hw1]
    have := heap_new (w.alloc (.cells #[.int .u32 rs, .int .u32 rg, .int .i64 rd] 44)) (.cells #[.int .u32 ws, .int .u32 wg] 41)
    rwa [World.size_alloc] at this
  have x2 : w1.cell? ⟨w.heap.size, 2, none⟩ = some (.int .i64 rd) := by simp [Lib.cell_of_heap hA]
  have y0 : w1.cell? ⟨w.heap.size + 1, 0, none⟩ = some (.int .u32 ws) := by simp [Lib.cell_of_heap hA2]
  have y1 : w1.cell? ⟨w.heap.size + 1, 1, none⟩ = some (.int .u32 wg) := by simp [Lib.cell_of_heap hA2]
  have HB := hide hB1
  have H1 := hide h1
  have HA2 := hide hA2
  clear hB1 h1 hA hA2 h
  go_enter Try.func35, Try.ntmps35
  by_cases hw : ws = 0 ∧ wg = 0
  · obtain ⟨rfl, rfl⟩ := hw
    go_wp2_with fail
    go_ret
    exact ⟨rfl, HB.out⟩
  · have qw : (ws == 0 && wg == 0) = false := by
      cases hq : (ws == 0 && wg == 0) with
      | false => rfl
      | true =>
        rw [Bool.and_eq_true, beq_iff_eq, beq_iff_eq] at hq
        exact absurd hq hw
    have HWW := hide hw
    clear hw
    by_cases hr : rd < 1 ∨ 4 < rd
    · by_cases hr1 : rd < 1
      · have q1 : decide (rd < 1) = true := decide_eq_true hr1
        have HRR := hide hr
        clear hr hr1
        by_cases hws : ws = 0
        · have qs : (ws == 0) = true := by simpa using hws
          have qg : (wg == 0) = false := by rw [qs] at qw; simpa using qw
          clear hws
          go_wp2_with fail
          go_ret
          exact ⟨ret_int (by unfold ecC; rw [if_neg HWW.out, if_pos HRR.out]), HB.out⟩
        · have qs : (ws == 0) = false := by simpa using hws
          clear hws
          go_wp2_with fail
          go_ret
          exact ⟨ret_int (by unfold ecC; rw [if_neg HWW.out, if_pos HRR.out]), HB.out⟩
      · have q1 : decide (rd < 1) = false := decide_eq_false hr1
        have q2 : decide (4 < rd) = true := decide_eq_true (by omega)
        have HRR := hide hr
        clear hr hr1
        by_cases hws : ws = 0
        · have qs : (ws == 0) = true := by simpa using hws
          have qg : (wg == 0) = false := by rw [qs] at qw; simpa using qw
          clear hws
          go_wp2_with fail
          go_ret
          exact ⟨ret_int (by unfold ecC; rw [if_neg HWW.out, if_pos HRR.out]), HB.out⟩
        · have qs : (ws == 0) = false := by simpa using hws
          clear hws
          go_wp2_with fail
          go_ret
          exact ⟨ret_int (by unfold ecC; rw [if_neg HWW.out, if_pos HRR.out]), HB.out⟩
    · have q1 : decide (rd < 1) = false := decide_eq_false (by omega)
      have q2 : decide (4 < rd) = false := decide_eq_false (by omega)
      have HRR := hide hr
      clear hr
      by_cases hws : ws = 0
      · have qs : (ws == 0) = true := by simpa using hws
        have qg : (wg == 0) = false := by rw [qs] at qw; simpa using qw
        clear hws
        go_wp2_with fail
        refine wp_reg (fun _ => False) (R := fun W => Ch (fun _ => False) w1 W) (by kernel_rfl) (Ch.drew _) ?_
        rintro V v zk
        have HV := hide v
        clear v
        have HG := hide (fun wq (zq : Ch (fun _ => False) V wq) => have c := HV.out.trans zq (fun _ _ h => h); have e := Lib.cell_of_heap (c.box HA2.out (fun h => h)); show wq.cell? ⟨p, 3, none⟩ = some (.map (some C)) ∧ wq.cell? ⟨w.heap.size + 1, 0, none⟩ = some (.int .u32 ws) ∧ wq.cell? ⟨w.heap.size + 1, 1, none⟩ = some (.int .u32 wg) ∧ ClMap wq C cl n from ⟨(H1.out.ch c (fun _ _ h => h)).cells.2.2.2, by simp [e], by simp [e], (H1.out.ch c (fun _ _ h => h)).cm⟩)
        apply tk 0 rf0 rfl (by kernel_rfl) (fun _ _ _ h => h) zk
        · intro wq zq
          go_simp
          try rfl
        go_frame
        apply tk 1 rf1 rfl (by kernel_rfl) (fun _ _ _ h => h) zk
        · intro wq zq
          go_simp
          try rfl
        go_frame
        apply tk 2 rf2 rfl (by kernel_rfl) (fun _ _ _ h => h) zk
        · intro wq zq
          go_simp
          try rfl
        go_frame
        apply tk 3 rf3 rfl (by kernel_rfl) (fun _ _ _ h => h) zk
        · intro wq zq
          obtain ⟨s1, s2, s3, -⟩ := HG.out _ zq
          go_simp
          try rfl
        go_frame
        apply tk 4 rf4 rfl (by kernel_rfl) (fun _ _ _ h => h) zk
        · intro wq zq
          obtain ⟨s1, s2, s3, -⟩ := HG.out _ zq
          go_simp
          try rfl
        go_frame
        apply tk 5 rf5 rfl (by kernel_rfl) (fun _ _ _ h => h) zk
        · intro wq zq
          go_simp
          try rfl
        go_frame
        apply tk 6 rf6 rfl (by kernel_rfl) (fun _ _ _ h => h) zk
        · intro wq zq
          go_simp
          try rfl
        go_frame
        apply tk 7 rf7 rfl (by kernel_rfl) (fun _ _ _ h => h) zk
        · intro wq zq
          exact val_lookC (x := (ws, wg, ar)) (.tmp 28) (.tmp 31) rfl rfl rfl (HG.out _ zq).2.2.2
        go_frame
        apply tk 8 rf8 rfl (by kernel_rfl) (fun _ _ _ h => h) zk
        · intro wq zq
          go_simp
          try rfl
        go_frame
        apply tk 9 rf9 rfl (by kernel_rfl) (fun _ _ _ h => h) zk
        · intro wq zq
          go_simp
          try rfl
        go_frame
        apply tk 10 rf10 rfl (by kernel_rfl) (fun _ _ _ h => h) zk
        · intro wq zq
          go_simp
          try rfl
        go_frame
        apply tk 11 rf11 rfl (by kernel_rfl) (fun _ _ _ h => h) zk
        · intro wq zq
          go_simp
          try rfl
        go_frame
        apply tk 12 rf12 rfl (by kernel_rfl) (fun _ _ _ h => h) zk
        · intro wq zq
          go_simp
          try rfl
        go_frame
        refine wpAnyH_done (by kernel_rfl) ?_ _
        have HE := hide (HB.out.trans (Below.mono (Ch.below HV.out (N := w1.heap.size) (Nat.le_refl _) (fun _ _ h => h)) HB.out.size))
        cases hcl : (cl (ws, wg, ar)).isSome
        · go_wp2_with fail
          go_ret
          exact ⟨ret_int (by unfold ecC; rw [if_neg HWW.out, if_neg HRR.out, hcl]; rfl), HE.out⟩
        · go_wp2_with fail
          go_ret
          exact ⟨ret_int (by unfold ecC; rw [if_neg HWW.out, if_neg HRR.out, hcl]; rfl), HE.out⟩
      · have qs : (ws == 0) = false := by simpa using hws
        clear hws
        go_wp2_with fail
        refine wp_reg (fun _ => False) (R := fun W => Ch (fun _ => False) w1 W) (by kernel_rfl) (Ch.drew _) ?_
        rintro V v zk
        have HV := hide v
        clear v
        have HG := hide (fun wq (zq : Ch (fun _ => False) V wq) => have c := HV.out.trans zq (fun _ _ h => h); have e := Lib.cell_of_heap (c.box HA2.out (fun h => h)); show wq.cell? ⟨p, 3, none⟩ = some (.map (some C)) ∧ wq.cell? ⟨w.heap.size + 1, 0, none⟩ = some (.int .u32 ws) ∧ wq.cell? ⟨w.heap.size + 1, 1, none⟩ = some (.int .u32 wg) ∧ ClMap wq C cl n from ⟨(H1.out.ch c (fun _ _ h => h)).cells.2.2.2, by simp [e], by simp [e], (H1.out.ch c (fun _ _ h => h)).cm⟩)
        apply tk 0 rf0 rfl (by kernel_rfl) (fun _ _ _ h => h) zk
        · intro wq zq
          go_simp
          try rfl
        go_frame
        apply tk 1 rf1 rfl (by kernel_rfl) (fun _ _ _ h => h) zk
        · intro wq zq
          go_simp
          try rfl
        go_frame
        apply tk 2 rf2 rfl (by kernel_rfl) (fun _ _ _ h => h) zk
        · intro wq zq
          go_simp
          try rfl
        go_frame
        apply tk 3 rf3 rfl (by kernel_rfl) (fun _ _ _ h => h) zk
        · intro wq zq
          obtain ⟨s1, s2, s3, -⟩ := HG.out _ zq
          go_simp
          try rfl
        go_frame
        apply tk 4 rf4 rfl (by kernel_rfl) (fun _ _ _ h => h) zk
        · intro wq zq
          obtain ⟨s1, s2, s3, -⟩ := HG.out _ zq
          go_simp
          try rfl
        go_frame
        apply tk 5 rf5 rfl (by kernel_rfl) (fun _ _ _ h => h) zk
        · intro wq zq
          go_simp
          try rfl
        go_frame
        apply tk 6 rf6 rfl (by kernel_rfl) (fun _ _ _ h => h) zk
        · intro wq zq
          go_simp
          try rfl
        go_frame
        apply tk 7 rf7 rfl (by kernel_rfl) (fun _ _ _ h => h) zk
        · intro wq zq
          exact val_lookC (x := (ws, wg, ar)) (.tmp 28) (.tmp 31) rfl rfl rfl (HG.out _ zq).2.2.2
        go_frame
        apply tk 8 rf8 rfl (by kernel_rfl) (fun _ _ _ h => h) zk
        · intro wq zq
          go_simp
          try rfl
        go_frame
        apply tk 9 rf9 rfl (by kernel_rfl) (fun _ _ _ h => h) zk
        · intro wq zq
          go_simp
          try rfl
        go_frame
        apply tk 10 rf10 rfl (by kernel_rfl) (fun _ _ _ h => h) zk
        · intro wq zq
          go_simp
          try rfl
        go_frame
        apply tk 11 rf11 rfl (by kernel_rfl) (fun _ _ _ h => h) zk
        · intro wq zq
          go_simp
          try rfl
        go_frame
        apply tk 12 rf12 rfl (by kernel_rfl) (fun _ _ _ h => h) zk
        · intro wq zq
          go_simp
          try rfl
        go_frame
        refine wpAnyH_done (by kernel_rfl) ?_ _
        have HE := hide (HB.out.trans (Below.mono (Ch.below HV.out (N := w1.heap.size) (Nat.le_refl _) (fun _ _ h => h)) HB.out.size))
        cases hcl : (cl (ws, wg, ar)).isSome
        · go_wp2_with fail
          go_ret
          exact ⟨ret_int (by unfold ecC; rw [if_neg HWW.out, if_neg HRR.out, hcl]; rfl), HE.out⟩
        · go_wp2_with fail
          go_ret
          exact ⟨ret_int (by unfold ecC; rw [if_neg HWW.out, if_neg HRR.out, hcl]; rfl), HE.out⟩

end Go.Proofs.Ythnnpipekeanoaa

namespace Go.Proofs.Ythnnpipekeanoaa
open Go.RowKit

theorem slW_spec (l : List Wt) : ∃ k : Nat, slW l = k + 1 ∧ (∀ j : Nat, j < k → usdW l ((j : Int) + 1) = true) ∧ usdW l ((k : Int) + 1) = false := by
  have key : ∀ m : Nat, (∀ j : Nat, j < m → usdW l ((j : Int) + 1) = true) ∨ ∃ k : Nat, (∀ j : Nat, j < k → usdW l ((j : Int) + 1) = true) ∧ usdW l ((k : Int) + 1) = false := by
    intro m
    induction m with
    | zero => exact Or.inl (fun j hj => by omega)
    | succ m ih =>
      rcases ih with ih | ih
      · cases hu : usdW l ((m : Int) + 1) with
        | false => exact Or.inr ⟨m, ih, hu⟩
        | true =>
          left
          intro j hj
          by_cases hjm : j = m
          · rw [hjm]; exact hu
          · exact ih j (by omega)
      · exact Or.inr ih
  rcases key (l.length + 1) with h | ⟨k, h1, h2⟩
  · have := usd_many (l.length + 1) h
    have := cntK_le l (l.length + 1)
    omega
  · exact ⟨k, slW_is h1 h2, h1, h2⟩

section
variable {l : List Wt} {sl : List Sl} {full : Int} {en : Ln → Option (Int × Int)} {cl : Int × Int × Int → Option Int} {n : Nat}
theorem BInv.least (h : BInv l sl full en cl n) {k : Nat} (h1 : ∀ j : Nat, j < k → usdW l ((j : Int) + 1) = true) (h2 : usdW l ((k : Int) + 1) = false) : full ≤ k ∧ k ≤ sl.length ∧ (∀ j (hj : j < sl.length), full ≤ j → j < k → sl[j].r.ms ≠ 0) ∧ (∀ hj : k < sl.length, sl[k].r = zRc) := by
  refine ⟨?_, ?_, fun j hj _ hjk => ?_, fun hj => h.free k hj h2⟩
  · by_cases hf : full ≤ k
    · exact hf
    · have := h.fl ((k : Int) + 1) (by omega) (by omega)
      rw [h2] at this
      cases this
  · by_cases hk : k ≤ sl.length
    · exact hk
    · obtain ⟨t, ht, _, hm⟩ := usdW_mem.1 (h1 sl.length (by omega))
      have := h.dom t ht
      omega
  · obtain ⟨t, ht, ho, hm⟩ := usdW_mem.1 (h1 j hjk)
    rw [h.live t ht ho j hj hm, hm]
    omega
theorem BInv.twice (h : BInv l sl full en cl n) (ws wg ar : Int) : (cl (ws, wg, ar)).isSome = twW l ws wg ar := by
  cases ht : twW l ws wg ar with
  | true =>
    unfold twW at ht
    rw [List.any_eq_true] at ht
    obtain ⟨t, h1, h2⟩ := ht
    unfold isWho at h2
    simp only [Bool.and_eq_true, Bool.not_eq_true', decide_eq_true_eq] at h2
    have := h.has t h1 h2.1.1
    unfold clT at this
    rw [h2.1.2.1, h2.1.2.2, h2.2] at this
    rw [this]
    rfl
  | false =>
    rw [h.not (ws, wg, ar) fun t ht' ho e => ?_]
    · rfl
    · have : twW l ws wg ar = true := by
        unfold twW
        rw [List.any_eq_true]
        unfold clT at e
        simp only [Prod.mk.injEq] at e
        exact ⟨t, ht', by simp [isWho, ho, e.1, e.2.1, e.2.2]⟩
      rw [ht] at this
      cases this
end

/-- the boxes of a Put -/
structure PB4 (w W : World) (rs rg rd ws wg vn vs vg : Int) : Prop where
  b0 : W.heap[w.heap.size]? = some (.cells #[.int .u32 rs, .int .u32 rg, .int .i64 rd] 44 (0, 0))
  b1 : W.heap[w.heap.size + 1]? = some (.cells #[.int .u32 ws, .int .u32 wg] 41 (0, 0))
  b2 : W.heap[w.heap.size + 2]? = some (.cells #[.int .i64 vn, .int .u32 vs, .int .u32 vg] 46 (0, 0))
  b3 : W.heap[w.heap.size + 3]? = some (.cells #[.int .u32 0, .int .u32 0] 41 (0, 0))
theorem PB4.ch {w W W' : World} {rs rg rd ws wg vn vs vg : Int} {Q : Nat → Prop} (h : PB4 w W rs rg rd ws wg vn vs vg) (hc : Ch Q W W') (hq : ∀ y, Q y → y < w.heap.size ∨ w.heap.size + 4 ≤ y) : PB4 w W' rs rg rd ws wg vn vs vg :=
  ⟨hc.box h.b0 (fun e => by have := hq _ e; omega), hc.box h.b1 (fun e => by have := hq _ e; omega), hc.box h.b2 (fun e => by have := hq _ e; omega), hc.box h.b3 (fun e => by have := hq _ e; omega)⟩
theorem PB4.cells {w W : World} {rs rg rd ws wg vn vs vg : Int} (h : PB4 w W rs rg rd ws wg vn vs vg) : W.cell? ⟨w.heap.size, 0, none⟩ = some (.int .u32 rs) ∧ W.cell? ⟨w.heap.size, 1, none⟩ = some (.int .u32 rg) ∧ W.cell? ⟨w.heap.size, 2, none⟩ = some (.int .i64 rd) ∧ W.cell? ⟨w.heap.size + 1, 0, none⟩ = some (.int .u32 ws) ∧ W.cell? ⟨w.heap.size + 1, 1, none⟩ = some (.int .u32 wg) ∧ W.cell? ⟨w.heap.size + 2, 0, none⟩ = some (.int .i64 vn) ∧ W.cell? ⟨w.heap.size + 2, 1, none⟩ = some (.int .u32 vs) ∧ W.cell? ⟨w.heap.size + 2, 2, none⟩ = some (.int .u32 vg) ∧ W.cell? ⟨w.heap.size + 3, 0, none⟩ = some (.int .u32 0) ∧ W.cell? ⟨w.heap.size + 3, 1, none⟩ = some (.int .u32 0) := by
  have k0 := Lib.cell_of_heap h.b0
  have k1 := Lib.cell_of_heap h.b1
  have k2 := Lib.cell_of_heap h.b2
  have k3 := Lib.cell_of_heap h.b3
  simp [k0, k1, k2, k3]
theorem PB4.new (w : World) (rs rg rd ws wg vn vs vg : Int) : PB4 w ((((w.alloc (.cells #[.int .u32 rs, .int .u32 rg, .int .i64 rd] 44)).alloc (.cells #[.int .u32 ws, .int .u32 wg] 41)).alloc (.cells #[.int .i64 vn, .int .u32 vs, .int .u32 vg] 46)).alloc (.cells #[.int .u32 0, .int .u32 0] 41)) rs rg rd ws wg vn vs vg := by
  have al : ∀ (W : World) (o : Obj) {b : Nat} {x : Obj}, W.heap[b]? = some x → (W.alloc o).heap[b]? = some x := fun W o b x h => (Ch.alloc (Q := fun _ => False) W o).box h (fun h => h)
  have nw : ∀ (W : World) (o : Obj) {b : Nat}, W.heap.size = b → (W.alloc o).heap[b]? = some o := fun W o b e => by rw [← e]; exact heap_new W o
  exact ⟨al _ _ (al _ _ (al _ _ (nw _ _ rfl))), al _ _ (al _ _ (nw _ _ (by simp))), al _ _ (nw _ _ (by simp)), nw _ _ (by simp)⟩
theorem resPutH (tm : Array Value) (A : Nat) (Z : World) (s g q : Int) (h10 : tm[10]?.getD undef = .pointer (some ⟨A, 0, none⟩)) (h11 : tm[11]?.getD undef = .int .i64 q) (c0 : Z.cell? ⟨A, 0, none⟩ = some (.int .u32 s)) (c1 : Z.cell? ⟨A, 1, none⟩ = some (.int .u32 g)) :
    (results Try.f17 tm).run Try.prog Z = .ok (.tuple #[hvW s g, .int .i64 q]) Z := by
  simp [results, Try.results17, go_sem, h10, h11, c0, c1]

end Go.Proofs.Ythnnpipekeanoaa

namespace Go.Proofs.Ythnnpipekeanoaa
open Go.RowKit

abbrev pf0 : Oper := { dst := some 32, op := Op.move (Operand.tmp 14), type := 86, pos := "waitq.go:60", after := #[], guard := none }
abbrev pf1 : Oper := { dst := some 33, op := Op.nilCheck (Operand.tmp 32), type := 0, pos := "waitq.go:60", after := #[{ on := 0, ground := Ground.data }], guard := none }
abbrev pf2 : Oper := { dst := some 34, op := Op.fieldAddr 92 (Operand.tmp 33) 0, type := 0, pos := "waitq.go:60", after := #[{ on := 1, ground := Ground.data }], guard := none }
abbrev pf3 : Oper := { dst := some 35, op := Op.load 39 (Operand.tmp 34), type := 39, pos := "waitq.go:60", after := #[{ on := 2, ground := Ground.data }], guard := none }
abbrev pf4 : Oper := { dst := some 36, op := Op.binOp BinOp.add 39 (Operand.tmp 35) (Operand.const (Value.int IntKind.u32 1)) 39, type := 39, pos := "waitq.go:60", after := #[{ on := 3, ground := Ground.data }], guard := none }
abbrev pf5 : Oper := { dst := some 37, op := Op.nilCheck (Operand.tmp 32), type := 0, pos := "waitq.go:60", after := #[{ on := 0, ground := Ground.data }, { on := 0, ground := Ground.phase }, { on := 1, ground := Ground.phase }, { on := 2, ground := Ground.phase }, { on := 3, ground := Ground.phase }, { on := 4, ground := Ground.phase }], guard := none }
abbrev pf6 : Oper := { dst := some 38, op := Op.fieldAddr 92 (Operand.tmp 37) 0, type := 0, pos := "waitq.go:60", after := #[{ on := 5, ground := Ground.data }, { on := 0, ground := Ground.phase }, { on := 1, ground := Ground.phase }, { on := 2, ground := Ground.phase }, { on := 3, ground := Ground.phase }, { on := 4, ground := Ground.phase }], guard := none }
abbrev pf7 : Oper := { dst := none, op := Op.store 39 (Operand.tmp 38) (Operand.tmp 36), type := 0, pos := "waitq.go:60", after := #[{ on := 6, ground := Ground.data }, { on := 4, ground := Ground.data }, { on := 0, ground := Ground.phase }, { on := 1, ground := Ground.phase }, { on := 2, ground := Ground.phase }, { on := 3, ground := Ground.phase }, { on := 4, ground := Ground.phase }], guard := none }
abbrev pk0 : Oper := { dst := some 39, op := Op.move (Operand.tmp 13), type := 39, pos := "waitq.go:61", after := #[], guard := none }
abbrev pk1 : Oper := { dst := some 40, op := Op.move (Operand.tmp 14), type := 86, pos := "waitq.go:61", after := #[], guard := none }
abbrev pk2 : Oper := { dst := some 41, op := Op.nilCheck (Operand.tmp 40), type := 0, pos := "waitq.go:61", after := #[{ on := 1, ground := Ground.data }], guard := none }
abbrev pk3 : Oper := { dst := some 42, op := Op.fieldAddr 92 (Operand.tmp 41) 0, type := 0, pos := "waitq.go:61", after := #[{ on := 2, ground := Ground.data }], guard := none }
abbrev pk4 : Oper := { dst := some 43, op := Op.load 39 (Operand.tmp 42), type := 39, pos := "waitq.go:61", after := #[{ on := 3, ground := Ground.data }], guard := none }
abbrev pk5 : Oper := { dst := some 44, op := Op.build 41 #[(0, Operand.tmp 39), (1, Operand.tmp 43)], type := 41, pos := "waitq.go:61", after := #[{ on := 0, ground := Ground.data }, { on := 4, ground := Ground.data }], guard := none }
abbrev pk6 : Oper := { dst := some 15, op := Op.alloc 41, type := 0, pos := "waitq.go:61", after := #[], guard := none }
abbrev pk7 : Oper := { dst := none, op := Op.store 41 (Operand.tmp 15) (Operand.tmp 44), type := 0, pos := "waitq.go:61", after := #[{ on := 6, ground := Ground.data }, { on := 5, ground := Ground.data }, { on := 0, ground := Ground.phase }, { on := 1, ground := Ground.phase }, { on := 2, ground := Ground.phase }, { on := 3, ground := Ground.phase }, { on := 4, ground := Ground.phase }, { on := 5, ground := Ground.phase }, { on := 6, ground := Ground.phase }], guard := none }
abbrev pl0 : Oper := { dst := some 45, op := Op.move (Operand.tmp 14), type := 86, pos := "waitq.go:62", after := #[], guard := none }
abbrev pl1 : Oper := { dst := some 46, op := Op.load 41 (Operand.tmp 15), type := 41, pos := "waitq.go:62", after := #[], guard := none }
abbrev pl2 : Oper := { dst := some 47, op := Op.load 41 (Operand.tmp 7), type := 41, pos := "waitq.go:62", after := #[], guard := none }
abbrev pl3 : Oper := { dst := some 48, op := Op.load 44 (Operand.tmp 6), type := 44, pos := "waitq.go:62", after := #[], guard := none }
abbrev pl4 : Oper := { dst := some 49, op := Op.move (Operand.tmp 3), type := 3, pos := "waitq.go:62", after := #[], guard := none }
abbrev pl5 : Oper := { dst := some 50, op := Op.load 46 (Operand.tmp 9), type := 46, pos := "waitq.go:62", after := #[], guard := none }
abbrev pl6 : Oper := { dst := some 51, op := Op.build 57 #[(0, Operand.tmp 46), (1, Operand.tmp 47), (2, Operand.tmp 48), (3, Operand.tmp 49), (4, Operand.tmp 50)], type := 57, pos := "waitq.go:62", after := #[{ on := 1, ground := Ground.data }, { on := 2, ground := Ground.data }, { on := 3, ground := Ground.data }, { on := 4, ground := Ground.data }, { on := 5, ground := Ground.data }], guard := none }
abbrev pl7 : Oper := { dst := some 52, op := Op.nilCheck (Operand.tmp 45), type := 0, pos := "waitq.go:62", after := #[{ on := 0, ground := Ground.data }, { on := 0, ground := Ground.phase }, { on := 1, ground := Ground.phase }, { on := 2, ground := Ground.phase }, { on := 3, ground := Ground.phase }, { on := 4, ground := Ground.phase }, { on := 5, ground := Ground.phase }, { on := 6, ground := Ground.phase }], guard := none }
abbrev pl8 : Oper := { dst := some 53, op := Op.fieldAddr 92 (Operand.tmp 52) 1, type := 0, pos := "waitq.go:62", after := #[{ on := 7, ground := Ground.data }, { on := 0, ground := Ground.phase }, { on := 1, ground := Ground.phase }, { on := 2, ground := Ground.phase }, { on := 3, ground := Ground.phase }, { on := 4, ground := Ground.phase }, { on := 5, ground := Ground.phase }, { on := 6, ground := Ground.phase }], guard := none }
abbrev pl9 : Oper := { dst := none, op := Op.store 57 (Operand.tmp 53) (Operand.tmp 51), type := 0, pos := "waitq.go:62", after := #[{ on := 8, ground := Ground.data }, { on := 6, ground := Ground.data }, { on := 0, ground := Ground.phase }, { on := 1, ground := Ground.phase }, { on := 2, ground := Ground.phase }, { on := 3, ground := Ground.phase }, { on := 4, ground := Ground.phase }, { on := 5, ground := Ground.phase }, { on := 6, ground := Ground.phase }], guard := none }

set_option maxRecDepth 100000 in
set_option maxHeartbeats 8000000 in
theorem put_r6 {u0 u1 u2 u3 u4 u5 u6 u7 u8 u9 u10 u11 u12 u13 u15 u16 u17 u18 u19 u20 u21 u22 u23 u24 u25 u26 u27 u28 u29 u30 u31 u32 u33 u34 u35 u36 u37 u38 u39 u40 u41 u42 u43 u44 u45 u46 u47 u48 u49 u50 u51 u52 u53 u54 u55 u56 u57 u58 u59 u60 u61 u62 u63 u64 u65 u66 u67 u68 u69 u70 u71 u72 u73 u74 u75 : Value} {W : World} {g k : Nat} {G G' : Int} (h0 : W.cell? ⟨g, k * 18, none⟩ = some (.int .u32 G)) (hf : W.frozen? ⟨g, k * 18, none⟩ = false) (hw : IntKind.u32.wrap (G + 1) = G')
    {K : Act → World → Prop} (hK0 : ∀ (u32 u33 u34 u35 u36 u37 u38 : Value), K { tmps := List.toArray (u0 :: u1 :: u2 :: u3 :: u4 :: u5 :: u6 :: u7 :: u8 :: u9 :: u10 :: u11 :: u12 :: u13 :: (.pointer (some ⟨g, k * 18, none⟩)) :: u15 :: u16 :: u17 :: u18 :: u19 :: u20 :: u21 :: u22 :: u23 :: u24 :: u25 :: u26 :: u27 :: u28 :: u29 :: u30 :: u31 :: u32 :: u33 :: u34 :: u35 :: u36 :: u37 :: u38 :: u39 :: u40 :: u41 :: u42 :: u43 :: u44 :: u45 :: u46 :: u47 :: u48 :: u49 :: u50 :: u51 :: u52 :: u53 :: u54 :: u55 :: u56 :: u57 :: u58 :: u59 :: u60 :: u61 :: u62 :: u63 :: u64 :: u65 :: u66 :: u67 :: u68 :: u69 :: u70 :: u71 :: u72 :: u73 :: u74 :: u75 :: []), defers := [] } (W.setCell ⟨g, k * 18, none⟩ (.int .u32 G'))) :
    (Code.region 6 #[pf0, pf1, pf2, pf3, pf4, pf5, pf6, pf7] false).wp Try.prog (Exit.then K (fun _ _ _ => False)) { tmps := List.toArray (u0 :: u1 :: u2 :: u3 :: u4 :: u5 :: u6 :: u7 :: u8 :: u9 :: u10 :: u11 :: u12 :: u13 :: (.pointer (some ⟨g, k * 18, none⟩)) :: u15 :: u16 :: u17 :: u18 :: u19 :: u20 :: u21 :: u22 :: u23 :: u24 :: u25 :: u26 :: u27 :: u28 :: u29 :: u30 :: u31 :: u32 :: u33 :: u34 :: u35 :: u36 :: u37 :: u38 :: u39 :: u40 :: u41 :: u42 :: u43 :: u44 :: u45 :: u46 :: u47 :: u48 :: u49 :: u50 :: u51 :: u52 :: u53 :: u54 :: u55 :: u56 :: u57 :: u58 :: u59 :: u60 :: u61 :: u62 :: u63 :: u64 :: u65 :: u66 :: u67 :: u68 :: u69 :: u70 :: u71 :: u72 :: u73 :: u74 :: u75 :: []), defers := [] } W := by
  have HK := hide hK0
  clear hK0
  go_wp2_with fail
  exact HK.out _ _ _ _ _ _ _

set_option maxRecDepth 100000 in
set_option maxHeartbeats 8000000 in
theorem put_r7 {u0 u1 u2 u3 u4 u5 u6 u7 u8 u9 u10 u11 u12 u16 u17 u18 u19 u20 u21 u22 u23 u24 u25 u26 u27 u28 u29 u30 u31 u32 u33 u34 u35 u36 u37 u38 u39 u40 u41 u42 u43 u44 u45 u46 u47 u48 u49 u50 u51 u52 u53 u54 u55 u56 u57 u58 u59 u60 u61 u62 u63 u64 u65 u66 u67 u68 u69 u70 u71 u72 u73 u74 u75 u15 : Value} {W : World} {g k : Nat} {G : Int} (h0 : W.cell? ⟨g, k * 18, none⟩ = some (.int .u32 G))
    {K : Act → World → Prop} (hK0 : ∀ (u39 u40 u41 u42 u43 u44 : Value), K { tmps := List.toArray (u0 :: u1 :: u2 :: u3 :: u4 :: u5 :: u6 :: u7 :: u8 :: u9 :: u10 :: u11 :: u12 :: (.int .u32 ((k : Int) + 1)) :: (.pointer (some ⟨g, k * 18, none⟩)) :: (.pointer (some ⟨W.heap.size, 0, none⟩)) :: u16 :: u17 :: u18 :: u19 :: u20 :: u21 :: u22 :: u23 :: u24 :: u25 :: u26 :: u27 :: u28 :: u29 :: u30 :: u31 :: u32 :: u33 :: u34 :: u35 :: u36 :: u37 :: u38 :: u39 :: u40 :: u41 :: u42 :: u43 :: u44 :: u45 :: u46 :: u47 :: u48 :: u49 :: u50 :: u51 :: u52 :: u53 :: u54 :: u55 :: u56 :: u57 :: u58 :: u59 :: u60 :: u61 :: u62 :: u63 :: u64 :: u65 :: u66 :: u67 :: u68 :: u69 :: u70 :: u71 :: u72 :: u73 :: u74 :: u75 :: []), defers := [] } (W.alloc (.cells #[.int .u32 ((k : Int) + 1), .int .u32 G] 41))) :
    (Code.region 7 #[pk0, pk1, pk2, pk3, pk4, pk5, pk6, pk7] false).wp Try.prog (Exit.then K (fun _ _ _ => False)) { tmps := List.toArray (u0 :: u1 :: u2 :: u3 :: u4 :: u5 :: u6 :: u7 :: u8 :: u9 :: u10 :: u11 :: u12 :: (.int .u32 ((k : Int) + 1)) :: (.pointer (some ⟨g, k * 18, none⟩)) :: u15 :: u16 :: u17 :: u18 :: u19 :: u20 :: u21 :: u22 :: u23 :: u24 :: u25 :: u26 :: u27 :: u28 :: u29 :: u30 :: u31 :: u32 :: u33 :: u34 :: u35 :: u36 :: u37 :: u38 :: u39 :: u40 :: u41 :: u42 :: u43 :: u44 :: u45 :: u46 :: u47 :: u48 :: u49 :: u50 :: u51 :: u52 :: u53 :: u54 :: u55 :: u56 :: u57 :: u58 :: u59 :: u60 :: u61 :: u62 :: u63 :: u64 :: u65 :: u66 :: u67 :: u68 :: u69 :: u70 :: u71 :: u72 :: u73 :: u74 :: u75 :: []), defers := [] } W := by
  have HK := hide hK0
  clear hK0
  go_wp2_with fail
  exact HK.out _ _ _ _ _ _

set_option maxRecDepth 100000 in
set_option maxHeartbeats 8000000 in
theorem put_r8 {u0 u1 u2 u4 u5 u8 u10 u11 u12 u13 u16 u17 u18 u19 u20 u21 u22 u23 u24 u25 u26 u27 u28 u29 u30 u31 u32 u33 u34 u35 u36 u37 u38 u39 u40 u41 u42 u43 u44 u45 u46 u47 u48 u49 u50 u51 u52 u53 u54 u55 u56 u57 u58 u59 u60 u61 u62 u63 u64 u65 u66 u67 u68 u69 u70 u71 u72 u73 u74 u75 : Value} {W : World} {g k a0 a1 a2 a5 : Nat} {r : Rc} (x0 : W.cell? ⟨a0, 0, none⟩ = some (.int .u32 r.rs)) (x1 : W.cell? ⟨a0, 1, none⟩ = some (.int .u32 r.rg)) (x2 : W.cell? ⟨a0, 2, none⟩ = some (.int .i64 r.rd)) (x3 : W.cell? ⟨a1, 0, none⟩ = some (.int .u32 r.ws)) (x4 : W.cell? ⟨a1, 1, none⟩ = some (.int .u32 r.wg)) (x5 : W.cell? ⟨a2, 0, none⟩ = some (.int .i64 r.vn)) (x6 : W.cell? ⟨a2, 1, none⟩ = some (.int .u32 r.vs)) (x7 : W.cell? ⟨a2, 2, none⟩ = some (.int .u32 r.vg)) (x8 : W.cell? ⟨a5, 0, none⟩ = some (.int .u32 r.ms)) (x9 : W.cell? ⟨a5, 1, none⟩ = some (.int .u32 r.mg)) (ht : W.there g (k * 18 + 1) 11)
    {K : Act → World → Prop} (hK0 : ∀ (u45 u46 u47 u48 u49 u50 u51 u52 u53 : Value), K { tmps := List.toArray (u0 :: u1 :: u2 :: (.int .i64 r.ar) :: u4 :: u5 :: (.pointer (some ⟨a0, 0, none⟩)) :: (.pointer (some ⟨a1, 0, none⟩)) :: u8 :: (.pointer (some ⟨a2, 0, none⟩)) :: u10 :: u11 :: u12 :: u13 :: (.pointer (some ⟨g, k * 18, none⟩)) :: (.pointer (some ⟨a5, 0, none⟩)) :: u16 :: u17 :: u18 :: u19 :: u20 :: u21 :: u22 :: u23 :: u24 :: u25 :: u26 :: u27 :: u28 :: u29 :: u30 :: u31 :: u32 :: u33 :: u34 :: u35 :: u36 :: u37 :: u38 :: u39 :: u40 :: u41 :: u42 :: u43 :: u44 :: u45 :: u46 :: u47 :: u48 :: u49 :: u50 :: u51 :: u52 :: u53 :: u54 :: u55 :: u56 :: u57 :: u58 :: u59 :: u60 :: u61 :: u62 :: u63 :: u64 :: u65 :: u66 :: u67 :: u68 :: u69 :: u70 :: u71 :: u72 :: u73 :: u74 :: u75 :: []), defers := [] } (wrs W g k (layO r))) :
    (Code.region 8 #[pl0, pl1, pl2, pl3, pl4, pl5, pl6, pl7, pl8, pl9] false).wp Try.prog (Exit.then K (fun _ _ _ => False)) { tmps := List.toArray (u0 :: u1 :: u2 :: (.int .i64 r.ar) :: u4 :: u5 :: (.pointer (some ⟨a0, 0, none⟩)) :: (.pointer (some ⟨a1, 0, none⟩)) :: u8 :: (.pointer (some ⟨a2, 0, none⟩)) :: u10 :: u11 :: u12 :: u13 :: (.pointer (some ⟨g, k * 18, none⟩)) :: (.pointer (some ⟨a5, 0, none⟩)) :: u16 :: u17 :: u18 :: u19 :: u20 :: u21 :: u22 :: u23 :: u24 :: u25 :: u26 :: u27 :: u28 :: u29 :: u30 :: u31 :: u32 :: u33 :: u34 :: u35 :: u36 :: u37 :: u38 :: u39 :: u40 :: u41 :: u42 :: u43 :: u44 :: u45 :: u46 :: u47 :: u48 :: u49 :: u50 :: u51 :: u52 :: u53 :: u54 :: u55 :: u56 :: u57 :: u58 :: u59 :: u60 :: u61 :: u62 :: u63 :: u64 :: u65 :: u66 :: u67 :: u68 :: u69 :: u70 :: u71 :: u72 :: u73 :: u74 :: u75 :: []), defers := [] } W := by
  have HK := hide hK0
  clear hK0
  refine wp_region_list ?_
  refine wpList_plain rfl fun K0 hK0 => ?_
  go_simp
  refine hK0 _ _ ?_
  clear hK0 K0
  refine wpList_plain rfl fun K1 hK1 => ?_
  go_simp
  refine hK1 _ _ ?_
  clear hK1 K1
  refine wpList_plain rfl fun K2 hK2 => ?_
  go_simp
  refine hK2 _ _ ?_
  clear hK2 K2
  refine wpList_plain rfl fun K3 hK3 => ?_
  go_simp
  refine hK3 _ _ ?_
  clear hK3 K3
  refine wpList_plain rfl fun K4 hK4 => ?_
  go_simp
  refine hK4 _ _ ?_
  clear hK4 K4
  refine wpList_plain rfl fun K5 hK5 => ?_
  go_simp
  refine hK5 _ _ ?_
  clear hK5 K5
  refine wpList_plain rfl fun K6 hK6 => ?_
  go_simp
  refine hK6 _ _ ?_
  clear hK6 K6
  refine wpList_plain rfl fun K7 hK7 => ?_
  go_simp
  refine hK7 _ _ ?_
  clear hK7 K7
  refine wpList_plain rfl fun K8 hK8 => ?_
  go_simp
  refine hK8 _ _ ?_
  clear hK8 K8
  refine wpList_store_mid rfl 57 (.tmp 53) (.tmp 51) rfl g (k * 18 + 1) #[.int .u32 r.ms, .int .u32 r.mg, .int .u32 r.ws, .int .u32 r.wg, .int .u32 r.rs, .int .u32 r.rg, .int .i64 r.rd, .int .i64 r.ar, .int .i64 r.vn, .int .u32 r.vs, .int .u32 r.vg] rfl rfl ht (by kernel_rfl) (lay_one r) ?_
  exact HK.out _ _ _ _ _ _ _ _ _

end Go.Proofs.Ythnnpipekeanoaa

namespace Go.Proofs.Ythnnpipekeanoaa
open Go.RowKit

abbrev pm0 : Oper := { dst := some 54, op := Op.move (Operand.tmp 0), type := 25, pos := "waitq.go:63", after := #[], guard := none }
abbrev pm1 : Oper := { dst := some 55, op := Op.nilCheck (Operand.tmp 54), type := 0, pos := "waitq.go:63", after := #[{ on := 0, ground := Ground.data }], guard := none }
abbrev pm2 : Oper := { dst := some 56, op := Op.fieldAddr 73 (Operand.tmp 55) 3, type := 0, pos := "waitq.go:63", after := #[{ on := 1, ground := Ground.data }], guard := none }
abbrev pm3 : Oper := { dst := some 57, op := Op.load 70 (Operand.tmp 56), type := 70, pos := "waitq.go:63", after := #[{ on := 2, ground := Ground.data }], guard := none }
abbrev pm4 : Oper := { dst := some 58, op := Op.load 41 (Operand.tmp 7), type := 41, pos := "waitq.go:63", after := #[], guard := none }
abbrev pm5 : Oper := { dst := some 59, op := Op.move (Operand.tmp 3), type := 3, pos := "waitq.go:63", after := #[], guard := none }
abbrev pm6 : Oper := { dst := some 60, op := Op.build 94 #[(0, Operand.tmp 58), (1, Operand.tmp 59)], type := 94, pos := "waitq.go:63", after := #[{ on := 4, ground := Ground.data }, { on := 5, ground := Ground.data }], guard := none }
abbrev pm7 : Oper := { dst := some 61, op := Op.move (Operand.tmp 13), type := 39, pos := "waitq.go:63", after := #[], guard := none }
abbrev pm8 : Oper := { dst := none, op := Op.mapUpdate 70 (Operand.tmp 57) (Operand.tmp 60) (Operand.tmp 61), type := 0, pos := "waitq.go:63", after := #[{ on := 3, ground := Ground.data }, { on := 6, ground := Ground.data }, { on := 7, ground := Ground.data }, { on := 0, ground := Ground.phase }, { on := 1, ground := Ground.phase }, { on := 2, ground := Ground.phase }, { on := 3, ground := Ground.phase }, { on := 4, ground := Ground.phase }, { on := 5, ground := Ground.phase }, { on := 6, ground := Ground.phase }, { on := 7, ground := Ground.phase }], guard := none }

/-- Put, on its way: the book, its boxes, the handle -/
structure PuS (w W : World) (B p g len c M C : Nat) (sl : List Sl) (full : Int) (en : Ln → Option (Int × Int)) (cl : Int × Int × Int → Option Int) (n a5 : Nat) (rs rg rd ws wg vn vs vg s G : Int) (wv : Value) : Prop where
  bk : Bk W B p (.slice (some ⟨g, 0, none⟩) len c) M C sl full en cl n
  pb : PB4 w W rs rg rd ws wg vn vs vg
  n5 : W.heap[a5]? = some (.cells #[.int .u32 s, .int .u32 G] 41 (0, 0))
  lo : ∀ y, bkF p M C (.slice (some ⟨g, 0, none⟩) len c) y → y < w.heap.size ∨ w.heap.size + 4 ≤ y
  ch : Ch (bkF p M C wv) w W
  ow : g < w.heap.size → wv.ownBlock = some g
  l5 : w.heap.size + 4 ≤ a5

section
variable {w W W' : World} {B p g len c M C n a5 : Nat} {sl : List Sl} {full : Int} {en en' : Ln → Option (Int × Int)} {cl : Int × Int × Int → Option Int} {rs rg rd ws wg vn vs vg s G : Int} {wv : Value}
theorem PuS.quiet (h : PuS w W B p g len c M C sl full en cl n a5 rs rg rd ws wg vn vs vg s G wv) (hc : Ch (fun _ => False) W W') : PuS w W' B p g len c M C sl full en cl n a5 rs rg rd ws wg vn vs vg s G wv :=
  ⟨h.bk.ch hc (fun _ _ h => h), h.pb.ch hc (fun _ h => h.elim), hc.box h.n5 (fun h => h), h.lo, h.ch.trans hc (fun _ _ h => h.elim), h.ow, h.l5⟩
theorem PuS.book {sl' : List Sl} (h : PuS w W B p g len c M C sl full en cl n a5 rs rg rd ws wg vn vs vg s G wv) (hb : Bk W' B p (.slice (some ⟨g, 0, none⟩) len c) M C sl' full en' cl n) (hc : Ch (fun y => y = M ∨ (Value.slice (some ⟨g, 0, none⟩) len c).ownBlock = some y) W W') : PuS w W' B p g len c M C sl' full en' cl n a5 rs rg rd ws wg vn vs vg s G wv := by
  refine ⟨hb, h.pb.ch hc (fun y e => h.lo y (e.elim (fun e => Or.inr (Or.inl e)) (fun e => Or.inr (Or.inr (Or.inr e))))), hc.box h.n5 ?_, h.lo, h.ch.trans hc (fun y hy e => ?_), h.ow, h.l5⟩
  · rintro (e | e)
    · obtain ⟨_, m⟩ := h.bk.mp
      exact m.ne_cells h.n5 e
    · exact own_box h.bk.row h.n5 (by decide) e
  · rcases e with e | e
    · exact Or.inr (Or.inl e)
    · cases e
      exact Or.inr (Or.inr (Or.inr (h.ow hy)))
end
theorem lkS_keep (sl : List Sl) (s : Int) {f : Sl → Sl} (hf : ∀ x, (f x).lk = x.lk) : lkS (modS sl s f) = lkS sl := by
  funext k x
  unfold lkS modS
  split
  · rw [List.getElem?_modify]
    cases h : sl[(x - 1).toNat]? with
    | none => rfl
    | some z =>
      simp only [Option.map_some, Option.getD_some]
      split
      · show (f z).lk k = _
        rw [hf]
      · rfl
  · rfl
theorem lkS_app (sl : List Sl) (z : Sl) {k : Nat} {s : Int} (h1 : 0 < s) (h2 : s ≤ sl.length) : lkS (sl ++ [z]) k s = lkS sl k s := by
  unfold lkS
  rw [List.getElem?_append_left (by omega)]
theorem putM_ok {Mb : Ln → List Int} (r : Rc) (s : Int) {k : Nat} (hk : k < 3) (h : ∀ x, s ∉ Mb x) : ∀ y, y.k = (lnOf k r).k → s ∉ putM Mb r s k y := by
  intro y hy
  rw [lnOf_k k hk] at hy
  rw [putM_le _ _ _ k (by omega), if_neg (by omega)]
  exact h y
theorem putM_bd {Mb : Ln → List Int} (r : Rc) {s : Int} {k len : Nat} (hk : k ≤ 3) (hs : s ≤ len) (h : ∀ x, ∀ t ∈ Mb x, t ≤ len) : ∀ x, ∀ t ∈ putM Mb r s k x, t ≤ len := by
  intro x t ht
  rw [putM_le _ _ _ k hk] at ht
  split at ht
  · rcases List.mem_append.1 ht with ht | ht
    · exact h x t ht
    · rw [List.mem_singleton.1 ht]; exact hs
  · exact h x t ht

set_option maxRecDepth 100000 in
set_option maxHeartbeats 16000000 in
theorem put_b {w : World} {B p M C n : Nat} {wv : Value} {l : List Wt} {sl : List Sl} {full : Int} {en : Ln → Option (Int × Int)} {cl : Int × Int × Int → Option Int} (hb : Bk w B p wv M C sl full en cl n) (hll : l.length ≤ 100000) (hsl : sl.length ≤ l.length) (hB : B ≤ w.heap.size) (hi : BInv l sl full en cl n) (rs rg rd ws wg ar vn vs vg : Int) :
    Calls Try.prog 17 #[.pointer (some ⟨p, 0, none⟩), rvW rs rg rd, hvW ws wg, .int .i64 ar, .agg #[.int .i64 vn, .int .u32 vs, .int .u32 vg]] w fun e w' => e = .returned (.tuple #[hvW (psW l ws wg rd ar) (pgW l ws wg rd ar), .int .i64 (ecW l ws wg rd ar)]) ∧ ∃ wv' sl' full' en' cl' n', Bk w' B p wv' M C sl' full' en' cl' n' ∧ BInv (putW l rs rg rd ws wg ar vn vs vg) sl' full' en' cl' n' ∧ sl'.length ≤ (putW l rs rg rd ws wg ar vn vs vg).length ∧ Ch (bkF p M C wv) w w' ∧ ∀ x, wv'.ownBlock = some x → wv.ownBlock = some x ∨ w.heap.size ≤ x := by
  obtain ⟨w1, hw1⟩ : ∃ w1, (((w.alloc (.cells #[.int .u32 rs, .int .u32 rg, .int .i64 rd] 44)).alloc (.cells #[.int .u32 ws, .int .u32 wg] 41)).alloc (.cells #[.int .i64 vn, .int .u32 vs, .int .u32 vg] 46)).alloc (.cells #[.int .u32 0, .int .u32 0] 41) = w1 := ⟨_, rfl⟩
  have hB1 : Below w.heap.size w w1 := by rw [← hw1]; exact (((below1 _ _).trans ((below1 _ _).mono (by simp))).trans ((below1 _ _).mono (by simp; omega))).trans ((below1 _ _).mono (by simp; omega))
  have s1 : w1.heap.size = w.heap.size + 4 := by rw [← hw1]; simp
  have HP1 := hide (show PB4 w w1 rs rg rd ws wg vn vs vg by rw [← hw1]; exact PB4.new ..)
  obtain ⟨x0, x1, x2, x3, x4, -⟩ := HP1.out.cells
  have HB := hide hB1
  have HK := hide (hb.below hB1)
  have HF := hide (fun y hy => (hb.foot y hy).2)
  have HI := hide hi
  have HS := hide s1
  have hec : ecC cl ws wg rd ar = ecW l ws wg rd ar := by unfold ecC ecW; rw [hi.twice]
  clear hB1 hb hi s1
  go_enter Try.func17, Try.ntmps17
  go_wp2_with fail
  refine (refuse_is HK.out rs rg rd ws wg ar).mono ?_
  rintro e W2 ⟨rfl, h2⟩
  rw [hec]
  have C2 := hide (Ch.of_below (Q := fun _ => False) h2)
  have P2 := hide (HP1.out.ch C2.out (fun _ h => h.elim))
  have BW := hide (HK.out.below h2)
  clear h2 hw1 x0 x1 x2 x3 x4
  by_cases he : ecW l ws wg rd ar = 0
  · obtain ⟨k, hk1, hk2, hk3⟩ := slW_spec l
    obtain ⟨m1, m2, m3, m4⟩ := HI.out.least hk2 hk3
    obtain ⟨f, rfl⟩ : ∃ f : Nat, full = (f : Int) := ⟨full.toNat, by have := HI.out.full0; omega⟩
    have HKP := hide (And.intro hk1 (And.intro hk2 (And.intro hk3 (And.intro m2 he))))
    have HLE := hide (least_is BW.out (by omega) (by have := C2.out.size; have := HS.out; omega) (by omega) m2 (fun j hj h1 h2 => m3 j hj (by omega) h2) m4)
    rw [he]
    clear hk1 hk2 hk3 m1 m2 m3 m4 he hec
    go_wp2_with fail
    refine HLE.out.mono ?_
    rintro e W3 ⟨rfl, wv3, sl1, hs1, hk, b3, c3, o3⟩
    obtain ⟨g, c, -, rfl, -⟩ := b3.at (by omega)
    obtain ⟨len, hlen⟩ : ∃ x, sl1.length = x := ⟨_, rfl⟩
    rw [hlen] at b3 hk o3
    have hl1 : len ≤ 100001 := by
      rcases hs1 with rfl | ⟨_, rfl⟩
      · omega
      · rw [List.length_append, List.length_singleton] at hlen
        omega
    have lo3 : ∀ y, bkF p M C (.slice (some ⟨g, 0, none⟩) len c) y → y < w.heap.size ∨ w.heap.size + 4 ≤ y := fun y hy => by
      rcases hy with hy | hy | hy | hy
      · exact Or.inl (HF.out y (Or.inl hy))
      · exact Or.inl (HF.out y (Or.inr (Or.inl hy)))
      · exact Or.inl (HF.out y (Or.inr (Or.inr (Or.inl hy))))
      · rcases o3 y hy with e | e
        · exact Or.inl (HF.out y (Or.inr (Or.inr (Or.inr e))))
        · have := C2.out.size
          have := HS.out
          omega
    have P3 := hide (P2.out.ch c3 (fun y e => Or.inl (e.elim (fun e => HF.out y (Or.inl e)) (fun e => HF.out y (Or.inr (Or.inr (Or.inr e)))))))
    have CH3 := hide (((Ch.of_below (Q := bkF p M C wv) HB.out).trans C2.out (fun _ _ h => h.elim)).trans c3 (fun y _ e => e.elim (fun e => Or.inl e) (fun e => Or.inr (Or.inr (Or.inr e)))))
    have B3 := hide b3
    have HLO := hide lo3
    have HO := hide (show g < w.heap.size → wv.ownBlock = some g from fun hg => (o3 g rfl).resolve_right (by have := C2.out.size; have := HS.out; omega))
    have HL1 := hide (And.intro hs1 hlen)
    have x0 := b3.cells.1
    have hkl : k < sl1.length := by rw [hlen]; exact hk
    obtain ⟨G0, hG0⟩ : ∃ G0, sl1[k].g = G0 := ⟨_, rfl⟩
    have hgl := genW_le l ((k : Int) + 1)
    have hG : G0 = (genW l ((k : Int) + 1) : Int) := by
      rw [← hG0]
      rcases hs1 with rfl | ⟨hkk, rfl⟩
      · exact HI.out.gen k hkl
      · have : (sl ++ [zSl 0])[k] = zSl 0 := by rw [List.getElem_append_right (by omega)]; simp
        rw [this]
        show (0 : Int) = _
        have : genW l ((k : Int) + 1) = 0 := by
          unfold genW
          rw [List.countP_eq_zero]
          intro t ht
          have := HI.out.dom t ht
          simp
          omega
        omega
    obtain ⟨G, hGe⟩ : ∃ G, G0 + 1 = G := ⟨_, rfl⟩
    have hwr : IntKind.u32.wrap (G0 + 1) = G := by rw [IntKind.wrap_u32]; omega
    have y0 : W3.cell? ⟨g, k * 18, none⟩ = some (.int .u32 G0) := by
      have := b3
      rw [← hlen] at this
      exact (this.cell hkl (j := 0) (u := .int .u32 G0) (by rw [← hG0]; rfl) rfl).1
    have yf : W3.frozen? ⟨g, k * 18, none⟩ = false := by
      have := b3
      rw [← hlen] at this
      exact (this.cell hkl (j := 0) (u := .int .u32 G0) (by rw [← hG0]; rfl) rfl).2
    have HGG := hide (And.intro hG0 (And.intro hG hGe))
    clear b3 c3 o3 lo3 hs1 hG0 hG hgl
    go_wp2_with fail
    refine (at_is x0 hk hl1).mono ?_
    rintro e W ⟨rfl, rfl⟩
    dsimp only
    first | refine wp_anyH (put_r6 y0 yf hwr ?_) | (go_step; (first | refine wp_anyH (put_r6 y0 yf hwr ?_) | (go_step; (first | refine wp_anyH (put_r6 y0 yf hwr ?_) | (go_step; (first | refine wp_anyH (put_r6 y0 yf hwr ?_) | (go_step; (first | refine wp_anyH (put_r6 y0 yf hwr ?_) | (go_step; (first | refine wp_anyH (put_r6 y0 yf hwr ?_) | (go_step; (first | refine wp_anyH (put_r6 y0 yf hwr ?_) | (go_step; (first | refine wp_anyH (put_r6 y0 yf hwr ?_) | (go_step; (first | refine wp_anyH (put_r6 y0 yf hwr ?_) | (go_step; (first | refine wp_anyH (put_r6 y0 yf hwr ?_) | (go_step; refine wp_anyH (put_r6 y0 yf hwr ?_))))))))))))))))))))
    intros
    dsimp only [Exit.inBlock, Exit.then]
    have y0' : (W3.setCell ⟨g, k * 18, none⟩ (.int .u32 G)).cell? ⟨g, k * 18, none⟩ = some (.int .u32 G) := by simp [go_sem, y0]
    have B4 := B3.out.setL (i := k) HL1.out.2 hk (j := 0) (by omega) (u := .int .u32 G) (fun x => { x with g := G }) (fun _ => rfl) rfl
    have c4 := Ch.set (Q := fun y => y = g) W3 rfl (k * 18) (.int .u32 G)
    refine genK (R := fun W => W.cell? ⟨g, k * 18, none⟩ = some (.int .u32 G) ∧ Bk W B p (.slice (some ⟨g, 0, none⟩) len c) M C (modS sl1 ((k : Int) + 1) (fun x => { x with g := G })) ((k : Int) + 1) en cl n ∧ PB4 w W rs rg rd ws wg vn vs vg ∧ Ch (bkF p M C wv) w W) ⟨y0', B4, P3.out.ch c4 (fun y (e : y = g) => HLO.out y (Or.inr (Or.inr (Or.inr (by rw [e]; rfl))))), CH3.out.trans c4 (fun y hy (e : y = g) => Or.inr (Or.inr (Or.inr (by subst e; exact HO.out hy))))⟩ ?_
    rintro W4 ⟨z0, b4, p4, ch4⟩
    clear y0 yf y0' B4 c4 hwr
    first | refine wp_anyH (put_r7 z0 ?_) | (go_step; (first | refine wp_anyH (put_r7 z0 ?_) | (go_step; (first | refine wp_anyH (put_r7 z0 ?_) | (go_step; (first | refine wp_anyH (put_r7 z0 ?_) | (go_step; (first | refine wp_anyH (put_r7 z0 ?_) | (go_step; (first | refine wp_anyH (put_r7 z0 ?_) | (go_step; (first | refine wp_anyH (put_r7 z0 ?_) | (go_step; (first | refine wp_anyH (put_r7 z0 ?_) | (go_step; (first | refine wp_anyH (put_r7 z0 ?_) | (go_step; (first | refine wp_anyH (put_r7 z0 ?_) | (go_step; refine wp_anyH (put_r7 z0 ?_))))))))))))))))))))
    intros
    dsimp only [Exit.inBlock, Exit.then]
    obtain ⟨a5, ha5⟩ : ∃ a5, W4.heap.size = a5 := ⟨_, rfl⟩
    rw [ha5]
    have hsz : w.heap.size + 4 ≤ a5 := by have := (Array.getElem?_eq_some_iff.1 p4.b3).1; omega
    refine genK (R := fun W => PuS w W B p g len c M C (modS sl1 ((k : Int) + 1) (fun x => { x with g := G })) ((k : Int) + 1) en cl n a5 rs rg rd ws wg vn vs vg ((k : Int) + 1) G wv) ⟨b4.below (below1 _ _), p4.ch (Ch.alloc (Q := fun _ => False) _ _) (fun _ h => h.elim), by rw [← ha5]; exact heap_new _ _, HLO.out, ch4.trans (Ch.alloc (Q := fun _ => False) _ _) (fun _ _ h => h.elim), HO.out, hsz⟩ ?_
    rintro W5 p5
    clear z0 b4 p4 ch4 ha5 hsz
    have P5 := hide p5
    clear p5
    obtain ⟨t0, t1, t2, t3, t4, t5, t6, t7, t8, t9⟩ := P5.out.pb.cells
    have t10 : W5.cell? ⟨a5, 0, none⟩ = some (.int .u32 ((k : Int) + 1)) := by simp [Lib.cell_of_heap P5.out.n5]
    have t11 : W5.cell? ⟨a5, 1, none⟩ = some (.int .u32 G) := by simp [Lib.cell_of_heap P5.out.n5]
    have hth := P5.out.bk.there (i := k) (by rw [modS_len]; exact HL1.out.2) hk 1 11 (by omega)
    first | refine wp_anyH (put_r8 (r := ⟨(k : Int) + 1, G, ws, wg, rs, rg, rd, ar, vn, vs, vg⟩) t0 t1 t2 t3 t4 t5 t6 t7 t10 t11 hth ?_) | (go_step; (first | refine wp_anyH (put_r8 (r := ⟨(k : Int) + 1, G, ws, wg, rs, rg, rd, ar, vn, vs, vg⟩) t0 t1 t2 t3 t4 t5 t6 t7 t10 t11 hth ?_) | (go_step; (first | refine wp_anyH (put_r8 (r := ⟨(k : Int) + 1, G, ws, wg, rs, rg, rd, ar, vn, vs, vg⟩) t0 t1 t2 t3 t4 t5 t6 t7 t10 t11 hth ?_) | (go_step; (first | refine wp_anyH (put_r8 (r := ⟨(k : Int) + 1, G, ws, wg, rs, rg, rd, ar, vn, vs, vg⟩) t0 t1 t2 t3 t4 t5 t6 t7 t10 t11 hth ?_) | (go_step; (first | refine wp_anyH (put_r8 (r := ⟨(k : Int) + 1, G, ws, wg, rs, rg, rd, ar, vn, vs, vg⟩) t0 t1 t2 t3 t4 t5 t6 t7 t10 t11 hth ?_) | (go_step; (first | refine wp_anyH (put_r8 (r := ⟨(k : Int) + 1, G, ws, wg, rs, rg, rd, ar, vn, vs, vg⟩) t0 t1 t2 t3 t4 t5 t6 t7 t10 t11 hth ?_) | (go_step; (first | refine wp_anyH (put_r8 (r := ⟨(k : Int) + 1, G, ws, wg, rs, rg, rd, ar, vn, vs, vg⟩) t0 t1 t2 t3 t4 t5 t6 t7 t10 t11 hth ?_) | (go_step; (first | refine wp_anyH (put_r8 (r := ⟨(k : Int) + 1, G, ws, wg, rs, rg, rd, ar, vn, vs, vg⟩) t0 t1 t2 t3 t4 t5 t6 t7 t10 t11 hth ?_) | (go_step; (first | refine wp_anyH (put_r8 (r := ⟨(k : Int) + 1, G, ws, wg, rs, rg, rd, ar, vn, vs, vg⟩) t0 t1 t2 t3 t4 t5 t6 t7 t10 t11 hth ?_) | (go_step; (first | refine wp_anyH (put_r8 (r := ⟨(k : Int) + 1, G, ws, wg, rs, rg, rd, ar, vn, vs, vg⟩) t0 t1 t2 t3 t4 t5 t6 t7 t10 t11 hth ?_) | (go_step; refine wp_anyH (put_r8 (r := ⟨(k : Int) + 1, G, ws, wg, rs, rg, rd, ar, vn, vs, vg⟩) t0 t1 t2 t3 t4 t5 t6 t7 t10 t11 hth ?_))))))))))))))))))))
    intros
    dsimp only [Exit.inBlock, Exit.then]
    obtain ⟨sl2, hsl2⟩ : ∃ x, modS (modS sl1 ((k : Int) + 1) (fun x => { x with g := G })) ((k : Int) + 1) (fun x => { x with r := ⟨(k : Int) + 1, G, ws, wg, rs, rg, rd, ar, vn, vs, vg⟩ }) = x := ⟨_, rfl⟩
    have B6 := Bk.many hk (layO ⟨(k : Int) + 1, G, ws, wg, rs, rg, rd, ar, vn, vs, vg⟩) W5 _ (lay_good _) P5.out.bk (by rw [modS_len]; exact HL1.out.2)
    have B6 : Bk (wrs W5 g k (layO ⟨(k : Int) + 1, G, ws, wg, rs, rg, rd, ar, vn, vs, vg⟩)) B p (.slice (some ⟨g, 0, none⟩) len c) M C sl2 ((k : Int) + 1) en cl n := by rw [← hsl2]; exact B6
    have c6 := wrs_ch (fun y => y = g) rfl k (layO ⟨(k : Int) + 1, G, ws, wg, rs, rg, rd, ar, vn, vs, vg⟩) W5
    have c6' : Ch (fun y => y = M ∨ (Value.slice (some ⟨g, 0, none⟩) len c).ownBlock = some y) W5 (wrs W5 g k (layO ⟨(k : Int) + 1, G, ws, wg, rs, rg, rd, ar, vn, vs, vg⟩)) := c6.mono (fun y _ (e : y = g) => Or.inr (by rw [e]; rfl))
    refine genK (R := fun W => PuS w W B p g len c M C sl2 ((k : Int) + 1) en cl n a5 rs rg rd ws wg vn vs vg ((k : Int) + 1) G wv) (P5.out.book B6 c6') ?_
    rintro W8 p8
    have P8 := hide p8
    have HSL2 := hide hsl2
    have HNS := hide (show (if (cl (ws, wg, ar)).isSome then n else n + 1) = n + 1 by
      rw [HI.out.twice]
      have h0 := HKP.out.2.2.2.2
      unfold ecW at h0
      by_cases q1 : ws = 0 ∧ wg = 0
      · rw [if_pos q1] at h0; omega
      · rw [if_neg q1] at h0
        by_cases q2 : rd < 1 ∨ 4 < rd
        · rw [if_pos q2] at h0; omega
        · rw [if_neg q2] at h0
          cases q3 : twW l ws wg ar with
          | true => rw [q3] at h0; simp at h0
          | false => rfl)
    clear p8 hsl2 B6 c6 c6' t0 t1 t2 t3 t4 t5 t6 t7 t8 t9 t10 t11 hth P5
    go_wp2_with fail
    refine wp_reg (fun y => y = C) (R := fun W => PuS w W B p g len c M C sl2 ((k : Int) + 1) en cl n a5 rs rg rd ws wg vn vs vg ((k : Int) + 1) G wv) (by kernel_rfl) (P8.out.quiet (Ch.drew _)) ?_
    rintro V v zk
    have PV := hide v
    clear v
    have HG := hide (fun wq (zq : Ch (fun y => y = C) V wq) => show wq.cell? ⟨p, 3, none⟩ = some (.map (some C)) ∧ wq.cell? ⟨w.heap.size + 1, 0, none⟩ = some (.int .u32 ws) ∧ wq.cell? ⟨w.heap.size + 1, 1, none⟩ = some (.int .u32 wg) from by
      have k1 := Lib.cell_of_heap (zq.box PV.out.bk.box PV.out.bk.apart.2.1)
      have k2 := Lib.cell_of_heap (zq.box PV.out.pb.b1 (PV.out.bk.cm.ne_cells PV.out.pb.b1))
      exact ⟨by simp [k1], by simp [k2], by simp [k2]⟩)
    apply tk 0 pm0 rfl (by kernel_rfl) (fun _ _ _ h => h) zk
    · intro wq zq
      go_simp
      try rfl
    go_frame
    apply tk 1 pm1 rfl (by kernel_rfl) (fun _ _ _ h => h) zk
    · intro wq zq
      go_simp
      try rfl
    go_frame
    apply tk 2 pm2 rfl (by kernel_rfl) (fun _ _ _ h => h) zk
    · intro wq zq
      go_simp
      try rfl
    go_frame
    apply tk 3 pm3 rfl (by kernel_rfl) (fun _ _ _ h => h) zk
    · intro wq zq
      obtain ⟨s1, s2, s3⟩ := HG.out _ zq
      go_simp
      try rfl
    go_frame
    apply tk 4 pm4 rfl (by kernel_rfl) (fun _ _ _ h => h) zk
    · intro wq zq
      obtain ⟨s1, s2, s3⟩ := HG.out _ zq
      go_simp
      try rfl
    go_frame
    apply tk 5 pm5 rfl (by kernel_rfl) (fun _ _ _ h => h) zk
    · intro wq zq
      go_simp
      try rfl
    go_frame
    apply tk 6 pm6 rfl (by kernel_rfl) (fun _ _ _ h => h) zk
    · intro wq zq
      go_simp
      try rfl
    go_frame
    apply tk 7 pm7 rfl (by kernel_rfl) (fun _ _ _ h => h) zk
    · intro wq zq
      go_simp
      try rfl
    go_frame
    refine Go.Proofs.Ythnnpipekeanoaa.rd 8 pm8 rfl (by kernel_rfl) fun K hK => ?_
    refine step_putC (x := (ws, wg, ar)) (s := (k : Int) + 1) rfl (.tmp 57) (.tmp 60) (.tmp 61) rfl rfl PV.out.bk.cm rfl rfl (fun W9 m9 c9 => ?_)
    have P9 := hide (show PuS w W9 B p g len c M C sl2 ((k : Int) + 1) en (updW cl (ws, wg, ar) (some ((k : Int) + 1))) (n + 1) a5 rs rg rd ws wg vn vs vg ((k : Int) + 1) G wv from by
      rw [HNS.out] at m9
      exact ⟨PV.out.bk.claims m9 c9, PV.out.pb.ch c9 (fun y (e : y = C) => PV.out.lo y (Or.inr (Or.inr (Or.inl e)))), c9.box PV.out.n5 (PV.out.bk.cm.ne_cells PV.out.n5), PV.out.lo, PV.out.ch.trans c9 (fun y _ (e : y = C) => Or.inr (Or.inr (Or.inl e))), PV.out.ow, PV.out.l5⟩)
    refine hK.out _ _ c9 (fun zk => ?_)
    clear hK K m9 c9
    try go_frame
    refine wpAnyH_done (by kernel_rfl) ?_ _
    clear HG PV
    have hlen2 : sl2.length = len := by rw [← HSL2.out, modS_len, modS_len]; exact HL1.out.2
    have hr2 : ∃ hk2 : k < sl2.length, sl2[k].r = ⟨(k : Int) + 1, G, ws, wg, rs, rg, rd, ar, vn, vs, vg⟩ := by
      refine ⟨by rw [hlen2]; exact hk, ?_⟩
      simp only [← HSL2.out]
      unfold modS
      simp only [List.getElem_modify, show ((k : Int) + 1 - 1).toNat = k by omega, if_true]
    obtain ⟨hk2, hr2⟩ := hr2
    have hcell := fun j u hu => ((show Bk W9 B p (.slice (some ⟨g, 0, none⟩) sl2.length c) M C sl2 ((k : Int) + 1) en _ _ from by rw [hlen2]; exact P9.out.bk).cell hk2 (i := k) (j := j) (u := u) hu rfl).1
    have y0 : W9.cell? ⟨g, k * 18 + 1, none⟩ = some (.int .u32 ((k : Int) + 1)) := hcell 1 _ (by unfold slF rcF; rw [hr2]; rfl)
    have y1 : W9.cell? ⟨g, k * 18 + 2, none⟩ = some (.int .u32 G) := hcell 2 _ (by unfold slF rcF; rw [hr2]; rfl)
    have y2 : W9.cell? ⟨g, k * 18 + 3, none⟩ = some (.int .u32 ws) := hcell 3 _ (by unfold slF rcF; rw [hr2]; rfl)
    have y3 : W9.cell? ⟨g, k * 18 + 4, none⟩ = some (.int .u32 wg) := hcell 4 _ (by unfold slF rcF; rw [hr2]; rfl)
    have y4 : W9.cell? ⟨g, k * 18 + 5, none⟩ = some (.int .u32 rs) := hcell 5 _ (by unfold slF rcF; rw [hr2]; rfl)
    have y5 : W9.cell? ⟨g, k * 18 + 6, none⟩ = some (.int .u32 rg) := hcell 6 _ (by unfold slF rcF; rw [hr2]; rfl)
    have y6 : W9.cell? ⟨g, k * 18 + 7, none⟩ = some (.int .i64 rd) := hcell 7 _ (by unfold slF rcF; rw [hr2]; rfl)
    have y7 : W9.cell? ⟨g, k * 18 + 8, none⟩ = some (.int .i64 ar) := hcell 8 _ (by unfold slF rcF; rw [hr2]; rfl)
    have y8 : W9.cell? ⟨g, k * 18 + 9, none⟩ = some (.int .i64 vn) := hcell 9 _ (by unfold slF rcF; rw [hr2]; rfl)
    have y9 : W9.cell? ⟨g, k * 18 + 10, none⟩ = some (.int .u32 vs) := hcell 10 _ (by unfold slF rcF; rw [hr2]; rfl)
    have y10 : W9.cell? ⟨g, k * 18 + 11, none⟩ = some (.int .u32 vg) := hcell 11 _ (by unfold slF rcF; rw [hr2]; rfl)
    obtain ⟨r, hr⟩ : ∃ r : Rc, r = ⟨(k : Int) + 1, G, ws, wg, rs, rg, rd, ar, vn, vs, vg⟩ := ⟨_, rfl⟩
    have L0 : LInv en (lkS sl2) (mbW l) := HI.out.lines.congr fun x s hx => by
      have hs := HI.out.bnd x s hx
      rw [← HSL2.out, lkS_keep (f := fun x : Sl => { x with r := ⟨(k : Int) + 1, G, ws, wg, rs, rg, rd, ar, vn, vs, vg⟩ }) _ _ (fun _ => rfl), lkS_keep (f := fun x : Sl => { x with g := G }) _ _ (fun _ => rfl)]
      rcases HL1.out.1 with e | ⟨_, e⟩
      · rw [e]
      · rw [e]
        exact lkS_app _ _ hs.1 hs.2
    have HJ := hide (show ∃ en3 sl3, PuS w W9 B p g len c M C sl3 ((k : Int) + 1) en3 (updW cl (ws, wg, ar) (some ((k : Int) + 1))) (n + 1) a5 rs rg rd ws wg vn vs vg ((k : Int) + 1) G wv ∧ LInv en3 (lkS sl3) (putM (mbW l) r ((k : Int) + 1) 0) ∧ sl3.map Sl.gr = sl2.map Sl.gr from ⟨en, sl2, P9.out, L0, rfl⟩)
    have hnot : ∀ x, ((k : Int) + 1) ∉ mbW l x := fun x hx => by
      obtain ⟨t, h1, h2, h3⟩ := mbW_mem.1 hx
      have := usdW_mem.2 ⟨t, h1, stW_live h2, h3⟩
      rw [HKP.out.2.2.1] at this
      cases this
    have HNOT := hide hnot
    have HBD := hide (show ∀ x, ∀ t ∈ mbW l x, t ≤ len from fun x t ht => by
      have h1 := (HI.out.bnd x t ht).2
      have h2 := HL1.out.2
      rcases HL1.out.1 with e | ⟨_, e⟩
      · rw [e] at h2; omega
      · rw [e, List.length_append] at h2; simp at h2; omega)
    have HR := hide hr
    have H2 := hide (And.intro hlen2 hr2)
    clear hcell hnot L0 hlen2 hr2
    go_wp2_with fail
    refine (lines_is W9 ⟨(k : Int) + 1, G, ws, wg, rs, rg, rd, ar, vn, vs, vg⟩).mono ?_
    rintro e W10 ⟨rfl, hb10⟩
    unfold lnsV
    rw [← hr]
    have HJ10 := hide (show ∃ en3 sl3, PuS w W10 B p g len c M C sl3 ((k : Int) + 1) en3 (updW cl (ws, wg, ar) (some ((k : Int) + 1))) (n + 1) a5 rs rg rd ws wg vn vs vg ((k : Int) + 1) G wv ∧ LInv en3 (lkS sl3) (putM (mbW l) r ((k : Int) + 1) 0) ∧ sl3.map Sl.gr = sl2.map Sl.gr by
      obtain ⟨en3, sl3, q1, q2, q3⟩ := HJ.out
      exact ⟨en3, sl3, q1.quiet (Ch.of_below hb10), q2, q3⟩)
    clear hb10 HJ hr y0 y1 y2 y3 y4 y5 y6 y7 y8 y9 y10
    go_wp2_with fail
    go_loopw [67] (fun iv wr => ∃ j : Nat, j ≤ 3 ∧ iv = .int .i64 (j : Int) ∧ Hid (∃ en3 sl3, PuS w wr B p g len c M C sl3 ((k : Int) + 1) en3 (updW cl (ws, wg, ar) (some ((k : Int) + 1))) (n + 1) a5 rs rg rd ws wg vn vs vg ((k : Int) + 1) G wv ∧ LInv en3 (lkS sl3) (putM (mbW l) r ((k : Int) + 1) j) ∧ sl3.map Sl.gr = sl2.map Sl.gr)) (fun iv _ => 3 - (intOf iv).toNat)
    case atStart => exact ⟨0, by omega, rfl, HJ10⟩
    case round =>
      obtain ⟨j, hj, rfl, HJJ⟩ := hrel
      obtain ⟨W11, rfl⟩ : ∃ x, x = wr := ⟨_, rfl⟩
      obtain ⟨en3, sl3, p3, l3, g3⟩ := HJJ.out
      have hl3 : sl3.length = len := (gr_same g3).1.trans H2.out.1
      have T3 := hide (And.intro p3 (And.intro l3 (And.intro g3 hl3)))
      clear p3 l3 g3 hl3 HJJ
      have hj4 : j = 0 ∨ j = 1 ∨ j = 2 ∨ j = 3 := by omega
      rcases hj4 with rfl | rfl | rfl | rfl
      · have ix := idx0 r W11
        go_wp2_with fail
        clear ix
        refine (join_L (T3.out.1.bk.below (below1 _ _)) (by rw [T3.out.2.2.2]; exact hl1) T3.out.2.1 (by rw [T3.out.2.2.2]; exact putM_bd r (by omega) (by omega) HBD.out) (lnOf 0 r) (by rw [lnOf_k _ (by omega)]; omega) (by rw [T3.out.2.2.2]; exact hk) (putM_ok r _ (by omega) HNOT.out)).mono ?_
        rintro e W12 ⟨rfl, sl4, en4, b4, l4, g4, c4⟩
        have T4 := hide (show ∃ en3 sl3, PuS w W12 B p g len c M C sl3 ((k : Int) + 1) en3 (updW cl (ws, wg, ar) (some ((k : Int) + 1))) (n + 1) a5 rs rg rd ws wg vn vs vg ((k : Int) + 1) G wv ∧ LInv en3 (lkS sl3) (putM (mbW l) r ((k : Int) + 1) 1) ∧ sl3.map Sl.gr = sl2.map Sl.gr from ⟨en4, sl4, (T3.out.1.quiet (Ch.alloc _ _)).book b4 c4, l4, g4.trans T3.out.2.2.1⟩)
        clear b4 l4 g4 c4
        go_wp2_with fail
        go_roundw
        case rel => exact ⟨1, by omega, by go_num, T4⟩
        case measure => simp [intOf]
      · have ix := idx1 r W11
        go_wp2_with fail
        clear ix
        refine (join_L (T3.out.1.bk.below (below1 _ _)) (by rw [T3.out.2.2.2]; exact hl1) T3.out.2.1 (by rw [T3.out.2.2.2]; exact putM_bd r (by omega) (by omega) HBD.out) (lnOf 1 r) (by rw [lnOf_k _ (by omega)]; omega) (by rw [T3.out.2.2.2]; exact hk) (putM_ok r _ (by omega) HNOT.out)).mono ?_
        rintro e W12 ⟨rfl, sl4, en4, b4, l4, g4, c4⟩
        have T4 := hide (show ∃ en3 sl3, PuS w W12 B p g len c M C sl3 ((k : Int) + 1) en3 (updW cl (ws, wg, ar) (some ((k : Int) + 1))) (n + 1) a5 rs rg rd ws wg vn vs vg ((k : Int) + 1) G wv ∧ LInv en3 (lkS sl3) (putM (mbW l) r ((k : Int) + 1) 2) ∧ sl3.map Sl.gr = sl2.map Sl.gr from ⟨en4, sl4, (T3.out.1.quiet (Ch.alloc _ _)).book b4 c4, l4, g4.trans T3.out.2.2.1⟩)
        clear b4 l4 g4 c4
        go_wp2_with fail
        go_roundw
        case rel => exact ⟨2, by omega, by go_num, T4⟩
        case measure => simp [intOf]
      · have ix := idx2 r W11
        go_wp2_with fail
        clear ix
        refine (join_L (T3.out.1.bk.below (below1 _ _)) (by rw [T3.out.2.2.2]; exact hl1) T3.out.2.1 (by rw [T3.out.2.2.2]; exact putM_bd r (by omega) (by omega) HBD.out) (lnOf 2 r) (by rw [lnOf_k _ (by omega)]; omega) (by rw [T3.out.2.2.2]; exact hk) (putM_ok r _ (by omega) HNOT.out)).mono ?_
        rintro e W12 ⟨rfl, sl4, en4, b4, l4, g4, c4⟩
        have T4 := hide (show ∃ en3 sl3, PuS w W12 B p g len c M C sl3 ((k : Int) + 1) en3 (updW cl (ws, wg, ar) (some ((k : Int) + 1))) (n + 1) a5 rs rg rd ws wg vn vs vg ((k : Int) + 1) G wv ∧ LInv en3 (lkS sl3) (putM (mbW l) r ((k : Int) + 1) 3) ∧ sl3.map Sl.gr = sl2.map Sl.gr from ⟨en4, sl4, (T3.out.1.quiet (Ch.alloc _ _)).book b4 c4, l4, g4.trans T3.out.2.2.1⟩)
        clear b4 l4 g4 c4
        go_wp2_with fail
        go_roundw
        case rel => exact ⟨3, by omega, by go_num, T4⟩
        case measure => simp [intOf]
      · have x5 := Lib.cell_of_heap T3.out.1.n5
        have x6 := Lib.cell_of_heap T3.out.1.pb.b3
        have x7 := frz T3.out.1.pb.b3
        have ne : w.heap.size + 3 ≠ a5 := by have := T3.out.1.l5; omega
        go_wp2_with fail
        have hec0 := HKP.out.2.2.2.2
        have hsw : (slW l : Int) = (k : Int) + 1 := by rw [HKP.out.1]; rfl
        have hGG : (genW l (slW l : Int) : Int) + 1 = G := by rw [hsw, ← HGG.out.2.1]; exact HGG.out.2.2
        have hput : putW l rs rg rd ws wg ar vn vs vg = l ++ [⟨r, false⟩] := by
          unfold putW
          rw [if_pos hec0, hGG, hsw, HR.out]
        have hrm : r.ms = (k : Int) + 1 := by rw [HR.out]
        have cz : Ch (fun y => y = w.heap.size + 3) W11 ((W11.setCell ⟨w.heap.size + 3, 0, none⟩ (.int .u32 ((k : Int) + 1))).setCell ⟨w.heap.size + 3, 1, none⟩ (.int .u32 G)) := (Ch.set (Q := fun y => y = w.heap.size + 3) W11 rfl 0 _).trans (Ch.set (Q := fun y => y = w.heap.size + 3) _ rfl 1 _) (fun _ _ h => h)
        refine bodyPost_ret (v := .tuple #[hvW ((k : Int) + 1) G, .int .i64 0]) (resPutH _ (w.heap.size + 3) _ ((k : Int) + 1) G 0 rfl rfl (by simp [go_sem, x6]) (by simp [go_sem, x6])) rfl ⟨?_, _, sl3, (k : Int) + 1, en3, _, n + 1, T3.out.1.bk.ch cz (fun y hy (e : y = w.heap.size + 3) => by have := T3.out.1.lo y hy; omega), ?_, ?_, T3.out.1.ch.trans cz (fun y hy (e : y = w.heap.size + 3) => by omega), fun x hx => ?_⟩
        · unfold psW pgW
          rw [if_pos hec0, if_pos hec0, hsw, hec0, ← hsw, hGG]
        · rw [hput]
          have hLL := T3.out.2.1
          have e3 := put_mb (l := l) (t := ⟨r, false⟩) rfl
          have e3 : putM (mbW l) r ((k : Int) + 1) 3 = mbW (l ++ [⟨r, false⟩]) := by rw [← hrm]; exact e3
          rw [e3] at hLL
          have hgr := gr_wipe (sl := sl1) (sl' := sl1) (i := k) rfl hkl (fun x => { x with g := G, r := r }) (G, r) (fun z _ => rfl)
          have hsl2 : sl2 = modS sl1 ((k : Int) + 1) (fun x => { x with g := G, r := r }) := by
            rw [← HSL2.out, modS_mod, HR.out]
          have hcl : clT ⟨r, false⟩ = (ws, wg, ar) := by rw [HR.out]; rfl
          have hfin := HI.out.put (t := ⟨r, false⟩) (sl' := sl3) (en' := en3) (g := G) rfl hrm HKP.out.2.2.1 (fun s h1 h2 => by
            have := HKP.out.2.1 (s - 1).toNat (by omega)
            rwa [show (((s - 1).toNat : Nat) : Int) + 1 = s by omega] at this) (fun u hu ho => by
            rw [hcl]
            intro e
            have htw : twW l ws wg ar = true := by
              unfold twW
              rw [List.any_eq_true]
              unfold clT at e
              simp only [Prod.mk.injEq] at e
              exact ⟨u, hu, by simp [isWho, ho, e.1, e.2.1, e.2.2]⟩
            unfold ecW at hec0
            by_cases q1 : ws = 0 ∧ wg = 0
            · rw [if_pos q1] at hec0; omega
            · rw [if_neg q1] at hec0
              by_cases q2 : rd < 1 ∨ 4 < rd
              · rw [if_pos q2] at hec0; omega
              · rw [if_neg q2, htw] at hec0
                simp at hec0) hLL HL1.out.1 hkl (by rw [← HGG.out.2.1]; exact HGG.out.2.2.symm) (by rw [T3.out.2.2.1, hsl2]; exact hgr)
          rw [hcl] at hfin
          exact hfin
        · rw [hput, T3.out.2.2.2, List.length_append]
          have h2 := HL1.out.2
          rcases HL1.out.1 with e | ⟨_, e⟩
          · rw [e] at h2; simp; omega
          · rw [e, List.length_append] at h2; simp at h2 ⊢; omega
        · have eg : g = x := Option.some.inj hx
          subst eg
          by_cases hg : g < w.heap.size
          · exact Or.inl (T3.out.1.ow hg)
          · exact Or.inr (by omega)
  · have HEC := hide he
    obtain ⟨q, hq⟩ : ∃ q, ecW l ws wg rd ar = q := ⟨_, rfl⟩
    have hq0 : (q == 0) = false := by rw [← hq]; simpa using he
    rw [hq]
    have x6 := Lib.cell_of_heap P2.out.b3
    have x7 := frz P2.out.b3
    have HQ := hide hq
    clear he hec hq
    go_wp2_with fail
    have cz : Ch (fun y => y = w.heap.size + 3) W2 ((W2.setCell ⟨w.heap.size + 3, 0, none⟩ (.int .u32 0)).setCell ⟨w.heap.size + 3, 1, none⟩ (.int .u32 0)) := (Ch.set (Q := fun y => y = w.heap.size + 3) W2 rfl 0 _).trans (Ch.set (Q := fun y => y = w.heap.size + 3) _ rfl 1 _) (fun _ _ h => h)
    refine bodyPost_ret (v := .tuple #[hvW 0 0, .int .i64 q]) (resPutH _ (w.heap.size + 3) _ 0 0 q rfl rfl (by simp [go_sem, x6]) (by simp [go_sem, x6])) rfl ⟨?_, wv, sl, full, en, cl, n, BW.out.ch cz (fun y hy (e : y = w.heap.size + 3) => by have := HF.out y hy; omega), ?_, ?_, ((Ch.of_below HB.out).trans C2.out (fun _ _ h => h.elim)).trans cz (fun y hy (e : y = w.heap.size + 3) => by omega), fun x hx => Or.inl hx⟩
    · unfold psW pgW
      rw [if_neg HEC.out, if_neg HEC.out, HQ.out]
    · unfold putW
      rw [if_neg HEC.out]
      exact HI.out
    · unfold putW
      rw [if_neg HEC.out]
      exact hsl

end Go.Proofs.Ythnnpipekeanoaa

namespace Go.Proofs.Ythnnpipekeanoaa
open Go.RowKit

abbrev fs0 : Oper := { dst := some 12, op := Op.move (Operand.tmp 0), type := 25, pos := "waitq.go:113", after := #[], guard := none }
abbrev fs1 : Oper := { dst := some 13, op := Op.nilCheck (Operand.tmp 12), type := 0, pos := "waitq.go:113", after := #[{ on := 0, ground := Ground.data }], guard := none }
abbrev fs2 : Oper := { dst := some 14, op := Op.fieldAddr 73 (Operand.tmp 13) 2, type := 0, pos := "waitq.go:113", after := #[{ on := 1, ground := Ground.data }], guard := none }
abbrev fs3 : Oper := { dst := some 15, op := Op.load 69 (Operand.tmp 14), type := 69, pos := "waitq.go:113", after := #[{ on := 2, ground := Ground.data }], guard := none }
abbrev fs4 : Oper := { dst := some 16, op := Op.load 44 (Operand.tmp 3), type := 44, pos := "waitq.go:113", after := #[], guard := none }
abbrev fs5 : Oper := { dst := some 17, op := Op.build 80 #[(0, Operand.const (Value.int IntKind.i64 0)), (1, Operand.tmp 16)], type := 80, pos := "waitq.go:113", after := #[{ on := 4, ground := Ground.data }], guard := none }
abbrev fs6 : Oper := { dst := some 18, op := Op.lookup 69 (Operand.tmp 15) (Operand.tmp 17) true, type := 98, pos := "waitq.go:113", after := #[{ on := 3, ground := Ground.data }, { on := 5, ground := Ground.data }], guard := none }
abbrev fs7 : Oper := { dst := some 11, op := Op.move (Operand.tmp 18), type := 98, pos := "waitq.go:113", after := #[{ on := 6, ground := Ground.data }], guard := none }
abbrev fs8 : Oper := { dst := some 19, op := Op.extract (Operand.tmp 11) 0, type := 83, pos := "waitq.go:113", after := #[{ on := 7, ground := Ground.data }], guard := none }
abbrev fs9 : Oper := { dst := some 20, op := Op.extract (Operand.tmp 11) 1, type := 4, pos := "waitq.go:113", after := #[{ on := 7, ground := Ground.data }, { on := 11, ground := Ground.gcOnly Departure.lateStores }], guard := none }
abbrev fs10 : Oper := { dst := some 6, op := Op.alloc 83, type := 0, pos := "waitq.go:113", after := #[], guard := none }
abbrev fs11 : Oper := { dst := none, op := Op.store 83 (Operand.tmp 6) (Operand.tmp 19), type := 0, pos := "waitq.go:113", after := #[{ on := 10, ground := Ground.data }, { on := 8, ground := Ground.data }, { on := 0, ground := Ground.phase }, { on := 1, ground := Ground.phase }, { on := 2, ground := Ground.phase }, { on := 3, ground := Ground.phase }, { on := 4, ground := Ground.phase }, { on := 5, ground := Ground.phase }, { on := 6, ground := Ground.phase }, { on := 7, ground := Ground.phase }, { on := 8, ground := Ground.phase }, { on := 9, ground := Ground.textOnly Departure.lateStores }, { on := 10, ground := Ground.phase }], guard := none }
abbrev fs12 : Oper := { dst := some 7, op := Op.assign (Operand.tmp 20), type := 4, pos := "waitq.go:113", after := #[{ on := 9, ground := Ground.data }, { on := 11, ground := Ground.chain }, { on := 0, ground := Ground.phase }, { on := 1, ground := Ground.phase }, { on := 2, ground := Ground.phase }, { on := 3, ground := Ground.phase }, { on := 4, ground := Ground.phase }, { on := 5, ground := Ground.phase }, { on := 6, ground := Ground.phase }, { on := 7, ground := Ground.phase }, { on := 8, ground := Ground.phase }, { on := 9, ground := Ground.phase }, { on := 10, ground := Ground.phase }, { on := 11, ground := Ground.phase }], guard := none }

theorem val_lookL2 {o : Oper} {a : Act} {w : World} {M : Nat} {en : Ln → Option (Int × Int)} {x : Ln} (m y : Operand) (hop : o.op = Op.lookup 69 m y true) (hm : a.eval m = .map (some M)) (hy : a.eval y = lnV x) (h : LnMap w M en) : (execOp a.eval o).run Try.prog w = .ok (.value (.tuple #[enV (e0 (en x)), .bool (en x).isSome])) w := by
  obtain ⟨n, h⟩ := h
  have hrun := h.look2 (x := x) (ktL w) Try.underlying69 (zeroEn w)
  rw [en_getD, Option.isSome_map] at hrun
  simp [execOp, hop, hm, hy, hrun, Result.andThen]
theorem resFirstH (tm : Array Value) (A : Nat) (Z : World) (r : Rc) (q : Bool) (h4 : tm[4]?.getD undef = .pointer (some ⟨A, 0, none⟩)) (h5 : tm[5]?.getD undef = .bool q) (hc : ∀ j u, (rcF r)[j]? = some u → Z.cell? ⟨A, j, none⟩ = some u) :
    (results Try.f22 tm).run Try.prog Z = .ok (.tuple #[rcV r, .bool q]) Z := by
  have c0 := hc 0 _ rfl
  have c1 := hc 1 _ rfl
  have c2 := hc 2 _ rfl
  have c3 := hc 3 _ rfl
  have c4 := hc 4 _ rfl
  have c5 := hc 5 _ rfl
  have c6 := hc 6 _ rfl
  have c7 := hc 7 _ rfl
  have c8 := hc 8 _ rfl
  have c9 := hc 9 _ rfl
  have c10 := hc 10 _ rfl
  simp [results, Try.results22, go_sem, h4, h5, c0, c1, c2, c3, c4, c5, c6, c7, c8, c9, c10]

variable {w : World} {B p M C n : Nat} {wv : Value} {l : List Wt} {sl : List Sl} {full : Int} {en : Ln → Option (Int × Int)} {cl : Int × Int × Int → Option Int}

set_option maxRecDepth 100000 in
set_option maxHeartbeats 8000000 in
theorem first_b (hb : Bk w B p wv M C sl full en cl n) (hl : sl.length ≤ 100001) (hi : BInv l sl full en cl n) (s g d : Int) :
    Calls Try.prog 22 #[.pointer (some ⟨p, 0, none⟩), rvW s g d] w fun e w' => e = .returned (.tuple #[rcV ((sel (inRow s g d) l).headD zRc), .bool (!(sel (inRow s g d) l).isEmpty)]) ∧ Below w.heap.size w w' := by
  obtain ⟨w1, hw1⟩ : ∃ w1, (w.alloc (.cells #[.int .u32 s, .int .u32 g, .int .i64 d] 44)).alloc (.cells (rcF zRc).toArray 57) = w1 := ⟨_, rfl⟩
  have hB1 : Below w.heap.size w w1 := by rw [← hw1]; exact (below1 _ _).trans ((below1 _ _).mono (by simp))
  have s1 : w1.heap.size = w.heap.size + 2 := by rw [← hw1]; simp
  have hn : w1.heap[w.heap.size + 1]? = some (.cells (rcF zRc).toArray 57 (0, 0)) := by
    rw [← hw1]
    have := heap_new (w.alloc (.cells #[.int .u32 s, .int .u32 g, .int .i64 d] 44)) (.cells (rcF zRc).toArray 57)
    rwa [World.size_alloc] at this
  have hh : w1.heap[w.heap.size]? = some (.cells #[.int .u32 s, .int .u32 g, .int .i64 d] 44 (0, 0)) := by
    rw [← hw1, (MapKept.heap_alloc _ _).2 _ (by simp)]
    exact heap_new _ _
  have HB := hide hB1
  have HK := hide (hb.below hB1)
  have HI := hide hi
  have HN := hide hn
  have HH := hide hh
  have HS := hide s1
  have hen := hi.lines.en ⟨0, s, g, d, 0, 0⟩
  have hrec := hi.recs ⟨0, s, g, d, 0, 0⟩
  have hbd := hi.bnd ⟨0, s, g, d, 0, 0⟩
  have hml := mbW_len l ⟨0, s, g, d, 0, 0⟩
  rw [← stW_row]
  unfold rcF zRc at hw1
  clear hB1 hn hh s1 hb hi
  go_enter Try.func22, Try.ntmps22
  go_wp2_with fail
  clear hw1
  cases hL : mbW l ⟨0, s, g, d, 0, 0⟩ with
  | nil =>
    rw [hL] at hen hml
    have HEM := hide (show sel (stW ⟨0, s, g, d, 0, 0⟩) l = [] from List.length_eq_zero_iff.1 hml.symm)
    have HEN := hide hen
    clear hen hml hrec hbd hL
    refine wp_region_held_drew (S := Ch (fun _ => False) w1) (by kernel_rfl) (Ch.drew _) (fun zk => ?_)
    have HG := hide (fun wq (zq : Ch (fun _ => False) w1 wq) => have e := Lib.cell_of_heap (zq.box HH.out (fun h => h)); show wq.cell? ⟨p, 2, none⟩ = some (.map (some M)) ∧ wq.cell? ⟨w.heap.size, 0, none⟩ = some (.int .u32 s) ∧ wq.cell? ⟨w.heap.size, 1, none⟩ = some (.int .u32 g) ∧ wq.cell? ⟨w.heap.size, 2, none⟩ = some (.int .i64 d) from ⟨(HK.out.ch zq (fun _ _ h => h)).cells.2.2.1, by simp [e], by simp [e], by simp [e]⟩)
    apply tk 0 fs0 rfl (by kernel_rfl) (fun _ _ _ h => h) zk
    · intro wq zq
      go_simp
      try rfl
    go_frame
    apply tk 1 fs1 rfl (by kernel_rfl) (fun _ _ _ h => h) zk
    · intro wq zq
      go_simp
      try rfl
    go_frame
    apply tk 2 fs2 rfl (by kernel_rfl) (fun _ _ _ h => h) zk
    · intro wq zq
      go_simp
      try rfl
    go_frame
    apply tk 3 fs3 rfl (by kernel_rfl) (fun _ _ _ h => h) zk
    · intro wq zq
      obtain ⟨s1, s2, s3, s4⟩ := HG.out _ zq
      go_simp
      try rfl
    go_frame
    apply tk 4 fs4 rfl (by kernel_rfl) (fun _ _ _ h => h) zk
    · intro wq zq
      obtain ⟨s1, s2, s3, s4⟩ := HG.out _ zq
      go_simp
      try rfl
    go_frame
    apply tk 5 fs5 rfl (by kernel_rfl) (fun _ _ _ h => h) zk
    · intro wq zq
      go_simp
      try rfl
    go_frame
    apply tk 6 fs6 rfl (by kernel_rfl) (fun _ _ _ h => h) zk
    · intro wq zq
      exact (val_lookL2 (x := ⟨0, s, g, d, 0, 0⟩) (.tmp 15) (.tmp 17) rfl rfl rfl ((HK.out.ch zq (fun _ _ h => h)).mp)).trans (by rw [HEN.out])
    go_frame
    apply tk 7 fs7 rfl (by kernel_rfl) (fun _ _ _ h => h) zk
    · intro wq zq
      go_simp
      try rfl
    go_frame
    apply tk 8 fs8 rfl (by kernel_rfl) (fun _ _ _ h => h) zk
    · intro wq zq
      go_simp
      try rfl
    go_frame
    apply tk 9 fs9 rfl (by kernel_rfl) (fun _ _ _ h => h) zk
    · intro wq zq
      go_simp
      try rfl
    go_frame
    refine Go.Proofs.Ythnnpipekeanoaa.rd 10 fs10 rfl (by kernel_rfl) fun K hK => ?_
    go_simp
    refine genK (R := fun W => Ch (fun _ => False) w1 W ∧ W.heap[w1.heap.size]? = some (.cells #[.int .u32 0, .int .u32 0] 83 (0, 0))) ⟨zk.trans (Ch.alloc _ _) (fun _ _ h => h), heap_new _ _⟩ ?_
    rintro W2 ⟨c2, nE⟩
    clear zk
    refine hK.out _ _ ?_ (fun zk => ?_)
    · exact c2
    clear hK K
    try go_frame
    refine Go.Proofs.Ythnnpipekeanoaa.rd 11 fs11 rfl (by kernel_rfl) fun K hK => ?_
    have y0 := Lib.cell_of_heap nE
    have y1 := frz nE
    go_simp
    refine genK (R := fun W => Ch (fun _ => False) w1 W ∧ W.heap[w1.heap.size]? = some (.cells #[.int .u32 0, .int .u32 0] 83 (0, 0))) ⟨(c2.set_new (Nat.le_refl _) 0 _).set_new (Nat.le_refl _) 1 _, set2 nE⟩ ?_
    rintro W3 ⟨c3, mE⟩
    clear zk
    refine hK.out _ _ ?_ (fun zk => ?_)
    · exact c3
    clear hK K
    try go_frame
    clear y0 y1 nE c2 HG
    apply tk 12 fs12 rfl (by kernel_rfl) (fun _ _ _ h => h) zk
    · intro wq zq
      go_simp
      try rfl
    go_frame
    refine wpAnyH_done (by kernel_rfl) ?_ _
    have n3 := c3.box HN.out (fun h => h)
    have z0 : W3.cell? ⟨w.heap.size + 1, 0, none⟩ = some (.int .u32 0) := by simp [Lib.cell_of_heap n3, rcF, zRc]
    have z1 : W3.cell? ⟨w.heap.size + 1, 1, none⟩ = some (.int .u32 0) := by simp [Lib.cell_of_heap n3, rcF, zRc]
    have z2 : W3.cell? ⟨w.heap.size + 1, 2, none⟩ = some (.int .u32 0) := by simp [Lib.cell_of_heap n3, rcF, zRc]
    have z3 : W3.cell? ⟨w.heap.size + 1, 3, none⟩ = some (.int .u32 0) := by simp [Lib.cell_of_heap n3, rcF, zRc]
    have z4 : W3.cell? ⟨w.heap.size + 1, 4, none⟩ = some (.int .u32 0) := by simp [Lib.cell_of_heap n3, rcF, zRc]
    have z5 : W3.cell? ⟨w.heap.size + 1, 5, none⟩ = some (.int .u32 0) := by simp [Lib.cell_of_heap n3, rcF, zRc]
    have z6 : W3.cell? ⟨w.heap.size + 1, 6, none⟩ = some (.int .i64 0) := by simp [Lib.cell_of_heap n3, rcF, zRc]
    have z7 : W3.cell? ⟨w.heap.size + 1, 7, none⟩ = some (.int .i64 0) := by simp [Lib.cell_of_heap n3, rcF, zRc]
    have z8 : W3.cell? ⟨w.heap.size + 1, 8, none⟩ = some (.int .i64 0) := by simp [Lib.cell_of_heap n3, rcF, zRc]
    have z9 : W3.cell? ⟨w.heap.size + 1, 9, none⟩ = some (.int .u32 0) := by simp [Lib.cell_of_heap n3, rcF, zRc]
    have z10 : W3.cell? ⟨w.heap.size + 1, 10, none⟩ = some (.int .u32 0) := by simp [Lib.cell_of_heap n3, rcF, zRc]
    have zf : ∀ j, W3.frozen? ⟨w.heap.size + 1, j, none⟩ = false := frz n3
    have N3 := hide n3
    have C3 := hide c3
    clear n3 c3 zk
    go_wp2_with fail
    refine bodyPost_ret (v := .tuple #[rcV zRc, .bool false]) (resFirstH _ (w.heap.size + 1) _ zRc false rfl rfl ?_) rfl ⟨by rw [HEM.out]; rfl, ?_⟩
    · intro j u hu
      match j, hu with
      | 0, hu => cases hu; simp [go_sem, z0, zRc]
      | 1, hu => cases hu; simp [go_sem, z1, zRc]
      | 2, hu => cases hu; simp [go_sem, z2, zRc]
      | 3, hu => cases hu; simp [go_sem, z3, zRc]
      | 4, hu => cases hu; simp [go_sem, z4, zRc]
      | 5, hu => cases hu; simp [go_sem, z5, zRc]
      | 6, hu => cases hu; simp [go_sem, z6, zRc]
      | 7, hu => cases hu; simp [go_sem, z7, zRc]
      | 8, hu => cases hu; simp [go_sem, z8, zRc]
      | 9, hu => cases hu; simp [go_sem, z9, zRc]
      | 10, hu => cases hu; simp [go_sem, z10, zRc]
      | _ + 11, hu => simp [rcF] at hu
    · have hs := HS.out
      have hs2 := C3.out.size
      refine HB.out.trans ((Below.mono (Ch.below C3.out (N := w1.heap.size) (Nat.le_refl _) (fun _ _ h => h)) HB.out.size).trans ?_)
      have c : Ch (fun y => y = w.heap.size + 1) W3 _ := wrsA W3 (w.heap.size + 1) (rcF zRc)
      exact Below.mono (Ch.below c (N := w.heap.size) (by omega) (fun y hy e => by omega)) (Nat.le_refl _)
  | cons s0 L' =>
    obtain ⟨i, hi', hs0⟩ := idx_of (hbd s0 (by rw [hL]; simp)).1 (hbd s0 (by rw [hL]; simp)).2
    have h0 : 0 < (mbW l ⟨0, s, g, d, 0, 0⟩).length := by rw [hL]; simp
    have h0' : 0 < (sel (stW ⟨0, s, g, d, 0, 0⟩) l).length := by omega
    have hr1 := hrec 0 h0 h0' i hi' (by simp only [hL]; exact hs0)
    obtain ⟨r, R', hR⟩ : ∃ r R', sel (stW ⟨0, s, g, d, 0, 0⟩) l = r :: R' := by
      cases hx : sel (stW ⟨0, s, g, d, 0, 0⟩) l with
      | nil => rw [hx] at h0'; simp at h0'
      | cons r R' => exact ⟨r, R', rfl⟩
    have hr : sl[i].r = r := by rw [hr1]; simp only [hR]; rfl
    rw [hL] at hen
    have hen : en ⟨0, s, g, d, 0, 0⟩ = some (s0, L'.getLastD s0) := hen
    rw [hs0] at hen
    generalize L'.getLastD ((i : Int) + 1) = e2 at hen
    have HEN := hide hen
    have HEM := hide hR
    have HR := hide hr
    clear hen hml hrec hbd hL hr1 h0 h0' hr hR hs0
    refine wp_region_held_drew (S := Ch (fun _ => False) w1) (by kernel_rfl) (Ch.drew _) (fun zk => ?_)
    have HG := hide (fun wq (zq : Ch (fun _ => False) w1 wq) => have e := Lib.cell_of_heap (zq.box HH.out (fun h => h)); show wq.cell? ⟨p, 2, none⟩ = some (.map (some M)) ∧ wq.cell? ⟨w.heap.size, 0, none⟩ = some (.int .u32 s) ∧ wq.cell? ⟨w.heap.size, 1, none⟩ = some (.int .u32 g) ∧ wq.cell? ⟨w.heap.size, 2, none⟩ = some (.int .i64 d) from ⟨(HK.out.ch zq (fun _ _ h => h)).cells.2.2.1, by simp [e], by simp [e], by simp [e]⟩)
    apply tk 0 fs0 rfl (by kernel_rfl) (fun _ _ _ h => h) zk
    · intro wq zq
      go_simp
      try rfl
    go_frame
    apply tk 1 fs1 rfl (by kernel_rfl) (fun _ _ _ h => h) zk
    · intro wq zq
      go_simp
      try rfl
    go_frame
    apply tk 2 fs2 rfl (by kernel_rfl) (fun _ _ _ h => h) zk
    · intro wq zq
      go_simp
      try rfl
    go_frame
    apply tk 3 fs3 rfl (by kernel_rfl) (fun _ _ _ h => h) zk
    · intro wq zq
      obtain ⟨s1, s2, s3, s4⟩ := HG.out _ zq
      go_simp
      try rfl
    go_frame
    apply tk 4 fs4 rfl (by kernel_rfl) (fun _ _ _ h => h) zk
    · intro wq zq
      obtain ⟨s1, s2, s3, s4⟩ := HG.out _ zq
      go_simp
      try rfl
    go_frame
    apply tk 5 fs5 rfl (by kernel_rfl) (fun _ _ _ h => h) zk
    · intro wq zq
      go_simp
      try rfl
    go_frame
    apply tk 6 fs6 rfl (by kernel_rfl) (fun _ _ _ h => h) zk
    · intro wq zq
      exact (val_lookL2 (x := ⟨0, s, g, d, 0, 0⟩) (.tmp 15) (.tmp 17) rfl rfl rfl ((HK.out.ch zq (fun _ _ h => h)).mp)).trans (by rw [HEN.out])
    go_frame
    apply tk 7 fs7 rfl (by kernel_rfl) (fun _ _ _ h => h) zk
    · intro wq zq
      go_simp
      try rfl
    go_frame
    apply tk 8 fs8 rfl (by kernel_rfl) (fun _ _ _ h => h) zk
    · intro wq zq
      go_simp
      try rfl
    go_frame
    apply tk 9 fs9 rfl (by kernel_rfl) (fun _ _ _ h => h) zk
    · intro wq zq
      go_simp
      try rfl
    go_frame
    refine Go.Proofs.Ythnnpipekeanoaa.rd 10 fs10 rfl (by kernel_rfl) fun K hK => ?_
    go_simp
    refine genK (R := fun W => Ch (fun _ => False) w1 W ∧ W.heap[w1.heap.size]? = some (.cells #[.int .u32 0, .int .u32 0] 83 (0, 0))) ⟨zk.trans (Ch.alloc _ _) (fun _ _ h => h), heap_new _ _⟩ ?_
    rintro W2 ⟨c2, nE⟩
    clear zk
    refine hK.out _ _ ?_ (fun zk => ?_)
    · exact c2
    clear hK K
    try go_frame
    refine Go.Proofs.Ythnnpipekeanoaa.rd 11 fs11 rfl (by kernel_rfl) fun K hK => ?_
    have y0 := Lib.cell_of_heap nE
    have y1 := frz nE
    go_simp
    refine genK (R := fun W => Ch (fun _ => False) w1 W ∧ W.heap[w1.heap.size]? = some (.cells #[.int .u32 ((i : Int) + 1), .int .u32 e2] 83 (0, 0))) ⟨(c2.set_new (Nat.le_refl _) 0 _).set_new (Nat.le_refl _) 1 _, set2 nE⟩ ?_
    rintro W3 ⟨c3, mE⟩
    clear zk
    refine hK.out _ _ ?_ (fun zk => ?_)
    · exact c3
    clear hK K
    try go_frame
    clear y0 y1 nE c2 HG
    apply tk 12 fs12 rfl (by kernel_rfl) (fun _ _ _ h => h) zk
    · intro wq zq
      go_simp
      try rfl
    go_frame
    refine wpAnyH_done (by kernel_rfl) ?_ _
    have n3 := c3.box HN.out (fun h => h)
    have z0 : W3.cell? ⟨w.heap.size + 1, 0, none⟩ = some (.int .u32 0) := by simp [Lib.cell_of_heap n3, rcF, zRc]
    have z1 : W3.cell? ⟨w.heap.size + 1, 1, none⟩ = some (.int .u32 0) := by simp [Lib.cell_of_heap n3, rcF, zRc]
    have z2 : W3.cell? ⟨w.heap.size + 1, 2, none⟩ = some (.int .u32 0) := by simp [Lib.cell_of_heap n3, rcF, zRc]
    have z3 : W3.cell? ⟨w.heap.size + 1, 3, none⟩ = some (.int .u32 0) := by simp [Lib.cell_of_heap n3, rcF, zRc]
    have z4 : W3.cell? ⟨w.heap.size + 1, 4, none⟩ = some (.int .u32 0) := by simp [Lib.cell_of_heap n3, rcF, zRc]
    have z5 : W3.cell? ⟨w.heap.size + 1, 5, none⟩ = some (.int .u32 0) := by simp [Lib.cell_of_heap n3, rcF, zRc]
    have z6 : W3.cell? ⟨w.heap.size + 1, 6, none⟩ = some (.int .i64 0) := by simp [Lib.cell_of_heap n3, rcF, zRc]
    have z7 : W3.cell? ⟨w.heap.size + 1, 7, none⟩ = some (.int .i64 0) := by simp [Lib.cell_of_heap n3, rcF, zRc]
    have z8 : W3.cell? ⟨w.heap.size + 1, 8, none⟩ = some (.int .i64 0) := by simp [Lib.cell_of_heap n3, rcF, zRc]
    have z9 : W3.cell? ⟨w.heap.size + 1, 9, none⟩ = some (.int .u32 0) := by simp [Lib.cell_of_heap n3, rcF, zRc]
    have z10 : W3.cell? ⟨w.heap.size + 1, 10, none⟩ = some (.int .u32 0) := by simp [Lib.cell_of_heap n3, rcF, zRc]
    have zf : ∀ j, W3.frozen? ⟨w.heap.size + 1, j, none⟩ = false := frz n3
    have N3 := hide n3
    have C3 := hide c3
    have BW := hide (HK.out.ch c3 (fun _ _ h => h))
    obtain ⟨gb, c, cur, rfl, -⟩ := BW.out.at (by omega)
    have x0 := BW.out.cells.1
    have ye := Lib.cell_of_heap mE
    have hcell := fun j u hu => (BW.out.cell hi' (i := i) (j := j) (u := u) hu rfl).1
    have y0 : W3.cell? ⟨gb, i * 18 + 1, none⟩ = some (.int .u32 r.ms) := hcell 1 _ (by unfold slF rcF; rw [HR.out]; rfl)
    have y1 : W3.cell? ⟨gb, i * 18 + 2, none⟩ = some (.int .u32 r.mg) := hcell 2 _ (by unfold slF rcF; rw [HR.out]; rfl)
    have y2 : W3.cell? ⟨gb, i * 18 + 3, none⟩ = some (.int .u32 r.ws) := hcell 3 _ (by unfold slF rcF; rw [HR.out]; rfl)
    have y3 : W3.cell? ⟨gb, i * 18 + 4, none⟩ = some (.int .u32 r.wg) := hcell 4 _ (by unfold slF rcF; rw [HR.out]; rfl)
    have y4 : W3.cell? ⟨gb, i * 18 + 5, none⟩ = some (.int .u32 r.rs) := hcell 5 _ (by unfold slF rcF; rw [HR.out]; rfl)
    have y5 : W3.cell? ⟨gb, i * 18 + 6, none⟩ = some (.int .u32 r.rg) := hcell 6 _ (by unfold slF rcF; rw [HR.out]; rfl)
    have y6 : W3.cell? ⟨gb, i * 18 + 7, none⟩ = some (.int .i64 r.rd) := hcell 7 _ (by unfold slF rcF; rw [HR.out]; rfl)
    have y7 : W3.cell? ⟨gb, i * 18 + 8, none⟩ = some (.int .i64 r.ar) := hcell 8 _ (by unfold slF rcF; rw [HR.out]; rfl)
    have y8 : W3.cell? ⟨gb, i * 18 + 9, none⟩ = some (.int .i64 r.vn) := hcell 9 _ (by unfold slF rcF; rw [HR.out]; rfl)
    have y9 : W3.cell? ⟨gb, i * 18 + 10, none⟩ = some (.int .u32 r.vs) := hcell 10 _ (by unfold slF rcF; rw [HR.out]; rfl)
    have y10 : W3.cell? ⟨gb, i * 18 + 11, none⟩ = some (.int .u32 r.vg) := hcell 11 _ (by unfold slF rcF; rw [HR.out]; rfl)
    clear n3 c3 zk hcell
    go_wp2_with fail
    refine (at_is x0 hi' hl).mono ?_
    rintro e W ⟨rfl, rfl⟩
    go_wp2_with fail
    refine bodyPost_ret (v := .tuple #[rcV r, .bool true]) (resFirstH _ (w.heap.size + 1) _ r true rfl rfl ?_) rfl ⟨by rw [HEM.out]; rfl, ?_⟩
    · intro j u hu
      match j, hu with
      | 0, hu => cases hu; simp [go_sem, z0]
      | 1, hu => cases hu; simp [go_sem, z1]
      | 2, hu => cases hu; simp [go_sem, z2]
      | 3, hu => cases hu; simp [go_sem, z3]
      | 4, hu => cases hu; simp [go_sem, z4]
      | 5, hu => cases hu; simp [go_sem, z5]
      | 6, hu => cases hu; simp [go_sem, z6]
      | 7, hu => cases hu; simp [go_sem, z7]
      | 8, hu => cases hu; simp [go_sem, z8]
      | 9, hu => cases hu; simp [go_sem, z9]
      | 10, hu => cases hu; simp [go_sem, z10]
      | _ + 11, hu => simp [rcF] at hu
    · have hs := HS.out
      have hs2 := C3.out.size
      refine HB.out.trans ((Below.mono (Ch.below C3.out (N := w1.heap.size) (Nat.le_refl _) (fun _ _ h => h)) HB.out.size).trans ?_)
      have c : Ch (fun y => y = w.heap.size + 1) W3 _ := wrsA W3 (w.heap.size + 1) (rcF r)
      exact Below.mono (Ch.below c (N := w.heap.size) (by omega) (fun y hy e => by omega)) (Nat.le_refl _)

end Go.Proofs.Ythnnpipekeanoaa

namespace Go.Proofs.Ythnnpipekeanoaa
open Go.RowKit

theorem new_is (w : World) : Calls Try.prog 7 #[] w fun e w' => ∃ p F, e = .returned (.pointer (some ⟨p, 0, none⟩)) ∧ PTb w' w.heap.size F p [] ∧ Below w.heap.size w w' := by
  have hmm : ∀ (t : TypeId) (w : World), (Instr.makeMap t none).run Try.prog w = .ok (.map (some w.heap.size)) (w.alloc (.map #[] 0)) := fun _ _ => rfl
  go_enter Try.func7, Try.ntmps7
  go_wp2_with fail
  go_ret
  have e0 := heap_new w (.map #[] 0)
  have e1 := heap_new (w.alloc (.map #[] 0)) (.map #[] 0)
  have e2 := heap_new ((w.alloc (.map #[] 0)).alloc (.map #[] 0)) (.cells #[.slice none 0 0, .int .u32 0, .map (some w.heap.size), .map (some (w.heap.size + 1))] 73)
  rw [World.size_alloc] at e1 e2
  rw [World.size_alloc] at e2
  have al : ∀ (W : World) (o : Obj) {b : Nat} {x : Obj}, W.heap[b]? = some x → (W.alloc o).heap[b]? = some x := fun W o b x h => (Ch.alloc (Q := fun _ => False) W o).box h (fun h => h)
  have mt : ∀ {κ : Type} [DecidableEq κ] (key : κ → Value) {W : World} {b : Nat}, W.heap[b]? = some (.map #[] 0) → MapF key W b (fun _ => none) 0 := fun key W b h => ⟨[], ⟨#[], 0, h, rfl⟩, by simp, fun _ => rfl, rfl⟩
  refine ⟨_, _, rfl, ⟨.slice none 0 0, w.heap.size, w.heap.size + 1, [], 0, fun _ => none, fun _ => none, 0, ⟨e2, Row.nil _ _, ⟨0, mt lnV (al _ _ (al _ _ e0))⟩, mt clV (al _ _ e1), ⟨by omega, by omega, by omega⟩, by omega⟩, ?_, rfl, Nat.le_refl _⟩, ((below1 _ _).trans ((below1 _ _).mono (by simp))).trans ((below1 _ _).mono (by simp; omega))⟩
  refine ⟨⟨fun _ => rfl, fun _ => trivial, fun _ s hs => (by cases hs), fun _ => List.nodup_nil, fun _ _ _ s hs => (by cases hs)⟩, fun i hi => absurd hi (by simp), fun t ht => (by cases ht), fun i hi => absurd hi (by simp), fun t ht => (by cases ht), List.Pairwise.nil, fun t ht => (by cases ht), fun _ _ => rfl, rfl, fun s h1 h2 => by omega, by omega⟩

theorem face : FaceW PTb where
  ch := by
    rintro Q w w' B F p l ⟨wv, M, C, sl, full, en, cl, n, hb, hi, rfl, hs⟩ hc hq
    exact ⟨wv, M, C, sl, full, en, cl, n, hb.ch hc hq, hi, rfl, hs⟩
  foot := by
    rintro w B F p l ⟨wv, M, C, sl, full, en, cl, n, hb, hi, rfl, hs⟩ y hy
    exact hb.foot y hy
  new := new_is
  put := by
    rintro w B F p l rs rg rd ws wg ar vn vs vg - - - - - - - - - ⟨wv, M, C, sl, full, en, cl, n, hb, hi, rfl, hs⟩ hl hB
    refine (put_b hb hl hs hB hi rs rg rd ws wg ar vn vs vg).mono ?_
    rintro e w' ⟨rfl, wv', sl', full', en', cl', n', b', i', l', c', o'⟩
    refine ⟨bkF p M C wv', rfl, ⟨wv', M, C, sl', full', en', cl', n', b', i', rfl, l'⟩, c', ?_⟩
    rintro y (hy | hy | hy | hy)
    · exact Or.inl (Or.inl hy)
    · exact Or.inl (Or.inr (Or.inl hy))
    · exact Or.inl (Or.inr (Or.inr (Or.inl hy)))
    · exact (o' y hy).imp (fun e => Or.inr (Or.inr (Or.inr e))) id
  cut := by
    rintro w B F p l s g hs hg ⟨wv, M, C, sl, full, en, cl, n, hb, hi, rfl, hs'⟩ hl
    refine (cut_b hb (by omega) hi hs).mono ?_
    rintro e w' ⟨rfl, sl', full', en', cl', n', b', i', l', c'⟩
    refine ⟨bkF p M C wv, rfl, ⟨wv, M, C, sl', full', en', cl', n', b', i', rfl, ?_⟩, c', fun y hy => Or.inl hy⟩
    rw [l', show (cutW l s g).length = l.length by unfold cutW; split <;> simp]
    exact hs'
  leave := by
    rintro w B F p l s g hs hg ⟨wv, M, C, sl, full, en, cl, n, hb, hi, rfl, hs'⟩ hl
    refine (leave_b hb (by omega) hl hi s g).mono ?_
    rintro e w' ⟨rfl, sl', full', en', cl', n', b', i', l', c'⟩
    refine ⟨bkF p M C wv, rfl, ⟨wv, M, C, sl', full', en', cl', n', b', i', rfl, ?_⟩, c', fun y hy => Or.inl hy⟩
    rw [l', leaW_len]
    exact hs'
  get := by
    rintro w B F p l s g hs hg ⟨wv, M, C, sl, full, en, cl, n, hb, hi, rfl, hs'⟩ hl
    exact get_b hb (by omega) hi hs
  first := by
    rintro w B F p l s g d - - - ⟨wv, M, C, sl, full, en, cl, n, hb, hi, rfl, hs'⟩ hl
    exact first_b hb (by omega) hi s g d
  row := fun s g d _ _ _ h hl => row_is h hl s g d
  of := fun s g _ _ h hl => of_is h hl s g
  all := fun h hl => all_is h hl
  count := fun h _ => cnt_is h

end Go.Proofs.Ythnnpipekeanoaa
