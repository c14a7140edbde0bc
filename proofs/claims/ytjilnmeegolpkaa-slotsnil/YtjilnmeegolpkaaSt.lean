/- Layer 10: the law's step: its head. -/
import Derived.Test.YtjilnmeegolpkaaSj
namespace Go.Proofs.Ytjilnmeegolpkaa
open Go.RowKit Go.Shelf

/-- a function's code behind its first two pieces -/
def rest2 : Code → Code
  | .seq _ (.seq _ c) => c
  | c => c

abbrev pa0 : Oper := { dst := some 24, op := Op.load 41 (Operand.tmp 3), type := 41, pos := "law.go:71", after := #[], guard := none }
abbrev pa1 : Oper := { dst := some 25, op := Op.move (Operand.tmp 0), type := 32, pos := "law.go:71", after := #[], guard := none }
abbrev pa2 : Oper := { dst := some 26, op := Op.nilCheck (Operand.tmp 25), type := 0, pos := "law.go:71", after := #[{ on := 1, ground := Ground.data }], guard := none }
abbrev pa3 : Oper := { dst := some 27, op := Op.fieldAddr 35 (Operand.tmp 26) 2, type := 0, pos := "law.go:71", after := #[{ on := 2, ground := Ground.data }], guard := none }
abbrev pa4 : Oper := { dst := some 28, op := Op.load 33 (Operand.tmp 27), type := 33, pos := "law.go:71", after := #[{ on := 3, ground := Ground.data }], guard := none }
abbrev pa5 : Oper := { dst := some 29, op := Op.call { callee := Callee.value (Operand.func 31), args := #[Operand.tmp 24, Operand.tmp 28], argTypes := #[41, 33] }, type := 39, pos := "law.go:71", after := #[{ on := 0, ground := Ground.data }, { on := 4, ground := Ground.data }], guard := none }
abbrev pa6 : Oper := { dst := some 5, op := Op.alloc 39, type := 0, pos := "law.go:71", after := #[], guard := none }
abbrev pa7 : Oper := { dst := none, op := Op.store 39 (Operand.tmp 5) (Operand.tmp 29), type := 0, pos := "law.go:71", after := #[{ on := 6, ground := Ground.data }, { on := 5, ground := Ground.data }, { on := 5, ground := Ground.chain }, { on := 0, ground := Ground.phase }, { on := 1, ground := Ground.phase }, { on := 2, ground := Ground.phase }, { on := 3, ground := Ground.phase }, { on := 4, ground := Ground.phase }, { on := 5, ground := Ground.phase }, { on := 6, ground := Ground.phase }], guard := none }

set_option maxRecDepth 100000 in
set_option maxHeartbeats 4000000 in
theorem step_head {w : World} {B C p b : Nat} {tv : Value} {hs : List (Int × Int)} (hC : w.heap[C]? = some (.cells #[.pointer (some ⟨p, 0, none⟩), .pointer (some ⟨b, 0, none⟩), tv] 35 (0, 0))) (ht : HdRow w B tv hs) (hl : hs.length ≤ 100000)
    (k x wh ea s0 g0 : Int) (hd : Bool) (h1 : -9223372036854775808 ≤ wh) (h2 : wh ≤ 9223372036854775807) (hu0 : Us s0) (hta : ∀ a ∈ hs, Us a.1) {R : Ending → World → Prop}
    (next : ∀ (A : Nat) (s g : Int) (W : World), Us s → Ch (fun _ => False) w W → W.heap[w.heap.size]? = some (.cells #[.int .i64 k, .int .i64 x, .int .i64 wh, .int .i64 ea, .int .u32 s0, .int .u32 g0, .bool hd] 41 (0, 0)) → w.heap.size ≤ A → W.heap[A]? = some (.cells #[.int .u32 s, .int .u32 g] 39 (0, 0)) →
      (rest2 (Try.f11.body.getD .skip)).wp Try.prog (bodyPost Try.prog Try.f11 R) { tmps := #[.pointer (some ⟨C, 0, none⟩), .agg #[.int .i64 k, .int .i64 x, .int .i64 wh, .int .i64 ea, .int .u32 s0, .int .u32 g0, .bool hd], undef, .pointer (some ⟨w.heap.size, 0, none⟩), .bool false, .pointer (some ⟨A, 0, none⟩), undef, undef, undef, undef, undef, undef, undef, undef, undef, undef, undef, undef, undef, undef, undef, undef, undef, undef, .agg #[.int .i64 k, .int .i64 x, .int .i64 wh, .int .i64 ea, .int .u32 s0, .int .u32 g0, .bool hd], .pointer (some ⟨C, 0, none⟩), .pointer (some ⟨C, 0, none⟩), .pointer (some ⟨C, 2, none⟩), tv, hv s g, undef, undef, undef, undef, undef, undef, undef, undef, undef, undef, undef, undef, undef, undef, undef, undef, undef, undef, undef, undef, undef, undef, undef, undef, undef, undef, undef, undef, undef, undef, undef, undef, undef, undef, undef, undef, undef, undef, undef, undef, undef, undef, undef, undef, undef, undef, undef, undef, undef, undef, undef, undef, undef, undef, undef, undef, undef, undef, undef, undef, undef, undef, undef, undef, undef, undef, undef, undef, undef, undef, undef, undef, undef, undef, undef, undef, undef, undef, undef, undef, undef, undef, undef, undef, undef, undef, undef, undef, undef, undef, undef, undef, undef, undef, undef, undef, undef, undef, undef, undef, undef, undef, undef, undef, undef, undef, undef, undef, undef, undef, undef, undef, undef, undef, undef, undef, undef, undef, undef, undef, undef, undef, undef, undef, undef, undef, undef, undef, undef, undef, undef, undef, undef, undef, undef, undef, undef, undef, undef, undef, undef, undef, undef, undef, undef, undef, undef, undef, undef, undef, undef, undef, undef, undef, undef, undef, undef, undef, undef, undef, undef, undef, undef, undef, undef, undef, undef], defers := [] } W) :
    Calls Try.prog 11 #[.pointer (some ⟨C, 0, none⟩), .agg #[.int .i64 k, .int .i64 x, .int .i64 wh, .int .i64 ea, .int .u32 s0, .int .u32 g0, .bool hd]] w R := by
  obtain ⟨w1, hw1⟩ : ∃ w1, w.alloc (.cells #[.int .i64 k, .int .i64 x, .int .i64 wh, .int .i64 ea, .int .u32 s0, .int .u32 g0, .bool hd] 41) = w1 := ⟨_, rfl⟩
  have hc1 : Ch (fun _ => False) w w1 := by rw [← hw1]; exact Ch.alloc _ _
  have hO : w1.heap[w.heap.size]? = some (.cells #[.int .i64 k, .int .i64 x, .int .i64 wh, .int .i64 ea, .int .u32 s0, .int .u32 g0, .bool hd] 41 (0, 0)) := by rw [← hw1]; exact heap_new _ _
  have hC1 := hc1.box hC (fun h => h)
  have HO := hide (fun wq (h : Ch (fun _ => False) w1 wq) => have e := Lib.cell_of_heap (h.box hO (fun h => h)); show wq.cell? ⟨w.heap.size, 0, none⟩ = some (.int .i64 k) ∧ wq.cell? ⟨w.heap.size, 1, none⟩ = some (.int .i64 x) ∧ wq.cell? ⟨w.heap.size, 2, none⟩ = some (.int .i64 wh) ∧ wq.cell? ⟨w.heap.size, 3, none⟩ = some (.int .i64 ea) ∧ wq.cell? ⟨w.heap.size, 4, none⟩ = some (.int .u32 s0) ∧ wq.cell? ⟨w.heap.size, 5, none⟩ = some (.int .u32 g0) ∧ wq.cell? ⟨w.heap.size, 6, none⟩ = some (.bool hd) from ⟨by simp [e], by simp [e], by simp [e], by simp [e], by simp [e], by simp [e], by simp [e]⟩)
  have HC := hide (fun wq (h : Ch (fun _ => False) w1 wq) => have e := Lib.cell_of_heap (h.box hC1 (fun h => h)); show wq.cell? ⟨C, 2, none⟩ = some tv by simp [e])
  have HT := hide (fun wq (h : Ch (fun _ => False) w1 wq) => ht.ch (hc1.trans h (fun _ _ h => h)) (fun _ _ h => h))
  have HN := hide (fun A s g W hus (h : Ch (fun _ => False) w1 W) hA' hA => next A s g W hus (hc1.trans h (fun _ _ h => h)) (h.box hO (fun h => h)) (Nat.le_trans hc1.size hA') hA)
  have HU := hide hu0
  have HTA := hide hta
  clear next hO hC1 hC ht hu0 hta
  refine calls_of_wp Try.func11 rfl ?_
  simp only [Try.ntmps11, List.size_toArray, List.length_cons, List.length_nil, Nat.reduceAdd, Nat.reduceSub, Array.replicate_succ, Array.replicate_zero, List.push_toArray, List.append_toArray, List.nil_append, List.cons_append]
  refine wp_seq ?_
  have HW := hide hw1
  clear hw1
  go_wp2
  rw [HW.out]
  rename_i K1 hK1
  refine wp_region_held_drew (S := Ch (fun _ => False) w1) (by kernel_rfl) (Ch.drew _) (fun zk => ?_)
  apply tk 0 pa0 rfl (by kernel_rfl) (fun _ _ _ h => h) zk
  · intro wq zq
    obtain ⟨s0, s1, s2, s3, s4, s5, s6⟩ := HO.out _ zq
    go_simp
    try rfl
  go_frame
  apply tk 1 pa1 rfl (by kernel_rfl) (fun _ _ _ h => h) zk
  · intro wq zq
    go_simp
    try rfl
  go_frame
  apply tk 2 pa2 rfl (by kernel_rfl) (fun _ _ _ h => h) zk
  · intro wq zq
    go_simp
    try rfl
  go_frame
  apply tk 3 pa3 rfl (by kernel_rfl) (fun _ _ _ h => h) zk
  · intro wq zq
    go_simp
    try rfl
  go_frame
  apply tk 4 pa4 rfl (by kernel_rfl) (fun _ _ _ h => h) zk
  · intro wq zq
    have s1 := HC.out _ zq
    go_simp
    try rfl
  go_frame
  refine wpAnyH_ready (rs := [5, 6]) (by kernel_rfl) (by simp) ?_
  refine AllReadyH.cons (o := pa5) rfl (fun K hK => ?_) (AllReadyH.cons (o := pa6) rfl (fun K hK => ?_) AllReadyH.nil)
  · go_simp
    refine (handle_is (HT.out _ zk) hl k x wh ea s0 g0 hd h1 h2 HU.out HTA.out).mono ?_
    rintro e w2 ⟨s, g, rfl, hus, hb⟩
    have HS := hide hus
    clear hus
    have zk2 := hide (zk.trans (Ch.of_below (Q := fun _ => False) hb) (fun _ _ h => h))
    go_wp2_with fail
    refine hK.out _ _ ?_ (fun zk => ?_)
    · exact zk2.out
    clear hK K
    try go_frame
    clear hb
    refine rd 6 pa6 rfl (by kernel_rfl) fun K hK => ?_
    go_simp
    refine hK.out _ _ ?_ (fun zk => ?_)
    · exact zk.trans (Ch.alloc (Q := fun _ => False) _ _) (fun _ _ h => h)
    clear hK K
    try go_frame
    refine rd 7 pa7 rfl (by kernel_rfl) fun K hK => ?_
    go_simp
    refine hK.out _ _ ?_ (fun zk => ?_)
    · exact zk2.out.trans (Ch.alloc (Q := fun _ => False) _ _) (fun _ _ h => h)
    clear hK K
    try go_frame
    refine wpAnyH_done (by kernel_rfl) ?_ _
    refine hK1 _ _ ?_
    exact HN.out _ s g _ HS.out (zk2.out.trans (Ch.alloc (Q := fun _ => False) _ _) (fun _ _ h => h)) zk2.out.size (heap_new _ _)
  · go_simp
    refine hK.out _ _ ?_ (fun zk => ?_)
    · exact zk.trans (Ch.alloc (Q := fun _ => False) _ _) (fun _ _ h => h)
    clear hK K
    try go_frame
    refine rd 5 pa5 rfl (by kernel_rfl) fun K hK => ?_
    have hn := heap_new w1.drew (.cells #[.int .u32 0, .int .u32 0] 39)
    go_simp
    refine (handle_is (HT.out _ zk) hl k x wh ea s0 g0 hd h1 h2 HU.out HTA.out).mono ?_
    rintro e w3 ⟨s, g, rfl, hus, hb⟩
    have HS := hide hus
    clear hus
    have zk2 := hide (zk.trans (Ch.of_below (Q := fun _ => False) hb) (fun _ _ h => h))
    go_wp2_with fail
    refine hK.out _ _ ?_ (fun zk => ?_)
    · exact zk2.out
    clear hK K
    try go_frame
    have hn3 : w3.heap[w1.heap.size]? = some (.cells #[.int .u32 0, .int .u32 0] 39 (0, 0)) := (hb.block _ (by show w1.heap.size < (w1.alloc _).heap.size; simp)).trans (heap_new w1 (.cells #[.int .u32 0, .int .u32 0] 39))
    have n0 : w3.cell? ⟨w1.heap.size, 0, none⟩ = some (.int .u32 0) := by simp [Lib.cell_of_heap hn3]
    have n1 : w3.cell? ⟨w1.heap.size, 1, none⟩ = some (.int .u32 0) := by simp [Lib.cell_of_heap hn3]
    have nf : ∀ o, w3.frozen? ⟨w1.heap.size, o, none⟩ = false := by simp [World.frozen?, hn3]
    have zk3 := hide (show Ch (fun _ => False) w1 ((w3.setCell ⟨w1.heap.size, 0, none⟩ (.int .u32 s)).setCell ⟨w1.heap.size, 1, none⟩ (.int .u32 g)) from zk2.out.trans ((Ch.set (Q := fun x => x = w1.heap.size) w3 rfl 0 (.int .u32 s)).trans (Ch.set (Q := fun x => x = w1.heap.size) _ rfl 1 (.int .u32 g)) (fun _ _ h => h)) (fun x hx e => by omega))
    have hn4 := hide (show ((w3.setCell ⟨w1.heap.size, 0, none⟩ (.int .u32 s)).setCell ⟨w1.heap.size, 1, none⟩ (.int .u32 g)).heap[w1.heap.size]? = some (.cells #[.int .u32 s, .int .u32 g] 39 (0, 0)) by rw [heap_set (heap_set hn3 0 _) 1 _]; rfl)
    clear hn3 hn hb
    refine rd 7 pa7 rfl (by kernel_rfl) fun K hK => ?_
    go_simp
    refine hK.out _ _ ?_ (fun zk => ?_)
    · exact zk3.out
    clear hK K
    try go_frame
    refine wpAnyH_done (by kernel_rfl) ?_ _
    refine hK1 _ _ ?_
    exact HN.out _ s g _ HS.out zk3.out (Nat.le_refl _) hn4.out

end Go.Proofs.Ytjilnmeegolpkaa
