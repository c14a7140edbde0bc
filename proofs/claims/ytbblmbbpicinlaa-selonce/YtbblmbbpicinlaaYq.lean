/- Layer 14: where somebody can wait: row, first, has. Layer 14: has, park, wake. Layer 14: Has; why somebody may not ask. Layer 14: a channel sends. Layer 14: the room that a receive has made. Layer 14: a channel receives what it holds. Layer 14: channels are made. Layer 14: Send and Receive of a channel that there is. -/
import Derived.Test.YtbblmbbpicinlaaYp
namespace Go.Proofs.Ytbblmbbpicinlaa
open Go.RowKit

theorem set_all {b : Nat} {T : TypeId} : ∀ (vs pre old : List Value) (w : World), old.length = vs.length → w.heap[b]? = some (.cells (pre ++ old).toArray T (0, 0)) → (w.setCells b pre.length vs).heap[b]? = some (.cells (pre ++ vs).toArray T (0, 0))
  | [], pre, [], w, _, h => h
  | [], _, _ :: _, _, hl, _ => by simp at hl
  | _ :: _, _, [], _, hl, _ => by simp at hl
  | v :: vs, pre, x :: old, w, hl, h => by
    have h1 := heap_set h pre.length v
    have e : ((pre ++ x :: old).toArray.setIfInBounds pre.length v) = ((pre ++ [v]) ++ old).toArray := by
      rw [List.setIfInBounds_toArray, List.set_append_right _ _ (Nat.le_refl _)]
      simp
    rw [e] at h1
    have h2 := set_all vs (pre ++ [v]) old _ (by simpa using hl) h1
    rw [List.length_append, List.append_assoc] at h2
    exact h2
theorem set11 {w : World} {b : Nat} (h : w.heap[b]? = some (.cells #[.int .u32 0, .int .u32 0, .int .u32 0, .int .u32 0, .int .u32 0, .int .u32 0, .int .i64 0, .int .i64 0, .int .i64 0, .int .u32 0, .int .u32 0] 136 (0, 0))) (r : Rc) : (w.setCells b 0 (rcF r)).heap[b]? = some (.cells #[.int .u32 r.ms, .int .u32 r.mg, .int .u32 r.ws, .int .u32 r.wg, .int .u32 r.rs, .int .u32 r.rg, .int .i64 r.rd, .int .i64 r.ar, .int .i64 r.vn, .int .u32 r.vs, .int .u32 r.vg] 136 (0, 0)) := set_all (rcF r) [] [.int .u32 0, .int .u32 0, .int .u32 0, .int .u32 0, .int .u32 0, .int .u32 0, .int .i64 0, .int .i64 0, .int .i64 0, .int .u32 0, .int .u32 0] w rfl h
theorem there11 {w : World} {b : Nat} (h : w.heap[b]? = some (.cells #[.int .u32 0, .int .u32 0, .int .u32 0, .int .u32 0, .int .u32 0, .int .u32 0, .int .i64 0, .int .i64 0, .int .i64 0, .int .u32 0, .int .u32 0] 136 (0, 0))) : w.there b 0 11 := fun j hj => by
  have k := Lib.cell_of_heap h (0 + j)
  refine ⟨?_, frz h _⟩
  rw [k]
  match j, hj with
  | 0, _ => rfl
  | 1, _ => rfl
  | 2, _ => rfl
  | 3, _ => rfl
  | 4, _ => rfl
  | 5, _ => rfl
  | 6, _ => rfl
  | 7, _ => rfl
  | 8, _ => rfl
  | 9, _ => rfl
  | 10, _ => rfl
theorem step_store11 {ops : Array Oper} {o : Oper} {a : Act} {w : World} {b : Nat} {r : Rc} {K : Act → World → Prop} {Q : Exit → Act → World → Prop} {Z : Prop} (hg : o.guard = none) (x y : Operand) (hop : o.op = .store 136 x y) (hx : a.eval x = .pointer (some ⟨b, 0, none⟩)) (hy : a.eval y = rcV r)
    (hb : w.heap[b]? = some (.cells #[.int .u32 0, .int .u32 0, .int .u32 0, .int .u32 0, .int .u32 0, .int .u32 0, .int .i64 0, .int .i64 0, .int .i64 0, .int .u32 0, .int .u32 0] 136 (0, 0))) (hK : K (a.put o.dst undef) (w.setCells b 0 (rcF r))) : if Region.wanted o (yielded ops a.tmps) = true then Oper.wp Try.prog o a w K Q else Z := by
  have hw : Region.wanted o (yielded ops a.tmps) = true := by simp [Region.wanted, hg]
  rw [if_pos hw]
  exact wp_store_mid 136 x y hop b 0 #[.int .u32 r.ms, .int .u32 r.mg, .int .u32 r.ws, .int .u32 r.wg, .int .u32 r.rs, .int .u32 r.rg, .int .i64 r.rd, .int .i64 r.ar, .int .i64 r.vn, .int .u32 r.vs, .int .u32 r.vg] hx hy (there11 hb) (by kernel_rfl) (lay_one r) hK

abbrev plV (bp : Nat) (s g : Int) : Value := .agg #[.pointer (some ⟨bp, 0, none⟩), .int .u32 s, .int .u32 g]

theorem res_row (tm : Array Value) (A : Nat) (Z : World) (s g d : Int) (h2 : tm[4]?.getD undef = .pointer (some ⟨A, 0, none⟩)) (c0 : Z.cell? ⟨A, 0, none⟩ = some (.int .u32 s)) (c1 : Z.cell? ⟨A, 1, none⟩ = some (.int .u32 g)) (c2 : Z.cell? ⟨A, 2, none⟩ = some (.int .i64 d)) :
    (results Try.f100 tm).run Try.prog Z = .ok (rvW s g d) Z := by
  simp [results, Try.f100, h2, go_sem, c0, c1, c2]
theorem Ch.setCells {Q : Nat → Prop} {C : Nat} (hC : Q C) : ∀ (vs : List Value) (o : Nat) (w : World), Ch Q w (w.setCells C o vs)
  | [], _, _ => Ch.refl _ _
  | v :: vs, o, w => (Ch.set w hC o v).trans (Ch.setCells hC vs (o + 1) _) (fun _ _ h => h)

set_option maxRecDepth 100000 in
theorem prow_is (w : World) (bp : Nat) (s g d : Int) : Calls Try.prog 100 #[plV bp s g, .int .i64 d] w fun e w' => e = .returned (rvW s g d) ∧ Below w.heap.size w w' := by
  go_enter Try.func100, Try.ntmps100
  go_wp2
  have hn := heap_new (w.alloc (.cells #[.pointer (some ⟨bp, 0, none⟩), .int .u32 s, .int .u32 g] 145)) (.cells #[.int .u32 s, .int .u32 g, .int .i64 d] 133)
  rw [World.size_alloc] at hn
  have hb : Below w.heap.size w ((w.alloc (.cells #[.pointer (some ⟨bp, 0, none⟩), .int .u32 s, .int .u32 g] 145)).alloc (.cells #[.int .u32 s, .int .u32 g, .int .i64 d] 133)) := (below1 _ _).trans ((below1 _ _).mono (by rw [World.size_alloc]; exact Nat.le_succ _))
  refine bodyPost_ret (v := rvW s g d) (res_row _ (w.heap.size + 1) _ s g d rfl ?_ ?_ ?_) rfl ⟨rfl, hb⟩
  · simp [Lib.cell_of_heap hn]
  · simp [Lib.cell_of_heap hn]
  · simp [Lib.cell_of_heap hn]

theorem res_pfirst (tm : Array Value) (A : Nat) (Z : World) (r : Rc) (q : Bool) (h4 : tm[4]?.getD undef = .pointer (some ⟨A, 0, none⟩)) (h5 : tm[5]?.getD undef = .bool q) (hb : Z.heap[A]? = some (.cells #[.int .u32 r.ms, .int .u32 r.mg, .int .u32 r.ws, .int .u32 r.wg, .int .u32 r.rs, .int .u32 r.rg, .int .i64 r.rd, .int .i64 r.ar, .int .i64 r.vn, .int .u32 r.vs, .int .u32 r.vg] 136 (0, 0))) :
    (results Try.f103 tm).run Try.prog Z = .ok (.tuple #[rcV r, .bool q]) Z := by
  have e := Lib.cell_of_heap hb
  simp [results, Try.f103, go_sem, h4, h5, e]

abbrev kpf0 : Oper := { dst := some 6, op := Op.fieldAddr 145 (Operand.tmp 2) 0, type := 0, pos := "place.go:18", after := #[], guard := none }
abbrev kpf1 : Oper := { dst := some 7, op := Op.load 24 (Operand.tmp 6), type := 24, pos := "place.go:18", after := #[{ on := 0, ground := Ground.data }], guard := none }
abbrev kpf2 : Oper := { dst := some 8, op := Op.load 145 (Operand.tmp 2), type := 145, pos := "place.go:18", after := #[], guard := none }
abbrev kpf3 : Oper := { dst := some 9, op := Op.move (Operand.tmp 1), type := 44, pos := "place.go:18", after := #[], guard := none }
abbrev kpf4 : Oper := { dst := some 10, op := Op.call { callee := Callee.value (Operand.func 100), args := #[Operand.tmp 8, Operand.tmp 9], argTypes := #[145, 44] }, type := 133, pos := "place.go:18", after := #[{ on := 2, ground := Ground.data }, { on := 3, ground := Ground.data }], guard := none }
abbrev kpf5 : Oper := { dst := some 11, op := Op.call { callee := Callee.value (Operand.func 68), args := #[Operand.tmp 7, Operand.tmp 10], argTypes := #[24, 133] }, type := 156, pos := "place.go:18", after := #[{ on := 1, ground := Ground.data }, { on := 4, ground := Ground.data }, { on := 4, ground := Ground.chain }], guard := none }
abbrev kpf6 : Oper := { dst := some 12, op := Op.extract (Operand.tmp 11) 0, type := 136, pos := "place.go:18", after := #[{ on := 5, ground := Ground.data }], guard := none }
abbrev kpf7 : Oper := { dst := some 13, op := Op.extract (Operand.tmp 11) 1, type := 4, pos := "place.go:18", after := #[{ on := 5, ground := Ground.data }], guard := none }
abbrev kpf8 : Oper := { dst := none, op := Op.store 136 (Operand.tmp 4) (Operand.tmp 12), type := 0, pos := "place.go:18", after := #[{ on := 6, ground := Ground.data }, { on := 5, ground := Ground.chain }, { on := 0, ground := Ground.phase }, { on := 1, ground := Ground.phase }, { on := 2, ground := Ground.phase }, { on := 3, ground := Ground.phase }, { on := 4, ground := Ground.phase }, { on := 5, ground := Ground.phase }, { on := 6, ground := Ground.phase }, { on := 7, ground := Ground.phase }], guard := none }
abbrev kpf9 : Oper := { dst := some 5, op := Op.assign (Operand.tmp 13), type := 4, pos := "place.go:18", after := #[{ on := 7, ground := Ground.data }, { on := 8, ground := Ground.chain }, { on := 0, ground := Ground.phase }, { on := 1, ground := Ground.phase }, { on := 2, ground := Ground.phase }, { on := 3, ground := Ground.phase }, { on := 4, ground := Ground.phase }, { on := 5, ground := Ground.phase }, { on := 6, ground := Ground.phase }, { on := 7, ground := Ground.phase }, { on := 8, ground := Ground.phase }], guard := none }

set_option maxRecDepth 100000 in
set_option maxHeartbeats 4000000 in
theorem pfirst_is {w : World} {B bp : Nat} {F : Nat → Prop} {l : List Wt} (h : PTb w B F bp l) (hl : l.length ≤ 100000) {s g d : Int} (us : UsW s) (ug : UsW g) (id : I64 d) : Calls Try.prog 103 #[plV bp s g, .int .i64 d] w fun e w' => e = .returned (.tuple #[rcV ((sel (inRow s g d) l).headD zRc), .bool (!(sel (inRow s g d) l).isEmpty)]) ∧ Below w.heap.size w w' := by
  obtain ⟨w1, hw1⟩ : ∃ w1, w.alloc (.cells #[.pointer (some ⟨bp, 0, none⟩), .int .u32 s, .int .u32 g] 145) = w1 := ⟨_, rfl⟩
  have hz1 : w1.heap.size = w.heap.size + 1 := by rw [← hw1, World.size_alloc]
  have hn0 : w1.heap[w.heap.size]? = some (.cells #[.pointer (some ⟨bp, 0, none⟩), .int .u32 s, .int .u32 g] 145 (0, 0)) := by rw [← hw1]; exact heap_new _ _
  obtain ⟨w2, hw2⟩ : ∃ w2, w1.alloc (.cells #[.int .u32 0, .int .u32 0, .int .u32 0, .int .u32 0, .int .u32 0, .int .u32 0, .int .i64 0, .int .i64 0, .int .i64 0, .int .u32 0, .int .u32 0] 136) = w2 := ⟨_, rfl⟩
  have hn1 : w2.heap[w1.heap.size]? = some (.cells #[.int .u32 0, .int .u32 0, .int .u32 0, .int .u32 0, .int .u32 0, .int .u32 0, .int .i64 0, .int .i64 0, .int .i64 0, .int .u32 0, .int .u32 0] 136 (0, 0)) := by rw [← hw2]; exact heap_new _ _
  have c12 : Ch (fun _ => False) w1 w2 := by rw [← hw2]; exact Ch.alloc _ _
  have C2 := hide ((show Ch (fun _ => False) w w1 by rw [← hw1]; exact Ch.alloc _ _).trans c12 (fun _ _ h => h))
  have HN := hide (And.intro (c12.box hn0 (fun h => h)) hn1)
  have HZ := hide hz1
  have HP := hide (face.ch h C2.out (fun _ _ h => h))
  obtain ⟨r, hr⟩ : ∃ r, (sel (inRow s g d) l).headD zRc = r := ⟨_, rfl⟩
  obtain ⟨q, hq⟩ : ∃ q, (!(sel (inRow s g d) l).isEmpty) = q := ⟨_, rfl⟩
  have HFI := hide (fun W (cW : Ch (fun _ => False) w2 W) => face.first s g d us ug id (face.ch HP.out cW (fun _ _ h => h)) hl)
  rw [hr, hq] at HFI
  rw [hr, hq]
  clear hn0 hn1 c12 h hr hq us ug id hz1
  go_enter Try.func103, Try.ntmps103
  go_wp2
  clear hw1 hw2
  refine wp_reg (fun y => y = w1.heap.size) (R := fun V => Ch (fun _ => False) w2 V) (by kernel_rfl) (Ch.drew _) (fun V cV zk => ?_)
  have CV := hide cV
  clear cV
  have HX := hide (fun wq (kq : Ch (fun y => y = w1.heap.size) V wq) => show wq.cell? ⟨w.heap.size, 0, none⟩ = some (.pointer (some ⟨bp, 0, none⟩)) ∧ wq.cell? ⟨w.heap.size, 1, none⟩ = some (.int .u32 s) ∧ wq.cell? ⟨w.heap.size, 2, none⟩ = some (.int .u32 g) from by
    have e := Lib.cell_of_heap (kq.box (CV.out.box HN.out.1 (fun h => h)) (fun e => by have := HZ.out; omega))
    exact ⟨by simp [e], by simp [e], by simp [e]⟩)
  apply tk 0 kpf0 rfl (by kernel_rfl) (fun _ _ _ h => h) zk
  · intro wq zq
    go_simp
    try rfl
  go_frame
  apply tk 1 kpf1 rfl (by kernel_rfl) (fun _ _ _ h => h) zk
  · intro wq zq
    obtain ⟨s1, s2, s3⟩ := HX.out _ zq
    go_simp
    try rfl
  go_frame
  apply tk 2 kpf2 rfl (by kernel_rfl) (fun _ _ _ h => h) zk
  · intro wq zq
    obtain ⟨s1, s2, s3⟩ := HX.out _ zq
    go_simp
    try rfl
  go_frame
  apply tk 3 kpf3 rfl (by kernel_rfl) (fun _ _ _ h => h) zk
  · intro wq zq
    go_simp
    try rfl
  go_frame
  refine Go.Proofs.Ytbblmbbpicinlaa.rd 4 kpf4 rfl (by kernel_rfl) fun K hK => ?_
  go_simp
  refine (prow_is V bp s g d).mono ?_
  rintro e w3 ⟨rfl, hb3⟩
  have C3 := hide (CV.out.trans (Ch.of_below hb3) (fun _ _ h => h))
  have Z3 := hide (zk.trans (Ch.of_below (Q := fun y => y = w1.heap.size) hb3) (fun _ _ h => h))
  clear hb3
  go_wp2_with fail
  refine hK.out _ _ ?_ (fun zk => ?_)
  · exact Z3.out
  clear hK K
  try go_frame
  refine Go.Proofs.Ytbblmbbpicinlaa.rd 5 kpf5 rfl (by kernel_rfl) fun K hK => ?_
  go_simp
  refine (HFI.out w3 C3.out).mono ?_
  rintro e w4 ⟨rfl, hb4⟩
  have C4 := hide (C3.out.trans (Ch.of_below hb4) (fun _ _ h => h))
  have Z4 := hide (zk.trans (Ch.of_below (Q := fun y => y = w1.heap.size) hb4) (fun _ _ h => h))
  clear hb4
  go_wp2_with fail
  refine hK.out _ _ ?_ (fun zk => ?_)
  · exact Z4.out
  clear hK K
  try go_frame
  apply tk 6 kpf6 rfl (by kernel_rfl) (fun _ _ _ h => h) zk
  · intro wq zq
    go_simp
    try rfl
  go_frame
  apply tk 7 kpf7 rfl (by kernel_rfl) (fun _ _ _ h => h) zk
  · intro wq zq
    go_simp
    try rfl
  go_frame
  have n1 := C4.out.box HN.out.2 (fun h => h)
  have HS := hide (set11 n1 r)
  refine Go.Proofs.Ytbblmbbpicinlaa.rd 8 kpf8 rfl (by kernel_rfl) fun K hK => ?_
  refine step_store11 (r := r) (b := w1.heap.size) rfl (.tmp 4) (.tmp 12) rfl rfl rfl n1 ?_
  clear n1
  have HC := hide (Ch.setCells (Q := fun y => y = w1.heap.size) rfl (rcF r) 0 w4)
  refine hK.out _ _ ?_ (fun zk => ?_)
  · exact zk.trans HC.out (fun _ _ h => h)
  clear hK K
  try go_frame
  apply tk 9 kpf9 rfl (by kernel_rfl) (fun _ _ _ h => h) zk
  · intro wq zq
    go_simp
    try rfl
  go_frame
  refine wpAnyH_done (by kernel_rfl) ?_ _
  go_wp2
  refine bodyPost_ret (v := .tuple #[rcV r, .bool q]) (res_pfirst _ w1.heap.size _ r q rfl rfl HS.out) rfl ⟨rfl, ?_⟩
  exact ((C2.out.trans C4.out (fun _ _ h => h)).trans HC.out (fun y hy e => by have := HZ.out; omega)).below (Nat.le_refl _) (fun _ _ h => h)

end Go.Proofs.Ytbblmbbpicinlaa

namespace Go.Proofs.Ytbblmbbpicinlaa
open Go.RowKit

abbrev kpa0 : Oper := { dst := some 9, op := Op.fieldAddr 145 (Operand.tmp 4) 0, type := 0, pos := "place.go:31", after := #[], guard := none }
abbrev kpa1 : Oper := { dst := some 10, op := Op.load 24 (Operand.tmp 9), type := 24, pos := "place.go:31", after := #[{ on := 0, ground := Ground.data }], guard := none }
abbrev kpa2 : Oper := { dst := some 11, op := Op.load 145 (Operand.tmp 4), type := 145, pos := "place.go:31", after := #[], guard := none }
abbrev kpa3 : Oper := { dst := some 12, op := Op.move (Operand.tmp 1), type := 44, pos := "place.go:31", after := #[], guard := none }
abbrev kpa4 : Oper := { dst := some 13, op := Op.call { callee := Callee.value (Operand.func 100), args := #[Operand.tmp 11, Operand.tmp 12], argTypes := #[145, 44] }, type := 133, pos := "place.go:31", after := #[{ on := 2, ground := Ground.data }, { on := 3, ground := Ground.data }], guard := none }
abbrev kpa5 : Oper := { dst := some 14, op := Op.load 43 (Operand.tmp 6), type := 43, pos := "place.go:31", after := #[], guard := none }
abbrev kpa6 : Oper := { dst := some 15, op := Op.load 46 (Operand.tmp 7), type := 46, pos := "place.go:31", after := #[], guard := none }
abbrev kpa7 : Oper := { dst := some 16, op := Op.call { callee := Callee.value (Operand.func 56), args := #[Operand.tmp 10, Operand.tmp 13, Operand.tmp 14, Operand.const (Value.int IntKind.i64 0), Operand.tmp 15], argTypes := #[24, 133, 43, 3, 46] }, type := 130, pos := "place.go:31", after := #[{ on := 1, ground := Ground.data }, { on := 4, ground := Ground.data }, { on := 5, ground := Ground.data }, { on := 6, ground := Ground.data }, { on := 4, ground := Ground.chain }], guard := none }

set_option maxRecDepth 100000 in
set_option maxHeartbeats 4000000 in
theorem phas_is {w : World} {B bp : Nat} {F : Nat → Prop} {l : List Wt} (h : PTb w B F bp l) (hl : l.length ≤ 100000) {s g d : Int} (us : UsW s) (ug : UsW g) (id : I64 d) : Calls Try.prog 74 #[plV bp s g, .int .i64 d] w fun e w' => e = .returned (.bool (!(sel (inRow s g d) l).isEmpty)) ∧ Below w.heap.size w w' := by
  obtain ⟨w1, hw1⟩ : ∃ w1, w.alloc (.cells #[.pointer (some ⟨bp, 0, none⟩), .int .u32 s, .int .u32 g] 145) = w1 := ⟨_, rfl⟩
  have hc1 : Ch (fun _ => False) w w1 := by rw [← hw1]; exact Ch.alloc _ _
  have hz1 : w1.heap.size = w.heap.size + 1 := by rw [← hw1, World.size_alloc]
  have hn1 : w1.heap[w.heap.size]? = some (.cells #[.pointer (some ⟨bp, 0, none⟩), .int .u32 s, .int .u32 g] 145 (0, 0)) := by rw [← hw1]; exact heap_new _ _
  have HP := hide (pfirst_is (face.ch h hc1 (fun _ _ h => h)) hl us ug id)
  obtain ⟨r, hr⟩ : ∃ r, (sel (inRow s g d) l).headD zRc = r := ⟨_, rfl⟩
  obtain ⟨q, hq⟩ : ∃ q, (!(sel (inRow s g d) l).isEmpty) = q := ⟨_, rfl⟩
  rw [hr, hq] at HP
  rw [hq]
  have s0 : w1.cell? ⟨w.heap.size, 0, none⟩ = some (.pointer (some ⟨bp, 0, none⟩)) := by simp [Lib.cell_of_heap hn1]
  have s1 : w1.cell? ⟨w.heap.size, 1, none⟩ = some (.int .u32 s) := by simp [Lib.cell_of_heap hn1]
  have s2 : w1.cell? ⟨w.heap.size, 2, none⟩ = some (.int .u32 g) := by simp [Lib.cell_of_heap hn1]
  have HC := hide hc1
  clear h hc1 hz1 hn1 hr hq us ug id
  go_enter Try.func74, Try.ntmps74
  go_wp2_with fail
  refine HP.out.mono ?_
  rintro e w2 ⟨rfl, hb2⟩
  have HB := hide ((HC.out.trans (Ch.of_below hb2) (fun _ _ h => h)).below (Nat.le_refl _) (fun _ _ h => h))
  clear hb2 s0 s1 s2 hw1
  go_wp2
  go_ret
  exact ⟨rfl, HB.out.trans ((below1 _ _).mono HB.out.size)⟩

/-- an answer -/
abbrev didV (fate : Int) (v : Va) (ok : Bool) (wk : Value) : Value := .agg #[.int .i64 fate, .int .i64 v.n, .int .u32 v.s, .int .u32 v.g, .bool ok, wk]
theorem res_park (tm : Array Value) (A : Nat) (Z : World) (fate n a b : Int) (ok : Bool) (wk : Value) (h2 : tm[8]?.getD undef = .pointer (some ⟨A, 0, none⟩)) (hb : Z.heap[A]? = some (.cells #[.int .i64 fate, .int .i64 n, .int .u32 a, .int .u32 b, .bool ok, wk] 72 (0, 0))) :
    (results Try.f64 tm).run Try.prog Z = .ok (didV fate ⟨n, a, b⟩ ok wk) Z := by
  have e := Lib.cell_of_heap hb
  simp [results, Try.f64, h2, go_sem, e]

theorem did_set {w : World} {A : Nat} {a0 a1 a2 a3 a4 a5 : Value} (hn : w.heap[A]? = some (.cells #[a0, a1, a2, a3, a4, a5] 72 (0, 0))) (v0 v1 v2 v3 v4 v5 : Value) : ((((((w.setCell ⟨A, 0, none⟩ v0).setCell ⟨A, 1, none⟩ v1).setCell ⟨A, 2, none⟩ v2).setCell ⟨A, 3, none⟩ v3).setCell ⟨A, 4, none⟩ v4).setCell ⟨A, 5, none⟩ v5).heap[A]? = some (.cells #[v0, v1, v2, v3, v4, v5] 72 (0, 0)) ∧ Ch (fun y => y = A) w ((((((w.setCell ⟨A, 0, none⟩ v0).setCell ⟨A, 1, none⟩ v1).setCell ⟨A, 2, none⟩ v2).setCell ⟨A, 3, none⟩ v3).setCell ⟨A, 4, none⟩ v4).setCell ⟨A, 5, none⟩ v5) :=
  ⟨by rw [heap_set (heap_set (heap_set (heap_set (heap_set (heap_set hn 0 _) 1 _) 2 _) 3 _) 4 _) 5 _]; rfl, (((((Ch.set (Q := fun y => y = A) w rfl 0 _).trans (Ch.set (Q := fun y => y = A) _ rfl 1 _) (fun _ _ h => h)).trans (Ch.set (Q := fun y => y = A) _ rfl 2 _) (fun _ _ h => h)).trans (Ch.set (Q := fun y => y = A) _ rfl 3 _) (fun _ _ h => h)).trans (Ch.set (Q := fun y => y = A) _ rfl 4 _) (fun _ _ h => h)).trans (Ch.set (Q := fun y => y = A) _ rfl 5 _) (fun _ _ h => h)⟩

set_option maxRecDepth 100000 in
set_option maxHeartbeats 4000000 in
theorem park_is {w : World} {B bp : Nat} {F : Nat → Prop} {l : List Wt} (h : PTb w B F bp l) (hl : l.length ≤ 100000) (hB : B ≤ w.heap.size) {s g d ws wg : Int} (us : UsW s) (ug : UsW g) (id : I64 d) (uws : UsW ws) (uwg : UsW wg) {v : Va} (iv : I64 v.n) (uvs : UsW v.s) (uvg : UsW v.g) : Calls Try.prog 64 #[plV bp s g, .int .i64 d, hvW ws wg, vaV v] w fun e w' => e = .returned (didV 1 zVa false (.slice none 0 0)) ∧ ∃ F', PTb w' B F' bp (putW l s g d ws wg 0 v.n v.s v.g) ∧ Ch F w w' ∧ ∀ y, F' y → F y ∨ w.heap.size ≤ y := by
  obtain ⟨w1, hw1⟩ : ∃ w1, w.alloc (.cells #[.pointer (some ⟨bp, 0, none⟩), .int .u32 s, .int .u32 g] 145) = w1 := ⟨_, rfl⟩
  have hc1 : Ch (fun _ => False) w w1 := by rw [← hw1]; exact Ch.alloc _ _
  have hz1 : w1.heap.size = w.heap.size + 1 := by rw [← hw1, World.size_alloc]
  have hn1 : w1.heap[w.heap.size]? = some (.cells #[.pointer (some ⟨bp, 0, none⟩), .int .u32 s, .int .u32 g] 145 (0, 0)) := by rw [← hw1]; exact heap_new _ _
  obtain ⟨w2, hw2⟩ : ∃ w2, w1.alloc (.cells #[.int .u32 ws, .int .u32 wg] 43) = w2 := ⟨_, rfl⟩
  have hc2 : Ch (fun _ => False) w1 w2 := by rw [← hw2]; exact Ch.alloc _ _
  have hz2 : w2.heap.size = w1.heap.size + 1 := by rw [← hw2, World.size_alloc]
  have hn2 : w2.heap[w1.heap.size]? = some (.cells #[.int .u32 ws, .int .u32 wg] 43 (0, 0)) := by rw [← hw2]; exact heap_new _ _
  replace hn1 := hc2.box hn1 (fun h => h)
  obtain ⟨w3, hw3⟩ : ∃ w3, w2.alloc (.cells #[.int .i64 v.n, .int .u32 v.s, .int .u32 v.g] 46) = w3 := ⟨_, rfl⟩
  have hc3 : Ch (fun _ => False) w2 w3 := by rw [← hw3]; exact Ch.alloc _ _
  have hz3 : w3.heap.size = w2.heap.size + 1 := by rw [← hw3, World.size_alloc]
  have hn3 : w3.heap[w2.heap.size]? = some (.cells #[.int .i64 v.n, .int .u32 v.s, .int .u32 v.g] 46 (0, 0)) := by rw [← hw3]; exact heap_new _ _
  replace hn1 := hc3.box hn1 (fun h => h)
  replace hn2 := hc3.box hn2 (fun h => h)
  obtain ⟨w4, hw4⟩ : ∃ w4, w3.alloc (.cells #[.int .i64 0, .int .i64 0, .int .u32 0, .int .u32 0, .bool false, .slice none 0 0] 72) = w4 := ⟨_, rfl⟩
  have hc4 : Ch (fun _ => False) w3 w4 := by rw [← hw4]; exact Ch.alloc _ _
  have hz4 : w4.heap.size = w3.heap.size + 1 := by rw [← hw4, World.size_alloc]
  have hn4 : w4.heap[w3.heap.size]? = some (.cells #[.int .i64 0, .int .i64 0, .int .u32 0, .int .u32 0, .bool false, .slice none 0 0] 72 (0, 0)) := by rw [← hw4]; exact heap_new _ _
  replace hn1 := hc4.box hn1 (fun h => h)
  replace hn2 := hc4.box hn2 (fun h => h)
  replace hn3 := hc4.box hn3 (fun h => h)
  have C4 := hide (((hc1.trans hc2 (fun _ _ h => h)).trans hc3 (fun _ _ h => h)).trans hc4 (fun _ _ h => h))
  have HN := hide (And.intro hn1 (And.intro hn2 (And.intro hn3 hn4)))
  have HP := hide (face.ch h C4.out (fun _ _ h => h))
  have HF := hide (face.foot h)
  have HZ := hide (And.intro hz1 (And.intro hz2 (And.intro hz3 hz4)))
  have HPU := hide (fun W (cW : Ch (fun _ => False) w4 W) => face.put s g d ws wg 0 v.n v.s v.g us ug id uws uwg (by constructor <;> decide) iv uvs uvg (face.ch HP.out cW (fun _ _ h => h)) hl (Nat.le_trans hB (Nat.le_trans C4.out.size cW.size)))
  clear h hc1 hc2 hc3 hc4 hz1 hz2 hz3 hz4 hn1 hn2 hn3 hn4 us ug id uws uwg iv uvs uvg hB
  go_enter Try.func64, Try.ntmps64
  go_wp2
  clear hw1 hw2 hw3 hw4
  refine wp_reg F (R := fun V => Ch (fun _ => False) w4 V) (by kernel_rfl) (Ch.drew _) (fun V cV zk => ?_)
  have CV := hide cV
  clear cV
  have HX := hide (fun wq (kq : Ch F V wq) => show (wq.cell? ⟨w.heap.size, 0, none⟩ = some (.pointer (some ⟨bp, 0, none⟩)) ∧ wq.cell? ⟨w.heap.size, 1, none⟩ = some (.int .u32 s) ∧ wq.cell? ⟨w.heap.size, 2, none⟩ = some (.int .u32 g)) ∧ (wq.cell? ⟨w1.heap.size, 0, none⟩ = some (.int .u32 ws) ∧ wq.cell? ⟨w1.heap.size, 1, none⟩ = some (.int .u32 wg)) ∧ wq.cell? ⟨w2.heap.size, 0, none⟩ = some (.int .i64 v.n) ∧ wq.cell? ⟨w2.heap.size, 1, none⟩ = some (.int .u32 v.s) ∧ wq.cell? ⟨w2.heap.size, 2, none⟩ = some (.int .u32 v.g) from by
    have nF : ∀ y, w.heap.size ≤ y → ¬ F y := fun y hy e => by have := (HF.out y e).2; omega
    have hz := HZ.out
    have e1 := Lib.cell_of_heap (kq.box (CV.out.box HN.out.1 (fun h => h)) (nF _ (Nat.le_refl _)))
    have e2 := Lib.cell_of_heap (kq.box (CV.out.box HN.out.2.1 (fun h => h)) (nF _ (by omega)))
    have e3 := Lib.cell_of_heap (kq.box (CV.out.box HN.out.2.2.1 (fun h => h)) (nF _ (by omega)))
    exact ⟨⟨by simp [e1], by simp [e1], by simp [e1]⟩, ⟨by simp [e2], by simp [e2]⟩, by simp [e3], by simp [e3], by simp [e3]⟩)
  apply tk 0 kpa0 rfl (by kernel_rfl) (fun _ _ _ h => h) zk
  · intro wq zq
    go_simp
    try rfl
  go_frame
  apply tk 1 kpa1 rfl (by kernel_rfl) (fun _ _ _ h => h) zk
  · intro wq zq
    obtain ⟨⟨s1, s2, s3⟩, ⟨s4, s5⟩, s6, s7, s8⟩ := HX.out _ zq
    go_simp
    try rfl
  go_frame
  apply tk 2 kpa2 rfl (by kernel_rfl) (fun _ _ _ h => h) zk
  · intro wq zq
    obtain ⟨⟨s1, s2, s3⟩, ⟨s4, s5⟩, s6, s7, s8⟩ := HX.out _ zq
    go_simp
    try rfl
  go_frame
  apply tk 3 kpa3 rfl (by kernel_rfl) (fun _ _ _ h => h) zk
  · intro wq zq
    go_simp
    try rfl
  go_frame
  apply tk 5 kpa5 rfl (by kernel_rfl) (fun _ _ _ h => h) zk
  · intro wq zq
    obtain ⟨⟨s1, s2, s3⟩, ⟨s4, s5⟩, s6, s7, s8⟩ := HX.out _ zq
    go_simp
    try rfl
  go_frame
  apply tk 6 kpa6 rfl (by kernel_rfl) (fun _ _ _ h => h) zk
  · intro wq zq
    obtain ⟨⟨s1, s2, s3⟩, ⟨s4, s5⟩, s6, s7, s8⟩ := HX.out _ zq
    go_simp
    try rfl
  go_frame
  refine Go.Proofs.Ytbblmbbpicinlaa.rd 4 kpa4 rfl (by kernel_rfl) fun K hK => ?_
  go_simp
  refine (prow_is V bp s g d).mono ?_
  rintro e w5 ⟨rfl, hb5⟩
  have C5 := hide (CV.out.trans (Ch.of_below hb5) (fun _ _ h => h))
  have Z5 := hide (zk.trans (Ch.of_below (Q := F) hb5) (fun _ _ h => h))
  clear hb5
  go_wp2_with fail
  refine hK.out _ _ ?_ (fun zk => ?_)
  · exact Z5.out
  clear hK K
  try go_frame
  refine Go.Proofs.Ytbblmbbpicinlaa.rd 7 kpa7 rfl (by kernel_rfl) fun K hK => ?_
  go_simp
  refine (HPU.out w5 C5.out).mono ?_
  rintro e w6 ⟨F6, rfl, hp6, hc6, hd6⟩
  have P6 := hide (And.intro hp6 hd6)
  have C6 := hide hc6
  have Z6 := hide (zk.trans hc6 (fun _ _ h => h))
  clear hp6 hc6 hd6
  go_wp2_with fail
  refine hK.out _ _ ?_ (fun zk => ?_)
  · exact Z6.out
  clear hK K
  try go_frame
  refine wpAnyH_done (by kernel_rfl) ?_ _
  have n4 := C6.out.box (C5.out.box HN.out.2.2.2 (fun h => h)) (fun e => by have h1 := (HF.out _ e).2; have h2 := HZ.out; omega)
  have N4 := hide n4
  have HCL := hide (Lib.cell_of_heap n4)
  have d0 : w6.cell? ⟨w3.heap.size, 0, none⟩ = some (.int .i64 0) := by simp [HCL.out]
  have d1 : w6.cell? ⟨w3.heap.size, 1, none⟩ = some (.int .i64 0) := by simp [HCL.out]
  have d2 : w6.cell? ⟨w3.heap.size, 2, none⟩ = some (.int .u32 0) := by simp [HCL.out]
  have d3 : w6.cell? ⟨w3.heap.size, 3, none⟩ = some (.int .u32 0) := by simp [HCL.out]
  have d4 : w6.cell? ⟨w3.heap.size, 4, none⟩ = some (.bool false) := by simp [HCL.out]
  have d5 : w6.cell? ⟨w3.heap.size, 5, none⟩ = some (.slice none 0 0) := by simp [HCL.out]
  have df : ∀ o, w6.frozen? ⟨w3.heap.size, o, none⟩ = false := fun o => by simp [World.frozen?, n4]
  have HS := hide (did_set N4.out (.int .i64 1) (.int .i64 0) (.int .u32 0) (.int .u32 0) (.bool false) (.slice none 0 0))
  clear n4 d0 d1 d2 d3 d4 d5 df
  clear zk
  have d0 : w6.cell? ⟨w3.heap.size, 0, none⟩ = some (.int .i64 0) := by simp [HCL.out]
  have d1 : w6.cell? ⟨w3.heap.size, 1, none⟩ = some (.int .i64 0) := by simp [HCL.out]
  have d2 : w6.cell? ⟨w3.heap.size, 2, none⟩ = some (.int .u32 0) := by simp [HCL.out]
  have d3 : w6.cell? ⟨w3.heap.size, 3, none⟩ = some (.int .u32 0) := by simp [HCL.out]
  have d4 : w6.cell? ⟨w3.heap.size, 4, none⟩ = some (.bool false) := by simp [HCL.out]
  have d5 : w6.cell? ⟨w3.heap.size, 5, none⟩ = some (.slice none 0 0) := by simp [HCL.out]
  have df : ∀ o, w6.frozen? ⟨w3.heap.size, o, none⟩ = false := fun o => by simp [World.frozen?, N4.out]
  go_wp2
  have hz := HZ.out
  have z5 := C5.out.size
  refine bodyPost_ret (v := didV 1 zVa false (.slice none 0 0)) (res_park _ w3.heap.size _ 1 0 0 0 false _ rfl HS.out.1) rfl ⟨rfl, F6, face.ch P6.out.1 HS.out.2 (fun y hy e => ?_), ?_, fun y hy => ?_⟩
  · rcases P6.out.2 y hy with h | h
    · have := (HF.out y h).2; omega
    · omega
  · exact (((C4.out.trans C5.out (fun _ _ h => h)).mono (Q' := F) (fun _ _ h => h.elim)).trans C6.out (fun _ _ h => h)).trans HS.out.2 (fun y hy e => by omega)
  · rcases P6.out.2 y hy with h | h
    · exact .inl h
    · exact .inr (by have := C4.out.size; omega)

/-- what somebody comes back with; who, and that -/
abbrev gotV (a : Int) (v : Va) (ok : Bool) (f : Int) : Value := .agg #[.int .i64 a, .int .i64 v.n, .int .u32 v.s, .int .u32 v.g, .bool ok, .int .i64 f]
def wkF (s g a : Int) (v : Va) (ok : Bool) (f : Int) : List Value := [.int .u32 s, .int .u32 g, .int .i64 a, .int .i64 v.n, .int .u32 v.s, .int .u32 v.g, .bool ok, .int .i64 f]
abbrev wkV (s g a : Int) (v : Va) (ok : Bool) (f : Int) : Value := .agg #[.int .u32 s, .int .u32 g, .int .i64 a, .int .i64 v.n, .int .u32 v.s, .int .u32 v.g, .bool ok, .int .i64 f]
theorem res_wake (tm : Array Value) (A : Nat) (Z : World) (s g a : Int) (v : Va) (ok : Bool) (f : Int) (h2 : tm[6]?.getD undef = .pointer (some ⟨A, 0, none⟩)) (hb : Z.heap[A]? = some (.cells (wkF s g a v ok f).toArray 119 (0, 0))) :
    (results Try.f104 tm).run Try.prog Z = .ok (wkV s g a v ok f) Z := by
  have e := Lib.cell_of_heap hb
  simp [results, Try.f104, h2, go_sem, e, wkF]

theorem wk_set {w : World} {A : Nat} {a0 a1 a2 a3 a4 a5 a6 a7 : Value} (hn : w.heap[A]? = some (.cells #[a0, a1, a2, a3, a4, a5, a6, a7] 119 (0, 0))) (v0 v1 v2 v3 v4 v5 v6 v7 : Value) : ((((((((w.setCell ⟨A, 0, none⟩ v0).setCell ⟨A, 1, none⟩ v1).setCell ⟨A, 2, none⟩ v2).setCell ⟨A, 3, none⟩ v3).setCell ⟨A, 4, none⟩ v4).setCell ⟨A, 5, none⟩ v5).setCell ⟨A, 6, none⟩ v6).setCell ⟨A, 7, none⟩ v7).heap[A]? = some (.cells #[v0, v1, v2, v3, v4, v5, v6, v7] 119 (0, 0)) ∧ Ch (fun y => y = A) w ((((((((w.setCell ⟨A, 0, none⟩ v0).setCell ⟨A, 1, none⟩ v1).setCell ⟨A, 2, none⟩ v2).setCell ⟨A, 3, none⟩ v3).setCell ⟨A, 4, none⟩ v4).setCell ⟨A, 5, none⟩ v5).setCell ⟨A, 6, none⟩ v6).setCell ⟨A, 7, none⟩ v7) :=
  (show (w.setCells A 0 [v0, v1, v2, v3, v4, v5, v6, v7]).heap[A]? = _ ∧ Ch _ w (w.setCells A 0 [v0, v1, v2, v3, v4, v5, v6, v7]) from ⟨set_all [v0, v1, v2, v3, v4, v5, v6, v7] [] [a0, a1, a2, a3, a4, a5, a6, a7] w rfl hn, Ch.setCells (Q := fun y => y = A) rfl _ 0 w⟩)

set_option maxRecDepth 100000 in
set_option maxHeartbeats 4000000 in
theorem wake_is {w : World} {B bp : Nat} {F : Nat → Prop} {l : List Wt} (h : PTb w B F bp l) (hl : l.length ≤ 100000) {s g : Int} {r : Rc} (urs : UsW r.ws) (urg : UsW r.wg) {ga fa : Int} {v : Va} {ok : Bool} : Calls Try.prog 104 #[plV bp s g, rcV r, gotV ga v ok fa] w fun e w' => e = .returned (wkV r.ws r.wg r.ar v ok fa) ∧ ∃ F', PTb w' B F' bp (leaW l r.ws r.wg) ∧ Ch F w w' ∧ ∀ y, F' y → F y ∨ w.heap.size ≤ y := by
  obtain ⟨w1, hw1⟩ : ∃ w1, w.alloc (.cells #[.pointer (some ⟨bp, 0, none⟩), .int .u32 s, .int .u32 g] 145) = w1 := ⟨_, rfl⟩
  have hc1 : Ch (fun _ => False) w w1 := by rw [← hw1]; exact Ch.alloc _ _
  have hz1 : w1.heap.size = w.heap.size + 1 := by rw [← hw1, World.size_alloc]
  have hn1 : w1.heap[w.heap.size]? = some (.cells #[.pointer (some ⟨bp, 0, none⟩), .int .u32 s, .int .u32 g] 145 (0, 0)) := by rw [← hw1]; exact heap_new _ _
  obtain ⟨w2, hw2⟩ : ∃ w2, w1.alloc (.cells #[.int .u32 r.ms, .int .u32 r.mg, .int .u32 r.ws, .int .u32 r.wg, .int .u32 r.rs, .int .u32 r.rg, .int .i64 r.rd, .int .i64 r.ar, .int .i64 r.vn, .int .u32 r.vs, .int .u32 r.vg] 136) = w2 := ⟨_, rfl⟩
  have hc2 : Ch (fun _ => False) w1 w2 := by rw [← hw2]; exact Ch.alloc _ _
  have hz2 : w2.heap.size = w1.heap.size + 1 := by rw [← hw2, World.size_alloc]
  have hn2 : w2.heap[w1.heap.size]? = some (.cells #[.int .u32 r.ms, .int .u32 r.mg, .int .u32 r.ws, .int .u32 r.wg, .int .u32 r.rs, .int .u32 r.rg, .int .i64 r.rd, .int .i64 r.ar, .int .i64 r.vn, .int .u32 r.vs, .int .u32 r.vg] 136 (0, 0)) := by rw [← hw2]; exact heap_new _ _
  replace hn1 := hc2.box hn1 (fun h => h)
  obtain ⟨w3, hw3⟩ : ∃ w3, w2.alloc (.cells #[.int .i64 ga, .int .i64 v.n, .int .u32 v.s, .int .u32 v.g, .bool ok, .int .i64 fa] 117) = w3 := ⟨_, rfl⟩
  have hc3 : Ch (fun _ => False) w2 w3 := by rw [← hw3]; exact Ch.alloc _ _
  have hz3 : w3.heap.size = w2.heap.size + 1 := by rw [← hw3, World.size_alloc]
  have hn3 : w3.heap[w2.heap.size]? = some (.cells #[.int .i64 ga, .int .i64 v.n, .int .u32 v.s, .int .u32 v.g, .bool ok, .int .i64 fa] 117 (0, 0)) := by rw [← hw3]; exact heap_new _ _
  replace hn1 := hc3.box hn1 (fun h => h)
  replace hn2 := hc3.box hn2 (fun h => h)
  obtain ⟨w4, hw4⟩ : ∃ w4, w3.alloc (.cells #[.int .u32 0, .int .u32 0, .int .i64 0, .int .i64 0, .int .u32 0, .int .u32 0, .bool false, .int .i64 0] 119) = w4 := ⟨_, rfl⟩
  have hc4 : Ch (fun _ => False) w3 w4 := by rw [← hw4]; exact Ch.alloc _ _
  have hz4 : w4.heap.size = w3.heap.size + 1 := by rw [← hw4, World.size_alloc]
  have hn4 : w4.heap[w3.heap.size]? = some (.cells #[.int .u32 0, .int .u32 0, .int .i64 0, .int .i64 0, .int .u32 0, .int .u32 0, .bool false, .int .i64 0] 119 (0, 0)) := by rw [← hw4]; exact heap_new _ _
  replace hn1 := hc4.box hn1 (fun h => h)
  replace hn2 := hc4.box hn2 (fun h => h)
  replace hn3 := hc4.box hn3 (fun h => h)
  have C4 := hide (((hc1.trans hc2 (fun _ _ h => h)).trans hc3 (fun _ _ h => h)).trans hc4 (fun _ _ h => h))
  have HN := hide (And.intro hn1 (And.intro hn2 (And.intro hn3 hn4)))
  have HP := hide (face.ch h C4.out (fun _ _ h => h))
  have HF := hide (face.foot h)
  have HZ := hide (And.intro hz1 (And.intro hz2 (And.intro hz3 hz4)))
  have HLV := hide (face.leave r.ws r.wg urs urg HP.out hl)
  have s0 : w4.cell? ⟨w.heap.size, 0, none⟩ = some (.pointer (some ⟨bp, 0, none⟩)) := by simp [Lib.cell_of_heap hn1]
  have s1 : w4.cell? ⟨w1.heap.size, 2, none⟩ = some (.int .u32 r.ws) := by simp [Lib.cell_of_heap hn2]
  have s2 : w4.cell? ⟨w1.heap.size, 3, none⟩ = some (.int .u32 r.wg) := by simp [Lib.cell_of_heap hn2]
  clear h hc1 hc2 hc3 hc4 hz1 hz2 hz3 hz4 hn1 hn2 hn3 hn4 urs urg
  go_enter Try.func104, Try.ntmps104
  go_wp2_with fail
  refine HLV.out.mono ?_
  rintro e w5 ⟨F5, rfl, hp5, hc5, hd5⟩
  have P5 := hide (And.intro hp5 hd5)
  have C5 := hide hc5
  have hz := HZ.out
  have nF : ∀ y, w.heap.size ≤ y → ¬ F y := fun y hy e => by have := (HF.out y e).2; omega
  have m2 := hc5.box HN.out.2.1 (nF _ (by omega))
  have m3 := hc5.box HN.out.2.2.1 (nF _ (by omega))
  have m4 := hc5.box HN.out.2.2.2 (nF _ (by omega))
  have t1 : w5.cell? ⟨w1.heap.size, 7, none⟩ = some (.int .i64 r.ar) := by simp [Lib.cell_of_heap m2]
  have t2 : w5.cell? ⟨w2.heap.size, 0, none⟩ = some (.int .i64 ga) := by simp [Lib.cell_of_heap m3]
  have t3 : ∀ o, w5.frozen? ⟨w2.heap.size, o, none⟩ = false := fun o => by simp [World.frozen?, m3]
  have c6 := Ch.set (Q := fun y => y = w2.heap.size) w5 rfl 0 (.int .i64 r.ar)
  have k2 := c6.box m2 (fun e => by omega)
  have k3 := heap_set m3 0 (.int .i64 r.ar)
  have k4 := c6.box m4 (fun e => by omega)
  replace k3 : (w5.setCell ⟨w2.heap.size, 0, none⟩ (.int .i64 r.ar)).heap[w2.heap.size]? = some (.cells #[.int .i64 r.ar, .int .i64 v.n, .int .u32 v.s, .int .u32 v.g, .bool ok, .int .i64 fa] 117 (0, 0)) := k3
  have y0 : (w5.setCell ⟨w2.heap.size, 0, none⟩ (.int .i64 r.ar)).cell? ⟨w1.heap.size, 2, none⟩ = some (.int .u32 r.ws) := by simp [Lib.cell_of_heap k2]
  have y1 : (w5.setCell ⟨w2.heap.size, 0, none⟩ (.int .i64 r.ar)).cell? ⟨w1.heap.size, 3, none⟩ = some (.int .u32 r.wg) := by simp [Lib.cell_of_heap k2]
  have z0 : (w5.setCell ⟨w2.heap.size, 0, none⟩ (.int .i64 r.ar)).cell? ⟨w2.heap.size, 0, none⟩ = some (.int .i64 r.ar) := by simp [Lib.cell_of_heap k3]
  have z1 : (w5.setCell ⟨w2.heap.size, 0, none⟩ (.int .i64 r.ar)).cell? ⟨w2.heap.size, 1, none⟩ = some (.int .i64 v.n) := by simp [Lib.cell_of_heap k3]
  have z2 : (w5.setCell ⟨w2.heap.size, 0, none⟩ (.int .i64 r.ar)).cell? ⟨w2.heap.size, 2, none⟩ = some (.int .u32 v.s) := by simp [Lib.cell_of_heap k3]
  have z3 : (w5.setCell ⟨w2.heap.size, 0, none⟩ (.int .i64 r.ar)).cell? ⟨w2.heap.size, 3, none⟩ = some (.int .u32 v.g) := by simp [Lib.cell_of_heap k3]
  have z4 : (w5.setCell ⟨w2.heap.size, 0, none⟩ (.int .i64 r.ar)).cell? ⟨w2.heap.size, 4, none⟩ = some (.bool ok) := by simp [Lib.cell_of_heap k3]
  have z5 : (w5.setCell ⟨w2.heap.size, 0, none⟩ (.int .i64 r.ar)).cell? ⟨w2.heap.size, 5, none⟩ = some (.int .i64 fa) := by simp [Lib.cell_of_heap k3]
  have x0 : (w5.setCell ⟨w2.heap.size, 0, none⟩ (.int .i64 r.ar)).cell? ⟨w3.heap.size, 0, none⟩ = some (.int .u32 0) := by simp [Lib.cell_of_heap k4]
  have x1 : (w5.setCell ⟨w2.heap.size, 0, none⟩ (.int .i64 r.ar)).cell? ⟨w3.heap.size, 1, none⟩ = some (.int .u32 0) := by simp [Lib.cell_of_heap k4]
  have x2 : (w5.setCell ⟨w2.heap.size, 0, none⟩ (.int .i64 r.ar)).cell? ⟨w3.heap.size, 2, none⟩ = some (.int .i64 0) := by simp [Lib.cell_of_heap k4]
  have x3 : (w5.setCell ⟨w2.heap.size, 0, none⟩ (.int .i64 r.ar)).cell? ⟨w3.heap.size, 3, none⟩ = some (.int .i64 0) := by simp [Lib.cell_of_heap k4]
  have x4 : (w5.setCell ⟨w2.heap.size, 0, none⟩ (.int .i64 r.ar)).cell? ⟨w3.heap.size, 4, none⟩ = some (.int .u32 0) := by simp [Lib.cell_of_heap k4]
  have x5 : (w5.setCell ⟨w2.heap.size, 0, none⟩ (.int .i64 r.ar)).cell? ⟨w3.heap.size, 5, none⟩ = some (.int .u32 0) := by simp [Lib.cell_of_heap k4]
  have x6 : (w5.setCell ⟨w2.heap.size, 0, none⟩ (.int .i64 r.ar)).cell? ⟨w3.heap.size, 6, none⟩ = some (.bool false) := by simp [Lib.cell_of_heap k4]
  have x7 : (w5.setCell ⟨w2.heap.size, 0, none⟩ (.int .i64 r.ar)).cell? ⟨w3.heap.size, 7, none⟩ = some (.int .i64 0) := by simp [Lib.cell_of_heap k4]
  have xf : ∀ o, (w5.setCell ⟨w2.heap.size, 0, none⟩ (.int .i64 r.ar)).frozen? ⟨w3.heap.size, o, none⟩ = false := fun o => by simp [World.frozen?, k4]
  have K := hide (wk_set k4 (.int .u32 r.ws) (.int .u32 r.wg) (.int .i64 r.ar) (.int .i64 v.n) (.int .u32 v.s) (.int .u32 v.g) (.bool ok) (.int .i64 fa))
  have K6 := hide c6
  clear hp5 hc5 hd5 m2 m3 m4 k2 k3 k4 s0 s1 s2 hw1 hw2 hw3 hw4 hz nF c6 HLV
  go_wp2
  refine bodyPost_ret (v := wkV r.ws r.wg r.ar v ok fa) (res_wake _ w3.heap.size _ r.ws r.wg r.ar v ok fa rfl K.out.1) rfl ⟨rfl, F5, ?_, ?_, fun y hy => ?_⟩
  · have hz := HZ.out
    exact face.ch (face.ch P5.out.1 K6.out (fun y hy e => by rcases P5.out.2 y hy with h | h; have := (HF.out y h).2; omega; omega)) K.out.2 (fun y hy e => by rcases P5.out.2 y hy with h | h; have := (HF.out y h).2; omega; omega)
  · have hz := HZ.out
    exact (((C4.out.mono (Q' := F) (fun _ _ h => h.elim)).trans C5.out (fun _ _ h => h)).trans K6.out (fun y hy e => by omega)).trans K.out.2 (fun y hy e => by omega)
  · rcases P5.out.2 y hy with h | h
    · exact .inl h
    · exact .inr (by have := C4.out.size; omega)

end Go.Proofs.Ytbblmbbpicinlaa

namespace Go.Proofs.Ytbblmbbpicinlaa
open Go.RowKit

abbrev kre0 : Oper := { dst := some 13, op := Op.move (Operand.tmp 0), type := 26, pos := "chans.go:156", after := #[], guard := none }
abbrev kre1 : Oper := { dst := some 14, op := Op.nilCheck (Operand.tmp 13), type := 0, pos := "chans.go:156", after := #[{ on := 0, ground := Ground.data }], guard := none }
abbrev kre2 : Oper := { dst := some 15, op := Op.fieldAddr 127 (Operand.tmp 14) 0, type := 0, pos := "chans.go:156", after := #[{ on := 1, ground := Ground.data }], guard := none }
abbrev kre3 : Oper := { dst := some 16, op := Op.load 24 (Operand.tmp 15), type := 24, pos := "chans.go:156", after := #[{ on := 2, ground := Ground.data }], guard := none }
abbrev kre4 : Oper := { dst := some 17, op := Op.load 43 (Operand.tmp 4), type := 43, pos := "chans.go:156", after := #[], guard := none }
abbrev kre5 : Oper := { dst := some 18, op := Op.call { callee := Callee.value (Operand.func 43), args := #[Operand.tmp 16, Operand.tmp 17], argTypes := #[24, 43] }, type := 33, pos := "chans.go:156", after := #[{ on := 3, ground := Ground.data }, { on := 4, ground := Ground.data }], guard := none }
abbrev kre6 : Oper := { dst := some 19, op := Op.call { callee := Callee.builtin Builtin.len, args := #[Operand.tmp 18], argTypes := #[33] }, type := 3, pos := "chans.go:156", after := #[{ on := 5, ground := Ground.data }], guard := none }
abbrev kre7 : Oper := { dst := some 20, op := Op.binOp BinOp.gtr 3 (Operand.tmp 19) (Operand.const (Value.int IntKind.i64 0)) 3, type := 4, pos := "chans.go:156", after := #[{ on := 6, ground := Ground.data }], guard := none }

theorem cp_some (x : Cn) : cpV (some x) = .pointer (some ⟨x.cb, 0, none⟩) := rfl
theorem cp_none : cpV none = .pointer none := rfl

set_option maxRecDepth 100000 in
theorem has_cis {w : World} {B c bp M : Nat} {F : Nat → Prop} {l : List Wt} {cs : List Cn} (h : CI w B c bp M F l cs) (x : Hnd) : Calls Try.prog 31 #[.pointer (some ⟨c, 0, none⟩), hkV x] w fun e w' => e = .returned (.bool (fnc cs x).isSome) ∧ Below w.heap.size w w' := by
  obtain ⟨w1, hw1⟩ : ∃ w1, w.alloc (.cells #[.int .u32 x.1, .int .u32 x.2] 43) = w1 := ⟨_, rfl⟩
  have hb1 : Below w.heap.size w w1 := by rw [← hw1]; exact below1 _ _
  have hn : w1.heap[w.heap.size]? = some (.cells #[.int .u32 x.1, .int .u32 x.2] 43 (0, 0)) := by rw [← hw1]; exact heap_new _ _
  have n0 : w1.cell? ⟨w.heap.size, 0, none⟩ = some (.int .u32 x.1) := by simp [Lib.cell_of_heap hn]
  have n1 : w1.cell? ⟨w.heap.size, 1, none⟩ = some (.int .u32 x.2) := by simp [Lib.cell_of_heap hn]
  have HA := hide (at_cis (h.quiet (Ch.of_below hb1)) x)
  have HB := hide hb1
  obtain ⟨o, ho⟩ : ∃ o, fnc cs x = o := ⟨_, rfl⟩
  rw [ho] at HA
  rw [ho]
  clear h hn hb1 ho
  go_enter Try.func31, Try.ntmps31
  go_wp2_with fail
  refine HA.out.mono ?_
  rintro e w2 ⟨rfl, hb2⟩
  have HB2 := hide (HB.out.trans (hb2.mono HB.out.size))
  clear hb2 n0 n1 hw1 HA
  cases o with
  | none =>
    rw [cp_none]
    go_wp2
    go_ret
    exact ⟨rfl, HB2.out⟩
  | some y =>
    rw [cp_some]
    go_wp2
    go_ret
    exact ⟨rfl, HB2.out⟩

/-- none -/
def nnH (x : Hnd) : Bool := decide (x.1 = 0) && decide (x.2 = 0)
/-- why g may not ask at h -/
def rfE (l : List Wt) (cs : List Cn) (g h : Hnd) : Int := if nnH g then 1 else if 0 < (sel (isWho g.1 g.2) l).length then 143 else if !nnH h && (fnc cs h).isNone then 141 else 0

set_option maxRecDepth 100000 in
set_option maxHeartbeats 8000000 in
theorem refuse_cis {w : World} {B c bp M : Nat} {F : Nat → Prop} {l : List Wt} {cs : List Cn} (h : CI w B c bp M F l cs) (hl : l.length ≤ 100000) (g x : Hnd) (ug : UsW g.1) (ug2 : UsW g.2) : Calls Try.prog 62 #[.pointer (some ⟨c, 0, none⟩), hkV g, hkV x] w fun e w' => e = .returned (.int .i64 (rfE l cs g x)) ∧ Below w.heap.size w w' := by
  obtain ⟨w1, hw1⟩ : ∃ w1, w.alloc (.cells #[.int .u32 g.1, .int .u32 g.2] 43) = w1 := ⟨_, rfl⟩
  have hc1 : Ch (fun _ => False) w w1 := by rw [← hw1]; exact Ch.alloc _ _
  have hn1 : w1.heap[w.heap.size]? = some (.cells #[.int .u32 g.1, .int .u32 g.2] 43 (0, 0)) := by rw [← hw1]; exact heap_new _ _
  obtain ⟨w2, hw2⟩ : ∃ w2, w1.alloc (.cells #[.int .u32 x.1, .int .u32 x.2] 43) = w2 := ⟨_, rfl⟩
  have hc2 : Ch (fun _ => False) w1 w2 := by rw [← hw2]; exact Ch.alloc _ _
  have hn2 : w2.heap[w1.heap.size]? = some (.cells #[.int .u32 x.1, .int .u32 x.2] 43 (0, 0)) := by rw [← hw2]; exact heap_new _ _
  have C2 := hide (hc1.trans hc2 (fun _ _ h => h))
  have HN := hide (And.intro (hc2.box hn1 (fun h => h)) hn2)
  have H := hide (h.quiet C2.out)
  have HX := hide (fun V (cV : Ch (fun _ => False) w2 V) => show (V.cell? ⟨w.heap.size, 0, none⟩ = some (.int .u32 g.1) ∧ V.cell? ⟨w.heap.size, 1, none⟩ = some (.int .u32 g.2)) ∧ (V.cell? ⟨w1.heap.size, 0, none⟩ = some (.int .u32 x.1) ∧ V.cell? ⟨w1.heap.size, 1, none⟩ = some (.int .u32 x.2)) ∧ V.cell? ⟨c, 0, none⟩ = some (.pointer (some ⟨bp, 0, none⟩)) from by
    have e1 := Lib.cell_of_heap (cV.box HN.out.1 (fun h => h))
    have e2 := Lib.cell_of_heap (cV.box HN.out.2 (fun h => h))
    exact ⟨⟨by simp [e1], by simp [e1]⟩, ⟨by simp [e2], by simp [e2]⟩, (H.out.quiet cV).cells.1⟩)
  obtain ⟨rs, hrs⟩ : ∃ rs, rfE l cs g x = rs := ⟨_, rfl⟩
  have HRS := hide hrs
  rw [hrs]
  clear h hc1 hc2 hn1 hn2 hrs
  obtain ⟨⟨s0, s1⟩, -, -⟩ := HX.out w2 (Ch.refl _ _)
  go_enter Try.func62, Try.ntmps62
  go_wp2_with fail
  clear hw1 hw2 s0 s1
  refine (isNone_is w2 g.1 g.2).mono ?_
  rintro e w3 ⟨rfl, hb3⟩
  have C3 := hide (Ch.of_below (Q := fun _ => False) hb3)
  clear hb3
  have hfin : ∀ V, Ch (fun _ => False) w2 V → Below w.heap.size w V := fun V cV => (C2.out.trans cV (fun _ _ h => h)).below (Nat.le_refl _) (fun _ _ h => h)
  have HFIN := hide hfin
  clear hfin
  cases hg : nnH g
  · have hg1 : (decide (g.1 = 0) && decide (g.2 = 0)) = false := hg
    rw [hg1]
    have HG := hide hg
    clear hg hg1
    go_wp2
    refine wp_reg (fun _ => False) (R := fun V => Ch (fun _ => False) w3 V) (by kernel_rfl) (Ch.drew _) (fun V cV zk => ?_)
    have CV := hide (C3.out.trans cV (fun _ _ h => h))
    clear cV
    apply tk 0 kre0 rfl (by kernel_rfl) (fun _ _ _ h => h) zk
    · intro wq zq
      go_simp
      try rfl
    go_frame
    apply tk 1 kre1 rfl (by kernel_rfl) (fun _ _ _ h => h) zk
    · intro wq zq
      go_simp
      try rfl
    go_frame
    apply tk 2 kre2 rfl (by kernel_rfl) (fun _ _ _ h => h) zk
    · intro wq zq
      go_simp
      try rfl
    go_frame
    apply tk 3 kre3 rfl (by kernel_rfl) (fun _ _ _ h => h) zk
    · intro wq zq
      obtain ⟨⟨s1, s2⟩, -, s3⟩ := HX.out _ (CV.out.trans zq (fun _ _ h => h))
      go_simp
      try rfl
    go_frame
    apply tk 4 kre4 rfl (by kernel_rfl) (fun _ _ _ h => h) zk
    · intro wq zq
      obtain ⟨⟨s1, s2⟩, -, s3⟩ := HX.out _ (CV.out.trans zq (fun _ _ h => h))
      go_simp
      try rfl
    go_frame
    refine Go.Proofs.Ytbblmbbpicinlaa.rd 5 kre5 rfl (by kernel_rfl) fun K hK => ?_
    go_simp
    refine (face.of g.1 g.2 ug ug2 (H.out.quiet CV.out).bk hl).mono ?_
    rintro e w4 ⟨v4, rfl, hr4, hb4⟩
    have C4 := hide (CV.out.trans (Ch.of_below hb4) (fun _ _ h => h))
    have Z4 := hide (zk.trans (Ch.of_below (Q := fun _ => False) hb4) (fun _ _ h => h))
    obtain ⟨a4, k4, rfl, -, hm4⟩ := hr4.form
    have hm5 : (sel (isWho g.1 g.2) l).length ≤ 9223372036854775807 := by unfold maxLen at hm4; omega
    clear hr4 hb4 hm4
    go_wp2_with fail
    refine hK.out _ _ ?_ (fun zk => ?_)
    · exact Z4.out
    clear hK K
    try go_frame
    apply tk 6 kre6 rfl (by kernel_rfl) (fun _ _ _ h => h) zk
    · intro wq zq
      go_simp
      try rfl
    go_frame
    apply tk 7 kre7 rfl (by kernel_rfl) (fun _ _ _ h => h) zk
    · intro wq zq
      go_simp
      try rfl
    go_frame
    refine wpAnyH_done (by kernel_rfl) ?_ _
    obtain ⟨k, hk⟩ : ∃ k, (sel (isWho g.1 g.2) l).length = k := ⟨_, rfl⟩
    have HK := hide hk
    rw [hk] at hm5
    rw [hk]
    clear hk
    by_cases h0 : 0 < k
    · have q0 : decide (0 < k) = true := decide_eq_true (by omega)
      rw [q0]
      have hz : rs = 143 := by
        rw [← HRS.out]
        unfold rfE
        rw [HG.out, HK.out, if_neg (by simp), if_pos h0]
      subst hz
      clear h0
      go_wp2
      go_ret
      exact ⟨rfl, HFIN.out _ C4.out⟩
    · have q0 : decide (0 < k) = false := decide_eq_false (by omega)
      rw [q0]
      have hz : rs = if !nnH x && (fnc cs x).isNone then 141 else 0 := by
        rw [← HRS.out]
        unfold rfE
        rw [HG.out, HK.out, if_neg (by simp), if_neg h0]
      have HZ := hide hz
      clear h0 hz
      obtain ⟨-, ⟨s1, s2⟩, -⟩ := HX.out w4 C4.out
      go_wp2_with fail
      refine (isNone_is w4 x.1 x.2).mono ?_
      rintro e w5 ⟨rfl, hb5⟩
      have C5 := hide (C4.out.trans (Ch.of_below (Q := fun _ => False) hb5) (fun _ _ h => h))
      clear hb5 s1 s2
      obtain ⟨-, ⟨s1, s2⟩, -⟩ := HX.out w5 C5.out
      cases hx : nnH x
      · have hx1 : (decide (x.1 = 0) && decide (x.2 = 0)) = false := hx
        rw [hx1]
        rw [hx] at HZ
        clear hx hx1
        have HAS := hide (has_cis (H.out.quiet C5.out) x)
        go_wp2_with fail
        refine HAS.out.mono ?_
        rintro e w6 ⟨rfl, hb6⟩
        have C6 := hide (C5.out.trans (Ch.of_below (Q := fun _ => False) hb6) (fun _ _ h => h))
        clear hb6 s1 s2 HAS
        cases ho : fnc cs x with
        | none =>
          rw [ho] at HZ
          have hz : rs = 141 := HZ.out
          subst hz
          clear HZ ho
          go_wp2
          go_ret
          exact ⟨rfl, HFIN.out _ C6.out⟩
        | some y =>
          rw [ho] at HZ
          have hz : rs = 0 := HZ.out
          subst hz
          clear HZ ho
          go_wp2
          go_ret
          exact ⟨rfl, HFIN.out _ C6.out⟩
      · have hx1 : (decide (x.1 = 0) && decide (x.2 = 0)) = true := hx
        rw [hx1]
        rw [hx] at HZ
        have hz : rs = 0 := HZ.out
        subst hz
        clear hx hx1 HZ
        go_wp2
        go_ret
        exact ⟨rfl, HFIN.out _ C5.out⟩
  · have hg1 : (decide (g.1 = 0) && decide (g.2 = 0)) = true := hg
    rw [hg1]
    have hz : rs = 1 := by rw [← HRS.out]; unfold rfE; rw [hg, if_pos rfl]
    subst hz
    clear hg hg1
    go_wp2
    go_ret
    exact ⟨rfl, HFIN.out _ C3.out⟩

end Go.Proofs.Ytbblmbbpicinlaa

namespace Go.Proofs.Ytbblmbbpicinlaa
open Go.RowKit

abbrev ksa0 : Oper := { dst := some 33, op := Op.move (Operand.tmp 0), type := 143, pos := "channel.go:23", after := #[], guard := none }
abbrev ksa1 : Oper := { dst := some 34, op := Op.nilCheck (Operand.tmp 33), type := 0, pos := "channel.go:23", after := #[{ on := 0, ground := Ground.data }], guard := none }
abbrev ksa2 : Oper := { dst := some 35, op := Op.fieldAddr 147 (Operand.tmp 34) 1, type := 0, pos := "channel.go:23", after := #[{ on := 1, ground := Ground.data }], guard := none }
abbrev ksa3 : Oper := { dst := some 36, op := Op.load 140 (Operand.tmp 35), type := 140, pos := "channel.go:23", after := #[{ on := 2, ground := Ground.data }], guard := none }
abbrev ksa4 : Oper := { dst := some 37, op := Op.load 46 (Operand.tmp 5), type := 46, pos := "channel.go:23", after := #[], guard := none }
abbrev ksa5 : Oper := { dst := some 38, op := Op.call { callee := Callee.value (Operand.func 105), args := #[Operand.tmp 36, Operand.tmp 37], argTypes := #[140, 46] }, type := 27, pos := "channel.go:23", after := #[{ on := 3, ground := Ground.data }, { on := 4, ground := Ground.data }], guard := none }
abbrev ksa6 : Oper := { dst := some 39, op := Op.binOp BinOp.eql 27 (Operand.tmp 38) (Operand.const (Value.int IntKind.i64 0)) 27, type := 4, pos := "channel.go:23", after := #[{ on := 5, ground := Ground.data }], guard := none }
abbrev ksb0 : Oper := { dst := some 41, op := Op.move (Operand.tmp 0), type := 143, pos := "channel.go:26", after := #[], guard := none }
abbrev ksb1 : Oper := { dst := some 42, op := Op.nilCheck (Operand.tmp 41), type := 0, pos := "channel.go:26", after := #[{ on := 0, ground := Ground.data }], guard := none }
abbrev ksb2 : Oper := { dst := some 43, op := Op.fieldAddr 147 (Operand.tmp 42) 0, type := 0, pos := "channel.go:26", after := #[{ on := 1, ground := Ground.data }], guard := none }
abbrev ksb3 : Oper := { dst := some 44, op := Op.load 145 (Operand.tmp 43), type := 145, pos := "channel.go:26", after := #[{ on := 2, ground := Ground.data }], guard := none }
abbrev ksb4 : Oper := { dst := some 45, op := Op.load 43 (Operand.tmp 4), type := 43, pos := "channel.go:26", after := #[], guard := none }
abbrev ksb5 : Oper := { dst := some 46, op := Op.load 46 (Operand.tmp 5), type := 46, pos := "channel.go:26", after := #[], guard := none }
abbrev ksb6 : Oper := { dst := some 47, op := Op.call { callee := Callee.value (Operand.func 64), args := #[Operand.tmp 44, Operand.const (Value.int IntKind.i64 1), Operand.tmp 45, Operand.tmp 46], argTypes := #[145, 44, 43, 46] }, type := 72, pos := "channel.go:26", after := #[{ on := 3, ground := Ground.data }, { on := 4, ground := Ground.data }, { on := 5, ground := Ground.data }], guard := none }
abbrev ksb7 : Oper := { dst := none, op := Op.store 72 (Operand.tmp 6) (Operand.tmp 47), type := 0, pos := "channel.go:26", after := #[{ on := 6, ground := Ground.data }, { on := 6, ground := Ground.chain }, { on := 0, ground := Ground.phase }, { on := 1, ground := Ground.phase }, { on := 2, ground := Ground.phase }, { on := 3, ground := Ground.phase }, { on := 4, ground := Ground.phase }, { on := 5, ground := Ground.phase }, { on := 6, ground := Ground.phase }], guard := none }

theorem res_send (tm : Array Value) (A : Nat) (Z : World) (fate n a b : Int) (ok : Bool) (wk : Value) (h2 : tm[6]?.getD undef = .pointer (some ⟨A, 0, none⟩)) (hb : Z.heap[A]? = some (.cells #[.int .i64 fate, .int .i64 n, .int .u32 a, .int .u32 b, .bool ok, wk] 72 (0, 0))) :
    (results Try.f69 tm).run Try.prog Z = .ok (didV fate ⟨n, a, b⟩ ok wk) Z := by
  have e := Lib.cell_of_heap hb
  simp [results, Try.f69, h2, go_sem, e]

/-- what a Put leaves of a channel -/
def Cn.put (x : Cn) (v : Va) : Cn := { x with xs := x.xs ++ [v], pl := x.pl.set (plc x.n x.f x.xs.length) v }
/-- what is known of a channel's handle and of what is handed in -/
structure SnB (x : Cn) (g : Hnd) (v : Va) : Prop where
  h1 : UsW x.h.1
  h2 : UsW x.h.2
  g1 : UsW g.1
  g2 : UsW g.2
  v0 : I64 v.n
  v1 : UsW v.s
  v2 : UsW v.g

set_option maxRecDepth 100000 in
set_option maxHeartbeats 8000000 in
theorem send_put {w : World} {B c bp M : Nat} {F : Nat → Prop} {l : List Wt} {cs : List Cn} (h : CI w B c bp M F l cs) (hl : l.length ≤ 100000) {i : Nat} (hi : i < cs.length) {x : Cn} (hx : cs[i] = x) {g : Hnd} {v : Va} (sb : SnB x g v) (hcl : x.cl = false) (hq : sel (inRow x.h.1 x.h.2 2) l = []) (hn : x.xs.length < x.n) :
    Calls Try.prog 69 #[.pointer (some ⟨x.cb, 0, none⟩), hkV g, vaV v] w fun e w' => e = .returned (didV 0 zVa false (.slice none 0 0)) ∧ CI w' B c bp M F l (cs.set i (x.put v)) ∧ Ch x.mine w w' := by
  obtain ⟨w1, hw1⟩ : ∃ w1, w.alloc (.cells #[.int .u32 g.1, .int .u32 g.2] 43) = w1 := ⟨_, rfl⟩
  have hc1 : Ch (fun _ => False) w w1 := by rw [← hw1]; exact Ch.alloc _ _
  have hz1 : w1.heap.size = w.heap.size + 1 := by rw [← hw1, World.size_alloc]
  have hn1 : w1.heap[w.heap.size]? = some (.cells #[.int .u32 g.1, .int .u32 g.2] 43 (0, 0)) := by rw [← hw1]; exact heap_new _ _
  obtain ⟨w2, hw2⟩ : ∃ w2, w1.alloc (.cells #[.int .i64 v.n, .int .u32 v.s, .int .u32 v.g] 46) = w2 := ⟨_, rfl⟩
  have hc2 : Ch (fun _ => False) w1 w2 := by rw [← hw2]; exact Ch.alloc _ _
  have hz2 : w2.heap.size = w1.heap.size + 1 := by rw [← hw2, World.size_alloc]
  have hn2 : w2.heap[w1.heap.size]? = some (.cells #[.int .i64 v.n, .int .u32 v.s, .int .u32 v.g] 46 (0, 0)) := by rw [← hw2]; exact heap_new _ _
  replace hn1 := hc2.box hn1 (fun h => h)
  obtain ⟨w3, hw3⟩ : ∃ w3, w2.alloc (.cells #[.int .i64 0, .int .i64 0, .int .u32 0, .int .u32 0, .bool false, .slice none 0 0] 72) = w3 := ⟨_, rfl⟩
  have hc3 : Ch (fun _ => False) w2 w3 := by rw [← hw3]; exact Ch.alloc _ _
  have hz3 : w3.heap.size = w2.heap.size + 1 := by rw [← hw3, World.size_alloc]
  have hn3 : w3.heap[w2.heap.size]? = some (.cells #[.int .i64 0, .int .i64 0, .int .u32 0, .int .u32 0, .bool false, .slice none 0 0] 72 (0, 0)) := by rw [← hw3]; exact heap_new _ _
  replace hn1 := hc3.box hn1 (fun h => h)
  replace hn2 := hc3.box hn2 (fun h => h)
  have C3 := hide ((hc1.trans hc2 (fun _ _ h => h)).trans hc3 (fun _ _ h => h))
  have HN := hide (And.intro hn1 (And.intro hn2 hn3))
  have HZ := hide (And.intro hz1 (And.intro hz2 hz3))
  have hin : x ∈ cs := by rw [← hx]; exact List.getElem_mem hi
  have HLT := hide (show (∀ y, x.mine y → y < w.heap.size) ∧ ∀ y, F y → y < w.heap.size from ⟨(h.ch x hin).lt, fun y hy => (face.foot h.bk y hy).2⟩)
  have H0 := hide h
  have H := hide (h.quiet C3.out)
  have HIN := hide hin
  have HX := hide hx
  have SB := hide sb
  have HFI := hide (show Calls Try.prog 103 #[plV bp x.h.1 x.h.2, .int .i64 2] w3 fun e w' => e = .returned (.tuple #[rcV zRc, .bool false]) ∧ Below w3.heap.size w3 w' from by
    have := pfirst_is H.out.bk hl sb.h1 sb.h2 (show I64 2 by constructor <;> decide)
    rw [hq] at this
    exact this)
  obtain ⟨x0, x1, x2, x3, x4⟩ := (H.out.ch x hin).cells
  rw [hcl] at x4
  have HCL := hide hcl
  clear h hc1 hc2 hc3 hz1 hz2 hz3 hn1 hn2 hn3 hin hx sb hq hcl
  go_enter Try.func69, Try.ntmps69
  go_wp2_with fail
  refine HFI.out.mono ?_
  rintro e w4 ⟨rfl, hb4⟩
  have hc4 := Ch.of_below (Q := fun _ => False) hb4
  clear hb4 x0 x1 x2 x3 x4 hw1 hw2 hw3 HFI
  go_wp2
  obtain ⟨w5, hw5⟩ : ∃ w5, w4.alloc (.cells #[.int .u32 zRc.ms, .int .u32 zRc.mg, .int .u32 zRc.ws, .int .u32 zRc.wg, .int .u32 zRc.rs, .int .u32 zRc.rg, .int .i64 zRc.rd, .int .i64 zRc.ar, .int .i64 zRc.vn, .int .u32 zRc.vs, .int .u32 zRc.vg] 136) = w5 := ⟨_, rfl⟩
  rw [hw5]
  have hc5 : Ch (fun _ => False) w4 w5 := by rw [← hw5]; exact Ch.alloc _ _
  clear hw5
  have C5 := hide (hc4.trans hc5 (fun _ _ h => h))
  have H5 := hide (H.out.quiet C5.out)
  clear hc4 hc5
  have hxb := (H5.out.ch x HIN.out)
  have NCB : ¬ (x.cb = x.rp ∨ x.cb = x.rg) := by
    rintro (e | e)
    · have h1 := hxb.box
      rw [e, hxb.ring.box] at h1
      injection h1 with h1
      injection h1 with _ h2 _
      exact absurd h2 (by decide)
    · have h1 := hxb.box
      rw [e, hxb.ring.row] at h1
      injection h1 with h1
      injection h1 with _ h2 _
      exact absurd h2 (by decide)
  have NBX : ∀ y, w.heap.size ≤ y → ¬ (y = x.rp ∨ y = x.rg) := fun y hy e => by
    have h1 := HLT.out.1 x.rp (.inr (.inl rfl))
    have h2 := HLT.out.1 x.rg (.inr (.inr rfl))
    omega
  clear hxb
  refine wp_reg (fun y => y = x.rp ∨ y = x.rg) (R := fun V => Ch (fun _ => False) w5 V) (by kernel_rfl) (Ch.drew _) (fun V cV zk => ?_)
  have CV := hide (C5.out.trans cV (fun _ _ h => h))
  have HV := hide (H5.out.quiet cV)
  clear cV
  have HXX := hide (fun wq (kq : Ch (fun y => y = x.rp ∨ y = x.rg) V wq) => show (wq.cell? ⟨x.cb, 0, none⟩ = some (.pointer (some ⟨bp, 0, none⟩)) ∧ wq.cell? ⟨x.cb, 1, none⟩ = some (.int .u32 x.h.1) ∧ wq.cell? ⟨x.cb, 2, none⟩ = some (.int .u32 x.h.2) ∧ wq.cell? ⟨x.cb, 3, none⟩ = some (.pointer (some ⟨x.rp, 0, none⟩))) ∧ (wq.cell? ⟨w.heap.size, 0, none⟩ = some (.int .u32 g.1) ∧ wq.cell? ⟨w.heap.size, 1, none⟩ = some (.int .u32 g.2)) ∧ wq.cell? ⟨w1.heap.size, 0, none⟩ = some (.int .i64 v.n) ∧ wq.cell? ⟨w1.heap.size, 1, none⟩ = some (.int .u32 v.s) ∧ wq.cell? ⟨w1.heap.size, 2, none⟩ = some (.int .u32 v.g) from by
    have hz := HZ.out
    have e0 := Lib.cell_of_heap (kq.box (HV.out.ch x HIN.out).box NCB)
    have e1 := Lib.cell_of_heap (kq.box (CV.out.box HN.out.1 (fun h => h)) (NBX w.heap.size (by omega)))
    have e2 := Lib.cell_of_heap (kq.box (CV.out.box HN.out.2.1 (fun h => h)) (NBX w1.heap.size (by omega)))
    exact ⟨⟨by simp [e0], by simp [e0], by simp [e0], by simp [e0]⟩, ⟨by simp [e1], by simp [e1]⟩, by simp [e2], by simp [e2], by simp [e2]⟩)
  apply tk 0 ksa0 rfl (by kernel_rfl) (fun _ _ _ h => h) zk
  · intro wq zq
    go_simp
    try rfl
  go_frame
  apply tk 1 ksa1 rfl (by kernel_rfl) (fun _ _ _ h => h) zk
  · intro wq zq
    go_simp
    try rfl
  go_frame
  apply tk 2 ksa2 rfl (by kernel_rfl) (fun _ _ _ h => h) zk
  · intro wq zq
    go_simp
    try rfl
  go_frame
  apply tk 3 ksa3 rfl (by kernel_rfl) (fun _ _ _ h => h) zk
  · intro wq zq
    obtain ⟨⟨s0, s1, s2, s3⟩, ⟨s4, s5⟩, s6, s7, s8⟩ := HXX.out _ zq
    go_simp
    try rfl
  go_frame
  apply tk 4 ksa4 rfl (by kernel_rfl) (fun _ _ _ h => h) zk
  · intro wq zq
    obtain ⟨⟨s0, s1, s2, s3⟩, ⟨s4, s5⟩, s6, s7, s8⟩ := HXX.out _ zq
    go_simp
    try rfl
  go_frame
  refine Go.Proofs.Ytbblmbbpicinlaa.rd 5 ksa5 rfl (by kernel_rfl) fun K hK => ?_
  go_simp
  refine (putV_ok (HV.out.ch x HIN.out).ring v hn).mono ?_
  rintro e w6 ⟨rfl, hr6, hc6⟩
  have R6 := hide hr6
  have C6 := hide hc6
  have Z6 := hide (zk.trans hc6 (fun _ _ h => h))
  clear hr6 hc6
  go_wp2_with fail
  refine hK.out _ _ ?_ (fun zk => ?_)
  · exact Z6.out
  clear hK K
  try go_frame
  apply tk 6 ksa6 rfl (by kernel_rfl) (fun _ _ _ h => h) zk
  · intro wq zq
    go_simp
    try rfl
  go_frame
  refine wpAnyH_done (by kernel_rfl) ?_ _
  have hz := HZ.out
  have n3 := C6.out.box (CV.out.box HN.out.2.2 (fun h => h)) (NBX _ (by omega))
  have N3 := hide n3
  have d0 : w6.cell? ⟨w2.heap.size, 0, none⟩ = some (.int .i64 0) := by simp [Lib.cell_of_heap n3]
  have d1 : w6.cell? ⟨w2.heap.size, 1, none⟩ = some (.int .i64 0) := by simp [Lib.cell_of_heap n3]
  have d2 : w6.cell? ⟨w2.heap.size, 2, none⟩ = some (.int .u32 0) := by simp [Lib.cell_of_heap n3]
  have d3 : w6.cell? ⟨w2.heap.size, 3, none⟩ = some (.int .u32 0) := by simp [Lib.cell_of_heap n3]
  have d4 : w6.cell? ⟨w2.heap.size, 4, none⟩ = some (.bool false) := by simp [Lib.cell_of_heap n3]
  have d5 : w6.cell? ⟨w2.heap.size, 5, none⟩ = some (.slice none 0 0) := by simp [Lib.cell_of_heap n3]
  have df : ∀ o, w6.frozen? ⟨w2.heap.size, o, none⟩ = false := fun o => by simp [World.frozen?, n3]
  have HS := hide (did_set n3 (.int .i64 0) (.int .i64 0) (.int .u32 0) (.int .u32 0) (.bool false) (.slice none 0 0))
  clear n3 hz
  go_wp2
  have hz := HZ.out
  refine bodyPost_ret (v := didV 0 zVa false (.slice none 0 0)) (res_send _ w2.heap.size _ 0 0 0 0 false _ rfl HS.out.1) rfl ⟨rfl, ?_⟩
  have nA : ∀ y, x.mine y → ¬ y = w2.heap.size := fun y hy e => by have := HLT.out.1 y hy; omega
  have hb7 := HS.out.2.box (C6.out.box (HV.out.ch x HIN.out).box NCB) (nA _ (.inl rfl))
  have cF := (((C3.out.trans CV.out (fun _ _ h => h)).mono (Q' := x.mine) (fun _ _ h => h.elim)).trans C6.out (fun _ _ e => .inr e)).trans HS.out.2 (fun y hy e => by omega)
  refine ⟨H0.out.upd hi ⟨hb7, R6.out.ch HS.out.2 (nA _ (.inr (.inl rfl))) (nA _ (.inr (.inr rfl)))⟩ (by rw [HX.out]; exact ⟨rfl, rfl, rfl, rfl⟩) (by rw [HX.out]; exact cF), cF⟩

set_option maxRecDepth 100000 in
set_option maxHeartbeats 8000000 in
theorem send_park {w : World} {B c bp M : Nat} {F : Nat → Prop} {l : List Wt} {cs : List Cn} (h : CI w B c bp M F l cs) (hl : l.length ≤ 100000) {i : Nat} (hi : i < cs.length) {x : Cn} (hx : cs[i] = x) {g : Hnd} {v : Va} (sb : SnB x g v) (hcl : x.cl = false) (hq : sel (inRow x.h.1 x.h.2 2) l = []) (hn : x.xs.length = x.n) :
    Calls Try.prog 69 #[.pointer (some ⟨x.cb, 0, none⟩), hkV g, vaV v] w fun e w' => e = .returned (didV 1 zVa false (.slice none 0 0)) ∧ ∃ F', CI w' B c bp M F' (putW l x.h.1 x.h.2 1 g.1 g.2 0 v.n v.s v.g) cs ∧ Ch F w w' ∧ ∀ y, F' y → F y ∨ w.heap.size ≤ y := by
  obtain ⟨w1, hw1⟩ : ∃ w1, w.alloc (.cells #[.int .u32 g.1, .int .u32 g.2] 43) = w1 := ⟨_, rfl⟩
  have hc1 : Ch (fun _ => False) w w1 := by rw [← hw1]; exact Ch.alloc _ _
  have hz1 : w1.heap.size = w.heap.size + 1 := by rw [← hw1, World.size_alloc]
  have hn1 : w1.heap[w.heap.size]? = some (.cells #[.int .u32 g.1, .int .u32 g.2] 43 (0, 0)) := by rw [← hw1]; exact heap_new _ _
  obtain ⟨w2, hw2⟩ : ∃ w2, w1.alloc (.cells #[.int .i64 v.n, .int .u32 v.s, .int .u32 v.g] 46) = w2 := ⟨_, rfl⟩
  have hc2 : Ch (fun _ => False) w1 w2 := by rw [← hw2]; exact Ch.alloc _ _
  have hz2 : w2.heap.size = w1.heap.size + 1 := by rw [← hw2, World.size_alloc]
  have hn2 : w2.heap[w1.heap.size]? = some (.cells #[.int .i64 v.n, .int .u32 v.s, .int .u32 v.g] 46 (0, 0)) := by rw [← hw2]; exact heap_new _ _
  replace hn1 := hc2.box hn1 (fun h => h)
  obtain ⟨w3, hw3⟩ : ∃ w3, w2.alloc (.cells #[.int .i64 0, .int .i64 0, .int .u32 0, .int .u32 0, .bool false, .slice none 0 0] 72) = w3 := ⟨_, rfl⟩
  have hc3 : Ch (fun _ => False) w2 w3 := by rw [← hw3]; exact Ch.alloc _ _
  have hz3 : w3.heap.size = w2.heap.size + 1 := by rw [← hw3, World.size_alloc]
  have hn3 : w3.heap[w2.heap.size]? = some (.cells #[.int .i64 0, .int .i64 0, .int .u32 0, .int .u32 0, .bool false, .slice none 0 0] 72 (0, 0)) := by rw [← hw3]; exact heap_new _ _
  replace hn1 := hc3.box hn1 (fun h => h)
  replace hn2 := hc3.box hn2 (fun h => h)
  have C3 := hide ((hc1.trans hc2 (fun _ _ h => h)).trans hc3 (fun _ _ h => h))
  have HN := hide (And.intro hn1 (And.intro hn2 hn3))
  have HZ := hide (And.intro hz1 (And.intro hz2 hz3))
  have hin : x ∈ cs := by rw [← hx]; exact List.getElem_mem hi
  have HLT := hide (show (∀ y, x.mine y → y < w.heap.size) ∧ ∀ y, F y → y < w.heap.size from ⟨(h.ch x hin).lt, fun y hy => (face.foot h.bk y hy).2⟩)
  have H0 := hide h
  have H := hide (h.quiet C3.out)
  have HIN := hide hin
  have HX := hide hx
  have SB := hide sb
  have HFI := hide (show Calls Try.prog 103 #[plV bp x.h.1 x.h.2, .int .i64 2] w3 fun e w' => e = .returned (.tuple #[rcV zRc, .bool false]) ∧ Below w3.heap.size w3 w' from by
    have := pfirst_is H.out.bk hl sb.h1 sb.h2 (show I64 2 by constructor <;> decide)
    rw [hq] at this
    exact this)
  obtain ⟨x0, x1, x2, x3, x4⟩ := (H.out.ch x hin).cells
  rw [hcl] at x4
  have HCL := hide hcl
  clear h hc1 hc2 hc3 hz1 hz2 hz3 hn1 hn2 hn3 hin hx sb hq hcl
  go_enter Try.func69, Try.ntmps69
  go_wp2_with fail
  refine HFI.out.mono ?_
  rintro e w4 ⟨rfl, hb4⟩
  have hc4 := Ch.of_below (Q := fun _ => False) hb4
  clear hb4 x0 x1 x2 x3 x4 hw1 hw2 hw3 HFI
  go_wp2
  obtain ⟨w5, hw5⟩ : ∃ w5, w4.alloc (.cells #[.int .u32 zRc.ms, .int .u32 zRc.mg, .int .u32 zRc.ws, .int .u32 zRc.wg, .int .u32 zRc.rs, .int .u32 zRc.rg, .int .i64 zRc.rd, .int .i64 zRc.ar, .int .i64 zRc.vn, .int .u32 zRc.vs, .int .u32 zRc.vg] 136) = w5 := ⟨_, rfl⟩
  rw [hw5]
  have hc5 : Ch (fun _ => False) w4 w5 := by rw [← hw5]; exact Ch.alloc _ _
  clear hw5
  have C5 := hide (hc4.trans hc5 (fun _ _ h => h))
  have H5 := hide (H.out.quiet C5.out)
  clear hc4 hc5
  have NCB : ¬ False := fun h => h
  have NBX : ∀ y, w.heap.size ≤ y → ¬ False := fun _ _ h => h
  refine wp_reg (fun _ => False) (R := fun V => Ch (fun _ => False) w5 V) (by kernel_rfl) (Ch.drew _) (fun V cV zk => ?_)
  have CV := hide (C5.out.trans cV (fun _ _ h => h))
  have HV := hide (H5.out.quiet cV)
  clear cV
  have HXX := hide (fun wq (kq : Ch (fun _ => False) V wq) => show (wq.cell? ⟨x.cb, 0, none⟩ = some (.pointer (some ⟨bp, 0, none⟩)) ∧ wq.cell? ⟨x.cb, 1, none⟩ = some (.int .u32 x.h.1) ∧ wq.cell? ⟨x.cb, 2, none⟩ = some (.int .u32 x.h.2) ∧ wq.cell? ⟨x.cb, 3, none⟩ = some (.pointer (some ⟨x.rp, 0, none⟩))) ∧ (wq.cell? ⟨w.heap.size, 0, none⟩ = some (.int .u32 g.1) ∧ wq.cell? ⟨w.heap.size, 1, none⟩ = some (.int .u32 g.2)) ∧ wq.cell? ⟨w1.heap.size, 0, none⟩ = some (.int .i64 v.n) ∧ wq.cell? ⟨w1.heap.size, 1, none⟩ = some (.int .u32 v.s) ∧ wq.cell? ⟨w1.heap.size, 2, none⟩ = some (.int .u32 v.g) from by
    have hz := HZ.out
    have e0 := Lib.cell_of_heap (kq.box (HV.out.ch x HIN.out).box NCB)
    have e1 := Lib.cell_of_heap (kq.box (CV.out.box HN.out.1 (fun h => h)) (NBX w.heap.size (by omega)))
    have e2 := Lib.cell_of_heap (kq.box (CV.out.box HN.out.2.1 (fun h => h)) (NBX w1.heap.size (by omega)))
    exact ⟨⟨by simp [e0], by simp [e0], by simp [e0], by simp [e0]⟩, ⟨by simp [e1], by simp [e1]⟩, by simp [e2], by simp [e2], by simp [e2]⟩)
  apply tk 0 ksa0 rfl (by kernel_rfl) (fun _ _ _ h => h) zk
  · intro wq zq
    go_simp
    try rfl
  go_frame
  apply tk 1 ksa1 rfl (by kernel_rfl) (fun _ _ _ h => h) zk
  · intro wq zq
    go_simp
    try rfl
  go_frame
  apply tk 2 ksa2 rfl (by kernel_rfl) (fun _ _ _ h => h) zk
  · intro wq zq
    go_simp
    try rfl
  go_frame
  apply tk 3 ksa3 rfl (by kernel_rfl) (fun _ _ _ h => h) zk
  · intro wq zq
    obtain ⟨⟨s0, s1, s2, s3⟩, ⟨s4, s5⟩, s6, s7, s8⟩ := HXX.out _ zq
    go_simp
    try rfl
  go_frame
  apply tk 4 ksa4 rfl (by kernel_rfl) (fun _ _ _ h => h) zk
  · intro wq zq
    obtain ⟨⟨s0, s1, s2, s3⟩, ⟨s4, s5⟩, s6, s7, s8⟩ := HXX.out _ zq
    go_simp
    try rfl
  go_frame
  refine Go.Proofs.Ytbblmbbpicinlaa.rd 5 ksa5 rfl (by kernel_rfl) fun K hK => ?_
  go_simp
  refine (putV_full (HV.out.ch x HIN.out).ring v hn).mono ?_
  rintro e w6 ⟨rfl, hb6⟩
  have C6 := hide (CV.out.trans (Ch.of_below hb6) (fun _ _ h => h))
  have Z6 := hide (zk.trans (Ch.of_below (Q := fun _ => False) hb6) (fun _ _ h => h))
  have H6 := hide (HV.out.quiet (Ch.of_below hb6))
  clear hb6
  go_wp2_with fail
  refine hK.out _ _ ?_ (fun zk => ?_)
  · exact Z6.out
  clear hK K
  try go_frame
  apply tk 6 ksa6 rfl (by kernel_rfl) (fun _ _ _ h => h) zk
  · intro wq zq
    go_simp
    try rfl
  go_frame
  refine wpAnyH_done (by kernel_rfl) ?_ _
  clear NCB NBX
  have hzz := HZ.out
  have NCB : ¬ (F x.cb ∨ x.cb = w2.heap.size) := fun e => e.elim (fun e => (H6.out.far _ e).2.2 x HIN.out (.inl rfl)) (fun e => by have := HLT.out.1 x.cb (.inl rfl); omega)
  have NBX : ∀ y, (w.heap.size ≤ y ∧ y < w2.heap.size) → ¬ (F y ∨ y = w2.heap.size) := fun y hy e => e.elim (fun e => by have := HLT.out.2 y e; omega) (fun e => by omega)
  clear hzz
  clear HXX
  go_wp2
  refine wp_reg (fun y => F y ∨ y = w2.heap.size) (R := fun V => Ch (fun _ => False) w6 V) (by kernel_rfl) (Ch.drew _) (fun V cV zk => ?_)
  have CV := hide (C6.out.trans cV (fun _ _ h => h))
  have HV := hide (H6.out.quiet cV)
  clear cV
  have HXX := hide (fun wq (kq : Ch (fun y => F y ∨ y = w2.heap.size) V wq) => show (wq.cell? ⟨x.cb, 0, none⟩ = some (.pointer (some ⟨bp, 0, none⟩)) ∧ wq.cell? ⟨x.cb, 1, none⟩ = some (.int .u32 x.h.1) ∧ wq.cell? ⟨x.cb, 2, none⟩ = some (.int .u32 x.h.2) ∧ wq.cell? ⟨x.cb, 3, none⟩ = some (.pointer (some ⟨x.rp, 0, none⟩))) ∧ (wq.cell? ⟨w.heap.size, 0, none⟩ = some (.int .u32 g.1) ∧ wq.cell? ⟨w.heap.size, 1, none⟩ = some (.int .u32 g.2)) ∧ wq.cell? ⟨w1.heap.size, 0, none⟩ = some (.int .i64 v.n) ∧ wq.cell? ⟨w1.heap.size, 1, none⟩ = some (.int .u32 v.s) ∧ wq.cell? ⟨w1.heap.size, 2, none⟩ = some (.int .u32 v.g) from by
    have hz := HZ.out
    have e0 := Lib.cell_of_heap (kq.box (HV.out.ch x HIN.out).box NCB)
    have e1 := Lib.cell_of_heap (kq.box (CV.out.box HN.out.1 (fun h => h)) (NBX w.heap.size (by omega)))
    have e2 := Lib.cell_of_heap (kq.box (CV.out.box HN.out.2.1 (fun h => h)) (NBX w1.heap.size (by omega)))
    exact ⟨⟨by simp [e0], by simp [e0], by simp [e0], by simp [e0]⟩, ⟨by simp [e1], by simp [e1]⟩, by simp [e2], by simp [e2], by simp [e2]⟩)
  apply tk 0 ksb0 rfl (by kernel_rfl) (fun _ _ _ h => h) zk
  · intro wq zq
    go_simp
    try rfl
  go_frame
  apply tk 1 ksb1 rfl (by kernel_rfl) (fun _ _ _ h => h) zk
  · intro wq zq
    go_simp
    try rfl
  go_frame
  apply tk 2 ksb2 rfl (by kernel_rfl) (fun _ _ _ h => h) zk
  · intro wq zq
    go_simp
    try rfl
  go_frame
  apply tk 3 ksb3 rfl (by kernel_rfl) (fun _ _ _ h => h) zk
  · intro wq zq
    obtain ⟨⟨s0, s1, s2, s3⟩, ⟨s4, s5⟩, s6, s7, s8⟩ := HXX.out _ zq
    go_simp
    try rfl
  go_frame
  apply tk 4 ksb4 rfl (by kernel_rfl) (fun _ _ _ h => h) zk
  · intro wq zq
    obtain ⟨⟨s0, s1, s2, s3⟩, ⟨s4, s5⟩, s6, s7, s8⟩ := HXX.out _ zq
    go_simp
    try rfl
  go_frame
  apply tk 5 ksb5 rfl (by kernel_rfl) (fun _ _ _ h => h) zk
  · intro wq zq
    obtain ⟨⟨s0, s1, s2, s3⟩, ⟨s4, s5⟩, s6, s7, s8⟩ := HXX.out _ zq
    go_simp
    try rfl
  go_frame
  refine Go.Proofs.Ytbblmbbpicinlaa.rd 6 ksb6 rfl (by kernel_rfl) fun K hK => ?_
  go_simp
  refine (park_is HV.out.bk hl HV.out.low SB.out.h1 SB.out.h2 (show I64 1 by constructor <;> decide) SB.out.g1 SB.out.g2 SB.out.v0 SB.out.v1 SB.out.v2).mono ?_
  rintro e w7 ⟨rfl, F7, hp7, hc7, hd7⟩
  have P7 := hide (And.intro hp7 hd7)
  have C7 := hide hc7
  have Z7 := hide (zk.trans hc7 (fun _ _ h => .inl h))
  clear hp7 hc7 hd7
  go_wp2_with fail
  refine hK.out _ _ ?_ (fun zk => ?_)
  · exact Z7.out
  clear hK K
  try go_frame
  have hz := HZ.out
  have n3 := C7.out.box (CV.out.box HN.out.2.2 (fun h => h)) (fun e => by have := HLT.out.2 _ e; omega)
  have N3 := hide n3
  have d0 : w7.cell? ⟨w2.heap.size, 0, none⟩ = some (.int .i64 0) := by simp [Lib.cell_of_heap n3]
  have d1 : w7.cell? ⟨w2.heap.size, 1, none⟩ = some (.int .i64 0) := by simp [Lib.cell_of_heap n3]
  have d2 : w7.cell? ⟨w2.heap.size, 2, none⟩ = some (.int .u32 0) := by simp [Lib.cell_of_heap n3]
  have d3 : w7.cell? ⟨w2.heap.size, 3, none⟩ = some (.int .u32 0) := by simp [Lib.cell_of_heap n3]
  have d4 : w7.cell? ⟨w2.heap.size, 4, none⟩ = some (.bool false) := by simp [Lib.cell_of_heap n3]
  have d5 : w7.cell? ⟨w2.heap.size, 5, none⟩ = some (.slice none 0 0) := by simp [Lib.cell_of_heap n3]
  have df : ∀ o, w7.frozen? ⟨w2.heap.size, o, none⟩ = false := fun o => by simp [World.frozen?, n3]
  have HS := hide (did_set n3 (.int .i64 1) (.int .i64 0) (.int .u32 0) (.int .u32 0) (.bool false) (.slice none 0 0))
  clear n3 hz
  refine Go.Proofs.Ytbblmbbpicinlaa.rd 7 ksb7 rfl (by kernel_rfl) fun K hK => ?_
  go_simp
  refine hK.out _ _ ?_ (fun zk => ?_)
  · exact zk.trans HS.out.2 (fun y hy e => .inr e)
  clear hK K
  try go_frame
  refine wpAnyH_done (by kernel_rfl) ?_ _
  go_wp2
  have hz := HZ.out
  have cF := (((C3.out.trans CV.out (fun _ _ h => h)).mono (Q' := F) (fun _ _ h => h.elim)).trans C7.out (fun _ _ h => h)).trans HS.out.2 (fun y hy e => by omega)
  have zV := (C3.out.trans CV.out (fun _ _ h => h)).size
  have hd : ∀ y, F7 y → F y ∨ w.heap.size ≤ y := fun y hy => (P7.out.2 y hy).imp_right fun e => by omega
  have nF : ∀ y, F7 y → ¬ y = w2.heap.size := fun y hy e => by
    have z2 := CV.out.size
    rcases P7.out.2 y hy with h | h
    · have := HLT.out.2 y h; omega
    · omega
  refine bodyPost_ret (v := didV 1 zVa false (.slice none 0 0)) (res_send _ w2.heap.size _ 1 0 0 0 false _ rfl HS.out.1) rfl ⟨rfl, F7, H0.out.book (face.ch P7.out.1 HS.out.2 nF) cF hd, cF, hd⟩

end Go.Proofs.Ytbblmbbpicinlaa

namespace Go.Proofs.Ytbblmbbpicinlaa
open Go.RowKit

abbrev kfa0 : Oper := { dst := some 15, op := Op.move (Operand.tmp 0), type := 143, pos := "channel.go:49", after := #[], guard := none }
abbrev kfa1 : Oper := { dst := some 16, op := Op.nilCheck (Operand.tmp 15), type := 0, pos := "channel.go:49", after := #[{ on := 0, ground := Ground.data }], guard := none }
abbrev kfa2 : Oper := { dst := some 17, op := Op.fieldAddr 147 (Operand.tmp 16) 1, type := 0, pos := "channel.go:49", after := #[{ on := 1, ground := Ground.data }], guard := none }
abbrev kfa3 : Oper := { dst := some 18, op := Op.load 140 (Operand.tmp 17), type := 140, pos := "channel.go:49", after := #[{ on := 2, ground := Ground.data }], guard := none }
abbrev kfa4 : Oper := { dst := some 19, op := Op.fieldAddr 136 (Operand.tmp 3) 4, type := 0, pos := "channel.go:49", after := #[], guard := none }
abbrev kfa5 : Oper := { dst := some 20, op := Op.load 46 (Operand.tmp 19), type := 46, pos := "channel.go:49", after := #[{ on := 4, ground := Ground.data }], guard := none }
abbrev kfa6 : Oper := { dst := some 21, op := Op.call { callee := Callee.value (Operand.func 105), args := #[Operand.tmp 18, Operand.tmp 20], argTypes := #[140, 46] }, type := 27, pos := "channel.go:49", after := #[{ on := 3, ground := Ground.data }, { on := 5, ground := Ground.data }], guard := none }
abbrev kfb0 : Oper := { dst := some 22, op := Op.move (Operand.tmp 0), type := 143, pos := "channel.go:50", after := #[], guard := none }
abbrev kfb1 : Oper := { dst := some 23, op := Op.nilCheck (Operand.tmp 22), type := 0, pos := "channel.go:50", after := #[{ on := 0, ground := Ground.data }], guard := none }
abbrev kfb2 : Oper := { dst := some 24, op := Op.fieldAddr 147 (Operand.tmp 23) 0, type := 0, pos := "channel.go:50", after := #[{ on := 1, ground := Ground.data }], guard := none }
abbrev kfb3 : Oper := { dst := some 25, op := Op.load 145 (Operand.tmp 24), type := 145, pos := "channel.go:50", after := #[{ on := 2, ground := Ground.data }], guard := none }
abbrev kfb4 : Oper := { dst := some 26, op := Op.load 136 (Operand.tmp 3), type := 136, pos := "channel.go:50", after := #[], guard := none }
abbrev kfb5 : Oper := { dst := some 27, op := Op.build 117 #[], type := 117, pos := "channel.go:50", after := #[], guard := none }
abbrev kfb6 : Oper := { dst := some 28, op := Op.call { callee := Callee.value (Operand.func 104), args := #[Operand.tmp 25, Operand.tmp 26, Operand.tmp 27], argTypes := #[145, 136, 117] }, type := 119, pos := "channel.go:50", after := #[{ on := 3, ground := Ground.data }, { on := 4, ground := Ground.data }, { on := 5, ground := Ground.data }], guard := none }
abbrev kfb7 : Oper := { dst := some 29, op := Op.buildSlice 70 1 #[(0, Operand.tmp 28)], type := 70, pos := "channel.go:50", after := #[{ on := 6, ground := Ground.data }], guard := none }
abbrev kfb8 : Oper := { dst := some 2, op := Op.assign (Operand.tmp 29), type := 70, pos := "channel.go:50", after := #[{ on := 7, ground := Ground.data }, { on := 6, ground := Ground.chain }, { on := 0, ground := Ground.phase }, { on := 1, ground := Ground.phase }, { on := 2, ground := Ground.phase }, { on := 3, ground := Ground.phase }, { on := 4, ground := Ground.phase }, { on := 5, ground := Ground.phase }, { on := 6, ground := Ground.phase }, { on := 7, ground := Ground.phase }], guard := none }

abbrev vaR (r : Rc) : Va := ⟨r.vn, r.vs, r.vg⟩
set_option maxRecDepth 100000 in
set_option maxHeartbeats 8000000 in
theorem refill_none {w : World} {B c bp M : Nat} {F : Nat → Prop} {l : List Wt} {cs : List Cn} (h : CI w B c bp M F l cs) (hl : l.length ≤ 100000) {x : Cn} (hin : x ∈ cs) (u1 : UsW x.h.1) (u2 : UsW x.h.2) (hq : sel (inRow x.h.1 x.h.2 1) l = []) :
    Calls Try.prog 102 #[.pointer (some ⟨x.cb, 0, none⟩)] w fun e w' => e = .returned (.slice none 0 0) ∧ Below w.heap.size w w' := by
  have HFI := hide (show Calls Try.prog 103 #[plV bp x.h.1 x.h.2, .int .i64 1] w fun e w' => e = .returned (.tuple #[rcV zRc, .bool false]) ∧ Below w.heap.size w w' from by
    have := pfirst_is h.bk hl u1 u2 (show I64 1 by constructor <;> decide)
    rw [hq] at this
    exact this)
  obtain ⟨x0, x1, x2, x3, x4⟩ := (h.ch x hin).cells
  clear h hin u1 u2 hq
  go_enter Try.func102, Try.ntmps102
  go_wp2_with fail
  refine HFI.out.mono ?_
  rintro e w1 ⟨rfl, hb1⟩
  have HB := hide hb1
  clear hb1 x0 x1 x2 x3 x4 HFI
  go_wp2
  go_ret
  exact ⟨rfl, HB.out.trans ((below1 _ _).mono HB.out.size)⟩

set_option maxRecDepth 100000 in
set_option maxHeartbeats 8000000 in
theorem refill_some {w : World} {B c bp M : Nat} {F : Nat → Prop} {l : List Wt} {cs : List Cn} (h : CI w B c bp M F l cs) (hl : l.length ≤ 100000) {i : Nat} (hi : i < cs.length) {x : Cn} (hx : cs[i] = x) (u1 : UsW x.h.1) (u2 : UsW x.h.2) {r : Rc} {rest : List Rc} (hq : sel (inRow x.h.1 x.h.2 1) l = r :: rest) (hn : x.xs.length < x.n) (ur1 : UsW r.ws) (ur2 : UsW r.wg) :
    Calls Try.prog 102 #[.pointer (some ⟨x.cb, 0, none⟩)] w fun e w' => ∃ nb F', e = .returned (.slice (some ⟨nb, 0, none⟩) 1 1) ∧ w.heap.size ≤ nb ∧ w'.heap[nb]? = some (.cells (wkF r.ws r.wg r.ar zVa false 0).toArray 119 (0, 0)) ∧ CI w' B c bp M F' (leaW l r.ws r.wg) (cs.set i (x.put (vaR r))) ∧ Ch (fun y => x.mine y ∨ F y) w w' ∧ ∀ y, F' y → F y ∨ w.heap.size ≤ y := by
  have hin : x ∈ cs := by rw [← hx]; exact List.getElem_mem hi
  have HFI := hide (show Calls Try.prog 103 #[plV bp x.h.1 x.h.2, .int .i64 1] w fun e w' => e = .returned (.tuple #[rcV r, .bool true]) ∧ Below w.heap.size w w' from by
    have := pfirst_is h.bk hl u1 u2 (show I64 1 by constructor <;> decide)
    rw [hq] at this
    exact this)
  obtain ⟨x0, x1, x2, x3, x4⟩ := (h.ch x hin).cells
  have HLT := hide (show (∀ y, x.mine y → y < w.heap.size) ∧ ∀ y, F y → y < w.heap.size from ⟨(h.ch x hin).lt, fun y hy => (face.foot h.bk y hy).2⟩)
  have H0 := hide h
  have HIN := hide hin
  have HX := hide hx
  clear h hin hx u1 u2 hq
  go_enter Try.func102, Try.ntmps102
  go_wp2_with fail
  refine HFI.out.mono ?_
  rintro e w1 ⟨rfl, hb1⟩
  have hc1 := Ch.of_below (Q := fun _ => False) hb1
  clear hb1 x0 x1 x2 x3 x4 HFI
  go_wp2
  obtain ⟨w2, hw2⟩ : ∃ w2, w1.alloc (.cells #[.int .u32 r.ms, .int .u32 r.mg, .int .u32 r.ws, .int .u32 r.wg, .int .u32 r.rs, .int .u32 r.rg, .int .i64 r.rd, .int .i64 r.ar, .int .i64 r.vn, .int .u32 r.vs, .int .u32 r.vg] 136) = w2 := ⟨_, rfl⟩
  rw [hw2]
  have hn2 : w2.heap[w1.heap.size]? = some (.cells #[.int .u32 r.ms, .int .u32 r.mg, .int .u32 r.ws, .int .u32 r.wg, .int .u32 r.rs, .int .u32 r.rg, .int .i64 r.rd, .int .i64 r.ar, .int .i64 r.vn, .int .u32 r.vs, .int .u32 r.vg] 136 (0, 0)) := by rw [← hw2]; exact heap_new _ _
  have hz2 : w2.heap.size = w1.heap.size + 1 := by rw [← hw2, World.size_alloc]
  have C2 := hide (hc1.trans (show Ch (fun _ => False) w1 w2 by rw [← hw2]; exact Ch.alloc _ _) (fun _ _ h => h))
  have HZ := hide (And.intro hc1.size hz2)
  have HN := hide hn2
  have H2 := hide (H0.out.quiet C2.out)
  clear hw2 hn2 hz2 hc1
  have hxb := (H2.out.ch x HIN.out)
  have NCB : ¬ (x.cb = x.rp ∨ x.cb = x.rg) := by
    rintro (e | e)
    · have h1 := hxb.box
      rw [e, hxb.ring.box] at h1
      injection h1 with h1
      injection h1 with _ h2 _
      exact absurd h2 (by decide)
    · have h1 := hxb.box
      rw [e, hxb.ring.row] at h1
      injection h1 with h1
      injection h1 with _ h2 _
      exact absurd h2 (by decide)
  have NBX : ¬ (w1.heap.size = x.rp ∨ w1.heap.size = x.rg) := fun e => by
    have h1 := HLT.out.1 x.rp (.inr (.inl rfl))
    have h2 := HLT.out.1 x.rg (.inr (.inr rfl))
    have h3 := HZ.out.1
    omega
  clear hxb
  refine wp_reg (fun y => y = x.rp ∨ y = x.rg) (R := fun V => Ch (fun _ => False) w2 V) (by kernel_rfl) (Ch.drew _) (fun V cV zk => ?_)
  have CV := hide (C2.out.trans cV (fun _ _ h => h))
  have HV := hide (H2.out.quiet cV)
  have NV := hide (cV.box HN.out (fun h => h))
  have SV := hide cV.size
  clear cV
  have HXX := hide (fun wq (kq : Ch (fun y => y = x.rp ∨ y = x.rg) V wq) => show wq.cell? ⟨x.cb, 3, none⟩ = some (.pointer (some ⟨x.rp, 0, none⟩)) ∧ wq.cell? ⟨w1.heap.size, 8, none⟩ = some (.int .i64 r.vn) ∧ wq.cell? ⟨w1.heap.size, 9, none⟩ = some (.int .u32 r.vs) ∧ wq.cell? ⟨w1.heap.size, 10, none⟩ = some (.int .u32 r.vg) from by
    have e0 := Lib.cell_of_heap (kq.box (HV.out.ch x HIN.out).box NCB)
    have e1 := Lib.cell_of_heap (kq.box NV.out NBX)
    exact ⟨by simp [e0], by simp [e1], by simp [e1], by simp [e1]⟩)
  apply tk 0 kfa0 rfl (by kernel_rfl) (fun _ _ _ h => h) zk
  · intro wq zq
    go_simp
    try rfl
  go_frame
  apply tk 1 kfa1 rfl (by kernel_rfl) (fun _ _ _ h => h) zk
  · intro wq zq
    go_simp
    try rfl
  go_frame
  apply tk 2 kfa2 rfl (by kernel_rfl) (fun _ _ _ h => h) zk
  · intro wq zq
    go_simp
    try rfl
  go_frame
  apply tk 3 kfa3 rfl (by kernel_rfl) (fun _ _ _ h => h) zk
  · intro wq zq
    obtain ⟨s0, s1, s2, s3⟩ := HXX.out _ zq
    go_simp
    try rfl
  go_frame
  apply tk 4 kfa4 rfl (by kernel_rfl) (fun _ _ _ h => h) zk
  · intro wq zq
    go_simp
    try rfl
  go_frame
  apply tk 5 kfa5 rfl (by kernel_rfl) (fun _ _ _ h => h) zk
  · intro wq zq
    obtain ⟨s0, s1, s2, s3⟩ := HXX.out _ zq
    go_simp
    try rfl
  go_frame
  refine Go.Proofs.Ytbblmbbpicinlaa.rd 6 kfa6 rfl (by kernel_rfl) fun K hK => ?_
  go_simp
  refine (putV_ok (HV.out.ch x HIN.out).ring (vaR r) hn).mono ?_
  rintro e w3 ⟨rfl, hr3, hc3⟩
  have R3 := hide hr3
  have C3 := hide hc3
  have Z3 := hide (zk.trans hc3 (fun _ _ h => h))
  clear hr3 hc3
  go_wp2_with fail
  refine hK.out _ _ ?_ (fun zk => ?_)
  · exact Z3.out
  clear hK K
  try go_frame
  refine wpAnyH_done (by kernel_rfl) ?_ _
  have hb3 := C3.out.box (HV.out.ch x HIN.out).box NCB
  have hcs : cs[i].mine = x.mine := by rw [HX.out]
  have H3 := hide (show CI w3 B c bp M F l (cs.set i (x.put (vaR r))) from HV.out.upd hi ⟨hb3, R3.out⟩ (by rw [HX.out]; exact ⟨rfl, rfl, rfl, rfl⟩) (by rw [hcs]; exact C3.out.mono (fun _ _ e => .inr e)))
  have N3 := hide (C3.out.box NV.out NBX)
  have B3 := hide hb3
  clear hb3 hcs HXX
  have NCF : ¬ F x.cb := fun e => (H0.out.far _ e).2.2 x HIN.out (.inl rfl)
  have NBF : ¬ F w1.heap.size := fun e => by have h1 := HLT.out.2 _ e; have h2 := HZ.out.1; omega
  go_wp2
  refine wp_reg F (R := fun V => Ch (fun _ => False) w3 V) (by kernel_rfl) (Ch.drew _) (fun V4 cV zk => ?_)
  have CV4 := hide cV
  have HV4 := hide (H3.out.quiet cV)
  clear cV
  have HXX := hide (fun wq (kq : Ch F V4 wq) => show (wq.cell? ⟨x.cb, 0, none⟩ = some (.pointer (some ⟨bp, 0, none⟩)) ∧ wq.cell? ⟨x.cb, 1, none⟩ = some (.int .u32 x.h.1) ∧ wq.cell? ⟨x.cb, 2, none⟩ = some (.int .u32 x.h.2)) ∧ wq.cell? ⟨w1.heap.size, 0, none⟩ = some (.int .u32 r.ms) ∧ wq.cell? ⟨w1.heap.size, 1, none⟩ = some (.int .u32 r.mg) ∧ wq.cell? ⟨w1.heap.size, 2, none⟩ = some (.int .u32 r.ws) ∧ wq.cell? ⟨w1.heap.size, 3, none⟩ = some (.int .u32 r.wg) ∧ wq.cell? ⟨w1.heap.size, 4, none⟩ = some (.int .u32 r.rs) ∧ wq.cell? ⟨w1.heap.size, 5, none⟩ = some (.int .u32 r.rg) ∧ wq.cell? ⟨w1.heap.size, 6, none⟩ = some (.int .i64 r.rd) ∧ wq.cell? ⟨w1.heap.size, 7, none⟩ = some (.int .i64 r.ar) ∧ wq.cell? ⟨w1.heap.size, 8, none⟩ = some (.int .i64 r.vn) ∧ wq.cell? ⟨w1.heap.size, 9, none⟩ = some (.int .u32 r.vs) ∧ wq.cell? ⟨w1.heap.size, 10, none⟩ = some (.int .u32 r.vg) from by
    have e0 := Lib.cell_of_heap (kq.box (CV4.out.box B3.out (fun h => h)) NCF)
    have e1 := Lib.cell_of_heap (kq.box (CV4.out.box N3.out (fun h => h)) NBF)
    exact ⟨⟨by simp [e0], by simp [e0], by simp [e0]⟩, by simp [e1], by simp [e1], by simp [e1], by simp [e1], by simp [e1], by simp [e1], by simp [e1], by simp [e1], by simp [e1], by simp [e1], by simp [e1]⟩)
  apply tk 0 kfb0 rfl (by kernel_rfl) (fun _ _ _ h => h) zk
  · intro wq zq
    go_simp
    try rfl
  go_frame
  apply tk 1 kfb1 rfl (by kernel_rfl) (fun _ _ _ h => h) zk
  · intro wq zq
    go_simp
    try rfl
  go_frame
  apply tk 2 kfb2 rfl (by kernel_rfl) (fun _ _ _ h => h) zk
  · intro wq zq
    go_simp
    try rfl
  go_frame
  apply tk 3 kfb3 rfl (by kernel_rfl) (fun _ _ _ h => h) zk
  · intro wq zq
    obtain ⟨⟨s0, s1, s2⟩, t0, t1, t2, t3, t4, t5, t6, t7, t8, t9, t10⟩ := HXX.out _ zq
    go_simp
    try rfl
  go_frame
  apply tk 4 kfb4 rfl (by kernel_rfl) (fun _ _ _ h => h) zk
  · intro wq zq
    obtain ⟨⟨s0, s1, s2⟩, t0, t1, t2, t3, t4, t5, t6, t7, t8, t9, t10⟩ := HXX.out _ zq
    go_simp
    try rfl
  go_frame
  apply tk 5 kfb5 rfl (by kernel_rfl) (fun _ _ _ h => h) zk
  · intro wq zq
    go_simp
    try rfl
  go_frame
  refine Go.Proofs.Ytbblmbbpicinlaa.rd 6 kfb6 rfl (by kernel_rfl) fun K hK => ?_
  go_simp
  refine (wake_is (s := x.h.1) (g := x.h.2) (ga := 0) (fa := 0) (v := zVa) (ok := false) HV4.out.bk hl ur1 ur2).mono ?_
  rintro e w5 ⟨rfl, F5, hp5, hc5, hd5⟩
  have P5 := hide (And.intro hp5 hd5)
  have C5 := hide hc5
  have Z5 := hide (zk.trans hc5 (fun _ _ h => h))
  clear hp5 hc5 hd5
  go_wp2_with fail
  refine hK.out _ _ ?_ (fun zk => ?_)
  · exact Z5.out
  clear hK K
  try go_frame
  refine Go.Proofs.Ytbblmbbpicinlaa.rd 7 kfb7 rfl (by kernel_rfl) fun K hK => ?_
  go_simp
  refine hK.out _ _ ?_ (fun zk => ?_)
  · exact zk.trans (Ch.alloc (Q := F) _ _) (fun _ _ h => h)
  clear hK K
  try go_frame
  apply tk 8 kfb8 rfl (by kernel_rfl) (fun _ _ _ h => h) zk
  · intro wq zq
    go_simp
    try rfl
  go_frame
  refine wpAnyH_done (by kernel_rfl) ?_ _
  have hn6 := heap_new w5 (.cells (wkF r.ws r.wg r.ar zVa false 0).toArray 119)
  have hc6 := Ch.alloc (Q := fun _ => False) w5 (.cells (wkF r.ws r.wg r.ar zVa false 0).toArray 119)
  have HE := hide (And.intro hn6 hc6)
  clear hn6 hc6
  go_wp2
  go_ret
  have c03 := (CV.out.mono (Q' := fun y => x.mine y ∨ F y) (fun _ _ h => h.elim)).trans C3.out (fun _ _ e => .inl (.inr e))
  have c05 := (c03.trans CV4.out (fun _ _ h => h.elim)).trans C5.out (fun _ _ e => .inr e)
  have z4 := (c03.trans CV4.out (fun _ _ h => h.elim)).size
  have hd : ∀ y, F5 y → F y ∨ w.heap.size ≤ y := fun y hy => (P5.out.2 y hy).imp_right fun e => Nat.le_trans z4 e
  exact ⟨w5.heap.size, F5, rfl, c05.size, HE.out.1, (HV4.out.book P5.out.1 C5.out (fun y hy => P5.out.2 y hy)).quiet HE.out.2, c05.trans HE.out.2 (fun _ _ h => h.elim), hd⟩

end Go.Proofs.Ytbblmbbpicinlaa

namespace Go.Proofs.Ytbblmbbpicinlaa
open Go.RowKit

abbrev krc0 : Oper := { dst := some 19, op := Op.load 46 (Operand.tmp 5), type := 46, pos := "channel.go:32", after := #[], guard := none }
abbrev krc1 : Oper := { dst := some 20, op := Op.move (Operand.tmp 0), type := 143, pos := "channel.go:32", after := #[], guard := none }
abbrev krc2 : Oper := { dst := some 21, op := Op.call { callee := Callee.value (Operand.func 102), args := #[Operand.tmp 20], argTypes := #[143] }, type := 70, pos := "channel.go:32", after := #[{ on := 1, ground := Ground.data }], guard := none }
abbrev krc3 : Oper := { dst := some 22, op := Op.build 72 #[(1, Operand.tmp 19), (2, Operand.const (Value.bool true)), (3, Operand.tmp 21)], type := 72, pos := "channel.go:32", after := #[{ on := 0, ground := Ground.data }, { on := 2, ground := Ground.data }], guard := none }
abbrev krc4 : Oper := { dst := none, op := Op.store 72 (Operand.tmp 4) (Operand.tmp 22), type := 0, pos := "channel.go:32", after := #[{ on := 3, ground := Ground.data }, { on := 2, ground := Ground.chain }, { on := 0, ground := Ground.phase }, { on := 1, ground := Ground.phase }, { on := 2, ground := Ground.phase }, { on := 3, ground := Ground.phase }], guard := none }

theorem res_recv (tm : Array Value) (A : Nat) (Z : World) (fate n a b : Int) (ok : Bool) (wk : Value) (h2 : tm[4]?.getD undef = .pointer (some ⟨A, 0, none⟩)) (hb : Z.heap[A]? = some (.cells #[.int .i64 fate, .int .i64 n, .int .u32 a, .int .u32 b, .bool ok, wk] 72 (0, 0))) :
    (results Try.f66 tm).run Try.prog Z = .ok (didV fate ⟨n, a, b⟩ ok wk) Z := by
  have e := Lib.cell_of_heap hb
  simp [results, Try.f66, h2, go_sem, e]

/-- a block that is none of theirs has changed -/
theorem CI.away {w w' : World} {B c bp M A : Nat} {F : Nat → Prop} {l : List Wt} {cs : List Cn} (h : CI w B c bp M F l cs) (hc : Ch (fun y => y = A) w w') (n1 : A ≠ c) (n2 : A ≠ M) (n3 : ∀ x ∈ cs, ¬ x.mine A) (n4 : ¬ F A) : CI w' B c bp M F l cs :=
  ⟨hc.box h.box (fun e => n1 e.symm), h.mp.ch hc (fun e => n2 e.symm), face.ch h.bk hc (fun y hy e => n4 (by rw [← e]; exact hy)), fun x hx => (h.ch x hx).ch hc (fun y hy e => n3 x hx (by rw [← e]; exact hy)), h.ap, h.nd, h.far, h.lo, Nat.le_trans h.low hc.size⟩
/-- its blocks are old -/
theorem CI.olds {w : World} {B c bp M A : Nat} {F : Nat → Prop} {l : List Wt} {cs : List Cn} (h : CI w B c bp M F l cs) (hA : w.heap.size ≤ A) : A ≠ c ∧ A ≠ M ∧ (∀ x ∈ cs, ¬ x.mine A) ∧ ¬ F A := by
  refine ⟨fun e => ?_, fun e => ?_, fun x hx e => ?_, fun e => ?_⟩
  · have := (Array.getElem?_eq_some_iff.1 h.box).1; omega
  · have := h.mp.lt; omega
  · have := (h.ch x hx).lt A e; omega
  · have := (face.foot h.bk A e).2; omega

/-- what a Take leaves of a channel -/
def Cn.take (x : Cn) : Cn := { x with xs := x.xs.tail, f := plc x.n x.f 1, pl := x.pl.set x.f zVa }

set_option maxRecDepth 100000 in
set_option maxHeartbeats 8000000 in
theorem recv_take0 {w : World} {B c bp M : Nat} {F : Nat → Prop} {l : List Wt} {cs : List Cn} (h : CI w B c bp M F l cs) (hl : l.length ≤ 100000) {i : Nat} (hi : i < cs.length) {x : Cn} (hx : cs[i] = x) (u1 : UsW x.h.1) (u2 : UsW x.h.2) {g : Hnd} {v : Va} {rest : List Va} (hxs : x.xs = v :: rest) (hq : sel (inRow x.h.1 x.h.2 1) l = []) :
    Calls Try.prog 66 #[.pointer (some ⟨x.cb, 0, none⟩), hkV g] w fun e w' => e = .returned (didV 0 v true (.slice none 0 0)) ∧ CI w' B c bp M F l (cs.set i x.take) ∧ Ch (fun y => x.mine y ∨ F y) w w' := by
  obtain ⟨w1, hw1⟩ : ∃ w1, w.alloc (.cells #[.int .u32 g.1, .int .u32 g.2] 43) = w1 := ⟨_, rfl⟩
  have hc1 : Ch (fun _ => False) w w1 := by rw [← hw1]; exact Ch.alloc _ _
  have hz1 : w1.heap.size = w.heap.size + 1 := by rw [← hw1, World.size_alloc]
  have hn1 : w1.heap[w.heap.size]? = some (.cells #[.int .u32 g.1, .int .u32 g.2] 43 (0, 0)) := by rw [← hw1]; exact heap_new _ _
  obtain ⟨w2, hw2⟩ : ∃ w2, w1.alloc (.cells #[.int .i64 0, .int .i64 0, .int .u32 0, .int .u32 0, .bool false, .slice none 0 0] 72) = w2 := ⟨_, rfl⟩
  have hc2 : Ch (fun _ => False) w1 w2 := by rw [← hw2]; exact Ch.alloc _ _
  have hz2 : w2.heap.size = w1.heap.size + 1 := by rw [← hw2, World.size_alloc]
  have hn2 : w2.heap[w1.heap.size]? = some (.cells #[.int .i64 0, .int .i64 0, .int .u32 0, .int .u32 0, .bool false, .slice none 0 0] 72 (0, 0)) := by rw [← hw2]; exact heap_new _ _
  replace hn1 := hc2.box hn1 (fun h => h)
  have C2 := hide (hc1.trans hc2 (fun _ _ h => h))
  have HN := hide hn2
  have HZ := hide (And.intro hz1 hz2)
  have hin : x ∈ cs := by rw [← hx]; exact List.getElem_mem hi
  have HLT := hide (show (∀ y, x.mine y → y < w.heap.size) ∧ ∀ y, F y → y < w.heap.size from ⟨(h.ch x hin).lt, fun y hy => (face.foot h.bk y hy).2⟩)
  have H0 := hide h
  have H2 := hide (h.quiet C2.out)
  have HX := hide hx
  have hring := (H2.out.ch x hin).ring
  rw [hxs] at hring
  have hct := hring.lies.cnt
  rw [List.length_cons] at hct
  obtain ⟨x0, x1, x2, x3, x4⟩ := (H2.out.ch x hin).cells
  have HIN := hide hin
  have HXS := hide hxs
  have HQ := hide hq
  have HR := hide hring
  clear h hc1 hc2 hz1 hz2 hn1 hn2 hin hx hxs hring hq
  go_enter Try.func66, Try.ntmps66
  go_wp2_with fail
  refine (takeV_ok HR.out).mono ?_
  rintro e w3 ⟨rfl, hr3, hc3⟩
  clear x0 x1 x2 x3 x4 hw1 hw2
  have hxb := H2.out.ch x HIN.out
  have NCB : ¬ (x.cb = x.rp ∨ x.cb = x.rg) := by
    rintro (e | e)
    · have h1 := hxb.box
      rw [e, hxb.ring.box] at h1
      injection h1 with h1
      injection h1 with _ h2 _
      exact absurd h2 (by decide)
    · have h1 := hxb.box
      rw [e, hxb.ring.row] at h1
      injection h1 with h1
      injection h1 with _ h2 _
      exact absurd h2 (by decide)
  have hb3 := hc3.box hxb.box NCB
  have hcs : cs[i].mine = x.mine := by rw [HX.out]
  have htk : x.take = { x with xs := rest, f := plc x.n x.f 1, pl := x.pl.set x.f zVa } := by unfold Cn.take; rw [HXS.out]; rfl
  have H3 := hide (show CI w3 B c bp M F l (cs.set i x.take) from H2.out.upd hi (by rw [htk]; exact ⟨hb3, hr3⟩) (by rw [HX.out]; exact ⟨rfl, rfl, rfl, rfl⟩) (by rw [hcs]; exact hc3.mono (fun _ _ e => .inr e)))
  have C3 := hide hc3
  have nA3 : ¬ (w1.heap.size = x.rp ∨ w1.heap.size = x.rg) := fun e => by
    have h1 := HLT.out.1 x.rp (.inr (.inl rfl))
    have h2 := HLT.out.1 x.rg (.inr (.inr rfl))
    have h3 := HZ.out
    omega
  have N3 := hide (hc3.box HN.out nA3)
  have hin3 : x.take ∈ cs.set i x.take := List.mem_iff_getElem.2 ⟨i, by rw [List.length_set]; exact hi, by rw [List.getElem_set_self]⟩
  have HI3 := hide hin3
  have HTX := hide (show x.take.xs.length < x.take.n from by rw [htk]; show rest.length < x.n; omega)
  clear hr3 hc3 hxb hb3 hcs NCB nA3 hin3 htk
  go_wp2
  obtain ⟨w4, hw4⟩ : ∃ w4, w3.alloc (.cells #[.int .i64 v.n, .int .u32 v.s, .int .u32 v.g] 46) = w4 := ⟨_, rfl⟩
  rw [hw4]
  have hc4 : Ch (fun _ => False) w3 w4 := by rw [← hw4]; exact Ch.alloc _ _
  have hn4 : w4.heap[w3.heap.size]? = some (.cells #[.int .i64 v.n, .int .u32 v.s, .int .u32 v.g] 46 (0, 0)) := by rw [← hw4]; exact heap_new _ _
  have H4 := hide (H3.out.quiet hc4)
  have C4 := hide hc4
  have X4 := hide hn4
  have N4 := hide (hc4.box N3.out (fun h => h))
  clear hw4 hc4 hn4
  have hz := HZ.out
  have z3 := C3.out.size
  have NX : ¬ ((x.mine w3.heap.size ∨ F w3.heap.size) ∨ w3.heap.size = w1.heap.size) := fun e => by
    rcases e with (e | e) | e
    · have := HLT.out.1 _ e; omega
    · have := HLT.out.2 _ e; omega
    · omega
  have NA : ¬ (x.mine w1.heap.size ∨ F w1.heap.size) := fun e => by
    rcases e with e | e
    · have := HLT.out.1 _ e; omega
    · have := HLT.out.2 _ e; omega
  clear hz z3
  refine wp_reg (fun y => (x.mine y ∨ F y) ∨ y = w1.heap.size) (R := fun V => Ch (fun _ => False) w4 V) (by kernel_rfl) (Ch.drew _) (fun V cV zk => ?_)
  have CV := hide cV
  have HV := hide (H4.out.quiet cV)
  clear cV
  have HXX := hide (fun wq (kq : Ch (fun y => (x.mine y ∨ F y) ∨ y = w1.heap.size) V wq) => show wq.cell? ⟨w3.heap.size, 0, none⟩ = some (.int .i64 v.n) ∧ wq.cell? ⟨w3.heap.size, 1, none⟩ = some (.int .u32 v.s) ∧ wq.cell? ⟨w3.heap.size, 2, none⟩ = some (.int .u32 v.g) from by
    have e := Lib.cell_of_heap (kq.box (CV.out.box X4.out (fun h => h)) NX)
    exact ⟨by simp [e], by simp [e], by simp [e]⟩)
  apply tk 0 krc0 rfl (by kernel_rfl) (fun _ _ _ h => h) zk
  · intro wq zq
    obtain ⟨s0, s1, s2⟩ := HXX.out _ zq
    go_simp
    try rfl
  go_frame
  apply tk 1 krc1 rfl (by kernel_rfl) (fun _ _ _ h => h) zk
  · intro wq zq
    go_simp
    try rfl
  go_frame
  refine Go.Proofs.Ytbblmbbpicinlaa.rd 2 krc2 rfl (by kernel_rfl) fun K hK => ?_
  go_simp
  refine (refill_none HV.out hl HI3.out u1 u2 HQ.out).mono ?_
  rintro e w5 ⟨rfl, hb5⟩
  have hc5 := Ch.of_below (Q := fun y => x.mine y ∨ F y) hb5
  have C5 := hide hc5
  have Z5 := hide (zk.trans hc5 (fun _ _ h => .inl h))
  have H5 := hide (HV.out.quiet (Ch.of_below hb5))
  clear hb5 hc5
  go_wp2_with fail
  refine hK.out _ _ ?_ (fun zk => ?_)
  · exact Z5.out
  clear hK K
  try go_frame
  apply tk 3 krc3 rfl (by kernel_rfl) (fun _ _ _ h => h) zk
  · intro wq zq
    go_simp
    try rfl
  go_frame
  have n5 := C5.out.box (CV.out.box N4.out (fun h => h)) NA
  have d0 : w5.cell? ⟨w1.heap.size, 0, none⟩ = some (.int .i64 0) := by simp [Lib.cell_of_heap n5]
  have d1 : w5.cell? ⟨w1.heap.size, 1, none⟩ = some (.int .i64 0) := by simp [Lib.cell_of_heap n5]
  have d2 : w5.cell? ⟨w1.heap.size, 2, none⟩ = some (.int .u32 0) := by simp [Lib.cell_of_heap n5]
  have d3 : w5.cell? ⟨w1.heap.size, 3, none⟩ = some (.int .u32 0) := by simp [Lib.cell_of_heap n5]
  have d4 : w5.cell? ⟨w1.heap.size, 4, none⟩ = some (.bool false) := by simp [Lib.cell_of_heap n5]
  have d5 : w5.cell? ⟨w1.heap.size, 5, none⟩ = some (.slice none 0 0) := by simp [Lib.cell_of_heap n5]
  have df : ∀ o, w5.frozen? ⟨w1.heap.size, o, none⟩ = false := fun o => by simp [World.frozen?, n5]
  have HS := hide (did_set n5 (.int .i64 0) (.int .i64 v.n) (.int .u32 v.s) (.int .u32 v.g) (.bool true) (.slice none 0 0))
  clear n5
  refine Go.Proofs.Ytbblmbbpicinlaa.rd 4 krc4 rfl (by kernel_rfl) fun K hK => ?_
  go_simp
  refine hK.out _ _ ?_ (fun zk => ?_)
  · exact zk.trans HS.out.2 (fun y hy e => .inr e)
  clear hK K
  try go_frame
  refine wpAnyH_done (by kernel_rfl) ?_ _
  go_wp2
  have hz := HZ.out
  have c03 := (C2.out.mono (Q' := fun y => x.mine y ∨ F y) (fun _ _ h => h.elim)).trans C3.out (fun _ _ e => .inl (.inr e))
  have c05 := ((c03.trans C4.out (fun _ _ h => h.elim)).trans CV.out (fun _ _ h => h.elim)).trans C5.out (fun _ _ e => e)
  have c06 := c05.trans HS.out.2 (fun y hy e => by omega)
  have ho := H0.out.olds (A := w1.heap.size) (by omega)
  have hxs3 : ∀ z ∈ cs.set i x.take, ¬ z.mine w1.heap.size := fun z hz2 => by
    rcases List.mem_or_eq_of_mem_set hz2 with hm | hm
    · exact ho.2.2.1 z hm
    · subst hm; exact ho.2.2.1 x HIN.out
  refine bodyPost_ret (v := didV 0 v true (.slice none 0 0)) (res_recv _ w1.heap.size _ 0 v.n v.s v.g true _ rfl HS.out.1) rfl ⟨rfl, ?_, c06⟩
  exact H5.out.away HS.out.2 ho.1 ho.2.1 hxs3 ho.2.2.2

set_option maxRecDepth 100000 in
set_option maxHeartbeats 8000000 in
theorem recv_take1 {w : World} {B c bp M : Nat} {F : Nat → Prop} {l : List Wt} {cs : List Cn} (h : CI w B c bp M F l cs) (hl : l.length ≤ 100000) {i : Nat} (hi : i < cs.length) {x : Cn} (hx : cs[i] = x) (u1 : UsW x.h.1) (u2 : UsW x.h.2) {g : Hnd} {v : Va} {rest : List Va} (hxs : x.xs = v :: rest) {r : Rc} {more : List Rc} (hq : sel (inRow x.h.1 x.h.2 1) l = r :: more) (ur1 : UsW r.ws) (ur2 : UsW r.wg) :
    Calls Try.prog 66 #[.pointer (some ⟨x.cb, 0, none⟩), hkV g] w fun e w' => ∃ nb F', e = .returned (didV 0 v true (.slice (some ⟨nb, 0, none⟩) 1 1)) ∧ w.heap.size ≤ nb ∧ w'.heap[nb]? = some (.cells (wkF r.ws r.wg r.ar zVa false 0).toArray 119 (0, 0)) ∧ CI w' B c bp M F' (leaW l r.ws r.wg) (cs.set i (x.take.put (vaR r))) ∧ Ch (fun y => x.mine y ∨ F y) w w' ∧ ∀ y, F' y → F y ∨ w.heap.size ≤ y := by
  obtain ⟨w1, hw1⟩ : ∃ w1, w.alloc (.cells #[.int .u32 g.1, .int .u32 g.2] 43) = w1 := ⟨_, rfl⟩
  have hc1 : Ch (fun _ => False) w w1 := by rw [← hw1]; exact Ch.alloc _ _
  have hz1 : w1.heap.size = w.heap.size + 1 := by rw [← hw1, World.size_alloc]
  have hn1 : w1.heap[w.heap.size]? = some (.cells #[.int .u32 g.1, .int .u32 g.2] 43 (0, 0)) := by rw [← hw1]; exact heap_new _ _
  obtain ⟨w2, hw2⟩ : ∃ w2, w1.alloc (.cells #[.int .i64 0, .int .i64 0, .int .u32 0, .int .u32 0, .bool false, .slice none 0 0] 72) = w2 := ⟨_, rfl⟩
  have hc2 : Ch (fun _ => False) w1 w2 := by rw [← hw2]; exact Ch.alloc _ _
  have hz2 : w2.heap.size = w1.heap.size + 1 := by rw [← hw2, World.size_alloc]
  have hn2 : w2.heap[w1.heap.size]? = some (.cells #[.int .i64 0, .int .i64 0, .int .u32 0, .int .u32 0, .bool false, .slice none 0 0] 72 (0, 0)) := by rw [← hw2]; exact heap_new _ _
  replace hn1 := hc2.box hn1 (fun h => h)
  have C2 := hide (hc1.trans hc2 (fun _ _ h => h))
  have HN := hide hn2
  have HZ := hide (And.intro hz1 hz2)
  have hin : x ∈ cs := by rw [← hx]; exact List.getElem_mem hi
  have HLT := hide (show (∀ y, x.mine y → y < w.heap.size) ∧ ∀ y, F y → y < w.heap.size from ⟨(h.ch x hin).lt, fun y hy => (face.foot h.bk y hy).2⟩)
  have H0 := hide h
  have H2 := hide (h.quiet C2.out)
  have HX := hide hx
  have hring := (H2.out.ch x hin).ring
  rw [hxs] at hring
  have hct := hring.lies.cnt
  rw [List.length_cons] at hct
  obtain ⟨x0, x1, x2, x3, x4⟩ := (H2.out.ch x hin).cells
  have HIN := hide hin
  have HXS := hide hxs
  have HQ := hide hq
  have HR := hide hring
  clear h hc1 hc2 hz1 hz2 hn1 hn2 hin hx hxs hring hq
  go_enter Try.func66, Try.ntmps66
  go_wp2_with fail
  refine (takeV_ok HR.out).mono ?_
  rintro e w3 ⟨rfl, hr3, hc3⟩
  clear x0 x1 x2 x3 x4 hw1 hw2
  have hxb := H2.out.ch x HIN.out
  have NCB : ¬ (x.cb = x.rp ∨ x.cb = x.rg) := by
    rintro (e | e)
    · have h1 := hxb.box
      rw [e, hxb.ring.box] at h1
      injection h1 with h1
      injection h1 with _ h2 _
      exact absurd h2 (by decide)
    · have h1 := hxb.box
      rw [e, hxb.ring.row] at h1
      injection h1 with h1
      injection h1 with _ h2 _
      exact absurd h2 (by decide)
  have hb3 := hc3.box hxb.box NCB
  have hcs : cs[i].mine = x.mine := by rw [HX.out]
  have htk : x.take = { x with xs := rest, f := plc x.n x.f 1, pl := x.pl.set x.f zVa } := by unfold Cn.take; rw [HXS.out]; rfl
  have H3 := hide (show CI w3 B c bp M F l (cs.set i x.take) from H2.out.upd hi (by rw [htk]; exact ⟨hb3, hr3⟩) (by rw [HX.out]; exact ⟨rfl, rfl, rfl, rfl⟩) (by rw [hcs]; exact hc3.mono (fun _ _ e => .inr e)))
  have C3 := hide hc3
  have nA3 : ¬ (w1.heap.size = x.rp ∨ w1.heap.size = x.rg) := fun e => by
    have h1 := HLT.out.1 x.rp (.inr (.inl rfl))
    have h2 := HLT.out.1 x.rg (.inr (.inr rfl))
    have h3 := HZ.out
    omega
  have N3 := hide (hc3.box HN.out nA3)
  have hin3 : x.take ∈ cs.set i x.take := List.mem_iff_getElem.2 ⟨i, by rw [List.length_set]; exact hi, by rw [List.getElem_set_self]⟩
  have HI3 := hide hin3
  have HTX := hide (show x.take.xs.length < x.take.n from by rw [htk]; show rest.length < x.n; omega)
  clear hr3 hc3 hxb hb3 hcs NCB nA3 hin3 htk
  go_wp2
  obtain ⟨w4, hw4⟩ : ∃ w4, w3.alloc (.cells #[.int .i64 v.n, .int .u32 v.s, .int .u32 v.g] 46) = w4 := ⟨_, rfl⟩
  rw [hw4]
  have hc4 : Ch (fun _ => False) w3 w4 := by rw [← hw4]; exact Ch.alloc _ _
  have hn4 : w4.heap[w3.heap.size]? = some (.cells #[.int .i64 v.n, .int .u32 v.s, .int .u32 v.g] 46 (0, 0)) := by rw [← hw4]; exact heap_new _ _
  have H4 := hide (H3.out.quiet hc4)
  have C4 := hide hc4
  have X4 := hide hn4
  have N4 := hide (hc4.box N3.out (fun h => h))
  clear hw4 hc4 hn4
  have hz := HZ.out
  have z3 := C3.out.size
  have NX : ¬ ((x.mine w3.heap.size ∨ F w3.heap.size) ∨ w3.heap.size = w1.heap.size) := fun e => by
    rcases e with (e | e) | e
    · have := HLT.out.1 _ e; omega
    · have := HLT.out.2 _ e; omega
    · omega
  have NA : ¬ (x.mine w1.heap.size ∨ F w1.heap.size) := fun e => by
    rcases e with e | e
    · have := HLT.out.1 _ e; omega
    · have := HLT.out.2 _ e; omega
  clear hz z3
  refine wp_reg (fun y => (x.mine y ∨ F y) ∨ y = w1.heap.size) (R := fun V => Ch (fun _ => False) w4 V) (by kernel_rfl) (Ch.drew _) (fun V cV zk => ?_)
  have CV := hide cV
  have HV := hide (H4.out.quiet cV)
  clear cV
  have HXX := hide (fun wq (kq : Ch (fun y => (x.mine y ∨ F y) ∨ y = w1.heap.size) V wq) => show wq.cell? ⟨w3.heap.size, 0, none⟩ = some (.int .i64 v.n) ∧ wq.cell? ⟨w3.heap.size, 1, none⟩ = some (.int .u32 v.s) ∧ wq.cell? ⟨w3.heap.size, 2, none⟩ = some (.int .u32 v.g) from by
    have e := Lib.cell_of_heap (kq.box (CV.out.box X4.out (fun h => h)) NX)
    exact ⟨by simp [e], by simp [e], by simp [e]⟩)
  apply tk 0 krc0 rfl (by kernel_rfl) (fun _ _ _ h => h) zk
  · intro wq zq
    obtain ⟨s0, s1, s2⟩ := HXX.out _ zq
    go_simp
    try rfl
  go_frame
  apply tk 1 krc1 rfl (by kernel_rfl) (fun _ _ _ h => h) zk
  · intro wq zq
    go_simp
    try rfl
  go_frame
  refine Go.Proofs.Ytbblmbbpicinlaa.rd 2 krc2 rfl (by kernel_rfl) fun K hK => ?_
  go_simp
  refine (refill_some HV.out hl (by rw [List.length_set]; exact hi) (x := x.take) (by rw [List.getElem_set_self]) u1 u2 HQ.out HTX.out ur1 ur2).mono ?_
  rintro e w5 ⟨nb, F5, rfl, hnb, hw5, hi5, hc5, hd5⟩
  have C5 := hide (show Ch (fun y => x.mine y ∨ F y) V w5 from hc5)
  have Z5 := hide (zk.trans hc5 (fun _ _ h => .inl h))
  have H5 := hide hi5
  have W5 := hide (And.intro hnb (And.intro hw5 hd5))
  clear hnb hw5 hi5 hc5 hd5
  go_wp2_with fail
  refine hK.out _ _ ?_ (fun zk => ?_)
  · exact Z5.out
  clear hK K
  try go_frame
  apply tk 3 krc3 rfl (by kernel_rfl) (fun _ _ _ h => h) zk
  · intro wq zq
    go_simp
    try rfl
  go_frame
  have n5 := C5.out.box (CV.out.box N4.out (fun h => h)) NA
  have d0 : w5.cell? ⟨w1.heap.size, 0, none⟩ = some (.int .i64 0) := by simp [Lib.cell_of_heap n5]
  have d1 : w5.cell? ⟨w1.heap.size, 1, none⟩ = some (.int .i64 0) := by simp [Lib.cell_of_heap n5]
  have d2 : w5.cell? ⟨w1.heap.size, 2, none⟩ = some (.int .u32 0) := by simp [Lib.cell_of_heap n5]
  have d3 : w5.cell? ⟨w1.heap.size, 3, none⟩ = some (.int .u32 0) := by simp [Lib.cell_of_heap n5]
  have d4 : w5.cell? ⟨w1.heap.size, 4, none⟩ = some (.bool false) := by simp [Lib.cell_of_heap n5]
  have d5 : w5.cell? ⟨w1.heap.size, 5, none⟩ = some (.slice none 0 0) := by simp [Lib.cell_of_heap n5]
  have df : ∀ o, w5.frozen? ⟨w1.heap.size, o, none⟩ = false := fun o => by simp [World.frozen?, n5]
  have HS := hide (did_set n5 (.int .i64 0) (.int .i64 v.n) (.int .u32 v.s) (.int .u32 v.g) (.bool true) (.slice (some ⟨nb, 0, none⟩) 1 1))
  clear n5
  refine Go.Proofs.Ytbblmbbpicinlaa.rd 4 krc4 rfl (by kernel_rfl) fun K hK => ?_
  go_simp
  refine hK.out _ _ ?_ (fun zk => ?_)
  · exact zk.trans HS.out.2 (fun y hy e => .inr e)
  clear hK K
  try go_frame
  refine wpAnyH_done (by kernel_rfl) ?_ _
  go_wp2
  have hz := HZ.out
  have c03 := (C2.out.mono (Q' := fun y => x.mine y ∨ F y) (fun _ _ h => h.elim)).trans C3.out (fun _ _ e => .inl (.inr e))
  have c05 := ((c03.trans C4.out (fun _ _ h => h.elim)).trans CV.out (fun _ _ h => h.elim)).trans C5.out (fun _ _ e => e)
  have c06 := c05.trans HS.out.2 (fun y hy e => by omega)
  have ho := H0.out.olds (A := w1.heap.size) (by omega)
  have hxs3 : ∀ z ∈ cs.set i (x.take.put (vaR r)), ¬ z.mine w1.heap.size := fun z hz2 => by
    rcases List.mem_or_eq_of_mem_set hz2 with hm | hm
    · exact ho.2.2.1 z hm
    · subst hm; exact ho.2.2.1 x HIN.out
  have hset : (cs.set i x.take).set i (x.take.put (vaR r)) = cs.set i (x.take.put (vaR r)) := by rw [List.set_set]
  have H5b := H5.out
  rw [hset] at H5b
  have zV := ((c03.trans C4.out (fun _ _ h => h.elim)).trans CV.out (fun _ _ h => h.elim)).size
  have z3 := C3.out.size
  have z4 := C4.out.size
  have z5 := CV.out.size
  have nF5 : ¬ F5 w1.heap.size := fun e => by
    rcases W5.out.2.2 _ e with e | e
    · exact ho.2.2.2 e
    · omega
  have hne : ¬ nb = w1.heap.size := fun e => by have := W5.out.1; omega
  refine bodyPost_ret (v := didV 0 v true (.slice (some ⟨nb, 0, none⟩) 1 1)) (res_recv _ w1.heap.size _ 0 v.n v.s v.g true _ rfl HS.out.1) rfl ⟨nb, F5, rfl, Nat.le_trans zV W5.out.1, HS.out.2.box W5.out.2.1 hne, H5b.away HS.out.2 ho.1 ho.2.1 hxs3 nF5, c06, fun y hy => (W5.out.2.2 y hy).imp_right fun e => Nat.le_trans zV e⟩

end Go.Proofs.Ytbblmbbpicinlaa

namespace Go.Proofs.Ytbblmbbpicinlaa
open Go.RowKit

abbrev kmk0 : Oper := { dst := some 25, op := Op.move (Operand.tmp 0), type := 26, pos := "chans.go:36", after := #[], guard := none }
abbrev kmk1 : Oper := { dst := some 26, op := Op.nilCheck (Operand.tmp 25), type := 0, pos := "chans.go:36", after := #[{ on := 0, ground := Ground.data }], guard := none }
abbrev kmk2 : Oper := { dst := some 27, op := Op.fieldAddr 127 (Operand.tmp 26) 1, type := 0, pos := "chans.go:36", after := #[{ on := 1, ground := Ground.data }], guard := none }
abbrev kmk3 : Oper := { dst := some 28, op := Op.load 125 (Operand.tmp 27), type := 125, pos := "chans.go:36", after := #[{ on := 2, ground := Ground.data }], guard := none }
abbrev kmk4 : Oper := { dst := some 29, op := Op.load 43 (Operand.tmp 4), type := 43, pos := "chans.go:36", after := #[], guard := none }
abbrev kmk5 : Oper := { dst := some 30, op := Op.move (Operand.tmp 0), type := 26, pos := "chans.go:36", after := #[], guard := none }
abbrev kmk6 : Oper := { dst := some 31, op := Op.nilCheck (Operand.tmp 30), type := 0, pos := "chans.go:36", after := #[{ on := 5, ground := Ground.data }], guard := none }
abbrev kmk7 : Oper := { dst := some 32, op := Op.fieldAddr 127 (Operand.tmp 31) 0, type := 0, pos := "chans.go:36", after := #[{ on := 6, ground := Ground.data }], guard := none }
abbrev kmk8 : Oper := { dst := some 33, op := Op.load 24 (Operand.tmp 32), type := 24, pos := "chans.go:36", after := #[{ on := 7, ground := Ground.data }], guard := none }
abbrev kmk9 : Oper := { dst := some 34, op := Op.load 43 (Operand.tmp 4), type := 43, pos := "chans.go:36", after := #[], guard := none }
abbrev kmk10 : Oper := { dst := some 35, op := Op.build 145 #[(0, Operand.tmp 33), (1, Operand.tmp 34)], type := 145, pos := "chans.go:36", after := #[{ on := 8, ground := Ground.data }, { on := 9, ground := Ground.data }], guard := none }
abbrev kmk11 : Oper := { dst := some 36, op := Op.move (Operand.tmp 7), type := 140, pos := "chans.go:36", after := #[], guard := none }
abbrev kmk12 : Oper := { dst := some 37, op := Op.build 147 #[(0, Operand.tmp 35), (1, Operand.tmp 36)], type := 147, pos := "chans.go:36", after := #[{ on := 10, ground := Ground.data }, { on := 11, ground := Ground.data }], guard := none }
abbrev kmk13 : Oper := { dst := some 38, op := Op.box 147 (Operand.tmp 37), type := 143, pos := "chans.go:36", after := #[{ on := 12, ground := Ground.data }], guard := none }
abbrev kmk14 : Oper := { dst := none, op := Op.mapUpdate 125 (Operand.tmp 28) (Operand.tmp 29) (Operand.tmp 38), type := 0, pos := "chans.go:36", after := #[{ on := 3, ground := Ground.data }, { on := 4, ground := Ground.data }, { on := 13, ground := Ground.data }, { on := 0, ground := Ground.phase }, { on := 1, ground := Ground.phase }, { on := 2, ground := Ground.phase }, { on := 3, ground := Ground.phase }, { on := 4, ground := Ground.phase }, { on := 5, ground := Ground.phase }, { on := 6, ground := Ground.phase }, { on := 7, ground := Ground.phase }, { on := 8, ground := Ground.phase }, { on := 9, ground := Ground.phase }, { on := 10, ground := Ground.phase }, { on := 11, ground := Ground.phase }, { on := 12, ground := Ground.phase }, { on := 13, ground := Ground.phase }], guard := none }

theorem step_putH {ops : Array Oper} {o : Oper} {a : Act} {w : World} {M n : Nat} {f : Hnd → Option Value} {x : Hnd} {v : Value} {K : Act → World → Prop} {Q : Exit → Act → World → Prop} {Z : Prop} (hg : o.guard = none) (m y u : Operand) (hop : o.op = Op.mapUpdate 125 m y u)
    (hm : a.eval m = .map (some M)) (hM : MapF hkV w M f n) (hy : a.eval y = hkV x) (hu : a.eval u = v)
    (hK : ∀ w', MapF hkV w' M (updW f x (some v)) (if (f x).isSome then n else n + 1) → Ch (fun y => y = M) w w' → K (a.put o.dst undef) w') : if Region.wanted o (yielded ops a.tmps) = true then Oper.wp Try.prog o a w K Q else Z := by
  have hw : Region.wanted o (yielded ops a.tmps) = true := by simp [Region.wanted, hg]
  rw [if_pos hw]
  obtain ⟨w', h1, h2, h3⟩ := hM.put (x := x) (ktH w) Try.underlying125 v
  unfold Oper.wp
  simp [execOp, hop, hm, hy, hu, h1, Result.andThen]
  exact hK w' h2 h3

theorem new_cis {w : World} {B bp : Nat} {F : Nat → Prop} (h : PTb w B F bp []) (hB : B ≤ w.heap.size) : Calls Try.prog 11 #[.pointer (some ⟨bp, 0, none⟩)] w fun e w' => ∃ c M, e = .returned (.tuple #[.pointer (some ⟨c, 0, none⟩), .int .i64 0]) ∧ CI w' B c bp M F [] [] ∧ Below w.heap.size w w' := by
  have hmm : ∀ (t : TypeId) (w : World), (Instr.makeMap t none).run Try.prog w = .ok (.map (some w.heap.size)) (w.alloc (.map #[] 0)) := fun _ _ => rfl
  have H := hide h
  clear h
  go_enter Try.func11, Try.ntmps11
  go_wp2
  go_ret2
  have e0 := heap_new w (.map #[] 0)
  have e1 := heap_new (w.alloc (.map #[] 0)) (.cells #[.pointer (some ⟨bp, 0, none⟩), .map (some w.heap.size)] 127)
  have hb : Below w.heap.size w ((w.alloc (.map #[] 0)).alloc (.cells #[.pointer (some ⟨bp, 0, none⟩), .map (some w.heap.size)] 127)) := (below1 _ _).trans ((below1 _ _).mono (by rw [World.size_alloc]; exact Nat.le_succ _))
  rw [World.size_alloc] at e1
  refine ⟨w.heap.size + 1, w.heap.size, rfl, ⟨e1, ?_, face.ch H.out (Ch.of_below (Q := fun _ => False) hb) (fun _ _ h => h), fun x hx => (by cases hx), List.Pairwise.nil, List.Pairwise.nil, fun y hy => ?_, ⟨by omega, hB, fun x hx => (by cases hx)⟩, Nat.le_trans hB hb.size⟩, hb⟩
  · exact ⟨[], ⟨#[], 0, (Ch.alloc (Q := fun _ => False) _ _).box e0 (fun h => h), rfl⟩, by simp, fun _ => rfl, rfl⟩
  · have := (face.foot H.out y hy).2
    exact ⟨by omega, by omega, fun x hx => (by cases hx)⟩

set_option maxRecDepth 100000 in
set_option maxHeartbeats 8000000 in
theorem make_ok {w : World} {B c bp M : Nat} {F : Nat → Prop} {l : List Wt} {cs : List Cn} (h : CI w B c bp M F l cs) {x : Hnd} (hnn : nnH x = false) {m : Int} {n : Nat} (hm : m = n) (hn : n ≤ 100) (hf : fnc cs x = none) :
    Calls Try.prog 17 #[.pointer (some ⟨c, 0, none⟩), hkV x, .int .i64 m] w fun e w' => ∃ z : Cn, e = .returned (.int .i64 0) ∧ CI w' B c bp M F l (cs ++ [z]) ∧ (z.h = x ∧ z.n = n ∧ z.xs = [] ∧ z.cl = false) ∧ Ch (fun y => y = M) w w' := by
  subst hm
  obtain ⟨w1, hw1⟩ : ∃ w1, w.alloc (.cells #[.int .u32 x.1, .int .u32 x.2] 43) = w1 := ⟨_, rfl⟩
  have hc1 : Ch (fun _ => False) w w1 := by rw [← hw1]; exact Ch.alloc _ _
  have hn1 : w1.heap[w.heap.size]? = some (.cells #[.int .u32 x.1, .int .u32 x.2] 43 (0, 0)) := by rw [← hw1]; exact heap_new _ _
  have HX := hide (fun V (cV : Ch (fun _ => False) w1 V) => show (V.cell? ⟨w.heap.size, 0, none⟩ = some (.int .u32 x.1) ∧ V.cell? ⟨w.heap.size, 1, none⟩ = some (.int .u32 x.2)) from by
    have e1 := Lib.cell_of_heap (cV.box hn1 (fun h => h))
    exact ⟨by simp [e1], by simp [e1]⟩)
  have N1 := hide hn1
  have C1 := hide hc1
  have H0 := hide h
  have H1 := hide (h.quiet hc1)
  have hni : (decide (x.1 = 0) && decide (x.2 = 0)) = false := hnn
  have HNI := hide (isNone_is w1 x.1 x.2)
  rw [hni] at HNI
  have HFN := hide hf
  obtain ⟨s0, s1⟩ := HX.out w1 (Ch.refl _ _)
  clear h hc1 hn1 hnn hni hf
  go_enter Try.func17, Try.ntmps17
  go_wp2_with fail
  refine HNI.out.mono ?_
  rintro e w2 ⟨rfl, hb2⟩
  have C2 := hide (Ch.of_below (Q := fun _ => False) hb2)
  clear hb2 hw1 s0 s1 HNI
  go_wp2_with fail
  refine (newV_is w2 n n rfl hn).mono ?_
  rintro e w3 ⟨rp, rg, rfl, hr3, hp3, hg3, hb3⟩
  have C3 := hide (C2.out.trans (Ch.of_below (Q := fun _ => False) hb3) (fun _ _ h => h))
  have R3 := hide hr3
  have P3 := hide (And.intro hp3 hg3)
  clear hr3 hp3 hg3 hb3
  obtain ⟨s0, s1⟩ := HX.out w3 C3.out
  have HAS := hide (has_cis (H1.out.quiet C3.out) x)
  rw [HFN.out] at HAS
  go_wp2_with fail
  refine HAS.out.mono ?_
  rintro e w4 ⟨rfl, hb4⟩
  have C34 := hide (Ch.of_below (Q := fun _ => False) hb4)
  have C4 := hide (C3.out.trans C34.out (fun _ _ h => h))
  have hos : (none : Option Cn).isSome = false := rfl
  rw [hos]
  clear hb4 s0 s1 HAS hos
  go_wp2
  have NMc : ¬ c = M := H1.out.ne
  have NMb : ¬ w.heap.size = M := fun e => by have := H0.out.mp.lt; omega
  refine wp_reg (fun y => y = M) (R := fun V => Ch (fun _ => False) w4 V) (by kernel_rfl) (Ch.drew _) (fun V cV zk => ?_)
  have C4V := hide cV
  have CV := hide (C4.out.trans cV (fun _ _ h => h))
  have HV := hide (H1.out.quiet CV.out)
  clear cV
  have HXX := hide (fun wq (kq : Ch (fun y => y = M) V wq) => show (wq.cell? ⟨c, 0, none⟩ = some (.pointer (some ⟨bp, 0, none⟩)) ∧ wq.cell? ⟨c, 1, none⟩ = some (.map (some M))) ∧ wq.cell? ⟨w.heap.size, 0, none⟩ = some (.int .u32 x.1) ∧ wq.cell? ⟨w.heap.size, 1, none⟩ = some (.int .u32 x.2) from by
    have e0 := Lib.cell_of_heap (kq.box HV.out.box NMc)
    have e1 := Lib.cell_of_heap (kq.box (CV.out.box N1.out (fun h => h)) NMb)
    exact ⟨⟨by simp [e0], by simp [e0]⟩, by simp [e1], by simp [e1]⟩)
  apply tk 0 kmk0 rfl (by kernel_rfl) (fun _ _ _ h => h) zk
  · intro wq zq
    go_simp
    try rfl
  go_frame
  apply tk 1 kmk1 rfl (by kernel_rfl) (fun _ _ _ h => h) zk
  · intro wq zq
    go_simp
    try rfl
  go_frame
  apply tk 2 kmk2 rfl (by kernel_rfl) (fun _ _ _ h => h) zk
  · intro wq zq
    go_simp
    try rfl
  go_frame
  apply tk 3 kmk3 rfl (by kernel_rfl) (fun _ _ _ h => h) zk
  · intro wq zq
    obtain ⟨⟨s0, s1⟩, s2, s3⟩ := HXX.out _ zq
    go_simp
    try rfl
  go_frame
  apply tk 4 kmk4 rfl (by kernel_rfl) (fun _ _ _ h => h) zk
  · intro wq zq
    obtain ⟨⟨s0, s1⟩, s2, s3⟩ := HXX.out _ zq
    go_simp
    try rfl
  go_frame
  apply tk 5 kmk5 rfl (by kernel_rfl) (fun _ _ _ h => h) zk
  · intro wq zq
    go_simp
    try rfl
  go_frame
  apply tk 6 kmk6 rfl (by kernel_rfl) (fun _ _ _ h => h) zk
  · intro wq zq
    go_simp
    try rfl
  go_frame
  apply tk 7 kmk7 rfl (by kernel_rfl) (fun _ _ _ h => h) zk
  · intro wq zq
    go_simp
    try rfl
  go_frame
  apply tk 8 kmk8 rfl (by kernel_rfl) (fun _ _ _ h => h) zk
  · intro wq zq
    obtain ⟨⟨s0, s1⟩, s2, s3⟩ := HXX.out _ zq
    go_simp
    try rfl
  go_frame
  apply tk 9 kmk9 rfl (by kernel_rfl) (fun _ _ _ h => h) zk
  · intro wq zq
    obtain ⟨⟨s0, s1⟩, s2, s3⟩ := HXX.out _ zq
    go_simp
    try rfl
  go_frame
  apply tk 10 kmk10 rfl (by kernel_rfl) (fun _ _ _ h => h) zk
  · intro wq zq
    go_simp
    try rfl
  go_frame
  apply tk 11 kmk11 rfl (by kernel_rfl) (fun _ _ _ h => h) zk
  · intro wq zq
    go_simp
    try rfl
  go_frame
  apply tk 12 kmk12 rfl (by kernel_rfl) (fun _ _ _ h => h) zk
  · intro wq zq
    go_simp
    try rfl
  go_frame
  refine Go.Proofs.Ytbblmbbpicinlaa.rd 13 kmk13 rfl (by kernel_rfl) fun K hK => ?_
  go_simp
  refine hK.out _ _ ?_ (fun zk => ?_)
  · exact zk.trans (Ch.alloc (Q := fun y => y = M) _ _) (fun _ _ h => h)
  clear hK K
  try go_frame
  have hn5 := heap_new V (.cells #[.pointer (some ⟨bp, 0, none⟩), .int .u32 x.1, .int .u32 x.2, .pointer (some ⟨rp, 0, none⟩), .bool false] 147)
  have hc5 := Ch.alloc (Q := fun _ => False) V (.cells #[.pointer (some ⟨bp, 0, none⟩), .int .u32 x.1, .int .u32 x.2, .pointer (some ⟨rp, 0, none⟩), .bool false] 147)
  generalize V.alloc (.cells #[.pointer (some ⟨bp, 0, none⟩), .int .u32 x.1, .int .u32 x.2, .pointer (some ⟨rp, 0, none⟩), .bool false] 147) = w5 at hn5 hc5 zk ⊢
  have M5 := hide (HV.out.mp.ch hc5 (fun h => h))
  have N5 := hide hn5
  have C5 := hide hc5
  clear hn5 hc5
  refine Go.Proofs.Ytbblmbbpicinlaa.rd 14 kmk14 rfl (by kernel_rfl) fun K hK => ?_
  refine step_putH (x := x) (v := .pointer (some ⟨V.heap.size, 0, none⟩)) rfl (.tmp 28) (.tmp 29) (.tmp 38) rfl rfl M5.out rfl rfl ?_
  intro w6 hm6 hc6
  have M6 := hide hm6
  have C6 := hide hc6
  have Z6 := hide (zk.trans hc6 (fun _ _ h => h))
  clear hm6 hc6
  refine hK.out _ _ ?_ (fun zk => ?_)
  · exact Z6.out
  clear hK K
  try go_frame
  refine wpAnyH_done (by kernel_rfl) ?_ _
  go_wp2
  go_ret
  have z1 := C1.out.size
  have z2 := C2.out.size
  have z4 := CV.out.size
  have z5 := C5.out.size
  have hp3 := P3.out
  have c06 := (((C1.out.trans CV.out (fun _ _ h => h)).trans C5.out (fun _ _ h => h)).mono (Q' := fun y => y = M) (fun _ _ h => h.elim)).trans C6.out (fun _ _ h => h)
  have hMl := H0.out.mp.lt
  refine ⟨⟨x, V.heap.size, rp, rg, n, 0, List.replicate n zVa, [], false⟩, rfl, ⟨c06.box H0.out.box NMc, ?_, face.ch H0.out.bk c06 (fun y hy e => (H0.out.far y hy).2.1 e), fun z hz => ?_, ?_, ?_, fun y hy => ⟨(H0.out.far y hy).1, (H0.out.far y hy).2.1, fun z hz hm => ?_⟩, ⟨H0.out.lo.1, H0.out.lo.2.1, fun z hz y hy => ?_⟩, Nat.le_trans H0.out.low c06.size⟩, ⟨rfl, rfl, rfl, rfl⟩, c06⟩
  · have hm := M6.out
    rw [show ((fnc cs x).map fun z => Value.pointer (some ⟨z.cb, 0, none⟩)).isSome = false by rw [HFN.out]; rfl] at hm
    rw [List.length_append, List.length_singleton]
    have hfe : (fun k => (fnc (cs ++ [(⟨x, V.heap.size, rp, rg, n, 0, List.replicate n zVa, [], false⟩ : Cn)]) k).map fun z => Value.pointer (some ⟨z.cb, 0, none⟩)) = updW (fun k => (fnc cs k).map fun z => Value.pointer (some ⟨z.cb, 0, none⟩)) x (some (.pointer (some ⟨V.heap.size, 0, none⟩))) := by
      funext k
      unfold updW
      unfold fnc
      rw [List.find?_append]
      by_cases hk : k = x
      · subst hk
        have := HFN.out
        unfold fnc at this
        rw [this]
        simp
      · rw [if_neg hk]
        show Option.map _ ((cs.find? fun z => decide (z.h = k)).or _) = Option.map _ (cs.find? fun z => decide (z.h = k))
        cases cs.find? fun z => decide (z.h = k) with
        | some z => rfl
        | none => simp [Ne.symm hk]
    rw [hfe]
    exact hm
  · rcases List.mem_append.1 hz with hz | hz
    · exact (H0.out.ch z hz).ch c06 (fun y hy e => (H0.out.sep z hz y hy).2 e)
    · rw [List.mem_singleton.1 hz]
      exact ⟨C6.out.box N5.out (fun e => by have e : V.heap.size = M := e; omega), ((R3.out.quiet (C34.out.trans C4V.out (fun _ _ h => h))).quiet C5.out).ch C6.out (fun e => by have e : rp = M := e; omega) (fun e => by have e : rg = M := e; omega)⟩
  · refine List.pairwise_append.2 ⟨H0.out.ap, List.pairwise_singleton _ _, fun a ha b hb y hy hy2 => ?_⟩
    rw [List.mem_singleton.1 hb] at hy2
    have := (H0.out.ch a ha).lt y hy
    rcases hy2 with e | e | e
    · simp only at e; omega
    · simp only at e; omega
    · simp only at e; omega
  · refine List.pairwise_append.2 ⟨H0.out.nd, List.pairwise_singleton _ _, fun a ha b hb e => ?_⟩
    rw [List.mem_singleton.1 hb] at e
    have hfn := HFN.out
    unfold fnc at hfn
    have := List.find?_eq_none.1 hfn a ha
    simp at this
    exact this e
  · rcases List.mem_append.1 hz with hz | hz
    · exact (H0.out.far y hy).2.2 z hz hm
    · rw [List.mem_singleton.1 hz] at hm
      have := (face.foot H0.out.bk y hy).2
      rcases hm with e | e | e
      · simp only at e; omega
      · simp only at e; omega
      · simp only at e; omega
  · rcases List.mem_append.1 hz with hz | hz
    · exact H0.out.lo.2.2 z hz y hy
    · rw [List.mem_singleton.1 hz] at hy
      have := H0.out.low
      rcases hy with e | e | e
      · simp only at e; omega
      · simp only at e; omega
      · simp only at e; omega

end Go.Proofs.Ytbblmbbpicinlaa

namespace Go.Proofs.Ytbblmbbpicinlaa
open Go.RowKit

abbrev kse0 : Oper := { dst := some 26, op := Op.move (Operand.tmp 0), type := 26, pos := "chans.go:67", after := #[], guard := none }
abbrev kse1 : Oper := { dst := some 27, op := Op.load 43 (Operand.tmp 6), type := 43, pos := "chans.go:67", after := #[], guard := none }
abbrev kse2 : Oper := { dst := some 28, op := Op.call { callee := Callee.value (Operand.func 65), args := #[Operand.tmp 26, Operand.tmp 27], argTypes := #[26, 43] }, type := 143, pos := "chans.go:67", after := #[{ on := 0, ground := Ground.data }, { on := 1, ground := Ground.data }], guard := none }
abbrev kse3 : Oper := { dst := some 29, op := Op.load 43 (Operand.tmp 5), type := 43, pos := "chans.go:67", after := #[], guard := none }
abbrev kse4 : Oper := { dst := some 30, op := Op.load 46 (Operand.tmp 7), type := 46, pos := "chans.go:67", after := #[], guard := none }
abbrev kse5 : Oper := { dst := some 31, op := Op.call { callee := Callee.value (Operand.func 69), args := #[Operand.tmp 28, Operand.tmp 29, Operand.tmp 30], argTypes := #[143, 43, 46] }, type := 72, pos := "chans.go:67", after := #[{ on := 2, ground := Ground.data }, { on := 3, ground := Ground.data }, { on := 4, ground := Ground.data }, { on := 2, ground := Ground.chain }], guard := none }
abbrev kse6 : Oper := { dst := none, op := Op.store 72 (Operand.tmp 8) (Operand.tmp 31), type := 0, pos := "chans.go:67", after := #[{ on := 5, ground := Ground.data }, { on := 5, ground := Ground.chain }, { on := 0, ground := Ground.phase }, { on := 1, ground := Ground.phase }, { on := 2, ground := Ground.phase }, { on := 3, ground := Ground.phase }, { on := 4, ground := Ground.phase }, { on := 5, ground := Ground.phase }], guard := none }
abbrev kse7 : Oper := { dst := some 9, op := Op.assign (Operand.const (Value.int IntKind.i64 0)), type := 27, pos := "chans.go:67", after := #[{ on := 6, ground := Ground.chain }, { on := 0, ground := Ground.phase }, { on := 1, ground := Ground.phase }, { on := 2, ground := Ground.phase }, { on := 3, ground := Ground.phase }, { on := 4, ground := Ground.phase }, { on := 5, ground := Ground.phase }, { on := 6, ground := Ground.phase }], guard := none }

theorem res_Send (tm : Array Value) (A : Nat) (Z : World) (fate n a b : Int) (ok : Bool) (wk : Value) (q : Int) (h2 : tm[8]?.getD undef = .pointer (some ⟨A, 0, none⟩)) (h3 : tm[9]?.getD undef = .int .i64 q) (hb : Z.heap[A]? = some (.cells #[.int .i64 fate, .int .i64 n, .int .u32 a, .int .u32 b, .bool ok, wk] 72 (0, 0))) :
    (results Try.f25 tm).run Try.prog Z = .ok (.tuple #[didV fate ⟨n, a, b⟩ ok wk, .int .i64 q]) Z := by
  have e := Lib.cell_of_heap hb
  simp [results, Try.f25, h2, h3, go_sem, e]

set_option maxRecDepth 100000 in
set_option maxHeartbeats 8000000 in
theorem send_via {w : World} {B c bp M : Nat} {F : Nat → Prop} {l : List Wt} {cs : List Cn} (h : CI w B c bp M F l cs) (hl : l.length ≤ 100000) {g x : Hnd} {v : Va} (u1 : UsW g.1) (u2 : UsW g.2) (hrf : rfE l cs g x = 0) (hnn : nnH x = false) {y : Cn} (hy : fnc cs x = some y) {Qs : Nat → Prop} (hQ : ∀ z, Qs z → z < w.heap.size) {R : Int → Va → Bool → Option Addr → Nat → Nat → World → World → Prop}
    (hs : ∀ V, Ch (fun _ => False) w V → Calls Try.prog 69 #[.pointer (some ⟨y.cb, 0, none⟩), hkV g, vaV v] V fun e w' => ∃ f u ok sa sn sc, e = .returned (didV f u ok (.slice sa sn sc)) ∧ R f u ok sa sn sc V w' ∧ Ch Qs V w') :
    Calls Try.prog 25 #[.pointer (some ⟨c, 0, none⟩), hkV g, hkV x, vaV v] w fun e w' => ∃ f u ok sa sn sc V w6 A, e = .returned (.tuple #[didV f u ok (.slice sa sn sc), .int .i64 0]) ∧ R f u ok sa sn sc V w6 ∧ Ch (fun _ => False) w V ∧ w.heap.size ≤ A ∧ A < V.heap.size ∧ Ch (fun z => z = A) w6 w' ∧ Ch Qs w w' := by
  obtain ⟨w1, hw1⟩ : ∃ w1, w.alloc (.cells #[.int .u32 g.1, .int .u32 g.2] 43) = w1 := ⟨_, rfl⟩
  have hc1 : Ch (fun _ => False) w w1 := by rw [← hw1]; exact Ch.alloc _ _
  have hz1 : w1.heap.size = w.heap.size + 1 := by rw [← hw1, World.size_alloc]
  have hn1 : w1.heap[w.heap.size]? = some (.cells #[.int .u32 g.1, .int .u32 g.2] 43 (0, 0)) := by rw [← hw1]; exact heap_new _ _
  obtain ⟨w2, hw2⟩ : ∃ w2, w1.alloc (.cells #[.int .u32 x.1, .int .u32 x.2] 43) = w2 := ⟨_, rfl⟩
  have hc2 : Ch (fun _ => False) w1 w2 := by rw [← hw2]; exact Ch.alloc _ _
  have hz2 : w2.heap.size = w1.heap.size + 1 := by rw [← hw2, World.size_alloc]
  have hn2 : w2.heap[w1.heap.size]? = some (.cells #[.int .u32 x.1, .int .u32 x.2] 43 (0, 0)) := by rw [← hw2]; exact heap_new _ _
  replace hn1 := hc2.box hn1 (fun h => h)
  obtain ⟨w3, hw3⟩ : ∃ w3, w2.alloc (.cells #[.int .i64 v.n, .int .u32 v.s, .int .u32 v.g] 46) = w3 := ⟨_, rfl⟩
  have hc3 : Ch (fun _ => False) w2 w3 := by rw [← hw3]; exact Ch.alloc _ _
  have hz3 : w3.heap.size = w2.heap.size + 1 := by rw [← hw3, World.size_alloc]
  have hn3 : w3.heap[w2.heap.size]? = some (.cells #[.int .i64 v.n, .int .u32 v.s, .int .u32 v.g] 46 (0, 0)) := by rw [← hw3]; exact heap_new _ _
  replace hn1 := hc3.box hn1 (fun h => h)
  replace hn2 := hc3.box hn2 (fun h => h)
  obtain ⟨w4, hw4⟩ : ∃ w4, w3.alloc (.cells #[.int .i64 0, .int .i64 0, .int .u32 0, .int .u32 0, .bool false, .slice none 0 0] 72) = w4 := ⟨_, rfl⟩
  have hc4 : Ch (fun _ => False) w3 w4 := by rw [← hw4]; exact Ch.alloc _ _
  have hz4 : w4.heap.size = w3.heap.size + 1 := by rw [← hw4, World.size_alloc]
  have hn4 : w4.heap[w3.heap.size]? = some (.cells #[.int .i64 0, .int .i64 0, .int .u32 0, .int .u32 0, .bool false, .slice none 0 0] 72 (0, 0)) := by rw [← hw4]; exact heap_new _ _
  replace hn1 := hc4.box hn1 (fun h => h)
  replace hn2 := hc4.box hn2 (fun h => h)
  replace hn3 := hc4.box hn3 (fun h => h)
  have CB := hide (((hc1.trans hc2 (fun _ _ h => h)).trans hc3 (fun _ _ h => h)).trans hc4 (fun _ _ h => h))
  have HZ := hide (And.intro hz1 (And.intro hz2 (And.intro hz3 hz4)))
  have HNS := hide (And.intro hn1 (And.intro hn2 (And.intro hn3 hn4)))
  have HQA := hide (show (∀ z, Qs z → z < w.heap.size) from hQ)
  have HX := hide (fun V (cV : Ch (fun z => Qs z ∨ z = w3.heap.size) w4 V) => show (V.cell? ⟨w.heap.size, 0, none⟩ = some (.int .u32 g.1) ∧ V.cell? ⟨w.heap.size, 1, none⟩ = some (.int .u32 g.2)) ∧ (V.cell? ⟨w1.heap.size, 0, none⟩ = some (.int .u32 x.1) ∧ V.cell? ⟨w1.heap.size, 1, none⟩ = some (.int .u32 x.2)) ∧ (V.cell? ⟨w2.heap.size, 0, none⟩ = some (.int .i64 v.n) ∧ V.cell? ⟨w2.heap.size, 1, none⟩ = some (.int .u32 v.s) ∧ V.cell? ⟨w2.heap.size, 2, none⟩ = some (.int .u32 v.g)) from by
    have hz := HZ.out
    have nq : ∀ z, (w.heap.size ≤ z ∧ z < w3.heap.size) → ¬ (Qs z ∨ z = w3.heap.size) := fun z hz2 e => by
      rcases e with e | e
      · have := HQA.out z e; omega
      · omega
    have e1 := Lib.cell_of_heap (cV.box HNS.out.1 (nq w.heap.size (by omega)))
    have e2 := Lib.cell_of_heap (cV.box HNS.out.2.1 (nq w1.heap.size (by omega)))
    have e3 := Lib.cell_of_heap (cV.box HNS.out.2.2.1 (nq w2.heap.size (by omega)))
    exact ⟨⟨by simp [e1], by simp [e1]⟩, ⟨by simp [e2], by simp [e2]⟩, by simp [e3], by simp [e3], by simp [e3]⟩)
  have H := hide (h.quiet CB.out)
  have HRF := hide (refuse_cis H.out hl g x u1 u2)
  rw [hrf] at HRF
  have HY := hide hy
  have hni : (decide (x.1 = 0) && decide (x.2 = 0)) = false := hnn
  have HNI := hide hni
  obtain ⟨⟨s0, s1⟩, ⟨s2, s3⟩, s4, s5, s6⟩ := HX.out w4 (Ch.refl _ _)
  clear h hc1 hz1 hn1 hc2 hz2 hn2 hc3 hz3 hn3 hc4 hz4 hn4 hrf hy hni hnn hQ u1 u2
  go_enter Try.func25, Try.ntmps25
  go_wp2_with fail
  refine HRF.out.mono ?_
  rintro e wa ⟨rfl, hba⟩
  have CA := hide (Ch.of_below (Q := fun _ => False) hba)
  clear hba s0 s1 s2 s3 s4 s5 s6 HRF hw1 hw2 hw3 hw4
  obtain ⟨-, ⟨s2, s3⟩, -⟩ := HX.out wa (CA.out.mono (fun _ _ h => h.elim))
  go_wp2_with fail
  refine (isNone_is wa x.1 x.2).mono ?_
  rintro e wb ⟨rfl, hbb⟩
  have CC := hide (CA.out.trans (Ch.of_below (Q := fun _ => False) hbb) (fun _ _ h => h))
  clear hbb s2 s3
  rw [HNI.out]
  go_wp2
  refine wp_reg (fun z => Qs z ∨ z = w3.heap.size) (R := fun V => Ch (fun _ => False) wb V) (by kernel_rfl) (Ch.drew _) (fun V cV zk => ?_)
  have CV := hide (CC.out.trans cV (fun _ _ h => h))
  clear cV
  have HXV := hide (fun wq (kq : Ch (fun z => Qs z ∨ z = w3.heap.size) V wq) => HX.out wq ((CV.out.mono (Q' := fun z => Qs z ∨ z = w3.heap.size) (fun _ _ h => h.elim)).trans kq (fun _ _ h => h)))
  apply tk 0 kse0 rfl (by kernel_rfl) (fun _ _ _ h => h) zk
  · intro wq zq
    go_simp
    try rfl
  go_frame
  apply tk 1 kse1 rfl (by kernel_rfl) (fun _ _ _ h => h) zk
  · intro wq zq
    obtain ⟨⟨s0, s1⟩, ⟨s2, s3⟩, s4, s5, s6⟩ := HXV.out _ zq
    go_simp
    try rfl
  go_frame
  apply tk 3 kse3 rfl (by kernel_rfl) (fun _ _ _ h => h) zk
  · intro wq zq
    obtain ⟨⟨s0, s1⟩, ⟨s2, s3⟩, s4, s5, s6⟩ := HXV.out _ zq
    go_simp
    try rfl
  go_frame
  apply tk 4 kse4 rfl (by kernel_rfl) (fun _ _ _ h => h) zk
  · intro wq zq
    obtain ⟨⟨s0, s1⟩, ⟨s2, s3⟩, s4, s5, s6⟩ := HXV.out _ zq
    go_simp
    try rfl
  go_frame
  refine Go.Proofs.Ytbblmbbpicinlaa.rd 2 kse2 rfl (by kernel_rfl) fun K hK => ?_
  go_simp
  refine (at_cis (H.out.quiet CV.out) x).mono ?_
  rintro e wc ⟨rfl, hbc⟩
  have CD := hide (CV.out.trans (Ch.of_below hbc) (fun _ _ h => h))
  have Z2 := hide (zk.trans (Ch.of_below (Q := fun z => Qs z ∨ z = w3.heap.size) hbc) (fun _ _ h => h))
  clear hbc
  rw [HY.out, cp_some]
  go_wp2_with fail
  refine hK.out _ _ ?_ (fun zk => ?_)
  · exact Z2.out
  clear hK K
  try go_frame
  refine Go.Proofs.Ytbblmbbpicinlaa.rd 5 kse5 rfl (by kernel_rfl) fun K hK => ?_
  go_simp
  refine (hs wc (CB.out.trans CD.out (fun _ _ h => h))).mono ?_
  rintro e wd ⟨f, u, ok, sa, sn, sc, rfl, hR, hcd⟩
  have HR := hide hR
  have CE := hide hcd
  have Z3 := hide (zk.trans hcd (fun _ _ h => .inl h))
  clear hR hcd
  go_wp2_with fail
  refine hK.out _ _ ?_ (fun zk => ?_)
  · exact Z3.out
  clear hK K
  try go_frame
  have hz := HZ.out
  have nd := CE.out.box (CD.out.box HNS.out.2.2.2 (fun h => h)) (fun e => by have := HQA.out _ e; omega)
  have d0 : wd.cell? ⟨w3.heap.size, 0, none⟩ = some (.int .i64 0) := by simp [Lib.cell_of_heap nd]
  have d1 : wd.cell? ⟨w3.heap.size, 1, none⟩ = some (.int .i64 0) := by simp [Lib.cell_of_heap nd]
  have d2 : wd.cell? ⟨w3.heap.size, 2, none⟩ = some (.int .u32 0) := by simp [Lib.cell_of_heap nd]
  have d3 : wd.cell? ⟨w3.heap.size, 3, none⟩ = some (.int .u32 0) := by simp [Lib.cell_of_heap nd]
  have d4 : wd.cell? ⟨w3.heap.size, 4, none⟩ = some (.bool false) := by simp [Lib.cell_of_heap nd]
  have d5 : wd.cell? ⟨w3.heap.size, 5, none⟩ = some (.slice none 0 0) := by simp [Lib.cell_of_heap nd]
  have df : ∀ o, wd.frozen? ⟨w3.heap.size, o, none⟩ = false := fun o => by simp [World.frozen?, nd]
  have HS := hide (did_set nd (.int .i64 f) (.int .i64 u.n) (.int .u32 u.s) (.int .u32 u.g) (.bool ok) (.slice sa sn sc))
  clear nd hz
  refine Go.Proofs.Ytbblmbbpicinlaa.rd 6 kse6 rfl (by kernel_rfl) fun K hK => ?_
  go_simp
  refine hK.out _ _ ?_ (fun zk => ?_)
  · exact zk.trans HS.out.2 (fun _ _ e => .inr e)
  clear hK K
  try go_frame
  apply tk 7 kse7 rfl (by kernel_rfl) (fun _ _ _ h => h) zk
  · intro wq zq
    go_simp
    try rfl
  go_frame
  refine wpAnyH_done (by kernel_rfl) ?_ _
  go_wp2
  have hz := HZ.out
  have zd := CD.out.size
  refine bodyPost_ret (v := .tuple #[didV f u ok (.slice sa sn sc), .int .i64 0]) (res_Send _ w3.heap.size _ f u.n u.s u.g ok _ 0 rfl rfl HS.out.1) rfl ⟨f, u, ok, sa, sn, sc, wc, wd, w3.heap.size, rfl, HR.out, CB.out.trans CD.out (fun _ _ h => h), by omega, by omega, HS.out.2, ?_⟩
  exact (((CB.out.trans CD.out (fun _ _ h => h)).mono (Q' := Qs) (fun _ _ h => h.elim)).trans CE.out (fun _ _ h => h)).trans HS.out.2 (fun z hz2 e => by omega)

abbrev krv0 : Oper := { dst := some 24, op := Op.move (Operand.tmp 0), type := 26, pos := "chans.go:78", after := #[], guard := none }
abbrev krv1 : Oper := { dst := some 25, op := Op.load 43 (Operand.tmp 5), type := 43, pos := "chans.go:78", after := #[], guard := none }
abbrev krv2 : Oper := { dst := some 26, op := Op.call { callee := Callee.value (Operand.func 65), args := #[Operand.tmp 24, Operand.tmp 25], argTypes := #[26, 43] }, type := 143, pos := "chans.go:78", after := #[{ on := 0, ground := Ground.data }, { on := 1, ground := Ground.data }], guard := none }
abbrev krv3 : Oper := { dst := some 27, op := Op.load 43 (Operand.tmp 4), type := 43, pos := "chans.go:78", after := #[], guard := none }
abbrev krv4 : Oper := { dst := some 28, op := Op.call { callee := Callee.value (Operand.func 66), args := #[Operand.tmp 26, Operand.tmp 27], argTypes := #[143, 43] }, type := 72, pos := "chans.go:78", after := #[{ on := 2, ground := Ground.data }, { on := 3, ground := Ground.data }, { on := 2, ground := Ground.chain }], guard := none }
abbrev krv5 : Oper := { dst := none, op := Op.store 72 (Operand.tmp 6) (Operand.tmp 28), type := 0, pos := "chans.go:78", after := #[{ on := 4, ground := Ground.data }, { on := 4, ground := Ground.chain }, { on := 0, ground := Ground.phase }, { on := 1, ground := Ground.phase }, { on := 2, ground := Ground.phase }, { on := 3, ground := Ground.phase }, { on := 4, ground := Ground.phase }], guard := none }
abbrev krv6 : Oper := { dst := some 7, op := Op.assign (Operand.const (Value.int IntKind.i64 0)), type := 27, pos := "chans.go:78", after := #[{ on := 5, ground := Ground.chain }, { on := 0, ground := Ground.phase }, { on := 1, ground := Ground.phase }, { on := 2, ground := Ground.phase }, { on := 3, ground := Ground.phase }, { on := 4, ground := Ground.phase }, { on := 5, ground := Ground.phase }], guard := none }

theorem res_Recv (tm : Array Value) (A : Nat) (Z : World) (fate n a b : Int) (ok : Bool) (wk : Value) (q : Int) (h2 : tm[6]?.getD undef = .pointer (some ⟨A, 0, none⟩)) (h3 : tm[7]?.getD undef = .int .i64 q) (hb : Z.heap[A]? = some (.cells #[.int .i64 fate, .int .i64 n, .int .u32 a, .int .u32 b, .bool ok, wk] 72 (0, 0))) :
    (results Try.f21 tm).run Try.prog Z = .ok (.tuple #[didV fate ⟨n, a, b⟩ ok wk, .int .i64 q]) Z := by
  have e := Lib.cell_of_heap hb
  simp [results, Try.f21, h2, h3, go_sem, e]

set_option maxRecDepth 100000 in
set_option maxHeartbeats 8000000 in
theorem recv_via {w : World} {B c bp M : Nat} {F : Nat → Prop} {l : List Wt} {cs : List Cn} (h : CI w B c bp M F l cs) (hl : l.length ≤ 100000) {g x : Hnd} (u1 : UsW g.1) (u2 : UsW g.2) (hrf : rfE l cs g x = 0) (hnn : nnH x = false) {y : Cn} (hy : fnc cs x = some y) {Qs : Nat → Prop} (hQ : ∀ z, Qs z → z < w.heap.size) {R : Int → Va → Bool → Option Addr → Nat → Nat → World → World → Prop}
    (hs : ∀ V, Ch (fun _ => False) w V → Calls Try.prog 66 #[.pointer (some ⟨y.cb, 0, none⟩), hkV g] V fun e w' => ∃ f u ok sa sn sc, e = .returned (didV f u ok (.slice sa sn sc)) ∧ R f u ok sa sn sc V w' ∧ Ch Qs V w') :
    Calls Try.prog 21 #[.pointer (some ⟨c, 0, none⟩), hkV g, hkV x] w fun e w' => ∃ f u ok sa sn sc V w6 A, e = .returned (.tuple #[didV f u ok (.slice sa sn sc), .int .i64 0]) ∧ R f u ok sa sn sc V w6 ∧ Ch (fun _ => False) w V ∧ w.heap.size ≤ A ∧ A < V.heap.size ∧ Ch (fun z => z = A) w6 w' ∧ Ch Qs w w' := by
  obtain ⟨w1, hw1⟩ : ∃ w1, w.alloc (.cells #[.int .u32 g.1, .int .u32 g.2] 43) = w1 := ⟨_, rfl⟩
  have hc1 : Ch (fun _ => False) w w1 := by rw [← hw1]; exact Ch.alloc _ _
  have hz1 : w1.heap.size = w.heap.size + 1 := by rw [← hw1, World.size_alloc]
  have hn1 : w1.heap[w.heap.size]? = some (.cells #[.int .u32 g.1, .int .u32 g.2] 43 (0, 0)) := by rw [← hw1]; exact heap_new _ _
  obtain ⟨w2, hw2⟩ : ∃ w2, w1.alloc (.cells #[.int .u32 x.1, .int .u32 x.2] 43) = w2 := ⟨_, rfl⟩
  have hc2 : Ch (fun _ => False) w1 w2 := by rw [← hw2]; exact Ch.alloc _ _
  have hz2 : w2.heap.size = w1.heap.size + 1 := by rw [← hw2, World.size_alloc]
  have hn2 : w2.heap[w1.heap.size]? = some (.cells #[.int .u32 x.1, .int .u32 x.2] 43 (0, 0)) := by rw [← hw2]; exact heap_new _ _
  replace hn1 := hc2.box hn1 (fun h => h)
  obtain ⟨w3, hw3⟩ : ∃ w3, w2.alloc (.cells #[.int .i64 0, .int .i64 0, .int .u32 0, .int .u32 0, .bool false, .slice none 0 0] 72) = w3 := ⟨_, rfl⟩
  have hc3 : Ch (fun _ => False) w2 w3 := by rw [← hw3]; exact Ch.alloc _ _
  have hz3 : w3.heap.size = w2.heap.size + 1 := by rw [← hw3, World.size_alloc]
  have hn3 : w3.heap[w2.heap.size]? = some (.cells #[.int .i64 0, .int .i64 0, .int .u32 0, .int .u32 0, .bool false, .slice none 0 0] 72 (0, 0)) := by rw [← hw3]; exact heap_new _ _
  replace hn1 := hc3.box hn1 (fun h => h)
  replace hn2 := hc3.box hn2 (fun h => h)
  have CB := hide ((hc1.trans hc2 (fun _ _ h => h)).trans hc3 (fun _ _ h => h))
  have HZ := hide (And.intro hz1 (And.intro hz2 hz3))
  have HNS := hide (And.intro hn1 (And.intro hn2 hn3))
  have HQA := hide (show (∀ z, Qs z → z < w.heap.size) from hQ)
  have HX := hide (fun V (cV : Ch (fun z => Qs z ∨ z = w2.heap.size) w3 V) => show (V.cell? ⟨w.heap.size, 0, none⟩ = some (.int .u32 g.1) ∧ V.cell? ⟨w.heap.size, 1, none⟩ = some (.int .u32 g.2)) ∧ (V.cell? ⟨w1.heap.size, 0, none⟩ = some (.int .u32 x.1) ∧ V.cell? ⟨w1.heap.size, 1, none⟩ = some (.int .u32 x.2)) from by
    have hz := HZ.out
    have nq : ∀ z, (w.heap.size ≤ z ∧ z < w2.heap.size) → ¬ (Qs z ∨ z = w2.heap.size) := fun z hz2 e => by
      rcases e with e | e
      · have := HQA.out z e; omega
      · omega
    have e1 := Lib.cell_of_heap (cV.box HNS.out.1 (nq w.heap.size (by omega)))
    have e2 := Lib.cell_of_heap (cV.box HNS.out.2.1 (nq w1.heap.size (by omega)))
    exact ⟨⟨by simp [e1], by simp [e1]⟩, ⟨by simp [e2], by simp [e2]⟩⟩)
  have H := hide (h.quiet CB.out)
  have HRF := hide (refuse_cis H.out hl g x u1 u2)
  rw [hrf] at HRF
  have HY := hide hy
  have hni : (decide (x.1 = 0) && decide (x.2 = 0)) = false := hnn
  have HNI := hide hni
  obtain ⟨⟨s0, s1⟩, ⟨s2, s3⟩⟩ := HX.out w3 (Ch.refl _ _)
  clear h hc1 hz1 hn1 hc2 hz2 hn2 hc3 hz3 hn3 hrf hy hni hnn hQ u1 u2
  go_enter Try.func21, Try.ntmps21
  go_wp2_with fail
  refine HRF.out.mono ?_
  rintro e wa ⟨rfl, hba⟩
  have CA := hide (Ch.of_below (Q := fun _ => False) hba)
  clear hba s0 s1 s2 s3 HRF hw1 hw2 hw3
  obtain ⟨-, ⟨s2, s3⟩⟩ := HX.out wa (CA.out.mono (fun _ _ h => h.elim))
  go_wp2_with fail
  refine (isNone_is wa x.1 x.2).mono ?_
  rintro e wb ⟨rfl, hbb⟩
  have CC := hide (CA.out.trans (Ch.of_below (Q := fun _ => False) hbb) (fun _ _ h => h))
  clear hbb s2 s3
  rw [HNI.out]
  go_wp2
  refine wp_reg (fun z => Qs z ∨ z = w2.heap.size) (R := fun V => Ch (fun _ => False) wb V) (by kernel_rfl) (Ch.drew _) (fun V cV zk => ?_)
  have CV := hide (CC.out.trans cV (fun _ _ h => h))
  clear cV
  have HXV := hide (fun wq (kq : Ch (fun z => Qs z ∨ z = w2.heap.size) V wq) => HX.out wq ((CV.out.mono (Q' := fun z => Qs z ∨ z = w2.heap.size) (fun _ _ h => h.elim)).trans kq (fun _ _ h => h)))
  apply tk 0 krv0 rfl (by kernel_rfl) (fun _ _ _ h => h) zk
  · intro wq zq
    go_simp
    try rfl
  go_frame
  apply tk 1 krv1 rfl (by kernel_rfl) (fun _ _ _ h => h) zk
  · intro wq zq
    obtain ⟨⟨s0, s1⟩, ⟨s2, s3⟩⟩ := HXV.out _ zq
    go_simp
    try rfl
  go_frame
  apply tk 3 krv3 rfl (by kernel_rfl) (fun _ _ _ h => h) zk
  · intro wq zq
    obtain ⟨⟨s0, s1⟩, ⟨s2, s3⟩⟩ := HXV.out _ zq
    go_simp
    try rfl
  go_frame
  refine Go.Proofs.Ytbblmbbpicinlaa.rd 2 krv2 rfl (by kernel_rfl) fun K hK => ?_
  go_simp
  refine (at_cis (H.out.quiet CV.out) x).mono ?_
  rintro e wc ⟨rfl, hbc⟩
  have CD := hide (CV.out.trans (Ch.of_below hbc) (fun _ _ h => h))
  have Z2 := hide (zk.trans (Ch.of_below (Q := fun z => Qs z ∨ z = w2.heap.size) hbc) (fun _ _ h => h))
  clear hbc
  rw [HY.out, cp_some]
  go_wp2_with fail
  refine hK.out _ _ ?_ (fun zk => ?_)
  · exact Z2.out
  clear hK K
  try go_frame
  refine Go.Proofs.Ytbblmbbpicinlaa.rd 4 krv4 rfl (by kernel_rfl) fun K hK => ?_
  go_simp
  refine (hs wc (CB.out.trans CD.out (fun _ _ h => h))).mono ?_
  rintro e wd ⟨f, u, ok, sa, sn, sc, rfl, hR, hcd⟩
  have HR := hide hR
  have CE := hide hcd
  have Z3 := hide (zk.trans hcd (fun _ _ h => .inl h))
  clear hR hcd
  go_wp2_with fail
  refine hK.out _ _ ?_ (fun zk => ?_)
  · exact Z3.out
  clear hK K
  try go_frame
  have hz := HZ.out
  have nd := CE.out.box (CD.out.box HNS.out.2.2 (fun h => h)) (fun e => by have := HQA.out _ e; omega)
  have d0 : wd.cell? ⟨w2.heap.size, 0, none⟩ = some (.int .i64 0) := by simp [Lib.cell_of_heap nd]
  have d1 : wd.cell? ⟨w2.heap.size, 1, none⟩ = some (.int .i64 0) := by simp [Lib.cell_of_heap nd]
  have d2 : wd.cell? ⟨w2.heap.size, 2, none⟩ = some (.int .u32 0) := by simp [Lib.cell_of_heap nd]
  have d3 : wd.cell? ⟨w2.heap.size, 3, none⟩ = some (.int .u32 0) := by simp [Lib.cell_of_heap nd]
  have d4 : wd.cell? ⟨w2.heap.size, 4, none⟩ = some (.bool false) := by simp [Lib.cell_of_heap nd]
  have d5 : wd.cell? ⟨w2.heap.size, 5, none⟩ = some (.slice none 0 0) := by simp [Lib.cell_of_heap nd]
  have df : ∀ o, wd.frozen? ⟨w2.heap.size, o, none⟩ = false := fun o => by simp [World.frozen?, nd]
  have HS := hide (did_set nd (.int .i64 f) (.int .i64 u.n) (.int .u32 u.s) (.int .u32 u.g) (.bool ok) (.slice sa sn sc))
  clear nd hz
  refine Go.Proofs.Ytbblmbbpicinlaa.rd 5 krv5 rfl (by kernel_rfl) fun K hK => ?_
  go_simp
  refine hK.out _ _ ?_ (fun zk => ?_)
  · exact zk.trans HS.out.2 (fun _ _ e => .inr e)
  clear hK K
  try go_frame
  apply tk 6 krv6 rfl (by kernel_rfl) (fun _ _ _ h => h) zk
  · intro wq zq
    go_simp
    try rfl
  go_frame
  refine wpAnyH_done (by kernel_rfl) ?_ _
  go_wp2
  have hz := HZ.out
  have zd := CD.out.size
  refine bodyPost_ret (v := .tuple #[didV f u ok (.slice sa sn sc), .int .i64 0]) (res_Recv _ w2.heap.size _ f u.n u.s u.g ok _ 0 rfl rfl HS.out.1) rfl ⟨f, u, ok, sa, sn, sc, wc, wd, w2.heap.size, rfl, HR.out, CB.out.trans CD.out (fun _ _ h => h), by omega, by omega, HS.out.2, ?_⟩
  exact (((CB.out.trans CD.out (fun _ _ h => h)).mono (Q' := Qs) (fun _ _ h => h.elim)).trans CE.out (fun _ _ h => h)).trans HS.out.2 (fun z hz2 e => by omega)

end Go.Proofs.Ytbblmbbpicinlaa
