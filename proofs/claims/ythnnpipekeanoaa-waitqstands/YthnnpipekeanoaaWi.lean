/- Layer 11: the document's First; two lists alike. -/
import Derived.Test.YthnnpipekeanoaaWh
namespace Go.Proofs.Ythnnpipekeanoaa
open Go.RowKit

variable {w : World} {B b : Nat} {av ov : Value} {l : List Wt}

theorem resFirW (tm : Array Value) (A : Nat) (Z : World) (r : Rc) (q : Bool) (h4 : tm[4]?.getD undef = .pointer (some ⟨A, 0, none⟩)) (h5 : tm[5]?.getD undef = .bool q) (hc : ∀ j u, (rcF r)[j]? = some u → Z.cell? ⟨A, j, none⟩ = some u) :
    (results Try.f28 tm).run Try.prog Z = .ok (.tuple #[rcV r, .bool q]) Z := by
  have c0 := hc 0 _ rfl
  have c1 := hc 1 _ rfl
  have c2 := hc 2 _ rfl
  have c3 := hc 3 _ rfl
  have c4 := hc 4 _ rfl
  have c5 := hc 5 _ rfl
  have c6 := hc 6 _ rfl
  have c7 := hc 7 _ rfl
  have c8 := hc 8 _ rfl
  have c9 := hc 9 _ rfl
  have c10 := hc 10 _ rfl
  simp [results, Try.results28, go_sem, h4, h5, c0, c1, c2, c3, c4, c5, c6, c7, c8, c9, c10]

set_option maxRecDepth 100000 in
set_option maxHeartbeats 4000000 in
theorem rfirW (h : DB w B b av ov l) (hl : l.length ≤ 100000) (s g d : Int) :
    Calls Try.prog 28 #[.pointer (some ⟨b, 0, none⟩), rvW s g d] w fun e w' => e = .returned (.tuple #[rcV ((sel (inRow s g d) l).headD zRc), .bool (!(sel (inRow s g d) l).isEmpty)]) ∧ Below w.heap.size w w' := by
  obtain ⟨w1, hw1⟩ : ∃ w1, (w.alloc (.cells #[.int .u32 s, .int .u32 g, .int .i64 d] 44)).alloc (.cells (rcF zRc).toArray 57) = w1 := ⟨_, rfl⟩
  have hB1 : Below w.heap.size w w1 := by rw [← hw1]; exact (below1 _ _).trans ((below1 _ _).mono (by simp))
  have s1 : w1.heap.size = w.heap.size + 2 := by rw [← hw1]; simp
  have hn : w1.heap[w.heap.size + 1]? = some (.cells (rcF zRc).toArray 57 (0, 0)) := by
    rw [← hw1]
    have := heap_new (w.alloc (.cells #[.int .u32 s, .int .u32 g, .int .i64 d] 44)) (.cells (rcF zRc).toArray 57)
    rwa [World.size_alloc] at this
  have h1 := h.below hB1
  have HF := hide (rrowW h1 hl s g d)
  have HW := hide (show w1 = (w.alloc (.cells #[.int .u32 s, .int .u32 g, .int .i64 d] 44)).alloc (.cells #[.int .u32 0, .int .u32 0, .int .u32 0, .int .u32 0, .int .u32 0, .int .u32 0, .int .i64 0, .int .i64 0, .int .i64 0, .int .u32 0, .int .u32 0] 57) from hw1.symm)
  clear hw1
  go_enter Try.func28, Try.ntmps28
  go_wp2_with fail
  rw [← HW.out]
  refine HF.out.mono ?_
  rintro e w' ⟨v', rfl, hr, hb⟩
  have n2 := (hb.block _ (by omega)).trans hn
  have z0 : w'.cell? ⟨w.heap.size + 1, 0, none⟩ = some (.int .u32 0) := by simp [Lib.cell_of_heap n2, rcF, zRc]
  have z1 : w'.cell? ⟨w.heap.size + 1, 1, none⟩ = some (.int .u32 0) := by simp [Lib.cell_of_heap n2, rcF, zRc]
  have z2 : w'.cell? ⟨w.heap.size + 1, 2, none⟩ = some (.int .u32 0) := by simp [Lib.cell_of_heap n2, rcF, zRc]
  have z3 : w'.cell? ⟨w.heap.size + 1, 3, none⟩ = some (.int .u32 0) := by simp [Lib.cell_of_heap n2, rcF, zRc]
  have z4 : w'.cell? ⟨w.heap.size + 1, 4, none⟩ = some (.int .u32 0) := by simp [Lib.cell_of_heap n2, rcF, zRc]
  have z5 : w'.cell? ⟨w.heap.size + 1, 5, none⟩ = some (.int .u32 0) := by simp [Lib.cell_of_heap n2, rcF, zRc]
  have z6 : w'.cell? ⟨w.heap.size + 1, 6, none⟩ = some (.int .i64 0) := by simp [Lib.cell_of_heap n2, rcF, zRc]
  have z7 : w'.cell? ⟨w.heap.size + 1, 7, none⟩ = some (.int .i64 0) := by simp [Lib.cell_of_heap n2, rcF, zRc]
  have z8 : w'.cell? ⟨w.heap.size + 1, 8, none⟩ = some (.int .i64 0) := by simp [Lib.cell_of_heap n2, rcF, zRc]
  have z9 : w'.cell? ⟨w.heap.size + 1, 9, none⟩ = some (.int .u32 0) := by simp [Lib.cell_of_heap n2, rcF, zRc]
  have z10 : w'.cell? ⟨w.heap.size + 1, 10, none⟩ = some (.int .u32 0) := by simp [Lib.cell_of_heap n2, rcF, zRc]
  have zf : ∀ j, w'.frozen? ⟨w.heap.size + 1, j, none⟩ = false := fun j => by simp [World.frozen?, n2]
  have HB2 := hide (hB1.trans (hb.mono (by omega)))
  have hln : (sel (inRow s g d) l).length ≤ 100000 := Nat.le_trans (sel_le _ _) hl
  cases hs : sel (inRow s g d) l with
  | nil =>
    have HS := hide hs
    rw [hs] at hr
    obtain ⟨a, c, rfl, -, -⟩ := hr.form
    clear HF hn n2 hb hr
    go_wp2
    refine bodyPost_ret (v := .tuple #[rcV (zRc), .bool false]) (resFirW _ (w.heap.size + 1) _ (zRc) false rfl rfl ?_) rfl ⟨by rw [HS.out]; rfl, ?_⟩
    · intro j u hu
      match j, hu with
      | 0, hu => cases hu; simp [go_sem, z0, zRc]
      | 1, hu => cases hu; simp [go_sem, z1, zRc]
      | 2, hu => cases hu; simp [go_sem, z2, zRc]
      | 3, hu => cases hu; simp [go_sem, z3, zRc]
      | 4, hu => cases hu; simp [go_sem, z4, zRc]
      | 5, hu => cases hu; simp [go_sem, z5, zRc]
      | 6, hu => cases hu; simp [go_sem, z6, zRc]
      | 7, hu => cases hu; simp [go_sem, z7, zRc]
      | 8, hu => cases hu; simp [go_sem, z8, zRc]
      | 9, hu => cases hu; simp [go_sem, z9, zRc]
      | 10, hu => cases hu; simp [go_sem, z10, zRc]
      | j + 11, hu => simp [rcF] at hu
    · repeat (refine Below.setCell (p := ⟨w.heap.size + 1, _, none⟩) ?_ (by simp) _)
      exact HB2.out
  | cons z r =>
    have HS := hide hs
    rw [hs] at hr hln
    obtain ⟨ga, gc, cur, rfl, k1, -, -, -, -, hcell⟩ := hr.at rcF_len (by simp)
    have q1 : ((((z :: r).length : Nat) : Int) == 0) = false := beq_false_of_ne (by simp only [List.length_cons]; omega)
    have q2 : 0 < (z :: r).length := by simp
    have y0 : w'.cell? ⟨ga, 0, none⟩ = some (.int .u32 z.ms) := by simpa using hcell 0 (by simp) 0 (.int .u32 z.ms) rfl
    have y1 : w'.cell? ⟨ga, 1, none⟩ = some (.int .u32 z.mg) := by simpa using hcell 0 (by simp) 1 (.int .u32 z.mg) rfl
    have y2 : w'.cell? ⟨ga, 2, none⟩ = some (.int .u32 z.ws) := by simpa using hcell 0 (by simp) 2 (.int .u32 z.ws) rfl
    have y3 : w'.cell? ⟨ga, 3, none⟩ = some (.int .u32 z.wg) := by simpa using hcell 0 (by simp) 3 (.int .u32 z.wg) rfl
    have y4 : w'.cell? ⟨ga, 4, none⟩ = some (.int .u32 z.rs) := by simpa using hcell 0 (by simp) 4 (.int .u32 z.rs) rfl
    have y5 : w'.cell? ⟨ga, 5, none⟩ = some (.int .u32 z.rg) := by simpa using hcell 0 (by simp) 5 (.int .u32 z.rg) rfl
    have y6 : w'.cell? ⟨ga, 6, none⟩ = some (.int .i64 z.rd) := by simpa using hcell 0 (by simp) 6 (.int .i64 z.rd) rfl
    have y7 : w'.cell? ⟨ga, 7, none⟩ = some (.int .i64 z.ar) := by simpa using hcell 0 (by simp) 7 (.int .i64 z.ar) rfl
    have y8 : w'.cell? ⟨ga, 8, none⟩ = some (.int .i64 z.vn) := by simpa using hcell 0 (by simp) 8 (.int .i64 z.vn) rfl
    have y9 : w'.cell? ⟨ga, 9, none⟩ = some (.int .u32 z.vs) := by simpa using hcell 0 (by simp) 9 (.int .u32 z.vs) rfl
    have y10 : w'.cell? ⟨ga, 10, none⟩ = some (.int .u32 z.vg) := by simpa using hcell 0 (by simp) 10 (.int .u32 z.vg) rfl
    clear HF hn n2 hb hr hcell hs
    generalize (z :: r).length = n at *
    go_wp2
    refine bodyPost_ret (v := .tuple #[rcV (z), .bool true]) (resFirW _ (w.heap.size + 1) _ (z) true rfl rfl ?_) rfl ⟨by rw [HS.out]; rfl, ?_⟩
    · intro j u hu
      match j, hu with
      | 0, hu => cases hu; simp [go_sem, z0]
      | 1, hu => cases hu; simp [go_sem, z1]
      | 2, hu => cases hu; simp [go_sem, z2]
      | 3, hu => cases hu; simp [go_sem, z3]
      | 4, hu => cases hu; simp [go_sem, z4]
      | 5, hu => cases hu; simp [go_sem, z5]
      | 6, hu => cases hu; simp [go_sem, z6]
      | 7, hu => cases hu; simp [go_sem, z7]
      | 8, hu => cases hu; simp [go_sem, z8]
      | 9, hu => cases hu; simp [go_sem, z9]
      | 10, hu => cases hu; simp [go_sem, z10]
      | j + 11, hu => simp [rcF] at hu
    · repeat (refine Below.setCell (p := ⟨w.heap.size + 1, _, none⟩) ?_ (by simp) _)
      exact HB2.out

set_option maxRecDepth 100000 in
set_option maxHeartbeats 4000000 in
/-- two lists of the same waits are alike -/
theorem sameW {v v' : Value} {B' : Nat} {rs : List Rc} (h : RcRow w B v rs) (h' : RcRow w B' v' rs) (hl : rs.length ≤ 100000) :
    Calls Try.prog 12 #[v, v'] w fun e w' => e = .returned (.bool true) ∧ Below w.heap.size w w' := by
  obtain ⟨a, c, rfl, hc, hm⟩ := h.form
  obtain ⟨a', c', rfl, hc', -⟩ := h'.form
  have q0 : ((rs.length : Int) == (rs.length : Int)) = true := by simp
  go_enter Try.func12, Try.ntmps12
  go_wp2
  go_loopw [5] (fun i wr => ∃ k m : Nat, k ≤ rs.length ∧ i = .int .i64 k ∧ wr = w.drewN m) (fun i _ => rs.length - (intOf i).toNat)
  case atStart => exact ⟨0, 0, Nat.zero_le _, rfl, rfl⟩
  case round =>
    obtain ⟨k, m, hk, rfl, rfl⟩ := hrel
    by_cases hlt : k < rs.length
    · obtain ⟨ga, gc, cur, e1, k1, -, -, -, -, hcell⟩ := h.at rcF_len (by omega)
      obtain ⟨ga', gc', cur', e1', k1', -, -, -, -, hcell'⟩ := h'.at rcF_len (by omega)
      cases e1
      cases e1'
      have q1 : decide ((k : Int) < (rs.length : Int)) = true := decide_eq_true (by omega)
      have y0 : w.cell? ⟨ga, k * 11, none⟩ = some (.int .u32 rs[k].ms) := hcell k hlt 0 (.int .u32 rs[k].ms) rfl
      have x0 : w.cell? ⟨ga', k * 11, none⟩ = some (.int .u32 rs[k].ms) := hcell' k hlt 0 (.int .u32 rs[k].ms) rfl
      have y1 : w.cell? ⟨ga, k * 11 + 1, none⟩ = some (.int .u32 rs[k].mg) := hcell k hlt 1 (.int .u32 rs[k].mg) rfl
      have x1 : w.cell? ⟨ga', k * 11 + 1, none⟩ = some (.int .u32 rs[k].mg) := hcell' k hlt 1 (.int .u32 rs[k].mg) rfl
      have y2 : w.cell? ⟨ga, k * 11 + 2, none⟩ = some (.int .u32 rs[k].ws) := hcell k hlt 2 (.int .u32 rs[k].ws) rfl
      have x2 : w.cell? ⟨ga', k * 11 + 2, none⟩ = some (.int .u32 rs[k].ws) := hcell' k hlt 2 (.int .u32 rs[k].ws) rfl
      have y3 : w.cell? ⟨ga, k * 11 + 3, none⟩ = some (.int .u32 rs[k].wg) := hcell k hlt 3 (.int .u32 rs[k].wg) rfl
      have x3 : w.cell? ⟨ga', k * 11 + 3, none⟩ = some (.int .u32 rs[k].wg) := hcell' k hlt 3 (.int .u32 rs[k].wg) rfl
      have y4 : w.cell? ⟨ga, k * 11 + 4, none⟩ = some (.int .u32 rs[k].rs) := hcell k hlt 4 (.int .u32 rs[k].rs) rfl
      have x4 : w.cell? ⟨ga', k * 11 + 4, none⟩ = some (.int .u32 rs[k].rs) := hcell' k hlt 4 (.int .u32 rs[k].rs) rfl
      have y5 : w.cell? ⟨ga, k * 11 + 5, none⟩ = some (.int .u32 rs[k].rg) := hcell k hlt 5 (.int .u32 rs[k].rg) rfl
      have x5 : w.cell? ⟨ga', k * 11 + 5, none⟩ = some (.int .u32 rs[k].rg) := hcell' k hlt 5 (.int .u32 rs[k].rg) rfl
      have y6 : w.cell? ⟨ga, k * 11 + 6, none⟩ = some (.int .i64 rs[k].rd) := hcell k hlt 6 (.int .i64 rs[k].rd) rfl
      have x6 : w.cell? ⟨ga', k * 11 + 6, none⟩ = some (.int .i64 rs[k].rd) := hcell' k hlt 6 (.int .i64 rs[k].rd) rfl
      have y7 : w.cell? ⟨ga, k * 11 + 7, none⟩ = some (.int .i64 rs[k].ar) := hcell k hlt 7 (.int .i64 rs[k].ar) rfl
      have x7 : w.cell? ⟨ga', k * 11 + 7, none⟩ = some (.int .i64 rs[k].ar) := hcell' k hlt 7 (.int .i64 rs[k].ar) rfl
      have y8 : w.cell? ⟨ga, k * 11 + 8, none⟩ = some (.int .i64 rs[k].vn) := hcell k hlt 8 (.int .i64 rs[k].vn) rfl
      have x8 : w.cell? ⟨ga', k * 11 + 8, none⟩ = some (.int .i64 rs[k].vn) := hcell' k hlt 8 (.int .i64 rs[k].vn) rfl
      have y9 : w.cell? ⟨ga, k * 11 + 9, none⟩ = some (.int .u32 rs[k].vs) := hcell k hlt 9 (.int .u32 rs[k].vs) rfl
      have x9 : w.cell? ⟨ga', k * 11 + 9, none⟩ = some (.int .u32 rs[k].vs) := hcell' k hlt 9 (.int .u32 rs[k].vs) rfl
      have y10 : w.cell? ⟨ga, k * 11 + 10, none⟩ = some (.int .u32 rs[k].vg) := hcell k hlt 10 (.int .u32 rs[k].vg) rfl
      have x10 : w.cell? ⟨ga', k * 11 + 10, none⟩ = some (.int .u32 rs[k].vg) := hcell' k hlt 10 (.int .u32 rs[k].vg) rfl
      generalize rs[k] = z at *
      clear hcell hcell'
      go_wp2
      go_quiet (fail)
      go_wp2
      go_roundw
      case rel => exact ⟨k + 1, _, by omega, by go_num, rfl⟩
      case measure => simp [intOf]; omega
    · have q1 : decide ((k : Int) < (rs.length : Int)) = false := decide_eq_false (by omega)
      go_wp2
      go_ret
      exact ⟨rfl, below_dr _ _ _⟩

end Go.Proofs.Ythnnpipekeanoaa
