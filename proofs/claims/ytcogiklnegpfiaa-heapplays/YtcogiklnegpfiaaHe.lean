/- Layer 10: the program's table of kinds: Take, Free. -/
import Derived.Test.YtcogiklnegpfiaaHd
namespace Go.Proofs.Ytcogiklnegpfiaa
open Go.RowKit Go.Shelf

variable {w : World} {B : Nat} {F : Nat → Prop} {p : Nat} {l : List (ThG Int)} {M g : Nat}

theorem res_takeI (tm : Array Value) (A : Nat) (Z : World) (s g c : Int) (h2 : tm[4]?.getD undef = .pointer (some ⟨A, 0, none⟩)) (h3 : tm[5]?.getD undef = .int .i64 c) (c0 : Z.cell? ⟨A, 0, none⟩ = some (.int .u32 s)) (c1 : Z.cell? ⟨A, 1, none⟩ = some (.int .u32 g)) :
    (results Try.f33 tm).run Try.prog Z = .ok (.tuple #[hv s g, .int .i64 c]) Z := by
  simp [results, Try.results33, go_sem, h2, h3, c0, c1]

set_option maxRecDepth 100000 in
set_option maxHeartbeats 2000000 in
theorem take_noI (h : TbI w B F p l M g) (x : Int) (he : emp l M 1 = none) : Calls Try.prog 33 #[.pointer (some ⟨p, 0, none⟩), .int .i64 x] w fun e w' => e = .returned (.tuple #[hv 0 0, .int .i64 101]) ∧ Below w.heap.size w w' := by
  have h1 := h.below (below1 w (.cells #[.int .u32 0, .int .u32 0] 43))
  have hl := hide (least_isI h1)
  rw [lsE_none he] at hl
  go_enter Try.func33, Try.ntmps33
  go_wp2_with (go_at_call 46; refine hl.out.mono ?_; rintro e w' ⟨rfl, rfl⟩)
  have hz := heap_new w (.cells #[.int .u32 0, .int .u32 0] 43)
  exact bodyPost_ret (v := .tuple #[hv 0 0, .int .i64 101]) (res_takeI _ w.heap.size _ 0 0 101 rfl rfl (by simp [Lib.cell_of_heap hz]) (by simp [Lib.cell_of_heap hz])) rfl ⟨rfl, below1 _ _⟩

/-- the table behind a Take -/
def tookI (w : World) (p g i n c k : Nat) (x : Int) : World := ((((w.setCell ⟨p, 2, none⟩ (.int .i64 (n : Int))).setCell ⟨p, 1, none⟩ (.int .i64 (c : Int))).setCell ⟨g, i * 3, none⟩ (.int .u32 (k : Int))).setCell ⟨g, i * 3 + 1, none⟩ (.int .i64 (n : Int))).setCell ⟨g, i * 3 + 2, none⟩ (.int .i64 x)
theorem tookI_ch (w : World) (p g i n c k : Nat) (x : Int) : Ch (fun y => y = p ∨ y = g) w (tookI w p g i n c k x) := by
  unfold tookI
  refine ((((Ch.set w (Or.inl rfl) _ _).trans (Ch.set _ (Or.inl rfl) _ _) (fun _ _ h => h)).trans (Ch.set _ (Or.inr rfl) _ _) (fun _ _ h => h)).trans (Ch.set _ (Or.inr rfl) _ _) (fun _ _ h => h)).trans (Ch.set _ (Or.inr rfl) _ _) (fun _ _ h => h)
theorem tookI_is (h : TbI w B F p l M g) (x : Int) {i : Nat} (hi : i < M) (hB : tkB l M = true) (hS : tkS l M = (i : Int) + 1) : TbI (tookI w p g i (l.length + 1) (cnt l + 1) (gens l ((i : Int) + 1) + 1) x) B F p (tkd l M x) M g := by
  have hi0 : i < (sls (0 : Int) l M).length := by rw [sls_len]; exact hi
  refine ⟨?_, ?_, h.low, h.wf.tkd x, h.lt.tkd M x, h.m1, h.m2, h.foot⟩
  · rw [cnt_tkd x hB, tkd_len, hB]
    unfold tookI
    have hp := heap_set (heap_set h.box 2 (.int .i64 ((l.length + 1 : Nat) : Int))) 1 (.int .i64 ((cnt l + 1 : Nat) : Int))
    have np : ¬ p = g := fun e => h.ne e.symm
    exact (Ch.set (Q := fun y => y = g) _ rfl _ _).box ((Ch.set (Q := fun y => y = g) _ rfl _ _).box ((Ch.set (Q := fun y => y = g) _ rfl _ _).box (hp) np) np) np
  · have r0 := (h.row.ch (Ch.set (Q := fun y => y = p) w rfl 2 (.int .i64 ((l.length + 1 : Nat) : Int))) (fun y hy e => h.ne (by injection hy with hy; exact hy.trans e))).ch (Ch.set (Q := fun y => y = p) _ rfl 1 (.int .i64 ((cnt l + 1 : Nat) : Int))) (fun y hy e => h.ne (by injection hy with hy; exact hy.trans e))
    rw [sls_tkd (0 : Int) x hB hS]
    have r1 := row_putI r0 (i := i) (j := 0) hi0 (by decide) (u := .int .u32 ((gens l ((i : Int) + 1) + 1 : Nat) : Int)) ⟨gens l ((i : Int) + 1) + 1, sloR l ((i : Int) + 1), sloX (0 : Int) l ((i : Int) + 1)⟩ (by rw [sls_get]; rfl)
    have r2 := row_putI r1 (i := i) (j := 1) (by simpa using hi0) (by decide) (u := .int .i64 ((l.length + 1 : Nat) : Int)) ⟨gens l ((i : Int) + 1) + 1, l.length + 1, sloX (0 : Int) l ((i : Int) + 1)⟩ (by rw [List.getElem_set_self]; rfl)
    have r3 := row_putI r2 (i := i) (j := 2) (by simpa using hi0) (by decide) (u := .int .i64 x) ⟨gens l ((i : Int) + 1) + 1, l.length + 1, x⟩ (by rw [List.getElem_set_self]; rfl)
    simp only [List.set_set] at r3
    exact r3

set_option maxRecDepth 100000 in
set_option maxHeartbeats 2000000 in
theorem take_atI (h : TbI w B F p l M g) (x : Int) (hlen : l.length ≤ 100000) {i : Nat} (hi : i < M) (he : emp l M 1 = some ((i : Int) + 1)) : Calls Try.prog 33 #[.pointer (some ⟨p, 0, none⟩), .int .i64 x] w fun e w' => e = .returned (.tuple #[hv ((i : Int) + 1) (gens l ((i : Int) + 1) + 1), .int .i64 0]) ∧ TbI w' B F p (tkd l M x) M g ∧ Ch F w w' := by
  obtain ⟨w1, hw1⟩ : ∃ w1, w.alloc (.cells #[.int .u32 0, .int .u32 0] 43) = w1 := ⟨_, rfl⟩
  have hB1 : Below w.heap.size w w1 := by rw [← hw1]; exact below1 _ _
  have h1 := h.below hB1
  have hn : w1.heap[w.heap.size]? = some (.cells #[.int .u32 0, .int .u32 0] 43) := by rw [← hw1]; exact heap_new _ _
  have hl := hide (least_isI h1)
  rw [lsE_some he, show (i : Int) + 1 - 1 = (i : Int) by omega] at hl
  have hm := h.m2
  have hcl := h.wf.cnt_le
  have hgl := gens_le l ((i : Int) + 1)
  have hne := h.ne
  have hne' : p ≠ g := fun e => hne e.symm
  have hpw := h.lt_p
  obtain ⟨-, hgw, -⟩ := h.own
  obtain ⟨c0, c1, c2⟩ := h1.cells
  obtain ⟨d0, d1, d2⟩ := h1.slot hi
  have fz := h1.fz
  go_enter Try.func33, Try.ntmps33
  go_wp2_with (go_at_call 46; refine hl.out.mono ?_; rintro e w1 ⟨rfl, rfl⟩)
  have hB := hide (show tkB l M = true by unfold tkB; rw [he]; rfl)
  have hS := hide (show tkS l M = (i : Int) + 1 by unfold tkS; rw [he]; rfl)
  have h5 := tookI_is h1 x hi hB.out hS.out
  have k5 := tookI_ch w1 p g i (l.length + 1) (cnt l + 1) (gens l ((i : Int) + 1) + 1) x
  have n5 := k5.box hn (fun e => by omega)
  have hs1 : w1.heap.size = w.heap.size + 1 := by rw [← hw1]; simp
  have hs5 := k5.size
  show Calls _ _ _ (tookI w1 p g i (l.length + 1) (cnt l + 1) (gens l ((i : Int) + 1) + 1) x) _
  generalize tookI w1 p g i (l.length + 1) (cnt l + 1) (gens l ((i : Int) + 1) + 1) x = w5 at *
  refine (mkhandle_is w5 i (by omega) _).mono ?_
  rintro e w6 ⟨rfl, hb6⟩
  have h6 := h5.below hb6
  have n6 := (hb6.block _ (by omega)).trans n5
  have z0 : w6.cell? ⟨w.heap.size, 0, none⟩ = some (.int .u32 0) := by simp [Lib.cell_of_heap n6]
  have z1 : w6.cell? ⟨w.heap.size, 1, none⟩ = some (.int .u32 0) := by simp [Lib.cell_of_heap n6]
  have zf : ∀ o, w6.frozen? ⟨w.heap.size, o, none⟩ = false := by simp [World.frozen?, n6]
  clear c0 c1 c2 d0 d1 d2 fz
  go_wp2
  have ks := (Ch.set (Q := fun y => y = w.heap.size) w6 rfl 0 (.int .u32 ((i : Int) + 1))).trans (Ch.set (Q := fun y => y = w.heap.size) _ rfl 1 (.int .u32 ((gens l ((i : Int) + 1) : Int) + 1))) (fun _ _ h => h)
  refine bodyPost_ret (v := .tuple #[hv ((i : Int) + 1) (gens l ((i : Int) + 1) + 1), .int .i64 0]) (res_takeI _ w.heap.size _ _ _ 0 rfl rfl ?_ ?_) rfl ⟨rfl, h6.ch ks (fun y hy e => ?_), ?_⟩
  · simp [go_sem, z0]
  · simp [go_sem, z1]
  · rcases (h.foot y).1 hy with e' | e' <;> omega
  · exact (((Ch.of_below hB1).trans (k5.mono (fun y _ e => (h.foot y).2 e)) (fun _ _ h => h)).trans (Ch.of_below (Q := F) hb6) (fun _ _ h => h)).trans ks (fun y hy e => by omega)

theorem take_isI (h : TbI w B F p l M g) (x : Int) (hlen : l.length ≤ 100000) : Calls Try.prog 33 #[.pointer (some ⟨p, 0, none⟩), .int .i64 x] w fun e w' => e = .returned (.tuple #[hv (tkS l M) (tkG l M), .int .i64 (ec (tkB l M) 101)]) ∧ TbI w' B F p (tkd l M x) M g ∧ Ch F w w' := by
  cases he : emp l M 1 with
  | none =>
    have e1 : tkS l M = 0 := by unfold tkS; rw [he]; rfl
    have e2 : tkG l M = 0 := by unfold tkG; rw [he]
    have e3 : tkB l M = false := by unfold tkB; rw [he]; rfl
    have e4 : tkd l M x = l := by unfold tkd; rw [he]
    rw [e1, e2, e3, e4]
    exact (take_noI h x he).mono fun e w' ⟨h1, h2⟩ => ⟨h1, h.below h2, Ch.of_below h2⟩
  | some s =>
    obtain ⟨h1, h2, h3⟩ := emp_some he
    obtain ⟨i, rfl⟩ : ∃ i : Nat, s = (i : Int) + 1 := ⟨(s - 1).toNat, by omega⟩
    have e1 : tkS l M = (i : Int) + 1 := by unfold tkS; rw [he]; rfl
    have e2 : tkG l M = (gens l ((i : Int) + 1) : Int) + 1 := by unfold tkG; rw [he]
    have e3 : tkB l M = true := by unfold tkB; rw [he]; rfl
    rw [e1, e2, e3]
    exact take_atI h x hlen (by omega) he

/-- the table behind a Free -/
def gaveI (w : World) (p g i k c : Nat) : World := (((w.setCell ⟨g, i * 3, none⟩ (.int .u32 (k : Int))).setCell ⟨g, i * 3 + 1, none⟩ (.int .i64 0)).setCell ⟨g, i * 3 + 2, none⟩ (.int .i64 0)).setCell ⟨p, 1, none⟩ (.int .i64 (c : Int))
theorem gaveI_ch (w : World) (p g i k c : Nat) : Ch (fun y => y = p ∨ y = g) w (gaveI w p g i k c) := by
  unfold gaveI
  refine (((Ch.set w (Or.inr rfl) _ _).trans (Ch.set _ (Or.inr rfl) _ _) (fun _ _ h => h)).trans (Ch.set _ (Or.inr rfl) _ _) (fun _ _ h => h)).trans (Ch.set _ (Or.inl rfl) _ _) (fun _ _ h => h)
theorem gaveI_is (h : TbI w B F p l M g) {i c : Nat} (hi : i < M) {G : Int} (hB : fnB l ((i : Int) + 1) G = true) (hc : cnt l = c + 1) : TbI (gaveI w p g i (gens l ((i : Int) + 1)) c) B F p (frd l ((i : Int) + 1) G) M g := by
  have hi0 : i < (sls (0 : Int) l M).length := by rw [sls_len]; exact hi
  have hc' : cnt (frd l ((i : Int) + 1) G) = c := by have := cnt_frd hB; omega
  refine ⟨?_, ?_, h.low, h.wf.frd _ _, h.lt.frd _ _, h.m1, h.m2, h.foot⟩
  · rw [hc', frd_len]
    unfold gaveI
    have np : ¬ p = g := fun e => h.ne e.symm
    have hb := (Ch.set (Q := fun y => y = g) (((w).setCell ⟨g, i * 3, none⟩ (.int .u32 (gens l ((i : Int) + 1) : Int))).setCell ⟨g, i * 3 + 1, none⟩ (.int .i64 0)) rfl (i * 3 + 2) (.int .i64 0)).box ((Ch.set (Q := fun y => y = g) ((w).setCell ⟨g, i * 3, none⟩ (.int .u32 (gens l ((i : Int) + 1) : Int))) rfl (i * 3 + 1) (.int .i64 0)).box ((Ch.set (Q := fun y => y = g) (w) rfl (i * 3) (.int .u32 (gens l ((i : Int) + 1) : Int))).box (h.box) np) np) np
    have := heap_set hb 1 (.int .i64 (c : Int))
    exact this
  · rw [sls_frd (0 : Int) h.wf hB]
    have r0 := h.row
    have r1 := row_putI r0 (i := i) (j := 0) hi0 (by decide) (u := .int .u32 (gens l ((i : Int) + 1) : Int)) ⟨gens l ((i : Int) + 1), sloR l ((i : Int) + 1), sloX (0 : Int) l ((i : Int) + 1)⟩ (by rw [sls_get]; rfl)
    have r2 := row_putI r1 (i := i) (j := 1) (by simpa using hi0) (by decide) (u := .int .i64 0) ⟨gens l ((i : Int) + 1), 0, sloX (0 : Int) l ((i : Int) + 1)⟩ (by rw [List.getElem_set_self]; rfl)
    have r3 := row_putI r2 (i := i) (j := 2) (by simpa using hi0) (by decide) (u := .int .i64 0) ⟨gens l ((i : Int) + 1), 0, 0⟩ (by rw [List.getElem_set_self]; rfl)
    simp only [List.set_set] at r3
    exact r3.ch (Ch.set (Q := fun y => y = p) _ rfl 1 (.int .i64 (c : Int))) (fun y hy e => h.ne (by injection hy with hy; exact hy.trans e))

set_option maxRecDepth 100000 in
set_option maxHeartbeats 2000000 in
theorem free_isI (h : TbI w B F p l M g) {s G : Int} (hu : Us s) : Calls Try.prog 37 #[.pointer (some ⟨p, 0, none⟩), hv s G] w fun e w' => e = .returned (.int .i64 (ec (fnB l s G) 102)) ∧ TbI w' B F p (frd l s G) M g ∧ Ch F w w' := by
  have h1 := h.below (below1 w (.cells #[.int .u32 s, .int .u32 G] 43))
  have hB1 := below1 w (.cells #[.int .u32 s, .int .u32 G] 43)
  cases hB : fnB l s G
  · have hf := hide (find_noI h1 hu hB)
    have e : frd l s G = l := by
      unfold fnB at hB
      unfold frd
      cases h : fnd l s G with
      | none => rfl
      | some k => rw [h] at hB; cases hB
    rw [e]
    go_enter Try.func37, Try.ntmps37
    go_wp2_with (go_at_call 48; refine hf.out.mono ?_; rintro e w' ⟨rfl, hb⟩)
    go_ret
    exact ⟨rfl, h1.below hb, Ch.of_below (hB1.trans (hb.mono (by simp)))⟩
  · obtain ⟨c, hc⟩ : ∃ c, cnt l = c + 1 := ⟨cnt l - 1, by have := cnt_frd hB; omega⟩
    obtain ⟨i, hi, rfl, hG, hr, hf⟩ := find_isI h1 hB
    have hf := hide hf
    have HB := hide hB
    have HB1 := hide hB1
    have hcl := h.wf.cnt_le
    have hm := h.m2
    have hne := h.ne
    have hne' : p ≠ g := fun e => hne e.symm
    have HC := hide hc
    have qc : ((c + 1 : Nat) : Int) = (c : Int) + 1 := by omega
    clear hB hB1 hG
    go_enter Try.func37, Try.ntmps37
    go_wp2_with (go_at_call 48; refine hf.out.mono ?_; rintro e w' ⟨rfl, hb⟩; have h2 := h1.below hb; have HB2 := hide hb; clear hb; have fz := h2.fz; obtain ⟨b0, b1, b2⟩ := h2.cells; rw [HC.out, qc] at b1; obtain ⟨c0, c1, c2⟩ := h2.slot hi)
    go_ret
    have h5 := gaveI_is h2 hi HB.out HC.out
    have k5 := gaveI_ch w' p g i (gens l ((i : Int) + 1)) c
    refine ⟨rfl, h5, (Ch.of_below (HB1.out.trans (HB2.out.mono (by simp)))).trans k5 (fun x _ e => (h.foot x).2 e)⟩

end Go.Proofs.Ytcogiklnegpfiaa
