/- Layer 10: the program's table of pairs: how it lies; its small functions. -/
import Derived.Test.YtjilnmeegolpkaaHb
import Derived.Test.YtjilnmeegolpkaaIp
namespace Go.Proofs.Ytjilnmeegolpkaa
open Go.RowKit Go.Shelf

/-- a slot, in memory -/
def slFP (o : So Pa) : List Value := [.int .u32 (o.g : Int), .int .i64 (o.r : Int), .string o.x.A, .slice o.x.a o.x.n o.x.c]
theorem slFP_len (o : So Pa) : (slFP o).length = 4 := rfl

/-- the table lies in block p, its slots in block g -/
structure TbP (w : World) (B : Nat) (F : Nat → Prop) (p : Nat) (l : List (ThG Pa)) (M g : Nat) : Prop where
  box : w.heap[p]? = some (.cells #[.slice (some ⟨g, 0, none⟩) M M, .int .i64 (cnt l : Int), .int .i64 (l.length : Int)] 94 (0, 0))
  row : Row slFP 4 97 w B (.slice (some ⟨g, 0, none⟩) (sls paZ l M).length M) (sls paZ l M)
  low : B ≤ p
  wf : Wf l M
  lt : Lt l
  m1 : 1 ≤ M
  m2 : M ≤ 500
  foot : ∀ x, F x ↔ x = p ∨ x = g

section
variable {w w' : World} {B : Nat} {F : Nat → Prop} {p : Nat} {l : List (ThG Pa)} {M g : Nat}

theorem TbP.cells (h : TbP w B F p l M g) : w.cell? ⟨p, 0, none⟩ = some (.slice (some ⟨g, 0, none⟩) M M) ∧ w.cell? ⟨p, 1, none⟩ = some (.int .i64 (cnt l : Int)) ∧ w.cell? ⟨p, 2, none⟩ = some (.int .i64 (l.length : Int)) := by
  simp [Lib.cell_of_heap h.box]
theorem TbP.own (h : TbP w B F p l M g) : B ≤ g ∧ g < w.heap.size ∧ ∃ cur, w.heap[g]? = some (.cells cur 97 (0, 0)) := own_in h.row rfl
theorem TbP.ne (h : TbP w B F p l M g) : g ≠ p := fun e => own_box h.row h.box (by decide) (by rw [e]; rfl)
theorem TbP.lt_p (h : TbP w B F p l M g) : p < w.heap.size := (Array.getElem?_eq_some_iff.1 h.box).1
theorem TbP.fz (h : TbP w B F p l M g) (o : Nat) : w.frozen? ⟨p, o, none⟩ = false ∧ w.frozen? ⟨g, o, none⟩ = false := by
  obtain ⟨_, _, cur, hc⟩ := h.own
  exact ⟨by simp [World.frozen?, h.box], by simp [World.frozen?, hc]⟩
theorem TbP.ch {Q : Nat → Prop} (h : TbP w B F p l M g) (hc : Ch Q w w') (hq : ∀ x, F x → ¬ Q x) : TbP w' B F p l M g :=
  ⟨hc.box h.box (hq _ ((h.foot p).2 (Or.inl rfl))), h.row.ch hc (fun x hx => hq _ ((h.foot x).2 (Or.inr (by injection hx with hx; exact hx.symm)))), h.low, h.wf, h.lt, h.m1, h.m2, h.foot⟩
theorem TbP.below (h : TbP w B F p l M g) (hb : Below w.heap.size w w') : TbP w' B F p l M g := h.ch (Ch.of_below (Q := fun _ => False) hb) (fun _ _ h => h)
/-- a slot's cells -/
theorem TbP.slot (h : TbP w B F p l M g) {i : Nat} (hi : i < M) : w.cell? ⟨g, i * 4, none⟩ = some (.int .u32 (gens l ((i : Int) + 1) : Int)) ∧ w.cell? ⟨g, i * 4 + 1, none⟩ = some (.int .i64 (sloR l ((i : Int) + 1) : Int)) ∧ w.cell? ⟨g, i * 4 + 2, none⟩ = some (.string (sloX paZ l ((i : Int) + 1)).A) ∧ w.cell? ⟨g, i * 4 + 3, none⟩ = some (.slice (sloX paZ l ((i : Int) + 1)).a (sloX paZ l ((i : Int) + 1)).n (sloX paZ l ((i : Int) + 1)).c) := by
  obtain ⟨g', c, cur, e, _, _, _, _, _, hc⟩ := h.row.at slFP_len (by rw [sls_len]; omega)
  cases e
  have hi' : i < (sls paZ l M).length := by rw [sls_len]; exact hi
  have e := sls_get paZ l M i hi'
  exact ⟨hc i hi' 0 _ (by rw [e]; rfl), hc i hi' 1 _ (by rw [e]; rfl), hc i hi' 2 _ (by rw [e]; rfl), hc i hi' 3 _ (by rw [e]; rfl)⟩
/-- a slot's cell is written over -/
theorem row_putP {L : List (So Pa)} (h : Row slFP 4 97 w B (.slice (some ⟨g, 0, none⟩) L.length M) L) {i j : Nat} (hi : i < L.length) (hj : j < 4) {u : Value} (y : So Pa) (hy : slFP y = (slFP L[i]).set j u) :
    Row slFP 4 97 (w.setCell ⟨g, i * 4 + j, none⟩ u) B (.slice (some ⟨g, 0, none⟩) (L.set i y).length M) (L.set i y) := by
  rw [List.length_set]
  exact h.set slFP_len hi hj y hy
end

theorem info_slP : (Try.prog.info? 97).map (fun i => (i.zero, i.size, i.bytes)) = some (some (.agg #[.int .u32 0, .int .i64 0, .string ⟨#[]⟩, .slice none 0 0]), 4, 56) := by kernel_rfl
/-- new slots -/
theorem makeP (w : World) (M : Nat) (h2 : M ≤ 500) : ∃ w', (Instr.makeSlice 92 (.int .i64 (M : Int)) (.int .i64 (M : Int))).run Try.prog w = .ok (.slice (some ⟨w.heap.size, 0, none⟩) M M) w' ∧ Row slFP 4 97 w' w.heap.size (.slice (some ⟨w.heap.size, 0, none⟩) (sls paZ [] M).length M) (sls paZ [] M) ∧ Below w.heap.size w w' := by
  obtain ⟨i0, hi0, hz0, hz1, hz2⟩ := nf_open info_slP
  obtain ⟨w', h, hr, hg⟩ := run_makeSlice_full w w.heap.size 92 97 i0 _ 4 Try.underlying92 hi0 hz0 hz1 .i64 .i64 M (by omega) (by rw [hz2]; omega) (by unfold maxLen; omega) (Nat.le_refl _)
  refine ⟨w', h, ?_, ⟨hg.os, hg.tape, hg.output, hg.size, fun b hb => hg.block b hb (by simp)⟩⟩
  unfold Row
  rw [sls_len, sls_nil, flat_rep slFP 4 slFP_len]
  exact hr

theorem empty_isP {w : World} {g k : Nat} {r : Nat} (h : w.cell? ⟨g, k + 1, none⟩ = some (.int .i64 (r : Int))) :
    Calls Try.prog 49 #[.pointer (some ⟨g, k, none⟩)] w fun e w' => e = .returned (.bool (decide (r = 0))) ∧ w' = w := by
  go_enter Try.func49, Try.ntmps49
  go_wp2
  go_ret
  exact ⟨ret_bool (by rw [Bool.eq_iff_iff]; simp), rfl⟩

set_option maxHeartbeats 1000000 in
theorem least_isP {w : World} {B : Nat} {F : Nat → Prop} {p : Nat} {l : List (ThG Pa)} {M g : Nat} (h : TbP w B F p l M g) :
    Calls Try.prog 41 #[.pointer (some ⟨p, 0, none⟩)] w fun e w' => e = .returned (.int .i64 (lsE l M)) ∧ w' = w := by
  obtain ⟨c0, -, -⟩ := h.cells
  have hm := h.m2
  go_enter Try.func41, Try.ntmps41
  go_wp2
  go_loopw [9] (fun iv wr => ∃ k : Nat, k ≤ M ∧ iv = .int .i64 (k : Int) ∧ Hid (emp l M 1 = emp l (M - k) ((k : Int) + 1)) ∧ wr = w) (fun iv _ => M - (intOf iv).toNat)
  case atStart => exact ⟨0, Nat.zero_le _, rfl, hide rfl, rfl⟩
  case round =>
    obtain ⟨k, hk, rfl, HE, rfl⟩ := hrel
    by_cases hlt : k < M
    · have HE2 := hide (emp_next hlt HE.out)
      have c1 := (h.slot hlt).2.1
      have hz := sloR_zero l ((k : Int) + 1)
      cases hu : usd l ((k : Int) + 1)
      · have HE3 := hide (show emp l M 1 = some ((k : Int) + 1) by rw [HE2.out, hu]; rfl)
        rw [hu] at hz
        have hz : sloR l ((k : Int) + 1) = 0 := by rw [hz]
        go_wp2_with (go_at_call 49; refine (empty_isP c1).mono ?_; rintro e w' ⟨rfl, rfl⟩; rw [hz])
        go_ret
        exact ⟨ret_int (by rw [lsE_some HE3.out]; omega), rfl⟩
      · have hz : decide (sloR l ((k : Int) + 1) = 0) = false := by rw [decide_eq_false_iff_not, hz, hu]; simp
        go_wp2_with (go_at_call 49; refine (empty_isP c1).mono ?_; rintro e w' ⟨rfl, rfl⟩; rw [hz])
        go_roundw
        case rel => exact ⟨k + 1, by omega, by go_num, hide (by rw [HE2.out, hu]; simp), trivial⟩
        case measure => simp [intOf]; omega
    · have ek : k = M := by omega
      subst ek
      have HE3 := hide (show emp l k 1 = none by rw [HE.out, Nat.sub_self]; rfl)
      go_wp2
      go_ret
      exact ⟨ret_int (lsE_none HE3.out).symm, rfl⟩

end Go.Proofs.Ytjilnmeegolpkaa
