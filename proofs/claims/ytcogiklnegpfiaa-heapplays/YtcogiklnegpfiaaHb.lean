/- Layer 10: the program's table of kinds: how it lies; its small functions. -/
import Derived.Test.YtcogiklnegpfiaaHa
import Derived.Test.YtcogiklnegpfiaaRl
import Derived.Test.YtcogiklnegpfiaaRt
namespace Go.Proofs.Ytcogiklnegpfiaa
open Go.RowKit Go.Shelf

/-- a slot, in memory -/
def slFI (o : So Int) : List Value := [.int .u32 (o.g : Int), .int .i64 (o.r : Int), .int .i64 o.x]
theorem slFI_len (o : So Int) : (slFI o).length = 3 := rfl

/-- the table lies in block p, its slots in block g -/
structure TbI (w : World) (B : Nat) (F : Nat → Prop) (p : Nat) (l : List (ThG Int)) (M g : Nat) : Prop where
  box : w.heap[p]? = some (.cells #[.slice (some ⟨g, 0, none⟩) M M, .int .i64 (cnt l : Int), .int .i64 (l.length : Int)] 83 (0, 0))
  row : Row slFI 3 89 w B (.slice (some ⟨g, 0, none⟩) (sls (0 : Int) l M).length M) (sls (0 : Int) l M)
  low : B ≤ p
  wf : Wf l M
  lt : Lt l
  m1 : 1 ≤ M
  m2 : M ≤ 500
  foot : ∀ x, F x ↔ x = p ∨ x = g

section
variable {w w' : World} {B : Nat} {F : Nat → Prop} {p : Nat} {l : List (ThG Int)} {M g : Nat}

theorem TbI.cells (h : TbI w B F p l M g) : w.cell? ⟨p, 0, none⟩ = some (.slice (some ⟨g, 0, none⟩) M M) ∧ w.cell? ⟨p, 1, none⟩ = some (.int .i64 (cnt l : Int)) ∧ w.cell? ⟨p, 2, none⟩ = some (.int .i64 (l.length : Int)) := by
  simp [Lib.cell_of_heap h.box]
theorem TbI.own (h : TbI w B F p l M g) : B ≤ g ∧ g < w.heap.size ∧ ∃ cur, w.heap[g]? = some (.cells cur 89 (0, 0)) := own_in h.row rfl
theorem TbI.ne (h : TbI w B F p l M g) : g ≠ p := fun e => own_box h.row h.box (by decide) (by rw [e]; rfl)
theorem TbI.lt_p (h : TbI w B F p l M g) : p < w.heap.size := (Array.getElem?_eq_some_iff.1 h.box).1
theorem TbI.fz (h : TbI w B F p l M g) (o : Nat) : w.frozen? ⟨p, o, none⟩ = false ∧ w.frozen? ⟨g, o, none⟩ = false := by
  obtain ⟨_, _, cur, hc⟩ := h.own
  exact ⟨by simp [World.frozen?, h.box], by simp [World.frozen?, hc]⟩
theorem TbI.ch {Q : Nat → Prop} (h : TbI w B F p l M g) (hc : Ch Q w w') (hq : ∀ x, F x → ¬ Q x) : TbI w' B F p l M g :=
  ⟨hc.box h.box (hq _ ((h.foot p).2 (Or.inl rfl))), h.row.ch hc (fun x hx => hq _ ((h.foot x).2 (Or.inr (by injection hx with hx; exact hx.symm)))), h.low, h.wf, h.lt, h.m1, h.m2, h.foot⟩
theorem TbI.below (h : TbI w B F p l M g) (hb : Below w.heap.size w w') : TbI w' B F p l M g := h.ch (Ch.of_below (Q := fun _ => False) hb) (fun _ _ h => h)
/-- a slot's cells -/
theorem TbI.slot (h : TbI w B F p l M g) {i : Nat} (hi : i < M) : w.cell? ⟨g, i * 3, none⟩ = some (.int .u32 (gens l ((i : Int) + 1) : Int)) ∧ w.cell? ⟨g, i * 3 + 1, none⟩ = some (.int .i64 (sloR l ((i : Int) + 1) : Int)) ∧ w.cell? ⟨g, i * 3 + 2, none⟩ = some (.int .i64 (sloX 0 l ((i : Int) + 1))) := by
  obtain ⟨g', c, cur, e, _, _, _, _, _, hc⟩ := h.row.at slFI_len (by rw [sls_len]; omega)
  cases e
  have hi' : i < (sls (0 : Int) l M).length := by rw [sls_len]; exact hi
  have e := sls_get (0 : Int) l M i hi'
  exact ⟨hc i hi' 0 _ (by rw [e]; rfl), hc i hi' 1 _ (by rw [e]; rfl), hc i hi' 2 _ (by rw [e]; rfl)⟩
/-- a slot's cell is written over -/
theorem row_putI {L : List (So Int)} (h : Row slFI 3 89 w B (.slice (some ⟨g, 0, none⟩) L.length M) L) {i j : Nat} (hi : i < L.length) (hj : j < 3) {u : Value} (y : So Int) (hy : slFI y = (slFI L[i]).set j u) :
    Row slFI 3 89 (w.setCell ⟨g, i * 3 + j, none⟩ u) B (.slice (some ⟨g, 0, none⟩) (L.set i y).length M) (L.set i y) := by
  rw [List.length_set]
  exact h.set slFI_len hi hj y hy
end

theorem flat_len {α : Type} (f : α → List Value) (K : Nat) (hK : ∀ x, (f x).length = K) (l : List α) : (l.flatMap f).length = l.length * K := by
  induction l with
  | nil => simp
  | cons x l ih => rw [List.flatMap_cons, List.length_append, ih, hK, List.length_cons, Nat.add_mul]; omega
theorem flat_rep {α : Type} (f : α → List Value) (K : Nat) (hK : ∀ x, (f x).length = K) (o : α) (M : Nat) : (List.replicate M o).flatMap f = (madeCells (f o).toArray (M * K)).toList := by
  apply List.ext_getElem
  · rw [flat_len f K hK, List.length_replicate, Array.length_toList, size_madeCells]
  · intro n h1 h2
    rw [flat_len f K hK, List.length_replicate] at h1
    have hK0 : 0 < K := by
      rcases Nat.eq_zero_or_pos K with h | h
      · subst h; omega
      · exact h
    have hd : n / K < M := (Nat.div_lt_iff_lt_mul hK0).2 h1
    have hm : n % K < K := Nat.mod_lt _ hK0
    have e : n = n / K * K + n % K := by rw [Nat.mul_comm]; exact (Nat.div_add_mod n K).symm
    have key := flat_get f K hK (List.replicate M o) (n / K) (n % K) (by rw [List.length_replicate]; exact hd) hm
    rw [← e, List.getElem_replicate] at key
    have h3 : n % K < (f o).length := by rw [hK]; exact hm
    apply Option.some.inj
    rw [← List.getElem?_eq_getElem, key, Array.getElem_toList]
    unfold madeCells
    simp only [hK, Array.getElem_map, Array.getElem_range, List.size_toArray]
    rw [List.getElem?_eq_getElem h3, getElem!_pos (f o).toArray (n % K) (by simpa using h3)]
    simp

theorem res_mkhandle (tm : Array Value) (A : Nat) (Z : World) (s g : Int) (h2 : tm[4]?.getD undef = .pointer (some ⟨A, 0, none⟩)) (c0 : Z.cell? ⟨A, 0, none⟩ = some (.int .u32 s)) (c1 : Z.cell? ⟨A, 1, none⟩ = some (.int .u32 g)) :
    (results Try.f47 tm).run Try.prog Z = .ok (hv s g) Z := by
  simp [results, Try.f47, h2, go_sem, c0, c1]

theorem mkhandle_is (w : World) (i : Nat) (hi : i < 500) (g : Int) : Calls Try.prog 47 #[.int .i64 (i : Int), .int .u32 g] w fun e w' => e = .returned (hv ((i : Int) + 1) g) ∧ Below w.heap.size w w' := by
  have w32 : IntKind.u32.wrap ((i : Int) + 1) = (i : Int) + 1 := by rw [IntKind.wrap_u32]; omega
  go_enter Try.func47, Try.ntmps47
  go_wp2
  refine bodyPost_ret (v := hv ((i : Int) + 1) g) (res_mkhandle _ w.heap.size _ _ _ rfl ?_ ?_) rfl ⟨rfl, ?_⟩
  · simp [go_sem]
  · simp [go_sem]
  · exact below1 w _

theorem info_slI : (Try.prog.info? 89).map (fun i => (i.zero, i.size, i.bytes)) = some (some (.agg #[.int .u32 0, .int .i64 0, .int .i64 0]), 3, 24) := by kernel_rfl
/-- new slots -/
theorem makeI (w : World) (M : Nat) (h2 : M ≤ 500) : ∃ w', (Instr.makeSlice 81 (.int .i64 (M : Int)) (.int .i64 (M : Int))).run Try.prog w = .ok (.slice (some ⟨w.heap.size, 0, none⟩) M M) w' ∧ Row slFI 3 89 w' w.heap.size (.slice (some ⟨w.heap.size, 0, none⟩) (sls (0 : Int) [] M).length M) (sls (0 : Int) [] M) ∧ Below w.heap.size w w' := by
  obtain ⟨i0, hi0, hz0, hz1, hz2⟩ := nf_open info_slI
  obtain ⟨w', h, hr, hg⟩ := run_makeSlice_full w w.heap.size 81 89 i0 _ 3 Try.underlying81 hi0 hz0 hz1 .i64 .i64 M (by omega) (by rw [hz2]; omega) (by unfold maxLen; omega) (Nat.le_refl _)
  refine ⟨w', h, ?_, ⟨hg.os, hg.tape, hg.output, hg.size, fun b hb => hg.block b hb (by simp)⟩⟩
  unfold Row
  rw [sls_len, sls_nil, flat_rep slFI 3 slFI_len]
  exact hr

theorem empty_isI {w : World} {g k : Nat} {r : Nat} (h : w.cell? ⟨g, k + 1, none⟩ = some (.int .i64 (r : Int))) :
    Calls Try.prog 59 #[.pointer (some ⟨g, k, none⟩)] w fun e w' => e = .returned (.bool (decide (r = 0))) ∧ w' = w := by
  go_enter Try.func59, Try.ntmps59
  go_wp2
  go_ret
  exact ⟨ret_bool (by rw [Bool.eq_iff_iff]; simp), rfl⟩

set_option maxHeartbeats 1000000 in
theorem least_isI {w : World} {B : Nat} {F : Nat → Prop} {p : Nat} {l : List (ThG Int)} {M g : Nat} (h : TbI w B F p l M g) :
    Calls Try.prog 46 #[.pointer (some ⟨p, 0, none⟩)] w fun e w' => e = .returned (.int .i64 (lsE l M)) ∧ w' = w := by
  obtain ⟨c0, -, -⟩ := h.cells
  have hm := h.m2
  go_enter Try.func46, Try.ntmps46
  go_wp2
  go_loopw [9] (fun iv wr => ∃ k : Nat, k ≤ M ∧ iv = .int .i64 (k : Int) ∧ Hid (emp l M 1 = emp l (M - k) ((k : Int) + 1)) ∧ wr = w) (fun iv _ => M - (intOf iv).toNat)
  case atStart => exact ⟨0, Nat.zero_le _, rfl, hide rfl, rfl⟩
  case round =>
    obtain ⟨k, hk, rfl, HE, rfl⟩ := hrel
    by_cases hlt : k < M
    · have HE2 := hide (emp_next hlt HE.out)
      have c1 := (h.slot hlt).2.1
      have hz := sloR_zero l ((k : Int) + 1)
      cases hu : usd l ((k : Int) + 1)
      · have HE3 := hide (show emp l M 1 = some ((k : Int) + 1) by rw [HE2.out, hu]; rfl)
        rw [hu] at hz
        have hz : sloR l ((k : Int) + 1) = 0 := by rw [hz]
        go_wp2_with (go_at_call 59; refine (empty_isI c1).mono ?_; rintro e w' ⟨rfl, rfl⟩; rw [hz])
        go_ret
        exact ⟨ret_int (by rw [lsE_some HE3.out]; omega), rfl⟩
      · have hz : decide (sloR l ((k : Int) + 1) = 0) = false := by rw [decide_eq_false_iff_not, hz, hu]; simp
        go_wp2_with (go_at_call 59; refine (empty_isI c1).mono ?_; rintro e w' ⟨rfl, rfl⟩; rw [hz])
        go_roundw
        case rel => exact ⟨k + 1, by omega, by go_num, hide (by rw [HE2.out, hu]; simp), trivial⟩
        case measure => simp [intOf]; omega
    · have ek : k = M := by omega
      subst ek
      have HE3 := hide (show emp l k 1 = none by rw [HE.out, Nat.sub_self]; rfl)
      go_wp2
      go_ret
      exact ⟨ret_int (lsE_none HE3.out).symm, rfl⟩

end Go.Proofs.Ytcogiklnegpfiaa
