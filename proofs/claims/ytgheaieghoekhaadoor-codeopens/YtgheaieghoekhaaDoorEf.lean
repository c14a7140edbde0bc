/- Encode. -/
import Derived.Test.YtgheaieghoekhaaDoorEe
namespace Go.Proofs.YtgheaieghoekhaaDoor
open Go.RowKit

theorem check_is {N : Nat} {w : World} {v1 v2 v3 : Value} {p : Pg} (h : Gd N w v1 v2 v3 p) {a b c : Int} (hc : chk p = (a, b, c)) :
    Calls Tryd.prog 13 #[pv v1 v2 v3 p.mn] w fun e w' => e = .returned (.tuple #[.int .i64 a, .int .i64 b, .int .i64 c]) ∧ Below w.heap.size w w' := by
  have := check_any h
  unfold triV at this
  rw [hc] at this
  exact this

theorem ret_si {s t : ByteArray} {a b : Int} (h : s = t) (h' : a = b) : Ending.returned (.tuple #[.string s, .int .i64 a]) = .returned (.tuple #[.string t, .int .i64 b]) := by rw [h, h']

set_option maxHeartbeats 2000000 in
theorem encode_no {N : Nat} {w : World} {v1 v2 v3 : Value} {p : Pg} (h : Gd N w v1 v2 v3 p) {a b c : Int} (hc : chk p = (a, b, c)) (ha : a ≠ 0) :
    Calls Tryd.prog 12 #[pv v1 v2 v3 p.mn] w fun e w' => e = .returned (.tuple #[.string ⟨#[]⟩, .int .i64 a]) ∧ Below w.heap.size w w' := by
  have q : (a != 0) = true := by simpa using ha
  have HG := hide (h.alloc (.cells #[v1, v2, v3, .int .i64 p.mn] 26))
  have HC := hide hc
  clear h ha hc
  go_enter Tryd.func12, Tryd.ntmps12
  go_wp2_with fail
  refine (check_is (unhide HG) (unhide HC)).mono ?_
  rintro e w5 ⟨rfl, hB5⟩
  have HB5 := hide hB5
  clear hB5
  go_wp2
  go_ret2
  exact ⟨rfl, (below1 _ _).trans ((unhide HB5).mono (by simp))⟩

set_option maxHeartbeats 2000000 in
theorem encode_ok {N : Nat} {w : World} {v1 v2 v3 : Value} {p : Pg} (h : Gd N w v1 v2 v3 p) {b c : Int} (hc : chk p = (0, b, c)) (hlen : (bprog p).length ≤ 140737488355328) :
    Calls Tryd.prog 12 #[pv v1 v2 v3 p.mn] w fun e w' => e = .returned (.tuple #[.string ⟨(bprog p).toArray⟩, .int .i64 0]) ∧ Below w.heap.size w w' := by
  obtain ⟨W, hW⟩ : ∃ W, W = w.alloc (.cells #[v1, v2, v3, .int .i64 p.mn] 26) := ⟨_, rfl⟩
  have hb0 : Below w.heap.size w W := by rw [hW]; exact below1 w _
  have hszW : W.heap.size = w.heap.size + 1 := by rw [hW]; simp
  have hle := h.le
  have HGW := hide (h.below (hb0.mono hle) (by omega))
  have x0 : W.cell? ⟨w.heap.size, 0, none⟩ = some v1 := by rw [hW, World.cell?_alloc_new]; rfl
  have x1 : W.cell? ⟨w.heap.size, 1, none⟩ = some v2 := by rw [hW, World.cell?_alloc_new]; rfl
  have x2 : W.cell? ⟨w.heap.size, 2, none⟩ = some v3 := by rw [hW, World.cell?_alloc_new]; rfl
  have x3 : W.cell? ⟨w.heap.size, 3, none⟩ = some (.int .i64 p.mn) := by rw [hW, World.cell?_alloc_new]; rfl
  have HC := hide hc
  have HW := hide hW
  have HB0 := hide hb0
  clear h hc hW hb0
  go_enter Tryd.func12, Tryd.ntmps12
  go_wp2_with fail
  rw [← unhide HW]
  refine (check_is (unhide HGW) (unhide HC)).mono ?_
  rintro e w5 ⟨rfl, hB5⟩
  have hB5s := hB5.size
  obtain ⟨bc5, -⟩ := bcell hB5
  have l0 : w.heap.size < W.heap.size := by omega
  have l1 : w.heap.size < w5.heap.size := by omega
  have HG5 := hide ((unhide HGW).below (hB5.mono (by omega)) (by omega))
  have HB5 := hide hB5
  clear hB5
  have hwr : Wr w5.heap.size w5.heap.size [] (w5.alloc (.cells #[.pointer none, .slice none 0 0] 77)) :=
    ⟨Nat.le_refl _, .pointer none, .slice none 0 0, Or.inl rfl, heap_new _ _, World.ownsRow_nil _ _ _ _, fun _ => rfl⟩
  have HP := hide (((unhide HG5).toPgAt.below ((Below.refl _ _).alloc (unhide HG5).le (.cells #[.pointer none, .slice none 0 0] 77))))
  have HP2 := hide (show PgAt w5.heap.size (w5.alloc (.cells #[.pointer none, .slice none 0 0] 77)) v1 v2 v3 p from
    ⟨(unhide HP).hf.imp (unhide HG5).le fun b o f h0 hf => (by obtain ⟨v, f1, f2, f3, f4, f5, f6⟩ := hf; exact ⟨v, f1, f2, f3, f4, f5, f6.imp (unhide HG5).le fun _ _ _ _ hx => hx⟩),
     (unhide HP).hp.imp (unhide HG5).le fun b o f h0 hf => (by obtain ⟨v, f1, f6⟩ := hf; exact ⟨v, f1, f6.imp (unhide HG5).le fun _ _ _ _ hx => hx⟩),
     (unhide HP).ha.imp (unhide HG5).le fun b o f h0 hf => (by obtain ⟨v, f1, f6⟩ := hf; exact ⟨v, f1, f6.imp (unhide HG5).le fun _ _ _ _ hx => hx⟩)⟩)
  have HWR := hide hwr
  clear hwr HP
  go_wp2_with fail
  refine (wprog_is (unhide HP2) (unhide HWR) hlen).mono ?_
  rintro e w6 ⟨rfl, hF6, hW6⟩
  have HF6 := hide hF6
  have HW6 := hide hW6
  clear hF6 hW6
  go_wp2_with fail
  refine (wtold_is (unhide HW6) (by unfold bprog; simp)).mono ?_
  rintro e w7 ⟨rfl, hB7⟩
  have HB7 := hide hB7
  clear hB7
  go_wp2
  go_ret2
  refine ⟨rfl, ?_⟩
  exact (unhide HB0).trans ((((unhide HB5).mono (by omega)).trans (((below1 w5 _).trans ((unhide HF6).below)).mono (by omega))).trans ((unhide HB7).mono (by omega)))

end Go.Proofs.YtgheaieghoekhaaDoor
