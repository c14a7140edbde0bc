/- Layer 10: the program's table of kinds: All. -/
import Derived.Test.YtcogiklnegpfiaaHi
import Derived.Test.YtcogiklnegpfiaaRl
namespace Go.Proofs.Ytcogiklnegpfiaa
open Go.RowKit Go.Shelf

attribute [local go_sem] Oper.semAt_some

theorem grown_below {w w' : World} (h : Below w.heap.size w w') : w.grownBy w' none := ⟨h.os, h.tape, h.output, h.size, fun b hb _ => h.block b hb⟩
theorem abides_below {β : Type} {B : Nat} {J : β → World → Prop} (h : AbidesFrom B J) {s : β} {w w' : World} (hs : J s w) (hb : Below w.heap.size w w') : J s w' := h s w w' none hs (grown_below hb) (fun _ e => by cases e)

theorem LsI.keep {w w' : World} {b : Nat} {d : List (En Int)} (h : LsI w b d) (hk : ∀ cs T r, w.heap[b]? = some (.cells cs T r) → w'.heap[b]? = some (.cells cs T r)) : LsI w' b d := by
  obtain ⟨⟨cur, T, r, hb⟩, hc⟩ := h
  have e := hk _ _ _ hb
  refine ⟨⟨cur, T, r, e⟩, fun i hi j u hu => ?_⟩
  rw [World.cell?_of_block (w := w) (e.trans hb.symm)]
  exact hc i hi j u hu

set_option maxRecDepth 100000 in
set_option maxHeartbeats 2000000 in
theorem stopsI {w : World} {bx p : Nat} {ks : List (En Int)} (n : Nat) (hn : 3 ≤ n) (hb : w.heap[bx]? = some (.cells #[.pointer (some ⟨p, 0, none⟩)] 59 (0, 0)))
    (hlist : ∀ W, Ch (fun _ => False) w W → Calls Try.prog 54 #[.pointer (some ⟨p, 0, none⟩)] W fun e W' => ∃ b c, e = .returned (.slice (some ⟨b, 0, none⟩) ks.length c) ∧ LsI W' b ks ∧ ks.length ≤ 500 ∧ W.heap.size ≤ b ∧ Below W.heap.size W W') :
    SeqIs n Try.prog 53 #[.pointer (some ⟨bx, 0, none⟩)] (ks.map fun e => #[hv (e.s : Int) (e.g : Int), .int .i64 e.x]) (Kc w.heap.size) w := by
  intro lp J Jx W hW hJ hJx hY h0
  have cW := Ch.of_below (Q := fun _ => False) hW
  have hbW := cW.box hb (fun h => h)
  have b0 : W.cell? ⟨bx, 0, none⟩ = some (.pointer (some ⟨p, 0, none⟩)) := by simp [Lib.cell_of_heap hbW]
  have HY := hide hY
  clear hY
  refine callsIn_of_wp Try.func53 rfl trivial ?_ rfl
  simp only [Try.ntmps53, List.size_toArray, List.length_cons, List.length_nil, Nat.reduceAdd, Nat.reduceSub, Array.replicate_succ, Array.replicate_zero, List.push_toArray, List.append_toArray, List.nil_append, List.cons_append]
  gi_wp2
  refine ⟨trivial, fun _ => by omega, (callsIn_wide.2 (hlist W cW)).mono ?_⟩
  rintro e W2 ⟨b, c, rfl, hls, hl5, hWb, hb2⟩
  have hJ2 := abides_below hJ h0 hb2
  have s2 := hb2.size
  have sW := hW.size
  gi_wp2
  gi_loopw [8] (fun iv wr => ∃ i : Nat, iv = .int .i64 (i : Int) ∧ i ≤ ks.length ∧ J i wr ∧ Hid (LsI wr b ks) ∧ W.heap.size ≤ wr.heap.size) (fun iv _ => ks.length - (intOf iv).toNat)
  case atStart => exact ⟨0, rfl, Nat.zero_le _, hJ2, hide hls, s2⟩
  case round =>
    obtain ⟨i, rfl, hi, hJi, hri, sr⟩ := hrel
    by_cases hlt : i < ks.length
    · have q1 : decide ((i : Int) < (ks.length : Int)) = true := decide_eq_true (by omega)
      have hcell := hri.out.2
      have y0 : wr.cell? ⟨b, i * 4, none⟩ = _ := hcell i hlt 0 (.int .u32 (ks[i].s : Int)) rfl
      have y1 := hcell i hlt 1 (.int .u32 (ks[i].g : Int)) rfl
      have y2 := hcell i hlt 2 (.int .i64 (ks[i].r : Int)) rfl
      have y3 := hcell i hlt 3 (.int .i64 ks[i].x) rfl
      have hJ3 := abides_below hJ hJi (below1 wr (.cells (enFI ks[i]).toArray 100))
      have hYi := HY.out i (by simpa using hlt) _ hJ3
      rw [List.getElem_map] at hYi
      simp only [enFI] at hYi hJ3
      generalize ks[i] = z at y0 y1 y2 y3 hYi hJ3
      obtain ⟨fn, tmps, assign, body, hy, hR⟩ := hYi
      clear hcell
      gi_wp2
      refine ⟨fun _ => by omega, hR.mono ?_⟩
      rintro e W3 (⟨rfl, hJ4, hk3⟩ | ⟨rfl, hJx3⟩)
      · have s3 := hk3.size
        rw [World.size_alloc] at s3
        have hr3 := hide (hri.out.keep (w' := W3) fun cs T r e => hk3.blk b cs T r (by omega) ((Below.heap_alloc wr _ b (Array.getElem?_eq_some_iff.1 e).1).trans e))
        gi_wp2
        go_roundw
        case rel => exact ⟨i + 1, by go_num, by omega, hJ4, hr3, by omega⟩
        case measure => simp [intOf]; omega
      · gi_wp2
        refine bodyPost_ret (results_none rfl _ _ _) rfl ?_
        exact ⟨⟨_, rfl⟩, .inr ⟨i + 1, by simp; omega, hJx3⟩⟩
    · have q1 : decide ((i : Int) < (ks.length : Int)) = false := decide_eq_false (by omega)
      gi_wp2
      go_end0
      obtain rfl : i = ks.length := by omega
      exact ⟨⟨_, rfl⟩, .inl (by rw [List.length_map]; exact hJi)⟩

theorem all_isI (w : World) (pv : Value) (hp : pv.oneCell' = true) : Calls Try.prog 38 #[pv] w fun e w' => e = .returned (.func (.func 53) #[] #[.pointer (some ⟨w.heap.size, 0, none⟩)]) ∧ w' = w.alloc (.cells #[pv] 59) := by
  go_enter Try.func38, Try.ntmps38
  go_wp2
  go_ret
  exact ⟨rfl, rfl⟩

end Go.Proofs.Ytcogiklnegpfiaa
