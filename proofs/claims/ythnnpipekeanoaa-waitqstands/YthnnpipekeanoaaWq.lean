/- Layer 11: the document's Put: its end. -/
import Derived.Test.YthnnpipekeanoaaWo
namespace Go.Proofs.Ythnnpipekeanoaa
open Go.RowKit

variable {w : World} {B b : Nat} {av ov : Value} {l : List Wt}

theorem nfInt : (Try.prog.info? 3).map (fun i => (i.zero, i.size, i.bytes)) = some (some (.int .i64 0), 1, 8) := by kernel_rfl
theorem blk_ne {W : World} {a b : Nat} {cs cs' : Array Value} {T T' : TypeId} {r r' : Nat × Nat} (h : W.heap[a]? = some (.cells cs T r)) (h' : W.heap[b]? = some (.cells cs' T' r')) (hne : T ≠ T') : a ≠ b := fun e => by
  subst e
  rw [h] at h'
  injection h' with h'
  injection h' with _ h' _
  exact hne h'

set_option maxRecDepth 100000 in
set_option maxHeartbeats 8000000 in
theorem rput_tail {u1 u2 u4 u5 u8 u11 u12 u14 u15 u17 u18 u19 u20 u21 u22 u23 u24 u25 u26 u27 u28 u29 u30 u31 u32 u33 u34 u35 u36 u37 u38 u39 u40 u41 u42 u43 u44 u45 u46 u47 u48 u49 u50 u51 u52 u53 u54 u55 u56 u57 u58 u59 u60 u61 u62 u63 u64 u65 u66 u67 u68 u69 u70 u71 u72 u73 u74 u75 u76 u77 u78 u79 u80 u81 u82 u83 u84 u85 u86 u87 u88 u89 u90 u91 u92 u93 u94 u95 u96 u97 u98 u99 u100 u101 u102 u103 u104 u105 u106 u107 u108 u109 u110 u111 u112 u113 u114 u115 u116 u117 u118 u119 u120 u121 u122 u123 u124 u125 u126 u127 u128 u129 u130 u131 u132 u133 u134 u135 u136 u137 u138 u139 u140 u141 u142 u143 u144 u145 u146 u147 u148 u149 u150 u151 u152 u153 u154 u155 u156 u157 u158 u159 u160 u161 u162 u163 u164 u165 u166 u167 u168 : Value} {W : World} (h : DB W B b av ov l) (hl : l.length ≤ 100000) (hB : B ≤ W.heap.size) {A0 A1 A2 A3 : Nat} {S G ws wg rs rg rd ar vn vs vg : Int} (hS : 0 ≤ S ∧ S ≤ 4294967295) (hG : 0 ≤ G ∧ G ≤ 4294967295) (n0 : W.heap[A0]? = some (.cells #[.int .u32 rs, .int .u32 rg, .int .i64 rd] 44 (0, 0))) (n1 : W.heap[A1]? = some (.cells #[.int .u32 ws, .int .u32 wg] 41 (0, 0))) (n2 : W.heap[A2]? = some (.cells #[.int .i64 vn, .int .u32 vs, .int .u32 vg] 46 (0, 0))) (n3 : W.heap[A3]? = some (.cells #[.int .u32 0, .int .u32 0] 41 (0, 0)))
    {Q : Exit → Act → World → Prop} (fin : ∀ (tm : Array Value) (W' : World) (av' ov' : Value), tm[10]?.getD undef = .pointer (some ⟨A3, 0, none⟩) → tm[11]?.getD undef = .int .i64 0 → W'.cell? ⟨A3, 0, none⟩ = some (.int .u32 S) → W'.cell? ⟨A3, 1, none⟩ = some (.int .u32 G) → DB W' B b av' ov' (l ++ [⟨⟨S, G, ws, wg, rs, rg, rd, ar, vn, vs, vg⟩, false⟩]) → Ch (fun y => y = b ∨ av.ownBlock = some y ∨ ov.ownBlock = some y ∨ y = A3) W W' → (∀ x, av'.ownBlock = some x → av.ownBlock = some x ∨ W.heap.size ≤ x) → (∀ x, ov'.ownBlock = some x → ov.ownBlock = some x ∨ W.heap.size ≤ x) → Q .ret { tmps := tm, defers := [] } W') :
    (rest5 (rest4 (Try.f23.body.getD .skip))).wp Try.prog Q { tmps := List.toArray ((.pointer (some ⟨b, 0, none⟩)) :: u1 :: u2 :: (.int .i64 ar) :: u4 :: u5 :: (.pointer (some ⟨A0, 0, none⟩)) :: (.pointer (some ⟨A1, 0, none⟩)) :: u8 :: (.pointer (some ⟨A2, 0, none⟩)) :: (.pointer (some ⟨A3, 0, none⟩)) :: u11 :: u12 :: (.int .i64 S) :: u14 :: u15 :: (.int .i64 G) :: u17 :: u18 :: u19 :: u20 :: u21 :: u22 :: u23 :: u24 :: u25 :: u26 :: u27 :: u28 :: u29 :: u30 :: u31 :: u32 :: u33 :: u34 :: u35 :: u36 :: u37 :: u38 :: u39 :: u40 :: u41 :: u42 :: u43 :: u44 :: u45 :: u46 :: u47 :: u48 :: u49 :: u50 :: u51 :: u52 :: u53 :: u54 :: u55 :: u56 :: u57 :: u58 :: u59 :: u60 :: u61 :: u62 :: u63 :: u64 :: u65 :: u66 :: u67 :: u68 :: u69 :: u70 :: u71 :: u72 :: u73 :: u74 :: u75 :: u76 :: u77 :: u78 :: u79 :: u80 :: u81 :: u82 :: u83 :: u84 :: u85 :: u86 :: u87 :: u88 :: u89 :: u90 :: u91 :: u92 :: u93 :: u94 :: u95 :: u96 :: u97 :: u98 :: u99 :: u100 :: u101 :: u102 :: u103 :: u104 :: u105 :: u106 :: u107 :: u108 :: u109 :: u110 :: u111 :: u112 :: u113 :: u114 :: u115 :: u116 :: u117 :: u118 :: u119 :: u120 :: u121 :: u122 :: u123 :: u124 :: u125 :: u126 :: u127 :: u128 :: u129 :: u130 :: u131 :: u132 :: u133 :: u134 :: u135 :: u136 :: u137 :: u138 :: u139 :: u140 :: u141 :: u142 :: u143 :: u144 :: u145 :: u146 :: u147 :: u148 :: u149 :: u150 :: u151 :: u152 :: u153 :: u154 :: u155 :: u156 :: u157 :: u158 :: u159 :: u160 :: u161 :: u162 :: u163 :: u164 :: u165 :: u166 :: u167 :: u168 :: []), defers := [] } W := by
  obtain ⟨i1, hi1, hz1, hz2, hz3⟩ := nf_open nfInt
  have w1 : IntKind.u32.wrap S = S := by rw [IntKind.wrap_u32]; omega
  have w2 : IntKind.u32.wrap G = G := by rw [IntKind.wrap_u32]; omega
  obtain ⟨W2, hW2⟩ : ∃ W2, W.alloc (.cells #[.int .u32 S, .int .u32 G] 41) = W2 := ⟨_, rfl⟩
  have c2 : Ch (fun _ => False) W W2 := by rw [← hW2]; exact Ch.alloc _ _
  have s2 : W2.heap.size = W.heap.size + 1 := by rw [← hW2]; simp
  have H2 := hide (h.ch c2 (fun h => h) (fun _ _ h => h) (fun _ _ h => h))
  have m0 := hide (c2.box n0 (fun h => h))
  have m1 := hide (c2.box n1 (fun h => h))
  have m2 := hide (c2.box n2 (fun h => h))
  have m3 := hide (c2.box n3 (fun h => h))
  have m4 := hide (show W2.heap[W.heap.size]? = some (.cells #[.int .u32 S, .int .u32 G] 41 (0, 0)) by rw [← hW2]; exact heap_new _ _)
  have HW2 := hide hW2
  have C2 := hide c2
  have FIN := hide fin
  have hA3 := (Array.getElem?_eq_some_iff.1 n3).1
  have hbW := h.lt
  have HO := hide (fun x hx => (own_in h.all (g := x) hx).2.1)
  have HO' := hide (fun x hx => (own_in h.ov (g := x) hx).2.1)
  clear fin n0 n1 n2 n3 c2 hW2 hS hG h
  dsimp only [rest5, rest4, Try.f23, Option.getD]
  go_wp2
  rw [HW2.out]
  refine wp_then (rput_r26 H2.out hl (by omega) m0.out m1.out m2.out m4.out ?_)
  intro av' W3 hb3 hr3 ho3 hc3 hown3
  intros
  have y1 : W3.cell? ⟨b, 1, none⟩ = some ov := by simp [Lib.cell_of_heap hb3]
  have nq : ∀ {x : Nat} {cs : Array Value}, W2.heap[x]? = some (.cells cs 41 (0, 0)) → ¬ (x = b ∨ av.ownBlock = some x) := fun hx e => by
    rcases e with rfl | e
    · exact blk_ne hx H2.out.box (by decide) rfl
    · exact own_box H2.out.all hx (by decide) e
  have k4 := hide (hc3.box m4.out (nq m4.out))
  have k3 := hide (hc3.box m3.out (nq m3.out))
  have HR3 := hide hr3
  have HO3 := hide ho3
  have HB3 := hide hb3
  have HC3 := hide hc3
  have HW3 := hide hown3
  have hs3 := hc3.size
  have HOW := hide (show (W3.alloc (.cells #[.int .i64 0] 3)).ownsRow B 3 1 ov l.length ((l.map Wt.o).flatMap ovF) by have := World.ownsRow.alloc ho3 (.cells #[.int .i64 0] 3); rw [List.length_map] at this; exact this)
  have HN1 := hide (row_new W3 (ovF false) 3 rfl)
  have HM1 := hide (show l.length + 1 ≤ maxLen by unfold maxLen; omega)
  have HM2 := hide (show (l.length + 1) * 8 ≤ 140737488355328 by omega)
  have HM3 := hide (show B ≤ (W3.alloc (.cells #[.int .i64 0] 3)).heap.size by simp; omega)
  have HON := hide (show ∀ u ∈ ovF false, u.oneCell' = true by simp [ovF, Value.oneCell'])
  clear hb3 hr3 ho3 hc3 hown3 nq
  go_wp2_with (at_builtin; refine wpList_append_own_at _ rfl _ _ 29 rfl B 3 i1 (.int .i64 0) 1 8 Try.underlying29 hi1 hz1 hz2 hz3 rfl (by decide) _ l.length ((l.map Wt.o).flatMap ovF) rfl HOW.out ⟨W3.heap.size, 0, none⟩ 1 1 (ovF false) rfl rfl HN1.out HON.out HM1.out HM2.out HM3.out ?_)
  intro ov' w5 hown5 hgrow5 _ hat5
  have C5 := hide ((Ch.alloc (Q := fun y => ov.ownBlock = some y) W3 (.cells #[.int .i64 0] 3)).trans (Ch.of_grown (Q := fun y => ov.ownBlock = some y) hgrow5 (fun _ e => e)) (fun _ _ h => h))
  have R5 := hide (show OvRow w5 B ov' (l.map Wt.o ++ [false]) from Row.snoc (by rw [List.length_map]; exact hown5))
  obtain ⟨a5, n5, c5, e5⟩ := own_form hown5
  subst e5
  have HA5 := hide hat5
  have b5 := C5.out.box HB3.out (fun e => own_box HO3.out HB3.out (by decide) e)
  have r4 := C5.out.box k4.out (fun e => own_box HO3.out k4.out (by decide) e)
  have r3 := C5.out.box k3.out (fun e => own_box HO3.out k3.out (by decide) e)
  have AL5 := hide (HR3.out.ch C5.out (fun x hx e => own_ne HO3.out HR3.out (by decide) x e hx))
  have y5 : w5.cell? ⟨b, 1, none⟩ = some ov := by simp [Lib.cell_of_heap b5]
  have f5 : w5.frozen? ⟨b, 1, none⟩ = false := by simp [World.frozen?, b5]
  have n4 : W.heap.size ≠ b := by omega
  have n3 : A3 ≠ b := fun e => by subst e; exact blk_ne k3.out HB3.out (by decide) rfl
  have n34 : A3 ≠ W.heap.size := by omega
  have z0 : w5.cell? ⟨W.heap.size, 0, none⟩ = some (.int .u32 S) := by simp [Lib.cell_of_heap r4]
  have z1 : w5.cell? ⟨W.heap.size, 1, none⟩ = some (.int .u32 G) := by simp [Lib.cell_of_heap r4]
  have x0 : w5.cell? ⟨A3, 0, none⟩ = some (.int .u32 0) := by simp [Lib.cell_of_heap r3]
  have x1 : w5.cell? ⟨A3, 1, none⟩ = some (.int .u32 0) := by simp [Lib.cell_of_heap r3]
  have xf : ∀ o, w5.frozen? ⟨A3, o, none⟩ = false := by simp [World.frozen?, r3]
  have B5 := hide b5
  have S3 := hide r3
  clear hown5 hgrow5 hat5 b5 r4 r3
  go_wp2
  have c6 := (Ch.set (Q := fun y => y = b) w5 rfl 1 (.slice a5 n5 c5))
  have c7 := (Ch.set (Q := fun y => y = A3) (w5.setCell ⟨b, 1, none⟩ (.slice a5 n5 c5)) rfl 0 (.int .u32 S)).trans (Ch.set (Q := fun y => y = A3) _ rfl 1 (.int .u32 G)) (fun _ _ h => h)
  have b6 : (w5.setCell ⟨b, 1, none⟩ (.slice a5 n5 c5)).heap[b]? = some (.cells #[av', .slice a5 n5 c5] 31 (0, 0)) := by rw [heap_set B5.out 1 _]; rfl
  have al6 := AL5.out.ch c6 (fun x hx e => by subst e; exact own_box AL5.out B5.out (by decide) hx)
  have ov6 := R5.out.ch c6 (fun x hx e => by subst e; exact own_box R5.out B5.out (by decide) hx)
  have s6 := c6.box S3.out n3
  refine FIN.out _ _ av' (.slice a5 n5 c5) rfl rfl ?_ ?_ ⟨c7.box b6 (fun e => n3 e.symm), ?_, ?_⟩ ?_ (fun x hx => (HW3.out x hx).imp id (fun e => by omega)) (fun x hx => HA5.out.elim (fun e => Or.inl (e.symm.trans hx)) (fun e => Or.inr (by rw [e] at hx; injection hx with hx; have s9 := World.size_alloc W3 (.cells #[.int .i64 0] 3); omega)))
  · simp [go_sem, x0]
  · simp [go_sem, x1]
  · rw [List.map_append]
    exact al6.ch c7 (fun x hx e => by subst e; exact own_box al6 s6 (by decide) hx)
  · rw [List.map_append]
    exact ov6.ch c7 (fun x hx e => by subst e; exact own_box ov6 s6 (by decide) hx)
  · have t1 : Ch (fun y => y = b ∨ av.ownBlock = some y ∨ ov.ownBlock = some y ∨ y = A3) W W3 := (C2.out.mono (fun _ _ h => h.elim)).trans HC3.out (fun _ _ h => h.elim Or.inl (fun e => Or.inr (Or.inl e)))
    have t2 := t1.trans C5.out (fun _ _ h => Or.inr (Or.inr (Or.inl h)))
    have t3 := t2.trans c6 (fun _ _ h => Or.inl h)
    exact t3.trans c7 (fun _ _ h => Or.inr (Or.inr (Or.inr h)))

end Go.Proofs.Ythnnpipekeanoaa
