/- Layer 14: all who wait at a side are woken. An append of nothing. Layer 14: a channel is closed. Layer 14: Close, told in one word. -/
import Derived.Test.YtbblmbbpicinlaaYx
namespace Go.Proofs.Ytbblmbbpicinlaa
open Go.RowKit

/-- all of a row are woken, the first one left each time -/
inductive WA (q : Wt → Bool) (v : Va) (ok : Bool) (f : Int) : List Wt → List Wk → List Wt → Prop
  | nil {l : List Wt} : sel q l = [] → WA q v ok f l [] l
  | cons {l : List Wt} {r : Rc} {rest : List Rc} {ws : List Wk} {l' : List Wt} : sel q l = r :: rest → WA q v ok f (leaW l r.ws r.wg) ws l' → WA q v ok f l (⟨r.ws, r.wg, r.ar, v, ok, f⟩ :: ws) l'
theorem WA.unique {q : Wt → Bool} {v : Va} {ok : Bool} {f : Int} {l : List Wt} {ws : List Wk} {l' : List Wt} (h : WA q v ok f l ws l') : ∀ {ws2 : List Wk} {l2 : List Wt}, WA q v ok f l ws2 l2 → ws2 = ws ∧ l2 = l' := by
  induction h with
  | nil h =>
    intro ws2 l2 h2
    cases h2 with
    | nil _ => exact ⟨rfl, rfl⟩
    | cons h3 _ => rw [h] at h3; cases h3
  | cons h _ ih =>
    intro ws2 l2 h2
    cases h2 with
    | nil h3 => rw [h] at h3; cases h3
    | cons h3 h4 =>
      rw [h] at h3
      injection h3 with e1 e2
      subst e1
      obtain ⟨e3, e4⟩ := ih h4
      exact ⟨by rw [e3], e4⟩
theorem WA.left {q : Wt → Bool} {v : Va} {ok : Bool} {f : Int} {l : List Wt} {ws : List Wk} {l' : List Wt} (h : WA q v ok f l ws l') : sel q l' = [] ∧ l'.length = l.length ∧ (WtOk l → WtOk l') := by
  induction h with
  | nil h => exact ⟨h, rfl, id⟩
  | cons _ _ ih => exact ⟨ih.1, by rw [ih.2.1, leaW_len], fun h => ih.2.2 (h.lea _ _)⟩
theorem filter_map_over {l : List Wt} {q : Wt → Bool} (ho : ∀ t, q (over t) = false) (p : Wt → Bool) : ((l.map fun t => if p t then over t else t).filter q).length = (l.filter fun t => q t && !p t).length := by
  induction l with
  | nil => rfl
  | cons t l ih =>
    rw [List.map_cons, List.filter_cons, List.filter_cons]
    by_cases hp : p t = true
    · rw [if_pos hp, ho, hp]
      simpa using ih
    · have hp : p t = false := by simpa using hp
      rw [hp]
      simp only [Bool.false_eq_true, if_false, Bool.not_false, Bool.and_true]
      split
      · rw [List.length_cons, List.length_cons, ih]
      · rw [ih]
theorem sel_lea_lt {l : List Wt} {s g d : Int} {r : Rc} {rest : List Rc} (h : sel (inRow s g d) l = r :: rest) : (sel (inRow s g d) (leaW l r.ws r.wg)).length < (sel (inRow s g d) l).length := by
  unfold sel leaW
  rw [List.length_map, List.length_map, filter_map_over (fun t => by simp [inRow, over])]
  have hm : r ∈ sel (inRow s g d) l := by rw [h]; exact List.mem_cons_self ..
  unfold sel at hm
  obtain ⟨t, ht, rfl⟩ := List.mem_map.1 hm
  obtain ⟨ht, hq⟩ := List.mem_filter.1 ht
  have hw : isWho t.r.ws t.r.wg t = true := by
    have : t.o = false := by
      unfold inRow at hq
      simp only [Bool.and_eq_true, Bool.not_eq_true'] at hq
      exact hq.1
    simp [isWho, this]
  rw [show (l.filter fun u => inRow s g d u && !isWho t.r.ws t.r.wg u) = (l.filter (inRow s g d)).filter (fun u => !isWho t.r.ws t.r.wg u) by rw [List.filter_filter]; apply List.filter_congr; intro u _; rw [Bool.and_comm]]
  exact List.length_filter_lt_length_iff_exists.2 ⟨t, List.mem_filter.2 ⟨ht, hq⟩, by simp [hw]⟩

theorem nfWk : (Try.prog.info? 119).map (fun i => (i.zero, i.size, i.bytes)) = some (some (wkV 0 0 0 zVa false 0), 8, 48) := by kernel_rfl
theorem rc_set {w : World} {A : Nat} {x : Rc} (hn : w.heap[A]? = some (.cells #[.int .u32 x.ms, .int .u32 x.mg, .int .u32 x.ws, .int .u32 x.wg, .int .u32 x.rs, .int .u32 x.rg, .int .i64 x.rd, .int .i64 x.ar, .int .i64 x.vn, .int .u32 x.vs, .int .u32 x.vg] 136 (0, 0))) (r : Rc) : ((((((((((((w.setCell ⟨A, 0, none⟩ (.int .u32 r.ms)).setCell ⟨A, 1, none⟩ (.int .u32 r.mg)).setCell ⟨A, 2, none⟩ (.int .u32 r.ws)).setCell ⟨A, 3, none⟩ (.int .u32 r.wg)).setCell ⟨A, 4, none⟩ (.int .u32 r.rs)).setCell ⟨A, 5, none⟩ (.int .u32 r.rg)).setCell ⟨A, 6, none⟩ (.int .i64 r.rd)).setCell ⟨A, 7, none⟩ (.int .i64 r.ar)).setCell ⟨A, 8, none⟩ (.int .i64 r.vn)).setCell ⟨A, 9, none⟩ (.int .u32 r.vs)).setCell ⟨A, 10, none⟩ (.int .u32 r.vg))).heap[A]? = some (.cells #[.int .u32 r.ms, .int .u32 r.mg, .int .u32 r.ws, .int .u32 r.wg, .int .u32 r.rs, .int .u32 r.rg, .int .i64 r.rd, .int .i64 r.ar, .int .i64 r.vn, .int .u32 r.vs, .int .u32 r.vg] 136 (0, 0)) ∧ Ch (fun y => y = A) w (((((((((((w.setCell ⟨A, 0, none⟩ (.int .u32 r.ms)).setCell ⟨A, 1, none⟩ (.int .u32 r.mg)).setCell ⟨A, 2, none⟩ (.int .u32 r.ws)).setCell ⟨A, 3, none⟩ (.int .u32 r.wg)).setCell ⟨A, 4, none⟩ (.int .u32 r.rs)).setCell ⟨A, 5, none⟩ (.int .u32 r.rg)).setCell ⟨A, 6, none⟩ (.int .i64 r.rd)).setCell ⟨A, 7, none⟩ (.int .i64 r.ar)).setCell ⟨A, 8, none⟩ (.int .i64 r.vn)).setCell ⟨A, 9, none⟩ (.int .u32 r.vs)).setCell ⟨A, 10, none⟩ (.int .u32 r.vg)) :=
  ⟨set_all [.int .u32 r.ms, .int .u32 r.mg, .int .u32 r.ws, .int .u32 r.wg, .int .u32 r.rs, .int .u32 r.rg, .int .i64 r.rd, .int .i64 r.ar, .int .i64 r.vn, .int .u32 r.vs, .int .u32 r.vg] [] [.int .u32 x.ms, .int .u32 x.mg, .int .u32 x.ws, .int .u32 x.wg, .int .u32 x.rs, .int .u32 x.rg, .int .i64 x.rd, .int .i64 x.ar, .int .i64 x.vn, .int .u32 x.vs, .int .u32 x.vg] w rfl hn, wrsA w A [.int .u32 r.ms, .int .u32 r.mg, .int .u32 r.ws, .int .u32 r.wg, .int .u32 r.rs, .int .u32 r.rg, .int .i64 r.rd, .int .i64 r.ar, .int .i64 r.vn, .int .u32 r.vs, .int .u32 r.vg]⟩

set_option maxRecDepth 100000 in
set_option maxHeartbeats 16000000 in
theorem wakeAll_is {w : World} {B bp : Nat} {F : Nat → Prop} {l : List Wt} (h : PTb w B F bp l) (hl : l.length ≤ 100000) (wo : WtOk l) {s g d : Int} (us : UsW s) (ug : UsW g) (id : I64 d) {ga fa : Int} {v : Va} {ok : Bool} :
    Calls Try.prog 106 #[plV bp s g, .int .i64 d, gotV ga v ok fa] w fun e w' => ∃ sv F' ws l', e = .returned sv ∧ WA (inRow s g d) v ok fa l ws l' ∧ PTb w' B F' bp l' ∧ WkRow w' w.heap.size sv ws ∧ Ch F w w' ∧ ∀ y, F' y → F y ∨ w.heap.size ≤ y := by
  obtain ⟨i0, hi0, hz0, hz1, hz2⟩ := nf_open nfWk
  obtain ⟨w1, hw1⟩ : ∃ z, w.alloc (.cells #[.pointer (some ⟨bp, 0, none⟩), .int .u32 s, .int .u32 g] 145) = z := ⟨_, rfl⟩
  obtain ⟨w2, hw2⟩ : ∃ z, w1.alloc (.cells #[.int .i64 ga, .int .i64 v.n, .int .u32 v.s, .int .u32 v.g, .bool ok, .int .i64 fa] 117) = z := ⟨_, rfl⟩
  have z1 : w1.heap.size = w.heap.size + 1 := by rw [← hw1, World.size_alloc]
  have z2 : w2.heap.size = w1.heap.size + 1 := by rw [← hw2, World.size_alloc]
  have c1 : Ch (fun _ => False) w w1 := by rw [← hw1]; exact Ch.alloc _ _
  have c2 : Ch (fun _ => False) w1 w2 := by rw [← hw2]; exact Ch.alloc _ _
  have n1 : w2.heap[w.heap.size]? = some (.cells #[.pointer (some ⟨bp, 0, none⟩), .int .u32 s, .int .u32 g] 145 (0, 0)) := c2.box (by rw [← hw1]; exact heap_new _ _) (fun h => h)
  have n2 : w2.heap[w1.heap.size]? = some (.cells #[.int .i64 ga, .int .i64 v.n, .int .u32 v.s, .int .u32 v.g, .bool ok, .int .i64 fa] 117 (0, 0)) := by rw [← hw2]; exact heap_new _ _
  have HZ := hide (And.intro z1 z2)
  have C2 := hide (c1.trans c2 (fun _ _ h => h))
  have HN := hide (And.intro n1 n2)
  have HP := hide (face.ch h C2.out (fun _ _ h => h))
  have HF := hide (show ∀ y, F y → y < w.heap.size from fun y hy => (face.foot h y hy).2)
  have p0 : w2.cell? ⟨w.heap.size, 0, none⟩ = some (.pointer (some ⟨bp, 0, none⟩)) := by simp [Lib.cell_of_heap n1]
  have p1 : w2.cell? ⟨w.heap.size, 1, none⟩ = some (.int .u32 s) := by simp [Lib.cell_of_heap n1]
  have p2 : w2.cell? ⟨w.heap.size, 2, none⟩ = some (.int .u32 g) := by simp [Lib.cell_of_heap n1]
  clear h z1 z2 c1 c2 n1 n2
  go_enter Try.func106, Try.ntmps106
  go_wp2_with fail
  clear hw1 hw2 p0 p1 p2
  refine (pfirst_is HP.out hl us ug id).mono ?_
  rintro e w3 ⟨rfl, hb3⟩
  have c23 := Ch.of_below (Q := fun _ => False) hb3
  have HP3 := hide (face.ch HP.out c23 (fun _ _ h => h))
  have HN3 := hide (And.intro (c23.box HN.out.1 (fun h => h)) (c23.box HN.out.2 (fun h => h)))
  have C3 := hide (C2.out.trans c23 (fun _ _ h => h))
  have S23 := hide hb3.size
  clear hb3 c23
  obtain ⟨r0, hr0⟩ : ∃ z, (sel (inRow s g d) l).headD zRc = z := ⟨_, rfl⟩
  rw [hr0]
  obtain ⟨w4, hw4⟩ : ∃ z, w3.alloc (.cells #[.int .u32 r0.ms, .int .u32 r0.mg, .int .u32 r0.ws, .int .u32 r0.wg, .int .u32 r0.rs, .int .u32 r0.rg, .int .i64 r0.rd, .int .i64 r0.ar, .int .i64 r0.vn, .int .u32 r0.vs, .int .u32 r0.vg] 136) = z := ⟨_, rfl⟩
  have c34 : Ch (fun _ => False) w3 w4 := by rw [← hw4]; exact Ch.alloc _ _
  have H4 := hide (And.intro (show w4.heap[w3.heap.size]? = some (.cells #[.int .u32 r0.ms, .int .u32 r0.mg, .int .u32 r0.ws, .int .u32 r0.wg, .int .u32 r0.rs, .int .u32 r0.rg, .int .i64 r0.rd, .int .i64 r0.ar, .int .i64 r0.vn, .int .u32 r0.vs, .int .u32 r0.vg] 136 (0, 0)) by rw [← hw4]; exact heap_new _ _) c34)
  have HW4 := hide hw4
  have HR0 := hide hr0
  clear hr0 c34 hw4
  go_wp2_with fail
  try rw [HW4.out]
  go_loopw [7, 8, 9] (fun t bv qv wr => ∃ (b8 : Nat) (l1 : List Wt), bv = .pointer (some ⟨b8, 0, none⟩) ∧ qv = .bool (!(sel (inRow s g d) l1).isEmpty) ∧ Hid ((∃ acc, WkRow wr w3.heap.size t acc ∧ (∀ ws l', WA (inRow s g d) v ok fa l1 ws l' → WA (inRow s g d) v ok fa l (acc ++ ws) l') ∧ acc.length + (sel (inRow s g d) l1).length ≤ (sel (inRow s g d) l).length) ∧ (∃ F1, PTb wr B F1 bp l1 ∧ ∀ y, F1 y → F y ∨ w3.heap.size ≤ y) ∧ (∀ r, (sel (inRow s g d) l1).headD zRc = r → wr.heap[b8]? = some (.cells #[.int .u32 r.ms, .int .u32 r.mg, .int .u32 r.ws, .int .u32 r.wg, .int .u32 r.rs, .int .u32 r.rg, .int .i64 r.rd, .int .i64 r.ar, .int .i64 r.vn, .int .u32 r.vs, .int .u32 r.vg] 136 (0, 0))) ∧ w3.heap.size ≤ b8 ∧ l1.length = l.length ∧ WtOk l1 ∧ Ch F w3 wr)) (fun t _ _ _ => (sel (inRow s g d) l).length - lenV t)
  case atStart =>
    refine ⟨w3.heap.size, l, rfl, rfl, hide ⟨⟨[], Row.nil _ _, fun _ _ h => h, by simp⟩, ⟨F, face.ch HP3.out H4.out.2 (fun _ _ h => h), fun y hy => .inl hy⟩, fun r hr => ?_, Nat.le_refl _, rfl, wo, H4.out.2.mono (fun _ _ h => h.elim)⟩⟩
    rw [← hr, HR0.out]
    exact H4.out.1
  case round =>
    obtain ⟨b8, l1, rfl, rfl, HI⟩ := hrel
    obtain ⟨W0, rfl⟩ : ∃ x, x = wr := ⟨_, rfl⟩
    obtain ⟨t0, et⟩ : ∃ u, u = u7 := ⟨_, rfl⟩
    subst et
    obtain ⟨⟨acc, hrow, hwa, hlen⟩, ⟨F1, hpt, hf1⟩, hbox, hb8, hll, wo1, hch⟩ := HI.out
    cases hq : sel (inRow s g d) l1 with
    | nil =>
      have hall := hwa [] l1 (WA.nil hq)
      rw [List.append_nil] at hall
      have HA := hide hall
      have HRW := hide hrow
      have HPT := hide (And.intro hpt hf1)
      have HCH := hide hch
      rw [show (!([] : List Rc).isEmpty) = false from rfl]
      clear hall hrow hpt hf1 hch hbox hwa hlen hq HI wo1 hll hb8
      go_wp2_with fail
      go_ret
      have s3 := C3.out.size
      exact ⟨_, F1, acc, l1, rfl, HA.out, HPT.out.1, rowLow HRW.out s3, (C3.out.mono (Q' := F) (fun _ _ h => h.elim)).trans HCH.out (fun _ _ h => h), fun y hy => (HPT.out.2 y hy).imp_right fun e => by omega⟩
    | cons r rest =>
      have ok1 := wo1.sel (inRow s g d) (r := r) (by rw [hq]; exact List.mem_cons_self ..)
      have hb := hbox r (by rw [hq]; rfl)
      have hlt := sel_lea_lt hq
      rw [hq] at hlen hlt
      have NF := hide (show (¬ F w.heap.size ∧ ¬ F w1.heap.size) ∧ ¬ F1 w.heap.size ∧ ¬ F1 w1.heap.size ∧ ¬ F1 b8 from by
        have h1 := HF.out w.heap.size
        have h2 := HF.out w1.heap.size
        have h3 := HZ.out
        have h4 := S23.out
        refine ⟨⟨fun e => by have := h1 e; omega, fun e => by have := h2 e; omega⟩, fun e => ?_, fun e => ?_, hpt.nbk hb (by decide) (by decide)⟩
        · rcases hf1 _ e with e | e
          · have := h1 e; omega
          · omega
        · rcases hf1 _ e with e | e
          · have := h2 e; omega
          · omega)
      have HN0 := hide (And.intro (hch.box HN3.out.1 NF.out.1.1) (hch.box HN3.out.2 NF.out.1.2))
      have HB8 := hide hb
      have HPT := hide hpt
      have HF1 := hide hf1
      have HROW := hide hrow
      have HWA := hide hwa
      have HLEN := hide (And.intro hlen hlt)
      have HQ := hide hq
      have HCH := hide hch
      have HL1 := hide (And.intro hll wo1)
      have OK1 := hide ok1
      rw [show (!(r :: rest).isEmpty) = true from rfl]
      have p0 : W0.cell? ⟨w.heap.size, 0, none⟩ = some (.pointer (some ⟨bp, 0, none⟩)) := by simp [Lib.cell_of_heap HN0.out.1]
      have p1 : W0.cell? ⟨w.heap.size, 1, none⟩ = some (.int .u32 s) := by simp [Lib.cell_of_heap HN0.out.1]
      have p2 : W0.cell? ⟨w.heap.size, 2, none⟩ = some (.int .u32 g) := by simp [Lib.cell_of_heap HN0.out.1]
      have q0 : W0.cell? ⟨w1.heap.size, 0, none⟩ = some (.int .i64 ga) := by simp [Lib.cell_of_heap HN0.out.2]
      have q1 : W0.cell? ⟨w1.heap.size, 1, none⟩ = some (.int .i64 v.n) := by simp [Lib.cell_of_heap HN0.out.2]
      have q2 : W0.cell? ⟨w1.heap.size, 2, none⟩ = some (.int .u32 v.s) := by simp [Lib.cell_of_heap HN0.out.2]
      have q3 : W0.cell? ⟨w1.heap.size, 3, none⟩ = some (.int .u32 v.g) := by simp [Lib.cell_of_heap HN0.out.2]
      have q4 : W0.cell? ⟨w1.heap.size, 4, none⟩ = some (.bool ok) := by simp [Lib.cell_of_heap HN0.out.2]
      have q5 : W0.cell? ⟨w1.heap.size, 5, none⟩ = some (.int .i64 fa) := by simp [Lib.cell_of_heap HN0.out.2]
      have x0 : W0.cell? ⟨b8, 0, none⟩ = some (.int .u32 r.ms) := by simp [Lib.cell_of_heap HB8.out]
      have x1 : W0.cell? ⟨b8, 1, none⟩ = some (.int .u32 r.mg) := by simp [Lib.cell_of_heap HB8.out]
      have x2 : W0.cell? ⟨b8, 2, none⟩ = some (.int .u32 r.ws) := by simp [Lib.cell_of_heap HB8.out]
      have x3 : W0.cell? ⟨b8, 3, none⟩ = some (.int .u32 r.wg) := by simp [Lib.cell_of_heap HB8.out]
      have x4 : W0.cell? ⟨b8, 4, none⟩ = some (.int .u32 r.rs) := by simp [Lib.cell_of_heap HB8.out]
      have x5 : W0.cell? ⟨b8, 5, none⟩ = some (.int .u32 r.rg) := by simp [Lib.cell_of_heap HB8.out]
      have x6 : W0.cell? ⟨b8, 6, none⟩ = some (.int .i64 r.rd) := by simp [Lib.cell_of_heap HB8.out]
      have x7 : W0.cell? ⟨b8, 7, none⟩ = some (.int .i64 r.ar) := by simp [Lib.cell_of_heap HB8.out]
      have x8 : W0.cell? ⟨b8, 8, none⟩ = some (.int .i64 r.vn) := by simp [Lib.cell_of_heap HB8.out]
      have x9 : W0.cell? ⟨b8, 9, none⟩ = some (.int .u32 r.vs) := by simp [Lib.cell_of_heap HB8.out]
      have x10 : W0.cell? ⟨b8, 10, none⟩ = some (.int .u32 r.vg) := by simp [Lib.cell_of_heap HB8.out]
      clear hbox hb8 hll wo1 hch hrow hwa hlen hlt hq hpt hf1 hb ok1 HI
      go_wp2_with fail
      clear p0 p1 p2 q0 q1 q2 q3 q4 q5 x0 x1 x2 x3 x4 x5 x6 x7 x8 x9 x10
      refine (wake_is (s := s) (g := g) (r := r) (ga := ga) (fa := fa) (v := v) (ok := ok) HPT.out (by have := HL1.out.1; omega) OK1.out.w1 OK1.out.w2).mono ?_
      rintro e W1 ⟨rfl, F2, hp2, hc2, hd2⟩
      have P2 := hide (And.intro hp2 hd2)
      have C1 := hide hc2
      have N1 := hide (And.intro (hc2.box HN0.out.1 NF.out.2.1) (hc2.box HN0.out.2 NF.out.2.2.1))
      have B1 := hide (hc2.box HB8.out NF.out.2.2.2)
      have R1 := hide (Row.ch HROW.out hc2 (fun b hb2 => by obtain ⟨_, _, cur, e⟩ := own_in HROW.out hb2; exact HPT.out.nbk e (by decide) (by decide)))
      clear hp2 hd2 hc2
      have HOW := hide (World.ownsRow.alloc R1.out (.cells #[.int .u32 r.ws, .int .u32 r.wg, .int .i64 r.ar, .int .i64 v.n, .int .u32 v.s, .int .u32 v.g, .bool ok, .int .i64 fa] 119))
      have HN1 := hide (row_new W1 (wkL ⟨r.ws, r.wg, r.ar, v, ok, fa⟩) 119 rfl)
      have HM0 := hide (show acc.length ≤ 100000 by have h1 := HLEN.out.1; have h2 := sel_le (inRow s g d) l; omega)
      have HM1 := hide (show acc.length + 1 ≤ maxLen by unfold maxLen; have := HM0.out; omega)
      have HM2 := hide (show (acc.length + 1) * 48 ≤ 140737488355328 by have := HM0.out; omega)
      have HM3 := hide (show w3.heap.size ≤ (W1.alloc (.cells #[.int .u32 r.ws, .int .u32 r.wg, .int .i64 r.ar, .int .i64 v.n, .int .u32 v.s, .int .u32 v.g, .bool ok, .int .i64 fa] 119)).heap.size by have h2 := HCH.out.size; have h3 := C1.out.size; simp; omega)
      go_wp2_with (at_builtin; refine wpList_append_own_at _ rfl _ _ 70 rfl w3.heap.size 119 i0 (wkV 0 0 0 zVa false 0) 8 48 Try.underlying70 hi0 hz0 hz1 hz2 rfl (by decide) _ acc.length (acc.flatMap wkL) rfl HOW.out ⟨W1.heap.size, 0, none⟩ 1 1 (wkL ⟨r.ws, r.wg, r.ar, v, ok, fa⟩) rfl rfl HN1.out (wkL_one _) HM1.out HM2.out HM3.out ?_)
      intro v5 w5 hown5 hgrow5 _ _
      have R5 := hide (show WkRow w5 w3.heap.size v5 (acc ++ [⟨r.ws, r.wg, r.ar, v, ok, fa⟩]) from Row.snoc hown5)
      have c15 := hide ((Ch.alloc (Q := fun y => t0.ownBlock = some y) W1 (.cells #[.int .u32 r.ws, .int .u32 r.wg, .int .i64 r.ar, .int .i64 v.n, .int .u32 v.s, .int .u32 v.g, .bool ok, .int .i64 fa] 119)).trans (Ch.of_grown (Q := fun y => t0.ownBlock = some y) hgrow5 (fun _ e => e)) (fun _ _ h => h))
      have hto : ∀ {b : Nat} {cs : Array Value} {T : TypeId}, W1.heap[b]? = some (.cells cs T (0, 0)) → 119 ≠ T → ¬ t0.ownBlock = some b := fun hb hT => own_box R1.out hb hT
      have N5 := hide (And.intro (c15.out.box N1.out.1 (hto N1.out.1 (by decide))) (c15.out.box N1.out.2 (hto N1.out.2 (by decide))))
      have B5 := hide (c15.out.box B1.out (hto B1.out (by decide)))
      have P5 := hide (face.ch P2.out.1 c15.out (fun y hy e => by obtain ⟨_, _, cur, e2⟩ := own_in R1.out e; exact P2.out.1.nbk e2 (by decide) (by decide) hy))
      clear hown5 hgrow5 hto
      obtain ⟨W6, hW6⟩ : ∃ z, w5.alloc (.cells #[.int .u32 r.ms, .int .u32 r.mg, .int .u32 r.ws, .int .u32 r.wg, .int .u32 r.rs, .int .u32 r.rg, .int .i64 r.rd, .int .i64 r.ar, .int .i64 r.vn, .int .u32 r.vs, .int .u32 r.vg] 136) = z := ⟨_, rfl⟩
      have c56 : Ch (fun _ => False) w5 W6 := by rw [← hW6]; exact Ch.alloc _ _
      have N6 := hide (And.intro (c56.box N5.out.1 (fun h => h)) (c56.box N5.out.2 (fun h => h)))
      have B6 := hide (show W6.heap[w5.heap.size]? = some (.cells #[.int .u32 r.ms, .int .u32 r.mg, .int .u32 r.ws, .int .u32 r.wg, .int .u32 r.rs, .int .u32 r.rg, .int .i64 r.rd, .int .i64 r.ar, .int .i64 r.vn, .int .u32 r.vs, .int .u32 r.vg] 136 (0, 0)) by rw [← hW6]; exact heap_new _ _)
      have P6 := hide (face.ch P5.out c56 (fun _ _ h => h))
      have R6 := hide (Row.ch R5.out c56 (fun _ _ h => h))
      have C56 := hide c56
      have x0 : w5.cell? ⟨b8, 0, none⟩ = some (.int .u32 r.ms) := by simp [Lib.cell_of_heap B5.out]
      have x1 : w5.cell? ⟨b8, 1, none⟩ = some (.int .u32 r.mg) := by simp [Lib.cell_of_heap B5.out]
      have x2 : w5.cell? ⟨b8, 2, none⟩ = some (.int .u32 r.ws) := by simp [Lib.cell_of_heap B5.out]
      have x3 : w5.cell? ⟨b8, 3, none⟩ = some (.int .u32 r.wg) := by simp [Lib.cell_of_heap B5.out]
      have x4 : w5.cell? ⟨b8, 4, none⟩ = some (.int .u32 r.rs) := by simp [Lib.cell_of_heap B5.out]
      have x5 : w5.cell? ⟨b8, 5, none⟩ = some (.int .u32 r.rg) := by simp [Lib.cell_of_heap B5.out]
      have x6 : w5.cell? ⟨b8, 6, none⟩ = some (.int .i64 r.rd) := by simp [Lib.cell_of_heap B5.out]
      have x7 : w5.cell? ⟨b8, 7, none⟩ = some (.int .i64 r.ar) := by simp [Lib.cell_of_heap B5.out]
      have x8 : w5.cell? ⟨b8, 8, none⟩ = some (.int .i64 r.vn) := by simp [Lib.cell_of_heap B5.out]
      have x9 : w5.cell? ⟨b8, 9, none⟩ = some (.int .u32 r.vs) := by simp [Lib.cell_of_heap B5.out]
      have x10 : w5.cell? ⟨b8, 10, none⟩ = some (.int .u32 r.vg) := by simp [Lib.cell_of_heap B5.out]
      have p0 : (w5.alloc (.cells #[.int .u32 r.ms, .int .u32 r.mg, .int .u32 r.ws, .int .u32 r.wg, .int .u32 r.rs, .int .u32 r.rg, .int .i64 r.rd, .int .i64 r.ar, .int .i64 r.vn, .int .u32 r.vs, .int .u32 r.vg] 136)).cell? ⟨w.heap.size, 0, none⟩ = some (.pointer (some ⟨bp, 0, none⟩)) := by rw [hW6]; simp [Lib.cell_of_heap N6.out.1]
      have p1 : (w5.alloc (.cells #[.int .u32 r.ms, .int .u32 r.mg, .int .u32 r.ws, .int .u32 r.wg, .int .u32 r.rs, .int .u32 r.rg, .int .i64 r.rd, .int .i64 r.ar, .int .i64 r.vn, .int .u32 r.vs, .int .u32 r.vg] 136)).cell? ⟨w.heap.size, 1, none⟩ = some (.int .u32 s) := by rw [hW6]; simp [Lib.cell_of_heap N6.out.1]
      have p2 : (w5.alloc (.cells #[.int .u32 r.ms, .int .u32 r.mg, .int .u32 r.ws, .int .u32 r.wg, .int .u32 r.rs, .int .u32 r.rg, .int .i64 r.rd, .int .i64 r.ar, .int .i64 r.vn, .int .u32 r.vs, .int .u32 r.vg] 136)).cell? ⟨w.heap.size, 2, none⟩ = some (.int .u32 g) := by rw [hW6]; simp [Lib.cell_of_heap N6.out.1]
      have HW6 := hide hW6
      clear c56 hW6
      go_wp2_with fail
      clear x0 x1 x2 x3 x4 x5 x6 x7 x8 x9 x10 p0 p1 p2
      rw [HW6.out]
      refine (pfirst_is P6.out (by rw [leaW_len]; have := HL1.out.1; omega) us ug id).mono ?_
      rintro e W7 ⟨rfl, hb7⟩
      have c67 := Ch.of_below (Q := fun _ => False) hb7
      have C67 := hide c67
      have b7 := c67.box B6.out (fun h => h)
      obtain ⟨r2, hr2⟩ : ∃ z, (sel (inRow s g d) (leaW l1 r.ws r.wg)).headD zRc = z := ⟨_, rfl⟩
      rw [hr2]
      have HR2 := hide hr2
      have x0 : W7.cell? ⟨w5.heap.size, 0, none⟩ = some (.int .u32 r.ms) := by simp [Lib.cell_of_heap b7]
      have x1 : W7.cell? ⟨w5.heap.size, 1, none⟩ = some (.int .u32 r.mg) := by simp [Lib.cell_of_heap b7]
      have x2 : W7.cell? ⟨w5.heap.size, 2, none⟩ = some (.int .u32 r.ws) := by simp [Lib.cell_of_heap b7]
      have x3 : W7.cell? ⟨w5.heap.size, 3, none⟩ = some (.int .u32 r.wg) := by simp [Lib.cell_of_heap b7]
      have x4 : W7.cell? ⟨w5.heap.size, 4, none⟩ = some (.int .u32 r.rs) := by simp [Lib.cell_of_heap b7]
      have x5 : W7.cell? ⟨w5.heap.size, 5, none⟩ = some (.int .u32 r.rg) := by simp [Lib.cell_of_heap b7]
      have x6 : W7.cell? ⟨w5.heap.size, 6, none⟩ = some (.int .i64 r.rd) := by simp [Lib.cell_of_heap b7]
      have x7 : W7.cell? ⟨w5.heap.size, 7, none⟩ = some (.int .i64 r.ar) := by simp [Lib.cell_of_heap b7]
      have x8 : W7.cell? ⟨w5.heap.size, 8, none⟩ = some (.int .i64 r.vn) := by simp [Lib.cell_of_heap b7]
      have x9 : W7.cell? ⟨w5.heap.size, 9, none⟩ = some (.int .u32 r.vs) := by simp [Lib.cell_of_heap b7]
      have x10 : W7.cell? ⟨w5.heap.size, 10, none⟩ = some (.int .u32 r.vg) := by simp [Lib.cell_of_heap b7]
      have xf : ∀ j, W7.frozen? ⟨w5.heap.size, j, none⟩ = false := frz b7
      have HS := hide (rc_set b7 r2)
      clear hr2 hb7 c67 b7
      have R7 := hide (Row.ch (Row.ch R6.out C67.out (fun _ _ h => h)) HS.out.2 (fun b hb e => by obtain ⟨_, _, cur, e2⟩ := own_in (Row.ch R6.out C67.out (fun _ _ h => h)) hb; have e3 := C67.out.box B6.out (fun h => h); rw [e, e3] at e2; injection e2 with e2; injection e2 with _ e4 _; exact absurd e4 (by decide)))
      have P7 := hide (face.ch (face.ch P6.out C67.out (fun _ _ h => h)) HS.out.2 (fun y hy e => by rw [e] at hy; exact (face.ch P6.out C67.out (fun _ _ h => h)).nbk (C67.out.box B6.out (fun h => h)) (by decide) (by decide) hy))
      obtain ⟨a5, c5, hv5, -, -⟩ := R5.out.form
      obtain ⟨a0, c0, hv0, -, -⟩ := HROW.out.form
      have HV := hide (And.intro hv5 hv0)
      clear hv5 hv0
      go_wp2_with fail
      refine ⟨?rel, ?measure⟩
      case rel =>
        have sz1 := C1.out.size
        have sz2 := c15.out.size
        have sz3 := HCH.out.size
        refine ⟨w5.heap.size, leaW l1 r.ws r.wg, rfl, rfl, hide ⟨⟨acc ++ [⟨r.ws, r.wg, r.ar, v, ok, fa⟩], R7.out, fun ws l' hw => ?_, ?_⟩, ⟨F2, P7.out, fun y hy => ?_⟩, fun r3 hr3 => ?_, by omega, by rw [leaW_len]; exact HL1.out.1, HL1.out.2.lea _ _, ?_⟩⟩
        · rw [List.append_assoc]
          exact HWA.out _ _ (WA.cons HQ.out hw)
        · rw [List.length_append, List.length_singleton]
          have h1 := HLEN.out.1
          have h2 := HLEN.out.2
          omega
        · rcases P2.out.2 y hy with e | e
          · exact HF1.out y e
          · exact .inr (by omega)
        · rw [← hr3, HR2.out]
          exact HS.out.1
        · have d1 := (HCH.out.trans C1.out (fun y hy e => (HF1.out y e).elim (fun e => e) (fun e => by omega)))
          have d2 := d1.trans c15.out (Q := F) (fun y hy e => by
            have k1 := (own_in HROW.out e).1
            omega)
          exact ((d2.trans C56.out (fun _ _ h => h.elim)).trans C67.out (fun _ _ h => h.elim)).trans HS.out.2 (fun y hy e => by omega)
      case measure =>
        rw [HV.out.1, HV.out.2]
        show (sel (inRow s g d) l).length - (acc ++ [_]).length < (sel (inRow s g d) l).length - acc.length
        rw [List.length_append, List.length_singleton]
        have h1 := HLEN.out.1
        rw [List.length_cons] at h1
        omega

end Go.Proofs.Ytbblmbbpicinlaa

namespace Go.Proofs.Ytbblmbbpicinlaa
open Go.RowKit

theorem run_append_zero {P : Program} {w : World} {base : Nat} {t ty e : TypeId} {i : TypeInfo} (ht : P.underlying t = some (.slice e)) (hi : P.info? e = some i) {size : Nat} {v : Value} {n : Nat} {xs : List Value} (hown : w.ownsRow base e size v n xs) (a : Option Addr) (c : Nat) :
    (Builtin.append_ #[t, t] ty #[v, .slice a 0 c]).run P w = .ok v w := by
  rcases hown.2 with ⟨rfl, rfl⟩ | ⟨g, cap, cur, rfl, hbg, hg, hnc, hcm, hcs, htake⟩
  · cases a <;> simp [Builtin.append_, run_underlying ht, sizeOf, typeInfo, hi, Builtin.lenOf, Builtin.firstCells, loadCells, loadCellsFrom]
  · cases a <;> simp [Builtin.append_, run_underlying ht, sizeOf, typeInfo, hi, Builtin.lenOf, Builtin.firstCells, loadCells, loadCellsFrom, hnc, storeCells]

theorem wpList_append_zero {P : Program} {w : World} {ops : Array Oper} {rest : List Oper} {o : Oper} {a : Act} {Q : Exit → Act → World → Prop} (hgd : o.guard = none) (s x : Operand) (t : TypeId)
    (ho : o.op = .call { callee := .builtin .append, args := #[s, x], argTypes := #[t, t] })
    (base : Nat) (e : TypeId) (i : TypeInfo) (size : Nat) (ht : P.underlying t = some (.slice e)) (hi : P.info? e = some i)
    (v : Value) (n : Nat) (xs : List Value) (hs : a.eval s = v) (hown : w.ownsRow base e size v n xs) (ad : Option Addr) (c : Nat) (hx : a.eval x = .slice ad 0 c)
    (h : wpList P ops Q rest (a.put o.dst v) w) : wpList P ops Q (o :: rest) a w := by
  refine wpList_plain hgd fun K hK => ?_
  have hr := run_append_zero (P := P) (ty := o.type) ht hi hown ad c
  unfold Oper.wp execOp
  simp only [ho, resolve, invoke, builtin, Sem.run_bind, Sem.run_pure, Result.andThen_ok, List.map_toArray, List.map_cons, List.map_nil, hs, hx, hr]
  exact hK _ _ h

end Go.Proofs.Ytbblmbbpicinlaa

namespace Go.Proofs.Ytbblmbbpicinlaa
open Go.RowKit

theorem res_close (tm : Array Value) (A : Nat) (Z : World) (wk : Value) (h2 : tm[2]?.getD undef = .pointer (some ⟨A, 0, none⟩)) (hb : Z.heap[A]? = some (.cells #[.int .i64 0, .int .i64 0, .int .u32 0, .int .u32 0, .bool false, wk] 72 (0, 0))) :
    (results Try.f70 tm).run Try.prog Z = .ok (didV 0 zVa false wk) Z := by
  have e := Lib.cell_of_heap hb
  simp [results, Try.f70, h2, go_sem, e, zVa]

/-- what closing leaves of a channel -/
def Cn.shut (x : Cn) : Cn := { x with cl := true }

theorem WA_len {s g d : Int} {v : Va} {ok : Bool} {f : Int} {l : List Wt} {ws : List Wk} {l' : List Wt} (h : WA (inRow s g d) v ok f l ws l') : ws.length ≤ (sel (inRow s g d) l).length := by
  induction h with
  | nil _ => simp
  | cons h1 _ ih =>
    have := sel_lea_lt h1
    rw [List.length_cons]
    omega

set_option maxRecDepth 100000 in
set_option maxHeartbeats 16000000 in
theorem close_open {w : World} {B c bp M : Nat} {F : Nat → Prop} {l : List Wt} {cs : List Cn} (h : CI w B c bp M F l cs) (hl : l.length ≤ 100000) (wo : WtOk l) {i : Nat} (hi : i < cs.length) {x : Cn} (hx : cs[i] = x) (u1 : UsW x.h.1) (u2 : UsW x.h.2) (hcl : x.cl = false) :
    Calls Try.prog 70 #[.pointer (some ⟨x.cb, 0, none⟩)] w fun e w' => ∃ sv F' ws1 l1 ws2 l2, e = .returned (didV 0 zVa false sv) ∧ WA (inRow x.h.1 x.h.2 2) zVa false 0 l ws1 l1 ∧ WA (inRow x.h.1 x.h.2 1) zVa false 12 l1 ws2 l2 ∧ CI w' B c bp M F' l2 (cs.set i x.shut) ∧ WkRow w' w.heap.size sv (ws1 ++ ws2) ∧ Ch (fun y => x.mine y ∨ F y) w w' ∧ ∀ y, F' y → F y ∨ w.heap.size ≤ y := by
  obtain ⟨i0, hi0, hz0, hz1, hz2⟩ := nf_open nfWk
  have hin : x ∈ cs := by rw [← hx]; exact List.getElem_mem hi
  obtain ⟨w1, hw1⟩ : ∃ z, w.alloc (.cells #[.int .i64 0, .int .i64 0, .int .u32 0, .int .u32 0, .bool false, .slice none 0 0] 72) = z := ⟨_, rfl⟩
  have c1 : Ch (fun _ => False) w w1 := by rw [← hw1]; exact Ch.alloc _ _
  have HN := hide (show w1.heap[w.heap.size]? = some (.cells #[.int .i64 0, .int .i64 0, .int .u32 0, .int .u32 0, .bool false, .slice none 0 0] 72 (0, 0)) by rw [← hw1]; exact heap_new _ _)
  have HLT := hide (show (∀ y, x.mine y → y < w.heap.size) ∧ ∀ y, F y → y < w.heap.size from ⟨(h.ch x hin).lt, fun y hy => (face.foot h.bk y hy).2⟩)
  have C1 := hide c1
  have H0 := hide h
  have H1 := hide (h.quiet c1)
  have HX := hide hx
  have HIN := hide hin
  obtain ⟨k0, k1, k2, k3, k4⟩ := (H1.out.ch x hin).cells
  rw [hcl] at k4
  have kf : ∀ j, w1.frozen? ⟨x.cb, j, none⟩ = false := frz (H1.out.ch x hin).box
  have HCL := hide hcl
  obtain ⟨w2, hw2⟩ : ∃ z, w1.setCell ⟨x.cb, 4, none⟩ (.bool true) = z := ⟨_, rfl⟩
  have c12 : Ch (fun y => y = x.cb) w1 w2 := by rw [← hw2]; exact Ch.set (Q := fun y => y = x.cb) _ rfl 4 _
  have hb2 : w2.heap[x.cb]? = some (.cells #[.pointer (some ⟨bp, 0, none⟩), .int .u32 x.h.1, .int .u32 x.h.2, .pointer (some ⟨x.rp, 0, none⟩), .bool true] 147 (0, 0)) := by
    rw [← hw2, heap_set (H1.out.ch x hin).box 4]
    rfl
  have hcs : cs[i].mine = x.mine := by rw [hx]
  have NR := hide (show (¬ x.rp = x.cb ∧ ¬ x.rg = x.cb) ∧ ¬ w.heap.size = x.cb from by
    have hb := (H1.out.ch x hin).box
    have hr := (H1.out.ch x hin).ring
    refine ⟨⟨fun e => ?_, fun e => ?_⟩, fun e => by have := HLT.out.1 x.cb (.inl rfl); omega⟩
    · have h3 := hr.box
      rw [e, hb] at h3
      injection h3 with h3
      injection h3 with _ h4 _
      exact absurd h4 (by decide)
    · have h3 := hr.row
      rw [e, hb] at h3
      injection h3 with h3
      injection h3 with _ h4 _
      exact absurd h4 (by decide))
  have H2 := hide (show CI w2 B c bp M F l (cs.set i x.shut) from H1.out.upd hi ⟨hb2, (H1.out.ch x hin).ring.ch c12 NR.out.1.1 NR.out.1.2⟩ (by rw [hx]; exact ⟨rfl, rfl, rfl, rfl⟩) (by rw [hcs]; exact c12.mono (fun y _ e => .inl e)))
  have C2 := hide c12
  have HW2 := hide hw2
  have N2 := hide (c12.box HN.out NR.out.2)
  have hin2 : x.shut ∈ cs.set i x.shut := List.mem_iff_getElem.2 ⟨i, by rw [List.length_set]; exact hi, by rw [List.getElem_set_self]⟩
  have HIN2 := hide hin2
  obtain ⟨j0, j1, j2, j3, j4⟩ := (H2.out.ch _ hin2).cells
  change w2.cell? ⟨x.cb, 0, none⟩ = some (.pointer (some ⟨bp, 0, none⟩)) at j0
  change w2.cell? ⟨x.cb, 1, none⟩ = some (.int .u32 x.h.1) at j1
  change w2.cell? ⟨x.cb, 2, none⟩ = some (.int .u32 x.h.2) at j2
  have m0 : (w1.setCell ⟨x.cb, 4, none⟩ (.bool true)).cell? ⟨x.cb, 0, none⟩ = some (.pointer (some ⟨bp, 0, none⟩)) := by rw [hw2]; exact j0
  have m1 : (w1.setCell ⟨x.cb, 4, none⟩ (.bool true)).cell? ⟨x.cb, 1, none⟩ = some (.int .u32 x.h.1) := by rw [hw2]; exact j1
  have m2 : (w1.setCell ⟨x.cb, 4, none⟩ (.bool true)).cell? ⟨x.cb, 2, none⟩ = some (.int .u32 x.h.2) := by rw [hw2]; exact j2
  clear h c1 hin hx hcl c12 hw2 hb2 hcs hin2 j0 j1 j2 j3 j4
  go_enter Try.func70, Try.ntmps70
  go_wp2_with fail
  clear hw1 k0 k1 k2 k3 k4 kf m0 m1 m2
  rw [HW2.out]
  refine (wakeAll_is (s := x.h.1) (g := x.h.2) (d := 2) (ga := 0) (fa := 0) (v := zVa) (ok := false) H2.out.bk hl wo u1 u2 (by constructor <;> decide)).mono ?_
  rintro e w3 ⟨v3, F3, ws1, l1, rfl, wa1, hp3, hr3, hc3, hd3⟩
  have WA1 := hide wa1
  have H3 := hide (H2.out.book hp3 hc3 hd3)
  have C3 := hide hc3
  have D3 := hide hd3
  have NF2 := hide (show ¬ F w.heap.size from fun e => by have := HLT.out.2 _ e; omega)
  have N3 := hide (hc3.box N2.out NF2.out)
  have R3 := hide hr3
  have hll := wa1.left
  obtain ⟨j0, j1, j2, j3, j4⟩ := (H3.out.ch _ HIN2.out).cells
  change w3.cell? ⟨x.cb, 0, none⟩ = some (.pointer (some ⟨bp, 0, none⟩)) at j0
  change w3.cell? ⟨x.cb, 1, none⟩ = some (.int .u32 x.h.1) at j1
  change w3.cell? ⟨x.cb, 2, none⟩ = some (.int .u32 x.h.2) at j2
  have HLL := hide hll
  clear wa1 hp3 hr3 hc3 hd3 hll j3 j4
  go_wp2_with fail
  clear j0 j1 j2
  refine (wakeAll_is (s := x.h.1) (g := x.h.2) (d := 1) (ga := 0) (fa := 12) (v := zVa) (ok := false) H3.out.bk (by rw [HLL.out.2.1]; exact hl) (HLL.out.2.2 wo) u1 u2 (by constructor <;> decide)).mono ?_
  rintro e w4 ⟨v4, F4, ws2, l2, rfl, wa2, hp4, hr4, hc4, hd4⟩
  have WA2 := hide wa2
  have H4 := hide (H3.out.book hp4 hc4 hd4)
  have C4 := hide hc4
  have D4 := hide hd4
  have NF3 := hide (show ¬ F3 w.heap.size from H3.out.bk.nbk N3.out (by decide) (by decide))
  have N4 := hide (hc4.box N3.out NF3.out)
  have R3' := hide (Row.ch R3.out hc4 (fun b hb e => by obtain ⟨_, _, cur, e2⟩ := own_in R3.out hb; exact H3.out.bk.nbk e2 (by decide) (by decide) e))
  have R4 := hide hr4
  have DF := hide (show ∀ y, F4 y → F y ∨ w.heap.size ≤ y from fun y hy => by
    have s1 := C1.out.size
    have s2 := C2.out.size
    have s3 := C3.out.size
    rcases D4.out y hy with e | e
    · rcases D3.out y e with e | e
      · exact .inl e
      · exact .inr (by omega)
    · exact .inr (by omega))
  have CW := hide (show Ch (fun y => x.mine y ∨ F y) w w4 from (((C1.out.mono (Q' := fun y => x.mine y ∨ F y) (fun _ _ h => h.elim)).trans C2.out (fun y _ e => .inl (.inl e))).trans C3.out (fun y _ e => .inr e)).trans C4.out (fun y hy e => by
    have s1 := C1.out.size
    have s2 := C2.out.size
    rcases D3.out y e with e | e
    · exact .inr e
    · omega))
  have hn2 := wa2.left
  have HLEN := hide (show ws1.length ≤ 100000 ∧ ws2.length ≤ 100000 from by
    have h1 := WA_len WA1.out
    have h2 := WA_len WA2.out
    have h3 := sel_le (inRow x.h.1 x.h.2 2) l
    have h4 := sel_le (inRow x.h.1 x.h.2 1) l1
    have h5 := HLL.out.2.1
    omega)
  clear wa2 hp4 hr4 hc4 hd4 hn2
  have s1 := C1.out.size
  have s2 := C2.out.size
  have s3 := C3.out.size
  have SB := hide (show w.heap.size ≤ w2.heap.size ∧ w.heap.size ≤ w3.heap.size ∧ w2.heap.size ≤ w4.heap.size from by have := C4.out.size; exact ⟨by omega, by omega, by omega⟩)
  clear s1 s2 s3
  have DONE : ∀ (w5 : World) (v5 : Value), WkRow w5 w2.heap.size v5 (ws1 ++ ws2) → Ch (fun y => v3.ownBlock = some y) w4 w5 → (CI w5 B c bp M F4 l2 (cs.set i x.shut) ∧ Ch (fun y => x.mine y ∨ F y) w w5 ∧ w5.heap[w.heap.size]? = some (.cells #[.int .i64 0, .int .i64 0, .int .u32 0, .int .u32 0, .bool false, .slice none 0 0] 72 (0, 0))) := fun w5 v5 hr hc => by
    refine ⟨H4.out.frame hc (fun y hy e => ?_), CW.out.trans hc (fun y hy e => by have := (own_in R3.out e).1; have := SB.out; omega), hc.box N4.out (fun e => by have := (own_in R3.out e).1; have := C1.out.size; have := C2.out.size; have h9 := (Array.getElem?_eq_some_iff.1 HN.out).1; omega)⟩
    obtain ⟨_, _, cur, e2⟩ := own_in R3'.out e
    have hsw : SW w4 B c bp l2 ((cs.set i x.shut).map Cn.ab) (fun y => y = c ∨ y = M ∨ F4 y ∨ ∃ z ∈ cs.set i x.shut, z.mine y) := ⟨M, F4, _, H4.out, rfl, fun _ => Iff.rfl⟩
    exact hsw.nbox e2 (by decide) (by decide) (by decide) (by decide) (by decide) (by decide) hy
  have HDONE := hide DONE
  have NF4 := hide (show ¬ F4 w.heap.size from H4.out.bk.nbk N4.out (by decide) (by decide))
  clear DONE
  cases ws2 with
  | nil =>
    obtain ⟨a4, c4, hv4, -, -⟩ := R4.out.form
    have hv4 : v4 = .slice a4 0 c4 := hv4
    subst hv4
    obtain ⟨av, cv, hav, -, -⟩ := R3'.out.form
    obtain ⟨nv, hnv⟩ : ∃ z, ws1.length = z := ⟨_, rfl⟩
    have HNV := hide hnv
    rw [hnv] at hav
    clear hnv
    subst hav
    obtain ⟨hc5, hw5, hn5⟩ := HDONE.out w4 (.slice av nv cv) (by rw [List.append_nil]; exact R3'.out) (Ch.refl _ _)
    have R5 := hide (show WkRow w4 w2.heap.size (.slice av nv cv) (ws1 ++ []) from by rw [List.append_nil]; exact R3'.out)
    have HC5 := hide (And.intro hc5 hw5)
    have d0 : w4.cell? ⟨w.heap.size, 0, none⟩ = some (.int .i64 0) := by simp [Lib.cell_of_heap hn5]
    have d1 : w4.cell? ⟨w.heap.size, 1, none⟩ = some (.int .i64 0) := by simp [Lib.cell_of_heap hn5]
    have d2 : w4.cell? ⟨w.heap.size, 2, none⟩ = some (.int .u32 0) := by simp [Lib.cell_of_heap hn5]
    have d3 : w4.cell? ⟨w.heap.size, 3, none⟩ = some (.int .u32 0) := by simp [Lib.cell_of_heap hn5]
    have d4 : w4.cell? ⟨w.heap.size, 4, none⟩ = some (.bool false) := by simp [Lib.cell_of_heap hn5]
    have d5 : w4.cell? ⟨w.heap.size, 5, none⟩ = some (.slice none 0 0) := by simp [Lib.cell_of_heap hn5]
    have df : ∀ j, w4.frozen? ⟨w.heap.size, j, none⟩ = false := frz hn5
    have HSE := hide (did_set hn5 (.int .i64 0) (.int .i64 0) (.int .u32 0) (.int .u32 0) (.bool false) (Value.slice av nv cv))
    have NOW := hide (show ¬ ((Value.slice av nv cv) : Value).ownBlock = some w.heap.size from own_box R5.out hn5 (by decide))
    clear hn5 hc5 hw5
    go_wp2_with (at_builtin; refine wpList_append_zero rfl _ _ 70 rfl w2.heap.size 119 i0 8 Try.underlying70 hi0 _ ws1.length (ws1.flatMap wkL) rfl R3'.out a4 c4 rfl ?_)
    refine bodyPost_ret (v := didV 0 zVa false (Value.slice av nv cv)) (res_close _ w.heap.size _ _ rfl HSE.out.1) rfl ⟨_, F4, ws1, l1, [], l2, rfl, WA1.out, WA2.out, HC5.out.1.frame HSE.out.2 (fun y hy e => ?_), Row.ch (rowLow R5.out SB.out.1) HSE.out.2 (fun b hb e => NOW.out (by rw [hb, e])), HC5.out.2.trans HSE.out.2 (fun y hy e => by omega), DF.out⟩
    have := (H0.out.feet (y := w.heap.size))
    subst e
    rcases hy with hy | hy | hy | ⟨u, hu, hy⟩
    · have := (this (.inl hy)).2; omega
    · have := (this (.inr (.inl hy))).2; omega
    · exact NF4.out hy
    · obtain ⟨z, hz, hzy⟩ := mine_set hi (x := x.shut) (by rw [HX.out]; exact ⟨rfl, rfl, rfl⟩) u hu w.heap.size hy
      have := (this (.inr (.inr (.inr ⟨z, hz, hzy⟩)))).2
      omega
  | cons k ks =>
    obtain ⟨g4, c4, cur4, hv4, -, hb4, hlt4, hh4, -, hcc4⟩ := R4.out.at wkL_len (by simp)
    have hv4 : v4 = .slice (some ⟨g4, 0, none⟩) (k :: ks).length c4 := hv4
    subst hv4
    have HNW := hide (show ∀ j u, ((k :: ks).flatMap wkL)[j]? = some u → w4.cell? ((⟨g4, 0, none⟩ : Addr).add j) = some u from R4.out.cells (g := g4) rfl)
    have HM1 := hide (show ws1.length + (k :: ks).length ≤ maxLen by unfold maxLen; have := HLEN.out; omega)
    have HM2 := hide (show (ws1.length + (k :: ks).length) * 48 ≤ 140737488355328 by have := HLEN.out; omega)
    have HFL := hide (show ((k :: ks).flatMap wkL).length = (k :: ks).length * 8 from flat_len wkL 8 wkL_len _)
    have HON := hide (show ∀ u ∈ (k :: ks).flatMap wkL, u.oneCell' = true from fun u hu => by obtain ⟨z, _, hz⟩ := List.mem_flatMap.1 hu; exact wkL_one z u hz)
    obtain ⟨nk, hnk⟩ : ∃ z, (k :: ks).length = z := ⟨_, rfl⟩
    obtain ⟨fk, hfk⟩ : ∃ z, (k :: ks).flatMap wkL = z := ⟨_, rfl⟩
    have HNK := hide (And.intro hnk hfk)
    rw [hnk] at HM1 HM2 HFL ⊢
    rw [hfk] at HFL HNW HON
    clear hb4 hlt4 hh4 hcc4 hnk hfk
    go_wp2_with (at_builtin; refine wpList_append_own_at _ rfl _ _ 70 rfl w2.heap.size 119 i0 (wkV 0 0 0 zVa false 0) 8 48 Try.underlying70 hi0 hz0 hz1 hz2 rfl (by decide) _ ws1.length (ws1.flatMap wkL) rfl R3'.out ⟨g4, 0, none⟩ nk c4 fk rfl HFL.out HNW.out HON.out HM1.out HM2.out SB.out.2.2 ?_)
    intro v5 w5 hown5 hgrow5 _ _
    have hr5 : WkRow w5 w2.heap.size v5 (ws1 ++ (k :: ks)) := by
      unfold WkRow Row
      rw [List.length_append, List.flatMap_append, HNK.out.1, HNK.out.2]
      exact hown5
    obtain ⟨hc5, hw5, hn5⟩ := HDONE.out w5 v5 hr5 (Ch.of_grown hgrow5 (fun _ e => e))
    have R5 := hide hr5
    clear hown5 hgrow5 hr5
    have HC5 := hide (And.intro hc5 hw5)
    obtain ⟨av, cv, hav, -, -⟩ := R5.out.form
    obtain ⟨nv, hnv⟩ : ∃ z, (ws1 ++ (k :: ks)).length = z := ⟨_, rfl⟩
    rw [hnv] at hav
    clear hnv
    subst hav
    have d0 : w5.cell? ⟨w.heap.size, 0, none⟩ = some (.int .i64 0) := by simp [Lib.cell_of_heap hn5]
    have d1 : w5.cell? ⟨w.heap.size, 1, none⟩ = some (.int .i64 0) := by simp [Lib.cell_of_heap hn5]
    have d2 : w5.cell? ⟨w.heap.size, 2, none⟩ = some (.int .u32 0) := by simp [Lib.cell_of_heap hn5]
    have d3 : w5.cell? ⟨w.heap.size, 3, none⟩ = some (.int .u32 0) := by simp [Lib.cell_of_heap hn5]
    have d4 : w5.cell? ⟨w.heap.size, 4, none⟩ = some (.bool false) := by simp [Lib.cell_of_heap hn5]
    have d5 : w5.cell? ⟨w.heap.size, 5, none⟩ = some (.slice none 0 0) := by simp [Lib.cell_of_heap hn5]
    have df : ∀ j, w5.frozen? ⟨w.heap.size, j, none⟩ = false := frz hn5
    have HSE := hide (did_set hn5 (.int .i64 0) (.int .i64 0) (.int .u32 0) (.int .u32 0) (.bool false) (Value.slice av nv cv))
    have NOW := hide (show ¬ ((Value.slice av nv cv) : Value).ownBlock = some w.heap.size from own_box R5.out hn5 (by decide))
    clear hn5 hc5 hw5
    go_wp2_with fail
    refine bodyPost_ret (v := didV 0 zVa false (Value.slice av nv cv)) (res_close _ w.heap.size _ _ rfl HSE.out.1) rfl ⟨_, F4, ws1, l1, (k :: ks), l2, rfl, WA1.out, WA2.out, HC5.out.1.frame HSE.out.2 (fun y hy e => ?_), Row.ch (rowLow R5.out SB.out.1) HSE.out.2 (fun b hb e => NOW.out (by rw [hb, e])), HC5.out.2.trans HSE.out.2 (fun y hy e => by omega), DF.out⟩
    have := (H0.out.feet (y := w.heap.size))
    subst e
    rcases hy with hy | hy | hy | ⟨u, hu, hy⟩
    · have := (this (.inl hy)).2; omega
    · have := (this (.inr (.inl hy))).2; omega
    · exact NF4.out hy
    · obtain ⟨z, hz, hzy⟩ := mine_set hi (x := x.shut) (by rw [HX.out]; exact ⟨rfl, rfl, rfl⟩) u hu w.heap.size hy
      have := (this (.inr (.inr (.inr ⟨z, hz, hzy⟩)))).2
      omega

end Go.Proofs.Ytbblmbbpicinlaa

namespace Go.Proofs.Ytbblmbbpicinlaa
open Go.RowKit

/-- what a close comes to -/
def ClsK (l : List Wt) (x : Kn) (d : Dd) (l' : List Wt) (x' : Kn) : Prop :=
  (x.cl = true ∧ d = ⟨13, zVa, false, []⟩ ∧ l' = l ∧ x' = x) ∨
  (x.cl = false ∧ ∃ ws1 l1 ws2, WA (inRow x.h.1 x.h.2 2) zVa false 0 l ws1 l1 ∧ WA (inRow x.h.1 x.h.2 1) zVa false 12 l1 ws2 l' ∧ d = ⟨0, zVa, false, ws1 ++ ws2⟩ ∧ x' = { x with cl := true })
theorem ClsK.unique {l : List Wt} {x : Kn} {d d2 : Dd} {l' l2 : List Wt} {x' x2 : Kn} (h : ClsK l x d l' x') (h2 : ClsK l x d2 l2 x2) : d2 = d ∧ l2 = l' ∧ x2 = x' := by
  rcases h with ⟨c, rfl, rfl, rfl⟩ | ⟨c, ws1, l1, ws2, a1, a2, rfl, rfl⟩
  · rcases h2 with ⟨c2, rfl, rfl, rfl⟩ | ⟨c2, _⟩
    · exact ⟨rfl, rfl, rfl⟩
    · rw [c] at c2; cases c2
  · rcases h2 with ⟨c2, _⟩ | ⟨c2, ws3, l3, ws4, b1, b2, rfl, rfl⟩
    · rw [c] at c2; cases c2
    · obtain ⟨rfl, rfl⟩ := a1.unique b1
      obtain ⟨rfl, rfl⟩ := a2.unique b2
      exact ⟨rfl, rfl, rfl⟩
theorem cclose_ci {w : World} {B c bp M : Nat} {F : Nat → Prop} {l : List Wt} {cs : List Cn} (h : CI w B c bp M F l cs) (hl : l.length ≤ 100000) (wo : WtOk l) {x : Cn} (hx : x ∈ cs) (u1 : UsW x.h.1) (u2 : UsW x.h.2) :
    Calls Try.prog 70 #[.pointer (some ⟨x.cb, 0, none⟩)] w fun e w' => ∃ d l' x' sv, ClsK l x.ab d l' x' ∧ e = .returned (ddV d sv) ∧ AnsC w w' B c bp M F cs l' (setk (cs.map Cn.ab) x') d.wk sv ∧ Ch (fun y => x.mine y ∨ F y) w w' := by
  obtain ⟨i, hi, hxi⟩ := List.getElem_of_mem hx
  by_cases hcl : x.cl = true
  · refine (close_closed h hx hcl).mono ?_
    rintro e w' ⟨rfl, hb⟩
    exact ⟨⟨13, zVa, false, []⟩, l, x.ab, _, .inl ⟨hcl, rfl, rfl, rfl⟩, rfl, ⟨⟨F, cs, h.quiet (Ch.of_below hb), by rw [h.self hx], fun y hy => .inl hy, fun z hz y hy => ⟨z, hz, hy⟩⟩, Row.nil _ _⟩, Ch.of_below hb⟩
  · have hcl : x.cl = false := by simpa using hcl
    refine (close_open h hl wo hi hxi u1 u2 hcl).mono ?_
    rintro e w' ⟨sv, F', ws1, l1, ws2, l2, rfl, a1, a2, hi', hr, hc, hd⟩
    exact ⟨⟨0, zVa, false, ws1 ++ ws2⟩, l2, x.shut.ab, sv, .inr ⟨hcl, ws1, l1, ws2, a1, a2, rfl, rfl⟩, rfl, ⟨⟨F', _, hi', set_ab h.nd hi (by rw [hxi]; rfl), hd, mine_set hi (by rw [hxi]; exact ⟨rfl, rfl, rfl⟩)⟩, hr⟩, hc⟩

theorem res_Close (tm : Array Value) (A : Nat) (Z : World) (fate n a b : Int) (ok : Bool) (wk : Value) (q : Int) (h2 : tm[4]?.getD undef = .pointer (some ⟨A, 0, none⟩)) (h3 : tm[5]?.getD undef = .int .i64 q) (hb : Z.heap[A]? = some (.cells #[.int .i64 fate, .int .i64 n, .int .u32 a, .int .u32 b, .bool ok, wk] 72 (0, 0))) :
    (results Try.f26 tm).run Try.prog Z = .ok (.tuple #[didV fate ⟨n, a, b⟩ ok wk, .int .i64 q]) Z := by
  have e := Lib.cell_of_heap hb
  simp [results, Try.f26, h2, h3, go_sem, e]

set_option maxRecDepth 100000 in
set_option maxHeartbeats 8000000 in
theorem sw_close {w : World} {B c bp : Nat} {l : List Wt} {ks : List Kn} {G : Nat → Prop} (h : SW w B c bp l ks G) (hl : l.length ≤ 100000) (wo : WtOk l) {h0 : Hnd} {x : Kn} (hx : fnk ks h0 = some x) (nn : nnH h0 = false) (u1 : UsW h0.1) (u2 : UsW h0.2) :
    Calls Try.prog 26 #[.pointer (some ⟨c, 0, none⟩), hkV h0] w fun e w' => ∃ d l' x' sv, ClsK l x d l' x' ∧ e = .returned (.tuple #[ddV d sv, .int .i64 0]) ∧ AnsK w w' B c bp G l' (setk ks x') d.wk sv := by
  obtain ⟨M, F, cs, hi, rfl, hG⟩ := h
  obtain ⟨y, hy, rfl⟩ := fnc_ab hx
  obtain ⟨hin, hyh⟩ := fnc_some hy
  obtain ⟨w1, hw1⟩ : ∃ z, w.alloc (.cells #[.int .u32 h0.1, .int .u32 h0.2] 43) = z := ⟨_, rfl⟩
  obtain ⟨w2, hw2⟩ : ∃ z, w1.alloc (.cells #[.int .i64 0, .int .i64 0, .int .u32 0, .int .u32 0, .bool false, .slice none 0 0] 72) = z := ⟨_, rfl⟩
  have z1 : w1.heap.size = w.heap.size + 1 := by rw [← hw1, World.size_alloc]
  have z2 : w2.heap.size = w1.heap.size + 1 := by rw [← hw2, World.size_alloc]
  have c1 : Ch (fun _ => False) w w1 := by rw [← hw1]; exact Ch.alloc _ _
  have c2 : Ch (fun _ => False) w1 w2 := by rw [← hw2]; exact Ch.alloc _ _
  have n1 : w2.heap[w.heap.size]? = some (.cells #[.int .u32 h0.1, .int .u32 h0.2] 43 (0, 0)) := c2.box (by rw [← hw1]; exact heap_new _ _) (fun h => h)
  have n2 : w2.heap[w1.heap.size]? = some (.cells #[.int .i64 0, .int .i64 0, .int .u32 0, .int .u32 0, .bool false, .slice none 0 0] 72 (0, 0)) := by rw [← hw2]; exact heap_new _ _
  have HZ := hide (And.intro z1 z2)
  have C2 := hide (c1.trans c2 (fun _ _ h => h))
  have HN := hide (And.intro n1 n2)
  have H0 := hide hi
  have HG := hide hG
  have HY := hide hy
  have HIN := hide hin
  have UY := hide (show UsW y.h.1 ∧ UsW y.h.2 from by rw [hyh]; exact ⟨u1, u2⟩)
  have k0 : w2.cell? ⟨w.heap.size, 0, none⟩ = some (.int .u32 h0.1) := by simp [Lib.cell_of_heap n1]
  have k1 : w2.cell? ⟨w.heap.size, 1, none⟩ = some (.int .u32 h0.2) := by simp [Lib.cell_of_heap n1]
  have NN := hide nn
  clear hi hG hx hy hin hyh z1 z2 c1 c2 n1 n2 nn
  go_enter Try.func26, Try.ntmps26
  go_wp2_with fail
  clear hw1 hw2
  refine (isNone_is w2 h0.1 h0.2).mono ?_
  rintro e w3 ⟨rfl, hb3⟩
  have d3 := Ch.of_below (Q := fun _ => False) hb3
  have C3 := hide (C2.out.trans d3 (fun _ _ h => h))
  have n3 := d3.box HN.out.1 (fun h => h)
  have N3 := hide (d3.box HN.out.2 (fun h => h))
  clear k0 k1 hb3 d3
  rw [show (decide (h0.1 = 0) && decide (h0.2 = 0)) = false from NN.out]
  have k0 : w3.cell? ⟨w.heap.size, 0, none⟩ = some (.int .u32 h0.1) := by simp [Lib.cell_of_heap n3]
  have k1 : w3.cell? ⟨w.heap.size, 1, none⟩ = some (.int .u32 h0.2) := by simp [Lib.cell_of_heap n3]
  clear n3
  go_wp2_with fail
  refine (at_cis (H0.out.quiet C3.out) h0).mono ?_
  rintro e w4 ⟨rfl, hb4⟩
  have d4 := Ch.of_below (Q := fun _ => False) hb4
  have C4 := hide (C3.out.trans d4 (fun _ _ h => h))
  have N4 := hide (d4.box N3.out (fun h => h))
  clear k0 k1 hb4 d4
  rw [HY.out, cp_some]
  go_wp2_with fail
  refine (cclose_ci (H0.out.quiet C4.out) hl wo HIN.out UY.out.1 UY.out.2).mono ?_
  rintro e w5 ⟨d, l', x', sv, hk, rfl, ha, hc⟩
  obtain ⟨a5, c5, hsv, -, -⟩ := ha.row.form
  obtain ⟨nv, hnv⟩ : ∃ z, d.wk.length = z := ⟨_, rfl⟩
  rw [hnv] at hsv
  subst hsv
  have HK := hide hk
  have HA := hide ha
  have HC := hide hc
  have hz := HZ.out
  have n5 := hc.box N4.out (fun e => by
    rcases e with e | e
    · have := (H0.out.ch y HIN.out).lt _ e; omega
    · have := (face.foot H0.out.bk _ e).2; omega)
  have d0 : w5.cell? ⟨w1.heap.size, 0, none⟩ = some (.int .i64 0) := by simp [Lib.cell_of_heap n5]
  have d1 : w5.cell? ⟨w1.heap.size, 1, none⟩ = some (.int .i64 0) := by simp [Lib.cell_of_heap n5]
  have d2 : w5.cell? ⟨w1.heap.size, 2, none⟩ = some (.int .u32 0) := by simp [Lib.cell_of_heap n5]
  have d3 : w5.cell? ⟨w1.heap.size, 3, none⟩ = some (.int .u32 0) := by simp [Lib.cell_of_heap n5]
  have d4 : w5.cell? ⟨w1.heap.size, 4, none⟩ = some (.bool false) := by simp [Lib.cell_of_heap n5]
  have d5 : w5.cell? ⟨w1.heap.size, 5, none⟩ = some (.slice none 0 0) := by simp [Lib.cell_of_heap n5]
  have df : ∀ j, w5.frozen? ⟨w1.heap.size, j, none⟩ = false := frz n5
  have HSE := hide (did_set n5 (.int .i64 d.f) (.int .i64 d.v.n) (.int .u32 d.v.s) (.int .u32 d.v.g) (.bool d.ok) (.slice a5 nv c5))
  clear n5 hz hk ha hc hnv
  go_wp2_with fail
  have hz := HZ.out
  refine bodyPost_ret (v := .tuple #[ddV d (.slice a5 nv c5), .int .i64 0]) (res_Close _ w1.heap.size _ d.f d.v.n d.v.s d.v.g d.ok _ 0 rfl rfl HSE.out.1) rfl ⟨d, l', x', _, HK.out, rfl, ?_⟩
  have s4 := C4.out.size
  have hA2 : w1.heap.size < w4.heap.size := (Array.getElem?_eq_some_iff.1 N4.out).1
  exact HA.out.up H0.out HG.out HIN.out C4.out (by omega) hA2 HSE.out.2 (((C4.out.mono (Q' := fun z => y.mine z ∨ F z) (fun _ _ h => h.elim)).trans HC.out (fun _ _ h => h)).trans HSE.out.2 (fun z hz2 e => by omega))

end Go.Proofs.Ytbblmbbpicinlaa
