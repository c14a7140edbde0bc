/- Layer 13: the law's step: kind none. Layer 13: Make of both heaps, in one word. Layer 13: the law's step: both Makes. Layer 13: the law's step: kind Make. Layer 13: the law's step: kind a link. Layer 13: the law's step: kind links cut. Layer 13: the law's step: kind Kind. Layer 13: the law's step: kind Reach, Collect. Layer 13: the law's step: kind All. -/
import Derived.Test.YtcogiklnegpfiaaYq

namespace Go.Proofs.Ytcogiklnegpfiaa
open Go.RowKit Go.Shelf

set_option maxRecDepth 100000 in
set_option maxHeartbeats 16000000 in
theorem step_none {P : Px} {w : World} {vT vl vw vD : Value} {l : List Th} {L : List Lk} {aq : List Hd} {ls ws : List Value} {xs : List (List Hd)} {O : Nat → Prop} (h : SQ P w vT vl vw vD l l (hnds l) L aq ls ws xs O) {o : Oq} {rs : List Int} (hrt : RtsAt P.N w o rs) (us : Us o.s) (ha : I64 o.a) (hb : I64 o.b) (hk : ¬ o.k = 1 ∧ ¬ o.k = 2 ∧ ¬ o.k = 3 ∧ ¬ o.k = 4 ∧ ¬ o.k = 5 ∧ ¬ o.k = 6 ∧ ¬ o.k = 7) (hll : l.length ≤ 1000) (hls : ls.length ≤ 1000) :
    Calls Try.prog 8 #[.pointer (some ⟨P.bw, 0, none⟩), opV o] w fun e w' => e = .returned (.bool true) ∧ StepI P w w' l xs := by
  have HK := hide hk
  have hu1 := hll
  have hu2 := hls
  clear hk hu1 hu2
  have hhl : (hnds l).length ≤ 100000 := by unfold hnds; rw [List.length_map]; omega
  obtain ⟨w1, hw1⟩ : ∃ w1, w.alloc (.cells #[.int .i64 o.k, .int .i64 o.a, .int .i64 o.b, .int .i64 o.kd, .slice o.ra o.rn o.rc, .bool o.hd, .int .u32 o.s, .int .u32 o.g] 45) = w1 := ⟨_, rfl⟩
  have hB1 : Below w.heap.size w w1 := by rw [← hw1]; exact below1 _ _
  have hn1 : w1.heap[w.heap.size]? = some (.cells #[.int .i64 o.k, .int .i64 o.a, .int .i64 o.b, .int .i64 o.kd, .slice o.ra o.rn o.rc, .bool o.hd, .int .u32 o.s, .int .u32 o.g] 45 (0, 0)) := by rw [← hw1]; exact heap_new _ _
  have c1 := Ch.of_below (Q := fun _ => False) hB1
  have hs1 := h.quiet c1
  have HHD := hide (fun c (hc : I64 c) V (cV : Ch (fun _ => False) w1 V) => show Calls Try.prog 14 #[.pointer (some ⟨P.bw, 0, none⟩), .int .i64 c, .agg #[.int .i64 o.k, .int .i64 o.a, .int .i64 o.b, .int .i64 o.kd, .slice o.ra o.rn o.rc, .bool o.hd, .int .u32 o.s, .int .u32 o.g]] V fun e w' => e = .returned (hv (hdlW (hnds l) c o).1 (hdlW (hnds l) c o).2) ∧ Below V.heap.size V w' from by
    obtain ⟨vL, vA, vE, hb, -⟩ := (hs1.quiet cV).box
    exact handle_is hb rfl (hs1.quiet cV).tr hhl hc _)
  have husx := hdl_us h.hp.tb.wf h.hp.tb.m2 o.a o us
  have HUB := hide (hdl_us h.hp.tb.wf h.hp.tb.m2 o.b o us)
  obtain ⟨x1, x2, hx12⟩ : ∃ x1 x2, hdlW (hnds l) o.a o = (x1, x2) := ⟨_, _, rfl⟩
  have HHA := HHD.out o.a ha
  rw [hx12] at HHA husx
  have HHA := hide HHA
  have HUX := hide husx
  have E1 := hide hn1
  have H1 := hide hs1
  have B1 := hide hB1
  have HLW := hide h.low
  have HIB := hide hb
  have HRT := hide (show ∀ V, Below P.N w V → RtsAt P.N V o rs from fun V bV => by
    obtain ⟨h1, h2, h3, h4⟩ := hrt
    exact ⟨h1, h2, fun h0 => by
      obtain ⟨b', f', e, hb', hc'⟩ := h3 h0
      exact ⟨b', f', e, hb', fun i hi => (bV.cell (p := ⟨b', _, none⟩) hb').trans (hc' i hi)⟩, h4⟩)
  obtain ⟨s0, s1, s2, s3, s4, s5, s6, s7⟩ : w1.cell? ⟨w.heap.size, 0, none⟩ = some (.int .i64 o.k) ∧ w1.cell? ⟨w.heap.size, 1, none⟩ = some (.int .i64 o.a) ∧ w1.cell? ⟨w.heap.size, 2, none⟩ = some (.int .i64 o.b) ∧ w1.cell? ⟨w.heap.size, 3, none⟩ = some (.int .i64 o.kd) ∧ w1.cell? ⟨w.heap.size, 4, none⟩ = some (.slice o.ra o.rn o.rc) ∧ w1.cell? ⟨w.heap.size, 5, none⟩ = some (.bool o.hd) ∧ w1.cell? ⟨w.heap.size, 6, none⟩ = some (.int .u32 o.s) ∧ w1.cell? ⟨w.heap.size, 7, none⟩ = some (.int .u32 o.g) := by
    have e := Lib.cell_of_heap hn1
    exact ⟨by simp [e], by simp [e], by simp [e], by simp [e], by simp [e], by simp [e], by simp [e], by simp [e]⟩
  clear h hs1 hrt hn1 hB1 c1 hhl husx hx12 ha hb
  go_enter Try.func8, Try.ntmps8
  go_wp2_with fail
  try rw [hw1]
  clear hw1 s0 s1 s2 s3 s4 s5 s6 s7
  refine (HHA.out w1 (Ch.refl _ _)).mono ?_
  rintro e w2 ⟨rfl, hb2⟩
  obtain ⟨V3, hV3⟩ : ∃ V3, w2.alloc (.cells #[.int .u32 x1, .int .u32 x2] 43) = V3 := ⟨_, rfl⟩
  have c13 : Ch (fun _ => False) w1 V3 := by rw [← hV3]; exact (Ch.of_below hb2).trans (Ch.alloc _ _) (fun _ _ h => h)
  have e3 : V3.heap[w2.heap.size]? = some (.cells #[.int .u32 x1, .int .u32 x2] 43 (0, 0)) := by rw [← hV3]; exact heap_new _ _
  have C13 := hide c13
  have H3 := hide (H1.out.quiet c13)
  have E3 := hide (c13.box E1.out (fun h => h))
  have X3 := hide e3
  have B3 := hide (show Below P.N w V3 from (B1.out.mono HLW.out).trans (c13.below (Nat.le_trans HLW.out B1.out.size) (fun _ _ h => h)))
  have HWF := hide (And.intro H3.out.hp.tb.wf (And.intro H3.out.hp.tb.lt H3.out.hp.tb.m2))
  have u0 : V3.cell? ⟨w.heap.size, 0, none⟩ = some (.int .i64 o.k) := by simp [Lib.cell_of_heap E3.out]
  have HX := hide (fun wq (kq : Ch (fun _ => False) V3 wq) => show (wq.cell? ⟨w2.heap.size, 0, none⟩ = some (.int .u32 x1) ∧ wq.cell? ⟨w2.heap.size, 1, none⟩ = some (.int .u32 x2)) ∧ wq.cell? ⟨w.heap.size, 0, none⟩ = some (.int .i64 o.k) ∧ wq.cell? ⟨w.heap.size, 1, none⟩ = some (.int .i64 o.a) ∧ wq.cell? ⟨w.heap.size, 2, none⟩ = some (.int .i64 o.b) ∧ wq.cell? ⟨w.heap.size, 3, none⟩ = some (.int .i64 o.kd) ∧ wq.cell? ⟨w.heap.size, 4, none⟩ = some (.slice o.ra o.rn o.rc) ∧ wq.cell? ⟨w.heap.size, 5, none⟩ = some (.bool o.hd) ∧ wq.cell? ⟨w.heap.size, 6, none⟩ = some (.int .u32 o.s) ∧ wq.cell? ⟨w.heap.size, 7, none⟩ = some (.int .u32 o.g) from by
    have e1 := Lib.cell_of_heap (kq.box X3.out (fun h => h))
    have e2 := Lib.cell_of_heap (kq.box E3.out (fun h => h))
    exact ⟨⟨by simp [e1], by simp [e1]⟩, by simp [e2], by simp [e2], by simp [e2], by simp [e2], by simp [e2], by simp [e2], by simp [e2], by simp [e2]⟩)
  clear hb2 c13 e3
  have hk := HK.out
  have t1 : (o.k == 1) = false := by simpa using hk.1
  have t2 : (o.k == 2) = false := by simpa using hk.2.1
  have t3 : (o.k == 3) = false := by simpa using hk.2.2.1
  have t4 : (o.k == 4) = false := by simpa using hk.2.2.2.1
  have t5 : (o.k == 5) = false := by simpa using hk.2.2.2.2.1
  have t6 : (o.k == 6) = false := by simpa using hk.2.2.2.2.2.1
  have t7 : (o.k == 7) = false := by simpa using hk.2.2.2.2.2.2
  clear hk
  go_wp2
  clear hV3
  go_ret
  exact ⟨rfl, StepI.same H3.out B3.out⟩

end Go.Proofs.Ytcogiklnegpfiaa

namespace Go.Proofs.Ytcogiklnegpfiaa
open Go.RowKit Go.Shelf

def mkS (l : List Th) (M : Nat) (k : Int) : Int := if mkO k then tkS l M else 0
def mkG (l : List Th) (M : Nat) (k : Int) : Int := if mkO k then tkG l M else 0
def mkE (l : List Th) (M : Nat) (k : Int) : Int := if mkO k then ec (tkB l M) 131 else 133
def mkL (l : List Th) (M : Nat) (k : Int) : List Th := if mkO k then tkd l M k else l

theorem mkL_len (l : List Th) (M : Nat) (k : Int) : (mkL l M k).length ≤ l.length + 1 := by
  unfold mkL
  split
  · rw [tkd_len]
    split <;> omega
  · omega
theorem mk_hnds (l : List Th) (M : Nat) (k : Int) : hnds (mkL l M k) = if mkE l M k = 0 then hnds l ++ [(mkS l M k, mkG l M k)] else hnds l := by
  unfold mkL mkE mkS mkG
  cases hk : mkO k
  · simp
  · simp only [if_true]
    rw [hnds_tkd]
    cases hB : tkB l M
    · simp [ec]
    · simp [ec]

theorem hmake_all {w : World} {B b p g M : Nat} {l : List Th} (h : Hp w B b p g l M) (hlen : l.length ≤ 100000) (k : Int) : Calls Try.prog 16 #[.pointer (some ⟨b, 0, none⟩), .int .i64 k] w fun e w' => e = .returned (.tuple #[hv (mkS l M k) (mkG l M k), .int .i64 (mkE l M k)]) ∧ Hp w' B b p g (mkL l M k) M ∧ Ch (fun x => x = p ∨ x = g) w w' := by
  cases hk : mkO k
  · refine (hmake_no w b hk).mono ?_
    rintro e w' ⟨rfl, hb⟩
    simp only [mkS, mkG, mkE, mkL, hk]
    exact ⟨rfl, h.below hb, Ch.of_below hb⟩
  · refine (hmake_is h hk hlen).mono ?_
    rintro e w' ⟨rfl, h1, h2⟩
    simp only [mkS, mkG, mkE, mkL, hk]
    exact ⟨rfl, h1, h2⟩

theorem rmake_all {w : World} {B b M : Nat} {v : Value} {l : List Th} (h : DT w B b v l (M : Int)) (hl : l.length ≤ 100000) (hw : Wf l M) (hM2 : M ≤ 500) (hBw : B ≤ w.heap.size) (k : Int) : Calls Try.prog 23 #[.pointer (some ⟨b, 0, none⟩), .int .i64 k] w fun e w' => e = .returned (.tuple #[hv (mkS l M k) (mkG l M k), .int .i64 (mkE l M k)]) ∧ ∃ v', DT w' B b v' (mkL l M k) (M : Int) ∧ Ch (fun y => y = b ∨ v.ownBlock = some y) w w' := by
  have hfull := hw.full
  have hF : Fit l := fun t ht => by have := hw.slot t ht; omega
  refine rmake_cps h hl hF k rfl hM2 hBw (hide fun hc he => ?_) _ (hide fun hk w' hb => ?_) (hide fun hk hc w' hb => ?_) (hide fun hk hc s he w' v' hd hch ho => ?_)
  · unfold tkB at hfull
    rw [he, decide_eq_true hc] at hfull
    cases hfull
  · simp only [mkS, mkG, mkE, mkL, hk]
    exact ⟨rfl, v, h.quiet (Ch.of_below hb), Ch.of_below hb⟩
  · have hB : tkB l M = false := by rw [hfull]; exact decide_eq_false hc
    have he : emp l M 1 = none := by
      unfold tkB at hB
      cases hE : emp l M 1 with
      | none => rfl
      | some s => rw [hE] at hB; cases hB
    have hG : tkG l M = 0 := by unfold tkG; rw [he]
    have hS : tkS l M = 0 := by unfold tkS; rw [he]; rfl
    have hL : tkd l M k = l := by unfold tkd; rw [he]
    simp only [mkS, mkG, mkE, mkL, hk, if_true, hG, hS, hB, hL]
    exact ⟨rfl, v, h.quiet (Ch.of_below hb), Ch.of_below hb⟩
  · have hB : tkB l M = true := by unfold tkB; rw [he]; rfl
    have hG : tkG l M = gens l s + 1 := by unfold tkG; rw [he]
    have hS : tkS l M = s := by unfold tkS; rw [he]; rfl
    have hL : tkd l M k = tkn l s k := by unfold tkd; rw [he]
    simp only [mkS, mkG, mkE, mkL, hk, if_true, hG, hS, hB, hL]
    exact ⟨rfl, v', hd, hch⟩

/-- a handle is stored into a new box -/
theorem fresh_store {w : World} {A : Nat} {a b : Value} (hn : w.heap[A]? = some (.cells #[a, b] 43 (0, 0))) (s g : Int) : ((w.setCell ⟨A, 0, none⟩ (.int .u32 s)).setCell ⟨A, 1, none⟩ (.int .u32 g)).heap[A]? = some (.cells #[.int .u32 s, .int .u32 g] 43 (0, 0)) ∧ Ch (fun y => y = A) w ((w.setCell ⟨A, 0, none⟩ (.int .u32 s)).setCell ⟨A, 1, none⟩ (.int .u32 g)) ∧ w.cell? ⟨A, 0, none⟩ = some a ∧ w.cell? ⟨A, 1, none⟩ = some b ∧ ∀ o, w.frozen? ⟨A, o, none⟩ = false :=
  ⟨by rw [heap_set (heap_set hn 0 _) 1 _]; rfl, (Ch.set (Q := fun y => y = A) w rfl 0 _).trans (Ch.set (Q := fun y => y = A) _ rfl 1 _) (fun _ _ h => h), by simp [Lib.cell_of_heap hn], by simp [Lib.cell_of_heap hn], fun o => by simp [World.frozen?, hn]⟩

end Go.Proofs.Ytcogiklnegpfiaa

namespace Go.Proofs.Ytcogiklnegpfiaa
open Go.RowKit Go.Shelf

theorem wp_then {P : Program} {c : Code} {K : Act → World → Prop} {Q : Exit → Act → World → Prop} {a : Act} {w : World} (h : c.wp P (Exit.then K (fun _ _ _ => False)) a w) : c.wp P (Exit.then K Q) a w :=
  Code.wp_mono (fun e a w h => by cases e <;> first | exact h | exact (h : False).elim) h

abbrev ma0 : Oper := { dst := some 26, op := Op.move (Operand.tmp 0), type := 28, pos := "law.go:169", after := #[], guard := none }
abbrev ma1 : Oper := { dst := some 27, op := Op.nilCheck (Operand.tmp 26), type := 0, pos := "law.go:169", after := #[{ on := 0, ground := Ground.data }], guard := none }
abbrev ma2 : Oper := { dst := some 28, op := Op.fieldAddr 37 (Operand.tmp 27) 0, type := 0, pos := "law.go:169", after := #[{ on := 1, ground := Ground.data }], guard := none }
abbrev ma3 : Oper := { dst := some 29, op := Op.load 24 (Operand.tmp 28), type := 24, pos := "law.go:169", after := #[{ on := 2, ground := Ground.data }], guard := none }
abbrev ma4 : Oper := { dst := some 30, op := Op.fieldAddr 45 (Operand.tmp 3) 3, type := 0, pos := "law.go:169", after := #[], guard := none }
abbrev ma5 : Oper := { dst := some 31, op := Op.load 39 (Operand.tmp 30), type := 39, pos := "law.go:169", after := #[{ on := 4, ground := Ground.data }], guard := none }
abbrev ma6 : Oper := { dst := some 32, op := Op.call { callee := Callee.value (Operand.func 16), args := #[Operand.tmp 29, Operand.tmp 31], argTypes := #[24, 39] }, type := 52, pos := "law.go:169", after := #[{ on := 3, ground := Ground.data }, { on := 5, ground := Ground.data }], guard := none }
abbrev ma7 : Oper := { dst := some 25, op := Op.move (Operand.tmp 32), type := 52, pos := "law.go:169", after := #[{ on := 6, ground := Ground.data }], guard := none }
abbrev ma8 : Oper := { dst := some 33, op := Op.extract (Operand.tmp 25) 0, type := 43, pos := "law.go:169", after := #[{ on := 7, ground := Ground.data }], guard := none }
abbrev ma9 : Oper := { dst := some 34, op := Op.extract (Operand.tmp 25) 1, type := 25, pos := "law.go:169", after := #[{ on := 7, ground := Ground.data }, { on := 11, ground := Ground.gcOnly Departure.lateStores }], guard := none }
abbrev ma10 : Oper := { dst := some 6, op := Op.alloc 43, type := 0, pos := "law.go:169", after := #[], guard := none }
abbrev ma11 : Oper := { dst := none, op := Op.store 43 (Operand.tmp 6) (Operand.tmp 33), type := 0, pos := "law.go:169", after := #[{ on := 10, ground := Ground.data }, { on := 8, ground := Ground.data }, { on := 6, ground := Ground.chain }, { on := 0, ground := Ground.phase }, { on := 1, ground := Ground.phase }, { on := 2, ground := Ground.phase }, { on := 3, ground := Ground.phase }, { on := 4, ground := Ground.phase }, { on := 5, ground := Ground.phase }, { on := 6, ground := Ground.phase }, { on := 7, ground := Ground.phase }, { on := 8, ground := Ground.phase }, { on := 9, ground := Ground.textOnly Departure.lateStores }, { on := 10, ground := Ground.phase }], guard := none }
abbrev ma12 : Oper := { dst := some 7, op := Op.assign (Operand.tmp 34), type := 25, pos := "law.go:169", after := #[{ on := 9, ground := Ground.data }, { on := 11, ground := Ground.chain }, { on := 0, ground := Ground.phase }, { on := 1, ground := Ground.phase }, { on := 2, ground := Ground.phase }, { on := 3, ground := Ground.phase }, { on := 4, ground := Ground.phase }, { on := 5, ground := Ground.phase }, { on := 6, ground := Ground.phase }, { on := 7, ground := Ground.phase }, { on := 8, ground := Ground.phase }, { on := 9, ground := Ground.phase }, { on := 10, ground := Ground.phase }, { on := 11, ground := Ground.phase }], guard := none }
abbrev mb0 : Oper := { dst := some 36, op := Op.move (Operand.tmp 0), type := 28, pos := "law.go:170", after := #[], guard := none }
abbrev mb1 : Oper := { dst := some 37, op := Op.nilCheck (Operand.tmp 36), type := 0, pos := "law.go:170", after := #[{ on := 0, ground := Ground.data }], guard := none }
abbrev mb2 : Oper := { dst := some 38, op := Op.fieldAddr 37 (Operand.tmp 37) 1, type := 0, pos := "law.go:170", after := #[{ on := 1, ground := Ground.data }], guard := none }
abbrev mb3 : Oper := { dst := some 39, op := Op.load 29 (Operand.tmp 38), type := 29, pos := "law.go:170", after := #[{ on := 2, ground := Ground.data }], guard := none }
abbrev mb4 : Oper := { dst := some 40, op := Op.fieldAddr 45 (Operand.tmp 3) 3, type := 0, pos := "law.go:170", after := #[], guard := none }
abbrev mb5 : Oper := { dst := some 41, op := Op.load 39 (Operand.tmp 40), type := 39, pos := "law.go:170", after := #[{ on := 4, ground := Ground.data }], guard := none }
abbrev mb6 : Oper := { dst := some 42, op := Op.call { callee := Callee.value (Operand.func 23), args := #[Operand.tmp 39, Operand.tmp 41], argTypes := #[29, 39] }, type := 52, pos := "law.go:170", after := #[{ on := 3, ground := Ground.data }, { on := 5, ground := Ground.data }], guard := none }
abbrev mb7 : Oper := { dst := some 35, op := Op.move (Operand.tmp 42), type := 52, pos := "law.go:170", after := #[{ on := 6, ground := Ground.data }], guard := none }
abbrev mb8 : Oper := { dst := some 43, op := Op.extract (Operand.tmp 35) 0, type := 43, pos := "law.go:170", after := #[{ on := 7, ground := Ground.data }], guard := none }
abbrev mb9 : Oper := { dst := some 44, op := Op.extract (Operand.tmp 35) 1, type := 25, pos := "law.go:170", after := #[{ on := 7, ground := Ground.data }, { on := 11, ground := Ground.gcOnly Departure.lateStores }], guard := none }
abbrev mb10 : Oper := { dst := some 8, op := Op.alloc 43, type := 0, pos := "law.go:170", after := #[], guard := none }
abbrev mb11 : Oper := { dst := none, op := Op.store 43 (Operand.tmp 8) (Operand.tmp 43), type := 0, pos := "law.go:170", after := #[{ on := 10, ground := Ground.data }, { on := 8, ground := Ground.data }, { on := 6, ground := Ground.chain }, { on := 0, ground := Ground.phase }, { on := 1, ground := Ground.phase }, { on := 2, ground := Ground.phase }, { on := 3, ground := Ground.phase }, { on := 4, ground := Ground.phase }, { on := 5, ground := Ground.phase }, { on := 6, ground := Ground.phase }, { on := 7, ground := Ground.phase }, { on := 8, ground := Ground.phase }, { on := 9, ground := Ground.textOnly Departure.lateStores }, { on := 10, ground := Ground.phase }], guard := none }
abbrev mb12 : Oper := { dst := some 9, op := Op.assign (Operand.tmp 44), type := 25, pos := "law.go:170", after := #[{ on := 9, ground := Ground.data }, { on := 11, ground := Ground.chain }, { on := 0, ground := Ground.phase }, { on := 1, ground := Ground.phase }, { on := 2, ground := Ground.phase }, { on := 3, ground := Ground.phase }, { on := 4, ground := Ground.phase }, { on := 5, ground := Ground.phase }, { on := 6, ground := Ground.phase }, { on := 7, ground := Ground.phase }, { on := 8, ground := Ground.phase }, { on := 9, ground := Ground.phase }, { on := 10, ground := Ground.phase }, { on := 11, ground := Ground.phase }], guard := none }

set_option maxRecDepth 100000 in
set_option maxHeartbeats 8000000 in
theorem mk_a {P : Px} {V : World} {vT vl vw vD : Value} {l ld : List Th} {hs : List Hd} {L : List Lk} {aq : List Hd} {ls ws : List Value} {xs : List (List Hd)} {O : Nat → Prop} {o : Oq} {A0 : Nat} (h : SQ P V vT vl vw vD l ld hs L aq ls ws xs O) (hll : l.length ≤ 1000) (hO : V.heap[A0]? = some (.cells #[.int .i64 o.k, .int .i64 o.a, .int .i64 o.b, .int .i64 o.kd, .slice o.ra o.rn o.rc, .bool o.hd, .int .u32 o.s, .int .u32 o.g] 45 (0, 0)))
    {u1 u2 u4 u5 u6 u7 u8 u9 u10 u11 u12 u13 u14 u15 u16 u17 u18 u19 u20 u21 u22 u23 u24 u25 u26 u27 u28 u29 u30 u31 u32 u33 u34 u35 u36 u37 u38 u39 u40 u41 u42 u43 u44 u45 u46 u47 u48 u49 u50 u51 u52 u53 u54 u55 u56 u57 u58 u59 u60 u61 u62 u63 u64 u65 u66 u67 u68 u69 u70 u71 u72 u73 u74 u75 u76 u77 u78 u79 u80 u81 u82 u83 u84 u85 u86 u87 u88 u89 u90 u91 u92 u93 u94 u95 u96 u97 u98 u99 u100 u101 u102 u103 u104 u105 u106 u107 u108 u109 u110 u111 u112 u113 u114 u115 u116 u117 u118 u119 u120 u121 u122 u123 u124 u125 u126 u127 u128 u129 u130 u131 u132 u133 u134 u135 u136 u137 u138 u139 u140 u141 u142 u143 u144 u145 u146 u147 u148 u149 u150 u151 u152 u153 u154 u155 u156 u157 u158 u159 u160 u161 u162 u163 u164 u165 u166 u167 u168 u169 u170 u171 u172 u173 u174 u175 u176 u177 u178 u179 u180 u181 u182 u183 u184 u185 u186 u187 u188 u189 u190 u191 u192 u193 u194 u195 u196 u197 u198 u199 u200 u201 u202 u203 u204 u205 : Value} {K : Act → World → Prop} (hK0 : ∀ (A1 : Nat) (W2 : World) (t25 t26 t27 t28 t29 t30 t31 t32 t33 t34 : Value), V.heap.size ≤ A1 → W2.heap[A1]? = some (.cells #[.int .u32 (mkS l P.M o.kd), .int .u32 (mkG l P.M o.kd)] 43 (0, 0)) → SQ P W2 vT vl vw vD (mkL l P.M o.kd) ld hs L aq ls ws xs O → Ch (fun y => y = P.p ∨ y = P.g) V W2 → K { tmps := List.toArray ((.pointer (some ⟨P.bw, 0, none⟩)) :: u1 :: u2 :: (.pointer (some ⟨A0, 0, none⟩)) :: u4 :: u5 :: (.pointer (some ⟨A1, 0, none⟩)) :: (.int .i64 (mkE l P.M o.kd)) :: u8 :: u9 :: u10 :: u11 :: u12 :: u13 :: u14 :: u15 :: u16 :: u17 :: u18 :: u19 :: u20 :: u21 :: u22 :: u23 :: u24 :: (t25) :: (t26) :: (t27) :: (t28) :: (t29) :: (t30) :: (t31) :: (t32) :: (t33) :: (t34) :: u35 :: u36 :: u37 :: u38 :: u39 :: u40 :: u41 :: u42 :: u43 :: u44 :: u45 :: u46 :: u47 :: u48 :: u49 :: u50 :: u51 :: u52 :: u53 :: u54 :: u55 :: u56 :: u57 :: u58 :: u59 :: u60 :: u61 :: u62 :: u63 :: u64 :: u65 :: u66 :: u67 :: u68 :: u69 :: u70 :: u71 :: u72 :: u73 :: u74 :: u75 :: u76 :: u77 :: u78 :: u79 :: u80 :: u81 :: u82 :: u83 :: u84 :: u85 :: u86 :: u87 :: u88 :: u89 :: u90 :: u91 :: u92 :: u93 :: u94 :: u95 :: u96 :: u97 :: u98 :: u99 :: u100 :: u101 :: u102 :: u103 :: u104 :: u105 :: u106 :: u107 :: u108 :: u109 :: u110 :: u111 :: u112 :: u113 :: u114 :: u115 :: u116 :: u117 :: u118 :: u119 :: u120 :: u121 :: u122 :: u123 :: u124 :: u125 :: u126 :: u127 :: u128 :: u129 :: u130 :: u131 :: u132 :: u133 :: u134 :: u135 :: u136 :: u137 :: u138 :: u139 :: u140 :: u141 :: u142 :: u143 :: u144 :: u145 :: u146 :: u147 :: u148 :: u149 :: u150 :: u151 :: u152 :: u153 :: u154 :: u155 :: u156 :: u157 :: u158 :: u159 :: u160 :: u161 :: u162 :: u163 :: u164 :: u165 :: u166 :: u167 :: u168 :: u169 :: u170 :: u171 :: u172 :: u173 :: u174 :: u175 :: u176 :: u177 :: u178 :: u179 :: u180 :: u181 :: u182 :: u183 :: u184 :: u185 :: u186 :: u187 :: u188 :: u189 :: u190 :: u191 :: u192 :: u193 :: u194 :: u195 :: u196 :: u197 :: u198 :: u199 :: u200 :: u201 :: u202 :: u203 :: u204 :: u205 :: []), defers := [] } W2) :
    (Code.region 4 (List.toArray (ma0 :: ma1 :: ma2 :: ma3 :: ma4 :: ma5 :: ma6 :: ma7 :: ma8 :: ma9 :: ma10 :: ma11 :: ma12 :: [])) true).wp Try.prog (Exit.then K (fun _ _ _ => False)) { tmps := List.toArray ((.pointer (some ⟨P.bw, 0, none⟩)) :: u1 :: u2 :: (.pointer (some ⟨A0, 0, none⟩)) :: u4 :: u5 :: u6 :: u7 :: u8 :: u9 :: u10 :: u11 :: u12 :: u13 :: u14 :: u15 :: u16 :: u17 :: u18 :: u19 :: u20 :: u21 :: u22 :: u23 :: u24 :: u25 :: u26 :: u27 :: u28 :: u29 :: u30 :: u31 :: u32 :: u33 :: u34 :: u35 :: u36 :: u37 :: u38 :: u39 :: u40 :: u41 :: u42 :: u43 :: u44 :: u45 :: u46 :: u47 :: u48 :: u49 :: u50 :: u51 :: u52 :: u53 :: u54 :: u55 :: u56 :: u57 :: u58 :: u59 :: u60 :: u61 :: u62 :: u63 :: u64 :: u65 :: u66 :: u67 :: u68 :: u69 :: u70 :: u71 :: u72 :: u73 :: u74 :: u75 :: u76 :: u77 :: u78 :: u79 :: u80 :: u81 :: u82 :: u83 :: u84 :: u85 :: u86 :: u87 :: u88 :: u89 :: u90 :: u91 :: u92 :: u93 :: u94 :: u95 :: u96 :: u97 :: u98 :: u99 :: u100 :: u101 :: u102 :: u103 :: u104 :: u105 :: u106 :: u107 :: u108 :: u109 :: u110 :: u111 :: u112 :: u113 :: u114 :: u115 :: u116 :: u117 :: u118 :: u119 :: u120 :: u121 :: u122 :: u123 :: u124 :: u125 :: u126 :: u127 :: u128 :: u129 :: u130 :: u131 :: u132 :: u133 :: u134 :: u135 :: u136 :: u137 :: u138 :: u139 :: u140 :: u141 :: u142 :: u143 :: u144 :: u145 :: u146 :: u147 :: u148 :: u149 :: u150 :: u151 :: u152 :: u153 :: u154 :: u155 :: u156 :: u157 :: u158 :: u159 :: u160 :: u161 :: u162 :: u163 :: u164 :: u165 :: u166 :: u167 :: u168 :: u169 :: u170 :: u171 :: u172 :: u173 :: u174 :: u175 :: u176 :: u177 :: u178 :: u179 :: u180 :: u181 :: u182 :: u183 :: u184 :: u185 :: u186 :: u187 :: u188 :: u189 :: u190 :: u191 :: u192 :: u193 :: u194 :: u195 :: u196 :: u197 :: u198 :: u199 :: u200 :: u201 :: u202 :: u203 :: u204 :: u205 :: []), defers := [] } V := by
  have HK := hide hK0
  have HH := hide h
  obtain ⟨vL, vA, vE, hbx, -⟩ := h.box
  have hlo := h.hp.lows
  have hdb := h.dt.lt
  have nA : ¬ (A0 = P.p ∨ A0 = P.g) := fun e => e.elim (fun e => blk_apQ hO h.hp.tb.box (by decide) e) (fun e => own_box h.hp.tb.row hO (by decide) (by rw [e]; rfl))
  have nB : ¬ (P.bw = P.p ∨ P.bw = P.g) := fun e => e.elim (h.apart _ h.bwO).1.2.1 (h.apart _ h.bwO).1.2.2
  have HLO := hide (show ∀ y, (y = P.p ∨ y = P.g) → y < V.heap.size from fun y e => by rcases e with e | e <;> omega)
  have HC := hide (fun wq (kq : Ch (fun y => y = P.p ∨ y = P.g) V wq) => show wq.cell? ⟨P.bw, 0, none⟩ = some (.pointer (some ⟨P.b, 0, none⟩)) ∧ wq.cell? ⟨A0, 3, none⟩ = some (.int .i64 o.kd) from by
    have e1 := Lib.cell_of_heap (kq.box hbx nB)
    have e2 := Lib.cell_of_heap (kq.box hO nA)
    exact ⟨by simp [e1], by simp [e2]⟩)
  clear hK0 h hO hbx nA nB hlo hdb
  refine wp_region_held_drew (S := Ch (fun y => y = P.p ∨ y = P.g) V) (by kernel_rfl) (Ch.drew _) (fun zk => ?_)
  apply tk 0 ma0 rfl (by kernel_rfl) (fun _ _ _ h => h) zk
  · intro wq zq
    go_simp
    try rfl
  go_frame
  apply tk 1 ma1 rfl (by kernel_rfl) (fun _ _ _ h => h) zk
  · intro wq zq
    go_simp
    try rfl
  go_frame
  apply tk 2 ma2 rfl (by kernel_rfl) (fun _ _ _ h => h) zk
  · intro wq zq
    go_simp
    try rfl
  go_frame
  apply tk 3 ma3 rfl (by kernel_rfl) (fun _ _ _ h => h) zk
  · intro wq zq
    obtain ⟨s0, s1⟩ := HC.out _ zq
    go_simp
    try rfl
  go_frame
  apply tk 4 ma4 rfl (by kernel_rfl) (fun _ _ _ h => h) zk
  · intro wq zq
    go_simp
    try rfl
  go_frame
  apply tk 5 ma5 rfl (by kernel_rfl) (fun _ _ _ h => h) zk
  · intro wq zq
    obtain ⟨s0, s1⟩ := HC.out _ zq
    go_simp
    try rfl
  go_frame
  refine wpAnyH_ready (rs := [6, 10]) (by kernel_rfl) (by simp) ?_
  refine AllReadyH.cons (o := ma6) rfl (fun K hK => ?_) (AllReadyH.cons (o := ma10) rfl (fun K hK => ?_) AllReadyH.nil)
  · go_simp
    refine (hmake_all (HH.out.quiet (Ch.drew (Q := fun _ => False) V)).hp (by omega) o.kd).mono ?_
    rintro e w4 ⟨rfl, hp4, hc4⟩
    have Z4 := hide ((Ch.drew (Q := fun y => y = P.p ∨ y = P.g) V).trans hc4 (fun _ _ h => h))
    have HP4 := hide hp4
    clear hp4 hc4
    go_wp2_with fail
    refine hK.out _ _ ?_ (fun zk => ?_)
    · exact Z4.out
    clear hK K
    try go_frame
    apply tk 7 ma7 rfl (by kernel_rfl) (fun _ _ _ h => h) zk
    · intro wq zq
      go_simp
      try rfl
    go_frame
    apply tk 8 ma8 rfl (by kernel_rfl) (fun _ _ _ h => h) zk
    · intro wq zq
      go_simp
      try rfl
    go_frame
    apply tk 9 ma9 rfl (by kernel_rfl) (fun _ _ _ h => h) zk
    · intro wq zq
      go_simp
      try rfl
    go_frame
    refine rd 10 ma10 rfl (by kernel_rfl) fun K hK => ?_
    go_simp
    refine hK.out _ _ ?_ (fun zk => ?_)
    · exact zk.trans (Ch.alloc (Q := fun y => y = P.p ∨ y = P.g) _ _) (fun _ _ h => h)
    clear hK K
    try go_frame
    have HAS := hide (show V.heap.size ≤ w4.heap.size from Z4.out.size)
    have hn := heap_new w4 (.cells #[.int .u32 0, .int .u32 0] 43)
    have hcA := Ch.alloc (Q := fun _ => False) w4 (.cells #[.int .u32 0, .int .u32 0] 43)
    generalize w4.alloc (.cells #[.int .u32 0, .int .u32 0] 43) = W5 at hn hcA zk ⊢
    have HN := hide hn
    have HP5 := hide (HP4.out.ch0 hcA)
    clear hn hcA
    obtain ⟨f1, f2, n0, n1, nf⟩ := fresh_store HN.out (mkS l P.M o.kd) (mkG l P.M o.kd)
    have F1 := hide f1
    have F2 := hide f2
    clear f1 f2
    refine rd 11 ma11 rfl (by kernel_rfl) fun K hK => ?_
    go_simp
    refine hK.out _ _ ?_ (fun zk => ?_)
    · exact zk.trans F2.out (fun x hx e => by have := HAS.out; omega)
    clear hK K
    try go_frame
    apply tk 12 ma12 rfl (by kernel_rfl) (fun _ _ _ h => h) zk
    · intro wq zq
      go_simp
      try rfl
    go_frame
    refine wpAnyH_done (by kernel_rfl) ?_ _
    exact HK.out w4.heap.size _ _ _ _ _ _ _ _ _ _ _ HAS.out F1.out (HH.out.make (HP5.out.ch F2.out (fun e => by have h1 := HAS.out; have h2 := HH.out.hp.lows; omega) (fun e => by have h1 := HAS.out; have h2 := HH.out.hp.lows; omega) (fun e => by have h1 := HAS.out; have h2 := HH.out.hp.lows; omega)) zk) zk
  · go_simp
    refine hK.out _ _ ?_ (fun zk => ?_)
    · exact zk.trans (Ch.alloc (Q := fun y => y = P.p ∨ y = P.g) _ _) (fun _ _ h => h)
    clear hK K
    try go_frame
    have HAS := hide (Nat.le_refl V.heap.size)
    have hn : (V.alloc (.cells #[.int .u32 0, .int .u32 0] 43)).drew.heap[V.heap.size]? = some (.cells #[.int .u32 0, .int .u32 0] 43) := heap_new V (.cells #[.int .u32 0, .int .u32 0] 43)
    have hcA : Ch (fun _ => False) V (V.alloc (.cells #[.int .u32 0, .int .u32 0] 43)).drew := (Ch.alloc _ _).trans (Ch.drew _) (fun _ _ h => h)
    replace zk := hcA.mono (Q' := fun y => y = P.p ∨ y = P.g) (fun _ _ h => h.elim)
    generalize (V.alloc (.cells #[.int .u32 0, .int .u32 0] 43)).drew = W3 at hn hcA zk ⊢
    have HN3 := hide hn
    have CA := hide hcA
    clear hn hcA
    refine rd 6 ma6 rfl (by kernel_rfl) fun K hK => ?_
    go_simp
    refine (hmake_all (HH.out.quiet CA.out).hp (by omega) o.kd).mono ?_
    rintro e w4 ⟨rfl, hp4, hc4⟩
    have Z4 := hide (zk.trans hc4 (fun _ _ h => h))
    have HP5 := hide hp4
    have HN := hide (hc4.box HN3.out (fun e => by have := HLO.out _ e; omega))
    clear hp4 hc4
    go_wp2_with fail
    refine hK.out _ _ ?_ (fun zk => ?_)
    · exact Z4.out
    clear hK K
    try go_frame
    apply tk 7 ma7 rfl (by kernel_rfl) (fun _ _ _ h => h) zk
    · intro wq zq
      go_simp
      try rfl
    go_frame
    apply tk 8 ma8 rfl (by kernel_rfl) (fun _ _ _ h => h) zk
    · intro wq zq
      go_simp
      try rfl
    go_frame
    apply tk 9 ma9 rfl (by kernel_rfl) (fun _ _ _ h => h) zk
    · intro wq zq
      go_simp
      try rfl
    go_frame
    obtain ⟨f1, f2, n0, n1, nf⟩ := fresh_store HN.out (mkS l P.M o.kd) (mkG l P.M o.kd)
    have F1 := hide f1
    have F2 := hide f2
    clear f1 f2
    refine rd 11 ma11 rfl (by kernel_rfl) fun K hK => ?_
    go_simp
    refine hK.out _ _ ?_ (fun zk => ?_)
    · exact zk.trans F2.out (fun x hx e => by have := HAS.out; omega)
    clear hK K
    try go_frame
    apply tk 12 ma12 rfl (by kernel_rfl) (fun _ _ _ h => h) zk
    · intro wq zq
      go_simp
      try rfl
    go_frame
    refine wpAnyH_done (by kernel_rfl) ?_ _
    exact HK.out V.heap.size _ _ _ _ _ _ _ _ _ _ _ HAS.out F1.out (HH.out.make (HP5.out.ch F2.out (fun e => by have h1 := HAS.out; have h2 := HH.out.hp.lows; omega) (fun e => by have h1 := HAS.out; have h2 := HH.out.hp.lows; omega) (fun e => by have h1 := HAS.out; have h2 := HH.out.hp.lows; omega)) zk) zk

set_option maxRecDepth 100000 in
set_option maxHeartbeats 8000000 in
theorem mk_b {P : Px} {V : World} {vT vl vw vD : Value} {l ld : List Th} {hs : List Hd} {L : List Lk} {aq : List Hd} {ls ws : List Value} {xs : List (List Hd)} {O : Nat → Prop} {o : Oq} {A0 : Nat} (h : SQ P V vT vl vw vD l ld hs L aq ls ws xs O) (hll : ld.length ≤ 1000) (hw : Wf ld P.M) (hM2 : P.M ≤ 500) (hO : V.heap[A0]? = some (.cells #[.int .i64 o.k, .int .i64 o.a, .int .i64 o.b, .int .i64 o.kd, .slice o.ra o.rn o.rc, .bool o.hd, .int .u32 o.s, .int .u32 o.g] 45 (0, 0)))
    {u1 u2 u4 u5 u6 u7 u8 u9 u10 u11 u12 u13 u14 u15 u16 u17 u18 u19 u20 u21 u22 u23 u24 u25 u26 u27 u28 u29 u30 u31 u32 u33 u34 u35 u36 u37 u38 u39 u40 u41 u42 u43 u44 u45 u46 u47 u48 u49 u50 u51 u52 u53 u54 u55 u56 u57 u58 u59 u60 u61 u62 u63 u64 u65 u66 u67 u68 u69 u70 u71 u72 u73 u74 u75 u76 u77 u78 u79 u80 u81 u82 u83 u84 u85 u86 u87 u88 u89 u90 u91 u92 u93 u94 u95 u96 u97 u98 u99 u100 u101 u102 u103 u104 u105 u106 u107 u108 u109 u110 u111 u112 u113 u114 u115 u116 u117 u118 u119 u120 u121 u122 u123 u124 u125 u126 u127 u128 u129 u130 u131 u132 u133 u134 u135 u136 u137 u138 u139 u140 u141 u142 u143 u144 u145 u146 u147 u148 u149 u150 u151 u152 u153 u154 u155 u156 u157 u158 u159 u160 u161 u162 u163 u164 u165 u166 u167 u168 u169 u170 u171 u172 u173 u174 u175 u176 u177 u178 u179 u180 u181 u182 u183 u184 u185 u186 u187 u188 u189 u190 u191 u192 u193 u194 u195 u196 u197 u198 u199 u200 u201 u202 u203 u204 u205 : Value} {K : Act → World → Prop} (hK0 : ∀ (A1 : Nat) (W2 : World) (vD2 : Value) (t35 t36 t37 t38 t39 t40 t41 t42 t43 t44 : Value), V.heap.size ≤ A1 → W2.heap[A1]? = some (.cells #[.int .u32 (mkS ld P.M o.kd), .int .u32 (mkG ld P.M o.kd)] 43 (0, 0)) → SQ P W2 vT vl vw vD2 l (mkL ld P.M o.kd) hs L aq ls ws xs O → Ch (fun y => y = P.db ∨ vD.ownBlock = some y) V W2 → K { tmps := List.toArray ((.pointer (some ⟨P.bw, 0, none⟩)) :: u1 :: u2 :: (.pointer (some ⟨A0, 0, none⟩)) :: u4 :: u5 :: u6 :: u7 :: (.pointer (some ⟨A1, 0, none⟩)) :: (.int .i64 (mkE ld P.M o.kd)) :: u10 :: u11 :: u12 :: u13 :: u14 :: u15 :: u16 :: u17 :: u18 :: u19 :: u20 :: u21 :: u22 :: u23 :: u24 :: u25 :: u26 :: u27 :: u28 :: u29 :: u30 :: u31 :: u32 :: u33 :: u34 :: (t35) :: (t36) :: (t37) :: (t38) :: (t39) :: (t40) :: (t41) :: (t42) :: (t43) :: (t44) :: u45 :: u46 :: u47 :: u48 :: u49 :: u50 :: u51 :: u52 :: u53 :: u54 :: u55 :: u56 :: u57 :: u58 :: u59 :: u60 :: u61 :: u62 :: u63 :: u64 :: u65 :: u66 :: u67 :: u68 :: u69 :: u70 :: u71 :: u72 :: u73 :: u74 :: u75 :: u76 :: u77 :: u78 :: u79 :: u80 :: u81 :: u82 :: u83 :: u84 :: u85 :: u86 :: u87 :: u88 :: u89 :: u90 :: u91 :: u92 :: u93 :: u94 :: u95 :: u96 :: u97 :: u98 :: u99 :: u100 :: u101 :: u102 :: u103 :: u104 :: u105 :: u106 :: u107 :: u108 :: u109 :: u110 :: u111 :: u112 :: u113 :: u114 :: u115 :: u116 :: u117 :: u118 :: u119 :: u120 :: u121 :: u122 :: u123 :: u124 :: u125 :: u126 :: u127 :: u128 :: u129 :: u130 :: u131 :: u132 :: u133 :: u134 :: u135 :: u136 :: u137 :: u138 :: u139 :: u140 :: u141 :: u142 :: u143 :: u144 :: u145 :: u146 :: u147 :: u148 :: u149 :: u150 :: u151 :: u152 :: u153 :: u154 :: u155 :: u156 :: u157 :: u158 :: u159 :: u160 :: u161 :: u162 :: u163 :: u164 :: u165 :: u166 :: u167 :: u168 :: u169 :: u170 :: u171 :: u172 :: u173 :: u174 :: u175 :: u176 :: u177 :: u178 :: u179 :: u180 :: u181 :: u182 :: u183 :: u184 :: u185 :: u186 :: u187 :: u188 :: u189 :: u190 :: u191 :: u192 :: u193 :: u194 :: u195 :: u196 :: u197 :: u198 :: u199 :: u200 :: u201 :: u202 :: u203 :: u204 :: u205 :: []), defers := [] } W2) :
    (Code.region 5 (List.toArray (mb0 :: mb1 :: mb2 :: mb3 :: mb4 :: mb5 :: mb6 :: mb7 :: mb8 :: mb9 :: mb10 :: mb11 :: mb12 :: [])) true).wp Try.prog (Exit.then K (fun _ _ _ => False)) { tmps := List.toArray ((.pointer (some ⟨P.bw, 0, none⟩)) :: u1 :: u2 :: (.pointer (some ⟨A0, 0, none⟩)) :: u4 :: u5 :: u6 :: u7 :: u8 :: u9 :: u10 :: u11 :: u12 :: u13 :: u14 :: u15 :: u16 :: u17 :: u18 :: u19 :: u20 :: u21 :: u22 :: u23 :: u24 :: u25 :: u26 :: u27 :: u28 :: u29 :: u30 :: u31 :: u32 :: u33 :: u34 :: u35 :: u36 :: u37 :: u38 :: u39 :: u40 :: u41 :: u42 :: u43 :: u44 :: u45 :: u46 :: u47 :: u48 :: u49 :: u50 :: u51 :: u52 :: u53 :: u54 :: u55 :: u56 :: u57 :: u58 :: u59 :: u60 :: u61 :: u62 :: u63 :: u64 :: u65 :: u66 :: u67 :: u68 :: u69 :: u70 :: u71 :: u72 :: u73 :: u74 :: u75 :: u76 :: u77 :: u78 :: u79 :: u80 :: u81 :: u82 :: u83 :: u84 :: u85 :: u86 :: u87 :: u88 :: u89 :: u90 :: u91 :: u92 :: u93 :: u94 :: u95 :: u96 :: u97 :: u98 :: u99 :: u100 :: u101 :: u102 :: u103 :: u104 :: u105 :: u106 :: u107 :: u108 :: u109 :: u110 :: u111 :: u112 :: u113 :: u114 :: u115 :: u116 :: u117 :: u118 :: u119 :: u120 :: u121 :: u122 :: u123 :: u124 :: u125 :: u126 :: u127 :: u128 :: u129 :: u130 :: u131 :: u132 :: u133 :: u134 :: u135 :: u136 :: u137 :: u138 :: u139 :: u140 :: u141 :: u142 :: u143 :: u144 :: u145 :: u146 :: u147 :: u148 :: u149 :: u150 :: u151 :: u152 :: u153 :: u154 :: u155 :: u156 :: u157 :: u158 :: u159 :: u160 :: u161 :: u162 :: u163 :: u164 :: u165 :: u166 :: u167 :: u168 :: u169 :: u170 :: u171 :: u172 :: u173 :: u174 :: u175 :: u176 :: u177 :: u178 :: u179 :: u180 :: u181 :: u182 :: u183 :: u184 :: u185 :: u186 :: u187 :: u188 :: u189 :: u190 :: u191 :: u192 :: u193 :: u194 :: u195 :: u196 :: u197 :: u198 :: u199 :: u200 :: u201 :: u202 :: u203 :: u204 :: u205 :: []), defers := [] } V := by
  have HK := hide hK0
  have HH := hide h
  obtain ⟨vL, vA, vE, hbx, -⟩ := h.box
  have hlo := h.hp.lows
  have hdb := h.dt.lt
  have nA : ¬ (A0 = P.db ∨ vD.ownBlock = some A0) := fun e => e.elim (fun e => blk_apQ hO h.dt.box (by decide) e) (fun e => own_box h.dt.row hO (by decide) e)
  have nB : ¬ (P.bw = P.db ∨ vD.ownBlock = some P.bw) := fun e => e.elim (h.apart _ h.bwO).2.1 (h.apart _ h.bwO).2.2
  have HLO := hide (show ∀ y, (y = P.db ∨ vD.ownBlock = some y) → y < V.heap.size from fun y e => by rcases e with e | e; omega; exact (own_in h.dt.row e).2.1)
  have HC := hide (fun wq (kq : Ch (fun y => y = P.db ∨ vD.ownBlock = some y) V wq) => show wq.cell? ⟨P.bw, 1, none⟩ = some (.pointer (some ⟨P.db, 0, none⟩)) ∧ wq.cell? ⟨A0, 3, none⟩ = some (.int .i64 o.kd) from by
    have e1 := Lib.cell_of_heap (kq.box hbx nB)
    have e2 := Lib.cell_of_heap (kq.box hO nA)
    exact ⟨by simp [e1], by simp [e2]⟩)
  clear hK0 h hO hbx nA nB hlo hdb
  refine wp_region_held_drew (S := Ch (fun y => y = P.db ∨ vD.ownBlock = some y) V) (by kernel_rfl) (Ch.drew _) (fun zk => ?_)
  apply tk 0 mb0 rfl (by kernel_rfl) (fun _ _ _ h => h) zk
  · intro wq zq
    go_simp
    try rfl
  go_frame
  apply tk 1 mb1 rfl (by kernel_rfl) (fun _ _ _ h => h) zk
  · intro wq zq
    go_simp
    try rfl
  go_frame
  apply tk 2 mb2 rfl (by kernel_rfl) (fun _ _ _ h => h) zk
  · intro wq zq
    go_simp
    try rfl
  go_frame
  apply tk 3 mb3 rfl (by kernel_rfl) (fun _ _ _ h => h) zk
  · intro wq zq
    obtain ⟨s0, s1⟩ := HC.out _ zq
    go_simp
    try rfl
  go_frame
  apply tk 4 mb4 rfl (by kernel_rfl) (fun _ _ _ h => h) zk
  · intro wq zq
    go_simp
    try rfl
  go_frame
  apply tk 5 mb5 rfl (by kernel_rfl) (fun _ _ _ h => h) zk
  · intro wq zq
    obtain ⟨s0, s1⟩ := HC.out _ zq
    go_simp
    try rfl
  go_frame
  refine wpAnyH_ready (rs := [6, 10]) (by kernel_rfl) (by simp) ?_
  refine AllReadyH.cons (o := mb6) rfl (fun K hK => ?_) (AllReadyH.cons (o := mb10) rfl (fun K hK => ?_) AllReadyH.nil)
  · go_simp
    refine (rmake_all (HH.out.quiet (Ch.drew (Q := fun _ => False) V)).dt (by omega) hw hM2 (HH.out.quiet (Ch.drew (Q := fun _ => False) V)).low o.kd).mono ?_
    rintro e w4 ⟨rfl, vD2, hp4, hc4⟩
    have Z4 := hide ((Ch.drew (Q := fun y => y = P.db ∨ vD.ownBlock = some y) V).trans hc4 (fun _ _ h => h))
    have HP4 := hide hp4
    clear hp4 hc4
    go_wp2_with fail
    refine hK.out _ _ ?_ (fun zk => ?_)
    · exact Z4.out
    clear hK K
    try go_frame
    apply tk 7 mb7 rfl (by kernel_rfl) (fun _ _ _ h => h) zk
    · intro wq zq
      go_simp
      try rfl
    go_frame
    apply tk 8 mb8 rfl (by kernel_rfl) (fun _ _ _ h => h) zk
    · intro wq zq
      go_simp
      try rfl
    go_frame
    apply tk 9 mb9 rfl (by kernel_rfl) (fun _ _ _ h => h) zk
    · intro wq zq
      go_simp
      try rfl
    go_frame
    refine rd 10 mb10 rfl (by kernel_rfl) fun K hK => ?_
    go_simp
    refine hK.out _ _ ?_ (fun zk => ?_)
    · exact zk.trans (Ch.alloc (Q := fun y => y = P.db ∨ vD.ownBlock = some y) _ _) (fun _ _ h => h)
    clear hK K
    try go_frame
    have HAS := hide (show V.heap.size ≤ w4.heap.size from Z4.out.size)
    have hn := heap_new w4 (.cells #[.int .u32 0, .int .u32 0] 43)
    have hcA := Ch.alloc (Q := fun _ => False) w4 (.cells #[.int .u32 0, .int .u32 0] 43)
    generalize w4.alloc (.cells #[.int .u32 0, .int .u32 0] 43) = W5 at hn hcA zk ⊢
    have HN := hide hn
    have HP5 := hide (HP4.out.quiet hcA)
    clear hn hcA
    obtain ⟨f1, f2, n0, n1, nf⟩ := fresh_store HN.out (mkS ld P.M o.kd) (mkG ld P.M o.kd)
    have F1 := hide f1
    have F2 := hide f2
    clear f1 f2
    refine rd 11 mb11 rfl (by kernel_rfl) fun K hK => ?_
    go_simp
    refine hK.out _ _ ?_ (fun zk => ?_)
    · exact zk.trans F2.out (fun x hx e => by have := HAS.out; omega)
    clear hK K
    try go_frame
    apply tk 12 mb12 rfl (by kernel_rfl) (fun _ _ _ h => h) zk
    · intro wq zq
      go_simp
      try rfl
    go_frame
    refine wpAnyH_done (by kernel_rfl) ?_ _
    exact HK.out w4.heap.size _ vD2 _ _ _ _ _ _ _ _ _ _ HAS.out F1.out (HH.out.doc (HP5.out.ch F2.out (fun e => by have h1 := HAS.out; have h2 := HH.out.dt.lt; omega) (fun y hy e => own_box HP5.out.row HN.out (by decide) (by rw [← e]; exact hy))) zk) zk
  · go_simp
    refine hK.out _ _ ?_ (fun zk => ?_)
    · exact zk.trans (Ch.alloc (Q := fun y => y = P.db ∨ vD.ownBlock = some y) _ _) (fun _ _ h => h)
    clear hK K
    try go_frame
    have HAS := hide (Nat.le_refl V.heap.size)
    have hn : (V.alloc (.cells #[.int .u32 0, .int .u32 0] 43)).drew.heap[V.heap.size]? = some (.cells #[.int .u32 0, .int .u32 0] 43) := heap_new V (.cells #[.int .u32 0, .int .u32 0] 43)
    have hcA : Ch (fun _ => False) V (V.alloc (.cells #[.int .u32 0, .int .u32 0] 43)).drew := (Ch.alloc _ _).trans (Ch.drew _) (fun _ _ h => h)
    replace zk := hcA.mono (Q' := fun y => y = P.db ∨ vD.ownBlock = some y) (fun _ _ h => h.elim)
    generalize (V.alloc (.cells #[.int .u32 0, .int .u32 0] 43)).drew = W3 at hn hcA zk ⊢
    have HN3 := hide hn
    have CA := hide hcA
    clear hn hcA
    refine rd 6 mb6 rfl (by kernel_rfl) fun K hK => ?_
    go_simp
    refine (rmake_all (HH.out.quiet CA.out).dt (by omega) hw hM2 (HH.out.quiet CA.out).low o.kd).mono ?_
    rintro e w4 ⟨rfl, vD2, hp4, hc4⟩
    have Z4 := hide (zk.trans hc4 (fun _ _ h => h))
    have HP5 := hide hp4
    have HN := hide (hc4.box HN3.out (fun e => by have := HLO.out _ e; omega))
    clear hp4 hc4
    go_wp2_with fail
    refine hK.out _ _ ?_ (fun zk => ?_)
    · exact Z4.out
    clear hK K
    try go_frame
    apply tk 7 mb7 rfl (by kernel_rfl) (fun _ _ _ h => h) zk
    · intro wq zq
      go_simp
      try rfl
    go_frame
    apply tk 8 mb8 rfl (by kernel_rfl) (fun _ _ _ h => h) zk
    · intro wq zq
      go_simp
      try rfl
    go_frame
    apply tk 9 mb9 rfl (by kernel_rfl) (fun _ _ _ h => h) zk
    · intro wq zq
      go_simp
      try rfl
    go_frame
    obtain ⟨f1, f2, n0, n1, nf⟩ := fresh_store HN.out (mkS ld P.M o.kd) (mkG ld P.M o.kd)
    have F1 := hide f1
    have F2 := hide f2
    clear f1 f2
    refine rd 11 mb11 rfl (by kernel_rfl) fun K hK => ?_
    go_simp
    refine hK.out _ _ ?_ (fun zk => ?_)
    · exact zk.trans F2.out (fun x hx e => by have := HAS.out; omega)
    clear hK K
    try go_frame
    apply tk 12 mb12 rfl (by kernel_rfl) (fun _ _ _ h => h) zk
    · intro wq zq
      go_simp
      try rfl
    go_frame
    refine wpAnyH_done (by kernel_rfl) ?_ _
    exact HK.out V.heap.size _ vD2 _ _ _ _ _ _ _ _ _ _ HAS.out F1.out (HH.out.doc (HP5.out.ch F2.out (fun e => by have h1 := HAS.out; have h2 := HH.out.dt.lt; omega) (fun y hy e => own_box HP5.out.row HN.out (by decide) (by rw [← e]; exact hy))) zk) zk

end Go.Proofs.Ytcogiklnegpfiaa

namespace Go.Proofs.Ytcogiklnegpfiaa
open Go.RowKit Go.Shelf

abbrev mt0 : Oper := { dst := some 47, op := Op.move (Operand.tmp 0), type := 28, pos := "law.go:172", after := #[], guard := none }
abbrev mt1 : Oper := { dst := some 48, op := Op.move (Operand.tmp 0), type := 28, pos := "law.go:172", after := #[], guard := none }
abbrev mt2 : Oper := { dst := some 49, op := Op.nilCheck (Operand.tmp 48), type := 0, pos := "law.go:172", after := #[{ on := 1, ground := Ground.data }], guard := none }
abbrev mt3 : Oper := { dst := some 50, op := Op.fieldAddr 37 (Operand.tmp 49) 3, type := 0, pos := "law.go:172", after := #[{ on := 2, ground := Ground.data }], guard := none }
abbrev mt4 : Oper := { dst := some 51, op := Op.load 34 (Operand.tmp 50), type := 34, pos := "law.go:172", after := #[{ on := 3, ground := Ground.data }], guard := none }
abbrev mt5 : Oper := { dst := some 52, op := Op.load 43 (Operand.tmp 8), type := 43, pos := "law.go:172", after := #[], guard := none }
abbrev mt6 : Oper := { dst := some 53, op := Op.buildSlice 34 1 #[(0, Operand.tmp 52)], type := 34, pos := "law.go:172", after := #[{ on := 5, ground := Ground.data }], guard := none }
abbrev mt7 : Oper := { dst := some 54, op := Op.call { callee := Callee.builtin Builtin.append, args := #[Operand.tmp 51, Operand.tmp 53], argTypes := #[34, 34] }, type := 34, pos := "law.go:172", after := #[{ on := 4, ground := Ground.data }, { on := 6, ground := Ground.data }], guard := none }
abbrev mt8 : Oper := { dst := some 55, op := Op.nilCheck (Operand.tmp 47), type := 0, pos := "law.go:172", after := #[{ on := 0, ground := Ground.data }, { on := 0, ground := Ground.phase }, { on := 1, ground := Ground.phase }, { on := 2, ground := Ground.phase }, { on := 3, ground := Ground.phase }, { on := 4, ground := Ground.phase }, { on := 5, ground := Ground.phase }, { on := 6, ground := Ground.phase }, { on := 7, ground := Ground.phase }], guard := none }
abbrev mt9 : Oper := { dst := some 56, op := Op.fieldAddr 37 (Operand.tmp 55) 3, type := 0, pos := "law.go:172", after := #[{ on := 8, ground := Ground.data }, { on := 0, ground := Ground.phase }, { on := 1, ground := Ground.phase }, { on := 2, ground := Ground.phase }, { on := 3, ground := Ground.phase }, { on := 4, ground := Ground.phase }, { on := 5, ground := Ground.phase }, { on := 6, ground := Ground.phase }, { on := 7, ground := Ground.phase }], guard := none }
abbrev mt10 : Oper := { dst := none, op := Op.store 34 (Operand.tmp 56) (Operand.tmp 54), type := 0, pos := "law.go:172", after := #[{ on := 9, ground := Ground.data }, { on := 7, ground := Ground.data }, { on := 7, ground := Ground.chain }, { on := 0, ground := Ground.phase }, { on := 1, ground := Ground.phase }, { on := 2, ground := Ground.phase }, { on := 3, ground := Ground.phase }, { on := 4, ground := Ground.phase }, { on := 5, ground := Ground.phase }, { on := 6, ground := Ground.phase }, { on := 7, ground := Ground.phase }], guard := none }

set_option maxRecDepth 100000 in
set_option maxHeartbeats 16000000 in
theorem step_make {P : Px} {w : World} {vT vl vw vD : Value} {l : List Th} {L : List Lk} {aq : List Hd} {ls ws : List Value} {xs : List (List Hd)} {O : Nat → Prop} (h : SQ P w vT vl vw vD l l (hnds l) L aq ls ws xs O) {o : Oq} {rs : List Int} (hrt : RtsAt P.N w o rs) (us : Us o.s) (ha : I64 o.a) (hb : I64 o.b) (hk : o.k = 1) (hll : l.length ≤ 1000) (hls : ls.length ≤ 1000) :
    Calls Try.prog 8 #[.pointer (some ⟨P.bw, 0, none⟩), opV o] w fun e w' => e = .returned (.bool true) ∧ StepI P w w' l xs := by
  have HK := hide hk
  have hu1 := hll
  have hu2 := hls
  clear hk hu1 hu2
  have hhl : (hnds l).length ≤ 100000 := by unfold hnds; rw [List.length_map]; omega
  obtain ⟨w1, hw1⟩ : ∃ w1, w.alloc (.cells #[.int .i64 o.k, .int .i64 o.a, .int .i64 o.b, .int .i64 o.kd, .slice o.ra o.rn o.rc, .bool o.hd, .int .u32 o.s, .int .u32 o.g] 45) = w1 := ⟨_, rfl⟩
  have hB1 : Below w.heap.size w w1 := by rw [← hw1]; exact below1 _ _
  have hn1 : w1.heap[w.heap.size]? = some (.cells #[.int .i64 o.k, .int .i64 o.a, .int .i64 o.b, .int .i64 o.kd, .slice o.ra o.rn o.rc, .bool o.hd, .int .u32 o.s, .int .u32 o.g] 45 (0, 0)) := by rw [← hw1]; exact heap_new _ _
  have c1 := Ch.of_below (Q := fun _ => False) hB1
  have hs1 := h.quiet c1
  have HHD := hide (fun c (hc : I64 c) V (cV : Ch (fun _ => False) w1 V) => show Calls Try.prog 14 #[.pointer (some ⟨P.bw, 0, none⟩), .int .i64 c, .agg #[.int .i64 o.k, .int .i64 o.a, .int .i64 o.b, .int .i64 o.kd, .slice o.ra o.rn o.rc, .bool o.hd, .int .u32 o.s, .int .u32 o.g]] V fun e w' => e = .returned (hv (hdlW (hnds l) c o).1 (hdlW (hnds l) c o).2) ∧ Below V.heap.size V w' from by
    obtain ⟨vL, vA, vE, hb, -⟩ := (hs1.quiet cV).box
    exact handle_is hb rfl (hs1.quiet cV).tr hhl hc _)
  have husx := hdl_us h.hp.tb.wf h.hp.tb.m2 o.a o us
  have HUB := hide (hdl_us h.hp.tb.wf h.hp.tb.m2 o.b o us)
  obtain ⟨x1, x2, hx12⟩ : ∃ x1 x2, hdlW (hnds l) o.a o = (x1, x2) := ⟨_, _, rfl⟩
  have HHA := HHD.out o.a ha
  rw [hx12] at HHA husx
  have HHA := hide HHA
  have HUX := hide husx
  have E1 := hide hn1
  have H1 := hide hs1
  have B1 := hide hB1
  have HLW := hide h.low
  have HIB := hide hb
  have HRT := hide (show ∀ V, Below P.N w V → RtsAt P.N V o rs from fun V bV => by
    obtain ⟨h1, h2, h3, h4⟩ := hrt
    exact ⟨h1, h2, fun h0 => by
      obtain ⟨b', f', e, hb', hc'⟩ := h3 h0
      exact ⟨b', f', e, hb', fun i hi => (bV.cell (p := ⟨b', _, none⟩) hb').trans (hc' i hi)⟩, h4⟩)
  obtain ⟨s0, s1, s2, s3, s4, s5, s6, s7⟩ : w1.cell? ⟨w.heap.size, 0, none⟩ = some (.int .i64 o.k) ∧ w1.cell? ⟨w.heap.size, 1, none⟩ = some (.int .i64 o.a) ∧ w1.cell? ⟨w.heap.size, 2, none⟩ = some (.int .i64 o.b) ∧ w1.cell? ⟨w.heap.size, 3, none⟩ = some (.int .i64 o.kd) ∧ w1.cell? ⟨w.heap.size, 4, none⟩ = some (.slice o.ra o.rn o.rc) ∧ w1.cell? ⟨w.heap.size, 5, none⟩ = some (.bool o.hd) ∧ w1.cell? ⟨w.heap.size, 6, none⟩ = some (.int .u32 o.s) ∧ w1.cell? ⟨w.heap.size, 7, none⟩ = some (.int .u32 o.g) := by
    have e := Lib.cell_of_heap hn1
    exact ⟨by simp [e], by simp [e], by simp [e], by simp [e], by simp [e], by simp [e], by simp [e], by simp [e]⟩
  clear h hs1 hrt hn1 hB1 c1 hhl husx hx12 ha hb
  go_enter Try.func8, Try.ntmps8
  go_wp2_with fail
  try rw [hw1]
  clear hw1 s0 s1 s2 s3 s4 s5 s6 s7
  refine (HHA.out w1 (Ch.refl _ _)).mono ?_
  rintro e w2 ⟨rfl, hb2⟩
  obtain ⟨V3, hV3⟩ : ∃ V3, w2.alloc (.cells #[.int .u32 x1, .int .u32 x2] 43) = V3 := ⟨_, rfl⟩
  have c13 : Ch (fun _ => False) w1 V3 := by rw [← hV3]; exact (Ch.of_below hb2).trans (Ch.alloc _ _) (fun _ _ h => h)
  have e3 : V3.heap[w2.heap.size]? = some (.cells #[.int .u32 x1, .int .u32 x2] 43 (0, 0)) := by rw [← hV3]; exact heap_new _ _
  have C13 := hide c13
  have H3 := hide (H1.out.quiet c13)
  have E3 := hide (c13.box E1.out (fun h => h))
  have X3 := hide e3
  have B3 := hide (show Below P.N w V3 from (B1.out.mono HLW.out).trans (c13.below (Nat.le_trans HLW.out B1.out.size) (fun _ _ h => h)))
  have HWF := hide (And.intro H3.out.hp.tb.wf (And.intro H3.out.hp.tb.lt H3.out.hp.tb.m2))
  have u0 : V3.cell? ⟨w.heap.size, 0, none⟩ = some (.int .i64 o.k) := by simp [Lib.cell_of_heap E3.out]
  have HX := hide (fun wq (kq : Ch (fun _ => False) V3 wq) => show (wq.cell? ⟨w2.heap.size, 0, none⟩ = some (.int .u32 x1) ∧ wq.cell? ⟨w2.heap.size, 1, none⟩ = some (.int .u32 x2)) ∧ wq.cell? ⟨w.heap.size, 0, none⟩ = some (.int .i64 o.k) ∧ wq.cell? ⟨w.heap.size, 1, none⟩ = some (.int .i64 o.a) ∧ wq.cell? ⟨w.heap.size, 2, none⟩ = some (.int .i64 o.b) ∧ wq.cell? ⟨w.heap.size, 3, none⟩ = some (.int .i64 o.kd) ∧ wq.cell? ⟨w.heap.size, 4, none⟩ = some (.slice o.ra o.rn o.rc) ∧ wq.cell? ⟨w.heap.size, 5, none⟩ = some (.bool o.hd) ∧ wq.cell? ⟨w.heap.size, 6, none⟩ = some (.int .u32 o.s) ∧ wq.cell? ⟨w.heap.size, 7, none⟩ = some (.int .u32 o.g) from by
    have e1 := Lib.cell_of_heap (kq.box X3.out (fun h => h))
    have e2 := Lib.cell_of_heap (kq.box E3.out (fun h => h))
    exact ⟨⟨by simp [e1], by simp [e1]⟩, by simp [e2], by simp [e2], by simp [e2], by simp [e2], by simp [e2], by simp [e2], by simp [e2], by simp [e2]⟩)
  clear hb2 c13 e3
  have hk := HK.out
  have t1 : (o.k == 1) = true := by rw [hk]; rfl
  have t2 : (o.k == 2) = false := by rw [hk]; rfl
  have t3 : (o.k == 3) = false := by rw [hk]; rfl
  have t4 : (o.k == 4) = false := by rw [hk]; rfl
  have t5 : (o.k == 5) = false := by rw [hk]; rfl
  have t6 : (o.k == 6) = false := by rw [hk]; rfl
  have t7 : (o.k == 7) = false := by rw [hk]; rfl
  clear hk
  have hhl2 : (hnds l).length ≤ 1000 := by unfold hnds; rw [List.length_map]; omega
  have HHL := hide hhl2
  clear hhl2
  obtain ⟨i0, hi0, hy0, hy1, hy2⟩ := nf_open info_hd
  go_wp2
  clear hV3 u0
  refine wp_then (mk_a H3.out hll E3.out (fun A1 W4 t25 t26 t27 t28 t29 t30 t31 t32 t33 t34 hA1 hn1 hs4 hc4 => ?_))
  have H4 := hide hs4
  have N1 := hide hn1
  have C4 := hide hc4
  have HA1 := hide hA1
  have E4 := hide (hc4.box E3.out (fun e => e.elim (fun e => blk_apQ E3.out H3.out.hp.tb.box (by decide) e) (fun e => own_box H3.out.hp.tb.row E3.out (by decide) (by rw [e]; rfl))))
  clear hs4 hn1 hc4 hA1
  go_wp2
  refine wp_then (mk_b H4.out hll HWF.out.1 HWF.out.2.2 E4.out (fun A2 W5 vD2 t35 t36 t37 t38 t39 t40 t41 t42 t43 t44 hA2 hn2 hs5 hc5 => ?_))
  have H5 := hide hs5
  have HA1' := HA1.out
  have hz4 := C4.out.size
  have N15 := hide (hc5.box N1.out (fun e => e.elim (fun e => by have := H3.out.dt.lt; omega) (fun e => by have := (own_in H3.out.dt.row e).2.1; omega)))
  have hlo := H3.out.hp.lows
  have B5 := hide (show Below P.N w W5 from (B3.out.trans (C4.out.below (Nat.le_trans HLW.out B3.out.size) (fun y hy e => by
    have := H3.out.nb
    rcases e with e | e <;> omega))).trans (hc5.below H4.out.low (fun y hy e => by
    have := H3.out.nb
    rcases e with e | e
    · omega
    · have := (own_in H3.out.dt.row e).1; omega)))
  obtain ⟨vL, vA, vE, hbx, -⟩ := H5.out.box
  obtain ⟨Ta, Tc, hvT, -, -⟩ := H5.out.tr.form
  have HBX := hide hbx
  have n1 : ¬ (A1 = P.bw ∨ vT.ownBlock = some A1) := fun e => e.elim (fun e => blk_apQ N15.out hbx (by decide) e) (fun e => by have := (H3.out.own vT (by simp) _ e).1; omega)
  have n2 : ¬ (A2 = P.bw ∨ vT.ownBlock = some A2) := fun e => e.elim (fun e => blk_apQ hn2 hbx (by decide) e) (fun e => by have := (H3.out.own vT (by simp) _ e).1; omega)
  have HLN := hide (mkL_len l P.M o.kd)
  have HHN0 := hide (mk_hnds l P.M o.kd)
  have HX5 := hide (fun wq (kq : Ch (fun y => y = P.bw ∨ vT.ownBlock = some y) W5 wq) => show (wq.cell? ⟨A1, 0, none⟩ = some (.int .u32 (mkS l P.M o.kd)) ∧ wq.cell? ⟨A1, 1, none⟩ = some (.int .u32 (mkG l P.M o.kd))) ∧ wq.cell? ⟨A2, 0, none⟩ = some (.int .u32 (mkS l P.M o.kd)) ∧ wq.cell? ⟨A2, 1, none⟩ = some (.int .u32 (mkG l P.M o.kd)) from by
    have e1 := Lib.cell_of_heap (kq.box N15.out n1)
    have e2 := Lib.cell_of_heap (kq.box hn2 n2)
    exact ⟨⟨by simp [e1], by simp [e1]⟩, by simp [e2], by simp [e2]⟩)
  have HT5 := hide (fun V (cV : Ch (fun _ => False) W5 V) => show V.cell? ⟨P.bw, 3, none⟩ = some vT from by simp [Lib.cell_of_heap (cV.box hbx (fun h => h))])
  clear hs5 hc5 hn2 hA2 HA1' hz4 hlo hbx n1 n2
  by_cases hE : mkE l P.M o.kd = 0
  · have HHN := hide (show hnds l ++ [(mkS l P.M o.kd, mkG l P.M o.kd)] = hnds (mkL l P.M o.kd) by rw [HHN0.out, if_pos hE])
    rw [hE]
    have HE := hide hE
    clear hE
    obtain ⟨ms, hms⟩ : ∃ ms, mkS l P.M o.kd = ms := ⟨_, rfl⟩
    obtain ⟨mg, hmg⟩ : ∃ mg, mkG l P.M o.kd = mg := ⟨_, rfl⟩
    rw [hms, hmg] at HX5 HHN
    clear hms hmg HHN0
    subst hvT
    go_wp2
    refine wp_reg (fun y => y = P.bw ∨ (Value.slice Ta (hnds l).length Tc).ownBlock = some y) (R := fun V => Ch (fun _ => False) W5 V) (by kernel_rfl) (Ch.drew _) (fun V cV zk => ?_)
    have CV := hide cV
    have HSV := hide (H5.out.quiet cV)
    clear cV
    have HC := hide (fun wq (kq : Ch (fun y => y = P.bw ∨ (Value.slice Ta (hnds l).length Tc).ownBlock = some y) V wq) => HX5.out wq ((CV.out.mono (Q' := fun y => y = P.bw ∨ (Value.slice Ta (hnds l).length Tc).ownBlock = some y) (fun _ _ h => h.elim)).trans kq (fun _ _ h => h)))
    apply tk 0 mt0 rfl (by kernel_rfl) (fun _ _ _ h => h) zk
    · intro wq zq
      go_simp
      try rfl
    go_frame
    apply tk 1 mt1 rfl (by kernel_rfl) (fun _ _ _ h => h) zk
    · intro wq zq
      go_simp
      try rfl
    go_frame
    apply tk 2 mt2 rfl (by kernel_rfl) (fun _ _ _ h => h) zk
    · intro wq zq
      go_simp
      try rfl
    go_frame
    apply tk 3 mt3 rfl (by kernel_rfl) (fun _ _ _ h => h) zk
    · intro wq zq
      go_simp
      try rfl
    go_frame
    apply tk 5 mt5 rfl (by kernel_rfl) (fun _ _ _ h => h) zk
    · intro wq zq
      obtain ⟨s0, s1⟩ := (HC.out _ zq).2
      go_simp
      try rfl
    go_frame
    refine wpAnyH_ready (rs := [4, 6]) (by kernel_rfl) (by simp) ?_
    refine AllReadyH.cons (o := mt4) rfl (fun K hK => ?_) (AllReadyH.cons (o := mt6) rfl (fun K hK => ?_) AllReadyH.nil)
    · have s0 := HT5.out V CV.out
      go_simp
      refine hK.out _ _ ?_ (fun zk => ?_)
      · exact zk
      clear hK K
      try go_frame
      refine rd 6 mt6 rfl (by kernel_rfl) fun K hK => ?_
      go_simp
      refine hK.out _ _ ?_ (fun zk => ?_)
      · exact zk.trans (Ch.alloc (Q := fun y => y = P.bw ∨ (Value.slice Ta (hnds l).length Tc).ownBlock = some y) _ _) (fun _ _ h => h)
      clear hK K
      try go_frame
      have HM5 := hide (show P.N ≤ (V.alloc (.cells #[.int .u32 ms, .int .u32 mg] 43)).heap.size by rw [World.size_alloc]; have := HSV.out.low; omega)
      refine rd 7 mt7 rfl (by kernel_rfl) fun K hK => ?_
      refine step_append_at rfl (.tmp 51) (.tmp 53) 34 rfl P.N 43 i0 (.agg #[.int .u32 0, .int .u32 0]) 2 8 Try.underlying34 hi0 hy0 hy1 hy2 rfl (by decide) (.slice Ta (hnds l).length Tc) (hnds l).length ((hnds l).flatMap hF) rfl (World.ownsRow.alloc (show V.ownsRow P.N 43 2 (.slice Ta (hnds l).length Tc) (hnds l).length ((hnds l).flatMap hF) from HSV.out.tr) (.cells #[.int .u32 ms, .int .u32 mg] 43)) ⟨V.heap.size, 0, none⟩ 1 1 (hF (ms, mg)) rfl rfl (row_new V (hF (ms, mg)) 43 rfl) (hF_one _) (by unfold maxLen; have := HHL.out; omega) (by have := HHL.out; omega) HM5.out ?_
      intro v6 w16 hr6 hg6 ho6
      have X6 := hide (SQ.told HSV.out hr6 hg6 (ho6.imp_right fun e => ⟨_, by rw [World.size_alloc]; exact Nat.le_succ _, e⟩))
      have Z6 := hide (zk.trans (Ch.of_grown (Q := fun y => y = P.bw ∨ (Value.slice Ta (hnds l).length Tc).ownBlock = some y) hg6 (fun y e => Or.inr e)) (fun _ _ h => h))
      obtain ⟨a6, n6, c6, rfl⟩ := own_form hr6
      clear hr6 hg6 ho6
      refine hK.out _ _ ?_ (fun zk => ?_)
      · exact Z6.out
      clear hK K
      try go_frame
      apply tk 8 mt8 rfl (by kernel_rfl) (fun _ _ _ h => h) zk
      · intro wq zq
        go_simp
        try rfl
      go_frame
      apply tk 9 mt9 rfl (by kernel_rfl) (fun _ _ _ h => h) zk
      · intro wq zq
        go_simp
        try rfl
      go_frame
      have y6 := X6.out.2.2.1
      have f6 := X6.out.2.2.2
      refine rd 10 mt10 rfl (by kernel_rfl) fun K hK => ?_
      go_simp
      refine hK.out _ _ ?_ (fun zk => ?_)
      · exact zk.trans (Ch.set (Q := fun y => y = P.bw ∨ (Value.slice Ta (hnds l).length Tc).ownBlock = some y) _ (Or.inl rfl) _ _) (fun _ _ h => h)
      clear hK K
      try go_frame
      refine wpAnyH_done (by kernel_rfl) ?_ _
      have HFB := hide (show Below P.N w (w16.setCell ⟨P.bw, 3, none⟩ (.slice a6 n6 c6)) from (B5.out.trans (CV.out.below (Nat.le_trans HLW.out B5.out.size) (fun _ _ h => h))).trans (X6.out.2.1.below HSV.out.low (fun y hy e => by
        rcases e with e | e
        · have := HSV.out.nb.1; omega
        · have := (HSV.out.own (.slice Ta (hnds l).length Tc) (by simp) y e).1.1; omega)))
      have HF6 := hide (show SQ P (w16.setCell ⟨P.bw, 3, none⟩ (.slice a6 n6 c6)) (.slice a6 n6 c6) vl vw vD2 (mkL l P.M o.kd) (mkL l P.M o.kd) (hnds (mkL l P.M o.kd)) L aq ls ws xs O from HHN.out ▸ X6.out.1)
      obtain ⟨⟨s0, s1⟩, s2, s3⟩ := HX5.out _ ((CV.out.mono (Q' := fun y => y = P.bw ∨ (Value.slice Ta (hnds l).length Tc).ownBlock = some y) (fun _ _ h => h.elim)).trans X6.out.2.1 (fun _ _ h => h))
      clear y6 f6
      go_wp2
      go_ret
      exact ⟨rfl, ⟨_, vl, vw, vD2, _, L, aq, ls, ws, xs, O, HF6.out, HLN.out, by omega, fun h => h⟩, HFB.out⟩
    · go_simp
      refine hK.out _ _ ?_ (fun zk => ?_)
      · exact zk.trans (Ch.alloc (Q := fun y => y = P.bw ∨ (Value.slice Ta (hnds l).length Tc).ownBlock = some y) _ _) (fun _ _ h => h)
      clear hK K
      try go_frame
      refine rd 4 mt4 rfl (by kernel_rfl) fun K hK => ?_
      have s0 := HT5.out _ (CV.out.trans (Ch.alloc _ (.cells #[.int .u32 ms, .int .u32 mg] 43)) (fun _ _ h => h))
      go_simp
      refine hK.out _ _ ?_ (fun zk => ?_)
      · exact zk
      clear hK K
      try go_frame
      have HM5 := hide (show P.N ≤ (V.alloc (.cells #[.int .u32 ms, .int .u32 mg] 43)).heap.size by rw [World.size_alloc]; have := HSV.out.low; omega)
      refine rd 7 mt7 rfl (by kernel_rfl) fun K hK => ?_
      refine step_append_at rfl (.tmp 51) (.tmp 53) 34 rfl P.N 43 i0 (.agg #[.int .u32 0, .int .u32 0]) 2 8 Try.underlying34 hi0 hy0 hy1 hy2 rfl (by decide) (.slice Ta (hnds l).length Tc) (hnds l).length ((hnds l).flatMap hF) rfl (World.ownsRow.alloc (show V.ownsRow P.N 43 2 (.slice Ta (hnds l).length Tc) (hnds l).length ((hnds l).flatMap hF) from HSV.out.tr) (.cells #[.int .u32 ms, .int .u32 mg] 43)) ⟨V.heap.size, 0, none⟩ 1 1 (hF (ms, mg)) rfl rfl (row_new V (hF (ms, mg)) 43 rfl) (hF_one _) (by unfold maxLen; have := HHL.out; omega) (by have := HHL.out; omega) HM5.out ?_
      intro v6 w16 hr6 hg6 ho6
      have X6 := hide (SQ.told HSV.out hr6 hg6 (ho6.imp_right fun e => ⟨_, by rw [World.size_alloc]; exact Nat.le_succ _, e⟩))
      have Z6 := hide (zk.trans (Ch.of_grown (Q := fun y => y = P.bw ∨ (Value.slice Ta (hnds l).length Tc).ownBlock = some y) hg6 (fun y e => Or.inr e)) (fun _ _ h => h))
      obtain ⟨a6, n6, c6, rfl⟩ := own_form hr6
      clear hr6 hg6 ho6
      refine hK.out _ _ ?_ (fun zk => ?_)
      · exact Z6.out
      clear hK K
      try go_frame
      apply tk 8 mt8 rfl (by kernel_rfl) (fun _ _ _ h => h) zk
      · intro wq zq
        go_simp
        try rfl
      go_frame
      apply tk 9 mt9 rfl (by kernel_rfl) (fun _ _ _ h => h) zk
      · intro wq zq
        go_simp
        try rfl
      go_frame
      have y6 := X6.out.2.2.1
      have f6 := X6.out.2.2.2
      refine rd 10 mt10 rfl (by kernel_rfl) fun K hK => ?_
      go_simp
      refine hK.out _ _ ?_ (fun zk => ?_)
      · exact zk.trans (Ch.set (Q := fun y => y = P.bw ∨ (Value.slice Ta (hnds l).length Tc).ownBlock = some y) _ (Or.inl rfl) _ _) (fun _ _ h => h)
      clear hK K
      try go_frame
      refine wpAnyH_done (by kernel_rfl) ?_ _
      have HFB := hide (show Below P.N w (w16.setCell ⟨P.bw, 3, none⟩ (.slice a6 n6 c6)) from (B5.out.trans (CV.out.below (Nat.le_trans HLW.out B5.out.size) (fun _ _ h => h))).trans (X6.out.2.1.below HSV.out.low (fun y hy e => by
        rcases e with e | e
        · have := HSV.out.nb.1; omega
        · have := (HSV.out.own (.slice Ta (hnds l).length Tc) (by simp) y e).1.1; omega)))
      have HF6 := hide (show SQ P (w16.setCell ⟨P.bw, 3, none⟩ (.slice a6 n6 c6)) (.slice a6 n6 c6) vl vw vD2 (mkL l P.M o.kd) (mkL l P.M o.kd) (hnds (mkL l P.M o.kd)) L aq ls ws xs O from HHN.out ▸ X6.out.1)
      obtain ⟨⟨s0, s1⟩, s2, s3⟩ := HX5.out _ ((CV.out.mono (Q' := fun y => y = P.bw ∨ (Value.slice Ta (hnds l).length Tc).ownBlock = some y) (fun _ _ h => h.elim)).trans X6.out.2.1 (fun _ _ h => h))
      clear y6 f6
      go_wp2
      go_ret
      exact ⟨rfl, ⟨_, vl, vw, vD2, _, L, aq, ls, ws, xs, O, HF6.out, HLN.out, by omega, fun h => h⟩, HFB.out⟩
  · have HHN := hide (show hnds l = hnds (mkL l P.M o.kd) by rw [HHN0.out, if_neg hE])
    have qe : (mkE l P.M o.kd == 0) = false := by simpa using hE
    have HF5 := hide (show SQ P W5 vT vl vw vD2 (mkL l P.M o.kd) (mkL l P.M o.kd) (hnds (mkL l P.M o.kd)) L aq ls ws xs O from HHN.out ▸ H5.out)
    obtain ⟨⟨s0, s1⟩, s2, s3⟩ := HX5.out W5 (Ch.refl _ _)
    generalize mkE l P.M o.kd = me at qe ⊢
    clear hE
    go_wp2
    go_ret
    exact ⟨rfl, ⟨_, vl, vw, vD2, _, L, aq, ls, ws, xs, O, HF5.out, HLN.out, by omega, fun h => h⟩, B5.out⟩

end Go.Proofs.Ytcogiklnegpfiaa

namespace Go.Proofs.Ytcogiklnegpfiaa
open Go.RowKit Go.Shelf

abbrev lk0 : Oper := { dst := some 73, op := Op.move (Operand.tmp 0), type := 28, pos := "law.go:177", after := #[], guard := none }
abbrev lk1 : Oper := { dst := some 74, op := Op.move (Operand.tmp 0), type := 28, pos := "law.go:177", after := #[], guard := none }
abbrev lk2 : Oper := { dst := some 75, op := Op.nilCheck (Operand.tmp 74), type := 0, pos := "law.go:177", after := #[{ on := 1, ground := Ground.data }], guard := none }
abbrev lk3 : Oper := { dst := some 76, op := Op.fieldAddr 37 (Operand.tmp 75) 2, type := 0, pos := "law.go:177", after := #[{ on := 2, ground := Ground.data }], guard := none }
abbrev lk4 : Oper := { dst := some 77, op := Op.load 33 (Operand.tmp 76), type := 33, pos := "law.go:177", after := #[{ on := 3, ground := Ground.data }], guard := none }
abbrev lk5 : Oper := { dst := some 78, op := Op.load 43 (Operand.tmp 5), type := 43, pos := "law.go:177", after := #[], guard := none }
abbrev lk6 : Oper := { dst := some 79, op := Op.move (Operand.tmp 0), type := 28, pos := "law.go:177", after := #[], guard := none }
abbrev lk7 : Oper := { dst := some 80, op := Op.fieldAddr 45 (Operand.tmp 3) 2, type := 0, pos := "law.go:177", after := #[], guard := none }
abbrev lk8 : Oper := { dst := some 81, op := Op.load 3 (Operand.tmp 80), type := 3, pos := "law.go:177", after := #[{ on := 7, ground := Ground.data }], guard := none }
abbrev lk9 : Oper := { dst := some 82, op := Op.load 45 (Operand.tmp 3), type := 45, pos := "law.go:177", after := #[], guard := none }
abbrev lk10 : Oper := { dst := some 83, op := Op.call { callee := Callee.value (Operand.func 14), args := #[Operand.tmp 79, Operand.tmp 81, Operand.tmp 82], argTypes := #[28, 3, 45] }, type := 43, pos := "law.go:177", after := #[{ on := 6, ground := Ground.data }, { on := 8, ground := Ground.data }, { on := 9, ground := Ground.data }], guard := none }
abbrev lk11 : Oper := { dst := some 84, op := Op.build 51 #[(0, Operand.tmp 78), (1, Operand.tmp 83)], type := 51, pos := "law.go:177", after := #[{ on := 5, ground := Ground.data }, { on := 10, ground := Ground.data }], guard := none }
abbrev lk12 : Oper := { dst := some 85, op := Op.buildSlice 33 1 #[(0, Operand.tmp 84)], type := 33, pos := "law.go:177", after := #[{ on := 11, ground := Ground.data }], guard := none }
abbrev lk13 : Oper := { dst := some 86, op := Op.call { callee := Callee.builtin Builtin.append, args := #[Operand.tmp 77, Operand.tmp 85], argTypes := #[33, 33] }, type := 33, pos := "law.go:177", after := #[{ on := 4, ground := Ground.data }, { on := 12, ground := Ground.data }, { on := 10, ground := Ground.chain }], guard := none }
abbrev lk14 : Oper := { dst := some 87, op := Op.nilCheck (Operand.tmp 73), type := 0, pos := "law.go:177", after := #[{ on := 0, ground := Ground.data }, { on := 0, ground := Ground.phase }, { on := 1, ground := Ground.phase }, { on := 2, ground := Ground.phase }, { on := 3, ground := Ground.phase }, { on := 4, ground := Ground.phase }, { on := 5, ground := Ground.phase }, { on := 6, ground := Ground.phase }, { on := 7, ground := Ground.phase }, { on := 8, ground := Ground.phase }, { on := 9, ground := Ground.phase }, { on := 10, ground := Ground.phase }, { on := 11, ground := Ground.phase }, { on := 12, ground := Ground.phase }, { on := 13, ground := Ground.phase }], guard := none }
abbrev lk15 : Oper := { dst := some 88, op := Op.fieldAddr 37 (Operand.tmp 87) 2, type := 0, pos := "law.go:177", after := #[{ on := 14, ground := Ground.data }, { on := 0, ground := Ground.phase }, { on := 1, ground := Ground.phase }, { on := 2, ground := Ground.phase }, { on := 3, ground := Ground.phase }, { on := 4, ground := Ground.phase }, { on := 5, ground := Ground.phase }, { on := 6, ground := Ground.phase }, { on := 7, ground := Ground.phase }, { on := 8, ground := Ground.phase }, { on := 9, ground := Ground.phase }, { on := 10, ground := Ground.phase }, { on := 11, ground := Ground.phase }, { on := 12, ground := Ground.phase }, { on := 13, ground := Ground.phase }], guard := none }
abbrev lk16 : Oper := { dst := none, op := Op.store 33 (Operand.tmp 88) (Operand.tmp 86), type := 0, pos := "law.go:177", after := #[{ on := 15, ground := Ground.data }, { on := 13, ground := Ground.data }, { on := 13, ground := Ground.chain }, { on := 0, ground := Ground.phase }, { on := 1, ground := Ground.phase }, { on := 2, ground := Ground.phase }, { on := 3, ground := Ground.phase }, { on := 4, ground := Ground.phase }, { on := 5, ground := Ground.phase }, { on := 6, ground := Ground.phase }, { on := 7, ground := Ground.phase }, { on := 8, ground := Ground.phase }, { on := 9, ground := Ground.phase }, { on := 10, ground := Ground.phase }, { on := 11, ground := Ground.phase }, { on := 12, ground := Ground.phase }, { on := 13, ground := Ground.phase }], guard := none }
theorem info_lkq : (Try.prog.info? 51).map (fun i => (i.zero, i.size, i.bytes)) = some (some (.agg #[.int .u32 0, .int .u32 0, .int .u32 0, .int .u32 0]), 4, 16) := by kernel_rfl

set_option maxRecDepth 100000 in
set_option maxHeartbeats 16000000 in
theorem step_link {P : Px} {w : World} {vT vl vw vD : Value} {l : List Th} {L : List Lk} {aq : List Hd} {ls ws : List Value} {xs : List (List Hd)} {O : Nat → Prop} (h : SQ P w vT vl vw vD l l (hnds l) L aq ls ws xs O) {o : Oq} {rs : List Int} (hrt : RtsAt P.N w o rs) (us : Us o.s) (ha : I64 o.a) (hb : I64 o.b) (hk : o.k = 2) (hll : l.length ≤ 1000) (hls : ls.length ≤ 1000) :
    Calls Try.prog 8 #[.pointer (some ⟨P.bw, 0, none⟩), opV o] w fun e w' => e = .returned (.bool true) ∧ StepI P w w' l xs := by
  have HK := hide hk
  have hu1 := hll
  have hu2 := hls
  clear hk hu1 hu2
  have hhl : (hnds l).length ≤ 100000 := by unfold hnds; rw [List.length_map]; omega
  obtain ⟨w1, hw1⟩ : ∃ w1, w.alloc (.cells #[.int .i64 o.k, .int .i64 o.a, .int .i64 o.b, .int .i64 o.kd, .slice o.ra o.rn o.rc, .bool o.hd, .int .u32 o.s, .int .u32 o.g] 45) = w1 := ⟨_, rfl⟩
  have hB1 : Below w.heap.size w w1 := by rw [← hw1]; exact below1 _ _
  have hn1 : w1.heap[w.heap.size]? = some (.cells #[.int .i64 o.k, .int .i64 o.a, .int .i64 o.b, .int .i64 o.kd, .slice o.ra o.rn o.rc, .bool o.hd, .int .u32 o.s, .int .u32 o.g] 45 (0, 0)) := by rw [← hw1]; exact heap_new _ _
  have c1 := Ch.of_below (Q := fun _ => False) hB1
  have hs1 := h.quiet c1
  have HHD := hide (fun c (hc : I64 c) V (cV : Ch (fun _ => False) w1 V) => show Calls Try.prog 14 #[.pointer (some ⟨P.bw, 0, none⟩), .int .i64 c, .agg #[.int .i64 o.k, .int .i64 o.a, .int .i64 o.b, .int .i64 o.kd, .slice o.ra o.rn o.rc, .bool o.hd, .int .u32 o.s, .int .u32 o.g]] V fun e w' => e = .returned (hv (hdlW (hnds l) c o).1 (hdlW (hnds l) c o).2) ∧ Below V.heap.size V w' from by
    obtain ⟨vL, vA, vE, hb, -⟩ := (hs1.quiet cV).box
    exact handle_is hb rfl (hs1.quiet cV).tr hhl hc _)
  have husx := hdl_us h.hp.tb.wf h.hp.tb.m2 o.a o us
  have HUB := hide (hdl_us h.hp.tb.wf h.hp.tb.m2 o.b o us)
  obtain ⟨x1, x2, hx12⟩ : ∃ x1 x2, hdlW (hnds l) o.a o = (x1, x2) := ⟨_, _, rfl⟩
  have HHA := HHD.out o.a ha
  rw [hx12] at HHA husx
  have HHA := hide HHA
  have HUX := hide husx
  have E1 := hide hn1
  have H1 := hide hs1
  have B1 := hide hB1
  have HLW := hide h.low
  have HIB := hide hb
  have HRT := hide (show ∀ V, Below P.N w V → RtsAt P.N V o rs from fun V bV => by
    obtain ⟨h1, h2, h3, h4⟩ := hrt
    exact ⟨h1, h2, fun h0 => by
      obtain ⟨b', f', e, hb', hc'⟩ := h3 h0
      exact ⟨b', f', e, hb', fun i hi => (bV.cell (p := ⟨b', _, none⟩) hb').trans (hc' i hi)⟩, h4⟩)
  obtain ⟨s0, s1, s2, s3, s4, s5, s6, s7⟩ : w1.cell? ⟨w.heap.size, 0, none⟩ = some (.int .i64 o.k) ∧ w1.cell? ⟨w.heap.size, 1, none⟩ = some (.int .i64 o.a) ∧ w1.cell? ⟨w.heap.size, 2, none⟩ = some (.int .i64 o.b) ∧ w1.cell? ⟨w.heap.size, 3, none⟩ = some (.int .i64 o.kd) ∧ w1.cell? ⟨w.heap.size, 4, none⟩ = some (.slice o.ra o.rn o.rc) ∧ w1.cell? ⟨w.heap.size, 5, none⟩ = some (.bool o.hd) ∧ w1.cell? ⟨w.heap.size, 6, none⟩ = some (.int .u32 o.s) ∧ w1.cell? ⟨w.heap.size, 7, none⟩ = some (.int .u32 o.g) := by
    have e := Lib.cell_of_heap hn1
    exact ⟨by simp [e], by simp [e], by simp [e], by simp [e], by simp [e], by simp [e], by simp [e], by simp [e]⟩
  clear h hs1 hrt hn1 hB1 c1 hhl husx hx12 ha hb
  go_enter Try.func8, Try.ntmps8
  go_wp2_with fail
  try rw [hw1]
  clear hw1 s0 s1 s2 s3 s4 s5 s6 s7
  refine (HHA.out w1 (Ch.refl _ _)).mono ?_
  rintro e w2 ⟨rfl, hb2⟩
  obtain ⟨V3, hV3⟩ : ∃ V3, w2.alloc (.cells #[.int .u32 x1, .int .u32 x2] 43) = V3 := ⟨_, rfl⟩
  have c13 : Ch (fun _ => False) w1 V3 := by rw [← hV3]; exact (Ch.of_below hb2).trans (Ch.alloc _ _) (fun _ _ h => h)
  have e3 : V3.heap[w2.heap.size]? = some (.cells #[.int .u32 x1, .int .u32 x2] 43 (0, 0)) := by rw [← hV3]; exact heap_new _ _
  have C13 := hide c13
  have H3 := hide (H1.out.quiet c13)
  have E3 := hide (c13.box E1.out (fun h => h))
  have X3 := hide e3
  have B3 := hide (show Below P.N w V3 from (B1.out.mono HLW.out).trans (c13.below (Nat.le_trans HLW.out B1.out.size) (fun _ _ h => h)))
  have HWF := hide (And.intro H3.out.hp.tb.wf (And.intro H3.out.hp.tb.lt H3.out.hp.tb.m2))
  have u0 : V3.cell? ⟨w.heap.size, 0, none⟩ = some (.int .i64 o.k) := by simp [Lib.cell_of_heap E3.out]
  have HX := hide (fun wq (kq : Ch (fun _ => False) V3 wq) => show (wq.cell? ⟨w2.heap.size, 0, none⟩ = some (.int .u32 x1) ∧ wq.cell? ⟨w2.heap.size, 1, none⟩ = some (.int .u32 x2)) ∧ wq.cell? ⟨w.heap.size, 0, none⟩ = some (.int .i64 o.k) ∧ wq.cell? ⟨w.heap.size, 1, none⟩ = some (.int .i64 o.a) ∧ wq.cell? ⟨w.heap.size, 2, none⟩ = some (.int .i64 o.b) ∧ wq.cell? ⟨w.heap.size, 3, none⟩ = some (.int .i64 o.kd) ∧ wq.cell? ⟨w.heap.size, 4, none⟩ = some (.slice o.ra o.rn o.rc) ∧ wq.cell? ⟨w.heap.size, 5, none⟩ = some (.bool o.hd) ∧ wq.cell? ⟨w.heap.size, 6, none⟩ = some (.int .u32 o.s) ∧ wq.cell? ⟨w.heap.size, 7, none⟩ = some (.int .u32 o.g) from by
    have e1 := Lib.cell_of_heap (kq.box X3.out (fun h => h))
    have e2 := Lib.cell_of_heap (kq.box E3.out (fun h => h))
    exact ⟨⟨by simp [e1], by simp [e1]⟩, by simp [e2], by simp [e2], by simp [e2], by simp [e2], by simp [e2], by simp [e2], by simp [e2], by simp [e2]⟩)
  clear hb2 c13 e3
  have hk := HK.out
  have t1 : (o.k == 1) = false := by rw [hk]; rfl
  have t2 : (o.k == 2) = true := by rw [hk]; rfl
  have t3 : (o.k == 3) = false := by rw [hk]; rfl
  have t4 : (o.k == 4) = false := by rw [hk]; rfl
  have t5 : (o.k == 5) = false := by rw [hk]; rfl
  have t6 : (o.k == 6) = false := by rw [hk]; rfl
  have t7 : (o.k == 7) = false := by rw [hk]; rfl
  clear hk
  obtain ⟨vL, vA, vE, hbx, hlk⟩ := H3.out.box
  obtain ⟨La, Lc, rfl, -, -⟩ := hlk.form
  have t3 : V3.cell? ⟨P.bw, 2, none⟩ = some (.slice La L.length Lc) := by simp [Lib.cell_of_heap hbx]
  by_cases hl : L.length < 400
  · have q5 : decide ((L.length : Int) < 400) = true := decide_eq_true (by omega)
    have HL4 := hide hl
    obtain ⟨i1, hi1, hx0, hx1, hx2⟩ := nf_open info_lkq
    have HBX := hide (fun V (cV : Ch (fun _ => False) V3 V) => show (∃ vA vE, V.heap[P.bw]? = some (.cells #[.pointer (some ⟨P.b, 0, none⟩), .pointer (some ⟨P.db, 0, none⟩), .slice La L.length Lc, vT, vA, vl, vw, vE] 37 (0, 0))) ∧ Row lkF 4 51 V P.N (.slice La L.length Lc) L from ⟨⟨vA, vE, cV.box hbx (fun h => h)⟩, hlk.ch cV (fun _ _ h => h)⟩)
    have HCL := hide (fun V (cV : Ch (fun _ => False) V3 V) => show V.cell? ⟨P.bw, 2, none⟩ = some (.slice La L.length Lc) from by simp [Lib.cell_of_heap (cV.box hbx (fun h => h))])
    have HCELL := hide (fun wq (kq : Ch (fun y => y = P.bw ∨ (Value.slice La L.length Lc).ownBlock = some y) V3 wq) => show (wq.cell? ⟨w2.heap.size, 0, none⟩ = some (.int .u32 x1) ∧ wq.cell? ⟨w2.heap.size, 1, none⟩ = some (.int .u32 x2)) ∧ wq.cell? ⟨w.heap.size, 0, none⟩ = some (.int .i64 o.k) ∧ wq.cell? ⟨w.heap.size, 1, none⟩ = some (.int .i64 o.a) ∧ wq.cell? ⟨w.heap.size, 2, none⟩ = some (.int .i64 o.b) ∧ wq.cell? ⟨w.heap.size, 3, none⟩ = some (.int .i64 o.kd) ∧ wq.cell? ⟨w.heap.size, 4, none⟩ = some (.slice o.ra o.rn o.rc) ∧ wq.cell? ⟨w.heap.size, 5, none⟩ = some (.bool o.hd) ∧ wq.cell? ⟨w.heap.size, 6, none⟩ = some (.int .u32 o.s) ∧ wq.cell? ⟨w.heap.size, 7, none⟩ = some (.int .u32 o.g) from by
      have n1 : ¬ (w2.heap.size = P.bw ∨ (Value.slice La L.length Lc).ownBlock = some w2.heap.size) := by
        rintro (e | e)
        · exact blk_apQ X3.out hbx (by decide) e
        · exact own_box hlk X3.out (by decide) e
      have n2 : ¬ (w.heap.size = P.bw ∨ (Value.slice La L.length Lc).ownBlock = some w.heap.size) := by
        rintro (e | e)
        · exact blk_apQ E3.out hbx (by decide) e
        · exact own_box hlk E3.out (by decide) e
      have e1 := Lib.cell_of_heap (kq.box X3.out n1)
      have e2 := Lib.cell_of_heap (kq.box E3.out n2)
      exact ⟨⟨by simp [e1], by simp [e1]⟩, by simp [e2], by simp [e2], by simp [e2], by simp [e2], by simp [e2], by simp [e2], by simp [e2], by simp [e2]⟩)
    have HHB := hide (fun V (cV : Ch (fun _ => False) w1 V) => HHD.out o.b HIB.out V cV)
    obtain ⟨h1, h2, hh⟩ : ∃ h1 h2, hdlW (hnds l) o.b o = (h1, h2) := ⟨_, _, rfl⟩
    have hh12 := hide hh
    have HUY := hide (show Us (Lk.ts ⟨x1, x2, h1, h2⟩) from by have := HUB.out; rw [hh] at this; exact this)
    clear hbx hlk hl hh
    go_wp2
    clear hV3 u0 t3
    refine wp_reg (fun y => y = P.bw ∨ (Value.slice La L.length Lc).ownBlock = some y) (R := fun V => Ch (fun _ => False) V3 V) (by kernel_rfl) (Ch.drew _) (fun V cV zk => ?_)
    have CV := hide cV
    have HSV := hide (H3.out.quiet cV)
    clear cV
    have HHV := hide (HHB.out V (C13.out.trans CV.out (fun _ _ h => h)))
    rw [hh12.out] at HHV
    have HC := hide (fun wq (kq : Ch (fun y => y = P.bw ∨ (Value.slice La L.length Lc).ownBlock = some y) V wq) => HCELL.out wq ((CV.out.mono (Q' := fun y => y = P.bw ∨ (Value.slice La L.length Lc).ownBlock = some y) (fun _ _ h => h.elim)).trans kq (fun _ _ h => h)))
    apply tk 0 lk0 rfl (by kernel_rfl) (fun _ _ _ h => h) zk
    · intro wq zq
      go_simp
      try rfl
    go_frame
    apply tk 1 lk1 rfl (by kernel_rfl) (fun _ _ _ h => h) zk
    · intro wq zq
      go_simp
      try rfl
    go_frame
    apply tk 2 lk2 rfl (by kernel_rfl) (fun _ _ _ h => h) zk
    · intro wq zq
      go_simp
      try rfl
    go_frame
    apply tk 3 lk3 rfl (by kernel_rfl) (fun _ _ _ h => h) zk
    · intro wq zq
      go_simp
      try rfl
    go_frame
    apply tk 5 lk5 rfl (by kernel_rfl) (fun _ _ _ h => h) zk
    · intro wq zq
      obtain ⟨s0, s1⟩ := (HC.out _ zq).1
      go_simp
      try rfl
    go_frame
    apply tk 6 lk6 rfl (by kernel_rfl) (fun _ _ _ h => h) zk
    · intro wq zq
      go_simp
      try rfl
    go_frame
    apply tk 7 lk7 rfl (by kernel_rfl) (fun _ _ _ h => h) zk
    · intro wq zq
      go_simp
      try rfl
    go_frame
    apply tk 8 lk8 rfl (by kernel_rfl) (fun _ _ _ h => h) zk
    · intro wq zq
      have s0 := (HC.out _ zq).2.2.2.1
      go_simp
      try rfl
    go_frame
    apply tk 9 lk9 rfl (by kernel_rfl) (fun _ _ _ h => h) zk
    · intro wq zq
      obtain ⟨s0, s1, s2, s3, s4, s5, s6, s7⟩ := (HC.out _ zq).2
      go_simp
      try rfl
    go_frame
    refine wpAnyH_ready (rs := [4, 10]) (by kernel_rfl) (by simp) ?_
    refine AllReadyH.cons (o := lk4) rfl (fun K hK => ?_) (AllReadyH.cons (o := lk10) rfl (fun K hK => ?_) AllReadyH.nil)
    · have s0 := HCL.out V CV.out
      go_simp
      refine hK.out _ _ ?_ (fun zk => ?_)
      · exact zk
      clear hK K
      try go_frame
      refine rd 10 lk10 rfl (by kernel_rfl) fun K hK => ?_
      go_simp
      refine (HHV.out).mono ?_
      rintro e w5 ⟨rfl, hb5⟩
      have c5 := Ch.of_below (Q := fun _ => False) hb5
      have HS5 := hide (HSV.out.quiet c5)
      have HB5 := hide (HBX.out w5 (CV.out.trans c5 (fun _ _ h => h)))
      have Z5 := hide (zk.trans (Ch.of_below (Q := fun y => y = P.bw ∨ (Value.slice La L.length Lc).ownBlock = some y) hb5) (fun _ _ h => h))
      have C5 := hide c5
      clear hb5 c5
      go_wp2_with fail
      refine hK.out _ _ ?_ (fun zk => ?_)
      · exact Z5.out
      clear hK K
      try go_frame
      apply tk 11 lk11 rfl (by kernel_rfl) (fun _ _ _ h => h) zk
      · intro wq zq
        go_simp
        try rfl
      go_frame
      refine rd 12 lk12 rfl (by kernel_rfl) fun K hK => ?_
      go_simp
      refine hK.out _ _ ?_ (fun zk => ?_)
      · exact zk.trans (Ch.alloc (Q := fun y => y = P.bw ∨ (Value.slice La L.length Lc).ownBlock = some y) _ _) (fun _ _ h => h)
      clear hK K
      try go_frame
      have HM5 := hide (show P.N ≤ (w5.alloc (.cells #[.int .u32 x1, .int .u32 x2, .int .u32 h1, .int .u32 h2] 51)).heap.size by rw [World.size_alloc]; have := HS5.out.low; omega)
      refine rd 13 lk13 rfl (by kernel_rfl) fun K hK => ?_
      refine step_append_at rfl (.tmp 77) (.tmp 85) 33 rfl P.N 51 i1 (.agg #[.int .u32 0, .int .u32 0, .int .u32 0, .int .u32 0]) 4 16 Try.underlying33 hi1 hx0 hx1 hx2 rfl (by decide) (Value.slice La L.length Lc) L.length (L.flatMap lkF) rfl (World.ownsRow.alloc (show w5.ownsRow P.N 51 4 (Value.slice La L.length Lc) L.length (L.flatMap lkF) from HB5.out.2) (.cells #[.int .u32 x1, .int .u32 x2, .int .u32 h1, .int .u32 h2] 51)) ⟨w5.heap.size, 0, none⟩ 1 1 (lkF ⟨x1, x2, h1, h2⟩) rfl rfl (row_new w5 (lkF ⟨x1, x2, h1, h2⟩) 51 rfl) (lkF_one _) (by unfold maxLen; have := HL4.out; omega) (by have := HL4.out; omega) HM5.out ?_
      intro v6 w6 hr6 hg6 ho6
      have c6 := (Ch.alloc (Q := fun y => (Value.slice La L.length Lc).ownBlock = some y) w5 (.cells #[.int .u32 x1, .int .u32 x2, .int .u32 h1, .int .u32 h2] 51)).trans (Ch.of_grown (Q := fun y => (Value.slice La L.length Lc).ownBlock = some y) hg6 (fun _ e => e)) (fun _ _ h => h)
      have X6 := hide (SQ.setL HS5.out HB5.out.1 c6 (Row.snoc hr6) (fun y hy => ho6.elim (fun e => .inl (by rw [← e]; exact hy)) (fun e => .inr (by rw [e, World.size_alloc] at hy; injection hy with hy; omega))) (by rw [List.length_append]; have := HL4.out; simp; omega) (fun k hk => by rcases List.mem_append.1 hk with e | e; exact HS5.out.lus k e; rw [List.mem_singleton.1 e]; exact HUY.out))
      have Z6 := hide (zk.trans (Ch.of_grown (Q := fun y => y = P.bw ∨ (Value.slice La L.length Lc).ownBlock = some y) hg6 (fun y e => Or.inr e)) (fun _ _ h => h))
      obtain ⟨a6, n6, c6x, rfl⟩ := own_form hr6
      clear hr6 hg6 ho6 c6
      refine hK.out _ _ ?_ (fun zk => ?_)
      · exact Z6.out
      clear hK K
      try go_frame
      apply tk 14 lk14 rfl (by kernel_rfl) (fun _ _ _ h => h) zk
      · intro wq zq
        go_simp
        try rfl
      go_frame
      apply tk 15 lk15 rfl (by kernel_rfl) (fun _ _ _ h => h) zk
      · intro wq zq
        go_simp
        try rfl
      go_frame
      have y6 := X6.out.2.2.2.1
      have f6 := X6.out.2.2.2.2
      refine rd 16 lk16 rfl (by kernel_rfl) fun K hK => ?_
      go_simp
      refine hK.out _ _ ?_ (fun zk => ?_)
      · exact zk.trans (Ch.set (Q := fun y => y = P.bw ∨ (Value.slice La L.length Lc).ownBlock = some y) _ (Or.inl rfl) _ _) (fun _ _ h => h)
      clear hK K
      try go_frame
      refine wpAnyH_done (by kernel_rfl) ?_ _
      obtain ⟨OF, hSF⟩ := X6.out.1
      have HFI := hide hSF
      have HFB := hide (show Below P.N w (w6.setCell ⟨P.bw, 2, none⟩ (.slice a6 n6 c6x)) from (B3.out.trans ((CV.out.trans C5.out (fun _ _ h => h)).below (Nat.le_trans HLW.out B3.out.size) (fun _ _ h => h))).trans (X6.out.2.1.below HS5.out.low (fun y hy e => by have := X6.out.2.2.1 y e; omega)))
      clear hSF y6 f6
      go_wp2
      go_ret
      exact ⟨rfl, ⟨vT, vl, vw, vD, l, _, aq, ls, ws, xs, OF, HFI.out, by omega, by omega, fun h => h⟩, HFB.out⟩
    · go_simp
      refine (HHV.out).mono ?_
      rintro e w5 ⟨rfl, hb5⟩
      have c5 := Ch.of_below (Q := fun _ => False) hb5
      have HS5 := hide (HSV.out.quiet c5)
      have HB5 := hide (HBX.out w5 (CV.out.trans c5 (fun _ _ h => h)))
      have Z5 := hide (zk.trans (Ch.of_below (Q := fun y => y = P.bw ∨ (Value.slice La L.length Lc).ownBlock = some y) hb5) (fun _ _ h => h))
      have C5 := hide c5
      clear hb5 c5
      go_wp2_with fail
      refine hK.out _ _ ?_ (fun zk => ?_)
      · exact Z5.out
      clear hK K
      try go_frame
      apply tk 11 lk11 rfl (by kernel_rfl) (fun _ _ _ h => h) zk
      · intro wq zq
        go_simp
        try rfl
      go_frame
      refine wpAnyH_ready (rs := [4, 12]) (by kernel_rfl) (by simp) ?_
      refine AllReadyH.cons (o := lk4) rfl (fun K hK => ?_) (AllReadyH.cons (o := lk12) rfl (fun K hK => ?_) AllReadyH.nil)
      · have s0 := HCL.out w5 (CV.out.trans C5.out (fun _ _ h => h))
        go_simp
        refine hK.out _ _ ?_ (fun zk => ?_)
        · exact zk
        clear hK K
        try go_frame
        refine rd 12 lk12 rfl (by kernel_rfl) fun K hK => ?_
        go_simp
        refine hK.out _ _ ?_ (fun zk => ?_)
        · exact zk.trans (Ch.alloc (Q := fun y => y = P.bw ∨ (Value.slice La L.length Lc).ownBlock = some y) _ _) (fun _ _ h => h)
        clear hK K
        try go_frame
        have HM5 := hide (show P.N ≤ (w5.alloc (.cells #[.int .u32 x1, .int .u32 x2, .int .u32 h1, .int .u32 h2] 51)).heap.size by rw [World.size_alloc]; have := HS5.out.low; omega)
        refine rd 13 lk13 rfl (by kernel_rfl) fun K hK => ?_
        refine step_append_at rfl (.tmp 77) (.tmp 85) 33 rfl P.N 51 i1 (.agg #[.int .u32 0, .int .u32 0, .int .u32 0, .int .u32 0]) 4 16 Try.underlying33 hi1 hx0 hx1 hx2 rfl (by decide) (Value.slice La L.length Lc) L.length (L.flatMap lkF) rfl (World.ownsRow.alloc (show w5.ownsRow P.N 51 4 (Value.slice La L.length Lc) L.length (L.flatMap lkF) from HB5.out.2) (.cells #[.int .u32 x1, .int .u32 x2, .int .u32 h1, .int .u32 h2] 51)) ⟨w5.heap.size, 0, none⟩ 1 1 (lkF ⟨x1, x2, h1, h2⟩) rfl rfl (row_new w5 (lkF ⟨x1, x2, h1, h2⟩) 51 rfl) (lkF_one _) (by unfold maxLen; have := HL4.out; omega) (by have := HL4.out; omega) HM5.out ?_
        intro v6 w6 hr6 hg6 ho6
        have c6 := (Ch.alloc (Q := fun y => (Value.slice La L.length Lc).ownBlock = some y) w5 (.cells #[.int .u32 x1, .int .u32 x2, .int .u32 h1, .int .u32 h2] 51)).trans (Ch.of_grown (Q := fun y => (Value.slice La L.length Lc).ownBlock = some y) hg6 (fun _ e => e)) (fun _ _ h => h)
        have X6 := hide (SQ.setL HS5.out HB5.out.1 c6 (Row.snoc hr6) (fun y hy => ho6.elim (fun e => .inl (by rw [← e]; exact hy)) (fun e => .inr (by rw [e, World.size_alloc] at hy; injection hy with hy; omega))) (by rw [List.length_append]; have := HL4.out; simp; omega) (fun k hk => by rcases List.mem_append.1 hk with e | e; exact HS5.out.lus k e; rw [List.mem_singleton.1 e]; exact HUY.out))
        have Z6 := hide (zk.trans (Ch.of_grown (Q := fun y => y = P.bw ∨ (Value.slice La L.length Lc).ownBlock = some y) hg6 (fun y e => Or.inr e)) (fun _ _ h => h))
        obtain ⟨a6, n6, c6x, rfl⟩ := own_form hr6
        clear hr6 hg6 ho6 c6
        refine hK.out _ _ ?_ (fun zk => ?_)
        · exact Z6.out
        clear hK K
        try go_frame
        apply tk 14 lk14 rfl (by kernel_rfl) (fun _ _ _ h => h) zk
        · intro wq zq
          go_simp
          try rfl
        go_frame
        apply tk 15 lk15 rfl (by kernel_rfl) (fun _ _ _ h => h) zk
        · intro wq zq
          go_simp
          try rfl
        go_frame
        have y6 := X6.out.2.2.2.1
        have f6 := X6.out.2.2.2.2
        refine rd 16 lk16 rfl (by kernel_rfl) fun K hK => ?_
        go_simp
        refine hK.out _ _ ?_ (fun zk => ?_)
        · exact zk.trans (Ch.set (Q := fun y => y = P.bw ∨ (Value.slice La L.length Lc).ownBlock = some y) _ (Or.inl rfl) _ _) (fun _ _ h => h)
        clear hK K
        try go_frame
        refine wpAnyH_done (by kernel_rfl) ?_ _
        obtain ⟨OF, hSF⟩ := X6.out.1
        have HFI := hide hSF
        have HFB := hide (show Below P.N w (w6.setCell ⟨P.bw, 2, none⟩ (.slice a6 n6 c6x)) from (B3.out.trans ((CV.out.trans C5.out (fun _ _ h => h)).below (Nat.le_trans HLW.out B3.out.size) (fun _ _ h => h))).trans (X6.out.2.1.below HS5.out.low (fun y hy e => by have := X6.out.2.2.1 y e; omega)))
        clear hSF y6 f6
        go_wp2
        go_ret
        exact ⟨rfl, ⟨vT, vl, vw, vD, l, _, aq, ls, ws, xs, OF, HFI.out, by omega, by omega, fun h => h⟩, HFB.out⟩
      · go_simp
        refine hK.out _ _ ?_ (fun zk => ?_)
        · exact zk.trans (Ch.alloc (Q := fun y => y = P.bw ∨ (Value.slice La L.length Lc).ownBlock = some y) _ _) (fun _ _ h => h)
        clear hK K
        try go_frame
        refine rd 4 lk4 rfl (by kernel_rfl) fun K hK => ?_
        have s0 := HCL.out _ ((CV.out.trans C5.out (fun _ _ h => h)).trans (Ch.alloc _ (.cells #[.int .u32 x1, .int .u32 x2, .int .u32 h1, .int .u32 h2] 51)) (fun _ _ h => h))
        go_simp
        refine hK.out _ _ ?_ (fun zk => ?_)
        · exact zk
        clear hK K
        try go_frame
        have HM5 := hide (show P.N ≤ (w5.alloc (.cells #[.int .u32 x1, .int .u32 x2, .int .u32 h1, .int .u32 h2] 51)).heap.size by rw [World.size_alloc]; have := HS5.out.low; omega)
        refine rd 13 lk13 rfl (by kernel_rfl) fun K hK => ?_
        refine step_append_at rfl (.tmp 77) (.tmp 85) 33 rfl P.N 51 i1 (.agg #[.int .u32 0, .int .u32 0, .int .u32 0, .int .u32 0]) 4 16 Try.underlying33 hi1 hx0 hx1 hx2 rfl (by decide) (Value.slice La L.length Lc) L.length (L.flatMap lkF) rfl (World.ownsRow.alloc (show w5.ownsRow P.N 51 4 (Value.slice La L.length Lc) L.length (L.flatMap lkF) from HB5.out.2) (.cells #[.int .u32 x1, .int .u32 x2, .int .u32 h1, .int .u32 h2] 51)) ⟨w5.heap.size, 0, none⟩ 1 1 (lkF ⟨x1, x2, h1, h2⟩) rfl rfl (row_new w5 (lkF ⟨x1, x2, h1, h2⟩) 51 rfl) (lkF_one _) (by unfold maxLen; have := HL4.out; omega) (by have := HL4.out; omega) HM5.out ?_
        intro v6 w6 hr6 hg6 ho6
        have c6 := (Ch.alloc (Q := fun y => (Value.slice La L.length Lc).ownBlock = some y) w5 (.cells #[.int .u32 x1, .int .u32 x2, .int .u32 h1, .int .u32 h2] 51)).trans (Ch.of_grown (Q := fun y => (Value.slice La L.length Lc).ownBlock = some y) hg6 (fun _ e => e)) (fun _ _ h => h)
        have X6 := hide (SQ.setL HS5.out HB5.out.1 c6 (Row.snoc hr6) (fun y hy => ho6.elim (fun e => .inl (by rw [← e]; exact hy)) (fun e => .inr (by rw [e, World.size_alloc] at hy; injection hy with hy; omega))) (by rw [List.length_append]; have := HL4.out; simp; omega) (fun k hk => by rcases List.mem_append.1 hk with e | e; exact HS5.out.lus k e; rw [List.mem_singleton.1 e]; exact HUY.out))
        have Z6 := hide (zk.trans (Ch.of_grown (Q := fun y => y = P.bw ∨ (Value.slice La L.length Lc).ownBlock = some y) hg6 (fun y e => Or.inr e)) (fun _ _ h => h))
        obtain ⟨a6, n6, c6x, rfl⟩ := own_form hr6
        clear hr6 hg6 ho6 c6
        refine hK.out _ _ ?_ (fun zk => ?_)
        · exact Z6.out
        clear hK K
        try go_frame
        apply tk 14 lk14 rfl (by kernel_rfl) (fun _ _ _ h => h) zk
        · intro wq zq
          go_simp
          try rfl
        go_frame
        apply tk 15 lk15 rfl (by kernel_rfl) (fun _ _ _ h => h) zk
        · intro wq zq
          go_simp
          try rfl
        go_frame
        have y6 := X6.out.2.2.2.1
        have f6 := X6.out.2.2.2.2
        refine rd 16 lk16 rfl (by kernel_rfl) fun K hK => ?_
        go_simp
        refine hK.out _ _ ?_ (fun zk => ?_)
        · exact zk.trans (Ch.set (Q := fun y => y = P.bw ∨ (Value.slice La L.length Lc).ownBlock = some y) _ (Or.inl rfl) _ _) (fun _ _ h => h)
        clear hK K
        try go_frame
        refine wpAnyH_done (by kernel_rfl) ?_ _
        obtain ⟨OF, hSF⟩ := X6.out.1
        have HFI := hide hSF
        have HFB := hide (show Below P.N w (w6.setCell ⟨P.bw, 2, none⟩ (.slice a6 n6 c6x)) from (B3.out.trans ((CV.out.trans C5.out (fun _ _ h => h)).below (Nat.le_trans HLW.out B3.out.size) (fun _ _ h => h))).trans (X6.out.2.1.below HS5.out.low (fun y hy e => by have := X6.out.2.2.1 y e; omega)))
        clear hSF y6 f6
        go_wp2
        go_ret
        exact ⟨rfl, ⟨vT, vl, vw, vD, l, _, aq, ls, ws, xs, OF, HFI.out, by omega, by omega, fun h => h⟩, HFB.out⟩
  · have q5 : decide ((L.length : Int) < 400) = false := decide_eq_false (by omega)
    clear hbx hlk
    go_wp2
    clear hV3 u0 t3
    go_ret
    exact ⟨rfl, StepI.same H3.out B3.out⟩

end Go.Proofs.Ytcogiklnegpfiaa

namespace Go.Proofs.Ytcogiklnegpfiaa
open Go.RowKit Go.Shelf

theorem info_lkq3 : (Try.prog.info? 51).map (fun i => (i.zero, i.size, i.bytes)) = some (some (.agg #[.int .u32 0, .int .u32 0, .int .u32 0, .int .u32 0]), 4, 16) := by kernel_rfl
def cutL (x : Hd) (L : List Lk) : List Lk := L.filter fun k => !frm x k
theorem cutL_snoc (x : Hd) (L : List Lk) (k : Lk) : cutL x (L ++ [k]) = if frm x k then cutL x L else cutL x L ++ [k] := by
  unfold cutL
  rw [List.filter_append]
  cases h : frm x k <;> simp [h]
theorem cutL_le (x : Hd) (L : List Lk) : (cutL x L).length ≤ L.length := List.length_filter_le _ _

set_option maxRecDepth 100000 in
set_option maxHeartbeats 16000000 in
theorem step_cut {P : Px} {w : World} {vT vl vw vD : Value} {l : List Th} {L : List Lk} {aq : List Hd} {ls ws : List Value} {xs : List (List Hd)} {O : Nat → Prop} (h : SQ P w vT vl vw vD l l (hnds l) L aq ls ws xs O) {o : Oq} {rs : List Int} (hrt : RtsAt P.N w o rs) (us : Us o.s) (ha : I64 o.a) (hb : I64 o.b) (hk : o.k = 3) (hll : l.length ≤ 1000) (hls : ls.length ≤ 1000) :
    Calls Try.prog 8 #[.pointer (some ⟨P.bw, 0, none⟩), opV o] w fun e w' => e = .returned (.bool true) ∧ StepI P w w' l xs := by
  have HK := hide hk
  have hu1 := hll
  have hu2 := hls
  clear hk hu1 hu2
  have hhl : (hnds l).length ≤ 100000 := by unfold hnds; rw [List.length_map]; omega
  obtain ⟨w1, hw1⟩ : ∃ w1, w.alloc (.cells #[.int .i64 o.k, .int .i64 o.a, .int .i64 o.b, .int .i64 o.kd, .slice o.ra o.rn o.rc, .bool o.hd, .int .u32 o.s, .int .u32 o.g] 45) = w1 := ⟨_, rfl⟩
  have hB1 : Below w.heap.size w w1 := by rw [← hw1]; exact below1 _ _
  have hn1 : w1.heap[w.heap.size]? = some (.cells #[.int .i64 o.k, .int .i64 o.a, .int .i64 o.b, .int .i64 o.kd, .slice o.ra o.rn o.rc, .bool o.hd, .int .u32 o.s, .int .u32 o.g] 45 (0, 0)) := by rw [← hw1]; exact heap_new _ _
  have c1 := Ch.of_below (Q := fun _ => False) hB1
  have hs1 := h.quiet c1
  have HHD := hide (fun c (hc : I64 c) V (cV : Ch (fun _ => False) w1 V) => show Calls Try.prog 14 #[.pointer (some ⟨P.bw, 0, none⟩), .int .i64 c, .agg #[.int .i64 o.k, .int .i64 o.a, .int .i64 o.b, .int .i64 o.kd, .slice o.ra o.rn o.rc, .bool o.hd, .int .u32 o.s, .int .u32 o.g]] V fun e w' => e = .returned (hv (hdlW (hnds l) c o).1 (hdlW (hnds l) c o).2) ∧ Below V.heap.size V w' from by
    obtain ⟨vL, vA, vE, hb, -⟩ := (hs1.quiet cV).box
    exact handle_is hb rfl (hs1.quiet cV).tr hhl hc _)
  have husx := hdl_us h.hp.tb.wf h.hp.tb.m2 o.a o us
  have HUB := hide (hdl_us h.hp.tb.wf h.hp.tb.m2 o.b o us)
  obtain ⟨x1, x2, hx12⟩ : ∃ x1 x2, hdlW (hnds l) o.a o = (x1, x2) := ⟨_, _, rfl⟩
  have HHA := HHD.out o.a ha
  rw [hx12] at HHA husx
  have HHA := hide HHA
  have HUX := hide husx
  have E1 := hide hn1
  have H1 := hide hs1
  have B1 := hide hB1
  have HLW := hide h.low
  have HIB := hide hb
  have HRT := hide (show ∀ V, Below P.N w V → RtsAt P.N V o rs from fun V bV => by
    obtain ⟨h1, h2, h3, h4⟩ := hrt
    exact ⟨h1, h2, fun h0 => by
      obtain ⟨b', f', e, hb', hc'⟩ := h3 h0
      exact ⟨b', f', e, hb', fun i hi => (bV.cell (p := ⟨b', _, none⟩) hb').trans (hc' i hi)⟩, h4⟩)
  obtain ⟨s0, s1, s2, s3, s4, s5, s6, s7⟩ : w1.cell? ⟨w.heap.size, 0, none⟩ = some (.int .i64 o.k) ∧ w1.cell? ⟨w.heap.size, 1, none⟩ = some (.int .i64 o.a) ∧ w1.cell? ⟨w.heap.size, 2, none⟩ = some (.int .i64 o.b) ∧ w1.cell? ⟨w.heap.size, 3, none⟩ = some (.int .i64 o.kd) ∧ w1.cell? ⟨w.heap.size, 4, none⟩ = some (.slice o.ra o.rn o.rc) ∧ w1.cell? ⟨w.heap.size, 5, none⟩ = some (.bool o.hd) ∧ w1.cell? ⟨w.heap.size, 6, none⟩ = some (.int .u32 o.s) ∧ w1.cell? ⟨w.heap.size, 7, none⟩ = some (.int .u32 o.g) := by
    have e := Lib.cell_of_heap hn1
    exact ⟨by simp [e], by simp [e], by simp [e], by simp [e], by simp [e], by simp [e], by simp [e], by simp [e]⟩
  clear h hs1 hrt hn1 hB1 c1 hhl husx hx12 ha hb
  go_enter Try.func8, Try.ntmps8
  go_wp2_with fail
  try rw [hw1]
  clear hw1 s0 s1 s2 s3 s4 s5 s6 s7
  refine (HHA.out w1 (Ch.refl _ _)).mono ?_
  rintro e w2 ⟨rfl, hb2⟩
  obtain ⟨V3, hV3⟩ : ∃ V3, w2.alloc (.cells #[.int .u32 x1, .int .u32 x2] 43) = V3 := ⟨_, rfl⟩
  have c13 : Ch (fun _ => False) w1 V3 := by rw [← hV3]; exact (Ch.of_below hb2).trans (Ch.alloc _ _) (fun _ _ h => h)
  have e3 : V3.heap[w2.heap.size]? = some (.cells #[.int .u32 x1, .int .u32 x2] 43 (0, 0)) := by rw [← hV3]; exact heap_new _ _
  have C13 := hide c13
  have H3 := hide (H1.out.quiet c13)
  have E3 := hide (c13.box E1.out (fun h => h))
  have X3 := hide e3
  have B3 := hide (show Below P.N w V3 from (B1.out.mono HLW.out).trans (c13.below (Nat.le_trans HLW.out B1.out.size) (fun _ _ h => h)))
  have HWF := hide (And.intro H3.out.hp.tb.wf (And.intro H3.out.hp.tb.lt H3.out.hp.tb.m2))
  have u0 : V3.cell? ⟨w.heap.size, 0, none⟩ = some (.int .i64 o.k) := by simp [Lib.cell_of_heap E3.out]
  have HX := hide (fun wq (kq : Ch (fun _ => False) V3 wq) => show (wq.cell? ⟨w2.heap.size, 0, none⟩ = some (.int .u32 x1) ∧ wq.cell? ⟨w2.heap.size, 1, none⟩ = some (.int .u32 x2)) ∧ wq.cell? ⟨w.heap.size, 0, none⟩ = some (.int .i64 o.k) ∧ wq.cell? ⟨w.heap.size, 1, none⟩ = some (.int .i64 o.a) ∧ wq.cell? ⟨w.heap.size, 2, none⟩ = some (.int .i64 o.b) ∧ wq.cell? ⟨w.heap.size, 3, none⟩ = some (.int .i64 o.kd) ∧ wq.cell? ⟨w.heap.size, 4, none⟩ = some (.slice o.ra o.rn o.rc) ∧ wq.cell? ⟨w.heap.size, 5, none⟩ = some (.bool o.hd) ∧ wq.cell? ⟨w.heap.size, 6, none⟩ = some (.int .u32 o.s) ∧ wq.cell? ⟨w.heap.size, 7, none⟩ = some (.int .u32 o.g) from by
    have e1 := Lib.cell_of_heap (kq.box X3.out (fun h => h))
    have e2 := Lib.cell_of_heap (kq.box E3.out (fun h => h))
    exact ⟨⟨by simp [e1], by simp [e1]⟩, by simp [e2], by simp [e2], by simp [e2], by simp [e2], by simp [e2], by simp [e2], by simp [e2], by simp [e2]⟩)
  clear hb2 c13 e3
  have hk := HK.out
  have t1 : (o.k == 1) = false := by rw [hk]; rfl
  have t2 : (o.k == 2) = false := by rw [hk]; rfl
  have t3 : (o.k == 3) = true := by rw [hk]; rfl
  have t4 : (o.k == 4) = false := by rw [hk]; rfl
  have t5 : (o.k == 5) = false := by rw [hk]; rfl
  have t6 : (o.k == 6) = false := by rw [hk]; rfl
  have t7 : (o.k == 7) = false := by rw [hk]; rfl
  clear hk
  obtain ⟨i1, hi1, hx0, hx1, hx2⟩ := nf_open info_lkq3
  obtain ⟨vL, vA, vE, hbx, hlk⟩ := H3.out.box
  obtain ⟨La, Lc, rfl, -, -⟩ := hlk.form
  have hl4 := H3.out.l4
  have HBX := hide hbx
  have HLK := hide hlk
  clear hbx hlk
  go_wp2
  clear hV3 u0
  go_loopw [10, 11] (fun fv iv wr => ∃ k : Nat, k ≤ L.length ∧ iv = .int .i64 (k : Int) ∧ Hid (Row lkF 4 51 wr V3.heap.size fv (cutL (x1, x2) (L.take k))) ∧ Hid (Below V3.heap.size V3 wr)) (fun _ iv _ => L.length - (intOf iv).toNat)
  case atStart => exact ⟨0, Nat.zero_le _, rfl, hide (Row.nil _ _), hide (Below.refl _ _)⟩
  case round =>
    obtain ⟨k, hk, rfl, HF, HB⟩ := hrel
    obtain ⟨w4, rfl⟩ : ∃ x, x = wr := ⟨_, rfl⟩
    have HX4 := hide (fun V (cV : Ch (fun _ => False) w4 V) => show V.cell? ⟨P.bw, 2, none⟩ = some (.slice La L.length Lc) ∧ V.cell? ⟨w2.heap.size, 0, none⟩ = some (.int .u32 x1) ∧ V.cell? ⟨w2.heap.size, 1, none⟩ = some (.int .u32 x2) ∧ V.frozen? ⟨P.bw, 2, none⟩ = false from by
      have cc := (Ch.of_below (Q := fun _ => False) HB.out).trans cV (fun _ _ h => h)
      have e := cc.box HBX.out (fun h => h)
      have e1 := Lib.cell_of_heap e
      have e2 := Lib.cell_of_heap (cc.box X3.out (fun h => h))
      exact ⟨by simp [e1], by simp [e2], by simp [e2], by simp [World.frozen?, e]⟩)
    obtain ⟨t3, t4, t5, -⟩ := HX4.out w4 (Ch.refl _ _)
    by_cases hlt : k < L.length
    · have q1 : decide ((k : Int) < (L.length : Int)) = true := decide_eq_true (by omega)
      have HLC := hide (fun V (cV : Ch (fun _ => False) w4 V) => link_at ((HLK.out.ch (Ch.of_below (Q := fun _ => False) HB.out) (fun _ _ h => h)).ch cV (fun _ _ h => h)) rfl hlt)
      have HN := hide (show cutL (x1, x2) (L.take (k + 1)) = if frm (x1, x2) L[k] then cutL (x1, x2) (L.take k) else cutL (x1, x2) (L.take k) ++ [L[k]] by rw [List.take_succ_eq_append_getElem hlt, cutL_snoc])
      have hct : (cutL (x1, x2) (L.take k)).length ≤ 400 := Nat.le_trans (cutL_le _ _) (by rw [List.length_take]; omega)
      generalize L[k] = z at HLC HN
      obtain ⟨bL, rfl, z0, z1, z2, z3⟩ := HLC.out w4 (Ch.refl _ _)
      have HCT := hide hct
      clear hct
      by_cases es : z.fs = x1
      · have qs : (z.fs == x1) = true := by simpa using es
        by_cases eg : z.fg = x2
        · have qg : (z.fg == x2) = true := by simpa using eg
          have HT := hide (show cutL (x1, x2) (L.take (k + 1)) = cutL (x1, x2) (L.take k) by rw [HN.out, if_pos (by simp [frm, es, eg])])
          clear es eg
          go_wp2
          go_quiet (fail)
          go_wp2
          go_roundw
          case rel => exact ⟨k + 1, by omega, by go_num, hide (by rw [HT.out]; exact HF.out.ch (Ch.drewN (Q := fun _ => False) _ _) (fun _ _ h => h)), hide (HB.out.trans (below_dr _ _ _))⟩
          case measure => simp [intOf]; omega
        · have qg : (z.fg == x2) = false := by simpa using eg
          have HT := hide (show cutL (x1, x2) (L.take (k + 1)) = cutL (x1, x2) (L.take k) ++ [z] by rw [HN.out, if_neg (by simp [frm, eg])])
          clear es eg
          go_wp2
          go_quiet (fail)
          have cq := Ch.drewN (Q := fun _ => False) w4 nq
          generalize w4.drewN nq = W at cq ⊢
          have CQ := hide cq
          have HFW := hide (HF.out.ch cq (fun _ _ h => h))
          have BW := hide (show Below V3.heap.size V3 W from HB.out.trans (cq.below HB.out.size (fun _ _ h => h)))
          clear t3 t4 t5 z0 z1 z2 z3
          obtain ⟨t3, -, -, -⟩ := HX4.out W cq
          obtain ⟨bL', eL, z0, z1, z2, z3⟩ := HLC.out W cq
          cases eL
          have HOW := hide (World.ownsRow.alloc (show W.ownsRow V3.heap.size 51 4 u10 (cutL (x1, x2) (L.take k)).length ((cutL (x1, x2) (L.take k)).flatMap lkF) from HFW.out) (.cells #[.int .u32 z.fs, .int .u32 z.fg, .int .u32 z.ts, .int .u32 z.tg] 51))
          have HN1 := hide (row_new W (lkF z) 51 rfl)
          have HM1 := hide (show (cutL (x1, x2) (L.take k)).length + 1 ≤ maxLen by unfold maxLen; have := HCT.out; omega)
          have HM2 := hide (show ((cutL (x1, x2) (L.take k)).length + 1) * 16 ≤ 140737488355328 by have := HCT.out; omega)
          have HM3 := hide (show V3.heap.size ≤ (W.alloc (.cells #[.int .u32 z.fs, .int .u32 z.fg, .int .u32 z.ts, .int .u32 z.tg] 51)).heap.size by rw [World.size_alloc]; have := BW.out.size; omega)
          have HON := hide (lkF_one z)
          clear cq
          go_wp2_with (at_builtin; refine wpList_append_own_at _ rfl _ _ 33 rfl V3.heap.size 51 i1 (.agg #[.int .u32 0, .int .u32 0, .int .u32 0, .int .u32 0]) 4 16 Try.underlying33 hi1 hx0 hx1 hx2 rfl (by decide) _ (cutL (x1, x2) (L.take k)).length ((cutL (x1, x2) (L.take k)).flatMap lkF) rfl HOW.out ⟨W.heap.size, 0, none⟩ 1 1 (lkF z) rfl rfl HN1.out HON.out HM1.out HM2.out HM3.out ?_)
          intro v6 w6 hown' hgrow _ hat
          have R6 := hide (show Row lkF 4 51 w6 V3.heap.size v6 (cutL (x1, x2) (L.take k) ++ [z]) from Row.snoc hown')
          have c6 := (Ch.alloc (Q := fun y => u10.ownBlock = some y) W (.cells #[.int .u32 z.fs, .int .u32 z.fg, .int .u32 z.ts, .int .u32 z.tg] 51)).trans (Ch.of_grown (Q := fun y => u10.ownBlock = some y) hgrow (fun _ e => e)) (fun _ _ h => h)
          have B6 := hide (BW.out.trans (c6.below BW.out.size (fun x hx e => by have := (own_in HFW.out e).1; omega)))
          clear hown' hgrow hat c6
          go_wp2
          go_roundw
          case rel => exact ⟨k + 1, by omega, by go_num, hide (by rw [HT.out]; exact R6.out), B6⟩
          case measure => simp [intOf]; omega
      · have qs : (z.fs == x1) = false := by simpa using es
        have HT := hide (show cutL (x1, x2) (L.take (k + 1)) = cutL (x1, x2) (L.take k) ++ [z] by rw [HN.out, if_neg (by simp [frm, es])])
        clear es
        go_wp2
        go_quiet (fail)
        have cq := Ch.drewN (Q := fun _ => False) w4 nq
        generalize w4.drewN nq = W at cq ⊢
        have CQ := hide cq
        have HFW := hide (HF.out.ch cq (fun _ _ h => h))
        have BW := hide (show Below V3.heap.size V3 W from HB.out.trans (cq.below HB.out.size (fun _ _ h => h)))
        clear t3 t4 t5 z0 z1 z2 z3
        obtain ⟨t3, -, -, -⟩ := HX4.out W cq
        obtain ⟨bL', eL, z0, z1, z2, z3⟩ := HLC.out W cq
        cases eL
        have HOW := hide (World.ownsRow.alloc (show W.ownsRow V3.heap.size 51 4 u10 (cutL (x1, x2) (L.take k)).length ((cutL (x1, x2) (L.take k)).flatMap lkF) from HFW.out) (.cells #[.int .u32 z.fs, .int .u32 z.fg, .int .u32 z.ts, .int .u32 z.tg] 51))
        have HN1 := hide (row_new W (lkF z) 51 rfl)
        have HM1 := hide (show (cutL (x1, x2) (L.take k)).length + 1 ≤ maxLen by unfold maxLen; have := HCT.out; omega)
        have HM2 := hide (show ((cutL (x1, x2) (L.take k)).length + 1) * 16 ≤ 140737488355328 by have := HCT.out; omega)
        have HM3 := hide (show V3.heap.size ≤ (W.alloc (.cells #[.int .u32 z.fs, .int .u32 z.fg, .int .u32 z.ts, .int .u32 z.tg] 51)).heap.size by rw [World.size_alloc]; have := BW.out.size; omega)
        have HON := hide (lkF_one z)
        clear cq
        go_wp2_with (at_builtin; refine wpList_append_own_at _ rfl _ _ 33 rfl V3.heap.size 51 i1 (.agg #[.int .u32 0, .int .u32 0, .int .u32 0, .int .u32 0]) 4 16 Try.underlying33 hi1 hx0 hx1 hx2 rfl (by decide) _ (cutL (x1, x2) (L.take k)).length ((cutL (x1, x2) (L.take k)).flatMap lkF) rfl HOW.out ⟨W.heap.size, 0, none⟩ 1 1 (lkF z) rfl rfl HN1.out HON.out HM1.out HM2.out HM3.out ?_)
        intro v6 w6 hown' hgrow _ hat
        have R6 := hide (show Row lkF 4 51 w6 V3.heap.size v6 (cutL (x1, x2) (L.take k) ++ [z]) from Row.snoc hown')
        have c6 := (Ch.alloc (Q := fun y => u10.ownBlock = some y) W (.cells #[.int .u32 z.fs, .int .u32 z.fg, .int .u32 z.ts, .int .u32 z.tg] 51)).trans (Ch.of_grown (Q := fun y => u10.ownBlock = some y) hgrow (fun _ e => e)) (fun _ _ h => h)
        have B6 := hide (BW.out.trans (c6.below BW.out.size (fun x hx e => by have := (own_in HFW.out e).1; omega)))
        clear hown' hgrow hat c6
        go_wp2
        go_roundw
        case rel => exact ⟨k + 1, by omega, by go_num, hide (by rw [HT.out]; exact R6.out), B6⟩
        case measure => simp [intOf]; omega
    · have q1 : decide ((k : Int) < (L.length : Int)) = false := decide_eq_false (by omega)
      have hT : L.take k = L := List.take_of_length_le (by omega)
      rw [hT] at HF
      have hf4 := (HX4.out w4 (Ch.refl _ _)).2.2.2
      obtain ⟨fa, fc, rfl, -, -⟩ := HF.out.form
      have X4 := hide (SQ.setL H3.out ⟨vA, vE, HBX.out⟩ (Ch.of_below (Q := fun y => (Value.slice La L.length Lc).ownBlock = some y) HB.out) (own_low HF.out H3.out.low) (fun y hy => .inr (own_in HF.out hy).1) (Nat.le_trans (cutL_le _ _) hl4) (fun k hk => H3.out.lus k (List.mem_filter.1 hk).1))
      clear hT
      go_wp2
      go_ret
      obtain ⟨⟨OF, hSF⟩, hc, hN, -⟩ := X4.out
      exact ⟨rfl, ⟨vT, vl, vw, vD, l, _, aq, ls, ws, xs, OF, hSF, by omega, by omega, fun h => h⟩, B3.out.trans (hc.below H3.out.low (fun y hy e => by have := hN y e; omega))⟩

end Go.Proofs.Ytcogiklnegpfiaa

namespace Go.Proofs.Ytcogiklnegpfiaa
open Go.RowKit Go.Shelf

abbrev ka0 : Oper := { dst := some 127, op := Op.move (Operand.tmp 0), type := 28, pos := "law.go:188", after := #[], guard := none }
abbrev ka1 : Oper := { dst := some 128, op := Op.nilCheck (Operand.tmp 127), type := 0, pos := "law.go:188", after := #[{ on := 0, ground := Ground.data }], guard := none }
abbrev ka2 : Oper := { dst := some 129, op := Op.fieldAddr 37 (Operand.tmp 128) 0, type := 0, pos := "law.go:188", after := #[{ on := 1, ground := Ground.data }], guard := none }
abbrev ka3 : Oper := { dst := some 130, op := Op.load 24 (Operand.tmp 129), type := 24, pos := "law.go:188", after := #[{ on := 2, ground := Ground.data }], guard := none }
abbrev ka4 : Oper := { dst := some 131, op := Op.load 43 (Operand.tmp 5), type := 43, pos := "law.go:188", after := #[], guard := none }
abbrev ka5 : Oper := { dst := some 132, op := Op.call { callee := Callee.value (Operand.func 17), args := #[Operand.tmp 130, Operand.tmp 131], argTypes := #[24, 43] }, type := 54, pos := "law.go:188", after := #[{ on := 3, ground := Ground.data }, { on := 4, ground := Ground.data }], guard := none }
abbrev ka6 : Oper := { dst := some 126, op := Op.move (Operand.tmp 132), type := 54, pos := "law.go:188", after := #[{ on := 5, ground := Ground.data }], guard := none }
abbrev ka7 : Oper := { dst := some 133, op := Op.extract (Operand.tmp 126) 0, type := 39, pos := "law.go:188", after := #[{ on := 6, ground := Ground.data }], guard := none }
abbrev ka8 : Oper := { dst := some 134, op := Op.extract (Operand.tmp 126) 1, type := 25, pos := "law.go:188", after := #[{ on := 6, ground := Ground.data }, { on := 9, ground := Ground.gcOnly Departure.lateStores }], guard := none }
abbrev ka9 : Oper := { dst := some 12, op := Op.assign (Operand.tmp 133), type := 39, pos := "law.go:188", after := #[{ on := 7, ground := Ground.data }, { on := 5, ground := Ground.chain }, { on := 0, ground := Ground.phase }, { on := 1, ground := Ground.phase }, { on := 2, ground := Ground.phase }, { on := 3, ground := Ground.phase }, { on := 4, ground := Ground.phase }, { on := 5, ground := Ground.phase }, { on := 6, ground := Ground.phase }, { on := 7, ground := Ground.phase }, { on := 8, ground := Ground.textOnly Departure.lateStores }], guard := none }
abbrev ka10 : Oper := { dst := some 13, op := Op.assign (Operand.tmp 134), type := 25, pos := "law.go:188", after := #[{ on := 8, ground := Ground.data }, { on := 9, ground := Ground.chain }, { on := 0, ground := Ground.phase }, { on := 1, ground := Ground.phase }, { on := 2, ground := Ground.phase }, { on := 3, ground := Ground.phase }, { on := 4, ground := Ground.phase }, { on := 5, ground := Ground.phase }, { on := 6, ground := Ground.phase }, { on := 7, ground := Ground.phase }, { on := 8, ground := Ground.phase }, { on := 9, ground := Ground.phase }], guard := none }
abbrev kb0 : Oper := { dst := some 135, op := Op.move (Operand.tmp 0), type := 28, pos := "law.go:189", after := #[], guard := none }
abbrev kb1 : Oper := { dst := some 136, op := Op.nilCheck (Operand.tmp 135), type := 0, pos := "law.go:189", after := #[{ on := 0, ground := Ground.data }], guard := none }
abbrev kb2 : Oper := { dst := some 137, op := Op.fieldAddr 37 (Operand.tmp 136) 1, type := 0, pos := "law.go:189", after := #[{ on := 1, ground := Ground.data }], guard := none }
abbrev kb3 : Oper := { dst := some 138, op := Op.load 29 (Operand.tmp 137), type := 29, pos := "law.go:189", after := #[{ on := 2, ground := Ground.data }], guard := none }
abbrev kb4 : Oper := { dst := some 139, op := Op.load 43 (Operand.tmp 5), type := 43, pos := "law.go:189", after := #[], guard := none }
abbrev kb5 : Oper := { dst := some 140, op := Op.call { callee := Callee.value (Operand.func 24), args := #[Operand.tmp 138, Operand.tmp 139], argTypes := #[29, 43] }, type := 3, pos := "law.go:189", after := #[{ on := 3, ground := Ground.data }, { on := 4, ground := Ground.data }], guard := none }
abbrev kb6 : Oper := { dst := some 14, op := Op.assign (Operand.tmp 140), type := 3, pos := "law.go:189", after := #[{ on := 5, ground := Ground.data }, { on := 5, ground := Ground.chain }, { on := 0, ground := Ground.phase }, { on := 1, ground := Ground.phase }, { on := 2, ground := Ground.phase }, { on := 3, ground := Ground.phase }, { on := 4, ground := Ground.phase }, { on := 5, ground := Ground.phase }], guard := none }
abbrev kc0 : Oper := { dst := some 141, op := Op.move (Operand.tmp 0), type := 28, pos := "law.go:190", after := #[], guard := none }
abbrev kc1 : Oper := { dst := some 142, op := Op.nilCheck (Operand.tmp 141), type := 0, pos := "law.go:190", after := #[{ on := 0, ground := Ground.data }], guard := none }
abbrev kc2 : Oper := { dst := some 143, op := Op.fieldAddr 37 (Operand.tmp 142) 0, type := 0, pos := "law.go:190", after := #[{ on := 1, ground := Ground.data }], guard := none }
abbrev kc3 : Oper := { dst := some 144, op := Op.load 24 (Operand.tmp 143), type := 24, pos := "law.go:190", after := #[{ on := 2, ground := Ground.data }], guard := none }
abbrev kc4 : Oper := { dst := some 145, op := Op.load 43 (Operand.tmp 5), type := 43, pos := "law.go:190", after := #[], guard := none }
abbrev kc5 : Oper := { dst := some 146, op := Op.fieldAddr 45 (Operand.tmp 3) 3, type := 0, pos := "law.go:190", after := #[], guard := none }
abbrev kc6 : Oper := { dst := some 147, op := Op.load 39 (Operand.tmp 146), type := 39, pos := "law.go:190", after := #[{ on := 5, ground := Ground.data }], guard := none }
abbrev kc7 : Oper := { dst := some 148, op := Op.call { callee := Callee.value (Operand.func 21), args := #[Operand.tmp 144, Operand.tmp 145, Operand.tmp 147], argTypes := #[24, 43, 39] }, type := 4, pos := "law.go:190", after := #[{ on := 3, ground := Ground.data }, { on := 4, ground := Ground.data }, { on := 6, ground := Ground.data }], guard := none }
abbrev kc8 : Oper := { dst := some 15, op := Op.assign (Operand.tmp 148), type := 4, pos := "law.go:190", after := #[{ on := 7, ground := Ground.data }, { on := 7, ground := Ground.chain }, { on := 0, ground := Ground.phase }, { on := 1, ground := Ground.phase }, { on := 2, ground := Ground.phase }, { on := 3, ground := Ground.phase }, { on := 4, ground := Ground.phase }, { on := 5, ground := Ground.phase }, { on := 6, ground := Ground.phase }, { on := 7, ground := Ground.phase }], guard := none }

set_option maxRecDepth 100000 in
set_option maxHeartbeats 16000000 in
theorem step_kind {P : Px} {w : World} {vT vl vw vD : Value} {l : List Th} {L : List Lk} {aq : List Hd} {ls ws : List Value} {xs : List (List Hd)} {O : Nat → Prop} (h : SQ P w vT vl vw vD l l (hnds l) L aq ls ws xs O) {o : Oq} {rs : List Int} (hrt : RtsAt P.N w o rs) (us : Us o.s) (ha : I64 o.a) (hb : I64 o.b) (hk : o.k = 4) (hll : l.length ≤ 1000) (hls : ls.length ≤ 1000) :
    Calls Try.prog 8 #[.pointer (some ⟨P.bw, 0, none⟩), opV o] w fun e w' => e = .returned (.bool true) ∧ StepI P w w' l xs := by
  have HK := hide hk
  have hu1 := hll
  have hu2 := hls
  clear hk hu1 hu2
  have hhl : (hnds l).length ≤ 100000 := by unfold hnds; rw [List.length_map]; omega
  obtain ⟨w1, hw1⟩ : ∃ w1, w.alloc (.cells #[.int .i64 o.k, .int .i64 o.a, .int .i64 o.b, .int .i64 o.kd, .slice o.ra o.rn o.rc, .bool o.hd, .int .u32 o.s, .int .u32 o.g] 45) = w1 := ⟨_, rfl⟩
  have hB1 : Below w.heap.size w w1 := by rw [← hw1]; exact below1 _ _
  have hn1 : w1.heap[w.heap.size]? = some (.cells #[.int .i64 o.k, .int .i64 o.a, .int .i64 o.b, .int .i64 o.kd, .slice o.ra o.rn o.rc, .bool o.hd, .int .u32 o.s, .int .u32 o.g] 45 (0, 0)) := by rw [← hw1]; exact heap_new _ _
  have c1 := Ch.of_below (Q := fun _ => False) hB1
  have hs1 := h.quiet c1
  have HHD := hide (fun c (hc : I64 c) V (cV : Ch (fun _ => False) w1 V) => show Calls Try.prog 14 #[.pointer (some ⟨P.bw, 0, none⟩), .int .i64 c, .agg #[.int .i64 o.k, .int .i64 o.a, .int .i64 o.b, .int .i64 o.kd, .slice o.ra o.rn o.rc, .bool o.hd, .int .u32 o.s, .int .u32 o.g]] V fun e w' => e = .returned (hv (hdlW (hnds l) c o).1 (hdlW (hnds l) c o).2) ∧ Below V.heap.size V w' from by
    obtain ⟨vL, vA, vE, hb, -⟩ := (hs1.quiet cV).box
    exact handle_is hb rfl (hs1.quiet cV).tr hhl hc _)
  have husx := hdl_us h.hp.tb.wf h.hp.tb.m2 o.a o us
  have HUB := hide (hdl_us h.hp.tb.wf h.hp.tb.m2 o.b o us)
  obtain ⟨x1, x2, hx12⟩ : ∃ x1 x2, hdlW (hnds l) o.a o = (x1, x2) := ⟨_, _, rfl⟩
  have HHA := HHD.out o.a ha
  rw [hx12] at HHA husx
  have HHA := hide HHA
  have HUX := hide husx
  have E1 := hide hn1
  have H1 := hide hs1
  have B1 := hide hB1
  have HLW := hide h.low
  have HIB := hide hb
  have HRT := hide (show ∀ V, Below P.N w V → RtsAt P.N V o rs from fun V bV => by
    obtain ⟨h1, h2, h3, h4⟩ := hrt
    exact ⟨h1, h2, fun h0 => by
      obtain ⟨b', f', e, hb', hc'⟩ := h3 h0
      exact ⟨b', f', e, hb', fun i hi => (bV.cell (p := ⟨b', _, none⟩) hb').trans (hc' i hi)⟩, h4⟩)
  obtain ⟨s0, s1, s2, s3, s4, s5, s6, s7⟩ : w1.cell? ⟨w.heap.size, 0, none⟩ = some (.int .i64 o.k) ∧ w1.cell? ⟨w.heap.size, 1, none⟩ = some (.int .i64 o.a) ∧ w1.cell? ⟨w.heap.size, 2, none⟩ = some (.int .i64 o.b) ∧ w1.cell? ⟨w.heap.size, 3, none⟩ = some (.int .i64 o.kd) ∧ w1.cell? ⟨w.heap.size, 4, none⟩ = some (.slice o.ra o.rn o.rc) ∧ w1.cell? ⟨w.heap.size, 5, none⟩ = some (.bool o.hd) ∧ w1.cell? ⟨w.heap.size, 6, none⟩ = some (.int .u32 o.s) ∧ w1.cell? ⟨w.heap.size, 7, none⟩ = some (.int .u32 o.g) := by
    have e := Lib.cell_of_heap hn1
    exact ⟨by simp [e], by simp [e], by simp [e], by simp [e], by simp [e], by simp [e], by simp [e], by simp [e]⟩
  clear h hs1 hrt hn1 hB1 c1 hhl husx hx12 ha hb
  go_enter Try.func8, Try.ntmps8
  go_wp2_with fail
  try rw [hw1]
  clear hw1 s0 s1 s2 s3 s4 s5 s6 s7
  refine (HHA.out w1 (Ch.refl _ _)).mono ?_
  rintro e w2 ⟨rfl, hb2⟩
  obtain ⟨V3, hV3⟩ : ∃ V3, w2.alloc (.cells #[.int .u32 x1, .int .u32 x2] 43) = V3 := ⟨_, rfl⟩
  have c13 : Ch (fun _ => False) w1 V3 := by rw [← hV3]; exact (Ch.of_below hb2).trans (Ch.alloc _ _) (fun _ _ h => h)
  have e3 : V3.heap[w2.heap.size]? = some (.cells #[.int .u32 x1, .int .u32 x2] 43 (0, 0)) := by rw [← hV3]; exact heap_new _ _
  have C13 := hide c13
  have H3 := hide (H1.out.quiet c13)
  have E3 := hide (c13.box E1.out (fun h => h))
  have X3 := hide e3
  have B3 := hide (show Below P.N w V3 from (B1.out.mono HLW.out).trans (c13.below (Nat.le_trans HLW.out B1.out.size) (fun _ _ h => h)))
  have HWF := hide (And.intro H3.out.hp.tb.wf (And.intro H3.out.hp.tb.lt H3.out.hp.tb.m2))
  have u0 : V3.cell? ⟨w.heap.size, 0, none⟩ = some (.int .i64 o.k) := by simp [Lib.cell_of_heap E3.out]
  have HX := hide (fun wq (kq : Ch (fun _ => False) V3 wq) => show (wq.cell? ⟨w2.heap.size, 0, none⟩ = some (.int .u32 x1) ∧ wq.cell? ⟨w2.heap.size, 1, none⟩ = some (.int .u32 x2)) ∧ wq.cell? ⟨w.heap.size, 0, none⟩ = some (.int .i64 o.k) ∧ wq.cell? ⟨w.heap.size, 1, none⟩ = some (.int .i64 o.a) ∧ wq.cell? ⟨w.heap.size, 2, none⟩ = some (.int .i64 o.b) ∧ wq.cell? ⟨w.heap.size, 3, none⟩ = some (.int .i64 o.kd) ∧ wq.cell? ⟨w.heap.size, 4, none⟩ = some (.slice o.ra o.rn o.rc) ∧ wq.cell? ⟨w.heap.size, 5, none⟩ = some (.bool o.hd) ∧ wq.cell? ⟨w.heap.size, 6, none⟩ = some (.int .u32 o.s) ∧ wq.cell? ⟨w.heap.size, 7, none⟩ = some (.int .u32 o.g) from by
    have e1 := Lib.cell_of_heap (kq.box X3.out (fun h => h))
    have e2 := Lib.cell_of_heap (kq.box E3.out (fun h => h))
    exact ⟨⟨by simp [e1], by simp [e1]⟩, by simp [e2], by simp [e2], by simp [e2], by simp [e2], by simp [e2], by simp [e2], by simp [e2], by simp [e2]⟩)
  clear hb2 c13 e3
  have hk := HK.out
  have t1 : (o.k == 1) = false := by rw [hk]; rfl
  have t2 : (o.k == 2) = false := by rw [hk]; rfl
  have t3 : (o.k == 3) = false := by rw [hk]; rfl
  have t4 : (o.k == 4) = true := by rw [hk]; rfl
  have t5 : (o.k == 5) = false := by rw [hk]; rfl
  have t6 : (o.k == 6) = false := by rw [hk]; rfl
  have t7 : (o.k == 7) = false := by rw [hk]; rfl
  clear hk
  obtain ⟨r, hr⟩ : ∃ r, fnd l x1 x2 = r := ⟨_, rfl⟩
  have HR := hide hr
  obtain ⟨gx, hgx⟩ : ∃ gx, gtX l x1 x2 = gx := ⟨_, rfl⟩
  obtain ⟨fb, hfb⟩ : ∃ fb, fnB l x1 x2 = fb := ⟨_, rfl⟩
  have HGX := hide hgx
  have HFB := hide hfb
  clear hr hgx hfb
  go_wp2
  clear hV3 u0
  have CQ := hide (Ch.refl (fun _ => False) V3)
  refine wp_reg (fun _ => False) (R := fun V => Ch (fun _ => False) V3 V) (by kernel_rfl) (Ch.drew _) (fun V cV zk => ?_)
  have CV := hide cV
  clear cV
  obtain ⟨vL, vA, vE, hbx, -⟩ := H3.out.box
  have HBX := hide (fun wq (kq : Ch (fun _ => False) V3 wq) => show wq.cell? ⟨P.bw, 0, none⟩ = some (.pointer (some ⟨P.b, 0, none⟩)) ∧ wq.cell? ⟨P.bw, 1, none⟩ = some (.pointer (some ⟨P.db, 0, none⟩)) from by have e := Lib.cell_of_heap (kq.box hbx (fun h => h)); exact ⟨by simp [e], by simp [e]⟩)
  clear hbx
  apply tk 0 ka0 rfl (by kernel_rfl) (fun _ _ _ h => h) zk
  · intro wq zq
    go_simp
    try rfl
  go_frame
  apply tk 1 ka1 rfl (by kernel_rfl) (fun _ _ _ h => h) zk
  · intro wq zq
    go_simp
    try rfl
  go_frame
  apply tk 2 ka2 rfl (by kernel_rfl) (fun _ _ _ h => h) zk
  · intro wq zq
    go_simp
    try rfl
  go_frame
  apply tk 3 ka3 rfl (by kernel_rfl) (fun _ _ _ h => h) zk
  · intro wq zq
    obtain ⟨z0, z1⟩ := HBX.out _ (CQ.out.trans (CV.out.trans zq (fun _ _ h => h)) (fun _ _ h => h))
    obtain ⟨⟨z2, z3⟩, z4, z5, z6, z7, -⟩ := HX.out _ (CQ.out.trans (CV.out.trans zq (fun _ _ h => h)) (fun _ _ h => h))
    go_simp
    try rfl
  go_frame
  apply tk 4 ka4 rfl (by kernel_rfl) (fun _ _ _ h => h) zk
  · intro wq zq
    obtain ⟨z0, z1⟩ := HBX.out _ (CQ.out.trans (CV.out.trans zq (fun _ _ h => h)) (fun _ _ h => h))
    obtain ⟨⟨z2, z3⟩, z4, z5, z6, z7, -⟩ := HX.out _ (CQ.out.trans (CV.out.trans zq (fun _ _ h => h)) (fun _ _ h => h))
    go_simp
    try rfl
  go_frame
  refine rd 5 ka5 rfl (by kernel_rfl) fun K hK => ?_
  go_simp
  refine (hkind_is (G := x2) (H3.out.quiet (CQ.out.trans CV.out (fun _ _ h => h))).hp HUX.out).mono ?_
  rintro e w5 ⟨rfl, hb5⟩
  have Z5 := hide (zk.trans (Ch.of_below (Q := fun _ => False) hb5) (fun _ _ h => h))
  have CQ2 := hide (CQ.out.trans (CV.out.trans (Ch.of_below hb5) (fun _ _ h => h)) (fun _ _ h => h))
  clear hb5
  go_wp2_with fail
  refine hK.out _ _ ?_ (fun zk => ?_)
  · exact Z5.out
  clear hK K
  try go_frame
  apply tk 6 ka6 rfl (by kernel_rfl) (fun _ _ _ h => h) zk
  · intro wq zq
    go_simp
    try rfl
  go_frame
  apply tk 7 ka7 rfl (by kernel_rfl) (fun _ _ _ h => h) zk
  · intro wq zq
    go_simp
    try rfl
  go_frame
  apply tk 8 ka8 rfl (by kernel_rfl) (fun _ _ _ h => h) zk
  · intro wq zq
    go_simp
    try rfl
  go_frame
  apply tk 9 ka9 rfl (by kernel_rfl) (fun _ _ _ h => h) zk
  · intro wq zq
    go_simp
    try rfl
  go_frame
  apply tk 10 ka10 rfl (by kernel_rfl) (fun _ _ _ h => h) zk
  · intro wq zq
    go_simp
    try rfl
  go_frame
  refine wpAnyH_done (by kernel_rfl) ?_ _
  replace CQ := CQ2
  clear CQ2 Z5 CV HBX
  clear zk
  go_wp2
  refine wp_reg (fun _ => False) (R := fun V => Ch (fun _ => False) w5 V) (by kernel_rfl) (Ch.drew _) (fun V cV zk => ?_)
  have CV := hide cV
  clear cV
  obtain ⟨vL, vA, vE, hbx, -⟩ := H3.out.box
  have HBX := hide (fun wq (kq : Ch (fun _ => False) V3 wq) => show wq.cell? ⟨P.bw, 0, none⟩ = some (.pointer (some ⟨P.b, 0, none⟩)) ∧ wq.cell? ⟨P.bw, 1, none⟩ = some (.pointer (some ⟨P.db, 0, none⟩)) from by have e := Lib.cell_of_heap (kq.box hbx (fun h => h)); exact ⟨by simp [e], by simp [e]⟩)
  clear hbx
  apply tk 0 kb0 rfl (by kernel_rfl) (fun _ _ _ h => h) zk
  · intro wq zq
    go_simp
    try rfl
  go_frame
  apply tk 1 kb1 rfl (by kernel_rfl) (fun _ _ _ h => h) zk
  · intro wq zq
    go_simp
    try rfl
  go_frame
  apply tk 2 kb2 rfl (by kernel_rfl) (fun _ _ _ h => h) zk
  · intro wq zq
    go_simp
    try rfl
  go_frame
  apply tk 3 kb3 rfl (by kernel_rfl) (fun _ _ _ h => h) zk
  · intro wq zq
    obtain ⟨z0, z1⟩ := HBX.out _ (CQ.out.trans (CV.out.trans zq (fun _ _ h => h)) (fun _ _ h => h))
    obtain ⟨⟨z2, z3⟩, z4, z5, z6, z7, -⟩ := HX.out _ (CQ.out.trans (CV.out.trans zq (fun _ _ h => h)) (fun _ _ h => h))
    go_simp
    try rfl
  go_frame
  apply tk 4 kb4 rfl (by kernel_rfl) (fun _ _ _ h => h) zk
  · intro wq zq
    obtain ⟨z0, z1⟩ := HBX.out _ (CQ.out.trans (CV.out.trans zq (fun _ _ h => h)) (fun _ _ h => h))
    obtain ⟨⟨z2, z3⟩, z4, z5, z6, z7, -⟩ := HX.out _ (CQ.out.trans (CV.out.trans zq (fun _ _ h => h)) (fun _ _ h => h))
    go_simp
    try rfl
  go_frame
  refine rd 5 kb5 rfl (by kernel_rfl) fun K hK => ?_
  go_simp
  refine (rfind_is (H3.out.quiet (CQ.out.trans CV.out (fun _ _ h => h))).dt x1 x2 HR.out).mono ?_
  rintro e w6 ⟨rfl, hb5⟩
  have Z5 := hide (zk.trans (Ch.of_below (Q := fun _ => False) hb5) (fun _ _ h => h))
  have CQ2 := hide (CQ.out.trans (CV.out.trans (Ch.of_below hb5) (fun _ _ h => h)) (fun _ _ h => h))
  clear hb5
  go_wp2_with fail
  refine hK.out _ _ ?_ (fun zk => ?_)
  · exact Z5.out
  clear hK K
  try go_frame
  apply tk 6 kb6 rfl (by kernel_rfl) (fun _ _ _ h => h) zk
  · intro wq zq
    go_simp
    try rfl
  go_frame
  refine wpAnyH_done (by kernel_rfl) ?_ _
  replace CQ := CQ2
  clear CQ2 Z5 CV HBX
  clear zk
  go_wp2
  refine wp_reg (fun _ => False) (R := fun V => Ch (fun _ => False) w6 V) (by kernel_rfl) (Ch.drew _) (fun V cV zk => ?_)
  have CV := hide cV
  clear cV
  obtain ⟨vL, vA, vE, hbx, -⟩ := H3.out.box
  have HBX := hide (fun wq (kq : Ch (fun _ => False) V3 wq) => show wq.cell? ⟨P.bw, 0, none⟩ = some (.pointer (some ⟨P.b, 0, none⟩)) ∧ wq.cell? ⟨P.bw, 1, none⟩ = some (.pointer (some ⟨P.db, 0, none⟩)) from by have e := Lib.cell_of_heap (kq.box hbx (fun h => h)); exact ⟨by simp [e], by simp [e]⟩)
  clear hbx
  apply tk 0 kc0 rfl (by kernel_rfl) (fun _ _ _ h => h) zk
  · intro wq zq
    go_simp
    try rfl
  go_frame
  apply tk 1 kc1 rfl (by kernel_rfl) (fun _ _ _ h => h) zk
  · intro wq zq
    go_simp
    try rfl
  go_frame
  apply tk 2 kc2 rfl (by kernel_rfl) (fun _ _ _ h => h) zk
  · intro wq zq
    go_simp
    try rfl
  go_frame
  apply tk 3 kc3 rfl (by kernel_rfl) (fun _ _ _ h => h) zk
  · intro wq zq
    obtain ⟨z0, z1⟩ := HBX.out _ (CQ.out.trans (CV.out.trans zq (fun _ _ h => h)) (fun _ _ h => h))
    obtain ⟨⟨z2, z3⟩, z4, z5, z6, z7, -⟩ := HX.out _ (CQ.out.trans (CV.out.trans zq (fun _ _ h => h)) (fun _ _ h => h))
    go_simp
    try rfl
  go_frame
  apply tk 4 kc4 rfl (by kernel_rfl) (fun _ _ _ h => h) zk
  · intro wq zq
    obtain ⟨z0, z1⟩ := HBX.out _ (CQ.out.trans (CV.out.trans zq (fun _ _ h => h)) (fun _ _ h => h))
    obtain ⟨⟨z2, z3⟩, z4, z5, z6, z7, -⟩ := HX.out _ (CQ.out.trans (CV.out.trans zq (fun _ _ h => h)) (fun _ _ h => h))
    go_simp
    try rfl
  go_frame
  apply tk 5 kc5 rfl (by kernel_rfl) (fun _ _ _ h => h) zk
  · intro wq zq
    go_simp
    try rfl
  go_frame
  apply tk 6 kc6 rfl (by kernel_rfl) (fun _ _ _ h => h) zk
  · intro wq zq
    obtain ⟨z0, z1⟩ := HBX.out _ (CQ.out.trans (CV.out.trans zq (fun _ _ h => h)) (fun _ _ h => h))
    obtain ⟨⟨z2, z3⟩, z4, z5, z6, z7, -⟩ := HX.out _ (CQ.out.trans (CV.out.trans zq (fun _ _ h => h)) (fun _ _ h => h))
    go_simp
    try rfl
  go_frame
  refine rd 7 kc7 rfl (by kernel_rfl) fun K hK => ?_
  go_simp
  refine (his_is (G := x2) (H3.out.quiet (CQ.out.trans CV.out (fun _ _ h => h))).hp o.kd HUX.out).mono ?_
  rintro e w7 ⟨rfl, hb5⟩
  have Z5 := hide (zk.trans (Ch.of_below (Q := fun _ => False) hb5) (fun _ _ h => h))
  have CQ2 := hide (CQ.out.trans (CV.out.trans (Ch.of_below hb5) (fun _ _ h => h)) (fun _ _ h => h))
  clear hb5
  go_wp2_with fail
  refine hK.out _ _ ?_ (fun zk => ?_)
  · exact Z5.out
  clear hK K
  try go_frame
  apply tk 8 kc8 rfl (by kernel_rfl) (fun _ _ _ h => h) zk
  · intro wq zq
    go_simp
    try rfl
  go_frame
  refine wpAnyH_done (by kernel_rfl) ?_ _
  replace CQ := CQ2
  clear CQ2 Z5 CV HBX
  clear zk
  have H7 := hide (H3.out.quiet CQ.out)
  have B7 := hide (B3.out.trans (CQ.out.below (Nat.le_trans HLW.out B3.out.size) (fun _ _ h => h)))
  rw [HGX.out, HFB.out]
  cases r with
  | none =>
    obtain rfl : fb = false := by rw [← HFB.out]; unfold fnB; rw [HR.out]; rfl
    obtain rfl : gx = 0 := by rw [← HGX.out]; unfold gtX; rw [HR.out]
    have hec : ec false 132 = 132 := rfl
    rw [hec]
    have hix : ix none = -1 := rfl
    rw [hix]
    go_wp2
    go_ret
    exact ⟨rfl, StepI.same H7.out B7.out⟩
  | some i =>
    obtain ⟨hil, -, -, -⟩ := fnd_some HR.out
    obtain rfl : fb = true := by rw [← HFB.out]; unfold fnB; rw [HR.out]; rfl
    have hgx : gx = l[i].x := by rw [← HGX.out]; unfold gtX; rw [HR.out]; simp [List.getElem?_eq_getElem hil]
    have hec : ec true 132 = 0 := rfl
    rw [hec]
    have hix : ix (some i) = (i : Int) := rfl
    rw [hix]
    have q1 : decide ((i : Int) < 0) = false := decide_eq_false (by omega)
    obtain ⟨vL, vA, vE, hbx, -⟩ := H7.out.box
    obtain ⟨bl, dc, hvD, -, -, y2, -⟩ := H7.out.dt.at hil
    rw [← hgx] at y2
    have z1 : w7.cell? ⟨P.bw, 1, none⟩ = some (.pointer (some ⟨P.db, 0, none⟩)) := by simp [Lib.cell_of_heap hbx]
    have z2 := H7.out.dt.cells.1
    rw [hvD] at z2
    have z3 := (HX.out w7 CQ.out).2.2.2.2.1
    have hil2 : (i : Int) < (l.length : Int) := by omega
    clear hgx hbx hvD hec hix
    by_cases hgk : gx = o.kd
    · have q2 : (gx == o.kd) = true := by simpa using hgk
      have q3 : decide (gx = o.kd) = true := decide_eq_true hgk
      rw [q3]
      clear hgk
      go_wp2
      go_ret
      first
        | exact ⟨rfl, StepI.same H7.out B7.out⟩
        | exact ⟨rfl, StepI.same (H7.out.quiet (Ch.drew _)) (B7.out.trans ((Ch.drew (Q := fun _ => False) _).below (Nat.le_trans HLW.out B7.out.size) (fun _ _ h => h)))⟩
        | exact ⟨rfl, StepI.same (H7.out.quiet (Ch.drewN _ _)) (B7.out.trans ((Ch.drewN (Q := fun _ => False) _ _).below (Nat.le_trans HLW.out B7.out.size) (fun _ _ h => h)))⟩
    · have q2 : (gx == o.kd) = false := by simpa using hgk
      have q3 : decide (gx = o.kd) = false := decide_eq_false hgk
      rw [q3]
      clear hgk
      go_wp2
      go_ret
      first
        | exact ⟨rfl, StepI.same H7.out B7.out⟩
        | exact ⟨rfl, StepI.same (H7.out.quiet (Ch.drew _)) (B7.out.trans ((Ch.drew (Q := fun _ => False) _).below (Nat.le_trans HLW.out B7.out.size) (fun _ _ h => h)))⟩
        | exact ⟨rfl, StepI.same (H7.out.quiet (Ch.drewN _ _)) (B7.out.trans ((Ch.drewN (Q := fun _ => False) _ _).below (Nat.le_trans HLW.out B7.out.size) (fun _ _ h => h)))⟩

end Go.Proofs.Ytcogiklnegpfiaa

namespace Go.Proofs.Ytcogiklnegpfiaa
open Go.RowKit Go.Shelf

set_option maxRecDepth 100000 in
set_option maxHeartbeats 16000000 in
theorem step_marked {P : Px} {w : World} {vT vl vw vD : Value} {l : List Th} {L : List Lk} {aq : List Hd} {ls ws : List Value} {xs : List (List Hd)} {O : Nat → Prop} (h : SQ P w vT vl vw vD l l (hnds l) L aq ls ws xs O) {o : Oq} {rs : List Int} (hrt : RtsAt P.N w o rs) (us : Us o.s) (ha : I64 o.a) (hb : I64 o.b) (hk : o.k = 5 ∨ o.k = 6) (hll : l.length ≤ 1000) (hls : ls.length ≤ 1000) :
    Calls Try.prog 8 #[.pointer (some ⟨P.bw, 0, none⟩), opV o] w fun e w' => e = .returned (.bool true) ∧ StepI P w w' l xs := by
  have HK := hide hk
  have hu1 := hll
  have hu2 := hls
  clear hk hu1 hu2
  have hhl : (hnds l).length ≤ 100000 := by unfold hnds; rw [List.length_map]; omega
  obtain ⟨w1, hw1⟩ : ∃ w1, w.alloc (.cells #[.int .i64 o.k, .int .i64 o.a, .int .i64 o.b, .int .i64 o.kd, .slice o.ra o.rn o.rc, .bool o.hd, .int .u32 o.s, .int .u32 o.g] 45) = w1 := ⟨_, rfl⟩
  have hB1 : Below w.heap.size w w1 := by rw [← hw1]; exact below1 _ _
  have hn1 : w1.heap[w.heap.size]? = some (.cells #[.int .i64 o.k, .int .i64 o.a, .int .i64 o.b, .int .i64 o.kd, .slice o.ra o.rn o.rc, .bool o.hd, .int .u32 o.s, .int .u32 o.g] 45 (0, 0)) := by rw [← hw1]; exact heap_new _ _
  have c1 := Ch.of_below (Q := fun _ => False) hB1
  have hs1 := h.quiet c1
  have HHD := hide (fun c (hc : I64 c) V (cV : Ch (fun _ => False) w1 V) => show Calls Try.prog 14 #[.pointer (some ⟨P.bw, 0, none⟩), .int .i64 c, .agg #[.int .i64 o.k, .int .i64 o.a, .int .i64 o.b, .int .i64 o.kd, .slice o.ra o.rn o.rc, .bool o.hd, .int .u32 o.s, .int .u32 o.g]] V fun e w' => e = .returned (hv (hdlW (hnds l) c o).1 (hdlW (hnds l) c o).2) ∧ Below V.heap.size V w' from by
    obtain ⟨vL, vA, vE, hb, -⟩ := (hs1.quiet cV).box
    exact handle_is hb rfl (hs1.quiet cV).tr hhl hc _)
  have husx := hdl_us h.hp.tb.wf h.hp.tb.m2 o.a o us
  have HUB := hide (hdl_us h.hp.tb.wf h.hp.tb.m2 o.b o us)
  obtain ⟨x1, x2, hx12⟩ : ∃ x1 x2, hdlW (hnds l) o.a o = (x1, x2) := ⟨_, _, rfl⟩
  have HHA := HHD.out o.a ha
  rw [hx12] at HHA husx
  have HHA := hide HHA
  have HUX := hide husx
  have E1 := hide hn1
  have H1 := hide hs1
  have B1 := hide hB1
  have HLW := hide h.low
  have HIB := hide hb
  have HRT := hide (show ∀ V, Below P.N w V → RtsAt P.N V o rs from fun V bV => by
    obtain ⟨h1, h2, h3, h4⟩ := hrt
    exact ⟨h1, h2, fun h0 => by
      obtain ⟨b', f', e, hb', hc'⟩ := h3 h0
      exact ⟨b', f', e, hb', fun i hi => (bV.cell (p := ⟨b', _, none⟩) hb').trans (hc' i hi)⟩, h4⟩)
  obtain ⟨s0, s1, s2, s3, s4, s5, s6, s7⟩ : w1.cell? ⟨w.heap.size, 0, none⟩ = some (.int .i64 o.k) ∧ w1.cell? ⟨w.heap.size, 1, none⟩ = some (.int .i64 o.a) ∧ w1.cell? ⟨w.heap.size, 2, none⟩ = some (.int .i64 o.b) ∧ w1.cell? ⟨w.heap.size, 3, none⟩ = some (.int .i64 o.kd) ∧ w1.cell? ⟨w.heap.size, 4, none⟩ = some (.slice o.ra o.rn o.rc) ∧ w1.cell? ⟨w.heap.size, 5, none⟩ = some (.bool o.hd) ∧ w1.cell? ⟨w.heap.size, 6, none⟩ = some (.int .u32 o.s) ∧ w1.cell? ⟨w.heap.size, 7, none⟩ = some (.int .u32 o.g) := by
    have e := Lib.cell_of_heap hn1
    exact ⟨by simp [e], by simp [e], by simp [e], by simp [e], by simp [e], by simp [e], by simp [e], by simp [e]⟩
  clear h hs1 hrt hn1 hB1 c1 hhl husx hx12 ha hb
  go_enter Try.func8, Try.ntmps8
  go_wp2_with fail
  try rw [hw1]
  clear hw1 s0 s1 s2 s3 s4 s5 s6 s7
  refine (HHA.out w1 (Ch.refl _ _)).mono ?_
  rintro e w2 ⟨rfl, hb2⟩
  obtain ⟨V3, hV3⟩ : ∃ V3, w2.alloc (.cells #[.int .u32 x1, .int .u32 x2] 43) = V3 := ⟨_, rfl⟩
  have c13 : Ch (fun _ => False) w1 V3 := by rw [← hV3]; exact (Ch.of_below hb2).trans (Ch.alloc _ _) (fun _ _ h => h)
  have e3 : V3.heap[w2.heap.size]? = some (.cells #[.int .u32 x1, .int .u32 x2] 43 (0, 0)) := by rw [← hV3]; exact heap_new _ _
  have C13 := hide c13
  have H3 := hide (H1.out.quiet c13)
  have E3 := hide (c13.box E1.out (fun h => h))
  have X3 := hide e3
  have B3 := hide (show Below P.N w V3 from (B1.out.mono HLW.out).trans (c13.below (Nat.le_trans HLW.out B1.out.size) (fun _ _ h => h)))
  have HWF := hide (And.intro H3.out.hp.tb.wf (And.intro H3.out.hp.tb.lt H3.out.hp.tb.m2))
  have u0 : V3.cell? ⟨w.heap.size, 0, none⟩ = some (.int .i64 o.k) := by simp [Lib.cell_of_heap E3.out]
  have HX := hide (fun wq (kq : Ch (fun _ => False) V3 wq) => show (wq.cell? ⟨w2.heap.size, 0, none⟩ = some (.int .u32 x1) ∧ wq.cell? ⟨w2.heap.size, 1, none⟩ = some (.int .u32 x2)) ∧ wq.cell? ⟨w.heap.size, 0, none⟩ = some (.int .i64 o.k) ∧ wq.cell? ⟨w.heap.size, 1, none⟩ = some (.int .i64 o.a) ∧ wq.cell? ⟨w.heap.size, 2, none⟩ = some (.int .i64 o.b) ∧ wq.cell? ⟨w.heap.size, 3, none⟩ = some (.int .i64 o.kd) ∧ wq.cell? ⟨w.heap.size, 4, none⟩ = some (.slice o.ra o.rn o.rc) ∧ wq.cell? ⟨w.heap.size, 5, none⟩ = some (.bool o.hd) ∧ wq.cell? ⟨w.heap.size, 6, none⟩ = some (.int .u32 o.s) ∧ wq.cell? ⟨w.heap.size, 7, none⟩ = some (.int .u32 o.g) from by
    have e1 := Lib.cell_of_heap (kq.box X3.out (fun h => h))
    have e2 := Lib.cell_of_heap (kq.box E3.out (fun h => h))
    exact ⟨⟨by simp [e1], by simp [e1]⟩, by simp [e2], by simp [e2], by simp [e2], by simp [e2], by simp [e2], by simp [e2], by simp [e2], by simp [e2]⟩)
  clear hb2 c13 e3
  have hk := HK.out
  have t1 : (o.k == 1) = false := by rcases hk with h | h <;> rw [h] <;> rfl
  have t2 : (o.k == 2) = false := by rcases hk with h | h <;> rw [h] <;> rfl
  have t3 : (o.k == 3) = false := by rcases hk with h | h <;> rw [h] <;> rfl
  have t4 : (o.k == 4) = false := by rcases hk with h | h <;> rw [h] <;> rfl
  obtain ⟨s1, s2, s3, s4, s5, s6, s7⟩ := (HX.out V3 (Ch.refl _ _)).2.2
  have HMK := hide (marked_is H3.out (HRT.out V3 B3.out) us hk hll hls)
  clear hk
  rcases HK.out with hk | hk
  · have t5 : (o.k == 5) = true := by rw [hk]; rfl
    clear hk
    go_wp2_with fail
    clear hV3
    refine HMK.out.mono ?_
    rintro e w4 ⟨rfl, hI⟩
    have HI := hide (hI.after B3.out)
    clear hI s1 s2 s3 s4 s5 s6 s7 u0
    go_wp2
    go_ret
    exact ⟨rfl, HI.out⟩
  · have t5 : (o.k == 5) = false := by rw [hk]; rfl
    have t6 : (o.k == 6) = true := by rw [hk]; rfl
    clear hk
    go_wp2_with fail
    clear hV3
    refine HMK.out.mono ?_
    rintro e w4 ⟨rfl, hI⟩
    have HI := hide (hI.after B3.out)
    clear hI s1 s2 s3 s4 s5 s6 s7 u0
    go_wp2
    go_ret
    exact ⟨rfl, HI.out⟩

end Go.Proofs.Ytcogiklnegpfiaa

namespace Go.Proofs.Ytcogiklnegpfiaa
open Go.RowKit Go.Shelf

abbrev al0 : Oper := { dst := some 194, op := Op.move (Operand.tmp 0), type := 28, pos := "law.go:198", after := #[], guard := none }
abbrev al1 : Oper := { dst := some 195, op := Op.move (Operand.tmp 0), type := 28, pos := "law.go:198", after := #[], guard := none }
abbrev al2 : Oper := { dst := some 196, op := Op.nilCheck (Operand.tmp 195), type := 0, pos := "law.go:198", after := #[{ on := 1, ground := Ground.data }], guard := none }
abbrev al3 : Oper := { dst := some 197, op := Op.fieldAddr 37 (Operand.tmp 196) 0, type := 0, pos := "law.go:198", after := #[{ on := 2, ground := Ground.data }], guard := none }
abbrev al4 : Oper := { dst := some 198, op := Op.load 24 (Operand.tmp 197), type := 24, pos := "law.go:198", after := #[{ on := 3, ground := Ground.data }], guard := none }
abbrev al5 : Oper := { dst := some 199, op := Op.call { callee := Callee.value (Operand.func 20), args := #[Operand.tmp 198], argTypes := #[24] }, type := 34, pos := "law.go:198", after := #[{ on := 4, ground := Ground.data }], guard := none }
abbrev al6 : Oper := { dst := some 200, op := Op.move (Operand.tmp 0), type := 28, pos := "law.go:198", after := #[], guard := none }
abbrev al7 : Oper := { dst := some 201, op := Op.nilCheck (Operand.tmp 200), type := 0, pos := "law.go:198", after := #[{ on := 6, ground := Ground.data }], guard := none }
abbrev al8 : Oper := { dst := some 202, op := Op.fieldAddr 37 (Operand.tmp 201) 1, type := 0, pos := "law.go:198", after := #[{ on := 7, ground := Ground.data }], guard := none }
abbrev al9 : Oper := { dst := some 203, op := Op.load 29 (Operand.tmp 202), type := 29, pos := "law.go:198", after := #[{ on := 8, ground := Ground.data }], guard := none }
abbrev al10 : Oper := { dst := some 204, op := Op.call { callee := Callee.value (Operand.func 27), args := #[Operand.tmp 203], argTypes := #[29] }, type := 34, pos := "law.go:198", after := #[{ on := 9, ground := Ground.data }, { on := 5, ground := Ground.chain }], guard := none }
abbrev al11 : Oper := { dst := some 205, op := Op.call { callee := Callee.value (Operand.func 26), args := #[Operand.tmp 194, Operand.tmp 199, Operand.tmp 204], argTypes := #[28, 34, 34] }, type := 4, pos := "law.go:198", after := #[{ on := 0, ground := Ground.data }, { on := 5, ground := Ground.data }, { on := 10, ground := Ground.data }, { on := 10, ground := Ground.chain }], guard := none }
abbrev al12 : Oper := { dst := some 4, op := Op.assign (Operand.tmp 205), type := 4, pos := "law.go:198", after := #[{ on := 11, ground := Ground.data }, { on := 11, ground := Ground.chain }, { on := 0, ground := Ground.phase }, { on := 1, ground := Ground.phase }, { on := 2, ground := Ground.phase }, { on := 3, ground := Ground.phase }, { on := 4, ground := Ground.phase }, { on := 5, ground := Ground.phase }, { on := 6, ground := Ground.phase }, { on := 7, ground := Ground.phase }, { on := 8, ground := Ground.phase }, { on := 9, ground := Ground.phase }, { on := 10, ground := Ground.phase }, { on := 11, ground := Ground.phase }], guard := none }

set_option maxRecDepth 100000 in
set_option maxHeartbeats 16000000 in
theorem step_all {P : Px} {w : World} {vT vl vw vD : Value} {l : List Th} {L : List Lk} {aq : List Hd} {ls ws : List Value} {xs : List (List Hd)} {O : Nat → Prop} (h : SQ P w vT vl vw vD l l (hnds l) L aq ls ws xs O) {o : Oq} {rs : List Int} (hrt : RtsAt P.N w o rs) (us : Us o.s) (ha : I64 o.a) (hb : I64 o.b) (hk : o.k = 7) (hll : l.length ≤ 1000) (hls : ls.length ≤ 1000) :
    Calls Try.prog 8 #[.pointer (some ⟨P.bw, 0, none⟩), opV o] w fun e w' => e = .returned (.bool true) ∧ StepI P w w' l xs := by
  have HK := hide hk
  have hu1 := hll
  have hu2 := hls
  clear hk hu1 hu2
  have hhl : (hnds l).length ≤ 100000 := by unfold hnds; rw [List.length_map]; omega
  obtain ⟨w1, hw1⟩ : ∃ w1, w.alloc (.cells #[.int .i64 o.k, .int .i64 o.a, .int .i64 o.b, .int .i64 o.kd, .slice o.ra o.rn o.rc, .bool o.hd, .int .u32 o.s, .int .u32 o.g] 45) = w1 := ⟨_, rfl⟩
  have hB1 : Below w.heap.size w w1 := by rw [← hw1]; exact below1 _ _
  have hn1 : w1.heap[w.heap.size]? = some (.cells #[.int .i64 o.k, .int .i64 o.a, .int .i64 o.b, .int .i64 o.kd, .slice o.ra o.rn o.rc, .bool o.hd, .int .u32 o.s, .int .u32 o.g] 45 (0, 0)) := by rw [← hw1]; exact heap_new _ _
  have c1 := Ch.of_below (Q := fun _ => False) hB1
  have hs1 := h.quiet c1
  have HHD := hide (fun c (hc : I64 c) V (cV : Ch (fun _ => False) w1 V) => show Calls Try.prog 14 #[.pointer (some ⟨P.bw, 0, none⟩), .int .i64 c, .agg #[.int .i64 o.k, .int .i64 o.a, .int .i64 o.b, .int .i64 o.kd, .slice o.ra o.rn o.rc, .bool o.hd, .int .u32 o.s, .int .u32 o.g]] V fun e w' => e = .returned (hv (hdlW (hnds l) c o).1 (hdlW (hnds l) c o).2) ∧ Below V.heap.size V w' from by
    obtain ⟨vL, vA, vE, hb, -⟩ := (hs1.quiet cV).box
    exact handle_is hb rfl (hs1.quiet cV).tr hhl hc _)
  have husx := hdl_us h.hp.tb.wf h.hp.tb.m2 o.a o us
  have HUB := hide (hdl_us h.hp.tb.wf h.hp.tb.m2 o.b o us)
  obtain ⟨x1, x2, hx12⟩ : ∃ x1 x2, hdlW (hnds l) o.a o = (x1, x2) := ⟨_, _, rfl⟩
  have HHA := HHD.out o.a ha
  rw [hx12] at HHA husx
  have HHA := hide HHA
  have HUX := hide husx
  have E1 := hide hn1
  have H1 := hide hs1
  have B1 := hide hB1
  have HLW := hide h.low
  have HIB := hide hb
  have HRT := hide (show ∀ V, Below P.N w V → RtsAt P.N V o rs from fun V bV => by
    obtain ⟨h1, h2, h3, h4⟩ := hrt
    exact ⟨h1, h2, fun h0 => by
      obtain ⟨b', f', e, hb', hc'⟩ := h3 h0
      exact ⟨b', f', e, hb', fun i hi => (bV.cell (p := ⟨b', _, none⟩) hb').trans (hc' i hi)⟩, h4⟩)
  obtain ⟨s0, s1, s2, s3, s4, s5, s6, s7⟩ : w1.cell? ⟨w.heap.size, 0, none⟩ = some (.int .i64 o.k) ∧ w1.cell? ⟨w.heap.size, 1, none⟩ = some (.int .i64 o.a) ∧ w1.cell? ⟨w.heap.size, 2, none⟩ = some (.int .i64 o.b) ∧ w1.cell? ⟨w.heap.size, 3, none⟩ = some (.int .i64 o.kd) ∧ w1.cell? ⟨w.heap.size, 4, none⟩ = some (.slice o.ra o.rn o.rc) ∧ w1.cell? ⟨w.heap.size, 5, none⟩ = some (.bool o.hd) ∧ w1.cell? ⟨w.heap.size, 6, none⟩ = some (.int .u32 o.s) ∧ w1.cell? ⟨w.heap.size, 7, none⟩ = some (.int .u32 o.g) := by
    have e := Lib.cell_of_heap hn1
    exact ⟨by simp [e], by simp [e], by simp [e], by simp [e], by simp [e], by simp [e], by simp [e], by simp [e]⟩
  clear h hs1 hrt hn1 hB1 c1 hhl husx hx12 ha hb
  go_enter Try.func8, Try.ntmps8
  go_wp2_with fail
  try rw [hw1]
  clear hw1 s0 s1 s2 s3 s4 s5 s6 s7
  refine (HHA.out w1 (Ch.refl _ _)).mono ?_
  rintro e w2 ⟨rfl, hb2⟩
  obtain ⟨V3, hV3⟩ : ∃ V3, w2.alloc (.cells #[.int .u32 x1, .int .u32 x2] 43) = V3 := ⟨_, rfl⟩
  have c13 : Ch (fun _ => False) w1 V3 := by rw [← hV3]; exact (Ch.of_below hb2).trans (Ch.alloc _ _) (fun _ _ h => h)
  have e3 : V3.heap[w2.heap.size]? = some (.cells #[.int .u32 x1, .int .u32 x2] 43 (0, 0)) := by rw [← hV3]; exact heap_new _ _
  have C13 := hide c13
  have H3 := hide (H1.out.quiet c13)
  have E3 := hide (c13.box E1.out (fun h => h))
  have X3 := hide e3
  have B3 := hide (show Below P.N w V3 from (B1.out.mono HLW.out).trans (c13.below (Nat.le_trans HLW.out B1.out.size) (fun _ _ h => h)))
  have HWF := hide (And.intro H3.out.hp.tb.wf (And.intro H3.out.hp.tb.lt H3.out.hp.tb.m2))
  have u0 : V3.cell? ⟨w.heap.size, 0, none⟩ = some (.int .i64 o.k) := by simp [Lib.cell_of_heap E3.out]
  have HX := hide (fun wq (kq : Ch (fun _ => False) V3 wq) => show (wq.cell? ⟨w2.heap.size, 0, none⟩ = some (.int .u32 x1) ∧ wq.cell? ⟨w2.heap.size, 1, none⟩ = some (.int .u32 x2)) ∧ wq.cell? ⟨w.heap.size, 0, none⟩ = some (.int .i64 o.k) ∧ wq.cell? ⟨w.heap.size, 1, none⟩ = some (.int .i64 o.a) ∧ wq.cell? ⟨w.heap.size, 2, none⟩ = some (.int .i64 o.b) ∧ wq.cell? ⟨w.heap.size, 3, none⟩ = some (.int .i64 o.kd) ∧ wq.cell? ⟨w.heap.size, 4, none⟩ = some (.slice o.ra o.rn o.rc) ∧ wq.cell? ⟨w.heap.size, 5, none⟩ = some (.bool o.hd) ∧ wq.cell? ⟨w.heap.size, 6, none⟩ = some (.int .u32 o.s) ∧ wq.cell? ⟨w.heap.size, 7, none⟩ = some (.int .u32 o.g) from by
    have e1 := Lib.cell_of_heap (kq.box X3.out (fun h => h))
    have e2 := Lib.cell_of_heap (kq.box E3.out (fun h => h))
    exact ⟨⟨by simp [e1], by simp [e1]⟩, by simp [e2], by simp [e2], by simp [e2], by simp [e2], by simp [e2], by simp [e2], by simp [e2], by simp [e2]⟩)
  clear hb2 c13 e3
  have hk := HK.out
  have t1 : (o.k == 1) = false := by rw [hk]; rfl
  have t2 : (o.k == 2) = false := by rw [hk]; rfl
  have t3 : (o.k == 3) = false := by rw [hk]; rfl
  have t4 : (o.k == 4) = false := by rw [hk]; rfl
  have t5 : (o.k == 5) = false := by rw [hk]; rfl
  have t6 : (o.k == 6) = false := by rw [hk]; rfl
  have t7 : (o.k == 7) = true := by rw [hk]; rfl
  clear hk
  have HAL := hide (show (allH l P.M).length ≤ 500 by rw [allH_perm HWF.out.1 HWF.out.2.1]; have := HWF.out.1.cnt_le; have := HWF.out.2.2; omega)
  go_wp2
  clear hV3 u0
  have H3d := hide (H3.out.quiet (Ch.drew V3))
  obtain ⟨vL, vA, vE, hbx, -⟩ := H3d.out.box
  refine wp_region_held_drew (S := fun V => V.cell? ⟨P.bw, 0, none⟩ = some (.pointer (some ⟨P.b, 0, none⟩)) ∧ V.cell? ⟨P.bw, 1, none⟩ = some (.pointer (some ⟨P.db, 0, none⟩))) (by kernel_rfl) ⟨by simp [Lib.cell_of_heap hbx], by simp [Lib.cell_of_heap hbx]⟩ (fun zk => ?_)
  clear hbx
  apply tk 0 al0 rfl (by kernel_rfl) (fun _ _ _ h => h) zk
  · intro wq zq
    go_simp
    try rfl
  go_frame
  apply tk 1 al1 rfl (by kernel_rfl) (fun _ _ _ h => h) zk
  · intro wq zq
    go_simp
    try rfl
  go_frame
  apply tk 2 al2 rfl (by kernel_rfl) (fun _ _ _ h => h) zk
  · intro wq zq
    go_simp
    try rfl
  go_frame
  apply tk 3 al3 rfl (by kernel_rfl) (fun _ _ _ h => h) zk
  · intro wq zq
    go_simp
    try rfl
  go_frame
  apply tk 4 al4 rfl (by kernel_rfl) (fun _ _ _ h => h) zk
  · intro wq zq
    obtain ⟨z0, z1⟩ := zq
    go_simp
    try rfl
  go_frame
  apply tk 6 al6 rfl (by kernel_rfl) (fun _ _ _ h => h) zk
  · intro wq zq
    go_simp
    try rfl
  go_frame
  apply tk 7 al7 rfl (by kernel_rfl) (fun _ _ _ h => h) zk
  · intro wq zq
    go_simp
    try rfl
  go_frame
  apply tk 8 al8 rfl (by kernel_rfl) (fun _ _ _ h => h) zk
  · intro wq zq
    go_simp
    try rfl
  go_frame
  apply tk 9 al9 rfl (by kernel_rfl) (fun _ _ _ h => h) zk
  · intro wq zq
    obtain ⟨z0, z1⟩ := zq
    go_simp
    try rfl
  go_frame
  refine rd 5 al5 rfl (by kernel_rfl) fun K hK => ?_
  go_simp
  refine (hall_is H3d.out.hp).mono ?_
  rintro e w4 ⟨u4, rfl, hr4, hb4⟩
  have c4 := Ch.of_below (Q := fun _ => False) hb4
  have H4 := hide (H3d.out.quiet c4)
  have K4 := hide (KQ.fresh H3d.out hr4)
  have B4 := hide ((B3.out.trans ((Ch.drew (Q := fun _ => False) V3).below (Nat.le_trans HLW.out B3.out.size) (fun _ _ h => h))).trans (c4.below (Nat.le_trans HLW.out B3.out.size) (fun _ _ h => h)))
  obtain ⟨vL, vA, vE, hbx, -⟩ := H4.out.box
  have S4 := hide (show w4.cell? ⟨P.bw, 0, none⟩ = some (.pointer (some ⟨P.b, 0, none⟩)) ∧ w4.cell? ⟨P.bw, 1, none⟩ = some (.pointer (some ⟨P.db, 0, none⟩)) from ⟨by simp [Lib.cell_of_heap hbx], by simp [Lib.cell_of_heap hbx]⟩)
  obtain ⟨a4, k4, rfl, -, -⟩ := hr4.form
  clear hr4 hb4 c4 hbx
  go_wp2_with fail
  refine hK.out _ _ ?_ (fun zk => ?_)
  · exact S4.out
  clear hK K
  try go_frame
  refine rd 10 al10 rfl (by kernel_rfl) fun K hK => ?_
  go_simp
  refine (rnow_is H4.out.dt HWF.out.1 HWF.out.2.1 hll).mono ?_
  rintro e w5 ⟨u5, rfl, hr5, hb5⟩
  have c5 := Ch.of_below (Q := fun _ => False) hb5
  have H5 := hide (H4.out.quiet c5)
  have K5 := hide (K4.out.quiet c5)
  have Z5 := hide (KQ.fresh H4.out hr5)
  have HZU := hide (show ∀ y, u5.ownBlock = some y → ¬ (Value.slice a4 (allH l P.M).length k4).ownBlock = some y from fun y hy e => by have h1 := (own_in hr5 hy).1; have h2 := (own_in K4.out.row e).2.1; omega)
  have B5 := hide (B4.out.trans (c5.below (Nat.le_trans HLW.out B4.out.size) (fun _ _ h => h)))
  obtain ⟨vL, vA, vE, hbx, -⟩ := H5.out.box
  have S5 := hide (show w5.cell? ⟨P.bw, 0, none⟩ = some (.pointer (some ⟨P.b, 0, none⟩)) ∧ w5.cell? ⟨P.bw, 1, none⟩ = some (.pointer (some ⟨P.db, 0, none⟩)) from ⟨by simp [Lib.cell_of_heap hbx], by simp [Lib.cell_of_heap hbx]⟩)
  obtain ⟨a5, k5, rfl, -, -⟩ := hr5.form
  clear hr5 hb5 c5 hbx
  go_wp2_with fail
  refine hK.out _ _ ?_ (fun zk => ?_)
  · exact S5.out
  clear hK K
  try go_frame
  refine rd 11 al11 rfl (by kernel_rfl) fun K hK => ?_
  go_simp
  refine (sq_put H5.out K5.out Z5.out HZU.out (by have := HAL.out; omega) (by omega)).mono ?_
  rintro e w6 ⟨rfl, vl6, vw6, hs6, c6⟩
  have H6 := hide hs6
  have B6 := hide (B5.out.trans (c6.below (Nat.le_trans HLW.out B5.out.size) (fun y hy e => by
    rcases e with e | e | e
    · have := H5.out.nb.1; omega
    · have := (H5.out.own vl (by simp) y e).1.1; omega
    · have := (H5.out.own vw (by simp) y e).1.1; omega)))
  obtain ⟨vL, vA, vE, hbx, -⟩ := H6.out.box
  have S6 := hide (show w6.cell? ⟨P.bw, 0, none⟩ = some (.pointer (some ⟨P.b, 0, none⟩)) ∧ w6.cell? ⟨P.bw, 1, none⟩ = some (.pointer (some ⟨P.db, 0, none⟩)) from ⟨by simp [Lib.cell_of_heap hbx], by simp [Lib.cell_of_heap hbx]⟩)
  clear hs6 c6 hbx
  go_wp2_with fail
  refine hK.out _ _ ?_ (fun zk => ?_)
  · exact S6.out
  clear hK K
  try go_frame
  apply tk 12 al12 rfl (by kernel_rfl) (fun _ _ _ h => h) zk
  · intro wq zq
    go_simp
    try rfl
  go_frame
  refine wpAnyH_done (by kernel_rfl) ?_ _
  go_wp2
  go_ret
  refine ⟨rfl, ⟨vT, vl6, vw6, vD, l, L, aq, _, _, _, O, H6.out, by omega, by simp, fun hx x hm => ?_⟩, B6.out⟩
  rcases List.mem_append.1 hm with hm | hm
  · exact hx x hm
  · rw [List.mem_singleton.1 hm]; exact HAL.out

end Go.Proofs.Ytcogiklnegpfiaa
