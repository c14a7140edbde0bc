/- Layer 13: one Collect, and what it leaves. -/
import Derived.Test.YtcogiklnegpfiaaWh
namespace Go.Proofs.Ytcogiklnegpfiaa
open Go.RowKit Go.Shelf

abbrev sw0 : Oper := { dst := some 40, op := Op.move (Operand.tmp 0), type := 28, pos := "law.go:282", after := #[], guard := none }
abbrev sw1 : Oper := { dst := some 41, op := Op.nilCheck (Operand.tmp 40), type := 0, pos := "law.go:282", after := #[{ on := 0, ground := Ground.data }], guard := none }
abbrev sw2 : Oper := { dst := some 42, op := Op.fieldAddr 37 (Operand.tmp 41) 0, type := 0, pos := "law.go:282", after := #[{ on := 1, ground := Ground.data }], guard := none }
abbrev sw3 : Oper := { dst := some 43, op := Op.load 24 (Operand.tmp 42), type := 24, pos := "law.go:282", after := #[{ on := 2, ground := Ground.data }], guard := none }
abbrev sw4 : Oper := { dst := some 44, op := Op.move (Operand.tmp 5), type := 34, pos := "law.go:282", after := #[], guard := none }
abbrev sw5 : Oper := { dst := some 45, op := Op.move (Operand.tmp 5), type := 34, pos := "law.go:282", after := #[], guard := none }
abbrev sw6 : Oper := { dst := some 46, op := Op.call { callee := Callee.builtin Builtin.len, args := #[Operand.tmp 45], argTypes := #[34] }, type := 3, pos := "law.go:282", after := #[{ on := 5, ground := Ground.data }], guard := none }
abbrev sw7 : Oper := { dst := some 47, op := Op.binOp BinOp.quo 3 (Operand.tmp 46) (Operand.const (Value.int IntKind.i64 2)) 3, type := 3, pos := "law.go:282", after := #[{ on := 6, ground := Ground.data }], guard := none }
abbrev sw8 : Oper := { dst := some 48, op := Op.slice 34 (Operand.tmp 44) none (some (Operand.tmp 47)) none, type := 34, pos := "law.go:282", after := #[{ on := 4, ground := Ground.data }, { on := 7, ground := Ground.data }], guard := none }
abbrev sw9 : Oper := { dst := some 49, op := Op.move (Operand.tmp 0), type := 28, pos := "law.go:282", after := #[], guard := none }
abbrev sw10 : Oper := { dst := some 50, op := Op.makeFunc (Fn.func 31) #[Operand.tmp 49] #[], type := 69, pos := "law.go:282", after := #[{ on := 9, ground := Ground.data }], guard := none }
abbrev sw11 : Oper := { dst := some 51, op := Op.call { callee := Callee.value (Operand.func 18), args := #[Operand.tmp 43, Operand.tmp 48, Operand.tmp 50], argTypes := #[24, 34, 69] }, type := 34, pos := "law.go:282", after := #[{ on := 3, ground := Ground.data }, { on := 8, ground := Ground.data }, { on := 10, ground := Ground.data }], guard := none }
abbrev sw12 : Oper := { dst := some 8, op := Op.assign (Operand.tmp 51), type := 34, pos := "law.go:282", after := #[{ on := 11, ground := Ground.data }, { on := 11, ground := Ground.chain }, { on := 0, ground := Ground.phase }, { on := 1, ground := Ground.phase }, { on := 2, ground := Ground.phase }, { on := 3, ground := Ground.phase }, { on := 4, ground := Ground.phase }, { on := 5, ground := Ground.phase }, { on := 6, ground := Ground.phase }, { on := 7, ground := Ground.phase }, { on := 8, ground := Ground.phase }, { on := 9, ground := Ground.phase }, { on := 10, ground := Ground.phase }, { on := 11, ground := Ground.phase }], guard := none }
abbrev sx0 : Oper := { dst := some 128, op := Op.move (Operand.tmp 0), type := 28, pos := "law.go:297", after := #[], guard := none }
abbrev sx1 : Oper := { dst := some 129, op := Op.nilCheck (Operand.tmp 128), type := 0, pos := "law.go:297", after := #[{ on := 0, ground := Ground.data }], guard := none }
abbrev sx2 : Oper := { dst := some 130, op := Op.fieldAddr 37 (Operand.tmp 129) 0, type := 0, pos := "law.go:297", after := #[{ on := 1, ground := Ground.data }], guard := none }
abbrev sx3 : Oper := { dst := some 131, op := Op.load 24 (Operand.tmp 130), type := 24, pos := "law.go:297", after := #[{ on := 2, ground := Ground.data }], guard := none }
abbrev sx4 : Oper := { dst := some 132, op := Op.move (Operand.tmp 6), type := 34, pos := "law.go:297", after := #[], guard := none }
abbrev sx5 : Oper := { dst := some 133, op := Op.move (Operand.tmp 14), type := 3, pos := "law.go:297", after := #[], guard := none }
abbrev sx6 : Oper := { dst := some 134, op := Op.indexAddr 34 (Operand.tmp 132) (Operand.tmp 133), type := 0, pos := "law.go:297", after := #[{ on := 4, ground := Ground.data }, { on := 5, ground := Ground.data }], guard := none }
abbrev sx7 : Oper := { dst := some 135, op := Op.load 43 (Operand.tmp 134), type := 43, pos := "law.go:297", after := #[{ on := 6, ground := Ground.data }], guard := none }
abbrev sx8 : Oper := { dst := some 136, op := Op.call { callee := Callee.value (Operand.func 21), args := #[Operand.tmp 131, Operand.tmp 135, Operand.const (Value.int IntKind.i64 2)], argTypes := #[24, 43, 39] }, type := 4, pos := "law.go:297", after := #[{ on := 3, ground := Ground.data }, { on := 7, ground := Ground.data }], guard := none }
abbrev sx9 : Oper := { dst := some 16, op := Op.assign (Operand.tmp 136), type := 4, pos := "law.go:297", after := #[{ on := 8, ground := Ground.data }, { on := 8, ground := Ground.chain }, { on := 0, ground := Ground.phase }, { on := 1, ground := Ground.phase }, { on := 2, ground := Ground.phase }, { on := 3, ground := Ground.phase }, { on := 4, ground := Ground.phase }, { on := 5, ground := Ground.phase }, { on := 6, ground := Ground.phase }, { on := 7, ground := Ground.phase }, { on := 8, ground := Ground.phase }], guard := none }

theorem up_nodup {a : List Hd} (h : a.Pairwise fun a b => a.1 < b.1) : a.Nodup := h.imp fun h e => by rw [e] at h; omega
/-- what a sweep's lists are -/
structure Swept (l : List Th) (M : Nat) (L : List Lk) (R All St So Go : List Hd) : Prop where
  some : ∀ x, x ∈ So → x ∈ St
  left : allH (frees l Go) M = St
  cnt : cnt (frees l Go) = St.length
  len : Go.length + St.length = All.length
  life : ∀ x, x ∈ All → (x ∈ Go ↔ ¬ lvH (frees l Go) x = true)
  link : ∀ k, k ∈ L → (k.fs, k.fg) ∈ St → (k.ts, k.tg) ∈ All → (k.ts, k.tg) ∈ St
  root : ∀ x, x ∈ R → x ∈ All → x ∈ St
  again : ∀ x, lvH (frees l Go) x = true → Rc (lvH (frees l Go)) (tlL L) R x

theorem swept {l : List Th} {M : Nat} {L : List Lk} {R St So Go : List Hd} {n : Nat} (hw : Wf l M) (hl : Lt l) (hS : St.Pairwise (fun a b => a.1 < b.1)) (hSt : ∀ x, x ∈ St ↔ Rc (lvH l) (tlL L) R x) (hSo : ∀ x, x ∈ So ↔ Rc (lvH l) (tlL L) (R.take n) x) (hG : Go.Pairwise (fun a b => a.1 < b.1)) (hGo : ∀ x, x ∈ Go ↔ lvH l x = true ∧ ¬ Rc (lvH l) (tlL L) R x) : Swept l M L R (allH l M) St So Go := by
  have hm : ∀ x, x ∈ St ↔ lvH l x = true ∧ x ∉ Go := fun x => by
    rw [hSt, hGo]
    refine ⟨fun h => ⟨h.lives, fun e => e.2 h⟩, fun ⟨h1, h2⟩ => ?_⟩
    exact Classical.byContradiction fun h => h2 ⟨h1, h⟩
  have hleft := allH_frees (M := M) hw hl Go St hS hm
  have hwf := frees_wf Go hw hl
  refine ⟨fun x hx => (hSt x).2 (((hSo x).1 hx).mono (fun y hy => List.mem_of_mem_take hy)), hleft, ?_, ?_, fun x hx => ?_, fun k hk h1 h2 => ?_, fun x h1 h2 => ?_, fun x hx => ?_⟩
  · rw [← allH_perm hwf.1 hwf.2, hleft]
  · rw [← List.length_append]
    refine ((List.perm_ext_iff_of_nodup (List.nodup_append.2 ⟨up_nodup hG, up_nodup hS, fun a ha b hb e => ?_⟩) (up_nodup (allH_up l M))).2 fun x => ?_).length_eq
    · subst e
      exact ((hm a).1 hb).2 ha
    · rw [List.mem_append, allH_mem hw hl, hm, hGo]
      constructor
      · rintro (h | h)
        · exact h.1
        · exact h.1
      · intro h
        by_cases hr : Rc (lvH l) (tlL L) R x
        · exact .inr ⟨h, fun e => e.2 hr⟩
        · exact .inl ⟨h, hr⟩
  · rw [frees_lv Go hw hl, (allH_mem hw hl x).1 hx]
    simp
  · rw [hSt] at h1 ⊢
    exact .step h1 (List.mem_map.2 ⟨k, List.mem_filter.2 ⟨hk, by simp [frm]⟩, rfl⟩) ((allH_mem hw hl _).1 h2)
  · rw [hSt]
    exact .root h1 ((allH_mem hw hl x).1 h2)
  · rw [frees_lv Go hw hl] at hx
    have h1 : Rc (lvH l) (tlL L) R x := (hSt x).1 ((hm x).2 hx)
    exact h1.left fun y hy => (frees_lv Go hw hl y).2 ((hm y).1 ((hSt y).2 hy))

theorem up_len {a b : List Hd} (ha : a.Pairwise fun a b => a.1 < b.1) (hb : b.Pairwise fun a b => a.1 < b.1) (h : ∀ x ∈ a, x ∈ b) : a.length ≤ b.length := by
  have e : a = b.filter fun x => decide (x ∈ a) := up_one ha (hb.filter _) fun x => by
    rw [List.mem_filter, decide_eq_true_eq]
    exact ⟨fun hx => ⟨h x hx, hx⟩, fun hx => hx.2⟩
  rw [e]
  exact List.length_filter_le _ _

set_option maxRecDepth 100000 in
set_option maxHeartbeats 16000000 in
theorem sweeps_is {P : Sx} {w : World} {vT : Value} {l : List Th} {L : List Lk} {q M0 : Nat} {O : Nat → Prop} (h : SI P w vT l L q O) (hq : q ≤ 990000) (o : Oq) (rs : List Int) (hr : RtsAt M0 w o rs) (hM0 : M0 ≤ w.heap.size) (hlen : l.length ≤ 1000) (hus : ∀ x ∈ rsH (hnds l) o rs, Us x.1) :
    Calls Try.prog 15 #[.pointer (some ⟨P.bw, 0, none⟩), opV o] w fun e w' => e = .returned (.bool true) ∧ ∃ l' O', SI P w' vT l' L (q + 2004) O' ∧ l'.length = l.length ∧ hnds l' = hnds l ∧ Ch (fun y => O y ∨ y = P.p ∨ y = P.g) w w' ∧ ∀ y, O' y → O y ∨ w.heap.size ≤ y := by
  obtain ⟨w1, hw1⟩ : ∃ w1, w.alloc (.cells #[.int .i64 o.k, .int .i64 o.a, .int .i64 o.b, .int .i64 o.kd, .slice o.ra o.rn o.rc, .bool o.hd, .int .u32 o.s, .int .u32 o.g] 45) = w1 := ⟨_, rfl⟩
  have c1 : Ch (fun _ => False) w w1 := by rw [← hw1]; exact Ch.alloc _ _
  have hn : w1.heap[w.heap.size]? = some (.cells #[.int .i64 o.k, .int .i64 o.a, .int .i64 o.b, .int .i64 o.kd, .slice o.ra o.rn o.rc, .bool o.hd, .int .u32 o.s, .int .u32 o.g] 45 (0, 0)) := by rw [← hw1]; exact heap_new _ _
  have hhl : (hnds l).length ≤ 1000 := by unfold hnds; rw [List.length_map]; exact hlen
  have hr1 : RtsAt M0 w1 o rs := by
    obtain ⟨h1, h2, h3, h4⟩ := hr
    refine ⟨h1, h2, fun h0 => ?_, h4⟩
    obtain ⟨b, f, e, hb, hc⟩ := h3 h0
    exact ⟨b, f, e, hb, fun i hi => (c1.cell (Nat.lt_of_lt_of_le hb hM0) (fun h => h) _).trans (hc i hi)⟩
  have H1 := hide (h.quiet c1)
  have C1 := hide c1
  obtain ⟨vL, vA, vE, hbx, -⟩ := H1.out.box
  have HRO := hide (roots_is hbx rfl H1.out.tr (by omega) o rs hr1 (Nat.le_trans hM0 c1.size))
  have hmf : ∀ (fn : Fn) (first cap : Array Value) (w : World), (Instr.makeFunc fn first cap).run Try.prog w = .ok (.func fn first cap) w := fun _ _ _ _ => rfl
  have hwf := h.hp.tb.wf
  have hlt := h.hp.tb.lt
  have HWF := hide (And.intro hwf hlt)
  have hm2 := h.hp.tb.m2
  have hal : (allH l P.M).length ≤ 500 := by rw [allH_perm hwf hlt]; have := hwf.cnt_le; omega
  have HAL := hide hal
  have HL4 := hide h.l4
  obtain ⟨s0, s1, s2, s3, s4, s5, s6, s7⟩ : w1.cell? ⟨w.heap.size, 0, none⟩ = some (.int .i64 o.k) ∧ w1.cell? ⟨w.heap.size, 1, none⟩ = some (.int .i64 o.a) ∧ w1.cell? ⟨w.heap.size, 2, none⟩ = some (.int .i64 o.b) ∧ w1.cell? ⟨w.heap.size, 3, none⟩ = some (.int .i64 o.kd) ∧ w1.cell? ⟨w.heap.size, 4, none⟩ = some (.slice o.ra o.rn o.rc) ∧ w1.cell? ⟨w.heap.size, 5, none⟩ = some (.bool o.hd) ∧ w1.cell? ⟨w.heap.size, 6, none⟩ = some (.int .u32 o.s) ∧ w1.cell? ⟨w.heap.size, 7, none⟩ = some (.int .u32 o.g) := by
    have e := Lib.cell_of_heap hn
    exact ⟨by simp [e], by simp [e], by simp [e], by simp [e], by simp [e], by simp [e], by simp [e], by simp [e]⟩
  have HUS := hide hus
  have hRl : (rsH (hnds l) o rs).length ≤ 400 := by unfold rsH; rw [List.length_map, List.length_take]; omega
  clear h hr hr1 hn hbx hwf hlt hal hus hhl hm2 c1
  go_enter Try.func15, Try.ntmps15
  go_wp2_with fail
  clear hw1
  refine HRO.out.mono ?_
  rintro e w2 ⟨gb, cap, rfl, hro, hb2⟩
  have c2 := Ch.of_below (Q := fun _ => False) hb2
  have H2 := hide (H1.out.quiet c2)
  have hkr : KL P w2 O (.slice (some ⟨gb, 0, none⟩) ((rsH (hnds l) o rs).length + 1) cap) (rsH (hnds l) o rs ++ [(5, 5)]) := by
    have := KL.of_row (P := P) (O := O) hro (fun y hy e => by have h1 := (own_in hro hy).1; have h2 := H1.out.ltO y e; omega) H2.out.hp
    exact this
  rw [show (rsH (hnds l) o rs).length + 1 = (rsH (hnds l) o rs ++ [((5 : Int), (5 : Int))]).length by simp] at hkr
  have hkr2 := hkr.half (n := (rsH (hnds l) o rs).length) (by simp)
  rw [List.take_left' rfl] at hkr2
  obtain ⟨R, hRe⟩ : ∃ R, rsH (hnds l) o rs = R := ⟨_, rfl⟩
  rw [hRe] at hkr2 HUS hRl ⊢
  have KR2 := hide hkr2
  have hcap : R.length ≤ cap := by rw [← hRe]; have := hro.form; obtain ⟨_, c', e, h1, -⟩ := this; injection e with e1 e2 e3; subst e3; simp at h1; omega
  have C2 := hide (C1.out.trans c2 (fun _ _ h => h))
  have t0 := H2.out.cell
  clear hro hb2 hkr hkr2 hRe c2 s0 s1 s2 s3 s4 s5 s6 s7 HRO
  go_wp2_with fail
  refine (si_all H2.out).mono ?_
  rintro e w3 ⟨v3, rfl, hs3, hk3, hc3⟩
  have H3 := hide hs3
  have KA3 := hide hk3
  have KR3 := hide (KR2.out.quiet hc3)
  have C3 := hide (C2.out.trans hc3 (fun _ _ h => h))
  have t0 := hs3.cell
  clear hs3 hk3 hc3
  go_wp2_with fail
  refine (si_reach H3.out (by omega) KR3.out HUS.out).mono ?_
  rintro e w3b ⟨v4, St, O3, rfl, hA3, hpS, hmS⟩
  have H4 := hide hA3.si
  have KS4 := hide hA3.kl
  have KA4 := hide (KA3.out.next hA3.ch hA3.dis)
  have KR4 := hide (KR3.out.next hA3.ch hA3.dis)
  have C4 := hide ((C3.out.mono (Q' := fun y => O y ∨ y = P.p ∨ y = P.g) (fun _ _ h => h.elim)).trans hA3.ch (fun _ _ h => h))
  have D4 := hide (show ∀ y, O3 y → O y ∨ w.heap.size ≤ y from fun y hy => (hA3.dis y hy).imp_right (Nat.le_trans C3.out.size))
  have HST := hide (And.intro hpS hmS)
  have t0 := hA3.si.cell
  obtain ⟨hh, hhe⟩ : ∃ hh : Nat, R.length / 2 = hh := ⟨_, rfl⟩
  have KH4 := hide (KR4.out.half (n := hh) (by omega))
  have husH : ∀ x ∈ R.take hh, Us x.1 := fun x hx => HUS.out x (List.mem_of_mem_take hx)
  have HRE2 := hide (fun V (cV : Ch (fun _ => False) w3b V) => si_reach (H4.out.quiet cV) (by omega) (KH4.out.quiet cV) husH)
  have E2 := hide (show IntKind.i64.wrap ((R.length : Int) / 2) = (hh : Int) by rw [IntKind.wrap_i64]; omega)
  have E3 := hide (show (hh : Int) ≤ (cap : Int) by omega)
  clear hhe
  clear hA3 hpS hmS husH
  go_wp2_with fail
  clear t0
  refine wp_region_held_drew (S := fun V => V.cell? ⟨P.bw, 0, none⟩ = some (.pointer (some ⟨P.b, 0, none⟩))) (by kernel_rfl) (H4.out.quiet (Ch.drew _)).cell (fun zk => ?_)
  apply tk 0 sw0 rfl (by kernel_rfl) (fun _ _ _ h => h) zk
  · intro wq zq
    go_simp
    try rfl
  go_frame
  apply tk 1 sw1 rfl (by kernel_rfl) (fun _ _ _ h => h) zk
  · intro wq zq
    go_simp
    try rfl
  go_frame
  apply tk 2 sw2 rfl (by kernel_rfl) (fun _ _ _ h => h) zk
  · intro wq zq
    go_simp
    try rfl
  go_frame
  apply tk 3 sw3 rfl (by kernel_rfl) (fun _ _ _ h => h) zk
  · intro wq zq
    have s0 := zq
    go_simp
    try rfl
  go_frame
  apply tk 4 sw4 rfl (by kernel_rfl) (fun _ _ _ h => h) zk
  · intro wq zq
    go_simp
    try rfl
  go_frame
  apply tk 5 sw5 rfl (by kernel_rfl) (fun _ _ _ h => h) zk
  · intro wq zq
    go_simp
    try rfl
  go_frame
  apply tk 6 sw6 rfl (by kernel_rfl) (fun _ _ _ h => h) zk
  · intro wq zq
    go_simp
    try rfl
  go_frame
  apply tk 7 sw7 rfl (by kernel_rfl) (fun _ _ _ h => h) zk
  · intro wq zq
    have e2 := E2.out
    go_simp
    try rfl
  go_frame
  apply tk 8 sw8 rfl (by kernel_rfl) (fun _ _ _ h => h) zk
  · intro wq zq
    have e3 := E3.out
    go_simp
    try rfl
  go_frame
  apply tk 9 sw9 rfl (by kernel_rfl) (fun _ _ _ h => h) zk
  · intro wq zq
    go_simp
    try rfl
  go_frame
  apply tk 10 sw10 rfl (by kernel_rfl) (fun _ _ _ h => h) zk
  · intro wq zq
    have hmf : ∀ (fn : Fn) (first cap : Array Value) (w : World), (Instr.makeFunc fn first cap).run Try.prog w = .ok (.func fn first cap) w := fun _ _ _ _ => rfl
    go_simp
    try rfl
  go_frame
  refine rd 11 sw11 rfl (by kernel_rfl) fun K hK => ?_
  go_simp
  refine (HRE2.out _ (Ch.drew _)).mono ?_
  rintro e w4 ⟨v5, So, O4, rfl, hA4, hp4, hm4⟩
  have A4 := hide hA4
  have HM4 := hide (And.intro hp4 hm4)
  clear hA4 hp4 hm4
  go_wp2_with fail
  refine hK.out _ _ ?_ (fun zk => ?_)
  · exact A4.out.si.cell
  clear hK K
  try go_frame
  apply tk 12 sw12 rfl (by kernel_rfl) (fun _ _ _ h => h) zk
  · intro wq zq
    go_simp
    try rfl
  go_frame
  refine wpAnyH_done (by kernel_rfl) ?_ _
  have c34 : Ch (fun y => O3 y ∨ y = P.p ∨ y = P.g) w3b w4 := (Ch.drew (Q := fun y => O3 y ∨ y = P.p ∨ y = P.g) w3b).trans A4.out.ch (fun _ _ h => h)
  have d34 : ∀ y, O4 y → O3 y ∨ w3b.heap.size ≤ y := A4.out.dis
  have H5 := hide A4.out.si
  have KO5 := hide A4.out.kl
  have KS5 := hide (KS4.out.next c34 d34)
  have KA5 := hide (KA4.out.next c34 d34)
  have KR5 := hide (KR4.out.next c34 d34)
  have C5 := hide (C4.out.trans c34 (fun y hy e => e.elim (fun e => (D4.out y e).elim .inl (fun e => by omega)) .inr))
  have D5 := hide (show ∀ y, O4 y → O y ∨ w.heap.size ≤ y from fun y hy => (d34 y hy).elim (D4.out y) (fun e => .inr (Nat.le_trans C4.out.size e)))
  obtain ⟨va, vc, rfl⟩ := KO5.out.form
  have hSo : ∀ x ∈ So, x ∈ St := fun x hx => (HST.out.2 x).2 (((HM4.out.2 x).1 hx).mono (fun y hy => List.mem_of_mem_take hy))
  have hsl : So.length ≤ 500 := by
    have h1 : So.Pairwise (fun a b => a.1 < b.1) := HM4.out.1
    have h2 : ∀ x ∈ So, x ∈ allH l P.M := fun x hx => (allH_mem HWF.out.1 HWF.out.2 x).2 ((HM4.out.2 x).1 hx).lives
    exact Nat.le_trans (up_len h1 (allH_up l P.M) h2) HAL.out
  have hst : St.length ≤ 500 := by
    have h2 : ∀ x ∈ St, x ∈ allH l P.M := fun x hx => (allH_mem HWF.out.1 HWF.out.2 x).2 ((HST.out.2 x).1 hx).lives
    exact Nat.le_trans (up_len HST.out.1 (allH_up l P.M) h2) HAL.out
  have HSO := hide hSo
  clear c34 d34 hSo zk
  go_wp2
  go_loopw [9] (fun iv wr => ∃ k : Nat, k ≤ So.length ∧ iv = .int .i64 (k : Int) ∧ Hid (Ch (fun _ => False) w4 wr)) (fun iv _ => So.length - (intOf iv).toNat)
  case atStart => exact ⟨0, Nat.zero_le _, rfl, hide (Ch.refl _ _)⟩
  case round =>
    obtain ⟨k, hk, rfl, HC⟩ := hrel
    obtain ⟨w5, rfl⟩ : ∃ x, x = wr := ⟨_, rfl⟩
    by_cases hlt : k < So.length
    · have q1 : decide ((k : Int) < (So.length : Int)) = true := decide_eq_true (by omega)
      obtain ⟨eb, eo, ec, ev, y0, y1⟩ := (KO5.out.quiet HC.out).at hlt
      injection ev with e1 e2 e3
      subst e1 e3
      have hin := HSO.out So[k] (List.getElem_mem hlt)
      generalize So[k] = z at y0 y1 hin
      have HI := hide (kl_in (KS5.out.quiet HC.out) (by omega) z.1 z.2)
      rw [show decide ((z.1, z.2) ∈ St) = true from decide_eq_true hin] at HI
      clear hin e2
      go_wp2_with fail
      refine HI.out.mono ?_
      rintro e w6 ⟨rfl, hc6⟩
      have HC6 := hide (HC.out.trans hc6 (fun _ _ h => h))
      clear hc6 HI
      go_wp2
      go_roundw
      case rel => exact ⟨k + 1, by omega, by go_num, HC6⟩
      case measure => simp [intOf]; omega
    · have q1 : decide ((k : Int) < (So.length : Int)) = false := decide_eq_false (by omega)
      have H6 := hide (H5.out.quiet HC.out)
      have KS6 := hide (KS5.out.quiet HC.out)
      have KA6 := hide (KA5.out.quiet HC.out)
      have KR6 := hide (KR5.out.quiet HC.out)
      have C6 := hide (C5.out.trans HC.out (fun _ _ h => h.elim))
      have t0 := H6.out.cell
      go_wp2_with fail
      refine (si_collect H6.out (by omega) KR6.out HUS.out).mono ?_
      rintro e w7 ⟨v7, Go, O7, rfl, hA7, hpG, hmG⟩
      have SW := hide (swept HWF.out.1 HWF.out.2 HST.out.1 HST.out.2 HM4.out.2 hpG hmG)
      have H7 := hide hA7.si
      have KG7 := hide hA7.kl
      have KS7 := hide (KS6.out.next hA7.ch hA7.dis)
      have KA7 := hide (KA6.out.next hA7.ch hA7.dis)
      have KR7 := hide (KR6.out.next hA7.ch hA7.dis)
      have C7 := hide (C6.out.trans hA7.ch (fun y hy e => e.elim (fun e => (D5.out y e).elim .inl (fun e => by omega)) .inr))
      have D7 := hide (show ∀ y, O7 y → O y ∨ w.heap.size ≤ y from fun y hy => (hA7.dis y hy).elim (D5.out y) (fun e => .inr (Nat.le_trans C6.out.size e)))
      clear hA7 hpG hmG t0
      have t0 := H7.out.cell
      go_wp2_with fail
      refine (si_all H7.out).mono ?_
      rintro e w8 ⟨v8, rfl, hs8, hk8, hc8⟩
      rw [SW.out.left] at hk8
      have H8 := hide hs8
      have KL8 := hide hk8
      have KG8 := hide (KG7.out.quiet hc8)
      have KS8 := hide (KS7.out.quiet hc8)
      have KA8 := hide (KA7.out.quiet hc8)
      have KR8 := hide (KR7.out.quiet hc8)
      have C8 := hide (C7.out.trans hc8 (fun _ _ h => h.elim))
      clear hs8 hk8 hc8 t0
      have t0 := H8.out.cell
      go_wp2_with fail
      refine (si_collect H8.out (by omega) KR8.out HUS.out).mono ?_
      rintro e w9 ⟨v9, Ag, O9, rfl, hA9, -, hmA⟩
      have hAg : Ag = [] := List.eq_nil_iff_forall_not_mem.2 fun x hx => ((hmA x).1 hx).2 (SW.out.again x ((hmA x).1 hx).1)
      subst hAg
      have H9 := hide (show SI P w9 vT (frees l Go) L (q + 2004) O9 from hA9.si)
      have KG9 := hide (KG8.out.next hA9.ch hA9.dis)
      have KS9 := hide (KS8.out.next hA9.ch hA9.dis)
      have KL9 := hide (KL8.out.next hA9.ch hA9.dis)
      have KA9 := hide (KA8.out.next hA9.ch hA9.dis)
      have KR9 := hide (KR8.out.next hA9.ch hA9.dis)
      have C9 := hide (C8.out.trans hA9.ch (fun y hy e => e.elim (fun e => (D7.out y e).elim .inl (fun e => by omega)) .inr))
      have D9 := hide (show ∀ y, O9 y → O y ∨ w.heap.size ≤ y from fun y hy => (hA9.dis y hy).elim (D7.out y) (fun e => .inr (Nat.le_trans C8.out.size e)))
      obtain ⟨a9, c9, rfl⟩ := hA9.kl.form
      clear hA9 hmA t0
      obtain ⟨All, hAll⟩ : ∃ All, allH l P.M = All := ⟨_, rfl⟩
      rw [hAll] at SW KA9 HAL
      have HALL := hide hAll
      clear hAll
      obtain ⟨a3, c3, rfl⟩ := KA9.out.form
      obtain ⟨ag, cg, rfl⟩ := KG9.out.form
      obtain ⟨al, cl, rfl⟩ := KL9.out.form
      have hal := HAL.out
      have hgl : Go.length ≤ 500 := by have := SW.out.len; omega
      have eL : IntKind.i64.wrap ((Go.length : Int) + (St.length : Int)) = (All.length : Int) := by have := SW.out.len; rw [IntKind.wrap_i64]; omega
      have HSM := hide (kl_same KL9.out KS9.out (by omega) (by omega))
      rw [show decide (St = St) = true from decide_eq_true rfl] at HSM
      go_wp2_with fail
      refine HSM.out.mono ?_
      rintro e w10 ⟨rfl, hc10⟩
      have H10 := hide (H9.out.quiet hc10)
      have C10 := hide hc10
      have HCN := hide (hcount_is H10.out.hp)
      rw [SW.out.cnt] at HCN
      have t0 := H10.out.cell
      clear hc10 HSM
      go_wp2_with fail
      refine HCN.out.mono ?_
      rintro e w11 ⟨rfl, hb11⟩
      have c11 := C10.out.trans (Ch.of_below (Q := fun _ => False) hb11) (fun _ _ h => h)
      have H11 := hide (H9.out.quiet c11)
      have KG11 := hide (KG9.out.quiet c11)
      have KL11 := hide (KL9.out.quiet c11)
      have KA11 := hide (KA9.out.quiet c11)
      have KR11 := hide (KR9.out.quiet c11)
      have CE := hide (C9.out.trans c11 (fun _ _ h => h.elim))
      clear c11 hb11 HCN t0 eL
      go_wp2
      go_loopw [14] (fun iv wr => ∃ k : Nat, k ≤ All.length ∧ iv = .int .i64 (k : Int) ∧ Hid (Ch (fun _ => False) w11 wr)) (fun iv _ => All.length - (intOf iv).toNat)
      case atStart => exact ⟨0, Nat.zero_le _, rfl, hide (Ch.refl _ _)⟩
      case round =>
        obtain ⟨j, hj, rfl, HCA⟩ := hrel
        obtain ⟨w12, rfl⟩ : ∃ x, x = wr := ⟨_, rfl⟩
        by_cases hjl : j < All.length
        · have q2 : decide ((j : Int) < (All.length : Int)) = true := decide_eq_true (by omega)
          obtain ⟨eb, eo, ec, ev, y0, y1⟩ := (KA11.out.quiet HCA.out).at hjl
          injection ev with e1 e2 e3
          subst e1 e3
          have hlf := SW.out.life All[j] (List.getElem_mem hjl)
          have hlv := (allH_mem HWF.out.1 HWF.out.2 All[j]).1 (by rw [HALL.out]; exact List.getElem_mem hjl)
          have HC9 := hide (fun wq (kq : Ch (fun _ => False) w12 wq) => show wq.cell? ⟨P.bw, 0, none⟩ = some (.pointer (some ⟨P.b, 0, none⟩)) ∧ wq.cell? ⟨eb, eo + j * 2, none⟩ = some (.int .u32 All[j].1) ∧ wq.cell? ⟨eb, eo + j * 2 + 1, none⟩ = some (.int .u32 All[j].2) from by
            obtain ⟨eb', eo', ec', ev', y0', y1'⟩ := ((KA11.out.quiet HCA.out).quiet kq).at hjl
            injection ev' with e1 e2 e3
            injection e1 with e1
            injection e1 with e1 e4
            subst e1 e4
            exact ⟨((H11.out.quiet HCA.out).quiet kq).cell, y0', y1'⟩)
          generalize All[j] = z at y0 y1 hlf hlv HC9
          obtain ⟨ii, hi1, hi2, -⟩ := lv_at HWF.out.1 HWF.out.2 hlv
          have husz : Us z.1 := by have := H11.out.hp.tb.m2; exact ⟨by omega, by omega⟩
          have HI := hide (kl_in (KG11.out.quiet HCA.out) (by omega) z.1 z.2)
          have HIS := hide (fun V (cV : Ch (fun _ => False) w12 V) => his_is (s := z.1) (G := z.2) ((H11.out.quiet HCA.out).quiet cV).hp 2 husz)
          have hzz : (fnB (frees l Go) z.1 z.2 && decide (gtX (frees l Go) z.1 z.2 = 2)) = !decide ((z.1, z.2) ∈ Go) := by
            cases hv : lvH (frees l Go) z
            · have h1 : z ∈ Go := hlf.2 (by rw [hv]; simp)
              rw [show fnB (frees l Go) z.1 z.2 = false from hv, show decide ((z.1, z.2) ∈ Go) = true from decide_eq_true h1]
              rfl
            · have h1 : ¬ z ∈ Go := fun h => hlf.1 h hv
              rw [show fnB (frees l Go) z.1 z.2 = true from hv, show decide ((z.1, z.2) ∈ Go) = false from decide_eq_false h1, gtX_two H11.out.two hv]
              rfl
          rw [hzz] at HIS
          generalize decide ((z.1, z.2) ∈ Go) = zz at HI HIS
          clear hzz hlf hlv e2 hi1 hi2 husz
          go_wp2_with fail
          refine HI.out.mono ?_
          rintro e w13 ⟨rfl, hc13⟩
          have C11 := hide hc13
          clear hc13 HI y0 y1
          go_wp2
          refine wp_reg (fun _ => False) (R := fun V => Ch (fun _ => False) w13 V) (by kernel_rfl) (Ch.drew _) (fun V cV zk => ?_)
          have CV := hide cV
          clear cV
          have HX := hide (fun wq (kq : Ch (fun _ => False) V wq) => HC9.out wq (C11.out.trans (CV.out.trans kq (fun _ _ h => h)) (fun _ _ h => h)))
          apply tk 0 sx0 rfl (by kernel_rfl) (fun _ _ _ h => h) zk
          · intro wq zq
            go_simp
            try rfl
          go_frame
          apply tk 1 sx1 rfl (by kernel_rfl) (fun _ _ _ h => h) zk
          · intro wq zq
            go_simp
            try rfl
          go_frame
          apply tk 2 sx2 rfl (by kernel_rfl) (fun _ _ _ h => h) zk
          · intro wq zq
            go_simp
            try rfl
          go_frame
          apply tk 3 sx3 rfl (by kernel_rfl) (fun _ _ _ h => h) zk
          · intro wq zq
            have s0 := (HX.out _ zq).1
            go_simp
            try rfl
          go_frame
          apply tk 4 sx4 rfl (by kernel_rfl) (fun _ _ _ h => h) zk
          · intro wq zq
            go_simp
            try rfl
          go_frame
          apply tk 5 sx5 rfl (by kernel_rfl) (fun _ _ _ h => h) zk
          · intro wq zq
            go_simp
            try rfl
          go_frame
          apply tk 6 sx6 rfl (by kernel_rfl) (fun _ _ _ h => h) zk
          · intro wq zq
            go_simp
            try rfl
          go_frame
          apply tk 7 sx7 rfl (by kernel_rfl) (fun _ _ _ h => h) zk
          · intro wq zq
            obtain ⟨-, s1, s2⟩ := HX.out _ zq
            go_simp
            try rfl
          go_frame
          refine rd 8 sx8 rfl (by kernel_rfl) fun K hK => ?_
          go_simp
          refine (HIS.out _ (C11.out.trans CV.out (fun _ _ h => h))).mono ?_
          rintro e w12 ⟨rfl, hb12⟩
          have Z12 := hide (zk.trans (Ch.of_below (Q := fun _ => False) hb12) (fun _ _ h => h))
          clear hb12
          go_wp2_with fail
          refine hK.out _ _ ?_ (fun zk => ?_)
          · exact Z12.out
          clear hK K
          try go_frame
          apply tk 9 sx9 rfl (by kernel_rfl) (fun _ _ _ h => h) zk
          · intro wq zq
            go_simp
            try rfl
          go_frame
          refine wpAnyH_done (by kernel_rfl) ?_ _
          have HCZ := hide ((HCA.out.trans C11.out (fun _ _ h => h)).trans (CV.out.trans Z12.out (fun _ _ h => h)) (fun _ _ h => h))
          cases zz
          · go_wp2
            go_roundw
            case rel => exact ⟨j + 1, by omega, by go_num, HCZ⟩
            case measure => simp [intOf]; omega
          · go_wp2
            go_roundw
            case rel => exact ⟨j + 1, by omega, by go_num, HCZ⟩
            case measure => simp [intOf]; omega
        · have q2 : decide ((j : Int) < (All.length : Int)) = false := decide_eq_false (by omega)
          have H12 := hide (H11.out.quiet HCA.out)
          have KL12 := hide (KL11.out.quiet HCA.out)
          have KA12 := hide (KA11.out.quiet HCA.out)
          have KR12 := hide (KR11.out.quiet HCA.out)
          have CE2 := hide (CE.out.trans HCA.out (fun _ _ h => h.elim))
          obtain ⟨vL, vA, vE, hbx, hlk⟩ := H12.out.box
          obtain ⟨La, Lc, rfl, hLc, hLm⟩ := hlk.form
          have HBX := hide hbx
          have HLK := hide hlk
          have hl4 := HL4.out
          clear hbx hlk
          go_wp2
          go_loopw [17] (fun iv wr => ∃ k : Nat, k ≤ L.length ∧ iv = .int .i64 (k : Int) ∧ Hid (Ch (fun _ => False) w12 wr)) (fun iv _ => L.length - (intOf iv).toNat)
          case atStart => exact ⟨0, Nat.zero_le _, rfl, hide (Ch.refl _ _)⟩
          case round =>
            obtain ⟨n, hn, rfl, HCB⟩ := hrel
            obtain ⟨w14, rfl⟩ : ∃ x, x = wr := ⟨_, rfl⟩
            have t2 : w14.cell? ⟨P.bw, 2, none⟩ = some (.slice La L.length Lc) := by simp [Lib.cell_of_heap (HCB.out.box HBX.out (fun h => h))]
            by_cases hnl : n < L.length
            · have q3 : decide ((n : Int) < (L.length : Int)) = true := decide_eq_true (by omega)
              have HZ := hide (fun wq (kq : Ch (fun _ => False) w14 wq) => show ∃ bl, La = some ⟨bl, 0, none⟩ ∧ (wq.cell? ⟨P.bw, 2, none⟩ = some (.slice La L.length Lc)) ∧ wq.cell? ⟨bl, n * 4, none⟩ = some (.int .u32 L[n].fs) ∧ wq.cell? ⟨bl, n * 4 + 1, none⟩ = some (.int .u32 L[n].fg) ∧ wq.cell? ⟨bl, n * 4 + 2, none⟩ = some (.int .u32 L[n].ts) ∧ wq.cell? ⟨bl, n * 4 + 3, none⟩ = some (.int .u32 L[n].tg) from by
                obtain ⟨bl, e, z0, z1, z2, z3⟩ := link_at ((HLK.out.ch HCB.out (fun _ _ h => h)).ch kq (fun _ _ h => h)) rfl hnl
                exact ⟨bl, e, by simp [Lib.cell_of_heap (kq.box (HCB.out.box HBX.out (fun h => h)) (fun h => h))], z0, z1, z2, z3⟩)
              have hlink := SW.out.link L[n] (List.getElem_mem hnl)
              generalize L[n] = k at HZ hlink
              have HI1 := hide (kl_in (KL12.out.quiet HCB.out) (by omega) k.fs k.fg)
              have HI2 := hide (fun V (cV : Ch (fun _ => False) w14 V) => kl_in ((KA12.out.quiet HCB.out).quiet cV) (by omega) k.ts k.tg)
              have HI3 := hide (fun V (cV : Ch (fun _ => False) w14 V) => kl_in ((KL12.out.quiet HCB.out).quiet cV) (by omega) k.ts k.tg)
              have hz : decide ((k.fs, k.fg) ∈ St) = true → decide ((k.ts, k.tg) ∈ All) = true → decide ((k.ts, k.tg) ∈ St) = true := fun h1 h2 => decide_eq_true (hlink (of_decide_eq_true h1) (of_decide_eq_true h2))
              generalize decide ((k.fs, k.fg) ∈ St) = b1 at HI1 hz
              generalize decide ((k.ts, k.tg) ∈ All) = b2 at HI2 hz
              generalize decide ((k.ts, k.tg) ∈ St) = b3 at HI3 hz
              have HB := hide hz
              clear hz hlink
              obtain ⟨bl, rfl, t2, z0, z1, z2, z3⟩ := HZ.out w14 (Ch.refl _ _)
              go_wp2_with fail
              refine HI1.out.mono ?_
              rintro e w15 ⟨rfl, hc15⟩
              have HC15 := hide hc15
              have HX := hide (HI2.out _ hc15)
              obtain ⟨bl', e5, t2, z0, z1, z2, z3⟩ := HZ.out w15 hc15
              injection e5 with e5
              injection e5 with e5
              subst e5
              clear hc15
              go_wp2_with fail
              refine HX.out.mono ?_
              rintro e w16 ⟨rfl, hc16⟩
              have HC16 := hide (HC15.out.trans hc16 (fun _ _ h => h))
              have HY := hide (HI3.out _ HC16.out)
              obtain ⟨bl', e5, t2, z0, z1, z2, z3⟩ := HZ.out w16 HC16.out
              injection e5 with e5
              injection e5 with e5
              subst e5
              clear hc16 HX
              go_wp2_with fail
              refine HY.out.mono ?_
              rintro e w17 ⟨rfl, hc17⟩
              have HC17 := hide (HCB.out.trans (HC16.out.trans hc17 (fun _ _ h => h)) (fun _ _ h => h))
              clear hc17 HY t2 z0 z1 z2 z3 HZ HI1 HI2 HI3
              have hb := HB.out
              cases b1 <;> cases b2 <;> cases b3 <;> first | (exact absurd (hb rfl rfl) (by decide)) | (clear hb; go_wp2; go_roundw; (case rel => exact ⟨n + 1, by omega, by go_num, HC17⟩); (case measure => simp [intOf]; omega))
            · have q3 : decide ((n : Int) < (L.length : Int)) = false := decide_eq_false (by omega)
              have KL14 := hide (KL12.out.quiet HCB.out)
              have KA14 := hide (KA12.out.quiet HCB.out)
              have KR14 := hide (KR12.out.quiet HCB.out)
              have CE3 := hide (CE2.out.trans HCB.out (fun _ _ h => h.elim))
              have H14 := hide (H12.out.quiet HCB.out)
              go_wp2
              clear t2
              go_loopw [21] (fun iv wr => ∃ k : Nat, k ≤ R.length ∧ iv = .int .i64 (k : Int) ∧ Hid (Ch (fun _ => False) w14 wr)) (fun iv _ => R.length - (intOf iv).toNat)
              case atStart => exact ⟨0, Nat.zero_le _, rfl, hide (Ch.refl _ _)⟩
              case round =>
                obtain ⟨n2, hn2, rfl, HCD⟩ := hrel
                obtain ⟨w18, rfl⟩ : ∃ x, x = wr := ⟨_, rfl⟩
                by_cases hnr : n2 < R.length
                · have q4 : decide ((n2 : Int) < (R.length : Int)) = true := decide_eq_true (by omega)
                  have HZ := hide (fun wq (kq : Ch (fun _ => False) w18 wq) => show wq.cell? ⟨gb, n2 * 2, none⟩ = some (.int .u32 R[n2].1) ∧ wq.cell? ⟨gb, n2 * 2 + 1, none⟩ = some (.int .u32 R[n2].2) from by
                    obtain ⟨eb', eo', ec', ev', y0', y1'⟩ := ((KR14.out.quiet HCD.out).quiet kq).at hnr
                    injection ev' with e1 e2 e3
                    injection e1 with e1
                    injection e1 with e1 e4
                    subst e1 e4
                    rw [Nat.zero_add] at y0' y1'
                    exact ⟨y0', y1'⟩)
                  have hrt := SW.out.root R[n2] (List.getElem_mem hnr)
                  generalize R[n2] = z at HZ hrt
                  have HI1 := hide (kl_in (KA14.out.quiet HCD.out) (by omega) z.1 z.2)
                  have HI2 := hide (fun V (cV : Ch (fun _ => False) w18 V) => kl_in ((KL14.out.quiet HCD.out).quiet cV) (by omega) z.1 z.2)
                  have hz : decide ((z.1, z.2) ∈ All) = true → decide ((z.1, z.2) ∈ St) = true := fun h1 => decide_eq_true (hrt (of_decide_eq_true h1))
                  generalize decide ((z.1, z.2) ∈ All) = b1 at HI1 hz
                  generalize decide ((z.1, z.2) ∈ St) = b2 at HI2 hz
                  have HB := hide hz
                  clear hz hrt
                  obtain ⟨y0, y1⟩ := HZ.out w18 (Ch.refl _ _)
                  go_wp2_with fail
                  refine HI1.out.mono ?_
                  rintro e w19 ⟨rfl, hc19⟩
                  have HC19 := hide hc19
                  have HX := hide (HI2.out _ hc19)
                  obtain ⟨y0, y1⟩ := HZ.out w19 hc19
                  clear hc19
                  go_wp2_with fail
                  refine HX.out.mono ?_
                  rintro e w20 ⟨rfl, hc20⟩
                  have HC20 := hide (HCD.out.trans (HC19.out.trans hc20 (fun _ _ h => h)) (fun _ _ h => h))
                  clear hc20 HX HZ HI1 HI2
                  have hb := HB.out
                  cases b1 <;> cases b2 <;> first | (exact absurd (hb rfl) (by decide)) | (clear hb; go_wp2; go_roundw; (case rel => exact ⟨n2 + 1, by omega, by go_num, HC20⟩); (case measure => simp [intOf]; omega))
                · have q4 : decide ((n2 : Int) < (R.length : Int)) = false := decide_eq_false (by omega)
                  have HFIN := hide (show ∃ l' O', SI P w18 vT l' L (q + 2004) O' ∧ l'.length = l.length ∧ hnds l' = hnds l ∧ Ch (fun y => O y ∨ y = P.p ∨ y = P.g) w w18 ∧ ∀ y, O' y → O y ∨ w.heap.size ≤ y from
                    ⟨frees l Go, O9, H14.out.quiet HCD.out, frees_len Go l, frees_hnds Go l, CE3.out.trans HCD.out (fun _ _ h => h.elim), D9.out⟩)
                  go_wp2
                  go_ret
                  exact ⟨rfl, HFIN.out⟩

end Go.Proofs.Ytcogiklnegpfiaa
