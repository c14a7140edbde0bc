/- Layer 13: the marker's small closure: handles are met. -/
import Derived.Test.YtcogiklnegpfiaaGb
namespace Go.Proofs.Ytcogiklnegpfiaa
open Go.RowKit Go.Shelf

abbrev me0 : Oper := { dst := some 15, op := Op.load 24 (Operand.tmp 2), type := 24, pos := "heap.go:119", after := #[], guard := none }
abbrev me1 : Oper := { dst := some 16, op := Op.nilCheck (Operand.tmp 15), type := 0, pos := "heap.go:119", after := #[{ on := 0, ground := Ground.data }], guard := none }
abbrev me2 : Oper := { dst := some 17, op := Op.fieldAddr 63 (Operand.tmp 16) 0, type := 0, pos := "heap.go:119", after := #[{ on := 1, ground := Ground.data }], guard := none }
abbrev me3 : Oper := { dst := some 18, op := Op.load 59 (Operand.tmp 17), type := 59, pos := "heap.go:119", after := #[{ on := 2, ground := Ground.data }], guard := none }
abbrev me4 : Oper := { dst := some 19, op := Op.load 43 (Operand.tmp 8), type := 43, pos := "heap.go:119", after := #[], guard := none }
abbrev me5 : Oper := { dst := some 20, op := Op.call { callee := Callee.value (Operand.func 50), args := #[Operand.tmp 18, Operand.tmp 19], argTypes := #[59, 43] }, type := 4, pos := "heap.go:119", after := #[{ on := 3, ground := Ground.data }, { on := 4, ground := Ground.data }], guard := none }
abbrev me6 : Oper := { dst := some 21, op := Op.move (Operand.tmp 20), type := 4, pos := "heap.go:119", after := #[{ on := 5, ground := Ground.data }, { on := 5, ground := Ground.chain }], guard := none }
abbrev me7 : Oper := { dst := some 22, op := Op.load 72 (Operand.tmp 3), type := 72, pos := "heap.go:119", after := #[{ on := 6, ground := Ground.guard }], guard := some (6, true) }
abbrev me8 : Oper := { dst := some 23, op := Op.fieldAddr 43 (Operand.tmp 8) 0, type := 0, pos := "heap.go:119", after := #[{ on := 6, ground := Ground.guard }], guard := some (6, true) }
abbrev me9 : Oper := { dst := some 24, op := Op.load 41 (Operand.tmp 23), type := 41, pos := "heap.go:119", after := #[{ on := 8, ground := Ground.data }, { on := 6, ground := Ground.guard }], guard := some (6, true) }
abbrev me10 : Oper := { dst := some 25, op := Op.indexAddr 72 (Operand.tmp 22) (Operand.tmp 24), type := 0, pos := "heap.go:119", after := #[{ on := 7, ground := Ground.data }, { on := 9, ground := Ground.data }, { on := 6, ground := Ground.guard }], guard := some (6, true) }
abbrev me11 : Oper := { dst := some 26, op := Op.load 4 (Operand.tmp 25), type := 4, pos := "heap.go:119", after := #[{ on := 10, ground := Ground.data }, { on := 6, ground := Ground.guard }], guard := some (6, true) }
abbrev me12 : Oper := { dst := some 27, op := Op.unOp UnOp.not 4 (Operand.tmp 26), type := 4, pos := "heap.go:119", after := #[{ on := 11, ground := Ground.data }, { on := 6, ground := Ground.guard }], guard := some (6, true) }
abbrev me13 : Oper := { dst := some 28, op := Op.pick (Operand.tmp 21) (Operand.tmp 27) (Operand.const (Value.bool false)), type := 4, pos := "heap.go:119", after := #[{ on := 6, ground := Ground.data }, { on := 12, ground := Ground.data }], guard := none }

def bF (x : Bool) : List Value := [.bool x]
theorem bF_len (x : Bool) : (bF x).length = 1 := rfl

/-- the marker's boxes: the heap, the marks -/
structure Mk (w : World) (N0 bh bm bt b : Nat) (mt : List Bool) : Prop where
  h : w.heap[bh]? = some (.cells #[.pointer (some ⟨b, 0, none⟩)] 24 (0, 0))
  m : w.heap[bm]? = some (.cells #[.slice (some ⟨bt, 0, none⟩) mt.length mt.length] 72 (0, 0))
  t : Row bF 1 4 w N0 (.slice (some ⟨bt, 0, none⟩) mt.length mt.length) mt

theorem Mk.ch {w w' : World} {N0 bh bm bt b : Nat} {mt : List Bool} {Q : Nat → Prop} (h : Mk w N0 bh bm bt b mt) (hc : Ch Q w w') (h1 : ¬ Q bh) (h2 : ¬ Q bm) (h3 : ¬ Q bt) : Mk w' N0 bh bm bt b mt :=
  ⟨hc.box h.h h1, hc.box h.m h2, h.t.ch hc (fun g e => by injection e with e; subst e; exact h3)⟩
theorem Mk.own {w : World} {N0 bh bm bt b : Nat} {mt : List Bool} (h : Mk w N0 bh bm bt b mt) : N0 ≤ bt ∧ bt < w.heap.size ∧ ∃ cur, w.heap[bt]? = some (.cells cur 4 (0, 0)) := own_in h.t rfl
theorem Mk.ne {w : World} {N0 bh bm bt b : Nat} {mt : List Bool} (h : Mk w N0 bh bm bt b mt) : bh ≠ bt ∧ bm ≠ bt := by
  obtain ⟨_, _, cur, hc⟩ := h.own
  have h1 := h.h
  have h2 := h.m
  refine ⟨fun e => ?_, fun e => ?_⟩
  · subst e
    rw [hc] at h1
    injection h1 with h1
    injection h1 with _ h3 _
    exact absurd h3 (by decide)
  · subst e
    rw [hc] at h2
    injection h2 with h2
    injection h2 with _ h3 _
    exact absurd h3 (by decide)

/-- which handles live -/
def lvH (l : List Th) (x : Hd) : Bool := fnB l x.1 x.2
theorem lv_at {l : List Th} {M : Nat} (hw : Wf l M) (hl : Lt l) {x : Hd} (h : lvH l x = true) : ∃ i : Nat, i < M ∧ x.1 = (i : Int) + 1 ∧ (gens l x.1 : Int) = x.2 := by
  obtain ⟨i, h1, h2, h3, _⟩ := live_at hw hl h
  exact ⟨i, h1, h2, h3⟩
theorem lv_ok {l : List Th} {M : Nat} (hw : Wf l M) (hl : Lt l) : LvOk (lvH l) (M + 1) where
  one := fun x y hx hy e => by
    obtain ⟨_, _, _, h1⟩ := lv_at hw hl hx
    obtain ⟨_, _, _, h2⟩ := lv_at hw hl hy
    exact Prod.ext e (by rw [← h1, ← h2, e])
  bnd := fun x hx => by
    obtain ⟨i, h1, h2, _⟩ := lv_at hw hl hx
    omega

theorem meets_snoc (lv : Hd → Bool) (st : List Bool × List Hd) (xs : List Hd) (x : Hd) : meets lv st (xs ++ [x]) = meetS lv (meets lv st xs) x := by simp [meets, List.foldl_append]
theorem meets_unm {lv : Hd → Bool} {N : Nat} (hv : LvOk lv N) : ∀ (xs : List Hd) (mt : List Bool) (fr : List Hd), mt.length = N → unm (meets lv (mt, fr) xs).1 + (meets lv (mt, fr) xs).2.length = unm mt + fr.length
  | [], mt, fr, _ => rfl
  | y :: xs, mt, fr, hN => by
    have e : meets lv (mt, fr) (y :: xs) = meets lv (meetS lv (mt, fr) y) xs := rfl
    rw [e]
    by_cases hc : (lv y && !mg mt y.1) = true
    · have e2 : meetS lv (mt, fr) y = (mt.set y.1.toNat true, fr ++ [y]) := by unfold meetS; rw [if_pos hc]
      rw [e2, meets_unm hv xs _ _ (by simpa using hN)]
      simp only [Bool.and_eq_true, Bool.not_eq_true'] at hc
      obtain ⟨b0, b1⟩ := hv.bnd y hc.1
      have := unm_set (mt := mt) (i := y.1.toNat) (by
        have h2 := hc.2
        unfold mg at h2
        cases e : mt[y.1.toNat]? with
        | none => rw [List.getElem?_eq_none_iff] at e; omega
        | some b => rw [e] at h2; cases b <;> simp_all)
      simp only [List.length_append, List.length_singleton]
      omega
    · have e2 : meetS lv (mt, fr) y = (mt, fr) := by unfold meetS; rw [if_neg hc]
      rw [e2, meets_unm hv xs _ _ hN]

theorem info_hd : (Try.prog.info? 43).map (fun i => (i.zero, i.size, i.bytes)) = some (some (.agg #[.int .u32 0, .int .u32 0]), 2, 8) := by kernel_rfl

/-- what the loop keeps -/
structure MeetI (w wr : World) (B N0 b p g bh bm bt M : Nat) (l : List Th) (v fv : Value) (mt : List Bool) (fr : List Hd) : Prop where
  hp : Hp wr B b p g l M
  mkr : Mk wr N0 bh bm bt b mt
  row : Row hF 2 43 wr N0 fv fr
  ch : Ch (fun y => y = bt ∨ v.ownBlock = some y) w wr
  at' : fv.ownBlock = v.ownBlock ∨ ∃ y, w.heap.size ≤ y ∧ fv.ownBlock = some y
  len : mt.length = M + 1

theorem Hp.apart {w : World} {B b p g M N k n : Nat} {l : List Th} {e : TypeId} {v : Value} {xs : List Value} (h : Hp w B b p g l M) (r : w.ownsRow N e k v n xs) (h1 : e ≠ 63) (h2 : e ≠ 83) (h3 : e ≠ 89) : ∀ y, v.ownBlock = some y → b ≠ y ∧ p ≠ y ∧ g ≠ y := fun y hy =>
  ⟨fun q => own_box r h.box h1 (by rw [q]; exact hy), fun q => own_box r h.tb.box h2 (by rw [q]; exact hy), fun q => own_ne r h.tb.row h3 y hy (by rw [← q]; rfl)⟩
theorem Mk.apart {w : World} {N0 bh bm bt b N k n : Nat} {mt : List Bool} {e : TypeId} {v : Value} {xs : List Value} (h : Mk w N0 bh bm bt b mt) (r : w.ownsRow N e k v n xs) (h1 : e ≠ 24) (h2 : e ≠ 72) (h3 : e ≠ 4) : ∀ y, v.ownBlock = some y → bh ≠ y ∧ bm ≠ y ∧ bt ≠ y := fun y hy =>
  ⟨fun q => own_box r h.h h1 (by rw [q]; exact hy), fun q => own_box r h.m h2 (by rw [q]; exact hy), fun q => own_ne r h.t h3 y hy (by rw [← q]; rfl)⟩

/-- one is met for the first time -/
theorem MeetI.next {w w5 w6 : World} {B N0 b p g bh bm bt M : Nat} {l : List Th} {v fv v' : Value} {mt : List Bool} {fr : List Hd} {n : Nat} {x : Hd} {T : Obj}
    (h : MeetI w w5 B N0 b p g bh bm bt M l v fv mt fr) (hn : n < mt.length)
    (ho : w6.ownsRow N0 43 2 v' (fr.length + 1) (fr.flatMap hF ++ hF x)) (hg : ((w5.setCell ⟨bt, n, none⟩ (.bool true)).alloc T).grownBy w6 fv.ownBlock)
    (hat : v'.ownBlock = fv.ownBlock ∨ ∃ y, w5.heap.size ≤ y ∧ v'.ownBlock = some y) :
    MeetI w w6 B N0 b p g bh bm bt M l v v' (mt.set n true) (fr ++ [x]) := by
  have a1 := h.hp.apart h.row (by decide) (by decide) (by decide)
  have a2 := h.hp.apart h.mkr.t (by decide) (by decide) (by decide) bt rfl
  have a3 := h.mkr.apart h.row (by decide) (by decide) (by decide)
  have hne := h.mkr.ne
  have hsz : w.heap.size ≤ w5.heap.size := h.ch.size
  have cS := Ch.set (Q := fun y => y = bt ∨ fv.ownBlock = some y) w5 (Or.inl rfl) n (.bool true)
  have cA := Ch.alloc (Q := fun y => y = bt ∨ fv.ownBlock = some y) (w5.setCell ⟨bt, n, none⟩ (.bool true)) T
  have cG := Ch.of_grown (Q := fun y => fv.ownBlock = some y) hg (fun _ e => e)
  have c := cS.trans (cA.trans cG (fun _ _ h => .inr h)) (fun _ _ h => h)
  refine ⟨h.hp.ch c ?_ ?_ ?_, ⟨c.box h.mkr.h ?_, ?_, ?_⟩, Row.snoc ho, h.ch.trans c ?_, ?_, by simpa using h.len⟩
  · rintro (e | e)
    · exact a2.1 e
    · exact (a1 _ e).1 rfl
  · rintro (e | e)
    · exact a2.2.1 e
    · exact (a1 _ e).2.1 rfl
  · rintro (e | e)
    · exact a2.2.2 e
    · exact (a1 _ e).2.2 rfl
  · rintro (e | e)
    · exact hne.1 e
    · exact (a3 _ e).1 rfl
  · rw [List.length_set]
    refine c.box h.mkr.m ?_
    rintro (e | e)
    · exact hne.2 e
    · exact (a3 _ e).2.1 rfl
  · have r := h.mkr.t.set bF_len hn (j := 0) (by decide) (u := .bool true) true rfl
    simp only [Nat.mul_one, Nat.add_zero] at r
    rw [List.length_set]
    exact (r.ch (Ch.alloc (Q := fun _ => False) _ T) (fun _ _ h => h)).ch cG (fun y e e2 => by injection e with e; subst e; exact (a3 _ e2).2.2 rfl)
  · intro y hy e
    rcases e with e | e
    · exact .inl e
    · rcases h.at' with h1 | ⟨z, h1, h2⟩
      · exact .inr (by rw [← h1]; exact e)
      · rw [h2] at e
        injection e with e
        omega
  · rcases hat with h1 | ⟨y, h1, h2⟩
    · rw [h1]
      exact h.at'
    · exact .inr ⟨y, by omega, h2⟩

set_option maxRecDepth 100000 in
set_option maxHeartbeats 8000000 in
theorem meet_is {w : World} {B N0 b p g bh bm bt M : Nat} {l : List Th} {v vl : Value} {mt : List Bool} {fr hs : List Hd} {O : Nat → Prop}
    (hp : Hp w B b p g l M) (hk : Mk w N0 bh bm bt b mt) (hr : Row hF 2 43 w N0 v fr) (hL : HLo w O vl hs) (us : ∀ x ∈ hs, Us x.1) (nt : ¬ O bt) (nO : ∀ y, v.ownBlock = some y → ¬ O y) (hlen : mt.length = M + 1) (hfr : unm mt + fr.length ≤ 1000) (h0 : N0 ≤ w.heap.size) :
    Calls Try.prog 49 #[v, vl, .pointer (some ⟨bh, 0, none⟩), .pointer (some ⟨bm, 0, none⟩)] w fun e w' => ∃ v', e = .returned v' ∧ MeetI w w' B N0 b p g bh bm bt M l v v' (meets (lvH l) (mt, fr) hs).1 (meets (lvH l) (mt, fr) hs).2 := by
  obtain ⟨i0, hi0, hz0, hz1, hz2⟩ := nf_open info_hd
  have hwf := hp.tb.wf
  have hlt' := hp.tb.lt
  have hv := lv_ok hwf hlt'
  have hm2 := hp.tb.m2
  have hI := hide (show MeetI w w B N0 b p g bh bm bt M l v v mt fr from ⟨hp, hk, hr, Ch.refl _ _, .inl rfl, hlen⟩)
  obtain ⟨a, c, rfl, hl, hh⟩ := hL
  have HH := hide hh
  have US := hide us
  have HW := hide (And.intro hwf hlt')
  have HU := hide (fun k => meets_unm hv (hs.take k) mt fr hlen)
  have NO := hide nO
  have HFR := hide hfr
  have H0 := hide h0
  clear hp hk hr hh us hwf hlt' hv nO hfr h0
  go_enter Try.func49, Try.ntmps49
  go_wp2
  go_loopw [0, 11] (fun fv iv wr => ∃ (k : Nat) (mt' : List Bool) (fr' : List Hd), k ≤ hs.length ∧ iv = .int .i64 (k : Int) ∧ Hid (meets (lvH l) (mt, fr) (hs.take k) = (mt', fr')) ∧ Hid (MeetI w wr B N0 b p g bh bm bt M l v fv mt' fr')) (fun _ iv _ => hs.length - (intOf iv).toNat)
  case atStart => exact ⟨0, mt, fr, Nat.zero_le _, rfl, hide rfl, hI⟩
  case round =>
    obtain ⟨k, mt', fr', hk, rfl, HE, HI⟩ := hrel
    by_cases hlt : k < hs.length
    · obtain ⟨bo, o, rfl, ho, hbo, hc⟩ := HH.out (by omega)
      have hcc := HI.out.ch
      have hq : ¬ (bo = bt ∨ v.ownBlock = some bo) := fun e => by
        rcases e with e | e
        · subst e; exact nt ho
        · exact NO.out _ e ho
      obtain ⟨y0, y1⟩ := hc k hlt
      rw [← hcc.cell hbo hq] at y0 y1
      have q1 : decide ((k : Int) < (hs.length : Int)) = true := decide_eq_true (by omega)
      have hus := US.out hs[k] (List.getElem_mem hlt)
      have HN := hide (show meets (lvH l) (mt, fr) (hs.take (k + 1)) = meetS (lvH l) (mt', fr') hs[k] by rw [List.take_succ_eq_append_getElem hlt, meets_snoc, HE.out])
      have hu2 := HU.out k
      rw [HE.out] at hu2
      generalize hs[k] = z at y0 y1 hus HN
      clear hc hcc hq ho hbo
      obtain ⟨w1, hw1⟩ : ∃ w1, wr.alloc (.cells #[.int .u32 z.1, .int .u32 z.2] 43) = w1 := ⟨_, rfl⟩
      have hB1 : Below wr.heap.size wr w1 := by rw [← hw1]; exact below1 _ _
      have hn : w1.heap[wr.heap.size]? = some (.cells #[.int .u32 z.1, .int .u32 z.2] 43 (0, 0)) := by rw [← hw1]; exact heap_new _ _
      have H1 := hide (show MeetI w w1 B N0 b p g bh bm bt M l v u0 mt' fr' from ⟨HI.out.hp.below hB1, HI.out.mkr.ch (Ch.of_below (Q := fun _ => False) hB1) (fun h => h) (fun h => h) (fun h => h), HI.out.row.ch (Ch.of_below (Q := fun _ => False) hB1) (fun _ _ h => h), HI.out.ch.trans (Ch.of_below hB1) (fun _ _ h => h), HI.out.at', HI.out.len⟩)
      have HLV := hide (fun V (kv : Ch (fun _ => False) w1 V) => lives_isI (s := z.1) (G := z.2) (H1.out.hp.ch0 kv).tb hus)
      have HC := hide (fun wq (kq : Ch (fun _ => False) w1 wq) => show wq.cell? ⟨bh, 0, none⟩ = some (.pointer (some ⟨b, 0, none⟩)) ∧ wq.cell? ⟨b, 0, none⟩ = some (.pointer (some ⟨p, 0, none⟩)) ∧ (wq.cell? ⟨wr.heap.size, 0, none⟩ = some (.int .u32 z.1) ∧ wq.cell? ⟨wr.heap.size, 1, none⟩ = some (.int .u32 z.2)) ∧ wq.cell? ⟨bm, 0, none⟩ = some (.slice (some ⟨bt, 0, none⟩) mt'.length mt'.length) ∧ (∀ o, wq.frozen? ⟨bt, o, none⟩ = false) from by
        have e := Lib.cell_of_heap (kq.box hn (fun h => h))
        have e1 := Lib.cell_of_heap (kq.box H1.out.mkr.h (fun h => h))
        have e2 := Lib.cell_of_heap (kq.box H1.out.mkr.m (fun h => h))
        obtain ⟨_, _, cur, e3⟩ := H1.out.mkr.own
        have e4 := kq.box e3 (fun h => h)
        exact ⟨by simp [e1], (H1.out.hp.ch0 kq).cells.1, ⟨by simp [e], by simp [e]⟩, by simp [e2], fun o => by simp [World.frozen?, e4]⟩)
      have c0 : True := trivial
      have c1 : True := trivial
      have hsz1 : w1.heap.size = wr.heap.size + 1 := by rw [← hw1, World.size_alloc]
      have HS1 := hide hsz1
      clear hB1 hn hsz1
      cases hB : fnB l z.1 z.2
      · have HNW := hide (show meetS (lvH l) (mt', fr') z = (mt', fr') by unfold meetS; rw [if_neg (by simp [lvH, hB])])
        rw [hB] at HLV
        clear hB
        go_wp2
        clear hw1
        refine wp_gen (R := Ch (fun _ => False) w1) (Ch.refl _ _) ?_
        clear c0 c1
        intro W cw
        refine wp_region_held_drew (S := Ch (fun _ => False) w1) (by kernel_rfl) (cw.trans (Ch.drew _) (fun _ _ h => h)) (fun zk => ?_)
        clear cw
        apply tk 0 me0 rfl (by kernel_rfl) (fun _ _ _ h => h) zk
        · intro wq zq
          have s0 := (HC.out _ zq).1
          go_simp
          try rfl
        go_frame
        apply tk 1 me1 rfl (by kernel_rfl) (fun _ _ _ h => h) zk
        · intro wq zq
          go_simp
          try rfl
        go_frame
        apply tk 2 me2 rfl (by kernel_rfl) (fun _ _ _ h => h) zk
        · intro wq zq
          go_simp
          try rfl
        go_frame
        apply tk 3 me3 rfl (by kernel_rfl) (fun _ _ _ h => h) zk
        · intro wq zq
          have s0 := (HC.out _ zq).2.1
          go_simp
          try rfl
        go_frame
        apply tk 4 me4 rfl (by kernel_rfl) (fun _ _ _ h => h) zk
        · intro wq zq
          obtain ⟨s0, s1⟩ := (HC.out _ zq).2.2.1
          go_simp
          try rfl
        go_frame
        refine rd 5 me5 rfl (by kernel_rfl) fun K hK => ?_
        go_simp
        refine (HLV.out _ zk).mono ?_
        rintro e w5 ⟨rfl, hb5⟩
        have Z5 := hide (zk.trans (Ch.of_below (Q := fun _ => False) hb5) (fun _ _ h => h))
        clear hb5
        go_wp2_with fail
        refine hK.out _ _ ?_ (fun zk => ?_)
        · exact Z5.out
        clear hK K
        try go_frame
        apply tk 6 me6 rfl (by kernel_rfl) (fun _ _ _ h => h) zk
        · intro wq zq
          go_simp
          try rfl
        go_frame
        apply sk 7 me7 rfl (by kernel_rfl) (fun _ _ _ h => h) zk
        go_frame
        apply sk 8 me8 rfl (by kernel_rfl) (fun _ _ _ h => h) zk
        go_frame
        apply sk 9 me9 rfl (by kernel_rfl) (fun _ _ _ h => h) zk
        go_frame
        apply sk 10 me10 rfl (by kernel_rfl) (fun _ _ _ h => h) zk
        go_frame
        apply sk 11 me11 rfl (by kernel_rfl) (fun _ _ _ h => h) zk
        go_frame
        apply sk 12 me12 rfl (by kernel_rfl) (fun _ _ _ h => h) zk
        go_frame
        apply tk 13 me13 rfl (by kernel_rfl) (fun _ _ _ h => h) zk
        · intro wq zq
          go_simp
          try rfl
        go_frame
        refine wpAnyH_done (by kernel_rfl) ?_ _
        go_wp2
        go_roundw
        case rel => exact ⟨k + 1, mt', fr', by omega, by go_num, hide (HN.out.trans HNW.out), hide ⟨H1.out.hp.ch0 zk, H1.out.mkr.ch zk (fun h => h) (fun h => h) (fun h => h), H1.out.row.ch zk (fun _ _ h => h), H1.out.ch.trans zk (fun _ _ h => h.elim), H1.out.at', H1.out.len⟩⟩
        case measure => simp [intOf]; omega
      · obtain ⟨zs, zg⟩ := z
        obtain ⟨i, hi, hzi, -⟩ := lv_at HW.out.1 HW.out.2 (x := (zs, zg)) hB
        obtain ⟨n, hn1, hn2, rfl⟩ : ∃ n : Nat, 1 ≤ n ∧ n ≤ M ∧ zs = (n : Int) := ⟨i + 1, by omega, by omega, by simpa using hzi⟩
        clear hzi hi i
        have hml := H1.out.len
        have hnl : n < mt'.length := by omega
        have HD := hide (fun wq (kq : Ch (fun _ => False) w1 wq) => show wq.cell? ⟨bt, n, none⟩ = some (.bool mt'[n]) from by
          obtain ⟨g', c', cur, e, _, _, _, _, _, hc⟩ := (H1.out.mkr.t.ch kq (fun _ _ h => h)).at bF_len (by omega)
          cases e
          have := hc n hnl 0 (.bool mt'[n]) rfl
          simpa using this)
        have hmg : mg mt' (n : Int) = mt'[n] := by unfold mg; simp [hnl]
        have q2 : (n : Int) < (mt'.length : Int) := by omega
        clear hml
        have HB' := hide hB
        have HMG := hide hmg
        rw [hB] at HLV
        clear hB hmg
        dsimp only at y0 y1 hw1 HC
        have eN : ((n : Int)).toNat = n := by simp
        cases hM : mt'[n]
        · rw [hM] at HMG
          rw [hM] at HD
          have HNW := hide (show meetS (lvH l) (mt', fr') ((n : Int), zg) = (mt'.set n true, fr' ++ [((n : Int), zg)]) by unfold meetS; rw [if_pos (by rw [HMG.out]; simp [lvH, HB'.out])]; simp)
          clear hM
          go_wp2
          clear hw1
          refine wp_gen (R := Ch (fun _ => False) w1) (Ch.refl _ _) ?_
          clear c0 c1
          intro W cw
          refine wp_region_held_drew (S := Ch (fun _ => False) w1) (by kernel_rfl) (cw.trans (Ch.drew _) (fun _ _ h => h)) (fun zk => ?_)
          clear cw
          apply tk 0 me0 rfl (by kernel_rfl) (fun _ _ _ h => h) zk
          · intro wq zq
            have s0 := (HC.out _ zq).1
            go_simp
            try rfl
          go_frame
          apply tk 1 me1 rfl (by kernel_rfl) (fun _ _ _ h => h) zk
          · intro wq zq
            go_simp
            try rfl
          go_frame
          apply tk 2 me2 rfl (by kernel_rfl) (fun _ _ _ h => h) zk
          · intro wq zq
            go_simp
            try rfl
          go_frame
          apply tk 3 me3 rfl (by kernel_rfl) (fun _ _ _ h => h) zk
          · intro wq zq
            have s0 := (HC.out _ zq).2.1
            go_simp
            try rfl
          go_frame
          apply tk 4 me4 rfl (by kernel_rfl) (fun _ _ _ h => h) zk
          · intro wq zq
            obtain ⟨s0, s1⟩ := (HC.out _ zq).2.2.1
            go_simp
            try rfl
          go_frame
          refine rd 5 me5 rfl (by kernel_rfl) fun K hK => ?_
          go_simp
          refine (HLV.out _ zk).mono ?_
          rintro e w5 ⟨rfl, hb5⟩
          have Z5 := hide (zk.trans (Ch.of_below (Q := fun _ => False) hb5) (fun _ _ h => h))
          clear hb5
          go_wp2_with fail
          refine hK.out _ _ ?_ (fun zk => ?_)
          · exact Z5.out
          clear hK K
          try go_frame
          apply tk 6 me6 rfl (by kernel_rfl) (fun _ _ _ h => h) zk
          · intro wq zq
            go_simp
            try rfl
          go_frame
          apply tk 7 me7 rfl (by kernel_rfl) (fun _ _ _ h => h) zk
          · intro wq zq
            have s0 := (HC.out _ zq).2.2.2.1
            go_simp
            try rfl
          go_frame
          apply tk 8 me8 rfl (by kernel_rfl) (fun _ _ _ h => h) zk
          · intro wq zq
            go_simp
            try rfl
          go_frame
          apply tk 9 me9 rfl (by kernel_rfl) (fun _ _ _ h => h) zk
          · intro wq zq
            have s0 := (HC.out _ zq).2.2.1.1
            go_simp
            try rfl
          go_frame
          apply tk 10 me10 rfl (by kernel_rfl) (fun _ _ _ h => h) zk
          · intro wq zq
            go_simp
            try rfl
          go_frame
          apply tk 11 me11 rfl (by kernel_rfl) (fun _ _ _ h => h) zk
          · intro wq zq
            have s0 := HD.out _ zq
            go_simp
            try rfl
          go_frame
          apply tk 12 me12 rfl (by kernel_rfl) (fun _ _ _ h => h) zk
          · intro wq zq
            go_simp
            try rfl
          go_frame
          apply tk 13 me13 rfl (by kernel_rfl) (fun _ _ _ h => h) zk
          · intro wq zq
            go_simp
            try rfl
          go_frame
          refine wpAnyH_done (by kernel_rfl) ?_ _
          have kv := zk
          clear zk
          have H2 := hide (show MeetI w w5 B N0 b p g bh bm bt M l v u0 mt' fr' from ⟨H1.out.hp.ch0 kv, H1.out.mkr.ch kv (fun h => h) (fun h => h) (fun h => h), H1.out.row.ch kv (fun _ _ h => h), H1.out.ch.trans kv (fun _ _ h => h.elim), H1.out.at', H1.out.len⟩)
          obtain ⟨s0, s1, ⟨s2, s3⟩, s4, s5⟩ := HC.out w5 kv
          have s6 := HD.out w5 kv
          have hne : ¬ wr.heap.size = bt := fun e => by have := HI.out.mkr.own.2.1; omega
          have cS := Ch.set (Q := fun y => y = bt) w5 rfl n (.bool true)
          have hub : ∀ y, u0.ownBlock = some y → ¬ y = bt := fun y hy e => own_ne H2.out.row H2.out.mkr.t (by decide) y hy (by rw [e]; rfl)
          have HX := hide (H2.out.row.ch cS hub)
          have HOW := hide (World.ownsRow.alloc HX.out (.cells #[.int .u32 (n : Int), .int .u32 zg] 43))
          have HN1 := hide (row_new (w5.setCell ⟨bt, n, none⟩ (.bool true)) (hF ((n : Int), zg)) 43 (size_set w5 ⟨bt, n, none⟩ (.bool true)))
          have hsz : w.heap.size ≤ w5.heap.size := H2.out.ch.size
          have HM1 := hide (show fr'.length + 1 ≤ maxLen by unfold maxLen; have := HFR.out; omega)
          have HM2 := hide (show (fr'.length + 1) * 8 ≤ 140737488355328 by have := HFR.out; omega)
          have HM3 := hide (show N0 ≤ ((w5.setCell ⟨bt, n, none⟩ (.bool true)).alloc (.cells #[.int .u32 (n : Int), .int .u32 zg] 43)).heap.size by rw [World.size_alloc, size_set]; have := H0.out; omega)
          have HON := hide (hF_one ((n : Int), zg))
          have HNL := hide hnl
          clear kv hub cS hsz
          go_wp2_with (at_builtin; refine wpList_append_own_at _ rfl _ _ 34 rfl N0 43 i0 (.agg #[.int .u32 0, .int .u32 0]) 2 8 Try.underlying34 hi0 hz0 hz1 hz2 rfl (by decide) _ fr'.length (fr'.flatMap hF) rfl HOW.out ⟨w5.heap.size, 0, none⟩ 1 1 (hF ((n : Int), zg)) rfl rfl HN1.out HON.out HM1.out HM2.out HM3.out ?_)
          intro v' w6 hown' hgrow _ hat
          have HF := hide (H2.out.next HNL.out hown' hgrow (hat.imp_right fun e => ⟨_, Nat.le_succ _, e⟩))
          clear hown' hgrow hat
          go_wp2
          go_roundw
          case rel => exact ⟨k + 1, _, _, by omega, by go_num, hide (HN.out.trans HNW.out), HF⟩
          case measure => simp [intOf]; omega
        · rw [hM] at HMG
          rw [hM] at HD
          have HNW := hide (show meetS (lvH l) (mt', fr') ((n : Int), zg) = (mt', fr') by unfold meetS; rw [if_neg (by rw [HMG.out]; simp)])
          clear hM
          go_wp2
          clear hw1
          refine wp_gen (R := Ch (fun _ => False) w1) (Ch.refl _ _) ?_
          clear c0 c1
          intro W cw
          refine wp_region_held_drew (S := Ch (fun _ => False) w1) (by kernel_rfl) (cw.trans (Ch.drew _) (fun _ _ h => h)) (fun zk => ?_)
          clear cw
          apply tk 0 me0 rfl (by kernel_rfl) (fun _ _ _ h => h) zk
          · intro wq zq
            have s0 := (HC.out _ zq).1
            go_simp
            try rfl
          go_frame
          apply tk 1 me1 rfl (by kernel_rfl) (fun _ _ _ h => h) zk
          · intro wq zq
            go_simp
            try rfl
          go_frame
          apply tk 2 me2 rfl (by kernel_rfl) (fun _ _ _ h => h) zk
          · intro wq zq
            go_simp
            try rfl
          go_frame
          apply tk 3 me3 rfl (by kernel_rfl) (fun _ _ _ h => h) zk
          · intro wq zq
            have s0 := (HC.out _ zq).2.1
            go_simp
            try rfl
          go_frame
          apply tk 4 me4 rfl (by kernel_rfl) (fun _ _ _ h => h) zk
          · intro wq zq
            obtain ⟨s0, s1⟩ := (HC.out _ zq).2.2.1
            go_simp
            try rfl
          go_frame
          refine rd 5 me5 rfl (by kernel_rfl) fun K hK => ?_
          go_simp
          refine (HLV.out _ zk).mono ?_
          rintro e w5 ⟨rfl, hb5⟩
          have Z5 := hide (zk.trans (Ch.of_below (Q := fun _ => False) hb5) (fun _ _ h => h))
          clear hb5
          go_wp2_with fail
          refine hK.out _ _ ?_ (fun zk => ?_)
          · exact Z5.out
          clear hK K
          try go_frame
          apply tk 6 me6 rfl (by kernel_rfl) (fun _ _ _ h => h) zk
          · intro wq zq
            go_simp
            try rfl
          go_frame
          apply tk 7 me7 rfl (by kernel_rfl) (fun _ _ _ h => h) zk
          · intro wq zq
            have s0 := (HC.out _ zq).2.2.2.1
            go_simp
            try rfl
          go_frame
          apply tk 8 me8 rfl (by kernel_rfl) (fun _ _ _ h => h) zk
          · intro wq zq
            go_simp
            try rfl
          go_frame
          apply tk 9 me9 rfl (by kernel_rfl) (fun _ _ _ h => h) zk
          · intro wq zq
            have s0 := (HC.out _ zq).2.2.1.1
            go_simp
            try rfl
          go_frame
          apply tk 10 me10 rfl (by kernel_rfl) (fun _ _ _ h => h) zk
          · intro wq zq
            go_simp
            try rfl
          go_frame
          apply tk 11 me11 rfl (by kernel_rfl) (fun _ _ _ h => h) zk
          · intro wq zq
            have s0 := HD.out _ zq
            go_simp
            try rfl
          go_frame
          apply tk 12 me12 rfl (by kernel_rfl) (fun _ _ _ h => h) zk
          · intro wq zq
            go_simp
            try rfl
          go_frame
          apply tk 13 me13 rfl (by kernel_rfl) (fun _ _ _ h => h) zk
          · intro wq zq
            go_simp
            try rfl
          go_frame
          refine wpAnyH_done (by kernel_rfl) ?_ _
          go_wp2
          go_roundw
          case rel => exact ⟨k + 1, mt', fr', by omega, by go_num, hide (HN.out.trans HNW.out), hide ⟨H1.out.hp.ch0 zk, H1.out.mkr.ch zk (fun h => h) (fun h => h) (fun h => h), H1.out.row.ch zk (fun _ _ h => h), H1.out.ch.trans zk (fun _ _ h => h.elim), H1.out.at', H1.out.len⟩⟩
          case measure => simp [intOf]; omega
    · have q1 : decide ((k : Int) < (hs.length : Int)) = false := decide_eq_false (by omega)
      have ek : hs.take k = hs := List.take_of_length_le (by omega)
      rw [ek] at HE
      go_wp2
      go_ret
      refine ⟨u0, rfl, ?_⟩
      rw [HE.out]
      exact HI.out

end Go.Proofs.Ytcogiklnegpfiaa
