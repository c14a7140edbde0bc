/- Layer 11: the landed book: part. -/
import Derived.Test.YtoabhmpakcgloaaHh
namespace Go.Proofs.Ytoabhmpakcgloaa
open Go.RowKit

/-- part, on its way: the link's box too -/
structure PS (w W : World) (B p A E G : Nat) (g len c : Nat) (M C : Nat) (x : Ln) (e q : Int × Int) (sl : List Sl) (full : Int) (en : Ln → Option (Int × Int)) (cl : Int × Int × Int → Option Int) (n : Nat) : Prop where
  j : JS w W B p A E (.slice (some ⟨g, 0, none⟩) len c) M C x e sl full en cl n
  nG : W.heap[G]? = some (.cells #[.int .u32 q.1, .int .u32 q.2] 121 (0, 0))
  lo : w.heap.size ≤ G
  ln : sl.length = len

section
variable {w W W' : World} {B p A E G g len c M C n : Nat} {x : Ln} {e q : Int × Int} {sl : List Sl} {full : Int} {en : Ln → Option (Int × Int)} {cl : Int × Int × Int → Option Int}
theorem PS.quiet (h : PS w W B p A E G g len c M C x e q sl full en cl n) (hc : Ch (fun _ => False) W W') : PS w W' B p A E G g len c M C x e q sl full en cl n := ⟨h.j.quiet hc, hc.box h.nG (fun h => h), h.lo, h.ln⟩
theorem PS.apart (h : PS w W B p A E G g len c M C x e q sl full en cl n) : G ≠ g ∧ G ≠ E ∧ G ≠ M := by
  obtain ⟨_, hm⟩ := h.j.bk.mp
  refine ⟨fun e => own_box h.j.bk.row h.nG (by decide) (by rw [e]; rfl), fun e => ?_, hm.ne_cells h.nG⟩
  have k := h.nG
  rw [e, h.j.nE] at k
  injection k with k
  injection k with _ k _
  exact absurd k (by decide)
theorem PS.reads (h : PS w W B p A E G g len c M C x e q sl full en cl n) {wq : World} (hc : Ch (fun y => y = g) W wq) :
    wq.cell? ⟨p, 0, none⟩ = some (.slice (some ⟨g, 0, none⟩) len c) ∧ wq.cell? ⟨A, 0, none⟩ = some (.int .i64 (x.k : Int)) ∧ wq.cell? ⟨G, 0, none⟩ = some (.int .u32 q.1) ∧ wq.cell? ⟨G, 1, none⟩ = some (.int .u32 q.2) := by
  obtain ⟨r1, r2, r3, _⟩ := h.j.reads (wq := wq) (hc.mono (fun y _ (e : y = g) => by rw [e]; rfl))
  have k3 := Lib.cell_of_heap (hc.box h.nG h.apart.1)
  exact ⟨r1, r3, by simp [k3], by simp [k3]⟩
theorem PS.cell {i j : Nat} (h : PS w W B p A E G g len c M C x e q sl full en cl n) (hi : i < len) (hu : ∀ z, z ∈ sl → ∃ u, (slF z)[j]? = some u) {o : Nat} (ho : o = i * 18 + j) : (∃ u, W.cell? ⟨g, o, none⟩ = some u) ∧ W.frozen? ⟨g, o, none⟩ = false := by
  have e := h.ln
  subst e
  obtain ⟨u, hu⟩ := hu sl[i] (List.getElem_mem _)
  have := h.j.bk.cell hi hu ho
  exact ⟨⟨u, this.1⟩, this.2⟩
theorem PS.set {i j : Nat} (h : PS w W B p A E G g len c M C x e q sl full en cl n) (hi : i < len) (hj : j < 18) {u : Value} (f : Sl → Sl) (hf : ∀ x, slF (f x) = (slF x).set j u) {o : Nat} (ho : o = i * 18 + j) :
    PS w (W.setCell ⟨g, o, none⟩ u) B p A E G g len c M C x e q (modS sl ((i : Int) + 1) f) full en cl n := by
  have e := h.ln
  subst e
  have hc : Ch (fun y => y = g) W (W.setCell ⟨g, o, none⟩ u) := Ch.set (Q := fun y => y = g) W rfl _ _
  exact ⟨h.j.set hi hj f hf ho, hc.box h.nG h.apart.1, h.lo, modS_len ..⟩
theorem PS.setE {i : Nat} {u : Int} {e' : Int × Int} (h : PS w W B p A E G g len c M C x e q sl full en cl n) (he : (W.setCell ⟨E, i, none⟩ (.int .u32 u)).heap[E]? = some (.cells #[.int .u32 e'.1, .int .u32 e'.2] 119 (0, 0))) : PS w (W.setCell ⟨E, i, none⟩ (.int .u32 u)) B p A E G g len c M C x e' q sl full en cl n := by
  have hc : Ch (fun y => y = E) W (W.setCell ⟨E, i, none⟩ (.int .u32 u)) := Ch.set (Q := fun y => y = E) W rfl _ _
  exact ⟨h.j.setE he, hc.box h.nG h.apart.2.1, h.lo, h.ln⟩
end
theorem slF_ex (j : Nat) (hj : j < 18) (z : Sl) : ∃ u, (slF z)[j]? = some u := ⟨_, List.getElem?_eq_getElem (by rw [slF_len]; exact hj)⟩

abbrev pb0 : Oper := { dst := some 29, op := Op.move (Operand.tmp 0), type := 24, pos := "waitq.go:209", after := #[], guard := none }
abbrev pb1 : Oper := { dst := some 30, op := Op.fieldAddr 121 (Operand.tmp 7) 0, type := 0, pos := "waitq.go:209", after := #[], guard := none }
abbrev pb2 : Oper := { dst := some 31, op := Op.load 33 (Operand.tmp 30), type := 33, pos := "waitq.go:209", after := #[{ on := 1, ground := Ground.data }], guard := none }
abbrev pb3 : Oper := { dst := some 32, op := Op.call { callee := Callee.value (Operand.func 44), args := #[Operand.tmp 29, Operand.tmp 31], argTypes := #[24, 33] }, type := 125, pos := "waitq.go:209", after := #[{ on := 0, ground := Ground.data }, { on := 2, ground := Ground.data }], guard := none }
abbrev pb4 : Oper := { dst := some 33, op := Op.fieldAddr 100 (Operand.tmp 4) 0, type := 0, pos := "waitq.go:209", after := #[], guard := none }
abbrev pb5 : Oper := { dst := some 34, op := Op.load 3 (Operand.tmp 33), type := 3, pos := "waitq.go:209", after := #[{ on := 4, ground := Ground.data }], guard := none }
abbrev pb6 : Oper := { dst := some 35, op := Op.fieldAddr 121 (Operand.tmp 7) 1, type := 0, pos := "waitq.go:209", after := #[], guard := none }
abbrev pb7 : Oper := { dst := some 36, op := Op.load 33 (Operand.tmp 35), type := 33, pos := "waitq.go:209", after := #[{ on := 6, ground := Ground.data }], guard := none }
abbrev pb8 : Oper := { dst := some 37, op := Op.nilCheck (Operand.tmp 32), type := 0, pos := "waitq.go:209", after := #[{ on := 3, ground := Ground.data }], guard := none }
abbrev pb9 : Oper := { dst := some 38, op := Op.fieldAddr 124 (Operand.tmp 37) 2, type := 0, pos := "waitq.go:209", after := #[{ on := 8, ground := Ground.data }], guard := none }
abbrev pb10 : Oper := { dst := some 39, op := Op.indexAddr 122 (Operand.tmp 38) (Operand.tmp 34), type := 0, pos := "waitq.go:209", after := #[{ on := 9, ground := Ground.data }, { on := 5, ground := Ground.data }, { on := 0, ground := Ground.phase }, { on := 1, ground := Ground.phase }, { on := 2, ground := Ground.phase }, { on := 3, ground := Ground.phase }, { on := 4, ground := Ground.phase }, { on := 5, ground := Ground.phase }, { on := 6, ground := Ground.phase }, { on := 7, ground := Ground.phase }], guard := none }
abbrev pb11 : Oper := { dst := some 40, op := Op.fieldAddr 121 (Operand.tmp 39) 1, type := 0, pos := "waitq.go:209", after := #[{ on := 10, ground := Ground.data }, { on := 0, ground := Ground.phase }, { on := 1, ground := Ground.phase }, { on := 2, ground := Ground.phase }, { on := 3, ground := Ground.phase }, { on := 4, ground := Ground.phase }, { on := 5, ground := Ground.phase }, { on := 6, ground := Ground.phase }, { on := 7, ground := Ground.phase }], guard := none }
abbrev pb12 : Oper := { dst := none, op := Op.store 33 (Operand.tmp 40) (Operand.tmp 36), type := 0, pos := "waitq.go:209", after := #[{ on := 11, ground := Ground.data }, { on := 7, ground := Ground.data }, { on := 3, ground := Ground.chain }, { on := 0, ground := Ground.phase }, { on := 1, ground := Ground.phase }, { on := 2, ground := Ground.phase }, { on := 3, ground := Ground.phase }, { on := 4, ground := Ground.phase }, { on := 5, ground := Ground.phase }, { on := 6, ground := Ground.phase }, { on := 7, ground := Ground.phase }], guard := none }
abbrev pc0 : Oper := { dst := some 47, op := Op.move (Operand.tmp 0), type := 24, pos := "waitq.go:214", after := #[], guard := none }
abbrev pc1 : Oper := { dst := some 48, op := Op.fieldAddr 121 (Operand.tmp 7) 1, type := 0, pos := "waitq.go:214", after := #[], guard := none }
abbrev pc2 : Oper := { dst := some 49, op := Op.load 33 (Operand.tmp 48), type := 33, pos := "waitq.go:214", after := #[{ on := 1, ground := Ground.data }], guard := none }
abbrev pc3 : Oper := { dst := some 50, op := Op.call { callee := Callee.value (Operand.func 44), args := #[Operand.tmp 47, Operand.tmp 49], argTypes := #[24, 33] }, type := 125, pos := "waitq.go:214", after := #[{ on := 0, ground := Ground.data }, { on := 2, ground := Ground.data }], guard := none }
abbrev pc4 : Oper := { dst := some 51, op := Op.fieldAddr 100 (Operand.tmp 4) 0, type := 0, pos := "waitq.go:214", after := #[], guard := none }
abbrev pc5 : Oper := { dst := some 52, op := Op.load 3 (Operand.tmp 51), type := 3, pos := "waitq.go:214", after := #[{ on := 4, ground := Ground.data }], guard := none }
abbrev pc6 : Oper := { dst := some 53, op := Op.fieldAddr 121 (Operand.tmp 7) 0, type := 0, pos := "waitq.go:214", after := #[], guard := none }
abbrev pc7 : Oper := { dst := some 54, op := Op.load 33 (Operand.tmp 53), type := 33, pos := "waitq.go:214", after := #[{ on := 6, ground := Ground.data }], guard := none }
abbrev pc8 : Oper := { dst := some 55, op := Op.nilCheck (Operand.tmp 50), type := 0, pos := "waitq.go:214", after := #[{ on := 3, ground := Ground.data }], guard := none }
abbrev pc9 : Oper := { dst := some 56, op := Op.fieldAddr 124 (Operand.tmp 55) 2, type := 0, pos := "waitq.go:214", after := #[{ on := 8, ground := Ground.data }], guard := none }
abbrev pc10 : Oper := { dst := some 57, op := Op.indexAddr 122 (Operand.tmp 56) (Operand.tmp 52), type := 0, pos := "waitq.go:214", after := #[{ on := 9, ground := Ground.data }, { on := 5, ground := Ground.data }, { on := 0, ground := Ground.phase }, { on := 1, ground := Ground.phase }, { on := 2, ground := Ground.phase }, { on := 3, ground := Ground.phase }, { on := 4, ground := Ground.phase }, { on := 5, ground := Ground.phase }, { on := 6, ground := Ground.phase }, { on := 7, ground := Ground.phase }], guard := none }
abbrev pc11 : Oper := { dst := some 58, op := Op.fieldAddr 121 (Operand.tmp 57) 0, type := 0, pos := "waitq.go:214", after := #[{ on := 10, ground := Ground.data }, { on := 0, ground := Ground.phase }, { on := 1, ground := Ground.phase }, { on := 2, ground := Ground.phase }, { on := 3, ground := Ground.phase }, { on := 4, ground := Ground.phase }, { on := 5, ground := Ground.phase }, { on := 6, ground := Ground.phase }, { on := 7, ground := Ground.phase }], guard := none }
abbrev pc12 : Oper := { dst := none, op := Op.store 33 (Operand.tmp 58) (Operand.tmp 54), type := 0, pos := "waitq.go:214", after := #[{ on := 11, ground := Ground.data }, { on := 7, ground := Ground.data }, { on := 3, ground := Ground.chain }, { on := 0, ground := Ground.phase }, { on := 1, ground := Ground.phase }, { on := 2, ground := Ground.phase }, { on := 3, ground := Ground.phase }, { on := 4, ground := Ground.phase }, { on := 5, ground := Ground.phase }, { on := 6, ground := Ground.phase }, { on := 7, ground := Ground.phase }], guard := none }
abbrev pd0 : Oper := { dst := some 59, op := Op.move (Operand.tmp 0), type := 24, pos := "waitq.go:216", after := #[], guard := none }
abbrev pd1 : Oper := { dst := some 60, op := Op.nilCheck (Operand.tmp 59), type := 0, pos := "waitq.go:216", after := #[{ on := 0, ground := Ground.data }], guard := none }
abbrev pd2 : Oper := { dst := some 61, op := Op.fieldAddr 78 (Operand.tmp 60) 2, type := 0, pos := "waitq.go:216", after := #[{ on := 1, ground := Ground.data }], guard := none }
abbrev pd3 : Oper := { dst := some 62, op := Op.load 74 (Operand.tmp 61), type := 74, pos := "waitq.go:216", after := #[{ on := 2, ground := Ground.data }], guard := none }
abbrev pd4 : Oper := { dst := some 63, op := Op.load 100 (Operand.tmp 4), type := 100, pos := "waitq.go:216", after := #[], guard := none }
abbrev pd5 : Oper := { dst := some 64, op := Op.load 119 (Operand.tmp 6), type := 119, pos := "waitq.go:216", after := #[], guard := none }
abbrev pd6 : Oper := { dst := none, op := Op.mapUpdate 74 (Operand.tmp 62) (Operand.tmp 63) (Operand.tmp 64), type := 0, pos := "waitq.go:216", after := #[{ on := 3, ground := Ground.data }, { on := 4, ground := Ground.data }, { on := 5, ground := Ground.data }, { on := 0, ground := Ground.phase }, { on := 1, ground := Ground.phase }, { on := 2, ground := Ground.phase }, { on := 3, ground := Ground.phase }, { on := 4, ground := Ground.phase }, { on := 5, ground := Ground.phase }], guard := none }
abbrev pe0 : Oper := { dst := some 68, op := Op.move (Operand.tmp 0), type := 24, pos := "waitq.go:218", after := #[], guard := none }
abbrev pe1 : Oper := { dst := some 69, op := Op.nilCheck (Operand.tmp 68), type := 0, pos := "waitq.go:218", after := #[{ on := 0, ground := Ground.data }], guard := none }
abbrev pe2 : Oper := { dst := some 70, op := Op.fieldAddr 78 (Operand.tmp 69) 2, type := 0, pos := "waitq.go:218", after := #[{ on := 1, ground := Ground.data }], guard := none }
abbrev pe3 : Oper := { dst := some 71, op := Op.load 74 (Operand.tmp 70), type := 74, pos := "waitq.go:218", after := #[{ on := 2, ground := Ground.data }], guard := none }
abbrev pe4 : Oper := { dst := some 72, op := Op.load 100 (Operand.tmp 4), type := 100, pos := "waitq.go:218", after := #[], guard := none }
abbrev pe5 : Oper := { dst := none, op := Op.call { callee := Callee.builtin Builtin.delete, args := #[Operand.tmp 71, Operand.tmp 72], argTypes := #[74, 100] }, type := 0, pos := "waitq.go:218", after := #[{ on := 3, ground := Ground.data }, { on := 4, ground := Ground.data }], guard := none }

variable {w : World} {B p M C n : Nat} {wv : Value} {sl : List Sl} {full : Int} {en : Ln → Option (Int × Int)} {cl : Int × Int × Int → Option Int}

set_option maxRecDepth 100000 in
set_option maxHeartbeats 16000000 in
theorem part_is (h : Bk w B p wv M C sl full en cl n) (hl : sl.length ≤ 100001) (x : Ln) (hk : x.k < 3) {i : Nat} (hi : i < sl.length) {e1 e2 a b : Int} (hee : e0 (en x) = (e1, e2)) (hlk : sl[i].lk x.k = (a, b)) (ha : a = 0 ∨ e1 ≠ 0 ∧ ∃ j : Nat, j < sl.length ∧ a = (j : Int) + 1) (hb : b = 0 ∨ ∃ j : Nat, j < sl.length ∧ b = (j : Int) + 1) :
    Calls Try.prog 50 #[.pointer (some ⟨p, 0, none⟩), lnV x, .int .u32 ((i : Int) + 1)] w fun e w' => e = .returned (.tuple #[]) ∧ Bk w' B p wv M C (partS sl (a, b) x.k) full (updW en x (partE (e1, e2) (a, b))) cl n ∧ Ch (fun y => y = M ∨ wv.ownBlock = some y) w w' := by
  obtain ⟨g, c, -, rfl, -⟩ := h.at (by omega)
  obtain ⟨w1, hw1⟩ : ∃ w1, w.alloc (.cells #[.int .i64 (x.k : Int), .int .u32 x.rs, .int .u32 x.rg, .int .i64 x.rd, .int .u32 x.ws, .int .u32 x.wg] 100) = w1 := ⟨_, rfl⟩
  have hB1 : Below w.heap.size w w1 := by rw [← hw1]; exact below1 _ _
  have h1 := h.below hB1
  have hn : w1.heap[w.heap.size]? = some (.cells #[.int .i64 (x.k : Int), .int .u32 x.rs, .int .u32 x.rg, .int .i64 x.rd, .int .u32 x.ws, .int .u32 x.wg] 100 (0, 0)) := by rw [← hw1]; exact heap_new _ _
  have HB := hide h1
  have HN := hide hn
  have HW := hide (Ch.of_below (Q := fun _ => False) hB1)
  have hkl : ((x.k : Int) < 3) := by omega
  go_enter Try.func50, Try.ntmps50
  unfold lnV
  go_wp2
  clear hw1 hB1 h1 hn
  refine wp_anyH (part_r1 HB.out hl hk hi hee hlk HN.out ?_)
  intro E G W2 c2 nE nG lo
  have J2 := hide (show PS w W2 B p w.heap.size E G g sl.length c M C x (e1, e2) (a, b) sl full en cl n from ⟨⟨HB.out.ch c2 (fun _ _ h => h), c2.box HN.out (fun h => h), nE, ⟨Nat.le_refl _, Nat.le_trans HW.out.size lo.1⟩, (HW.out.trans c2 (fun _ _ h => h)).mono (fun _ _ h => h.elim)⟩, nG, Nat.le_trans HW.out.size lo.2, rfl⟩)
  intros
  dsimp only [Exit.inBlock, Exit.then]
  clear c2 nE nG HB HN HW hlk hee
  have yG := Lib.cell_of_heap J2.out.nG
  have yE := Lib.cell_of_heap J2.out.j.nE
  have yf := frz J2.out.j.nE
  rcases ha with rfl | ⟨he1, ja, hja, rfl⟩
  · rcases hb with rfl | ⟨jb, hjb, rfl⟩
    · have J3 := hide (J2.out.setE (e' := (0, e2)) (set2a J2.out.j.nE))
      have yG3 := Lib.cell_of_heap J3.out.nG
      have yE3 := Lib.cell_of_heap J3.out.j.nE
      have yf3 := frz J3.out.j.nE
      have J4 := hide (J3.out.setE (e' := (0, 0)) (set2b J3.out.j.nE))
      go_wp2
      clear yG yE yf yG3 yE3 yf3
      refine wp_reg (fun y => y = M) (R := fun W => JS w W B p w.heap.size E (.slice (some ⟨g, 0, none⟩) sl.length c) M C x (0, 0) sl full en cl n) (by kernel_rfl) (J4.out.j.quiet (Ch.drew _)) ?_
      rintro V6 v6 zk
      have J6 := hide v6
      clear v6
      have HG := hide (fun wq zq => J6.out.readsM (wq := wq) zq)
      apply tk 0 pd0 rfl (by kernel_rfl) (fun _ _ _ h => h) zk
      · intro wq zq
        go_simp
        try rfl
      go_frame
      apply tk 1 pd1 rfl (by kernel_rfl) (fun _ _ _ h => h) zk
      · intro wq zq
        go_simp
        try rfl
      go_frame
      apply tk 2 pd2 rfl (by kernel_rfl) (fun _ _ _ h => h) zk
      · intro wq zq
        go_simp
        try rfl
      go_frame
      apply tk 3 pd3 rfl (by kernel_rfl) (fun _ _ _ h => h) zk
      · intro wq zq
        obtain ⟨s1, s2, s3, s4, s5, s6, s7, s8, s9, s10⟩ := HG.out _ zq
        go_simp
        try rfl
      go_frame
      apply tk 4 pd4 rfl (by kernel_rfl) (fun _ _ _ h => h) zk
      · intro wq zq
        obtain ⟨s1, s2, s3, s4, s5, s6, s7, s8, s9, s10⟩ := HG.out _ zq
        go_simp
        try rfl
      go_frame
      apply tk 5 pd5 rfl (by kernel_rfl) (fun _ _ _ h => h) zk
      · intro wq zq
        obtain ⟨s1, s2, s3, s4, s5, s6, s7, s8, s9, s10⟩ := HG.out _ zq
        go_simp
        try rfl
      go_frame
      refine Go.Proofs.Ytoabhmpakcgloaa.rd 6 pd6 rfl (by kernel_rfl) fun K hK => ?_
      refine step_putL (x := x) (e := (0, 0)) rfl (.tmp 62) (.tmp 63) (.tmp 64) rfl rfl J6.out.bk.mp rfl rfl (fun W7 k7 m7 c7 => ?_)
      have J7 := hide (J6.out.map m7 c7)
      refine hK.out _ _ c7 (fun zk => ?_)
      clear hK K m7 c7
      try go_frame
      refine wpAnyH_done (by kernel_rfl) ?_ _
      clear HG J6
      have y := Lib.cell_of_heap J7.out.nE
      go_wp2
      clear y
      refine wp_reg (fun y => y = M) (R := fun W => JS w W B p w.heap.size E (.slice (some ⟨g, 0, none⟩) sl.length c) M C x (0, 0) sl full (updW en x (some (0, 0))) cl n) (by kernel_rfl) (J7.out.quiet (Ch.drew _)) ?_
      rintro V8 v8 zk
      have J8 := hide v8
      clear v8
      have HG := hide (fun wq zq => J8.out.readsM (wq := wq) zq)
      apply tk 0 pe0 rfl (by kernel_rfl) (fun _ _ _ h => h) zk
      · intro wq zq
        go_simp
        try rfl
      go_frame
      apply tk 1 pe1 rfl (by kernel_rfl) (fun _ _ _ h => h) zk
      · intro wq zq
        go_simp
        try rfl
      go_frame
      apply tk 2 pe2 rfl (by kernel_rfl) (fun _ _ _ h => h) zk
      · intro wq zq
        go_simp
        try rfl
      go_frame
      apply tk 3 pe3 rfl (by kernel_rfl) (fun _ _ _ h => h) zk
      · intro wq zq
        obtain ⟨s1, s2, s3, s4, s5, s6, s7, s8, s9, s10⟩ := HG.out _ zq
        go_simp
        try rfl
      go_frame
      apply tk 4 pe4 rfl (by kernel_rfl) (fun _ _ _ h => h) zk
      · intro wq zq
        obtain ⟨s1, s2, s3, s4, s5, s6, s7, s8, s9, s10⟩ := HG.out _ zq
        go_simp
        try rfl
      go_frame
      refine Go.Proofs.Ytoabhmpakcgloaa.rd 5 pe5 rfl (by kernel_rfl) fun K hK => ?_
      refine step_delL (x := x) rfl (.tmp 71) (.tmp 72) rfl rfl J8.out.bk.mp rfl (fun W9 k9 m9 c9 => ?_)
      have J9 := hide (J8.out.map m9 c9)
      refine hK.out _ _ c9 (fun zk => ?_)
      clear hK K m9 c9
      try go_frame
      refine wpAnyH_done (by kernel_rfl) ?_ _
      go_wp2
      go_end0
      exact ⟨rfl, (by have := J9.out.bk; rw [upd_upd] at this; simpa [partS, partS1, partE, partF] using this), J9.out.ch⟩
    · have qb : ((jb : Int) + 1 == 0) = false := by simp; omega
      have J3 := hide (J2.out.setE (e' := ((jb : Int) + 1, e2)) (set2a J2.out.j.nE))
      have yG3 := Lib.cell_of_heap J3.out.nG
      go_wp2
      clear yG yE yf yG3
      refine wp_reg (fun y => y = g) (R := fun W => PS w W B p w.heap.size E G g sl.length c M C x ((jb : Int) + 1, e2) (0, (jb : Int) + 1) sl full en cl n) (by kernel_rfl) (J3.out.quiet (Ch.drew _)) ?_
      rintro V v zk
      have JV := hide v
      clear v
      have HG := hide (fun wq zq => PS.reads JV.out (wq := wq) zq)
      apply tk 0 pc0 rfl (by kernel_rfl) (fun _ _ _ h => h) zk
      · intro wq zq
        go_simp
        try rfl
      go_frame
      apply tk 1 pc1 rfl (by kernel_rfl) (fun _ _ _ h => h) zk
      · intro wq zq
        go_simp
        try rfl
      go_frame
      apply tk 2 pc2 rfl (by kernel_rfl) (fun _ _ _ h => h) zk
      · intro wq zq
        obtain ⟨s1, s2, s3, s4⟩ := HG.out _ zq
        go_simp
        try rfl
      go_frame
      apply tk 4 pc4 rfl (by kernel_rfl) (fun _ _ _ h => h) zk
      · intro wq zq
        go_simp
        try rfl
      go_frame
      apply tk 5 pc5 rfl (by kernel_rfl) (fun _ _ _ h => h) zk
      · intro wq zq
        obtain ⟨s1, s2, s3, s4⟩ := HG.out _ zq
        go_simp
        try rfl
      go_frame
      apply tk 6 pc6 rfl (by kernel_rfl) (fun _ _ _ h => h) zk
      · intro wq zq
        go_simp
        try rfl
      go_frame
      apply tk 7 pc7 rfl (by kernel_rfl) (fun _ _ _ h => h) zk
      · intro wq zq
        obtain ⟨s1, s2, s3, s4⟩ := HG.out _ zq
        go_simp
        try rfl
      go_frame
      refine Go.Proofs.Ytoabhmpakcgloaa.rd 3 pc3 rfl (by kernel_rfl) fun K hK => ?_
      go_simp
      refine (at_is (HG.out _ zk).1 hjb hl).mono ?_
      rintro e W4 ⟨rfl, rfl⟩
      go_wp2_with fail
      refine hK.out _ _ ?_ (fun zk => ?_)
      · exact zk
      clear hK K
      try go_frame
      apply tk 8 pc8 rfl (by kernel_rfl) (fun _ _ _ h => h) zk
      · intro wq zq
        go_simp
        try rfl
      go_frame
      apply tk 9 pc9 rfl (by kernel_rfl) (fun _ _ _ h => h) zk
      · intro wq zq
        go_simp
        try rfl
      go_frame
      apply tk 10 pc10 rfl (by kernel_rfl) (fun _ _ _ h => h) zk
      · intro wq zq
        go_simp
        try rfl
      go_frame
      apply tk 11 pc11 rfl (by kernel_rfl) (fun _ _ _ h => h) zk
      · intro wq zq
        go_simp
        try rfl
      go_frame
      refine Go.Proofs.Ytoabhmpakcgloaa.rd 12 pc12 rfl (by kernel_rfl) fun K hK => ?_
      obtain ⟨⟨yv, y2⟩, y3⟩ := JV.out.cell hjb (fun z _ => slF_ex _ (by omega) z) (off_a jb x.k)
      have K4 := hide (JV.out.set hjb (by omega) (Sl.setA x.k 0) (fun z => slF_A z hk _) (off_a jb x.k))
      go_simp
      clear y2 y3
      refine genK (R := fun W => Ch (fun y => y = g) V W ∧ (fun W => PS w W B p w.heap.size E G g sl.length c M C x ((jb : Int) + 1, e2) (0, (jb : Int) + 1) (modS sl ((jb : Int) + 1) (Sl.setA x.k 0)) full en cl n) W) (⟨Ch.set (Q := fun y => y = g) _ rfl _ _, K4.out⟩) ?_
      rintro W5 ⟨c5, j5⟩
      clear zk
      refine hK.out _ _ ?_ (fun zk => ?_)
      · exact c5
      clear hK K
      try go_frame
      refine wpAnyH_done (by kernel_rfl) ?_ _
      clear K4 HG c5 JV
      have JW5 := hide j5
      clear j5
      go_wp2
      refine wp_reg (fun y => y = M) (R := fun W => JS w W B p w.heap.size E (.slice (some ⟨g, 0, none⟩) sl.length c) M C x ((jb : Int) + 1, e2) (modS sl ((jb : Int) + 1) (Sl.setA x.k 0)) full en cl n) (by kernel_rfl) (JW5.out.j.quiet (Ch.drew _)) ?_
      rintro V6 v6 zk
      have J6 := hide v6
      clear v6
      have HG := hide (fun wq zq => J6.out.readsM (wq := wq) zq)
      apply tk 0 pd0 rfl (by kernel_rfl) (fun _ _ _ h => h) zk
      · intro wq zq
        go_simp
        try rfl
      go_frame
      apply tk 1 pd1 rfl (by kernel_rfl) (fun _ _ _ h => h) zk
      · intro wq zq
        go_simp
        try rfl
      go_frame
      apply tk 2 pd2 rfl (by kernel_rfl) (fun _ _ _ h => h) zk
      · intro wq zq
        go_simp
        try rfl
      go_frame
      apply tk 3 pd3 rfl (by kernel_rfl) (fun _ _ _ h => h) zk
      · intro wq zq
        obtain ⟨s1, s2, s3, s4, s5, s6, s7, s8, s9, s10⟩ := HG.out _ zq
        go_simp
        try rfl
      go_frame
      apply tk 4 pd4 rfl (by kernel_rfl) (fun _ _ _ h => h) zk
      · intro wq zq
        obtain ⟨s1, s2, s3, s4, s5, s6, s7, s8, s9, s10⟩ := HG.out _ zq
        go_simp
        try rfl
      go_frame
      apply tk 5 pd5 rfl (by kernel_rfl) (fun _ _ _ h => h) zk
      · intro wq zq
        obtain ⟨s1, s2, s3, s4, s5, s6, s7, s8, s9, s10⟩ := HG.out _ zq
        go_simp
        try rfl
      go_frame
      refine Go.Proofs.Ytoabhmpakcgloaa.rd 6 pd6 rfl (by kernel_rfl) fun K hK => ?_
      refine step_putL (x := x) (e := ((jb : Int) + 1, e2)) rfl (.tmp 62) (.tmp 63) (.tmp 64) rfl rfl J6.out.bk.mp rfl rfl (fun W7 k7 m7 c7 => ?_)
      have J7 := hide (J6.out.map m7 c7)
      refine hK.out _ _ c7 (fun zk => ?_)
      clear hK K m7 c7
      try go_frame
      refine wpAnyH_done (by kernel_rfl) ?_ _
      clear HG J6
      have y := Lib.cell_of_heap J7.out.nE
      go_wp2
      clear y
      go_end0
      exact ⟨rfl, (by have := J7.out.bk; have q : ¬ (jb : Int) + 1 = 0 := (by omega); simpa [partS, partS1, partE, partF, partL, q] using this), J7.out.ch⟩
  · have qa : ((ja : Int) + 1 == 0) = false := by simp; omega
    have qe : (e1 == 0) = false := by simpa using he1
    rcases hb with rfl | ⟨jb, hjb, rfl⟩
    · go_wp2
      clear yG yE yf
      refine wp_reg (fun y => y = g) (R := fun W => PS w W B p w.heap.size E G g sl.length c M C x (e1, e2) ((ja : Int) + 1, 0) sl full en cl n) (by kernel_rfl) (J2.out.quiet (Ch.drew _)) ?_
      rintro V v zk
      have JV := hide v
      clear v
      have HG := hide (fun wq zq => PS.reads JV.out (wq := wq) zq)
      apply tk 0 pb0 rfl (by kernel_rfl) (fun _ _ _ h => h) zk
      · intro wq zq
        go_simp
        try rfl
      go_frame
      apply tk 1 pb1 rfl (by kernel_rfl) (fun _ _ _ h => h) zk
      · intro wq zq
        go_simp
        try rfl
      go_frame
      apply tk 2 pb2 rfl (by kernel_rfl) (fun _ _ _ h => h) zk
      · intro wq zq
        obtain ⟨s1, s2, s3, s4⟩ := HG.out _ zq
        go_simp
        try rfl
      go_frame
      apply tk 4 pb4 rfl (by kernel_rfl) (fun _ _ _ h => h) zk
      · intro wq zq
        go_simp
        try rfl
      go_frame
      apply tk 5 pb5 rfl (by kernel_rfl) (fun _ _ _ h => h) zk
      · intro wq zq
        obtain ⟨s1, s2, s3, s4⟩ := HG.out _ zq
        go_simp
        try rfl
      go_frame
      apply tk 6 pb6 rfl (by kernel_rfl) (fun _ _ _ h => h) zk
      · intro wq zq
        go_simp
        try rfl
      go_frame
      apply tk 7 pb7 rfl (by kernel_rfl) (fun _ _ _ h => h) zk
      · intro wq zq
        obtain ⟨s1, s2, s3, s4⟩ := HG.out _ zq
        go_simp
        try rfl
      go_frame
      refine Go.Proofs.Ytoabhmpakcgloaa.rd 3 pb3 rfl (by kernel_rfl) fun K hK => ?_
      go_simp
      refine (at_is (HG.out _ zk).1 hja hl).mono ?_
      rintro e W4 ⟨rfl, rfl⟩
      go_wp2_with fail
      refine hK.out _ _ ?_ (fun zk => ?_)
      · exact zk
      clear hK K
      try go_frame
      apply tk 8 pb8 rfl (by kernel_rfl) (fun _ _ _ h => h) zk
      · intro wq zq
        go_simp
        try rfl
      go_frame
      apply tk 9 pb9 rfl (by kernel_rfl) (fun _ _ _ h => h) zk
      · intro wq zq
        go_simp
        try rfl
      go_frame
      apply tk 10 pb10 rfl (by kernel_rfl) (fun _ _ _ h => h) zk
      · intro wq zq
        go_simp
        try rfl
      go_frame
      apply tk 11 pb11 rfl (by kernel_rfl) (fun _ _ _ h => h) zk
      · intro wq zq
        go_simp
        try rfl
      go_frame
      refine Go.Proofs.Ytoabhmpakcgloaa.rd 12 pb12 rfl (by kernel_rfl) fun K hK => ?_
      obtain ⟨⟨yv, y2⟩, y3⟩ := JV.out.cell hja (fun z _ => slF_ex _ (by omega) z) (off_b ja x.k)
      have K4 := hide (JV.out.set hja (by omega) (Sl.setB x.k 0) (fun z => slF_B z hk _) (off_b ja x.k))
      go_simp
      clear y2 y3
      refine genK (R := fun W => Ch (fun y => y = g) V W ∧ (fun W => PS w W B p w.heap.size E G g sl.length c M C x (e1, e2) ((ja : Int) + 1, 0) (modS sl ((ja : Int) + 1) (Sl.setB x.k 0)) full en cl n) W) (⟨Ch.set (Q := fun y => y = g) _ rfl _ _, K4.out⟩) ?_
      rintro W3 ⟨c5, j5⟩
      clear zk
      refine hK.out _ _ ?_ (fun zk => ?_)
      · exact c5
      clear hK K
      try go_frame
      refine wpAnyH_done (by kernel_rfl) ?_ _
      clear K4 HG c5 JV
      have JW3 := hide j5
      clear j5
      have yG := Lib.cell_of_heap JW3.out.nG
      have yE := Lib.cell_of_heap JW3.out.j.nE
      have yf := frz JW3.out.j.nE
      have J4 := hide (JW3.out.setE (e' := (e1, (ja : Int) + 1)) (set2b JW3.out.j.nE))
      go_wp2
      clear yG yE yf
      refine wp_reg (fun y => y = M) (R := fun W => JS w W B p w.heap.size E (.slice (some ⟨g, 0, none⟩) sl.length c) M C x (e1, (ja : Int) + 1) (modS sl ((ja : Int) + 1) (Sl.setB x.k 0)) full en cl n) (by kernel_rfl) (J4.out.j.quiet (Ch.drew _)) ?_
      rintro V6 v6 zk
      have J6 := hide v6
      clear v6
      have HG := hide (fun wq zq => J6.out.readsM (wq := wq) zq)
      apply tk 0 pd0 rfl (by kernel_rfl) (fun _ _ _ h => h) zk
      · intro wq zq
        go_simp
        try rfl
      go_frame
      apply tk 1 pd1 rfl (by kernel_rfl) (fun _ _ _ h => h) zk
      · intro wq zq
        go_simp
        try rfl
      go_frame
      apply tk 2 pd2 rfl (by kernel_rfl) (fun _ _ _ h => h) zk
      · intro wq zq
        go_simp
        try rfl
      go_frame
      apply tk 3 pd3 rfl (by kernel_rfl) (fun _ _ _ h => h) zk
      · intro wq zq
        obtain ⟨s1, s2, s3, s4, s5, s6, s7, s8, s9, s10⟩ := HG.out _ zq
        go_simp
        try rfl
      go_frame
      apply tk 4 pd4 rfl (by kernel_rfl) (fun _ _ _ h => h) zk
      · intro wq zq
        obtain ⟨s1, s2, s3, s4, s5, s6, s7, s8, s9, s10⟩ := HG.out _ zq
        go_simp
        try rfl
      go_frame
      apply tk 5 pd5 rfl (by kernel_rfl) (fun _ _ _ h => h) zk
      · intro wq zq
        obtain ⟨s1, s2, s3, s4, s5, s6, s7, s8, s9, s10⟩ := HG.out _ zq
        go_simp
        try rfl
      go_frame
      refine Go.Proofs.Ytoabhmpakcgloaa.rd 6 pd6 rfl (by kernel_rfl) fun K hK => ?_
      refine step_putL (x := x) (e := (e1, (ja : Int) + 1)) rfl (.tmp 62) (.tmp 63) (.tmp 64) rfl rfl J6.out.bk.mp rfl rfl (fun W7 k7 m7 c7 => ?_)
      have J7 := hide (J6.out.map m7 c7)
      refine hK.out _ _ c7 (fun zk => ?_)
      clear hK K m7 c7
      try go_frame
      refine wpAnyH_done (by kernel_rfl) ?_ _
      clear HG J6
      have y := Lib.cell_of_heap J7.out.nE
      go_wp2
      clear y
      go_end0
      exact ⟨rfl, (by have := J7.out.bk; have q : ¬ (ja : Int) + 1 = 0 := (by omega); simpa [partS, partS1, partE, partF, partL, q, he1] using this), J7.out.ch⟩
    · have qb : ((jb : Int) + 1 == 0) = false := by simp; omega
      go_wp2
      clear yG yE yf
      refine wp_reg (fun y => y = g) (R := fun W => PS w W B p w.heap.size E G g sl.length c M C x (e1, e2) ((ja : Int) + 1, (jb : Int) + 1) sl full en cl n) (by kernel_rfl) (J2.out.quiet (Ch.drew _)) ?_
      rintro V v zk
      have JV := hide v
      clear v
      have HG := hide (fun wq zq => PS.reads JV.out (wq := wq) zq)
      apply tk 0 pb0 rfl (by kernel_rfl) (fun _ _ _ h => h) zk
      · intro wq zq
        go_simp
        try rfl
      go_frame
      apply tk 1 pb1 rfl (by kernel_rfl) (fun _ _ _ h => h) zk
      · intro wq zq
        go_simp
        try rfl
      go_frame
      apply tk 2 pb2 rfl (by kernel_rfl) (fun _ _ _ h => h) zk
      · intro wq zq
        obtain ⟨s1, s2, s3, s4⟩ := HG.out _ zq
        go_simp
        try rfl
      go_frame
      apply tk 4 pb4 rfl (by kernel_rfl) (fun _ _ _ h => h) zk
      · intro wq zq
        go_simp
        try rfl
      go_frame
      apply tk 5 pb5 rfl (by kernel_rfl) (fun _ _ _ h => h) zk
      · intro wq zq
        obtain ⟨s1, s2, s3, s4⟩ := HG.out _ zq
        go_simp
        try rfl
      go_frame
      apply tk 6 pb6 rfl (by kernel_rfl) (fun _ _ _ h => h) zk
      · intro wq zq
        go_simp
        try rfl
      go_frame
      apply tk 7 pb7 rfl (by kernel_rfl) (fun _ _ _ h => h) zk
      · intro wq zq
        obtain ⟨s1, s2, s3, s4⟩ := HG.out _ zq
        go_simp
        try rfl
      go_frame
      refine Go.Proofs.Ytoabhmpakcgloaa.rd 3 pb3 rfl (by kernel_rfl) fun K hK => ?_
      go_simp
      refine (at_is (HG.out _ zk).1 hja hl).mono ?_
      rintro e W4 ⟨rfl, rfl⟩
      go_wp2_with fail
      refine hK.out _ _ ?_ (fun zk => ?_)
      · exact zk
      clear hK K
      try go_frame
      apply tk 8 pb8 rfl (by kernel_rfl) (fun _ _ _ h => h) zk
      · intro wq zq
        go_simp
        try rfl
      go_frame
      apply tk 9 pb9 rfl (by kernel_rfl) (fun _ _ _ h => h) zk
      · intro wq zq
        go_simp
        try rfl
      go_frame
      apply tk 10 pb10 rfl (by kernel_rfl) (fun _ _ _ h => h) zk
      · intro wq zq
        go_simp
        try rfl
      go_frame
      apply tk 11 pb11 rfl (by kernel_rfl) (fun _ _ _ h => h) zk
      · intro wq zq
        go_simp
        try rfl
      go_frame
      refine Go.Proofs.Ytoabhmpakcgloaa.rd 12 pb12 rfl (by kernel_rfl) fun K hK => ?_
      obtain ⟨⟨yv, y2⟩, y3⟩ := JV.out.cell hja (fun z _ => slF_ex _ (by omega) z) (off_b ja x.k)
      have K4 := hide (JV.out.set hja (by omega) (Sl.setB x.k ((jb : Int) + 1)) (fun z => slF_B z hk _) (off_b ja x.k))
      go_simp
      clear y2 y3
      refine genK (R := fun W => Ch (fun y => y = g) V W ∧ (fun W => PS w W B p w.heap.size E G g sl.length c M C x (e1, e2) ((ja : Int) + 1, (jb : Int) + 1) (modS sl ((ja : Int) + 1) (Sl.setB x.k ((jb : Int) + 1))) full en cl n) W) (⟨Ch.set (Q := fun y => y = g) _ rfl _ _, K4.out⟩) ?_
      rintro W3 ⟨c5, j5⟩
      clear zk
      refine hK.out _ _ ?_ (fun zk => ?_)
      · exact c5
      clear hK K
      try go_frame
      refine wpAnyH_done (by kernel_rfl) ?_ _
      clear K4 HG c5 JV
      have JW3 := hide j5
      clear j5
      have yG := Lib.cell_of_heap JW3.out.nG
      go_wp2
      clear yG
      refine wp_reg (fun y => y = g) (R := fun W => PS w W B p w.heap.size E G g sl.length c M C x (e1, e2) ((ja : Int) + 1, (jb : Int) + 1) (modS sl ((ja : Int) + 1) (Sl.setB x.k ((jb : Int) + 1))) full en cl n) (by kernel_rfl) (JW3.out.quiet (Ch.drew _)) ?_
      rintro V v zk
      have JV := hide v
      clear v
      have HG := hide (fun wq zq => PS.reads JV.out (wq := wq) zq)
      apply tk 0 pc0 rfl (by kernel_rfl) (fun _ _ _ h => h) zk
      · intro wq zq
        go_simp
        try rfl
      go_frame
      apply tk 1 pc1 rfl (by kernel_rfl) (fun _ _ _ h => h) zk
      · intro wq zq
        go_simp
        try rfl
      go_frame
      apply tk 2 pc2 rfl (by kernel_rfl) (fun _ _ _ h => h) zk
      · intro wq zq
        obtain ⟨s1, s2, s3, s4⟩ := HG.out _ zq
        go_simp
        try rfl
      go_frame
      apply tk 4 pc4 rfl (by kernel_rfl) (fun _ _ _ h => h) zk
      · intro wq zq
        go_simp
        try rfl
      go_frame
      apply tk 5 pc5 rfl (by kernel_rfl) (fun _ _ _ h => h) zk
      · intro wq zq
        obtain ⟨s1, s2, s3, s4⟩ := HG.out _ zq
        go_simp
        try rfl
      go_frame
      apply tk 6 pc6 rfl (by kernel_rfl) (fun _ _ _ h => h) zk
      · intro wq zq
        go_simp
        try rfl
      go_frame
      apply tk 7 pc7 rfl (by kernel_rfl) (fun _ _ _ h => h) zk
      · intro wq zq
        obtain ⟨s1, s2, s3, s4⟩ := HG.out _ zq
        go_simp
        try rfl
      go_frame
      refine Go.Proofs.Ytoabhmpakcgloaa.rd 3 pc3 rfl (by kernel_rfl) fun K hK => ?_
      go_simp
      refine (at_is (HG.out _ zk).1 hjb hl).mono ?_
      rintro e W4 ⟨rfl, rfl⟩
      go_wp2_with fail
      refine hK.out _ _ ?_ (fun zk => ?_)
      · exact zk
      clear hK K
      try go_frame
      apply tk 8 pc8 rfl (by kernel_rfl) (fun _ _ _ h => h) zk
      · intro wq zq
        go_simp
        try rfl
      go_frame
      apply tk 9 pc9 rfl (by kernel_rfl) (fun _ _ _ h => h) zk
      · intro wq zq
        go_simp
        try rfl
      go_frame
      apply tk 10 pc10 rfl (by kernel_rfl) (fun _ _ _ h => h) zk
      · intro wq zq
        go_simp
        try rfl
      go_frame
      apply tk 11 pc11 rfl (by kernel_rfl) (fun _ _ _ h => h) zk
      · intro wq zq
        go_simp
        try rfl
      go_frame
      refine Go.Proofs.Ytoabhmpakcgloaa.rd 12 pc12 rfl (by kernel_rfl) fun K hK => ?_
      obtain ⟨⟨yv, y2⟩, y3⟩ := JV.out.cell hjb (fun z _ => slF_ex _ (by omega) z) (off_a jb x.k)
      have K4 := hide (JV.out.set hjb (by omega) (Sl.setA x.k ((ja : Int) + 1)) (fun z => slF_A z hk _) (off_a jb x.k))
      go_simp
      clear y2 y3
      refine genK (R := fun W => Ch (fun y => y = g) V W ∧ (fun W => PS w W B p w.heap.size E G g sl.length c M C x (e1, e2) ((ja : Int) + 1, (jb : Int) + 1) (modS (modS sl ((ja : Int) + 1) (Sl.setB x.k ((jb : Int) + 1))) ((jb : Int) + 1) (Sl.setA x.k ((ja : Int) + 1))) full en cl n) W) (⟨Ch.set (Q := fun y => y = g) _ rfl _ _, K4.out⟩) ?_
      rintro W5 ⟨c5, j5⟩
      clear zk
      refine hK.out _ _ ?_ (fun zk => ?_)
      · exact c5
      clear hK K
      try go_frame
      refine wpAnyH_done (by kernel_rfl) ?_ _
      clear K4 HG c5 JV
      have JW5 := hide j5
      clear j5
      go_wp2
      refine wp_reg (fun y => y = M) (R := fun W => JS w W B p w.heap.size E (.slice (some ⟨g, 0, none⟩) sl.length c) M C x (e1, e2) (modS (modS sl ((ja : Int) + 1) (Sl.setB x.k ((jb : Int) + 1))) ((jb : Int) + 1) (Sl.setA x.k ((ja : Int) + 1))) full en cl n) (by kernel_rfl) (JW5.out.j.quiet (Ch.drew _)) ?_
      rintro V6 v6 zk
      have J6 := hide v6
      clear v6
      have HG := hide (fun wq zq => J6.out.readsM (wq := wq) zq)
      apply tk 0 pd0 rfl (by kernel_rfl) (fun _ _ _ h => h) zk
      · intro wq zq
        go_simp
        try rfl
      go_frame
      apply tk 1 pd1 rfl (by kernel_rfl) (fun _ _ _ h => h) zk
      · intro wq zq
        go_simp
        try rfl
      go_frame
      apply tk 2 pd2 rfl (by kernel_rfl) (fun _ _ _ h => h) zk
      · intro wq zq
        go_simp
        try rfl
      go_frame
      apply tk 3 pd3 rfl (by kernel_rfl) (fun _ _ _ h => h) zk
      · intro wq zq
        obtain ⟨s1, s2, s3, s4, s5, s6, s7, s8, s9, s10⟩ := HG.out _ zq
        go_simp
        try rfl
      go_frame
      apply tk 4 pd4 rfl (by kernel_rfl) (fun _ _ _ h => h) zk
      · intro wq zq
        obtain ⟨s1, s2, s3, s4, s5, s6, s7, s8, s9, s10⟩ := HG.out _ zq
        go_simp
        try rfl
      go_frame
      apply tk 5 pd5 rfl (by kernel_rfl) (fun _ _ _ h => h) zk
      · intro wq zq
        obtain ⟨s1, s2, s3, s4, s5, s6, s7, s8, s9, s10⟩ := HG.out _ zq
        go_simp
        try rfl
      go_frame
      refine Go.Proofs.Ytoabhmpakcgloaa.rd 6 pd6 rfl (by kernel_rfl) fun K hK => ?_
      refine step_putL (x := x) (e := (e1, e2)) rfl (.tmp 62) (.tmp 63) (.tmp 64) rfl rfl J6.out.bk.mp rfl rfl (fun W7 k7 m7 c7 => ?_)
      have J7 := hide (J6.out.map m7 c7)
      refine hK.out _ _ c7 (fun zk => ?_)
      clear hK K m7 c7
      try go_frame
      refine wpAnyH_done (by kernel_rfl) ?_ _
      clear HG J6
      have y := Lib.cell_of_heap J7.out.nE
      go_wp2
      clear y
      go_end0
      exact ⟨rfl, (by have := J7.out.bk; have q : ¬ (ja : Int) + 1 = 0 := (by omega); have q2 : ¬ (jb : Int) + 1 = 0 := (by omega); simpa [partS, partS1, partE, partF, partL, q, q2, he1] using this), J7.out.ch⟩

end Go.Proofs.Ytoabhmpakcgloaa
