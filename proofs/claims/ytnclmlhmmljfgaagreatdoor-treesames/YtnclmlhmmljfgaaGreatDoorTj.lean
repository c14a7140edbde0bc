/- Copied. -/
import Derived.Test.YtnclmlhmmljfgaaGreatDoorTi
namespace Go.Proofs.YtnclmlhmmljfgaaGreatDoor
open Go.RowKit

theorem Ex.trans' {X Y : Nat → Prop} {a b c : World} (h : Ex X a b) (k : Ex Y b c) (hxy : ∀ i, i < a.heap.size → Y i → X i) : Ex X a c :=
  ⟨k.os.trans h.os, k.tape.trans h.tape, k.output.trans h.output, Nat.le_trans h.size k.size, fun i hi hx => (k.block i (Nat.lt_of_lt_of_le hi h.size) fun hy => hx (hxy i hi hy)).trans (h.block i hi hx)⟩

theorem Box.ex {X : Nat → Prop} {w w' : World} {B : Nat} {f : Nd} {v : Value} (h : Box w B f v) (he : Ex X w w') (hx : ¬ X B) : Box w' B f v := ⟨(he.block B h.lt hx).trans h.blk⟩
theorem Box.set {w : World} {B : Nat} {f : Nd} {v : Value} (h : Box w B f v) (u : Value) : Box (w.setCell ⟨B, 7, none⟩ u) B f u := ⟨by simp [World.setCell, Array.getElem?_modify, h.blk]⟩

/-- nodes that are made one by one, appended to the row of a node that is boxed in B -/
structure CpI (w0 wr : World) (B : Nat) (f : Nd) (ks : List Tr) (mk : Bool) (k : Nat) (vo : Value) (L : List (Nd × Value)) : Prop where
  len : L.length = k
  own : OwnN wr w0.heap.size vo L
  box : Box wr B f vo
  ex : Ex (fun i => i = B) w0 wr
  kid : ∀ i (h : i < ks.length) (h' : i < L.length), L[i].1 = ks[i].f ∧ Kids wr ⟨true, mk⟩ (fun j => w0.heap.size ≤ j ∧ j < wr.heap.size ∧ vo.ownBlock ≠ some j) L[i].2 ks[i].ks

theorem CpI.start {w0 : World} {B : Nat} {f : Nd} (ks : List Tr) (mk : Bool) (h : Box w0 B f (.slice none 0 0)) : CpI w0 w0 B f ks mk 0 (.slice none 0 0) [] :=
  ⟨rfl, OwnN.nil _ _, h, Ex.refl _ _, fun i _ h' => by simp at h'⟩

theorem CpI.step {w0 wr w5 w7 : World} {B : Nat} {f : Nd} {ks : List Tr} {mk : Bool} {k : Nat} {vo v5 v7 : Value} {L : List (Nd × Value)} {o : Obj} (h : CpI w0 wr B f ks mk k vo L) (hB : B < w0.heap.size) (hk : k < ks.length) (b5 : Below wr.heap.size wr w5)
    (k5 : Kids w5 ⟨true, mk⟩ (fun i => wr.heap.size ≤ i ∧ i < w5.heap.size) v5 ks[k].ks) (ho : w7.ownsRow w0.heap.size 25 8 v7 (L.length + 1) (rowC L ++ ncs (ks[k].f, v5))) (hg : (w5.alloc o).grownBy w7 vo.ownBlock)
    (hl : v7.ownBlock = vo.ownBlock ∨ v7.ownBlock = some (w5.alloc o).heap.size) : CpI w0 (w7.setCell ⟨B, 7, none⟩ v7) B f ks mk (k + 1) v7 (L ++ [(ks[k].f, v5)]) := by
  have hs0 := h.ex.size
  have hs5 := b5.size
  have hs6 : (w5.alloc o).heap.size = w5.heap.size + 1 := World.size_alloc _ _
  have hs7 := hg.size
  have hs8 : (w7.setCell ⟨B, 7, none⟩ v7).heap.size = w7.heap.size := by simp [World.setCell]
  have hov := h.own.blk
  have hnB : vo.ownBlock ≠ some B := fun e => by have := (hov B e).1; omega
  have e58 : Ex (fun i => i = B ∨ vo.ownBlock = some i) w5 (w7.setCell ⟨B, 7, none⟩ v7) :=
    ((Ex.of_below ((Below.refl w5.heap.size w5).alloc (Nat.le_refl _) o)).trans (Ex.of_grown hg fun i e => Or.inr e)).trans (Ex.setCell _ _ _ _ (Or.inl rfl))
  have er8 : Ex (fun i => i = B ∨ vo.ownBlock = some i) wr (w7.setCell ⟨B, 7, none⟩ v7) := (Ex.of_below b5).trans e58
  have ho' : OwnN w7 w0.heap.size v7 (L ++ [(ks[k].f, v5)]) := by
    unfold OwnN
    rw [rowC_snoc, List.length_append]
    exact ho
  have hblk : ∀ g, v7.ownBlock = some g → g ≠ B := fun g hg' => by have := (ho'.blk g hg').1; omega
  refine ⟨by rw [List.length_append, h.len]; rfl, ho'.same fun g hg' => Below.heap_setCell _ _ _ _ (hblk g hg'), ?_, h.ex.trans' er8 fun i hi hy => ?_, fun i hi hi' => ?_⟩
  · refine Box.set (v := vo) ?_ _
    refine (((h.box.below b5 (by omega)).below ((Below.refl w5.heap.size w5).alloc (Nat.le_refl _) o) (by omega))).ex (X := fun i => vo.ownBlock = some i) (Ex.of_grown hg fun i e => e) hnB
  · rcases hy with e | e
    · exact e
    · have := (hov i e).1; omega
  · rcases Nat.lt_or_ge i L.length with hlt | hge
    · obtain ⟨h1, h2⟩ := h.kid i hi hlt
      rw [List.getElem_append_left hlt]
      refine ⟨h1, (h2.agree (er8.agree fun j hj => ⟨hj.2.1, fun hx => ?_⟩)).mono fun j hj => ⟨hj.1, by omega, fun e => ?_⟩⟩
      · rcases hx with rfl | hx
        · omega
        · exact hj.2.2 hx
      · rcases hl with hl | hl
        · exact hj.2.2 (hl ▸ e)
        · rw [hl] at e
          have := Option.some.inj e
          omega
    · have hik : i = k := by
        have := h.len
        rw [List.length_append] at hi'
        simp at hi'
        omega
      subst hik
      rw [List.getElem_append_right hge]
      simp only [h.len, Nat.sub_self, List.getElem_singleton]
      refine ⟨trivial, (k5.agree (e58.agree fun j hj => ⟨hj.2, fun hx => ?_⟩)).mono fun j hj => ⟨by omega, by omega, fun e => ?_⟩⟩
      · rcases hx with rfl | hx
        · omega
        · have := (hov j hx).2; omega
      · rcases hl with hl | hl
        · have := (hov j (hl ▸ e)).2; omega
        · rw [hl] at e
          have := Option.some.inj e
          omega

theorem own_form {w : World} {B n m : Nat} {e : TypeId} {v : Value} {xs : List Value} (h : w.ownsRow B e m v (n + 1) xs) : ∃ g cap, v = .slice (some ⟨g, 0, none⟩) (n + 1) cap := by
  rcases h with ⟨_, ⟨_, h0⟩ | ⟨g, cap, cur, rfl, _⟩⟩
  · cases h0
  · exact ⟨g, cap, rfl⟩

theorem Kids.oneCell {w : World} {m : Md} {S : Nat → Prop} {v : Value} {ts : List Tr} (h : Kids w m S v ts) : v.oneCell' = true := by
  obtain ⟨A, c, b, o, rfl, _⟩ := h.form
  rfl

theorem Ex.setCell' {X : Nat → Prop} {a w : World} (h : Ex X a w) {b o : Nat} {v : Value} (hb : X b) : Ex X a (w.setCell ⟨b, o, none⟩ v) := h.trans (Ex.setCell _ _ _ _ hb)

/-- all are there; the mark stands behind -/
theorem CpI.mark {w0 wr w7 : World} {B : Nat} {f : Nd} {ks : List Tr} {vo v7 : Value} {L : List (Nd × Value)} {o : Obj} (h : CpI w0 wr B f ks true ks.length vo L) (hn : ks.length ≤ 65536) (ho : w7.ownsRow w0.heap.size 25 8 v7 (L.length + 1) (rowC L ++ ncs (mkNd, .slice none 0 0)))
    (hg : (wr.alloc o).grownBy w7 vo.ownBlock) : ∃ g c, v7 = .slice (some ⟨g, 0, none⟩) (ks.length + 1) c ∧ ks.length + 1 ≤ c ∧ Kids w7 ⟨true, true⟩ (fun i => w0.heap.size ≤ i ∧ i < w7.heap.size) (.slice (some ⟨g, 0, none⟩) ks.length c) ks := by
  have hs6 : (wr.alloc o).heap.size = wr.heap.size + 1 := World.size_alloc _ _
  have hs7 := hg.size
  have ho' : OwnN w7 w0.heap.size v7 (L ++ [(mkNd, .slice none 0 0)]) := by
    unfold OwnN
    rw [rowC_snoc, List.length_append]
    exact ho
  have er7 : Ex (fun i => vo.ownBlock = some i) wr w7 := (Ex.of_below ((Below.refl wr.heap.size wr).alloc (Nat.le_refl _) o)).trans (Ex.of_grown hg fun i e => e)
  refine ho'.marked h.len (fun g hg' => ho'.blk g hg') hn fun i hi hi' => ?_
  obtain ⟨h1, h2⟩ := h.kid i hi hi'
  exact ⟨h1, (h2.agree (er7.agree fun j hj => ⟨hj.2.1, hj.2.2⟩)).mono fun j hj => ⟨hj.1, by omega⟩⟩

/-- a node's cells stored, behind one of its own fields elsewhere -/
abbrev set9 (w : World) (B : Nat) (f : Nd) (u : Value) : World := ((((((((w.setCell ⟨B + 1, 7, none⟩ u).setCell ⟨B, 0, none⟩ (.int .i64 f.k)).setCell ⟨B, 1, none⟩ (.string f.t)).setCell ⟨B, 2, none⟩ (.int .i64 f.n)).setCell ⟨B, 3, none⟩ (.string f.y)).setCell ⟨B, 4, none⟩ (.int .i64 f.s)).setCell ⟨B, 5, none⟩ (.int .i64 f.a)).setCell ⟨B, 6, none⟩ (.int .i64 f.l)).setCell ⟨B, 7, none⟩ u

theorem Ex.set9 {X : Nat → Prop} {a w : World} {B : Nat} {f : Nd} {u : Value} (h : Ex X a w) (h1 : X B) (h2 : X (B + 1)) : Ex X a (set9 w B f u) := ((((((((h.setCell' h2).setCell' h1).setCell' h1).setCell' h1).setCell' h1).setCell' h1).setCell' h1).setCell' h1).setCell' h1

/-- a node of nothing -/
def zNd : Nd := ⟨0, ⟨#[]⟩, 0, ⟨#[]⟩, 0, 0, 0⟩

set_option maxHeartbeats 8000000 in
theorem copied_all (n : Nat) (hn : n ≤ 65536) : ∀ (t : Tr) (w : World) (v : Value) (m : Md) (S : Nat → Prop), cnt t ≤ n → Kids w m S v t.ks → (∀ i, S i → i < w.heap.size) →
    Calls Tryz.prog 9 #[nv t.f v] w fun e w' => ∃ v', e = .returned (nv t.f v') ∧ Below w.heap.size w w' ∧ Kids w' ⟨true, true⟩ (fun i => w.heap.size ≤ i ∧ i < w'.heap.size) v' t.ks := by
  induction n with
  | zero => intro t w v m S h; have := cnt_pos t; omega
  | succ n ih =>
    intro t w v m S hc hv hS
    obtain ⟨i0, hi0, hz0, hz1, hz2⟩ := info_parts Tryz.infoN
    obtain ⟨A, ca, ba, oa, rfl, hla, hA, hra⟩ := hv.form
    have hll : t.ks.length ≤ 65536 := by
      have h1 := len_le_cnts t.ks
      obtain ⟨f, ks⟩ := t
      unfold cnt at hc
      simp only [Tr.ks] at h1 ⊢
      omega
    have HIH := hide (ih (by omega))
    have HA := hide hA
    have HC := hide hc
    have HI0 := hide hi0
    have HZ0 := hide hz0
    have HZ1 := hide hz1
    have HZ2 := hide hz2
    clear hv hA hc ih hi0 hz0 hz1 hz2
    unfold nv
    go_enter Tryz.func9, Tryz.ntmps9
    go_wp2
    obtain ⟨w1, hw1, HB1, HX1, hs1⟩ := boxed w t.f (.slice A t.ks.length ca)
    rw [hw1]
    clear hw1
    obtain ⟨w2, hw2, HB2, HX2, hs2⟩ := boxed w1 zNd (.slice none 0 0)
    unfold zNd at hw2
    rw [hw2]
    clear hw2
    obtain ⟨w3, hw3, HB3, HX3, hs3⟩ := boxed w2 t.f (.slice none 0 0)
    rw [hw3]
    clear hw3
    rw [hs1] at HX2 hs2
    rw [hs2] at HX3 hs3
    have HX1 := hide (((unhide HX1).below (unhide HB2) (by omega)).below (unhide HB3) (by omega))
    have HX2 := hide ((unhide HX2).below (unhide HB3) (by omega))
    have HBw := hide ((unhide HB1).trans (((unhide HB2).trans ((unhide HB3).mono (by omega))).mono (by omega)))
    clear HB1 HB2 HB3
    go_loopw [4] (fun i wr => ∃ (k : Nat) (vo : Value) (L : List (Nd × Value)), k ≤ t.ks.length ∧ i = .int .i64 k ∧ CpI w3 wr (w.heap.size + 1 + 1) t.f t.ks true k vo L) (fun i _ => t.ks.length - (intOf i).toNat)
    case atStart => exact ⟨0, _, _, Nat.zero_le _, rfl, CpI.start _ _ (unhide HX3)⟩
    case round =>
      obtain ⟨k, vo, L, hk, rfl, hcp⟩ := hrel
      have HCP := hide hcp
      have hsz := hcp.ex.size
      have hbxo := hcp.box.cell.2.2.2.2.2.2.2
      have hfro := hcp.box.froz
      have hBr := hcp.box.lt
      have HX1 := hide ((unhide HX1).ex hcp.ex (by omega))
      have HX2 := hide ((unhide HX2).ex hcp.ex (by omega))
      have hgov := hcp.own.blk
      have HGO := hide hgov
      have hnX : ∀ i, i < w3.heap.size → i ≠ w.heap.size + 1 + 1 → ¬ (i = w.heap.size + 1 + 1 ∨ vo.ownBlock = some i) := fun i h1 h2 h3 => by
        rcases h3 with h3 | h3
        · exact h2 h3
        · have := (hgov i h3).1; omega
      have HNX := hide hnX
      have HNB := hide (show vo.ownBlock ≠ some (w.heap.size + 1 + 1) from fun e => by have := (hgov _ e).1; omega)
      clear hcp hgov hnX
      by_cases hkl : k < t.ks.length
      · obtain ⟨rfl, hba, _⟩ := unhide HA (by omega)
        have hbaw : ba < w.heap.size := hS ba hba
        obtain ⟨va', HCa, HKa⟩ := ((hra.agree (Agree.of_below (unhide HBw) hS) hba).get k hkl).cs
        have HKw := hide ((unhide HKa).agree ((unhide HCP).ex.agree fun i hi => by have := hS i hi; exact ⟨by omega, by omega⟩))
        have HCw := hide ((unhide HCa).agree ((unhide HCP).ex.agree (S := fun i => i = ba) fun i hi => by subst hi; exact ⟨by omega, by omega⟩) rfl)
        have HCN := hide (cnts_lt (unhide HC) hkl)
        have i0' : (0 : Int) ≤ (k : Int) := by omega
        have i1 : (k : Int) < (t.ks.length : Int) := by omega
        have hLk : L.length = k := (unhide HCP).len
        have HLk := hide hLk
        have HM1 := hide (show L.length + 1 ≤ maxLen by unfold maxLen; omega)
        have HM2 := hide (show (L.length + 1) * 96 ≤ 140737488355328 by omega)
        clear hLk
        have x7 := (unhide HX1).cell.2.2.2.2.2.2.2
        go_wp2
        refine wp_region_held_drew (S := Ex (fun i => i = w.heap.size + 1 + 1 ∨ vo.ownBlock = some i) wr) (by kernel_rfl) ?_ (fun hHeld => ?_)
        · exact Ex.drew _ _
        refine wpAnyH_take (i := 0) (oi := { dst := some 15, op := Op.fieldAddr 25 (Operand.tmp 3) 7, type := 0, pos := "law.go:21", after := #[], guard := none }) (v := ?_) rfl (by kernel_rfl) (by kernel_rfl) (by kernel_rfl) (fun _ _ _ h => h) (Or.inl ⟨by rfl, ?_⟩) (by assumption) ?_
        rotate_left
        · intro wq hSw
          go_simp
          try (with_reducible rfl)
        go_frame
        refine wpAnyH_take (i := 2) (oi := { dst := some 17, op := Op.fieldAddr 25 (Operand.tmp 1) 7, type := 0, pos := "law.go:21", after := #[], guard := none }) (v := ?_) rfl (by kernel_rfl) (by kernel_rfl) (by kernel_rfl) (fun _ _ _ h => h) (Or.inl ⟨by rfl, ?_⟩) (by assumption) ?_
        rotate_left
        · intro wq hSw
          go_simp
          try (with_reducible rfl)
        go_frame
        refine wpAnyH_take (i := 3) (oi := { dst := some 18, op := Op.load 23 (Operand.tmp 17), type := 23, pos := "law.go:21", after := #[{ on := 2, ground := Ground.data }], guard := none }) (v := ?_) rfl (by kernel_rfl) (by kernel_rfl) (by kernel_rfl) (fun _ _ _ h => h) (Or.inl ⟨by rfl, ?_⟩) (by assumption) ?_
        rotate_left
        · intro wq hSw
          obtain ⟨x0, x1, x2, x3, x4, x5, x6, x7⟩ := ((unhide HX1).ex hSw (unhide HNX _ (by omega) (by omega))).cell
          go_simp
          try (with_reducible rfl)
        go_frame
        refine wpAnyH_take (i := 4) (oi := { dst := some 19, op := Op.move (Operand.tmp 4), type := 3, pos := "law.go:21", after := #[], guard := none }) (v := ?_) rfl (by kernel_rfl) (by kernel_rfl) (by kernel_rfl) (fun _ _ _ h => h) (Or.inl ⟨by rfl, ?_⟩) (by assumption) ?_
        rotate_left
        · intro wq hSw
          go_simp
          try (with_reducible rfl)
        go_frame
        refine wpAnyH_take (i := 5) (oi := { dst := some 20, op := Op.indexAddr 23 (Operand.tmp 18) (Operand.tmp 19), type := 0, pos := "law.go:21", after := #[{ on := 3, ground := Ground.data }, { on := 4, ground := Ground.data }], guard := none }) (v := ?_) rfl (by kernel_rfl) (by kernel_rfl) (by kernel_rfl) (fun _ _ _ h => h) (Or.inl ⟨by rfl, ?_⟩) (by assumption) ?_
        rotate_left
        · intro wq hSw
          go_simp
          try (with_reducible rfl)
        go_frame
        refine wpAnyH_take (i := 6) (oi := { dst := some 21, op := Op.load 25 (Operand.tmp 20), type := 25, pos := "law.go:21", after := #[{ on := 5, ground := Ground.data }], guard := none }) (v := ?_) rfl (by kernel_rfl) (by kernel_rfl) (by kernel_rfl) (fun _ _ _ h => h) (Or.inl ⟨by rfl, ?_⟩) (by assumption) ?_
        rotate_left
        · intro wq hSw
          obtain ⟨y0, y1, y2, y3, y4, y5, y6, y7⟩ := (unhide HCw).agree (hSw.agree (S := fun i => i = ba) fun i hi => by subst hi; exact ⟨by omega, unhide HNX _ (by omega) (by omega)⟩) rfl
          go_simp
          try (with_reducible rfl)
        go_frame
        refine wpAnyH_ready (rs := [1, 7]) (by kernel_rfl) (by simp) ?_
        refine AllReadyH.cons (o := { dst := some 16, op := Op.load 23 (Operand.tmp 15), type := 23, pos := "law.go:21", after := #[{ on := 0, ground := Ground.data }], guard := none }) rfl (fun K hK => ?_) (AllReadyH.cons (o := { dst := some 22, op := Op.call { callee := Callee.value (Operand.func 9), args := #[Operand.tmp 21], argTypes := #[25] }, type := 25, pos := "law.go:21", after := #[{ on := 6, ground := Ground.data }], guard := none }) rfl (fun K hK => ?_) AllReadyH.nil)
        · go_simp
          refine hK.out _ _ ?_ (fun hHeld => ?_)
          · exact hHeld
          clear hK K
          try go_frame
          refine wpAnyH_ready (rs := [7]) (by kernel_rfl) (by simp) ?_
          refine AllReadyH.cons (o := { dst := some 22, op := Op.call { callee := Callee.value (Operand.func 9), args := #[Operand.tmp 21], argTypes := #[25] }, type := 25, pos := "law.go:21", after := #[{ on := 6, ground := Ground.data }], guard := none }) rfl (fun K hK => ?_) AllReadyH.nil
          go_simp
          refine (unhide HIH t.ks[k] _ va' m S (unhide HCN) ((unhide HKw).agree (Agree.of_below (below_drw wr) fun i hi => by have := hS i hi; omega)) (fun i hi => by have := hS i hi; show i < wr.heap.size; omega)).mono ?_
          rintro e w5 ⟨v5, rfl, b5, hk5⟩
          have HB5 := hide (below_undrew b5)
          have HK5 : Hid (Kids w5 ⟨true, true⟩ (fun i => wr.heap.size ≤ i ∧ i < w5.heap.size) v5 t.ks[k].ks) := hide hk5
          have hs5 := (unhide HB5).size
          have hb5 : w5.cell? ⟨w.heap.size + 1 + 1, 7, none⟩ = some vo := ((unhide HB5).cell (p := ⟨w.heap.size + 1 + 1, 7, none⟩) hBr).trans hbxo
          have hb6 : ∀ o, (w5.alloc o).cell? ⟨w.heap.size + 1 + 1, 7, none⟩ = some vo := fun o => (World.cell?_alloc_lt _ _ _ (by show w.heap.size + 1 + 1 < _; omega)).trans hb5
          clear b5 hk5
          go_wp2_with fail
          refine hK.out _ _ ?_ (fun hHeld => ?_)
          · exact hHeld.trans (Ex.of_below ⟨(unhide HB5).os, (unhide HB5).tape, (unhide HB5).output, (unhide HB5).size, (unhide HB5).block⟩)
          clear hK K
          try go_frame
          refine wpAnyH_ready (rs := [8]) (by kernel_rfl) (by simp) ?_
          refine AllReadyH.cons (o := { dst := some 23, op := Op.buildSlice 23 1 #[(0, Operand.tmp 22)], type := 23, pos := "law.go:21", after := #[{ on := 7, ground := Ground.data }], guard := none }) rfl (fun K hK => ?_) AllReadyH.nil
          go_simp
          refine hK.out _ _ ?_ (fun hHeld => ?_)
          · exact hHeld.trans (Ex.of_below ((Below.refl _ _).alloc (Nat.le_refl _) _))
          clear hK K
          try go_frame
          refine wpAnyH_ready (rs := [9]) (by kernel_rfl) (by simp) ?_
          refine AllReadyH.cons (o := { dst := some 24, op := Op.call { callee := Callee.builtin Builtin.append, args := #[Operand.tmp 16, Operand.tmp 23], argTypes := #[23, 23] }, type := 23, pos := "law.go:21", after := #[{ on := 1, ground := Ground.data }, { on := 8, ground := Ground.data }, { on := 7, ground := Ground.chain }], guard := none }) rfl (fun K hK => ?_) AllReadyH.nil
          refine step_append_at rfl (.tmp 16) (.tmp 23) 23 rfl w3.heap.size 25 i0 (.agg #[.int .i64 0, .string ⟨#[]⟩, .int .i64 0, .string ⟨#[]⟩, .int .i64 0, .int .i64 0, .int .i64 0, .slice none 0 0]) 8 96 Tryz.underlying23 (unhide HI0) (unhide HZ0) (unhide HZ1) (unhide HZ2) rfl (by decide) vo L.length (rowC L) rfl (((unhide HCP).own.same fun g hg => (unhide HB5).block g (unhide HGO g hg).2).same fun g hg => ((Below.refl w5.heap.size w5).alloc (Nat.le_refl _) _).block g (by have := (unhide HGO g hg).2; omega)) ⟨w5.heap.size, 0, none⟩ 1 1 (ncs (t.ks[k].f, v5)) rfl rfl (node_new w5 _ _) (node_one _ (unhide HK5).oneCell) (unhide HM1) (unhide HM2) (by rw [World.size_alloc]; omega) ?_
          intro v7 w7 ho7 hg7 hl7
          obtain ⟨g7, cap7, rfl⟩ := own_form ho7
          have HO7 := hide ho7
          have HG7 := hide hg7
          have HL7 := hide hl7
          have hb7 : w7.cell? ⟨w.heap.size + 1 + 1, 7, none⟩ = some vo := (World.cell?_of_block (hg7.block _ (by rw [World.size_alloc]; show w.heap.size + 1 + 1 < _; omega) fun e => unhide HNB e.symm)).trans (hb6 _)
          have hf7 : w7.frozen? ⟨w.heap.size + 1 + 1, 7, none⟩ = false := ((World.frozen?_of_block (hg7.block _ (by rw [World.size_alloc]; show w.heap.size + 1 + 1 < _; omega) fun e => unhide HNB e.symm)).trans (World.frozen?_of_block (((Below.refl w5.heap.size w5).alloc (Nat.le_refl _) _).block _ (by show w.heap.size + 1 + 1 < _; omega)))).trans ((World.frozen?_of_block ((unhide HB5).block _ hBr)).trans (hfro 7))
          clear ho7 hg7 hl7
          refine hK.out _ _ ?_ (fun hHeld => ?_)
          · exact hHeld.trans (Ex.of_grown (unhide HG7) fun i e => Or.inr e)
          clear hK K
          try go_frame
          refine wpAnyH_take (i := 10) (oi := { dst := some 25, op := Op.fieldAddr 25 (Operand.tmp 3) 7, type := 0, pos := "law.go:21", after := #[{ on := 0, ground := Ground.phase }, { on := 1, ground := Ground.phase }, { on := 2, ground := Ground.phase }, { on := 3, ground := Ground.phase }, { on := 4, ground := Ground.phase }, { on := 5, ground := Ground.phase }, { on := 6, ground := Ground.phase }, { on := 7, ground := Ground.phase }, { on := 8, ground := Ground.phase }, { on := 9, ground := Ground.phase }], guard := none }) (v := ?_) rfl (by kernel_rfl) (by kernel_rfl) (by kernel_rfl) (fun _ _ _ h => h) (Or.inl ⟨by rfl, ?_⟩) (by assumption) ?_
          rotate_left
          · intro wq hSw
            go_simp
            try (with_reducible rfl)
          go_frame
          refine wpAnyH_ready (rs := [11]) (by kernel_rfl) (by simp) ?_
          refine AllReadyH.cons (o := { dst := none, op := Op.store 23 (Operand.tmp 25) (Operand.tmp 24), type := 0, pos := "law.go:21", after := #[{ on := 10, ground := Ground.data }, { on := 9, ground := Ground.data }, { on := 9, ground := Ground.chain }, { on := 0, ground := Ground.phase }, { on := 1, ground := Ground.phase }, { on := 2, ground := Ground.phase }, { on := 3, ground := Ground.phase }, { on := 4, ground := Ground.phase }, { on := 5, ground := Ground.phase }, { on := 6, ground := Ground.phase }, { on := 7, ground := Ground.phase }, { on := 8, ground := Ground.phase }, { on := 9, ground := Ground.phase }], guard := none }) rfl (fun K hK => ?_) AllReadyH.nil
          go_simp
          refine hK.out _ _ ?_ (fun hHeld => ?_)
          · exact hHeld.trans (Ex.setCell _ _ _ _ (Or.inl rfl))
          clear hK K
          try go_frame
          refine wpAnyH_done (by kernel_rfl) ?_ _
          go_wp2
          go_roundw
          case rel => exact ⟨k + 1, _, _, by omega, by go_num, (unhide HCP).step (by omega) hkl (unhide HB5) (unhide HK5) (unhide HO7) (unhide HG7) (unhide HL7)⟩
          case measure => simp [intOf]; omega
        · go_simp
          refine (unhide HIH t.ks[k] _ va' m S (unhide HCN) ((unhide HKw).agree (Agree.of_below (below_drw wr) fun i hi => by have := hS i hi; omega)) (fun i hi => by have := hS i hi; show i < wr.heap.size; omega)).mono ?_
          rintro e w5 ⟨v5, rfl, b5, hk5⟩
          have HB5 := hide (below_undrew b5)
          have HK5 : Hid (Kids w5 ⟨true, true⟩ (fun i => wr.heap.size ≤ i ∧ i < w5.heap.size) v5 t.ks[k].ks) := hide hk5
          have hs5 := (unhide HB5).size
          have hb5 : w5.cell? ⟨w.heap.size + 1 + 1, 7, none⟩ = some vo := ((unhide HB5).cell (p := ⟨w.heap.size + 1 + 1, 7, none⟩) hBr).trans hbxo
          have hb6 : ∀ o, (w5.alloc o).cell? ⟨w.heap.size + 1 + 1, 7, none⟩ = some vo := fun o => (World.cell?_alloc_lt _ _ _ (by show w.heap.size + 1 + 1 < _; omega)).trans hb5
          clear b5 hk5
          go_wp2_with fail
          refine hK.out _ _ ?_ (fun hHeld => ?_)
          · exact hHeld.trans (Ex.of_below ⟨(unhide HB5).os, (unhide HB5).tape, (unhide HB5).output, (unhide HB5).size, (unhide HB5).block⟩)
          clear hK K
          try go_frame
          refine wpAnyH_ready (rs := [1, 8]) (by kernel_rfl) (by simp) ?_
          refine AllReadyH.cons (o := { dst := some 16, op := Op.load 23 (Operand.tmp 15), type := 23, pos := "law.go:21", after := #[{ on := 0, ground := Ground.data }], guard := none }) rfl (fun K hK => ?_) (AllReadyH.cons (o := { dst := some 23, op := Op.buildSlice 23 1 #[(0, Operand.tmp 22)], type := 23, pos := "law.go:21", after := #[{ on := 7, ground := Ground.data }], guard := none }) rfl (fun K hK => ?_) AllReadyH.nil)
          · go_simp
            refine hK.out _ _ ?_ (fun hHeld => ?_)
            · exact hHeld
            clear hK K
            try go_frame
            refine wpAnyH_ready (rs := [8]) (by kernel_rfl) (by simp) ?_
            refine AllReadyH.cons (o := { dst := some 23, op := Op.buildSlice 23 1 #[(0, Operand.tmp 22)], type := 23, pos := "law.go:21", after := #[{ on := 7, ground := Ground.data }], guard := none }) rfl (fun K hK => ?_) AllReadyH.nil
            go_simp
            refine hK.out _ _ ?_ (fun hHeld => ?_)
            · exact hHeld.trans (Ex.of_below ((Below.refl _ _).alloc (Nat.le_refl _) _))
            clear hK K
            try go_frame
            refine wpAnyH_ready (rs := [9]) (by kernel_rfl) (by simp) ?_
            refine AllReadyH.cons (o := { dst := some 24, op := Op.call { callee := Callee.builtin Builtin.append, args := #[Operand.tmp 16, Operand.tmp 23], argTypes := #[23, 23] }, type := 23, pos := "law.go:21", after := #[{ on := 1, ground := Ground.data }, { on := 8, ground := Ground.data }, { on := 7, ground := Ground.chain }], guard := none }) rfl (fun K hK => ?_) AllReadyH.nil
            refine step_append_at rfl (.tmp 16) (.tmp 23) 23 rfl w3.heap.size 25 i0 (.agg #[.int .i64 0, .string ⟨#[]⟩, .int .i64 0, .string ⟨#[]⟩, .int .i64 0, .int .i64 0, .int .i64 0, .slice none 0 0]) 8 96 Tryz.underlying23 (unhide HI0) (unhide HZ0) (unhide HZ1) (unhide HZ2) rfl (by decide) vo L.length (rowC L) rfl (((unhide HCP).own.same fun g hg => (unhide HB5).block g (unhide HGO g hg).2).same fun g hg => ((Below.refl w5.heap.size w5).alloc (Nat.le_refl _) _).block g (by have := (unhide HGO g hg).2; omega)) ⟨w5.heap.size, 0, none⟩ 1 1 (ncs (t.ks[k].f, v5)) rfl rfl (node_new w5 _ _) (node_one _ (unhide HK5).oneCell) (unhide HM1) (unhide HM2) (by rw [World.size_alloc]; omega) ?_
            intro v7 w7 ho7 hg7 hl7
            obtain ⟨g7, cap7, rfl⟩ := own_form ho7
            have HO7 := hide ho7
            have HG7 := hide hg7
            have HL7 := hide hl7
            have hb7 : w7.cell? ⟨w.heap.size + 1 + 1, 7, none⟩ = some vo := (World.cell?_of_block (hg7.block _ (by rw [World.size_alloc]; show w.heap.size + 1 + 1 < _; omega) fun e => unhide HNB e.symm)).trans (hb6 _)
            have hf7 : w7.frozen? ⟨w.heap.size + 1 + 1, 7, none⟩ = false := ((World.frozen?_of_block (hg7.block _ (by rw [World.size_alloc]; show w.heap.size + 1 + 1 < _; omega) fun e => unhide HNB e.symm)).trans (World.frozen?_of_block (((Below.refl w5.heap.size w5).alloc (Nat.le_refl _) _).block _ (by show w.heap.size + 1 + 1 < _; omega)))).trans ((World.frozen?_of_block ((unhide HB5).block _ hBr)).trans (hfro 7))
            clear ho7 hg7 hl7
            refine hK.out _ _ ?_ (fun hHeld => ?_)
            · exact hHeld.trans (Ex.of_grown (unhide HG7) fun i e => Or.inr e)
            clear hK K
            try go_frame
            refine wpAnyH_take (i := 10) (oi := { dst := some 25, op := Op.fieldAddr 25 (Operand.tmp 3) 7, type := 0, pos := "law.go:21", after := #[{ on := 0, ground := Ground.phase }, { on := 1, ground := Ground.phase }, { on := 2, ground := Ground.phase }, { on := 3, ground := Ground.phase }, { on := 4, ground := Ground.phase }, { on := 5, ground := Ground.phase }, { on := 6, ground := Ground.phase }, { on := 7, ground := Ground.phase }, { on := 8, ground := Ground.phase }, { on := 9, ground := Ground.phase }], guard := none }) (v := ?_) rfl (by kernel_rfl) (by kernel_rfl) (by kernel_rfl) (fun _ _ _ h => h) (Or.inl ⟨by rfl, ?_⟩) (by assumption) ?_
            rotate_left
            · intro wq hSw
              go_simp
              try (with_reducible rfl)
            go_frame
            refine wpAnyH_ready (rs := [11]) (by kernel_rfl) (by simp) ?_
            refine AllReadyH.cons (o := { dst := none, op := Op.store 23 (Operand.tmp 25) (Operand.tmp 24), type := 0, pos := "law.go:21", after := #[{ on := 10, ground := Ground.data }, { on := 9, ground := Ground.data }, { on := 9, ground := Ground.chain }, { on := 0, ground := Ground.phase }, { on := 1, ground := Ground.phase }, { on := 2, ground := Ground.phase }, { on := 3, ground := Ground.phase }, { on := 4, ground := Ground.phase }, { on := 5, ground := Ground.phase }, { on := 6, ground := Ground.phase }, { on := 7, ground := Ground.phase }, { on := 8, ground := Ground.phase }, { on := 9, ground := Ground.phase }], guard := none }) rfl (fun K hK => ?_) AllReadyH.nil
            go_simp
            refine hK.out _ _ ?_ (fun hHeld => ?_)
            · exact hHeld.trans (Ex.setCell _ _ _ _ (Or.inl rfl))
            clear hK K
            try go_frame
            refine wpAnyH_done (by kernel_rfl) ?_ _
            go_wp2
            go_roundw
            case rel => exact ⟨k + 1, _, _, by omega, by go_num, (unhide HCP).step (by omega) hkl (unhide HB5) (unhide HK5) (unhide HO7) (unhide HG7) (unhide HL7)⟩
            case measure => simp [intOf]; omega
          · go_simp
            refine hK.out _ _ ?_ (fun hHeld => ?_)
            · exact hHeld.trans (Ex.of_below ((Below.refl _ _).alloc (Nat.le_refl _) _))
            clear hK K
            try go_frame
            refine wpAnyH_ready (rs := [1]) (by kernel_rfl) (by simp) ?_
            refine AllReadyH.cons (o := { dst := some 16, op := Op.load 23 (Operand.tmp 15), type := 23, pos := "law.go:21", after := #[{ on := 0, ground := Ground.data }], guard := none }) rfl (fun K hK => ?_) AllReadyH.nil
            go_simp
            refine hK.out _ _ ?_ (fun hHeld => ?_)
            · exact hHeld
            clear hK K
            try go_frame
            refine wpAnyH_ready (rs := [9]) (by kernel_rfl) (by simp) ?_
            refine AllReadyH.cons (o := { dst := some 24, op := Op.call { callee := Callee.builtin Builtin.append, args := #[Operand.tmp 16, Operand.tmp 23], argTypes := #[23, 23] }, type := 23, pos := "law.go:21", after := #[{ on := 1, ground := Ground.data }, { on := 8, ground := Ground.data }, { on := 7, ground := Ground.chain }], guard := none }) rfl (fun K hK => ?_) AllReadyH.nil
            refine step_append_at rfl (.tmp 16) (.tmp 23) 23 rfl w3.heap.size 25 i0 (.agg #[.int .i64 0, .string ⟨#[]⟩, .int .i64 0, .string ⟨#[]⟩, .int .i64 0, .int .i64 0, .int .i64 0, .slice none 0 0]) 8 96 Tryz.underlying23 (unhide HI0) (unhide HZ0) (unhide HZ1) (unhide HZ2) rfl (by decide) vo L.length (rowC L) rfl (((unhide HCP).own.same fun g hg => (unhide HB5).block g (unhide HGO g hg).2).same fun g hg => ((Below.refl w5.heap.size w5).alloc (Nat.le_refl _) _).block g (by have := (unhide HGO g hg).2; omega)) ⟨w5.heap.size, 0, none⟩ 1 1 (ncs (t.ks[k].f, v5)) rfl rfl (node_new w5 _ _) (node_one _ (unhide HK5).oneCell) (unhide HM1) (unhide HM2) (by rw [World.size_alloc]; omega) ?_
            intro v7 w7 ho7 hg7 hl7
            obtain ⟨g7, cap7, rfl⟩ := own_form ho7
            have HO7 := hide ho7
            have HG7 := hide hg7
            have HL7 := hide hl7
            have hb7 : w7.cell? ⟨w.heap.size + 1 + 1, 7, none⟩ = some vo := (World.cell?_of_block (hg7.block _ (by rw [World.size_alloc]; show w.heap.size + 1 + 1 < _; omega) fun e => unhide HNB e.symm)).trans (hb6 _)
            have hf7 : w7.frozen? ⟨w.heap.size + 1 + 1, 7, none⟩ = false := ((World.frozen?_of_block (hg7.block _ (by rw [World.size_alloc]; show w.heap.size + 1 + 1 < _; omega) fun e => unhide HNB e.symm)).trans (World.frozen?_of_block (((Below.refl w5.heap.size w5).alloc (Nat.le_refl _) _).block _ (by show w.heap.size + 1 + 1 < _; omega)))).trans ((World.frozen?_of_block ((unhide HB5).block _ hBr)).trans (hfro 7))
            clear ho7 hg7 hl7
            refine hK.out _ _ ?_ (fun hHeld => ?_)
            · exact hHeld.trans (Ex.of_grown (unhide HG7) fun i e => Or.inr e)
            clear hK K
            try go_frame
            refine wpAnyH_take (i := 10) (oi := { dst := some 25, op := Op.fieldAddr 25 (Operand.tmp 3) 7, type := 0, pos := "law.go:21", after := #[{ on := 0, ground := Ground.phase }, { on := 1, ground := Ground.phase }, { on := 2, ground := Ground.phase }, { on := 3, ground := Ground.phase }, { on := 4, ground := Ground.phase }, { on := 5, ground := Ground.phase }, { on := 6, ground := Ground.phase }, { on := 7, ground := Ground.phase }, { on := 8, ground := Ground.phase }, { on := 9, ground := Ground.phase }], guard := none }) (v := ?_) rfl (by kernel_rfl) (by kernel_rfl) (by kernel_rfl) (fun _ _ _ h => h) (Or.inl ⟨by rfl, ?_⟩) (by assumption) ?_
            rotate_left
            · intro wq hSw
              go_simp
              try (with_reducible rfl)
            go_frame
            refine wpAnyH_ready (rs := [11]) (by kernel_rfl) (by simp) ?_
            refine AllReadyH.cons (o := { dst := none, op := Op.store 23 (Operand.tmp 25) (Operand.tmp 24), type := 0, pos := "law.go:21", after := #[{ on := 10, ground := Ground.data }, { on := 9, ground := Ground.data }, { on := 9, ground := Ground.chain }, { on := 0, ground := Ground.phase }, { on := 1, ground := Ground.phase }, { on := 2, ground := Ground.phase }, { on := 3, ground := Ground.phase }, { on := 4, ground := Ground.phase }, { on := 5, ground := Ground.phase }, { on := 6, ground := Ground.phase }, { on := 7, ground := Ground.phase }, { on := 8, ground := Ground.phase }, { on := 9, ground := Ground.phase }], guard := none }) rfl (fun K hK => ?_) AllReadyH.nil
            go_simp
            refine hK.out _ _ ?_ (fun hHeld => ?_)
            · exact hHeld.trans (Ex.setCell _ _ _ _ (Or.inl rfl))
            clear hK K
            try go_frame
            refine wpAnyH_done (by kernel_rfl) ?_ _
            go_wp2
            go_roundw
            case rel => exact ⟨k + 1, _, _, by omega, by go_num, (unhide HCP).step (by omega) hkl (unhide HB5) (unhide HK5) (unhide HO7) (unhide HG7) (unhide HL7)⟩
            case measure => simp [intOf]; omega
      · obtain rfl : k = t.ks.length := by omega
        have hLk : L.length = t.ks.length := (unhide HCP).len
        obtain ⟨ao, co, hvo, _⟩ := (unhide HCP).own.form
        have HM1 := hide (show L.length + 1 ≤ maxLen by unfold maxLen; omega)
        have HM2 := hide (show (L.length + 1) * 96 ≤ 140737488355328 by omega)
        rw [hLk] at hvo
        have HVO := hide hvo
        have HLk := hide hLk
        clear hLk
        subst hvo
        have x7 := (unhide HX1).cell.2.2.2.2.2.2.2
        have hb6 : ∀ o, (wr.alloc o).cell? ⟨w.heap.size + 1 + 1, 7, none⟩ = some (.slice ao t.ks.length co) := fun o => (World.cell?_alloc_lt _ _ _ (by show w.heap.size + 1 + 1 < _; omega)).trans hbxo
        go_wp2_with (first | (at_builtin; refine wpList_append_own_at _ rfl _ _ 23 rfl w3.heap.size 25 i0 (.agg #[.int .i64 0, .string ⟨#[]⟩, .int .i64 0, .string ⟨#[]⟩, .int .i64 0, .int .i64 0, .int .i64 0, .slice none 0 0]) 8 96 Tryz.underlying23 (unhide HI0) (unhide HZ0) (unhide HZ1) (unhide HZ2) rfl (by decide) (.slice ao t.ks.length co) L.length (rowC L) rfl ((unhide HCP).own.same fun g hg => ((Below.refl wr.heap.size wr).alloc (Nat.le_refl _) _).block g (unhide HGO g hg).2) ⟨wr.heap.size, 0, none⟩ 1 1 (ncs (mkNd, .slice none 0 0)) rfl rfl (node_new wr mkNd _) (node_one _ rfl) (unhide HM1) (unhide HM2) (by rw [World.size_alloc]; omega) ?_; intro v7 w7 ho7 hg7 hnl7 hl7; obtain ⟨g, c, rfl, hc, hkd⟩ := (unhide HCP).mark hll ho7 hg7; have HKD := hide hkd; have HG7 := hide hg7; have HXo := hide (((unhide HCP).box.below ((Below.refl wr.heap.size wr).alloc (Nat.le_refl _) _) hBr).ex (X := fun i => Value.ownBlock (.slice ao t.ks.length co) = some i) (Ex.of_grown hg7 fun i e => e) (unhide HNB)); have HXr := hide (((unhide HX2).below ((Below.refl wr.heap.size wr).alloc (Nat.le_refl _) _) (by omega)).ex (X := fun i => Value.ownBlock (.slice ao t.ks.length co) = some i) (Ex.of_grown hg7 fun i e => e) (fun e => by have := (unhide HGO _ e).1; omega)); obtain ⟨o0, o1, o2, o3, o4, o5, o6, o7⟩ := (unhide HXo).cell; obtain ⟨r0, r1, r2, r3, r4, r5, r6, r7⟩ := (unhide HXr).cell; have fo := (unhide HXo).froz; have fr := (unhide HXr).froz; have j0 : (0 : Int) ≤ (t.ks.length : Int) := Int.natCast_nonneg _; have j1 : (t.ks.length : Int) ≤ (c : Int) := Int.ofNat_le.2 (Nat.le_of_succ_le hc); clear ho7 hg7 hnl7 hl7 hkd hb6 hbxo) | go_in)
        have hs7 := (unhide HG7).size
        rw [World.size_alloc] at hs7
        have HW3 := hide (show Ex (fun i => w.heap.size ≤ i) w3 w7 from ((unhide HCP).ex.mono fun i _ e => by omega).trans ((Ex.of_below ((Below.refl wr.heap.size wr).alloc (Nat.le_refl _) _)).trans (Ex.of_grown (unhide HG7) fun i e => by have := (unhide HGO i e).1; omega)))
        clear hs7
        refine bodyPost_ret (v := nv t.f (.slice (some ⟨g, 0, none⟩) t.ks.length c)) (by simp [results, Tryz.results9, go_sem, r0, r1, r2, r3, r4, r5, r6, r7]) rfl ⟨_, rfl, ?_, ?_⟩
        · exact ((unhide HW3).set9 (by omega) (by omega)).below (unhide HBw) (fun i hi => by omega) (by omega)
        · have hx := (Ex.refl (fun i => i = w.heap.size + 1 ∨ i = w.heap.size + 1 + 1) w7).set9 (B := w.heap.size + 1) (f := t.f) (u := .slice (some ⟨g, 0, none⟩) t.ks.length c) (Or.inl rfl) (Or.inr rfl)
          have hz := hx.size
          exact ((unhide HKD).agree (hx.agree fun i hi => ⟨hi.2, fun h => by rcases h with rfl | rfl <;> omega⟩)).mono fun i hi => ⟨by omega, Nat.lt_of_lt_of_le hi.2 hz⟩

end Go.Proofs.YtnclmlhmmljfgaaGreatDoor
