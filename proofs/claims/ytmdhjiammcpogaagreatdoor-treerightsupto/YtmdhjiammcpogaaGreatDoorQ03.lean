import Derived.Maps.AppendAt
import Derived.OwnWalk
import Derived.Test.YtmdhjiammcpogaaGreatDoorQ02
namespace Go.Proofs.YtmdhjiammcpogaaGreatDoor
set_option maxRecDepth 100000
set_option maxHeartbeats 16000000
section
open Go.RowKit
theorem MapIs.new {κ : Type} (key : κ -> Value) (w : World) : MapIs key (w.alloc (.map #[] 0)) w.heap.size [] := ⟨#[], 0, (MapKept.heap_alloc w _).1, rfl⟩
end
section
open Go.RowKit
variable {n : Nat} {t : Tr}
theorem cnts_lt {k : Nat} (h : cnt t <= n + 1) (hk : k < t.ks.length) : cnt t.ks[k] <= n := by
 have := cnts_mem (List.getElem_mem hk)
 obtain ⟨f, ks⟩ := t
 unfold cnt at h
 simp only [Tr.ks] at this |-
 omega
end
section
open Go.RowKit
theorem alike_all (n : Nat) (hn : n <= 65536) : ∀ (t : Tr) (w : World) (u v : Value) (ms mt : Md) (S : Nat -> Prop) (mk : Bool), cnt t <= n -> cnt t <= 65536 -> (mk = true -> ms.mark = true) -> Kids w ms S u t.ks -> Kids w mt S v t.ks -> (∀ i, S i -> i < w.heap.size) ->
 Calls Tryz.prog 11 #[nv t.f u, nv t.f v, .bool mk] w fun e w' => e = .returned (.bool true) /\ Below w.heap.size w w' := by
 induction n with
 | zero => intro t w u v ms mt S mk h; have := cnt_pos t; omega
 | succ n ih =>
  intro t w u v ms mt S mk hc hc2 hmk hu hv hS
  obtain ⟨B, cb, bb, ob, rfl, hlb, hB, hrb⟩ := hv.form
  have hll : t.ks.length <= 65536 := by
   have h1 := len_le_cnts t.ks
   obtain ⟨f, ks⟩ := t
   unfold cnt at hc2
   simp only [Tr.ks] at h1 |-
   omega
  have HIH := zz (ih (by omega))
  have HB := zz hB
  have HC := zz hc
  clear hv hB hc hc2 ih
  unfold nv
  cases mk
  ·obtain ⟨A, ca, ba, oa, rfl, hla, hA, hra⟩ := hu.form
   have HA := zz hA
   clear hA hu hmk
   go_enter Tryz.func11, Tryz.ntmps11
   go_wp2
   obtain ⟨w1, hw1, HB1, HX1, hs1⟩ := jb w t.f (.slice A t.ks.length ca)
   rw [hw1]
   clear hw1
   obtain ⟨w2, hw2, HB2', HX2, hs2⟩ := jb w1 t.f (.slice B t.ks.length cb)
   rw [hw2]
   clear hw2
   rw [hs1] at HX2
   have HX1 := zz (HX1.out.below HB2'.out (by omega))
   have HBw := zz (HB1.out.trans (HB2'.out.mono (by omega)))
   clear HB1 HB2'
   go_loopw [8] (fun i wr => ∃ k : Nat, k <= t.ks.length /\ i = .int .i64 k /\ Below w2.heap.size w2 wr) (fun i _ => t.ks.length - (intOf i).toNat)
   case atStart => exact ⟨0, Nat.zero_le _, rfl, Below.refl _ _⟩
   case round =>
    obtain ⟨k, hk, rfl, hbw⟩ := hrel
    have hsz := hbw.size
    have HX1 := zz (HX1.out.below hbw (by omega))
    have HX2 := zz (HX2.out.below hbw (by omega))
    have HBW := zz (HBw.out.trans (hbw.mono (by omega)))
    have HBR := zz hbw
    clear hbw
    by_cases hkl : k < t.ks.length
    ·obtain ⟨rfl, hba, _⟩ := HA.out (by omega)
     obtain ⟨rfl, hbb, _⟩ := HB.out (by omega)
     have hbaw : ba < wr.heap.size := by have := hS ba hba; omega
     have hbbw : bb < wr.heap.size := by have := hS bb hbb; omega
     have hSw0 : ∀ i, S i -> i < wr.heap.size := fun i hi => by have := hS i hi; omega
     obtain ⟨va', HCa, HKa⟩ := ((hra.agree (Agree.of_below HBW.out hS) hba).get k hkl).cs
     obtain ⟨vb', HCb, HKb⟩ := ((hrb.agree (Agree.of_below HBW.out hS) hbb).get k hkl).cs
     have HCN := zz (cnts_lt HC.out hkl)
     have i0 : (0 : Int) <= (k : Int) := by omega
     have i1 : (k : Int) < (t.ks.length : Int) := by omega
     have hle : wr.heap.size ≥ w.heap.size + 2 := by omega
     go_wp2
     refine wp_region_held_drew (S := Below wr.heap.size wr) (by kernel_rfl) ?_ (fun zk => ?_)
     ·exact zd _
     apply tk 0 o0_ rfl (by kernel_rfl) (fun _ _ _ h => h) zk
     ·intro wq zq
      go_simp
      try rfl
     go_frame
     apply tk 1 o1_ rfl (by kernel_rfl) (fun _ _ _ h => h) zk
     ·intro wq zq
      have x0 := (HX1.out.below zq (by omega)).cell
      go_simp
      try rfl
     go_frame
     apply tk 2 o2_ rfl (by kernel_rfl) (fun _ _ _ h => h) zk
     ·intro wq zq
      go_simp
      try rfl
     go_frame
     apply tk 3 o3_ rfl (by kernel_rfl) (fun _ _ _ h => h) zk
     ·intro wq zq
      go_simp
      try rfl
     go_frame
     apply tk 4 o4_ rfl (by kernel_rfl) (fun _ _ _ h => h) zk
     ·intro wq zq
      have y0 := (HCa.out.below zq hbaw).cell
      go_simp
      try rfl
     go_frame
     apply tk 5 o5_ rfl (by kernel_rfl) (fun _ _ _ h => h) zk
     ·intro wq zq
      go_simp
      try rfl
     go_frame
     apply tk 6 o6_ rfl (by kernel_rfl) (fun _ _ _ h => h) zk
     ·intro wq zq
      have z0 := (HX2.out.below zq (by omega)).cell
      go_simp
      try rfl
     go_frame
     apply tk 7 o7_ rfl (by kernel_rfl) (fun _ _ _ h => h) zk
     ·intro wq zq
      go_simp
      try rfl
     go_frame
     apply tk 8 o8_ rfl (by kernel_rfl) (fun _ _ _ h => h) zk
     ·intro wq zq
      go_simp
      try rfl
     go_frame
     apply tk 9 o9_ rfl (by kernel_rfl) (fun _ _ _ h => h) zk
     ·intro wq zq
      have y0 := (HCb.out.below zq hbbw).cell
      go_simp
      try rfl
     go_frame
     apply tk 10 o10_ rfl (by kernel_rfl) (fun _ _ _ h => h) zk
     ·intro wq zq
      go_simp
      try rfl
     go_frame
     refine rd 11 o11_ rfl (by kernel_rfl) fun K hK => ?_
     go_simp
     refine (HIH.out t.ks[k] _ va' vb' ms mt S false HCN.out (by have := HCN.out; omega) (fun h => by cases h) (HKa.out.below zk hSw0) (HKb.out.below zk hSw0) (fun i hi => by have := hSw0 i hi; have := zk.size; omega)).mono ?_
     rintro e w5 ⟨rfl, b5⟩
     have HB5 := zz (below_undrew b5)
     clear b5
     go_wp2_with fail
     refine hK.out _ _ ?_ (fun zk => ?_)
     ·exact HB5.out
     clear hK K
     try go_frame
     apply tk 12 o12_ rfl (by kernel_rfl) (fun _ _ _ h => h) zk
     ·intro wq zq
      go_simp
      try rfl
     go_frame
     refine wpAnyH_done (by kernel_rfl) ?_ _
     go_wp2
     go_roundw
     case rel => exact ⟨k + 1, by omega, by go_num, HBR.out.trans (zk.mono (by omega))⟩
     case measure => simp [intOf]; omega
    ·go_wp2
     go_ret
     exact ⟨rfl, HBW.out⟩
  ·have hmk := hmk rfl
   obtain ⟨ca, ba, oa, rfl, hca, hla, hba, hcell, hra⟩ := hu.marked hmk
   have hbs := hS ba hba
   have HA := zz hba
   clear hu
   unfold bhd at hcell
   have hcell2 : ∀ o o', ((w.alloc o).alloc o').cell? ⟨ba, oa + t.ks.length * 8 + 1, none⟩ = some (.string ⟨#[98, 101, 104, 105, 110, 100]⟩) := fun o o' => by
    rw [World.cell?_alloc_lt _ _ _ (by rw [World.size_alloc]; show ba < _; omega), World.cell?_alloc_lt _ _ _ (by show ba < _; omega)]
    exact hcell
   have HMK := zz hmk
   clear hcell hmk
   have j0 : (0 : Int) <= (t.ks.length : Int) := by omega
   have j1 : (t.ks.length : Int) + 1 <= (ca : Int) := by omega
   go_enter Tryz.func11, Tryz.ntmps11
   go_wp2
   obtain ⟨w1, hw1, HB1, HX1, hs1⟩ := jb w t.f (.slice (some ⟨ba, oa, none⟩) t.ks.length ca)
   rw [hw1]
   clear hw1
   obtain ⟨w2, hw2, HB2', HX2, hs2⟩ := jb w1 t.f (.slice B t.ks.length cb)
   rw [hw2]
   clear hw2
   rw [hs1] at HX2
   have HX1 := zz (HX1.out.below HB2'.out (by omega))
   have HBw := zz (HB1.out.trans (HB2'.out.mono (by omega)))
   clear HB1 HB2'
   go_loopw [8] (fun i wr => ∃ k : Nat, k <= t.ks.length /\ i = .int .i64 k /\ Below w2.heap.size w2 wr) (fun i _ => t.ks.length - (intOf i).toNat)
   case atStart => exact ⟨0, Nat.zero_le _, rfl, Below.refl _ _⟩
   case round =>
    obtain ⟨k, hk, rfl, hbw⟩ := hrel
    have hsz := hbw.size
    have HX1 := zz (HX1.out.below hbw (by omega))
    have HX2 := zz (HX2.out.below hbw (by omega))
    have HBW := zz (HBw.out.trans (hbw.mono (by omega)))
    have HBR := zz hbw
    clear hbw
    by_cases hkl : k < t.ks.length
    ·obtain ⟨rfl, hbb, _⟩ := HB.out (by omega)
     have hbaw : ba < wr.heap.size := by have := hS ba hba; omega
     have hbbw : bb < wr.heap.size := by have := hS bb hbb; omega
     have hSw0 : ∀ i, S i -> i < wr.heap.size := fun i hi => by have := hS i hi; omega
     obtain ⟨va', HCa, HKa⟩ := ((hra.agree (Agree.of_below HBW.out hS) hba).get k hkl).cs
     obtain ⟨vb', HCb, HKb⟩ := ((hrb.agree (Agree.of_below HBW.out hS) hbb).get k hkl).cs
     have HCN := zz (cnts_lt HC.out hkl)
     have i0 : (0 : Int) <= (k : Int) := by omega
     have i1 : (k : Int) < (t.ks.length : Int) := by omega
     have hle : wr.heap.size ≥ w.heap.size + 2 := by omega
     go_wp2
     refine wp_region_held_drew (S := Below wr.heap.size wr) (by kernel_rfl) ?_ (fun zk => ?_)
     ·exact zd _
     apply tk 0 o0_ rfl (by kernel_rfl) (fun _ _ _ h => h) zk
     ·intro wq zq
      go_simp
      try rfl
     go_frame
     apply tk 1 o1_ rfl (by kernel_rfl) (fun _ _ _ h => h) zk
     ·intro wq zq
      have x0 := (HX1.out.below zq (by omega)).cell
      go_simp
      try rfl
     go_frame
     apply tk 2 o2_ rfl (by kernel_rfl) (fun _ _ _ h => h) zk
     ·intro wq zq
      go_simp
      try rfl
     go_frame
     apply tk 3 o3_ rfl (by kernel_rfl) (fun _ _ _ h => h) zk
     ·intro wq zq
      go_simp
      try rfl
     go_frame
     apply tk 4 o4_ rfl (by kernel_rfl) (fun _ _ _ h => h) zk
     ·intro wq zq
      have y0 := (HCa.out.below zq hbaw).cell
      go_simp
      try rfl
     go_frame
     apply tk 5 o5_ rfl (by kernel_rfl) (fun _ _ _ h => h) zk
     ·intro wq zq
      go_simp
      try rfl
     go_frame
     apply tk 6 o6_ rfl (by kernel_rfl) (fun _ _ _ h => h) zk
     ·intro wq zq
      have z0 := (HX2.out.below zq (by omega)).cell
      go_simp
      try rfl
     go_frame
     apply tk 7 o7_ rfl (by kernel_rfl) (fun _ _ _ h => h) zk
     ·intro wq zq
      go_simp
      try rfl
     go_frame
     apply tk 8 o8_ rfl (by kernel_rfl) (fun _ _ _ h => h) zk
     ·intro wq zq
      go_simp
      try rfl
     go_frame
     apply tk 9 o9_ rfl (by kernel_rfl) (fun _ _ _ h => h) zk
     ·intro wq zq
      have y0 := (HCb.out.below zq hbbw).cell
      go_simp
      try rfl
     go_frame
     apply tk 10 o10_ rfl (by kernel_rfl) (fun _ _ _ h => h) zk
     ·intro wq zq
      go_simp
      try rfl
     go_frame
     refine rd 11 o11_ rfl (by kernel_rfl) fun K hK => ?_
     go_simp
     refine (HIH.out t.ks[k] _ va' vb' ms mt S true HCN.out (by have := HCN.out; omega) (fun _ => HMK.out) (HKa.out.below zk hSw0) (HKb.out.below zk hSw0) (fun i hi => by have := hSw0 i hi; have := zk.size; omega)).mono ?_
     rintro e w5 ⟨rfl, b5⟩
     have HB5 := zz (below_undrew b5)
     clear b5
     go_wp2_with fail
     refine hK.out _ _ ?_ (fun zk => ?_)
     ·exact HB5.out
     clear hK K
     try go_frame
     apply tk 12 o12_ rfl (by kernel_rfl) (fun _ _ _ h => h) zk
     ·intro wq zq
      go_simp
      try rfl
     go_frame
     refine wpAnyH_done (by kernel_rfl) ?_ _
     go_wp2
     go_roundw
     case rel => exact ⟨k + 1, by omega, by go_num, HBR.out.trans (zk.mono (by omega))⟩
     case measure => simp [intOf]; omega
    ·go_wp2
     go_ret
     exact ⟨rfl, HBW.out⟩
end
section
open Go.RowKit
variable {B : Nat} {S : Nat -> Prop} {m : Md} {ts : List Tr} {u v : Value} {w w' : World}
def ncs (p : Nd × Value) : List Value := [.int .i64 p.1.k, .string p.1.t, .int .i64 p.1.n, .string p.1.y, .int .i64 p.1.s, .int .i64 p.1.a, .int .i64 p.1.l, p.2]
def rowC (L : List (Nd × Value)) : List Value := L.flatMap ncs
theorem rowC_len : ∀ (L : List (Nd × Value)), (rowC L).length = L.length * 8
 | [] => rfl
 | p :: r => by
  have := rowC_len r
  unfold rowC at this |-
  simp only [List.flatMap_cons, List.length_append, List.length_cons, this]
  simp [ncs]
  omega
theorem rowC_snoc (L : List (Nd × Value)) (p : Nd × Value) : rowC (L ++ [p]) = rowC L ++ ncs p := by simp [rowC]
theorem rowC_get : ∀ (L : List (Nd × Value)) (i : Nat) (h : i < L.length) (j : Nat), j < 8 -> (rowC L)[i * 8 + j]? = (ncs L[i])[j]?
 | p :: r, 0, _, j, hj => by
  unfold rowC
  simp only [List.flatMap_cons, Nat.zero_mul, Nat.zero_add, List.getElem_cons_zero]
  rw [List.getElem?_append_left (by simp [ncs]; omega)]
 | p :: r, i + 1, h, j, hj => by
  have := rowC_get r i (by simpa using h) j hj
  unfold rowC at this |-
  simp only [List.flatMap_cons, List.getElem_cons_succ]
  rw [List.getElem?_append_right (by simp [ncs]; omega), show (i + 1) * 8 + j - (ncs p).length = i * 8 + j by simp [ncs]; omega]
  exact this
theorem row_of_cells {g : Nat} {L : List (Nd × Value)} (hc : ∀ j u, (rowC L)[j]? = some u -> w.cell? ⟨g, j, none⟩ = some u) (hl : L.length = ts.length) (hk : ∀ i (h : i < ts.length) (h' : i < L.length), L[i].1 = ts[i].f /\ Kids w m S L[i].2 ts[i].ks) : RowAt w m S g 0 ts := by
 refine RowAt.mk fun i hi => ?_
 have hi' : i < L.length := by omega
 obtain ⟨h1, h2⟩ := hk i hi hi'
 have at8 : ∀ j u, j < 8 -> (ncs L[i])[j]? = some u -> w.cell? ⟨g, 0 + i * 8 + j, none⟩ = some u := fun j u hj hu => by
  rw [show 0 + i * 8 + j = i * 8 + j by omega]
  exact hc _ _ ((rowC_get L i hi' j hj).trans hu)
 exact NodeAt.shut (v := L[i].2) (at8 0 _ (by omega) (by simp [ncs, h1])) (at8 1 _ (by omega) (by simp [ncs, h1])) (at8 2 _ (by omega) (by simp [ncs, h1])) (at8 3 _ (by omega) (by simp [ncs, h1])) (at8 4 _ (by omega) (by simp [ncs, h1])) (at8 5 _ (by omega) (by simp [ncs, h1])) (at8 6 _ (by omega) (by simp [ncs, h1])) (at8 7 _ (by omega) (by simp [ncs])) h2
def OwnN (w : World) (B : Nat) (v : Value) (L : List (Nd × Value)) : Prop := w.ownsRow B 25 8 v L.length (rowC L)
theorem OwnN.nil (w : World) (B : Nat) : OwnN w B (.slice none 0 0) [] := World.ownsRow_nil _ _ _ _
theorem OwnN.same {L : List (Nd × Value)} (h : OwnN w B v L) (hs : ∀ g, v.ownBlock = some g -> w'.heap[g]? = w.heap[g]?) : OwnN w' B v L := by
 obtain ⟨h1, h2⟩ := h
 refine ⟨h1, ?_⟩
 rcases h2 with h2 | ⟨g, cap, cur, rfl, hB, hg, hr⟩
 ·exact Or.inl h2
 ·exact Or.inr ⟨g, cap, cur, rfl, hB, (hs g rfl).trans hg, hr⟩
theorem OwnN.blk {L : List (Nd × Value)} (h : OwnN w B v L) : ∀ g, v.ownBlock = some g -> B <= g /\ g < w.heap.size := by
 intro g hg
 rcases h.2 with ⟨rfl, _⟩ | ⟨g', cap, cur, rfl, hB, hg', hr⟩
 ·cases hg
 ·cases hg
  exact ⟨hB, (Array.getElem?_eq_some_iff.1 hg').1⟩
theorem OwnN.form {L : List (Nd × Value)} (h : OwnN w B v L) : ∃ a c, v = .slice a L.length c /\ ∀ g, v.ownBlock = some g -> a = some ⟨g, 0, none⟩ := by
 rcases h.2 with ⟨rfl, h0⟩ | ⟨g, cap, cur, rfl, hB, hg', hr⟩
 ·exact ⟨none, 0, by rw [h0], fun g hg => by cases hg⟩
 ·exact ⟨_, _, rfl, fun g hg => by cases hg; rfl⟩
theorem OwnN.kids {L : List (Nd × Value)} {mk : Bool} (h : OwnN w B v L) (hl : L.length = ts.length) (hS : ∀ g, v.ownBlock = some g -> S g) (hn : ts.length <= 65536) (hk : ∀ i (h : i < ts.length) (h' : i < L.length), L[i].1 = ts[i].f /\ Kids w ⟨true, false⟩ S L[i].2 ts[i].ks) (hm : mk = false) : Kids w ⟨true, mk⟩ S v ts := by
 subst hm
 have hc := fun g => World.ownsRow.cells (g := g) h
 rcases h.2 with ⟨rfl, h0⟩ | ⟨g, cap, cur, rfl, hB, hg, hr⟩
 ·have : ts = [] := List.eq_nil_of_length_eq_zero (by omega)
  subst this
  exact Kids.nil _ rfl _ _ _
 ·have hrow : RowAt w ⟨true, false⟩ S g 0 ts := row_of_cells (fun j u hu => by
   have := hc g rfl j u hu
   rwa [show (⟨g, 0, none⟩ : Addr).add j = ⟨g, j, none⟩ by unfold Addr.add; split <;> simp_all] at this) hl hk
  rw [hl]
  refine ⟨g, 0, ⟨?_, fun e => by cases e⟩, hrow⟩
  by_cases h0 : ts.length = 0
  ·exact Or.inl ⟨h0, _, _, by rw [h0]⟩
  ·exact Or.inr ⟨by omega, hS g rfl, fun _ => ⟨cur, _, hg⟩, cap, ⟨by omega, by have := hr.1; omega⟩, rfl⟩
def mkNd : Nd := ⟨0, bhd, 0, ⟨#[]⟩, 0, 0, 0⟩
theorem OwnN.marked {L : List (Nd × Value)} (h : OwnN w B v (L ++ [(mkNd, .slice none 0 0)])) (hl : L.length = ts.length) (hS : ∀ g, v.ownBlock = some g -> S g) (hn : ts.length <= 65536) (hk : ∀ i (h : i < ts.length) (h' : i < L.length), L[i].1 = ts[i].f /\ Kids w ⟨true, true⟩ S L[i].2 ts[i].ks) : ∃ g c, v = .slice (some ⟨g, 0, none⟩) (ts.length + 1) c /\ ts.length + 1 <= c /\ Kids w ⟨true, true⟩ S (.slice (some ⟨g, 0, none⟩) ts.length c) ts := by
 have hc := fun g => World.ownsRow.cells (g := g) h
 rcases h.2 with ⟨rfl, h0⟩ | ⟨g, cap, cur, rfl, hB, hg, hle, hr⟩
 ·simp at h0
 ·have hc' : ∀ j u, (rowC L ++ ncs (mkNd, .slice none 0 0))[j]? = some u -> w.cell? ⟨g, j, none⟩ = some u := fun j u hu => by
   have := hc g rfl j u (by rw [rowC_snoc]; exact hu)
   rwa [show (⟨g, 0, none⟩ : Addr).add j = ⟨g, j, none⟩ by unfold Addr.add; split <;> simp_all] at this
  have hrow : RowAt w ⟨true, true⟩ S g 0 ts := row_of_cells (fun j u hu => hc' j u (by
   rw [List.getElem?_append_left (List.getElem?_eq_some_iff.1 hu).1]
   exact hu)) hl hk
  have hmark : w.cell? ⟨g, 0 + ts.length * 8 + 1, none⟩ = some (.string bhd) := hc' _ _ (by
   rw [List.getElem?_append_right (by rw [rowC_len]; omega), rowC_len, hl, show 0 + ts.length * 8 + 1 - ts.length * 8 = 1 by omega]
   rfl)
  have hlen : (L ++ [(mkNd, Value.slice none 0 0)]).length = ts.length + 1 := by simp [hl]
  rw [hlen] at hle
  refine ⟨g, cap, by rw [hlen], hle, g, 0, ⟨?_, fun _ => ⟨cap, rfl, hle, hS g rfl, hmark⟩⟩, hrow⟩
  by_cases h0 : ts.length = 0
  ·exact Or.inl ⟨h0, _, _, by rw [h0]⟩
  ·exact Or.inr ⟨by omega, hS g rfl, fun _ => ⟨cur, _, hg⟩, cap, ⟨by omega, by omega⟩, rfl⟩
theorem Tryz.infoN : (Tryz.prog.info? 25).map (fun i => (i.zero, i.size, i.bytes)) = some (some (.agg #[.int .i64 0, .string ⟨#[]⟩, .int .i64 0, .string ⟨#[]⟩, .int .i64 0, .int .i64 0, .int .i64 0, .slice none 0 0]), 8, 96) := by kernel_rfl
theorem node_new (w : World) (f : Nd) (u : Value) : ∀ (j : Nat) (x : Value), (ncs (f, u))[j]? = some x -> (w.alloc (.cells #[.int .i64 f.k, .string f.t, .int .i64 f.n, .string f.y, .int .i64 f.s, .int .i64 f.a, .int .i64 f.l, u] 25)).cell? ((⟨w.heap.size, 0, none⟩ : Addr).add j) = some x := by
 intro j x hj
 have hj8 : j < 8 := by
  have := (List.getElem?_eq_some_iff.1 hj).1
  simpa [ncs] using this
 match j, hj8, hj with
 | 0, _, hj => simp [ncs] at hj; subst hj; simp [Addr.add]
 | 1, _, hj => simp [ncs] at hj; subst hj; simp [Addr.add]
 | 2, _, hj => simp [ncs] at hj; subst hj; simp [Addr.add]
 | 3, _, hj => simp [ncs] at hj; subst hj; simp [Addr.add]
 | 4, _, hj => simp [ncs] at hj; subst hj; simp [Addr.add]
 | 5, _, hj => simp [ncs] at hj; subst hj; simp [Addr.add]
 | 6, _, hj => simp [ncs] at hj; subst hj; simp [Addr.add]
 | 7, _, hj => simp [ncs] at hj; subst hj; simp [Addr.add]
theorem node_one (f : Nd) (hu : u.oneCell' = true) : ∀ x ∈ ncs (f, u), x.oneCell' = true := by
 intro x hx
 simp only [ncs, List.mem_cons, List.not_mem_nil, or_false] at hx
 rcases hx with rfl | rfl | rfl | rfl | rfl | rfl | rfl | rfl <;> first | rfl | exact hu
theorem step_append_at {P : Program} {ops : Array Oper} {o : Oper} {a : Act} {K : Act -> World -> Prop} {Q : Exit -> Act -> World -> Prop} {E : Prop} (hg : o.guard = none) (s x : Operand) (t : TypeId) (hop : o.op = Op.call { callee := Callee.builtin Builtin.append, args := #[s, x], argTypes := #[t, t] }) (B : Nat) (e : TypeId) (i : TypeInfo) (z : Value) (size bytes : Nat) (h1 : P.underlying t = some (.slice e)) (h2 : P.info? e = some i) (h3 : i.zero = some z) (h4 : i.size = size) (h5 : i.bytes = bytes) (h6 : z.cells.size = size) (h7 : 0 < size) (v : Value) (n : Nat) (xs : List Value) (hs : a.eval s = v) (hown : w.ownsRow B e size v n xs) (ad : Addr) (m c : Nat) (news : List Value) (hx : a.eval x = .slice (some ad) m c) (hn : news.length = m * size) (hc : ∀ j u, news[j]? = some u -> w.cell? (ad.add j) = some u) (h1c : ∀ u ∈ news, u.oneCell' = true) (b1 : n + m <= maxLen) (b2 : (n + m) * bytes <= 140737488355328) (hB : B <= w.heap.size) (hK : ∀ v' w', w'.ownsRow B e size v' (n + m) (xs ++ news) -> w.grownBy w' v.ownBlock -> (v'.ownBlock = v.ownBlock ∨ v'.ownBlock = some w.heap.size) -> K (a.put o.dst v') w') :
 if Region.wanted o (yielded ops a.tmps) = true then Oper.wp P o a w K Q else E := by
 have hw : Region.wanted o (yielded ops a.tmps) = true := by simp [Region.wanted, hg]
 rw [if_pos hw]
 obtain ⟨v', w', hrun, r1, r2, _, r3⟩ := run_append_own_at (P := P) w B t o.type e i z size bytes h1 h2 h3 h4 h5 h6 h7 v n xs hown ad m c news hn hc h1c b1 b2 hB
 unfold Oper.wp
 simp [execOp, hop, resolve, invoke, builtin, hs, hx, hrun, Result.andThen]
 exact hK v' w' r1 r2 r3
structure Ex (X : Nat -> Prop) (w w' : World) : Prop where
 os : w'.os = w.os
 tape : w'.tape = w.tape
 output : w'.output = w.output
 size : w.heap.size <= w'.heap.size
 block : ∀ i, i < w.heap.size -> ¬ X i -> w'.heap[i]? = w.heap[i]?
theorem Ex.refl (X : Nat -> Prop) (w : World) : Ex X w w := ⟨rfl, rfl, rfl, Nat.le_refl _, fun _ _ _ => rfl⟩
theorem Ex.drew (X : Nat -> Prop) (w : World) : Ex X w w.drew := ⟨rfl, rfl, rfl, Nat.le_refl _, fun _ _ _ => rfl⟩
theorem Ex.trans {X : Nat -> Prop} {a b c : World} (h : Ex X a b) (k : Ex X b c) : Ex X a c :=
 ⟨k.os.trans h.os, k.tape.trans h.tape, k.output.trans h.output, Nat.le_trans h.size k.size, fun i hi hx => (k.block i (Nat.lt_of_lt_of_le hi h.size) hx).trans (h.block i hi hx)⟩
theorem Ex.of_below {X : Nat -> Prop} {a b : World} (h : Below a.heap.size a b) : Ex X a b := ⟨h.os, h.tape, h.output, h.size, fun i hi _ => h.block i hi⟩
theorem Ex.of_grown {X : Nat -> Prop} {a b : World} {r : Option Nat} (h : a.grownBy b r) (hr : ∀ i, r = some i -> X i) : Ex X a b := ⟨h.os, h.tape, h.output, h.size, fun i hi hx => h.block i hi fun e => hx (hr i e.symm)⟩
theorem Ex.setCell {X : Nat -> Prop} (w : World) (b o : Nat) (v : Value) (hb : X b) : Ex X w (w.setCell ⟨b, o, none⟩ v) :=
 ⟨rfl, rfl, rfl, by simp [World.setCell], fun i _ hx => Below.heap_setCell _ _ _ _ (fun e => hx (by rw [e]; exact hb))⟩
theorem Ex.mono {X Y : Nat -> Prop} {a b : World} (h : Ex X a b) (hxy : ∀ i, i < a.heap.size -> X i -> Y i) : Ex Y a b := ⟨h.os, h.tape, h.output, h.size, fun i hi hy => h.block i hi fun hx => hy (hxy i hi hx)⟩
theorem Ex.below {X : Nat -> Prop} {M : Nat} {a b : World} (h0 : Below M w a) (h : Ex X a b) (hX : ∀ i, i < M -> ¬ X i) (hM : M <= a.heap.size) : Below M w b :=
 ⟨h.os.trans h0.os, h.tape.trans h0.tape, h.output.trans h0.output, Nat.le_trans h0.size h.size, fun i hi => (h.block i (Nat.lt_of_lt_of_le hi hM) (hX i hi)).trans (h0.block i hi)⟩
theorem Ex.agree {X : Nat -> Prop} {a b : World} (h : Ex X a b) (hS : ∀ i, S i -> i < a.heap.size /\ ¬ X i) : Agree S a b := fun i hi => h.block i (hS i hi).1 (hS i hi).2
theorem Ex.cell {X : Nat -> Prop} {a b : World} (h : Ex X a b) {i : Nat} (hi : i < a.heap.size) (hx : ¬ X i) (o : Nat) : b.cell? ⟨i, o, none⟩ = a.cell? ⟨i, o, none⟩ := by
 unfold World.cell?
 simp only [h.block i hi hx]
end
section
open Go.RowKit
variable {B n : Nat} {S : Nat -> Prop} {f : Nd} {ks ts : List Tr} {m : Md} {u v : Value} {w w' : World}
theorem Ex.trans' {X Y : Nat -> Prop} {a b c : World} (h : Ex X a b) (k : Ex Y b c) (hxy : ∀ i, i < a.heap.size -> Y i -> X i) : Ex X a c :=
 ⟨k.os.trans h.os, k.tape.trans h.tape, k.output.trans h.output, Nat.le_trans h.size k.size, fun i hi hx => (k.block i (Nat.lt_of_lt_of_le hi h.size) fun hy => hx (hxy i hi hy)).trans (h.block i hi hx)⟩
theorem Box.ex {X : Nat -> Prop} (h : Box w B f v) (he : Ex X w w') (hx : ¬ X B) : Box w' B f v := ⟨(he.block B h.lt hx).trans h.blk⟩
theorem Box.set (h : Box w B f v) (u : Value) : Box (w.setCell ⟨B, 7, none⟩ u) B f u := ⟨by simp [World.setCell, Array.getElem?_modify, h.blk]⟩
structure CpI (w0 wr : World) (B : Nat) (f : Nd) (ks : List Tr) (mk : Bool) (k : Nat) (vo : Value) (L : List (Nd × Value)) : Prop where
 len : L.length = k
 own : OwnN wr w0.heap.size vo L
 box : Box wr B f vo
 ex : Ex (fun i => i = B) w0 wr
 kid : ∀ i (h : i < ks.length) (h' : i < L.length), L[i].1 = ks[i].f /\ Kids wr ⟨true, mk⟩ (fun j => w0.heap.size <= j /\ j < wr.heap.size /\ vo.ownBlock ≠ some j) L[i].2 ks[i].ks
theorem CpI.start {w0 : World} (ks : List Tr) (mk : Bool) (h : Box w0 B f (.slice none 0 0)) : CpI w0 w0 B f ks mk 0 (.slice none 0 0) [] :=
 ⟨rfl, OwnN.nil _ _, h, Ex.refl _ _, fun i _ h' => by simp at h'⟩
theorem CpI.step {w0 wr w5 w7 : World} {mk : Bool} {k : Nat} {vo v5 v7 : Value} {L : List (Nd × Value)} {o : Obj} (h : CpI w0 wr B f ks mk k vo L) (hB : B < w0.heap.size) (hk : k < ks.length) (b5 : Below wr.heap.size wr w5) (k5 : Kids w5 ⟨true, mk⟩ (fun i => wr.heap.size <= i /\ i < w5.heap.size) v5 ks[k].ks) (ho : w7.ownsRow w0.heap.size 25 8 v7 (L.length + 1) (rowC L ++ ncs (ks[k].f, v5))) (hg : (w5.alloc o).grownBy w7 vo.ownBlock) (hl : v7.ownBlock = vo.ownBlock ∨ v7.ownBlock = some (w5.alloc o).heap.size) : CpI w0 (w7.setCell ⟨B, 7, none⟩ v7) B f ks mk (k + 1) v7 (L ++ [(ks[k].f, v5)]) := by
 have hs0 := h.ex.size
 have hs5 := b5.size
 have hs6 : (w5.alloc o).heap.size = w5.heap.size + 1 := World.size_alloc _ _
 have hs7 := hg.size
 have hs8 : (w7.setCell ⟨B, 7, none⟩ v7).heap.size = w7.heap.size := by simp [World.setCell]
 have hov := h.own.blk
 have hnB : vo.ownBlock ≠ some B := fun e => by have := (hov B e).1; omega
 have e58 : Ex (fun i => i = B ∨ vo.ownBlock = some i) w5 (w7.setCell ⟨B, 7, none⟩ v7) :=
  ((Ex.of_below ((Below.refl w5.heap.size w5).alloc (Nat.le_refl _) o)).trans (Ex.of_grown hg fun i e => Or.inr e)).trans (Ex.setCell _ _ _ _ (Or.inl rfl))
 have er8 : Ex (fun i => i = B ∨ vo.ownBlock = some i) wr (w7.setCell ⟨B, 7, none⟩ v7) := (Ex.of_below b5).trans e58
 have ho' : OwnN w7 w0.heap.size v7 (L ++ [(ks[k].f, v5)]) := by
  unfold OwnN
  rw [rowC_snoc, List.length_append]
  exact ho
 have hblk : ∀ g, v7.ownBlock = some g -> g ≠ B := fun g hg' => by have := (ho'.blk g hg').1; omega
 refine ⟨by rw [List.length_append, h.len]; rfl, ho'.same fun g hg' => Below.heap_setCell _ _ _ _ (hblk g hg'), ?_, h.ex.trans' er8 fun i hi hy => ?_, fun i hi hi' => ?_⟩
 ·refine Box.set (v := vo) ?_ _
  refine (((h.box.below b5 (by omega)).below ((Below.refl w5.heap.size w5).alloc (Nat.le_refl _) o) (by omega))).ex (X := fun i => vo.ownBlock = some i) (Ex.of_grown hg fun i e => e) hnB
 ·rcases hy with e | e
  ·exact e
  ·have := (hov i e).1; omega
 ·rcases Nat.lt_or_ge i L.length with hlt | hge
  ·obtain ⟨h1, h2⟩ := h.kid i hi hlt
   rw [List.getElem_append_left hlt]
   refine ⟨h1, (h2.agree (er8.agree fun j hj => ⟨hj.2.1, fun hx => ?_⟩)).mono fun j hj => ⟨hj.1, by omega, fun e => ?_⟩⟩
   ·rcases hx with rfl | hx
    ·omega
    ·exact hj.2.2 hx
   ·rcases hl with hl | hl
    ·exact hj.2.2 (hl ▸ e)
    ·rw [hl] at e
     have := Option.some.inj e
     omega
  ·have hik : i = k := by
    have := h.len
    rw [List.length_append] at hi'
    simp at hi'
    omega
   subst hik
   rw [List.getElem_append_right hge]
   simp only [h.len, Nat.sub_self, List.getElem_singleton]
   refine ⟨trivial, (k5.agree (e58.agree fun j hj => ⟨hj.2, fun hx => ?_⟩)).mono fun j hj => ⟨by omega, by omega, fun e => ?_⟩⟩
   ·rcases hx with rfl | hx
    ·omega
    ·have := (hov j hx).2; omega
   ·rcases hl with hl | hl
    ·have := (hov j (hl ▸ e)).2; omega
    ·rw [hl] at e
     have := Option.some.inj e
     omega
theorem own_form {m : Nat} {e : TypeId} {xs : List Value} (h : w.ownsRow B e m v (n + 1) xs) : ∃ g cap, v = .slice (some ⟨g, 0, none⟩) (n + 1) cap := by
 rcases h with ⟨_, ⟨_, h0⟩ | ⟨g, cap, cur, rfl, _⟩⟩
 ·cases h0
 ·exact ⟨g, cap, rfl⟩
theorem Kids.oneCell (h : Kids w m S v ts) : v.oneCell' = true := by
 obtain ⟨A, c, b, o, rfl, _⟩ := h.form
 rfl
theorem Ex.setCell' {X : Nat -> Prop} {a : World} (h : Ex X a w) {b o : Nat} (hb : X b) : Ex X a (w.setCell ⟨b, o, none⟩ v) := h.trans (Ex.setCell _ _ _ _ hb)
theorem CpI.mark {w0 wr w7 : World} {vo v7 : Value} {L : List (Nd × Value)} {o : Obj} (h : CpI w0 wr B f ks true ks.length vo L) (hn : ks.length <= 65536) (ho : w7.ownsRow w0.heap.size 25 8 v7 (L.length + 1) (rowC L ++ ncs (mkNd, .slice none 0 0))) (hg : (wr.alloc o).grownBy w7 vo.ownBlock) : ∃ g c, v7 = .slice (some ⟨g, 0, none⟩) (ks.length + 1) c /\ ks.length + 1 <= c /\ Kids w7 ⟨true, true⟩ (fun i => w0.heap.size <= i /\ i < w7.heap.size) (.slice (some ⟨g, 0, none⟩) ks.length c) ks := by
 have hs6 : (wr.alloc o).heap.size = wr.heap.size + 1 := World.size_alloc _ _
 have hs7 := hg.size
 have ho' : OwnN w7 w0.heap.size v7 (L ++ [(mkNd, .slice none 0 0)]) := by
  unfold OwnN
  rw [rowC_snoc, List.length_append]
  exact ho
 have er7 : Ex (fun i => vo.ownBlock = some i) wr w7 := (Ex.of_below ((Below.refl wr.heap.size wr).alloc (Nat.le_refl _) o)).trans (Ex.of_grown hg fun i e => e)
 refine ho'.marked h.len (fun g hg' => ho'.blk g hg') hn fun i hi hi' => ?_
 obtain ⟨h1, h2⟩ := h.kid i hi hi'
 exact ⟨h1, (h2.agree (er7.agree fun j hj => ⟨hj.2.1, hj.2.2⟩)).mono fun j hj => ⟨hj.1, by omega⟩⟩
abbrev set9 (w : World) (B : Nat) (f : Nd) (u : Value) : World := ((((((((w.setCell ⟨B + 1, 7, none⟩ u).setCell ⟨B, 0, none⟩ (.int .i64 f.k)).setCell ⟨B, 1, none⟩ (.string f.t)).setCell ⟨B, 2, none⟩ (.int .i64 f.n)).setCell ⟨B, 3, none⟩ (.string f.y)).setCell ⟨B, 4, none⟩ (.int .i64 f.s)).setCell ⟨B, 5, none⟩ (.int .i64 f.a)).setCell ⟨B, 6, none⟩ (.int .i64 f.l)).setCell ⟨B, 7, none⟩ u
theorem Ex.set9 {X : Nat -> Prop} {a : World} (h : Ex X a w) (h1 : X B) (h2 : X (B + 1)) : Ex X a (set9 w B f u) := ((((((((h.setCell' h2).setCell' h1).setCell' h1).setCell' h1).setCell' h1).setCell' h1).setCell' h1).setCell' h1).setCell' h1
def zNd : Nd := ⟨0, ⟨#[]⟩, 0, ⟨#[]⟩, 0, 0, 0⟩
theorem copied_all (n : Nat) (hn : n <= 65536) : ∀ (t : Tr) (w : World) (v : Value) (m : Md) (S : Nat -> Prop), cnt t <= n -> Kids w m S v t.ks -> (∀ i, S i -> i < w.heap.size) ->
 Calls Tryz.prog 6 #[nv t.f v] w fun e w' => ∃ v', e = .returned (nv t.f v') /\ Below w.heap.size w w' /\ Kids w' ⟨true, true⟩ (fun i => w.heap.size <= i /\ i < w'.heap.size) v' t.ks := by
 induction n with
 | zero => intro t w v m S h; have := cnt_pos t; omega
 | succ n ih =>
  intro t w v m S hc hv hS
  obtain ⟨i0, hi0, hz0, hz1, hz2⟩ := info_parts Tryz.infoN
  obtain ⟨A, ca, ba, oa, rfl, hla, hA, hra⟩ := hv.form
  have hll : t.ks.length <= 65536 := by
   have h1 := len_le_cnts t.ks
   obtain ⟨f, ks⟩ := t
   unfold cnt at hc
   simp only [Tr.ks] at h1 |-
   omega
  have HIH := zz (ih (by omega))
  have HA := zz hA
  have HC := zz hc
  have HI0 := zz hi0
  have HZ0 := zz hz0
  have HZ1 := zz hz1
  have HZ2 := zz hz2
  clear hv hA hc ih hi0 hz0 hz1 hz2
  unfold nv
  go_enter Tryz.func6, Tryz.ntmps6
  go_wp2
  obtain ⟨w1, hw1, HB1, HX1, hs1⟩ := jb w t.f (.slice A t.ks.length ca)
  rw [hw1]
  clear hw1
  obtain ⟨w2, hw2, HB2, HX2, hs2⟩ := jb w1 zNd (.slice none 0 0)
  unfold zNd at hw2
  rw [hw2]
  clear hw2
  obtain ⟨w3, hw3, HB3, HX3, hs3⟩ := jb w2 t.f (.slice none 0 0)
  rw [hw3]
  clear hw3
  rw [hs1] at HX2 hs2
  rw [hs2] at HX3 hs3
  have HX1 := zz ((HX1.out.below HB2.out (by omega)).below HB3.out (by omega))
  have HX2 := zz (HX2.out.below HB3.out (by omega))
  have HBw := zz (HB1.out.trans ((HB2.out.trans (HB3.out.mono (by omega))).mono (by omega)))
  clear HB1 HB2 HB3
  go_loopw [4] (fun i wr => ∃ (k : Nat) (vo : Value) (L : List (Nd × Value)), k <= t.ks.length /\ i = .int .i64 k /\ CpI w3 wr (w.heap.size + 1 + 1) t.f t.ks true k vo L) (fun i _ => t.ks.length - (intOf i).toNat)
  case atStart => exact ⟨0, _, _, Nat.zero_le _, rfl, CpI.start _ _ HX3.out⟩
  case round =>
   obtain ⟨k, vo, L, hk, rfl, hcp⟩ := hrel
   have HCP := zz hcp
   have hsz := hcp.ex.size
   have hbxo := hcp.box.cell.2.2.2.2.2.2.2
   have hfro := hcp.box.froz
   have hBr := hcp.box.lt
   have HX1 := zz (HX1.out.ex hcp.ex (by omega))
   have HX2 := zz (HX2.out.ex hcp.ex (by omega))
   have hgov := hcp.own.blk
   have HGO := zz hgov
   have hnX : ∀ i, i < w3.heap.size -> i ≠ w.heap.size + 1 + 1 -> ¬ (i = w.heap.size + 1 + 1 ∨ vo.ownBlock = some i) := fun i h1 h2 h3 => by
    rcases h3 with h3 | h3
    ·exact h2 h3
    ·have := (hgov i h3).1; omega
   have HNX := zz hnX
   have HNB := zz (show vo.ownBlock ≠ some (w.heap.size + 1 + 1) from fun e => by have := (hgov _ e).1; omega)
   clear hcp hgov hnX
   by_cases hkl : k < t.ks.length
   ·obtain ⟨rfl, hba, _⟩ := HA.out (by omega)
    have hbaw : ba < w.heap.size := hS ba hba
    obtain ⟨va', HCa, HKa⟩ := ((hra.agree (Agree.of_below HBw.out hS) hba).get k hkl).cs
    have HKw := zz (HKa.out.agree (HCP.out.ex.agree fun i hi => by have := hS i hi; exact ⟨by omega, by omega⟩))
    have HCw := zz (HCa.out.agree (HCP.out.ex.agree (S := fun i => i = ba) fun i hi => by subst hi; exact ⟨by omega, by omega⟩) rfl)
    have HCN := zz (cnts_lt HC.out hkl)
    have i0' : (0 : Int) <= (k : Int) := by omega
    have i1 : (k : Int) < (t.ks.length : Int) := by omega
    have hLk : L.length = k := HCP.out.len
    have HLk := zz hLk
    have HM1 := zz (show L.length + 1 <= maxLen by unfold maxLen; omega)
    have HM2 := zz (show (L.length + 1) * 96 <= 140737488355328 by omega)
    clear hLk
    have x7 := HX1.out.cell.2.2.2.2.2.2.2
    go_wp2
    refine wp_region_held_drew (S := Ex (fun i => i = w.heap.size + 1 + 1 ∨ vo.ownBlock = some i) wr) (by kernel_rfl) ?_ (fun zk => ?_)
    ·exact Ex.drew _ _
    apply tk 0 o13_ rfl (by kernel_rfl) (fun _ _ _ h => h) zk
    ·intro wq zq
     go_simp
     try rfl
    go_frame
    apply tk 2 o14_ rfl (by kernel_rfl) (fun _ _ _ h => h) zk
    ·intro wq zq
     go_simp
     try rfl
    go_frame
    apply tk 3 o15_ rfl (by kernel_rfl) (fun _ _ _ h => h) zk
    ·intro wq zq
     obtain ⟨x0, x1, x2, x3, x4, x5, x6, x7⟩ := (HX1.out.ex zq (HNX.out _ (by omega) (by omega))).cell
     go_simp
     try rfl
    go_frame
    apply tk 4 o16_ rfl (by kernel_rfl) (fun _ _ _ h => h) zk
    ·intro wq zq
     go_simp
     try rfl
    go_frame
    apply tk 5 o17_ rfl (by kernel_rfl) (fun _ _ _ h => h) zk
    ·intro wq zq
     go_simp
     try rfl
    go_frame
    apply tk 6 o18_ rfl (by kernel_rfl) (fun _ _ _ h => h) zk
    ·intro wq zq
     have y0 := (HCw.out.agree (zq.agree (S := fun i => i = ba) fun i hi => by subst hi; exact ⟨by omega, HNX.out _ (by omega) (by omega)⟩) rfl).cell
     go_simp
     try rfl
    go_frame
    refine wpAnyH_ready (rs := [1, 7]) (by kernel_rfl) (by simp) ?_
    refine AllReadyH.cons (o := o19_) rfl (fun K hK => ?_) (AllReadyH.cons (o := o20_) rfl (fun K hK => ?_) AllReadyH.nil)
    ·go_simp
     refine hK.out _ _ ?_ (fun zk => ?_)
     ·exact zk
     clear hK K
     try go_frame
     refine rd 7 o20_ rfl (by kernel_rfl) fun K hK => ?_
     go_simp
     refine (HIH.out t.ks[k] _ va' m S HCN.out (HKw.out.agree (Agree.of_below (zd wr) fun i hi => by have := hS i hi; omega)) (fun i hi => by have := hS i hi; show i < wr.heap.size; omega)).mono ?_
     rintro e w5 ⟨v5, rfl, b5, hk5⟩
     have HB5 := zz (below_undrew b5)
     have HK5 : Hid (Kids w5 ⟨true, true⟩ (fun i => wr.heap.size <= i /\ i < w5.heap.size) v5 t.ks[k].ks) := zz hk5
     have hs5 := HB5.out.size
     have hb5 : w5.cell? ⟨w.heap.size + 1 + 1, 7, none⟩ = some vo := (HB5.out.cell (p := ⟨w.heap.size + 1 + 1, 7, none⟩) hBr).trans hbxo
     have hb6 : ∀ o, (w5.alloc o).cell? ⟨w.heap.size + 1 + 1, 7, none⟩ = some vo := fun o => (World.cell?_alloc_lt _ _ _ (by show w.heap.size + 1 + 1 < _; omega)).trans hb5
     clear b5 hk5
     go_wp2_with fail
     refine hK.out _ _ ?_ (fun zk => ?_)
     ·exact zk.trans (Ex.of_below ⟨HB5.out.os, HB5.out.tape, HB5.out.output, HB5.out.size, HB5.out.block⟩)
     clear hK K
     try go_frame
     refine rd 8 o21_ rfl (by kernel_rfl) fun K hK => ?_
     go_simp
     refine hK.out _ _ ?_ (fun zk => ?_)
     ·exact zk.trans (Ex.of_below ((Below.refl _ _).alloc (Nat.le_refl _) _))
     clear hK K
     try go_frame
     refine rd 9 o22_ rfl (by kernel_rfl) fun K hK => ?_
     refine step_append_at rfl (.tmp 16) (.tmp 23) 23 rfl w3.heap.size 25 i0 (.agg #[.int .i64 0, .string ⟨#[]⟩, .int .i64 0, .string ⟨#[]⟩, .int .i64 0, .int .i64 0, .int .i64 0, .slice none 0 0]) 8 96 Tryz.underlying23 HI0.out HZ0.out HZ1.out HZ2.out rfl (by decide) vo L.length (rowC L) rfl ((HCP.out.own.same fun g hg => HB5.out.block g (HGO.out g hg).2).same fun g hg => ((Below.refl w5.heap.size w5).alloc (Nat.le_refl _) _).block g (by have := (HGO.out g hg).2; omega)) ⟨w5.heap.size, 0, none⟩ 1 1 (ncs (t.ks[k].f, v5)) rfl rfl (node_new w5 _ _) (node_one _ HK5.out.oneCell) HM1.out HM2.out (by rw [World.size_alloc]; omega) ?_
     intro v7 w7 ho7 hg7 hl7
     obtain ⟨g7, cap7, rfl⟩ := own_form ho7
     have HO7 := zz ho7
     have HG7 := zz hg7
     have HL7 := zz hl7
     have hb7 : w7.cell? ⟨w.heap.size + 1 + 1, 7, none⟩ = some vo := (World.cell?_of_block (hg7.block _ (by rw [World.size_alloc]; show w.heap.size + 1 + 1 < _; omega) fun e => HNB.out e.symm)).trans (hb6 _)
     have hf7 : w7.frozen? ⟨w.heap.size + 1 + 1, 7, none⟩ = false := ((World.frozen?_of_block (hg7.block _ (by rw [World.size_alloc]; show w.heap.size + 1 + 1 < _; omega) fun e => HNB.out e.symm)).trans (World.frozen?_of_block (((Below.refl w5.heap.size w5).alloc (Nat.le_refl _) _).block _ (by show w.heap.size + 1 + 1 < _; omega)))).trans ((World.frozen?_of_block (HB5.out.block _ hBr)).trans (hfro 7))
     clear ho7 hg7 hl7
     refine hK.out _ _ ?_ (fun zk => ?_)
     ·exact zk.trans (Ex.of_grown HG7.out fun i e => Or.inr e)
     clear hK K
     try go_frame
     apply tk 10 o23_ rfl (by kernel_rfl) (fun _ _ _ h => h) zk
     ·intro wq zq
      go_simp
      try rfl
     go_frame
     refine rd 11 o24_ rfl (by kernel_rfl) fun K hK => ?_
     go_simp
     refine hK.out _ _ ?_ (fun zk => ?_)
     ·exact zk.trans (Ex.setCell _ _ _ _ (Or.inl rfl))
     clear hK K
     try go_frame
     refine wpAnyH_done (by kernel_rfl) ?_ _
     go_wp2
     go_roundw
     case rel => exact ⟨k + 1, _, _, by omega, by go_num, HCP.out.step (by omega) hkl HB5.out HK5.out HO7.out HG7.out HL7.out⟩
     case measure => simp [intOf]; omega
    ·go_simp
     refine (HIH.out t.ks[k] _ va' m S HCN.out (HKw.out.agree (Agree.of_below (zd wr) fun i hi => by have := hS i hi; omega)) (fun i hi => by have := hS i hi; show i < wr.heap.size; omega)).mono ?_
     rintro e w5 ⟨v5, rfl, b5, hk5⟩
     have HB5 := zz (below_undrew b5)
     have HK5 : Hid (Kids w5 ⟨true, true⟩ (fun i => wr.heap.size <= i /\ i < w5.heap.size) v5 t.ks[k].ks) := zz hk5
     have hs5 := HB5.out.size
     have hb5 : w5.cell? ⟨w.heap.size + 1 + 1, 7, none⟩ = some vo := (HB5.out.cell (p := ⟨w.heap.size + 1 + 1, 7, none⟩) hBr).trans hbxo
     have hb6 : ∀ o, (w5.alloc o).cell? ⟨w.heap.size + 1 + 1, 7, none⟩ = some vo := fun o => (World.cell?_alloc_lt _ _ _ (by show w.heap.size + 1 + 1 < _; omega)).trans hb5
     clear b5 hk5
     go_wp2_with fail
     refine hK.out _ _ ?_ (fun zk => ?_)
     ·exact zk.trans (Ex.of_below ⟨HB5.out.os, HB5.out.tape, HB5.out.output, HB5.out.size, HB5.out.block⟩)
     clear hK K
     try go_frame
     refine wpAnyH_ready (rs := [1, 8]) (by kernel_rfl) (by simp) ?_
     refine AllReadyH.cons (o := o19_) rfl (fun K hK => ?_) (AllReadyH.cons (o := o21_) rfl (fun K hK => ?_) AllReadyH.nil)
     ·go_simp
      refine hK.out _ _ ?_ (fun zk => ?_)
      ·exact zk
      clear hK K
      try go_frame
      refine rd 8 o21_ rfl (by kernel_rfl) fun K hK => ?_
      go_simp
      refine hK.out _ _ ?_ (fun zk => ?_)
      ·exact zk.trans (Ex.of_below ((Below.refl _ _).alloc (Nat.le_refl _) _))
      clear hK K
      try go_frame
      refine rd 9 o22_ rfl (by kernel_rfl) fun K hK => ?_
      refine step_append_at rfl (.tmp 16) (.tmp 23) 23 rfl w3.heap.size 25 i0 (.agg #[.int .i64 0, .string ⟨#[]⟩, .int .i64 0, .string ⟨#[]⟩, .int .i64 0, .int .i64 0, .int .i64 0, .slice none 0 0]) 8 96 Tryz.underlying23 HI0.out HZ0.out HZ1.out HZ2.out rfl (by decide) vo L.length (rowC L) rfl ((HCP.out.own.same fun g hg => HB5.out.block g (HGO.out g hg).2).same fun g hg => ((Below.refl w5.heap.size w5).alloc (Nat.le_refl _) _).block g (by have := (HGO.out g hg).2; omega)) ⟨w5.heap.size, 0, none⟩ 1 1 (ncs (t.ks[k].f, v5)) rfl rfl (node_new w5 _ _) (node_one _ HK5.out.oneCell) HM1.out HM2.out (by rw [World.size_alloc]; omega) ?_
      intro v7 w7 ho7 hg7 hl7
      obtain ⟨g7, cap7, rfl⟩ := own_form ho7
      have HO7 := zz ho7
      have HG7 := zz hg7
      have HL7 := zz hl7
      have hb7 : w7.cell? ⟨w.heap.size + 1 + 1, 7, none⟩ = some vo := (World.cell?_of_block (hg7.block _ (by rw [World.size_alloc]; show w.heap.size + 1 + 1 < _; omega) fun e => HNB.out e.symm)).trans (hb6 _)
      have hf7 : w7.frozen? ⟨w.heap.size + 1 + 1, 7, none⟩ = false := ((World.frozen?_of_block (hg7.block _ (by rw [World.size_alloc]; show w.heap.size + 1 + 1 < _; omega) fun e => HNB.out e.symm)).trans (World.frozen?_of_block (((Below.refl w5.heap.size w5).alloc (Nat.le_refl _) _).block _ (by show w.heap.size + 1 + 1 < _; omega)))).trans ((World.frozen?_of_block (HB5.out.block _ hBr)).trans (hfro 7))
      clear ho7 hg7 hl7
      refine hK.out _ _ ?_ (fun zk => ?_)
      ·exact zk.trans (Ex.of_grown HG7.out fun i e => Or.inr e)
      clear hK K
      try go_frame
      apply tk 10 o23_ rfl (by kernel_rfl) (fun _ _ _ h => h) zk
      ·intro wq zq
       go_simp
       try rfl
      go_frame
      refine rd 11 o24_ rfl (by kernel_rfl) fun K hK => ?_
      go_simp
      refine hK.out _ _ ?_ (fun zk => ?_)
      ·exact zk.trans (Ex.setCell _ _ _ _ (Or.inl rfl))
      clear hK K
      try go_frame
      refine wpAnyH_done (by kernel_rfl) ?_ _
      go_wp2
      go_roundw
      case rel => exact ⟨k + 1, _, _, by omega, by go_num, HCP.out.step (by omega) hkl HB5.out HK5.out HO7.out HG7.out HL7.out⟩
      case measure => simp [intOf]; omega
     ·go_simp
      refine hK.out _ _ ?_ (fun zk => ?_)
      ·exact zk.trans (Ex.of_below ((Below.refl _ _).alloc (Nat.le_refl _) _))
      clear hK K
      try go_frame
      refine rd 1 o19_ rfl (by kernel_rfl) fun K hK => ?_
      go_simp
      refine hK.out _ _ ?_ (fun zk => ?_)
      ·exact zk
      clear hK K
      try go_frame
      refine rd 9 o22_ rfl (by kernel_rfl) fun K hK => ?_
      refine step_append_at rfl (.tmp 16) (.tmp 23) 23 rfl w3.heap.size 25 i0 (.agg #[.int .i64 0, .string ⟨#[]⟩, .int .i64 0, .string ⟨#[]⟩, .int .i64 0, .int .i64 0, .int .i64 0, .slice none 0 0]) 8 96 Tryz.underlying23 HI0.out HZ0.out HZ1.out HZ2.out rfl (by decide) vo L.length (rowC L) rfl ((HCP.out.own.same fun g hg => HB5.out.block g (HGO.out g hg).2).same fun g hg => ((Below.refl w5.heap.size w5).alloc (Nat.le_refl _) _).block g (by have := (HGO.out g hg).2; omega)) ⟨w5.heap.size, 0, none⟩ 1 1 (ncs (t.ks[k].f, v5)) rfl rfl (node_new w5 _ _) (node_one _ HK5.out.oneCell) HM1.out HM2.out (by rw [World.size_alloc]; omega) ?_
      intro v7 w7 ho7 hg7 hl7
      obtain ⟨g7, cap7, rfl⟩ := own_form ho7
      have HO7 := zz ho7
      have HG7 := zz hg7
      have HL7 := zz hl7
      have hb7 : w7.cell? ⟨w.heap.size + 1 + 1, 7, none⟩ = some vo := (World.cell?_of_block (hg7.block _ (by rw [World.size_alloc]; show w.heap.size + 1 + 1 < _; omega) fun e => HNB.out e.symm)).trans (hb6 _)
      have hf7 : w7.frozen? ⟨w.heap.size + 1 + 1, 7, none⟩ = false := ((World.frozen?_of_block (hg7.block _ (by rw [World.size_alloc]; show w.heap.size + 1 + 1 < _; omega) fun e => HNB.out e.symm)).trans (World.frozen?_of_block (((Below.refl w5.heap.size w5).alloc (Nat.le_refl _) _).block _ (by show w.heap.size + 1 + 1 < _; omega)))).trans ((World.frozen?_of_block (HB5.out.block _ hBr)).trans (hfro 7))
      clear ho7 hg7 hl7
      refine hK.out _ _ ?_ (fun zk => ?_)
      ·exact zk.trans (Ex.of_grown HG7.out fun i e => Or.inr e)
      clear hK K
      try go_frame
      apply tk 10 o23_ rfl (by kernel_rfl) (fun _ _ _ h => h) zk
      ·intro wq zq
       go_simp
       try rfl
      go_frame
      refine rd 11 o24_ rfl (by kernel_rfl) fun K hK => ?_
      go_simp
      refine hK.out _ _ ?_ (fun zk => ?_)
      ·exact zk.trans (Ex.setCell _ _ _ _ (Or.inl rfl))
      clear hK K
      try go_frame
      refine wpAnyH_done (by kernel_rfl) ?_ _
      go_wp2
      go_roundw
      case rel => exact ⟨k + 1, _, _, by omega, by go_num, HCP.out.step (by omega) hkl HB5.out HK5.out HO7.out HG7.out HL7.out⟩
      case measure => simp [intOf]; omega
   ·obtain rfl : k = t.ks.length := by omega
    have hLk : L.length = t.ks.length := HCP.out.len
    obtain ⟨ao, co, hvo, _⟩ := HCP.out.own.form
    have HM1 := zz (show L.length + 1 <= maxLen by unfold maxLen; omega)
    have HM2 := zz (show (L.length + 1) * 96 <= 140737488355328 by omega)
    rw [hLk] at hvo
    have HVO := zz hvo
    have HLk := zz hLk
    clear hLk
    subst hvo
    have x7 := HX1.out.cell.2.2.2.2.2.2.2
    have hb6 : ∀ o, (wr.alloc o).cell? ⟨w.heap.size + 1 + 1, 7, none⟩ = some (.slice ao t.ks.length co) := fun o => (World.cell?_alloc_lt _ _ _ (by show w.heap.size + 1 + 1 < _; omega)).trans hbxo
    go_wp2_with (first | (at_builtin; refine wpList_append_own_at _ rfl _ _ 23 rfl w3.heap.size 25 i0 (.agg #[.int .i64 0, .string ⟨#[]⟩, .int .i64 0, .string ⟨#[]⟩, .int .i64 0, .int .i64 0, .int .i64 0, .slice none 0 0]) 8 96 Tryz.underlying23 HI0.out HZ0.out HZ1.out HZ2.out rfl (by decide) (.slice ao t.ks.length co) L.length (rowC L) rfl (HCP.out.own.same fun g hg => ((Below.refl wr.heap.size wr).alloc (Nat.le_refl _) _).block g (HGO.out g hg).2) ⟨wr.heap.size, 0, none⟩ 1 1 (ncs (mkNd, .slice none 0 0)) rfl rfl (node_new wr mkNd _) (node_one _ rfl) HM1.out HM2.out (by rw [World.size_alloc]; omega) ?_; intro v7 w7 ho7 hg7 hnl7 hl7; obtain ⟨g, c, rfl, hc, hkd⟩ := HCP.out.mark hll ho7 hg7; have HKD := zz hkd; have HG7 := zz hg7; have HXo := zz ((HCP.out.box.below ((Below.refl wr.heap.size wr).alloc (Nat.le_refl _) _) hBr).ex (X := fun i => Value.ownBlock (.slice ao t.ks.length co) = some i) (Ex.of_grown hg7 fun i e => e) HNB.out); have HXr := zz ((HX2.out.below ((Below.refl wr.heap.size wr).alloc (Nat.le_refl _) _) (by omega)).ex (X := fun i => Value.ownBlock (.slice ao t.ks.length co) = some i) (Ex.of_grown hg7 fun i e => e) (fun e => by have := (HGO.out _ e).1; omega)); obtain ⟨o0, o1, o2, o3, o4, o5, o6, o7⟩ := HXo.out.cell; obtain ⟨r0, r1, r2, r3, r4, r5, r6, r7⟩ := HXr.out.cell; have fo := HXo.out.froz; have fr := HXr.out.froz; have j0 : (0 : Int) <= (t.ks.length : Int) := Int.natCast_nonneg _; have j1 : (t.ks.length : Int) <= (c : Int) := Int.ofNat_le.2 (Nat.le_of_succ_le hc); clear ho7 hg7 hnl7 hl7 hkd hb6 hbxo) | go_in)
    have hs7 := HG7.out.size
    rw [World.size_alloc] at hs7
    have HW3 := zz (show Ex (fun i => w.heap.size <= i) w3 w7 from (HCP.out.ex.mono fun i _ e => by omega).trans ((Ex.of_below ((Below.refl wr.heap.size wr).alloc (Nat.le_refl _) _)).trans (Ex.of_grown HG7.out fun i e => by have := (HGO.out i e).1; omega)))
    clear hs7
    refine bodyPost_ret (v := nv t.f (.slice (some ⟨g, 0, none⟩) t.ks.length c)) (by simp [results, Tryz.results6, go_sem, r0, r1, r2, r3, r4, r5, r6, r7]) rfl ⟨_, rfl, ?_, ?_⟩
    ·exact (HW3.out.set9 (by omega) (by omega)).below HBw.out (fun i hi => by omega) (by omega)
    ·have hx := (Ex.refl (fun i => i = w.heap.size + 1 ∨ i = w.heap.size + 1 + 1) w7).set9 (B := w.heap.size + 1) (f := t.f) (u := .slice (some ⟨g, 0, none⟩) t.ks.length c) (Or.inl rfl) (Or.inr rfl)
     have hz := hx.size
     exact (HKD.out.agree (hx.agree fun i hi => ⟨hi.2, fun h => by rcases h with rfl | rfl <;> omega⟩)).mono fun i hi => ⟨by omega, Nat.lt_of_lt_of_le hi.2 hz⟩
end
end Go.Proofs.YtmdhjiammcpogaaGreatDoor
