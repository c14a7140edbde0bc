/- Layer 11: the landed book, as the face asks: Get. -/
import Derived.Test.YthnnpipekeanoaaHt
namespace Go.Proofs.Ythnnpipekeanoaa
open Go.RowKit

variable {w : World} {B p M C n : Nat} {wv : Value} {l : List Wt} {sl : List Sl} {full : Int} {en : Ln → Option (Int × Int)} {cl : Int × Int × Int → Option Int}

theorem fnW_at (hi : BInv l sl full en cl n) {s g : Int} (hs : 0 ≤ s) (h : fnW l s g = true) : ∃ i : Nat, ∃ hi : i < sl.length, s = (i : Int) + 1 ∧ sl[i].r = gtW l s g ∧ sl[i].r.ms = (i : Int) + 1 := by
  by_cases ho : s = 0 ∨ (sl.length : Int) < s
  · unfold fnW at h
    rw [hi.out ho g] at h
    cases h
  · obtain ⟨i, h1, h2⟩ := idx_of (s := s) (n := sl.length) (by omega) (by omega)
    subst h2
    obtain ⟨e1, e2⟩ := hi.find h1 g
    rw [h] at e1
    rw [← e1, if_pos rfl] at e2
    have e1 := e1.symm
    simp only [Bool.and_eq_true, beq_iff_eq] at e1
    exact ⟨i, h1, rfl, e2.symm, e1.1⟩
theorem know_b (hb : Bk w B p wv M C sl full en cl n) (hl : sl.length ≤ 100001) (hi : BInv l sl full en cl n) {s g : Int} (hu : 0 ≤ s ∧ s ≤ 4294967295) : Calls Try.prog 33 #[.pointer (some ⟨p, 0, none⟩), hvW s g] w fun e w' => e = .returned (.int .i64 (ecB (fnW l s g) 111)) ∧ Below w.heap.size w w' := by
  by_cases ho : s = 0 ∨ (sl.length : Int) < s
  · refine (know_out hb hl hu ho).mono ?_
    rintro e w' ⟨rfl, h1⟩
    refine ⟨?_, h1⟩
    unfold fnW
    rw [hi.out ho g]
    rfl
  · obtain ⟨i, h1, h2⟩ := idx_of (s := s) (n := sl.length) (by omega) (by omega)
    subst h2
    refine (know_at hb hl h1 (g := g) rfl).mono ?_
    rintro e w' ⟨rfl, h3⟩
    refine ⟨?_, h3⟩
    rw [(hi.find h1 g).1]
    rfl

/-- cells from the first on, written over -/
theorem wrsA (W : World) (A : Nat) : ∀ (vs : List Value), Ch (fun y => y = A) W (W.setCells A 0 vs) := fun vs => by
  have : ∀ (vs : List Value) (o : Nat) (W : World), Ch (fun y => y = A) W (W.setCells A o vs) := by
    intro vs
    induction vs with
    | nil => exact fun o W => Ch.refl _ _
    | cons v r ih => exact fun o W => (Ch.set (Q := fun y => y = A) W rfl o v).trans (ih _ _) (fun _ _ h => h)
  exact this vs 0 W

theorem resGetH (tm : Array Value) (A : Nat) (Z : World) (r : Rc) (q : Int) (h4 : tm[4]?.getD undef = .pointer (some ⟨A, 0, none⟩)) (h5 : tm[5]?.getD undef = .int .i64 q) (hc : ∀ j u, (rcF r)[j]? = some u → Z.cell? ⟨A, j, none⟩ = some u) :
    (results Try.f19 tm).run Try.prog Z = .ok (.tuple #[rcV r, .int .i64 q]) Z := by
  have c0 := hc 0 _ rfl
  have c1 := hc 1 _ rfl
  have c2 := hc 2 _ rfl
  have c3 := hc 3 _ rfl
  have c4 := hc 4 _ rfl
  have c5 := hc 5 _ rfl
  have c6 := hc 6 _ rfl
  have c7 := hc 7 _ rfl
  have c8 := hc 8 _ rfl
  have c9 := hc 9 _ rfl
  have c10 := hc 10 _ rfl
  simp [results, Try.results19, go_sem, h4, h5, c0, c1, c2, c3, c4, c5, c6, c7, c8, c9, c10]

set_option maxRecDepth 100000 in
set_option maxHeartbeats 8000000 in
theorem get_b (hb : Bk w B p wv M C sl full en cl n) (hl : sl.length ≤ 100001) (hi : BInv l sl full en cl n) {s g : Int} (hu : 0 ≤ s ∧ s ≤ 4294967295) :
    Calls Try.prog 19 #[.pointer (some ⟨p, 0, none⟩), hvW s g] w fun e w' => e = .returned (.tuple #[rcV (gtW l s g), .int .i64 (ecB (fnW l s g) 111)]) ∧ Below w.heap.size w w' := by
  obtain ⟨w1, hw1⟩ : ∃ w1, (w.alloc (.cells #[.int .u32 s, .int .u32 g] 41)).alloc (.cells (rcF zRc).toArray 57) = w1 := ⟨_, rfl⟩
  have hB1 : Below w.heap.size w w1 := by rw [← hw1]; exact (below1 _ _).trans ((below1 _ _).mono (by simp))
  have s1 : w1.heap.size = w.heap.size + 2 := by rw [← hw1]; simp
  have hn : w1.heap[w.heap.size + 1]? = some (.cells (rcF zRc).toArray 57 (0, 0)) := by
    rw [← hw1]
    have := heap_new (w.alloc (.cells #[.int .u32 s, .int .u32 g] 41)) (.cells (rcF zRc).toArray 57)
    rwa [World.size_alloc] at this
  have hh : w1.heap[w.heap.size]? = some (.cells #[.int .u32 s, .int .u32 g] 41 (0, 0)) := by
    rw [← hw1, (MapKept.heap_alloc _ _).2 _ (by simp)]
    exact heap_new _ _
  have x0 : w1.cell? ⟨w.heap.size, 0, none⟩ = some (.int .u32 s) := by simp [Lib.cell_of_heap hh]
  have x1 : w1.cell? ⟨w.heap.size, 1, none⟩ = some (.int .u32 g) := by simp [Lib.cell_of_heap hh]
  have HB := hide hB1
  have HK := hide (hb.below hB1)
  have HI := hide hi
  have HN := hide hn
  have HH := hide hh
  have HS := hide s1
  unfold rcF zRc at hw1
  clear hB1 hn hh s1 hb hi
  go_enter Try.func19, Try.ntmps19
  go_wp2_with fail
  refine (know_b HK.out hl HI.out hu).mono ?_
  rintro e W2 ⟨rfl, h2⟩
  have H2 := hide h2
  have n2 := (Ch.of_below (Q := fun _ => False) h2).box HN.out (fun h => h)
  have N2 := hide n2
  have yc := Lib.cell_of_heap n2
  have yf := frz n2
  have xs : W2.cell? ⟨w.heap.size, 0, none⟩ = some (.int .u32 s) := by simp [Lib.cell_of_heap ((Ch.of_below (Q := fun _ => False) h2).box HH.out (fun h => h))]
  clear h2 n2 x0 x1 hw1
  cases hq : fnW l s g
  · have e1 : ecB false 111 = 111 := rfl
    have eg : gtW l s g = zRc := by
      unfold gtW
      unfold fnW at hq
      cases hf : fndW l s g with
      | none => rfl
      | some k => rw [hf] at hq; cases hq
    have HG := hide eg
    clear eg
    have z0 : W2.cell? ⟨w.heap.size + 1, 0, none⟩ = some (.int .u32 0) := by simp [Lib.cell_of_heap N2.out, rcF, zRc]
    have z1 : W2.cell? ⟨w.heap.size + 1, 1, none⟩ = some (.int .u32 0) := by simp [Lib.cell_of_heap N2.out, rcF, zRc]
    have z2 : W2.cell? ⟨w.heap.size + 1, 2, none⟩ = some (.int .u32 0) := by simp [Lib.cell_of_heap N2.out, rcF, zRc]
    have z3 : W2.cell? ⟨w.heap.size + 1, 3, none⟩ = some (.int .u32 0) := by simp [Lib.cell_of_heap N2.out, rcF, zRc]
    have z4 : W2.cell? ⟨w.heap.size + 1, 4, none⟩ = some (.int .u32 0) := by simp [Lib.cell_of_heap N2.out, rcF, zRc]
    have z5 : W2.cell? ⟨w.heap.size + 1, 5, none⟩ = some (.int .u32 0) := by simp [Lib.cell_of_heap N2.out, rcF, zRc]
    have z6 : W2.cell? ⟨w.heap.size + 1, 6, none⟩ = some (.int .i64 0) := by simp [Lib.cell_of_heap N2.out, rcF, zRc]
    have z7 : W2.cell? ⟨w.heap.size + 1, 7, none⟩ = some (.int .i64 0) := by simp [Lib.cell_of_heap N2.out, rcF, zRc]
    have z8 : W2.cell? ⟨w.heap.size + 1, 8, none⟩ = some (.int .i64 0) := by simp [Lib.cell_of_heap N2.out, rcF, zRc]
    have z9 : W2.cell? ⟨w.heap.size + 1, 9, none⟩ = some (.int .u32 0) := by simp [Lib.cell_of_heap N2.out, rcF, zRc]
    have z10 : W2.cell? ⟨w.heap.size + 1, 10, none⟩ = some (.int .u32 0) := by simp [Lib.cell_of_heap N2.out, rcF, zRc]
    have zf : ∀ j, W2.frozen? ⟨w.heap.size + 1, j, none⟩ = false := frz N2.out
    clear yc yf
    go_wp2_with fail
    refine bodyPost_ret (v := .tuple #[rcV zRc, .int .i64 111]) (resGetH _ (w.heap.size + 1) _ zRc 111 rfl rfl ?_) rfl ⟨by rw [HG.out, hq]; rfl, ?_⟩
    · intro j u hu
      match j, hu with
      | 0, hu => cases hu; simp [go_sem, z0, zRc]
      | 1, hu => cases hu; simp [go_sem, z1, zRc]
      | 2, hu => cases hu; simp [go_sem, z2, zRc]
      | 3, hu => cases hu; simp [go_sem, z3, zRc]
      | 4, hu => cases hu; simp [go_sem, z4, zRc]
      | 5, hu => cases hu; simp [go_sem, z5, zRc]
      | 6, hu => cases hu; simp [go_sem, z6, zRc]
      | 7, hu => cases hu; simp [go_sem, z7, zRc]
      | 8, hu => cases hu; simp [go_sem, z8, zRc]
      | 9, hu => cases hu; simp [go_sem, z9, zRc]
      | 10, hu => cases hu; simp [go_sem, z10, zRc]
      | _ + 11, hu => simp [rcF] at hu
    · have hs := HS.out
      have hs2 := H2.out.size
      refine HB.out.trans ((H2.out.mono HB.out.size).trans ?_)
      have c : Ch (fun y => y = w.heap.size + 1) W2 _ := wrsA W2 (w.heap.size + 1) (rcF zRc)
      exact Below.mono (Ch.below c (N := w.heap.size) (by omega) (fun y hy e => by omega)) (Nat.le_refl _)
  · have e1 : ecB true 111 = 0 := rfl
    obtain ⟨i, hi', rfl, hr, -⟩ := fnW_at HI.out hu.1 hq
    obtain ⟨r, hr0⟩ : ∃ r, gtW l ((i : Int) + 1) g = r := ⟨_, rfl⟩
    rw [hr0] at hr
    have HR0 := hide hr0
    have HQ := hide hq
    have BW := hide (HK.out.below H2.out)
    obtain ⟨gb, c, cur, rfl, -⟩ := BW.out.at (by omega)
    have x0 := BW.out.cells.1
    have hcell := fun j u hu => (BW.out.cell hi' (i := i) (j := j) (u := u) hu rfl).1
    have y0 : W2.cell? ⟨gb, i * 18 + 1, none⟩ = some (.int .u32 r.ms) := hcell 1 _ (by unfold slF rcF; rw [hr]; rfl)
    have y1 : W2.cell? ⟨gb, i * 18 + 2, none⟩ = some (.int .u32 r.mg) := hcell 2 _ (by unfold slF rcF; rw [hr]; rfl)
    have y2 : W2.cell? ⟨gb, i * 18 + 3, none⟩ = some (.int .u32 r.ws) := hcell 3 _ (by unfold slF rcF; rw [hr]; rfl)
    have y3 : W2.cell? ⟨gb, i * 18 + 4, none⟩ = some (.int .u32 r.wg) := hcell 4 _ (by unfold slF rcF; rw [hr]; rfl)
    have y4 : W2.cell? ⟨gb, i * 18 + 5, none⟩ = some (.int .u32 r.rs) := hcell 5 _ (by unfold slF rcF; rw [hr]; rfl)
    have y5 : W2.cell? ⟨gb, i * 18 + 6, none⟩ = some (.int .u32 r.rg) := hcell 6 _ (by unfold slF rcF; rw [hr]; rfl)
    have y6 : W2.cell? ⟨gb, i * 18 + 7, none⟩ = some (.int .i64 r.rd) := hcell 7 _ (by unfold slF rcF; rw [hr]; rfl)
    have y7 : W2.cell? ⟨gb, i * 18 + 8, none⟩ = some (.int .i64 r.ar) := hcell 8 _ (by unfold slF rcF; rw [hr]; rfl)
    have y8 : W2.cell? ⟨gb, i * 18 + 9, none⟩ = some (.int .i64 r.vn) := hcell 9 _ (by unfold slF rcF; rw [hr]; rfl)
    have y9 : W2.cell? ⟨gb, i * 18 + 10, none⟩ = some (.int .u32 r.vs) := hcell 10 _ (by unfold slF rcF; rw [hr]; rfl)
    have y10 : W2.cell? ⟨gb, i * 18 + 11, none⟩ = some (.int .u32 r.vg) := hcell 11 _ (by unfold slF rcF; rw [hr]; rfl)
    have z0 : W2.cell? ⟨w.heap.size + 1, 0, none⟩ = some (.int .u32 0) := by simp [Lib.cell_of_heap N2.out, rcF, zRc]
    have z1 : W2.cell? ⟨w.heap.size + 1, 1, none⟩ = some (.int .u32 0) := by simp [Lib.cell_of_heap N2.out, rcF, zRc]
    have z2 : W2.cell? ⟨w.heap.size + 1, 2, none⟩ = some (.int .u32 0) := by simp [Lib.cell_of_heap N2.out, rcF, zRc]
    have z3 : W2.cell? ⟨w.heap.size + 1, 3, none⟩ = some (.int .u32 0) := by simp [Lib.cell_of_heap N2.out, rcF, zRc]
    have z4 : W2.cell? ⟨w.heap.size + 1, 4, none⟩ = some (.int .u32 0) := by simp [Lib.cell_of_heap N2.out, rcF, zRc]
    have z5 : W2.cell? ⟨w.heap.size + 1, 5, none⟩ = some (.int .u32 0) := by simp [Lib.cell_of_heap N2.out, rcF, zRc]
    have z6 : W2.cell? ⟨w.heap.size + 1, 6, none⟩ = some (.int .i64 0) := by simp [Lib.cell_of_heap N2.out, rcF, zRc]
    have z7 : W2.cell? ⟨w.heap.size + 1, 7, none⟩ = some (.int .i64 0) := by simp [Lib.cell_of_heap N2.out, rcF, zRc]
    have z8 : W2.cell? ⟨w.heap.size + 1, 8, none⟩ = some (.int .i64 0) := by simp [Lib.cell_of_heap N2.out, rcF, zRc]
    have z9 : W2.cell? ⟨w.heap.size + 1, 9, none⟩ = some (.int .u32 0) := by simp [Lib.cell_of_heap N2.out, rcF, zRc]
    have z10 : W2.cell? ⟨w.heap.size + 1, 10, none⟩ = some (.int .u32 0) := by simp [Lib.cell_of_heap N2.out, rcF, zRc]
    have zf : ∀ j, W2.frozen? ⟨w.heap.size + 1, j, none⟩ = false := frz N2.out
    clear hcell yc yf hr hr0 hu hq
    go_wp2_with fail
    refine (at_is x0 hi' hl).mono ?_
    rintro e W ⟨rfl, rfl⟩
    go_wp2_with fail
    refine bodyPost_ret (v := .tuple #[rcV r, .int .i64 0]) (resGetH _ (w.heap.size + 1) _ r 0 rfl rfl ?_) rfl ⟨by rw [HR0.out, HQ.out]; rfl, ?_⟩
    · intro j u hu
      match j, hu with
      | 0, hu => cases hu; simp [go_sem, z0]
      | 1, hu => cases hu; simp [go_sem, z1]
      | 2, hu => cases hu; simp [go_sem, z2]
      | 3, hu => cases hu; simp [go_sem, z3]
      | 4, hu => cases hu; simp [go_sem, z4]
      | 5, hu => cases hu; simp [go_sem, z5]
      | 6, hu => cases hu; simp [go_sem, z6]
      | 7, hu => cases hu; simp [go_sem, z7]
      | 8, hu => cases hu; simp [go_sem, z8]
      | 9, hu => cases hu; simp [go_sem, z9]
      | 10, hu => cases hu; simp [go_sem, z10]
      | _ + 11, hu => simp [rcF] at hu
    · have hs := HS.out
      have hs2 := H2.out.size
      refine HB.out.trans ((H2.out.mono HB.out.size).trans ?_)
      have c : Ch (fun y => y = w.heap.size + 1) W2 _ := wrsA W2 (w.heap.size + 1) (rcF r)
      exact Below.mono (Ch.below c (N := w.heap.size) (by omega) (fun y hy e => by omega)) (Nat.le_refl _)

end Go.Proofs.Ythnnpipekeanoaa
