/- checkFunc. -/
import Derived.Test.YtgheaieghoekhaaDoorCj
namespace Go.Proofs.YtgheaieghoekhaaDoor
open Go.RowKit

def okI (p : Pg) (f : Fu) (i : In) : Bool := knw i.op && rNum p f i && rRet f i.op
def fstBad (g : In → Bool) : List In → Nat → Option Nat
  | [], _ => none
  | i :: r, k => if g i then fstBad g r (k + 1) else some k
def fstJ (cd : List In) : List In → Nat → Int × Int
  | [], _ => (0, -1)
  | i :: r, k => if cJump cd k i = 0 then fstJ cd r (k + 1) else (cJump cd k i, (k : Int))
def op0 : List In → Int
  | [] => 0
  | i :: _ => i.op
def cFun (p : Pg) (f : Fu) : Int × Int :=
  if rSizes f = false then (81, -1) else
  match fstBad (okI p f) f.cd 0 with
  | some k => (82, (k : Int))
  | none => if op0 f.cd ≠ 1 then (85, 0) else if (fstJ f.cd f.cd 0).1 ≠ 0 then fstJ f.cd f.cd 0 else ((dps p f.cd 0 (dp0 f.cd.length)).1, (dps p f.cd 0 (dp0 f.cd.length)).2.1)

theorem op0_at : ∀ {l : List In} (h : 0 < l.length), op0 l = l[0].op
  | [], h => by cases h
  | _ :: _, _ => rfl

theorem fstBad_drop (g : In → Bool) (l : List In) (k : Nat) (h : k < l.length) : fstBad g (l.drop k) k = if g l[k] then fstBad g (l.drop (k + 1)) (k + 1) else some k := by
  rw [List.drop_eq_getElem_cons h]; rfl
theorem fstJ_drop (cd l : List In) (k : Nat) (h : k < l.length) : fstJ cd (l.drop k) k = if cJump cd k l[k] = 0 then fstJ cd (l.drop (k + 1)) (k + 1) else (cJump cd k l[k], (k : Int)) := by
  rw [List.drop_eq_getElem_cons h]; rfl

theorem fstBad_none {g : In → Bool} : ∀ {l : List In} {k : Nat}, fstBad g l k = none → ∀ x ∈ l, g x = true
  | [], _, _, _, hx => by cases hx
  | i :: r, k, h, x, hx => by
    unfold fstBad at h
    split at h
    · rename_i hi
      rcases List.mem_cons.1 hx with rfl | hx
      · exact hi
      · exact fstBad_none h x hx
    · cases h

theorem fstJ_zero {cd : List In} : ∀ {l : List In} {k : Nat}, (fstJ cd l k).1 = 0 → fstJ cd l k = (0, -1) ∧ ∀ j (h : j < l.length), cJump cd (k + j) l[j] = 0
  | [], _, _ => ⟨rfl, fun j h => by cases h⟩
  | i :: r, k, h => by
    unfold fstJ at h ⊢
    split at h
    · rename_i hi
      obtain ⟨h1, h2⟩ := fstJ_zero h
      rw [if_pos hi]
      refine ⟨h1, fun j hj => ?_⟩
      cases j with
      | zero => exact hi
      | succ j =>
        have := h2 j (by simpa using hj)
        rw [show k + 1 + j = k + (j + 1) by omega] at this
        simpa using this
    · rename_i hi
      exact absurd h hi

theorem okI_k {p : Pg} {f : Fu} {i : In} (h : okI p f i = true) : knw i.op = true ∧ rNum p f i = true ∧ rRet f i.op = true := by
  unfold okI at h
  simp only [Bool.and_eq_true] at h
  exact ⟨h.1.1, h.1.2, h.2⟩

theorem cj_zero {cd : List In} {k : Nat} {i : In} (h : cJump cd k i = 0) (hA : tA i.op.toNat = 3) : ∃ j : Nat, i.a = (j : Int) ∧ j < cd.length := by
  cases hw : wthn i.a cd.length
  · rw [cj_out hA hw] at h; cases h
  · exact wthn_yes hw

theorem allK_of {p : Pg} {f : Fu} (h1 : fstBad (okI p f) f.cd 0 = none) (h2 : (fstJ f.cd f.cd 0).1 = 0) : AllK f.cd.length f.cd := by
  intro x hx
  refine ⟨(okI_k (fstBad_none h1 x hx)).1, fun hA => ?_⟩
  obtain ⟨j, hj, rfl⟩ := List.getElem_of_mem hx
  exact cj_zero ((fstJ_zero h2).2 j hj) hA

theorem knw_k {op : Int} (h : knw op = true) : ∃ k : Nat, op = (k : Int) ∧ k < 44 := by
  unfold knw at h
  simp only [Bool.and_eq_true, decide_eq_true_eq] at h
  exact ⟨op.toNat, by omega, by omega⟩

theorem rnum_is {N : Nat} {w : World} {v1 v2 v3 : Value} {p : Pg} (h : Gd N w v1 v2 v3 p) (f : Fu) (v : Value) (i : In) (hk : knw i.op = true) {z : Bool} (hz : rNum p f i = z) :
    Calls Tryd.prog 60 #[pv v1 v2 v3 p.mn, fv f v, iv i] w fun e w' => e = .returned (.bool z) ∧ Below w.heap.size w w' := by
  obtain ⟨op, a, b, l⟩ := i
  obtain ⟨k, rfl, hk4⟩ := knw_k hk
  subst hz
  exact rnum_any h f v a b l hk4

theorem cjump_is {N : Nat} {w : World} {v : Value} {cd : List In} (hT : Tb w) (hg : 0 < N) (hN : N ≤ w.heap.size) (h : Lst N 4 (InAt w) v cd) (at_ : Nat) (i : In) (hk : knw i.op = true) {z : Int} (hz : cJump cd at_ i = z) :
    Calls Tryd.prog 62 #[v, .int .i64 (at_ : Int), iv i] w fun e w' => e = .returned (.int .i64 z) ∧ Below w.heap.size w w' := by
  obtain ⟨op, a, b, l⟩ := i
  obtain ⟨k, rfl, hk4⟩ := knw_k hk
  subst hz
  exact cjump_any hT hg hN h at_ a b l hk4

theorem ret_two {a b x y : Int} (h : (a, b) = (x, y)) : Ending.returned (.tuple #[.int .i64 x, .int .i64 y]) = .returned (.tuple #[.int .i64 a, .int .i64 b]) := by cases h; rfl

abbrev twoV (r : Int × Int) : Value := .tuple #[.int .i64 r.1, .int .i64 r.2]

set_option maxHeartbeats 1000000 in
theorem cfun_sizes {N : Nat} {w : World} {v1 v2 v3 v : Value} {p : Pg} (f : Fu) (hv : Lst N 4 (InAt w) v f.cd) (hz : rSizes f = false) (hN : N ≤ w.heap.size) :
    Calls Tryd.prog 33 #[pv v1 v2 v3 p.mn, fv f v] w fun e w' => e = .returned (twoV (cFun p f)) ∧ Below w.heap.size w w' := by
  have E := hide (show cFun p f = (81, -1) by unfold cFun; rw [if_pos hz])
  have HV := hide (code_below ((below2 w (.cells #[v1, v2, v3, .int .i64 p.mn] 26) (.cells #[.string f.nm, .int .i64 f.pa, .int .i64 f.sl, .bool f.rs, v] 51)).mono hN) hv)
  obtain ⟨b1, o1, ⟨a1, c1, rfl, hc1, hm1, hs1⟩, hl1⟩ := hv
  clear hs1 hl1
  go_enter Tryd.func33, Tryd.ntmps33
  go_wp2_with (go_at_call 59; refine (rsizes_any f _ _ (unhide HV)).mono ?_; rw [hz]; rintro e w' ⟨rfl, hB⟩; have HB := hide hB; clear hB)
  go_ret2
  exact ⟨ret_pair (unhide E), (below2 _ _ _).trans ((unhide HB).mono (by simp; omega))⟩

set_option maxHeartbeats 8000000 in
theorem cfun_any {N : Nat} {w : World} {v1 v2 v3 v : Value} {p : Pg} (h : Gd N w v1 v2 v3 p) (f : Fu) (hv : Lst N 4 (InAt w) v f.cd) (hz : rSizes f = true) :
    Calls Tryd.prog 33 #[pv v1 v2 v3 p.mn, fv f v] w fun e w' => e = .returned (twoV (cFun p f)) ∧ Below w.heap.size w w' := by
  have hle := h.le
  obtain ⟨W, hW⟩ : ∃ W, W = (w.alloc (.cells #[v1, v2, v3, .int .i64 p.mn] 26)).alloc (.cells #[.string f.nm, .int .i64 f.pa, .int .i64 f.sl, .bool f.rs, v] 51) := ⟨_, rfl⟩
  have hb2 : Below w.heap.size w W := by rw [hW]; exact below2 w _ _
  have hszW : W.heap.size = w.heap.size + 2 := by rw [hW]; simp
  have HGW := hide (h.below (hb2.mono hle) (by omega))
  have HV := hide (code_below (hb2.mono hle) hv)
  have hsiz : 0 < f.cd.length ∧ f.cd.length ≤ 8388608 := by
    unfold rSizes at hz
    simp only [Bool.and_eq_true, decide_eq_true_eq] at hz
    exact ⟨hz.1.2, hz.2⟩
  obtain ⟨hpos, hmx⟩ := hsiz
  have x0 : W.cell? ⟨w.heap.size, 0, none⟩ = some v1 := by rw [hW, World.cell?_alloc_past _ _ _ (by simp), World.cell?_alloc_new]; rfl
  have x1 : W.cell? ⟨w.heap.size, 1, none⟩ = some v2 := by rw [hW, World.cell?_alloc_past _ _ _ (by simp), World.cell?_alloc_new]; rfl
  have x2 : W.cell? ⟨w.heap.size, 2, none⟩ = some v3 := by rw [hW, World.cell?_alloc_past _ _ _ (by simp), World.cell?_alloc_new]; rfl
  have x3 : W.cell? ⟨w.heap.size, 3, none⟩ = some (.int .i64 p.mn) := by rw [hW, World.cell?_alloc_past _ _ _ (by simp), World.cell?_alloc_new]; rfl
  have y0 : W.cell? ⟨w.heap.size + 1, 0, none⟩ = some (.string f.nm) := by rw [hW, show w.heap.size + 1 = (w.alloc (.cells #[v1, v2, v3, .int .i64 p.mn] 26)).heap.size by simp, World.cell?_alloc_new]; rfl
  have y1 : W.cell? ⟨w.heap.size + 1, 1, none⟩ = some (.int .i64 f.pa) := by rw [hW, show w.heap.size + 1 = (w.alloc (.cells #[v1, v2, v3, .int .i64 p.mn] 26)).heap.size by simp, World.cell?_alloc_new]; rfl
  have y2 : W.cell? ⟨w.heap.size + 1, 2, none⟩ = some (.int .i64 f.sl) := by rw [hW, show w.heap.size + 1 = (w.alloc (.cells #[v1, v2, v3, .int .i64 p.mn] 26)).heap.size by simp, World.cell?_alloc_new]; rfl
  have y3 : W.cell? ⟨w.heap.size + 1, 3, none⟩ = some (.bool f.rs) := by rw [hW, show w.heap.size + 1 = (w.alloc (.cells #[v1, v2, v3, .int .i64 p.mn] 26)).heap.size by simp, World.cell?_alloc_new]; rfl
  have y4 : W.cell? ⟨w.heap.size + 1, 4, none⟩ = some v := by rw [hW, show w.heap.size + 1 = (w.alloc (.cells #[v1, v2, v3, .int .i64 p.mn] 26)).heap.size by simp, World.cell?_alloc_new]; rfl
  obtain ⟨b1, o1, ⟨a1, c1, rfl, hc1, hm1, hs1⟩, hl1⟩ := hv
  obtain ⟨rfl, hb1⟩ := hs1 hpos
  have X := hide (And.intro x0 (And.intro x1 (And.intro x2 (And.intro x3 (And.intro y0 (And.intro y1 (And.intro y2 (And.intro y3 y4))))))))
  have HE : Hid (cFun p f = match fstBad (okI p f) f.cd 0 with
    | some k => (82, (k : Int))
    | none => if op0 f.cd ≠ 1 then (85, 0) else if (fstJ f.cd f.cd 0).1 ≠ 0 then fstJ f.cd f.cd 0 else ((dps p f.cd 0 (dp0 f.cd.length)).1, (dps p f.cd 0 (dp0 f.cd.length)).2.1)) := by
    unfold cFun
    rw [if_neg (by rw [hz]; simp)]
    exact hide rfl
  have HB0 := hide hb2
  have HW := hide hW
  have HL1 := hide hl1
  clear x0 x1 x2 x3 y0 y1 y2 y3 y4 hs1 hl1 h hb2 hW
  go_enter Tryd.func33, Tryd.ntmps33
  go_wp2_with fail
  rw [← unhide HW]
  refine (rsizes_any f _ _ (unhide HV)).mono ?_
  rw [hz]
  rintro e w1 ⟨rfl, hB1⟩
  have hB1s := hB1.size
  obtain ⟨bc1, -⟩ := bcell hB1
  obtain ⟨x0, x1, x2, x3, y0, y1, y2, y3, y4⟩ := unhide X
  have l0 : w.heap.size < W.heap.size := by omega
  have l1 : w.heap.size + 1 < W.heap.size := by omega
  have HB1 := hide hB1
  clear hB1
  go_wp2
  clear bc1 x0 x1 x2 x3 y0 y1 y2 y3 y4
  go_loopw [20] (fun i wr => ∃ k : Nat, k ≤ f.cd.length ∧ i = .int .i64 k ∧ fstBad (okI p f) f.cd 0 = fstBad (okI p f) (f.cd.drop k) k ∧ Below W.heap.size W wr) (fun i _ => f.cd.length - (intOf i).toNat)
  case atStart => exact ⟨0, Nat.zero_le _, rfl, rfl, unhide HB1⟩
  case round =>
    obtain ⟨k, hk, rfl, hR, hB⟩ := hrel
    have hszr := hB.size
    obtain ⟨bc, -⟩ := bcell hB
    obtain ⟨x0, x1, x2, x3, y0, y1, y2, y3, y4⟩ := unhide X
    by_cases hlt : k < f.cd.length
    · have hBN : Below N w wr := ((unhide HB0).mono hle).trans (hB.mono (by omega))
      obtain ⟨g1, g2, g3, g4⟩ := InAt.below hBN hb1 (unhide HL1 k hlt)
      rw [fstBad_drop _ _ _ hlt] at hR
      have HGr := hide (((unhide HGW).below (hB.mono (by omega)) (by omega)).alloc (.cells #[.int .i64 f.cd[k].op, .int .i64 f.cd[k].a, .int .i64 f.cd[k].b, .int .i64 f.cd[k].l] 29))
      have HBa := hide (hB.alloc hszr (.cells #[.int .i64 f.cd[k].op, .int .i64 f.cd[k].a, .int .i64 f.cd[k].b, .int .i64 f.cd[k].l] 29))
      have z1 : w.heap.size < wr.heap.size := by omega
      have z2 : b1 < wr.heap.size := by omega
      have z3 : w.heap.size + 1 < wr.heap.size := by omega
      generalize f.cd[k] = x at *
      have HR := hide hR
      clear hR hB
      cases c1 : knw x.op
      · go_wp2_with (go_at_call 16; refine (known_any _ _).mono ?_; rw [c1]; rintro e w' ⟨rfl, rfl⟩)
        go_ret2
        exact ⟨ret_pair ((unhide HE).trans (by rw [unhide HR, if_neg (by simp [okI, c1])])), (unhide HB0).trans ((unhide HBa).mono (by omega))⟩
      cases c2 : rNum p f x
      · go_wp2_with (first
          | (go_at_call 16; refine (known_any _ _).mono ?_; rw [c1]; rintro e w' ⟨rfl, rfl⟩)
          | (go_at_call 60; refine (rnum_is (unhide HGr) f _ x c1 c2).mono ?_; rintro e w5 ⟨rfl, hB5⟩; have HB5 := hide hB5; clear hB5))
        go_ret2
        exact ⟨ret_pair ((unhide HE).trans (by rw [unhide HR, if_neg (by simp [okI, c1, c2])])), (unhide HB0).trans (((unhide HBa).trans ((unhide HB5).mono (by simp; omega))).mono (by omega))⟩
      cases c3 : rRet f x.op
      · go_wp2_with (first
          | (go_at_call 16; refine (known_any _ _).mono ?_; rw [c1]; rintro e w' ⟨rfl, rfl⟩)
          | (go_at_call 60; refine (rnum_is (unhide HGr) f _ x c1 c2).mono ?_; rintro e w5 ⟨rfl, hB5⟩; obtain ⟨bc5, -⟩ := bcell hB5; have hB5s := hB5.size; simp only [World.size_alloc] at hB5s; have HB5 := hide hB5; clear hB5)
          | (go_at_call 61; refine (rret_any f _ _ _).mono ?_; rw [c3]; rintro e w6 ⟨rfl, hB6⟩; have HB6 := hide hB6; clear hB6))
        go_ret2
        exact ⟨ret_pair ((unhide HE).trans (by rw [unhide HR, if_neg (by simp [okI, c1, c2, c3])])), (unhide HB0).trans ((((unhide HBa).trans ((unhide HB5).mono (by simp; omega))).trans ((unhide HB6).mono (by omega))).mono (by omega))⟩
      · go_wp2_with (first
          | (go_at_call 16; refine (known_any _ _).mono ?_; rw [c1]; rintro e w' ⟨rfl, rfl⟩)
          | (go_at_call 60; refine (rnum_is (unhide HGr) f _ x c1 c2).mono ?_; rintro e w5 ⟨rfl, hB5⟩; obtain ⟨bc5, -⟩ := bcell hB5; have hB5s := hB5.size; simp only [World.size_alloc] at hB5s; have HB5 := hide hB5; clear hB5)
          | (go_at_call 61; refine (rret_any f _ _ _).mono ?_; rw [c3]; rintro e w6 ⟨rfl, hB6⟩; have HB6 := hide hB6; clear hB6))
        go_roundw
        case rel => exact ⟨k + 1, by omega, by go_num, (unhide HR).trans (if_pos (by simp [okI, c1, c2, c3])), ((unhide HBa).trans ((unhide HB5).mono (by simp; omega))).trans ((unhide HB6).mono (by omega))⟩
        case measure => simp [intOf]; omega
    · have hRn : fstBad (okI p f) f.cd 0 = none := hR.trans (by rw [List.drop_eq_nil_of_le (by omega)]; rfl)
      have HEn := hide ((unhide HE).trans (by rw [hRn]))
      have HRn := hide hRn
      have hBN : Below N w wr := ((unhide HB0).mono hle).trans (hB.mono (by omega))
      obtain ⟨g1, -, -, -⟩ := InAt.below hBN hb1 (unhide HL1 0 hpos)
      rw [Nat.zero_mul, Nat.add_zero] at g1
      have eo := op0_at hpos
      rw [eo] at HEn
      have z1 : w.heap.size < wr.heap.size := by omega
      have z2 : b1 < wr.heap.size := by omega
      have z3 : w.heap.size + 1 < wr.heap.size := by omega
      have HBr := hide hB
      generalize f.cd[0]'hpos = x at *
      obtain ⟨wq, rfl⟩ : ∃ x, x = wr := ⟨_, rfl⟩
      clear hR hRn HE hB eo
      by_cases c1 : x.op = 1
      rotate_left
      · have q : (x.op != 1) = true := by simpa using c1
        have HE2 := hide ((unhide HEn).trans (if_pos c1))
        clear c1 HEn
        go_wp2
        go_ret2
        exact ⟨ret_pair (unhide HE2), (unhide HB0).trans ((unhide HBr).mono (by omega))⟩
      have HE2 := hide ((unhide HEn).trans (if_neg (by simp [c1])))
      rw [c1] at g1
      clear c1 HEn
      go_wp2
      clear bc x0 x1 x2 x3 y0 y1 y2 y3 y4 g1 z1 z2 z3
      go_loopw [54] (fun i wr => ∃ k : Nat, k ≤ f.cd.length ∧ i = .int .i64 k ∧ fstJ f.cd f.cd 0 = fstJ f.cd (f.cd.drop k) k ∧ Below W.heap.size W wr) (fun i _ => f.cd.length - (intOf i).toNat)
      case atStart => exact ⟨0, Nat.zero_le _, rfl, rfl, unhide HBr⟩
      case round =>
        obtain ⟨k, hk, rfl, hR, hB⟩ := hrel
        have hszr := hB.size
        obtain ⟨bc, -⟩ := bcell hB
        obtain ⟨x0, x1, x2, x3, y0, y1, y2, y3, y4⟩ := unhide X
        have hBN : Below N w wr := ((unhide HB0).mono hle).trans (hB.mono (by omega))
        by_cases hlt : k < f.cd.length
        · obtain ⟨g1, g2, g3, g4⟩ := InAt.below hBN hb1 (unhide HL1 k hlt)
          rw [fstJ_drop _ _ _ hlt] at hR
          have hkn := (okI_k (fstBad_none (unhide HRn) f.cd[k] (List.getElem_mem hlt))).1
          have hGr := (((unhide HGW).below (hB.mono (by omega)) (by omega)).alloc (.cells #[.int .i64 f.cd[k].op, .int .i64 f.cd[k].a, .int .i64 f.cd[k].b, .int .i64 f.cd[k].l] 29))
          have HVr := hide (code_below ((Below.refl N wr).alloc (by omega) (.cells #[.int .i64 f.cd[k].op, .int .i64 f.cd[k].a, .int .i64 f.cd[k].b, .int .i64 f.cd[k].l] 29)) (code_below (hB.mono (by omega)) (unhide HV)))
          have HT := hide hGr.t
          have HGg := hide hGr.g
          have HGl := hide hGr.le
          have HBa := hide (hB.alloc hszr (.cells #[.int .i64 f.cd[k].op, .int .i64 f.cd[k].a, .int .i64 f.cd[k].b, .int .i64 f.cd[k].l] 29))
          have z1 : w.heap.size < wr.heap.size := by omega
          have z2 : b1 < wr.heap.size := by omega
          have z3 : w.heap.size + 1 < wr.heap.size := by omega
          generalize f.cd[k] = x at *
          have HR := hide hR
          have HKn := hide hkn
          clear hR hB hGr hBN hkn
          by_cases c1 : cJump f.cd k x = 0
          · have HC := hide c1
            go_wp2_with (go_at_call 62; refine (cjump_is (unhide HT) (unhide HGg) (unhide HGl) (unhide HVr) k x (unhide HKn) (unhide HC)).mono ?_; rintro e w5 ⟨rfl, hB5⟩; have HB5 := hide hB5; clear hB5)
            go_roundw
            case rel => exact ⟨k + 1, by omega, by go_num, (unhide HR).trans (if_pos c1), (unhide HBa).trans ((unhide HB5).mono (by simp; omega))⟩
            case measure => simp [intOf]; omega
          · have HR2 := hide ((unhide HR).trans (if_neg c1))
            obtain ⟨z, hz2⟩ : ∃ z, cJump f.cd k x = z := ⟨_, rfl⟩
            rw [hz2] at c1 HR2
            have q : (z != 0) = true := by simpa using c1
            have HC := hide hz2
            have HZ := hide c1
            clear c1 hz2 HR
            go_wp2_with (go_at_call 62; refine (cjump_is (unhide HT) (unhide HGg) (unhide HGl) (unhide HVr) k x (unhide HKn) (unhide HC)).mono ?_; rintro e w5 ⟨rfl, hB5⟩; have HB5 := hide hB5; clear hB5)
            go_ret2
            exact ⟨ret_pair ((unhide HE2).trans (by rw [unhide HR2, if_pos (unhide HZ)])), (unhide HB0).trans (((unhide HBa).trans ((unhide HB5).mono (by simp; omega))).mono (by omega))⟩
        · have hRz : fstJ f.cd f.cd 0 = (0, -1) := hR.trans (by rw [List.drop_eq_nil_of_le (by omega)]; rfl)
          have HE3 := hide ((unhide HE2).trans (if_neg (by rw [hRz]; simp)))
          have HK := hide (allK_of (unhide HRn) (by rw [hRz]))
          have HGr := hide ((unhide HGW).below (hB.mono (by omega)) (by omega))
          have HVr := hide (code_below (hB.mono (by omega)) (unhide HV))
          have z1 : w.heap.size < wr.heap.size := by omega
          have z3 : w.heap.size + 1 < wr.heap.size := by omega
          have HBr2 := hide hB
          clear hR hRz hB hBN HE2
          have HD := hide (depths_any (unhide HGr) (unhide HVr) hpos hmx (unhide HK))
          generalize dps p f.cd 0 (dp0 f.cd.length) = r at *
          obtain ⟨r1, r2, r3⟩ := r
          simp only at HE3
          go_wp2_with (go_at_call 35; refine (unhide HD).mono ?_; rintro e w5 ⟨hB5, ⟨h50, h51, D, hD1, hD2, hD3, rfl⟩ | ⟨h50, rfl⟩⟩ <;> have HB5 := hide hB5 <;> have H50 := hide h50 <;> clear hB5 h50 HD)
          · go_ret2
            exact ⟨ret_pair ((unhide HE3).trans (by rw [show r1 = 0 from unhide H50, show r2 = -1 from h51])), (unhide HB0).trans (((unhide HBr2).trans ((unhide HB5).mono (by omega))).mono (by omega))⟩
          · go_ret2
            exact ⟨ret_pair (unhide HE3), (unhide HB0).trans (((unhide HBr2).trans ((unhide HB5).mono (by omega))).mono (by omega))⟩

end Go.Proofs.YtgheaieghoekhaaDoor
