/- Check. -/
import Derived.Test.YtgheaieghoekhaaDoorCk
import Derived.Deep.RegionWith
namespace Go.Proofs.YtgheaieghoekhaaDoor
open Go.RowKit

def fstF (p : Pg) : List Fu → Nat → Int × Int × Int
  | [], _ => (0, -1, -1)
  | f :: r, k => if (cFun p f).1 = 0 then fstF p r (k + 1) else ((cFun p f).1, (k : Int), (cFun p f).2)
def chk (p : Pg) : Int × Int × Int := if tmAny p then (81, -1, -1) else if rItems p.ps = false ∨ rMain p = false then (82, -1, -1) else fstF p p.fs 0

theorem fstF_drop (p : Pg) (l : List Fu) (k : Nat) (h : k < l.length) : fstF p (l.drop k) k = if (cFun p l[k]).1 = 0 then fstF p (l.drop (k + 1)) (k + 1) else ((cFun p l[k]).1, (k : Int), (cFun p l[k]).2) := by
  rw [List.drop_eq_getElem_cons h]; rfl

theorem cfun_is {N : Nat} {w : World} {v1 v2 v3 v : Value} {p : Pg} (h : Gd N w v1 v2 v3 p) (f : Fu) (hv : Lst N 4 (InAt w) v f.cd) {a b : Int} (hc : cFun p f = (a, b)) :
    Calls Tryd.prog 33 #[pv v1 v2 v3 p.mn, fv f v] w fun e w' => e = .returned (.tuple #[.int .i64 a, .int .i64 b]) ∧ Below w.heap.size w w' := by
  have H : Calls Tryd.prog 33 #[pv v1 v2 v3 p.mn, fv f v] w fun e w' => e = .returned (twoV (cFun p f)) ∧ Below w.heap.size w w' := by
    cases hz : rSizes f
    · exact cfun_sizes f hv hz h.le
    · exact cfun_any h f hv hz
  unfold twoV at H
  rw [hc] at H
  exact H

theorem ret_tri {a b c x y z : Int} (h : (a, b, c) = (x, y, z)) : Ending.returned (.tuple #[.int .i64 x, .int .i64 y, .int .i64 z]) = .returned (.tuple #[.int .i64 a, .int .i64 b, .int .i64 c]) := by cases h; rfl

abbrev triV (r : Int × Int × Int) : Value := .tuple #[.int .i64 r.1, .int .i64 r.2.1, .int .i64 r.2.2]

set_option maxHeartbeats 8000000 in
theorem check_any {N : Nat} {w : World} {v1 v2 v3 : Value} {p : Pg} (h : Gd N w v1 v2 v3 p) :
    Calls Tryd.prog 13 #[pv v1 v2 v3 p.mn] w fun e w' => e = .returned (triV (chk p)) ∧ Below w.heap.size w w' := by
  have hle := h.le
  obtain ⟨W, hW⟩ : ∃ W, W = w.alloc (.cells #[v1, v2, v3, .int .i64 p.mn] 26) := ⟨_, rfl⟩
  have hb0 : Below w.heap.size w W := by rw [hW]; exact below1 w _
  have hszW : W.heap.size = w.heap.size + 1 := by rw [hW]; simp
  have HGW := hide (h.below (hb0.mono hle) (by omega))
  have x0 : W.cell? ⟨w.heap.size, 0, none⟩ = some v1 := by rw [hW, World.cell?_alloc_new]; rfl
  have x1 : W.cell? ⟨w.heap.size, 1, none⟩ = some v2 := by rw [hW, World.cell?_alloc_new]; rfl
  have x2 : W.cell? ⟨w.heap.size, 2, none⟩ = some v3 := by rw [hW, World.cell?_alloc_new]; rfl
  have x3 : W.cell? ⟨w.heap.size, 3, none⟩ = some (.int .i64 p.mn) := by rw [hW, World.cell?_alloc_new]; rfl
  obtain ⟨b1, o1, ⟨a1, c1, rfl, hc1, hm1, hs1⟩, hl1⟩ := h.hf
  have HS1 := hide hs1
  have HL1 := hide hl1
  have X := hide (And.intro x0 (And.intro x1 (And.intro x2 x3)))
  have HB0 := hide hb0
  have HW := hide hW
  clear h hs1 hl1 hb0 hW x0 x1 x2 x3
  cases c1 : tmAny p
  rotate_left
  · have E := hide (show chk p = (81, -1, -1) by unfold chk; rw [if_pos c1])
    go_enter Tryd.func13, Tryd.ntmps13
    go_wp2_with fail
    rw [← unhide HW]
    refine (tmany_any (unhide HGW)).mono ?_
    rw [c1]
    rintro e w5 ⟨rfl, hB5⟩
    have HB5 := hide hB5
    clear hB5
    go_wp2
    go_ret3
    exact ⟨ret_tri (unhide E), (unhide HB0).trans ((unhide HB5).mono (by omega))⟩
  cases c2 : rItems p.ps
  · have E := hide (show chk p = (82, -1, -1) by unfold chk; rw [if_neg (by simp [c1]), if_pos (Or.inl c2)])
    go_enter Tryd.func13, Tryd.ntmps13
    go_wp2_with fail
    rw [← unhide HW]
    refine (tmany_any (unhide HGW)).mono ?_
    rw [c1]
    rintro e w5 ⟨rfl, hB5⟩
    have hB5s := hB5.size
    obtain ⟨bc5, -⟩ := bcell hB5
    obtain ⟨x0, x1, x2, x3⟩ := unhide X
    have l0 : w.heap.size < W.heap.size := by omega
    have HB5 := hide hB5
    clear hB5
    go_wp2_with fail
    refine (ritems_any _ (((unhide HGW).below ((unhide HB5).mono (by omega)) (by omega))).hp (by omega)).mono ?_
    rw [c2]
    rintro e w6 ⟨rfl, hB6⟩
    have HB6 := hide hB6
    clear hB6
    go_wp2
    go_ret3
    exact ⟨ret_tri (unhide E), (unhide HB0).trans (((unhide HB5).trans ((unhide HB6).mono (by omega))).mono (by omega))⟩
  cases c3 : rMain p
  · have E := hide (show chk p = (82, -1, -1) by unfold chk; rw [if_neg (by simp [c1]), if_pos (Or.inr c3)])
    go_enter Tryd.func13, Tryd.ntmps13
    go_wp2_with fail
    rw [← unhide HW]
    refine (tmany_any (unhide HGW)).mono ?_
    rw [c1]
    rintro e w5 ⟨rfl, hB5⟩
    have hB5s := hB5.size
    obtain ⟨bc5, -⟩ := bcell hB5
    obtain ⟨x0, x1, x2, x3⟩ := unhide X
    have l0 : w.heap.size < W.heap.size := by omega
    have HB5 := hide hB5
    clear hB5
    go_wp2_with fail
    refine (ritems_any _ (((unhide HGW).below ((unhide HB5).mono (by omega)) (by omega))).hp (by omega)).mono ?_
    rw [c2]
    rintro e w6 ⟨rfl, hB6⟩
    have hB6s := hB6.size
    obtain ⟨bc6, -⟩ := bcell hB6
    have l1 : w.heap.size < w5.heap.size := by omega
    have HB6 := hide hB6
    clear hB6
    go_wp2_with fail
    refine (rmain_any ((unhide HGW).below (((unhide HB5).trans ((unhide HB6).mono (by omega))).mono (by omega)) (by omega))).mono ?_
    rw [c3]
    rintro e w7 ⟨rfl, hB7⟩
    have HB7 := hide hB7
    clear hB7
    go_wp2
    go_ret3
    exact ⟨ret_tri (unhide E), (unhide HB0).trans ((((unhide HB5).trans ((unhide HB6).mono (by omega))).trans ((unhide HB7).mono (by omega))).mono (by omega))⟩
  have E := hide (show chk p = fstF p p.fs 0 by unfold chk; rw [if_neg (by simp [c1]), if_neg (by simp [c2, c3])])
  go_enter Tryd.func13, Tryd.ntmps13
  go_wp2_with fail
  rw [← unhide HW]
  refine (tmany_any (unhide HGW)).mono ?_
  rw [c1]
  rintro e w5 ⟨rfl, hB5⟩
  have hB5s := hB5.size
  obtain ⟨bc5, -⟩ := bcell hB5
  obtain ⟨x0, x1, x2, x3⟩ := unhide X
  have l0 : w.heap.size < W.heap.size := by omega
  have HB5 := hide hB5
  clear hB5
  go_wp2_with fail
  refine (ritems_any _ (((unhide HGW).below ((unhide HB5).mono (by omega)) (by omega))).hp (by omega)).mono ?_
  rw [c2]
  rintro e w6 ⟨rfl, hB6⟩
  have hB6s := hB6.size
  obtain ⟨bc6, -⟩ := bcell hB6
  have l1 : w.heap.size < w5.heap.size := by omega
  have HB6 := hide ((unhide HB5).trans (hB6.mono (by omega)))
  clear hB6
  go_wp2_with fail
  refine (rmain_any ((unhide HGW).below ((unhide HB6).mono (by omega)) (by omega))).mono ?_
  rw [c3]
  rintro e w7 ⟨rfl, hB7⟩
  have hB7s := hB7.size
  obtain ⟨bc7, -⟩ := bcell hB7
  have l2 : w.heap.size < w6.heap.size := by omega
  have HB7 := hide ((unhide HB6).trans (hB7.mono (by omega)))
  clear hB7 HB5 HB6
  go_wp2
  clear bc5 bc6 bc7 x0 x1 x2 x3 l0 l1 l2
  go_loopw [22] (fun i wr => ∃ k : Nat, k ≤ p.fs.length ∧ i = .int .i64 k ∧ fstF p p.fs 0 = fstF p (p.fs.drop k) k ∧ Below W.heap.size W wr) (fun i _ => p.fs.length - (intOf i).toNat)
  case atStart => exact ⟨0, Nat.zero_le _, rfl, rfl, unhide HB7⟩
  case round =>
    obtain ⟨k, hk, rfl, hR, hB⟩ := hrel
    have hszr := hB.size
    by_cases hlt : k < p.fs.length
    · obtain ⟨bc, -⟩ := bcell hB
      obtain ⟨x0, x1, x2, x3⟩ := unhide X
      obtain ⟨rfl, hb1⟩ := unhide HS1 (by omega)
      have hBN : Below N w wr := ((unhide HB0).mono hle).trans (hB.mono (by omega))
      obtain ⟨v, g1, g2, g3, g4, g5, hcd⟩ := FuAt.below hBN hb1 (unhide HL1 k hlt)
      have HCD := hide hcd
      obtain ⟨b2, o2, ⟨a2, c2', rfl, -⟩, -⟩ := hcd
      rw [fstF_drop _ _ _ hlt] at hR
      have HGr := hide ((unhide HGW).below (hB.mono (by omega)) (by omega))
      have l0 : w.heap.size < W.heap.size := by omega
      have z1 : w.heap.size < wr.heap.size := by omega
      have z2 : b1 < wr.heap.size := by omega
      generalize p.fs[k] = f at *
      obtain ⟨ea, eb, hc⟩ : ∃ a b, cFun p f = (a, b) := ⟨_, _, rfl⟩
      rw [hc] at hR
      have HR := hide hR
      have HC := hide hc
      have HB := hide hB
      clear hR hB hBN hc
      by_cases ce : ea = 0
      · subst ce
        have HR2 := hide ((unhide HR).trans (if_pos rfl))
        clear HR
        go_wp2
        go_region_with (first | (go_at_call 33; refine (cfun_is ((unhide HGr).below (Below.refl _ _).drew (unhide HGr).le) f (code_below (Below.refl _ _).drew (unhide HCD)) (unhide HC)).mono ?_; rintro e w8 ⟨rfl, hB8⟩; have HB8 := hide hB8; clear hB8))
        all_goals
          go_wp2
          go_roundw
          case rel => exact ⟨k + 1, by omega, by go_num, unhide HR2, (unhide HB).trans (((Below.refl _ _).drew.trans (unhide HB8)).mono hszr)⟩
          case measure => simp [intOf]; omega
      · have q : (ea != 0) = true := by simpa using ce
        have HR2 := hide ((unhide HR).trans (if_neg ce))
        clear HR ce
        go_wp2
        go_region_with (first | (go_at_call 33; refine (cfun_is ((unhide HGr).below (Below.refl _ _).drew (unhide HGr).le) f (code_below (Below.refl _ _).drew (unhide HCD)) (unhide HC)).mono ?_; rintro e w8 ⟨rfl, hB8⟩; have HB8 := hide hB8; clear hB8))
        all_goals
          go_wp2
          go_ret3
          exact ⟨ret_tri ((unhide E).trans (unhide HR2)), (unhide HB0).trans (((unhide HB).trans (((Below.refl _ _).drew.trans (unhide HB8)).mono hszr)).mono (by omega))⟩
    · have HR := hide (hR.trans (by rw [List.drop_eq_nil_of_le (by omega)]))
      have HB := hide hB
      clear hR hB
      go_wp2
      go_ret3
      exact ⟨ret_tri ((unhide E).trans (unhide HR)), (unhide HB0).trans ((unhide HB).mono (by omega))⟩

/-- what Depths tells -/
def DepsPost (w : World) (p : Pg) (f : Int) (e : Ending) (w' : World) : Prop :=
  Below w.heap.size w w' ∧ (((chk p).1 ≠ 0 ∧ e = .returned (.tuple #[.slice none 0 0, .int .i64 (chk p).1])) ∨ ((chk p).1 = 0 ∧ wthn f p.fs.length = false ∧ e = .returned (.tuple #[.slice none 0 0, .int .i64 1])) ∨
    ((chk p).1 = 0 ∧ ∃ (j : Nat) (h : j < p.fs.length) (D : Nat), f = (j : Int) ∧ w.heap.size ≤ D ∧ RowI w' D (dps p p.fs[j].cd 0 (dp0 p.fs[j].cd.length)).2.2 ∧ (dps p p.fs[j].cd 0 (dp0 p.fs[j].cd.length)).2.2.length = p.fs[j].cd.length ∧
      e = .returned (.tuple #[.slice (some ⟨D, 0, none⟩) p.fs[j].cd.length p.fs[j].cd.length, .int .i64 0])))

end Go.Proofs.YtgheaieghoekhaaDoor
