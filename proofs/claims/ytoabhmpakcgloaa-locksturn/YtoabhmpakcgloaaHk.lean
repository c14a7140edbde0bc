/- Layer 11: the landed book: a slot joins a line, parts from one. -/
import Derived.Test.YtoabhmpakcgloaaHi
namespace Go.Proofs.Ytoabhmpakcgloaa
open Go.RowKit

theorem lkS_at (sl : List Sl) (k i : Nat) (hi : i < sl.length) : lkS sl k ((i : Int) + 1) = sl[i].lk k := by
  unfold lkS
  rw [if_pos (by omega), show ((i : Int) + 1 - 1).toNat = i by omega, List.getElem?_eq_getElem hi]
  rfl
theorem idx_of {s : Int} {n : Nat} (h1 : 0 < s) (h2 : s ≤ n) : ∃ j : Nat, j < n ∧ s = (j : Int) + 1 := ⟨(s - 1).toNat, by omega, by omega⟩
theorem endW_ok {L : List Int} {n : Nat} (h1 : ∀ s ∈ L, 0 < s) (h2 : ∀ s ∈ L, s ≤ n) : (e0 (endW L)).2 = 0 ∨ ∃ j : Nat, j < n ∧ (e0 (endW L)).2 = (j : Int) + 1 := by
  cases L with
  | nil => exact Or.inl rfl
  | cons a r =>
    have hm : r.getLastD a ∈ a :: r := List.getLastD_mem_cons
    exact Or.inr (idx_of (h1 _ hm) (h2 _ hm))

variable {w : World} {B p M C n : Nat} {wv : Value} {sl : List Sl} {full : Int} {en : Ln → Option (Int × Int)} {cl : Int × Int × Int → Option Int} {Mb : Ln → List Int}

theorem join_L (h : Bk w B p wv M C sl full en cl n) (hl : sl.length ≤ 100001) (hL : LInv en (lkS sl) Mb) (hb : ∀ x, ∀ s ∈ Mb x, s ≤ sl.length) (x : Ln) (hk : x.k < 3) {i : Nat} (hi : i < sl.length) (hs : ∀ y, y.k = x.k → ((i : Int) + 1) ∉ Mb y) :
    Calls Try.prog 48 #[.pointer (some ⟨p, 0, none⟩), lnV x, .int .u32 ((i : Int) + 1)] w fun e w' => e = .returned (.tuple #[]) ∧ ∃ sl' en', Bk w' B p wv M C sl' full en' cl n ∧ LInv en' (lkS sl') (updW Mb x (Mb x ++ [(i : Int) + 1])) ∧ sl'.map Sl.gr = sl.map Sl.gr ∧ Ch (fun y => y = M ∨ wv.ownBlock = some y) w w' := by
  have he := endW_ok (h1 := hL.nz x) (h2 := hb x)
  rw [← hL.en x] at he
  refine (join_is h hl x hk hi (e1 := (e0 (en x)).1) (e2 := (e0 (en x)).2) rfl he).mono ?_
  rintro e w' ⟨rfl, h1, h2⟩
  refine ⟨rfl, _, _, h1, ?_, gr_join .., h2⟩
  rw [lkS_join (by omega) (by omega) (by rcases he with he | ⟨j, _, he⟩ <;> simp only [he] <;> omega) (by rcases he with he | ⟨j, hj, he⟩ <;> simp only [he] <;> omega) hk]
  exact hL.join x _ (by omega) hs

theorem part_L (h : Bk w B p wv M C sl full en cl n) (hl : sl.length ≤ 100001) (hL : LInv en (lkS sl) Mb) (hb : ∀ x, ∀ s ∈ Mb x, s ≤ sl.length) (x : Ln) (hk : x.k < 3) {i : Nat} (hi : i < sl.length) (hs : ((i : Int) + 1) ∈ Mb x) :
    Calls Try.prog 50 #[.pointer (some ⟨p, 0, none⟩), lnV x, .int .u32 ((i : Int) + 1)] w fun e w' => e = .returned (.tuple #[]) ∧ ∃ sl' en', Bk w' B p wv M C sl' full en' cl n ∧ LInv en' (lkS sl') (updW Mb x ((Mb x).erase ((i : Int) + 1))) ∧ sl'.map Sl.gr = sl.map Sl.gr ∧ Ch (fun y => y = M ∨ wv.ownBlock = some y) w w' := by
  obtain ⟨A, D, hM⟩ := List.append_of_mem hs
  have hlk := hL.link x hM
  have hnz := hL.nz x
  have hbx := hb x
  rw [hM] at hnz hbx
  have ha : A.getLastD 0 = 0 ∨ (e0 (en x)).1 ≠ 0 ∧ ∃ j : Nat, j < sl.length ∧ A.getLastD 0 = (j : Int) + 1 := by
    rcases List.eq_nil_or_concat A with rfl | ⟨A', a, rfl⟩
    · exact Or.inl rfl
    · right
      rw [List.concat_eq_append] at *
      rw [show (A' ++ [a]).getLastD 0 = a by simp [List.getLastD_eq_getLast?]]
      refine ⟨?_, idx_of (hnz a (by simp)) (hbx a (by simp))⟩
      rw [hL.en x, hM]
      cases A' with
      | nil =>
        have := hnz a (by simp)
        show a ≠ 0
        omega
      | cons b A'' =>
        have := hnz b (by simp)
        show b ≠ 0
        omega
  have hb' : D.headD 0 = 0 ∨ ∃ j : Nat, j < sl.length ∧ D.headD 0 = (j : Int) + 1 := by
    cases D with
    | nil => exact Or.inl rfl
    | cons d D' => exact Or.inr (idx_of (hnz d (by simp)) (hbx d (by simp)))
  refine (part_is h hl x hk hi (e1 := (e0 (en x)).1) (e2 := (e0 (en x)).2) rfl (a := A.getLastD 0) (b := D.headD 0) (by rw [← lkS_at]; exact hlk) ha hb').mono ?_
  rintro e w' ⟨rfl, h1, h2⟩
  refine ⟨rfl, _, _, h1, ?_, gr_part .., h2⟩
  have := hL.part x _ hs
  rw [hlk] at this
  rw [lkS_part (by rcases ha with ha | ⟨_, j, _, ha⟩ <;> simp only [ha] <;> omega) (by rcases ha with ha | ⟨_, j, _, ha⟩ <;> simp only [ha] <;> omega) (by rcases hb' with ha | ⟨j, _, ha⟩ <;> simp only [ha] <;> omega) (by rcases hb' with ha | ⟨j, _, ha⟩ <;> simp only [ha] <;> omega) hk]
  exact this

end Go.Proofs.Ytoabhmpakcgloaa
