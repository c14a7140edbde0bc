/- A way through a function of a right program. -/
import Derived.Test.YtgheaieghoekhaaDoorMb
namespace Go.Proofs.YtgheaieghoekhaaDoor
open Go.RowKit

abbrev dOf (p : Pg) (f : Fu) : List Int := (dps p f.cd 0 (dp0 f.cd.length)).2.2

theorem dp0_len {n : Nat} (h : 0 < n) : (dp0 n).length = n := by unfold dp0; simp; omega

theorem FunOk.all {p : Pg} {f : Fu} (h : FunOk p f) : (dOf p f).length = f.cd.length ∧ (dOf p f).getD 0 0 = 0 ∧ ∀ k (hk : k < f.cd.length), (dOf p f).getD k 0 = -1 ∨ Good p (dOf p f) k f.cd[k] := by
  have hl := dp0_len h.len.1
  obtain ⟨h1, h2, h3⟩ := dps_good (p := p) (r := f.cd) (k := 0) (d0 := dp0 f.cd.length) (by omega) h.dep
  refine ⟨h1.trans hl, ?_, fun k hk => ?_⟩
  · have := h2 0 (Or.inr (by unfold dp0; simp))
    rw [this]
    unfold dp0
    simp
  · have := h3 k hk
    rwa [Nat.zero_add] at this

/-- where one has come to -/
structure Way (p : Pg) (f : Fu) (at_ since : Nat) (depth : Int) : Prop where
  lt : at_ < f.cd.length
  eq : (dOf p f).getD at_ 0 = depth
  lo : 0 ≤ depth
  hi : depth ≤ 1000
  sn : since + 1 ≤ at_ ∨ (f.cd[at_]).op = 1

theorem way0 {p : Pg} {f : Fu} (h : FunOk p f) : Way p f 0 0 0 :=
  ⟨h.len.1, h.all.2.1, by omega, by omega, Or.inr (by rw [← op0_at h.len.1]; exact h.beat)⟩

/-- how many since the last beat -/
def since' (op : Int) (s : Nat) : Nat := if op = 1 then 0 else s + 1

section
variable {p : Pg} {f : Fu} (ok : FunOk p f) {at_ since : Nat} {depth : Int} (h : Way p f at_ since depth)
include ok h

theorem Way.good : Good p (dOf p f) at_ (f.cd[at_]'h.lt) := by
  rcases ok.all.2.2 at_ h.lt with e | g
  · have := h.eq
    have := h.lo
    omega
  · exact g

theorem Way.step : (eff p (f.cd[at_]'h.lt)).1 ≤ depth ∧ 0 ≤ depth - (eff p (f.cd[at_]'h.lt)).1 + (eff p (f.cd[at_]'h.lt)).2 ∧ depth - (eff p (f.cd[at_]'h.lt)).1 + (eff p (f.cd[at_]'h.lt)).2 ≤ 1000 ∧ since' (f.cd[at_]'h.lt).op since < f.cd.length := by
  have g := h.good ok
  have e := h.eq
  have g1 := g.le
  have g2 := g.most
  rw [e] at g1 g2
  have gv := (eff_gv p (f.cd[at_]'h.lt)).1
  refine ⟨g1, by omega, g2, ?_⟩
  unfold since'
  have := h.lt
  rcases h.sn with hs | hs
  · split <;> omega
  · rw [if_pos hs]; omega

omit ok in
theorem Way.snext : since' (f.cd[at_]'h.lt).op since ≤ at_ := by
  unfold since'
  rcases h.sn with hs | hs
  · split <;> omega
  · rw [if_pos hs]; omega

theorem Way.next (hS : tS (f.cd[at_]'h.lt).op.toNat = false) : Way p f (at_ + 1) (since' (f.cd[at_]'h.lt).op since) (depth - (eff p (f.cd[at_]'h.lt)).1 + (eff p (f.cd[at_]'h.lt)).2) := by
  have g := h.good ok
  obtain ⟨g1, g2⟩ := g.next hS
  obtain ⟨s1, s2, s3, s4⟩ := h.step ok
  rw [h.eq] at g2
  have hl := ok.all.1
  exact ⟨by omega, g2, s2, s3, Or.inl (by have := h.snext; omega)⟩

theorem Way.jump (hA : tA (f.cd[at_]'h.lt).op.toNat = 3) : ∃ j : Nat, (f.cd[at_]'h.lt).a = (j : Int) ∧ Way p f j (since' (f.cd[at_]'h.lt).op since) (depth - (eff p (f.cd[at_]'h.lt)).1 + (eff p (f.cd[at_]'h.lt)).2) := by
  have g := h.good ok
  have g2 := g.jump hA
  obtain ⟨s1, s2, s3, s4⟩ := h.step ok
  rw [h.eq] at g2
  have hj := (fstJ_zero ok.jmp).2 at_ h.lt
  rw [Nat.zero_add] at hj
  obtain ⟨j, ea, hjl⟩ := cj_zero hj hA
  rw [cj_in hA ea hjl] at hj
  rw [ea, Int.toNat_natCast] at g2
  refine ⟨j, ea, hjl, g2, s2, s3, ?_⟩
  by_cases hle : j ≤ at_
  · right
    by_cases ho : f.cd[j].op = 1
    · exact ho
    · rw [if_pos ⟨by omega, ho⟩] at hj
      cases hj
  · left
    have := h.snext
    omega
end

end Go.Proofs.YtgheaieghoekhaaDoor
