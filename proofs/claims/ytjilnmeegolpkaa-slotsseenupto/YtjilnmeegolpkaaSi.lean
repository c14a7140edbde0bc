/- Layer 10: the document's calls, each in one word. -/
import Derived.Test.YtjilnmeegolpkaaSg
namespace Go.Proofs.Ytjilnmeegolpkaa
open Go.RowKit

section
variable {α : Type}
def fnB (l : List (ThG α)) (s g : Int) : Bool := (fnd l s g).isSome
def srX (l : List (ThG α)) (s g : Int) : Int := match fnd l s g with
  | none => 0
  | some i => i + 1
def frd (l : List (ThG α)) (s g : Int) : List (ThG α) := match fnd l s g with
  | none => l
  | some i => fre l i
def std (l : List (ThG α)) (s g : Int) (x : α) : List (ThG α) := match fnd l s g with
  | none => l
  | some i => sett l i x
def tkd (l : List (ThG α)) (M : Nat) (x : α) : List (ThG α) := match emp l M 1 with
  | none => l
  | some s => tkn l s x
def tkS (l : List (ThG α)) (M : Nat) : Int := (emp l M 1).getD 0
def tkG (l : List (ThG α)) (M : Nat) : Int := match emp l M 1 with
  | none => 0
  | some s => gens l s + 1
def tkB (l : List (ThG α)) (M : Nat) : Bool := (emp l M 1).isSome
/-- an error's number -/
def ec (b : Bool) (c : Int) : Int := if b then 0 else c

theorem frd_len (l : List (ThG α)) (s g : Int) : (frd l s g).length = l.length := by
  unfold frd
  split
  · rfl
  · simp [fre]
theorem std_len (l : List (ThG α)) (s g : Int) (x : α) : (std l s g x).length = l.length := by
  unfold std
  split
  · rfl
  · simp [sett]
theorem tkd_len (l : List (ThG α)) (M : Nat) (x : α) : (tkd l M x).length = l.length + if tkB l M then 1 else 0 := by
  unfold tkd tkB
  split <;> rename_i h <;> simp [h, tkn]

/-- the handles of all things -/
def hnds (l : List (ThG α)) : List (Int × Int) := l.map fun t => (t.s, t.g)
theorem hnds_mod (l : List (ThG α)) (i : Nat) (f : ThG α → ThG α) (hf : ∀ t, (f t).s = t.s ∧ (f t).g = t.g) : hnds (l.modify i f) = hnds l := by
  unfold hnds
  induction l generalizing i with
  | nil => simp
  | cons t l ih =>
    cases i with
    | zero => simp [hf t]
    | succ i => simpa using ih i
theorem hnds_frd (l : List (ThG α)) (s g : Int) : hnds (frd l s g) = hnds l := by
  unfold frd
  split
  · rfl
  · exact hnds_mod _ _ _ fun _ => ⟨rfl, rfl⟩
theorem hnds_std (l : List (ThG α)) (s g : Int) (x : α) : hnds (std l s g x) = hnds l := by
  unfold std
  split
  · rfl
  · exact hnds_mod _ _ _ fun _ => ⟨rfl, rfl⟩
theorem hnds_tkd (l : List (ThG α)) (M : Nat) (x : α) : hnds (tkd l M x) = if tkB l M then hnds l ++ [(tkS l M, tkG l M)] else hnds l := by
  unfold tkd tkB tkS tkG
  split <;> rename_i h <;> simp [h, tkn, hnds]

end
def gtX (l : List Th) (s g : Int) : Int := match fnd l s g with
  | none => 0
  | some i => (l[i]?.map ThG.x).getD 0
variable {w : World} {B b : Nat} {v : Value} {l : List Th} {m : Int}

theorem rfree_u (h : DT w B b v l m) (s g : Int) :
    Calls Try.prog 33 #[.pointer (some ⟨b, 0, none⟩), hv s g] w fun e w' => e = .returned (.bool (fnB l s g)) ∧ DT w' B b v (frd l s g) m ∧ Ch (fun x => v.ownBlock = some x) w w' := by
  unfold fnB frd
  cases hr : fnd l s g with
  | none => exact (rfree_no h s g hr).mono fun e w' ⟨h1, h2⟩ => ⟨h1, h.below h2, Ch.of_below h2⟩
  | some i => exact rfree_is h s g hr
theorem rset_u (h : DT w B b v l m) (s g x : Int) :
    Calls Try.prog 35 #[.pointer (some ⟨b, 0, none⟩), hv s g, .int .i64 x] w fun e w' => e = .returned (.bool (fnB l s g)) ∧ DT w' B b v (std l s g x) m ∧ Ch (fun x => v.ownBlock = some x) w w' := by
  unfold fnB std
  cases hr : fnd l s g with
  | none => exact (rset_no h s g x hr).mono fun e w' ⟨h1, h2⟩ => ⟨h1, h.below h2, Ch.of_below h2⟩
  | some i => exact rset_is h s g x hr
theorem rget_u (h : DT w B b v l m) (s g : Int) :
    Calls Try.prog 34 #[.pointer (some ⟨b, 0, none⟩), hv s g] w fun e w' => e = .returned (.tuple #[.int .i64 (gtX l s g), .bool (fnB l s g)]) ∧ Below w.heap.size w w' := by
  unfold fnB gtX
  cases hr : fnd l s g with
  | none => exact rget_no h s g hr
  | some i =>
    obtain ⟨hi, _⟩ := fnd_some hr
    have hx : l[i]?.map ThG.x = some l[i].x := by rw [List.getElem?_eq_getElem hi]; rfl
    simp only [hx]
    exact rget_is h s g hr hx
theorem rserial_u (h : DT w B b v l m) (s g : Int) :
    Calls Try.prog 36 #[.pointer (some ⟨b, 0, none⟩), hv s g] w fun e w' => e = .returned (.tuple #[.int .i64 (srX l s g), .bool (fnB l s g)]) ∧ Below w.heap.size w w' := by
  unfold fnB srX
  cases hr : fnd l s g with
  | none => exact rserial_no h s g hr
  | some i => exact rserial_is h s g hr
theorem rtake_u (h : DT w B b v l m) (hl : l.length ≤ 100000) (hF : Fit l) (x : Int) {M : Nat} (hM : m = M) (hM2 : M ≤ 500) (hBw : B ≤ w.heap.size) :
    Calls Try.prog 32 #[.pointer (some ⟨b, 0, none⟩), .int .i64 x] w fun e w' => ∃ v', e = .returned (.tuple #[hv (tkS l M) (tkG l M), .bool (tkB l M)]) ∧ DT w' B b v' (tkd l M x) m ∧ Ch (fun y => y = b ∨ v.ownBlock = some y) w w' ∧ ∀ g, v'.ownBlock = some g → v.ownBlock = some g ∨ w.heap.size ≤ g := by
  refine rtake_cps h hl hF x hM hM2 hBw _ (hide fun hn w' hb => ?_) (hide fun s hs w' v' h1 h2 h3 => ?_)
  · exact ⟨v, by unfold tkS tkG tkB; rw [hn]; rfl, by unfold tkd; rw [hn]; exact h.below hb, Ch.of_below hb, fun _ h => Or.inl h⟩
  · exact ⟨v', by unfold tkS tkG tkB; rw [hs]; rfl, by unfold tkd; rw [hs]; exact h1, h2, h3⟩

/-! ### The law's own small functions -/

theorem code_is (z : Bool) (c : Int) (w : World) : Calls Try.prog 10 #[.bool z, .int .i64 c] w fun e w' => e = .returned (.int .i64 (ec z c)) ∧ w' = w := by
  cases z
  · go_enter Try.func10, Try.ntmps10
    go_wp2
    go_ret
    exact ⟨rfl, rfl⟩
  · go_enter Try.func10, Try.ntmps10
    go_wp2
    go_ret
    exact ⟨rfl, rfl⟩

theorem pick_is {c : Int} (h1 : -9223372036854775808 ≤ c) (h2 : c ≤ 9223372036854775807) {n : Nat} (hn : 0 < n) (hn2 : n ≤ 100000) (w : World) :
    Calls Try.prog 16 #[.int .i64 c, .int .i64 (n : Int)] w fun e w' => ∃ k : Nat, k < n ∧ e = .returned (.int .i64 (k : Int)) ∧ w' = w := by
  have key : ∀ d : Int, 0 ≤ d → d ≤ 9223372036854775807 → ∃ k : Nat, k < n ∧ d % (n : Int) = (k : Int) := by
    intro d _ _
    have e1 := Int.emod_nonneg d (show (n : Int) ≠ 0 by omega)
    have e2 := Int.emod_lt_of_pos d (show (0 : Int) < n by omega)
    exact ⟨(d % (n : Int)).toNat, by omega, by omega⟩
  have hz : ((n : Int) == 0) = false := by simp; omega
  by_cases hc : c < 0
  · obtain ⟨k, hk, e⟩ := key (-(c + 1)) (by omega) (by omega)
    have w1 : IntKind.i64.wrap (c + 1) = c + 1 := by rw [IntKind.wrap_i64]; omega
    have w2 : IntKind.i64.wrap (-(c + 1)) = -(c + 1) := by rw [IntKind.wrap_i64]; omega
    go_enter Try.func16, Try.ntmps16
    go_wp2
    go_ret
    exact ⟨k, hk, ret_int (by rw [← Int.neg_tmod, Int.tmod_eq_emod_of_nonneg (by omega)]; exact e), rfl⟩
  · obtain ⟨k, hk, e⟩ := key c (by omega) (by omega)
    go_enter Try.func16, Try.ntmps16
    go_wp2
    go_ret
    exact ⟨k, hk, ret_int (by first | rfl | exact e), rfl⟩

theorem pick_at {c : Int} (h1 : -9223372036854775808 ≤ c) (h2 : c ≤ 9223372036854775807) (N : Int) {n : Nat} (hN : (n : Int) = N) (hn : 0 < n) (hn2 : n ≤ 100000) (w : World) :
    Calls Try.prog 16 #[.int .i64 c, .int .i64 N] w fun e w' => ∃ k : Nat, k < n ∧ e = .returned (.int .i64 (k : Int)) ∧ w' = w := by
  subst hN
  exact pick_is h1 h2 hn hn2 w

end Go.Proofs.Ytjilnmeegolpkaa
