/- Layer 12: how the things of a ring lie in its places, on lists alone. -/
import Derived.Test.YtfheeifllpnjaaaBase
namespace Go.Proofs.Ytfheeifllpnjaaa
open Go.RowKit

theorem nf_open {P : Program} {T : TypeId} {z : Value} {k b : Nat} (h : (P.info? T).map (fun i => (i.zero, i.size, i.bytes)) = some (some z, k, b)) : ∃ i, P.info? T = some i ∧ i.zero = some z ∧ i.size = k ∧ i.bytes = b := by
  cases hi : P.info? T with
  | none => rw [hi] at h; cases h
  | some i =>
    rw [hi] at h
    simp only [Option.map_some, Option.some.injEq, Prod.mk.injEq] at h
    exact ⟨i, rfl, h.1, h.2.1, h.2.2⟩

/-- where the thing with i others ahead of it lies -/
def plc (n f i : Nat) : Nat := if n ≤ f + i then f + i - n else f + i

theorem plc_lt {n f i : Nat} (hf : f < n) (hi : i < n) : plc n f i < n := by
  unfold plc
  split <;> omega
theorem plc_inj {n f i j : Nat} (hi : i < n) (hj : j < n) (h : plc n f i = plc n f j) : i = j := by
  unfold plc at h
  split at h <;> split at h <;> omega
theorem plc_one {n f i : Nat} (hf : f < n) (hi : i + 1 < n) : plc n (plc n f 1) i = plc n f (i + 1) := by
  unfold plc
  split <;> split <;> (try split) <;> omega
theorem plc_zero {n f : Nat} (hf : f < n) : plc n f 0 = f := by
  unfold plc
  rw [if_neg (by omega)]
  rfl

structure Lies {α : Type} (xs pl : List α) (n f : Nat) : Prop where
  len : pl.length = n
  cnt : xs.length ≤ n
  fst : f < n ∨ (f = 0 ∧ n = 0)
  at_ : ∀ i (h : i < xs.length), pl[plc n f i]? = some xs[i]

section
variable {α : Type} {xs pl : List α} {n f : Nat}

theorem Lies.f_lt (h : Lies xs pl n f) (h0 : 0 < n) : f < n := h.fst.elim id (fun e => by omega)
theorem Lies.f_le (h : Lies xs pl n f) : f ≤ n := h.fst.elim (fun e => by omega) (fun e => by omega)
theorem Lies.new (z : α) (n : Nat) : Lies [] (List.replicate n z) n 0 := ⟨List.length_replicate, Nat.zero_le _, by omega, fun i h => absurd h (Nat.not_lt_zero _)⟩
theorem Lies.put (h : Lies xs pl n f) (hn : xs.length < n) (x : α) : Lies (xs ++ [x]) (pl.set (plc n f xs.length) x) n f := by
  have hf := h.f_lt (by omega)
  refine ⟨by rw [List.length_set]; exact h.len, by rw [List.length_append, List.length_singleton]; omega, h.fst, fun i hi => ?_⟩
  rw [List.length_append, List.length_singleton] at hi
  by_cases hix : i < xs.length
  · rw [List.getElem?_set_ne (fun e => by have := plc_inj hn (by omega) e; omega), h.at_ i hix, List.getElem_append_left hix]
  · obtain rfl : i = xs.length := by omega
    rw [List.getElem?_set_self (by rw [h.len]; exact plc_lt hf hn)]
    simp
theorem Lies.take {a : α} (h : Lies (a :: xs) pl n f) (z : α) : Lies xs (pl.set f z) n (plc n f 1) ∧ pl[f]? = some a := by
  have hc := h.cnt
  rw [List.length_cons] at hc
  have hf := h.f_lt (by omega)
  refine ⟨⟨by rw [List.length_set]; exact h.len, by omega, ?_, fun i hi => ?_⟩, ?_⟩
  · rcases Nat.lt_or_ge 1 n with h1 | h1
    · exact Or.inl (plc_lt hf h1)
    · left
      unfold plc
      split <;> omega
  · have := h.at_ (i + 1) (by rw [List.length_cons]; omega)
    rw [plc_one hf (by omega), List.getElem?_set_ne (fun e => ?_), this]
    · rfl
    · have := plc_inj (n := n) (f := f) (i := 0) (j := i + 1) (by omega) (by omega) (by rw [plc_zero hf]; exact e)
      omega
  · have := h.at_ 0 (by rw [List.length_cons]; omega)
    rw [plc_zero hf] at this
    exact this
theorem Lies.get (h : Lies xs pl n f) {i : Nat} (hi : i < xs.length) : pl[plc n f i]? = some xs[i] := h.at_ i hi
/-- what lies from the first place on, and what lies round the end -/
theorem Lies.held (h : Lies xs pl n f) : (pl.drop f).take xs.length ++ pl.take (xs.length - (n - f)) = xs := by
  have hc := h.cnt
  have hl := h.len
  have hfl := h.f_le
  refine List.ext_getElem? fun i => ?_
  by_cases hi : i < xs.length
  · have hf := h.f_lt (by omega)
    rw [List.getElem?_eq_getElem hi, ← h.at_ i hi]
    unfold plc
    have l1 : ((pl.drop f).take xs.length).length = min xs.length (n - f) := by rw [List.length_take, List.length_drop, hl]
    by_cases hb : n ≤ f + i
    · rw [if_pos hb, List.getElem?_append_right (by rw [l1]; omega), l1, List.getElem?_take_of_lt (by omega)]
      congr 1
      omega
    · rw [if_neg hb, List.getElem?_append_left (by rw [l1]; omega), List.getElem?_take_of_lt hi, List.getElem?_drop]
  · rw [List.getElem?_eq_none (l := xs) (by omega), List.getElem?_eq_none]
    rw [List.length_append, List.length_take, List.length_take, List.length_drop, hl]
    omega

end
end Go.Proofs.Ytfheeifllpnjaaa
