/- Layer 12: the document's ring, each call in one word; both rings and what points to them. -/
import Derived.Test.YtfheeifllpnjaaaDa
import Derived.Test.YtfheeifllpnjaaaRh
namespace Go.Proofs.Ytfheeifllpnjaaa
open Go.RowKit Go.Shelf

def DRI (w : World) (B : Nat) (F : Nat → Prop) (b : Nat) (xs : List Int) (n m : Nat) : Prop := ∃ v ys o, DR w B F b v ys o n ∧ xs = ys.drop o ∧ ys.length ≤ m

section
variable {w w' : World} {B : Nat} {F : Nat → Prop} {b : Nat} {xs : List Int} {n m : Nat}

theorem DRI.ch {Q : Nat → Prop} (h : DRI w B F b xs n m) (hc : Ch Q w w') (hq : ∀ x, F x → ¬ Q x) : DRI w' B F b xs n m := by
  obtain ⟨v, ys, o, h, e⟩ := h
  exact ⟨v, ys, o, h.ch hc hq, e⟩
theorem DRI.foot (h : DRI w B F b xs n m) (x : Nat) (hx : F x) : B ≤ x ∧ x < w.heap.size := by
  obtain ⟨v, ys, o, h, e⟩ := h
  rcases (h.foot x).1 hx with rfl | e
  · exact ⟨h.lo, h.lt⟩
  · have := own_in h.row e
    exact ⟨this.1, this.2.1⟩
theorem dr_len (h : DRI w B F b xs n m) : Calls Try.prog 17 #[.pointer (some ⟨b, 0, none⟩)] w fun e w' => e = .returned (.int .i64 (xs.length : Int)) ∧ Ch (fun _ => False) w w' := by
  obtain ⟨v, ys, o, h, rfl, -⟩ := h
  rw [List.length_drop]
  exact rlen_b h
theorem dr_lenq (h : DRI w B F b xs n m) (k : Nat) : Calls Try.prog 17 #[.pointer (some ⟨b, 0, none⟩)] (w.drewN k) fun e w' => e = .returned (.int .i64 (xs.length : Int)) ∧ ∃ m, w' = w.drewN m := by
  obtain ⟨v, ys, o, h, rfl, -⟩ := h
  rw [List.length_drop]
  exact rlen_q h k
theorem dr_put (h : DRI w B F b xs n m) (hm : m ≤ 100000) (x : Int) : Calls Try.prog 10 #[.pointer (some ⟨b, 0, none⟩), .int .i64 x] w fun e w' => ∃ F', e = .returned (.bool (decide (xs.length < n))) ∧ DRI w' B F' b (putL xs n x) n (m + 1) ∧ Ch F w w' ∧ ∀ y, F' y → F y ∨ w.heap.size ≤ y := by
  obtain ⟨v, ys, o, h, rfl, hl⟩ := h
  unfold putL
  rw [List.length_drop]
  by_cases hn : ys.length - o < n
  · rw [if_pos hn, decide_eq_true hn]
    refine (rput_ok h x hn (by omega)).mono ?_
    rintro e w' ⟨F', v', e1, e2, e3, e4⟩
    exact ⟨F', e1, ⟨v', _, o, e2, by rw [List.drop_append_of_le_length h.out], by rw [List.length_append, List.length_singleton]; omega⟩, e3, e4⟩
  · rw [if_neg hn, decide_eq_false hn]
    refine (rput_full h x hn).mono ?_
    rintro e w' ⟨e1, e2⟩
    exact ⟨F, e1, ⟨v, ys, o, h.ch e2 (fun _ _ h => h), rfl, by omega⟩, e2.mono (fun _ _ h => h.elim), fun y hy => Or.inl hy⟩
theorem dr_take (h : DRI w B F b xs n m) : Calls Try.prog 12 #[.pointer (some ⟨b, 0, none⟩)] w fun e w' => e = .returned (.tuple #[.int .i64 (xs.headD 0), .bool (!xs.isEmpty)]) ∧ DRI w' B F b xs.tail n m ∧ Ch F w w' := by
  obtain ⟨v, ys, o, h, rfl, hl⟩ := h
  by_cases ho : o < ys.length
  · refine (rtake_ok h ho).mono ?_
    rintro e w' ⟨e1, e2, e3⟩
    rw [List.drop_eq_getElem_cons ho]
    exact ⟨e1, ⟨v, ys, o + 1, e2, rfl, hl⟩, e3⟩
  · have h0 : ys.drop o = [] := List.drop_of_length_le (by omega)
    refine (rtake_no h (by omega)).mono ?_
    rintro e w' ⟨e1, e2⟩
    rw [h0]
    exact ⟨e1, ⟨v, ys, o, h.ch e2 (fun _ _ h => h), h0.symm, hl⟩, e2.mono (fun _ _ h => h.elim)⟩
theorem dr_at (h : DRI w B F b xs n m) (i : Int) : Calls Try.prog 14 #[.pointer (some ⟨b, 0, none⟩), .int .i64 i] w fun e w' => e = .returned (.tuple #[.int .i64 (atX xs i), .bool (atB xs i)]) ∧ Ch (fun _ => False) w w' := by
  obtain ⟨v, ys, o, h, rfl, hl⟩ := h
  unfold atX
  cases hb : atB (ys.drop o) i with
  | false =>
    refine rat_no h i ?_
    unfold atB at hb
    rw [List.length_drop] at hb
    simp only [Bool.and_eq_false_iff, decide_eq_false_iff_not] at hb
    omega
  | true =>
    unfold atB at hb
    rw [List.length_drop] at hb
    simp only [Bool.and_eq_true, decide_eq_true_eq] at hb
    obtain ⟨j, rfl⟩ : ∃ j : Nat, i = j := ⟨i.toNat, by omega⟩
    have hj : o + j < ys.length := by omega
    rw [if_pos rfl, show (j : Int).toNat = j from rfl, List.getElem?_drop, List.getElem?_eq_getElem hj]
    exact rat_ok h j hj
end

/-- both rings, and the boxes that a range looks into; all of it below N -/
structure TS (A4 A5 A7 bx p b N : Nat) (early : Int) (xs : List Int) (n m : Nat) (V : World) : Prop where
  bB : Boxed V A4 28 (.pointer (some ⟨b, 0, none⟩))
  bE : Boxed V A5 3 (.int .i64 early)
  bS : Boxed V A7 56 (.func (.func 27) #[] #[.pointer (some ⟨bx, 0, none⟩)])
  bX : Boxed V bx 24 (.pointer (some ⟨p, 0, none⟩))
  rings : ∃ B F G, PRI V B F p xs n ∧ DRI V B G b xs n m ∧ (∀ x, F x → x < N) ∧ ∀ x, G x → x < N
  l4 : A4 < N
  l5 : A5 < N
  l7 : A7 < N
  lx : bx < N

theorem TS.ch {A4 A5 A7 bx p b N : Nat} {early : Int} {xs : List Int} {n m : Nat} {V V' : World} (h : TS A4 A5 A7 bx p b N early xs n m V) {Q : Nat → Prop} (hc : Ch Q V V') (hq : ∀ x, x < N → ¬ Q x) : TS A4 A5 A7 bx p b N early xs n m V' := by
  obtain ⟨B, F, G, h1, h2, h3, h4⟩ := h.rings
  exact ⟨hc.box h.bB (hq _ h.l4), hc.box h.bE (hq _ h.l5), hc.box h.bS (hq _ h.l7), hc.box h.bX (hq _ h.lx), ⟨B, F, G, h1.ch hc (fun x hx => hq _ (h3 x hx)), h2.ch hc (fun x hx => hq _ (h4 x hx)), h3, h4⟩, h.l4, h.l5, h.l7, h.lx⟩

theorem name_tmps {F : Fence} {n : Nat} {P : Program} {c : Code} {Q : Exit → Act → World → Prop} {T : Array Value} {d : List Deferred} {w : World} (h : ∀ tm, tm = T → c.wpIn F n P Q { tmps := tm, defers := d } w) : c.wpIn F n P Q { tmps := T, defers := d } w := h T rfl

end Go.Proofs.Ytfheeifllpnjaaa
