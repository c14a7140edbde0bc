/- Layer 11: the landed book, as the face asks: Row, Of, All, Count, Get. -/
import Derived.Test.YtoabhmpakcgloaaHs
import Derived.Test.YtoabhmpakcgloaaHj
import Derived.Test.YtoabhmpakcgloaaHl
import Derived.Test.YtoabhmpakcgloaaXa
namespace Go.Proofs.Ytoabhmpakcgloaa
open Go.RowKit

section
variable {l : List Wt} {sl : List Sl} {full : Int} {en : Ln → Option (Int × Int)} {cl : Int × Int × Int → Option Int} {n : Nat}
theorem mbW_len (l : List Wt) (x : Ln) : (mbW l x).length = (sel (stW x) l).length := by simp [mbW]
theorem sel_mem {q : Wt → Bool} {r : Rc} (h : r ∈ sel q l) : ∃ t ∈ l, q t = true ∧ t.r = r := by
  unfold sel at h
  obtain ⟨t, h1, h2⟩ := List.mem_map.1 h
  rw [List.mem_filter] at h1
  exact ⟨t, h1.1, h1.2, h2⟩
/-- a line's members and their records -/
theorem BInv.recs (h : BInv l sl full en cl n) (x : Ln) : ∀ j (hj : j < (mbW l x).length) (hj' : j < (sel (stW x) l).length) i (hi : i < sl.length), (mbW l x)[j] = (i : Int) + 1 → sl[i].r = (sel (stW x) l)[j] := by
  intro j hj hj' i hi e
  have e1 : (mbW l x)[j] = (sel (stW x) l)[j].ms := by simp [mbW]
  obtain ⟨t, h1, h2, h3⟩ := sel_mem (List.getElem_mem hj')
  rw [← h3]
  exact h.live t h1 (stW_live h2) i hi (by rw [← e, e1, h3])
theorem BInv.bnd (h : BInv l sl full en cl n) (x : Ln) : ∀ s ∈ mbW l x, 0 < s ∧ s ≤ sl.length := by
  intro s hs
  obtain ⟨t, h1, h2, rfl⟩ := mbW_mem.1 hs
  have := h.dom t h1
  omega
theorem BInv.full_le (h : BInv l sl full en cl n) : full ≤ sl.length := by
  by_cases h0 : 1 ≤ full
  · obtain ⟨t, h1, h2, h3⟩ := usdW_mem.1 (h.fl full h0 (Int.le_refl _))
    have := h.dom t h1
    omega
  · omega
end

/-- the landed book lies so, in the blocks of F -/
def PTb (w : World) (B : Nat) (F : Nat → Prop) (p : Nat) (l : List Wt) : Prop := ∃ wv M C sl full en cl n, Bk w B p wv M C sl full en cl n ∧ BInv l sl full en cl n ∧ F = bkF p M C wv ∧ sl.length ≤ l.length

variable {w : World} {B p : Nat} {F : Nat → Prop} {l : List Wt}

theorem line_is (h : PTb w B F p l) (hl : l.length ≤ 100000) (x : Ln) (hk : x.k < 3) : Calls Try.prog 32 #[.pointer (some ⟨p, 0, none⟩), lnV x] w fun e w' => ∃ v', e = .returned v' ∧ RcRow w' w.heap.size v' (sel (stW x) l) ∧ Below w.heap.size w w' := by
  obtain ⟨wv, M, C, sl, full, en, cl, n, hb, hi, rfl, hs⟩ := h
  have := sel_le (stW x) l
  exact list_is hb (by omega) x hk (hi.lines.en x) (hi.lines.sg x) (hi.bnd x) (mbW_len l x).symm (hi.recs x) (by omega)

theorem rowLow {α : Type} {f : α → List Value} {K : Nat} {e : TypeId} {w : World} {B B' : Nat} {v : Value} {l : List α} (h : Row f K e w B' v l) (hB : B ≤ B') : Row f K e w B v l := by
  obtain ⟨h1, h2⟩ := h
  refine ⟨h1, h2.imp id ?_⟩
  rintro ⟨g, cap, cur, e1, hg, rest⟩
  exact ⟨g, cap, cur, e1, Nat.le_trans hB hg, rest⟩
theorem PTb.below {w' : World} (h : PTb w B F p l) (hb : Below w.heap.size w w') : PTb w' B F p l := by
  obtain ⟨wv, M, C, sl, full, en, cl, n, h1, hi, e, hs⟩ := h
  exact ⟨wv, M, C, sl, full, en, cl, n, h1.below hb, hi, e, hs⟩

set_option maxHeartbeats 4000000 in
theorem row_is (h : PTb w B F p l) (hl : l.length ≤ 100000) (s g d : Int) : Calls Try.prog 15 #[.pointer (some ⟨p, 0, none⟩), rvW s g d] w fun e w' => ∃ v', e = .returned v' ∧ RcRow w' w.heap.size v' (sel (inRow s g d) l) ∧ Below w.heap.size w w' := by
  have HP := hide (h.below (below1 w (.cells #[.int .u32 s, .int .u32 g, .int .i64 d] 60)))
  go_enter Try.func15, Try.ntmps15
  go_wp2_with fail
  refine (line_is HP.out hl ⟨0, s, g, d, 0, 0⟩ (show (0 : Nat) < 3 by decide)).mono ?_
  rintro e W ⟨v, rfl, hr, hb⟩
  rw [stW_row] at hr
  have HR := hide (rowLow (B := w.heap.size) hr (by simp))
  have HB := hide ((below1 w (.cells #[.int .u32 s, .int .u32 g, .int .i64 d] 60)).trans (hb.mono (by simp)))
  clear hr hb
  go_wp2_with fail
  go_ret
  exact ⟨_, rfl, HR.out, HB.out⟩

set_option maxHeartbeats 4000000 in
theorem of_is (h : PTb w B F p l) (hl : l.length ≤ 100000) (s g : Int) : Calls Try.prog 39 #[.pointer (some ⟨p, 0, none⟩), hvW s g] w fun e w' => ∃ v', e = .returned v' ∧ RcRow w' w.heap.size v' (sel (isWho s g) l) ∧ Below w.heap.size w w' := by
  have HP := hide (h.below (below1 w (.cells #[.int .u32 s, .int .u32 g] 35)))
  go_enter Try.func39, Try.ntmps39
  go_wp2_with fail
  refine (line_is HP.out hl ⟨1, 0, 0, 0, s, g⟩ (show (1 : Nat) < 3 by decide)).mono ?_
  rintro e W ⟨v, rfl, hr, hb⟩
  rw [stW_who] at hr
  have HR := hide (rowLow (B := w.heap.size) hr (by simp))
  have HB := hide ((below1 w (.cells #[.int .u32 s, .int .u32 g] 35)).trans (hb.mono (by simp)))
  clear hr hb
  go_wp2_with fail
  go_ret
  exact ⟨_, rfl, HR.out, HB.out⟩

theorem cnt_is (h : PTb w B F p l) : Calls Try.prog 19 #[.pointer (some ⟨p, 0, none⟩)] w fun e w' => e = .returned (.int .i64 (cntW l : Int)) ∧ Below w.heap.size w w' := by
  obtain ⟨wv, M, C, sl, full, en, cl, n, h1, hi, e, hs⟩ := h
  refine (count_is h1).mono ?_
  rintro e w' ⟨rfl, rfl⟩
  exact ⟨by rw [hi.cnt]; rfl, Below.refl _ _⟩

/-- which wait a handle is of -/
theorem BInv.find {l : List Wt} {sl : List Sl} {full : Int} {en : Ln → Option (Int × Int)} {cl : Int × Int × Int → Option Int} {n : Nat} (h : BInv l sl full en cl n) {i : Nat} (hi : i < sl.length) (g : Int) : fnW l ((i : Int) + 1) g = (sl[i].r.ms == (i : Int) + 1 && sl[i].r.mg == g) ∧ gtW l ((i : Int) + 1) g = if (sl[i].r.ms == (i : Int) + 1 && sl[i].r.mg == g) then sl[i].r else zRc := by
  unfold fnW gtW
  cases hf : fndW l ((i : Int) + 1) g with
  | some k =>
    obtain ⟨hk, h1, h2, h3⟩ := fndW_some hf
    have e := h.live l[k] (List.getElem_mem _) h1 i hi h2
    have q : (sl[i].r.ms == (i : Int) + 1 && sl[i].r.mg == g) = true := by rw [e, h2, h3]; simp
    rw [q]
    simp [hk, e]
  | none =>
    have q : (sl[i].r.ms == (i : Int) + 1 && sl[i].r.mg == g) = false := by
      cases hq : (sl[i].r.ms == (i : Int) + 1 && sl[i].r.mg == g) with
      | false => rfl
      | true =>
        simp only [Bool.and_eq_true, beq_iff_eq] at hq
        cases hu : usdW l ((i : Int) + 1) with
        | false =>
          have := h.free i hi hu
          rw [this] at hq
          have : (0 : Int) = (i : Int) + 1 := hq.1
          omega
        | true =>
          obtain ⟨t, h1, h2, h3⟩ := usdW_mem.1 hu
          have e := h.live t h1 h2 i hi h3
          unfold fndW at hf
          rw [List.findIdx?_eq_none_iff] at hf
          have := hf t h1
          unfold isMe at this
          rw [e] at hq
          simp [h2, hq.1, hq.2] at this
    rw [q]
    exact ⟨rfl, rfl⟩
theorem BInv.out {l : List Wt} {sl : List Sl} {full : Int} {en : Ln → Option (Int × Int)} {cl : Int × Int × Int → Option Int} {n : Nat} (h : BInv l sl full en cl n) {s : Int} (hs : s = 0 ∨ (sl.length : Int) < s) (g : Int) : fndW l s g = none := by
  unfold fndW
  rw [List.findIdx?_eq_none_iff]
  intro t ht
  have := h.dom t ht
  have : ¬ t.r.ms = s := by omega
  simp [isMe, this]

end Go.Proofs.Ytoabhmpakcgloaa
