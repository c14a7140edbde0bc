/- Bytes read without care (the document's Read), there and back: on lists alone. The document's cursor: numbers and texts read without care. Lists that are appended to: instructions, items, bools, and lists of these. Boxes: blocks of a few cells. A program whose lists are a call's own. -/
import Derived.Test.YtgheaieghoekhaaDoorDd
import Derived.Test.YtgheaieghoekhaaDoorMb
import Derived.Test.YtgheaieghoekhaaDoorDi
import Derived.OwnWalk
namespace Go.Proofs.YtgheaieghoekhaaDoor
open Go.RowKit

/-- what is left; it ended too early -/
structure Cs where
  l : List UInt8
  b : Bool

def cNum (k : Nat) (s : Cs) : Int × Cs := if k ≤ s.l.length then (wrap64 (bval (s.l.take k)), ⟨s.l.drop k, s.b⟩) else (0, ⟨s.l, true⟩)
def cText (s : Cs) : ByteArray × Cs :=
  if ((cNum 4 s).2.l.length : Int) < (cNum 4 s).1 then (⟨#[]⟩, ⟨(cNum 4 s).2.l, true⟩) else if (cNum 4 s).2.b = true then (⟨#[]⟩, (cNum 4 s).2) else (⟨((cNum 4 s).2.l.take (cNum 4 s).1.toNat).toArray⟩, ⟨(cNum 4 s).2.l.drop (cNum 4 s).1.toNat, (cNum 4 s).2.b⟩)
def cFlag (s : Cs) : Bool × Cs := ((cNum 1 s).1 == 1, (cNum 1 s).2)
def cIns (s : Cs) : In × Cs :=
  (⟨(cNum 1 s).1, (cNum 8 (cNum 1 s).2).1, (cNum 1 (cNum 8 (cNum 1 s).2).2).1, (cNum 4 (cNum 1 (cNum 8 (cNum 1 s).2).2).2).1⟩, (cNum 4 (cNum 1 (cNum 8 (cNum 1 s).2).2).2).2)
def cItem (s : Cs) : It × Cs := if (cNum 1 s).1 = 1 then (⟨(cNum 1 s).1, (cText (cNum 1 s).2).1⟩, (cText (cNum 1 s).2).2) else (⟨(cNum 1 s).1, ⟨#[]⟩⟩, (cNum 1 s).2)
def cMany {α : Type} (one : Cs → α × Cs) : Nat → Cs → List α × Cs
  | 0, s => ([], s)
  | n + 1, s => if s.b = true then ([], s) else ((one s).1 :: (cMany one n (one s).2).1, (cMany one n (one s).2).2)
def cList {α : Type} (one : Cs → α × Cs) (size : Nat) (s : Cs) : List α × Cs := cMany one (cNum size s).1.toNat (cNum size s).2
def cFn1 (s : Cs) : Fu × Cs :=
  (⟨(cText s).1, (cNum 1 (cText s).2).1, (cNum 2 (cNum 1 (cText s).2).2).1, (cFlag (cNum 2 (cNum 1 (cText s).2).2).2).1, []⟩, (cFlag (cNum 2 (cNum 1 (cText s).2).2).2).2)
def cFn (s : Cs) : Fu × Cs := ({ (cFn1 s).1 with cd := (cList cIns 4 (cFn1 s).2).1 }, (cList cIns 4 (cFn1 s).2).2)
def cPrint (s : Cs) : List It × Cs := cList cItem 1 s
def cArm (s : Cs) : List Bool × Cs := cList cFlag 1 s
def cA (s : Cs) : Int × Cs := cNum 4 (cNum 4 s).2
def cB (s : Cs) : List Fu × Cs := cList cFn 4 (cA s).2
def cC (s : Cs) : List (List It) × Cs := cList cPrint 4 (cB s).2
def cD (s : Cs) : List (List Bool) × Cs := cList cArm 4 (cC s).2
def cProg (s : Cs) : Pg × Cs := (⟨(cB s).1, (cC s).1, (cD s).1, (cA s).1⟩, (cD s).2)

/-! ### What is read with care is read without -/

theorem lc_num {k : Nat} {l r : List UInt8} {x : Int} (h : gNum k l = some (x, r)) : cNum k ⟨l, false⟩ = (x, ⟨r, false⟩) := by
  obtain ⟨h1, h2, h3⟩ := gNum_some h
  unfold cNum
  rw [if_pos h1, h2, h3]
theorem lc_text {l r : List UInt8} {x : ByteArray} (h : gText l = some (x, r)) : cText ⟨l, false⟩ = (x, ⟨r, false⟩) := by
  obtain ⟨⟨n, r1⟩, g1, h⟩ := bind_some h
  unfold cText
  rw [lc_num g1]
  unfold gTake at h
  simp only at h ⊢
  split at h
  · rename_i hn
    rw [if_neg (by omega), if_neg (by simp)]
    injection h with h
    injection h with h1 h2
    rw [h1, h2]
  · cases h
theorem lc_flag {l r : List UInt8} {x : Bool} (h : gFlag l = some (x, r)) : cFlag ⟨l, false⟩ = (x, ⟨r, false⟩) := by
  obtain ⟨⟨n, r1⟩, g1, h⟩ := bind_some h
  unfold cFlag
  rw [lc_num g1]
  simp only at h ⊢
  split at h
  · injection h with h
    injection h with h1 h2
    rw [h1, h2]
  · cases h
theorem lc_ins {l r : List UInt8} {x : In} (h : gIns l = some (x, r)) : cIns ⟨l, false⟩ = (x, ⟨r, false⟩) := by
  obtain ⟨⟨x1, r1⟩, g1, h⟩ := bind_some h
  obtain ⟨⟨x2, r2⟩, g2, h⟩ := bind_some h
  obtain ⟨⟨x3, r3⟩, g3, h⟩ := bind_some h
  obtain ⟨⟨x4, r4⟩, g4, h⟩ := bind_some h
  unfold cIns
  simp only at g2 g3 g4 h
  rw [lc_num g1]
  simp only [lc_num g2, lc_num g3, lc_num g4]
  injection h with h
  injection h with h1 h2
  rw [h1, h2]
theorem lc_item {l r : List UInt8} {x : It} (h : gItem l = some (x, r)) : cItem ⟨l, false⟩ = (x, ⟨r, false⟩) := by
  obtain ⟨⟨k, r1⟩, g1, h⟩ := bind_some h
  unfold cItem
  rw [lc_num g1]
  simp only at h ⊢
  split at h
  · rename_i hk
    obtain ⟨⟨t, r2⟩, g2, h⟩ := bind_some h
    rw [if_pos hk, lc_text g2]
    injection h with h
    injection h with h1 h2
    subst h1 h2
    rfl
  · rename_i hk
    rw [if_neg hk]
    injection h with h
    injection h with h1 h2
    rw [h1, h2]
theorem lc_many {α : Type} {one : List UInt8 → Option (α × List UInt8)} {two : Cs → α × Cs} (ho : ∀ {l r x}, one l = some (x, r) → two ⟨l, false⟩ = (x, ⟨r, false⟩)) :
    ∀ {n : Nat} {l r : List UInt8} {xs : List α}, gMany one n l = some (xs, r) → cMany two n ⟨l, false⟩ = (xs, ⟨r, false⟩)
  | 0, _, _, _, h => by rw [(gMany_zero h).1, (gMany_zero h).2]; rfl
  | n + 1, _, _, _, h => by
    obtain ⟨x, ys, r1, rfl, g1, g⟩ := gMany_succ h
    unfold cMany
    rw [if_neg (by simp), ho g1, lc_many @ho g]
theorem lc_list {α : Type} {one : List UInt8 → Option (α × List UInt8)} {two : Cs → α × Cs} (ho : ∀ {l r x}, one l = some (x, r) → two ⟨l, false⟩ = (x, ⟨r, false⟩))
    {size least : Nat} {most : Int} {l r : List UInt8} {xs : List α} (h : gList one size most least l = some (xs, r)) (hs : size ≤ 7) : cList two size ⟨l, false⟩ = (xs, ⟨r, false⟩) := by
  obtain ⟨n, r1, g1, _, _, g2⟩ := gList_some h hs
  unfold cList
  rw [lc_num g1]
  exact lc_many @ho (by simpa using g2)
theorem lc_fun {l r : List UInt8} {x : Fu} (h : gFun l = some (x, r)) : cFn ⟨l, false⟩ = (x, ⟨r, false⟩) := by
  obtain ⟨⟨x1, r1⟩, g1, h⟩ := bind_some h
  obtain ⟨⟨x2, r2⟩, g2, h⟩ := bind_some h
  obtain ⟨⟨x3, r3⟩, g3, h⟩ := bind_some h
  obtain ⟨⟨x4, r4⟩, g4, h⟩ := bind_some h
  obtain ⟨⟨x5, r5⟩, g5, h⟩ := bind_some h
  simp only at g2 g3 g4 g5 h
  have e : cFn1 ⟨l, false⟩ = (⟨x1, x2, x3, x4, []⟩, ⟨r4, false⟩) := by
    unfold cFn1
    rw [lc_text g1]
    simp only [lc_num g2, lc_num g3, lc_flag g4]
  unfold cFn
  rw [e]
  simp only [lc_list @lc_ins g5 (by omega)]
  injection h with h
  injection h with h1 h2
  rw [h1, h2]
theorem lc_prog {l : List UInt8} {p : Pg} (h : gProg l = some p) : cProg ⟨l, false⟩ = (p, ⟨[], false⟩) := by
  obtain ⟨⟨x1, r1⟩, g1, h⟩ := bind_some h
  simp only at h
  split at h
  · obtain ⟨⟨x2, r2⟩, g2, h⟩ := bind_some h
    obtain ⟨⟨x3, r3⟩, g3, h⟩ := bind_some h
    obtain ⟨⟨x4, r4⟩, g4, h⟩ := bind_some h
    obtain ⟨⟨x5, r5⟩, g5, h⟩ := bind_some h
    simp only at g3 g4 g5 h
    have e0 : (cNum 4 ⟨l, false⟩).2 = ⟨r1, false⟩ := by
      unfold gTake at g1
      split at g1
      · rename_i hn
        injection g1 with g1
        injection g1 with _ g1
        unfold cNum
        rw [if_pos (by simp only; omega), ← g1]
        rfl
      · cases g1
    have eA : cA ⟨l, false⟩ = (x2, ⟨r2, false⟩) := by unfold cA; rw [e0, lc_num g2]
    have eB : cB ⟨l, false⟩ = (x3, ⟨r3, false⟩) := by unfold cB; rw [eA]; exact lc_list @lc_fun g3 (by omega)
    have eC : cC ⟨l, false⟩ = (x4, ⟨r4, false⟩) := by unfold cC; rw [eB]; exact lc_list (fun h => lc_list @lc_item h (by omega)) g4 (by omega)
    have eD : cD ⟨l, false⟩ = (x5, ⟨r5, false⟩) := by unfold cD; rw [eC]; exact lc_list (fun h => lc_list @lc_flag h (by omega)) g5 (by omega)
    unfold cProg
    rw [eA, eB, eC, eD]
    split at h
    · rename_i he
      injection h with h
      rw [← h, he]
    · cases h
  · cases h

/-! ### What is read with care is written so -/

theorem beb_bval : ∀ (l : List UInt8) (n : Nat), n % 256 ^ l.length = bval l → beb (n : Int) l.length = l := by
  intro l
  induction l with
  | nil => intro n _; rfl
  | cons c l ih =>
    intro n h
    have hb : bval (c :: l) = c.toNat * 256 ^ l.length + bval l := by
      have gen : ∀ (l : List UInt8) (a : Nat), l.foldl (fun n b => n * 256 + b.toNat) a = a * 256 ^ l.length + bval l := by
        intro l
        induction l with
        | nil => intro a; simp [bval]
        | cons d l ih2 =>
          intro a
          unfold bval
          rw [List.foldl_cons, List.foldl_cons, ih2, ih2 (0 * 256 + d.toNat), List.length_cons, Nat.pow_succ]
          generalize 256 ^ l.length = P
          rw [Nat.add_mul, Nat.zero_mul, Nat.zero_add, Nat.mul_assoc, Nat.mul_comm 256 P, Nat.add_assoc]
      have := gen l c.toNat
      unfold bval at this ⊢
      rw [List.foldl_cons, Nat.zero_mul, Nat.zero_add, this]
    have hl := bval_lt l
    have hP : 0 < 256 ^ l.length := Nat.pow_pos (by decide)
    rw [List.length_cons, Nat.pow_succ] at h
    have h1 : n % 256 ^ l.length = bval l := by
      have := congrArg (· % 256 ^ l.length) h
      simp only [Nat.mod_mul_right_mod] at this
      rw [this, hb, Nat.add_comm, Nat.add_mul_mod_self_right, Nat.mod_eq_of_lt hl]
    have h2 : n / 256 ^ l.length % 256 = c.toNat := by
      rw [← Nat.mod_mul_right_div_self, h, hb, Nat.add_comm, Nat.add_mul_div_right _ _ hP, Nat.div_eq_of_lt hl, Nat.zero_add]
    unfold beb
    rw [List.length_cons]
    show nb (n : Int) l.length :: beb (n : Int) l.length = c :: l
    rw [ih n h1]
    congr 1
    have h3 : ((nb (n : Int) l.length).toNat : Int) = (c.toNat : Int) := by
      rw [nb_val, ← h2, Int.pow_mul, show (2 : Int) ^ 8 = ((256 : Nat) : Int) from rfl, ← Int.natCast_pow]
      omega
    exact UInt8.toNat_inj.1 (by omega)

theorem beb_wrap (n : Int) : ∀ k, k ≤ 8 → beb (wrap64 n) k = beb n k := by
  have h : ∀ s, s < 8 → nb (wrap64 n) s = nb n s := by
    intro s hs
    unfold nb
    congr 2
    have : s = 0 ∨ s = 1 ∨ s = 2 ∨ s = 3 ∨ s = 4 ∨ s = 5 ∨ s = 6 ∨ s = 7 := by omega
    unfold wrap64
    rcases this with rfl | rfl | rfl | rfl | rfl | rfl | rfl | rfl <;> simp only [Nat.reduceMul, Int.reducePow] <;> omega
  intro k
  induction k with
  | zero => intro _; rfl
  | succ k ih => intro hk; unfold beb; rw [h k (by omega), ih (by omega)]

theorem back_num {k : Nat} {l r : List UInt8} {x : Int} (h : gNum k l = some (x, r)) (hk : k ≤ 8) : beb x k ++ r = l := by
  obtain ⟨h1, h2, h3⟩ := gNum_some h
  have e : (l.take k).length = k := by rw [List.length_take]; omega
  have hb := beb_bval (l.take k) (bval (l.take k)) (Nat.mod_eq_of_lt (bval_lt _))
  rw [e] at hb
  rw [h2, h3, beb_wrap _ _ hk, hb, List.take_append_drop]
theorem back_take {n : Nat} {l r : List UInt8} {t : ByteArray} (h : gTake (n : Int) l = some (t, r)) : t.size = n ∧ t.data.toList ++ r = l := by
  unfold gTake at h
  split at h
  · rename_i hn
    injection h with h
    injection h with h1 h2
    subst h1 h2
    refine ⟨?_, ?_⟩
    · show (l.take (n : Int).toNat).toArray.size = n
      simp
      omega
    · show (l.take (n : Int).toNat).toArray.toList ++ _ = l
      simp
  · cases h
theorem back_text {l r : List UInt8} {x : ByteArray} (h : gText l = some (x, r)) : btext x ++ r = l := by
  obtain ⟨⟨n, r1⟩, g1, h⟩ := bind_some h
  obtain ⟨m, rfl, _⟩ := gNum_small g1 (by omega)
  obtain ⟨h1, h2⟩ := back_take h
  unfold btext
  rw [h1, List.append_assoc, h2, back_num g1 (by omega)]
theorem back_flag {l r : List UInt8} {x : Bool} (h : gFlag l = some (x, r)) : bflag x ++ r = l := by
  obtain ⟨⟨n, r1⟩, g1, h⟩ := bind_some h
  obtain ⟨m, rfl, _⟩ := gNum_small g1 (by omega)
  have hb := back_num g1 (by omega)
  simp only at h
  split at h
  · rename_i hm
    injection h with h
    injection h with h1 h2
    subst h1 h2
    have : m = 0 ∨ m = 1 := by omega
    rcases this with rfl | rfl
    · exact hb
    · exact hb
  · cases h
theorem back_ins {l r : List UInt8} {x : In} (h : gIns l = some (x, r)) : bins x ++ r = l := by
  obtain ⟨⟨x1, r1⟩, g1, h⟩ := bind_some h
  obtain ⟨⟨x2, r2⟩, g2, h⟩ := bind_some h
  obtain ⟨⟨x3, r3⟩, g3, h⟩ := bind_some h
  obtain ⟨⟨x4, r4⟩, g4, h⟩ := bind_some h
  injection h with h
  injection h with h1 h2
  subst h1 h2
  unfold bins
  simp only [List.append_assoc]
  rw [back_num g4 (by omega), back_num g3 (by omega), back_num g2 (by omega), back_num g1 (by omega)]
theorem back_item {l r : List UInt8} {x : It} (h : gItem l = some (x, r)) : bitem x ++ r = l := by
  obtain ⟨⟨k, r1⟩, g1, h⟩ := bind_some h
  simp only at h
  unfold bitem
  split at h
  · rename_i hk
    obtain ⟨⟨t, r2⟩, g2, h⟩ := bind_some h
    injection h with h
    injection h with h1 h2
    subst h1 h2
    simp only
    rw [if_pos hk, List.append_assoc, back_text g2, back_num g1 (by omega)]
  · rename_i hk
    injection h with h
    injection h with h1 h2
    subst h1 h2
    simp only
    rw [if_neg hk, List.append_nil, back_num g1 (by omega)]
theorem back_many {α : Type} {one : List UInt8 → Option (α × List UInt8)} {g : α → List UInt8} (ho : ∀ {l r x}, one l = some (x, r) → g x ++ r = l) :
    ∀ {n : Nat} {l r : List UInt8} {xs : List α}, gMany one n l = some (xs, r) → xs.flatMap g ++ r = l
  | 0, _, _, _, h => by rw [(gMany_zero h).1, (gMany_zero h).2]; rfl
  | n + 1, _, _, _, h => by
    obtain ⟨x, ys, r1, rfl, g1, g⟩ := gMany_succ h
    rw [List.flatMap_cons, List.append_assoc, back_many @ho g, ho g1]
theorem back_list {α : Type} {one : List UInt8 → Option (α × List UInt8)} {g : α → List UInt8} (ho : ∀ {l r x}, one l = some (x, r) → g x ++ r = l)
    {size least : Nat} {most : Int} {l r : List UInt8} {xs : List α} (h : gList one size most least l = some (xs, r)) (hs : size ≤ 7) : beb (xs.length : Int) size ++ (xs.flatMap g ++ r) = l := by
  obtain ⟨n, r1, g1, _, _, g2⟩ := gList_some h hs
  rw [gMany_len g2, back_many @ho g2, back_num g1 (by omega)]
theorem back_fun {l r : List UInt8} {x : Fu} (h : gFun l = some (x, r)) : bfun x ++ r = l := by
  obtain ⟨⟨x1, r1⟩, g1, h⟩ := bind_some h
  obtain ⟨⟨x2, r2⟩, g2, h⟩ := bind_some h
  obtain ⟨⟨x3, r3⟩, g3, h⟩ := bind_some h
  obtain ⟨⟨x4, r4⟩, g4, h⟩ := bind_some h
  obtain ⟨⟨x5, r5⟩, g5, h⟩ := bind_some h
  injection h with h
  injection h with h1 h2
  subst h1 h2
  unfold bfun
  simp only [List.append_assoc]
  rw [back_list @back_ins g5 (by omega), back_flag g4, back_num g3 (by omega), back_num g2 (by omega), back_text g1]
theorem back_print {l r : List UInt8} {x : List It} (h : gPrint l = some (x, r)) : bprint x ++ r = l := by
  unfold bprint
  rw [List.append_assoc]
  exact back_list @back_item h (by omega)
theorem back_arm {l r : List UInt8} {x : List Bool} (h : gArm l = some (x, r)) : barm x ++ r = l := by
  unfold barm
  rw [List.append_assoc]
  exact back_list @back_flag h (by omega)
theorem back_prog {l : List UInt8} {p : Pg} (h : gProg l = some p) : bprog p = l := by
  obtain ⟨⟨x1, r1⟩, g1, h⟩ := bind_some h
  simp only at h
  split at h
  · rename_i hx
    obtain ⟨⟨x2, r2⟩, g2, h⟩ := bind_some h
    obtain ⟨⟨x3, r3⟩, g3, h⟩ := bind_some h
    obtain ⟨⟨x4, r4⟩, g4, h⟩ := bind_some h
    obtain ⟨⟨x5, r5⟩, g5, h⟩ := bind_some h
    simp only at h
    split at h
    · rename_i he
      subst he
      injection h with h
      subst h
      have e1 := (back_take (n := 4) g1).2
      have e5 := back_list @back_arm g5 (by omega)
      rw [List.append_nil] at e5
      unfold bprog
      simp only
      rw [e5, back_list @back_print g4 (by omega), back_list @back_fun g3 (by omega), back_num g2 (by omega)]
      rw [hx] at e1
      exact e1
    · cases h
  · cases h

end Go.Proofs.YtgheaieghoekhaaDoor

namespace Go.Proofs.YtgheaieghoekhaaDoor
open Go.RowKit

/-- block R is the cursor -/
def Cu (R : Nat) (s : ByteArray) (c : Cs) (w : World) : Prop :=
  ∃ k : Nat, k ≤ s.size ∧ s.size ≤ 140737488355328 ∧ c.l = s.data.toList.drop k ∧ w.heap[R]? = some (.cells #[.string s, .int .i64 (k : Int), .bool c.b] 104 (0, 0))

theorem Cu.lt {R : Nat} {s : ByteArray} {c : Cs} {w : World} (h : Cu R s c w) : R < w.heap.size := by
  obtain ⟨k, _, _, _, h⟩ := h
  exact (Array.getElem?_eq_some_iff.1 h).1
theorem Cu.below {R : Nat} {s : ByteArray} {c : Cs} {w w' : World} (h : Cu R s c w) (hb : Below w.heap.size w w') : Cu R s c w' := by
  have hl := h.lt
  obtain ⟨k, h1, h2, h3, h4⟩ := h
  exact ⟨k, h1, h2, h3, (hb.block R hl).trans h4⟩
theorem Cu.len {R : Nat} {s : ByteArray} {c : Cs} {w : World} (h : Cu R s c w) : c.l.length ≤ s.size := by
  obtain ⟨k, _, _, h, _⟩ := h
  rw [h, List.length_drop, ← size_list]; omega

theorem bdrK {C : Nat} {a w : World} (h : Keep C a w) (m : Nat) : Keep C a (w.drewN m) := h.drewN m

theorem ret_str {s t : ByteArray} (h : s = t) : Ending.returned (.string s) = .returned (.string t) := by rw [h]

theorem u64_step (m b : Nat) (hm : m * 256 + b < 18446744073709551616) : IntKind.u64.wrap (IntKind.u64.wrap (256 * (m : Int)) + IntKind.u64.wrap (b : Int)) = ((m * 256 + b : Nat) : Int) := by
  rw [IntKind.wrap_u64, IntKind.wrap_u64, IntKind.wrap_u64]
  omega

theorem vu64 {a b : Int} (h : a = b) : Value.int .u64 a = Value.int .u64 b := by rw [h]

set_option maxHeartbeats 2000000 in
theorem cnum_is {R : Nat} {s : ByteArray} {c c' : Cs} {w : World} (h : Cu R s c w) (n : Nat) {n' : Int} (en : n' = (n : Int)) (hn8 : n ≤ 8) {x : Int} (hg : cNum n c = (x, c')) :
    Calls Tryd.prog 44 #[.pointer (some ⟨R, 0, none⟩), .int .i64 n'] w fun e w' => e = .returned (.int .i64 x) ∧ Cu R s c' w' ∧ Keep R w w' := by
  subst en
  obtain ⟨k, hk, hs, hc, hb⟩ := h
  have c0 : w.cell? ⟨R, 0, none⟩ = some (.string s) := by rw [Lib.cell_of_heap hb]; rfl
  have c1 : w.cell? ⟨R, 1, none⟩ = some (.int .i64 (k : Int)) := by rw [Lib.cell_of_heap hb]; rfl
  have c2 : w.cell? ⟨R, 2, none⟩ = some (.bool c.b) := by rw [Lib.cell_of_heap hb]; rfl
  have f0 : ∀ i, w.frozen? ⟨R, i, none⟩ = false := fun i => Lib.frozen_of_heap hb i
  have hl : c.l.length = s.size - k := by rw [hc, List.length_drop, ← size_list]
  have e1 : IntKind.i64.wrap ((s.size : Int) - (k : Int)) = ((s.size - k : Nat) : Int) := by rw [IntKind.wrap_i64]; omega
  unfold cNum at hg
  by_cases hlt : n ≤ c.l.length
  · rw [if_pos hlt] at hg
    injection hg with g1 g2
    subst g1 g2
    have q : decide (((s.size - k : Nat) : Int) < (n : Int)) = false := by simp; omega
    have q' : ¬ s.size - k < n := by omega
    have HBk := hide hb
    have HC := hide hc
    clear hb hc
    have HL := hide hl
    have HB0 := hide c2
    clear hl c2
    go_enter Tryd.func44, Tryd.ntmps44
    go_wp2
    go_quiet (fail)
    go_wp2
    go_loopw [5, 6] (fun v i wr => ∃ j : Nat, j ≤ n ∧ i = .int .i64 j ∧ v = .int .u64 ((bval (c.l.take j) : Nat) : Int) ∧ Below w.heap.size w wr) (fun _ i _ => n - (intOf i).toNat)
    case atStart => exact ⟨0, Nat.zero_le _, rfl, by simp [bval], bdr (Below.refl _ _) _⟩
    case round =>
      obtain ⟨j, hj, rfl, rfl, hB⟩ := hrel
      have hR : R < w.heap.size := (Array.getElem?_eq_some_iff.1 (unhide HBk)).1
      have hb2 := (hB.block R hR).trans (unhide HBk)
      have HB := hide hB
      have HB2 := hide hb2
      have d0 : wr.cell? ⟨R, 0, none⟩ = some (.string s) := by rw [Lib.cell_of_heap hb2]; rfl
      have d1 : wr.cell? ⟨R, 1, none⟩ = some (.int .i64 (k : Int)) := by rw [Lib.cell_of_heap hb2]; rfl
      have g0 : ∀ i, wr.frozen? ⟨R, i, none⟩ = false := fun i => Lib.frozen_of_heap hb2 i
      clear hB hb2 c0 c1 f0
      by_cases hjn : j < n
      · have hkj : k + j < s.size := by have := unhide HL; omega
        have ht : c.l.take (j + 1) = c.l.take j ++ [by_ s (k + j)] := by
          have hl := unhide HL
          rw [List.take_succ_eq_append_getElem (by omega)]
          congr 2
          unfold by_
          have h' : k + j < s.data.toList.length := by rw [← size_list]; exact hkj
          rw [List.getD_eq_getElem?_getD, List.getElem?_eq_getElem h']
          simp only [unhide HC, List.getElem_drop, Option.getD_some]
        have hbv := bval_lt (c.l.take j)
        have hpk : (256 : Nat) ^ (c.l.take j).length ≤ 256 ^ 7 := Nat.pow_le_pow_right (by decide) (Nat.le_trans (List.length_take_le _ _) (by omega))
        have hbb := (by_ s (k + j)).toNat_lt
        have HS := hide ((u64_step (bval (c.l.take j)) (by_ s (k + j)).toNat (by omega)).trans (by rw [ht, bval_snoc] : _ = ((bval (c.l.take (j + 1)) : Nat) : Int)))
        have e2 : IntKind.i64.wrap ((k : Int) + (j : Int)) = ((k + j : Nat) : Int) := by rw [IntKind.wrap_i64]; omega
        have e3 : s[k + j].toNat = (by_ s (k + j)).toNat := by_at s (k + j) hkj
        have q3 : decide ((k : Int) + (j : Int) < (s.size : Int)) = true := by simp; omega
        have q3' : (k : Int) + (j : Int) < (s.size : Int) := by omega
        have q4 : ((k : Int) + (j : Int)).toNat = k + j := by omega
        have q5 : decide (0 ≤ (k : Int) + (j : Int)) = true := by simp; omega
        generalize (by_ s (k + j)).toNat = B at *
        clear ht hbv hpk hbb
        go_wp2
        go_quiet (fail)
        go_wp2
        go_roundw
        case rel => exact ⟨j + 1, by omega, by go_num, vu64 (unhide HS), bdr (unhide HB) _⟩
        case measure => simp [intOf]; omega
      · have e : j = n := by omega
        subst e
        have hbv := bval_lt (c.l.take j)
        have hpk : (256 : Nat) ^ (c.l.take j).length ≤ 256 ^ 8 := Nat.pow_le_pow_right (by decide) (Nat.le_trans (List.length_take_le _ _) (by omega))
        have e2 : IntKind.i64.wrap ((k : Int) + (j : Int)) = ((k + j : Nat) : Int) := by have := unhide HL; rw [IntKind.wrap_i64]; omega
        clear hbv hpk
        go_wp2
        go_ret
        refine ⟨rfl, ⟨k + j, by have := unhide HL; omega, hs, ?_, ?_⟩, (Keep.of_below (unhide HB)).set _ _⟩
        · rw [unhide HC, List.drop_drop]
        · have h2 := unhide HB2
          simp [World.setCell, Array.getElem?_modify, h2]
  · rw [if_neg hlt] at hg
    injection hg with g1 g2
    subst g1 g2
    have q : decide (((s.size - k : Nat) : Int) < (n : Int)) = true := by simp; omega
    have q' : s.size - k < n := by omega
    have HBk := hide hb
    have HC := hide hc
    clear hb hc hl hlt
    go_enter Tryd.func44, Tryd.ntmps44
    go_wp2
    go_quiet (fail)
    go_wp2
    go_ret
    refine ⟨rfl, ⟨k, hk, hs, unhide HC, ?_⟩, (Keep.of_below (bdr (Below.refl _ _) _)).set _ _⟩
    have h2 := unhide HBk
    simp [World.setCell, World.drewN, Array.getElem?_modify, h2]

theorem cNum_small {k : Nat} {c : Cs} (hk : k ≤ 7) : ∃ n : Nat, (cNum k c).1 = (n : Int) ∧ n < 256 ^ k := by
  unfold cNum
  split
  · rename_i h
    exact gNum_small (k := k) (l := c.l) (r := c.l.drop k) (by unfold gNum; rw [if_pos h]) hk
  · exact ⟨0, rfl, Nat.pow_pos (by decide)⟩

theorem cells3 {R : Nat} {w : World} {a b c : Value} (hb : w.heap[R]? = some (.cells #[a, b, c] 104 (0, 0))) :
    w.cell? ⟨R, 0, none⟩ = some a ∧ w.cell? ⟨R, 1, none⟩ = some b ∧ w.cell? ⟨R, 2, none⟩ = some c ∧ ∀ i, w.frozen? ⟨R, i, none⟩ = false :=
  ⟨by rw [Lib.cell_of_heap hb]; rfl, by rw [Lib.cell_of_heap hb]; rfl, by rw [Lib.cell_of_heap hb]; rfl, fun i => Lib.frozen_of_heap hb i⟩

set_option maxHeartbeats 2000000 in
theorem ctext_is {R : Nat} {s : ByteArray} {c c' : Cs} {w : World} (h : Cu R s c w) {t : ByteArray} (hg : cText c = (t, c')) :
    Calls Tryd.prog 45 #[.pointer (some ⟨R, 0, none⟩)] w fun e w' => e = .returned (.string t) ∧ Cu R s c' w' ∧ Keep R w w' := by
  obtain ⟨n, en, hn⟩ := cNum_small (k := 4) (c := c) (by omega)
  obtain ⟨c1, ec1⟩ : ∃ c1, c1 = (cNum 4 c).2 := ⟨_, rfl⟩
  have e1 : cNum 4 c = ((n : Int), c1) := by rw [ec1, ← en]
  unfold cText at hg
  rw [e1] at hg
  simp only at hg
  have H := hide h
  have E1 := hide e1
  clear h e1 en ec1
  go_enter Tryd.func45, Tryd.ntmps45
  go_wp2_with fail
  refine (cnum_is (unhide H) 4 rfl (by omega) (unhide E1)).mono ?_
  rintro e w1 ⟨rfl, hC1, hK1⟩
  have HK1 := hide hK1
  clear hK1
  obtain ⟨k, hk, hs, hc, hb⟩ := hC1
  have hl : c1.l.length = s.size - k := by rw [hc, List.length_drop, ← size_list]
  have e1 : IntKind.i64.wrap ((s.size : Int) - (k : Int)) = ((s.size - k : Nat) : Int) := by rw [IntKind.wrap_i64]; omega
  obtain ⟨d0, d1, d2, f0⟩ := cells3 hb
  by_cases hlt : (c1.l.length : Int) < (n : Int)
  · rw [if_pos hlt] at hg
    injection hg with g1 g2
    subst g1 g2
    have q : decide (((s.size - k : Nat) : Int) < (n : Int)) = true := by simp; omega
    have q' : s.size - k < n := by omega
    have HBk := hide hb
    have HC := hide hc
    clear hb hc hl hlt
    go_wp2
    go_quiet (fail)
    go_wp2
    go_ret
    refine ⟨rfl, ⟨k, hk, hs, unhide HC, ?_⟩, (bdrK (unhide HK1) _).set _ _⟩
    have h2 := unhide HBk
    simp [World.setCell, World.drewN, Array.getElem?_modify, h2]
  rw [if_neg hlt] at hg
  have q : decide (((s.size - k : Nat) : Int) < (n : Int)) = false := by simp; omega
  have q' : ¬ s.size - k < n := by omega
  cases hbb : c1.b
  · rw [hbb] at hg hb d2
    rw [if_neg (by simp)] at hg
    injection hg with g1 g2
    subst g1 g2
    have HBk := hide hb
    have HC := hide hc
    have HL := hide hl
    have e2 : IntKind.i64.wrap ((k : Int) + (n : Int)) = ((k + n : Nat) : Int) := by rw [IntKind.wrap_i64]; omega
    clear hb hc hl hlt hbb
    go_wp2
    go_quiet (fail)
    go_wp2
    obtain ⟨W, hW⟩ : ∃ W, W = (w1.drewN nq).setCell ⟨R, 1, none⟩ (Value.int IntKind.i64 ((k : Int) + (n : Int))) := ⟨_, rfl⟩
    have hbW : W.heap[R]? = some (.cells #[.string s, .int .i64 ((k : Int) + (n : Int)), .bool false] 104 (0, 0)) := by
      have h2 := unhide HBk
      rw [hW]
      simp [World.setCell, World.drewN, Array.getElem?_modify, h2]
    have HKW := hide (show Keep R w W by rw [hW]; exact (bdrK (unhide HK1) _).set _ _)
    rw [← hW]
    obtain ⟨x0, x1, x2, f1⟩ := cells3 hbW
    have HBW := hide hbW
    have e3 : IntKind.i64.wrap ((k : Int) + (n : Int) - (n : Int)) = (k : Int) := by rw [IntKind.wrap_i64]; have := unhide HL; omega
    have hkn : k + n ≤ s.size := by have := unhide HL; omega
    have e4 : (k : Int) + (n : Int) - (n : Int) = (k : Int) := by omega
    have q6 : decide ((k : Int) + (n : Int) ≤ (s.size : Int)) = true := by simp; omega
    have q7 : ((k : Int) + (n : Int)).toNat = k + n := by omega
    have q8 : decide ((k : Int) ≤ (k : Int) + (n : Int)) = true := by simp; omega
    clear hW hbW d0 d1 d2 f0
    go_quiet (fail)
    go_wp2
    go_ret
    refine ⟨ret_str (s := s.extract k (k + n)) (ba_of ?_), ⟨k + n, hkn, hs, ?_, ?_⟩, bdrK (unhide HKW) _⟩
    · rw [ByteArray.data_extract, Array.toList_extract, List.extract_eq_take_drop, unhide HC, Int.toNat_natCast, show k + n - k = n by omega]
    · simp only [Int.toNat_natCast]
      rw [unhide HC, List.drop_drop]
    · exact unhide HBW
  · rw [hbb] at hg hb d2
    rw [if_pos rfl] at hg
    injection hg with g1 g2
    subst g1 g2
    have HBk := hide hb
    have HC := hide hc
    have HBB := hide hbb
    clear hb hc hl hlt hbb
    go_wp2
    go_quiet (fail)
    go_wp2
    go_ret
    refine ⟨rfl, ⟨k, hk, hs, unhide HC, ?_⟩, bdrK (unhide HK1) _⟩
    rw [unhide HBB]
    exact unhide HBk

end Go.Proofs.YtgheaieghoekhaaDoor

namespace Go.Proofs.YtgheaieghoekhaaDoor
open Go.RowKit

/-! ### All but some blocks stay -/

structure Ch (Q : Nat → Prop) (w w' : World) : Prop where
  os : w'.os = w.os
  tape : w'.tape = w.tape
  output : w'.output = w.output
  size : w.heap.size ≤ w'.heap.size
  blk : ∀ b, b < w.heap.size → ¬ Q b → w'.heap[b]? = w.heap[b]?

theorem Ch.refl (Q : Nat → Prop) (w : World) : Ch Q w w := ⟨rfl, rfl, rfl, Nat.le_refl _, fun _ _ _ => rfl⟩
theorem Ch.trans {Q Q' : Nat → Prop} {a b c : World} (h : Ch Q a b) (k : Ch Q' b c) (hq : ∀ x, x < a.heap.size → Q' x → Q x) : Ch Q a c :=
  ⟨k.os.trans h.os, k.tape.trans h.tape, k.output.trans h.output, Nat.le_trans h.size k.size, fun x hx hn => (k.blk x (Nat.lt_of_lt_of_le hx h.size) fun h' => hn (hq x hx h')).trans (h.blk x hx hn)⟩
theorem Ch.mono {Q Q' : Nat → Prop} {a b : World} (h : Ch Q a b) (hq : ∀ x, x < a.heap.size → Q x → Q' x) : Ch Q' a b := ⟨h.os, h.tape, h.output, h.size, fun x hx hn => h.blk x hx fun h' => hn (hq x hx h')⟩
theorem Ch.of_below {Q : Nat → Prop} {w w' : World} (h : Below w.heap.size w w') : Ch Q w w' := ⟨h.os, h.tape, h.output, h.size, fun b hb _ => h.block b hb⟩
theorem Ch.of_keep {C : Nat} {w w' : World} (h : Keep C w w') : Ch (fun x => x = C) w w' := ⟨h.os, h.tape, h.output, h.size, fun b hb hn => h.block b hb fun e => hn (by injection e)⟩
theorem Ch.of_grown {Q : Nat → Prop} {w w' : World} {row : Option Nat} (h : w.grownBy w' row) (hq : ∀ k, row = some k → Q k) : Ch Q w w' := ⟨h.os, h.tape, h.output, h.size, fun b hb hn => h.block b hb fun e => hn (hq b e.symm)⟩
theorem Ch.alloc {Q : Nat → Prop} (w : World) (o : Obj) : Ch Q w (w.alloc o) := Ch.of_below (below1 w o)
theorem Ch.set {Q : Nat → Prop} (w : World) {C : Nat} (hC : Q C) (i : Nat) (v : Value) : Ch Q w (w.setCell ⟨C, i, none⟩ v) :=
  ⟨rfl, rfl, rfl, by simp [World.setCell], fun b _ hn => Below.heap_setCell _ _ _ _ (fun e => hn (by rw [e]; exact hC))⟩
theorem Ch.drewN {Q : Nat → Prop} (w : World) (m : Nat) : Ch Q w (w.drewN m) := ⟨rfl, rfl, rfl, Nat.le_refl _, fun _ _ _ => rfl⟩
theorem Ch.below {Q : Nat → Prop} {w w' : World} (h : Ch Q w w') {N : Nat} (hN : N ≤ w.heap.size) (hq : ∀ b, b < N → ¬ Q b) : Below N w w' := ⟨h.os, h.tape, h.output, h.size, fun b hb => h.blk b (Nat.lt_of_lt_of_le hb hN) (hq b hb)⟩
theorem Ch.cell {Q : Nat → Prop} {w w' : World} (h : Ch Q w w') {b : Nat} (hb : b < w.heap.size) (hn : ¬ Q b) (o : Nat) : w'.cell? ⟨b, o, none⟩ = w.cell? ⟨b, o, none⟩ := World.cell?_of_block (w := w) (h.blk b hb hn)

theorem own_same {w w' : World} {B k n : Nat} {e : TypeId} {v : Value} {xs : List Value} (h : w.ownsRow B e k v n xs) (hs : ∀ g, v.ownBlock = some g → w'.heap[g]? = w.heap[g]?) : w'.ownsRow B e k v n xs := by
  obtain ⟨h1, h2⟩ := h
  refine ⟨h1, ?_⟩
  rcases h2 with h2 | ⟨g, cap, cur, rfl, hB, hg, hr⟩
  · exact Or.inl h2
  · exact Or.inr ⟨g, cap, cur, rfl, hB, (hs g rfl).trans hg, hr⟩
theorem own_mono {w : World} {B B' k n : Nat} {e : TypeId} {v : Value} {xs : List Value} (h : w.ownsRow B e k v n xs) (hB : B' ≤ B) : w.ownsRow B' e k v n xs := by
  obtain ⟨h1, h2⟩ := h
  refine ⟨h1, ?_⟩
  rcases h2 with h2 | ⟨g, cap, cur, rfl, hB2, hr⟩
  · exact Or.inl h2
  · exact Or.inr ⟨g, cap, cur, rfl, Nat.le_trans hB hB2, hr⟩
theorem own_in {w : World} {B k n : Nat} {e : TypeId} {v : Value} {xs : List Value} (h : w.ownsRow B e k v n xs) {g : Nat} (hg : v.ownBlock = some g) : B ≤ g ∧ g < w.heap.size ∧ ∃ cur, w.heap[g]? = some (.cells cur e (0, 0)) := by
  obtain ⟨h1, h2⟩ := h
  rcases h2 with ⟨rfl, _⟩ | ⟨g', cap, cur, rfl, hB, hg', hr⟩
  · cases hg
  · cases hg
    exact ⟨hB, (Array.getElem?_eq_some_iff.1 hg').1, cur, hg'⟩
theorem own_ch {Q : Nat → Prop} {w w' : World} {B k n : Nat} {e : TypeId} {v : Value} {xs : List Value} (h : w.ownsRow B e k v n xs) (hc : Ch Q w w') (hq : ∀ g, B ≤ g → g < w.heap.size → ¬ Q g) : w'.ownsRow B e k v n xs :=
  own_same h fun g hg => by obtain ⟨h1, h2, _⟩ := own_in h hg; exact hc.blk g h2 (hq g h1 h2)
/-- a row of another kind stays where one is appended to -/
theorem own_apart {w w' : World} {B B' k k' n n' : Nat} {e e' : TypeId} {v v' : Value} {xs xs' : List Value} (h : w.ownsRow B e k v n xs) (h' : w.ownsRow B' e' k' v' n' xs') (hne : e ≠ e') (hg : w.grownBy w' v'.ownBlock) : w'.ownsRow B e k v n xs :=
  own_same h fun g hv => by
    obtain ⟨_, h2, cur, h3⟩ := own_in h hv
    refine hg.block g h2 fun e1 => ?_
    obtain ⟨_, _, cur', h4⟩ := own_in h' e1.symm
    rw [h3] at h4
    injection h4 with h4
    injection h4 with _ h4 _
    exact hne h4

theorem flat_get {α : Type} (f : α → List Value) (K : Nat) (hK : ∀ x, (f x).length = K) : ∀ (l : List α) (i j : Nat) (h : i < l.length), j < K → (l.flatMap f)[i * K + j]? = (f l[i])[j]?
  | x :: l, 0, j, _, hj => by
    rw [List.flatMap_cons, Nat.zero_mul, Nat.zero_add, List.getElem?_append_left (by rw [hK]; exact hj)]
    rfl
  | x :: l, i + 1, j, h, hj => by
    rw [List.flatMap_cons, List.getElem?_append_right (by rw [hK, Nat.add_mul]; omega), hK, show (i + 1) * K + j - K = i * K + j by rw [Nat.add_mul]; omega, flat_get f K hK l i j (by simpa using h) hj]
    rfl

theorem own_lst {α : Type} {w : World} {B K : Nat} {e : TypeId} {v : Value} {l : List α} {f : α → List Value} (h : w.ownsRow B e K v l.length (l.flatMap f)) (hK : ∀ x, (f x).length = K) {A : Nat → Nat → α → Prop}
    (hA : ∀ b o x, (∀ j u, (f x)[j]? = some u → w.cell? ⟨b, o + j, none⟩ = some u) → A b o x) : Lst w.heap.size K A v l := by
  have h0 := h
  obtain ⟨h1, h2⟩ := h
  rcases h2 with ⟨rfl, hn⟩ | ⟨g, cap, cur, rfl, hB, hg, hn, hm, hr⟩
  · refine ⟨0, 0, ⟨none, 0, by rw [hn], by omega, by omega, fun h => by omega⟩, fun i hi => by omega⟩
  · refine ⟨g, 0, ⟨_, cap, rfl, hn, by unfold maxLen at hm; omega, fun _ => ⟨rfl, (Array.getElem?_eq_some_iff.1 hg).1⟩⟩, fun i hi => hA _ _ _ fun j u hu => ?_⟩
    have hj : j < K := by rw [← hK l[i]]; exact (List.getElem?_eq_some_iff.1 hu).1
    have := World.ownsRow.cells h0 (g := g) rfl (i * K + j) u (by rw [flat_get f K hK l i j hi hj]; exact hu)
    rw [Addr.add_lit, Nat.zero_add] at this
    rw [Nat.zero_add]
    exact this

/-! ### The lists -/

def inF (x : In) : List Value := [.int .i64 x.op, .int .i64 x.a, .int .i64 x.b, .int .i64 x.l]
def itF (x : It) : List Value := [.int .i64 x.k, .string x.t]
def boF (x : Bool) : List Value := [.bool x]
def fuF (x : Fu × Value) : List Value := [.string x.1.nm, .int .i64 x.1.pa, .int .i64 x.1.sl, .bool x.1.rs, x.2]
def OwnIn (w : World) (B : Nat) (v : Value) (l : List In) : Prop := w.ownsRow B 29 4 v l.length (l.flatMap inF)
def OwnIt (w : World) (B : Nat) (v : Value) (l : List It) : Prop := w.ownsRow B 64 2 v l.length (l.flatMap itF)
def OwnBo (w : World) (B : Nat) (v : Value) (l : List Bool) : Prop := w.ownsRow B 4 1 v l.length (l.flatMap boF)
def OwnFu (w : World) (B : Nat) (v : Value) (l : List (Fu × Value)) : Prop := w.ownsRow B 51 5 v l.length (l.flatMap fuF) ∧ ∀ x ∈ l, OwnIn w B x.2 x.1.cd
def OwnPr (w : World) (B : Nat) (v : Value) (l : List (List It × Value)) : Prop := w.ownsRow B 61 1 v l.length (l.flatMap fun x => [x.2]) ∧ ∀ x ∈ l, OwnIt w B x.2 x.1
def OwnAr (w : World) (B : Nat) (v : Value) (l : List (List Bool × Value)) : Prop := w.ownsRow B 43 1 v l.length (l.flatMap fun x => [x.2]) ∧ ∀ x ∈ l, OwnBo w B x.2 x.1

theorem OwnIn.lst {w : World} {B : Nat} {v : Value} {l : List In} (h : OwnIn w B v l) : Lst w.heap.size 4 (InAt w) v l :=
  own_lst h (fun _ => rfl) fun _ _ _ h => ⟨h 0 _ rfl, h 1 _ rfl, h 2 _ rfl, h 3 _ rfl⟩
theorem OwnIt.lst {w : World} {B : Nat} {v : Value} {l : List It} (h : OwnIt w B v l) : Lst w.heap.size 2 (ItAt w) v l :=
  own_lst h (fun _ => rfl) fun _ _ _ h => ⟨h 0 _ rfl, h 1 _ rfl⟩
theorem OwnBo.lst {w : World} {B : Nat} {v : Value} {l : List Bool} (h : OwnBo w B v l) : Lst w.heap.size 1 (BoAt w) v l :=
  own_lst h (fun _ => rfl) fun _ _ _ h => h 0 _ rfl

theorem Lst.map {α β : Type} {N k : Nat} {A : Nat → Nat → α → Prop} {A' : Nat → Nat → β → Prop} {v : Value} {l : List α} (f : α → β) (h : Lst N k A v l) (hA : ∀ b o x, x ∈ l → A b o x → A' b o (f x)) : Lst N k A' v (l.map f) := by
  obtain ⟨b, o, ⟨a, c, h1, h2, h3, h4⟩, h5⟩ := h
  rw [← List.length_map (f := f)] at h1 h2 h3 h4
  refine ⟨b, o, ⟨a, c, h1, h2, h3, h4⟩, fun i hi => ?_⟩
  rw [List.getElem_map]
  exact hA _ _ _ (List.getElem_mem _) (h5 i (by simpa using hi))
theorem OwnFu.lst {w : World} {B : Nat} {v : Value} {l : List (Fu × Value)} (h : OwnFu w B v l) : Lst w.heap.size 5 (FuAt w.heap.size w) v (l.map Prod.fst) :=
  Lst.map Prod.fst (own_lst (A := fun b o x => ∀ j u, (fuF x)[j]? = some u → w.cell? ⟨b, o + j, none⟩ = some u) h.1 (fun _ => rfl) fun _ _ _ h => h)
    fun _ _ x hx hc => ⟨x.2, hc 0 _ rfl, hc 1 _ rfl, hc 2 _ rfl, hc 3 _ rfl, hc 4 _ rfl, (h.2 x hx).lst⟩
theorem OwnPr.lst {w : World} {B : Nat} {v : Value} {l : List (List It × Value)} (h : OwnPr w B v l) : Lst w.heap.size 1 (PrAt w.heap.size w) v (l.map Prod.fst) :=
  Lst.map Prod.fst (own_lst (A := fun b o x => ∀ j u, ([x.2] : List Value)[j]? = some u → w.cell? ⟨b, o + j, none⟩ = some u) h.1 (fun _ => rfl) fun _ _ _ h => h)
    fun _ _ x hx hc => ⟨x.2, hc 0 _ rfl, (h.2 x hx).lst⟩
theorem OwnAr.lst {w : World} {B : Nat} {v : Value} {l : List (List Bool × Value)} (h : OwnAr w B v l) : Lst w.heap.size 1 (ArAt w.heap.size w) v (l.map Prod.fst) :=
  Lst.map Prod.fst (own_lst (A := fun b o x => ∀ j u, ([x.2] : List Value)[j]? = some u → w.cell? ⟨b, o + j, none⟩ = some u) h.1 (fun _ => rfl) fun _ _ _ h => h)
    fun _ _ x hx hc => ⟨x.2, hc 0 _ rfl, (h.2 x hx).lst⟩

section
variable {Q : Nat → Prop} {w w' : World} {B : Nat} (hc : Ch Q w w') (hq : ∀ g, B ≤ g → g < w.heap.size → ¬ Q g) {v : Value}
include hc hq
theorem OwnIn.ch {l : List In} (h : OwnIn w B v l) : OwnIn w' B v l := own_ch h hc hq
theorem OwnIt.ch {l : List It} (h : OwnIt w B v l) : OwnIt w' B v l := own_ch h hc hq
theorem OwnBo.ch {l : List Bool} (h : OwnBo w B v l) : OwnBo w' B v l := own_ch h hc hq
theorem OwnFu.ch {l : List (Fu × Value)} (h : OwnFu w B v l) : OwnFu w' B v l := ⟨own_ch h.1 hc hq, fun x hx => (h.2 x hx).ch hc hq⟩
theorem OwnPr.ch {l : List (List It × Value)} (h : OwnPr w B v l) : OwnPr w' B v l := ⟨own_ch h.1 hc hq, fun x hx => (h.2 x hx).ch hc hq⟩
theorem OwnAr.ch {l : List (List Bool × Value)} (h : OwnAr w B v l) : OwnAr w' B v l := ⟨own_ch h.1 hc hq, fun x hx => (h.2 x hx).ch hc hq⟩
end

theorem own_snoc {α : Type} {w : World} {B K : Nat} {e : TypeId} {v : Value} {l : List α} {f : α → List Value} {x : α} (h : w.ownsRow B e K v (l.length + 1) (l.flatMap f ++ f x)) : w.ownsRow B e K v (l ++ [x]).length ((l ++ [x]).flatMap f) := by
  rw [List.length_append, List.flatMap_append, List.flatMap_cons, List.flatMap_nil, List.append_nil]
  exact h

theorem OwnFu.snoc {w w' : World} {B : Nat} {v v' : Value} {l : List (Fu × Value)} {x : Fu × Value} (h : OwnFu w B v l) (hx : OwnIn w B x.2 x.1.cd) (hr : w'.ownsRow B 51 5 v' (l.length + 1) (l.flatMap fuF ++ fuF x)) (hg : w.grownBy w' v.ownBlock) : OwnFu w' B v' (l ++ [x]) := by
  refine ⟨own_snoc hr, fun y hy => ?_⟩
  have hy' : OwnIn w B y.2 y.1.cd := by
    rcases List.mem_append.1 hy with hy | hy
    · exact h.2 y hy
    · rw [List.mem_singleton.1 hy]; exact hx
  exact own_apart hy' h.1 (by decide) hg
theorem OwnPr.snoc {w w' : World} {B : Nat} {v v' : Value} {l : List (List It × Value)} {x : List It × Value} (h : OwnPr w B v l) (hx : OwnIt w B x.2 x.1) (hr : w'.ownsRow B 61 1 v' (l.length + 1) (l.flatMap (fun x => [x.2]) ++ [x.2])) (hg : w.grownBy w' v.ownBlock) : OwnPr w' B v' (l ++ [x]) := by
  refine ⟨own_snoc (f := fun x : List It × Value => [x.2]) hr, fun y hy => ?_⟩
  have hy' : OwnIt w B y.2 y.1 := by
    rcases List.mem_append.1 hy with hy | hy
    · exact h.2 y hy
    · rw [List.mem_singleton.1 hy]; exact hx
  exact own_apart hy' h.1 (by decide) hg
theorem OwnAr.snoc {w w' : World} {B : Nat} {v v' : Value} {l : List (List Bool × Value)} {x : List Bool × Value} (h : OwnAr w B v l) (hx : OwnBo w B x.2 x.1) (hr : w'.ownsRow B 43 1 v' (l.length + 1) (l.flatMap (fun x => [x.2]) ++ [x.2])) (hg : w.grownBy w' v.ownBlock) : OwnAr w' B v' (l ++ [x]) := by
  refine ⟨own_snoc (f := fun x : List Bool × Value => [x.2]) hr, fun y hy => ?_⟩
  have hy' : OwnBo w B y.2 y.1 := by
    rcases List.mem_append.1 hy with hy | hy
    · exact h.2 y hy
    · rw [List.mem_singleton.1 hy]; exact hx
  exact own_apart hy' h.1 (by decide) hg

/-! ### Lists read -/

theorem cMany_step {α : Type} {one : Cs → α × Cs} {n k : Nat} {c0 c : Cs} {xs : List α} (h : cMany one n c0 = (xs ++ (cMany one (n - k) c).1, (cMany one (n - k) c).2)) (hk : k < n) (hb : c.b = false) {x : α} {c' : Cs} (ho : one c = (x, c')) :
    cMany one n c0 = ((xs ++ [x]) ++ (cMany one (n - (k + 1)) c').1, (cMany one (n - (k + 1)) c').2) := by
  obtain ⟨m, hm⟩ : ∃ m, n - k = m + 1 := ⟨n - k - 1, by omega⟩
  rw [hm] at h
  rw [h, show n - (k + 1) = m by omega]
  conv => lhs; unfold cMany
  rw [if_neg (by rw [hb]; simp), ho]
  simp
theorem cMany_end {α : Type} {one : Cs → α × Cs} {n k : Nat} {c0 c : Cs} {xs : List α} (h : cMany one n c0 = (xs ++ (cMany one (n - k) c).1, (cMany one (n - k) c).2)) (he : n ≤ k ∨ c.b = true) : cMany one n c0 = (xs, c) := by
  rcases he with he | he
  · rw [h, show n - k = 0 by omega]
    simp [cMany]
  · rw [h]
    cases n - k with
    | zero => simp [cMany]
    | succ m => simp [cMany, he]

theorem nfIn : (Tryd.prog.info? 29).map (fun i => (i.zero, i.size, i.bytes)) = some (some (.agg #[.int .i64 0, .int .i64 0, .int .i64 0, .int .i64 0]), 4, 32) := by kernel_rfl
theorem nfIt : (Tryd.prog.info? 64).map (fun i => (i.zero, i.size, i.bytes)) = some (some (.agg #[.int .i64 0, .string ⟨#[]⟩]), 2, 24) := by kernel_rfl
theorem nfBo : (Tryd.prog.info? 4).map (fun i => (i.zero, i.size, i.bytes)) = some (some (.bool false), 1, 1) := by kernel_rfl
theorem nfFu : (Tryd.prog.info? 51).map (fun i => (i.zero, i.size, i.bytes)) = some (some (.agg #[.string ⟨#[]⟩, .int .i64 0, .int .i64 0, .bool false, .slice none 0 0]), 5, 64) := by kernel_rfl
theorem nfLi : (Tryd.prog.info? 61).map (fun i => (i.zero, i.size, i.bytes)) = some (some (.slice none 0 0), 1, 24) := by kernel_rfl
theorem nfLb : (Tryd.prog.info? 43).map (fun i => (i.zero, i.size, i.bytes)) = some (some (.slice none 0 0), 1, 24) := by kernel_rfl

theorem nf_open {P : Program} {T : TypeId} {z : Value} {k b : Nat} (h : (P.info? T).map (fun i => (i.zero, i.size, i.bytes)) = some (some z, k, b)) : ∃ i, P.info? T = some i ∧ i.zero = some z ∧ i.size = k ∧ i.bytes = b := by
  cases hi : P.info? T with
  | none => rw [hi] at h; cases h
  | some i =>
    rw [hi] at h
    simp only [Option.map_some, Option.some.injEq, Prod.mk.injEq] at h
    exact ⟨i, rfl, h.1, h.2.1, h.2.2⟩

theorem own_form {w : World} {B k n : Nat} {e : TypeId} {v : Value} {xs : List Value} (h : w.ownsRow B e k v n xs) : ∃ a m c, v = .slice a m c := by
  obtain ⟨-, h | ⟨g, cap, cur, h, -⟩⟩ := h
  · exact ⟨_, _, _, h.1⟩
  · exact ⟨_, _, _, h⟩

/-- a new block's cells, one by one -/
theorem row_new (V : World) (cs : List Value) (T : TypeId) {n : Nat} (hn : V.heap.size = n) : ∀ (j : Nat) (u : Value), cs[j]? = some u → (V.alloc (.cells cs.toArray T)).cell? ((⟨n, 0, none⟩ : Addr).add j) = some u := by
  intro j u hu
  subst hn
  rw [Addr.add_lit, Nat.zero_add, Lib.cell_of_heap (heap_new V (.cells cs.toArray T))]
  simpa using hu

theorem size_set (w : World) (p : Addr) (v : Value) : (w.setCell p v).heap.size = w.heap.size := by simp [World.setCell]

end Go.Proofs.YtgheaieghoekhaaDoor

namespace Go.Proofs.YtgheaieghoekhaaDoor
open Go.RowKit

/-- a block of four cells: the program as far as it is read -/
def PB (P : Nat) (u1 u2 u3 : Value) (m : Int) (w : World) : Prop := w.heap[P]? = some (.cells #[u1, u2, u3, .int .i64 m] 26 (0, 0))

theorem PB.cell {P : Nat} {u1 u2 u3 : Value} {m : Int} {w : World} (h : PB P u1 u2 u3 m w) :
    w.cell? ⟨P, 0, none⟩ = some u1 ∧ w.cell? ⟨P, 1, none⟩ = some u2 ∧ w.cell? ⟨P, 2, none⟩ = some u3 ∧ w.cell? ⟨P, 3, none⟩ = some (.int .i64 m) ∧ ∀ i, w.frozen? ⟨P, i, none⟩ = false := by
  unfold PB at h
  exact ⟨by rw [Lib.cell_of_heap h]; rfl, by rw [Lib.cell_of_heap h]; rfl, by rw [Lib.cell_of_heap h]; rfl, by rw [Lib.cell_of_heap h]; rfl, fun i => Lib.frozen_of_heap h i⟩
theorem PB.lt {P : Nat} {u1 u2 u3 : Value} {m : Int} {w : World} (h : PB P u1 u2 u3 m w) : P < w.heap.size := (Array.getElem?_eq_some_iff.1 h).1
theorem PB.ch {P : Nat} {u1 u2 u3 : Value} {m : Int} {w w' : World} {Q : Nat → Prop} (h : PB P u1 u2 u3 m w) (hc : Ch Q w w') (hq : ¬ Q P) : PB P u1 u2 u3 m w' := (hc.blk P h.lt hq).trans h
theorem PB.set0 {P : Nat} {u1 u2 u3 : Value} {m : Int} {w : World} (h : PB P u1 u2 u3 m w) (v : Value) : PB P v u2 u3 m (w.setCell ⟨P, 0, none⟩ v) := by unfold PB at *; simp [World.setCell, Array.getElem?_modify, h]
theorem PB.set1 {P : Nat} {u1 u2 u3 : Value} {m : Int} {w : World} (h : PB P u1 u2 u3 m w) (v : Value) : PB P u1 v u3 m (w.setCell ⟨P, 1, none⟩ v) := by unfold PB at *; simp [World.setCell, Array.getElem?_modify, h]
theorem PB.set2 {P : Nat} {u1 u2 u3 : Value} {m : Int} {w : World} (h : PB P u1 u2 u3 m w) (v : Value) : PB P u1 u2 v m (w.setCell ⟨P, 2, none⟩ v) := by unfold PB at *; simp [World.setCell, Array.getElem?_modify, h]
theorem PB.set3 {P : Nat} {u1 u2 u3 : Value} {m : Int} {w : World} (h : PB P u1 u2 u3 m w) (v : Int) : PB P u1 u2 u3 v (w.setCell ⟨P, 3, none⟩ (.int .i64 v)) := by unfold PB at *; simp [World.setCell, Array.getElem?_modify, h]

theorem Cu.ch {R : Nat} {s : ByteArray} {c : Cs} {w w' : World} {Q : Nat → Prop} (h : Cu R s c w) (hc : Ch Q w w') (hq : ¬ Q R) : Cu R s c w' := by
  have hl := h.lt
  obtain ⟨k, h1, h2, h3, h4⟩ := h
  exact ⟨k, h1, h2, h3, (hc.blk R hl hq).trans h4⟩

/-- a block of these cells -/
def BX (w : World) (X : Nat) (cs : Array Value) (T : TypeId) : Prop := w.heap[X]? = some (.cells cs T (0, 0))
theorem BX.lt {w : World} {X : Nat} {cs : Array Value} {T : TypeId} (h : BX w X cs T) : X < w.heap.size := (Array.getElem?_eq_some_iff.1 h).1
theorem BX.new (w : World) (cs : Array Value) (T : TypeId) : BX (w.alloc (.cells cs T)) w.heap.size cs T := heap_new w _
theorem BX.keep {w w' : World} {X R : Nat} {cs : Array Value} {T : TypeId} (h : BX w X cs T) (hK : Keep R w w') (hne : X ≠ R) : BX w' X cs T := (hK.block X h.lt fun e => hne (by injection e)).trans h
theorem BX.ch {w w' : World} {X : Nat} {cs : Array Value} {T : TypeId} {Q : Nat → Prop} (h : BX w X cs T) (hc : Ch Q w w') (hq : ¬ Q X) : BX w' X cs T := (hc.blk X h.lt hq).trans h
theorem BX.set {w : World} {X i : Nat} {cs cs' : Array Value} {T : TypeId} {v : Value} (h : BX w X cs T) (e : cs.setIfInBounds i v = cs') : BX (w.setCell ⟨X, i, none⟩ v) X cs' T := by
  subst e
  unfold BX at *
  simp [World.setCell, Array.getElem?_modify, h]
theorem BX.c2 {w : World} {X : Nat} {a b : Value} {T : TypeId} (h : BX w X #[a, b] T) : w.cell? ⟨X, 0, none⟩ = some a ∧ w.cell? ⟨X, 1, none⟩ = some b ∧ ∀ i, w.frozen? ⟨X, i, none⟩ = false := by
  unfold BX at h
  exact ⟨by rw [Lib.cell_of_heap h]; rfl, by rw [Lib.cell_of_heap h]; rfl, fun i => Lib.frozen_of_heap h i⟩
theorem BX.c4 {w : World} {X : Nat} {a b c d : Value} {T : TypeId} (h : BX w X #[a, b, c, d] T) : w.cell? ⟨X, 0, none⟩ = some a ∧ w.cell? ⟨X, 1, none⟩ = some b ∧ w.cell? ⟨X, 2, none⟩ = some c ∧ w.cell? ⟨X, 3, none⟩ = some d ∧ ∀ i, w.frozen? ⟨X, i, none⟩ = false := by
  unfold BX at h
  exact ⟨by rw [Lib.cell_of_heap h]; rfl, by rw [Lib.cell_of_heap h]; rfl, by rw [Lib.cell_of_heap h]; rfl, by rw [Lib.cell_of_heap h]; rfl, fun i => Lib.frozen_of_heap h i⟩
theorem BX.c5 {w : World} {X : Nat} {a b c d e : Value} {T : TypeId} (h : BX w X #[a, b, c, d, e] T) : w.cell? ⟨X, 0, none⟩ = some a ∧ w.cell? ⟨X, 1, none⟩ = some b ∧ w.cell? ⟨X, 2, none⟩ = some c ∧ w.cell? ⟨X, 3, none⟩ = some d ∧ w.cell? ⟨X, 4, none⟩ = some e ∧ ∀ i, w.frozen? ⟨X, i, none⟩ = false := by
  unfold BX at h
  exact ⟨by rw [Lib.cell_of_heap h]; rfl, by rw [Lib.cell_of_heap h]; rfl, by rw [Lib.cell_of_heap h]; rfl, by rw [Lib.cell_of_heap h]; rfl, by rw [Lib.cell_of_heap h]; rfl, fun i => Lib.frozen_of_heap h i⟩

/-- two blocks may change -/
def two (R X : Nat) : Nat → Prop := fun b => b = R ∨ b = X

/-- a number read, and put into a box -/
theorem boxed {u w1 : World} {X R i : Nat} {cs cs' : Array Value} {T : TypeId} {s : ByteArray} {c : Cs} (hX : BX w1 X cs T) (hne : X ≠ R) (hC : Cu R s c w1) (hK : Keep R u w1) (v : Value) (e : cs.setIfInBounds i v = cs') :
    BX (w1.setCell ⟨X, i, none⟩ v) X cs' T ∧ Cu R s c (w1.setCell ⟨X, i, none⟩ v) ∧ Ch (two R X) u (w1.setCell ⟨X, i, none⟩ v) :=
  ⟨hX.set e, hC.ch (Ch.set (Q := fun b => b = X) w1 rfl i v) fun h => hne h.symm, ((Ch.of_keep hK).mono (Q' := two R X) fun _ _ h => Or.inl h).trans (Ch.set (Q := two R X) w1 (Or.inr rfl) i v) fun _ _ h => h⟩

/-- all four cells are written -/
def put4 (w : World) (A : Nat) (v1 v2 v3 v4 : Value) : World := (((w.setCell ⟨A, 0, none⟩ v1).setCell ⟨A, 1, none⟩ v2).setCell ⟨A, 2, none⟩ v3).setCell ⟨A, 3, none⟩ v4
theorem put4_pb {w : World} {A : Nat} {u1 u2 u3 : Value} {m : Int} (h : PB A u1 u2 u3 m w) (v1 v2 v3 : Value) (n : Int) : PB A v1 v2 v3 n (put4 w A v1 v2 v3 (.int .i64 n)) := by
  have h1 := h.set0 v1
  have h2 := h1.set1 v2
  have h3 := h2.set2 v3
  exact h3.set3 n
theorem put4_ch (w : World) (A : Nat) (v1 v2 v3 v4 : Value) : Ch (fun b => b = A) w (put4 w A v1 v2 v3 v4) := by
  have h1 := Ch.set (Q := fun b => b = A) w rfl 0 v1
  have h2 := h1.trans (Ch.set (Q := fun b => b = A) (w.setCell ⟨A, 0, none⟩ v1) rfl 1 v2) fun _ _ h => h
  have h3 := h2.trans (Ch.set (Q := fun b => b = A) ((w.setCell ⟨A, 0, none⟩ v1).setCell ⟨A, 1, none⟩ v2) rfl 2 v3) fun _ _ h => h
  exact h3.trans (Ch.set (Q := fun b => b = A) (((w.setCell ⟨A, 0, none⟩ v1).setCell ⟨A, 1, none⟩ v2).setCell ⟨A, 2, none⟩ v3) rfl 3 v4) fun _ _ h => h
theorem drew_ch (Q : Nat → Prop) (w : World) : Ch Q w w.drew := ⟨rfl, rfl, rfl, Nat.le_refl _, fun _ _ _ => rfl⟩

end Go.Proofs.YtgheaieghoekhaaDoor

namespace Go.Proofs.YtgheaieghoekhaaDoor
open Go.RowKit

/-- the program's lists lie in blocks from C on, of the call's own -/
def Owns (C : Nat) (w : World) (v1 v2 v3 : Value) (p : Pg) : Prop := ∃ l q r, OwnFu w C v1 l ∧ OwnPr w C v2 q ∧ OwnAr w C v3 r ∧ p.fs = l.map Prod.fst ∧ p.ps = q.map Prod.fst ∧ p.ar = r.map Prod.fst

theorem OwnFu.low {w : World} {B C : Nat} {v : Value} {l : List (Fu × Value)} (h : OwnFu w B v l) (hC : C ≤ B) : OwnFu w C v l := ⟨own_mono h.1 hC, fun x hx => own_mono (h.2 x hx) hC⟩
theorem OwnPr.low {w : World} {B C : Nat} {v : Value} {l : List (List It × Value)} (h : OwnPr w B v l) (hC : C ≤ B) : OwnPr w C v l := ⟨own_mono h.1 hC, fun x hx => own_mono (h.2 x hx) hC⟩
theorem OwnAr.low {w : World} {B C : Nat} {v : Value} {l : List (List Bool × Value)} (h : OwnAr w B v l) (hC : C ≤ B) : OwnAr w C v l := ⟨own_mono h.1 hC, fun x hx => own_mono (h.2 x hx) hC⟩

theorem Owns.at {C : Nat} {w : World} {v1 v2 v3 : Value} {p : Pg} (h : Owns C w v1 v2 v3 p) : PgAt w.heap.size w v1 v2 v3 p := by
  obtain ⟨l, q, r, h1, h2, h3, e1, e2, e3⟩ := h
  exact ⟨e1 ▸ h1.lst, e2 ▸ h2.lst, e3 ▸ h3.lst⟩
theorem Owns.ch {C : Nat} {w w' : World} {v1 v2 v3 : Value} {p : Pg} {Q : Nat → Prop} (h : Owns C w v1 v2 v3 p) (hc : Ch Q w w') (hq : ∀ g, C ≤ g → g < w.heap.size → ¬ Q g) : Owns C w' v1 v2 v3 p := by
  obtain ⟨l, q, r, h1, h2, h3, e⟩ := h
  exact ⟨l, q, r, h1.ch hc hq, h2.ch hc hq, h3.ch hc hq, e⟩

end Go.Proofs.YtgheaieghoekhaaDoor
