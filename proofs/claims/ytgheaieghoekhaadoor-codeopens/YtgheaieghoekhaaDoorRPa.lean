/- What is read without care: its size, its numbers; right programs are read as they were written. Right programs are read as they were written. Right programs are read as they were written. Decode: the document's. The statements' walks: CodeOpens. -/
import Derived.Test.YtgheaieghoekhaaDoorRAa
import Derived.Test.YtgheaieghoekhaaDoorRNa
import Derived.Test.YtgheaieghoekhaaDoorRFa
import Derived.Test.YtgheaieghoekhaaDoorGGa
import Derived.Test.YtgheaieghoekhaaDoorSb
namespace Go.Proofs.YtgheaieghoekhaaDoor
open Go.RowKit

/-! ### How much is read -/

def Eat {α : Type} (f : Cs → α × Cs) (b : α → Nat) : Prop := ∀ s, (f s).2.b = false → s.b = false ∧ b (f s).1 + (f s).2.l.length ≤ s.l.length

theorem eat_num (k : Nat) : Eat (cNum k) (fun _ => k) := by
  intro s h
  unfold cNum at *
  split at h
  · rename_i hk
    rw [if_pos hk]
    exact ⟨h, by simp only [List.length_drop]; omega⟩
  · cases h
theorem eat_text : Eat cText (fun t => 4 + t.size) := by
  intro s h
  have e := eat_num 4 s
  unfold cText at *
  generalize cNum 4 s = q at *
  split at h
  · cases h
  · rename_i hn
    rw [if_neg hn]
    split at h
    · rename_i hb
      rw [h] at hb; cases hb
    · rename_i hb
      rw [if_neg hb]
      obtain ⟨h1, h2⟩ := e h
      refine ⟨h1, ?_⟩
      have hsz : (⟨(q.2.l.take q.1.toNat).toArray⟩ : ByteArray).size = (q.2.l.take q.1.toNat).length := by show (q.2.l.take q.1.toNat).toArray.size = _; simp
      have h3 : 4 + q.2.l.length ≤ s.l.length := h2
      show 4 + (⟨(q.2.l.take q.1.toNat).toArray⟩ : ByteArray).size + (q.2.l.drop q.1.toNat).length ≤ s.l.length
      rw [hsz, List.length_take, List.length_drop]
      omega
theorem Eat.eq {α : Type} {f : Cs → α × Cs} {b : α → Nat} (h : Eat f b) {s s' : Cs} {x : α} (e : f s = (x, s')) (hb : s'.b = false) : s.b = false ∧ b x + s'.l.length ≤ s.l.length := by
  have := h s
  rw [e] at this
  exact this hb
theorem eat_flag : Eat cFlag (fun _ => 1) := fun s h => eat_num 1 s h
theorem eat_ins : Eat cIns (fun _ => 14) := by
  intro s h
  unfold cIns at *
  obtain ⟨h4, l4⟩ := eat_num 4 _ h
  obtain ⟨h3, l3⟩ := eat_num 1 _ h4
  obtain ⟨h2, l2⟩ := eat_num 8 _ h3
  obtain ⟨h1, l1⟩ := eat_num 1 _ h2
  exact ⟨h1, by simp only at *; omega⟩
def itB (x : It) : Nat := 1 + (if x.k = 1 then 4 else 0) + x.t.size
theorem eat_item : Eat cItem itB := by
  intro s h
  unfold cItem at *
  split at h
  · rename_i hk
    rw [if_pos hk]
    obtain ⟨h2, l2⟩ := eat_text _ h
    obtain ⟨h1, l1⟩ := eat_num 1 _ h2
    refine ⟨h1, ?_⟩
    unfold itB
    simp only [hk, if_true] at *
    omega
  · rename_i hk
    rw [if_neg hk]
    obtain ⟨h1, l1⟩ := eat_num 1 _ h
    refine ⟨h1, ?_⟩
    unfold itB
    simp only [hk, if_false] at *
    have : (⟨#[]⟩ : ByteArray).size = 0 := rfl
    omega
theorem eat_many {α : Type} {f : Cs → α × Cs} {b : α → Nat} (hf : Eat f b) : ∀ n, Eat (cMany f n) (fun xs => (xs.map b).sum)
  | 0, s, h => ⟨h, by simp [cMany]⟩
  | n + 1, s, h => by
    unfold cMany at *
    split at h
    · rename_i hb
      simp only at h
      rw [h] at hb; cases hb
    · rename_i hb
      rw [if_neg hb]
      obtain ⟨h2, l2⟩ := eat_many hf n _ h
      obtain ⟨h1, l1⟩ := hf _ h2
      exact ⟨h1, by simp only [List.map_cons, List.sum_cons] at *; omega⟩
theorem eat_list {α : Type} {f : Cs → α × Cs} {b : α → Nat} (hf : Eat f b) (k : Nat) : Eat (cList f k) (fun xs => k + (xs.map b).sum) := by
  intro s h
  unfold cList at *
  obtain ⟨h2, l2⟩ := eat_many hf _ _ h
  obtain ⟨h1, l1⟩ := eat_num k _ h2
  exact ⟨h1, by simp only at *; omega⟩
def fuB (f : Fu) : Nat := 4 + f.nm.size + (1 + (2 + (1 + (4 + (f.cd.map fun _ => 14).sum))))
theorem eat_fun : Eat cFn fuB := by
  intro s h
  obtain ⟨t, s1, e1⟩ : ∃ x c, cText s = (x, c) := ⟨_, _, rfl⟩
  obtain ⟨pa, s2, e2⟩ : ∃ x c, cNum 1 s1 = (x, c) := ⟨_, _, rfl⟩
  obtain ⟨sl, s3, e3⟩ : ∃ x c, cNum 2 s2 = (x, c) := ⟨_, _, rfl⟩
  obtain ⟨rs, s4, e4⟩ : ∃ x c, cFlag s3 = (x, c) := ⟨_, _, rfl⟩
  obtain ⟨cd, s5, e5⟩ : ∃ x c, cList cIns 4 s4 = (x, c) := ⟨_, _, rfl⟩
  have e : cFn s = (⟨t, pa, sl, rs, cd⟩, s5) := by unfold cFn cFn1; simp only [e1, e2, e3, e4, e5]
  rw [e] at h ⊢
  obtain ⟨h5, l5⟩ := (eat_list eat_ins 4).eq e5 h
  obtain ⟨h4, l4⟩ := eat_flag.eq e4 h5
  obtain ⟨h3, l3⟩ := (eat_num 2).eq e3 h4
  obtain ⟨h2, l2⟩ := (eat_num 1).eq e2 h3
  obtain ⟨h1, l1⟩ := eat_text.eq e1 h2
  refine ⟨h1, ?_⟩
  show fuB ⟨t, pa, sl, rs, cd⟩ + s5.l.length ≤ s.l.length
  unfold fuB
  simp only at *
  omega
theorem eat_print : Eat cPrint (fun l => 1 + (l.map itB).sum) := eat_list eat_item 1
theorem eat_arm : Eat cArm (fun l => 1 + (l.map fun _ => 1).sum) := eat_list eat_flag 1

def pgB (p : Pg) : Nat := 12 + ((p.fs.map fuB).sum + (4 + ((p.ps.map fun l => 1 + (l.map itB).sum).sum + (4 + (p.ar.map fun l => 1 + (l.map fun _ => 1).sum).sum))))
theorem eat_prog : Eat cProg pgB := by
  intro s h
  obtain ⟨x0, s1, e1⟩ : ∃ x c, cNum 4 s = (x, c) := ⟨_, _, rfl⟩
  obtain ⟨mn, s2, e2⟩ : ∃ x c, cNum 4 s1 = (x, c) := ⟨_, _, rfl⟩
  obtain ⟨fs, s3, e3⟩ : ∃ x c, cList cFn 4 s2 = (x, c) := ⟨_, _, rfl⟩
  obtain ⟨ps, s4, e4⟩ : ∃ x c, cList cPrint 4 s3 = (x, c) := ⟨_, _, rfl⟩
  obtain ⟨ar, s5, e5⟩ : ∃ x c, cList cArm 4 s4 = (x, c) := ⟨_, _, rfl⟩
  have eA : cA s = (mn, s2) := by unfold cA; rw [e1]; exact e2
  have eB : cB s = (fs, s3) := by unfold cB; rw [eA]; exact e3
  have eC : cC s = (ps, s4) := by unfold cC; rw [eB]; exact e4
  have eD : cD s = (ar, s5) := by unfold cD; rw [eC]; exact e5
  have e : cProg s = (⟨fs, ps, ar, mn⟩, s5) := by unfold cProg; rw [eA, eB, eC, eD]
  rw [e] at h ⊢
  obtain ⟨h5, l5⟩ := (eat_list eat_arm 4).eq e5 h
  obtain ⟨h4, l4⟩ := (eat_list eat_print 4).eq e4 h5
  obtain ⟨h3, l3⟩ := (eat_list eat_fun 4).eq e3 h4
  obtain ⟨h2, l2⟩ := (eat_num 4).eq e2 h3
  obtain ⟨h1, l1⟩ := (eat_num 4).eq e1 h2
  refine ⟨h1, ?_⟩
  show pgB ⟨fs, ps, ar, mn⟩ + s5.l.length ≤ s.l.length
  unfold pgB
  simp only at *
  omega

theorem flat_sum {α : Type} (g : α → List UInt8) (b : α → Nat) (h : ∀ x, (g x).length ≤ b x) : ∀ l : List α, (l.flatMap g).length ≤ (l.map b).sum
  | [] => by simp
  | x :: l => by rw [List.flatMap_cons, List.length_append, List.map_cons, List.sum_cons]; have := h x; have := flat_sum g b h l; omega
theorem sum_mono {α : Type} (a b : α → Nat) (h : ∀ x, a x ≤ b x) : ∀ l : List α, (l.map a).sum ≤ (l.map b).sum
  | [] => by simp
  | x :: l => by rw [List.map_cons, List.sum_cons, List.map_cons, List.sum_cons]; have := h x; have := sum_mono a b h l; omega
theorem sum_mem {α : Type} (b : α → Nat) : ∀ {l : List α} {x : α}, x ∈ l → b x ≤ (l.map b).sum
  | y :: l, x, h => by
    rw [List.map_cons, List.sum_cons]
    rcases List.mem_cons.1 h with rfl | h
    · omega
    · have := sum_mem b h; omega

theorem bitem_le (x : It) : (bitem x).length ≤ itB x := by
  unfold bitem itB
  rw [List.length_append, beb_len]
  split
  · rw [btext_len]; omega
  · simp
theorem bfun_le (f : Fu) : (bfun f).length ≤ fuB f := by
  unfold bfun fuB
  have := flat_sum bins (fun _ => 14) (fun x => by rw [bins_len]; exact Nat.le_refl _) f.cd
  have hb : (bflag f.rs).length = 1 := rfl
  simp only [List.length_append, beb_len, btext_len, hb]
  omega
theorem bprint_le (l : List It) : (bprint l).length ≤ 1 + (l.map itB).sum := by
  unfold bprint
  have := flat_sum bitem itB bitem_le l
  rw [List.length_append, beb_len]
  omega
theorem barm_le (l : List Bool) : (barm l).length ≤ 1 + (l.map fun _ => 1).sum := by
  unfold barm
  have := flat_sum bflag (fun _ => 1) (fun _ => Nat.le_refl 1) l
  rw [List.length_append, beb_len]
  omega
theorem bprog_le (p : Pg) : (bprog p).length ≤ pgB p := by
  rw [bprog_parts]
  unfold pgB
  have h1 := flat_sum bfun fuB bfun_le p.fs
  have h2 := flat_sum bprint (fun l => 1 + (l.map itB).sum) bprint_le p.ps
  have h3 := flat_sum barm (fun l => 1 + (l.map fun _ => 1).sum) barm_le p.ar
  omega
theorem tsums_le (p : Pg) : tsums p.ps ≤ pgB p := by
  have h : tsums p.ps ≤ (p.ps.map fun l => 1 + (l.map itB).sum).sum := by
    unfold tsums
    refine sum_mono _ _ (fun l => ?_) p.ps
    have : tsum l ≤ (l.map itB).sum := by
      unfold tsum
      exact sum_mono _ _ (fun x => by unfold itB; omega) l
    omega
  unfold pgB
  omega
theorem ones {α : Type} (l : List α) : (l.map fun _ => 1).sum = l.length := by
  induction l with
  | nil => rfl
  | cons x l ih => rw [List.map_cons, List.sum_cons, ih, List.length_cons]; omega
theorem itB_len (l : List It) : l.length ≤ (l.map itB).sum := by
  rw [← ones l]
  exact sum_mono _ _ (fun x => by unfold itB; omega) l

/-! ### Numbers that are read -/

theorem many_all {α : Type} {f : Cs → α × Cs} {P : α → Prop} (hf : ∀ s, P (f s).1) : ∀ n s, ∀ x ∈ (cMany f n s).1, P x
  | 0, _, x, h => by cases h
  | n + 1, s, x, h => by
    unfold cMany at h
    split at h
    · cases h
    · rcases List.mem_cons.1 h with rfl | h
      · exact hf s
      · exact many_all hf n _ x h
def I64 (a : Int) : Prop := -9223372036854775808 ≤ a ∧ a ≤ 9223372036854775807
theorem wrap_I64 (a : Int) : I64 (wrap64 a) := by unfold I64 wrap64; omega
theorem num_I64 (k : Nat) (s : Cs) : I64 (cNum k s).1 := by
  unfold cNum
  split
  · exact wrap_I64 _
  · exact ⟨by show (-9223372036854775808 : Int) ≤ 0; decide, by show (0 : Int) ≤ 9223372036854775807; decide⟩
/-- numbers as they are read -/
def FuN (f : Fu) : Prop := (0 ≤ f.pa ∧ f.pa ≤ 255) ∧ ∀ i ∈ f.cd, I64 i.a
theorem fun_num (s : Cs) : FuN (cFn s).1 := by
  unfold cFn FuN
  refine ⟨?_, many_all (P := fun i : In => I64 i.a) (fun s => num_I64 8 _) _ _⟩
  obtain ⟨n, e, hn⟩ := cNum_small (k := 1) (c := (cText s).2) (by omega)
  show 0 ≤ (cNum 1 (cText s).2).1 ∧ (cNum 1 (cText s).2).1 ≤ 255
  rw [e]
  omega
theorem prog_num (s : Cs) : ∀ f ∈ (cProg s).1.fs, FuN f := many_all fun_num _ _

theorem pick_mem {α : Type} {l : List α} {a : Int} {x : α} (h : pick_ l a = some x) : x ∈ l := by
  unfold pick_ at h
  split at h
  · exact List.mem_of_getElem? h
  · cases h

theorem effb_of {p : Pg} (hf : ∀ f ∈ p.fs, FuN f) (hb : pgB p ≤ 140737488355328) : EffB p := by
  intro i
  unfold eff
  have hA : ∀ l ∈ p.ar, l.length ≤ 140737488355328 := by
    intro l hl
    have := sum_mem (fun l : List Bool => 1 + (l.map fun _ => 1).sum) hl
    rw [ones] at this
    unfold pgB at hb
    omega
  have hP : ∀ l ∈ p.ps, l.length ≤ 140737488355328 := by
    intro l hl
    have := sum_mem (fun l : List It => 1 + (l.map itB).sum) hl
    have := itB_len l
    unfold pgB at hb
    omega
  split
  · split
    · rename_i f hp
      obtain ⟨⟨h0, h1⟩, _⟩ := hf f (pick_mem hp)
      simp only
      omega
    · simp
  split
  · split
    · rename_i f hp
      obtain ⟨⟨h0, h1⟩, _⟩ := hf f (pick_mem hp)
      simp only
      omega
    · simp
  split
  · split
    · rename_i l hp
      have h1 := hA l (pick_mem hp)
      have h2 : armv l ≤ 2 * l.length := by unfold armv; have := List.countP_le_length (p := id) (l := l); omega
      simp only
      rw [wrap_in (by omega)]
      omega
    · simp
  split
  · split
    · rename_i l hp
      have h1 := hP l (pick_mem hp)
      have h2 : itmv l ≤ l.length := List.countP_le_length
      simp only
      omega
    · simp
  split
  · rename_i hk
    unfold knw at hk
    simp only [Bool.and_eq_true, decide_eq_true_eq] at hk
    have := tT_le (k := i.op.toNat) (by omega)
    simp only
    omega
  · simp

end Go.Proofs.YtgheaieghoekhaaDoor

namespace Go.Proofs.YtgheaieghoekhaaDoor
open Go.RowKit

theorem bval_cons (c : UInt8) (l : List UInt8) : bval (c :: l) = c.toNat * 256 ^ l.length + bval l := by
  have gen : ∀ (l : List UInt8) (a : Nat), l.foldl (fun n b => n * 256 + b.toNat) a = a * 256 ^ l.length + bval l := by
    intro l
    induction l with
    | nil => intro a; simp [bval]
    | cons d l ih2 =>
      intro a
      unfold bval
      rw [List.foldl_cons, List.foldl_cons, ih2, ih2 (0 * 256 + d.toNat), List.length_cons, Nat.pow_succ]
      generalize 256 ^ l.length = P
      rw [Nat.add_mul, Nat.zero_mul, Nat.zero_add, Nat.mul_assoc, Nat.mul_comm 256 P, Nat.add_assoc]
  have := gen l c.toNat
  unfold bval at this ⊢
  rw [List.foldl_cons, Nat.zero_mul, Nat.zero_add, this]

theorem bval_beb (n : Nat) : ∀ k, bval (beb (n : Int) k) = n % 256 ^ k
  | 0 => by simp [beb, bval, Nat.mod_one]
  | k + 1 => by
    have e : (nb (n : Int) k).toNat = n / 256 ^ k % 256 := by
      have h := u8_nb n k
      rw [Nat.pow_mul] at h
      exact_mod_cast h
    unfold beb
    rw [bval_cons, bval_beb n k, beb_len, e, Nat.pow_succ, Nat.mod_mul]
    rw [Nat.mul_comm, Nat.add_comm]

theorem there_num {k : Nat} (hk : k ≤ 7) {n : Nat} (hn : n < 256 ^ k) (r : List UInt8) : gNum k (beb (n : Int) k ++ r) = some ((n : Int), r) := by
  unfold gNum
  have hl : k ≤ (beb (n : Int) k ++ r).length := by rw [List.length_append, beb_len]; omega
  rw [if_pos hl]
  have e1 : (beb (n : Int) k ++ r).take k = beb (n : Int) k := by
    have := List.take_left (l₁ := beb (n : Int) k) (l₂ := r)
    rwa [beb_len] at this
  have e2 : (beb (n : Int) k ++ r).drop k = r := by
    have := List.drop_left (l₁ := beb (n : Int) k) (l₂ := r)
    rwa [beb_len] at this
  have hp : (256 : Nat) ^ k ≤ 256 ^ 7 := Nat.pow_le_pow_right (by decide) hk
  have h7 : (256 : Nat) ^ 7 = 72057594037927936 := by decide
  rw [e1, e2, bval_beb, Nat.mod_eq_of_lt hn, wrap_in (by omega)]
theorem there_long {a : Int} (ha : I64 a) (r : List UInt8) : gNum 8 (beb a 8 ++ r) = some (a, r) := by
  obtain ⟨h1, h2⟩ := ha
  obtain ⟨U, hU⟩ : ∃ U : Nat, U = (a % 18446744073709551616).toNat := ⟨_, rfl⟩
  have hw : wrap64 (U : Int) = a := by unfold wrap64; omega
  have hb : beb a 8 = beb (U : Int) 8 := by rw [← hw]; exact beb_wrap _ 8 (by omega)
  have hlt : U < 256 ^ 8 := by have : (256 : Nat) ^ 8 = 18446744073709551616 := by decide
                               omega
  unfold gNum
  rw [hb]
  have hl : 8 ≤ (beb (U : Int) 8 ++ r).length := by rw [List.length_append, beb_len]; omega
  rw [if_pos hl]
  have e1 : (beb (U : Int) 8 ++ r).take 8 = beb (U : Int) 8 := by
    have := List.take_left (l₁ := beb (U : Int) 8) (l₂ := r)
    rwa [beb_len] at this
  have e2 : (beb (U : Int) 8 ++ r).drop 8 = r := by
    have := List.drop_left (l₁ := beb (U : Int) 8) (l₂ := r)
    rwa [beb_len] at this
  rw [e1, e2, bval_beb, Nat.mod_eq_of_lt hlt, hw]
theorem there_int {k : Nat} (hk : k ≤ 7) {x : Int} (h0 : 0 ≤ x) (hn : x.toNat < 256 ^ k) (r : List UInt8) : gNum k (beb x k ++ r) = some (x, r) := by
  obtain ⟨n, rfl⟩ : ∃ n : Nat, x = (n : Int) := ⟨x.toNat, by omega⟩
  exact there_num hk (by simpa using hn) r
theorem there_take (t : ByteArray) (r : List UInt8) : gTake (t.size : Int) (t.data.toList ++ r) = some (t, r) := by
  unfold gTake
  rw [if_pos (by rw [List.length_append, ← size_list]; omega), Int.toNat_natCast, size_list, List.take_left, List.drop_left]
theorem there_text {t : ByteArray} (ht : t.size < 4294967296) (r : List UInt8) : gText (btext t ++ r) = some (t, r) := by
  unfold gText btext
  rw [List.append_assoc, there_num (by omega) (by simpa using ht)]
  exact there_take t r
theorem there_flag (b : Bool) (r : List UInt8) : gFlag (bflag b ++ r) = some (b, r) := by
  have h : bflag b = beb ((if b then 1 else 0 : Nat) : Int) 1 := by cases b <;> rfl
  unfold gFlag
  rw [h, there_num (by omega) (by cases b <;> decide)]
  cases b <;> rfl
theorem there_ins {i : In} (h1 : 0 ≤ i.op ∧ i.op ≤ 255) (h2 : I64 i.a) (h3 : 0 ≤ i.b ∧ i.b ≤ 255) (h4 : 0 ≤ i.l ∧ i.l ≤ 4294967295) (r : List UInt8) : gIns (bins i ++ r) = some (i, r) := by
  have p1 : (256 : Nat) ^ 1 = 256 := by decide
  have p4 : (256 : Nat) ^ 4 = 4294967296 := by decide
  unfold gIns bins
  simp only [List.append_assoc]
  rw [there_int (by omega) h1.1 (by omega)]
  simp only [Option.bind_some]
  rw [there_long h2]
  simp only [Option.bind_some]
  rw [there_int (by omega) h3.1 (by omega)]
  simp only [Option.bind_some]
  rw [there_int (by omega) h4.1 (by omega)]
  rfl
theorem there_item {x : It} (h1 : 0 ≤ x.k ∧ x.k ≤ 255) (h2 : x.k ≠ 1 → x.t = ⟨#[]⟩) (h3 : x.t.size < 4294967296) (r : List UInt8) : gItem (bitem x ++ r) = some (x, r) := by
  have p1 : (256 : Nat) ^ 1 = 256 := by decide
  obtain ⟨k, t⟩ := x
  simp only at h1 h2 h3
  unfold gItem bitem
  simp only [List.append_assoc]
  rw [there_int (by omega) h1.1 (by omega)]
  simp only [Option.bind_some]
  by_cases hk : k = 1
  · rw [if_pos hk, if_pos hk, there_text h3]
    rfl
  · rw [if_neg hk, if_neg hk, h2 hk]
    rfl
theorem there_many {α : Type} {one : List UInt8 → Option (α × List UInt8)} {g : α → List UInt8} : ∀ {xs : List α}, (∀ x ∈ xs, ∀ r, one (g x ++ r) = some (x, r)) → ∀ r, gMany one xs.length (xs.flatMap g ++ r) = some (xs, r)
  | [], _, r => rfl
  | x :: xs, h, r => by
    rw [List.length_cons, List.flatMap_cons, List.append_assoc]
    unfold gMany
    rw [h x (List.mem_cons_self ..)]
    simp only [Option.bind_some]
    rw [there_many (fun y hy => h y (List.mem_cons_of_mem _ hy)) r]
    rfl
theorem flat_ge {α : Type} {g : α → List UInt8} {c : Nat} (h : ∀ x, c ≤ (g x).length) : ∀ xs : List α, c * xs.length ≤ (xs.flatMap g).length
  | [] => by simp
  | x :: xs => by rw [List.flatMap_cons, List.length_append, List.length_cons, Nat.mul_add]; have := h x; have := flat_ge h xs; omega
theorem there_list {α : Type} {one : List UInt8 → Option (α × List UInt8)} {g : α → List UInt8} {xs : List α} (h : ∀ x ∈ xs, ∀ r, one (g x ++ r) = some (x, r)) {size least : Nat} {most : Int} (hs : size ≤ 7) (hl0 : 0 < least)
    (hg : ∀ x, least ≤ (g x).length) (hm : (xs.length : Int) ≤ most) (hn : xs.length < 256 ^ size) (r : List UInt8) : gList one size most least (beb (xs.length : Int) size ++ (xs.flatMap g ++ r)) = some (xs, r) := by
  unfold gList
  rw [there_num hs hn]
  simp only [Option.bind_some]
  have hq : xs.length ≤ (xs.flatMap g ++ r).length / least := by
    rw [Nat.le_div_iff_mul_le hl0, List.length_append]
    have := flat_ge hg xs
    rw [Nat.mul_comm]
    omega
  rw [if_pos ⟨by omega, by omega⟩, Int.toNat_natCast]
  exact there_many h r

end Go.Proofs.YtgheaieghoekhaaDoor

namespace Go.Proofs.YtgheaieghoekhaaDoor
open Go.RowKit

theorem bfun_ge (f : Fu) : 12 ≤ (bfun f).length := by
  unfold bfun
  have hb : (bflag f.rs).length = 1 := rfl
  simp only [List.length_append, beb_len, btext_len, hb]
  omega

structure FunR (f : Fu) : Prop where
  nm : f.nm.size < 4294967296
  pa : 0 ≤ f.pa ∧ f.pa ≤ 255
  sl : 0 ≤ f.sl ∧ f.sl ≤ 65535
  len : f.cd.length ≤ 8388608
  ins : ∀ i ∈ f.cd, (0 ≤ i.op ∧ i.op ≤ 255) ∧ I64 i.a ∧ (0 ≤ i.b ∧ i.b ≤ 255) ∧ (0 ≤ i.l ∧ i.l ≤ 4294967295)

theorem bfun_app (f : Fu) (r : List UInt8) : bfun f ++ r = btext f.nm ++ (beb f.pa 1 ++ (beb f.sl 2 ++ (bflag f.rs ++ (beb (f.cd.length : Int) 4 ++ (f.cd.flatMap bins ++ r))))) := by
  unfold bfun
  simp only [List.append_assoc]
theorem there_code {f : Fu} (h : FunR f) (r : List UInt8) : gList gIns 4 8388608 14 (beb (f.cd.length : Int) 4 ++ (f.cd.flatMap bins ++ r)) = some (f.cd, r) := by
  have p4 : (256 : Nat) ^ 4 = 4294967296 := by decide
  have h3 := h.len
  exact there_list (fun i hi r => there_ins (h.ins i hi).1 (h.ins i hi).2.1 (h.ins i hi).2.2.1 (h.ins i hi).2.2.2 r) (by omega) (by omega) (fun x => by rw [bins_len]; exact Nat.le_refl _) (by omega) (by omega) r
theorem there_fun {f : Fu} (h : FunR f) (r : List UInt8) : gFun (bfun f ++ r) = some (f, r) := by
  have p1 : (256 : Nat) ^ 1 = 256 := by decide
  have p2 : (256 : Nat) ^ 2 = 65536 := by decide
  have h1 := h.pa
  have h2 := h.sl
  have g1 := there_text h.nm (beb f.pa 1 ++ (beb f.sl 2 ++ (bflag f.rs ++ (beb (f.cd.length : Int) 4 ++ (f.cd.flatMap bins ++ r)))))
  have g2 := there_int (k := 1) (by omega) h1.1 (by omega) (beb f.sl 2 ++ (bflag f.rs ++ (beb (f.cd.length : Int) 4 ++ (f.cd.flatMap bins ++ r))))
  have g3 := there_int (k := 2) (by omega) h2.1 (by omega) (bflag f.rs ++ (beb (f.cd.length : Int) 4 ++ (f.cd.flatMap bins ++ r)))
  have g4 := there_flag f.rs (beb (f.cd.length : Int) 4 ++ (f.cd.flatMap bins ++ r))
  have g5 := there_code h r
  rw [bfun_app]
  exact Option.bind_eq_some_iff.2 ⟨_, g1, Option.bind_eq_some_iff.2 ⟨_, g2, Option.bind_eq_some_iff.2 ⟨_, g3, Option.bind_eq_some_iff.2 ⟨_, g4, Option.bind_eq_some_iff.2 ⟨_, g5, rfl⟩⟩⟩⟩⟩

structure PgO (p : Pg) : Prop where
  mn : 0 ≤ p.mn ∧ p.mn ≤ 4294967295
  nf : p.fs.length ≤ 100
  fs : ∀ f ∈ p.fs, FunR f
  np : p.ps.length ≤ 8388608
  ps : ∀ l ∈ p.ps, l.length ≤ 20 ∧ ∀ x ∈ l, (0 ≤ x.k ∧ x.k ≤ 255) ∧ (x.k ≠ 1 → x.t = ⟨#[]⟩) ∧ x.t.size < 4294967296
  na : p.ar.length ≤ 8388608
  ar : ∀ l ∈ p.ar, l.length ≤ 50

theorem there_funs {p : Pg} (h : PgO p) (r : List UInt8) : gList gFun 4 100 12 (beb (p.fs.length : Int) 4 ++ (p.fs.flatMap bfun ++ r)) = some (p.fs, r) := by
  have p4 : (256 : Nat) ^ 4 = 4294967296 := by decide
  have h2 := h.nf
  exact there_list (fun f hf r => there_fun (h.fs f hf) r) (by omega) (by omega) bfun_ge (by omega) (by omega) r
theorem there_prints {p : Pg} (h : PgO p) (r : List UInt8) : gList gPrint 4 8388608 1 (beb (p.ps.length : Int) 4 ++ (p.ps.flatMap bprint ++ r)) = some (p.ps, r) := by
  have p4 : (256 : Nat) ^ 4 = 4294967296 := by decide
  have p1 : (256 : Nat) ^ 1 = 256 := by decide
  have h3 := h.np
  refine there_list (fun l hl r => ?_) (by omega) (by omega) (fun x => by unfold bprint; rw [List.length_append, beb_len]; omega) (by omega) (by omega) r
  have h5 := (h.ps l hl).1
  unfold bprint
  rw [List.append_assoc]
  exact there_list (fun x hx r => there_item ((h.ps l hl).2 x hx).1 ((h.ps l hl).2 x hx).2.1 ((h.ps l hl).2 x hx).2.2 r) (by omega) (by omega) (fun x => by unfold bitem; rw [List.length_append, beb_len]; omega) (by omega) (by omega) r
theorem there_arms {p : Pg} (h : PgO p) (r : List UInt8) : gList gArm 4 8388608 1 (beb (p.ar.length : Int) 4 ++ (p.ar.flatMap barm ++ r)) = some (p.ar, r) := by
  have p4 : (256 : Nat) ^ 4 = 4294967296 := by decide
  have p1 : (256 : Nat) ^ 1 = 256 := by decide
  have h3 := h.na
  refine there_list (fun l hl r => ?_) (by omega) (by omega) (fun x => by unfold barm; rw [List.length_append, beb_len]; omega) (by omega) (by omega) r
  have h5 := h.ar l hl
  unfold barm
  rw [List.append_assoc]
  exact there_list (fun x _ r => there_flag x r) (by omega) (by omega) (fun x => Nat.le_refl 1) (by omega) (by omega) r
theorem there_prog {p : Pg} (h : PgO p) : gProg (bprog p) = some p := by
  have p4 : (256 : Nat) ^ 4 = 4294967296 := by decide
  have h1 := h.mn
  have g5 := there_arms h []
  rw [List.append_nil] at g5
  have g4 := there_prints h (beb (p.ar.length : Int) 4 ++ p.ar.flatMap barm)
  have g3 := there_funs h (beb (p.ps.length : Int) 4 ++ (p.ps.flatMap bprint ++ (beb (p.ar.length : Int) 4 ++ p.ar.flatMap barm)))
  have g2 := there_int (k := 4) (by omega) h1.1 (by omega) (beb (p.fs.length : Int) 4 ++ (p.fs.flatMap bfun ++ (beb (p.ps.length : Int) 4 ++ (p.ps.flatMap bprint ++ (beb (p.ar.length : Int) 4 ++ p.ar.flatMap barm)))))
  have g1 : gTake 4 (bprog p) = some (⟨#[68, 82, 87, 49]⟩, beb p.mn 4 ++ (beb (p.fs.length : Int) 4 ++ (p.fs.flatMap bfun ++ (beb (p.ps.length : Int) 4 ++ (p.ps.flatMap bprint ++ (beb (p.ar.length : Int) 4 ++ p.ar.flatMap barm)))))) := there_take ⟨#[68, 82, 87, 49]⟩ _
  refine Option.bind_eq_some_iff.2 ⟨_, g1, ?_⟩
  rw [if_pos rfl]
  refine Option.bind_eq_some_iff.2 ⟨_, g2, Option.bind_eq_some_iff.2 ⟨_, g3, Option.bind_eq_some_iff.2 ⟨_, g4, Option.bind_eq_some_iff.2 ⟨_, g5, ?_⟩⟩⟩⟩
  rw [if_pos rfl]

/-- what a right program's parts are -/
theorem pgo_of {p : Pg} (hf : ∀ f ∈ p.fs, FuN f) (hT : tsums p.ps ≤ 140737488355328) (hc : (chk p).1 = 0) : PgO p := by
  have hc' : chk p = (0, (chk p).2.1, (chk p).2.2) := by rw [← hc]
  have hok := chk_ok hc'
  unfold chk at hc
  by_cases ht : tmAny p = true
  · rw [if_pos ht] at hc; cases hc
  rw [if_neg ht] at hc
  by_cases hi : rItems p.ps = false ∨ rMain p = false
  · rw [if_pos hi] at hc; cases hc
  have hi1 : rItems p.ps = true := by cases h : rItems p.ps; exact absurd (Or.inl h) hi; rfl
  have hi2 : rMain p = true := by cases h : rMain p; exact absurd (Or.inr h) hi; rfl
  have ht' : tmAny p = false := by cases h : tmAny p; rfl; exact absurd h ht
  unfold tmAny tmPrints tmArms at ht'
  simp only [Bool.or_eq_false_iff, decide_eq_false_iff_not] at ht'
  obtain ⟨⟨⟨a1, a2⟩, ⟨a3, a4⟩, a5⟩, a6, a7⟩ := ht'
  rw [wrap_in (by omega)] at a5
  have hmn : 0 ≤ p.mn ∧ p.mn < p.fs.length := by
    unfold rMain pick_ at hi2
    by_cases h0 : 0 ≤ p.mn
    · rw [if_pos h0] at hi2
      cases hg : p.fs[p.mn.toNat]? with
      | none => rw [hg] at hi2; cases hi2
      | some f =>
        have := (List.getElem?_eq_some_iff.1 hg).1
        exact ⟨h0, by omega⟩
    · rw [if_neg h0] at hi2; cases hi2
  refine ⟨⟨hmn.1, by omega⟩, by omega, fun f hfm => ?_, by omega, fun l hl => ?_, by omega, fun l hl => ?_⟩
  · have ok := hok f hfm
    have hz := ok.siz
    unfold rSizes at hz
    simp only [Bool.and_eq_true, decide_eq_true_eq] at hz
    obtain ⟨⟨⟨⟨⟨⟨c0, c1⟩, c2⟩, c3⟩, c4⟩, c5⟩, c6⟩ := hz
    refine ⟨by omega, ⟨c1, by omega⟩, ⟨by omega, by omega⟩, c6, fun i hi => ?_⟩
    have hk := fstBad_none ok.bad i hi
    unfold okI at hk
    simp only [Bool.and_eq_true] at hk
    obtain ⟨⟨k1, k2⟩, _⟩ := hk
    unfold knw at k1
    unfold rNum rNumB at k2
    simp only [Bool.and_eq_true, Bool.or_eq_true, decide_eq_true_eq] at k1 k2
    refine ⟨⟨by omega, by omega⟩, (hf f hfm).2 i hi, ?_, ⟨k2.1.1.1, by omega⟩⟩
    rcases k2.1.2 with h | h
    · omega
    · omega
  · refine ⟨?_, fun x hx => ?_⟩
    · have := List.any_eq_false.1 a4 l hl
      simp at this
      omega
    · unfold rItems at hi1
      have h1 := List.all_eq_true.1 (List.all_eq_true.1 hi1 l hl) x hx
      have h2 : x.t.size ≤ tsums p.ps := by
        have e1 := sum_mem (fun x : It => x.t.size) hx
        have e2 := sum_mem tsum hl
        unfold tsum at e2
        unfold tsums tsum
        omega
      unfold rItem at h1
      simp only [Bool.or_eq_true, Bool.and_eq_true, decide_eq_true_eq] at h1
      refine ⟨?_, fun hne => ?_, by omega⟩
      · rcases h1 with h | ⟨h, _⟩
        · omega
        · rcases h with h | h <;> omega
      · rcases h1 with h | ⟨_, h⟩
        · exact absurd h hne
        · exact empty_of h
  · have := List.any_eq_false.1 a7 l hl
    simp at this
    omega

theorem rb_of {p : Pg} (h : PgO p) : RB p :=
  ⟨⟨h.mn.1, by have := h.mn.2; omega⟩, fun f hf => ⟨⟨(h.fs f hf).sl.1, by have := (h.fs f hf).sl.2; omega⟩, fun i hi => ⟨((h.fs f hf).ins i hi).2.2.2.1, by have := ((h.fs f hf).ins i hi).2.2.2.2; omega⟩⟩⟩

end Go.Proofs.YtgheaieghoekhaaDoor

namespace Go.Proofs.YtgheaieghoekhaaDoor
open Go.RowKit

abbrev noneB : Value := .tuple #[pv (.slice none 0 0) (.slice none 0 0) (.slice none 0 0) 0, .bool false]

theorem PgAt.up {N N' : Nat} {w : World} {v1 v2 v3 : Value} {p : Pg} (h : PgAt N w v1 v2 v3 p) (hN : N ≤ N') : PgAt N' w v1 v2 v3 p :=
  ⟨h.hf.imp hN fun _ _ _ _ ⟨v, h1, h2, h3, h4, h5, h6⟩ => ⟨v, h1, h2, h3, h4, h5, h6.imp hN fun _ _ _ _ h => h⟩, h.hp.imp hN fun _ _ _ _ ⟨v, h1, h6⟩ => ⟨v, h1, h6.imp hN fun _ _ _ _ h => h⟩, h.ha.imp hN fun _ _ _ _ ⟨v, h1, h6⟩ => ⟨v, h1, h6.imp hN fun _ _ _ _ h => h⟩⟩

/-- the three words of a list -/
theorem Lst.form {α : Type} {N k : Nat} {A : Nat → Nat → α → Prop} {v : Value} {l : List α} (h : Lst N k A v l) : ∃ a n c, v = .slice a n c := by
  obtain ⟨b, o, ⟨a, c, h1, _⟩, _⟩ := h
  exact ⟨_, _, _, h1⟩

set_option maxHeartbeats 1000000 in
theorem res_dec (tm : Array Value) (A : Nat) (Z : World) (u1 u2 u3 : Value) (m : Int) (b : Bool) (h2 : tm[2]?.getD undef = .pointer (some ⟨A, 0, none⟩)) (h3 : tm[3]?.getD undef = .bool b) (hA : PB A u1 u2 u3 m Z) :
    (results Tryd.f10 tm).run Tryd.prog Z = .ok (.tuple #[pv u1 u2 u3 m, .bool b]) Z := by
  have cZ := hA.cell
  simp [results, Tryd.results10, go_sem, h2, h3, cZ]

section
variable (s : ByteArray) (hl : s.size ≤ 140737488355328) (w : World)
include hl

set_option maxRecDepth 100000 in
set_option maxHeartbeats 4000000 in
theorem rdecode_short (hb : (cProg ⟨s.data.toList, false⟩).2.b = true) : Calls Tryd.prog 10 #[.string s] w fun e w' => e = .returned noneB ∧ Below w.heap.size w w' := by
  have HBB := hide hb
  clear hb
  obtain ⟨A, eA⟩ : ∃ A, w.heap.size = A := ⟨_, rfl⟩
  obtain ⟨W, hW⟩ : ∃ W, w.alloc (.cells #[.slice none 0 0, .slice none 0 0, .slice none 0 0, .int .i64 0] 26) = W := ⟨_, rfl⟩
  have hbW : Below w.heap.size w W := by rw [← hW]; exact below1 w _
  have hWs : W.heap.size = A + 1 := by rw [← hW]; simp [eA]
  have xA : PB A (.slice none 0 0) (.slice none 0 0) (.slice none 0 0) 0 W := by rw [← hW, ← eA]; exact BX.new w _ _
  have HBW := hide hbW
  have HXA := hide xA
  have HEA := hide eA
  have HW := hide hW
  clear hbW xA eA hW
  go_enter Tryd.func10, Tryd.ntmps10
  go_wp2_with fail
  rw [unhide HW, unhide HEA]
  refine (read_is s hl W).mono ?_
  rintro e w1 ⟨⟨v1, v2, v3, rfl, hG⟩, hB⟩
  rw [unhide HBB]
  have HOWN := hide hG
  replace hG := hG.at
  obtain ⟨a1, n1, k1, rfl⟩ := hG.hf.form
  obtain ⟨a2, n2, k2, rfl⟩ := hG.hp.form
  obtain ⟨a3, n3, k3, rfl⟩ := hG.ha.form
  have h1s := hB.size
  have HG := hide hG
  obtain ⟨mn, hmn⟩ : ∃ m, m = (cProg ⟨s.data.toList, false⟩).1.mn := ⟨_, rfl⟩
  rw [← hmn]
  have HMN := hide hmn
  obtain ⟨V, hV⟩ : ∃ V, w1.alloc (.cells #[.slice a1 n1 k1, .slice a2 n2 k2, .slice a3 n3 k3, .int .i64 mn] 26) = V := ⟨_, rfl⟩
  have hbV : Below w1.heap.size w1 V := by rw [← hV]; exact below1 w1 _
  have hVs : V.heap.size = w1.heap.size + 1 := by rw [← hV]; simp
  have xA1 : PB A (.slice none 0 0) (.slice none 0 0) (.slice none 0 0) 0 w1 := (hB.block A (by omega)).trans (unhide HXA)
  have xAV : PB A (.slice none 0 0) (.slice none 0 0) (.slice none 0 0) 0 V := (hbV.block A xA1.lt).trans xA1
  have z1 : A < w1.heap.size := by omega
  have HB1 := hide (((unhide HBW).trans (hB.mono (by have := unhide HEA; omega))).trans (hbV.mono (by have := unhide HEA; omega)))
  have HXAV := hide xAV
  have HXA1 := hide xA1
  have HB0 := hide ((unhide HBW).trans (hB.mono (by have := unhide HEA; omega)))
  have HV := hide hV
  have cA := xA1.cell
  clear hG hB hmn xA1 xAV hbV hV
  go_wp2
  obtain ⟨Z, hZ⟩ : ∃ Z, Z = (put4 w1 A (.slice none 0 0) (.slice none 0 0) (.slice none 0 0) (.int .i64 0)).alloc (.cells #[.slice a1 n1 k1, .slice a2 n2 k2, .slice a3 n3 k3, .int .i64 mn] 26) := ⟨_, rfl⟩
  have hAy := put4_pb (unhide HXA1) (.slice none 0 0) (.slice none 0 0) (.slice none 0 0) 0
  have hAz : PB A (.slice none 0 0) (.slice none 0 0) (.slice none 0 0) 0 Z := by rw [hZ]; exact ((below1 _ _).block A hAy.lt).trans hAy
  have HBz := hide (show Below w.heap.size w Z by
    rw [hZ]
    exact ((unhide HB0).trans ((put4_ch w1 A (.slice none 0 0) (.slice none 0 0) (.slice none 0 0) (.int .i64 0)).below (N := w.heap.size) (unhide HB0).size (fun b h1 h2 => by have := unhide HEA; omega))).trans ((below1 _ _).mono (by have := (unhide HB0).size; have := (put4_ch w1 A (.slice none 0 0) (.slice none 0 0) (.slice none 0 0) (.int .i64 0)).size; omega)))
  unfold put4 at hZ
  rw [← hZ]
  have cZ := hAz.cell
  refine bodyPost_ret (v := noneB) (res_dec _ A Z _ _ _ 0 false rfl rfl hAz) rfl ⟨rfl, unhide HBz⟩

set_option maxRecDepth 100000 in
set_option maxHeartbeats 8000000 in
theorem rdecode_wrong (hb : (cProg ⟨s.data.toList, false⟩).2.b = false) {q : Pg} (hq : (cProg ⟨s.data.toList, false⟩).1 = q) (hc : (chk q).1 ≠ 0) : Calls Tryd.prog 10 #[.string s] w fun e w' => e = .returned noneB ∧ Below w.heap.size w w' := by
  have HBB := hide hb
  have heat := (eat_prog _ hb).2
  have hnum := prog_num ⟨s.data.toList, false⟩
  rw [hq] at heat hnum
  have hpg : pgB q ≤ 140737488355328 := by have := size_list s; simp only at heat; omega
  have HE := hide (effb_of hnum hpg)
  have HT := hide (Nat.le_trans (tsums_le q) hpg)
  have HQ := hide hq
  have HC := hide hc
  clear hb heat hnum hpg hq hc
  obtain ⟨A, eA⟩ : ∃ A, w.heap.size = A := ⟨_, rfl⟩
  obtain ⟨W, hW⟩ : ∃ W, w.alloc (.cells #[.slice none 0 0, .slice none 0 0, .slice none 0 0, .int .i64 0] 26) = W := ⟨_, rfl⟩
  have hbW : Below w.heap.size w W := by rw [← hW]; exact below1 w _
  have hWs : W.heap.size = A + 1 := by rw [← hW]; simp [eA]
  have xA : PB A (.slice none 0 0) (.slice none 0 0) (.slice none 0 0) 0 W := by rw [← hW, ← eA]; exact BX.new w _ _
  have HBW := hide hbW
  have HXA := hide xA
  have HEA := hide eA
  have HW := hide hW
  clear hbW xA eA hW
  go_enter Tryd.func10, Tryd.ntmps10
  go_wp2_with fail
  rw [unhide HW, unhide HEA]
  refine (read_is s hl W).mono ?_
  rintro e w1 ⟨⟨v1, v2, v3, rfl, hG⟩, hB⟩
  rw [unhide HBB]
  have HOWN := hide hG
  replace hG := hG.at
  obtain ⟨a1, n1, k1, rfl⟩ := hG.hf.form
  obtain ⟨a2, n2, k2, rfl⟩ := hG.hp.form
  obtain ⟨a3, n3, k3, rfl⟩ := hG.ha.form
  have h1s := hB.size
  have HG := hide hG
  obtain ⟨mn, hmn⟩ : ∃ m, m = (cProg ⟨s.data.toList, false⟩).1.mn := ⟨_, rfl⟩
  rw [← hmn]
  have HMN := hide hmn
  obtain ⟨V, hV⟩ : ∃ V, w1.alloc (.cells #[.slice a1 n1 k1, .slice a2 n2 k2, .slice a3 n3 k3, .int .i64 mn] 26) = V := ⟨_, rfl⟩
  have hbV : Below w1.heap.size w1 V := by rw [← hV]; exact below1 w1 _
  have hVs : V.heap.size = w1.heap.size + 1 := by rw [← hV]; simp
  have xA1 : PB A (.slice none 0 0) (.slice none 0 0) (.slice none 0 0) 0 w1 := (hB.block A (by omega)).trans (unhide HXA)
  have xAV : PB A (.slice none 0 0) (.slice none 0 0) (.slice none 0 0) 0 V := (hbV.block A xA1.lt).trans xA1
  have z1 : A < w1.heap.size := by omega
  have HB1 := hide (((unhide HBW).trans (hB.mono (by have := unhide HEA; omega))).trans (hbV.mono (by have := unhide HEA; omega)))
  have HXAV := hide xAV
  have HXA1 := hide xA1
  have HB0 := hide ((unhide HBW).trans (hB.mono (by have := unhide HEA; omega)))
  have HV := hide hV
  rw [unhide HQ] at HG HMN
  have HGV := hide ((unhide HG).below hbV)
  obtain ⟨r, hr⟩ : ∃ r, (chk q).1 = r := ⟨_, rfl⟩
  have HR := hide hr
  have qr : (r != 0) = true := by rw [← hr]; simpa using unhide HC
  clear hG hB hmn xA1 hbV hV hr
  go_wp2_with fail
  rw [unhide HV, unhide HMN]
  refine (rcheck_is (unhide HGV) (by omega) (unhide HT) (unhide HE) (unhide HR)).mono ?_
  rintro e w2 ⟨⟨bb, cc, rfl⟩, hB2⟩
  have h2s := hB2.size
  have xA2 : PB A (.slice none 0 0) (.slice none 0 0) (.slice none 0 0) 0 w2 := (hB2.block A xAV.lt).trans xAV
  have cA := xA2.cell
  have HXA2 := hide xA2
  have HB2 := hide ((unhide HB1).trans (hB2.mono (by have := unhide HEA; omega)))
  clear hB2 xA2 xAV
  go_wp2
  obtain ⟨Z, hZ⟩ : ∃ Z, Z = put4 w2 A (.slice none 0 0) (.slice none 0 0) (.slice none 0 0) (.int .i64 0) := ⟨_, rfl⟩
  have hAz : PB A (.slice none 0 0) (.slice none 0 0) (.slice none 0 0) 0 Z := by rw [hZ]; exact put4_pb (unhide HXA2) (.slice none 0 0) (.slice none 0 0) (.slice none 0 0) 0
  have HBz := hide (show Below w.heap.size w Z by
    rw [hZ]
    exact (unhide HB2).trans ((put4_ch w2 A (.slice none 0 0) (.slice none 0 0) (.slice none 0 0) (.int .i64 0)).below (N := w.heap.size) (unhide HB2).size (fun b h1 h2 => by have := unhide HEA; omega)))
  unfold put4 at hZ
  rw [← hZ]
  have cZ := hAz.cell
  refine bodyPost_ret (v := noneB) (res_dec _ A Z _ _ _ 0 false rfl rfl hAz) rfl ⟨rfl, unhide HBz⟩

set_option maxRecDepth 100000 in
set_option maxHeartbeats 8000000 in
theorem rdecode_yes (hb : (cProg ⟨s.data.toList, false⟩).2.b = false) {q : Pg} (hq : (cProg ⟨s.data.toList, false⟩).1 = q) (hc : (chk q).1 = 0) (hs : bprog q = s.data.toList) : Calls Tryd.prog 10 #[.string s] w fun e w' =>
    (∃ v1 v2 v3, e = .returned (.tuple #[pv v1 v2 v3 q.mn, .bool true]) ∧ PgAt w'.heap.size w' v1 v2 v3 q) ∧ Below w.heap.size w w' := by
  have HBB := hide hb
  have HS := hide hs
  clear hs
  have heat := (eat_prog _ hb).2
  have hnum := prog_num ⟨s.data.toList, false⟩
  rw [hq] at heat hnum
  have hpg : pgB q ≤ 140737488355328 := by have := size_list s; simp only at heat; omega
  have hT := Nat.le_trans (tsums_le q) hpg
  have HE := hide (effb_of hnum hpg)
  have HT := hide hT
  have HRB := hide (rb_of (pgo_of hnum hT hc))
  have HLB := hide (Nat.le_trans (bprog_le q) hpg)
  have HQ := hide hq
  have HC := hide hc
  clear hb heat hnum hpg hq hc hT
  obtain ⟨A, eA⟩ : ∃ A, w.heap.size = A := ⟨_, rfl⟩
  obtain ⟨W, hW⟩ : ∃ W, w.alloc (.cells #[.slice none 0 0, .slice none 0 0, .slice none 0 0, .int .i64 0] 26) = W := ⟨_, rfl⟩
  have hbW : Below w.heap.size w W := by rw [← hW]; exact below1 w _
  have hWs : W.heap.size = A + 1 := by rw [← hW]; simp [eA]
  have xA : PB A (.slice none 0 0) (.slice none 0 0) (.slice none 0 0) 0 W := by rw [← hW, ← eA]; exact BX.new w _ _
  have HBW := hide hbW
  have HXA := hide xA
  have HEA := hide eA
  have HW := hide hW
  clear hbW xA eA hW
  go_enter Tryd.func10, Tryd.ntmps10
  go_wp2_with fail
  rw [unhide HW, unhide HEA]
  refine (read_is s hl W).mono ?_
  rintro e w1 ⟨⟨v1, v2, v3, rfl, hG⟩, hB⟩
  rw [unhide HBB]
  have HOWN := hide hG
  replace hG := hG.at
  obtain ⟨a1, n1, k1, rfl⟩ := hG.hf.form
  obtain ⟨a2, n2, k2, rfl⟩ := hG.hp.form
  obtain ⟨a3, n3, k3, rfl⟩ := hG.ha.form
  have h1s := hB.size
  have HG := hide hG
  obtain ⟨mn, hmn⟩ : ∃ m, m = (cProg ⟨s.data.toList, false⟩).1.mn := ⟨_, rfl⟩
  rw [← hmn]
  have HMN := hide hmn
  obtain ⟨V, hV⟩ : ∃ V, w1.alloc (.cells #[.slice a1 n1 k1, .slice a2 n2 k2, .slice a3 n3 k3, .int .i64 mn] 26) = V := ⟨_, rfl⟩
  have hbV : Below w1.heap.size w1 V := by rw [← hV]; exact below1 w1 _
  have hVs : V.heap.size = w1.heap.size + 1 := by rw [← hV]; simp
  have xA1 : PB A (.slice none 0 0) (.slice none 0 0) (.slice none 0 0) 0 w1 := (hB.block A (by omega)).trans (unhide HXA)
  have xAV : PB A (.slice none 0 0) (.slice none 0 0) (.slice none 0 0) 0 V := (hbV.block A xA1.lt).trans xA1
  have z1 : A < w1.heap.size := by omega
  have HB1 := hide (((unhide HBW).trans (hB.mono (by have := unhide HEA; omega))).trans (hbV.mono (by have := unhide HEA; omega)))
  have HXAV := hide xAV
  have HXA1 := hide xA1
  have HB0 := hide ((unhide HBW).trans (hB.mono (by have := unhide HEA; omega)))
  have HV := hide hV
  rw [unhide HQ] at HG HMN HOWN
  have HOV := hide ((unhide HOWN).ch (Ch.of_below (Q := fun _ => False) hbV) (fun g h1 h2 h => h))
  have HGV := hide ((unhide HG).below hbV)
  have hXV : PB w1.heap.size (.slice a1 n1 k1) (.slice a2 n2 k2) (.slice a3 n3 k3) mn V := by rw [← hV]; exact BX.new w1 _ _
  clear hG hB hmn xA1 hbV hV
  go_wp2_with fail
  rw [unhide HV, unhide HMN]
  refine (rcheck_is (unhide HGV) (by omega) (unhide HT) (unhide HE) (unhide HC)).mono ?_
  rintro e w2 ⟨⟨bb, cc, rfl⟩, hB2⟩
  have h2s := hB2.size
  have xA2 : PB A (.slice none 0 0) (.slice none 0 0) (.slice none 0 0) 0 w2 := (hB2.block A xAV.lt).trans xAV
  have xV2 : PB w1.heap.size (.slice a1 n1 k1) (.slice a2 n2 k2) (.slice a3 n3 k3) mn w2 := (hB2.block _ hXV.lt).trans hXV
  rw [unhide HMN] at xV2
  have cV := xV2.cell
  have HG2 := hide ((unhide HGV).below (hB2.mono (by omega)))
  have HO2 := hide ((unhide HOV).ch (Ch.of_below (Q := fun _ => False) hB2) (fun g h1 h2 h => h))
  have HB2 := hide ((unhide HB1).trans (hB2.mono (by have := unhide HEA; omega)))
  clear hB2 xAV hXV
  go_wp2_with fail
  refine (rbytes_is (unhide HG2) (by omega) (unhide HRB) (unhide HLB)).mono ?_
  rintro e w3 ⟨rfl, hB3⟩
  have h3s := hB3.size
  have xA3 : PB A (.slice none 0 0) (.slice none 0 0) (.slice none 0 0) 0 w3 := (hB3.block A xA2.lt).trans xA2
  have xV3 : PB w1.heap.size (.slice a1 n1 k1) (.slice a2 n2 k2) (.slice a3 n3 k3) q.mn w3 := (hB3.block _ xV2.lt).trans xV2
  clear cV
  have cV := xV3.cell
  have cA := xA3.cell
  have HXA3 := hide xA3
  have HO3 := hide ((unhide HO2).ch (Ch.of_below (Q := fun _ => False) hB3) (fun g h1 h2 h => h))
  have HB3 := hide ((unhide HB2).trans (hB3.mono (by have := unhide HEA; have := (unhide HB2).size; omega)))
  obtain ⟨T, hT⟩ : ∃ T, (⟨(bprog q).toArray⟩ : ByteArray) = T := ⟨_, rfl⟩
  rw [hT]
  clear hB3 xA2 xV2 xA3 xV3 hl
  have hs := unhide HS
  have hTs : T = s := by rw [← hT, hs]
  rw [hTs]
  have hop : ∀ t, binOp .neq t (.string s) (.string s) = pure (.bool false) := fun t => by rw [binOp_string_neq]; simp
  clear hT hTs hs
  go_wp2
  obtain ⟨Z, hZ⟩ : ∃ Z, Z = put4 w3 A (.slice a1 n1 k1) (.slice a2 n2 k2) (.slice a3 n3 k3) (.int .i64 q.mn) := ⟨_, rfl⟩
  have hAz : PB A (.slice a1 n1 k1) (.slice a2 n2 k2) (.slice a3 n3 k3) q.mn Z := by rw [hZ]; exact put4_pb (unhide HXA3) (.slice a1 n1 k1) (.slice a2 n2 k2) (.slice a3 n3 k3) q.mn
  have hCz := put4_ch w3 A (.slice a1 n1 k1) (.slice a2 n2 k2) (.slice a3 n3 k3) (.int .i64 q.mn)
  rw [← hZ] at hCz
  have HBz := hide (show Below w.heap.size w Z from (unhide HB3).trans (hCz.below (N := w.heap.size) (unhide HB3).size (fun b h1 h2 => by have := unhide HEA; omega)))
  have HCz := hide hCz
  unfold put4 at hZ
  rw [← hZ]
  refine bodyPost_ret (v := .tuple #[pv (.slice a1 n1 k1) (.slice a2 n2 k2) (.slice a3 n3 k3) q.mn, .bool true]) (res_dec _ A Z _ _ _ q.mn true rfl rfl hAz) rfl ⟨?_, unhide HBz⟩
  exact ⟨_, _, _, rfl, ((unhide HO3).ch (unhide HCz) (fun g h1 h2 h => by omega)).at⟩

set_option maxRecDepth 100000 in
set_option maxHeartbeats 8000000 in
theorem rdecode_other (hb : (cProg ⟨s.data.toList, false⟩).2.b = false) {q : Pg} (hq : (cProg ⟨s.data.toList, false⟩).1 = q) (hc : (chk q).1 = 0) (hs : bprog q ≠ s.data.toList) : Calls Tryd.prog 10 #[.string s] w fun e w' =>
    e = .returned noneB ∧ Below w.heap.size w w' := by
  have HBB := hide hb
  have HS := hide hs
  clear hs
  have heat := (eat_prog _ hb).2
  have hnum := prog_num ⟨s.data.toList, false⟩
  rw [hq] at heat hnum
  have hpg : pgB q ≤ 140737488355328 := by have := size_list s; simp only at heat; omega
  have hT := Nat.le_trans (tsums_le q) hpg
  have HE := hide (effb_of hnum hpg)
  have HT := hide hT
  have HRB := hide (rb_of (pgo_of hnum hT hc))
  have HLB := hide (Nat.le_trans (bprog_le q) hpg)
  have HQ := hide hq
  have HC := hide hc
  clear hb heat hnum hpg hq hc hT
  obtain ⟨A, eA⟩ : ∃ A, w.heap.size = A := ⟨_, rfl⟩
  obtain ⟨W, hW⟩ : ∃ W, w.alloc (.cells #[.slice none 0 0, .slice none 0 0, .slice none 0 0, .int .i64 0] 26) = W := ⟨_, rfl⟩
  have hbW : Below w.heap.size w W := by rw [← hW]; exact below1 w _
  have hWs : W.heap.size = A + 1 := by rw [← hW]; simp [eA]
  have xA : PB A (.slice none 0 0) (.slice none 0 0) (.slice none 0 0) 0 W := by rw [← hW, ← eA]; exact BX.new w _ _
  have HBW := hide hbW
  have HXA := hide xA
  have HEA := hide eA
  have HW := hide hW
  clear hbW xA eA hW
  go_enter Tryd.func10, Tryd.ntmps10
  go_wp2_with fail
  rw [unhide HW, unhide HEA]
  refine (read_is s hl W).mono ?_
  rintro e w1 ⟨⟨v1, v2, v3, rfl, hG⟩, hB⟩
  rw [unhide HBB]
  have HOWN := hide hG
  replace hG := hG.at
  obtain ⟨a1, n1, k1, rfl⟩ := hG.hf.form
  obtain ⟨a2, n2, k2, rfl⟩ := hG.hp.form
  obtain ⟨a3, n3, k3, rfl⟩ := hG.ha.form
  have h1s := hB.size
  have HG := hide hG
  obtain ⟨mn, hmn⟩ : ∃ m, m = (cProg ⟨s.data.toList, false⟩).1.mn := ⟨_, rfl⟩
  rw [← hmn]
  have HMN := hide hmn
  obtain ⟨V, hV⟩ : ∃ V, w1.alloc (.cells #[.slice a1 n1 k1, .slice a2 n2 k2, .slice a3 n3 k3, .int .i64 mn] 26) = V := ⟨_, rfl⟩
  have hbV : Below w1.heap.size w1 V := by rw [← hV]; exact below1 w1 _
  have hVs : V.heap.size = w1.heap.size + 1 := by rw [← hV]; simp
  have xA1 : PB A (.slice none 0 0) (.slice none 0 0) (.slice none 0 0) 0 w1 := (hB.block A (by omega)).trans (unhide HXA)
  have xAV : PB A (.slice none 0 0) (.slice none 0 0) (.slice none 0 0) 0 V := (hbV.block A xA1.lt).trans xA1
  have z1 : A < w1.heap.size := by omega
  have HB1 := hide (((unhide HBW).trans (hB.mono (by have := unhide HEA; omega))).trans (hbV.mono (by have := unhide HEA; omega)))
  have HXAV := hide xAV
  have HXA1 := hide xA1
  have HB0 := hide ((unhide HBW).trans (hB.mono (by have := unhide HEA; omega)))
  have HV := hide hV
  rw [unhide HQ] at HG HMN HOWN
  have HOV := hide ((unhide HOWN).ch (Ch.of_below (Q := fun _ => False) hbV) (fun g h1 h2 h => h))
  have HGV := hide ((unhide HG).below hbV)
  have hXV : PB w1.heap.size (.slice a1 n1 k1) (.slice a2 n2 k2) (.slice a3 n3 k3) mn V := by rw [← hV]; exact BX.new w1 _ _
  clear hG hB hmn xA1 hbV hV
  go_wp2_with fail
  rw [unhide HV, unhide HMN]
  refine (rcheck_is (unhide HGV) (by omega) (unhide HT) (unhide HE) (unhide HC)).mono ?_
  rintro e w2 ⟨⟨bb, cc, rfl⟩, hB2⟩
  have h2s := hB2.size
  have xA2 : PB A (.slice none 0 0) (.slice none 0 0) (.slice none 0 0) 0 w2 := (hB2.block A xAV.lt).trans xAV
  have xV2 : PB w1.heap.size (.slice a1 n1 k1) (.slice a2 n2 k2) (.slice a3 n3 k3) mn w2 := (hB2.block _ hXV.lt).trans hXV
  rw [unhide HMN] at xV2
  have cV := xV2.cell
  have HG2 := hide ((unhide HGV).below (hB2.mono (by omega)))
  have HO2 := hide ((unhide HOV).ch (Ch.of_below (Q := fun _ => False) hB2) (fun g h1 h2 h => h))
  have HB2 := hide ((unhide HB1).trans (hB2.mono (by have := unhide HEA; omega)))
  clear hB2 xAV hXV
  go_wp2_with fail
  refine (rbytes_is (unhide HG2) (by omega) (unhide HRB) (unhide HLB)).mono ?_
  rintro e w3 ⟨rfl, hB3⟩
  have h3s := hB3.size
  have xA3 : PB A (.slice none 0 0) (.slice none 0 0) (.slice none 0 0) 0 w3 := (hB3.block A xA2.lt).trans xA2
  have xV3 : PB w1.heap.size (.slice a1 n1 k1) (.slice a2 n2 k2) (.slice a3 n3 k3) q.mn w3 := (hB3.block _ xV2.lt).trans xV2
  clear cV
  have cV := xV3.cell
  have cA := xA3.cell
  have HXA3 := hide xA3
  have HO3 := hide ((unhide HO2).ch (Ch.of_below (Q := fun _ => False) hB3) (fun g h1 h2 h => h))
  have HB3 := hide ((unhide HB2).trans (hB3.mono (by have := unhide HEA; have := (unhide HB2).size; omega)))
  obtain ⟨T, hT⟩ : ∃ T, (⟨(bprog q).toArray⟩ : ByteArray) = T := ⟨_, rfl⟩
  rw [hT]
  clear hB3 xA2 xV2 xA3 xV3 hl
  have hs := unhide HS
  have hne : T ≠ s := by intro h; apply hs; rw [← h, ← hT]
  have qs := (bytes_beq T s).trans (decide_eq_false hne)
  have hop : ∀ t, binOp .neq t (.string T) (.string s) = pure (.bool true) := fun t => by rw [binOp_string_neq, qs]; rfl
  clear hne qs
  clear hT hs
  go_wp2
  obtain ⟨Z, hZ⟩ : ∃ Z, Z = put4 w3 A (.slice none 0 0) (.slice none 0 0) (.slice none 0 0) (.int .i64 0) := ⟨_, rfl⟩
  have hAz : PB A (.slice none 0 0) (.slice none 0 0) (.slice none 0 0) 0 Z := by rw [hZ]; exact put4_pb (unhide HXA3) (.slice none 0 0) (.slice none 0 0) (.slice none 0 0) 0
  have HBz := hide (show Below w.heap.size w Z by
    rw [hZ]
    exact (unhide HB3).trans ((put4_ch w3 A (.slice none 0 0) (.slice none 0 0) (.slice none 0 0) (.int .i64 0)).below (N := w.heap.size) (unhide HB3).size (fun b h1 h2 => by have := unhide HEA; omega)))
  unfold put4 at hZ
  rw [← hZ]
  have cZ := hAz.cell
  refine bodyPost_ret (v := noneB) (res_dec _ A Z _ _ _ 0 false rfl rfl hAz) rfl ⟨rfl, unhide HBz⟩
end

end Go.Proofs.YtgheaieghoekhaaDoor

namespace Go.Proofs.YtgheaieghoekhaaDoor
open Go.RowKit

theorem rdec_yes (s : ByteArray) (hl : s.size ≤ 140737488355328) (w : World) {p : Pg} (hg : gProg s.data.toList = some p) (hc : (chk p).1 = 0) :
    Calls Tryd.prog 10 #[.string s] w fun e w' => (∃ v1 v2 v3, e = .returned (.tuple #[pv v1 v2 v3 p.mn, .bool true]) ∧ PgAt w'.heap.size w' v1 v2 v3 p) ∧ Below w.heap.size w w' :=
  rdecode_yes s hl w (by rw [lc_prog hg]) (by rw [lc_prog hg]) hc (back_prog hg)

theorem rdec_no (s : ByteArray) (hl : s.size ≤ 140737488355328) (w : World) (hno : ∀ p, gProg s.data.toList = some p → (chk p).1 ≠ 0) :
    Calls Tryd.prog 10 #[.string s] w fun e w' => e = .returned noneB ∧ Below w.heap.size w w' := by
  cases hb : (cProg ⟨s.data.toList, false⟩).2.b
  · obtain ⟨q, hq⟩ : ∃ q, (cProg ⟨s.data.toList, false⟩).1 = q := ⟨_, rfl⟩
    by_cases hc : (chk q).1 = 0
    · refine rdecode_other s hl w hb hq hc fun hs => ?_
      have heat := (eat_prog _ hb).2
      have hnum := prog_num ⟨s.data.toList, false⟩
      rw [hq] at heat hnum
      have hpg : pgB q ≤ 140737488355328 := by have := size_list s; simp only at heat; omega
      have := there_prog (pgo_of hnum (Nat.le_trans (tsums_le q) hpg) hc)
      rw [hs] at this
      exact hno q this hc
    · exact rdecode_wrong s hl w hb hq hc
  · exact rdecode_short s hl w hb

theorem none_at (N : Nat) (w : World) : PgAt N w (.slice none 0 0) (.slice none 0 0) (.slice none 0 0) ⟨[], [], [], 0⟩ :=
  ⟨⟨0, 0, ⟨none, 0, rfl, by simp, by simp, fun h => by simp at h⟩, fun i h => by simp at h⟩, ⟨0, 0, ⟨none, 0, rfl, by simp, by simp, fun h => by simp at h⟩, fun i h => by simp at h⟩, ⟨0, 0, ⟨none, 0, rfl, by simp, by simp, fun h => by simp at h⟩, fun i h => by simp at h⟩⟩

theorem dec_no {w : World} (hT : Tb w) (hG : 0 < w.heap.size) (s : ByteArray) (hl : s.size ≤ 140737488355328) (hno : ∀ p, gProg s.data.toList = some p → (chk p).1 ≠ 0) :
    Calls Tryd.prog 9 #[.string s] w fun e w' => e = .returned noneV ∧ Below w.heap.size w w' := by
  cases hg : gProg s.data.toList with
  | none => exact decode_no s hl hg
  | some p => exact decode_bad hT hG s hl hg (a := (chk p).1) (b := (chk p).2.1) (c := (chk p).2.2) rfl (hno p hg)

set_option maxRecDepth 100000 in
set_option maxHeartbeats 8000000 in
theorem opens_no {w : World} (hT : Tb w) (hG : 0 < w.heap.size) (s : ByteArray) (hl : s.size ≤ 140737488355328) (hno : ∀ p, gProg s.data.toList = some p → (chk p).1 ≠ 0) :
    Calls Tryd.prog 4 #[.string s] w fun e w' => e = .returned (.bool true) ∧ Below w.heap.size w w' := by
  have HT := hide hT
  have HL := hide hl
  have HNO := hide hno
  clear hT hl hno
  go_enter Tryd.func4, Tryd.ntmps4
  go_wp2_with fail
  refine (awake_is (unhide HT) hG).mono ?_
  rintro e u1 ⟨rfl, hB1⟩
  have h1s := hB1.size
  have HB1 := hide hB1
  have HT1 := hide ((unhide HT).below hG hB1)
  clear hB1
  go_wp2_with fail
  refine (dec_no (unhide HT1) (by omega) s (unhide HL) (unhide HNO)).mono ?_
  rintro e u2 ⟨rfl, hB2⟩
  have h2s := hB2.size
  have HB2 := hide ((unhide HB1).trans (hB2.mono h1s))
  obtain ⟨V2, hV2⟩ : ∃ V, u2.alloc (.cells #[.slice none 0 0, .slice none 0 0, .slice none 0 0, .int .i64 0] 26) = V := ⟨_, rfl⟩
  have hbV2 : Below u2.heap.size u2 V2 := by rw [← hV2]; exact below1 u2 _
  have hX2 : BX V2 u2.heap.size #[.slice none 0 0, .slice none 0 0, .slice none 0 0, .int .i64 0] 26 := by rw [← hV2]; exact BX.new u2 _ _
  have hV2s : V2.heap.size = u2.heap.size + 1 := by rw [← hV2]; simp
  have HV2 := hide hV2
  have HX2 := hide hX2
  have HBV2 := hide ((unhide HB2).trans (hbV2.mono (by omega)))
  clear hB2 hV2 hX2 hbV2
  go_wp2_with fail
  rw [unhide HV2]
  refine (rdec_no s (unhide HL) V2 (unhide HNO)).mono ?_
  rintro e u3 ⟨rfl, hB3⟩
  have h3s := hB3.size
  have hX3 : BX u3 u2.heap.size #[.slice none 0 0, .slice none 0 0, .slice none 0 0, .int .i64 0] 26 := (hB3.block _ (unhide HX2).lt).trans (unhide HX2)
  have cX := hX3.c4
  have z1 : u2.heap.size < u3.heap.size := hX3.lt
  have HB3 := hide ((unhide HBV2).trans (hB3.mono (by omega)))
  clear hB3 hX3
  go_wp2_with fail
  refine (same_is (none_at 0 _) (none_at 0 _) (Nat.zero_le _)).mono ?_
  rintro e u4 ⟨rfl, hB4⟩
  have HB4 := hide (((unhide HB3).trans ((below1 u3 _).mono (by omega))).trans (hB4.mono (by simp; omega)))
  clear hB4 cX
  go_wp2
  go_ret
  exact ⟨rfl, unhide HB4⟩

set_option maxRecDepth 100000 in
set_option maxHeartbeats 8000000 in
theorem opens_yes {w : World} (hT : Tb w) (hG : 0 < w.heap.size) (s : ByteArray) (hl : s.size ≤ 140737488355328) {p : Pg} (hg : gProg s.data.toList = some p) (hc : (chk p).1 = 0) :
    Calls Tryd.prog 4 #[.string s] w fun e w' => e = .returned (.bool true) ∧ Below w.heap.size w w' := by
  have hc' : chk p = (0, (chk p).2.1, (chk p).2.2) := by rw [← hc]
  have hbp := back_prog hg
  have HLB := hide (show (bprog p).length ≤ 140737488355328 by rw [hbp, ← size_list]; exact hl)
  have HTS := hide (show (⟨(bprog p).toArray⟩ : ByteArray) = s by rw [hbp])
  have hop : ∀ t, binOp .eql t (.string s) (.string s) = pure (.bool true) := fun t => by rw [binOp_string_eql]; simp
  have HT := hide hT
  have HL := hide hl
  have HGP := hide hg
  have HC := hide hc
  have HC' := hide hc'
  have HOP := hide hop
  clear hT hl hg hc hc' hbp hop
  go_enter Tryd.func4, Tryd.ntmps4
  go_wp2_with fail
  refine (awake_is (unhide HT) hG).mono ?_
  rintro e u1 ⟨rfl, hB1⟩
  have h1s := hB1.size
  have HB1 := hide hB1
  have HT1 := hide ((unhide HT).below hG hB1)
  clear hB1
  go_wp2_with fail
  refine (decode_ok (unhide HT1) (by omega) s (unhide HL) (unhide HGP) (unhide HC')).mono ?_
  rintro e u2 ⟨⟨v1, v2, v3, rfl, hP⟩, hB2⟩
  have h2s := hB2.size
  have HT2 := hide ((unhide HT1).below (by omega : 0 < u1.heap.size) hB2)
  have HP2 := hide hP.at
  have HB2 := hide ((unhide HB1).trans (hB2.mono h1s))
  obtain ⟨a1, n1, k1, rfl⟩ := hP.at.hf.form
  obtain ⟨a2, n2, k2, rfl⟩ := hP.at.hp.form
  obtain ⟨a3, n3, k3, rfl⟩ := hP.at.ha.form
  obtain ⟨V2, hV2⟩ : ∃ V, u2.alloc (.cells #[.slice a1 n1 k1, .slice a2 n2 k2, .slice a3 n3 k3, .int .i64 p.mn] 26) = V := ⟨_, rfl⟩
  have hbV2 : Below u2.heap.size u2 V2 := by rw [← hV2]; exact below1 u2 _
  have hX2 : BX V2 u2.heap.size #[.slice a1 n1 k1, .slice a2 n2 k2, .slice a3 n3 k3, .int .i64 p.mn] 26 := by rw [← hV2]; exact BX.new u2 _ _
  have hV2s : V2.heap.size = u2.heap.size + 1 := by rw [← hV2]; simp
  have HV2 := hide hV2
  have HX2 := hide hX2
  have HbV2 := hide hbV2
  have HBV2 := hide ((unhide HB2).trans (hbV2.mono (by omega)))
  clear hB2 hV2 hX2 hbV2 hP
  go_wp2_with fail
  rw [unhide HV2]
  refine (rdec_yes s (unhide HL) V2 (unhide HGP) (unhide HC)).mono ?_
  rintro e u3 ⟨⟨y1, y2, y3, rfl, hQ⟩, hB3⟩
  have h3s := hB3.size
  have hX3 : BX u3 u2.heap.size #[.slice a1 n1 k1, .slice a2 n2 k2, .slice a3 n3 k3, .int .i64 p.mn] 26 := (hB3.block _ (unhide HX2).lt).trans (unhide HX2)
  have cX := hX3.c4
  have z1 : u2.heap.size < u3.heap.size := hX3.lt
  have HB23 := hide ((unhide HbV2).trans (hB3.mono (by omega)))
  have HB3 := hide ((unhide HBV2).trans (hB3.mono (by omega)))
  obtain ⟨b1, m1, j1, rfl⟩ := hQ.hf.form
  obtain ⟨b2, m2, j2, rfl⟩ := hQ.hp.form
  obtain ⟨b3, m3, j3, rfl⟩ := hQ.ha.form
  have HbV3 := hide (below1 u3 (.cells #[.slice b1 m1 j1, .slice b2 m2 j2, .slice b3 m3 j3, .int .i64 p.mn] 26))
  have HQ3 := hide (hQ.below (unhide HbV3))
  have HP3 := hide (((unhide HP2).below ((unhide HB23).trans ((unhide HbV3).mono (by omega)))).up (by omega : u2.heap.size ≤ u3.heap.size))
  have HX3 := hide hX3
  clear hB3 hX3 hQ
  go_wp2_with fail
  refine (same_is (unhide HP3) (unhide HQ3) (by simp)).mono ?_
  rintro e u4 ⟨rfl, hB4⟩
  have h4s := hB4.size
  have hb34 : Below u3.heap.size u3 u4 := (unhide HbV3).trans (hB4.mono (by simp))
  have h34 := hb34.size
  have hX4 : BX u4 u2.heap.size #[.slice a1 n1 k1, .slice a2 n2 k2, .slice a3 n3 k3, .int .i64 p.mn] 26 := (hb34.block _ z1).trans (unhide HX3)
  clear cX
  have cX := hX4.c4
  have hb24 : Below u2.heap.size u2 u4 := (unhide HB23).trans (hb34.mono (by omega))
  have HGD := hide (show Gd u2.heap.size u4 (.slice a1 n1 k1) (.slice a2 n2 k2) (.slice a3 n3 k3) p from { (unhide HP2).below hb24 with le := by omega, g := by omega, t := (unhide HT2).below (by omega : 0 < u2.heap.size) hb24 })
  have HB4 := hide ((unhide HB3).trans (hb34.mono (by omega)))
  clear hB4 hb34 hX4 hb24
  go_wp2_with fail
  refine (encode_ok (unhide HGD) (unhide HC') (unhide HLB)).mono ?_
  rintro e u5 ⟨rfl, hB5⟩
  have HB5 := hide ((unhide HB4).trans (hB5.mono (by have := (unhide HB4).size; omega)))
  rw [unhide HTS]
  have hop := unhide HOP
  clear hB5 cX
  go_wp2
  go_ret
  exact ⟨rfl, unhide HB5⟩

theorem opens_walk {w : World} (hT : Tb w) (hG : 0 < w.heap.size) (s : ByteArray) (hl : s.size ≤ 140737488355328) :
    Calls Tryd.prog 4 #[.string s] w fun e w' => e = .returned (.bool true) ∧ Below w.heap.size w w' := by
  by_cases h : ∃ p, gProg s.data.toList = some p ∧ (chk p).1 = 0
  · obtain ⟨p, hg, hc⟩ := h
    exact opens_yes hT hG s hl hg hc
  · exact opens_no hT hG s hl fun p hg hc => h ⟨p, hg, hc⟩

end Go.Proofs.YtgheaieghoekhaaDoor
