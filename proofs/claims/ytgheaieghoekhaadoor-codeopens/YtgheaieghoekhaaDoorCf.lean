/- What Check asks of a program's parts: the program's texts. -/
import Derived.Test.YtgheaieghoekhaaDoorCd
import Derived.Test.YtgheaieghoekhaaDoorKeep
namespace Go.Proofs.YtgheaieghoekhaaDoor
open Go.RowKit

def tsum (l : List It) : Nat := (l.map fun x => x.t.size).sum
def tsums (ps : List (List It)) : Nat := (ps.map tsum).sum
def tmPrints (ps : List (List It)) : Bool := decide (8388608 < ps.length) || ps.any (fun l => decide (20 < l.length)) || decide (20000 < wrap64 (tsums ps : Int))
def tmArms (l : List (List Bool)) : Bool := decide (8388608 < l.length) || l.any (fun x => decide (50 < x.length))
def tmAny (p : Pg) : Bool := decide (p.fs.length = 0) || decide (100 < p.fs.length) || tmPrints p.ps || tmArms p.ar
def rItem (x : It) : Bool := decide (x.k = 1) || ((decide (x.k = 2) || decide (x.k = 3)) && decide (x.t.size = 0))
def rItems (ps : List (List It)) : Bool := ps.all fun l => l.all rItem
def rMain (p : Pg) : Bool := match pick_ p.fs p.mn with | some f => decide (f.pa = 0) && !f.rs | none => false
def rSizes (f : Fu) : Bool := decide (f.nm.size ≤ 30) && decide (0 ≤ f.pa) && decide (f.pa ≤ 8) && decide (f.pa ≤ f.sl) && decide (f.sl ≤ 250) && decide (0 < f.cd.length) && decide (f.cd.length ≤ 8388608)
def rNumA (p : Pg) (f : Fu) (i : In) : Bool := if tA i.op.toNat = 0 then decide (i.a = 0) else if tA i.op.toNat = 2 then (decide (0 ≤ i.a) && decide (i.a < f.sl)) else nmd p i
def rNumB (i : In) : Bool := decide (i.b = 0) || (decide (i.b = 1) && decide (i.op = 41))
def rNum (p : Pg) (f : Fu) (i : In) : Bool := decide (0 ≤ i.l) && decide (i.l ≤ 2147483647) && rNumB i && rNumA p f i
def rRet (f : Fu) (op : Int) : Bool := if op = 26 then !f.rs else if op = 27 then f.rs else true
def cJump (cd : List In) (k : Nat) (i : In) : Int :=
  if tA i.op.toNat = 3 then (match pick_ cd i.a with | none => 83 | some x => if i.a ≤ k ∧ x.op ≠ 1 then 85 else 0) else 0

theorem below1 (w : World) (o : Obj) : Below w.heap.size w (w.alloc o) := (Below.refl _ _).alloc (Nat.le_refl _) _
theorem below3 (w : World) (o o' o'' : Obj) : Below w.heap.size w (((w.alloc o).alloc o').alloc o'') := (below2 w o o').alloc (by simp; omega) _

theorem any_drop {α : Type} (f : α → Bool) (l : List α) (k : Nat) (h : k < l.length) : (l.drop k).any f = (f l[k] || (l.drop (k + 1)).any f) := by
  rw [List.drop_eq_getElem_cons h, List.any_cons]
theorem all_drop {α : Type} (f : α → Bool) (l : List α) (k : Nat) (h : k < l.length) : (l.drop k).all f = (f l[k] && (l.drop (k + 1)).all f) := by
  rw [List.drop_eq_getElem_cons h, List.all_cons]
theorem sum_take (l : List It) (k : Nat) (h : k < l.length) : tsum (l.take (k + 1)) = tsum (l.take k) + l[k].t.size := by
  unfold tsum
  rw [List.take_succ_eq_append_getElem h]
  simp only [List.map_append, List.sum_append, List.map_cons, List.map_nil, List.sum_cons, List.sum_nil, Nat.add_zero]
theorem sums_take (l : List (List It)) (k : Nat) (h : k < l.length) : tsums (l.take (k + 1)) = tsums (l.take k) + tsum l[k] := by
  unfold tsums
  rw [List.take_succ_eq_append_getElem h]
  simp only [List.map_append, List.sum_append, List.map_cons, List.map_nil, List.sum_cons, List.sum_nil, Nat.add_zero]

theorem emp_iff (t : ByteArray) : t.toList.isEmpty = decide (t.size = 0) := by
  rw [ByteArray.toList_eq, Bool.eq_iff_iff, decide_eq_true_eq, List.isEmpty_iff]
  constructor
  · intro h
    have : t.data.size = 0 := by rw [← Array.length_toList, h]; rfl
    exact this
  · intro h
    exact List.length_eq_zero_iff.1 (by rw [Array.length_toList]; exact h)

set_option maxHeartbeats 1000000 in
theorem ritem_any (x : It) (w : World) :
    Calls Tryd.prog 58 #[.agg #[.int .i64 x.k, .string x.t]] w fun e w' => e = .returned (.bool (rItem x)) ∧ Below w.heap.size w w' := by
  obtain ⟨k, t⟩ := x
  by_cases c1 : k = 1
  · subst c1
    have E := hide (show rItem ⟨1, t⟩ = true by simp [rItem])
    go_enter Tryd.func58, Tryd.ntmps58
    go_wp2
    go_ret
    exact ⟨ret_bool (unhide E).symm, below1 _ _⟩
  have q1 : (k == 1) = false := by simpa using c1
  by_cases c2 : k = 2
  · subst c2
    have E := hide (show rItem ⟨2, t⟩ = t.toList.isEmpty by simp [rItem, emp_iff])
    clear c1 q1
    go_enter Tryd.func58, Tryd.ntmps58
    go_wp2
    go_ret
    exact ⟨ret_bool (unhide E).symm, below1 _ _⟩
  have q2 : (k == 2) = false := by simpa using c2
  by_cases c3 : k = 3
  · subst c3
    have E := hide (show rItem ⟨3, t⟩ = t.toList.isEmpty by simp [rItem, emp_iff])
    clear c1 q1 c2 q2
    go_enter Tryd.func58, Tryd.ntmps58
    go_wp2
    go_ret
    exact ⟨ret_bool (unhide E).symm, below1 _ _⟩
  have q3 : (k == 3) = false := by simpa using c3
  have E := hide (show rItem ⟨k, t⟩ = false by simp [rItem, c1, c2, c3])
  clear c1 c2 c3
  go_enter Tryd.func58, Tryd.ntmps58
  go_wp2
  go_ret
  exact ⟨ret_bool (unhide E).symm, below1 _ _⟩

set_option maxHeartbeats 2000000 in
theorem ritems_any {N : Nat} {v : Value} {ps : List (List It)} (w : World) (h : Lst N 1 (PrAt N w) v ps) (hN : N ≤ w.heap.size) :
    Calls Tryd.prog 31 #[v] w fun e w' => e = .returned (.bool (rItems ps)) ∧ Below w.heap.size w w' := by
  obtain ⟨b, o, ⟨a, c, rfl, hc, hm, ha⟩, hl⟩ := h
  go_enter Tryd.func31, Tryd.ntmps31
  go_wp2
  go_loopw [9] (fun i wr => ∃ k : Nat, k ≤ ps.length ∧ i = .int .i64 k ∧ rItems ps = rItems (ps.drop k) ∧ Below w.heap.size w wr) (fun i _ => ps.length - (intOf i).toNat)
  case atStart => exact ⟨0, Nat.zero_le _, rfl, by simp, Below.refl _ _⟩
  case round =>
    obtain ⟨k, hk, rfl, hR, hB⟩ := hrel
    have hsz := hB.size
    by_cases hlt : k < ps.length
    · obtain ⟨rfl, hb⟩ := ha (by omega)
      obtain ⟨v, f1, f2⟩ := PrAt.below (hB.mono hN) hb (hl k hlt)
      rw [Nat.mul_one] at f1
      obtain ⟨b2, o2, ⟨a2, c2, rfl, hc2, hm2, hs2⟩, hl2⟩ := f2
      have HD := hide (all_drop (fun l => l.all rItem) ps k hlt)
      have HR := hide hR
      generalize hz : ps[k] = z at *
      clear hl ha hR hz
      obtain ⟨wq, rfl⟩ : ∃ x, x = wr := ⟨_, rfl⟩
      have HB := hide hB
      clear hB
      go_wp2
      go_loopw [15] (fun i wr => ∃ j : Nat, j ≤ z.length ∧ i = .int .i64 j ∧ z.all rItem = (z.drop j).all rItem ∧ Below wq.heap.size wq wr) (fun i _ => z.length - (intOf i).toNat)
      case atStart => exact ⟨0, Nat.zero_le _, rfl, by simp, Below.refl _ _⟩
      case round =>
        obtain ⟨j, hj, rfl, hR2, hB2⟩ := hrel
        have hsz2 := hB2.size
        by_cases hlt2 : j < z.length
        · obtain ⟨rfl, hb2⟩ := hs2 (by omega)
          obtain ⟨hx1, hx2⟩ := ItAt.below hB2 (by omega) (hl2 j hlt2)
          have HD2 := hide (all_drop rItem z j hlt2)
          have HR2 := hide hR2
          generalize hy : z[j] = y at *
          have HB2 := hide (hB2.alloc (by omega) (.cells #[.int .i64 y.k, .string y.t] 64))
          clear hl2 hs2 hR2 hB2 hy
          cases hi : rItem y
          · go_wp2_with (go_at_call 58; refine (ritem_any y _).mono ?_; rw [hi]; rintro e w' ⟨rfl, hB5⟩; have HB5 := hide hB5; clear hB5)
            go_ret
            exact ⟨ret_bool (((unhide HR).trans (by unfold rItems; rw [unhide HD, unhide HR2, unhide HD2, hi]; simp)).symm), (unhide HB).trans (((unhide HB2).trans ((unhide HB5).mono (by simp; omega))).mono hsz)⟩
          · go_wp2_with (go_at_call 58; refine (ritem_any y _).mono ?_; rw [hi]; rintro e w' ⟨rfl, hB5⟩; have HB5 := hide hB5; clear hB5)
            go_roundw
            case rel => exact ⟨j + 1, by omega, by go_num, by rw [unhide HR2, unhide HD2, hi]; simp, (unhide HB2).trans ((unhide HB5).mono (by simp; omega))⟩
            case measure => simp [intOf]; omega
        · have HR2 := hide hR2
          have HB2 := hide hB2
          clear hR2 hB2
          go_wp2
          go_roundw
          case rel => exact ⟨k + 1, by omega, by go_num, (unhide HR).trans (by unfold rItems; rw [unhide HD, unhide HR2, List.drop_eq_nil_of_le (by omega)]; simp), (unhide HB).trans ((unhide HB2).mono hsz)⟩
          case measure => simp [intOf]; omega
    · have HB := hide hB
      have HR := hide hR
      clear hB hR
      go_wp2
      go_ret
      exact ⟨ret_bool (((unhide HR).trans (by rw [List.drop_eq_nil_of_le (by omega)]; rfl)).symm), unhide HB⟩

set_option maxHeartbeats 1000000 in
theorem tarms_any {N : Nat} {v : Value} {l : List (List Bool)} (w : World) (h : Lst N 1 (ArAt N w) v l) :
    Calls Tryd.prog 57 #[v] w fun e w' => e = .returned (.bool (tmArms l)) ∧ w' = w := by
  obtain ⟨b, o, ⟨a, c, rfl, hc, hm, ha⟩, hl⟩ := h
  by_cases h0 : 8388608 < l.length
  · have E := hide (show tmArms l = true by simp [tmArms, h0])
    have q : decide (8388608 < (l.length : Int)) = true := by simp; omega
    go_enter Tryd.func57, Tryd.ntmps57
    go_wp2
    go_ret
    exact ⟨ret_bool (unhide E).symm, rfl⟩
  have E := hide (show tmArms l = l.any (fun x => decide (50 < x.length)) by simp [tmArms, h0])
  have q : decide (8388608 < (l.length : Int)) = false := by simp; omega
  go_enter Tryd.func57, Tryd.ntmps57
  go_wp2
  go_loop [10] (fun i => ∃ k : Nat, k ≤ l.length ∧ i = .int .i64 k ∧ l.any (fun x => decide (50 < x.length)) = (l.drop k).any (fun x => decide (50 < x.length))) (fun i => l.length - (intOf i).toNat)
  case atStart => exact ⟨0, Nat.zero_le _, rfl, by simp⟩
  case round =>
    obtain ⟨k, hk, rfl, hR⟩ := hrel
    by_cases hlt : k < l.length
    · obtain ⟨rfl, hb⟩ := ha (by omega)
      obtain ⟨v, f1, b2, o2, ⟨a2, c2, rfl, hc2, hm2, hs2⟩, -⟩ := hl k hlt
      rw [Nat.mul_one] at f1
      have HD := hide (any_drop (fun x => decide (50 < x.length)) l k hlt)
      have HR := hide hR
      generalize hz : l[k] = z at *
      clear hl ha hR hz hs2
      by_cases h5 : 50 < z.length
      · have q5 : decide (50 < (z.length : Int)) = true := by simp; omega
        have h5' : (50 : Int) < (z.length : Int) := by omega
        go_wp2
        go_ret
        exact ⟨ret_bool (((unhide E).trans ((unhide HR).trans (by rw [unhide HD]; simp [h5]))).symm), rfl⟩
      · have q5 : decide (50 < (z.length : Int)) = false := by simp; omega
        have h5' : ¬ (50 : Int) < (z.length : Int) := by omega
        go_wp2
        go_round
        case rel => exact ⟨k + 1, by omega, by go_num, by rw [unhide HR, unhide HD]; simp [h5]⟩
        case measure => simp [intOf]; omega
    · have HR := hide hR
      clear hR
      go_wp2
      go_ret
      exact ⟨ret_bool (((unhide E).trans ((unhide HR).trans (by rw [List.drop_eq_nil_of_le (by omega)]; rfl))).symm), rfl⟩

set_option maxHeartbeats 2000000 in
theorem tprints_any {N : Nat} {v : Value} {ps : List (List It)} (w : World) (h : Lst N 1 (PrAt N w) v ps) (hN : N ≤ w.heap.size) :
    Calls Tryd.prog 56 #[v] w fun e w' => e = .returned (.bool (tmPrints ps)) ∧ Below w.heap.size w w' := by
  obtain ⟨b, o, ⟨a, c, rfl, hc, hm, ha⟩, hl⟩ := h
  by_cases h0 : 8388608 < ps.length
  · have E := hide (show tmPrints ps = true by simp [tmPrints, h0])
    have q : decide (8388608 < (ps.length : Int)) = true := by simp; omega
    go_enter Tryd.func56, Tryd.ntmps56
    go_wp2
    go_ret
    exact ⟨ret_bool (unhide E).symm, Below.refl _ _⟩
  have E := hide (show tmPrints ps = (ps.any (fun x => decide (20 < x.length)) || decide (20000 < wrap64 (tsums ps : Int))) by simp [tmPrints, h0])
  have q : decide (8388608 < (ps.length : Int)) = false := by simp; omega
  go_enter Tryd.func56, Tryd.ntmps56
  go_wp2
  go_loopw [3, 13] (fun t i wr => ∃ k : Nat, k ≤ ps.length ∧ i = .int .i64 k ∧ t = .int .i64 (wrap64 (tsums (ps.take k) : Int)) ∧ ps.any (fun x => decide (20 < x.length)) = (ps.drop k).any (fun x => decide (20 < x.length)) ∧ Below w.heap.size w wr) (fun _ i _ => ps.length - (intOf i).toNat)
  case atStart => exact ⟨0, Nat.zero_le _, rfl, by simp [tsums, wrap64], by simp, Below.refl _ _⟩
  case round =>
    obtain ⟨k, hk, rfl, rfl, hR, hB⟩ := hrel
    have hsz := hB.size
    by_cases hlt : k < ps.length
    · obtain ⟨rfl, hb⟩ := ha (by omega)
      obtain ⟨v, f1, f2⟩ := PrAt.below (hB.mono hN) hb (hl k hlt)
      rw [Nat.mul_one] at f1
      obtain ⟨b2, o2, ⟨a2, c2, rfl, hc2, hm2, hs2⟩, hl2⟩ := f2
      have HD := hide (any_drop (fun x => decide (20 < x.length)) ps k hlt)
      have HS := hide (sums_take ps k hlt)
      have HR := hide hR
      generalize hz : ps[k] = z at *
      clear hl ha hR hz
      obtain ⟨wq, rfl⟩ : ∃ x, x = wr := ⟨_, rfl⟩
      have HB := hide hB
      clear hB
      by_cases h5 : 20 < z.length
      · have q5 : decide (20 < (z.length : Int)) = true := by simp; omega
        have h5' : (20 : Int) < (z.length : Int) := by omega
        go_wp2
        go_ret
        exact ⟨ret_bool (((unhide E).trans (by rw [unhide HR, unhide HD]; simp [h5])).symm), unhide HB⟩
      have q5 : decide (20 < (z.length : Int)) = false := by simp; omega
      have h5' : ¬ (20 : Int) < (z.length : Int) := by omega
      generalize hT : tsums (ps.take k) = T at *
      have HT := hide hT
      clear hT
      go_wp2
      go_loopw [3, 22] (fun t i wr => ∃ j : Nat, j ≤ z.length ∧ i = .int .i64 j ∧ t = .int .i64 (wrap64 ((T + tsum (z.take j) : Nat) : Int)) ∧ Below wq.heap.size wq wr) (fun _ i _ => z.length - (intOf i).toNat)
      case atStart => exact ⟨0, Nat.zero_le _, rfl, by simp [tsum], Below.refl _ _⟩
      case round =>
        obtain ⟨j, hj, rfl, rfl, hB2⟩ := hrel
        have hsz2 := hB2.size
        by_cases hlt2 : j < z.length
        · obtain ⟨rfl, hb2⟩ := hs2 (by omega)
          obtain ⟨hx1, hx2⟩ := ItAt.below hB2 (by omega) (hl2 j hlt2)
          have HS2 := hide (sum_take z j hlt2)
          generalize hy : z[j] = y at *
          have HB2 := hide (hB2.alloc (by omega) (.cells #[.int .i64 y.k, .string y.t] 64))
          clear hl2 hs2 hB2 hy
          go_wp2
          go_roundw
          case rel => exact ⟨j + 1, by omega, by go_num, by rw [unhide HS2, wrap_add]; exact vint (by omega), unhide HB2⟩
          case measure => simp [intOf]; omega
        · have HB2 := hide hB2
          clear hB2
          go_wp2
          go_roundw
          case rel => exact ⟨k + 1, by omega, by go_num, by rw [unhide HS, List.take_of_length_le (by omega)], (unhide HR).trans (by rw [unhide HD]; simp [h5]), (unhide HB).trans ((unhide HB2).mono hsz)⟩
          case measure => simp [intOf]; omega
    · have HB := hide hB
      have HR := hide hR
      clear hB hR
      go_wp2
      go_ret
      exact ⟨ret_bool (((unhide E).trans (by rw [unhide HR, List.drop_eq_nil_of_le (by omega), List.take_of_length_le (by omega)]; simp)).symm), unhide HB⟩

set_option maxHeartbeats 1000000 in
theorem tmany_any {N : Nat} {w : World} {v1 v2 v3 : Value} {p : Pg} (h : Gd N w v1 v2 v3 p) :
    Calls Tryd.prog 30 #[pv v1 v2 v3 p.mn] w fun e w' => e = .returned (.bool (tmAny p)) ∧ Below w.heap.size w w' := by
  have HG := hide h
  obtain ⟨b1, o1, ⟨a1, c1, rfl, -, hm1, -⟩, -⟩ := h.hf
  clear h
  by_cases c1 : p.fs.length = 0
  · have E := hide (show tmAny p = true by simp [tmAny, c1])
    have q1 : ((p.fs.length : Int) == 0) = true := by simp [c1]
    clear HG
    go_enter Tryd.func30, Tryd.ntmps30
    go_wp2
    go_ret
    exact ⟨ret_bool (unhide E).symm, below1 _ _⟩
  have q1 : ((p.fs.length : Int) == 0) = false := by simp [c1]
  by_cases c2 : 100 < p.fs.length
  · have E := hide (show tmAny p = true by simp [tmAny, c2])
    have q2 : decide (100 < (p.fs.length : Int)) = true := by simp; omega
    clear HG
    go_enter Tryd.func30, Tryd.ntmps30
    go_wp2
    go_ret
    exact ⟨ret_bool (unhide E).symm, below1 _ _⟩
  have q2 : decide (100 < (p.fs.length : Int)) = false := by simp; omega
  cases c3 : tmPrints p.ps
  · have E := hide (show tmAny p = tmArms p.ar by simp [tmAny, c1, c2, c3])
    clear c1 c2
    go_enter Tryd.func30, Tryd.ntmps30
    go_wp2_with (first | (go_at_call 56; refine (tprints_any _ ((unhide HG).alloc _).hp ((unhide HG).alloc _).le).mono ?_; rw [c3]; rintro e w5 ⟨rfl, hB5⟩; obtain ⟨bc, bf⟩ := bcell hB5; have HB5 := hide hB5; clear hB5 bf) | (go_at_call 57; refine (tarms_any _ (((unhide HG).alloc _).below ((unhide HB5).mono ((unhide HG).alloc _).le) (Nat.le_trans ((unhide HG).alloc _).le (unhide HB5).size)).ha).mono ?_; rintro e w6 ⟨rfl, rfl⟩))
    go_ret
    exact ⟨ret_bool (unhide E).symm, (below1 _ _).trans ((unhide HB5).mono (by simp))⟩
  · have E := hide (show tmAny p = true by simp [tmAny, c3])
    clear c1 c2
    go_enter Tryd.func30, Tryd.ntmps30
    go_wp2_with (first | (go_at_call 56; refine (tprints_any _ ((unhide HG).alloc _).hp ((unhide HG).alloc _).le).mono ?_; rw [c3]; rintro e w5 ⟨rfl, hB5⟩; obtain ⟨bc, bf⟩ := bcell hB5; have HB5 := hide hB5; clear hB5 bf))
    go_ret
    exact ⟨ret_bool (unhide E).symm, (below1 _ _).trans ((unhide HB5).mono (by simp))⟩

set_option maxHeartbeats 1000000 in
theorem rmain_any {N : Nat} {w : World} {v1 v2 v3 : Value} {p : Pg} (h : Gd N w v1 v2 v3 p) :
    Calls Tryd.prog 32 #[pv v1 v2 v3 p.mn] w fun e w' => e = .returned (.bool (rMain p)) ∧ Below w.heap.size w w' := by
  have hle := h.le
  obtain ⟨b1, o1, ⟨a1, c1, rfl, -, hm1, hs1⟩, hl1⟩ := h.hf
  cases hw : wthn p.mn p.fs.length
  · have E := hide (show rMain p = false by unfold rMain; rw [pick_no hw])
    clear h hl1 hs1
    go_enter Tryd.func32, Tryd.ntmps32
    go_wp2_with (go_at_call 34; refine (within_any _ _ _).mono ?_; rw [hw]; rintro e w' ⟨rfl, rfl⟩)
    go_ret
    exact ⟨ret_bool (unhide E).symm, below1 _ _⟩
  · obtain ⟨j, ea, hj⟩ := wthn_yes hw
    obtain ⟨rfl, hb1⟩ := hs1 (by omega)
    have hb1' : b1 < w.heap.size := by omega
    obtain ⟨v, f1, f2, f3, f4, f5, b2, o2, ⟨a2, c2, rfl, -⟩, -⟩ := hl1 j hj
    have E := hide (show rMain p = (decide (p.fs[j].pa = 0) && !p.fs[j].rs) by unfold rMain; rw [ea, pick_yes hj])
    rw [ea] at hw
    rw [ea]
    generalize p.fs[j] = z at *
    clear h hl1 hs1 ea
    by_cases c1 : z.pa = 0
    · rw [c1] at f2
      have E2 := hide ((unhide E).trans (show _ = !z.rs by simp [c1]))
      clear E c1
      go_enter Tryd.func32, Tryd.ntmps32
      go_wp2_with (go_at_call 34; refine (within_any _ _ _).mono ?_; rw [hw]; rintro e w' ⟨rfl, rfl⟩)
      go_ret
      exact ⟨ret_bool (unhide E2).symm, below2 _ _ _⟩
    · have q : (z.pa == 0) = false := by simpa using c1
      have E2 := hide ((unhide E).trans (show _ = false by simp [c1]))
      clear E c1
      go_enter Tryd.func32, Tryd.ntmps32
      go_wp2_with (go_at_call 34; refine (within_any _ _ _).mono ?_; rw [hw]; rintro e w' ⟨rfl, rfl⟩)
      go_ret
      exact ⟨ret_bool (unhide E2).symm, below2 _ _ _⟩

set_option maxHeartbeats 1000000 in
theorem rret_any (f : Fu) (v : Value) (op : Int) (w : World) :
    Calls Tryd.prog 61 #[fv f v, .int .i64 op] w fun e w' => e = .returned (.bool (rRet f op)) ∧ Below w.heap.size w w' := by
  by_cases c1 : op = 26
  · subst c1
    have E := hide (show rRet f 26 = !f.rs by simp [rRet])
    go_enter Tryd.func61, Tryd.ntmps61
    go_wp2
    go_ret
    exact ⟨ret_bool (unhide E).symm, below1 _ _⟩
  have q1 : (op == 26) = false := by simpa using c1
  by_cases c2 : op = 27
  · subst c2
    have E := hide (show rRet f 27 = f.rs by simp [rRet])
    clear c1 q1
    go_enter Tryd.func61, Tryd.ntmps61
    go_wp2
    go_ret
    exact ⟨ret_bool (unhide E).symm, below1 _ _⟩
  have q2 : (op == 27) = false := by simpa using c2
  have E := hide (show rRet f op = true by simp [rRet, c1, c2])
  clear c1 c2
  go_enter Tryd.func61, Tryd.ntmps61
  go_wp2
  go_ret
  exact ⟨ret_bool (unhide E).symm, below1 _ _⟩

set_option maxHeartbeats 2000000 in
theorem rsizes_any {N : Nat} (f : Fu) (v : Value) (w : World) (h : Lst N 4 (InAt w) v f.cd) :
    Calls Tryd.prog 59 #[fv f v] w fun e w' => e = .returned (.bool (rSizes f)) ∧ Below w.heap.size w w' := by
  obtain ⟨b, o, ⟨a, c, rfl, hc, hm, ha⟩, hl⟩ := h
  clear hl ha
  by_cases c0 : f.nm.size ≤ 30
  rotate_left
  · have E := hide (show rSizes f = false by simp [rSizes, c0])
    have q0 : decide ((f.nm.size : Int) ≤ 30) = false := by simp; omega
    clear c0
    go_enter Tryd.func59, Tryd.ntmps59
    go_wp2
    go_ret
    exact ⟨ret_bool (unhide E).symm, below1 _ _⟩
  have q0 : decide ((f.nm.size : Int) ≤ 30) = true := by simp; omega
  by_cases c1 : 0 ≤ f.pa
  rotate_left
  · have E := hide (show rSizes f = false by simp [rSizes, c1])
    have q1 : decide (0 ≤ f.pa) = false := by simpa using c1
    clear c1
    go_enter Tryd.func59, Tryd.ntmps59
    go_wp2
    go_ret
    exact ⟨ret_bool (unhide E).symm, below1 _ _⟩
  have q1 : decide (0 ≤ f.pa) = true := by simpa using c1
  by_cases c2 : f.pa ≤ 8
  rotate_left
  · have E := hide (show rSizes f = false by simp [rSizes, c2])
    have q2 : decide (f.pa ≤ 8) = false := by simpa using c2
    clear c2
    go_enter Tryd.func59, Tryd.ntmps59
    go_wp2
    go_ret
    exact ⟨ret_bool (unhide E).symm, below1 _ _⟩
  have q2 : decide (f.pa ≤ 8) = true := by simpa using c2
  by_cases c3 : f.pa ≤ f.sl
  rotate_left
  · have E := hide (show rSizes f = false by simp [rSizes, c3])
    have q3 : decide (f.pa ≤ f.sl) = false := by simpa using c3
    clear c3
    go_enter Tryd.func59, Tryd.ntmps59
    go_wp2
    go_ret
    exact ⟨ret_bool (unhide E).symm, below1 _ _⟩
  have q3 : decide (f.pa ≤ f.sl) = true := by simpa using c3
  by_cases c4 : f.sl ≤ 250
  rotate_left
  · have E := hide (show rSizes f = false by simp [rSizes, c4])
    have q4 : decide (f.sl ≤ 250) = false := by simpa using c4
    clear c4
    go_enter Tryd.func59, Tryd.ntmps59
    go_wp2
    go_ret
    exact ⟨ret_bool (unhide E).symm, below1 _ _⟩
  have q4 : decide (f.sl ≤ 250) = true := by simpa using c4
  by_cases c5 : 0 < f.cd.length
  rotate_left
  · have E := hide (show rSizes f = false by simp [rSizes, c5])
    have q5 : decide (0 < f.cd.length) = false := by simpa using c5
    have q5b : ¬ 0 < f.cd.length := c5
    clear c5
    go_enter Tryd.func59, Tryd.ntmps59
    go_wp2
    go_ret
    exact ⟨ret_bool (unhide E).symm, below1 _ _⟩
  have q5 : decide (0 < f.cd.length) = true := by simpa using c5
  by_cases c6 : f.cd.length ≤ 8388608
  rotate_left
  · have E := hide (show rSizes f = false by simp [rSizes, c6])
    have q6 : decide ((f.cd.length : Int) ≤ 8388608) = false := by simp; omega
    clear c6
    go_enter Tryd.func59, Tryd.ntmps59
    go_wp2
    go_ret
    exact ⟨ret_bool (unhide E).symm, below1 _ _⟩
  have q6 : decide ((f.cd.length : Int) ≤ 8388608) = true := by simp; omega
  have E := hide (show rSizes f = true by simp [rSizes, c0, c1, c2, c3, c4, c5, c6])
  clear c0 c1 c2 c3 c4 c5 c6
  go_enter Tryd.func59, Tryd.ntmps59
  go_wp2
  go_ret
  exact ⟨ret_bool (unhide E).symm, below1 _ _⟩

end Go.Proofs.YtgheaieghoekhaaDoor
