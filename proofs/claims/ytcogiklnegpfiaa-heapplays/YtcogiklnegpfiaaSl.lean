/- All things that were taken ever, on lists alone; small tools. -/
import Derived.Test.YtcogiklnegpfiaaFr
import Derived.Deep.RegionHeld3
import Derived.Deep.RegionLawGrows
namespace Go.Proofs.Ytcogiklnegpfiaa
open Go.RowKit

/-- a thing that was taken: its slot, its generation, what it is, whether it is gone -/
structure ThG (α : Type) where
  s : Int
  g : Int
  x : α
  d : Bool
abbrev Th := ThG Int

section
variable {α : Type}

/-- the place of the thing of a handle that lives -/
def fndF (s g : Int) : List (ThG α) → Nat → Option Nat
  | [], _ => none
  | t :: l, k => if (decide (t.s = s) && decide (t.g = g)) && !t.d then some k else fndF s g l (k + 1)
def fnd (l : List (ThG α)) (s g : Int) : Option Nat := fndF s g l 0
/-- as the document tells it -/
def ix : Option Nat → Int
  | none => -1
  | some i => i
/-- how many live -/
def cnt (l : List (ThG α)) : Nat := l.countP fun t => !t.d
/-- does something live in the slot -/
def usd (l : List (ThG α)) (s : Int) : Bool := l.any fun t => decide (t.s = s) && !t.d
/-- how many the slot has had -/
def gens (l : List (ThG α)) (s : Int) : Nat := l.countP fun t => decide (t.s = s)
/-- the first empty slot of n, from s on -/
def emp (l : List (ThG α)) : Nat → Int → Option Int
  | 0, _ => none
  | n + 1, s => if usd l s then emp l n (s + 1) else some s

def tkn (l : List (ThG α)) (s : Int) (x : α) : List (ThG α) := l ++ [⟨s, gens l s + 1, x, false⟩]
def fre (l : List (ThG α)) (i : Nat) : List (ThG α) := l.modify i fun t => { t with d := true }
def sett (l : List (ThG α)) (i : Nat) (x : α) : List (ThG α) := l.modify i fun t => { t with x := x }

theorem modify_set {β : Type} (f : β → β) : ∀ (l : List β) (i : Nat) (h : i < l.length), l.modify i f = l.set i (f l[i])
  | x :: l, 0, _ => rfl
  | x :: l, i + 1, h => by
    rw [List.modify_succ_cons, List.set_cons_succ, modify_set f l i (by simpa using h)]
    rfl
theorem cnt_snoc (l : List (ThG α)) (t : ThG α) : cnt (l ++ [t]) = cnt l + if t.d then 0 else 1 := by
  unfold cnt
  rw [List.countP_append]
  cases h : t.d <;> simp [h]
theorem cnt_le (l : List (ThG α)) : cnt l ≤ l.length := List.countP_le_length
theorem gens_le (l : List (ThG α)) (s : Int) : gens l s ≤ l.length := List.countP_le_length

theorem fndF_some {s g : Int} : ∀ {l : List (ThG α)} {k i : Nat}, fndF s g l k = some i → k ≤ i ∧ i < k + l.length ∧ ∃ h : i - k < l.length, l[i - k].s = s ∧ l[i - k].g = g ∧ l[i - k].d = false
  | [], k, i, h => by cases h
  | t :: l, k, i, h => by
    unfold fndF at h
    split at h
    · rename_i hc
      cases h
      simp only [Bool.and_eq_true, decide_eq_true_eq, Bool.not_eq_true'] at hc
      exact ⟨Nat.le_refl _, by simp, by simp, by simp [hc]⟩
    · obtain ⟨h1, h2, h3, h4⟩ := fndF_some h
      have e : i - k = (i - (k + 1)) + 1 := by omega
      refine ⟨by omega, by simp; omega, by simp; omega, ?_⟩
      simp only [e, List.getElem_cons_succ]
      exact h4
theorem fnd_some {s g : Int} {l : List (ThG α)} {i : Nat} (h : fnd l s g = some i) : ∃ h : i < l.length, l[i].s = s ∧ l[i].g = g ∧ l[i].d = false := by
  obtain ⟨_, _, h3, h4⟩ := fndF_some h
  exact ⟨h3, h4⟩
theorem fndF_none {s g : Int} : ∀ {l : List (ThG α)} {k : Nat}, fndF s g l k = none → ∀ t ∈ l, t.s = s → t.g = g → t.d = true
  | [], k, _ => by simp
  | t :: l, k, h => by
    unfold fndF at h
    split at h
    · cases h
    · rename_i hc
      intro u hu
      rcases List.mem_cons.1 hu with rfl | hu
      · intro h1 h2
        cases hd : u.d
        · exact absurd (by simp [h1, h2, hd]) hc
        · rfl
      · exact fndF_none h u hu

end

/-- a handle as a value -/
abbrev hv (s g : Int) : Value := .agg #[.int .u32 s, .int .u32 g]

theorem nf_open {P : Program} {T : TypeId} {z : Value} {k b : Nat} (h : (P.info? T).map (fun i => (i.zero, i.size, i.bytes)) = some (some z, k, b)) : ∃ i, P.info? T = some i ∧ i.zero = some z ∧ i.size = k ∧ i.bytes = b := by
  cases hi : P.info? T with
  | none => rw [hi] at h; cases h
  | some i =>
    rw [hi] at h
    simp only [Option.map_some, Option.some.injEq, Prod.mk.injEq] at h
    exact ⟨i, rfl, h.1, h.2.1, h.2.2⟩

/-- a new block's cells, one by one -/
theorem row_new (V : World) (cs : List Value) (T : TypeId) {n : Nat} (hn : V.heap.size = n) : ∀ (j : Nat) (u : Value), cs[j]? = some u → (V.alloc (.cells cs.toArray T)).cell? ((⟨n, 0, none⟩ : Addr).add j) = some u := by
  intro j u hu
  subst hn
  rw [Addr.add_lit, Nat.zero_add, Lib.cell_of_heap (heap_new V (.cells cs.toArray T))]
  simpa using hu
def lvs (l : List Th) : List Th := l.filter fun t => !t.d
theorem lvs_snoc (l : List Th) (t : Th) : lvs (l ++ [t]) = if t.d then lvs l else lvs l ++ [t] := by
  unfold lvs
  cases h : t.d <;> simp [List.filter_append, h]
theorem lvs_le (l : List Th) : (lvs l).length ≤ l.length := List.length_filter_le _ _

theorem usd_snoc (l : List Th) (t : Th) (s : Int) : usd (l ++ [t]) s = (usd l s || (decide (t.s = s) && !t.d)) := by simp [usd]
theorem gens_snoc (l : List Th) (t : Th) (s : Int) : gens (l ++ [t]) s = gens l s + if t.s = s then 1 else 0 := by
  unfold gens
  rw [List.countP_append]
  by_cases h : t.s = s <;> simp [h]

/-- the slots are such that they fit -/
def Fit (l : List Th) : Prop := ∀ t ∈ l, 0 ≤ t.s ∧ t.s < 4294967296

/-- append, as one step of a region that draws its order: where the new slice lies -/
theorem step_append_at {P : Program} {ops : Array Oper} {o : Oper} {a : Act} {w : World} {K : Act → World → Prop} {Q : Exit → Act → World → Prop} {E : Prop}
    (hg : o.guard = none) (s x : Operand) (t : TypeId) (hop : o.op = Op.call { callee := Callee.builtin Builtin.append, args := #[s, x], argTypes := #[t, t] })
    (B : Nat) (e : TypeId) (i : TypeInfo) (z : Value) (size bytes : Nat) (h1 : P.underlying t = some (.slice e)) (h2 : P.info? e = some i) (h3 : i.zero = some z) (h4 : i.size = size) (h5 : i.bytes = bytes) (h6 : z.cells.size = size) (h7 : 0 < size)
    (v : Value) (n : Nat) (xs : List Value) (hs : a.eval s = v) (hown : w.ownsRow B e size v n xs)
    (ad : Addr) (m c : Nat) (news : List Value) (hx : a.eval x = .slice (some ad) m c) (hn : news.length = m * size) (hc : ∀ j u, news[j]? = some u → w.cell? (ad.add j) = some u) (h1c : ∀ u ∈ news, u.oneCell' = true)
    (b1 : n + m ≤ maxLen) (b2 : (n + m) * bytes ≤ 140737488355328) (hB : B ≤ w.heap.size)
    (hK : ∀ v' w', w'.ownsRow B e size v' (n + m) (xs ++ news) → w.grownBy w' v.ownBlock → (v'.ownBlock = v.ownBlock ∨ v'.ownBlock = some w.heap.size) → K (a.put o.dst v') w') :
    if Region.wanted o (yielded ops a.tmps) = true then Oper.wp P o a w K Q else E := by
  have hw : Region.wanted o (yielded ops a.tmps) = true := by simp [Region.wanted, hg]
  rw [if_pos hw]
  obtain ⟨v', w', hrun, r1, r2, _, r3⟩ := run_append_own_at (P := P) w B t o.type e i z size bytes h1 h2 h3 h4 h5 h6 h7 v n xs hown ad m c news hn hc h1c b1 b2 hB
  unfold Oper.wp
  simp [execOp, hop, resolve, invoke, builtin, hs, hx, hrun, Result.andThen]
  exact hK v' w' r1 r2 r3

theorem emp_step {l : List Th} {M j : Nat} (hj : j < M) (h : emp l M 1 = emp l (M - j) (j + 1)) : emp l M 1 = if usd l (j + 1) then emp l (M - (j + 1)) (((j + 1 : Nat) : Int) + 1) else some ((j : Int) + 1) := by
  rw [h, show M - j = (M - (j + 1)) + 1 by omega]
  conv => lhs; unfold emp
  simp

section
variable {α : Type}
def fnB (l : List (ThG α)) (s g : Int) : Bool := (fnd l s g).isSome
def srX (l : List (ThG α)) (s g : Int) : Int := match fnd l s g with
  | none => 0
  | some i => i + 1
def frd (l : List (ThG α)) (s g : Int) : List (ThG α) := match fnd l s g with
  | none => l
  | some i => fre l i
def std (l : List (ThG α)) (s g : Int) (x : α) : List (ThG α) := match fnd l s g with
  | none => l
  | some i => sett l i x
def tkd (l : List (ThG α)) (M : Nat) (x : α) : List (ThG α) := match emp l M 1 with
  | none => l
  | some s => tkn l s x
def tkS (l : List (ThG α)) (M : Nat) : Int := (emp l M 1).getD 0
def tkG (l : List (ThG α)) (M : Nat) : Int := match emp l M 1 with
  | none => 0
  | some s => gens l s + 1
def tkB (l : List (ThG α)) (M : Nat) : Bool := (emp l M 1).isSome
/-- an error's number -/
def ec (b : Bool) (c : Int) : Int := if b then 0 else c

theorem frd_len (l : List (ThG α)) (s g : Int) : (frd l s g).length = l.length := by
  unfold frd
  split
  · rfl
  · simp [fre]
theorem std_len (l : List (ThG α)) (s g : Int) (x : α) : (std l s g x).length = l.length := by
  unfold std
  split
  · rfl
  · simp [sett]
theorem tkd_len (l : List (ThG α)) (M : Nat) (x : α) : (tkd l M x).length = l.length + if tkB l M then 1 else 0 := by
  unfold tkd tkB
  split <;> rename_i h <;> simp [h, tkn]

/-- the handles of all things -/
def hnds (l : List (ThG α)) : List (Int × Int) := l.map fun t => (t.s, t.g)
theorem hnds_mod (l : List (ThG α)) (i : Nat) (f : ThG α → ThG α) (hf : ∀ t, (f t).s = t.s ∧ (f t).g = t.g) : hnds (l.modify i f) = hnds l := by
  unfold hnds
  induction l generalizing i with
  | nil => simp
  | cons t l ih =>
    cases i with
    | zero => simp [hf t]
    | succ i => simpa using ih i
theorem hnds_frd (l : List (ThG α)) (s g : Int) : hnds (frd l s g) = hnds l := by
  unfold frd
  split
  · rfl
  · exact hnds_mod _ _ _ fun _ => ⟨rfl, rfl⟩
theorem hnds_std (l : List (ThG α)) (s g : Int) (x : α) : hnds (std l s g x) = hnds l := by
  unfold std
  split
  · rfl
  · exact hnds_mod _ _ _ fun _ => ⟨rfl, rfl⟩
theorem hnds_tkd (l : List (ThG α)) (M : Nat) (x : α) : hnds (tkd l M x) = if tkB l M then hnds l ++ [(tkS l M, tkG l M)] else hnds l := by
  unfold tkd tkB tkS tkG
  split <;> rename_i h <;> simp [h, tkn, hnds]

end
def gtX (l : List Th) (s g : Int) : Int := match fnd l s g with
  | none => 0
  | some i => (l[i]?.map ThG.x).getD 0

/-- a slot's number as a uint32 -/
def Us (a : Int) : Prop := 0 ≤ a ∧ a ≤ 4294967295

end Go.Proofs.Ytcogiklnegpfiaa
