/- What an instruction takes and gives: the program's texts. -/
import Derived.Test.YtgheaieghoekhaaDoorCa
namespace Go.Proofs.YtgheaieghoekhaaDoor
open Go.RowKit

def knw (op : Int) : Bool := decide (0 < op) && decide (op < 44)
def wthn (a : Int) (n : Nat) : Bool := decide (0 ≤ a) && decide (a < n)
def nmd (p : Pg) (i : In) : Bool :=
  if tA i.op.toNat = 4 then wthn i.a p.fs.length else if tA i.op.toNat = 5 then wthn i.a p.ar.length else if tA i.op.toNat = 6 then wthn i.a p.ps.length else true
def armv (l : List Bool) : Nat := l.length + l.countP id
def isV (x : It) : Bool := x.k == 2 || x.k == 3
def itmv (l : List It) : Nat := l.countP isV
def pick_ {α : Type} (l : List α) (a : Int) : Option α := if 0 ≤ a then l[a.toNat]? else none
def eff (p : Pg) (i : In) : Int × Int :=
  if i.op = 24 then (match pick_ p.fs i.a with | some f => (f.pa, if f.rs then 1 else 0) | none => (0, 0))
  else if i.op = 25 then (match pick_ p.fs i.a with | some f => (f.pa, 0) | none => (0, 0))
  else if i.op = 41 then (match pick_ p.ar i.a with | some l => (wrap64 (armv l : Int), 3) | none => (0, 0))
  else if i.op = 43 then (match pick_ p.ps i.a with | some l => ((itmv l : Int), 0) | none => (0, 0))
  else if knw i.op then ((tT i.op.toNat : Int), (tG i.op.toNat : Int)) else (0, 0)

theorem known_any (op : Int) (w : World) : Calls Tryd.prog 16 #[.int .i64 op] w fun e w' => e = .returned (.bool (knw op)) ∧ w' = w := by
  by_cases h : 0 < op
  · have e : knw op = decide (op < 44) := by unfold knw; simp [h]
    rw [e]; clear e
    go_enter Tryd.func16, Tryd.ntmps16
    go_wp2
    go_ret
    exact ⟨rfl, rfl⟩
  · have e : knw op = false := by unfold knw; simp [h]
    have h' : decide (0 < op) = false := by simpa using h
    rw [e]; clear e
    go_enter Tryd.func16, Tryd.ntmps16
    go_wp2
    go_ret
    exact ⟨rfl, rfl⟩

theorem within_any (a : Int) (n : Nat) (w : World) : Calls Tryd.prog 34 #[.int .i64 a, .int .i64 (n : Int)] w fun e w' => e = .returned (.bool (wthn a n)) ∧ w' = w := by
  by_cases h : 0 ≤ a
  · have e : wthn a n = decide (a < n) := by unfold wthn; simp [h]
    rw [e]; clear e
    go_enter Tryd.func34, Tryd.ntmps34
    go_wp2
    go_ret
    exact ⟨rfl, rfl⟩
  · have e : wthn a n = false := by unfold wthn; simp [h]
    have h' : decide (0 ≤ a) = false := by simpa using h
    rw [e]; clear e
    go_enter Tryd.func34, Tryd.ntmps34
    go_wp2
    go_ret
    exact ⟨rfl, rfl⟩

theorem countP_take {α : Type} (f : α → Bool) (l : List α) (k : Nat) (h : k < l.length) : (l.take (k + 1)).countP f = (l.take k).countP f + if f l[k] then 1 else 0 := by
  rw [List.take_succ_eq_append_getElem h, List.countP_append]
  simp [List.countP_cons]

theorem wrap_add (a b : Int) : wrap64 (wrap64 a + b) = wrap64 (a + b) := by
  unfold wrap64
  omega
theorem vint {a b : Int} (h : a = b) : Value.int .i64 (wrap64 a) = Value.int .i64 (wrap64 b) := by rw [h]
theorem wrap_in {n : Nat} (h : n ≤ 9223372036854775807) : wrap64 (n : Int) = n := by unfold wrap64; omega

set_option maxHeartbeats 1000000 in
theorem armv_any {N : Nat} {v : Value} {l : List Bool} (w : World) (h : Lst N 1 (BoAt w) v l) :
    Calls Tryd.prog 18 #[v] w fun e w' => e = .returned (.int .i64 (wrap64 (armv l : Int))) ∧ w' = w := by
  obtain ⟨b, o, ⟨a, c, rfl, hc, hm, ha⟩, hl⟩ := h
  go_enter Tryd.func18, Tryd.ntmps18
  go_wp2
  go_loop [3, 10] (fun t i => ∃ k : Nat, k ≤ l.length ∧ i = .int .i64 k ∧ t = .int .i64 (wrap64 ((l.length + (l.take k).countP id : Nat) : Int))) (fun _ i => l.length - (intOf i).toNat)
  case atStart => exact ⟨0, Nat.zero_le _, rfl, by simp [wrap_in hm]⟩
  case round =>
    obtain ⟨k, hk, rfl, rfl⟩ := hrel
    by_cases hlt : k < l.length
    · obtain ⟨rfl, hb⟩ := ha (by omega)
      have hx : w.cell? ⟨b, o + k, none⟩ = some (.bool l[k]) := by have := hl k hlt; rwa [Nat.mul_one] at this
      have hn : l.length + (l.take (k + 1)).countP id = l.length + (l.take k).countP id + if l[k] then 1 else 0 := by rw [countP_take id l k hlt, Nat.add_assoc]; rfl
      generalize l.length + (l.take k).countP id = T at *
      generalize hz : l[k] = z at hx hn
      have HN := hide hn
      clear hl ha hn hz
      cases z
      all_goals
        go_wp2
        go_round
        case rel => exact ⟨k + 1, by omega, by go_num, by rw [unhide HN]; first | rfl | (rw [wrap_add]; exact vint (by simp))⟩
        case measure => simp [intOf]; omega
    · go_wp2
      go_ret
      have e : k = l.length := by omega
      subst e
      exact ⟨ret_int (by simp [armv]), rfl⟩

set_option maxHeartbeats 1000000 in
theorem itmv_any {N : Nat} {v : Value} {l : List It} (w : World) (h : Lst N 2 (ItAt w) v l) (hN : N ≤ w.heap.size) :
    Calls Tryd.prog 19 #[v] w fun e w' => e = .returned (.int .i64 (itmv l : Int)) ∧ Below w.heap.size w w' := by
  obtain ⟨b, o, ⟨a, c, rfl, hc, hm, ha⟩, hl⟩ := h
  have hcp := List.countP_le_length (p := isV) (l := l)
  go_enter Tryd.func19, Tryd.ntmps19
  go_wp2
  go_loopw [3, 8] (fun t i wr => ∃ k : Nat, k ≤ l.length ∧ i = .int .i64 k ∧ t = .int .i64 (((l.take k).countP isV : Nat) : Int) ∧ Below w.heap.size w wr) (fun _ i _ => l.length - (intOf i).toNat)
  case atStart => exact ⟨0, Nat.zero_le _, rfl, by simp, Below.refl _ _⟩
  case round =>
    obtain ⟨k, hk, rfl, rfl, hB⟩ := hrel
    by_cases hlt : k < l.length
    · obtain ⟨rfl, hb⟩ := ha (by omega)
      obtain ⟨hx1, hx2⟩ := ItAt.below hB (by omega) (hl k hlt)
      have hn := countP_take isV l k hlt
      have hle : (l.take k).countP isV ≤ k := Nat.le_trans List.countP_le_length (List.length_take_le _ _)
      have hsz := hB.size
      have HB := hide (hB.alloc (by omega) (.cells #[.int .i64 l[k].k, .string l[k].t] 64))
      generalize hz : l[k] = z at hx1 hx2 hn HB
      have HN := hide hn
      clear hl ha hn hz hB
      by_cases c2 : z.k = 2
      · rw [c2] at hx1 HB
        have hv : isV z = true := by simp [isV, c2]
        go_wp2
        go_roundw
        case rel => exact ⟨k + 1, by omega, by go_num, by rw [unhide HN, hv]; go_num, unhide HB⟩
        case measure => simp [intOf]; omega
      have q2 : (z.k == 2) = false := by simpa using c2
      by_cases c3 : z.k = 3
      · rw [c3] at hx1 HB q2
        have hv : isV z = true := by simp [isV, c3]
        go_wp2
        go_roundw
        case rel => exact ⟨k + 1, by omega, by go_num, by rw [unhide HN, hv]; go_num, unhide HB⟩
        case measure => simp [intOf]; omega
      have q3 : (z.k == 3) = false := by simpa using c3
      have hv : isV z = false := by simp [isV, c2, c3]
      clear c2 c3
      go_wp2
      go_roundw
      case rel => exact ⟨k + 1, by omega, by go_num, by rw [unhide HN, hv]; simp, unhide HB⟩
      case measure => simp [intOf]; omega
    · have HB := hide hB
      go_wp2
      go_ret
      have e : k = l.length := by omega
      subst e
      exact ⟨ret_int (by simp [itmv]), unhide HB⟩

end Go.Proofs.YtgheaieghoekhaaDoor
