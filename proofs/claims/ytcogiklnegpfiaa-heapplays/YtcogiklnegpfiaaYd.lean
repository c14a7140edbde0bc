/- Layer 13: the document's table, in memory. Layer 13: the document's Rising. Layer 13: the document's Now. Layer 13: the document's Reach. Layer 13: the document's Collect. Layer 13: the document's Collect, walked. Layer 13: the document's Make. -/
import Derived.Test.YtcogiklnegpfiaaLf
import Derived.Test.YtcogiklnegpfiaaVa
import Derived.Test.YtcogiklnegpfiaaWb
import Derived.Deep.RegionLawGrows

namespace Go.Proofs.Ytcogiklnegpfiaa
open Go.RowKit

def thF (t : Th) : List Value := [.int .u32 t.s, .int .u32 t.g, .int .i64 t.x, .bool t.d]
theorem thF_len (t : Th) : (thF t).length = 4 := rfl
abbrev ThRow (w : World) (B : Nat) (v : Value) (l : List Th) : Prop := Row thF 4 66 w B v l

/-- the document's table lies in block b -/
structure DT (w : World) (B b : Nat) (v : Value) (l : List Th) (m : Int) : Prop where
  box : w.heap[b]? = some (.cells #[v, .int .i64 m] 32 (0, 0))
  row : ThRow w B v l

theorem DT.lt {w : World} {B b : Nat} {v : Value} {l : List Th} {m : Int} (h : DT w B b v l m) : b < w.heap.size := (Array.getElem?_eq_some_iff.1 h.box).1
theorem DT.cells {w : World} {B b : Nat} {v : Value} {l : List Th} {m : Int} (h : DT w B b v l m) : w.cell? ⟨b, 0, none⟩ = some v ∧ w.cell? ⟨b, 1, none⟩ = some (.int .i64 m) := by
  simp [Lib.cell_of_heap h.box]
theorem DT.ch {Q : Nat → Prop} {w w' : World} {B b : Nat} {v : Value} {l : List Th} {m : Int} (h : DT w B b v l m) (hc : Ch Q w w') (hb : ¬ Q b) (hq : ∀ g, v.ownBlock = some g → ¬ Q g) : DT w' B b v l m := ⟨hc.box h.box hb, h.row.ch hc hq⟩
theorem DT.ne {w : World} {B b : Nat} {v : Value} {l : List Th} {m : Int} (h : DT w B b v l m) : ¬ v.ownBlock = some b := own_box h.row h.box (by decide)

set_option maxHeartbeats 1000000 in
theorem rcount_is {w : World} {B b : Nat} {v : Value} {l : List Th} {m : Int} (h : DT w B b v l m) :
    Calls Try.prog 9 #[.pointer (some ⟨b, 0, none⟩)] w fun e w' => e = .returned (.int .i64 (cnt l : Int)) ∧ w' = w := by
  obtain ⟨a, c, rfl, hc, hm⟩ := h.row.form
  have hm' : l.length ≤ 9223372036854775807 := by unfold maxLen at hm; omega
  obtain ⟨hx0, hx1⟩ := h.cells
  go_enter Try.func9, Try.ntmps9
  go_wp2
  go_loopw [3, 4] (fun t i wr => ∃ k : Nat, k ≤ l.length ∧ i = .int .i64 k ∧ t = .int .i64 (cnt (l.take k) : Int) ∧ wr = w) (fun _ i _ => l.length - (intOf i).toNat)
  case atStart => exact ⟨0, Nat.zero_le _, rfl, by simp [cnt], rfl⟩
  case round =>
    obtain ⟨k, hk, rfl, rfl, rfl⟩ := hrel
    by_cases hlt : k < l.length
    · obtain ⟨g, c', cur, hv, hc', hB, hg, hgc, hcs, hcell⟩ := h.row.at thF_len (by omega)
      cases hv
      have y2 := hcell k hlt 2 (.int .i64 l[k].x) rfl
      have y3 := hcell k hlt 3 (.bool l[k].d) rfl
      have hle : cnt (l.take k) ≤ k := Nat.le_trans (cnt_le _) (List.length_take_le _ _)
      have hn := cnt_snoc (l.take k) l[k]
      rw [← List.take_succ_eq_append_getElem hlt] at hn
      generalize l[k] = z at hn y2 y3
      have HN := hide hn
      clear hn hcell
      cases hd : z.d
      · rw [hd] at y3
        go_wp2
        go_roundw
        case rel => exact ⟨k + 1, by omega, by go_num, by rw [unhide HN, hd]; go_num, trivial⟩
        case measure => simp [intOf]; omega
      · rw [hd] at y3
        go_wp2
        go_roundw
        case rel => exact ⟨k + 1, by omega, by go_num, by rw [unhide HN, hd]; go_num, trivial⟩
        case measure => simp [intOf]; omega
    · go_wp2
      go_ret
      have e : k = l.length := by omega
      subst e
      exact ⟨ret_int (by simp), rfl⟩

set_option maxHeartbeats 1000000 in
theorem rfind_is {w : World} {B b : Nat} {v : Value} {l : List Th} {m : Int} (h : DT w B b v l m) (s g : Int) {r : Option Nat} (hr : fnd l s g = r) :
    Calls Try.prog 24 #[.pointer (some ⟨b, 0, none⟩), hv s g] w fun e w' => e = .returned (.int .i64 (ix r)) ∧ Below w.heap.size w w' := by
  obtain ⟨a, c, rfl, hc, hm⟩ := h.row.form
  have hm' : l.length ≤ 9223372036854775807 := by unfold maxLen at hm; omega
  go_enter Try.func24, Try.ntmps24
  go_wp2
  obtain ⟨w1, hw1⟩ : ∃ w1, w.alloc (.cells #[.int .u32 s, .int .u32 g] 43) = w1 := ⟨_, rfl⟩
  have hB1 : Below w.heap.size w w1 := by rw [← hw1]; exact below1 _ _
  have h1 := h.ch (Ch.of_below (Q := fun _ => False) hB1) (fun h => h) (fun _ _ h => h)
  have hn : w1.heap[w.heap.size]? = some (.cells #[.int .u32 s, .int .u32 g] 43) := by rw [← hw1]; exact heap_new _ _
  obtain ⟨hx0, hx1⟩ := h1.cells
  have hy0 : w1.cell? ⟨w.heap.size, 0, none⟩ = some (.int .u32 s) := by simp [Lib.cell_of_heap hn]
  have hy1 : w1.cell? ⟨w.heap.size, 1, none⟩ = some (.int .u32 g) := by simp [Lib.cell_of_heap hn]
  rw [hw1]
  go_loopw [5] (fun i wr => ∃ k m : Nat, k ≤ l.length ∧ i = .int .i64 k ∧ fnd l s g = fndF s g (l.drop k) k ∧ wr = w1.drewN m) (fun i _ => l.length - (intOf i).toNat)
  case atStart => exact ⟨0, 0, Nat.zero_le _, rfl, rfl, rfl⟩
  case round =>
    obtain ⟨k, m, hk, rfl, hf, rfl⟩ := hrel
    by_cases hlt : k < l.length
    · obtain ⟨g', c', cur, hv, hc', hB, hg, hgc, hcs, hcell⟩ := h1.row.at thF_len (by omega)
      cases hv
      have y0 : w1.cell? ⟨g', k * 4, none⟩ = _ := hcell k hlt 0 (.int .u32 l[k].s) rfl
      have y1 := hcell k hlt 1 (.int .u32 l[k].g) rfl
      have y2 := hcell k hlt 2 (.int .i64 l[k].x) rfl
      have y3 := hcell k hlt 3 (.bool l[k].d) rfl
      rw [List.drop_eq_getElem_cons hlt] at hf
      unfold fndF at hf
      generalize l[k] = z at hf y0 y1 y2 y3
      have HF := hide hf
      have HR := hide hr
      clear hf hr hcell
      by_cases es : z.s = s
      · subst es
        have q : (z.s == z.s) = true := by simp
        by_cases eg : z.g = g
        · subst eg
          have q' : (z.g == z.g) = true := by simp
          cases hd : z.d
          · rw [hd] at y3
            go_wp2
            go_quiet (fail)
            go_wp2
            go_ret
            have hf := unhide HF
            rw [unhide HR] at hf
            exact ⟨by rw [hf]; simp [hd, ix], hB1.trans ((below_dr _ _ _).trans (below_dr _ _ _))⟩
          · rw [hd] at y3
            go_wp2
            go_quiet (fail)
            go_wp2
            go_roundw
            case rel => exact ⟨k + 1, _, by omega, by go_num, by rw [unhide HF]; simp [hd], rfl⟩
            case measure => simp [intOf]; omega
        · have q' : (z.g == g) = false := by simpa using eg
          have HE := hide eg
          clear eg
          go_wp2
          go_quiet (fail)
          go_wp2
          go_roundw
          case rel => exact ⟨k + 1, _, by omega, by go_num, by rw [unhide HF]; simp [unhide HE], rfl⟩
          case measure => simp [intOf]; omega
      · have q : (z.s == s) = false := by simpa using es
        have HE := hide es
        clear es
        go_wp2
        go_quiet (fail)
        go_wp2
        go_roundw
        case rel => exact ⟨k + 1, _, by omega, by go_num, by rw [unhide HF]; simp [unhide HE], rfl⟩
        case measure => simp [intOf]; omega
    · go_wp2
      go_ret
      have e : k = l.length := by omega
      subst e
      rw [List.drop_length, hr] at hf
      exact ⟨by rw [hf]; rfl, hB1.trans (below_dr _ _ _)⟩

end Go.Proofs.Ytcogiklnegpfiaa

namespace Go.Proofs.Ytcogiklnegpfiaa
open Go.RowKit

theorem swap_perm {d : List Hd} {i j : Nat} (hi : i < d.length) (hj : j < d.length) : ((d.set i d[j]).set j d[i]).Perm d := List.set_set_perm hi hj

theorem row_three {w : World} {B n c : Nat} {ea : Option Addr} {hs : List Hd} (h : Row hF 2 43 w B (.slice ea n c) hs) (hn : hs.length = n) {k : Nat} (hk : k < hs.length) : ∃ (bl : Nat) (x : Hd), ea = some ⟨bl, 0, none⟩ ∧ w.cell? ⟨bl, k * 2, none⟩ = some (.int .u32 x.1) ∧ w.cell? ⟨bl, k * 2 + 1, none⟩ = some (.int .u32 x.2) ∧ (∀ o, w.frozen? ⟨bl, o, none⟩ = false) ∧ x = hs[k] := by
  subst hn
  obtain ⟨g', c', cur, e, _, _, _, hcur, _, hc⟩ := h.at hF_len (by omega)
  injection e with e1 e2 e3
  subst e1
  exact ⟨g', hs[k], rfl, hc k hk 0 _ rfl, hc k hk 1 _ rfl, fun o => by simp [World.frozen?, hcur], rfl⟩

/-- sorted up to i, but for what stands at k -/
def Almost (d : List Hd) (i k : Nat) : Prop := ∀ a b (ha : a < d.length) (hb : b < d.length), a < b → b ≤ i → b ≠ k → d[a].1 ≤ d[b].1
theorem Almost.swap {d : List Hd} {i k : Nat} (h : Almost d i k) (hk : 0 < k) (hki : k ≤ i) (hi : i < d.length) (hlt : (d[k]'(by omega)).1 < (d[k - 1]'(by omega)).1) : Almost ((d.set k (d[k - 1]'(by omega))).set (k - 1) (d[k]'(by omega))) i (k - 1) := by
  intro a b ha hb hab hbi hbk
  rw [List.length_set, List.length_set] at ha hb
  simp only [List.getElem_set]
  by_cases e1 : k - 1 = a
  · rw [if_pos e1]
    have e2 : ¬ k - 1 = b := by omega
    rw [if_neg e2]
    by_cases e3 : k = b
    · rw [if_pos e3]
      omega
    · rw [if_neg e3]
      have := h k b (by omega) hb (by omega) hbi (fun e => e3 e.symm)
      exact this
  · rw [if_neg e1]
    have e2 : ¬ k - 1 = b := fun e => hbk e.symm
    rw [if_neg e2]
    by_cases e3 : k = a
    · rw [if_pos e3]
      have e4 : ¬ k = b := by omega
      rw [if_neg e4]
      exact h (k - 1) b (by omega) hb (by omega) hbi (fun e => e4 e.symm)
    · rw [if_neg e3]
      by_cases e4 : k = b
      · rw [if_pos e4]
        exact h a (k - 1) ha (by omega) (by omega) (by omega) (by omega)
      · rw [if_neg e4]
        exact h a b ha hb hab hbi (fun e => e4 e.symm)
theorem Almost.stop {d : List Hd} {i k : Nat} (h : Almost d i k) (hk : 0 < k) (hki : k ≤ i) (hi : i < d.length) (hge : ¬ (d[k]'(by omega)).1 < (d[k - 1]'(by omega)).1) (m : Nat) : Almost d i m := by
  intro a b ha hb hab hbi _
  by_cases e : b = k
  · subst e
    by_cases e2 : a = b - 1
    · subst e2
      omega
    · have := h a (b - 1) ha (by omega) (by omega) (by omega) (by omega)
      omega
  · exact h a b ha hb hab hbi e
theorem Almost.zero {d : List Hd} {i : Nat} (h : Almost d i 0) (m : Nat) : Almost d i m := fun a b ha hb hab hbi _ => h a b ha hb hab hbi (by omega)

set_option maxRecDepth 100000 in
set_option maxHeartbeats 8000000 in
theorem rising_is {w : World} {B : Nat} {v : Value} {hs : List Hd} (h : Row hF 2 43 w B v hs) (hn : hs.length ≤ 1000) :
    Calls Try.prog 45 #[v] w fun e w' => ∃ v' d, e = .returned v' ∧ Row hF 2 43 w' w.heap.size v' d ∧ d.Perm hs ∧ (∀ a b (ha : a < d.length) (hb : b < d.length), a < b → d[a].1 ≤ d[b].1) ∧ Below w.heap.size w w' := by
  obtain ⟨i0, hi0, hz0, hz1, hz2⟩ := nf_open info_hd
  by_cases h0 : hs.length = 0
  · have e0 : hs = [] := List.eq_nil_of_length_eq_zero h0
    subst e0
    rcases h.2 with ⟨rfl, -⟩ | ⟨g, c, cur, rfl, -⟩
    · go_enter Try.func45, Try.ntmps45
      go_wp2
      go_loopw [4] (fun iv wr => iv = .int .i64 1 ∧ wr = w) (fun iv _ => 0)
      case atStart => exact ⟨rfl, rfl⟩
      case round =>
        obtain ⟨rfl, rfl⟩ := hrel
        go_wp2
        go_ret
        exact ⟨_, [], rfl, Row.nil _ _, List.Perm.refl _, fun a b ha => absurd ha (Nat.not_lt_zero _), Below.refl _ _⟩
    · go_enter Try.func45, Try.ntmps45
      have HM1 := hide (show 0 + 0 ≤ maxLen by unfold maxLen; omega)
      go_wp2_with (at_builtin; refine wpList_append_own_at _ rfl _ _ 34 rfl w.heap.size 43 i0 (.agg #[.int .u32 0, .int .u32 0]) 2 8 Try.underlying34 hi0 hz0 hz1 hz2 rfl (by decide) _ 0 [] rfl (World.ownsRow_nil w w.heap.size _ _) ⟨g, 0, none⟩ 0 c [] rfl rfl (fun j u hj => by cases hj) (fun u hu => by cases hu) HM1.out (by omega) (Nat.le_refl _) ?_)
      intro v' w1 hown hgrow hnil hat
      have hR1 : Row hF 2 43 w1 w.heap.size v' [] := hown
      have B1 := hide (show Below w.heap.size w w1 from ⟨hgrow.os, hgrow.tape, hgrow.output, hgrow.size, fun x hx => hgrow.block x hx (by simp [Value.ownBlock])⟩)
      obtain ⟨va, vc, rfl, -, -⟩ := hR1.form
      have R1 := hide hR1
      clear hown hgrow hat hnil hR1
      go_wp2
      go_loopw [4] (fun iv wr => iv = .int .i64 1 ∧ wr = w1) (fun iv _ => 0)
      case atStart => exact ⟨rfl, rfl⟩
      case round =>
        obtain ⟨rfl, rfl⟩ := hrel
        go_wp2
        go_ret
        exact ⟨_, [], rfl, R1.out, List.Perm.refl _, fun a b ha => absurd ha (Nat.not_lt_zero _), B1.out⟩
  · obtain ⟨g, c, cur, rfl, hc, hB, hg, hcur, hcs, hcell⟩ := h.at hF_len (by omega)
    have HN1 := hide (show ∀ j u, (hs.flatMap hF)[j]? = some u → w.cell? ((⟨g, 0, none⟩ : Addr).add j) = some u from fun j u hj => by
      have := World.ownsRow.cells h (g := g) rfl j u hj
      exact this)
    have HL := hide (flat_len hF 2 hF_len hs)
    have HON := hide (show ∀ u ∈ hs.flatMap hF, u.oneCell' = true from fun u hu => by
      obtain ⟨x, _, hx⟩ := List.mem_flatMap.1 hu
      exact hF_one x u hx)
    have HM1 := hide (show 0 + hs.length ≤ maxLen by unfold maxLen; omega)
    have HM2 := hide (show (0 + hs.length) * 8 ≤ 140737488355328 by omega)
    have H0 := hide h0
    clear hcell hcur hcs hc h h0
    go_enter Try.func45, Try.ntmps45
    go_wp2_with (at_builtin; refine wpList_append_own_at _ rfl _ _ 34 rfl w.heap.size 43 i0 (.agg #[.int .u32 0, .int .u32 0]) 2 8 Try.underlying34 hi0 hz0 hz1 hz2 rfl (by decide) _ 0 [] rfl (World.ownsRow_nil w w.heap.size _ _) ⟨g, 0, none⟩ hs.length c (hs.flatMap hF) rfl HL.out HN1.out HON.out HM1.out HM2.out (Nat.le_refl _) ?_)
    intro v' w1 hown hgrow _ hat
    have hR1 : Row hF 2 43 w1 w.heap.size v' hs := by
      unfold Row
      exact hown
    have B1 := hide (show Below w.heap.size w w1 from ⟨hgrow.os, hgrow.tape, hgrow.output, hgrow.size, fun x hx => hgrow.block x hx (by simp [Value.ownBlock])⟩)
    obtain ⟨b2, c2, cur2, rfl, -, hb2, -, -, -, -⟩ := hR1.at hF_len (by have := H0.out; omega)
    have R1 := hide hR1
    have hn9 : hs.length ≤ 9223372036854775807 := by omega
    clear hown hgrow hat hR1 HN1 HL HON HM1 HM2
    go_wp2
    go_loopw [4] (fun iv wr => ∃ (i : Nat) (d : List Hd), 1 ≤ i ∧ i ≤ hs.length ∧ iv = .int .i64 (i : Int) ∧ Hid (Row hF 2 43 wr w.heap.size (.slice (some ⟨b2, 0, none⟩) hs.length c2) d) ∧ Hid (d.Perm hs ∧ ∀ a b (ha : a < d.length) (hb : b < d.length), a < b → b < i → d[a].1 ≤ d[b].1) ∧ Hid (Below w.heap.size w wr)) (fun iv _ => hs.length - (intOf iv).toNat)
    case atStart => exact ⟨1, hs, Nat.le_refl _, by have := H0.out; omega, rfl, R1, hide ⟨List.Perm.refl _, fun a b ha hb h1 h2 => by omega⟩, B1⟩
    case round =>
      obtain ⟨i, d, hi1, hi, rfl, HR, HP, HB⟩ := hrel
      obtain ⟨w2, rfl⟩ : ∃ x, x = wr := ⟨_, rfl⟩
      by_cases hlt : i < hs.length
      · have q1 : decide ((i : Int) < (hs.length : Int)) = true := decide_eq_true (by omega)
        have hdl := HP.out.1.length_eq
        have HA := hide (show Almost d i i from fun a b ha hb hab hbi hbk => HP.out.2 a b ha hb hab (by omega))
        go_wp2
        go_loopw [5] (fun kv wr => ∃ (k : Nat) (d' : List Hd), k ≤ i ∧ kv = .int .i64 (k : Int) ∧ Hid (Row hF 2 43 wr w.heap.size (.slice (some ⟨b2, 0, none⟩) hs.length c2) d') ∧ Hid (d'.Perm hs ∧ Almost d' i k) ∧ Hid (Below w.heap.size w wr)) (fun kv _ => (intOf kv).toNat)
        case atStart => exact ⟨i, d, Nat.le_refl _, rfl, HR, hide ⟨HP.out.1, HA.out⟩, HB⟩
        case round =>
          obtain ⟨k, d', hk, rfl, HR', HP', HB'⟩ := hrel
          obtain ⟨w3, rfl⟩ : ∃ x, x = wr := ⟨_, rfl⟩
          have hdl' := HP'.out.1.length_eq
          rcases Nat.eq_zero_or_pos k with hk0 | hk0
          · have qk : decide ((0 : Int) < (k : Int)) = false := decide_eq_false (by omega)
            have qk2 : ¬ 0 < k := by omega
            have HS := hide (show ∀ a b (ha : a < d'.length) (hb : b < d'.length), a < b → b < i + 1 → d'[a].1 ≤ d'[b].1 from fun a b ha hb hab hbi => (show Almost d' i 0 by have := HP'.out.2; rw [hk0] at this; exact this).zero (i + 1) a b ha hb hab (by omega) (by omega))
            clear hdl hdl' hk0
            go_wp2
            go_quiet (fail)
            go_wp2
            go_roundw
            case rel => exact ⟨i + 1, d', by omega, by omega, by go_num, hide (HR'.out.ch (Ch.drewN (Q := fun _ => False) _ _) (fun _ _ h => h)), hide ⟨HP'.out.1, HS.out⟩, hide (HB'.out.trans (below_dr _ _ _))⟩
            case measure => simp [intOf]; omega
          · obtain ⟨k, rfl⟩ : ∃ k', k = k' + 1 := ⟨k - 1, by omega⟩
            have hkl : k + 1 < d'.length := by omega
            obtain ⟨bq, z1, eb1, y0, y1, -, e1⟩ := row_three HR'.out hdl' (k := k + 1) hkl
            obtain ⟨bq', z2, eb2, y2, y3, y4, e2⟩ := row_three HR'.out hdl' (k := k) (by omega)
            injection eb1 with eb1
            injection eb1 with eb1
            subst eb1
            injection eb2 with eb2
            injection eb2 with eb2
            subst eb2
            have eK : IntKind.i64.wrap ((k : Int) + 1 - 1) = (k : Int) := by rw [IntKind.wrap_i64]; omega
            have hkc : (k : Int) + 1 < (hs.length : Int) := by omega
            have hkd : (k : Int) < (hs.length : Int) := by omega
            have HKL := hide hkl
            have HDL := hide hdl'
            have E1 := hide e1
            have E2 := hide e2
            clear e1 e2
            by_cases hz : z1.1 < z2.1
            · have qz : decide (z1.1 < z2.1) = true := decide_eq_true hz
              have HSW := hide (show ((d'.set (k + 1) z2).set k z1).Perm hs ∧ Almost ((d'.set (k + 1) z2).set k z1) i k from by
                rw [E1.out, E2.out]
                have hkl := HKL.out
                refine ⟨(swap_perm (i := k + 1) (j := k) hkl (by omega)).trans HP'.out.1, HP'.out.2.swap (by omega) hk (by have := HDL.out; omega) ?_⟩
                have h := hz
                rw [E1.out, E2.out] at h
                exact h)
              clear hz
              have HFACT := hide (And.intro y0 (And.intro y1 (And.intro y2 (And.intro y3 y4))))
              go_wp2
              go_quiet (fail)
              obtain ⟨Wq, hWq⟩ : ∃ Wq, w3.drewN nq = Wq := ⟨_, rfl⟩
              have cq : Ch (fun _ => False) w3 Wq := by rw [← hWq]; exact Ch.drewN _ _
              rw [hWq]
              obtain ⟨W5, hW5⟩ : ∃ W5, Wq.alloc (.cells #[.int .u32 z1.1, .int .u32 z1.2] 43) = W5 := ⟨_, rfl⟩
              have c5 : Ch (fun _ => False) w3 W5 := by rw [← hW5]; exact cq.trans (Ch.alloc _ _) (fun _ _ h => h)
              have n5 : W5.heap[Wq.heap.size]? = some (.cells #[.int .u32 z1.1, .int .u32 z1.2] 43 (0, 0)) := by rw [← hW5]; exact heap_new _ _
              have hbl := (own_in HR'.out (g := b2) rfl).2.1
              have hq5 : ∀ o, Wq.cell? ⟨b2, o, none⟩ = w3.cell? ⟨b2, o, none⟩ := fun o => cq.cell hbl (fun h => h) o
              have h55 : ∀ o, W5.cell? ⟨b2, o, none⟩ = w3.cell? ⟨b2, o, none⟩ := fun o => c5.cell hbl (fun h => h) o
              obtain ⟨f0, f1, f2, f3, f4⟩ := HFACT.out
              have q0 := (hq5 _).trans f0
              have q1' := (hq5 _).trans f1
              have q2 := (hq5 _).trans f2
              have q3 := (hq5 _).trans f3
              have p0 := (h55 _).trans f0
              have p1 := (h55 _).trans f1
              have p2 := (h55 _).trans f2
              have p3 := (h55 _).trans f3
              have R5 := hide (HR'.out.ch c5 (fun _ _ h => h))
              obtain ⟨_, _, cur5, hcur5⟩ := own_in R5.out (g := b2) rfl
              have p4 : ∀ o, W5.frozen? ⟨b2, o, none⟩ = false := fun o => by simp [World.frozen?, hcur5]
              have nb : ¬ Wq.heap.size = b2 := fun e => by have := cq.size; omega
              have x0 : W5.cell? ⟨Wq.heap.size, 0, none⟩ = some (.int .u32 z1.1) := by simp [Lib.cell_of_heap n5]
              have x1 : W5.cell? ⟨Wq.heap.size, 1, none⟩ = some (.int .u32 z1.2) := by simp [Lib.cell_of_heap n5]
              obtain ⟨W6, hW6⟩ : ∃ W6, (W5.setCell ⟨b2, (k + 1) * 2, none⟩ (.int .u32 z2.1)).setCell ⟨b2, (k + 1) * 2 + 1, none⟩ (.int .u32 z2.2) = W6 := ⟨_, rfl⟩
              have R6 := hide (show Row hF 2 43 W6 w.heap.size (.slice (some ⟨b2, 0, none⟩) hs.length c2) (d'.set (k + 1) z2) by rw [← hW6]; exact row_put2 R5.out HDL.out (by have := HKL.out; have := HDL.out; omega) z2)
              have c6 : Ch (fun y => y = b2) W5 W6 := by rw [← hW6]; exact (Ch.set (Q := fun y => y = b2) _ rfl _ _).trans (Ch.set (Q := fun y => y = b2) _ rfl _ _) (fun _ _ h => h)
              have n6 := c6.box n5 nb
              have x2 : W6.cell? ⟨Wq.heap.size, 0, none⟩ = some (.int .u32 z1.1) := by simp [Lib.cell_of_heap n6]
              have x3 : W6.cell? ⟨Wq.heap.size, 1, none⟩ = some (.int .u32 z1.2) := by simp [Lib.cell_of_heap n6]
              obtain ⟨bq, zz, eb, r0, r1, r2, -⟩ := row_three R6.out (by rw [List.length_set]; exact HDL.out) (k := k) (by rw [List.length_set]; have := HKL.out; omega)
              injection eb with eb
              injection eb with eb
              subst eb
              have R7 := hide (row_put2 R6.out (by rw [List.length_set]; exact HDL.out) (k := k) (by have := HKL.out; have := HDL.out; omega) z1)
              have B7 := hide (show Below w.heap.size w ((W6.setCell ⟨b2, k * 2, none⟩ (.int .u32 z1.1)).setCell ⟨b2, k * 2 + 1, none⟩ (.int .u32 z1.2)) from (HB'.out.trans (c5.below HB'.out.size (fun _ _ h => h))).trans ((c6.trans ((Ch.set (Q := fun y => y = b2) W6 rfl (k * 2) (.int .u32 z1.1)).trans (Ch.set (Q := fun y => y = b2) _ rfl (k * 2 + 1) (.int .u32 z1.2)) (fun _ _ h => h)) (fun _ _ h => h)).below (Nat.le_trans HB'.out.size c5.size) (fun x hx e => by have := (own_in R5.out (g := b2) rfl).1; omega)))
              clear y0 y1 y2 y3 y4 f0 f1 f2 f3 f4 hq5 h55 hcur5 n5 n6 cq c5 c6 hWq hbl
              go_wp2
              go_roundw
              case rel => exact ⟨k, _, by omega, by go_num, R7, HSW, B7⟩
              case measure => simp [intOf]
            · have qz : decide (z1.1 < z2.1) = false := decide_eq_false hz
              have HS := hide (show ∀ a b (ha : a < d'.length) (hb : b < d'.length), a < b → b < i + 1 → d'[a].1 ≤ d'[b].1 from fun a b ha hb hab hbi => (HP'.out.2.stop (by omega) hk (by have := HDL.out; omega) (by have h := hz; rw [E1.out, E2.out] at h; exact h) (i + 1)) a b ha hb hab (by omega) (by omega))
              clear hz
              go_wp2
              go_quiet (fail)
              go_wp2
              go_roundw
              case rel => exact ⟨i + 1, d', by omega, by omega, by go_num, hide (HR'.out.ch (Ch.drewN (Q := fun _ => False) _ _) (fun _ _ h => h)), hide ⟨HP'.out.1, HS.out⟩, hide (HB'.out.trans (below_dr _ _ _))⟩
              case measure => simp [intOf]; omega
      · have q1 : decide ((i : Int) < (hs.length : Int)) = false := decide_eq_false (by omega)
        go_wp2
        go_ret
        exact ⟨_, d, rfl, HR.out, HP.out.1, fun a b ha hb hab => HP.out.2 a b ha hb hab (by have := HP.out.1.length_eq; omega), HB.out⟩

end Go.Proofs.Ytcogiklnegpfiaa

namespace Go.Proofs.Ytcogiklnegpfiaa
open Go.RowKit

theorem bornH_snoc (l : List Th) (t : Th) : bornH (l ++ [t]) = if t.d then bornH l else bornH l ++ [(t.s, t.g)] := by
  unfold bornH
  cases h : t.d <;> simp [List.filter_append, h]
theorem bornH_le (l : List Th) : (bornH l).length ≤ l.length := by
  unfold bornH
  rw [List.length_map]
  exact List.length_filter_le _ _
theorem DT.at {w : World} {B b : Nat} {v : Value} {l : List Th} {m : Int} (h : DT w B b v l m) {k : Nat} (hk : k < l.length) : ∃ bl c, v = .slice (some ⟨bl, 0, none⟩) l.length c ∧ w.cell? ⟨bl, k * 4, none⟩ = some (.int .u32 l[k].s) ∧ w.cell? ⟨bl, k * 4 + 1, none⟩ = some (.int .u32 l[k].g) ∧ w.cell? ⟨bl, k * 4 + 2, none⟩ = some (.int .i64 l[k].x) ∧ w.cell? ⟨bl, k * 4 + 3, none⟩ = some (.bool l[k].d) := by
  obtain ⟨g', c', cur, e, _, _, _, hcur, _, hc⟩ := h.row.at thF_len (by omega)
  exact ⟨g', c', e, hc k hk 0 _ rfl, hc k hk 1 _ rfl, hc k hk 2 _ rfl, hc k hk 3 _ rfl⟩
theorem DT.quiet {w w' : World} {B b : Nat} {v : Value} {l : List Th} {m : Int} (h : DT w B b v l m) (hc : Ch (fun _ => False) w w') : DT w' B b v l m := h.ch hc (fun h => h) (fun _ _ h => h)

set_option maxRecDepth 100000 in
set_option maxHeartbeats 8000000 in
theorem rnow_is {w : World} {B b M : Nat} {v : Value} {l : List Th} {m : Int} (h : DT w B b v l m) (hw : Wf l M) (hl : Lt l) (hn : l.length ≤ 1000) :
    Calls Try.prog 27 #[.pointer (some ⟨b, 0, none⟩)] w fun e w' => ∃ v', e = .returned v' ∧ Row hF 2 43 w' w.heap.size v' (allH l M) ∧ Below w.heap.size w w' := by
  obtain ⟨i0, hi0, hz0, hz1, hz2⟩ := nf_open info_hd
  have H := hide h
  have HW := hide (And.intro hw hl)
  obtain ⟨va, vc, rfl, -, -⟩ := h.row.form
  have hl9 : l.length ≤ 9223372036854775807 := by omega
  clear h hw hl
  go_enter Try.func27, Try.ntmps27
  go_wp2
  go_loopw [3, 4] (fun fv iv wr => ∃ k : Nat, k ≤ l.length ∧ iv = .int .i64 (k : Int) ∧ Hid (Row hF 2 43 wr w.heap.size fv (bornH (l.take k))) ∧ Hid (Below w.heap.size w wr)) (fun _ iv _ => l.length - (intOf iv).toNat)
  case atStart => exact ⟨0, Nat.zero_le _, rfl, hide (Row.nil _ _), hide (Below.refl _ _)⟩
  case round =>
    obtain ⟨k, hk, rfl, HF, HB⟩ := hrel
    have hD := H.out.quiet (Ch.of_below HB.out)
    have x0 := hD.cells.1
    by_cases hlt : k < l.length
    · have q1 : decide ((k : Int) < (l.length : Int)) = true := decide_eq_true (by omega)
      obtain ⟨bl, c, e, y0, y1, -, y3⟩ := hD.at hlt
      injection e with e1 e2 e3
      subst e1
      have HN := hide (show bornH (l.take (k + 1)) = if l[k].d then bornH (l.take k) else bornH (l.take k) ++ [(l[k].s, l[k].g)] by rw [List.take_succ_eq_append_getElem hlt, bornH_snoc])
      have hbl : (bornH (l.take k)).length ≤ 1000 := Nat.le_trans (bornH_le _) (by rw [List.length_take]; omega)
      generalize l[k] = t at y0 y1 y3 HN
      cases hd : t.d
      · rw [hd] at y3
        have HN2 := hide (show bornH (l.take (k + 1)) = bornH (l.take k) ++ [(t.s, t.g)] by rw [HN.out, hd]; rfl)
        have HOW := hide (World.ownsRow.alloc (show wr.ownsRow w.heap.size 43 2 u3 (bornH (l.take k)).length ((bornH (l.take k)).flatMap hF) from HF.out) (.cells #[.int .u32 t.s, .int .u32 t.g] 43))
        have HN1 := hide (row_new wr (hF (t.s, t.g)) 43 rfl)
        have HM1 := hide (show (bornH (l.take k)).length + 1 ≤ maxLen by unfold maxLen; omega)
        have HM2 := hide (show ((bornH (l.take k)).length + 1) * 8 ≤ 140737488355328 by omega)
        have HM3 := hide (show w.heap.size ≤ (wr.alloc (.cells #[.int .u32 t.s, .int .u32 t.g] 43)).heap.size by rw [World.size_alloc]; have := HB.out.size; omega)
        have HON := hide (hF_one (t.s, t.g))
        clear hbl hd hD
        go_wp2_with (at_builtin; refine wpList_append_own_at _ rfl _ _ 34 rfl w.heap.size 43 i0 (.agg #[.int .u32 0, .int .u32 0]) 2 8 Try.underlying34 hi0 hz0 hz1 hz2 rfl (by decide) _ (bornH (l.take k)).length ((bornH (l.take k)).flatMap hF) rfl HOW.out ⟨wr.heap.size, 0, none⟩ 1 1 (hF (t.s, t.g)) rfl rfl HN1.out HON.out HM1.out HM2.out HM3.out ?_)
        intro v' w6 hown' hgrow _ hat
        have HR6 := hide (show Row hF 2 43 w6 w.heap.size v' (bornH (l.take (k + 1))) by rw [HN2.out]; exact Row.snoc hown')
        have c6 := (Ch.alloc (Q := fun y => u3.ownBlock = some y) wr (.cells #[.int .u32 t.s, .int .u32 t.g] 43)).trans (Ch.of_grown (Q := fun y => u3.ownBlock = some y) hgrow (fun _ e => e)) (fun _ _ h => h)
        have HB6 := hide (HB.out.trans (c6.below HB.out.size (fun x hx e => by have := (own_in HF.out e).1; omega)))
        clear hown' hgrow hat c6
        go_wp2
        go_roundw
        case rel => exact ⟨k + 1, by omega, by go_num, HR6, HB6⟩
        case measure => simp [intOf]; omega
      · rw [hd] at y3
        have HN2 := hide (show bornH (l.take (k + 1)) = bornH (l.take k) by rw [HN.out, hd]; rfl)
        clear hbl hd hD
        go_wp2
        go_roundw
        case rel => exact ⟨k + 1, by omega, by go_num, hide (by rw [HN2.out]; exact HF.out), HB⟩
        case measure => simp [intOf]; omega
    · have q1 : decide ((k : Int) < (l.length : Int)) = false := decide_eq_false (by omega)
      have ek : l.take k = l := List.take_of_length_le (by omega)
      rw [ek] at HF
      have HRI := hide (rising_is HF.out (Nat.le_trans (bornH_le l) hn))
      clear hD
      go_wp2_with fail
      refine HRI.out.mono ?_
      rintro e w7 ⟨v', d, rfl, hr, hp, hs, hb⟩
      have ed := sorted_all HW.out.1 HW.out.2 hp hs
      subst ed
      have HR := hide (own_low hr HB.out.size)
      have HBF := hide (HB.out.trans (hb.mono HB.out.size))
      clear hr hb hp hs
      go_wp2
      go_ret
      exact ⟨v', rfl, HR.out, HBF.out⟩

end Go.Proofs.Ytcogiklnegpfiaa

namespace Go.Proofs.Ytcogiklnegpfiaa
open Go.RowKit

theorem am_dec (hs : List Hd) (s g : Int) : amH hs s g = decide ((s, g) ∈ hs) := by
  rw [Bool.eq_iff_iff, decide_eq_true_eq]
  exact amH_iff
theorem fd_dec (l : List Th) (s g : Int) : decide ((0 : Int) ≤ ix (fnd l s g)) = lvH l (s, g) := by
  unfold lvH fnB
  cases fnd l s g with
  | none => rfl
  | some i => exact decide_eq_true (Int.natCast_nonneg i)
theorem live_len {l : List Th} {M : Nat} (hw : Wf l M) (hl : Lt l) {d : List Hd} (hd : d.Nodup) (h : ∀ x ∈ d, lvH l x = true) : d.length ≤ M := by
  have hu : (allH l M).Nodup := (allH_up l M).imp fun h e => by rw [e] at h; omega
  have e : ((allH l M).filter fun x => decide (x ∈ d)).Perm d := (List.perm_ext_iff_of_nodup (hu.filter _) hd).2 fun x => by
    rw [List.mem_filter, decide_eq_true_eq, allH_mem hw hl]
    exact ⟨fun h => h.2, fun hx => ⟨h x hx, hx⟩⟩
  rw [← e.length_eq]
  refine Nat.le_trans (List.length_filter_le _ _) ?_
  rw [allH_perm hw hl]
  exact hw.cnt_le
theorem row_hl {w : World} {B : Nat} {v : Value} {hs : List Hd} (h : Row hF 2 43 w B v hs) (hn : hs.length ≤ 1000000) : HL w v hs := by
  obtain ⟨a, c, rfl, -, -⟩ := h.form
  refine ⟨a, c, rfl, by omega, fun h0 => ?_⟩
  obtain ⟨g', c', cur, e, _, _, hlt, _, _, hc⟩ := h.at hF_len h0
  cases e
  refine ⟨g', 0, rfl, hlt, fun i hi => ?_⟩
  rw [Nat.zero_add]
  exact ⟨hc i hi 0 _ rfl, hc i hi 1 _ rfl⟩
theorem HL.at {w : World} {v : Value} {hs : List Hd} (h : HL w v hs) {i : Nat} (hi : i < hs.length) : ∃ b o c, v = .slice (some ⟨b, o, none⟩) hs.length c ∧ w.cell? ⟨b, o + i * 2, none⟩ = some (.int .u32 hs[i].1) ∧ w.cell? ⟨b, o + i * 2 + 1, none⟩ = some (.int .u32 hs[i].2) := by
  obtain ⟨a, c, e, -, h⟩ := h
  obtain ⟨b, o, rfl, -, h⟩ := h (by omega)
  exact ⟨b, o, c, e, (h i hi).1, (h i hi).2⟩

/-- what is found so far -/
structure Fd (l : List Th) (L : List Lk) (rs : List Hd) (d : List Hd) : Prop where
  nd : d.Nodup
  rc : ∀ x ∈ d, Rc (lvH l) (tlL L) rs x
theorem Fd.add {l : List Th} {L : List Lk} {rs d : List Hd} (h : Fd l L rs d) {x : Hd} (hx : Rc (lvH l) (tlL L) rs x) (hn : x ∉ d) : Fd l L rs (d ++ [x]) :=
  ⟨List.nodup_append.2 ⟨h.nd, by simp, fun a ha b hb e => by rw [List.mem_singleton] at hb; subst hb; subst e; exact hn ha⟩, fun y hy => by
    rcases List.mem_append.1 hy with e | e
    · exact h.rc y e
    · rw [List.mem_singleton] at e
      subst e
      exact hx⟩
theorem Fd.done {l : List Th} {L : List Lk} {rs d : List Hd} (h : Fd l L rs d) (hr : ∀ x ∈ rs, lvH l x = true → x ∈ d) (hc : ∀ k ∈ L, (k.fs, k.fg) ∈ d → lvH l (k.ts, k.tg) = true → (k.ts, k.tg) ∈ d) (x : Hd) : x ∈ d ↔ Rc (lvH l) (tlL L) rs x := by
  refine ⟨h.rc x, fun hx => ?_⟩
  induction hx with
  | root h1 h2 => exact hr _ h1 h2
  | @step a b h1 h2 h3 ih =>
    unfold tlL at h2
    obtain ⟨k, hk, rfl⟩ := List.mem_map.1 h2
    obtain ⟨hk1, hk2⟩ := List.mem_filter.1 hk
    simp only [frm, Bool.and_eq_true, decide_eq_true_eq] at hk2
    exact hc k hk1 (by rw [hk2.1, hk2.2]; exact ih) h3

/-- how long a slice is -/
def lenV : Value → Nat
  | .slice _ n _ => n
  | _ => 0
def flagV : Value → Nat
  | .bool true => 1
  | _ => 0

/-- append of one handle to a list of one's own -/
theorem app_row {w V w6 : World} {v v' : Value} {d : List Hd} {x : Hd} {T : Obj} (hR : Row hF 2 43 V w.heap.size v d) (hB : Below w.heap.size w V) (hown : w6.ownsRow w.heap.size 43 2 v' (d.length + 1) (d.flatMap hF ++ hF x)) (hg : (V.alloc T).grownBy w6 v.ownBlock) : Row hF 2 43 w6 w.heap.size v' (d ++ [x]) ∧ Below w.heap.size w w6 := by
  have c6 := (Ch.alloc (Q := fun y => v.ownBlock = some y) V T).trans (Ch.of_grown (Q := fun y => v.ownBlock = some y) hg (fun _ e => e)) (fun _ _ h => h)
  exact ⟨Row.snoc hown, hB.trans (c6.below hB.size (fun y hy e => by have := (own_in hR e).1; omega))⟩

set_option maxRecDepth 100000 in
set_option maxHeartbeats 16000000 in
theorem rreach_is {w : World} {N N2 b M : Nat} {v vr vL : Value} {l : List Th} {m : Int} {rs : List Hd} {L : List Lk} (h : DT w N b v l m) (hw : Wf l M) (hl : Lt l) (hM : M ≤ 500) (hr : HL w vr rs) (hrl : rs.length ≤ 400) (hk : Row lkF 4 51 w N2 vL L) (hL : L.length ≤ 400) :
    Calls Try.prog 42 #[.pointer (some ⟨b, 0, none⟩), vr, vL] w fun e w' => ∃ v' R, e = .returned v' ∧ Row hF 2 43 w' w.heap.size v' R ∧ R.Pairwise (fun a b => a.1 < b.1) ∧ (∀ x, x ∈ R ↔ Rc (lvH l) (tlL L) rs x) ∧ Below w.heap.size w w' := by
  obtain ⟨i0, hi0, hz0, hz1, hz2⟩ := nf_open info_hd
  have H := hide h
  have HW := hide (And.intro hw hl)
  have HR := hide hr
  have HK := hide hk
  obtain ⟨ra, rc, rfl, -, -⟩ := hr
  obtain ⟨La, Lc, rfl, -, -⟩ := hk.form
  have hl9 : rs.length ≤ 9223372036854775807 := by omega
  have hl8 : L.length ≤ 9223372036854775807 := by omega
  have HLE := hide (fun d (hd : Fd l L rs d) => Nat.le_trans (live_len hw hl hd.nd (fun x hx => (hd.rc x hx).lives)) hM)
  clear h hw hl hk
  go_enter Try.func42, Try.ntmps42
  go_wp2
  go_loopw [7, 8] (fun fv iv wr => ∃ (k : Nat) (d : List Hd), k ≤ rs.length ∧ iv = .int .i64 (k : Int) ∧ Hid (Row hF 2 43 wr w.heap.size fv d) ∧ Hid (Fd l L rs d ∧ ∀ x ∈ rs.take k, lvH l x = true → x ∈ d) ∧ Hid (Below w.heap.size w wr)) (fun _ iv _ => rs.length - (intOf iv).toNat)
  case atStart => exact ⟨0, [], Nat.zero_le _, rfl, hide (Row.nil _ _), hide ⟨⟨List.nodup_nil, fun x hx => by cases hx⟩, fun x hx => by cases hx⟩, hide (Below.refl _ _)⟩
  case round =>
    obtain ⟨k, d, hk, rfl, HF, HI, HB⟩ := hrel
    obtain ⟨W1, rfl⟩ : ∃ x, x = wr := ⟨_, rfl⟩
    have hdl := HLE.out d HI.out.1
    obtain ⟨fa, fc, rfl, -, -⟩ := HF.out.form
    by_cases hlt : k < rs.length
    · have q1 : decide ((k : Int) < (rs.length : Int)) = true := decide_eq_true (by omega)
      have HC := hide (fun V (bV : Below w.heap.size w V) => (HR.out.quiet bV).at hlt)
      have HN := hide (show rs.take (k + 1) = rs.take k ++ [rs[k]] from by rw [List.take_succ_eq_append_getElem hlt])
      have hin := List.getElem_mem hlt
      generalize rs[k] = z at HC HN hin
      obtain ⟨eb, eo, ec, ev, y0, y1⟩ := HC.out W1 HB.out
      injection ev with e1 e2 e3
      subst e1 e3
      have HAM := hide (among_is (row_hl HF.out (by omega)) z.1 z.2)
      rw [am_dec] at HAM
      clear e2
      go_wp2_with fail
      refine HAM.out.mono ?_
      rintro e W2 ⟨rfl, hb2⟩
      have B2 := hide (HB.out.trans (hb2.mono HB.out.size))
      have HF2 := hide (HF.out.ch (Ch.of_below (Q := fun _ => False) hb2) (fun _ _ h => h))
      obtain ⟨eb', eo', ec', ev, y0, y1⟩ := HC.out W2 B2.out
      injection ev with e1 e2 e3
      injection e1 with e1
      injection e1 with e1 e4
      subst e1 e4 e3
      have HFD := hide (rfind_is (H.out.quiet (Ch.of_below B2.out)) z.1 z.2 rfl)
      have hfx := fd_dec l z.1 z.2
      clear hb2 HAM e2
      go_wp2_with fail
      refine HFD.out.mono ?_
      rintro e W3 ⟨rfl, hb3⟩
      have B3 := hide (B2.out.trans (hb3.mono B2.out.size))
      have HF3 := hide (HF2.out.ch (Ch.of_below (Q := fun _ => False) hb3) (fun _ _ h => h))
      obtain ⟨eb', eo', ec', ev, y0, y1⟩ := HC.out W3 B3.out
      injection ev with e1 e2 e3
      injection e1 with e1
      injection e1 with e1 e4
      subst e1 e4 e3
      generalize ix (fnd l z.1 z.2) = fx at hfx ⊢
      have HZL := hide (fun (hz : lvH l z = true) => Rc.root (tl := tlL L) hin hz)
      rw [show ((z.1, z.2) : Hd) = z from rfl] at hfx ⊢
      clear hb3 HFD HC hin e2
      cases hlv : lvH l z
      · rw [hlv] at hfx
        have HI2 := hide (show Fd l L rs d ∧ ∀ x ∈ rs.take (k + 1), lvH l x = true → x ∈ d from ⟨HI.out.1, fun x hx hx2 => by
          rw [HN.out] at hx
          rcases List.mem_append.1 hx with e | e
          · exact HI.out.2 x e hx2
          · rw [List.mem_singleton] at e
            subst e
            rw [hlv] at hx2
            cases hx2⟩)
        clear hlv
        go_wp2
        go_roundw
        case rel => exact ⟨k + 1, d, by omega, by go_num, HF3, HI2, B3⟩
        case measure => simp [intOf]; omega
      · rw [hlv] at hfx
        by_cases hzd : z ∈ d
        · rw [decide_eq_true hzd]
          have HI2 := hide (show Fd l L rs d ∧ ∀ x ∈ rs.take (k + 1), lvH l x = true → x ∈ d from ⟨HI.out.1, fun x hx hx2 => by
            rw [HN.out] at hx
            rcases List.mem_append.1 hx with e | e
            · exact HI.out.2 x e hx2
            · rw [List.mem_singleton] at e
              subst e
              exact hzd⟩)
          clear hlv hzd
          go_wp2
          go_roundw
          case rel => exact ⟨k + 1, d, by omega, by go_num, HF3, HI2, B3⟩
          case measure => simp [intOf]; omega
        · rw [decide_eq_false hzd]
          have HI2 := hide (show Fd l L rs (d ++ [z]) ∧ ∀ x ∈ rs.take (k + 1), lvH l x = true → x ∈ d ++ [z] from ⟨HI.out.1.add (HZL.out hlv) hzd, fun x hx hx2 => by
            rw [HN.out] at hx
            rcases List.mem_append.1 hx with e | e
            · exact List.mem_append_left _ (HI.out.2 x e hx2)
            · exact List.mem_append_right _ e⟩)
          have HOW := hide (World.ownsRow.alloc (show W3.ownsRow w.heap.size 43 2 (.slice fa d.length fc) d.length (d.flatMap hF) from HF3.out) (.cells #[.int .u32 z.1, .int .u32 z.2] 43))
          have HN1 := hide (row_new W3 (hF z) 43 rfl)
          have HM1 := hide (show d.length + 1 ≤ maxLen by unfold maxLen; omega)
          have HM2 := hide (show (d.length + 1) * 8 ≤ 140737488355328 by omega)
          have HM3 := hide (show w.heap.size ≤ (W3.alloc (.cells #[.int .u32 z.1, .int .u32 z.2] 43)).heap.size by rw [World.size_alloc]; have := B3.out.size; omega)
          have HON := hide (hF_one z)
          clear hlv hzd hdl
          go_wp2_with (at_builtin; refine wpList_append_own_at _ rfl _ _ 34 rfl w.heap.size 43 i0 (.agg #[.int .u32 0, .int .u32 0]) 2 8 Try.underlying34 hi0 hz0 hz1 hz2 rfl (by decide) _ d.length (d.flatMap hF) rfl HOW.out ⟨W3.heap.size, 0, none⟩ 1 1 (hF z) rfl rfl HN1.out HON.out HM1.out HM2.out HM3.out ?_)
          intro v' w6 hown' hgrow _ hat
          have HA := hide (app_row HF3.out B3.out hown' hgrow)
          clear hown' hgrow hat
          go_wp2
          go_roundw
          case rel => exact ⟨k + 1, _, by omega, by go_num, hide HA.out.1, HI2, hide HA.out.2⟩
          case measure => simp [intOf]; omega
    · have q1 : decide ((k : Int) < (rs.length : Int)) = false := decide_eq_false (by omega)
      rw [List.take_of_length_le (by omega : rs.length ≤ k)] at HI
      go_wp2
      go_loopw [7, 10] (fun fv mv wr => ∃ (z : Bool) (d : List Hd), mv = .bool z ∧ Hid (Row hF 2 43 wr w.heap.size fv d) ∧ Hid (Fd l L rs d ∧ ∀ x ∈ rs, lvH l x = true → x ∈ d) ∧ Hid (z = false → ∀ k ∈ L, (k.fs, k.fg) ∈ d → lvH l (k.ts, k.tg) = true → (k.ts, k.tg) ∈ d) ∧ Hid (Below w.heap.size w wr)) (fun fv mv _ => (501 - lenV fv) * 2 + flagV mv)
      case atStart => exact ⟨true, d, rfl, HF, HI, hide (fun h => by cases h), HB⟩
      case round =>
        obtain ⟨z, d0, rfl, HF0, HI0, HZ0, HB0⟩ := hrel
        obtain ⟨V1, rfl⟩ : ∃ x, x = wr := ⟨_, rfl⟩
        have hdl0 := HLE.out d0 HI0.out.1
        obtain ⟨ga, gc, rfl, -, -⟩ := HF0.out.form
        cases z
        · have HRI := hide (rising_is HF0.out (by omega))
          have HDN := hide (HI0.out.1.done HI0.out.2 (HZ0.out rfl))
          go_wp2_with fail
          refine HRI.out.mono ?_
          rintro e w7 ⟨v', d, rfl, hr7, hp7, hs7, hb7⟩
          have hmd : ∀ x ∈ d0, lvH l x = true := fun x hx => (HI0.out.1.rc x hx).lives
          have hap : d0.Pairwise fun a b => a.1 ≠ b.1 := by
            rw [List.pairwise_iff_getElem]
            intro a b ha hb hab e
            have e2 := (lv_ok HW.out.1 HW.out.2).one _ _ (hmd _ (List.getElem_mem ha)) (hmd _ (List.getElem_mem hb)) e
            exact (List.pairwise_iff_getElem.1 HI0.out.1.nd) a b ha hb hab e2
          have HFI := hide (show Row hF 2 43 w7 w.heap.size v' d ∧ d.Pairwise (fun a b => a.1 < b.1) ∧ (∀ x, x ∈ d ↔ Rc (lvH l) (tlL L) rs x) ∧ Below w.heap.size w w7 from
            ⟨own_low hr7 HB0.out.size, sorted_up hp7 hap hs7, fun x => by rw [hp7.mem_iff]; exact HDN.out x, HB0.out.trans (hb7.mono HB0.out.size)⟩)
          clear hr7 hp7 hs7 hb7 hmd hap
          go_wp2
          go_ret
          exact ⟨v', d, rfl, HFI.out⟩
        · go_wp2
          go_loopw [7, 10, 11] (fun fv mv iv wr => ∃ (i : Nat) (z : Bool) (d : List Hd), i ≤ L.length ∧ iv = .int .i64 (i : Int) ∧ mv = .bool z ∧ Hid (Row hF 2 43 wr w.heap.size fv d) ∧ Hid (Fd l L rs d ∧ ∀ x ∈ rs, lvH l x = true → x ∈ d) ∧ Hid (d0.length ≤ d.length ∧ (z = true → d0.length < d.length) ∧ (z = false → d = d0 ∧ ∀ k ∈ L.take i, (k.fs, k.fg) ∈ d → lvH l (k.ts, k.tg) = true → (k.ts, k.tg) ∈ d)) ∧ Hid (Below w.heap.size w wr)) (fun _ _ iv _ => L.length - (intOf iv).toNat)
          case atStart => exact ⟨0, false, d0, Nat.zero_le _, rfl, rfl, HF0, HI0, hide ⟨Nat.le_refl _, fun h => (by cases h), fun _ => ⟨rfl, fun k hk => by cases hk⟩⟩, HB0⟩
          case round =>
            obtain ⟨i, z, d, hi, rfl, rfl, HF, HI, HZ, HB⟩ := hrel
            obtain ⟨V2, rfl⟩ : ∃ x, x = wr := ⟨_, rfl⟩
            have hdl := HLE.out d HI.out.1
            obtain ⟨fa, fc, rfl, -, -⟩ := HF.out.form
            by_cases hil : i < L.length
            · have q3 : decide ((i : Int) < (L.length : Int)) = true := decide_eq_true (by omega)
              have HC := hide (fun V (bV : Below w.heap.size w V) => link_at (HK.out.ch (Ch.of_below (Q := fun _ => False) bV) (fun _ _ h => h)) rfl hil)
              have HN := hide (show L.take (i + 1) = L.take i ++ [L[i]] from by rw [List.take_succ_eq_append_getElem hil])
              have hin := List.getElem_mem hil
              generalize L[i] = k at HC HN hin
              obtain ⟨bl, rfl, y0, y1, y2, y3⟩ := HC.out V2 HB.out
              have HA1 := hide (among_is (row_hl HF.out (by omega)) k.fs k.fg)
              rw [am_dec] at HA1
              go_wp2_with fail
              refine HA1.out.mono ?_
              rintro e V3 ⟨rfl, hb3⟩
              have B3 := hide (HB.out.trans (hb3.mono HB.out.size))
              have HF3 := hide (HF.out.ch (Ch.of_below (Q := fun _ => False) hb3) (fun _ _ h => h))
              obtain ⟨bl', e5, y0, y1, y2, y3⟩ := HC.out V3 B3.out
              injection e5 with e5
              injection e5 with e5
              subst e5
              have HA2 := hide (among_is (row_hl HF3.out (by omega)) k.ts k.tg)
              rw [am_dec] at HA2
              clear hb3 HA1
              go_wp2_with fail
              refine HA2.out.mono ?_
              rintro e V4 ⟨rfl, hb4⟩
              have B4 := hide (B3.out.trans (hb4.mono B3.out.size))
              have HF4 := hide (HF3.out.ch (Ch.of_below (Q := fun _ => False) hb4) (fun _ _ h => h))
              obtain ⟨bl', e5, y0, y1, y2, y3⟩ := HC.out V4 B4.out
              injection e5 with e5
              injection e5 with e5
              subst e5
              clear hb4 HA2
              have HSK := hide (fun (hq : (k.fs, k.fg) ∈ d → lvH l (k.ts, k.tg) = true → (k.ts, k.tg) ∈ d) => show d0.length ≤ d.length ∧ (z = true → d0.length < d.length) ∧ (z = false → d = d0 ∧ ∀ k ∈ L.take (i + 1), (k.fs, k.fg) ∈ d → lvH l (k.ts, k.tg) = true → (k.ts, k.tg) ∈ d) from
                ⟨HZ.out.1, HZ.out.2.1, fun hz => ⟨(HZ.out.2.2 hz).1, fun k' hk' => by
                  rw [HN.out] at hk'
                  rcases List.mem_append.1 hk' with e | e
                  · exact (HZ.out.2.2 hz).2 k' e
                  · rw [List.mem_singleton] at e
                    subst e
                    exact hq⟩⟩)
              by_cases hf : (k.fs, k.fg) ∈ d
              · rw [decide_eq_true hf]
                by_cases ht : (k.ts, k.tg) ∈ d
                · rw [decide_eq_true ht]
                  have HZ2 := hide (HSK.out (fun _ _ => ht))
                  clear hf ht
                  go_wp2
                  go_roundw
                  case rel => exact ⟨i + 1, z, d, by omega, by go_num, rfl, HF4, HI, HZ2, B4⟩
                  case measure => simp [intOf]; omega
                · rw [decide_eq_false ht]
                  have HFD := hide (rfind_is (H.out.quiet (Ch.of_below B4.out)) k.ts k.tg rfl)
                  have hfx := fd_dec l k.ts k.tg
                  have HFT := hide (And.intro hf ht)
                  clear hf ht
                  go_wp2_with fail
                  refine HFD.out.mono ?_
                  rintro e V5 ⟨rfl, hb5⟩
                  have B5 := hide (B4.out.trans (hb5.mono B4.out.size))
                  have HF5 := hide (HF4.out.ch (Ch.of_below (Q := fun _ => False) hb5) (fun _ _ h => h))
                  obtain ⟨bl', e5, y0, y1, y2, y3⟩ := HC.out V5 B5.out
                  injection e5 with e5
                  injection e5 with e5
                  subst e5
                  generalize ix (fnd l k.ts k.tg) = fx at hfx ⊢
                  clear hb5 HFD
                  cases hlv : lvH l (k.ts, k.tg)
                  · rw [hlv] at hfx
                    have HZ2 := hide (HSK.out (fun _ h => by rw [hlv] at h; cases h))
                    clear hlv
                    go_wp2
                    go_roundw
                    case rel => exact ⟨i + 1, z, d, by omega, by go_num, rfl, HF5, HI, HZ2, B5⟩
                    case measure => simp [intOf]; omega
                  · rw [hlv] at hfx
                    have HI2 := hide (show Fd l L rs (d ++ [(k.ts, k.tg)]) ∧ ∀ x ∈ rs, lvH l x = true → x ∈ d ++ [(k.ts, k.tg)] from ⟨HI.out.1.add (.step (HI.out.1.rc _ HFT.out.1) (List.mem_map.2 ⟨k, List.mem_filter.2 ⟨hin, by simp [frm]⟩, rfl⟩) hlv) HFT.out.2, fun x hx hx2 => List.mem_append_left _ (HI.out.2 x hx hx2)⟩)
                    have HZ2 := hide (show d0.length ≤ (d ++ [(k.ts, k.tg)]).length ∧ (true = true → d0.length < (d ++ [(k.ts, k.tg)]).length) ∧ (true = false → (d ++ [(k.ts, k.tg)]) = d0 ∧ ∀ k' ∈ L.take (i + 1), (k'.fs, k'.fg) ∈ (d ++ [(k.ts, k.tg)]) → lvH l (k'.ts, k'.tg) = true → (k'.ts, k'.tg) ∈ (d ++ [(k.ts, k.tg)])) from by
                      have := HZ.out.1
                      rw [List.length_append, List.length_singleton]
                      exact ⟨by omega, fun _ => by omega, fun h => by cases h⟩)
                    have HOW := hide (World.ownsRow.alloc (show V5.ownsRow w.heap.size 43 2 (.slice fa d.length fc) d.length (d.flatMap hF) from HF5.out) (.cells #[.int .u32 k.ts, .int .u32 k.tg] 43))
                    have HN1 := hide (row_new V5 (hF (k.ts, k.tg)) 43 rfl)
                    have HM1 := hide (show d.length + 1 ≤ maxLen by unfold maxLen; omega)
                    have HM2 := hide (show (d.length + 1) * 8 ≤ 140737488355328 by omega)
                    have HM3 := hide (show w.heap.size ≤ (V5.alloc (.cells #[.int .u32 k.ts, .int .u32 k.tg] 43)).heap.size by rw [World.size_alloc]; have := B5.out.size; omega)
                    have HON := hide (hF_one (k.ts, k.tg))
                    clear hlv hdl
                    go_wp2_with (at_builtin; refine wpList_append_own_at _ rfl _ _ 34 rfl w.heap.size 43 i0 (.agg #[.int .u32 0, .int .u32 0]) 2 8 Try.underlying34 hi0 hz0 hz1 hz2 rfl (by decide) _ d.length (d.flatMap hF) rfl HOW.out ⟨V5.heap.size, 0, none⟩ 1 1 (hF (k.ts, k.tg)) rfl rfl HN1.out HON.out HM1.out HM2.out HM3.out ?_)
                    intro v' w6 hown' hgrow _ hat
                    have HA := hide (app_row HF5.out B5.out hown' hgrow)
                    clear hown' hgrow hat
                    go_wp2
                    go_roundw
                    case rel => exact ⟨i + 1, true, _, by omega, by go_num, rfl, hide HA.out.1, HI2, hide ⟨HZ2.out.1, fun _ => HZ2.out.2.1 trivial, fun h => by cases h⟩, hide HA.out.2⟩
                    case measure => simp [intOf]; omega
              · rw [decide_eq_false hf]
                have HZ2 := hide (HSK.out (fun h => absurd h hf))
                clear hf
                go_wp2
                go_roundw
                case rel => exact ⟨i + 1, z, d, by omega, by go_num, rfl, HF4, HI, HZ2, B4⟩
                case measure => simp [intOf]; omega
            · have q3 : decide ((i : Int) < (L.length : Int)) = false := decide_eq_false (by omega)
              have HCL := hide (show z = false → ∀ k ∈ L, (k.fs, k.fg) ∈ d → lvH l (k.ts, k.tg) = true → (k.ts, k.tg) ∈ d from fun hz => by
                have := (HZ.out.2.2 hz).2
                rwa [List.take_of_length_le (by omega : L.length ≤ i)] at this)
              have hms : (501 - d.length) * 2 + flagV (.bool z) < (501 - d0.length) * 2 + 1 := by
                cases z
                · have := (HZ.out.2.2 rfl).1
                  subst this
                  simp [flagV]
                · have := HZ.out.2.1 rfl
                  simp only [flagV]
                  omega
              go_wp2
              go_roundw
              case rel => exact ⟨z, d, rfl, HF, HI, HCL, HB⟩
              case measure => simpa [lenV, flagV] using hms

end Go.Proofs.Ytcogiklnegpfiaa

namespace Go.Proofs.Ytcogiklnegpfiaa
open Go.RowKit

theorem DT.set {w : World} {B b g c : Nat} {l : List Th} {m : Int} (h : DT w B b (.slice (some ⟨g, 0, none⟩) l.length c) l m) {i j : Nat} (hi : i < l.length) (hj : j < 4) {u : Value} (y : Th) (hy : thF y = (thF l[i]).set j u) :
    DT (w.setCell ⟨g, i * 4 + j, none⟩ u) B b (.slice (some ⟨g, 0, none⟩) (l.set i y).length c) (l.set i y) m := by
  have hne : b ≠ g := fun e => h.ne (by rw [e]; rfl)
  refine ⟨(Ch.set (Q := fun x => x = g) w rfl _ u).box h.box hne |> fun k => by rw [List.length_set]; exact k, ?_⟩
  have := Row.set h.row thF_len hi hj y hy
  rw [List.length_set]
  exact this

/-- gone, unless it stays -/
def swp (St : List Hd) (t : Th) : Th := { t with d := t.d || !decide ((t.s, t.g) ∈ St) }
def swl (St : List Hd) (l : List Th) (k : Nat) : List Th := (l.take k).map (swp St) ++ l.drop k
theorem swl_len (St : List Hd) (l : List Th) (k : Nat) : (swl St l k).length = l.length := by
  unfold swl
  rw [List.length_append, List.length_map, List.length_take, List.length_drop]
  omega
theorem swl_get {St : List Hd} {l : List Th} {k : Nat} (hk : k < l.length) : (swl St l k)[k]'(by rw [swl_len]; exact hk) = l[k] := by
  unfold swl
  rw [List.getElem_append_right (by rw [List.length_map, List.length_take]; omega)]
  simp only [List.length_map, List.length_take, List.getElem_drop]
  congr 1
  omega
theorem swl_next {St : List Hd} {l : List Th} {k : Nat} (hk : k < l.length) : swl St l (k + 1) = (swl St l k).set k (swp St l[k]) := by
  unfold swl
  have e1 : ((l.take k).map (swp St)).length = k := by rw [List.length_map, List.length_take]; omega
  rw [List.take_succ_eq_append_getElem hk, List.map_append, List.append_assoc]
  conv => rhs; rw [List.drop_eq_getElem_cons hk, List.set_append_right _ _ (by omega), e1, Nat.sub_self]
  rfl
theorem swl_same {St : List Hd} {l : List Th} {k : Nat} (hk : k < l.length) (h : swp St l[k] = l[k]) : swl St l (k + 1) = swl St l k := by
  rw [swl_next hk, h]
  apply List.ext_getElem
  · simp
  · intro i h1 h2
    rw [List.getElem_set]
    split
    · rename_i e
      subst e
      exact (swl_get hk).symm
    · rfl
/-- which go -/
def gos (St : List Hd) (l : List Th) : List Hd := (l.filter fun t => !t.d && !decide ((t.s, t.g) ∈ St)).map fun t => (t.s, t.g)
theorem gos_snoc (St : List Hd) (l : List Th) (t : Th) : gos St (l ++ [t]) = if !t.d && !decide ((t.s, t.g) ∈ St) then gos St l ++ [(t.s, t.g)] else gos St l := by
  unfold gos
  rw [List.filter_append]
  by_cases h : (!t.d && !decide ((t.s, t.g) ∈ St)) = true
  · rw [if_pos h]; simp only [List.filter_cons, h, if_true, List.filter_nil, List.map_append, List.map_cons, List.map_nil]
  · rw [if_neg h]; simp only [List.filter_cons, h, Bool.false_eq_true, if_false, List.filter_nil, List.append_nil]
theorem gos_le (St : List Hd) (l : List Th) : (gos St l).length ≤ l.length := by
  unfold gos
  rw [List.length_map]
  exact List.length_filter_le _ _
theorem gos_mem {l : List Th} {M : Nat} (hw : Wf l M) (St : List Hd) (x : Hd) : x ∈ gos St l ↔ lvH l x = true ∧ x ∉ St := by
  unfold gos
  rw [List.mem_map]
  constructor
  · rintro ⟨t, ht, rfl⟩
    obtain ⟨h1, h2⟩ := List.mem_filter.1 ht
    simp only [Bool.and_eq_true, Bool.not_eq_true', decide_eq_false_iff_not] at h2
    exact ⟨(bornH_mem hw _).1 (List.mem_map.2 ⟨t, List.mem_filter.2 ⟨h1, by simp [h2.1]⟩, rfl⟩), h2.2⟩
  · rintro ⟨h1, h2⟩
    obtain ⟨t, ht, rfl⟩ := List.mem_map.1 ((bornH_mem hw x).2 h1)
    obtain ⟨h3, h4⟩ := List.mem_filter.1 ht
    exact ⟨t, List.mem_filter.2 ⟨h3, by simp at h4; simp [h4, h2]⟩, rfl⟩
theorem gos_apart {l : List Th} {M : Nat} (hw : Wf l M) (St : List Hd) : (gos St l).Pairwise fun a b => a.1 ≠ b.1 := by
  unfold gos
  rw [List.pairwise_map, List.pairwise_filter, List.pairwise_iff_getElem]
  intro i j hi hj hij h1 h2 e
  have := hw.one i j hi hj (by simp at h1; simp [h1.1]) (by simp at h2; simp [h2.1]) e
  omega
/-- the table that is left is the document's -/
theorem frd_map {l : List Th} {M : Nat} (hw : Wf l M) (s g : Int) : frd l s g = l.map fun t => { t with d := t.d || (decide (t.s = s) && decide (t.g = g)) } := by
  unfold frd
  cases hf : fnd l s g with
  | none =>
    apply List.ext_getElem
    · simp
    · intro i h1 h2
      rw [List.getElem_map]
      have h3 : i < l.length := h1
      by_cases e : l[i].s = s ∧ l[i].g = g
      · have hd : l[i].d = true := by
          cases hd : l[i].d
          · have := hw.fnd_live h3 hd
            rw [e.1, e.2, hf] at this
            cases this
          · rfl
        have hb : ∀ (t : Th) (b : Bool), t.d = true → t = { t with d := t.d || b } := by
          intro t b h
          cases t
          simp only at h
          subst h
          simp
        exact hb _ _ hd
      · have e2 : (decide (l[i].s = s) && decide (l[i].g = g)) = false := by simpa using e
        show l[i] = _
        rw [e2, Bool.or_false]
  | some k =>
    obtain ⟨hk, h1, h2, h3⟩ := fnd_some hf
    apply List.ext_getElem
    · simp [fre]
    · intro i h4 h5
      have h6 : i < l.length := by simpa using h5
      rw [List.getElem_map]
      simp only [fre, List.getElem_modify]
      by_cases e : k = i
      · subst e
        rw [if_pos rfl]
        simp [h1, h2]
      · rw [if_neg e]
        have e2 : (decide (l[i].s = s) && decide (l[i].g = g)) = false := by
          simp only [Bool.and_eq_false_iff, decide_eq_false_iff_not]
          by_cases e3 : l[i].s = s
          · exact .inr fun e4 => e (hw.uniq hk h6 (h1.trans e3.symm) (h2.trans e4.symm))
          · exact .inl e3
        rw [e2, Bool.or_false]
theorem frees_map {M : Nat} : ∀ (xs : List Hd) {l : List Th}, Wf l M → frees l xs = l.map fun t => { t with d := t.d || decide ((t.s, t.g) ∈ xs) }
  | [], l, _ => by
    have : (fun t : Th => ({ t with d := t.d || decide ((t.s, t.g) ∈ ([] : List Hd)) } : Th)) = id := by funext t; simp
    rw [this, List.map_id]
    rfl
  | x :: xs, l, hw => by
    have e : frees l (x :: xs) = frees (frd l x.1 x.2) xs := rfl
    rw [e, frees_map xs (hw.frd x.1 x.2), frd_map hw, List.map_map]
    apply List.map_congr_left
    intro t _
    simp only [Function.comp, List.mem_cons, Prod.ext_iff]
    congr 1
    rw [Bool.or_assoc]
    congr 1
    simp
theorem swl_frees {l : List Th} {M : Nat} (hw : Wf l M) {St R : List Hd} (hR : ∀ x, x ∈ R ↔ lvH l x = true ∧ x ∉ St) : swl St l l.length = frees l R := by
  rw [frees_map R hw]
  unfold swl
  rw [List.take_length, List.drop_length, List.append_nil]
  apply List.map_congr_left
  intro t ht
  unfold swp
  obtain ⟨i, hi, rfl⟩ := List.getElem_of_mem ht
  cases hd : l[i].d
  · have hl : lvH l (l[i].s, l[i].g) = true := by unfold lvH; rw [hw.fnB hi, hd]; rfl
    have : decide ((l[i].s, l[i].g) ∈ R) = !decide ((l[i].s, l[i].g) ∈ St) := by
      rw [Bool.eq_iff_iff]
      simp [hR, hl]
    rw [this]
  · simp
end Go.Proofs.Ytcogiklnegpfiaa

namespace Go.Proofs.Ytcogiklnegpfiaa
open Go.RowKit

theorem DT.atk {w : World} {B b n c : Nat} {a : Option Addr} {l : List Th} {m : Int} {St : List Hd} {k : Nat} (h : DT w B b (.slice a n c) (swl St l k) m) (hk : k < l.length) : ∃ bl, a = some ⟨bl, 0, none⟩ ∧ w.cell? ⟨bl, k * 4, none⟩ = some (.int .u32 l[k].s) ∧ w.cell? ⟨bl, k * 4 + 1, none⟩ = some (.int .u32 l[k].g) ∧ w.cell? ⟨bl, k * 4 + 3, none⟩ = some (.bool l[k].d) ∧ ∀ o, w.frozen? ⟨bl, o, none⟩ = false := by
  have hk' : k < (swl St l k).length := by rw [swl_len]; exact hk
  obtain ⟨g', c', cur, e, _, _, _, hcur, _, hc⟩ := h.row.at thF_len (by omega)
  injection e with e1 e2 e3
  have e0 := swl_get (St := St) hk
  refine ⟨g', e1, ?_, ?_, ?_, fun o => by simp [World.frozen?, hcur]⟩
  · have := hc k hk' 0 _ rfl
    rw [e0] at this
    exact this
  · have := hc k hk' 1 _ rfl
    rw [e0] at this
    exact this
  · have := hc k hk' 3 _ rfl
    rw [e0] at this
    exact this
theorem DT.sweep {w : World} {B b c bl n : Nat} {l : List Th} {m : Int} {St : List Hd} {k : Nat} (h : DT w B b (.slice (some ⟨bl, 0, none⟩) n c) (swl St l k) m) (hn : n = l.length) (hk : k < l.length) (hs : (l[k].s, l[k].g) ∉ St) :
    DT (w.setCell ⟨bl, k * 4 + 3, none⟩ (.bool true)) B b (.slice (some ⟨bl, 0, none⟩) n c) (swl St l (k + 1)) m := by
  have hk' : k < (swl St l k).length := by rw [swl_len]; exact hk
  have e0 := swl_get (St := St) hk
  have el : n = (swl St l k).length := by rw [swl_len]; exact hn
  subst el
  have := DT.set h hk' (j := 3) (by omega) (u := .bool true) (swp St l[k]) (by
    rw [e0]
    simp [thF, swp, hs])
  rw [← swl_next hk] at this
  rw [show (swl St l (k + 1)).length = (swl St l k).length by rw [swl_len, swl_len]] at this
  exact this
theorem cell_far (w : World) (b i j : Nat) (v : Value) (h : i ≠ j) : (w.setCell ⟨b, i, none⟩ v).cell? ⟨b, j, none⟩ = w.cell? ⟨b, j, none⟩ :=
  World.cell?_setCell_other (h := fun e => h (by injection e)) ..
/-- what goes, in rising order -/
theorem gos_end {l : List Th} {M : Nat} (hw : Wf l M) {R d : List Hd} {P : Hd → Prop} (hR : ∀ x, x ∈ R ↔ P x) (hp : d.Perm (gos R l)) (hs : ∀ a b (ha : a < d.length) (hb : b < d.length), a < b → d[a].1 ≤ d[b].1) :
    d.Pairwise (fun a b => a.1 < b.1) ∧ (∀ x, x ∈ d ↔ lvH l x = true ∧ ¬ P x) ∧ swl R l l.length = frees l d := by
  have hm : ∀ x, x ∈ d ↔ lvH l x = true ∧ x ∉ R := fun x => by rw [hp.mem_iff]; exact gos_mem hw R x
  exact ⟨sorted_up hp (gos_apart hw R) hs, fun x => by rw [hm, hR], swl_frees hw hm⟩

set_option maxRecDepth 100000 in
set_option maxHeartbeats 8000000 in
theorem rcollect_is {w : World} {N N2 b M : Nat} {v vr vL : Value} {l : List Th} {m : Int} {rs : List Hd} {L : List Lk} (h : DT w N b v l m) (hw : Wf l M) (hl : Lt l) (hM : M ≤ 500) (hn : l.length ≤ 1000) (hr : HL w vr rs) (hrl : rs.length ≤ 400) (hk : Row lkF 4 51 w N2 vL L) (hL : L.length ≤ 400) :
    Calls Try.prog 43 #[.pointer (some ⟨b, 0, none⟩), vr, vL] w fun e w' => ∃ v' d, e = .returned v' ∧ Row hF 2 43 w' w.heap.size v' d ∧ d.Pairwise (fun a b => a.1 < b.1) ∧ (∀ x, x ∈ d ↔ lvH l x = true ∧ ¬ Rc (lvH l) (tlL L) rs x) ∧ DT w' N b v (frees l d) m ∧ Ch (fun y => v.ownBlock = some y) w w' := by
  obtain ⟨i0, hi0, hz0, hz1, hz2⟩ := nf_open info_hd
  have HRE := hide (rreach_is h hw hl hM hr hrl hk hL)
  have H := hide h
  have HW := hide (And.intro hw hl)
  obtain ⟨va, vc, rfl, -, -⟩ := h.row.form
  have hl9 : l.length ≤ 9223372036854775807 := by omega
  clear h hw hl hr hk
  go_enter Try.func43, Try.ntmps43
  go_wp2_with fail
  refine HRE.out.mono ?_
  rintro e w2 ⟨vR, R, rfl, hR2, hRp, hRm, hRb⟩
  have HRR := hide hR2
  have HRM := hide hRm
  have HD2 := hide (H.out.quiet (Ch.of_below hRb))
  have HC2 := hide (Ch.of_below (Q := fun y => (Value.slice va l.length vc).ownBlock = some y) hRb)
  have HRL := hide (show R.length ≤ 500 from Nat.le_trans (live_len HW.out.1 HW.out.2 (hRp.imp fun h e => by rw [e] at h; omega) fun x hx => ((hRm x).1 hx).lives) hM)
  have hsz := hRb.size
  obtain ⟨Ra, Rc', rfl, -, -⟩ := hR2.form
  have HBL := hide (fun g (hg : (Value.slice va l.length vc).ownBlock = some g) => (own_in H.out.row hg).2.1)
  clear hR2 hRp hRm hRb HRE
  go_wp2
  go_loopw [8, 9] (fun fv iv wr => ∃ k : Nat, k ≤ l.length ∧ iv = .int .i64 (k : Int) ∧ Hid (Row hF 2 43 wr w2.heap.size fv (gos R (l.take k))) ∧ Hid (DT wr N b (.slice va l.length vc) (swl R l k) m) ∧ Hid (Row hF 2 43 wr w.heap.size (.slice Ra R.length Rc') R) ∧ Hid (Ch (fun y => (Value.slice va l.length vc).ownBlock = some y) w wr ∧ w2.heap.size ≤ wr.heap.size)) (fun _ iv _ => l.length - (intOf iv).toNat)
  case atStart => exact ⟨0, Nat.zero_le _, rfl, hide (Row.nil _ _), hide (show DT w2 N b (.slice va l.length vc) (swl R l 0) m from HD2.out), HRR, hide ⟨HC2.out, Nat.le_refl _⟩⟩
  case round =>
    obtain ⟨k, hk, rfl, HF, HD, HRW, HB⟩ := hrel
    obtain ⟨W1, rfl⟩ : ∃ x, x = wr := ⟨_, rfl⟩
    have x0 := HD.out.cells.1
    by_cases hlt : k < l.length
    · have q1 : decide ((k : Int) < (l.length : Int)) = true := decide_eq_true (by omega)
      obtain ⟨bl, rfl, y0, y1, y3, y4⟩ := HD.out.atk hlt
      have HGS := hide (show gos R (l.take (k + 1)) = if !l[k].d && !decide ((l[k].s, l[k].g) ∈ R) then gos R (l.take k) ++ [(l[k].s, l[k].g)] else gos R (l.take k) by rw [List.take_succ_eq_append_getElem hlt, gos_snoc])
      have HSW := hide (show (l[k].s, l[k].g) ∉ R → ∀ W, DT W N b (.slice (some ⟨bl, 0, none⟩) l.length vc) (swl R l k) m → DT (W.setCell ⟨bl, k * 4 + 3, none⟩ (.bool true)) N b (.slice (some ⟨bl, 0, none⟩) l.length vc) (swl R l (k + 1)) m from fun h W hW => hW.sweep rfl hlt h)
      have HSS := hide (show (l[k].d || !decide ((l[k].s, l[k].g) ∈ R)) = l[k].d → swl R l (k + 1) = swl R l k from fun h => swl_same hlt (by unfold swp; rw [h]))
      have HAT := hide (fun W (hW : DT W N b (.slice (some ⟨bl, 0, none⟩) l.length vc) (swl R l k) m) => hW.atk hlt)
      have hgl : (gos R (l.take k)).length ≤ 1000 := Nat.le_trans (gos_le _ _) (by rw [List.length_take]; omega)
      generalize l[k] = t at y0 y1 y3 HGS HSW HSS HAT
      have HAM := hide (among_is (row_hl HRW.out (Nat.le_trans HRL.out (by omega))) t.s t.g)
      rw [am_dec] at HAM
      go_wp2_with fail
      refine HAM.out.mono ?_
      rintro e W2 ⟨rfl, hb2⟩
      have c2 : Ch (fun _ => False) W1 W2 := Ch.of_below hb2
      have HD2' := hide (HD.out.quiet c2)
      have HF2 := hide (HF.out.ch c2 (fun _ _ h => h))
      have HR2 := hide (HRW.out.ch c2 (fun _ _ h => h))
      have HB2 := hide (show Ch (fun y => (Value.slice (some ⟨bl, 0, none⟩) l.length vc).ownBlock = some y) w W2 ∧ w2.heap.size ≤ W2.heap.size from ⟨HB.out.1.trans c2 (fun _ _ h => h.elim), Nat.le_trans HB.out.2 c2.size⟩)
      have x0' := HD2'.out.cells.1
      obtain ⟨bl', eb, z0, z1, z3, z4⟩ := HAT.out W2 HD2'.out
      injection eb with eb
      injection eb with eb
      subst eb
      clear hb2 c2 HAM x0 y0 y1 y3 y4
      have x0 := x0'
      clear x0'
      cases hd : t.d
      · rw [hd] at z3
        by_cases hin : (t.s, t.g) ∈ R
        · have q2 : decide ((t.s, t.g) ∈ R) = true := decide_eq_true hin
          have HG2 := hide (show gos R (l.take (k + 1)) = gos R (l.take k) by rw [HGS.out, hd, q2]; rfl)
          have HS2 := hide (HSS.out (by rw [hd, q2]; rfl))
          rw [q2]
          clear hd hin q2
          go_wp2
          go_roundw
          case rel => exact ⟨k + 1, by omega, by go_num, hide (by rw [HG2.out]; exact HF2.out), hide (by rw [HS2.out]; exact HD2'.out), HR2, HB2⟩
          case measure => simp [intOf]; omega
        · have q2 : decide ((t.s, t.g) ∈ R) = false := decide_eq_false hin
          have HG2 := hide (show gos R (l.take (k + 1)) = gos R (l.take k) ++ [(t.s, t.g)] by rw [HGS.out, hd, q2]; rfl)
          have HD3 := hide (HSW.out hin W2 HD2'.out)
          rw [q2]
          obtain ⟨W3, hW3⟩ : ∃ W3, W2.setCell ⟨bl, k * 4 + 3, none⟩ (.bool true) = W3 := ⟨_, rfl⟩
          have c3 : Ch (fun y => y = bl) W2 W3 := by rw [← hW3]; exact Ch.set (Q := fun y => y = bl) W2 rfl _ _
          rw [hW3] at HD3
          have hb3 := HD3.out.cells.1
          have n0 : W3.cell? ⟨bl, k * 4, none⟩ = some (.int .u32 t.s) := by rw [← hW3, cell_far _ _ _ _ _ (by omega)]; exact z0
          have n1 : W3.cell? ⟨bl, k * 4 + 1, none⟩ = some (.int .u32 t.g) := by rw [← hW3, cell_far _ _ _ _ _ (by omega)]; exact z1
          have hbw := HBL.out bl rfl
          have HF3 := hide (HF2.out.ch c3 (fun g hg e => by have := (own_in HF2.out hg).1; omega))
          have HR3 := hide (HR2.out.ch c3 (fun g hg e => by have := (own_in HR2.out hg).1; omega))
          have HB3 := hide (show Ch (fun y => (Value.slice (some ⟨bl, 0, none⟩) l.length vc).ownBlock = some y) w W3 ∧ w2.heap.size ≤ W3.heap.size from ⟨HB2.out.1.trans c3 (fun _ _ h => by rw [h]; rfl), Nat.le_trans HB2.out.2 c3.size⟩)
          obtain ⟨fa, fc, rfl, -, -⟩ := HF3.out.form
          have HOW := hide (World.ownsRow.alloc (show W3.ownsRow w2.heap.size 43 2 (.slice fa (gos R (l.take k)).length fc) (gos R (l.take k)).length ((gos R (l.take k)).flatMap hF) from HF3.out) (.cells #[.int .u32 t.s, .int .u32 t.g] 43))
          have HN1 := hide (row_new W3 (hF (t.s, t.g)) 43 rfl)
          have HM1 := hide (show (gos R (l.take k)).length + 1 ≤ maxLen by unfold maxLen; omega)
          have HM2 := hide (show ((gos R (l.take k)).length + 1) * 8 ≤ 140737488355328 by omega)
          have HM3 := hide (show w2.heap.size ≤ (W3.alloc (.cells #[.int .u32 t.s, .int .u32 t.g] 43)).heap.size by rw [World.size_alloc]; have := HB3.out.2; omega)
          have HON := hide (hF_one (t.s, t.g))
          clear hgl hd hin q2 c3 hbw
          go_wp2_with (at_builtin; refine wpList_append_own_at _ rfl _ _ 34 rfl w2.heap.size 43 i0 (.agg #[.int .u32 0, .int .u32 0]) 2 8 Try.underlying34 hi0 hz0 hz1 hz2 rfl (by decide) _ (gos R (l.take k)).length ((gos R (l.take k)).flatMap hF) rfl HOW.out ⟨W3.heap.size, 0, none⟩ 1 1 (hF (t.s, t.g)) rfl rfl HN1.out HON.out HM1.out HM2.out HM3.out ?_)
          intro v' w6 hown' hgrow _ hat
          have HF6 := hide (show Row hF 2 43 w6 w2.heap.size v' (gos R (l.take (k + 1))) by rw [HG2.out]; exact Row.snoc hown')
          have c6 : Ch (fun y => (Value.slice fa (gos R (l.take k)).length fc).ownBlock = some y) W3 w6 := (Ch.alloc _ _).trans (Ch.of_grown hgrow (fun _ e => e)) (fun _ _ h => h)
          have HR6 := hide (HR3.out.ch c6 (fun g hg e => by have := (own_in HF3.out e).1; have := (own_in HRR.out hg).2.1; omega))
          have hbw := HBL.out
          have HD6 := hide (HD3.out.ch c6 (fun e => by have := (own_in HF3.out e).1; have := H.out.lt; omega) (fun g hg e => by have := (own_in HF3.out e).1; have := hbw g hg; omega))
          have HB6 := hide (show Ch (fun y => (Value.slice (some ⟨bl, 0, none⟩) l.length vc).ownBlock = some y) w w6 ∧ w2.heap.size ≤ w6.heap.size from ⟨HB3.out.1.trans c6 (fun x hx e => by have := (own_in HF3.out e).1; omega), Nat.le_trans HB3.out.2 c6.size⟩)
          clear hown' hgrow hat c6 hbw
          go_wp2
          go_roundw
          case rel => exact ⟨k + 1, by omega, by go_num, HF6, HD6, HR6, HB6⟩
          case measure => simp [intOf]; omega
      · rw [hd] at z3
        have HG2 := hide (show gos R (l.take (k + 1)) = gos R (l.take k) by rw [HGS.out, hd]; rfl)
        have HS2 := hide (HSS.out (by rw [hd]; rfl))
        clear hd
        go_wp2
        go_roundw
        case rel => exact ⟨k + 1, by omega, by go_num, hide (by rw [HG2.out]; exact HF2.out), hide (by rw [HS2.out]; exact HD2'.out), HR2, HB2⟩
        case measure => simp [intOf]; omega
    · have q1 : decide ((k : Int) < (l.length : Int)) = false := decide_eq_false (by omega)
      have ek : l.take k = l := List.take_of_length_le (by omega)
      have ek2 : k = l.length := by omega
      rw [ek] at HF
      have HRI := hide (rising_is HF.out (Nat.le_trans (gos_le _ l) hn))
      go_wp2_with fail
      refine HRI.out.mono ?_
      rintro e w7 ⟨v', d, rfl, hr7, hp7, hs7, hb7⟩
      obtain ⟨g1, g2, g3⟩ := gos_end HW.out.1 HRM.out hp7 hs7
      have hD7 := HD.out.quiet (Ch.of_below hb7)
      rw [ek2, g3] at hD7
      have HFI := hide (show Row hF 2 43 w7 w.heap.size v' d ∧ d.Pairwise (fun a b => a.1 < b.1) ∧ (∀ x, x ∈ d ↔ lvH l x = true ∧ ¬ Rc (lvH l) (tlL L) rs x) ∧ DT w7 N b (.slice va l.length vc) (frees l d) m ∧ Ch (fun y => (Value.slice va l.length vc).ownBlock = some y) w w7 from
        ⟨own_low hr7 (Nat.le_trans hsz HB.out.2), g1, g2, hD7, HB.out.1.trans (Ch.of_below hb7 (Q := fun _ => False)) (fun _ _ h => h.elim)⟩)
      clear hr7 hp7 hs7 hb7 g1 g2 g3 hD7
      go_wp2
      go_ret
      exact ⟨v', d, rfl, HFI.out⟩

end Go.Proofs.Ytcogiklnegpfiaa

namespace Go.Proofs.Ytcogiklnegpfiaa
open Go.RowKit

theorem info_ob : (Try.prog.info? 66).map (fun i => (i.zero, i.size, i.bytes)) = some (some (.agg #[.int .u32 0, .int .u32 0, .int .i64 0, .bool false]), 4, 24) := by kernel_rfl
theorem thF_one (t : Th) : ∀ u ∈ thF t, u.oneCell' = true := by
  intro u hu
  simp only [thF, List.mem_cons, List.not_mem_nil, or_false] at hu
  rcases hu with rfl | rfl | rfl | rfl <;> rfl
theorem res_rmake (tm : Array Value) (A : Nat) (Z : World) (s g c : Int) (h2 : tm[4]?.getD undef = .pointer (some ⟨A, 0, none⟩)) (h3 : tm[5]?.getD undef = .int .i64 c) (c0 : Z.cell? ⟨A, 0, none⟩ = some (.int .u32 s)) (c1 : Z.cell? ⟨A, 1, none⟩ = some (.int .u32 g)) :
    (results Try.f23 tm).run Try.prog Z = .ok (.tuple #[hv s g, .int .i64 c]) Z := by
  simp [results, Try.results23, go_sem, h2, h3, c0, c1]

set_option maxRecDepth 100000 in
set_option maxHeartbeats 4000000 in
theorem rmake_cps {w : World} {B b M : Nat} {v : Value} {l : List Th} {m : Int} (h : DT w B b v l m) (hl : l.length ≤ 100000) (hF : Fit l) (x : Int) (hM : m = M) (hM2 : M ≤ 500) (hBw : B ≤ w.heap.size) (hex : Hid (cnt l < M → emp l M 1 ≠ none)) (Q : Ending → World → Prop)
    (hkind : Hid (mkO x = false → ∀ w', Below w.heap.size w w' → Q (.returned (.tuple #[hv 0 0, .int .i64 133])) w'))
    (hfull : Hid (mkO x = true → ¬ cnt l < M → ∀ w', Below w.heap.size w w' → Q (.returned (.tuple #[hv 0 0, .int .i64 131])) w'))
    (hyes : Hid (mkO x = true → cnt l < M → ∀ s : Int, emp l M 1 = some s → ∀ w' v', DT w' B b v' (tkn l s x) m → Ch (fun y => y = b ∨ v.ownBlock = some y) w w' → (∀ g, v'.ownBlock = some g → v.ownBlock = some g ∨ w.heap.size ≤ g) → Q (.returned (.tuple #[hv s (gens l s + 1), .int .i64 0])) w')) :
    Calls Try.prog 23 #[.pointer (some ⟨b, 0, none⟩), .int .i64 x] w Q := by
  subst hM
  obtain ⟨a, c, rfl, hc, hm⟩ := h.row.form
  go_enter Try.func23, Try.ntmps23
  by_cases hk : mkO x = true
  · have hk2 : 1 ≤ x ∧ x ≤ 3 := by simpa [mkO] using hk
    have qk1 : decide (x < 1) = false := decide_eq_false (by omega)
    have qk2 : decide (3 < x) = false := decide_eq_false (by omega)
    have HK := hide hk
    clear hk hk2
    go_wp2
    obtain ⟨w1, hw1⟩ : ∃ w1, w.alloc (.cells #[.int .u32 0, .int .u32 0] 43) = w1 := ⟨_, rfl⟩
    rw [hw1]
    have HDN := hide (fun n => rcount_is (h.ch ((show Ch (fun _ => False) w w1 by rw [← hw1]; exact Ch.alloc _ _).trans (Ch.drewN (Q := fun _ => False) w1 n) (fun _ _ h => h)) (fun h => h) (fun _ _ h => h)))
    have hx1 : ∀ n, (w1.drewN n).cell? ⟨b, 1, none⟩ = some (.int .i64 (M : Int)) := fun n => (h.ch ((show Ch (fun _ => False) w w1 by rw [← hw1]; exact Ch.alloc _ _).trans (Ch.drewN (Q := fun _ => False) w1 n) (fun _ _ h => h)) (fun h => h) (fun _ _ h => h)).cells.2
    have hcl := cnt_le l
    go_quiet ((go_at_call 9; exact Calls.quiet_of_same (HDN.out _)))
    obtain ⟨W, hW⟩ : ∃ W, w1.drewN nq = W := ⟨_, rfl⟩
    have hBW : Below w.heap.size w W := by rw [← hW, ← hw1]; exact (below1 _ _).trans (below_dr _ _ _)
    have hsW : W.heap.size = w.heap.size + 1 := by rw [← hW, ← hw1]; show (w.alloc _).heap.size = _; simp
    have hnW : W.heap[w.heap.size]? = some (.cells #[.int .u32 0, .int .u32 0] 43) := by rw [← hW, ← hw1]; exact heap_new _ _
    have h1 := h.ch (Ch.of_below (Q := fun _ => False) hBW) (fun h => h) (fun _ _ h => h)
    rw [hW]
    have HB1 := hide hBW
    have HH := hide h
    have HN0 := hide hnW
    have hs1 := hsW
    obtain ⟨hx0, hx1'⟩ := h1.cells
    have hy0 : W.cell? ⟨w.heap.size, 0, none⟩ = some (.int .u32 0) := by simp [Lib.cell_of_heap hnW]
    have hy1 : W.cell? ⟨w.heap.size, 1, none⟩ = some (.int .u32 0) := by simp [Lib.cell_of_heap hnW]
    have hf0 : ∀ o, W.frozen? ⟨w.heap.size, o, none⟩ = false := by simp [World.frozen?, hnW]
    clear hW hw1 hBW hsW hnW HDN hx1 h
    have hx1 := hx1'
    clear hx1'
    by_cases hlt : cnt l < M
    · have q5 : decide (M ≤ cnt l) = false := decide_eq_false (by omega)
      have HCT := hide hlt
      have HEX := hide (hex.out hlt)
      have q6 : ¬ M ≤ cnt l := by omega
      clear hlt hcl
      rw [q5]
      go_wp2
      clear q5 q6
      go_loopw [6, 7, 8] (fun sv uv gv wr => ∃ (j : Nat) (u : Bool), j ≤ M ∧ sv = .int .i64 (j : Int) ∧ uv = .bool u ∧ Hid ((u = true → emp l M 1 = emp l (M - j) (j + 1)) ∧ (u = false → emp l M 1 = some (j : Int) ∧ gv = .int .i64 ((gens l j + 1 : Nat) : Int))) ∧ wr = W) (fun sv _ _ _ => M - (intOf sv).toNat)
      case atStart => exact ⟨0, true, Nat.zero_le _, rfl, rfl, hide ⟨fun _ => rfl, fun h => by cases h⟩, rfl⟩
      case round =>
        obtain ⟨j, u, hj, rfl, rfl, HI, rfl⟩ := hrel
        obtain ⟨W, rfl⟩ : ∃ W, W = wr := ⟨_, rfl⟩
        cases u
        · obtain ⟨hem, hgv⟩ := HI.out.2 rfl
          subst hgv
          have HE3 := hide hem
          have hgl := gens_le l (j : Int)
          clear hem HI HEX
          have w32 : IntKind.u32.wrap (j : Int) = (j : Int) := by rw [IntKind.wrap_u32]; omega
          have g32 : IntKind.u32.wrap ((gens l (j : Int) + 1 : Nat) : Int) = (gens l (j : Int) : Int) + 1 := by rw [IntKind.wrap_u32]; omega
          obtain ⟨i0, hi0, hz0, hz1, hz2⟩ := nf_open info_ob
          go_wp2
          have hBx : W.heap.size = w.heap.size + 1 := hs1
          obtain ⟨w2, hw2⟩ : ∃ w2, W.alloc (.cells #[.int .u32 ((j : Int)), .int .u32 ((gens l (j : Int) : Int) + 1)] 43) = w2 := ⟨_, rfl⟩
          have hB2 : Below W.heap.size W w2 := by rw [← hw2]; exact below1 _ _
          have hn2 : w2.heap[w.heap.size + 1]? = some (.cells #[.int .u32 ((j : Int)), .int .u32 ((gens l (j : Int) : Int) + 1)] 43) := by rw [← hw2, ← hBx]; exact heap_new _ _
          have hs2 : w2.heap.size = w.heap.size + 2 := by rw [← hw2]; simp [hBx]
          have HD2 := hide (h1.ch (Ch.of_below (Q := fun _ => False) hB2) (fun h => h) (fun _ _ h => h))
          have HR := hide (show Row thF 4 66 w2.drew B (.slice a l.length c) l from (unhide HD2).row.ch (Ch.drew (Q := fun _ => False) w2) (fun _ _ h => h))
          have HC2 := hide ((Ch.of_below (unhide HB1)).trans (Ch.of_below hB2) (Q := fun y => y = b ∨ (Value.slice a l.length c).ownBlock = some y) (fun _ _ h => h))
          have HBB2 := hide hB2
          have HLT := hide (show w.heap.size < W.heap.size by omega)
          rw [hw2]
          clear hw2 hx0 hx1 hy0 hy1 hf0 w32 g32 h1 hB2 hm hgl hj
          obtain ⟨d0, d1⟩ := (unhide HD2).cells
          have d2 : w2.cell? ⟨w.heap.size + 1, 0, none⟩ = some (.int .u32 ((j : Int))) := by simp [Lib.cell_of_heap hn2]
          have d3 : w2.cell? ⟨w.heap.size + 1, 1, none⟩ = some (.int .u32 ((gens l (j : Int) : Int) + 1)) := by simp [Lib.cell_of_heap hn2]
          generalize hG : (gens l (j : Int) : Int) + 1 = G at *
          generalize hS : (j : Int) = S at *
          have HM1 := hide (show l.length + 1 ≤ maxLen by unfold maxLen; omega)
          have HM2 := hide (show (l.length + 1) * 24 ≤ 140737488355328 by omega)
          have HM3 := hide (show B ≤ (w2.drew.alloc (.cells #[.int .u32 S, .int .u32 G, .int .i64 x, .bool false] 66)).heap.size by simp; show B ≤ w2.heap.size + 1; omega)
          have HOW := hide (World.ownsRow.alloc (unhide HR) (.cells #[.int .u32 S, .int .u32 G, .int .i64 x, .bool false] 66))
          have HNW := hide (row_new w2.drew [.int .u32 S, .int .u32 G, .int .i64 x, .bool false] 66 rfl)
          have HN1 := hide (thF_one ⟨S, G, x, false⟩)
          have hge2 : w.heap.size + 1 < w2.heap.size := by omega
          have HS2 := hide hs2
          clear hs2 hBx hs1
          have HNE := hide (unhide HD2).ne
          have HX1 := hide (show (w2.drew.alloc (.cells #[.int .u32 S, .int .u32 G, .int .i64 x, .bool false] 66)).heap[b]? = some (.cells #[.slice a l.length c, .int .i64 (M : Int)] 32 (0, 0)) from (below1 w2.drew _).block b (unhide HD2).lt |>.trans (unhide HD2).box)
          have HX2 := hide (show (w2.drew.alloc (.cells #[.int .u32 S, .int .u32 G, .int .i64 x, .bool false] 66)).heap[w.heap.size + 1]? = some (.cells #[.int .u32 S, .int .u32 G] 43 (0, 0)) from (below1 w2.drew _).block (w.heap.size + 1) hge2 |>.trans hn2)
          have HX3 := hide (show (w2.drew.alloc (.cells #[.int .u32 S, .int .u32 G, .int .i64 x, .bool false] 66)).heap.size = w2.heap.size + 1 by simp)
          have HX0 := hide (show (w2.drew.alloc (.cells #[.int .u32 S, .int .u32 G, .int .i64 x, .bool false] 66)).heap[w.heap.size]? = some (.cells #[.int .u32 0, .int .u32 0] 43 (0, 0)) from (below1 w2.drew _).block w.heap.size (Nat.lt_of_succ_lt hge2) |>.trans ((unhide HBB2).block w.heap.size (unhide HLT) |>.trans (unhide HN0)))
          clear hn2
          have c4a : (w2.alloc (.cells #[.int .u32 S, .int .u32 G, .int .i64 x, .bool false] 66)).cell? ⟨b, 0, none⟩ = some (.slice a l.length c) := ((unhide HD2).ch (Ch.of_below (Q := fun _ => False) (below1 w2 _)) (fun h => h) (fun _ _ h => h)).cells.1
          go_region_law (
            refine step_append_at rfl (.tmp 73) (.tmp 77) 30 rfl B 66 i0 (.agg #[.int .u32 0, .int .u32 0, .int .i64 0, .bool false]) 4 24 Try.underlying30 hi0 hz0 hz1 hz2 rfl (by decide) (.slice a l.length c) l.length (l.flatMap thF) rfl (unhide HOW) ⟨w2.drew.heap.size, 0, none⟩ 1 1 (thF ⟨S, G, x, false⟩) rfl rfl (unhide HNW) (unhide HN1) (unhide HM1) (unhide HM2) (unhide HM3) ?_
            intro v' w5 hv hgrow hat
            obtain ⟨a', n', c', rfl⟩ := own_form hv
            have HC5 := hide (Ch.of_grown (Q := fun y => (Value.slice a l.length c).ownBlock = some y) hgrow (fun _ e => e))
            have HY1 := hide ((unhide HC5).box (unhide HX1) (unhide HNE))
            have HY2 := hide ((unhide HC5).box (unhide HX2) (own_box (unhide HOW) (unhide HX2) (by decide)))
            have HY0 := hide ((unhide HC5).box (unhide HX0) (own_box (unhide HOW) (unhide HX0) (by decide)))
            have HV := hide hv
            have HAT := hide hat
            have e0 : w5.cell? ⟨b, 0, none⟩ = some (.slice a l.length c) := (by simp [Lib.cell_of_heap (unhide HY1)])
            have e1 : w5.frozen? ⟨b, 0, none⟩ = false := (by simp [World.frozen?, unhide HY1])
            clear hv hgrow hat)
          all_goals
            have HCw5 := hide (((unhide HC2).trans ((Ch.drew w2).trans (Ch.alloc w2.drew (.cells #[.int .u32 S, .int .u32 G, .int .i64 x, .bool false] 66)) (Q := fun y => y = b ∨ (Value.slice a l.length c).ownBlock = some y) (fun _ _ h => h)) (fun _ _ h => h)).trans (unhide HC5) (fun _ _ h => Or.inr h))
            have hbn : b < w.heap.size := (unhide HH).lt
            have Hb6 := hide (heap_set (unhide HY1) 0 (.slice a' n' c'))
            have Hh6 := hide ((Ch.set (Q := fun y => y = b) w5 rfl 0 (.slice a' n' c')).box (unhide HY2) (by omega))
            have H06 := hide ((Ch.set (Q := fun y => y = b) w5 rfl 0 (.slice a' n' c')).box (unhide HY0) (by omega))
            have HR6 := hide ((Row.snoc (f := thF) (x := ⟨S, G, x, false⟩) (unhide HV)).ch (Ch.set (Q := fun y => y = b) w5 rfl 0 (.slice a' n' c')) (fun g hg e => own_box (unhide HV) (unhide HY1) (by decide) (e ▸ hg)))
            have HC6 := hide ((unhide HCw5).trans (Ch.set (Q := fun y => y = b) w5 rfl 0 (.slice a' n' c')) (fun _ _ h => Or.inl h))
            clear e0 e1
            generalize w5.setCell ⟨b, 0, none⟩ (.slice a' n' c') = w6 at *
            have f0 : w6.cell? ⟨w.heap.size + 1, 0, none⟩ = some (.int .u32 S) := by simp [Lib.cell_of_heap (unhide Hh6)]
            have f1 : w6.cell? ⟨w.heap.size + 1, 1, none⟩ = some (.int .u32 G) := by simp [Lib.cell_of_heap (unhide Hh6)]
            have f2 : w6.cell? ⟨w.heap.size, 0, none⟩ = some (.int .u32 0) := by simp [Lib.cell_of_heap (unhide H06)]
            have f3 : w6.cell? ⟨w.heap.size, 1, none⟩ = some (.int .u32 0) := by simp [Lib.cell_of_heap (unhide H06)]
            have f4 : ∀ o, w6.frozen? ⟨w.heap.size, o, none⟩ = false := by simp [World.frozen?, unhide H06]
            go_wp2
            refine bodyPost_ret (v := .tuple #[hv S G, .int .i64 0]) (res_rmake _ w.heap.size _ S G 0 rfl rfl ?_ ?_) rfl ?_
            · simp [go_sem, f2]
            · simp [go_sem, f3]
            · have HC7 := (Ch.set (Q := fun y => y = w.heap.size) w6 rfl 0 (.int .u32 S)).trans (Ch.set (Q := fun y => y = w.heap.size) (w6.setCell ⟨w.heap.size, 0, none⟩ (.int .u32 S)) rfl 1 (.int .u32 G)) (fun _ _ h => h)
              have key := unhide hyes (unhide HK) (unhide HCT) S (unhide HE3) _ (.slice a' n' c') ⟨HC7.box (unhide Hb6) (by omega), by unfold tkn; rw [hG]; exact (unhide HR6).ch HC7 (fun g hg e => own_box (unhide HR6) (unhide H06) (by decide) (e ▸ hg))⟩ ((unhide HC6).trans HC7 (fun y hy e => by omega)) (fun g hg => (unhide HAT).elim (fun e => Or.inl (e.symm.trans hg)) (fun e => Or.inr (by rw [e] at hg; injection hg with hg; have := unhide HX3; rw [← hg]; show w.heap.size ≤ (w2.drew.alloc _).heap.size; omega)))
              rw [hG] at key
              exact key
        · have hjM : j < M := by
            rcases Nat.lt_or_ge j M with h | h
            · exact h
            · have e := HI.out.1 rfl
              rw [show M - j = 0 by omega] at e
              exact absurd e HEX.out
          have HE2 := hide (emp_step hjM (HI.out.1 rfl))
          go_wp2
          go_loopw [7, 8, 9] (fun q p i wr => ∃ k : Nat, k ≤ l.length ∧ i = .int .i64 k ∧ p = .int .i64 ((gens (l.take k) (j + 1) + 1 : Nat) : Int) ∧ q = .bool (usd (l.take k) (j + 1)) ∧ wr = W) (fun _ _ i _ => l.length - (intOf i).toNat)
          case atStart => exact ⟨0, Nat.zero_le _, rfl, by simp [gens], by simp [usd], rfl⟩
          case round =>
            obtain ⟨k, hk, rfl, rfl, rfl, rfl⟩ := hrel
            obtain ⟨W, rfl⟩ : ∃ W, W = wr := ⟨_, rfl⟩
            by_cases hkl : k < l.length
            · obtain ⟨g', c', cur, hv, hc', hBg, hg, hgc, hcs, hcell⟩ := h1.row.at thF_len (by omega)
              cases hv
              have y0 : W.cell? ⟨g', k * 4, none⟩ = _ := hcell k hkl 0 (.int .u32 l[k].s) rfl
              have y3 := hcell k hkl 3 (.bool l[k].d) rfl
              have hfit := hF l[k] (List.getElem_mem _)
              have hle : gens (l.take k) (j + 1) ≤ k := Nat.le_trans (gens_le _ _) (List.length_take_le _ _)
              have hn1 := gens_snoc (l.take k) l[k] (j + 1)
              have hn2 := usd_snoc (l.take k) l[k] (j + 1)
              rw [← List.take_succ_eq_append_getElem hkl] at hn1 hn2
              generalize l[k] = z at hn1 hn2 y0 y3 hfit
              obtain ⟨hf1, hf2⟩ := hfit
              have HN1 := hide hn1
              have HN2 := hide hn2
              clear hn1 hn2 hcell
              by_cases es : z.s = (j : Int) + 1
              · rw [es] at y0
                cases hu : usd (l.take k) (j + 1)
                · cases hd : z.d
                  all_goals
                    rw [hd] at y3
                    go_wp2
                    go_roundw
                    case rel => exact ⟨k + 1, by omega, by go_num, by rw [unhide HN1, if_pos es]; go_num, by rw [unhide HN2, hu, hd, es]; simp, trivial⟩
                    case measure => simp [intOf]; omega
                · go_wp2
                  go_roundw
                  case rel => exact ⟨k + 1, by omega, by go_num, by rw [unhide HN1, if_pos es]; go_num, by rw [unhide HN2, hu]; simp, trivial⟩
                  case measure => simp [intOf]; omega
              · have q : (z.s == (j : Int) + 1) = false := by simpa using es
                have HS := hide es
                clear es
                go_wp2
                go_roundw
                case rel => exact ⟨k + 1, by omega, by go_num, by rw [unhide HN1, if_neg (unhide HS)], by rw [unhide HN2, decide_eq_false (unhide HS)]; simp, trivial⟩
                case measure => simp [intOf]; omega
            · have ek : l.take k = l := List.take_of_length_le (by omega)
              rw [ek]
              have HN := hide (show (usd l (j + 1) = true → emp l M 1 = emp l (M - (j + 1)) (((j + 1 : Nat) : Int) + 1)) ∧ (usd l (j + 1) = false → emp l M 1 = some ((j + 1 : Nat) : Int)) from ⟨fun hu => by rw [HE2.out, hu]; simp, fun hu => by rw [HE2.out, hu]; simp⟩)
              cases hu : usd l ((j : Int) + 1)
              · have HN3 := hide (HN.out.2 hu)
                go_wp2
                go_roundw
                case rel => exact ⟨j + 1, false, by omega, by go_num, rfl, hide ⟨fun h => (by cases h), fun _ => ⟨HN3.out, rfl⟩⟩, trivial⟩
                case measure => simp [intOf]; omega
              · have HN3 := hide (HN.out.1 hu)
                go_wp2
                go_roundw
                case rel => exact ⟨j + 1, true, by omega, by go_num, rfl, hide ⟨fun _ => HN3.out, fun h => (by cases h)⟩, trivial⟩
                case measure => simp [intOf]; omega
    · have q5 : decide (M ≤ cnt l) = true := decide_eq_true (by omega)
      have HCT := hide hlt
      have q6 : M ≤ cnt l := by omega
      clear hlt hcl
      go_wp2
      have hB2 : Below w.heap.size w ((W.setCell ⟨w.heap.size, 0, none⟩ (.int .u32 0)).setCell ⟨w.heap.size, 1, none⟩ (.int .u32 0)) := ((unhide HB1).setCell (p := ⟨w.heap.size, 0, none⟩) (Nat.le_refl _) _).setCell (p := ⟨w.heap.size, 1, none⟩) (Nat.le_refl _) _
      refine bodyPost_ret (v := .tuple #[hv 0 0, .int .i64 131]) (res_rmake _ w.heap.size _ 0 0 131 rfl rfl ?_ ?_) rfl (unhide hfull HK.out HCT.out _ hB2)
      · simp [go_sem, hy0]
      · simp [go_sem, hy1]
  · have HK := hide (show mkO x = false by simpa using hk)
    obtain ⟨w1, hw1⟩ : ∃ w1, w.alloc (.cells #[.int .u32 0, .int .u32 0] 43) = w1 := ⟨_, rfl⟩
    have HB1 := hide (show Below w.heap.size w w1 by rw [← hw1]; exact below1 _ _)
    have hn : w1.heap[w.heap.size]? = some (.cells #[.int .u32 0, .int .u32 0] 43) := by rw [← hw1]; exact heap_new _ _
    have hy0 : w1.cell? ⟨w.heap.size, 0, none⟩ = some (.int .u32 0) := by simp [Lib.cell_of_heap hn]
    have hy1 : w1.cell? ⟨w.heap.size, 1, none⟩ = some (.int .u32 0) := by simp [Lib.cell_of_heap hn]
    have hf0 : ∀ o, w1.frozen? ⟨w.heap.size, o, none⟩ = false := by simp [World.frozen?, hn]
    have hB2 : Below w.heap.size w ((w1.setCell ⟨w.heap.size, 0, none⟩ (.int .u32 0)).setCell ⟨w.heap.size, 1, none⟩ (.int .u32 0)) := ((unhide HB1).setCell (p := ⟨w.heap.size, 0, none⟩) (Nat.le_refl _) _).setCell (p := ⟨w.heap.size, 1, none⟩) (Nat.le_refl _) _
    have HKQ := hide (hkind.out HK.out _ hB2)
    have hk2 : x < 1 ∨ 3 < x := by
      have := HK.out
      simp [mkO] at this
      omega
    by_cases h1x : x < 1
    · have qk1 : decide (x < 1) = true := decide_eq_true h1x
      clear hk hk2 h1x
      go_wp2
      refine bodyPost_ret (v := .tuple #[hv 0 0, .int .i64 133]) (res_rmake _ w.heap.size _ 0 0 133 rfl rfl ?_ ?_) rfl HKQ.out
      · simp [go_sem, hy0]
      · simp [go_sem, hy1]
    · have qk1 : decide (x < 1) = false := decide_eq_false h1x
      have qk2 : decide (3 < x) = true := decide_eq_true (by omega)
      clear hk hk2 h1x
      go_wp2
      refine bodyPost_ret (v := .tuple #[hv 0 0, .int .i64 133]) (res_rmake _ w.heap.size _ 0 0 133 rfl rfl ?_ ?_) rfl HKQ.out
      · simp [go_sem, hy0]
      · simp [go_sem, hy1]

end Go.Proofs.Ytcogiklnegpfiaa
