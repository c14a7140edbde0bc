/- Layer 13: refs, as the law lays it. -/
import Derived.Test.YtcogiklnegpfiaaWa
namespace Go.Proofs.Ytcogiklnegpfiaa
open Go.RowKit Go.Shelf

abbrev rf0 : Oper := { dst := some 25, op := Op.move (Operand.tmp 0), type := 28, pos := "law.go:64", after := #[], guard := none }
abbrev rf1 : Oper := { dst := some 26, op := Op.move (Operand.tmp 0), type := 28, pos := "law.go:64", after := #[], guard := none }
abbrev rf2 : Oper := { dst := some 27, op := Op.nilCheck (Operand.tmp 26), type := 0, pos := "law.go:64", after := #[{ on := 1, ground := Ground.data }], guard := none }
abbrev rf3 : Oper := { dst := some 28, op := Op.fieldAddr 37 (Operand.tmp 27) 4, type := 0, pos := "law.go:64", after := #[{ on := 2, ground := Ground.data }], guard := none }
abbrev rf4 : Oper := { dst := some 29, op := Op.load 34 (Operand.tmp 28), type := 34, pos := "law.go:64", after := #[{ on := 3, ground := Ground.data }], guard := none }
abbrev rf5 : Oper := { dst := some 30, op := Op.load 43 (Operand.tmp 3), type := 43, pos := "law.go:64", after := #[], guard := none }
abbrev rf6 : Oper := { dst := some 31, op := Op.buildSlice 34 1 #[(0, Operand.tmp 30)], type := 34, pos := "law.go:64", after := #[{ on := 5, ground := Ground.data }], guard := none }
abbrev rf7 : Oper := { dst := some 32, op := Op.call { callee := Callee.builtin Builtin.append, args := #[Operand.tmp 29, Operand.tmp 31], argTypes := #[34, 34] }, type := 34, pos := "law.go:64", after := #[{ on := 4, ground := Ground.data }, { on := 6, ground := Ground.data }], guard := none }
abbrev rf8 : Oper := { dst := some 33, op := Op.nilCheck (Operand.tmp 25), type := 0, pos := "law.go:64", after := #[{ on := 0, ground := Ground.data }, { on := 0, ground := Ground.phase }, { on := 1, ground := Ground.phase }, { on := 2, ground := Ground.phase }, { on := 3, ground := Ground.phase }, { on := 4, ground := Ground.phase }, { on := 5, ground := Ground.phase }, { on := 6, ground := Ground.phase }, { on := 7, ground := Ground.phase }], guard := none }
abbrev rf9 : Oper := { dst := some 34, op := Op.fieldAddr 37 (Operand.tmp 33) 4, type := 0, pos := "law.go:64", after := #[{ on := 8, ground := Ground.data }, { on := 0, ground := Ground.phase }, { on := 1, ground := Ground.phase }, { on := 2, ground := Ground.phase }, { on := 3, ground := Ground.phase }, { on := 4, ground := Ground.phase }, { on := 5, ground := Ground.phase }, { on := 6, ground := Ground.phase }, { on := 7, ground := Ground.phase }], guard := none }
abbrev rf10 : Oper := { dst := none, op := Op.store 34 (Operand.tmp 34) (Operand.tmp 32), type := 0, pos := "law.go:64", after := #[{ on := 9, ground := Ground.data }, { on := 7, ground := Ground.data }, { on := 7, ground := Ground.chain }, { on := 0, ground := Ground.phase }, { on := 1, ground := Ground.phase }, { on := 2, ground := Ground.phase }, { on := 3, ground := Ground.phase }, { on := 4, ground := Ground.phase }, { on := 5, ground := Ground.phase }, { on := 6, ground := Ground.phase }, { on := 7, ground := Ground.phase }], guard := none }
abbrev rg0 : Oper := { dst := some 81, op := Op.move (Operand.tmp 0), type := 28, pos := "law.go:75", after := #[], guard := none }
abbrev rg1 : Oper := { dst := some 82, op := Op.nilCheck (Operand.tmp 81), type := 0, pos := "law.go:75", after := #[{ on := 0, ground := Ground.data }], guard := none }
abbrev rg2 : Oper := { dst := some 83, op := Op.fieldAddr 37 (Operand.tmp 82) 7, type := 0, pos := "law.go:75", after := #[{ on := 1, ground := Ground.data }], guard := none }
abbrev rg3 : Oper := { dst := some 84, op := Op.load 34 (Operand.tmp 83), type := 34, pos := "law.go:75", after := #[{ on := 2, ground := Ground.data }], guard := none }
abbrev rg4 : Oper := { dst := some 85, op := Op.move (Operand.tmp 6), type := 3, pos := "law.go:75", after := #[], guard := none }
abbrev rg5 : Oper := { dst := some 86, op := Op.move (Operand.tmp 0), type := 28, pos := "law.go:75", after := #[], guard := none }
abbrev rg6 : Oper := { dst := some 87, op := Op.nilCheck (Operand.tmp 86), type := 0, pos := "law.go:75", after := #[{ on := 5, ground := Ground.data }], guard := none }
abbrev rg7 : Oper := { dst := some 88, op := Op.fieldAddr 37 (Operand.tmp 87) 2, type := 0, pos := "law.go:75", after := #[{ on := 6, ground := Ground.data }], guard := none }
abbrev rg8 : Oper := { dst := some 89, op := Op.load 33 (Operand.tmp 88), type := 33, pos := "law.go:75", after := #[{ on := 7, ground := Ground.data }], guard := none }
abbrev rg9 : Oper := { dst := some 90, op := Op.move (Operand.tmp 8), type := 3, pos := "law.go:75", after := #[], guard := none }
abbrev rg10 : Oper := { dst := some 91, op := Op.indexAddr 33 (Operand.tmp 89) (Operand.tmp 90), type := 0, pos := "law.go:75", after := #[{ on := 8, ground := Ground.data }, { on := 9, ground := Ground.data }], guard := none }
abbrev rg11 : Oper := { dst := some 92, op := Op.fieldAddr 51 (Operand.tmp 91) 1, type := 0, pos := "law.go:75", after := #[{ on := 10, ground := Ground.data }], guard := none }
abbrev rg12 : Oper := { dst := some 93, op := Op.load 43 (Operand.tmp 92), type := 43, pos := "law.go:75", after := #[{ on := 11, ground := Ground.data }], guard := none }
abbrev rg13 : Oper := { dst := some 94, op := Op.indexAddr 34 (Operand.tmp 84) (Operand.tmp 85), type := 0, pos := "law.go:75", after := #[{ on := 3, ground := Ground.data }, { on := 4, ground := Ground.data }, { on := 0, ground := Ground.phase }, { on := 1, ground := Ground.phase }, { on := 2, ground := Ground.phase }, { on := 3, ground := Ground.phase }, { on := 4, ground := Ground.phase }, { on := 5, ground := Ground.phase }, { on := 6, ground := Ground.phase }, { on := 7, ground := Ground.phase }, { on := 8, ground := Ground.phase }, { on := 9, ground := Ground.phase }, { on := 10, ground := Ground.phase }, { on := 11, ground := Ground.phase }, { on := 12, ground := Ground.phase }], guard := none }
abbrev rg14 : Oper := { dst := none, op := Op.store 43 (Operand.tmp 94) (Operand.tmp 93), type := 0, pos := "law.go:75", after := #[{ on := 13, ground := Ground.data }, { on := 12, ground := Ground.data }, { on := 0, ground := Ground.phase }, { on := 1, ground := Ground.phase }, { on := 2, ground := Ground.phase }, { on := 3, ground := Ground.phase }, { on := 4, ground := Ground.phase }, { on := 5, ground := Ground.phase }, { on := 6, ground := Ground.phase }, { on := 7, ground := Ground.phase }, { on := 8, ground := Ground.phase }, { on := 9, ground := Ground.phase }, { on := 10, ground := Ground.phase }, { on := 11, ground := Ground.phase }, { on := 12, ground := Ground.phase }], guard := none }

section
variable {bw N : Nat} {pa pb vT vl vw : Value} {L : List Lk} {w w' : World} {vL vA vE : Value} {aq le : List Hd}

/-- a handle more in the list of what was asked -/
theorem app_next {wr w6 : World} {v6 : Value} {x : Hd} {T : Obj} (h : JW bw N pa pb vT vl vw L wr vL vA vE aq le) (hr : w6.ownsRow N 43 2 v6 (aq.length + 1) (aq.flatMap hF ++ hF x)) (hg : (wr.alloc T).grownBy w6 vA.ownBlock) (ho : v6.ownBlock = vA.ownBlock ∨ v6.ownBlock = some (wr.alloc T).heap.size) :
    JW bw N pa pb vT vl vw L (w6.setCell ⟨bw, 4, none⟩ v6) vL v6 vE (aq ++ [x]) le ∧ Ch (fun y => y = bw ∨ vA.ownBlock = some y) wr (w6.setCell ⟨bw, 4, none⟩ v6) ∧ w6.cell? ⟨bw, 4, none⟩ = some vA ∧ w6.frozen? ⟨bw, 4, none⟩ = false ∧ (v6.ownBlock = vA.ownBlock ∨ ∃ y, wr.heap.size ≤ y ∧ v6.ownBlock = some y) := by
  have c1 : Ch (fun y => vA.ownBlock = some y) wr w6 := (Ch.alloc (Q := fun y => vA.ownBlock = some y) wr T).trans (Ch.of_grown hg (fun _ e => e)) (fun _ _ h => h)
  have hb := c1.box h.box h.bwA
  have hsz : wr.heap.size ≤ (wr.alloc T).heap.size := by rw [World.size_alloc]; exact Nat.le_succ _
  have ho2 : v6.ownBlock = vA.ownBlock ∨ ∃ y, wr.heap.size ≤ y ∧ v6.ownBlock = some y := ho.imp_right fun e => ⟨_, hsz, e⟩
  have hS := Ch.set (Q := fun y => y = bw) w6 rfl 4 v6
  have r6 : Row hF 2 43 w6 N v6 (aq ++ [x]) := Row.snoc hr
  have hlt := (Array.getElem?_eq_some_iff.1 h.box).1
  refine ⟨⟨?_, (h.lk.ch c1 h.lkA).ch hS (fun y hy e => h.bwL (by rw [← e]; exact hy)), r6.ch hS (fun y hy e => ?_), (h.en.ch c1 (fun y hy e => h.ne y e hy)).ch hS (fun y hy e => h.bwE (by rw [← e]; exact hy)), fun y hy e => ?_⟩, (c1.mono (Q' := fun y => y = bw ∨ vA.ownBlock = some y) (fun _ _ h => .inr h)).trans hS (fun _ _ h => .inl h), ?_, ?_, ho2⟩
  · have := heap_set hb 4 v6
    exact this
  · subst e
    rcases ho2 with e | ⟨z, h1, h2⟩
    · exact h.bwA (by rw [← e]; exact hy)
    · rw [h2] at hy
      injection hy with hy
      omega
  · rcases ho2 with e2 | ⟨z, h1, h2⟩
    · exact h.ne y (by rw [← e2]; exact hy) e
    · rw [h2] at hy
      injection hy with hy
      have := (own_in h.en e).2.1
      omega
  · simp [Lib.cell_of_heap hb]
  · simp [World.frozen?, hb]
end

theorem makeHd (w : World) (n : Nat) (h2 : n ≤ 1000000) : ∃ w', (Instr.makeSlice 34 (.int .i64 ((n : Int) + 1)) (.int .i64 ((n : Int) + 1))).run Try.prog w = .ok (.slice (some ⟨w.heap.size, 0, none⟩) (n + 1) (n + 1)) w' ∧ Row hF 2 43 w' w.heap.size (.slice (some ⟨w.heap.size, 0, none⟩) (n + 1) (n + 1)) (List.replicate (n + 1) (0, 0)) ∧ Below w.heap.size w w' := by
  obtain ⟨i0, hi0, hz0, hz1, hz2⟩ := nf_open info_hd
  obtain ⟨w', h, hr, hg⟩ := run_makeSlice_full w w.heap.size 34 43 i0 _ 2 Try.underlying34 hi0 hz0 hz1 .i64 .i64 (n + 1) (by omega) (by rw [hz2]; omega) (by unfold maxLen; omega) (Nat.le_refl _)
  refine ⟨w', h, ?_, ⟨hg.os, hg.tape, hg.output, hg.size, fun b hb => hg.block b hb (by simp)⟩⟩
  unfold Row
  rw [flat_rep hF 2 hF_len]
  simp only [List.length_replicate]
  exact hr

theorem row_put2 {w : World} {B bl n c : Nat} {hs : List Hd} (h : Row hF 2 43 w B (.slice (some ⟨bl, 0, none⟩) n c) hs) (hn : hs.length = n) {k : Nat} (hk : k < n) (x : Hd) : Row hF 2 43 ((w.setCell ⟨bl, k * 2, none⟩ (.int .u32 x.1)).setCell ⟨bl, k * 2 + 1, none⟩ (.int .u32 x.2)) B (.slice (some ⟨bl, 0, none⟩) n c) (hs.set k x) := by
  subst hn
  have r1 := Row.set h hF_len hk (j := 0) (by decide) (u := .int .u32 x.1) (x.1, hs[k].2) rfl
  have hk2 : k < (hs.set k (x.1, hs[k].2)).length := by simpa using hk
  have hl : hs.length = (hs.set k (x.1, hs[k].2)).length := by simp
  rw [hl] at r1
  have r2 := Row.set r1 hF_len hk2 (j := 1) (by decide) (u := .int .u32 x.2) x (by rw [List.getElem_set_self]; rfl)
  rw [List.set_set, ← hl] at r2
  exact r2
theorem row_two {w : World} {B n c : Nat} {ea : Option Addr} {hs : List Hd} (h : Row hF 2 43 w B (.slice ea n c) hs) (hn : hs.length = n) {k : Nat} (hk : k < n) : ∃ (bl : Nat) (x : Hd), ea = some ⟨bl, 0, none⟩ ∧ w.cell? ⟨bl, k * 2, none⟩ = some (.int .u32 x.1) ∧ w.cell? ⟨bl, k * 2 + 1, none⟩ = some (.int .u32 x.2) ∧ ∀ o, w.frozen? ⟨bl, o, none⟩ = false := by
  subst hn
  obtain ⟨g', c', cur, e, _, _, _, hcur, _, hc⟩ := h.at hF_len (by omega)
  injection e with e1 e2 e3
  subst e1
  exact ⟨g', hs[k], rfl, hc k hk 0 _ rfl, hc k hk 1 _ rfl, fun o => by simp [World.frozen?, hcur]⟩

theorem JW.made {bw N : Nat} {pa pb vT vl vw : Value} {L : List Lk} {w w3 : World} {vL vA vE vE' : Value} {aq le le' : List Hd} (h : JW bw N pa pb vT vl vw L w vL vA vE aq le) (hb : Below w.heap.size w w3) (hr : Row hF 2 43 w3 w.heap.size vE' le') (hN : N ≤ w.heap.size) : JW bw N pa pb vT vl vw L (w3.setCell ⟨bw, 7, none⟩ vE') vL vA vE' aq le' ∧ Ch (fun y => y = bw) w (w3.setCell ⟨bw, 7, none⟩ vE') := by
  have c0 := Ch.of_below (Q := fun _ => False) hb
  have h3 := h.ch0 c0
  have hS := Ch.set (Q := fun y => y = bw) w3 rfl 7 vE'
  have hlt := (Array.getElem?_eq_some_iff.1 h.box).1
  refine ⟨⟨?_, h3.lk.ch hS (fun y hy e => h3.bwL (by rw [← e]; exact hy)), h3.ak.ch hS (fun y hy e => h3.bwA (by rw [← e]; exact hy)), own_low (hr.ch hS (fun y hy e => ?_)) hN, fun y hy e => ?_⟩, (c0.mono (Q' := fun y => y = bw) (fun _ _ h => h.elim)).trans hS (fun _ _ h => h)⟩
  · have := heap_set h3.box 7 vE'
    exact this
  · have := (own_in hr hy).1
    omega
  · have h1 := (own_in hr e).1
    have h2 := (own_in h.ak hy).2.1
    omega
theorem link_at {w : World} {B n c : Nat} {La : Option Addr} {L : List Lk} (h : Row lkF 4 51 w B (.slice La n c) L) (hn : L.length = n) {k : Nat} (hk : k < L.length) : ∃ bl, La = some ⟨bl, 0, none⟩ ∧ w.cell? ⟨bl, k * 4, none⟩ = some (.int .u32 L[k].fs) ∧ w.cell? ⟨bl, k * 4 + 1, none⟩ = some (.int .u32 L[k].fg) ∧ w.cell? ⟨bl, k * 4 + 2, none⟩ = some (.int .u32 L[k].ts) ∧ w.cell? ⟨bl, k * 4 + 3, none⟩ = some (.int .u32 L[k].tg) := by
  subst hn
  obtain ⟨g', c', cur, e, _, _, _, hcur, _, hc⟩ := h.at lkF_len (by omega)
  injection e with e1 e2 e3
  subst e1
  exact ⟨g', rfl, hc k hk 0 _ rfl, hc k hk 1 _ rfl, hc k hk 2 _ rfl, hc k hk 3 _ rfl⟩
theorem le_put {le T : List Hd} {n : Nat} (h : le.take n = T) (hl : n < le.length) (x : Hd) : (le.set n x).take (n + 1) = T ++ [x] := by
  rw [List.take_succ_eq_append_getElem (by simpa using hl), List.getElem_set_self, List.take_set_of_le (Nat.le_refl n), h]

set_option maxRecDepth 100000 in
set_option maxHeartbeats 8000000 in
theorem refs_is {bw N : Nat} {pa pb vT vl vw : Value} {L : List Lk} {w : World} {vL vA vE : Value} {A0 A le : List Hd} (h : JW bw N pa pb vT vl vw L w vL vA vE (A0 ++ A) le) (hN : N ≤ w.heap.size) (hL : L.length ≤ 400) (hle : le.length ≤ 1000000) (hA : (A0 ++ A).length ≤ 10000000) (s g : Int) :
    Calls Try.prog 31 #[.pointer (some ⟨bw, 0, none⟩), hv s g] w fun e w' => ∃ v vA' vE' le', e = .returned v ∧ JW bw N pa pb vT vl vw L w' vL vA' vE' (A0 ++ A ++ [(s, g)]) le' ∧ HLo w' (fun y => vE'.ownBlock = some y) v (tlL L (s, g)) ∧ Ch (JO bw vL vA vE) w w' ∧ (vA'.ownBlock = vA.ownBlock ∨ ∃ y, w.heap.size ≤ y ∧ vA'.ownBlock = some y) ∧ (∃ y, w.heap.size ≤ y ∧ vE'.ownBlock = some y) ∧ le'.length ≤ 1000000 := by
  obtain ⟨i0, hi0, hz0, hz1, hz2⟩ := nf_open info_hd
  obtain ⟨w1, hw1⟩ : ∃ w1, w.alloc (.cells #[.int .u32 s, .int .u32 g] 43) = w1 := ⟨_, rfl⟩
  have a1 : Ch (fun _ => False) w w1 := by rw [← hw1]; exact Ch.alloc _ _
  have hn : w1.heap[w.heap.size]? = some (.cells #[.int .u32 s, .int .u32 g] 43 (0, 0)) := by rw [← hw1]; exact heap_new _ _
  have hJ1 := h.ch0 a1
  have hlow : ∀ y, JO bw vL vA vE y → y < w.heap.size := by
    rintro y (e | e | e | e)
    · subst e; exact (Array.getElem?_eq_some_iff.1 h.box).1
    · exact (own_in h.lk e).2.1
    · exact (own_in h.ak e).2.1
    · exact (own_in h.en e).2.1
  have HLOW := hide hlow
  have HN1 := hide hn
  have A1' := hide a1
  have HNN := hide hN
  obtain ⟨ea, ec, rfl, hec, hem⟩ := h.en.form
  obtain ⟨La, Lc, rfl, hLc, hLm⟩ := h.lk.form
  have hLl : L.length ≤ 9223372036854775807 := by omega
  have hlem : le.length ≤ 9223372036854775807 := by omega
  clear h hn a1 hlow hN
  go_enter Try.func31, Try.ntmps31
  go_wp2
  clear hw1
  go_loopw [5] (fun iv wr => ∃ (k : Nat) (le' : List Hd), k ≤ le.length ∧ iv = .int .i64 (k : Int) ∧ le'.length = le.length ∧ Hid (JW bw N pa pb vT vl vw L wr (.slice La L.length Lc) vA (.slice ea le.length ec) (A0 ++ A) le') ∧ Hid (Ch (fun y => (Value.slice ea le.length ec).ownBlock = some y) w1 wr)) (fun iv _ => le.length - (intOf iv).toNat)
  case atStart => exact ⟨0, le, Nat.zero_le _, rfl, rfl, hide hJ1, hide (Ch.refl _ _)⟩
  case round =>
    obtain ⟨k, le', hk, rfl, hll, HJ, HC1⟩ := hrel
    obtain ⟨-, -, y2, -, y4, -, -, y7, y8⟩ := HJ.out.cells
    by_cases hlt : k < le.length
    · have q1 : decide ((k : Int) < (le.length : Int)) = true := decide_eq_true (by omega)
      obtain ⟨bl, zz, rfl, z0, z1, z2⟩ := row_two HJ.out.en hll hlt
      have HX := hide (row_put2 HJ.out.en hll hlt (9, 9))
      have HC9 := hide ((Ch.set (Q := fun y => (Value.slice (some ⟨bl, 0, none⟩) le.length ec).ownBlock = some y) wr (C := bl) rfl (k * 2) (.int .u32 9)).trans (Ch.set (Q := fun y => (Value.slice (some ⟨bl, 0, none⟩) le.length ec).ownBlock = some y) _ (C := bl) rfl (k * 2 + 1) (.int .u32 9)) (fun _ _ h => h))
      have HLL := hide hll
      clear hll
      go_wp2
      go_roundw
      case rel => exact ⟨k + 1, le'.set k (9, 9), by omega, by go_num, by rw [List.length_set]; exact HLL.out, hide (HJ.out.lent HC9.out HX.out), hide (HC1.out.trans HC9.out (fun _ _ h => h))⟩
      case measure => simp [intOf]; omega
    · have q1 : decide ((k : Int) < (le.length : Int)) = false := decide_eq_false (by omega)
      have hlt1 := (Array.getElem?_eq_some_iff.1 HN1.out).1
      have hsz := HC1.out.size
      have HSZ := hide hsz
      have nA : ¬ (Value.slice ea le.length ec).ownBlock = some w.heap.size := fun e => by have := HLOW.out _ (.inr (.inr (.inr e))); omega
      have hnr := HC1.out.box HN1.out nA
      have nB : ¬ (w.heap.size = bw ∨ vA.ownBlock = some w.heap.size) := fun e => by
        rcases e with e | e
        · have := HLOW.out bw (.inl rfl); omega
        · have := HLOW.out _ (.inr (.inr (.inl e))); omega
      have HC5 := hide (fun wq (kq : Ch (fun y => y = bw ∨ vA.ownBlock = some y) wr wq) => show wq.cell? ⟨w.heap.size, 0, none⟩ = some (.int .u32 s) ∧ wq.cell? ⟨w.heap.size, 1, none⟩ = some (.int .u32 g) from by
        have e := Lib.cell_of_heap (kq.box hnr nB)
        exact ⟨by simp [e], by simp [e]⟩)
      have HM1 := hide (show (A0 ++ A).length + 1 ≤ maxLen by unfold maxLen; omega)
      have HM2 := hide (show ((A0 ++ A).length + 1) * 8 ≤ 140737488355328 by omega)
      have HR5 := hide hnr
      have HNB := hide nB
      clear hnr nA nB hsz hlt1 y4
      go_wp2
      refine wp_reg (fun y => y = bw ∨ vA.ownBlock = some y) (R := fun V => Ch (fun _ => False) wr V) (by kernel_rfl) (Ch.drew _) (fun V cV zk => ?_)
      have HJ2 := hide (HJ.out.ch0 cV)
      have CV := hide cV
      clear cV
      have HM3 := hide (show N ≤ (V.alloc (.cells #[.int .u32 s, .int .u32 g] 43)).heap.size by rw [World.size_alloc]; have h1 := HNN.out; have h2 := A1'.out.size; have h3 := HSZ.out; have h4 := CV.out.size; omega)
      have y4 := HJ2.out.cells.2.2.2.2.1
      have HV := hide y4
      have HV2 := hide (fun o => show (V.alloc o).cell? ⟨bw, 4, none⟩ = some vA from ((below1 V o).cell (p := ⟨bw, 4, none⟩) (show bw < V.heap.size from (Array.getElem?_eq_some_iff.1 HJ2.out.box).1)).trans y4)
      clear y4
      apply tk 0 rf0 rfl (by kernel_rfl) (fun _ _ _ h => h) zk
      · intro wq zq
        go_simp
        try rfl
      go_frame
      apply tk 1 rf1 rfl (by kernel_rfl) (fun _ _ _ h => h) zk
      · intro wq zq
        go_simp
        try rfl
      go_frame
      apply tk 2 rf2 rfl (by kernel_rfl) (fun _ _ _ h => h) zk
      · intro wq zq
        go_simp
        try rfl
      go_frame
      apply tk 3 rf3 rfl (by kernel_rfl) (fun _ _ _ h => h) zk
      · intro wq zq
        go_simp
        try rfl
      go_frame
      apply tk 5 rf5 rfl (by kernel_rfl) (fun _ _ _ h => h) zk
      · intro wq zq
        obtain ⟨s0, s1⟩ := HC5.out _ ((CV.out.mono (Q' := fun y => y = bw ∨ vA.ownBlock = some y) (fun _ _ h => h.elim)).trans zq (fun _ _ h => h))
        go_simp
        try rfl
      go_frame
      refine wpAnyH_ready (rs := [4, 6]) (by kernel_rfl) (by simp) ?_
      refine AllReadyH.cons (o := rf4) rfl (fun K hK => ?_) (AllReadyH.cons (o := rf6) rfl (fun K hK => ?_) AllReadyH.nil)
      · have s0 := HV.out
        go_simp
        refine hK.out _ _ ?_ (fun zk => ?_)
        · exact zk
        clear hK K
        try go_frame
        refine rd 6 rf6 rfl (by kernel_rfl) fun K hK => ?_
        go_simp
        refine hK.out _ _ ?_ (fun zk => ?_)
        · exact zk.trans (Ch.alloc (Q := fun y => y = bw ∨ vA.ownBlock = some y) _ _) (fun _ _ h => h)
        clear hK K
        try go_frame
        refine rd 7 rf7 rfl (by kernel_rfl) fun K hK => ?_
        refine step_append_at rfl (.tmp 29) (.tmp 31) 34 rfl N 43 i0 (.agg #[.int .u32 0, .int .u32 0]) 2 8 Try.underlying34 hi0 hz0 hz1 hz2 rfl (by decide) vA (A0 ++ A).length ((A0 ++ A).flatMap hF) rfl (World.ownsRow.alloc (show V.ownsRow N 43 2 vA (A0 ++ A).length ((A0 ++ A).flatMap hF) from HJ2.out.ak) (.cells #[.int .u32 s, .int .u32 g] 43)) ⟨V.heap.size, 0, none⟩ 1 1 (hF (s, g)) rfl rfl (row_new V (hF (s, g)) 43 rfl) (hF_one _) HM1.out HM2.out HM3.out ?_
        intro v6 w6 hr6 hg6 ho6
        have X6 := hide (app_next HJ2.out hr6 hg6 ho6)
        have Z6 := hide (zk.trans (Ch.of_grown (Q := fun y => y = bw ∨ vA.ownBlock = some y) hg6 (fun y e => Or.inr e)) (fun _ _ h => h))
        clear hr6 hg6 ho6
        refine hK.out _ _ ?_ (fun zk => ?_)
        · exact Z6.out
        clear hK K
        try go_frame
        apply tk 8 rf8 rfl (by kernel_rfl) (fun _ _ _ h => h) zk
        · intro wq zq
          go_simp
          try rfl
        go_frame
        apply tk 9 rf9 rfl (by kernel_rfl) (fun _ _ _ h => h) zk
        · intro wq zq
          go_simp
          try rfl
        go_frame
        have y6 := X6.out.2.2.1
        have f6 := X6.out.2.2.2.1
        refine rd 10 rf10 rfl (by kernel_rfl) fun K hK => ?_
        obtain ⟨a6, n6, c6, rfl⟩ := own_form X6.out.1.ak
        go_simp
        refine hK.out _ _ ?_ (fun zk => ?_)
        · exact zk.trans (Ch.set (Q := fun y => y = bw ∨ vA.ownBlock = some y) _ (Or.inl rfl) _ _) (fun _ _ h => h)
        clear hK K
        try go_frame
        refine wpAnyH_done (by kernel_rfl) ?_ _
        have XJ := hide X6.out.1
        have XC := hide ((CV.out.mono (Q' := fun y => y = bw ∨ vA.ownBlock = some y) (fun _ _ h => h.elim)).trans X6.out.2.1 (fun _ _ h => h))
        have XO := hide X6.out.2.2.2.2
        have XB := hide (XC.out.box HR5.out HNB.out)
        clear y6 f6 X6 Z6 zk HV HV2 HC5 HM1 HM2 HM3
        generalize w6.setCell ⟨bw, 4, none⟩ (.slice a6 n6 c6) = Wb at XJ XC XB ⊢
        clear y2 y7 y8
        go_wp2
        go_loopw [6, 7] (fun nv iv w2 => ∃ k : Nat, k ≤ L.length ∧ iv = .int .i64 (k : Int) ∧ nv = .int .i64 ((tlL (L.take k) (s, g)).length : Int) ∧ Hid (Ch (fun _ => False) Wb w2)) (fun _ iv _ => L.length - (intOf iv).toNat)
        case atStart => exact ⟨0, Nat.zero_le _, rfl, rfl, hide (Ch.refl _ _)⟩
        case round =>
          obtain ⟨i, hi, rfl, rfl, HC2⟩ := hrel
          obtain ⟨w2, rfl⟩ : ∃ x, x = wr := ⟨_, rfl⟩
          have hJ := XJ.out.ch0 HC2.out
          obtain ⟨-, -, y2, -, -, -, -, y7, y8⟩ := hJ.cells
          have hxb := Lib.cell_of_heap (HC2.out.box XB.out (fun h => h))
          have x0 : w2.cell? ⟨w.heap.size, 0, none⟩ = some (.int .u32 s) := by simp [hxb]
          have x1 : w2.cell? ⟨w.heap.size, 1, none⟩ = some (.int .u32 g) := by simp [hxb]
          clear hxb
          by_cases hil : i < L.length
          · have q2 : decide ((i : Int) < (L.length : Int)) = true := decide_eq_true (by omega)
            obtain ⟨bL, rfl, z0, z1, -, -⟩ := link_at hJ.lk rfl hil
            have HN := hide (show tlL (L.take (i + 1)) (s, g) = if frm (s, g) L[i] then tlL (L.take i) (s, g) ++ [(L[i].ts, L[i].tg)] else tlL (L.take i) (s, g) by rw [List.take_succ_eq_append_getElem hil, tlL_snoc])
            have hct : (tlL (L.take i) (s, g)).length ≤ 400 := Nat.le_trans (tlL_take _ _ _) (Nat.le_trans (tlL_le _ _) hL)
            generalize L[i] = z at z0 z1 HN
            have HCT := hide hct
            clear hJ
            by_cases es : z.fs = s
            · have qs : (z.fs == s) = true := by simpa using es
              by_cases eg : z.fg = g
              · have qg : (z.fg == g) = true := by simpa using eg
                have HT := hide (show (tlL (L.take (i + 1)) (s, g)).length = (tlL (L.take i) (s, g)).length + 1 by rw [HN.out, if_pos (by simp [frm, es, eg])]; simp)
                clear es eg
                generalize (tlL (L.take i) (s, g)).length = cn at HT hct HCT ⊢
                go_wp2
                go_quiet (fail)
                go_wp2
                go_roundw
                case rel => exact ⟨i + 1, by omega, by go_num, by rw [HT.out]; go_num, hide (HC2.out.trans (Ch.drewN _ _) (fun _ _ h => h))⟩
                case measure => simp [intOf]; omega
              · have qg : (z.fg == g) = false := by simpa using eg
                have HT := hide (show tlL (L.take (i + 1)) (s, g) = tlL (L.take i) (s, g) by rw [HN.out, if_neg (by simp [frm, eg])])
                clear es eg hct
                go_wp2
                go_quiet (fail)
                go_wp2
                go_roundw
                case rel => exact ⟨i + 1, by omega, by go_num, by rw [HT.out], hide (HC2.out.trans (Ch.drewN _ _) (fun _ _ h => h))⟩
                case measure => simp [intOf]; omega
            · have qs : (z.fs == s) = false := by simpa using es
              have HT := hide (show tlL (L.take (i + 1)) (s, g) = tlL (L.take i) (s, g) by rw [HN.out, if_neg (by simp [frm, es])])
              clear es hct
              go_wp2
              go_quiet (fail)
              go_wp2
              go_roundw
              case rel => exact ⟨i + 1, by omega, by go_num, by rw [HT.out], hide (HC2.out.trans (Ch.drewN _ _) (fun _ _ h => h))⟩
              case measure => simp [intOf]; omega
          · have q2 : decide ((i : Int) < (L.length : Int)) = false := decide_eq_false (by omega)
            have ei : L.take i = L := List.take_of_length_le (by omega)
            rw [ei]
            have hct : (tlL L (s, g)).length ≤ 400 := Nat.le_trans (tlL_le _ _) hL
            obtain ⟨w3, HMK, hr3, hb3⟩ := makeHd w2 (tlL L (s, g)).length (by omega)
            have eM : IntKind.i64.wrap (((tlL L (s, g)).length : Int) + 1) = ((tlL L (s, g)).length : Int) + 1 := by rw [IntKind.wrap_i64]; omega
            have hNw2 : N ≤ w2.heap.size := by have h1 := HNN.out; have h2 := A1'.out.size; have h3 := HSZ.out; have h4 := XC.out.size; have h5 := HC2.out.size; omega
            have M3 := hide (hJ.made hb3 hr3 hNw2)
            have b3 := hJ.ch0 (Ch.of_below hb3)
            have t7 := b3.cells.2.2.2.2.2.2.2.1
            have t8 := b3.cells.2.2.2.2.2.2.2.2
            have B3 := hide (Ch.of_below (Q := fun _ => False) hb3)
            have XB3 := hide ((Ch.of_below (Q := fun _ => False) hb3).box (HC2.out.box XB.out (fun h => h)) (fun h => h))
            have hnb : ¬ w.heap.size = bw := fun e => HNB.out (.inl e)
            obtain ⟨Wc, hWc⟩ : ∃ Wc, w3.setCell ⟨bw, 7, none⟩ (.slice (some ⟨w2.heap.size, 0, none⟩) ((tlL L (s, g)).length + 1) ((tlL L (s, g)).length + 1)) = Wc := ⟨_, rfl⟩
            rw [hWc] at M3
            have XBc := hide (show Wc.heap[w.heap.size]? = some (.cells #[.int .u32 s, .int .u32 g] 43 (0, 0)) by rw [← hWc]; exact (Ch.set (Q := fun y => y = bw) w3 rfl 7 _).box XB3.out hnb)
            have HCT := hide hct
            have HSW2 := hide HC2.out
            have HSW := hide (show Wb.heap.size ≤ w2.heap.size from HC2.out.size)
            clear b3 hb3 hr3 hJ y7 x0 x1 hNw2 hnb XB3
            go_wp2
            clear hWc HMK t7 t8 y2 y8
            go_loopw [6, 8] (fun nv iv w4 => ∃ (j : Nat) (le4 : List Hd), j ≤ L.length ∧ iv = .int .i64 (j : Int) ∧ nv = .int .i64 ((tlL (L.take j) (s, g)).length : Int) ∧ Hid (le4.take (tlL (L.take j) (s, g)).length = tlL (L.take j) (s, g) ∧ le4.length = (tlL L (s, g)).length + 1) ∧ Hid (JW bw N pa pb vT vl vw L w4 (.slice La L.length Lc) (.slice a6 n6 c6) (.slice (some ⟨w2.heap.size, 0, none⟩) ((tlL L (s, g)).length + 1) ((tlL L (s, g)).length + 1)) (A0 ++ A ++ [(s, g)]) le4) ∧ Hid (Ch (fun y => y = w2.heap.size) Wc w4)) (fun _ iv _ => L.length - (intOf iv).toNat)
            case atStart => exact ⟨0, _, Nat.zero_le _, rfl, rfl, hide ⟨rfl, by simp⟩, hide M3.out.1, hide (Ch.refl _ _)⟩
            case round =>
              obtain ⟨j, le4, hj, rfl, rfl, HT4, HJ4, HC4⟩ := hrel
              obtain ⟨w4, rfl⟩ : ∃ x, x = wr := ⟨_, rfl⟩
              obtain ⟨-, -, y2, -, -, -, -, y7, y8⟩ := HJ4.out.cells
              have nbl : ¬ w.heap.size = w2.heap.size := fun e => by have := (Array.getElem?_eq_some_iff.1 XB.out).1; have := HSW.out; omega
              have hxb := Lib.cell_of_heap (HC4.out.box XBc.out nbl)
              have x0 : w4.cell? ⟨w.heap.size, 0, none⟩ = some (.int .u32 s) := by simp [hxb]
              have x1 : w4.cell? ⟨w.heap.size, 1, none⟩ = some (.int .u32 g) := by simp [hxb]
              clear hxb nbl
              by_cases hjl : j < L.length
              · have q3 : decide ((j : Int) < (L.length : Int)) = true := decide_eq_true (by omega)
                obtain ⟨bL, rfl, z0, z1, z2, z3⟩ := link_at HJ4.out.lk rfl hjl
                have HN := hide (show tlL (L.take (j + 1)) (s, g) = if frm (s, g) L[j] then tlL (L.take j) (s, g) ++ [(L[j].ts, L[j].tg)] else tlL (L.take j) (s, g) by rw [List.take_succ_eq_append_getElem hjl, tlL_snoc])
                have HLE := hide (tlL_take L (s, g) (j + 1))
                have HQL := hide (fun wq (kq : Ch (fun y => y = w2.heap.size) w4 wq) => show wq.cell? ⟨bL, j * 4 + 2, none⟩ = some (.int .u32 L[j].ts) ∧ wq.cell? ⟨bL, j * 4 + 3, none⟩ = some (.int .u32 L[j].tg) from by
                  obtain ⟨bL', e, -, -, z2, z3⟩ := link_at (HJ4.out.lk.ch kq (fun y hy e => HJ4.out.lkE y hy (by rw [e]; rfl))) rfl hjl
                  cases e
                  exact ⟨z2, z3⟩)
                generalize L[j] = z at z0 z1 z2 z3 HN HQL
                by_cases es : z.fs = s
                · have qs : (z.fs == s) = true := by simpa using es
                  by_cases eg : z.fg = g
                  · have qg : (z.fg == g) = true := by simpa using eg
                    have HT := hide (show tlL (L.take (j + 1)) (s, g) = tlL (L.take j) (s, g) ++ [(z.ts, z.tg)] by rw [HN.out, if_pos (by simp [frm, es, eg])])
                    clear es eg z2 z3
                    have hcl : (tlL (L.take j) (s, g)).length + 1 ≤ (tlL L (s, g)).length := by have := HLE.out; rw [HT.out, List.length_append] at this; exact this
                    generalize hT : tlL (L.take j) (s, g) = T at HT hcl HT4 ⊢
                    have qc : (T.length : Int) < ((tlL L (s, g)).length : Int) + 1 := by omega
                    have HCL := hide hcl
                    clear hcl hT
                    go_wp2
                    go_quiet (fail)
                    go_wp2
                    clear y2 y7 y8 x0 x1 z0 z1
                    refine wp_reg (fun y => y = w2.heap.size) (R := fun V => Ch (fun _ => False) w4 V) (by kernel_rfl) ((Ch.drewN _ _).trans (Ch.drew _) (fun _ _ h => h)) (fun V4 cV4 zk => ?_)
                    have HJV := hide (HJ4.out.ch0 cV4)
                    have CV4 := hide cV4
                    clear cV4
                    have HC := hide (fun wq (kq : Ch (fun y => y = w2.heap.size) V4 wq) => show wq.cell? ⟨bw, 7, none⟩ = some (.slice (some ⟨w2.heap.size, 0, none⟩) ((tlL L (s, g)).length + 1) ((tlL L (s, g)).length + 1)) ∧ wq.cell? ⟨bw, 2, none⟩ = some (.slice (some ⟨bL, 0, none⟩) L.length Lc) ∧ (wq.cell? ⟨bL, j * 4 + 2, none⟩ = some (.int .u32 z.ts) ∧ wq.cell? ⟨bL, j * 4 + 3, none⟩ = some (.int .u32 z.tg)) from by
                      have e := Lib.cell_of_heap (kq.box HJV.out.box (fun e => HJV.out.bwE (by rw [e]; rfl)))
                      exact ⟨by simp [e], by simp [e], HQL.out wq ((CV4.out.mono (Q' := fun y => y = w2.heap.size) (fun _ _ h => h.elim)).trans kq (fun _ _ h => h))⟩)
                    apply tk 0 rg0 rfl (by kernel_rfl) (fun _ _ _ h => h) zk
                    · intro wq zq
                      go_simp
                      try rfl
                    go_frame
                    apply tk 1 rg1 rfl (by kernel_rfl) (fun _ _ _ h => h) zk
                    · intro wq zq
                      go_simp
                      try rfl
                    go_frame
                    apply tk 2 rg2 rfl (by kernel_rfl) (fun _ _ _ h => h) zk
                    · intro wq zq
                      go_simp
                      try rfl
                    go_frame
                    apply tk 3 rg3 rfl (by kernel_rfl) (fun _ _ _ h => h) zk
                    · intro wq zq
                      have s0 := (HC.out _ zq).1
                      go_simp
                      try rfl
                    go_frame
                    apply tk 4 rg4 rfl (by kernel_rfl) (fun _ _ _ h => h) zk
                    · intro wq zq
                      go_simp
                      try rfl
                    go_frame
                    apply tk 5 rg5 rfl (by kernel_rfl) (fun _ _ _ h => h) zk
                    · intro wq zq
                      go_simp
                      try rfl
                    go_frame
                    apply tk 6 rg6 rfl (by kernel_rfl) (fun _ _ _ h => h) zk
                    · intro wq zq
                      go_simp
                      try rfl
                    go_frame
                    apply tk 7 rg7 rfl (by kernel_rfl) (fun _ _ _ h => h) zk
                    · intro wq zq
                      go_simp
                      try rfl
                    go_frame
                    apply tk 8 rg8 rfl (by kernel_rfl) (fun _ _ _ h => h) zk
                    · intro wq zq
                      have s0 := (HC.out _ zq).2.1
                      go_simp
                      try rfl
                    go_frame
                    apply tk 9 rg9 rfl (by kernel_rfl) (fun _ _ _ h => h) zk
                    · intro wq zq
                      go_simp
                      try rfl
                    go_frame
                    apply tk 10 rg10 rfl (by kernel_rfl) (fun _ _ _ h => h) zk
                    · intro wq zq
                      go_simp
                      try rfl
                    go_frame
                    apply tk 11 rg11 rfl (by kernel_rfl) (fun _ _ _ h => h) zk
                    · intro wq zq
                      go_simp
                      try rfl
                    go_frame
                    apply tk 12 rg12 rfl (by kernel_rfl) (fun _ _ _ h => h) zk
                    · intro wq zq
                      obtain ⟨s0, s1⟩ := (HC.out _ zq).2.2
                      go_simp
                      try rfl
                    go_frame
                    apply tk 13 rg13 rfl (by kernel_rfl) (fun _ _ _ h => h) zk
                    · intro wq zq
                      go_simp
                      try rfl
                    go_frame
                    obtain ⟨bl, zz, hbl, s0, s1, s2⟩ := row_two HJV.out.en HT4.out.2 (k := T.length) (by have := HCL.out; omega)
                    cases hbl
                    refine rd 14 rg14 rfl (by kernel_rfl) fun K hK => ?_
                    go_simp
                    refine hK.out _ _ ?_ (fun zk => ?_)
                    · exact (Ch.set (Q := fun y => y = w2.heap.size) _ rfl _ _).trans (Ch.set (Q := fun y => y = w2.heap.size) _ rfl _ _) (fun _ _ h => h)
                    clear hK K
                    try go_frame
                    refine wpAnyH_done (by kernel_rfl) ?_ _
                    have HX := hide (row_put2 HJV.out.en HT4.out.2 (k := T.length) (by have := HCL.out; omega) (z.ts, z.tg))
                    have HCX := hide ((Ch.set (Q := fun y => (Value.slice (some ⟨w2.heap.size, 0, none⟩) ((tlL L (s, g)).length + 1) ((tlL L (s, g)).length + 1)).ownBlock = some y) V4 (C := w2.heap.size) rfl (T.length * 2) (.int .u32 z.ts)).trans (Ch.set (Q := fun y => (Value.slice (some ⟨w2.heap.size, 0, none⟩) ((tlL L (s, g)).length + 1) ((tlL L (s, g)).length + 1)).ownBlock = some y) _ (C := w2.heap.size) rfl (T.length * 2 + 1) (.int .u32 z.tg)) (fun _ _ h => h))
                    have HJX := hide (HJV.out.lent HCX.out HX.out)
                    have HCY := hide ((HC4.out.trans CV4.out (fun _ _ h => h.elim)).trans (HCX.out.mono (Q' := fun y => y = w2.heap.size) (fun y _ e => by injection e with e; exact e.symm)) (fun _ _ h => h))
                    have HTX := hide (show (le4.set T.length (z.ts, z.tg)).take (tlL (L.take (j + 1)) (s, g)).length = tlL (L.take (j + 1)) (s, g) ∧ (le4.set T.length (z.ts, z.tg)).length = (tlL L (s, g)).length + 1 from ⟨by rw [HT.out, List.length_append, List.length_singleton]; exact le_put HT4.out.1 (by rw [HT4.out.2]; have := HCL.out; omega) _, by rw [List.length_set]; exact HT4.out.2⟩)
                    have htl : T.length ≤ 400 := by have h1 := HCL.out; have h2 := HCT.out; omega
                    go_wp2
                    go_roundw
                    case rel => exact ⟨j + 1, _, by omega, by go_num, by rw [HT.out, List.length_append, List.length_singleton]; go_num, HTX, HJX, HCY⟩
                    case measure => simp [intOf]; omega
                  · have qg : (z.fg == g) = false := by simpa using eg
                    have HT := hide (show tlL (L.take (j + 1)) (s, g) = tlL (L.take j) (s, g) by rw [HN.out, if_neg (by simp [frm, eg])])
                    clear es eg z2 z3
                    go_wp2
                    go_quiet (fail)
                    go_wp2
                    go_roundw
                    case rel => exact ⟨j + 1, le4, by omega, by go_num, by rw [HT.out], by rw [HT.out]; exact HT4, hide (HJ4.out.ch0 (Ch.drewN _ _)), hide (HC4.out.trans (Ch.drewN _ _) (fun _ _ h => h))⟩
                    case measure => simp [intOf]; omega
                · have qs : (z.fs == s) = false := by simpa using es
                  have HT := hide (show tlL (L.take (j + 1)) (s, g) = tlL (L.take j) (s, g) by rw [HN.out, if_neg (by simp [frm, es])])
                  clear es z2 z3
                  go_wp2
                  go_quiet (fail)
                  go_wp2
                  go_roundw
                  case rel => exact ⟨j + 1, le4, by omega, by go_num, by rw [HT.out], by rw [HT.out]; exact HT4, hide (HJ4.out.ch0 (Ch.drewN _ _)), hide (HC4.out.trans (Ch.drewN _ _) (fun _ _ h => h))⟩
                  case measure => simp [intOf]; omega
              · have q3 : decide ((j : Int) < (L.length : Int)) = false := decide_eq_false (by omega)
                rw [List.take_of_length_le (by omega : L.length ≤ j)] at HT4 ⊢
                have hcl := HCT.out
                have qd : decide (((tlL L (s, g)).length : Int) ≤ ((tlL L (s, g)).length : Int) + 1) = true := decide_eq_true (by omega)
                go_wp2
                go_ret
                have hz : w.heap.size ≤ w2.heap.size := by have h2 := A1'.out.size; have h3 := HSZ.out; have h4 := XC.out.size; have h5 := HSW.out; omega
                have cw : Ch (JO bw (.slice La L.length Lc) vA (.slice ea le.length ec)) w w4 := by
                  have e1 := (A1'.out.mono (Q' := JO bw (.slice La L.length Lc) vA (.slice ea le.length ec)) (fun _ _ h => h.elim)).trans HC1.out (fun y _ e => Or.inr (Or.inr (Or.inr e)))
                  have e2 := e1.trans XC.out (fun y _ e => e.elim Or.inl (fun e => Or.inr (Or.inr (Or.inl e))))
                  have e3 := (e2.trans HSW2.out (fun _ _ h => h.elim)).trans M3.out.2 (fun y _ e => Or.inl e)
                  exact e3.trans HC4.out (fun y hy e => by omega)
                refine ⟨.slice (some ⟨w2.heap.size, 0, none⟩) (tlL L (s, g)).length ((tlL L (s, g)).length + 1), .slice a6 n6 c6, .slice (some ⟨w2.heap.size, 0, none⟩) ((tlL L (s, g)).length + 1) ((tlL L (s, g)).length + 1), le4, ?_, HJ4.out, ⟨_, _, rfl, by omega, fun h0 => ⟨w2.heap.size, 0, rfl, rfl, (own_in HJ4.out.en rfl).2.1, fun i hi => ?_⟩⟩, cw, XO.out.imp_right (fun ⟨y, h1, h2⟩ => ⟨y, by have h3 := A1'.out.size; have h4 := HSZ.out; have h5 := CV.out.size; omega, h2⟩), ⟨w2.heap.size, hz, rfl⟩, by rw [HT4.out.2]; omega⟩
                · rfl
                · have hil : i < le4.length := by rw [HT4.out.2]; omega
                  obtain ⟨g', c', cur, e, _, _, _, _, _, hc⟩ := HJ4.out.en.at hF_len (by omega)
                  injection e with e1 e2 e3
                  injection e1 with e1
                  injection e1 with e1
                  subst e1
                  have hv : le4[i] = (tlL L (s, g))[i] := by
                    have := HT4.out.1
                    have h2 : (le4.take (tlL L (s, g)).length)[i]? = (tlL L (s, g))[i]? := by rw [this]
                    rw [List.getElem?_take_of_lt hi, List.getElem?_eq_getElem hil, List.getElem?_eq_getElem hi] at h2
                    exact Option.some.inj h2
                  rw [← hv, Nat.zero_add]
                  exact ⟨hc i hil 0 _ rfl, hc i hil 1 _ rfl⟩
      · go_simp
        refine hK.out _ _ ?_ (fun zk => ?_)
        · exact zk.trans (Ch.alloc (Q := fun y => y = bw ∨ vA.ownBlock = some y) _ _) (fun _ _ h => h)
        clear hK K
        try go_frame
        refine rd 4 rf4 rfl (by kernel_rfl) fun K hK => ?_
        have s0 := HV2.out (.cells #[.int .u32 s, .int .u32 g] 43)
        go_simp
        refine hK.out _ _ ?_ (fun zk => ?_)
        · exact zk
        clear hK K
        try go_frame
        refine rd 7 rf7 rfl (by kernel_rfl) fun K hK => ?_
        refine step_append_at rfl (.tmp 29) (.tmp 31) 34 rfl N 43 i0 (.agg #[.int .u32 0, .int .u32 0]) 2 8 Try.underlying34 hi0 hz0 hz1 hz2 rfl (by decide) vA (A0 ++ A).length ((A0 ++ A).flatMap hF) rfl (World.ownsRow.alloc (show V.ownsRow N 43 2 vA (A0 ++ A).length ((A0 ++ A).flatMap hF) from HJ2.out.ak) (.cells #[.int .u32 s, .int .u32 g] 43)) ⟨V.heap.size, 0, none⟩ 1 1 (hF (s, g)) rfl rfl (row_new V (hF (s, g)) 43 rfl) (hF_one _) HM1.out HM2.out HM3.out ?_
        intro v6 w6 hr6 hg6 ho6
        have X6 := hide (app_next HJ2.out hr6 hg6 ho6)
        have Z6 := hide (zk.trans (Ch.of_grown (Q := fun y => y = bw ∨ vA.ownBlock = some y) hg6 (fun y e => Or.inr e)) (fun _ _ h => h))
        clear hr6 hg6 ho6
        refine hK.out _ _ ?_ (fun zk => ?_)
        · exact Z6.out
        clear hK K
        try go_frame
        apply tk 8 rf8 rfl (by kernel_rfl) (fun _ _ _ h => h) zk
        · intro wq zq
          go_simp
          try rfl
        go_frame
        apply tk 9 rf9 rfl (by kernel_rfl) (fun _ _ _ h => h) zk
        · intro wq zq
          go_simp
          try rfl
        go_frame
        have y6 := X6.out.2.2.1
        have f6 := X6.out.2.2.2.1
        refine rd 10 rf10 rfl (by kernel_rfl) fun K hK => ?_
        obtain ⟨a6, n6, c6, rfl⟩ := own_form X6.out.1.ak
        go_simp
        refine hK.out _ _ ?_ (fun zk => ?_)
        · exact zk.trans (Ch.set (Q := fun y => y = bw ∨ vA.ownBlock = some y) _ (Or.inl rfl) _ _) (fun _ _ h => h)
        clear hK K
        try go_frame
        refine wpAnyH_done (by kernel_rfl) ?_ _
        have XJ := hide X6.out.1
        have XC := hide ((CV.out.mono (Q' := fun y => y = bw ∨ vA.ownBlock = some y) (fun _ _ h => h.elim)).trans X6.out.2.1 (fun _ _ h => h))
        have XO := hide X6.out.2.2.2.2
        have XB := hide (XC.out.box HR5.out HNB.out)
        clear y6 f6 X6 Z6 zk HV HV2 HC5 HM1 HM2 HM3
        generalize w6.setCell ⟨bw, 4, none⟩ (.slice a6 n6 c6) = Wb at XJ XC XB ⊢
        clear y2 y7 y8
        go_wp2
        go_loopw [6, 7] (fun nv iv w2 => ∃ k : Nat, k ≤ L.length ∧ iv = .int .i64 (k : Int) ∧ nv = .int .i64 ((tlL (L.take k) (s, g)).length : Int) ∧ Hid (Ch (fun _ => False) Wb w2)) (fun _ iv _ => L.length - (intOf iv).toNat)
        case atStart => exact ⟨0, Nat.zero_le _, rfl, rfl, hide (Ch.refl _ _)⟩
        case round =>
          obtain ⟨i, hi, rfl, rfl, HC2⟩ := hrel
          obtain ⟨w2, rfl⟩ : ∃ x, x = wr := ⟨_, rfl⟩
          have hJ := XJ.out.ch0 HC2.out
          obtain ⟨-, -, y2, -, -, -, -, y7, y8⟩ := hJ.cells
          have hxb := Lib.cell_of_heap (HC2.out.box XB.out (fun h => h))
          have x0 : w2.cell? ⟨w.heap.size, 0, none⟩ = some (.int .u32 s) := by simp [hxb]
          have x1 : w2.cell? ⟨w.heap.size, 1, none⟩ = some (.int .u32 g) := by simp [hxb]
          clear hxb
          by_cases hil : i < L.length
          · have q2 : decide ((i : Int) < (L.length : Int)) = true := decide_eq_true (by omega)
            obtain ⟨bL, rfl, z0, z1, -, -⟩ := link_at hJ.lk rfl hil
            have HN := hide (show tlL (L.take (i + 1)) (s, g) = if frm (s, g) L[i] then tlL (L.take i) (s, g) ++ [(L[i].ts, L[i].tg)] else tlL (L.take i) (s, g) by rw [List.take_succ_eq_append_getElem hil, tlL_snoc])
            have hct : (tlL (L.take i) (s, g)).length ≤ 400 := Nat.le_trans (tlL_take _ _ _) (Nat.le_trans (tlL_le _ _) hL)
            generalize L[i] = z at z0 z1 HN
            have HCT := hide hct
            clear hJ
            by_cases es : z.fs = s
            · have qs : (z.fs == s) = true := by simpa using es
              by_cases eg : z.fg = g
              · have qg : (z.fg == g) = true := by simpa using eg
                have HT := hide (show (tlL (L.take (i + 1)) (s, g)).length = (tlL (L.take i) (s, g)).length + 1 by rw [HN.out, if_pos (by simp [frm, es, eg])]; simp)
                clear es eg
                generalize (tlL (L.take i) (s, g)).length = cn at HT hct HCT ⊢
                go_wp2
                go_quiet (fail)
                go_wp2
                go_roundw
                case rel => exact ⟨i + 1, by omega, by go_num, by rw [HT.out]; go_num, hide (HC2.out.trans (Ch.drewN _ _) (fun _ _ h => h))⟩
                case measure => simp [intOf]; omega
              · have qg : (z.fg == g) = false := by simpa using eg
                have HT := hide (show tlL (L.take (i + 1)) (s, g) = tlL (L.take i) (s, g) by rw [HN.out, if_neg (by simp [frm, eg])])
                clear es eg hct
                go_wp2
                go_quiet (fail)
                go_wp2
                go_roundw
                case rel => exact ⟨i + 1, by omega, by go_num, by rw [HT.out], hide (HC2.out.trans (Ch.drewN _ _) (fun _ _ h => h))⟩
                case measure => simp [intOf]; omega
            · have qs : (z.fs == s) = false := by simpa using es
              have HT := hide (show tlL (L.take (i + 1)) (s, g) = tlL (L.take i) (s, g) by rw [HN.out, if_neg (by simp [frm, es])])
              clear es hct
              go_wp2
              go_quiet (fail)
              go_wp2
              go_roundw
              case rel => exact ⟨i + 1, by omega, by go_num, by rw [HT.out], hide (HC2.out.trans (Ch.drewN _ _) (fun _ _ h => h))⟩
              case measure => simp [intOf]; omega
          · have q2 : decide ((i : Int) < (L.length : Int)) = false := decide_eq_false (by omega)
            have ei : L.take i = L := List.take_of_length_le (by omega)
            rw [ei]
            have hct : (tlL L (s, g)).length ≤ 400 := Nat.le_trans (tlL_le _ _) hL
            obtain ⟨w3, HMK, hr3, hb3⟩ := makeHd w2 (tlL L (s, g)).length (by omega)
            have eM : IntKind.i64.wrap (((tlL L (s, g)).length : Int) + 1) = ((tlL L (s, g)).length : Int) + 1 := by rw [IntKind.wrap_i64]; omega
            have hNw2 : N ≤ w2.heap.size := by have h1 := HNN.out; have h2 := A1'.out.size; have h3 := HSZ.out; have h4 := XC.out.size; have h5 := HC2.out.size; omega
            have M3 := hide (hJ.made hb3 hr3 hNw2)
            have b3 := hJ.ch0 (Ch.of_below hb3)
            have t7 := b3.cells.2.2.2.2.2.2.2.1
            have t8 := b3.cells.2.2.2.2.2.2.2.2
            have B3 := hide (Ch.of_below (Q := fun _ => False) hb3)
            have XB3 := hide ((Ch.of_below (Q := fun _ => False) hb3).box (HC2.out.box XB.out (fun h => h)) (fun h => h))
            have hnb : ¬ w.heap.size = bw := fun e => HNB.out (.inl e)
            obtain ⟨Wc, hWc⟩ : ∃ Wc, w3.setCell ⟨bw, 7, none⟩ (.slice (some ⟨w2.heap.size, 0, none⟩) ((tlL L (s, g)).length + 1) ((tlL L (s, g)).length + 1)) = Wc := ⟨_, rfl⟩
            rw [hWc] at M3
            have XBc := hide (show Wc.heap[w.heap.size]? = some (.cells #[.int .u32 s, .int .u32 g] 43 (0, 0)) by rw [← hWc]; exact (Ch.set (Q := fun y => y = bw) w3 rfl 7 _).box XB3.out hnb)
            have HCT := hide hct
            have HSW2 := hide HC2.out
            have HSW := hide (show Wb.heap.size ≤ w2.heap.size from HC2.out.size)
            clear b3 hb3 hr3 hJ y7 x0 x1 hNw2 hnb XB3
            go_wp2
            clear hWc HMK t7 t8 y2 y8
            go_loopw [6, 8] (fun nv iv w4 => ∃ (j : Nat) (le4 : List Hd), j ≤ L.length ∧ iv = .int .i64 (j : Int) ∧ nv = .int .i64 ((tlL (L.take j) (s, g)).length : Int) ∧ Hid (le4.take (tlL (L.take j) (s, g)).length = tlL (L.take j) (s, g) ∧ le4.length = (tlL L (s, g)).length + 1) ∧ Hid (JW bw N pa pb vT vl vw L w4 (.slice La L.length Lc) (.slice a6 n6 c6) (.slice (some ⟨w2.heap.size, 0, none⟩) ((tlL L (s, g)).length + 1) ((tlL L (s, g)).length + 1)) (A0 ++ A ++ [(s, g)]) le4) ∧ Hid (Ch (fun y => y = w2.heap.size) Wc w4)) (fun _ iv _ => L.length - (intOf iv).toNat)
            case atStart => exact ⟨0, _, Nat.zero_le _, rfl, rfl, hide ⟨rfl, by simp⟩, hide M3.out.1, hide (Ch.refl _ _)⟩
            case round =>
              obtain ⟨j, le4, hj, rfl, rfl, HT4, HJ4, HC4⟩ := hrel
              obtain ⟨w4, rfl⟩ : ∃ x, x = wr := ⟨_, rfl⟩
              obtain ⟨-, -, y2, -, -, -, -, y7, y8⟩ := HJ4.out.cells
              have nbl : ¬ w.heap.size = w2.heap.size := fun e => by have := (Array.getElem?_eq_some_iff.1 XB.out).1; have := HSW.out; omega
              have hxb := Lib.cell_of_heap (HC4.out.box XBc.out nbl)
              have x0 : w4.cell? ⟨w.heap.size, 0, none⟩ = some (.int .u32 s) := by simp [hxb]
              have x1 : w4.cell? ⟨w.heap.size, 1, none⟩ = some (.int .u32 g) := by simp [hxb]
              clear hxb nbl
              by_cases hjl : j < L.length
              · have q3 : decide ((j : Int) < (L.length : Int)) = true := decide_eq_true (by omega)
                obtain ⟨bL, rfl, z0, z1, z2, z3⟩ := link_at HJ4.out.lk rfl hjl
                have HN := hide (show tlL (L.take (j + 1)) (s, g) = if frm (s, g) L[j] then tlL (L.take j) (s, g) ++ [(L[j].ts, L[j].tg)] else tlL (L.take j) (s, g) by rw [List.take_succ_eq_append_getElem hjl, tlL_snoc])
                have HLE := hide (tlL_take L (s, g) (j + 1))
                have HQL := hide (fun wq (kq : Ch (fun y => y = w2.heap.size) w4 wq) => show wq.cell? ⟨bL, j * 4 + 2, none⟩ = some (.int .u32 L[j].ts) ∧ wq.cell? ⟨bL, j * 4 + 3, none⟩ = some (.int .u32 L[j].tg) from by
                  obtain ⟨bL', e, -, -, z2, z3⟩ := link_at (HJ4.out.lk.ch kq (fun y hy e => HJ4.out.lkE y hy (by rw [e]; rfl))) rfl hjl
                  cases e
                  exact ⟨z2, z3⟩)
                generalize L[j] = z at z0 z1 z2 z3 HN HQL
                by_cases es : z.fs = s
                · have qs : (z.fs == s) = true := by simpa using es
                  by_cases eg : z.fg = g
                  · have qg : (z.fg == g) = true := by simpa using eg
                    have HT := hide (show tlL (L.take (j + 1)) (s, g) = tlL (L.take j) (s, g) ++ [(z.ts, z.tg)] by rw [HN.out, if_pos (by simp [frm, es, eg])])
                    clear es eg z2 z3
                    have hcl : (tlL (L.take j) (s, g)).length + 1 ≤ (tlL L (s, g)).length := by have := HLE.out; rw [HT.out, List.length_append] at this; exact this
                    generalize hT : tlL (L.take j) (s, g) = T at HT hcl HT4 ⊢
                    have qc : (T.length : Int) < ((tlL L (s, g)).length : Int) + 1 := by omega
                    have HCL := hide hcl
                    clear hcl hT
                    go_wp2
                    go_quiet (fail)
                    go_wp2
                    clear y2 y7 y8 x0 x1 z0 z1
                    refine wp_reg (fun y => y = w2.heap.size) (R := fun V => Ch (fun _ => False) w4 V) (by kernel_rfl) ((Ch.drewN _ _).trans (Ch.drew _) (fun _ _ h => h)) (fun V4 cV4 zk => ?_)
                    have HJV := hide (HJ4.out.ch0 cV4)
                    have CV4 := hide cV4
                    clear cV4
                    have HC := hide (fun wq (kq : Ch (fun y => y = w2.heap.size) V4 wq) => show wq.cell? ⟨bw, 7, none⟩ = some (.slice (some ⟨w2.heap.size, 0, none⟩) ((tlL L (s, g)).length + 1) ((tlL L (s, g)).length + 1)) ∧ wq.cell? ⟨bw, 2, none⟩ = some (.slice (some ⟨bL, 0, none⟩) L.length Lc) ∧ (wq.cell? ⟨bL, j * 4 + 2, none⟩ = some (.int .u32 z.ts) ∧ wq.cell? ⟨bL, j * 4 + 3, none⟩ = some (.int .u32 z.tg)) from by
                      have e := Lib.cell_of_heap (kq.box HJV.out.box (fun e => HJV.out.bwE (by rw [e]; rfl)))
                      exact ⟨by simp [e], by simp [e], HQL.out wq ((CV4.out.mono (Q' := fun y => y = w2.heap.size) (fun _ _ h => h.elim)).trans kq (fun _ _ h => h))⟩)
                    apply tk 0 rg0 rfl (by kernel_rfl) (fun _ _ _ h => h) zk
                    · intro wq zq
                      go_simp
                      try rfl
                    go_frame
                    apply tk 1 rg1 rfl (by kernel_rfl) (fun _ _ _ h => h) zk
                    · intro wq zq
                      go_simp
                      try rfl
                    go_frame
                    apply tk 2 rg2 rfl (by kernel_rfl) (fun _ _ _ h => h) zk
                    · intro wq zq
                      go_simp
                      try rfl
                    go_frame
                    apply tk 3 rg3 rfl (by kernel_rfl) (fun _ _ _ h => h) zk
                    · intro wq zq
                      have s0 := (HC.out _ zq).1
                      go_simp
                      try rfl
                    go_frame
                    apply tk 4 rg4 rfl (by kernel_rfl) (fun _ _ _ h => h) zk
                    · intro wq zq
                      go_simp
                      try rfl
                    go_frame
                    apply tk 5 rg5 rfl (by kernel_rfl) (fun _ _ _ h => h) zk
                    · intro wq zq
                      go_simp
                      try rfl
                    go_frame
                    apply tk 6 rg6 rfl (by kernel_rfl) (fun _ _ _ h => h) zk
                    · intro wq zq
                      go_simp
                      try rfl
                    go_frame
                    apply tk 7 rg7 rfl (by kernel_rfl) (fun _ _ _ h => h) zk
                    · intro wq zq
                      go_simp
                      try rfl
                    go_frame
                    apply tk 8 rg8 rfl (by kernel_rfl) (fun _ _ _ h => h) zk
                    · intro wq zq
                      have s0 := (HC.out _ zq).2.1
                      go_simp
                      try rfl
                    go_frame
                    apply tk 9 rg9 rfl (by kernel_rfl) (fun _ _ _ h => h) zk
                    · intro wq zq
                      go_simp
                      try rfl
                    go_frame
                    apply tk 10 rg10 rfl (by kernel_rfl) (fun _ _ _ h => h) zk
                    · intro wq zq
                      go_simp
                      try rfl
                    go_frame
                    apply tk 11 rg11 rfl (by kernel_rfl) (fun _ _ _ h => h) zk
                    · intro wq zq
                      go_simp
                      try rfl
                    go_frame
                    apply tk 12 rg12 rfl (by kernel_rfl) (fun _ _ _ h => h) zk
                    · intro wq zq
                      obtain ⟨s0, s1⟩ := (HC.out _ zq).2.2
                      go_simp
                      try rfl
                    go_frame
                    apply tk 13 rg13 rfl (by kernel_rfl) (fun _ _ _ h => h) zk
                    · intro wq zq
                      go_simp
                      try rfl
                    go_frame
                    obtain ⟨bl, zz, hbl, s0, s1, s2⟩ := row_two HJV.out.en HT4.out.2 (k := T.length) (by have := HCL.out; omega)
                    cases hbl
                    refine rd 14 rg14 rfl (by kernel_rfl) fun K hK => ?_
                    go_simp
                    refine hK.out _ _ ?_ (fun zk => ?_)
                    · exact (Ch.set (Q := fun y => y = w2.heap.size) _ rfl _ _).trans (Ch.set (Q := fun y => y = w2.heap.size) _ rfl _ _) (fun _ _ h => h)
                    clear hK K
                    try go_frame
                    refine wpAnyH_done (by kernel_rfl) ?_ _
                    have HX := hide (row_put2 HJV.out.en HT4.out.2 (k := T.length) (by have := HCL.out; omega) (z.ts, z.tg))
                    have HCX := hide ((Ch.set (Q := fun y => (Value.slice (some ⟨w2.heap.size, 0, none⟩) ((tlL L (s, g)).length + 1) ((tlL L (s, g)).length + 1)).ownBlock = some y) V4 (C := w2.heap.size) rfl (T.length * 2) (.int .u32 z.ts)).trans (Ch.set (Q := fun y => (Value.slice (some ⟨w2.heap.size, 0, none⟩) ((tlL L (s, g)).length + 1) ((tlL L (s, g)).length + 1)).ownBlock = some y) _ (C := w2.heap.size) rfl (T.length * 2 + 1) (.int .u32 z.tg)) (fun _ _ h => h))
                    have HJX := hide (HJV.out.lent HCX.out HX.out)
                    have HCY := hide ((HC4.out.trans CV4.out (fun _ _ h => h.elim)).trans (HCX.out.mono (Q' := fun y => y = w2.heap.size) (fun y _ e => by injection e with e; exact e.symm)) (fun _ _ h => h))
                    have HTX := hide (show (le4.set T.length (z.ts, z.tg)).take (tlL (L.take (j + 1)) (s, g)).length = tlL (L.take (j + 1)) (s, g) ∧ (le4.set T.length (z.ts, z.tg)).length = (tlL L (s, g)).length + 1 from ⟨by rw [HT.out, List.length_append, List.length_singleton]; exact le_put HT4.out.1 (by rw [HT4.out.2]; have := HCL.out; omega) _, by rw [List.length_set]; exact HT4.out.2⟩)
                    have htl : T.length ≤ 400 := by have h1 := HCL.out; have h2 := HCT.out; omega
                    go_wp2
                    go_roundw
                    case rel => exact ⟨j + 1, _, by omega, by go_num, by rw [HT.out, List.length_append, List.length_singleton]; go_num, HTX, HJX, HCY⟩
                    case measure => simp [intOf]; omega
                  · have qg : (z.fg == g) = false := by simpa using eg
                    have HT := hide (show tlL (L.take (j + 1)) (s, g) = tlL (L.take j) (s, g) by rw [HN.out, if_neg (by simp [frm, eg])])
                    clear es eg z2 z3
                    go_wp2
                    go_quiet (fail)
                    go_wp2
                    go_roundw
                    case rel => exact ⟨j + 1, le4, by omega, by go_num, by rw [HT.out], by rw [HT.out]; exact HT4, hide (HJ4.out.ch0 (Ch.drewN _ _)), hide (HC4.out.trans (Ch.drewN _ _) (fun _ _ h => h))⟩
                    case measure => simp [intOf]; omega
                · have qs : (z.fs == s) = false := by simpa using es
                  have HT := hide (show tlL (L.take (j + 1)) (s, g) = tlL (L.take j) (s, g) by rw [HN.out, if_neg (by simp [frm, es])])
                  clear es z2 z3
                  go_wp2
                  go_quiet (fail)
                  go_wp2
                  go_roundw
                  case rel => exact ⟨j + 1, le4, by omega, by go_num, by rw [HT.out], by rw [HT.out]; exact HT4, hide (HJ4.out.ch0 (Ch.drewN _ _)), hide (HC4.out.trans (Ch.drewN _ _) (fun _ _ h => h))⟩
                  case measure => simp [intOf]; omega
              · have q3 : decide ((j : Int) < (L.length : Int)) = false := decide_eq_false (by omega)
                rw [List.take_of_length_le (by omega : L.length ≤ j)] at HT4 ⊢
                have hcl := HCT.out
                have qd : decide (((tlL L (s, g)).length : Int) ≤ ((tlL L (s, g)).length : Int) + 1) = true := decide_eq_true (by omega)
                go_wp2
                go_ret
                have hz : w.heap.size ≤ w2.heap.size := by have h2 := A1'.out.size; have h3 := HSZ.out; have h4 := XC.out.size; have h5 := HSW.out; omega
                have cw : Ch (JO bw (.slice La L.length Lc) vA (.slice ea le.length ec)) w w4 := by
                  have e1 := (A1'.out.mono (Q' := JO bw (.slice La L.length Lc) vA (.slice ea le.length ec)) (fun _ _ h => h.elim)).trans HC1.out (fun y _ e => Or.inr (Or.inr (Or.inr e)))
                  have e2 := e1.trans XC.out (fun y _ e => e.elim Or.inl (fun e => Or.inr (Or.inr (Or.inl e))))
                  have e3 := (e2.trans HSW2.out (fun _ _ h => h.elim)).trans M3.out.2 (fun y _ e => Or.inl e)
                  exact e3.trans HC4.out (fun y hy e => by omega)
                refine ⟨.slice (some ⟨w2.heap.size, 0, none⟩) (tlL L (s, g)).length ((tlL L (s, g)).length + 1), .slice a6 n6 c6, .slice (some ⟨w2.heap.size, 0, none⟩) ((tlL L (s, g)).length + 1) ((tlL L (s, g)).length + 1), le4, ?_, HJ4.out, ⟨_, _, rfl, by omega, fun h0 => ⟨w2.heap.size, 0, rfl, rfl, (own_in HJ4.out.en rfl).2.1, fun i hi => ?_⟩⟩, cw, XO.out.imp_right (fun ⟨y, h1, h2⟩ => ⟨y, by have h3 := A1'.out.size; have h4 := HSZ.out; have h5 := CV.out.size; omega, h2⟩), ⟨w2.heap.size, hz, rfl⟩, by rw [HT4.out.2]; omega⟩
                · rfl
                · have hil : i < le4.length := by rw [HT4.out.2]; omega
                  obtain ⟨g', c', cur, e, _, _, _, _, _, hc⟩ := HJ4.out.en.at hF_len (by omega)
                  injection e with e1 e2 e3
                  injection e1 with e1
                  injection e1 with e1
                  subst e1
                  have hv : le4[i] = (tlL L (s, g))[i] := by
                    have := HT4.out.1
                    have h2 : (le4.take (tlL L (s, g)).length)[i]? = (tlL L (s, g))[i]? := by rw [this]
                    rw [List.getElem?_take_of_lt hi, List.getElem?_eq_getElem hil, List.getElem?_eq_getElem hi] at h2
                    exact Option.some.inj h2
                  rw [← hv, Nat.zero_add]
                  exact ⟨hc i hil 0 _ rfl, hc i hil 1 _ rfl⟩

end Go.Proofs.Ytcogiklnegpfiaa
