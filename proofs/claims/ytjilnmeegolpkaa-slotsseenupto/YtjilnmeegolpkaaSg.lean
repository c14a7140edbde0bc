/- Layer 10: the document's Take. -/
import Derived.Test.YtjilnmeegolpkaaSf
import Derived.Deep.RegionLawGrows
namespace Go.Proofs.Ytjilnmeegolpkaa
open Go.RowKit

variable {w : World} {B b : Nat} {v : Value} {l : List Th} {m : Int}

theorem usd_snoc (l : List Th) (t : Th) (s : Int) : usd (l ++ [t]) s = (usd l s || (decide (t.s = s) && !t.d)) := by simp [usd]
theorem gens_snoc (l : List Th) (t : Th) (s : Int) : gens (l ++ [t]) s = gens l s + if t.s = s then 1 else 0 := by
  unfold gens
  rw [List.countP_append]
  by_cases h : t.s = s <;> simp [h]

/-- the slots are such that they fit -/
def Fit (l : List Th) : Prop := ∀ t ∈ l, 0 ≤ t.s ∧ t.s < 4294967296

/-- append, as one step of a region that draws its order: where the new slice lies -/
theorem step_append_at {P : Program} {ops : Array Oper} {o : Oper} {a : Act} {w : World} {K : Act → World → Prop} {Q : Exit → Act → World → Prop} {E : Prop}
    (hg : o.guard = none) (s x : Operand) (t : TypeId) (hop : o.op = Op.call { callee := Callee.builtin Builtin.append, args := #[s, x], argTypes := #[t, t] })
    (B : Nat) (e : TypeId) (i : TypeInfo) (z : Value) (size bytes : Nat) (h1 : P.underlying t = some (.slice e)) (h2 : P.info? e = some i) (h3 : i.zero = some z) (h4 : i.size = size) (h5 : i.bytes = bytes) (h6 : z.cells.size = size) (h7 : 0 < size)
    (v : Value) (n : Nat) (xs : List Value) (hs : a.eval s = v) (hown : w.ownsRow B e size v n xs)
    (ad : Addr) (m c : Nat) (news : List Value) (hx : a.eval x = .slice (some ad) m c) (hn : news.length = m * size) (hc : ∀ j u, news[j]? = some u → w.cell? (ad.add j) = some u) (h1c : ∀ u ∈ news, u.oneCell' = true)
    (b1 : n + m ≤ maxLen) (b2 : (n + m) * bytes ≤ 140737488355328) (hB : B ≤ w.heap.size)
    (hK : ∀ v' w', w'.ownsRow B e size v' (n + m) (xs ++ news) → w.grownBy w' v.ownBlock → (v'.ownBlock = v.ownBlock ∨ v'.ownBlock = some w.heap.size) → K (a.put o.dst v') w') :
    if Region.wanted o (yielded ops a.tmps) = true then Oper.wp P o a w K Q else E := by
  have hw : Region.wanted o (yielded ops a.tmps) = true := by simp [Region.wanted, hg]
  rw [if_pos hw]
  obtain ⟨v', w', hrun, r1, r2, _, r3⟩ := run_append_own_at (P := P) w B t o.type e i z size bytes h1 h2 h3 h4 h5 h6 h7 v n xs hown ad m c news hn hc h1c b1 b2 hB
  unfold Oper.wp
  simp [execOp, hop, resolve, invoke, builtin, hs, hx, hrun, Result.andThen]
  exact hK v' w' r1 r2 r3

theorem res_take (tm : Array Value) (A : Nat) (Z : World) (s g : Int) (q : Bool) (h2 : tm[4]?.getD undef = .pointer (some ⟨A, 0, none⟩)) (h3 : tm[5]?.getD undef = .bool q) (c0 : Z.cell? ⟨A, 0, none⟩ = some (.int .u32 s)) (c1 : Z.cell? ⟨A, 1, none⟩ = some (.int .u32 g)) :
    (results Try.f32 tm).run Try.prog Z = .ok (.tuple #[hv s g, .bool q]) Z := by
  simp [results, Try.results32, go_sem, h2, h3, c0, c1]

theorem emp_step {l : List Th} {M j : Nat} (hj : j < M) (h : emp l M 1 = emp l (M - j) (j + 1)) : emp l M 1 = if usd l (j + 1) then emp l (M - (j + 1)) (((j + 1 : Nat) : Int) + 1) else some ((j : Int) + 1) := by
  rw [h, show M - j = (M - (j + 1)) + 1 by omega]
  conv => lhs; unfold emp
  simp

set_option maxRecDepth 100000 in
set_option maxHeartbeats 4000000 in
theorem rtake_cps (h : DT w B b v l m) (hl : l.length ≤ 100000) (hF : Fit l) (x : Int) {M : Nat} (hM : m = M) (hM2 : M ≤ 500) (hBw : B ≤ w.heap.size) (Q : Ending → World → Prop)
    (hno : Hid (emp l M 1 = none → ∀ w', Below w.heap.size w w' → Q (.returned (.tuple #[hv 0 0, .bool false])) w'))
    (hyes : Hid (∀ s : Int, emp l M 1 = some s → ∀ w' v', DT w' B b v' (tkn l s x) m → Ch (fun y => y = b ∨ v.ownBlock = some y) w w' → (∀ g, v'.ownBlock = some g → v.ownBlock = some g ∨ w.heap.size ≤ g) → Q (.returned (.tuple #[hv s (gens l s + 1), .bool true])) w')) :
    Calls Try.prog 32 #[.pointer (some ⟨b, 0, none⟩), .int .i64 x] w Q := by
  subst hM
  obtain ⟨a, c, rfl, hc, hm⟩ := h.row.form
  go_enter Try.func32, Try.ntmps32
  go_wp2
  obtain ⟨w1, hw1⟩ : ∃ w1, w.alloc (.cells #[.int .u32 0, .int .u32 0] 39) = w1 := ⟨_, rfl⟩
  have hB1 : Below w.heap.size w w1 := by rw [← hw1]; exact below1 _ _
  have hs1 : w1.heap.size = w.heap.size + 1 := by rw [← hw1]; simp
  have h1 := h.below hB1
  have hn : w1.heap[w.heap.size]? = some (.cells #[.int .u32 0, .int .u32 0] 39) := by rw [← hw1]; exact heap_new _ _
  obtain ⟨hx0, hx1⟩ := h1.cells
  have hy0 : w1.cell? ⟨w.heap.size, 0, none⟩ = some (.int .u32 0) := by simp [Lib.cell_of_heap hn]
  have hy1 : w1.cell? ⟨w.heap.size, 1, none⟩ = some (.int .u32 0) := by simp [Lib.cell_of_heap hn]
  have hf0 : ∀ o, w1.frozen? ⟨w.heap.size, o, none⟩ = false := by simp [World.frozen?, hn]
  have HB1 := hide hB1
  have HH := hide h
  have HN0 := hide hn
  rw [hw1]
  clear hB1 h hn
  go_loopw [6] (fun s wr => ∃ j : Nat, j ≤ M ∧ s = .int .i64 ((j + 1 : Nat) : Int) ∧ Hid (emp l M 1 = emp l (M - j) (j + 1)) ∧ wr = w1) (fun s _ => M + 1 - (intOf s).toNat)
  case atStart => exact ⟨0, Nat.zero_le _, rfl, hide rfl, rfl⟩
  case round =>
    obtain ⟨j, hj, rfl, HE, rfl⟩ := hrel
    obtain ⟨w1, rfl⟩ : ∃ w1, w1 = wr := ⟨_, rfl⟩
    by_cases hlt : j < M
    · have HE2 := hide (emp_step hlt (unhide HE))
      go_wp2
      go_loopw [7, 8, 9] (fun p q i wr => ∃ k : Nat, k ≤ l.length ∧ i = .int .i64 k ∧ p = .int .i64 ((gens (l.take k) (j + 1) + 1 : Nat) : Int) ∧ q = .bool (usd (l.take k) (j + 1)) ∧ wr = w1) (fun _ _ i _ => l.length - (intOf i).toNat)
      case atStart => exact ⟨0, Nat.zero_le _, rfl, by simp [gens], by simp [usd], rfl⟩
      case round =>
        obtain ⟨k, hk, rfl, rfl, rfl, rfl⟩ := hrel
        obtain ⟨w1, rfl⟩ : ∃ w1, w1 = wr := ⟨_, rfl⟩
        by_cases hkl : k < l.length
        · obtain ⟨g', c', cur, hv, hc', hBg, hg, hgc, hcs, hcell⟩ := h1.row.at thF_len (by omega)
          cases hv
          have y0 : w1.cell? ⟨g', k * 4, none⟩ = _ := hcell k hkl 0 (.int .u32 l[k].s) rfl
          have y3 := hcell k hkl 3 (.bool l[k].d) rfl
          have hfit := hF l[k] (List.getElem_mem _)
          have hle : gens (l.take k) (j + 1) ≤ k := Nat.le_trans (gens_le _ _) (List.length_take_le _ _)
          have hn1 := gens_snoc (l.take k) l[k] (j + 1)
          have hn2 := usd_snoc (l.take k) l[k] (j + 1)
          rw [← List.take_succ_eq_append_getElem hkl] at hn1 hn2
          generalize l[k] = z at hn1 hn2 y0 y3 hfit
          obtain ⟨hf1, hf2⟩ := hfit
          have HN1 := hide hn1
          have HN2 := hide hn2
          clear hn1 hn2 hcell
          by_cases es : z.s = (j : Int) + 1
          · rw [es] at y0
            cases hu : usd (l.take k) (j + 1)
            · cases hd : z.d
              all_goals
                rw [hd] at y3
                go_wp2
                go_roundw
                case rel => exact ⟨k + 1, by omega, by go_num, by rw [unhide HN1, if_pos es]; go_num, by rw [unhide HN2, hu, hd, es]; simp, trivial⟩
                case measure => simp [intOf]; omega
            · go_wp2
              go_roundw
              case rel => exact ⟨k + 1, by omega, by go_num, by rw [unhide HN1, if_pos es]; go_num, by rw [unhide HN2, hu]; simp, trivial⟩
              case measure => simp [intOf]; omega
          · have q : (z.s == (j : Int) + 1) = false := by simpa using es
            have HS := hide es
            clear es
            go_wp2
            go_roundw
            case rel => exact ⟨k + 1, by omega, by go_num, by rw [unhide HN1, if_neg (unhide HS)], by rw [unhide HN2, decide_eq_false (unhide HS)]; simp, trivial⟩
            case measure => simp [intOf]; omega
        · have ek : l.take k = l := List.take_of_length_le (by omega)
          rw [ek]
          have hgl := gens_le l (j + 1)
          cases hu : usd l (j + 1)
          · have HE3 := hide (show emp l M 1 = some ((j : Int) + 1) by rw [unhide HE2, hu]; rfl)
            have w32 : IntKind.u32.wrap (((j + 1 : Nat)) : Int) = (j : Int) + 1 := by rw [IntKind.wrap_u32]; omega
            have g32 : IntKind.u32.wrap ((gens l (j + 1) + 1 : Nat) : Int) = (gens l (j + 1) : Int) + 1 := by rw [IntKind.wrap_u32]; omega
            obtain ⟨i0, hi0, hz0, hz1, hz2⟩ := nf_open nfTh
            go_wp2
            have hBx : w1.heap.size = w.heap.size + 1 := hs1
            obtain ⟨w2, hw2⟩ : ∃ w2, w1.alloc (.cells #[.int .u32 ((j : Int) + 1), .int .u32 ((gens l (j + 1) : Int) + 1)] 39) = w2 := ⟨_, rfl⟩
            have hB2 : Below w1.heap.size w1 w2 := by rw [← hw2]; exact below1 _ _
            have hn2 : w2.heap[w.heap.size + 1]? = some (.cells #[.int .u32 ((j : Int) + 1), .int .u32 ((gens l (j + 1) : Int) + 1)] 39) := by rw [← hw2, ← hBx]; exact heap_new _ _
            have hs2 : w2.heap.size = w.heap.size + 2 := by rw [← hw2]; simp [hBx]
            have HD2 := hide (h1.below hB2)
            have HR := hide (show Row thF 4 84 w2.drew B (.slice a l.length c) l from (unhide HD2).row.ch (Ch.drew (Q := fun _ => False) w2) (fun _ _ h => h))
            have HC2 := hide ((Ch.of_below (unhide HB1)).trans (Ch.of_below hB2) (Q := fun y => y = b ∨ (Value.slice a l.length c).ownBlock = some y) (fun _ _ h => h))
            have HBB2 := hide hB2
            have HLT := hide (show w.heap.size < w1.heap.size by omega)
            rw [hw2]
            clear hw2 hx0 hx1 hy0 hy1 hf0 w32 g32 h1 hB2 hm hgl
            obtain ⟨d0, d1⟩ := (unhide HD2).cells
            have d2 : w2.cell? ⟨w.heap.size + 1, 0, none⟩ = some (.int .u32 ((j : Int) + 1)) := by simp [Lib.cell_of_heap hn2]
            have d3 : w2.cell? ⟨w.heap.size + 1, 1, none⟩ = some (.int .u32 ((gens l (j + 1) : Int) + 1)) := by simp [Lib.cell_of_heap hn2]
            generalize hG : (gens l (j + 1) : Int) + 1 = G at *
            generalize hS : (j : Int) + 1 = S at *
            have HM1 := hide (show l.length + 1 ≤ maxLen by unfold maxLen; omega)
            have HM2 := hide (show (l.length + 1) * 24 ≤ 140737488355328 by omega)
            have HM3 := hide (show B ≤ (w2.drew.alloc (.cells #[.int .u32 S, .int .u32 G, .int .i64 x, .bool false] 84)).heap.size by simp; show B ≤ w2.heap.size + 1; omega)
            have HOW := hide (World.ownsRow.alloc (unhide HR) (.cells #[.int .u32 S, .int .u32 G, .int .i64 x, .bool false] 84))
            have HNW := hide (row_new w2.drew [.int .u32 S, .int .u32 G, .int .i64 x, .bool false] 84 rfl)
            have HN1 := hide (thF_one ⟨S, G, x, false⟩)
            have hge2 : w.heap.size + 1 < w2.heap.size := by omega
            have HS2 := hide hs2
            clear hs2 hBx hs1
            have HNE := hide (unhide HD2).ne
            have HX1 := hide (show (w2.drew.alloc (.cells #[.int .u32 S, .int .u32 G, .int .i64 x, .bool false] 84)).heap[b]? = some (.cells #[.slice a l.length c, .int .i64 (M : Int)] 45 (0, 0)) from (below1 w2.drew _).block b (unhide HD2).lt |>.trans (unhide HD2).box)
            have HX2 := hide (show (w2.drew.alloc (.cells #[.int .u32 S, .int .u32 G, .int .i64 x, .bool false] 84)).heap[w.heap.size + 1]? = some (.cells #[.int .u32 S, .int .u32 G] 39 (0, 0)) from (below1 w2.drew _).block (w.heap.size + 1) hge2 |>.trans hn2)
            have HX3 := hide (show (w2.drew.alloc (.cells #[.int .u32 S, .int .u32 G, .int .i64 x, .bool false] 84)).heap.size = w2.heap.size + 1 by simp)
            have HX0 := hide (show (w2.drew.alloc (.cells #[.int .u32 S, .int .u32 G, .int .i64 x, .bool false] 84)).heap[w.heap.size]? = some (.cells #[.int .u32 0, .int .u32 0] 39 (0, 0)) from (below1 w2.drew _).block w.heap.size (Nat.lt_of_succ_lt hge2) |>.trans ((unhide HBB2).block w.heap.size (unhide HLT) |>.trans (unhide HN0)))
            clear hn2
            have c4a : (w2.alloc (.cells #[.int .u32 S, .int .u32 G, .int .i64 x, .bool false] 84)).cell? ⟨b, 0, none⟩ = some (.slice a l.length c) := ((unhide HD2).below (below1 w2 _)).cells.1
            go_region_law (
              refine step_append_at rfl (.tmp 65) (.tmp 69) 43 rfl B 84 i0 (.agg #[.int .u32 0, .int .u32 0, .int .i64 0, .bool false]) 4 24 Try.underlying43 hi0 hz0 hz1 hz2 rfl (by decide) (.slice a l.length c) l.length (l.flatMap thF) rfl (unhide HOW) ⟨w2.drew.heap.size, 0, none⟩ 1 1 (thF ⟨S, G, x, false⟩) rfl rfl (unhide HNW) (unhide HN1) (unhide HM1) (unhide HM2) (unhide HM3) ?_
              intro v' w5 hv hgrow hat
              obtain ⟨a', n', c', rfl⟩ := own_form hv
              have HC5 := hide (Ch.of_grown (Q := fun y => (Value.slice a l.length c).ownBlock = some y) hgrow (fun _ e => e))
              have HY1 := hide ((unhide HC5).box (unhide HX1) (unhide HNE))
              have HY2 := hide ((unhide HC5).box (unhide HX2) (own_box (unhide HOW) (unhide HX2) (by decide)))
              have HY0 := hide ((unhide HC5).box (unhide HX0) (own_box (unhide HOW) (unhide HX0) (by decide)))
              have HV := hide hv
              have HAT := hide hat
              have e0 : w5.cell? ⟨b, 0, none⟩ = some (.slice a l.length c) := (by simp [Lib.cell_of_heap (unhide HY1)])
              have e1 : w5.frozen? ⟨b, 0, none⟩ = false := (by simp [World.frozen?, unhide HY1])
              clear hv hgrow hat)
            all_goals
              have HCw5 := hide (((unhide HC2).trans ((Ch.drew w2).trans (Ch.alloc w2.drew (.cells #[.int .u32 S, .int .u32 G, .int .i64 x, .bool false] 84)) (Q := fun y => y = b ∨ (Value.slice a l.length c).ownBlock = some y) (fun _ _ h => h)) (fun _ _ h => h)).trans (unhide HC5) (fun _ _ h => Or.inr h))
              have hbn : b < w.heap.size := (unhide HH).lt
              have Hb6 := hide (heap_set (unhide HY1) 0 (.slice a' n' c'))
              have Hh6 := hide ((Ch.set (Q := fun y => y = b) w5 rfl 0 (.slice a' n' c')).box (unhide HY2) (by omega))
              have H06 := hide ((Ch.set (Q := fun y => y = b) w5 rfl 0 (.slice a' n' c')).box (unhide HY0) (by omega))
              have HR6 := hide ((Row.snoc (f := thF) (x := ⟨S, G, x, false⟩) (unhide HV)).ch (Ch.set (Q := fun y => y = b) w5 rfl 0 (.slice a' n' c')) (fun g hg e => own_box (unhide HV) (unhide HY1) (by decide) (e ▸ hg)))
              have HC6 := hide ((unhide HCw5).trans (Ch.set (Q := fun y => y = b) w5 rfl 0 (.slice a' n' c')) (fun _ _ h => Or.inl h))
              clear e0 e1
              generalize w5.setCell ⟨b, 0, none⟩ (.slice a' n' c') = w6 at *
              have f0 : w6.cell? ⟨w.heap.size + 1, 0, none⟩ = some (.int .u32 S) := by simp [Lib.cell_of_heap (unhide Hh6)]
              have f1 : w6.cell? ⟨w.heap.size + 1, 1, none⟩ = some (.int .u32 G) := by simp [Lib.cell_of_heap (unhide Hh6)]
              have f2 : w6.cell? ⟨w.heap.size, 0, none⟩ = some (.int .u32 0) := by simp [Lib.cell_of_heap (unhide H06)]
              have f3 : w6.cell? ⟨w.heap.size, 1, none⟩ = some (.int .u32 0) := by simp [Lib.cell_of_heap (unhide H06)]
              have f4 : ∀ o, w6.frozen? ⟨w.heap.size, o, none⟩ = false := by simp [World.frozen?, unhide H06]
              go_wp2
              refine bodyPost_ret (v := .tuple #[hv S G, .bool true]) (res_take _ w.heap.size _ S G true rfl rfl ?_ ?_) rfl ?_
              · simp [go_sem, f2]
              · simp [go_sem, f3]
              · have HC7 := (Ch.set (Q := fun y => y = w.heap.size) w6 rfl 0 (.int .u32 S)).trans (Ch.set (Q := fun y => y = w.heap.size) (w6.setCell ⟨w.heap.size, 0, none⟩ (.int .u32 S)) rfl 1 (.int .u32 G)) (fun _ _ h => h)
                have key := unhide hyes S (unhide HE3) _ (.slice a' n' c') ⟨HC7.box (unhide Hb6) (by omega), by unfold tkn; rw [hG]; exact (unhide HR6).ch HC7 (fun g hg e => own_box (unhide HR6) (unhide H06) (by decide) (e ▸ hg))⟩ ((unhide HC6).trans HC7 (fun y hy e => by omega)) (fun g hg => (unhide HAT).elim (fun e => Or.inl (e.symm.trans hg)) (fun e => Or.inr (by rw [e] at hg; injection hg with hg; have := unhide HX3; rw [← hg]; show w.heap.size ≤ (w2.drew.alloc _).heap.size; omega)))
                rw [hG] at key
                exact key
          · go_wp2
            go_roundw
            case rel => exact ⟨j + 1, by omega, by go_num, by rw [unhide HE2, hu]; exact hide (by simp), trivial⟩
            case measure => simp [intOf]; omega
    · have ej : j = M := by omega
      subst ej
      have HE3 := hide (show emp l j 1 = none by rw [unhide HE, Nat.sub_self]; rfl)
      go_wp2
      have hB2 : Below w.heap.size w ((w1.setCell ⟨w.heap.size, 0, none⟩ (.int .u32 0)).setCell ⟨w.heap.size, 1, none⟩ (.int .u32 0)) := ((unhide HB1).setCell (p := ⟨w.heap.size, 0, none⟩) (Nat.le_refl _) _).setCell (p := ⟨w.heap.size, 1, none⟩) (Nat.le_refl _) _
      refine bodyPost_ret (v := .tuple #[hv 0 0, .bool false]) (res_take _ w.heap.size _ 0 0 false rfl rfl ?_ ?_) rfl (unhide hno (unhide HE3) _ hB2)
      · simp [go_sem, hy0]
      · simp [go_sem, hy1]

end Go.Proofs.Ytjilnmeegolpkaa
