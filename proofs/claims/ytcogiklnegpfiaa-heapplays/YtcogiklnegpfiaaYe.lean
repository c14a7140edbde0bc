/- Layer 13: the law's once. Layer 13: the law's world with the lists that came out. Layer 13: the law's put: a list more that came out. Layer 13: the law's put, walked. -/
import Derived.Test.YtcogiklnegpfiaaYd

namespace Go.Proofs.Ytcogiklnegpfiaa
open Go.RowKit Go.Shelf

/-- how often it stands there -/
def cq (hs : List Hd) (z : Hd) : Nat := hs.countP fun x => decide (x.1 = z.1) && decide (x.2 = z.2)
theorem cq_snoc (hs : List Hd) (y z : Hd) : cq (hs ++ [y]) z = cq hs z + if y.1 = z.1 ∧ y.2 = z.2 then 1 else 0 := by
  unfold cq
  rw [List.countP_append]
  by_cases h : y.1 = z.1 ∧ y.2 = z.2
  · simp [h]
  · rw [if_neg h]
    have : (decide (y.1 = z.1) && decide (y.2 = z.2)) = false := by simpa using h
    simp [this]
theorem cq_le (hs : List Hd) (z : Hd) : cq hs z ≤ hs.length := List.countP_le_length
theorem cq_none {hs : List Hd} {z : Hd} (h : z ∉ hs) : cq hs z = 0 := by
  unfold cq
  rw [List.countP_eq_zero]
  intro x hx
  simp only [Bool.and_eq_true, decide_eq_true_eq, not_and]
  intro e1 e2
  exact h (by rw [← Prod.ext e1 e2]; exact hx)
theorem cq_one : ∀ {hs : List Hd} {z : Hd}, hs.Nodup → z ∈ hs → cq hs z = 1
  | x :: hs, z, hn, hm => by
    have hx := List.nodup_cons.1 hn
    by_cases e : x = z
    · subst e
      have := cq_none hx.1
      unfold cq at this ⊢
      rw [List.countP_cons_of_pos (by simp), this]
    · have hm' : z ∈ hs := (List.mem_cons.1 hm).resolve_left fun h => e h.symm
      have := cq_one hx.2 hm'
      unfold cq at this ⊢
      rw [List.countP_cons_of_neg (by simp only [Bool.and_eq_true, decide_eq_true_eq, not_and]; exact fun e1 e2 => e (Prod.ext e1 e2)), this]

set_option maxRecDepth 100000 in
set_option maxHeartbeats 4000000 in
theorem wonce_is {bw N : Nat} {pa pb vT vl vw : Value} {L : List Lk} {w : World} {vL vA vE vt : Value} {aq le hs : List Hd} (h : JW bw N pa pb vT vl vw L w vL vA vE aq le) (ht : HL w vt hs) (n1 : aq.Nodup) (n2 : hs.Nodup) (hin : ∀ x ∈ aq, x ∈ hs) (hal : aq.length ≤ 1000000) (hhl : hs.length ≤ 1000000) :
    Calls Try.prog 44 #[.pointer (some ⟨bw, 0, none⟩), vt] w fun e w' => e = .returned (.bool true) ∧ Below w.heap.size w w' := by
  have HA := hide (row_hl h.ak hal)
  have HT := hide ht
  have HN := hide (And.intro n1 (And.intro n2 hin))
  obtain ⟨Aa, Ac, rfl, -, -⟩ := h.ak.form
  obtain ⟨Ta, Tc, rfl, -, -⟩ := ht
  have x4 := h.cells.2.2.2.2.1
  clear h n1 n2 hin
  go_enter Try.func44, Try.ntmps44
  go_wp2
  go_loopw [5] (fun iv wr => ∃ i m : Nat, i ≤ aq.length ∧ iv = .int .i64 (i : Int) ∧ wr = w.drewN m) (fun iv _ => aq.length - (intOf iv).toNat)
  case atStart => exact ⟨0, 0, Nat.zero_le _, rfl, rfl⟩
  case round =>
    obtain ⟨i, m, hi, rfl, rfl⟩ := hrel
    by_cases hlt : i < aq.length
    · have q1 : decide ((i : Int) < (aq.length : Int)) = true := decide_eq_true (by omega)
      obtain ⟨bA, oA, cA, eA, y0, y1⟩ := HA.out.at hlt
      injection eA with eA e2 e3
      subst eA e3
      clear e2
      have HC := hide (show cq hs aq[i] = 1 from cq_one HN.out.2.1 (HN.out.2.2 _ (List.getElem_mem hlt)))
      have HD := hide (fun k (hk : k < i) => show ¬ (aq[k].1 = aq[i].1 ∧ aq[k].2 = aq[i].2) from fun e => by
        have := (List.pairwise_iff_getElem.1 HN.out.1) k i (by omega) hlt hk
        exact this (Prod.ext e.1 e.2))
      have HX := hide (fun k (hk : k < aq.length) => HA.out.at hk)
      generalize aq[i] = z at y0 y1 HC HD
      go_wp2
      go_loopw [6, 7] (fun nv kv wr => ∃ k m : Nat, k ≤ hs.length ∧ kv = .int .i64 (k : Int) ∧ nv = .int .i64 (cq (hs.take k) z : Int) ∧ wr = w.drewN m) (fun _ kv _ => hs.length - (intOf kv).toNat)
      case atStart => exact ⟨0, _, Nat.zero_le _, rfl, rfl, rfl⟩
      case round =>
        obtain ⟨k, m, hk, rfl, rfl, rfl⟩ := hrel
        by_cases hkl : k < hs.length
        · have q2 : decide ((k : Int) < (hs.length : Int)) = true := decide_eq_true (by omega)
          obtain ⟨bT, oT, cT, eT, z0, z1⟩ := HT.out.at hkl
          injection eT with eT e2 e3
          subst eT e3
          clear e2
          have HS := hide (show cq (hs.take (k + 1)) z = cq (hs.take k) z + if hs[k].1 = z.1 ∧ hs[k].2 = z.2 then 1 else 0 by rw [List.take_succ_eq_append_getElem hkl, cq_snoc])
          have hle : cq (hs.take k) z ≤ 1000000 := Nat.le_trans (cq_le _ _) (by rw [List.length_take]; omega)
          generalize hs[k] = y at z0 z1 HS
          generalize cq (hs.take k) z = cn at HS hle ⊢
          by_cases es : y.1 = z.1
          · have qs : (y.1 == z.1) = true := by simpa using es
            by_cases eg : y.2 = z.2
            · have qg : (y.2 == z.2) = true := by simpa using eg
              have HS2 := hide (show cq (hs.take (k + 1)) z = cn + 1 by rw [HS.out, if_pos ⟨es, eg⟩])
              clear es eg
              go_wp2
              go_quiet (fail)
              go_wp2
              go_roundw
              case rel => exact ⟨k + 1, _, by omega, by go_num, by rw [HS2.out]; go_num, rfl⟩
              case measure => simp [intOf]; omega
            · have qg : (y.2 == z.2) = false := by simpa using eg
              have HS2 := hide (show cq (hs.take (k + 1)) z = cn by rw [HS.out, if_neg (fun h => eg h.2)]; rfl)
              clear es eg
              go_wp2
              go_quiet (fail)
              go_wp2
              go_roundw
              case rel => exact ⟨k + 1, _, by omega, by go_num, by rw [HS2.out], rfl⟩
              case measure => simp [intOf]; omega
          · have qs : (y.1 == z.1) = false := by simpa using es
            have HS2 := hide (show cq (hs.take (k + 1)) z = cn by rw [HS.out, if_neg (fun h => es h.1)]; rfl)
            clear es
            go_wp2
            go_quiet (fail)
            go_wp2
            go_roundw
            case rel => exact ⟨k + 1, _, by omega, by go_num, by rw [HS2.out], rfl⟩
            case measure => simp [intOf]; omega
        · have q2 : decide ((k : Int) < (hs.length : Int)) = false := decide_eq_false (by omega)
          rw [List.take_of_length_le (by omega), HC.out]
          go_wp2
          go_loopw [6, 8] (fun nv kv wr => ∃ k m : Nat, k ≤ i ∧ kv = .int .i64 (k : Int) ∧ nv = .int .i64 1 ∧ wr = w.drewN m) (fun _ kv _ => i - (intOf kv).toNat)
          case atStart => exact ⟨0, _, Nat.zero_le _, rfl, rfl, rfl⟩
          case round =>
            obtain ⟨k, m, hk, rfl, rfl, rfl⟩ := hrel
            by_cases hki : k < i
            · have q3 : decide ((k : Int) < (i : Int)) = true := decide_eq_true (by omega)
              obtain ⟨bB, oB, cB, eB, z0, z1⟩ := HX.out k (by omega)
              injection eB with eB e2 e3
              subst e3
              clear e2
              injection eB with eB
              injection eB with eB1 eB2
              subst eB1 eB2
              have hne := HD.out k hki
              generalize aq[k] = y at z0 z1 hne
              by_cases es : y.1 = z.1
              · have qs : (y.1 == z.1) = true := by simpa using es
                have qg : (y.2 == z.2) = false := by simpa using fun e => hne ⟨es, e⟩
                clear es hne
                go_wp2
                go_quiet (fail)
                go_wp2
                go_roundw
                case rel => exact ⟨k + 1, _, by omega, by go_num, rfl, rfl⟩
                case measure => simp [intOf]; omega
              · have qs : (y.1 == z.1) = false := by simpa using es
                clear es hne
                go_wp2
                go_quiet (fail)
                go_wp2
                go_roundw
                case rel => exact ⟨k + 1, _, by omega, by go_num, rfl, rfl⟩
                case measure => simp [intOf]; omega
            · have q3 : decide ((k : Int) < (i : Int)) = false := decide_eq_false (by omega)
              go_wp2
              go_roundw
              case rel => exact ⟨i + 1, _, by omega, by go_num, rfl⟩
              case measure => simp [intOf]; omega
    · have q1 : decide ((i : Int) < (aq.length : Int)) = false := decide_eq_false (by omega)
      go_wp2
      go_ret
      exact ⟨rfl, below_dr _ _ _⟩

end Go.Proofs.Ytcogiklnegpfiaa

namespace Go.Proofs.Ytcogiklnegpfiaa
open Go.RowKit Go.Shelf

/-- a list's value, as a cell -/
def slF (v : Value) : List Value := [v]
theorem slF_len (v : Value) : (slF v).length = 1 := rfl
theorem info_sl : (Try.prog.info? 34).map (fun i => (i.zero, i.size, i.bytes)) = some (some (.slice none 0 0), 1, 24) := by kernel_rfl
/-- lists in blocks apart -/
def Apt (bs : List Value) : Prop := bs.Pairwise fun a b => ∀ y, a.ownBlock = some y → ¬ b.ownBlock = some y
theorem Apt.perm {bs bs' : List Value} (h : Apt bs) (hp : bs.Perm bs') : Apt bs' :=
  (hp.pairwise_iff fun h y hb ha => h y ha hb).1 h
theorem Apt.cons {bs : List Value} {u : Value} (h : Apt bs) (hu : ∀ y, u.ownBlock = some y → ∀ b ∈ bs, ¬ b.ownBlock = some y) : Apt (u :: bs) :=
  List.pairwise_cons.2 ⟨fun b hb y hy => hu y hy b hb, h⟩
/-- one is laid anew: where it was, or in a block of its own -/
theorem Apt.put {bs : List Value} {v v' : Value} (h : Apt (v :: bs)) (hv : v'.ownBlock = v.ownBlock ∨ ∃ y, v'.ownBlock = some y ∧ ∀ b ∈ bs, ¬ b.ownBlock = some y) : Apt (v' :: bs) := by
  obtain ⟨h1, h2⟩ := List.pairwise_cons.1 h
  refine Apt.cons h2 fun y hy b hb => ?_
  rcases hv with e | ⟨z, e, hz⟩
  · exact h1 b hb y (by rw [← e]; exact hy)
  · rw [e] at hy
    injection hy with hy
    subst hy
    exact hz b hb

/-- lists of lists: each is a row of its own -/
structure LL (w : World) (N : Nat) (v : Value) (ls : List Value) (hs : List (List Hd)) : Prop where
  row : Row slF 1 34 w N v ls
  len : ls.length = hs.length
  each : ∀ i (h : i < ls.length) (h' : i < hs.length), Row hF 2 43 w N ls[i] hs[i]
theorem LL.ch {Q : Nat → Prop} {w w' : World} {N : Nat} {v : Value} {ls : List Value} {hs : List (List Hd)} (h : LL w N v ls hs) (hc : Ch Q w w') (h0 : ∀ y, v.ownBlock = some y → ¬ Q y) (h1 : ∀ u ∈ ls, ∀ y, u.ownBlock = some y → ¬ Q y) : LL w' N v ls hs :=
  ⟨h.row.ch hc h0, h.len, fun i hi hi' => (h.each i hi hi').ch hc (h1 _ (List.getElem_mem hi))⟩
theorem LL.nil (w : World) (N : Nat) : LL w N (.slice none 0 0) [] [] := ⟨Row.nil _ _, rfl, fun _ hi => absurd hi (Nat.not_lt_zero _)⟩
/-- one list more -/
theorem LL.snoc {Q : Nat → Prop} {w w' : World} {N : Nat} {v v' u : Value} {ls : List Value} {hs : List (List Hd)} {x : List Hd} (h : LL w N v ls hs) (hc : Ch Q w w') (h1 : ∀ b ∈ ls, ∀ y, b.ownBlock = some y → ¬ Q y) (hr : Row slF 1 34 w' N v' (ls ++ [u])) (hu : Row hF 2 43 w' N u x) : LL w' N v' (ls ++ [u]) (hs ++ [x]) := by
  refine ⟨hr, by simp [h.len], fun i hi hi' => ?_⟩
  by_cases e : i < ls.length
  · rw [List.getElem_append_left e, List.getElem_append_left (by rw [← h.len]; exact e)]
    exact (h.each i e (by rw [← h.len]; exact e)).ch hc (h1 _ (List.getElem_mem e))
  · have hl := h.len
    have e1 : i = ls.length := by simp at hi; omega
    have e2 : (ls ++ [u])[i] = u := by subst e1; simp
    have e3 : (hs ++ [x])[i] = x := by
      rw [List.getElem_append_right (by omega)]
      simp
    rw [e2, e3]
    exact hu

/-- the law's world, with the lists that came out and what they were -/
structure JP (bw N : Nat) (pa pb vT : Value) (L : List Lk) (w : World) (vL vA vE vl vw : Value) (aq le : List Hd) (ls ws : List Value) (hs qs : List (List Hd)) : Prop where
  jw : JW bw N pa pb vT vl vw L w vL vA vE aq le
  l : LL w N vl ls hs
  w : LL w N vw ws qs
  ap : Apt (vL :: vA :: vE :: vl :: vw :: (ls ++ ws))
theorem JP.ch {Q : Nat → Prop} {bw N : Nat} {pa pb vT : Value} {L : List Lk} {w w' : World} {vL vA vE vl vw : Value} {aq le : List Hd} {ls ws : List Value} {hs qs : List (List Hd)} (h : JP bw N pa pb vT L w vL vA vE vl vw aq le ls ws hs qs) (hc : Ch Q w w') (h0 : ¬ Q bw) (h1 : ∀ b ∈ vL :: vA :: vE :: vl :: vw :: (ls ++ ws), ∀ y, b.ownBlock = some y → ¬ Q y) : JP bw N pa pb vT L w' vL vA vE vl vw aq le ls ws hs qs :=
  ⟨h.jw.ch hc h0 (h1 _ (by simp)) (h1 _ (by simp)) (h1 _ (by simp)), h.l.ch hc (h1 _ (by simp)) (fun u hu => h1 u (by simp [hu])), h.w.ch hc (h1 _ (by simp)) (fun u hu => h1 u (by simp [hu])), h.ap⟩
end Go.Proofs.Ytcogiklnegpfiaa

namespace Go.Proofs.Ytcogiklnegpfiaa
open Go.RowKit Go.Shelf

section
variable {bw N : Nat} {pa pb vT : Value} {L : List Lk} {wr w6 : World} {vL vA vE vl vw u v6 : Value} {aq le x : List Hd} {ls ws : List Value} {hs qs : List (List Hd)} {T : Obj}

theorem JP.bwl (h : JP bw N pa pb vT L wr vL vA vE vl vw aq le ls ws hs qs) : ¬ vl.ownBlock = some bw := own_box h.l.row h.jw.box (by decide)
theorem JP.bww (h : JP bw N pa pb vT L wr vL vA vE vl vw aq le ls ws hs qs) : ¬ vw.ownBlock = some bw := own_box h.w.row h.jw.box (by decide)

theorem LL.lt {w : World} {v : Value} (h : LL w N v ls hs) : ∀ b ∈ ls, ∀ y, b.ownBlock = some y → y < w.heap.size ∧ ∃ cur, w.heap[y]? = some (.cells cur 43 (0, 0)) := by
  intro b hb y hy
  obtain ⟨i, hi, rfl⟩ := List.getElem_of_mem hb
  have := own_in (h.each i hi (by rw [← h.len]; exact hi)) hy
  exact ⟨this.2.1, this.2.2⟩
/-- all its blocks are old -/
theorem JP.old (h : JP bw N pa pb vT L wr vL vA vE vl vw aq le ls ws hs qs) : ∀ b ∈ vL :: vA :: vE :: vl :: vw :: (ls ++ ws), ∀ y, b.ownBlock = some y → y < wr.heap.size := by
  intro b hb y hy
  simp only [List.mem_cons, List.mem_append] at hb
  rcases hb with rfl | rfl | rfl | rfl | rfl | hb | hb
  · exact (own_in h.jw.lk hy).2.1
  · exact (own_in h.jw.ak hy).2.1
  · exact (own_in h.jw.en hy).2.1
  · exact (own_in h.l.row hy).2.1
  · exact (own_in h.w.row hy).2.1
  · exact (h.l.lt b hb y hy).1
  · exact (h.w.lt b hb y hy).1
theorem JP.bwn (h : JP bw N pa pb vT L wr vL vA vE vl vw aq le ls ws hs qs) : ∀ b ∈ vL :: vA :: vE :: vl :: vw :: (ls ++ ws), ¬ b.ownBlock = some bw := by
  intro b hb
  simp only [List.mem_cons, List.mem_append] at hb
  rcases hb with rfl | rfl | rfl | rfl | rfl | hb | hb
  · exact h.jw.bwL
  · exact h.jw.bwA
  · exact h.jw.bwE
  · exact h.bwl
  · exact h.bww
  · intro hy
    obtain ⟨_, cur, e⟩ := h.l.lt b hb _ hy
    rw [h.jw.box] at e
    injection e with e
    injection e with _ e _
    exact absurd e (by decide)
  · intro hy
    obtain ⟨_, cur, e⟩ := h.w.lt b hb _ hy
    rw [h.jw.box] at e
    injection e with e
    injection e with _ e _
    exact absurd e (by decide)
/-- the first list of lists grows -/
theorem put_l (h : JP bw N pa pb vT L wr vL vA vE vl vw aq le ls ws hs qs) (hu : Row hF 2 43 wr N u x) (ha : Apt (u :: vL :: vA :: vE :: vl :: vw :: (ls ++ ws)))
    (hr : w6.ownsRow N 34 1 v6 (ls.length + 1) (ls.flatMap slF ++ slF u)) (hg : (wr.alloc T).grownBy w6 vl.ownBlock) (ho : v6.ownBlock = vl.ownBlock ∨ v6.ownBlock = some (wr.alloc T).heap.size) :
    JP bw N pa pb vT L (w6.setCell ⟨bw, 5, none⟩ v6) vL vA vE v6 vw aq le (ls ++ [u]) ws (hs ++ [x]) qs ∧ Ch (fun y => y = bw ∨ vl.ownBlock = some y) wr (w6.setCell ⟨bw, 5, none⟩ v6) ∧ w6.cell? ⟨bw, 5, none⟩ = some vl ∧ w6.frozen? ⟨bw, 5, none⟩ = false := by
  have c1 : Ch (fun y => vl.ownBlock = some y) wr w6 := (Ch.alloc (Q := fun y => vl.ownBlock = some y) wr T).trans (Ch.of_grown hg (fun _ e => e)) (fun _ _ h => h)
  have hb := c1.box h.jw.box h.bwl
  have hsz : wr.heap.size ≤ (wr.alloc T).heap.size := by rw [World.size_alloc]; exact Nat.le_succ _
  have hS := Ch.set (Q := fun y => y = bw) w6 rfl 5 v6
  have r6 : Row slF 1 34 w6 N v6 (ls ++ [u]) := Row.snoc hr
  have hap : Apt (vl :: u :: vL :: vA :: vE :: vw :: (ls ++ ws)) := ha.perm (List.perm_middle (l₁ := [u, vL, vA, vE]) (a := vl) (l₂ := vw :: (ls ++ ws)))
  have hvl := (List.pairwise_cons.1 hap).1
  have hold : ∀ b ∈ u :: vL :: vA :: vE :: vw :: (ls ++ ws), ∀ y, b.ownBlock = some y → y < wr.heap.size := by
    intro b hb y hy
    rcases List.mem_cons.1 hb with rfl | hb
    · exact (own_in hu hy).2.1
    · exact h.old b (by simp only [List.mem_cons] at hb ⊢; rcases hb with e | e | e | e | e <;> simp [e]) y hy
  have hub : ¬ u.ownBlock = some bw := own_box hu h.jw.box (by decide)
  have h6b : ¬ v6.ownBlock = some bw := own_box hr hb (by decide)
  have cc : Ch (fun y => y = bw ∨ vl.ownBlock = some y) wr (w6.setCell ⟨bw, 5, none⟩ v6) := (c1.mono (Q' := fun y => y = bw ∨ vl.ownBlock = some y) (fun _ _ h => .inr h)).trans hS (fun _ _ h => .inl h)
  have hn : ∀ b ∈ u :: vL :: vA :: vE :: vw :: (ls ++ ws), ∀ y, b.ownBlock = some y → ¬ (y = bw ∨ vl.ownBlock = some y) := by
    intro c hm y hy e
    rcases e with e | e
    · rw [e] at hy
      rcases List.mem_cons.1 hm with e1 | hm
      · exact hub (by rw [← e1]; exact hy)
      · exact h.bwn c (by simp only [List.mem_cons] at hm ⊢; rcases hm with e | e | e | e | e <;> simp [e]) hy
    · exact hvl c hm y e hy
  refine ⟨⟨⟨?_, h.jw.lk.ch cc (hn _ (by simp)), h.jw.ak.ch cc (hn _ (by simp)), h.jw.en.ch cc (hn _ (by simp)), h.jw.ne⟩, h.l.snoc cc (fun b hb => hn b (by simp [hb])) (r6.ch hS fun y hy e => h6b (by rw [← e]; exact hy)) (hu.ch cc (hn _ (by simp))), h.w.ch cc (hn _ (by simp)) (fun b hb => hn b (by simp [hb])), ?_⟩, cc, ?_, ?_⟩
  · have := heap_set hb 5 v6
    exact this
  · have a6 : Apt (v6 :: u :: vL :: vA :: vE :: vw :: (ls ++ ws)) := hap.put (ho.imp_right fun e => ⟨_, e, fun b hb hy => by have := hold b hb _ hy; omega⟩)
    have p1 := List.perm_middle (l₁ := [vL, vA, vE]) (a := v6) (l₂ := vw :: (ls ++ u :: ws))
    have p2 := (List.perm_middle (l₁ := vL :: vA :: vE :: vw :: ls) (a := u) (l₂ := ws)).cons v6
    have := a6.perm (p1.trans p2).symm
    simpa using this
  · simp [Lib.cell_of_heap hb]
  · simp [World.frozen?, hb]
/-- the second list of lists grows -/
theorem put_w (h : JP bw N pa pb vT L wr vL vA vE vl vw aq le ls ws hs qs) (hu : Row hF 2 43 wr N u x) (ha : Apt (u :: vL :: vA :: vE :: vl :: vw :: (ls ++ ws)))
    (hr : w6.ownsRow N 34 1 v6 (ws.length + 1) (ws.flatMap slF ++ slF u)) (hg : (wr.alloc T).grownBy w6 vw.ownBlock) (ho : v6.ownBlock = vw.ownBlock ∨ v6.ownBlock = some (wr.alloc T).heap.size) :
    JP bw N pa pb vT L (w6.setCell ⟨bw, 6, none⟩ v6) vL vA vE vl v6 aq le ls (ws ++ [u]) hs (qs ++ [x]) ∧ Ch (fun y => y = bw ∨ vw.ownBlock = some y) wr (w6.setCell ⟨bw, 6, none⟩ v6) ∧ w6.cell? ⟨bw, 6, none⟩ = some vw ∧ w6.frozen? ⟨bw, 6, none⟩ = false := by
  have c1 : Ch (fun y => vw.ownBlock = some y) wr w6 := (Ch.alloc (Q := fun y => vw.ownBlock = some y) wr T).trans (Ch.of_grown hg (fun _ e => e)) (fun _ _ h => h)
  have hb := c1.box h.jw.box h.bww
  have hsz : wr.heap.size ≤ (wr.alloc T).heap.size := by rw [World.size_alloc]; exact Nat.le_succ _
  have hS := Ch.set (Q := fun y => y = bw) w6 rfl 6 v6
  have r6 : Row slF 1 34 w6 N v6 (ws ++ [u]) := Row.snoc hr
  have hap : Apt (vw :: u :: vL :: vA :: vE :: vl :: (ls ++ ws)) := ha.perm (List.perm_middle (l₁ := [u, vL, vA, vE, vl]) (a := vw) (l₂ := ls ++ ws))
  have hvl := (List.pairwise_cons.1 hap).1
  have hold : ∀ b ∈ u :: vL :: vA :: vE :: vl :: (ls ++ ws), ∀ y, b.ownBlock = some y → y < wr.heap.size := by
    intro b hb y hy
    rcases List.mem_cons.1 hb with rfl | hb
    · exact (own_in hu hy).2.1
    · exact h.old b (by simp only [List.mem_cons] at hb ⊢; rcases hb with e | e | e | e | e <;> simp [e]) y hy
  have hub : ¬ u.ownBlock = some bw := own_box hu h.jw.box (by decide)
  have h6b : ¬ v6.ownBlock = some bw := own_box hr hb (by decide)
  have cc : Ch (fun y => y = bw ∨ vw.ownBlock = some y) wr (w6.setCell ⟨bw, 6, none⟩ v6) := (c1.mono (Q' := fun y => y = bw ∨ vw.ownBlock = some y) (fun _ _ h => .inr h)).trans hS (fun _ _ h => .inl h)
  have hn : ∀ b ∈ u :: vL :: vA :: vE :: vl :: (ls ++ ws), ∀ y, b.ownBlock = some y → ¬ (y = bw ∨ vw.ownBlock = some y) := by
    intro c hm y hy e
    rcases e with e | e
    · rw [e] at hy
      rcases List.mem_cons.1 hm with e1 | hm
      · exact hub (by rw [← e1]; exact hy)
      · exact h.bwn c (by simp only [List.mem_cons] at hm ⊢; rcases hm with e | e | e | e | e <;> simp [e]) hy
    · exact hvl c hm y e hy
  refine ⟨⟨⟨?_, h.jw.lk.ch cc (hn _ (by simp)), h.jw.ak.ch cc (hn _ (by simp)), h.jw.en.ch cc (hn _ (by simp)), h.jw.ne⟩, h.l.ch cc (hn _ (by simp)) (fun b hb => hn b (by simp [hb])), h.w.snoc cc (fun b hb => hn b (by simp [hb])) (r6.ch hS fun y hy e => h6b (by rw [← e]; exact hy)) (hu.ch cc (hn _ (by simp))), ?_⟩, cc, ?_, ?_⟩
  · have := heap_set hb 6 v6
    exact this
  · have a6 : Apt (v6 :: u :: vL :: vA :: vE :: vl :: (ls ++ ws)) := hap.put (ho.imp_right fun e => ⟨_, e, fun b hb hy => by have := hold b hb _ hy; omega⟩)
    have p1 := List.perm_middle (l₁ := [vL, vA, vE, vl]) (a := v6) (l₂ := ls ++ ws ++ [u])
    have p2 := (List.perm_middle (l₁ := vL :: vA :: vE :: vl :: (ls ++ ws)) (a := u) (l₂ := [])).cons v6
    have := a6.perm ((p1.trans (by simpa using p2)).symm)
    simpa using this
  · simp [Lib.cell_of_heap hb]
  · simp [World.frozen?, hb]
end
end Go.Proofs.Ytcogiklnegpfiaa

namespace Go.Proofs.Ytcogiklnegpfiaa
open Go.RowKit Go.Shelf

theorem slF_one {u : Value} {a : Option Addr} {n c : Nat} (h : u = .slice a n c) : ∀ v ∈ slF u, v.oneCell' = true := by
  intro v hv
  simp only [slF, List.mem_cons, List.not_mem_nil, or_false] at hv
  subst hv
  subst h
  rfl

set_option maxRecDepth 100000 in
set_option maxHeartbeats 4000000 in
theorem wput_is {bw N : Nat} {pa pb vT : Value} {L : List Lk} {w : World} {vL vA vE vl vw u z : Value} {aq le x y : List Hd} {ls ws : List Value} {hs qs : List (List Hd)} (h : JP bw N pa pb vT L w vL vA vE vl vw aq le ls ws hs qs) (hN : N ≤ w.heap.size) (hu : Row hF 2 43 w N u x) (hz : Row hF 2 43 w N z y) (ha : Apt (z :: u :: vL :: vA :: vE :: vl :: vw :: (ls ++ ws))) (hlx : x.length ≤ 1000000) (hly : y.length ≤ 1000000) (hll : ls.length ≤ 100000) (hlw : ws.length ≤ 100000) :
    Calls Try.prog 26 #[.pointer (some ⟨bw, 0, none⟩), u, z] w fun e w' => e = .returned (.bool (decide (x = y))) ∧ ∃ vl' vw', JP bw N pa pb vT L w' vL vA vE vl' vw' aq le (ls ++ [u]) (ws ++ [z]) (hs ++ [x]) (qs ++ [y]) ∧ Ch (fun y => y = bw ∨ vl.ownBlock = some y ∨ vw.ownBlock = some y) w w' := by
  obtain ⟨i0, hi0, hz0, hz1, hz2⟩ := nf_open info_sl
  have H := hide h
  have HU := hide hu
  have HZ := hide hz
  have HA := hide ha
  obtain ⟨la, lc, rfl, -, -⟩ := h.l.row.form
  obtain ⟨wa, wc, rfl, -, -⟩ := h.w.row.form
  obtain ⟨ua, uc, eu, -, -⟩ := hu.form
  obtain ⟨za, zc, ez, -, -⟩ := hz.form
  have x5 := h.jw.cells.2.2.2.2.2.1
  have HOW := hide (World.ownsRow.alloc (show w.ownsRow N 34 1 (.slice la ls.length lc) ls.length (ls.flatMap slF) from h.l.row) (.cells #[u] 34))
  have HN1 := hide (row_new w (slF u) 34 rfl)
  have HM1 := hide (show ls.length + 1 ≤ maxLen by unfold maxLen; omega)
  have HM2 := hide (show (ls.length + 1) * 24 ≤ 140737488355328 by omega)
  have HM3 := hide (show N ≤ (w.alloc (.cells #[u] 34)).heap.size by rw [World.size_alloc]; omega)
  have HON := hide (slF_one eu)
  have HON2 := hide (slF_one ez)
  have x5' : (w.alloc (.cells #[u] 34)).cell? ⟨bw, 5, none⟩ = some (.slice la ls.length lc) := ((h.ch (Ch.alloc (Q := fun _ => False) w _) (fun h => h) (fun _ _ _ _ h => h)).jw.cells).2.2.2.2.2.1
  clear h hu hz ha
  subst eu ez
  go_enter Try.func26, Try.ntmps26
  go_wp2_with (at_builtin; refine wpList_append_own_at _ rfl _ _ 35 rfl N 34 i0 (.slice none 0 0) 1 24 Try.underlying35 hi0 hz0 hz1 hz2 rfl (by decide) _ ls.length (ls.flatMap slF) rfl HOW.out ⟨w.heap.size, 0, none⟩ 1 1 (slF (.slice ua x.length uc)) rfl rfl HN1.out HON.out HM1.out HM2.out HM3.out ?_)
  intro v6 w6 hown' hgrow _ hat
  obtain ⟨a6, n6, c6, rfl⟩ := own_form hown'
  have ha := HA.out
  obtain ⟨hz1', hu1⟩ := List.pairwise_cons.1 ha
  obtain ⟨J6, C6, y5, y5f⟩ := put_l H.out HU.out hu1 hown' hgrow (hat.imp_right fun e => by rw [e, World.size_alloc])
  have hzlt := fun g hg => (own_in HZ.out (g := g) hg).2.1
  have hzn : ∀ g, (Value.slice za y.length zc).ownBlock = some g → ¬ (g = bw ∨ (Value.slice la ls.length lc).ownBlock = some g) := fun g hg e => by
    rcases e with e | e
    · exact own_box HZ.out H.out.jw.box (by decide) (by rw [← e]; exact hg)
    · exact hz1' _ (by simp) g hg e
  have hun : ∀ g, (Value.slice ua x.length uc).ownBlock = some g → ¬ (g = bw ∨ (Value.slice la ls.length lc).ownBlock = some g) := fun g hg e => by
    rcases e with e | e
    · exact own_box HU.out H.out.jw.box (by decide) (by rw [← e]; exact hg)
    · exact (List.pairwise_cons.1 hu1).1 _ (by simp) g hg e
  have HA6 := hide (show Apt (.slice za y.length zc :: vL :: vA :: vE :: .slice a6 n6 c6 :: .slice wa ws.length wc :: ((ls ++ [.slice ua x.length uc]) ++ ws)) from Apt.cons J6.ap fun g hg b hb => by
    simp only [List.mem_cons, List.mem_append, List.not_mem_nil, or_false] at hb
    rcases hb with rfl | rfl | rfl | rfl | rfl | (hb | rfl) | hb
    · exact hz1' _ (by simp) g hg
    · exact hz1' _ (by simp) g hg
    · exact hz1' _ (by simp) g hg
    · intro e
      rcases hat with e2 | e2
      · exact hz1' (.slice la ls.length lc) (by simp) g hg (by rw [← e2]; exact e)
      · rw [e2] at e
        injection e with e
        have := hzlt g hg
        omega
    · exact hz1' _ (by simp) g hg
    · exact hz1' _ (by simp [hb]) g hg
    · exact hz1' _ (by simp) g hg
    · exact hz1' _ (by simp [hb]) g hg)
  obtain ⟨W, hW⟩ : ∃ W, w6.setCell ⟨bw, 5, none⟩ (.slice a6 n6 c6) = W := ⟨_, rfl⟩
  rw [hW] at J6 C6
  have HJ := hide J6
  have HC := hide C6
  have HU2 := hide (HU.out.ch C6 hun)
  have HZ2 := hide (HZ.out.ch C6 hzn)
  have hNW : N ≤ W.heap.size := Nat.le_trans hN C6.size
  have x6 := J6.jw.cells.2.2.2.2.2.2.1
  have x6' : (W.alloc (.cells #[.slice za y.length zc] 34)).cell? ⟨bw, 6, none⟩ = some (.slice wa ws.length wc) := ((J6.ch (Ch.alloc (Q := fun _ => False) W _) (fun h => h) (fun _ _ _ _ h => h)).jw.cells).2.2.2.2.2.2.1
  have HOW2 := hide (World.ownsRow.alloc (show W.ownsRow N 34 1 (.slice wa ws.length wc) ws.length (ws.flatMap slF) from J6.w.row) (.cells #[.slice za y.length zc] 34))
  have HN2 := hide (row_new W (slF (.slice za y.length zc)) 34 rfl)
  have HM4 := hide (show ws.length + 1 ≤ maxLen by unfold maxLen; omega)
  have HM5 := hide (show (ws.length + 1) * 24 ≤ 140737488355328 by omega)
  have HM6 := hide (show N ≤ (W.alloc (.cells #[.slice za y.length zc] 34)).heap.size by rw [World.size_alloc]; omega)
  clear hown' hgrow hat J6 C6 hzn hun hzlt ha hz1' hu1
  go_wp2_with (at_builtin; refine wpList_append_own_at _ rfl _ _ 35 rfl N 34 i0 (.slice none 0 0) 1 24 Try.underlying35 hi0 hz0 hz1 hz2 rfl (by decide) _ ws.length (ws.flatMap slF) rfl HOW2.out ⟨W.heap.size, 0, none⟩ 1 1 (slF (.slice za y.length zc)) rfl rfl HN2.out HON2.out HM4.out HM5.out HM6.out ?_)
  intro v7 w7 hown' hgrow _ hat
  obtain ⟨a7, n7, c7, rfl⟩ := own_form hown'
  obtain ⟨J7, C7, y6, y6f⟩ := put_w HJ.out HZ2.out HA6.out hown' hgrow (hat.imp_right fun e => by rw [e, World.size_alloc])
  have hzn : ∀ g, (Value.slice za y.length zc).ownBlock = some g → ¬ (g = bw ∨ (Value.slice wa ws.length wc).ownBlock = some g) := fun g hg e => by
    rcases e with e | e
    · exact own_box HZ2.out HJ.out.jw.box (by decide) (by rw [← e]; exact hg)
    · exact (List.pairwise_cons.1 HA6.out).1 _ (by simp) g hg e
  have hun : ∀ g, (Value.slice ua x.length uc).ownBlock = some g → ¬ (g = bw ∨ (Value.slice wa ws.length wc).ownBlock = some g) := fun g hg e => by
    rcases e with e | e
    · exact own_box HU2.out HJ.out.jw.box (by decide) (by rw [← e]; exact hg)
    · exact (List.pairwise_cons.1 (List.pairwise_cons.1 HA.out).2).1 _ (by simp) g hg e
  obtain ⟨V, hV⟩ : ∃ V, w7.setCell ⟨bw, 6, none⟩ (.slice a7 n7 c7) = V := ⟨_, rfl⟩
  rw [hV] at J7 C7
  have HJ7 := hide J7
  have HC7 := hide (show Ch (fun y => y = bw ∨ (Value.slice la ls.length lc).ownBlock = some y ∨ (Value.slice wa ws.length wc).ownBlock = some y) w V from (HC.out.mono (fun _ _ h => h.imp_right .inl)).trans C7 (fun _ _ h => h.imp_right .inr))
  have HSA := hide (same_is (row_hl (HU2.out.ch C7 hun) hlx) (row_hl (HZ2.out.ch C7 hzn) hly))
  clear hown' hgrow hat J7 C7 hzn hun
  go_wp2_with fail
  refine HSA.out.mono ?_
  rintro e V2 ⟨rfl, hb⟩
  have HJ8 := hide (HJ7.out.ch (Ch.of_below (Q := fun _ => False) hb) (fun h => h) (fun _ _ _ _ h => h))
  have HC8 := hide (HC7.out.trans (Ch.of_below (Q := fun _ => False) hb) (fun _ _ h => h.elim))
  clear hb
  go_wp2
  go_ret
  exact ⟨rfl, _, _, HJ8.out, HC8.out⟩

end Go.Proofs.Ytcogiklnegpfiaa
