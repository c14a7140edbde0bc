/- What the law of places asks: what stands between two tokens, and how long a token is. -/
import Derived.Test.YtjkogjmbmkopiaaDoorQb
import Derived.Test.YtjkogjmbmkopiaaDoorLw
import Derived.Test.YtjkogjmbmkopiaaDoorRefInt
namespace Go.Proofs.YtjkogjmbmkopiaaDoor
open Go.RowKit

theorem Gap.le {l : List UInt8} {n : Nat} (h : Gap l n) : n ≤ l.length := by
  induction h with
  | nil => exact Nat.le_refl _
  | line _ _ ih => rw [List.length_cons]; omega
  | blank _ _ ih => rw [List.length_cons]; omega
  | comment _ _ ih => rw [List.length_drop] at ih; omega

theorem Pl.fin {l : List UInt8} {a ln : Nat} {x : List Tok} (h : Pl l a ln x) : ∃ y m, x = y ++ [endAt (a + l.length) m] := by
  induction h with
  | last hg ht => exact ⟨[], _, by rw [ht]; rfl⟩
  | @more l g l' a ln n t r hl hg ha hln hf hp ih =>
    obtain ⟨y, m, rfl⟩ := ih
    refine ⟨t :: y, m, ?_⟩
    have := hf.size
    rw [List.cons_append, hl, List.length_append, List.length_drop, ha]
    congr 4
    omega

theorem drop_take {α : Type} (s : List α) (a b : Nat) (g l' : List α) (h : s.drop a = g ++ l') (hb : b = a + g.length) : (s.drop a).take (b - a) = g ∧ s.drop b = l' := by
  have e : b - a = g.length := by omega
  refine ⟨by rw [e, h, List.take_append_of_le_length (Nat.le_refl _), List.take_length], ?_⟩
  rw [hb, ← List.drop_drop, h, List.drop_append_of_le_length (Nat.le_refl _), List.drop_length, List.nil_append]

/-- one token's place -/
theorem place_step {src : List UInt8} {toks : List Tok} {j a ln : Nat} (hj : j < toks.length) (h : Pl (src.drop a) a ln (toks.drop j)) (ha : a ≤ src.length) :
    ∃ n, Gap ((src.drop a).take (toks[j].at_ - a)) n ∧ a ≤ toks[j].at_ ∧ toks[j].at_ ≤ src.length ∧ toks[j].line = ln + n ∧ szOf (src.drop toks[j].at_) toks[j] ≤ src.length - toks[j].at_ ∧
      (toks[j].k = 1 ∨ toks[j].k = 2 ∨ toks[j].k = 5 → (src.drop toks[j].at_).take (szOf (src.drop toks[j].at_) toks[j]) = toks[j].t) ∧ (toks[j].k = 3 → 0 ≤ toks[j].n ∧ toks[j].n ≤ 9223372036854775807) ∧
      (toks[j].k = 0 ∧ j + 1 = toks.length ∨ ¬ toks[j].k = 0 ∧ j + 1 < toks.length ∧ Pl (src.drop (toks[j].at_ + szOf (src.drop toks[j].at_) toks[j])) (toks[j].at_ + szOf (src.drop toks[j].at_) toks[j]) toks[j].line (toks.drop (j + 1))) := by
  have hd : toks.drop j = toks[j] :: toks.drop (j + 1) := (List.getElem_cons_drop (h := hj)).symm
  have hlen : (toks.drop (j + 1)).length = toks.length - (j + 1) := List.length_drop
  rw [hd] at h
  generalize toks[j] = t at *
  generalize hr : toks.drop (j + 1) = r at *
  generalize hl : src.drop a = l at *
  have hll : l.length = src.length - a := by rw [← hl, List.length_drop]
  cases h with
  | @last _ _ _ n _ hg ht =>
    rw [List.length_nil] at hlen
    subst ht
    have e1 : (endAt (a + l.length) (ln + n)).at_ = src.length := by show a + l.length = _; omega
    have e2 : src.drop src.length = [] := List.drop_length
    refine ⟨n, ?_, ?_, ?_, rfl, ?_, ?_, ?_, Or.inl ⟨rfl, by omega⟩⟩
    · rw [e1, List.take_of_length_le (by omega)]; exact hg
    · omega
    · omega
    · rw [e1, e2]; simp [szOf, endAt]
    · intro h; exact absurd h (by simp [endAt])
    · intro h; exact absurd h (by simp [endAt])
  | @more _ g l' _ _ n _ _ hgl hg hat hln hf hp =>
    obtain ⟨d1, d2⟩ := drop_take src a t.at_ g l' (hl.trans hgl) hat
    rw [hl] at d1
    have hsz := hf.size
    have hgl2 : l.length = g.length + l'.length := by rw [hgl, List.length_append]
    have hrne : 0 < r.length := by
      cases hp with
      | last => simp
      | more => simp
    rw [d1, d2]
    refine ⟨n, hg, by omega, by omega, hln, by omega, hf.text, hf.num, Or.inr ⟨hf.kind, by omega, ?_⟩⟩
    rw [← List.drop_drop, d2]
    exact hp

set_option maxHeartbeats 4000000 in
theorem between_any (s : ByteArray) (N : Nat) (w : World) (hs : s.size ≤ 20000) (hg : Gap s.data.toList N) :
    Calls Tryd.prog 18 #[.string s] w fun e w' => e = .returned (.tuple #[.int .i64 (N : Int), .bool true]) ∧ w' = w := by
  have hN := hg.le
  rw [← size_len] at hN
  have HG := hide hg
  clear hg
  go_enter Tryd.func18, Tryd.ntmps18
  go_wp2
  go_loop [4, 5] (fun n i => ∃ k ln m : Nat, k ≤ s.size ∧ n = .int .i64 (ln : Int) ∧ i = .int .i64 (k : Int) ∧ Gap (s.data.toList.drop k) m ∧ ln + m = N) (fun _ i => s.size - (intOf i).toNat)
  case atStart => exact ⟨0, 0, N, by omega, rfl, rfl, by rw [List.drop_zero]; exact unhide HG, by omega⟩
  case round =>
    obtain ⟨k, ln, m, hk, rfl, rfl, hg, hm⟩ := hrel
    by_cases hlt : k < s.size
    · have hb := by_at s k hlt
      rcases hg.inv with ⟨h0, _⟩ | ⟨c, r, m', h0, hc, rfl, hg'⟩ | ⟨c, r, h0, hc, hg'⟩ | ⟨hc, hg'⟩
      · rw [drop_by s k hlt] at h0; cases h0
      · rw [drop_by s k hlt] at h0
        obtain ⟨rfl, rfl⟩ := List.cons.inj h0
        have q : (((by_ s k).toNat : Int) == 10) = true := by simp; omega
        have HX := hide hg'
        clear hg hg' h0 hc
        go_wp2
        go_round
        case rel => exact ⟨k + 1, ln + 1, m', by omega, by go_num, by go_num, unhide HX, by omega⟩
        case measure => simp [intOf]; omega
      · rw [drop_by s k hlt] at h0
        obtain ⟨rfl, rfl⟩ := List.cons.inj h0
        have q10 : (((by_ s k).toNat : Int) == 10) = false := by simp; omega
        have q47 : (((by_ s k).toNat : Int) == 47) = false := by simp; omega
        have HX := hide hg'
        clear hg hg' h0
        by_cases c32 : (by_ s k).toNat = 32
        · have q32 : (((by_ s k).toNat : Int) != 32) = false := by simp; omega
          go_wp2
          go_round
          case rel => exact ⟨k + 1, ln, m, by omega, rfl, by go_num, unhide HX, by omega⟩
          case measure => simp [intOf]; omega
        have q32 : (((by_ s k).toNat : Int) != 32) = true := by simp; omega
        by_cases c9 : (by_ s k).toNat = 9
        · have q9 : (((by_ s k).toNat : Int) != 9) = false := by simp; omega
          go_wp2
          go_round
          case rel => exact ⟨k + 1, ln, m, by omega, rfl, by go_num, unhide HX, by omega⟩
          case measure => simp [intOf]; omega
        · have q9 : (((by_ s k).toNat : Int) != 9) = true := by simp; omega
          have q13 : (((by_ s k).toNat : Int) != 13) = false := by simp; omega
          go_wp2
          go_round
          case rel => exact ⟨k + 1, ln, m, by omega, rfl, by go_num, unhide HX, by omega⟩
          case measure => simp [intOf]; omega
      · have hk1 : k + 1 < s.size := by
          by_cases h1 : k + 1 < s.size
          · exact h1
          · rw [cmt_short h1] at hc; omega
        have hcc := cmt_at hk1
        have h47 : (by_ s k).toNat = 47 ∧ (by_ s (k + 1)).toNat = 47 := by
          by_cases h : (by_ s k).toNat = 47 ∧ (by_ s (k + 1)).toNat = 47
          · exact h
          · rw [hcc, if_neg h] at hc; omega
        rw [if_pos h47] at hcc
        have hb1 := by_at s (k + 1) hk1
        have q10 : (((by_ s k).toNat : Int) == 10) = false := by simp; omega
        have q47 : (((by_ s k).toNat : Int) == 47) = true := by simp; omega
        have q47' : (((by_ s (k + 1)).toNat : Int) == 47) = true := by simp; omega
        have HS := hide (show k + cmt (s.data.toList.drop k) = k + 1 + upTo10 (s.data.toList.drop (k + 1)) by rw [hcc, up_step hlt (by omega)]; omega)
        have HX := hide (show Gap (s.data.toList.drop (k + cmt (s.data.toList.drop k))) m by rw [← List.drop_drop]; exact hg')
        have HCL := hide (show k + cmt (s.data.toList.drop k) ≤ s.size by have := cmt_le (s.data.toList.drop k); rw [List.length_drop, ← size_len] at this; omega)
        clear hg hg' hcc h47 hc
        generalize k + cmt (s.data.toList.drop k) = K at *
        go_wp2
        go_loop [5] (fun i => ∃ j : Nat, k ≤ j ∧ j < s.size ∧ i = .int .i64 (j : Int) ∧ K = j + 1 + upTo10 (s.data.toList.drop (j + 1))) (fun i => s.size - (intOf i).toNat)
        case atStart => exact ⟨k, by omega, by omega, rfl, unhide HS⟩
        case round =>
          obtain ⟨j, hkj, hj, rfl, hK⟩ := hrel
          by_cases hj1 : j + 1 < s.size
          · have hbj := by_at s (j + 1) hj1
            by_cases h10 : (by_ s (j + 1)).toNat = 10
            · have qj : (((by_ s (j + 1)).toNat : Int) != 10) = false := by simp; omega
              have HE := hide (show K = j + 1 by rw [hK, up_stop hj1 h10])
              clear hK h10
              go_wp2
              go_round
              case rel => exact ⟨j + 1, ln, m, by omega, rfl, by go_num, by rw [← unhide HE]; exact unhide HX, by omega⟩
              case measure => simp [intOf]; omega
            · have qj : (((by_ s (j + 1)).toNat : Int) != 10) = true := by simp; omega
              have HE := hide (show K = j + 1 + 1 + upTo10 (s.data.toList.drop (j + 1 + 1)) by rw [hK, up_step hj1 h10]; omega)
              clear hK h10
              go_wp2
              go_round
              case rel => exact ⟨j + 1, by omega, by omega, by go_num, unhide HE⟩
              case measure => simp [intOf]; omega
          · have qj : decide ((j : Int) + 1 < (s.size : Int)) = false := decide_eq_false (by omega)
            have HE := hide (show K = j + 1 by rw [hK, up_end hj1])
            clear hK
            go_wp2
            go_round
            case rel => exact ⟨j + 1, ln, m, by omega, rfl, by go_num, by rw [← unhide HE]; exact unhide HX, by omega⟩
            case measure => simp [intOf]; omega
    · rw [drop_end hlt] at hg
      have e0 : m = 0 := by
        rcases hg.inv with ⟨_, h⟩ | ⟨_, _, _, h, _⟩ | ⟨_, _, h, _⟩ | ⟨h, _⟩
        · exact h
        · cases h
        · cases h
        · exact absurd h (by decide)
      have e1 : ln = N := by omega
      subst e1
      clear hg
      go_wp2
      go_ret2
      exact ⟨rfl, rfl⟩

theorem sz_int {l : List UInt8} {t : Tok} (h : t.k = 3) : szOf l t = (Lib.itoa t.n).length := by unfold szOf; rw [if_pos h]
theorem sz_text {R : ByteArray} {t : Tok} (h : t.k = 4) : szOf R.data.toList t = uk R := by
  unfold szOf
  rw [if_neg (by omega), if_pos h]
  cases hu : unquote R.data.toList with
  | none => exact (u_none hu).2.1.symm
  | some p => obtain ⟨a, b⟩ := p; exact (u_some hu).2.1.symm
theorem sz_semi {l : List UInt8} {t : Tok} (h : t.k = 6) (ht : t.t = [10]) : szOf l t = 0 := by unfold szOf; rw [if_neg (by omega), if_neg (by omega), if_pos ⟨h, ht⟩]
theorem sz_len {l : List UInt8} {t : Tok} (h3 : ¬ t.k = 3) (h4 : ¬ t.k = 4) (h6 : ¬ (t.k = 6 ∧ t.t = [10])) : szOf l t = t.t.length := by unfold szOf; rw [if_neg h3, if_neg h4, if_neg h6]

set_option maxHeartbeats 4000000 in
theorem long_any (s : ByteArray) (t : Tok) (w : World) (hs : s.size ≤ 20000) (ha : t.at_ ≤ s.size) (hn : t.k = 3 → 0 ≤ t.n ∧ t.n ≤ 9223372036854775807) :
    Calls Tryd.prog 19 #[.string s, tokV t.k ⟨t.t.toArray⟩ t.n (t.at_ : Int) (t.line : Int)] w fun e w' => e = .returned (.int .i64 ((szOf (s.data.toList.drop t.at_) t : Nat) : Int)) ∧ Below w.heap.size w w' := by
  have HB0 := hide ((Below.refl w.heap.size w).alloc (Nat.le_refl _) (.cells #[.int .i64 t.k, .string ⟨t.t.toArray⟩, .int .i64 t.n, .int .i64 (t.at_ : Int), .int .i64 (t.line : Int)] 42))
  unfold tokV
  by_cases h3 : t.k = 3
  · have E := hide (sz_int (l := s.data.toList.drop t.at_) h3)
    have ez := arr_size (Lib.itoa t.n)
    obtain ⟨n0, n1⟩ := hn h3
    have q3 : (t.k == 3) = true := by rw [h3]; rfl
    clear h3 hn
    rw [unhide E, ← ez]
    clear E ez
    go_enter Tryd.func19, Tryd.ntmps19
    go_wp2_with fail
    refine (refint_any t.n (by omega) n1 _).mono ?_
    rintro e w2 ⟨rfl, b2⟩
    have HB2 := hide ((unhide HB0).trans (b2.mono (unhide HB0).size))
    clear b2
    go_wp2
    go_ret
    exact ⟨rfl, unhide HB2⟩
  have q3 : (t.k == 3) = false := beq_false_of_ne h3
  by_cases h4 : t.k = 4
  · have E := hide (sz_text (R := s.extract t.at_ s.size) h4)
    rw [ext_list] at E
    have q4 : (t.k == 4) = true := by rw [h4]; rfl
    have hz : (s.extract t.at_ s.size).size = s.size - t.at_ := ext_size s _ ha
    clear h3 h4 hn
    rw [unhide E]
    clear E
    go_enter Tryd.func19, Tryd.ntmps19
    go_wp2_with fail
    refine (refunquote_any _ _ (by omega)).mono ?_
    rintro e w2 ⟨rfl, b2⟩
    have HB2 := hide ((unhide HB0).trans (b2.mono (unhide HB0).size))
    clear b2
    unfold Uend
    go_wp2
    go_ret
    exact ⟨rfl, unhide HB2⟩
  have q4 : (t.k == 4) = false := beq_false_of_ne h4
  have ez := arr_size t.t
  by_cases h6 : t.k = 6
  · have q6 : (t.k == 6) = true := by rw [h6]; rfl
    have qt := eqb ⟨t.t.toArray⟩ [10]
    rw [arr_list] at qt
    by_cases ht : t.t = [10]
    · rw [decide_eq_true ht] at qt
      have E := hide (sz_semi (l := s.data.toList.drop t.at_) h6 ht)
      clear h3 h4 h6 hn ez ht
      rw [unhide E]
      clear E
      generalize (⟨t.t.toArray⟩ : ByteArray) = R at *
      go_enter Tryd.func19, Tryd.ntmps19
      go_wp2
      go_ret
      exact ⟨rfl, unhide HB0⟩
    · rw [decide_eq_false ht] at qt
      have E := hide (sz_len (l := s.data.toList.drop t.at_) h3 h4 (fun e => ht e.2))
      clear h3 h4 h6 hn ht
      rw [unhide E, ← ez]
      clear E ez
      generalize (⟨t.t.toArray⟩ : ByteArray) = R at *
      go_enter Tryd.func19, Tryd.ntmps19
      go_wp2
      go_ret
      exact ⟨rfl, unhide HB0⟩
  · have q6 : (t.k == 6) = false := beq_false_of_ne h6
    have E := hide (sz_len (l := s.data.toList.drop t.at_) h3 h4 (fun e => h6 e.1))
    clear h3 h4 h6 hn
    rw [unhide E, ← ez]
    clear E ez
    generalize (⟨t.t.toArray⟩ : ByteArray) = R at *
    go_enter Tryd.func19, Tryd.ntmps19
    go_wp2
    go_ret
    exact ⟨rfl, unhide HB0⟩

end Go.Proofs.YtjkogjmbmkopiaaDoor
