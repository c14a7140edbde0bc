/- The document's Scan. -/
import Derived.Test.YtjkogjmbmkopiaaDoorPe
namespace Go.Proofs.YtjkogjmbmkopiaaDoor
open Go.RowKit

/-- what Scan answers -/
def ScanPost (s : ByteArray) (w : World) (e : Ending) (w' : World) : Prop :=
  (∀ toks, scan s.data.toList = .ok toks → ∃ v, e = .returned (.tuple #[v, .int .i64 0, .int .i64 0]) ∧ OwnT w' (w.heap.size + 1) v toks) ∧
  (∀ a x, scan s.data.toList = .error (a, x) → e = .returned (.tuple #[.slice none 0 0, .int .i64 (a : Int), .int .i64 x])) ∧ Below w.heap.size w w'

theorem post_err {s : ByteArray} {w w' : World} {a : Nat} {x : Int} (h : scan s.data.toList = .error (a, x)) (hb : Below w.heap.size w w') : ScanPost s w (.returned (.tuple #[.slice none 0 0, .int .i64 (a : Int), .int .i64 x])) w' :=
  ⟨fun toks e => (by rw [h] at e; cases e), fun b y e => (by rw [h] at e; cases e; rfl), hb⟩
theorem post_ok {s : ByteArray} {w w' : World} {v : Value} {toks : List Tok} (h : scan s.data.toList = .ok toks) (ho : OwnT w' (w.heap.size + 1) v toks) (hb : Below w.heap.size w w') : ScanPost s w (.returned (.tuple #[v, .int .i64 0, .int .i64 0])) w' :=
  ⟨fun t e => (by rw [h] at e; cases e; exact ⟨v, rfl, ho⟩), fun b y e => (by rw [h] at e; cases e), hb⟩

theorem five_newC {w : World} {C : Nat} (hC : C = w.heap.size) (a b c d e : Value) (t : TypeId) : ∀ (j : Nat) (u : Value), [a, b, c, d, e][j]? = some u → (w.alloc (.cells #[a, b, c, d, e] t)).cell? ((⟨C, 0, none⟩ : Addr).add j) = some u := by
  subst hC
  exact five_new w a b c d e t

theorem scan_long' {s : ByteArray} (h : 20000 < s.size) : scan s.data.toList = .error (0, 31) := by unfold scan; rw [if_pos (by rw [← size_len]; exact h)]

set_option maxHeartbeats 8000000 in
set_option maxRecDepth 100000 in
theorem refscan_any (s : ByteArray) (w : World) (hs : s.size ≤ 281474976710656) :
    Calls Tryd.prog 8 #[.string s] w (ScanPost s w) := by
  obtain ⟨i0, hi0, hz0, hz1, hz2⟩ := info_parts Tryd.infoT
  by_cases hl : 20000 < s.size
  · have E := hide (scan_long' hl)
    have q : decide (20000 < (s.size : Int)) = true := decide_eq_true (by omega)
    clear hl
    go_enter Tryd.func8, Tryd.ntmps8
    go_wp2
    go_ret3
    exact post_err (unhide E) (Below.refl _ _)
  have HS := hide (mids_start hl)
  have q : decide (20000 < (s.size : Int)) = false := decide_eq_false (by omega)
  have hs2 : s.size ≤ 20000 := by omega
  clear hl hs
  go_enter Tryd.func8, Tryd.ntmps8
  go_wp2
  clear q
  go_loopw [5, 6, 8] (fun v n i wr => ∃ (k ln : Nat) (lk : Int) (lt : List UInt8) (out : List Tok), k ≤ s.size ∧ ln ≤ k + 1 ∧ n = .int .i64 (ln : Int) ∧ i = .int .i64 (k : Int) ∧ OwnT wr (w.heap.size + 1) v out ∧ Last wr w.heap.size lk lt ∧ Below w.heap.size w wr ∧ out.length ≤ k ∧ MidS s k ln lk lt out) (fun _ _ i _ => s.size - (intOf i).toNat)
  case atStart => exact ⟨0, 1, 0, [], [], by omega, by omega, rfl, rfl, OwnT.nil _ _, ⟨0, 0, 0, (MapKept.heap_alloc w _).1⟩, (Below.refl w.heap.size w).alloc (Nat.le_refl _) _, by simp, unhide HS⟩
  case round =>
    obtain ⟨k, ln, lk, lt, out, hk, hln, rfl, rfl, hO, hL, hB, hol, hM⟩ := hrel
    have hsz := hB.size
    have hszl := hL.tok.lt
    have HO := hide hO
    have HL := hide hL
    have HB := hide hB
    have HM := hide hM
    clear hO hL hB hM HS
    by_cases hlt : k < s.size
    · have hb := by_at s k hlt
      have hcl := cmt_le (s.data.toList.drop k)
      rw [List.length_drop, ← size_len] at hcl
      by_cases hc : 0 < cmt (s.data.toList.drop k)
      · have N := hide (mids_comment (unhide HM) hlt hc)
        clear HM
        go_wp2_with fail
        refine (comment_any s k _ (by omega) hlt).mono ?_
        rintro e w1 ⟨rfl, rfl⟩
        generalize cmt (s.data.toList.drop k) = cm at *
        go_wp2
        go_roundw
        case rel => exact ⟨k + cm, ln, lk, lt, out, by omega, by omega, rfl, by go_num, unhide HO, unhide HL, unhide HB, by omega, unhide N⟩
        case measure => simp [intOf]; omega
      · have hc0 : cmt (s.data.toList.drop k) = 0 := by omega
        by_cases c10 : (by_ s k).toNat = 10
        · have q10 : (((by_ s k).toNat : Int) == 10) = true := by simp; omega
          have N := hide (mids_line (unhide HM) hlt hc c10)
          clear HM hc c10 hcl
          go_wp2_with fail
          refine (comment_any s k _ (by omega) hlt).mono ?_
          rintro e w1 ⟨rfl, rfl⟩
          rw [hc0]
          clear hc0
          obtain ⟨n0, a0, l0, c0, c1, c2, c3, c4⟩ := (unhide HL).cell
          have f := fun i => (unhide HL).tok.froz i
          go_wp2_with fail
          refine (refcalls_any lk ⟨lt.toArray⟩ n0 a0 l0 _).mono ?_
          rintro e w2 ⟨rfl, b2⟩
          rw [arr_list]
          have HO1 := hide ((unhide HO).below b2)
          have HL1 := hide ((unhide HL).below b2)
          have HB1 := hide ((unhide HB).trans (b2.mono (unhide HB).size))
          have hsz1 := b2.size
          clear b2 c0 c1 c2 c3 c4 f HO HL HB
          cases hcl : callsK lk lt
          · rw [hcl, if_neg (by decide), List.append_nil] at N
            obtain ⟨n1, a1, l1, c0, c1, c2, c3, c4⟩ := (unhide HL1).cell
            have f := fun i => (unhide HL1).tok.froz i
            clear hcl
            go_wp2
            go_roundw
            case rel => exact ⟨k + 1, ln + 1, 0, [], out, by omega, by omega, by go_num, by go_num, (unhide HO1).put (C := w.heap.size) (Nat.lt_succ_self _) (.int .i64 0) (.string ⟨#[]⟩) (.int .i64 0) (.int .i64 0) (.int .i64 0), Last.put (unhide HL1).tok 0 0 0 0 [], put5_below (unhide HB1) (Nat.le_refl _) (.int .i64 0) (.string ⟨#[]⟩) (.int .i64 0) (.int .i64 0) (.int .i64 0), by omega, unhide N⟩
            case measure => simp [intOf]; omega
          · rw [hcl, if_pos rfl] at N
            have hm1 : out.length + 1 ≤ maxLen := by unfold maxLen; omega
            clear hcl
            go_wp2_with (first
              | (at_builtin; refine wpList_append_own _ rfl _ _ 22 rfl (w.heap.size + 1) 42 i0 zeroTok 5 48 Tryd.underlying22 hi0 hz0 hz1 hz2 rfl (by decide) _ _ _ rfl ((unhide HO1).alloc _) ⟨w2.heap.size, 0, none⟩ 1 1 [.int .i64 6, .string ⟨#[10]⟩, .int .i64 0, .int .i64 (k : Int), .int .i64 (ln : Int)] rfl rfl (five_new _ _ _ _ _ _ _) (five_one _ _ _ _ _) hm1 (by omega) (by rw [World.size_alloc]; omega) ?_)
              | fail)
            intro v' w5 hv hgrow _
            have HO5 : Hid (OwnT w5 (w.heap.size + 1) v' (out ++ [semiAt k ln])) := hide (OwnT.one hv)
            have HL5 := hide (((unhide HL1).alloc _).grown hgrow (ownB (unhide HO1)) (by omega))
            have HB5 := hide (((unhide HB1).alloc (unhide HB1).size _).grown hgrow (by rw [World.size_alloc]; omega) (fun j e => Nat.le_of_succ_le (ownB (unhide HO1) j e)))
            clear hv hgrow HO1 HL1 HB1
            obtain ⟨n1, a1, l1, c0, c1, c2, c3, c4⟩ := (unhide HL5).cell
            have f := fun i => (unhide HL5).tok.froz i
            go_wp2
            go_roundw
            case rel => exact ⟨k + 1, ln + 1, 0, [], out ++ [semiAt k ln], by omega, by omega, by go_num, by go_num, (unhide HO5).put (C := w.heap.size) (Nat.lt_succ_self _) (.int .i64 0) (.string ⟨#[]⟩) (.int .i64 0) (.int .i64 0) (.int .i64 0), Last.put (unhide HL5).tok 0 0 0 0 [], put5_below (unhide HB5) (Nat.le_refl _) (.int .i64 0) (.string ⟨#[]⟩) (.int .i64 0) (.int .i64 0) (.int .i64 0), by rw [List.length_append]; simp; omega, unhide N⟩
            case measure => simp [intOf]; omega
        · have q10 : (((by_ s k).toNat : Int) == 10) = false := by simp; omega
          by_cases c32 : (by_ s k).toNat = 32
          · have q32 : (((by_ s k).toNat : Int) == 32) = true := by simp; omega
            have N := hide (mids_blank (unhide HM) hlt hc c10 (Or.inl c32))
            clear HM hc c10 hcl c32
            go_wp2_with fail
            refine (comment_any s k _ (by omega) hlt).mono ?_
            rintro e w1 ⟨rfl, rfl⟩
            rw [hc0]
            clear hc0
            go_wp2
            go_roundw
            case rel => exact ⟨k + 1, ln, lk, lt, out, by omega, by omega, rfl, by go_num, unhide HO, unhide HL, unhide HB, by omega, unhide N⟩
            case measure => simp [intOf]; omega
          have q32 : (((by_ s k).toNat : Int) == 32) = false := by simp; omega
          by_cases c9 : (by_ s k).toNat = 9
          · have q9 : (((by_ s k).toNat : Int) == 9) = true := by simp; omega
            have N := hide (mids_blank (unhide HM) hlt hc c10 (Or.inr (Or.inl c9)))
            clear HM hc c10 hcl c32 c9
            go_wp2_with fail
            refine (comment_any s k _ (by omega) hlt).mono ?_
            rintro e w1 ⟨rfl, rfl⟩
            rw [hc0]
            clear hc0
            go_wp2
            go_roundw
            case rel => exact ⟨k + 1, ln, lk, lt, out, by omega, by omega, rfl, by go_num, unhide HO, unhide HL, unhide HB, by omega, unhide N⟩
            case measure => simp [intOf]; omega
          have q9 : (((by_ s k).toNat : Int) == 9) = false := by simp; omega
          by_cases c13 : (by_ s k).toNat = 13
          · have q13 : (((by_ s k).toNat : Int) == 13) = true := by simp; omega
            have N := hide (mids_blank (unhide HM) hlt hc c10 (Or.inr (Or.inr c13)))
            clear HM hc c10 hcl c32 c9 c13
            go_wp2_with fail
            refine (comment_any s k _ (by omega) hlt).mono ?_
            rintro e w1 ⟨rfl, rfl⟩
            rw [hc0]
            clear hc0
            go_wp2
            go_roundw
            case rel => exact ⟨k + 1, ln, lk, lt, out, by omega, by omega, rfl, by go_num, unhide HO, unhide HL, unhide HB, by omega, unhide N⟩
            case measure => simp [intOf]; omega
          · have q13 : (((by_ s k).toNat : Int) == 13) = false := by simp; omega
            have hnb : ¬ ((by_ s k).toNat = 32 ∨ (by_ s k).toNat = 9 ∨ (by_ s k).toNat = 13) := by omega
            by_cases he : (tk (s.data.toList.drop k)).e = 0
            · have N := hide (mids_token (unhide HM) hlt hc c10 hnb he)
              have hlen := tk_len he
              rw [List.length_drop, ← size_len] at hlen
              have q0 : ((tk (s.data.toList.drop k)).e != 0) = false := by rw [he]; rfl
              clear HM hc c10 hcl c32 c9 c13 hnb he
              go_wp2_with fail
              refine (comment_any s k _ (by omega) hlt).mono ?_
              rintro e w1 ⟨rfl, rfl⟩
              rw [hc0]
              clear hc0
              go_wp2_with fail
              refine (token_any s k _ (by omega) hlt).mono ?_
              rintro e w2 ⟨rfl, b2⟩
              rw [tkEnd_def]
              have HB1 := hide ((unhide HB).trans (b2.mono (unhide HB).size))
              have HO1 := hide ((unhide HO).below b2)
              have HL1 := hide ((unhide HL).below b2)
              have hsz1 := b2.size
              clear b2 HB HO HL
              generalize tk (s.data.toList.drop k) = x at *
              have hb3 := (Below.refl w2.heap.size w2).alloc (Nat.le_refl _) (.cells #[.int .i64 x.k, .string ⟨x.t.toArray⟩, .int .i64 x.n, .int .i64 (k : Int), .int .i64 (ln : Int)] 42)
              have HB3 := hide ((unhide HB1).trans (hb3.mono (unhide HB1).size))
              have HO3 := hide ((unhide HO1).below hb3)
              have HL3 := hide ((unhide HL1).below hb3)
              have HT3 := hide (MapKept.heap_alloc w2 (.cells #[.int .i64 x.k, .string ⟨x.t.toArray⟩, .int .i64 x.n, .int .i64 (k : Int), .int .i64 (ln : Int)] 42)).1
              have HF3 := hide (own_far (unhide HO1))
              have hm1 : out.length + 1 ≤ maxLen := by unfold maxLen; omega
              have hsz3 : (w2.alloc (.cells #[.int .i64 x.k, .string ⟨x.t.toArray⟩, .int .i64 x.n, .int .i64 (k : Int), .int .i64 (ln : Int)] 42)).heap.size = w2.heap.size + 1 := World.size_alloc ..
              clear hb3 HB1 HO1 HL1
              go_wp2_with (first | (at_builtin; refine wpList_append_own _ rfl _ _ 22 rfl (w.heap.size + 1) 42 i0 zeroTok 5 48 Tryd.underlying22 hi0 hz0 hz1 hz2 rfl (by decide) _ _ _ rfl ((unhide HO3).alloc _) ⟨w2.heap.size + 1, 0, none⟩ 1 1 [.int .i64 x.k, .string ⟨x.t.toArray⟩, .int .i64 x.n, .int .i64 (k : Int), .int .i64 (ln : Int)] rfl rfl (five_newC hsz3.symm _ _ _ _ _ _) (five_one _ _ _ _ _) hm1 (by omega) (by rw [World.size_alloc]; omega) ?_) | fail)
              intro v' w5 hv hgrow _
              have HO5 : Hid (OwnT w5 (w.heap.size + 1) v' (out ++ [⟨x.k, x.t, x.n, k, ln⟩])) := hide (OwnT.one hv)
              have HL5 := hide (((unhide HL3).alloc _).grown hgrow (ownB (unhide HO3)) (by omega))
              have HB5 := hide (((unhide HB3).alloc (unhide HB3).size _).grown hgrow (by rw [World.size_alloc]; omega) (fun j e => Nat.le_of_succ_le (ownB (unhide HO3) j e)))
              have ht5 := (hgrow.block w2.heap.size (by rw [World.size_alloc, World.size_alloc]; omega) (fun e => unhide HF3 _ e.symm rfl)).trans (((((Below.refl _ _).alloc (Nat.le_refl _) _).block w2.heap.size (by rw [World.size_alloc]; omega)) : _ = (w2.alloc (.cells #[.int .i64 x.k, .string ⟨x.t.toArray⟩, .int .i64 x.n, .int .i64 (k : Int), .int .i64 (ln : Int)] 42)).heap[w2.heap.size]?).trans (unhide HT3))
              have t0 : w5.cell? ⟨w2.heap.size, 0, none⟩ = some (.int .i64 x.k) := by simp [World.cell?, ht5]
              have t1 : w5.cell? ⟨w2.heap.size, 1, none⟩ = some (.string ⟨x.t.toArray⟩) := by simp [World.cell?, ht5]
              have t2 : w5.cell? ⟨w2.heap.size, 2, none⟩ = some (.int .i64 x.n) := by simp [World.cell?, ht5]
              have t3 : w5.cell? ⟨w2.heap.size, 3, none⟩ = some (.int .i64 (k : Int)) := by simp [World.cell?, ht5]
              have t4 : w5.cell? ⟨w2.heap.size, 4, none⟩ = some (.int .i64 (ln : Int)) := by simp [World.cell?, ht5]
              clear hv hgrow HO3 HL3 HB3 HT3 HF3 ht5
              obtain ⟨n1, a1, l1, c0, c1, c2, c3, c4⟩ := (unhide HL5).cell
              have f := fun i => (unhide HL5).tok.froz i
              go_wp2
              go_roundw
              case rel => exact ⟨k + x.len, ln, x.k, x.t, out ++ [(⟨x.k, x.t, x.n, k, ln⟩ : Tok)], by omega, by omega, rfl, by go_num, (unhide HO5).put (C := w.heap.size) (Nat.lt_succ_self _) (.int .i64 x.k) (.string ⟨x.t.toArray⟩) (.int .i64 x.n) (.int .i64 (k : Int)) (.int .i64 (ln : Int)), Last.put (unhide HL5).tok x.k x.n (k : Int) (ln : Int) x.t, put5_below (unhide HB5) (Nat.le_refl _) (.int .i64 x.k) (.string ⟨x.t.toArray⟩) (.int .i64 x.n) (.int .i64 (k : Int)) (.int .i64 (ln : Int)), by rw [List.length_append]; simp; omega, unhide N⟩
              case measure => simp [intOf]; omega
            · have E := hide (mids_error (unhide HM) hlt hc c10 hnb he)
              have q0 : ((tk (s.data.toList.drop k)).e != 0) = true := bne_iff_ne.2 he
              clear HM hc c10 hcl c32 c9 c13 hnb he
              go_wp2_with fail
              refine (comment_any s k _ (by omega) hlt).mono ?_
              rintro e w1 ⟨rfl, rfl⟩
              rw [hc0]
              clear hc0
              go_wp2_with fail
              refine (token_any s k _ (by omega) hlt).mono ?_
              rintro e w2 ⟨rfl, b2⟩
              rw [tkEnd_def]
              have HB1 := hide ((unhide HB).trans (b2.mono (unhide HB).size))
              clear b2 HB HO HL
              generalize tk (s.data.toList.drop k) = x at *
              go_wp2
              go_ret3
              exact post_err (unhide E) ((unhide HB1).alloc (unhide HB1).size _)
    · have E := hide (mids_end (unhide HM) hlt hk)
      clear HM
      obtain ⟨n0, a0, l0, c0, c1, c2, c3, c4⟩ := (unhide HL).cell
      have f := fun i => (unhide HL).tok.froz i
      have hm1 : out.length + 1 ≤ maxLen := by unfold maxLen; omega
      have hm2 : out.length + 1 + 1 ≤ maxLen := by unfold maxLen; omega
      go_wp2_with fail
      refine (refcalls_any lk ⟨lt.toArray⟩ n0 a0 l0 _).mono ?_
      rintro e w2 ⟨rfl, b2⟩
      rw [arr_list]
      have HO1 := hide ((unhide HO).below b2)
      have HB1 := hide ((unhide HB).trans (b2.mono (unhide HB).size))
      have hsz1 := b2.size
      clear b2 c0 c1 c2 c3 c4 f HO HL HB
      cases hcl : callsK lk lt
      · rw [hcl, if_neg (by decide), List.nil_append] at E
        clear hcl
        go_wp2_with (first | (at_builtin; refine wpList_append_own _ rfl _ _ 22 rfl (w.heap.size + 1) 42 i0 zeroTok 5 48 Tryd.underlying22 hi0 hz0 hz1 hz2 rfl (by decide) _ _ _ rfl ((unhide HO1).alloc _) ⟨w2.heap.size, 0, none⟩ 1 1 [.int .i64 0, .string ⟨#[]⟩, .int .i64 0, .int .i64 (k : Int), .int .i64 (ln : Int)] rfl rfl (five_new _ _ _ _ _ _ _) (five_one _ _ _ _ _) hm1 (by omega) (by rw [World.size_alloc]; omega) ?_) | fail)
        intro v' w5 hv hgrow _
        have HO5 : Hid (OwnT w5 (w.heap.size + 1) v' (out ++ [endAt k ln])) := hide (OwnT.one hv)
        have HB5 := hide (((unhide HB1).alloc (unhide HB1).size _).grown hgrow (by rw [World.size_alloc]; omega) (fun j e => Nat.le_of_succ_le (ownB (unhide HO1) j e)))
        clear hv hgrow HO1 HB1
        go_wp2
        go_ret3
        exact post_ok (unhide E) (unhide HO5) (unhide HB5)
      · rw [hcl, if_pos rfl] at E
        clear hcl
        go_wp2_with (first | (at_builtin; refine wpList_append_own _ rfl _ _ 22 rfl (w.heap.size + 1) 42 i0 zeroTok 5 48 Tryd.underlying22 hi0 hz0 hz1 hz2 rfl (by decide) _ _ _ rfl ((unhide HO1).alloc _) ⟨w2.heap.size, 0, none⟩ 1 1 [.int .i64 6, .string ⟨#[10]⟩, .int .i64 0, .int .i64 (k : Int), .int .i64 (ln : Int)] rfl rfl (five_new _ _ _ _ _ _ _) (five_one _ _ _ _ _) hm1 (by omega) (by rw [World.size_alloc]; omega) ?_) | fail)
        intro v' w5 hv hgrow _
        have HO5 : Hid (OwnT w5 (w.heap.size + 1) v' (out ++ [semiAt k ln])) := hide (OwnT.one hv)
        have HB5 := hide (((unhide HB1).alloc (unhide HB1).size _).grown hgrow (by rw [World.size_alloc]; omega) (fun j e => Nat.le_of_succ_le (ownB (unhide HO1) j e)))
        have hsz5 := (unhide HB5).size
        have hm3 : (out ++ [semiAt k ln]).length + 1 ≤ maxLen := by rw [List.length_append]; exact hm2
        have hm4 : ((out ++ [semiAt k ln]).length + 1) * 48 ≤ 140737488355328 := by rw [List.length_append]; simp; omega
        have hm5 : w.heap.size + 1 ≤ w5.heap.size := by have := hgrow.size; rw [World.size_alloc] at this; omega
        clear hv hgrow HO1 HB1
        go_wp2_with (first | (at_builtin; refine wpList_append_own _ rfl _ _ 22 rfl (w.heap.size + 1) 42 i0 zeroTok 5 48 Tryd.underlying22 hi0 hz0 hz1 hz2 rfl (by decide) _ _ _ rfl ((unhide HO5).alloc _) ⟨w5.heap.size, 0, none⟩ 1 1 [.int .i64 0, .string ⟨#[]⟩, .int .i64 0, .int .i64 (k : Int), .int .i64 (ln : Int)] rfl rfl (five_new _ _ _ _ _ _ _) (five_one _ _ _ _ _) hm3 hm4 (by rw [World.size_alloc]; omega) ?_) | fail)
        intro v'' w6 hv hgrow _
        have HO6 := hide (OwnT.one (l := out ++ [semiAt k ln]) (t := endAt k ln) (by rw [List.length_append]; exact hv))
        have HB6 := hide (((unhide HB5).alloc (unhide HB5).size _).grown hgrow (by rw [World.size_alloc]; omega) (fun j e => Nat.le_of_succ_le (ownB (unhide HO5) j e)))
        clear hv hgrow HO5 HB5
        go_wp2
        go_ret3
        exact post_ok (unhide E) (by rw [List.append_assoc] at HO6; exact unhide HO6) (unhide HB6)

end Go.Proofs.YtjkogjmbmkopiaaDoor
