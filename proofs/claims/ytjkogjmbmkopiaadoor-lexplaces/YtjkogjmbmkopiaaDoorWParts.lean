/- The law of two sources with a line's end between: its walk. -/
import Derived.Test.YtjkogjmbmkopiaaDoorQa
namespace Go.Proofs.YtjkogjmbmkopiaaDoor
open Go.RowKit

theorem cat_line (a b : ByteArray) : (a ++ (⟨#[10]⟩ : ByteArray) ++ b).data.toList = a.data.toList ++ 10 :: b.data.toList := by
  simp [ByteArray.data_append]

/-- an answer of Scan, told in short -/
theorem lex_cases {s : ByteArray} {w : World} {e : Ending} {w' : World} (h : LexPost s w e w') :
    (∃ toks g cap, scan s.data.toList = .ok toks ∧ e = .returned (.tuple #[.slice (some ⟨g, 0, none⟩) toks.length cap, .nilIface]) ∧ w.heap.size ≤ g ∧ RowAt w' g toks ∧ Below w.heap.size w w') ∨
    (∃ a x b, scan s.data.toList = .error (a, x) ∧ e = .returned (.tuple #[.slice none 0 0, .iface 51 (.pointer (some ⟨b, 0, none⟩))]) ∧ w.heap.size ≤ b ∧ w'.heap[b]? = some (.cells #[.int .i64 (a : Int), .int .i64 x] 53 (0, 0)) ∧ Below w.heap.size w w') := by
  obtain ⟨h1, h2, h3⟩ := h
  cases hs : scan s.data.toList with
  | ok toks =>
    obtain ⟨v, he, ho⟩ := h1 toks hs
    obtain ⟨g, cap, rfl, hg, hr⟩ := ho.row (scan_bounds hs).2.2.1
    exact Or.inl ⟨toks, g, cap, rfl, he, by omega, hr, h3⟩
  | error p =>
    obtain ⟨a, x⟩ := p
    obtain ⟨b, he, hb, hc⟩ := h2 a x hs
    exact Or.inr ⟨a, x, b, rfl, he, hb, hc, h3⟩

theorem parts_no {a b : ByteArray} {X Y : List Tok} {p : Nat} {x : Int} (h1 : scan a.data.toList = .ok X) (h2 : scan b.data.toList = .ok Y) (hs : a.size + 1 + b.size ≤ 20000) (h3 : scan (a ++ (⟨#[10]⟩ : ByteArray) ++ b).data.toList = .error (p, x)) : False := by
  rw [cat_line] at h3
  obtain ⟨x0, m, _, e⟩ := scan_parts (by rw [← size_len, ← size_len]; exact hs) h1 h2
  rw [e] at h3
  cases h3

theorem parts_yes {a b : ByteArray} {X Y Z : List Tok} (h1 : scan a.data.toList = .ok X) (h2 : scan b.data.toList = .ok Y) (hs : a.size + 1 + b.size ≤ 20000) (h3 : scan (a ++ (⟨#[10]⟩ : ByteArray) ++ b).data.toList = .ok Z) :
    ∃ n m : Nat, X.length = n + 1 ∧ Z.length = n + Y.length ∧ (∀ i (_ : i < n) (g1 : i < X.length) (g2 : i < Z.length), Z[i] = X[i]) ∧ (∀ (g : n < X.length), X[n].line = m) ∧ (∀ i (h : i < Y.length) (g1 : n + i < Z.length), Z[n + i] = Y[i].sh (a.size + 1) m) := by
  rw [cat_line] at h3
  obtain ⟨x0, m, rfl, e⟩ := scan_parts (by rw [← size_len, ← size_len]; exact hs) h1 h2
  rw [e] at h3
  cases h3
  refine ⟨x0.length, m, by simp, by simp, fun i hi g1 g2 => ?_, fun g => ?_, fun i hi g1 => ?_⟩
  · rw [List.getElem_append_left hi, List.getElem_append_left hi]
  · rw [List.getElem_append_right (Nat.le_refl _)]
    simp [endAt]
  · rw [List.getElem_append_right (by omega), List.getElem_map]
    simp only [Nat.add_sub_cancel_left, ← size_len]

theorem lex_a {w : World} {e : Ending} {w' : World} (h : LexPost ⟨#[97]⟩ w e w') : ∃ g cap, e = .returned (.tuple #[.slice (some ⟨g, 0, none⟩) 3 cap, .nilIface]) ∧ Below w.heap.size w w' := by
  rcases lex_cases h with ⟨T, g, cap, hs, rfl, _, _, hb⟩ | ⟨_, _, _, hs, _⟩
  · have e : T = [⟨1, [97], 0, 0, 1⟩, semiAt 1 1, endAt 1 1] := Except.ok.inj (hs.symm.trans scan_a)
    subst e
    exact ⟨g, cap, rfl, hb⟩
  · exact absurd (hs.symm.trans scan_a) (by intro e; cases e)

set_option maxHeartbeats 16000000 in
theorem parts_walk (a b : ByteArray) (w : World) (ha : a.size ≤ 140737488355327) (hb : b.size ≤ 140737488355327) (hV : Vars w) :
    Calls Tryd.prog 7 #[.string a, .string b] w fun e w' => e = .returned (.bool true) ∧ Below w.heap.size w w' := by
  have hc : (a ++ (⟨#[10]⟩ : ByteArray) ++ b).size = a.size + 1 + b.size := by simp [ByteArray.size_append]; rfl
  have HB0 := hide (Below.refl w.heap.size w)
  have HV0 := hide hV
  clear hV
  go_enter Tryd.func7, Tryd.ntmps7
  go_wp2_with fail
  refine (lexscan_any a _ (by omega) (unhide HV0)).mono ?_
  intro e w1 h1
  rcases lex_cases h1 with ⟨X1, g1, c1, s1, rfl, hg1, r1, b1⟩ | ⟨p1, x1, d1, s1, rfl, _, _, b1⟩
  · have HB1 := hide ((unhide HB0).trans (b1.mono (unhide HB0).size))
    have HV1 := hide ((unhide HV0).below b1)
    have S1 := hide s1
    have hz1 := r1.lt
    have hy1 := b1.size
    have R1 := hide r1
    clear h1 b1 s1 r1
    go_wp2_with fail
    refine (lexscan_any b _ (by omega) (unhide HV1)).mono ?_
    intro e w2 h2
    rcases lex_cases h2 with ⟨X2, g2, c2, s2, rfl, hg2, r2, b2⟩ | ⟨p2, x2, d2, s2, rfl, _, _, b2⟩
    · have HB2 := hide ((unhide HB1).trans (b2.mono (unhide HB1).size))
      have HV2 := hide ((unhide HV1).below b2)
      have S2 := hide s2
      have hz2 := r2.lt
      have hy2 := b2.size
      have R2 := hide r2
      have R1 := hide ((unhide R1).below b2 hz1 (Nat.le_refl _))
      have hz1 := (unhide R1).lt
      clear h2 b2 s2 r2
      go_wp2_with fail
      refine (lexscan_any _ _ (by omega) (unhide HV2)).mono ?_
      intro e w3 h3
      rcases lex_cases h3 with ⟨X3, g3, c3, s3, rfl, hg3, r3, b3⟩ | ⟨p3, x3, d3, s3, rfl, _, _, b3⟩
      · have HB3 := hide ((unhide HB2).trans (b3.mono (unhide HB2).size))
        have HV3 := hide ((unhide HV2).below b3)
        have S3 := hide s3
        have hz3 := r3.lt
        have hy3 := b3.size
        have R3 := hide r3
        have R1 := hide ((unhide R1).below b3 hz1 (Nat.le_refl _))
        have hz1 := (unhide R1).lt
        have R2 := hide ((unhide R2).below b3 hz2 (Nat.le_refl _))
        have hz2 := (unhide R2).lt
        clear h3 b3 s3 r3
        by_cases hsum : a.size + 1 + b.size ≤ 20000
        · have qs : decide (20000 < (a.size : Int) + 1 + (b.size : Int)) = false := decide_eq_false (by omega)
          go_wp2_with fail
          refine (lexscan_any ⟨#[97]⟩ _ (by decide) (unhide HV3)).mono ?_
          intro e w4 h4
          obtain ⟨g4, c4, rfl, b4⟩ := lex_a h4
          have HB4 := hide ((unhide HB3).trans (b4.mono (unhide HB3).size))
          have R1 := hide ((unhide R1).below b4 hz1 (Nat.le_refl _))
          have R2 := hide ((unhide R2).below b4 hz2 (Nat.le_refl _))
          have R3 := hide ((unhide R3).below b4 hz3 (Nat.le_refl _))
          clear h4 b4
          have hz1 := (unhide R1).lt
          have hz2 := (unhide R2).lt
          have hz3 := (unhide R3).lt
          obtain ⟨n, m, P1, P2, P3, P4, P5⟩ := parts_yes (unhide S1) (unhide S2) hsum (unhide S3)
          obtain ⟨_, B1, _, B1'⟩ := scan_bounds (unhide S1)
          obtain ⟨_, B2, _, B2'⟩ := scan_bounds (unhide S2)
          have cl := ((unhide R1).cell n (by omega)).2.2.2.2
          have hm := (B1 _ (List.getElem_mem (show n < X1.length by omega))).2
          rw [P4 (by omega)] at cl hm
          have H3 := hide P3
          have H5 := hide P5
          have HB2' := hide B2
          rw [P1] at B1'
          have HP1 := hide P1
          have HP2 := hide P2
          clear P3 P4 P5 B1 B2 HV0 HV1 HV2 HV3 HB1 HB2 HB3 S1 S2 S3 hg1 hg2 hg3 hy1 hy2 hy3
          rw [P1, P2]
          clear P1 P2
          go_wp2
          go_loopw [15] (fun i wr => ∃ k q : Nat, k ≤ n ∧ i = .int .i64 (k : Int) ∧ wr = w4.drewN q) (fun i _ => n - (intOf i).toNat)
          case atStart => exact ⟨0, 0, by omega, rfl, rfl⟩
          case round =>
            obtain ⟨k, q, hk, rfl, hw⟩ := hrel
            by_cases hlt : k < n
            · have hk3 : k < X3.length := by rw [unhide HP2]; omega
              have hk1 : k < X1.length := by rw [unhide HP1]; omega
              obtain ⟨z0, z1, z2, z3, z4⟩ := (show RowAt wr g3 X3 by rw [hw]; exact (unhide R3).dn q).cell k hk3
              obtain ⟨y0, y1, y2, y3, y4⟩ := (show RowAt wr g1 X1 by rw [hw]; exact (unhide R1).dn q).cell k hk1
              rw [unhide H3 k hlt hk1 hk3] at z0 z1 z2 z3 z4
              generalize X1[k] = t at *
              have HW := hide hw
              clear hw cl
              go_wp2
              go_quiet (fail)
              go_wp2
              go_roundw
              case rel => exact ⟨k + 1, q + nq, by omega, by go_num, by rw [unhide HW, World.drewN_drewN]⟩
              case measure => simp [intOf]; omega
            · have e : k = n := by omega
              subst e
              have R1 := hide (show RowAt wr g1 X1 by rw [hw]; exact (unhide R1).dn q)
              have R2 := hide (show RowAt wr g2 X2 by rw [hw]; exact (unhide R2).dn q)
              have R3 := hide (show RowAt wr g3 X3 by rw [hw]; exact (unhide R3).dn q)
              have HB5 := hide (show Below w.heap.size w wr by rw [hw]; exact below_dn (unhide HB4) q)
              clear hw cl
              obtain ⟨wq, rfl⟩ : ∃ x, x = wr := ⟨_, rfl⟩
              go_wp2
              go_loopw [16] (fun i ws => ∃ j : Nat, j ≤ X2.length ∧ i = .int .i64 (j : Int) ∧ Below wq.heap.size wq ws) (fun i _ => X2.length - (intOf i).toNat)
              case atStart => exact ⟨0, by omega, rfl, Below.refl _ _⟩
              case round =>
                obtain ⟨j, hj, rfl, hbs⟩ := hrel
                have HBs := hide hbs
                have hss := hbs.size
                by_cases hlt2 : j < X2.length
                · have hj3 : k + j < X3.length := by rw [unhide HP2]; omega
                  obtain ⟨z0, z1, z2, z3, z4⟩ := ((unhide R3).below hbs (unhide R3).lt (Nat.le_refl _)).cell (k + j) hj3
                  obtain ⟨y0, y1, y2, y3, y4⟩ := ((unhide R2).below hbs (unhide R2).lt (Nat.le_refl _)).cell j hlt2
                  have hg3l := (unhide R3).lt
                  have hbd := unhide HB2' _ (List.getElem_mem hlt2)
                  rw [unhide H5 j hlt2 hj3] at z0 z1 z2 z3 z4
                  generalize X2[j] = t at *
                  unfold Tok.sh at z0 z1 z2 z3 z4
                  simp only at z0 z1 z2 z3 z4
                  have e3 : ((t.at_ + (a.size + 1) : Nat) : Int) = (t.at_ : Int) + (a.size : Int) + 1 := by omega
                  have e4 : ((t.line + m : Nat) : Int) = (t.line : Int) + (m : Int) := by omega
                  rw [e3] at z3
                  rw [e4] at z4
                  have hnb := (Below.refl wr.heap.size wr).alloc (Nat.le_refl _) (.cells #[.int .i64 t.k, .string ⟨t.t.toArray⟩, .int .i64 t.n, .int .i64 ((t.at_ : Int) + (a.size : Int) + 1), .int .i64 ((t.line : Int) + (m : Int))] 42)
                  have hb3 := hnb.block g3 (by omega)
                  have HBn := hide ((unhide HBs).trans (hnb.mono hss))
                  have ht := (MapKept.heap_alloc wr (.cells #[.int .i64 t.k, .string ⟨t.t.toArray⟩, .int .i64 t.n, .int .i64 ((t.at_ : Int) + (a.size : Int) + 1), .int .i64 ((t.line : Int) + (m : Int))] 42)).1
                  clear hbs e3 e4 hnb
                  go_wp2
                  clear y0 y1 y2 y3 y4
                  generalize wr.alloc (.cells #[.int .i64 t.k, .string ⟨t.t.toArray⟩, .int .i64 t.n, .int .i64 ((t.at_ : Int) + (a.size : Int) + 1), .int .i64 ((t.line : Int) + (m : Int))] 42) = wu at *
                  have t0 : wu.cell? ⟨wr.heap.size, 0, none⟩ = some (.int .i64 t.k) := by simp [World.cell?, ht]
                  have t1 : wu.cell? ⟨wr.heap.size, 1, none⟩ = some (.string ⟨t.t.toArray⟩) := by simp [World.cell?, ht]
                  have t2 : wu.cell? ⟨wr.heap.size, 2, none⟩ = some (.int .i64 t.n) := by simp [World.cell?, ht]
                  have t3 : wu.cell? ⟨wr.heap.size, 3, none⟩ = some (.int .i64 ((t.at_ : Int) + (a.size : Int) + 1)) := by simp [World.cell?, ht]
                  have t4 : wu.cell? ⟨wr.heap.size, 4, none⟩ = some (.int .i64 ((t.line : Int) + (m : Int))) := by simp [World.cell?, ht]
                  have z0' : wu.cell? ⟨g3, (k + j) * 5, none⟩ = some (.int .i64 t.k) := by unfold World.cell? at z0 ⊢; simp only [hb3]; exact z0
                  have z1' : wu.cell? ⟨g3, (k + j) * 5 + 1, none⟩ = some (.string ⟨t.t.toArray⟩) := by unfold World.cell? at z1 ⊢; simp only [hb3]; exact z1
                  have z2' : wu.cell? ⟨g3, (k + j) * 5 + 2, none⟩ = some (.int .i64 t.n) := by unfold World.cell? at z2 ⊢; simp only [hb3]; exact z2
                  have z3' : wu.cell? ⟨g3, (k + j) * 5 + 3, none⟩ = some (.int .i64 ((t.at_ : Int) + (a.size : Int) + 1)) := by unfold World.cell? at z3 ⊢; simp only [hb3]; exact z3
                  have z4' : wu.cell? ⟨g3, (k + j) * 5 + 4, none⟩ = some (.int .i64 ((t.line : Int) + (m : Int))) := by unfold World.cell? at z4 ⊢; simp only [hb3]; exact z4
                  clear z0 z1 z2 z3 z4 ht hb3
                  go_quiet (fail)
                  go_wp2
                  go_roundw
                  case rel => exact ⟨j + 1, by omega, by go_num, below_dn (unhide HBn) nq⟩
                  case measure => simp [intOf]; omega
                · have HBf := hide ((unhide HB5).trans (hbs.mono (unhide HB5).size))
                  clear hbs
                  go_wp2
                  go_ret
                  exact ⟨rfl, unhide HBf⟩
        · have qs : decide (20000 < (a.size : Int) + 1 + (b.size : Int)) = true := decide_eq_true (by omega)
          go_wp2_with fail
          refine (lexscan_any ⟨#[97]⟩ _ (by decide) (unhide HV3)).mono ?_
          intro e w4 h4
          obtain ⟨g4, c4, rfl, b4⟩ := lex_a h4
          have HB4 := hide ((unhide HB3).trans (b4.mono (unhide HB3).size))
          clear h4 b4
          go_wp2
          go_ret
          exact ⟨rfl, unhide HB4⟩
      · have HB3 := hide ((unhide HB2).trans (b3.mono (unhide HB2).size))
        have HV3 := hide ((unhide HV2).below b3)
        have s3k := s3
        clear h3 b3 s3
        by_cases hsum : a.size + 1 + b.size ≤ 20000
        · exfalso
          exact parts_no (unhide S1) (unhide S2) hsum s3k
        · have qs : decide (20000 < (a.size : Int) + 1 + (b.size : Int)) = true := decide_eq_true (by omega)
          go_wp2_with fail
          refine (lexscan_any ⟨#[97]⟩ _ (by decide) (unhide HV3)).mono ?_
          intro e w4 h4
          obtain ⟨g4, c4, rfl, b4⟩ := lex_a h4
          have HB4 := hide ((unhide HB3).trans (b4.mono (unhide HB3).size))
          clear h4 b4
          go_wp2
          go_ret
          exact ⟨rfl, unhide HB4⟩
    · have HB2 := hide ((unhide HB1).trans (b2.mono (unhide HB1).size))
      have HV2 := hide ((unhide HV1).below b2)
      clear h2 b2 s2 
      go_wp2_with fail
      refine (lexscan_any _ _ (by omega) (unhide HV2)).mono ?_
      intro e w3 h3
      rcases lex_cases h3 with ⟨X3, g3, c3, s3, rfl, hg3, r3, b3⟩ | ⟨p3, x3, d3, s3, rfl, _, _, b3⟩
      · have HB3 := hide ((unhide HB2).trans (b3.mono (unhide HB2).size))
        have HV3 := hide ((unhide HV2).below b3)
        clear h3 b3 s3 r3 hg3
        go_wp2_with fail
        refine (lexscan_any ⟨#[97]⟩ _ (by decide) (unhide HV3)).mono ?_
        intro e w4 h4
        obtain ⟨g4, c4, rfl, b4⟩ := lex_a h4
        have HB4 := hide ((unhide HB3).trans (b4.mono (unhide HB3).size))
        clear h4 b4
        go_wp2
        go_ret
        exact ⟨rfl, unhide HB4⟩
      · have HB3 := hide ((unhide HB2).trans (b3.mono (unhide HB2).size))
        have HV3 := hide ((unhide HV2).below b3)
        clear h3 b3 s3 
        go_wp2_with fail
        refine (lexscan_any ⟨#[97]⟩ _ (by decide) (unhide HV3)).mono ?_
        intro e w4 h4
        obtain ⟨g4, c4, rfl, b4⟩ := lex_a h4
        have HB4 := hide ((unhide HB3).trans (b4.mono (unhide HB3).size))
        clear h4 b4
        go_wp2
        go_ret
        exact ⟨rfl, unhide HB4⟩
  · have HB1 := hide ((unhide HB0).trans (b1.mono (unhide HB0).size))
    have HV1 := hide ((unhide HV0).below b1)
    clear h1 b1 s1 
    go_wp2_with fail
    refine (lexscan_any b _ (by omega) (unhide HV1)).mono ?_
    intro e w2 h2
    rcases lex_cases h2 with ⟨X2, g2, c2, s2, rfl, hg2, r2, b2⟩ | ⟨p2, x2, d2, s2, rfl, _, _, b2⟩
    · have HB2 := hide ((unhide HB1).trans (b2.mono (unhide HB1).size))
      have HV2 := hide ((unhide HV1).below b2)
      clear h2 b2 s2 r2 hg2
      go_wp2_with fail
      refine (lexscan_any _ _ (by omega) (unhide HV2)).mono ?_
      intro e w3 h3
      rcases lex_cases h3 with ⟨X3, g3, c3, s3, rfl, hg3, r3, b3⟩ | ⟨p3, x3, d3, s3, rfl, _, _, b3⟩
      · have HB3 := hide ((unhide HB2).trans (b3.mono (unhide HB2).size))
        have HV3 := hide ((unhide HV2).below b3)
        clear h3 b3 s3 r3 hg3
        go_wp2_with fail
        refine (lexscan_any ⟨#[97]⟩ _ (by decide) (unhide HV3)).mono ?_
        intro e w4 h4
        obtain ⟨g4, c4, rfl, b4⟩ := lex_a h4
        have HB4 := hide ((unhide HB3).trans (b4.mono (unhide HB3).size))
        clear h4 b4
        go_wp2
        go_ret
        exact ⟨rfl, unhide HB4⟩
      · have HB3 := hide ((unhide HB2).trans (b3.mono (unhide HB2).size))
        have HV3 := hide ((unhide HV2).below b3)
        clear h3 b3 s3 
        go_wp2_with fail
        refine (lexscan_any ⟨#[97]⟩ _ (by decide) (unhide HV3)).mono ?_
        intro e w4 h4
        obtain ⟨g4, c4, rfl, b4⟩ := lex_a h4
        have HB4 := hide ((unhide HB3).trans (b4.mono (unhide HB3).size))
        clear h4 b4
        go_wp2
        go_ret
        exact ⟨rfl, unhide HB4⟩
    · have HB2 := hide ((unhide HB1).trans (b2.mono (unhide HB1).size))
      have HV2 := hide ((unhide HV1).below b2)
      clear h2 b2 s2 
      go_wp2_with fail
      refine (lexscan_any _ _ (by omega) (unhide HV2)).mono ?_
      intro e w3 h3
      rcases lex_cases h3 with ⟨X3, g3, c3, s3, rfl, hg3, r3, b3⟩ | ⟨p3, x3, d3, s3, rfl, _, _, b3⟩
      · have HB3 := hide ((unhide HB2).trans (b3.mono (unhide HB2).size))
        have HV3 := hide ((unhide HV2).below b3)
        clear h3 b3 s3 r3 hg3
        go_wp2_with fail
        refine (lexscan_any ⟨#[97]⟩ _ (by decide) (unhide HV3)).mono ?_
        intro e w4 h4
        obtain ⟨g4, c4, rfl, b4⟩ := lex_a h4
        have HB4 := hide ((unhide HB3).trans (b4.mono (unhide HB3).size))
        clear h4 b4
        go_wp2
        go_ret
        exact ⟨rfl, unhide HB4⟩
      · have HB3 := hide ((unhide HB2).trans (b3.mono (unhide HB2).size))
        have HV3 := hide ((unhide HV2).below b3)
        clear h3 b3 s3 
        go_wp2_with fail
        refine (lexscan_any ⟨#[97]⟩ _ (by decide) (unhide HV3)).mono ?_
        intro e w4 h4
        obtain ⟨g4, c4, rfl, b4⟩ := lex_a h4
        have HB4 := hide ((unhide HB3).trans (b4.mono (unhide HB3).size))
        clear h4 b4
        go_wp2
        go_ret
        exact ⟨rfl, unhide HB4⟩

end Go.Proofs.YtjkogjmbmkopiaaDoor
