/- The program's lexer: a line's end, a token taken, the token that is read. -/
import Derived.Test.YtkbgnbcphmkjkaaDoorPd
namespace Go.Proofs.YtkbgnbcphmkjkaaDoor
open Go.RowKit

set_option maxHeartbeats 2000000 in
theorem endline_any {w : World} {B : Nat} {s : ByteArray} {k ln : Nat} {sg tv : Value} {op : Bool} {out : List Tok} (h : ScAt w B s k ln sg tv op) (ho : OwnT w (B + 1) tv out) (hl : out.length ≤ 100000) :
    Calls Tryd.prog 13 #[.pointer (some ⟨B, 0, none⟩)] w fun e w' => e = .returned (.tuple #[]) ∧ ∃ tv', ScAt w' B s k ln sg tv' false ∧ OwnT w' (B + 1) tv' (out ++ if op then [semiAt k ln] else []) ∧ Below B w w' := by
  obtain ⟨c0, c1, c2, c3, c4, c5⟩ := h.cell
  have f := fun i => h.froz i
  have HS := hide h
  have HO := hide ho
  have hB := Nat.le_of_lt h.lt
  clear h ho
  cases op
  · go_enter Tryd.func13, Tryd.ntmps13
    go_wp2
    go_end0
    exact ⟨rfl, tv, unhide HS, by simpa using unhide HO, (Below.refl w.heap.size w).mono hB⟩
  · go_enter Tryd.func13, Tryd.ntmps13
    go_wp2_with fail
    refine (add_any (unhide HS) (unhide HO) hl 6 [10] 0 0 0).mono ?_
    rintro e w1 ⟨rfl, tv1, hs1, ho1, hb1, _⟩
    clear c0 c1 c2 c3 c4 c5 f
    obtain ⟨c0, c1, c2, c3, c4, c5⟩ := hs1.cell
    have f := fun i => hs1.froz i
    have HS1 := hide hs1
    have HO1 := hide ho1
    have HB1 := hide hb1
    clear hs1 ho1 hb1 HS HO
    go_wp2
    go_end0
    exact ⟨rfl, tv1, (unhide HS1).setOpen false, (unhide HO1).only ((Only.refl B w1 (Nat.le_of_lt (unhide HS1).lt)).setCell 5 _), (unhide HB1).setCell (Nat.le_refl _) _⟩

set_option maxHeartbeats 2000000 in
theorem take_any {w : World} {B : Nat} {s : ByteArray} {k ln : Nat} {sg tv : Value} {op : Bool} {out : List Tok} (h : ScAt w B s k ln sg tv op) (ho : OwnT w (B + 1) tv out) (hl : out.length ≤ 100000) (hk : k ≤ 70368744177000) (kd : Int) (tx : List UInt8) (n a l : Int) (m : Nat) (hm : m ≤ 70368744177000) :
    Calls Tryd.prog 12 #[.pointer (some ⟨B, 0, none⟩), tokV kd ⟨tx.toArray⟩ n a l, .int .i64 (m : Int)] w fun e w' => e = .returned (.tuple #[]) ∧ ∃ tv', ScAt w' B s (k + m) ln sg tv' (callsK kd tx) ∧ OwnT w' (B + 1) tv' (out ++ [⟨kd, tx, n, k, ln⟩]) ∧ Below B w w' := by
  have hb0 := (Below.refl w.heap.size w).alloc (Nat.le_refl _) (.cells #[.int .i64 kd, .string ⟨tx.toArray⟩, .int .i64 n, .int .i64 a, .int .i64 l] 28)
  have hB := h.lt
  have HS := hide (h.below hb0 h.lt)
  have HO := hide (ho.below hb0)
  have HB := hide (hb0.mono (Nat.le_of_lt hB))
  have HT := hide (show (w.alloc (.cells #[.int .i64 kd, .string ⟨tx.toArray⟩, .int .i64 n, .int .i64 a, .int .i64 l] 28)).heap[w.heap.size]? = some (.cells #[.int .i64 kd, .string ⟨tx.toArray⟩, .int .i64 n, .int .i64 a, .int .i64 l] 28 (0, 0)) from (MapKept.heap_alloc w _).1)
  have HF := hide (show tv.ownBlock ≠ some w.heap.size from fun e => own_far ho _ e rfl)
  clear h ho hb0
  unfold tokV
  go_enter Tryd.func12, Tryd.ntmps12
  go_wp2_with fail
  refine (add_any (unhide HS) (unhide HO) hl kd tx n a l).mono ?_
  rintro e w1 ⟨rfl, tv1, hs1, ho1, hb1, hk1⟩
  have ht1 := (hk1 w.heap.size (by rw [World.size_alloc]; omega) (by omega) (unhide HF)).trans (unhide HT)
  obtain ⟨c0, c1, c2, c3, c4, c5⟩ := hs1.cell
  have f := fun i => hs1.froz i
  have t0 : w1.cell? ⟨w.heap.size, 0, none⟩ = some (.int .i64 kd) := by simp [World.cell?, ht1]
  have t1 : w1.cell? ⟨w.heap.size, 1, none⟩ = some (.string ⟨tx.toArray⟩) := by simp [World.cell?, ht1]
  have t2 : w1.cell? ⟨w.heap.size, 2, none⟩ = some (.int .i64 n) := by simp [World.cell?, ht1]
  have t3 : w1.cell? ⟨w.heap.size, 3, none⟩ = some (.int .i64 a) := by simp [World.cell?, ht1]
  have t4 : w1.cell? ⟨w.heap.size, 4, none⟩ = some (.int .i64 l) := by simp [World.cell?, ht1]
  have hne : w.heap.size ≠ B := by omega
  have hne' : B ≠ w.heap.size := by omega
  have HS1 := hide hs1
  have HO1 := hide ho1
  have HB1 := hide ((unhide HB).trans hb1)
  clear hs1 ho1 hb1 hk1 ht1 HS HO HB HT HF
  go_wp2_with fail
  refine (semi_any kd ⟨tx.toArray⟩ n a l _).mono ?_
  rintro e w2 ⟨rfl, b2⟩
  rw [arr_list]
  have hs1 := (unhide HS1).setAt (z := (k : Int) + (m : Int)) (k + m) (by omega)
  have hs2 := hs1.below b2 hs1.lt
  have ho2 := ((unhide HO1).only ((Only.refl B w1 (Nat.le_of_lt (unhide HS1).lt)).setCell 1 (.int .i64 ((k : Int) + (m : Int))))).below b2
  have HB2 := hide (((unhide HB1).setCell (Nat.le_refl _) _).trans (b2.mono (Nat.le_of_lt hs1.lt)))
  clear c0 c1 c2 c3 c4 c5 f t0 t1 t2 t3 t4 hs1 b2
  obtain ⟨c0, c1, c2, c3, c4, c5⟩ := hs2.cell
  have f := fun i => hs2.froz i
  have HS2 := hide hs2
  have HO2 := hide ho2
  clear hs2 ho2 HS1 HO1 HB1
  go_wp2
  go_end0
  exact ⟨rfl, tv1, (unhide HS2).setOpen _, (unhide HO2).only ((Only.refl B w2 (Nat.le_of_lt (unhide HS2).lt)).setCell 5 _), (unhide HB2).setCell (Nat.le_refl _) _⟩

theorem tk_first {R : ByteArray} (h : 0 < R.size) : tk R.data.toList = if letter (by_ R 0).toNat then tkName R.data.toList else if digit (by_ R 0).toNat then tkNum R.data.toList else if (by_ R 0).toNat = 34 then tkText R.data.toList else tkSign R.data.toList := by
  have e := list_first R h
  generalize by_ R 0 = c at *
  generalize R.data.toList.drop 1 = r at *
  rw [e, tk]

theorem StrsAt.dn {w : World} {B : Nat} {xs : List (List UInt8)} (h : StrsAt w B xs) (m : Nat) : StrsAt (w.drewN m) B xs := ⟨h.cell⟩
theorem OwnT.dn {w : World} {B : Nat} {v : Value} {l : List Tok} (h : OwnT w B v l) (m : Nat) : OwnT (w.drewN m) B v l := h.below ⟨rfl, rfl, rfl, Nat.le_refl _, fun _ _ => rfl⟩
theorem Vars.dn {w : World} (h : Vars w) (m : Nat) : Vars (w.drewN m) := h.below (below_drewN w m)

set_option maxHeartbeats 4000000 in
theorem read_any {w : World} {B S : Nat} {s : ByteArray} {k ln : Nat} {tv : Value} {op : Bool} (hV : Vars w) (hS : StrsAt w S sgl) (hSl : S < w.heap.size) (hs : s.size ≤ 70368744177000) (hk : k < s.size) (h : ScAt w B s k ln (.slice (some ⟨S, 0, none⟩) 27 27) tv op) :
    Calls Tryd.prog 11 #[.pointer (some ⟨B, 0, none⟩)] w fun e w' => e = tkEnd (tk (s.data.toList.drop k)) ∧ Below w.heap.size w w' := by
  have hb0 := (Below.refl w.heap.size w).alloc (Nat.le_refl _) (.cells #[.int .i64 0, .string ⟨#[]⟩, .int .i64 0, .int .i64 0, .int .i64 0] 28)
  have HS0 := hide (h.below hb0 h.lt)
  have HA0 := hide (hS.below hSl hb0)
  have HV0 := hide (hV.below hb0)
  have HT0 := hide (TokAt.new w (.int .i64 0) (.string ⟨#[]⟩) (.int .i64 0) (.int .i64 0) (.int .i64 0))
  have hsa : S < (w.alloc (.cells #[.int .i64 0, .string ⟨#[]⟩, .int .i64 0, .int .i64 0, .int .i64 0] 28)).heap.size := by rw [World.size_alloc]; omega
  have HB0 := hide hb0
  have EX := hide (ext_list s k)
  have hR0 : (s.extract k s.size).size = s.size - k := ext_size s k (by omega)
  clear h hS hV hb0
  go_enter Tryd.func11, Tryd.ntmps11
  go_wp2
  generalize w.alloc (.cells #[.int .i64 0, .string ⟨#[]⟩, .int .i64 0, .int .i64 0, .int .i64 0] 28) = w1 at *
  obtain ⟨c0, c1, c2, c3, c4, c5⟩ := (unhide HS0).cell
  go_quiet (fail)
  generalize s.extract k s.size = R at *
  have HS1 := hide ((unhide HS0).drew nq)
  have HA1 := hide ((unhide HA0).dn nq)
  have HV1 := hide ((unhide HV0).dn nq)
  have HT1 := hide ((unhide HT0).drewN nq)
  have HB1 := hide (below_dn (unhide HB0) nq)
  have hsa1 : S < (w1.drewN nq).heap.size := hsa
  clear HS0 HA0 HV0 HT0 HB0 hsa c0 c1 c2 c3 c4 c5
  generalize w1.drewN nq = w2 at *
  obtain ⟨c0, c1, c2, c3, c4, c5⟩ := (unhide HS1).cell
  have hRp : 0 < R.size := by omega
  have hRs : R.size ≤ 70368744177000 := by omega
  have hb := by_at R 0 hRp
  have TF := hide (tk_first hRp)
  cases cl : letter (by_ R 0).toNat
  · cases cd : digit (by_ R 0).toNat
    · by_cases c34 : (by_ R 0).toNat = 34
      · have q : (((by_ R 0).toNat : Int) == 34) = true := by simp; omega
        have EQ := hide (show tkText R.data.toList = tk (s.data.toList.drop k) by rw [← unhide EX, unhide TF, cl, if_neg (by decide), cd, if_neg (by decide), if_pos c34])
        clear TF EX
        go_wp2_with (first | (go_at_call 27; refine (lexletter_any _ _).mono ?_; rintro e w' ⟨rfl, rfl⟩) | (go_at_call 29; refine (lexdigit_any _ _).mono ?_; rintro e w' ⟨rfl, rfl⟩) | fail)
        refine (readtext_any R _ hRs).mono ?_
        rintro e w3 ⟨rfl, b3⟩
        rw [unhide EQ]
        generalize hx : tk (s.data.toList.drop k) = x
        have HX := hide hx
        clear hx EQ
        have HT := hide ((unhide HT1).below b3)
        have HB := hide ((unhide HB1).trans (b3.mono (unhide HB1).size))
        obtain ⟨v0, v1, v2, v3, v4, d0, d1, d2, d3, d4⟩ := (unhide HT).cell
        have f := fun i => (unhide HT).froz i
        clear b3 c0 c1 c2 c3 c4 c5
        rw [tkEnd_def]
        go_wp2
        change bodyPost _ _ _ _ _ (put5 _ w.heap.size (.int .i64 x.k) (.string ⟨x.t.toArray⟩) (.int .i64 x.n) (.int .i64 0) (.int .i64 0))
        obtain ⟨g0, g1, g2, g3, g4⟩ := put5_cells (unhide HT) (.int .i64 x.k) (.string ⟨x.t.toArray⟩) (.int .i64 x.n) (.int .i64 0) (.int .i64 0)
        have HF := hide (put5_below (unhide HB) (Nat.le_refl _) (.int .i64 x.k) (.string ⟨x.t.toArray⟩) (.int .i64 x.n) (.int .i64 0) (.int .i64 0))
        generalize put5 _ w.heap.size (.int .i64 x.k) (.string ⟨x.t.toArray⟩) (.int .i64 x.n) (.int .i64 0) (.int .i64 0) = wf at *
        refine bodyPost_ret (by simp [results, Tryd.results11, go_sem, g0, g1, g2, g3, g4]; try rfl) rfl ?_
        exact ⟨by rw [unhide HX]; rfl, unhide HF⟩
      · have q : (((by_ R 0).toNat : Int) == 34) = false := by simp; omega
        have EQ := hide (show tkSign R.data.toList = tk (s.data.toList.drop k) by rw [← unhide EX, unhide TF, cl, if_neg (by decide), cd, if_neg (by decide), if_neg c34])
        clear TF EX
        go_wp2_with (first | (go_at_call 27; refine (lexletter_any _ _).mono ?_; rintro e w' ⟨rfl, rfl⟩) | (go_at_call 29; refine (lexdigit_any _ _).mono ?_; rintro e w' ⟨rfl, rfl⟩) | fail)
        refine (readsign_any R _ (unhide HA1) hsa1).mono ?_
        rintro e w3 ⟨rfl, b3⟩
        rw [unhide EQ]
        generalize hx : tk (s.data.toList.drop k) = x
        have HX := hide hx
        clear hx EQ
        have HT := hide ((unhide HT1).below b3)
        have HB := hide ((unhide HB1).trans (b3.mono (unhide HB1).size))
        obtain ⟨v0, v1, v2, v3, v4, d0, d1, d2, d3, d4⟩ := (unhide HT).cell
        have f := fun i => (unhide HT).froz i
        clear b3 c0 c1 c2 c3 c4 c5
        rw [tkEnd_def]
        go_wp2
        change bodyPost _ _ _ _ _ (put5 _ w.heap.size (.int .i64 x.k) (.string ⟨x.t.toArray⟩) (.int .i64 x.n) (.int .i64 0) (.int .i64 0))
        obtain ⟨g0, g1, g2, g3, g4⟩ := put5_cells (unhide HT) (.int .i64 x.k) (.string ⟨x.t.toArray⟩) (.int .i64 x.n) (.int .i64 0) (.int .i64 0)
        have HF := hide (put5_below (unhide HB) (Nat.le_refl _) (.int .i64 x.k) (.string ⟨x.t.toArray⟩) (.int .i64 x.n) (.int .i64 0) (.int .i64 0))
        generalize put5 _ w.heap.size (.int .i64 x.k) (.string ⟨x.t.toArray⟩) (.int .i64 x.n) (.int .i64 0) (.int .i64 0) = wf at *
        refine bodyPost_ret (by simp [results, Tryd.results11, go_sem, g0, g1, g2, g3, g4]; try rfl) rfl ?_
        exact ⟨by rw [unhide HX]; rfl, unhide HF⟩
    · have EQ0 : True := trivial
      have EQ := hide (show tkNum R.data.toList = tk (s.data.toList.drop k) by rw [← unhide EX, unhide TF, cl, if_neg (by decide), cd, if_pos rfl])
      clear TF EX
      go_wp2_with (first | (go_at_call 27; refine (lexletter_any _ _).mono ?_; rintro e w' ⟨rfl, rfl⟩) | (go_at_call 29; refine (lexdigit_any _ _).mono ?_; rintro e w' ⟨rfl, rfl⟩) | fail)
      refine (readnumber_any R _ hRs hRp cd (unhide HV1)).mono ?_
      rintro e w3 ⟨rfl, b3⟩
      rw [unhide EQ]
      generalize hx : tk (s.data.toList.drop k) = x
      have HX := hide hx
      clear hx EQ
      have HT := hide ((unhide HT1).below b3)
      have HB := hide ((unhide HB1).trans (b3.mono (unhide HB1).size))
      obtain ⟨v0, v1, v2, v3, v4, d0, d1, d2, d3, d4⟩ := (unhide HT).cell
      have f := fun i => (unhide HT).froz i
      clear b3 c0 c1 c2 c3 c4 c5
      rw [tkEnd_def]
      go_wp2
      change bodyPost _ _ _ _ _ (put5 _ w.heap.size (.int .i64 x.k) (.string ⟨x.t.toArray⟩) (.int .i64 x.n) (.int .i64 0) (.int .i64 0))
      obtain ⟨g0, g1, g2, g3, g4⟩ := put5_cells (unhide HT) (.int .i64 x.k) (.string ⟨x.t.toArray⟩) (.int .i64 x.n) (.int .i64 0) (.int .i64 0)
      have HF := hide (put5_below (unhide HB) (Nat.le_refl _) (.int .i64 x.k) (.string ⟨x.t.toArray⟩) (.int .i64 x.n) (.int .i64 0) (.int .i64 0))
      generalize put5 _ w.heap.size (.int .i64 x.k) (.string ⟨x.t.toArray⟩) (.int .i64 x.n) (.int .i64 0) (.int .i64 0) = wf at *
      refine bodyPost_ret (by simp [results, Tryd.results11, go_sem, g0, g1, g2, g3, g4]; try rfl) rfl ?_
      exact ⟨by rw [unhide HX]; rfl, unhide HF⟩
  · have EQ0 : True := trivial
    have EQ := hide (show tkName R.data.toList = tk (s.data.toList.drop k) by rw [← unhide EX, unhide TF, cl, if_pos rfl])
    clear TF EX
    go_wp2_with (first | (go_at_call 27; refine (lexletter_any _ _).mono ?_; rintro e w' ⟨rfl, rfl⟩) | (go_at_call 29; refine (lexdigit_any _ _).mono ?_; rintro e w' ⟨rfl, rfl⟩) | fail)
    refine (readname_any R _ hRs hRp cl).mono ?_
    rintro e w3 ⟨rfl, b3⟩
    rw [unhide EQ]
    generalize hx : tk (s.data.toList.drop k) = x
    have HX := hide hx
    clear hx EQ
    have HT := hide ((unhide HT1).below b3)
    have HB := hide ((unhide HB1).trans (b3.mono (unhide HB1).size))
    obtain ⟨v0, v1, v2, v3, v4, d0, d1, d2, d3, d4⟩ := (unhide HT).cell
    have f := fun i => (unhide HT).froz i
    clear b3 c0 c1 c2 c3 c4 c5
    rw [tkEnd_def]
    go_wp2
    change bodyPost _ _ _ _ _ (put5 _ w.heap.size (.int .i64 x.k) (.string ⟨x.t.toArray⟩) (.int .i64 x.n) (.int .i64 0) (.int .i64 0))
    obtain ⟨g0, g1, g2, g3, g4⟩ := put5_cells (unhide HT) (.int .i64 x.k) (.string ⟨x.t.toArray⟩) (.int .i64 x.n) (.int .i64 0) (.int .i64 0)
    have HF := hide (put5_below (unhide HB) (Nat.le_refl _) (.int .i64 x.k) (.string ⟨x.t.toArray⟩) (.int .i64 x.n) (.int .i64 0) (.int .i64 0))
    generalize put5 _ w.heap.size (.int .i64 x.k) (.string ⟨x.t.toArray⟩) (.int .i64 x.n) (.int .i64 0) (.int .i64 0) = wf at *
    refine bodyPost_ret (by simp [results, Tryd.results11, go_sem, g0, g1, g2, g3, g4]; try rfl) rfl ?_
    exact ⟨by rw [unhide HX]; rfl, unhide HF⟩

end Go.Proofs.YtkbgnbcphmkjkaaDoor
