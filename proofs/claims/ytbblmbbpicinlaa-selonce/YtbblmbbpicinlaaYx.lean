/- Layer 15: the law's pick, handle, made. Layer 15: the law's awake. Layer 14: the document's Same and Waits, of answers and waits that are alike. -/
import Derived.Test.YtbblmbbpicinlaaYv
namespace Go.Proofs.Ytbblmbbpicinlaa
open Go.RowKit

abbrev kmd0 : Oper := { dst := some 51, op := Op.move (Operand.tmp 6), type := 26, pos := "law.go:36", after := #[], guard := none }
abbrev kmd1 : Oper := { dst := some 52, op := Op.move (Operand.tmp 10), type := 3, pos := "law.go:36", after := #[], guard := none }
abbrev kmd2 : Oper := { dst := some 53, op := Op.binOp BinOp.add 3 (Operand.tmp 52) (Operand.const (Value.int IntKind.i64 1)) 3, type := 3, pos := "law.go:36", after := #[{ on := 1, ground := Ground.data }], guard := none }
abbrev kmd3 : Oper := { dst := some 54, op := Op.call { callee := Callee.value (Operand.func 38), args := #[Operand.tmp 53], argTypes := #[3] }, type := 43, pos := "law.go:36", after := #[{ on := 2, ground := Ground.data }], guard := none }
abbrev kmd4 : Oper := { dst := some 55, op := Op.move (Operand.tmp 0), type := 53, pos := "law.go:36", after := #[], guard := none }
abbrev kmd5 : Oper := { dst := some 56, op := Op.move (Operand.tmp 10), type := 3, pos := "law.go:36", after := #[], guard := none }
abbrev kmd6 : Oper := { dst := some 57, op := Op.indexAddr 53 (Operand.tmp 55) (Operand.tmp 56), type := 0, pos := "law.go:36", after := #[{ on := 4, ground := Ground.data }, { on := 5, ground := Ground.data }], guard := none }
abbrev kmd7 : Oper := { dst := some 58, op := Op.load 3 (Operand.tmp 57), type := 3, pos := "law.go:36", after := #[{ on := 6, ground := Ground.data }], guard := none }
abbrev kmd8 : Oper := { dst := some 59, op := Op.call { callee := Callee.value (Operand.func 39), args := #[Operand.tmp 58, Operand.const (Value.int IntKind.i64 101)], argTypes := #[3, 3] }, type := 3, pos := "law.go:36", after := #[{ on := 7, ground := Ground.data }, { on := 3, ground := Ground.chain }], guard := none }
abbrev kmd9 : Oper := { dst := some 60, op := Op.call { callee := Callee.value (Operand.func 17), args := #[Operand.tmp 51, Operand.tmp 54, Operand.tmp 59], argTypes := #[26, 43, 3] }, type := 27, pos := "law.go:36", after := #[{ on := 0, ground := Ground.data }, { on := 3, ground := Ground.data }, { on := 8, ground := Ground.data }, { on := 8, ground := Ground.chain }], guard := none }
abbrev kmd10 : Oper := { dst := some 61, op := Op.binOp BinOp.neq 27 (Operand.tmp 60) (Operand.const (Value.int IntKind.i64 0)) 27, type := 4, pos := "law.go:36", after := #[{ on := 9, ground := Ground.data }], guard := none }

/-- which of n things -/
def pkW (c : Int) (n : Nat) : Nat := ((if c < 0 then -(c + 1) else c) % (n : Int)).toNat
theorem pkW_is {c d : Int} {n : Nat} (hn : 0 < n) (hd : (if c < 0 then -(c + 1) else c) = d) : pkW c n < n ∧ d % (n : Int) = (pkW c n : Int) := by
  unfold pkW
  rw [hd]
  have e1 := Int.emod_nonneg d (show (n : Int) ≠ 0 by omega)
  have e2 := Int.emod_lt_of_pos d (show (0 : Int) < n by omega)
  omega
theorem pkW_lt (c : Int) {n : Nat} (hn : 0 < n) : pkW c n < n := (pkW_is (c := c) hn rfl).1
theorem retI {a b : Int} (h : a = b) : Ending.returned (.int .i64 a) = Ending.returned (.int .i64 b) := by rw [h]
theorem picks_is {c : Int} (hc : I64 c) {n : Nat} (hn : 0 < n) (hn2 : n ≤ 100000) (w : World) :
    Calls Try.prog 39 #[.int .i64 c, .int .i64 (n : Int)] w fun e w' => e = .returned (.int .i64 (pkW c n : Int)) ∧ w' = w := by
  obtain ⟨h1, h2⟩ := hc
  have hz : ((n : Int) == 0) = false := by simp; omega
  by_cases hc : c < 0
  · obtain ⟨hk, e⟩ := pkW_is (c := c) hn (if_pos hc)
    have w1 : IntKind.i64.wrap (c + 1) = c + 1 := by rw [IntKind.wrap_i64]; omega
    have w2 : IntKind.i64.wrap (-(c + 1)) = -(c + 1) := by rw [IntKind.wrap_i64]; omega
    go_enter Try.func39, Try.ntmps39
    go_wp2
    go_ret
    exact ⟨retI (by rw [← Int.neg_tmod, Int.tmod_eq_emod_of_nonneg (by omega)]; exact e), rfl⟩
  · obtain ⟨hk, e⟩ := pkW_is (c := c) hn (if_neg hc)
    go_enter Try.func39, Try.ntmps39
    go_wp2
    go_ret
    exact ⟨retI (by first | rfl | exact e), rfl⟩

theorem res_h15 (tm : Array Value) (A : Nat) (Z : World) (a b : Int) (h2 : tm[2]?.getD undef = .pointer (some ⟨A, 0, none⟩)) (hb : Z.heap[A]? = some (.cells #[.int .u32 a, .int .u32 b] 43 (0, 0))) :
    (results Try.f38 tm).run Try.prog Z = .ok (hvW a b) Z := by
  have e := Lib.cell_of_heap hb
  simp [results, Try.f38, h2, go_sem, e]
theorem h15_is (w : World) {n : Int} (h0 : 0 ≤ n) (h1 : n < 4294967296) : Calls Try.prog 38 #[.int .i64 n] w fun e w' => e = .returned (hvW n 1) ∧ Below w.heap.size w w' := by
  have hw : IntKind.u32.wrap n = n := by rw [show IntKind.u32.wrap n = n % 4294967296 from rfl]; omega
  go_enter Try.func38, Try.ntmps38
  go_wp2
  refine bodyPost_ret (v := hvW n 1) (res_h15 _ w.heap.size _ n 1 rfl (heap_new w _)) rfl ⟨rfl, below1 _ _⟩

/-- the channels of some sizes -/
def mkK : Nat → List Int → List Kn
  | _, [] => []
  | i, z :: r => ⟨(((i + 1 : Nat) : Int), 1), pkW z 101, [], false⟩ :: mkK (i + 1) r
theorem mkK_snoc (z : Int) : ∀ (i : Nat) (r : List Int), mkK i (r ++ [z]) = mkK i r ++ [⟨(((i + r.length + 1 : Nat) : Int), 1), pkW z 101, [], false⟩]
  | _, [] => rfl
  | i, b :: r => by
    rw [List.cons_append, mkK, mkK, mkK_snoc z (i + 1) r, List.length_cons, List.cons_append, show i + 1 + r.length + 1 = i + (r.length + 1) + 1 by omega]
theorem mkK_h : ∀ {i : Nat} {r : List Int} {x : Kn}, x ∈ mkK i r → ∃ j, i ≤ j ∧ j < i + r.length ∧ x.h = (((j + 1 : Nat) : Int), 1)
  | _, [], _, h => by cases h
  | i, z :: r, x, h => by
    rw [mkK] at h
    rw [List.length_cons]
    rcases List.mem_cons.1 h with rfl | h
    · exact ⟨i, Nat.le_refl _, by omega, rfl⟩
    · obtain ⟨j, h1, h2, h3⟩ := mkK_h h
      exact ⟨j, by omega, by omega, h3⟩
theorem mkK_none (i : Nat) (r : List Int) {j : Nat} (hj : i + r.length ≤ j) : fnk (mkK i r) (((j + 1 : Nat) : Int), 1) = none := by
  unfold fnk
  rw [List.find?_eq_none]
  intro x hx
  obtain ⟨m, h1, h2, h3⟩ := mkK_h hx
  rw [h3]
  simp
  omega
/-- what made answers, and leaves -/
def MadeR (w w' : World) (zs : List Int) (e : Ending) : Prop := ∃ c bp s G, e = .returned (.tuple #[.pointer (some ⟨c, 0, none⟩), .pointer (some ⟨bp, 0, none⟩), .pointer (some ⟨s, 0, none⟩)]) ∧ SW w' w.heap.size c bp [] (mkK 0 (zs.take 5)) G ∧ SelAt w' s c bp ∧ w.heap.size ≤ s ∧ Below w.heap.size w w'
/-- numbers in memory -/
structure IntsIn (w : World) (a : Option Addr) (b o : Nat) (zs : List Int) : Prop where
  addr : 0 < zs.length → a = some ⟨b, o, none⟩
  mem : ∀ i (h : i < zs.length), w.cell? ⟨b, o + i, none⟩ = some (.int .i64 zs[i])
  rng : ∀ z ∈ zs, I64 z
theorem cell_lt {w : World} {b o : Nat} {v : Value} (h : w.cell? ⟨b, o, none⟩ = some v) : b < w.heap.size := by
  apply Decidable.byContradiction
  intro hn
  have e : w.heap[b]? = none := Array.getElem?_eq_none (by omega)
  simp [World.cell?, e] at h
theorem IntsIn.below {w w' : World} {a : Option Addr} {b o : Nat} {zs : List Int} (h : IntsIn w a b o zs) (hb : Below w.heap.size w w') : IntsIn w' a b o zs :=
  ⟨h.addr, fun i hi => by
    have := h.mem i hi
    rw [World.cell?_of_block (w := w) (a := ⟨b, o + i, none⟩) (hb.block b (cell_lt this))]
    exact this, h.rng⟩

section
variable {w : World} {a : Option Addr} {b o cap : Nat} {zs : List Int}

set_option maxRecDepth 100000 in
set_option maxHeartbeats 16000000 in
theorem made_is (h : IntsIn w a b o zs) (hz : zs.length ≤ 9223372036854775807) : Calls Try.prog 36 #[.slice a zs.length cap] w fun e w' => MadeR w w' zs e := by
  have HI := hide h
  clear h
  go_enter Try.func36, Try.ntmps36
  go_wp2_with fail
  refine (face.new w).mono ?_
  rintro e w1 ⟨bp, F, rfl, hp, hb1⟩
  go_wp2_with fail
  refine (sw_new hp hb1.size).mono ?_
  rintro e w2 ⟨c, G0, rfl, hs2, hb2⟩
  have B2 := hide (hb1.trans (hb2.mono hb1.size))
  have S2 := hide hs2
  clear hp hb1 hs2 hb2
  go_wp2_with fail
  refine (selnew_is w2 c bp).mono ?_
  rintro e w3 ⟨rfl, ha3, hb3⟩
  have B3 := hide (B2.out.trans (hb3.mono B2.out.size))
  have S3 := hide (S2.out.below hb3)
  have A3 := hide ha3
  have L2 := hide B2.out.size
  clear hb3 ha3
  go_wp2_with fail
  go_loopw [10] (fun i wr => ∃ k : Nat, k ≤ zs.length ∧ k ≤ 5 ∧ i = .int .i64 (k : Int) ∧ Hid (Below w.heap.size w wr ∧ SelAt wr w2.heap.size c bp ∧ ∃ G, SW wr w.heap.size c bp [] (mkK 0 (zs.take k)) G)) (fun i _ => 5 - (intOf i).toNat)
  case atStart => exact ⟨0, Nat.zero_le _, by omega, rfl, hide ⟨B3.out, A3.out, G0, S3.out⟩⟩
  case round =>
    obtain ⟨k, hk, hk5, rfl, HJ⟩ := hrel
    obtain ⟨W0, rfl⟩ : ∃ x, x = wr := ⟨_, rfl⟩
    obtain ⟨bw, sa, G, sw⟩ := HJ.out
    have BW := hide bw
    have SA := hide sa
    have ST := hide sw
    clear HJ bw sa sw
    have END : ∀ (_ : k = zs.length ∨ k = 5), zs.take k = zs.take 5 := fun e => by
      rcases e with e | e
      · rw [List.take_of_length_le (by omega), List.take_of_length_le (by omega)]
      · rw [e]
    have HEND := hide END
    clear END
    by_cases hlt : k < zs.length
    · have i1 : (k : Int) < (zs.length : Int) := by omega
      by_cases h5 : k < 5
      · have i2 : (k : Int) < 5 := by omega
        have ha := HI.out.addr (by omega)
        subst ha
        have hcell := (HI.out.below BW.out).mem k hlt
        obtain ⟨z, hzz⟩ : ∃ z, zs[k] = z := ⟨_, rfl⟩
        have uz := HI.out.rng z (by rw [← hzz]; exact List.getElem_mem hlt)
        rw [hzz] at hcell
        have HC := hide hcell
        have HL := hide hlt
        have HZ := hide (show zs[k]'(HL.out) = z from hzz)
        have HK5 := hide h5
        have i0 : (0 : Int) ≤ (k : Int) := by omega
        clear hcell hzz hlt hk hk5 h5
        go_wp2_with fail
        refine wp_reg G (R := fun V => Ch (fun _ => False) W0 V) (by kernel_rfl) (Ch.drew _) (fun V cV zk => ?_)
        have CV := hide cV
        have BE := hide (BW.out.trans (cV.below (N := w.heap.size) BW.out.size (fun _ _ h => h)))
        clear cV
        have SV := hide (ST.out.quiet CV.out)
        have NS := hide (show ¬ G w2.heap.size from ST.out.nbox SA.out (by decide) (by decide) (by decide) (by decide) (by decide) (by decide))
        have HXX := hide (fun wq (kq : Ch G V wq) => show wq.cell? ⟨b, o + k, none⟩ = some (.int .i64 z) from by
          have hbl : b < w.heap.size := cell_lt (HI.out.mem k HL.out)
          have e := kq.cell (b := b) (Nat.lt_of_lt_of_le hbl BE.out.size) (fun e => by have := (ST.out.foot e).1; omega) (o + k)
          rw [e, CV.out.cell (b := b) (Nat.lt_of_lt_of_le hbl BW.out.size) (fun h => h) (o + k)]
          exact HC.out)
        have hwr : IntKind.i64.wrap ((k : Int) + 1) = (k : Int) + 1 := by rw [IntKind.wrap_i64]; omega
        apply tk 0 kmd0 rfl (by kernel_rfl) (fun _ _ _ h => h) zk
        · intro wq zq
          go_simp
          try rfl
        go_frame
        apply tk 1 kmd1 rfl (by kernel_rfl) (fun _ _ _ h => h) zk
        · intro wq zq
          go_simp
          try rfl
        go_frame
        apply tk 2 kmd2 rfl (by kernel_rfl) (fun _ _ _ h => h) zk
        · intro wq zq
          go_simp
          try rfl
        go_frame
        apply tk 4 kmd4 rfl (by kernel_rfl) (fun _ _ _ h => h) zk
        · intro wq zq
          go_simp
          try rfl
        go_frame
        apply tk 5 kmd5 rfl (by kernel_rfl) (fun _ _ _ h => h) zk
        · intro wq zq
          go_simp
          try rfl
        go_frame
        apply tk 6 kmd6 rfl (by kernel_rfl) (fun _ _ _ h => h) zk
        · intro wq zq
          go_simp
          try rfl
        go_frame
        apply tk 7 kmd7 rfl (by kernel_rfl) (fun _ _ _ h => h) zk
        · intro wq zq
          have s0 := HXX.out _ zq
          go_simp
          try rfl
        go_frame
        have HNN := hide (show nnH ((k : Int) + 1, 1) = false from by unfold nnH; simp)
        have HPL := hide (show pkW z 101 ≤ 100 from by have := pkW_lt z (n := 101) (by decide); omega)
        have HFN := hide (show fnk (mkK 0 (zs.take k)) ((k : Int) + 1, 1) = none from by
          have := mkK_none 0 (zs.take k) (j := k) (by rw [List.length_take]; omega)
          rwa [show ((k + 1 : Nat) : Int) = (k : Int) + 1 by omega] at this)
        refine Go.Proofs.Ytbblmbbpicinlaa.rd 3 kmd3 rfl (by kernel_rfl) fun K hK => ?_
        go_simp
        refine (h15_is V (n := (k : Int) + 1) (by omega) (by omega)).mono ?_
        rintro e W6 ⟨rfl, hb6⟩
        have Z6 := hide (zk.trans (Ch.of_below (Q := G) hb6) (fun _ _ h => h))
        have Q6 := hide (Ch.of_below (Q := fun _ => False) hb6)
        clear hb6
        go_wp2_with fail
        refine hK.out _ _ ?_ (fun zk => ?_)
        · exact Z6.out
        clear hK K
        try go_frame
        refine Go.Proofs.Ytbblmbbpicinlaa.rd 8 kmd8 rfl (by kernel_rfl) fun K hK => ?_
        go_simp
        refine (picks_is uz (n := 101) (by decide) (by decide) _).mono ?_
        rintro e W7 ⟨rfl, rfl⟩
        go_wp2_with fail
        refine hK.out _ _ ?_ (fun zk => ?_)
        · exact Z6.out
        clear hK K
        try go_frame
        refine Go.Proofs.Ytbblmbbpicinlaa.rd 9 kmd9 rfl (by kernel_rfl) fun K hK => ?_
        go_simp
        refine (sw_make (SV.out.quiet Q6.out) (x := ((k : Int) + 1, 1)) HNN.out (m := ((pkW z 101 : Nat) : Int)) (n := pkW z 101) rfl HPL.out HFN.out).mono ?_
        rintro e W8 ⟨G8, rfl, hs8, hc8⟩
        have M9 := hide hs8
        have Z8 := hide (zk.trans hc8 (fun _ _ h => h))
        clear hs8 hc8
        go_wp2_with fail
        refine hK.out _ _ ?_ (fun zk => ?_)
        · exact Z8.out
        clear hK K
        try go_frame
        apply tk 10 kmd10 rfl (by kernel_rfl) (fun _ _ _ h => h) zk
        · intro wq zq
          go_simp
          try rfl
        go_frame
        refine wpAnyH_done (by kernel_rfl) ?_ _
        have Z9 := hide (And.intro ST.out zk)
        go_wp2_with fail
        refine ⟨?rel, ?measure⟩
        case rel =>
          refine ⟨k + 1, HL.out, HK5.out, rfl, hide ⟨BE.out.trans (Z9.out.2.below BE.out.size (fun y hy e => by have := (Z9.out.1.foot e).1; omega)), Z9.out.2.box (CV.out.box SA.out (fun h => h)) NS.out, ?_⟩⟩
          rw [List.take_succ_eq_append_getElem HL.out, HZ.out, mkK_snoc, List.length_take, show ((0 + min k zs.length + 1 : Nat) : Int) = (k : Int) + 1 by have := HL.out; omega]
          exact ⟨_, M9.out⟩
        case measure =>
          show 5 - ((k : Int) + 1).toNat < 5 - (k : Int).toNat
          have := HK5.out
          omega
      · have i2 : ¬ (k : Int) < 5 := by omega
        have HT := hide (HEND.out (.inr (by omega)))
        clear hlt h5 hk hk5
        go_wp2_with fail
        refine bodyPost_ret (results_tmp3 Try.results36 _ _ _) rfl ?_
        exact ⟨c, bp, _, G, rfl, by rw [← HT.out]; exact ST.out, SA.out, L2.out, BW.out⟩
    · have i1 : ¬ (k : Int) < (zs.length : Int) := by omega
      have HT := hide (HEND.out (.inl (by omega)))
      clear hlt hk hk5
      go_wp2_with fail
      refine bodyPost_ret (results_tmp3 Try.results36 _ _ _) rfl ?_
      exact ⟨c, bp, _, G, rfl, by rw [← HT.out]; exact ST.out, SA.out, L2.out, BW.out⟩
end

end Go.Proofs.Ytbblmbbpicinlaa

namespace Go.Proofs.Ytbblmbbpicinlaa
open Go.RowKit

abbrev kaq0 : Oper := { dst := some 58, op := Op.move (Operand.tmp 3), type := 87, pos := "law.go:53", after := #[], guard := none }
abbrev kaq1 : Oper := { dst := some 59, op := Op.call { callee := Callee.value (Operand.func 38), args := #[Operand.const (Value.int IntKind.i64 11)], argTypes := #[3] }, type := 43, pos := "law.go:53", after := #[], guard := none }
abbrev kaq2 : Oper := { dst := some 60, op := Op.move (Operand.tmp 4), type := 94, pos := "law.go:53", after := #[], guard := none }
abbrev kaq3 : Oper := { dst := some 61, op := Op.slice 94 (Operand.tmp 60) none (some (Operand.const (Value.int IntKind.i64 2))) none, type := 94, pos := "law.go:53", after := #[{ on := 2, ground := Ground.data }], guard := none }
abbrev kaq4 : Oper := { dst := some 62, op := Op.call { callee := Callee.value (Operand.func 45), args := #[Operand.tmp 58, Operand.tmp 59, Operand.tmp 61], argTypes := #[87, 43, 94] }, type := 27, pos := "law.go:53", after := #[{ on := 0, ground := Ground.data }, { on := 1, ground := Ground.data }, { on := 3, ground := Ground.data }, { on := 1, ground := Ground.chain }], guard := none }
abbrev kaq5 : Oper := { dst := some 11, op := Op.assign (Operand.tmp 62), type := 27, pos := "law.go:53", after := #[{ on := 4, ground := Ground.data }, { on := 4, ground := Ground.chain }, { on := 0, ground := Ground.phase }, { on := 1, ground := Ground.phase }, { on := 2, ground := Ground.phase }, { on := 3, ground := Ground.phase }, { on := 4, ground := Ground.phase }], guard := none }

/-- kinds of boxes that are none of theirs -/
abbrev okT (T : TypeId) : Prop := 124 ≠ T ∧ 195 ≠ T ∧ 127 ≠ T ∧ 147 ≠ T ∧ 204 ≠ T ∧ 46 ≠ T
theorem SW.nb {w : World} {B c bp : Nat} {l : List Wt} {ks : List Kn} {G : Nat → Prop} (h : SW w B c bp l ks G) {b : Nat} {a : Array Value} {T : TypeId} (hb : w.heap[b]? = some (.cells a T (0, 0))) (hT : okT T) : ¬ G b := h.nbox hb hT.1 hT.2.1 hT.2.2.1 hT.2.2.2.1 hT.2.2.2.2.1 hT.2.2.2.2.2
theorem SW.keep {w w' : World} {B c bp : Nat} {l : List Wt} {ks : List Kn} {G : Nat → Prop} (h : SW w B c bp l ks G) (hc : Ch G w w') {b : Nat} {a : Array Value} {T : TypeId} (hb : w.heap[b]? = some (.cells a T (0, 0))) (hT : okT T) : w'.heap[b]? = some (.cells a T (0, 0)) := hc.box hb (h.nb hb hT)
theorem SW.blw {w w' : World} {B N c bp : Nat} {l : List Wt} {ks : List Kn} {G : Nat → Prop} (h : SW w B c bp l ks G) (hc : Ch G w w') (hN : N ≤ B) : Below N w w' := hc.below (Nat.le_trans hN h.low) (fun y hy e => by have := (h.foot e).1; omega)

def e1 : Am := ⟨(1, 1), false, zVa⟩
def e2 : Am := ⟨(2, 1), true, ⟨4, 0, 0⟩⟩
def e3 : Am := ⟨(0, 0), false, zVa⟩
def kz0 : List Kn := [⟨(1, 1), 0, [], false⟩, ⟨(2, 1), 1, [], false⟩]
def kz1 : List Kn := [⟨(1, 1), 0, [], false⟩, ⟨(2, 1), 1, [⟨4, 0, 0⟩], false⟩]
def lz2 : List Wt := pkL (11, 1) 0 [e1, e2] []
theorem mk_01 : mkK 0 ([0, 1].take 5) = kz0 := by rfl
theorem us_k {n : Int} (h : 0 ≤ n) (h1 : n ≤ 100) : UsW n := ⟨h, by omega⟩
theorem i64_k {n : Int} (h : 0 ≤ n) (h1 : n ≤ 100) : I64 n := ⟨by omega, by omega⟩
theorem am_ok : ∀ x ∈ [e1, e2, e3], AmOk x := by
  intro x hx
  simp only [List.mem_cons, List.not_mem_nil, or_false] at hx
  rcases hx with rfl | rfl | rfl <;> exact ⟨us_k (by decide) (by decide), us_k (by decide) (by decide), i64_k (by decide) (by decide), us_k (by decide) (by decide), us_k (by decide) (by decide)⟩
theorem ar_mem {w : World} {g : Nat} (h : w.heap[g]? = some (.cells #[.int .u32 1, .int .u32 1, .bool false, .int .i64 0, .int .u32 0, .int .u32 0, .int .u32 2, .int .u32 1, .bool true, .int .i64 4, .int .u32 0, .int .u32 0, .int .u32 0, .int .u32 0, .bool false, .int .i64 0, .int .u32 0, .int .u32 0] 105 (0, 0))) : AmL w g [e1, e2, e3] := by
  have e := Lib.cell_of_heap h
  intro i hi
  match i, hi with
  | 0, _ => exact ⟨by simp [e, e1], by simp [e, e1], by simp [e, e1], by simp [e, e1, zVa], by simp [e, e1, zVa], by simp [e, e1, zVa]⟩
  | 1, _ => exact ⟨by simp [e, e2], by simp [e, e2], by simp [e, e2], by simp [e, e2], by simp [e, e2], by simp [e, e2]⟩
  | 2, _ => exact ⟨by simp [e, e3], by simp [e, e3], by simp [e, e3], by simp [e, e3, zVa], by simp [e, e3, zVa], by simp [e, e3, zVa]⟩
theorem pl_0 : plA [] kz0 [e1, e2, e3] = ([1], 0) := by rfl
theorem ak_0 : akA [] kz0 (11, 1) [e1, e2, e3] = ([1], 0) := by rfl
theorem ak_1 : akA [] kz1 (11, 1) [e1, e2] = ([], 0) := by rfl
theorem sn_1 : sndK [] ⟨(2, 1), 1, [], false⟩ (11, 1) ⟨4, 0, 0⟩ = (⟨0, zVa, false, []⟩, [], ⟨(2, 1), 1, [⟨4, 0, 0⟩], false⟩) := by rfl
theorem st_1 : setk kz0 ⟨(2, 1), 1, [⟨4, 0, 0⟩], false⟩ = kz1 := by rfl
theorem rc_1 : (rcvK lz2 ⟨(2, 1), 1, [⟨4, 0, 0⟩], false⟩ (12, 1)).1 = ⟨0, ⟨4, 0, 0⟩, true, [⟨11, 1, 1, zVa, false, 0⟩]⟩ := by rfl
theorem rc_2 : (rcvK lz2 ⟨(2, 1), 1, [⟨4, 0, 0⟩], false⟩ (12, 1)).2.1 = leaW lz2 11 1 := by rfl
theorem lz_left : cntW (leaW lz2 11 1) = 0 := by rfl
theorem lz_no : sel (isWho 12 1) lz2 = [] := by rfl
theorem lz_ok : WtOk lz2 := by
  unfold lz2 pkL pkL pkL
  refine WtOk.put (WtOk.put ?_ ?_ ?_ ?_ ?_ ?_ ?_) ?_ ?_ ?_ ?_ ?_ ?_ <;> first | exact us_k (by decide) (by decide) | exact i64_k (by decide) (by decide) | (intro t ht; cases ht)
theorem lz_len : lz2.length = 2 := by rfl

set_option maxRecDepth 100000 in
set_option maxHeartbeats 32000000 in
theorem awake15_is (w : World) : Calls Try.prog 35 #[] w fun e w' => e = .returned (.bool true) ∧ Below w.heap.size w w' := by
  go_enter Try.func35, Try.ntmps35
  go_wp2_with fail
  obtain ⟨w1, hw1⟩ : ∃ z, w.alloc (.cells #[.int .i64 0, .int .i64 1] 3) = z := ⟨_, rfl⟩
  rw [hw1]
  have hn1 : w1.heap[w.heap.size]? = some (.cells #[.int .i64 0, .int .i64 1] 3 (0, 0)) := by rw [← hw1]; exact heap_new _ _
  have HIN := hide (show IntsIn w1 (some ⟨w.heap.size, 0, none⟩) w.heap.size 0 [0, 1] from ⟨fun _ => rfl, fun i hi => by
    have e := Lib.cell_of_heap hn1
    match i, hi with
    | 0, _ => simp [e]
    | 1, _ => simp [e], fun z hz => by
    simp only [List.mem_cons, List.not_mem_nil, or_false] at hz
    rcases hz with rfl | rfl <;> exact i64_k (by decide) (by decide)⟩)
  have B1 := hide (show Below w.heap.size w w1 by rw [← hw1]; exact below1 _ _)
  clear hw1 hn1
  refine (made_is (zs := [0, 1]) (cap := 2) HIN.out (by decide)).mono ?_
  rintro e w2 ⟨c, bp, s, G0, rfl, sw2, sa2, -, hb2⟩
  rw [mk_01] at sw2
  have S2 := hide sw2
  have A2 := hide sa2
  have L1 := hide B1.out.size
  have B2 := hide (B1.out.trans (hb2.mono B1.out.size))
  clear sw2 sa2 hb2 HIN B1
  go_wp2_with fail
  refine (h15_is w2 (n := 1) (by decide) (by decide)).mono ?_
  rintro e w3 ⟨rfl, hb3⟩
  have B3 := hide (B2.out.trans (hb3.mono B2.out.size))
  have C3 := hide (Ch.of_below (Q := fun _ => False) hb3)
  clear hb3
  go_wp2_with fail
  refine (h15_is w3 (n := 2) (by decide) (by decide)).mono ?_
  rintro e w4 ⟨rfl, hb4⟩
  have B4 := hide (B3.out.trans (hb4.mono B3.out.size))
  have C4 := hide (C3.out.trans (Ch.of_below (Q := fun _ => False) hb4) (fun _ _ h => h))
  clear hb4
  go_wp2_with fail
  obtain ⟨w5, hw5⟩ : ∃ z, w4.alloc (.cells #[.int .u32 1, .int .u32 1, .bool false, .int .i64 0, .int .u32 0, .int .u32 0, .int .u32 2, .int .u32 1, .bool true, .int .i64 4, .int .u32 0, .int .u32 0, .int .u32 0, .int .u32 0, .bool false, .int .i64 0, .int .u32 0, .int .u32 0] 105) = z := ⟨_, rfl⟩
  rw [hw5]
  obtain ⟨g, hg⟩ : ∃ z, w4.heap.size = z := ⟨_, rfl⟩
  have R5 := hide (show w5.heap[g]? = some (.cells #[.int .u32 1, .int .u32 1, .bool false, .int .i64 0, .int .u32 0, .int .u32 0, .int .u32 2, .int .u32 1, .bool true, .int .i64 4, .int .u32 0, .int .u32 0, .int .u32 0, .int .u32 0, .bool false, .int .i64 0, .int .u32 0, .int .u32 0] 105 (0, 0)) by rw [← hw5, ← hg]; exact heap_new _ _)
  have c45 : Ch (fun _ => False) w4 w5 := by rw [← hw5]; exact Ch.alloc _ _
  have S5 := hide (S2.out.quiet (C4.out.trans c45 (fun _ _ h => h)))
  have A5 := hide ((C4.out.trans c45 (fun _ _ h => h)).box A2.out (fun h => h))
  have B5 := hide (B4.out.trans (c45.below B4.out.size (fun _ _ h => h)))
  rw [hg]
  clear hw5 c45 hg
  refine (poll_is (cap := 3) (az := [e1, e2, e3]) S5.out (by simp) A5.out (a := some ⟨g, 0, none⟩) (g := g) ⟨fun _ => rfl, ar_mem R5.out⟩ am_ok (by decide)).mono ?_
  rintro e w6 ⟨v6, rfl, hr6, hb6⟩
  rw [pl_0] at hr6 ⊢
  have C6 := Ch.of_below (Q := fun _ => False) hb6
  have S6 := hide (S5.out.quiet C6)
  have A6 := hide (C6.box A5.out (fun h => h))
  have R6 := hide (C6.box R5.out (fun h => h))
  have B6 := hide (B5.out.trans (hb6.mono B5.out.size))
  obtain ⟨g6, c6, cur6, rfl, -, -, -, hcur, -, hc6⟩ := hr6.at inF_len (by decide)
  obtain ⟨m6, hm6⟩ : ∃ z, z = Obj.cells cur6 3 (0, 0) := ⟨_, rfl⟩
  have V6 := hide (And.intro hcur (hc6 0 (by decide) 0 _ rfl))
  clear hr6 hb6 C6 hcur hc6 hm6
  go_wp2_with fail
  refine (h15_is w6 (n := 11) (by decide) (by decide)).mono ?_
  rintro e w7 ⟨rfl, hb7⟩
  have C7 := hide (Ch.of_below (Q := fun _ => False) hb7)
  have B7 := hide (B6.out.trans (hb7.mono B6.out.size))
  have S7 := hide (S6.out.quiet C7.out)
  have A7 := hide (C7.out.box A6.out (fun h => h))
  have R7 := hide (C7.out.box R6.out (fun h => h))
  have V7 := hide (C7.out.box V6.out.1 (fun h => h))
  clear hb7
  go_wp2_with fail
  refine (take_arm (cap := 3) (az := [e1, e2, e3]) S7.out (by simp) A7.out (a := some ⟨g, 0, none⟩) (g := g) ⟨fun _ => rfl, ar_mem R7.out⟩ am_ok (by decide) (gr := (11, 1)) (us_k (by decide) (by decide)) (us_k (by decide) (by decide)) (i := 0) (by rw [ak_0]) (by rw [ak_0]; rfl)).mono ?_
  rintro e w8 ⟨rfl, hb8⟩
  have C8 := hide (Ch.of_below (Q := fun _ => False) hb8)
  have B8 := hide (B7.out.trans (hb8.mono B7.out.size))
  clear hb8
  go_wp2_with fail
  obtain ⟨w9, hw9⟩ : ∃ z, w8.alloc (.cells #[.int .i64 0, .int .i64 zVa.n, .int .u32 zVa.s, .int .u32 zVa.g, .bool false, .slice none 0 0] 72) = z := ⟨_, rfl⟩
  try rw [hw9]
  have c9 : Ch (fun _ => False) w8 w9 := by rw [← hw9]; exact Ch.alloc _ _
  have C9 := hide c9
  have B9 := hide (B8.out.trans (c9.below B8.out.size (fun _ _ h => h)))
  clear hw9 c9
  refine (h15_is w9 (n := 11) (by decide) (by decide)).mono ?_
  rintro e w10 ⟨rfl, hb10⟩
  have C10 := hide ((C8.out.trans C9.out (fun _ _ h => h)).trans (Ch.of_below (Q := fun _ => False) hb10) (fun _ _ h => h))
  have B10 := hide (B9.out.trans (hb10.mono B9.out.size))
  have S10 := hide (S7.out.quiet C10.out)
  have A10 := hide (C10.out.box A7.out (fun h => h))
  have R10 := hide (C10.out.box R7.out (fun h => h))
  have V10 := hide (C10.out.box V7.out (fun h => h))
  clear hb10
  go_wp2_with fail
  refine (take_send (cap := 3) (az := [e1, e2, e3]) S10.out (by simp) A10.out (a := some ⟨g, 0, none⟩) (g := g) ⟨fun _ => rfl, ar_mem R10.out⟩ am_ok (by decide) (gr := (11, 1)) (us_k (by decide) (by decide)) (us_k (by decide) (by decide)) (i := 1) (fun t ht => by cases ht) (by rw [ak_0]) (m := 1) (by decide) rfl (by rw [ak_0]; rfl) (x := e2) rfl rfl rfl (k := ⟨(2, 1), 1, [], false⟩) rfl).mono ?_
  rintro e w11 ⟨sv, rfl, ha⟩
  rw [show e2.v = ⟨4, 0, 0⟩ from rfl, sn_1] at ha ⊢
  rw [st_1] at ha
  obtain ⟨⟨G1, sw11, -⟩, hrow, hch⟩ := ha
  obtain ⟨sva, svc, rfl, -⟩ := hrow.form
  have S11 := hide sw11
  have B11 := hide (B10.out.trans (S10.out.blw hch L1.out))
  have A11 := hide (S10.out.keep hch A10.out (by decide))
  have R11 := hide (S10.out.keep hch R10.out (by decide))
  have V11 := hide (S10.out.keep hch V10.out (by decide))
  clear sw11 hrow hch
  go_wp2_with fail
  obtain ⟨w12, hw12⟩ : ∃ z, w11.alloc (.cells #[.int .i64 0, .int .i64 zVa.n, .int .u32 zVa.s, .int .u32 zVa.g, .bool false, .slice sva 0 svc] 72) = z := ⟨_, rfl⟩
  try rw [hw12]
  obtain ⟨d9, hd9⟩ : ∃ z, w11.heap.size = z := ⟨_, rfl⟩
  have D12 := hide (show w12.heap[d9]? = some (.cells #[.int .i64 0, .int .i64 zVa.n, .int .u32 zVa.s, .int .u32 zVa.g, .bool false, .slice sva 0 svc] 72 (0, 0)) by rw [← hw12, ← hd9]; exact heap_new _ _)
  have c12 : Ch (fun _ => False) w11 w12 := by rw [← hw12]; exact Ch.alloc _ _
  have S12 := hide (S11.out.quiet c12)
  have A12 := hide (c12.box A11.out (fun h => h))
  have R12 := hide (c12.box R11.out (fun h => h))
  have V12 := hide (c12.box V11.out (fun h => h))
  have B12 := hide (B11.out.trans (c12.below B11.out.size (fun _ _ h => h)))
  try rw [hd9]
  clear hw12 c12 hd9
  clear S11
  refine wp_reg G1 (R := fun V => Ch (fun _ => False) w12 V) (by kernel_rfl) (Ch.drew _) (fun V cV zk => ?_)
  have CV := hide cV
  clear cV
  apply tk 0 kaq0 rfl (by kernel_rfl) (fun _ _ _ h => h) zk
  · intro wq zq
    go_simp
    try rfl
  go_frame
  apply tk 2 kaq2 rfl (by kernel_rfl) (fun _ _ _ h => h) zk
  · intro wq zq
    go_simp
    try rfl
  go_frame
  apply tk 3 kaq3 rfl (by kernel_rfl) (fun _ _ _ h => h) zk
  · intro wq zq
    go_simp
    try rfl
  go_frame
  refine Go.Proofs.Ytbblmbbpicinlaa.rd 1 kaq1 rfl (by kernel_rfl) fun K hK => ?_
  go_simp
  refine (h15_is V (n := 11) (by decide) (by decide)).mono ?_
  rintro e w13 ⟨rfl, hb13⟩
  have Z13 := hide (zk.trans (Ch.of_below (Q := G1) hb13) (fun _ _ h => h))
  have C13 := hide (CV.out.trans (Ch.of_below (Q := fun _ => False) hb13) (fun _ _ h => h))
  clear hb13
  go_wp2_with fail
  refine hK.out _ _ ?_ (fun zk => ?_)
  · exact Z13.out
  clear hK K
  try go_frame
  have S13 := hide (S12.out.quiet C13.out)
  have A13 := hide (C13.out.box A12.out (fun h => h))
  have R13 := hide (C13.out.box R12.out (fun h => h))
  have V13 := hide (C13.out.box V12.out (fun h => h))
  have D13 := hide (C13.out.box D12.out (fun h => h))
  have B13 := hide (B12.out.trans (C13.out.below B12.out.size (fun _ _ h => h)))
  refine Go.Proofs.Ytbblmbbpicinlaa.rd 4 kaq4 rfl (by kernel_rfl) fun K hK => ?_
  go_simp
  refine (park_go (cap := 3) (az := [e1, e2]) S13.out (by simp) A13.out (a := some ⟨g, 0, none⟩) (g := g) ⟨fun _ => rfl, (ar_mem R13.out).take 2⟩ (fun x hx => am_ok x (by rcases List.mem_cons.1 hx with h | h; exact h ▸ List.mem_cons_self ..; exact List.mem_cons_of_mem _ (by rcases List.mem_cons.1 h with h | h; exact h ▸ List.mem_cons_self ..; cases h))) (by decide) (gr := (11, 1)) (us_k (by decide) (by decide)) (us_k (by decide) (by decide)) (fun _ => S13.out.nb R13.out (by decide)) (by rw [ak_1]) (by rw [ak_1])).mono ?_
  rintro e w14 ⟨rfl, G2, sw14, hg14, hc14⟩
  have S15 := hide (show SW w14 w1.heap.size c bp lz2 kz1 G2 from sw14)
  have B15 := hide (B13.out.trans (S13.out.blw hc14 L1.out))
  have V15 := hide (S13.out.keep hc14 V13.out (by decide))
  have D15 := hide (S13.out.keep hc14 D13.out (by decide))
  have Z14 := hide (Z13.out.trans hc14 (fun _ _ h => h))
  clear sw14 hg14 hc14
  go_wp2_with fail
  refine hK.out _ _ ?_ (fun zk => ?_)
  · exact Z14.out
  clear hK K
  try go_frame
  apply tk 5 kaq5 rfl (by kernel_rfl) (fun _ _ _ h => h) zk
  · intro wq zq
    go_simp
    try rfl
  go_frame
  refine wpAnyH_done (by kernel_rfl) ?_ _
  clear zk Z13 Z14
  go_wp2_with fail
  refine (h15_is w14 (n := 12) (by decide) (by decide)).mono ?_
  rintro e w16 ⟨rfl, hb16⟩
  have C16 := hide (Ch.of_below (Q := fun _ => False) hb16)
  have B16 := hide (B15.out.trans (hb16.mono B15.out.size))
  clear hb16
  go_wp2_with fail
  refine (h15_is w16 (n := 2) (by decide) (by decide)).mono ?_
  rintro e w17 ⟨rfl, hb17⟩
  have C17 := hide (C16.out.trans (Ch.of_below (Q := fun _ => False) hb17) (fun _ _ h => h))
  have B17 := hide (B16.out.trans (hb17.mono B16.out.size))
  have S17 := hide (S15.out.quiet C17.out)
  have V17 := hide (C17.out.box V15.out (fun h => h))
  have D17 := hide (C17.out.box D15.out (fun h => h))
  clear hb17
  go_wp2_with fail
  refine (sw_recv S17.out (by rw [lz_len]; decide) lz_ok (g := (12, 1)) (h0 := (2, 1)) (x := ⟨(2, 1), 1, [⟨4, 0, 0⟩], false⟩) rfl rfl rfl lz_no (us_k (by decide) (by decide)) (us_k (by decide) (by decide)) (us_k (by decide) (by decide)) (us_k (by decide) (by decide))).mono ?_
  rintro e w18 ⟨sv2, rfl, ha⟩
  rw [rc_1] at ha ⊢
  rw [rc_2] at ha
  obtain ⟨⟨G3, sw18, -⟩, hrow, hch⟩ := ha
  have B18 := hide (B17.out.trans (S17.out.blw hch L1.out))
  have V18 := hide (S17.out.keep hch V17.out (by decide))
  have D18 := hide (S17.out.keep hch D17.out (by decide))
  obtain ⟨F3, hpt, -, -⟩ := sw18.book
  have P18 := hide hpt
  obtain ⟨nb, nc, ncur, hsv, -, -, -, hncur, -, hnc⟩ := hrow.at wkL_len (by decide)
  have hsv : sv2 = .slice (some ⟨nb, 0, none⟩) 1 nc := hsv
  subst hsv
  have N18 := hide (And.intro hncur (hnc 0 (by decide) 2 _ rfl))
  clear sw18 hrow hch hpt hncur hnc
  obtain ⟨w19, hw19⟩ : ∃ z, w18.alloc (.cells #[.int .i64 0, .int .i64 4, .int .u32 0, .int .u32 0, .bool true, .slice (some ⟨nb, 0, none⟩) 1 nc] 72) = z := ⟨_, rfl⟩
  have hn19 : w19.heap[w18.heap.size]? = some (.cells #[.int .i64 0, .int .i64 4, .int .u32 0, .int .u32 0, .bool true, .slice (some ⟨nb, 0, none⟩) 1 nc] 72 (0, 0)) := by rw [← hw19]; exact heap_new _ _
  have c19 : Ch (fun _ => False) w18 w19 := by rw [← hw19]; exact Ch.alloc _ _
  have B19 := hide (B18.out.trans (c19.below B18.out.size (fun _ _ h => h)))
  have P19 := hide (face.ch P18.out c19 (fun _ _ h => h))
  have x0 : (w18.alloc (.cells #[.int .i64 0, .int .i64 4, .int .u32 0, .int .u32 0, .bool true, .slice (some ⟨nb, 0, none⟩) 1 nc] 72)).cell? ⟨g6, 0, none⟩ = some (.int .i64 1) := by
    rw [hw19]
    have := V6.out.2
    have e1 := Lib.cell_of_heap V6.out.1 0
    have e2 := Lib.cell_of_heap (c19.box V18.out (fun h => h)) 0
    rw [e2, ← e1]
    exact this
  have x1 : (w18.alloc (.cells #[.int .i64 0, .int .i64 4, .int .u32 0, .int .u32 0, .bool true, .slice (some ⟨nb, 0, none⟩) 1 nc] 72)).cell? ⟨d9, 0, none⟩ = some (.int .i64 0) := by rw [hw19]; simp [Lib.cell_of_heap (c19.box D18.out (fun h => h))]
  have x2 : (w18.alloc (.cells #[.int .i64 0, .int .i64 4, .int .u32 0, .int .u32 0, .bool true, .slice (some ⟨nb, 0, none⟩) 1 nc] 72)).cell? ⟨w18.heap.size, 1, none⟩ = some (.int .i64 4) := by rw [hw19]; simp [Lib.cell_of_heap hn19]
  have x3 : (w18.alloc (.cells #[.int .i64 0, .int .i64 4, .int .u32 0, .int .u32 0, .bool true, .slice (some ⟨nb, 0, none⟩) 1 nc] 72)).cell? ⟨w18.heap.size, 5, none⟩ = some (.slice (some ⟨nb, 0, none⟩) 1 nc) := by rw [hw19]; simp [Lib.cell_of_heap hn19]
  have x4 : (w18.alloc (.cells #[.int .i64 0, .int .i64 4, .int .u32 0, .int .u32 0, .bool true, .slice (some ⟨nb, 0, none⟩) 1 nc] 72)).cell? ⟨nb, 2, none⟩ = some (.int .i64 1) := by
    rw [hw19]
    have e1 := Lib.cell_of_heap N18.out.1 2
    have e2 := Lib.cell_of_heap (c19.box N18.out.1 (fun h => h)) 2
    rw [e2, ← e1]
    exact N18.out.2
  have HW19 := hide hw19
  clear hw19 hn19 c19
  go_wp2_with fail
  rw [HW19.out]
  refine (face.count P19.out (by rw [leaW_len, lz_len]; decide)).mono ?_
  rintro e w20 ⟨rfl, hb20⟩
  rw [lz_left]
  have B20 := hide (B19.out.trans (hb20.mono B19.out.size))
  clear hb20
  go_wp2_with fail
  go_ret
  exact ⟨rfl, B20.out⟩

end Go.Proofs.Ytbblmbbpicinlaa

namespace Go.Proofs.Ytbblmbbpicinlaa
open Go.RowKit

abbrev ksm0 : Oper := { dst := some 41, op := Op.fieldAddr 72 (Operand.tmp 2) 3, type := 0, pos := "ref.go:260", after := #[], guard := none }
abbrev ksm1 : Oper := { dst := some 42, op := Op.load 70 (Operand.tmp 41), type := 70, pos := "ref.go:260", after := #[{ on := 0, ground := Ground.data }], guard := none }
abbrev ksm2 : Oper := { dst := some 43, op := Op.move (Operand.tmp 5), type := 3, pos := "ref.go:260", after := #[], guard := none }
abbrev ksm3 : Oper := { dst := some 44, op := Op.indexAddr 70 (Operand.tmp 42) (Operand.tmp 43), type := 0, pos := "ref.go:260", after := #[{ on := 1, ground := Ground.data }, { on := 2, ground := Ground.data }], guard := none }
abbrev ksm4 : Oper := { dst := some 45, op := Op.load 119 (Operand.tmp 44), type := 119, pos := "ref.go:260", after := #[{ on := 3, ground := Ground.data }], guard := none }
abbrev ksm5 : Oper := { dst := some 46, op := Op.fieldAddr 72 (Operand.tmp 3) 3, type := 0, pos := "ref.go:260", after := #[], guard := none }
abbrev ksm6 : Oper := { dst := some 47, op := Op.load 70 (Operand.tmp 46), type := 70, pos := "ref.go:260", after := #[{ on := 5, ground := Ground.data }], guard := none }
abbrev ksm7 : Oper := { dst := some 48, op := Op.move (Operand.tmp 5), type := 3, pos := "ref.go:260", after := #[], guard := none }
abbrev ksm8 : Oper := { dst := some 49, op := Op.indexAddr 70 (Operand.tmp 47) (Operand.tmp 48), type := 0, pos := "ref.go:260", after := #[{ on := 6, ground := Ground.data }, { on := 7, ground := Ground.data }], guard := none }
abbrev ksm9 : Oper := { dst := some 50, op := Op.load 119 (Operand.tmp 49), type := 119, pos := "ref.go:260", after := #[{ on := 8, ground := Ground.data }], guard := none }
abbrev ksm10 : Oper := { dst := some 51, op := Op.binOp BinOp.neq 119 (Operand.tmp 45) (Operand.tmp 50) 119, type := 4, pos := "ref.go:260", after := #[{ on := 4, ground := Ground.data }, { on := 9, ground := Ground.data }], guard := none }
abbrev kwq0 : Oper := { dst := some 17, op := Op.move (Operand.tmp 0), type := 33, pos := "ref.go:273", after := #[], guard := none }
abbrev kwq1 : Oper := { dst := some 18, op := Op.move (Operand.tmp 5), type := 3, pos := "ref.go:273", after := #[], guard := none }
abbrev kwq2 : Oper := { dst := some 19, op := Op.indexAddr 33 (Operand.tmp 17) (Operand.tmp 18), type := 0, pos := "ref.go:273", after := #[{ on := 0, ground := Ground.data }, { on := 1, ground := Ground.data }], guard := none }
abbrev kwq3 : Oper := { dst := some 20, op := Op.fieldAddr 136 (Operand.tmp 19) 1, type := 0, pos := "ref.go:273", after := #[{ on := 2, ground := Ground.data }], guard := none }
abbrev kwq4 : Oper := { dst := some 21, op := Op.load 43 (Operand.tmp 20), type := 43, pos := "ref.go:273", after := #[{ on := 3, ground := Ground.data }], guard := none }
abbrev kwq5 : Oper := { dst := some 22, op := Op.move (Operand.tmp 1), type := 33, pos := "ref.go:273", after := #[], guard := none }
abbrev kwq6 : Oper := { dst := some 23, op := Op.move (Operand.tmp 5), type := 3, pos := "ref.go:273", after := #[], guard := none }
abbrev kwq7 : Oper := { dst := some 24, op := Op.indexAddr 33 (Operand.tmp 22) (Operand.tmp 23), type := 0, pos := "ref.go:273", after := #[{ on := 5, ground := Ground.data }, { on := 6, ground := Ground.data }], guard := none }
abbrev kwq8 : Oper := { dst := some 25, op := Op.fieldAddr 136 (Operand.tmp 24) 1, type := 0, pos := "ref.go:273", after := #[{ on := 7, ground := Ground.data }], guard := none }
abbrev kwq9 : Oper := { dst := some 26, op := Op.load 43 (Operand.tmp 25), type := 43, pos := "ref.go:273", after := #[{ on := 8, ground := Ground.data }], guard := none }
abbrev kwq10 : Oper := { dst := some 27, op := Op.binOp BinOp.neq 43 (Operand.tmp 21) (Operand.tmp 26) 43, type := 4, pos := "ref.go:273", after := #[{ on := 4, ground := Ground.data }, { on := 9, ground := Ground.data }], guard := none }
abbrev kwq11 : Oper := { dst := some 28, op := Op.move (Operand.tmp 27), type := 4, pos := "ref.go:273", after := #[{ on := 10, ground := Ground.data }], guard := none }
abbrev kwq12 : Oper := { dst := some 29, op := Op.move (Operand.tmp 0), type := 33, pos := "ref.go:273", after := #[{ on := 11, ground := Ground.guard }], guard := some (11, false) }
abbrev kwq13 : Oper := { dst := some 30, op := Op.move (Operand.tmp 5), type := 3, pos := "ref.go:273", after := #[{ on := 11, ground := Ground.guard }], guard := some (11, false) }
abbrev kwq14 : Oper := { dst := some 31, op := Op.indexAddr 33 (Operand.tmp 29) (Operand.tmp 30), type := 0, pos := "ref.go:273", after := #[{ on := 12, ground := Ground.data }, { on := 13, ground := Ground.data }, { on := 11, ground := Ground.guard }], guard := some (11, false) }
abbrev kwq15 : Oper := { dst := some 32, op := Op.fieldAddr 136 (Operand.tmp 31) 2, type := 0, pos := "ref.go:273", after := #[{ on := 14, ground := Ground.data }, { on := 11, ground := Ground.guard }], guard := some (11, false) }
abbrev kwq16 : Oper := { dst := some 33, op := Op.load 133 (Operand.tmp 32), type := 133, pos := "ref.go:273", after := #[{ on := 15, ground := Ground.data }, { on := 11, ground := Ground.guard }], guard := some (11, false) }
abbrev kwq17 : Oper := { dst := some 34, op := Op.move (Operand.tmp 1), type := 33, pos := "ref.go:273", after := #[{ on := 11, ground := Ground.guard }], guard := some (11, false) }
abbrev kwq18 : Oper := { dst := some 35, op := Op.move (Operand.tmp 5), type := 3, pos := "ref.go:273", after := #[{ on := 11, ground := Ground.guard }], guard := some (11, false) }
abbrev kwq19 : Oper := { dst := some 36, op := Op.indexAddr 33 (Operand.tmp 34) (Operand.tmp 35), type := 0, pos := "ref.go:273", after := #[{ on := 17, ground := Ground.data }, { on := 18, ground := Ground.data }, { on := 11, ground := Ground.guard }], guard := some (11, false) }
abbrev kwq20 : Oper := { dst := some 37, op := Op.fieldAddr 136 (Operand.tmp 36) 2, type := 0, pos := "ref.go:273", after := #[{ on := 19, ground := Ground.data }, { on := 11, ground := Ground.guard }], guard := some (11, false) }
abbrev kwq21 : Oper := { dst := some 38, op := Op.load 133 (Operand.tmp 37), type := 133, pos := "ref.go:273", after := #[{ on := 20, ground := Ground.data }, { on := 11, ground := Ground.guard }], guard := some (11, false) }
abbrev kwq22 : Oper := { dst := some 39, op := Op.binOp BinOp.neq 133 (Operand.tmp 33) (Operand.tmp 38) 133, type := 4, pos := "ref.go:273", after := #[{ on := 16, ground := Ground.data }, { on := 21, ground := Ground.data }, { on := 11, ground := Ground.guard }], guard := some (11, false) }
abbrev kwq23 : Oper := { dst := some 40, op := Op.pick (Operand.tmp 28) (Operand.const (Value.bool true)) (Operand.tmp 39), type := 4, pos := "ref.go:273", after := #[{ on := 11, ground := Ground.data }, { on := 22, ground := Ground.data }], guard := none }
abbrev kwq24 : Oper := { dst := some 41, op := Op.move (Operand.tmp 40), type := 4, pos := "ref.go:273", after := #[{ on := 23, ground := Ground.data }, { on := 11, ground := Ground.chain }], guard := none }
abbrev kwq25 : Oper := { dst := some 42, op := Op.move (Operand.tmp 0), type := 33, pos := "ref.go:273", after := #[{ on := 24, ground := Ground.guard }], guard := some (24, false) }
abbrev kwq26 : Oper := { dst := some 43, op := Op.move (Operand.tmp 5), type := 3, pos := "ref.go:273", after := #[{ on := 24, ground := Ground.guard }], guard := some (24, false) }
abbrev kwq27 : Oper := { dst := some 44, op := Op.indexAddr 33 (Operand.tmp 42) (Operand.tmp 43), type := 0, pos := "ref.go:273", after := #[{ on := 25, ground := Ground.data }, { on := 26, ground := Ground.data }, { on := 24, ground := Ground.guard }], guard := some (24, false) }
abbrev kwq28 : Oper := { dst := some 45, op := Op.fieldAddr 136 (Operand.tmp 44) 3, type := 0, pos := "ref.go:273", after := #[{ on := 27, ground := Ground.data }, { on := 24, ground := Ground.guard }], guard := some (24, false) }
abbrev kwq29 : Oper := { dst := some 46, op := Op.load 3 (Operand.tmp 45), type := 3, pos := "ref.go:273", after := #[{ on := 28, ground := Ground.data }, { on := 24, ground := Ground.guard }], guard := some (24, false) }
abbrev kwq30 : Oper := { dst := some 47, op := Op.move (Operand.tmp 1), type := 33, pos := "ref.go:273", after := #[{ on := 24, ground := Ground.guard }], guard := some (24, false) }
abbrev kwq31 : Oper := { dst := some 48, op := Op.move (Operand.tmp 5), type := 3, pos := "ref.go:273", after := #[{ on := 24, ground := Ground.guard }], guard := some (24, false) }
abbrev kwq32 : Oper := { dst := some 49, op := Op.indexAddr 33 (Operand.tmp 47) (Operand.tmp 48), type := 0, pos := "ref.go:273", after := #[{ on := 30, ground := Ground.data }, { on := 31, ground := Ground.data }, { on := 24, ground := Ground.guard }], guard := some (24, false) }
abbrev kwq33 : Oper := { dst := some 50, op := Op.fieldAddr 136 (Operand.tmp 49) 3, type := 0, pos := "ref.go:273", after := #[{ on := 32, ground := Ground.data }, { on := 24, ground := Ground.guard }], guard := some (24, false) }
abbrev kwq34 : Oper := { dst := some 51, op := Op.load 3 (Operand.tmp 50), type := 3, pos := "ref.go:273", after := #[{ on := 33, ground := Ground.data }, { on := 24, ground := Ground.guard }], guard := some (24, false) }
abbrev kwq35 : Oper := { dst := some 52, op := Op.binOp BinOp.neq 3 (Operand.tmp 46) (Operand.tmp 51) 3, type := 4, pos := "ref.go:273", after := #[{ on := 29, ground := Ground.data }, { on := 34, ground := Ground.data }, { on := 24, ground := Ground.guard }], guard := some (24, false) }
abbrev kwq36 : Oper := { dst := some 53, op := Op.pick (Operand.tmp 41) (Operand.const (Value.bool true)) (Operand.tmp 52), type := 4, pos := "ref.go:273", after := #[{ on := 24, ground := Ground.data }, { on := 35, ground := Ground.data }], guard := none }
abbrev kwq37 : Oper := { dst := some 54, op := Op.move (Operand.tmp 53), type := 4, pos := "ref.go:273", after := #[{ on := 36, ground := Ground.data }, { on := 24, ground := Ground.chain }], guard := none }
abbrev kwq38 : Oper := { dst := some 55, op := Op.move (Operand.tmp 0), type := 33, pos := "ref.go:273", after := #[{ on := 37, ground := Ground.guard }], guard := some (37, false) }
abbrev kwq39 : Oper := { dst := some 56, op := Op.move (Operand.tmp 5), type := 3, pos := "ref.go:273", after := #[{ on := 37, ground := Ground.guard }], guard := some (37, false) }
abbrev kwq40 : Oper := { dst := some 57, op := Op.indexAddr 33 (Operand.tmp 55) (Operand.tmp 56), type := 0, pos := "ref.go:273", after := #[{ on := 38, ground := Ground.data }, { on := 39, ground := Ground.data }, { on := 37, ground := Ground.guard }], guard := some (37, false) }
abbrev kwq41 : Oper := { dst := some 58, op := Op.fieldAddr 136 (Operand.tmp 57) 4, type := 0, pos := "ref.go:273", after := #[{ on := 40, ground := Ground.data }, { on := 37, ground := Ground.guard }], guard := some (37, false) }
abbrev kwq42 : Oper := { dst := some 59, op := Op.load 46 (Operand.tmp 58), type := 46, pos := "ref.go:273", after := #[{ on := 41, ground := Ground.data }, { on := 37, ground := Ground.guard }], guard := some (37, false) }
abbrev kwq43 : Oper := { dst := some 60, op := Op.move (Operand.tmp 1), type := 33, pos := "ref.go:273", after := #[{ on := 37, ground := Ground.guard }], guard := some (37, false) }
abbrev kwq44 : Oper := { dst := some 61, op := Op.move (Operand.tmp 5), type := 3, pos := "ref.go:273", after := #[{ on := 37, ground := Ground.guard }], guard := some (37, false) }
abbrev kwq45 : Oper := { dst := some 62, op := Op.indexAddr 33 (Operand.tmp 60) (Operand.tmp 61), type := 0, pos := "ref.go:273", after := #[{ on := 43, ground := Ground.data }, { on := 44, ground := Ground.data }, { on := 37, ground := Ground.guard }], guard := some (37, false) }
abbrev kwq46 : Oper := { dst := some 63, op := Op.fieldAddr 136 (Operand.tmp 62) 4, type := 0, pos := "ref.go:273", after := #[{ on := 45, ground := Ground.data }, { on := 37, ground := Ground.guard }], guard := some (37, false) }
abbrev kwq47 : Oper := { dst := some 64, op := Op.load 46 (Operand.tmp 63), type := 46, pos := "ref.go:273", after := #[{ on := 46, ground := Ground.data }, { on := 37, ground := Ground.guard }], guard := some (37, false) }
abbrev kwq48 : Oper := { dst := some 65, op := Op.binOp BinOp.neq 46 (Operand.tmp 59) (Operand.tmp 64) 46, type := 4, pos := "ref.go:273", after := #[{ on := 42, ground := Ground.data }, { on := 47, ground := Ground.data }, { on := 37, ground := Ground.guard }], guard := some (37, false) }
abbrev kwq49 : Oper := { dst := some 66, op := Op.pick (Operand.tmp 54) (Operand.const (Value.bool true)) (Operand.tmp 65), type := 4, pos := "ref.go:273", after := #[{ on := 37, ground := Ground.data }, { on := 48, ground := Ground.data }], guard := none }

theorem row_cells {α : Type} {f : α → List Value} {K : Nat} {e : TypeId} {w w' : World} {B n : Nat} {a : Option Addr} {c : Nat} {l : List α} (h : Row f K e w B (.slice a n c) l) (hK : ∀ x, (f x).length = K) (hc : Ch (fun _ => False) w w') {i : Nat} (hi : i < l.length) : ∃ g, a = some ⟨g, 0, none⟩ ∧ ∀ j u, (f l[i])[j]? = some u → w'.cell? ⟨g, i * K + j, none⟩ = some u := by
  obtain ⟨g, c', cur, e, -, -, hl, -, -, hcc⟩ := h.at hK (by omega)
  injection e with e1 e2 e3
  refine ⟨g, e1, fun j u hu => ?_⟩
  rw [hc.cell hl (fun h => h)]
  exact hcc i hi j u hu

set_option maxRecDepth 100000 in
set_option maxHeartbeats 16000000 in
theorem same_eq {w : World} {B B' : Nat} {d : Dd} {va vb : Value} (ha : WkRow w B va d.wk) (hb : WkRow w B' vb d.wk) (hn : d.wk.length ≤ 1000000) : Calls Try.prog 30 #[ddV d va, ddV d vb] w fun e w' => e = .returned (.bool true) ∧ Below w.heap.size w w' := by
  obtain ⟨a1, c1, rfl, -, -⟩ := ha.form
  obtain ⟨a2, c2, rfl, -, -⟩ := hb.form
  obtain ⟨f, v, ok, wk⟩ := d
  obtain ⟨n, s, g⟩ := v
  obtain ⟨w1, hw1⟩ : ∃ z, w.alloc (.cells #[.int .i64 f, .int .i64 n, .int .u32 s, .int .u32 g, .bool ok, .slice a1 wk.length c1] 72) = z := ⟨_, rfl⟩
  obtain ⟨w2, hw2⟩ : ∃ z, w1.alloc (.cells #[.int .i64 f, .int .i64 n, .int .u32 s, .int .u32 g, .bool ok, .slice a2 wk.length c2] 72) = z := ⟨_, rfl⟩
  have C1 : Ch (fun _ => False) w w1 := by rw [← hw1]; exact Ch.alloc _ _
  have C12 : Ch (fun _ => False) w1 w2 := by rw [← hw2]; exact Ch.alloc _ _
  have n1 : w2.heap[w.heap.size]? = some (.cells #[.int .i64 f, .int .i64 n, .int .u32 s, .int .u32 g, .bool ok, .slice a1 wk.length c1] 72 (0, 0)) := C12.box (by rw [← hw1]; exact heap_new _ _) (fun h => h)
  have n2 : w2.heap[w1.heap.size]? = some (.cells #[.int .i64 f, .int .i64 n, .int .u32 s, .int .u32 g, .bool ok, .slice a2 wk.length c2] 72 (0, 0)) := by rw [← hw2]; exact heap_new _ _
  have C2 := hide (C1.trans C12 (fun _ _ h => h))
  have HA := hide (show Row wkL 8 119 w B (.slice a1 wk.length c1) wk from ha)
  have HB := hide (show Row wkL 8 119 w B' (.slice a2 wk.length c2) wk from hb)
  have HN := hide (And.intro n1 n2)
  have hn : wk.length ≤ 1000000 := hn
  have p0 : w2.cell? ⟨w.heap.size, 0, none⟩ = some (.int .i64 f) := by simp [Lib.cell_of_heap n1]
  have p1 : w2.cell? ⟨w.heap.size, 1, none⟩ = some (.int .i64 n) := by simp [Lib.cell_of_heap n1]
  have p2 : w2.cell? ⟨w.heap.size, 2, none⟩ = some (.int .u32 s) := by simp [Lib.cell_of_heap n1]
  have p3 : w2.cell? ⟨w.heap.size, 3, none⟩ = some (.int .u32 g) := by simp [Lib.cell_of_heap n1]
  have p4 : w2.cell? ⟨w.heap.size, 4, none⟩ = some (.bool ok) := by simp [Lib.cell_of_heap n1]
  have p5 : w2.cell? ⟨w.heap.size, 5, none⟩ = some (.slice a1 wk.length c1) := by simp [Lib.cell_of_heap n1]
  have q0 : w2.cell? ⟨w1.heap.size, 0, none⟩ = some (.int .i64 f) := by simp [Lib.cell_of_heap n2]
  have q1 : w2.cell? ⟨w1.heap.size, 1, none⟩ = some (.int .i64 n) := by simp [Lib.cell_of_heap n2]
  have q2 : w2.cell? ⟨w1.heap.size, 2, none⟩ = some (.int .u32 s) := by simp [Lib.cell_of_heap n2]
  have q3 : w2.cell? ⟨w1.heap.size, 3, none⟩ = some (.int .u32 g) := by simp [Lib.cell_of_heap n2]
  have q4 : w2.cell? ⟨w1.heap.size, 4, none⟩ = some (.bool ok) := by simp [Lib.cell_of_heap n2]
  have q5 : w2.cell? ⟨w1.heap.size, 5, none⟩ = some (.slice a2 wk.length c2) := by simp [Lib.cell_of_heap n2]
  clear C1 C12 n1 n2 ha hb
  show Calls Try.prog _ #[didV f ⟨n, s, g⟩ ok (.slice a1 wk.length c1), didV f ⟨n, s, g⟩ ok (.slice a2 wk.length c2)] w _
  go_enter Try.func30, Try.ntmps30
  go_wp2_with fail
  clear hw1 hw2 p0 p1 p2 p3 p4 p5 q0 q1 q2 q3 q4 q5
  go_loopw [5] (fun i wr => ∃ k : Nat, k ≤ wk.length ∧ i = .int .i64 (k : Int) ∧ Hid (Ch (fun _ => False) w2 wr)) (fun i _ => wk.length - (intOf i).toNat)
  case atStart => exact ⟨0, Nat.zero_le _, rfl, hide (Ch.refl _ _)⟩
  case round =>
    obtain ⟨k, hk, rfl, HI⟩ := hrel
    obtain ⟨W0, rfl⟩ : ∃ x, x = wr := ⟨_, rfl⟩
    have x5 : W0.cell? ⟨w.heap.size, 5, none⟩ = some (.slice a1 wk.length c1) := by simp [Lib.cell_of_heap (HI.out.box HN.out.1 (fun h => h))]
    have y5 : W0.cell? ⟨w1.heap.size, 5, none⟩ = some (.slice a2 wk.length c2) := by simp [Lib.cell_of_heap (HI.out.box HN.out.2 (fun h => h))]
    by_cases hlt : k < wk.length
    · obtain ⟨g1, rfl, -⟩ := row_cells HA.out wkL_len (Ch.refl _ _) hlt
      obtain ⟨g2, rfl, -⟩ := row_cells HB.out wkL_len (Ch.refl _ _) hlt
      have i1 : (k : Int) < (wk.length : Int) := by omega
      have i0 : (k : Int) ≤ 1000000 := by omega
      have HL := hide hlt
      obtain ⟨x, hx⟩ : ∃ x, wk[k] = x := ⟨_, rfl⟩
      have HX := hide (show wk[k]'(HL.out) = x from hx)
      clear hlt hk hx
      go_wp2_with fail
      clear x5 y5
      refine wp_reg (fun _ => False) (R := fun V => Ch (fun _ => False) W0 V) (by kernel_rfl) (Ch.drew _) (fun V cV zk => ?_)
      have CV := hide (HI.out.trans cV (fun _ _ h => h))
      clear cV
      have HXX := hide (fun wq (kq : Ch (fun _ => False) V wq) => show (wq.cell? ⟨w.heap.size, 5, none⟩ = some (.slice (some ⟨g1, 0, none⟩) wk.length c1) ∧ wq.cell? ⟨w1.heap.size, 5, none⟩ = some (.slice (some ⟨g2, 0, none⟩) wk.length c2)) ∧ (wq.cell? ⟨g1, k * 8, none⟩ = some (.int .u32 x.s) ∧ wq.cell? ⟨g1, k * 8 + 1, none⟩ = some (.int .u32 x.g) ∧ wq.cell? ⟨g1, k * 8 + 2, none⟩ = some (.int .i64 x.a) ∧ wq.cell? ⟨g1, k * 8 + 3, none⟩ = some (.int .i64 x.v.n) ∧ wq.cell? ⟨g1, k * 8 + 4, none⟩ = some (.int .u32 x.v.s) ∧ wq.cell? ⟨g1, k * 8 + 5, none⟩ = some (.int .u32 x.v.g) ∧ wq.cell? ⟨g1, k * 8 + 6, none⟩ = some (.bool x.ok) ∧ wq.cell? ⟨g1, k * 8 + 7, none⟩ = some (.int .i64 x.f)) ∧ wq.cell? ⟨g2, k * 8, none⟩ = some (.int .u32 x.s) ∧ wq.cell? ⟨g2, k * 8 + 1, none⟩ = some (.int .u32 x.g) ∧ wq.cell? ⟨g2, k * 8 + 2, none⟩ = some (.int .i64 x.a) ∧ wq.cell? ⟨g2, k * 8 + 3, none⟩ = some (.int .i64 x.v.n) ∧ wq.cell? ⟨g2, k * 8 + 4, none⟩ = some (.int .u32 x.v.s) ∧ wq.cell? ⟨g2, k * 8 + 5, none⟩ = some (.int .u32 x.v.g) ∧ wq.cell? ⟨g2, k * 8 + 6, none⟩ = some (.bool x.ok) ∧ wq.cell? ⟨g2, k * 8 + 7, none⟩ = some (.int .i64 x.f) from by
        have cc := CV.out.trans kq (fun _ _ h => h)
        have e1 := Lib.cell_of_heap (cc.box HN.out.1 (fun h => h))
        have e2 := Lib.cell_of_heap (cc.box HN.out.2 (fun h => h))
        obtain ⟨g1', e3, k1⟩ := row_cells HA.out wkL_len (C2.out.trans cc (fun _ _ h => h)) HL.out
        obtain ⟨g2', e4, k2⟩ := row_cells HB.out wkL_len (C2.out.trans cc (fun _ _ h => h)) HL.out
        cases e3
        cases e4
        rw [HX.out] at k1 k2
        exact ⟨⟨by simp [e1], by simp [e2]⟩, ⟨k1 0 _ rfl, k1 1 _ rfl, k1 2 _ rfl, k1 3 _ rfl, k1 4 _ rfl, k1 5 _ rfl, k1 6 _ rfl, k1 7 _ rfl⟩, k2 0 _ rfl, k2 1 _ rfl, k2 2 _ rfl, k2 3 _ rfl, k2 4 _ rfl, k2 5 _ rfl, k2 6 _ rfl, k2 7 _ rfl⟩)
      apply tk 0 ksm0 rfl (by kernel_rfl) (fun _ _ _ h => h) zk
      · intro wq zq
        go_simp
        try rfl
      go_frame
      apply tk 1 ksm1 rfl (by kernel_rfl) (fun _ _ _ h => h) zk
      · intro wq zq
        obtain ⟨⟨s0, s1⟩, ⟨u60, u61, u62, u63, u64, u65, u66, u67⟩, v60, v61, v62, v63, v64, v65, v66, v67⟩ := HXX.out _ zq
        go_simp
        try rfl
      go_frame
      apply tk 2 ksm2 rfl (by kernel_rfl) (fun _ _ _ h => h) zk
      · intro wq zq
        go_simp
        try rfl
      go_frame
      apply tk 3 ksm3 rfl (by kernel_rfl) (fun _ _ _ h => h) zk
      · intro wq zq
        go_simp
        try rfl
      go_frame
      apply tk 4 ksm4 rfl (by kernel_rfl) (fun _ _ _ h => h) zk
      · intro wq zq
        obtain ⟨⟨s0, s1⟩, ⟨u60, u61, u62, u63, u64, u65, u66, u67⟩, v60, v61, v62, v63, v64, v65, v66, v67⟩ := HXX.out _ zq
        go_simp
        try rfl
      go_frame
      apply tk 5 ksm5 rfl (by kernel_rfl) (fun _ _ _ h => h) zk
      · intro wq zq
        go_simp
        try rfl
      go_frame
      apply tk 6 ksm6 rfl (by kernel_rfl) (fun _ _ _ h => h) zk
      · intro wq zq
        obtain ⟨⟨s0, s1⟩, ⟨u60, u61, u62, u63, u64, u65, u66, u67⟩, v60, v61, v62, v63, v64, v65, v66, v67⟩ := HXX.out _ zq
        go_simp
        try rfl
      go_frame
      apply tk 7 ksm7 rfl (by kernel_rfl) (fun _ _ _ h => h) zk
      · intro wq zq
        go_simp
        try rfl
      go_frame
      apply tk 8 ksm8 rfl (by kernel_rfl) (fun _ _ _ h => h) zk
      · intro wq zq
        go_simp
        try rfl
      go_frame
      apply tk 9 ksm9 rfl (by kernel_rfl) (fun _ _ _ h => h) zk
      · intro wq zq
        obtain ⟨⟨s0, s1⟩, ⟨u60, u61, u62, u63, u64, u65, u66, u67⟩, v60, v61, v62, v63, v64, v65, v66, v67⟩ := HXX.out _ zq
        go_simp
        try rfl
      go_frame
      apply tk 10 ksm10 rfl (by kernel_rfl) (fun _ _ _ h => h) zk
      · intro wq zq
        go_simp
        try rfl
      go_frame
      refine wpAnyH_done (by kernel_rfl) ?_ _
      clear HXX
      go_wp2_with fail
      refine ⟨?rel, ?measure⟩
      case rel => exact ⟨k + 1, HL.out, rfl, hide (CV.out.trans zk (fun _ _ h => h))⟩
      case measure =>
        show wk.length - ((k : Int) + 1).toNat < wk.length - (k : Int).toNat
        have := HL.out
        omega
    · have i1 : ¬ (k : Int) < (wk.length : Int) := by omega
      clear hlt hk
      go_wp2_with fail
      go_ret
      exact ⟨rfl, (C2.out.trans HI.out (fun _ _ h => h)).below (Nat.le_refl _) (fun _ _ h => h)⟩

/-- a wait without its own handle -/
def noMe (r : Rc) : Rc := { r with ms := 0, mg := 0 }
set_option maxRecDepth 100000 in
set_option maxHeartbeats 16000000 in
theorem waits_eq {w : World} {B B' : Nat} {va vb : Value} {l l' : List Rc} (ha : RcRow w B va l) (hb : RcRow w B' vb l') (he : l.map noMe = l'.map noMe) (hn : l.length ≤ 1000000) : Calls Try.prog 13 #[va, vb] w fun e w' => e = .returned (.bool true) ∧ Below w.heap.size w w' := by
  have hll : l'.length = l.length := by have := congrArg List.length he; simpa using this.symm
  obtain ⟨a1, c1, rfl, -, -⟩ := ha.form
  obtain ⟨a2, c2, rfl, -, -⟩ := hb.form
  rw [hll]
  have HA := hide ha
  have HB := hide (show RcRow w B' (.slice a2 l'.length c2) l' from hb)
  have HE := hide he
  have HLL := hide hll
  clear ha hb he hll
  go_enter Try.func13, Try.ntmps13
  go_wp2_with fail
  go_loopw [5] (fun i wr => ∃ k : Nat, k ≤ l.length ∧ i = .int .i64 (k : Int) ∧ Hid (Ch (fun _ => False) w wr)) (fun i _ => l.length - (intOf i).toNat)
  case atStart => exact ⟨0, Nat.zero_le _, rfl, hide (Ch.refl _ _)⟩
  case round =>
    obtain ⟨k, hk, rfl, HI⟩ := hrel
    obtain ⟨W0, rfl⟩ : ∃ x, x = wr := ⟨_, rfl⟩
    by_cases hlt : k < l.length
    · have hlt' : k < l'.length := by rw [HLL.out]; exact hlt
      obtain ⟨g1, rfl, -⟩ := row_cells HA.out rcF_len (Ch.refl _ _) hlt
      obtain ⟨g2, rfl, -⟩ := row_cells HB.out rcF_len (Ch.refl _ _) hlt'
      have i1 : (k : Int) < (l.length : Int) := by omega
      have i0 : (k : Int) ≤ 1000000 := by omega
      have HL := hide (And.intro hlt hlt')
      obtain ⟨x, hx⟩ : ∃ x, l[k] = x := ⟨_, rfl⟩
      obtain ⟨y, hy⟩ : ∃ y, l'[k] = y := ⟨_, rfl⟩
      have hxy : noMe x = noMe y := by
        have h1 : (l.map noMe)[k]? = (l'.map noMe)[k]? := by rw [HE.out]
        rw [List.getElem?_map, List.getElem?_map, List.getElem?_eq_getElem hlt, List.getElem?_eq_getElem hlt', hx, hy] at h1
        exact Option.some.inj h1
      have HX := hide (show l[k]'(HL.out.1) = x from hx)
      have HY := hide (show l'[k]'(HL.out.2) = y from hy)
      obtain ⟨x0, x1, x2, x3, x4, x5, x6, x7, x8, x9, x10⟩ := x
      obtain ⟨y0, y1, y2, y3, y4, y5, y6, y7, y8, y9, y10⟩ := y
      unfold noMe at hxy
      injection hxy with _ _ e2 e3 e4 e5 e6 e7 e8 e9 e10
      simp only at e2 e3 e4 e5 e6 e7 e8 e9 e10
      subst e2 e3 e4 e5 e6 e7 e8 e9 e10
      clear hlt hlt' hk hx hy
      go_wp2_with fail
      refine wp_reg (fun _ => False) (R := fun V => Ch (fun _ => False) W0 V) (by kernel_rfl) (Ch.drew _) (fun V cV zk => ?_)
      have CV := hide (HI.out.trans cV (fun _ _ h => h))
      clear cV
      have HXX := hide (fun wq (kq : Ch (fun _ => False) V wq) => show (wq.cell? ⟨g1, k * 11 + 2, none⟩ = some (.int .u32 x2) ∧ wq.cell? ⟨g1, k * 11 + 3, none⟩ = some (.int .u32 x3) ∧ wq.cell? ⟨g1, k * 11 + 4, none⟩ = some (.int .u32 x4) ∧ wq.cell? ⟨g1, k * 11 + 5, none⟩ = some (.int .u32 x5) ∧ wq.cell? ⟨g1, k * 11 + 6, none⟩ = some (.int .i64 x6) ∧ wq.cell? ⟨g1, k * 11 + 7, none⟩ = some (.int .i64 x7) ∧ wq.cell? ⟨g1, k * 11 + 8, none⟩ = some (.int .i64 x8) ∧ wq.cell? ⟨g1, k * 11 + 9, none⟩ = some (.int .u32 x9) ∧ wq.cell? ⟨g1, k * 11 + 10, none⟩ = some (.int .u32 x10)) ∧ wq.cell? ⟨g2, k * 11 + 2, none⟩ = some (.int .u32 x2) ∧ wq.cell? ⟨g2, k * 11 + 3, none⟩ = some (.int .u32 x3) ∧ wq.cell? ⟨g2, k * 11 + 4, none⟩ = some (.int .u32 x4) ∧ wq.cell? ⟨g2, k * 11 + 5, none⟩ = some (.int .u32 x5) ∧ wq.cell? ⟨g2, k * 11 + 6, none⟩ = some (.int .i64 x6) ∧ wq.cell? ⟨g2, k * 11 + 7, none⟩ = some (.int .i64 x7) ∧ wq.cell? ⟨g2, k * 11 + 8, none⟩ = some (.int .i64 x8) ∧ wq.cell? ⟨g2, k * 11 + 9, none⟩ = some (.int .u32 x9) ∧ wq.cell? ⟨g2, k * 11 + 10, none⟩ = some (.int .u32 x10) from by
        have cc := CV.out.trans kq (fun _ _ h => h)
        obtain ⟨g1', e3, k1⟩ := row_cells HA.out rcF_len cc HL.out.1
        obtain ⟨g2', e4, k2⟩ := row_cells HB.out rcF_len cc HL.out.2
        cases e3
        cases e4
        rw [HX.out] at k1
        rw [HY.out] at k2
        exact ⟨⟨k1 2 _ rfl, k1 3 _ rfl, k1 4 _ rfl, k1 5 _ rfl, k1 6 _ rfl, k1 7 _ rfl, k1 8 _ rfl, k1 9 _ rfl, k1 10 _ rfl⟩, k2 2 _ rfl, k2 3 _ rfl, k2 4 _ rfl, k2 5 _ rfl, k2 6 _ rfl, k2 7 _ rfl, k2 8 _ rfl, k2 9 _ rfl, k2 10 _ rfl⟩)
      apply tk 0 kwq0 rfl (by kernel_rfl) (fun _ _ _ h => h) zk
      · intro wq zq
        go_simp
        try rfl
      go_frame
      apply tk 1 kwq1 rfl (by kernel_rfl) (fun _ _ _ h => h) zk
      · intro wq zq
        go_simp
        try rfl
      go_frame
      apply tk 2 kwq2 rfl (by kernel_rfl) (fun _ _ _ h => h) zk
      · intro wq zq
        go_simp
        try rfl
      go_frame
      apply tk 3 kwq3 rfl (by kernel_rfl) (fun _ _ _ h => h) zk
      · intro wq zq
        go_simp
        try rfl
      go_frame
      apply tk 4 kwq4 rfl (by kernel_rfl) (fun _ _ _ h => h) zk
      · intro wq zq
        obtain ⟨⟨u70, u71, u72, u73, u74, u75, u76, u77, u78⟩, v70, v71, v72, v73, v74, v75, v76, v77, v78⟩ := HXX.out _ zq
        go_simp
        try rfl
      go_frame
      apply tk 5 kwq5 rfl (by kernel_rfl) (fun _ _ _ h => h) zk
      · intro wq zq
        go_simp
        try rfl
      go_frame
      apply tk 6 kwq6 rfl (by kernel_rfl) (fun _ _ _ h => h) zk
      · intro wq zq
        go_simp
        try rfl
      go_frame
      apply tk 7 kwq7 rfl (by kernel_rfl) (fun _ _ _ h => h) zk
      · intro wq zq
        go_simp
        try rfl
      go_frame
      apply tk 8 kwq8 rfl (by kernel_rfl) (fun _ _ _ h => h) zk
      · intro wq zq
        go_simp
        try rfl
      go_frame
      apply tk 9 kwq9 rfl (by kernel_rfl) (fun _ _ _ h => h) zk
      · intro wq zq
        obtain ⟨⟨u70, u71, u72, u73, u74, u75, u76, u77, u78⟩, v70, v71, v72, v73, v74, v75, v76, v77, v78⟩ := HXX.out _ zq
        go_simp
        try rfl
      go_frame
      apply tk 10 kwq10 rfl (by kernel_rfl) (fun _ _ _ h => h) zk
      · intro wq zq
        go_simp
        try rfl
      go_frame
      apply tk 11 kwq11 rfl (by kernel_rfl) (fun _ _ _ h => h) zk
      · intro wq zq
        go_simp
        try rfl
      go_frame
      apply tk 12 kwq12 rfl (by kernel_rfl) (fun _ _ _ h => h) zk
      · intro wq zq
        go_simp
        try rfl
      go_frame
      apply tk 13 kwq13 rfl (by kernel_rfl) (fun _ _ _ h => h) zk
      · intro wq zq
        go_simp
        try rfl
      go_frame
      apply tk 14 kwq14 rfl (by kernel_rfl) (fun _ _ _ h => h) zk
      · intro wq zq
        go_simp
        try rfl
      go_frame
      apply tk 15 kwq15 rfl (by kernel_rfl) (fun _ _ _ h => h) zk
      · intro wq zq
        go_simp
        try rfl
      go_frame
      apply tk 16 kwq16 rfl (by kernel_rfl) (fun _ _ _ h => h) zk
      · intro wq zq
        obtain ⟨⟨u70, u71, u72, u73, u74, u75, u76, u77, u78⟩, v70, v71, v72, v73, v74, v75, v76, v77, v78⟩ := HXX.out _ zq
        go_simp
        try rfl
      go_frame
      apply tk 17 kwq17 rfl (by kernel_rfl) (fun _ _ _ h => h) zk
      · intro wq zq
        go_simp
        try rfl
      go_frame
      apply tk 18 kwq18 rfl (by kernel_rfl) (fun _ _ _ h => h) zk
      · intro wq zq
        go_simp
        try rfl
      go_frame
      apply tk 19 kwq19 rfl (by kernel_rfl) (fun _ _ _ h => h) zk
      · intro wq zq
        go_simp
        try rfl
      go_frame
      apply tk 20 kwq20 rfl (by kernel_rfl) (fun _ _ _ h => h) zk
      · intro wq zq
        go_simp
        try rfl
      go_frame
      apply tk 21 kwq21 rfl (by kernel_rfl) (fun _ _ _ h => h) zk
      · intro wq zq
        obtain ⟨⟨u70, u71, u72, u73, u74, u75, u76, u77, u78⟩, v70, v71, v72, v73, v74, v75, v76, v77, v78⟩ := HXX.out _ zq
        go_simp
        try rfl
      go_frame
      apply tk 22 kwq22 rfl (by kernel_rfl) (fun _ _ _ h => h) zk
      · intro wq zq
        go_simp
        try rfl
      go_frame
      apply tk 23 kwq23 rfl (by kernel_rfl) (fun _ _ _ h => h) zk
      · intro wq zq
        go_simp
        try rfl
      go_frame
      apply tk 24 kwq24 rfl (by kernel_rfl) (fun _ _ _ h => h) zk
      · intro wq zq
        go_simp
        try rfl
      go_frame
      apply tk 25 kwq25 rfl (by kernel_rfl) (fun _ _ _ h => h) zk
      · intro wq zq
        go_simp
        try rfl
      go_frame
      apply tk 26 kwq26 rfl (by kernel_rfl) (fun _ _ _ h => h) zk
      · intro wq zq
        go_simp
        try rfl
      go_frame
      apply tk 27 kwq27 rfl (by kernel_rfl) (fun _ _ _ h => h) zk
      · intro wq zq
        go_simp
        try rfl
      go_frame
      apply tk 28 kwq28 rfl (by kernel_rfl) (fun _ _ _ h => h) zk
      · intro wq zq
        go_simp
        try rfl
      go_frame
      apply tk 29 kwq29 rfl (by kernel_rfl) (fun _ _ _ h => h) zk
      · intro wq zq
        obtain ⟨⟨u70, u71, u72, u73, u74, u75, u76, u77, u78⟩, v70, v71, v72, v73, v74, v75, v76, v77, v78⟩ := HXX.out _ zq
        go_simp
        try rfl
      go_frame
      apply tk 30 kwq30 rfl (by kernel_rfl) (fun _ _ _ h => h) zk
      · intro wq zq
        go_simp
        try rfl
      go_frame
      apply tk 31 kwq31 rfl (by kernel_rfl) (fun _ _ _ h => h) zk
      · intro wq zq
        go_simp
        try rfl
      go_frame
      apply tk 32 kwq32 rfl (by kernel_rfl) (fun _ _ _ h => h) zk
      · intro wq zq
        go_simp
        try rfl
      go_frame
      apply tk 33 kwq33 rfl (by kernel_rfl) (fun _ _ _ h => h) zk
      · intro wq zq
        go_simp
        try rfl
      go_frame
      apply tk 34 kwq34 rfl (by kernel_rfl) (fun _ _ _ h => h) zk
      · intro wq zq
        obtain ⟨⟨u70, u71, u72, u73, u74, u75, u76, u77, u78⟩, v70, v71, v72, v73, v74, v75, v76, v77, v78⟩ := HXX.out _ zq
        go_simp
        try rfl
      go_frame
      apply tk 35 kwq35 rfl (by kernel_rfl) (fun _ _ _ h => h) zk
      · intro wq zq
        go_simp
        try rfl
      go_frame
      apply tk 36 kwq36 rfl (by kernel_rfl) (fun _ _ _ h => h) zk
      · intro wq zq
        go_simp
        try rfl
      go_frame
      apply tk 37 kwq37 rfl (by kernel_rfl) (fun _ _ _ h => h) zk
      · intro wq zq
        go_simp
        try rfl
      go_frame
      apply tk 38 kwq38 rfl (by kernel_rfl) (fun _ _ _ h => h) zk
      · intro wq zq
        go_simp
        try rfl
      go_frame
      apply tk 39 kwq39 rfl (by kernel_rfl) (fun _ _ _ h => h) zk
      · intro wq zq
        go_simp
        try rfl
      go_frame
      apply tk 40 kwq40 rfl (by kernel_rfl) (fun _ _ _ h => h) zk
      · intro wq zq
        go_simp
        try rfl
      go_frame
      apply tk 41 kwq41 rfl (by kernel_rfl) (fun _ _ _ h => h) zk
      · intro wq zq
        go_simp
        try rfl
      go_frame
      apply tk 42 kwq42 rfl (by kernel_rfl) (fun _ _ _ h => h) zk
      · intro wq zq
        obtain ⟨⟨u70, u71, u72, u73, u74, u75, u76, u77, u78⟩, v70, v71, v72, v73, v74, v75, v76, v77, v78⟩ := HXX.out _ zq
        go_simp
        try rfl
      go_frame
      apply tk 43 kwq43 rfl (by kernel_rfl) (fun _ _ _ h => h) zk
      · intro wq zq
        go_simp
        try rfl
      go_frame
      apply tk 44 kwq44 rfl (by kernel_rfl) (fun _ _ _ h => h) zk
      · intro wq zq
        go_simp
        try rfl
      go_frame
      apply tk 45 kwq45 rfl (by kernel_rfl) (fun _ _ _ h => h) zk
      · intro wq zq
        go_simp
        try rfl
      go_frame
      apply tk 46 kwq46 rfl (by kernel_rfl) (fun _ _ _ h => h) zk
      · intro wq zq
        go_simp
        try rfl
      go_frame
      apply tk 47 kwq47 rfl (by kernel_rfl) (fun _ _ _ h => h) zk
      · intro wq zq
        obtain ⟨⟨u70, u71, u72, u73, u74, u75, u76, u77, u78⟩, v70, v71, v72, v73, v74, v75, v76, v77, v78⟩ := HXX.out _ zq
        go_simp
        try rfl
      go_frame
      apply tk 48 kwq48 rfl (by kernel_rfl) (fun _ _ _ h => h) zk
      · intro wq zq
        go_simp
        try rfl
      go_frame
      apply tk 49 kwq49 rfl (by kernel_rfl) (fun _ _ _ h => h) zk
      · intro wq zq
        go_simp
        try rfl
      go_frame
      refine wpAnyH_done (by kernel_rfl) ?_ _
      clear HXX
      go_wp2_with fail
      refine ⟨?rel, ?measure⟩
      case rel => exact ⟨k + 1, HL.out.1, rfl, hide (CV.out.trans zk (fun _ _ h => h))⟩
      case measure =>
        show l.length - ((k : Int) + 1).toNat < l.length - (k : Int).toNat
        have := HL.out.1
        omega
    · have i1 : ¬ (k : Int) < (l.length : Int) := by omega
      clear hlt hk
      go_wp2_with fail
      go_ret
      exact ⟨rfl, HI.out.below (Nat.le_refl _) (fun _ _ h => h)⟩

end Go.Proofs.Ytbblmbbpicinlaa
