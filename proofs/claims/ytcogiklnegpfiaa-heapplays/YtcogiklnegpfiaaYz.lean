/- HeapPlays for every size and every script: step by step the program's heap answers as the document's does, refs is asked of each object at most once, what is handed in stays, and lists that came out are their owner's. There are no conditions. Lists that came in, at known places. Layer 13: the owner writes over all lists that came out. Layer 13: HeapPlays' walk. Layer 13: arguments that came in: handles. Layer 13: lists that came in. -/
import Derived.Test.YtcogiklnegpfiaaFr
import Derived.Test.YtcogiklnegpfiaaYq
import Derived.Test.YtcogiklnegpfiaaYf
import Derived.Test.YtcogiklnegpfiaaSl
import Derived.ProofKit
import Derived.OpenShut
import Derived.ShutString
import Derived.JoinedCond
import Derived.Deep.DeepHandedRow
import Derived.Deep.SlicePairs
import Derived.Carry
import Derived.ChangeOld
import Derived.Below

namespace Go.Proofs.Ytcogiklnegpfiaa
open Go.RowKit

/-- a slice of n, from here on, in a block below N -/
def Sl (N : Nat) (v : Value) (n b o : Nat) : Prop := ∃ a c, v = .slice a n c ∧ n ≤ c ∧ n ≤ 9223372036854775807 ∧ (0 < n → a = some ⟨b, o, none⟩ ∧ b < N)
/-- a list of elements of k cells each -/
def Lst {α : Type} (N k : Nat) (A : Nat → Nat → α → Prop) (v : Value) (l : List α) : Prop := ∃ b o, Sl N v l.length b o ∧ ∀ i (h : i < l.length), A b (o + i * k) l[i]

/-- an int that came in -/
def InAt (w : World) (b o : Nat) (y : Int) : Prop := w.cell? ⟨b, o, none⟩ = some (.int .i64 y) ∧ -9223372036854775808 ≤ y ∧ y ≤ 9223372036854775807

end Go.Proofs.Ytcogiklnegpfiaa

namespace Go.Proofs.Ytcogiklnegpfiaa
open Go.RowKit Go.Shelf

abbrev ov0 : Oper := { dst := some 15, op := Op.move (Operand.tmp 0), type := 28, pos := "law.go:121", after := #[], guard := none }
abbrev ov1 : Oper := { dst := some 16, op := Op.nilCheck (Operand.tmp 15), type := 0, pos := "law.go:121", after := #[{ on := 0, ground := Ground.data }], guard := none }
abbrev ov2 : Oper := { dst := some 17, op := Op.fieldAddr 37 (Operand.tmp 16) 5, type := 0, pos := "law.go:121", after := #[{ on := 1, ground := Ground.data }], guard := none }
abbrev ov3 : Oper := { dst := some 18, op := Op.load 35 (Operand.tmp 17), type := 35, pos := "law.go:121", after := #[{ on := 2, ground := Ground.data }], guard := none }
abbrev ov4 : Oper := { dst := some 19, op := Op.move (Operand.tmp 3), type := 3, pos := "law.go:121", after := #[], guard := none }
abbrev ov5 : Oper := { dst := some 20, op := Op.indexAddr 35 (Operand.tmp 18) (Operand.tmp 19), type := 0, pos := "law.go:121", after := #[{ on := 3, ground := Ground.data }, { on := 4, ground := Ground.data }], guard := none }
abbrev ov6 : Oper := { dst := some 21, op := Op.load 34 (Operand.tmp 20), type := 34, pos := "law.go:121", after := #[{ on := 5, ground := Ground.data }], guard := none }
abbrev ov7 : Oper := { dst := some 22, op := Op.move (Operand.tmp 0), type := 28, pos := "law.go:121", after := #[], guard := none }
abbrev ov8 : Oper := { dst := some 23, op := Op.nilCheck (Operand.tmp 22), type := 0, pos := "law.go:121", after := #[{ on := 7, ground := Ground.data }], guard := none }
abbrev ov9 : Oper := { dst := some 24, op := Op.fieldAddr 37 (Operand.tmp 23) 6, type := 0, pos := "law.go:121", after := #[{ on := 8, ground := Ground.data }], guard := none }
abbrev ov10 : Oper := { dst := some 25, op := Op.load 35 (Operand.tmp 24), type := 35, pos := "law.go:121", after := #[{ on := 9, ground := Ground.data }], guard := none }
abbrev ov11 : Oper := { dst := some 26, op := Op.move (Operand.tmp 3), type := 3, pos := "law.go:121", after := #[], guard := none }
abbrev ov12 : Oper := { dst := some 27, op := Op.indexAddr 35 (Operand.tmp 25) (Operand.tmp 26), type := 0, pos := "law.go:121", after := #[{ on := 10, ground := Ground.data }, { on := 11, ground := Ground.data }], guard := none }
abbrev ov13 : Oper := { dst := some 28, op := Op.load 34 (Operand.tmp 27), type := 34, pos := "law.go:121", after := #[{ on := 12, ground := Ground.data }], guard := none }
abbrev ov14 : Oper := { dst := some 29, op := Op.call { callee := Callee.value (Operand.func 29), args := #[Operand.tmp 21, Operand.tmp 28], argTypes := #[34, 34] }, type := 4, pos := "law.go:121", after := #[{ on := 6, ground := Ground.data }, { on := 13, ground := Ground.data }], guard := none }
abbrev ov15 : Oper := { dst := some 4, op := Op.assign (Operand.tmp 29), type := 4, pos := "law.go:121", after := #[{ on := 14, ground := Ground.data }, { on := 14, ground := Ground.chain }, { on := 0, ground := Ground.phase }, { on := 1, ground := Ground.phase }, { on := 2, ground := Ground.phase }, { on := 3, ground := Ground.phase }, { on := 4, ground := Ground.phase }, { on := 5, ground := Ground.phase }, { on := 6, ground := Ground.phase }, { on := 7, ground := Ground.phase }, { on := 8, ground := Ground.phase }, { on := 9, ground := Ground.phase }, { on := 10, ground := Ground.phase }, { on := 11, ground := Ground.phase }, { on := 12, ground := Ground.phase }, { on := 13, ground := Ground.phase }, { on := 14, ground := Ground.phase }], guard := none }
abbrev oa0 : Oper := { dst := some 54, op := Op.move (Operand.tmp 0), type := 28, pos := "law.go:128", after := #[], guard := none }
abbrev oa1 : Oper := { dst := some 55, op := Op.nilCheck (Operand.tmp 54), type := 0, pos := "law.go:128", after := #[{ on := 0, ground := Ground.data }], guard := none }
abbrev oa2 : Oper := { dst := some 56, op := Op.fieldAddr 37 (Operand.tmp 55) 5, type := 0, pos := "law.go:128", after := #[{ on := 1, ground := Ground.data }], guard := none }
abbrev oa3 : Oper := { dst := some 57, op := Op.load 35 (Operand.tmp 56), type := 35, pos := "law.go:128", after := #[{ on := 2, ground := Ground.data }], guard := none }
abbrev oa4 : Oper := { dst := some 58, op := Op.move (Operand.tmp 3), type := 3, pos := "law.go:128", after := #[], guard := none }
abbrev oa5 : Oper := { dst := some 59, op := Op.move (Operand.tmp 0), type := 28, pos := "law.go:128", after := #[], guard := none }
abbrev oa6 : Oper := { dst := some 60, op := Op.nilCheck (Operand.tmp 59), type := 0, pos := "law.go:128", after := #[{ on := 5, ground := Ground.data }], guard := none }
abbrev oa7 : Oper := { dst := some 61, op := Op.fieldAddr 37 (Operand.tmp 60) 5, type := 0, pos := "law.go:128", after := #[{ on := 6, ground := Ground.data }], guard := none }
abbrev oa8 : Oper := { dst := some 62, op := Op.load 35 (Operand.tmp 61), type := 35, pos := "law.go:128", after := #[{ on := 7, ground := Ground.data }], guard := none }
abbrev oa9 : Oper := { dst := some 63, op := Op.move (Operand.tmp 3), type := 3, pos := "law.go:128", after := #[], guard := none }
abbrev oa10 : Oper := { dst := some 64, op := Op.indexAddr 35 (Operand.tmp 62) (Operand.tmp 63), type := 0, pos := "law.go:128", after := #[{ on := 8, ground := Ground.data }, { on := 9, ground := Ground.data }], guard := none }
abbrev oa11 : Oper := { dst := some 65, op := Op.load 34 (Operand.tmp 64), type := 34, pos := "law.go:128", after := #[{ on := 10, ground := Ground.data }], guard := none }
abbrev oa12 : Oper := { dst := some 66, op := Op.build 43 #[(0, Operand.const (Value.int IntKind.u32 7)), (1, Operand.const (Value.int IntKind.u32 7))], type := 43, pos := "law.go:128", after := #[], guard := none }
abbrev oa13 : Oper := { dst := some 67, op := Op.build 43 #[(0, Operand.const (Value.int IntKind.u32 7)), (1, Operand.const (Value.int IntKind.u32 7))], type := 43, pos := "law.go:128", after := #[], guard := none }
abbrev oa14 : Oper := { dst := some 68, op := Op.buildSlice 34 2 #[(0, Operand.tmp 66), (1, Operand.tmp 67)], type := 34, pos := "law.go:128", after := #[{ on := 12, ground := Ground.data }, { on := 13, ground := Ground.data }], guard := none }
abbrev oa15 : Oper := { dst := some 69, op := Op.call { callee := Callee.builtin Builtin.append, args := #[Operand.tmp 65, Operand.tmp 68], argTypes := #[34, 34] }, type := 34, pos := "law.go:128", after := #[{ on := 11, ground := Ground.data }, { on := 14, ground := Ground.data }], guard := none }
abbrev oa16 : Oper := { dst := some 70, op := Op.indexAddr 35 (Operand.tmp 57) (Operand.tmp 58), type := 0, pos := "law.go:128", after := #[{ on := 3, ground := Ground.data }, { on := 4, ground := Ground.data }, { on := 0, ground := Ground.phase }, { on := 1, ground := Ground.phase }, { on := 2, ground := Ground.phase }, { on := 3, ground := Ground.phase }, { on := 4, ground := Ground.phase }, { on := 5, ground := Ground.phase }, { on := 6, ground := Ground.phase }, { on := 7, ground := Ground.phase }, { on := 8, ground := Ground.phase }, { on := 9, ground := Ground.phase }, { on := 10, ground := Ground.phase }, { on := 11, ground := Ground.phase }, { on := 12, ground := Ground.phase }, { on := 13, ground := Ground.phase }, { on := 14, ground := Ground.phase }, { on := 15, ground := Ground.phase }], guard := none }
abbrev oa17 : Oper := { dst := none, op := Op.store 34 (Operand.tmp 70) (Operand.tmp 69), type := 0, pos := "law.go:128", after := #[{ on := 16, ground := Ground.data }, { on := 15, ground := Ground.data }, { on := 15, ground := Ground.chain }, { on := 0, ground := Ground.phase }, { on := 1, ground := Ground.phase }, { on := 2, ground := Ground.phase }, { on := 3, ground := Ground.phase }, { on := 4, ground := Ground.phase }, { on := 5, ground := Ground.phase }, { on := 6, ground := Ground.phase }, { on := 7, ground := Ground.phase }, { on := 8, ground := Ground.phase }, { on := 9, ground := Ground.phase }, { on := 10, ground := Ground.phase }, { on := 11, ground := Ground.phase }, { on := 12, ground := Ground.phase }, { on := 13, ground := Ground.phase }, { on := 14, ground := Ground.phase }, { on := 15, ground := Ground.phase }], guard := none }
theorem slrow_at {w : World} {B n c : Nat} {a : Option Addr} {ls : List Value} (h : Row slF 1 34 w B (.slice a n c) ls) {k : Nat} (hk : k < ls.length) : ∃ bl, a = some ⟨bl, 0, none⟩ ∧ w.cell? ⟨bl, k, none⟩ = some ls[k] ∧ ∀ o, w.frozen? ⟨bl, o, none⟩ = false := by
  obtain ⟨g', c', cur, e, -, -, -, hcur, -, hc⟩ := h.at slF_len (by omega)
  injection e with e1 e2 e3
  subst e1
  have := hc k hk 0 _ rfl
  exact ⟨g', rfl, by simpa using this, fun o => by simp [World.frozen?, hcur]⟩
theorem slrow_set {w : World} {B bl n c : Nat} {ls : List Value} (h : Row slF 1 34 w B (.slice (some ⟨bl, 0, none⟩) n c) ls) (hn : ls.length = n) {k : Nat} (hk : k < ls.length) (u : Value) : Row slF 1 34 (w.setCell ⟨bl, k, none⟩ u) B (.slice (some ⟨bl, 0, none⟩) n c) (ls.set k u) := by
  subst hn
  have := h.set slF_len hk (j := 0) (by decide) (u := u) u rfl
  simpa using this

/-- what lies apart in the lists -/
theorem ap_parts {vT vl vw : Value} {ls ws : List Value} (h : Apt (vT :: vl :: vw :: (ls ++ ws))) : (∀ c ∈ vw :: (ls ++ ws), ∀ y, vl.ownBlock = some y → ¬ c.ownBlock = some y) ∧ (∀ u ∈ ls, ∀ y, u.ownBlock = some y → ¬ vw.ownBlock = some y) ∧ (∀ j k (hj : j < ls.length) (hk : k < ls.length), j < k → ∀ y, ls[j].ownBlock = some y → ¬ ls[k].ownBlock = some y) ∧ ∀ u ∈ ls, ∀ c ∈ ws, ∀ y, u.ownBlock = some y → ¬ c.ownBlock = some y := by
  obtain ⟨-, h⟩ := List.pairwise_cons.1 h
  obtain ⟨h1, h⟩ := List.pairwise_cons.1 h
  obtain ⟨h2, h⟩ := List.pairwise_cons.1 h
  obtain ⟨h3, -, h4⟩ := List.pairwise_append.1 h
  exact ⟨h1, fun u hu y hy e => h2 u (by simp [hu]) y e hy, fun j k hj hk hjk => List.pairwise_iff_getElem.1 h3 j k hj hk hjk, h4⟩

set_option maxRecDepth 100000 in
set_option maxHeartbeats 8000000 in
theorem over_is {P : Px} {w : World} {vT vl vw vD : Value} {l ld : List Th} {hs : List Hd} {L : List Lk} {aq : List Hd} {ls ws : List Value} {xs : List (List Hd)} {O : Nat → Prop} (h : SQ P w vT vl vw vD l ld hs L aq ls ws xs O) (hx : ∀ x ∈ xs, x.length ≤ 100000) (hln : ls.length ≤ 100000) :
    Calls Try.prog 12 #[.pointer (some ⟨P.bw, 0, none⟩)] w fun e w' => e = .returned (.bool true) ∧ Below P.N w w' := by
  obtain ⟨i0, hi0, hz0, hz1, hz2⟩ := nf_open info_hd
  obtain ⟨vL, vA, vE, hbx, -⟩ := h.box
  have BOX := hide hbx
  have H := hide h
  have HAP := hide (ap_parts h.ap)
  have HX := hide hx
  have hlx := h.ll.len
  have hwx := h.lw.len
  obtain ⟨la, lc, rfl, -, -⟩ := h.ll.row.form
  obtain ⟨wa, wc, rfl, -, -⟩ := h.lw.row.form
  have hwl : ws.length = ls.length := by omega
  rw [hwl] at H HAP BOX
  clear h hbx hx
  go_enter Try.func12, Try.ntmps12
  go_wp2
  go_loopw [3] (fun iv wr => ∃ (k : Nat) (ms : List Value), k ≤ ls.length ∧ iv = .int .i64 (k : Int) ∧ Hid (ms.length = ls.length ∧ ms.drop k = ls.drop k ∧ Row slF 1 34 wr P.N (.slice la ls.length lc) ms ∧ Ch (fun y => (∃ u ∈ ls.take k, u.ownBlock = some y) ∨ (Value.slice la ls.length lc).ownBlock = some y) w wr)) (fun iv _ => ls.length - (intOf iv).toNat)
  case atStart => exact ⟨0, ls, Nat.zero_le _, rfl, hide ⟨rfl, rfl, H.out.ll.row, Ch.refl _ _⟩⟩
  case round =>
    obtain ⟨k, ms, hk, rfl, HI⟩ := hrel
    obtain ⟨w1, rfl⟩ : ∃ x, x = wr := ⟨_, rfl⟩
    have nbw : ¬ ((∃ u ∈ ls.take k, u.ownBlock = some P.bw) ∨ (Value.slice la ls.length lc).ownBlock = some P.bw) := fun e => by
      rcases e with ⟨u, hu, e⟩ | e
      · exact H.out.to u (by simp [List.mem_of_mem_take hu]) _ e H.out.bwO
      · exact H.out.to _ (by simp) _ e H.out.bwO
    have BX1 := hide (HI.out.2.2.2.box BOX.out nbw)
    have x5 : w1.cell? ⟨P.bw, 5, none⟩ = some (.slice la ls.length lc) := by simp [Lib.cell_of_heap BX1.out]
    by_cases hlt : k < ls.length
    · have q1 : decide ((k : Int) < (ls.length : Int)) = true := decide_eq_true (by omega)
      have hml : k < ms.length := by rw [HI.out.1]; exact hlt
      have hmk : ms[k] = ls[k] := by
        have h1 := List.getElem?_drop (xs := ms) (i := k) (j := 0)
        have h2 := List.getElem?_drop (xs := ls) (i := k) (j := 0)
        rw [HI.out.2.1, h2] at h1
        simpa [List.getElem?_eq_getElem hml, List.getElem?_eq_getElem hlt] using h1.symm
      have far : ∀ c, (c = Value.slice wa ls.length wc ∨ c = ls[k] ∨ c ∈ ws) → ∀ y, c.ownBlock = some y → ¬ ((∃ u ∈ ls.take k, u.ownBlock = some y) ∨ (Value.slice la ls.length lc).ownBlock = some y) := by
        intro c hc y hy e
        rcases e with ⟨u, hu, e⟩ | e
        · obtain ⟨j, hj, rfl⟩ := List.getElem_of_mem hu
          rw [List.length_take] at hj
          rw [List.getElem_take] at e
          rcases hc with rfl | rfl | hc
          · exact HAP.out.2.1 ls[j] (List.getElem_mem _) y e hy
          · exact HAP.out.2.2.1 j k (by omega) hlt (by omega) y e hy
          · exact HAP.out.2.2.2 ls[j] (List.getElem_mem _) c hc y e hy
        · refine HAP.out.1 c ?_ y e hy
          rcases hc with rfl | rfl | hc
          · simp
          · simp
          · simp [hc]
      have kx : k < xs.length := by omega
      have kw : k < ws.length := by omega
      have RL := hide ((H.out.ll.each k hlt kx).ch HI.out.2.2.2 (far _ (.inr (.inl rfl))))
      have RW := hide ((H.out.lw.each k kw kx).ch HI.out.2.2.2 (far _ (.inr (.inr (List.getElem_mem kw)))))
      have RV := hide (H.out.lw.row.ch HI.out.2.2.2 (far _ (.inl rfl)))
      have hxk := HX.out xs[k] (List.getElem_mem kx)
      have hvk := HAP.out.1 ls[k] (by simp)
      obtain ⟨X, hX⟩ : ∃ X, xs[k] = X := ⟨_, rfl⟩
      rw [hX] at RL RW hxk
      obtain ⟨u, hu⟩ : ∃ u, ls[k] = u := ⟨_, rfl⟩
      obtain ⟨z, hz⟩ : ∃ z, ws[k] = z := ⟨_, rfl⟩
      rw [hu] at RL hmk hvk
      rw [hz] at RW
      have HVK := hide (show ∀ y, u.ownBlock = some y → ¬ (Value.slice la ls.length lc).ownBlock = some y from fun y hy e => hvk y e hy)
      have hcu := HAP.out.2.1 ls[k] (List.getElem_mem _)
      rw [hu] at hcu
      have HCU := hide hcu
      obtain ⟨ua, uc, rfl, -, -⟩ := RL.out.form
      have HUK := hide hu
      obtain ⟨za, zc, rfl, -, -⟩ := RW.out.form
      obtain ⟨lb, rfl, y5, y5f⟩ := slrow_at HI.out.2.2.1 hml
      rw [hmk] at y5
      have RV2 := RV.out
      obtain ⟨wb, rfl, y6, -⟩ := slrow_at RV2 kw
      rw [hz] at y6
      have HCW := hide (fun V (cV : Ch (fun _ => False) w1 V) => show V.cell? ⟨P.bw, 5, none⟩ = some (.slice (some ⟨lb, 0, none⟩) ls.length lc) ∧ V.cell? ⟨lb, k, none⟩ = some (.slice ua X.length uc) ∧ V.cell? ⟨P.bw, 6, none⟩ = some (.slice (some ⟨wb, 0, none⟩) ls.length wc) ∧ V.cell? ⟨wb, k, none⟩ = some (.slice za X.length zc) from by
        have e := Lib.cell_of_heap (cV.box BX1.out (fun h => h))
        have hb5 := (own_in HI.out.2.2.1 (g := lb) rfl).2.1
        have hb6 := (own_in RV2 (g := wb) rfl).2.1
        exact ⟨by simp [e], (cV.cell hb5 (fun h => h) k).trans y5, by simp [e], (cV.cell hb6 (fun h => h) k).trans y6⟩)
      have HSM := hide (fun V (cV : Ch (fun _ => False) w1 V) => same_is (row_hl (RL.out.ch cV (fun _ _ h => h)) (by omega)) (row_hl (RW.out.ch cV (fun _ _ h => h)) (by omega)))
      have HFF := hide y5f
      have hX9 : X.length ≤ 9223372036854775807 := by omega
      have hl9 : ls.length ≤ 9223372036854775807 := by omega
      have kl : (k : Int) < (ls.length : Int) := by omega
      clear nbw far kx kw hX hu hz hmk hvk hcu y5f RV2 y5 y6 x5 hlx hwx hwl
      have x5 : w1.cell? ⟨P.bw, 5, none⟩ = some (.slice (some ⟨lb, 0, none⟩) ls.length lc) := (HCW.out w1 (Ch.refl _ _)).1
      go_wp2
      clear x5
      refine wp_reg (fun _ => False) (R := fun V => Ch (fun _ => False) w1 V) (by kernel_rfl) (Ch.drew _) (fun V cV zk => ?_)
      have CV := hide cV
      clear cV
      have HC := hide (fun wq (kq : Ch (fun _ => False) V wq) => HCW.out wq (CV.out.trans kq (fun _ _ h => h)))
      apply tk 0 ov0 rfl (by kernel_rfl) (fun _ _ _ h => h) zk
      · intro wq zq
        go_simp
        try rfl
      go_frame
      apply tk 1 ov1 rfl (by kernel_rfl) (fun _ _ _ h => h) zk
      · intro wq zq
        go_simp
        try rfl
      go_frame
      apply tk 2 ov2 rfl (by kernel_rfl) (fun _ _ _ h => h) zk
      · intro wq zq
        go_simp
        try rfl
      go_frame
      apply tk 3 ov3 rfl (by kernel_rfl) (fun _ _ _ h => h) zk
      · intro wq zq
        obtain ⟨s0, s1, s2, s3⟩ := HC.out _ zq
        go_simp
        try rfl
      go_frame
      apply tk 4 ov4 rfl (by kernel_rfl) (fun _ _ _ h => h) zk
      · intro wq zq
        go_simp
        try rfl
      go_frame
      apply tk 5 ov5 rfl (by kernel_rfl) (fun _ _ _ h => h) zk
      · intro wq zq
        go_simp
        try rfl
      go_frame
      apply tk 6 ov6 rfl (by kernel_rfl) (fun _ _ _ h => h) zk
      · intro wq zq
        obtain ⟨s0, s1, s2, s3⟩ := HC.out _ zq
        go_simp
        try rfl
      go_frame
      apply tk 7 ov7 rfl (by kernel_rfl) (fun _ _ _ h => h) zk
      · intro wq zq
        go_simp
        try rfl
      go_frame
      apply tk 8 ov8 rfl (by kernel_rfl) (fun _ _ _ h => h) zk
      · intro wq zq
        go_simp
        try rfl
      go_frame
      apply tk 9 ov9 rfl (by kernel_rfl) (fun _ _ _ h => h) zk
      · intro wq zq
        go_simp
        try rfl
      go_frame
      apply tk 10 ov10 rfl (by kernel_rfl) (fun _ _ _ h => h) zk
      · intro wq zq
        obtain ⟨s0, s1, s2, s3⟩ := HC.out _ zq
        go_simp
        try rfl
      go_frame
      apply tk 11 ov11 rfl (by kernel_rfl) (fun _ _ _ h => h) zk
      · intro wq zq
        go_simp
        try rfl
      go_frame
      apply tk 12 ov12 rfl (by kernel_rfl) (fun _ _ _ h => h) zk
      · intro wq zq
        go_simp
        try rfl
      go_frame
      apply tk 13 ov13 rfl (by kernel_rfl) (fun _ _ _ h => h) zk
      · intro wq zq
        obtain ⟨s0, s1, s2, s3⟩ := HC.out _ zq
        go_simp
        try rfl
      go_frame
      refine rd 14 ov14 rfl (by kernel_rfl) fun K hK => ?_
      go_simp
      refine (HSM.out V CV.out).mono ?_
      rintro e w5 ⟨rfl, hb5⟩
      have Z5 := hide (zk.trans (Ch.of_below (Q := fun _ => False) hb5) (fun _ _ h => h))
      clear hb5
      go_wp2_with fail
      refine hK.out _ _ ?_ (fun zk => ?_)
      · exact Z5.out
      clear hK K
      try go_frame
      apply tk 15 ov15 rfl (by kernel_rfl) (fun _ _ _ h => h) zk
      · intro wq zq
        go_simp
        try rfl
      go_frame
      refine wpAnyH_done (by kernel_rfl) ?_ _
      have C5 := hide (CV.out.trans Z5.out (fun _ _ h => h))
      obtain ⟨-, s1, -, -⟩ := HCW.out w5 C5.out
      have hlb := (own_in HI.out.2.2.1 (g := lb) rfl).2.1
      have HB5 := hide (fun V (cV : Ch (fun y => (Value.slice ua X.length uc).ownBlock = some y) w5 V) => show V.cell? ⟨P.bw, 5, none⟩ = some (.slice (some ⟨lb, 0, none⟩) ls.length lc) ∧ V.cell? ⟨lb, k, none⟩ = some (.slice ua X.length uc) from by
        have nb : ¬ (Value.slice ua X.length uc).ownBlock = some P.bw := own_box RL.out BX1.out (by decide)
        have e := Lib.cell_of_heap (cV.box (C5.out.box BX1.out (fun h => h)) nb)
        exact ⟨by simp [e], (cV.cell (Nat.lt_of_lt_of_le hlb C5.out.size) (fun e => HVK.out lb e rfl) k).trans s1⟩)
      have RL5 := hide (RL.out.ch C5.out (fun _ _ h => h))
      have HRV5 := hide (HI.out.2.2.1.ch C5.out (fun _ _ h => h))
      clear s1 hlb
      go_wp2
      go_loopw [5] (fun jv wr => ∃ (j : Nat) (Y : List Hd), j ≤ X.length ∧ jv = .int .i64 (j : Int) ∧ Hid (Y.length = X.length ∧ Row hF 2 43 wr P.N (.slice ua X.length uc) Y) ∧ Hid (Ch (fun y => (Value.slice ua X.length uc).ownBlock = some y) w5 wr)) (fun jv _ => X.length - (intOf jv).toNat)
      case atStart => exact ⟨0, X, Nat.zero_le _, rfl, hide ⟨rfl, RL5.out⟩, hide (Ch.refl _ _)⟩
      case round =>
        obtain ⟨j, Y, hj, rfl, HY, HC⟩ := hrel
        obtain ⟨w6, rfl⟩ : ∃ x, x = wr := ⟨_, rfl⟩
        obtain ⟨x5, x5k⟩ := HB5.out w6 HC.out
        by_cases hjl : j < X.length
        · have q2 : decide ((j : Int) < (X.length : Int)) = true := decide_eq_true (by omega)
          obtain ⟨bl, zz, rfl, z0, z1, z2⟩ := row_two HY.out.2 HY.out.1 hjl
          have HP2 := hide (row_put2 HY.out.2 HY.out.1 hjl (7, 7))
          have HC9 := hide ((Ch.set (Q := fun y => (Value.slice (some ⟨bl, 0, none⟩) X.length uc).ownBlock = some y) w6 (C := bl) rfl (j * 2) (.int .u32 7)).trans (Ch.set (Q := fun y => (Value.slice (some ⟨bl, 0, none⟩) X.length uc).ownBlock = some y) _ (C := bl) rfl (j * 2 + 1) (.int .u32 7)) (fun _ _ h => h))
          go_wp2
          go_roundw
          case rel => exact ⟨j + 1, Y.set j (7, 7), by omega, by go_num, hide ⟨by rw [List.length_set]; exact HY.out.1, HP2.out⟩, hide (HC.out.trans HC9.out (fun _ _ h => h))⟩
          case measure => simp [intOf]; omega
        · have q2 : decide ((j : Int) < (X.length : Int)) = false := decide_eq_false (by omega)
          have ht : List.take (k + 1) ls = List.take k ls ++ [ls[k]] := List.take_succ_eq_append_getElem hlt
          have HT := hide ht
          have HRW6 := hide (HRV5.out.ch HC.out (fun y hy e => HVK.out y e hy))
          have HM1 := hide (show X.length + 2 ≤ maxLen by unfold maxLen; omega)
          have HM2 := hide (show (X.length + 2) * 8 ≤ 140737488355328 by omega)
          clear ht x5 x5k
          obtain ⟨x5, x5k⟩ := HB5.out w6 HC.out
          go_wp2
          clear x5 x5k
          refine wp_reg (fun y => (Value.slice ua X.length uc).ownBlock = some y ∨ y = lb) (R := fun V => Ch (fun _ => False) w6 V) (by kernel_rfl) (Ch.drew _) (fun V cV zk => ?_)
          have CV := hide cV
          have HYV := hide (HY.out.2.ch cV (fun _ _ h => h))
          clear cV
          have HC2 := hide (fun wq (kq : Ch (fun y => (Value.slice ua X.length uc).ownBlock = some y ∨ y = lb) V wq) => show wq.cell? ⟨P.bw, 5, none⟩ = some (.slice (some ⟨lb, 0, none⟩) ls.length lc) from by
            have nb1 : ¬ (Value.slice ua X.length uc).ownBlock = some P.bw := own_box RL.out BX1.out (by decide)
            have nb2 : ¬ P.bw = lb := fun e => own_box HI.out.2.2.1 BX1.out (by decide) (by rw [e]; rfl)
            have e := Lib.cell_of_heap (kq.box (CV.out.box (HC.out.box (C5.out.box BX1.out (fun h => h)) nb1) (fun h => h)) (fun e => e.elim nb1 nb2))
            simp [e])
          have HLD := hide (fun V2 (cV2 : Ch (fun _ => False) V V2) => show V2.cell? ⟨lb, k, none⟩ = some (.slice ua X.length uc) from (HB5.out V2 (HC.out.trans (CV.out.trans cV2 (fun _ _ h => h)) (fun _ _ h => h.elim))).2)
          apply tk 0 oa0 rfl (by kernel_rfl) (fun _ _ _ h => h) zk
          · intro wq zq
            go_simp
            try rfl
          go_frame
          apply tk 1 oa1 rfl (by kernel_rfl) (fun _ _ _ h => h) zk
          · intro wq zq
            go_simp
            try rfl
          go_frame
          apply tk 2 oa2 rfl (by kernel_rfl) (fun _ _ _ h => h) zk
          · intro wq zq
            go_simp
            try rfl
          go_frame
          apply tk 3 oa3 rfl (by kernel_rfl) (fun _ _ _ h => h) zk
          · intro wq zq
            have s0 := HC2.out _ zq
            go_simp
            try rfl
          go_frame
          apply tk 4 oa4 rfl (by kernel_rfl) (fun _ _ _ h => h) zk
          · intro wq zq
            go_simp
            try rfl
          go_frame
          apply tk 5 oa5 rfl (by kernel_rfl) (fun _ _ _ h => h) zk
          · intro wq zq
            go_simp
            try rfl
          go_frame
          apply tk 6 oa6 rfl (by kernel_rfl) (fun _ _ _ h => h) zk
          · intro wq zq
            go_simp
            try rfl
          go_frame
          apply tk 7 oa7 rfl (by kernel_rfl) (fun _ _ _ h => h) zk
          · intro wq zq
            go_simp
            try rfl
          go_frame
          apply tk 8 oa8 rfl (by kernel_rfl) (fun _ _ _ h => h) zk
          · intro wq zq
            have s0 := HC2.out _ zq
            go_simp
            try rfl
          go_frame
          apply tk 9 oa9 rfl (by kernel_rfl) (fun _ _ _ h => h) zk
          · intro wq zq
            go_simp
            try rfl
          go_frame
          apply tk 10 oa10 rfl (by kernel_rfl) (fun _ _ _ h => h) zk
          · intro wq zq
            go_simp
            try rfl
          go_frame
          apply tk 12 oa12 rfl (by kernel_rfl) (fun _ _ _ h => h) zk
          · intro wq zq
            go_simp
            try rfl
          go_frame
          apply tk 13 oa13 rfl (by kernel_rfl) (fun _ _ _ h => h) zk
          · intro wq zq
            go_simp
            try rfl
          go_frame
          refine wpAnyH_ready (rs := [11, 14]) (by kernel_rfl) (by simp) ?_
          refine AllReadyH.cons (o := oa11) rfl (fun K hK => ?_) (AllReadyH.cons (o := oa14) rfl (fun K hK => ?_) AllReadyH.nil)
          · have s0 := HLD.out V (Ch.refl _ _)
            go_simp
            refine hK.out _ _ ?_ (fun zk => ?_)
            · exact zk
            clear hK K
            try go_frame
            refine rd 14 oa14 rfl (by kernel_rfl) fun K hK => ?_
            go_simp
            refine hK.out _ _ ?_ (fun zk => ?_)
            · exact zk.trans (Ch.alloc (Q := fun y => (Value.slice ua X.length uc).ownBlock = some y ∨ y = lb) _ _) (fun _ _ h => h)
            clear hK K
            try go_frame
            have HM5 := hide (show P.N ≤ (V.alloc (.cells #[.int .u32 7, .int .u32 7, .int .u32 7, .int .u32 7] 43)).heap.size by rw [World.size_alloc]; have h1 := H.out.low; have h2 := HI.out.2.2.2.size; have h3 := C5.out.size; have h4 := HC.out.size; have h5 := CV.out.size; omega)
            refine rd 15 oa15 rfl (by kernel_rfl) fun K hK => ?_
            refine step_append_at rfl (.tmp 65) (.tmp 68) 34 rfl P.N 43 i0 (.agg #[.int .u32 0, .int .u32 0]) 2 8 Try.underlying34 hi0 hz0 hz1 hz2 rfl (by decide) (.slice ua X.length uc) X.length (Y.flatMap hF) rfl (World.ownsRow.alloc (show V.ownsRow P.N 43 2 (.slice ua X.length uc) X.length (Y.flatMap hF) from HY.out.1 ▸ HYV.out) (.cells #[.int .u32 7, .int .u32 7, .int .u32 7, .int .u32 7] 43)) ⟨V.heap.size, 0, none⟩ 2 2 (hF (7, 7) ++ hF (7, 7)) rfl rfl (row_new V (hF (7, 7) ++ hF (7, 7)) 43 rfl) (fun u hu => (List.mem_append.1 hu).elim (hF_one (7, 7) u) (hF_one (7, 7) u)) HM1.out HM2.out HM5.out ?_
            intro v6 w7 hr6 hg6 ho6
            have c7 := (Ch.alloc (Q := fun y => (Value.slice ua X.length uc).ownBlock = some y ∨ y = lb) V (.cells #[.int .u32 7, .int .u32 7, .int .u32 7, .int .u32 7] 43)).trans (Ch.of_grown (Q := fun y => (Value.slice ua X.length uc).ownBlock = some y ∨ y = lb) hg6 (fun y e => Or.inl e)) (fun _ _ h => h)
            have nlb : ¬ (Value.slice ua X.length uc).ownBlock = some lb := fun e => HVK.out lb e rfl
            have c7n := (Ch.alloc (Q := fun y => (Value.slice ua X.length uc).ownBlock = some y) V (.cells #[.int .u32 7, .int .u32 7, .int .u32 7, .int .u32 7] 43)).trans (Ch.of_grown (Q := fun y => (Value.slice ua X.length uc).ownBlock = some y) hg6 (fun y e => e)) (fun _ _ h => h)
            have R7 := hide (show Row slF 1 34 w7 P.N (.slice (some ⟨lb, 0, none⟩) ls.length lc) ms from (HRW6.out.ch CV.out (fun _ _ h => h)).ch c7n (fun y hy e => by cases hy; exact nlb e))
            have Z6 := hide (zk.trans (Ch.of_grown (Q := fun y => (Value.slice ua X.length uc).ownBlock = some y ∨ y = lb) hg6 (fun y e => Or.inl e)) (fun _ _ h => h))
            have C7 := hide c7
            obtain ⟨a6, n6, c6, rfl⟩ := own_form hr6
            clear hr6 hg6 ho6 c7 c7n nlb
            refine hK.out _ _ ?_ (fun zk => ?_)
            · exact Z6.out
            clear hK K
            try go_frame
            apply tk 16 oa16 rfl (by kernel_rfl) (fun _ _ _ h => h) zk
            · intro wq zq
              go_simp
              try rfl
            go_frame
            obtain ⟨lb2, e2, y6, f6⟩ := slrow_at R7.out hml
            cases e2
            have y6f := f6 k
            clear f6
            refine rd 17 oa17 rfl (by kernel_rfl) fun K hK => ?_
            go_simp
            refine hK.out _ _ ?_ (fun zk => ?_)
            · exact zk.trans (Ch.set (Q := fun y => (Value.slice ua X.length uc).ownBlock = some y ∨ y = lb) _ (Or.inr rfl) _ _) (fun _ _ h => h)
            clear hK K
            try go_frame
            refine wpAnyH_done (by kernel_rfl) ?_ _
            have HFI := hide (show (ms.set k (.slice a6 n6 c6)).length = ls.length ∧ (ms.set k (.slice a6 n6 c6)).drop (k + 1) = ls.drop (k + 1) ∧ Row slF 1 34 (w7.setCell ⟨lb, k, none⟩ (.slice a6 n6 c6)) P.N (.slice (some ⟨lb, 0, none⟩) ls.length lc) (ms.set k (.slice a6 n6 c6)) ∧ Ch (fun y => (∃ u ∈ ls.take (k + 1), u.ownBlock = some y) ∨ (Value.slice (some ⟨lb, 0, none⟩) ls.length lc).ownBlock = some y) w (w7.setCell ⟨lb, k, none⟩ (.slice a6 n6 c6)) from by
              refine ⟨by rw [List.length_set]; exact HI.out.1, ?_, slrow_set R7.out HI.out.1 hml _, ?_⟩
              · rw [List.drop_set_of_lt (by omega), ← List.drop_drop, ← List.drop_drop, HI.out.2.1]
              · have hin : ∀ y, (Value.slice ua X.length uc).ownBlock = some y → (∃ u ∈ ls.take (k + 1), u.ownBlock = some y) := fun y hy => ⟨ls[k], by rw [HT.out]; exact List.mem_append_right _ (List.mem_singleton.2 rfl), (congrArg Value.ownBlock HUK.out).trans hy⟩
                have g1 := HI.out.2.2.2.mono (Q' := fun y => (∃ u ∈ ls.take (k + 1), u.ownBlock = some y) ∨ (Value.slice (some ⟨lb, 0, none⟩) ls.length lc).ownBlock = some y) (fun y _ e => e.imp_left fun ⟨u, hu, e⟩ => ⟨u, by rw [HT.out]; exact List.mem_append_left _ hu, e⟩)
                have t1 := g1.trans C5.out (fun _ _ h => h.elim)
                have t2 := t1.trans HC.out (fun y _ e => Or.inl (hin y e))
                have t3 := t2.trans CV.out (fun _ _ h => h.elim)
                have t4 := t3.trans C7.out (fun y _ e => e.elim (fun e => Or.inl (hin y e)) (fun e => Or.inr (by rw [e]; rfl)))
                exact t4.trans (Ch.set (Q := fun y => (∃ u ∈ ls.take (k + 1), u.ownBlock = some y) ∨ (Value.slice (some ⟨lb, 0, none⟩) ls.length lc).ownBlock = some y) w7 (Or.inr rfl) k _) (fun _ _ h => h))
            go_wp2
            go_roundw
            case rel => exact ⟨k + 1, _, by omega, by go_num, HFI⟩
            case measure => simp [intOf]; omega
          · go_simp
            refine hK.out _ _ ?_ (fun zk => ?_)
            · exact zk.trans (Ch.alloc (Q := fun y => (Value.slice ua X.length uc).ownBlock = some y ∨ y = lb) _ _) (fun _ _ h => h)
            clear hK K
            try go_frame
            refine rd 11 oa11 rfl (by kernel_rfl) fun K hK => ?_
            have s0 := HLD.out _ (Ch.alloc V (.cells #[.int .u32 7, .int .u32 7, .int .u32 7, .int .u32 7] 43))
            go_simp
            refine hK.out _ _ ?_ (fun zk => ?_)
            · exact zk
            clear hK K
            try go_frame
            have HM5 := hide (show P.N ≤ (V.alloc (.cells #[.int .u32 7, .int .u32 7, .int .u32 7, .int .u32 7] 43)).heap.size by rw [World.size_alloc]; have h1 := H.out.low; have h2 := HI.out.2.2.2.size; have h3 := C5.out.size; have h4 := HC.out.size; have h5 := CV.out.size; omega)
            refine rd 15 oa15 rfl (by kernel_rfl) fun K hK => ?_
            refine step_append_at rfl (.tmp 65) (.tmp 68) 34 rfl P.N 43 i0 (.agg #[.int .u32 0, .int .u32 0]) 2 8 Try.underlying34 hi0 hz0 hz1 hz2 rfl (by decide) (.slice ua X.length uc) X.length (Y.flatMap hF) rfl (World.ownsRow.alloc (show V.ownsRow P.N 43 2 (.slice ua X.length uc) X.length (Y.flatMap hF) from HY.out.1 ▸ HYV.out) (.cells #[.int .u32 7, .int .u32 7, .int .u32 7, .int .u32 7] 43)) ⟨V.heap.size, 0, none⟩ 2 2 (hF (7, 7) ++ hF (7, 7)) rfl rfl (row_new V (hF (7, 7) ++ hF (7, 7)) 43 rfl) (fun u hu => (List.mem_append.1 hu).elim (hF_one (7, 7) u) (hF_one (7, 7) u)) HM1.out HM2.out HM5.out ?_
            intro v6 w7 hr6 hg6 ho6
            have c7 := (Ch.alloc (Q := fun y => (Value.slice ua X.length uc).ownBlock = some y ∨ y = lb) V (.cells #[.int .u32 7, .int .u32 7, .int .u32 7, .int .u32 7] 43)).trans (Ch.of_grown (Q := fun y => (Value.slice ua X.length uc).ownBlock = some y ∨ y = lb) hg6 (fun y e => Or.inl e)) (fun _ _ h => h)
            have nlb : ¬ (Value.slice ua X.length uc).ownBlock = some lb := fun e => HVK.out lb e rfl
            have c7n := (Ch.alloc (Q := fun y => (Value.slice ua X.length uc).ownBlock = some y) V (.cells #[.int .u32 7, .int .u32 7, .int .u32 7, .int .u32 7] 43)).trans (Ch.of_grown (Q := fun y => (Value.slice ua X.length uc).ownBlock = some y) hg6 (fun y e => e)) (fun _ _ h => h)
            have R7 := hide (show Row slF 1 34 w7 P.N (.slice (some ⟨lb, 0, none⟩) ls.length lc) ms from (HRW6.out.ch CV.out (fun _ _ h => h)).ch c7n (fun y hy e => by cases hy; exact nlb e))
            have Z6 := hide (zk.trans (Ch.of_grown (Q := fun y => (Value.slice ua X.length uc).ownBlock = some y ∨ y = lb) hg6 (fun y e => Or.inl e)) (fun _ _ h => h))
            have C7 := hide c7
            obtain ⟨a6, n6, c6, rfl⟩ := own_form hr6
            clear hr6 hg6 ho6 c7 c7n nlb
            refine hK.out _ _ ?_ (fun zk => ?_)
            · exact Z6.out
            clear hK K
            try go_frame
            apply tk 16 oa16 rfl (by kernel_rfl) (fun _ _ _ h => h) zk
            · intro wq zq
              go_simp
              try rfl
            go_frame
            obtain ⟨lb2, e2, y6, f6⟩ := slrow_at R7.out hml
            cases e2
            have y6f := f6 k
            clear f6
            refine rd 17 oa17 rfl (by kernel_rfl) fun K hK => ?_
            go_simp
            refine hK.out _ _ ?_ (fun zk => ?_)
            · exact zk.trans (Ch.set (Q := fun y => (Value.slice ua X.length uc).ownBlock = some y ∨ y = lb) _ (Or.inr rfl) _ _) (fun _ _ h => h)
            clear hK K
            try go_frame
            refine wpAnyH_done (by kernel_rfl) ?_ _
            have HFI := hide (show (ms.set k (.slice a6 n6 c6)).length = ls.length ∧ (ms.set k (.slice a6 n6 c6)).drop (k + 1) = ls.drop (k + 1) ∧ Row slF 1 34 (w7.setCell ⟨lb, k, none⟩ (.slice a6 n6 c6)) P.N (.slice (some ⟨lb, 0, none⟩) ls.length lc) (ms.set k (.slice a6 n6 c6)) ∧ Ch (fun y => (∃ u ∈ ls.take (k + 1), u.ownBlock = some y) ∨ (Value.slice (some ⟨lb, 0, none⟩) ls.length lc).ownBlock = some y) w (w7.setCell ⟨lb, k, none⟩ (.slice a6 n6 c6)) from by
              refine ⟨by rw [List.length_set]; exact HI.out.1, ?_, slrow_set R7.out HI.out.1 hml _, ?_⟩
              · rw [List.drop_set_of_lt (by omega), ← List.drop_drop, ← List.drop_drop, HI.out.2.1]
              · have hin : ∀ y, (Value.slice ua X.length uc).ownBlock = some y → (∃ u ∈ ls.take (k + 1), u.ownBlock = some y) := fun y hy => ⟨ls[k], by rw [HT.out]; exact List.mem_append_right _ (List.mem_singleton.2 rfl), (congrArg Value.ownBlock HUK.out).trans hy⟩
                have g1 := HI.out.2.2.2.mono (Q' := fun y => (∃ u ∈ ls.take (k + 1), u.ownBlock = some y) ∨ (Value.slice (some ⟨lb, 0, none⟩) ls.length lc).ownBlock = some y) (fun y _ e => e.imp_left fun ⟨u, hu, e⟩ => ⟨u, by rw [HT.out]; exact List.mem_append_left _ hu, e⟩)
                have t1 := g1.trans C5.out (fun _ _ h => h.elim)
                have t2 := t1.trans HC.out (fun y _ e => Or.inl (hin y e))
                have t3 := t2.trans CV.out (fun _ _ h => h.elim)
                have t4 := t3.trans C7.out (fun y _ e => e.elim (fun e => Or.inl (hin y e)) (fun e => Or.inr (by rw [e]; rfl)))
                exact t4.trans (Ch.set (Q := fun y => (∃ u ∈ ls.take (k + 1), u.ownBlock = some y) ∨ (Value.slice (some ⟨lb, 0, none⟩) ls.length lc).ownBlock = some y) w7 (Or.inr rfl) k _) (fun _ _ h => h))
            go_wp2
            go_roundw
            case rel => exact ⟨k + 1, _, by omega, by go_num, HFI⟩
            case measure => simp [intOf]; omega
    · have q1 : decide ((k : Int) < (ls.length : Int)) = false := decide_eq_false (by omega)
      have HF := hide (HI.out.2.2.2.below H.out.low (fun b hb e => by
        rcases e with ⟨u, hu, e⟩ | e
        · have := (H.out.own u (by simp [List.mem_of_mem_take hu]) b e).1.1
          omega
        · have := (H.out.own (.slice la ls.length lc) (by simp) b e).1.1
          omega))
      go_wp2
      go_ret
      exact ⟨rfl, HF.out⟩

end Go.Proofs.Ytcogiklnegpfiaa

namespace Go.Proofs.Ytcogiklnegpfiaa
open Go.RowKit Go.Shelf

theorem step_is {P : Px} {w : World} {vT vl vw vD : Value} {l : List Th} {L : List Lk} {aq : List Hd} {ls ws : List Value} {xs : List (List Hd)} {O : Nat → Prop} (h : SQ P w vT vl vw vD l l (hnds l) L aq ls ws xs O) {o : Oq} {rs : List Int} (hrt : RtsAt P.N w o rs) (us : Us o.s) (ha : I64 o.a) (hb : I64 o.b) (hll : l.length ≤ 1000) (hls : ls.length ≤ 1000) :
    Calls Try.prog 8 #[.pointer (some ⟨P.bw, 0, none⟩), opV o] w fun e w' => e = .returned (.bool true) ∧ StepI P w w' l xs := by
  by_cases h1 : o.k = 1
  · exact step_make h hrt us ha hb h1 hll hls
  by_cases h2 : o.k = 2
  · exact step_link h hrt us ha hb h2 hll hls
  by_cases h3 : o.k = 3
  · exact step_cut h hrt us ha hb h3 hll hls
  by_cases h4 : o.k = 4
  · exact step_kind h hrt us ha hb h4 hll hls
  by_cases h5 : o.k = 5
  · exact step_marked h hrt us ha hb (.inl h5) hll hls
  by_cases h6 : o.k = 6
  · exact step_marked h hrt us ha hb (.inr h6) hll hls
  by_cases h7 : o.k = 7
  · exact step_all h hrt us ha hb h7 hll hls
  exact step_none h hrt us ha hb ⟨h1, h2, h3, h4, h5, h6, h7⟩ hll hls

/-- an op that came in, with its roots -/
def OpQ (w : World) (b o : Nat) (y : Oq × List Int) : Prop := (∀ j u, (opF y.1)[j]? = some u → w.cell? ⟨b, o + j, none⟩ = some u) ∧ RtsAt w.heap.size w y.1 y.2 ∧ I64 y.1.a ∧ I64 y.1.b ∧ Us y.1.s

set_option maxRecDepth 100000 in
set_option maxHeartbeats 16000000 in
theorem playsL_is {w : World} {size : Int} (hs0 : I64 size) {v : Value} {ops : List (Oq × List Int)} (hv : Lst w.heap.size 8 (OpQ w) v ops) :
    Calls Try.prog 3 #[.int .i64 size, v] w fun e w' => e = .returned (.bool true) ∧ Below w.heap.size w w' := by
  obtain ⟨sb, so, ⟨sa, sc, rfl, hsc, hsn, hsa⟩, hop⟩ := hv
  have HSA := hide hsa
  have HOP := hide hop
  clear hsa hop hsc
  go_enter Try.func3, Try.ntmps3
  go_wp2_with fail
  refine (awake_is w).mono ?_
  rintro e w1 ⟨rfl, hb1⟩
  have B1 := hide hb1
  clear hb1
  cases hm : (decide (1 ≤ size) && decide (size ≤ 500))
  · go_wp2_with fail
    refine (hnew_no w1 size hm).mono ?_
    rintro e w2 ⟨rfl, rfl⟩
    have HM := hide hm
    clear hm
    by_cases h1 : 1 ≤ size
    · have q1 : decide (1 ≤ size) = true := decide_eq_true h1
      have q2 : decide (size ≤ 500) = false := by have := HM.out; rw [q1, Bool.true_and] at this; exact this
      clear h1
      go_wp2
      go_ret
      exact ⟨rfl, B1.out⟩
    · have q1 : decide (1 ≤ size) = false := decide_eq_false h1
      clear h1
      go_wp2
      go_ret
      exact ⟨rfl, B1.out⟩
  · rw [Bool.and_eq_true, decide_eq_true_eq, decide_eq_true_eq] at hm
    obtain ⟨M, rfl⟩ : ∃ M : Nat, size = (M : Int) := ⟨size.toNat, by omega⟩
    have hM1 : 1 ≤ M := by omega
    have hM5 : M ≤ 500 := by omega
    clear hm
    have q1 : decide (1 ≤ (M : Int)) = true := decide_eq_true (by omega)
    have q2 : decide ((M : Int) ≤ 500) = true := decide_eq_true (by omega)
    go_wp2_with fail
    refine (hnew_is w1 M M rfl hM1 hM5).mono ?_
    rintro e w3 ⟨b, p, g, rfl, hp3, hb3⟩
    obtain ⟨w4, hw4⟩ : ∃ w4, w3.alloc (.cells #[.slice none 0 0, .int .i64 (M : Int)] 32) = w4 := ⟨_, rfl⟩
    have hb4 : Below w3.heap.size w3 w4 := by rw [← hw4]; exact below1 _ _
    have hn4 : w4.heap[w3.heap.size]? = some (.cells #[.slice none 0 0, .int .i64 (M : Int)] 32 (0, 0)) := by rw [← hw4]; exact heap_new _ _
    have hz4 : w4.heap.size = w3.heap.size + 1 := by rw [← hw4, World.size_alloc]
    obtain ⟨w5, hw5⟩ : ∃ w5, w4.alloc (.cells #[.pointer (some ⟨b, 0, none⟩), .pointer (some ⟨w3.heap.size, 0, none⟩), .slice none 0 0, .slice none 0 0, .slice none 0 0, .slice none 0 0, .slice none 0 0, .slice none 0 0] 37) = w5 := ⟨_, rfl⟩
    have hb5 : Below w4.heap.size w4 w5 := by rw [← hw5]; exact below1 _ _
    have hn5 : w5.heap[w4.heap.size]? = some (.cells #[.pointer (some ⟨b, 0, none⟩), .pointer (some ⟨w3.heap.size, 0, none⟩), .slice none 0 0, .slice none 0 0, .slice none 0 0, .slice none 0 0, .slice none 0 0, .slice none 0 0] 37 (0, 0)) := by rw [← hw5]; exact heap_new _ _
    have B5 := hide ((((B1.out).trans (hb3.mono B1.out.size)).trans (hb4.mono (Nat.le_trans B1.out.size hb3.size))).trans (hb5.mono (Nat.le_trans (Nat.le_trans B1.out.size hb3.size) hb4.size)))
    obtain ⟨P, hP⟩ : ∃ P : Px, P = ⟨w4.heap.size, w.heap.size, w1.heap.size, b, p, g, M, w3.heap.size⟩ := ⟨_, rfl⟩
    have I5 := hide (show ∃ O, SQ P w5 (.slice none 0 0) (.slice none 0 0) (.slice none 0 0) (.slice none 0 0) [] [] [] [] [] [] [] [] O from by
      subst hP
      have hap : Apt [Value.slice none 0 0, .slice none 0 0, .slice none 0 0] := Apt.cons (Apt.cons (Apt.cons List.Pairwise.nil (fun y hy => by cases hy)) (fun y hy => by cases hy)) (fun y hy => by cases hy)
      exact ⟨JO w4.heap.size (.slice none 0 0) (.slice none 0 0) (.slice none 0 0), (hp3.below hb4).below hb5, ⟨_, _, _, [], ⟨hn5, Row.nil _ _, Row.nil _ _, Row.nil _ _, fun y hy => by cases hy⟩, by simp, fun _ => Iff.rfl⟩, Row.nil _ _, LL.nil _ _, LL.nil _ _, hap, fun u hu y hy => (by simp at hu; subst hu; cases hy), ⟨(Ch.of_below (Q := fun _ => False) hb5).box hn4 (fun h => h), Row.nil _ _⟩, B5.out.size, ⟨Nat.le_trans (Nat.le_trans B1.out.size hb3.size) hb4.size, B1.out.size, Nat.le_trans B1.out.size hb3.size⟩, by simp, fun k hk => by cases hk⟩)
    have hbw : P.bw = w4.heap.size := by rw [hP]
    have hPM : P.M = M := by rw [hP]
    have hPb : P.b = b := by rw [hP]
    have hPd : P.db = w3.heap.size := by rw [hP]
    have HPN := hide (show P.N = w.heap.size by rw [hP])
    have HM5 := hide hM5
    clear hp3 hb3 hb4 hb5 hn4 hn5 hP B1 hM1 hM5
    go_wp2_with fail
    try rw [hw4]
    try rw [hw5]
    rw [← hz4, ← hbw, ← hPb]
    have HPM := hide hPM
    clear hbw hPb hw4 hw5 hz4 hPd hPM
    go_loopw [10, 11, 12] (fun iv _ _ wr => ∃ (k : Nat) (vT vl vw vD : Value) (l : List Th) (L : List Lk) (A : List Hd) (ls ws : List Value) (xs : List (List Hd)) (O : Nat → Prop), k ≤ ops.length ∧ k ≤ 400 ∧ iv = .int .i64 (k : Int) ∧ Hid (SQ P wr vT vl vw vD l l (hnds l) L A ls ws xs O) ∧ Hid (l.length ≤ k ∧ xs.length ≤ k ∧ ∀ x ∈ xs, x.length ≤ 500) ∧ Hid (Below w.heap.size w wr)) (fun iv _ _ _ => ops.length - (intOf iv).toNat)
    case atStart =>
      obtain ⟨O, hO⟩ := I5.out
      exact ⟨0, _, _, _, _, [], [], [], [], [], [], O, Nat.zero_le _, Nat.zero_le _, rfl, hide hO, hide ⟨Nat.zero_le _, Nat.zero_le _, fun x hx => by cases hx⟩, B5⟩
    case round =>
      clear I5 B5
      obtain ⟨k, vT, vl, vw, vD, l, L, A, ls, ws, xs, O, hk, hk4, rfl, H, HL, HB⟩ := hrel
      obtain ⟨W, rfl⟩ : ∃ x, x = wr := ⟨_, rfl⟩
      by_cases hlt : k < ops.length
      · have q3 : decide ((k : Int) < (ops.length : Int)) = true := decide_eq_true (by omega)
        by_cases h4 : k < 400
        · have q4 : decide ((k : Int) < 400) = true := decide_eq_true (by omega)
          obtain ⟨rfl, hsb⟩ := HSA.out (by omega)
          obtain ⟨hcs, hrt, ha, hbI, hus⟩ := HOP.out k hlt
          generalize ops[k] = y at hcs hrt ha hbI hus
          obtain ⟨o, rs⟩ := y
          dsimp only at hcs hrt ha hbI hus
          have hrt2 : RtsAt P.N W o rs := by
            obtain ⟨h1, h2, h3, h4⟩ := hrt
            refine ⟨h1, h2, fun h0 => ?_, h4⟩
            obtain ⟨b', f', e, hb', hc'⟩ := h3 h0
            exact ⟨b', f', e, by rw [HPN.out]; exact hb', fun i hi => (HB.out.cell (p := ⟨b', _, none⟩) hb').trans (hc' i hi)⟩
          obtain ⟨y0, y1, y2, y3, y4, y5, y6, y7⟩ : W.cell? ⟨sb, so + k * 8, none⟩ = some (.int .i64 o.k) ∧ W.cell? ⟨sb, so + k * 8 + 1, none⟩ = some (.int .i64 o.a) ∧ W.cell? ⟨sb, so + k * 8 + 2, none⟩ = some (.int .i64 o.b) ∧ W.cell? ⟨sb, so + k * 8 + 3, none⟩ = some (.int .i64 o.kd) ∧ W.cell? ⟨sb, so + k * 8 + 4, none⟩ = some (.slice o.ra o.rn o.rc) ∧ W.cell? ⟨sb, so + k * 8 + 5, none⟩ = some (.bool o.hd) ∧ W.cell? ⟨sb, so + k * 8 + 6, none⟩ = some (.int .u32 o.s) ∧ W.cell? ⟨sb, so + k * 8 + 7, none⟩ = some (.int .u32 o.g) := by
            have hh := fun j u (hj : (opF o)[j]? = some u) => (HB.out.cell (p := ⟨sb, so + k * 8 + j, none⟩) hsb).trans (hcs j u hj)
            exact ⟨hh 0 _ rfl, hh 1 _ rfl, hh 2 _ rfl, hh 3 _ rfl, hh 4 _ rfl, hh 5 _ rfl, hh 6 _ rfl, hh 7 _ rfl⟩
          have hll := H.out.ll.len
          have HST := hide (show Calls Try.prog 8 #[.pointer (some ⟨P.bw, 0, none⟩), .agg #[.int .i64 o.k, .int .i64 o.a, .int .i64 o.b, .int .i64 o.kd, .slice o.ra o.rn o.rc, .bool o.hd, .int .u32 o.s, .int .u32 o.g]] W fun e w' => e = .returned (.bool true) ∧ StepI P W w' l xs from step_is H.out hrt2 hus ha hbI (by have := HL.out.1; omega) (by have := HL.out.2.1; omega))
          clear hcs hrt hrt2 ha hbI hus hll hsb
          go_wp2_with fail
          clear y0 y1 y2 y3 y4 y5 y6 y7
          refine HST.out.mono ?_
          rintro e W2 ⟨rfl, hI⟩
          obtain ⟨⟨vT2, vl2, vw2, vD2, l2, L2, A2, ls2, ws2, xs2, O2, hs2, hl2, hx2, hx5⟩, hlow⟩ := hI
          have H2 := hide hs2
          have HL2 := hide (show l2.length ≤ k + 1 ∧ xs2.length ≤ k + 1 ∧ ∀ x ∈ xs2, x.length ≤ 500 from ⟨by have := HL.out.1; omega, by have := HL.out.2.1; omega, hx5 HL.out.2.2⟩)
          have HB2 := hide (show Below w.heap.size w W2 from HB.out.trans (by rw [← HPN.out]; exact hlow))
          obtain ⟨vL, vA, vE, hbx, -⟩ := hs2.box
          have z1 : W2.cell? ⟨P.bw, 1, none⟩ = some (.pointer (some ⟨P.db, 0, none⟩)) := by simp [Lib.cell_of_heap hbx]
          clear hs2 hl2 hx2 hx5 hlow hbx HST
          go_wp2_with fail
          refine (rcount_is H2.out.dt).mono ?_
          rintro e W2 ⟨rfl, rfl⟩
          clear z1
          have hcl := H2.out.hp.tb.wf.cnt_le
          rw [HPM.out] at hcl
          have hM5 := HM5.out
          go_wp2_with fail
          refine (hcount_is H2.out.hp).mono ?_
          rintro e W4 ⟨rfl, hb4⟩
          have H4 := hide (H2.out.quiet (Ch.of_below hb4))
          have HB4 := hide (HB2.out.trans (hb4.mono HB2.out.size))
          clear hb4
          go_wp2_with fail
          refine (hroom_is H4.out.hp).mono ?_
          rintro e W5 ⟨rfl, hb5⟩
          have H5 := hide (H4.out.quiet (Ch.of_below hb5))
          have HB5 := hide (HB4.out.trans (hb5.mono HB4.out.size))
          clear hb5
          rw [HPM.out]
          have eW : IntKind.i64.wrap ((M : Int) - (cnt l2 : Int)) = (M : Int) - (cnt l2 : Int) := by rw [IntKind.wrap_i64]; omega
          go_wp2
          go_roundw
          case rel => exact ⟨k + 1, vT2, vl2, vw2, vD2, l2, L2, A2, ls2, ws2, xs2, O2, by omega, by omega, by go_num, H5, HL2, HB5⟩
          case measure => simp [intOf]; omega
        · have q4 : decide ((k : Int) < 400) = false := decide_eq_false (by omega)
          have hll := H.out.ll.len
          have HOV := hide (over_is H.out (fun x hx => by have := HL.out.2.2 x hx; omega) (by have := HL.out.2.1; omega))
          clear hll
          go_wp2_with fail
          refine HOV.out.mono ?_
          rintro e W2 ⟨rfl, hb2⟩
          have HB2 := hide (show Below w.heap.size w W2 from HB.out.trans (by rw [← HPN.out]; exact hb2))
          clear hb2
          go_wp2
          go_ret
          exact ⟨rfl, HB2.out⟩
      · have q3 : decide ((k : Int) < (ops.length : Int)) = false := decide_eq_false (by omega)
        have hll := H.out.ll.len
        have HOV := hide (over_is H.out (fun x hx => by have := HL.out.2.2 x hx; omega) (by have := HL.out.2.1; omega))
        clear hll
        go_wp2_with fail
        refine HOV.out.mono ?_
        rintro e W2 ⟨rfl, hb2⟩
        have HB2 := hide (show Below w.heap.size w W2 from HB.out.trans (by rw [← HPN.out]; exact hb2))
        clear hb2
        go_wp2
        go_ret
        exact ⟨rfl, HB2.out⟩

end Go.Proofs.Ytcogiklnegpfiaa

namespace Go.Proofs.Ytcogiklnegpfiaa
open Go.ChangeShapes Go.WideShapes Go.ChangeAt Go.RowKit Go.Deep

theorem own_knob : ownKnob Try.prog.godebug = none := by kernel_rfl
theorem laid_out : laidOutB Try.prog = true := by kernel_rfl
theorem i64_of_wf {n : Int} (h : (Lit.int .i64 n).wf = true) : -9223372036854775808 ≤ n ∧ n ≤ 9223372036854775807 := by
  rw [show (Lit.int .i64 n).wf = (decide (-9223372036854775808 ≤ n) && decide (n ≤ 9223372036854775807)) from rfl, Bool.and_eq_true, decide_eq_true_eq, decide_eq_true_eq] at h
  exact h

theorem u32_of_wf {n : Int} (h : (Lit.int .u32 n).wf = true) : Us n := by
  rw [show (Lit.int .u32 n).wf = (decide (0 ≤ n) && decide (n ≤ 4294967295)) from rfl, Bool.and_eq_true, decide_eq_true_eq, decide_eq_true_eq] at h
  exact h

section
variable {H : Type} {enc : TypeId × Value → H} {w : World} {base : Nat} {spare : Nat → Bool} {held : Bool} {fuel : Nat} {v : Value} {x : DataW H × List MemPlace}

theorem trod_i64 {t : TypeId} (hu : Try.prog.underlying t = some (.int .i64)) (h : DataW.trod enc Try.prog w base spare held fuel t [v] = some x) : ∃ z, v = .int .i64 z ∧ -9223372036854775808 ≤ z ∧ z ≤ 9223372036854775807 := by
  cases fuel with
  | zero => simp [DataW.trod] at h
  | succ n =>
    simp only [DataW.trod, hu] at h
    cases v <;> simp at h
    rename_i k b
    obtain ⟨⟨rfl, h2⟩, _⟩ := h
    exact ⟨b, rfl, i64_of_wf h2⟩
theorem trod_u32 {t : TypeId} (hu : Try.prog.underlying t = some (.int .u32)) (h : DataW.trod enc Try.prog w base spare held fuel t [v] = some x) : ∃ z, v = .int .u32 z ∧ Us z := by
  cases fuel with
  | zero => simp [DataW.trod] at h
  | succ n =>
    simp only [DataW.trod, hu] at h
    cases v <;> simp at h
    rename_i k b
    obtain ⟨⟨rfl, h2⟩, _⟩ := h
    exact ⟨b, rfl, u32_of_wf h2⟩
theorem trod_bool (h : DataW.trod enc Try.prog w base spare held fuel 4 [v] = some x) : ∃ s, v = .bool s := by
  cases fuel with
  | zero => simp [DataW.trod] at h
  | succ n =>
    simp only [DataW.trod, Try.underlying4] at h
    cases v <;> simp at h
    rename_i s
    exact ⟨s, rfl⟩
end

theorem ceInt : Try.prog.cellsOf 3 = 1 := by kernel_rfl
theorem ceBool : Try.prog.cellsOf 4 = 1 := by kernel_rfl
theorem ceU32 : Try.prog.cellsOf 41 = 1 := by kernel_rfl
theorem ceHd : Try.prog.cellsOf 43 = 2 := by kernel_rfl

section
variable {H : Type} {enc : TypeId × Value → H} {W : World} {spare : Nat → Bool} {held : Bool}

set_option maxRecDepth 100000 in
theorem hd_in {n : Nat} {cs : List Value} {x : DataW H × List MemPlace} (hl : cs.length = 2) (h : DataW.trod enc Try.prog W 0 spare held n 43 cs = some x) : ∃ s g, cs = [.int .u32 s, .int .u32 g] ∧ Us s ∧ Us g := by
  obtain ⟨xs, k, hk, hxy, hlen, hxl, hf⟩ := DataW.trod_struct Try.underlying43 h
  match xs, hxl, cs, hl with
  | [y0, y1], _, [v0, v1], _ =>
    have g0 := hf 0 _ rfl
    have g1 := hf 1 _ rfl
    simp [ceU32] at g0 g1
    obtain ⟨z0, rfl, u0⟩ := trod_u32 Try.underlying41 g0
    obtain ⟨z1, rfl, u1⟩ := trod_u32 Try.underlying41 g1
    exact ⟨z0, z1, rfl, u0, u1⟩

end

set_option maxRecDepth 100000 in
theorem handle_in {H : Type} {enc : TypeId × Value → H} {W : World} {base : Nat} {v : Value} {d : DataW H} {ps : List MemPlace} (hv : Value.okWide Try.prog W .any base 43 v) (h : DataW.Trod enc Try.prog W 0 (fun _ => true) true 43 v d ps) : ∃ s g, v = .agg #[.int .u32 s, .int .u32 g] := by
  obtain ⟨cs, rfl, hsz⟩ := okWide_struct Try.underlying43 hv
  rw [ceHd] at hsz
  obtain ⟨n, hn⟩ := h
  obtain ⟨cl⟩ := cs
  obtain ⟨s, g, e, _, _⟩ := hd_in (cs := cl) hsz hn
  subst e
  exact ⟨s, g, rfl⟩

end Go.Proofs.Ytcogiklnegpfiaa

namespace Go.Proofs.Ytcogiklnegpfiaa
open Go.ChangeShapes Go.WideShapes Go.ChangeAt Go.RowKit Go.Deep

set_option maxRecDepth 100000 in
theorem lst_of_trod {α : Type} [Inhabited α] {H : Type} {enc : TypeId × Value → H} {W : World} {spare : Nat → Bool} {held : Bool} {sT eT : TypeId} {K : Nat} (hK : 0 < K) (hu : Try.prog.underlying sT = some (.slice eT)) (hce : Try.prog.cellsOf eT = K) {A : Nat → Nat → α → Prop}
    (hel : ∀ n cs x, cs.length = K → DataW.trod enc Try.prog W 0 spare held n eT cs = some x → ∃ y : α, ∀ b o, (∀ j (h : j < cs.length), W.cell? ⟨b, o + j, none⟩ = some cs[j]) → A b o y) :
    ∀ n v x, DataW.trod enc Try.prog W 0 spare held n sT [v] = some x → ∃ l : List α, Lst W.heap.size K A v l := by
  intro n v x h
  rcases DataW.trod_slice hu h with ⟨e, _⟩ | ⟨a, len, cap, elems, rest, k, hk, e, _, _, hl, hc, hlen, hg, _, _⟩
  · obtain rfl : v = .slice none 0 0 := by simpa using e
    exact ⟨[], 0, 0, ⟨none, 0, rfl, Nat.le_refl _, Nat.zero_le _, fun h => absurd h (Nat.lt_irrefl _)⟩, fun i hi => absurd hi (Nat.not_lt_zero _)⟩
  · obtain rfl : v = .slice (some a) len cap := by simpa using e
    by_cases h0 : len = 0
    · subst h0
      exact ⟨[], 0, 0, ⟨some a, cap, rfl, Nat.zero_le _, Nat.zero_le _, fun h => absurd h (Nat.lt_irrefl _)⟩, fun i hi => absurd hi (Nat.not_lt_zero _)⟩
    rw [hce] at hg
    have hcs : ∀ i, i < len → ∃ cs : List Value, cs.length = K ∧ (∀ j (h : j < cs.length), W.cell? ((a.add (i * K)).add j) = some cs[j]) ∧ ∃ x, DataW.trod enc Try.prog W 0 spare held k eT cs = some x := by
      intro i hi
      have h1 := hg i hi
      rw [List.getElem?_eq_getElem (by omega)] at h1
      obtain ⟨cs, h2, h3⟩ := Option.bind_eq_some_iff.1 h1
      obtain ⟨_, hcl, hcell⟩ := World.cells?_some h2
      exact ⟨cs, hcl, fun j hj => (hcell j (by omega)).trans (List.getElem?_eq_getElem hj), _, h3⟩
    obtain ⟨b, off, spot⟩ := a
    have hspot : spot = none := by
      obtain ⟨cs, hcl, hcell, _⟩ := hcs 0 (by omega)
      have := World.cell?_spot (hcell 0 (by omega))
      simpa [Addr.add] using this
    subst hspot
    have hplain : ∀ i j, ((⟨b, off, none⟩ : Addr).add i).add j = ⟨b, off + i + j, none⟩ := by intro i j; unfold Addr.add; split <;> split <;> simp_all <;> omega
    have hb : b < W.heap.size := by
      obtain ⟨cs, hcl, hcell, _⟩ := hcs 0 (by omega)
      have c0 := hcell 0 (by omega)
      rw [hplain] at c0
      rcases Nat.lt_or_ge b W.heap.size with h1 | h1
      · exact h1
      · simp [World.cell?, Array.getElem?_eq_none h1] at c0
    have hA : ∀ i, i < len → ∃ y : α, A b (off + i * K) y := by
      intro i hi
      obtain ⟨cs, hcl, hcell, x, hx⟩ := hcs i hi
      obtain ⟨y, hy⟩ := hel k cs x hcl hx
      exact ⟨y, hy b (off + i * K) fun j hj => by have := hcell j hj; rwa [hplain] at this⟩
    obtain ⟨R, hR⟩ := choose_lt hA
    have hll : ((List.range len).map R).length = len := by simp
    have hmx : maxLen = 9223372036854775807 := rfl
    refine ⟨(List.range len).map R, b, off, ⟨some ⟨b, off, none⟩, cap, by rw [hll], by omega, by omega, fun _ => ⟨rfl, hb⟩⟩, fun i hi => ?_⟩
    rw [List.getElem_map, List.getElem_range]
    exact hR i (by omega)

theorem ints_in {H : Type} {enc : TypeId × Value → H} {W : World} {spare : Nat → Bool} {held : Bool} (n : Nat) (v : Value) (x : DataW H × List MemPlace) (h : DataW.trod enc Try.prog W 0 spare held n 40 [v] = some x) : ∃ l : List Int, Lst W.heap.size 1 (InAt W) v l :=
  lst_of_trod (by decide) Try.underlying40 ceInt (fun n cs x hl h => by
    obtain ⟨v, rfl⟩ : ∃ v, cs = [v] := by
      match cs, hl with
      | [v], _ => exact ⟨v, rfl⟩
    obtain ⟨z, rfl, h1, h2⟩ := trod_i64 Try.underlying3 h
    exact ⟨z, fun b o hc => ⟨hc 0 (by simp), h1, h2⟩⟩) n v x h

end Go.Proofs.Ytcogiklnegpfiaa

namespace Go.Proofs.Ytcogiklnegpfiaa
open Go.ChangeShapes Go.WideShapes Go.ChangeAt Go.RowKit Go.Deep

instance : Inhabited (Oq × List Int) := ⟨⟨⟨0, 0, 0, 0, none, 0, 0, false, 0, 0⟩, []⟩⟩
theorem ceOp : Try.prog.cellsOf 45 = 8 := by kernel_rfl
theorem ceKind : Try.prog.cellsOf 39 = 1 := by kernel_rfl
theorem ceInts : Try.prog.cellsOf 40 = 1 := by kernel_rfl

section
variable {H : Type} {enc : TypeId × Value → H} {W : World} {spare : Nat → Bool} {held : Bool}
set_option maxRecDepth 100000 in
theorem opr_in {n : Nat} {cs : List Value} {x : DataW H × List MemPlace} (hl : cs.length = 8) (h : DataW.trod enc Try.prog W 0 spare held n 45 cs = some x) :
    ∃ y : Oq × List Int, cs = opF y.1 ∧ RtsAt W.heap.size W y.1 y.2 ∧ I64 y.1.a ∧ I64 y.1.b ∧ Us y.1.s := by
  obtain ⟨xs, k, hk, hxy, hlen, hxl, hf⟩ := DataW.trod_struct Try.underlying45 h
  match xs, hxl, cs, hl with
  | [y0, y1, y2, y3, y4, y5, y6], _, [v0, v1, v2, v3, v4, v5, v6, v7], _ =>
    have g0 := hf 0 _ rfl
    have g1 := hf 1 _ rfl
    have g2 := hf 2 _ rfl
    have g3 := hf 3 _ rfl
    have g4 := hf 4 _ rfl
    have g5 := hf 5 _ rfl
    have g6 := hf 6 _ rfl
    simp [ceInt, ceHd, ceBool, ceKind, ceInts] at g0 g1 g2 g3 g4 g5 g6
    obtain ⟨z0, rfl, _⟩ := trod_i64 Try.underlying3 g0
    obtain ⟨z1, rfl, a1⟩ := trod_i64 Try.underlying3 g1
    obtain ⟨z2, rfl, a2⟩ := trod_i64 Try.underlying3 g2
    obtain ⟨z3, rfl, _⟩ := trod_i64 Try.underlying39 g3
    obtain ⟨rs, b, o, ⟨ra, rc, rfl, _, hn, hr⟩, hI⟩ := ints_in _ _ _ g4
    obtain ⟨z5, rfl⟩ := trod_bool g5
    obtain ⟨s, g, e, us, _⟩ := hd_in rfl g6
    cases e
    refine ⟨⟨⟨z0, z1, z2, z3, ra, rs.length, rc, z5, s, g⟩, rs⟩, rfl, ⟨rfl, hn, fun h0 => ?_, fun z hz => ?_⟩, a1, a2, us⟩
    · obtain ⟨e1, e2⟩ := hr h0
      exact ⟨b, o, e1, e2, fun i hi => by have := (hI i hi).1; rwa [Nat.mul_one] at this⟩
    · obtain ⟨i, hi, rfl⟩ := List.getElem_of_mem hz
      exact (hI i hi).2
theorem ops_in (n : Nat) (v : Value) (x : DataW H × List MemPlace) (h : DataW.trod enc Try.prog W 0 spare held n 22 [v] = some x) : ∃ l : List (Oq × List Int), Lst W.heap.size 8 (OpQ W) v l :=
  lst_of_trod (by decide) Try.underlying22 ceOp (fun n cs x hl h => by
    obtain ⟨y, rfl, b1, b2, b3, b4⟩ := opr_in hl h
    exact ⟨y, fun b o hc => ⟨fun j u hj => by
      obtain ⟨h1, h2⟩ := List.getElem?_eq_some_iff.1 hj
      rw [← h2]
      exact hc j h1, b1, b2, b3, b4⟩⟩) n v x h
end

set_option maxRecDepth 100000 in
theorem plays_lifted (os : Os) (started : os.Started) (H : Type) (enc : TypeId × Value → H) :
    ReturnsInHanded {} Try.checked os 3 .any (Rows.heapPlaysSpec.pre6 enc Try.prog Try.f3 Rows.heapPlaysRow.domain false) (Rows.heapPlaysSpec.post enc Try.prog Try.f3 false true false false) := by
  refine returnsInHanded_of_change (C := Try.checked) own_knob started (by kernel_rfl) Try.func3
    (ChangeSpec.witness6 (enc := enc) (C := Try.checked) false ⟨#[], #[.int .i64 0, .slice none 0 0], []⟩ 8 (by kernel_rfl) (by kernel_rfl) (by kernel_rfl) (by kernel_rfl)) ?_
  intro W base args ds gs before hval0 hW _ _
  have hval : ∀ (j : Nat) t v, Try.f3.params[j]? = some t → args[j]? = some v → Value.okWide Try.prog W .any base t v := hval0
  have hW' := hW
  obtain ⟨p, q, hA0, hV, rfl, hfz, hnd⟩ := hW
  have hA : DataW.TrodAll enc Try.prog W 0 (fun _ => true) true Try.f3.params.toList args.toList ds p := hA0
  rw [Try.params3] at hA hval
  obtain ⟨v0, vs0, d0, ds0, p0, q0, hargs, rfl, rfl, h0, r0⟩ := trodAll_cons hA
  obtain ⟨v1, vs1, d1, ds1, p1, q1, rfl, rfl, rfl, h1, r1⟩ := trodAll_cons r0
  obtain ⟨rfl, rfl, rfl⟩ := trodAll_nil r1
  obtain rfl : args = #[v0, v1] := by cases args; simp_all
  obtain ⟨rfl, rfl⟩ := trodVars_none hV
  obtain ⟨a0, rfl, rfl, rfl, w0⟩ := open_int Try.underlying3 (hval 0 3 v0 rfl rfl) h0
  obtain ⟨sa, sl, sk, rfl⟩ := okWide_slice Try.underlying22 (hval 1 22 v1 rfl rfl)
  have k1 := h1
  have lt1 : ∀ x ∈ p1, x.block < W.heap.size := by obtain ⟨m, hm⟩ := k1; exact DataW.trod_lt m _ _ _ hm
  obtain ⟨n1, hn1⟩ := h1
  obtain ⟨sc, hsc⟩ := ops_in _ _ _ hn1
  clear hA0 hval0
  refine (playsL_is (i64_of_wf w0) hsc).mono fun e W' ⟨he, bel⟩ => ?_
  subst he
  exact ⟨_, rfl, _, _, _, [], _, [], hW', trodAll_mk1 (shut_bool Try.underlying4 _), (trodAll_cons_mk (shut_int Try.underlying3 w0) (trodAll_cons_mk (Below.trod laid_out (by kernel_rfl) (of_decide_eq_true (by kernel_rfl)) k1 bel lt1) trodAll_mk0)), rfl, bel.frame _, fun h => by cases h⟩

theorem heapPlays_holds : Rows.HeapPlaysSaid :=
  OpenClaim.holds_of_wide 3 Try.f3 rfl rfl rfl rfl rfl rfl rfl ⟨rfl, rfl, rfl, rfl, rfl⟩ rfl rfl rfl rfl rfl (by kernel_rfl) Try.func3 (by kernel_rfl)
    (of_decide_eq_true (by kernel_rfl)) (by unfold Func.isWrapper; first | (rw [if_pos (by decide +kernel)]; kernel_rfl) | (rw [if_neg (by decide +kernel)]; exact ⟨rfl, rfl⟩))
    (fun os started H enc _ => plays_lifted os started H enc)

#print axioms heapPlays_holds
end Go.Proofs.Ytcogiklnegpfiaa
