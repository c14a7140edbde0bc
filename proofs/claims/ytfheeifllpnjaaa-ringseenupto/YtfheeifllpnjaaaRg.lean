/- Layer 12: the landed ring of ints: what it holds, copied out. -/
import Derived.Test.YtfheeifllpnjaaaRd
import Derived.Laws.CopyRow
namespace Go.Proofs.Ytfheeifllpnjaaa
open Go.RowKit

abbrev rh0 : Oper := { dst := some 12, op := Op.move (Operand.tmp 3), type := 29, pos := "ring.go:106", after := #[], guard := none }
abbrev rh1 : Oper := { dst := some 13, op := Op.move (Operand.tmp 0), type := 24, pos := "ring.go:106", after := #[], guard := none }
abbrev rh2 : Oper := { dst := some 14, op := Op.nilCheck (Operand.tmp 13), type := 0, pos := "ring.go:106", after := #[{ on := 1, ground := Ground.data }], guard := none }
abbrev rh3 : Oper := { dst := some 15, op := Op.fieldAddr 60 (Operand.tmp 14) 0, type := 0, pos := "ring.go:106", after := #[{ on := 2, ground := Ground.data }], guard := none }
abbrev rh4 : Oper := { dst := some 16, op := Op.load 29 (Operand.tmp 15), type := 29, pos := "ring.go:106", after := #[{ on := 3, ground := Ground.data }], guard := none }
abbrev rh5 : Oper := { dst := some 17, op := Op.move (Operand.tmp 0), type := 24, pos := "ring.go:106", after := #[], guard := none }
abbrev rh6 : Oper := { dst := some 18, op := Op.nilCheck (Operand.tmp 17), type := 0, pos := "ring.go:106", after := #[{ on := 5, ground := Ground.data }], guard := none }
abbrev rh7 : Oper := { dst := some 19, op := Op.fieldAddr 60 (Operand.tmp 18) 1, type := 0, pos := "ring.go:106", after := #[{ on := 6, ground := Ground.data }], guard := none }
abbrev rh8 : Oper := { dst := some 20, op := Op.load 3 (Operand.tmp 19), type := 3, pos := "ring.go:106", after := #[{ on := 7, ground := Ground.data }], guard := none }
abbrev rh9 : Oper := { dst := some 21, op := Op.slice 29 (Operand.tmp 16) (some (Operand.tmp 20)) none none, type := 29, pos := "ring.go:106", after := #[{ on := 4, ground := Ground.data }, { on := 8, ground := Ground.data }], guard := none }
abbrev rh10 : Oper := { dst := some 22, op := Op.call { callee := Callee.builtin Builtin.copy, args := #[Operand.tmp 12, Operand.tmp 21], argTypes := #[29, 29] }, type := 3, pos := "ring.go:106", after := #[{ on := 0, ground := Ground.data }, { on := 9, ground := Ground.data }], guard := none }
abbrev rh11 : Oper := { dst := some 4, op := Op.assign (Operand.tmp 22), type := 3, pos := "ring.go:106", after := #[{ on := 10, ground := Ground.data }, { on := 10, ground := Ground.chain }, { on := 0, ground := Ground.phase }, { on := 1, ground := Ground.phase }, { on := 2, ground := Ground.phase }, { on := 3, ground := Ground.phase }, { on := 4, ground := Ground.phase }, { on := 5, ground := Ground.phase }, { on := 6, ground := Ground.phase }, { on := 7, ground := Ground.phase }, { on := 8, ground := Ground.phase }, { on := 9, ground := Ground.phase }, { on := 10, ground := Ground.phase }], guard := none }
abbrev rj0 : Oper := { dst := some 23, op := Op.move (Operand.tmp 3), type := 29, pos := "ring.go:108", after := #[], guard := none }
abbrev rj1 : Oper := { dst := some 24, op := Op.move (Operand.tmp 4), type := 3, pos := "ring.go:108", after := #[], guard := none }
abbrev rj2 : Oper := { dst := some 25, op := Op.slice 29 (Operand.tmp 23) (some (Operand.tmp 24)) none none, type := 29, pos := "ring.go:108", after := #[{ on := 0, ground := Ground.data }, { on := 1, ground := Ground.data }], guard := none }
abbrev rj3 : Oper := { dst := some 26, op := Op.move (Operand.tmp 0), type := 24, pos := "ring.go:108", after := #[], guard := none }
abbrev rj4 : Oper := { dst := some 27, op := Op.nilCheck (Operand.tmp 26), type := 0, pos := "ring.go:108", after := #[{ on := 3, ground := Ground.data }], guard := none }
abbrev rj5 : Oper := { dst := some 28, op := Op.fieldAddr 60 (Operand.tmp 27) 0, type := 0, pos := "ring.go:108", after := #[{ on := 4, ground := Ground.data }], guard := none }
abbrev rj6 : Oper := { dst := some 29, op := Op.load 29 (Operand.tmp 28), type := 29, pos := "ring.go:108", after := #[{ on := 5, ground := Ground.data }], guard := none }
abbrev rj7 : Oper := { dst := some 30, op := Op.call { callee := Callee.builtin Builtin.copy, args := #[Operand.tmp 25, Operand.tmp 29], argTypes := #[29, 29] }, type := 3, pos := "ring.go:108", after := #[{ on := 2, ground := Ground.data }, { on := 6, ground := Ground.data }], guard := none }

theorem oneI (l : List Int) : ∀ v ∈ l.map vfI, v.oneCell' = true := by
  intro v hv
  obtain ⟨x, _, rfl⟩ := List.mem_map.1 hv
  rfl
theorem sizeI : (Try.prog.info? 3).map (·.size) = some 1 := by kernel_rfl
theorem ch_row {w : World} {g : Nat} (cs : Array Value) : Ch (fun y => y = g) w (w.setRow g cs) := ⟨rfl, rfl, rfl, by simp [World.setRow], fun b _ hn => setRow_other w g b cs hn⟩

theorem cut_isI (g n f : Nat) (hfn : f < n ∨ (f = 0 ∧ n = 0)) (W : World) : (Instr.slice 29 (.slice (some ⟨g, 0, none⟩) n n) (some (.int .i64 (f : Int))) none none).run Try.prog W = .ok (.slice (some ⟨g, f, none⟩) (n - f) (n - f)) W := by
  rcases hfn with h | ⟨rfl, rfl⟩
  · simp [Instr.slice, go_sem]
    rw [if_pos (by omega), if_neg (by omega)]
  · simp [Instr.slice, go_sem]

theorem cut_allI (g k : Nat) (W : World) : (Instr.slice 29 (.slice (some ⟨g, 0, none⟩) k k) (some (.int .i64 (k : Int))) none none).run Try.prog W = .ok (.slice (some ⟨g, 0, none⟩) 0 0) W := by
  simp [Instr.slice, go_sem]

section
variable {w : World} {B : Nat} {F : Nat → Prop} {p : Nat} {xs : List Int} {n g f : Nat} {pl : List Int}

theorem src_is (h : RgI w B F p xs n g f pl) (o : Nat) (cs : List Int) (hc : cs <+: pl.drop o) (j : Nat) (v : Value) (hv : (cs.map vfI)[j]? = some v) : w.cell? ((⟨g, o, none⟩ : Addr).add j) = some v := by
  rw [Addr.add_lit]
  rw [List.getElem?_map] at hv
  obtain ⟨x, hx, rfl⟩ := Option.map_eq_some_iff.1 hv
  refine h.cell ?_
  obtain ⟨t, ht⟩ := hc
  rw [← List.getElem?_drop, ← ht, List.getElem?_append_left (List.getElem?_eq_some_iff.1 hx).1]
  exact hx

set_option maxRecDepth 100000 in
set_option maxHeartbeats 4000000 in
theorem held_is (h : RgI w B F p xs n g f pl) : Calls Try.prog 28 #[.pointer (some ⟨p, 0, none⟩)] w fun e w' => e = .returned (.slice (some ⟨w.heap.size, 0, none⟩) xs.length xs.length) ∧ w'.heap[w.heap.size]? = some (.cells (xs.map vfI).toArray 3 (0, 0)) ∧ Below w.heap.size w w' := by
  obtain ⟨k, hk⟩ : ∃ k, xs.length = k := ⟨_, rfl⟩
  obtain ⟨c0, c1, c2⟩ := h.cells
  have hn1 := h.n1
  have hcnt := h.lies.cnt
  have hpl := h.lies.len
  have hfl := h.lies.f_le
  have hfn := h.lies.fst
  have hheld := h.lies.held
  rw [hk] at c2 hcnt hheld ⊢
  obtain ⟨w1, hmk, hrow, hb⟩ := makeI w k (by omega)
  obtain ⟨X1, hX1⟩ : ∃ X1, (pl.drop f).take k = X1 := ⟨_, rfl⟩
  obtain ⟨m, hm⟩ : ∃ m, X1.length = m := ⟨_, rfl⟩
  have hmm : m = min k (n - f) := by rw [← hm, ← hX1, List.length_take, List.length_drop, hpl]
  have HMM := hide hmm
  have hmk2 : m ≤ k := by omega
  have h1 := h.below hb
  have HR := hide hrow
  have HB := hide hb
  have H1 := hide h1
  have HM := hide hm
  have HX := hide hX1
  have HH := hide hheld
  have hnw : ¬ w.heap.size = p := fun e => by have := h.lt_p; omega
  have hgw : ¬ g = w.heap.size := fun e => by have := h.lt_g; omega
  clear hmm hrow hb h1 h hm hX1 hheld hk
  go_enter Try.func28, Try.ntmps28
  go_wp2_with fail
  clear c0 c1 c2 hmk
  refine wp_reg (fun y => y = w.heap.size) (R := fun W => RgI W B F p xs n g f pl ∧ Ch (fun _ => False) w1 W) (by kernel_rfl) ⟨H1.out.ch (Ch.drew _) (fun _ _ h => h), Ch.drew _⟩ ?_
  rintro V ⟨hv, hcv⟩ zk
  have HV := hide hv
  have HC := hide hcv
  have HRV := hide (hcv.box HR.out (fun h => h))
  have HG := hide (fun wq (zq : Ch (fun y => y = w.heap.size) V wq) => have e := Lib.cell_of_heap (zq.box HV.out.box (fun e => hnw e.symm)); show wq.cell? ⟨p, 0, none⟩ = some (.slice (some ⟨g, 0, none⟩) n n) ∧ wq.cell? ⟨p, 1, none⟩ = some (.int .i64 (f : Int)) from ⟨by simp [e], by simp [e]⟩)
  clear hv hcv
  apply tk 0 rh0 rfl (by kernel_rfl) (fun _ _ _ h => h) zk
  · intro wq zq
    go_simp
    try rfl
  go_frame
  apply tk 1 rh1 rfl (by kernel_rfl) (fun _ _ _ h => h) zk
  · intro wq zq
    go_simp
    try rfl
  go_frame
  apply tk 2 rh2 rfl (by kernel_rfl) (fun _ _ _ h => h) zk
  · intro wq zq
    go_simp
    try rfl
  go_frame
  apply tk 3 rh3 rfl (by kernel_rfl) (fun _ _ _ h => h) zk
  · intro wq zq
    go_simp
    try rfl
  go_frame
  apply tk 4 rh4 rfl (by kernel_rfl) (fun _ _ _ h => h) zk
  · intro wq zq
    obtain ⟨s1, s2⟩ := HG.out _ zq
    go_simp
    try rfl
  go_frame
  apply tk 5 rh5 rfl (by kernel_rfl) (fun _ _ _ h => h) zk
  · intro wq zq
    go_simp
    try rfl
  go_frame
  apply tk 6 rh6 rfl (by kernel_rfl) (fun _ _ _ h => h) zk
  · intro wq zq
    go_simp
    try rfl
  go_frame
  apply tk 7 rh7 rfl (by kernel_rfl) (fun _ _ _ h => h) zk
  · intro wq zq
    go_simp
    try rfl
  go_frame
  apply tk 8 rh8 rfl (by kernel_rfl) (fun _ _ _ h => h) zk
  · intro wq zq
    obtain ⟨s1, s2⟩ := HG.out _ zq
    go_simp
    try rfl
  go_frame
  apply tk 9 rh9 rfl (by kernel_rfl) (fun _ _ _ h => h) zk
  · intro wq zq
    have hcut := cut_isI g n f hfn wq
    go_simp
    try rfl
  go_frame
  have hcp := run_copy_row (P := Try.prog) V 29 29 3 3 w.heap.size 0 k k ⟨g, f, none⟩ (n - f) (n - f) _ _ (X1.map vfI) Try.underlying29 sizeI HRV.out (by rw [List.length_map, HM.out, HMM.out]; exact Nat.min_comm _ _) (src_is HV.out f X1 (by rw [← HX.out]; exact List.take_prefix _ _)) (by simp [HM.out]; omega) (oneI X1)
  rw [List.length_map, HM.out] at hcp
  refine Go.Proofs.Ytfheeifllpnjaaa.rd 10 rh10 rfl (by kernel_rfl) fun K hK => ?_
  go_simp
  refine genK (R := fun W => W.heap[w.heap.size]? = some (.cells (X1.map vfI ++ List.replicate (k - m) (vfI 0)).toArray 3 (0, 0)) ∧ Ch (fun y => y = w.heap.size) V W) ⟨setRow_heap _ _ _ _ _ _ HRV.out, ch_row _⟩ ?_
  rintro W2 ⟨hr2, hc2⟩
  clear zk
  refine hK.out _ _ ?_ (fun zk => ?_)
  · exact hc2
  clear hK K
  try go_frame
  apply tk 11 rh11 rfl (by kernel_rfl) (fun _ _ _ h => h) zk
  · intro wq zq
    go_simp
    try rfl
  go_frame
  refine wpAnyH_done (by kernel_rfl) ?_ _
  have HC2 := hide ((HC.out.mono (Q' := fun y => y = w.heap.size) (fun _ _ h => h.elim)).trans hc2 (fun _ _ h => h))
  have HR2 := hide hr2
  have H2 := hide (HV.out.ch hc2 (fun x hx e => by subst e; exact absurd ((HV.out.foot _).1 hx) (fun h => h.elim (fun e => hnw e) (fun e => hgw e.symm))))
  clear hr2 hc2 hcp HRV HG HV HC
  by_cases hmk : m = k
  · subst hmk
    go_wp2_with fail
    refine wp_reg (fun y => y = w.heap.size) (R := fun W => RgI W B F p xs n g f pl ∧ Ch (fun _ => False) W2 W) (by kernel_rfl) ⟨H2.out.ch (Ch.drew _) (fun _ _ h => h), Ch.drew _⟩ ?_
    rintro V2 ⟨hv, hcv⟩ zk
    have HV := hide hv
    have HC := hide hcv
    have HRV := hide (hcv.box HR2.out (fun h => h))
    have HG := hide (fun wq (zq : Ch (fun y => y = w.heap.size) V2 wq) => have e := Lib.cell_of_heap (zq.box HV.out.box (fun e => hnw e.symm)); show wq.cell? ⟨p, 0, none⟩ = some (.slice (some ⟨g, 0, none⟩) n n) by simp [e])
    clear hv hcv
    apply tk 0 rj0 rfl (by kernel_rfl) (fun _ _ _ h => h) zk
    · intro wq zq
      go_simp
      try rfl
    go_frame
    apply tk 1 rj1 rfl (by kernel_rfl) (fun _ _ _ h => h) zk
    · intro wq zq
      go_simp
      try rfl
    go_frame
    apply tk 2 rj2 rfl (by kernel_rfl) (fun _ _ _ h => h) zk
    · intro wq zq
      have hcut := cut_allI w.heap.size m wq
      go_simp
      try rfl
    go_frame
    apply tk 3 rj3 rfl (by kernel_rfl) (fun _ _ _ h => h) zk
    · intro wq zq
      go_simp
      try rfl
    go_frame
    apply tk 4 rj4 rfl (by kernel_rfl) (fun _ _ _ h => h) zk
    · intro wq zq
      go_simp
      try rfl
    go_frame
    apply tk 5 rj5 rfl (by kernel_rfl) (fun _ _ _ h => h) zk
    · intro wq zq
      go_simp
      try rfl
    go_frame
    apply tk 6 rj6 rfl (by kernel_rfl) (fun _ _ _ h => h) zk
    · intro wq zq
      have s1 := HG.out _ zq
      go_simp
      try rfl
    go_frame
    have hcp := run_copy_row (P := Try.prog) V2 29 29 3 3 w.heap.size 0 0 0 ⟨g, 0, none⟩ n n _ _ [] Try.underlying29 sizeI HRV.out (Nat.min_zero n).symm (fun j v hv => by cases hv) (Nat.zero_le _) (fun v hv => by cases hv)
    refine Go.Proofs.Ytfheeifllpnjaaa.rd 7 rj7 rfl (by kernel_rfl) fun K hK => ?_
    go_simp
    have ex : X1 = xs := by
      have e := HH.out
      rw [HX.out, show m - (n - f) = 0 by have := HMM.out; omega, List.take_zero, List.append_nil] at e
      exact e
    refine genK (R := fun W => W.heap[w.heap.size]? = some (.cells (xs.map vfI).toArray 3 (0, 0)) ∧ Ch (fun y => y = w.heap.size) V2 W) ⟨by rw [ex]; exact setRow_heap _ _ _ _ _ _ HRV.out, ch_row _⟩ ?_
    rintro W3 ⟨hr3, hc3⟩
    clear zk
    refine hK.out _ _ ?_ (fun zk => ?_)
    · exact hc3
    clear hK K
    try go_frame
    refine wpAnyH_done (by kernel_rfl) ?_ _
    have HE := hide (HC2.out.trans ((HC.out.mono (Q' := fun y => y = w.heap.size) (fun _ _ h => h.elim)).trans hc3 (fun _ _ h => h)) (fun _ _ h => h))
    have HR3 := hide hr3
    clear hr3 hc3 hcp
    go_wp2_with fail
    go_ret
    exact ⟨rfl, HR3.out, HB.out.trans (HE.out.below HB.out.size (fun b hb e => by omega))⟩
  · have hlt : m < k := by omega
    clear hmk
    go_wp2_with fail
    refine wp_reg (fun y => y = w.heap.size) (R := fun W => RgI W B F p xs n g f pl ∧ Ch (fun _ => False) W2 W) (by kernel_rfl) ⟨H2.out.ch (Ch.drew _) (fun _ _ h => h), Ch.drew _⟩ ?_
    rintro V2 ⟨hv, hcv⟩ zk
    have HV := hide hv
    have HC := hide hcv
    have HRV := hide (hcv.box HR2.out (fun h => h))
    have HG := hide (fun wq (zq : Ch (fun y => y = w.heap.size) V2 wq) => have e := Lib.cell_of_heap (zq.box HV.out.box (fun e => hnw e.symm)); show wq.cell? ⟨p, 0, none⟩ = some (.slice (some ⟨g, 0, none⟩) n n) by simp [e])
    clear hv hcv
    apply tk 0 rj0 rfl (by kernel_rfl) (fun _ _ _ h => h) zk
    · intro wq zq
      go_simp
      try rfl
    go_frame
    apply tk 1 rj1 rfl (by kernel_rfl) (fun _ _ _ h => h) zk
    · intro wq zq
      go_simp
      try rfl
    go_frame
    apply tk 2 rj2 rfl (by kernel_rfl) (fun _ _ _ h => h) zk
    · intro wq zq
      have hcut := cut_isI w.heap.size k m (Or.inl hlt) wq
      go_simp
      try rfl
    go_frame
    apply tk 3 rj3 rfl (by kernel_rfl) (fun _ _ _ h => h) zk
    · intro wq zq
      go_simp
      try rfl
    go_frame
    apply tk 4 rj4 rfl (by kernel_rfl) (fun _ _ _ h => h) zk
    · intro wq zq
      go_simp
      try rfl
    go_frame
    apply tk 5 rj5 rfl (by kernel_rfl) (fun _ _ _ h => h) zk
    · intro wq zq
      go_simp
      try rfl
    go_frame
    apply tk 6 rj6 rfl (by kernel_rfl) (fun _ _ _ h => h) zk
    · intro wq zq
      have s1 := HG.out _ zq
      go_simp
      try rfl
    go_frame
    have hcp := run_copy_row (P := Try.prog) V2 29 29 3 3 w.heap.size m (k - m) (k - m) ⟨g, 0, none⟩ n n _ _ ((pl.take (k - m)).map vfI) Try.underlying29 sizeI HRV.out (by rw [List.length_map, List.length_take, hpl]; exact Nat.min_comm _ _) (src_is HV.out 0 _ (by rw [List.drop_zero]; exact List.take_prefix _ _)) (by simp [HM.out, hpl]; omega) (oneI _)
    refine Go.Proofs.Ytfheeifllpnjaaa.rd 7 rj7 rfl (by kernel_rfl) fun K hK => ?_
    go_simp
    have ex : List.take m (List.map vfI X1 ++ List.replicate (k - m) (vfI 0)) ++ (List.take (k - m) (List.map vfI pl) ++ List.drop (m + min (k - m) n) (List.map vfI X1 ++ List.replicate (k - m) (vfI 0))) = xs.map vfI := by
      have e := HH.out
      have em := HMM.out
      have el : (List.map vfI X1).length = m := by rw [List.length_map, HM.out]
      rw [HX.out, show k - (n - f) = k - m by omega] at e
      rw [List.take_append_of_le_length (by omega), List.take_of_length_le (by omega), List.drop_of_length_le (by rw [List.length_append, el, List.length_replicate]; omega), List.append_nil, ← List.map_take, ← List.map_append, e]
    refine genK (R := fun W => W.heap[w.heap.size]? = some (.cells (xs.map vfI).toArray 3 (0, 0)) ∧ Ch (fun y => y = w.heap.size) V2 W) ⟨by rw [ex]; exact setRow_heap _ _ _ _ _ _ HRV.out, ch_row _⟩ ?_
    rintro W3 ⟨hr3, hc3⟩
    clear zk
    refine hK.out _ _ ?_ (fun zk => ?_)
    · exact hc3
    clear hK K
    try go_frame
    refine wpAnyH_done (by kernel_rfl) ?_ _
    have HE := hide (HC2.out.trans ((HC.out.mono (Q' := fun y => y = w.heap.size) (fun _ _ h => h.elim)).trans hc3 (fun _ _ h => h)) (fun _ _ h => h))
    have HR3 := hide hr3
    clear hr3 hc3 hcp
    go_wp2_with fail
    go_ret
    exact ⟨rfl, HR3.out, HB.out.trans (HE.out.below HB.out.size (fun b hb e => by omega))⟩

end
end Go.Proofs.Ytfheeifllpnjaaa
