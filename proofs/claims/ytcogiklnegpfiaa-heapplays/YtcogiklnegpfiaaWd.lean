/- Layer 13: the law's roots. -/
import Derived.Test.YtcogiklnegpfiaaWc
namespace Go.Proofs.Ytcogiklnegpfiaa
open Go.RowKit Go.Shelf

abbrev ro0 : Oper := { dst := some 18, op := Op.move (Operand.tmp 5), type := 34, pos := "law.go:137", after := #[], guard := none }
abbrev ro1 : Oper := { dst := some 19, op := Op.move (Operand.tmp 0), type := 28, pos := "law.go:137", after := #[], guard := none }
abbrev ro2 : Oper := { dst := some 20, op := Op.fieldAddr 45 (Operand.tmp 3) 4, type := 0, pos := "law.go:137", after := #[], guard := none }
abbrev ro3 : Oper := { dst := some 21, op := Op.load 40 (Operand.tmp 20), type := 40, pos := "law.go:137", after := #[{ on := 2, ground := Ground.data }], guard := none }
abbrev ro4 : Oper := { dst := some 22, op := Op.move (Operand.tmp 6), type := 3, pos := "law.go:137", after := #[], guard := none }
abbrev ro5 : Oper := { dst := some 23, op := Op.indexAddr 40 (Operand.tmp 21) (Operand.tmp 22), type := 0, pos := "law.go:137", after := #[{ on := 3, ground := Ground.data }, { on := 4, ground := Ground.data }], guard := none }
abbrev ro6 : Oper := { dst := some 24, op := Op.load 3 (Operand.tmp 23), type := 3, pos := "law.go:137", after := #[{ on := 5, ground := Ground.data }], guard := none }
abbrev ro7 : Oper := { dst := some 25, op := Op.load 45 (Operand.tmp 3), type := 45, pos := "law.go:137", after := #[], guard := none }
abbrev ro8 : Oper := { dst := some 26, op := Op.call { callee := Callee.value (Operand.func 14), args := #[Operand.tmp 19, Operand.tmp 24, Operand.tmp 25], argTypes := #[28, 3, 45] }, type := 43, pos := "law.go:137", after := #[{ on := 1, ground := Ground.data }, { on := 6, ground := Ground.data }, { on := 7, ground := Ground.data }], guard := none }
abbrev ro9 : Oper := { dst := some 27, op := Op.buildSlice 34 1 #[(0, Operand.tmp 26)], type := 34, pos := "law.go:137", after := #[{ on := 8, ground := Ground.data }], guard := none }
abbrev ro10 : Oper := { dst := some 28, op := Op.call { callee := Callee.builtin Builtin.append, args := #[Operand.tmp 18, Operand.tmp 27], argTypes := #[34, 34] }, type := 34, pos := "law.go:137", after := #[{ on := 0, ground := Ground.data }, { on := 9, ground := Ground.data }, { on := 8, ground := Ground.chain }], guard := none }
abbrev ro11 : Oper := { dst := some 5, op := Op.assign (Operand.tmp 28), type := 34, pos := "law.go:137", after := #[{ on := 10, ground := Ground.data }, { on := 10, ground := Ground.chain }, { on := 0, ground := Ground.phase }, { on := 1, ground := Ground.phase }, { on := 2, ground := Ground.phase }, { on := 3, ground := Ground.phase }, { on := 4, ground := Ground.phase }, { on := 5, ground := Ground.phase }, { on := 6, ground := Ground.phase }, { on := 7, ground := Ground.phase }, { on := 8, ground := Ground.phase }, { on := 9, ground := Ground.phase }, { on := 10, ground := Ground.phase }], guard := none }

/-- an op's roots, as they came in, below N -/
def RtsAt (N : Nat) (w : World) (o : Oq) (rs : List Int) : Prop := o.rn = rs.length ∧ rs.length ≤ 9223372036854775807 ∧ (0 < rs.length → ∃ b f, o.ra = some ⟨b, f, none⟩ ∧ b < N ∧ ∀ i (hi : i < rs.length), w.cell? ⟨b, f + i, none⟩ = some (.int .i64 rs[i])) ∧ ∀ z ∈ rs, I64 z
/-- the handles that they speak of -/
def rsH (hs : List Hd) (o : Oq) (rs : List Int) : List Hd := (rs.take 400).map fun c => hdlW hs c o

set_option maxRecDepth 100000 in
set_option maxHeartbeats 8000000 in
theorem roots_is {w : World} {bw N M0 : Nat} {cs : Array Value} {vT : Value} {hs : List Hd} (hJ : w.heap[bw]? = some (.cells cs 37 (0, 0))) (h3 : cs[3]? = some vT) (h : Row hF 2 43 w N vT hs) (hl : hs.length ≤ 100000) (o : Oq) (rs : List Int) (hr : RtsAt M0 w o rs) (hM0 : M0 ≤ w.heap.size) :
    Calls Try.prog 30 #[.pointer (some ⟨bw, 0, none⟩), opV o] w fun e w' => ∃ gb cap, e = .returned (.slice (some ⟨gb, 0, none⟩) (rsH hs o rs).length cap) ∧ Row hF 2 43 w' w.heap.size (.slice (some ⟨gb, 0, none⟩) ((rsH hs o rs).length + 1) cap) (rsH hs o rs ++ [(5, 5)]) ∧ Below w.heap.size w w' := by
  obtain ⟨i0, hi0, hy0, hy1, hy2⟩ := nf_open info_hd
  obtain ⟨w1, hw1⟩ : ∃ w1, w.alloc (.cells #[.int .i64 o.k, .int .i64 o.a, .int .i64 o.b, .int .i64 o.kd, .slice o.ra o.rn o.rc, .bool o.hd, .int .u32 o.s, .int .u32 o.g] 45) = w1 := ⟨_, rfl⟩
  have hB1 : Below w.heap.size w w1 := by rw [← hw1]; exact below1 _ _
  have hn : w1.heap[w.heap.size]? = some (.cells #[.int .i64 o.k, .int .i64 o.a, .int .i64 o.b, .int .i64 o.kd, .slice o.ra o.rn o.rc, .bool o.hd, .int .u32 o.s, .int .u32 o.g] 45 (0, 0)) := by rw [← hw1]; exact heap_new _ _
  obtain ⟨hrn, hrl, hra, hri⟩ := hr
  have HB1 := hide hB1
  have c1 := Ch.of_below (Q := fun _ => False) hB1
  have HCELL := hide (fun wq (bq : Below w1.heap.size w1 wq) => show wq.cell? ⟨w.heap.size, 4, none⟩ = some (.slice o.ra o.rn o.rc) ∧ (wq.cell? ⟨w.heap.size, 0, none⟩ = some (.int .i64 o.k) ∧ wq.cell? ⟨w.heap.size, 1, none⟩ = some (.int .i64 o.a) ∧ wq.cell? ⟨w.heap.size, 2, none⟩ = some (.int .i64 o.b) ∧ wq.cell? ⟨w.heap.size, 3, none⟩ = some (.int .i64 o.kd) ∧ wq.cell? ⟨w.heap.size, 4, none⟩ = some (.slice o.ra o.rn o.rc) ∧ wq.cell? ⟨w.heap.size, 5, none⟩ = some (.bool o.hd) ∧ wq.cell? ⟨w.heap.size, 6, none⟩ = some (.int .u32 o.s) ∧ wq.cell? ⟨w.heap.size, 7, none⟩ = some (.int .u32 o.g)) from by
    have e := Lib.cell_of_heap ((Ch.of_below (Q := fun _ => False) bq).box hn (fun h => h))
    refine ⟨by simp [e], by simp [e], by simp [e], by simp [e], by simp [e], by simp [e], by simp [e], by simp [e], by simp [e]⟩)
  have HHDL := hide (fun V (bV : Below w1.heap.size w1 V) c (hc : I64 c) => handle_is ((Ch.of_below (Q := fun _ => False) bV).box (c1.box hJ (fun h => h)) (fun h => h)) h3 ((h.ch c1 (fun _ _ h => h)).ch (Ch.of_below (Q := fun _ => False) bV) (fun _ _ h => h)) hl hc o)
  have HRA := hide (fun k (hk : k < rs.length) wq (bq : Below w1.heap.size w1 wq) => show ∃ b f, o.ra = some ⟨b, f, none⟩ ∧ wq.cell? ⟨b, f + k, none⟩ = some (.int .i64 rs[k]) from by
    obtain ⟨b, f, e, hb, hc⟩ := hra (by omega)
    have h1 := (c1.cell (Nat.lt_of_lt_of_le hb hM0) (fun h => h) (f + k)).trans (hc k hk)
    exact ⟨b, f, e, ((Ch.of_below (Q := fun _ => False) bq).cell (Nat.lt_of_lt_of_le (Nat.lt_of_lt_of_le hb hM0) hB1.size) (fun h => h) (f + k)).trans h1⟩)
  have HRI := hide hri
  clear hJ h3 h hl hra hri hB1 hn c1 hM0
  rw [hrn] at HCELL hw1
  show Calls Try.prog 30 #[.pointer (some ⟨bw, 0, none⟩), .agg #[.int .i64 o.k, .int .i64 o.a, .int .i64 o.b, .int .i64 o.kd, .slice o.ra o.rn o.rc, .bool o.hd, .int .u32 o.s, .int .u32 o.g]] w _
  rw [hrn]
  have HRN := hide hrn
  clear hrn
  go_enter Try.func30, Try.ntmps30
  go_wp2
  clear hw1
  go_loopw [5, 6] (fun fv iv wr => ∃ k : Nat, k ≤ rs.length ∧ k ≤ 400 ∧ iv = .int .i64 (k : Int) ∧ Hid (Row hF 2 43 wr w1.heap.size fv ((rs.take k).map fun c => hdlW hs c o)) ∧ Hid (Below w1.heap.size w1 wr)) (fun _ iv _ => rs.length - (intOf iv).toNat)
  case atStart => exact ⟨0, Nat.zero_le _, Nat.zero_le _, rfl, hide (Row.nil _ _), hide (Below.refl _ _)⟩
  case round =>
    obtain ⟨k, hk, hk4, rfl, HF, HB⟩ := hrel
    have t4 := (HCELL.out wr HB.out).1
    by_cases hlt : k < rs.length
    · have q1 : decide ((k : Int) < (rs.length : Int)) = true := decide_eq_true (by omega)
      by_cases h4 : k < 400
      · have q2 : decide ((k : Int) < 400) = true := decide_eq_true (by omega)
        obtain ⟨br, fr, hora, -⟩ := HRA.out k hlt wr HB.out
        have HCZ := hide (fun wq (bq : Below w1.heap.size w1 wq) => show wq.cell? ⟨br, fr + k, none⟩ = some (.int .i64 rs[k]) from by
          obtain ⟨b, f, e, h⟩ := HRA.out k hlt wq bq
          rw [hora] at e
          cases e
          exact h)
        have hz := HRI.out rs[k] (List.getElem_mem hlt)
        have HN := hide (show (rs.take (k + 1)).map (fun c => hdlW hs c o) = (rs.take k).map (fun c => hdlW hs c o) ++ [hdlW hs rs[k] o] by rw [List.take_succ_eq_append_getElem hlt, List.map_append]; rfl)
        have hln : ((rs.take k).map fun c => hdlW hs c o).length ≤ 400 := by rw [List.length_map, List.length_take]; omega
        generalize rs[k] = z at hz HCZ HN
        obtain ⟨hz1, hhz⟩ : ∃ x, hdlW hs z o = x := ⟨_, rfl⟩
        rw [hhz] at HN
        have HM1 := hide (show ((rs.take k).map fun c => hdlW hs c o).length + 1 ≤ maxLen by unfold maxLen; omega)
        have HM2 := hide (show (((rs.take k).map fun c => hdlW hs c o).length + 1) * 8 ≤ 140737488355328 by omega)
        have HORA := hide hora
        rw [hora] at t4
        replace HCELL := HCELL
        rw [hora] at HCELL
        clear hln hora
        go_wp2
        clear t4
        refine wp_reg (fun y => u5.ownBlock = some y) (R := fun V => Ch (fun _ => False) wr V) (by kernel_rfl) (Ch.drew _) (fun V cV zk => ?_)
        have BV := hide (HB.out.trans ((cV.below (Nat.le_refl _) (fun _ _ h => h)).mono HB.out.size))
        have RV := hide (HF.out.ch cV (fun _ _ h => h))
        clear cV
        have HHD := hide (HHDL.out V BV.out z hz)
        rw [hhz, show opV o = .agg #[.int .i64 o.k, .int .i64 o.a, .int .i64 o.b, .int .i64 o.kd, .slice o.ra o.rn o.rc, .bool o.hd, .int .u32 o.s, .int .u32 o.g] from rfl, HRN.out, HORA.out] at HHD
        have HC := hide (fun wq (kq : Ch (fun y => u5.ownBlock = some y) V wq) => HCELL.out wq (BV.out.trans (kq.below BV.out.size (fun x hx e => by have := (own_in RV.out e).1; omega))))
        apply tk 0 ro0 rfl (by kernel_rfl) (fun _ _ _ h => h) zk
        · intro wq zq
          go_simp
          try rfl
        go_frame
        apply tk 1 ro1 rfl (by kernel_rfl) (fun _ _ _ h => h) zk
        · intro wq zq
          go_simp
          try rfl
        go_frame
        apply tk 2 ro2 rfl (by kernel_rfl) (fun _ _ _ h => h) zk
        · intro wq zq
          go_simp
          try rfl
        go_frame
        apply tk 3 ro3 rfl (by kernel_rfl) (fun _ _ _ h => h) zk
        · intro wq zq
          have s0 := (HC.out _ zq).1
          go_simp
          try rfl
        go_frame
        apply tk 4 ro4 rfl (by kernel_rfl) (fun _ _ _ h => h) zk
        · intro wq zq
          go_simp
          try rfl
        go_frame
        apply tk 5 ro5 rfl (by kernel_rfl) (fun _ _ _ h => h) zk
        · intro wq zq
          go_simp
          try rfl
        go_frame
        apply tk 6 ro6 rfl (by kernel_rfl) (fun _ _ _ h => h) zk
        · intro wq zq
          have s0 := HCZ.out _ (BV.out.trans (zq.below BV.out.size (fun x hx e => by have := (own_in RV.out e).1; omega)))
          go_simp
          try rfl
        go_frame
        apply tk 7 ro7 rfl (by kernel_rfl) (fun _ _ _ h => h) zk
        · intro wq zq
          obtain ⟨s0, s1, s2, s3, s4, s5, s6, s7⟩ := (HC.out _ zq).2
          go_simp
          try rfl
        go_frame
        refine rd 8 ro8 rfl (by kernel_rfl) fun K hK => ?_
        go_simp
        refine (HHD.out).mono ?_
        rintro e w5 ⟨rfl, hb5⟩
        have B5 := hide (BV.out.trans (hb5.mono BV.out.size))
        have R5 := hide (RV.out.ch (Ch.of_below (Q := fun _ => False) hb5) (fun _ _ h => h))
        have Z5 := hide (zk.trans (Ch.of_below (Q := fun y => u5.ownBlock = some y) hb5) (fun _ _ h => h))
        clear hb5
        go_wp2_with fail
        refine hK.out _ _ ?_ (fun zk => ?_)
        · exact Z5.out
        clear hK K
        try go_frame
        refine rd 9 ro9 rfl (by kernel_rfl) fun K hK => ?_
        go_simp
        refine hK.out _ _ ?_ (fun zk => ?_)
        · exact zk.trans (Ch.alloc (Q := fun y => u5.ownBlock = some y) _ _) (fun _ _ h => h)
        clear hK K
        try go_frame
        have HN5 := hide (row_new w5 (hF hz1) 43 rfl)
        have HM5 := hide (show w1.heap.size ≤ (w5.alloc (.cells (hF hz1).toArray 43)).heap.size by rw [World.size_alloc]; have := B5.out.size; omega)
        refine rd 10 ro10 rfl (by kernel_rfl) fun K hK => ?_
        refine step_append_at rfl (.tmp 18) (.tmp 27) 34 rfl w1.heap.size 43 i0 (.agg #[.int .u32 0, .int .u32 0]) 2 8 Try.underlying34 hi0 hy0 hy1 hy2 rfl (by decide) u5 ((rs.take k).map fun c => hdlW hs c o).length (((rs.take k).map fun c => hdlW hs c o).flatMap hF) rfl (World.ownsRow.alloc (show w5.ownsRow w1.heap.size 43 2 u5 ((rs.take k).map fun c => hdlW hs c o).length (((rs.take k).map fun c => hdlW hs c o).flatMap hF) from R5.out) (.cells (hF hz1).toArray 43)) ⟨w5.heap.size, 0, none⟩ 1 1 (hF hz1) rfl rfl HN5.out (hF_one _) HM1.out HM2.out HM5.out ?_
        intro v6 w6 hr6 hg6 ho6
        have R6 := hide (show Row hF 2 43 w6 w1.heap.size v6 (((rs.take k).map fun c => hdlW hs c o) ++ [hz1]) from Row.snoc hr6)
        have c6 := (Ch.alloc (Q := fun y => u5.ownBlock = some y) w5 (.cells (hF hz1).toArray 43)).trans (Ch.of_grown (Q := fun y => u5.ownBlock = some y) hg6 (fun _ e => e)) (fun _ _ h => h)
        have B6 := hide (B5.out.trans (c6.below B5.out.size (fun x hx e => by have := (own_in R5.out e).1; omega)))
        have Z6 := hide (Z5.out.trans c6 (fun _ _ h => h))
        clear hr6 hg6 ho6 c6
        refine hK.out _ _ ?_ (fun zk => ?_)
        · exact Z6.out
        clear hK K
        try go_frame
        apply tk 11 ro11 rfl (by kernel_rfl) (fun _ _ _ h => h) zk
        · intro wq zq
          go_simp
          try rfl
        go_frame
        refine wpAnyH_done (by kernel_rfl) ?_ _
        go_wp2
        go_roundw
        case rel => exact ⟨k + 1, by omega, by omega, by go_num, hide (by rw [HN.out]; exact R6.out), B6⟩
        case measure => simp [intOf]; omega
      · have q2 : decide ((k : Int) < 400) = false := decide_eq_false (by omega)
        have HE := hide (show (rs.take k).map (fun c => hdlW hs c o) = rsH hs o rs by unfold rsH; rw [show k = 400 by omega])
        rw [HE.out] at HF
        have hln : (rsH hs o rs).length ≤ 400 := by unfold rsH; rw [List.length_map, List.length_take]; omega
        have hl9 : (rsH hs o rs).length ≤ 9223372036854775807 := by omega
        obtain ⟨R, hRe⟩ : ∃ R, rsH hs o rs = R := ⟨_, rfl⟩
        rw [hRe] at HF hln hl9
        have HRE := hide hRe
        clear hRe
        obtain ⟨fa, fc, rfl, hfc, hfm⟩ := HF.out.form
        have HOW := hide (World.ownsRow.alloc (show wr.ownsRow w1.heap.size 43 2 (.slice fa R.length fc) R.length (R.flatMap hF) from HF.out) (.cells #[.int .u32 5, .int .u32 5] 43))
        have HN1 := hide (row_new wr (hF (5, 5)) 43 rfl)
        have HM1 := hide (show R.length + 1 ≤ maxLen by unfold maxLen; omega)
        have HM2 := hide (show (R.length + 1) * 8 ≤ 140737488355328 by omega)
        have HM3 := hide (show w1.heap.size ≤ (wr.alloc (.cells #[.int .u32 5, .int .u32 5] 43)).heap.size by rw [World.size_alloc]; have := HB.out.size; omega)
        have HON := hide (hF_one (5, 5))
        have HLN := hide hln
        clear hln hfc hfm
        go_wp2_with (at_builtin; refine wpList_append_own_at _ rfl _ _ 34 rfl w1.heap.size 43 i0 (.agg #[.int .u32 0, .int .u32 0]) 2 8 Try.underlying34 hi0 hy0 hy1 hy2 rfl (by decide) _ R.length (R.flatMap hF) rfl HOW.out ⟨wr.heap.size, 0, none⟩ 1 1 (hF (5, 5)) rfl rfl HN1.out HON.out HM1.out HM2.out HM3.out ?_)
        intro v' w6 hown' hgrow _ hat
        have hR6 : Row hF 2 43 w6 w1.heap.size v' (R ++ [(5, 5)]) := Row.snoc hown'
        have c6 := (Ch.alloc (Q := fun y => (Value.slice fa R.length fc).ownBlock = some y) wr (.cells #[.int .u32 5, .int .u32 5] 43)).trans (Ch.of_grown (Q := fun y => (Value.slice fa R.length fc).ownBlock = some y) hgrow (fun _ e => e)) (fun _ _ h => h)
        have B6 := hide (HB1.out.trans ((HB.out.trans (c6.below HB.out.size (fun x hx e => by have := (own_in HF.out e).1; omega))).mono HB1.out.size))
        obtain ⟨gb, gc, cur, rfl, hgc, -, -, -, -, -⟩ := hR6.at hF_len (by simp)
        rw [List.length_append, List.length_singleton] at hR6
        have R6 := hide (own_low hR6 HB1.out.size)
        have hgc2 : R.length + 1 ≤ gc := by simpa using hgc
        have qs : decide ((R.length : Int) ≤ (gc : Int)) = true := decide_eq_true (by omega)
        have HGC := hide hgc2
        clear hown' hgrow hat hR6 c6 hgc
        go_wp2
        go_ret
        rw [HRE.out]
        exact ⟨gb, gc, rfl, R6.out, B6.out⟩
    · have q1 : decide ((k : Int) < (rs.length : Int)) = false := decide_eq_false (by omega)
      have HE := hide (show (rs.take k).map (fun c => hdlW hs c o) = rsH hs o rs by unfold rsH; rw [List.take_of_length_le (by omega : rs.length ≤ k), List.take_of_length_le (by omega : rs.length ≤ 400)])
      rw [HE.out] at HF
      have hln : (rsH hs o rs).length ≤ 400 := by unfold rsH; rw [List.length_map, List.length_take]; omega
      have hl9 : (rsH hs o rs).length ≤ 9223372036854775807 := by omega
      obtain ⟨R, hRe⟩ : ∃ R, rsH hs o rs = R := ⟨_, rfl⟩
      rw [hRe] at HF hln hl9
      have HRE := hide hRe
      clear hRe
      obtain ⟨fa, fc, rfl, hfc, hfm⟩ := HF.out.form
      have HOW := hide (World.ownsRow.alloc (show wr.ownsRow w1.heap.size 43 2 (.slice fa R.length fc) R.length (R.flatMap hF) from HF.out) (.cells #[.int .u32 5, .int .u32 5] 43))
      have HN1 := hide (row_new wr (hF (5, 5)) 43 rfl)
      have HM1 := hide (show R.length + 1 ≤ maxLen by unfold maxLen; omega)
      have HM2 := hide (show (R.length + 1) * 8 ≤ 140737488355328 by omega)
      have HM3 := hide (show w1.heap.size ≤ (wr.alloc (.cells #[.int .u32 5, .int .u32 5] 43)).heap.size by rw [World.size_alloc]; have := HB.out.size; omega)
      have HON := hide (hF_one (5, 5))
      have HLN := hide hln
      clear hln hfc hfm
      go_wp2_with (at_builtin; refine wpList_append_own_at _ rfl _ _ 34 rfl w1.heap.size 43 i0 (.agg #[.int .u32 0, .int .u32 0]) 2 8 Try.underlying34 hi0 hy0 hy1 hy2 rfl (by decide) _ R.length (R.flatMap hF) rfl HOW.out ⟨wr.heap.size, 0, none⟩ 1 1 (hF (5, 5)) rfl rfl HN1.out HON.out HM1.out HM2.out HM3.out ?_)
      intro v' w6 hown' hgrow _ hat
      have hR6 : Row hF 2 43 w6 w1.heap.size v' (R ++ [(5, 5)]) := Row.snoc hown'
      have c6 := (Ch.alloc (Q := fun y => (Value.slice fa R.length fc).ownBlock = some y) wr (.cells #[.int .u32 5, .int .u32 5] 43)).trans (Ch.of_grown (Q := fun y => (Value.slice fa R.length fc).ownBlock = some y) hgrow (fun _ e => e)) (fun _ _ h => h)
      have B6 := hide (HB1.out.trans ((HB.out.trans (c6.below HB.out.size (fun x hx e => by have := (own_in HF.out e).1; omega))).mono HB1.out.size))
      obtain ⟨gb, gc, cur, rfl, hgc, -, -, -, -, -⟩ := hR6.at hF_len (by simp)
      rw [List.length_append, List.length_singleton] at hR6
      have R6 := hide (own_low hR6 HB1.out.size)
      have hgc2 : R.length + 1 ≤ gc := by simpa using hgc
      have qs : decide ((R.length : Int) ≤ (gc : Int)) = true := decide_eq_true (by omega)
      have HGC := hide hgc2
      clear hown' hgrow hat hR6 c6 hgc
      go_wp2
      go_ret
      rw [HRE.out]
      exact ⟨gb, gc, rfl, R6.out, B6.out⟩

end Go.Proofs.Ytcogiklnegpfiaa
