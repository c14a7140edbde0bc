/- Layer 10: SlotsNever's walk. -/
import Derived.Test.YtjilnmeegolpkaaNv
namespace Go.Proofs.Ytjilnmeegolpkaa
open Go.RowKit Go.Shelf

variable {PT : World → Nat → (Nat → Prop) → Nat → List Th → Nat → Prop} {Sq : World → Nat → (Nat → Prop) → Nat → Array Value → Nat → Prop} (I : Face PT Sq)

theorem wr_in (n : Int) (h : -9223372036854775808 ≤ n ∧ n ≤ 9223372036854775807) : wrap64 n = n := by unfold wrap64; omega
theorem low_row {w w1 : World} {B k n : Nat} {e : TypeId} {v : Value} {xs : List Value} (h : w.ownsRow B e k v n xs) (hc : Ch (fun x => v.ownBlock = some x) w w1) (hB : B ≤ w.heap.size) : Below B w w1 :=
  hc.below hB fun x hx e => by have := (own_in h e).1; omega
include I
theorem low_tab {w w1 : World} {B p M : Nat} {F : Nat → Prop} {l : List Th} (h : PT w B F p l M) (hc : Ch F w w1) (hB : B ≤ w.heap.size) : Below B w w1 :=
  hc.below hB fun x hx e => by have := (I.foot h x e).1; omega

abbrev na0 : Oper := { dst := some 88, op := Op.move (Operand.tmp 9), type := 33, pos := "law.go:182", after := #[], guard := none }
abbrev na1 : Oper := { dst := some 89, op := Op.move (Operand.tmp 17), type := 3, pos := "law.go:182", after := #[], guard := none }
abbrev na2 : Oper := { dst := some 90, op := Op.indexAddr 33 (Operand.tmp 88) (Operand.tmp 89), type := 0, pos := "law.go:182", after := #[{ on := 0, ground := Ground.data }, { on := 1, ground := Ground.data }], guard := none }
abbrev na3 : Oper := { dst := some 91, op := Op.load 39 (Operand.tmp 90), type := 39, pos := "law.go:182", after := #[{ on := 2, ground := Ground.data }], guard := none }
abbrev na4 : Oper := { dst := some 92, op := Op.load 39 (Operand.tmp 15), type := 39, pos := "law.go:182", after := #[], guard := none }
abbrev na5 : Oper := { dst := some 93, op := Op.binOp BinOp.eql 39 (Operand.tmp 91) (Operand.tmp 92) 39, type := 4, pos := "law.go:182", after := #[{ on := 3, ground := Ground.data }, { on := 4, ground := Ground.data }], guard := none }
abbrev nb0 : Oper := { dst := some 176, op := Op.move (Operand.tmp 7), type := 24, pos := "law.go:211", after := #[], guard := none }
abbrev nb1 : Oper := { dst := some 177, op := Op.move (Operand.tmp 9), type := 33, pos := "law.go:211", after := #[], guard := none }
abbrev nb2 : Oper := { dst := some 178, op := Op.move (Operand.tmp 18), type := 3, pos := "law.go:211", after := #[], guard := none }
abbrev nb3 : Oper := { dst := some 179, op := Op.indexAddr 33 (Operand.tmp 177) (Operand.tmp 178), type := 0, pos := "law.go:211", after := #[{ on := 1, ground := Ground.data }, { on := 2, ground := Ground.data }], guard := none }
abbrev nb4 : Oper := { dst := some 180, op := Op.load 39 (Operand.tmp 179), type := 39, pos := "law.go:211", after := #[{ on := 3, ground := Ground.data }], guard := none }
abbrev nb5 : Oper := { dst := some 181, op := Op.fieldAddr 41 (Operand.tmp 14) 1, type := 0, pos := "law.go:211", after := #[], guard := none }
abbrev nb6 : Oper := { dst := some 182, op := Op.load 3 (Operand.tmp 181), type := 3, pos := "law.go:211", after := #[{ on := 5, ground := Ground.data }], guard := none }
abbrev nb7 : Oper := { dst := some 183, op := Op.call { callee := Callee.value (Operand.func 21), args := #[Operand.tmp 176, Operand.tmp 180, Operand.tmp 182], argTypes := #[24, 39, 3] }, type := 25, pos := "law.go:211", after := #[{ on := 0, ground := Ground.data }, { on := 4, ground := Ground.data }, { on := 6, ground := Ground.data }], guard := none }
abbrev nb8 : Oper := { dst := some 23, op := Op.assign (Operand.tmp 183), type := 25, pos := "law.go:211", after := #[{ on := 7, ground := Ground.data }, { on := 7, ground := Ground.chain }, { on := 0, ground := Ground.phase }, { on := 1, ground := Ground.phase }, { on := 2, ground := Ground.phase }, { on := 3, ground := Ground.phase }, { on := 4, ground := Ground.phase }, { on := 5, ground := Ground.phase }, { on := 6, ground := Ground.phase }, { on := 7, ground := Ground.phase }], guard := none }

set_option maxRecDepth 100000 in
set_option maxHeartbeats 8000000 in
theorem never_is (w : World) (m : Int) (hm1 : -9223372036854775808 ≤ m) (hm2 : m ≤ 9223372036854775807) {sv : Value} {sc : List Opr} (hs : Lst w.heap.size 7 (OpAt w) sv sc) :
    Calls Try.prog 4 #[.int .i64 m, sv] w fun e w' => e = .returned (.bool true) ∧ Below w.heap.size w w' := by
  obtain ⟨bs, os, ⟨az, cs, rfl, hcs, hms, has⟩, hop⟩ := hs
  have HOP := hide hop
  have HAS := hide has
  clear hop has
  go_enter Try.func4, Try.ntmps4
  go_wp2_with fail
  refine (awake_is I w).mono ?_
  rintro e w1 ⟨rfl, b1⟩
  have B1 := hide b1
  have s1 := b1.size
  clear b1
  go_wp2_with fail
  refine (pick_at hm1 hm2 500 (n := 500) (by omega) (by omega) (by omega) w1).mono ?_
  rintro e w1 ⟨n, hn, rfl, rfl⟩
  go_wp2_with fail
  refine (I.new w1 _ (n + 1) (by omega) (by omega) (by omega)).mono ?_
  rintro e w2 ⟨p, F, rfl, hp, b2⟩
  have B2 := hide (B1.out.trans (b2.mono s1))
  have s2 := b2.size
  have NV0 := hide (show Nv PT w2 w1.heap.size p (.slice none 0 0) (.slice none 0 0) (.slice none 0 0) (hnds ([] : List Th)) [] [] [] (n + 1) F from ⟨hp, Row.nil _ _, Row.nil _ _, Row.nil _ _, fun g hg => (by cases hg), fun g hg => (by cases hg), fun g hg => (by cases hg), fun g hg => (by cases hg)⟩)
  have HS1 := hide s1
  clear hp b2
  go_wp2
  go_loopw [9, 10, 11, 12, 13] (fun t x g lv iv wr => ∃ (i : Nat) (xs gs : List Int) (l : List Th) (F : Nat → Prop), iv = .int .i64 (i : Int) ∧ i ≤ sc.length ∧ i ≤ 1000 ∧ Hid (Nv PT wr w1.heap.size p t x g (hnds l) xs gs l (n + 1) F) ∧ Hid (Nl l xs gs (n + 1)) ∧ l.length ≤ i ∧ lv = .int .i64 (cnt l : Int) ∧ Hid (Below w.heap.size w wr) ∧ w1.heap.size ≤ wr.heap.size) (fun _ _ _ _ iv _ => sc.length + 1 - (intOf iv).toNat)
  case atStart => exact ⟨0, [], [], [], F, rfl, Nat.zero_le _, Nat.zero_le _, NV0, hide (Nl.nil _), Nat.le_refl _, rfl, B2, s2⟩
  case round =>
    clear NV0 B2
    obtain ⟨i, xs, gs, l, F, rfl, hi1, hi2, NV, NL, hl, rfl, BL, hsz⟩ := hrel
    obtain ⟨V, rfl⟩ : ∃ V, V = wr := ⟨_, rfl⟩
    have eh : (hnds l).length = l.length := by simp [hnds]
    obtain ⟨ta, tc, et, htc, -⟩ := NV.out.tl.form
    obtain ⟨xa, xc, ex, hxc, -⟩ := NV.out.xl.form
    obtain ⟨ga, gc, eg, hgc, -⟩ := NV.out.gl.form
    rw [eh] at et htc
    rw [NL.out.xlen] at ex hxc
    rw [NL.out.glen] at eg hgc
    subst et ex eg
    by_cases hlt : i < sc.length
    rotate_left
    · have q1 : decide ((i : Int) < (sc.length : Int)) = false := decide_eq_false (by omega)
      go_wp2_with fail
      refine (I.count NV.out.pt).mono ?_
      rintro e w5 ⟨rfl, hb5⟩
      have P5 := hide (stays I NV.out.pt hb5)
      have B5 := hide (BL.out.trans (hb5.mono BL.out.size))
      clear hb5
      go_wp2_with fail
      refine (I.born P5.out).mono ?_
      rintro e w6 ⟨rfl, hb6⟩
      go_wp2
      go_ret
      exact ⟨rfl, B5.out.trans (hb6.mono B5.out.size)⟩
    by_cases hlt2 : i < 1000
    rotate_left
    · have q1 : decide ((i : Int) < (sc.length : Int)) = true := decide_eq_true (by omega)
      have q2 : decide ((i : Int) < 1000) = false := decide_eq_false (by omega)
      go_wp2_with fail
      refine (I.count NV.out.pt).mono ?_
      rintro e w5 ⟨rfl, hb5⟩
      have P5 := hide (stays I NV.out.pt hb5)
      have B5 := hide (BL.out.trans (hb5.mono BL.out.size))
      clear hb5
      go_wp2_with fail
      refine (I.born P5.out).mono ?_
      rintro e w6 ⟨rfl, hb6⟩
      go_wp2
      go_ret
      exact ⟨rfl, B5.out.trans (hb6.mono B5.out.size)⟩
    have q1 : decide ((i : Int) < (sc.length : Int)) = true := decide_eq_true (by omega)
    have q2 : decide ((i : Int) < 1000) = true := decide_eq_true (by omega)
    obtain ⟨rfl, hbs⟩ := HAS.out (by omega)
    obtain ⟨⟨y0, y1, y2, y3, y4, y5, y6⟩, yw1, yw2, -⟩ := OpAt.below BL.out hbs (HOP.out i hlt)
    generalize sc[i] = y at y0 y1 y2 y3 y4 y5 y6 yw1 yw2
    obtain ⟨V1, hV1⟩ : ∃ V1, V.alloc (.cells #[.int .i64 y.k, .int .i64 y.x, .int .i64 y.wh, .int .i64 y.ea, .int .u32 y.s, .int .u32 y.g, .bool y.hd] 41) = V1 := ⟨_, rfl⟩
    have cV1 : Ch (fun _ => False) V V1 := by rw [← hV1]; exact Ch.alloc _ _
    have hO : V1.heap[V.heap.size]? = some (.cells #[.int .i64 y.k, .int .i64 y.x, .int .i64 y.wh, .int .i64 y.ea, .int .u32 y.s, .int .u32 y.g, .bool y.hd] 41 (0, 0)) := by rw [← hV1]; exact heap_new _ _
    have NV1 := hide (NV.out.ch0 I cV1)
    have BL1 := hide (BL.out.trans (cV1.below (N := w.heap.size) BL.out.size (fun _ _ h => h)))
    have sV1 : V1.heap.size = V.heap.size + 1 := by rw [← hV1]; simp
    have HO := hide hO
    have HV1 := hide hV1
    clear hV1 hO cV1
    by_cases hA : y.k = 1 ∨ l.length = 0
    · by_cases hk : y.k = 1
      · have qk : (y.k == 1) = true := by simpa using hk
        clear hA hk
        go_wp2_with fail
        rw [HV1.out]
        refine (I.take y.x NV1.out.pt (by omega)).mono ?_
        rintro e W2 ⟨F1, rfl, hp2, hc2, hf2⟩
        have nO : ¬ F V.heap.size := fun e => by have := (I.foot NV.out.pt _ e).2; omega
        have NV2 := hide (NV1.out.prog hc2 hp2 hf2)
        have HO2 := hide (hc2.box HO.out nO)
        have BL2 := hide (BL1.out.trans ((low_tab I NV1.out.pt hc2 (by omega)).mono HS1.out))
        have sW2 := hc2.size
        clear hp2 hc2 hf2 NV1 BL1 nO y0 y1 y2 y3 y4 y5 y6 yw1 yw2 HV1 HO
        obtain ⟨W3, hW3⟩ : ∃ W3, W2.alloc (.cells #[.int .u32 (tkS l (n + 1)), .int .u32 (tkG l (n + 1))] 39) = W3 := ⟨_, rfl⟩
        have cW3 : Ch (fun _ => False) W2 W3 := by rw [← hW3]; exact Ch.alloc _ _
        have hH3 := hide (show W3.heap[W2.heap.size]? = some (.cells #[.int .u32 (tkS l (n + 1)), .int .u32 (tkG l (n + 1))] 39 (0, 0)) by rw [← hW3]; exact heap_new _ _)
        have NV3 := hide (NV2.out.ch0 I cW3)
        have HO3 := hide (cW3.box HO2.out (fun h => h))
        have BL3 := hide (BL2.out.trans (cW3.below (N := w.heap.size) BL2.out.size (fun _ _ h => h)))
        have sW3 := cW3.size
        have HW3 := hide hW3
        clear hW3 cW3 NV2 HO2 BL2
        have hfull := NL.out.wf.full
        cases hB : tkB l (n + 1)
        · rw [hB] at hfull
          have q5 : decide ((cnt l : Int) < 1 + (n : Int)) = false := decide_eq_false (by have := of_decide_eq_false hfull.symm; omega)
          have NVF := hide (show Nv PT W3 w1.heap.size p _ _ _ (hnds l) xs gs l (n + 1) F1 by have := NV3.out; rwa [tkd_none hB] at this)
          rw [show ec false 101 = 101 from rfl]
          clear hfull NV3
          go_wp2
          rw [HW3.out]
          go_loopw [17] (fun kv wr => kv = .int .i64 0 ∧ wr = W3) (fun _ _ => 0)
          case atStart => exact ⟨rfl, rfl⟩
          case round =>
            obtain ⟨rfl, rfl⟩ := hrel
            by_cases q6 : 0 < l.length
            all_goals
              go_wp2
              go_roundw
              case rel => exact ⟨i + 1, xs, gs, l, F1, by go_num, by omega, by omega, NVF, NL, by omega, rfl, BL3, by omega⟩
              case measure => simp [intOf]; omega
        · rw [hB] at hfull
          have q5 : decide ((cnt l : Int) < 1 + (n : Int)) = true := decide_eq_true (by have := of_decide_eq_true hfull.symm; omega)
          rw [show ec true 101 = 0 from rfl]
          clear hfull
          go_wp2
          rw [HW3.out]
          go_loopw [17] (fun kv wr => ∃ j : Nat, kv = .int .i64 (j : Int) ∧ j ≤ l.length ∧ Hid (Ch (fun _ => False) W3 wr)) (fun kv _ => l.length - (intOf kv).toNat)
          case atStart => exact ⟨0, rfl, Nat.zero_le _, hide (Ch.refl _ _)⟩
          case round =>
            obtain ⟨j, rfl, hj, CU⟩ := hrel
            obtain ⟨U, rfl⟩ : ∃ U, U = wr := ⟨_, rfl⟩
            by_cases hjl : j < l.length
            · have q6 : decide ((j : Int) < (l.length : Int)) = true := decide_eq_true (by omega)
              obtain ⟨g', c', cur, hsl, hcr, hBr, hgr, hgc', hcs', hcell⟩ := (NV3.out.tl.ch CU.out (fun _ _ h => h)).at hdF_len (by omega)
              rw [eh] at hsl
              cases hsl
              have fr := NL.out.fresh hB hjl
              have HT := hide (fun wq (h : Ch (fun _ => False) U wq) => And.intro ((h.cell (b := g') hgr (fun h => h) _).trans (show U.cell? ⟨g', j * 2, none⟩ = some (.int .u32 l[j].s) from hcell j (by omega) 0 _ (by simp [hdF, hnds]))) ((h.cell (b := g') hgr (fun h => h) _).trans (show U.cell? ⟨g', j * 2 + 1, none⟩ = some (.int .u32 l[j].g) from hcell j (by omega) 1 _ (by simp [hdF, hnds]))))
              have HH := hide (fun wq (h : Ch (fun _ => False) U wq) => have e := Lib.cell_of_heap ((CU.out.trans h (fun _ _ h => h)).box hH3.out (fun h => h)); show wq.cell? ⟨W2.heap.size, 0, none⟩ = some (.int .u32 (tkS l (n + 1))) ∧ wq.cell? ⟨W2.heap.size, 1, none⟩ = some (.int .u32 (tkG l (n + 1))) from ⟨by simp [e], by simp [e]⟩)
              generalize l[j].s = zs at HT fr
              generalize l[j].g = zg at HT fr
              clear hcell
              by_cases es : zs = tkS l (n + 1)
              · have qs : (zs == tkS l (n + 1)) = true := by simpa using es
                have qg : (zg == tkG l (n + 1)) = false := by simpa using fr es
                clear es fr
                go_wp2
                refine wp_region_held_drew (S := Ch (fun _ => False) U) (by kernel_rfl) (Ch.drew _) (fun zk => ?_)
                apply tk 0 na0 rfl (by kernel_rfl) (fun _ _ _ h => h) zk
                · intro wq zq
                  go_simp
                  try rfl
                go_frame
                apply tk 1 na1 rfl (by kernel_rfl) (fun _ _ _ h => h) zk
                · intro wq zq
                  go_simp
                  try rfl
                go_frame
                apply tk 2 na2 rfl (by kernel_rfl) (fun _ _ _ h => h) zk
                · intro wq zq
                  go_simp
                  try rfl
                go_frame
                apply tk 3 na3 rfl (by kernel_rfl) (fun _ _ _ h => h) zk
                · intro wq zq
                  obtain ⟨s1, s2⟩ := HT.out _ zq
                  go_simp
                  try rfl
                go_frame
                apply tk 4 na4 rfl (by kernel_rfl) (fun _ _ _ h => h) zk
                · intro wq zq
                  obtain ⟨s3, s4⟩ := HH.out _ zq
                  go_simp
                  try rfl
                go_frame
                apply tk 5 na5 rfl (by kernel_rfl) (fun _ _ _ h => h) zk
                · intro wq zq
                  go_simp
                  try rfl
                go_frame
                refine wpAnyH_done (by kernel_rfl) ?_ _
                go_wp2
                go_roundw
                case rel => exact ⟨j + 1, by go_num, by omega, hide (CU.out.trans (Ch.drew (Q := fun _ => False) _) (fun _ _ h => h))⟩
                case measure => simp [intOf]; omega
              · have qs : (zs == tkS l (n + 1)) = false := by simpa using es
                clear es fr
                go_wp2
                refine wp_region_held_drew (S := Ch (fun _ => False) U) (by kernel_rfl) (Ch.drew _) (fun zk => ?_)
                apply tk 0 na0 rfl (by kernel_rfl) (fun _ _ _ h => h) zk
                · intro wq zq
                  go_simp
                  try rfl
                go_frame
                apply tk 1 na1 rfl (by kernel_rfl) (fun _ _ _ h => h) zk
                · intro wq zq
                  go_simp
                  try rfl
                go_frame
                apply tk 2 na2 rfl (by kernel_rfl) (fun _ _ _ h => h) zk
                · intro wq zq
                  go_simp
                  try rfl
                go_frame
                apply tk 3 na3 rfl (by kernel_rfl) (fun _ _ _ h => h) zk
                · intro wq zq
                  obtain ⟨s1, s2⟩ := HT.out _ zq
                  go_simp
                  try rfl
                go_frame
                apply tk 4 na4 rfl (by kernel_rfl) (fun _ _ _ h => h) zk
                · intro wq zq
                  obtain ⟨s3, s4⟩ := HH.out _ zq
                  go_simp
                  try rfl
                go_frame
                apply tk 5 na5 rfl (by kernel_rfl) (fun _ _ _ h => h) zk
                · intro wq zq
                  go_simp
                  try rfl
                go_frame
                refine wpAnyH_done (by kernel_rfl) ?_ _
                go_wp2
                go_roundw
                case rel => exact ⟨j + 1, by go_num, by omega, hide (CU.out.trans (Ch.drew (Q := fun _ => False) _) (fun _ _ h => h))⟩
                case measure => simp [intOf]; omega
            · have q6 : decide ((j : Int) < (l.length : Int)) = false := decide_eq_false (by omega)
              have NVU := hide (NV3.out.ch0 I (CU.out.trans (Ch.alloc (Q := fun _ => False) U (.cells #[.int .u32 (tkS l (n + 1)), .int .u32 (tkG l (n + 1))] 39)) (fun _ _ h => h)))
              have HOU := hide ((CU.out.trans (Ch.alloc (Q := fun _ => False) U (.cells #[.int .u32 (tkS l (n + 1)), .int .u32 (tkG l (n + 1))] 39)) (fun _ _ h => h)).box HO3.out (fun h => h))
              have e4 := Lib.cell_of_heap (CU.out.box hH3.out (fun h => h))
              have z1 : U.cell? ⟨W2.heap.size, 0, none⟩ = some (.int .u32 (tkS l (n + 1))) := by simp [e4]
              have z2 : U.cell? ⟨W2.heap.size, 1, none⟩ = some (.int .u32 (tkG l (n + 1))) := by simp [e4]
              have BLU := hide (BL3.out.trans ((CU.out.trans (Ch.alloc (Q := fun _ => False) U (.cells #[.int .u32 (tkS l (n + 1)), .int .u32 (tkG l (n + 1))] 39)) (fun _ _ h => h)).below (N := w.heap.size) BL3.out.size (fun _ _ h => h)))
              have sU := CU.out.size
              clear e4 hH3 HO3 BL3
              obtain ⟨ih, hih, hzh0, hzh1, hzh2⟩ := nf_open nfHd
              obtain ⟨ii, hii, hzi0, hzi1, hzi2⟩ := nf_open nfInt
              have HM1 := hide (show (hnds l).length + 1 ≤ maxLen by unfold maxLen; omega)
              have HM2 := hide (show ((hnds l).length + 1) * 8 ≤ 140737488355328 by omega)
              have HM3 := hide (show w1.heap.size ≤ (U.alloc (.cells #[.int .u32 (tkS l (n + 1)), .int .u32 (tkG l (n + 1))] 39)).heap.size by simp; omega)
              go_wp2_with (at_builtin; refine wpList_append_own_at _ rfl _ _ 33 rfl w1.heap.size 39 ih (.agg #[.int .u32 0, .int .u32 0]) 2 8 Try.underlying33 hih hzh0 hzh1 hzh2 rfl (by decide) _ (hnds l).length ((hnds l).flatMap hdF) rfl NVU.out.tl ⟨U.heap.size, 0, none⟩ 1 1 (hdF (tkS l (n + 1), tkG l (n + 1))) rfl rfl (row_new U (hdF (tkS l (n + 1), tkG l (n + 1))) 39 rfl) (by simp [hdF, Value.oneCell']) HM1.out HM2.out HM3.out ?_)
              intro t5 W5 hown hgrow _ hat
              rw [← eh] at hown
              have NV5 := hide (NVU.out.told I hgrow (Row.snoc hown) (by rw [World.size_alloc]; exact hat))
              have HO5 := hide ((hgrow.block V.heap.size (Array.getElem?_eq_some_iff.1 HOU.out).1 (fun e => by have := (own_in NV.out.tl e.symm).2.1; omega)).trans HOU.out)
              have BL5 := hide (BLU.out.trans ((low_row NVU.out.tl (Ch.of_grown hgrow (fun _ e => e)) HM3.out).mono HS1.out))
              have s5 := hgrow.size
              rw [World.size_alloc] at s5
              clear hown hgrow hat NVU HOU BLU HM1 HM2 HM3 z1 z2
              have o1 : W5.cell? ⟨V.heap.size, 1, none⟩ = some (.int .i64 y.x) := by simp [Lib.cell_of_heap HO5.out]
              have c6 := hide (Ch.alloc (Q := fun _ => False) W5 (.cells #[.int .i64 y.x] 3))
              have NV6 := hide (NV5.out.ch0 I c6.out)
              have BL6 := hide (BL5.out.trans (c6.out.below (N := w.heap.size) BL5.out.size (fun _ _ h => h)))
              have HX1 := hide (show xs.length + 1 ≤ maxLen by unfold maxLen; have := NL.out.xlen; omega)
              have HX2 := hide (show (xs.length + 1) * 8 ≤ 140737488355328 by have := NL.out.xlen; omega)
              have HX3 := hide (show w1.heap.size ≤ (W5.alloc (.cells #[.int .i64 y.x] 3)).heap.size by simp; omega)
              clear NV5 BL5 c6
              go_wp2_with (at_builtin; refine wpList_append_own_at _ rfl _ _ 49 rfl w1.heap.size 3 ii (.int .i64 0) 1 8 Try.underlying49 hii hzi0 hzi1 hzi2 rfl (by decide) _ xs.length (xs.flatMap inF) rfl NV6.out.xl ⟨W5.heap.size, 0, none⟩ 1 1 (inF y.x) rfl rfl (row_new W5 (inF y.x) 3 rfl) (by simp [inF, Value.oneCell']) HX1.out HX2.out HX3.out ?_)
              intro x7 W7 hown hgrow _ hat
              have NV7 := hide (NV6.out.thing I (Ch.of_grown hgrow (fun _ e => e)) (Row.snoc hown) (by rw [World.size_alloc]; exact hat))
              have BL7 := hide (BL6.out.trans ((low_row NV6.out.xl (Ch.of_grown hgrow (fun _ e => e)) HX3.out).mono HS1.out))
              have s7 := hgrow.size
              rw [World.size_alloc] at s7
              clear hown hgrow hat NV6 BL6 HX1 HX2 HX3 o1 HO5
              have c8 := hide (Ch.alloc (Q := fun _ => False) W7 (.cells #[.int .i64 0] 3))
              have NV8 := hide (NV7.out.ch0 I c8.out)
              have BL8 := hide (BL7.out.trans (c8.out.below (N := w.heap.size) BL7.out.size (fun _ _ h => h)))
              have HG1 := hide (show gs.length + 1 ≤ maxLen by unfold maxLen; have := NL.out.glen; omega)
              have HG2 := hide (show (gs.length + 1) * 8 ≤ 140737488355328 by have := NL.out.glen; omega)
              have HG3 := hide (show w1.heap.size ≤ (W7.alloc (.cells #[.int .i64 0] 3)).heap.size by simp; omega)
              clear NV7 BL7 c8
              go_wp2_with (at_builtin; refine wpList_append_own_at _ rfl _ _ 49 rfl w1.heap.size 3 ii (.int .i64 0) 1 8 Try.underlying49 hii hzi0 hzi1 hzi2 rfl (by decide) _ gs.length (gs.flatMap inF) rfl NV8.out.gl ⟨W7.heap.size, 0, none⟩ 1 1 (inF 0) rfl rfl (row_new W7 (inF 0) 3 rfl) (by simp [inF, Value.oneCell']) HG1.out HG2.out HG3.out ?_)
              intro g9 W9 hown hgrow _ hat
              have NV9 := hide (NV8.out.gone I (Ch.of_grown hgrow (fun _ e => e)) (Row.snoc hown) (by rw [World.size_alloc]; exact hat))
              have BL9 := hide (BL8.out.trans ((low_row NV8.out.gl (Ch.of_grown hgrow (fun _ e => e)) HG3.out).mono HS1.out))
              have s9 := hgrow.size
              rw [World.size_alloc] at s9
              clear hown hgrow hat NV8 BL8 HG1 HG2 HG3
              have NT := hide (NL.out.take hB y.x)
              have hcn := cnt_le l
              go_wp2
              go_roundw
              case rel => exact ⟨i + 1, xs ++ [y.x], gs ++ [0], tkd l (n + 1) y.x, F1, by go_num, by omega, by omega, hide (by rw [NT.out.2.1]; exact NV9.out), hide NT.out.1, by rw [tkd_len, hB]; simp; omega, by rw [NT.out.2.2]; go_num, BL9, by omega⟩
              case measure => simp [intOf]; omega
      · have qk : (y.k == 1) = false := by simpa using hk
        have q0 : ((l.length : Int) == 0) = true := by rw [hA.resolve_left hk]; rfl
        clear hA hk
        go_wp2_with fail
        rw [HV1.out]
        refine (I.take y.x NV1.out.pt (by omega)).mono ?_
        rintro e W2 ⟨F1, rfl, hp2, hc2, hf2⟩
        have nO : ¬ F V.heap.size := fun e => by have := (I.foot NV.out.pt _ e).2; omega
        have NV2 := hide (NV1.out.prog hc2 hp2 hf2)
        have HO2 := hide (hc2.box HO.out nO)
        have BL2 := hide (BL1.out.trans ((low_tab I NV1.out.pt hc2 (by omega)).mono HS1.out))
        have sW2 := hc2.size
        clear hp2 hc2 hf2 NV1 BL1 nO y0 y1 y2 y3 y4 y5 y6 yw1 yw2 HV1 HO
        obtain ⟨W3, hW3⟩ : ∃ W3, W2.alloc (.cells #[.int .u32 (tkS l (n + 1)), .int .u32 (tkG l (n + 1))] 39) = W3 := ⟨_, rfl⟩
        have cW3 : Ch (fun _ => False) W2 W3 := by rw [← hW3]; exact Ch.alloc _ _
        have hH3 := hide (show W3.heap[W2.heap.size]? = some (.cells #[.int .u32 (tkS l (n + 1)), .int .u32 (tkG l (n + 1))] 39 (0, 0)) by rw [← hW3]; exact heap_new _ _)
        have NV3 := hide (NV2.out.ch0 I cW3)
        have HO3 := hide (cW3.box HO2.out (fun h => h))
        have BL3 := hide (BL2.out.trans (cW3.below (N := w.heap.size) BL2.out.size (fun _ _ h => h)))
        have sW3 := cW3.size
        have HW3 := hide hW3
        clear hW3 cW3 NV2 HO2 BL2
        have hfull := NL.out.wf.full
        cases hB : tkB l (n + 1)
        · rw [hB] at hfull
          have q5 : decide ((cnt l : Int) < 1 + (n : Int)) = false := decide_eq_false (by have := of_decide_eq_false hfull.symm; omega)
          have NVF := hide (show Nv PT W3 w1.heap.size p _ _ _ (hnds l) xs gs l (n + 1) F1 by have := NV3.out; rwa [tkd_none hB] at this)
          rw [show ec false 101 = 101 from rfl]
          clear hfull NV3
          go_wp2
          rw [HW3.out]
          go_loopw [17] (fun kv wr => kv = .int .i64 0 ∧ wr = W3) (fun _ _ => 0)
          case atStart => exact ⟨rfl, rfl⟩
          case round =>
            obtain ⟨rfl, rfl⟩ := hrel
            by_cases q6 : 0 < l.length
            all_goals
              go_wp2
              go_roundw
              case rel => exact ⟨i + 1, xs, gs, l, F1, by go_num, by omega, by omega, NVF, NL, by omega, rfl, BL3, by omega⟩
              case measure => simp [intOf]; omega
        · rw [hB] at hfull
          have q5 : decide ((cnt l : Int) < 1 + (n : Int)) = true := decide_eq_true (by have := of_decide_eq_true hfull.symm; omega)
          rw [show ec true 101 = 0 from rfl]
          clear hfull
          go_wp2
          rw [HW3.out]
          go_loopw [17] (fun kv wr => ∃ j : Nat, kv = .int .i64 (j : Int) ∧ j ≤ l.length ∧ Hid (Ch (fun _ => False) W3 wr)) (fun kv _ => l.length - (intOf kv).toNat)
          case atStart => exact ⟨0, rfl, Nat.zero_le _, hide (Ch.refl _ _)⟩
          case round =>
            obtain ⟨j, rfl, hj, CU⟩ := hrel
            obtain ⟨U, rfl⟩ : ∃ U, U = wr := ⟨_, rfl⟩
            by_cases hjl : j < l.length
            · have q6 : decide ((j : Int) < (l.length : Int)) = true := decide_eq_true (by omega)
              obtain ⟨g', c', cur, hsl, hcr, hBr, hgr, hgc', hcs', hcell⟩ := (NV3.out.tl.ch CU.out (fun _ _ h => h)).at hdF_len (by omega)
              rw [eh] at hsl
              cases hsl
              have fr := NL.out.fresh hB hjl
              have HT := hide (fun wq (h : Ch (fun _ => False) U wq) => And.intro ((h.cell (b := g') hgr (fun h => h) _).trans (show U.cell? ⟨g', j * 2, none⟩ = some (.int .u32 l[j].s) from hcell j (by omega) 0 _ (by simp [hdF, hnds]))) ((h.cell (b := g') hgr (fun h => h) _).trans (show U.cell? ⟨g', j * 2 + 1, none⟩ = some (.int .u32 l[j].g) from hcell j (by omega) 1 _ (by simp [hdF, hnds]))))
              have HH := hide (fun wq (h : Ch (fun _ => False) U wq) => have e := Lib.cell_of_heap ((CU.out.trans h (fun _ _ h => h)).box hH3.out (fun h => h)); show wq.cell? ⟨W2.heap.size, 0, none⟩ = some (.int .u32 (tkS l (n + 1))) ∧ wq.cell? ⟨W2.heap.size, 1, none⟩ = some (.int .u32 (tkG l (n + 1))) from ⟨by simp [e], by simp [e]⟩)
              generalize l[j].s = zs at HT fr
              generalize l[j].g = zg at HT fr
              clear hcell
              by_cases es : zs = tkS l (n + 1)
              · have qs : (zs == tkS l (n + 1)) = true := by simpa using es
                have qg : (zg == tkG l (n + 1)) = false := by simpa using fr es
                clear es fr
                go_wp2
                refine wp_region_held_drew (S := Ch (fun _ => False) U) (by kernel_rfl) (Ch.drew _) (fun zk => ?_)
                apply tk 0 na0 rfl (by kernel_rfl) (fun _ _ _ h => h) zk
                · intro wq zq
                  go_simp
                  try rfl
                go_frame
                apply tk 1 na1 rfl (by kernel_rfl) (fun _ _ _ h => h) zk
                · intro wq zq
                  go_simp
                  try rfl
                go_frame
                apply tk 2 na2 rfl (by kernel_rfl) (fun _ _ _ h => h) zk
                · intro wq zq
                  go_simp
                  try rfl
                go_frame
                apply tk 3 na3 rfl (by kernel_rfl) (fun _ _ _ h => h) zk
                · intro wq zq
                  obtain ⟨s1, s2⟩ := HT.out _ zq
                  go_simp
                  try rfl
                go_frame
                apply tk 4 na4 rfl (by kernel_rfl) (fun _ _ _ h => h) zk
                · intro wq zq
                  obtain ⟨s3, s4⟩ := HH.out _ zq
                  go_simp
                  try rfl
                go_frame
                apply tk 5 na5 rfl (by kernel_rfl) (fun _ _ _ h => h) zk
                · intro wq zq
                  go_simp
                  try rfl
                go_frame
                refine wpAnyH_done (by kernel_rfl) ?_ _
                go_wp2
                go_roundw
                case rel => exact ⟨j + 1, by go_num, by omega, hide (CU.out.trans (Ch.drew (Q := fun _ => False) _) (fun _ _ h => h))⟩
                case measure => simp [intOf]; omega
              · have qs : (zs == tkS l (n + 1)) = false := by simpa using es
                clear es fr
                go_wp2
                refine wp_region_held_drew (S := Ch (fun _ => False) U) (by kernel_rfl) (Ch.drew _) (fun zk => ?_)
                apply tk 0 na0 rfl (by kernel_rfl) (fun _ _ _ h => h) zk
                · intro wq zq
                  go_simp
                  try rfl
                go_frame
                apply tk 1 na1 rfl (by kernel_rfl) (fun _ _ _ h => h) zk
                · intro wq zq
                  go_simp
                  try rfl
                go_frame
                apply tk 2 na2 rfl (by kernel_rfl) (fun _ _ _ h => h) zk
                · intro wq zq
                  go_simp
                  try rfl
                go_frame
                apply tk 3 na3 rfl (by kernel_rfl) (fun _ _ _ h => h) zk
                · intro wq zq
                  obtain ⟨s1, s2⟩ := HT.out _ zq
                  go_simp
                  try rfl
                go_frame
                apply tk 4 na4 rfl (by kernel_rfl) (fun _ _ _ h => h) zk
                · intro wq zq
                  obtain ⟨s3, s4⟩ := HH.out _ zq
                  go_simp
                  try rfl
                go_frame
                apply tk 5 na5 rfl (by kernel_rfl) (fun _ _ _ h => h) zk
                · intro wq zq
                  go_simp
                  try rfl
                go_frame
                refine wpAnyH_done (by kernel_rfl) ?_ _
                go_wp2
                go_roundw
                case rel => exact ⟨j + 1, by go_num, by omega, hide (CU.out.trans (Ch.drew (Q := fun _ => False) _) (fun _ _ h => h))⟩
                case measure => simp [intOf]; omega
            · have q6 : decide ((j : Int) < (l.length : Int)) = false := decide_eq_false (by omega)
              have NVU := hide (NV3.out.ch0 I (CU.out.trans (Ch.alloc (Q := fun _ => False) U (.cells #[.int .u32 (tkS l (n + 1)), .int .u32 (tkG l (n + 1))] 39)) (fun _ _ h => h)))
              have HOU := hide ((CU.out.trans (Ch.alloc (Q := fun _ => False) U (.cells #[.int .u32 (tkS l (n + 1)), .int .u32 (tkG l (n + 1))] 39)) (fun _ _ h => h)).box HO3.out (fun h => h))
              have e4 := Lib.cell_of_heap (CU.out.box hH3.out (fun h => h))
              have z1 : U.cell? ⟨W2.heap.size, 0, none⟩ = some (.int .u32 (tkS l (n + 1))) := by simp [e4]
              have z2 : U.cell? ⟨W2.heap.size, 1, none⟩ = some (.int .u32 (tkG l (n + 1))) := by simp [e4]
              have BLU := hide (BL3.out.trans ((CU.out.trans (Ch.alloc (Q := fun _ => False) U (.cells #[.int .u32 (tkS l (n + 1)), .int .u32 (tkG l (n + 1))] 39)) (fun _ _ h => h)).below (N := w.heap.size) BL3.out.size (fun _ _ h => h)))
              have sU := CU.out.size
              clear e4 hH3 HO3 BL3
              obtain ⟨ih, hih, hzh0, hzh1, hzh2⟩ := nf_open nfHd
              obtain ⟨ii, hii, hzi0, hzi1, hzi2⟩ := nf_open nfInt
              have HM1 := hide (show (hnds l).length + 1 ≤ maxLen by unfold maxLen; omega)
              have HM2 := hide (show ((hnds l).length + 1) * 8 ≤ 140737488355328 by omega)
              have HM3 := hide (show w1.heap.size ≤ (U.alloc (.cells #[.int .u32 (tkS l (n + 1)), .int .u32 (tkG l (n + 1))] 39)).heap.size by simp; omega)
              go_wp2_with (at_builtin; refine wpList_append_own_at _ rfl _ _ 33 rfl w1.heap.size 39 ih (.agg #[.int .u32 0, .int .u32 0]) 2 8 Try.underlying33 hih hzh0 hzh1 hzh2 rfl (by decide) _ (hnds l).length ((hnds l).flatMap hdF) rfl NVU.out.tl ⟨U.heap.size, 0, none⟩ 1 1 (hdF (tkS l (n + 1), tkG l (n + 1))) rfl rfl (row_new U (hdF (tkS l (n + 1), tkG l (n + 1))) 39 rfl) (by simp [hdF, Value.oneCell']) HM1.out HM2.out HM3.out ?_)
              intro t5 W5 hown hgrow _ hat
              rw [← eh] at hown
              have NV5 := hide (NVU.out.told I hgrow (Row.snoc hown) (by rw [World.size_alloc]; exact hat))
              have HO5 := hide ((hgrow.block V.heap.size (Array.getElem?_eq_some_iff.1 HOU.out).1 (fun e => by have := (own_in NV.out.tl e.symm).2.1; omega)).trans HOU.out)
              have BL5 := hide (BLU.out.trans ((low_row NVU.out.tl (Ch.of_grown hgrow (fun _ e => e)) HM3.out).mono HS1.out))
              have s5 := hgrow.size
              rw [World.size_alloc] at s5
              clear hown hgrow hat NVU HOU BLU HM1 HM2 HM3 z1 z2
              have o1 : W5.cell? ⟨V.heap.size, 1, none⟩ = some (.int .i64 y.x) := by simp [Lib.cell_of_heap HO5.out]
              have c6 := hide (Ch.alloc (Q := fun _ => False) W5 (.cells #[.int .i64 y.x] 3))
              have NV6 := hide (NV5.out.ch0 I c6.out)
              have BL6 := hide (BL5.out.trans (c6.out.below (N := w.heap.size) BL5.out.size (fun _ _ h => h)))
              have HX1 := hide (show xs.length + 1 ≤ maxLen by unfold maxLen; have := NL.out.xlen; omega)
              have HX2 := hide (show (xs.length + 1) * 8 ≤ 140737488355328 by have := NL.out.xlen; omega)
              have HX3 := hide (show w1.heap.size ≤ (W5.alloc (.cells #[.int .i64 y.x] 3)).heap.size by simp; omega)
              clear NV5 BL5 c6
              go_wp2_with (at_builtin; refine wpList_append_own_at _ rfl _ _ 49 rfl w1.heap.size 3 ii (.int .i64 0) 1 8 Try.underlying49 hii hzi0 hzi1 hzi2 rfl (by decide) _ xs.length (xs.flatMap inF) rfl NV6.out.xl ⟨W5.heap.size, 0, none⟩ 1 1 (inF y.x) rfl rfl (row_new W5 (inF y.x) 3 rfl) (by simp [inF, Value.oneCell']) HX1.out HX2.out HX3.out ?_)
              intro x7 W7 hown hgrow _ hat
              have NV7 := hide (NV6.out.thing I (Ch.of_grown hgrow (fun _ e => e)) (Row.snoc hown) (by rw [World.size_alloc]; exact hat))
              have BL7 := hide (BL6.out.trans ((low_row NV6.out.xl (Ch.of_grown hgrow (fun _ e => e)) HX3.out).mono HS1.out))
              have s7 := hgrow.size
              rw [World.size_alloc] at s7
              clear hown hgrow hat NV6 BL6 HX1 HX2 HX3 o1 HO5
              have c8 := hide (Ch.alloc (Q := fun _ => False) W7 (.cells #[.int .i64 0] 3))
              have NV8 := hide (NV7.out.ch0 I c8.out)
              have BL8 := hide (BL7.out.trans (c8.out.below (N := w.heap.size) BL7.out.size (fun _ _ h => h)))
              have HG1 := hide (show gs.length + 1 ≤ maxLen by unfold maxLen; have := NL.out.glen; omega)
              have HG2 := hide (show (gs.length + 1) * 8 ≤ 140737488355328 by have := NL.out.glen; omega)
              have HG3 := hide (show w1.heap.size ≤ (W7.alloc (.cells #[.int .i64 0] 3)).heap.size by simp; omega)
              clear NV7 BL7 c8
              go_wp2_with (at_builtin; refine wpList_append_own_at _ rfl _ _ 49 rfl w1.heap.size 3 ii (.int .i64 0) 1 8 Try.underlying49 hii hzi0 hzi1 hzi2 rfl (by decide) _ gs.length (gs.flatMap inF) rfl NV8.out.gl ⟨W7.heap.size, 0, none⟩ 1 1 (inF 0) rfl rfl (row_new W7 (inF 0) 3 rfl) (by simp [inF, Value.oneCell']) HG1.out HG2.out HG3.out ?_)
              intro g9 W9 hown hgrow _ hat
              have NV9 := hide (NV8.out.gone I (Ch.of_grown hgrow (fun _ e => e)) (Row.snoc hown) (by rw [World.size_alloc]; exact hat))
              have BL9 := hide (BL8.out.trans ((low_row NV8.out.gl (Ch.of_grown hgrow (fun _ e => e)) HG3.out).mono HS1.out))
              have s9 := hgrow.size
              rw [World.size_alloc] at s9
              clear hown hgrow hat NV8 BL8 HG1 HG2 HG3
              have NT := hide (NL.out.take hB y.x)
              have hcn := cnt_le l
              go_wp2
              go_roundw
              case rel => exact ⟨i + 1, xs ++ [y.x], gs ++ [0], tkd l (n + 1) y.x, F1, by go_num, by omega, by omega, hide (by rw [NT.out.2.1]; exact NV9.out), hide NT.out.1, by rw [tkd_len, hB]; simp; omega, by rw [NT.out.2.2]; go_num, BL9, by omega⟩
              case measure => simp [intOf]; omega
    have hk1 : (y.k == 1) = false := beq_false_of_ne (fun e => hA (Or.inl e))
    have hpos : 0 < l.length := Nat.pos_of_ne_zero (fun e => hA (Or.inr e))
    have q0 : ((l.length : Int) == 0) = false := beq_false_of_ne (by omega)
    clear hA
    go_wp2_with fail
    rw [HV1.out]
    refine (pick_is yw1 yw2 hpos (by omega) V1).mono ?_
    rintro e V1 ⟨k, hk, rfl, rfl⟩
    clear y0 y1 y2 y3 y4 y5 y6 yw1 yw2 HV1 hpos
    have gl' := NL.out.glen
    have xl' := NL.out.xlen
    obtain ⟨gg, c1, cu1, hsl, -, hBg, hgg, hggb, -, hcg⟩ := NV1.out.gl.at inF_len (by omega)
    rw [gl'] at hsl
    cases hsl
    obtain ⟨xx, c2, cu2, hsl, -, hBx, hxx, hxxb, -, hcx⟩ := NV1.out.xl.at inF_len (by omega)
    rw [xl'] at hsl
    cases hsl
    obtain ⟨tt, c3, cu3, hsl, -, hBt, htt, httb, -, hct⟩ := NV1.out.tl.at hdF_len (by omega)
    rw [eh] at hsl
    cases hsl
    have t0 : V1.cell? ⟨tt, k * 2, none⟩ = some (.int .u32 l[k].s) := hct k (by omega) 0 _ (by simp [hdF, hnds])
    have t1 : V1.cell? ⟨tt, k * 2 + 1, none⟩ = some (.int .u32 l[k].g) := hct k (by omega) 1 _ (by simp [hdF, hnds])
    have x0 : V1.cell? ⟨xx, k, none⟩ = some (.int .i64 (xs[k]'(by omega))) := by have := hcx k (by omega) 0 (.int .i64 (xs[k]'(by omega))) rfl; simpa using this
    have g0 : V1.cell? ⟨gg, k, none⟩ = some (.int .i64 (if l[k].d then 1 else 0)) := by
      have e := NL.out.gis k hk
      rw [List.getElem?_eq_getElem (by omega)] at e
      injection e with e
      have := hcg k (by omega) 0 (.int .i64 (gs[k]'(by omega))) rfl
      rw [e] at this
      simpa using this
    have o0 : V1.cell? ⟨V.heap.size, 0, none⟩ = some (.int .i64 y.k) := by simp [Lib.cell_of_heap HO.out]
    have o1 : V1.cell? ⟨V.heap.size, 1, none⟩ = some (.int .i64 y.x) := by simp [Lib.cell_of_heap HO.out]
    have lO : V.heap.size < V1.heap.size := by omega
    have HX := hide (fun (hd : l[k].d = false) => (show xs[k]'(by omega) = l[k].x by have e := NL.out.xis k hk hd; rw [List.getElem?_eq_getElem (by omega)] at e; exact Option.some.inj e))
    have HUS := hide (show Us l[k].s by have := NL.out.wf.slot _ (List.getElem_mem hk); exact ⟨by omega, by omega⟩)
    have HB := hide (NL.out.wf.fnB hk)
    have HG := hide (fun hd => NL.out.wf.gtX hk hd)
    have NF := hide (fun hd => NL.out.free hk hd)
    have NS := hide (fun hd => NL.out.same hk hd y.x)
    have NT := hide (NL.out.set hk y.x)
    have HFR := hide (hnds_frd l l[k].s l[k].g)
    have HST := hide (hnds_std l l[k].s l[k].g y.x)
    clear hct hcx hcg
    generalize hzs : l[k].s = zs at t0 HUS HB HG NF NS NT HFR HST
    generalize hzg : l[k].g = zg at t1 HB HG NF NS NT HFR HST
    generalize (xs[k]'(by omega)) = zx at x0 HX
    clear hzs hzg
    have HF := hide (fun wq (h : Ch (fun _ => False) V1 wq) => show wq.cell? ⟨tt, k * 2, none⟩ = some (.int .u32 zs) ∧ wq.cell? ⟨tt, k * 2 + 1, none⟩ = some (.int .u32 zg) ∧ wq.cell? ⟨xx, k, none⟩ = some (.int .i64 zx) ∧ wq.cell? ⟨gg, k, none⟩ = some (.int .i64 (if l[k].d then 1 else 0)) ∧ wq.cell? ⟨V.heap.size, 0, none⟩ = some (.int .i64 y.k) ∧ wq.cell? ⟨V.heap.size, 1, none⟩ = some (.int .i64 y.x) from
      ⟨(h.cell htt (fun h => h) _).trans t0, (h.cell htt (fun h => h) _).trans t1, (h.cell hxx (fun h => h) _).trans x0, (h.cell hgg (fun h => h) _).trans g0, (h.cell lO (fun h => h) _).trans o0, (h.cell lO (fun h => h) _).trans o1⟩)
    clear t0 t1 x0 g0 o0 o1
    cases hd : l[k].d
    · have HF' := hide (fun wq h => by have := HF.out wq h; rw [hd] at this; exact this)
      clear HF
      have HF := hide (show ∀ wq, Ch (fun _ => False) V1 wq → wq.cell? ⟨tt, k * 2, none⟩ = some (.int .u32 zs) ∧ wq.cell? ⟨tt, k * 2 + 1, none⟩ = some (.int .u32 zg) ∧ wq.cell? ⟨xx, k, none⟩ = some (.int .i64 zx) ∧ wq.cell? ⟨gg, k, none⟩ = some (.int .i64 0) ∧ wq.cell? ⟨V.heap.size, 0, none⟩ = some (.int .i64 y.k) ∧ wq.cell? ⟨V.heap.size, 1, none⟩ = some (.int .i64 y.x) from HF'.out)
      clear HF'
      have hB := HB.out
      rw [hd] at hB
      replace hB : fnB l zs zg = true := hB
      have hG := HG.out hd
      rw [← HX.out hd] at hG
      have CG := hide (I.get zs zg HUS.out NV1.out.pt)
      have CL := hide (fun wq (h : Ch (fun _ => False) V1 wq) => I.lives zs zg HUS.out (I.ch NV1.out.pt h (fun _ _ h => h)))
      have CF := hide (fun wq (h : Ch (fun _ => False) V1 wq) => I.free zs zg HUS.out (I.ch NV1.out.pt h (fun _ _ h => h)))
      have CS := hide (fun wq (h : Ch (fun _ => False) V1 wq) => I.set zs zg y.x HUS.out (I.ch NV1.out.pt h (fun _ _ h => h)))
      rw [hB, hG, show ec true 102 = 0 from rfl] at CG
      simp only [hB, show ec true 102 = 0 from rfl] at CL CF CS
      clear hB hG HG HB HX
      obtain ⟨t0, t1, x0, g0, o0, o1⟩ := HF.out V1 (Ch.refl _ _)
      go_wp2_with fail
      refine CG.out.mono ?_
      rintro e G1 ⟨rfl, hb⟩
      have C1 := hide (Ch.of_below (Q := fun _ => False) hb)
      clear hb t0 t1 x0 g0 o0 o1
      obtain ⟨t0, t1, x0, g0, o0, o1⟩ := HF.out G1 C1.out
      go_wp2_with fail
      refine (CL.out G1 C1.out).mono ?_
      rintro e G2 ⟨rfl, hb⟩
      have C2 := hide (C1.out.trans (Ch.of_below (Q := fun _ => False) hb) (fun _ _ h => h))
      clear hb t0 t1 x0 g0 o0 o1 C1
      obtain ⟨t0, t1, x0, g0, o0, o1⟩ := HF.out G2 C2.out
      have sG2 := C2.out.size
      by_cases k2 : y.k = 2
      · have r2 : (y.k == 2) = true := by simpa using k2
        have r4 : (y.k == 4) = false := beq_false_of_ne (by omega)
        clear k2
        go_wp2_with fail
        refine (CF.out G2 C2.out).mono ?_
        rintro e G3 ⟨F1, rfl, hp3, hc3, hf3⟩
        have NV2 := hide (NV1.out.ch0 I C2.out)
        have NV3 := hide (NV2.out.prog hc3 hp3 hf3)
        have BL3 := hide ((BL1.out.trans (C2.out.below (N := w.heap.size) BL1.out.size (fun _ _ h => h))).trans ((low_tab I NV2.out.pt hc3 (by omega)).mono HS1.out))
        have sG3 := hc3.size
        have o3 : G3.cell? ⟨V.heap.size, 0, none⟩ = some (.int .i64 y.k) := (hc3.cell (by omega) (fun e => by have := (I.foot NV.out.pt _ e).2; omega) _).trans o0
        have ng : ¬ F gg := NV1.out.fg gg rfl
        have b3 : G3.heap[gg]? = some (.cells cu1 3 (0, 0)) := hc3.box (C2.out.box hggb (fun h => h)) ng
        have g3 : G3.cell? ⟨gg, k, none⟩ = some (.int .i64 0) := (hc3.cell (by omega) ng _).trans g0
        have f3 : G3.frozen? ⟨gg, k, none⟩ = false := by simp [World.frozen?, b3]
        have ge : gg ≠ V.heap.size := fun e => by have := (own_in NV.out.gl (show (Value.slice (some ⟨gg, 0, none⟩) l.length gc).ownBlock = some gg from rfl)).2.1; omega
        have o4 : (G3.setCell ⟨gg, k, none⟩ (.int .i64 1)).cell? ⟨V.heap.size, 0, none⟩ = some (.int .i64 y.k) := ((Ch.set (Q := fun x => x = gg) G3 rfl k (.int .i64 1)).cell (by omega) (fun e => ge e.symm) _).trans o3
        have R4 := hide (show InRow (G3.setCell ⟨gg, k, none⟩ (.int .i64 1)) w1.heap.size (.slice (some ⟨gg, 0, none⟩) l.length gc) (gs.set k 1) by
          have h := NV3.out.gl
          rw [← gl'] at h ⊢
          have := Row.set h inF_len (i := k) (j := 0) (by omega) (by decide) (u := .int .i64 1) 1 rfl
          simpa using this)
        have NV4 := hide (NV3.out.gone I (Ch.set (Q := fun x => (Value.slice (some ⟨gg, 0, none⟩) l.length gc).ownBlock = some x) G3 rfl k (.int .i64 1)) R4.out (Or.inl rfl))
        have BL4 := hide (BL3.out.trans ((low_row NV3.out.gl (Ch.set (Q := fun x => (Value.slice (some ⟨gg, 0, none⟩) l.length gc).ownBlock = some x) G3 rfl k (.int .i64 1)) (by omega)).mono HS1.out))
        have NF' := hide (NF.out hd)
        have hcn := NF'.out.2
        clear hp3 hc3 hf3 t0 t1 x0 g0 o0 o1 b3 o3 R4 NV2 NV3 BL3 CF CL CS CG NS NT
        go_wp2
        go_roundw
        case rel => exact ⟨i + 1, xs, gs.set k 1, frd l zs zg, F1, by go_num, by omega, by omega, hide (by rw [HFR.out]; exact NV4.out), hide NF'.out.1, by rw [frd_len]; omega, (by have e := NF'.out.2; have hl2 := cnt_le l; rw [wr_in _ (by omega)]; exact congrArg (Value.int .i64) (by omega)), BL4, by rw [size_set]; omega⟩
        case measure => simp [intOf]; omega
      by_cases k4 : y.k = 4
      · have r2 : (y.k == 2) = false := beq_false_of_ne (by omega)
        have r4 : (y.k == 4) = true := by simpa using k4
        clear k2 k4
        have nO : ¬ F V.heap.size := fun e => by have := (I.foot NV.out.pt _ e).2; omega
        have nt : ¬ F tt := NV1.out.ft tt rfl
        have nx : ¬ F xx := NV1.out.fx xx rfl
        have HT4 := hide (fun wq (h : Ch F G2 wq) => And.intro ((h.cell (b := tt) (by omega) nt _).trans t0) ((h.cell (b := tt) (by omega) nt _).trans t1))
        have HO4 := hide (fun wq (h : Ch F G2 wq) => (h.cell (b := V.heap.size) (by omega) nO _).trans o1)
        have HB4 := hide (fun wq (h : Ch F G2 wq) => And.intro (h.box (C2.out.box hxxb (fun h => h)) nx) ((h.cell (b := xx) (by omega) nx _).trans x0))
        have NV2 := hide (NV1.out.ch0 I C2.out)
        go_wp2
        clear t0 t1 x0 g0 o1 o0
        refine wp_region_held_drew (S := Ch F G2) (by kernel_rfl) (Ch.drew _) (fun zk => ?_)
        apply tk 0 nb0 rfl (by kernel_rfl) (fun _ _ _ h => h) zk
        · intro wq zq
          go_simp
          try rfl
        go_frame
        apply tk 1 nb1 rfl (by kernel_rfl) (fun _ _ _ h => h) zk
        · intro wq zq
          go_simp
          try rfl
        go_frame
        apply tk 2 nb2 rfl (by kernel_rfl) (fun _ _ _ h => h) zk
        · intro wq zq
          go_simp
          try rfl
        go_frame
        apply tk 3 nb3 rfl (by kernel_rfl) (fun _ _ _ h => h) zk
        · intro wq zq
          go_simp
          try rfl
        go_frame
        apply tk 4 nb4 rfl (by kernel_rfl) (fun _ _ _ h => h) zk
        · intro wq zq
          obtain ⟨s1, s2⟩ := HT4.out _ zq
          go_simp
          try rfl
        go_frame
        apply tk 5 nb5 rfl (by kernel_rfl) (fun _ _ _ h => h) zk
        · intro wq zq
          go_simp
          try rfl
        go_frame
        apply tk 6 nb6 rfl (by kernel_rfl) (fun _ _ _ h => h) zk
        · intro wq zq
          have s3 := HO4.out _ zq
          go_simp
          try rfl
        go_frame
        refine rd 7 nb7 rfl (by kernel_rfl) fun K hK => ?_
        go_simp
        refine (CS.out _ (C2.out.trans (Ch.drew (Q := fun _ => False) G2) (fun _ _ h => h))).mono ?_
        rintro e G3 ⟨F1, rfl, hp3, hc3, hf3⟩
        have Z3 := hide ((Ch.drew (Q := F) G2).trans hc3 (fun _ _ h => h))
        have HP3 := hide (And.intro hp3 (show ∀ y, F1 y → F y ∨ G2.heap.size ≤ y from hf3))
        clear hp3 hc3 hf3
        go_wp2_with fail
        refine hK.out _ _ ?_ (fun zk => ?_)
        · exact Z3.out
        clear hK K
        try go_frame
        apply tk 8 nb8 rfl (by kernel_rfl) (fun _ _ _ h => h) zk
        · intro wq zq
          go_simp
          try rfl
        go_frame
        refine wpAnyH_done (by kernel_rfl) ?_ _
        have NV3 := hide (NV2.out.prog Z3.out HP3.out.1 HP3.out.2)
        have BL3 := hide ((BL1.out.trans (C2.out.below (N := w.heap.size) BL1.out.size (fun _ _ h => h))).trans ((low_tab I NV2.out.pt Z3.out (by omega)).mono HS1.out))
        have sG3 := Z3.out.size
        have o3 := HO4.out _ Z3.out
        obtain ⟨b3, x3⟩ := HB4.out _ Z3.out
        have f3 : G3.frozen? ⟨xx, k, none⟩ = false := by simp [World.frozen?, b3]
        have R4 := hide (show InRow (G3.setCell ⟨xx, k, none⟩ (.int .i64 y.x)) w1.heap.size (.slice (some ⟨xx, 0, none⟩) l.length xc) (xs.set k y.x) by
          have h := NV3.out.xl
          rw [← xl'] at h ⊢
          have := Row.set h inF_len (i := k) (j := 0) (by omega) (by decide) (u := .int .i64 y.x) y.x rfl
          simpa using this)
        have NV4 := hide (NV3.out.thing I (Ch.set (Q := fun x => (Value.slice (some ⟨xx, 0, none⟩) l.length xc).ownBlock = some x) G3 rfl k (.int .i64 y.x)) R4.out (Or.inl rfl))
        have BL4 := hide (BL3.out.trans ((low_row NV3.out.xl (Ch.set (Q := fun x => (Value.slice (some ⟨xx, 0, none⟩) l.length xc).ownBlock = some x) G3 rfl k (.int .i64 y.x)) (by omega)).mono HS1.out))
        clear R4 NV2 NV3 BL3 CF CL CS CG NS NF b3 HT4 HO4 HB4
        go_wp2
        go_roundw
        case rel => exact ⟨i + 1, xs.set k y.x, gs, std l zs zg y.x, F1, by go_num, by omega, by omega, hide (by rw [HST.out]; exact NV4.out), hide NT.out.1, by rw [std_len]; omega, by rw [NT.out.2], BL4, by rw [size_set]; omega⟩
        case measure => simp [intOf]; omega
      have r2 : (y.k == 2) = false := beq_false_of_ne (by omega)
      have r4 : (y.k == 4) = false := beq_false_of_ne (by omega)
      clear k2 k4
      go_wp2
      go_roundw
      case rel => exact ⟨i + 1, xs, gs, l, F, by go_num, by omega, by omega, hide (NV1.out.ch0 I C2.out), NL, by omega, rfl, hide (BL1.out.trans (C2.out.below (N := w.heap.size) BL1.out.size (fun _ _ h => h))), by omega⟩
      case measure => simp [intOf]; omega
    · have HF' := hide (fun wq h => by have := HF.out wq h; rw [hd] at this; exact this)
      clear HF
      have HF := hide (show ∀ wq, Ch (fun _ => False) V1 wq → wq.cell? ⟨tt, k * 2, none⟩ = some (.int .u32 zs) ∧ wq.cell? ⟨tt, k * 2 + 1, none⟩ = some (.int .u32 zg) ∧ wq.cell? ⟨xx, k, none⟩ = some (.int .i64 zx) ∧ wq.cell? ⟨gg, k, none⟩ = some (.int .i64 1) ∧ wq.cell? ⟨V.heap.size, 0, none⟩ = some (.int .i64 y.k) ∧ wq.cell? ⟨V.heap.size, 1, none⟩ = some (.int .i64 y.x) from HF'.out)
      clear HF'
      have hB := HB.out
      rw [hd] at hB
      replace hB : fnB l zs zg = false := hB
      generalize hG : gtX l zs zg = gx
      have CG := hide (I.get zs zg HUS.out NV1.out.pt)
      have CL := hide (fun wq (h : Ch (fun _ => False) V1 wq) => I.lives zs zg HUS.out (I.ch NV1.out.pt h (fun _ _ h => h)))
      have CF := hide (fun wq (h : Ch (fun _ => False) V1 wq) => I.free zs zg HUS.out (I.ch NV1.out.pt h (fun _ _ h => h)))
      have CS := hide (fun wq (h : Ch (fun _ => False) V1 wq) => I.set zs zg y.x HUS.out (I.ch NV1.out.pt h (fun _ _ h => h)))
      rw [hB, hG, show ec false 102 = 102 from rfl] at CG
      simp only [hB, show ec false 102 = 102 from rfl] at CL CF CS
      clear hB hG HG HB HX
      obtain ⟨t0, t1, x0, g0, o0, o1⟩ := HF.out V1 (Ch.refl _ _)
      go_wp2_with fail
      refine CG.out.mono ?_
      rintro e G1 ⟨rfl, hb⟩
      have C1 := hide (Ch.of_below (Q := fun _ => False) hb)
      clear hb t0 t1 x0 g0 o0 o1
      obtain ⟨t0, t1, x0, g0, o0, o1⟩ := HF.out G1 C1.out
      go_wp2_with fail
      refine (CL.out G1 C1.out).mono ?_
      rintro e G2 ⟨rfl, hb⟩
      have C2 := hide (C1.out.trans (Ch.of_below (Q := fun _ => False) hb) (fun _ _ h => h))
      clear hb t0 t1 x0 g0 o0 o1 C1
      obtain ⟨t0, t1, x0, g0, o0, o1⟩ := HF.out G2 C2.out
      have sG2 := C2.out.size
      by_cases k2 : y.k = 2
      · have r2 : (y.k == 2) = true := by simpa using k2
        have r4 : (y.k == 4) = false := beq_false_of_ne (by omega)
        clear k2
        go_wp2_with fail
        refine (CF.out G2 C2.out).mono ?_
        rintro e G3 ⟨F1, rfl, hp3, hc3, hf3⟩
        have NV2 := hide (NV1.out.ch0 I C2.out)
        have NV3 := hide (NV2.out.prog hc3 hp3 hf3)
        have BL3 := hide ((BL1.out.trans (C2.out.below (N := w.heap.size) BL1.out.size (fun _ _ h => h))).trans ((low_tab I NV2.out.pt hc3 (by omega)).mono HS1.out))
        have sG3 := hc3.size
        have o3 : G3.cell? ⟨V.heap.size, 0, none⟩ = some (.int .i64 y.k) := (hc3.cell (by omega) (fun e => by have := (I.foot NV.out.pt _ e).2; omega) _).trans o0
        have NV4 := hide (show Nv PT G3 w1.heap.size p _ _ _ (hnds l) xs gs l (n + 1) F1 by have := NV3.out; rwa [(NS.out hd).1] at this)
        clear hp3 hc3 hf3 t0 t1 x0 g0 o0 o1 NV2 NV3 CF CL CS CG NS NT
        go_wp2
        go_roundw
        case rel => exact ⟨i + 1, xs, gs, l, F1, by go_num, by omega, by omega, NV4, NL, by omega, rfl, BL3, by omega⟩
        case measure => simp [intOf]; omega
      by_cases k4 : y.k = 4
      · have r2 : (y.k == 2) = false := beq_false_of_ne (by omega)
        have r4 : (y.k == 4) = true := by simpa using k4
        clear k2 k4
        have nO : ¬ F V.heap.size := fun e => by have := (I.foot NV.out.pt _ e).2; omega
        have nt : ¬ F tt := NV1.out.ft tt rfl
        have nx : ¬ F xx := NV1.out.fx xx rfl
        have HT4 := hide (fun wq (h : Ch F G2 wq) => And.intro ((h.cell (b := tt) (by omega) nt _).trans t0) ((h.cell (b := tt) (by omega) nt _).trans t1))
        have HO4 := hide (fun wq (h : Ch F G2 wq) => (h.cell (b := V.heap.size) (by omega) nO _).trans o1)
        have HB4 := hide (fun wq (h : Ch F G2 wq) => And.intro (h.box (C2.out.box hxxb (fun h => h)) nx) ((h.cell (b := xx) (by omega) nx _).trans x0))
        have NV2 := hide (NV1.out.ch0 I C2.out)
        go_wp2
        clear t0 t1 x0 g0 o1 o0
        refine wp_region_held_drew (S := Ch F G2) (by kernel_rfl) (Ch.drew _) (fun zk => ?_)
        apply tk 0 nb0 rfl (by kernel_rfl) (fun _ _ _ h => h) zk
        · intro wq zq
          go_simp
          try rfl
        go_frame
        apply tk 1 nb1 rfl (by kernel_rfl) (fun _ _ _ h => h) zk
        · intro wq zq
          go_simp
          try rfl
        go_frame
        apply tk 2 nb2 rfl (by kernel_rfl) (fun _ _ _ h => h) zk
        · intro wq zq
          go_simp
          try rfl
        go_frame
        apply tk 3 nb3 rfl (by kernel_rfl) (fun _ _ _ h => h) zk
        · intro wq zq
          go_simp
          try rfl
        go_frame
        apply tk 4 nb4 rfl (by kernel_rfl) (fun _ _ _ h => h) zk
        · intro wq zq
          obtain ⟨s1, s2⟩ := HT4.out _ zq
          go_simp
          try rfl
        go_frame
        apply tk 5 nb5 rfl (by kernel_rfl) (fun _ _ _ h => h) zk
        · intro wq zq
          go_simp
          try rfl
        go_frame
        apply tk 6 nb6 rfl (by kernel_rfl) (fun _ _ _ h => h) zk
        · intro wq zq
          have s3 := HO4.out _ zq
          go_simp
          try rfl
        go_frame
        refine rd 7 nb7 rfl (by kernel_rfl) fun K hK => ?_
        go_simp
        refine (CS.out _ (C2.out.trans (Ch.drew (Q := fun _ => False) G2) (fun _ _ h => h))).mono ?_
        rintro e G3 ⟨F1, rfl, hp3, hc3, hf3⟩
        have Z3 := hide ((Ch.drew (Q := F) G2).trans hc3 (fun _ _ h => h))
        have HP3 := hide (And.intro hp3 (show ∀ y, F1 y → F y ∨ G2.heap.size ≤ y from hf3))
        clear hp3 hc3 hf3
        go_wp2_with fail
        refine hK.out _ _ ?_ (fun zk => ?_)
        · exact Z3.out
        clear hK K
        try go_frame
        apply tk 8 nb8 rfl (by kernel_rfl) (fun _ _ _ h => h) zk
        · intro wq zq
          go_simp
          try rfl
        go_frame
        refine wpAnyH_done (by kernel_rfl) ?_ _
        have NV3 := hide (NV2.out.prog Z3.out HP3.out.1 HP3.out.2)
        have BL3 := hide ((BL1.out.trans (C2.out.below (N := w.heap.size) BL1.out.size (fun _ _ h => h))).trans ((low_tab I NV2.out.pt Z3.out (by omega)).mono HS1.out))
        have sG3 := Z3.out.size
        have o3 := HO4.out _ Z3.out
        obtain ⟨b3, x3⟩ := HB4.out _ Z3.out
        have f3 : G3.frozen? ⟨xx, k, none⟩ = false := by simp [World.frozen?, b3]
        have R4 := hide (show InRow (G3.setCell ⟨xx, k, none⟩ (.int .i64 y.x)) w1.heap.size (.slice (some ⟨xx, 0, none⟩) l.length xc) (xs.set k y.x) by
          have h := NV3.out.xl
          rw [← xl'] at h ⊢
          have := Row.set h inF_len (i := k) (j := 0) (by omega) (by decide) (u := .int .i64 y.x) y.x rfl
          simpa using this)
        have NV4 := hide (NV3.out.thing I (Ch.set (Q := fun x => (Value.slice (some ⟨xx, 0, none⟩) l.length xc).ownBlock = some x) G3 rfl k (.int .i64 y.x)) R4.out (Or.inl rfl))
        have BL4 := hide (BL3.out.trans ((low_row NV3.out.xl (Ch.set (Q := fun x => (Value.slice (some ⟨xx, 0, none⟩) l.length xc).ownBlock = some x) G3 rfl k (.int .i64 y.x)) (by omega)).mono HS1.out))
        clear R4 NV2 NV3 BL3 CF CL CS CG NS NF b3 HT4 HO4 HB4
        go_wp2
        go_roundw
        case rel => exact ⟨i + 1, xs.set k y.x, gs, std l zs zg y.x, F1, by go_num, by omega, by omega, hide (by rw [HST.out]; exact NV4.out), hide NT.out.1, by rw [std_len]; omega, by rw [NT.out.2], BL4, by rw [size_set]; omega⟩
        case measure => simp [intOf]; omega
      have r2 : (y.k == 2) = false := beq_false_of_ne (by omega)
      have r4 : (y.k == 4) = false := beq_false_of_ne (by omega)
      clear k2 k4
      go_wp2
      go_roundw
      case rel => exact ⟨i + 1, xs, gs, l, F, by go_num, by omega, by omega, hide (NV1.out.ch0 I C2.out), NL, by omega, rfl, hide (BL1.out.trans (C2.out.below (N := w.heap.size) BL1.out.size (fun _ _ h => h))), by omega⟩
      case measure => simp [intOf]; omega

end Go.Proofs.Ytjilnmeegolpkaa
