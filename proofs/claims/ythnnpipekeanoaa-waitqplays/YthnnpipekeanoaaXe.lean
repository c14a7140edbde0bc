/- Layer 11: the law's book of lists: a list is written over. -/
import Derived.Test.YthnnpipekeanoaaXd
namespace Go.Proofs.Ythnnpipekeanoaa
open Go.RowKit

def rc77 (i : Nat) : Rc := ⟨0, 0, 0, 0, 0, 0, 0, -77 - (i : Int), 0, 0, 0⟩

abbrev pg0 : Oper := { dst := some 56, op := Op.move (Operand.tmp 0), type := 77, pos := "law.go:71", after := #[], guard := none }
abbrev pg1 : Oper := { dst := some 57, op := Op.nilCheck (Operand.tmp 56), type := 0, pos := "law.go:71", after := #[{ on := 0, ground := Ground.data }], guard := none }
abbrev pg2 : Oper := { dst := some 58, op := Op.fieldAddr 35 (Operand.tmp 57) 0, type := 0, pos := "law.go:71", after := #[{ on := 1, ground := Ground.data }], guard := none }
abbrev pg3 : Oper := { dst := some 59, op := Op.load 33 (Operand.tmp 58), type := 33, pos := "law.go:71", after := #[{ on := 2, ground := Ground.data }], guard := none }
abbrev pg4 : Oper := { dst := some 60, op := Op.move (Operand.tmp 3), type := 3, pos := "law.go:71", after := #[], guard := none }
abbrev pg5 : Oper := { dst := some 61, op := Op.move (Operand.tmp 0), type := 77, pos := "law.go:71", after := #[], guard := none }
abbrev pg6 : Oper := { dst := some 62, op := Op.nilCheck (Operand.tmp 61), type := 0, pos := "law.go:71", after := #[{ on := 5, ground := Ground.data }], guard := none }
abbrev pg7 : Oper := { dst := some 63, op := Op.fieldAddr 35 (Operand.tmp 62) 0, type := 0, pos := "law.go:71", after := #[{ on := 6, ground := Ground.data }], guard := none }
abbrev pg8 : Oper := { dst := some 64, op := Op.load 33 (Operand.tmp 63), type := 33, pos := "law.go:71", after := #[{ on := 7, ground := Ground.data }], guard := none }
abbrev pg9 : Oper := { dst := some 65, op := Op.move (Operand.tmp 3), type := 3, pos := "law.go:71", after := #[], guard := none }
abbrev pg10 : Oper := { dst := some 66, op := Op.indexAddr 33 (Operand.tmp 64) (Operand.tmp 65), type := 0, pos := "law.go:71", after := #[{ on := 8, ground := Ground.data }, { on := 9, ground := Ground.data }], guard := none }
abbrev pg11 : Oper := { dst := some 67, op := Op.load 28 (Operand.tmp 66), type := 28, pos := "law.go:71", after := #[{ on := 10, ground := Ground.data }], guard := none }
abbrev pg12 : Oper := { dst := some 68, op := Op.move (Operand.tmp 3), type := 3, pos := "law.go:71", after := #[], guard := none }
abbrev pg13 : Oper := { dst := some 69, op := Op.binOp BinOp.sub 3 (Operand.const (Value.int IntKind.i64 (-77))) (Operand.tmp 68) 3, type := 3, pos := "law.go:71", after := #[{ on := 12, ground := Ground.data }], guard := none }
abbrev pg14 : Oper := { dst := some 70, op := Op.build 57 #[(3, Operand.tmp 69)], type := 57, pos := "law.go:71", after := #[{ on := 13, ground := Ground.data }], guard := none }
abbrev pg15 : Oper := { dst := some 71, op := Op.move (Operand.tmp 3), type := 3, pos := "law.go:71", after := #[], guard := none }
abbrev pg16 : Oper := { dst := some 72, op := Op.binOp BinOp.sub 3 (Operand.const (Value.int IntKind.i64 (-77))) (Operand.tmp 71) 3, type := 3, pos := "law.go:71", after := #[{ on := 15, ground := Ground.data }], guard := none }
abbrev pg17 : Oper := { dst := some 73, op := Op.build 57 #[(3, Operand.tmp 72)], type := 57, pos := "law.go:71", after := #[{ on := 16, ground := Ground.data }], guard := none }
abbrev pg18 : Oper := { dst := some 74, op := Op.buildSlice 28 2 #[(0, Operand.tmp 70), (1, Operand.tmp 73)], type := 28, pos := "law.go:71", after := #[{ on := 14, ground := Ground.data }, { on := 17, ground := Ground.data }], guard := none }
abbrev pg19 : Oper := { dst := some 75, op := Op.call { callee := Callee.builtin Builtin.append, args := #[Operand.tmp 67, Operand.tmp 74], argTypes := #[28, 28] }, type := 28, pos := "law.go:71", after := #[{ on := 11, ground := Ground.data }, { on := 18, ground := Ground.data }], guard := none }
abbrev pg20 : Oper := { dst := some 76, op := Op.indexAddr 33 (Operand.tmp 59) (Operand.tmp 60), type := 0, pos := "law.go:71", after := #[{ on := 3, ground := Ground.data }, { on := 4, ground := Ground.data }, { on := 0, ground := Ground.phase }, { on := 1, ground := Ground.phase }, { on := 2, ground := Ground.phase }, { on := 3, ground := Ground.phase }, { on := 4, ground := Ground.phase }, { on := 5, ground := Ground.phase }, { on := 6, ground := Ground.phase }, { on := 7, ground := Ground.phase }, { on := 8, ground := Ground.phase }, { on := 9, ground := Ground.phase }, { on := 10, ground := Ground.phase }, { on := 11, ground := Ground.phase }, { on := 12, ground := Ground.phase }, { on := 13, ground := Ground.phase }, { on := 14, ground := Ground.phase }, { on := 15, ground := Ground.phase }, { on := 16, ground := Ground.phase }, { on := 17, ground := Ground.phase }, { on := 18, ground := Ground.phase }, { on := 19, ground := Ground.phase }], guard := none }
abbrev pg21 : Oper := { dst := none, op := Op.store 28 (Operand.tmp 76) (Operand.tmp 75), type := 0, pos := "law.go:71", after := #[{ on := 20, ground := Ground.data }, { on := 19, ground := Ground.data }, { on := 19, ground := Ground.chain }, { on := 0, ground := Ground.phase }, { on := 1, ground := Ground.phase }, { on := 2, ground := Ground.phase }, { on := 3, ground := Ground.phase }, { on := 4, ground := Ground.phase }, { on := 5, ground := Ground.phase }, { on := 6, ground := Ground.phase }, { on := 7, ground := Ground.phase }, { on := 8, ground := Ground.phase }, { on := 9, ground := Ground.phase }, { on := 10, ground := Ground.phase }, { on := 11, ground := Ground.phase }, { on := 12, ground := Ground.phase }, { on := 13, ground := Ground.phase }, { on := 14, ground := Ground.phase }, { on := 15, ground := Ground.phase }, { on := 16, ground := Ground.phase }, { on := 17, ground := Ground.phase }, { on := 18, ground := Ground.phase }, { on := 19, ground := Ground.phase }], guard := none }

set_option maxRecDepth 100000 in
set_option maxHeartbeats 8000000 in
theorem over_r11 {u1 u2 u4 u5 u6 u7 u8 u9 u10 u11 u12 u13 u14 u15 u16 u17 u18 u19 u20 u21 u22 u23 u24 u25 u26 u27 u28 u29 u30 u31 u32 u33 u34 u35 u36 u37 u38 u39 u40 u41 u42 u43 u44 u45 u46 u47 u48 u49 u50 u51 u52 u53 u54 u55 u56 u57 u58 u59 u60 u61 u62 u63 u64 u65 u66 u67 u68 u69 u70 u71 u72 u73 u74 u75 u76 : Value} {W : World} {B T i : Nat} {av bv tv lv wv v : Value} {ls : List Value} {B1 : Nat} {rs : List Rc} (hT : W.heap[T]? = some (.cells #[av, bv, tv, lv, wv] 37 (0, 0))) (hl : LsRow W B lv ls) (hl2 : ls.length ≤ 100000) (hi : i < ls.length) (ev : ls[i] = v) (hv : RcRow W B1 v rs) (hr : rs.length ≤ 100000) (hB1 : B1 ≤ W.heap.size)
    {K : Act → World → Prop} (hK0 : ∀ (x : Value) W', LsRow W' B lv (ls.set i x) → Ch (fun y => lv.ownBlock = some y ∨ v.ownBlock = some y) W W' → ∀ (u56 u57 u58 u59 u60 u61 u62 u63 u64 u65 u66 u67 u68 u69 u70 u71 u72 u73 u74 u75 u76 : Value), K { tmps := List.toArray ((.pointer (some ⟨T, 3, none⟩)) :: u1 :: u2 :: (.int .i64 (i : Int)) :: u4 :: u5 :: u6 :: u7 :: u8 :: u9 :: u10 :: u11 :: u12 :: u13 :: u14 :: u15 :: u16 :: u17 :: u18 :: u19 :: u20 :: u21 :: u22 :: u23 :: u24 :: u25 :: u26 :: u27 :: u28 :: u29 :: u30 :: u31 :: u32 :: u33 :: u34 :: u35 :: u36 :: u37 :: u38 :: u39 :: u40 :: u41 :: u42 :: u43 :: u44 :: u45 :: u46 :: u47 :: u48 :: u49 :: u50 :: u51 :: u52 :: u53 :: u54 :: u55 :: u56 :: u57 :: u58 :: u59 :: u60 :: u61 :: u62 :: u63 :: u64 :: u65 :: u66 :: u67 :: u68 :: u69 :: u70 :: u71 :: u72 :: u73 :: u74 :: u75 :: u76 :: []), defers := [] } W') :
    (Code.region 11 #[pg0, pg1, pg2, pg3, pg4, pg5, pg6, pg7, pg8, pg9, pg10, pg11, pg12, pg13, pg14, pg15, pg16, pg17, pg18, pg19, pg20, pg21] true).wp Try.prog (Exit.then K (fun _ _ _ => False)) { tmps := List.toArray ((.pointer (some ⟨T, 3, none⟩)) :: u1 :: u2 :: (.int .i64 (i : Int)) :: u4 :: u5 :: u6 :: u7 :: u8 :: u9 :: u10 :: u11 :: u12 :: u13 :: u14 :: u15 :: u16 :: u17 :: u18 :: u19 :: u20 :: u21 :: u22 :: u23 :: u24 :: u25 :: u26 :: u27 :: u28 :: u29 :: u30 :: u31 :: u32 :: u33 :: u34 :: u35 :: u36 :: u37 :: u38 :: u39 :: u40 :: u41 :: u42 :: u43 :: u44 :: u45 :: u46 :: u47 :: u48 :: u49 :: u50 :: u51 :: u52 :: u53 :: u54 :: u55 :: u56 :: u57 :: u58 :: u59 :: u60 :: u61 :: u62 :: u63 :: u64 :: u65 :: u66 :: u67 :: u68 :: u69 :: u70 :: u71 :: u72 :: u73 :: u74 :: u75 :: u76 :: []), defers := [] } W := by
  obtain ⟨i0, hi0, hz0, hz1, hz2⟩ := nf_open nfRc
  obtain ⟨lg, lc, rfl, hlc, -, hlg, hlat, hfz⟩ := hl.at (by omega)
  obtain ⟨va, vn, vc, rfl⟩ := own_form hv
  have w77 : IntKind.i64.wrap (-77 - (i : Int)) = -77 - (i : Int) := by rw [IntKind.wrap_i64]; omega
  have HC := hide (show ∀ wq, Ch (fun y => (Value.slice (some ⟨lg, 0, none⟩) ls.length lc).ownBlock = some y ∨ (Value.slice va vn vc).ownBlock = some y) W wq → wq.cell? ⟨T, 3, none⟩ = some (.slice (some ⟨lg, 0, none⟩) ls.length lc) from fun wq zq => by
    have k1 := Lib.cell_of_heap (zq.box hT (fun e => e.elim (fun e => own_box hl hT (by decide) e) (fun e => own_box hv hT (by decide) e)))
    simp [k1])
  have at0 : W.cell? ⟨lg, i, none⟩ = some (.slice va vn vc) := by rw [hlat i hi, ev]
  have HAT0 := hide at0
  have HAT := hide (show (W.alloc (.cells #[.int .u32 0, .int .u32 0, .int .u32 0, .int .u32 0, .int .u32 0, .int .u32 0, .int .i64 0, .int .i64 (-77 - (i : Int)), .int .i64 0, .int .u32 0, .int .u32 0, .int .u32 0, .int .u32 0, .int .u32 0, .int .u32 0, .int .u32 0, .int .u32 0, .int .i64 0, .int .i64 (-77 - (i : Int)), .int .i64 0, .int .u32 0, .int .u32 0] 57)).cell? ⟨lg, i, none⟩ = some (.slice va vn vc) by rw [(Ch.alloc (Q := fun _ => False) W _).cell hlg (fun h => h)]; exact at0)
  have LG := hide (show lg < (W.alloc (.cells #[.int .u32 0, .int .u32 0, .int .u32 0, .int .u32 0, .int .u32 0, .int .u32 0, .int .i64 0, .int .i64 (-77 - (i : Int)), .int .i64 0, .int .u32 0, .int .u32 0, .int .u32 0, .int .u32 0, .int .u32 0, .int .u32 0, .int .u32 0, .int .u32 0, .int .i64 0, .int .i64 (-77 - (i : Int)), .int .i64 0, .int .u32 0, .int .u32 0] 57)).drew.heap.size by show lg < (W.alloc _).heap.size; simp; omega)
  have HL := hide hl
  have HV := hide hv
  have HK := hide hK0
  clear hK0 hT hl hlat hfz hv ev at0
  refine wp_region_held_drew (S := Ch (fun y => (Value.slice (some ⟨lg, 0, none⟩) ls.length lc).ownBlock = some y ∨ (Value.slice va vn vc).ownBlock = some y) W) (by kernel_rfl) (Ch.drew _) (fun zk => ?_)
  apply tk 0 pg0 rfl (by kernel_rfl) (fun _ _ _ h => h) zk
  · intro wq zq
    go_simp
    try rfl
  go_frame
  apply tk 1 pg1 rfl (by kernel_rfl) (fun _ _ _ h => h) zk
  · intro wq zq
    go_simp
    try rfl
  go_frame
  apply tk 2 pg2 rfl (by kernel_rfl) (fun _ _ _ h => h) zk
  · intro wq zq
    go_simp
    try rfl
  go_frame
  apply tk 3 pg3 rfl (by kernel_rfl) (fun _ _ _ h => h) zk
  · intro wq zq
    have s1 := HC.out _ zq
    go_simp
    try rfl
  go_frame
  apply tk 4 pg4 rfl (by kernel_rfl) (fun _ _ _ h => h) zk
  · intro wq zq
    go_simp
    try rfl
  go_frame
  apply tk 5 pg5 rfl (by kernel_rfl) (fun _ _ _ h => h) zk
  · intro wq zq
    go_simp
    try rfl
  go_frame
  apply tk 6 pg6 rfl (by kernel_rfl) (fun _ _ _ h => h) zk
  · intro wq zq
    go_simp
    try rfl
  go_frame
  apply tk 7 pg7 rfl (by kernel_rfl) (fun _ _ _ h => h) zk
  · intro wq zq
    go_simp
    try rfl
  go_frame
  apply tk 8 pg8 rfl (by kernel_rfl) (fun _ _ _ h => h) zk
  · intro wq zq
    have s1 := HC.out _ zq
    go_simp
    try rfl
  go_frame
  apply tk 9 pg9 rfl (by kernel_rfl) (fun _ _ _ h => h) zk
  · intro wq zq
    go_simp
    try rfl
  go_frame
  apply tk 10 pg10 rfl (by kernel_rfl) (fun _ _ _ h => h) zk
  · intro wq zq
    go_simp
    try rfl
  go_frame
  apply tk 12 pg12 rfl (by kernel_rfl) (fun _ _ _ h => h) zk
  · intro wq zq
    go_simp
    try rfl
  go_frame
  apply tk 13 pg13 rfl (by kernel_rfl) (fun _ _ _ h => h) zk
  · intro wq zq
    go_simp
    try rfl
  go_frame
  apply tk 14 pg14 rfl (by kernel_rfl) (fun _ _ _ h => h) zk
  · intro wq zq
    go_simp
    try rfl
  go_frame
  apply tk 15 pg15 rfl (by kernel_rfl) (fun _ _ _ h => h) zk
  · intro wq zq
    go_simp
    try rfl
  go_frame
  apply tk 16 pg16 rfl (by kernel_rfl) (fun _ _ _ h => h) zk
  · intro wq zq
    go_simp
    try rfl
  go_frame
  apply tk 17 pg17 rfl (by kernel_rfl) (fun _ _ _ h => h) zk
  · intro wq zq
    go_simp
    try rfl
  go_frame
  refine wpAnyH_ready (rs := [11, 18]) (by kernel_rfl) (by simp) ?_
  refine AllReadyH.cons (o := pg11) rfl (fun K hK => ?_) (AllReadyH.cons (o := pg18) rfl (fun K hK => ?_) AllReadyH.nil)
  · have s1 := HAT0.out
    go_simp
    refine hK.out _ _ ?_ (fun zk => ?_)
    · exact zk
    clear hK K
    try go_frame
    clear s1
    refine Go.Proofs.Ythnnpipekeanoaa.rd 18 pg18 rfl (by kernel_rfl) fun K hK => ?_
    go_simp
    refine hK.out _ _ ?_ (fun zk => ?_)
    · exact zk.trans (Ch.alloc (Q := fun y => (Value.slice (some ⟨lg, 0, none⟩) ls.length lc).ownBlock = some y ∨ (Value.slice va vn vc).ownBlock = some y) _ _) (fun _ _ h => h)
    clear hK K
    try go_frame
    have CV := hide ((Ch.alloc (Q := fun _ => False) W (.cells #[.int .u32 0, .int .u32 0, .int .u32 0, .int .u32 0, .int .u32 0, .int .u32 0, .int .i64 0, .int .i64 (-77 - (i : Int)), .int .i64 0, .int .u32 0, .int .u32 0, .int .u32 0, .int .u32 0, .int .u32 0, .int .u32 0, .int .u32 0, .int .u32 0, .int .i64 0, .int .i64 (-77 - (i : Int)), .int .i64 0, .int .u32 0, .int .u32 0] 57)).trans (Ch.drew (Q := fun _ => False) _) (fun _ _ h => h))
    have RV := hide (HV.out.ch CV.out (fun _ _ h => h))
    have LV := hide (HL.out.ch CV.out (fun _ _ h => h))
    refine Go.Proofs.Ythnnpipekeanoaa.rd 19 pg19 rfl (by kernel_rfl) fun K hK => ?_
    refine step_append_at rfl (.tmp 67) (.tmp 74) 28 rfl B1 57 i0 (rcV zRc) 11 56 Try.underlying28 hi0 hz0 hz1 hz2 rfl (by decide) (.slice va vn vc) rs.length (rs.flatMap rcF) rfl RV.out ⟨W.heap.size, 0, none⟩ 2 2 (rcF (rc77 i) ++ rcF (rc77 i)) rfl rfl (row_new W (rcF (rc77 i) ++ rcF (rc77 i)) 57 rfl) (fun u hu => (List.mem_append.1 hu).elim (rcF_one _ u) (rcF_one _ u)) (by unfold maxLen; omega) (by omega) (by show B1 ≤ (W.alloc _).heap.size; simp; omega) ?_
    intro x5 W5 hr5 hg5 _
    have C5 := hide (Ch.of_grown (Q := fun y => (Value.slice va vn vc).ownBlock = some y) hg5 (fun _ e => e))
    have L5 := hide (LV.out.ch C5.out (fun x hx e => own_ne LV.out RV.out (by decide) x hx e))
    obtain ⟨a5, n5, c5, e5⟩ := own_form hr5
    subst e5
    have Z5 := hide (zk.trans (C5.out.mono (fun _ _ h => Or.inr h)) (fun _ _ h => h))
    clear hr5 hg5
    have y5 : W5.cell? ⟨lg, i, none⟩ = some (.slice va vn vc) := by rw [C5.out.cell (LG.out) (fun e => own_ne LV.out RV.out (by decide) lg rfl e)]; exact HAT.out
    have f5 : W5.frozen? ⟨lg, i, none⟩ = false := by obtain ⟨_, _, cur, k⟩ := own_in L5.out (g := lg) rfl; simp [World.frozen?, k]
    refine hK.out _ _ ?_ (fun zk => ?_)
    · exact Z5.out
    clear hK K
    try go_frame
    apply tk 20 pg20 rfl (by kernel_rfl) (fun _ _ _ h => h) zk
    · intro wq zq
      go_simp
      try rfl
    go_frame
    refine Go.Proofs.Ythnnpipekeanoaa.rd 21 pg21 rfl (by kernel_rfl) fun K hK => ?_
    go_simp
    refine hK.out _ _ ?_ (fun zk => ?_)
    · exact Z5.out.trans (Ch.set (Q := fun y => (Value.slice (some ⟨lg, 0, none⟩) ls.length lc).ownBlock = some y ∨ (Value.slice va vn vc).ownBlock = some y) _ (Or.inl rfl) _ _) (fun _ _ h => h)
    clear hK K
    try go_frame
    refine wpAnyH_done (by kernel_rfl) ?_ _
    have key := HK.out (.slice a5 n5 c5) (W5.setCell ⟨lg, i, none⟩ (.slice a5 n5 c5)) (by have := Row.set L5.out oneF_len (i := i) (j := 0) hi (by decide) (u := .slice a5 n5 c5) (.slice a5 n5 c5) rfl; rw [Nat.mul_one, Nat.add_zero] at this; exact this) (Z5.out.trans (Ch.set (Q := fun y => (Value.slice (some ⟨lg, 0, none⟩) ls.length lc).ownBlock = some y ∨ (Value.slice va vn vc).ownBlock = some y) _ (Or.inl rfl) _ _) (fun _ _ h => h))
    apply key
  · go_simp
    refine hK.out _ _ ?_ (fun zk => ?_)
    · exact zk.trans (Ch.alloc (Q := fun y => (Value.slice (some ⟨lg, 0, none⟩) ls.length lc).ownBlock = some y ∨ (Value.slice va vn vc).ownBlock = some y) _ _) (fun _ _ h => h)
    clear hK K
    try go_frame
    refine Go.Proofs.Ythnnpipekeanoaa.rd 11 pg11 rfl (by kernel_rfl) fun K hK => ?_
    have s1 : (W.alloc (.cells #[.int .u32 0, .int .u32 0, .int .u32 0, .int .u32 0, .int .u32 0, .int .u32 0, .int .i64 0, .int .i64 (-77 - (i : Int)), .int .i64 0, .int .u32 0, .int .u32 0, .int .u32 0, .int .u32 0, .int .u32 0, .int .u32 0, .int .u32 0, .int .u32 0, .int .i64 0, .int .i64 (-77 - (i : Int)), .int .i64 0, .int .u32 0, .int .u32 0] 57)).cell? ⟨lg, i, none⟩ = some (.slice va vn vc) := HAT.out
    go_simp
    refine hK.out _ _ ?_ (fun zk => ?_)
    · exact zk
    clear hK K
    try go_frame
    clear s1
    have CV := hide ((Ch.alloc (Q := fun _ => False) W (.cells #[.int .u32 0, .int .u32 0, .int .u32 0, .int .u32 0, .int .u32 0, .int .u32 0, .int .i64 0, .int .i64 (-77 - (i : Int)), .int .i64 0, .int .u32 0, .int .u32 0, .int .u32 0, .int .u32 0, .int .u32 0, .int .u32 0, .int .u32 0, .int .u32 0, .int .i64 0, .int .i64 (-77 - (i : Int)), .int .i64 0, .int .u32 0, .int .u32 0] 57)).trans (Ch.drew (Q := fun _ => False) _) (fun _ _ h => h))
    have RV := hide (HV.out.ch CV.out (fun _ _ h => h))
    have LV := hide (HL.out.ch CV.out (fun _ _ h => h))
    refine Go.Proofs.Ythnnpipekeanoaa.rd 19 pg19 rfl (by kernel_rfl) fun K hK => ?_
    refine step_append_at rfl (.tmp 67) (.tmp 74) 28 rfl B1 57 i0 (rcV zRc) 11 56 Try.underlying28 hi0 hz0 hz1 hz2 rfl (by decide) (.slice va vn vc) rs.length (rs.flatMap rcF) rfl RV.out ⟨W.heap.size, 0, none⟩ 2 2 (rcF (rc77 i) ++ rcF (rc77 i)) rfl rfl (row_new W (rcF (rc77 i) ++ rcF (rc77 i)) 57 rfl) (fun u hu => (List.mem_append.1 hu).elim (rcF_one _ u) (rcF_one _ u)) (by unfold maxLen; omega) (by omega) (by show B1 ≤ (W.alloc _).heap.size; simp; omega) ?_
    intro x5 W5 hr5 hg5 _
    have C5 := hide (Ch.of_grown (Q := fun y => (Value.slice va vn vc).ownBlock = some y) hg5 (fun _ e => e))
    have L5 := hide (LV.out.ch C5.out (fun x hx e => own_ne LV.out RV.out (by decide) x hx e))
    obtain ⟨a5, n5, c5, e5⟩ := own_form hr5
    subst e5
    have Z5 := hide (zk.trans (C5.out.mono (fun _ _ h => Or.inr h)) (fun _ _ h => h))
    clear hr5 hg5
    have y5 : W5.cell? ⟨lg, i, none⟩ = some (.slice va vn vc) := by rw [C5.out.cell (LG.out) (fun e => own_ne LV.out RV.out (by decide) lg rfl e)]; exact HAT.out
    have f5 : W5.frozen? ⟨lg, i, none⟩ = false := by obtain ⟨_, _, cur, k⟩ := own_in L5.out (g := lg) rfl; simp [World.frozen?, k]
    refine hK.out _ _ ?_ (fun zk => ?_)
    · exact Z5.out
    clear hK K
    try go_frame
    apply tk 20 pg20 rfl (by kernel_rfl) (fun _ _ _ h => h) zk
    · intro wq zq
      go_simp
      try rfl
    go_frame
    refine Go.Proofs.Ythnnpipekeanoaa.rd 21 pg21 rfl (by kernel_rfl) fun K hK => ?_
    go_simp
    refine hK.out _ _ ?_ (fun zk => ?_)
    · exact Z5.out.trans (Ch.set (Q := fun y => (Value.slice (some ⟨lg, 0, none⟩) ls.length lc).ownBlock = some y ∨ (Value.slice va vn vc).ownBlock = some y) _ (Or.inl rfl) _ _) (fun _ _ h => h)
    clear hK K
    try go_frame
    refine wpAnyH_done (by kernel_rfl) ?_ _
    have key := HK.out (.slice a5 n5 c5) (W5.setCell ⟨lg, i, none⟩ (.slice a5 n5 c5)) (by have := Row.set L5.out oneF_len (i := i) (j := 0) hi (by decide) (u := .slice a5 n5 c5) (.slice a5 n5 c5) rfl; rw [Nat.mul_one, Nat.add_zero] at this; exact this) (Z5.out.trans (Ch.set (Q := fun y => (Value.slice (some ⟨lg, 0, none⟩) ls.length lc).ownBlock = some y ∨ (Value.slice va vn vc).ownBlock = some y) _ (Or.inl rfl) _ _) (fun _ _ h => h))
    apply key

end Go.Proofs.Ythnnpipekeanoaa
