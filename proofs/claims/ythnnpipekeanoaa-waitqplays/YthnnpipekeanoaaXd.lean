/- Layer 11: the law's book of lists: over. -/
import Derived.Test.YthnnpipekeanoaaXc
namespace Go.Proofs.Ythnnpipekeanoaa
open Go.RowKit

theorem LsRow.at {W : World} {B : Nat} {v : Value} {l : List Value} (h : LsRow W B v l) (h0 : 0 < l.length) : ∃ g c, v = .slice (some ⟨g, 0, none⟩) l.length c ∧ l.length ≤ c ∧ B ≤ g ∧ g < W.heap.size ∧ (∀ i (hi : i < l.length), W.cell? ⟨g, i, none⟩ = some l[i]) ∧ ∀ o, W.frozen? ⟨g, o, none⟩ = false := by
  obtain ⟨g, c, cur, e, hc, hB, hg, k, _, hcell⟩ := Row.at h oneF_len h0
  refine ⟨g, c, e, hc, hB, hg, fun i hi => ?_, fun o => by simp [World.frozen?, k]⟩
  have := hcell i hi 0 l[i] rfl
  simpa using this

abbrev xpf0 : Oper := { dst := some 15, op := Op.move (Operand.tmp 0), type := 77, pos := "law.go:64", after := #[], guard := none }
abbrev xpf1 : Oper := { dst := some 16, op := Op.nilCheck (Operand.tmp 15), type := 0, pos := "law.go:64", after := #[{ on := 0, ground := Ground.data }], guard := none }
abbrev xpf2 : Oper := { dst := some 17, op := Op.fieldAddr 35 (Operand.tmp 16) 0, type := 0, pos := "law.go:64", after := #[{ on := 1, ground := Ground.data }], guard := none }
abbrev xpf3 : Oper := { dst := some 18, op := Op.load 33 (Operand.tmp 17), type := 33, pos := "law.go:64", after := #[{ on := 2, ground := Ground.data }], guard := none }
abbrev xpf4 : Oper := { dst := some 19, op := Op.move (Operand.tmp 3), type := 3, pos := "law.go:64", after := #[], guard := none }
abbrev xpf5 : Oper := { dst := some 20, op := Op.indexAddr 33 (Operand.tmp 18) (Operand.tmp 19), type := 0, pos := "law.go:64", after := #[{ on := 3, ground := Ground.data }, { on := 4, ground := Ground.data }], guard := none }
abbrev xpf6 : Oper := { dst := some 21, op := Op.load 28 (Operand.tmp 20), type := 28, pos := "law.go:64", after := #[{ on := 5, ground := Ground.data }], guard := none }
abbrev xpf7 : Oper := { dst := some 22, op := Op.move (Operand.tmp 0), type := 77, pos := "law.go:64", after := #[], guard := none }
abbrev xpf8 : Oper := { dst := some 23, op := Op.nilCheck (Operand.tmp 22), type := 0, pos := "law.go:64", after := #[{ on := 7, ground := Ground.data }], guard := none }
abbrev xpf9 : Oper := { dst := some 24, op := Op.fieldAddr 35 (Operand.tmp 23) 1, type := 0, pos := "law.go:64", after := #[{ on := 8, ground := Ground.data }], guard := none }
abbrev xpf10 : Oper := { dst := some 25, op := Op.load 33 (Operand.tmp 24), type := 33, pos := "law.go:64", after := #[{ on := 9, ground := Ground.data }], guard := none }
abbrev xpf11 : Oper := { dst := some 26, op := Op.move (Operand.tmp 3), type := 3, pos := "law.go:64", after := #[], guard := none }
abbrev xpf12 : Oper := { dst := some 27, op := Op.indexAddr 33 (Operand.tmp 25) (Operand.tmp 26), type := 0, pos := "law.go:64", after := #[{ on := 10, ground := Ground.data }, { on := 11, ground := Ground.data }], guard := none }
abbrev xpf13 : Oper := { dst := some 28, op := Op.load 28 (Operand.tmp 27), type := 28, pos := "law.go:64", after := #[{ on := 12, ground := Ground.data }], guard := none }
abbrev xpf14 : Oper := { dst := some 29, op := Op.call { callee := Callee.value (Operand.func 12), args := #[Operand.tmp 21, Operand.tmp 28], argTypes := #[28, 28] }, type := 4, pos := "law.go:64", after := #[{ on := 6, ground := Ground.data }, { on := 13, ground := Ground.data }], guard := none }
abbrev xpf15 : Oper := { dst := some 4, op := Op.assign (Operand.tmp 29), type := 4, pos := "law.go:64", after := #[{ on := 14, ground := Ground.data }, { on := 14, ground := Ground.chain }, { on := 0, ground := Ground.phase }, { on := 1, ground := Ground.phase }, { on := 2, ground := Ground.phase }, { on := 3, ground := Ground.phase }, { on := 4, ground := Ground.phase }, { on := 5, ground := Ground.phase }, { on := 6, ground := Ground.phase }, { on := 7, ground := Ground.phase }, { on := 8, ground := Ground.phase }, { on := 9, ground := Ground.phase }, { on := 10, ground := Ground.phase }, { on := 11, ground := Ground.phase }, { on := 12, ground := Ground.phase }, { on := 13, ground := Ground.phase }, { on := 14, ground := Ground.phase }], guard := none }

set_option maxRecDepth 100000 in
set_option maxHeartbeats 4000000 in
theorem over_r4 {u1 u2 u4 u5 u6 u7 u8 u9 u10 u11 u12 u13 u14 u15 u16 u17 u18 u19 u20 u21 u22 u23 u24 u25 u26 u27 u28 u29 u30 u31 u32 u33 u34 u35 u36 u37 u38 u39 u40 u41 u42 u43 u44 u45 u46 u47 u48 u49 u50 u51 u52 u53 u54 u55 u56 u57 u58 u59 u60 u61 u62 u63 u64 u65 u66 u67 u68 u69 u70 u71 u72 u73 u74 u75 u76 : Value} {W : World} {B T i : Nat} {av bv tv lv wv v v' : Value} {ls ws : List Value} {B1 B2 : Nat} {rs : List Rc} (hT : W.heap[T]? = some (.cells #[av, bv, tv, lv, wv] 37 (0, 0))) (hl : LsRow W B lv ls) (hw : LsRow W B wv ws) (hi : i < ls.length) (hi' : i < ws.length) (ev : ls[i] = v) (ev' : ws[i] = v') (hv : RcRow W B1 v rs) (hv' : RcRow W B2 v' rs) (hr : rs.length ≤ 100000)
    {K : Act → World → Prop} (hK0 : ∀ W', Ch (fun _ => False) W W' → ∀ (u15 u16 u17 u18 u19 u20 u21 u22 u23 u24 u25 u26 u27 u28 u29 : Value), K { tmps := List.toArray ((.pointer (some ⟨T, 3, none⟩)) :: u1 :: u2 :: (.int .i64 (i : Int)) :: (.bool true) :: u5 :: u6 :: u7 :: u8 :: u9 :: u10 :: u11 :: u12 :: u13 :: u14 :: u15 :: u16 :: u17 :: u18 :: u19 :: u20 :: u21 :: u22 :: u23 :: u24 :: u25 :: u26 :: u27 :: u28 :: u29 :: u30 :: u31 :: u32 :: u33 :: u34 :: u35 :: u36 :: u37 :: u38 :: u39 :: u40 :: u41 :: u42 :: u43 :: u44 :: u45 :: u46 :: u47 :: u48 :: u49 :: u50 :: u51 :: u52 :: u53 :: u54 :: u55 :: u56 :: u57 :: u58 :: u59 :: u60 :: u61 :: u62 :: u63 :: u64 :: u65 :: u66 :: u67 :: u68 :: u69 :: u70 :: u71 :: u72 :: u73 :: u74 :: u75 :: u76 :: []), defers := [] } W') :
    (Code.region 4 #[xpf0, xpf1, xpf2, xpf3, xpf4, xpf5, xpf6, xpf7, xpf8, xpf9, xpf10, xpf11, xpf12, xpf13, xpf14, xpf15] true).wp Try.prog (Exit.then K (fun _ _ _ => False)) { tmps := List.toArray ((.pointer (some ⟨T, 3, none⟩)) :: u1 :: u2 :: (.int .i64 (i : Int)) :: u4 :: u5 :: u6 :: u7 :: u8 :: u9 :: u10 :: u11 :: u12 :: u13 :: u14 :: u15 :: u16 :: u17 :: u18 :: u19 :: u20 :: u21 :: u22 :: u23 :: u24 :: u25 :: u26 :: u27 :: u28 :: u29 :: u30 :: u31 :: u32 :: u33 :: u34 :: u35 :: u36 :: u37 :: u38 :: u39 :: u40 :: u41 :: u42 :: u43 :: u44 :: u45 :: u46 :: u47 :: u48 :: u49 :: u50 :: u51 :: u52 :: u53 :: u54 :: u55 :: u56 :: u57 :: u58 :: u59 :: u60 :: u61 :: u62 :: u63 :: u64 :: u65 :: u66 :: u67 :: u68 :: u69 :: u70 :: u71 :: u72 :: u73 :: u74 :: u75 :: u76 :: []), defers := [] } W := by
  obtain ⟨lg, lc, rfl, hlc, -, hlg, hlat, -⟩ := hl.at (by omega)
  obtain ⟨wg, wc, rfl, hwc, -, hwg, hwat, -⟩ := hw.at (by omega)
  have HC := hide (show ∀ wq, Ch (fun _ => False) W wq → wq.cell? ⟨T, 3, none⟩ = some (.slice (some ⟨lg, 0, none⟩) ls.length lc) ∧ wq.cell? ⟨T, 4, none⟩ = some (.slice (some ⟨wg, 0, none⟩) ws.length wc) ∧ wq.cell? ⟨lg, i, none⟩ = some v ∧ wq.cell? ⟨wg, i, none⟩ = some v' from fun wq zq => by
    have k1 := Lib.cell_of_heap (zq.box hT (fun h => h))
    refine ⟨by simp [k1], by simp [k1], ?_, ?_⟩
    · rw [zq.cell hlg (fun h => h), hlat i hi, ev]
    · rw [zq.cell hwg (fun h => h), hwat i hi', ev'])
  have HS := hide (fun wq (zq : Ch (fun _ => False) W wq) => sameW (hv.ch zq (fun _ _ h => h)) (hv'.ch zq (fun _ _ h => h)) hr)
  have HK := hide hK0
  clear hK0 hT hl hw hlat hwat hv hv' ev ev'
  refine wp_region_held_drew (S := Ch (fun _ => False) W) (by kernel_rfl) (Ch.drew _) (fun zk => ?_)
  apply tk 0 xpf0 rfl (by kernel_rfl) (fun _ _ _ h => h) zk
  · intro wq zq
    go_simp
    try rfl
  go_frame
  apply tk 1 xpf1 rfl (by kernel_rfl) (fun _ _ _ h => h) zk
  · intro wq zq
    go_simp
    try rfl
  go_frame
  apply tk 2 xpf2 rfl (by kernel_rfl) (fun _ _ _ h => h) zk
  · intro wq zq
    go_simp
    try rfl
  go_frame
  apply tk 3 xpf3 rfl (by kernel_rfl) (fun _ _ _ h => h) zk
  · intro wq zq
    have s1 := (HC.out _ zq).1
    go_simp
    try rfl
  go_frame
  apply tk 4 xpf4 rfl (by kernel_rfl) (fun _ _ _ h => h) zk
  · intro wq zq
    go_simp
    try rfl
  go_frame
  apply tk 5 xpf5 rfl (by kernel_rfl) (fun _ _ _ h => h) zk
  · intro wq zq
    go_simp
    try rfl
  go_frame
  apply tk 6 xpf6 rfl (by kernel_rfl) (fun _ _ _ h => h) zk
  · intro wq zq
    have s1 := (HC.out _ zq).2.2.1
    go_simp
    try rfl
  go_frame
  apply tk 7 xpf7 rfl (by kernel_rfl) (fun _ _ _ h => h) zk
  · intro wq zq
    go_simp
    try rfl
  go_frame
  apply tk 8 xpf8 rfl (by kernel_rfl) (fun _ _ _ h => h) zk
  · intro wq zq
    go_simp
    try rfl
  go_frame
  apply tk 9 xpf9 rfl (by kernel_rfl) (fun _ _ _ h => h) zk
  · intro wq zq
    go_simp
    try rfl
  go_frame
  apply tk 10 xpf10 rfl (by kernel_rfl) (fun _ _ _ h => h) zk
  · intro wq zq
    have s1 := (HC.out _ zq).2.1
    go_simp
    try rfl
  go_frame
  apply tk 11 xpf11 rfl (by kernel_rfl) (fun _ _ _ h => h) zk
  · intro wq zq
    go_simp
    try rfl
  go_frame
  apply tk 12 xpf12 rfl (by kernel_rfl) (fun _ _ _ h => h) zk
  · intro wq zq
    go_simp
    try rfl
  go_frame
  apply tk 13 xpf13 rfl (by kernel_rfl) (fun _ _ _ h => h) zk
  · intro wq zq
    have s1 := (HC.out _ zq).2.2.2
    go_simp
    try rfl
  go_frame
  refine Go.Proofs.Ythnnpipekeanoaa.rd 14 xpf14 rfl (by kernel_rfl) fun K hK => ?_
  go_simp
  refine (HS.out _ zk).mono ?_
  rintro e W5 ⟨rfl, hb5⟩
  have Z5 := hide (zk.trans (Ch.of_below (Q := fun _ => False) hb5) (fun _ _ h => h))
  clear hb5
  go_wp2_with fail
  refine hK.out _ _ ?_ (fun zk => ?_)
  · exact Z5.out
  clear hK K
  try go_frame
  refine Go.Proofs.Ythnnpipekeanoaa.rd 15 xpf15 rfl (by kernel_rfl) fun K hK => ?_
  go_simp
  refine hK.out _ _ ?_ (fun zk => ?_)
  · exact Z5.out
  clear hK K
  try go_frame
  refine wpAnyH_done (by kernel_rfl) ?_ _
  exact HK.out _ Z5.out _ _ _ _ _ _ _ _ _ _ _ _ _ _ _

end Go.Proofs.Ythnnpipekeanoaa
