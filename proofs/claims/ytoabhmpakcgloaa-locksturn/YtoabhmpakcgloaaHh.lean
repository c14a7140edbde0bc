/- Layer 11: the landed book: part, what it reads first. -/
import Derived.Test.YtoabhmpakcgloaaHg
namespace Go.Proofs.Ytoabhmpakcgloaa
open Go.RowKit

abbrev pa0 : Oper := { dst := some 8, op := Op.move (Operand.tmp 0), type := 24, pos := "waitq.go:205", after := #[], guard := none }
abbrev pa1 : Oper := { dst := some 9, op := Op.nilCheck (Operand.tmp 8), type := 0, pos := "waitq.go:205", after := #[{ on := 0, ground := Ground.data }], guard := none }
abbrev pa2 : Oper := { dst := some 10, op := Op.fieldAddr 78 (Operand.tmp 9) 2, type := 0, pos := "waitq.go:205", after := #[{ on := 1, ground := Ground.data }], guard := none }
abbrev pa3 : Oper := { dst := some 11, op := Op.load 74 (Operand.tmp 10), type := 74, pos := "waitq.go:205", after := #[{ on := 2, ground := Ground.data }], guard := none }
abbrev pa4 : Oper := { dst := some 12, op := Op.load 100 (Operand.tmp 4), type := 100, pos := "waitq.go:205", after := #[], guard := none }
abbrev pa5 : Oper := { dst := some 13, op := Op.lookup 74 (Operand.tmp 11) (Operand.tmp 12) false, type := 119, pos := "waitq.go:205", after := #[{ on := 3, ground := Ground.data }, { on := 4, ground := Ground.data }], guard := none }
abbrev pa6 : Oper := { dst := some 14, op := Op.move (Operand.tmp 0), type := 24, pos := "waitq.go:205", after := #[], guard := none }
abbrev pa7 : Oper := { dst := some 15, op := Op.move (Operand.tmp 2), type := 33, pos := "waitq.go:205", after := #[], guard := none }
abbrev pa8 : Oper := { dst := some 16, op := Op.call { callee := Callee.value (Operand.func 44), args := #[Operand.tmp 14, Operand.tmp 15], argTypes := #[24, 33] }, type := 125, pos := "waitq.go:205", after := #[{ on := 6, ground := Ground.data }, { on := 7, ground := Ground.data }], guard := none }
abbrev pa9 : Oper := { dst := some 17, op := Op.fieldAddr 100 (Operand.tmp 4) 0, type := 0, pos := "waitq.go:205", after := #[{ on := 17, ground := Ground.gcOnly Departure.lateStores }], guard := none }
abbrev pa10 : Oper := { dst := some 18, op := Op.load 3 (Operand.tmp 17), type := 3, pos := "waitq.go:205", after := #[{ on := 9, ground := Ground.data }, { on := 17, ground := Ground.gcOnly Departure.lateStores }], guard := none }
abbrev pa11 : Oper := { dst := some 19, op := Op.nilCheck (Operand.tmp 16), type := 0, pos := "waitq.go:205", after := #[{ on := 8, ground := Ground.data }, { on := 17, ground := Ground.gcOnly Departure.lateStores }], guard := none }
abbrev pa12 : Oper := { dst := some 20, op := Op.fieldAddr 124 (Operand.tmp 19) 2, type := 0, pos := "waitq.go:205", after := #[{ on := 11, ground := Ground.data }, { on := 17, ground := Ground.gcOnly Departure.lateStores }], guard := none }
abbrev pa13 : Oper := { dst := some 21, op := Op.indexAddr 122 (Operand.tmp 20) (Operand.tmp 18), type := 0, pos := "waitq.go:205", after := #[{ on := 12, ground := Ground.data }, { on := 10, ground := Ground.data }, { on := 17, ground := Ground.gcOnly Departure.lateStores }], guard := none }
abbrev pa14 : Oper := { dst := some 22, op := Op.load 121 (Operand.tmp 21), type := 121, pos := "waitq.go:205", after := #[{ on := 13, ground := Ground.data }, { on := 17, ground := Ground.gcOnly Departure.lateStores }], guard := none }
abbrev pa15 : Oper := { dst := some 6, op := Op.alloc 119, type := 0, pos := "waitq.go:205", after := #[], guard := none }
abbrev pa16 : Oper := { dst := some 7, op := Op.alloc 121, type := 0, pos := "waitq.go:205", after := #[], guard := none }
abbrev pa17 : Oper := { dst := none, op := Op.store 119 (Operand.tmp 6) (Operand.tmp 13), type := 0, pos := "waitq.go:205", after := #[{ on := 15, ground := Ground.data }, { on := 5, ground := Ground.data }, { on := 8, ground := Ground.chain }, { on := 0, ground := Ground.phase }, { on := 1, ground := Ground.phase }, { on := 2, ground := Ground.phase }, { on := 3, ground := Ground.phase }, { on := 4, ground := Ground.phase }, { on := 5, ground := Ground.phase }, { on := 6, ground := Ground.textOnly Departure.lateStores }, { on := 7, ground := Ground.textOnly Departure.lateStores }, { on := 8, ground := Ground.textOnly Departure.lateStoresUnsure }, { on := 9, ground := Ground.textOnly Departure.lateStores }, { on := 10, ground := Ground.textOnly Departure.lateStores }, { on := 11, ground := Ground.textOnly Departure.lateStores }, { on := 12, ground := Ground.textOnly Departure.lateStores }, { on := 13, ground := Ground.textOnly Departure.lateStores }, { on := 14, ground := Ground.textOnly Departure.lateStores }, { on := 15, ground := Ground.phase }, { on := 16, ground := Ground.phase }], guard := none }
abbrev pa18 : Oper := { dst := none, op := Op.store 121 (Operand.tmp 7) (Operand.tmp 22), type := 0, pos := "waitq.go:205", after := #[{ on := 16, ground := Ground.data }, { on := 14, ground := Ground.data }, { on := 17, ground := Ground.chain }, { on := 0, ground := Ground.phase }, { on := 1, ground := Ground.phase }, { on := 2, ground := Ground.phase }, { on := 3, ground := Ground.phase }, { on := 4, ground := Ground.phase }, { on := 5, ground := Ground.phase }, { on := 6, ground := Ground.phase }, { on := 7, ground := Ground.phase }, { on := 8, ground := Ground.phase }, { on := 9, ground := Ground.phase }, { on := 10, ground := Ground.phase }, { on := 11, ground := Ground.phase }, { on := 12, ground := Ground.phase }, { on := 13, ground := Ground.phase }, { on := 14, ground := Ground.phase }, { on := 15, ground := Ground.phase }, { on := 16, ground := Ground.phase }, { on := 17, ground := Ground.phase }], guard := none }

set_option maxRecDepth 100000 in
set_option maxHeartbeats 8000000 in
theorem part_r1 {u3 u5 u6 u7 u8 u9 u10 u11 u12 u13 u14 u15 u16 u17 u18 u19 u20 u21 u22 u23 u24 u25 u26 u27 u28 u29 u30 u31 u32 u33 u34 u35 u36 u37 u38 u39 u40 u41 u42 u43 u44 u45 u46 u47 u48 u49 u50 u51 u52 u53 u54 u55 u56 u57 u58 u59 u60 u61 u62 u63 u64 u65 u66 u67 u68 u69 u70 u71 u72 : Value} {W : World} {B p M C n g c A : Nat} {sl : List Sl} {full : Int} {en : Ln → Option (Int × Int)} {cl : Int × Int × Int → Option Int} (h : Bk W B p (.slice (some ⟨g, 0, none⟩) sl.length c) M C sl full en cl n) (hl : sl.length ≤ 100001) {x : Ln} (hk : x.k < 3) {i : Nat} (hi : i < sl.length) {e1 e2 a b : Int} (hee : e0 (en x) = (e1, e2)) (hlk : sl[i].lk x.k = (a, b))
    (hn : W.heap[A]? = some (.cells #[.int .i64 (x.k : Int), .int .u32 x.rs, .int .u32 x.rg, .int .i64 x.rd, .int .u32 x.ws, .int .u32 x.wg] 100 (0, 0)))
    {K : Act → World → Prop} (hK0 : ∀ (E G : Nat) W', Ch (fun _ => False) W W' → W'.heap[E]? = some (.cells #[.int .u32 e1, .int .u32 e2] 119 (0, 0)) → W'.heap[G]? = some (.cells #[.int .u32 a, .int .u32 b] 121 (0, 0)) → W.heap.size ≤ E ∧ W.heap.size ≤ G → ∀ (u8 u9 u10 u11 u12 u13 u14 u15 u16 u17 u18 u19 u20 u21 u22 : Value), K { tmps := List.toArray ((.pointer (some ⟨p, 0, none⟩)) :: (.agg #[.int .i64 (x.k : Int), .int .u32 x.rs, .int .u32 x.rg, .int .i64 x.rd, .int .u32 x.ws, .int .u32 x.wg]) :: (.int .u32 ((i : Int) + 1)) :: u3 :: (.pointer (some ⟨A, 0, none⟩)) :: u5 :: (.pointer (some ⟨E, 0, none⟩)) :: (.pointer (some ⟨G, 0, none⟩)) :: u8 :: u9 :: u10 :: u11 :: u12 :: u13 :: u14 :: u15 :: u16 :: u17 :: u18 :: u19 :: u20 :: u21 :: u22 :: u23 :: u24 :: u25 :: u26 :: u27 :: u28 :: u29 :: u30 :: u31 :: u32 :: u33 :: u34 :: u35 :: u36 :: u37 :: u38 :: u39 :: u40 :: u41 :: u42 :: u43 :: u44 :: u45 :: u46 :: u47 :: u48 :: u49 :: u50 :: u51 :: u52 :: u53 :: u54 :: u55 :: u56 :: u57 :: u58 :: u59 :: u60 :: u61 :: u62 :: u63 :: u64 :: u65 :: u66 :: u67 :: u68 :: u69 :: u70 :: u71 :: u72 :: []), defers := [] } W') :
    (Code.region 1 #[pa0, pa1, pa2, pa3, pa4, pa5, pa6, pa7, pa8, pa9, pa10, pa11, pa12, pa13, pa14, pa15, pa16, pa17, pa18] true).wp Try.prog (Exit.then K (fun _ _ _ => False)) { tmps := List.toArray ((.pointer (some ⟨p, 0, none⟩)) :: (.agg #[.int .i64 (x.k : Int), .int .u32 x.rs, .int .u32 x.rg, .int .i64 x.rd, .int .u32 x.ws, .int .u32 x.wg]) :: (.int .u32 ((i : Int) + 1)) :: u3 :: (.pointer (some ⟨A, 0, none⟩)) :: u5 :: u6 :: u7 :: u8 :: u9 :: u10 :: u11 :: u12 :: u13 :: u14 :: u15 :: u16 :: u17 :: u18 :: u19 :: u20 :: u21 :: u22 :: u23 :: u24 :: u25 :: u26 :: u27 :: u28 :: u29 :: u30 :: u31 :: u32 :: u33 :: u34 :: u35 :: u36 :: u37 :: u38 :: u39 :: u40 :: u41 :: u42 :: u43 :: u44 :: u45 :: u46 :: u47 :: u48 :: u49 :: u50 :: u51 :: u52 :: u53 :: u54 :: u55 :: u56 :: u57 :: u58 :: u59 :: u60 :: u61 :: u62 :: u63 :: u64 :: u65 :: u66 :: u67 :: u68 :: u69 :: u70 :: u71 :: u72 :: []), defers := [] } W := by
  have hkl : ((x.k : Int) < 3) := by omega
  have HB := hide h
  have HN := hide hn
  have HK := hide hK0
  clear hK0 h hn
  refine wp_reg (fun _ => False) (R := fun V => Ch (fun _ => False) W V) (by kernel_rfl) (Ch.drew _) ?_
  rintro V v zk
  have HV := hide v
  have HC := hide (fun Q wq (zq : Ch Q V wq) h1 h2 => ln_reads (wq := wq) (Q := Q) (x := x) (HV.out.box HB.out.box (fun h => h)) (HV.out.box HN.out (fun h => h)) zq h1 h2)
  have HL := hide (fun wq (zq : Ch (fun _ => False) V wq) => have k := (HB.out.ch (HV.out.trans zq (fun _ _ h => h)) (fun _ _ h => h)); show wq.cell? ⟨g, i * 18 + 12 + x.k * 2, none⟩ = some (.int .u32 a) ∧ wq.cell? ⟨g, i * 18 + 12 + x.k * 2 + 1, none⟩ = some (.int .u32 b) from ⟨by have := (k.cell hi (slF_a sl[i] hk) (off_a i x.k)).1; rw [hlk] at this; exact this, by have := (k.cell hi (slF_b sl[i] hk) (off_b i x.k)).1; rw [hlk] at this; exact this⟩)
  clear v
  apply tk 0 pa0 rfl (by kernel_rfl) (fun _ _ _ h => h) zk
  · intro wq zq
    go_simp
    try rfl
  go_frame
  apply tk 1 pa1 rfl (by kernel_rfl) (fun _ _ _ h => h) zk
  · intro wq zq
    go_simp
    try rfl
  go_frame
  apply tk 2 pa2 rfl (by kernel_rfl) (fun _ _ _ h => h) zk
  · intro wq zq
    go_simp
    try rfl
  go_frame
  apply tk 3 pa3 rfl (by kernel_rfl) (fun _ _ _ h => h) zk
  · intro wq zq
    obtain ⟨s1, s2, s3, s4, s5, s6, s7, s8⟩ := HC.out _ _ zq (fun h => h) (fun h => h)
    go_simp
    try rfl
  go_frame
  apply tk 4 pa4 rfl (by kernel_rfl) (fun _ _ _ h => h) zk
  · intro wq zq
    obtain ⟨s1, s2, s3, s4, s5, s6, s7, s8⟩ := HC.out _ _ zq (fun h => h) (fun h => h)
    go_simp
    try rfl
  go_frame
  apply tk 5 pa5 rfl (by kernel_rfl) (fun _ _ _ h => h) zk
  · intro wq zq
    exact (val_lookL (x := x) (.tmp 11) (.tmp 12) rfl rfl rfl ((HB.out.ch (HV.out.trans zq (fun _ _ h => h)) (fun _ _ h => h)).mp)).trans (by rw [hee])
  go_frame
  apply tk 6 pa6 rfl (by kernel_rfl) (fun _ _ _ h => h) zk
  · intro wq zq
    go_simp
    try rfl
  go_frame
  apply tk 7 pa7 rfl (by kernel_rfl) (fun _ _ _ h => h) zk
  · intro wq zq
    go_simp
    try rfl
  go_frame
  apply tk 9 pa9 rfl (by kernel_rfl) (fun _ _ _ h => h) zk
  · intro wq zq
    go_simp
    try rfl
  go_frame
  apply tk 10 pa10 rfl (by kernel_rfl) (fun _ _ _ h => h) zk
  · intro wq zq
    obtain ⟨s1, s2, s3, s4, s5, s6, s7, s8⟩ := HC.out _ _ zq (fun h => h) (fun h => h)
    go_simp
    try rfl
  go_frame
  refine wpAnyH_ready (rs := [8, 15, 16]) (by kernel_rfl) (by simp) ?_
  refine AllReadyH.cons (o := pa8) rfl (fun K hK => ?_) (AllReadyH.cons (o := pa15) rfl (fun K hK => ?_) (AllReadyH.cons (o := pa16) rfl (fun K hK => ?_) AllReadyH.nil))
  · go_simp
    refine (at_is (HC.out _ _ zk (fun h => h) (fun h => h)).1 hi hl).mono ?_
    rintro e W4 ⟨rfl, rfl⟩
    go_wp2_with fail
    refine hK.out _ _ ?_ (fun zk => ?_)
    · exact zk
    clear hK K
    try go_frame
    apply tk 11 pa11 rfl (by kernel_rfl) (fun _ _ _ h => h) zk
    · intro wq zq
      go_simp
      try rfl
    go_frame
    apply tk 12 pa12 rfl (by kernel_rfl) (fun _ _ _ h => h) zk
    · intro wq zq
      go_simp
      try rfl
    go_frame
    apply tk 13 pa13 rfl (by kernel_rfl) (fun _ _ _ h => h) zk
    · intro wq zq
      go_simp
      try rfl
    go_frame
    apply tk 14 pa14 rfl (by kernel_rfl) (fun _ _ _ h => h) zk
    · intro wq zq
      obtain ⟨s1, s2⟩ := HL.out _ zq
      go_simp
      try rfl
    go_frame
    refine wpAnyH_ready (rs := [15, 16]) (by kernel_rfl) (by simp) ?_
    refine AllReadyH.cons (o := pa15) rfl (fun K hK => ?_) (AllReadyH.cons (o := pa16) rfl (fun K hK => ?_) AllReadyH.nil)
    · go_simp
      refine genK (R := fun W => Ch (fun _ => False) V W ∧ W.heap[V.heap.size]? = some (.cells #[.int .u32 0, .int .u32 0] 119 (0, 0))) ⟨zk.trans (Ch.alloc _ _) (fun _ _ h => h), heap_new _ _⟩ ?_
      rintro X1 ⟨cE, nE⟩
      clear zk
      refine hK.out _ _ ?_ (fun zk => ?_)
      · exact cE
      clear hK K
      try go_frame
      refine Go.Proofs.Ytoabhmpakcgloaa.rd 16 pa16 rfl (by kernel_rfl) fun K hK => ?_
      go_simp
      refine genK (R := fun W => Ch (fun _ => False) V W ∧ W.heap[X1.heap.size]? = some (.cells #[.int .u32 0, .int .u32 0] 121 (0, 0)) ∧ W.heap[V.heap.size]? = some (.cells #[.int .u32 0, .int .u32 0] 119 (0, 0))) ⟨zk.trans (Ch.alloc _ _) (fun _ _ h => h), heap_new _ _, (Ch.alloc (Q := fun _ => False) _ _).box nE (fun h => h)⟩ ?_
      rintro X2 ⟨cG, nG, nE'⟩
      clear zk
      refine hK.out _ _ ?_ (fun zk => ?_)
      · exact cG
      clear hK K
      try go_frame
      have ne : V.heap.size ≠ X1.heap.size := fun e => by have k := nE'; rw [e, nG] at k; injection k with k; injection k with _ k _; exact absurd k (by decide)
      have lo : W.heap.size ≤ V.heap.size ∧ W.heap.size ≤ X1.heap.size := by have h1 := HV.out.size; have h2 := cE.size; constructor <;> omega
      have lo2 : V.heap.size ≤ V.heap.size ∧ V.heap.size ≤ X1.heap.size := by have h2 := cE.size; constructor <;> omega
      have y0 := Lib.cell_of_heap nE'
      have y1 := frz nE'
      refine Go.Proofs.Ytoabhmpakcgloaa.rd 17 pa17 rfl (by kernel_rfl) fun K hK => ?_
      go_simp
      refine genK (R := fun W' => Ch (fun _ => False) V W' ∧ W'.heap[V.heap.size]? = some (.cells #[.int .u32 e1, .int .u32 e2] 119 (0, 0)) ∧ W'.heap[X1.heap.size]? = some (.cells #[.int .u32 0, .int .u32 0] 121 (0, 0))) (have k := ((Ch.set (Q := fun y => y = V.heap.size) X2 rfl 0 (.int .u32 e1)).trans (Ch.set (Q := fun y => y = V.heap.size) _ rfl 1 (.int .u32 e2)) (fun _ _ h => h)); ⟨cG.trans k (fun y hy (e : y = V.heap.size) => by omega), set2 nE', k.box nG ne.symm⟩) ?_
      rintro Y ⟨cY, mE, mG⟩
      clear zk
      refine hK.out _ _ ?_ (fun zk => ?_)
      · exact cY
      clear hK K
      try go_frame
      clear y0 y1
      have y0 := Lib.cell_of_heap mG
      have y1 := frz mG
      refine Go.Proofs.Ytoabhmpakcgloaa.rd 18 pa18 rfl (by kernel_rfl) fun K hK => ?_
      go_simp
      refine genK (R := fun W' => Ch (fun _ => False) V W' ∧ W'.heap[V.heap.size]? = some (.cells #[.int .u32 e1, .int .u32 e2] 119 (0, 0)) ∧ W'.heap[X1.heap.size]? = some (.cells #[.int .u32 a, .int .u32 b] 121 (0, 0))) (have k := ((Ch.set (Q := fun y => y = X1.heap.size) Y rfl 0 (.int .u32 a)).trans (Ch.set (Q := fun y => y = X1.heap.size) _ rfl 1 (.int .u32 b)) (fun _ _ h => h)); ⟨cY.trans k (fun y hy (e : y = X1.heap.size) => by omega), k.box mE ne, set2 mG⟩) ?_
      rintro Z ⟨cZ, zE, zG⟩
      clear zk
      refine hK.out _ _ ?_ (fun zk => ?_)
      · exact cZ
      clear hK K
      try go_frame
      refine wpAnyH_done (by kernel_rfl) ?_ _
      exact HK.out V.heap.size X1.heap.size Z (HV.out.trans cZ (fun _ _ h => h)) zE zG lo _ _ _ _ _ _ _ _ _ _ _ _ _ _ _
    · go_simp
      refine genK (R := fun W => Ch (fun _ => False) V W ∧ W.heap[V.heap.size]? = some (.cells #[.int .u32 0, .int .u32 0] 121 (0, 0))) ⟨zk.trans (Ch.alloc _ _) (fun _ _ h => h), heap_new _ _⟩ ?_
      rintro X1 ⟨cG, nG⟩
      clear zk
      refine hK.out _ _ ?_ (fun zk => ?_)
      · exact cG
      clear hK K
      try go_frame
      refine Go.Proofs.Ytoabhmpakcgloaa.rd 15 pa15 rfl (by kernel_rfl) fun K hK => ?_
      go_simp
      refine genK (R := fun W => Ch (fun _ => False) V W ∧ W.heap[X1.heap.size]? = some (.cells #[.int .u32 0, .int .u32 0] 119 (0, 0)) ∧ W.heap[V.heap.size]? = some (.cells #[.int .u32 0, .int .u32 0] 121 (0, 0))) ⟨zk.trans (Ch.alloc _ _) (fun _ _ h => h), heap_new _ _, (Ch.alloc (Q := fun _ => False) _ _).box nG (fun h => h)⟩ ?_
      rintro X2 ⟨cE, nE, nG'⟩
      clear zk
      refine hK.out _ _ ?_ (fun zk => ?_)
      · exact cE
      clear hK K
      try go_frame
      have ne : X1.heap.size ≠ V.heap.size := fun e => by have k := nE; rw [e, nG'] at k; injection k with k; injection k with _ k _; exact absurd k (by decide)
      have lo : W.heap.size ≤ X1.heap.size ∧ W.heap.size ≤ V.heap.size := by have h1 := HV.out.size; have h2 := cG.size; constructor <;> omega
      have lo2 : V.heap.size ≤ X1.heap.size ∧ V.heap.size ≤ V.heap.size := by have h2 := cG.size; constructor <;> omega
      have y0 := Lib.cell_of_heap nE
      have y1 := frz nE
      refine Go.Proofs.Ytoabhmpakcgloaa.rd 17 pa17 rfl (by kernel_rfl) fun K hK => ?_
      go_simp
      refine genK (R := fun W' => Ch (fun _ => False) V W' ∧ W'.heap[X1.heap.size]? = some (.cells #[.int .u32 e1, .int .u32 e2] 119 (0, 0)) ∧ W'.heap[V.heap.size]? = some (.cells #[.int .u32 0, .int .u32 0] 121 (0, 0))) (have k := ((Ch.set (Q := fun y => y = X1.heap.size) X2 rfl 0 (.int .u32 e1)).trans (Ch.set (Q := fun y => y = X1.heap.size) _ rfl 1 (.int .u32 e2)) (fun _ _ h => h)); ⟨cE.trans k (fun y hy (e : y = X1.heap.size) => by omega), set2 nE, k.box nG' ne.symm⟩) ?_
      rintro Y ⟨cY, mE, mG⟩
      clear zk
      refine hK.out _ _ ?_ (fun zk => ?_)
      · exact cY
      clear hK K
      try go_frame
      clear y0 y1
      have y0 := Lib.cell_of_heap mG
      have y1 := frz mG
      refine Go.Proofs.Ytoabhmpakcgloaa.rd 18 pa18 rfl (by kernel_rfl) fun K hK => ?_
      go_simp
      refine genK (R := fun W' => Ch (fun _ => False) V W' ∧ W'.heap[X1.heap.size]? = some (.cells #[.int .u32 e1, .int .u32 e2] 119 (0, 0)) ∧ W'.heap[V.heap.size]? = some (.cells #[.int .u32 a, .int .u32 b] 121 (0, 0))) (have k := ((Ch.set (Q := fun y => y = V.heap.size) Y rfl 0 (.int .u32 a)).trans (Ch.set (Q := fun y => y = V.heap.size) _ rfl 1 (.int .u32 b)) (fun _ _ h => h)); ⟨cY.trans k (fun y hy (e : y = V.heap.size) => by omega), k.box mE ne, set2 mG⟩) ?_
      rintro Z ⟨cZ, zE, zG⟩
      clear zk
      refine hK.out _ _ ?_ (fun zk => ?_)
      · exact cZ
      clear hK K
      try go_frame
      refine wpAnyH_done (by kernel_rfl) ?_ _
      exact HK.out X1.heap.size V.heap.size Z (HV.out.trans cZ (fun _ _ h => h)) zE zG lo _ _ _ _ _ _ _ _ _ _ _ _ _ _ _
  · go_simp
    refine genK (R := fun W => Ch (fun _ => False) V W ∧ W.heap[V.heap.size]? = some (.cells #[.int .u32 0, .int .u32 0] 119 (0, 0))) ⟨zk.trans (Ch.alloc _ _) (fun _ _ h => h), heap_new _ _⟩ ?_
    rintro X1 ⟨cE, nE⟩
    clear zk
    refine hK.out _ _ ?_ (fun zk => ?_)
    · exact cE
    clear hK K
    try go_frame
    refine wpAnyH_ready (rs := [8, 16]) (by kernel_rfl) (by simp) ?_
    refine AllReadyH.cons (o := pa8) rfl (fun K hK => ?_) (AllReadyH.cons (o := pa16) rfl (fun K hK => ?_) AllReadyH.nil)
    · go_simp
      refine (at_is (HC.out _ _ zk (fun h => h) (fun h => h)).1 hi hl).mono ?_
      rintro e W4 ⟨rfl, rfl⟩
      go_wp2_with fail
      refine hK.out _ _ ?_ (fun zk => ?_)
      · exact zk
      clear hK K
      try go_frame
      apply tk 11 pa11 rfl (by kernel_rfl) (fun _ _ _ h => h) zk
      · intro wq zq
        go_simp
        try rfl
      go_frame
      apply tk 12 pa12 rfl (by kernel_rfl) (fun _ _ _ h => h) zk
      · intro wq zq
        go_simp
        try rfl
      go_frame
      apply tk 13 pa13 rfl (by kernel_rfl) (fun _ _ _ h => h) zk
      · intro wq zq
        go_simp
        try rfl
      go_frame
      apply tk 14 pa14 rfl (by kernel_rfl) (fun _ _ _ h => h) zk
      · intro wq zq
        obtain ⟨s1, s2⟩ := HL.out _ zq
        go_simp
        try rfl
      go_frame
      refine Go.Proofs.Ytoabhmpakcgloaa.rd 16 pa16 rfl (by kernel_rfl) fun K hK => ?_
      go_simp
      refine genK (R := fun W => Ch (fun _ => False) V W ∧ W.heap[X1.heap.size]? = some (.cells #[.int .u32 0, .int .u32 0] 121 (0, 0)) ∧ W.heap[V.heap.size]? = some (.cells #[.int .u32 0, .int .u32 0] 119 (0, 0))) ⟨zk.trans (Ch.alloc _ _) (fun _ _ h => h), heap_new _ _, (Ch.alloc (Q := fun _ => False) _ _).box nE (fun h => h)⟩ ?_
      rintro X2 ⟨cG, nG, nE'⟩
      clear zk
      refine hK.out _ _ ?_ (fun zk => ?_)
      · exact cG
      clear hK K
      try go_frame
      have ne : V.heap.size ≠ X1.heap.size := fun e => by have k := nE'; rw [e, nG] at k; injection k with k; injection k with _ k _; exact absurd k (by decide)
      have lo : W.heap.size ≤ V.heap.size ∧ W.heap.size ≤ X1.heap.size := by have h1 := HV.out.size; have h2 := cE.size; constructor <;> omega
      have lo2 : V.heap.size ≤ V.heap.size ∧ V.heap.size ≤ X1.heap.size := by have h2 := cE.size; constructor <;> omega
      have y0 := Lib.cell_of_heap nE'
      have y1 := frz nE'
      refine Go.Proofs.Ytoabhmpakcgloaa.rd 17 pa17 rfl (by kernel_rfl) fun K hK => ?_
      go_simp
      refine genK (R := fun W' => Ch (fun _ => False) V W' ∧ W'.heap[V.heap.size]? = some (.cells #[.int .u32 e1, .int .u32 e2] 119 (0, 0)) ∧ W'.heap[X1.heap.size]? = some (.cells #[.int .u32 0, .int .u32 0] 121 (0, 0))) (have k := ((Ch.set (Q := fun y => y = V.heap.size) X2 rfl 0 (.int .u32 e1)).trans (Ch.set (Q := fun y => y = V.heap.size) _ rfl 1 (.int .u32 e2)) (fun _ _ h => h)); ⟨cG.trans k (fun y hy (e : y = V.heap.size) => by omega), set2 nE', k.box nG ne.symm⟩) ?_
      rintro Y ⟨cY, mE, mG⟩
      clear zk
      refine hK.out _ _ ?_ (fun zk => ?_)
      · exact cY
      clear hK K
      try go_frame
      clear y0 y1
      have y0 := Lib.cell_of_heap mG
      have y1 := frz mG
      refine Go.Proofs.Ytoabhmpakcgloaa.rd 18 pa18 rfl (by kernel_rfl) fun K hK => ?_
      go_simp
      refine genK (R := fun W' => Ch (fun _ => False) V W' ∧ W'.heap[V.heap.size]? = some (.cells #[.int .u32 e1, .int .u32 e2] 119 (0, 0)) ∧ W'.heap[X1.heap.size]? = some (.cells #[.int .u32 a, .int .u32 b] 121 (0, 0))) (have k := ((Ch.set (Q := fun y => y = X1.heap.size) Y rfl 0 (.int .u32 a)).trans (Ch.set (Q := fun y => y = X1.heap.size) _ rfl 1 (.int .u32 b)) (fun _ _ h => h)); ⟨cY.trans k (fun y hy (e : y = X1.heap.size) => by omega), k.box mE ne, set2 mG⟩) ?_
      rintro Z ⟨cZ, zE, zG⟩
      clear zk
      refine hK.out _ _ ?_ (fun zk => ?_)
      · exact cZ
      clear hK K
      try go_frame
      refine wpAnyH_done (by kernel_rfl) ?_ _
      exact HK.out V.heap.size X1.heap.size Z (HV.out.trans cZ (fun _ _ h => h)) zE zG lo _ _ _ _ _ _ _ _ _ _ _ _ _ _ _
    · go_simp
      refine genK (R := fun W => Ch (fun _ => False) V W ∧ W.heap[X1.heap.size]? = some (.cells #[.int .u32 0, .int .u32 0] 121 (0, 0)) ∧ W.heap[V.heap.size]? = some (.cells #[.int .u32 0, .int .u32 0] 119 (0, 0))) ⟨zk.trans (Ch.alloc _ _) (fun _ _ h => h), heap_new _ _, (Ch.alloc (Q := fun _ => False) _ _).box nE (fun h => h)⟩ ?_
      rintro X2 ⟨cG, nG, nE'⟩
      clear zk
      refine hK.out _ _ ?_ (fun zk => ?_)
      · exact cG
      clear hK K
      try go_frame
      refine Go.Proofs.Ytoabhmpakcgloaa.rd 8 pa8 rfl (by kernel_rfl) fun K hK => ?_
      go_simp
      refine (at_is (HC.out _ _ zk (fun h => h) (fun h => h)).1 hi hl).mono ?_
      rintro e W4 ⟨rfl, rfl⟩
      go_wp2_with fail
      refine hK.out _ _ ?_ (fun zk => ?_)
      · exact zk
      clear hK K
      try go_frame
      apply tk 11 pa11 rfl (by kernel_rfl) (fun _ _ _ h => h) zk
      · intro wq zq
        go_simp
        try rfl
      go_frame
      apply tk 12 pa12 rfl (by kernel_rfl) (fun _ _ _ h => h) zk
      · intro wq zq
        go_simp
        try rfl
      go_frame
      apply tk 13 pa13 rfl (by kernel_rfl) (fun _ _ _ h => h) zk
      · intro wq zq
        go_simp
        try rfl
      go_frame
      apply tk 14 pa14 rfl (by kernel_rfl) (fun _ _ _ h => h) zk
      · intro wq zq
        obtain ⟨s1, s2⟩ := HL.out _ zq
        go_simp
        try rfl
      go_frame
      have ne : V.heap.size ≠ X1.heap.size := fun e => by have k := nE'; rw [e, nG] at k; injection k with k; injection k with _ k _; exact absurd k (by decide)
      have lo : W.heap.size ≤ V.heap.size ∧ W.heap.size ≤ X1.heap.size := by have h1 := HV.out.size; have h2 := cE.size; constructor <;> omega
      have lo2 : V.heap.size ≤ V.heap.size ∧ V.heap.size ≤ X1.heap.size := by have h2 := cE.size; constructor <;> omega
      have y0 := Lib.cell_of_heap nE'
      have y1 := frz nE'
      refine Go.Proofs.Ytoabhmpakcgloaa.rd 17 pa17 rfl (by kernel_rfl) fun K hK => ?_
      go_simp
      refine genK (R := fun W' => Ch (fun _ => False) V W' ∧ W'.heap[V.heap.size]? = some (.cells #[.int .u32 e1, .int .u32 e2] 119 (0, 0)) ∧ W'.heap[X1.heap.size]? = some (.cells #[.int .u32 0, .int .u32 0] 121 (0, 0))) (have k := ((Ch.set (Q := fun y => y = V.heap.size) X2 rfl 0 (.int .u32 e1)).trans (Ch.set (Q := fun y => y = V.heap.size) _ rfl 1 (.int .u32 e2)) (fun _ _ h => h)); ⟨cG.trans k (fun y hy (e : y = V.heap.size) => by omega), set2 nE', k.box nG ne.symm⟩) ?_
      rintro Y ⟨cY, mE, mG⟩
      clear zk
      refine hK.out _ _ ?_ (fun zk => ?_)
      · exact cY
      clear hK K
      try go_frame
      clear y0 y1
      have y0 := Lib.cell_of_heap mG
      have y1 := frz mG
      refine Go.Proofs.Ytoabhmpakcgloaa.rd 18 pa18 rfl (by kernel_rfl) fun K hK => ?_
      go_simp
      refine genK (R := fun W' => Ch (fun _ => False) V W' ∧ W'.heap[V.heap.size]? = some (.cells #[.int .u32 e1, .int .u32 e2] 119 (0, 0)) ∧ W'.heap[X1.heap.size]? = some (.cells #[.int .u32 a, .int .u32 b] 121 (0, 0))) (have k := ((Ch.set (Q := fun y => y = X1.heap.size) Y rfl 0 (.int .u32 a)).trans (Ch.set (Q := fun y => y = X1.heap.size) _ rfl 1 (.int .u32 b)) (fun _ _ h => h)); ⟨cY.trans k (fun y hy (e : y = X1.heap.size) => by omega), k.box mE ne, set2 mG⟩) ?_
      rintro Z ⟨cZ, zE, zG⟩
      clear zk
      refine hK.out _ _ ?_ (fun zk => ?_)
      · exact cZ
      clear hK K
      try go_frame
      refine wpAnyH_done (by kernel_rfl) ?_ _
      exact HK.out V.heap.size X1.heap.size Z (HV.out.trans cZ (fun _ _ h => h)) zE zG lo _ _ _ _ _ _ _ _ _ _ _ _ _ _ _
  · go_simp
    refine genK (R := fun W => Ch (fun _ => False) V W ∧ W.heap[V.heap.size]? = some (.cells #[.int .u32 0, .int .u32 0] 121 (0, 0))) ⟨zk.trans (Ch.alloc _ _) (fun _ _ h => h), heap_new _ _⟩ ?_
    rintro X1 ⟨cG, nG⟩
    clear zk
    refine hK.out _ _ ?_ (fun zk => ?_)
    · exact cG
    clear hK K
    try go_frame
    refine wpAnyH_ready (rs := [8, 15]) (by kernel_rfl) (by simp) ?_
    refine AllReadyH.cons (o := pa8) rfl (fun K hK => ?_) (AllReadyH.cons (o := pa15) rfl (fun K hK => ?_) AllReadyH.nil)
    · go_simp
      refine (at_is (HC.out _ _ zk (fun h => h) (fun h => h)).1 hi hl).mono ?_
      rintro e W4 ⟨rfl, rfl⟩
      go_wp2_with fail
      refine hK.out _ _ ?_ (fun zk => ?_)
      · exact zk
      clear hK K
      try go_frame
      apply tk 11 pa11 rfl (by kernel_rfl) (fun _ _ _ h => h) zk
      · intro wq zq
        go_simp
        try rfl
      go_frame
      apply tk 12 pa12 rfl (by kernel_rfl) (fun _ _ _ h => h) zk
      · intro wq zq
        go_simp
        try rfl
      go_frame
      apply tk 13 pa13 rfl (by kernel_rfl) (fun _ _ _ h => h) zk
      · intro wq zq
        go_simp
        try rfl
      go_frame
      apply tk 14 pa14 rfl (by kernel_rfl) (fun _ _ _ h => h) zk
      · intro wq zq
        obtain ⟨s1, s2⟩ := HL.out _ zq
        go_simp
        try rfl
      go_frame
      refine Go.Proofs.Ytoabhmpakcgloaa.rd 15 pa15 rfl (by kernel_rfl) fun K hK => ?_
      go_simp
      refine genK (R := fun W => Ch (fun _ => False) V W ∧ W.heap[X1.heap.size]? = some (.cells #[.int .u32 0, .int .u32 0] 119 (0, 0)) ∧ W.heap[V.heap.size]? = some (.cells #[.int .u32 0, .int .u32 0] 121 (0, 0))) ⟨zk.trans (Ch.alloc _ _) (fun _ _ h => h), heap_new _ _, (Ch.alloc (Q := fun _ => False) _ _).box nG (fun h => h)⟩ ?_
      rintro X2 ⟨cE, nE, nG'⟩
      clear zk
      refine hK.out _ _ ?_ (fun zk => ?_)
      · exact cE
      clear hK K
      try go_frame
      have ne : X1.heap.size ≠ V.heap.size := fun e => by have k := nE; rw [e, nG'] at k; injection k with k; injection k with _ k _; exact absurd k (by decide)
      have lo : W.heap.size ≤ X1.heap.size ∧ W.heap.size ≤ V.heap.size := by have h1 := HV.out.size; have h2 := cG.size; constructor <;> omega
      have lo2 : V.heap.size ≤ X1.heap.size ∧ V.heap.size ≤ V.heap.size := by have h2 := cG.size; constructor <;> omega
      have y0 := Lib.cell_of_heap nE
      have y1 := frz nE
      refine Go.Proofs.Ytoabhmpakcgloaa.rd 17 pa17 rfl (by kernel_rfl) fun K hK => ?_
      go_simp
      refine genK (R := fun W' => Ch (fun _ => False) V W' ∧ W'.heap[X1.heap.size]? = some (.cells #[.int .u32 e1, .int .u32 e2] 119 (0, 0)) ∧ W'.heap[V.heap.size]? = some (.cells #[.int .u32 0, .int .u32 0] 121 (0, 0))) (have k := ((Ch.set (Q := fun y => y = X1.heap.size) X2 rfl 0 (.int .u32 e1)).trans (Ch.set (Q := fun y => y = X1.heap.size) _ rfl 1 (.int .u32 e2)) (fun _ _ h => h)); ⟨cE.trans k (fun y hy (e : y = X1.heap.size) => by omega), set2 nE, k.box nG' ne.symm⟩) ?_
      rintro Y ⟨cY, mE, mG⟩
      clear zk
      refine hK.out _ _ ?_ (fun zk => ?_)
      · exact cY
      clear hK K
      try go_frame
      clear y0 y1
      have y0 := Lib.cell_of_heap mG
      have y1 := frz mG
      refine Go.Proofs.Ytoabhmpakcgloaa.rd 18 pa18 rfl (by kernel_rfl) fun K hK => ?_
      go_simp
      refine genK (R := fun W' => Ch (fun _ => False) V W' ∧ W'.heap[X1.heap.size]? = some (.cells #[.int .u32 e1, .int .u32 e2] 119 (0, 0)) ∧ W'.heap[V.heap.size]? = some (.cells #[.int .u32 a, .int .u32 b] 121 (0, 0))) (have k := ((Ch.set (Q := fun y => y = V.heap.size) Y rfl 0 (.int .u32 a)).trans (Ch.set (Q := fun y => y = V.heap.size) _ rfl 1 (.int .u32 b)) (fun _ _ h => h)); ⟨cY.trans k (fun y hy (e : y = V.heap.size) => by omega), k.box mE ne, set2 mG⟩) ?_
      rintro Z ⟨cZ, zE, zG⟩
      clear zk
      refine hK.out _ _ ?_ (fun zk => ?_)
      · exact cZ
      clear hK K
      try go_frame
      refine wpAnyH_done (by kernel_rfl) ?_ _
      exact HK.out X1.heap.size V.heap.size Z (HV.out.trans cZ (fun _ _ h => h)) zE zG lo _ _ _ _ _ _ _ _ _ _ _ _ _ _ _
    · go_simp
      refine genK (R := fun W => Ch (fun _ => False) V W ∧ W.heap[X1.heap.size]? = some (.cells #[.int .u32 0, .int .u32 0] 119 (0, 0)) ∧ W.heap[V.heap.size]? = some (.cells #[.int .u32 0, .int .u32 0] 121 (0, 0))) ⟨zk.trans (Ch.alloc _ _) (fun _ _ h => h), heap_new _ _, (Ch.alloc (Q := fun _ => False) _ _).box nG (fun h => h)⟩ ?_
      rintro X2 ⟨cE, nE, nG'⟩
      clear zk
      refine hK.out _ _ ?_ (fun zk => ?_)
      · exact cE
      clear hK K
      try go_frame
      refine Go.Proofs.Ytoabhmpakcgloaa.rd 8 pa8 rfl (by kernel_rfl) fun K hK => ?_
      go_simp
      refine (at_is (HC.out _ _ zk (fun h => h) (fun h => h)).1 hi hl).mono ?_
      rintro e W4 ⟨rfl, rfl⟩
      go_wp2_with fail
      refine hK.out _ _ ?_ (fun zk => ?_)
      · exact zk
      clear hK K
      try go_frame
      apply tk 11 pa11 rfl (by kernel_rfl) (fun _ _ _ h => h) zk
      · intro wq zq
        go_simp
        try rfl
      go_frame
      apply tk 12 pa12 rfl (by kernel_rfl) (fun _ _ _ h => h) zk
      · intro wq zq
        go_simp
        try rfl
      go_frame
      apply tk 13 pa13 rfl (by kernel_rfl) (fun _ _ _ h => h) zk
      · intro wq zq
        go_simp
        try rfl
      go_frame
      apply tk 14 pa14 rfl (by kernel_rfl) (fun _ _ _ h => h) zk
      · intro wq zq
        obtain ⟨s1, s2⟩ := HL.out _ zq
        go_simp
        try rfl
      go_frame
      have ne : X1.heap.size ≠ V.heap.size := fun e => by have k := nE; rw [e, nG'] at k; injection k with k; injection k with _ k _; exact absurd k (by decide)
      have lo : W.heap.size ≤ X1.heap.size ∧ W.heap.size ≤ V.heap.size := by have h1 := HV.out.size; have h2 := cG.size; constructor <;> omega
      have lo2 : V.heap.size ≤ X1.heap.size ∧ V.heap.size ≤ V.heap.size := by have h2 := cG.size; constructor <;> omega
      have y0 := Lib.cell_of_heap nE
      have y1 := frz nE
      refine Go.Proofs.Ytoabhmpakcgloaa.rd 17 pa17 rfl (by kernel_rfl) fun K hK => ?_
      go_simp
      refine genK (R := fun W' => Ch (fun _ => False) V W' ∧ W'.heap[X1.heap.size]? = some (.cells #[.int .u32 e1, .int .u32 e2] 119 (0, 0)) ∧ W'.heap[V.heap.size]? = some (.cells #[.int .u32 0, .int .u32 0] 121 (0, 0))) (have k := ((Ch.set (Q := fun y => y = X1.heap.size) X2 rfl 0 (.int .u32 e1)).trans (Ch.set (Q := fun y => y = X1.heap.size) _ rfl 1 (.int .u32 e2)) (fun _ _ h => h)); ⟨cE.trans k (fun y hy (e : y = X1.heap.size) => by omega), set2 nE, k.box nG' ne.symm⟩) ?_
      rintro Y ⟨cY, mE, mG⟩
      clear zk
      refine hK.out _ _ ?_ (fun zk => ?_)
      · exact cY
      clear hK K
      try go_frame
      clear y0 y1
      have y0 := Lib.cell_of_heap mG
      have y1 := frz mG
      refine Go.Proofs.Ytoabhmpakcgloaa.rd 18 pa18 rfl (by kernel_rfl) fun K hK => ?_
      go_simp
      refine genK (R := fun W' => Ch (fun _ => False) V W' ∧ W'.heap[X1.heap.size]? = some (.cells #[.int .u32 e1, .int .u32 e2] 119 (0, 0)) ∧ W'.heap[V.heap.size]? = some (.cells #[.int .u32 a, .int .u32 b] 121 (0, 0))) (have k := ((Ch.set (Q := fun y => y = V.heap.size) Y rfl 0 (.int .u32 a)).trans (Ch.set (Q := fun y => y = V.heap.size) _ rfl 1 (.int .u32 b)) (fun _ _ h => h)); ⟨cY.trans k (fun y hy (e : y = V.heap.size) => by omega), k.box mE ne, set2 mG⟩) ?_
      rintro Z ⟨cZ, zE, zG⟩
      clear zk
      refine hK.out _ _ ?_ (fun zk => ?_)
      · exact cZ
      clear hK K
      try go_frame
      refine wpAnyH_done (by kernel_rfl) ?_ _
      exact HK.out X1.heap.size V.heap.size Z (HV.out.trans cZ (fun _ _ h => h)) zE zG lo _ _ _ _ _ _ _ _ _ _ _ _ _ _ _

end Go.Proofs.Ytoabhmpakcgloaa
