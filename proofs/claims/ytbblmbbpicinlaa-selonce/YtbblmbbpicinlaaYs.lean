/- Layer 14: the law's awake: its sends and receives. Layer 14: the law's awake: what each of its calls answers. Layer 14: the law's awake. Layer 14: no channels. Layer 14: a channel's ring; how much it holds, and for how much it has room. Layer 14: a send on a closed channel; a closed channel is closed again. Layer 14: a receive from a closed channel that holds nothing. -/
import Derived.Test.YtbblmbbpicinlaaYq
namespace Go.Proofs.Ytbblmbbpicinlaa
open Go.RowKit

theorem res_hdl (tm : Array Value) (A : Nat) (Z : World) (a b : Int) (h2 : tm[2]?.getD undef = .pointer (some ⟨A, 0, none⟩)) (hb : Z.heap[A]? = some (.cells #[.int .u32 a, .int .u32 b] 43 (0, 0))) :
    (results Try.f18 tm).run Try.prog Z = .ok (hvW a b) Z := by
  have e := Lib.cell_of_heap hb
  simp [results, Try.f18, h2, go_sem, e]
theorem lhandle_is (w : World) {n : Int} (h0 : 0 ≤ n) (h1 : n < 4294967296) : Calls Try.prog 18 #[.int .i64 n] w fun e w' => e = .returned (hvW n 1) ∧ Below w.heap.size w w' := by
  have hw : IntKind.u32.wrap n = n := by rw [show IntKind.u32.wrap n = n % 4294967296 from rfl]; omega
  go_enter Try.func18, Try.ntmps18
  go_wp2
  refine bodyPost_ret (v := hvW n 1) (res_hdl _ w.heap.size _ n 1 rfl (heap_new w _)) rfl ⟨rfl, below1 _ _⟩

theorem wp_thenC {P : Program} {c : Code} {K : Act → World → Prop} {Q : Exit → Act → World → Prop} {a : Act} {w : World} (h : c.wp P (Exit.then K (fun _ _ _ => False)) a w) : c.wp P (Exit.then K Q) a w :=
  Code.wp_mono (fun e a w h => by cases e <;> first | exact h | exact (h : False).elim) h

abbrev kwa0 : Oper := { dst := some 34, op := Op.move (Operand.tmp 2), type := 26, pos := "law.go:34", after := #[], guard := none }
abbrev kwa1 : Oper := { dst := some 35, op := Op.call { callee := Callee.value (Operand.func 18), args := #[Operand.const (Value.int IntKind.i64 5)], argTypes := #[3] }, type := 43, pos := "law.go:34", after := #[], guard := none }
abbrev kwa2 : Oper := { dst := some 36, op := Op.load 43 (Operand.tmp 4), type := 43, pos := "law.go:34", after := #[], guard := none }
abbrev kwa3 : Oper := { dst := some 37, op := Op.build 46 #[(0, Operand.const (Value.int IntKind.i64 7))], type := 46, pos := "law.go:34", after := #[], guard := none }
abbrev kwa4 : Oper := { dst := some 38, op := Op.call { callee := Callee.value (Operand.func 25), args := #[Operand.tmp 34, Operand.tmp 35, Operand.tmp 36, Operand.tmp 37], argTypes := #[26, 43, 43, 46] }, type := 73, pos := "law.go:34", after := #[{ on := 0, ground := Ground.data }, { on := 1, ground := Ground.data }, { on := 2, ground := Ground.data }, { on := 3, ground := Ground.data }, { on := 1, ground := Ground.chain }], guard := none }
abbrev kwa5 : Oper := { dst := some 33, op := Op.move (Operand.tmp 38), type := 73, pos := "law.go:34", after := #[{ on := 4, ground := Ground.data }], guard := none }
abbrev kwa6 : Oper := { dst := some 39, op := Op.extract (Operand.tmp 33) 0, type := 72, pos := "law.go:34", after := #[{ on := 5, ground := Ground.data }], guard := none }
abbrev kwa7 : Oper := { dst := some 40, op := Op.extract (Operand.tmp 33) 1, type := 27, pos := "law.go:34", after := #[{ on := 5, ground := Ground.data }, { on := 9, ground := Ground.gcOnly Departure.lateStores }], guard := none }
abbrev kwa8 : Oper := { dst := some 6, op := Op.alloc 72, type := 0, pos := "law.go:34", after := #[], guard := none }
abbrev kwa9 : Oper := { dst := none, op := Op.store 72 (Operand.tmp 6) (Operand.tmp 39), type := 0, pos := "law.go:34", after := #[{ on := 8, ground := Ground.data }, { on := 6, ground := Ground.data }, { on := 4, ground := Ground.chain }, { on := 0, ground := Ground.phase }, { on := 1, ground := Ground.phase }, { on := 2, ground := Ground.phase }, { on := 3, ground := Ground.phase }, { on := 4, ground := Ground.phase }, { on := 5, ground := Ground.phase }, { on := 6, ground := Ground.phase }, { on := 7, ground := Ground.textOnly Departure.lateStores }, { on := 8, ground := Ground.phase }], guard := none }
abbrev kwa10 : Oper := { dst := some 7, op := Op.assign (Operand.tmp 40), type := 27, pos := "law.go:34", after := #[{ on := 7, ground := Ground.data }, { on := 9, ground := Ground.chain }, { on := 0, ground := Ground.phase }, { on := 1, ground := Ground.phase }, { on := 2, ground := Ground.phase }, { on := 3, ground := Ground.phase }, { on := 4, ground := Ground.phase }, { on := 5, ground := Ground.phase }, { on := 6, ground := Ground.phase }, { on := 7, ground := Ground.phase }, { on := 8, ground := Ground.phase }, { on := 9, ground := Ground.phase }], guard := none }

set_option maxRecDepth 100000 in
set_option maxHeartbeats 8000000 in
theorem aw_a {W : World} {c H : Nat} (hH : W.heap[H]? = some (.cells #[.int .u32 1, .int .u32 1] 43 (0, 0))) {Qs : Nat → Prop} (hQ : ∀ z, Qs z → z < W.heap.size) (nH : ¬ Qs H) {f : Int} {u : Va} {ok : Bool} {sn sc : Nat} {R : Option Addr → World → World → Prop}
    (hs : ∀ V, Ch (fun _ => False) W V → Calls Try.prog 25 #[.pointer (some ⟨c, 0, none⟩), hkV (5, 1), hkV (1, 1), vaV ⟨7, 0, 0⟩] V fun e w' => ∃ sa, e = .returned (.tuple #[didV f u ok (.slice sa sn sc), .int .i64 0]) ∧ R sa V w' ∧ Ch Qs V w')
    {u0 u1 u3 u5 u6 u7 u8 u9 u10 u11 u12 u13 u14 u15 u16 u17 u18 u19 u20 u21 u22 u23 u24 u25 u26 u27 u28 u29 u30 u31 u32 u33 u34 u35 u36 u37 u38 u39 u40 u41 u42 u43 u44 u45 u46 u47 u48 u49 u50 u51 u52 u53 u54 u55 u56 u57 u58 u59 u60 u61 u62 u63 u64 u65 u66 u67 u68 u69 u70 u71 u72 u73 u74 u75 u76 u77 u78 u79 u80 u81 u82 u83 u84 u85 u86 u87 u88 u89 u90 u91 u92 u93 u94 u95 u96 u97 u98 u99 u100 u101 u102 u103 u104 u105 u106 u107 u108 u109 u110 u111 u112 u113 u114 u115 : Value} {K : Act → World → Prop} (hK0 : ∀ (A : Nat) (sa : Option Addr) (V w6 w7 : World) (t33 t34 t35 t36 t37 t38 t39 t40 : Value), Ch (fun _ => False) W V → R sa V w6 → Ch Qs V w6 → W.heap.size ≤ A → w7.heap[A]? = some (.cells #[.int .i64 f, .int .i64 u.n, .int .u32 u.s, .int .u32 u.g, .bool ok, .slice sa sn sc] 72 (0, 0)) → Ch (fun z => z = A) w6 w7 → (A < V.heap.size ∨ A = w6.heap.size) → K { tmps := List.toArray (u0 :: u1 :: (.pointer (some ⟨c, 0, none⟩)) :: u3 :: (.pointer (some ⟨H, 0, none⟩)) :: u5 :: (.pointer (some ⟨A, 0, none⟩)) :: (.int .i64 0) :: u8 :: u9 :: u10 :: u11 :: u12 :: u13 :: u14 :: u15 :: u16 :: u17 :: u18 :: u19 :: u20 :: u21 :: u22 :: u23 :: u24 :: u25 :: u26 :: u27 :: u28 :: u29 :: u30 :: u31 :: u32 :: (t33) :: (t34) :: (t35) :: (t36) :: (t37) :: (t38) :: (t39) :: (t40) :: u41 :: u42 :: u43 :: u44 :: u45 :: u46 :: u47 :: u48 :: u49 :: u50 :: u51 :: u52 :: u53 :: u54 :: u55 :: u56 :: u57 :: u58 :: u59 :: u60 :: u61 :: u62 :: u63 :: u64 :: u65 :: u66 :: u67 :: u68 :: u69 :: u70 :: u71 :: u72 :: u73 :: u74 :: u75 :: u76 :: u77 :: u78 :: u79 :: u80 :: u81 :: u82 :: u83 :: u84 :: u85 :: u86 :: u87 :: u88 :: u89 :: u90 :: u91 :: u92 :: u93 :: u94 :: u95 :: u96 :: u97 :: u98 :: u99 :: u100 :: u101 :: u102 :: u103 :: u104 :: u105 :: u106 :: u107 :: u108 :: u109 :: u110 :: u111 :: u112 :: u113 :: u114 :: u115 :: []), defers := [] } w7) :
    (Code.region 7 (List.toArray (kwa0 :: kwa1 :: kwa2 :: kwa3 :: kwa4 :: kwa5 :: kwa6 :: kwa7 :: kwa8 :: kwa9 :: kwa10 :: [])) true).wp Try.prog (Exit.then K (fun _ _ _ => False)) { tmps := List.toArray (u0 :: u1 :: (.pointer (some ⟨c, 0, none⟩)) :: u3 :: (.pointer (some ⟨H, 0, none⟩)) :: u5 :: u6 :: u7 :: u8 :: u9 :: u10 :: u11 :: u12 :: u13 :: u14 :: u15 :: u16 :: u17 :: u18 :: u19 :: u20 :: u21 :: u22 :: u23 :: u24 :: u25 :: u26 :: u27 :: u28 :: u29 :: u30 :: u31 :: u32 :: u33 :: u34 :: u35 :: u36 :: u37 :: u38 :: u39 :: u40 :: u41 :: u42 :: u43 :: u44 :: u45 :: u46 :: u47 :: u48 :: u49 :: u50 :: u51 :: u52 :: u53 :: u54 :: u55 :: u56 :: u57 :: u58 :: u59 :: u60 :: u61 :: u62 :: u63 :: u64 :: u65 :: u66 :: u67 :: u68 :: u69 :: u70 :: u71 :: u72 :: u73 :: u74 :: u75 :: u76 :: u77 :: u78 :: u79 :: u80 :: u81 :: u82 :: u83 :: u84 :: u85 :: u86 :: u87 :: u88 :: u89 :: u90 :: u91 :: u92 :: u93 :: u94 :: u95 :: u96 :: u97 :: u98 :: u99 :: u100 :: u101 :: u102 :: u103 :: u104 :: u105 :: u106 :: u107 :: u108 :: u109 :: u110 :: u111 :: u112 :: u113 :: u114 :: u115 :: []), defers := [] } W := by
  have HK := hide hK0
  have HS0 := hide hs
  have HQ := hide (show ∀ z, Qs z → z < W.heap.size from hQ)
  have HH := hide hH
  clear hK0 hs
  refine wp_reg (fun z => Qs z ∨ W.heap.size ≤ z) (R := fun V => Ch (fun _ => False) W V) (by kernel_rfl) (Ch.drew _) (fun V0 cV zk => ?_)
  have CV := hide cV
  clear cV
  have HX := hide (fun wq (kq : Ch (fun z => Qs z ∨ W.heap.size ≤ z) V0 wq) => show wq.cell? ⟨H, 0, none⟩ = some (.int .u32 1) ∧ wq.cell? ⟨H, 1, none⟩ = some (.int .u32 1) from by have e := Lib.cell_of_heap (kq.box (CV.out.box HH.out (fun h => h)) (fun e => e.elim nH (fun e => by have := (Array.getElem?_eq_some_iff.1 HH.out).1; omega))); exact ⟨by simp [e], by simp [e]⟩)
  apply tk 0 kwa0 rfl (by kernel_rfl) (fun _ _ _ h => h) zk
  · intro wq zq
    go_simp
    try rfl
  go_frame
  apply tk 2 kwa2 rfl (by kernel_rfl) (fun _ _ _ h => h) zk
  · intro wq zq
    obtain ⟨s0, s1⟩ := HX.out _ zq
    go_simp
    try rfl
  go_frame
  apply tk 3 kwa3 rfl (by kernel_rfl) (fun _ _ _ h => h) zk
  · intro wq zq
    go_simp
    try rfl
  go_frame
  refine wpAnyH_ready (rs := [1, 8]) (by kernel_rfl) (by simp) ?_
  refine AllReadyH.cons (o := kwa1) rfl (fun K hK => ?_) (AllReadyH.cons (o := kwa8) rfl (fun K hK => ?_) AllReadyH.nil)
  · go_simp
    refine (lhandle_is V0 (n := 5) (by decide) (by decide)).mono ?_
    rintro e vh ⟨rfl, hb⟩
    have Cvh := hide (CV.out.trans (Ch.of_below (Q := fun _ => False) hb) (fun _ _ h => h))
    have Zvh := hide (zk.trans (Ch.of_below (Q := fun z => Qs z ∨ W.heap.size ≤ z) hb) (fun _ _ h => h))
    clear hb
    go_wp2_with fail
    refine hK.out _ _ ?_ (fun zk => ?_)
    · exact Zvh.out
    clear hK K
    try go_frame
    refine wpAnyH_ready (rs := [4, 8]) (by kernel_rfl) (by simp) ?_
    refine AllReadyH.cons (o := kwa4) rfl (fun K hK => ?_) (AllReadyH.cons (o := kwa8) rfl (fun K hK => ?_) AllReadyH.nil)
    · go_simp
      refine (HS0.out vh (Cvh.out)).mono ?_
      rintro e vc ⟨sa, rfl, hR, hcc⟩
      have RR := hide (And.intro (Cvh.out) (And.intro hR hcc))
      have Zvc := hide (zk.trans hcc (fun _ _ h => .inl h))
      clear hR hcc
      go_wp2_with fail
      refine hK.out _ _ ?_ (fun zk => ?_)
      · exact Zvc.out
      clear hK K
      try go_frame
      apply tk 5 kwa5 rfl (by kernel_rfl) (fun _ _ _ h => h) zk
      · intro wq zq
        go_simp
        try rfl
      go_frame
      apply tk 6 kwa6 rfl (by kernel_rfl) (fun _ _ _ h => h) zk
      · intro wq zq
        go_simp
        try rfl
      go_frame
      apply tk 7 kwa7 rfl (by kernel_rfl) (fun _ _ _ h => h) zk
      · intro wq zq
        go_simp
        try rfl
      go_frame
      refine Go.Proofs.Ytbblmbbpicinlaa.rd 8 kwa8 rfl (by kernel_rfl) fun K hK => ?_
      go_simp
      have hn := heap_new vc (.cells #[.int .i64 0, .int .i64 0, .int .u32 0, .int .u32 0, .bool false, .slice none 0 0] 72)
      have hcA := Ch.alloc (Q := fun _ => False) vc (.cells #[.int .i64 0, .int .i64 0, .int .u32 0, .int .u32 0, .bool false, .slice none 0 0] 72)
      refine hK.out _ _ ?_ (fun zk => ?_)
      · exact zk.trans (Ch.alloc (Q := fun z => Qs z ∨ W.heap.size ≤ z) _ _) (fun _ _ h => h)
      clear hK K
      try go_frame
      have hsz : W.heap.size ≤ vc.heap.size := (Nat.le_trans Cvh.out.size RR.out.2.2.size)
      have hlt : vc.heap.size < (vc.alloc (.cells #[.int .i64 0, .int .i64 0, .int .u32 0, .int .u32 0, .bool false, .slice none 0 0] 72)).heap.size := by rw [World.size_alloc]; exact Nat.lt_succ_self _
      generalize vc.alloc (.cells #[.int .i64 0, .int .i64 0, .int .u32 0, .int .u32 0, .bool false, .slice none 0 0] 72) = va at hn hcA zk hlt ⊢
      have HN := hide hn
      have HA := hide (And.intro hsz hlt)
      have CA := hide hcA
      clear hn hcA hsz hlt
      have n9 := HN.out
      have d0 : va.cell? ⟨vc.heap.size, 0, none⟩ = some (.int .i64 0) := by simp [Lib.cell_of_heap n9]
      have d1 : va.cell? ⟨vc.heap.size, 1, none⟩ = some (.int .i64 0) := by simp [Lib.cell_of_heap n9]
      have d2 : va.cell? ⟨vc.heap.size, 2, none⟩ = some (.int .u32 0) := by simp [Lib.cell_of_heap n9]
      have d3 : va.cell? ⟨vc.heap.size, 3, none⟩ = some (.int .u32 0) := by simp [Lib.cell_of_heap n9]
      have d4 : va.cell? ⟨vc.heap.size, 4, none⟩ = some (.bool false) := by simp [Lib.cell_of_heap n9]
      have d5 : va.cell? ⟨vc.heap.size, 5, none⟩ = some (.slice none 0 0) := by simp [Lib.cell_of_heap n9]
      have df : ∀ o, va.frozen? ⟨vc.heap.size, o, none⟩ = false := fun o => by simp [World.frozen?, n9]
      have HS := hide (did_set n9 (.int .i64 f) (.int .i64 u.n) (.int .u32 u.s) (.int .u32 u.g) (.bool ok) (.slice sa sn sc))
      clear n9
      refine Go.Proofs.Ytbblmbbpicinlaa.rd 9 kwa9 rfl (by kernel_rfl) fun K hK => ?_
      go_simp
      refine hK.out _ _ ?_ (fun zk => ?_)
      · exact zk.trans HS.out.2 (fun z hz e => .inr (by rw [e]; exact HA.out.1))
      clear hK K
      try go_frame
      apply tk 10 kwa10 rfl (by kernel_rfl) (fun _ _ _ h => h) zk
      · intro wq zq
        go_simp
        try rfl
      go_frame
      refine wpAnyH_done (by kernel_rfl) ?_ _
      exact HK.out vc.heap.size sa _ vc _ _ _ _ _ _ _ _ _ RR.out.1 RR.out.2.1 RR.out.2.2 HA.out.1 HS.out.1 ((CA.out.mono (fun _ _ h => h.elim)).trans HS.out.2 (fun _ _ h => h)) (.inr rfl)
    · go_simp
      have hn := heap_new vh (.cells #[.int .i64 0, .int .i64 0, .int .u32 0, .int .u32 0, .bool false, .slice none 0 0] 72)
      have hcA := Ch.alloc (Q := fun _ => False) vh (.cells #[.int .i64 0, .int .i64 0, .int .u32 0, .int .u32 0, .bool false, .slice none 0 0] 72)
      refine hK.out _ _ ?_ (fun zk => ?_)
      · exact zk.trans (Ch.alloc (Q := fun z => Qs z ∨ W.heap.size ≤ z) _ _) (fun _ _ h => h)
      clear hK K
      try go_frame
      have hsz : W.heap.size ≤ vh.heap.size := Cvh.out.size
      have hlt : vh.heap.size < (vh.alloc (.cells #[.int .i64 0, .int .i64 0, .int .u32 0, .int .u32 0, .bool false, .slice none 0 0] 72)).heap.size := by rw [World.size_alloc]; exact Nat.lt_succ_self _
      generalize vh.alloc (.cells #[.int .i64 0, .int .i64 0, .int .u32 0, .int .u32 0, .bool false, .slice none 0 0] 72) = va at hn hcA zk hlt ⊢
      have HN := hide hn
      have HA := hide (And.intro hsz hlt)
      have CA := hide (Cvh.out.trans hcA (fun _ _ h => h))
      clear hn hcA hsz hlt
      refine Go.Proofs.Ytbblmbbpicinlaa.rd 4 kwa4 rfl (by kernel_rfl) fun K hK => ?_
      go_simp
      refine (HS0.out va (CA.out)).mono ?_
      rintro e vc ⟨sa, rfl, hR, hcc⟩
      have RR := hide (And.intro (CA.out) (And.intro hR hcc))
      have Zvc := hide (zk.trans hcc (fun _ _ h => .inl h))
      replace HN := hide (hcc.box HN.out (fun e => by have h1 := HQ.out _ e; have h2 := HA.out.1; omega))
      clear hR hcc
      go_wp2_with fail
      refine hK.out _ _ ?_ (fun zk => ?_)
      · exact Zvc.out
      clear hK K
      try go_frame
      apply tk 5 kwa5 rfl (by kernel_rfl) (fun _ _ _ h => h) zk
      · intro wq zq
        go_simp
        try rfl
      go_frame
      apply tk 6 kwa6 rfl (by kernel_rfl) (fun _ _ _ h => h) zk
      · intro wq zq
        go_simp
        try rfl
      go_frame
      apply tk 7 kwa7 rfl (by kernel_rfl) (fun _ _ _ h => h) zk
      · intro wq zq
        go_simp
        try rfl
      go_frame
      have n9 := HN.out
      have d0 : vc.cell? ⟨vh.heap.size, 0, none⟩ = some (.int .i64 0) := by simp [Lib.cell_of_heap n9]
      have d1 : vc.cell? ⟨vh.heap.size, 1, none⟩ = some (.int .i64 0) := by simp [Lib.cell_of_heap n9]
      have d2 : vc.cell? ⟨vh.heap.size, 2, none⟩ = some (.int .u32 0) := by simp [Lib.cell_of_heap n9]
      have d3 : vc.cell? ⟨vh.heap.size, 3, none⟩ = some (.int .u32 0) := by simp [Lib.cell_of_heap n9]
      have d4 : vc.cell? ⟨vh.heap.size, 4, none⟩ = some (.bool false) := by simp [Lib.cell_of_heap n9]
      have d5 : vc.cell? ⟨vh.heap.size, 5, none⟩ = some (.slice none 0 0) := by simp [Lib.cell_of_heap n9]
      have df : ∀ o, vc.frozen? ⟨vh.heap.size, o, none⟩ = false := fun o => by simp [World.frozen?, n9]
      have HS := hide (did_set n9 (.int .i64 f) (.int .i64 u.n) (.int .u32 u.s) (.int .u32 u.g) (.bool ok) (.slice sa sn sc))
      clear n9
      refine Go.Proofs.Ytbblmbbpicinlaa.rd 9 kwa9 rfl (by kernel_rfl) fun K hK => ?_
      go_simp
      refine hK.out _ _ ?_ (fun zk => ?_)
      · exact zk.trans HS.out.2 (fun z hz e => .inr (by rw [e]; exact HA.out.1))
      clear hK K
      try go_frame
      apply tk 10 kwa10 rfl (by kernel_rfl) (fun _ _ _ h => h) zk
      · intro wq zq
        go_simp
        try rfl
      go_frame
      refine wpAnyH_done (by kernel_rfl) ?_ _
      exact HK.out vh.heap.size sa _ vc _ _ _ _ _ _ _ _ _ RR.out.1 RR.out.2.1 RR.out.2.2 HA.out.1 HS.out.1 HS.out.2 (.inl HA.out.2)
  · go_simp
    have hn := heap_new V0 (.cells #[.int .i64 0, .int .i64 0, .int .u32 0, .int .u32 0, .bool false, .slice none 0 0] 72)
    have hcA := Ch.alloc (Q := fun _ => False) V0 (.cells #[.int .i64 0, .int .i64 0, .int .u32 0, .int .u32 0, .bool false, .slice none 0 0] 72)
    refine hK.out _ _ ?_ (fun zk => ?_)
    · exact zk.trans (Ch.alloc (Q := fun z => Qs z ∨ W.heap.size ≤ z) _ _) (fun _ _ h => h)
    clear hK K
    try go_frame
    have hsz : W.heap.size ≤ V0.heap.size := CV.out.size
    have hlt : V0.heap.size < (V0.alloc (.cells #[.int .i64 0, .int .i64 0, .int .u32 0, .int .u32 0, .bool false, .slice none 0 0] 72)).heap.size := by rw [World.size_alloc]; exact Nat.lt_succ_self _
    generalize V0.alloc (.cells #[.int .i64 0, .int .i64 0, .int .u32 0, .int .u32 0, .bool false, .slice none 0 0] 72) = va at hn hcA zk hlt ⊢
    have HN := hide hn
    have HA := hide (And.intro hsz hlt)
    have CA := hide (CV.out.trans hcA (fun _ _ h => h))
    clear hn hcA hsz hlt
    refine Go.Proofs.Ytbblmbbpicinlaa.rd 1 kwa1 rfl (by kernel_rfl) fun K hK => ?_
    go_simp
    refine (lhandle_is va (n := 5) (by decide) (by decide)).mono ?_
    rintro e vh ⟨rfl, hb⟩
    have Cvh := hide (CA.out.trans (Ch.of_below (Q := fun _ => False) hb) (fun _ _ h => h))
    have Zvh := hide (zk.trans (Ch.of_below (Q := fun z => Qs z ∨ W.heap.size ≤ z) hb) (fun _ _ h => h))
    replace HN := hide ((Ch.of_below (Q := fun _ => False) hb).box HN.out (fun h => h))
    replace HA := hide (And.intro HA.out.1 (Nat.lt_of_lt_of_le HA.out.2 hb.size))
    clear hb
    go_wp2_with fail
    refine hK.out _ _ ?_ (fun zk => ?_)
    · exact Zvh.out
    clear hK K
    try go_frame
    refine Go.Proofs.Ytbblmbbpicinlaa.rd 4 kwa4 rfl (by kernel_rfl) fun K hK => ?_
    go_simp
    refine (HS0.out vh (Cvh.out)).mono ?_
    rintro e vc ⟨sa, rfl, hR, hcc⟩
    have RR := hide (And.intro (Cvh.out) (And.intro hR hcc))
    have Zvc := hide (zk.trans hcc (fun _ _ h => .inl h))
    replace HN := hide (hcc.box HN.out (fun e => by have h1 := HQ.out _ e; have h2 := HA.out.1; omega))
    clear hR hcc
    go_wp2_with fail
    refine hK.out _ _ ?_ (fun zk => ?_)
    · exact Zvc.out
    clear hK K
    try go_frame
    apply tk 5 kwa5 rfl (by kernel_rfl) (fun _ _ _ h => h) zk
    · intro wq zq
      go_simp
      try rfl
    go_frame
    apply tk 6 kwa6 rfl (by kernel_rfl) (fun _ _ _ h => h) zk
    · intro wq zq
      go_simp
      try rfl
    go_frame
    apply tk 7 kwa7 rfl (by kernel_rfl) (fun _ _ _ h => h) zk
    · intro wq zq
      go_simp
      try rfl
    go_frame
    have n9 := HN.out
    have d0 : vc.cell? ⟨V0.heap.size, 0, none⟩ = some (.int .i64 0) := by simp [Lib.cell_of_heap n9]
    have d1 : vc.cell? ⟨V0.heap.size, 1, none⟩ = some (.int .i64 0) := by simp [Lib.cell_of_heap n9]
    have d2 : vc.cell? ⟨V0.heap.size, 2, none⟩ = some (.int .u32 0) := by simp [Lib.cell_of_heap n9]
    have d3 : vc.cell? ⟨V0.heap.size, 3, none⟩ = some (.int .u32 0) := by simp [Lib.cell_of_heap n9]
    have d4 : vc.cell? ⟨V0.heap.size, 4, none⟩ = some (.bool false) := by simp [Lib.cell_of_heap n9]
    have d5 : vc.cell? ⟨V0.heap.size, 5, none⟩ = some (.slice none 0 0) := by simp [Lib.cell_of_heap n9]
    have df : ∀ o, vc.frozen? ⟨V0.heap.size, o, none⟩ = false := fun o => by simp [World.frozen?, n9]
    have HS := hide (did_set n9 (.int .i64 f) (.int .i64 u.n) (.int .u32 u.s) (.int .u32 u.g) (.bool ok) (.slice sa sn sc))
    clear n9
    refine Go.Proofs.Ytbblmbbpicinlaa.rd 9 kwa9 rfl (by kernel_rfl) fun K hK => ?_
    go_simp
    refine hK.out _ _ ?_ (fun zk => ?_)
    · exact zk.trans HS.out.2 (fun z hz e => .inr (by rw [e]; exact HA.out.1))
    clear hK K
    try go_frame
    apply tk 10 kwa10 rfl (by kernel_rfl) (fun _ _ _ h => h) zk
    · intro wq zq
      go_simp
      try rfl
    go_frame
    refine wpAnyH_done (by kernel_rfl) ?_ _
    exact HK.out V0.heap.size sa _ vc _ _ _ _ _ _ _ _ _ RR.out.1 RR.out.2.1 RR.out.2.2 HA.out.1 HS.out.1 HS.out.2 (.inl HA.out.2)

abbrev kwb0 : Oper := { dst := some 42, op := Op.move (Operand.tmp 2), type := 26, pos := "law.go:35", after := #[], guard := none }
abbrev kwb1 : Oper := { dst := some 43, op := Op.call { callee := Callee.value (Operand.func 18), args := #[Operand.const (Value.int IntKind.i64 5)], argTypes := #[3] }, type := 43, pos := "law.go:35", after := #[], guard := none }
abbrev kwb2 : Oper := { dst := some 44, op := Op.load 43 (Operand.tmp 4), type := 43, pos := "law.go:35", after := #[], guard := none }
abbrev kwb3 : Oper := { dst := some 45, op := Op.build 46 #[(0, Operand.const (Value.int IntKind.i64 8))], type := 46, pos := "law.go:35", after := #[], guard := none }
abbrev kwb4 : Oper := { dst := some 46, op := Op.call { callee := Callee.value (Operand.func 25), args := #[Operand.tmp 42, Operand.tmp 43, Operand.tmp 44, Operand.tmp 45], argTypes := #[26, 43, 43, 46] }, type := 73, pos := "law.go:35", after := #[{ on := 0, ground := Ground.data }, { on := 1, ground := Ground.data }, { on := 2, ground := Ground.data }, { on := 3, ground := Ground.data }, { on := 1, ground := Ground.chain }], guard := none }
abbrev kwb5 : Oper := { dst := some 41, op := Op.move (Operand.tmp 46), type := 73, pos := "law.go:35", after := #[{ on := 4, ground := Ground.data }], guard := none }
abbrev kwb6 : Oper := { dst := some 47, op := Op.extract (Operand.tmp 41) 0, type := 72, pos := "law.go:35", after := #[{ on := 5, ground := Ground.data }], guard := none }
abbrev kwb7 : Oper := { dst := some 48, op := Op.extract (Operand.tmp 41) 1, type := 27, pos := "law.go:35", after := #[{ on := 5, ground := Ground.data }, { on := 9, ground := Ground.gcOnly Departure.lateStores }], guard := none }
abbrev kwb8 : Oper := { dst := some 8, op := Op.alloc 72, type := 0, pos := "law.go:35", after := #[], guard := none }
abbrev kwb9 : Oper := { dst := none, op := Op.store 72 (Operand.tmp 8) (Operand.tmp 47), type := 0, pos := "law.go:35", after := #[{ on := 8, ground := Ground.data }, { on := 6, ground := Ground.data }, { on := 4, ground := Ground.chain }, { on := 0, ground := Ground.phase }, { on := 1, ground := Ground.phase }, { on := 2, ground := Ground.phase }, { on := 3, ground := Ground.phase }, { on := 4, ground := Ground.phase }, { on := 5, ground := Ground.phase }, { on := 6, ground := Ground.phase }, { on := 7, ground := Ground.textOnly Departure.lateStores }, { on := 8, ground := Ground.phase }], guard := none }
abbrev kwb10 : Oper := { dst := some 9, op := Op.assign (Operand.tmp 48), type := 27, pos := "law.go:35", after := #[{ on := 7, ground := Ground.data }, { on := 9, ground := Ground.chain }, { on := 0, ground := Ground.phase }, { on := 1, ground := Ground.phase }, { on := 2, ground := Ground.phase }, { on := 3, ground := Ground.phase }, { on := 4, ground := Ground.phase }, { on := 5, ground := Ground.phase }, { on := 6, ground := Ground.phase }, { on := 7, ground := Ground.phase }, { on := 8, ground := Ground.phase }, { on := 9, ground := Ground.phase }], guard := none }

set_option maxRecDepth 100000 in
set_option maxHeartbeats 8000000 in
theorem aw_b {W : World} {c H : Nat} (hH : W.heap[H]? = some (.cells #[.int .u32 1, .int .u32 1] 43 (0, 0))) {Qs : Nat → Prop} (hQ : ∀ z, Qs z → z < W.heap.size) (nH : ¬ Qs H) {f : Int} {u : Va} {ok : Bool} {sn sc : Nat} {R : Option Addr → World → World → Prop}
    (hs : ∀ V, Ch (fun _ => False) W V → Calls Try.prog 25 #[.pointer (some ⟨c, 0, none⟩), hkV (5, 1), hkV (1, 1), vaV ⟨8, 0, 0⟩] V fun e w' => ∃ sa, e = .returned (.tuple #[didV f u ok (.slice sa sn sc), .int .i64 0]) ∧ R sa V w' ∧ Ch Qs V w')
    {u0 u1 u3 u5 u6 u7 u8 u9 u10 u11 u12 u13 u14 u15 u16 u17 u18 u19 u20 u21 u22 u23 u24 u25 u26 u27 u28 u29 u30 u31 u32 u33 u34 u35 u36 u37 u38 u39 u40 u41 u42 u43 u44 u45 u46 u47 u48 u49 u50 u51 u52 u53 u54 u55 u56 u57 u58 u59 u60 u61 u62 u63 u64 u65 u66 u67 u68 u69 u70 u71 u72 u73 u74 u75 u76 u77 u78 u79 u80 u81 u82 u83 u84 u85 u86 u87 u88 u89 u90 u91 u92 u93 u94 u95 u96 u97 u98 u99 u100 u101 u102 u103 u104 u105 u106 u107 u108 u109 u110 u111 u112 u113 u114 u115 : Value} {K : Act → World → Prop} (hK0 : ∀ (A : Nat) (sa : Option Addr) (V w6 w7 : World) (t41 t42 t43 t44 t45 t46 t47 t48 : Value), Ch (fun _ => False) W V → R sa V w6 → Ch Qs V w6 → W.heap.size ≤ A → w7.heap[A]? = some (.cells #[.int .i64 f, .int .i64 u.n, .int .u32 u.s, .int .u32 u.g, .bool ok, .slice sa sn sc] 72 (0, 0)) → Ch (fun z => z = A) w6 w7 → (A < V.heap.size ∨ A = w6.heap.size) → K { tmps := List.toArray (u0 :: u1 :: (.pointer (some ⟨c, 0, none⟩)) :: u3 :: (.pointer (some ⟨H, 0, none⟩)) :: u5 :: u6 :: u7 :: (.pointer (some ⟨A, 0, none⟩)) :: (.int .i64 0) :: u10 :: u11 :: u12 :: u13 :: u14 :: u15 :: u16 :: u17 :: u18 :: u19 :: u20 :: u21 :: u22 :: u23 :: u24 :: u25 :: u26 :: u27 :: u28 :: u29 :: u30 :: u31 :: u32 :: u33 :: u34 :: u35 :: u36 :: u37 :: u38 :: u39 :: u40 :: (t41) :: (t42) :: (t43) :: (t44) :: (t45) :: (t46) :: (t47) :: (t48) :: u49 :: u50 :: u51 :: u52 :: u53 :: u54 :: u55 :: u56 :: u57 :: u58 :: u59 :: u60 :: u61 :: u62 :: u63 :: u64 :: u65 :: u66 :: u67 :: u68 :: u69 :: u70 :: u71 :: u72 :: u73 :: u74 :: u75 :: u76 :: u77 :: u78 :: u79 :: u80 :: u81 :: u82 :: u83 :: u84 :: u85 :: u86 :: u87 :: u88 :: u89 :: u90 :: u91 :: u92 :: u93 :: u94 :: u95 :: u96 :: u97 :: u98 :: u99 :: u100 :: u101 :: u102 :: u103 :: u104 :: u105 :: u106 :: u107 :: u108 :: u109 :: u110 :: u111 :: u112 :: u113 :: u114 :: u115 :: []), defers := [] } w7) :
    (Code.region 8 (List.toArray (kwb0 :: kwb1 :: kwb2 :: kwb3 :: kwb4 :: kwb5 :: kwb6 :: kwb7 :: kwb8 :: kwb9 :: kwb10 :: [])) true).wp Try.prog (Exit.then K (fun _ _ _ => False)) { tmps := List.toArray (u0 :: u1 :: (.pointer (some ⟨c, 0, none⟩)) :: u3 :: (.pointer (some ⟨H, 0, none⟩)) :: u5 :: u6 :: u7 :: u8 :: u9 :: u10 :: u11 :: u12 :: u13 :: u14 :: u15 :: u16 :: u17 :: u18 :: u19 :: u20 :: u21 :: u22 :: u23 :: u24 :: u25 :: u26 :: u27 :: u28 :: u29 :: u30 :: u31 :: u32 :: u33 :: u34 :: u35 :: u36 :: u37 :: u38 :: u39 :: u40 :: u41 :: u42 :: u43 :: u44 :: u45 :: u46 :: u47 :: u48 :: u49 :: u50 :: u51 :: u52 :: u53 :: u54 :: u55 :: u56 :: u57 :: u58 :: u59 :: u60 :: u61 :: u62 :: u63 :: u64 :: u65 :: u66 :: u67 :: u68 :: u69 :: u70 :: u71 :: u72 :: u73 :: u74 :: u75 :: u76 :: u77 :: u78 :: u79 :: u80 :: u81 :: u82 :: u83 :: u84 :: u85 :: u86 :: u87 :: u88 :: u89 :: u90 :: u91 :: u92 :: u93 :: u94 :: u95 :: u96 :: u97 :: u98 :: u99 :: u100 :: u101 :: u102 :: u103 :: u104 :: u105 :: u106 :: u107 :: u108 :: u109 :: u110 :: u111 :: u112 :: u113 :: u114 :: u115 :: []), defers := [] } W := by
  have HK := hide hK0
  have HS0 := hide hs
  have HQ := hide (show ∀ z, Qs z → z < W.heap.size from hQ)
  have HH := hide hH
  clear hK0 hs
  refine wp_reg (fun z => Qs z ∨ W.heap.size ≤ z) (R := fun V => Ch (fun _ => False) W V) (by kernel_rfl) (Ch.drew _) (fun V0 cV zk => ?_)
  have CV := hide cV
  clear cV
  have HX := hide (fun wq (kq : Ch (fun z => Qs z ∨ W.heap.size ≤ z) V0 wq) => show wq.cell? ⟨H, 0, none⟩ = some (.int .u32 1) ∧ wq.cell? ⟨H, 1, none⟩ = some (.int .u32 1) from by have e := Lib.cell_of_heap (kq.box (CV.out.box HH.out (fun h => h)) (fun e => e.elim nH (fun e => by have := (Array.getElem?_eq_some_iff.1 HH.out).1; omega))); exact ⟨by simp [e], by simp [e]⟩)
  apply tk 0 kwb0 rfl (by kernel_rfl) (fun _ _ _ h => h) zk
  · intro wq zq
    go_simp
    try rfl
  go_frame
  apply tk 2 kwb2 rfl (by kernel_rfl) (fun _ _ _ h => h) zk
  · intro wq zq
    obtain ⟨s0, s1⟩ := HX.out _ zq
    go_simp
    try rfl
  go_frame
  apply tk 3 kwb3 rfl (by kernel_rfl) (fun _ _ _ h => h) zk
  · intro wq zq
    go_simp
    try rfl
  go_frame
  refine wpAnyH_ready (rs := [1, 8]) (by kernel_rfl) (by simp) ?_
  refine AllReadyH.cons (o := kwb1) rfl (fun K hK => ?_) (AllReadyH.cons (o := kwb8) rfl (fun K hK => ?_) AllReadyH.nil)
  · go_simp
    refine (lhandle_is V0 (n := 5) (by decide) (by decide)).mono ?_
    rintro e vh ⟨rfl, hb⟩
    have Cvh := hide (CV.out.trans (Ch.of_below (Q := fun _ => False) hb) (fun _ _ h => h))
    have Zvh := hide (zk.trans (Ch.of_below (Q := fun z => Qs z ∨ W.heap.size ≤ z) hb) (fun _ _ h => h))
    clear hb
    go_wp2_with fail
    refine hK.out _ _ ?_ (fun zk => ?_)
    · exact Zvh.out
    clear hK K
    try go_frame
    refine wpAnyH_ready (rs := [4, 8]) (by kernel_rfl) (by simp) ?_
    refine AllReadyH.cons (o := kwb4) rfl (fun K hK => ?_) (AllReadyH.cons (o := kwb8) rfl (fun K hK => ?_) AllReadyH.nil)
    · go_simp
      refine (HS0.out vh (Cvh.out)).mono ?_
      rintro e vc ⟨sa, rfl, hR, hcc⟩
      have RR := hide (And.intro (Cvh.out) (And.intro hR hcc))
      have Zvc := hide (zk.trans hcc (fun _ _ h => .inl h))
      clear hR hcc
      go_wp2_with fail
      refine hK.out _ _ ?_ (fun zk => ?_)
      · exact Zvc.out
      clear hK K
      try go_frame
      apply tk 5 kwb5 rfl (by kernel_rfl) (fun _ _ _ h => h) zk
      · intro wq zq
        go_simp
        try rfl
      go_frame
      apply tk 6 kwb6 rfl (by kernel_rfl) (fun _ _ _ h => h) zk
      · intro wq zq
        go_simp
        try rfl
      go_frame
      apply tk 7 kwb7 rfl (by kernel_rfl) (fun _ _ _ h => h) zk
      · intro wq zq
        go_simp
        try rfl
      go_frame
      refine Go.Proofs.Ytbblmbbpicinlaa.rd 8 kwb8 rfl (by kernel_rfl) fun K hK => ?_
      go_simp
      have hn := heap_new vc (.cells #[.int .i64 0, .int .i64 0, .int .u32 0, .int .u32 0, .bool false, .slice none 0 0] 72)
      have hcA := Ch.alloc (Q := fun _ => False) vc (.cells #[.int .i64 0, .int .i64 0, .int .u32 0, .int .u32 0, .bool false, .slice none 0 0] 72)
      refine hK.out _ _ ?_ (fun zk => ?_)
      · exact zk.trans (Ch.alloc (Q := fun z => Qs z ∨ W.heap.size ≤ z) _ _) (fun _ _ h => h)
      clear hK K
      try go_frame
      have hsz : W.heap.size ≤ vc.heap.size := (Nat.le_trans Cvh.out.size RR.out.2.2.size)
      have hlt : vc.heap.size < (vc.alloc (.cells #[.int .i64 0, .int .i64 0, .int .u32 0, .int .u32 0, .bool false, .slice none 0 0] 72)).heap.size := by rw [World.size_alloc]; exact Nat.lt_succ_self _
      generalize vc.alloc (.cells #[.int .i64 0, .int .i64 0, .int .u32 0, .int .u32 0, .bool false, .slice none 0 0] 72) = va at hn hcA zk hlt ⊢
      have HN := hide hn
      have HA := hide (And.intro hsz hlt)
      have CA := hide hcA
      clear hn hcA hsz hlt
      have n9 := HN.out
      have d0 : va.cell? ⟨vc.heap.size, 0, none⟩ = some (.int .i64 0) := by simp [Lib.cell_of_heap n9]
      have d1 : va.cell? ⟨vc.heap.size, 1, none⟩ = some (.int .i64 0) := by simp [Lib.cell_of_heap n9]
      have d2 : va.cell? ⟨vc.heap.size, 2, none⟩ = some (.int .u32 0) := by simp [Lib.cell_of_heap n9]
      have d3 : va.cell? ⟨vc.heap.size, 3, none⟩ = some (.int .u32 0) := by simp [Lib.cell_of_heap n9]
      have d4 : va.cell? ⟨vc.heap.size, 4, none⟩ = some (.bool false) := by simp [Lib.cell_of_heap n9]
      have d5 : va.cell? ⟨vc.heap.size, 5, none⟩ = some (.slice none 0 0) := by simp [Lib.cell_of_heap n9]
      have df : ∀ o, va.frozen? ⟨vc.heap.size, o, none⟩ = false := fun o => by simp [World.frozen?, n9]
      have HS := hide (did_set n9 (.int .i64 f) (.int .i64 u.n) (.int .u32 u.s) (.int .u32 u.g) (.bool ok) (.slice sa sn sc))
      clear n9
      refine Go.Proofs.Ytbblmbbpicinlaa.rd 9 kwb9 rfl (by kernel_rfl) fun K hK => ?_
      go_simp
      refine hK.out _ _ ?_ (fun zk => ?_)
      · exact zk.trans HS.out.2 (fun z hz e => .inr (by rw [e]; exact HA.out.1))
      clear hK K
      try go_frame
      apply tk 10 kwb10 rfl (by kernel_rfl) (fun _ _ _ h => h) zk
      · intro wq zq
        go_simp
        try rfl
      go_frame
      refine wpAnyH_done (by kernel_rfl) ?_ _
      exact HK.out vc.heap.size sa _ vc _ _ _ _ _ _ _ _ _ RR.out.1 RR.out.2.1 RR.out.2.2 HA.out.1 HS.out.1 ((CA.out.mono (fun _ _ h => h.elim)).trans HS.out.2 (fun _ _ h => h)) (.inr rfl)
    · go_simp
      have hn := heap_new vh (.cells #[.int .i64 0, .int .i64 0, .int .u32 0, .int .u32 0, .bool false, .slice none 0 0] 72)
      have hcA := Ch.alloc (Q := fun _ => False) vh (.cells #[.int .i64 0, .int .i64 0, .int .u32 0, .int .u32 0, .bool false, .slice none 0 0] 72)
      refine hK.out _ _ ?_ (fun zk => ?_)
      · exact zk.trans (Ch.alloc (Q := fun z => Qs z ∨ W.heap.size ≤ z) _ _) (fun _ _ h => h)
      clear hK K
      try go_frame
      have hsz : W.heap.size ≤ vh.heap.size := Cvh.out.size
      have hlt : vh.heap.size < (vh.alloc (.cells #[.int .i64 0, .int .i64 0, .int .u32 0, .int .u32 0, .bool false, .slice none 0 0] 72)).heap.size := by rw [World.size_alloc]; exact Nat.lt_succ_self _
      generalize vh.alloc (.cells #[.int .i64 0, .int .i64 0, .int .u32 0, .int .u32 0, .bool false, .slice none 0 0] 72) = va at hn hcA zk hlt ⊢
      have HN := hide hn
      have HA := hide (And.intro hsz hlt)
      have CA := hide (Cvh.out.trans hcA (fun _ _ h => h))
      clear hn hcA hsz hlt
      refine Go.Proofs.Ytbblmbbpicinlaa.rd 4 kwb4 rfl (by kernel_rfl) fun K hK => ?_
      go_simp
      refine (HS0.out va (CA.out)).mono ?_
      rintro e vc ⟨sa, rfl, hR, hcc⟩
      have RR := hide (And.intro (CA.out) (And.intro hR hcc))
      have Zvc := hide (zk.trans hcc (fun _ _ h => .inl h))
      replace HN := hide (hcc.box HN.out (fun e => by have h1 := HQ.out _ e; have h2 := HA.out.1; omega))
      clear hR hcc
      go_wp2_with fail
      refine hK.out _ _ ?_ (fun zk => ?_)
      · exact Zvc.out
      clear hK K
      try go_frame
      apply tk 5 kwb5 rfl (by kernel_rfl) (fun _ _ _ h => h) zk
      · intro wq zq
        go_simp
        try rfl
      go_frame
      apply tk 6 kwb6 rfl (by kernel_rfl) (fun _ _ _ h => h) zk
      · intro wq zq
        go_simp
        try rfl
      go_frame
      apply tk 7 kwb7 rfl (by kernel_rfl) (fun _ _ _ h => h) zk
      · intro wq zq
        go_simp
        try rfl
      go_frame
      have n9 := HN.out
      have d0 : vc.cell? ⟨vh.heap.size, 0, none⟩ = some (.int .i64 0) := by simp [Lib.cell_of_heap n9]
      have d1 : vc.cell? ⟨vh.heap.size, 1, none⟩ = some (.int .i64 0) := by simp [Lib.cell_of_heap n9]
      have d2 : vc.cell? ⟨vh.heap.size, 2, none⟩ = some (.int .u32 0) := by simp [Lib.cell_of_heap n9]
      have d3 : vc.cell? ⟨vh.heap.size, 3, none⟩ = some (.int .u32 0) := by simp [Lib.cell_of_heap n9]
      have d4 : vc.cell? ⟨vh.heap.size, 4, none⟩ = some (.bool false) := by simp [Lib.cell_of_heap n9]
      have d5 : vc.cell? ⟨vh.heap.size, 5, none⟩ = some (.slice none 0 0) := by simp [Lib.cell_of_heap n9]
      have df : ∀ o, vc.frozen? ⟨vh.heap.size, o, none⟩ = false := fun o => by simp [World.frozen?, n9]
      have HS := hide (did_set n9 (.int .i64 f) (.int .i64 u.n) (.int .u32 u.s) (.int .u32 u.g) (.bool ok) (.slice sa sn sc))
      clear n9
      refine Go.Proofs.Ytbblmbbpicinlaa.rd 9 kwb9 rfl (by kernel_rfl) fun K hK => ?_
      go_simp
      refine hK.out _ _ ?_ (fun zk => ?_)
      · exact zk.trans HS.out.2 (fun z hz e => .inr (by rw [e]; exact HA.out.1))
      clear hK K
      try go_frame
      apply tk 10 kwb10 rfl (by kernel_rfl) (fun _ _ _ h => h) zk
      · intro wq zq
        go_simp
        try rfl
      go_frame
      refine wpAnyH_done (by kernel_rfl) ?_ _
      exact HK.out vh.heap.size sa _ vc _ _ _ _ _ _ _ _ _ RR.out.1 RR.out.2.1 RR.out.2.2 HA.out.1 HS.out.1 HS.out.2 (.inl HA.out.2)
  · go_simp
    have hn := heap_new V0 (.cells #[.int .i64 0, .int .i64 0, .int .u32 0, .int .u32 0, .bool false, .slice none 0 0] 72)
    have hcA := Ch.alloc (Q := fun _ => False) V0 (.cells #[.int .i64 0, .int .i64 0, .int .u32 0, .int .u32 0, .bool false, .slice none 0 0] 72)
    refine hK.out _ _ ?_ (fun zk => ?_)
    · exact zk.trans (Ch.alloc (Q := fun z => Qs z ∨ W.heap.size ≤ z) _ _) (fun _ _ h => h)
    clear hK K
    try go_frame
    have hsz : W.heap.size ≤ V0.heap.size := CV.out.size
    have hlt : V0.heap.size < (V0.alloc (.cells #[.int .i64 0, .int .i64 0, .int .u32 0, .int .u32 0, .bool false, .slice none 0 0] 72)).heap.size := by rw [World.size_alloc]; exact Nat.lt_succ_self _
    generalize V0.alloc (.cells #[.int .i64 0, .int .i64 0, .int .u32 0, .int .u32 0, .bool false, .slice none 0 0] 72) = va at hn hcA zk hlt ⊢
    have HN := hide hn
    have HA := hide (And.intro hsz hlt)
    have CA := hide (CV.out.trans hcA (fun _ _ h => h))
    clear hn hcA hsz hlt
    refine Go.Proofs.Ytbblmbbpicinlaa.rd 1 kwb1 rfl (by kernel_rfl) fun K hK => ?_
    go_simp
    refine (lhandle_is va (n := 5) (by decide) (by decide)).mono ?_
    rintro e vh ⟨rfl, hb⟩
    have Cvh := hide (CA.out.trans (Ch.of_below (Q := fun _ => False) hb) (fun _ _ h => h))
    have Zvh := hide (zk.trans (Ch.of_below (Q := fun z => Qs z ∨ W.heap.size ≤ z) hb) (fun _ _ h => h))
    replace HN := hide ((Ch.of_below (Q := fun _ => False) hb).box HN.out (fun h => h))
    replace HA := hide (And.intro HA.out.1 (Nat.lt_of_lt_of_le HA.out.2 hb.size))
    clear hb
    go_wp2_with fail
    refine hK.out _ _ ?_ (fun zk => ?_)
    · exact Zvh.out
    clear hK K
    try go_frame
    refine Go.Proofs.Ytbblmbbpicinlaa.rd 4 kwb4 rfl (by kernel_rfl) fun K hK => ?_
    go_simp
    refine (HS0.out vh (Cvh.out)).mono ?_
    rintro e vc ⟨sa, rfl, hR, hcc⟩
    have RR := hide (And.intro (Cvh.out) (And.intro hR hcc))
    have Zvc := hide (zk.trans hcc (fun _ _ h => .inl h))
    replace HN := hide (hcc.box HN.out (fun e => by have h1 := HQ.out _ e; have h2 := HA.out.1; omega))
    clear hR hcc
    go_wp2_with fail
    refine hK.out _ _ ?_ (fun zk => ?_)
    · exact Zvc.out
    clear hK K
    try go_frame
    apply tk 5 kwb5 rfl (by kernel_rfl) (fun _ _ _ h => h) zk
    · intro wq zq
      go_simp
      try rfl
    go_frame
    apply tk 6 kwb6 rfl (by kernel_rfl) (fun _ _ _ h => h) zk
    · intro wq zq
      go_simp
      try rfl
    go_frame
    apply tk 7 kwb7 rfl (by kernel_rfl) (fun _ _ _ h => h) zk
    · intro wq zq
      go_simp
      try rfl
    go_frame
    have n9 := HN.out
    have d0 : vc.cell? ⟨V0.heap.size, 0, none⟩ = some (.int .i64 0) := by simp [Lib.cell_of_heap n9]
    have d1 : vc.cell? ⟨V0.heap.size, 1, none⟩ = some (.int .i64 0) := by simp [Lib.cell_of_heap n9]
    have d2 : vc.cell? ⟨V0.heap.size, 2, none⟩ = some (.int .u32 0) := by simp [Lib.cell_of_heap n9]
    have d3 : vc.cell? ⟨V0.heap.size, 3, none⟩ = some (.int .u32 0) := by simp [Lib.cell_of_heap n9]
    have d4 : vc.cell? ⟨V0.heap.size, 4, none⟩ = some (.bool false) := by simp [Lib.cell_of_heap n9]
    have d5 : vc.cell? ⟨V0.heap.size, 5, none⟩ = some (.slice none 0 0) := by simp [Lib.cell_of_heap n9]
    have df : ∀ o, vc.frozen? ⟨V0.heap.size, o, none⟩ = false := fun o => by simp [World.frozen?, n9]
    have HS := hide (did_set n9 (.int .i64 f) (.int .i64 u.n) (.int .u32 u.s) (.int .u32 u.g) (.bool ok) (.slice sa sn sc))
    clear n9
    refine Go.Proofs.Ytbblmbbpicinlaa.rd 9 kwb9 rfl (by kernel_rfl) fun K hK => ?_
    go_simp
    refine hK.out _ _ ?_ (fun zk => ?_)
    · exact zk.trans HS.out.2 (fun z hz e => .inr (by rw [e]; exact HA.out.1))
    clear hK K
    try go_frame
    apply tk 10 kwb10 rfl (by kernel_rfl) (fun _ _ _ h => h) zk
    · intro wq zq
      go_simp
      try rfl
    go_frame
    refine wpAnyH_done (by kernel_rfl) ?_ _
    exact HK.out V0.heap.size sa _ vc _ _ _ _ _ _ _ _ _ RR.out.1 RR.out.2.1 RR.out.2.2 HA.out.1 HS.out.1 HS.out.2 (.inl HA.out.2)

abbrev kwc0 : Oper := { dst := some 50, op := Op.move (Operand.tmp 2), type := 26, pos := "law.go:36", after := #[], guard := none }
abbrev kwc1 : Oper := { dst := some 51, op := Op.call { callee := Callee.value (Operand.func 18), args := #[Operand.const (Value.int IntKind.i64 6)], argTypes := #[3] }, type := 43, pos := "law.go:36", after := #[], guard := none }
abbrev kwc2 : Oper := { dst := some 52, op := Op.load 43 (Operand.tmp 4), type := 43, pos := "law.go:36", after := #[], guard := none }
abbrev kwc3 : Oper := { dst := some 53, op := Op.call { callee := Callee.value (Operand.func 21), args := #[Operand.tmp 50, Operand.tmp 51, Operand.tmp 52], argTypes := #[26, 43, 43] }, type := 73, pos := "law.go:36", after := #[{ on := 0, ground := Ground.data }, { on := 1, ground := Ground.data }, { on := 2, ground := Ground.data }, { on := 1, ground := Ground.chain }], guard := none }
abbrev kwc4 : Oper := { dst := some 49, op := Op.move (Operand.tmp 53), type := 73, pos := "law.go:36", after := #[{ on := 3, ground := Ground.data }], guard := none }
abbrev kwc5 : Oper := { dst := some 54, op := Op.extract (Operand.tmp 49) 0, type := 72, pos := "law.go:36", after := #[{ on := 4, ground := Ground.data }], guard := none }
abbrev kwc6 : Oper := { dst := some 55, op := Op.extract (Operand.tmp 49) 1, type := 27, pos := "law.go:36", after := #[{ on := 4, ground := Ground.data }, { on := 8, ground := Ground.gcOnly Departure.lateStores }], guard := none }
abbrev kwc7 : Oper := { dst := some 10, op := Op.alloc 72, type := 0, pos := "law.go:36", after := #[], guard := none }
abbrev kwc8 : Oper := { dst := none, op := Op.store 72 (Operand.tmp 10) (Operand.tmp 54), type := 0, pos := "law.go:36", after := #[{ on := 7, ground := Ground.data }, { on := 5, ground := Ground.data }, { on := 3, ground := Ground.chain }, { on := 0, ground := Ground.phase }, { on := 1, ground := Ground.phase }, { on := 2, ground := Ground.phase }, { on := 3, ground := Ground.phase }, { on := 4, ground := Ground.phase }, { on := 5, ground := Ground.phase }, { on := 6, ground := Ground.textOnly Departure.lateStores }, { on := 7, ground := Ground.phase }], guard := none }
abbrev kwc9 : Oper := { dst := some 11, op := Op.assign (Operand.tmp 55), type := 27, pos := "law.go:36", after := #[{ on := 6, ground := Ground.data }, { on := 8, ground := Ground.chain }, { on := 0, ground := Ground.phase }, { on := 1, ground := Ground.phase }, { on := 2, ground := Ground.phase }, { on := 3, ground := Ground.phase }, { on := 4, ground := Ground.phase }, { on := 5, ground := Ground.phase }, { on := 6, ground := Ground.phase }, { on := 7, ground := Ground.phase }, { on := 8, ground := Ground.phase }], guard := none }

set_option maxRecDepth 100000 in
set_option maxHeartbeats 8000000 in
theorem aw_c {W : World} {c H : Nat} (hH : W.heap[H]? = some (.cells #[.int .u32 1, .int .u32 1] 43 (0, 0))) {Qs : Nat → Prop} (hQ : ∀ z, Qs z → z < W.heap.size) (nH : ¬ Qs H) {f : Int} {u : Va} {ok : Bool} {sn sc : Nat} {R : Option Addr → World → World → Prop}
    (hs : ∀ V, Ch (fun _ => False) W V → Calls Try.prog 21 #[.pointer (some ⟨c, 0, none⟩), hkV (6, 1), hkV (1, 1)] V fun e w' => ∃ sa, e = .returned (.tuple #[didV f u ok (.slice sa sn sc), .int .i64 0]) ∧ R sa V w' ∧ Ch Qs V w')
    {u0 u1 u3 u5 u6 u7 u8 u9 u10 u11 u12 u13 u14 u15 u16 u17 u18 u19 u20 u21 u22 u23 u24 u25 u26 u27 u28 u29 u30 u31 u32 u33 u34 u35 u36 u37 u38 u39 u40 u41 u42 u43 u44 u45 u46 u47 u48 u49 u50 u51 u52 u53 u54 u55 u56 u57 u58 u59 u60 u61 u62 u63 u64 u65 u66 u67 u68 u69 u70 u71 u72 u73 u74 u75 u76 u77 u78 u79 u80 u81 u82 u83 u84 u85 u86 u87 u88 u89 u90 u91 u92 u93 u94 u95 u96 u97 u98 u99 u100 u101 u102 u103 u104 u105 u106 u107 u108 u109 u110 u111 u112 u113 u114 u115 : Value} {K : Act → World → Prop} (hK0 : ∀ (A : Nat) (sa : Option Addr) (V w6 w7 : World) (t49 t50 t51 t52 t53 t54 t55 : Value), Ch (fun _ => False) W V → R sa V w6 → Ch Qs V w6 → W.heap.size ≤ A → w7.heap[A]? = some (.cells #[.int .i64 f, .int .i64 u.n, .int .u32 u.s, .int .u32 u.g, .bool ok, .slice sa sn sc] 72 (0, 0)) → Ch (fun z => z = A) w6 w7 → (A < V.heap.size ∨ A = w6.heap.size) → K { tmps := List.toArray (u0 :: u1 :: (.pointer (some ⟨c, 0, none⟩)) :: u3 :: (.pointer (some ⟨H, 0, none⟩)) :: u5 :: u6 :: u7 :: u8 :: u9 :: (.pointer (some ⟨A, 0, none⟩)) :: (.int .i64 0) :: u12 :: u13 :: u14 :: u15 :: u16 :: u17 :: u18 :: u19 :: u20 :: u21 :: u22 :: u23 :: u24 :: u25 :: u26 :: u27 :: u28 :: u29 :: u30 :: u31 :: u32 :: u33 :: u34 :: u35 :: u36 :: u37 :: u38 :: u39 :: u40 :: u41 :: u42 :: u43 :: u44 :: u45 :: u46 :: u47 :: u48 :: (t49) :: (t50) :: (t51) :: (t52) :: (t53) :: (t54) :: (t55) :: u56 :: u57 :: u58 :: u59 :: u60 :: u61 :: u62 :: u63 :: u64 :: u65 :: u66 :: u67 :: u68 :: u69 :: u70 :: u71 :: u72 :: u73 :: u74 :: u75 :: u76 :: u77 :: u78 :: u79 :: u80 :: u81 :: u82 :: u83 :: u84 :: u85 :: u86 :: u87 :: u88 :: u89 :: u90 :: u91 :: u92 :: u93 :: u94 :: u95 :: u96 :: u97 :: u98 :: u99 :: u100 :: u101 :: u102 :: u103 :: u104 :: u105 :: u106 :: u107 :: u108 :: u109 :: u110 :: u111 :: u112 :: u113 :: u114 :: u115 :: []), defers := [] } w7) :
    (Code.region 9 (List.toArray (kwc0 :: kwc1 :: kwc2 :: kwc3 :: kwc4 :: kwc5 :: kwc6 :: kwc7 :: kwc8 :: kwc9 :: [])) true).wp Try.prog (Exit.then K (fun _ _ _ => False)) { tmps := List.toArray (u0 :: u1 :: (.pointer (some ⟨c, 0, none⟩)) :: u3 :: (.pointer (some ⟨H, 0, none⟩)) :: u5 :: u6 :: u7 :: u8 :: u9 :: u10 :: u11 :: u12 :: u13 :: u14 :: u15 :: u16 :: u17 :: u18 :: u19 :: u20 :: u21 :: u22 :: u23 :: u24 :: u25 :: u26 :: u27 :: u28 :: u29 :: u30 :: u31 :: u32 :: u33 :: u34 :: u35 :: u36 :: u37 :: u38 :: u39 :: u40 :: u41 :: u42 :: u43 :: u44 :: u45 :: u46 :: u47 :: u48 :: u49 :: u50 :: u51 :: u52 :: u53 :: u54 :: u55 :: u56 :: u57 :: u58 :: u59 :: u60 :: u61 :: u62 :: u63 :: u64 :: u65 :: u66 :: u67 :: u68 :: u69 :: u70 :: u71 :: u72 :: u73 :: u74 :: u75 :: u76 :: u77 :: u78 :: u79 :: u80 :: u81 :: u82 :: u83 :: u84 :: u85 :: u86 :: u87 :: u88 :: u89 :: u90 :: u91 :: u92 :: u93 :: u94 :: u95 :: u96 :: u97 :: u98 :: u99 :: u100 :: u101 :: u102 :: u103 :: u104 :: u105 :: u106 :: u107 :: u108 :: u109 :: u110 :: u111 :: u112 :: u113 :: u114 :: u115 :: []), defers := [] } W := by
  have HK := hide hK0
  have HS0 := hide hs
  have HQ := hide (show ∀ z, Qs z → z < W.heap.size from hQ)
  have HH := hide hH
  clear hK0 hs
  refine wp_reg (fun z => Qs z ∨ W.heap.size ≤ z) (R := fun V => Ch (fun _ => False) W V) (by kernel_rfl) (Ch.drew _) (fun V0 cV zk => ?_)
  have CV := hide cV
  clear cV
  have HX := hide (fun wq (kq : Ch (fun z => Qs z ∨ W.heap.size ≤ z) V0 wq) => show wq.cell? ⟨H, 0, none⟩ = some (.int .u32 1) ∧ wq.cell? ⟨H, 1, none⟩ = some (.int .u32 1) from by have e := Lib.cell_of_heap (kq.box (CV.out.box HH.out (fun h => h)) (fun e => e.elim nH (fun e => by have := (Array.getElem?_eq_some_iff.1 HH.out).1; omega))); exact ⟨by simp [e], by simp [e]⟩)
  apply tk 0 kwc0 rfl (by kernel_rfl) (fun _ _ _ h => h) zk
  · intro wq zq
    go_simp
    try rfl
  go_frame
  apply tk 2 kwc2 rfl (by kernel_rfl) (fun _ _ _ h => h) zk
  · intro wq zq
    obtain ⟨s0, s1⟩ := HX.out _ zq
    go_simp
    try rfl
  go_frame
  refine wpAnyH_ready (rs := [1, 7]) (by kernel_rfl) (by simp) ?_
  refine AllReadyH.cons (o := kwc1) rfl (fun K hK => ?_) (AllReadyH.cons (o := kwc7) rfl (fun K hK => ?_) AllReadyH.nil)
  · go_simp
    refine (lhandle_is V0 (n := 6) (by decide) (by decide)).mono ?_
    rintro e vh ⟨rfl, hb⟩
    have Cvh := hide (CV.out.trans (Ch.of_below (Q := fun _ => False) hb) (fun _ _ h => h))
    have Zvh := hide (zk.trans (Ch.of_below (Q := fun z => Qs z ∨ W.heap.size ≤ z) hb) (fun _ _ h => h))
    clear hb
    go_wp2_with fail
    refine hK.out _ _ ?_ (fun zk => ?_)
    · exact Zvh.out
    clear hK K
    try go_frame
    refine wpAnyH_ready (rs := [3, 7]) (by kernel_rfl) (by simp) ?_
    refine AllReadyH.cons (o := kwc3) rfl (fun K hK => ?_) (AllReadyH.cons (o := kwc7) rfl (fun K hK => ?_) AllReadyH.nil)
    · go_simp
      refine (HS0.out vh (Cvh.out)).mono ?_
      rintro e vc ⟨sa, rfl, hR, hcc⟩
      have RR := hide (And.intro (Cvh.out) (And.intro hR hcc))
      have Zvc := hide (zk.trans hcc (fun _ _ h => .inl h))
      clear hR hcc
      go_wp2_with fail
      refine hK.out _ _ ?_ (fun zk => ?_)
      · exact Zvc.out
      clear hK K
      try go_frame
      apply tk 4 kwc4 rfl (by kernel_rfl) (fun _ _ _ h => h) zk
      · intro wq zq
        go_simp
        try rfl
      go_frame
      apply tk 5 kwc5 rfl (by kernel_rfl) (fun _ _ _ h => h) zk
      · intro wq zq
        go_simp
        try rfl
      go_frame
      apply tk 6 kwc6 rfl (by kernel_rfl) (fun _ _ _ h => h) zk
      · intro wq zq
        go_simp
        try rfl
      go_frame
      refine Go.Proofs.Ytbblmbbpicinlaa.rd 7 kwc7 rfl (by kernel_rfl) fun K hK => ?_
      go_simp
      have hn := heap_new vc (.cells #[.int .i64 0, .int .i64 0, .int .u32 0, .int .u32 0, .bool false, .slice none 0 0] 72)
      have hcA := Ch.alloc (Q := fun _ => False) vc (.cells #[.int .i64 0, .int .i64 0, .int .u32 0, .int .u32 0, .bool false, .slice none 0 0] 72)
      refine hK.out _ _ ?_ (fun zk => ?_)
      · exact zk.trans (Ch.alloc (Q := fun z => Qs z ∨ W.heap.size ≤ z) _ _) (fun _ _ h => h)
      clear hK K
      try go_frame
      have hsz : W.heap.size ≤ vc.heap.size := (Nat.le_trans Cvh.out.size RR.out.2.2.size)
      have hlt : vc.heap.size < (vc.alloc (.cells #[.int .i64 0, .int .i64 0, .int .u32 0, .int .u32 0, .bool false, .slice none 0 0] 72)).heap.size := by rw [World.size_alloc]; exact Nat.lt_succ_self _
      generalize vc.alloc (.cells #[.int .i64 0, .int .i64 0, .int .u32 0, .int .u32 0, .bool false, .slice none 0 0] 72) = va at hn hcA zk hlt ⊢
      have HN := hide hn
      have HA := hide (And.intro hsz hlt)
      have CA := hide hcA
      clear hn hcA hsz hlt
      have n9 := HN.out
      have d0 : va.cell? ⟨vc.heap.size, 0, none⟩ = some (.int .i64 0) := by simp [Lib.cell_of_heap n9]
      have d1 : va.cell? ⟨vc.heap.size, 1, none⟩ = some (.int .i64 0) := by simp [Lib.cell_of_heap n9]
      have d2 : va.cell? ⟨vc.heap.size, 2, none⟩ = some (.int .u32 0) := by simp [Lib.cell_of_heap n9]
      have d3 : va.cell? ⟨vc.heap.size, 3, none⟩ = some (.int .u32 0) := by simp [Lib.cell_of_heap n9]
      have d4 : va.cell? ⟨vc.heap.size, 4, none⟩ = some (.bool false) := by simp [Lib.cell_of_heap n9]
      have d5 : va.cell? ⟨vc.heap.size, 5, none⟩ = some (.slice none 0 0) := by simp [Lib.cell_of_heap n9]
      have df : ∀ o, va.frozen? ⟨vc.heap.size, o, none⟩ = false := fun o => by simp [World.frozen?, n9]
      have HS := hide (did_set n9 (.int .i64 f) (.int .i64 u.n) (.int .u32 u.s) (.int .u32 u.g) (.bool ok) (.slice sa sn sc))
      clear n9
      refine Go.Proofs.Ytbblmbbpicinlaa.rd 8 kwc8 rfl (by kernel_rfl) fun K hK => ?_
      go_simp
      refine hK.out _ _ ?_ (fun zk => ?_)
      · exact zk.trans HS.out.2 (fun z hz e => .inr (by rw [e]; exact HA.out.1))
      clear hK K
      try go_frame
      apply tk 9 kwc9 rfl (by kernel_rfl) (fun _ _ _ h => h) zk
      · intro wq zq
        go_simp
        try rfl
      go_frame
      refine wpAnyH_done (by kernel_rfl) ?_ _
      exact HK.out vc.heap.size sa _ vc _ _ _ _ _ _ _ _ RR.out.1 RR.out.2.1 RR.out.2.2 HA.out.1 HS.out.1 ((CA.out.mono (fun _ _ h => h.elim)).trans HS.out.2 (fun _ _ h => h)) (.inr rfl)
    · go_simp
      have hn := heap_new vh (.cells #[.int .i64 0, .int .i64 0, .int .u32 0, .int .u32 0, .bool false, .slice none 0 0] 72)
      have hcA := Ch.alloc (Q := fun _ => False) vh (.cells #[.int .i64 0, .int .i64 0, .int .u32 0, .int .u32 0, .bool false, .slice none 0 0] 72)
      refine hK.out _ _ ?_ (fun zk => ?_)
      · exact zk.trans (Ch.alloc (Q := fun z => Qs z ∨ W.heap.size ≤ z) _ _) (fun _ _ h => h)
      clear hK K
      try go_frame
      have hsz : W.heap.size ≤ vh.heap.size := Cvh.out.size
      have hlt : vh.heap.size < (vh.alloc (.cells #[.int .i64 0, .int .i64 0, .int .u32 0, .int .u32 0, .bool false, .slice none 0 0] 72)).heap.size := by rw [World.size_alloc]; exact Nat.lt_succ_self _
      generalize vh.alloc (.cells #[.int .i64 0, .int .i64 0, .int .u32 0, .int .u32 0, .bool false, .slice none 0 0] 72) = va at hn hcA zk hlt ⊢
      have HN := hide hn
      have HA := hide (And.intro hsz hlt)
      have CA := hide (Cvh.out.trans hcA (fun _ _ h => h))
      clear hn hcA hsz hlt
      refine Go.Proofs.Ytbblmbbpicinlaa.rd 3 kwc3 rfl (by kernel_rfl) fun K hK => ?_
      go_simp
      refine (HS0.out va (CA.out)).mono ?_
      rintro e vc ⟨sa, rfl, hR, hcc⟩
      have RR := hide (And.intro (CA.out) (And.intro hR hcc))
      have Zvc := hide (zk.trans hcc (fun _ _ h => .inl h))
      replace HN := hide (hcc.box HN.out (fun e => by have h1 := HQ.out _ e; have h2 := HA.out.1; omega))
      clear hR hcc
      go_wp2_with fail
      refine hK.out _ _ ?_ (fun zk => ?_)
      · exact Zvc.out
      clear hK K
      try go_frame
      apply tk 4 kwc4 rfl (by kernel_rfl) (fun _ _ _ h => h) zk
      · intro wq zq
        go_simp
        try rfl
      go_frame
      apply tk 5 kwc5 rfl (by kernel_rfl) (fun _ _ _ h => h) zk
      · intro wq zq
        go_simp
        try rfl
      go_frame
      apply tk 6 kwc6 rfl (by kernel_rfl) (fun _ _ _ h => h) zk
      · intro wq zq
        go_simp
        try rfl
      go_frame
      have n9 := HN.out
      have d0 : vc.cell? ⟨vh.heap.size, 0, none⟩ = some (.int .i64 0) := by simp [Lib.cell_of_heap n9]
      have d1 : vc.cell? ⟨vh.heap.size, 1, none⟩ = some (.int .i64 0) := by simp [Lib.cell_of_heap n9]
      have d2 : vc.cell? ⟨vh.heap.size, 2, none⟩ = some (.int .u32 0) := by simp [Lib.cell_of_heap n9]
      have d3 : vc.cell? ⟨vh.heap.size, 3, none⟩ = some (.int .u32 0) := by simp [Lib.cell_of_heap n9]
      have d4 : vc.cell? ⟨vh.heap.size, 4, none⟩ = some (.bool false) := by simp [Lib.cell_of_heap n9]
      have d5 : vc.cell? ⟨vh.heap.size, 5, none⟩ = some (.slice none 0 0) := by simp [Lib.cell_of_heap n9]
      have df : ∀ o, vc.frozen? ⟨vh.heap.size, o, none⟩ = false := fun o => by simp [World.frozen?, n9]
      have HS := hide (did_set n9 (.int .i64 f) (.int .i64 u.n) (.int .u32 u.s) (.int .u32 u.g) (.bool ok) (.slice sa sn sc))
      clear n9
      refine Go.Proofs.Ytbblmbbpicinlaa.rd 8 kwc8 rfl (by kernel_rfl) fun K hK => ?_
      go_simp
      refine hK.out _ _ ?_ (fun zk => ?_)
      · exact zk.trans HS.out.2 (fun z hz e => .inr (by rw [e]; exact HA.out.1))
      clear hK K
      try go_frame
      apply tk 9 kwc9 rfl (by kernel_rfl) (fun _ _ _ h => h) zk
      · intro wq zq
        go_simp
        try rfl
      go_frame
      refine wpAnyH_done (by kernel_rfl) ?_ _
      exact HK.out vh.heap.size sa _ vc _ _ _ _ _ _ _ _ RR.out.1 RR.out.2.1 RR.out.2.2 HA.out.1 HS.out.1 HS.out.2 (.inl HA.out.2)
  · go_simp
    have hn := heap_new V0 (.cells #[.int .i64 0, .int .i64 0, .int .u32 0, .int .u32 0, .bool false, .slice none 0 0] 72)
    have hcA := Ch.alloc (Q := fun _ => False) V0 (.cells #[.int .i64 0, .int .i64 0, .int .u32 0, .int .u32 0, .bool false, .slice none 0 0] 72)
    refine hK.out _ _ ?_ (fun zk => ?_)
    · exact zk.trans (Ch.alloc (Q := fun z => Qs z ∨ W.heap.size ≤ z) _ _) (fun _ _ h => h)
    clear hK K
    try go_frame
    have hsz : W.heap.size ≤ V0.heap.size := CV.out.size
    have hlt : V0.heap.size < (V0.alloc (.cells #[.int .i64 0, .int .i64 0, .int .u32 0, .int .u32 0, .bool false, .slice none 0 0] 72)).heap.size := by rw [World.size_alloc]; exact Nat.lt_succ_self _
    generalize V0.alloc (.cells #[.int .i64 0, .int .i64 0, .int .u32 0, .int .u32 0, .bool false, .slice none 0 0] 72) = va at hn hcA zk hlt ⊢
    have HN := hide hn
    have HA := hide (And.intro hsz hlt)
    have CA := hide (CV.out.trans hcA (fun _ _ h => h))
    clear hn hcA hsz hlt
    refine Go.Proofs.Ytbblmbbpicinlaa.rd 1 kwc1 rfl (by kernel_rfl) fun K hK => ?_
    go_simp
    refine (lhandle_is va (n := 6) (by decide) (by decide)).mono ?_
    rintro e vh ⟨rfl, hb⟩
    have Cvh := hide (CA.out.trans (Ch.of_below (Q := fun _ => False) hb) (fun _ _ h => h))
    have Zvh := hide (zk.trans (Ch.of_below (Q := fun z => Qs z ∨ W.heap.size ≤ z) hb) (fun _ _ h => h))
    replace HN := hide ((Ch.of_below (Q := fun _ => False) hb).box HN.out (fun h => h))
    replace HA := hide (And.intro HA.out.1 (Nat.lt_of_lt_of_le HA.out.2 hb.size))
    clear hb
    go_wp2_with fail
    refine hK.out _ _ ?_ (fun zk => ?_)
    · exact Zvh.out
    clear hK K
    try go_frame
    refine Go.Proofs.Ytbblmbbpicinlaa.rd 3 kwc3 rfl (by kernel_rfl) fun K hK => ?_
    go_simp
    refine (HS0.out vh (Cvh.out)).mono ?_
    rintro e vc ⟨sa, rfl, hR, hcc⟩
    have RR := hide (And.intro (Cvh.out) (And.intro hR hcc))
    have Zvc := hide (zk.trans hcc (fun _ _ h => .inl h))
    replace HN := hide (hcc.box HN.out (fun e => by have h1 := HQ.out _ e; have h2 := HA.out.1; omega))
    clear hR hcc
    go_wp2_with fail
    refine hK.out _ _ ?_ (fun zk => ?_)
    · exact Zvc.out
    clear hK K
    try go_frame
    apply tk 4 kwc4 rfl (by kernel_rfl) (fun _ _ _ h => h) zk
    · intro wq zq
      go_simp
      try rfl
    go_frame
    apply tk 5 kwc5 rfl (by kernel_rfl) (fun _ _ _ h => h) zk
    · intro wq zq
      go_simp
      try rfl
    go_frame
    apply tk 6 kwc6 rfl (by kernel_rfl) (fun _ _ _ h => h) zk
    · intro wq zq
      go_simp
      try rfl
    go_frame
    have n9 := HN.out
    have d0 : vc.cell? ⟨V0.heap.size, 0, none⟩ = some (.int .i64 0) := by simp [Lib.cell_of_heap n9]
    have d1 : vc.cell? ⟨V0.heap.size, 1, none⟩ = some (.int .i64 0) := by simp [Lib.cell_of_heap n9]
    have d2 : vc.cell? ⟨V0.heap.size, 2, none⟩ = some (.int .u32 0) := by simp [Lib.cell_of_heap n9]
    have d3 : vc.cell? ⟨V0.heap.size, 3, none⟩ = some (.int .u32 0) := by simp [Lib.cell_of_heap n9]
    have d4 : vc.cell? ⟨V0.heap.size, 4, none⟩ = some (.bool false) := by simp [Lib.cell_of_heap n9]
    have d5 : vc.cell? ⟨V0.heap.size, 5, none⟩ = some (.slice none 0 0) := by simp [Lib.cell_of_heap n9]
    have df : ∀ o, vc.frozen? ⟨V0.heap.size, o, none⟩ = false := fun o => by simp [World.frozen?, n9]
    have HS := hide (did_set n9 (.int .i64 f) (.int .i64 u.n) (.int .u32 u.s) (.int .u32 u.g) (.bool ok) (.slice sa sn sc))
    clear n9
    refine Go.Proofs.Ytbblmbbpicinlaa.rd 8 kwc8 rfl (by kernel_rfl) fun K hK => ?_
    go_simp
    refine hK.out _ _ ?_ (fun zk => ?_)
    · exact zk.trans HS.out.2 (fun z hz e => .inr (by rw [e]; exact HA.out.1))
    clear hK K
    try go_frame
    apply tk 9 kwc9 rfl (by kernel_rfl) (fun _ _ _ h => h) zk
    · intro wq zq
      go_simp
      try rfl
    go_frame
    refine wpAnyH_done (by kernel_rfl) ?_ _
    exact HK.out V0.heap.size sa _ vc _ _ _ _ _ _ _ _ RR.out.1 RR.out.2.1 RR.out.2.2 HA.out.1 HS.out.1 HS.out.2 (.inl HA.out.2)

end Go.Proofs.Ytbblmbbpicinlaa

namespace Go.Proofs.Ytbblmbbpicinlaa
open Go.RowKit

def v7 : Va := ⟨7, 0, 0⟩
def v8 : Va := ⟨8, 0, 0⟩
def l1 : List Wt := putW [] 1 1 1 5 1 0 8 0 0
def r1 : Rc := ⟨1, 1, 5, 1, 1, 1, 1, 0, 8, 0, 0⟩
theorem l1_row : sel (inRow 1 1 1) l1 = [r1] := by rfl
theorem l1_six : sel (isWho 6 1) l1 = [] := by rfl
theorem l1_left : cntW (leaW l1 5 1) = 0 := by rfl
theorem l1_len : l1.length ≤ 100000 := by decide
theorem us_n {n : Int} (h : 0 ≤ n) (h1 : n ≤ 100) : UsW n := ⟨h, by omega⟩

/-- the channel of awake -/
structure Zc (z : Cn) (xs : List Va) : Prop where
  h : z.h = (1, 1)
  n : z.n = 1
  xs : z.xs = xs
  cl : z.cl = false
theorem Zc.put {z : Cn} {xs : List Va} (h : Zc z xs) (v : Va) : Zc (z.put v) (xs ++ [v]) := ⟨h.h, h.n, by show z.xs ++ [v] = _; rw [h.xs], h.cl⟩
theorem Zc.find {z : Cn} {xs : List Va} (h : Zc z xs) : fnc [z] (1, 1) = some z := by
  unfold fnc
  simp [h.h]

section
variable {V : World} {B c bp M : Nat} {F : Nat → Prop} {z : Cn}
theorem aw_send1 (h : CI V B c bp M F [] [z]) (hz : Zc z []) : Calls Try.prog 25 #[.pointer (some ⟨c, 0, none⟩), hkV (5, 1), hkV (1, 1), vaV v7] V fun e w' => ∃ sa, e = .returned (.tuple #[didV 0 zVa false (.slice sa 0 0), .int .i64 0]) ∧ CI w' B c bp M F [] [z.put v7] ∧ Ch z.mine V w' := by
  have hrf : rfE [] [z] (5, 1) (1, 1) = 0 := by
    unfold rfE
    rw [hz.find]
    rfl
  have hin : z ∈ [z] := List.mem_singleton.2 rfl
  refine (send_via h (by simp) (g := (5, 1)) (x := (1, 1)) (v := v7) (us_n (by decide) (by decide)) (us_n (by decide) (by decide)) hrf rfl hz.find (Qs := z.mine) (fun y hy => (h.ch z hin).lt y hy) (R := fun f u ok sa sn sc _ w' => (f = 0 ∧ u = zVa ∧ ok = false ∧ sa = none ∧ sn = 0 ∧ sc = 0) ∧ CI w' B c bp M F [] [z.put v7]) (fun V' cV => ?_)).mono ?_
  · refine (send_put (h.quiet cV) (by simp) (i := 0) (by simp) (x := z) rfl (g := (5, 1)) (v := v7) ⟨by rw [hz.h]; exact us_n (by decide) (by decide), by rw [hz.h]; exact us_n (by decide) (by decide), us_n (by decide) (by decide), us_n (by decide) (by decide), by constructor <;> decide, us_n (by decide) (by decide), us_n (by decide) (by decide)⟩ hz.cl rfl (by rw [hz.xs, hz.n]; decide)).mono ?_
    rintro e w' ⟨rfl, hi, hc⟩
    exact ⟨0, zVa, false, none, 0, 0, rfl, ⟨⟨rfl, rfl, rfl, rfl, rfl, rfl⟩, hi⟩, hc⟩
  · rintro e w' ⟨f, u, ok, sa, sn, sc, V', w6, A, rfl, ⟨⟨rfl, rfl, rfl, rfl, rfl, rfl⟩, hi⟩, cV, hA, hA2, cA, cQ⟩
    have ho := h.olds hA
    exact ⟨none, rfl, hi.away cA ho.1 ho.2.1 (fun x hx => by rw [List.mem_singleton.1 hx]; exact ho.2.2.1 z hin) ho.2.2.2, cQ⟩

theorem aw_send2 (h : CI V B c bp M F [] [z]) (hz : Zc z [v7]) : Calls Try.prog 25 #[.pointer (some ⟨c, 0, none⟩), hkV (5, 1), hkV (1, 1), vaV v8] V fun e w' => ∃ sa, e = .returned (.tuple #[didV 1 zVa false (.slice sa 0 0), .int .i64 0]) ∧ (∃ F', CI w' B c bp M F' l1 [z] ∧ ∀ y, F' y → F y ∨ V.heap.size ≤ y) ∧ Ch F V w' := by
  have hrf : rfE [] [z] (5, 1) (1, 1) = 0 := by
    unfold rfE
    rw [hz.find]
    rfl
  have hin : z ∈ [z] := List.mem_singleton.2 rfl
  refine (send_via h (by simp) (g := (5, 1)) (x := (1, 1)) (v := v8) (us_n (by decide) (by decide)) (us_n (by decide) (by decide)) hrf rfl hz.find (Qs := F) (fun y hy => (face.foot h.bk y hy).2) (R := fun f u ok sa sn sc V' w' => (f = 1 ∧ u = zVa ∧ ok = false ∧ sa = none ∧ sn = 0 ∧ sc = 0) ∧ ∃ F', CI w' B c bp M F' l1 [z] ∧ ∀ y, F' y → F y ∨ V'.heap.size ≤ y) (fun V' cV => ?_)).mono ?_
  · refine (send_park (h.quiet cV) (by simp) (i := 0) (by simp) (x := z) rfl (g := (5, 1)) (v := v8) ⟨by rw [hz.h]; exact us_n (by decide) (by decide), by rw [hz.h]; exact us_n (by decide) (by decide), us_n (by decide) (by decide), us_n (by decide) (by decide), by constructor <;> decide, us_n (by decide) (by decide), us_n (by decide) (by decide)⟩ hz.cl rfl (by rw [hz.xs, hz.n]; rfl)).mono ?_
    rintro e w' ⟨rfl, F', hi, hc, hd⟩
    rw [hz.h] at hi
    exact ⟨1, zVa, false, none, 0, 0, rfl, ⟨⟨rfl, rfl, rfl, rfl, rfl, rfl⟩, F', hi, hd⟩, hc⟩
  · rintro e w' ⟨f, u, ok, sa, sn, sc, V', w6, A, rfl, ⟨⟨rfl, rfl, rfl, rfl, rfl, rfl⟩, F', hi, hd⟩, cV, hA, hA2, cA, cQ⟩
    have ho := h.olds hA
    exact ⟨none, rfl, ⟨F', hi.away cA ho.1 ho.2.1 ho.2.2.1 (fun e => (hd A e).elim ho.2.2.2 (fun e => by omega)), fun y hy => (hd y hy).imp_right fun e => Nat.le_trans cV.size e⟩, cQ⟩

theorem aw_recv (h : CI V B c bp M F l1 [z]) (hz : Zc z [v7]) : Calls Try.prog 21 #[.pointer (some ⟨c, 0, none⟩), hkV (6, 1), hkV (1, 1)] V fun e w' => ∃ sa, e = .returned (.tuple #[didV 0 v7 true (.slice sa 1 1), .int .i64 0]) ∧ (∃ nb F' cs, sa = some ⟨nb, 0, none⟩ ∧ V.heap.size ≤ nb ∧ w'.heap[nb]? = some (.cells (wkF 5 1 0 zVa false 0).toArray 119 (0, 0)) ∧ CI w' B c bp M F' (leaW l1 5 1) cs ∧ ∀ y, F' y → F y ∨ V.heap.size ≤ y) ∧ Ch (fun y => z.mine y ∨ F y) V w' := by
  have hrf : rfE l1 [z] (6, 1) (1, 1) = 0 := by
    unfold rfE
    rw [hz.find, l1_six]
    rfl
  have hin : z ∈ [z] := List.mem_singleton.2 rfl
  refine (recv_via h l1_len (g := (6, 1)) (x := (1, 1)) (us_n (by decide) (by decide)) (us_n (by decide) (by decide)) hrf rfl hz.find (Qs := fun y => z.mine y ∨ F y) (fun y hy => hy.elim (fun hy => (h.ch z hin).lt y hy) (fun hy => (face.foot h.bk y hy).2)) (R := fun f u ok sa sn sc V' w' => (f = 0 ∧ u = v7 ∧ ok = true ∧ sn = 1 ∧ sc = 1) ∧ ∃ nb F', sa = some ⟨nb, 0, none⟩ ∧ V'.heap.size ≤ nb ∧ w'.heap[nb]? = some (.cells (wkF 5 1 0 zVa false 0).toArray 119 (0, 0)) ∧ CI w' B c bp M F' (leaW l1 5 1) [z.take.put (vaR r1)] ∧ ∀ y, F' y → F y ∨ V'.heap.size ≤ y) (fun V' cV => ?_)).mono ?_
  · refine (recv_take1 (h.quiet cV) l1_len (i := 0) (by simp) (x := z) rfl (by rw [hz.h]; exact us_n (by decide) (by decide)) (by rw [hz.h]; exact us_n (by decide) (by decide)) (g := (6, 1)) (v := v7) (rest := []) hz.xs (r := r1) (more := []) (by rw [hz.h]; exact l1_row) (us_n (by decide) (by decide)) (us_n (by decide) (by decide))).mono ?_
    rintro e w' ⟨nb, F', rfl, hnb, hw, hi, hc, hd⟩
    exact ⟨0, v7, true, some ⟨nb, 0, none⟩, 1, 1, rfl, ⟨⟨rfl, rfl, rfl, rfl, rfl⟩, nb, F', rfl, hnb, hw, hi, hd⟩, hc⟩
  · rintro e w' ⟨f, u, ok, sa, sn, sc, V', w6, A, rfl, ⟨⟨rfl, rfl, rfl, rfl, rfl⟩, nb, F', rfl, hnb, hw, hi, hd⟩, cV, hA, hA2, cA, cQ⟩
    have ho := h.olds hA
    exact ⟨some ⟨nb, 0, none⟩, rfl, ⟨nb, F', _, rfl, Nat.le_trans cV.size hnb, cA.box hw (fun e => by omega), hi.away cA ho.1 ho.2.1 (fun x hx => by rw [List.mem_singleton.1 hx]; exact ho.2.2.1 z hin) (fun e => (hd A e).elim ho.2.2.2 (fun e => by omega)), fun y hy => (hd y hy).imp id (fun e => Nat.le_trans cV.size e)⟩, cQ⟩
end

end Go.Proofs.Ytbblmbbpicinlaa

namespace Go.Proofs.Ytbblmbbpicinlaa
open Go.RowKit

abbrev kaw0 : Oper := { dst := some 70, op := Op.move (Operand.tmp 12), type := 4, pos := "law.go:38", after := #[], guard := none }
abbrev kaw1 : Oper := { dst := some 71, op := Op.move (Operand.tmp 70), type := 4, pos := "law.go:38", after := #[{ on := 0, ground := Ground.data }], guard := none }
abbrev kaw2 : Oper := { dst := some 72, op := Op.fieldAddr 72 (Operand.tmp 6) 0, type := 0, pos := "law.go:38", after := #[{ on := 1, ground := Ground.guard }], guard := some (1, true) }
abbrev kaw3 : Oper := { dst := some 73, op := Op.load 69 (Operand.tmp 72), type := 69, pos := "law.go:38", after := #[{ on := 2, ground := Ground.data }, { on := 1, ground := Ground.guard }], guard := some (1, true) }
abbrev kaw4 : Oper := { dst := some 74, op := Op.binOp BinOp.eql 69 (Operand.tmp 73) (Operand.const (Value.int IntKind.i64 0)) 69, type := 4, pos := "law.go:38", after := #[{ on := 3, ground := Ground.data }, { on := 1, ground := Ground.guard }], guard := some (1, true) }
abbrev kaw5 : Oper := { dst := some 75, op := Op.pick (Operand.tmp 71) (Operand.tmp 74) (Operand.const (Value.bool false)), type := 4, pos := "law.go:38", after := #[{ on := 1, ground := Ground.data }, { on := 4, ground := Ground.data }], guard := none }
abbrev kaw6 : Oper := { dst := some 76, op := Op.move (Operand.tmp 75), type := 4, pos := "law.go:38", after := #[{ on := 5, ground := Ground.data }, { on := 1, ground := Ground.chain }], guard := none }
abbrev kaw7 : Oper := { dst := some 77, op := Op.fieldAddr 72 (Operand.tmp 8) 0, type := 0, pos := "law.go:38", after := #[{ on := 6, ground := Ground.guard }], guard := some (6, true) }
abbrev kaw8 : Oper := { dst := some 78, op := Op.load 69 (Operand.tmp 77), type := 69, pos := "law.go:38", after := #[{ on := 7, ground := Ground.data }, { on := 6, ground := Ground.guard }], guard := some (6, true) }
abbrev kaw9 : Oper := { dst := some 79, op := Op.binOp BinOp.eql 69 (Operand.tmp 78) (Operand.const (Value.int IntKind.i64 1)) 69, type := 4, pos := "law.go:38", after := #[{ on := 8, ground := Ground.data }, { on := 6, ground := Ground.guard }], guard := some (6, true) }
abbrev kaw10 : Oper := { dst := some 80, op := Op.pick (Operand.tmp 76) (Operand.tmp 79) (Operand.const (Value.bool false)), type := 4, pos := "law.go:38", after := #[{ on := 6, ground := Ground.data }, { on := 9, ground := Ground.data }], guard := none }
abbrev kaw11 : Oper := { dst := some 81, op := Op.move (Operand.tmp 80), type := 4, pos := "law.go:38", after := #[{ on := 10, ground := Ground.data }, { on := 6, ground := Ground.chain }], guard := none }
abbrev kaw12 : Oper := { dst := some 82, op := Op.fieldAddr 72 (Operand.tmp 10) 0, type := 0, pos := "law.go:38", after := #[{ on := 11, ground := Ground.guard }], guard := some (11, true) }
abbrev kaw13 : Oper := { dst := some 83, op := Op.load 69 (Operand.tmp 82), type := 69, pos := "law.go:38", after := #[{ on := 12, ground := Ground.data }, { on := 11, ground := Ground.guard }], guard := some (11, true) }
abbrev kaw14 : Oper := { dst := some 84, op := Op.binOp BinOp.eql 69 (Operand.tmp 83) (Operand.const (Value.int IntKind.i64 0)) 69, type := 4, pos := "law.go:38", after := #[{ on := 13, ground := Ground.data }, { on := 11, ground := Ground.guard }], guard := some (11, true) }
abbrev kaw15 : Oper := { dst := some 85, op := Op.pick (Operand.tmp 81) (Operand.tmp 84) (Operand.const (Value.bool false)), type := 4, pos := "law.go:38", after := #[{ on := 11, ground := Ground.data }, { on := 14, ground := Ground.data }], guard := none }
abbrev kaw16 : Oper := { dst := some 86, op := Op.move (Operand.tmp 85), type := 4, pos := "law.go:38", after := #[{ on := 15, ground := Ground.data }, { on := 11, ground := Ground.chain }], guard := none }
abbrev kaw17 : Oper := { dst := some 87, op := Op.fieldAddr 72 (Operand.tmp 10) 2, type := 0, pos := "law.go:38", after := #[{ on := 16, ground := Ground.guard }], guard := some (16, true) }
abbrev kaw18 : Oper := { dst := some 88, op := Op.load 4 (Operand.tmp 87), type := 4, pos := "law.go:38", after := #[{ on := 17, ground := Ground.data }, { on := 16, ground := Ground.guard }], guard := some (16, true) }
abbrev kaw19 : Oper := { dst := some 89, op := Op.pick (Operand.tmp 86) (Operand.tmp 88) (Operand.const (Value.bool false)), type := 4, pos := "law.go:38", after := #[{ on := 16, ground := Ground.data }, { on := 18, ground := Ground.data }], guard := none }
abbrev kaw20 : Oper := { dst := some 90, op := Op.move (Operand.tmp 89), type := 4, pos := "law.go:38", after := #[{ on := 19, ground := Ground.data }, { on := 16, ground := Ground.chain }], guard := none }
abbrev kaw21 : Oper := { dst := some 91, op := Op.fieldAddr 72 (Operand.tmp 10) 1, type := 0, pos := "law.go:38", after := #[{ on := 20, ground := Ground.guard }], guard := some (20, true) }
abbrev kaw22 : Oper := { dst := some 92, op := Op.fieldAddr 46 (Operand.tmp 91) 0, type := 0, pos := "law.go:38", after := #[{ on := 21, ground := Ground.data }, { on := 20, ground := Ground.guard }], guard := some (20, true) }
abbrev kaw23 : Oper := { dst := some 93, op := Op.load 2 (Operand.tmp 92), type := 2, pos := "law.go:38", after := #[{ on := 22, ground := Ground.data }, { on := 20, ground := Ground.guard }], guard := some (20, true) }
abbrev kaw24 : Oper := { dst := some 94, op := Op.binOp BinOp.eql 2 (Operand.tmp 93) (Operand.const (Value.int IntKind.i64 7)) 2, type := 4, pos := "law.go:38", after := #[{ on := 23, ground := Ground.data }, { on := 20, ground := Ground.guard }], guard := some (20, true) }
abbrev kaw25 : Oper := { dst := some 95, op := Op.pick (Operand.tmp 90) (Operand.tmp 94) (Operand.const (Value.bool false)), type := 4, pos := "law.go:38", after := #[{ on := 20, ground := Ground.data }, { on := 24, ground := Ground.data }], guard := none }
abbrev kaw26 : Oper := { dst := some 96, op := Op.move (Operand.tmp 95), type := 4, pos := "law.go:38", after := #[{ on := 25, ground := Ground.data }, { on := 20, ground := Ground.chain }], guard := none }
abbrev kaw27 : Oper := { dst := some 97, op := Op.fieldAddr 72 (Operand.tmp 10) 3, type := 0, pos := "law.go:38", after := #[{ on := 26, ground := Ground.guard }], guard := some (26, true) }
abbrev kaw28 : Oper := { dst := some 98, op := Op.load 70 (Operand.tmp 97), type := 70, pos := "law.go:38", after := #[{ on := 27, ground := Ground.data }, { on := 26, ground := Ground.guard }], guard := some (26, true) }
abbrev kaw29 : Oper := { dst := some 99, op := Op.call { callee := Callee.builtin Builtin.len, args := #[Operand.tmp 98], argTypes := #[70] }, type := 3, pos := "law.go:38", after := #[{ on := 28, ground := Ground.data }, { on := 26, ground := Ground.guard }], guard := some (26, true) }
abbrev kaw30 : Oper := { dst := some 100, op := Op.binOp BinOp.eql 3 (Operand.tmp 99) (Operand.const (Value.int IntKind.i64 1)) 3, type := 4, pos := "law.go:38", after := #[{ on := 29, ground := Ground.data }, { on := 26, ground := Ground.guard }], guard := some (26, true) }
abbrev kaw31 : Oper := { dst := some 101, op := Op.pick (Operand.tmp 96) (Operand.tmp 100) (Operand.const (Value.bool false)), type := 4, pos := "law.go:38", after := #[{ on := 26, ground := Ground.data }, { on := 30, ground := Ground.data }], guard := none }
abbrev kaw32 : Oper := { dst := some 102, op := Op.move (Operand.tmp 101), type := 4, pos := "law.go:38", after := #[{ on := 31, ground := Ground.data }, { on := 26, ground := Ground.chain }], guard := none }
abbrev kaw33 : Oper := { dst := some 103, op := Op.fieldAddr 72 (Operand.tmp 10) 3, type := 0, pos := "law.go:38", after := #[{ on := 32, ground := Ground.guard }], guard := some (32, true) }
abbrev kaw34 : Oper := { dst := some 104, op := Op.load 70 (Operand.tmp 103), type := 70, pos := "law.go:38", after := #[{ on := 33, ground := Ground.data }, { on := 32, ground := Ground.guard }], guard := some (32, true) }
abbrev kaw35 : Oper := { dst := some 105, op := Op.indexAddr 70 (Operand.tmp 104) (Operand.const (Value.int IntKind.i64 0)), type := 0, pos := "law.go:38", after := #[{ on := 34, ground := Ground.data }, { on := 32, ground := Ground.guard }], guard := some (32, true) }
abbrev kaw36 : Oper := { dst := some 106, op := Op.fieldAddr 119 (Operand.tmp 105) 0, type := 0, pos := "law.go:38", after := #[{ on := 35, ground := Ground.data }, { on := 32, ground := Ground.guard }], guard := some (32, true) }
abbrev kaw37 : Oper := { dst := some 107, op := Op.load 43 (Operand.tmp 106), type := 43, pos := "law.go:38", after := #[{ on := 36, ground := Ground.data }, { on := 32, ground := Ground.guard }], guard := some (32, true) }
abbrev kaw38 : Oper := { dst := some 108, op := Op.call { callee := Callee.value (Operand.func 18), args := #[Operand.const (Value.int IntKind.i64 5)], argTypes := #[3] }, type := 43, pos := "law.go:38", after := #[{ on := 32, ground := Ground.chain }, { on := 32, ground := Ground.guard }], guard := some (32, true) }
abbrev kaw39 : Oper := { dst := some 109, op := Op.binOp BinOp.eql 43 (Operand.tmp 107) (Operand.tmp 108) 43, type := 4, pos := "law.go:38", after := #[{ on := 37, ground := Ground.data }, { on := 38, ground := Ground.data }, { on := 32, ground := Ground.guard }], guard := some (32, true) }
abbrev kaw40 : Oper := { dst := some 110, op := Op.pick (Operand.tmp 102) (Operand.tmp 109) (Operand.const (Value.bool false)), type := 4, pos := "law.go:38", after := #[{ on := 32, ground := Ground.data }, { on := 39, ground := Ground.data }], guard := none }
abbrev kaw41 : Oper := { dst := some 111, op := Op.move (Operand.tmp 110), type := 4, pos := "law.go:38", after := #[{ on := 40, ground := Ground.data }, { on := 38, ground := Ground.chain }], guard := none }
abbrev kaw42 : Oper := { dst := some 112, op := Op.move (Operand.tmp 1), type := 24, pos := "law.go:38", after := #[{ on := 41, ground := Ground.guard }], guard := some (41, true) }
abbrev kaw43 : Oper := { dst := some 113, op := Op.call { callee := Callee.value (Operand.func 47), args := #[Operand.tmp 112], argTypes := #[24] }, type := 3, pos := "law.go:38", after := #[{ on := 42, ground := Ground.data }, { on := 41, ground := Ground.chain }, { on := 41, ground := Ground.guard }], guard := some (41, true) }
abbrev kaw44 : Oper := { dst := some 114, op := Op.binOp BinOp.eql 3 (Operand.tmp 113) (Operand.const (Value.int IntKind.i64 0)) 3, type := 4, pos := "law.go:38", after := #[{ on := 43, ground := Ground.data }, { on := 41, ground := Ground.guard }], guard := some (41, true) }
abbrev kaw45 : Oper := { dst := some 115, op := Op.pick (Operand.tmp 111) (Operand.tmp 114) (Operand.const (Value.bool false)), type := 4, pos := "law.go:38", after := #[{ on := 41, ground := Ground.data }, { on := 44, ground := Ground.data }], guard := none }
abbrev kaw46 : Oper := { dst := some 0, op := Op.assign (Operand.tmp 115), type := 4, pos := "law.go:38", after := #[{ on := 45, ground := Ground.data }, { on := 43, ground := Ground.chain }, { on := 0, ground := Ground.phase }, { on := 1, ground := Ground.phase }, { on := 2, ground := Ground.phase }, { on := 3, ground := Ground.phase }, { on := 4, ground := Ground.phase }, { on := 5, ground := Ground.phase }, { on := 6, ground := Ground.phase }, { on := 7, ground := Ground.phase }, { on := 8, ground := Ground.phase }, { on := 9, ground := Ground.phase }, { on := 10, ground := Ground.phase }, { on := 11, ground := Ground.phase }, { on := 12, ground := Ground.phase }, { on := 13, ground := Ground.phase }, { on := 14, ground := Ground.phase }, { on := 15, ground := Ground.phase }, { on := 16, ground := Ground.phase }, { on := 17, ground := Ground.phase }, { on := 18, ground := Ground.phase }, { on := 19, ground := Ground.phase }, { on := 20, ground := Ground.phase }, { on := 21, ground := Ground.phase }, { on := 22, ground := Ground.phase }, { on := 23, ground := Ground.phase }, { on := 24, ground := Ground.phase }, { on := 25, ground := Ground.phase }, { on := 26, ground := Ground.phase }, { on := 27, ground := Ground.phase }, { on := 28, ground := Ground.phase }, { on := 29, ground := Ground.phase }, { on := 30, ground := Ground.phase }, { on := 31, ground := Ground.phase }, { on := 32, ground := Ground.phase }, { on := 33, ground := Ground.phase }, { on := 34, ground := Ground.phase }, { on := 35, ground := Ground.phase }, { on := 36, ground := Ground.phase }, { on := 37, ground := Ground.phase }, { on := 38, ground := Ground.phase }, { on := 39, ground := Ground.phase }, { on := 40, ground := Ground.phase }, { on := 41, ground := Ground.phase }, { on := 42, ground := Ground.phase }, { on := 43, ground := Ground.phase }, { on := 44, ground := Ground.phase }, { on := 45, ground := Ground.phase }], guard := none }

/-- a box of another kind is none of a channel's blocks -/
theorem ChAt.not {w : World} {bp H : Nat} {z : Cn} (h : ChAt w bp z) {cs : Array Value} {T : TypeId} {r : Nat × Nat} (hH : w.heap[H]? = some (.cells cs T r)) (h1 : T ≠ 147) (h2 : T ≠ 204) (h3 : T ≠ 46) : ¬ z.mine H := by
  have ne : ∀ {b : Nat} {cs' : Array Value} {T' : TypeId} {r' : Nat × Nat}, w.heap[b]? = some (.cells cs' T' r') → T ≠ T' → ¬ H = b := fun {b cs' T' r'} hb hT e => by
    rw [e, hb] at hH
    injection hH with hH
    injection hH with _ hT2 _
    exact hT hT2.symm
  rintro (e | e | e)
  · exact ne h.box h1 e
  · exact ne h.ring.box h2 e
  · exact ne h.ring.row h3 e

set_option maxRecDepth 100000 in
set_option maxHeartbeats 16000000 in
theorem awake14_is (w : World) : Calls Try.prog 9 #[] w fun e w' => e = .returned (.bool true) ∧ Below w.heap.size w w' := by
  go_enter Try.func9, Try.ntmps9
  go_wp2_with fail
  refine (new_is w).mono ?_
  rintro e w1 ⟨bp, F, rfl, hp1, hb1⟩
  go_wp2_with fail
  refine (new_cis hp1 hb1.size).mono ?_
  rintro e w2 ⟨c, M, rfl, hi2, hb2⟩
  have HF := hide (show ∀ y, F y → y < w1.heap.size from fun y hy => (face.foot hp1 y hy).2)
  have B2 := hide (hb1.trans (hb2.mono hb1.size))
  have S2 := hide hb2.size
  have H2 := hide hi2
  clear hp1 hb1 hi2 hb2
  go_wp2_with fail
  refine (lhandle_is w2 (n := 1) (by decide) (by decide)).mono ?_
  rintro e w3 ⟨rfl, hb3⟩
  have H3 := hide (H2.out.quiet (Ch.of_below hb3))
  have B3 := hide (B2.out.trans (hb3.mono B2.out.size))
  have S3 := hide hb3.size
  clear hb3
  go_wp2_with fail
  have hn4 := heap_new w3 (.cells #[.int .u32 1, .int .u32 1] 43)
  have hc4 := Ch.alloc (Q := fun _ => False) w3 (.cells #[.int .u32 1, .int .u32 1] 43)
  have hz4 : (w3.alloc (.cells #[.int .u32 1, .int .u32 1] 43)).heap.size = w3.heap.size + 1 := World.size_alloc _ _
  generalize w3.alloc (.cells #[.int .u32 1, .int .u32 1] 43) = w4 at hn4 hc4 hz4 ⊢
  have N4 := hide hn4
  have H4 := hide (H3.out.quiet hc4)
  have B4 := hide (B3.out.trans (hc4.below B3.out.size (fun _ _ h => h)))
  have Z4 := hide hz4
  clear hn4 hc4 hz4
  refine (make_ok H4.out (x := (1, 1)) rfl (m := 1) (n := 1) rfl (by decide) rfl).mono ?_
  rintro e w5 ⟨z, rfl, hi5, ⟨hz1, hz2, hz3, hz4⟩, hc5⟩
  have ZC := hide (Zc.mk hz1 hz2 hz3 hz4)
  have H5 := hide (show CI w5 w.heap.size c bp M F [] [z] from hi5)
  have hM := H2.out.mp.lt
  have S5 := hide hc5.size
  have N5 := hide (hc5.box N4.out (fun e => by have := S3.out; omega))
  have B5 := hide (B4.out.trans (hc5.below B4.out.size (fun y hy e => by have := H2.out.lo.2.1; omega)))
  clear hi5 hz1 hz2 hz3 hz4 hc5 hM
  have HIN := hide (show z ∈ [z] from List.mem_singleton.2 rfl)
  go_wp2
  refine wp_thenC (aw_a N5.out (Qs := z.mine) (fun y hy => (H5.out.ch z HIN.out).lt y hy) ((H5.out.ch z HIN.out).not N5.out (by decide) (by decide) (by decide)) (f := 0) (u := zVa) (ok := false) (sn := 0) (sc := 0) (R := fun _ _ w' => CI w' w.heap.size c bp M F [] [z.put v7]) (fun V cV => (aw_send1 (H5.out.quiet cV) ZC.out)) (fun A1 sa V w6 w7 t33 t34 t35 t36 t37 t38 t39 t40 cV hR hcQ hA hn7 hc7 hd => ?_))
  have ho7 := H5.out.olds hA
  have H7 := hide (hR.away hc7 ho7.1 ho7.2.1 (fun x hx => by rw [List.mem_singleton.1 hx]; exact ho7.2.2.1 z HIN.out) ho7.2.2.2)
  have hHl := (Array.getElem?_eq_some_iff.1 N5.out).1
  have N7 := hide (hc7.box (hcQ.box (cV.box N5.out (fun h => h)) ((H5.out.ch z HIN.out).not N5.out (by decide) (by decide) (by decide))) (fun e => by omega))
  have X7 := hide hn7
  have c57 := (((cV.mono (Q' := fun y => z.mine y) (fun _ _ h => h.elim)).trans hcQ (fun _ _ h => h)).trans hc7 (Q := fun y => z.mine y) (fun y hy e => by omega))
  have B7 := hide (B5.out.trans (c57.below B5.out.size (fun y hy e => by have := H5.out.lo.2.2 z HIN.out y e; omega)))
  have S7 := hide (And.intro c57.size (And.intro hA ho7.2.2.2))
  have ZC7 := hide (ZC.out.put v7)
  have HIN7 := hide (show z.put v7 ∈ [z.put v7] from List.mem_singleton.2 rfl)
  clear ho7 hHl c57 cV hR hcQ hA hn7 hc7 hd
  obtain ⟨z', hz'⟩ : ∃ z', z.put v7 = z' := ⟨_, rfl⟩
  rw [hz'] at H7 ZC7 HIN7
  clear hz'
  go_wp2
  refine wp_thenC (aw_b N7.out (Qs := F) (fun y hy => (face.foot H7.out.bk y hy).2) (fun e => by have h1 := HF.out _ e; have h2 := S2.out; have h3 := S3.out; omega) (f := 1) (u := zVa) (ok := false) (sn := 0) (sc := 0) (R := fun _ V w' => ∃ F', CI w' w.heap.size c bp M F' l1 [z'] ∧ ∀ y, F' y → F y ∨ V.heap.size ≤ y) (fun V cV => (aw_send2 (H7.out.quiet cV) ZC7.out)) (fun A2 sa2 V2 w8 w9 t41 t42 t43 t44 t45 t46 t47 t48 cV hR hcQ hA hn9 hc9 hd => ?_))
  obtain ⟨F2, hi8, hF2⟩ := hR
  have ho9 := H7.out.olds hA
  have nF2 : ¬ F2 A2 := fun e => by
    rcases hd with hd | hd
    · rcases hF2 A2 e with h | h
      · exact ho9.2.2.2 h
      · omega
    · have := (face.foot hi8.bk A2 e).2
      omega
  have H9 := hide (hi8.away hc9 ho9.1 ho9.2.1 ho9.2.2.1 nF2)
  have nFH : ¬ F w3.heap.size := fun e => by have h1 := HF.out _ e; have h2 := S2.out; have h3 := S3.out; omega
  have hHl := (Array.getElem?_eq_some_iff.1 N7.out).1
  have hA1 := (Array.getElem?_eq_some_iff.1 X7.out).1
  have N9 := hide (hc9.box (hcQ.box (cV.box N7.out (fun h => h)) nFH) (fun e => by omega))
  have X19 := hide (hc9.box (hcQ.box (cV.box X7.out (fun h => h)) S7.out.2.2) (fun e => by omega))
  have X29 := hide hn9
  have c79 := (((cV.mono (Q' := F) (fun _ _ h => h.elim)).trans hcQ (fun _ _ h => h)).trans hc9 (Q := F) (fun y hy e => by omega))
  have B9 := hide (B7.out.trans (c79.below B7.out.size (fun y hy e => by have := (face.foot H7.out.bk y e).1; omega)))
  have hcs := cV.size
  have NF := hide (show ¬ F2 w3.heap.size ∧ ¬ F2 A1 ∧ ¬ F2 A2 from ⟨fun e => (hF2 _ e).elim nFH (fun h => by omega), fun e => (hF2 _ e).elim S7.out.2.2 (fun h => by omega), nF2⟩)
  clear hi8 hF2 ho9 nF2 nFH hHl hA1 c79 hcs cV hcQ hA hn9 hc9 hd
  have CA := hide (H9.out.ch z' HIN7.out)
  go_wp2
  refine wp_thenC (aw_c N9.out (Qs := fun y => z'.mine y ∨ F2 y) (fun y hy => hy.elim (fun h => CA.out.lt y h) (fun h => (face.foot H9.out.bk y h).2)) (fun e => e.elim (CA.out.not N9.out (by decide) (by decide) (by decide)) NF.out.1) (f := 0) (u := v7) (ok := true) (sn := 1) (sc := 1) (R := fun sa V w' => ∃ nb F' cs, sa = some ⟨nb, 0, none⟩ ∧ V.heap.size ≤ nb ∧ w'.heap[nb]? = some (.cells (wkF 5 1 0 zVa false 0).toArray 119 (0, 0)) ∧ CI w' w.heap.size c bp M F' (leaW l1 5 1) cs ∧ ∀ y, F' y → F2 y ∨ V.heap.size ≤ y) (fun V cV => (aw_recv (H9.out.quiet cV) ZC7.out)) (fun A3 sa3 V3 w10 w11 t49 t50 t51 t52 t53 t54 t55 cV hR hcQ hA hn11 hc11 hd => ?_))
  obtain ⟨nb, F3, cs3, rfl, hnb, hwk, hi10, hF3⟩ := hR
  have n1 : ¬ (z'.mine A1 ∨ F2 A1) := fun e => e.elim (CA.out.not X19.out (by decide) (by decide) (by decide)) NF.out.2.1
  have n2 : ¬ (z'.mine A2 ∨ F2 A2) := fun e => e.elim (CA.out.not X29.out (by decide) (by decide) (by decide)) NF.out.2.2
  have hA1 := (Array.getElem?_eq_some_iff.1 X19.out).1
  have hA2 := (Array.getElem?_eq_some_iff.1 X29.out).1
  have hnl := (Array.getElem?_eq_some_iff.1 hwk).1
  have m1 := hc11.box (hcQ.box (cV.box X19.out (fun h => h)) n1) (fun e => by omega)
  have m2 := hc11.box (hcQ.box (cV.box X29.out (fun h => h)) n2) (fun e => by omega)
  have m4 := hc11.box hwk (fun e => by omega)
  have nF3 : ¬ F3 A3 := fun e => by
    rcases hd with hd | hd
    · rcases hF3 A3 e with h | h
      · have := (face.foot H9.out.bk A3 h).2
        omega
      · omega
    · have := (face.foot hi10.bk A3 e).2
      omega
  have hbk : PTb w11 w.heap.size F3 bp (leaW l1 5 1) := face.ch hi10.bk hc11 (fun y hy e => nF3 (by rw [← e]; exact hy))
  have HBK := hide hbk
  have HM := hide (And.intro m1 (And.intro m2 (And.intro hn11 m4)))
  have B11 := hide (B9.out.trans ((((cV.mono (Q' := fun y => z'.mine y ∨ F2 y) (fun _ _ h => h.elim)).trans hcQ (fun _ _ h => h)).trans hc11 (Q := fun y => z'.mine y ∨ F2 y) (fun y hy e => by omega)).below B9.out.size (fun y hy e => by
    rcases e with e | e
    · have := H9.out.lo.2.2 z' HIN7.out y e; omega
    · have := (face.foot H9.out.bk y e).1; omega)))
  clear n1 n2 hA1 hA2 hnl m1 m2 m4 hbk cV hcQ hA hn11 hc11 hd hnb hwk hi10 hF3 nF3
  go_wp2
  refine wp_reg (fun _ => False) (R := fun V => Ch (fun _ => False) w11 V) (by kernel_rfl) (Ch.drew _) (fun V cV zk => ?_)
  have CV := hide cV
  clear cV
  have HX := hide (fun wq (kq : Ch (fun _ => False) V wq) => show wq.cell? ⟨A1, 0, none⟩ = some (.int .i64 0) ∧ wq.cell? ⟨A2, 0, none⟩ = some (.int .i64 1) ∧ (wq.cell? ⟨A3, 0, none⟩ = some (.int .i64 0) ∧ wq.cell? ⟨A3, 1, none⟩ = some (.int .i64 7) ∧ wq.cell? ⟨A3, 4, none⟩ = some (.bool true) ∧ wq.cell? ⟨A3, 5, none⟩ = some (.slice (some ⟨nb, 0, none⟩) 1 1)) ∧ wq.cell? ⟨nb, 0, none⟩ = some (.int .u32 5) ∧ wq.cell? ⟨nb, 1, none⟩ = some (.int .u32 1) from by
    have cc := CV.out.trans kq (fun _ _ h => h)
    have e1 := Lib.cell_of_heap (cc.box HM.out.1 (fun h => h))
    have e2 := Lib.cell_of_heap (cc.box HM.out.2.1 (fun h => h))
    have e3 := Lib.cell_of_heap (cc.box HM.out.2.2.1 (fun h => h))
    have e4 := Lib.cell_of_heap (cc.box HM.out.2.2.2 (fun h => h))
    exact ⟨by simp [e1], by simp [e2], ⟨by simp [e3], by simp [e3, v7], by simp [e3], by simp [e3]⟩, by simp [e4, wkF], by simp [e4, wkF]⟩)
  apply tk 0 kaw0 rfl (by kernel_rfl) (fun _ _ _ h => h) zk
  · intro wq zq
    go_simp
    try rfl
  go_frame
  apply tk 1 kaw1 rfl (by kernel_rfl) (fun _ _ _ h => h) zk
  · intro wq zq
    go_simp
    try rfl
  go_frame
  apply tk 2 kaw2 rfl (by kernel_rfl) (fun _ _ _ h => h) zk
  · intro wq zq
    go_simp
    try rfl
  go_frame
  apply tk 3 kaw3 rfl (by kernel_rfl) (fun _ _ _ h => h) zk
  · intro wq zq
    obtain ⟨s0, s1, ⟨s2, s3, s4, s5⟩, s6, s7⟩ := HX.out _ zq
    go_simp
    try rfl
  go_frame
  apply tk 4 kaw4 rfl (by kernel_rfl) (fun _ _ _ h => h) zk
  · intro wq zq
    go_simp
    try rfl
  go_frame
  apply tk 5 kaw5 rfl (by kernel_rfl) (fun _ _ _ h => h) zk
  · intro wq zq
    go_simp
    try rfl
  go_frame
  apply tk 6 kaw6 rfl (by kernel_rfl) (fun _ _ _ h => h) zk
  · intro wq zq
    go_simp
    try rfl
  go_frame
  apply tk 7 kaw7 rfl (by kernel_rfl) (fun _ _ _ h => h) zk
  · intro wq zq
    go_simp
    try rfl
  go_frame
  apply tk 8 kaw8 rfl (by kernel_rfl) (fun _ _ _ h => h) zk
  · intro wq zq
    obtain ⟨s0, s1, ⟨s2, s3, s4, s5⟩, s6, s7⟩ := HX.out _ zq
    go_simp
    try rfl
  go_frame
  apply tk 9 kaw9 rfl (by kernel_rfl) (fun _ _ _ h => h) zk
  · intro wq zq
    go_simp
    try rfl
  go_frame
  apply tk 10 kaw10 rfl (by kernel_rfl) (fun _ _ _ h => h) zk
  · intro wq zq
    go_simp
    try rfl
  go_frame
  apply tk 11 kaw11 rfl (by kernel_rfl) (fun _ _ _ h => h) zk
  · intro wq zq
    go_simp
    try rfl
  go_frame
  apply tk 12 kaw12 rfl (by kernel_rfl) (fun _ _ _ h => h) zk
  · intro wq zq
    go_simp
    try rfl
  go_frame
  apply tk 13 kaw13 rfl (by kernel_rfl) (fun _ _ _ h => h) zk
  · intro wq zq
    obtain ⟨s0, s1, ⟨s2, s3, s4, s5⟩, s6, s7⟩ := HX.out _ zq
    go_simp
    try rfl
  go_frame
  apply tk 14 kaw14 rfl (by kernel_rfl) (fun _ _ _ h => h) zk
  · intro wq zq
    go_simp
    try rfl
  go_frame
  apply tk 15 kaw15 rfl (by kernel_rfl) (fun _ _ _ h => h) zk
  · intro wq zq
    go_simp
    try rfl
  go_frame
  apply tk 16 kaw16 rfl (by kernel_rfl) (fun _ _ _ h => h) zk
  · intro wq zq
    go_simp
    try rfl
  go_frame
  apply tk 17 kaw17 rfl (by kernel_rfl) (fun _ _ _ h => h) zk
  · intro wq zq
    go_simp
    try rfl
  go_frame
  apply tk 18 kaw18 rfl (by kernel_rfl) (fun _ _ _ h => h) zk
  · intro wq zq
    obtain ⟨s0, s1, ⟨s2, s3, s4, s5⟩, s6, s7⟩ := HX.out _ zq
    go_simp
    try rfl
  go_frame
  apply tk 19 kaw19 rfl (by kernel_rfl) (fun _ _ _ h => h) zk
  · intro wq zq
    go_simp
    try rfl
  go_frame
  apply tk 20 kaw20 rfl (by kernel_rfl) (fun _ _ _ h => h) zk
  · intro wq zq
    go_simp
    try rfl
  go_frame
  apply tk 21 kaw21 rfl (by kernel_rfl) (fun _ _ _ h => h) zk
  · intro wq zq
    go_simp
    try rfl
  go_frame
  apply tk 22 kaw22 rfl (by kernel_rfl) (fun _ _ _ h => h) zk
  · intro wq zq
    go_simp
    try rfl
  go_frame
  apply tk 23 kaw23 rfl (by kernel_rfl) (fun _ _ _ h => h) zk
  · intro wq zq
    obtain ⟨s0, s1, ⟨s2, s3, s4, s5⟩, s6, s7⟩ := HX.out _ zq
    go_simp
    try rfl
  go_frame
  apply tk 24 kaw24 rfl (by kernel_rfl) (fun _ _ _ h => h) zk
  · intro wq zq
    go_simp
    try rfl
  go_frame
  apply tk 25 kaw25 rfl (by kernel_rfl) (fun _ _ _ h => h) zk
  · intro wq zq
    go_simp
    try rfl
  go_frame
  apply tk 26 kaw26 rfl (by kernel_rfl) (fun _ _ _ h => h) zk
  · intro wq zq
    go_simp
    try rfl
  go_frame
  apply tk 27 kaw27 rfl (by kernel_rfl) (fun _ _ _ h => h) zk
  · intro wq zq
    go_simp
    try rfl
  go_frame
  apply tk 28 kaw28 rfl (by kernel_rfl) (fun _ _ _ h => h) zk
  · intro wq zq
    obtain ⟨s0, s1, ⟨s2, s3, s4, s5⟩, s6, s7⟩ := HX.out _ zq
    go_simp
    try rfl
  go_frame
  apply tk 29 kaw29 rfl (by kernel_rfl) (fun _ _ _ h => h) zk
  · intro wq zq
    go_simp
    try rfl
  go_frame
  apply tk 30 kaw30 rfl (by kernel_rfl) (fun _ _ _ h => h) zk
  · intro wq zq
    go_simp
    try rfl
  go_frame
  apply tk 31 kaw31 rfl (by kernel_rfl) (fun _ _ _ h => h) zk
  · intro wq zq
    go_simp
    try rfl
  go_frame
  apply tk 32 kaw32 rfl (by kernel_rfl) (fun _ _ _ h => h) zk
  · intro wq zq
    go_simp
    try rfl
  go_frame
  apply tk 33 kaw33 rfl (by kernel_rfl) (fun _ _ _ h => h) zk
  · intro wq zq
    go_simp
    try rfl
  go_frame
  apply tk 34 kaw34 rfl (by kernel_rfl) (fun _ _ _ h => h) zk
  · intro wq zq
    obtain ⟨s0, s1, ⟨s2, s3, s4, s5⟩, s6, s7⟩ := HX.out _ zq
    go_simp
    try rfl
  go_frame
  apply tk 35 kaw35 rfl (by kernel_rfl) (fun _ _ _ h => h) zk
  · intro wq zq
    go_simp
    try rfl
  go_frame
  apply tk 36 kaw36 rfl (by kernel_rfl) (fun _ _ _ h => h) zk
  · intro wq zq
    go_simp
    try rfl
  go_frame
  apply tk 37 kaw37 rfl (by kernel_rfl) (fun _ _ _ h => h) zk
  · intro wq zq
    obtain ⟨s0, s1, ⟨s2, s3, s4, s5⟩, s6, s7⟩ := HX.out _ zq
    go_simp
    try rfl
  go_frame
  refine Go.Proofs.Ytbblmbbpicinlaa.rd 38 kaw38 rfl (by kernel_rfl) fun K hK => ?_
  go_simp
  refine (lhandle_is V (n := 5) (by decide) (by decide)).mono ?_
  rintro e wa ⟨rfl, hba⟩
  have CA2 := hide (CV.out.trans (Ch.of_below hba) (fun _ _ h => h))
  have Za := hide (zk.trans (Ch.of_below (Q := fun _ => False) hba) (fun _ _ h => h))
  clear hba
  go_wp2_with fail
  refine hK.out _ _ ?_ (fun zk => ?_)
  · exact Za.out
  clear hK K
  try go_frame
  apply tk 39 kaw39 rfl (by kernel_rfl) (fun _ _ _ h => h) zk
  · intro wq zq
    go_simp
    try rfl
  go_frame
  apply tk 40 kaw40 rfl (by kernel_rfl) (fun _ _ _ h => h) zk
  · intro wq zq
    go_simp
    try rfl
  go_frame
  apply tk 41 kaw41 rfl (by kernel_rfl) (fun _ _ _ h => h) zk
  · intro wq zq
    go_simp
    try rfl
  go_frame
  apply tk 42 kaw42 rfl (by kernel_rfl) (fun _ _ _ h => h) zk
  · intro wq zq
    go_simp
    try rfl
  go_frame
  refine Go.Proofs.Ytbblmbbpicinlaa.rd 43 kaw43 rfl (by kernel_rfl) fun K hK => ?_
  go_simp
  refine (face.count (face.ch HBK.out CA2.out (fun _ _ h => h)) (by decide)).mono ?_
  rintro e wb ⟨rfl, hbb⟩
  have CB2 := hide (CA2.out.trans (Ch.of_below hbb) (fun _ _ h => h))
  have Zb := hide (zk.trans (Ch.of_below (Q := fun _ => False) hbb) (fun _ _ h => h))
  clear hbb
  rw [l1_left]
  go_wp2_with fail
  refine hK.out _ _ ?_ (fun zk => ?_)
  · exact Zb.out
  clear hK K
  try go_frame
  apply tk 44 kaw44 rfl (by kernel_rfl) (fun _ _ _ h => h) zk
  · intro wq zq
    go_simp
    try rfl
  go_frame
  apply tk 45 kaw45 rfl (by kernel_rfl) (fun _ _ _ h => h) zk
  · intro wq zq
    go_simp
    try rfl
  go_frame
  apply tk 46 kaw46 rfl (by kernel_rfl) (fun _ _ _ h => h) zk
  · intro wq zq
    go_simp
    try rfl
  go_frame
  refine wpAnyH_done (by kernel_rfl) ?_ _
  go_wp2
  go_ret
  exact ⟨rfl, B11.out.trans (CB2.out.below B11.out.size (fun _ _ h => h))⟩

end Go.Proofs.Ytbblmbbpicinlaa

namespace Go.Proofs.Ytbblmbbpicinlaa
open Go.RowKit

abbrev kcs0 : Oper := { dst := some 9, op := Op.move (Operand.tmp 5), type := 143, pos := "chans.go:99", after := #[], guard := none }
abbrev kcs1 : Oper := { dst := some 10, op := Op.binOp BinOp.neq 143 (Operand.tmp 9) (Operand.const (Value.pointer none)) 143, type := 4, pos := "chans.go:99", after := #[{ on := 0, ground := Ground.data }], guard := none }
abbrev kcs2 : Oper := { dst := some 11, op := Op.move (Operand.tmp 10), type := 4, pos := "chans.go:99", after := #[{ on := 1, ground := Ground.data }], guard := none }
abbrev kcs3 : Oper := { dst := some 12, op := Op.move (Operand.tmp 5), type := 143, pos := "chans.go:99", after := #[{ on := 2, ground := Ground.guard }], guard := some (2, true) }
abbrev kcs4 : Oper := { dst := some 13, op := Op.nilCheck (Operand.tmp 12), type := 0, pos := "chans.go:99", after := #[{ on := 3, ground := Ground.data }, { on := 2, ground := Ground.guard }], guard := some (2, true) }
abbrev kcs5 : Oper := { dst := some 14, op := Op.fieldAddr 147 (Operand.tmp 13) 2, type := 0, pos := "chans.go:99", after := #[{ on := 4, ground := Ground.data }, { on := 2, ground := Ground.guard }], guard := some (2, true) }
abbrev kcs6 : Oper := { dst := some 15, op := Op.load 4 (Operand.tmp 14), type := 4, pos := "chans.go:99", after := #[{ on := 5, ground := Ground.data }, { on := 2, ground := Ground.guard }], guard := some (2, true) }
abbrev kcs7 : Oper := { dst := some 16, op := Op.move (Operand.tmp 15), type := 4, pos := "chans.go:99", after := #[{ on := 6, ground := Ground.data }, { on := 2, ground := Ground.chain }, { on := 2, ground := Ground.guard }], guard := some (2, true) }
abbrev kcs8 : Oper := { dst := some 17, op := Op.move (Operand.tmp 5), type := 143, pos := "chans.go:99", after := #[{ on := 7, ground := Ground.guard }], guard := some (7, false) }
abbrev kcs9 : Oper := { dst := some 18, op := Op.nilCheck (Operand.tmp 17), type := 0, pos := "chans.go:99", after := #[{ on := 8, ground := Ground.data }, { on := 7, ground := Ground.guard }], guard := some (7, false) }
abbrev kcs10 : Oper := { dst := some 19, op := Op.fieldAddr 147 (Operand.tmp 18) 0, type := 0, pos := "chans.go:99", after := #[{ on := 9, ground := Ground.data }, { on := 7, ground := Ground.guard }], guard := some (7, false) }
abbrev kcs11 : Oper := { dst := some 20, op := Op.load 145 (Operand.tmp 19), type := 145, pos := "chans.go:99", after := #[{ on := 10, ground := Ground.data }, { on := 7, ground := Ground.guard }], guard := some (7, false) }
abbrev kcs12 : Oper := { dst := some 21, op := Op.call { callee := Callee.value (Operand.func 74), args := #[Operand.tmp 20, Operand.const (Value.int IntKind.i64 2)], argTypes := #[145, 44] }, type := 4, pos := "chans.go:99", after := #[{ on := 11, ground := Ground.data }, { on := 7, ground := Ground.chain }, { on := 7, ground := Ground.guard }], guard := some (7, false) }
abbrev kcs13 : Oper := { dst := some 22, op := Op.pick (Operand.tmp 16) (Operand.const (Value.bool true)) (Operand.tmp 21), type := 4, pos := "chans.go:99", after := #[{ on := 7, ground := Ground.data }, { on := 12, ground := Ground.data }, { on := 2, ground := Ground.guard }], guard := some (2, true) }
abbrev kcs14 : Oper := { dst := some 23, op := Op.move (Operand.tmp 22), type := 4, pos := "chans.go:99", after := #[{ on := 13, ground := Ground.data }, { on := 12, ground := Ground.chain }, { on := 2, ground := Ground.guard }], guard := some (2, true) }
abbrev kcs15 : Oper := { dst := some 24, op := Op.move (Operand.tmp 5), type := 143, pos := "chans.go:99", after := #[{ on := 14, ground := Ground.guard }], guard := some (14, false) }
abbrev kcs16 : Oper := { dst := some 25, op := Op.nilCheck (Operand.tmp 24), type := 0, pos := "chans.go:99", after := #[{ on := 15, ground := Ground.data }, { on := 14, ground := Ground.guard }], guard := some (14, false) }
abbrev kcs17 : Oper := { dst := some 26, op := Op.fieldAddr 147 (Operand.tmp 25) 1, type := 0, pos := "chans.go:99", after := #[{ on := 16, ground := Ground.data }, { on := 14, ground := Ground.guard }], guard := some (14, false) }
abbrev kcs18 : Oper := { dst := some 27, op := Op.load 140 (Operand.tmp 26), type := 140, pos := "chans.go:99", after := #[{ on := 17, ground := Ground.data }, { on := 14, ground := Ground.guard }], guard := some (14, false) }
abbrev kcs19 : Oper := { dst := some 28, op := Op.call { callee := Callee.value (Operand.func 72), args := #[Operand.tmp 27], argTypes := #[140] }, type := 3, pos := "chans.go:99", after := #[{ on := 18, ground := Ground.data }, { on := 14, ground := Ground.chain }, { on := 14, ground := Ground.guard }], guard := some (14, false) }
abbrev kcs20 : Oper := { dst := some 29, op := Op.move (Operand.tmp 5), type := 143, pos := "chans.go:99", after := #[{ on := 14, ground := Ground.guard }], guard := some (14, false) }
abbrev kcs21 : Oper := { dst := some 30, op := Op.nilCheck (Operand.tmp 29), type := 0, pos := "chans.go:99", after := #[{ on := 20, ground := Ground.data }, { on := 14, ground := Ground.guard }], guard := some (14, false) }
abbrev kcs22 : Oper := { dst := some 31, op := Op.fieldAddr 147 (Operand.tmp 30) 1, type := 0, pos := "chans.go:99", after := #[{ on := 21, ground := Ground.data }, { on := 14, ground := Ground.guard }], guard := some (14, false) }
abbrev kcs23 : Oper := { dst := some 32, op := Op.load 140 (Operand.tmp 31), type := 140, pos := "chans.go:99", after := #[{ on := 22, ground := Ground.data }, { on := 14, ground := Ground.guard }], guard := some (14, false) }
abbrev kcs24 : Oper := { dst := some 33, op := Op.call { callee := Callee.value (Operand.func 73), args := #[Operand.tmp 32], argTypes := #[140] }, type := 3, pos := "chans.go:99", after := #[{ on := 23, ground := Ground.data }, { on := 19, ground := Ground.chain }, { on := 14, ground := Ground.guard }], guard := some (14, false) }
abbrev kcs25 : Oper := { dst := some 34, op := Op.binOp BinOp.lss 3 (Operand.tmp 28) (Operand.tmp 33) 3, type := 4, pos := "chans.go:99", after := #[{ on := 19, ground := Ground.data }, { on := 24, ground := Ground.data }, { on := 14, ground := Ground.guard }], guard := some (14, false) }
abbrev kcs26 : Oper := { dst := some 35, op := Op.pick (Operand.tmp 23) (Operand.const (Value.bool true)) (Operand.tmp 34), type := 4, pos := "chans.go:99", after := #[{ on := 14, ground := Ground.data }, { on := 25, ground := Ground.data }, { on := 2, ground := Ground.guard }], guard := some (2, true) }
abbrev kcs27 : Oper := { dst := some 36, op := Op.pick (Operand.tmp 11) (Operand.tmp 35) (Operand.const (Value.bool false)), type := 4, pos := "chans.go:99", after := #[{ on := 2, ground := Ground.data }, { on := 26, ground := Ground.data }], guard := none }
abbrev kcs28 : Oper := { dst := some 4, op := Op.assign (Operand.tmp 36), type := 4, pos := "chans.go:99", after := #[{ on := 27, ground := Ground.data }, { on := 24, ground := Ground.chain }, { on := 0, ground := Ground.phase }, { on := 1, ground := Ground.phase }, { on := 2, ground := Ground.phase }, { on := 3, ground := Ground.phase }, { on := 4, ground := Ground.phase }, { on := 5, ground := Ground.phase }, { on := 6, ground := Ground.phase }, { on := 7, ground := Ground.phase }, { on := 8, ground := Ground.phase }, { on := 9, ground := Ground.phase }, { on := 10, ground := Ground.phase }, { on := 11, ground := Ground.phase }, { on := 12, ground := Ground.phase }, { on := 13, ground := Ground.phase }, { on := 14, ground := Ground.phase }, { on := 15, ground := Ground.phase }, { on := 16, ground := Ground.phase }, { on := 17, ground := Ground.phase }, { on := 18, ground := Ground.phase }, { on := 19, ground := Ground.phase }, { on := 20, ground := Ground.phase }, { on := 21, ground := Ground.phase }, { on := 22, ground := Ground.phase }, { on := 23, ground := Ground.phase }, { on := 24, ground := Ground.phase }, { on := 25, ground := Ground.phase }, { on := 26, ground := Ground.phase }, { on := 27, ground := Ground.phase }], guard := none }

theorem cnew_nil (w : World) : Calls Try.prog 11 #[.pointer none] w fun e w' => e = .returned (.tuple #[.pointer none, .int .i64 1]) ∧ Below w.heap.size w w' := by
  go_enter Try.func11, Try.ntmps11
  go_wp2_with fail
  go_ret2
  exact ⟨rfl, Below.refl _ _⟩
theorem cat_nil (w : World) (g : Hnd) : Calls Try.prog 65 #[.pointer none, hkV g] w fun e w' => e = .returned (.pointer none) ∧ Below w.heap.size w w' := by
  go_enter Try.func65, Try.ntmps65
  go_wp2_with fail
  go_ret
  exact ⟨rfl, below1 _ _⟩
theorem ccount_nil (w : World) : Calls Try.prog 15 #[.pointer none] w fun e w' => e = .returned (.int .i64 0) ∧ Below w.heap.size w w' := by
  go_enter Try.func15, Try.ntmps15
  go_wp2_with fail
  go_ret
  exact ⟨rfl, Below.refl _ _⟩
theorem crefuse_nil (w : World) (g h : Hnd) : Calls Try.prog 62 #[.pointer none, hkV g, hkV h] w fun e w' => e = .returned (.int .i64 1) ∧ Below w.heap.size w w' := by
  go_enter Try.func62, Try.ntmps62
  go_wp2_with fail
  go_ret
  exact ⟨rfl, (below1 _ _).trans ((below1 _ _).mono (by simp))⟩
theorem cheld_nil (w : World) (g : Hnd) : Calls Try.prog 71 #[.pointer none, hkV g] w fun e w' => e = .returned (.tuple #[.pointer none, .int .i64 1]) ∧ Below w.heap.size w w' := by
  go_enter Try.func71, Try.ntmps71
  go_wp2_with fail
  go_ret2
  exact ⟨rfl, below1 _ _⟩
theorem rlen_nil (w : World) : Calls Try.prog 72 #[.pointer none] w fun e w' => e = .returned (.int .i64 0) ∧ Below w.heap.size w w' := by
  go_enter Try.func72, Try.ntmps72
  go_wp2_with fail
  go_ret
  exact ⟨rfl, Below.refl _ _⟩
theorem rcap_nil (w : World) : Calls Try.prog 73 #[.pointer none] w fun e w' => e = .returned (.int .i64 0) ∧ Below w.heap.size w w' := by
  go_enter Try.func73, Try.ntmps73
  go_wp2_with fail
  go_ret
  exact ⟨rfl, Below.refl _ _⟩
theorem cmake_nil (w : World) (g : Hnd) : Calls Try.prog 17 #[.pointer none, hkV g, .int .i64 1] w fun e w' => e = .returned (.int .i64 1) ∧ Below w.heap.size w w' := by
  go_enter Try.func17, Try.ntmps17
  go_wp2_with fail
  go_ret
  exact ⟨rfl, below1 _ _⟩
theorem cdrop_nil (w : World) (g : Hnd) : Calls Try.prog 29 #[.pointer none, hkV g] w fun e w' => e = .returned (.int .i64 1) ∧ Below w.heap.size w w' := by
  go_enter Try.func29, Try.ntmps29
  go_wp2_with fail
  refine bodyPost_ret (results_tmp Try.results29 _ _ _) rfl ?_
  exact ⟨rfl, below1 _ _⟩
theorem chas_nil (w : World) (g : Hnd) : Calls Try.prog 31 #[.pointer none, hkV g] w fun e w' => e = .returned (.bool false) ∧ Below w.heap.size w w' := by
  go_enter Try.func31, Try.ntmps31
  go_wp2_with fail
  refine (cat_nil _ g).mono ?_
  rintro e W0 ⟨rfl, hb⟩
  have HB := hide ((below1 w _).trans (hb.mono (by simp)))
  clear hb
  go_wp2_with fail
  go_ret
  exact ⟨rfl, HB.out⟩
theorem ccanSend_nil (w : World) (g : Hnd) : Calls Try.prog 32 #[.pointer none, hkV g] w fun e w' => e = .returned (.bool false) ∧ Below w.heap.size w w' := by
  go_enter Try.func32, Try.ntmps32
  go_wp2_with fail
  refine (cat_nil _ g).mono ?_
  rintro e W0 ⟨rfl, hb⟩
  have HB := hide ((below1 w _).trans (hb.mono (by simp)))
  clear hb
  go_wp2
  refine wp_reg (fun _ => False) (R := fun V => Ch (fun _ => False) W0 V) (by kernel_rfl) (Ch.drew _) (fun V cV zk => ?_)
  apply tk 0 kcs0 rfl (by kernel_rfl) (fun _ _ _ h => h) zk
  · intro wq zq
    go_simp
    try rfl
  go_frame
  apply tk 1 kcs1 rfl (by kernel_rfl) (fun _ _ _ h => h) zk
  · intro wq zq
    go_simp
    try rfl
  go_frame
  apply tk 2 kcs2 rfl (by kernel_rfl) (fun _ _ _ h => h) zk
  · intro wq zq
    go_simp
    try rfl
  go_frame
  apply sk 3 kcs3 rfl (by kernel_rfl) (fun _ _ _ h => h) zk
  go_frame
  apply sk 4 kcs4 rfl (by kernel_rfl) (fun _ _ _ h => h) zk
  go_frame
  apply sk 5 kcs5 rfl (by kernel_rfl) (fun _ _ _ h => h) zk
  go_frame
  apply sk 6 kcs6 rfl (by kernel_rfl) (fun _ _ _ h => h) zk
  go_frame
  apply sk 7 kcs7 rfl (by kernel_rfl) (fun _ _ _ h => h) zk
  go_frame
  apply sk 8 kcs8 rfl (by kernel_rfl) (fun _ _ _ h => h) zk
  go_frame
  apply sk 9 kcs9 rfl (by kernel_rfl) (fun _ _ _ h => h) zk
  go_frame
  apply sk 10 kcs10 rfl (by kernel_rfl) (fun _ _ _ h => h) zk
  go_frame
  apply sk 11 kcs11 rfl (by kernel_rfl) (fun _ _ _ h => h) zk
  go_frame
  apply sk 12 kcs12 rfl (by kernel_rfl) (fun _ _ _ h => h) zk
  go_frame
  apply sk 13 kcs13 rfl (by kernel_rfl) (fun _ _ _ h => h) zk
  go_frame
  apply sk 14 kcs14 rfl (by kernel_rfl) (fun _ _ _ h => h) zk
  go_frame
  apply sk 15 kcs15 rfl (by kernel_rfl) (fun _ _ _ h => h) zk
  go_frame
  apply sk 16 kcs16 rfl (by kernel_rfl) (fun _ _ _ h => h) zk
  go_frame
  apply sk 17 kcs17 rfl (by kernel_rfl) (fun _ _ _ h => h) zk
  go_frame
  apply sk 18 kcs18 rfl (by kernel_rfl) (fun _ _ _ h => h) zk
  go_frame
  apply sk 19 kcs19 rfl (by kernel_rfl) (fun _ _ _ h => h) zk
  go_frame
  apply sk 20 kcs20 rfl (by kernel_rfl) (fun _ _ _ h => h) zk
  go_frame
  apply sk 21 kcs21 rfl (by kernel_rfl) (fun _ _ _ h => h) zk
  go_frame
  apply sk 22 kcs22 rfl (by kernel_rfl) (fun _ _ _ h => h) zk
  go_frame
  apply sk 23 kcs23 rfl (by kernel_rfl) (fun _ _ _ h => h) zk
  go_frame
  apply sk 24 kcs24 rfl (by kernel_rfl) (fun _ _ _ h => h) zk
  go_frame
  apply sk 25 kcs25 rfl (by kernel_rfl) (fun _ _ _ h => h) zk
  go_frame
  apply sk 26 kcs26 rfl (by kernel_rfl) (fun _ _ _ h => h) zk
  go_frame
  apply tk 27 kcs27 rfl (by kernel_rfl) (fun _ _ _ h => h) zk
  · intro wq zq
    go_simp
    try rfl
  go_frame
  apply tk 28 kcs28 rfl (by kernel_rfl) (fun _ _ _ h => h) zk
  · intro wq zq
    go_simp
    try rfl
  go_frame
  refine wpAnyH_done (by kernel_rfl) ?_ _
  go_wp2
  refine bodyPost_ret (results_tmp Try.results32 _ _ _) rfl ?_
  exact ⟨rfl, HB.out.trans ((cV.trans zk (fun _ _ h => h)).below HB.out.size (fun _ _ h => h))⟩
theorem ccanRecv_nil (w : World) (g : Hnd) : Calls Try.prog 33 #[.pointer none, hkV g] w fun e w' => e = .returned (.bool false) ∧ Below w.heap.size w w' := by
  go_enter Try.func33, Try.ntmps33
  go_wp2_with fail
  refine (cat_nil _ g).mono ?_
  rintro e W0 ⟨rfl, hb⟩
  have HB := hide ((below1 w _).trans (hb.mono (by simp)))
  clear hb
  go_wp2_with fail
  go_ret
  exact ⟨rfl, HB.out⟩
theorem crefs_nil (w : World) (g : Hnd) : Calls Try.prog 34 #[.pointer none, hkV g] w fun e w' => e = .returned (.slice none 0 0) ∧ Below w.heap.size w w' := by
  go_enter Try.func34, Try.ntmps34
  go_wp2_with fail
  refine (cat_nil _ g).mono ?_
  rintro e W0 ⟨rfl, hb⟩
  have HB := hide ((below1 w _).trans (hb.mono (by simp)))
  clear hb
  go_wp2_with fail
  go_ret
  exact ⟨rfl, HB.out⟩
theorem clen_nil (w : World) (g : Hnd) : Calls Try.prog 27 #[.pointer none, hkV g] w fun e w' => e = .returned (.tuple #[.int .i64 0, .int .i64 1]) ∧ Below w.heap.size w w' := by
  go_enter Try.func27, Try.ntmps27
  go_wp2_with fail
  refine (cheld_nil _ g).mono ?_
  rintro e W0 ⟨rfl, hb⟩
  have HB := hide ((below1 w _).trans (hb.mono (by simp)))
  clear hb
  go_wp2_with fail
  refine (rlen_nil _).mono ?_
  rintro e W1 ⟨rfl, hb⟩
  have HB := hide (HB.out.trans (hb.mono HB.out.size))
  clear hb
  go_wp2_with fail
  go_ret2
  exact ⟨rfl, HB.out⟩
theorem ccap_nil (w : World) (g : Hnd) : Calls Try.prog 28 #[.pointer none, hkV g] w fun e w' => e = .returned (.tuple #[.int .i64 0, .int .i64 1]) ∧ Below w.heap.size w w' := by
  go_enter Try.func28, Try.ntmps28
  go_wp2_with fail
  refine (cheld_nil _ g).mono ?_
  rintro e W0 ⟨rfl, hb⟩
  have HB := hide ((below1 w _).trans (hb.mono (by simp)))
  clear hb
  go_wp2_with fail
  refine (rcap_nil _).mono ?_
  rintro e W1 ⟨rfl, hb⟩
  have HB := hide (HB.out.trans (hb.mono HB.out.size))
  clear hb
  go_wp2_with fail
  go_ret2
  exact ⟨rfl, HB.out⟩

theorem res_cclose_nil (tm : Array Value) (A : Nat) (Z : World) (q : Int) (h2 : tm[4]?.getD undef = .pointer (some ⟨A, 0, none⟩)) (h3 : tm[5]?.getD undef = .int .i64 q) (c0 : Z.cell? ⟨A, 0, none⟩ = some (.int .i64 0)) (c1 : Z.cell? ⟨A, 1, none⟩ = some (.int .i64 0)) (c2 : Z.cell? ⟨A, 2, none⟩ = some (.int .u32 0)) (c3 : Z.cell? ⟨A, 3, none⟩ = some (.int .u32 0)) (c4 : Z.cell? ⟨A, 4, none⟩ = some (.bool false)) (c5 : Z.cell? ⟨A, 5, none⟩ = some (.slice none 0 0)) :
    (results Try.f26 tm).run Try.prog Z = .ok (.tuple #[didV 0 zVa false (.slice none 0 0), .int .i64 q]) Z := by
  simp [results, Try.f26, h2, h3, go_sem, c0, c1, c2, c3, c4, c5, zVa]

set_option maxRecDepth 100000 in
set_option maxHeartbeats 8000000 in
theorem cclose_nil (w : World) (g : Hnd) : Calls Try.prog 26 #[.pointer none, hkV g] w fun e w' => e = .returned (.tuple #[didV 0 zVa false (.slice none 0 0), .int .i64 1]) ∧ Below w.heap.size w w' := by
  obtain ⟨w1, hw1⟩ : ∃ w1, (w.alloc (.cells #[.int .u32 g.1, .int .u32 g.2] 43)).alloc (.cells #[.int .i64 0, .int .i64 0, .int .u32 0, .int .u32 0, .bool false, .slice none 0 0] 72) = w1 := ⟨_, rfl⟩
  have hB1 : Below w.heap.size w w1 := by rw [← hw1]; exact ((below1 w _).trans ((below1 _ _).mono (by simp; try omega)))
  have hz1 : (w.alloc (.cells #[.int .u32 g.1, .int .u32 g.2] 43)).heap.size = w.heap.size + 1 := by simp [World.size_alloc]
  have hn1 : w1.heap[w.heap.size + 1]? = some (.cells #[.int .i64 0, .int .i64 0, .int .u32 0, .int .u32 0, .bool false, .slice none 0 0] 72 (0, 0)) := by
    rw [← hw1, ← hz1]
    exact heap_new _ _
  have HB := hide hB1
  have HN := hide hn1
  clear hB1 hz1
  have z0 : w1.cell? ⟨w.heap.size + 1, 0, none⟩ = some (.int .i64 0) := by simp [Lib.cell_of_heap hn1]
  have z1 : w1.cell? ⟨w.heap.size + 1, 1, none⟩ = some (.int .i64 0) := by simp [Lib.cell_of_heap hn1]
  have z2 : w1.cell? ⟨w.heap.size + 1, 2, none⟩ = some (.int .u32 0) := by simp [Lib.cell_of_heap hn1]
  have z3 : w1.cell? ⟨w.heap.size + 1, 3, none⟩ = some (.int .u32 0) := by simp [Lib.cell_of_heap hn1]
  have z4 : w1.cell? ⟨w.heap.size + 1, 4, none⟩ = some (.bool false) := by simp [Lib.cell_of_heap hn1]
  have z5 : w1.cell? ⟨w.heap.size + 1, 5, none⟩ = some (.slice none 0 0) := by simp [Lib.cell_of_heap hn1]
  have zf : ∀ j, w1.frozen? ⟨w.heap.size + 1, j, none⟩ = false := frz hn1
  go_enter Try.func26, Try.ntmps26
  go_wp2_with fail
  refine bodyPost_ret (v := .tuple #[didV 0 zVa false (.slice none 0 0), .int .i64 1]) (res_cclose_nil _ (w.heap.size + 1) _ 1 rfl rfl (by simp [go_sem, z0]) (by simp [go_sem, z1]) (by simp [go_sem, z2]) (by simp [go_sem, z3]) (by simp [go_sem, z4]) (by simp [go_sem, z5])) rfl ⟨rfl, ?_⟩
  have c : Ch (fun y => y = w.heap.size + 1) w1 _ := wrsA w1 (w.heap.size + 1) [.int .i64 0, .int .i64 0, .int .u32 0, .int .u32 0, .bool false, .slice none 0 0]
  exact HB.out.trans (Ch.below c (N := w.heap.size) HB.out.size (fun y hy e => by omega))

theorem res_csend_nil (tm : Array Value) (A : Nat) (Z : World) (q : Int) (h2 : tm[8]?.getD undef = .pointer (some ⟨A, 0, none⟩)) (h3 : tm[9]?.getD undef = .int .i64 q) (c0 : Z.cell? ⟨A, 0, none⟩ = some (.int .i64 0)) (c1 : Z.cell? ⟨A, 1, none⟩ = some (.int .i64 0)) (c2 : Z.cell? ⟨A, 2, none⟩ = some (.int .u32 0)) (c3 : Z.cell? ⟨A, 3, none⟩ = some (.int .u32 0)) (c4 : Z.cell? ⟨A, 4, none⟩ = some (.bool false)) (c5 : Z.cell? ⟨A, 5, none⟩ = some (.slice none 0 0)) :
    (results Try.f25 tm).run Try.prog Z = .ok (.tuple #[didV 0 zVa false (.slice none 0 0), .int .i64 q]) Z := by
  simp [results, Try.f25, h2, h3, go_sem, c0, c1, c2, c3, c4, c5, zVa]

set_option maxRecDepth 100000 in
set_option maxHeartbeats 8000000 in
theorem csend_nil (w : World) (g h : Hnd) (v : Va) : Calls Try.prog 25 #[.pointer none, hkV g, hkV h, vaV v] w fun e w' => e = .returned (.tuple #[didV 0 zVa false (.slice none 0 0), .int .i64 1]) ∧ Below w.heap.size w w' := by
  obtain ⟨w1, hw1⟩ : ∃ w1, (((w.alloc (.cells #[.int .u32 g.1, .int .u32 g.2] 43)).alloc (.cells #[.int .u32 h.1, .int .u32 h.2] 43)).alloc (.cells #[.int .i64 v.n, .int .u32 v.s, .int .u32 v.g] 46)).alloc (.cells #[.int .i64 0, .int .i64 0, .int .u32 0, .int .u32 0, .bool false, .slice none 0 0] 72) = w1 := ⟨_, rfl⟩
  have hB1 : Below w.heap.size w w1 := by rw [← hw1]; exact ((((below1 w _).trans ((below1 _ _).mono (by simp; try omega))).trans ((below1 _ _).mono (by simp; try omega))).trans ((below1 _ _).mono (by simp; try omega)))
  have hz1 : (((w.alloc (.cells #[.int .u32 g.1, .int .u32 g.2] 43)).alloc (.cells #[.int .u32 h.1, .int .u32 h.2] 43)).alloc (.cells #[.int .i64 v.n, .int .u32 v.s, .int .u32 v.g] 46)).heap.size = w.heap.size + 3 := by simp [World.size_alloc]
  have hn1 : w1.heap[w.heap.size + 3]? = some (.cells #[.int .i64 0, .int .i64 0, .int .u32 0, .int .u32 0, .bool false, .slice none 0 0] 72 (0, 0)) := by
    rw [← hw1, ← hz1]
    exact heap_new _ _
  have g0 : w1.heap[w.heap.size]? = some (.cells #[.int .u32 g.1, .int .u32 g.2] 43 (0, 0)) := by
    rw [← hw1]
    exact ((Ch.alloc (Q := fun _ => False) _ _).box (((Ch.alloc (Q := fun _ => False) _ _).box (((Ch.alloc (Q := fun _ => False) _ _).box (heap_new _ _) (fun h => h))) (fun h => h))) (fun h => h))
  have x00 : w1.cell? ⟨w.heap.size, 0, none⟩ = some (.int .u32 g.1) := by simp [Lib.cell_of_heap g0]
  have x01 : w1.cell? ⟨w.heap.size, 1, none⟩ = some (.int .u32 g.2) := by simp [Lib.cell_of_heap g0]
  have g1 : w1.heap[w.heap.size + 1]? = some (.cells #[.int .u32 h.1, .int .u32 h.2] 43 (0, 0)) := by
    have hz : (w.alloc (.cells #[.int .u32 g.1, .int .u32 g.2] 43)).heap.size = w.heap.size + 1 := by simp [World.size_alloc]
    rw [← hw1, ← hz]
    exact ((Ch.alloc (Q := fun _ => False) _ _).box (((Ch.alloc (Q := fun _ => False) _ _).box (heap_new _ _) (fun h => h))) (fun h => h))
  have x10 : w1.cell? ⟨w.heap.size + 1, 0, none⟩ = some (.int .u32 h.1) := by simp [Lib.cell_of_heap g1]
  have x11 : w1.cell? ⟨w.heap.size + 1, 1, none⟩ = some (.int .u32 h.2) := by simp [Lib.cell_of_heap g1]
  have g2 : w1.heap[w.heap.size + 2]? = some (.cells #[.int .i64 v.n, .int .u32 v.s, .int .u32 v.g] 46 (0, 0)) := by
    have hz : ((w.alloc (.cells #[.int .u32 g.1, .int .u32 g.2] 43)).alloc (.cells #[.int .u32 h.1, .int .u32 h.2] 43)).heap.size = w.heap.size + 2 := by simp [World.size_alloc]
    rw [← hw1, ← hz]
    exact ((Ch.alloc (Q := fun _ => False) _ _).box (heap_new _ _) (fun h => h))
  have x20 : w1.cell? ⟨w.heap.size + 2, 0, none⟩ = some (.int .i64 v.n) := by simp [Lib.cell_of_heap g2]
  have x21 : w1.cell? ⟨w.heap.size + 2, 1, none⟩ = some (.int .u32 v.s) := by simp [Lib.cell_of_heap g2]
  have x22 : w1.cell? ⟨w.heap.size + 2, 2, none⟩ = some (.int .u32 v.g) := by simp [Lib.cell_of_heap g2]
  have HB := hide hB1
  have HN := hide hn1
  clear hB1 hz1
  clear hn1
  go_enter Try.func25, Try.ntmps25
  go_wp2_with fail
  refine (crefuse_nil w1 g h).mono ?_
  rintro e W2 ⟨rfl, h2⟩
  have H2 := hide (HB.out.trans (h2.mono HB.out.size))
  have n2 := (Ch.of_below (Q := fun _ => False) h2).box HN.out (fun h => h)
  have z0 : W2.cell? ⟨w.heap.size + 3, 0, none⟩ = some (.int .i64 0) := by simp [Lib.cell_of_heap n2]
  have z1 : W2.cell? ⟨w.heap.size + 3, 1, none⟩ = some (.int .i64 0) := by simp [Lib.cell_of_heap n2]
  have z2 : W2.cell? ⟨w.heap.size + 3, 2, none⟩ = some (.int .u32 0) := by simp [Lib.cell_of_heap n2]
  have z3 : W2.cell? ⟨w.heap.size + 3, 3, none⟩ = some (.int .u32 0) := by simp [Lib.cell_of_heap n2]
  have z4 : W2.cell? ⟨w.heap.size + 3, 4, none⟩ = some (.bool false) := by simp [Lib.cell_of_heap n2]
  have z5 : W2.cell? ⟨w.heap.size + 3, 5, none⟩ = some (.slice none 0 0) := by simp [Lib.cell_of_heap n2]
  have zf : ∀ j, W2.frozen? ⟨w.heap.size + 3, j, none⟩ = false := frz n2
  clear h2 hw1
  go_wp2_with fail
  refine bodyPost_ret (v := .tuple #[didV 0 zVa false (.slice none 0 0), .int .i64 1]) (res_csend_nil _ (w.heap.size + 3) _ 1 rfl rfl (by simp [go_sem, z0]) (by simp [go_sem, z1]) (by simp [go_sem, z2]) (by simp [go_sem, z3]) (by simp [go_sem, z4]) (by simp [go_sem, z5])) rfl ⟨rfl, ?_⟩
  have c : Ch (fun y => y = w.heap.size + 3) W2 _ := wrsA W2 (w.heap.size + 3) [.int .i64 0, .int .i64 0, .int .u32 0, .int .u32 0, .bool false, .slice none 0 0]
  exact H2.out.trans (Ch.below c (N := w.heap.size) H2.out.size (fun y hy e => by omega))

theorem res_crecv_nil (tm : Array Value) (A : Nat) (Z : World) (q : Int) (h2 : tm[6]?.getD undef = .pointer (some ⟨A, 0, none⟩)) (h3 : tm[7]?.getD undef = .int .i64 q) (c0 : Z.cell? ⟨A, 0, none⟩ = some (.int .i64 0)) (c1 : Z.cell? ⟨A, 1, none⟩ = some (.int .i64 0)) (c2 : Z.cell? ⟨A, 2, none⟩ = some (.int .u32 0)) (c3 : Z.cell? ⟨A, 3, none⟩ = some (.int .u32 0)) (c4 : Z.cell? ⟨A, 4, none⟩ = some (.bool false)) (c5 : Z.cell? ⟨A, 5, none⟩ = some (.slice none 0 0)) :
    (results Try.f21 tm).run Try.prog Z = .ok (.tuple #[didV 0 zVa false (.slice none 0 0), .int .i64 q]) Z := by
  simp [results, Try.f21, h2, h3, go_sem, c0, c1, c2, c3, c4, c5, zVa]

set_option maxRecDepth 100000 in
set_option maxHeartbeats 8000000 in
theorem crecv_nil (w : World) (g h : Hnd) : Calls Try.prog 21 #[.pointer none, hkV g, hkV h] w fun e w' => e = .returned (.tuple #[didV 0 zVa false (.slice none 0 0), .int .i64 1]) ∧ Below w.heap.size w w' := by
  obtain ⟨w1, hw1⟩ : ∃ w1, ((w.alloc (.cells #[.int .u32 g.1, .int .u32 g.2] 43)).alloc (.cells #[.int .u32 h.1, .int .u32 h.2] 43)).alloc (.cells #[.int .i64 0, .int .i64 0, .int .u32 0, .int .u32 0, .bool false, .slice none 0 0] 72) = w1 := ⟨_, rfl⟩
  have hB1 : Below w.heap.size w w1 := by rw [← hw1]; exact (((below1 w _).trans ((below1 _ _).mono (by simp; try omega))).trans ((below1 _ _).mono (by simp; try omega)))
  have hz1 : ((w.alloc (.cells #[.int .u32 g.1, .int .u32 g.2] 43)).alloc (.cells #[.int .u32 h.1, .int .u32 h.2] 43)).heap.size = w.heap.size + 2 := by simp [World.size_alloc]
  have hn1 : w1.heap[w.heap.size + 2]? = some (.cells #[.int .i64 0, .int .i64 0, .int .u32 0, .int .u32 0, .bool false, .slice none 0 0] 72 (0, 0)) := by
    rw [← hw1, ← hz1]
    exact heap_new _ _
  have g0 : w1.heap[w.heap.size]? = some (.cells #[.int .u32 g.1, .int .u32 g.2] 43 (0, 0)) := by
    rw [← hw1]
    exact ((Ch.alloc (Q := fun _ => False) _ _).box (((Ch.alloc (Q := fun _ => False) _ _).box (heap_new _ _) (fun h => h))) (fun h => h))
  have x00 : w1.cell? ⟨w.heap.size, 0, none⟩ = some (.int .u32 g.1) := by simp [Lib.cell_of_heap g0]
  have x01 : w1.cell? ⟨w.heap.size, 1, none⟩ = some (.int .u32 g.2) := by simp [Lib.cell_of_heap g0]
  have g1 : w1.heap[w.heap.size + 1]? = some (.cells #[.int .u32 h.1, .int .u32 h.2] 43 (0, 0)) := by
    have hz : (w.alloc (.cells #[.int .u32 g.1, .int .u32 g.2] 43)).heap.size = w.heap.size + 1 := by simp [World.size_alloc]
    rw [← hw1, ← hz]
    exact ((Ch.alloc (Q := fun _ => False) _ _).box (heap_new _ _) (fun h => h))
  have x10 : w1.cell? ⟨w.heap.size + 1, 0, none⟩ = some (.int .u32 h.1) := by simp [Lib.cell_of_heap g1]
  have x11 : w1.cell? ⟨w.heap.size + 1, 1, none⟩ = some (.int .u32 h.2) := by simp [Lib.cell_of_heap g1]
  have HB := hide hB1
  have HN := hide hn1
  clear hB1 hz1
  clear hn1
  go_enter Try.func21, Try.ntmps21
  go_wp2_with fail
  refine (crefuse_nil w1 g h).mono ?_
  rintro e W2 ⟨rfl, h2⟩
  have H2 := hide (HB.out.trans (h2.mono HB.out.size))
  have n2 := (Ch.of_below (Q := fun _ => False) h2).box HN.out (fun h => h)
  have z0 : W2.cell? ⟨w.heap.size + 2, 0, none⟩ = some (.int .i64 0) := by simp [Lib.cell_of_heap n2]
  have z1 : W2.cell? ⟨w.heap.size + 2, 1, none⟩ = some (.int .i64 0) := by simp [Lib.cell_of_heap n2]
  have z2 : W2.cell? ⟨w.heap.size + 2, 2, none⟩ = some (.int .u32 0) := by simp [Lib.cell_of_heap n2]
  have z3 : W2.cell? ⟨w.heap.size + 2, 3, none⟩ = some (.int .u32 0) := by simp [Lib.cell_of_heap n2]
  have z4 : W2.cell? ⟨w.heap.size + 2, 4, none⟩ = some (.bool false) := by simp [Lib.cell_of_heap n2]
  have z5 : W2.cell? ⟨w.heap.size + 2, 5, none⟩ = some (.slice none 0 0) := by simp [Lib.cell_of_heap n2]
  have zf : ∀ j, W2.frozen? ⟨w.heap.size + 2, j, none⟩ = false := frz n2
  clear h2 hw1
  go_wp2_with fail
  refine bodyPost_ret (v := .tuple #[didV 0 zVa false (.slice none 0 0), .int .i64 1]) (res_crecv_nil _ (w.heap.size + 2) _ 1 rfl rfl (by simp [go_sem, z0]) (by simp [go_sem, z1]) (by simp [go_sem, z2]) (by simp [go_sem, z3]) (by simp [go_sem, z4]) (by simp [go_sem, z5])) rfl ⟨rfl, ?_⟩
  have c : Ch (fun y => y = w.heap.size + 2) W2 _ := wrsA W2 (w.heap.size + 2) [.int .i64 0, .int .i64 0, .int .u32 0, .int .u32 0, .bool false, .slice none 0 0]
  exact H2.out.trans (Ch.below c (N := w.heap.size) H2.out.size (fun y hy e => by omega))

end Go.Proofs.Ytbblmbbpicinlaa

namespace Go.Proofs.Ytbblmbbpicinlaa
open Go.RowKit

/-- what 'held' answers: a ring, or none, and why -/
def hpE (cs : List Cn) (x : Hnd) : Option Nat × Int := if nnH x then (none, 0) else match fnc cs x with | none => (none, 141) | some y => (some y.rp, 0)

def lnE (cs : List Cn) (x : Hnd) : Int := if nnH x then 0 else match fnc cs x with | none => 0 | some y => (y.xs.length : Int)
def cpE (cs : List Cn) (x : Hnd) : Int := if nnH x then 0 else match fnc cs x with | none => 0 | some y => (y.n : Int)

set_option maxRecDepth 100000 in
theorem held_cis {w : World} {B c bp M : Nat} {F : Nat → Prop} {l : List Wt} {cs : List Cn} (h : CI w B c bp M F l cs) (x : Hnd) : Calls Try.prog 71 #[.pointer (some ⟨c, 0, none⟩), hkV x] w fun e w' => e = .returned (.tuple #[.pointer ((hpE cs x).1.map fun r => ⟨r, 0, none⟩), .int .i64 (hpE cs x).2]) ∧ Below w.heap.size w w' := by
  obtain ⟨w1, hw1⟩ : ∃ w1, w.alloc (.cells #[.int .u32 x.1, .int .u32 x.2] 43) = w1 := ⟨_, rfl⟩
  have hb1 : Below w.heap.size w w1 := by rw [← hw1]; exact below1 _ _
  have hn : w1.heap[w.heap.size]? = some (.cells #[.int .u32 x.1, .int .u32 x.2] 43 (0, 0)) := by rw [← hw1]; exact heap_new _ _
  have hx0 : w1.cell? ⟨w.heap.size, 0, none⟩ = some (.int .u32 x.1) := by simp [Lib.cell_of_heap hn]
  have hx1 : w1.cell? ⟨w.heap.size, 1, none⟩ = some (.int .u32 x.2) := by simp [Lib.cell_of_heap hn]
  have HN := hide hn
  have HB := hide hb1
  have H := hide (h.quiet (Ch.of_below hb1))
  clear h hb1 hn
  go_enter Try.func71, Try.ntmps71
  go_wp2_with fail
  clear hw1
  refine (isNone_is w1 x.1 x.2).mono ?_
  rintro e w2 ⟨rfl, h2⟩
  have c2 := Ch.of_below (Q := fun _ => False) h2
  have HB2 := hide (HB.out.trans (h2.mono HB.out.size))
  have H2 := hide (H.out.quiet c2)
  have hn2 := c2.box HN.out (fun h => h)
  clear h2 c2 hx0 hx1
  have hy0 : w2.cell? ⟨w.heap.size, 0, none⟩ = some (.int .u32 x.1) := by simp [Lib.cell_of_heap hn2]
  have hy1 : w2.cell? ⟨w.heap.size, 1, none⟩ = some (.int .u32 x.2) := by simp [Lib.cell_of_heap hn2]
  have hnn : nnH x = (decide (x.1 = 0) && decide (x.2 = 0)) := rfl
  rw [← hnn]
  clear hn2 hnn
  cases hx : nnH x
  · have HX := hide hx
    clear hx
    go_wp2_with fail
    refine (at_cis H2.out x).mono ?_
    rintro e w3 ⟨rfl, h3⟩
    have c3 := Ch.of_below (Q := fun _ => False) h3
    have HB3 := hide (HB2.out.trans (h3.mono HB2.out.size))
    have H3 := hide (H2.out.quiet c3)
    clear h3 c3 hy0 hy1
    cases hf : fnc cs x with
    | none =>
      have HF := hide hf
      clear hf
      rw [show cpV none = Value.pointer none from rfl]
      go_wp2_with fail
      go_ret2
      exact ⟨by simp [hpE, HX.out, HF.out], HB3.out⟩
    | some y =>
      have HF := hide hf
      obtain ⟨k0, k1, k2, k3, k4⟩ := (H3.out.ch y (fnc_some hf).1).cells
      clear hf
      rw [show cpV (some y) = Value.pointer (some ⟨y.cb, 0, none⟩) from rfl]
      go_wp2_with fail
      go_ret2
      exact ⟨by simp [hpE, HX.out, HF.out], HB3.out⟩
  · have HX := hide hx
    clear hx
    go_wp2_with fail
    go_ret2
    exact ⟨by simp [hpE, HX.out], HB2.out⟩

set_option maxRecDepth 100000 in
theorem lenC_is {w : World} {B c bp M : Nat} {F : Nat → Prop} {l : List Wt} {cs : List Cn} (h : CI w B c bp M F l cs) (x : Hnd) : Calls Try.prog 27 #[.pointer (some ⟨c, 0, none⟩), hkV x] w fun e w' => e = .returned (.tuple #[.int .i64 (lnE cs x), .int .i64 (hpE cs x).2]) ∧ Below w.heap.size w w' := by
  obtain ⟨w1, hw1⟩ : ∃ w1, w.alloc (.cells #[.int .u32 x.1, .int .u32 x.2] 43) = w1 := ⟨_, rfl⟩
  have hb1 : Below w.heap.size w w1 := by rw [← hw1]; exact below1 _ _
  have hn : w1.heap[w.heap.size]? = some (.cells #[.int .u32 x.1, .int .u32 x.2] 43 (0, 0)) := by rw [← hw1]; exact heap_new _ _
  have hx0 : w1.cell? ⟨w.heap.size, 0, none⟩ = some (.int .u32 x.1) := by simp [Lib.cell_of_heap hn]
  have hx1 : w1.cell? ⟨w.heap.size, 1, none⟩ = some (.int .u32 x.2) := by simp [Lib.cell_of_heap hn]
  have HB := hide hb1
  have H := hide (h.quiet (Ch.of_below hb1))
  clear h hb1 hn
  go_enter Try.func27, Try.ntmps27
  go_wp2_with fail
  clear hw1
  refine (held_cis H.out x).mono ?_
  rintro e w2 ⟨rfl, h2⟩
  have HB2 := hide (HB.out.trans (h2.mono HB.out.size))
  have H2 := hide (H.out.quiet (Ch.of_below h2))
  clear h2 hx0 hx1
  cases hx : nnH x
  · cases hf : fnc cs x with
    | none =>
      have e1 : hpE cs x = (none, 141) := by simp [hpE, hx, hf]
      rw [e1]
      have E1 := hide e1
      have E2 := hide hx
      have E3 := hide hf
      clear e1 hx hf
      go_wp2_with fail
      refine (rlen_nil w2).mono ?_
      rintro e w3 ⟨rfl, h3⟩
      have HB3 := hide (HB2.out.trans (h3.mono HB2.out.size))
      clear h3
      go_wp2_with fail
      go_ret2
      exact ⟨by simp [lnE, E1.out, E2.out, E3.out], HB3.out⟩
    | some y =>
      have e1 : hpE cs x = (some y.rp, 0) := by simp [hpE, hx, hf]
      rw [e1]
      have HG := hide (H2.out.ch y (fnc_some hf).1).ring
      have E1 := hide e1
      have E2 := hide hx
      have E3 := hide hf
      clear e1 hx hf
      go_wp2_with fail
      refine (lenV_is HG.out).mono ?_
      rintro e w3 ⟨rfl, rfl⟩
      go_wp2_with fail
      go_ret2
      exact ⟨by simp [lnE, E1.out, E2.out, E3.out], HB2.out⟩
  · have e1 : hpE cs x = (none, 0) := by simp [hpE, hx]
    rw [e1]
    have E1 := hide e1
    have E2 := hide hx
    clear e1 hx
    go_wp2_with fail
    refine (rlen_nil w2).mono ?_
    rintro e w3 ⟨rfl, h3⟩
    have HB3 := hide (HB2.out.trans (h3.mono HB2.out.size))
    clear h3
    go_wp2_with fail
    go_ret2
    exact ⟨by simp [lnE, E1.out, E2.out], HB3.out⟩

set_option maxRecDepth 100000 in
theorem capC_is {w : World} {B c bp M : Nat} {F : Nat → Prop} {l : List Wt} {cs : List Cn} (h : CI w B c bp M F l cs) (x : Hnd) : Calls Try.prog 28 #[.pointer (some ⟨c, 0, none⟩), hkV x] w fun e w' => e = .returned (.tuple #[.int .i64 (cpE cs x), .int .i64 (hpE cs x).2]) ∧ Below w.heap.size w w' := by
  obtain ⟨w1, hw1⟩ : ∃ w1, w.alloc (.cells #[.int .u32 x.1, .int .u32 x.2] 43) = w1 := ⟨_, rfl⟩
  have hb1 : Below w.heap.size w w1 := by rw [← hw1]; exact below1 _ _
  have hn : w1.heap[w.heap.size]? = some (.cells #[.int .u32 x.1, .int .u32 x.2] 43 (0, 0)) := by rw [← hw1]; exact heap_new _ _
  have hx0 : w1.cell? ⟨w.heap.size, 0, none⟩ = some (.int .u32 x.1) := by simp [Lib.cell_of_heap hn]
  have hx1 : w1.cell? ⟨w.heap.size, 1, none⟩ = some (.int .u32 x.2) := by simp [Lib.cell_of_heap hn]
  have HB := hide hb1
  have H := hide (h.quiet (Ch.of_below hb1))
  clear h hb1 hn
  go_enter Try.func28, Try.ntmps28
  go_wp2_with fail
  clear hw1
  refine (held_cis H.out x).mono ?_
  rintro e w2 ⟨rfl, h2⟩
  have HB2 := hide (HB.out.trans (h2.mono HB.out.size))
  have H2 := hide (H.out.quiet (Ch.of_below h2))
  clear h2 hx0 hx1
  cases hx : nnH x
  · cases hf : fnc cs x with
    | none =>
      have e1 : hpE cs x = (none, 141) := by simp [hpE, hx, hf]
      rw [e1]
      have E1 := hide e1
      have E2 := hide hx
      have E3 := hide hf
      clear e1 hx hf
      go_wp2_with fail
      refine (rcap_nil w2).mono ?_
      rintro e w3 ⟨rfl, h3⟩
      have HB3 := hide (HB2.out.trans (h3.mono HB2.out.size))
      clear h3
      go_wp2_with fail
      go_ret2
      exact ⟨by simp [cpE, E1.out, E2.out, E3.out], HB3.out⟩
    | some y =>
      have e1 : hpE cs x = (some y.rp, 0) := by simp [hpE, hx, hf]
      rw [e1]
      have HG := hide (H2.out.ch y (fnc_some hf).1).ring
      have E1 := hide e1
      have E2 := hide hx
      have E3 := hide hf
      clear e1 hx hf
      go_wp2_with fail
      refine (capV_is HG.out).mono ?_
      rintro e w3 ⟨rfl, rfl⟩
      go_wp2_with fail
      go_ret2
      exact ⟨by simp [cpE, E1.out, E2.out, E3.out], HB2.out⟩
  · have e1 : hpE cs x = (none, 0) := by simp [hpE, hx]
    rw [e1]
    have E1 := hide e1
    have E2 := hide hx
    clear e1 hx
    go_wp2_with fail
    refine (rcap_nil w2).mono ?_
    rintro e w3 ⟨rfl, h3⟩
    have HB3 := hide (HB2.out.trans (h3.mono HB2.out.size))
    clear h3
    go_wp2_with fail
    go_ret2
    exact ⟨by simp [cpE, E1.out, E2.out], HB3.out⟩

end Go.Proofs.Ytbblmbbpicinlaa

namespace Go.Proofs.Ytbblmbbpicinlaa
open Go.RowKit

theorem res_send_closed (tm : Array Value) (A : Nat) (Z : World) (h2 : tm[6]?.getD undef = .pointer (some ⟨A, 0, none⟩)) (c0 : Z.cell? ⟨A, 0, none⟩ = some (.int .i64 12)) (c1 : Z.cell? ⟨A, 1, none⟩ = some (.int .i64 0)) (c2 : Z.cell? ⟨A, 2, none⟩ = some (.int .u32 0)) (c3 : Z.cell? ⟨A, 3, none⟩ = some (.int .u32 0)) (c4 : Z.cell? ⟨A, 4, none⟩ = some (.bool false)) (c5 : Z.cell? ⟨A, 5, none⟩ = some (.slice none 0 0)) :
    (results Try.f69 tm).run Try.prog Z = .ok (didV 12 zVa false (.slice none 0 0)) Z := by
  simp [results, Try.f69, h2, go_sem, c0, c1, c2, c3, c4, c5, zVa]

set_option maxRecDepth 100000 in
set_option maxHeartbeats 8000000 in
theorem send_closed {w : World} {B c bp M : Nat} {F : Nat → Prop} {l : List Wt} {cs : List Cn} (h : CI w B c bp M F l cs) {x : Cn} (hin : x ∈ cs) (hcl : x.cl = true) (g : Hnd) (v : Va) : Calls Try.prog 69 #[.pointer (some ⟨x.cb, 0, none⟩), hkV g, vaV v] w fun e w' => e = .returned (didV 12 zVa false (.slice none 0 0)) ∧ Below w.heap.size w w' := by
  obtain ⟨w1, hw1⟩ : ∃ w1, ((w.alloc (.cells #[.int .u32 g.1, .int .u32 g.2] 43)).alloc (.cells #[.int .i64 v.n, .int .u32 v.s, .int .u32 v.g] 46)).alloc (.cells #[.int .i64 0, .int .i64 0, .int .u32 0, .int .u32 0, .bool false, .slice none 0 0] 72) = w1 := ⟨_, rfl⟩
  have hB1 : Below w.heap.size w w1 := by rw [← hw1]; exact (((below1 w _).trans ((below1 _ _).mono (by simp; try omega))).trans ((below1 _ _).mono (by simp; try omega)))
  have hz1 : ((w.alloc (.cells #[.int .u32 g.1, .int .u32 g.2] 43)).alloc (.cells #[.int .i64 v.n, .int .u32 v.s, .int .u32 v.g] 46)).heap.size = w.heap.size + 2 := by simp [World.size_alloc]
  have hn1 : w1.heap[w.heap.size + 2]? = some (.cells #[.int .i64 0, .int .i64 0, .int .u32 0, .int .u32 0, .bool false, .slice none 0 0] 72 (0, 0)) := by
    rw [← hw1, ← hz1]
    exact heap_new _ _
  have H := hide (h.quiet (Ch.of_below hB1))
  obtain ⟨k0, k1, k2, k3, k4⟩ := (H.out.ch x hin).cells
  rw [hcl] at k4
  have HB := hide hB1
  have z0 : w1.cell? ⟨w.heap.size + 2, 0, none⟩ = some (.int .i64 0) := by simp [Lib.cell_of_heap hn1]
  have z1 : w1.cell? ⟨w.heap.size + 2, 1, none⟩ = some (.int .i64 0) := by simp [Lib.cell_of_heap hn1]
  have z2 : w1.cell? ⟨w.heap.size + 2, 2, none⟩ = some (.int .u32 0) := by simp [Lib.cell_of_heap hn1]
  have z3 : w1.cell? ⟨w.heap.size + 2, 3, none⟩ = some (.int .u32 0) := by simp [Lib.cell_of_heap hn1]
  have z4 : w1.cell? ⟨w.heap.size + 2, 4, none⟩ = some (.bool false) := by simp [Lib.cell_of_heap hn1]
  have z5 : w1.cell? ⟨w.heap.size + 2, 5, none⟩ = some (.slice none 0 0) := by simp [Lib.cell_of_heap hn1]
  have zf : ∀ j, w1.frozen? ⟨w.heap.size + 2, j, none⟩ = false := frz hn1
  clear hB1 h hin hcl hn1 hz1
  go_enter Try.func69, Try.ntmps69
  go_wp2_with fail
  refine bodyPost_ret (v := didV 12 zVa false (.slice none 0 0)) (res_send_closed _ (w.heap.size + 2) _ rfl (by simp [go_sem, z0]) (by simp [go_sem, z1]) (by simp [go_sem, z2]) (by simp [go_sem, z3]) (by simp [go_sem, z4]) (by simp [go_sem, z5])) rfl ⟨rfl, ?_⟩
  have c : Ch (fun y => y = w.heap.size + 2) w1 _ := wrsA w1 (w.heap.size + 2) [.int .i64 12, .int .i64 0, .int .u32 0, .int .u32 0, .bool false, .slice none 0 0]
  exact HB.out.trans (Ch.below c (N := w.heap.size) HB.out.size (fun y hy e => by omega))

theorem res_close_closed (tm : Array Value) (A : Nat) (Z : World) (h2 : tm[2]?.getD undef = .pointer (some ⟨A, 0, none⟩)) (c0 : Z.cell? ⟨A, 0, none⟩ = some (.int .i64 13)) (c1 : Z.cell? ⟨A, 1, none⟩ = some (.int .i64 0)) (c2 : Z.cell? ⟨A, 2, none⟩ = some (.int .u32 0)) (c3 : Z.cell? ⟨A, 3, none⟩ = some (.int .u32 0)) (c4 : Z.cell? ⟨A, 4, none⟩ = some (.bool false)) (c5 : Z.cell? ⟨A, 5, none⟩ = some (.slice none 0 0)) :
    (results Try.f70 tm).run Try.prog Z = .ok (didV 13 zVa false (.slice none 0 0)) Z := by
  simp [results, Try.f70, h2, go_sem, c0, c1, c2, c3, c4, c5, zVa]

set_option maxRecDepth 100000 in
set_option maxHeartbeats 8000000 in
theorem close_closed {w : World} {B c bp M : Nat} {F : Nat → Prop} {l : List Wt} {cs : List Cn} (h : CI w B c bp M F l cs) {x : Cn} (hin : x ∈ cs) (hcl : x.cl = true) : Calls Try.prog 70 #[.pointer (some ⟨x.cb, 0, none⟩)] w fun e w' => e = .returned (didV 13 zVa false (.slice none 0 0)) ∧ Below w.heap.size w w' := by
  obtain ⟨w1, hw1⟩ : ∃ w1, w.alloc (.cells #[.int .i64 0, .int .i64 0, .int .u32 0, .int .u32 0, .bool false, .slice none 0 0] 72) = w1 := ⟨_, rfl⟩
  have hB1 : Below w.heap.size w w1 := by rw [← hw1]; exact (below1 w _)
  have hn1 : w1.heap[w.heap.size]? = some (.cells #[.int .i64 0, .int .i64 0, .int .u32 0, .int .u32 0, .bool false, .slice none 0 0] 72 (0, 0)) := by
    rw [← hw1]
    exact heap_new _ _
  have H := hide (h.quiet (Ch.of_below hB1))
  obtain ⟨k0, k1, k2, k3, k4⟩ := (H.out.ch x hin).cells
  rw [hcl] at k4
  have HB := hide hB1
  have z0 : w1.cell? ⟨w.heap.size, 0, none⟩ = some (.int .i64 0) := by simp [Lib.cell_of_heap hn1]
  have z1 : w1.cell? ⟨w.heap.size, 1, none⟩ = some (.int .i64 0) := by simp [Lib.cell_of_heap hn1]
  have z2 : w1.cell? ⟨w.heap.size, 2, none⟩ = some (.int .u32 0) := by simp [Lib.cell_of_heap hn1]
  have z3 : w1.cell? ⟨w.heap.size, 3, none⟩ = some (.int .u32 0) := by simp [Lib.cell_of_heap hn1]
  have z4 : w1.cell? ⟨w.heap.size, 4, none⟩ = some (.bool false) := by simp [Lib.cell_of_heap hn1]
  have z5 : w1.cell? ⟨w.heap.size, 5, none⟩ = some (.slice none 0 0) := by simp [Lib.cell_of_heap hn1]
  have zf : ∀ j, w1.frozen? ⟨w.heap.size, j, none⟩ = false := frz hn1
  clear hB1 h hin hcl hn1
  go_enter Try.func70, Try.ntmps70
  go_wp2_with fail
  refine bodyPost_ret (v := didV 13 zVa false (.slice none 0 0)) (res_close_closed _ (w.heap.size) _ rfl (by simp [go_sem, z0]) (by simp [go_sem, z1]) (by simp [go_sem, z2]) (by simp [go_sem, z3]) (by simp [go_sem, z4]) (by simp [go_sem, z5])) rfl ⟨rfl, ?_⟩
  have c : Ch (fun y => y = w.heap.size) w1 _ := wrsA w1 (w.heap.size) [.int .i64 13, .int .i64 0, .int .u32 0, .int .u32 0, .bool false, .slice none 0 0]
  exact HB.out.trans (Ch.below c (N := w.heap.size) HB.out.size (fun y hy e => by omega))

end Go.Proofs.Ytbblmbbpicinlaa

namespace Go.Proofs.Ytbblmbbpicinlaa
open Go.RowKit

theorem res_recv_done (tm : Array Value) (A : Nat) (Z : World) (h2 : tm[4]?.getD undef = .pointer (some ⟨A, 0, none⟩)) (c0 : Z.cell? ⟨A, 0, none⟩ = some (.int .i64 0)) (c1 : Z.cell? ⟨A, 1, none⟩ = some (.int .i64 0)) (c2 : Z.cell? ⟨A, 2, none⟩ = some (.int .u32 0)) (c3 : Z.cell? ⟨A, 3, none⟩ = some (.int .u32 0)) (c4 : Z.cell? ⟨A, 4, none⟩ = some (.bool false)) (c5 : Z.cell? ⟨A, 5, none⟩ = some (.slice none 0 0)) :
    (results Try.f66 tm).run Try.prog Z = .ok (didV 0 zVa false (.slice none 0 0)) Z := by
  simp [results, Try.f66, h2, go_sem, c0, c1, c2, c3, c4, c5, zVa]

set_option maxRecDepth 100000 in
set_option maxHeartbeats 8000000 in
theorem recv_done {w : World} {B c bp M : Nat} {F : Nat → Prop} {l : List Wt} {cs : List Cn} (h : CI w B c bp M F l cs) (hl : l.length ≤ 100000) {x : Cn} (hin : x ∈ cs) (u1 : UsW x.h.1) (u2 : UsW x.h.2) (hxs : x.xs = []) (hcl : x.cl = true) (hq : sel (inRow x.h.1 x.h.2 1) l = []) (g : Hnd) : Calls Try.prog 66 #[.pointer (some ⟨x.cb, 0, none⟩), hkV g] w fun e w' => e = .returned (didV 0 zVa false (.slice none 0 0)) ∧ Below w.heap.size w w' := by
  obtain ⟨w1, hw1⟩ : ∃ w1, (w.alloc (.cells #[.int .u32 g.1, .int .u32 g.2] 43)).alloc (.cells #[.int .i64 0, .int .i64 0, .int .u32 0, .int .u32 0, .bool false, .slice none 0 0] 72) = w1 := ⟨_, rfl⟩
  have hB1 : Below w.heap.size w w1 := by rw [← hw1]; exact (below1 _ _).trans ((below1 _ _).mono (by simp))
  have hn1 : w1.heap[w.heap.size + 1]? = some (.cells #[.int .i64 0, .int .i64 0, .int .u32 0, .int .u32 0, .bool false, .slice none 0 0] 72 (0, 0)) := by
    have hz1 : (w.alloc (.cells #[.int .u32 g.1, .int .u32 g.2] 43)).heap.size = w.heap.size + 1 := by simp [World.size_alloc]
    rw [← hw1, ← hz1]
    exact heap_new _ _
  have H := hide (h.quiet (Ch.of_below hB1))
  have HR := hide (show RgV w1 x.rp x.rg [] x.n x.f x.pl by have := (H.out.ch x hin).ring; rwa [hxs] at this)
  have HFI := hide (fun V (cV : Ch (fun _ => False) w1 V) => show Calls Try.prog 103 #[plV bp x.h.1 x.h.2, .int .i64 1] V fun e w' => e = .returned (.tuple #[rcV zRc, .bool false]) ∧ Below V.heap.size V w' from by
    have := pfirst_is (H.out.quiet cV).bk hl u1 u2 (show I64 1 by constructor <;> decide)
    rw [hq] at this
    exact this)
  have HX := hide (fun V (cV : Ch (fun _ => False) w1 V) => show V.cell? ⟨x.cb, 0, none⟩ = some (.pointer (some ⟨bp, 0, none⟩)) ∧ V.cell? ⟨x.cb, 1, none⟩ = some (.int .u32 x.h.1) ∧ V.cell? ⟨x.cb, 2, none⟩ = some (.int .u32 x.h.2) ∧ V.cell? ⟨x.cb, 3, none⟩ = some (.pointer (some ⟨x.rp, 0, none⟩)) ∧ V.cell? ⟨x.cb, 4, none⟩ = some (.bool true) from by
    have := ((H.out.quiet cV).ch x hin).cells
    rwa [hcl] at this)
  have BE := hide hB1
  have HN := hide hn1
  obtain ⟨k0, k1, k2, k3, k4⟩ := HX.out w1 (Ch.refl _ _)
  clear hB1 h hin hcl hn1 hxs hq u1 u2 hl
  go_enter Try.func66, Try.ntmps66
  go_wp2_with fail
  refine (takeV_no HR.out).mono ?_
  rintro e w2 ⟨rfl, hb⟩
  have C2 := hide (Ch.of_below (Q := fun _ => False) hb)
  have BE2 := hide (BE.out.trans (hb.mono BE.out.size))
  clear hb k0 k1 k2 k3 k4 hw1
  obtain ⟨w3, hw3⟩ : ∃ x, w2.alloc (.cells #[.int .i64 zVa.n, .int .u32 zVa.s, .int .u32 zVa.g] 46) = x := ⟨_, rfl⟩
  have C3 := hide (C2.out.trans (show Ch (fun _ => False) w2 w3 by rw [← hw3]; exact Ch.alloc _ _) (fun _ _ h => h))
  have BE3 := hide (BE2.out.trans ((show Ch (fun _ => False) w2 w3 by rw [← hw3]; exact Ch.alloc _ _).below (N := w.heap.size) BE2.out.size (fun _ _ h => h)))
  have k0 : (w2.alloc (.cells #[.int .i64 zVa.n, .int .u32 zVa.s, .int .u32 zVa.g] 46)).cell? ⟨x.cb, 0, none⟩ = some (.pointer (some ⟨bp, 0, none⟩)) := by rw [hw3]; exact (HX.out _ C3.out).1
  have k1 : (w2.alloc (.cells #[.int .i64 zVa.n, .int .u32 zVa.s, .int .u32 zVa.g] 46)).cell? ⟨x.cb, 1, none⟩ = some (.int .u32 x.h.1) := by rw [hw3]; exact (HX.out _ C3.out).2.1
  have k2 : (w2.alloc (.cells #[.int .i64 zVa.n, .int .u32 zVa.s, .int .u32 zVa.g] 46)).cell? ⟨x.cb, 2, none⟩ = some (.int .u32 x.h.2) := by rw [hw3]; exact (HX.out _ C3.out).2.2.1
  have H3 := hide hw3
  clear hw3
  go_wp2_with fail
  rw [H3.out]
  clear k0 k1 k2
  refine (HFI.out w3 C3.out).mono ?_
  rintro e w4 ⟨rfl, hb⟩
  have C4 := hide (C3.out.trans (Ch.of_below (Q := fun _ => False) hb) (fun _ _ h => h))
  have BE4 := hide (BE3.out.trans (hb.mono BE3.out.size))
  clear hb
  obtain ⟨w5, hw5⟩ : ∃ x, w4.alloc (.cells #[.int .u32 zRc.ms, .int .u32 zRc.mg, .int .u32 zRc.ws, .int .u32 zRc.wg, .int .u32 zRc.rs, .int .u32 zRc.rg, .int .i64 zRc.rd, .int .i64 zRc.ar, .int .i64 zRc.vn, .int .u32 zRc.vs, .int .u32 zRc.vg] 136) = x := ⟨_, rfl⟩
  have C5 := hide (C4.out.trans (show Ch (fun _ => False) w4 w5 by rw [← hw5]; exact Ch.alloc _ _) (fun _ _ h => h))
  have BE5 := hide (BE4.out.trans ((show Ch (fun _ => False) w4 w5 by rw [← hw5]; exact Ch.alloc _ _).below (N := w.heap.size) BE4.out.size (fun _ _ h => h)))
  have k4 : (w4.alloc (.cells #[.int .u32 zRc.ms, .int .u32 zRc.mg, .int .u32 zRc.ws, .int .u32 zRc.wg, .int .u32 zRc.rs, .int .u32 zRc.rg, .int .i64 zRc.rd, .int .i64 zRc.ar, .int .i64 zRc.vn, .int .u32 zRc.vs, .int .u32 zRc.vg] 136)).cell? ⟨x.cb, 4, none⟩ = some (.bool true) := by rw [hw5]; exact (HX.out _ C5.out).2.2.2.2
  have n5 := C5.out.box HN.out (fun h => h)
  have z0 : (w4.alloc (.cells #[.int .u32 zRc.ms, .int .u32 zRc.mg, .int .u32 zRc.ws, .int .u32 zRc.wg, .int .u32 zRc.rs, .int .u32 zRc.rg, .int .i64 zRc.rd, .int .i64 zRc.ar, .int .i64 zRc.vn, .int .u32 zRc.vs, .int .u32 zRc.vg] 136)).cell? ⟨w.heap.size + 1, 0, none⟩ = some (.int .i64 0) := by rw [hw5]; simp [Lib.cell_of_heap n5]
  have z1 : (w4.alloc (.cells #[.int .u32 zRc.ms, .int .u32 zRc.mg, .int .u32 zRc.ws, .int .u32 zRc.wg, .int .u32 zRc.rs, .int .u32 zRc.rg, .int .i64 zRc.rd, .int .i64 zRc.ar, .int .i64 zRc.vn, .int .u32 zRc.vs, .int .u32 zRc.vg] 136)).cell? ⟨w.heap.size + 1, 1, none⟩ = some (.int .i64 0) := by rw [hw5]; simp [Lib.cell_of_heap n5]
  have z2 : (w4.alloc (.cells #[.int .u32 zRc.ms, .int .u32 zRc.mg, .int .u32 zRc.ws, .int .u32 zRc.wg, .int .u32 zRc.rs, .int .u32 zRc.rg, .int .i64 zRc.rd, .int .i64 zRc.ar, .int .i64 zRc.vn, .int .u32 zRc.vs, .int .u32 zRc.vg] 136)).cell? ⟨w.heap.size + 1, 2, none⟩ = some (.int .u32 0) := by rw [hw5]; simp [Lib.cell_of_heap n5]
  have z3 : (w4.alloc (.cells #[.int .u32 zRc.ms, .int .u32 zRc.mg, .int .u32 zRc.ws, .int .u32 zRc.wg, .int .u32 zRc.rs, .int .u32 zRc.rg, .int .i64 zRc.rd, .int .i64 zRc.ar, .int .i64 zRc.vn, .int .u32 zRc.vs, .int .u32 zRc.vg] 136)).cell? ⟨w.heap.size + 1, 3, none⟩ = some (.int .u32 0) := by rw [hw5]; simp [Lib.cell_of_heap n5]
  have z4 : (w4.alloc (.cells #[.int .u32 zRc.ms, .int .u32 zRc.mg, .int .u32 zRc.ws, .int .u32 zRc.wg, .int .u32 zRc.rs, .int .u32 zRc.rg, .int .i64 zRc.rd, .int .i64 zRc.ar, .int .i64 zRc.vn, .int .u32 zRc.vs, .int .u32 zRc.vg] 136)).cell? ⟨w.heap.size + 1, 4, none⟩ = some (.bool false) := by rw [hw5]; simp [Lib.cell_of_heap n5]
  have z5 : (w4.alloc (.cells #[.int .u32 zRc.ms, .int .u32 zRc.mg, .int .u32 zRc.ws, .int .u32 zRc.wg, .int .u32 zRc.rs, .int .u32 zRc.rg, .int .i64 zRc.rd, .int .i64 zRc.ar, .int .i64 zRc.vn, .int .u32 zRc.vs, .int .u32 zRc.vg] 136)).cell? ⟨w.heap.size + 1, 5, none⟩ = some (.slice none 0 0) := by rw [hw5]; simp [Lib.cell_of_heap n5]
  have zf : ∀ j, (w4.alloc (.cells #[.int .u32 zRc.ms, .int .u32 zRc.mg, .int .u32 zRc.ws, .int .u32 zRc.wg, .int .u32 zRc.rs, .int .u32 zRc.rg, .int .i64 zRc.rd, .int .i64 zRc.ar, .int .i64 zRc.vn, .int .u32 zRc.vs, .int .u32 zRc.vg] 136)).frozen? ⟨w.heap.size + 1, j, none⟩ = false := by rw [hw5]; exact frz n5
  have H5 := hide hw5
  clear hw5 n5
  go_wp2_with fail
  refine bodyPost_ret (v := didV 0 zVa false (.slice none 0 0)) (res_recv_done _ (w.heap.size + 1) _ rfl (by simp [go_sem, z0]) (by simp [go_sem, z1]) (by simp [go_sem, z2]) (by simp [go_sem, z3]) (by simp [go_sem, z4]) (by simp [go_sem, z5])) rfl ⟨rfl, ?_⟩
  rw [H5.out]
  have c : Ch (fun y => y = w.heap.size + 1) w5 _ := wrsA w5 (w.heap.size + 1) [.int .i64 0, .int .i64 0, .int .u32 0, .int .u32 0, .bool false, .slice none 0 0]
  exact BE5.out.trans (Ch.below c (N := w.heap.size) BE5.out.size (fun y hy e => by omega))

end Go.Proofs.Ytbblmbbpicinlaa
