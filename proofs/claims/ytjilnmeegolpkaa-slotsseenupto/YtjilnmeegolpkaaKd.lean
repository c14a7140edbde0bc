/- Layer 10: SlotsSeen: its head, and the things that are taken first. -/
import Derived.Test.YtjilnmeegolpkaaKb
import Derived.Test.YtjilnmeegolpkaaHk
namespace Go.Proofs.Ytjilnmeegolpkaa
open Go.RowKit Go.Shelf

theorem wp_then {P : Program} {c : Code} {K : Act → World → Prop} {Q : Exit → Act → World → Prop} {a : Act} {w : World} (h : c.wp P (Exit.then K (fun _ _ _ => False)) a w) : c.wp P (Exit.then K Q) a w :=
  Code.wp_mono (fun e a w h => by cases e <;> first | exact h | exact (h : False).elim) h

/-- a code whose seventh piece is another -/
def tail6 : Code → Code → Code
  | .seq a (.seq b (.seq c (.seq d (.seq e (.seq f _))))), r => .seq a (.seq b (.seq c (.seq d (.seq e (.seq f r)))))
  | c, _ => c
def rest6 : Code → Code
  | .seq _ (.seq _ (.seq _ (.seq _ (.seq _ (.seq _ r))))) => r
  | c => c

/-- texts in memory -/
def StAt (w : World) (b o : Nat) (s : ByteArray) : Prop := w.cell? ⟨b, o, none⟩ = some (.string s)

theorem Tg.step {w0 W : World} {ss : List ByteArray} {la : Option Addr} {ov iv hv' : Value} {lc p g a8 a10 B i : Nat} {F : Nat → Prop} {xs : List Pa} {W' W5 : World} {hv2 : Value} {N b : Nat} {l : List (ThG Pa)} (h : Sn w0 (.slice la ss.length lc) ov iv p g a8 a10 B F W l hv' i) (ht : Tg W N ss xs) (hc : Ch F W W') (hxl : xs.length = i) (hb : Boxed W' b 3 (.int .i64 (i : Int))) (hx : i < ss.length) (o : Obj) (hg : (W'.alloc o).grownBy W5 hv'.ownBlock) (hN : N ≤ W.heap.size) (hh : HdRow W' B hv' (hsl i)) (h10 : Boxed W' a10 33 hv') :
    Tg (W5.setCell ⟨a10, 0, none⟩ hv2) (W5.setCell ⟨a10, 0, none⟩ hv2).heap.size ss (xs ++ [⟨ss[i], some ⟨b, 0, none⟩, 1, 1⟩]) := by
  subst hxl
  have t1 := ht.ch hc (fun b v _ hbx => h.nF hbx (by decide) (by decide))
  have c1 : Ch (fun x => hv'.ownBlock = some x) W' W5 := (Ch.alloc (Q := fun x => hv'.ownBlock = some x) W' o).trans (Ch.of_grown (Q := fun x => hv'.ownBlock = some x) hg (fun _ e => e)) (fun _ _ h => h)
  have nr : ∀ {y : Nat} {cs : Array Value} {T : TypeId} {r : Nat × Nat}, W'.heap[y]? = some (.cells cs T r) → T ≠ 39 → ¬ hv'.ownBlock = some y := fun hy hT e => by
    obtain ⟨_, _, cur, e2⟩ := own_in hh e
    exact blk_ne hy e2 hT rfl
  have t2 := t1.ch c1 (fun b v _ hbx => nr hbx (by decide))
  have h105 : Boxed W5 a10 33 hv' := c1.box h10 (nr h10 (by decide))
  have hb5 : Boxed W5 b 3 (.int .i64 (xs.length : Int)) := c1.box hb (nr hb (by decide))
  have c2 := Ch.set (Q := fun x => x = a10) W5 rfl 0 hv2
  have t3 := t2.ch c2 (fun b v _ hbx e => blk_ne hbx h105 (by decide) e)
  have hlt := hb5.lt
  have hs := hc.size
  have hs2 := c1.size
  refine (t3.mono ?_).snoc ?_ hx (c2.box hb5 (fun e => blk_ne hb5 h105 (by decide) e))
  · rw [size_set]
    omega
  · rw [size_set]
    exact hlt

set_option maxRecDepth 100000 in
set_option maxHeartbeats 4000000 in
theorem seen_head {w0 : World} {ss : List ByteArray} {la : Option Addr} {lc lb lo : Nat} {oa ia : Option Addr} {os : List Int} {ins : List ByteArray} {oc ic : Nat} (hlm : ss.length ≤ 9223372036854775807) (hla : 0 < ss.length → la = some ⟨lb, lo, none⟩ ∧ lb < w0.heap.size) (hst : ∀ i (h : i < ss.length), StAt w0 lb (lo + i * 1) ss[i]) {REST : Code} {Q : Exit → Act → World → Prop}
    (next : ∀ (u6 u7 u9 u11 u12 u13 u14 u15 u16 u17 u18 u19 u20 u21 u22 u23 u24 u25 u26 u27 u28 u29 u30 u31 u32 u33 u34 u35 u36 u37 u38 u39 u40 u41 u42 u43 u44 u45 u46 u47 u48 u49 u50 u51 u52 u53 u54 u55 u56 u57 u58 u59 u60 u61 u62 u63 u64 u65 u66 u67 u68 u69 u70 u71 u72 u73 u74 u75 u76 u77 u78 u79 u80 u81 u82 u83 u84 u85 u86 u87 u88 u89 u90 u91 u92 u93 u94 u95 u96 u97 u98 u99 u100 u101 u102 u103 u104 u105 u106 u107 u108 u109 u110 u111 u112 u113 u114 u115 u116 u117 u118 u119 u120 u121 u122 u123 u124 u125 u126 u127 u128 u129 u130 u131 u132 u133 u134 u135 u136 u137 u138 u139 u140 u141 u142 u143 u144 u145 u146 u147 u148 u149 u150 u151 u152 u153 u154 u155 u156 u157 u158 u159 u160 u161 u162 u163 u164 u165 u166 u167 u168 u169 u170 u171 u172 u173 u174 u175 u176 u177 u178 u179 u180 u181 u182 u183 u184 u185 u186 u187 u188 u189 u190 u191 u192 u193 u194 u195 u196 u197 u198 u199 u200 u201 u202 u203 u204 u205 u206 u207 u208 u209 u210 u211 u212 : Value) (W : World) (xs : List Pa) (hv' : Value) (p g a8 a10 B : Nat) (F : Nat → Prop), Sn w0 (.slice la ss.length lc) (.slice oa os.length oc) (.slice ia ins.length ic) p g a8 a10 B F W (row1 xs) hv' xs.length → Tg W W.heap.size ss xs → xs.length ≤ 100 → xs.length ≤ ss.length → REST.wp Try.prog Q { tmps := List.toArray ((.slice la ss.length lc) :: (.slice oa os.length oc) :: (.slice ia ins.length ic) :: (.pointer (some ⟨w0.heap.size, 0, none⟩)) :: (.pointer (some ⟨w0.heap.size + 1, 0, none⟩)) :: (.pointer (some ⟨w0.heap.size + 2, 0, none⟩)) :: u6 :: u7 :: (.pointer (some ⟨a8, 0, none⟩)) :: u9 :: (.pointer (some ⟨a10, 0, none⟩)) :: u11 :: u12 :: u13 :: u14 :: u15 :: u16 :: u17 :: u18 :: u19 :: u20 :: u21 :: u22 :: u23 :: u24 :: u25 :: u26 :: u27 :: u28 :: u29 :: u30 :: u31 :: u32 :: u33 :: u34 :: u35 :: u36 :: u37 :: u38 :: u39 :: u40 :: u41 :: u42 :: u43 :: u44 :: u45 :: u46 :: u47 :: u48 :: u49 :: u50 :: u51 :: u52 :: u53 :: u54 :: u55 :: u56 :: u57 :: u58 :: u59 :: u60 :: u61 :: u62 :: u63 :: u64 :: u65 :: u66 :: u67 :: u68 :: u69 :: u70 :: u71 :: u72 :: u73 :: u74 :: u75 :: u76 :: u77 :: u78 :: u79 :: u80 :: u81 :: u82 :: u83 :: u84 :: u85 :: u86 :: u87 :: u88 :: u89 :: u90 :: u91 :: u92 :: u93 :: u94 :: u95 :: u96 :: u97 :: u98 :: u99 :: u100 :: u101 :: u102 :: u103 :: u104 :: u105 :: u106 :: u107 :: u108 :: u109 :: u110 :: u111 :: u112 :: u113 :: u114 :: u115 :: u116 :: u117 :: u118 :: u119 :: u120 :: u121 :: u122 :: u123 :: u124 :: u125 :: u126 :: u127 :: u128 :: u129 :: u130 :: u131 :: u132 :: u133 :: u134 :: u135 :: u136 :: u137 :: u138 :: u139 :: u140 :: u141 :: u142 :: u143 :: u144 :: u145 :: u146 :: u147 :: u148 :: u149 :: u150 :: u151 :: u152 :: u153 :: u154 :: u155 :: u156 :: u157 :: u158 :: u159 :: u160 :: u161 :: u162 :: u163 :: u164 :: u165 :: u166 :: u167 :: u168 :: u169 :: u170 :: u171 :: u172 :: u173 :: u174 :: u175 :: u176 :: u177 :: u178 :: u179 :: u180 :: u181 :: u182 :: u183 :: u184 :: u185 :: u186 :: u187 :: u188 :: u189 :: u190 :: u191 :: u192 :: u193 :: u194 :: u195 :: u196 :: u197 :: u198 :: u199 :: u200 :: u201 :: u202 :: u203 :: u204 :: u205 :: u206 :: u207 :: u208 :: u209 :: u210 :: u211 :: u212 :: []), defers := [] } W) :
    (tail6 (Try.f5.body.getD .skip) REST).wp Try.prog Q { tmps := #[.slice la ss.length lc, .slice oa os.length oc, .slice ia ins.length ic, undef, undef, undef, undef, undef, undef, undef, undef, undef, undef, undef, undef, undef, undef, undef, undef, undef, undef, undef, undef, undef, undef, undef, undef, undef, undef, undef, undef, undef, undef, undef, undef, undef, undef, undef, undef, undef, undef, undef, undef, undef, undef, undef, undef, undef, undef, undef, undef, undef, undef, undef, undef, undef, undef, undef, undef, undef, undef, undef, undef, undef, undef, undef, undef, undef, undef, undef, undef, undef, undef, undef, undef, undef, undef, undef, undef, undef, undef, undef, undef, undef, undef, undef, undef, undef, undef, undef, undef, undef, undef, undef, undef, undef, undef, undef, undef, undef, undef, undef, undef, undef, undef, undef, undef, undef, undef, undef, undef, undef, undef, undef, undef, undef, undef, undef, undef, undef, undef, undef, undef, undef, undef, undef, undef, undef, undef, undef, undef, undef, undef, undef, undef, undef, undef, undef, undef, undef, undef, undef, undef, undef, undef, undef, undef, undef, undef, undef, undef, undef, undef, undef, undef, undef, undef, undef, undef, undef, undef, undef, undef, undef, undef, undef, undef, undef, undef, undef, undef, undef, undef, undef, undef, undef, undef, undef, undef, undef, undef, undef, undef, undef, undef, undef, undef, undef, undef, undef, undef, undef, undef, undef, undef, undef, undef, undef, undef, undef, undef, undef, undef, undef, undef, undef, undef, undef, undef, undef, undef, undef, undef], defers := [] } w0 := by
  dsimp only [tail6, Try.f5, Option.getD]
  obtain ⟨W0, hW0⟩ : ∃ W0, ((w0.alloc (.cells #[.slice la ss.length lc] 57)).alloc (.cells #[.slice oa os.length oc] 49)).alloc (.cells #[.slice ia ins.length ic] 57) = W0 := ⟨_, rfl⟩
  have s0 : W0.heap.size = w0.heap.size + 3 := by rw [← hW0]; simp
  have e0 : Boxed W0 w0.heap.size 57 (.slice la ss.length lc) := by rw [← hW0]; exact ((Boxed.new w0 _ _).alloc _).alloc _
  have e1 : Boxed W0 (w0.heap.size + 1) 49 (.slice oa os.length oc) := by rw [← hW0]; have := Boxed.new (w0.alloc (.cells #[.slice la ss.length lc] 57)) 49 (.slice oa os.length oc); rw [World.size_alloc] at this; exact this.alloc _
  have e2 : Boxed W0 (w0.heap.size + 2) 57 (.slice ia ins.length ic) := by rw [← hW0]; have := Boxed.new ((w0.alloc (.cells #[.slice la ss.length lc] 57)).alloc (.cells #[.slice oa os.length oc] 49)) 57 (.slice ia ins.length ic); rw [World.size_alloc, World.size_alloc] at this; exact this
  have be0 : Below w0.heap.size w0 W0 := by rw [← hW0]; exact ((below1 _ _).trans ((below1 _ _).mono (by simp))).trans ((below1 _ _).mono (by simp; omega))
  have NX := hide next
  have HST := hide hst
  have HLA := hide hla
  clear next hst hla
  go_wp2_with fail
  clear hW0
  refine (awake_is face W0).mono ?_
  rintro e w1 ⟨rfl, b1⟩
  have s1 := b1.size
  go_wp2_with fail
  refine (new_isP w1 500 500 rfl (by decide) (by decide)).mono ?_
  rintro e w2 ⟨p, g, F, rfl, ht, b2⟩
  have s2 := b2.size
  obtain ⟨W4, hW4⟩ : ∃ W4, (w2.alloc (.cells #[.pointer (some ⟨p, 0, none⟩)] 58)).alloc (.cells #[.slice none 0 0] 33) = W4 := ⟨_, rfl⟩
  have c4 : Ch (fun _ => False) w2 W4 := by rw [← hW4]; exact (Ch.alloc _ _).trans (Ch.alloc _ _) (fun _ _ h => h)
  have c04 : Ch (fun _ => False) W0 W4 := (Ch.of_below b1).trans ((Ch.of_below (Q := fun _ => False) b2).trans c4 (fun _ _ h => h)) (fun _ _ h => h)
  have HS := hide (show Sn w0 (.slice la ss.length lc) (.slice oa os.length oc) (.slice ia ins.length ic) p g w2.heap.size (w2.heap.size + 1) w1.heap.size F W4 (row1 []) (.slice none 0 0) 0 from
    ⟨c04.box e0 (fun h => h), c04.box e1 (fun h => h), c04.box e2 (fun h => h), by rw [← hW4]; exact (Boxed.new w2 _ _).alloc _, by rw [← hW4]; have := Boxed.new (w2.alloc (.cells #[.pointer (some ⟨p, 0, none⟩)] 58)) 33 (.slice none 0 0); rwa [World.size_alloc] at this,
     ht.ch c4 (fun _ _ h => h), Row.nil _ _, be0.trans (c04.below be0.size (fun _ _ h => h)), by omega, s2, by omega⟩)
  have HTG := hide (show Tg W4 W4.heap.size ss [] from fun j hj => absurd hj (Nat.not_lt_zero _))
  clear e0 e1 e2 be0 ht b1 b2 c4 c04 s0 s1 s2
  obtain ⟨i0, hi0, hz0, hz1, hz2⟩ := nf_open nfHd
  go_wp2
  clear hW4
  go_loopw [11] (fun iv' wr => ∃ (i : Nat) (xs : List Pa) (hv' : Value), iv' = .int .i64 (i : Int) ∧ i ≤ ss.length ∧ i ≤ 100 ∧ xs.length = i ∧ Hid (Sn w0 (.slice la ss.length lc) (.slice oa os.length oc) (.slice ia ins.length ic) p g w2.heap.size (w2.heap.size + 1) w1.heap.size F wr (row1 xs) hv' i) ∧ Hid (Tg wr wr.heap.size ss xs)) (fun iv' _ => ss.length + 1 - (intOf iv').toNat)
  case atStart => exact ⟨0, [], .slice none 0 0, rfl, Nat.zero_le _, Nat.zero_le _, rfl, HS, HTG⟩
  case round =>
    clear HS HTG
    obtain ⟨i, xs, hv', rfl, hi1, hi2, hxl, SNH, TGH⟩ := hrel
    obtain ⟨W, rfl⟩ : ∃ W, W = wr := ⟨_, rfl⟩
    have y0 := SNH.out.b0.cell
    by_cases hlt : i < ss.length
    · have q1 : decide ((i : Int) < (ss.length : Int)) = true := decide_eq_true (by omega)
      obtain ⟨rfl, hlb⟩ := HLA.out (by omega)
      by_cases hlt2 : i < 100
      · have q2 : decide ((i : Int) < 100) = true := decide_eq_true (by omega)
        have hstr := HST.out i hlt
        unfold StAt at hstr
        rw [Nat.mul_one] at hstr
        go_wp2
        refine wp_then (seen_r9 SNH.out hxl hlt hlt2 hlb hstr ?_)
        intro A b W' hA hA' hb hb' ht hc
        have SN1 := hide (SNH.out.table hc ht)
        have SN2 := hide (SN1.out.below (below1 W' (.cells #[.int .u32 ((i : Int) + 1), .int .u32 1] 39)))
        have hA1 : ¬ hv'.ownBlock = some A := fun e => by have := (own_in SNH.out.hs e).2.1; omega
        have z0 : W'.cell? ⟨A, 0, none⟩ = some (.int .u32 ((i : Int) + 1)) := by simp [Lib.cell_of_heap hA']
        have z1 : W'.cell? ⟨A, 1, none⟩ = some (.int .u32 1) := by simp [Lib.cell_of_heap hA']
        have y1 := SN1.out.bh.cell
        have HOW := hide (show (W'.alloc (.cells #[.int .u32 ((i : Int) + 1), .int .u32 1] 39)).ownsRow w1.heap.size 39 2 hv' i ((hsl i).flatMap hdF) by have := SN2.out.hs; unfold HdRow Row at this; rw [hsl_len] at this; exact this)
        have HN1 := hide (row_new W' (hdF ((i : Int) + 1, 1)) 39 rfl)
        have HM1 := hide (show i + 1 ≤ maxLen by unfold maxLen; omega)
        have HM2 := hide (show (i + 1) * 8 ≤ 140737488355328 by omega)
        have HM3 := hide (show w1.heap.size ≤ (W'.alloc (.cells #[.int .u32 ((i : Int) + 1), .int .u32 1] 39)).heap.size by have := SN2.out.b8.lt; have := SN2.out.l8; omega)
        have HON := hide (show ∀ u ∈ hdF ((i : Int) + 1, 1), u.oneCell' = true by simp [hdF, Value.oneCell'])
        have HC := hide hc
        have HBB := hide hb'
        clear ht hc hb' hA' y0
        go_wp2_with (at_builtin; refine wpList_append_own_at _ rfl _ _ 33 rfl w1.heap.size 39 i0 (.agg #[.int .u32 0, .int .u32 0]) 2 8 Try.underlying33 hi0 hz0 hz1 hz2 rfl (by decide) _ i ((hsl i).flatMap hdF) rfl HOW.out ⟨W'.heap.size, 0, none⟩ 1 1 (hdF ((i : Int) + 1, 1)) rfl rfl HN1.out HON.out HM1.out HM2.out HM3.out ?_)
        intro v5 w5 hown5 hgrow5 _ hat5
        have HR5 := hide (show HdRow w5 w1.heap.size v5 (hsl (i + 1)) by rw [hsl_succ]; refine Row.snoc ?_; rw [hsl_len]; exact hown5)
        have HG5 := hide hgrow5
        obtain ⟨a5, n5, c5, rfl⟩ := own_form hown5
        have c15 : Ch (fun x => hv'.ownBlock = some x) (W'.alloc (.cells #[.int .u32 ((i : Int) + 1), .int .u32 1] 39)) w5 := Ch.of_grown hgrow5 (fun _ e => e)
        have bh5 : Boxed w5 (w2.heap.size + 1) 33 hv' := c15.box SN2.out.bh (own_box SN2.out.hs SN2.out.bh (by decide))
        have y5 := bh5.cell
        have f5 := bh5.frozen
        clear hown5 hgrow5 hat5 c15
        go_wp2
        go_roundw
        case rel => exact ⟨i + 1, xs ++ [⟨ss[i], some ⟨b, 0, none⟩, 1, 1⟩], .slice a5 n5 c5, by go_num, by omega, by omega, by simp [hxl], hide (SN2.out.more HG5.out HR5.out), hide (Tg.step SNH.out TGH.out HC.out hxl HBB.out hlt _ HG5.out (Nat.le_refl _) SN1.out.hs SN1.out.bh)⟩
        case measure => simp [intOf]; omega
      · have q2 : decide ((i : Int) < 100) = false := decide_eq_false (by omega)
        go_wp2
        subst hxl
        apply NX.out
        · exact SNH.out
        · exact TGH.out
        · exact hi2
        · exact hi1
    · have q1 : decide ((i : Int) < (ss.length : Int)) = false := decide_eq_false (by omega)
      go_wp2
      subst hxl
      apply NX.out
      · exact SNH.out
      · exact TGH.out
      · exact hi2
      · exact hi1

end Go.Proofs.Ytjilnmeegolpkaa
