/- The program's Bare. -/
import Derived.Test.YtnclmlhmmljfgaaGreatDoorTl
namespace Go.Proofs.YtnclmlhmmljfgaaGreatDoor
open Go.RowKit

theorem bareT_ks (t : Tr) : (bareT t).ks = bares t.ks := by cases t; rfl
theorem bareT_f (t : Tr) : (bareT t).f = bareF t.f := by cases t; rfl

theorem sep_one {w : World} {lo hi : Nat} {v : Value} {t : Tr} (h : SepT w lo hi v t) : v.oneCell' = true := by
  rcases h.kidsv with ⟨_, rfl⟩ | ⟨_, g, cur, rfl, _⟩ <;> rfl

/-- a row is made -/
theorem alloc_all (w3 : World) (C : Array Value) : ∃ w4, w3.alloc (.cells C 25) = w4 ∧ Hid (Below w3.heap.size w3 w4) ∧ w4.heap.size = w3.heap.size + 1 ∧ w4.heap[w3.heap.size]? = some (.cells C 25 (0, 0)) :=
  ⟨_, rfl, hide ((Below.refl _ _).alloc (Nat.le_refl _) _), World.size_alloc _ _, (MapKept.heap_alloc w3 _).1⟩

/-- nodes laid into a row one by one -/
def BrI (w4 wr : World) (G : Nat) (ks : List Tr) (k : Nat) : Prop := ∃ cur, wr.heap[G]? = some (.cells cur 25 (0, 0)) ∧ cur.size = ks.length * 8 ∧ SepR wr (G + 1) wr.heap.size cur 0 (bares (ks.take k)) ∧ Ex (fun i => i = G) w4 wr

theorem bri_step {w4 wr w5 : World} {G : Nat} {ks : List Tr} {k : Nat} {cur : Array Value} {v5 : Value} (hex : Ex (fun i => i = G) w4 wr) (hG : G < w4.heap.size) (hk : k < ks.length) (hg : wr.heap[G]? = some (.cells cur 25 (0, 0))) (hz : cur.size = ks.length * 8) (hs : SepR wr (G + 1) wr.heap.size cur 0 (bares (ks.take k))) (b5 : Below wr.heap.size wr w5) (k5 : SepT w5 wr.heap.size w5.heap.size v5 (bareT ks[k])) {w6 : World} (hw6 : w6 = w5.setCells G (k * 8) (ncs (bareF ks[k].f, v5))) : BrI w4 w6 G ks (k + 1) := by
  subst hw6
  have hs4 := hex.size
  have hs5 := b5.size
  have hg5 : w5.heap[G]? = some (.cells cur 25 (0, 0)) := (b5.block G (by omega)).trans hg
  obtain ⟨cur', e1, e2, e3, e4⟩ := blk_setCells (ncs (bareF ks[k].f, v5)) (k * 8) hg5
  have hl8 : (ncs (bareF ks[k].f, v5)).length = 8 := rfl
  have ex5 := ex_setCells (g := G) (ncs (bareF ks[k].f, v5)) w5 (k * 8)
  have hs6 := size_setCells (g := G) (ncs (bareF ks[k].f, v5)) w5 (k * 8)
  refine ⟨cur', e1, by rw [e2, hz], ?_, hex.trans ((Ex.of_below b5).trans ex5)⟩
  rw [bares_take hk, hs6]
  have hlen : (bares (ks.take k)).length = k := by rw [bares_len, List.length_take]; omega
  refine SepR.snoc (hi := wr.heap.size) (k5.agree fun b hb hb' => ex5.block b hb' (by omega)) hs5 (by omega) (hs.agree (fun b hb hb' => ?_) (fun p hp hp' => e3 p (by rw [hlen] at hp'; omega))) (fun j u hu => ?_)
  · exact (ex5.block b (by omega) (by omega)).trans (b5.block b hb')
  · rw [bareT_f] at hu
    have hj : j < 8 := by
      have := (List.getElem?_eq_some_iff.1 hu).1
      simpa [ncs] using this
    rw [hlen, Nat.zero_add]
    exact (e4 (by rw [hl8, hz]; omega) j (by rw [hl8]; exact hj)).trans (by simpa using hu)

set_option maxRecDepth 100000 in
set_option maxHeartbeats 8000000 in
theorem bare_all (n : Nat) (hn : n ≤ 65536) : ∀ (t : Tr) (w : World) (v : Value) (m : Md) (S : Nat → Prop), cnt t ≤ n → Kids w m S v t.ks → (∀ i, S i → i < w.heap.size) →
    Calls Tryz.prog 20 #[nv t.f v] w fun e w' => ∃ v', e = .returned (nv (bareF t.f) v') ∧ Below w.heap.size w w' ∧ SepT w' w.heap.size w'.heap.size v' (bareT t) := by
  induction n with
  | zero => intro t w v m S h; have := cnt_pos t; omega
  | succ n ih =>
    intro t w v m S hc hv hS
    obtain ⟨i0, hi0, hz0, hz1, hz2⟩ := info_parts Tryz.infoN
    obtain ⟨A, ca, ba, oa, rfl, hla, hA, hra⟩ := hv.form
    have hll : t.ks.length ≤ 65536 := by
      have h1 := len_le_cnts t.ks
      obtain ⟨f, ks⟩ := t
      unfold cnt at hc
      simp only [Tr.ks] at h1 ⊢
      omega
    obtain ⟨C, hC, hmake⟩ : ∃ C : Array Value, C.size = t.ks.length * 8 ∧ ∀ w : World, (Instr.makeSlice 23 (.int .i64 (t.ks.length : Int)) (.int .i64 (t.ks.length : Int))).run Tryz.prog w = .ok (.slice (some ⟨w.heap.size, 0, none⟩) t.ks.length t.ks.length) (w.alloc (.cells C 25)) := ⟨_, size_madeCells _ _, fun w => by
      have h := run_make (P := Tryz.prog) w 23 25 i0 _ Tryz.underlying23 hi0 hz0 .i64 .i64 (t.ks.length : Int) (t.ks.length : Int) (by omega) (by omega) (by rw [hz2]; omega) (by omega)
      rw [hz1, Int.toNat_natCast] at h
      exact h⟩
    have HCC := hide hC
    clear hC
    have HIH := hide (ih (by omega))
    have HC := hide hc
    clear hv hc ih hi0 hz0 hz1 hz2
    unfold nv
    by_cases hpos : 0 < t.ks.length
    · obtain ⟨rfl, hba, _⟩ := hA hpos
      clear hA
      have qp : decide ((0 : Int) < (t.ks.length : Int)) = true := decide_eq_true (by omega)
      cases hmk : mrk t.f.k
      · have HMK := hide hmk
        clear hmk
        have ey : (bareF t.f).y = t.f.y := by unfold bareF; rw [unhide HMK]; rfl
        have EY := hide ey
        clear ey
        go_enter Tryz.func20, Tryz.ntmps20
        go_wp2_with (go_at_call 35; refine (ismarked_is (unhide HMK) _).mono ?_; rintro e w' ⟨rfl, rfl⟩)
        obtain ⟨w1, hw1, HB1, HX1, hs1⟩ := boxed w t.f (.slice (some ⟨ba, oa, none⟩) t.ks.length ca)
        rw [hw1]
        clear hw1
        obtain ⟨w2, hw2, HB2, HX2, hs2⟩ := boxed w1 zNd (.slice none 0 0)
        unfold zNd at hw2
        rw [hw2]
        clear hw2
        obtain ⟨w3, hw3, HB3, HX3, hs3⟩ := boxed w2 (bareF t.f) (.slice (some ⟨w.heap.size + 1 + 1 + 1, 0, none⟩) t.ks.length t.ks.length)
        have hw4 : w2.alloc (.cells #[.int .i64 t.f.k, .string t.f.t, .int .i64 t.f.n, .string t.f.y, .int .i64 0, .int .i64 0, .int .i64 0, .slice (some ⟨w.heap.size + 1 + 1 + 1, 0, none⟩) t.ks.length t.ks.length] 25) = w3 := by
          rw [← unhide EY]
          exact hw3
        rw [hw4]
        clear hw3 hw4
        rw [hs1] at HX2 hs2
        rw [hs2] at HX3 hs3
        have HX1 := hide (((unhide HX1).below (unhide HB2) (by omega)).below (unhide HB3) (by omega))
        have HX2 := hide ((unhide HX2).below (unhide HB3) (by omega))
        have HBw := hide ((unhide HB1).trans (((unhide HB2).trans ((unhide HB3).mono (by omega))).mono (by omega)))
        clear HB1 HB2 HB3
        obtain ⟨w4, hw4, HB4, hs4, hg4⟩ := alloc_all w3 C
        rw [hw4]
        clear hw4
        rw [hs3] at hg4
        have HG4 := hide hg4
        have HZ4 := HCC
        clear hg4
        have HX1 := hide ((unhide HX1).below (unhide HB4) (by omega))
        have HX2 := hide ((unhide HX2).below (unhide HB4) (by omega))
        have HXo := hide ((unhide HX3).below (unhide HB4) (by omega))
        have HE4 := hide (Ex.of_below (X := fun i => i = w.heap.size + 1 + 1) (unhide HB4))
        go_loopw [31] (fun i wr => ∃ k : Nat, k ≤ t.ks.length ∧ i = .int .i64 k ∧ BrI w4 wr (w.heap.size + 1 + 1 + 1) t.ks k) (fun i _ => t.ks.length - (intOf i).toNat)
        case atStart => exact ⟨0, Nat.zero_le _, rfl, _, unhide HG4, unhide HZ4, trivial, Ex.refl _ _⟩
        case round =>
          obtain ⟨k, hk, rfl, cur, hgc, hzc, hsc, hex⟩ := hrel
          have hsz := hex.size
          have HX1 := hide ((unhide HX1).ex hex (by omega))
          have HX2 := hide ((unhide HX2).ex hex (by omega))
          have HXo := hide ((unhide HXo).ex hex (by omega))
          have HGC := hide hgc
          have HZC := hide hzc
          have HSC := hide hsc
          have HEX := hide hex
          clear hgc hzc hsc hex
          have x7 := (unhide HX1).cell.2.2.2.2.2.2.2
          by_cases hkl : k < t.ks.length
          · have hbaw : ba < w.heap.size := hS ba hba
            obtain ⟨va', HCa, HKa⟩ := ((hra.agree (Agree.of_below (unhide HBw) hS) hba).get k hkl).cs
            have HE2 := hide (show Ex (fun i => i = w.heap.size + 1 + 1 ∨ i = w.heap.size + 1 + 1 + 1) w3 wr from ((unhide HE4).mono fun i _ e => Or.inl e).trans ((unhide HEX).mono fun i _ e => Or.inr e))
            have HKw := hide ((unhide HKa).agree ((unhide HE2).agree fun i hi => by have := hS i hi; exact ⟨by omega, by omega⟩))
            have HCw := hide ((unhide HCa).agree ((unhide HE2).agree (S := fun i => i = ba) fun i hi => by subst hi; exact ⟨by omega, by omega⟩) rfl)
            have HCN := hide (cnts_lt (unhide HC) hkl)
            have HTH : ∀ w5, Below wr.heap.size wr w5 → Hid (w5.there (w.heap.size + 1 + 1 + 1) (k * 8) 8) := fun w5 h => hide (there_of ((h.block _ (by omega)).trans (unhide HGC)) (by rw [unhide HZC]; omega))
            have i0' : (0 : Int) ≤ (k : Int) := by omega
            have i1 : (k : Int) < (t.ks.length : Int) := by omega
            go_wp2
            refine wp_region_held_drew (S := Ex (fun i => i = w.heap.size + 1 + 1 + 1) wr) (by kernel_rfl) ?_ (fun hHeld => ?_)
            · exact Ex.drew _ _
            refine wpAnyH_take (i := 0) (oi := { dst := some 34, op := Op.fieldAddr 25 (Operand.tmp 3) 7, type := 0, pos := "tree.go:73", after := #[], guard := none }) (v := ?_) rfl (by kernel_rfl) (by kernel_rfl) (by kernel_rfl) (fun _ _ _ h => h) (Or.inl ⟨by rfl, ?_⟩) (by assumption) ?_
            rotate_left
            · intro wq hSw
              go_simp
              try (with_reducible rfl)
            go_frame
            refine wpAnyH_take (i := 1) (oi := { dst := some 35, op := Op.load 23 (Operand.tmp 34), type := 23, pos := "tree.go:73", after := #[{ on := 0, ground := Ground.data }], guard := none }) (v := ?_) rfl (by kernel_rfl) (by kernel_rfl) (by kernel_rfl) (fun _ _ _ h => h) (Or.inl ⟨by rfl, ?_⟩) (by assumption) ?_
            rotate_left
            · intro wq hSw
              obtain ⟨x0, x1, x2, x3, x4, x5, x6, x7⟩ := ((unhide HXo).ex hSw (by omega)).cell
              go_simp
              try (with_reducible rfl)
            go_frame
            refine wpAnyH_take (i := 2) (oi := { dst := some 36, op := Op.move (Operand.tmp 4), type := 3, pos := "tree.go:73", after := #[], guard := none }) (v := ?_) rfl (by kernel_rfl) (by kernel_rfl) (by kernel_rfl) (fun _ _ _ h => h) (Or.inl ⟨by rfl, ?_⟩) (by assumption) ?_
            rotate_left
            · intro wq hSw
              go_simp
              try (with_reducible rfl)
            go_frame
            refine wpAnyH_take (i := 3) (oi := { dst := some 37, op := Op.fieldAddr 25 (Operand.tmp 1) 7, type := 0, pos := "tree.go:73", after := #[], guard := none }) (v := ?_) rfl (by kernel_rfl) (by kernel_rfl) (by kernel_rfl) (fun _ _ _ h => h) (Or.inl ⟨by rfl, ?_⟩) (by assumption) ?_
            rotate_left
            · intro wq hSw
              go_simp
              try (with_reducible rfl)
            go_frame
            refine wpAnyH_take (i := 4) (oi := { dst := some 38, op := Op.load 23 (Operand.tmp 37), type := 23, pos := "tree.go:73", after := #[{ on := 3, ground := Ground.data }], guard := none }) (v := ?_) rfl (by kernel_rfl) (by kernel_rfl) (by kernel_rfl) (fun _ _ _ h => h) (Or.inl ⟨by rfl, ?_⟩) (by assumption) ?_
            rotate_left
            · intro wq hSw
              obtain ⟨x0, x1, x2, x3, x4, x5, x6, x7⟩ := ((unhide HX1).ex hSw (by omega)).cell
              go_simp
              try (with_reducible rfl)
            go_frame
            refine wpAnyH_take (i := 5) (oi := { dst := some 39, op := Op.move (Operand.tmp 4), type := 3, pos := "tree.go:73", after := #[], guard := none }) (v := ?_) rfl (by kernel_rfl) (by kernel_rfl) (by kernel_rfl) (fun _ _ _ h => h) (Or.inl ⟨by rfl, ?_⟩) (by assumption) ?_
            rotate_left
            · intro wq hSw
              go_simp
              try (with_reducible rfl)
            go_frame
            refine wpAnyH_take (i := 6) (oi := { dst := some 40, op := Op.indexAddr 23 (Operand.tmp 38) (Operand.tmp 39), type := 0, pos := "tree.go:73", after := #[{ on := 4, ground := Ground.data }, { on := 5, ground := Ground.data }], guard := none }) (v := ?_) rfl (by kernel_rfl) (by kernel_rfl) (by kernel_rfl) (fun _ _ _ h => h) (Or.inl ⟨by rfl, ?_⟩) (by assumption) ?_
            rotate_left
            · intro wq hSw
              go_simp
              try (with_reducible rfl)
            go_frame
            refine wpAnyH_take (i := 7) (oi := { dst := some 41, op := Op.load 25 (Operand.tmp 40), type := 25, pos := "tree.go:73", after := #[{ on := 6, ground := Ground.data }], guard := none }) (v := ?_) rfl (by kernel_rfl) (by kernel_rfl) (by kernel_rfl) (fun _ _ _ h => h) (Or.inl ⟨by rfl, ?_⟩) (by assumption) ?_
            rotate_left
            · intro wq hSw
              obtain ⟨y0, y1, y2, y3, y4, y5, y6, y7⟩ := (unhide HCw).agree (hSw.agree (S := fun i => i = ba) fun i hi => by subst hi; exact ⟨by omega, by omega⟩) rfl
              go_simp
              try (with_reducible rfl)
            go_frame
            refine wpAnyH_ready (rs := [8]) (by kernel_rfl) (by simp) ?_
            refine AllReadyH.cons (o := { dst := some 42, op := Op.call { callee := Callee.value (Operand.func 20), args := #[Operand.tmp 41], argTypes := #[25] }, type := 25, pos := "tree.go:73", after := #[{ on := 7, ground := Ground.data }], guard := none }) rfl (fun K hK => ?_) AllReadyH.nil
            go_simp
            refine (unhide HIH t.ks[k] _ va' m S (unhide HCN) ((unhide HKw).agree (Agree.of_below (below_drw wr) fun i hi => by have := hS i hi; omega)) (fun i hi => by have := hS i hi; show i < wr.heap.size; omega)).mono ?_
            rintro e w5 ⟨v5, rfl, b5, hk5⟩
            have HB5 := hide (below_undrew b5)
            have HK5 : Hid (SepT w5 wr.heap.size w5.heap.size v5 (bareT t.ks[k])) := hide hk5
            have hs5 := (unhide HB5).size
            have HON := hide (all_oneCell_toArray (node_one (bareF t.ks[k].f) (sep_one (unhide HK5))))
            clear b5 hk5
            go_wp2_with fail
            refine hK.out _ _ ?_ (fun hHeld => ?_)
            · exact hHeld.trans (Ex.of_below ⟨(unhide HB5).os, (unhide HB5).tape, (unhide HB5).output, (unhide HB5).size, (unhide HB5).block⟩)
            clear hK K
            try go_frame
            refine wpAnyH_take (i := 9) (oi := { dst := some 43, op := Op.indexAddr 23 (Operand.tmp 35) (Operand.tmp 36), type := 0, pos := "tree.go:73", after := #[{ on := 1, ground := Ground.data }, { on := 2, ground := Ground.data }, { on := 0, ground := Ground.phase }, { on := 1, ground := Ground.phase }, { on := 2, ground := Ground.phase }, { on := 3, ground := Ground.phase }, { on := 4, ground := Ground.phase }, { on := 5, ground := Ground.phase }, { on := 6, ground := Ground.phase }, { on := 7, ground := Ground.phase }, { on := 8, ground := Ground.phase }], guard := none }) (v := ?_) rfl (by kernel_rfl) (by kernel_rfl) (by kernel_rfl) (fun _ _ _ h => h) (Or.inl ⟨by rfl, ?_⟩) (by assumption) ?_
            rotate_left
            · intro wq hSw
              go_simp
              try (with_reducible rfl)
            go_frame
            refine wpAnyH_ready (rs := [10]) (by kernel_rfl) (by simp) ?_
            refine AllReadyH.cons (o := { dst := none, op := Op.store 25 (Operand.tmp 43) (Operand.tmp 42), type := 0, pos := "tree.go:73", after := #[{ on := 9, ground := Ground.data }, { on := 8, ground := Ground.data }, { on := 8, ground := Ground.chain }, { on := 0, ground := Ground.phase }, { on := 1, ground := Ground.phase }, { on := 2, ground := Ground.phase }, { on := 3, ground := Ground.phase }, { on := 4, ground := Ground.phase }, { on := 5, ground := Ground.phase }, { on := 6, ground := Ground.phase }, { on := 7, ground := Ground.phase }, { on := 8, ground := Ground.phase }], guard := none }) rfl (fun K hK => ?_) AllReadyH.nil
            refine step_store rfl (.tmp 43) (.tmp 42) 25 rfl (w.heap.size + 1 + 1 + 1) (k * 8) #[.int .i64 (bareF t.ks[k].f).k, .string (bareF t.ks[k].f).t, .int .i64 (bareF t.ks[k].f).n, .string (bareF t.ks[k].f).y, .int .i64 (bareF t.ks[k].f).s, .int .i64 (bareF t.ks[k].f).a, .int .i64 (bareF t.ks[k].f).l, v5] rfl rfl (unhide (HTH _ (unhide HB5))) Tryz.sizeN (unhide HON) ?_
            intro w6 hw6
            have HW6 := hide hw6
            clear hw6
            refine hK.out _ _ ?_ (fun hHeld => ?_)
            · exact hHeld.trans (by rw [unhide HW6]; exact ex_setCells _ _ _)
            clear hK K
            try go_frame
            refine wpAnyH_done (by kernel_rfl) ?_ _
            have HBI := hide (bri_step (unhide HEX) (by omega) hkl (unhide HGC) (unhide HZC) (unhide HSC) (unhide HB5) (unhide HK5) (unhide HW6))
            go_wp2
            go_roundw
            case rel => exact ⟨k + 1, by omega, by go_num, unhide HBI⟩
            case measure => simp [intOf]; omega
          · obtain rfl : k = t.ks.length := by omega
            obtain ⟨o0, o1, o2, o3, o4, o5, o6, o7⟩ := (unhide HXo).cell
            obtain ⟨r0, r1, r2, r3, r4, r5, r6, r7⟩ := (unhide HX2).cell
            have fr := (unhide HX2).froz
            go_wp2
            refine bodyPost_ret (v := nv (bareF t.f) (.slice (some ⟨w.heap.size + 1 + 1 + 1, 0, none⟩) t.ks.length t.ks.length)) (by simp [results, Tryz.results20, go_sem, r0, r1, r2, r3, r4, r5, r6, r7]) rfl ⟨_, rfl, ?_, ?_⟩
            · exact ((((unhide HE4).mono (Y := fun i => w.heap.size ≤ i) fun i _ e => by omega).trans ((unhide HEX).mono fun i _ e => by omega)).set8 (B := w.heap.size + 1) (by omega)).below (unhide HBw) (fun i hi => by omega) (by omega)
            · have hx := (Ex.refl (fun i => i = w.heap.size + 1) wr).set8 (B := w.heap.size + 1) (f := bareF t.f) (u := .slice (some ⟨w.heap.size + 1 + 1 + 1, 0, none⟩) t.ks.length t.ks.length) rfl
              have hz := hx.size
              have hsc := unhide HSC
              rw [List.take_length] at hsc
              have hbl : (bareT t).ks.length = t.ks.length := by rw [bareT_ks, bares_len]
              refine SepT.mk (Or.inr ⟨by rw [hbl]; exact hpos, w.heap.size + 1 + 1 + 1, cur, by rw [hbl], by omega, Nat.lt_of_lt_of_le (by omega) hz, (hx.block _ (by omega) (by omega)).trans (unhide HGC), by rw [hbl]; exact unhide HZC, ?_⟩)
              rw [bareT_ks]
              exact (hsc.agree (fun b hb hb' => hx.block b hb' (by omega)) (fun _ _ _ => rfl)).mono (Nat.le_refl _) hz
      · have HMK := hide hmk
        clear hmk
        have ey : (bareF t.f).y = ⟨#[]⟩ := by unfold bareF; rw [unhide HMK]; rfl
        have EY := hide ey
        clear ey
        go_enter Tryz.func20, Tryz.ntmps20
        go_wp2_with (go_at_call 35; refine (ismarked_is (unhide HMK) _).mono ?_; rintro e w' ⟨rfl, rfl⟩)
        obtain ⟨w1, hw1, HB1, HX1, hs1⟩ := boxed w t.f (.slice (some ⟨ba, oa, none⟩) t.ks.length ca)
        rw [hw1]
        clear hw1
        obtain ⟨w2, hw2, HB2, HX2, hs2⟩ := boxed w1 zNd (.slice none 0 0)
        unfold zNd at hw2
        rw [hw2]
        clear hw2
        obtain ⟨w3, hw3, HB3, HX3, hs3⟩ := boxed w2 (bareF t.f) (.slice (some ⟨w.heap.size + 1 + 1 + 1, 0, none⟩) t.ks.length t.ks.length)
        have hw4 : w2.alloc (.cells #[.int .i64 t.f.k, .string t.f.t, .int .i64 t.f.n, .string ⟨#[]⟩, .int .i64 0, .int .i64 0, .int .i64 0, .slice (some ⟨w.heap.size + 1 + 1 + 1, 0, none⟩) t.ks.length t.ks.length] 25) = w3 := by
          rw [← unhide EY]
          exact hw3
        rw [hw4]
        clear hw3 hw4
        rw [hs1] at HX2 hs2
        rw [hs2] at HX3 hs3
        have HX1 := hide (((unhide HX1).below (unhide HB2) (by omega)).below (unhide HB3) (by omega))
        have HX2 := hide ((unhide HX2).below (unhide HB3) (by omega))
        have HBw := hide ((unhide HB1).trans (((unhide HB2).trans ((unhide HB3).mono (by omega))).mono (by omega)))
        clear HB1 HB2 HB3
        obtain ⟨w4, hw4, HB4, hs4, hg4⟩ := alloc_all w3 C
        rw [hw4]
        clear hw4
        rw [hs3] at hg4
        have HG4 := hide hg4
        have HZ4 := HCC
        clear hg4
        have HX1 := hide ((unhide HX1).below (unhide HB4) (by omega))
        have HX2 := hide ((unhide HX2).below (unhide HB4) (by omega))
        have HXo := hide ((unhide HX3).below (unhide HB4) (by omega))
        have HE4 := hide (Ex.of_below (X := fun i => i = w.heap.size + 1 + 1) (unhide HB4))
        go_loopw [31] (fun i wr => ∃ k : Nat, k ≤ t.ks.length ∧ i = .int .i64 k ∧ BrI w4 wr (w.heap.size + 1 + 1 + 1) t.ks k) (fun i _ => t.ks.length - (intOf i).toNat)
        case atStart => exact ⟨0, Nat.zero_le _, rfl, _, unhide HG4, unhide HZ4, trivial, Ex.refl _ _⟩
        case round =>
          obtain ⟨k, hk, rfl, cur, hgc, hzc, hsc, hex⟩ := hrel
          have hsz := hex.size
          have HX1 := hide ((unhide HX1).ex hex (by omega))
          have HX2 := hide ((unhide HX2).ex hex (by omega))
          have HXo := hide ((unhide HXo).ex hex (by omega))
          have HGC := hide hgc
          have HZC := hide hzc
          have HSC := hide hsc
          have HEX := hide hex
          clear hgc hzc hsc hex
          have x7 := (unhide HX1).cell.2.2.2.2.2.2.2
          by_cases hkl : k < t.ks.length
          · have hbaw : ba < w.heap.size := hS ba hba
            obtain ⟨va', HCa, HKa⟩ := ((hra.agree (Agree.of_below (unhide HBw) hS) hba).get k hkl).cs
            have HE2 := hide (show Ex (fun i => i = w.heap.size + 1 + 1 ∨ i = w.heap.size + 1 + 1 + 1) w3 wr from ((unhide HE4).mono fun i _ e => Or.inl e).trans ((unhide HEX).mono fun i _ e => Or.inr e))
            have HKw := hide ((unhide HKa).agree ((unhide HE2).agree fun i hi => by have := hS i hi; exact ⟨by omega, by omega⟩))
            have HCw := hide ((unhide HCa).agree ((unhide HE2).agree (S := fun i => i = ba) fun i hi => by subst hi; exact ⟨by omega, by omega⟩) rfl)
            have HCN := hide (cnts_lt (unhide HC) hkl)
            have HTH : ∀ w5, Below wr.heap.size wr w5 → Hid (w5.there (w.heap.size + 1 + 1 + 1) (k * 8) 8) := fun w5 h => hide (there_of ((h.block _ (by omega)).trans (unhide HGC)) (by rw [unhide HZC]; omega))
            have i0' : (0 : Int) ≤ (k : Int) := by omega
            have i1 : (k : Int) < (t.ks.length : Int) := by omega
            go_wp2
            refine wp_region_held_drew (S := Ex (fun i => i = w.heap.size + 1 + 1 + 1) wr) (by kernel_rfl) ?_ (fun hHeld => ?_)
            · exact Ex.drew _ _
            refine wpAnyH_take (i := 0) (oi := { dst := some 34, op := Op.fieldAddr 25 (Operand.tmp 3) 7, type := 0, pos := "tree.go:73", after := #[], guard := none }) (v := ?_) rfl (by kernel_rfl) (by kernel_rfl) (by kernel_rfl) (fun _ _ _ h => h) (Or.inl ⟨by rfl, ?_⟩) (by assumption) ?_
            rotate_left
            · intro wq hSw
              go_simp
              try (with_reducible rfl)
            go_frame
            refine wpAnyH_take (i := 1) (oi := { dst := some 35, op := Op.load 23 (Operand.tmp 34), type := 23, pos := "tree.go:73", after := #[{ on := 0, ground := Ground.data }], guard := none }) (v := ?_) rfl (by kernel_rfl) (by kernel_rfl) (by kernel_rfl) (fun _ _ _ h => h) (Or.inl ⟨by rfl, ?_⟩) (by assumption) ?_
            rotate_left
            · intro wq hSw
              obtain ⟨x0, x1, x2, x3, x4, x5, x6, x7⟩ := ((unhide HXo).ex hSw (by omega)).cell
              go_simp
              try (with_reducible rfl)
            go_frame
            refine wpAnyH_take (i := 2) (oi := { dst := some 36, op := Op.move (Operand.tmp 4), type := 3, pos := "tree.go:73", after := #[], guard := none }) (v := ?_) rfl (by kernel_rfl) (by kernel_rfl) (by kernel_rfl) (fun _ _ _ h => h) (Or.inl ⟨by rfl, ?_⟩) (by assumption) ?_
            rotate_left
            · intro wq hSw
              go_simp
              try (with_reducible rfl)
            go_frame
            refine wpAnyH_take (i := 3) (oi := { dst := some 37, op := Op.fieldAddr 25 (Operand.tmp 1) 7, type := 0, pos := "tree.go:73", after := #[], guard := none }) (v := ?_) rfl (by kernel_rfl) (by kernel_rfl) (by kernel_rfl) (fun _ _ _ h => h) (Or.inl ⟨by rfl, ?_⟩) (by assumption) ?_
            rotate_left
            · intro wq hSw
              go_simp
              try (with_reducible rfl)
            go_frame
            refine wpAnyH_take (i := 4) (oi := { dst := some 38, op := Op.load 23 (Operand.tmp 37), type := 23, pos := "tree.go:73", after := #[{ on := 3, ground := Ground.data }], guard := none }) (v := ?_) rfl (by kernel_rfl) (by kernel_rfl) (by kernel_rfl) (fun _ _ _ h => h) (Or.inl ⟨by rfl, ?_⟩) (by assumption) ?_
            rotate_left
            · intro wq hSw
              obtain ⟨x0, x1, x2, x3, x4, x5, x6, x7⟩ := ((unhide HX1).ex hSw (by omega)).cell
              go_simp
              try (with_reducible rfl)
            go_frame
            refine wpAnyH_take (i := 5) (oi := { dst := some 39, op := Op.move (Operand.tmp 4), type := 3, pos := "tree.go:73", after := #[], guard := none }) (v := ?_) rfl (by kernel_rfl) (by kernel_rfl) (by kernel_rfl) (fun _ _ _ h => h) (Or.inl ⟨by rfl, ?_⟩) (by assumption) ?_
            rotate_left
            · intro wq hSw
              go_simp
              try (with_reducible rfl)
            go_frame
            refine wpAnyH_take (i := 6) (oi := { dst := some 40, op := Op.indexAddr 23 (Operand.tmp 38) (Operand.tmp 39), type := 0, pos := "tree.go:73", after := #[{ on := 4, ground := Ground.data }, { on := 5, ground := Ground.data }], guard := none }) (v := ?_) rfl (by kernel_rfl) (by kernel_rfl) (by kernel_rfl) (fun _ _ _ h => h) (Or.inl ⟨by rfl, ?_⟩) (by assumption) ?_
            rotate_left
            · intro wq hSw
              go_simp
              try (with_reducible rfl)
            go_frame
            refine wpAnyH_take (i := 7) (oi := { dst := some 41, op := Op.load 25 (Operand.tmp 40), type := 25, pos := "tree.go:73", after := #[{ on := 6, ground := Ground.data }], guard := none }) (v := ?_) rfl (by kernel_rfl) (by kernel_rfl) (by kernel_rfl) (fun _ _ _ h => h) (Or.inl ⟨by rfl, ?_⟩) (by assumption) ?_
            rotate_left
            · intro wq hSw
              obtain ⟨y0, y1, y2, y3, y4, y5, y6, y7⟩ := (unhide HCw).agree (hSw.agree (S := fun i => i = ba) fun i hi => by subst hi; exact ⟨by omega, by omega⟩) rfl
              go_simp
              try (with_reducible rfl)
            go_frame
            refine wpAnyH_ready (rs := [8]) (by kernel_rfl) (by simp) ?_
            refine AllReadyH.cons (o := { dst := some 42, op := Op.call { callee := Callee.value (Operand.func 20), args := #[Operand.tmp 41], argTypes := #[25] }, type := 25, pos := "tree.go:73", after := #[{ on := 7, ground := Ground.data }], guard := none }) rfl (fun K hK => ?_) AllReadyH.nil
            go_simp
            refine (unhide HIH t.ks[k] _ va' m S (unhide HCN) ((unhide HKw).agree (Agree.of_below (below_drw wr) fun i hi => by have := hS i hi; omega)) (fun i hi => by have := hS i hi; show i < wr.heap.size; omega)).mono ?_
            rintro e w5 ⟨v5, rfl, b5, hk5⟩
            have HB5 := hide (below_undrew b5)
            have HK5 : Hid (SepT w5 wr.heap.size w5.heap.size v5 (bareT t.ks[k])) := hide hk5
            have hs5 := (unhide HB5).size
            have HON := hide (all_oneCell_toArray (node_one (bareF t.ks[k].f) (sep_one (unhide HK5))))
            clear b5 hk5
            go_wp2_with fail
            refine hK.out _ _ ?_ (fun hHeld => ?_)
            · exact hHeld.trans (Ex.of_below ⟨(unhide HB5).os, (unhide HB5).tape, (unhide HB5).output, (unhide HB5).size, (unhide HB5).block⟩)
            clear hK K
            try go_frame
            refine wpAnyH_take (i := 9) (oi := { dst := some 43, op := Op.indexAddr 23 (Operand.tmp 35) (Operand.tmp 36), type := 0, pos := "tree.go:73", after := #[{ on := 1, ground := Ground.data }, { on := 2, ground := Ground.data }, { on := 0, ground := Ground.phase }, { on := 1, ground := Ground.phase }, { on := 2, ground := Ground.phase }, { on := 3, ground := Ground.phase }, { on := 4, ground := Ground.phase }, { on := 5, ground := Ground.phase }, { on := 6, ground := Ground.phase }, { on := 7, ground := Ground.phase }, { on := 8, ground := Ground.phase }], guard := none }) (v := ?_) rfl (by kernel_rfl) (by kernel_rfl) (by kernel_rfl) (fun _ _ _ h => h) (Or.inl ⟨by rfl, ?_⟩) (by assumption) ?_
            rotate_left
            · intro wq hSw
              go_simp
              try (with_reducible rfl)
            go_frame
            refine wpAnyH_ready (rs := [10]) (by kernel_rfl) (by simp) ?_
            refine AllReadyH.cons (o := { dst := none, op := Op.store 25 (Operand.tmp 43) (Operand.tmp 42), type := 0, pos := "tree.go:73", after := #[{ on := 9, ground := Ground.data }, { on := 8, ground := Ground.data }, { on := 8, ground := Ground.chain }, { on := 0, ground := Ground.phase }, { on := 1, ground := Ground.phase }, { on := 2, ground := Ground.phase }, { on := 3, ground := Ground.phase }, { on := 4, ground := Ground.phase }, { on := 5, ground := Ground.phase }, { on := 6, ground := Ground.phase }, { on := 7, ground := Ground.phase }, { on := 8, ground := Ground.phase }], guard := none }) rfl (fun K hK => ?_) AllReadyH.nil
            refine step_store rfl (.tmp 43) (.tmp 42) 25 rfl (w.heap.size + 1 + 1 + 1) (k * 8) #[.int .i64 (bareF t.ks[k].f).k, .string (bareF t.ks[k].f).t, .int .i64 (bareF t.ks[k].f).n, .string (bareF t.ks[k].f).y, .int .i64 (bareF t.ks[k].f).s, .int .i64 (bareF t.ks[k].f).a, .int .i64 (bareF t.ks[k].f).l, v5] rfl rfl (unhide (HTH _ (unhide HB5))) Tryz.sizeN (unhide HON) ?_
            intro w6 hw6
            have HW6 := hide hw6
            clear hw6
            refine hK.out _ _ ?_ (fun hHeld => ?_)
            · exact hHeld.trans (by rw [unhide HW6]; exact ex_setCells _ _ _)
            clear hK K
            try go_frame
            refine wpAnyH_done (by kernel_rfl) ?_ _
            have HBI := hide (bri_step (unhide HEX) (by omega) hkl (unhide HGC) (unhide HZC) (unhide HSC) (unhide HB5) (unhide HK5) (unhide HW6))
            go_wp2
            go_roundw
            case rel => exact ⟨k + 1, by omega, by go_num, unhide HBI⟩
            case measure => simp [intOf]; omega
          · obtain rfl : k = t.ks.length := by omega
            obtain ⟨o0, o1, o2, o3, o4, o5, o6, o7⟩ := (unhide HXo).cell
            obtain ⟨r0, r1, r2, r3, r4, r5, r6, r7⟩ := (unhide HX2).cell
            have fr := (unhide HX2).froz
            go_wp2
            refine bodyPost_ret (v := nv (bareF t.f) (.slice (some ⟨w.heap.size + 1 + 1 + 1, 0, none⟩) t.ks.length t.ks.length)) (by simp [results, Tryz.results20, go_sem, r0, r1, r2, r3, r4, r5, r6, r7]) rfl ⟨_, rfl, ?_, ?_⟩
            · exact ((((unhide HE4).mono (Y := fun i => w.heap.size ≤ i) fun i _ e => by omega).trans ((unhide HEX).mono fun i _ e => by omega)).set8 (B := w.heap.size + 1) (by omega)).below (unhide HBw) (fun i hi => by omega) (by omega)
            · have hx := (Ex.refl (fun i => i = w.heap.size + 1) wr).set8 (B := w.heap.size + 1) (f := bareF t.f) (u := .slice (some ⟨w.heap.size + 1 + 1 + 1, 0, none⟩) t.ks.length t.ks.length) rfl
              have hz := hx.size
              have hsc := unhide HSC
              rw [List.take_length] at hsc
              have hbl : (bareT t).ks.length = t.ks.length := by rw [bareT_ks, bares_len]
              refine SepT.mk (Or.inr ⟨by rw [hbl]; exact hpos, w.heap.size + 1 + 1 + 1, cur, by rw [hbl], by omega, Nat.lt_of_lt_of_le (by omega) hz, (hx.block _ (by omega) (by omega)).trans (unhide HGC), by rw [hbl]; exact unhide HZC, ?_⟩)
              rw [bareT_ks]
              exact (hsc.agree (fun b hb hb' => hx.block b hb' (by omega)) (fun _ _ _ => rfl)).mono (Nat.le_refl _) hz
    · have hl0 : t.ks.length = 0 := by omega
      have HNIL := hide (show (bareT t).ks = [] by rw [bareT_ks, List.eq_nil_of_length_eq_zero hl0]; rfl)
      rw [hl0]
      clear hA hla hra hmake
      cases hmk : mrk t.f.k
      · have HMK := hide hmk
        clear hmk
        have ey : (bareF t.f).y = t.f.y := by unfold bareF; rw [unhide HMK]; rfl
        have EY := hide ey
        clear ey
        go_enter Tryz.func20, Tryz.ntmps20
        go_wp2_with (go_at_call 35; refine (ismarked_is (unhide HMK) _).mono ?_; rintro e w' ⟨rfl, rfl⟩)
        obtain ⟨w1, hw1, HB1, HX1, hs1⟩ := boxed w t.f (.slice A 0 ca)
        rw [hw1]
        clear hw1
        obtain ⟨w2, hw2, HB2, HX2, hs2⟩ := boxed w1 zNd (.slice none 0 0)
        unfold zNd at hw2
        rw [hw2]
        clear hw2
        obtain ⟨w3, hw3, HB3, HX3, hs3⟩ := boxed w2 (bareF t.f) (.slice none 0 0)
        have hw4 : w2.alloc (.cells #[.int .i64 t.f.k, .string t.f.t, .int .i64 t.f.n, .string t.f.y, .int .i64 0, .int .i64 0, .int .i64 0, .slice none 0 0] 25) = w3 := by
          rw [← unhide EY]
          exact hw3
        rw [hw4]
        clear hw3 hw4
        rw [hs1] at HX2 hs2
        rw [hs2] at HX3 hs3
        have HX1 := hide (((unhide HX1).below (unhide HB2) (by omega)).below (unhide HB3) (by omega))
        have HX2 := hide ((unhide HX2).below (unhide HB3) (by omega))
        have HBw := hide ((unhide HB1).trans (((unhide HB2).trans ((unhide HB3).mono (by omega))).mono (by omega)))
        clear HB1 HB2 HB3
        go_loopw [31] (fun i wr => i = .int .i64 0 ∧ wr = w3) (fun _ _ => 0)
        case atStart => exact ⟨rfl, rfl⟩
        case round =>
          obtain ⟨rfl, rfl⟩ := hrel
          obtain ⟨o0, o1, o2, o3, o4, o5, o6, o7⟩ := (unhide HX3).cell
          obtain ⟨r0, r1, r2, r3, r4, r5, r6, r7⟩ := (unhide HX2).cell
          have fr := (unhide HX2).froz
          go_wp2
          refine bodyPost_ret (v := nv (bareF t.f) (.slice none 0 0)) (by simp [results, Tryz.results20, go_sem, r0, r1, r2, r3, r4, r5, r6, r7]) rfl ⟨_, rfl, ?_, ?_⟩
          · exact ((Ex.refl (fun i => w.heap.size ≤ i) _).set8 (B := w.heap.size + 1) (by omega)).below (unhide HBw) (fun i hi => by omega) (by omega)
          · exact SepT.mk (Or.inl ⟨unhide HNIL, rfl⟩)
      · have HMK := hide hmk
        clear hmk
        have ey : (bareF t.f).y = ⟨#[]⟩ := by unfold bareF; rw [unhide HMK]; rfl
        have EY := hide ey
        clear ey
        go_enter Tryz.func20, Tryz.ntmps20
        go_wp2_with (go_at_call 35; refine (ismarked_is (unhide HMK) _).mono ?_; rintro e w' ⟨rfl, rfl⟩)
        obtain ⟨w1, hw1, HB1, HX1, hs1⟩ := boxed w t.f (.slice A 0 ca)
        rw [hw1]
        clear hw1
        obtain ⟨w2, hw2, HB2, HX2, hs2⟩ := boxed w1 zNd (.slice none 0 0)
        unfold zNd at hw2
        rw [hw2]
        clear hw2
        obtain ⟨w3, hw3, HB3, HX3, hs3⟩ := boxed w2 (bareF t.f) (.slice none 0 0)
        have hw4 : w2.alloc (.cells #[.int .i64 t.f.k, .string t.f.t, .int .i64 t.f.n, .string ⟨#[]⟩, .int .i64 0, .int .i64 0, .int .i64 0, .slice none 0 0] 25) = w3 := by
          rw [← unhide EY]
          exact hw3
        rw [hw4]
        clear hw3 hw4
        rw [hs1] at HX2 hs2
        rw [hs2] at HX3 hs3
        have HX1 := hide (((unhide HX1).below (unhide HB2) (by omega)).below (unhide HB3) (by omega))
        have HX2 := hide ((unhide HX2).below (unhide HB3) (by omega))
        have HBw := hide ((unhide HB1).trans (((unhide HB2).trans ((unhide HB3).mono (by omega))).mono (by omega)))
        clear HB1 HB2 HB3
        go_loopw [31] (fun i wr => i = .int .i64 0 ∧ wr = w3) (fun _ _ => 0)
        case atStart => exact ⟨rfl, rfl⟩
        case round =>
          obtain ⟨rfl, rfl⟩ := hrel
          obtain ⟨o0, o1, o2, o3, o4, o5, o6, o7⟩ := (unhide HX3).cell
          obtain ⟨r0, r1, r2, r3, r4, r5, r6, r7⟩ := (unhide HX2).cell
          have fr := (unhide HX2).froz
          go_wp2
          refine bodyPost_ret (v := nv (bareF t.f) (.slice none 0 0)) (by simp [results, Tryz.results20, go_sem, r0, r1, r2, r3, r4, r5, r6, r7]) rfl ⟨_, rfl, ?_, ?_⟩
          · exact ((Ex.refl (fun i => w.heap.size ≤ i) _).set8 (B := w.heap.size + 1) (by omega)).below (unhide HBw) (fun i hi => by omega) (by omega)
          · exact SepT.mk (Or.inl ⟨unhide HNIL, rfl⟩)

end Go.Proofs.YtnclmlhmmljfgaaGreatDoor
