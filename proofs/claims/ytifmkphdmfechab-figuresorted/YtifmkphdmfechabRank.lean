/- Rank: the places in the order of what stands there, by the library's sort. -/
import Derived.Test.YtifmkphdmfechabRefRank
import Derived.Test.YtifmkphdmfechabSortLay
namespace Go.Proofs.Ytifmkphdmfechab
open Go.RowKit

theorem sw_block {α : Type} [Inhabited α] (enc : α → Value) (w : World) (C off m : Nat) (dk : Array α) (os : Array Obj) {k : Nat} (hk : k < w.heap.size) (hne : k ≠ C) :
    (sortWorld enc w C off m dk os).heap[k]? = w.heap[k]? := by
  unfold sortWorld
  rw [Go.Sort.heap_grow_old _ _ (by rw [size_putRow]; exact hk)]
  simp only [Go.Sort.putRow, Go.Sort.mapBlock, Array.getElem?_modify]
  rw [if_neg (fun e => hne e.symm)]
  rfl

theorem sw_keep {α : Type} [Inhabited α] (enc : α → Value) (w : World) (C off m : Nat) (dk : Array α) (os : Array Obj) : Keep C w (sortWorld enc w C off m dk os) :=
  ⟨rfl, rfl, rfl, by unfold sortWorld; rw [Go.Sort.size_grow, size_putRow]; exact Nat.le_add_right _ _, fun k hk hne => sw_block enc w C off m dk os hk (fun e => hne (by rw [e]))⟩

theorem sw_blk {α : Type} [Inhabited α] (enc : α → Value) (w : World) (C off m n : Nat) (dk : Array α) (os : Array Obj) {e : TypeId} (h : Blk w C n e) : Blk (sortWorld enc w C off m dk os) C n e := by
  have hl := h.lt
  obtain ⟨cur, h1, h2⟩ := h
  refine ⟨Go.Sort.putCells enc off dk cur, ?_, by simp [Go.Sort.putCells, h2]⟩
  unfold sortWorld
  rw [Go.Sort.heap_grow_old _ _ (by rw [size_putRow]; exact hl)]
  simp only [Go.Sort.putRow, Go.Sort.mapBlock, Array.getElem?_modify]
  rw [if_pos trivial]
  show (w.heap[C]?).map _ = _
  rw [h1]; rfl

/-- the comparison, of places that there are -/
def cfF (zs : Nat → Nat) (n : Nat) (x y : Fin n) : Int := cfr zs x.val y.val
def encF (n : Nat) (x : Fin n) : Value := .int .i64 (x.val : Int)

theorem ltF (zs : Nat → Nat) (n : Nat) (x y : Fin n) : ltOf (cfF zs n) x y = rlt zs x.val y.val := cfr_neg zs x.val y.val

theorem swoF (zs : Nat → Nat) (n : Nat) : Go.Sort.SWO (ltOf (cfF zs n)) where
  irrefl x := by rw [ltF, rlt_no]; omega
  trans x y z h1 h2 := by rw [ltF, rlt_iff] at *; omega
  ntrans x y z h1 h2 := by rw [ltF, rlt_no] at *; omega

theorem drewN_alloc (W : World) (o : Obj) (q : Nat) : (W.alloc o).drewN q = Go.Sort.grow (W.drewN q) #[o] := by
  rw [Go.Sort.alloc_eq_grow]; rfl

theorem cmp_lays {w : World} {bx b off n cap C : Nat} {zs : Nat → Nat} [Inhabited (Fin n)] (hbn : bx ≠ C) (hbC : b ≠ C)
    (hbox : w.cell? ⟨bx, 0, none⟩ = some (.slice (some ⟨b, off, none⟩) n cap)) (hc : ∀ k, k < n → w.cell? ⟨b, off + k, none⟩ = some (.float .f64 (zs k))) :
    CmpLays1 Try.prog 19 #[.pointer (some ⟨bx, 0, none⟩)] (encF n) (cfF zs n) C 0 n w := by
  intro m os dk _ x y
  have hK := sw_keep (encF n) w C 0 m dk os
  have h := closure_any bx b off n cap x.val y.val zs (sortWorld (encF n) w C 0 m dk os) x.isLt y.isLt (World.grownBy.cell hK hbox (by intro e; exact hbn (Option.some.inj e)))
    (World.grownBy.cell hK (hc x.val x.isLt) (by intro e; exact hbC (Option.some.inj e))) (World.grownBy.cell hK (hc y.val y.isLt) (by intro e; exact hbC (Option.some.inj e)))
  exact h.mono fun e w' ⟨he, q, o, hw⟩ => ⟨he, q, #[o], by rw [hw, drewN_alloc]⟩

theorem perm_ranked {zs : Nat → Nat} {n : Nat} [Inhabited (Fin n)] {d d' : Array (Fin n)} (hd : d = Array.ofFn (fun i : Fin n => i)) (hp : Go.Sort.PermIn 0 d.size d d') (hs : Go.Sort.SortedIn (ltOf (cfF zs n)) 0 d.size d') :
    d'.size = n ∧ Ranked zs n (fun p => (d'[p]!).val) := by
  have hdn : d.size = n := by rw [hd]; simp
  obtain ⟨hsz, _, hperm⟩ := hp
  have e1 : d'.extract 0 d.size = d' := by rw [← hsz]; exact Array.extract_size
  rw [e1, Array.extract_size] at hperm
  have hnd : d'.toList.Nodup := by
    refine hperm.nodup_iff.2 ?_
    rw [hd, Array.toList_ofFn]
    rw [List.nodup_iff_pairwise_ne, List.pairwise_iff_getElem]
    intro i j hi hj hij
    simp only [List.getElem_ofFn]
    intro h
    have := congrArg Fin.val h
    simp at this
    omega
  refine ⟨by omega, fun p _ => (d'[p]!).isLt, fun p q hpq hq => ?_⟩
  have hne : (d'[p]!).val ≠ (d'[q]!).val := by
    intro h
    have h' : d'[p]! = d'[q]! := Fin.ext h
    rw [getElem!_pos d' p (by omega), getElem!_pos d' q (by omega)] at h'
    rw [List.nodup_iff_pairwise_ne, List.pairwise_iff_getElem] at hnd
    exact hnd p q (by simpa using (show p < d'.size by omega)) (by simpa using (show q < d'.size by omega)) hpq (by simpa using h')
  have h1 := hs p q (Nat.zero_le _) hpq (by omega)
  rw [ltF] at h1
  rcases rlt_total zs hne with h | h
  · exact h
  · rw [h] at h1; cases h1

theorem fill_step {wr : World} {C k : Nat} {u : Value} (hu : wr.cell? ⟨C, k, none⟩ = some u) (h : ∀ j, j < k → wr.cell? ⟨C, j, none⟩ = some (.int .i64 j)) :
    ∀ j, j < k + 1 → (wr.setCell ⟨C, k, none⟩ (.int .i64 k)).cell? ⟨C, j, none⟩ = some (.int .i64 j) := by
  intro j hj
  by_cases e : j = k
  · subst e; exact World.cell?_setCell_same _ _ _ hu
  · rw [World.cell?_setCell_other _ _ _ _ (by intro h1; injection h1 with _ h1 _; exact e h1.symm)]
    exact h j (by omega)

set_option maxHeartbeats 2000000 in
theorem rank_any {w : World} {a : Option Addr} {n cap : Nat} {zs : Nat → Nat} (hR : Row w a n zs) (hn : n ≤ 17592186044416) :
    Calls Try.prog 8 #[.slice a n cap] w fun e w' => ∃ rs : Nat → Nat, e = .returned (.slice (some ⟨w.heap.size + 1, 0, none⟩) n n) ∧ Ranked zs n rs ∧ (∀ p, p < n → w'.cell? ⟨w.heap.size + 1, p, none⟩ = some (.int .i64 (rs p))) ∧ Blk w' (w.heap.size + 1) n 3 ∧ Below w.heap.size w w' := by
  have HR := hide hR
  have hmk := fun w => mk_ints n w (by omega)
  clear hR
  go_enter Try.func8, Try.ntmps8
  go_wp2
  clear hmk
  go_loopw [10] (fun i wr => ∃ k : Nat, k ≤ n ∧ i = .int .i64 k ∧ (∀ j, j < k → wr.cell? ⟨w.heap.size + 1, j, none⟩ = some (.int .i64 j)) ∧ Blk wr (w.heap.size + 1) n 3 ∧ wr.cell? ⟨w.heap.size, 0, none⟩ = some (.slice a n cap) ∧ Below w.heap.size w wr) (fun i _ => n - (intOf i).toNat)
  case atStart =>
    refine ⟨0, by omega, rfl, fun j hj => by omega, ?_, ?_, ((Below.refl _ _).alloc (Nat.le_refl _) _).alloc (by simp) _⟩
    · have h := blk_ints (w.alloc (.cells #[.slice a n cap] 26)) n
      rw [World.size_alloc] at h
      exact h
    · rw [World.cell?_alloc_lt _ _ _ (by simp), World.cell?_alloc_new]; rfl
  case round =>
    obtain ⟨k, hk, rfl, hcs, hBk, hbox, hB⟩ := hrel
    by_cases hlt : k < n
    · obtain ⟨u, hu⟩ := hBk.cell k hlt
      have hfz := hBk.froz k
      have S1 := hide (fill_step hu hcs)
      have S2 := hide (hBk.set k (.int .i64 k))
      have S3 : Hid ((wr.setCell ⟨w.heap.size + 1, k, none⟩ (.int .i64 k)).cell? ⟨w.heap.size, 0, none⟩ = some (.slice a n cap)) := by
        show _ = _
        rw [World.cell?_setCell_other _ _ _ _ (by intro e; injection e with e _ _; omega)]
        exact hbox
      have S4 := hide (hB.setCell (p := ⟨w.heap.size + 1, k, none⟩) (Nat.le_succ _) (.int .i64 k))
      clear hcs hBk hbox hB
      go_wp2
      go_roundw
      case rel => exact ⟨k + 1, by omega, by go_num, unhide S1, unhide S2, unhide S3, unhide S4⟩
      case measure => simp [intOf]; omega
    · have e : k = n := by omega
      subst e
      by_cases h0 : k = 0
      · subst h0
        have hS := fun W => AnyF.slices_SortFunc_none (P := Try.prog) (ρ := sortL_ren) { sortL with } (some ⟨w.heap.size + 1, 0, none⟩) 0 (.func (.func 19) #[] #[.pointer (some ⟨w.heap.size, 0, none⟩)]) W
        change ∀ W, Calls Try.prog 18 _ _ _ at hS
        have H2 := hide hBk
        have H3 := hide hB
        clear hcs hBk hbox hB
        go_wp2_with (go_at_call 18; refine (hS _).mono ?_; rintro e w' ⟨rfl, rfl⟩)
        go_ret
        exact ⟨fun _ => 0, rfl, ⟨fun p hp => by omega, fun p q _ hq => by omega⟩, fun p hp => by omega, unhide H2, unhide H3⟩
      · obtain ⟨b, off, rfl, hb, hc⟩ := (unhide HR).at (by omega)
        have hin : Inhabited (Fin k) := ⟨⟨0, by omega⟩⟩
        obtain ⟨d, hd⟩ : ∃ d : Array (Fin k), d = Array.ofFn (fun i : Fin k => i) := ⟨_, rfl⟩
        have hdn : d.size = k := by rw [hd]; simp
        have eg : ∀ args w, (callFunc 19 args).run Try.prog w = .ok (.enter 19 args) w := enters_of Try.func19 (by kernel_rfl) rfl
        have hH : Go.Sort.Holds (encF k) wr (w.heap.size + 1) 0 d := by
          intro j hj
          refine ⟨?_, by rw [Nat.zero_add]; exact hBk.froz j⟩
          rw [Nat.zero_add, hcs j (by omega), getElem!_pos d j hj]
          subst hd
          simp [encF]
        have hcmp := cmp_lays (w := wr) (C := w.heap.size + 1) (by omega) (by omega) hbox (fun i hi => (hB.cell (p := ⟨b, off + i, none⟩) hb).trans (hc i hi))
        have hS := Any.slices_SortFunc sortL (encF k) (fun _ => rfl) (cfF zs k) (swoF zs k) 19 #[.pointer (some ⟨w.heap.size, 0, none⟩)] (w.heap.size + 1) 0 k d wr eg (by rw [hdn]; exact hcmp) hH hBk.lt (by omega)
        rw [hdn] at hS
        change Calls Try.prog 18 _ _ _ at hS
        have H1 := hide hH
        have H2 := hide hBk
        have H3 := hide hB
        have H4 := hide hd
        have H5 := hide hdn
        clear hcs hBk hbox hB hc hb hH hcmp eg hd hdn
        go_wp2_with (go_at_call 18; refine hS.mono ?_; rintro e w' ⟨rfl, d', m, os, hp, hs, rfl⟩)
        go_ret
        have hpr := perm_ranked (zs := zs) (unhide H4) (by rw [unhide H5]; exact hp) (by rw [unhide H5]; exact hs)
        refine ⟨fun p => (d'[p]!).val, rfl, hpr.2, fun p hp' => ?_, sw_blk _ _ _ _ _ _ _ _ (unhide H2), Keep.below (unhide H3) (Nat.le_succ _) (sw_keep _ _ _ _ _ _ _)⟩
        have hh := holds_sortWorld (encF k) wr (w.heap.size + 1) 0 m d d' os (unhide H2).lt (unhide H1) (by rw [hpr.1, unhide H5]) p (by omega)
        rw [Nat.zero_add] at hh
        exact hh.1

end Go.Proofs.Ytifmkphdmfechab
