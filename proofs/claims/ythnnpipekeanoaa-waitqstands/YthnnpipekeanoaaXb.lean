/- Layer 11: the law's own book of lists: put. -/
import Derived.Test.YthnnpipekeanoaaXa
namespace Go.Proofs.Ythnnpipekeanoaa
open Go.RowKit

def oneF (u : Value) : List Value := [u]
theorem oneF_len (u : Value) : (oneF u).length = 1 := rfl
/-- a row of lists -/
abbrev LsRow (w : World) (B : Nat) (v : Value) (l : List Value) : Prop := Row oneF 1 28 w B v l
theorem nfLs : (Try.prog.info? 28).map (fun i => (i.zero, i.size, i.bytes)) = some (some (.slice none 0 0), 1, 24) := by kernel_rfl
theorem oneF_one {a : Option Addr} {n c : Nat} : ∀ u ∈ oneF (.slice a n c), u.oneCell' = true := by simp [oneF, Value.oneCell']

set_option maxRecDepth 100000 in
set_option maxHeartbeats 4000000 in
theorem bput {W : World} {B B1 B2 T : Nat} {av bv tv lv wv v v' : Value} {ls ws : List Value} {rs : List Rc} (hT : W.heap[T]? = some (.cells #[av, bv, tv, lv, wv] 37 (0, 0))) (hl : LsRow W B lv ls) (hw : LsRow W B wv ws) (hne : ∀ x, lv.ownBlock = some x → ¬ wv.ownBlock = some x)
    (hv : RcRow W B1 v rs) (hv' : RcRow W B2 v' rs) (hr : rs.length ≤ 100000) (h1 : ls.length ≤ 100000) (h2 : ws.length ≤ 100000) (hB : B ≤ W.heap.size) :
    Calls Try.prog 29 #[.pointer (some ⟨T, 3, none⟩), v, v'] W fun e W' => e = .returned (.bool true) ∧ ∃ lv' wv', W'.heap[T]? = some (.cells #[av, bv, tv, lv', wv'] 37 (0, 0)) ∧ LsRow W' B lv' (ls ++ [v]) ∧ LsRow W' B wv' (ws ++ [v']) ∧ (∀ x, lv'.ownBlock = some x → ¬ wv'.ownBlock = some x) ∧ (∀ x, lv'.ownBlock = some x → lv.ownBlock = some x ∨ W.heap.size ≤ x) ∧ (∀ x, wv'.ownBlock = some x → wv.ownBlock = some x ∨ W.heap.size ≤ x) ∧ Ch (fun y => y = T ∨ lv.ownBlock = some y ∨ wv.ownBlock = some y) W W' := by
  obtain ⟨i1, hi1, hz1, hz2, hz3⟩ := nf_open nfLs
  obtain ⟨va, vn, vc, rfl⟩ := own_form hv
  obtain ⟨va', vn', vc', rfl⟩ := own_form hv'
  have y3 : W.cell? ⟨T, 3, none⟩ = some lv := by simp [Lib.cell_of_heap hT]
  have HT := hide hT
  have HL := hide hl
  have HW := hide hw
  have HV := hide hv
  have HV' := hide hv'
  have O1 := hide (oneF_one (a := va) (n := vn) (c := vc))
  have O2 := hide (oneF_one (a := va') (n := vn') (c := vc'))
  have HOW := hide (show (W.alloc (.cells #[.slice va vn vc] 28)).ownsRow B 28 1 lv ls.length (ls.flatMap oneF) from World.ownsRow.alloc hl _)
  have HN1 := hide (row_new W (oneF (.slice va vn vc)) 28 rfl)
  have HM1 := hide (show ls.length + 1 ≤ maxLen by unfold maxLen; omega)
  have HM2 := hide (show (ls.length + 1) * 24 ≤ 140737488355328 by omega)
  have HM3 := hide (show B ≤ (W.alloc (.cells #[.slice va vn vc] 28)).heap.size by simp; omega)
  have HNE := hide hne
  have HLI := hide (fun x hx => (own_in hl (g := x) hx).2.1)
  have HWI := hide (fun x hx => (own_in hw (g := x) hx).2.1)
  have hTW := (Array.getElem?_eq_some_iff.1 hT).1
  clear hT hl hw hne hv hv'
  go_enter Try.func29, Try.ntmps29
  go_wp2_with (at_builtin; refine wpList_append_own_at _ rfl _ _ 33 rfl B 28 i1 (.slice none 0 0) 1 24 Try.underlying33 hi1 hz1 hz2 hz3 rfl (by decide) _ ls.length (ls.flatMap oneF) rfl HOW.out ⟨W.heap.size, 0, none⟩ 1 1 (oneF (.slice va vn vc)) rfl rfl HN1.out O1.out HM1.out HM2.out HM3.out ?_)
  intro lv' w5 hown5 hgrow5 _ hat5
  have s0 := World.size_alloc W (.cells #[.slice va vn vc] 28)
  have C5 := (Ch.alloc (Q := fun y => lv.ownBlock = some y) W (.cells #[.slice va vn vc] 28)).trans (Ch.of_grown (Q := fun y => lv.ownBlock = some y) hgrow5 (fun _ e => e)) (fun _ _ h => h)
  have R5 := hide (show LsRow w5 B lv' (ls ++ [.slice va vn vc]) from Row.snoc hown5)
  obtain ⟨a5, n5, c5, e5⟩ := own_form hown5
  subst e5
  have HA5 := hide hat5
  have b5 := C5.box HT.out (fun e => own_box HL.out HT.out (by decide) e)
  have W5 := hide (HW.out.ch C5 (fun x hx e => HNE.out x e hx))
  have V5 := hide (HV.out.ch C5 (fun x hx e => own_ne HV.out HL.out (by decide) x hx e))
  have V5' := hide (HV'.out.ch C5 (fun x hx e => own_ne HV'.out HL.out (by decide) x hx e))
  have y5 : w5.cell? ⟨T, 3, none⟩ = some lv := by simp [Lib.cell_of_heap b5]
  have f5 : ∀ j, w5.frozen? ⟨T, j, none⟩ = false := fun j => by simp [World.frozen?, b5]
  have y54 : w5.cell? ⟨T, 4, none⟩ = some wv := by simp [Lib.cell_of_heap b5]
  have HC5 := hide C5
  have B5 := hide b5
  have hs5 := C5.size
  clear hown5 hgrow5 hat5 b5 C5
  have c6 := Ch.set (Q := fun y => y = T) w5 rfl 3 (.slice a5 n5 c5)
  have b6 : (w5.setCell ⟨T, 3, none⟩ (.slice a5 n5 c5)).heap[T]? = some (.cells #[av, bv, tv, .slice a5 n5 c5, wv] 37 (0, 0)) := by rw [heap_set B5.out 3 _]; rfl
  have R6 := hide (R5.out.ch c6 (fun x hx e => by subst e; exact own_box R5.out B5.out (by decide) hx))
  have W6 := hide (W5.out.ch c6 (fun x hx e => by subst e; exact own_box W5.out B5.out (by decide) hx))
  have V6 := hide (V5.out.ch c6 (fun x hx e => by subst e; exact own_box V5.out B5.out (by decide) hx))
  have V6' := hide (V5'.out.ch c6 (fun x hx e => by subst e; exact own_box V5'.out B5.out (by decide) hx))
  have s6 := c6.size
  have e6 : (w5.setCell ⟨T, 3, none⟩ (.slice a5 n5 c5)).heap.size = w5.heap.size := size_set _ _ _
  have C6 := hide ((HC5.out.mono (Q' := fun y => y = T ∨ lv.ownBlock = some y ∨ wv.ownBlock = some y) (fun _ _ h => Or.inr (Or.inl h))).trans c6 (fun _ _ h => Or.inl h))
  have HB6 := hide b6
  clear b6 c6
  obtain ⟨w6, hw6⟩ : ∃ w6, w5.setCell ⟨T, 3, none⟩ (.slice a5 n5 c5) = w6 := ⟨_, rfl⟩
  rw [hw6] at R6 W6 V6 V6' s6 e6 C6 HB6
  have Hw6 := hide hw6
  clear hw6
  have HPW := hide (show (w6.alloc (.cells #[.slice va' vn' vc'] 28)).ownsRow B 28 1 wv ws.length (ws.flatMap oneF) from World.ownsRow.alloc W6.out _)
  have HN2 := hide (row_new w6 (oneF (.slice va' vn' vc')) 28 e6)
  have HK1 := hide (show ws.length + 1 ≤ maxLen by unfold maxLen; omega)
  have HK2 := hide (show (ws.length + 1) * 24 ≤ 140737488355328 by omega)
  have HK3 := hide (show B ≤ (w6.alloc (.cells #[.slice va' vn' vc'] 28)).heap.size by simp; omega)
  go_wp2_with (at_builtin; rw [Hw6.out]; refine wpList_append_own_at _ rfl _ _ 33 rfl B 28 i1 (.slice none 0 0) 1 24 Try.underlying33 hi1 hz1 hz2 hz3 rfl (by decide) _ ws.length (ws.flatMap oneF) rfl HPW.out ⟨w5.heap.size, 0, none⟩ 1 1 (oneF (.slice va' vn' vc')) rfl rfl HN2.out O2.out HK1.out HK2.out HK3.out ?_)
  intro wv' w7 hown7 hgrow7 _ hat7
  have s7 := World.size_alloc w6 (.cells #[.slice va' vn' vc'] 28)
  have C7 := (Ch.alloc (Q := fun y => wv.ownBlock = some y) w6 (.cells #[.slice va' vn' vc'] 28)).trans (Ch.of_grown (Q := fun y => wv.ownBlock = some y) hgrow7 (fun _ e => e)) (fun _ _ h => h)
  have R7 := hide (show LsRow w7 B wv' (ws ++ [.slice va' vn' vc']) from Row.snoc hown7)
  obtain ⟨a7, n7, c7, e7⟩ := own_form hown7
  subst e7
  have HA7 := hide hat7
  have b7 := C7.box HB6.out (fun e => own_box W6.out HB6.out (by decide) e)
  have hne6 : ∀ x, (Value.slice a5 n5 c5).ownBlock = some x → ¬ wv.ownBlock = some x := fun x hx e => HA5.out.elim (fun h => HNE.out x (h.symm.trans hx) e) (fun h => by
    have := HWI.out x e
    rw [h] at hx
    injection hx with hx
    omega)
  have L7 := hide (R6.out.ch C7 (fun x hx e => hne6 x hx e))
  have V7 := hide (V6.out.ch C7 (fun x hx e => own_ne V6.out W6.out (by decide) x hx e))
  have V7' := hide (V6'.out.ch C7 (fun x hx e => own_ne V6'.out W6.out (by decide) x hx e))
  have y7 : w7.cell? ⟨T, 4, none⟩ = some wv := by simp [Lib.cell_of_heap b7]
  have f7 : ∀ j, w7.frozen? ⟨T, j, none⟩ = false := fun j => by simp [World.frozen?, b7]
  have c8 := Ch.set (Q := fun y => y = T) w7 rfl 4 (.slice a7 n7 c7)
  have b8 : (w7.setCell ⟨T, 4, none⟩ (.slice a7 n7 c7)).heap[T]? = some (.cells #[av, bv, tv, .slice a5 n5 c5, .slice a7 n7 c7] 37 (0, 0)) := by rw [heap_set b7 4 _]; rfl
  have L8 := hide (L7.out.ch c8 (fun x hx e => by subst e; exact own_box L7.out b7 (by decide) hx))
  have R8 := hide (R7.out.ch c8 (fun x hx e => by subst e; exact own_box R7.out b7 (by decide) hx))
  have V8 := hide (V7.out.ch c8 (fun x hx e => by subst e; exact own_box V7.out b7 (by decide) hx))
  have V8' := hide (V7'.out.ch c8 (fun x hx e => by subst e; exact own_box V7'.out b7 (by decide) hx))
  have C8 := hide ((C6.out.trans C7 (fun _ _ h => Or.inr (Or.inr h))).trans c8 (fun _ _ h => Or.inl h))
  have e8 : (w7.setCell ⟨T, 4, none⟩ (.slice a7 n7 c7)).heap.size = w7.heap.size := size_set _ _ _
  have s8 := C7.size
  have B8 := hide b8
  clear hown7 hgrow7 hat7 C7 b7 c8 b8
  obtain ⟨w8, hw8⟩ : ∃ w8, w7.setCell ⟨T, 4, none⟩ (.slice a7 n7 c7) = w8 := ⟨_, rfl⟩
  rw [hw8] at L8 R8 V8 V8' C8 e8 B8
  have Hw8 := hide hw8
  clear hw8
  have SM := hide (sameW V8.out V8'.out hr)
  go_wp2_with (go_at_call 12; rw [Hw8.out]; refine SM.out.mono ?_; rintro e w9 ⟨rfl, hb9⟩; have HB9 := hide hb9; clear hb9)
  rename_i w9 HB9
  refine bodyPost_ret (v := .bool true) (by simp [results, Try.results29, go_sem]) rfl ⟨rfl, .slice a5 n5 c5, .slice a7 n7 c7, ?_⟩
  have c9 := Ch.of_below (Q := fun _ => False) HB9.out
  refine ⟨c9.box B8.out (fun h => h), L8.out.ch c9 (fun _ _ h => h), R8.out.ch c9 (fun _ _ h => h), fun x hx hx' => ?_, fun x hx => ?_, fun x hx => ?_, C8.out.trans c9 (fun _ _ h => h.elim)⟩
  · rcases HA7.out with h | h
    · exact hne6 x hx (h.symm.trans hx')
    · rw [h] at hx'
      injection hx' with hx'
      rcases HA5.out with k | k
      · have := HLI.out x (k.symm.trans hx)
        omega
      · have := (own_in R5.out hx).2.1
        rw [k] at hx
        injection hx with hx
        omega
  · rcases HA5.out with k | k
    · exact Or.inl (k.symm.trans hx)
    · rw [k] at hx
      injection hx with hx
      exact Or.inr (by omega)
  · rcases HA7.out with k | k
    · exact Or.inl (k.symm.trans hx)
    · rw [k] at hx
      injection hx with hx
      exact Or.inr (by omega)

end Go.Proofs.Ythnnpipekeanoaa
