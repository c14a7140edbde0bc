/- The document's Join: its walk. -/
import Derived.Test.YtjkogjmbmkopiaaDoorRj
namespace Go.Proofs.YtjkogjmbmkopiaaDoor
open Go.RowKit

theorem own_below {w w' : World} {B : Nat} {v : Value} {a : List UInt8} (h : Own w B v a) (hb : Below w.heap.size w w') : Own w' B v a := by
  obtain ⟨h1, h2⟩ := h
  refine ⟨h1, ?_⟩
  rcases h2 with h2 | ⟨g, cap, cur, rfl, hB, hg, hr⟩
  · exact Or.inl h2
  · exact Or.inr ⟨g, cap, cur, rfl, hB, (hb.block g (Array.getElem?_eq_some_iff.1 hg).1).trans hg, hr⟩

theorem Own.alloc' {w : World} {B : Nat} {v : Value} {a : List UInt8} (h : Own w B v a) (o : Obj) : Own (w.alloc o) B v a := own_below h ((Below.refl _ _).alloc (Nat.le_refl _) _)

theorem Own.strN {w : World} {B n : Nat} {v : Value} {a t : List UInt8} (hn : n = a.length + t.length) (h : w.ownsRow B 5 1 v n (Lib.byteCells a ++ Lib.strCells (⟨t.toArray⟩ : ByteArray))) : Own w B v (a ++ t) := by
  subst hn
  exact Own.str (by rw [arr_size]; exact h)

theorem rok_eq (x : RT) (last : Bool) : (if x.k = 0 then last else wok x.k x.t.data.toList x.n) = (x.ok && (!decide (x.k = 0) || last)) := by
  unfold RT.ok
  by_cases h : x.k = 0
  · rw [if_pos h, decide_eq_true h]
    have : wok x.k x.t.data.toList x.n = true := by unfold wok; rw [if_pos (Or.inl h)]
    rw [this]
    cases last <;> rfl
  · rw [if_neg h, decide_eq_false h]
    cases wok x.k x.t.data.toList x.n <;> rfl

set_option maxRecDepth 100000 in
set_option maxHeartbeats 8000000 in
theorem refjoin_any {w : World} {b off cap : Nat} {l : List RT} (hr : RRow w b off l) (hf : RFit l) :
    Calls Tryd.prog 14 #[.slice (some ⟨b, off, none⟩) l.length cap] w fun e w' => e = jEnd l ∧ Below w.heap.size w w' := by
  obtain ⟨i0, hi0, hz0, hz1, hz2⟩ := info_parts Tryd.infoB
  have hlen := hf.len
  have HR := hide hr
  have HF := hide hf
  clear hr hf
  go_enter Tryd.func14, Tryd.ntmps14
  go_wp2
  go_loopw [4, 5] (fun v i wr => ∃ k : Nat, k ≤ l.length ∧ i = .int .i64 (k : Int) ∧ Below w.heap.size w wr ∧ Own wr w.heap.size v (acc l k) ∧ ∀ j (hj : j < l.length), j < k → (l[j].ok && (!decide (l[j].k = 0) || decide (j + 1 = l.length))) = true) (fun _ i _ => l.length - (intOf i).toNat)
  case atStart => exact ⟨0, by omega, rfl, Below.refl _ _, Own.nil _ _, fun j hj h => by omega⟩
  case round =>
    obtain ⟨k, hk, rfl, hB, hO, hok⟩ := hrel
    have hszr := hB.size
    have HB := hide hB
    have HO := hide hO
    by_cases hlt : k < l.length
    · obtain ⟨z0, z1, z2, z3, z4⟩ := ((unhide HR).below hB).cell k hlt
      obtain ⟨f1, f2, f3⟩ := (unhide HF).each _ (List.getElem_mem hlt)
      have hxl := tx_len (unhide HF) (List.getElem_mem hlt)
      have hal := acc_len (unhide HF) k
      have JN := hide (fun h => jok_no (l := l) hlt h)
      have JO := hide (show (l[k].ok && (!decide (l[k].k = 0) || decide (k + 1 = l.length))) = true → ∀ j (hj : j < l.length), j < k + 1 → (l[j].ok && (!decide (l[j].k = 0) || decide (j + 1 = l.length))) = true from fun h j hj hjk => if e : j = k then by subst e; exact h else hok j hj (by omega))
      have A1 := hide (fun h => acc_first hlt h)
      have A2 := hide (fun h => acc_next hlt h)
      clear hok hB hO
      generalize l[k] = x at *
      have ql : ((k : Int) == (l.length : Int) - 1) = decide (k + 1 = l.length) := by
        rw [Bool.eq_iff_iff, beq_iff_eq, decide_eq_true_eq]; omega
      obtain ⟨wx, rfl⟩ : ∃ q, q = wr := ⟨_, rfl⟩
      generalize hdl : decide (k + 1 = l.length) = dl at *
      clear hdl
      go_wp2_with fail
      refine (written_any x.k x.t x.n x.a x.l dl _ (by omega) f2 f3).mono ?_
      rintro e w2 ⟨rfl, b2⟩
      have HOw := hide (own_below (unhide HO) b2)
      have HBq := hide ((unhide HB).trans (b2.mono hszr))
      have hsz2 := b2.size
      clear b2 z0 z1 z2 z3 z4 HO HB
      have ew : rEnd x.k x.t.data.toList x.n dl = .returned (.tuple #[.string ⟨x.tx.toArray⟩, .bool (x.ok && (!decide (x.k = 0) || dl))]) := by unfold rEnd; rw [rok_eq]; rfl
      rw [ew]
      clear ew
      generalize hq : (x.ok && (!decide (x.k = 0) || dl)) = Q at *
      clear hq
      cases Q
      · have E := hide (jEnd_no (unhide JN rfl))
        clear JN JO A1 A2
        go_wp2
        go_ret2
        exact ⟨unhide E, unhide HBq⟩
      · have JT := hide (unhide JO rfl)
        clear JN JO
        by_cases hk0 : k = 0
        · subst hk0
          have A3 := hide (unhide A1 rfl)
          clear A1 A2
          rw [acc_zero] at HOw hal
          have HOW := HOw
          have HM1 : (([] : List UInt8)).length + (⟨x.tx.toArray⟩ : ByteArray).size ≤ maxLen := by rw [arr_size]; unfold maxLen; omega
          have HM2 : (([] : List UInt8)).length + (⟨x.tx.toArray⟩ : ByteArray).size ≤ 140737488355328 := by rw [arr_size]; omega
          have HM3 : w.heap.size ≤ w2.heap.size := by omega
          go_wp2_with (first | (at_builtin; refine Lib.wpList_append_own_string _ rfl _ _ 63 9 rfl w.heap.size 5 i0 Tryd.underlying63 Tryd.underlying9 hi0 hz0 hz1 hz2 _ _ _ rfl (unhide HOW) ⟨x.tx.toArray⟩ rfl HM1 HM2 HM3 ?_) | fail)
          intro v' w5 hv hgrow _
          have HO5 := hide (Own.strN (a := ([] : List UInt8)) (t := x.tx) (by simp) hv)
          have HB5 := hide ((unhide HBq).grown hgrow HM3 (fun j e => own_block (unhide HOW) j e))
          clear hv hgrow HOW HM1 HM2 HM3
          go_wp2
          go_roundw
          case rel => exact ⟨0 + 1, by omega, by go_num, unhide HB5, by rw [unhide A3]; simpa using unhide HO5, unhide JT⟩
          case measure => simp [intOf]; omega
        · have A3 := hide (unhide A2 hk0)
          have qk : decide (0 < k) = true := decide_eq_true (by omega)
          have hpos : 0 < k := by omega
          clear A1 A2 hk0
          have hm1 : (acc l k).length + 1 ≤ maxLen := by unfold maxLen; omega
          have hm2 : ((acc l k).length + 1) * 1 ≤ 140737488355328 := by omega
          go_wp2_with (first | (at_builtin; refine wpList_append_own _ rfl _ _ 63 rfl w.heap.size 5 i0 (.int .u8 0) 1 1 Tryd.underlying63 hi0 hz0 hz1 hz2 rfl (by decide) _ _ _ rfl ((unhide HOw).alloc' _) ⟨w2.heap.size, 0, none⟩ 1 1 [.int .u8 32] rfl rfl (one_new _ _ _) (by intro u hu; simp at hu; subst hu; rfl) hm1 hm2 (by rw [World.size_alloc]; omega) ?_) | fail)
          intro v4 w4 hv hgrow _
          have HO4 : Hid (Own w4 w.heap.size v4 (acc l k ++ [32])) := hide (Own.one (c := 32) hv)
          have HBq := hide (((unhide HBq).alloc (unhide HBq).size _).grown hgrow (by rw [World.size_alloc]; omega) (fun j e => own_block (unhide HOw) j e))
          have hsz4 := (unhide HBq).size
          have hal : (acc l k ++ [32]).length ≤ 70368744177001 := by rw [List.length_append]; simp; omega
          clear hv hgrow HOw hm1 hm2
          generalize acc l k ++ [32] = A at *
          have HOW := HO4
          have HM1 : (A).length + (⟨x.tx.toArray⟩ : ByteArray).size ≤ maxLen := by rw [arr_size]; unfold maxLen; omega
          have HM2 : (A).length + (⟨x.tx.toArray⟩ : ByteArray).size ≤ 140737488355328 := by rw [arr_size]; omega
          have HM3 : w.heap.size ≤ w4.heap.size := by omega
          go_wp2_with (first | (at_builtin; refine Lib.wpList_append_own_string _ rfl _ _ 63 9 rfl w.heap.size 5 i0 Tryd.underlying63 Tryd.underlying9 hi0 hz0 hz1 hz2 _ _ _ rfl (unhide HOW) ⟨x.tx.toArray⟩ rfl HM1 HM2 HM3 ?_) | fail)
          intro v' w5 hv hgrow _
          have HO5 := hide (Own.strN (a := A) (t := x.tx) (by simp) hv)
          have HB5 := hide ((unhide HBq).grown hgrow HM3 (fun j e => own_block (unhide HOW) j e))
          clear hv hgrow HOW HM1 HM2 HM3
          go_wp2
          go_roundw
          case rel => exact ⟨k + 1, by omega, by go_num, unhide HB5, by rw [unhide A3]; exact unhide HO5, unhide JT⟩
          case measure => simp [intOf]; omega
    · have e : k = l.length := by omega
      subst e
      have E := hide (jEnd_ok (jok_at fun i hi => hok i hi hi))
      rw [acc_all] at hO
      have hcv := own_conv hO
      clear hok hO hB HO
      go_wp2
      go_ret2
      exact ⟨unhide E, unhide HB⟩

end Go.Proofs.YtjkogjmbmkopiaaDoor
