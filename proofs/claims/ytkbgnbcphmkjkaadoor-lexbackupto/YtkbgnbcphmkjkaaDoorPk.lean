/- The program's Join: its walk. -/
import Derived.Test.YtkbgnbcphmkjkaaDoorPj
import Derived.Lib.ItoaLen
namespace Go.Proofs.YtkbgnbcphmkjkaaDoor
open Go.RowKit

theorem wtx_len (k : Int) (t : List UInt8) (n : Int) (hn0 : -9223372036854775808 ≤ n) (hn1 : n ≤ 9223372036854775807) : (wtx k t n).length ≤ 2 * t.length + 40 := by
  unfold wtx
  split
  · omega
  split
  · have := Lib.itoa_length_le n hn0 hn1
    omega
  split
  · have := quo_len t; omega
  split
  · simp
  · simp

theorem join_len : ∀ (xs : List (List UInt8)) (M : Nat), (∀ x ∈ xs, x.length ≤ M) → (Lib.join xs [32]).length ≤ xs.length * (M + 1) := by
  intro xs M h
  unfold Lib.join List.intercalate
  induction xs with
  | nil => simp
  | cons x r ih =>
    have hx := h x (List.mem_cons_self ..)
    have hr := ih (fun y hy => h y (List.mem_cons_of_mem _ hy))
    cases r with
    | nil => simp; omega
    | cons y r' =>
      simp only [List.intersperse_cons_cons, List.flatten_cons, List.length_append, List.length_cons] at hr ⊢
      rw [Nat.succ_mul]
      simp at hr ⊢
      omega

theorem jtx_len {l : List RT} (h : RFit l) : (jtx l).length ≤ 140737488355328 := by
  unfold jtx
  have h1 := join_len (l.map RT.tx) 2097200 (fun x hx => by
    obtain ⟨y, hy, rfl⟩ := List.mem_map.1 hx
    obtain ⟨e1, e2, e3⟩ := h.each y hy
    have := wtx_len y.k y.t.data.toList y.n e2 e3
    rw [← size_len] at this
    unfold RT.tx
    omega)
  rw [List.length_map] at h1
  have := h.len
  have : l.length * (2097200 + 1) ≤ 1048576 * (2097200 + 1) := Nat.mul_le_mul_right _ h.len
  omega

/-- the text of the token at a place -/
def txAt (l : List RT) (j : Nat) : ByteArray := match l[j]? with | some x => ⟨x.tx.toArray⟩ | none => ByteArray.empty

theorem txAt_at {l : List RT} {j : Nat} (h : j < l.length) : txAt l j = ⟨l[j].tx.toArray⟩ := by unfold txAt; rw [List.getElem?_eq_getElem h]

theorem join_row {w : World} {G : Nat} {l : List RT} (hf : RFit l) (h : w.rowIs G 9 l.length (fun j => .string (txAt l j))) :
    Calls Tryd.prog 8 #[.slice (some ⟨G, 0, none⟩) l.length l.length, .string ⟨#[32]⟩] w fun e w' => e = .returned (.string ⟨(jtx l).toArray⟩) ∧ Below w.heap.size w w' := by
  have key := join_any G (l.map fun x => (⟨x.tx.toArray⟩ : ByteArray)) w (fun j x hx => by
    rw [List.getElem?_map] at hx
    obtain ⟨y, hy, rfl⟩ := Option.map_eq_some_iff.1 hx
    obtain ⟨hj, e⟩ := List.getElem?_eq_some_iff.1 hy
    rw [Nat.zero_add, h.cell hj, txAt_at hj, e]) h.lt (by rw [List.length_map]; have := hf.len; omega) (by
    have := jtx_len hf
    unfold jtx at this
    rw [List.map_map]
    have e : (List.map ((fun x : ByteArray => x.data.toList) ∘ fun x : RT => (⟨x.tx.toArray⟩ : ByteArray)) l) = l.map RT.tx := List.map_congr_left fun x _ => by simp
    rw [e]
    exact this)
  rw [List.length_map, List.map_map] at key
  have e : (List.map ((fun x : ByteArray => x.data.toList) ∘ fun x : RT => (⟨x.tx.toArray⟩ : ByteArray)) l) = l.map RT.tx := List.map_congr_left fun x _ => by simp
  rw [e] at key
  exact key

theorem jEnd_no {l : List RT} (h : jok l = false) : Ending.returned (.tuple #[.string ⟨#[]⟩, .int .i64 1]) = jEnd l := by unfold jEnd; rw [h]; rfl
theorem jEnd_ok {l : List RT} (h : jok l = true) : Ending.returned (.tuple #[.string ⟨(jtx l).toArray⟩, .int .i64 0]) = jEnd l := by unfold jEnd; rw [h]; rfl

theorem row_step {l : List RT} {k : Nat} {X : ByteArray} (h : txAt l k = X) (i : Nat) : (if i = k then Value.string X else if i < k then .string (txAt l i) else .string ByteArray.empty) = if i < k + 1 then .string (txAt l i) else .string ByteArray.empty := by
  by_cases e : i = k
  · subst e
    rw [if_pos rfl, if_pos (by omega), h]
  · rw [if_neg e]
    by_cases e2 : i < k
    · rw [if_pos e2, if_pos (by omega)]
    · rw [if_neg e2, if_neg (by omega)]

set_option maxRecDepth 100000 in
set_option maxHeartbeats 8000000 in
theorem lexjoin_any (HW : WriteOk) {w : World} {b off cap : Nat} {l : List RT} (hr : RRow w b off l) (hf : RFit l) (hV : Tab w) :
    Calls Tryd.prog 4 #[.slice (some ⟨b, off, none⟩) l.length cap] w fun e w' => e = jEnd l ∧ Below w.heap.size w w' := by
  have hlen := hf.len
  have hmk := run_make_row' (P := Tryd.prog) 35 9 (.string ByteArray.empty) 16 Tryd.underlying35 Tryd.infoS rfl .i64 .i64 l.length (by omega) (by omega)
  have HR := hide hr
  have HV := hide hV
  have HF := hide hf
  have HM := hide (World.rowIs_made w (.string ByteArray.empty) l.length 9)
  have HB0 := hide ((Below.refl w.heap.size w).alloc (Nat.le_refl _) (.cells (madeCells #[.string ByteArray.empty] l.length) 9))
  clear hr hV hf
  go_enter Tryd.func4, Tryd.ntmps4
  go_wp2
  clear hmk
  generalize w.alloc (.cells (madeCells #[.string ByteArray.empty] l.length) 9) = w0 at *
  go_loopw [14] (fun i wr => ∃ k : Nat, k ≤ l.length ∧ i = .int .i64 (k : Int) ∧ Below w.heap.size w wr ∧ wr.rowIs w.heap.size 9 l.length (fun j => if j < k then .string (txAt l j) else .string ByteArray.empty) ∧ ∀ j (hj : j < l.length), j < k → (l[j].ok && (!decide (l[j].k = 0) || decide (j + 1 = l.length))) = true) (fun i _ => l.length - (intOf i).toNat)
  case atStart => exact ⟨0, by omega, rfl, unhide HB0, (unhide HM).congr fun i _ => by rw [if_neg (by omega)], fun j hj h => by omega⟩
  case round =>
    clear HM HB0
    obtain ⟨k, hk, rfl, hB, hrow, hok⟩ := hrel
    have hszr := hB.size
    have HB := hide hB
    have HRW := hide hrow
    by_cases hlt : k < l.length
    · obtain ⟨z0, z1, z2, z3, z4⟩ := ((unhide HR).below hB).cell k hlt
      obtain ⟨f1, f2, f3⟩ := (unhide HF).each _ (List.getElem_mem hlt)
      have TXA := hide (txAt_at hlt)
      have HOK := hide hok
      have JN := hide (fun h => jok_no (l := l) hlt h)
      have JO := hide (show (l[k].ok && (!decide (l[k].k = 0) || decide (k + 1 = l.length))) = true → ∀ j (hj : j < l.length), j < k + 1 → (l[j].ok && (!decide (l[j].k = 0) || decide (j + 1 = l.length))) = true from fun h j hj hjk => if e : j = k then by subst e; exact h else hok j hj (by omega))
      clear hok
      generalize l[k] = x at *
      have hnb := (Below.refl wr.heap.size wr).alloc (Nat.le_refl _) (.cells #[.int .i64 x.k, .string x.t, .int .i64 x.n, .int .i64 x.a, .int .i64 x.l] 28)
      have HTH := hide (MapKept.heap_alloc wr (.cells #[.int .i64 x.k, .string x.t, .int .i64 x.n, .int .i64 x.a, .int .i64 x.l] 28)).1
      have HBn := hide ((unhide HB).trans (hnb.mono hszr))
      have HVn := hide ((unhide HV).below (unhide HBn))
      have HRn := hide (hrow.of_block (hnb.block w.heap.size hrow.lt))
      have hgl := hrow.lt
      clear hB hrow hnb
      obtain ⟨wx, rfl⟩ : ∃ q, q = wr := ⟨_, rfl⟩
      go_wp2_with fail
      refine (HW x.k x.t x.n x.a x.l _ (by omega) f2 f3 (unhide HVn)).mono ?_
      rintro e w2 ⟨rfl, b2⟩
      have e2 := (b2.block wx.heap.size (by rw [World.size_alloc]; omega)).trans (unhide HTH)
      have t0 : w2.cell? ⟨wx.heap.size, 0, none⟩ = some (.int .i64 x.k) := by simp [World.cell?, e2]
      have HB2 := hide ((unhide HBn).trans (b2.mono (unhide HBn).size))
      have HR2 := hide ((unhide HRn).of_block (b2.block w.heap.size (by rw [World.size_alloc]; omega)))
      have c2 := (unhide HR2).cell hlt
      have f2' := fun i => (unhide HR2).frozen i
      clear b2 e2 HBn HVn HRn HTH z0 z1 z2 z3 z4
      have ew : wEnd x.k x.t.data.toList x.n = .returned (.tuple #[.string ⟨x.tx.toArray⟩, .bool x.ok]) := rfl
      rw [ew]
      clear ew
      cases ho : x.ok
      · have E := hide (jEnd_no (unhide JN (by rw [ho]; rfl)))
        clear JN JO HOK
        go_wp2
        go_ret2
        exact ⟨unhide E, unhide HB2⟩
      · by_cases hk0 : x.k = 0
        · have q0 : (x.k == 0) = true := by rw [hk0]; rfl
          by_cases hl1 : k + 1 = l.length
          · have qi : decide ((k : Int) < (l.length : Int) - 1) = false := decide_eq_false (by omega)
            have JT : (x.ok && (!decide (x.k = 0) || decide (k + 1 = l.length))) = true := by rw [ho, decide_eq_true hl1, Bool.or_true]; rfl
            have JT := hide JT
            clear JN HOK
            go_wp2
            go_roundw
            case rel => exact ⟨k + 1, by omega, by go_num, (unhide HB2).setCell (Nat.le_refl _) _, ((unhide HR2).set k _).congr (fun i hi => row_step (unhide TXA) i), unhide JO (unhide JT)⟩
            case measure => simp [intOf]; omega
          · have qi : decide ((k : Int) < (l.length : Int) - 1) = true := decide_eq_true (by omega)
            have E := hide (jEnd_no (unhide JN (by rw [ho, decide_eq_true hk0, decide_eq_false hl1]; rfl)))
            clear JN JO HOK
            go_wp2
            go_ret2
            exact ⟨unhide E, unhide HB2⟩
        · have q0 : (x.k == 0) = false := beq_false_of_ne hk0
          have JT : (x.ok && (!decide (x.k = 0) || decide (k + 1 = l.length))) = true := by rw [ho, decide_eq_false hk0]; rfl
          have JT := hide JT
          clear JN HOK
          go_wp2
          go_roundw
          case rel => exact ⟨k + 1, by omega, by go_num, (unhide HB2).setCell (Nat.le_refl _) _, ((unhide HR2).set k _).congr (fun i hi => row_step (unhide TXA) i), unhide JO (unhide JT)⟩
          case measure => simp [intOf]; omega
    · have e : k = l.length := by omega
      subst e
      have E := hide (jEnd_ok (jok_at fun i hi => hok i hi hi))
      have HRx := hide (hrow.congr (g := fun j => .string (txAt l j)) fun i hi => by rw [if_pos hi])
      clear hok hrow hB HRW
      go_wp2_with fail
      refine (join_row (unhide HF) (unhide HRx)).mono ?_
      rintro e w2 ⟨rfl, b2⟩
      have HB2 := hide ((unhide HB).trans (b2.mono hszr))
      clear b2
      go_wp2
      go_ret2
      exact ⟨unhide E, unhide HB2⟩

end Go.Proofs.YtkbgnbcphmkjkaaDoor
