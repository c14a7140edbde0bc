/- Bytes appended: the document's four, text, bit. Bytes: the document's. -/
import Derived.Test.YtgheaieghoekhaaDoorRXa
import Derived.Test.YtgheaieghoekhaaDoorEd
import Derived.Lib.AppendStr
import Derived.Lib.SlBytesConst
import Derived.Test.YtgheaieghoekhaaDoorEe
import Derived.Deep.RegionLawGrows
import Derived.RegionTactic
import Derived.BigRegion
import Derived.Deep.RegionHeld3
namespace Go.Proofs.YtgheaieghoekhaaDoor
open Go.RowKit

/-- the list holds these bytes, in a block of its own from B on -/
def OwnB (w : World) (B : Nat) (v : Value) (acc : List UInt8) : Prop := w.ownsRow B 5 1 v acc.length (Lib.byteCells acc)

theorem nfB : (Tryd.prog.info? 5).map (fun i => (i.zero, i.size, i.bytes)) = some (some (.int .u8 0), 1, 1) := by kernel_rfl

theorem OwnB.snoc {w : World} {B n : Nat} {v : Value} {acc x : List UInt8} {cs : List Value} (h : w.ownsRow B 5 1 v (acc.length + n) (Lib.byteCells acc ++ cs)) (hc : cs = Lib.byteCells x) (hn : n = x.length) : OwnB w B v (acc ++ x) := by
  unfold OwnB
  rw [List.length_append, Lib.byteCells_append, ← hn, ← hc]
  exact h

theorem ownb_conv {w : World} {B : Nat} {v : Value} {acc : List UInt8} (h : OwnB w B v acc) : (convert 73 9 v).run Tryd.prog w = .ok (.string ⟨acc.toArray⟩) w := by
  have h0 := h
  obtain ⟨hl, h⟩ := h
  rcases h with ⟨rfl, hn⟩ | ⟨g, cap, cur, rfl, hB, hg, hn, hm, hsz, ht⟩
  · have e : acc = [] := List.length_eq_zero_iff.1 hn
    subst e
    exact run_convert_bytes_nil w 73 5 Tryd.underlying73 Tryd.underlying5 0 0 9 Tryd.underlying9
  · refine run_convert_bytes_back w 73 9 5 ⟨g, 0, none⟩ cap acc Tryd.underlying73 Tryd.underlying5 Tryd.underlying9 ?_
    intro j hj
    exact World.ownsRow.cells h0 (g := g) rfl j (.int .u8 (acc[j].toNat : Int)) (by
      unfold Lib.byteCells
      rw [List.getElem?_map, List.getElem?_eq_getElem hj]
      rfl)

theorem ownb_start (w : World) : OwnB (w.alloc (.cells #[.int .u8 68, .int .u8 82, .int .u8 87, .int .u8 49] 5)) w.heap.size (.slice (some ⟨w.heap.size, 0, none⟩) 4 4) [68, 82, 87, 49] :=
  ⟨rfl, Or.inr ⟨w.heap.size, 4, #[.int .u8 68, .int .u8 82, .int .u8 87, .int .u8 49], rfl, Nat.le_refl _, (MapKept.heap_alloc w _).1, Nat.le_refl _, by decide, rfl, rfl⟩⟩

/-- blocks below B stay, and all that hold no bytes -/
structure F8 (B : Nat) (w w' : World) : Prop where
  os : w'.os = w.os
  tape : w'.tape = w.tape
  output : w'.output = w.output
  size : w.heap.size ≤ w'.heap.size
  lo : ∀ b, b < B → b < w.heap.size → w'.heap[b]? = w.heap[b]?
  ty : ∀ b cs T, T ≠ 5 → BX w b cs T → BX w' b cs T

theorem F8.refl (B : Nat) (w : World) : F8 B w w := ⟨rfl, rfl, rfl, Nat.le_refl _, fun _ _ _ => rfl, fun _ _ _ _ h => h⟩
theorem F8.trans {B : Nat} {a b c : World} (h : F8 B a b) (k : F8 B b c) : F8 B a c :=
  ⟨k.os.trans h.os, k.tape.trans h.tape, k.output.trans h.output, Nat.le_trans h.size k.size, fun x h1 h2 => (k.lo x h1 (Nat.lt_of_lt_of_le h2 h.size)).trans (h.lo x h1 h2), fun x cs T hT hx => k.ty x cs T hT (h.ty x cs T hT hx)⟩
theorem F8.of_below {B : Nat} {w w' : World} (h : Below w.heap.size w w') : F8 B w w' := ⟨h.os, h.tape, h.output, h.size, fun b _ hb => h.block b hb, fun b _ _ _ hx => (h.block b hx.lt).trans hx⟩
theorem F8.alloc (B : Nat) (w : World) (o : Obj) : F8 B w (w.alloc o) := F8.of_below (below1 w o)
theorem F8.drew (B : Nat) (w : World) : F8 B w w.drew := ⟨rfl, rfl, rfl, Nat.le_refl _, fun _ _ _ => rfl, fun _ _ _ _ h => h⟩
theorem F8.of_grown {B n : Nat} {w w' : World} {v : Value} {xs : List Value} (ho : w.ownsRow B 5 1 v n xs) (h : w.grownBy w' v.ownBlock) : F8 B w w' :=
  ⟨h.os, h.tape, h.output, h.size, fun b hb hl => h.block b hl (fun e => by have := (own_in ho e.symm).1; omega), fun b cs T hT hx => (h.block b hx.lt (fun e => by
    obtain ⟨_, _, cur, h4⟩ := own_in ho e.symm
    unfold BX at hx
    rw [hx] at h4
    injection h4 with h4
    injection h4 with _ h4 _
    exact hT h4)).trans hx⟩
theorem F8.below {B N : Nat} {w w' : World} (h : F8 B w w') (hN : N ≤ B) (hw : N ≤ w.heap.size) : Below N w w' := ⟨h.os, h.tape, h.output, h.size, fun b hb => h.lo b (by omega) (by omega)⟩
theorem OwnB.f8 {B : Nat} {w : World} {v : Value} {acc : List UInt8} (h : OwnB w B v acc) (o : Obj) : OwnB (w.alloc o) B v acc := World.ownsRow.alloc h o

/-- written so: what is appended -/
def App (w : World) (B : Nat) (acc x : List UInt8) (e : Ending) (w' : World) : Prop := ∃ a m c, e = .returned (.slice a m c) ∧ OwnB w' B (.slice a m c) (acc ++ x) ∧ F8 B w w'

set_option maxHeartbeats 1000000 in
theorem bit_is (b : Bool) (w : World) : Calls Tryd.prog 50 #[.bool b] w fun e w' => e = .returned (.int .u8 (if b then 1 else 0)) ∧ w' = w := by
  cases b
  all_goals
    go_enter Tryd.func50, Tryd.ntmps50
    go_wp2
    go_ret
    exact ⟨rfl, rfl⟩

theorem u8_nat (n : Nat) : IntKind.u8.wrap (n : Int) = ((n % 256 : Nat) : Int) := by rw [IntKind.wrap_u8]; omega
theorem u8_nb (n s : Nat) : (((nb (n : Int) s).toNat : Nat) : Int) = ((n / 2 ^ (8 * s) % 256 : Nat) : Int) := by
  rw [nb_val]
  have : ((2 : Int) ^ (8 * s)) = ((2 ^ (8 * s) : Nat) : Int) := by rw [Int.natCast_pow]; rfl
  rw [this]
  omega

theorem four_cells (n : Nat) : [Value.int .u8 ((n / 16777216 % 256 : Nat) : Int), .int .u8 ((n / 65536 % 256 : Nat) : Int), .int .u8 ((n / 256 % 256 : Nat) : Int), .int .u8 ((n % 256 : Nat) : Int)] = Lib.byteCells (beb (n : Int) 4) := by
  show _ = [Value.int .u8 ((nb (n : Int) 3).toNat : Int), .int .u8 ((nb (n : Int) 2).toNat : Int), .int .u8 ((nb (n : Int) 1).toNat : Int), .int .u8 ((nb (n : Int) 0).toNat : Int)]
  rw [u8_nb, u8_nb, u8_nb, u8_nb]
  simp

set_option maxRecDepth 100000 in
set_option maxHeartbeats 2000000 in
theorem four_is {w : World} {B : Nat} {v : Value} {acc : List UInt8} (h : OwnB w B v acc) (hB : B ≤ w.heap.size) (n : Nat) {n' : Int} (en : n' = (n : Int)) (hn : n ≤ 9223372036854775807) (hlen : acc.length + 4 ≤ 140737488355328) :
    Calls Tryd.prog 48 #[v, .int .i64 n'] w fun e w' => App w B acc (beb (n : Int) 4) e w' := by
  subst en
  have e1 : Int.tdiv (n : Int) 16777216 = ((n / 16777216 : Nat) : Int) := by rw [Int.tdiv_eq_ediv_of_nonneg (by omega)]; omega
  have e2 : Int.tdiv (n : Int) 65536 = ((n / 65536 : Nat) : Int) := by rw [Int.tdiv_eq_ediv_of_nonneg (by omega)]; omega
  have e3 : Int.tdiv (n : Int) 256 = ((n / 256 : Nat) : Int) := by rw [Int.tdiv_eq_ediv_of_nonneg (by omega)]; omega
  have u1 := u8_nat (n / 16777216)
  have u2 := u8_nat (n / 65536)
  have u3 := u8_nat (n / 256)
  have u4 := u8_nat n
  have w1 := wrap_in (n := n / 16777216) (Nat.le_trans (Nat.div_le_self n 16777216) hn)
  have w2 := wrap_in (n := n / 65536) (Nat.le_trans (Nat.div_le_self n 65536) hn)
  have w3 := wrap_in (n := n / 256) (Nat.le_trans (Nat.div_le_self n 256) hn)
  have x1 : ((n / 16777216 : Nat) : Int) % 256 = ((n / 16777216 % 256 : Nat) : Int) := by omega
  have x2 : ((n / 65536 : Nat) : Int) % 256 = ((n / 65536 % 256 : Nat) : Int) := by omega
  have x3 : ((n / 256 : Nat) : Int) % 256 = ((n / 256 % 256 : Nat) : Int) := by omega
  have x4 : (n : Int) % 256 = ((n % 256 : Nat) : Int) := by omega
  have HFC := hide (four_cells n)
  generalize n / 16777216 = n1 at *
  generalize n / 65536 = n2 at *
  generalize n / 256 = n3 at *
  generalize n1 % 256 = m1 at *
  generalize n2 % 256 = m2 at *
  generalize n3 % 256 = m3 at *
  generalize n % 256 = m4 at *
  have HOW := hide (show (w.alloc (.cells #[.int .u8 (m1 : Int), .int .u8 (m2 : Int), .int .u8 (m3 : Int), .int .u8 (m4 : Int)] 5)).ownsRow B 5 1 v acc.length (Lib.byteCells acc) from World.ownsRow.alloc h _)
  have HNW := hide (row_new w [.int .u8 (m1 : Int), .int .u8 (m2 : Int), .int .u8 (m3 : Int), .int .u8 (m4 : Int)] 5 rfl)
  have HN1 := hide (show ∀ u ∈ [Value.int .u8 (m1 : Int), .int .u8 (m2 : Int), .int .u8 (m3 : Int), .int .u8 (m4 : Int)], u.oneCell' = true by intro u hu; simp only [List.mem_cons, List.not_mem_nil, or_false] at hu; rcases hu with rfl | rfl | rfl | rfl <;> rfl)
  have HM1 := hide (show acc.length + 4 ≤ maxLen by unfold maxLen; omega)
  have HM2 := hide (show (acc.length + 4) * 1 ≤ 140737488355328 by omega)
  have HM3 := hide (show B ≤ (w.alloc (.cells #[.int .u8 (m1 : Int), .int .u8 (m2 : Int), .int .u8 (m3 : Int), .int .u8 (m4 : Int)] 5)).heap.size by rw [World.size_alloc]; omega)
  obtain ⟨i0, hi0, hz0, hz1, hz2⟩ := nf_open nfB
  clear h
  go_enter Tryd.func48, Tryd.ntmps48
  go_wp2_with (at_builtin; refine wpList_append_own _ rfl _ _ 73 rfl B 5 i0 (.int .u8 0) 1 1 Tryd.underlying73 hi0 hz0 hz1 hz2 rfl (by decide) v acc.length (Lib.byteCells acc) rfl (unhide HOW) ⟨w.heap.size, 0, none⟩ 4 4 [.int .u8 (m1 : Int), .int .u8 (m2 : Int), .int .u8 (m3 : Int), .int .u8 (m4 : Int)] rfl rfl (unhide HNW) (unhide HN1) (unhide HM1) (unhide HM2) (unhide HM3) ?_)
  intro v' w5 hown' hgrow _
  obtain ⟨sa, sn, sc, rfl⟩ := own_form hown'
  have HO := hide (OwnB.snoc hown' (unhide HFC) (by rw [beb_len]))
  have HC := hide ((F8.alloc B w (.cells #[.int .u8 (m1 : Int), .int .u8 (m2 : Int), .int .u8 (m3 : Int), .int .u8 (m4 : Int)] 5)).trans (F8.of_grown (unhide HOW) hgrow))
  clear hown' hgrow
  go_wp2
  go_ret
  exact ⟨_, _, _, rfl, unhide HO, unhide HC⟩

set_option maxRecDepth 100000 in
set_option maxHeartbeats 2000000 in
theorem rtext_is {w : World} {B : Nat} {v : Value} {acc : List UInt8} (h : OwnB w B v acc) (hB : B ≤ w.heap.size) (s : ByteArray) (hlen : acc.length + (btext s).length ≤ 140737488355328) :
    Calls Tryd.prog 49 #[v, .string s] w fun e w' => App w B acc (btext s) e w' := by
  have hl : (btext s).length = 4 + s.size := by unfold btext; rw [List.length_append, beb_len]; rfl
  rw [hl] at hlen
  have HO := hide h
  clear h
  go_enter Tryd.func49, Tryd.ntmps49
  go_wp2_with fail
  refine (four_is (unhide HO) hB s.size rfl (by omega) (by omega)).mono ?_
  rintro e w1 ⟨a1, m1, c1, rfl, hO1, hC1⟩
  have hs1 := hC1.size
  have HO1 := hide hO1
  have HC1 := hide hC1
  have HL := hide (show (acc ++ beb (s.size : Int) 4).length = acc.length + 4 by rw [List.length_append, beb_len])
  have HM1 := hide (show (acc ++ beb (s.size : Int) 4).length + s.size ≤ maxLen by rw [unhide HL]; unfold maxLen; omega)
  have HM2 := hide (show (acc ++ beb (s.size : Int) 4).length + s.size ≤ 140737488355328 by rw [unhide HL]; omega)
  have HM3 := hide (show B ≤ w1.heap.size by omega)
  obtain ⟨i0, hi0, hz0, hz1, hz2⟩ := nf_open nfB
  clear hO1 hC1
  go_wp2_with (at_builtin; refine Lib.wpList_append_own_string _ rfl _ _ 73 9 rfl B 5 i0 Tryd.underlying73 Tryd.underlying9 hi0 hz0 hz1 hz2 _ _ _ rfl (unhide HO1) s rfl (unhide HM1) (unhide HM2) (unhide HM3) ?_)
  intro v' w5 hown' hgrow _
  obtain ⟨sa, sn, sc, rfl⟩ := own_form hown'
  have HO5 := hide (show OwnB w5 B (.slice sa sn sc) (acc ++ btext s) by
    have h := OwnB.snoc (acc := acc ++ beb (s.size : Int) 4) (x := s.data.toList) (n := s.size) (by rw [List.length_append]; exact hown') rfl (by rw [Array.length_toList]; rfl)
    unfold btext
    rw [← List.append_assoc]
    exact h)
  have HC5 := hide ((unhide HC1).trans (F8.of_grown (unhide HO1) hgrow))
  clear hown' hgrow
  go_wp2
  go_ret
  exact ⟨_, _, _, rfl, unhide HO5, unhide HC5⟩

/-! ### The first four, behind a row that is full and bears a mark -/

theorem run_full {P : Program} (w : World) (t ty e : TypeId) (i : TypeInfo) (z : Value) (ht : P.underlying t = some (.slice e)) (hi : P.info? e = some i) (hz : i.zero = some z) (h1 : i.size = 1) (hby : i.bytes = 1) (hz1 : z.cells.size = 1)
    (g n : Nat) (xs : List Value) (hl : xs.length = n) (hx : ∀ j u, xs[j]? = some u → w.cell? ((⟨g, 0, none⟩ : Addr).add j) = some u)
    (a : Addr) (m c : Nat) (news : List Value) (hn : news.length = m) (hc : ∀ j u, news[j]? = some u → w.cell? (a.add j) = some u) (hm : 0 < m) (hb : n + m ≤ 1000) (B : Nat) (hB : B ≤ w.heap.size) :
    ∃ v' w', (Builtin.append_ #[t, t] ty #[.slice (some ⟨g, 0, none⟩) n n, .slice (some a) m c]).run P w = .ok v' w' ∧ w'.ownsRow B e 1 v' (n + m) (xs ++ news) ∧ Below w.heap.size w w' := by
  have hmx : n + m ≤ maxLen := by unfold maxLen; omega
  have hr := run_append_grow (P := P) w t ty e i z ht hi hz ⟨g, 0, none⟩ n n xs (by rw [h1, Nat.mul_one]; exact hl) hx a m c news (by rw [h1, Nat.mul_one]; exact hn) hc (by omega) (by omega) (growslice_fits (by omega) (by rw [hby]; omega))
  refine ⟨_, _, hr, ⟨?_, Or.inr ⟨w.heap.size, _, _, rfl, hB, heap_new w.drew _, grownCap_ge w (n + m) n e, grownCap_le_maxLen w (n + m) n e hmx, ?_, ?_⟩⟩, ((Below.refl _ _).drew.alloc (Nat.le_refl _) _)⟩
  · rw [List.length_append, hl, hn, Nat.mul_one]
  · have := grownCap_ge w (n + m) n e
    simp only [Array.size_append, List.size_toArray, size_zeroCells, hz1, hl, hn]
    omega
  · rw [Array.toList_append, Array.toList_append, Nat.mul_one, ← hl, ← hn, ← List.length_append]
    exact List.take_left

theorem wpList_full {P : Program} {ops : Array Oper} {rest : List Oper} {o : Oper} {ac : Act} {Q : Exit → Act → World → Prop} (w : World) (hgd : o.guard = none) (s x : Operand) (t : TypeId)
    (ho : o.op = .call { callee := .builtin .append, args := #[s, x], argTypes := #[t, t] })
    (e : TypeId) (i : TypeInfo) (z : Value) (ht : P.underlying t = some (.slice e)) (hi : P.info? e = some i) (hz : i.zero = some z) (h1 : i.size = 1) (hby : i.bytes = 1) (hz1 : z.cells.size = 1)
    (g n : Nat) (xs : List Value) (hs : ac.eval s = .slice (some ⟨g, 0, none⟩) n n) (hl : xs.length = n) (hx : ∀ j u, xs[j]? = some u → w.cell? ((⟨g, 0, none⟩ : Addr).add j) = some u)
    (a : Addr) (m c : Nat) (news : List Value) (hxx : ac.eval x = .slice (some a) m c) (hn : news.length = m) (hc : ∀ j u, news[j]? = some u → w.cell? (a.add j) = some u) (hm : 0 < m) (hb : n + m ≤ 1000) (B : Nat) (hB : B ≤ w.heap.size)
    (h : ∀ v' w', w'.ownsRow B e 1 v' (n + m) (xs ++ news) → Below w.heap.size w w' → wpList P ops Q rest (ac.put o.dst v') w') : wpList P ops Q (o :: rest) ac w := by
  refine wpList_plain hgd fun K hK => ?_
  obtain ⟨v', w', hrun, r1, r2⟩ := run_full (P := P) w t o.type e i z ht hi hz h1 hby hz1 g n xs hl hx a m c news hn hc hm hb B hB
  unfold Oper.wp
  simp [execOp, ho, resolve, invoke, builtin, hs, hxx, hrun, Result.andThen]
  exact hK _ _ (h v' w' r1 r2)

set_option maxRecDepth 100000 in
set_option maxHeartbeats 2000000 in
theorem four_first {w : World} {B g : Nat} (hx : ∀ j u, (Lib.byteCells [68, 82, 87, 49])[j]? = some u → w.cell? ((⟨g, 0, none⟩ : Addr).add j) = some u) (hg : g < w.heap.size) (hB : B ≤ w.heap.size) (n : Nat) (hn : n ≤ 9223372036854775807) :
    Calls Tryd.prog 48 #[.slice (some ⟨g, 0, none⟩) 4 4, .int .i64 (n : Int)] w fun e w' => ∃ a m c, e = .returned (.slice a m c) ∧ OwnB w' B (.slice a m c) ([68, 82, 87, 49] ++ beb (n : Int) 4) ∧ Below w.heap.size w w' := by
  have e1 : Int.tdiv (n : Int) 16777216 = ((n / 16777216 : Nat) : Int) := by rw [Int.tdiv_eq_ediv_of_nonneg (by omega)]; omega
  have e2 : Int.tdiv (n : Int) 65536 = ((n / 65536 : Nat) : Int) := by rw [Int.tdiv_eq_ediv_of_nonneg (by omega)]; omega
  have e3 : Int.tdiv (n : Int) 256 = ((n / 256 : Nat) : Int) := by rw [Int.tdiv_eq_ediv_of_nonneg (by omega)]; omega
  have u4 := u8_nat n
  have w1 := wrap_in (n := n / 16777216) (Nat.le_trans (Nat.div_le_self n 16777216) hn)
  have w2 := wrap_in (n := n / 65536) (Nat.le_trans (Nat.div_le_self n 65536) hn)
  have w3 := wrap_in (n := n / 256) (Nat.le_trans (Nat.div_le_self n 256) hn)
  have x1 : ((n / 16777216 : Nat) : Int) % 256 = ((n / 16777216 % 256 : Nat) : Int) := by omega
  have x2 : ((n / 65536 : Nat) : Int) % 256 = ((n / 65536 % 256 : Nat) : Int) := by omega
  have x3 : ((n / 256 : Nat) : Int) % 256 = ((n / 256 % 256 : Nat) : Int) := by omega
  have x4 : (n : Int) % 256 = ((n % 256 : Nat) : Int) := by omega
  have HFC := hide (four_cells n)
  generalize n / 16777216 = n1 at *
  generalize n / 65536 = n2 at *
  generalize n / 256 = n3 at *
  generalize n1 % 256 = m1 at *
  generalize n2 % 256 = m2 at *
  generalize n3 % 256 = m3 at *
  generalize n % 256 = m4 at *
  have HNW := hide (row_new w [.int .u8 (m1 : Int), .int .u8 (m2 : Int), .int .u8 (m3 : Int), .int .u8 (m4 : Int)] 5 rfl)
  have HXX := hide (show ∀ j u, (Lib.byteCells [68, 82, 87, 49])[j]? = some u → (w.alloc (.cells #[.int .u8 (m1 : Int), .int .u8 (m2 : Int), .int .u8 (m3 : Int), .int .u8 (m4 : Int)] 5)).cell? ((⟨g, 0, none⟩ : Addr).add j) = some u from fun j u hu => by
    have h := hx j u hu
    rw [Addr.add_lit] at h ⊢
    rw [World.cell?_alloc_lt _ _ _ hg]
    exact h)
  have HM3 := hide (show B ≤ (w.alloc (.cells #[.int .u8 (m1 : Int), .int .u8 (m2 : Int), .int .u8 (m3 : Int), .int .u8 (m4 : Int)] 5)).heap.size by rw [World.size_alloc]; omega)
  obtain ⟨i0, hi0, hz0, hz1, hz2⟩ := nf_open nfB
  clear hx
  go_enter Tryd.func48, Tryd.ntmps48
  go_wp2_with (at_builtin; refine wpList_full _ rfl _ _ 73 rfl 5 i0 (.int .u8 0) Tryd.underlying73 hi0 hz0 hz1 hz2 rfl g 4 (Lib.byteCells [68, 82, 87, 49]) rfl rfl (unhide HXX) ⟨w.heap.size, 0, none⟩ 4 4 [.int .u8 (m1 : Int), .int .u8 (m2 : Int), .int .u8 (m3 : Int), .int .u8 (m4 : Int)] rfl rfl (unhide HNW) (by decide) (by decide) B (unhide HM3) ?_)
  intro v' w5 hown' hB5
  obtain ⟨sa, sn, sc, rfl⟩ := own_form hown'
  have HO := hide (OwnB.snoc (acc := [68, 82, 87, 49]) hown' (unhide HFC) (by rw [beb_len]))
  have HC := hide ((below1 w (.cells #[.int .u8 (m1 : Int), .int .u8 (m2 : Int), .int .u8 (m3 : Int), .int .u8 (m4 : Int)] 5)).trans (hB5.mono (by simp)))
  clear hown' hB5
  go_wp2
  go_ret
  exact ⟨_, _, _, rfl, unhide HO, unhide HC⟩

/-! ### Bytes of numbers -/

theorem u8_int (a : Int) : IntKind.u8.wrap a = a % 256 := by rw [IntKind.wrap_u8]
theorem one_cells (a : Int) : [Value.int .u8 (a % 256)] = Lib.byteCells (beb a 1) := by
  show _ = [Value.int .u8 ((nb a 0).toNat : Int)]
  rw [nb_val]
  simp
theorem slot_cells (pa sl : Int) (rs : Bool) : [Value.int .u8 (pa % 256), .int .u8 (sl / 256 % 256), .int .u8 (sl % 256), .int .u8 (if rs then 1 else 0)] = Lib.byteCells (beb pa 1 ++ (beb sl 2 ++ bflag rs)) := by
  show _ = [Value.int .u8 ((nb pa 0).toNat : Int), .int .u8 ((nb sl 1).toNat : Int), .int .u8 ((nb sl 0).toNat : Int), .int .u8 ((if rs then (1 : UInt8) else 0).toNat : Int)]
  rw [nb_val, nb_val, nb_val]
  cases rs <;> simp
theorem flag_cells (b : Bool) : [Value.int .u8 (if b then 1 else 0)] = Lib.byteCells (bflag b) := by
  show _ = [Value.int .u8 ((if b then (1 : UInt8) else 0).toNat : Int)]
  cases b <;> simp
theorem beb_halves (a : Int) : beb a 8 = beb (((a % 18446744073709551616).toNat / 4294967296 : Nat) : Int) 4 ++ beb (((a % 18446744073709551616).toNat % 4294967296 : Nat) : Int) 4 := by
  show [nb a 7, nb a 6, nb a 5, nb a 4, nb a 3, nb a 2, nb a 1, nb a 0] = [_, _, _, _, _, _, _, _]
  have hi : ∀ s, s < 4 → nb a (s + 4) = nb (((a % 18446744073709551616).toNat / 4294967296 : Nat) : Int) s := by
    intro s hs
    unfold nb
    congr 2
    have : s = 0 ∨ s = 1 ∨ s = 2 ∨ s = 3 := by omega
    rcases this with rfl | rfl | rfl | rfl <;> simp only [Nat.reduceMul, Nat.reduceAdd, Int.reducePow] <;> omega
  have lo : ∀ s, s < 4 → nb a s = nb (((a % 18446744073709551616).toNat % 4294967296 : Nat) : Int) s := by
    intro s hs
    unfold nb
    congr 2
    have : s = 0 ∨ s = 1 ∨ s = 2 ∨ s = 3 := by omega
    rcases this with rfl | rfl | rfl | rfl <;> simp only [Nat.reduceMul, Int.reducePow] <;> omega
  rw [hi 3 (by omega), hi 2 (by omega), hi 1 (by omega), hi 0 (by omega), lo 3 (by omega), lo 2 (by omega), lo 1 (by omega), lo 0 (by omega)]

end Go.Proofs.YtgheaieghoekhaaDoor

namespace Go.Proofs.YtgheaieghoekhaaDoor
open Go.RowKit

/-- append to a list that is the call's own, as one step of a region that draws its order -/
theorem step_append_own {P : Program} {ops : Array Oper} {o : Oper} {a : Act} {w : World} {K : Act → World → Prop} {Q : Exit → Act → World → Prop} {E : Prop}
    (hg : o.guard = none) (s x : Operand) (t : TypeId) (hop : o.op = Op.call { callee := Callee.builtin Builtin.append, args := #[s, x], argTypes := #[t, t] })
    (B : Nat) (e : TypeId) (i : TypeInfo) (z : Value) (size bytes : Nat) (h1 : P.underlying t = some (.slice e)) (h2 : P.info? e = some i) (h3 : i.zero = some z) (h4 : i.size = size) (h5 : i.bytes = bytes) (h6 : z.cells.size = size) (h7 : 0 < size)
    (v : Value) (n : Nat) (xs : List Value) (hs : a.eval s = v) (hown : w.ownsRow B e size v n xs)
    (ad : Addr) (m c : Nat) (news : List Value) (hx : a.eval x = .slice (some ad) m c) (hn : news.length = m * size) (hc : ∀ j u, news[j]? = some u → w.cell? (ad.add j) = some u) (h1c : ∀ u ∈ news, u.oneCell' = true)
    (b1 : n + m ≤ maxLen) (b2 : (n + m) * bytes ≤ 140737488355328) (hB : B ≤ w.heap.size)
    (hK : ∀ v' w', w'.ownsRow B e size v' (n + m) (xs ++ news) → w.grownBy w' v.ownBlock → K (a.put o.dst v') w') :
    if Region.wanted o (yielded ops a.tmps) = true then Oper.wp P o a w K Q else E := by
  have hw : Region.wanted o (yielded ops a.tmps) = true := by simp [Region.wanted, hg]
  rw [if_pos hw]
  obtain ⟨v', w', hrun, r1, r2, _⟩ := run_append_own (P := P) w B t o.type e i z size bytes h1 h2 h3 h4 h5 h6 h7 v n xs hown ad m c news hn hc h1c b1 b2 hB
  unfold Oper.wp
  simp [execOp, hop, resolve, invoke, builtin, hs, hx, hrun, Result.andThen]
  exact hK v' w' r1 r2

/-- numbers that are bytes' -/
structure RB (p : Pg) : Prop where
  mn : 0 ≤ p.mn ∧ p.mn ≤ 9223372036854775807
  fs : ∀ f ∈ p.fs, (0 ≤ f.sl ∧ f.sl ≤ 9223372036854775807) ∧ ∀ i ∈ f.cd, 0 ≤ i.l ∧ i.l ≤ 9223372036854775807

theorem btext_len (s : ByteArray) : (btext s).length = 4 + s.size := by unfold btext; rw [List.length_append, beb_len]; rfl

theorem OwnB.eq {w : World} {B : Nat} {v : Value} {acc acc' : List UInt8} (h : OwnB w B v acc) (e : acc = acc') : OwnB w B v acc' := e ▸ h

set_option maxRecDepth 100000 in
set_option maxHeartbeats 16000000 in
theorem rbytes_is {N : Nat} {w : World} {v1 v2 v3 : Value} {p : Pg} (h : PgAt N w v1 v2 v3 p) (hle : N ≤ w.heap.size) (hR : RB p) (hlen : (bprog p).length ≤ 140737488355328) :
    Calls Tryd.prog 26 #[pv v1 v2 v3 p.mn] w fun e w' => e = .returned (.string ⟨(bprog p).toArray⟩) ∧ Below w.heap.size w w' := by
  have hpl := bprog_parts p
  obtain ⟨b1, o1, ⟨a1, c1, rfl, hc1, hm1, hs1⟩, hl1⟩ := h.hf
  obtain ⟨b2, o2, ⟨a2, c2, rfl, hc2, hm2, hs2⟩, hl2⟩ := h.hp
  obtain ⟨b3, o3, ⟨a3, c3, rfl, hc3, hm3, hs3⟩, hl3⟩ := h.ha
  obtain ⟨mm, hmm⟩ : ∃ m : Nat, p.mn = (m : Int) := ⟨p.mn.toNat, by have := hR.mn; omega⟩
  have hmm2 : mm ≤ 9223372036854775807 := by have := hR.mn; omega
  obtain ⟨A, eA⟩ : ∃ A, w.heap.size = A := ⟨_, rfl⟩
  obtain ⟨B, eB⟩ : ∃ B, A + 1 = B := ⟨_, rfl⟩
  obtain ⟨U, hU⟩ : ∃ U, w.alloc (.cells #[.slice a1 p.fs.length c1, .slice a2 p.ps.length c2, .slice a3 p.ar.length c3, .int .i64 p.mn] 26) = U := ⟨_, rfl⟩
  have hUs : U.heap.size = B := by rw [← hU]; simp; omega
  obtain ⟨W, hW⟩ : ∃ W, U.alloc (.cells #[.int .u8 68, .int .u8 82, .int .u8 87, .int .u8 49] 5 (4, 5)) = W := ⟨_, rfl⟩
  have hcv : (convert 73 73 (.slice (some ⟨U.heap.size, 0, none⟩) 4 4)).run Tryd.prog (U.alloc (.cells #[.int .u8 68, .int .u8 82, .int .u8 87, .int .u8 49] 5)) = .ok (.slice (some ⟨U.heap.size, 0, none⟩) 4 4) (U.alloc (.cells #[.int .u8 68, .int .u8 82, .int .u8 87, .int .u8 49] 5 (4, 5))) := Lib.run_convert_bytes_const (P := Tryd.prog) U 73 5 #[.int .u8 68, .int .u8 82, .int .u8 87, .int .u8 49] 4 4 Tryd.underlying73 Tryd.underlying5
  rw [show U.heap.size = w.heap.size + 1 by rw [← hU]; simp, ← hU, hmm] at hcv
  have hO : ∀ j u, (Lib.byteCells [68, 82, 87, 49])[j]? = some u → W.cell? ((⟨B, 0, none⟩ : Addr).add j) = some u := by
    intro j u hu
    rw [← hW, ← hUs, Addr.add_lit, Nat.zero_add, Lib.cell_of_heap (heap_new U _)]
    have hu2 : ([.int .u8 68, .int .u8 82, .int .u8 87, .int .u8 49] : List Value)[j]? = some u := hu
    simpa using hu2
  have hWs : W.heap.size = B + 1 := by rw [← hW]; simp [hUs]
  have hbW : Below w.heap.size w W := by rw [← hW, ← hU]; exact below2 w _ _
  have xP : BX W A #[.slice a1 p.fs.length c1, .slice a2 p.ps.length c2, .slice a3 p.ar.length c3, .int .i64 p.mn] 26 := by unfold BX; rw [← hW, ← hU, ← eA]; exact new2 w _ _
  rw [← hU] at hW
  obtain ⟨P0, hP0⟩ : ∃ P0, P0 = [68, 82, 87, 49] ++ beb (mm : Int) 4 ++ beb (p.fs.length : Int) 4 := ⟨_, rfl⟩
  have hP0l : P0.length = 12 := by rw [hP0, List.length_append, List.length_append, beb_len, beb_len]; rfl
  have E0 := hide (show bprog p = P0 ++ (p.fs.flatMap bfun ++ (beb p.ps.length 4 ++ (p.ps.flatMap bprint ++ (beb p.ar.length 4 ++ p.ar.flatMap barm)))) by unfold bprog; rw [hP0, hmm]; simp only [List.append_assoc])
  rw [hpl] at hlen
  generalize hf : (p.fs.flatMap bfun).length = lf at *
  generalize hp : (p.ps.flatMap bprint).length = lp at *
  generalize ha : (p.ar.flatMap barm).length = la at *
  have HLF := hide hf
  have HLP := hide hp
  have HLA := hide ha
  have H1 := hide hl1
  have H2 := hide hl2
  have H3 := hide hl3
  have S1 := hide hs1
  have S2 := hide hs2
  have S3 := hide hs3
  have HR := hide hR
  have HBW := hide hbW
  have HXP := hide xP
  have HEA := hide eA
  have HEB := hide eB
  have HW := hide hW
  have HO := hide hO
  have HMM := hide hmm
  have HP0 := hide hP0
  have HP0l := hide hP0l
  have hAB : A < B := by omega
  have hNA : N ≤ A := by omega
  rw [hmm] at xP
  have cP := xP.c4
  clear h hl1 hl2 hl3 hs1 hs2 hs3 hR hbW xP eA eB hW hU hUs hO hP0 hpl hf hp ha hP0l
  rw [hmm]
  clear hmm
  go_enter Tryd.func26, Tryd.ntmps26
  go_wp2_with fail
  rw [show w.alloc (.cells #[.slice a1 p.fs.length c1, .slice a2 p.ps.length c2, .slice a3 p.ar.length c3, .int .i64 (mm : Int)] 26) = w.alloc (.cells #[.slice a1 p.fs.length c1, .slice a2 p.ps.length c2, .slice a3 p.ar.length c3, .int .i64 p.mn] 26) by rw [unhide HMM], unhide HW, unhide HEA, unhide HEB]
  refine (four_first (B := B) (unhide HO) (by omega) (by omega) mm hmm2).mono ?_
  rintro e w1 ⟨a4, m4, c4, rfl, hO1, hB1⟩
  have hF1 : F8 B W w1 := F8.of_below hB1
  clear hcv cP hB1
  have hX1 := hF1.ty A _ _ (by decide) (unhide HXP)
  have cP := hX1.c4
  have HX1 := hide hX1
  have HO1 := hide hO1
  have HF1 := hide hF1
  have h1s := hF1.size
  clear hX1 hO1 hF1
  go_wp2_with fail
  refine (four_is (unhide HO1) (by omega) p.fs.length rfl hm1 (by rw [List.length_append, beb_len]; simp)).mono ?_
  rintro e W1 ⟨a5, m5, c5, rfl, hO2, hF2⟩
  have HX2 := hide (hF2.ty A _ _ (by decide) (unhide HX1))
  have HO2 := hide (hO2.eq (unhide HP0).symm)
  have HF2 := hide ((unhide HF1).trans hF2)
  have h2s := hF2.size
  clear hO2 hF2 cP
  go_wp2
  go_loopw [3, 4] (fun b i wr => ∃ (k : Nat) (u : Value), u = b ∧ k ≤ p.fs.length ∧ i = .int .i64 k ∧ OwnB wr B u (P0 ++ (p.fs.take k).flatMap bfun) ∧ F8 B W wr) (fun _ i _ => p.fs.length - (intOf i).toNat)
  case atStart => exact ⟨0, _, rfl, Nat.zero_le _, rfl, by simpa using unhide HO2, unhide HF2⟩
  case round =>
    obtain ⟨k, u, hu, hk, rfl, hO, hF⟩ := hrel
    subst hu
    obtain ⟨ua, um, uc, rfl⟩ := own_form hO
    have hsr := hF.size
    have hXr := hF.ty A _ _ (by decide) (unhide HXP)
    rw [unhide HMM] at hXr
    have cP := hXr.c4
    have HBr := hide ((unhide HBW).trans ((hF.below (N := A) (by omega) (by omega)).mono (by have := unhide HEA; omega)))
    have z1 : A < wr.heap.size := by omega
    have HOr := hide hO
    have HFr := hide hF
    clear hO hF hXr
    by_cases hlt : k < p.fs.length
    · obtain ⟨rfl, hb1⟩ := unhide S1 (by omega)
      obtain ⟨v, g1, g2, g3, g4, g5, hcd⟩ := unhide H1 k hlt
      have hcB := fun o => ((unhide HBr).mono hle).cell (p := ⟨b1, o, none⟩) hb1
      replace g1 := (hcB _).trans g1
      replace g2 := (hcB _).trans g2
      replace g3 := (hcB _).trans g3
      replace g4 := (hcB _).trans g4
      replace g5 := (hcB _).trans g5
      clear hcB
      have HCD := hide hcd
      obtain ⟨b6, o6, ⟨a6, c6, rfl, hc6, hm6, hs6⟩, hl6⟩ := hcd
      have hfl := flat_at bfun p.fs k hlt
      rw [unhide HLF] at hfl
      have HTk := hide (flat_take bfun p.fs k hlt)
      obtain ⟨⟨hsl0, hsl1⟩, hli⟩ := (unhide HR).fs p.fs[k] (List.getElem_mem hlt)
      generalize p.fs[k] = f at *
      have hfp : (bfun f).length = (4 + f.nm.size) + (1 + (2 + (1 + (4 + (f.cd.flatMap bins).length)))) := by unfold bfun btext bflag; simp only [List.length_append, beb_len, List.length_cons, List.length_nil]; rw [Array.length_toList]; rfl
      rw [hfp] at hfl
      obtain ⟨Q0, hQ0⟩ : ∃ Q0, Q0 = P0 ++ (p.fs.take k).flatMap bfun := ⟨_, rfl⟩
      have hQl : Q0.length = 12 + ((p.fs.take k).flatMap bfun).length := by rw [hQ0, List.length_append, unhide HP0l]
      rw [← hQ0] at HOr
      obtain ⟨cl, hcl⟩ : ∃ c, (f.cd.flatMap bins).length = c := ⟨_, rfl⟩
      rw [hcl] at hfl
      have hbd : Q0.length + ((4 + f.nm.size) + (1 + (2 + (1 + (4 + cl))))) ≤ 140737488355328 := by omega
      have HQ0 := hide hQ0
      have HCL := hide hcl
      obtain ⟨F, eF⟩ : ∃ F, wr.heap.size = F := ⟨_, rfl⟩
      obtain ⟨V, hV⟩ : ∃ V, wr.alloc (.cells #[.string f.nm, .int .i64 f.pa, .int .i64 f.sl, .bool f.rs, .slice a6 f.cd.length c6] 51) = V := ⟨_, rfl⟩
      have hVs : V.heap.size = F + 1 := by rw [← hV]; simp [eF]
      have hXF : BX V F #[.string f.nm, .int .i64 f.pa, .int .i64 f.sl, .bool f.rs, .slice a6 f.cd.length c6] 51 := by rw [← hV, ← eF]; exact BX.new wr _ _
      have hFV : F8 B wr V := by rw [← hV]; exact F8.alloc B wr _
      have HOV := hide (show OwnB V B (.slice ua um uc) Q0 by rw [← hV]; exact (unhide HOr).f8 _)
      have z2 : b1 < wr.heap.size := by omega
      have hBF : B < F := by omega
      have HXF := hide hXF
      have HFV := hide hFV
      have HV := hide hV
      have HEF := hide eF
      have HLI := hide hli
      have H6 := hide hl6
      have S6 := hide hs6
      clear hV eF hXF hFV hli hl6 hs6 hQ0 hQl hcl hfp hfl
      go_wp2_with fail
      rw [unhide HV, unhide HEF]
      refine (rtext_is (unhide HOV) (by omega) f.nm (by rw [btext_len]; omega)).mono ?_
      rintro e w3 ⟨a7, m7, c7, rfl, hO3, hF3⟩
      have h3s := hF3.size
      have hX3 := hF3.ty F _ _ (by decide) (unhide HXF)
      have cF := hX3.c5
      have HO3 := hide hO3
      have HX3 := hide hX3
      have HF3 := hide (((unhide HFr).trans (unhide HFV)).trans hF3)
      clear hO3 hX3 hF3 cP g1 g2 g3 g4 g5
      have HL3 := hide (show (Q0 ++ btext f.nm).length = Q0.length + (4 + f.nm.size) by rw [List.length_append, btext_len])
      have e1 : Int.tdiv f.sl 256 = f.sl / 256 := Int.tdiv_eq_ediv_of_nonneg hsl0
      have e2 : IntKind.i64.wrap (f.sl / 256) = f.sl / 256 := by rw [IntKind.wrap_i64]; omega
      have e3 : wrap64 (f.sl / 256) = f.sl / 256 := by unfold wrap64; omega
      have e4 := u8_int f.pa
      have e5 := u8_int f.sl
      have e6 := u8_int (f.sl / 256)
      have HNC := hide (slot_cells f.pa f.sl f.rs)
      obtain ⟨y1, hy1⟩ : ∃ y, f.pa % 256 = y := ⟨_, rfl⟩
      obtain ⟨y2, hy2⟩ : ∃ y, f.sl / 256 % 256 = y := ⟨_, rfl⟩
      obtain ⟨y3, hy3⟩ : ∃ y, f.sl % 256 = y := ⟨_, rfl⟩
      obtain ⟨y4, hy4⟩ : ∃ y : Int, (if f.rs then 1 else 0) = y := ⟨_, rfl⟩
      rw [hy1, hy2, hy3, hy4] at HNC
      have HBT := hide (show ∀ w : World, Calls Tryd.prog 50 #[.bool f.rs] w fun e w' => e = .returned (.int .u8 y4) ∧ w' = w from fun w => by rw [← hy4]; exact bit_is f.rs w)
      clear hy4
      have HOW := hide (show (w3.drew.alloc (.cells #[.int .u8 y1, .int .u8 y2, .int .u8 y3, .int .u8 y4] 5)).ownsRow B 5 1 (.slice a7 m7 c7) (Q0 ++ btext f.nm).length (Lib.byteCells (Q0 ++ btext f.nm)) from World.ownsRow.alloc (show w3.drew.ownsRow B 5 1 (.slice a7 m7 c7) (Q0 ++ btext f.nm).length (Lib.byteCells (Q0 ++ btext f.nm)) from unhide HO3) _)
      have HNW := hide (row_new w3.drew [.int .u8 y1, .int .u8 y2, .int .u8 y3, .int .u8 y4] 5 rfl)
      have HN1 := hide (show ∀ u ∈ [Value.int .u8 y1, .int .u8 y2, .int .u8 y3, .int .u8 y4], u.oneCell' = true by intro u hu; simp only [List.mem_cons, List.not_mem_nil, or_false] at hu; rcases hu with rfl | rfl | rfl | rfl <;> rfl)
      have HM1 := hide (show (Q0 ++ btext f.nm).length + 4 ≤ maxLen by rw [unhide HL3]; unfold maxLen; omega)
      have HM2 := hide (show ((Q0 ++ btext f.nm).length + 4) * 1 ≤ 140737488355328 by rw [unhide HL3]; omega)
      have HM3 := hide (show B ≤ (w3.drew.alloc (.cells #[.int .u8 y1, .int .u8 y2, .int .u8 y3, .int .u8 y4] 5)).heap.size by rw [World.size_alloc]; show B ≤ w3.heap.size + 1; omega)
      have HXa := hide (((F8.drew B w3).trans (F8.alloc B w3.drew (.cells #[.int .u8 y1, .int .u8 y2, .int .u8 y3, .int .u8 y4] 5))).ty F _ _ (by decide) (unhide HX3))
      have hT51 : (51 : TypeId) ≠ 5 := by decide
      obtain ⟨i0, hi0, hz0, hz1, hz2⟩ := nf_open nfB
      go_wp2
      go_region_held3 (fun w' => w'.cell? ⟨F, 1, none⟩ = some (.int .i64 f.pa) ∧ w'.cell? ⟨F, 2, none⟩ = some (.int .i64 f.sl) ∧ w'.cell? ⟨F, 3, none⟩ = some (.bool f.rs)) (go_keep) (first | (go_at_call 50; refine (unhide HBT _).mono ?_; rintro e wb ⟨rfl, rfl⟩) | (refine step_append_own rfl (.tmp 41) (.tmp 55) 73 rfl B 5 i0 (.int .u8 0) 1 1 Tryd.underlying73 hi0 hz0 hz1 hz2 rfl (by decide) (.slice a7 m7 c7) (Q0 ++ btext f.nm).length (Lib.byteCells (Q0 ++ btext f.nm)) rfl (unhide HOW) ⟨w3.drew.heap.size, 0, none⟩ 4 4 [.int .u8 y1, .int .u8 y2, .int .u8 y3, .int .u8 y4] rfl rfl (unhide HNW) (unhide HN1) (unhide HM1) (unhide HM2) (unhide HM3) ?_; intro v' w4 hown' hgrow; obtain ⟨c41, c42, c43, c44, c45, c46⟩ := ((F8.of_grown (unhide HOW) hgrow).ty F _ _ hT51 (unhide HXa)).c5))
      obtain ⟨sa4, sn4, sc4, rfl⟩ := own_form hown'
      have hO := OwnB.snoc hown' (unhide HNC) (by simp [beb_len, bflag])
      have hF := ((F8.drew B w3).trans (F8.alloc B w3.drew (.cells #[.int .u8 y1, .int .u8 y2, .int .u8 y3, .int .u8 y4] 5))).trans (F8.of_grown (unhide HOW) hgrow)
      obtain ⟨q4, hq4⟩ : ∃ q, q = Q0 ++ btext f.nm ++ (beb f.pa 1 ++ (beb f.sl 2 ++ bflag f.rs)) := ⟨_, rfl⟩
      have hql4 : q4.length = Q0.length + (4 + f.nm.size) + 4 := by rw [hq4, List.length_append, unhide HL3]; simp [beb_len, bflag]
      have HO4 := hide (hO.eq hq4.symm)
      have HQ4 := hide hq4
      have HF4 := hide ((unhide HF3).trans hF)
      have hs4 := hF.size
      have HF4x := hide (hF.ty F _ _ hT51 (unhide HX3))
      have cF4 := (unhide HF4x).c5
      have HB4 := HF4x
      clear hown' hgrow hO hF hq4 HOW HNW HN1 HM1 HM2 HM3 hi0 hz0 hz1 hz2 c41 c42 c43 c44 c45 c46 cF HXa e1 e2 e3 e4 e5 e6 hy1 hy2 hy3
      go_wp2_with fail
      clear cF4
      refine (four_is (unhide HO4) (by omega) f.cd.length rfl hm6 (by omega)).mono ?_
      rintro e w5 ⟨sa5, sn5, sc5, rfl, hO, hF⟩
      obtain ⟨q5, hq5⟩ : ∃ q, q = q4 ++ beb ((f.cd.length : Nat) : Int) 4 := ⟨_, rfl⟩
      have hql5 : q5.length = q4.length + 4 := by rw [hq5, List.length_append]; rw [beb_len]
      have hqle5 := Nat.le_of_eq hql5
      have hqge5 := Nat.le_of_eq hql5.symm
      clear hql5
      have HO5 := hide (hO.eq hq5.symm)
      have HQ5 := hide hq5
      have HF5 := hide ((unhide HF4).trans hF)
      have hs5 := hF.size
      try simp only [World.size_alloc] at hs5
      have hBx := hF.ty F _ _ (by decide) (unhide HB4)
      have HB5 := hide hBx
      clear hO hF hq5
      have cB5 := hBx.c5
      clear hBx
      have HS0 := hide (rfl : q5 = q5)
      go_wp2
      clear cB5
      go_loopw [3, 6] (fun b i wr => ∃ (j : Nat) (u : Value), u = b ∧ j ≤ f.cd.length ∧ i = .int .i64 j ∧ OwnB wr B u (q5 ++ (f.cd.take j).flatMap bins) ∧ F8 B w5 wr) (fun _ i _ => f.cd.length - (intOf i).toNat)
      case atStart => exact ⟨0, _, rfl, Nat.zero_le _, rfl, by simpa using unhide HO5, F8.refl _ _⟩
      case round =>
        obtain ⟨j, u, hu, hj, rfl, hO, hF⟩ := hrel
        subst hu
        obtain ⟨ua2, um2, uc2, rfl⟩ := own_form hO
        have hsr2 := hF.size
        have hXr2 := hF.ty F _ _ (by decide) (unhide HB5)
        have cF := hXr2.c5
        have HBr2 := hide (((unhide HF5).trans hF).below (N := A) (by omega) (by omega))
        have HBw2 := hide ((unhide HBW).trans ((unhide HBr2).mono (by have := unhide HEA; omega)))
        have HOr2 := hide hO
        have HFr2 := hide hF
        have HXr2 := hide hXr2
        have z3 : F < wr.heap.size := hXr2.lt
        clear hO hF hXr2
        by_cases hlt2 : j < f.cd.length
        · obtain ⟨rfl, hb6⟩ := unhide S6 (by omega)
          obtain ⟨g1, g2, g3, g4⟩ := InAt.below ((unhide HBw2).mono hle) hb6 (unhide H6 j hlt2)
          obtain ⟨hl0, hl1⟩ := unhide HLI f.cd[j] (List.getElem_mem hlt2)
          have hfl2 := flat_at bins f.cd j hlt2
          rw [unhide HCL, bins_len] at hfl2
          have HTj := hide (flat_take bins f.cd j hlt2)
          generalize f.cd[j] = x at *
          obtain ⟨Q6, hQ6⟩ : ∃ q, q = q5 ++ (f.cd.take j).flatMap bins := ⟨_, rfl⟩
          have hQ6l : Q6.length = q5.length + ((f.cd.take j).flatMap bins).length := by rw [hQ6, List.length_append]
          have hbd2 : Q6.length + 14 ≤ 140737488355328 := by omega
          rw [← hQ6] at HOr2
          have HQ6_ := hide hQ6
          obtain ⟨X, eX⟩ : ∃ X, wr.heap.size = X := ⟨_, rfl⟩
          have HOv := hide ((unhide HOr2).f8 (.cells #[.int .i64 x.op, .int .i64 x.a, .int .i64 x.b, .int .i64 x.l] 29))
          have HCv := hide (show BX (wr.alloc (.cells #[.int .i64 x.op, .int .i64 x.a, .int .i64 x.b, .int .i64 x.l] 29)) X _ _ by rw [← eX]; exact BX.new wr _ _)
          have HBv := hide ((F8.alloc B wr (.cells #[.int .i64 x.op, .int .i64 x.a, .int .i64 x.b, .int .i64 x.l] 29)).ty F _ _ (by decide) (unhide HXr2))
          have HFv := hide ((unhide HFr2).trans (F8.alloc B wr (.cells #[.int .i64 x.op, .int .i64 x.a, .int .i64 x.b, .int .i64 x.l] 29)))
          obtain ⟨U, hU⟩ : ∃ n : Nat, n = (x.a % 18446744073709551616).toNat := ⟨_, rfl⟩
          have u1 : IntKind.u64.wrap x.a = (U : Int) := by rw [IntKind.wrap_u64]; omega
          have hU2 : U < 18446744073709551616 := by omega
          have HHV := hide (show beb x.a 8 = beb ((U / 4294967296 : Nat) : Int) 4 ++ beb ((U % 4294967296 : Nat) : Int) 4 by rw [hU]; exact beb_halves x.a)
          have u2 : Int.tdiv (U : Int) 4294967296 = ((U / 4294967296 : Nat) : Int) := by rw [Int.tdiv_eq_ediv_of_nonneg (by omega)]; omega
          have u3 : Int.tmod (U : Int) 4294967296 = ((U % 4294967296 : Nat) : Int) := by rw [Int.tmod_eq_emod_of_nonneg (by omega)]; omega
          obtain ⟨hi, hhi⟩ : ∃ h, U / 4294967296 = h := ⟨_, rfl⟩
          obtain ⟨lo, hlo⟩ : ∃ h, U % 4294967296 = h := ⟨_, rfl⟩
          have hhi2 : hi < 4294967296 := by omega
          have hlo2 : lo < 4294967296 := by omega
          rw [hhi, hlo] at HHV
          rw [hhi] at u2
          rw [hlo] at u3
          obtain ⟨ln, hln⟩ : ∃ n : Nat, x.l = (n : Int) := ⟨x.l.toNat, by omega⟩
          have hln2 : ln ≤ 9223372036854775807 := by omega
          have HLN := hide hln
          have HEX := hide eX
          clear hQ6 hQ6l hfl2 eX hU hhi hlo hln hU2
          have e7 := u8_int x.op
          have e8 := u8_int x.b
          obtain ⟨y5, hy5⟩ : ∃ y, x.op % 256 = y := ⟨_, rfl⟩
          obtain ⟨y6, hy6⟩ : ∃ y, x.b % 256 = y := ⟨_, rfl⟩
          have HY5 := hide (show [Value.int .u8 y5] = Lib.byteCells (beb x.op 1) by rw [← hy5]; exact one_cells x.op)
          have HY6 := hide (show [Value.int .u8 y6] = Lib.byteCells (beb x.b 1) by rw [← hy6]; exact one_cells x.b)
          have HOW := hide (OwnB.f8 (unhide HOv) (.cells #[.int .u8 y5] 5))
          have HNW := hide (row_new (n := wr.heap.size + 1) (wr.alloc (.cells #[.int .i64 x.op, .int .i64 x.a, .int .i64 x.b, .int .i64 x.l] 29)) [.int .u8 y5] 5 (by simp))
          have HN1 := hide (show ∀ u ∈ [Value.int .u8 y5], u.oneCell' = true by intro u hu; simp only [List.mem_cons, List.not_mem_nil, or_false] at hu; subst hu; rfl)
          have HM1 := hide (show Q6.length + 1 ≤ maxLen by unfold maxLen; omega)
          have HM2 := hide (show (Q6.length + 1) * 1 ≤ 140737488355328 by omega)
          have HM3 := hide (show B ≤ (World.alloc (wr.alloc (.cells #[.int .i64 x.op, .int .i64 x.a, .int .i64 x.b, .int .i64 x.l] 29)) (.cells #[.int .u8 y5] 5)).heap.size by simp only [World.size_alloc]; omega)
          obtain ⟨i6, hi0, hz0, hz1, hz2⟩ := nf_open nfB
          go_wp2_with (at_builtin; refine wpList_append_own _ rfl _ _ 73 rfl B 5 i6 (.int .u8 0) 1 1 Tryd.underlying73 hi0 hz0 hz1 hz2 rfl (by decide) (.slice ua2 um2 uc2) Q6.length (Lib.byteCells Q6) rfl (unhide HOW) ⟨wr.heap.size + 1, 0, none⟩ 1 1 [.int .u8 y5] rfl rfl (unhide HNW) (unhide HN1) (unhide HM1) (unhide HM2) (unhide HM3) ?_)
          intro v' w6 hown' hgrow _
          obtain ⟨sa6, sn6, sc6, rfl⟩ := own_form hown'
          have hO := OwnB.snoc (x := beb x.op 1) hown' (unhide HY5) (by rw [beb_len])
          have hF := (F8.alloc B (wr.alloc (.cells #[.int .i64 x.op, .int .i64 x.a, .int .i64 x.b, .int .i64 x.l] 29)) (.cells #[.int .u8 y5] 5)).trans (F8.of_grown (unhide HOW) hgrow)
          clear hown' hgrow HOW HNW HN1 HM1 HM2 HM3 hi0 hz0 hz1 hz2
          obtain ⟨q6, hq6⟩ : ∃ q, q = Q6 ++ beb x.op 1 := ⟨_, rfl⟩
          have hql6 : q6.length = Q6.length + 1 := by rw [hq6, List.length_append]; rw [beb_len]
          have hqle6 := Nat.le_of_eq hql6
          have hqge6 := Nat.le_of_eq hql6.symm
          clear hql6
          have HO6 := hide (hO.eq hq6.symm)
          have HQ6 := hide hq6
          have HF6 := hide ((unhide HFv).trans hF)
          have hs6 := hF.size
          try simp only [World.size_alloc] at hs6
          have hBx := hF.ty F _ _ (by decide) (unhide HBv)
          have HB6 := hide hBx
          have hCx := hF.ty X _ _ (by decide) (unhide HCv)
          have HC6 := hide hCx
          clear hO hF hq6
          have cB6 := hBx.c5
          clear hBx
          have cC6 := hCx.c4
          clear hCx
          rw [unhide HEX]
          clear cF g1 g2 g3 g4
          go_wp2_with fail
          clear cB6 cC6
          refine (four_is (unhide HO6) (by omega) hi (by omega) (by omega) (by omega)).mono ?_
          rintro e w7 ⟨sa7, sn7, sc7, rfl, hO, hF⟩
          obtain ⟨q7, hq7⟩ : ∃ q, q = q6 ++ beb ((hi : Nat) : Int) 4 := ⟨_, rfl⟩
          have hql7 : q7.length = q6.length + 4 := by rw [hq7, List.length_append]; rw [beb_len]
          have hqle7 := Nat.le_of_eq hql7
          have hqge7 := Nat.le_of_eq hql7.symm
          clear hql7
          have HO7 := hide (hO.eq hq7.symm)
          have HQ7 := hide hq7
          have HF7 := hide ((unhide HF6).trans hF)
          have hs7 := hF.size
          try simp only [World.size_alloc] at hs7
          have hBx := hF.ty F _ _ (by decide) (unhide HB6)
          have HB7 := hide hBx
          have hCx := hF.ty X _ _ (by decide) (unhide HC6)
          have HC7 := hide hCx
          clear hO hF hq7
          have cB7 := hBx.c5
          clear hBx
          have cC7 := hCx.c4
          clear hCx
          go_wp2_with fail
          clear cB7 cC7
          refine (four_is (unhide HO7) (by omega) lo (by omega) (by omega) (by omega)).mono ?_
          rintro e w8 ⟨sa8, sn8, sc8, rfl, hO, hF⟩
          obtain ⟨q8, hq8⟩ : ∃ q, q = q7 ++ beb ((lo : Nat) : Int) 4 := ⟨_, rfl⟩
          have hql8 : q8.length = q7.length + 4 := by rw [hq8, List.length_append]; rw [beb_len]
          have hqle8 := Nat.le_of_eq hql8
          have hqge8 := Nat.le_of_eq hql8.symm
          clear hql8
          have HO8 := hide (hO.eq hq8.symm)
          have HQ8 := hide hq8
          have HF8 := hide ((unhide HF7).trans hF)
          have hs8 := hF.size
          try simp only [World.size_alloc] at hs8
          have hBx := hF.ty F _ _ (by decide) (unhide HB7)
          have HB8 := hide hBx
          have hCx := hF.ty X _ _ (by decide) (unhide HC7)
          have HC8 := hide hCx
          clear hO hF hq8
          have cB8 := hBx.c5
          clear hBx
          have cC8 := hCx.c4
          clear hCx
          have HOW := hide (OwnB.f8 (unhide HO8) (.cells #[.int .u8 y6] 5))
          have HNW := hide (row_new w8 [.int .u8 y6] 5 rfl)
          have HN1 := hide (show ∀ u ∈ [Value.int .u8 y6], u.oneCell' = true by intro u hu; simp only [List.mem_cons, List.not_mem_nil, or_false] at hu; subst hu; rfl)
          have HM1 := hide (show q8.length + 1 ≤ maxLen by unfold maxLen; omega)
          have HM2 := hide (show (q8.length + 1) * 1 ≤ 140737488355328 by omega)
          have HM3 := hide (show B ≤ (World.alloc w8 (.cells #[.int .u8 y6] 5)).heap.size by simp only [World.size_alloc]; omega)
          obtain ⟨i9, hi0, hz0, hz1, hz2⟩ := nf_open nfB
          go_wp2_with (at_builtin; refine wpList_append_own _ rfl _ _ 73 rfl B 5 i9 (.int .u8 0) 1 1 Tryd.underlying73 hi0 hz0 hz1 hz2 rfl (by decide) (.slice sa8 sn8 sc8) q8.length (Lib.byteCells q8) rfl (unhide HOW) ⟨w8.heap.size, 0, none⟩ 1 1 [.int .u8 y6] rfl rfl (unhide HNW) (unhide HN1) (unhide HM1) (unhide HM2) (unhide HM3) ?_)
          intro v' w9 hown' hgrow _
          obtain ⟨sa9, sn9, sc9, rfl⟩ := own_form hown'
          have hO := OwnB.snoc (x := beb x.b 1) hown' (unhide HY6) (by rw [beb_len])
          have hF := (F8.alloc B w8 (.cells #[.int .u8 y6] 5)).trans (F8.of_grown (unhide HOW) hgrow)
          clear hown' hgrow HOW HNW HN1 HM1 HM2 HM3 hi0 hz0 hz1 hz2
          obtain ⟨q9, hq9⟩ : ∃ q, q = q8 ++ beb x.b 1 := ⟨_, rfl⟩
          have hql9 : q9.length = q8.length + 1 := by rw [hq9, List.length_append]; rw [beb_len]
          have hqle9 := Nat.le_of_eq hql9
          have hqge9 := Nat.le_of_eq hql9.symm
          clear hql9
          have HO9 := hide (hO.eq hq9.symm)
          have HQ9 := hide hq9
          have HF9 := hide ((unhide HF8).trans hF)
          have hs9 := hF.size
          try simp only [World.size_alloc] at hs9
          have hBx := hF.ty F _ _ (by decide) (unhide HB8)
          have HB9 := hide hBx
          have hCx := hF.ty X _ _ (by decide) (unhide HC8)
          have HC9 := hide hCx
          clear hO hF hq9
          have cB9 := hBx.c5
          clear hBx
          have cC9 := hCx.c4
          clear hCx
          clear cB8 cC8
          go_wp2_with fail
          clear cB9 cC9
          refine (four_is (unhide HO9) (by omega) ln (unhide HLN) hln2 (by omega)).mono ?_
          rintro e w10 ⟨sa10, sn10, sc10, rfl, hO, hF⟩
          obtain ⟨q10, hq10⟩ : ∃ q, q = q9 ++ beb ((ln : Nat) : Int) 4 := ⟨_, rfl⟩
          have hql10 : q10.length = q9.length + 4 := by rw [hq10, List.length_append]; rw [beb_len]
          have hqle10 := Nat.le_of_eq hql10
          have hqge10 := Nat.le_of_eq hql10.symm
          clear hql10
          have HO10 := hide (hO.eq hq10.symm)
          have HQ10 := hide hq10
          have HF10 := hide ((unhide HF9).trans hF)
          have hs10 := hF.size
          try simp only [World.size_alloc] at hs10
          have hBx := hF.ty F _ _ (by decide) (unhide HB9)
          have HB10 := hide hBx
          have hCx := hF.ty X _ _ (by decide) (unhide HC9)
          have HC10 := hide hCx
          clear hO hF hq10
          have cB10 := hBx.c5
          clear hBx
          have cC10 := hCx.c4
          clear hCx
          have HEND := hide (show OwnB w10 B (.slice sa10 sn10 sc10) (q5 ++ (f.cd.take (j + 1)).flatMap bins) from (unhide HO10).eq (by
            rw [unhide HQ10, unhide HQ9, unhide HQ8, unhide HQ7, unhide HQ6, unhide HQ6_, unhide HTj]
            unfold bins
            rw [unhide HHV, unhide HLN]
            simp only [List.append_assoc]))
          go_wp2
          go_roundw
          case rel => exact ⟨j + 1, _, rfl, by omega, by go_num, unhide HEND, unhide HF10⟩
          case measure => simp [intOf]; omega
        · have ej : f.cd.take j = f.cd := List.take_of_length_le (by omega)
          have HEND := hide (show OwnB wr B (.slice ua2 um2 uc2) (P0 ++ (p.fs.take (k + 1)).flatMap bfun) from (unhide HOr2).eq (by
            rw [ej, unhide HQ5, unhide HQ4, unhide HQ0, unhide HTk]
            unfold bfun
            simp only [List.append_assoc]))
          clear ej
          go_wp2
          go_roundw
          case rel => exact ⟨k + 1, _, rfl, by omega, by go_num, unhide HEND, (unhide HF5).trans (unhide HFr2)⟩
          case measure => simp [intOf]; omega
    · have ek : p.fs.take k = p.fs := List.take_of_length_le (by omega)
      obtain ⟨qa, hqa⟩ : ∃ q, q = P0 ++ p.fs.flatMap bfun := ⟨_, rfl⟩
      have hqal : qa.length = 12 + lf := by rw [hqa, List.length_append, unhide HP0l, unhide HLF]
      have HOa := hide ((unhide HOr).eq (acc' := qa) (by rw [ek, hqa]))
      have HQa := hide hqa
      have HAa := hide ((unhide HFr).ty A _ _ (by decide) (unhide HXP))
      have HFa := HFr
      obtain ⟨wl, rfl⟩ : ∃ x, x = wr := ⟨_, rfl⟩
      clear ek hqa
      go_wp2_with fail
      clear cP
      refine (four_is (unhide HOa) (by omega) p.ps.length rfl hm2 (by omega)).mono ?_
      rintro e wb ⟨sab, snb, scb, rfl, hO, hF⟩
      obtain ⟨qb, hqb⟩ : ∃ q, q = qa ++ beb ((p.ps.length : Nat) : Int) 4 := ⟨_, rfl⟩
      have hqlb : qb.length = qa.length + 4 := by rw [hqb, List.length_append]; rw [beb_len]
      have hqleb := Nat.le_of_eq hqlb
      have hqgeb := Nat.le_of_eq hqlb.symm
      clear hqlb
      have HOb := hide (hO.eq hqb.symm)
      have HQb := hide hqb
      have HFb := hide ((unhide HFa).trans hF)
      have hsb := hF.size
      try simp only [World.size_alloc] at hsb
      have hAx := hF.ty A _ _ (by decide) (unhide HAa)
      have HAb := hide hAx
      clear hO hF hqb
      have cAb := hAx.c4
      clear hAx
      clear cAb
      go_wp2
      go_loopw [3, 9] (fun b i wr => ∃ (k : Nat) (u : Value), u = b ∧ k ≤ p.ps.length ∧ i = .int .i64 k ∧ OwnB wr B u (qb ++ (p.ps.take k).flatMap bprint) ∧ F8 B W wr) (fun _ i _ => p.ps.length - (intOf i).toNat)
      case atStart => exact ⟨0, _, rfl, Nat.zero_le _, rfl, by simpa using unhide HOb, unhide HFb⟩
      case round =>
        obtain ⟨k2, u, hu, hk2, rfl, hO, hF⟩ := hrel
        subst hu
        obtain ⟨ua, um, uc, rfl⟩ := own_form hO
        have hsr2 := hF.size
        have hXr := hF.ty A _ _ (by decide) (unhide HXP)
        rw [unhide HMM] at hXr
        have cP := hXr.c4
        have HBr2 := hide ((unhide HBW).trans ((hF.below (N := A) (by omega) (by omega)).mono (by have := unhide HEA; omega)))
        have z1b : A < wr.heap.size := by omega
        have HOr2 := hide hO
        have HFr2 := hide hF
        have HAr := hide hXr
        clear hO hF hXr
        by_cases hlt : k2 < p.ps.length
        · obtain ⟨rfl, hb2⟩ := unhide S2 (by omega)
          obtain ⟨v, g1, hcd⟩ := unhide H2 k2 hlt
          rw [Nat.mul_one] at g1
          have HG1 := hide g1
          obtain ⟨b6, o6, ⟨a6, c6, rfl, hc6, hm6, hs6⟩, hl6⟩ := hcd
          replace g1 := (((unhide HBr2).mono hle).cell (p := ⟨b2, o2 + k2, none⟩) hb2).trans g1
          have hfl := flat_at bprint p.ps k2 hlt
          rw [unhide HLP] at hfl
          have HTk := hide (flat_take bprint p.ps k2 hlt)
          generalize p.ps[k2] = z at *
          have hfp : (bprint z).length = 1 + (z.flatMap bitem).length := by unfold bprint; rw [List.length_append, beb_len]
          rw [hfp] at hfl
          obtain ⟨Qv, hQv⟩ : ∃ q, q = qb ++ (p.ps.take k2).flatMap bprint := ⟨_, rfl⟩
          have hQvl : Qv.length = qb.length + ((p.ps.take k2).flatMap bprint).length := by rw [hQv, List.length_append]
          obtain ⟨zl, hzl⟩ : ∃ c, (z.flatMap bitem).length = c := ⟨_, rfl⟩
          rw [hzl] at hfl
          have hbd : Qv.length + (1 + zl) ≤ 140737488355328 := by omega
          have HOv := hide ((unhide HOr2).eq hQv.symm)
          have HQv := hide hQv
          have HZL := hide hzl
          have HAv := HAr
          have H6 := hide hl6
          have S6 := hide hs6
          have z2b : b2 < wr.heap.size := by omega
          have e7 := u8_int (z.length : Int)
          obtain ⟨y5, hy5⟩ : ∃ y, (z.length : Int) % 256 = y := ⟨_, rfl⟩
          have HC5 := hide (show [Value.int .u8 y5] = Lib.byteCells (beb (z.length : Int) 1) by rw [← hy5]; exact one_cells z.length)
          clear hQv hzl hl6 hs6 hQvl hfl hfp
          have HOW := hide (OwnB.f8 (unhide HOv) (.cells #[.int .u8 y5] 5))
          have HNW := hide (row_new wr [.int .u8 y5] 5 rfl)
          have HN1 := hide (show ∀ u ∈ [Value.int .u8 y5], u.oneCell' = true by intro u hu; simp only [List.mem_cons, List.not_mem_nil, or_false] at hu; subst hu; rfl)
          have HM1 := hide (show Qv.length + 1 ≤ maxLen by unfold maxLen; omega)
          have HM2 := hide (show (Qv.length + 1) * 1 ≤ 140737488355328 by omega)
          have HM3 := hide (show B ≤ (World.alloc wr (.cells #[.int .u8 y5] 5)).heap.size by simp only [World.size_alloc]; omega)
          obtain ⟨ic, hi0, hz0, hz1, hz2⟩ := nf_open nfB
          go_wp2_with (at_builtin; refine wpList_append_own _ rfl _ _ 73 rfl B 5 ic (.int .u8 0) 1 1 Tryd.underlying73 hi0 hz0 hz1 hz2 rfl (by decide) (.slice ua um uc) Qv.length (Lib.byteCells Qv) rfl (unhide HOW) ⟨wr.heap.size, 0, none⟩ 1 1 [.int .u8 y5] rfl rfl (unhide HNW) (unhide HN1) (unhide HM1) (unhide HM2) (unhide HM3) ?_)
          intro v' wc hown' hgrow _
          obtain ⟨sac, snc, scc, rfl⟩ := own_form hown'
          have hO := OwnB.snoc (x := beb (z.length : Int) 1) hown' (unhide HC5) (by rw [beb_len])
          have hF := (F8.alloc B wr (.cells #[.int .u8 y5] 5)).trans (F8.of_grown (unhide HOW) hgrow)
          clear hown' hgrow HOW HNW HN1 HM1 HM2 HM3 hi0 hz0 hz1 hz2
          obtain ⟨qc, hqc⟩ : ∃ q, q = Qv ++ beb (z.length : Int) 1 := ⟨_, rfl⟩
          have hqlc : qc.length = Qv.length + 1 := by rw [hqc, List.length_append]; rw [beb_len]
          have hqlec := Nat.le_of_eq hqlc
          have hqgec := Nat.le_of_eq hqlc.symm
          clear hqlc
          have HOc := hide (hO.eq hqc.symm)
          have HQc := hide hqc
          have HFc := hide ((unhide HFr2).trans hF)
          have hsc := hF.size
          try simp only [World.size_alloc] at hsc
          have hAx := hF.ty A _ _ (by decide) (unhide HAv)
          have HAc := hide hAx
          clear hO hF hqc
          have cAc := hAx.c4
          clear hAx
          clear cP g1 e7 hy5
          obtain ⟨wm, rfl⟩ : ∃ x, x = wr := ⟨_, rfl⟩
          go_wp2
          clear cAc
          go_loopw [3, 10] (fun b i wr => ∃ (j : Nat) (u : Value), u = b ∧ j ≤ z.length ∧ i = .int .i64 j ∧ OwnB wr B u (qc ++ (z.take j).flatMap bitem) ∧ F8 B W wr) (fun _ i _ => z.length - (intOf i).toNat)
          case atStart => exact ⟨0, _, rfl, Nat.zero_le _, rfl, by simpa using unhide HOc, unhide HFc⟩
          case round =>
            obtain ⟨j, u, hu, hj, rfl, hO, hF⟩ := hrel
            subst hu
            obtain ⟨ua2, um2, uc2, rfl⟩ := own_form hO
            have hsr3 := hF.size
            have hXr := hF.ty A _ _ (by decide) (unhide HXP)
            rw [unhide HMM] at hXr
            have cP := hXr.c4
            have HBr3 := hide ((unhide HBW).trans ((hF.below (N := A) (by omega) (by omega)).mono (by have := unhide HEA; omega)))
            have g1 := (((unhide HBr3).mono hle).cell (p := ⟨b2, o2 + k2, none⟩) hb2).trans (unhide HG1)
            have z1c : A < wr.heap.size := by omega
            have z2c : b2 < wr.heap.size := by omega
            have HOr3 := hide hO
            have HFr3 := hide hF
            have HAr3 := hide hXr
            clear hO hF hXr
            by_cases hlt2 : j < z.length
            · obtain ⟨rfl, hb6⟩ := unhide S6 (by omega)
              obtain ⟨g2, g3⟩ := ItAt.below ((unhide HBr3).mono hle) hb6 (unhide H6 j hlt2)
              have hfl2 := flat_at bitem z j hlt2
              rw [unhide HZL] at hfl2
              have HTj := hide (flat_take bitem z j hlt2)
              generalize z[j] = x at *
              have z3c : b6 < wr.heap.size := by omega
              obtain ⟨Qv, hQv⟩ : ∃ q, q = qc ++ (z.take j).flatMap bitem := ⟨_, rfl⟩
              have hQvl : Qv.length = qc.length + ((z.take j).flatMap bitem).length := by rw [hQv, List.length_append]
              have hbl : (bitem x).length = 1 + (if x.k = 1 then btext x.t else []).length := by unfold bitem; rw [List.length_append, beb_len]
              rw [hbl] at hfl2
              have HQv2 := hide hQv
              obtain ⟨X, eX⟩ : ∃ X, wr.heap.size = X := ⟨_, rfl⟩
              have HOw := hide (((unhide HOr3).eq hQv.symm).f8 (.cells #[.int .i64 x.k, .string x.t] 64))
              have HCw := hide (show BX (wr.alloc (.cells #[.int .i64 x.k, .string x.t] 64)) X _ _ by rw [← eX]; exact BX.new wr _ _)
              have HFw := hide ((unhide HFr3).trans (F8.alloc B wr (.cells #[.int .i64 x.k, .string x.t] 64)))
              have HEX := hide eX
              have e8 := u8_int x.k
              obtain ⟨y6, hy6⟩ : ∃ y, x.k % 256 = y := ⟨_, rfl⟩
              have HC6 := hide (show [Value.int .u8 y6] = Lib.byteCells (beb x.k 1) by rw [← hy6]; exact one_cells x.k)
              have hbd2 : Qv.length + (1 + (if x.k = 1 then btext x.t else []).length) ≤ 140737488355328 := by omega
              clear hQv hQvl hfl2 hbl eX
              have hbd3 : Qv.length + 1 ≤ 140737488355328 := by omega
              have HBD2 := hide hbd2
              clear hbd2
              have HOW := hide (OwnB.f8 (unhide HOw) (.cells #[.int .u8 y6] 5))
              have HNW := hide (row_new (n := wr.heap.size + 1) (wr.alloc (.cells #[.int .i64 x.k, .string x.t] 64)) [.int .u8 y6] 5 (by simp))
              have HN1 := hide (show ∀ u ∈ [Value.int .u8 y6], u.oneCell' = true by intro u hu; simp only [List.mem_cons, List.not_mem_nil, or_false] at hu; subst hu; rfl)
              have HM1 := hide (show Qv.length + 1 ≤ maxLen by unfold maxLen; omega)
              have HM2 := hide (show (Qv.length + 1) * 1 ≤ 140737488355328 by omega)
              have HM3 := hide (show B ≤ (World.alloc (wr.alloc (.cells #[.int .i64 x.k, .string x.t] 64)) (.cells #[.int .u8 y6] 5)).heap.size by simp only [World.size_alloc]; omega)
              obtain ⟨id, hi0, hz0, hz1, hz2⟩ := nf_open nfB
              go_wp2_with (at_builtin; refine wpList_append_own _ rfl _ _ 73 rfl B 5 id (.int .u8 0) 1 1 Tryd.underlying73 hi0 hz0 hz1 hz2 rfl (by decide) (.slice ua2 um2 uc2) Qv.length (Lib.byteCells Qv) rfl (unhide HOW) ⟨wr.heap.size + 1, 0, none⟩ 1 1 [.int .u8 y6] rfl rfl (unhide HNW) (unhide HN1) (unhide HM1) (unhide HM2) (unhide HM3) ?_)
              intro v' wd hown' hgrow _
              obtain ⟨sad, snd, scd, rfl⟩ := own_form hown'
              have hO := OwnB.snoc (x := beb x.k 1) hown' (unhide HC6) (by rw [beb_len])
              have hF := (F8.alloc B (wr.alloc (.cells #[.int .i64 x.k, .string x.t] 64)) (.cells #[.int .u8 y6] 5)).trans (F8.of_grown (unhide HOW) hgrow)
              clear hown' hgrow HOW HNW HN1 HM1 HM2 HM3 hi0 hz0 hz1 hz2
              obtain ⟨qd, hqd⟩ : ∃ q, q = Qv ++ beb x.k 1 := ⟨_, rfl⟩
              have hqld : qd.length = Qv.length + 1 := by rw [hqd, List.length_append]; rw [beb_len]
              have hqled := Nat.le_of_eq hqld
              have hqged := Nat.le_of_eq hqld.symm
              clear hqld
              have HOd := hide (hO.eq hqd.symm)
              have HQd := hide hqd
              have HFd := hide ((unhide HFw).trans hF)
              have hsd := hF.size
              try simp only [World.size_alloc] at hsd
              have hCx := hF.ty X _ _ (by decide) (unhide HCw)
              have HCd := hide hCx
              clear hO hF hqd
              have cCd := hCx.c2
              clear hCx
              rw [unhide HEX]
              clear cP g1 g2 g3 e8 hy6
              by_cases cx : x.k = 1
              · have hbd4 : Qv.length + (1 + (4 + x.t.size)) ≤ 140737488355328 := by have h := unhide HBD2; rw [if_pos cx, btext_len] at h; exact h
                have qx : (x.k == 1) = true := by simpa using cx
                have HBI := hide (show bitem x = beb x.k 1 ++ btext x.t by unfold bitem; rw [if_pos cx])
                clear cx
                go_wp2_with fail
                clear cCd
                refine (rtext_is (unhide HOd) (by omega) x.t (by rw [btext_len]; omega)).mono ?_
                rintro e we ⟨sae, sne, sce, rfl, hO, hF⟩
                obtain ⟨qe, hqe⟩ : ∃ q, q = qd ++ btext x.t := ⟨_, rfl⟩
                have hqle : qe.length = qd.length + (4 + x.t.size) := by rw [hqe, List.length_append]; rw [btext_len]
                have hqlee := Nat.le_of_eq hqle
                have hqgee := Nat.le_of_eq hqle.symm
                clear hqle
                have HOe := hide (hO.eq hqe.symm)
                have HQe := hide hqe
                have HFe := hide ((unhide HFd).trans hF)
                have hse := hF.size
                try simp only [World.size_alloc] at hse
                have hCx := hF.ty X _ _ (by decide) (unhide HCd)
                have HCe := hide hCx
                clear hO hF hqe
                have cCe := hCx.c2
                clear hCx
                have HEND := hide (show OwnB we B (.slice sae sne sce) (qc ++ (z.take (j + 1)).flatMap bitem) from (unhide HOe).eq (by
                  rw [unhide HQe, unhide HQd, unhide HQv2, unhide HTj, unhide HBI]
                  simp only [List.append_assoc]))
                clear cCe
                go_wp2
                go_roundw
                case rel => exact ⟨j + 1, _, rfl, by omega, by go_num, unhide HEND, unhide HFe⟩
                case measure => simp [intOf]; omega
              · have qx : (x.k == 1) = false := by simpa using cx
                have HBI := hide (show bitem x = beb x.k 1 by unfold bitem; rw [if_neg cx, List.append_nil])
                clear cx
                have HEND := hide (show OwnB wd B (.slice sad snd scd) (qc ++ (z.take (j + 1)).flatMap bitem) from (unhide HOd).eq (by
                  rw [unhide HQd, unhide HQv2, unhide HTj, unhide HBI]
                  simp only [List.append_assoc]))
                go_wp2
                go_roundw
                case rel => exact ⟨j + 1, _, rfl, by omega, by go_num, unhide HEND, unhide HFd⟩
                case measure => simp [intOf]; omega
            · have ej : z.take j = z := List.take_of_length_le (by omega)
              have HEND := hide (show OwnB wr B (.slice ua2 um2 uc2) (qb ++ (p.ps.take (k2 + 1)).flatMap bprint) from (unhide HOr3).eq (by
                rw [ej, unhide HQc, unhide HQv, unhide HTk]
                unfold bprint
                simp only [List.append_assoc]))
              clear ej
              go_wp2
              go_roundw
              case rel => exact ⟨k2 + 1, _, rfl, by omega, by go_num, unhide HEND, unhide HFr3⟩
              case measure => simp [intOf]; omega
        · have ek : p.ps.take k2 = p.ps := List.take_of_length_le (by omega)
          obtain ⟨qf, hqf⟩ : ∃ q, q = qb ++ p.ps.flatMap bprint := ⟨_, rfl⟩
          have hqfl : qf.length = qb.length + lp := by rw [hqf, List.length_append, unhide HLP]
          have HOf := hide ((unhide HOr2).eq (acc' := qf) (by rw [ek, hqf]))
          have HQf := hide hqf
          have HAf := hide ((unhide HFr2).ty A _ _ (by decide) (unhide HXP))
          have HFf := HFr2
          obtain ⟨wl2, rfl⟩ : ∃ x, x = wr := ⟨_, rfl⟩
          clear ek hqf
          go_wp2_with fail
          clear cP
          refine (four_is (unhide HOf) (by omega) p.ar.length rfl hm3 (by omega)).mono ?_
          rintro e wg ⟨sag, sng, scg, rfl, hO, hF⟩
          obtain ⟨qg, hqg⟩ : ∃ q, q = qf ++ beb ((p.ar.length : Nat) : Int) 4 := ⟨_, rfl⟩
          have hqlg : qg.length = qf.length + 4 := by rw [hqg, List.length_append]; rw [beb_len]
          have hqleg := Nat.le_of_eq hqlg
          have hqgeg := Nat.le_of_eq hqlg.symm
          clear hqlg
          have HOg := hide (hO.eq hqg.symm)
          have HQg := hide hqg
          have HFg := hide ((unhide HFf).trans hF)
          have hsg := hF.size
          try simp only [World.size_alloc] at hsg
          have hAx := hF.ty A _ _ (by decide) (unhide HAf)
          have HAg := hide hAx
          clear hO hF hqg
          have cAg := hAx.c4
          clear hAx
          clear cAg
          go_wp2
          go_loopw [3, 12] (fun b i wr => ∃ (k : Nat) (u : Value), u = b ∧ k ≤ p.ar.length ∧ i = .int .i64 k ∧ OwnB wr B u (qg ++ (p.ar.take k).flatMap barm) ∧ F8 B W wr) (fun _ i _ => p.ar.length - (intOf i).toNat)
          case atStart => exact ⟨0, _, rfl, Nat.zero_le _, rfl, by simpa using unhide HOg, unhide HFg⟩
          case round =>
            obtain ⟨k3, u, hu, hk3, rfl, hO, hF⟩ := hrel
            subst hu
            obtain ⟨ua, um, uc, rfl⟩ := own_form hO
            have hsr3 := hF.size
            have hXr := hF.ty A _ _ (by decide) (unhide HXP)
            rw [unhide HMM] at hXr
            have cP := hXr.c4
            have HBr3 := hide ((unhide HBW).trans ((hF.below (N := A) (by omega) (by omega)).mono (by have := unhide HEA; omega)))
            have z1d : A < wr.heap.size := by omega
            have HOr3 := hide hO
            have HFr3 := hide hF
            have HAr := hide hXr
            clear hO hF hXr
            by_cases hlt : k3 < p.ar.length
            · obtain ⟨rfl, hb3⟩ := unhide S3 (by omega)
              obtain ⟨v, g1, hcd⟩ := unhide H3 k3 hlt
              rw [Nat.mul_one] at g1
              have HG1 := hide g1
              obtain ⟨b6, o6, ⟨a6, c6, rfl, hc6, hm6, hs6⟩, hl6⟩ := hcd
              replace g1 := (((unhide HBr3).mono hle).cell (p := ⟨b3, o3 + k3, none⟩) hb3).trans g1
              have hfl := flat_at barm p.ar k3 hlt
              rw [unhide HLA] at hfl
              have HTk := hide (flat_take barm p.ar k3 hlt)
              generalize p.ar[k3] = z at *
              have hfp : (barm z).length = 1 + (z.flatMap bflag).length := by unfold barm; rw [List.length_append, beb_len]
              rw [hfp] at hfl
              obtain ⟨Qv, hQv⟩ : ∃ q, q = qg ++ (p.ar.take k3).flatMap barm := ⟨_, rfl⟩
              have hQvl : Qv.length = qg.length + ((p.ar.take k3).flatMap barm).length := by rw [hQv, List.length_append]
              obtain ⟨zl, hzl⟩ : ∃ c, (z.flatMap bflag).length = c := ⟨_, rfl⟩
              rw [hzl] at hfl
              have hbd : Qv.length + (1 + zl) ≤ 140737488355328 := by omega
              have HOv := hide ((unhide HOr3).eq hQv.symm)
              have HQv := hide hQv
              have HZL := hide hzl
              have HAv := HAr
              have H6 := hide hl6
              have S6 := hide hs6
              have z2d : b3 < wr.heap.size := by omega
              have e7 := u8_int (z.length : Int)
              obtain ⟨y5, hy5⟩ : ∃ y, (z.length : Int) % 256 = y := ⟨_, rfl⟩
              have HC5 := hide (show [Value.int .u8 y5] = Lib.byteCells (beb (z.length : Int) 1) by rw [← hy5]; exact one_cells z.length)
              clear hQv hzl hl6 hs6 hQvl hfl hfp
              have HOW := hide (OwnB.f8 (unhide HOv) (.cells #[.int .u8 y5] 5))
              have HNW := hide (row_new wr [.int .u8 y5] 5 rfl)
              have HN1 := hide (show ∀ u ∈ [Value.int .u8 y5], u.oneCell' = true by intro u hu; simp only [List.mem_cons, List.not_mem_nil, or_false] at hu; subst hu; rfl)
              have HM1 := hide (show Qv.length + 1 ≤ maxLen by unfold maxLen; omega)
              have HM2 := hide (show (Qv.length + 1) * 1 ≤ 140737488355328 by omega)
              have HM3 := hide (show B ≤ (World.alloc wr (.cells #[.int .u8 y5] 5)).heap.size by simp only [World.size_alloc]; omega)
              obtain ⟨ih, hi0, hz0, hz1, hz2⟩ := nf_open nfB
              go_wp2_with (at_builtin; refine wpList_append_own _ rfl _ _ 73 rfl B 5 ih (.int .u8 0) 1 1 Tryd.underlying73 hi0 hz0 hz1 hz2 rfl (by decide) (.slice ua um uc) Qv.length (Lib.byteCells Qv) rfl (unhide HOW) ⟨wr.heap.size, 0, none⟩ 1 1 [.int .u8 y5] rfl rfl (unhide HNW) (unhide HN1) (unhide HM1) (unhide HM2) (unhide HM3) ?_)
              intro v' wh hown' hgrow _
              obtain ⟨sah, snh, sch, rfl⟩ := own_form hown'
              have hO := OwnB.snoc (x := beb (z.length : Int) 1) hown' (unhide HC5) (by rw [beb_len])
              have hF := (F8.alloc B wr (.cells #[.int .u8 y5] 5)).trans (F8.of_grown (unhide HOW) hgrow)
              clear hown' hgrow HOW HNW HN1 HM1 HM2 HM3 hi0 hz0 hz1 hz2
              obtain ⟨qh, hqh⟩ : ∃ q, q = Qv ++ beb (z.length : Int) 1 := ⟨_, rfl⟩
              have hqlh : qh.length = Qv.length + 1 := by rw [hqh, List.length_append]; rw [beb_len]
              have hqleh := Nat.le_of_eq hqlh
              have hqgeh := Nat.le_of_eq hqlh.symm
              clear hqlh
              have HOh := hide (hO.eq hqh.symm)
              have HQh := hide hqh
              have HFh := hide ((unhide HFr3).trans hF)
              have hsh := hF.size
              try simp only [World.size_alloc] at hsh
              have hAx := hF.ty A _ _ (by decide) (unhide HAv)
              have HAh := hide hAx
              clear hO hF hqh
              have cAh := hAx.c4
              clear hAx
              clear cP g1 e7 hy5
              obtain ⟨wm, rfl⟩ : ∃ x, x = wr := ⟨_, rfl⟩
              go_wp2
              clear cAh
              go_loopw [3, 13] (fun b i wr => ∃ (j : Nat) (u : Value), u = b ∧ j ≤ z.length ∧ i = .int .i64 j ∧ OwnB wr B u (qh ++ (z.take j).flatMap bflag) ∧ F8 B W wr) (fun _ i _ => z.length - (intOf i).toNat)
              case atStart => exact ⟨0, _, rfl, Nat.zero_le _, rfl, by simpa using unhide HOh, unhide HFh⟩
              case round =>
                obtain ⟨j, u, hu, hj, rfl, hO, hF⟩ := hrel
                subst hu
                obtain ⟨ua2, um2, uc2, rfl⟩ := own_form hO
                have hsr4 := hF.size
                have hXr := hF.ty A _ _ (by decide) (unhide HXP)
                rw [unhide HMM] at hXr
                have cP := hXr.c4
                have HBr4 := hide ((unhide HBW).trans ((hF.below (N := A) (by omega) (by omega)).mono (by have := unhide HEA; omega)))
                have g1 := (((unhide HBr4).mono hle).cell (p := ⟨b3, o3 + k3, none⟩) hb3).trans (unhide HG1)
                have z1e : A < wr.heap.size := by omega
                have z2e : b3 < wr.heap.size := by omega
                have HOr4 := hide hO
                have HFr4 := hide hF
                clear hO hF hXr
                by_cases hlt2 : j < z.length
                · obtain ⟨rfl, hb6⟩ := unhide S6 (by omega)
                  have g2 := BoAt.below ((unhide HBr4).mono hle) hb6 (unhide H6 j hlt2)
                  unfold BoAt at g2
                  rw [Nat.mul_one] at g2
                  have hfl2 := flat_at bflag z j hlt2
                  rw [unhide HZL] at hfl2
                  have HTj := hide (flat_take bflag z j hlt2)
                  generalize z[j] = x at *
                  have z3e : b6 < wr.heap.size := by omega
                  obtain ⟨Qv, hQv⟩ : ∃ q, q = qh ++ (z.take j).flatMap bflag := ⟨_, rfl⟩
                  have hQvl : Qv.length = qh.length + ((z.take j).flatMap bflag).length := by rw [hQv, List.length_append]
                  have hbd2 : Qv.length + 1 ≤ 140737488355328 := by have : (bflag x).length = 1 := rfl; omega
                  have HQv2 := hide hQv
                  have HOw := hide ((unhide HOr4).eq hQv.symm)
                  obtain ⟨y6, hy6⟩ : ∃ y : Int, (if x then 1 else 0) = y := ⟨_, rfl⟩
                  have HBT := hide (show ∀ w : World, Calls Tryd.prog 50 #[.bool x] w fun e w' => e = .returned (.int .u8 y6) ∧ w' = w from fun w => by rw [← hy6]; exact bit_is x w)
                  have HC6 := hide (show [Value.int .u8 y6] = Lib.byteCells (bflag x) by rw [← hy6]; exact flag_cells x)
                  clear hQv hQvl hfl2 hy6
                  go_wp2_with fail
                  refine (unhide HBT wr).mono ?_
                  rintro e wb ⟨rfl, rfl⟩
                  have HOW := hide (OwnB.f8 (unhide HOw) (.cells #[.int .u8 y6] 5))
                  have HNW := hide (row_new wb [.int .u8 y6] 5 rfl)
                  have HN1 := hide (show ∀ u ∈ [Value.int .u8 y6], u.oneCell' = true by intro u hu; simp only [List.mem_cons, List.not_mem_nil, or_false] at hu; subst hu; rfl)
                  have HM1 := hide (show Qv.length + 1 ≤ maxLen by unfold maxLen; omega)
                  have HM2 := hide (show (Qv.length + 1) * 1 ≤ 140737488355328 by omega)
                  have HM3 := hide (show B ≤ (World.alloc wb (.cells #[.int .u8 y6] 5)).heap.size by simp only [World.size_alloc]; omega)
                  obtain ⟨ii, hi0, hz0, hz1, hz2⟩ := nf_open nfB
                  go_wp2_with (at_builtin; refine wpList_append_own _ rfl _ _ 73 rfl B 5 ii (.int .u8 0) 1 1 Tryd.underlying73 hi0 hz0 hz1 hz2 rfl (by decide) (.slice ua2 um2 uc2) Qv.length (Lib.byteCells Qv) rfl (unhide HOW) ⟨wb.heap.size, 0, none⟩ 1 1 [.int .u8 y6] rfl rfl (unhide HNW) (unhide HN1) (unhide HM1) (unhide HM2) (unhide HM3) ?_)
                  intro v' wi hown' hgrow _
                  obtain ⟨sai, sni, sci, rfl⟩ := own_form hown'
                  have hO := OwnB.snoc (x := bflag x) hown' (unhide HC6) (by rfl)
                  have hF := (F8.alloc B wb (.cells #[.int .u8 y6] 5)).trans (F8.of_grown (unhide HOW) hgrow)
                  clear hown' hgrow HOW HNW HN1 HM1 HM2 HM3 hi0 hz0 hz1 hz2
                  obtain ⟨qi, hqi⟩ : ∃ q, q = Qv ++ bflag x := ⟨_, rfl⟩
                  have hqli : qi.length = Qv.length + 1 := by rw [hqi, List.length_append]; rfl
                  have hqlei := Nat.le_of_eq hqli
                  have hqgei := Nat.le_of_eq hqli.symm
                  clear hqli
                  have HOi := hide (hO.eq hqi.symm)
                  have HQi := hide hqi
                  have HFi := hide ((unhide HFr4).trans hF)
                  have hsi := hF.size
                  try simp only [World.size_alloc] at hsi
                  clear hO hF hqi
                  have HEND := hide (show OwnB wi B (.slice sai sni sci) (qh ++ (z.take (j + 1)).flatMap bflag) from (unhide HOi).eq (by
                    rw [unhide HQi, unhide HQv2, unhide HTj]
                    simp only [List.append_assoc]))
                  go_wp2
                  go_roundw
                  case rel => exact ⟨j + 1, _, rfl, by omega, by go_num, unhide HEND, unhide HFi⟩
                  case measure => simp [intOf]; omega
                · have ej : z.take j = z := List.take_of_length_le (by omega)
                  have HEND := hide (show OwnB wr B (.slice ua2 um2 uc2) (qg ++ (p.ar.take (k3 + 1)).flatMap barm) from (unhide HOr4).eq (by
                    rw [ej, unhide HQh, unhide HQv, unhide HTk]
                    unfold barm
                    simp only [List.append_assoc]))
                  clear ej
                  go_wp2
                  go_roundw
                  case rel => exact ⟨k3 + 1, _, rfl, by omega, by go_num, unhide HEND, unhide HFr4⟩
                  case measure => simp [intOf]; omega
            · have ek : p.ar.take k3 = p.ar := List.take_of_length_le (by omega)
              have HEND := hide (show OwnB wr B (.slice ua um uc) (bprog p) from (unhide HOr3).eq (by
                rw [ek, unhide HQg, unhide HQf, unhide HQb, unhide HQa, unhide E0]
                simp only [List.append_assoc]))
              have hcv := ownb_conv (unhide HEND)
              clear ek
              go_wp2
              go_ret
              exact ⟨rfl, unhide HBr3⟩
end Go.Proofs.YtgheaieghoekhaaDoor
