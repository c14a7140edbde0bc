/- Layer 15: Take. Layer 15: Park. -/
import Derived.Test.YtbblmbbpicinlabYv
namespace Go.Proofs.Ytbblmbbpicinlab
open Go.RowKit

abbrev kta0 : Oper := { dst := some 35, op := Op.move (Operand.tmp 0), type := 33, pos := "sel.go:48", after := #[], guard := none }
abbrev kta1 : Oper := { dst := some 36, op := Op.nilCheck (Operand.tmp 35), type := 0, pos := "sel.go:48", after := #[{ on := 0, ground := Ground.data }], guard := none }
abbrev kta2 : Oper := { dst := some 37, op := Op.fieldAddr 70 (Operand.tmp 36) 0, type := 0, pos := "sel.go:48", after := #[{ on := 1, ground := Ground.data }], guard := none }
abbrev kta3 : Oper := { dst := some 38, op := Op.load 29 (Operand.tmp 37), type := 29, pos := "sel.go:48", after := #[{ on := 2, ground := Ground.data }], guard := none }
abbrev kta4 : Oper := { dst := some 39, op := Op.load 24 (Operand.tmp 5), type := 24, pos := "sel.go:48", after := #[], guard := none }
abbrev kta5 : Oper := { dst := some 40, op := Op.fieldAddr 54 (Operand.tmp 12) 0, type := 0, pos := "sel.go:48", after := #[], guard := none }
abbrev kta6 : Oper := { dst := some 41, op := Op.load 24 (Operand.tmp 40), type := 24, pos := "sel.go:48", after := #[{ on := 5, ground := Ground.data }], guard := none }
abbrev kta7 : Oper := { dst := some 42, op := Op.fieldAddr 54 (Operand.tmp 12) 2, type := 0, pos := "sel.go:48", after := #[], guard := none }
abbrev kta8 : Oper := { dst := some 43, op := Op.load 41 (Operand.tmp 42), type := 41, pos := "sel.go:48", after := #[{ on := 7, ground := Ground.data }], guard := none }
abbrev kta9 : Oper := { dst := some 44, op := Op.call { callee := Callee.value (Operand.func 19), args := #[Operand.tmp 38, Operand.tmp 39, Operand.tmp 41, Operand.tmp 43], argTypes := #[29, 24, 24, 41] }, type := 45, pos := "sel.go:48", after := #[{ on := 3, ground := Ground.data }, { on := 4, ground := Ground.data }, { on := 6, ground := Ground.data }, { on := 8, ground := Ground.data }], guard := none }
abbrev kta10 : Oper := { dst := some 45, op := Op.extract (Operand.tmp 44) 0, type := 44, pos := "sel.go:48", after := #[{ on := 9, ground := Ground.data }], guard := none }
abbrev kta11 : Oper := { dst := some 46, op := Op.extract (Operand.tmp 44) 1, type := 30, pos := "sel.go:48", after := #[{ on := 9, ground := Ground.data }], guard := none }
abbrev kta12 : Oper := { dst := none, op := Op.store 44 (Operand.tmp 8) (Operand.tmp 45), type := 0, pos := "sel.go:48", after := #[{ on := 10, ground := Ground.data }, { on := 9, ground := Ground.chain }, { on := 0, ground := Ground.phase }, { on := 1, ground := Ground.phase }, { on := 2, ground := Ground.phase }, { on := 3, ground := Ground.phase }, { on := 4, ground := Ground.phase }, { on := 5, ground := Ground.phase }, { on := 6, ground := Ground.phase }, { on := 7, ground := Ground.phase }, { on := 8, ground := Ground.phase }, { on := 9, ground := Ground.phase }, { on := 10, ground := Ground.phase }, { on := 11, ground := Ground.phase }], guard := none }
abbrev kta13 : Oper := { dst := some 9, op := Op.assign (Operand.tmp 46), type := 30, pos := "sel.go:48", after := #[{ on := 11, ground := Ground.data }, { on := 12, ground := Ground.chain }, { on := 0, ground := Ground.phase }, { on := 1, ground := Ground.phase }, { on := 2, ground := Ground.phase }, { on := 3, ground := Ground.phase }, { on := 4, ground := Ground.phase }, { on := 5, ground := Ground.phase }, { on := 6, ground := Ground.phase }, { on := 7, ground := Ground.phase }, { on := 8, ground := Ground.phase }, { on := 9, ground := Ground.phase }, { on := 10, ground := Ground.phase }, { on := 11, ground := Ground.phase }, { on := 12, ground := Ground.phase }], guard := none }
abbrev ktb0 : Oper := { dst := some 47, op := Op.move (Operand.tmp 0), type := 33, pos := "sel.go:50", after := #[], guard := none }
abbrev ktb1 : Oper := { dst := some 48, op := Op.nilCheck (Operand.tmp 47), type := 0, pos := "sel.go:50", after := #[{ on := 0, ground := Ground.data }], guard := none }
abbrev ktb2 : Oper := { dst := some 49, op := Op.fieldAddr 70 (Operand.tmp 48) 0, type := 0, pos := "sel.go:50", after := #[{ on := 1, ground := Ground.data }], guard := none }
abbrev ktb3 : Oper := { dst := some 50, op := Op.load 29 (Operand.tmp 49), type := 29, pos := "sel.go:50", after := #[{ on := 2, ground := Ground.data }], guard := none }
abbrev ktb4 : Oper := { dst := some 51, op := Op.load 24 (Operand.tmp 5), type := 24, pos := "sel.go:50", after := #[], guard := none }
abbrev ktb5 : Oper := { dst := some 52, op := Op.fieldAddr 54 (Operand.tmp 12) 0, type := 0, pos := "sel.go:50", after := #[], guard := none }
abbrev ktb6 : Oper := { dst := some 53, op := Op.load 24 (Operand.tmp 52), type := 24, pos := "sel.go:50", after := #[{ on := 5, ground := Ground.data }], guard := none }
abbrev ktb7 : Oper := { dst := some 54, op := Op.call { callee := Callee.value (Operand.func 14), args := #[Operand.tmp 50, Operand.tmp 51, Operand.tmp 53], argTypes := #[29, 24, 24] }, type := 45, pos := "sel.go:50", after := #[{ on := 3, ground := Ground.data }, { on := 4, ground := Ground.data }, { on := 6, ground := Ground.data }], guard := none }
abbrev ktb8 : Oper := { dst := some 55, op := Op.extract (Operand.tmp 54) 0, type := 44, pos := "sel.go:50", after := #[{ on := 7, ground := Ground.data }], guard := none }
abbrev ktb9 : Oper := { dst := some 56, op := Op.extract (Operand.tmp 54) 1, type := 30, pos := "sel.go:50", after := #[{ on := 7, ground := Ground.data }], guard := none }
abbrev ktb10 : Oper := { dst := none, op := Op.store 44 (Operand.tmp 8) (Operand.tmp 55), type := 0, pos := "sel.go:50", after := #[{ on := 8, ground := Ground.data }, { on := 7, ground := Ground.chain }, { on := 0, ground := Ground.phase }, { on := 1, ground := Ground.phase }, { on := 2, ground := Ground.phase }, { on := 3, ground := Ground.phase }, { on := 4, ground := Ground.phase }, { on := 5, ground := Ground.phase }, { on := 6, ground := Ground.phase }, { on := 7, ground := Ground.phase }, { on := 8, ground := Ground.phase }, { on := 9, ground := Ground.phase }], guard := none }
abbrev ktb11 : Oper := { dst := some 9, op := Op.assign (Operand.tmp 56), type := 30, pos := "sel.go:50", after := #[{ on := 9, ground := Ground.data }, { on := 10, ground := Ground.chain }, { on := 0, ground := Ground.phase }, { on := 1, ground := Ground.phase }, { on := 2, ground := Ground.phase }, { on := 3, ground := Ground.phase }, { on := 4, ground := Ground.phase }, { on := 5, ground := Ground.phase }, { on := 6, ground := Ground.phase }, { on := 7, ground := Ground.phase }, { on := 8, ground := Ground.phase }, { on := 9, ground := Ground.phase }, { on := 10, ground := Ground.phase }], guard := none }

theorem idxA_mem {l : List Wt} {ks : List Kn} : ∀ {i : Nat} {r : List Am} {j : Nat}, j ∈ idxA l ks i r → ∃ m, ∃ hm : m < r.length, j = i + m ∧ nnH r[m].h = false ∧ rdA l ks r[m] = true
  | _, [], _, h => by cases h
  | i, a :: r, j, h => by
    rw [idxA] at h
    split at h
    · rename_i hc
      rcases List.mem_cons.1 h with rfl | h
      · simp only [Bool.and_eq_true, Bool.not_eq_true'] at hc
        exact ⟨0, by simp, rfl, hc.1, hc.2⟩
      · obtain ⟨m, hm, e, h1, h2⟩ := idxA_mem h
        exact ⟨m + 1, by simpa using hm, by omega, h1, h2⟩
    · obtain ⟨m, hm, e, h1, h2⟩ := idxA_mem h
      exact ⟨m + 1, by simpa using hm, by omega, h1, h2⟩
theorem akA_ok {l : List Wt} {ks : List Kn} {g : Hnd} {az : List Am} (h : (akA l ks g az).2 = 0) : nnH g = false ∧ sel (isWho g.1 g.2) l = [] ∧ az.length ≤ 50 ∧ (∀ x ∈ az, badA ks x = false) ∧ (akA l ks g az).1 = idxA l ks 0 az := by
  unfold akA at h ⊢
  by_cases h1 : nnH g = true
  · rw [if_pos h1] at h; exact absurd h (by decide)
  · rw [if_neg h1] at h ⊢
    by_cases h2 : 0 < (sel (isWho g.1 g.2) l).length
    · rw [if_pos h2] at h; exact absurd h (by decide)
    · rw [if_neg h2] at h ⊢
      unfold plA at h ⊢
      by_cases h3 : 50 < az.length
      · rw [if_pos h3] at h; exact absurd h (by decide)
      · rw [if_neg h3] at h ⊢
        unfold lkA at h ⊢
        by_cases h4 : az.any (badA ks) = true
        · rw [if_pos h4] at h; exact absurd h (by decide)
        · rw [if_neg h4] at h ⊢
          refine ⟨by simpa using h1, List.eq_nil_of_length_eq_zero (by omega), by omega, fun x hx => ?_, rfl⟩
          have : az.any (badA ks) = false := by simpa using h4
          rw [List.any_eq_false] at this
          simpa using this x hx
theorem rdA_some {l : List Wt} {ks : List Kn} {x : Am} (h : rdA l ks x = true) : ∃ k, fnk ks x.h = some k := by
  unfold rdA fkS fkR at h
  cases hk : fnk ks x.h with
  | none => rw [hk] at h; split at h <;> cases h
  | some k => exact ⟨k, rfl⟩
/-- an arm is taken -/
def tkK (l : List Wt) (k : Kn) (gr : Hnd) (x : Am) : Dd × List Wt × Kn := if x.sd then sndK l k gr x.v else rcvK l k gr

theorem AnsK.up {w V w6 w' : World} {B c bp A : Nat} {G : Nat → Prop} {l l' : List Wt} {ks ks' : List Kn} {wk : List Wk} {sv : Value} (h : SW w B c bp l ks G) (ha : AnsK V w6 B c bp G l' ks' wk sv) (cV : Ch (fun _ => False) w V) (hA : w.heap.size ≤ A) (hA2 : A < V.heap.size) (cA : Ch (fun y => y = A) w6 w') : AnsK w w' B c bp G l' ks' wk sv := by
  obtain ⟨⟨G', hs, hd⟩, hr, hc⟩ := ha
  have nA : ∀ y, G' y → ¬ y = A := fun y hy e => by
    rcases hd y hy with hy | hy
    · have := (h.foot hy).2; omega
    · omega
  refine ⟨⟨G', hs.frame cA nA, fun y hy => (hd y hy).imp_right fun e => Nat.le_trans cV.size e⟩, Row.ch (rowLow hr cV.size) cA (fun g hg e => by have := (own_in hr hg).1; omega), ?_⟩
  exact ((cV.mono (Q' := G) (fun _ _ h => h.elim)).trans hc (fun _ _ h => h)).trans cA (fun y hy e => by omega)

theorem res_Take (tm : Array Value) (A : Nat) (Z : World) (fate n a b : Int) (ok : Bool) (wk : Value) (q : Int) (h2 : tm[8]?.getD undef = .pointer (some ⟨A, 0, none⟩)) (h3 : tm[9]?.getD undef = .int .i64 q) (hb : Z.heap[A]? = some (.cells #[.int .i64 fate, .int .i64 n, .int .u32 a, .int .u32 b, .bool ok, wk] 44 (0, 0))) :
    (results Try.f9 tm).run Try.prog Z = .ok (.tuple #[didV fate ⟨n, a, b⟩ ok wk, .int .i64 q]) Z := by
  have e := Lib.cell_of_heap hb
  simp [results, Try.f9, h2, h3, go_sem, e]

section
variable {w : World} {B c bp s g cap : Nat} {l : List Wt} {ks : List Kn} {G : Nat → Prop} {az : List Am} {a : Option Addr}

set_option maxRecDepth 100000 in
set_option maxHeartbeats 16000000 in
theorem take_err (h : SW w B c bp l ks G) (hl : l.length ≤ 100000) (hs : SelAt w s c bp) (hA : ArmsIn w a g az) (hu : ∀ x ∈ az, AmOk x) (hb0 : az.length ≤ 1000000) {gr : Hnd} (g1 : UsW gr.1) (g2 : UsW gr.2) {i : Int} {q : Int} (he : (akA l ks gr az).2 = q) (hq : q ≠ 0) :
    Calls Try.prog 9 #[.pointer (some ⟨s, 0, none⟩), hkV gr, .slice a az.length cap, .int .i64 i] w fun e w' => e = .returned (.tuple #[didV 0 zVa false (.slice none 0 0), .int .i64 q]) ∧ Below w.heap.size w w' := by
  obtain ⟨w1, hw1⟩ : ∃ w1, w.alloc (.cells #[.int .u32 gr.1, .int .u32 gr.2] 24) = w1 := ⟨_, rfl⟩
  obtain ⟨w2, hw2⟩ : ∃ w2, w1.alloc (.cells #[.int .i64 0, .int .i64 0, .int .u32 0, .int .u32 0, .bool false, .slice none 0 0] 44) = w2 := ⟨_, rfl⟩
  have hz1 : w1.heap.size = w.heap.size + 1 := by rw [← hw1, World.size_alloc]
  have hz2 : w2.heap.size = w1.heap.size + 1 := by rw [← hw2, World.size_alloc]
  have HZ := hide (And.intro hz1 hz2)
  have C1 : Ch (fun _ => False) w w1 := by rw [← hw1]; exact Ch.alloc _ _
  have C12 : Ch (fun _ => False) w1 w2 := by rw [← hw2]; exact Ch.alloc _ _
  have C2 := hide (C1.trans C12 (fun _ _ h => h))
  have hn1 : w2.heap[w.heap.size]? = some (.cells #[.int .u32 gr.1, .int .u32 gr.2] 24 (0, 0)) := C12.box (by rw [← hw1]; exact heap_new _ _) (fun h => h)
  have HN1 := hide hn1
  have HN2 := hide (show w2.heap[w1.heap.size]? = some (.cells #[.int .i64 0, .int .i64 0, .int .u32 0, .int .u32 0, .bool false, .slice none 0 0] 44 (0, 0)) by rw [← hw2]; exact heap_new _ _)
  have H0 := hide h
  have H := hide (h.quiet C2.out)
  have HS := hide (show SelAt w2 s c bp from C2.out.box hs (fun h => h))
  have HA := hide (hA.ch C2.out (fun h => h))
  have HU := hide hu
  have k0 : w2.cell? ⟨w.heap.size, 0, none⟩ = some (.int .u32 gr.1) := by simp [Lib.cell_of_heap hn1]
  have k1 : w2.cell? ⟨w.heap.size, 1, none⟩ = some (.int .u32 gr.2) := by simp [Lib.cell_of_heap hn1]
  clear h hs hA hu hn1 C1 C12 hz1 hz2
  go_enter Try.func9, Try.ntmps9
  go_wp2_with fail
  clear hw1 hw2
  refine (asked_is (cap := cap) H.out hl HS.out HA.out HU.out hb0 g1 g2).mono ?_
  rintro e w3 ⟨v3, rfl, hr3, hb3⟩
  have C3 := hide (C2.out.trans (Ch.of_below (Q := fun _ => False) hb3) (fun _ _ h => h))
  have D3 := hide (Ch.of_below (Q := fun _ => False) hb3)
  have R3 := hide hr3
  clear hb3 k0 k1 hr3
  rw [he]
  have hq2 : (q == 0) = false := by simpa using hq
  clear he hq
  have n3 := D3.out.box HN2.out (fun h => h)
  have z0 : w3.cell? ⟨w1.heap.size, 0, none⟩ = some (.int .i64 0) := by simp [Lib.cell_of_heap n3]
  have z1 : w3.cell? ⟨w1.heap.size, 1, none⟩ = some (.int .i64 0) := by simp [Lib.cell_of_heap n3]
  have z2 : w3.cell? ⟨w1.heap.size, 2, none⟩ = some (.int .u32 0) := by simp [Lib.cell_of_heap n3]
  have z3 : w3.cell? ⟨w1.heap.size, 3, none⟩ = some (.int .u32 0) := by simp [Lib.cell_of_heap n3]
  have z4 : w3.cell? ⟨w1.heap.size, 4, none⟩ = some (.bool false) := by simp [Lib.cell_of_heap n3]
  have z5 : w3.cell? ⟨w1.heap.size, 5, none⟩ = some (.slice none 0 0) := by simp [Lib.cell_of_heap n3]
  have zf : ∀ j, w3.frozen? ⟨w1.heap.size, j, none⟩ = false := frz n3
  have HSE := hide (did_set n3 (.int .i64 0) (.int .i64 0) (.int .u32 0) (.int .u32 0) (.bool false) (.slice none 0 0))
  clear n3
  go_wp2_with fail
  refine bodyPost_ret (v := .tuple #[didV 0 zVa false (.slice none 0 0), .int .i64 q]) (res_Take _ w1.heap.size _ 0 0 0 0 false _ q rfl rfl HSE.out.1) rfl ⟨rfl, ?_⟩
  have hz := HZ.out
  exact (C3.out.trans HSE.out.2 (fun y hy e => (show y ≠ w1.heap.size by omega) e)).below (N := w.heap.size) (Nat.le_refl _) (fun _ _ h => h)

set_option maxRecDepth 100000 in
set_option maxHeartbeats 16000000 in
theorem take_arm (h : SW w B c bp l ks G) (hl : l.length ≤ 100000) (hs : SelAt w s c bp) (hA : ArmsIn w a g az) (hu : ∀ x ∈ az, AmOk x) (hb0 : az.length ≤ 1000000) {gr : Hnd} (g1 : UsW gr.1) (g2 : UsW gr.2) {i : Int} (he : (akA l ks gr az).2 = 0) (hi : inN (akA l ks gr az).1 i = false) :
    Calls Try.prog 9 #[.pointer (some ⟨s, 0, none⟩), hkV gr, .slice a az.length cap, .int .i64 i] w fun e w' => e = .returned (.tuple #[didV 0 zVa false (.slice none 0 0), .int .i64 152]) ∧ Below w.heap.size w w' := by
  obtain ⟨w1, hw1⟩ : ∃ w1, w.alloc (.cells #[.int .u32 gr.1, .int .u32 gr.2] 24) = w1 := ⟨_, rfl⟩
  obtain ⟨w2, hw2⟩ : ∃ w2, w1.alloc (.cells #[.int .i64 0, .int .i64 0, .int .u32 0, .int .u32 0, .bool false, .slice none 0 0] 44) = w2 := ⟨_, rfl⟩
  have hz1 : w1.heap.size = w.heap.size + 1 := by rw [← hw1, World.size_alloc]
  have hz2 : w2.heap.size = w1.heap.size + 1 := by rw [← hw2, World.size_alloc]
  have HZ := hide (And.intro hz1 hz2)
  have C1 : Ch (fun _ => False) w w1 := by rw [← hw1]; exact Ch.alloc _ _
  have C12 : Ch (fun _ => False) w1 w2 := by rw [← hw2]; exact Ch.alloc _ _
  have C2 := hide (C1.trans C12 (fun _ _ h => h))
  have hn1 : w2.heap[w.heap.size]? = some (.cells #[.int .u32 gr.1, .int .u32 gr.2] 24 (0, 0)) := C12.box (by rw [← hw1]; exact heap_new _ _) (fun h => h)
  have HN1 := hide hn1
  have HN2 := hide (show w2.heap[w1.heap.size]? = some (.cells #[.int .i64 0, .int .i64 0, .int .u32 0, .int .u32 0, .bool false, .slice none 0 0] 44 (0, 0)) by rw [← hw2]; exact heap_new _ _)
  have H0 := hide h
  have H := hide (h.quiet C2.out)
  have HS := hide (show SelAt w2 s c bp from C2.out.box hs (fun h => h))
  have HA := hide (hA.ch C2.out (fun h => h))
  have HU := hide hu
  have k0 : w2.cell? ⟨w.heap.size, 0, none⟩ = some (.int .u32 gr.1) := by simp [Lib.cell_of_heap hn1]
  have k1 : w2.cell? ⟨w.heap.size, 1, none⟩ = some (.int .u32 gr.2) := by simp [Lib.cell_of_heap hn1]
  clear h hs hA hu hn1 C1 C12 hz1 hz2
  go_enter Try.func9, Try.ntmps9
  go_wp2_with fail
  clear hw1 hw2
  refine (asked_is (cap := cap) H.out hl HS.out HA.out HU.out hb0 g1 g2).mono ?_
  rintro e w3 ⟨v3, rfl, hr3, hb3⟩
  have C3 := hide (C2.out.trans (Ch.of_below (Q := fun _ => False) hb3) (fun _ _ h => h))
  have D3 := hide (Ch.of_below (Q := fun _ => False) hb3)
  have R3 := hide hr3
  clear hb3 k0 k1 hr3
  rw [he]
  have HI := hide hi
  clear he hi
  go_wp2_with fail
  refine (contains_is R3.out (by have := akA_small l ks gr az; omega) i).mono ?_
  rintro e w4 ⟨rfl, hb4⟩
  have C4 := hide (C3.out.trans (Ch.of_below (Q := fun _ => False) hb4) (fun _ _ h => h))
  have D4 := hide (D3.out.trans (Ch.of_below (Q := fun _ => False) hb4) (fun _ _ h => h))
  clear hb4
  rw [HI.out]
  have n3 := D4.out.box HN2.out (fun h => h)
  have z0 : w4.cell? ⟨w1.heap.size, 0, none⟩ = some (.int .i64 0) := by simp [Lib.cell_of_heap n3]
  have z1 : w4.cell? ⟨w1.heap.size, 1, none⟩ = some (.int .i64 0) := by simp [Lib.cell_of_heap n3]
  have z2 : w4.cell? ⟨w1.heap.size, 2, none⟩ = some (.int .u32 0) := by simp [Lib.cell_of_heap n3]
  have z3 : w4.cell? ⟨w1.heap.size, 3, none⟩ = some (.int .u32 0) := by simp [Lib.cell_of_heap n3]
  have z4 : w4.cell? ⟨w1.heap.size, 4, none⟩ = some (.bool false) := by simp [Lib.cell_of_heap n3]
  have z5 : w4.cell? ⟨w1.heap.size, 5, none⟩ = some (.slice none 0 0) := by simp [Lib.cell_of_heap n3]
  have zf : ∀ j, w4.frozen? ⟨w1.heap.size, j, none⟩ = false := frz n3
  have HSE := hide (did_set n3 (.int .i64 0) (.int .i64 0) (.int .u32 0) (.int .u32 0) (.bool false) (.slice none 0 0))
  clear n3
  go_wp2_with fail
  refine bodyPost_ret (v := .tuple #[didV 0 zVa false (.slice none 0 0), .int .i64 152]) (res_Take _ w1.heap.size _ 0 0 0 0 false _ 152 rfl rfl HSE.out.1) rfl ⟨rfl, ?_⟩
  have hz := HZ.out
  exact (C4.out.trans HSE.out.2 (fun y hy e => (show y ≠ w1.heap.size by omega) e)).below (N := w.heap.size) (Nat.le_refl _) (fun _ _ h => h)

set_option maxRecDepth 100000 in
set_option maxHeartbeats 16000000 in
theorem take_send (h : SW w B c bp l ks G) (hl : l.length ≤ 100000) (hs : SelAt w s c bp) (hA : ArmsIn w a g az) (hu : ∀ x ∈ az, AmOk x) (hb0 : az.length ≤ 1000000) {gr : Hnd} (g1 : UsW gr.1) (g2 : UsW gr.2) {i : Int} (wo : WtOk l) (he : (akA l ks gr az).2 = 0) {m : Nat} (hm : m < az.length) (him : i = (m : Int)) (hin : inN (akA l ks gr az).1 i = true) {x : Am} (hx : az[m] = x) (hsd : x.sd = true) (nn : nnH x.h = false) {k : Kn} (hk : fnk ks x.h = some k) :
    Calls Try.prog 9 #[.pointer (some ⟨s, 0, none⟩), hkV gr, .slice a az.length cap, .int .i64 i] w fun e w' => ∃ sv, e = .returned (.tuple #[ddV (sndK l k gr x.v).1 sv, .int .i64 0]) ∧ AnsK w w' B c bp G (sndK l k gr x.v).2.1 (setk ks (sndK l k gr x.v).2.2) (sndK l k gr x.v).1.wk sv := by
  obtain ⟨w1, hw1⟩ : ∃ w1, w.alloc (.cells #[.int .u32 gr.1, .int .u32 gr.2] 24) = w1 := ⟨_, rfl⟩
  obtain ⟨w2, hw2⟩ : ∃ w2, w1.alloc (.cells #[.int .i64 0, .int .i64 0, .int .u32 0, .int .u32 0, .bool false, .slice none 0 0] 44) = w2 := ⟨_, rfl⟩
  have hz1 : w1.heap.size = w.heap.size + 1 := by rw [← hw1, World.size_alloc]
  have hz2 : w2.heap.size = w1.heap.size + 1 := by rw [← hw2, World.size_alloc]
  have HZ := hide (And.intro hz1 hz2)
  have C1 : Ch (fun _ => False) w w1 := by rw [← hw1]; exact Ch.alloc _ _
  have C12 : Ch (fun _ => False) w1 w2 := by rw [← hw2]; exact Ch.alloc _ _
  have C2 := hide (C1.trans C12 (fun _ _ h => h))
  have hn1 : w2.heap[w.heap.size]? = some (.cells #[.int .u32 gr.1, .int .u32 gr.2] 24 (0, 0)) := C12.box (by rw [← hw1]; exact heap_new _ _) (fun h => h)
  have HN1 := hide hn1
  have HN2 := hide (show w2.heap[w1.heap.size]? = some (.cells #[.int .i64 0, .int .i64 0, .int .u32 0, .int .u32 0, .bool false, .slice none 0 0] 44 (0, 0)) by rw [← hw2]; exact heap_new _ _)
  have H0 := hide h
  have H := hide (h.quiet C2.out)
  have HS := hide (show SelAt w2 s c bp from C2.out.box hs (fun h => h))
  have HA := hide (hA.ch C2.out (fun h => h))
  have HU := hide hu
  have k0 : w2.cell? ⟨w.heap.size, 0, none⟩ = some (.int .u32 gr.1) := by simp [Lib.cell_of_heap hn1]
  have k1 : w2.cell? ⟨w.heap.size, 1, none⟩ = some (.int .u32 gr.2) := by simp [Lib.cell_of_heap hn1]
  clear h hs hA hu hn1 C1 C12 hz1 hz2
  obtain ⟨ng, nw, haz, -, -⟩ := akA_ok he
  have UX := hide (HU.out x (by rw [← hx]; exact List.getElem_mem hm))
  have HNG := hide (And.intro ng (And.intro nw nn))
  have HK := hide hk
  have HI := hide hin
  have HM := hide hm
  have HX := hide (show az[m]'(HM.out) = x from hx)
  have ha := HA.out.addr (by omega)
  have i1 : (m : Int) < (az.length : Int) := by omega
  have i0 : (0 : Int) ≤ (m : Int) := by omega
  have i2 : (m : Int) ≤ 1000000 := by omega
  subst ha
  subst him
  have HE := hide he
  have HB0 := hide hb0
  have HAZ := hide haz
  clear ng nw nn hk hin hx hm he haz
  go_enter Try.func9, Try.ntmps9
  go_wp2_with fail
  clear hw1 hw2
  refine (asked_is (cap := cap) H.out hl HS.out HA.out HU.out HB0.out g1 g2).mono ?_
  rintro e w3 ⟨v3, rfl, hr3, hb3⟩
  have C3 := hide (C2.out.trans (Ch.of_below (Q := fun _ => False) hb3) (fun _ _ h => h))
  have D3 := hide (Ch.of_below (Q := fun _ => False) hb3)
  have R3 := hide hr3
  clear hb3 k0 k1 hr3
  rw [HE.out]
  go_wp2_with fail
  refine (contains_is R3.out (by have := akA_small l ks gr az; omega) m).mono ?_
  rintro e w4 ⟨rfl, hb4⟩
  have C4 := hide (C3.out.trans (Ch.of_below (Q := fun _ => False) hb4) (fun _ _ h => h))
  have D4 := hide (D3.out.trans (Ch.of_below (Q := fun _ => False) hb4) (fun _ _ h => h))
  clear hb4
  rw [HI.out]
  obtain ⟨y0, y1, y2, y3, y4, y5⟩ := (HA.out.ch D4.out (fun h => h)).mem m HM.out
  rw [HX.out] at y0 y1 y2 y3 y4 y5
  rw [hsd] at y2
  have HSD := hide hsd
  clear hsd
  go_wp2_with fail
  obtain ⟨w5, hw5⟩ : ∃ z, w4.alloc (.cells #[.int .u32 x.h.1, .int .u32 x.h.2, .bool true, .int .i64 x.v.n, .int .u32 x.v.s, .int .u32 x.v.g] 54) = z := ⟨_, rfl⟩
  rw [hw5]
  have hn5 : w5.heap[w4.heap.size]? = some (.cells #[.int .u32 x.h.1, .int .u32 x.h.2, .bool true, .int .i64 x.v.n, .int .u32 x.v.s, .int .u32 x.v.g] 54 (0, 0)) := by rw [← hw5]; exact heap_new _ _
  have C45 : Ch (fun _ => False) w4 w5 := by rw [← hw5]; exact Ch.alloc _ _
  have C5 := hide (C4.out.trans C45 (fun _ _ h => h))
  have D5 := hide (D4.out.trans C45 (fun _ _ h => h))
  have S4 := hide D4.out.size
  clear hw5 C45 y0 y1 y2 y3 y4 y5
  have N5 := hide hn5
  clear hn5
  refine wp_reg (fun y => G y ∨ y = w1.heap.size) (R := fun V => Ch (fun _ => False) w5 V) (by kernel_rfl) (Ch.drew _) (fun V cV zk => ?_)
  have CV := hide (D5.out.trans cV (fun _ _ h => h))
  have CW := hide (C5.out.trans cV (fun _ _ h => h))
  have NV := hide (cV.box N5.out (fun h => h))
  clear cV
  have HV := hide (H0.out.quiet CW.out)
  have hz := HZ.out
  have s4 := S4.out
  have NG := hide (show ∀ y, w.heap.size ≤ y → y ≠ w1.heap.size → ¬ (G y ∨ y = w1.heap.size) from fun y hy hne e => e.elim (fun e => by have := (H0.out.foot e).2; omega) hne)
  have NS := hide (show ¬ (G s ∨ s = w1.heap.size) from fun e => e.elim (H.out.nbox HS.out (by decide) (by decide) (by decide) (by decide) (by decide) (by decide)) (fun e => by have h1 := HS.out; unfold SelAt at h1; rw [e, HN2.out] at h1; injection h1 with h1; injection h1 with _ h2 _; exact absurd h2 (by decide)))
  clear hz s4
  have HXX := hide (fun wq (kq : Ch (fun y => G y ∨ y = w1.heap.size) V wq) => show (wq.cell? ⟨s, 0, none⟩ = some (.pointer (some ⟨c, 0, none⟩)) ∧ wq.cell? ⟨s, 1, none⟩ = some (.pointer (some ⟨bp, 0, none⟩))) ∧ (wq.cell? ⟨w.heap.size, 0, none⟩ = some (.int .u32 gr.1) ∧ wq.cell? ⟨w.heap.size, 1, none⟩ = some (.int .u32 gr.2)) ∧ wq.cell? ⟨w4.heap.size, 0, none⟩ = some (.int .u32 x.h.1) ∧ wq.cell? ⟨w4.heap.size, 1, none⟩ = some (.int .u32 x.h.2) ∧ wq.cell? ⟨w4.heap.size, 3, none⟩ = some (.int .i64 x.v.n) ∧ wq.cell? ⟨w4.heap.size, 4, none⟩ = some (.int .u32 x.v.s) ∧ wq.cell? ⟨w4.heap.size, 5, none⟩ = some (.int .u32 x.v.g) from by
    have hz := HZ.out
    have s4 := S4.out
    have e0 := Lib.cell_of_heap (kq.box (CV.out.box HS.out (fun h => h)) NS.out)
    have e1 := Lib.cell_of_heap (kq.box (CV.out.box HN1.out (fun h => h)) (NG.out _ (Nat.le_refl _) (by omega)))
    have e2 := Lib.cell_of_heap (kq.box NV.out (NG.out _ (by omega) (by omega)))
    exact ⟨⟨by simp [e0], by simp [e0]⟩, ⟨by simp [e1], by simp [e1]⟩, by simp [e2], by simp [e2], by simp [e2], by simp [e2], by simp [e2]⟩)
  apply tk 0 kta0 rfl (by kernel_rfl) (fun _ _ _ h => h) zk
  · intro wq zq
    go_simp
    try rfl
  go_frame
  apply tk 1 kta1 rfl (by kernel_rfl) (fun _ _ _ h => h) zk
  · intro wq zq
    go_simp
    try rfl
  go_frame
  apply tk 2 kta2 rfl (by kernel_rfl) (fun _ _ _ h => h) zk
  · intro wq zq
    go_simp
    try rfl
  go_frame
  apply tk 3 kta3 rfl (by kernel_rfl) (fun _ _ _ h => h) zk
  · intro wq zq
    obtain ⟨⟨s0, s1⟩, ⟨s2, s3⟩, s4, s5, s6, s7, s8⟩ := HXX.out _ zq
    go_simp
    try rfl
  go_frame
  apply tk 4 kta4 rfl (by kernel_rfl) (fun _ _ _ h => h) zk
  · intro wq zq
    obtain ⟨⟨s0, s1⟩, ⟨s2, s3⟩, s4, s5, s6, s7, s8⟩ := HXX.out _ zq
    go_simp
    try rfl
  go_frame
  apply tk 5 kta5 rfl (by kernel_rfl) (fun _ _ _ h => h) zk
  · intro wq zq
    go_simp
    try rfl
  go_frame
  apply tk 6 kta6 rfl (by kernel_rfl) (fun _ _ _ h => h) zk
  · intro wq zq
    obtain ⟨⟨s0, s1⟩, ⟨s2, s3⟩, s4, s5, s6, s7, s8⟩ := HXX.out _ zq
    go_simp
    try rfl
  go_frame
  apply tk 7 kta7 rfl (by kernel_rfl) (fun _ _ _ h => h) zk
  · intro wq zq
    go_simp
    try rfl
  go_frame
  apply tk 8 kta8 rfl (by kernel_rfl) (fun _ _ _ h => h) zk
  · intro wq zq
    obtain ⟨⟨s0, s1⟩, ⟨s2, s3⟩, s4, s5, s6, s7, s8⟩ := HXX.out _ zq
    go_simp
    try rfl
  go_frame
  refine Go.Proofs.Ytbblmbbpicinlab.rd 9 kta9 rfl (by kernel_rfl) fun K hK => ?_
  go_simp
  refine (sw_send HV.out hl wo HK.out HNG.out.2.2 HNG.out.1 HNG.out.2.1 UX.out.h1 UX.out.h2 g1 g2 UX.out.v0 UX.out.v1 UX.out.v2).mono ?_
  rintro e w6 ⟨sv, rfl, ha6⟩
  have A6 := hide ha6
  have Z6 := hide (zk.trans ha6.ch (fun _ _ h => .inl h))
  clear ha6
  obtain ⟨dd, hdd⟩ : ∃ d, (sndK l k gr x.v).1 = d := ⟨_, rfl⟩
  have HDD := hide hdd
  rw [hdd]
  clear hdd
  go_wp2_with fail
  refine hK.out _ _ ?_ (fun zk => ?_)
  · exact Z6.out
  clear hK K
  try go_frame
  apply tk 10 kta10 rfl (by kernel_rfl) (fun _ _ _ h => h) zk
  · intro wq zq
    go_simp
    try rfl
  go_frame
  apply tk 11 kta11 rfl (by kernel_rfl) (fun _ _ _ h => h) zk
  · intro wq zq
    go_simp
    try rfl
  go_frame
  have hz := HZ.out
  have n3 := A6.out.ch.box (CV.out.box HN2.out (fun h => h)) (fun e => by have := (H0.out.foot e).2; omega)
  have d0 : w6.cell? ⟨w1.heap.size, 0, none⟩ = some (.int .i64 0) := by simp [Lib.cell_of_heap n3]
  have d1 : w6.cell? ⟨w1.heap.size, 1, none⟩ = some (.int .i64 0) := by simp [Lib.cell_of_heap n3]
  have d2 : w6.cell? ⟨w1.heap.size, 2, none⟩ = some (.int .u32 0) := by simp [Lib.cell_of_heap n3]
  have d3 : w6.cell? ⟨w1.heap.size, 3, none⟩ = some (.int .u32 0) := by simp [Lib.cell_of_heap n3]
  have d4 : w6.cell? ⟨w1.heap.size, 4, none⟩ = some (.bool false) := by simp [Lib.cell_of_heap n3]
  have d5 : w6.cell? ⟨w1.heap.size, 5, none⟩ = some (.slice none 0 0) := by simp [Lib.cell_of_heap n3]
  have df : ∀ o, w6.frozen? ⟨w1.heap.size, o, none⟩ = false := fun o => by simp [World.frozen?, n3]
  have HSE := hide (did_set n3 (.int .i64 dd.f) (.int .i64 dd.v.n) (.int .u32 dd.v.s) (.int .u32 dd.v.g) (.bool dd.ok) sv)
  clear n3 hz
  obtain ⟨sva, svc, rfl, -⟩ := A6.out.row.form
  refine Go.Proofs.Ytbblmbbpicinlab.rd 12 kta12 rfl (by kernel_rfl) fun K hK => ?_
  go_simp
  refine hK.out _ _ ?_ (fun zk => ?_)
  · exact zk.trans HSE.out.2 (fun y hy e => .inr e)
  clear hK K
  try go_frame
  apply tk 13 kta13 rfl (by kernel_rfl) (fun _ _ _ h => h) zk
  · intro wq zq
    go_simp
    try rfl
  go_frame
  refine wpAnyH_done (by kernel_rfl) ?_ _
  go_wp2
  have hz := HZ.out
  have hv := CV.out.size
  have A9 := hide (A6.out.up H0.out CW.out (by omega) (by omega) HSE.out.2)
  refine bodyPost_ret (v := .tuple #[ddV dd _, .int .i64 0]) (res_Take _ w1.heap.size _ dd.f dd.v.n dd.v.s dd.v.g dd.ok _ 0 rfl rfl HSE.out.1) rfl ?_
  have hdd := HDD.out
  clear HXX HV CV A6 HSE HDD
  subst hdd
  exact ⟨_, rfl, A9.out⟩

set_option maxRecDepth 100000 in
set_option maxHeartbeats 16000000 in
theorem take_recv (h : SW w B c bp l ks G) (hl : l.length ≤ 100000) (hs : SelAt w s c bp) (hA : ArmsIn w a g az) (hu : ∀ x ∈ az, AmOk x) (hb0 : az.length ≤ 1000000) {gr : Hnd} (g1 : UsW gr.1) (g2 : UsW gr.2) {i : Int} (wo : WtOk l) (he : (akA l ks gr az).2 = 0) {m : Nat} (hm : m < az.length) (him : i = (m : Int)) (hin : inN (akA l ks gr az).1 i = true) {x : Am} (hx : az[m] = x) (hsd : x.sd = false) (nn : nnH x.h = false) {k : Kn} (hk : fnk ks x.h = some k) :
    Calls Try.prog 9 #[.pointer (some ⟨s, 0, none⟩), hkV gr, .slice a az.length cap, .int .i64 i] w fun e w' => ∃ sv, e = .returned (.tuple #[ddV (rcvK l k gr).1 sv, .int .i64 0]) ∧ AnsK w w' B c bp G (rcvK l k gr).2.1 (setk ks (rcvK l k gr).2.2) (rcvK l k gr).1.wk sv := by
  obtain ⟨w1, hw1⟩ : ∃ w1, w.alloc (.cells #[.int .u32 gr.1, .int .u32 gr.2] 24) = w1 := ⟨_, rfl⟩
  obtain ⟨w2, hw2⟩ : ∃ w2, w1.alloc (.cells #[.int .i64 0, .int .i64 0, .int .u32 0, .int .u32 0, .bool false, .slice none 0 0] 44) = w2 := ⟨_, rfl⟩
  have hz1 : w1.heap.size = w.heap.size + 1 := by rw [← hw1, World.size_alloc]
  have hz2 : w2.heap.size = w1.heap.size + 1 := by rw [← hw2, World.size_alloc]
  have HZ := hide (And.intro hz1 hz2)
  have C1 : Ch (fun _ => False) w w1 := by rw [← hw1]; exact Ch.alloc _ _
  have C12 : Ch (fun _ => False) w1 w2 := by rw [← hw2]; exact Ch.alloc _ _
  have C2 := hide (C1.trans C12 (fun _ _ h => h))
  have hn1 : w2.heap[w.heap.size]? = some (.cells #[.int .u32 gr.1, .int .u32 gr.2] 24 (0, 0)) := C12.box (by rw [← hw1]; exact heap_new _ _) (fun h => h)
  have HN1 := hide hn1
  have HN2 := hide (show w2.heap[w1.heap.size]? = some (.cells #[.int .i64 0, .int .i64 0, .int .u32 0, .int .u32 0, .bool false, .slice none 0 0] 44 (0, 0)) by rw [← hw2]; exact heap_new _ _)
  have H0 := hide h
  have H := hide (h.quiet C2.out)
  have HS := hide (show SelAt w2 s c bp from C2.out.box hs (fun h => h))
  have HA := hide (hA.ch C2.out (fun h => h))
  have HU := hide hu
  have k0 : w2.cell? ⟨w.heap.size, 0, none⟩ = some (.int .u32 gr.1) := by simp [Lib.cell_of_heap hn1]
  have k1 : w2.cell? ⟨w.heap.size, 1, none⟩ = some (.int .u32 gr.2) := by simp [Lib.cell_of_heap hn1]
  clear h hs hA hu hn1 C1 C12 hz1 hz2
  obtain ⟨ng, nw, haz, -, -⟩ := akA_ok he
  have UX := hide (HU.out x (by rw [← hx]; exact List.getElem_mem hm))
  have HNG := hide (And.intro ng (And.intro nw nn))
  have HK := hide hk
  have HI := hide hin
  have HM := hide hm
  have HX := hide (show az[m]'(HM.out) = x from hx)
  have ha := HA.out.addr (by omega)
  have i1 : (m : Int) < (az.length : Int) := by omega
  have i0 : (0 : Int) ≤ (m : Int) := by omega
  have i2 : (m : Int) ≤ 1000000 := by omega
  subst ha
  subst him
  have HE := hide he
  have HB0 := hide hb0
  have HAZ := hide haz
  clear ng nw nn hk hin hx hm he haz
  go_enter Try.func9, Try.ntmps9
  go_wp2_with fail
  clear hw1 hw2
  refine (asked_is (cap := cap) H.out hl HS.out HA.out HU.out HB0.out g1 g2).mono ?_
  rintro e w3 ⟨v3, rfl, hr3, hb3⟩
  have C3 := hide (C2.out.trans (Ch.of_below (Q := fun _ => False) hb3) (fun _ _ h => h))
  have D3 := hide (Ch.of_below (Q := fun _ => False) hb3)
  have R3 := hide hr3
  clear hb3 k0 k1 hr3
  rw [HE.out]
  go_wp2_with fail
  refine (contains_is R3.out (by have := akA_small l ks gr az; omega) m).mono ?_
  rintro e w4 ⟨rfl, hb4⟩
  have C4 := hide (C3.out.trans (Ch.of_below (Q := fun _ => False) hb4) (fun _ _ h => h))
  have D4 := hide (D3.out.trans (Ch.of_below (Q := fun _ => False) hb4) (fun _ _ h => h))
  clear hb4
  rw [HI.out]
  obtain ⟨y0, y1, y2, y3, y4, y5⟩ := (HA.out.ch D4.out (fun h => h)).mem m HM.out
  rw [HX.out] at y0 y1 y2 y3 y4 y5
  rw [hsd] at y2
  have HSD := hide hsd
  clear hsd
  go_wp2_with fail
  obtain ⟨w5, hw5⟩ : ∃ z, w4.alloc (.cells #[.int .u32 x.h.1, .int .u32 x.h.2, .bool false, .int .i64 x.v.n, .int .u32 x.v.s, .int .u32 x.v.g] 54) = z := ⟨_, rfl⟩
  rw [hw5]
  have hn5 : w5.heap[w4.heap.size]? = some (.cells #[.int .u32 x.h.1, .int .u32 x.h.2, .bool false, .int .i64 x.v.n, .int .u32 x.v.s, .int .u32 x.v.g] 54 (0, 0)) := by rw [← hw5]; exact heap_new _ _
  have C45 : Ch (fun _ => False) w4 w5 := by rw [← hw5]; exact Ch.alloc _ _
  have C5 := hide (C4.out.trans C45 (fun _ _ h => h))
  have D5 := hide (D4.out.trans C45 (fun _ _ h => h))
  have S4 := hide D4.out.size
  clear hw5 C45 y0 y1 y2 y3 y4 y5
  have N5 := hide hn5
  clear hn5
  refine wp_reg (fun y => G y ∨ y = w1.heap.size) (R := fun V => Ch (fun _ => False) w5 V) (by kernel_rfl) (Ch.drew _) (fun V cV zk => ?_)
  have CV := hide (D5.out.trans cV (fun _ _ h => h))
  have CW := hide (C5.out.trans cV (fun _ _ h => h))
  have NV := hide (cV.box N5.out (fun h => h))
  clear cV
  have HV := hide (H0.out.quiet CW.out)
  have hz := HZ.out
  have s4 := S4.out
  have NG := hide (show ∀ y, w.heap.size ≤ y → y ≠ w1.heap.size → ¬ (G y ∨ y = w1.heap.size) from fun y hy hne e => e.elim (fun e => by have := (H0.out.foot e).2; omega) hne)
  have NS := hide (show ¬ (G s ∨ s = w1.heap.size) from fun e => e.elim (H.out.nbox HS.out (by decide) (by decide) (by decide) (by decide) (by decide) (by decide)) (fun e => by have h1 := HS.out; unfold SelAt at h1; rw [e, HN2.out] at h1; injection h1 with h1; injection h1 with _ h2 _; exact absurd h2 (by decide)))
  clear hz s4
  have HXX := hide (fun wq (kq : Ch (fun y => G y ∨ y = w1.heap.size) V wq) => show (wq.cell? ⟨s, 0, none⟩ = some (.pointer (some ⟨c, 0, none⟩)) ∧ wq.cell? ⟨s, 1, none⟩ = some (.pointer (some ⟨bp, 0, none⟩))) ∧ (wq.cell? ⟨w.heap.size, 0, none⟩ = some (.int .u32 gr.1) ∧ wq.cell? ⟨w.heap.size, 1, none⟩ = some (.int .u32 gr.2)) ∧ wq.cell? ⟨w4.heap.size, 0, none⟩ = some (.int .u32 x.h.1) ∧ wq.cell? ⟨w4.heap.size, 1, none⟩ = some (.int .u32 x.h.2) ∧ wq.cell? ⟨w4.heap.size, 3, none⟩ = some (.int .i64 x.v.n) ∧ wq.cell? ⟨w4.heap.size, 4, none⟩ = some (.int .u32 x.v.s) ∧ wq.cell? ⟨w4.heap.size, 5, none⟩ = some (.int .u32 x.v.g) from by
    have hz := HZ.out
    have s4 := S4.out
    have e0 := Lib.cell_of_heap (kq.box (CV.out.box HS.out (fun h => h)) NS.out)
    have e1 := Lib.cell_of_heap (kq.box (CV.out.box HN1.out (fun h => h)) (NG.out _ (Nat.le_refl _) (by omega)))
    have e2 := Lib.cell_of_heap (kq.box NV.out (NG.out _ (by omega) (by omega)))
    exact ⟨⟨by simp [e0], by simp [e0]⟩, ⟨by simp [e1], by simp [e1]⟩, by simp [e2], by simp [e2], by simp [e2], by simp [e2], by simp [e2]⟩)
  apply tk 0 ktb0 rfl (by kernel_rfl) (fun _ _ _ h => h) zk
  · intro wq zq
    go_simp
    try rfl
  go_frame
  apply tk 1 ktb1 rfl (by kernel_rfl) (fun _ _ _ h => h) zk
  · intro wq zq
    go_simp
    try rfl
  go_frame
  apply tk 2 ktb2 rfl (by kernel_rfl) (fun _ _ _ h => h) zk
  · intro wq zq
    go_simp
    try rfl
  go_frame
  apply tk 3 ktb3 rfl (by kernel_rfl) (fun _ _ _ h => h) zk
  · intro wq zq
    obtain ⟨⟨s0, s1⟩, ⟨s2, s3⟩, s4, s5, s6, s7, s8⟩ := HXX.out _ zq
    go_simp
    try rfl
  go_frame
  apply tk 4 ktb4 rfl (by kernel_rfl) (fun _ _ _ h => h) zk
  · intro wq zq
    obtain ⟨⟨s0, s1⟩, ⟨s2, s3⟩, s4, s5, s6, s7, s8⟩ := HXX.out _ zq
    go_simp
    try rfl
  go_frame
  apply tk 5 ktb5 rfl (by kernel_rfl) (fun _ _ _ h => h) zk
  · intro wq zq
    go_simp
    try rfl
  go_frame
  apply tk 6 ktb6 rfl (by kernel_rfl) (fun _ _ _ h => h) zk
  · intro wq zq
    obtain ⟨⟨s0, s1⟩, ⟨s2, s3⟩, s4, s5, s6, s7, s8⟩ := HXX.out _ zq
    go_simp
    try rfl
  go_frame
  refine Go.Proofs.Ytbblmbbpicinlab.rd 7 ktb7 rfl (by kernel_rfl) fun K hK => ?_
  go_simp
  refine (sw_recv HV.out hl wo HK.out HNG.out.2.2 HNG.out.1 HNG.out.2.1 UX.out.h1 UX.out.h2 g1 g2).mono ?_
  rintro e w6 ⟨sv, rfl, ha6⟩
  have A6 := hide ha6
  have Z6 := hide (zk.trans ha6.ch (fun _ _ h => .inl h))
  clear ha6
  obtain ⟨dd, hdd⟩ : ∃ d, (rcvK l k gr).1 = d := ⟨_, rfl⟩
  have HDD := hide hdd
  rw [hdd]
  clear hdd
  go_wp2_with fail
  refine hK.out _ _ ?_ (fun zk => ?_)
  · exact Z6.out
  clear hK K
  try go_frame
  apply tk 8 ktb8 rfl (by kernel_rfl) (fun _ _ _ h => h) zk
  · intro wq zq
    go_simp
    try rfl
  go_frame
  apply tk 9 ktb9 rfl (by kernel_rfl) (fun _ _ _ h => h) zk
  · intro wq zq
    go_simp
    try rfl
  go_frame
  have hz := HZ.out
  have n3 := A6.out.ch.box (CV.out.box HN2.out (fun h => h)) (fun e => by have := (H0.out.foot e).2; omega)
  have d0 : w6.cell? ⟨w1.heap.size, 0, none⟩ = some (.int .i64 0) := by simp [Lib.cell_of_heap n3]
  have d1 : w6.cell? ⟨w1.heap.size, 1, none⟩ = some (.int .i64 0) := by simp [Lib.cell_of_heap n3]
  have d2 : w6.cell? ⟨w1.heap.size, 2, none⟩ = some (.int .u32 0) := by simp [Lib.cell_of_heap n3]
  have d3 : w6.cell? ⟨w1.heap.size, 3, none⟩ = some (.int .u32 0) := by simp [Lib.cell_of_heap n3]
  have d4 : w6.cell? ⟨w1.heap.size, 4, none⟩ = some (.bool false) := by simp [Lib.cell_of_heap n3]
  have d5 : w6.cell? ⟨w1.heap.size, 5, none⟩ = some (.slice none 0 0) := by simp [Lib.cell_of_heap n3]
  have df : ∀ o, w6.frozen? ⟨w1.heap.size, o, none⟩ = false := fun o => by simp [World.frozen?, n3]
  have HSE := hide (did_set n3 (.int .i64 dd.f) (.int .i64 dd.v.n) (.int .u32 dd.v.s) (.int .u32 dd.v.g) (.bool dd.ok) sv)
  clear n3 hz
  obtain ⟨sva, svc, rfl, -⟩ := A6.out.row.form
  refine Go.Proofs.Ytbblmbbpicinlab.rd 10 ktb10 rfl (by kernel_rfl) fun K hK => ?_
  go_simp
  refine hK.out _ _ ?_ (fun zk => ?_)
  · exact zk.trans HSE.out.2 (fun y hy e => .inr e)
  clear hK K
  try go_frame
  apply tk 11 ktb11 rfl (by kernel_rfl) (fun _ _ _ h => h) zk
  · intro wq zq
    go_simp
    try rfl
  go_frame
  refine wpAnyH_done (by kernel_rfl) ?_ _
  go_wp2
  have hz := HZ.out
  have hv := CV.out.size
  have A9 := hide (A6.out.up H0.out CW.out (by omega) (by omega) HSE.out.2)
  refine bodyPost_ret (v := .tuple #[ddV dd _, .int .i64 0]) (res_Take _ w1.heap.size _ dd.f dd.v.n dd.v.s dd.v.g dd.ok _ 0 rfl rfl HSE.out.1) rfl ?_
  have hdd := HDD.out
  clear HXX HV CV A6 HSE HDD
  subst hdd
  exact ⟨_, rfl, A9.out⟩

end

end Go.Proofs.Ytbblmbbpicinlab

namespace Go.Proofs.Ytbblmbbpicinlab
open Go.RowKit

abbrev kwt0 : Oper := { dst := some 6, op := Op.fieldAddr 54 (Operand.tmp 1) 0, type := 0, pos := "sel.go:110", after := #[], guard := none }
abbrev kwt1 : Oper := { dst := some 7, op := Op.load 24 (Operand.tmp 6), type := 24, pos := "sel.go:110", after := #[{ on := 0, ground := Ground.data }], guard := none }
abbrev kwt2 : Oper := { dst := some 8, op := Op.build 76 #[(0, Operand.tmp 7), (1, Operand.const (Value.int IntKind.i64 1))], type := 76, pos := "sel.go:110", after := #[{ on := 1, ground := Ground.data }], guard := none }
abbrev kwt3 : Oper := { dst := some 9, op := Op.fieldAddr 54 (Operand.tmp 1) 2, type := 0, pos := "sel.go:110", after := #[{ on := 5, ground := Ground.gcOnly Departure.lateStores }], guard := none }
abbrev kwt4 : Oper := { dst := some 10, op := Op.load 41 (Operand.tmp 9), type := 41, pos := "sel.go:110", after := #[{ on := 3, ground := Ground.data }, { on := 5, ground := Ground.gcOnly Departure.lateStores }], guard := none }
abbrev kwt5 : Oper := { dst := none, op := Op.store 76 (Operand.tmp 2) (Operand.tmp 8), type := 0, pos := "sel.go:110", after := #[{ on := 2, ground := Ground.data }, { on := 0, ground := Ground.phase }, { on := 1, ground := Ground.phase }, { on := 2, ground := Ground.phase }, { on := 3, ground := Ground.textOnly Departure.lateStores }, { on := 4, ground := Ground.textOnly Departure.lateStores }], guard := none }
abbrev kwt6 : Oper := { dst := none, op := Op.store 41 (Operand.tmp 3) (Operand.tmp 10), type := 0, pos := "sel.go:110", after := #[{ on := 4, ground := Ground.data }, { on := 5, ground := Ground.chain }, { on := 0, ground := Ground.phase }, { on := 1, ground := Ground.phase }, { on := 2, ground := Ground.phase }, { on := 3, ground := Ground.phase }, { on := 4, ground := Ground.phase }, { on := 5, ground := Ground.phase }], guard := none }
abbrev kpk0 : Oper := { dst := some 38, op := Op.move (Operand.tmp 0), type := 33, pos := "sel.go:64", after := #[], guard := none }
abbrev kpk1 : Oper := { dst := some 39, op := Op.nilCheck (Operand.tmp 38), type := 0, pos := "sel.go:64", after := #[{ on := 0, ground := Ground.data }], guard := none }
abbrev kpk2 : Oper := { dst := some 40, op := Op.fieldAddr 70 (Operand.tmp 39) 1, type := 0, pos := "sel.go:64", after := #[{ on := 1, ground := Ground.data }], guard := none }
abbrev kpk3 : Oper := { dst := some 41, op := Op.load 27 (Operand.tmp 40), type := 27, pos := "sel.go:64", after := #[{ on := 2, ground := Ground.data }], guard := none }
abbrev kpk4 : Oper := { dst := some 42, op := Op.load 76 (Operand.tmp 11), type := 76, pos := "sel.go:64", after := #[], guard := none }
abbrev kpk5 : Oper := { dst := some 43, op := Op.load 24 (Operand.tmp 4), type := 24, pos := "sel.go:64", after := #[], guard := none }
abbrev kpk6 : Oper := { dst := some 44, op := Op.move (Operand.tmp 9), type := 3, pos := "sel.go:64", after := #[], guard := none }
abbrev kpk7 : Oper := { dst := some 45, op := Op.load 41 (Operand.tmp 12), type := 41, pos := "sel.go:64", after := #[], guard := none }
abbrev kpk8 : Oper := { dst := some 46, op := Op.call { callee := Callee.value (Operand.func 21), args := #[Operand.tmp 41, Operand.tmp 42, Operand.tmp 43, Operand.tmp 44, Operand.tmp 45], argTypes := #[27, 76, 24, 3, 41] }, type := 79, pos := "sel.go:64", after := #[{ on := 3, ground := Ground.data }, { on := 4, ground := Ground.data }, { on := 5, ground := Ground.data }, { on := 6, ground := Ground.data }, { on := 7, ground := Ground.data }], guard := none }

theorem res_waits (tm : Array Value) (A C : Nat) (Z : World) (s g d n a b : Int) (h2 : tm[2]?.getD undef = .pointer (some ⟨A, 0, none⟩)) (h3 : tm[3]?.getD undef = .pointer (some ⟨C, 0, none⟩)) (hb : Z.heap[A]? = some (.cells #[.int .u32 s, .int .u32 g, .int .i64 d] 76 (0, 0))) (hc : Z.heap[C]? = some (.cells #[.int .i64 n, .int .u32 a, .int .u32 b] 41 (0, 0))) :
    (results Try.f20 tm).run Try.prog Z = .ok (.tuple #[rvW s g d, .agg #[.int .i64 n, .int .u32 a, .int .u32 b]]) Z := by
  have e := Lib.cell_of_heap hb
  have e2 := Lib.cell_of_heap hc
  simp [results, Try.f20, h2, h3, go_sem, e, e2]
theorem set3 {w : World} {A : Nat} {T : TypeId} {a0 a1 a2 : Value} (hn : w.heap[A]? = some (.cells #[a0, a1, a2] T (0, 0))) (v0 v1 v2 : Value) : (((w.setCell ⟨A, 0, none⟩ v0).setCell ⟨A, 1, none⟩ v1).setCell ⟨A, 2, none⟩ v2).heap[A]? = some (.cells #[v0, v1, v2] T (0, 0)) ∧ Ch (fun y => y = A) w (((w.setCell ⟨A, 0, none⟩ v0).setCell ⟨A, 1, none⟩ v1).setCell ⟨A, 2, none⟩ v2) :=
  ⟨set_all [v0, v1, v2] [] [a0, a1, a2] w rfl hn, wrsA w A [v0, v1, v2]⟩

set_option maxRecDepth 100000 in
set_option maxHeartbeats 8000000 in
theorem waits_is (w : World) (x : Am) : Calls Try.prog 20 #[amV x] w fun e w' => e = .returned (.tuple #[rvW x.h.1 x.h.2 (wtD x), vaV (wtV x)]) ∧ Below w.heap.size w w' := by
  obtain ⟨h, sd, v⟩ := x
  obtain ⟨w1, hw1⟩ : ∃ z, w.alloc (.cells #[.int .u32 h.1, .int .u32 h.2, .bool sd, .int .i64 v.n, .int .u32 v.s, .int .u32 v.g] 54) = z := ⟨_, rfl⟩
  obtain ⟨w2, hw2⟩ : ∃ z, w1.alloc (.cells #[.int .u32 0, .int .u32 0, .int .i64 0] 76) = z := ⟨_, rfl⟩
  obtain ⟨w3, hw3⟩ : ∃ z, w2.alloc (.cells #[.int .i64 0, .int .u32 0, .int .u32 0] 41) = z := ⟨_, rfl⟩
  have C1 : Ch (fun _ => False) w w1 := by rw [← hw1]; exact Ch.alloc _ _
  have C2 : Ch (fun _ => False) w1 w2 := by rw [← hw2]; exact Ch.alloc _ _
  have C3 : Ch (fun _ => False) w2 w3 := by rw [← hw3]; exact Ch.alloc _ _
  have z1 : w1.heap.size = w.heap.size + 1 := by rw [← hw1, World.size_alloc]
  have z2 : w2.heap.size = w1.heap.size + 1 := by rw [← hw2, World.size_alloc]
  have z3 : w3.heap.size = w2.heap.size + 1 := by rw [← hw3, World.size_alloc]
  have n1 : w3.heap[w.heap.size]? = some (.cells #[.int .u32 h.1, .int .u32 h.2, .bool sd, .int .i64 v.n, .int .u32 v.s, .int .u32 v.g] 54 (0, 0)) := C3.box (C2.box (by rw [← hw1]; exact heap_new _ _) (fun h => h)) (fun h => h)
  have n2 : w3.heap[w1.heap.size]? = some (.cells #[.int .u32 0, .int .u32 0, .int .i64 0] 76 (0, 0)) := C3.box (by rw [← hw2]; exact heap_new _ _) (fun h => h)
  have n3 : w3.heap[w2.heap.size]? = some (.cells #[.int .i64 0, .int .u32 0, .int .u32 0] 41 (0, 0)) := by rw [← hw3]; exact heap_new _ _
  have HZ := hide (And.intro z1 (And.intro z2 z3))
  have HC := hide ((C1.trans C2 (fun _ _ h => h)).trans C3 (fun _ _ h => h))
  have HN := hide (And.intro n1 (And.intro n2 n3))
  have k2 : w3.cell? ⟨w.heap.size, 2, none⟩ = some (.bool sd) := by simp [Lib.cell_of_heap n1]
  clear C1 C2 C3 z1 z2 z3 n1 n2 n3
  cases sd
  · have k0 : w3.cell? ⟨w.heap.size, 0, none⟩ = some (.int .u32 h.1) := by simp [Lib.cell_of_heap HN.out.1]
    have k1 : w3.cell? ⟨w.heap.size, 1, none⟩ = some (.int .u32 h.2) := by simp [Lib.cell_of_heap HN.out.1]
    have r0 : ∀ j, w3.frozen? ⟨w1.heap.size, j, none⟩ = false := fun o => by simp [World.frozen?, HN.out.2.1]
    have r1 : w3.cell? ⟨w1.heap.size, 0, none⟩ = some (.int .u32 0) := by simp [Lib.cell_of_heap HN.out.2.1]
    have r2 : w3.cell? ⟨w1.heap.size, 1, none⟩ = some (.int .u32 0) := by simp [Lib.cell_of_heap HN.out.2.1]
    have r3 : w3.cell? ⟨w1.heap.size, 2, none⟩ = some (.int .i64 0) := by simp [Lib.cell_of_heap HN.out.2.1]
    have HR := hide (set3 HN.out.2.1 (.int .u32 h.1) (.int .u32 h.2) (.int .i64 2))
    have hz := HZ.out
    have hq := HR.out.2.box HN.out.2.2 (fun e => by omega)
    have HQ := hide (set3 hq (.int .i64 0) (.int .u32 0) (.int .u32 0))
    have q1 : (((w3.setCell ⟨w1.heap.size, 0, none⟩ (.int .u32 h.1)).setCell ⟨w1.heap.size, 1, none⟩ (.int .u32 h.2)).setCell ⟨w1.heap.size, 2, none⟩ (.int .i64 2)).cell? ⟨w2.heap.size, 0, none⟩ = some (.int .i64 0) := by simp only [Lib.cell_of_heap hq]; rfl
    have q2 : (((w3.setCell ⟨w1.heap.size, 0, none⟩ (.int .u32 h.1)).setCell ⟨w1.heap.size, 1, none⟩ (.int .u32 h.2)).setCell ⟨w1.heap.size, 2, none⟩ (.int .i64 2)).cell? ⟨w2.heap.size, 1, none⟩ = some (.int .u32 0) := by simp only [Lib.cell_of_heap hq]; rfl
    have q3 : (((w3.setCell ⟨w1.heap.size, 0, none⟩ (.int .u32 h.1)).setCell ⟨w1.heap.size, 1, none⟩ (.int .u32 h.2)).setCell ⟨w1.heap.size, 2, none⟩ (.int .i64 2)).cell? ⟨w2.heap.size, 2, none⟩ = some (.int .u32 0) := by simp only [Lib.cell_of_heap hq]; rfl
    have q0 : ∀ j, (((w3.setCell ⟨w1.heap.size, 0, none⟩ (.int .u32 h.1)).setCell ⟨w1.heap.size, 1, none⟩ (.int .u32 h.2)).setCell ⟨w1.heap.size, 2, none⟩ (.int .i64 2)).frozen? ⟨w2.heap.size, j, none⟩ = false := frz hq
    clear hq hz
    go_enter Try.func20, Try.ntmps20
    go_wp2_with fail
    have hz := HZ.out
    refine bodyPost_ret (v := .tuple #[rvW h.1 h.2 2, vaV zVa]) (res_waits _ w1.heap.size w2.heap.size _ h.1 h.2 2 0 0 0 rfl rfl (HQ.out.2.box HR.out.1 (fun e => by omega)) HQ.out.1) rfl ⟨rfl, ?_⟩
    exact ((HC.out.trans HR.out.2 (fun y hy e => (show y ≠ w1.heap.size by omega) e)).trans HQ.out.2 (fun y hy e => (show y ≠ w2.heap.size by omega) e)).below (Nat.le_refl _) (fun _ _ h => h)
  · go_enter Try.func20, Try.ntmps20
    go_wp2_with fail
    clear hw1 hw2 hw3 k2
    refine wp_reg (fun y => y = w1.heap.size ∨ y = w2.heap.size) (R := fun V => Ch (fun _ => False) w3 V) (by kernel_rfl) (Ch.drew _) (fun V cV zk => ?_)
    have CV := hide cV
    clear cV
    have HXX := hide (fun wq (kq : Ch (fun y => y = w1.heap.size ∨ y = w2.heap.size) V wq) => show wq.cell? ⟨w.heap.size, 0, none⟩ = some (.int .u32 h.1) ∧ wq.cell? ⟨w.heap.size, 1, none⟩ = some (.int .u32 h.2) ∧ wq.cell? ⟨w.heap.size, 3, none⟩ = some (.int .i64 v.n) ∧ wq.cell? ⟨w.heap.size, 4, none⟩ = some (.int .u32 v.s) ∧ wq.cell? ⟨w.heap.size, 5, none⟩ = some (.int .u32 v.g) from by
      have hz := HZ.out
      have e1 := Lib.cell_of_heap (kq.box (CV.out.box HN.out.1 (fun h => h)) (fun e => by rcases e with e | e <;> omega))
      exact ⟨by simp [e1], by simp [e1], by simp [e1], by simp [e1], by simp [e1]⟩)
    apply tk 0 kwt0 rfl (by kernel_rfl) (fun _ _ _ h => h) zk
    · intro wq zq
      go_simp
      try rfl
    go_frame
    apply tk 1 kwt1 rfl (by kernel_rfl) (fun _ _ _ h => h) zk
    · intro wq zq
      obtain ⟨s0, s1, s2, s3, s4⟩ := HXX.out _ zq
      go_simp
      try rfl
    go_frame
    apply tk 2 kwt2 rfl (by kernel_rfl) (fun _ _ _ h => h) zk
    · intro wq zq
      go_simp
      try rfl
    go_frame
    apply tk 3 kwt3 rfl (by kernel_rfl) (fun _ _ _ h => h) zk
    · intro wq zq
      go_simp
      try rfl
    go_frame
    apply tk 4 kwt4 rfl (by kernel_rfl) (fun _ _ _ h => h) zk
    · intro wq zq
      obtain ⟨s0, s1, s2, s3, s4⟩ := HXX.out _ zq
      go_simp
      try rfl
    go_frame
    have hz := HZ.out
    have m2 := CV.out.box HN.out.2.1 (fun h => h)
    have HR := hide (set3 m2 (.int .u32 h.1) (.int .u32 h.2) (.int .i64 1))
    have m3 := HR.out.2.box (CV.out.box HN.out.2.2 (fun h => h)) (fun e => by omega)
    have HQ := hide (set3 m3 (.int .i64 v.n) (.int .u32 v.s) (.int .u32 v.g))
    have r1 : V.cell? ⟨w1.heap.size, 0, none⟩ = some (.int .u32 0) := by simp [Lib.cell_of_heap m2]
    have r2 : V.cell? ⟨w1.heap.size, 1, none⟩ = some (.int .u32 0) := by simp [Lib.cell_of_heap m2]
    have r3 : V.cell? ⟨w1.heap.size, 2, none⟩ = some (.int .i64 0) := by simp [Lib.cell_of_heap m2]
    have r0 : ∀ j, V.frozen? ⟨w1.heap.size, j, none⟩ = false := fun o => by simp [World.frozen?, m2]
    have M3 := hide m3
    clear m2 m3 hz
    refine Go.Proofs.Ytbblmbbpicinlab.rd 5 kwt5 rfl (by kernel_rfl) fun K hK => ?_
    go_simp
    refine hK.out _ _ ?_ (fun zk => ?_)
    · exact zk.trans HR.out.2 (fun y hy e => .inl e)
    clear hK K
    try go_frame
    clear r0 r1 r2 r3
    obtain ⟨V2, hV2⟩ : ∃ z, ((V.setCell ⟨w1.heap.size, 0, none⟩ (.int .u32 h.1)).setCell ⟨w1.heap.size, 1, none⟩ (.int .u32 h.2)).setCell ⟨w1.heap.size, 2, none⟩ (.int .i64 1) = z := ⟨_, rfl⟩
    have HR0 := HR.out
    have HQ0 := HQ.out
    have M30 := M3.out
    rw [hV2] at zk HR0 HQ0 M30 ⊢
    clear HR HQ M3
    have HR := hide HR0
    have HQ := hide HQ0
    have q1 : V2.cell? ⟨w2.heap.size, 0, none⟩ = some (.int .i64 0) := by simp [Lib.cell_of_heap M30]
    have q2 : V2.cell? ⟨w2.heap.size, 1, none⟩ = some (.int .u32 0) := by simp [Lib.cell_of_heap M30]
    have q3 : V2.cell? ⟨w2.heap.size, 2, none⟩ = some (.int .u32 0) := by simp [Lib.cell_of_heap M30]
    have q0 : ∀ j, V2.frozen? ⟨w2.heap.size, j, none⟩ = false := fun o => by simp [World.frozen?, M30]
    clear HR0 HQ0 M30 hV2
    refine Go.Proofs.Ytbblmbbpicinlab.rd 6 kwt6 rfl (by kernel_rfl) fun K hK => ?_
    go_simp
    refine hK.out _ _ ?_ (fun zk => ?_)
    · exact zk.trans HQ.out.2 (fun y hy e => .inr e)
    clear hK K
    try go_frame
    refine wpAnyH_done (by kernel_rfl) ?_ _
    go_wp2
    have hz := HZ.out
    refine bodyPost_ret (v := .tuple #[rvW h.1 h.2 1, vaV v]) (res_waits _ w1.heap.size w2.heap.size _ h.1 h.2 1 v.n v.s v.g rfl rfl (HQ.out.2.box HR.out.1 (fun e => by omega)) HQ.out.1) rfl ⟨rfl, ?_⟩
    have hv := CV.out.size
    exact ((((HC.out.trans CV.out (fun _ _ h => h)).trans HR.out.2 (fun y hy e => (show y ≠ w1.heap.size by omega) e)).trans HQ.out.2 (fun y hy e => (show y ≠ w2.heap.size by omega) e))).below (Nat.le_refl _) (fun _ _ h => h)

/-- somebody waits for all arms -/
def pkL (g : Hnd) : Nat → List Am → List Wt → List Wt
  | _, [], l => l
  | i, x :: r, l => pkL g (i + 1) r (putW l x.h.1 x.h.2 (wtD x) g.1 g.2 (i : Int) (wtV x).n (wtV x).s (wtV x).g)
theorem pkL_snoc (g : Hnd) (x : Am) : ∀ (i : Nat) (r : List Am) (l : List Wt), pkL g i (r ++ [x]) l = putW (pkL g i r l) x.h.1 x.h.2 (wtD x) g.1 g.2 ((i + r.length : Nat) : Int) (wtV x).n (wtV x).s (wtV x).g
  | _, [], _ => rfl
  | i, b :: r, l => by
    rw [List.cons_append, pkL, pkL, pkL_snoc g x (i + 1) r, List.length_cons, show i + 1 + r.length = i + (r.length + 1) by omega]
theorem pkL_len (g : Hnd) : ∀ (i : Nat) (r : List Am) (l : List Wt), (pkL g i r l).length ≤ l.length + r.length
  | _, [], _ => Nat.le_refl _
  | i, b :: r, l => by
    rw [pkL, List.length_cons]
    refine Nat.le_trans (pkL_len g (i + 1) r _) ?_
    have := putW_len l b.h.1 b.h.2 (wtD b) g.1 g.2 (i : Int) (wtV b).n (wtV b).s (wtV b).g
    omega

theorem wt_ok {x : Am} (h : AmOk x) : I64 (wtD x) ∧ I64 (wtV x).n ∧ UsW (wtV x).s ∧ UsW (wtV x).g := by
  obtain ⟨h0, sd, v⟩ := x
  cases sd
  · exact ⟨show I64 2 by constructor <;> decide, show I64 zVa.n by constructor <;> decide, show UsW zVa.s by constructor <;> decide, show UsW zVa.g by constructor <;> decide⟩
  · exact ⟨show I64 1 by constructor <;> decide, h.v0, h.v1, h.v2⟩

section
variable {w : World} {B c bp s g cap : Nat} {l : List Wt} {ks : List Kn} {G : Nat → Prop} {az : List Am} {a : Option Addr}

set_option maxRecDepth 100000 in
set_option maxHeartbeats 16000000 in
theorem park_err (h : SW w B c bp l ks G) (hl : l.length ≤ 99000) (hs : SelAt w s c bp) (hA : ArmsIn w a g az) (hu : ∀ x ∈ az, AmOk x) (hb0 : az.length ≤ 1000000) {gr : Hnd} (g1 : UsW gr.1) (g2 : UsW gr.2) {q : Int} (he : (akA l ks gr az).2 = q) (hq : q ≠ 0) :
    Calls Try.prog 11 #[.pointer (some ⟨s, 0, none⟩), hkV gr, .slice a az.length cap] w fun e w' => e = .returned (.int .i64 q) ∧ Below w.heap.size w w' := by
  obtain ⟨w1, hw1⟩ : ∃ w1, w.alloc (.cells #[.int .u32 gr.1, .int .u32 gr.2] 24) = w1 := ⟨_, rfl⟩
  have hz1 : w1.heap.size = w.heap.size + 1 := by rw [← hw1, World.size_alloc]
  have HZ := hide hz1
  have C1 : Ch (fun _ => False) w w1 := by rw [← hw1]; exact Ch.alloc _ _
  have C2 := hide C1
  have hn1 : w1.heap[w.heap.size]? = some (.cells #[.int .u32 gr.1, .int .u32 gr.2] 24 (0, 0)) := by rw [← hw1]; exact heap_new _ _
  have HN1 := hide hn1
  have H0 := hide h
  have H := hide (h.quiet C1)
  have HS := hide (show SelAt w1 s c bp from C1.box hs (fun h => h))
  have HA := hide (hA.ch C1 (fun h => h))
  have HU := hide hu
  have k0 : w1.cell? ⟨w.heap.size, 0, none⟩ = some (.int .u32 gr.1) := by simp [Lib.cell_of_heap hn1]
  have k1 : w1.cell? ⟨w.heap.size, 1, none⟩ = some (.int .u32 gr.2) := by simp [Lib.cell_of_heap hn1]
  clear h hs hA hu hn1 C1 hz1
  go_enter Try.func11, Try.ntmps11
  go_wp2_with fail
  clear hw1
  refine (asked_is (cap := cap) H.out (by omega) HS.out HA.out HU.out hb0 g1 g2).mono ?_
  rintro e w3 ⟨v3, rfl, hr3, hb3⟩
  have D3 := hide (Ch.of_below (Q := fun _ => False) hb3)
  have C3 := hide (C2.out.trans D3.out (fun _ _ h => h))
  clear hb3 k0 k1
  rw [he]
  have hq2 : (q == 0) = false := by simpa using hq
  clear he hq hr3
  go_wp2_with fail
  go_ret
  exact ⟨rfl, C3.out.below (Nat.le_refl _) (fun _ _ h => h)⟩

set_option maxRecDepth 100000 in
set_option maxHeartbeats 16000000 in
theorem park_ready (h : SW w B c bp l ks G) (hl : l.length ≤ 99000) (hs : SelAt w s c bp) (hA : ArmsIn w a g az) (hu : ∀ x ∈ az, AmOk x) (hb0 : az.length ≤ 1000000) {gr : Hnd} (g1 : UsW gr.1) (g2 : UsW gr.2) (he : (akA l ks gr az).2 = 0) (hr : (akA l ks gr az).1 ≠ []) :
    Calls Try.prog 11 #[.pointer (some ⟨s, 0, none⟩), hkV gr, .slice a az.length cap] w fun e w' => e = .returned (.int .i64 153) ∧ Below w.heap.size w w' := by
  obtain ⟨w1, hw1⟩ : ∃ w1, w.alloc (.cells #[.int .u32 gr.1, .int .u32 gr.2] 24) = w1 := ⟨_, rfl⟩
  have hz1 : w1.heap.size = w.heap.size + 1 := by rw [← hw1, World.size_alloc]
  have HZ := hide hz1
  have C1 : Ch (fun _ => False) w w1 := by rw [← hw1]; exact Ch.alloc _ _
  have C2 := hide C1
  have hn1 : w1.heap[w.heap.size]? = some (.cells #[.int .u32 gr.1, .int .u32 gr.2] 24 (0, 0)) := by rw [← hw1]; exact heap_new _ _
  have HN1 := hide hn1
  have H0 := hide h
  have H := hide (h.quiet C1)
  have HS := hide (show SelAt w1 s c bp from C1.box hs (fun h => h))
  have HA := hide (hA.ch C1 (fun h => h))
  have HU := hide hu
  have k0 : w1.cell? ⟨w.heap.size, 0, none⟩ = some (.int .u32 gr.1) := by simp [Lib.cell_of_heap hn1]
  have k1 : w1.cell? ⟨w.heap.size, 1, none⟩ = some (.int .u32 gr.2) := by simp [Lib.cell_of_heap hn1]
  clear h hs hA hu hn1 C1 hz1
  go_enter Try.func11, Try.ntmps11
  go_wp2_with fail
  clear hw1
  refine (asked_is (cap := cap) H.out (by omega) HS.out HA.out HU.out hb0 g1 g2).mono ?_
  rintro e w3 ⟨v3, rfl, hr3, hb3⟩
  have D3 := hide (Ch.of_below (Q := fun _ => False) hb3)
  have C3 := hide (C2.out.trans D3.out (fun _ _ h => h))
  clear hb3 k0 k1
  obtain ⟨a3, c3, rfl, -, -⟩ := hr3.form
  rw [he]
  have hp : ((akA l ks gr az).1.length : Int) > 0 := by have := List.length_pos_iff.2 hr; omega
  clear he hr hr3
  go_wp2_with fail
  go_ret
  exact ⟨rfl, C3.out.below (Nat.le_refl _) (fun _ _ h => h)⟩

set_option maxRecDepth 100000 in
set_option maxHeartbeats 16000000 in
theorem park_go (h : SW w B c bp l ks G) (hl : l.length ≤ 99000) (hs : SelAt w s c bp) (hA : ArmsIn w a g az) (hu : ∀ x ∈ az, AmOk x) (hb0 : az.length ≤ 1000000) {gr : Hnd} (g1 : UsW gr.1) (g2 : UsW gr.2) (hg : 0 < az.length → ¬ G g) (he : (akA l ks gr az).2 = 0) (hr : (akA l ks gr az).1 = []) :
    Calls Try.prog 11 #[.pointer (some ⟨s, 0, none⟩), hkV gr, .slice a az.length cap] w fun e w' => e = .returned (.int .i64 0) ∧ ∃ G', SW w' B c bp (pkL gr 0 az l) ks G' ∧ (∀ y, G' y → G y ∨ w.heap.size ≤ y) ∧ Ch G w w' := by
  obtain ⟨w1, hw1⟩ : ∃ w1, w.alloc (.cells #[.int .u32 gr.1, .int .u32 gr.2] 24) = w1 := ⟨_, rfl⟩
  have hz1 : w1.heap.size = w.heap.size + 1 := by rw [← hw1, World.size_alloc]
  have HZ := hide hz1
  have C1 : Ch (fun _ => False) w w1 := by rw [← hw1]; exact Ch.alloc _ _
  have C2 := hide C1
  have hn1 : w1.heap[w.heap.size]? = some (.cells #[.int .u32 gr.1, .int .u32 gr.2] 24 (0, 0)) := by rw [← hw1]; exact heap_new _ _
  have HN1 := hide hn1
  have H0 := hide h
  have H := hide (h.quiet C1)
  have HS := hide (show SelAt w1 s c bp from C1.box hs (fun h => h))
  have HA := hide (hA.ch C1 (fun h => h))
  have HU := hide hu
  have k0 : w1.cell? ⟨w.heap.size, 0, none⟩ = some (.int .u32 gr.1) := by simp [Lib.cell_of_heap hn1]
  have k1 : w1.cell? ⟨w.heap.size, 1, none⟩ = some (.int .u32 gr.2) := by simp [Lib.cell_of_heap hn1]
  clear h hs hA hu hn1 C1 hz1
  go_enter Try.func11, Try.ntmps11
  go_wp2_with fail
  clear hw1
  refine (asked_is (cap := cap) H.out (by omega) HS.out HA.out HU.out hb0 g1 g2).mono ?_
  rintro e w3 ⟨v3, rfl, hr3, hb3⟩
  have D3 := hide (Ch.of_below (Q := fun _ => False) hb3)
  have C3 := hide (C2.out.trans D3.out (fun _ _ h => h))
  clear hb3 k0 k1
  obtain ⟨-, -, haz, -, -⟩ := akA_ok he
  rw [hr] at hr3
  obtain ⟨a3, c3, rfl, -, -⟩ := hr3.form
  rw [he, List.length_nil]
  have NGA := hide hg
  have HAZ := hide haz
  have H3 := hide (H.out.quiet D3.out)
  have HA3 := hide (HA.out.ch D3.out (fun h => h))
  have HS3 := hide (show SelAt w3 s c bp from D3.out.box HS.out (fun h => h))
  have HN3 := hide (D3.out.box HN1.out (fun h => h))
  have NS := hide (show ¬ G s from H.out.nbox HS.out (by decide) (by decide) (by decide) (by decide) (by decide) (by decide))
  have NH := hide (show ¬ G w.heap.size from fun e => by have := (H0.out.foot e).2; omega)
  clear he hr hr3 haz hg
  go_wp2_with fail
  go_loopw [28] (fun i wr => ∃ k : Nat, k ≤ az.length ∧ i = .int .i64 (k : Int) ∧ Hid (∃ G', SW wr B c bp (pkL gr 0 (az.take k) l) ks G' ∧ (∀ y, G' y → G y ∨ w3.heap.size ≤ y) ∧ Ch G w3 wr)) (fun i _ => az.length - (intOf i).toNat)
  case atStart => exact ⟨0, Nat.zero_le _, rfl, hide ⟨G, H3.out, fun _ h => .inl h, Ch.refl _ _⟩⟩
  case round =>
    obtain ⟨k, hk, rfl, HI⟩ := hrel
    obtain ⟨W0, rfl⟩ : ∃ x, x = wr := ⟨_, rfl⟩
    obtain ⟨G1, hs1, hd1, hc1⟩ := HI.out
    have S1 := hide hs1
    have D1 := hide hd1
    have E1 := hide hc1
    clear HI hs1 hd1 hc1
    by_cases hlt : k < az.length
    · have ha := HA3.out.addr (by omega)
      subst ha
      have gl := HA3.out.mem.lt (by omega)
      obtain ⟨x, hx⟩ : ∃ x, az[k] = x := ⟨_, rfl⟩
      obtain ⟨y0, y1, y2, y3, y4, y5⟩ := (HA3.out.mem.ch E1.out (NGA.out (by omega))) k hlt
      rw [hx] at y0 y1 y2 y3 y4 y5
      have HLT := hide hlt
      have HX := hide (show az[k]'(HLT.out) = x from hx)
      have UX := hide (HU.out x (by rw [← hx]; exact List.getElem_mem hlt))
      have i1 : (k : Int) < (az.length : Int) := by omega
      have i0 : (k : Int) ≤ 50 := by have := HAZ.out; omega
      clear hx gl hk hlt
      go_wp2_with fail
      obtain ⟨W1, hW1⟩ : ∃ z, W0.alloc (.cells #[.int .u32 x.h.1, .int .u32 x.h.2, .bool x.sd, .int .i64 x.v.n, .int .u32 x.v.s, .int .u32 x.v.g] 54) = z := ⟨_, rfl⟩
      rw [hW1]
      have c01 : Ch (fun _ => False) W0 W1 := by rw [← hW1]; exact Ch.alloc _ _
      have C01 := hide c01
      clear hW1 y0 y1 y2 y3 y4 y5 c01
      refine (waits_is W1 x).mono ?_
      rintro e W2 ⟨rfl, hb2⟩
      have C02 := hide (C01.out.trans (Ch.of_below (Q := fun _ => False) hb2) (fun _ _ h => h))
      clear hb2
      go_wp2_with fail
      obtain ⟨W3, hW3⟩ : ∃ z, W2.alloc (.cells #[.int .u32 x.h.1, .int .u32 x.h.2, .int .i64 (wtD x)] 76) = z := ⟨_, rfl⟩
      obtain ⟨W4, hW4⟩ : ∃ z, W3.alloc (.cells #[.int .i64 (wtV x).n, .int .u32 (wtV x).s, .int .u32 (wtV x).g] 41) = z := ⟨_, rfl⟩
      try rw [hW3]
      try rw [hW4]
      have c23 : Ch (fun _ => False) W2 W3 := by rw [← hW3]; exact Ch.alloc _ _
      have c34 : Ch (fun _ => False) W3 W4 := by rw [← hW4]; exact Ch.alloc _ _
      have N3 := hide (show W4.heap[W2.heap.size]? = some (.cells #[.int .u32 x.h.1, .int .u32 x.h.2, .int .i64 (wtD x)] 76 (0, 0)) from c34.box (by rw [← hW3]; exact heap_new _ _) (fun h => h))
      have N4 := hide (show W4.heap[W3.heap.size]? = some (.cells #[.int .i64 (wtV x).n, .int .u32 (wtV x).s, .int .u32 (wtV x).g] 41 (0, 0)) by rw [← hW4]; exact heap_new _ _)
      have hz3 : W3.heap.size = W2.heap.size + 1 := by rw [← hW3, World.size_alloc]
      rw [hz3] at N4
      have C04 := hide ((C02.out.trans c23 (fun _ _ h => h)).trans c34 (fun _ _ h => h))
      have S23 := hide (And.intro C02.out.size c23.size)
      clear hW3 hW4 c23 c34
      refine wp_reg G1 (R := fun V => Ch (fun _ => False) W4 V) (by kernel_rfl) (Ch.drew _) (fun V cV zk => ?_)
      have CV := hide (C04.out.trans cV (fun _ _ h => h))
      have NV3 := hide (cV.box N3.out (fun h => h))
      have NV4 := hide (cV.box N4.out (fun h => h))
      clear cV
      have NN := hide (show ∀ y, W0.heap.size ≤ y → ¬ G1 y from fun y hy e => by have := (S1.out.foot e).2; omega)
      have NO := hide (show ∀ y, y < w3.heap.size → ¬ G y → ¬ G1 y from fun y hy hn e => (D1.out y e).elim hn (fun e => by omega))
      have HXX := hide (fun wq (kq : Ch G1 V wq) => show (wq.cell? ⟨s, 0, none⟩ = some (.pointer (some ⟨c, 0, none⟩)) ∧ wq.cell? ⟨s, 1, none⟩ = some (.pointer (some ⟨bp, 0, none⟩))) ∧ (wq.cell? ⟨w.heap.size, 0, none⟩ = some (.int .u32 gr.1) ∧ wq.cell? ⟨w.heap.size, 1, none⟩ = some (.int .u32 gr.2)) ∧ (wq.cell? ⟨W2.heap.size, 0, none⟩ = some (.int .u32 x.h.1) ∧ wq.cell? ⟨W2.heap.size, 1, none⟩ = some (.int .u32 x.h.2) ∧ wq.cell? ⟨W2.heap.size, 2, none⟩ = some (.int .i64 (wtD x))) ∧ wq.cell? ⟨W2.heap.size + 1, 0, none⟩ = some (.int .i64 (wtV x).n) ∧ wq.cell? ⟨W2.heap.size + 1, 1, none⟩ = some (.int .u32 (wtV x).s) ∧ wq.cell? ⟨W2.heap.size + 1, 2, none⟩ = some (.int .u32 (wtV x).g) from by
        have sz := S23.out
        have sl := (Array.getElem?_eq_some_iff.1 HS3.out).1
        have hl2 := (Array.getElem?_eq_some_iff.1 HN3.out).1
        have e0 := Lib.cell_of_heap (kq.box (CV.out.box (E1.out.box HS3.out NS.out) (fun h => h)) (NO.out s sl NS.out))
        have e1 := Lib.cell_of_heap (kq.box (CV.out.box (E1.out.box HN3.out NH.out) (fun h => h)) (NO.out _ hl2 NH.out))
        have e2 := Lib.cell_of_heap (kq.box NV3.out (NN.out _ sz.1))
        have e3 := Lib.cell_of_heap (kq.box NV4.out (NN.out _ (by omega)))
        exact ⟨⟨by simp [e0], by simp [e0]⟩, ⟨by simp [e1], by simp [e1]⟩, ⟨by simp [e2], by simp [e2], by simp [e2]⟩, by simp [e3], by simp [e3], by simp [e3]⟩)
      obtain ⟨F, hp, hFG, hup⟩ := (S1.out.quiet CV.out).book
      have HP := hide hp
      have HFG := hide hFG
      have HUP := hide (fun (w2 : World) (F2 : Nat → Prop) (l2 : List Wt) (a : PTb w2 B F2 bp l2) (b : Ch F V w2) (d : ∀ y, F2 y → F y ∨ V.heap.size ≤ y) => hup a b d)
      clear hp hFG hup
      have HLL := hide (show (pkL gr 0 (az.take k) l).length ≤ 100000 from by have h1 := pkL_len gr 0 (az.take k) l; have h2 := HAZ.out; rw [List.length_take] at h1; omega)
      have HWD := hide (wt_ok UX.out)
      obtain ⟨dx, hdx⟩ : ∃ z, wtD x = z := ⟨_, rfl⟩
      obtain ⟨vx, hvx⟩ : ∃ z, wtV x = z := ⟨_, rfl⟩
      have HDX := hide (And.intro hdx hvx)
      rw [hdx] at HXX HWD NV3 N3
      rw [hvx] at HXX HWD NV4 N4
      try rw [hdx, hvx]
      clear hdx hvx
      apply tk 0 kpk0 rfl (by kernel_rfl) (fun _ _ _ h => h) zk
      · intro wq zq
        go_simp
        try rfl
      go_frame
      apply tk 1 kpk1 rfl (by kernel_rfl) (fun _ _ _ h => h) zk
      · intro wq zq
        go_simp
        try rfl
      go_frame
      apply tk 2 kpk2 rfl (by kernel_rfl) (fun _ _ _ h => h) zk
      · intro wq zq
        go_simp
        try rfl
      go_frame
      apply tk 3 kpk3 rfl (by kernel_rfl) (fun _ _ _ h => h) zk
      · intro wq zq
        obtain ⟨⟨s0, s1⟩, ⟨s2, s3⟩, ⟨s4, s5, s6⟩, s7, s8, s9⟩ := HXX.out _ zq
        go_simp
        try rfl
      go_frame
      apply tk 4 kpk4 rfl (by kernel_rfl) (fun _ _ _ h => h) zk
      · intro wq zq
        obtain ⟨⟨s0, s1⟩, ⟨s2, s3⟩, ⟨s4, s5, s6⟩, s7, s8, s9⟩ := HXX.out _ zq
        go_simp
        try rfl
      go_frame
      apply tk 5 kpk5 rfl (by kernel_rfl) (fun _ _ _ h => h) zk
      · intro wq zq
        obtain ⟨⟨s0, s1⟩, ⟨s2, s3⟩, ⟨s4, s5, s6⟩, s7, s8, s9⟩ := HXX.out _ zq
        go_simp
        try rfl
      go_frame
      apply tk 6 kpk6 rfl (by kernel_rfl) (fun _ _ _ h => h) zk
      · intro wq zq
        go_simp
        try rfl
      go_frame
      apply tk 7 kpk7 rfl (by kernel_rfl) (fun _ _ _ h => h) zk
      · intro wq zq
        obtain ⟨⟨s0, s1⟩, ⟨s2, s3⟩, ⟨s4, s5, s6⟩, s7, s8, s9⟩ := HXX.out _ zq
        go_simp
        try rfl
      go_frame
      refine Go.Proofs.Ytbblmbbpicinlab.rd 8 kpk8 rfl (by kernel_rfl) fun K hK => ?_
      go_simp
      refine (face.put x.h.1 x.h.2 dx gr.1 gr.2 (k : Int) vx.n vx.s vx.g UX.out.h1 UX.out.h2 HWD.out.1 g1 g2 (by constructor <;> omega) HWD.out.2.1 HWD.out.2.2.1 HWD.out.2.2.2 HP.out HLL.out (by first | omega | exact Nat.le_trans S1.out.low (by have := CV.out.size; have := zk.size; omega))).mono ?_
      rintro e W9 ⟨F9, rfl, hp9, hc9, hd9⟩
      have P9 := hide (And.intro hp9 (And.intro hc9 hd9))
      have Z9 := hide (hc9.mono (Q' := G1) (fun y _ hy => HFG.out y hy))
      clear hp9 hc9 hd9
      go_wp2_with fail
      refine hK.out _ _ ?_ (fun zk => ?_)
      · exact Z9.out
      clear hK K
      try go_frame
      refine wpAnyH_done (by kernel_rfl) ?_ _
      go_wp2_with fail
      refine ⟨?rel, ?measure⟩
      case rel =>
        refine ⟨k + 1, HLT.out, rfl, hide ?_⟩
        obtain ⟨G9, hs9, hg9⟩ := HUP.out _ _ _ P9.out.1 P9.out.2.1 P9.out.2.2
        have sz := E1.out.size
        have sv := CV.out.size
        refine ⟨G9, ?_, fun y hy => ?_, ?_⟩
        · rw [List.take_succ_eq_append_getElem HLT.out, HX.out, pkL_snoc, List.length_take, HDX.out.1, HDX.out.2, show 0 + min k az.length = k by have := HLT.out; omega]
          exact hs9
        · rcases hg9 y hy with e | e
          · exact D1.out y e
          · exact .inr (by omega)
        · exact (E1.out.trans (CV.out.mono (Q' := G) (fun _ _ h => h.elim)) (fun _ _ h => h)).trans Z9.out (fun y hy e => (D1.out y e).elim id (fun e => by omega))
      case measure =>
        show az.length - ((k : Int) + 1).toNat < az.length - (k : Int).toNat
        have := HLT.out
        omega
    · have et : az.take k = az := List.take_of_length_le (by omega)
      have i1 : ¬ (k : Int) < (az.length : Int) := by omega
      have S2 := hide (show SW W0 B c bp (pkL gr 0 az l) ks G1 from by have := S1.out; rwa [et] at this)
      clear hlt et hk
      go_wp2_with fail
      go_ret
      have sz := C3.out.size
      exact ⟨rfl, G1, S2.out, fun y hy => (D1.out y hy).imp_right fun e => by omega, (C3.out.mono (Q' := G) (fun _ _ h => h.elim)).trans E1.out (fun _ _ h => h)⟩
end

end Go.Proofs.Ytbblmbbpicinlab
