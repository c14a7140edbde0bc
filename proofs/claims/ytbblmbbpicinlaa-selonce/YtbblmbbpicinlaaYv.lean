/- Layer 15: arms of selects; which are ready; the small calls. Layer 15: look: which arms are ready. Layer 15: the library's Contains, of numbers. Layer 15: Poll; why somebody may not take an arm or wait. Layer 15: Take. Layer 15: Park. -/
import Derived.Test.YtbblmbbpicinlaaYu
import Derived.WalkMore
namespace Go.Proofs.Ytbblmbbpicinlaa
open Go.RowKit

structure Am where
  h : Hnd
  sd : Bool
  v : Va
def amF (a : Am) : List Value := [.int .u32 a.h.1, .int .u32 a.h.2, .bool a.sd, .int .i64 a.v.n, .int .u32 a.v.s, .int .u32 a.v.g]
theorem amF_len (a : Am) : (amF a).length = 6 := rfl
abbrev amV (a : Am) : Value := .agg #[.int .u32 a.h.1, .int .u32 a.h.2, .bool a.sd, .int .i64 a.v.n, .int .u32 a.v.s, .int .u32 a.v.g]
theorem amF_one (a : Am) : ∀ v ∈ amF a, v.oneCell' = true := by
  intro u hu
  simp only [amF, List.mem_cons, List.not_mem_nil, or_false] at hu
  rcases hu with rfl | rfl | rfl | rfl | rfl | rfl <;> rfl
/-- arms in block g -/
def AmL (w : World) (g : Nat) (az : List Am) : Prop := ∀ i (hi : i < az.length), w.cell? ⟨g, i * 6, none⟩ = some (.int .u32 az[i].h.1) ∧ w.cell? ⟨g, i * 6 + 1, none⟩ = some (.int .u32 az[i].h.2) ∧ w.cell? ⟨g, i * 6 + 2, none⟩ = some (.bool az[i].sd) ∧ w.cell? ⟨g, i * 6 + 3, none⟩ = some (.int .i64 az[i].v.n) ∧ w.cell? ⟨g, i * 6 + 4, none⟩ = some (.int .u32 az[i].v.s) ∧ w.cell? ⟨g, i * 6 + 5, none⟩ = some (.int .u32 az[i].v.g)
theorem AmL.box {w w' : World} {g : Nat} {az : List Am} (h : AmL w g az) (hb : w'.heap[g]? = w.heap[g]?) : AmL w' g az := by
  intro i hi
  have := h i hi
  have c : ∀ o, w'.cell? ⟨g, o, none⟩ = w.cell? ⟨g, o, none⟩ := fun o => World.cell?_of_block (w := w) (a := ⟨g, o, none⟩) hb
  simpa only [c] using this
theorem AmL.lt {w : World} {g : Nat} {az : List Am} (h : AmL w g az) (h0 : 0 < az.length) : g < w.heap.size := by
  have := (h 0 h0).1
  apply Decidable.byContradiction
  intro hn
  have e : w.heap[g]? = none := Array.getElem?_eq_none (by omega)
  simp [World.cell?, e] at this
theorem AmL.ch {w w' : World} {Q : Nat → Prop} {g : Nat} {az : List Am} (h : AmL w g az) (hc : Ch Q w w') (hq : ¬ Q g) : AmL w' g az := by
  intro i hi
  have hl := h.lt (Nat.lt_of_le_of_lt (Nat.zero_le _) hi)
  exact h.box (hc.blk g hl hq) i hi
theorem AmL.take {w : World} {g : Nat} {az : List Am} (h : AmL w g az) (k : Nat) : AmL w g (az.take k) := by
  intro i hi
  have := h i (by rw [List.length_take] at hi; omega)
  simpa only [List.getElem_take] using this
theorem AmL.of_row {w : World} {B g n c : Nat} {az : List Am} (h : Row amF 6 105 w B (.slice (some ⟨g, 0, none⟩) n c) az) : AmL w g az := by
  intro i hi
  obtain ⟨g', c', cur, e, -, -, -, -, -, hc⟩ := h.at amF_len (by omega)
  cases e
  exact ⟨hc i hi 0 _ rfl, hc i hi 1 _ rfl, hc i hi 2 _ rfl, hc i hi 3 _ rfl, hc i hi 4 _ rfl, hc i hi 5 _ rfl⟩

/-- is an arm ready; is it an arm of no channel -/
def rdA (l : List Wt) (ks : List Kn) (a : Am) : Bool := if a.sd then fkS l ks a.h else fkR l ks a.h
def badA (ks : List Kn) (a : Am) : Bool := !nnH a.h && (fnk ks a.h).isNone
def idxA (l : List Wt) (ks : List Kn) : Nat → List Am → List Nat
  | _, [] => []
  | i, a :: r => if !nnH a.h && rdA l ks a then i :: idxA l ks (i + 1) r else idxA l ks (i + 1) r
theorem idxA_snoc (l : List Wt) (ks : List Kn) (a : Am) : ∀ (i : Nat) (r : List Am), idxA l ks i (r ++ [a]) = idxA l ks i r ++ if !nnH a.h && rdA l ks a then [i + r.length] else []
  | i, [] => by
    rw [List.nil_append, idxA, idxA, idxA]
    split <;> simp
  | i, b :: r => by
    rw [List.cons_append, idxA, idxA, idxA_snoc l ks a (i + 1) r, List.length_cons, show i + 1 + r.length = i + (r.length + 1) by omega]
    split
    · simp
    · rfl
theorem idxA_len (l : List Wt) (ks : List Kn) : ∀ (i : Nat) (r : List Am), (idxA l ks i r).length ≤ r.length
  | _, [] => Nat.le_refl _
  | i, a :: r => by
    rw [idxA]
    have := idxA_len l ks (i + 1) r
    split
    · simp; omega
    · simp; omega
/-- what a look finds: the ready ones, and the error -/
def lkA (l : List Wt) (ks : List Kn) (az : List Am) : List Nat × Int := if az.any (badA ks) then ([], 141) else (idxA l ks 0 az, 0)
def plA (l : List Wt) (ks : List Kn) (az : List Am) : List Nat × Int := if 50 < az.length then ([], 151) else lkA l ks az
def akA (l : List Wt) (ks : List Kn) (g : Hnd) (az : List Am) : List Nat × Int := if nnH g then ([], 1) else if 0 < (sel (isWho g.1 g.2) l).length then ([], 143) else plA l ks az
def inF (n : Nat) : List Value := [.int .i64 (n : Int)]
theorem inF_len (n : Nat) : (inF n).length = 1 := rfl
theorem inF_one (n : Nat) : ∀ v ∈ inF n, v.oneCell' = true := by
  intro u hu
  simp only [inF, List.mem_cons, List.not_mem_nil, or_false] at hu
  subst hu
  rfl
abbrev InRow (w : World) (B : Nat) (v : Value) (l : List Nat) : Prop := Row inF 1 3 w B v l

theorem snone_is (w : World) (s g : Int) : Calls Try.prog 113 #[hvW s g] w fun e w' => e = .returned (.bool (decide (s = 0) && decide (g = 0))) ∧ Below w.heap.size w w' := by
  by_cases es : s = 0
  · have qs : (s == 0) = true := by simpa using es
    rw [decide_eq_true es]
    by_cases eg : g = 0
    · have qg : (g == 0) = true := by simpa using eg
      rw [decide_eq_true eg]
      clear es eg
      go_enter Try.func113, Try.ntmps113
      go_wp2
      go_ret
      exact ⟨rfl, below1 _ _⟩
    · have qg : (g == 0) = false := by simpa using eg
      rw [decide_eq_false eg]
      clear es eg
      go_enter Try.func113, Try.ntmps113
      go_wp2
      go_ret
      exact ⟨rfl, below1 _ _⟩
  · have qs : (s == 0) = false := by simpa using es
    rw [decide_eq_false es, Bool.false_and]
    clear es
    go_enter Try.func113, Try.ntmps113
    go_wp2
    go_ret
    exact ⟨rfl, below1 _ _⟩
theorem asks_is (w : World) (a : Am) : Calls Try.prog 112 #[amV a] w fun e w' => e = .returned (.func (.func (if a.sd then 32 else 33)) #[] #[]) ∧ Below w.heap.size w w' := by
  obtain ⟨h, sd, v⟩ := a
  cases sd
  · rw [show (if (⟨h, false, v⟩ : Am).sd then 32 else 33) = 33 from rfl]
    go_enter Try.func112, Try.ntmps112
    go_wp2
    go_ret
    exact ⟨rfl, below1 _ _⟩
  · rw [show (if (⟨h, true, v⟩ : Am).sd then 32 else 33) = 32 from rfl]
    go_enter Try.func112, Try.ntmps112
    go_wp2
    go_ret
    exact ⟨rfl, below1 _ _⟩

/-- where somebody waits for an arm, with what -/
def wtD (a : Am) : Int := if a.sd then 1 else 2
def wtV (a : Am) : Va := if a.sd then a.v else zVa

/-- the Sel lies in block s -/
def SelAt (w : World) (s c bp : Nat) : Prop := w.heap[s]? = some (.cells #[.pointer (some ⟨c, 0, none⟩), .pointer (some ⟨bp, 0, none⟩)] 181 (0, 0))
theorem selnew_is (w : World) (c bp : Nat) : Calls Try.prog 76 #[.pointer (some ⟨c, 0, none⟩), .pointer (some ⟨bp, 0, none⟩)] w fun e w' => e = .returned (.tuple #[.pointer (some ⟨w.heap.size, 0, none⟩), .int .i64 0]) ∧ SelAt w' w.heap.size c bp ∧ Below w.heap.size w w' := by
  go_enter Try.func76, Try.ntmps76
  go_wp2
  go_ret2
  exact ⟨rfl, heap_new _ _, below1 _ _⟩

/-- a function with a body: it is entered -/
abbrev Enters (g : FuncId) : Prop := ∀ (args : Array Value) (w : World), (callFunc g args).run Try.prog w = .ok (.enter g args) w
theorem enters_of {g : FuncId} {fn : Func} (h : Try.prog.funcs[g]? = some fn) (hn : (fn.name == "runtime.NumGoroutine") = false) (hb : fn.body.isNone = false) : Enters g := fun args w => by
  have h1 : ¬ fn.name = "runtime.NumGoroutine" := by simpa using hn
  have h2 : ¬ fn.body = none := by intro e; rw [e] at hb; cases hb
  simp [callFunc, go_sem, h, h1, h2]
theorem en_canSend : Enters 32 := enters_of Try.func32 rfl rfl
theorem en_canRecv : Enters 33 := enters_of Try.func33 rfl rfl

end Go.Proofs.Ytbblmbbpicinlaa

namespace Go.Proofs.Ytbblmbbpicinlaa
open Go.RowKit

abbrev kla0 : Oper := { dst := some 25, op := Op.move (Operand.tmp 0), type := 87, pos := "sel.go:89", after := #[], guard := none }
abbrev kla1 : Oper := { dst := some 26, op := Op.nilCheck (Operand.tmp 25), type := 0, pos := "sel.go:89", after := #[{ on := 0, ground := Ground.data }], guard := none }
abbrev kla2 : Oper := { dst := some 27, op := Op.fieldAddr 181 (Operand.tmp 26) 0, type := 0, pos := "sel.go:89", after := #[{ on := 1, ground := Ground.data }], guard := none }
abbrev kla3 : Oper := { dst := some 28, op := Op.load 26 (Operand.tmp 27), type := 26, pos := "sel.go:89", after := #[{ on := 2, ground := Ground.data }], guard := none }
abbrev kla4 : Oper := { dst := some 29, op := Op.fieldAddr 105 (Operand.tmp 9) 0, type := 0, pos := "sel.go:89", after := #[], guard := none }
abbrev kla5 : Oper := { dst := some 30, op := Op.load 43 (Operand.tmp 29), type := 43, pos := "sel.go:89", after := #[{ on := 4, ground := Ground.data }], guard := none }
abbrev kla6 : Oper := { dst := some 31, op := Op.call { callee := Callee.value (Operand.func 31), args := #[Operand.tmp 28, Operand.tmp 30], argTypes := #[26, 43] }, type := 4, pos := "sel.go:89", after := #[{ on := 3, ground := Ground.data }, { on := 5, ground := Ground.data }], guard := none }
abbrev kla7 : Oper := { dst := some 32, op := Op.unOp UnOp.not 4 (Operand.tmp 31), type := 4, pos := "sel.go:89", after := #[{ on := 6, ground := Ground.data }], guard := none }
abbrev kla8 : Oper := { dst := some 24, op := Op.assign (Operand.tmp 32), type := 4, pos := "sel.go:89", after := #[{ on := 7, ground := Ground.data }, { on := 6, ground := Ground.chain }], guard := none }
abbrev klb0 : Oper := { dst := some 34, op := Op.move (Operand.tmp 10), type := 221, pos := "sel.go:92", after := #[], guard := none }
abbrev klb1 : Oper := { dst := some 35, op := Op.move (Operand.tmp 0), type := 87, pos := "sel.go:92", after := #[], guard := none }
abbrev klb2 : Oper := { dst := some 36, op := Op.nilCheck (Operand.tmp 35), type := 0, pos := "sel.go:92", after := #[{ on := 1, ground := Ground.data }], guard := none }
abbrev klb3 : Oper := { dst := some 37, op := Op.fieldAddr 181 (Operand.tmp 36) 0, type := 0, pos := "sel.go:92", after := #[{ on := 2, ground := Ground.data }], guard := none }
abbrev klb4 : Oper := { dst := some 38, op := Op.load 26 (Operand.tmp 37), type := 26, pos := "sel.go:92", after := #[{ on := 3, ground := Ground.data }], guard := none }
abbrev klb5 : Oper := { dst := some 39, op := Op.fieldAddr 105 (Operand.tmp 9) 0, type := 0, pos := "sel.go:92", after := #[], guard := none }
abbrev klb6 : Oper := { dst := some 40, op := Op.load 43 (Operand.tmp 39), type := 43, pos := "sel.go:92", after := #[{ on := 5, ground := Ground.data }], guard := none }
abbrev klb7 : Oper := { dst := some 41, op := Op.call { callee := Callee.value (Operand.tmp 34), args := #[Operand.tmp 38, Operand.tmp 40], argTypes := #[26, 43] }, type := 4, pos := "sel.go:92", after := #[{ on := 0, ground := Ground.data }, { on := 4, ground := Ground.data }, { on := 6, ground := Ground.data }], guard := none }
abbrev klb8 : Oper := { dst := some 33, op := Op.assign (Operand.tmp 41), type := 4, pos := "sel.go:92", after := #[{ on := 7, ground := Ground.data }, { on := 7, ground := Ground.chain }], guard := none }

set_option maxRecDepth 100000 in
set_option maxHeartbeats 16000000 in
theorem look_is {w : World} {B c bp s g cap : Nat} {l : List Wt} {ks : List Kn} {G : Nat → Prop} {az : List Am} {a : Option Addr} (h : SW w B c bp l ks G) (hl : l.length ≤ 100000) (hs : SelAt w s c bp) (ha : 0 < az.length → a = some ⟨g, 0, none⟩) (hA : AmL w g az) (hb : az.length ≤ 50) (hu : ∀ x ∈ az, UsW x.h.1 ∧ UsW x.h.2) :
    Calls Try.prog 85 #[.pointer (some ⟨s, 0, none⟩), .slice a az.length cap] w fun e w' => ∃ v, e = .returned (.tuple #[v, .int .i64 (lkA l ks az).2]) ∧ InRow w' w.heap.size v (lkA l ks az).1 ∧ Below w.heap.size w w' := by
  obtain ⟨i0, hi0, hz0, hz1, hz2⟩ := nf_open nfInt
  have H := hide h
  have HS := hide hs
  have HA := hide (show (0 < az.length → a = some ⟨g, 0, none⟩) ∧ AmL w g az from ⟨ha, hA⟩)
  have HU := hide hu
  clear h hs ha hA hu
  go_enter Try.func85, Try.ntmps85
  go_wp2_with fail
  go_step3
  go_wp2_with fail
  go_step3
  go_wp2_with fail
  go_loopw [6, 7, 13] (fun t q i wr => ∃ k : Nat, k ≤ az.length ∧ i = .int .i64 (k : Int) ∧ q = .int .i64 0 ∧ Hid (InRow wr w.heap.size t (idxA l ks 0 (az.take k)) ∧ Below w.heap.size w wr ∧ (az.take k).any (badA ks) = false)) (fun _ _ i _ => az.length - (intOf i).toNat)
  case atStart => exact ⟨0, Nat.zero_le _, rfl, rfl, hide ⟨Row.nil _ _, Below.refl _ _, rfl⟩⟩
  case round =>
    obtain ⟨k, hk, rfl, rfl, HI⟩ := hrel
    obtain ⟨W0, rfl⟩ : ∃ x, x = wr := ⟨_, rfl⟩
    obtain ⟨t0, et⟩ : ∃ u, u = u6 := ⟨_, rfl⟩
    subst et
    by_cases hlt : k < az.length
    · have ha := HA.out.1 (by omega)
      subst ha
      obtain ⟨x, hx⟩ : ∃ x, az[k] = x := ⟨_, rfl⟩
      have gl := HA.out.2.lt (by omega)
      have hcell := (HA.out.2.box (HI.out.2.1.block g gl)) k hlt
      rw [hx] at hcell
      obtain ⟨y0, y1, y2, y3, y4, y5⟩ := hcell
      have HX := hide hx
      have ux := HU.out x (by rw [← hx]; exact List.getElem_mem hlt)
      have UX := hide ux
      have i1 : (k : Int) < (az.length : Int) := by omega
      have hk0 : (k : Int) ≤ 50 := by omega
      have HK := hide (And.intro hlt hb)
      clear hx ux hk gl hb
      go_wp2_with fail
      obtain ⟨W1, hW1⟩ : ∃ z, W0.alloc (.cells #[.int .u32 x.h.1, .int .u32 x.h.2, .bool x.sd, .int .i64 x.v.n, .int .u32 x.v.s, .int .u32 x.v.g] 105) = z := ⟨_, rfl⟩
      rw [hW1]
      have B1 := hide (HI.out.2.1.trans ((show Below W0.heap.size W0 W1 by rw [← hW1]; exact below1 _ _).mono HI.out.2.1.size))
      have C1 := hide (show Ch (fun _ => False) W0 W1 by rw [← hW1]; exact Ch.alloc _ _)
      have N1 := hide (show W1.heap[W0.heap.size]? = some (.cells #[.int .u32 x.h.1, .int .u32 x.h.2, .bool x.sd, .int .i64 x.v.n, .int .u32 x.v.s, .int .u32 x.v.g] 105 (0, 0)) by rw [← hW1]; exact heap_new _ _)
      clear hW1 y0 y1 y2 y3 y4 y5
      obtain ⟨fc, hfc⟩ : ∃ fc, fc = (if x.sd then 32 else 33) := ⟨_, rfl⟩
      have HFC := hide hfc
      have hask : Calls Try.prog 112 #[amV x] W1 fun e w' => e = .returned (.func (.func fc) #[] #[]) ∧ Below W1.heap.size W1 w' := by rw [hfc]; exact asks_is W1 x
      clear hfc
      refine hask.mono ?_
      rintro e W2 ⟨rfl, hb2⟩
      clear hask
      have B2 := hide (B1.out.trans (hb2.mono B1.out.size))
      have C2 := hide (C1.out.trans (Ch.of_below (Q := fun _ => False) hb2) (fun _ _ h => h))
      have N2 := hide ((Ch.of_below (Q := fun _ => False) hb2).box N1.out (fun h => h))
      clear hb2
      have z0 : W2.cell? ⟨W0.heap.size, 0, none⟩ = some (.int .u32 x.h.1) := by simp [Lib.cell_of_heap N2.out]
      have z1 : W2.cell? ⟨W0.heap.size, 1, none⟩ = some (.int .u32 x.h.2) := by simp [Lib.cell_of_heap N2.out]
      have z2 : W2.cell? ⟨W0.heap.size, 2, none⟩ = some (.bool x.sd) := by simp [Lib.cell_of_heap N2.out]
      have z3 : W2.cell? ⟨W0.heap.size, 3, none⟩ = some (.int .i64 x.v.n) := by simp [Lib.cell_of_heap N2.out]
      have z4 : W2.cell? ⟨W0.heap.size, 4, none⟩ = some (.int .u32 x.v.s) := by simp [Lib.cell_of_heap N2.out]
      have z5 : W2.cell? ⟨W0.heap.size, 5, none⟩ = some (.int .u32 x.v.g) := by simp [Lib.cell_of_heap N2.out]
      go_wp2_with fail
      clear z0 z1 z2 z3 z4 z5
      refine (snone_is W2 x.h.1 x.h.2).mono ?_
      rintro e W3 ⟨rfl, hb3⟩
      have B3 := hide (B2.out.trans (hb3.mono B2.out.size))
      have C3 := hide (C2.out.trans (Ch.of_below (Q := fun _ => False) hb3) (fun _ _ h => h))
      have N3 := hide ((Ch.of_below (Q := fun _ => False) hb3).box N2.out (fun h => h))
      clear hb3
      rw [show (decide (x.h.1 = 0) && decide (x.h.2 = 0)) = nnH x.h from rfl]
      have R3 := hide (HI.out.1.ch C3.out (fun _ _ h => h))
      have IH := hide HI.out.2.2
      have HT := hide (show az.take (k + 1) = az.take k ++ [x] by rw [List.take_succ_eq_append_getElem HK.out.1, HX.out])
      have HL := hide (show (az.take k).length = k by rw [List.length_take]; have := HK.out.1; omega)
      have W00 := hide HI.out.2.1
      clear HI
      cases hn : nnH x.h with
      | true =>
        have HN := hide hn
        clear hn
        go_wp2_with fail
        refine ⟨?rel, ?measure⟩
        case rel =>
          refine ⟨k + 1, HK.out.1, rfl, rfl, hide ⟨?_, B3.out, ?_⟩⟩
          · rw [HT.out, idxA_snoc, HN.out]
            simpa using R3.out
          · rw [HT.out, List.any_append, IH.out]
            simp [badA, HN.out]
        case measure =>
          show az.length - ((k : Int) + 1).toNat < az.length - (k : Int).toNat
          have := HK.out.1
          omega
      | false =>
        have HN := hide hn
        clear hn
        go_wp2_with fail
        refine wp_reg (fun _ => False) (R := fun V => Ch (fun _ => False) W3 V) (by kernel_rfl) (Ch.drew _) (fun V cV zk => ?_)
        have CV := hide cV
        have B4 := hide (B3.out.trans (cV.below (N := w.heap.size) B3.out.size (fun _ _ h => h)))
        have N4 := hide (cV.box N3.out (fun h => h))
        clear cV
        have S4 := hide (show V.heap[s]? = some (.cells #[.pointer (some ⟨c, 0, none⟩), .pointer (some ⟨bp, 0, none⟩)] 181 (0, 0)) from (B4.out.block s (Array.getElem?_eq_some_iff.1 HS.out).1).trans HS.out)
        have H4 := hide (H.out.below B4.out)
        have HXX := hide (fun wq (kq : Ch (fun _ => False) V wq) => show (wq.cell? ⟨s, 0, none⟩ = some (.pointer (some ⟨c, 0, none⟩)) ∧ wq.cell? ⟨s, 1, none⟩ = some (.pointer (some ⟨bp, 0, none⟩))) ∧ wq.cell? ⟨W0.heap.size, 0, none⟩ = some (.int .u32 x.h.1) ∧ wq.cell? ⟨W0.heap.size, 1, none⟩ = some (.int .u32 x.h.2) from by
          have e0 := Lib.cell_of_heap (kq.box S4.out (fun h => h))
          have e1 := Lib.cell_of_heap (kq.box N4.out (fun h => h))
          exact ⟨⟨by simp [e0], by simp [e0]⟩, by simp [e1], by simp [e1]⟩)
        apply tk 0 kla0 rfl (by kernel_rfl) (fun _ _ _ h => h) zk
        · intro wq zq
          go_simp
          try rfl
        go_frame
        apply tk 1 kla1 rfl (by kernel_rfl) (fun _ _ _ h => h) zk
        · intro wq zq
          go_simp
          try rfl
        go_frame
        apply tk 2 kla2 rfl (by kernel_rfl) (fun _ _ _ h => h) zk
        · intro wq zq
          go_simp
          try rfl
        go_frame
        apply tk 3 kla3 rfl (by kernel_rfl) (fun _ _ _ h => h) zk
        · intro wq zq
          obtain ⟨⟨s0, s1⟩, s2, s3⟩ := HXX.out _ zq
          go_simp
          try rfl
        go_frame
        apply tk 4 kla4 rfl (by kernel_rfl) (fun _ _ _ h => h) zk
        · intro wq zq
          go_simp
          try rfl
        go_frame
        apply tk 5 kla5 rfl (by kernel_rfl) (fun _ _ _ h => h) zk
        · intro wq zq
          obtain ⟨⟨s0, s1⟩, s2, s3⟩ := HXX.out _ zq
          go_simp
          try rfl
        go_frame
        have ZK := hide zk
        clear zk
        cases hh : (fnk ks x.h) with
        | none =>
          have HH := hide hh
          have HQ := hide (show (!(fnk ks x.h).isSome) = true from by rw [hh]; rfl)
          clear hh
          have zk := ZK.out
          refine Go.Proofs.Ytbblmbbpicinlaa.rd 6 kla6 rfl (by kernel_rfl) fun K hK => ?_
          go_simp
          refine (sw_has (H4.out.quiet zk) x.h).mono ?_
          rintro e W5 ⟨rfl, hb5⟩
          have Z5 := hide (zk.trans (Ch.of_below (Q := fun _ => False) hb5) (fun _ _ h => h))
          clear hb5
          go_wp2_with fail
          refine hK.out _ _ ?_ (fun zk => ?_)
          · exact Z5.out
          clear hK K
          try go_frame
          apply tk 7 kla7 rfl (by kernel_rfl) (fun _ _ _ h => h) zk
          · intro wq zq
            have hq := HQ.out
            go_simp
            try rfl
          go_frame
          apply tk 8 kla8 rfl (by kernel_rfl) (fun _ _ _ h => h) zk
          · intro wq zq
            go_simp
            try rfl
          go_frame
          refine wpAnyH_done (by kernel_rfl) ?_ _
          have Z8 := hide zk
          clear zk HXX
          go_wp2_with fail
          try rw [Exit.noGoto_ret]
          go_ret2
          have hlk : lkA l ks az = ([], 141) := by
            unfold lkA
            rw [if_pos]
            rw [List.any_eq_true]
            exact ⟨x, by rw [← HX.out]; exact List.getElem_mem HK.out.1, by simp [badA, HN.out, HH.out]⟩
          rw [hlk]
          exact ⟨_, rfl, Row.nil _ _, B4.out.trans (Z8.out.below (N := w.heap.size) B4.out.size (fun _ _ h => h))⟩
        | some y =>
          have HH := hide hh
          have HQ := hide (show (!(fnk ks x.h).isSome) = false from by rw [hh]; rfl)
          have HBD := hide (show badA ks x = false from by simp [badA, HN.out, hh])
          clear hh
          have zk := ZK.out
          refine Go.Proofs.Ytbblmbbpicinlaa.rd 6 kla6 rfl (by kernel_rfl) fun K hK => ?_
          go_simp
          refine (sw_has (H4.out.quiet zk) x.h).mono ?_
          rintro e W5 ⟨rfl, hb5⟩
          have Z5 := hide (zk.trans (Ch.of_below (Q := fun _ => False) hb5) (fun _ _ h => h))
          clear hb5
          go_wp2_with fail
          refine hK.out _ _ ?_ (fun zk => ?_)
          · exact Z5.out
          clear hK K
          try go_frame
          apply tk 7 kla7 rfl (by kernel_rfl) (fun _ _ _ h => h) zk
          · intro wq zq
            have hq := HQ.out
            go_simp
            try rfl
          go_frame
          apply tk 8 kla8 rfl (by kernel_rfl) (fun _ _ _ h => h) zk
          · intro wq zq
            go_simp
            try rfl
          go_frame
          refine wpAnyH_done (by kernel_rfl) ?_ _
          have Z8 := hide zk
          clear zk HXX
          go_wp2_with fail
          have B5 := hide (B4.out.trans (Z8.out.below (N := w.heap.size) B4.out.size (fun _ _ h => h)))
          have N5 := hide (Z8.out.box N4.out (fun h => h))
          have R5 := hide ((R3.out.ch CV.out (fun _ _ h => h)).ch Z8.out (fun _ _ h => h))
          clear ZK Z8 Z5
          refine wp_reg (fun _ => False) (R := fun Y => Ch (fun _ => False) W5 Y) (by kernel_rfl) (Ch.drew _) (fun Y cY zk => ?_)
          have B6 := hide (B5.out.trans (cY.below (N := w.heap.size) B5.out.size (fun _ _ h => h)))
          have N6 := hide (cY.box N5.out (fun h => h))
          have R6 := hide (R5.out.ch cY (fun _ _ h => h))
          clear cY
          have S6 := hide (show Y.heap[s]? = some (.cells #[.pointer (some ⟨c, 0, none⟩), .pointer (some ⟨bp, 0, none⟩)] 181 (0, 0)) from (B6.out.block s (Array.getElem?_eq_some_iff.1 HS.out).1).trans HS.out)
          have H6 := hide (H.out.below B6.out)
          have HXX := hide (fun wq (kq : Ch (fun _ => False) Y wq) => show (wq.cell? ⟨s, 0, none⟩ = some (.pointer (some ⟨c, 0, none⟩)) ∧ wq.cell? ⟨s, 1, none⟩ = some (.pointer (some ⟨bp, 0, none⟩))) ∧ wq.cell? ⟨W0.heap.size, 0, none⟩ = some (.int .u32 x.h.1) ∧ wq.cell? ⟨W0.heap.size, 1, none⟩ = some (.int .u32 x.h.2) from by
            have e0 := Lib.cell_of_heap (kq.box S6.out (fun h => h))
            have e1 := Lib.cell_of_heap (kq.box N6.out (fun h => h))
            exact ⟨⟨by simp [e0], by simp [e0]⟩, by simp [e1], by simp [e1]⟩)
          have HCAN := hide (fun wq (kq : Ch (fun _ => False) Y wq) => show Calls Try.prog fc #[.pointer (some ⟨c, 0, none⟩), hkV x.h] wq fun e w' => e = .returned (.bool (rdA l ks x)) ∧ Below wq.heap.size wq w' from by
            rw [HFC.out]
            unfold rdA
            cases x.sd
            · rw [if_neg (by decide), if_neg (by decide)]; exact sw_canRecv (H6.out.quiet kq) hl UX.out.1 UX.out.2
            · rw [if_pos rfl, if_pos rfl]; exact sw_canSend (H6.out.quiet kq) hl UX.out.1 UX.out.2)
          have hen : Enters fc := by
            rw [HFC.out]
            cases x.sd
            · rw [if_neg (by decide)]; exact en_canRecv
            · rw [if_pos rfl]; exact en_canSend
          apply tk 0 klb0 rfl (by kernel_rfl) (fun _ _ _ h => h) zk
          · intro wq zq
            go_simp
            try rfl
          go_frame
          apply tk 1 klb1 rfl (by kernel_rfl) (fun _ _ _ h => h) zk
          · intro wq zq
            go_simp
            try rfl
          go_frame
          apply tk 2 klb2 rfl (by kernel_rfl) (fun _ _ _ h => h) zk
          · intro wq zq
            go_simp
            try rfl
          go_frame
          apply tk 3 klb3 rfl (by kernel_rfl) (fun _ _ _ h => h) zk
          · intro wq zq
            go_simp
            try rfl
          go_frame
          apply tk 4 klb4 rfl (by kernel_rfl) (fun _ _ _ h => h) zk
          · intro wq zq
            obtain ⟨⟨s0, s1⟩, s2, s3⟩ := HXX.out _ zq
            go_simp
            try rfl
          go_frame
          apply tk 5 klb5 rfl (by kernel_rfl) (fun _ _ _ h => h) zk
          · intro wq zq
            go_simp
            try rfl
          go_frame
          apply tk 6 klb6 rfl (by kernel_rfl) (fun _ _ _ h => h) zk
          · intro wq zq
            obtain ⟨⟨s0, s1⟩, s2, s3⟩ := HXX.out _ zq
            go_simp
            try rfl
          go_frame
          refine Go.Proofs.Ytbblmbbpicinlaa.rd 7 klb7 rfl (by kernel_rfl) fun K hK => ?_
          go_simp
          refine (HCAN.out _ zk).mono ?_
          rintro e W7 ⟨rfl, hb7⟩
          have Z7 := hide (zk.trans (Ch.of_below (Q := fun _ => False) hb7) (fun _ _ h => h))
          clear hb7
          go_wp2_with fail
          refine hK.out _ _ ?_ (fun zk => ?_)
          · exact Z7.out
          clear hK K
          try go_frame
          apply tk 8 klb8 rfl (by kernel_rfl) (fun _ _ _ h => h) zk
          · intro wq zq
            go_simp
            try rfl
          go_frame
          refine wpAnyH_done (by kernel_rfl) ?_ _
          have B7 := hide (B6.out.trans (zk.below (N := w.heap.size) B6.out.size (fun _ _ h => h)))
          have R7 := hide (R6.out.ch zk (fun _ _ h => h))
          clear HXX Z7 HCAN hen
          cases hr : rdA l ks x with
          | false =>
            have HR0 := hide hr
            clear hr
            go_wp2_with fail
            refine ⟨?rel, ?measure⟩
            case rel =>
              refine ⟨k + 1, HK.out.1, rfl, rfl, hide ⟨?_, B7.out, ?_⟩⟩
              · rw [HT.out, idxA_snoc, HN.out, HR0.out]
                simpa using R7.out
              · rw [HT.out, List.any_append, IH.out]
                simp [HBD.out]
            case measure =>
              show az.length - ((k : Int) + 1).toNat < az.length - (k : Int).toNat
              have := HK.out.1
              omega
          | true =>
            have HR0 := hide hr
            clear hr
            have HOW := hide (World.ownsRow.alloc R7.out (.cells #[.int .i64 (k : Int)] 3))
            have HN1 := hide (row_new W7 (inF k) 3 rfl)
            have hlen := idxA_len l ks 0 (az.take k)
            rw [HL.out] at hlen
            have HM1 := hide (show (idxA l ks 0 (az.take k)).length + 1 ≤ maxLen by unfold maxLen; have := HK.out; omega)
            have HM2 := hide (show ((idxA l ks 0 (az.take k)).length + 1) * 8 ≤ 140737488355328 by have := HK.out; omega)
            have HM3 := hide (show w.heap.size ≤ (W7.alloc (.cells #[.int .i64 (k : Int)] 3)).heap.size by have := B7.out.size; simp; omega)
            clear hlen
            go_wp2_with (at_builtin; refine wpList_append_own_at _ rfl _ _ 53 rfl w.heap.size 3 i0 (.int .i64 0) 1 8 Try.underlying53 hi0 hz0 hz1 hz2 rfl (by decide) _ (idxA l ks 0 (az.take k)).length ((idxA l ks 0 (az.take k)).flatMap inF) rfl HOW.out ⟨W7.heap.size, 0, none⟩ 1 1 (inF k) rfl rfl HN1.out (inF_one k) HM1.out HM2.out HM3.out ?_)
            intro v5 w5 hown5 hgrow5 _ _
            have R8 := hide (show InRow w5 w.heap.size v5 (idxA l ks 0 (az.take k) ++ [k]) from Row.snoc hown5)
            have hlo : ∀ y, y < w.heap.size → ¬ t0.ownBlock = some y := fun y hy e => by have := (own_in R7.out e).1; omega
            have B8 := hide (B7.out.trans ((((Ch.alloc (Q := fun y => t0.ownBlock = some y) W7 _).trans (Ch.of_grown (Q := fun y => t0.ownBlock = some y) hgrow5 (fun _ e => e)) (fun _ _ h => h))).below (N := w.heap.size) B7.out.size hlo))
            clear hown5 hgrow5 hlo
            go_wp2_with fail
            refine ⟨?rel, ?measure⟩
            case rel =>
              refine ⟨k + 1, HK.out.1, rfl, rfl, hide ⟨?_, B8.out, ?_⟩⟩
              · rw [HT.out, idxA_snoc, HN.out, HR0.out, HL.out]
                simpa using R8.out
              · rw [HT.out, List.any_append, IH.out]
                simp [HBD.out]
            case measure =>
              show az.length - ((k : Int) + 1).toNat < az.length - (k : Int).toNat
              have := HK.out.1
              omega
    · have ek : k = az.length := by omega
      have et : az.take k = az := List.take_of_length_le (by omega)
      have i1 : ¬ (k : Int) < (az.length : Int) := by omega
      have hbad := HI.out.2.2
      rw [et] at hbad
      have hlk : lkA l ks az = (idxA l ks 0 az, 0) := by
        unfold lkA
        rw [hbad, if_neg (by decide)]
      have HR := hide (show InRow W0 w.heap.size t0 (idxA l ks 0 az) by have := HI.out.1; rwa [et] at this)
      have HD := hide HI.out.2.1
      have HLK := hide hlk
      clear hlt et hk hlk hbad HI
      go_wp2_with fail
      try rw [Exit.noGoto_ret]
      go_ret2
      rw [HLK.out]
      exact ⟨_, rfl, HR.out, HD.out⟩

end Go.Proofs.Ytbblmbbpicinlaa

namespace Go.Proofs.Ytbblmbbpicinlaa
open Go.RowKit

/-- the place of a number -/
def ixN (zs : List Nat) (v : Int) : Int := match zs.findIdx? (fun z : Nat => decide (v = (z : Int))) with | none => -1 | some i => (i : Int)
def inN (zs : List Nat) (v : Int) : Bool := zs.any fun z : Nat => decide (v = (z : Int))
theorem ixN_in (zs : List Nat) (v : Int) : decide (0 ≤ ixN zs v) = inN zs v := by
  unfold ixN inN
  cases h : zs.findIdx? (fun z : Nat => decide (v = (z : Int))) with
  | none =>
    rw [List.findIdx?_eq_none_iff] at h
    have : zs.any (fun z : Nat => decide (v = (z : Int))) = false := by
      rw [List.any_eq_false]
      intro z hz
      have := h z hz
      simpa using this
    rw [this]
    rfl
  | some i =>
    obtain ⟨hi, h1, _⟩ := List.findIdx?_eq_some_iff_getElem.1 h
    have : zs.any (fun z : Nat => decide (v = (z : Int))) = true := List.any_eq_true.2 ⟨zs[i], List.getElem_mem hi, h1⟩
    rw [this]
    exact decide_eq_true (show (0 : Int) ≤ (i : Int) by omega)

set_option maxRecDepth 100000 in
set_option maxHeartbeats 8000000 in
theorem index_is {w : World} {B : Nat} {v : Value} {zs : List Nat} (h : InRow w B v zs) (hl : zs.length ≤ 1000) (i : Int) : Calls Try.prog 114 #[v, .int .i64 i] w fun e w' => e = .returned (.int .i64 (ixN zs i)) ∧ Below w.heap.size w w' := by
  obtain ⟨a, c, rfl, -, -⟩ := h.form
  have H := hide h
  clear h
  go_enter Try.func114, Try.ntmps114
  go_wp2
  go_loopw [8] (fun q wr => ∃ k : Nat, k ≤ zs.length ∧ q = .int .i64 (k : Int) ∧ Hid ((∃ m, wr = w.drewN m) ∧ ∀ j (hj : j < zs.length), j < k → ¬ i = (zs[j] : Int))) (fun q _ => zs.length - (intOf q).toNat)
  case atStart => exact ⟨0, Nat.zero_le _, rfl, hide ⟨⟨0, rfl⟩, fun j _ hj => absurd hj (Nat.not_lt_zero _)⟩⟩
  case round =>
    obtain ⟨k, hk, rfl, HI⟩ := hrel
    obtain ⟨⟨m, hm⟩, hno⟩ := HI.out
    subst hm
    have HNO := hide hno
    clear hno HI
    by_cases hlt : k < zs.length
    · obtain ⟨g, c', cur, e, -, -, -, -, -, hc⟩ := H.out.at inF_len (by omega)
      cases e
      have h0 : (w.drewN m).cell? ⟨g, k, none⟩ = some (.int .i64 (zs[k] : Int)) := by
        have := hc k hlt 0 _ rfl
        simpa using this
      have i1 : (k : Int) < (zs.length : Int) := by omega
      have i0 : (k : Int) ≤ 1000 := by omega
      have HLT := hide (And.intro hlt hl)
      obtain ⟨z, hz⟩ : ∃ z, zs[k] = z := ⟨_, rfl⟩
      rw [hz] at h0
      have HZ := hide (show zs[k]'(HLT.out.1) = z from hz)
      clear hc hk hlt hl hz
      by_cases he : i = (z : Int)
      · have hq : (i == (z : Int)) = true := by simpa using he
        have HE := hide he
        clear he
        go_wp2_with fail
        go_ret
        have hx : ixN zs i = (k : Int) := by
          unfold ixN
          rw [List.findIdx?_eq_some_iff_getElem.2 ⟨HLT.out.1, by rw [HZ.out]; exact decide_eq_true HE.out, fun j hj => by simpa using HNO.out j (by have := HLT.out.1; omega) hj⟩]
        rw [hx]
        exact ⟨rfl, below_dr _ _ _⟩
      · have hq : (i == (z : Int)) = false := by simpa using he
        have HE := hide he
        clear he
        go_wp2_with fail
        refine ⟨?rel, ?measure⟩
        case rel =>
          refine ⟨k + 1, HLT.out.1, rfl, hide ⟨⟨_, rfl⟩, fun j hj hjk => ?_⟩⟩
          by_cases e : j = k
          · subst e
            rw [HZ.out]
            exact HE.out
          · exact HNO.out j hj (by omega)
        case measure =>
          show zs.length - ((k : Int) + 1).toNat < zs.length - (k : Int).toNat
          have := HLT.out.1
          omega
    · have i1 : ¬ (k : Int) < (zs.length : Int) := by omega
      have hx : ixN zs i = -1 := by
        unfold ixN
        rw [List.findIdx?_eq_none_iff.2 (fun z hz => by
          obtain ⟨j, hj, rfl⟩ := List.getElem_of_mem hz
          simpa using HNO.out j hj (by omega))]
      have HXX := hide hx
      clear hlt hk hx
      go_wp2_with fail
      go_ret
      rw [HXX.out]
      exact ⟨rfl, below_dr _ _ _⟩

set_option maxRecDepth 100000 in
theorem contains_is {w : World} {B : Nat} {v : Value} {zs : List Nat} (h : InRow w B v zs) (hl : zs.length ≤ 1000) (i : Int) : Calls Try.prog 88 #[v, .int .i64 i] w fun e w' => e = .returned (.bool (inN zs i)) ∧ Below w.heap.size w w' := by
  obtain ⟨a, c, rfl, -, -⟩ := h.form
  have H := hide h
  clear h
  go_enter Try.func88, Try.ntmps88
  go_wp2_with fail
  refine (index_is H.out hl i).mono ?_
  rintro e w' ⟨rfl, hb⟩
  go_wp2_with fail
  go_ret
  rw [← ixN_in zs i]
  exact ⟨rfl, hb⟩

end Go.Proofs.Ytbblmbbpicinlaa

namespace Go.Proofs.Ytbblmbbpicinlaa
open Go.RowKit

abbrev kas0 : Oper := { dst := some 14, op := Op.move (Operand.tmp 0), type := 87, pos := "sel.go:74", after := #[], guard := none }
abbrev kas1 : Oper := { dst := some 15, op := Op.nilCheck (Operand.tmp 14), type := 0, pos := "sel.go:74", after := #[{ on := 0, ground := Ground.data }], guard := none }
abbrev kas2 : Oper := { dst := some 16, op := Op.fieldAddr 181 (Operand.tmp 15) 1, type := 0, pos := "sel.go:74", after := #[{ on := 1, ground := Ground.data }], guard := none }
abbrev kas3 : Oper := { dst := some 17, op := Op.load 24 (Operand.tmp 16), type := 24, pos := "sel.go:74", after := #[{ on := 2, ground := Ground.data }], guard := none }
abbrev kas4 : Oper := { dst := some 18, op := Op.load 43 (Operand.tmp 4), type := 43, pos := "sel.go:74", after := #[], guard := none }
abbrev kas5 : Oper := { dst := some 19, op := Op.call { callee := Callee.value (Operand.func 43), args := #[Operand.tmp 17, Operand.tmp 18], argTypes := #[24, 43] }, type := 33, pos := "sel.go:74", after := #[{ on := 3, ground := Ground.data }, { on := 4, ground := Ground.data }], guard := none }
abbrev kas6 : Oper := { dst := some 20, op := Op.call { callee := Callee.builtin Builtin.len, args := #[Operand.tmp 19], argTypes := #[33] }, type := 3, pos := "sel.go:74", after := #[{ on := 5, ground := Ground.data }], guard := none }
abbrev kas7 : Oper := { dst := some 21, op := Op.binOp BinOp.gtr 3 (Operand.tmp 20) (Operand.const (Value.int IntKind.i64 0)) 3, type := 4, pos := "sel.go:74", after := #[{ on := 6, ground := Ground.data }], guard := none }

/-- what is known of the arms -/
structure AmOk (x : Am) : Prop where
  h1 : UsW x.h.1
  h2 : UsW x.h.2
  v0 : I64 x.v.n
  v1 : UsW x.v.s
  v2 : UsW x.v.g
/-- arms that are handed in: their value -/
structure ArmsIn (w : World) (a : Option Addr) (g : Nat) (az : List Am) : Prop where
  addr : 0 < az.length → a = some ⟨g, 0, none⟩
  mem : AmL w g az
theorem ArmsIn.ch {Q : Nat → Prop} {w w' : World} {a : Option Addr} {g : Nat} {az : List Am} (h : ArmsIn w a g az) (hc : Ch Q w w') (hq : ¬ Q g) : ArmsIn w' a g az := ⟨h.addr, h.mem.ch hc hq⟩
theorem plA_small (l : List Wt) (ks : List Kn) (az : List Am) : (plA l ks az).1.length ≤ 50 := by
  unfold plA lkA
  split
  · simp
  · split
    · simp
    · have := idxA_len l ks 0 az
      show (idxA l ks 0 az).length ≤ 50
      omega
theorem akA_small (l : List Wt) (ks : List Kn) (g : Hnd) (az : List Am) : (akA l ks g az).1.length ≤ 50 := by
  unfold akA
  split
  · simp
  · split
    · simp
    · exact plA_small l ks az

section
variable {w : World} {B c bp s g cap : Nat} {l : List Wt} {ks : List Kn} {G : Nat → Prop} {az : List Am} {a : Option Addr}

set_option maxRecDepth 100000 in
set_option maxHeartbeats 8000000 in
theorem poll_is (h : SW w B c bp l ks G) (hl : l.length ≤ 100000) (hs : SelAt w s c bp) (hA : ArmsIn w a g az) (hu : ∀ x ∈ az, AmOk x) (hb0 : az.length ≤ 1000000) :
    Calls Try.prog 44 #[.pointer (some ⟨s, 0, none⟩), .slice a az.length cap] w fun e w' => ∃ v, e = .returned (.tuple #[v, .int .i64 (plA l ks az).2]) ∧ InRow w' w.heap.size v (plA l ks az).1 ∧ Below w.heap.size w w' := by
  have H := hide h
  have HS := hide hs
  have HA := hide hA
  have HU := hide hu
  clear h hs hA hu
  by_cases hb : 50 < az.length
  · have hp : plA l ks az = ([], 151) := by unfold plA; rw [if_pos hb]
    have HP := hide hp
    have hb2 : (az.length : Int) > 50 := by omega
    clear hp hb
    go_enter Try.func44, Try.ntmps44
    go_wp2_with fail
    go_ret2
    rw [HP.out]
    exact ⟨_, rfl, Row.nil _ _, Below.refl _ _⟩
  · have hp : plA l ks az = lkA l ks az := by unfold plA; rw [if_neg hb]
    have HP := hide hp
    have HB := hide hb
    have hb2 : ¬ (az.length : Int) > 50 := by omega
    clear hp hb
    go_enter Try.func44, Try.ntmps44
    go_wp2_with fail
    refine (look_is (cap := cap) H.out hl HS.out HA.out.addr HA.out.mem (by have := HB.out; omega) (fun x hx => ⟨(HU.out x hx).h1, (HU.out x hx).h2⟩)).mono ?_
    rintro e w' ⟨v, rfl, hr, hbw⟩
    have HR := hide hr
    have HW := hide hbw
    clear hr hbw
    go_wp2_with fail
    go_ret2
    rw [HP.out]
    exact ⟨_, rfl, HR.out, HW.out⟩

set_option maxRecDepth 100000 in
set_option maxHeartbeats 8000000 in
theorem asked_is (h : SW w B c bp l ks G) (hl : l.length ≤ 100000) (hs : SelAt w s c bp) (hA : ArmsIn w a g az) (hu : ∀ x ∈ az, AmOk x) (hb0 : az.length ≤ 1000000) {gr : Hnd} (g1 : UsW gr.1) (g2 : UsW gr.2) :
    Calls Try.prog 86 #[.pointer (some ⟨s, 0, none⟩), hkV gr, .slice a az.length cap] w fun e w' => ∃ v, e = .returned (.tuple #[v, .int .i64 (akA l ks gr az).2]) ∧ InRow w' w.heap.size v (akA l ks gr az).1 ∧ Below w.heap.size w w' := by
  obtain ⟨w1, hw1⟩ : ∃ w1, w.alloc (.cells #[.int .u32 gr.1, .int .u32 gr.2] 43) = w1 := ⟨_, rfl⟩
  have hb1 : Below w.heap.size w w1 := by rw [← hw1]; exact below1 _ _
  have hn1 : w1.heap[w.heap.size]? = some (.cells #[.int .u32 gr.1, .int .u32 gr.2] 43 (0, 0)) := by rw [← hw1]; exact heap_new _ _
  have HB1 := hide hb1
  have HN1 := hide hn1
  have H := hide (h.below hb1)
  have HS := hide (show SelAt w1 s c bp from (Ch.of_below (Q := fun _ => False) hb1).box hs (fun h => h))
  have HA := hide (hA.ch (Ch.of_below (Q := fun _ => False) hb1) (fun h => h))
  have HU := hide hu
  have k0 : w1.cell? ⟨w.heap.size, 0, none⟩ = some (.int .u32 gr.1) := by simp [Lib.cell_of_heap hn1]
  have k1 : w1.cell? ⟨w.heap.size, 1, none⟩ = some (.int .u32 gr.2) := by simp [Lib.cell_of_heap hn1]
  clear h hs hA hu hb1 hn1
  go_enter Try.func86, Try.ntmps86
  go_wp2_with fail
  clear hw1
  refine (snone_is w1 gr.1 gr.2).mono ?_
  rintro e w2 ⟨rfl, hb⟩
  have C2 := hide (Ch.of_below (Q := fun _ => False) hb)
  have HB2 := hide (HB1.out.trans (hb.mono HB1.out.size))
  have HN2 := hide (C2.out.box HN1.out (fun h => h))
  clear hb k0 k1
  rw [show (decide (gr.1 = 0) && decide (gr.2 = 0)) = nnH gr from rfl]
  cases hnn : nnH gr with
  | true =>
    have HP := hide (show akA l ks gr az = ([], 1) from by unfold akA; rw [if_pos hnn])
    clear hnn
    go_wp2_with fail
    go_ret2
    rw [HP.out]
    exact ⟨_, rfl, Row.nil _ _, HB2.out⟩
  | false =>
    have HN := hide hnn
    clear hnn
    go_wp2_with fail
    refine wp_reg (fun _ => False) (R := fun V => Ch (fun _ => False) w2 V) (by kernel_rfl) (Ch.drew _) (fun V cV zk => ?_)
    have CV := hide (C2.out.trans cV (fun _ _ h => h))
    have BE := hide (HB2.out.trans (cV.below (N := w.heap.size) HB2.out.size (fun _ _ h => h)))
    clear cV
    have HXX := hide (fun wq (kq : Ch (fun _ => False) V wq) => show (wq.cell? ⟨s, 0, none⟩ = some (.pointer (some ⟨c, 0, none⟩)) ∧ wq.cell? ⟨s, 1, none⟩ = some (.pointer (some ⟨bp, 0, none⟩))) ∧ wq.cell? ⟨w.heap.size, 0, none⟩ = some (.int .u32 gr.1) ∧ wq.cell? ⟨w.heap.size, 1, none⟩ = some (.int .u32 gr.2) from by
      have e0 := Lib.cell_of_heap ((CV.out.trans kq (fun _ _ h => h)).box HS.out (fun h => h))
      have e1 := Lib.cell_of_heap ((CV.out.trans kq (fun _ _ h => h)).box HN1.out (fun h => h))
      exact ⟨⟨by simp [e0], by simp [e0]⟩, by simp [e1], by simp [e1]⟩)
    obtain ⟨F, hpt, -⟩ := (H.out.quiet CV.out).book
    have HPT := hide hpt
    clear hpt
    apply tk 0 kas0 rfl (by kernel_rfl) (fun _ _ _ h => h) zk
    · intro wq zq
      go_simp
      try rfl
    go_frame
    apply tk 1 kas1 rfl (by kernel_rfl) (fun _ _ _ h => h) zk
    · intro wq zq
      go_simp
      try rfl
    go_frame
    apply tk 2 kas2 rfl (by kernel_rfl) (fun _ _ _ h => h) zk
    · intro wq zq
      go_simp
      try rfl
    go_frame
    apply tk 3 kas3 rfl (by kernel_rfl) (fun _ _ _ h => h) zk
    · intro wq zq
      obtain ⟨⟨s0, s1⟩, s2, s3⟩ := HXX.out _ zq
      go_simp
      try rfl
    go_frame
    apply tk 4 kas4 rfl (by kernel_rfl) (fun _ _ _ h => h) zk
    · intro wq zq
      obtain ⟨⟨s0, s1⟩, s2, s3⟩ := HXX.out _ zq
      go_simp
      try rfl
    go_frame
    refine Go.Proofs.Ytbblmbbpicinlaa.rd 5 kas5 rfl (by kernel_rfl) fun K hK => ?_
    go_simp
    refine (face.of gr.1 gr.2 g1 g2 (face.ch HPT.out zk (fun _ _ h => h)) hl).mono ?_
    rintro e W5 ⟨v5, rfl, hr5, hb5⟩
    obtain ⟨a5, c5, rfl, -, -⟩ := hr5.form
    have Z5 := hide (zk.trans (Ch.of_below (Q := fun _ => False) hb5) (fun _ _ h => h))
    clear hb5 hr5
    go_wp2_with fail
    refine hK.out _ _ ?_ (fun zk => ?_)
    · exact Z5.out
    clear hK K
    try go_frame
    have HL := hide zk
    by_cases hq : 0 < (sel (isWho gr.1 gr.2) l).length
    · have HP := hide (show akA l ks gr az = ([], 143) from by unfold akA; rw [HN.out, if_neg (by decide), if_pos hq])
      clear HL
      have hq2 : ((sel (isWho gr.1 gr.2) l).length : Int) > 0 := by omega
      clear hq
      apply tk 6 kas6 rfl (by kernel_rfl) (fun _ _ _ h => h) zk
      · intro wq zq
        go_simp
        try rfl
      go_frame
      apply tk 7 kas7 rfl (by kernel_rfl) (fun _ _ _ h => h) zk
      · intro wq zq
        go_simp
        try rfl
      go_frame
      refine wpAnyH_done (by kernel_rfl) ?_ _
      have Z9 := hide zk
      clear zk
      go_wp2_with fail
      go_ret2
      rw [HP.out]
      exact ⟨_, rfl, Row.nil _ _, BE.out.trans (Z9.out.below (N := w.heap.size) BE.out.size (fun _ _ h => h))⟩
    · have HP := hide (show akA l ks gr az = plA l ks az from by unfold akA; rw [HN.out, if_neg (by decide), if_neg hq])
      clear HL
      have hq2 : ¬ ((sel (isWho gr.1 gr.2) l).length : Int) > 0 := by omega
      clear hq
      apply tk 6 kas6 rfl (by kernel_rfl) (fun _ _ _ h => h) zk
      · intro wq zq
        go_simp
        try rfl
      go_frame
      apply tk 7 kas7 rfl (by kernel_rfl) (fun _ _ _ h => h) zk
      · intro wq zq
        go_simp
        try rfl
      go_frame
      refine wpAnyH_done (by kernel_rfl) ?_ _
      have Z9 := hide zk
      clear zk
      have C9 := hide (CV.out.trans Z9.out (fun _ _ h => h))
      go_wp2_with fail
      refine (poll_is (cap := cap) (H.out.quiet C9.out) hl ((show SelAt _ s c bp from C9.out.box HS.out (fun h => h))) (HA.out.ch C9.out (fun h => h)) HU.out hb0).mono ?_
      rintro e w9 ⟨v, rfl, hr, hbw⟩
      have HR := hide hr
      have HW := hide hbw
      have BE9 := hide (BE.out.trans (Z9.out.below (N := w.heap.size) BE.out.size (fun _ _ h => h)))
      clear hr hbw
      go_wp2_with fail
      go_ret2
      rw [HP.out]
      exact ⟨_, rfl, rowLow HR.out BE9.out.size, BE9.out.trans (HW.out.mono BE9.out.size)⟩
end

end Go.Proofs.Ytbblmbbpicinlaa

namespace Go.Proofs.Ytbblmbbpicinlaa
open Go.RowKit

abbrev kta0 : Oper := { dst := some 35, op := Op.move (Operand.tmp 0), type := 87, pos := "sel.go:48", after := #[], guard := none }
abbrev kta1 : Oper := { dst := some 36, op := Op.nilCheck (Operand.tmp 35), type := 0, pos := "sel.go:48", after := #[{ on := 0, ground := Ground.data }], guard := none }
abbrev kta2 : Oper := { dst := some 37, op := Op.fieldAddr 181 (Operand.tmp 36) 0, type := 0, pos := "sel.go:48", after := #[{ on := 1, ground := Ground.data }], guard := none }
abbrev kta3 : Oper := { dst := some 38, op := Op.load 26 (Operand.tmp 37), type := 26, pos := "sel.go:48", after := #[{ on := 2, ground := Ground.data }], guard := none }
abbrev kta4 : Oper := { dst := some 39, op := Op.load 43 (Operand.tmp 5), type := 43, pos := "sel.go:48", after := #[], guard := none }
abbrev kta5 : Oper := { dst := some 40, op := Op.fieldAddr 105 (Operand.tmp 12) 0, type := 0, pos := "sel.go:48", after := #[], guard := none }
abbrev kta6 : Oper := { dst := some 41, op := Op.load 43 (Operand.tmp 40), type := 43, pos := "sel.go:48", after := #[{ on := 5, ground := Ground.data }], guard := none }
abbrev kta7 : Oper := { dst := some 42, op := Op.fieldAddr 105 (Operand.tmp 12) 2, type := 0, pos := "sel.go:48", after := #[], guard := none }
abbrev kta8 : Oper := { dst := some 43, op := Op.load 46 (Operand.tmp 42), type := 46, pos := "sel.go:48", after := #[{ on := 7, ground := Ground.data }], guard := none }
abbrev kta9 : Oper := { dst := some 44, op := Op.call { callee := Callee.value (Operand.func 25), args := #[Operand.tmp 38, Operand.tmp 39, Operand.tmp 41, Operand.tmp 43], argTypes := #[26, 43, 43, 46] }, type := 73, pos := "sel.go:48", after := #[{ on := 3, ground := Ground.data }, { on := 4, ground := Ground.data }, { on := 6, ground := Ground.data }, { on := 8, ground := Ground.data }], guard := none }
abbrev kta10 : Oper := { dst := some 45, op := Op.extract (Operand.tmp 44) 0, type := 72, pos := "sel.go:48", after := #[{ on := 9, ground := Ground.data }], guard := none }
abbrev kta11 : Oper := { dst := some 46, op := Op.extract (Operand.tmp 44) 1, type := 27, pos := "sel.go:48", after := #[{ on := 9, ground := Ground.data }], guard := none }
abbrev kta12 : Oper := { dst := none, op := Op.store 72 (Operand.tmp 8) (Operand.tmp 45), type := 0, pos := "sel.go:48", after := #[{ on := 10, ground := Ground.data }, { on := 9, ground := Ground.chain }, { on := 0, ground := Ground.phase }, { on := 1, ground := Ground.phase }, { on := 2, ground := Ground.phase }, { on := 3, ground := Ground.phase }, { on := 4, ground := Ground.phase }, { on := 5, ground := Ground.phase }, { on := 6, ground := Ground.phase }, { on := 7, ground := Ground.phase }, { on := 8, ground := Ground.phase }, { on := 9, ground := Ground.phase }, { on := 10, ground := Ground.phase }, { on := 11, ground := Ground.phase }], guard := none }
abbrev kta13 : Oper := { dst := some 9, op := Op.assign (Operand.tmp 46), type := 27, pos := "sel.go:48", after := #[{ on := 11, ground := Ground.data }, { on := 12, ground := Ground.chain }, { on := 0, ground := Ground.phase }, { on := 1, ground := Ground.phase }, { on := 2, ground := Ground.phase }, { on := 3, ground := Ground.phase }, { on := 4, ground := Ground.phase }, { on := 5, ground := Ground.phase }, { on := 6, ground := Ground.phase }, { on := 7, ground := Ground.phase }, { on := 8, ground := Ground.phase }, { on := 9, ground := Ground.phase }, { on := 10, ground := Ground.phase }, { on := 11, ground := Ground.phase }, { on := 12, ground := Ground.phase }], guard := none }
abbrev ktb0 : Oper := { dst := some 47, op := Op.move (Operand.tmp 0), type := 87, pos := "sel.go:50", after := #[], guard := none }
abbrev ktb1 : Oper := { dst := some 48, op := Op.nilCheck (Operand.tmp 47), type := 0, pos := "sel.go:50", after := #[{ on := 0, ground := Ground.data }], guard := none }
abbrev ktb2 : Oper := { dst := some 49, op := Op.fieldAddr 181 (Operand.tmp 48) 0, type := 0, pos := "sel.go:50", after := #[{ on := 1, ground := Ground.data }], guard := none }
abbrev ktb3 : Oper := { dst := some 50, op := Op.load 26 (Operand.tmp 49), type := 26, pos := "sel.go:50", after := #[{ on := 2, ground := Ground.data }], guard := none }
abbrev ktb4 : Oper := { dst := some 51, op := Op.load 43 (Operand.tmp 5), type := 43, pos := "sel.go:50", after := #[], guard := none }
abbrev ktb5 : Oper := { dst := some 52, op := Op.fieldAddr 105 (Operand.tmp 12) 0, type := 0, pos := "sel.go:50", after := #[], guard := none }
abbrev ktb6 : Oper := { dst := some 53, op := Op.load 43 (Operand.tmp 52), type := 43, pos := "sel.go:50", after := #[{ on := 5, ground := Ground.data }], guard := none }
abbrev ktb7 : Oper := { dst := some 54, op := Op.call { callee := Callee.value (Operand.func 21), args := #[Operand.tmp 50, Operand.tmp 51, Operand.tmp 53], argTypes := #[26, 43, 43] }, type := 73, pos := "sel.go:50", after := #[{ on := 3, ground := Ground.data }, { on := 4, ground := Ground.data }, { on := 6, ground := Ground.data }], guard := none }
abbrev ktb8 : Oper := { dst := some 55, op := Op.extract (Operand.tmp 54) 0, type := 72, pos := "sel.go:50", after := #[{ on := 7, ground := Ground.data }], guard := none }
abbrev ktb9 : Oper := { dst := some 56, op := Op.extract (Operand.tmp 54) 1, type := 27, pos := "sel.go:50", after := #[{ on := 7, ground := Ground.data }], guard := none }
abbrev ktb10 : Oper := { dst := none, op := Op.store 72 (Operand.tmp 8) (Operand.tmp 55), type := 0, pos := "sel.go:50", after := #[{ on := 8, ground := Ground.data }, { on := 7, ground := Ground.chain }, { on := 0, ground := Ground.phase }, { on := 1, ground := Ground.phase }, { on := 2, ground := Ground.phase }, { on := 3, ground := Ground.phase }, { on := 4, ground := Ground.phase }, { on := 5, ground := Ground.phase }, { on := 6, ground := Ground.phase }, { on := 7, ground := Ground.phase }, { on := 8, ground := Ground.phase }, { on := 9, ground := Ground.phase }], guard := none }
abbrev ktb11 : Oper := { dst := some 9, op := Op.assign (Operand.tmp 56), type := 27, pos := "sel.go:50", after := #[{ on := 9, ground := Ground.data }, { on := 10, ground := Ground.chain }, { on := 0, ground := Ground.phase }, { on := 1, ground := Ground.phase }, { on := 2, ground := Ground.phase }, { on := 3, ground := Ground.phase }, { on := 4, ground := Ground.phase }, { on := 5, ground := Ground.phase }, { on := 6, ground := Ground.phase }, { on := 7, ground := Ground.phase }, { on := 8, ground := Ground.phase }, { on := 9, ground := Ground.phase }, { on := 10, ground := Ground.phase }], guard := none }

theorem idxA_mem {l : List Wt} {ks : List Kn} : ∀ {i : Nat} {r : List Am} {j : Nat}, j ∈ idxA l ks i r → ∃ m, ∃ hm : m < r.length, j = i + m ∧ nnH r[m].h = false ∧ rdA l ks r[m] = true
  | _, [], _, h => by cases h
  | i, a :: r, j, h => by
    rw [idxA] at h
    split at h
    · rename_i hc
      rcases List.mem_cons.1 h with rfl | h
      · simp only [Bool.and_eq_true, Bool.not_eq_true'] at hc
        exact ⟨0, by simp, rfl, hc.1, hc.2⟩
      · obtain ⟨m, hm, e, h1, h2⟩ := idxA_mem h
        exact ⟨m + 1, by simpa using hm, by omega, h1, h2⟩
    · obtain ⟨m, hm, e, h1, h2⟩ := idxA_mem h
      exact ⟨m + 1, by simpa using hm, by omega, h1, h2⟩
theorem akA_ok {l : List Wt} {ks : List Kn} {g : Hnd} {az : List Am} (h : (akA l ks g az).2 = 0) : nnH g = false ∧ sel (isWho g.1 g.2) l = [] ∧ az.length ≤ 50 ∧ (∀ x ∈ az, badA ks x = false) ∧ (akA l ks g az).1 = idxA l ks 0 az := by
  unfold akA at h ⊢
  by_cases h1 : nnH g = true
  · rw [if_pos h1] at h; exact absurd h (by decide)
  · rw [if_neg h1] at h ⊢
    by_cases h2 : 0 < (sel (isWho g.1 g.2) l).length
    · rw [if_pos h2] at h; exact absurd h (by decide)
    · rw [if_neg h2] at h ⊢
      unfold plA at h ⊢
      by_cases h3 : 50 < az.length
      · rw [if_pos h3] at h; exact absurd h (by decide)
      · rw [if_neg h3] at h ⊢
        unfold lkA at h ⊢
        by_cases h4 : az.any (badA ks) = true
        · rw [if_pos h4] at h; exact absurd h (by decide)
        · rw [if_neg h4] at h ⊢
          refine ⟨by simpa using h1, List.eq_nil_of_length_eq_zero (by omega), by omega, fun x hx => ?_, rfl⟩
          have : az.any (badA ks) = false := by simpa using h4
          rw [List.any_eq_false] at this
          simpa using this x hx
theorem rdA_some {l : List Wt} {ks : List Kn} {x : Am} (h : rdA l ks x = true) : ∃ k, fnk ks x.h = some k := by
  unfold rdA fkS fkR at h
  cases hk : fnk ks x.h with
  | none => rw [hk] at h; split at h <;> cases h
  | some k => exact ⟨k, rfl⟩
/-- an arm is taken -/
def tkK (l : List Wt) (k : Kn) (gr : Hnd) (x : Am) : Dd × List Wt × Kn := if x.sd then sndK l k gr x.v else rcvK l k gr

theorem AnsK.up {w V w6 w' : World} {B c bp A : Nat} {G : Nat → Prop} {l l' : List Wt} {ks ks' : List Kn} {wk : List Wk} {sv : Value} (h : SW w B c bp l ks G) (ha : AnsK V w6 B c bp G l' ks' wk sv) (cV : Ch (fun _ => False) w V) (hA : w.heap.size ≤ A) (hA2 : A < V.heap.size) (cA : Ch (fun y => y = A) w6 w') : AnsK w w' B c bp G l' ks' wk sv := by
  obtain ⟨⟨G', hs, hd⟩, hr, hc⟩ := ha
  have nA : ∀ y, G' y → ¬ y = A := fun y hy e => by
    rcases hd y hy with hy | hy
    · have := (h.foot hy).2; omega
    · omega
  refine ⟨⟨G', hs.frame cA nA, fun y hy => (hd y hy).imp_right fun e => Nat.le_trans cV.size e⟩, Row.ch (rowLow hr cV.size) cA (fun g hg e => by have := (own_in hr hg).1; omega), ?_⟩
  exact ((cV.mono (Q' := G) (fun _ _ h => h.elim)).trans hc (fun _ _ h => h)).trans cA (fun y hy e => by omega)

theorem res_Take (tm : Array Value) (A : Nat) (Z : World) (fate n a b : Int) (ok : Bool) (wk : Value) (q : Int) (h2 : tm[8]?.getD undef = .pointer (some ⟨A, 0, none⟩)) (h3 : tm[9]?.getD undef = .int .i64 q) (hb : Z.heap[A]? = some (.cells #[.int .i64 fate, .int .i64 n, .int .u32 a, .int .u32 b, .bool ok, wk] 72 (0, 0))) :
    (results Try.f46 tm).run Try.prog Z = .ok (.tuple #[didV fate ⟨n, a, b⟩ ok wk, .int .i64 q]) Z := by
  have e := Lib.cell_of_heap hb
  simp [results, Try.f46, h2, h3, go_sem, e]

section
variable {w : World} {B c bp s g cap : Nat} {l : List Wt} {ks : List Kn} {G : Nat → Prop} {az : List Am} {a : Option Addr}

set_option maxRecDepth 100000 in
set_option maxHeartbeats 16000000 in
theorem take_err (h : SW w B c bp l ks G) (hl : l.length ≤ 100000) (hs : SelAt w s c bp) (hA : ArmsIn w a g az) (hu : ∀ x ∈ az, AmOk x) (hb0 : az.length ≤ 1000000) {gr : Hnd} (g1 : UsW gr.1) (g2 : UsW gr.2) {i : Int} {q : Int} (he : (akA l ks gr az).2 = q) (hq : q ≠ 0) :
    Calls Try.prog 46 #[.pointer (some ⟨s, 0, none⟩), hkV gr, .slice a az.length cap, .int .i64 i] w fun e w' => e = .returned (.tuple #[didV 0 zVa false (.slice none 0 0), .int .i64 q]) ∧ Below w.heap.size w w' := by
  obtain ⟨w1, hw1⟩ : ∃ w1, w.alloc (.cells #[.int .u32 gr.1, .int .u32 gr.2] 43) = w1 := ⟨_, rfl⟩
  obtain ⟨w2, hw2⟩ : ∃ w2, w1.alloc (.cells #[.int .i64 0, .int .i64 0, .int .u32 0, .int .u32 0, .bool false, .slice none 0 0] 72) = w2 := ⟨_, rfl⟩
  have hz1 : w1.heap.size = w.heap.size + 1 := by rw [← hw1, World.size_alloc]
  have hz2 : w2.heap.size = w1.heap.size + 1 := by rw [← hw2, World.size_alloc]
  have HZ := hide (And.intro hz1 hz2)
  have C1 : Ch (fun _ => False) w w1 := by rw [← hw1]; exact Ch.alloc _ _
  have C12 : Ch (fun _ => False) w1 w2 := by rw [← hw2]; exact Ch.alloc _ _
  have C2 := hide (C1.trans C12 (fun _ _ h => h))
  have hn1 : w2.heap[w.heap.size]? = some (.cells #[.int .u32 gr.1, .int .u32 gr.2] 43 (0, 0)) := C12.box (by rw [← hw1]; exact heap_new _ _) (fun h => h)
  have HN1 := hide hn1
  have HN2 := hide (show w2.heap[w1.heap.size]? = some (.cells #[.int .i64 0, .int .i64 0, .int .u32 0, .int .u32 0, .bool false, .slice none 0 0] 72 (0, 0)) by rw [← hw2]; exact heap_new _ _)
  have H0 := hide h
  have H := hide (h.quiet C2.out)
  have HS := hide (show SelAt w2 s c bp from C2.out.box hs (fun h => h))
  have HA := hide (hA.ch C2.out (fun h => h))
  have HU := hide hu
  have k0 : w2.cell? ⟨w.heap.size, 0, none⟩ = some (.int .u32 gr.1) := by simp [Lib.cell_of_heap hn1]
  have k1 : w2.cell? ⟨w.heap.size, 1, none⟩ = some (.int .u32 gr.2) := by simp [Lib.cell_of_heap hn1]
  clear h hs hA hu hn1 C1 C12 hz1 hz2
  go_enter Try.func46, Try.ntmps46
  go_wp2_with fail
  clear hw1 hw2
  refine (asked_is (cap := cap) H.out hl HS.out HA.out HU.out hb0 g1 g2).mono ?_
  rintro e w3 ⟨v3, rfl, hr3, hb3⟩
  have C3 := hide (C2.out.trans (Ch.of_below (Q := fun _ => False) hb3) (fun _ _ h => h))
  have D3 := hide (Ch.of_below (Q := fun _ => False) hb3)
  have R3 := hide hr3
  clear hb3 k0 k1 hr3
  rw [he]
  have hq2 : (q == 0) = false := by simpa using hq
  clear he hq
  have n3 := D3.out.box HN2.out (fun h => h)
  have z0 : w3.cell? ⟨w1.heap.size, 0, none⟩ = some (.int .i64 0) := by simp [Lib.cell_of_heap n3]
  have z1 : w3.cell? ⟨w1.heap.size, 1, none⟩ = some (.int .i64 0) := by simp [Lib.cell_of_heap n3]
  have z2 : w3.cell? ⟨w1.heap.size, 2, none⟩ = some (.int .u32 0) := by simp [Lib.cell_of_heap n3]
  have z3 : w3.cell? ⟨w1.heap.size, 3, none⟩ = some (.int .u32 0) := by simp [Lib.cell_of_heap n3]
  have z4 : w3.cell? ⟨w1.heap.size, 4, none⟩ = some (.bool false) := by simp [Lib.cell_of_heap n3]
  have z5 : w3.cell? ⟨w1.heap.size, 5, none⟩ = some (.slice none 0 0) := by simp [Lib.cell_of_heap n3]
  have zf : ∀ j, w3.frozen? ⟨w1.heap.size, j, none⟩ = false := frz n3
  have HSE := hide (did_set n3 (.int .i64 0) (.int .i64 0) (.int .u32 0) (.int .u32 0) (.bool false) (.slice none 0 0))
  clear n3
  go_wp2_with fail
  refine bodyPost_ret (v := .tuple #[didV 0 zVa false (.slice none 0 0), .int .i64 q]) (res_Take _ w1.heap.size _ 0 0 0 0 false _ q rfl rfl HSE.out.1) rfl ⟨rfl, ?_⟩
  have hz := HZ.out
  exact (C3.out.trans HSE.out.2 (fun y hy e => (show y ≠ w1.heap.size by omega) e)).below (N := w.heap.size) (Nat.le_refl _) (fun _ _ h => h)

set_option maxRecDepth 100000 in
set_option maxHeartbeats 16000000 in
theorem take_arm (h : SW w B c bp l ks G) (hl : l.length ≤ 100000) (hs : SelAt w s c bp) (hA : ArmsIn w a g az) (hu : ∀ x ∈ az, AmOk x) (hb0 : az.length ≤ 1000000) {gr : Hnd} (g1 : UsW gr.1) (g2 : UsW gr.2) {i : Int} (he : (akA l ks gr az).2 = 0) (hi : inN (akA l ks gr az).1 i = false) :
    Calls Try.prog 46 #[.pointer (some ⟨s, 0, none⟩), hkV gr, .slice a az.length cap, .int .i64 i] w fun e w' => e = .returned (.tuple #[didV 0 zVa false (.slice none 0 0), .int .i64 152]) ∧ Below w.heap.size w w' := by
  obtain ⟨w1, hw1⟩ : ∃ w1, w.alloc (.cells #[.int .u32 gr.1, .int .u32 gr.2] 43) = w1 := ⟨_, rfl⟩
  obtain ⟨w2, hw2⟩ : ∃ w2, w1.alloc (.cells #[.int .i64 0, .int .i64 0, .int .u32 0, .int .u32 0, .bool false, .slice none 0 0] 72) = w2 := ⟨_, rfl⟩
  have hz1 : w1.heap.size = w.heap.size + 1 := by rw [← hw1, World.size_alloc]
  have hz2 : w2.heap.size = w1.heap.size + 1 := by rw [← hw2, World.size_alloc]
  have HZ := hide (And.intro hz1 hz2)
  have C1 : Ch (fun _ => False) w w1 := by rw [← hw1]; exact Ch.alloc _ _
  have C12 : Ch (fun _ => False) w1 w2 := by rw [← hw2]; exact Ch.alloc _ _
  have C2 := hide (C1.trans C12 (fun _ _ h => h))
  have hn1 : w2.heap[w.heap.size]? = some (.cells #[.int .u32 gr.1, .int .u32 gr.2] 43 (0, 0)) := C12.box (by rw [← hw1]; exact heap_new _ _) (fun h => h)
  have HN1 := hide hn1
  have HN2 := hide (show w2.heap[w1.heap.size]? = some (.cells #[.int .i64 0, .int .i64 0, .int .u32 0, .int .u32 0, .bool false, .slice none 0 0] 72 (0, 0)) by rw [← hw2]; exact heap_new _ _)
  have H0 := hide h
  have H := hide (h.quiet C2.out)
  have HS := hide (show SelAt w2 s c bp from C2.out.box hs (fun h => h))
  have HA := hide (hA.ch C2.out (fun h => h))
  have HU := hide hu
  have k0 : w2.cell? ⟨w.heap.size, 0, none⟩ = some (.int .u32 gr.1) := by simp [Lib.cell_of_heap hn1]
  have k1 : w2.cell? ⟨w.heap.size, 1, none⟩ = some (.int .u32 gr.2) := by simp [Lib.cell_of_heap hn1]
  clear h hs hA hu hn1 C1 C12 hz1 hz2
  go_enter Try.func46, Try.ntmps46
  go_wp2_with fail
  clear hw1 hw2
  refine (asked_is (cap := cap) H.out hl HS.out HA.out HU.out hb0 g1 g2).mono ?_
  rintro e w3 ⟨v3, rfl, hr3, hb3⟩
  have C3 := hide (C2.out.trans (Ch.of_below (Q := fun _ => False) hb3) (fun _ _ h => h))
  have D3 := hide (Ch.of_below (Q := fun _ => False) hb3)
  have R3 := hide hr3
  clear hb3 k0 k1 hr3
  rw [he]
  have HI := hide hi
  clear he hi
  go_wp2_with fail
  refine (contains_is R3.out (by have := akA_small l ks gr az; omega) i).mono ?_
  rintro e w4 ⟨rfl, hb4⟩
  have C4 := hide (C3.out.trans (Ch.of_below (Q := fun _ => False) hb4) (fun _ _ h => h))
  have D4 := hide (D3.out.trans (Ch.of_below (Q := fun _ => False) hb4) (fun _ _ h => h))
  clear hb4
  rw [HI.out]
  have n3 := D4.out.box HN2.out (fun h => h)
  have z0 : w4.cell? ⟨w1.heap.size, 0, none⟩ = some (.int .i64 0) := by simp [Lib.cell_of_heap n3]
  have z1 : w4.cell? ⟨w1.heap.size, 1, none⟩ = some (.int .i64 0) := by simp [Lib.cell_of_heap n3]
  have z2 : w4.cell? ⟨w1.heap.size, 2, none⟩ = some (.int .u32 0) := by simp [Lib.cell_of_heap n3]
  have z3 : w4.cell? ⟨w1.heap.size, 3, none⟩ = some (.int .u32 0) := by simp [Lib.cell_of_heap n3]
  have z4 : w4.cell? ⟨w1.heap.size, 4, none⟩ = some (.bool false) := by simp [Lib.cell_of_heap n3]
  have z5 : w4.cell? ⟨w1.heap.size, 5, none⟩ = some (.slice none 0 0) := by simp [Lib.cell_of_heap n3]
  have zf : ∀ j, w4.frozen? ⟨w1.heap.size, j, none⟩ = false := frz n3
  have HSE := hide (did_set n3 (.int .i64 0) (.int .i64 0) (.int .u32 0) (.int .u32 0) (.bool false) (.slice none 0 0))
  clear n3
  go_wp2_with fail
  refine bodyPost_ret (v := .tuple #[didV 0 zVa false (.slice none 0 0), .int .i64 152]) (res_Take _ w1.heap.size _ 0 0 0 0 false _ 152 rfl rfl HSE.out.1) rfl ⟨rfl, ?_⟩
  have hz := HZ.out
  exact (C4.out.trans HSE.out.2 (fun y hy e => (show y ≠ w1.heap.size by omega) e)).below (N := w.heap.size) (Nat.le_refl _) (fun _ _ h => h)

set_option maxRecDepth 100000 in
set_option maxHeartbeats 16000000 in
theorem take_send (h : SW w B c bp l ks G) (hl : l.length ≤ 100000) (hs : SelAt w s c bp) (hA : ArmsIn w a g az) (hu : ∀ x ∈ az, AmOk x) (hb0 : az.length ≤ 1000000) {gr : Hnd} (g1 : UsW gr.1) (g2 : UsW gr.2) {i : Int} (wo : WtOk l) (he : (akA l ks gr az).2 = 0) {m : Nat} (hm : m < az.length) (him : i = (m : Int)) (hin : inN (akA l ks gr az).1 i = true) {x : Am} (hx : az[m] = x) (hsd : x.sd = true) (nn : nnH x.h = false) {k : Kn} (hk : fnk ks x.h = some k) :
    Calls Try.prog 46 #[.pointer (some ⟨s, 0, none⟩), hkV gr, .slice a az.length cap, .int .i64 i] w fun e w' => ∃ sv, e = .returned (.tuple #[ddV (sndK l k gr x.v).1 sv, .int .i64 0]) ∧ AnsK w w' B c bp G (sndK l k gr x.v).2.1 (setk ks (sndK l k gr x.v).2.2) (sndK l k gr x.v).1.wk sv := by
  obtain ⟨w1, hw1⟩ : ∃ w1, w.alloc (.cells #[.int .u32 gr.1, .int .u32 gr.2] 43) = w1 := ⟨_, rfl⟩
  obtain ⟨w2, hw2⟩ : ∃ w2, w1.alloc (.cells #[.int .i64 0, .int .i64 0, .int .u32 0, .int .u32 0, .bool false, .slice none 0 0] 72) = w2 := ⟨_, rfl⟩
  have hz1 : w1.heap.size = w.heap.size + 1 := by rw [← hw1, World.size_alloc]
  have hz2 : w2.heap.size = w1.heap.size + 1 := by rw [← hw2, World.size_alloc]
  have HZ := hide (And.intro hz1 hz2)
  have C1 : Ch (fun _ => False) w w1 := by rw [← hw1]; exact Ch.alloc _ _
  have C12 : Ch (fun _ => False) w1 w2 := by rw [← hw2]; exact Ch.alloc _ _
  have C2 := hide (C1.trans C12 (fun _ _ h => h))
  have hn1 : w2.heap[w.heap.size]? = some (.cells #[.int .u32 gr.1, .int .u32 gr.2] 43 (0, 0)) := C12.box (by rw [← hw1]; exact heap_new _ _) (fun h => h)
  have HN1 := hide hn1
  have HN2 := hide (show w2.heap[w1.heap.size]? = some (.cells #[.int .i64 0, .int .i64 0, .int .u32 0, .int .u32 0, .bool false, .slice none 0 0] 72 (0, 0)) by rw [← hw2]; exact heap_new _ _)
  have H0 := hide h
  have H := hide (h.quiet C2.out)
  have HS := hide (show SelAt w2 s c bp from C2.out.box hs (fun h => h))
  have HA := hide (hA.ch C2.out (fun h => h))
  have HU := hide hu
  have k0 : w2.cell? ⟨w.heap.size, 0, none⟩ = some (.int .u32 gr.1) := by simp [Lib.cell_of_heap hn1]
  have k1 : w2.cell? ⟨w.heap.size, 1, none⟩ = some (.int .u32 gr.2) := by simp [Lib.cell_of_heap hn1]
  clear h hs hA hu hn1 C1 C12 hz1 hz2
  obtain ⟨ng, nw, haz, -, -⟩ := akA_ok he
  have UX := hide (HU.out x (by rw [← hx]; exact List.getElem_mem hm))
  have HNG := hide (And.intro ng (And.intro nw nn))
  have HK := hide hk
  have HI := hide hin
  have HM := hide hm
  have HX := hide (show az[m]'(HM.out) = x from hx)
  have ha := HA.out.addr (by omega)
  have i1 : (m : Int) < (az.length : Int) := by omega
  have i0 : (0 : Int) ≤ (m : Int) := by omega
  have i2 : (m : Int) ≤ 1000000 := by omega
  subst ha
  subst him
  have HE := hide he
  have HB0 := hide hb0
  have HAZ := hide haz
  clear ng nw nn hk hin hx hm he haz
  go_enter Try.func46, Try.ntmps46
  go_wp2_with fail
  clear hw1 hw2
  refine (asked_is (cap := cap) H.out hl HS.out HA.out HU.out HB0.out g1 g2).mono ?_
  rintro e w3 ⟨v3, rfl, hr3, hb3⟩
  have C3 := hide (C2.out.trans (Ch.of_below (Q := fun _ => False) hb3) (fun _ _ h => h))
  have D3 := hide (Ch.of_below (Q := fun _ => False) hb3)
  have R3 := hide hr3
  clear hb3 k0 k1 hr3
  rw [HE.out]
  go_wp2_with fail
  refine (contains_is R3.out (by have := akA_small l ks gr az; omega) m).mono ?_
  rintro e w4 ⟨rfl, hb4⟩
  have C4 := hide (C3.out.trans (Ch.of_below (Q := fun _ => False) hb4) (fun _ _ h => h))
  have D4 := hide (D3.out.trans (Ch.of_below (Q := fun _ => False) hb4) (fun _ _ h => h))
  clear hb4
  rw [HI.out]
  obtain ⟨y0, y1, y2, y3, y4, y5⟩ := (HA.out.ch D4.out (fun h => h)).mem m HM.out
  rw [HX.out] at y0 y1 y2 y3 y4 y5
  rw [hsd] at y2
  have HSD := hide hsd
  clear hsd
  go_wp2_with fail
  obtain ⟨w5, hw5⟩ : ∃ z, w4.alloc (.cells #[.int .u32 x.h.1, .int .u32 x.h.2, .bool true, .int .i64 x.v.n, .int .u32 x.v.s, .int .u32 x.v.g] 105) = z := ⟨_, rfl⟩
  rw [hw5]
  have hn5 : w5.heap[w4.heap.size]? = some (.cells #[.int .u32 x.h.1, .int .u32 x.h.2, .bool true, .int .i64 x.v.n, .int .u32 x.v.s, .int .u32 x.v.g] 105 (0, 0)) := by rw [← hw5]; exact heap_new _ _
  have C45 : Ch (fun _ => False) w4 w5 := by rw [← hw5]; exact Ch.alloc _ _
  have C5 := hide (C4.out.trans C45 (fun _ _ h => h))
  have D5 := hide (D4.out.trans C45 (fun _ _ h => h))
  have S4 := hide D4.out.size
  clear hw5 C45 y0 y1 y2 y3 y4 y5
  have N5 := hide hn5
  clear hn5
  refine wp_reg (fun y => G y ∨ y = w1.heap.size) (R := fun V => Ch (fun _ => False) w5 V) (by kernel_rfl) (Ch.drew _) (fun V cV zk => ?_)
  have CV := hide (D5.out.trans cV (fun _ _ h => h))
  have CW := hide (C5.out.trans cV (fun _ _ h => h))
  have NV := hide (cV.box N5.out (fun h => h))
  clear cV
  have HV := hide (H0.out.quiet CW.out)
  have hz := HZ.out
  have s4 := S4.out
  have NG := hide (show ∀ y, w.heap.size ≤ y → y ≠ w1.heap.size → ¬ (G y ∨ y = w1.heap.size) from fun y hy hne e => e.elim (fun e => by have := (H0.out.foot e).2; omega) hne)
  have NS := hide (show ¬ (G s ∨ s = w1.heap.size) from fun e => e.elim (H.out.nbox HS.out (by decide) (by decide) (by decide) (by decide) (by decide) (by decide)) (fun e => by have h1 := HS.out; unfold SelAt at h1; rw [e, HN2.out] at h1; injection h1 with h1; injection h1 with _ h2 _; exact absurd h2 (by decide)))
  clear hz s4
  have HXX := hide (fun wq (kq : Ch (fun y => G y ∨ y = w1.heap.size) V wq) => show (wq.cell? ⟨s, 0, none⟩ = some (.pointer (some ⟨c, 0, none⟩)) ∧ wq.cell? ⟨s, 1, none⟩ = some (.pointer (some ⟨bp, 0, none⟩))) ∧ (wq.cell? ⟨w.heap.size, 0, none⟩ = some (.int .u32 gr.1) ∧ wq.cell? ⟨w.heap.size, 1, none⟩ = some (.int .u32 gr.2)) ∧ wq.cell? ⟨w4.heap.size, 0, none⟩ = some (.int .u32 x.h.1) ∧ wq.cell? ⟨w4.heap.size, 1, none⟩ = some (.int .u32 x.h.2) ∧ wq.cell? ⟨w4.heap.size, 3, none⟩ = some (.int .i64 x.v.n) ∧ wq.cell? ⟨w4.heap.size, 4, none⟩ = some (.int .u32 x.v.s) ∧ wq.cell? ⟨w4.heap.size, 5, none⟩ = some (.int .u32 x.v.g) from by
    have hz := HZ.out
    have s4 := S4.out
    have e0 := Lib.cell_of_heap (kq.box (CV.out.box HS.out (fun h => h)) NS.out)
    have e1 := Lib.cell_of_heap (kq.box (CV.out.box HN1.out (fun h => h)) (NG.out _ (Nat.le_refl _) (by omega)))
    have e2 := Lib.cell_of_heap (kq.box NV.out (NG.out _ (by omega) (by omega)))
    exact ⟨⟨by simp [e0], by simp [e0]⟩, ⟨by simp [e1], by simp [e1]⟩, by simp [e2], by simp [e2], by simp [e2], by simp [e2], by simp [e2]⟩)
  apply tk 0 kta0 rfl (by kernel_rfl) (fun _ _ _ h => h) zk
  · intro wq zq
    go_simp
    try rfl
  go_frame
  apply tk 1 kta1 rfl (by kernel_rfl) (fun _ _ _ h => h) zk
  · intro wq zq
    go_simp
    try rfl
  go_frame
  apply tk 2 kta2 rfl (by kernel_rfl) (fun _ _ _ h => h) zk
  · intro wq zq
    go_simp
    try rfl
  go_frame
  apply tk 3 kta3 rfl (by kernel_rfl) (fun _ _ _ h => h) zk
  · intro wq zq
    obtain ⟨⟨s0, s1⟩, ⟨s2, s3⟩, s4, s5, s6, s7, s8⟩ := HXX.out _ zq
    go_simp
    try rfl
  go_frame
  apply tk 4 kta4 rfl (by kernel_rfl) (fun _ _ _ h => h) zk
  · intro wq zq
    obtain ⟨⟨s0, s1⟩, ⟨s2, s3⟩, s4, s5, s6, s7, s8⟩ := HXX.out _ zq
    go_simp
    try rfl
  go_frame
  apply tk 5 kta5 rfl (by kernel_rfl) (fun _ _ _ h => h) zk
  · intro wq zq
    go_simp
    try rfl
  go_frame
  apply tk 6 kta6 rfl (by kernel_rfl) (fun _ _ _ h => h) zk
  · intro wq zq
    obtain ⟨⟨s0, s1⟩, ⟨s2, s3⟩, s4, s5, s6, s7, s8⟩ := HXX.out _ zq
    go_simp
    try rfl
  go_frame
  apply tk 7 kta7 rfl (by kernel_rfl) (fun _ _ _ h => h) zk
  · intro wq zq
    go_simp
    try rfl
  go_frame
  apply tk 8 kta8 rfl (by kernel_rfl) (fun _ _ _ h => h) zk
  · intro wq zq
    obtain ⟨⟨s0, s1⟩, ⟨s2, s3⟩, s4, s5, s6, s7, s8⟩ := HXX.out _ zq
    go_simp
    try rfl
  go_frame
  refine Go.Proofs.Ytbblmbbpicinlaa.rd 9 kta9 rfl (by kernel_rfl) fun K hK => ?_
  go_simp
  refine (sw_send HV.out hl wo HK.out HNG.out.2.2 HNG.out.1 HNG.out.2.1 UX.out.h1 UX.out.h2 g1 g2 UX.out.v0 UX.out.v1 UX.out.v2).mono ?_
  rintro e w6 ⟨sv, rfl, ha6⟩
  have A6 := hide ha6
  have Z6 := hide (zk.trans ha6.ch (fun _ _ h => .inl h))
  clear ha6
  obtain ⟨dd, hdd⟩ : ∃ d, (sndK l k gr x.v).1 = d := ⟨_, rfl⟩
  have HDD := hide hdd
  rw [hdd]
  clear hdd
  go_wp2_with fail
  refine hK.out _ _ ?_ (fun zk => ?_)
  · exact Z6.out
  clear hK K
  try go_frame
  apply tk 10 kta10 rfl (by kernel_rfl) (fun _ _ _ h => h) zk
  · intro wq zq
    go_simp
    try rfl
  go_frame
  apply tk 11 kta11 rfl (by kernel_rfl) (fun _ _ _ h => h) zk
  · intro wq zq
    go_simp
    try rfl
  go_frame
  have hz := HZ.out
  have n3 := A6.out.ch.box (CV.out.box HN2.out (fun h => h)) (fun e => by have := (H0.out.foot e).2; omega)
  have d0 : w6.cell? ⟨w1.heap.size, 0, none⟩ = some (.int .i64 0) := by simp [Lib.cell_of_heap n3]
  have d1 : w6.cell? ⟨w1.heap.size, 1, none⟩ = some (.int .i64 0) := by simp [Lib.cell_of_heap n3]
  have d2 : w6.cell? ⟨w1.heap.size, 2, none⟩ = some (.int .u32 0) := by simp [Lib.cell_of_heap n3]
  have d3 : w6.cell? ⟨w1.heap.size, 3, none⟩ = some (.int .u32 0) := by simp [Lib.cell_of_heap n3]
  have d4 : w6.cell? ⟨w1.heap.size, 4, none⟩ = some (.bool false) := by simp [Lib.cell_of_heap n3]
  have d5 : w6.cell? ⟨w1.heap.size, 5, none⟩ = some (.slice none 0 0) := by simp [Lib.cell_of_heap n3]
  have df : ∀ o, w6.frozen? ⟨w1.heap.size, o, none⟩ = false := fun o => by simp [World.frozen?, n3]
  have HSE := hide (did_set n3 (.int .i64 dd.f) (.int .i64 dd.v.n) (.int .u32 dd.v.s) (.int .u32 dd.v.g) (.bool dd.ok) sv)
  clear n3 hz
  obtain ⟨sva, svc, rfl, -⟩ := A6.out.row.form
  refine Go.Proofs.Ytbblmbbpicinlaa.rd 12 kta12 rfl (by kernel_rfl) fun K hK => ?_
  go_simp
  refine hK.out _ _ ?_ (fun zk => ?_)
  · exact zk.trans HSE.out.2 (fun y hy e => .inr e)
  clear hK K
  try go_frame
  apply tk 13 kta13 rfl (by kernel_rfl) (fun _ _ _ h => h) zk
  · intro wq zq
    go_simp
    try rfl
  go_frame
  refine wpAnyH_done (by kernel_rfl) ?_ _
  go_wp2
  have hz := HZ.out
  have hv := CV.out.size
  have A9 := hide (A6.out.up H0.out CW.out (by omega) (by omega) HSE.out.2)
  refine bodyPost_ret (v := .tuple #[ddV dd _, .int .i64 0]) (res_Take _ w1.heap.size _ dd.f dd.v.n dd.v.s dd.v.g dd.ok _ 0 rfl rfl HSE.out.1) rfl ?_
  have hdd := HDD.out
  clear HXX HV CV A6 HSE HDD
  subst hdd
  exact ⟨_, rfl, A9.out⟩

set_option maxRecDepth 100000 in
set_option maxHeartbeats 16000000 in
theorem take_recv (h : SW w B c bp l ks G) (hl : l.length ≤ 100000) (hs : SelAt w s c bp) (hA : ArmsIn w a g az) (hu : ∀ x ∈ az, AmOk x) (hb0 : az.length ≤ 1000000) {gr : Hnd} (g1 : UsW gr.1) (g2 : UsW gr.2) {i : Int} (wo : WtOk l) (he : (akA l ks gr az).2 = 0) {m : Nat} (hm : m < az.length) (him : i = (m : Int)) (hin : inN (akA l ks gr az).1 i = true) {x : Am} (hx : az[m] = x) (hsd : x.sd = false) (nn : nnH x.h = false) {k : Kn} (hk : fnk ks x.h = some k) :
    Calls Try.prog 46 #[.pointer (some ⟨s, 0, none⟩), hkV gr, .slice a az.length cap, .int .i64 i] w fun e w' => ∃ sv, e = .returned (.tuple #[ddV (rcvK l k gr).1 sv, .int .i64 0]) ∧ AnsK w w' B c bp G (rcvK l k gr).2.1 (setk ks (rcvK l k gr).2.2) (rcvK l k gr).1.wk sv := by
  obtain ⟨w1, hw1⟩ : ∃ w1, w.alloc (.cells #[.int .u32 gr.1, .int .u32 gr.2] 43) = w1 := ⟨_, rfl⟩
  obtain ⟨w2, hw2⟩ : ∃ w2, w1.alloc (.cells #[.int .i64 0, .int .i64 0, .int .u32 0, .int .u32 0, .bool false, .slice none 0 0] 72) = w2 := ⟨_, rfl⟩
  have hz1 : w1.heap.size = w.heap.size + 1 := by rw [← hw1, World.size_alloc]
  have hz2 : w2.heap.size = w1.heap.size + 1 := by rw [← hw2, World.size_alloc]
  have HZ := hide (And.intro hz1 hz2)
  have C1 : Ch (fun _ => False) w w1 := by rw [← hw1]; exact Ch.alloc _ _
  have C12 : Ch (fun _ => False) w1 w2 := by rw [← hw2]; exact Ch.alloc _ _
  have C2 := hide (C1.trans C12 (fun _ _ h => h))
  have hn1 : w2.heap[w.heap.size]? = some (.cells #[.int .u32 gr.1, .int .u32 gr.2] 43 (0, 0)) := C12.box (by rw [← hw1]; exact heap_new _ _) (fun h => h)
  have HN1 := hide hn1
  have HN2 := hide (show w2.heap[w1.heap.size]? = some (.cells #[.int .i64 0, .int .i64 0, .int .u32 0, .int .u32 0, .bool false, .slice none 0 0] 72 (0, 0)) by rw [← hw2]; exact heap_new _ _)
  have H0 := hide h
  have H := hide (h.quiet C2.out)
  have HS := hide (show SelAt w2 s c bp from C2.out.box hs (fun h => h))
  have HA := hide (hA.ch C2.out (fun h => h))
  have HU := hide hu
  have k0 : w2.cell? ⟨w.heap.size, 0, none⟩ = some (.int .u32 gr.1) := by simp [Lib.cell_of_heap hn1]
  have k1 : w2.cell? ⟨w.heap.size, 1, none⟩ = some (.int .u32 gr.2) := by simp [Lib.cell_of_heap hn1]
  clear h hs hA hu hn1 C1 C12 hz1 hz2
  obtain ⟨ng, nw, haz, -, -⟩ := akA_ok he
  have UX := hide (HU.out x (by rw [← hx]; exact List.getElem_mem hm))
  have HNG := hide (And.intro ng (And.intro nw nn))
  have HK := hide hk
  have HI := hide hin
  have HM := hide hm
  have HX := hide (show az[m]'(HM.out) = x from hx)
  have ha := HA.out.addr (by omega)
  have i1 : (m : Int) < (az.length : Int) := by omega
  have i0 : (0 : Int) ≤ (m : Int) := by omega
  have i2 : (m : Int) ≤ 1000000 := by omega
  subst ha
  subst him
  have HE := hide he
  have HB0 := hide hb0
  have HAZ := hide haz
  clear ng nw nn hk hin hx hm he haz
  go_enter Try.func46, Try.ntmps46
  go_wp2_with fail
  clear hw1 hw2
  refine (asked_is (cap := cap) H.out hl HS.out HA.out HU.out HB0.out g1 g2).mono ?_
  rintro e w3 ⟨v3, rfl, hr3, hb3⟩
  have C3 := hide (C2.out.trans (Ch.of_below (Q := fun _ => False) hb3) (fun _ _ h => h))
  have D3 := hide (Ch.of_below (Q := fun _ => False) hb3)
  have R3 := hide hr3
  clear hb3 k0 k1 hr3
  rw [HE.out]
  go_wp2_with fail
  refine (contains_is R3.out (by have := akA_small l ks gr az; omega) m).mono ?_
  rintro e w4 ⟨rfl, hb4⟩
  have C4 := hide (C3.out.trans (Ch.of_below (Q := fun _ => False) hb4) (fun _ _ h => h))
  have D4 := hide (D3.out.trans (Ch.of_below (Q := fun _ => False) hb4) (fun _ _ h => h))
  clear hb4
  rw [HI.out]
  obtain ⟨y0, y1, y2, y3, y4, y5⟩ := (HA.out.ch D4.out (fun h => h)).mem m HM.out
  rw [HX.out] at y0 y1 y2 y3 y4 y5
  rw [hsd] at y2
  have HSD := hide hsd
  clear hsd
  go_wp2_with fail
  obtain ⟨w5, hw5⟩ : ∃ z, w4.alloc (.cells #[.int .u32 x.h.1, .int .u32 x.h.2, .bool false, .int .i64 x.v.n, .int .u32 x.v.s, .int .u32 x.v.g] 105) = z := ⟨_, rfl⟩
  rw [hw5]
  have hn5 : w5.heap[w4.heap.size]? = some (.cells #[.int .u32 x.h.1, .int .u32 x.h.2, .bool false, .int .i64 x.v.n, .int .u32 x.v.s, .int .u32 x.v.g] 105 (0, 0)) := by rw [← hw5]; exact heap_new _ _
  have C45 : Ch (fun _ => False) w4 w5 := by rw [← hw5]; exact Ch.alloc _ _
  have C5 := hide (C4.out.trans C45 (fun _ _ h => h))
  have D5 := hide (D4.out.trans C45 (fun _ _ h => h))
  have S4 := hide D4.out.size
  clear hw5 C45 y0 y1 y2 y3 y4 y5
  have N5 := hide hn5
  clear hn5
  refine wp_reg (fun y => G y ∨ y = w1.heap.size) (R := fun V => Ch (fun _ => False) w5 V) (by kernel_rfl) (Ch.drew _) (fun V cV zk => ?_)
  have CV := hide (D5.out.trans cV (fun _ _ h => h))
  have CW := hide (C5.out.trans cV (fun _ _ h => h))
  have NV := hide (cV.box N5.out (fun h => h))
  clear cV
  have HV := hide (H0.out.quiet CW.out)
  have hz := HZ.out
  have s4 := S4.out
  have NG := hide (show ∀ y, w.heap.size ≤ y → y ≠ w1.heap.size → ¬ (G y ∨ y = w1.heap.size) from fun y hy hne e => e.elim (fun e => by have := (H0.out.foot e).2; omega) hne)
  have NS := hide (show ¬ (G s ∨ s = w1.heap.size) from fun e => e.elim (H.out.nbox HS.out (by decide) (by decide) (by decide) (by decide) (by decide) (by decide)) (fun e => by have h1 := HS.out; unfold SelAt at h1; rw [e, HN2.out] at h1; injection h1 with h1; injection h1 with _ h2 _; exact absurd h2 (by decide)))
  clear hz s4
  have HXX := hide (fun wq (kq : Ch (fun y => G y ∨ y = w1.heap.size) V wq) => show (wq.cell? ⟨s, 0, none⟩ = some (.pointer (some ⟨c, 0, none⟩)) ∧ wq.cell? ⟨s, 1, none⟩ = some (.pointer (some ⟨bp, 0, none⟩))) ∧ (wq.cell? ⟨w.heap.size, 0, none⟩ = some (.int .u32 gr.1) ∧ wq.cell? ⟨w.heap.size, 1, none⟩ = some (.int .u32 gr.2)) ∧ wq.cell? ⟨w4.heap.size, 0, none⟩ = some (.int .u32 x.h.1) ∧ wq.cell? ⟨w4.heap.size, 1, none⟩ = some (.int .u32 x.h.2) ∧ wq.cell? ⟨w4.heap.size, 3, none⟩ = some (.int .i64 x.v.n) ∧ wq.cell? ⟨w4.heap.size, 4, none⟩ = some (.int .u32 x.v.s) ∧ wq.cell? ⟨w4.heap.size, 5, none⟩ = some (.int .u32 x.v.g) from by
    have hz := HZ.out
    have s4 := S4.out
    have e0 := Lib.cell_of_heap (kq.box (CV.out.box HS.out (fun h => h)) NS.out)
    have e1 := Lib.cell_of_heap (kq.box (CV.out.box HN1.out (fun h => h)) (NG.out _ (Nat.le_refl _) (by omega)))
    have e2 := Lib.cell_of_heap (kq.box NV.out (NG.out _ (by omega) (by omega)))
    exact ⟨⟨by simp [e0], by simp [e0]⟩, ⟨by simp [e1], by simp [e1]⟩, by simp [e2], by simp [e2], by simp [e2], by simp [e2], by simp [e2]⟩)
  apply tk 0 ktb0 rfl (by kernel_rfl) (fun _ _ _ h => h) zk
  · intro wq zq
    go_simp
    try rfl
  go_frame
  apply tk 1 ktb1 rfl (by kernel_rfl) (fun _ _ _ h => h) zk
  · intro wq zq
    go_simp
    try rfl
  go_frame
  apply tk 2 ktb2 rfl (by kernel_rfl) (fun _ _ _ h => h) zk
  · intro wq zq
    go_simp
    try rfl
  go_frame
  apply tk 3 ktb3 rfl (by kernel_rfl) (fun _ _ _ h => h) zk
  · intro wq zq
    obtain ⟨⟨s0, s1⟩, ⟨s2, s3⟩, s4, s5, s6, s7, s8⟩ := HXX.out _ zq
    go_simp
    try rfl
  go_frame
  apply tk 4 ktb4 rfl (by kernel_rfl) (fun _ _ _ h => h) zk
  · intro wq zq
    obtain ⟨⟨s0, s1⟩, ⟨s2, s3⟩, s4, s5, s6, s7, s8⟩ := HXX.out _ zq
    go_simp
    try rfl
  go_frame
  apply tk 5 ktb5 rfl (by kernel_rfl) (fun _ _ _ h => h) zk
  · intro wq zq
    go_simp
    try rfl
  go_frame
  apply tk 6 ktb6 rfl (by kernel_rfl) (fun _ _ _ h => h) zk
  · intro wq zq
    obtain ⟨⟨s0, s1⟩, ⟨s2, s3⟩, s4, s5, s6, s7, s8⟩ := HXX.out _ zq
    go_simp
    try rfl
  go_frame
  refine Go.Proofs.Ytbblmbbpicinlaa.rd 7 ktb7 rfl (by kernel_rfl) fun K hK => ?_
  go_simp
  refine (sw_recv HV.out hl wo HK.out HNG.out.2.2 HNG.out.1 HNG.out.2.1 UX.out.h1 UX.out.h2 g1 g2).mono ?_
  rintro e w6 ⟨sv, rfl, ha6⟩
  have A6 := hide ha6
  have Z6 := hide (zk.trans ha6.ch (fun _ _ h => .inl h))
  clear ha6
  obtain ⟨dd, hdd⟩ : ∃ d, (rcvK l k gr).1 = d := ⟨_, rfl⟩
  have HDD := hide hdd
  rw [hdd]
  clear hdd
  go_wp2_with fail
  refine hK.out _ _ ?_ (fun zk => ?_)
  · exact Z6.out
  clear hK K
  try go_frame
  apply tk 8 ktb8 rfl (by kernel_rfl) (fun _ _ _ h => h) zk
  · intro wq zq
    go_simp
    try rfl
  go_frame
  apply tk 9 ktb9 rfl (by kernel_rfl) (fun _ _ _ h => h) zk
  · intro wq zq
    go_simp
    try rfl
  go_frame
  have hz := HZ.out
  have n3 := A6.out.ch.box (CV.out.box HN2.out (fun h => h)) (fun e => by have := (H0.out.foot e).2; omega)
  have d0 : w6.cell? ⟨w1.heap.size, 0, none⟩ = some (.int .i64 0) := by simp [Lib.cell_of_heap n3]
  have d1 : w6.cell? ⟨w1.heap.size, 1, none⟩ = some (.int .i64 0) := by simp [Lib.cell_of_heap n3]
  have d2 : w6.cell? ⟨w1.heap.size, 2, none⟩ = some (.int .u32 0) := by simp [Lib.cell_of_heap n3]
  have d3 : w6.cell? ⟨w1.heap.size, 3, none⟩ = some (.int .u32 0) := by simp [Lib.cell_of_heap n3]
  have d4 : w6.cell? ⟨w1.heap.size, 4, none⟩ = some (.bool false) := by simp [Lib.cell_of_heap n3]
  have d5 : w6.cell? ⟨w1.heap.size, 5, none⟩ = some (.slice none 0 0) := by simp [Lib.cell_of_heap n3]
  have df : ∀ o, w6.frozen? ⟨w1.heap.size, o, none⟩ = false := fun o => by simp [World.frozen?, n3]
  have HSE := hide (did_set n3 (.int .i64 dd.f) (.int .i64 dd.v.n) (.int .u32 dd.v.s) (.int .u32 dd.v.g) (.bool dd.ok) sv)
  clear n3 hz
  obtain ⟨sva, svc, rfl, -⟩ := A6.out.row.form
  refine Go.Proofs.Ytbblmbbpicinlaa.rd 10 ktb10 rfl (by kernel_rfl) fun K hK => ?_
  go_simp
  refine hK.out _ _ ?_ (fun zk => ?_)
  · exact zk.trans HSE.out.2 (fun y hy e => .inr e)
  clear hK K
  try go_frame
  apply tk 11 ktb11 rfl (by kernel_rfl) (fun _ _ _ h => h) zk
  · intro wq zq
    go_simp
    try rfl
  go_frame
  refine wpAnyH_done (by kernel_rfl) ?_ _
  go_wp2
  have hz := HZ.out
  have hv := CV.out.size
  have A9 := hide (A6.out.up H0.out CW.out (by omega) (by omega) HSE.out.2)
  refine bodyPost_ret (v := .tuple #[ddV dd _, .int .i64 0]) (res_Take _ w1.heap.size _ dd.f dd.v.n dd.v.s dd.v.g dd.ok _ 0 rfl rfl HSE.out.1) rfl ?_
  have hdd := HDD.out
  clear HXX HV CV A6 HSE HDD
  subst hdd
  exact ⟨_, rfl, A9.out⟩

end

end Go.Proofs.Ytbblmbbpicinlaa

namespace Go.Proofs.Ytbblmbbpicinlaa
open Go.RowKit

abbrev kwt0 : Oper := { dst := some 6, op := Op.fieldAddr 105 (Operand.tmp 1) 0, type := 0, pos := "sel.go:110", after := #[], guard := none }
abbrev kwt1 : Oper := { dst := some 7, op := Op.load 43 (Operand.tmp 6), type := 43, pos := "sel.go:110", after := #[{ on := 0, ground := Ground.data }], guard := none }
abbrev kwt2 : Oper := { dst := some 8, op := Op.build 133 #[(0, Operand.tmp 7), (1, Operand.const (Value.int IntKind.i64 1))], type := 133, pos := "sel.go:110", after := #[{ on := 1, ground := Ground.data }], guard := none }
abbrev kwt3 : Oper := { dst := some 9, op := Op.fieldAddr 105 (Operand.tmp 1) 2, type := 0, pos := "sel.go:110", after := #[{ on := 5, ground := Ground.gcOnly Departure.lateStores }], guard := none }
abbrev kwt4 : Oper := { dst := some 10, op := Op.load 46 (Operand.tmp 9), type := 46, pos := "sel.go:110", after := #[{ on := 3, ground := Ground.data }, { on := 5, ground := Ground.gcOnly Departure.lateStores }], guard := none }
abbrev kwt5 : Oper := { dst := none, op := Op.store 133 (Operand.tmp 2) (Operand.tmp 8), type := 0, pos := "sel.go:110", after := #[{ on := 2, ground := Ground.data }, { on := 0, ground := Ground.phase }, { on := 1, ground := Ground.phase }, { on := 2, ground := Ground.phase }, { on := 3, ground := Ground.textOnly Departure.lateStores }, { on := 4, ground := Ground.textOnly Departure.lateStores }], guard := none }
abbrev kwt6 : Oper := { dst := none, op := Op.store 46 (Operand.tmp 3) (Operand.tmp 10), type := 0, pos := "sel.go:110", after := #[{ on := 4, ground := Ground.data }, { on := 5, ground := Ground.chain }, { on := 0, ground := Ground.phase }, { on := 1, ground := Ground.phase }, { on := 2, ground := Ground.phase }, { on := 3, ground := Ground.phase }, { on := 4, ground := Ground.phase }, { on := 5, ground := Ground.phase }], guard := none }
abbrev kpk0 : Oper := { dst := some 38, op := Op.move (Operand.tmp 0), type := 87, pos := "sel.go:64", after := #[], guard := none }
abbrev kpk1 : Oper := { dst := some 39, op := Op.nilCheck (Operand.tmp 38), type := 0, pos := "sel.go:64", after := #[{ on := 0, ground := Ground.data }], guard := none }
abbrev kpk2 : Oper := { dst := some 40, op := Op.fieldAddr 181 (Operand.tmp 39) 1, type := 0, pos := "sel.go:64", after := #[{ on := 1, ground := Ground.data }], guard := none }
abbrev kpk3 : Oper := { dst := some 41, op := Op.load 24 (Operand.tmp 40), type := 24, pos := "sel.go:64", after := #[{ on := 2, ground := Ground.data }], guard := none }
abbrev kpk4 : Oper := { dst := some 42, op := Op.load 133 (Operand.tmp 11), type := 133, pos := "sel.go:64", after := #[], guard := none }
abbrev kpk5 : Oper := { dst := some 43, op := Op.load 43 (Operand.tmp 4), type := 43, pos := "sel.go:64", after := #[], guard := none }
abbrev kpk6 : Oper := { dst := some 44, op := Op.move (Operand.tmp 9), type := 3, pos := "sel.go:64", after := #[], guard := none }
abbrev kpk7 : Oper := { dst := some 45, op := Op.load 46 (Operand.tmp 12), type := 46, pos := "sel.go:64", after := #[], guard := none }
abbrev kpk8 : Oper := { dst := some 46, op := Op.call { callee := Callee.value (Operand.func 56), args := #[Operand.tmp 41, Operand.tmp 42, Operand.tmp 43, Operand.tmp 44, Operand.tmp 45], argTypes := #[24, 133, 43, 3, 46] }, type := 130, pos := "sel.go:64", after := #[{ on := 3, ground := Ground.data }, { on := 4, ground := Ground.data }, { on := 5, ground := Ground.data }, { on := 6, ground := Ground.data }, { on := 7, ground := Ground.data }], guard := none }

theorem res_waits (tm : Array Value) (A C : Nat) (Z : World) (s g d n a b : Int) (h2 : tm[2]?.getD undef = .pointer (some ⟨A, 0, none⟩)) (h3 : tm[3]?.getD undef = .pointer (some ⟨C, 0, none⟩)) (hb : Z.heap[A]? = some (.cells #[.int .u32 s, .int .u32 g, .int .i64 d] 133 (0, 0))) (hc : Z.heap[C]? = some (.cells #[.int .i64 n, .int .u32 a, .int .u32 b] 46 (0, 0))) :
    (results Try.f87 tm).run Try.prog Z = .ok (.tuple #[rvW s g d, .agg #[.int .i64 n, .int .u32 a, .int .u32 b]]) Z := by
  have e := Lib.cell_of_heap hb
  have e2 := Lib.cell_of_heap hc
  simp [results, Try.f87, h2, h3, go_sem, e, e2]
theorem set3 {w : World} {A : Nat} {T : TypeId} {a0 a1 a2 : Value} (hn : w.heap[A]? = some (.cells #[a0, a1, a2] T (0, 0))) (v0 v1 v2 : Value) : (((w.setCell ⟨A, 0, none⟩ v0).setCell ⟨A, 1, none⟩ v1).setCell ⟨A, 2, none⟩ v2).heap[A]? = some (.cells #[v0, v1, v2] T (0, 0)) ∧ Ch (fun y => y = A) w (((w.setCell ⟨A, 0, none⟩ v0).setCell ⟨A, 1, none⟩ v1).setCell ⟨A, 2, none⟩ v2) :=
  ⟨set_all [v0, v1, v2] [] [a0, a1, a2] w rfl hn, wrsA w A [v0, v1, v2]⟩

set_option maxRecDepth 100000 in
set_option maxHeartbeats 8000000 in
theorem waits_is (w : World) (x : Am) : Calls Try.prog 87 #[amV x] w fun e w' => e = .returned (.tuple #[rvW x.h.1 x.h.2 (wtD x), vaV (wtV x)]) ∧ Below w.heap.size w w' := by
  obtain ⟨h, sd, v⟩ := x
  obtain ⟨w1, hw1⟩ : ∃ z, w.alloc (.cells #[.int .u32 h.1, .int .u32 h.2, .bool sd, .int .i64 v.n, .int .u32 v.s, .int .u32 v.g] 105) = z := ⟨_, rfl⟩
  obtain ⟨w2, hw2⟩ : ∃ z, w1.alloc (.cells #[.int .u32 0, .int .u32 0, .int .i64 0] 133) = z := ⟨_, rfl⟩
  obtain ⟨w3, hw3⟩ : ∃ z, w2.alloc (.cells #[.int .i64 0, .int .u32 0, .int .u32 0] 46) = z := ⟨_, rfl⟩
  have C1 : Ch (fun _ => False) w w1 := by rw [← hw1]; exact Ch.alloc _ _
  have C2 : Ch (fun _ => False) w1 w2 := by rw [← hw2]; exact Ch.alloc _ _
  have C3 : Ch (fun _ => False) w2 w3 := by rw [← hw3]; exact Ch.alloc _ _
  have z1 : w1.heap.size = w.heap.size + 1 := by rw [← hw1, World.size_alloc]
  have z2 : w2.heap.size = w1.heap.size + 1 := by rw [← hw2, World.size_alloc]
  have z3 : w3.heap.size = w2.heap.size + 1 := by rw [← hw3, World.size_alloc]
  have n1 : w3.heap[w.heap.size]? = some (.cells #[.int .u32 h.1, .int .u32 h.2, .bool sd, .int .i64 v.n, .int .u32 v.s, .int .u32 v.g] 105 (0, 0)) := C3.box (C2.box (by rw [← hw1]; exact heap_new _ _) (fun h => h)) (fun h => h)
  have n2 : w3.heap[w1.heap.size]? = some (.cells #[.int .u32 0, .int .u32 0, .int .i64 0] 133 (0, 0)) := C3.box (by rw [← hw2]; exact heap_new _ _) (fun h => h)
  have n3 : w3.heap[w2.heap.size]? = some (.cells #[.int .i64 0, .int .u32 0, .int .u32 0] 46 (0, 0)) := by rw [← hw3]; exact heap_new _ _
  have HZ := hide (And.intro z1 (And.intro z2 z3))
  have HC := hide ((C1.trans C2 (fun _ _ h => h)).trans C3 (fun _ _ h => h))
  have HN := hide (And.intro n1 (And.intro n2 n3))
  have k2 : w3.cell? ⟨w.heap.size, 2, none⟩ = some (.bool sd) := by simp [Lib.cell_of_heap n1]
  clear C1 C2 C3 z1 z2 z3 n1 n2 n3
  cases sd
  · have k0 : w3.cell? ⟨w.heap.size, 0, none⟩ = some (.int .u32 h.1) := by simp [Lib.cell_of_heap HN.out.1]
    have k1 : w3.cell? ⟨w.heap.size, 1, none⟩ = some (.int .u32 h.2) := by simp [Lib.cell_of_heap HN.out.1]
    have r0 : ∀ j, w3.frozen? ⟨w1.heap.size, j, none⟩ = false := fun o => by simp [World.frozen?, HN.out.2.1]
    have r1 : w3.cell? ⟨w1.heap.size, 0, none⟩ = some (.int .u32 0) := by simp [Lib.cell_of_heap HN.out.2.1]
    have r2 : w3.cell? ⟨w1.heap.size, 1, none⟩ = some (.int .u32 0) := by simp [Lib.cell_of_heap HN.out.2.1]
    have r3 : w3.cell? ⟨w1.heap.size, 2, none⟩ = some (.int .i64 0) := by simp [Lib.cell_of_heap HN.out.2.1]
    have HR := hide (set3 HN.out.2.1 (.int .u32 h.1) (.int .u32 h.2) (.int .i64 2))
    have hz := HZ.out
    have hq := HR.out.2.box HN.out.2.2 (fun e => by omega)
    have HQ := hide (set3 hq (.int .i64 0) (.int .u32 0) (.int .u32 0))
    have q1 : (((w3.setCell ⟨w1.heap.size, 0, none⟩ (.int .u32 h.1)).setCell ⟨w1.heap.size, 1, none⟩ (.int .u32 h.2)).setCell ⟨w1.heap.size, 2, none⟩ (.int .i64 2)).cell? ⟨w2.heap.size, 0, none⟩ = some (.int .i64 0) := by simp only [Lib.cell_of_heap hq]; rfl
    have q2 : (((w3.setCell ⟨w1.heap.size, 0, none⟩ (.int .u32 h.1)).setCell ⟨w1.heap.size, 1, none⟩ (.int .u32 h.2)).setCell ⟨w1.heap.size, 2, none⟩ (.int .i64 2)).cell? ⟨w2.heap.size, 1, none⟩ = some (.int .u32 0) := by simp only [Lib.cell_of_heap hq]; rfl
    have q3 : (((w3.setCell ⟨w1.heap.size, 0, none⟩ (.int .u32 h.1)).setCell ⟨w1.heap.size, 1, none⟩ (.int .u32 h.2)).setCell ⟨w1.heap.size, 2, none⟩ (.int .i64 2)).cell? ⟨w2.heap.size, 2, none⟩ = some (.int .u32 0) := by simp only [Lib.cell_of_heap hq]; rfl
    have q0 : ∀ j, (((w3.setCell ⟨w1.heap.size, 0, none⟩ (.int .u32 h.1)).setCell ⟨w1.heap.size, 1, none⟩ (.int .u32 h.2)).setCell ⟨w1.heap.size, 2, none⟩ (.int .i64 2)).frozen? ⟨w2.heap.size, j, none⟩ = false := frz hq
    clear hq hz
    go_enter Try.func87, Try.ntmps87
    go_wp2_with fail
    have hz := HZ.out
    refine bodyPost_ret (v := .tuple #[rvW h.1 h.2 2, vaV zVa]) (res_waits _ w1.heap.size w2.heap.size _ h.1 h.2 2 0 0 0 rfl rfl (HQ.out.2.box HR.out.1 (fun e => by omega)) HQ.out.1) rfl ⟨rfl, ?_⟩
    exact ((HC.out.trans HR.out.2 (fun y hy e => (show y ≠ w1.heap.size by omega) e)).trans HQ.out.2 (fun y hy e => (show y ≠ w2.heap.size by omega) e)).below (Nat.le_refl _) (fun _ _ h => h)
  · go_enter Try.func87, Try.ntmps87
    go_wp2_with fail
    clear hw1 hw2 hw3 k2
    refine wp_reg (fun y => y = w1.heap.size ∨ y = w2.heap.size) (R := fun V => Ch (fun _ => False) w3 V) (by kernel_rfl) (Ch.drew _) (fun V cV zk => ?_)
    have CV := hide cV
    clear cV
    have HXX := hide (fun wq (kq : Ch (fun y => y = w1.heap.size ∨ y = w2.heap.size) V wq) => show wq.cell? ⟨w.heap.size, 0, none⟩ = some (.int .u32 h.1) ∧ wq.cell? ⟨w.heap.size, 1, none⟩ = some (.int .u32 h.2) ∧ wq.cell? ⟨w.heap.size, 3, none⟩ = some (.int .i64 v.n) ∧ wq.cell? ⟨w.heap.size, 4, none⟩ = some (.int .u32 v.s) ∧ wq.cell? ⟨w.heap.size, 5, none⟩ = some (.int .u32 v.g) from by
      have hz := HZ.out
      have e1 := Lib.cell_of_heap (kq.box (CV.out.box HN.out.1 (fun h => h)) (fun e => by rcases e with e | e <;> omega))
      exact ⟨by simp [e1], by simp [e1], by simp [e1], by simp [e1], by simp [e1]⟩)
    apply tk 0 kwt0 rfl (by kernel_rfl) (fun _ _ _ h => h) zk
    · intro wq zq
      go_simp
      try rfl
    go_frame
    apply tk 1 kwt1 rfl (by kernel_rfl) (fun _ _ _ h => h) zk
    · intro wq zq
      obtain ⟨s0, s1, s2, s3, s4⟩ := HXX.out _ zq
      go_simp
      try rfl
    go_frame
    apply tk 2 kwt2 rfl (by kernel_rfl) (fun _ _ _ h => h) zk
    · intro wq zq
      go_simp
      try rfl
    go_frame
    apply tk 3 kwt3 rfl (by kernel_rfl) (fun _ _ _ h => h) zk
    · intro wq zq
      go_simp
      try rfl
    go_frame
    apply tk 4 kwt4 rfl (by kernel_rfl) (fun _ _ _ h => h) zk
    · intro wq zq
      obtain ⟨s0, s1, s2, s3, s4⟩ := HXX.out _ zq
      go_simp
      try rfl
    go_frame
    have hz := HZ.out
    have m2 := CV.out.box HN.out.2.1 (fun h => h)
    have HR := hide (set3 m2 (.int .u32 h.1) (.int .u32 h.2) (.int .i64 1))
    have m3 := HR.out.2.box (CV.out.box HN.out.2.2 (fun h => h)) (fun e => by omega)
    have HQ := hide (set3 m3 (.int .i64 v.n) (.int .u32 v.s) (.int .u32 v.g))
    have r1 : V.cell? ⟨w1.heap.size, 0, none⟩ = some (.int .u32 0) := by simp [Lib.cell_of_heap m2]
    have r2 : V.cell? ⟨w1.heap.size, 1, none⟩ = some (.int .u32 0) := by simp [Lib.cell_of_heap m2]
    have r3 : V.cell? ⟨w1.heap.size, 2, none⟩ = some (.int .i64 0) := by simp [Lib.cell_of_heap m2]
    have r0 : ∀ j, V.frozen? ⟨w1.heap.size, j, none⟩ = false := fun o => by simp [World.frozen?, m2]
    have M3 := hide m3
    clear m2 m3 hz
    refine Go.Proofs.Ytbblmbbpicinlaa.rd 5 kwt5 rfl (by kernel_rfl) fun K hK => ?_
    go_simp
    refine hK.out _ _ ?_ (fun zk => ?_)
    · exact zk.trans HR.out.2 (fun y hy e => .inl e)
    clear hK K
    try go_frame
    clear r0 r1 r2 r3
    obtain ⟨V2, hV2⟩ : ∃ z, ((V.setCell ⟨w1.heap.size, 0, none⟩ (.int .u32 h.1)).setCell ⟨w1.heap.size, 1, none⟩ (.int .u32 h.2)).setCell ⟨w1.heap.size, 2, none⟩ (.int .i64 1) = z := ⟨_, rfl⟩
    have HR0 := HR.out
    have HQ0 := HQ.out
    have M30 := M3.out
    rw [hV2] at zk HR0 HQ0 M30 ⊢
    clear HR HQ M3
    have HR := hide HR0
    have HQ := hide HQ0
    have q1 : V2.cell? ⟨w2.heap.size, 0, none⟩ = some (.int .i64 0) := by simp [Lib.cell_of_heap M30]
    have q2 : V2.cell? ⟨w2.heap.size, 1, none⟩ = some (.int .u32 0) := by simp [Lib.cell_of_heap M30]
    have q3 : V2.cell? ⟨w2.heap.size, 2, none⟩ = some (.int .u32 0) := by simp [Lib.cell_of_heap M30]
    have q0 : ∀ j, V2.frozen? ⟨w2.heap.size, j, none⟩ = false := fun o => by simp [World.frozen?, M30]
    clear HR0 HQ0 M30 hV2
    refine Go.Proofs.Ytbblmbbpicinlaa.rd 6 kwt6 rfl (by kernel_rfl) fun K hK => ?_
    go_simp
    refine hK.out _ _ ?_ (fun zk => ?_)
    · exact zk.trans HQ.out.2 (fun y hy e => .inr e)
    clear hK K
    try go_frame
    refine wpAnyH_done (by kernel_rfl) ?_ _
    go_wp2
    have hz := HZ.out
    refine bodyPost_ret (v := .tuple #[rvW h.1 h.2 1, vaV v]) (res_waits _ w1.heap.size w2.heap.size _ h.1 h.2 1 v.n v.s v.g rfl rfl (HQ.out.2.box HR.out.1 (fun e => by omega)) HQ.out.1) rfl ⟨rfl, ?_⟩
    have hv := CV.out.size
    exact ((((HC.out.trans CV.out (fun _ _ h => h)).trans HR.out.2 (fun y hy e => (show y ≠ w1.heap.size by omega) e)).trans HQ.out.2 (fun y hy e => (show y ≠ w2.heap.size by omega) e))).below (Nat.le_refl _) (fun _ _ h => h)

/-- somebody waits for all arms -/
def pkL (g : Hnd) : Nat → List Am → List Wt → List Wt
  | _, [], l => l
  | i, x :: r, l => pkL g (i + 1) r (putW l x.h.1 x.h.2 (wtD x) g.1 g.2 (i : Int) (wtV x).n (wtV x).s (wtV x).g)
theorem pkL_snoc (g : Hnd) (x : Am) : ∀ (i : Nat) (r : List Am) (l : List Wt), pkL g i (r ++ [x]) l = putW (pkL g i r l) x.h.1 x.h.2 (wtD x) g.1 g.2 ((i + r.length : Nat) : Int) (wtV x).n (wtV x).s (wtV x).g
  | _, [], _ => rfl
  | i, b :: r, l => by
    rw [List.cons_append, pkL, pkL, pkL_snoc g x (i + 1) r, List.length_cons, show i + 1 + r.length = i + (r.length + 1) by omega]
theorem pkL_len (g : Hnd) : ∀ (i : Nat) (r : List Am) (l : List Wt), (pkL g i r l).length ≤ l.length + r.length
  | _, [], _ => Nat.le_refl _
  | i, b :: r, l => by
    rw [pkL, List.length_cons]
    refine Nat.le_trans (pkL_len g (i + 1) r _) ?_
    have := putW_len l b.h.1 b.h.2 (wtD b) g.1 g.2 (i : Int) (wtV b).n (wtV b).s (wtV b).g
    omega

theorem wt_ok {x : Am} (h : AmOk x) : I64 (wtD x) ∧ I64 (wtV x).n ∧ UsW (wtV x).s ∧ UsW (wtV x).g := by
  obtain ⟨h0, sd, v⟩ := x
  cases sd
  · exact ⟨show I64 2 by constructor <;> decide, show I64 zVa.n by constructor <;> decide, show UsW zVa.s by constructor <;> decide, show UsW zVa.g by constructor <;> decide⟩
  · exact ⟨show I64 1 by constructor <;> decide, h.v0, h.v1, h.v2⟩

section
variable {w : World} {B c bp s g cap : Nat} {l : List Wt} {ks : List Kn} {G : Nat → Prop} {az : List Am} {a : Option Addr}

set_option maxRecDepth 100000 in
set_option maxHeartbeats 16000000 in
theorem park_err (h : SW w B c bp l ks G) (hl : l.length ≤ 99000) (hs : SelAt w s c bp) (hA : ArmsIn w a g az) (hu : ∀ x ∈ az, AmOk x) (hb0 : az.length ≤ 1000000) {gr : Hnd} (g1 : UsW gr.1) (g2 : UsW gr.2) {q : Int} (he : (akA l ks gr az).2 = q) (hq : q ≠ 0) :
    Calls Try.prog 45 #[.pointer (some ⟨s, 0, none⟩), hkV gr, .slice a az.length cap] w fun e w' => e = .returned (.int .i64 q) ∧ Below w.heap.size w w' := by
  obtain ⟨w1, hw1⟩ : ∃ w1, w.alloc (.cells #[.int .u32 gr.1, .int .u32 gr.2] 43) = w1 := ⟨_, rfl⟩
  have hz1 : w1.heap.size = w.heap.size + 1 := by rw [← hw1, World.size_alloc]
  have HZ := hide hz1
  have C1 : Ch (fun _ => False) w w1 := by rw [← hw1]; exact Ch.alloc _ _
  have C2 := hide C1
  have hn1 : w1.heap[w.heap.size]? = some (.cells #[.int .u32 gr.1, .int .u32 gr.2] 43 (0, 0)) := by rw [← hw1]; exact heap_new _ _
  have HN1 := hide hn1
  have H0 := hide h
  have H := hide (h.quiet C1)
  have HS := hide (show SelAt w1 s c bp from C1.box hs (fun h => h))
  have HA := hide (hA.ch C1 (fun h => h))
  have HU := hide hu
  have k0 : w1.cell? ⟨w.heap.size, 0, none⟩ = some (.int .u32 gr.1) := by simp [Lib.cell_of_heap hn1]
  have k1 : w1.cell? ⟨w.heap.size, 1, none⟩ = some (.int .u32 gr.2) := by simp [Lib.cell_of_heap hn1]
  clear h hs hA hu hn1 C1 hz1
  go_enter Try.func45, Try.ntmps45
  go_wp2_with fail
  clear hw1
  refine (asked_is (cap := cap) H.out (by omega) HS.out HA.out HU.out hb0 g1 g2).mono ?_
  rintro e w3 ⟨v3, rfl, hr3, hb3⟩
  have D3 := hide (Ch.of_below (Q := fun _ => False) hb3)
  have C3 := hide (C2.out.trans D3.out (fun _ _ h => h))
  clear hb3 k0 k1
  rw [he]
  have hq2 : (q == 0) = false := by simpa using hq
  clear he hq hr3
  go_wp2_with fail
  go_ret
  exact ⟨rfl, C3.out.below (Nat.le_refl _) (fun _ _ h => h)⟩

set_option maxRecDepth 100000 in
set_option maxHeartbeats 16000000 in
theorem park_ready (h : SW w B c bp l ks G) (hl : l.length ≤ 99000) (hs : SelAt w s c bp) (hA : ArmsIn w a g az) (hu : ∀ x ∈ az, AmOk x) (hb0 : az.length ≤ 1000000) {gr : Hnd} (g1 : UsW gr.1) (g2 : UsW gr.2) (he : (akA l ks gr az).2 = 0) (hr : (akA l ks gr az).1 ≠ []) :
    Calls Try.prog 45 #[.pointer (some ⟨s, 0, none⟩), hkV gr, .slice a az.length cap] w fun e w' => e = .returned (.int .i64 153) ∧ Below w.heap.size w w' := by
  obtain ⟨w1, hw1⟩ : ∃ w1, w.alloc (.cells #[.int .u32 gr.1, .int .u32 gr.2] 43) = w1 := ⟨_, rfl⟩
  have hz1 : w1.heap.size = w.heap.size + 1 := by rw [← hw1, World.size_alloc]
  have HZ := hide hz1
  have C1 : Ch (fun _ => False) w w1 := by rw [← hw1]; exact Ch.alloc _ _
  have C2 := hide C1
  have hn1 : w1.heap[w.heap.size]? = some (.cells #[.int .u32 gr.1, .int .u32 gr.2] 43 (0, 0)) := by rw [← hw1]; exact heap_new _ _
  have HN1 := hide hn1
  have H0 := hide h
  have H := hide (h.quiet C1)
  have HS := hide (show SelAt w1 s c bp from C1.box hs (fun h => h))
  have HA := hide (hA.ch C1 (fun h => h))
  have HU := hide hu
  have k0 : w1.cell? ⟨w.heap.size, 0, none⟩ = some (.int .u32 gr.1) := by simp [Lib.cell_of_heap hn1]
  have k1 : w1.cell? ⟨w.heap.size, 1, none⟩ = some (.int .u32 gr.2) := by simp [Lib.cell_of_heap hn1]
  clear h hs hA hu hn1 C1 hz1
  go_enter Try.func45, Try.ntmps45
  go_wp2_with fail
  clear hw1
  refine (asked_is (cap := cap) H.out (by omega) HS.out HA.out HU.out hb0 g1 g2).mono ?_
  rintro e w3 ⟨v3, rfl, hr3, hb3⟩
  have D3 := hide (Ch.of_below (Q := fun _ => False) hb3)
  have C3 := hide (C2.out.trans D3.out (fun _ _ h => h))
  clear hb3 k0 k1
  obtain ⟨a3, c3, rfl, -, -⟩ := hr3.form
  rw [he]
  have hp : ((akA l ks gr az).1.length : Int) > 0 := by have := List.length_pos_iff.2 hr; omega
  clear he hr hr3
  go_wp2_with fail
  go_ret
  exact ⟨rfl, C3.out.below (Nat.le_refl _) (fun _ _ h => h)⟩

set_option maxRecDepth 100000 in
set_option maxHeartbeats 16000000 in
theorem park_go (h : SW w B c bp l ks G) (hl : l.length ≤ 99000) (hs : SelAt w s c bp) (hA : ArmsIn w a g az) (hu : ∀ x ∈ az, AmOk x) (hb0 : az.length ≤ 1000000) {gr : Hnd} (g1 : UsW gr.1) (g2 : UsW gr.2) (hg : 0 < az.length → ¬ G g) (he : (akA l ks gr az).2 = 0) (hr : (akA l ks gr az).1 = []) :
    Calls Try.prog 45 #[.pointer (some ⟨s, 0, none⟩), hkV gr, .slice a az.length cap] w fun e w' => e = .returned (.int .i64 0) ∧ ∃ G', SW w' B c bp (pkL gr 0 az l) ks G' ∧ (∀ y, G' y → G y ∨ w.heap.size ≤ y) ∧ Ch G w w' := by
  obtain ⟨w1, hw1⟩ : ∃ w1, w.alloc (.cells #[.int .u32 gr.1, .int .u32 gr.2] 43) = w1 := ⟨_, rfl⟩
  have hz1 : w1.heap.size = w.heap.size + 1 := by rw [← hw1, World.size_alloc]
  have HZ := hide hz1
  have C1 : Ch (fun _ => False) w w1 := by rw [← hw1]; exact Ch.alloc _ _
  have C2 := hide C1
  have hn1 : w1.heap[w.heap.size]? = some (.cells #[.int .u32 gr.1, .int .u32 gr.2] 43 (0, 0)) := by rw [← hw1]; exact heap_new _ _
  have HN1 := hide hn1
  have H0 := hide h
  have H := hide (h.quiet C1)
  have HS := hide (show SelAt w1 s c bp from C1.box hs (fun h => h))
  have HA := hide (hA.ch C1 (fun h => h))
  have HU := hide hu
  have k0 : w1.cell? ⟨w.heap.size, 0, none⟩ = some (.int .u32 gr.1) := by simp [Lib.cell_of_heap hn1]
  have k1 : w1.cell? ⟨w.heap.size, 1, none⟩ = some (.int .u32 gr.2) := by simp [Lib.cell_of_heap hn1]
  clear h hs hA hu hn1 C1 hz1
  go_enter Try.func45, Try.ntmps45
  go_wp2_with fail
  clear hw1
  refine (asked_is (cap := cap) H.out (by omega) HS.out HA.out HU.out hb0 g1 g2).mono ?_
  rintro e w3 ⟨v3, rfl, hr3, hb3⟩
  have D3 := hide (Ch.of_below (Q := fun _ => False) hb3)
  have C3 := hide (C2.out.trans D3.out (fun _ _ h => h))
  clear hb3 k0 k1
  obtain ⟨-, -, haz, -, -⟩ := akA_ok he
  rw [hr] at hr3
  obtain ⟨a3, c3, rfl, -, -⟩ := hr3.form
  rw [he, List.length_nil]
  have NGA := hide hg
  have HAZ := hide haz
  have H3 := hide (H.out.quiet D3.out)
  have HA3 := hide (HA.out.ch D3.out (fun h => h))
  have HS3 := hide (show SelAt w3 s c bp from D3.out.box HS.out (fun h => h))
  have HN3 := hide (D3.out.box HN1.out (fun h => h))
  have NS := hide (show ¬ G s from H.out.nbox HS.out (by decide) (by decide) (by decide) (by decide) (by decide) (by decide))
  have NH := hide (show ¬ G w.heap.size from fun e => by have := (H0.out.foot e).2; omega)
  clear he hr hr3 haz hg
  go_wp2_with fail
  go_loopw [28] (fun i wr => ∃ k : Nat, k ≤ az.length ∧ i = .int .i64 (k : Int) ∧ Hid (∃ G', SW wr B c bp (pkL gr 0 (az.take k) l) ks G' ∧ (∀ y, G' y → G y ∨ w3.heap.size ≤ y) ∧ Ch G w3 wr)) (fun i _ => az.length - (intOf i).toNat)
  case atStart => exact ⟨0, Nat.zero_le _, rfl, hide ⟨G, H3.out, fun _ h => .inl h, Ch.refl _ _⟩⟩
  case round =>
    obtain ⟨k, hk, rfl, HI⟩ := hrel
    obtain ⟨W0, rfl⟩ : ∃ x, x = wr := ⟨_, rfl⟩
    obtain ⟨G1, hs1, hd1, hc1⟩ := HI.out
    have S1 := hide hs1
    have D1 := hide hd1
    have E1 := hide hc1
    clear HI hs1 hd1 hc1
    by_cases hlt : k < az.length
    · have ha := HA3.out.addr (by omega)
      subst ha
      have gl := HA3.out.mem.lt (by omega)
      obtain ⟨x, hx⟩ : ∃ x, az[k] = x := ⟨_, rfl⟩
      obtain ⟨y0, y1, y2, y3, y4, y5⟩ := (HA3.out.mem.ch E1.out (NGA.out (by omega))) k hlt
      rw [hx] at y0 y1 y2 y3 y4 y5
      have HLT := hide hlt
      have HX := hide (show az[k]'(HLT.out) = x from hx)
      have UX := hide (HU.out x (by rw [← hx]; exact List.getElem_mem hlt))
      have i1 : (k : Int) < (az.length : Int) := by omega
      have i0 : (k : Int) ≤ 50 := by have := HAZ.out; omega
      clear hx gl hk hlt
      go_wp2_with fail
      obtain ⟨W1, hW1⟩ : ∃ z, W0.alloc (.cells #[.int .u32 x.h.1, .int .u32 x.h.2, .bool x.sd, .int .i64 x.v.n, .int .u32 x.v.s, .int .u32 x.v.g] 105) = z := ⟨_, rfl⟩
      rw [hW1]
      have c01 : Ch (fun _ => False) W0 W1 := by rw [← hW1]; exact Ch.alloc _ _
      have C01 := hide c01
      clear hW1 y0 y1 y2 y3 y4 y5 c01
      refine (waits_is W1 x).mono ?_
      rintro e W2 ⟨rfl, hb2⟩
      have C02 := hide (C01.out.trans (Ch.of_below (Q := fun _ => False) hb2) (fun _ _ h => h))
      clear hb2
      go_wp2_with fail
      obtain ⟨W3, hW3⟩ : ∃ z, W2.alloc (.cells #[.int .u32 x.h.1, .int .u32 x.h.2, .int .i64 (wtD x)] 133) = z := ⟨_, rfl⟩
      obtain ⟨W4, hW4⟩ : ∃ z, W3.alloc (.cells #[.int .i64 (wtV x).n, .int .u32 (wtV x).s, .int .u32 (wtV x).g] 46) = z := ⟨_, rfl⟩
      try rw [hW3]
      try rw [hW4]
      have c23 : Ch (fun _ => False) W2 W3 := by rw [← hW3]; exact Ch.alloc _ _
      have c34 : Ch (fun _ => False) W3 W4 := by rw [← hW4]; exact Ch.alloc _ _
      have N3 := hide (show W4.heap[W2.heap.size]? = some (.cells #[.int .u32 x.h.1, .int .u32 x.h.2, .int .i64 (wtD x)] 133 (0, 0)) from c34.box (by rw [← hW3]; exact heap_new _ _) (fun h => h))
      have N4 := hide (show W4.heap[W3.heap.size]? = some (.cells #[.int .i64 (wtV x).n, .int .u32 (wtV x).s, .int .u32 (wtV x).g] 46 (0, 0)) by rw [← hW4]; exact heap_new _ _)
      have hz3 : W3.heap.size = W2.heap.size + 1 := by rw [← hW3, World.size_alloc]
      rw [hz3] at N4
      have C04 := hide ((C02.out.trans c23 (fun _ _ h => h)).trans c34 (fun _ _ h => h))
      have S23 := hide (And.intro C02.out.size c23.size)
      clear hW3 hW4 c23 c34
      refine wp_reg G1 (R := fun V => Ch (fun _ => False) W4 V) (by kernel_rfl) (Ch.drew _) (fun V cV zk => ?_)
      have CV := hide (C04.out.trans cV (fun _ _ h => h))
      have NV3 := hide (cV.box N3.out (fun h => h))
      have NV4 := hide (cV.box N4.out (fun h => h))
      clear cV
      have NN := hide (show ∀ y, W0.heap.size ≤ y → ¬ G1 y from fun y hy e => by have := (S1.out.foot e).2; omega)
      have NO := hide (show ∀ y, y < w3.heap.size → ¬ G y → ¬ G1 y from fun y hy hn e => (D1.out y e).elim hn (fun e => by omega))
      have HXX := hide (fun wq (kq : Ch G1 V wq) => show (wq.cell? ⟨s, 0, none⟩ = some (.pointer (some ⟨c, 0, none⟩)) ∧ wq.cell? ⟨s, 1, none⟩ = some (.pointer (some ⟨bp, 0, none⟩))) ∧ (wq.cell? ⟨w.heap.size, 0, none⟩ = some (.int .u32 gr.1) ∧ wq.cell? ⟨w.heap.size, 1, none⟩ = some (.int .u32 gr.2)) ∧ (wq.cell? ⟨W2.heap.size, 0, none⟩ = some (.int .u32 x.h.1) ∧ wq.cell? ⟨W2.heap.size, 1, none⟩ = some (.int .u32 x.h.2) ∧ wq.cell? ⟨W2.heap.size, 2, none⟩ = some (.int .i64 (wtD x))) ∧ wq.cell? ⟨W2.heap.size + 1, 0, none⟩ = some (.int .i64 (wtV x).n) ∧ wq.cell? ⟨W2.heap.size + 1, 1, none⟩ = some (.int .u32 (wtV x).s) ∧ wq.cell? ⟨W2.heap.size + 1, 2, none⟩ = some (.int .u32 (wtV x).g) from by
        have sz := S23.out
        have sl := (Array.getElem?_eq_some_iff.1 HS3.out).1
        have hl2 := (Array.getElem?_eq_some_iff.1 HN3.out).1
        have e0 := Lib.cell_of_heap (kq.box (CV.out.box (E1.out.box HS3.out NS.out) (fun h => h)) (NO.out s sl NS.out))
        have e1 := Lib.cell_of_heap (kq.box (CV.out.box (E1.out.box HN3.out NH.out) (fun h => h)) (NO.out _ hl2 NH.out))
        have e2 := Lib.cell_of_heap (kq.box NV3.out (NN.out _ sz.1))
        have e3 := Lib.cell_of_heap (kq.box NV4.out (NN.out _ (by omega)))
        exact ⟨⟨by simp [e0], by simp [e0]⟩, ⟨by simp [e1], by simp [e1]⟩, ⟨by simp [e2], by simp [e2], by simp [e2]⟩, by simp [e3], by simp [e3], by simp [e3]⟩)
      obtain ⟨F, hp, hFG, hup⟩ := (S1.out.quiet CV.out).book
      have HP := hide hp
      have HFG := hide hFG
      have HUP := hide (fun (w2 : World) (F2 : Nat → Prop) (l2 : List Wt) (a : PTb w2 B F2 bp l2) (b : Ch F V w2) (d : ∀ y, F2 y → F y ∨ V.heap.size ≤ y) => hup a b d)
      clear hp hFG hup
      have HLL := hide (show (pkL gr 0 (az.take k) l).length ≤ 100000 from by have h1 := pkL_len gr 0 (az.take k) l; have h2 := HAZ.out; rw [List.length_take] at h1; omega)
      have HWD := hide (wt_ok UX.out)
      obtain ⟨dx, hdx⟩ : ∃ z, wtD x = z := ⟨_, rfl⟩
      obtain ⟨vx, hvx⟩ : ∃ z, wtV x = z := ⟨_, rfl⟩
      have HDX := hide (And.intro hdx hvx)
      rw [hdx] at HXX HWD NV3 N3
      rw [hvx] at HXX HWD NV4 N4
      try rw [hdx, hvx]
      clear hdx hvx
      apply tk 0 kpk0 rfl (by kernel_rfl) (fun _ _ _ h => h) zk
      · intro wq zq
        go_simp
        try rfl
      go_frame
      apply tk 1 kpk1 rfl (by kernel_rfl) (fun _ _ _ h => h) zk
      · intro wq zq
        go_simp
        try rfl
      go_frame
      apply tk 2 kpk2 rfl (by kernel_rfl) (fun _ _ _ h => h) zk
      · intro wq zq
        go_simp
        try rfl
      go_frame
      apply tk 3 kpk3 rfl (by kernel_rfl) (fun _ _ _ h => h) zk
      · intro wq zq
        obtain ⟨⟨s0, s1⟩, ⟨s2, s3⟩, ⟨s4, s5, s6⟩, s7, s8, s9⟩ := HXX.out _ zq
        go_simp
        try rfl
      go_frame
      apply tk 4 kpk4 rfl (by kernel_rfl) (fun _ _ _ h => h) zk
      · intro wq zq
        obtain ⟨⟨s0, s1⟩, ⟨s2, s3⟩, ⟨s4, s5, s6⟩, s7, s8, s9⟩ := HXX.out _ zq
        go_simp
        try rfl
      go_frame
      apply tk 5 kpk5 rfl (by kernel_rfl) (fun _ _ _ h => h) zk
      · intro wq zq
        obtain ⟨⟨s0, s1⟩, ⟨s2, s3⟩, ⟨s4, s5, s6⟩, s7, s8, s9⟩ := HXX.out _ zq
        go_simp
        try rfl
      go_frame
      apply tk 6 kpk6 rfl (by kernel_rfl) (fun _ _ _ h => h) zk
      · intro wq zq
        go_simp
        try rfl
      go_frame
      apply tk 7 kpk7 rfl (by kernel_rfl) (fun _ _ _ h => h) zk
      · intro wq zq
        obtain ⟨⟨s0, s1⟩, ⟨s2, s3⟩, ⟨s4, s5, s6⟩, s7, s8, s9⟩ := HXX.out _ zq
        go_simp
        try rfl
      go_frame
      refine Go.Proofs.Ytbblmbbpicinlaa.rd 8 kpk8 rfl (by kernel_rfl) fun K hK => ?_
      go_simp
      refine (face.put x.h.1 x.h.2 dx gr.1 gr.2 (k : Int) vx.n vx.s vx.g UX.out.h1 UX.out.h2 HWD.out.1 g1 g2 (by constructor <;> omega) HWD.out.2.1 HWD.out.2.2.1 HWD.out.2.2.2 HP.out HLL.out (by first | omega | exact Nat.le_trans S1.out.low (by have := CV.out.size; have := zk.size; omega))).mono ?_
      rintro e W9 ⟨F9, rfl, hp9, hc9, hd9⟩
      have P9 := hide (And.intro hp9 (And.intro hc9 hd9))
      have Z9 := hide (hc9.mono (Q' := G1) (fun y _ hy => HFG.out y hy))
      clear hp9 hc9 hd9
      go_wp2_with fail
      refine hK.out _ _ ?_ (fun zk => ?_)
      · exact Z9.out
      clear hK K
      try go_frame
      refine wpAnyH_done (by kernel_rfl) ?_ _
      go_wp2_with fail
      refine ⟨?rel, ?measure⟩
      case rel =>
        refine ⟨k + 1, HLT.out, rfl, hide ?_⟩
        obtain ⟨G9, hs9, hg9⟩ := HUP.out _ _ _ P9.out.1 P9.out.2.1 P9.out.2.2
        have sz := E1.out.size
        have sv := CV.out.size
        refine ⟨G9, ?_, fun y hy => ?_, ?_⟩
        · rw [List.take_succ_eq_append_getElem HLT.out, HX.out, pkL_snoc, List.length_take, HDX.out.1, HDX.out.2, show 0 + min k az.length = k by have := HLT.out; omega]
          exact hs9
        · rcases hg9 y hy with e | e
          · exact D1.out y e
          · exact .inr (by omega)
        · exact (E1.out.trans (CV.out.mono (Q' := G) (fun _ _ h => h.elim)) (fun _ _ h => h)).trans Z9.out (fun y hy e => (D1.out y e).elim id (fun e => by omega))
      case measure =>
        show az.length - ((k : Int) + 1).toNat < az.length - (k : Int).toNat
        have := HLT.out
        omega
    · have et : az.take k = az := List.take_of_length_le (by omega)
      have i1 : ¬ (k : Int) < (az.length : Int) := by omega
      have S2 := hide (show SW W0 B c bp (pkL gr 0 az l) ks G1 from by have := S1.out; rwa [et] at this)
      clear hlt et hk
      go_wp2_with fail
      go_ret
      have sz := C3.out.size
      exact ⟨rfl, G1, S2.out, fun y hy => (D1.out y hy).imp_right fun e => by omega, (C3.out.mono (Q' := G) (fun _ _ h => h.elim)).trans E1.out (fun _ _ h => h)⟩
end

end Go.Proofs.Ytbblmbbpicinlaa
