/- Layer 15: arms of selects; which are ready; the small calls. Layer 15: look: which arms are ready. Layer 15: the library's Contains, of numbers. Layer 15: Poll; why somebody may not take an arm or wait. -/
import Derived.Test.YtbblmbbpicinlabYu
import Derived.WalkMore
namespace Go.Proofs.Ytbblmbbpicinlab
open Go.RowKit

structure Am where
  h : Hnd
  sd : Bool
  v : Va
def amF (a : Am) : List Value := [.int .u32 a.h.1, .int .u32 a.h.2, .bool a.sd, .int .i64 a.v.n, .int .u32 a.v.s, .int .u32 a.v.g]
theorem amF_len (a : Am) : (amF a).length = 6 := rfl
abbrev amV (a : Am) : Value := .agg #[.int .u32 a.h.1, .int .u32 a.h.2, .bool a.sd, .int .i64 a.v.n, .int .u32 a.v.s, .int .u32 a.v.g]
theorem amF_one (a : Am) : ∀ v ∈ amF a, v.oneCell' = true := by
  intro u hu
  simp only [amF, List.mem_cons, List.not_mem_nil, or_false] at hu
  rcases hu with rfl | rfl | rfl | rfl | rfl | rfl <;> rfl
/-- arms in block g -/
def AmL (w : World) (g : Nat) (az : List Am) : Prop := ∀ i (hi : i < az.length), w.cell? ⟨g, i * 6, none⟩ = some (.int .u32 az[i].h.1) ∧ w.cell? ⟨g, i * 6 + 1, none⟩ = some (.int .u32 az[i].h.2) ∧ w.cell? ⟨g, i * 6 + 2, none⟩ = some (.bool az[i].sd) ∧ w.cell? ⟨g, i * 6 + 3, none⟩ = some (.int .i64 az[i].v.n) ∧ w.cell? ⟨g, i * 6 + 4, none⟩ = some (.int .u32 az[i].v.s) ∧ w.cell? ⟨g, i * 6 + 5, none⟩ = some (.int .u32 az[i].v.g)
theorem AmL.box {w w' : World} {g : Nat} {az : List Am} (h : AmL w g az) (hb : w'.heap[g]? = w.heap[g]?) : AmL w' g az := by
  intro i hi
  have := h i hi
  have c : ∀ o, w'.cell? ⟨g, o, none⟩ = w.cell? ⟨g, o, none⟩ := fun o => World.cell?_of_block (w := w) (a := ⟨g, o, none⟩) hb
  simpa only [c] using this
theorem AmL.lt {w : World} {g : Nat} {az : List Am} (h : AmL w g az) (h0 : 0 < az.length) : g < w.heap.size := by
  have := (h 0 h0).1
  apply Decidable.byContradiction
  intro hn
  have e : w.heap[g]? = none := Array.getElem?_eq_none (by omega)
  simp [World.cell?, e] at this
theorem AmL.ch {w w' : World} {Q : Nat → Prop} {g : Nat} {az : List Am} (h : AmL w g az) (hc : Ch Q w w') (hq : ¬ Q g) : AmL w' g az := by
  intro i hi
  have hl := h.lt (Nat.lt_of_le_of_lt (Nat.zero_le _) hi)
  exact h.box (hc.blk g hl hq) i hi
theorem AmL.take {w : World} {g : Nat} {az : List Am} (h : AmL w g az) (k : Nat) : AmL w g (az.take k) := by
  intro i hi
  have := h i (by rw [List.length_take] at hi; omega)
  simpa only [List.getElem_take] using this
theorem AmL.of_row {w : World} {B g n c : Nat} {az : List Am} (h : Row amF 6 54 w B (.slice (some ⟨g, 0, none⟩) n c) az) : AmL w g az := by
  intro i hi
  obtain ⟨g', c', cur, e, -, -, -, -, -, hc⟩ := h.at amF_len (by omega)
  cases e
  exact ⟨hc i hi 0 _ rfl, hc i hi 1 _ rfl, hc i hi 2 _ rfl, hc i hi 3 _ rfl, hc i hi 4 _ rfl, hc i hi 5 _ rfl⟩

/-- is an arm ready; is it an arm of no channel -/
def rdA (l : List Wt) (ks : List Kn) (a : Am) : Bool := if a.sd then fkS l ks a.h else fkR l ks a.h
def badA (ks : List Kn) (a : Am) : Bool := !nnH a.h && (fnk ks a.h).isNone
def idxA (l : List Wt) (ks : List Kn) : Nat → List Am → List Nat
  | _, [] => []
  | i, a :: r => if !nnH a.h && rdA l ks a then i :: idxA l ks (i + 1) r else idxA l ks (i + 1) r
theorem idxA_snoc (l : List Wt) (ks : List Kn) (a : Am) : ∀ (i : Nat) (r : List Am), idxA l ks i (r ++ [a]) = idxA l ks i r ++ if !nnH a.h && rdA l ks a then [i + r.length] else []
  | i, [] => by
    rw [List.nil_append, idxA, idxA, idxA]
    split <;> simp
  | i, b :: r => by
    rw [List.cons_append, idxA, idxA, idxA_snoc l ks a (i + 1) r, List.length_cons, show i + 1 + r.length = i + (r.length + 1) by omega]
    split
    · simp
    · rfl
theorem idxA_len (l : List Wt) (ks : List Kn) : ∀ (i : Nat) (r : List Am), (idxA l ks i r).length ≤ r.length
  | _, [] => Nat.le_refl _
  | i, a :: r => by
    rw [idxA]
    have := idxA_len l ks (i + 1) r
    split
    · simp; omega
    · simp; omega
/-- what a look finds: the ready ones, and the error -/
def lkA (l : List Wt) (ks : List Kn) (az : List Am) : List Nat × Int := if az.any (badA ks) then ([], 141) else (idxA l ks 0 az, 0)
def plA (l : List Wt) (ks : List Kn) (az : List Am) : List Nat × Int := if 50 < az.length then ([], 151) else lkA l ks az
def akA (l : List Wt) (ks : List Kn) (g : Hnd) (az : List Am) : List Nat × Int := if nnH g then ([], 1) else if 0 < (sel (isWho g.1 g.2) l).length then ([], 143) else plA l ks az
def inF (n : Nat) : List Value := [.int .i64 (n : Int)]
theorem inF_len (n : Nat) : (inF n).length = 1 := rfl
theorem inF_one (n : Nat) : ∀ v ∈ inF n, v.oneCell' = true := by
  intro u hu
  simp only [inF, List.mem_cons, List.not_mem_nil, or_false] at hu
  subst hu
  rfl
abbrev InRow (w : World) (B : Nat) (v : Value) (l : List Nat) : Prop := Row inF 1 3 w B v l

theorem snone_is (w : World) (s g : Int) : Calls Try.prog 31 #[hvW s g] w fun e w' => e = .returned (.bool (decide (s = 0) && decide (g = 0))) ∧ Below w.heap.size w w' := by
  by_cases es : s = 0
  · have qs : (s == 0) = true := by simpa using es
    rw [decide_eq_true es]
    by_cases eg : g = 0
    · have qg : (g == 0) = true := by simpa using eg
      rw [decide_eq_true eg]
      clear es eg
      go_enter Try.func31, Try.ntmps31
      go_wp2
      go_ret
      exact ⟨rfl, below1 _ _⟩
    · have qg : (g == 0) = false := by simpa using eg
      rw [decide_eq_false eg]
      clear es eg
      go_enter Try.func31, Try.ntmps31
      go_wp2
      go_ret
      exact ⟨rfl, below1 _ _⟩
  · have qs : (s == 0) = false := by simpa using es
    rw [decide_eq_false es, Bool.false_and]
    clear es
    go_enter Try.func31, Try.ntmps31
    go_wp2
    go_ret
    exact ⟨rfl, below1 _ _⟩
theorem asks_is (w : World) (a : Am) : Calls Try.prog 30 #[amV a] w fun e w' => e = .returned (.func (.func (if a.sd then 47 else 48)) #[] #[]) ∧ Below w.heap.size w w' := by
  obtain ⟨h, sd, v⟩ := a
  cases sd
  · rw [show (if (⟨h, false, v⟩ : Am).sd then 47 else 48) = 48 from rfl]
    go_enter Try.func30, Try.ntmps30
    go_wp2
    go_ret
    exact ⟨rfl, below1 _ _⟩
  · rw [show (if (⟨h, true, v⟩ : Am).sd then 47 else 48) = 47 from rfl]
    go_enter Try.func30, Try.ntmps30
    go_wp2
    go_ret
    exact ⟨rfl, below1 _ _⟩

/-- where somebody waits for an arm, with what -/
def wtD (a : Am) : Int := if a.sd then 1 else 2
def wtV (a : Am) : Va := if a.sd then a.v else zVa

/-- the Sel lies in block s -/
def SelAt (w : World) (s c bp : Nat) : Prop := w.heap[s]? = some (.cells #[.pointer (some ⟨c, 0, none⟩), .pointer (some ⟨bp, 0, none⟩)] 70 (0, 0))
theorem selnew_is (w : World) (c bp : Nat) : Calls Try.prog 7 #[.pointer (some ⟨c, 0, none⟩), .pointer (some ⟨bp, 0, none⟩)] w fun e w' => e = .returned (.tuple #[.pointer (some ⟨w.heap.size, 0, none⟩), .int .i64 0]) ∧ SelAt w' w.heap.size c bp ∧ Below w.heap.size w w' := by
  go_enter Try.func7, Try.ntmps7
  go_wp2
  go_ret2
  exact ⟨rfl, heap_new _ _, below1 _ _⟩

/-- a function with a body: it is entered -/
abbrev Enters (g : FuncId) : Prop := ∀ (args : Array Value) (w : World), (callFunc g args).run Try.prog w = .ok (.enter g args) w
theorem enters_of {g : FuncId} {fn : Func} (h : Try.prog.funcs[g]? = some fn) (hn : (fn.name == "runtime.NumGoroutine") = false) (hb : fn.body.isNone = false) : Enters g := fun args w => by
  have h1 : ¬ fn.name = "runtime.NumGoroutine" := by simpa using hn
  have h2 : ¬ fn.body = none := by intro e; rw [e] at hb; cases hb
  simp [callFunc, go_sem, h, h1, h2]
theorem en_canSend : Enters 47 := enters_of Try.func47 rfl rfl
theorem en_canRecv : Enters 48 := enters_of Try.func48 rfl rfl

end Go.Proofs.Ytbblmbbpicinlab

namespace Go.Proofs.Ytbblmbbpicinlab
open Go.RowKit

abbrev kla0 : Oper := { dst := some 25, op := Op.move (Operand.tmp 0), type := 33, pos := "sel.go:89", after := #[], guard := none }
abbrev kla1 : Oper := { dst := some 26, op := Op.nilCheck (Operand.tmp 25), type := 0, pos := "sel.go:89", after := #[{ on := 0, ground := Ground.data }], guard := none }
abbrev kla2 : Oper := { dst := some 27, op := Op.fieldAddr 70 (Operand.tmp 26) 0, type := 0, pos := "sel.go:89", after := #[{ on := 1, ground := Ground.data }], guard := none }
abbrev kla3 : Oper := { dst := some 28, op := Op.load 29 (Operand.tmp 27), type := 29, pos := "sel.go:89", after := #[{ on := 2, ground := Ground.data }], guard := none }
abbrev kla4 : Oper := { dst := some 29, op := Op.fieldAddr 54 (Operand.tmp 9) 0, type := 0, pos := "sel.go:89", after := #[], guard := none }
abbrev kla5 : Oper := { dst := some 30, op := Op.load 24 (Operand.tmp 29), type := 24, pos := "sel.go:89", after := #[{ on := 4, ground := Ground.data }], guard := none }
abbrev kla6 : Oper := { dst := some 31, op := Op.call { callee := Callee.value (Operand.func 32), args := #[Operand.tmp 28, Operand.tmp 30], argTypes := #[29, 24] }, type := 4, pos := "sel.go:89", after := #[{ on := 3, ground := Ground.data }, { on := 5, ground := Ground.data }], guard := none }
abbrev kla7 : Oper := { dst := some 32, op := Op.unOp UnOp.not 4 (Operand.tmp 31), type := 4, pos := "sel.go:89", after := #[{ on := 6, ground := Ground.data }], guard := none }
abbrev kla8 : Oper := { dst := some 24, op := Op.assign (Operand.tmp 32), type := 4, pos := "sel.go:89", after := #[{ on := 7, ground := Ground.data }, { on := 6, ground := Ground.chain }], guard := none }
abbrev klb0 : Oper := { dst := some 34, op := Op.move (Operand.tmp 10), type := 92, pos := "sel.go:92", after := #[], guard := none }
abbrev klb1 : Oper := { dst := some 35, op := Op.move (Operand.tmp 0), type := 33, pos := "sel.go:92", after := #[], guard := none }
abbrev klb2 : Oper := { dst := some 36, op := Op.nilCheck (Operand.tmp 35), type := 0, pos := "sel.go:92", after := #[{ on := 1, ground := Ground.data }], guard := none }
abbrev klb3 : Oper := { dst := some 37, op := Op.fieldAddr 70 (Operand.tmp 36) 0, type := 0, pos := "sel.go:92", after := #[{ on := 2, ground := Ground.data }], guard := none }
abbrev klb4 : Oper := { dst := some 38, op := Op.load 29 (Operand.tmp 37), type := 29, pos := "sel.go:92", after := #[{ on := 3, ground := Ground.data }], guard := none }
abbrev klb5 : Oper := { dst := some 39, op := Op.fieldAddr 54 (Operand.tmp 9) 0, type := 0, pos := "sel.go:92", after := #[], guard := none }
abbrev klb6 : Oper := { dst := some 40, op := Op.load 24 (Operand.tmp 39), type := 24, pos := "sel.go:92", after := #[{ on := 5, ground := Ground.data }], guard := none }
abbrev klb7 : Oper := { dst := some 41, op := Op.call { callee := Callee.value (Operand.tmp 34), args := #[Operand.tmp 38, Operand.tmp 40], argTypes := #[29, 24] }, type := 4, pos := "sel.go:92", after := #[{ on := 0, ground := Ground.data }, { on := 4, ground := Ground.data }, { on := 6, ground := Ground.data }], guard := none }
abbrev klb8 : Oper := { dst := some 33, op := Op.assign (Operand.tmp 41), type := 4, pos := "sel.go:92", after := #[{ on := 7, ground := Ground.data }, { on := 7, ground := Ground.chain }], guard := none }

set_option maxRecDepth 100000 in
set_option maxHeartbeats 16000000 in
theorem look_is {w : World} {B c bp s g cap : Nat} {l : List Wt} {ks : List Kn} {G : Nat → Prop} {az : List Am} {a : Option Addr} (h : SW w B c bp l ks G) (hl : l.length ≤ 100000) (hs : SelAt w s c bp) (ha : 0 < az.length → a = some ⟨g, 0, none⟩) (hA : AmL w g az) (hb : az.length ≤ 50) (hu : ∀ x ∈ az, UsW x.h.1 ∧ UsW x.h.2) :
    Calls Try.prog 16 #[.pointer (some ⟨s, 0, none⟩), .slice a az.length cap] w fun e w' => ∃ v, e = .returned (.tuple #[v, .int .i64 (lkA l ks az).2]) ∧ InRow w' w.heap.size v (lkA l ks az).1 ∧ Below w.heap.size w w' := by
  obtain ⟨i0, hi0, hz0, hz1, hz2⟩ := nf_open nfInt
  have H := hide h
  have HS := hide hs
  have HA := hide (show (0 < az.length → a = some ⟨g, 0, none⟩) ∧ AmL w g az from ⟨ha, hA⟩)
  have HU := hide hu
  clear h hs ha hA hu
  go_enter Try.func16, Try.ntmps16
  go_wp2_with fail
  go_step3
  go_wp2_with fail
  go_step3
  go_wp2_with fail
  go_loopw [6, 7, 13] (fun t q i wr => ∃ k : Nat, k ≤ az.length ∧ i = .int .i64 (k : Int) ∧ q = .int .i64 0 ∧ Hid (InRow wr w.heap.size t (idxA l ks 0 (az.take k)) ∧ Below w.heap.size w wr ∧ (az.take k).any (badA ks) = false)) (fun _ _ i _ => az.length - (intOf i).toNat)
  case atStart => exact ⟨0, Nat.zero_le _, rfl, rfl, hide ⟨Row.nil _ _, Below.refl _ _, rfl⟩⟩
  case round =>
    obtain ⟨k, hk, rfl, rfl, HI⟩ := hrel
    obtain ⟨W0, rfl⟩ : ∃ x, x = wr := ⟨_, rfl⟩
    obtain ⟨t0, et⟩ : ∃ u, u = u6 := ⟨_, rfl⟩
    subst et
    by_cases hlt : k < az.length
    · have ha := HA.out.1 (by omega)
      subst ha
      obtain ⟨x, hx⟩ : ∃ x, az[k] = x := ⟨_, rfl⟩
      have gl := HA.out.2.lt (by omega)
      have hcell := (HA.out.2.box (HI.out.2.1.block g gl)) k hlt
      rw [hx] at hcell
      obtain ⟨y0, y1, y2, y3, y4, y5⟩ := hcell
      have HX := hide hx
      have ux := HU.out x (by rw [← hx]; exact List.getElem_mem hlt)
      have UX := hide ux
      have i1 : (k : Int) < (az.length : Int) := by omega
      have hk0 : (k : Int) ≤ 50 := by omega
      have HK := hide (And.intro hlt hb)
      clear hx ux hk gl hb
      go_wp2_with fail
      obtain ⟨W1, hW1⟩ : ∃ z, W0.alloc (.cells #[.int .u32 x.h.1, .int .u32 x.h.2, .bool x.sd, .int .i64 x.v.n, .int .u32 x.v.s, .int .u32 x.v.g] 54) = z := ⟨_, rfl⟩
      rw [hW1]
      have B1 := hide (HI.out.2.1.trans ((show Below W0.heap.size W0 W1 by rw [← hW1]; exact below1 _ _).mono HI.out.2.1.size))
      have C1 := hide (show Ch (fun _ => False) W0 W1 by rw [← hW1]; exact Ch.alloc _ _)
      have N1 := hide (show W1.heap[W0.heap.size]? = some (.cells #[.int .u32 x.h.1, .int .u32 x.h.2, .bool x.sd, .int .i64 x.v.n, .int .u32 x.v.s, .int .u32 x.v.g] 54 (0, 0)) by rw [← hW1]; exact heap_new _ _)
      clear hW1 y0 y1 y2 y3 y4 y5
      obtain ⟨fc, hfc⟩ : ∃ fc, fc = (if x.sd then 47 else 48) := ⟨_, rfl⟩
      have HFC := hide hfc
      have hask : Calls Try.prog 30 #[amV x] W1 fun e w' => e = .returned (.func (.func fc) #[] #[]) ∧ Below W1.heap.size W1 w' := by rw [hfc]; exact asks_is W1 x
      clear hfc
      refine hask.mono ?_
      rintro e W2 ⟨rfl, hb2⟩
      clear hask
      have B2 := hide (B1.out.trans (hb2.mono B1.out.size))
      have C2 := hide (C1.out.trans (Ch.of_below (Q := fun _ => False) hb2) (fun _ _ h => h))
      have N2 := hide ((Ch.of_below (Q := fun _ => False) hb2).box N1.out (fun h => h))
      clear hb2
      have z0 : W2.cell? ⟨W0.heap.size, 0, none⟩ = some (.int .u32 x.h.1) := by simp [Lib.cell_of_heap N2.out]
      have z1 : W2.cell? ⟨W0.heap.size, 1, none⟩ = some (.int .u32 x.h.2) := by simp [Lib.cell_of_heap N2.out]
      have z2 : W2.cell? ⟨W0.heap.size, 2, none⟩ = some (.bool x.sd) := by simp [Lib.cell_of_heap N2.out]
      have z3 : W2.cell? ⟨W0.heap.size, 3, none⟩ = some (.int .i64 x.v.n) := by simp [Lib.cell_of_heap N2.out]
      have z4 : W2.cell? ⟨W0.heap.size, 4, none⟩ = some (.int .u32 x.v.s) := by simp [Lib.cell_of_heap N2.out]
      have z5 : W2.cell? ⟨W0.heap.size, 5, none⟩ = some (.int .u32 x.v.g) := by simp [Lib.cell_of_heap N2.out]
      go_wp2_with fail
      clear z0 z1 z2 z3 z4 z5
      refine (snone_is W2 x.h.1 x.h.2).mono ?_
      rintro e W3 ⟨rfl, hb3⟩
      have B3 := hide (B2.out.trans (hb3.mono B2.out.size))
      have C3 := hide (C2.out.trans (Ch.of_below (Q := fun _ => False) hb3) (fun _ _ h => h))
      have N3 := hide ((Ch.of_below (Q := fun _ => False) hb3).box N2.out (fun h => h))
      clear hb3
      rw [show (decide (x.h.1 = 0) && decide (x.h.2 = 0)) = nnH x.h from rfl]
      have R3 := hide (HI.out.1.ch C3.out (fun _ _ h => h))
      have IH := hide HI.out.2.2
      have HT := hide (show az.take (k + 1) = az.take k ++ [x] by rw [List.take_succ_eq_append_getElem HK.out.1, HX.out])
      have HL := hide (show (az.take k).length = k by rw [List.length_take]; have := HK.out.1; omega)
      have W00 := hide HI.out.2.1
      clear HI
      cases hn : nnH x.h with
      | true =>
        have HN := hide hn
        clear hn
        go_wp2_with fail
        refine ⟨?rel, ?measure⟩
        case rel =>
          refine ⟨k + 1, HK.out.1, rfl, rfl, hide ⟨?_, B3.out, ?_⟩⟩
          · rw [HT.out, idxA_snoc, HN.out]
            simpa using R3.out
          · rw [HT.out, List.any_append, IH.out]
            simp [badA, HN.out]
        case measure =>
          show az.length - ((k : Int) + 1).toNat < az.length - (k : Int).toNat
          have := HK.out.1
          omega
      | false =>
        have HN := hide hn
        clear hn
        go_wp2_with fail
        refine wp_reg (fun _ => False) (R := fun V => Ch (fun _ => False) W3 V) (by kernel_rfl) (Ch.drew _) (fun V cV zk => ?_)
        have CV := hide cV
        have B4 := hide (B3.out.trans (cV.below (N := w.heap.size) B3.out.size (fun _ _ h => h)))
        have N4 := hide (cV.box N3.out (fun h => h))
        clear cV
        have S4 := hide (show V.heap[s]? = some (.cells #[.pointer (some ⟨c, 0, none⟩), .pointer (some ⟨bp, 0, none⟩)] 70 (0, 0)) from (B4.out.block s (Array.getElem?_eq_some_iff.1 HS.out).1).trans HS.out)
        have H4 := hide (H.out.below B4.out)
        have HXX := hide (fun wq (kq : Ch (fun _ => False) V wq) => show (wq.cell? ⟨s, 0, none⟩ = some (.pointer (some ⟨c, 0, none⟩)) ∧ wq.cell? ⟨s, 1, none⟩ = some (.pointer (some ⟨bp, 0, none⟩))) ∧ wq.cell? ⟨W0.heap.size, 0, none⟩ = some (.int .u32 x.h.1) ∧ wq.cell? ⟨W0.heap.size, 1, none⟩ = some (.int .u32 x.h.2) from by
          have e0 := Lib.cell_of_heap (kq.box S4.out (fun h => h))
          have e1 := Lib.cell_of_heap (kq.box N4.out (fun h => h))
          exact ⟨⟨by simp [e0], by simp [e0]⟩, by simp [e1], by simp [e1]⟩)
        apply tk 0 kla0 rfl (by kernel_rfl) (fun _ _ _ h => h) zk
        · intro wq zq
          go_simp
          try rfl
        go_frame
        apply tk 1 kla1 rfl (by kernel_rfl) (fun _ _ _ h => h) zk
        · intro wq zq
          go_simp
          try rfl
        go_frame
        apply tk 2 kla2 rfl (by kernel_rfl) (fun _ _ _ h => h) zk
        · intro wq zq
          go_simp
          try rfl
        go_frame
        apply tk 3 kla3 rfl (by kernel_rfl) (fun _ _ _ h => h) zk
        · intro wq zq
          obtain ⟨⟨s0, s1⟩, s2, s3⟩ := HXX.out _ zq
          go_simp
          try rfl
        go_frame
        apply tk 4 kla4 rfl (by kernel_rfl) (fun _ _ _ h => h) zk
        · intro wq zq
          go_simp
          try rfl
        go_frame
        apply tk 5 kla5 rfl (by kernel_rfl) (fun _ _ _ h => h) zk
        · intro wq zq
          obtain ⟨⟨s0, s1⟩, s2, s3⟩ := HXX.out _ zq
          go_simp
          try rfl
        go_frame
        have ZK := hide zk
        clear zk
        cases hh : (fnk ks x.h) with
        | none =>
          have HH := hide hh
          have HQ := hide (show (!(fnk ks x.h).isSome) = true from by rw [hh]; rfl)
          clear hh
          have zk := ZK.out
          refine Go.Proofs.Ytbblmbbpicinlab.rd 6 kla6 rfl (by kernel_rfl) fun K hK => ?_
          go_simp
          refine (sw_has (H4.out.quiet zk) x.h).mono ?_
          rintro e W5 ⟨rfl, hb5⟩
          have Z5 := hide (zk.trans (Ch.of_below (Q := fun _ => False) hb5) (fun _ _ h => h))
          clear hb5
          go_wp2_with fail
          refine hK.out _ _ ?_ (fun zk => ?_)
          · exact Z5.out
          clear hK K
          try go_frame
          apply tk 7 kla7 rfl (by kernel_rfl) (fun _ _ _ h => h) zk
          · intro wq zq
            have hq := HQ.out
            go_simp
            try rfl
          go_frame
          apply tk 8 kla8 rfl (by kernel_rfl) (fun _ _ _ h => h) zk
          · intro wq zq
            go_simp
            try rfl
          go_frame
          refine wpAnyH_done (by kernel_rfl) ?_ _
          have Z8 := hide zk
          clear zk HXX
          go_wp2_with fail
          try rw [Exit.noGoto_ret]
          go_ret2
          have hlk : lkA l ks az = ([], 141) := by
            unfold lkA
            rw [if_pos]
            rw [List.any_eq_true]
            exact ⟨x, by rw [← HX.out]; exact List.getElem_mem HK.out.1, by simp [badA, HN.out, HH.out]⟩
          rw [hlk]
          exact ⟨_, rfl, Row.nil _ _, B4.out.trans (Z8.out.below (N := w.heap.size) B4.out.size (fun _ _ h => h))⟩
        | some y =>
          have HH := hide hh
          have HQ := hide (show (!(fnk ks x.h).isSome) = false from by rw [hh]; rfl)
          have HBD := hide (show badA ks x = false from by simp [badA, HN.out, hh])
          clear hh
          have zk := ZK.out
          refine Go.Proofs.Ytbblmbbpicinlab.rd 6 kla6 rfl (by kernel_rfl) fun K hK => ?_
          go_simp
          refine (sw_has (H4.out.quiet zk) x.h).mono ?_
          rintro e W5 ⟨rfl, hb5⟩
          have Z5 := hide (zk.trans (Ch.of_below (Q := fun _ => False) hb5) (fun _ _ h => h))
          clear hb5
          go_wp2_with fail
          refine hK.out _ _ ?_ (fun zk => ?_)
          · exact Z5.out
          clear hK K
          try go_frame
          apply tk 7 kla7 rfl (by kernel_rfl) (fun _ _ _ h => h) zk
          · intro wq zq
            have hq := HQ.out
            go_simp
            try rfl
          go_frame
          apply tk 8 kla8 rfl (by kernel_rfl) (fun _ _ _ h => h) zk
          · intro wq zq
            go_simp
            try rfl
          go_frame
          refine wpAnyH_done (by kernel_rfl) ?_ _
          have Z8 := hide zk
          clear zk HXX
          go_wp2_with fail
          have B5 := hide (B4.out.trans (Z8.out.below (N := w.heap.size) B4.out.size (fun _ _ h => h)))
          have N5 := hide (Z8.out.box N4.out (fun h => h))
          have R5 := hide ((R3.out.ch CV.out (fun _ _ h => h)).ch Z8.out (fun _ _ h => h))
          clear ZK Z8 Z5
          refine wp_reg (fun _ => False) (R := fun Y => Ch (fun _ => False) W5 Y) (by kernel_rfl) (Ch.drew _) (fun Y cY zk => ?_)
          have B6 := hide (B5.out.trans (cY.below (N := w.heap.size) B5.out.size (fun _ _ h => h)))
          have N6 := hide (cY.box N5.out (fun h => h))
          have R6 := hide (R5.out.ch cY (fun _ _ h => h))
          clear cY
          have S6 := hide (show Y.heap[s]? = some (.cells #[.pointer (some ⟨c, 0, none⟩), .pointer (some ⟨bp, 0, none⟩)] 70 (0, 0)) from (B6.out.block s (Array.getElem?_eq_some_iff.1 HS.out).1).trans HS.out)
          have H6 := hide (H.out.below B6.out)
          have HXX := hide (fun wq (kq : Ch (fun _ => False) Y wq) => show (wq.cell? ⟨s, 0, none⟩ = some (.pointer (some ⟨c, 0, none⟩)) ∧ wq.cell? ⟨s, 1, none⟩ = some (.pointer (some ⟨bp, 0, none⟩))) ∧ wq.cell? ⟨W0.heap.size, 0, none⟩ = some (.int .u32 x.h.1) ∧ wq.cell? ⟨W0.heap.size, 1, none⟩ = some (.int .u32 x.h.2) from by
            have e0 := Lib.cell_of_heap (kq.box S6.out (fun h => h))
            have e1 := Lib.cell_of_heap (kq.box N6.out (fun h => h))
            exact ⟨⟨by simp [e0], by simp [e0]⟩, by simp [e1], by simp [e1]⟩)
          have HCAN := hide (fun wq (kq : Ch (fun _ => False) Y wq) => show Calls Try.prog fc #[.pointer (some ⟨c, 0, none⟩), hkV x.h] wq fun e w' => e = .returned (.bool (rdA l ks x)) ∧ Below wq.heap.size wq w' from by
            rw [HFC.out]
            unfold rdA
            cases x.sd
            · rw [if_neg (by decide), if_neg (by decide)]; exact sw_canRecv (H6.out.quiet kq) hl UX.out.1 UX.out.2
            · rw [if_pos rfl, if_pos rfl]; exact sw_canSend (H6.out.quiet kq) hl UX.out.1 UX.out.2)
          have hen : Enters fc := by
            rw [HFC.out]
            cases x.sd
            · rw [if_neg (by decide)]; exact en_canRecv
            · rw [if_pos rfl]; exact en_canSend
          apply tk 0 klb0 rfl (by kernel_rfl) (fun _ _ _ h => h) zk
          · intro wq zq
            go_simp
            try rfl
          go_frame
          apply tk 1 klb1 rfl (by kernel_rfl) (fun _ _ _ h => h) zk
          · intro wq zq
            go_simp
            try rfl
          go_frame
          apply tk 2 klb2 rfl (by kernel_rfl) (fun _ _ _ h => h) zk
          · intro wq zq
            go_simp
            try rfl
          go_frame
          apply tk 3 klb3 rfl (by kernel_rfl) (fun _ _ _ h => h) zk
          · intro wq zq
            go_simp
            try rfl
          go_frame
          apply tk 4 klb4 rfl (by kernel_rfl) (fun _ _ _ h => h) zk
          · intro wq zq
            obtain ⟨⟨s0, s1⟩, s2, s3⟩ := HXX.out _ zq
            go_simp
            try rfl
          go_frame
          apply tk 5 klb5 rfl (by kernel_rfl) (fun _ _ _ h => h) zk
          · intro wq zq
            go_simp
            try rfl
          go_frame
          apply tk 6 klb6 rfl (by kernel_rfl) (fun _ _ _ h => h) zk
          · intro wq zq
            obtain ⟨⟨s0, s1⟩, s2, s3⟩ := HXX.out _ zq
            go_simp
            try rfl
          go_frame
          refine Go.Proofs.Ytbblmbbpicinlab.rd 7 klb7 rfl (by kernel_rfl) fun K hK => ?_
          go_simp
          refine (HCAN.out _ zk).mono ?_
          rintro e W7 ⟨rfl, hb7⟩
          have Z7 := hide (zk.trans (Ch.of_below (Q := fun _ => False) hb7) (fun _ _ h => h))
          clear hb7
          go_wp2_with fail
          refine hK.out _ _ ?_ (fun zk => ?_)
          · exact Z7.out
          clear hK K
          try go_frame
          apply tk 8 klb8 rfl (by kernel_rfl) (fun _ _ _ h => h) zk
          · intro wq zq
            go_simp
            try rfl
          go_frame
          refine wpAnyH_done (by kernel_rfl) ?_ _
          have B7 := hide (B6.out.trans (zk.below (N := w.heap.size) B6.out.size (fun _ _ h => h)))
          have R7 := hide (R6.out.ch zk (fun _ _ h => h))
          clear HXX Z7 HCAN hen
          cases hr : rdA l ks x with
          | false =>
            have HR0 := hide hr
            clear hr
            go_wp2_with fail
            refine ⟨?rel, ?measure⟩
            case rel =>
              refine ⟨k + 1, HK.out.1, rfl, rfl, hide ⟨?_, B7.out, ?_⟩⟩
              · rw [HT.out, idxA_snoc, HN.out, HR0.out]
                simpa using R7.out
              · rw [HT.out, List.any_append, IH.out]
                simp [HBD.out]
            case measure =>
              show az.length - ((k : Int) + 1).toNat < az.length - (k : Int).toNat
              have := HK.out.1
              omega
          | true =>
            have HR0 := hide hr
            clear hr
            have HOW := hide (World.ownsRow.alloc R7.out (.cells #[.int .i64 (k : Int)] 3))
            have HN1 := hide (row_new W7 (inF k) 3 rfl)
            have hlen := idxA_len l ks 0 (az.take k)
            rw [HL.out] at hlen
            have HM1 := hide (show (idxA l ks 0 (az.take k)).length + 1 ≤ maxLen by unfold maxLen; have := HK.out; omega)
            have HM2 := hide (show ((idxA l ks 0 (az.take k)).length + 1) * 8 ≤ 140737488355328 by have := HK.out; omega)
            have HM3 := hide (show w.heap.size ≤ (W7.alloc (.cells #[.int .i64 (k : Int)] 3)).heap.size by have := B7.out.size; simp; omega)
            clear hlen
            go_wp2_with (at_builtin; refine wpList_append_own_at _ rfl _ _ 36 rfl w.heap.size 3 i0 (.int .i64 0) 1 8 Try.underlying36 hi0 hz0 hz1 hz2 rfl (by decide) _ (idxA l ks 0 (az.take k)).length ((idxA l ks 0 (az.take k)).flatMap inF) rfl HOW.out ⟨W7.heap.size, 0, none⟩ 1 1 (inF k) rfl rfl HN1.out (inF_one k) HM1.out HM2.out HM3.out ?_)
            intro v5 w5 hown5 hgrow5 _ _
            have R8 := hide (show InRow w5 w.heap.size v5 (idxA l ks 0 (az.take k) ++ [k]) from Row.snoc hown5)
            have hlo : ∀ y, y < w.heap.size → ¬ t0.ownBlock = some y := fun y hy e => by have := (own_in R7.out e).1; omega
            have B8 := hide (B7.out.trans ((((Ch.alloc (Q := fun y => t0.ownBlock = some y) W7 _).trans (Ch.of_grown (Q := fun y => t0.ownBlock = some y) hgrow5 (fun _ e => e)) (fun _ _ h => h))).below (N := w.heap.size) B7.out.size hlo))
            clear hown5 hgrow5 hlo
            go_wp2_with fail
            refine ⟨?rel, ?measure⟩
            case rel =>
              refine ⟨k + 1, HK.out.1, rfl, rfl, hide ⟨?_, B8.out, ?_⟩⟩
              · rw [HT.out, idxA_snoc, HN.out, HR0.out, HL.out]
                simpa using R8.out
              · rw [HT.out, List.any_append, IH.out]
                simp [HBD.out]
            case measure =>
              show az.length - ((k : Int) + 1).toNat < az.length - (k : Int).toNat
              have := HK.out.1
              omega
    · have ek : k = az.length := by omega
      have et : az.take k = az := List.take_of_length_le (by omega)
      have i1 : ¬ (k : Int) < (az.length : Int) := by omega
      have hbad := HI.out.2.2
      rw [et] at hbad
      have hlk : lkA l ks az = (idxA l ks 0 az, 0) := by
        unfold lkA
        rw [hbad, if_neg (by decide)]
      have HR := hide (show InRow W0 w.heap.size t0 (idxA l ks 0 az) by have := HI.out.1; rwa [et] at this)
      have HD := hide HI.out.2.1
      have HLK := hide hlk
      clear hlt et hk hlk hbad HI
      go_wp2_with fail
      try rw [Exit.noGoto_ret]
      go_ret2
      rw [HLK.out]
      exact ⟨_, rfl, HR.out, HD.out⟩

end Go.Proofs.Ytbblmbbpicinlab

namespace Go.Proofs.Ytbblmbbpicinlab
open Go.RowKit

/-- the place of a number -/
def ixN (zs : List Nat) (v : Int) : Int := match zs.findIdx? (fun z : Nat => decide (v = (z : Int))) with | none => -1 | some i => (i : Int)
def inN (zs : List Nat) (v : Int) : Bool := zs.any fun z : Nat => decide (v = (z : Int))
theorem ixN_in (zs : List Nat) (v : Int) : decide (0 ≤ ixN zs v) = inN zs v := by
  unfold ixN inN
  cases h : zs.findIdx? (fun z : Nat => decide (v = (z : Int))) with
  | none =>
    rw [List.findIdx?_eq_none_iff] at h
    have : zs.any (fun z : Nat => decide (v = (z : Int))) = false := by
      rw [List.any_eq_false]
      intro z hz
      have := h z hz
      simpa using this
    rw [this]
    rfl
  | some i =>
    obtain ⟨hi, h1, _⟩ := List.findIdx?_eq_some_iff_getElem.1 h
    have : zs.any (fun z : Nat => decide (v = (z : Int))) = true := List.any_eq_true.2 ⟨zs[i], List.getElem_mem hi, h1⟩
    rw [this]
    exact decide_eq_true (show (0 : Int) ≤ (i : Int) by omega)

set_option maxRecDepth 100000 in
set_option maxHeartbeats 8000000 in
theorem index_is {w : World} {B : Nat} {v : Value} {zs : List Nat} (h : InRow w B v zs) (hl : zs.length ≤ 1000) (i : Int) : Calls Try.prog 34 #[v, .int .i64 i] w fun e w' => e = .returned (.int .i64 (ixN zs i)) ∧ Below w.heap.size w w' := by
  obtain ⟨a, c, rfl, -, -⟩ := h.form
  have H := hide h
  clear h
  go_enter Try.func34, Try.ntmps34
  go_wp2
  go_loopw [8] (fun q wr => ∃ k : Nat, k ≤ zs.length ∧ q = .int .i64 (k : Int) ∧ Hid ((∃ m, wr = w.drewN m) ∧ ∀ j (hj : j < zs.length), j < k → ¬ i = (zs[j] : Int))) (fun q _ => zs.length - (intOf q).toNat)
  case atStart => exact ⟨0, Nat.zero_le _, rfl, hide ⟨⟨0, rfl⟩, fun j _ hj => absurd hj (Nat.not_lt_zero _)⟩⟩
  case round =>
    obtain ⟨k, hk, rfl, HI⟩ := hrel
    obtain ⟨⟨m, hm⟩, hno⟩ := HI.out
    subst hm
    have HNO := hide hno
    clear hno HI
    by_cases hlt : k < zs.length
    · obtain ⟨g, c', cur, e, -, -, -, -, -, hc⟩ := H.out.at inF_len (by omega)
      cases e
      have h0 : (w.drewN m).cell? ⟨g, k, none⟩ = some (.int .i64 (zs[k] : Int)) := by
        have := hc k hlt 0 _ rfl
        simpa using this
      have i1 : (k : Int) < (zs.length : Int) := by omega
      have i0 : (k : Int) ≤ 1000 := by omega
      have HLT := hide (And.intro hlt hl)
      obtain ⟨z, hz⟩ : ∃ z, zs[k] = z := ⟨_, rfl⟩
      rw [hz] at h0
      have HZ := hide (show zs[k]'(HLT.out.1) = z from hz)
      clear hc hk hlt hl hz
      by_cases he : i = (z : Int)
      · have hq : (i == (z : Int)) = true := by simpa using he
        have HE := hide he
        clear he
        go_wp2_with fail
        go_ret
        have hx : ixN zs i = (k : Int) := by
          unfold ixN
          rw [List.findIdx?_eq_some_iff_getElem.2 ⟨HLT.out.1, by rw [HZ.out]; exact decide_eq_true HE.out, fun j hj => by simpa using HNO.out j (by have := HLT.out.1; omega) hj⟩]
        rw [hx]
        exact ⟨rfl, below_dr _ _ _⟩
      · have hq : (i == (z : Int)) = false := by simpa using he
        have HE := hide he
        clear he
        go_wp2_with fail
        refine ⟨?rel, ?measure⟩
        case rel =>
          refine ⟨k + 1, HLT.out.1, rfl, hide ⟨⟨_, rfl⟩, fun j hj hjk => ?_⟩⟩
          by_cases e : j = k
          · subst e
            rw [HZ.out]
            exact HE.out
          · exact HNO.out j hj (by omega)
        case measure =>
          show zs.length - ((k : Int) + 1).toNat < zs.length - (k : Int).toNat
          have := HLT.out.1
          omega
    · have i1 : ¬ (k : Int) < (zs.length : Int) := by omega
      have hx : ixN zs i = -1 := by
        unfold ixN
        rw [List.findIdx?_eq_none_iff.2 (fun z hz => by
          obtain ⟨j, hj, rfl⟩ := List.getElem_of_mem hz
          simpa using HNO.out j hj (by omega))]
      have HXX := hide hx
      clear hlt hk hx
      go_wp2_with fail
      go_ret
      rw [HXX.out]
      exact ⟨rfl, below_dr _ _ _⟩

set_option maxRecDepth 100000 in
theorem contains_is {w : World} {B : Nat} {v : Value} {zs : List Nat} (h : InRow w B v zs) (hl : zs.length ≤ 1000) (i : Int) : Calls Try.prog 18 #[v, .int .i64 i] w fun e w' => e = .returned (.bool (inN zs i)) ∧ Below w.heap.size w w' := by
  obtain ⟨a, c, rfl, -, -⟩ := h.form
  have H := hide h
  clear h
  go_enter Try.func18, Try.ntmps18
  go_wp2_with fail
  refine (index_is H.out hl i).mono ?_
  rintro e w' ⟨rfl, hb⟩
  go_wp2_with fail
  go_ret
  rw [← ixN_in zs i]
  exact ⟨rfl, hb⟩

end Go.Proofs.Ytbblmbbpicinlab

namespace Go.Proofs.Ytbblmbbpicinlab
open Go.RowKit

abbrev kas0 : Oper := { dst := some 14, op := Op.move (Operand.tmp 0), type := 33, pos := "sel.go:74", after := #[], guard := none }
abbrev kas1 : Oper := { dst := some 15, op := Op.nilCheck (Operand.tmp 14), type := 0, pos := "sel.go:74", after := #[{ on := 0, ground := Ground.data }], guard := none }
abbrev kas2 : Oper := { dst := some 16, op := Op.fieldAddr 70 (Operand.tmp 15) 1, type := 0, pos := "sel.go:74", after := #[{ on := 1, ground := Ground.data }], guard := none }
abbrev kas3 : Oper := { dst := some 17, op := Op.load 27 (Operand.tmp 16), type := 27, pos := "sel.go:74", after := #[{ on := 2, ground := Ground.data }], guard := none }
abbrev kas4 : Oper := { dst := some 18, op := Op.load 24 (Operand.tmp 4), type := 24, pos := "sel.go:74", after := #[], guard := none }
abbrev kas5 : Oper := { dst := some 19, op := Op.call { callee := Callee.value (Operand.func 33), args := #[Operand.tmp 17, Operand.tmp 18], argTypes := #[27, 24] }, type := 94, pos := "sel.go:74", after := #[{ on := 3, ground := Ground.data }, { on := 4, ground := Ground.data }], guard := none }
abbrev kas6 : Oper := { dst := some 20, op := Op.call { callee := Callee.builtin Builtin.len, args := #[Operand.tmp 19], argTypes := #[94] }, type := 3, pos := "sel.go:74", after := #[{ on := 5, ground := Ground.data }], guard := none }
abbrev kas7 : Oper := { dst := some 21, op := Op.binOp BinOp.gtr 3 (Operand.tmp 20) (Operand.const (Value.int IntKind.i64 0)) 3, type := 4, pos := "sel.go:74", after := #[{ on := 6, ground := Ground.data }], guard := none }

/-- what is known of the arms -/
structure AmOk (x : Am) : Prop where
  h1 : UsW x.h.1
  h2 : UsW x.h.2
  v0 : I64 x.v.n
  v1 : UsW x.v.s
  v2 : UsW x.v.g
/-- arms that are handed in: their value -/
structure ArmsIn (w : World) (a : Option Addr) (g : Nat) (az : List Am) : Prop where
  addr : 0 < az.length → a = some ⟨g, 0, none⟩
  mem : AmL w g az
theorem ArmsIn.ch {Q : Nat → Prop} {w w' : World} {a : Option Addr} {g : Nat} {az : List Am} (h : ArmsIn w a g az) (hc : Ch Q w w') (hq : ¬ Q g) : ArmsIn w' a g az := ⟨h.addr, h.mem.ch hc hq⟩
theorem plA_small (l : List Wt) (ks : List Kn) (az : List Am) : (plA l ks az).1.length ≤ 50 := by
  unfold plA lkA
  split
  · simp
  · split
    · simp
    · have := idxA_len l ks 0 az
      show (idxA l ks 0 az).length ≤ 50
      omega
theorem akA_small (l : List Wt) (ks : List Kn) (g : Hnd) (az : List Am) : (akA l ks g az).1.length ≤ 50 := by
  unfold akA
  split
  · simp
  · split
    · simp
    · exact plA_small l ks az

section
variable {w : World} {B c bp s g cap : Nat} {l : List Wt} {ks : List Kn} {G : Nat → Prop} {az : List Am} {a : Option Addr}

set_option maxRecDepth 100000 in
set_option maxHeartbeats 8000000 in
theorem poll_is (h : SW w B c bp l ks G) (hl : l.length ≤ 100000) (hs : SelAt w s c bp) (hA : ArmsIn w a g az) (hu : ∀ x ∈ az, AmOk x) (hb0 : az.length ≤ 1000000) :
    Calls Try.prog 8 #[.pointer (some ⟨s, 0, none⟩), .slice a az.length cap] w fun e w' => ∃ v, e = .returned (.tuple #[v, .int .i64 (plA l ks az).2]) ∧ InRow w' w.heap.size v (plA l ks az).1 ∧ Below w.heap.size w w' := by
  have H := hide h
  have HS := hide hs
  have HA := hide hA
  have HU := hide hu
  clear h hs hA hu
  by_cases hb : 50 < az.length
  · have hp : plA l ks az = ([], 151) := by unfold plA; rw [if_pos hb]
    have HP := hide hp
    have hb2 : (az.length : Int) > 50 := by omega
    clear hp hb
    go_enter Try.func8, Try.ntmps8
    go_wp2_with fail
    go_ret2
    rw [HP.out]
    exact ⟨_, rfl, Row.nil _ _, Below.refl _ _⟩
  · have hp : plA l ks az = lkA l ks az := by unfold plA; rw [if_neg hb]
    have HP := hide hp
    have HB := hide hb
    have hb2 : ¬ (az.length : Int) > 50 := by omega
    clear hp hb
    go_enter Try.func8, Try.ntmps8
    go_wp2_with fail
    refine (look_is (cap := cap) H.out hl HS.out HA.out.addr HA.out.mem (by have := HB.out; omega) (fun x hx => ⟨(HU.out x hx).h1, (HU.out x hx).h2⟩)).mono ?_
    rintro e w' ⟨v, rfl, hr, hbw⟩
    have HR := hide hr
    have HW := hide hbw
    clear hr hbw
    go_wp2_with fail
    go_ret2
    rw [HP.out]
    exact ⟨_, rfl, HR.out, HW.out⟩

set_option maxRecDepth 100000 in
set_option maxHeartbeats 8000000 in
theorem asked_is (h : SW w B c bp l ks G) (hl : l.length ≤ 100000) (hs : SelAt w s c bp) (hA : ArmsIn w a g az) (hu : ∀ x ∈ az, AmOk x) (hb0 : az.length ≤ 1000000) {gr : Hnd} (g1 : UsW gr.1) (g2 : UsW gr.2) :
    Calls Try.prog 17 #[.pointer (some ⟨s, 0, none⟩), hkV gr, .slice a az.length cap] w fun e w' => ∃ v, e = .returned (.tuple #[v, .int .i64 (akA l ks gr az).2]) ∧ InRow w' w.heap.size v (akA l ks gr az).1 ∧ Below w.heap.size w w' := by
  obtain ⟨w1, hw1⟩ : ∃ w1, w.alloc (.cells #[.int .u32 gr.1, .int .u32 gr.2] 24) = w1 := ⟨_, rfl⟩
  have hb1 : Below w.heap.size w w1 := by rw [← hw1]; exact below1 _ _
  have hn1 : w1.heap[w.heap.size]? = some (.cells #[.int .u32 gr.1, .int .u32 gr.2] 24 (0, 0)) := by rw [← hw1]; exact heap_new _ _
  have HB1 := hide hb1
  have HN1 := hide hn1
  have H := hide (h.below hb1)
  have HS := hide (show SelAt w1 s c bp from (Ch.of_below (Q := fun _ => False) hb1).box hs (fun h => h))
  have HA := hide (hA.ch (Ch.of_below (Q := fun _ => False) hb1) (fun h => h))
  have HU := hide hu
  have k0 : w1.cell? ⟨w.heap.size, 0, none⟩ = some (.int .u32 gr.1) := by simp [Lib.cell_of_heap hn1]
  have k1 : w1.cell? ⟨w.heap.size, 1, none⟩ = some (.int .u32 gr.2) := by simp [Lib.cell_of_heap hn1]
  clear h hs hA hu hb1 hn1
  go_enter Try.func17, Try.ntmps17
  go_wp2_with fail
  clear hw1
  refine (snone_is w1 gr.1 gr.2).mono ?_
  rintro e w2 ⟨rfl, hb⟩
  have C2 := hide (Ch.of_below (Q := fun _ => False) hb)
  have HB2 := hide (HB1.out.trans (hb.mono HB1.out.size))
  have HN2 := hide (C2.out.box HN1.out (fun h => h))
  clear hb k0 k1
  rw [show (decide (gr.1 = 0) && decide (gr.2 = 0)) = nnH gr from rfl]
  cases hnn : nnH gr with
  | true =>
    have HP := hide (show akA l ks gr az = ([], 1) from by unfold akA; rw [if_pos hnn])
    clear hnn
    go_wp2_with fail
    go_ret2
    rw [HP.out]
    exact ⟨_, rfl, Row.nil _ _, HB2.out⟩
  | false =>
    have HN := hide hnn
    clear hnn
    go_wp2_with fail
    refine wp_reg (fun _ => False) (R := fun V => Ch (fun _ => False) w2 V) (by kernel_rfl) (Ch.drew _) (fun V cV zk => ?_)
    have CV := hide (C2.out.trans cV (fun _ _ h => h))
    have BE := hide (HB2.out.trans (cV.below (N := w.heap.size) HB2.out.size (fun _ _ h => h)))
    clear cV
    have HXX := hide (fun wq (kq : Ch (fun _ => False) V wq) => show (wq.cell? ⟨s, 0, none⟩ = some (.pointer (some ⟨c, 0, none⟩)) ∧ wq.cell? ⟨s, 1, none⟩ = some (.pointer (some ⟨bp, 0, none⟩))) ∧ wq.cell? ⟨w.heap.size, 0, none⟩ = some (.int .u32 gr.1) ∧ wq.cell? ⟨w.heap.size, 1, none⟩ = some (.int .u32 gr.2) from by
      have e0 := Lib.cell_of_heap ((CV.out.trans kq (fun _ _ h => h)).box HS.out (fun h => h))
      have e1 := Lib.cell_of_heap ((CV.out.trans kq (fun _ _ h => h)).box HN1.out (fun h => h))
      exact ⟨⟨by simp [e0], by simp [e0]⟩, by simp [e1], by simp [e1]⟩)
    obtain ⟨F, hpt, -⟩ := (H.out.quiet CV.out).book
    have HPT := hide hpt
    clear hpt
    apply tk 0 kas0 rfl (by kernel_rfl) (fun _ _ _ h => h) zk
    · intro wq zq
      go_simp
      try rfl
    go_frame
    apply tk 1 kas1 rfl (by kernel_rfl) (fun _ _ _ h => h) zk
    · intro wq zq
      go_simp
      try rfl
    go_frame
    apply tk 2 kas2 rfl (by kernel_rfl) (fun _ _ _ h => h) zk
    · intro wq zq
      go_simp
      try rfl
    go_frame
    apply tk 3 kas3 rfl (by kernel_rfl) (fun _ _ _ h => h) zk
    · intro wq zq
      obtain ⟨⟨s0, s1⟩, s2, s3⟩ := HXX.out _ zq
      go_simp
      try rfl
    go_frame
    apply tk 4 kas4 rfl (by kernel_rfl) (fun _ _ _ h => h) zk
    · intro wq zq
      obtain ⟨⟨s0, s1⟩, s2, s3⟩ := HXX.out _ zq
      go_simp
      try rfl
    go_frame
    refine Go.Proofs.Ytbblmbbpicinlab.rd 5 kas5 rfl (by kernel_rfl) fun K hK => ?_
    go_simp
    refine (face.of gr.1 gr.2 g1 g2 (face.ch HPT.out zk (fun _ _ h => h)) hl).mono ?_
    rintro e W5 ⟨v5, rfl, hr5, hb5⟩
    obtain ⟨a5, c5, rfl, -, -⟩ := hr5.form
    have Z5 := hide (zk.trans (Ch.of_below (Q := fun _ => False) hb5) (fun _ _ h => h))
    clear hb5 hr5
    go_wp2_with fail
    refine hK.out _ _ ?_ (fun zk => ?_)
    · exact Z5.out
    clear hK K
    try go_frame
    have HL := hide zk
    by_cases hq : 0 < (sel (isWho gr.1 gr.2) l).length
    · have HP := hide (show akA l ks gr az = ([], 143) from by unfold akA; rw [HN.out, if_neg (by decide), if_pos hq])
      clear HL
      have hq2 : ((sel (isWho gr.1 gr.2) l).length : Int) > 0 := by omega
      clear hq
      apply tk 6 kas6 rfl (by kernel_rfl) (fun _ _ _ h => h) zk
      · intro wq zq
        go_simp
        try rfl
      go_frame
      apply tk 7 kas7 rfl (by kernel_rfl) (fun _ _ _ h => h) zk
      · intro wq zq
        go_simp
        try rfl
      go_frame
      refine wpAnyH_done (by kernel_rfl) ?_ _
      have Z9 := hide zk
      clear zk
      go_wp2_with fail
      go_ret2
      rw [HP.out]
      exact ⟨_, rfl, Row.nil _ _, BE.out.trans (Z9.out.below (N := w.heap.size) BE.out.size (fun _ _ h => h))⟩
    · have HP := hide (show akA l ks gr az = plA l ks az from by unfold akA; rw [HN.out, if_neg (by decide), if_neg hq])
      clear HL
      have hq2 : ¬ ((sel (isWho gr.1 gr.2) l).length : Int) > 0 := by omega
      clear hq
      apply tk 6 kas6 rfl (by kernel_rfl) (fun _ _ _ h => h) zk
      · intro wq zq
        go_simp
        try rfl
      go_frame
      apply tk 7 kas7 rfl (by kernel_rfl) (fun _ _ _ h => h) zk
      · intro wq zq
        go_simp
        try rfl
      go_frame
      refine wpAnyH_done (by kernel_rfl) ?_ _
      have Z9 := hide zk
      clear zk
      have C9 := hide (CV.out.trans Z9.out (fun _ _ h => h))
      go_wp2_with fail
      refine (poll_is (cap := cap) (H.out.quiet C9.out) hl ((show SelAt _ s c bp from C9.out.box HS.out (fun h => h))) (HA.out.ch C9.out (fun h => h)) HU.out hb0).mono ?_
      rintro e w9 ⟨v, rfl, hr, hbw⟩
      have HR := hide hr
      have HW := hide hbw
      have BE9 := hide (BE.out.trans (Z9.out.below (N := w.heap.size) BE.out.size (fun _ _ h => h)))
      clear hr hbw
      go_wp2_with fail
      go_ret2
      rw [HP.out]
      exact ⟨_, rfl, rowLow HR.out BE9.out.size, BE9.out.trans (HW.out.mono BE9.out.size)⟩
end

end Go.Proofs.Ytbblmbbpicinlab
