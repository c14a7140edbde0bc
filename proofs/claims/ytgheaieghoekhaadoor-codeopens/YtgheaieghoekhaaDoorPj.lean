/- The table, out of what the rows list. -/
import Derived.Test.YtgheaieghoekhaaDoorPi
namespace Go.Proofs.YtgheaieghoekhaaDoor
open Go.ChangeShapes Go.WideShapes Go.ChangeAt Go.RowKit Go.Deep

theorem gTbl : Tryd.prog.globalNamed "drowse/code.table" = some 0 := by kernel_rfl
theorem gTblType : (Tryd.prog.globals[0]?).map (·.type) = some 58 := by kernel_rfl
theorem ceTbl : Tryd.prog.cellsOf 58 = 176 := by kernel_rfl
theorem ceRow : Tryd.prog.cellsOf 57 = 4 := by kernel_rfl
theorem ceOpd : Tryd.prog.cellsOf 55 = 1 := by kernel_rfl
theorem ceU8 : Tryd.prog.cellsOf 5 = 1 := by kernel_rfl

def tblL : List (DataW Unit) := (List.range 44).map fun i => .agg [.lit (.int .u8 (tA i : Int)), .lit (.int .u8 (tT i : Int)), .lit (.int .u8 (tG i : Int)), .lit (.bool (tS i))]
theorem tbl_is : Rows.laid_drowse_code_table = (.agg tblL : DataW Unit) := by kernel_rfl

set_option maxRecDepth 100000 in
theorem row_lit {H : Type} {enc : TypeId × Value → H} {w : World} {base : Nat} {spare : Nat → Bool} {held : Bool} {fuel : Nat} {cs : List Value} {a b c : Int} {d : Bool} {q : List MemPlace}
    (h : DataW.trod enc Tryd.prog w base spare held fuel 57 cs = some (.agg [.lit (.int .u8 a), .lit (.int .u8 b), .lit (.int .u8 c), .lit (.bool d)], q)) : cs = [.int .u8 a, .int .u8 b, .int .u8 c, .bool d] := by
  obtain ⟨xs, k, hk, hxy, hlen, hxl, hf⟩ := DataW.trod_struct Tryd.underlying57 h
  rw [ceRow] at hlen
  match xs, hxl, cs, hlen with
  | [y0, y1, y2, y3], _, [v0, v1, v2, v3], _ =>
    have g0 := hf 0 _ rfl
    have g1 := hf 1 _ rfl
    have g2 := hf 2 _ rfl
    have g3 := hf 3 _ rfl
    simp [ceOpd, ceU8, ceBool] at g0 g1 g2 g3
    have e := congrArg Prod.fst hxy
    simp at e
    obtain ⟨e0, e1, e2, e3⟩ := e
    obtain ⟨z0, c0, r0, _⟩ := DataW.trod_int Tryd.underlying55 g0
    obtain ⟨z1, c1, r1, _⟩ := DataW.trod_int Tryd.underlying5 g1
    obtain ⟨z2, c2, r2, _⟩ := DataW.trod_int Tryd.underlying5 g2
    obtain ⟨z3, c3, r3⟩ := DataW.trod_bool Tryd.underlying4 g3
    rw [r0] at e0
    rw [r1] at e1
    rw [r2] at e2
    rw [r3] at e3
    simp at e0 e1 e2 e3 c0 c1 c2 c3
    subst e0 e1 e2 e3 c0 c1 c2 c3
    rfl

theorem tb_of {W : World} (h : laidMetH Tryd.prog laids1 W) : Tb W ∧ 0 < W.heap.size := by
  have h0 : laidMet Tryd.prog laids1 W := h
  obtain ⟨ps, ⟨g', t', cs, fuel, p, q, hg', ht', hvar, hd, _, _⟩, _⟩ := h0
  obtain rfl := Option.some.inj (gTbl.symm.trans hg')
  obtain rfl := Option.some.inj (gTblType.symm.trans ht')
  rw [tbl_is] at hd
  cases fuel with
  | zero => simp [DataW.trod] at hd
  | succ fuel =>
    simp only [DataW.trod, Tryd.underlying58, ceRow, ceTbl] at hd
    split at hd
    · rename_i hl
      obtain ⟨xs, hm, hx⟩ := Option.map_eq_some_iff.1 hd
      have hxs : xs.map (·.1) = tblL := by
        have := congrArg Prod.fst hx
        simpa using this
      have hcell : ∀ o u, cs[o]? = some u → W.cell? ⟨0, o, none⟩ = some u := fun o u hu => (World.var?_cell gTbl hvar o).trans hu
      have hrow : ∀ k, k < 44 → (cs.toList.drop (k * 4)).take 4 = [.int .u8 (tA k : Int), .int .u8 (tT k : Int), .int .u8 (tG k : Int), .bool (tS k)] := by
        intro k hk
        obtain ⟨b, hb, hf⟩ := Lib.mapM_at hm k k (by simp [hk])
        have h2 : (xs.map (·.1))[k]? = some b.1 := by simp [hb]
        rw [hxs] at h2
        have h3 : tblL[k]? = some (.agg [.lit (.int .u8 (tA k : Int)), .lit (.int .u8 (tT k : Int)), .lit (.int .u8 (tG k : Int)), .lit (.bool (tS k))]) := by simp [tblL, hk]
        obtain ⟨b1, b2⟩ := b
        have h4 := Option.some.inj (h3.symm.trans h2)
        simp only at h4
        subst h4
        exact row_lit hf
      have hat : ∀ k, k < 44 → ∀ j u, [Value.int .u8 (tA k : Int), .int .u8 (tT k : Int), .int .u8 (tG k : Int), .bool (tS k)][j]? = some u → W.cell? ⟨0, k * 4 + j, none⟩ = some u := by
        intro k hk j u hu
        refine hcell _ _ ?_
        rw [← hrow k hk, List.getElem?_take] at hu
        split at hu
        · rw [List.getElem?_drop, Array.getElem?_toList] at hu
          exact hu
        · cases hu
      refine ⟨fun k hk => ⟨hat k hk 0 _ rfl, hat k hk 1 _ rfl, hat k hk 2 _ rfl, hat k hk 3 _ rfl⟩, ?_⟩
      have c0 := hat 0 (by decide) 0 _ rfl
      rcases Nat.lt_or_ge 0 W.heap.size with h1 | h1
      · exact h1
      · simp [World.cell?, Array.getElem?_eq_none h1] at c0
    · cases hd

end Go.Proofs.YtgheaieghoekhaaDoor
