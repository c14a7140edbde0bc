/- depths. -/
import Derived.Test.YtgheaieghoekhaaDoorCi
namespace Go.Proofs.YtgheaieghoekhaaDoor
open Go.RowKit

/-- instructions that are known, and whose jumps lie within -/
def AllK (n : Nat) (cd : List In) : Prop := ∀ x ∈ cd, knw x.op = true ∧ (tA x.op.toNat = 3 → ∃ j : Nat, x.a = (j : Int) ∧ j < n)

/-- what depths tells -/
def DepPost (w : World) (n : Nat) (r : Int × Int × List Int) (e : Ending) (w' : World) : Prop :=
  Below w.heap.size w w' ∧ ((r.1 = 0 ∧ r.2.1 = -1 ∧ ∃ D, w.heap.size ≤ D ∧ RowI w' D r.2.2 ∧ r.2.2.length = n ∧ e = .returned (.tuple #[.slice (some ⟨D, 0, none⟩) n n, .int .i64 0, .int .i64 (-1)])) ∨
    (r.1 ≠ 0 ∧ e = .returned (.tuple #[.slice none 0 0, .int .i64 r.1, .int .i64 r.2.1])))

theorem fill_set (n k : Nat) (h : k < n) : (List.replicate k (-1 : Int) ++ List.replicate (n - k) 0).set k (-1) = List.replicate (k + 1) (-1) ++ List.replicate (n - (k + 1)) 0 := by
  rw [List.set_append_right _ _ (by simp)]
  obtain ⟨m, hm⟩ : ∃ m, n - k = m + 1 := ⟨n - k - 1, by omega⟩
  rw [hm, show n - (k + 1) = m by omega, List.length_replicate, Nat.sub_self, List.replicate_succ, List.set_cons_zero, List.replicate_succ', List.append_assoc]
  rfl

theorem fill_len (n k : Nat) (h : k ≤ n) : (List.replicate k (-1 : Int) ++ List.replicate (n - k) 0).length = n := by simp; omega

theorem fill_end (n : Nat) (h : 0 < n) : (List.replicate n (-1 : Int)).set 0 0 = dp0 n := by
  obtain ⟨m, rfl⟩ : ∃ m, n = m + 1 := ⟨n - 1, by omega⟩
  simp [dp0, List.replicate_succ]

theorem Keep.cellK {D : Nat} {w w' : World} (h : Keep D w w') : ∀ b o, b < w.heap.size → ¬ b = D → w'.cell? ⟨b, o, none⟩ = w.cell? ⟨b, o, none⟩ := fun _ _ hb hne => h.cellO hb hne

set_option maxHeartbeats 4000000 in
theorem depths_any {N : Nat} {w : World} {v1 v2 v3 v : Value} {p : Pg} (h : Gd N w v1 v2 v3 p) {cd : List In} (hv : Lst N 4 (InAt w) v cd) (h0 : 0 < cd.length) (hs : cd.length ≤ 8388608) (hK : AllK cd.length cd) :
    Calls Tryd.prog 35 #[pv v1 v2 v3 p.mn, v] w fun e w' => DepPost w cd.length (dps p cd 0 (dp0 cd.length)) e w' := by
  obtain ⟨b1, o1, ⟨a1, c1, rfl, hc1, hm1, hs1⟩, hl1⟩ := hv
  obtain ⟨rfl, hb1⟩ := hs1 h0
  have hle := h.le
  have HG := hide h
  have hmk := run_make_row' (P := Tryd.prog) 46 3 (.int .i64 0) 8 Tryd.underlying46 infoI rfl .i64 .i64 cd.length (by omega) (by omega)
  obtain ⟨D, hDe⟩ : ∃ D, D = w.heap.size + 1 := ⟨_, rfl⟩
  have r0 := rowI_made (w.alloc (.cells #[v1, v2, v3, .int .i64 p.mn] 26)) cd.length
  have eD : (w.alloc (.cells #[v1, v2, v3, .int .i64 p.mn] 26)).heap.size = D := by simp [hDe]
  rw [eD] at r0
  have hb2 := below2 w (.cells #[v1, v2, v3, .int .i64 p.mn] 26) (.cells (madeCells #[.int .i64 0] cd.length) 3)
  have hsz2 : ((w.alloc (.cells #[v1, v2, v3, .int .i64 p.mn] 26)).alloc (.cells (madeCells #[.int .i64 0] cd.length) 3)).heap.size = D + 1 := by simp [hDe]
  have hx : ∀ j : Nat, ∀ u : Value, #[v1, v2, v3, Value.int .i64 p.mn][j]? = some u → ((w.alloc (.cells #[v1, v2, v3, .int .i64 p.mn] 26)).alloc (.cells (madeCells #[.int .i64 0] cd.length) 3)).cell? ⟨w.heap.size, j, none⟩ = some u := by
    intro j u hu
    rw [World.cell?_alloc_past _ _ _ (by simp), World.cell?_alloc_new]
    exact hu
  have x0 := hx 0 _ rfl
  have x1 := hx 1 _ rfl
  have x2 := hx 2 _ rfl
  have x3 := hx 3 _ rfl
  have H1 := hide hl1
  have HKK := hide hK
  have HDe := hide hDe
  clear h hs1 hl1 hx hK hDe eD
  go_enter Tryd.func35, Tryd.ntmps35
  go_wp2
  rw [← unhide HDe]
  generalize hW : (w.alloc (.cells #[v1, v2, v3, .int .i64 p.mn] 26)).alloc (.cells (madeCells #[.int .i64 0] cd.length) 3) = W at *
  have hDl : w.heap.size < D := by have := unhide HDe; omega
  clear hW hmk
  have HB2 := hide hb2
  have X0 := hide x0
  have X1 := hide x1
  have X2 := hide x2
  have X3 := hide x3
  clear hb2 x0 x1 x2 x3
  go_loopw [17] (fun i wr => ∃ k : Nat, k ≤ cd.length ∧ i = .int .i64 k ∧ RowI wr D (List.replicate k (-1) ++ List.replicate (cd.length - k) 0) ∧ Keep D W wr) (fun i _ => cd.length - (intOf i).toNat)
  case atStart => exact ⟨0, Nat.zero_le _, rfl, r0, Keep.of_below (Below.refl _ _)⟩
  case round =>
    obtain ⟨k, hk, rfl, hR, hKp⟩ := hrel
    by_cases hlt : k < cd.length
    · have hlen := fill_len cd.length k hk
      have q1 := hR.cell (i := k) (by omega)
      have q2 := hR.froz k
      have q3 := hR.set k (-1)
      rw [fill_set _ _ hlt] at q3
      have Q3 := hide q3
      have HKp := hide (hKp.set k (.int .i64 (-1)))
      generalize (List.replicate k (-1 : Int) ++ List.replicate (cd.length - k) 0)[k] = y at q1
      clear hR hKp q3 hlen
      go_wp2
      go_roundw
      case rel => exact ⟨k + 1, by omega, by go_num, unhide Q3, unhide HKp⟩
      case measure => simp [intOf]; omega
    · have e : k = cd.length := by omega
      subst e
      rw [Nat.sub_self, List.replicate_zero, List.append_nil] at hR
      have q1 := hR.cell (i := 0) (by simp; exact h0)
      have q2 := hR.froz 0
      have q3 := hR.set 0 0
      rw [fill_end _ h0] at q3
      have Q3 := hide q3
      have HKp := hide (hKp.set 0 (.int .i64 0))
      generalize (List.replicate cd.length (-1 : Int))[0]'(by simp; exact h0) = y at q1
      clear hR hKp q3
      obtain ⟨wq, rfl⟩ : ∃ x, x = wr := ⟨_, rfl⟩
      go_wp2
      go_loopw [28] (fun i wr => ∃ (k : Nat) (d : List Int), k ≤ cd.length ∧ i = .int .i64 k ∧ d.length = cd.length ∧ RowI wr D d ∧ InB d ∧ Keep D W wr ∧ dps p cd 0 (dp0 cd.length) = dps p (cd.drop k) k d) (fun i _ => cd.length - (intOf i).toNat)
      case atStart => exact ⟨0, _, Nat.zero_le _, rfl, by simp [dp0]; omega, unhide Q3, dp0_inb _, unhide HKp, rfl⟩
      case round =>
        obtain ⟨k, d, hk, rfl, hdl, hR, hI, hKp, hE⟩ := hrel
        have hszr := hKp.size
        by_cases hlt : k < cd.length
        · have hBN : Below N w wr := ((unhide HB2).mono hle).trans (hKp.belowN (by omega) (by omega))
          obtain ⟨g1, g2, g3, g4⟩ := InAt.below hBN hb1 (unhide H1 k hlt)
          have hKx := unhide HKK cd[k] (List.getElem_mem hlt)
          rw [dps_drop p cd k d hlt] at hE
          have hRa := hR.alloc (.cells #[.int .i64 cd[k].op, .int .i64 cd[k].a, .int .i64 cd[k].b, .int .i64 cd[k].l] 29)
          have q1 := hR.cell (i := k) (by omega)
          have HKa := hide (hKp.alloc (.cells #[.int .i64 cd[k].op, .int .i64 cd[k].a, .int .i64 cd[k].b, .int .i64 cd[k].l] 29))
          have HGr := hide ((((unhide HG).below hBN (by omega)).alloc (.cells #[.int .i64 cd[k].op, .int .i64 cd[k].a, .int .i64 cd[k].b, .int .i64 cd[k].l] 29)))
          have y0 := (hKp.cellO (b := w.heap.size) (o := 0) (by omega) (by omega)).trans (unhide X0)
          have y1 := (hKp.cellO (b := w.heap.size) (o := 1) (by omega) (by omega)).trans (unhide X1)
          have y2 := (hKp.cellO (b := w.heap.size) (o := 2) (by omega) (by omega)).trans (unhide X2)
          have y3 := (hKp.cellO (b := w.heap.size) (o := 3) (by omega) (by omega)).trans (unhide X3)
          have z1 : w.heap.size < wr.heap.size := by omega
          have z2 : b1 < wr.heap.size := by omega
          have z3 : D < wr.heap.size := by omega
          generalize cd[k] = x at *
          have HRa := hide hRa
          have HE := hide hE
          have HI := hide hI
          have HX := hide hKx
          have HDL := hide hdl
          have hIk := hI.at (k := k) (by omega)
          have egk := getD_at d (k := k) (by omega)
          by_cases cd1 : d[k] = -1
          · rw [cd1] at q1
            have HE2 := hide ((unhide HE).trans (if_pos (egk.trans cd1)))
            clear hR hI hKp hE hRa hKx hdl cd1 egk hIk HE
            go_wp2
            go_roundw
            case rel => exact ⟨k + 1, d, by omega, by go_num, unhide HDL, unhide HRa, unhide HI, unhide HKa, unhide HE2⟩
            case measure => simp [intOf]; omega
          · have q4 : (d[k] == -1) = false := by simpa using cd1
            have p0 : 0 ≤ d[k] := by omega
            have p1 : d[k] ≤ 1000 := by omega
            have HE2 := hide ((unhide HE).trans (if_neg (by rw [egk]; exact cd1)))
            have HP := hide (pass_any (unhide HGr) (unhide HRa) (by omega) k (by omega) (by omega) p0 p1 cd.length x hKx.1 (by rw [hdl]; exact hKx.2))
            rw [hdl] at HP
            have hpl := pass_len p d k x
            have HPI := hide (pass_inb (p := p) (at_ := k) (i := x) hI)
            generalize d[k] = y at *
            generalize passS p d k x = r at *
            obtain ⟨e1, d5⟩ := r
            simp only at hpl HPI HE2
            have HPL := hide (hpl.trans hdl)
            clear hR hI hKp hE hRa hKx hdl cd1 egk hIk HE hpl
            by_cases ce : e1 = 0
            · subst ce
              have HE3 := hide ((unhide HE2).trans (if_pos rfl))
              clear HE2
              go_wp2_with (first | (go_at_call 63; refine (unhide HP).mono ?_; rintro e w5 ⟨rfl, R5, K5⟩; have HR5 := hide R5; have HK5 := hide ((unhide HKa).trans K5); clear R5 K5 HP))
              go_roundw
              case rel => exact ⟨k + 1, d5, by omega, by go_num, unhide HPL, unhide HR5, unhide HPI, unhide HK5, unhide HE3⟩
              case measure => simp [intOf]; omega
            · have q5 : (e1 != 0) = true := by simpa using ce
              have HE3 := hide ((unhide HE2).trans (if_neg ce))
              have HCE := hide ce
              clear HE2 ce
              go_wp2_with (first | (go_at_call 63; refine (unhide HP).mono ?_; rintro e w5 ⟨rfl, R5, K5⟩; have HR5 := hide R5; have HK5 := hide ((unhide HKa).trans K5); clear R5 K5 HP))
              go_ret3
              refine ⟨(unhide HB2).trans ((unhide HK5).belowN (by omega) (by omega)), Or.inr ?_⟩
              rw [unhide HE3]
              exact ⟨unhide HCE, rfl⟩
        · have e : k = cd.length := by omega
          subst e
          rw [List.drop_length] at hE
          have HE := hide hE
          have HR := hide hR
          have HKp2 := hide hKp
          have HDL := hide hdl
          clear hE hR hKp hdl hI
          go_wp2
          go_ret3
          refine ⟨(unhide HB2).trans ((unhide HKp2).belowN (by omega) (by omega)), Or.inl ?_⟩
          rw [unhide HE]
          exact ⟨rfl, rfl, D, by omega, unhide HR, unhide HDL, rfl⟩

end Go.Proofs.YtgheaieghoekhaaDoor
