/- Layer 11: the law's book of lists: over, whole. -/
import Derived.Test.YthnnpipekeanoaaXe
namespace Go.Proofs.Ythnnpipekeanoaa
open Go.RowKit

/-- one cell of a record is written -/
theorem rc_set {w : World} {B g c j n k : Nat} {u : Value} {rs : List Rc} (h : RcRow w B (.slice (some ⟨g, 0, none⟩) n c) rs) (hn : rs.length = n) (hj : j < n) (hk : k < 11) (hu : ∀ r : Rc, ∃ y : Rc, rcF y = (rcF r).set k u) : ∃ rs1 : List Rc, rs1.length = n ∧ RcRow (w.setCell ⟨g, j * 11 + k, none⟩ u) B (.slice (some ⟨g, 0, none⟩) n c) rs1 := by
  subst hn
  obtain ⟨y, hy⟩ := hu rs[j]
  exact ⟨rs.set j y, by simp, Row.set h rcF_len hj hk y hy⟩

/-- a record is written -/
def setRc (w : World) (g j : Nat) (r : Rc) : World := (((((((((((w.setCell ⟨g, j * 11, none⟩ (.int .u32 r.ms)).setCell ⟨g, j * 11 + 1, none⟩ (.int .u32 r.mg)).setCell ⟨g, j * 11 + 2, none⟩ (.int .u32 r.ws)).setCell ⟨g, j * 11 + 3, none⟩ (.int .u32 r.wg)).setCell ⟨g, j * 11 + 4, none⟩ (.int .u32 r.rs)).setCell ⟨g, j * 11 + 5, none⟩ (.int .u32 r.rg)).setCell ⟨g, j * 11 + 6, none⟩ (.int .i64 r.rd)).setCell ⟨g, j * 11 + 7, none⟩ (.int .i64 r.ar)).setCell ⟨g, j * 11 + 8, none⟩ (.int .i64 r.vn)).setCell ⟨g, j * 11 + 9, none⟩ (.int .u32 r.vs)).setCell ⟨g, j * 11 + 10, none⟩ (.int .u32 r.vg))
theorem rc_write {w : World} {B g c j n : Nat} {rs : List Rc} (h : RcRow w B (.slice (some ⟨g, 0, none⟩) n c) rs) (hn : rs.length = n) (hj : j < n) (r : Rc) : ∃ rs1 : List Rc, rs1.length = n ∧ RcRow (setRc w g j r) B (.slice (some ⟨g, 0, none⟩) n c) rs1 := by
  obtain ⟨q0, m0, h0⟩ := rc_set (k := 0) (u := .int .u32 r.ms) h hn hj (by decide) (fun t => ⟨{ t with ms := r.ms }, rfl⟩)
  obtain ⟨q1, m1, h1⟩ := rc_set (k := 1) (u := .int .u32 r.mg) h0 m0 hj (by decide) (fun t => ⟨{ t with mg := r.mg }, rfl⟩)
  obtain ⟨q2, m2, h2⟩ := rc_set (k := 2) (u := .int .u32 r.ws) h1 m1 hj (by decide) (fun t => ⟨{ t with ws := r.ws }, rfl⟩)
  obtain ⟨q3, m3, h3⟩ := rc_set (k := 3) (u := .int .u32 r.wg) h2 m2 hj (by decide) (fun t => ⟨{ t with wg := r.wg }, rfl⟩)
  obtain ⟨q4, m4, h4⟩ := rc_set (k := 4) (u := .int .u32 r.rs) h3 m3 hj (by decide) (fun t => ⟨{ t with rs := r.rs }, rfl⟩)
  obtain ⟨q5, m5, h5⟩ := rc_set (k := 5) (u := .int .u32 r.rg) h4 m4 hj (by decide) (fun t => ⟨{ t with rg := r.rg }, rfl⟩)
  obtain ⟨q6, m6, h6⟩ := rc_set (k := 6) (u := .int .i64 r.rd) h5 m5 hj (by decide) (fun t => ⟨{ t with rd := r.rd }, rfl⟩)
  obtain ⟨q7, m7, h7⟩ := rc_set (k := 7) (u := .int .i64 r.ar) h6 m6 hj (by decide) (fun t => ⟨{ t with ar := r.ar }, rfl⟩)
  obtain ⟨q8, m8, h8⟩ := rc_set (k := 8) (u := .int .i64 r.vn) h7 m7 hj (by decide) (fun t => ⟨{ t with vn := r.vn }, rfl⟩)
  obtain ⟨q9, m9, h9⟩ := rc_set (k := 9) (u := .int .u32 r.vs) h8 m8 hj (by decide) (fun t => ⟨{ t with vs := r.vs }, rfl⟩)
  obtain ⟨q10, m10, h10⟩ := rc_set (k := 10) (u := .int .u32 r.vg) h9 m9 hj (by decide) (fun t => ⟨{ t with vg := r.vg }, rfl⟩)
  exact ⟨q10, m10, h10⟩
theorem setRc_ch {Q : Nat → Prop} (w : World) {g : Nat} (hg : Q g) (j : Nat) (r : Rc) : Ch Q w (setRc w g j r) := by
  unfold setRc
  exact ((((((((((Ch.set w hg _ _).trans (Ch.set _ hg _ _) (fun _ _ h => h)).trans (Ch.set _ hg _ _) (fun _ _ h => h)).trans (Ch.set _ hg _ _) (fun _ _ h => h)).trans (Ch.set _ hg _ _) (fun _ _ h => h)).trans (Ch.set _ hg _ _) (fun _ _ h => h)).trans (Ch.set _ hg _ _) (fun _ _ h => h)).trans (Ch.set _ hg _ _) (fun _ _ h => h)).trans (Ch.set _ hg _ _) (fun _ _ h => h)).trans (Ch.set _ hg _ _) (fun _ _ h => h)).trans (Ch.set _ hg _ _) (fun _ _ h => h)

def nth (ls : List Value) (j : Nat) : Value := ls[j]?.getD undef
theorem nth_get {ls : List Value} {j : Nat} (h : j < ls.length) : ls[j] = nth ls j := by simp [nth, h]
def nthR (rs : List (List Rc)) (j : Nat) : List Rc := rs[j]?.getD []
/-- what is written until the i-th list -/
def Qo (lv : Value) (ls : List Value) (i : Nat) (y : Nat) : Prop := lv.ownBlock = some y ∨ ∃ j, j < i ∧ (nth ls j).ownBlock = some y
theorem Qo.up {lv : Value} {ls : List Value} {i y : Nat} (h : Qo lv ls i y) : Qo lv ls (i + 1) y := h.imp id (fun ⟨j, hj, e⟩ => ⟨j, by omega, e⟩)

/-- the lists, ere they are written over -/
structure Lsts (W : World) (B T n : Nat) (av bv tv lv wv : Value) (ls ws : List Value) (rs : List (List Rc)) : Prop where
  hT : W.heap[T]? = some (.cells #[av, bv, tv, lv, wv] 37 (0, 0))
  hl : LsRow W B lv ls
  hw : LsRow W B wv ws
  n1 : ls.length = n
  n2 : ws.length = n
  n3 : n ≤ 100000
  hB : B ≤ W.heap.size
  hd : ∀ x, lv.ownBlock = some x → ¬ wv.ownBlock = some x
  at1 : ∀ j, j < n → RcRow W B (nth ls j) (nthR rs j)
  at2 : ∀ j, j < n → RcRow W B (nth ws j) (nthR rs j)
  few : ∀ j, j < n → (nthR rs j).length ≤ 99000
  d1 : ∀ j k, j < k → k < n → ∀ x, (nth ls j).ownBlock = some x → ¬ (nth ls k).ownBlock = some x
  d2 : ∀ j k, j < n → k < n → ∀ x, (nth ls j).ownBlock = some x → ¬ (nth ws k).ownBlock = some x

section
variable {W w : World} {B T n i : Nat} {av bv tv lv wv : Value} {ls ws : List Value} {rs : List (List Rc)}
theorem Lsts.oT (h : Lsts W B T n av bv tv lv wv ls ws rs) (hi : i ≤ n) (hc : Ch (Qo lv ls i) W w) : w.heap[T]? = some (.cells #[av, bv, tv, lv, wv] 37 (0, 0)) :=
  hc.box h.hT (fun e => e.elim (fun e => own_box h.hl h.hT (by decide) e) (fun ⟨j, hj, e⟩ => own_box (h.at1 j (by omega)) h.hT (by decide) e))
theorem Lsts.ow (h : Lsts W B T n av bv tv lv wv ls ws rs) (hi : i ≤ n) (hc : Ch (Qo lv ls i) W w) : LsRow w B wv ws :=
  h.hw.ch hc (fun x hx e => e.elim (fun e => h.hd x e hx) (fun ⟨j, hj, e⟩ => own_ne (h.at1 j (by omega)) h.hw (by decide) x e hx))
theorem Lsts.o1 (h : Lsts W B T n av bv tv lv wv ls ws rs) {k : Nat} (hi : i ≤ k) (hk : k < n) (hc : Ch (Qo lv ls i) W w) : RcRow w B (nth ls k) (nthR rs k) :=
  (h.at1 k hk).ch hc (fun x hx e => e.elim (fun e => own_ne (h.at1 k hk) h.hl (by decide) x hx e) (fun ⟨j, hj, e⟩ => h.d1 j k (by omega) hk x e hx))
theorem Lsts.o2 (h : Lsts W B T n av bv tv lv wv ls ws rs) {k : Nat} (hi : i ≤ n) (hk : k < n) (hc : Ch (Qo lv ls i) W w) : RcRow w B (nth ws k) (nthR rs k) :=
  (h.at2 k hk).ch hc (fun x hx e => e.elim (fun e => own_ne (h.at2 k hk) h.hl (by decide) x hx e) (fun ⟨j, hj, e⟩ => h.d2 j k (by omega) hk x e hx))
end

end Go.Proofs.Ythnnpipekeanoaa
