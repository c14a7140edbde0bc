/- Layer 11: the landed book: many cells of a slot are written over. -/
import Derived.Test.YtoabhmpakcgloaaHk
import Derived.Test.YtoabhmpakcgloaaHl
import Derived.Deep.MidRow
namespace Go.Proofs.Ytoabhmpakcgloaa
open Go.RowKit

/-- cells of a slot, written one behind the other: which, what, and what it makes of the slot -/
def wrs (w : World) (g i : Nat) : List (Nat × Value × (Sl → Sl)) → World
  | [] => w
  | q :: r => wrs (w.setCell ⟨g, i * 18 + q.1, none⟩ q.2.1) g i r
def Good (q : Nat × Value × (Sl → Sl)) : Prop := q.1 < 18 ∧ ∀ x, slF (q.2.2 x) = (slF x).set q.1 q.2.1
theorem modS_mod (sl : List Sl) (s : Int) (f f' : Sl → Sl) : modS (modS sl s f) s f' = modS sl s (fun x => f' (f x)) := by
  unfold modS
  refine List.ext_getElem (by simp) fun j h1 h2 => ?_
  simp only [List.getElem_modify]
  split <;> rfl
theorem modS_id (sl : List Sl) (s : Int) : modS sl s (fun x => x) = sl := by
  unfold modS
  refine List.ext_getElem (by simp) fun j h1 h2 => ?_
  simp only [List.getElem_modify]
  split <;> rfl
theorem wrs_ch (Q : Nat → Prop) {g : Nat} (hg : Q g) (i : Nat) : ∀ (ops : List (Nat × Value × (Sl → Sl))) (w : World), Ch Q w (wrs w g i ops)
  | [], _ => Ch.refl _ _
  | _ :: r, w => (Ch.set w hg _ _).trans (wrs_ch Q hg i r _) (fun _ _ h => h)
theorem Bk.setL {w : World} {B p M C n g c i j len : Nat} {sl : List Sl} {full : Int} {en : Ln → Option (Int × Int)} {cl : Int × Int × Int → Option Int} (h : Bk w B p (.slice (some ⟨g, 0, none⟩) len c) M C sl full en cl n) (hl : sl.length = len) (hi : i < len) (hj : j < 18) {u : Value} (f : Sl → Sl) (hf : ∀ x, slF (f x) = (slF x).set j u) {o : Nat} (ho : o = i * 18 + j) :
    Bk (w.setCell ⟨g, o, none⟩ u) B p (.slice (some ⟨g, 0, none⟩) len c) M C (modS sl ((i : Int) + 1) f) full en cl n := by
  subst hl
  exact h.set hi hj f hf ho
theorem Bk.many {B p M C n g c i len : Nat} {full : Int} {en : Ln → Option (Int × Int)} {cl : Int × Int × Int → Option Int} (hi : i < len) : ∀ (ops : List (Nat × Value × (Sl → Sl))) (w : World) (sl : List Sl), (∀ q ∈ ops, Good q) → Bk w B p (.slice (some ⟨g, 0, none⟩) len c) M C sl full en cl n → sl.length = len → Bk (wrs w g i ops) B p (.slice (some ⟨g, 0, none⟩) len c) M C (modS sl ((i : Int) + 1) (fun x => ops.foldl (fun x q => q.2.2 x) x)) full en cl n
  | [], w, sl, _, h, _ => by
    simp only [List.foldl_nil, modS_id]
    exact h
  | q :: r, w, sl, hq, h, hl => by
    have h1 := h.setL hl hi (hq q (by simp)).1 q.2.2 (hq q (by simp)).2 rfl
    have h2 := Bk.many hi r _ _ (fun q' hq' => hq q' (by simp [hq'])) h1 (by rw [modS_len]; exact hl)
    rw [modS_mod] at h2
    exact h2

/-- a slot is wiped; a record is laid into it -/
def wipeO (G : Int) : List (Nat × Value × (Sl → Sl)) := [(0, .int .u32 G, fun x => { x with g := G }), (1, .int .u32 0, fun x => { x with r := { x.r with ms := 0 } }), (2, .int .u32 0, fun x => { x with r := { x.r with mg := 0 } }), (3, .int .u32 0, fun x => { x with r := { x.r with ws := 0 } }), (4, .int .u32 0, fun x => { x with r := { x.r with wg := 0 } }), (5, .int .u32 0, fun x => { x with r := { x.r with rs := 0 } }), (6, .int .u32 0, fun x => { x with r := { x.r with rg := 0 } }), (7, .int .i64 0, fun x => { x with r := { x.r with rd := 0 } }), (8, .int .i64 0, fun x => { x with r := { x.r with ar := 0 } }), (9, .int .i64 0, fun x => { x with r := { x.r with vn := 0 } }), (10, .int .u32 0, fun x => { x with r := { x.r with vs := 0 } }), (11, .int .u32 0, fun x => { x with r := { x.r with vg := 0 } }), (12, .int .u32 0, fun x => { x with a0 := 0 }), (13, .int .u32 0, fun x => { x with b0 := 0 }), (14, .int .u32 0, fun x => { x with a1 := 0 }), (15, .int .u32 0, fun x => { x with b1 := 0 }), (16, .int .u32 0, fun x => { x with a2 := 0 }), (17, .int .u32 0, fun x => { x with b2 := 0 })]
theorem good_cons {q : Nat × Value × (Sl → Sl)} {r : List (Nat × Value × (Sl → Sl))} (h1 : Good q) (h2 : ∀ x ∈ r, Good x) : ∀ x ∈ q :: r, Good x := fun x hx => by
  rcases List.mem_cons.1 hx with rfl | hx
  · exact h1
  · exact h2 x hx
theorem good_nil : ∀ x ∈ ([] : List (Nat × Value × (Sl → Sl))), Good x := fun x hx => by cases hx
theorem wipe_good (G : Int) : ∀ q ∈ wipeO G, Good q := good_cons ⟨(by decide : 0 < 18), fun _ => rfl⟩ (good_cons ⟨(by decide : 1 < 18), fun _ => rfl⟩ (good_cons ⟨(by decide : 2 < 18), fun _ => rfl⟩ (good_cons ⟨(by decide : 3 < 18), fun _ => rfl⟩ (good_cons ⟨(by decide : 4 < 18), fun _ => rfl⟩ (good_cons ⟨(by decide : 5 < 18), fun _ => rfl⟩ (good_cons ⟨(by decide : 6 < 18), fun _ => rfl⟩ (good_cons ⟨(by decide : 7 < 18), fun _ => rfl⟩ (good_cons ⟨(by decide : 8 < 18), fun _ => rfl⟩ (good_cons ⟨(by decide : 9 < 18), fun _ => rfl⟩ (good_cons ⟨(by decide : 10 < 18), fun _ => rfl⟩ (good_cons ⟨(by decide : 11 < 18), fun _ => rfl⟩ (good_cons ⟨(by decide : 12 < 18), fun _ => rfl⟩ (good_cons ⟨(by decide : 13 < 18), fun _ => rfl⟩ (good_cons ⟨(by decide : 14 < 18), fun _ => rfl⟩ (good_cons ⟨(by decide : 15 < 18), fun _ => rfl⟩ (good_cons ⟨(by decide : 16 < 18), fun _ => rfl⟩ (good_cons ⟨(by decide : 17 < 18), fun _ => rfl⟩ (good_nil))))))))))))))))))
theorem wipe_fold (G : Int) (x : Sl) : (wipeO G).foldl (fun x q => q.2.2 x) x = zSl G := rfl
def layO (r : Rc) : List (Nat × Value × (Sl → Sl)) := [(1, .int .u32 r.ms, fun x => { x with r := { x.r with ms := r.ms } }), (2, .int .u32 r.mg, fun x => { x with r := { x.r with mg := r.mg } }), (3, .int .u32 r.ws, fun x => { x with r := { x.r with ws := r.ws } }), (4, .int .u32 r.wg, fun x => { x with r := { x.r with wg := r.wg } }), (5, .int .u32 r.rs, fun x => { x with r := { x.r with rs := r.rs } }), (6, .int .u32 r.rg, fun x => { x with r := { x.r with rg := r.rg } }), (7, .int .i64 r.rd, fun x => { x with r := { x.r with rd := r.rd } }), (8, .int .i64 r.ar, fun x => { x with r := { x.r with ar := r.ar } }), (9, .int .i64 r.vn, fun x => { x with r := { x.r with vn := r.vn } }), (10, .int .u32 r.vs, fun x => { x with r := { x.r with vs := r.vs } }), (11, .int .u32 r.vg, fun x => { x with r := { x.r with vg := r.vg } })]
theorem lay_good (r : Rc) : ∀ q ∈ layO r, Good q := good_cons ⟨(by decide : 1 < 18), fun _ => rfl⟩ (good_cons ⟨(by decide : 2 < 18), fun _ => rfl⟩ (good_cons ⟨(by decide : 3 < 18), fun _ => rfl⟩ (good_cons ⟨(by decide : 4 < 18), fun _ => rfl⟩ (good_cons ⟨(by decide : 5 < 18), fun _ => rfl⟩ (good_cons ⟨(by decide : 6 < 18), fun _ => rfl⟩ (good_cons ⟨(by decide : 7 < 18), fun _ => rfl⟩ (good_cons ⟨(by decide : 8 < 18), fun _ => rfl⟩ (good_cons ⟨(by decide : 9 < 18), fun _ => rfl⟩ (good_cons ⟨(by decide : 10 < 18), fun _ => rfl⟩ (good_cons ⟨(by decide : 11 < 18), fun _ => rfl⟩ (good_nil)))))))))))
theorem lay_fold (r : Rc) (x : Sl) : (layO r).foldl (fun x q => q.2.2 x) x = { x with r := r } := rfl

theorem wipe_one (G : Int) : (#[.int .u32 G, .int .u32 0, .int .u32 0, .int .u32 0, .int .u32 0, .int .u32 0, .int .u32 0, .int .i64 0, .int .i64 0, .int .i64 0, .int .u32 0, .int .u32 0, .int .u32 0, .int .u32 0, .int .u32 0, .int .u32 0, .int .u32 0, .int .u32 0] : Array Value).all (·.oneCell') = true := by kernel_rfl
theorem lay_one (r : Rc) : (#[.int .u32 r.ms, .int .u32 r.mg, .int .u32 r.ws, .int .u32 r.wg, .int .u32 r.rs, .int .u32 r.rg, .int .i64 r.rd, .int .i64 r.ar, .int .i64 r.vn, .int .u32 r.vs, .int .u32 r.vg] : Array Value).all (·.oneCell') = true := by kernel_rfl
theorem wrs_wipe (W : World) (g i : Nat) (G : Int) : W.setCells g (i * 18) [.int .u32 G, .int .u32 0, .int .u32 0, .int .u32 0, .int .u32 0, .int .u32 0, .int .u32 0, .int .i64 0, .int .i64 0, .int .i64 0, .int .u32 0, .int .u32 0, .int .u32 0, .int .u32 0, .int .u32 0, .int .u32 0, .int .u32 0, .int .u32 0] = wrs W g i (wipeO G) := rfl
theorem wrs_lay (W : World) (g i : Nat) (r : Rc) : W.setCells g (i * 18 + 1) (rcF r) = wrs W g i (layO r) := rfl
theorem Bk.there {w : World} {B p M C n g c i len : Nat} {sl : List Sl} {full : Int} {en : Ln → Option (Int × Int)} {cl : Int × Int × Int → Option Int} (h : Bk w B p (.slice (some ⟨g, 0, none⟩) len c) M C sl full en cl n) (hl : sl.length = len) (hi : i < len) (a k : Nat) (hk : a + k ≤ 18) : w.there g (i * 18 + a) k := by
  subst hl
  intro j hj
  obtain ⟨u, hu⟩ := slF_ex (a + j) (by omega) sl[i]
  have := h.cell hi hu (o := i * 18 + a + j) (by omega)
  exact ⟨by rw [this.1]; rfl, this.2⟩

/-- another map of claims, another number of full slots -/
theorem Bk.claims {w w' : World} {B p M C n n' : Nat} {wv : Value} {sl : List Sl} {full : Int} {en : Ln → Option (Int × Int)} {cl cl' : Int × Int × Int → Option Int} (h : Bk w B p wv M C sl full en cl n) (hm : ClMap w' C cl' n') (hc : Ch (fun y => y = C) w w') : Bk w' B p wv M C sl full en cl' n' := by
  obtain ⟨a1, a2, a3, a4⟩ := h.apart
  obtain ⟨k, m⟩ := h.mp
  exact ⟨hc.box h.box a2, h.row.ch hc (fun g hg => (a4 g hg).2.2), ⟨k, m.ch hc a3⟩, hm, h.lo, h.ne⟩
theorem Bk.setF {w : World} {B p M C n : Nat} {wv : Value} {sl : List Sl} {full : Int} {en : Ln → Option (Int × Int)} {cl : Int × Int × Int → Option Int} (h : Bk w B p wv M C sl full en cl n) (f : Int) : Bk (w.setCell ⟨p, 1, none⟩ (.int .u32 f)) B p wv M C sl f en cl n := by
  obtain ⟨a1, a2, a3, a4⟩ := h.apart
  obtain ⟨k, m⟩ := h.mp
  have hc : Ch (fun y => y = p) w (w.setCell ⟨p, 1, none⟩ (.int .u32 f)) := Ch.set (Q := fun y => y = p) w rfl _ _
  exact ⟨heap_set h.box 1 _, h.row.ch hc (fun g hg => (a4 g hg).1), ⟨k, m.ch hc a1.symm⟩, h.cm.ch hc a2.symm, h.lo, h.ne⟩

end Go.Proofs.Ytoabhmpakcgloaa
