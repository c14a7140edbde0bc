/- Layer 16: Holder, Counter, Unlock, Add. Layer 16: Unlock. Layer 16: Add. Layer 16: mutexes, wait groups and their book in one word. -/
import Derived.Test.YtoabhmpakcgloaaZlb
namespace Go.Proofs.Ytoabhmpakcgloaa
open Go.RowKit

/-- who holds what there may be; its counter -/
def hdT (o : Option Th) : Hnd := match o with | none => (0, 0) | some t => if t.mu then t.o else (0, 0)
def ctT (o : Option Th) : Int := match o with | none => 0 | some t => if t.mu then 0 else t.n
theorem res_holder (tm : Array Value) (A : Nat) (Z : World) (s g q : Int) (h2 : tm[4]?.getD undef = .pointer (some ⟨A, 0, none⟩)) (h3 : tm[5]?.getD undef = .int .i64 q) (hb : Z.heap[A]? = some (.cells #[.int .u32 s, .int .u32 g] 35 (0, 0))) :
    (results Try.f14 tm).run Try.prog Z = .ok (.tuple #[hvW s g, .int .i64 q]) Z := by
  have e := Lib.cell_of_heap hb
  simp [results, Try.f14, h2, h3, go_sem, e]
section
variable {w : World} {B c bp M : Nat} {F : Nat → Prop} {l : List Wt} {ts : List Th}
theorem holder_lis (h : LI w B c bp M F l ts) (x : Hnd) : Calls Try.prog 14 #[.pointer (some ⟨c, 0, none⟩), hkV x] w fun e w' => e = .returned (.tuple #[hkV (hdT (fnt ts x)), .int .i64 (if isMu (fnt ts x) then 0 else 161)]) ∧ Below w.heap.size w w' := by
  obtain ⟨w1, hw1⟩ : ∃ z, w.alloc (.cells #[.int .u32 x.1, .int .u32 x.2] 35) = z := ⟨_, rfl⟩
  have hc1 : Ch (fun _ => False) w w1 := by rw [← hw1]; exact Ch.alloc _ _
  have hz1 : w1.heap.size = w.heap.size + 1 := by rw [← hw1, World.size_alloc]
  have hn1 : w1.heap[w.heap.size]? = some (.cells #[.int .u32 x.1, .int .u32 x.2] 35 (0, 0)) := by rw [← hw1]; exact heap_new _ _
  obtain ⟨w2, hw2⟩ : ∃ z, w1.alloc (.cells #[.int .u32 0, .int .u32 0] 35) = z := ⟨_, rfl⟩
  have hc2 : Ch (fun _ => False) w1 w2 := by rw [← hw2]; exact Ch.alloc _ _
  have hz2 : w2.heap.size = w1.heap.size + 1 := by rw [← hw2, World.size_alloc]
  have hn2 : w2.heap[w1.heap.size]? = some (.cells #[.int .u32 0, .int .u32 0] 35 (0, 0)) := by rw [← hw2]; exact heap_new _ _
  replace hn1 := hc2.box hn1 (fun h => h)
  have CB := hide (hc1.trans hc2 (fun _ _ h => h))
  have HZ := hide hz1
  have HN := hide hn2
  have n0 : w2.cell? ⟨w.heap.size, 0, none⟩ = some (.int .u32 x.1) := by simp [Lib.cell_of_heap hn1]
  have n1 : w2.cell? ⟨w.heap.size, 1, none⟩ = some (.int .u32 x.2) := by simp [Lib.cell_of_heap hn1]
  have H := hide (h.quiet CB.out)
  have HM := hide (mutex_lis H.out x)
  obtain ⟨o, ho⟩ : ∃ o, fnt ts x = o := ⟨_, rfl⟩
  have HO := hide ho
  rw [ho] at HM
  rw [ho]
  clear h hc1 hz1 hn1 hc2 hz2 hn2 ho
  go_enter Try.func14, Try.ntmps14
  go_wp2_with fail
  clear hw1 hw2 n0 n1
  refine HM.out.mono ?_
  rintro e w3 ⟨rfl, hb3⟩
  have C3 := hide (Ch.of_below (Q := fun _ => False) hb3)
  clear hb3
  have nV := C3.out.box HN.out (fun h => h)
  have d0 : w3.cell? ⟨w1.heap.size, 0, none⟩ = some (.int .u32 0) := by simp [Lib.cell_of_heap nV]
  have d1 : w3.cell? ⟨w1.heap.size, 1, none⟩ = some (.int .u32 0) := by simp [Lib.cell_of_heap nV]
  have df : ∀ j, w3.frozen? ⟨w1.heap.size, j, none⟩ = false := frz nV
  have NV := hide nV
  clear nV
  have HFIN := hide (fun (w' : World) (c' : Ch (fun y => y = w1.heap.size) w3 w') => show Below w.heap.size w w' from ((CB.out.trans C3.out (fun _ _ h => h)).trans c' (fun y hy e => by have := HZ.out; omega)).below (Nat.le_refl _) (fun _ _ h => h))
  cases o with
  | none =>
    rw [show muV none = .pointer none from rfl, show isMu none = false from rfl]
    have hbx : ((w3.setCell ⟨w1.heap.size, 0, none⟩ (.int .u32 0)).setCell ⟨w1.heap.size, 1, none⟩ (.int .u32 0)).heap[w1.heap.size]? = some (.cells #[.int .u32 0, .int .u32 0] 35 (0, 0)) := heap_set (heap_set NV.out 0 _) 1 _
    go_wp2_with fail
    exact bodyPost_ret (v := .tuple #[hvW 0 0, .int .i64 161]) (res_holder _ w1.heap.size _ 0 0 161 rfl rfl hbx) rfl ⟨rfl, HFIN.out _ ((Ch.set (Q := fun y => y = w1.heap.size) _ rfl 0 _).trans (Ch.set (Q := fun y => y = w1.heap.size) _ rfl 1 _) (fun _ _ h => h))⟩
  | some t =>
    obtain ⟨th, tb, tmu, tto, tn⟩ := t
    cases tmu with
    | false =>
      rw [show muV (some ⟨th, tb, false, tto, tn⟩) = .pointer none from rfl, show isMu (some ⟨th, tb, false, tto, tn⟩) = false from rfl]
      have hbx : ((w3.setCell ⟨w1.heap.size, 0, none⟩ (.int .u32 0)).setCell ⟨w1.heap.size, 1, none⟩ (.int .u32 0)).heap[w1.heap.size]? = some (.cells #[.int .u32 0, .int .u32 0] 35 (0, 0)) := heap_set (heap_set NV.out 0 _) 1 _
      go_wp2_with fail
      exact bodyPost_ret (v := .tuple #[hvW 0 0, .int .i64 161]) (res_holder _ w1.heap.size _ 0 0 161 rfl rfl hbx) rfl ⟨rfl, HFIN.out _ ((Ch.set (Q := fun y => y = w1.heap.size) _ rfl 0 _).trans (Ch.set (Q := fun y => y = w1.heap.size) _ rfl 1 _) (fun _ _ h => h))⟩
    | true =>
      have HTH := hide ((H.out.quiet C3.out).th _ (fnt_some HO.out).1)
      have htb : w3.heap[tb]? = some (.cells #[.int .u32 tto.1, .int .u32 tto.2] 94 (0, 0)) := HTH.out
      have r0 : w3.cell? ⟨tb, 0, none⟩ = some (.int .u32 tto.1) := by simp [Lib.cell_of_heap htb]
      have r1 : w3.cell? ⟨tb, 1, none⟩ = some (.int .u32 tto.2) := by simp [Lib.cell_of_heap htb]
      have hbx : ((w3.setCell ⟨w1.heap.size, 0, none⟩ (.int .u32 tto.1)).setCell ⟨w1.heap.size, 1, none⟩ (.int .u32 tto.2)).heap[w1.heap.size]? = some (.cells #[.int .u32 tto.1, .int .u32 tto.2] 35 (0, 0)) := heap_set (heap_set NV.out 0 _) 1 _
      clear htb
      rw [show muV (some ⟨th, tb, true, tto, tn⟩) = .pointer (some ⟨tb, 0, none⟩) from rfl, show isMu (some ⟨th, tb, true, tto, tn⟩) = true from rfl]
      go_wp2_with fail
      exact bodyPost_ret (v := .tuple #[hkV tto, .int .i64 0]) (res_holder _ w1.heap.size _ tto.1 tto.2 0 rfl rfl hbx) rfl ⟨rfl, HFIN.out _ ((Ch.set (Q := fun y => y = w1.heap.size) _ rfl 0 _).trans (Ch.set (Q := fun y => y = w1.heap.size) _ rfl 1 _) (fun _ _ h => h))⟩

theorem counter_lis (h : LI w B c bp M F l ts) (x : Hnd) : Calls Try.prog 18 #[.pointer (some ⟨c, 0, none⟩), hkV x] w fun e w' => e = .returned (.tuple #[.int .i64 (ctT (fnt ts x)), .int .i64 (if isGr (fnt ts x) then 0 else 161)]) ∧ Below w.heap.size w w' := by
  obtain ⟨w1, hw1⟩ : ∃ z, w.alloc (.cells #[.int .u32 x.1, .int .u32 x.2] 35) = z := ⟨_, rfl⟩
  have hc1 : Ch (fun _ => False) w w1 := by rw [← hw1]; exact Ch.alloc _ _
  have hz1 : w1.heap.size = w.heap.size + 1 := by rw [← hw1, World.size_alloc]
  have hn1 : w1.heap[w.heap.size]? = some (.cells #[.int .u32 x.1, .int .u32 x.2] 35 (0, 0)) := by rw [← hw1]; exact heap_new _ _
  have CB := hide hc1
  have n0 : w1.cell? ⟨w.heap.size, 0, none⟩ = some (.int .u32 x.1) := by simp [Lib.cell_of_heap hn1]
  have n1 : w1.cell? ⟨w.heap.size, 1, none⟩ = some (.int .u32 x.2) := by simp [Lib.cell_of_heap hn1]
  have H := hide (h.quiet CB.out)
  have HM := hide (group_lis H.out x)
  obtain ⟨o, ho⟩ : ∃ o, fnt ts x = o := ⟨_, rfl⟩
  have HO := hide ho
  rw [ho] at HM
  rw [ho]
  clear h hc1 hz1 hn1 ho
  go_enter Try.func18, Try.ntmps18
  go_wp2_with fail
  clear hw1 n0 n1
  refine HM.out.mono ?_
  rintro e w3 ⟨rfl, hb3⟩
  have C3 := hide (CB.out.trans (Ch.of_below (Q := fun _ => False) hb3) (fun _ _ h => h))
  have HF := hide (C3.out.below (Nat.le_refl _) (fun _ _ h => h))
  have H3 := hide (H.out.quiet (Ch.of_below hb3))
  clear hb3
  cases o with
  | none =>
    rw [show grV none = .pointer none from rfl, show isGr none = false from rfl]
    go_wp2
    go_ret2
    exact ⟨rfl, HF.out⟩
  | some t =>
    obtain ⟨th, tb, tmu, tto, tn⟩ := t
    cases tmu with
    | true =>
      rw [show grV (some ⟨th, tb, true, tto, tn⟩) = .pointer none from rfl, show isGr (some ⟨th, tb, true, tto, tn⟩) = false from rfl]
      go_wp2
      go_ret2
      exact ⟨rfl, HF.out⟩
    | false =>
      have htb : w3.heap[tb]? = some (.cells #[.int .i64 tn] 106 (0, 0)) := H3.out.th _ (fnt_some HO.out).1
      have r0 : w3.cell? ⟨tb, 0, none⟩ = some (.int .i64 tn) := by simp [Lib.cell_of_heap htb]
      clear htb
      rw [show grV (some ⟨th, tb, false, tto, tn⟩) = .pointer (some ⟨tb, 0, none⟩) from rfl, show isGr (some ⟨th, tb, false, tto, tn⟩) = true from rfl]
      go_wp2
      go_ret2
      exact ⟨rfl, HF.out⟩

end

end Go.Proofs.Ytoabhmpakcgloaa

namespace Go.Proofs.Ytoabhmpakcgloaa
open Go.RowKit

/-- what giving it on comes to: a fate, an error, who is woken, the records and all behind it -/
def unlK (l : List Wt) (ls : List Lk) (h : Hnd) : Int × Int × List Wk × List Wt × List Lk :=
  if nnH h = true then (16, 0, [], l, ls)
  else match fnl ls h with
    | none => (0, 161, [], l, ls)
    | some x => if x.mu then (if nnH x.o = true then (15, 0, [], l, ls)
        else match sel (inRow h.1 h.2 3) l with
          | [] => (0, 0, [], l, setl ls { x with o := (0, 0) })
          | r :: _ => (0, 0, [⟨r.ws, r.wg, r.ar, zVa, false, 0⟩], leaW l r.ws r.wg, setl ls { x with o := (r.ws, r.wg) }))
      else (0, 161, [], l, ls)
theorem res_unlock (tm : Array Value) (A : Nat) (Z : World) (fate n a b : Int) (ok : Bool) (wk : Value) (q : Int) (h2 : tm[4]?.getD undef = .pointer (some ⟨A, 0, none⟩)) (h3 : tm[5]?.getD undef = .int .i64 q) (hb : Z.heap[A]? = some (.cells #[.int .i64 fate, .int .i64 n, .int .u32 a, .int .u32 b, .bool ok, wk] 46 (0, 0))) :
    (results Try.f13 tm).run Try.prog Z = .ok (.tuple #[didV fate ⟨n, a, b⟩ ok wk, .int .i64 q]) Z := by
  have e := Lib.cell_of_heap hb
  simp [results, Try.f13, h2, h3, go_sem, e]
set_option maxRecDepth 100000 in
set_option maxHeartbeats 16000000 in
theorem unlock_lis {w : World} {B c bp M : Nat} {F : Nat → Prop} {l : List Wt} {ts : List Th} (h : LI w B c bp M F l ts) (hl : l.length ≤ 100000) (wo : WtOk l) {x : Hnd} (ux : UsW x.1) (ux2 : UsW x.2) :
    Calls Try.prog 13 #[.pointer (some ⟨c, 0, none⟩), hkV x] w fun e w' => ∃ sv, e = .returned (.tuple #[didV (unlK l (ts.map Th.ab) x).1 zVa false sv, .int .i64 (unlK l (ts.map Th.ab) x).2.1]) ∧ LL w w' B c bp M F ts (unlK l (ts.map Th.ab) x).2.2.2.1 (unlK l (ts.map Th.ab) x).2.2.2.2 ∧ WkRow w' w.heap.size sv (unlK l (ts.map Th.ab) x).2.2.1 := by
  obtain ⟨w1, hw1⟩ : ∃ z, w.alloc (.cells #[.int .u32 x.1, .int .u32 x.2] 35) = z := ⟨_, rfl⟩
  have hc1 : Ch (fun _ => False) w w1 := by rw [← hw1]; exact Ch.alloc _ _
  have hz1 : w1.heap.size = w.heap.size + 1 := by rw [← hw1, World.size_alloc]
  have hn1 : w1.heap[w.heap.size]? = some (.cells #[.int .u32 x.1, .int .u32 x.2] 35 (0, 0)) := by rw [← hw1]; exact heap_new _ _
  obtain ⟨w2, hw2⟩ : ∃ z, w1.alloc (.cells #[.int .i64 0, .int .i64 0, .int .u32 0, .int .u32 0, .bool false, .slice none 0 0] 46) = z := ⟨_, rfl⟩
  have hc2 : Ch (fun _ => False) w1 w2 := by rw [← hw2]; exact Ch.alloc _ _
  have hz2 : w2.heap.size = w1.heap.size + 1 := by rw [← hw2, World.size_alloc]
  have hn2 : w2.heap[w1.heap.size]? = some (.cells #[.int .i64 0, .int .i64 0, .int .u32 0, .int .u32 0, .bool false, .slice none 0 0] 46 (0, 0)) := by rw [← hw2]; exact heap_new _ _
  replace hn1 := hc2.box hn1 (fun h => h)
  have CB := hide (hc1.trans hc2 (fun _ _ h => h))
  have HZ := hide (And.intro hz1 hz2)
  have HNS := hide (And.intro hn1 hn2)
  have H0 := hide h
  have H := hide (h.quiet CB.out)
  have HX := hide (fun V (cV : Ch (fun _ => False) w2 V) => show V.cell? ⟨w.heap.size, 0, none⟩ = some (.int .u32 x.1) ∧ V.cell? ⟨w.heap.size, 1, none⟩ = some (.int .u32 x.2) from by
    have e1 := Lib.cell_of_heap (cV.box HNS.out.1 (fun h => h))
    exact ⟨by simp [e1], by simp [e1]⟩)
  have HFIN := hide (fun V (cV : Ch (fun _ => False) w2 V) w' (c' : Ch (fun y => y = w1.heap.size) V w') => show LL w w' B c bp M F ts l (ts.map Th.ab) from by
    have hs := HZ.out
    have cw := CB.out.trans cV (fun _ _ h => h)
    have cq : Ch (fun _ => False) w w' := cw.trans c' (fun y hy e => by omega)
    exact ⟨⟨F, ts, H0.out.quiet cq, rfl, fun y hy => .inl hy, fun z hz => ⟨z, hz, rfl⟩⟩, cq.mono (fun _ _ h => h.elim)⟩)
  obtain ⟨rs, hrs⟩ : ∃ rs, unlK l (ts.map Th.ab) x = rs := ⟨_, rfl⟩
  have HRS := hide hrs
  rw [hrs]
  have HM := hide (fun V (cV : Ch (fun _ => False) w2 V) => mutex_lis (H.out.quiet cV) x)
  have HRF := hide (refuse_lis H.out x (k := 2) (by decide))
  obtain ⟨o, ho⟩ : ∃ o, fnt ts x = o := ⟨_, rfl⟩
  have HO := hide ho
  rw [ho] at HM
  unfold rfT at HRF
  rw [ho] at HRF
  obtain ⟨s0, s1⟩ := HX.out w2 (Ch.refl _ _)
  clear h hc1 hz1 hn1 hc2 hz2 hn2 hrs ho
  go_enter Try.func13, Try.ntmps13
  go_wp2_with fail
  clear hw1 hw2 s0 s1
  refine HRF.out.mono ?_
  rintro e w3 ⟨rfl, hb3⟩
  have C3 := hide (Ch.of_below (Q := fun _ => False) hb3)
  clear hb3 HRF
  cases hx : nnH x with
  | true =>
    have HHX := hide hx
    clear hx
    rw [if_pos rfl, show fnF 2 = 16 from rfl]
    have hz : rs = (16, 0, [], l, ts.map Th.ab) := by
      rw [← HRS.out]
      unfold unlK
      rw [if_pos HHX.out]
    subst hz
    have nV := (C3.out).box HNS.out.2 (fun h => h)
    have d0 : w3.cell? ⟨w1.heap.size, 0, none⟩ = some (.int .i64 0) := by simp [Lib.cell_of_heap nV]
    have d1 : w3.cell? ⟨w1.heap.size, 1, none⟩ = some (.int .i64 0) := by simp [Lib.cell_of_heap nV]
    have d2 : w3.cell? ⟨w1.heap.size, 2, none⟩ = some (.int .u32 0) := by simp [Lib.cell_of_heap nV]
    have d3 : w3.cell? ⟨w1.heap.size, 3, none⟩ = some (.int .u32 0) := by simp [Lib.cell_of_heap nV]
    have d4 : w3.cell? ⟨w1.heap.size, 4, none⟩ = some (.bool false) := by simp [Lib.cell_of_heap nV]
    have d5 : w3.cell? ⟨w1.heap.size, 5, none⟩ = some (.slice none 0 0) := by simp [Lib.cell_of_heap nV]
    have df : ∀ j, w3.frozen? ⟨w1.heap.size, j, none⟩ = false := frz nV
    have HS := hide (did_set nV (.int .i64 (16)) (.int .i64 0) (.int .u32 0) (.int .u32 0) (.bool false) (.slice none 0 0))
    clear nV
    go_wp2_with fail
    refine bodyPost_ret (v := .tuple #[didV (16) zVa false (.slice none 0 0), .int .i64 (0)]) (res_unlock _ w1.heap.size _ (16) 0 0 0 false _ (0) rfl rfl HS.out.1) rfl ?_
    exact ⟨_, rfl, HFIN.out w3 C3.out _ HS.out.2, Row.nil _ _⟩
  | false =>
    have HHX := hide hx
    clear hx
    rw [if_neg (by decide)]
    cases o with
    | none =>
      rw [if_neg (show ¬ kdT none = 2 by decide)]
      have hz : rs = (0, 161, [], l, ts.map Th.ab) := by
        rw [← HRS.out]
        unfold unlK
        rw [if_neg (by rw [HHX.out]; decide), fnl_ab, HO.out]
        rfl
      subst hz
      have nV := (C3.out).box HNS.out.2 (fun h => h)
      have d0 : w3.cell? ⟨w1.heap.size, 0, none⟩ = some (.int .i64 0) := by simp [Lib.cell_of_heap nV]
      have d1 : w3.cell? ⟨w1.heap.size, 1, none⟩ = some (.int .i64 0) := by simp [Lib.cell_of_heap nV]
      have d2 : w3.cell? ⟨w1.heap.size, 2, none⟩ = some (.int .u32 0) := by simp [Lib.cell_of_heap nV]
      have d3 : w3.cell? ⟨w1.heap.size, 3, none⟩ = some (.int .u32 0) := by simp [Lib.cell_of_heap nV]
      have d4 : w3.cell? ⟨w1.heap.size, 4, none⟩ = some (.bool false) := by simp [Lib.cell_of_heap nV]
      have d5 : w3.cell? ⟨w1.heap.size, 5, none⟩ = some (.slice none 0 0) := by simp [Lib.cell_of_heap nV]
      have df : ∀ j, w3.frozen? ⟨w1.heap.size, j, none⟩ = false := frz nV
      have HS := hide (did_set nV (.int .i64 (0)) (.int .i64 0) (.int .u32 0) (.int .u32 0) (.bool false) (.slice none 0 0))
      clear nV
      go_wp2_with fail
      refine bodyPost_ret (v := .tuple #[didV (0) zVa false (.slice none 0 0), .int .i64 (161)]) (res_unlock _ w1.heap.size _ (0) 0 0 0 false _ (161) rfl rfl HS.out.1) rfl ?_
      exact ⟨_, rfl, HFIN.out w3 C3.out _ HS.out.2, Row.nil _ _⟩
    | some t =>
      obtain ⟨th, tb, tmu, tto, tn⟩ := t
      cases tmu with
      | false =>
        rw [if_neg (show ¬ kdT (some ⟨th, tb, false, tto, tn⟩) = 2 from fun e => by cases e)]
        have hz : rs = (0, 161, [], l, ts.map Th.ab) := by
          rw [← HRS.out]
          unfold unlK
          rw [if_neg (by rw [HHX.out]; decide), fnl_ab, HO.out]
          rfl
        subst hz
        have nV := (C3.out).box HNS.out.2 (fun h => h)
        have d0 : w3.cell? ⟨w1.heap.size, 0, none⟩ = some (.int .i64 0) := by simp [Lib.cell_of_heap nV]
        have d1 : w3.cell? ⟨w1.heap.size, 1, none⟩ = some (.int .i64 0) := by simp [Lib.cell_of_heap nV]
        have d2 : w3.cell? ⟨w1.heap.size, 2, none⟩ = some (.int .u32 0) := by simp [Lib.cell_of_heap nV]
        have d3 : w3.cell? ⟨w1.heap.size, 3, none⟩ = some (.int .u32 0) := by simp [Lib.cell_of_heap nV]
        have d4 : w3.cell? ⟨w1.heap.size, 4, none⟩ = some (.bool false) := by simp [Lib.cell_of_heap nV]
        have d5 : w3.cell? ⟨w1.heap.size, 5, none⟩ = some (.slice none 0 0) := by simp [Lib.cell_of_heap nV]
        have df : ∀ j, w3.frozen? ⟨w1.heap.size, j, none⟩ = false := frz nV
        have HS := hide (did_set nV (.int .i64 (0)) (.int .i64 0) (.int .u32 0) (.int .u32 0) (.bool false) (.slice none 0 0))
        clear nV
        go_wp2_with fail
        refine bodyPost_ret (v := .tuple #[didV (0) zVa false (.slice none 0 0), .int .i64 (161)]) (res_unlock _ w1.heap.size _ (0) 0 0 0 false _ (161) rfl rfl HS.out.1) rfl ?_
        exact ⟨_, rfl, HFIN.out w3 C3.out _ HS.out.2, Row.nil _ _⟩
      | true =>
        rw [if_pos (show kdT (some ⟨th, tb, true, tto, tn⟩) = 2 from rfl)]
        obtain ⟨s0, s1⟩ := HX.out w3 C3.out
        go_wp2_with fail
        refine (HM.out w3 C3.out).mono ?_
        rintro e w4 ⟨rfl, hb4⟩
        have C4 := hide (C3.out.trans (Ch.of_below (Q := fun _ => False) hb4) (fun _ _ h => h))
        clear hb4 s0 s1
        rw [show muV (some ⟨th, tb, true, tto, tn⟩) = .pointer (some ⟨tb, 0, none⟩) from rfl, show isMu (some ⟨th, tb, true, tto, tn⟩) = true from rfl]
        obtain ⟨i, hi, hti, hth⟩ := fnt_at HO.out
        have hth : th = x := hth
        subst hth
        have hin : (⟨th, tb, true, tto, tn⟩ : Th) ∈ ts := by rw [← hti]; exact List.getElem_mem hi
        have HIN := hide (And.intro hin hti)
        have HBX := hide (show ∀ V, Ch (fun _ => False) w2 V → V.heap[tb]? = some (.cells #[.int .u32 tto.1, .int .u32 tto.2] 94 (0, 0)) from fun V cV => (H.out.quiet cV).th _ hin)
        have HTB := hide (show tb < w.heap.size from (H0.out.th _ hin).lt)
        have HA2 := hide (show unlK l (ts.map Th.ab) th = ((if nnH tto = true then (15, 0, [], l, ts.map Th.ab) else match sel (inRow th.1 th.2 3) l with | [] => (0, 0, [], l, setl (ts.map Th.ab) ⟨th, true, (0, 0), tn⟩) | r :: _ => (0, 0, [⟨r.ws, r.wg, r.ar, zVa, false, 0⟩], leaW l r.ws r.wg, setl (ts.map Th.ab) ⟨th, true, (r.ws, r.wg), tn⟩)) : Int × Int × List Wk × List Wt × List Lk) from by
          unfold unlK
          rw [if_neg (by rw [HHX.out]; decide), fnl_ab, HO.out]
          rfl)
        clear hti hin
        have r0 : w4.cell? ⟨tb, 0, none⟩ = some (.int .u32 tto.1) := by simp [Lib.cell_of_heap (HBX.out w4 C4.out)]
        have r1 : w4.cell? ⟨tb, 1, none⟩ = some (.int .u32 tto.2) := by simp [Lib.cell_of_heap (HBX.out w4 C4.out)]
        go_wp2_with fail
        refine (isNone_nn w4 tto).mono ?_
        rintro e w5 ⟨rfl, hb5⟩
        have C5 := hide (C4.out.trans (Ch.of_below (Q := fun _ => False) hb5) (fun _ _ h => h))
        clear hb5 r0 r1
        cases hh : nnH tto with
        | true =>
          have HHH := hide hh
          clear hh
          have hz : rs = (15, 0, [], l, ts.map Th.ab) := by
            rw [← HRS.out]
            rw [HA2.out]
            exact if_pos HHH.out
          subst hz
          have nV := (C5.out).box HNS.out.2 (fun h => h)
          have d0 : w5.cell? ⟨w1.heap.size, 0, none⟩ = some (.int .i64 0) := by simp [Lib.cell_of_heap nV]
          have d1 : w5.cell? ⟨w1.heap.size, 1, none⟩ = some (.int .i64 0) := by simp [Lib.cell_of_heap nV]
          have d2 : w5.cell? ⟨w1.heap.size, 2, none⟩ = some (.int .u32 0) := by simp [Lib.cell_of_heap nV]
          have d3 : w5.cell? ⟨w1.heap.size, 3, none⟩ = some (.int .u32 0) := by simp [Lib.cell_of_heap nV]
          have d4 : w5.cell? ⟨w1.heap.size, 4, none⟩ = some (.bool false) := by simp [Lib.cell_of_heap nV]
          have d5 : w5.cell? ⟨w1.heap.size, 5, none⟩ = some (.slice none 0 0) := by simp [Lib.cell_of_heap nV]
          have df : ∀ j, w5.frozen? ⟨w1.heap.size, j, none⟩ = false := frz nV
          have HS := hide (did_set nV (.int .i64 (15)) (.int .i64 0) (.int .u32 0) (.int .u32 0) (.bool false) (.slice none 0 0))
          clear nV
          go_wp2_with fail
          refine bodyPost_ret (v := .tuple #[didV (15) zVa false (.slice none 0 0), .int .i64 (0)]) (res_unlock _ w1.heap.size _ (15) 0 0 0 false _ (0) rfl rfl HS.out.1) rfl ?_
          exact ⟨_, rfl, HFIN.out w5 C5.out _ HS.out.2, Row.nil _ _⟩
        | false =>
          have HHH := hide hh
          clear hh
          obtain ⟨s0, s1⟩ := HX.out w5 C5.out
          go_wp2_with fail
          refine (lockers_is w5 th).mono ?_
          rintro e w6 ⟨rfl, hb6⟩
          have C6 := hide (C5.out.trans (Ch.of_below (Q := fun _ => False) hb6) (fun _ _ h => h))
          clear hb6 s0 s1
          go_wp2_with fail
          refine (wakeFirst_is (H.out.quiet C6.out) hl wo ux ux2 (by constructor <;> decide)).mono ?_
          rintro e w7 ⟨k, q, F2, l2, rfl, hwf, h7, hc7, hd7⟩
          have HWF := hide hwf
          have D7 := hide hd7
          have C7 := hide hc7
          have LI7 := hide h7
          have HFA := hide (show ∀ y, w.heap.size ≤ y → ¬ F y from fun y hy e => by have := (face.foot H0.out.bk _ e).2; omega)
          have ND7 := hide (hc7.box (C6.out.box HNS.out.2 (fun h => h)) (HFA.out _ (by have := HZ.out; omega)))
          have NT7 := hide (h7.th _ HIN.out.1)
          clear hwf h7 hc7 hd7
          obtain ⟨w8, hw8⟩ : ∃ z, w7.alloc (.cells #[.int .u32 k.s, .int .u32 k.g, .int .i64 k.a, .int .i64 k.v.n, .int .u32 k.v.s, .int .u32 k.v.g, .bool k.ok, .int .i64 k.f] 53) = z := ⟨_, rfl⟩
          have c78 : Ch (fun _ => False) w7 w8 := by rw [← hw8]; exact Ch.alloc _ _
          have C78 := hide c78
          have n8 : w8.heap[w7.heap.size]? = some (.cells (wkL k).toArray 53 (0, 0)) := by rw [← hw8]; exact heap_new _ _
          have N8 := hide n8
          have NT8 := hide (show w8.heap[tb]? = some (.cells #[.int .u32 tto.1, .int .u32 tto.2] 94 (0, 0)) from c78.box NT7.out (fun h => h))
          clear c78
          have y0 : w8.cell? ⟨w7.heap.size, 0, none⟩ = some (.int .u32 k.s) := by simp [Lib.cell_of_heap n8, wkL, wkF]
          have y1 : w8.cell? ⟨w7.heap.size, 1, none⟩ = some (.int .u32 k.g) := by simp [Lib.cell_of_heap n8, wkL, wkF]
          have y2 : w8.cell? ⟨w7.heap.size, 2, none⟩ = some (.int .i64 k.a) := by simp [Lib.cell_of_heap n8, wkL, wkF]
          have y3 : w8.cell? ⟨w7.heap.size, 3, none⟩ = some (.int .i64 k.v.n) := by simp [Lib.cell_of_heap n8, wkL, wkF]
          have y4 : w8.cell? ⟨w7.heap.size, 4, none⟩ = some (.int .u32 k.v.s) := by simp [Lib.cell_of_heap n8, wkL, wkF]
          have y5 : w8.cell? ⟨w7.heap.size, 5, none⟩ = some (.int .u32 k.v.g) := by simp [Lib.cell_of_heap n8, wkL, wkF]
          have y6 : w8.cell? ⟨w7.heap.size, 6, none⟩ = some (.bool k.ok) := by simp [Lib.cell_of_heap n8, wkL, wkF]
          have y7 : w8.cell? ⟨w7.heap.size, 7, none⟩ = some (.int .i64 k.f) := by simp [Lib.cell_of_heap n8, wkL, wkF]
          clear n8
          have r0 : w8.cell? ⟨tb, 0, none⟩ = some (.int .u32 tto.1) := by simp [Lib.cell_of_heap NT8.out]
          have r1 : w8.cell? ⟨tb, 1, none⟩ = some (.int .u32 tto.2) := by simp [Lib.cell_of_heap NT8.out]
          have rf : ∀ j, w8.frozen? ⟨tb, j, none⟩ = false := frz NT8.out
          obtain ⟨w9, hw9⟩ : ∃ z, (w8.setCell ⟨tb, 0, none⟩ (.int .u32 k.s)).setCell ⟨tb, 1, none⟩ (.int .u32 k.g) = z := ⟨_, rfl⟩
          have c89 : Ch (fun y => y = tb) w8 w9 := by rw [← hw9]; exact (Ch.set (Q := fun y => y = tb) _ rfl 0 _).trans (Ch.set (Q := fun y => y = tb) _ rfl 1 _) (fun _ _ h => h)
          have C89 := hide c89
          have NT9 := hide (show w9.heap[tb]? = some (.cells #[.int .u32 k.s, .int .u32 k.g] 94 (0, 0)) by rw [← hw9]; exact heap_set (heap_set NT8.out 0 _) 1 _)
          have NE := hide (show ¬ w1.heap.size = tb ∧ ¬ w7.heap.size = tb from ⟨by have := HTB.out; have := HZ.out; omega, by have := HTB.out; have h1 := C7.out.size; have h2 := C6.out.size; have h3 := CB.out.size; omega⟩)
          have ND9 := hide (c89.box (C78.out.box ND7.out (fun h => h)) NE.out.1)
          have N9 := hide (c89.box N8.out NE.out.2)
          have LI9 := hide ((LI7.out.quiet C78.out).upd hi (x := ⟨th, tb, true, (k.s, k.g), tn⟩) NT9.out (by rw [HIN.out.2]; exact ⟨rfl, rfl, rfl⟩) c89)
          have HW9 := hide hw9
          clear c89
          have nV := ND9.out
          have d0 : w9.cell? ⟨w1.heap.size, 0, none⟩ = some (.int .i64 0) := by simp [Lib.cell_of_heap nV]
          have d1 : w9.cell? ⟨w1.heap.size, 1, none⟩ = some (.int .i64 0) := by simp [Lib.cell_of_heap nV]
          have d2 : w9.cell? ⟨w1.heap.size, 2, none⟩ = some (.int .u32 0) := by simp [Lib.cell_of_heap nV]
          have d3 : w9.cell? ⟨w1.heap.size, 3, none⟩ = some (.int .u32 0) := by simp [Lib.cell_of_heap nV]
          have d4 : w9.cell? ⟨w1.heap.size, 4, none⟩ = some (.bool false) := by simp [Lib.cell_of_heap nV]
          have d5 : w9.cell? ⟨w1.heap.size, 5, none⟩ = some (.slice none 0 0) := by simp [Lib.cell_of_heap nV]
          have df : ∀ j, w9.frozen? ⟨w1.heap.size, j, none⟩ = false := frz nV
          have z0 : w9.cell? ⟨w7.heap.size, 0, none⟩ = some (.int .u32 k.s) := by simp [Lib.cell_of_heap N9.out, wkL, wkF]
          have z1 : w9.cell? ⟨w7.heap.size, 1, none⟩ = some (.int .u32 k.g) := by simp [Lib.cell_of_heap N9.out, wkL, wkF]
          have z2 : w9.cell? ⟨w7.heap.size, 2, none⟩ = some (.int .i64 k.a) := by simp [Lib.cell_of_heap N9.out, wkL, wkF]
          have z3 : w9.cell? ⟨w7.heap.size, 3, none⟩ = some (.int .i64 k.v.n) := by simp [Lib.cell_of_heap N9.out, wkL, wkF]
          have z4 : w9.cell? ⟨w7.heap.size, 4, none⟩ = some (.int .u32 k.v.s) := by simp [Lib.cell_of_heap N9.out, wkL, wkF]
          have z5 : w9.cell? ⟨w7.heap.size, 5, none⟩ = some (.int .u32 k.v.g) := by simp [Lib.cell_of_heap N9.out, wkL, wkF]
          have z6 : w9.cell? ⟨w7.heap.size, 6, none⟩ = some (.bool k.ok) := by simp [Lib.cell_of_heap N9.out, wkL, wkF]
          have z7 : w9.cell? ⟨w7.heap.size, 7, none⟩ = some (.int .i64 k.f) := by simp [Lib.cell_of_heap N9.out, wkL, wkF]
          clear nV
          cases q with
          | false =>
            have hq : sel (inRow th.1 th.2 3) l = [] ∧ k = ⟨0, 0, 0, zVa, false, 0⟩ ∧ l2 = l := by
              rcases HWF.out with ⟨-, e1, e2, e3⟩ | ⟨e1, -⟩
              · exact ⟨e1, e2, e3⟩
              · cases e1
            have hz : rs = (0, 0, [], l2, setl (ts.map Th.ab) ⟨th, true, (k.s, k.g), tn⟩) := by
              rw [← HRS.out, HA2.out, if_neg (by rw [HHH.out]; decide), hq.1, hq.2.1, hq.2.2]
            subst hz
            clear hq
            have HS := hide (did_set ND9.out (.int .i64 0) (.int .i64 0) (.int .u32 0) (.int .u32 0) (.bool false) (.slice none 0 0))
            go_wp2_with fail
            try rw [HW9.out]
            refine bodyPost_ret (v := .tuple #[didV 0 zVa false (.slice none 0 0), .int .i64 0]) (res_unlock _ w1.heap.size _ 0 0 0 0 false _ 0 rfl rfl HS.out.1) rfl ⟨_, rfl, ?_, Row.nil _ _⟩
            have hs := HZ.out
            have s6 := C6.out.size
            have s7 := C7.out.size
            have s8 := C78.out.size
            have h3 := (Array.getElem?_eq_some_iff.1 HNS.out.2).1
            have li := LI9.out.frame HS.out.2 (H0.out.apart (N := w6.heap.size) D7.out (fun z hz => by rcases List.mem_or_eq_of_mem_set hz with e | e; exact ⟨z, e, rfl⟩; exact ⟨⟨th, tb, true, tto, tn⟩, HIN.out.1, by rw [e]⟩) (A := w1.heap.size) (by omega) (by omega))
            refine ⟨⟨F2, ts.set i ⟨th, tb, true, (k.s, k.g), tn⟩, li, set_abt H0.out.nd hi (by rw [HIN.out.2]), fun y hy => (D7.out y hy).imp_right (fun e => by have := CB.out.size; omega), fun z hz => by rcases List.mem_or_eq_of_mem_set hz with e | e; exact ⟨z, e, rfl⟩; exact ⟨⟨th, tb, true, tto, tn⟩, HIN.out.1, by rw [e]⟩⟩, ?_⟩
            have k1 := ((CB.out.trans C6.out (fun _ _ h => h)).mono (Q' := fun y => F y ∨ ∃ u ∈ ts, y = u.b) (fun _ _ h => h.elim)).trans C7.out (fun y _ e => .inl e)
            have k2 := (k1.trans C78.out (fun _ _ h => h.elim)).trans C89.out (fun y _ e => .inr ⟨⟨th, tb, true, tto, tn⟩, HIN.out.1, e⟩)
            exact k2.trans HS.out.2 (fun y hy e => by omega)
          | true =>
            have hq : ∃ r rest, sel (inRow th.1 th.2 3) l = r :: rest ∧ k = ⟨r.ws, r.wg, r.ar, zVa, false, 0⟩ ∧ l2 = leaW l r.ws r.wg := by
              rcases HWF.out with ⟨e1, -⟩ | ⟨-, e1⟩
              · cases e1
              · exact e1
            have hz : rs = (0, 0, [k], l2, setl (ts.map Th.ab) ⟨th, true, (k.s, k.g), tn⟩) := by
              obtain ⟨r, rest, e1, e2, e3⟩ := hq
              rw [← HRS.out, HA2.out, if_neg (by rw [HHH.out]; decide), e1, e2, e3]
            subst hz
            clear hq
            obtain ⟨wA, hwA⟩ : ∃ z, w9.alloc (.cells #[.int .u32 k.s, .int .u32 k.g, .int .i64 k.a, .int .i64 k.v.n, .int .u32 k.v.s, .int .u32 k.v.g, .bool k.ok, .int .i64 k.f] 53) = z := ⟨_, rfl⟩
            have c9A : Ch (fun _ => False) w9 wA := by rw [← hwA]; exact Ch.alloc _ _
            have C9A := hide c9A
            have NSL := hide (show wA.heap[w9.heap.size]? = some (.cells (wkL k).toArray 53 (0, 0)) by rw [← hwA]; exact heap_new _ _)
            have nV := c9A.box ND9.out (fun h => h)
            clear c9A d0 d1 d2 d3 d4 d5 df
            have d0 : wA.cell? ⟨w1.heap.size, 0, none⟩ = some (.int .i64 0) := by simp [Lib.cell_of_heap nV]
            have d1 : wA.cell? ⟨w1.heap.size, 1, none⟩ = some (.int .i64 0) := by simp [Lib.cell_of_heap nV]
            have d2 : wA.cell? ⟨w1.heap.size, 2, none⟩ = some (.int .u32 0) := by simp [Lib.cell_of_heap nV]
            have d3 : wA.cell? ⟨w1.heap.size, 3, none⟩ = some (.int .u32 0) := by simp [Lib.cell_of_heap nV]
            have d4 : wA.cell? ⟨w1.heap.size, 4, none⟩ = some (.bool false) := by simp [Lib.cell_of_heap nV]
            have d5 : wA.cell? ⟨w1.heap.size, 5, none⟩ = some (.slice none 0 0) := by simp [Lib.cell_of_heap nV]
            have df : ∀ j, wA.frozen? ⟨w1.heap.size, j, none⟩ = false := frz nV
            have HS := hide (did_set nV (.int .i64 0) (.int .i64 0) (.int .u32 0) (.int .u32 0) (.bool false) (.slice (some ⟨w9.heap.size, 0, none⟩) 1 1))
            clear nV
            have HWA := hide hwA
            go_wp2_with fail
            try rw [HW9.out]
            try rw [HWA.out]
            refine bodyPost_ret (v := .tuple #[didV 0 zVa false (.slice (some ⟨w9.heap.size, 0, none⟩) 1 1), .int .i64 0]) (res_unlock _ w1.heap.size _ 0 0 0 0 false _ 0 rfl rfl HS.out.1) rfl ⟨_, rfl, ?_, wk_one (k := k) ?_ (HS.out.2.box NSL.out (fun e => ?_))⟩
            · have hs := HZ.out
              have s6 := C6.out.size
              have s7 := C7.out.size
              have s8 := C78.out.size
              have h3 := (Array.getElem?_eq_some_iff.1 HNS.out.2).1
              have li := (LI9.out.quiet C9A.out).frame HS.out.2 (H0.out.apart (N := w6.heap.size) D7.out (fun z hz => by rcases List.mem_or_eq_of_mem_set hz with e | e; exact ⟨z, e, rfl⟩; exact ⟨⟨th, tb, true, tto, tn⟩, HIN.out.1, by rw [e]⟩) (A := w1.heap.size) (by omega) (by omega))
              refine ⟨⟨F2, ts.set i ⟨th, tb, true, (k.s, k.g), tn⟩, li, set_abt H0.out.nd hi (by rw [HIN.out.2]), fun y hy => (D7.out y hy).imp_right (fun e => by have := CB.out.size; omega), fun z hz => by rcases List.mem_or_eq_of_mem_set hz with e | e; exact ⟨z, e, rfl⟩; exact ⟨⟨th, tb, true, tto, tn⟩, HIN.out.1, by rw [e]⟩⟩, ?_⟩
              have k1 := ((CB.out.trans C6.out (fun _ _ h => h)).mono (Q' := fun y => F y ∨ ∃ u ∈ ts, y = u.b) (fun _ _ h => h.elim)).trans C7.out (fun y _ e => .inl e)
              have k2 := (k1.trans C78.out (fun _ _ h => h.elim)).trans C89.out (fun y _ e => .inr ⟨⟨th, tb, true, tto, tn⟩, HIN.out.1, e⟩)
              have k3 := k2.trans C9A.out (fun _ _ h => h.elim)
              exact k3.trans HS.out.2 (fun y hy e => by omega)
            · have s1 := CB.out.size
              have s6 := C6.out.size
              have s7 := C7.out.size
              have s8 := C78.out.size
              have s9 := C89.out.size
              omega
            · have s6 := C6.out.size
              have s7 := C7.out.size
              have s8 := C78.out.size
              have s9 := C89.out.size
              have h3 := (Array.getElem?_eq_some_iff.1 HNS.out.2).1
              omega

end Go.Proofs.Ytoabhmpakcgloaa

namespace Go.Proofs.Ytoabhmpakcgloaa
open Go.RowKit

/-- what adding comes to: a fate, an error, who is woken, the records and all behind it -/
def AddR (l : List Wt) (ls : List Lk) (h : Hnd) (n : Int) (f er : Int) (ws : List Wk) (l2 : List Wt) (ls2 : List Lk) : Prop :=
  if nnH h = true then f = 17 ∧ er = 0 ∧ ws = [] ∧ l2 = l ∧ ls2 = ls
  else match fnl ls h with
    | none => f = 0 ∧ er = 161 ∧ ws = [] ∧ l2 = l ∧ ls2 = ls
    | some x => if x.mu then f = 0 ∧ er = 161 ∧ ws = [] ∧ l2 = l ∧ ls2 = ls
      else if 0 ≤ x.n + n ∧ x.n + n ≤ 2147483647 then (f = 0 ∧ er = 0 ∧ ls2 = setl ls { x with n := x.n + n } ∧ if x.n + n = 0 then WA (inRow h.1 h.2 4) zVa false 0 l ws l2 else ws = [] ∧ l2 = l)
      else f = 18 ∧ er = 0 ∧ ws = [] ∧ l2 = l ∧ ls2 = ls
theorem res_add (tm : Array Value) (A : Nat) (Z : World) (fate n a b : Int) (ok : Bool) (wk : Value) (q : Int) (h2 : tm[6]?.getD undef = .pointer (some ⟨A, 0, none⟩)) (h3 : tm[7]?.getD undef = .int .i64 q) (hb : Z.heap[A]? = some (.cells #[.int .i64 fate, .int .i64 n, .int .u32 a, .int .u32 b, .bool ok, wk] 46 (0, 0))) :
    (results Try.f17 tm).run Try.prog Z = .ok (.tuple #[didV fate ⟨n, a, b⟩ ok wk, .int .i64 q]) Z := by
  have e := Lib.cell_of_heap hb
  simp [results, Try.f17, h2, h3, go_sem, e]
set_option maxRecDepth 100000 in
set_option maxHeartbeats 16000000 in
theorem add_lis {w : World} {B c bp M : Nat} {F : Nat → Prop} {l : List Wt} {ts : List Th} (h : LI w B c bp M F l ts) (hl : l.length ≤ 100000) (wo : WtOk l) (hct : ∀ u ∈ ts, CtOk u.n) {x : Hnd} (ux : UsW x.1) (ux2 : UsW x.2) (n : Int) :
    Calls Try.prog 17 #[.pointer (some ⟨c, 0, none⟩), hkV x, .int .i64 n] w fun e w' => ∃ sv f er ws l2 ls2, e = .returned (.tuple #[didV f zVa false sv, .int .i64 er]) ∧ AddR l (ts.map Th.ab) x n f er ws l2 ls2 ∧ LL w w' B c bp M F ts l2 ls2 ∧ WkRow w' w.heap.size sv ws := by
  obtain ⟨w1, hw1⟩ : ∃ z, w.alloc (.cells #[.int .u32 x.1, .int .u32 x.2] 35) = z := ⟨_, rfl⟩
  have hc1 : Ch (fun _ => False) w w1 := by rw [← hw1]; exact Ch.alloc _ _
  have hz1 : w1.heap.size = w.heap.size + 1 := by rw [← hw1, World.size_alloc]
  have hn1 : w1.heap[w.heap.size]? = some (.cells #[.int .u32 x.1, .int .u32 x.2] 35 (0, 0)) := by rw [← hw1]; exact heap_new _ _
  obtain ⟨w2, hw2⟩ : ∃ z, w1.alloc (.cells #[.int .i64 0, .int .i64 0, .int .u32 0, .int .u32 0, .bool false, .slice none 0 0] 46) = z := ⟨_, rfl⟩
  have hc2 : Ch (fun _ => False) w1 w2 := by rw [← hw2]; exact Ch.alloc _ _
  have hz2 : w2.heap.size = w1.heap.size + 1 := by rw [← hw2, World.size_alloc]
  have hn2 : w2.heap[w1.heap.size]? = some (.cells #[.int .i64 0, .int .i64 0, .int .u32 0, .int .u32 0, .bool false, .slice none 0 0] 46 (0, 0)) := by rw [← hw2]; exact heap_new _ _
  replace hn1 := hc2.box hn1 (fun h => h)
  have CB := hide (hc1.trans hc2 (fun _ _ h => h))
  have HZ := hide (And.intro hz1 hz2)
  have HNS := hide (And.intro hn1 hn2)
  have H0 := hide h
  have H := hide (h.quiet CB.out)
  have HX := hide (fun V (cV : Ch (fun _ => False) w2 V) => show V.cell? ⟨w.heap.size, 0, none⟩ = some (.int .u32 x.1) ∧ V.cell? ⟨w.heap.size, 1, none⟩ = some (.int .u32 x.2) from by
    have e1 := Lib.cell_of_heap (cV.box HNS.out.1 (fun h => h))
    exact ⟨by simp [e1], by simp [e1]⟩)
  have HFIN := hide (fun V (cV : Ch (fun _ => False) w2 V) w' (c' : Ch (fun y => y = w1.heap.size) V w') => show LL w w' B c bp M F ts l (ts.map Th.ab) from by
    have hs := HZ.out
    have cw := CB.out.trans cV (fun _ _ h => h)
    have cq : Ch (fun _ => False) w w' := cw.trans c' (fun y hy e => by omega)
    exact ⟨⟨F, ts, H0.out.quiet cq, rfl, fun y hy => .inl hy, fun z hz => ⟨z, hz, rfl⟩⟩, cq.mono (fun _ _ h => h.elim)⟩)
  have HM := hide (fun V (cV : Ch (fun _ => False) w2 V) => group_lis (H.out.quiet cV) x)
  have HRF := hide (refuse_lis H.out x (k := 3) (by decide))
  obtain ⟨o, ho⟩ : ∃ o, fnt ts x = o := ⟨_, rfl⟩
  have HO := hide ho
  rw [ho] at HM
  unfold rfT at HRF
  rw [ho] at HRF
  obtain ⟨s0, s1⟩ := HX.out w2 (Ch.refl _ _)
  clear h hc1 hz1 hn1 hc2 hz2 hn2 ho
  go_enter Try.func17, Try.ntmps17
  go_wp2_with fail
  clear hw1 hw2 s0 s1
  refine HRF.out.mono ?_
  rintro e w3 ⟨rfl, hb3⟩
  have C3 := hide (Ch.of_below (Q := fun _ => False) hb3)
  clear hb3 HRF
  cases hx : nnH x with
  | true =>
    have HHX := hide hx
    clear hx
    rw [if_pos rfl, show fnF 3 = 17 from rfl]
    have nV := (C3.out).box HNS.out.2 (fun h => h)
    have d0 : w3.cell? ⟨w1.heap.size, 0, none⟩ = some (.int .i64 0) := by simp [Lib.cell_of_heap nV]
    have d1 : w3.cell? ⟨w1.heap.size, 1, none⟩ = some (.int .i64 0) := by simp [Lib.cell_of_heap nV]
    have d2 : w3.cell? ⟨w1.heap.size, 2, none⟩ = some (.int .u32 0) := by simp [Lib.cell_of_heap nV]
    have d3 : w3.cell? ⟨w1.heap.size, 3, none⟩ = some (.int .u32 0) := by simp [Lib.cell_of_heap nV]
    have d4 : w3.cell? ⟨w1.heap.size, 4, none⟩ = some (.bool false) := by simp [Lib.cell_of_heap nV]
    have d5 : w3.cell? ⟨w1.heap.size, 5, none⟩ = some (.slice none 0 0) := by simp [Lib.cell_of_heap nV]
    have df : ∀ j, w3.frozen? ⟨w1.heap.size, j, none⟩ = false := frz nV
    have HS := hide (did_set nV (.int .i64 (17)) (.int .i64 0) (.int .u32 0) (.int .u32 0) (.bool false) (.slice none 0 0))
    clear nV
    go_wp2_with fail
    refine bodyPost_ret (v := .tuple #[didV (17) zVa false (.slice none 0 0), .int .i64 (0)]) (res_add _ w1.heap.size _ (17) 0 0 0 false _ (0) rfl rfl HS.out.1) rfl ?_
    refine ⟨_, 17, 0, [], l, ts.map Th.ab, rfl, ?_, HFIN.out w3 C3.out _ HS.out.2, Row.nil _ _⟩
    unfold AddR
    rw [if_pos HHX.out]
    exact ⟨rfl, rfl, rfl, rfl, rfl⟩
  | false =>
    have HHX := hide hx
    clear hx
    rw [if_neg (by decide)]
    cases o with
    | none =>
      rw [if_neg (show ¬ kdT none = 3 by decide)]
      have nV := (C3.out).box HNS.out.2 (fun h => h)
      have d0 : w3.cell? ⟨w1.heap.size, 0, none⟩ = some (.int .i64 0) := by simp [Lib.cell_of_heap nV]
      have d1 : w3.cell? ⟨w1.heap.size, 1, none⟩ = some (.int .i64 0) := by simp [Lib.cell_of_heap nV]
      have d2 : w3.cell? ⟨w1.heap.size, 2, none⟩ = some (.int .u32 0) := by simp [Lib.cell_of_heap nV]
      have d3 : w3.cell? ⟨w1.heap.size, 3, none⟩ = some (.int .u32 0) := by simp [Lib.cell_of_heap nV]
      have d4 : w3.cell? ⟨w1.heap.size, 4, none⟩ = some (.bool false) := by simp [Lib.cell_of_heap nV]
      have d5 : w3.cell? ⟨w1.heap.size, 5, none⟩ = some (.slice none 0 0) := by simp [Lib.cell_of_heap nV]
      have df : ∀ j, w3.frozen? ⟨w1.heap.size, j, none⟩ = false := frz nV
      have HS := hide (did_set nV (.int .i64 (0)) (.int .i64 0) (.int .u32 0) (.int .u32 0) (.bool false) (.slice none 0 0))
      clear nV
      go_wp2_with fail
      refine bodyPost_ret (v := .tuple #[didV (0) zVa false (.slice none 0 0), .int .i64 (161)]) (res_add _ w1.heap.size _ (0) 0 0 0 false _ (161) rfl rfl HS.out.1) rfl ?_
      refine ⟨_, 0, 161, [], l, ts.map Th.ab, rfl, ?_, HFIN.out w3 C3.out _ HS.out.2, Row.nil _ _⟩
      unfold AddR
      rw [if_neg (by rw [HHX.out]; decide), fnl_ab, HO.out]
      exact ⟨rfl, rfl, rfl, rfl, rfl⟩
    | some t =>
      obtain ⟨th, tb, tmu, tto, tn⟩ := t
      cases tmu with
      | true =>
        rw [if_neg (show ¬ kdT (some ⟨th, tb, true, tto, tn⟩) = 3 from fun e => by cases e)]
        have nV := (C3.out).box HNS.out.2 (fun h => h)
        have d0 : w3.cell? ⟨w1.heap.size, 0, none⟩ = some (.int .i64 0) := by simp [Lib.cell_of_heap nV]
        have d1 : w3.cell? ⟨w1.heap.size, 1, none⟩ = some (.int .i64 0) := by simp [Lib.cell_of_heap nV]
        have d2 : w3.cell? ⟨w1.heap.size, 2, none⟩ = some (.int .u32 0) := by simp [Lib.cell_of_heap nV]
        have d3 : w3.cell? ⟨w1.heap.size, 3, none⟩ = some (.int .u32 0) := by simp [Lib.cell_of_heap nV]
        have d4 : w3.cell? ⟨w1.heap.size, 4, none⟩ = some (.bool false) := by simp [Lib.cell_of_heap nV]
        have d5 : w3.cell? ⟨w1.heap.size, 5, none⟩ = some (.slice none 0 0) := by simp [Lib.cell_of_heap nV]
        have df : ∀ j, w3.frozen? ⟨w1.heap.size, j, none⟩ = false := frz nV
        have HS := hide (did_set nV (.int .i64 (0)) (.int .i64 0) (.int .u32 0) (.int .u32 0) (.bool false) (.slice none 0 0))
        clear nV
        go_wp2_with fail
        refine bodyPost_ret (v := .tuple #[didV (0) zVa false (.slice none 0 0), .int .i64 (161)]) (res_add _ w1.heap.size _ (0) 0 0 0 false _ (161) rfl rfl HS.out.1) rfl ?_
        refine ⟨_, 0, 161, [], l, ts.map Th.ab, rfl, ?_, HFIN.out w3 C3.out _ HS.out.2, Row.nil _ _⟩
        unfold AddR
        rw [if_neg (by rw [HHX.out]; decide), fnl_ab, HO.out]
        show (if true = true then _ else _)
        rw [if_pos rfl]
        exact ⟨rfl, rfl, rfl, rfl, rfl⟩
      | false =>
        rw [if_pos (show kdT (some ⟨th, tb, false, tto, tn⟩) = 3 from rfl)]
        obtain ⟨s0, s1⟩ := HX.out w3 C3.out
        go_wp2_with fail
        refine (HM.out w3 C3.out).mono ?_
        rintro e w4 ⟨rfl, hb4⟩
        have C4 := hide (C3.out.trans (Ch.of_below (Q := fun _ => False) hb4) (fun _ _ h => h))
        clear hb4 s0 s1
        rw [show grV (some ⟨th, tb, false, tto, tn⟩) = .pointer (some ⟨tb, 0, none⟩) from rfl, show isGr (some ⟨th, tb, false, tto, tn⟩) = true from rfl]
        obtain ⟨i, hi, hti, hth⟩ := fnt_at HO.out
        have hth : th = x := hth
        subst hth
        have hin : (⟨th, tb, false, tto, tn⟩ : Th) ∈ ts := by rw [← hti]; exact List.getElem_mem hi
        have HIN := hide (And.intro hin hti)
        have HCT := hide (hct _ hin)
        have HBX := hide (show ∀ V, Ch (fun _ => False) w2 V → V.heap[tb]? = some (.cells #[.int .i64 tn] 106 (0, 0)) from fun V cV => (H.out.quiet cV).th _ hin)
        have HTB := hide (show tb < w.heap.size from (H0.out.th _ hin).lt)
        have HA2 := hide (show ∀ f er ws l2 ls2, AddR l (ts.map Th.ab) th n f er ws l2 ls2 = (if 0 ≤ tn + n ∧ tn + n ≤ 2147483647 then (f = 0 ∧ er = 0 ∧ ls2 = setl (ts.map Th.ab) ⟨th, false, tto, tn + n⟩ ∧ if tn + n = 0 then WA (inRow th.1 th.2 4) zVa false 0 l ws l2 else ws = [] ∧ l2 = l) else f = 18 ∧ er = 0 ∧ ws = [] ∧ l2 = l ∧ ls2 = ts.map Th.ab) from fun f er ws l2 ls2 => by
          unfold AddR
          rw [if_neg (by rw [HHX.out]; decide), fnl_ab, HO.out]
          rfl)
        clear hti hin
        go_wp2_with fail
        refine (room_is (m := n) (HBX.out w4 C4.out) HCT.out).mono ?_
        rintro e w5 ⟨rfl, hb5⟩
        have C5 := hide (C4.out.trans (Ch.of_below (Q := fun _ => False) hb5) (fun _ _ h => h))
        clear hb5 
        by_cases hr : 0 ≤ tn + n ∧ tn + n ≤ 2147483647
        · rw [decide_eq_true hr.1, decide_eq_true hr.2]
          have HR := hide hr
          clear hr
          have NT5 := hide (HBX.out w5 C5.out)
          have r0 : w5.cell? ⟨tb, 0, none⟩ = some (.int .i64 tn) := by simp [Lib.cell_of_heap NT5.out]
          have rf : ∀ j, w5.frozen? ⟨tb, j, none⟩ = false := frz NT5.out
          have hw : IntKind.i64.wrap (tn + n) = tn + n := by have h1 := HR.out.1; have h2 := HR.out.2; rw [IntKind.wrap_i64]; omega
          obtain ⟨w6, hw6⟩ : ∃ z, w5.setCell ⟨tb, 0, none⟩ (.int .i64 (tn + n)) = z := ⟨_, rfl⟩
          have c56 : Ch (fun y => y = tb) w5 w6 := by rw [← hw6]; exact Ch.set (Q := fun y => y = tb) _ rfl 0 _
          have C56 := hide c56
          have NT6 := hide (show w6.heap[tb]? = some (.cells #[.int .i64 (tn + n)] 106 (0, 0)) by rw [← hw6]; exact heap_set NT5.out 0 _)
          have t0 : w6.cell? ⟨tb, 0, none⟩ = some (.int .i64 (tn + n)) := by simp [Lib.cell_of_heap NT6.out]
          have NE := hide (show ¬ w1.heap.size = tb ∧ ¬ w.heap.size = tb from ⟨by have := HTB.out; have := HZ.out; omega, by have := HTB.out; omega⟩)
          have ND6 := hide (c56.box (C5.out.box HNS.out.2 (fun h => h)) NE.out.1)
          have NX6 := hide (c56.box (C5.out.box HNS.out.1 (fun h => h)) NE.out.2)
          have LI6 := hide ((H.out.quiet C5.out).upd hi (x := ⟨th, tb, false, tto, tn + n⟩) NT6.out (by rw [HIN.out.2]; exact ⟨rfl, rfl, rfl⟩) c56)
          have HW6 := hide hw6
          clear c56
          have HMEM := hide (show ∀ z ∈ ts.set i ⟨th, tb, false, tto, tn + n⟩, ∃ u ∈ ts, z.b = u.b from fun z hz => by rcases List.mem_or_eq_of_mem_set hz with e | e; exact ⟨z, e, rfl⟩; exact ⟨⟨th, tb, false, tto, tn⟩, HIN.out.1, by rw [e]⟩)
          have K6 := hide (((CB.out.trans C5.out (fun _ _ h => h)).mono (Q' := fun y => F y ∨ ∃ u ∈ ts, y = u.b) (fun _ _ h => h.elim)).trans C56.out (fun y _ e => .inr ⟨⟨th, tb, false, tto, tn⟩, HIN.out.1, e⟩))
          have HL6 := hide (set_abt H0.out.nd hi (x := ⟨th, tb, false, tto, tn + n⟩) (by rw [HIN.out.2]))
          by_cases hp : 0 < tn + n
          · have q0 : decide (tn + n > 0) = true := decide_eq_true hp
            have HP := hide hp
            clear hp
            have nV := ND6.out
            have d0 : w6.cell? ⟨w1.heap.size, 0, none⟩ = some (.int .i64 0) := by simp [Lib.cell_of_heap nV]
            have d1 : w6.cell? ⟨w1.heap.size, 1, none⟩ = some (.int .i64 0) := by simp [Lib.cell_of_heap nV]
            have d2 : w6.cell? ⟨w1.heap.size, 2, none⟩ = some (.int .u32 0) := by simp [Lib.cell_of_heap nV]
            have d3 : w6.cell? ⟨w1.heap.size, 3, none⟩ = some (.int .u32 0) := by simp [Lib.cell_of_heap nV]
            have d4 : w6.cell? ⟨w1.heap.size, 4, none⟩ = some (.bool false) := by simp [Lib.cell_of_heap nV]
            have d5 : w6.cell? ⟨w1.heap.size, 5, none⟩ = some (.slice none 0 0) := by simp [Lib.cell_of_heap nV]
            have df : ∀ j, w6.frozen? ⟨w1.heap.size, j, none⟩ = false := frz nV
            have HS := hide (did_set nV (.int .i64 (0)) (.int .i64 0) (.int .u32 0) (.int .u32 0) (.bool false) (.slice none 0 0))
            clear nV
            go_wp2_with fail
            refine bodyPost_ret (v := .tuple #[didV (0) zVa false (.slice none 0 0), .int .i64 (0)]) (res_add _ w1.heap.size _ (0) 0 0 0 false _ (0) rfl rfl HS.out.1) rfl ?_
            try rw [HW6.out]
            refine ⟨_, 0, 0, [], l, setl (ts.map Th.ab) ⟨th, false, tto, tn + n⟩, rfl, ?_, ?_, Row.nil _ _⟩
            · rw [HA2.out, if_pos HR.out, if_neg (by have := HP.out; omega)]
              exact ⟨rfl, rfl, rfl, rfl, rfl⟩
            · have hs := HZ.out
              have s5 := C5.out.size
              have h3 := (Array.getElem?_eq_some_iff.1 HNS.out.2).1
              exact ⟨⟨F, _, LI6.out.frame HS.out.2 (H0.out.apart (N := w5.heap.size) (fun y hy => .inl hy) HMEM.out (A := w1.heap.size) (by omega) (by omega)), HL6.out, fun y hy => .inl hy, HMEM.out⟩, K6.out.trans HS.out.2 (fun y hy e => by omega)⟩
          · have q0 : decide (tn + n > 0) = false := decide_eq_false hp
            have HP := hide (show tn + n = 0 from by have := HR.out.1; omega)
            clear hp
            have s0 : w6.cell? ⟨w.heap.size, 0, none⟩ = some (.int .u32 th.1) := by simp [Lib.cell_of_heap NX6.out]
            have s1 : w6.cell? ⟨w.heap.size, 1, none⟩ = some (.int .u32 th.2) := by simp [Lib.cell_of_heap NX6.out]
            go_wp2_with fail
            try rw [HW6.out]
            refine (joiners_is w6 th).mono ?_
            rintro e w7 ⟨rfl, hb7⟩
            have C7 := hide (Ch.of_below (Q := fun _ => False) hb7)
            clear hb7 s0 s1 q0 t0 r0 rf hw hw6
            go_wp2_with fail
            refine (wakeAll_is (LI6.out.quiet C7.out) hl wo ux ux2 (by constructor <;> decide)).mono ?_
            rintro e w8 ⟨sv, F2, ws, l2, rfl, wa, h8, hr8, hc8, hd8⟩
            have WA8 := hide wa
            have LI8 := hide h8
            have R8 := hide hr8
            have C8 := hide hc8
            have D8 := hide hd8
            have HFA := hide (show ∀ y, w.heap.size ≤ y → ¬ F y from fun y hy e => by have := (face.foot H0.out.bk _ e).2; omega)
            have nV := hc8.box (C7.out.box ND6.out (fun h => h)) (HFA.out _ (by have := HZ.out; omega))
            obtain ⟨sa, sc, hsv, -, -⟩ := hr8.form
            obtain ⟨sn, hsn⟩ : ∃ z, ws.length = z := ⟨_, rfl⟩
            rw [hsn] at hsv
            subst hsv
            clear wa h8 hr8 hc8 hd8 hsn
            have d0 : w8.cell? ⟨w1.heap.size, 0, none⟩ = some (.int .i64 0) := by simp [Lib.cell_of_heap nV]
            have d1 : w8.cell? ⟨w1.heap.size, 1, none⟩ = some (.int .i64 0) := by simp [Lib.cell_of_heap nV]
            have d2 : w8.cell? ⟨w1.heap.size, 2, none⟩ = some (.int .u32 0) := by simp [Lib.cell_of_heap nV]
            have d3 : w8.cell? ⟨w1.heap.size, 3, none⟩ = some (.int .u32 0) := by simp [Lib.cell_of_heap nV]
            have d4 : w8.cell? ⟨w1.heap.size, 4, none⟩ = some (.bool false) := by simp [Lib.cell_of_heap nV]
            have d5 : w8.cell? ⟨w1.heap.size, 5, none⟩ = some (.slice none 0 0) := by simp [Lib.cell_of_heap nV]
            have df : ∀ j, w8.frozen? ⟨w1.heap.size, j, none⟩ = false := frz nV
            have HS := hide (did_set nV (.int .i64 0) (.int .i64 0) (.int .u32 0) (.int .u32 0) (.bool false) (.slice sa sn sc))
            have NOW := hide (own_box R8.out nV (by decide))
            clear nV
            go_wp2_with fail
            refine bodyPost_ret (v := .tuple #[didV 0 zVa false (.slice sa sn sc), .int .i64 0]) (res_add _ w1.heap.size _ 0 0 0 0 false _ 0 rfl rfl HS.out.1) rfl ?_
            refine ⟨_, 0, 0, ws, l2, setl (ts.map Th.ab) ⟨th, false, tto, tn + n⟩, rfl, ?_, ?_, Row.ch (rowLow R8.out ?_) HS.out.2 (fun b hb e => NOW.out (by rw [hb, e]))⟩
            · rw [HA2.out, if_pos HR.out, if_pos HP.out]
              exact ⟨rfl, rfl, rfl, WA8.out⟩
            · have hs := HZ.out
              have s5 := C5.out.size
              have s6 := C56.out.size
              have s7 := C7.out.size
              have h3 := (Array.getElem?_eq_some_iff.1 HNS.out.2).1
              have sB := CB.out.size
              exact ⟨⟨F2, _, LI8.out.frame HS.out.2 (H0.out.apart (N := w7.heap.size) D8.out HMEM.out (A := w1.heap.size) (by omega) (by omega)), HL6.out, fun y hy => (D8.out y hy).imp_right (fun e => by omega), HMEM.out⟩, ((K6.out.trans C7.out (fun _ _ h => h.elim)).trans C8.out (fun y _ e => .inl e)).trans HS.out.2 (fun y hy e => by omega)⟩
            · have s5 := C5.out.size
              have s6 := C56.out.size
              have s7 := C7.out.size
              have sB := CB.out.size
              omega
        · have hq : (decide (0 ≤ tn + n) && decide (tn + n ≤ 2147483647)) = false := by rw [Bool.eq_false_iff]; intro e; rw [Bool.and_eq_true, decide_eq_true_iff, decide_eq_true_iff] at e; exact hr e
          rw [hq]
          have HR := hide hr
          clear hr hq
          have nV := (C5.out).box HNS.out.2 (fun h => h)
          have d0 : w5.cell? ⟨w1.heap.size, 0, none⟩ = some (.int .i64 0) := by simp [Lib.cell_of_heap nV]
          have d1 : w5.cell? ⟨w1.heap.size, 1, none⟩ = some (.int .i64 0) := by simp [Lib.cell_of_heap nV]
          have d2 : w5.cell? ⟨w1.heap.size, 2, none⟩ = some (.int .u32 0) := by simp [Lib.cell_of_heap nV]
          have d3 : w5.cell? ⟨w1.heap.size, 3, none⟩ = some (.int .u32 0) := by simp [Lib.cell_of_heap nV]
          have d4 : w5.cell? ⟨w1.heap.size, 4, none⟩ = some (.bool false) := by simp [Lib.cell_of_heap nV]
          have d5 : w5.cell? ⟨w1.heap.size, 5, none⟩ = some (.slice none 0 0) := by simp [Lib.cell_of_heap nV]
          have df : ∀ j, w5.frozen? ⟨w1.heap.size, j, none⟩ = false := frz nV
          have HS := hide (did_set nV (.int .i64 (18)) (.int .i64 0) (.int .u32 0) (.int .u32 0) (.bool false) (.slice none 0 0))
          clear nV
          go_wp2_with fail
          refine bodyPost_ret (v := .tuple #[didV (18) zVa false (.slice none 0 0), .int .i64 (0)]) (res_add _ w1.heap.size _ (18) 0 0 0 false _ (0) rfl rfl HS.out.1) rfl ?_
          refine ⟨_, 18, 0, [], l, ts.map Th.ab, rfl, ?_, HFIN.out w5 C5.out _ HS.out.2, Row.nil _ _⟩
          rw [HA2.out, if_neg HR.out]
          exact ⟨rfl, rfl, rfl, rfl, rfl⟩

end Go.Proofs.Ytoabhmpakcgloaa

namespace Go.Proofs.Ytoabhmpakcgloaa
open Go.RowKit

/-- they and their book; G: their blocks -/
def LW (w : World) (B c bp : Nat) (l : List Wt) (ls : List Lk) (G : Nat → Prop) : Prop :=
  ∃ M F ts, LI w B c bp M F l ts ∧ ts.map Th.ab = ls ∧ ∀ y, G y ↔ (y = c ∨ y = M ∨ F y ∨ ∃ x ∈ ts, y = x.b)
def isMuL (o : Option Lk) : Bool := match o with | none => false | some t => t.mu
def isGrL (o : Option Lk) : Bool := match o with | none => false | some t => !t.mu
def hdL (o : Option Lk) : Hnd := match o with | none => (0, 0) | some t => if t.mu then t.o else (0, 0)
def ctL (o : Option Lk) : Int := match o with | none => 0 | some t => if t.mu then 0 else t.n
theorem isMu_ab (o : Option Th) : isMuL (o.map Th.ab) = isMu o := by cases o <;> rfl
theorem isGr_ab (o : Option Th) : isGrL (o.map Th.ab) = isGr o := by cases o <;> rfl
theorem hd_ab (o : Option Th) : hdL (o.map Th.ab) = hdT o := by cases o <;> rfl
theorem ct_ab (o : Option Th) : ctL (o.map Th.ab) = ctT o := by cases o <;> rfl

section
variable {w w' : World} {B c bp : Nat} {l : List Wt} {ls : List Lk} {G : Nat → Prop}
theorem LW.frame {Q : Nat → Prop} (h : LW w B c bp l ls G) (hc : Ch Q w w') (hq : ∀ y, G y → ¬ Q y) : LW w' B c bp l ls G := by
  obtain ⟨M, F, ts, h1, h2, h3⟩ := h
  exact ⟨M, F, ts, h1.frame hc (fun y hy => hq y ((h3 y).2 hy)), h2, h3⟩
theorem LW.quiet (h : LW w B c bp l ls G) (hc : Ch (fun _ => False) w w') : LW w' B c bp l ls G := h.frame hc (fun _ _ h => h)
theorem LW.foot (h : LW w B c bp l ls G) {y : Nat} (hy : G y) : B ≤ y ∧ y < w.heap.size := by
  obtain ⟨M, F, ts, h1, h2, h3⟩ := h
  exact h1.feet ((h3 y).1 hy)
theorem LW.low (h : LW w B c bp l ls G) : B ≤ w.heap.size := by
  obtain ⟨M, F, ts, h1, h2, h3⟩ := h
  exact h1.low
theorem LW.nbox (h : LW w B c bp l ls G) {b : Nat} {a : Array Value} {T : TypeId} (hb : w.heap[b]? = some (.cells a T (0, 0))) (h1 : 78 ≠ T) (h2 : 124 ≠ T) (h3 : 81 ≠ T) (h4 : 94 ≠ T) (h5 : 106 ≠ T) : ¬ G b := by
  obtain ⟨M, F, ts, h, -, hG⟩ := h
  exact fun e => h.nbox hb h1 h2 h3 h4 h5 b ((hG b).1 e) rfl
theorem LW.bk (h : LW w B c bp l ls G) : ∃ F, PTb w B F bp l ∧ ∀ y, F y → G y := by
  obtain ⟨M, F, ts, h, -, hG⟩ := h
  exact ⟨F, h.bk, fun y hy => (hG y).2 (.inr (.inr (.inl hy)))⟩

/-- what a call leaves -/
def AnsL (w w' : World) (B c bp : Nat) (G : Nat → Prop) (l2 : List Wt) (ls2 : List Lk) : Prop :=
  ∃ G', LW w' B c bp l2 ls2 G' ∧ Ch G w w' ∧ ∀ y, G' y → G y ∨ w.heap.size ≤ y
theorem LL.word {M : Nat} {F : Nat → Prop} {ts : List Th} {l2 : List Wt} {ls2 : List Lk} (k : LL w w' B c bp M F ts l2 ls2) (hG : ∀ y, G y ↔ (y = c ∨ y = M ∨ F y ∨ ∃ x ∈ ts, y = x.b)) : AnsL w w' B c bp G l2 ls2 := by
  obtain ⟨F', ts', h1, h2, h3, h4⟩ := k.st
  refine ⟨_, ⟨M, F', ts', h1, h2, fun _ => Iff.rfl⟩, k.ch.mono (fun y _ hy => (hG y).2 (.inr (.inr hy))), fun y hy => ?_⟩
  rcases hy with hy | hy | hy | ⟨z, hz, hy⟩
  · exact .inl ((hG y).2 (.inl hy))
  · exact .inl ((hG y).2 (.inr (.inl hy)))
  · exact (h3 y hy).imp_left fun e => (hG y).2 (.inr (.inr (.inl e)))
  · obtain ⟨u, hu, e⟩ := h4 z hz
    exact .inl ((hG y).2 (.inr (.inr (.inr ⟨u, hu, hy.trans e⟩))))

theorem lw_lock (h : LW w B c bp l ls G) (hl : l.length ≤ 100000) {g x : Hnd} (ug : UsW g.1) (ug2 : UsW g.2) (ux : UsW x.1) (ux2 : UsW x.2) :
    Calls Try.prog 12 #[.pointer (some ⟨c, 0, none⟩), hkV g, hkV x] w fun e w' => e = .returned (.tuple #[didV (askK l ls g x 2).1 zVa false (.slice none 0 0), .int .i64 (askK l ls g x 2).2.1]) ∧ AnsL w w' B c bp G (askK l ls g x 2).2.2.1 (askK l ls g x 2).2.2.2 := by
  obtain ⟨M, F, ts, h1, rfl, hG⟩ := h
  exact (lock_lis h1 hl ug ug2 ux ux2).mono fun e w' k => ⟨k.1, k.2.word hG⟩
theorem lw_wait (h : LW w B c bp l ls G) (hl : l.length ≤ 100000) {g x : Hnd} (ug : UsW g.1) (ug2 : UsW g.2) (ux : UsW x.1) (ux2 : UsW x.2) :
    Calls Try.prog 16 #[.pointer (some ⟨c, 0, none⟩), hkV g, hkV x] w fun e w' => e = .returned (.tuple #[didV (askK l ls g x 3).1 zVa false (.slice none 0 0), .int .i64 (askK l ls g x 3).2.1]) ∧ AnsL w w' B c bp G (askK l ls g x 3).2.2.1 (askK l ls g x 3).2.2.2 := by
  obtain ⟨M, F, ts, h1, rfl, hG⟩ := h
  exact (wait_lis h1 hl ug ug2 ux ux2).mono fun e w' k => ⟨k.1, k.2.word hG⟩
theorem lw_unlock (h : LW w B c bp l ls G) (hl : l.length ≤ 100000) (wo : WtOk l) {x : Hnd} (ux : UsW x.1) (ux2 : UsW x.2) :
    Calls Try.prog 13 #[.pointer (some ⟨c, 0, none⟩), hkV x] w fun e w' => ∃ sv, e = .returned (.tuple #[didV (unlK l ls x).1 zVa false sv, .int .i64 (unlK l ls x).2.1]) ∧ WkRow w' w.heap.size sv (unlK l ls x).2.2.1 ∧ AnsL w w' B c bp G (unlK l ls x).2.2.2.1 (unlK l ls x).2.2.2.2 := by
  obtain ⟨M, F, ts, h1, rfl, hG⟩ := h
  refine (unlock_lis h1 hl wo ux ux2).mono ?_
  rintro e w' ⟨sv, h2, h3, h4⟩
  exact ⟨sv, h2, h4, h3.word hG⟩
theorem lw_add (h : LW w B c bp l ls G) (hl : l.length ≤ 100000) (wo : WtOk l) (hct : ∀ u ∈ ls, CtOk u.n) {x : Hnd} (ux : UsW x.1) (ux2 : UsW x.2) (n : Int) :
    Calls Try.prog 17 #[.pointer (some ⟨c, 0, none⟩), hkV x, .int .i64 n] w fun e w' => ∃ sv f er ws l2 ls2, e = .returned (.tuple #[didV f zVa false sv, .int .i64 er]) ∧ AddR l ls x n f er ws l2 ls2 ∧ WkRow w' w.heap.size sv ws ∧ AnsL w w' B c bp G l2 ls2 := by
  obtain ⟨M, F, ts, h1, rfl, hG⟩ := h
  refine (add_lis h1 hl wo (fun u hu => hct u.ab (List.mem_map_of_mem hu)) ux ux2 n).mono ?_
  rintro e w' ⟨sv, f, er, ws, l2, ls2, h2, h3, h4, h5⟩
  exact ⟨sv, f, er, ws, l2, ls2, h2, h3, h5, h4.word hG⟩
theorem lw_holder (h : LW w B c bp l ls G) (x : Hnd) : Calls Try.prog 14 #[.pointer (some ⟨c, 0, none⟩), hkV x] w fun e w' => e = .returned (.tuple #[hkV (hdL (fnl ls x)), .int .i64 (if isMuL (fnl ls x) then 0 else 161)]) ∧ Below w.heap.size w w' := by
  obtain ⟨M, F, ts, h1, rfl, hG⟩ := h
  rw [fnl_ab, hd_ab, isMu_ab]
  exact holder_lis h1 x
theorem lw_counter (h : LW w B c bp l ls G) (x : Hnd) : Calls Try.prog 18 #[.pointer (some ⟨c, 0, none⟩), hkV x] w fun e w' => e = .returned (.tuple #[.int .i64 (ctL (fnl ls x)), .int .i64 (if isGrL (fnl ls x) then 0 else 161)]) ∧ Below w.heap.size w w' := by
  obtain ⟨M, F, ts, h1, rfl, hG⟩ := h
  rw [fnl_ab, ct_ab, isGr_ab]
  exact counter_lis h1 x
theorem lw_new {F : Nat → Prop} (h : PTb w B F bp []) (hB : B ≤ w.heap.size) : Calls Try.prog 8 #[.pointer (some ⟨bp, 0, none⟩)] w fun e w' => ∃ c G, e = .returned (.tuple #[.pointer (some ⟨c, 0, none⟩), .int .i64 0]) ∧ LW w' B c bp [] [] G ∧ Below w.heap.size w w' := by
  refine (new_lis h hB).mono ?_
  rintro e w' ⟨c, M, h1, h2, h3⟩
  exact ⟨c, _, h1, ⟨M, F, [], h2, rfl, fun _ => Iff.rfl⟩, h3⟩
/-- a new one of kind k -/
def frL (x : Hnd) (k : Int) : Lk := ⟨x, decide (k = 2), (0, 0), 0⟩
theorem lw_make (h : LW w B c bp l ls G) {x : Hnd} (hnn : nnH x = false) {k : Int} (hk : k = 2 ∨ k = 3) (hf : fnl ls x = none) :
    Calls Try.prog 9 #[.pointer (some ⟨c, 0, none⟩), hkV x, .int .i64 k] w fun e w' => e = .returned (.int .i64 0) ∧ AnsL w w' B c bp G l (ls ++ [frL x k]) := by
  obtain ⟨M, F, ts, h1, rfl, hG⟩ := h
  rw [fnl_ab] at hf
  have hf2 : fnt ts x = none := by cases hq : fnt ts x with | none => rfl | some t => rw [hq] at hf; cases hf
  refine (make_lis h1 hnn hk hf2).mono ?_
  rintro e w' ⟨b, h2, h3, h4, h5⟩
  refine ⟨h2, _, ⟨M, F, _, h3, by rw [List.map_append]; rfl, fun _ => Iff.rfl⟩, h4.mono (fun y _ e => (hG y).2 (.inr (.inl e))), fun y hy => ?_⟩
  rcases hy with hy | hy | hy | ⟨z, hz, hy⟩
  · exact .inl ((hG y).2 (.inl hy))
  · exact .inl ((hG y).2 (.inr (.inl hy)))
  · exact .inl ((hG y).2 (.inr (.inr (.inl hy))))
  · rcases List.mem_append.1 hz with hz | hz
    · exact .inl ((hG y).2 (.inr (.inr (.inr ⟨z, hz, hy⟩))))
    · rw [List.mem_singleton.1 hz] at hy
      exact .inr (by rw [hy]; exact h5)
end

end Go.Proofs.Ytoabhmpakcgloaa
