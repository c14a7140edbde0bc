/- The statements' first question. -/
import Derived.Test.YtgheaieghoekhaaDoorDi
import Derived.Test.YtgheaieghoekhaaDoorSa
namespace Go.Proofs.YtgheaieghoekhaaDoor
open Go.RowKit

def mainN : ByteArray := ⟨#[109, 97, 105, 110]⟩
def plainP (l : List In) : Pg := ⟨[⟨mainN, 0, 2, false, l⟩], [], [], 0⟩
def oneC : List In := [⟨1, 0, 0, 0⟩, ⟨26, 0, 0, 0⟩]
def twoC : List In := [⟨1, 0, 0, 0⟩, ⟨7, 0, 0, 0⟩, ⟨26, 0, 0, 0⟩]

theorem chk_one : chk (plainP oneC) = (0, -1, -1) := by kernel_rfl
theorem chk_two : chk (plainP twoC) = (84, 0, 1) := by kernel_rfl
theorem len_one : (bprog (plainP oneC)).length = 64 := by kernel_rfl
theorem back_one : gProg (bprog (plainP oneC)) = some (plainP oneC) := by kernel_rfl

set_option maxHeartbeats 2000000 in
theorem plain_is (a : Option Addr) (n c : Nat) (w : World) :
    Calls Tryd.prog 15 #[.slice a n c] w fun e w' => ∃ D, w.heap.size ≤ D ∧ e = .returned (pv (.slice (some ⟨D, 0, none⟩) 1 1) (.slice none 0 0) (.slice none 0 0) 0) ∧
      w'.heap[D]? = some (.cells #[.string mainN, .int .i64 0, .int .i64 2, .bool false, .slice a n c] 51 (0, 0)) ∧ Below w.heap.size w w' := by
  go_enter Tryd.func15, Tryd.ntmps15
  go_wp2
  refine bodyPost_ret (v := pv (.slice (some ⟨w.heap.size + 1, 0, none⟩) 1 1) (.slice none 0 0) (.slice none 0 0) 0) (by simp [results, Tryd.results15, go_sem]) rfl ⟨w.heap.size + 1, by omega, rfl, new2' w _ _, below2 w _ _⟩

theorem pg_plain {N : Nat} {w : World} {D A : Nat} {l : List In} (hD : w.heap[D]? = some (.cells #[.string mainN, .int .i64 0, .int .i64 2, .bool false, .slice (some ⟨A, 0, none⟩) l.length l.length] 51 (0, 0))) (h1 : D < N) (h2 : A < N) (hl : l.length ≤ 140737488355328)
    (hc : ∀ i (h : i < l.length), InAt w A (i * 4) l[i]) : PgAt N w (.slice (some ⟨D, 0, none⟩) 1 1) (.slice none 0 0) (.slice none 0 0) (plainP l) := by
  refine ⟨⟨D, 0, ⟨_, _, rfl, Nat.le_refl _, by show 1 ≤ _; omega, fun _ => ⟨rfl, h1⟩⟩, ?_⟩, ⟨0, 0, ⟨none, 0, rfl, Nat.le_refl _, by simp [plainP], fun h => by simp [plainP] at h⟩, fun i h => by simp [plainP] at h⟩, ⟨0, 0, ⟨none, 0, rfl, Nat.le_refl _, by simp [plainP], fun h => by simp [plainP] at h⟩, fun i h => by simp [plainP] at h⟩⟩
  intro i hi
  have hi0 : i = 0 := by simp [plainP] at hi; exact hi
  subst hi0
  refine ⟨.slice (some ⟨A, 0, none⟩) l.length l.length, ?_, ?_, ?_, ?_, ?_, A, 0, ⟨_, _, rfl, Nat.le_refl _, Nat.le_trans hl (by decide), fun _ => ⟨rfl, h2⟩⟩, ?_⟩
  · simp [World.cell?, hD, plainP]
  · simp [World.cell?, hD, plainP]
  · simp [World.cell?, hD, plainP]
  · simp [World.cell?, hD, plainP]
  · simp [World.cell?, hD]
  · intro i hi
    rw [Nat.zero_add]
    exact hc i hi

theorem one_at {w : World} {A : Nat} (h : w.heap[A]? = some (.cells #[.int .i64 1, .int .i64 0, .int .i64 0, .int .i64 0, .int .i64 26, .int .i64 0, .int .i64 0, .int .i64 0] 29 (0, 0))) : ∀ i (hi : i < oneC.length), InAt w A (i * 4) oneC[i] := by
  intro i hi
  have : i < 2 := hi
  match i, this with
  | 0, _ => exact ⟨by simp [World.cell?, h, oneC], by simp [World.cell?, h, oneC], by simp [World.cell?, h, oneC], by simp [World.cell?, h, oneC]⟩
  | 1, _ => exact ⟨by simp [World.cell?, h, oneC], by simp [World.cell?, h, oneC], by simp [World.cell?, h, oneC], by simp [World.cell?, h, oneC]⟩
theorem two_at {w : World} {A : Nat} (h : w.heap[A]? = some (.cells #[.int .i64 1, .int .i64 0, .int .i64 0, .int .i64 0, .int .i64 7, .int .i64 0, .int .i64 0, .int .i64 0, .int .i64 26, .int .i64 0, .int .i64 0, .int .i64 0] 29 (0, 0))) : ∀ i (hi : i < twoC.length), InAt w A (i * 4) twoC[i] := by
  intro i hi
  have : i < 3 := hi
  match i, this with
  | 0, _ => exact ⟨by simp [World.cell?, h, twoC], by simp [World.cell?, h, twoC], by simp [World.cell?, h, twoC], by simp [World.cell?, h, twoC]⟩
  | 1, _ => exact ⟨by simp [World.cell?, h, twoC], by simp [World.cell?, h, twoC], by simp [World.cell?, h, twoC], by simp [World.cell?, h, twoC]⟩
  | 2, _ => exact ⟨by simp [World.cell?, h, twoC], by simp [World.cell?, h, twoC], by simp [World.cell?, h, twoC], by simp [World.cell?, h, twoC]⟩

theorem blkO {N : Nat} {w w' : World} (h : Below N w w') {B : Nat} {o : Obj} (hb : w.heap[B]? = some o) (hB : B < N) : w'.heap[B]? = some o := (h.block B hB).trans hb

theorem PgAt.mono {N N' : Nat} {w : World} {v1 v2 v3 : Value} {p : Pg} (h : PgAt N w v1 v2 v3 p) (hN : N ≤ N') : PgAt N' w v1 v2 v3 p :=
  ⟨h.hf.imp hN fun _ _ _ _ ⟨v, f1, f2, f3, f4, f5, f6⟩ => ⟨v, f1, f2, f3, f4, f5, f6.imp hN fun _ _ _ _ hx => hx⟩, h.hp.imp hN fun _ _ _ _ ⟨v, f1, f6⟩ => ⟨v, f1, f6.imp hN fun _ _ _ _ hx => hx⟩, h.ha.imp hN fun _ _ _ _ ⟨v, f1, f6⟩ => ⟨v, f1, f6.imp hN fun _ _ _ _ hx => hx⟩⟩

set_option maxHeartbeats 8000000 in
theorem awake_is {w : World} (hT : Tb w) (hG : 0 < w.heap.size) :
    Calls Tryd.prog 6 #[] w fun e w' => e = .returned (.bool true) ∧ Below w.heap.size w w' := by
  have HT := hide hT
  clear hT
  go_enter Tryd.func6, Tryd.ntmps6
  go_wp2_with fail
  refine (plain_is _ _ _ _).mono ?_
  rintro e u1 ⟨D1, hd1, rfl, hD1, hB1⟩
  have hA1 := blkO hB1 (heap_new w (.cells #[.int .i64 1, .int .i64 0, .int .i64 0, .int .i64 0, .int .i64 26, .int .i64 0, .int .i64 0, .int .i64 0] 29)) (by simp)
  have hl1 := (Array.getElem?_eq_some_iff.1 hD1).1
  have hs1 := hB1.size
  rw [World.size_alloc] at hd1 hs1
  have HD1 := hide hD1
  have HA1 := hide hA1
  have HB1 := hide ((below1 w _).trans (hB1.mono (by simp)))
  clear hD1 hB1 hA1
  go_wp2_with fail
  refine (plain_is _ _ _ _).mono ?_
  rintro e u2 ⟨D2, hd2, rfl, hD2, hB2⟩
  have hl2 := (Array.getElem?_eq_some_iff.1 hD2).1
  have hs2 := hB2.size
  rw [World.size_alloc, World.size_alloc] at hd2 hs2
  have hBu : Below u1.heap.size u1 u2 := (below2 u1 _ _).trans (hB2.mono (by simp; omega))
  have hP1 : u2.heap[u1.heap.size]? = some (.cells #[.slice (some ⟨D1, 0, none⟩) 1 1, .slice none 0 0, .slice none 0 0, .int .i64 0] 26 (0, 0)) := blkO hB2 (new2 u1 _ _) (by simp; omega)
  have hA2 : u2.heap[u1.heap.size + 1]? = some (.cells #[.int .i64 1, .int .i64 0, .int .i64 0, .int .i64 0, .int .i64 7, .int .i64 0, .int .i64 0, .int .i64 0, .int .i64 26, .int .i64 0, .int .i64 0, .int .i64 0] 29 (0, 0)) := blkO hB2 (new2' u1 _ _) (by simp)
  have hA1 : u2.heap[w.heap.size]? = some (.cells #[.int .i64 1, .int .i64 0, .int .i64 0, .int .i64 0, .int .i64 26, .int .i64 0, .int .i64 0, .int .i64 0] 29 (0, 0)) := blkO hBu (unhide HA1) (by omega)
  have hD1 := blkO hBu (unhide HD1) hl1
  have hBw : Below w.heap.size w u2 := (unhide HB1).trans (hBu.mono (by omega))
  obtain ⟨W3, hW3⟩ : ∃ W3, W3 = u2.alloc (.cells #[.slice (some ⟨D2, 0, none⟩) 1 1, .slice none 0 0, .slice none 0 0, .int .i64 0] 26) := ⟨_, rfl⟩
  have hb3 : Below u2.heap.size u2 W3 := by rw [hW3]; exact below1 u2 _
  have hs3 : W3.heap.size = u2.heap.size + 1 := by rw [hW3]; simp
  have p2 : W3.heap[u2.heap.size]? = some (.cells #[.slice (some ⟨D2, 0, none⟩) 1 1, .slice none 0 0, .slice none 0 0, .int .i64 0] 26 (0, 0)) := by rw [hW3]; exact heap_new u2 _
  have p1 := blkO hb3 hP1 (by omega)
  have a1 := blkO hb3 hA1 (by omega)
  have a2 := blkO hb3 hA2 (by omega)
  have k1 := blkO hb3 hD1 (by omega)
  have k2 := blkO hb3 hD2 (by omega)
  have hbw3 : Below w.heap.size w W3 := hBw.trans (hb3.mono (by omega))
  have HG1 := hide (show Gd W3.heap.size W3 _ _ _ (plainP oneC) from { pg_plain (l := oneC) k1 (by omega) (by omega) (by decide) (one_at a1) with le := Nat.le_refl _, g := by omega, t := (unhide HT).below hG hbw3 })
  have HG2 := hide (show Gd W3.heap.size W3 _ _ _ (plainP twoC) from { pg_plain (l := twoC) k2 (by omega) (by omega) (by decide) (two_at a2) with le := Nat.le_refl _, g := by omega, t := (unhide HT).below hG hbw3 })
  have x0 : W3.cell? ⟨u1.heap.size, 0, none⟩ = some (.slice (some ⟨D1, 0, none⟩) 1 1) := by simp [World.cell?, p1]
  have x1 : W3.cell? ⟨u1.heap.size, 1, none⟩ = some (.slice none 0 0) := by simp [World.cell?, p1]
  have x2 : W3.cell? ⟨u1.heap.size, 2, none⟩ = some (.slice none 0 0) := by simp [World.cell?, p1]
  have x3 : W3.cell? ⟨u1.heap.size, 3, none⟩ = some (.int .i64 0) := by simp [World.cell?, p1]
  have y0 : W3.cell? ⟨u2.heap.size, 0, none⟩ = some (.slice (some ⟨D2, 0, none⟩) 1 1) := by simp [World.cell?, p2]
  have y1 : W3.cell? ⟨u2.heap.size, 1, none⟩ = some (.slice none 0 0) := by simp [World.cell?, p2]
  have y2 : W3.cell? ⟨u2.heap.size, 2, none⟩ = some (.slice none 0 0) := by simp [World.cell?, p2]
  have y3 : W3.cell? ⟨u2.heap.size, 3, none⟩ = some (.int .i64 0) := by simp [World.cell?, p2]
  have HP1 := hide p1
  have HP2 := hide p2
  have HW3 := hide hW3
  have HB3 := hide hbw3
  have r1 : ∀ j, u2.cell? ⟨u1.heap.size, j, none⟩ = W3.cell? ⟨u1.heap.size, j, none⟩ := fun j => (hb3.cell (p := ⟨u1.heap.size, j, none⟩) (by show u1.heap.size < _; omega)).symm
  have l12 : u1.heap.size < u2.heap.size := by omega
  clear hP1 hA1 hA2 hD1 hD2 hB2 hBu hBw hW3 hb3 p1 p2 a1 a2 k1 k2 hbw3
  go_wp2_with fail
  rw [← unhide HW3]
  refine (check_is (unhide HG1) chk_one).mono ?_
  rintro e u4 ⟨rfl, hB4⟩
  have hs4 := hB4.size
  have p1 := blkO hB4 (unhide HP1) (by omega)
  have p2 := blkO hB4 (unhide HP2) (by omega)
  clear x0 x1 x2 x3 y0 y1 y2 y3 r1
  have x0 : u4.cell? ⟨u1.heap.size, 0, none⟩ = some (.slice (some ⟨D1, 0, none⟩) 1 1) := by simp [World.cell?, p1]
  have x1 : u4.cell? ⟨u1.heap.size, 1, none⟩ = some (.slice none 0 0) := by simp [World.cell?, p1]
  have x2 : u4.cell? ⟨u1.heap.size, 2, none⟩ = some (.slice none 0 0) := by simp [World.cell?, p1]
  have x3 : u4.cell? ⟨u1.heap.size, 3, none⟩ = some (.int .i64 0) := by simp [World.cell?, p1]
  have y0 : u4.cell? ⟨u2.heap.size, 0, none⟩ = some (.slice (some ⟨D2, 0, none⟩) 1 1) := by simp [World.cell?, p2]
  have y1 : u4.cell? ⟨u2.heap.size, 1, none⟩ = some (.slice none 0 0) := by simp [World.cell?, p2]
  have y2 : u4.cell? ⟨u2.heap.size, 2, none⟩ = some (.slice none 0 0) := by simp [World.cell?, p2]
  have y3 : u4.cell? ⟨u2.heap.size, 3, none⟩ = some (.int .i64 0) := by simp [World.cell?, p2]
  have HG14 := hide ((unhide HG1).below hB4 hs4)
  have HG24 := hide ((unhide HG2).below hB4 hs4)
  have HP14 := hide p1
  have HB4 := hide ((unhide HB3).trans (hB4.mono (by omega)))
  clear p1 p2 hB4
  go_wp2_with fail
  refine (check_is (unhide HG24) chk_two).mono ?_
  rintro e u5 ⟨rfl, hB5⟩
  have hs5 := hB5.size
  have p1 := blkO hB5 (unhide HP14) (by omega)
  clear x0 x1 x2 x3 y0 y1 y2 y3
  have x0 : u5.cell? ⟨u1.heap.size, 0, none⟩ = some (.slice (some ⟨D1, 0, none⟩) 1 1) := by simp [World.cell?, p1]
  have x1 : u5.cell? ⟨u1.heap.size, 1, none⟩ = some (.slice none 0 0) := by simp [World.cell?, p1]
  have x2 : u5.cell? ⟨u1.heap.size, 2, none⟩ = some (.slice none 0 0) := by simp [World.cell?, p1]
  have x3 : u5.cell? ⟨u1.heap.size, 3, none⟩ = some (.int .i64 0) := by simp [World.cell?, p1]
  have HG15 := hide ((unhide HG14).below (hB5.mono hs4) (by omega))
  have HP15 := hide p1
  have HB5 := hide ((unhide HB4).trans (hB5.mono (by omega)))
  clear p1 hB5
  go_wp2_with fail
  refine (encode_ok (unhide HG15) chk_one (by rw [len_one]; omega)).mono ?_
  rintro e u6 ⟨rfl, hB6⟩
  have hs6 := hB6.size
  have p1 := blkO hB6 (unhide HP15) (by omega)
  clear x0 x1 x2 x3
  have x0 : u6.cell? ⟨u1.heap.size, 0, none⟩ = some (.slice (some ⟨D1, 0, none⟩) 1 1) := by simp [World.cell?, p1]
  have x1 : u6.cell? ⟨u1.heap.size, 1, none⟩ = some (.slice none 0 0) := by simp [World.cell?, p1]
  have x2 : u6.cell? ⟨u1.heap.size, 2, none⟩ = some (.slice none 0 0) := by simp [World.cell?, p1]
  have x3 : u6.cell? ⟨u1.heap.size, 3, none⟩ = some (.int .i64 0) := by simp [World.cell?, p1]
  have HG16 := hide ((unhide HG15).below (hB6.mono (by omega)) (by omega))
  have HP16 := hide p1
  have HB6 := hide ((unhide HB5).trans (hB6.mono (by omega)))
  clear p1 hB6
  have hsz6 : (⟨(bprog (plainP oneC)).toArray⟩ : ByteArray).size = 64 := by show (bprog (plainP oneC)).toArray.size = 64; rw [List.size_toArray]; exact len_one
  have HD6 := hide (decode_ok (w := u6) (unhide HG16).t (by omega) ⟨(bprog (plainP oneC)).toArray⟩ (by rw [hsz6]; omega) (p := plainP oneC) (by show gProg (bprog (plainP oneC)).toArray.toList = _; rw [List.toList_toArray]; exact back_one) chk_one)
  generalize hbs : (⟨(bprog (plainP oneC)).toArray⟩ : ByteArray) = bs at *
  clear hbs
  go_wp2_with fail
  refine (unhide HD6).mono ?_
  rintro e u7 ⟨⟨v1, v2, v3, rfl, hP7⟩, hB7⟩
  have hs7 := hB7.size
  have p1 := blkO hB7 (unhide HP16) (by omega)
  clear x0 x1 x2 x3 HD6
  have x0 : u7.cell? ⟨u1.heap.size, 0, none⟩ = some (.slice (some ⟨D1, 0, none⟩) 1 1) := by simp [World.cell?, p1]
  have x1 : u7.cell? ⟨u1.heap.size, 1, none⟩ = some (.slice none 0 0) := by simp [World.cell?, p1]
  have x2 : u7.cell? ⟨u1.heap.size, 2, none⟩ = some (.slice none 0 0) := by simp [World.cell?, p1]
  have x3 : u7.cell? ⟨u1.heap.size, 3, none⟩ = some (.int .i64 0) := by simp [World.cell?, p1]
  have HA7 := hide hP7.at
  have HG17 := hide ((unhide HG16).below (hB7.mono (by omega)) (by omega))
  have HB7 := hide ((unhide HB6).trans (hB7.mono (by omega)))
  obtain ⟨⟨z1, o1, ⟨a1, c1, rfl, -⟩, -⟩, ⟨z2, o2, ⟨a2, c2, rfl, -⟩, -⟩, ⟨z3, o3, ⟨a3, c3, rfl, -⟩, -⟩⟩ := hP7
  clear p1 hB7
  have l17 : u1.heap.size < u7.heap.size := by omega
  go_wp2_with fail
  refine (same_is (N := u7.heap.size) (p := plainP oneC) ((unhide HA7).below ((Below.refl _ _).alloc (Nat.le_refl _) _)) ?_ (by simp)).mono ?_
  · exact ((unhide HG17).toPgAt.mono (by omega)).below ((Below.refl _ _).alloc (Nat.le_refl _) _)
  rintro e u8 ⟨rfl, hB8⟩
  have HB8 := hide ((unhide HB7).trans (((below1 u7 _).trans (hB8.mono (by simp))).mono (by omega)))
  clear hB8
  go_wp2
  go_ret
  exact ⟨rfl, unhide HB8⟩

end Go.Proofs.YtgheaieghoekhaaDoor
