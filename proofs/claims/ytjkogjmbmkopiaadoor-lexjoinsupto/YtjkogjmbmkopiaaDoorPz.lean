/- Both Joins: any token as it is written by the program; an empty list; the two answers are one. -/
import Derived.Test.YtjkogjmbmkopiaaDoorPvA
import Derived.Test.YtjkogjmbmkopiaaDoorPvB
import Derived.Test.YtjkogjmbmkopiaaDoorPvC
import Derived.Test.YtjkogjmbmkopiaaDoorPv2
import Derived.Test.YtjkogjmbmkopiaaDoorRj2
namespace Go.Proofs.YtjkogjmbmkopiaaDoor
open Go.RowKit

theorem w_none {k : Int} {t : List UInt8} {n : Int} (h0 : ¬ k = 0) (h1 : ¬ k = 1) (h2 : ¬ k = 2) (h3 : ¬ k = 3) (h4 : ¬ k = 4) (h5 : ¬ k = 5) (h6 : ¬ k = 6) : Ending.returned (.tuple #[.string ⟨#[]⟩, .bool false]) = wEnd k t n := by
  unfold wEnd wtx wok
  rw [if_neg (by omega), if_neg h3, if_neg h4, if_neg h6, if_neg (by omega), if_neg h1, if_neg h2, if_neg h3, if_neg h5, if_neg h6]

set_option maxHeartbeats 4000000 in
theorem lexwrite_ok : WriteOk := by
  intro k X n a l w hs hn0 hn1 hV
  by_cases h0 : k = 0
  · exact write_end X n a l w hs hn0 hn1 hV k h0
  by_cases h1 : k = 1
  · exact write_name X n a l w hs hV k h1
  by_cases h2 : k = 2
  · exact write_word X n a l w hs hn0 hn1 hV k h2
  by_cases h3 : k = 3
  · exact write_int X n a l w hs hn0 hn1 hV k h3
  by_cases h4 : k = 4
  · exact write_text X n a l w hs hn0 hn1 hV k h4
  by_cases h5 : k = 5
  · cases qh : has sgl X.data.toList
    · exact wsign_no X n a l w hs hn0 hn1 hV k h5 qh
    · by_cases h9 : X.data.toList = [59]
      · exact wsign_semi X n a l w hs hn0 hn1 hV k h5 qh h9
      · exact wsign_yes X n a l w hs hn0 hn1 hV k h5 qh h9
  by_cases h6 : k = 6
  · exact write_semi X n a l w hs hn0 hn1 hV k h6
  have E := hide (w_none (t := X.data.toList) (n := n) h0 h1 h2 h3 h4 h5 h6)
  unfold tokV
  have q0 : (k == 0) = false := beq_false_of_ne h0
  have q1 : (k == 1) = false := beq_false_of_ne h1
  have q2 : (k == 2) = false := beq_false_of_ne h2
  have q3 : (k == 3) = false := beq_false_of_ne h3
  have q4 : (k == 4) = false := beq_false_of_ne h4
  have q5 : (k == 5) = false := beq_false_of_ne h5
  have q6 : (k == 6) = false := beq_false_of_ne h6
  clear h0 h1 h2 h3 h4 h5 h6
  go_enter Tryd.func28, Tryd.ntmps28
  go_wp2
  go_ret2
  exact ⟨unhide E, (Below.refl w.heap.size w).alloc (Nat.le_refl _) _⟩

set_option maxRecDepth 100000 in
set_option maxHeartbeats 4000000 in
theorem refjoin_nil (w : World) : Calls Tryd.prog 14 #[.slice none 0 0] w fun e w' => e = .returned (.tuple #[.string ⟨#[]⟩, .int .i64 0]) ∧ Below w.heap.size w w' := by
  have hcv := own_conv (Own.nil w 0)
  go_enter Tryd.func14, Tryd.ntmps14
  go_wp2
  go_loop [4, 5] (fun v i => v = .slice none 0 0 ∧ i = .int .i64 0) (fun _ _ => 0)
  case atStart => exact ⟨rfl, rfl⟩
  case round =>
    obtain ⟨rfl, rfl⟩ := hrel
    go_wp2
    go_ret2
    exact ⟨rfl, Below.refl _ _⟩

set_option maxHeartbeats 2000000 in
theorem same_rrows {w : World} {b1 b2 o1 o2 c1 c2 : Nat} {l : List RT} (h1 : RRow w b1 o1 l) (h2 : RRow w b2 o2 l) (hl : l.length ≤ 1048576) : Calls Tryd.prog 11 #[.slice (some ⟨b1, o1, none⟩) l.length c1, .slice (some ⟨b2, o2, none⟩) l.length c2] w fun e w' => e = .returned (.bool true) ∧ ∃ m, w' = w.drewN m := by
  have R1 := hide h1
  have R2 := hide h2
  clear h1 h2
  go_enter Tryd.func11, Tryd.ntmps11
  go_wp2
  go_loopw [5] (fun i wr => ∃ k m : Nat, k ≤ l.length ∧ i = .int .i64 (k : Int) ∧ wr = w.drewN m) (fun i _ => l.length - (intOf i).toNat)
  case atStart => exact ⟨0, 0, by omega, rfl, rfl⟩
  case round =>
    obtain ⟨k, q, hk, rfl, hw⟩ := hrel
    by_cases hlt : k < l.length
    · obtain ⟨z0, z1, z2, z3, z4⟩ := (show RRow wr b1 o1 l by rw [hw]; exact ⟨(unhide R1).lt, (unhide R1).cell⟩).cell k hlt
      obtain ⟨y0, y1, y2, y3, y4⟩ := (show RRow wr b2 o2 l by rw [hw]; exact ⟨(unhide R2).lt, (unhide R2).cell⟩).cell k hlt
      generalize l[k] = t at *
      have HW := hide hw
      clear hw
      go_wp2
      go_quiet (fail)
      go_wp2
      go_roundw
      case rel => exact ⟨k + 1, q + nq, by omega, by go_num, by rw [unhide HW, World.drewN_drewN]⟩
      case measure => simp [intOf]; omega
    · have e : k = l.length := by omega
      subst e
      have HW := hide hw
      clear hw
      go_wp2
      go_ret
      exact ⟨rfl, q, unhide HW⟩

/-- a list of the call's own, read as tokens that came in -/
def rtC (x : RT) : List Value := [.int .i64 x.k, .string x.t, .int .i64 x.n, .int .i64 x.a, .int .i64 x.l]

def rtsC : List RT → List Value
  | [] => []
  | t :: r => rtC t ++ rtsC r

theorem rtsC_get : ∀ (l : List RT) (i c : Nat) (h : i < l.length) (_ : c < 5), (rtsC l)[i * 5 + c]? = (rtC l[i])[c]? := by
  intro l
  induction l with
  | nil => intro i c h; cases h
  | cons t r ih =>
    intro i c h hc
    unfold rtsC
    cases i with
    | zero =>
      rw [Nat.zero_mul, Nat.zero_add, List.getElem?_append_left (by simp [rtC]; exact hc)]
      rfl
    | succ i =>
      rw [List.getElem?_append_right (by simp [rtC]; omega)]
      have e : (i + 1) * 5 + c - (rtC t).length = i * 5 + c := by simp [rtC]; omega
      rw [e, ih i c (by rw [List.length_cons] at h; omega) hc]
      rfl

theorem rtsC_len (l : List RT) : (rtsC l).length = l.length * 5 := by
  induction l with
  | nil => rfl
  | cons t r ih => rw [rtsC, List.length_append, ih, List.length_cons]; simp [rtC]; omega

theorem own_rrow {w : World} {B : Nat} {v : Value} {l : List RT} (h : w.ownsRow B 42 5 v l.length (rtsC l)) (hp : 0 < l.length) : ∃ g cap, v = .slice (some ⟨g, 0, none⟩) l.length cap ∧ B ≤ g ∧ RRow w g 0 l := by
  have h0 := h
  rcases h with ⟨_, ⟨_, hn⟩ | ⟨g, cap, cur, rfl, hB, hg, hr⟩⟩
  · omega
  · refine ⟨g, cap, rfl, hB, fun _ => (Array.getElem?_eq_some_iff.1 hg).1, fun i hi => ?_⟩
    have key : ∀ c u, c < 5 → (rtC l[i])[c]? = some u → w.cell? ⟨g, 0 + i * 5 + c, none⟩ = some u := fun c u hc e => by
      have h1 := World.ownsRow.cells h0 (g := g) rfl (i * 5 + c) u ((rtsC_get l i c hi hc).trans e)
      rwa [show (⟨g, 0, none⟩ : Addr).add (i * 5 + c) = ⟨g, 0 + i * 5 + c, none⟩ by simp [Addr.add]; intros; omega] at h1
    exact ⟨key 0 _ (by decide) rfl, key 1 _ (by decide) rfl, key 2 _ (by decide) rfl, key 3 _ (by decide) rfl, key 4 _ (by decide) rfl⟩

end Go.Proofs.YtjkogjmbmkopiaaDoor
