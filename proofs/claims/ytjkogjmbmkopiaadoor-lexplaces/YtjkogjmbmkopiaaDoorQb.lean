/- What the laws ask of an answer: its error's number and place; two lists held against each other; a list written over. -/
import Derived.Test.YtjkogjmbmkopiaaDoorQa
namespace Go.Proofs.YtjkogjmbmkopiaaDoor
open Go.RowKit

set_option maxHeartbeats 1000000 in
theorem number_nil (w : World) : Calls Tryd.prog 10 #[.nilIface] w fun e w' => e = .returned (.tuple #[.int .i64 0, .int .i64 0, .bool true]) ∧ w' = w := by
  go_enter Tryd.func10, Tryd.ntmps10
  go_wp2
  go_ret3
  exact ⟨rfl, rfl⟩

theorem assert_fault (v : Value) (w : World) : (Instr.typeAssert (.iface 51 v) 27 51 true).run Tryd.prog w = .ok (.tuple #[v, .bool true]) w := by kernel_rfl

set_option maxRecDepth 100000 in
set_option maxHeartbeats 1000000 in
theorem number_fault {w : World} {b a : Nat} {x : Int} (h : w.heap[b]? = some (.cells #[.int .i64 (a : Int), .int .i64 x] 53 (0, 0))) :
    Calls Tryd.prog 10 #[.iface 51 (.pointer (some ⟨b, 0, none⟩))] w fun e w' => e = .returned (.tuple #[.int .i64 x, .int .i64 (a : Int), .bool true]) ∧ ∃ m, w' = w.drewN m := by
  have c0 : w.cell? ⟨b, 0, none⟩ = some (.int .i64 (a : Int)) := by simp [World.cell?, h]
  have c1 : w.cell? ⟨b, 1, none⟩ = some (.int .i64 x) := by simp [World.cell?, h]
  clear h
  have ta := assert_fault (.pointer (some ⟨b, 0, none⟩))
  go_enter Tryd.func10, Tryd.ntmps10
  go_wp2
  go_quiet (fail)
  go_wp2
  go_ret3
  exact ⟨rfl, nq, rfl⟩

set_option maxHeartbeats 1000000 in
theorem same_nil (w : World) : Calls Tryd.prog 11 #[.slice none 0 0, .slice none 0 0] w fun e w' => e = .returned (.bool true) ∧ ∃ m, w' = w.drewN m := by
  go_enter Tryd.func11, Tryd.ntmps11
  go_wp2
  go_loop [5] (fun i => i = .int .i64 0) (fun _ => 0)
  case atStart => rfl
  case round =>
    subst hrel
    go_wp2
    go_ret
    exact ⟨rfl, 0, rfl⟩

set_option maxHeartbeats 2000000 in
theorem same_rows {w : World} {g1 g2 c1 c2 : Nat} {l : List Tok} (h1 : RowAt w g1 l) (h2 : RowAt w g2 l) (hl : l.length ≤ 100000) : Calls Tryd.prog 11 #[.slice (some ⟨g1, 0, none⟩) l.length c1, .slice (some ⟨g2, 0, none⟩) l.length c2] w fun e w' => e = .returned (.bool true) ∧ ∃ m, w' = w.drewN m := by
  have R1 := hide h1
  have R2 := hide h2
  clear h1 h2
  go_enter Tryd.func11, Tryd.ntmps11
  go_wp2
  go_loopw [5] (fun i wr => ∃ k m : Nat, k ≤ l.length ∧ i = .int .i64 (k : Int) ∧ wr = w.drewN m) (fun i _ => l.length - (intOf i).toNat)
  case atStart => exact ⟨0, 0, by omega, rfl, rfl⟩
  case round =>
    obtain ⟨k, q, hk, rfl, hw⟩ := hrel
    by_cases hlt : k < l.length
    · obtain ⟨z0, z1, z2, z3, z4⟩ := (show RowAt wr g1 l by rw [hw]; exact (unhide R1).dn q).cell k hlt
      obtain ⟨y0, y1, y2, y3, y4⟩ := (show RowAt wr g2 l by rw [hw]; exact (unhide R2).dn q).cell k hlt
      generalize l[k] = t at *
      have HW := hide hw
      clear hw
      go_wp2
      go_quiet (fail)
      go_wp2
      go_roundw
      case rel => exact ⟨k + 1, q + nq, by omega, by go_num, by rw [unhide HW, World.drewN_drewN]⟩
      case measure => simp [intOf]; omega
    · have e : k = l.length := by omega
      subst e
      have HW := hide hw
      clear hw
      go_wp2
      go_ret
      exact ⟨rfl, q, unhide HW⟩

/-- a list of the call's own, whatever it holds -/
def OwnAny (w : World) (B : Nat) (v : Value) (n : Nat) : Prop := ∃ xs, w.ownsRow B 42 5 v n xs

theorem OwnT.any {w : World} {B : Nat} {v : Value} {l : List Tok} (h : OwnT w B v l) : OwnAny w B v l.length := ⟨_, h⟩

theorem OwnAny.set {w : World} {B g n cap : Nat} (h : OwnAny w B (.slice (some ⟨g, 0, none⟩) n cap) n) (i : Nat) (u : Value) : OwnAny (w.setCell ⟨g, i, none⟩ u) B (.slice (some ⟨g, 0, none⟩) n cap) n := by
  obtain ⟨xs, hl, h2⟩ := h
  rcases h2 with ⟨h2, _⟩ | ⟨g', cap', cur, e, hB, hg, h3, h4, h5, h6⟩
  · cases h2
  · cases e
    have hg' : (w.setCell ⟨g, i, none⟩ u).heap[g]? = some (.cells (cur.setIfInBounds i u) 42 (0, 0)) := by simp [World.setCell, Array.getElem?_modify, hg]
    refine ⟨(cur.setIfInBounds i u).toList.take (n * 5), ?_, Or.inr ⟨g, cap, cur.setIfInBounds i u, rfl, hB, hg', h3, h4, by rw [Array.size_setIfInBounds]; exact h5, rfl⟩⟩
    rw [List.length_take, Array.length_toList, Array.size_setIfInBounds, h5]
    have := Nat.mul_le_mul_right 5 h3
    omega

theorem OwnAny.cell {w : World} {B g n cap : Nat} (h : OwnAny w B (.slice (some ⟨g, 0, none⟩) n cap) n) {i : Nat} (hi : i < n) : (∃ v0 v1 v2 v3 v4, w.cell? ⟨g, i * 5, none⟩ = some v0 ∧ w.cell? ⟨g, i * 5 + 1, none⟩ = some v1 ∧ w.cell? ⟨g, i * 5 + 2, none⟩ = some v2 ∧ w.cell? ⟨g, i * 5 + 3, none⟩ = some v3 ∧ w.cell? ⟨g, i * 5 + 4, none⟩ = some v4) ∧ (∀ j, w.frozen? ⟨g, j, none⟩ = false) ∧ B ≤ g := by
  obtain ⟨xs, hl, h2⟩ := h
  rcases h2 with ⟨h2, _⟩ | ⟨g', cap', cur, e, hB, hg, h3, h4, h5, h6⟩
  · cases h2
  · cases e
    have key : ∀ c, c < 5 → ∃ v, w.cell? ⟨g, i * 5 + c, none⟩ = some v := fun c hc => by
      have hlt : i * 5 + c < cur.size := by rw [h5]; have := Nat.mul_le_mul_right 5 h3; omega
      exact ⟨cur[i * 5 + c], by simp [World.cell?, hg, hlt]⟩
    obtain ⟨v0, e0⟩ := key 0 (by decide)
    obtain ⟨v1, e1⟩ := key 1 (by decide)
    obtain ⟨v2, e2⟩ := key 2 (by decide)
    obtain ⟨v3, e3⟩ := key 3 (by decide)
    obtain ⟨v4, e4⟩ := key 4 (by decide)
    exact ⟨⟨v0, v1, v2, v3, v4, e0, e1, e2, e3, e4⟩, fun j => by simp [World.frozen?, hg], hB⟩

theorem OwnAny.form {w : World} {B n : Nat} {v : Value} (h : OwnAny w B v n) : (v = .slice none 0 0 ∧ n = 0) ∨ ∃ g cap, v = .slice (some ⟨g, 0, none⟩) n cap := by
  obtain ⟨xs, hl, h2⟩ := h
  rcases h2 with ⟨h2, h3⟩ | ⟨g, cap, cur, e, _⟩
  · exact Or.inl ⟨h2, h3⟩
  · exact Or.inr ⟨g, cap, e⟩

theorem ten_new (w : World) (a b c d e a' b' c' d' e' : Value) (t : TypeId) : ∀ (j : Nat) (u : Value), [a, b, c, d, e, a', b', c', d', e'][j]? = some u → (w.alloc (.cells #[a, b, c, d, e, a', b', c', d', e'] t)).cell? ((⟨w.heap.size, 0, none⟩ : Addr).add j) = some u := by
  intro j u hj
  match j, hj with
  | 0, hj => simp at hj; subst hj; simp [Addr.add]
  | 1, hj => simp at hj; subst hj; simp [Addr.add]
  | 2, hj => simp at hj; subst hj; simp [Addr.add]
  | 3, hj => simp at hj; subst hj; simp [Addr.add]
  | 4, hj => simp at hj; subst hj; simp [Addr.add]
  | 5, hj => simp at hj; subst hj; simp [Addr.add]
  | 6, hj => simp at hj; subst hj; simp [Addr.add]
  | 7, hj => simp at hj; subst hj; simp [Addr.add]
  | 8, hj => simp at hj; subst hj; simp [Addr.add]
  | 9, hj => simp at hj; subst hj; simp [Addr.add]

theorem ownsRow_alloc {w : World} {B n m : Nat} {e : TypeId} {v : Value} {xs : List Value} (h : w.ownsRow B e m v n xs) (o : Obj) : (w.alloc o).ownsRow B e m v n xs := by
  obtain ⟨h1, h2⟩ := h
  refine ⟨h1, ?_⟩
  rcases h2 with h2 | ⟨g, cap, cur, rfl, hB, hg, hr⟩
  · exact Or.inl h2
  · exact Or.inr ⟨g, cap, cur, rfl, hB, (((Below.refl w.heap.size w).alloc (Nat.le_refl _) o).block g (Array.getElem?_eq_some_iff.1 hg).1).trans hg, hr⟩

theorem ten_one : ∀ u ∈ ([.int .i64 0, .string ⟨#[]⟩, .int .i64 7, .int .i64 0, .int .i64 0, .int .i64 0, .string ⟨#[]⟩, .int .i64 8, .int .i64 0, .int .i64 0] : List Value), u.oneCell' = true := by decide

set_option maxHeartbeats 4000000 in
theorem spoil_any {w : World} {B n : Nat} {v : Value} (h : OwnAny w B v n) (hn : n ≤ 100000) (hB : B ≤ w.heap.size) :
    Calls Tryd.prog 12 #[v] w fun e w' => e = .returned (.tuple #[]) ∧ Below B w w' := by
  obtain ⟨i0, hi0, hz0, hz1, hz2⟩ := info_parts Tryd.infoT
  have hm1 : n + 2 ≤ maxLen := by unfold maxLen; omega
  have hm2 : (n + 2) * 48 ≤ 140737488355328 := by omega
  rcases h.form with ⟨rfl, rfl⟩ | ⟨g, cap, rfl⟩
  · have HO := hide (World.ownsRow_nil w B 42 5)
    have HB := hide ((Below.refl w.heap.size w).mono hB)
    have HBs := hide hB
    have hm3 : ∀ {o}, B ≤ (w.alloc o).heap.size := fun {o} => by rw [World.size_alloc]; omega
    clear h
    go_enter Tryd.func12, Tryd.ntmps12
    go_wp2
    go_loop [2] (fun i => i = .int .i64 0) (fun _ => 0)
    case atStart => rfl
    case round =>
      subst hrel
      go_wp2_with (first | (at_builtin; refine wpList_append_own _ rfl _ _ 22 rfl B 42 i0 zeroTok 5 48 Tryd.underlying22 hi0 hz0 hz1 hz2 rfl (by decide) _ _ _ rfl (ownsRow_alloc (unhide HO) _) ⟨w.heap.size, 0, none⟩ 2 2 [.int .i64 0, .string ⟨#[]⟩, .int .i64 7, .int .i64 0, .int .i64 0, .int .i64 0, .string ⟨#[]⟩, .int .i64 8, .int .i64 0, .int .i64 0] rfl rfl (ten_new _ _ _ _ _ _ _ _ _ _ _ _) ten_one hm1 hm2 hm3 ?_) | fail)
      intro v' w5 hv hgrow _
      have HB5 := hide (((unhide HB).alloc (unhide HBs) _).grown hgrow (by rw [World.size_alloc]; have := unhide HBs; omega) (fun j e => ownB (unhide HO) j e))
      clear hv hgrow
      go_wp2
      go_end0
      exact ⟨rfl, unhide HB5⟩
  · have HO := hide h
    have HB0 := hide ((Below.refl w.heap.size w).mono hB)
    clear h
    go_enter Tryd.func12, Tryd.ntmps12
    go_wp2
    go_loopw [2] (fun i wr => ∃ k : Nat, k ≤ n ∧ i = .int .i64 (k : Int) ∧ OwnAny wr B (.slice (some ⟨g, 0, none⟩) n cap) n ∧ Below B w wr) (fun i _ => n - (intOf i).toNat)
    case atStart => exact ⟨0, by omega, rfl, unhide HO, unhide HB0⟩
    case round =>
      obtain ⟨k, hk, rfl, hO, hb⟩ := hrel
      have HB := hide hb
      have HBs := hide (Nat.le_trans hB hb.size)
      by_cases hlt : k < n
      · obtain ⟨⟨v0, v1, v2, v3, v4, c0, c1, c2, c3, c4⟩, f, hg⟩ := hO.cell hlt
        have HO1 := hide hO
        have HG := hide hg
        clear hO hb hg
        go_wp2
        go_roundw
        case rel => exact ⟨k + 1, by omega, by go_num, ((((((unhide HO1).set _ _).set _ _).set _ _).set _ _).set _ _), (((((unhide HB).setCell (unhide HG) _).setCell (unhide HG) _).setCell (unhide HG) _).setCell (unhide HG) _).setCell (unhide HG) _⟩
        case measure => simp [intOf]; omega
      · have e : k = n := by omega
        subst e
        obtain ⟨xs, hxs⟩ := hO
        have HX := hide hxs
        have hm3 : ∀ {o}, B ≤ (wr.alloc o).heap.size := fun {o} => by rw [World.size_alloc]; have := unhide HBs; omega
        clear hxs hb
        go_wp2_with (first | (at_builtin; refine wpList_append_own _ rfl _ _ 22 rfl B 42 i0 zeroTok 5 48 Tryd.underlying22 hi0 hz0 hz1 hz2 rfl (by decide) _ _ _ rfl (ownsRow_alloc (unhide HX) _) ⟨wr.heap.size, 0, none⟩ 2 2 [.int .i64 0, .string ⟨#[]⟩, .int .i64 7, .int .i64 0, .int .i64 0, .int .i64 0, .string ⟨#[]⟩, .int .i64 8, .int .i64 0, .int .i64 0] rfl rfl (ten_new _ _ _ _ _ _ _ _ _ _ _ _) ten_one hm1 hm2 hm3 ?_) | fail)
        intro v' w5 hv hgrow _
        have HB5 := hide (((unhide HB).alloc (unhide HBs) _).grown hgrow (by rw [World.size_alloc]; have := unhide HBs; omega) (fun j e => ownB (unhide HX) j e))
        clear hv hgrow
        go_wp2
        go_end0
        exact ⟨rfl, unhide HB5⟩

end Go.Proofs.YtjkogjmbmkopiaaDoor
