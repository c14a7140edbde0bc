/- The program's Scan. -/
import Derived.Test.YtkbgnbcphmkjkaaDoorPf
import Derived.Deep.RegionWith
namespace Go.Proofs.YtkbgnbcphmkjkaaDoor
open Go.RowKit

theorem StrsAt.belowC {w w' : World} {B C : Nat} {xs : List (List UInt8)} (h : StrsAt w B xs) (hb : Below C w w') (hB : B < C) : StrsAt w' B xs :=
  ⟨fun j hj => by
    have := h.cell j hj
    have e := hb.block B hB
    unfold World.cell? at this ⊢
    simp only [e]
    exact this⟩

/-- what Scan answers: the tokens in a list of the call's own, or a fault in a block of its own -/
def LexPost (s : ByteArray) (w : World) (e : Ending) (w' : World) : Prop :=
  (∀ toks, scan s.data.toList = .ok toks → ∃ v, e = .returned (.tuple #[v, .nilIface]) ∧ OwnT w' (w.heap.size + 2) v toks) ∧
  (∀ a x, scan s.data.toList = .error (a, x) → ∃ b, e = .returned (.tuple #[.slice none 0 0, .iface 39 (.pointer (some ⟨b, 0, none⟩))]) ∧ w.heap.size ≤ b ∧ w'.heap[b]? = some (.cells #[.int .i64 (a : Int), .int .i64 x] 41 (0, 0))) ∧ Below w.heap.size w w'

theorem lex_err {s : ByteArray} {w w' : World} {a b : Nat} {x : Int} (h : scan s.data.toList = .error (a, x)) (hb : Below w.heap.size w w') (hB : w.heap.size ≤ b) (ho : w'.heap[b]? = some (.cells #[.int .i64 (a : Int), .int .i64 x] 41 (0, 0))) : LexPost s w (.returned (.tuple #[.slice none 0 0, .iface 39 (.pointer (some ⟨b, 0, none⟩))])) w' :=
  ⟨fun toks e => (by rw [h] at e; cases e), fun c y e => (by rw [h] at e; cases e; exact ⟨b, rfl, hB, ho⟩), hb⟩
theorem lex_ok {s : ByteArray} {w w' : World} {v : Value} {toks : List Tok} (h : scan s.data.toList = .ok toks) (ho : OwnT w' (w.heap.size + 2) v toks) (hb : Below w.heap.size w w') : LexPost s w (.returned (.tuple #[v, .nilIface])) w' :=
  ⟨fun t e => (by rw [h] at e; cases e; exact ⟨v, rfl, ho⟩), fun b y e => (by rw [h] at e; cases e), hb⟩

theorem scan_far {s : ByteArray} (h : 20000 < s.size) : scan s.data.toList = .error (0, 31) := by unfold scan; rw [if_pos (by rw [← size_len]; exact h)]

set_option maxHeartbeats 8000000 in
theorem lexscan_any (s : ByteArray) (w : World) (hs : s.size ≤ 281474976710656) (hV : Vars w) :
    Calls Tryd.prog 5 #[.string s] w (LexPost s w) := by
  by_cases hl : 20000 < s.size
  · have E := hide (scan_far hl)
    have q : decide (20000 < (s.size : Int)) = true := decide_eq_true (by omega)
    clear hl
    go_enter Tryd.func5, Tryd.ntmps5
    go_wp2
    go_ret2
    exact lex_err (unhide E) ((Below.refl w.heap.size w).alloc (Nat.le_refl _) _) (Nat.le_refl _) (MapKept.heap_alloc w _).1
  have HM := hide (mids_start hl)
  have q : decide (20000 < (s.size : Int)) = false := decide_eq_false (by omega)
  have hs2 : s.size ≤ 20000 := by omega
  have HV := hide hV
  clear hl hs hV
  go_enter Tryd.func5, Tryd.ntmps5
  go_wp2_with fail
  refine (lexsigns_any _).mono ?_
  rintro e w0 ⟨rfl, e0⟩
  have HA0 := hide (show StrsAt w0 w.heap.size sgl by rw [e0]; exact strsAt_new w 9 sgl)
  have HB0 := hide (show Below w.heap.size w w0 by rw [e0]; exact (Below.refl w.heap.size w).alloc (Nat.le_refl _) _)
  have hz0 : w0.heap.size = w.heap.size + 1 := by rw [e0, World.size_alloc]
  clear e0
  go_wp2_with fail
  have HS1 := hide (show ScAt (w0.alloc (.cells #[.string s, .int .i64 0, .int .i64 1, .slice (some ⟨w.heap.size, 0, none⟩) 27 27, .slice none 0 0, .bool false] 44)) (w.heap.size + 1) s 0 1 (.slice (some ⟨w.heap.size, 0, none⟩) 27 27) (.slice none 0 0) (callsK 0 []) from ⟨by rw [← hz0]; exact (MapKept.heap_alloc w0 _).1⟩)
  have HB1 := hide ((unhide HB0).alloc (unhide HB0).size (.cells #[.string s, .int .i64 0, .int .i64 1, .slice (some ⟨w.heap.size, 0, none⟩) 27 27, .slice none 0 0, .bool false] 44))
  have HA1 := hide ((unhide HA0).below (by omega) ((Below.refl w0.heap.size w0).alloc (Nat.le_refl _) (.cells #[.string s, .int .i64 0, .int .i64 1, .slice (some ⟨w.heap.size, 0, none⟩) 27 27, .slice none 0 0, .bool false] 44)))
  clear HA0 HB0 hz0
  generalize w0.alloc (.cells #[.string s, .int .i64 0, .int .i64 1, .slice (some ⟨w.heap.size, 0, none⟩) 27 27, .slice none 0 0, .bool false] 44) = w1 at *
  refine (pass_any hs2 (Nat.zero_le _) (Nat.le_refl _) (unhide HS1) (OwnT.nil _ _) (Nat.zero_le _) (unhide HM)).mono ?_
  rintro e w2 ⟨rfl, k, ln, lk, lt, out, tv, _, hk, hln, hS, hO, hb, hol, hM, hT⟩
  have HP := hide (show ∃ (k ln : Nat) (lk : Int) (lt : List UInt8) (out : List Tok) (tv : Value), k ≤ s.size ∧ ln ≤ k + 1 ∧ ScAt w2 (w.heap.size + 1) s k ln (.slice (some ⟨w.heap.size, 0, none⟩) 27 27) tv (callsK lk lt) ∧ OwnT w2 (w.heap.size + 2) tv out ∧ Below (w.heap.size + 1) w1 w2 ∧ out.length ≤ k ∧ MidS s k ln lk lt out ∧ (¬ k < s.size ∨ (¬ 0 < cmt (s.data.toList.drop k) ∧ ¬ (by_ s k).toNat = 10 ∧ ¬ ((by_ s k).toNat = 32 ∨ (by_ s k).toNat = 9 ∨ (by_ s k).toNat = 13))) from ⟨k, ln, lk, lt, out, tv, hk, hln, hS, hO, hb, hol, hM, hT⟩)
  clear hk hln hS hO hb hol hM hT HM HS1
  go_wp2
  go_loopw [18] (fun _ wr => ∃ (k ln : Nat) (lk : Int) (lt : List UInt8) (out : List Tok) (tv : Value), k ≤ s.size ∧ ln ≤ k + 1 ∧ ScAt wr (w.heap.size + 1) s k ln (.slice (some ⟨w.heap.size, 0, none⟩) 27 27) tv (callsK lk lt) ∧ OwnT wr (w.heap.size + 2) tv out ∧ Below (w.heap.size + 1) w1 wr ∧ out.length ≤ k ∧ MidS s k ln lk lt out ∧ (¬ k < s.size ∨ (¬ 0 < cmt (s.data.toList.drop k) ∧ ¬ (by_ s k).toNat = 10 ∧ ¬ ((by_ s k).toNat = 32 ∨ (by_ s k).toNat = 9 ∨ (by_ s k).toNat = 13)))) (fun _ wr => s.size - atOf wr (w.heap.size + 1))
  case atStart => exact unhide HP
  case round =>
    clear HP
    obtain ⟨k, ln, lk, lt, out, tv, hk, hln, hS, hO, hb, hol, hM, hT⟩ := hrel
    have hszr : w.heap.size + 1 < wr.heap.size := hS.lt
    have HS := hide hS
    have HO := hide hO
    have HW := hide hb
    have HB := hide (show Below w.heap.size w wr from (unhide HB1).trans (hb.mono (by omega)))
    have HM := hide hM
    have HA := hide hS.at_
    have HVr := hide ((unhide HV).below (unhide HB))
    have HAr := hide ((unhide HA1).belowC hb (by omega))
    obtain ⟨c0, c1, c2, c3, c4, c5⟩ := hS.cell
    have f := fun i => hS.froz i
    clear hS hO hb hM
    by_cases hlt : k < s.size
    · obtain ⟨n1, n2, n3⟩ := hT.resolve_left (fun h => h hlt)
      have NE := hide (mids_error (unhide HM) hlt n1 n2 n3)
      have NT := hide (mids_token (unhide HM) hlt n1 n2 n3)
      have TL := hide (fun h => tk_len (l := s.data.toList.drop k) h)
      have hdl : (s.data.toList.drop k).length = s.size - k := by rw [List.length_drop, ← size_len]
      clear n1 n2 n3 hT HM
      go_wp2_with fail
      refine (read_any (unhide HVr) (unhide HAr) (by omega) (by omega) hlt (unhide HS)).mono ?_
      rintro e w3 ⟨rfl, b3⟩
      rw [tkEnd_def]
      generalize tk (s.data.toList.drop k) = x at *
      have HS3 := hide ((unhide HS).below b3 (by omega))
      have HO3 := hide ((unhide HO).below b3)
      have HW3 := hide ((unhide HW).trans (b3.mono (by omega)))
      have hszr3 := b3.size
      clear c0 c1 c2 c3 c4 c5 f b3 HS HO HW HB HVr HAr
      obtain ⟨c0, c1, c2, c3, c4, c5⟩ := (unhide HS3).cell
      have f := fun i => (unhide HS3).froz i
      by_cases he : x.e = 0
      · have qe : (x.e != 0) = false := by rw [he]; rfl
        obtain ⟨l1, l2⟩ := unhide TL he
        rw [hdl] at l2
        have N := hide (unhide NT he)
        clear NE NT TL he
        have hb4 := (Below.refl w3.heap.size w3).alloc (Nat.le_refl _) (.cells #[.int .i64 x.k, .string ⟨x.t.toArray⟩, .int .i64 x.n, .int .i64 0, .int .i64 0] 28)
        have HS4 := hide ((unhide HS3).below hb4 (by omega))
        have HO4 := hide ((unhide HO3).below hb4)
        have HW4 := hide ((unhide HW3).trans (hb4.mono (by omega)))
        clear hb4
        go_wp2_with fail
        refine (take_any (unhide HS4) (unhide HO4) (by omega) (by omega) x.k x.t x.n 0 0 x.len (by omega)).mono ?_
        rintro e w5 ⟨rfl, tv5, hs5, ho5, hb5⟩
        have HW5 := hide ((unhide HW4).trans hb5)
        have HS5 := hide hs5
        have HO5 := hide ho5
        clear hs5 ho5 hb5 c0 c1 c2 c3 c4 c5 f HS3 HO3 HW3 HS4 HO4 HW4
        go_wp2_with fail
        refine (pass_any hs2 (by omega) (by omega) (unhide HS5) (unhide HO5) (by rw [List.length_append]; simp; omega) (unhide N)).mono ?_
        rintro e w6 ⟨rfl, k6, ln6, lk6, lt6, out6, tv6, hkk, hk6, hln6, hS6, hO6, hb6, hol6, hM6, hT6⟩
        have HW6 := hide ((unhide HW5).trans hb6)
        have HS6 := hide hS6
        have HO6 := hide hO6
        have HM6 := hide hM6
        have HT6 := hide hT6
        clear hS6 hO6 hb6 hM6 hT6
        go_wp2
        go_roundw
        case rel => exact ⟨k6, ln6, lk6, lt6, out6, tv6, hk6, hln6, unhide HS6, unhide HO6, unhide HW6, hol6, unhide HM6, unhide HT6⟩
        case measure =>
          rw [(unhide HS6).at_, unhide HA]
          omega
      · have qe : (x.e != 0) = true := by simp; exact he
        have E := hide (unhide NE he)
        clear NE NT TL he
        have hb4 := (Below.refl w3.heap.size w3).alloc (Nat.le_refl _) (.cells #[.int .i64 x.k, .string ⟨x.t.toArray⟩, .int .i64 x.n, .int .i64 0, .int .i64 0] 28)
        have HS4 := hide ((unhide HS3).below hb4 (by omega))
        have HB4 := hide (show Below w.heap.size w _ from (unhide HB1).trans (((unhide HW3).trans (hb4.mono (by omega))).mono (by omega)))
        clear hb4
        go_wp2
        clear c0 c1 c2 c3 c4 c5 f HS3 HO3 HW3
        generalize w3.alloc (.cells #[.int .i64 x.k, .string ⟨x.t.toArray⟩, .int .i64 x.n, .int .i64 0, .int .i64 0] 28) = w4 at *
        obtain ⟨c0, c1, c2, c3, c4, c5⟩ := (unhide HS4).cell
        go_region
        all_goals
          go_wp2
          go_ret2
          exact lex_err (unhide E) (below_drew ((unhide HB4).alloc (unhide HB4).size _)) (unhide HB4).size (MapKept.heap_alloc w4 _).1
    · have q2 : decide ((k : Int) < (s.size : Int)) = false := decide_eq_false (by omega)
      have E := hide (mids_end (unhide HM) hlt hk)
      clear HM hT
      go_wp2_with fail
      refine (endline_any (unhide HS) (unhide HO) (by omega)).mono ?_
      rintro e w3 ⟨rfl, tv3, hs3, ho3, hb3⟩
      have hl3 : (out ++ if callsK lk lt then [semiAt k ln] else []).length ≤ 100000 := by rw [List.length_append]; split <;> simp <;> omega
      go_wp2_with fail
      refine (add_any hs3 ho3 hl3 0 [] 0 0 0).mono ?_
      rintro e w4 ⟨rfl, tv4, hs4, ho4, hb4, _⟩
      have HS4 := hide hs4
      have HO4 := hide ho4
      have HB4 := hide (show Below w.heap.size w w4 from ((unhide HB).trans (hb3.mono (by omega))).trans (hb4.mono (by omega)))
      clear hs3 ho3 hb3 hs4 ho4 hb4 c0 c1 c2 c3 c4 c5 f
      obtain ⟨c0, c1, c2, c3, c4, c5⟩ := (unhide HS4).cell
      go_wp2
      go_ret2
      exact lex_ok (unhide E) (by rw [← List.append_assoc]; exact unhide HO4) (unhide HB4)

end Go.Proofs.YtkbgnbcphmkjkaaDoor
