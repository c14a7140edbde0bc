/- The document's lexer: signs, lists of texts, what calls for a semicolon, runs of letters and digits, comments. -/
import Derived.Test.YtkbgnbcphmkjkaaDoorLx
namespace Go.Proofs.YtkbgnbcphmkjkaaDoor
open Go.RowKit

/-- the text at a place of a list -/
def sx (xs : List (List UInt8)) (j : Nat) : ByteArray := ⟨(xs.getD j []).toArray⟩

/-- texts in a block -/
structure StrsAt (w : World) (B : Nat) (xs : List (List UInt8)) : Prop where
  cell : ∀ j, j < xs.length → w.cell? ⟨B, j, none⟩ = some (.string (sx xs j))

def strCs (xs : List (List UInt8)) : Array Value := (xs.map fun x => Value.string ⟨x.toArray⟩).toArray

theorem strsAt_new (w : World) (t : TypeId) (xs : List (List UInt8)) : StrsAt (w.alloc (.cells (strCs xs) t)) w.heap.size xs :=
  ⟨fun j hj => by
    rw [World.cell?_alloc_new]
    unfold strCs
    unfold sx
    rw [List.getElem?_toArray, List.getElem?_map, List.getD_eq_getElem?_getD, List.getElem?_eq_getElem hj]
    rfl⟩

theorem StrsAt.below {w w' : World} {B : Nat} {xs : List (List UInt8)} (h : StrsAt w B xs) (hB : B < w.heap.size) (hb : Below w.heap.size w w') : StrsAt w' B xs :=
  ⟨fun j hj => by
    have := h.cell j hj
    have e := hb.block B hB
    unfold World.cell? at this ⊢
    simp only [e]
    exact this⟩

theorem arr_list (l : List UInt8) : (⟨l.toArray⟩ : ByteArray).data.toList = l := by simp
theorem arr_size (l : List UInt8) : (⟨l.toArray⟩ : ByteArray).size = l.length := by rw [size_len, arr_list]

theorem sx_beq (xs : List (List UInt8)) (j : Nat) (s : ByteArray) : ((sx xs j).toList == s.toList) = decide (xs.getD j [] = s.data.toList) := by
  rw [bytes_beq, Bool.eq_iff_iff, decide_eq_true_eq, decide_eq_true_eq]
  unfold sx
  constructor
  · intro h; rw [← h, arr_list]
  · intro h; apply WideShapes.bytes_inj; rw [arr_list, h]

theorem contains_hit {xs : List (List UInt8)} {s : List UInt8} {k : Nat} (hk : k < xs.length) (h : xs.getD k [] = s) : has xs s = true := by
  unfold has
  rw [List.contains_iff_mem, ← h, List.getD_eq_getElem?_getD, List.getElem?_eq_getElem hk]
  exact List.getElem_mem _
theorem contains_none {xs : List (List UInt8)} {s : List UInt8} (h : ∀ j, j < xs.length → ¬ xs.getD j [] = s) : has xs s = false := by
  cases e : has xs s
  · rfl
  · unfold has at e
    rw [List.contains_iff_mem] at e
    obtain ⟨j, hj, h2⟩ := List.getElem_of_mem e
    exact absurd (by rw [List.getD_eq_getElem?_getD, List.getElem?_eq_getElem hj]; exact h2) (h j hj)

set_option maxHeartbeats 1000000 in
theorem one_any (s : ByteArray) {B n : Nat} {w : World} {xs : List (List UInt8)} (h : StrsAt w B xs) (hn : xs.length = n) (hm : n ≤ 1000) :
    Calls Tryd.prog 34 #[.slice (some ⟨B, 0, none⟩) n n, .string s] w fun e w' => e = .returned (.bool (has xs s.data.toList)) ∧ w' = w := by
  have HC := hide h
  have HN := hide hn
  clear h hn
  go_enter Tryd.func34, Tryd.ntmps34
  go_wp2
  go_loop [5] (fun i => ∃ k : Nat, k ≤ n ∧ i = .int .i64 k ∧ ∀ j, j < k → ¬ xs.getD j [] = s.data.toList) (fun i => n - (intOf i).toNat)
  case atStart => exact ⟨0, by omega, rfl, fun j hj => by omega⟩
  case round =>
    obtain ⟨k, hk, rfl, hno⟩ := hrel
    by_cases hlt : k < n
    · have hc := (unhide HC).cell k (by rw [unhide HN]; exact hlt)
      have hq := sx_beq xs k s
      by_cases e : xs.getD k [] = s.data.toList
      · rw [decide_eq_true e] at hq
        have E := hide (contains_hit (by rw [unhide HN]; exact hlt) e)
        clear hno e
        go_wp2
        go_ret
        exact ⟨ret_bool (unhide E).symm, rfl⟩
      · rw [decide_eq_false e] at hq
        have HX := hide (show ∀ j, j < k + 1 → ¬ xs.getD j [] = s.data.toList from fun j hj => if h : j = k then h ▸ e else hno j (by omega))
        clear hno e
        go_wp2
        go_round
        case rel => exact ⟨k + 1, by omega, by go_num, unhide HX⟩
        case measure => simp [intOf]; omega
    · have e : k = n := by omega
      subst e
      have E := hide (contains_none (by rw [unhide HN]; exact hno))
      clear hno
      go_wp2
      go_ret
      exact ⟨ret_bool (unhide E).symm, rfl⟩

/-- a token's value -/
def tokV (k : Int) (t : ByteArray) (n a l : Int) : Value := .agg #[.int .i64 k, .string t, .int .i64 n, .int .i64 a, .int .i64 l]

set_option maxHeartbeats 1000000 in
theorem refcalls_any (k : Int) (t : ByteArray) (n a l : Int) (w : World) :
    Calls Tryd.prog 15 #[tokV k t n a l] w fun e w' => e = .returned (.bool (callsK k t.data.toList)) ∧ Below w.heap.size w w' := by
  unfold tokV
  by_cases h1 : k = 1
  · subst h1
    have E := hide (show true = callsK 1 t.data.toList from rfl)
    go_enter Tryd.func15, Tryd.ntmps15
    go_wp2
    go_ret
    exact ⟨ret_bool (unhide E), (Below.refl w.heap.size w).alloc (Nat.le_refl _) _⟩
  by_cases h3 : k = 3
  · subst h3
    have E := hide (show true = callsK 3 t.data.toList from rfl)
    go_enter Tryd.func15, Tryd.ntmps15
    go_wp2
    go_ret
    exact ⟨ret_bool (unhide E), (Below.refl w.heap.size w).alloc (Nat.le_refl _) _⟩
  by_cases h4 : k = 4
  · subst h4
    have E := hide (show true = callsK 4 t.data.toList from rfl)
    go_enter Tryd.func15, Tryd.ntmps15
    go_wp2
    go_ret
    exact ⟨ret_bool (unhide E), (Below.refl w.heap.size w).alloc (Nat.le_refl _) _⟩
  by_cases h2 : k = 2
  · subst h2
    have E := hide (show has callW t.data.toList = callsK 2 t.data.toList from rfl)
    have HA : Hid (StrsAt ((w.alloc (.cells #[.int .i64 2, .string t, .int .i64 n, .int .i64 a, .int .i64 l] 28)).alloc (.cells #[.string ⟨#[98, 114, 101, 97, 107]⟩, .string ⟨#[99, 111, 110, 116, 105, 110, 117, 101]⟩, .string ⟨#[114, 101, 116, 117, 114, 110]⟩, .string ⟨#[105, 110, 116]⟩, .string ⟨#[98, 111, 111, 108]⟩, .string ⟨#[77, 117, 116, 101, 120]⟩, .string ⟨#[87, 97, 105, 116, 71, 114, 111, 117, 112]⟩, .string ⟨#[116, 114, 117, 101]⟩, .string ⟨#[102, 97, 108, 115, 101]⟩, .string ⟨#[110, 105, 108]⟩] 9)) (w.heap.size + 1) callW) := by
      have h := strsAt_new (w.alloc (.cells #[.int .i64 2, .string t, .int .i64 n, .int .i64 a, .int .i64 l] 28)) 9 callW
      rw [World.size_alloc] at h
      exact h
    have HB := hide (((Below.refl w.heap.size w).alloc (Nat.le_refl _) (.cells #[.int .i64 2, .string t, .int .i64 n, .int .i64 a, .int .i64 l] 28)).alloc (by rw [World.size_alloc]; omega) (.cells #[.string ⟨#[98, 114, 101, 97, 107]⟩, .string ⟨#[99, 111, 110, 116, 105, 110, 117, 101]⟩, .string ⟨#[114, 101, 116, 117, 114, 110]⟩, .string ⟨#[105, 110, 116]⟩, .string ⟨#[98, 111, 111, 108]⟩, .string ⟨#[77, 117, 116, 101, 120]⟩, .string ⟨#[87, 97, 105, 116, 71, 114, 111, 117, 112]⟩, .string ⟨#[116, 114, 117, 101]⟩, .string ⟨#[102, 97, 108, 115, 101]⟩, .string ⟨#[110, 105, 108]⟩] 9))
    go_enter Tryd.func15, Tryd.ntmps15
    go_wp2_with fail
    refine (one_any t (unhide HA) (by decide) (by decide)).mono ?_
    rintro e w1 ⟨rfl, rfl⟩
    go_wp2
    go_ret
    exact ⟨ret_bool (unhide E), unhide HB⟩
  by_cases h5 : k = 5
  · subst h5
    have E := hide (show has callS t.data.toList = callsK 5 t.data.toList from rfl)
    have HA : Hid (StrsAt ((w.alloc (.cells #[.int .i64 5, .string t, .int .i64 n, .int .i64 a, .int .i64 l] 28)).alloc (.cells #[.string ⟨#[41]⟩, .string ⟨#[125]⟩, .string ⟨#[43, 43]⟩, .string ⟨#[45, 45]⟩] 9)) (w.heap.size + 1) callS) := by
      have h := strsAt_new (w.alloc (.cells #[.int .i64 5, .string t, .int .i64 n, .int .i64 a, .int .i64 l] 28)) 9 callS
      rw [World.size_alloc] at h
      exact h
    have HB := hide (((Below.refl w.heap.size w).alloc (Nat.le_refl _) (.cells #[.int .i64 5, .string t, .int .i64 n, .int .i64 a, .int .i64 l] 28)).alloc (by rw [World.size_alloc]; omega) (.cells #[.string ⟨#[41]⟩, .string ⟨#[125]⟩, .string ⟨#[43, 43]⟩, .string ⟨#[45, 45]⟩] 9))
    go_enter Tryd.func15, Tryd.ntmps15
    go_wp2_with fail
    refine (one_any t (unhide HA) (by decide) (by decide)).mono ?_
    rintro e w1 ⟨rfl, rfl⟩
    go_wp2
    go_ret
    exact ⟨ret_bool (unhide E), unhide HB⟩
  · have E := hide (show false = callsK k t.data.toList by unfold callsK; rw [if_neg (by omega), if_neg h2, if_neg h5])
    have q1 : (k == 1) = false := beq_false_of_ne h1
    have q2 : (k == 2) = false := beq_false_of_ne h2
    have q3 : (k == 3) = false := beq_false_of_ne h3
    have q4 : (k == 4) = false := beq_false_of_ne h4
    have q5 : (k == 5) = false := beq_false_of_ne h5
    clear h1 h2 h3 h4 h5
    go_enter Tryd.func15, Tryd.ntmps15
    go_wp2
    go_ret
    exact ⟨ret_bool (unhide E), (Below.refl w.heap.size w).alloc (Nat.le_refl _) _⟩

end Go.Proofs.YtkbgnbcphmkjkaaDoor
