/- The language's words: the list, and whether a text is one of it. -/
import Derived.Test.YtkbgnbcphmkjkaaDoorBase
namespace Go.Proofs.YtkbgnbcphmkjkaaDoor
open Go.RowKit

/-- the words, rising -/
def wl : List ByteArray := [⟨#[77, 117, 116, 101, 120]⟩, ⟨#[87, 97, 105, 116, 71, 114, 111, 117, 112]⟩, ⟨#[98, 111, 111, 108]⟩, ⟨#[98, 114, 101, 97, 107]⟩, ⟨#[99, 97, 112]⟩, ⟨#[99, 97, 115, 101]⟩,
  ⟨#[99, 104, 97, 110]⟩, ⟨#[99, 108, 111, 115, 101]⟩, ⟨#[99, 111, 110, 116, 105, 110, 117, 101]⟩, ⟨#[100, 101, 102, 97, 117, 108, 116]⟩, ⟨#[101, 108, 115, 101]⟩, ⟨#[102, 97, 108, 115, 101]⟩, ⟨#[102, 111, 114]⟩,
  ⟨#[102, 117, 110, 99]⟩, ⟨#[103, 111]⟩, ⟨#[105, 102]⟩, ⟨#[105, 110, 116]⟩, ⟨#[108, 101, 110]⟩, ⟨#[109, 97, 107, 101]⟩, ⟨#[110, 105, 108]⟩, ⟨#[112, 114, 105, 110, 116, 108, 110]⟩, ⟨#[114, 97, 110, 103, 101]⟩,
  ⟨#[114, 101, 116, 117, 114, 110]⟩, ⟨#[115, 101, 108, 101, 99, 116]⟩, ⟨#[115, 119, 105, 116, 99, 104]⟩, ⟨#[116, 114, 117, 101]⟩, ⟨#[118, 97, 114]⟩, ⟨#[121, 105, 101, 108, 100]⟩]

/-- the word at a place -/
def wd (k : Nat) : ByteArray := wl.getD k ByteArray.empty

def wcells : Array Value := (wl.map Value.string).toArray

/-- is a text one of the words? -/
def isWord (s : ByteArray) : Bool := wl.any fun x => decide (s = x)

theorem wl_len : wl.length = 28 := rfl
theorem wcells_size : wcells.size = 28 := rfl

theorem isWord_hit {s : ByteArray} {k : Nat} (hk : k < 28) (h : s = wd k) : isWord s = true := by
  unfold isWord
  rw [List.any_eq_true]
  refine ⟨wd k, ?_, decide_eq_true h⟩
  unfold wd
  rw [List.getD_eq_getElem?_getD, List.getElem?_eq_getElem (by rw [wl_len]; exact hk)]
  exact List.getElem_mem _

theorem isWord_none {s : ByteArray} (h : ∀ j, j < 28 → s ≠ wd j) : isWord s = false := by
  unfold isWord
  rw [List.any_eq_false]
  intro x hx
  obtain ⟨j, hj, rfl⟩ := List.getElem_of_mem hx
  have := h j (by rw [wl_len] at hj; exact hj)
  unfold wd at this
  rw [List.getD_eq_getElem?_getD, List.getElem?_eq_getElem hj] at this
  simpa using this

/-- the list lies in block B -/
structure WordsAt (w : World) (B : Nat) : Prop where
  cell : ∀ j, j < 28 → w.cell? ⟨B, j, none⟩ = some (.string (wd j))

theorem wcells_at (j : Nat) (h : j < 28) : wcells[j]? = some (.string (wd j)) := by
  unfold wcells wd
  rw [List.getElem?_toArray, List.getElem?_map, List.getD_eq_getElem?_getD, List.getElem?_eq_getElem (by rw [wl_len]; exact h)]
  rfl

theorem wordsAt_new (w : World) (t : TypeId) : WordsAt (w.alloc (.cells wcells t)) w.heap.size :=
  ⟨fun j hj => by rw [World.cell?_alloc_new]; exact wcells_at j hj⟩

theorem WordsAt.below {w w' : World} {B : Nat} (h : WordsAt w B) (hB : B < w.heap.size) (hb : Below w.heap.size w w') : WordsAt w' B :=
  ⟨fun j hj => by
    have := h.cell j hj
    have e := hb.block B hB
    unfold World.cell? at this ⊢
    simp only [e]
    exact this⟩

set_option maxHeartbeats 1000000 in
theorem words_any (w : World) :
    Calls Tryd.prog 37 #[] w fun e w' => e = .returned (.slice (some ⟨w.heap.size, 0, none⟩) 28 28) ∧ w' = w.alloc (.cells wcells 9) := by
  go_enter Tryd.func37, Tryd.ntmps37
  go_wp2
  go_ret
  exact ⟨rfl, rfl⟩

set_option maxHeartbeats 1000000 in
theorem index_any (s : ByteArray) {B : Nat} {w : World} (h : WordsAt w B) :
    Calls Tryd.prog 41 #[.slice (some ⟨B, 0, none⟩) 28 28, .string s] w fun e w' =>
      (∃ i : Int, e = .returned (.int .i64 i) ∧ decide (0 ≤ i) = isWord s) ∧ w' = w := by
  have HC := hide h
  clear h
  go_enter Tryd.func41, Tryd.ntmps41
  go_wp2
  go_loop [8] (fun i => ∃ k : Nat, k ≤ 28 ∧ i = .int .i64 k ∧ ∀ j, j < k → s ≠ wd j) (fun i => 28 - (intOf i).toNat)
  case atStart => exact ⟨0, by omega, rfl, fun j hj => by omega⟩
  case round =>
    obtain ⟨k, hk, rfl, hno⟩ := hrel
    by_cases hlt : k < 28
    · have hc := (unhide HC).cell k hlt
      have hq := bytes_beq s (wd k)
      by_cases e : s = wd k
      · rw [decide_eq_true e] at hq
        have E := hide (isWord_hit hlt e)
        clear hno e
        go_wp2
        go_ret
        exact ⟨⟨k, rfl, by rw [unhide E]; exact decide_eq_true (Int.natCast_nonneg k)⟩, rfl⟩
      · rw [decide_eq_false e] at hq
        have HN := hide (show ∀ j, j < k + 1 → s ≠ wd j from fun j hj => if h : j = k then h ▸ e else hno j (by omega))
        clear hno e
        go_wp2
        go_round
        case rel => exact ⟨k + 1, by omega, by go_num, unhide HN⟩
        case measure => simp [intOf]; omega
    · have e : k = 28 := by omega
      subst e
      have E := hide (isWord_none hno)
      clear hno
      go_wp2
      go_ret
      exact ⟨⟨-1, rfl, by rw [unhide E]; rfl⟩, rfl⟩

set_option maxHeartbeats 1000000 in
theorem contains_any (s : ByteArray) {B : Nat} {w : World} (h : WordsAt w B) :
    Calls Tryd.prog 20 #[.slice (some ⟨B, 0, none⟩) 28 28, .string s] w fun e w' => e = .returned (.bool (isWord s)) ∧ w' = w := by
  have HC := hide h
  clear h
  go_enter Tryd.func20, Tryd.ntmps20
  go_wp2_with fail
  refine (index_any s (unhide HC)).mono ?_
  rintro e w' ⟨⟨i, rfl, hi⟩, rfl⟩
  have HI := hide hi
  clear hi
  go_wp2
  go_ret
  exact ⟨ret_bool (unhide HI), rfl⟩

set_option maxHeartbeats 1000000 in
theorem word_any (s : ByteArray) (w : World) :
    Calls Tryd.prog 17 #[.string s] w fun e w' => e = .returned (.bool (isWord s)) ∧ Below w.heap.size w w' := by
  go_enter Tryd.func17, Tryd.ntmps17
  go_wp2_with fail
  refine (words_any w).mono ?_
  rintro e w' ⟨rfl, rfl⟩
  have HA := hide (wordsAt_new w 9)
  have HB := hide ((Below.refl w.heap.size w).alloc (Nat.le_refl _) (.cells wcells 9))
  generalize w.alloc (.cells wcells 9) = w1 at *
  go_wp2_with fail
  refine (contains_any s (unhide HA)).mono ?_
  rintro e w' ⟨rfl, rfl⟩
  go_wp2
  go_ret
  exact ⟨rfl, unhide HB⟩

end Go.Proofs.YtkbgnbcphmkjkaaDoor
