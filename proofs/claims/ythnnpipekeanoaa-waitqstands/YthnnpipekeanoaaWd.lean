/- Layer 11: the document's book, in memory. -/
import Derived.Test.YthnnpipekeanoaaWm
import Derived.Test.YthnnpipekeanoaaFr
namespace Go.Proofs.Ythnnpipekeanoaa
open Go.RowKit

def rcF (r : Rc) : List Value := [.int .u32 r.ms, .int .u32 r.mg, .int .u32 r.ws, .int .u32 r.wg, .int .u32 r.rs, .int .u32 r.rg, .int .i64 r.rd, .int .i64 r.ar, .int .i64 r.vn, .int .u32 r.vs, .int .u32 r.vg]
theorem rcF_len (r : Rc) : (rcF r).length = 11 := rfl
def ovF (b : Bool) : List Value := [.int .i64 (if b then 1 else 0)]
theorem ovF_len (b : Bool) : (ovF b).length = 1 := rfl
abbrev RcRow (w : World) (B : Nat) (v : Value) (l : List Rc) : Prop := Row rcF 11 57 w B v l
abbrev OvRow (w : World) (B : Nat) (v : Value) (l : List Bool) : Prop := Row ovF 1 3 w B v l
abbrev hvW (s g : Int) : Value := .agg #[.int .u32 s, .int .u32 g]
abbrev rvW (s g d : Int) : Value := .agg #[.int .u32 s, .int .u32 g, .int .i64 d]
abbrev rcV (r : Rc) : Value := .agg #[.int .u32 r.ms, .int .u32 r.mg, .int .u32 r.ws, .int .u32 r.wg, .int .u32 r.rs, .int .u32 r.rg, .int .i64 r.rd, .int .i64 r.ar, .int .i64 r.vn, .int .u32 r.vs, .int .u32 r.vg]

/-- the document's book lies in block b -/
structure DB (w : World) (B b : Nat) (av ov : Value) (l : List Wt) : Prop where
  box : w.heap[b]? = some (.cells #[av, ov] 31 (0, 0))
  all : RcRow w B av (l.map Wt.r)
  ov : OvRow w B ov (l.map Wt.o)

section
variable {w w' : World} {B b : Nat} {av ov : Value} {l : List Wt}
theorem DB.lt (h : DB w B b av ov l) : b < w.heap.size := (Array.getElem?_eq_some_iff.1 h.box).1
theorem DB.cells (h : DB w B b av ov l) : w.cell? ⟨b, 0, none⟩ = some av ∧ w.cell? ⟨b, 1, none⟩ = some ov := by simp [Lib.cell_of_heap h.box]
theorem DB.ch {Q : Nat → Prop} (h : DB w B b av ov l) (hc : Ch Q w w') (hb : ¬ Q b) (h1 : ∀ g, av.ownBlock = some g → ¬ Q g) (h2 : ∀ g, ov.ownBlock = some g → ¬ Q g) : DB w' B b av ov l := ⟨hc.box h.box hb, h.all.ch hc h1, h.ov.ch hc h2⟩
theorem DB.below (h : DB w B b av ov l) (hb : Below w.heap.size w w') : DB w' B b av ov l := h.ch (Ch.of_below (Q := fun _ => False) hb) (fun h => h) (fun _ _ h => h) (fun _ _ h => h)
/-- the lists' values, and their cells -/
theorem DB.forms (h : DB w B b av ov l) : ∃ a c a' c', av = .slice a l.length c ∧ ov = .slice a' l.length c' ∧ l.length ≤ c ∧ l.length ≤ c' ∧ l.length ≤ maxLen := by
  obtain ⟨a, c, e, h1, h2⟩ := h.all.form
  obtain ⟨a', c', e', h1', _⟩ := h.ov.form
  rw [List.length_map] at e h1 h2 e' h1'
  exact ⟨a, c, a', c', e, e', h1, h1', h2⟩
theorem DB.at (h : DB w B b av ov l) (h0 : 0 < l.length) : ∃ ga gc oa oc, av = .slice (some ⟨ga, 0, none⟩) l.length gc ∧ ov = .slice (some ⟨oa, 0, none⟩) l.length oc ∧ l.length ≤ gc ∧ l.length ≤ oc ∧ B ≤ oa ∧ oa < w.heap.size ∧ (∀ i (hi : i < l.length) j u, (rcF l[i].r)[j]? = some u → w.cell? ⟨ga, i * 11 + j, none⟩ = some u) ∧ (∀ i (hi : i < l.length), w.cell? ⟨oa, i, none⟩ = some (.int .i64 (if l[i].o then 1 else 0))) ∧ (∀ o, w.frozen? ⟨oa, o, none⟩ = false) := by
  obtain ⟨ga, gc, cur, e1, k1, _, _, _, _, hc⟩ := h.all.at rcF_len (by rw [List.length_map]; exact h0)
  obtain ⟨oa, oc, cur', e2, k2, k3, k4, k5, _, hc'⟩ := h.ov.at ovF_len (by rw [List.length_map]; exact h0)
  rw [List.length_map] at e1 k1 e2 k2
  refine ⟨ga, gc, oa, oc, e1, e2, k1, k2, k3, k4, fun i hi j u hu => hc i (by simpa using hi) j u (by rw [List.getElem_map]; exact hu), fun i hi => ?_, fun o => by simp [World.frozen?, k5]⟩
  have := hc' i (by simpa using hi) 0 (.int .i64 (if l[i].o then 1 else 0)) (by rw [List.getElem_map]; rfl)
  simpa using this
end

set_option maxHeartbeats 2000000 in
theorem rfindW {w : World} {B b : Nat} {av ov : Value} {l : List Wt} (h : DB w B b av ov l) (s g : Int) :
    Calls Try.prog 40 #[.pointer (some ⟨b, 0, none⟩), hvW s g] w fun e w' => e = .returned (.int .i64 (ixW (fndW l s g))) ∧ Below w.heap.size w w' := by
  obtain ⟨a, c, a', c', rfl, rfl, hc, hc', hm⟩ := h.forms
  have hm' : l.length ≤ 9223372036854775807 := by unfold maxLen at hm; omega
  go_enter Try.func40, Try.ntmps40
  go_wp2
  obtain ⟨w1, hw1⟩ : ∃ w1, w.alloc (.cells #[.int .u32 s, .int .u32 g] 41) = w1 := ⟨_, rfl⟩
  have hB1 : Below w.heap.size w w1 := by rw [← hw1]; exact below1 _ _
  have h1 := h.below hB1
  have hn : w1.heap[w.heap.size]? = some (.cells #[.int .u32 s, .int .u32 g] 41) := by rw [← hw1]; exact heap_new _ _
  obtain ⟨hx0, hx1⟩ := h1.cells
  have hy0 : w1.cell? ⟨w.heap.size, 0, none⟩ = some (.int .u32 s) := by simp [Lib.cell_of_heap hn]
  have hy1 : w1.cell? ⟨w.heap.size, 1, none⟩ = some (.int .u32 g) := by simp [Lib.cell_of_heap hn]
  rw [hw1]
  clear hw1 hn
  go_loopw [5] (fun i wr => ∃ k m : Nat, k ≤ l.length ∧ i = .int .i64 k ∧ Hid (∀ t ∈ l.take k, isMe s g t = false) ∧ wr = w1.drewN m) (fun i _ => l.length - (intOf i).toNat)
  case atStart => exact ⟨0, 0, Nat.zero_le _, rfl, hide (fun t ht => by simp at ht), rfl⟩
  case round =>
    obtain ⟨k, m, hk, rfl, HF, rfl⟩ := hrel
    by_cases hlt : k < l.length
    · obtain ⟨ga, gc, oa, oc, e1, e2, k1, k2, -, -, hcell, hov, -⟩ := h1.at (by omega)
      cases e1
      cases e2
      have y0 : w1.cell? ⟨ga, k * 11, none⟩ = _ := hcell k hlt 0 (.int .u32 l[k].r.ms) rfl
      have y1 := hcell k hlt 1 (.int .u32 l[k].r.mg) rfl
      have y2 := hov k hlt
      have HN := hide (show ∀ b, isMe s g l[k] = false → ∀ t ∈ l.take (k + 1), isMe s g t = b ∨ isMe s g t = false from fun b hb t ht => by
        rw [List.take_succ_eq_append_getElem hlt] at ht
        rcases List.mem_append.1 ht with ht | ht
        · exact Or.inr (HF.out t ht)
        · rw [List.mem_singleton.1 ht]; exact Or.inr hb)
      have HE := hide (show isMe s g l[k] = true → fndW l s g = some k from fun hb => by
        unfold fndW
        rw [List.findIdx?_eq_some_iff_getElem]
        exact ⟨hlt, hb, fun j hj => by rw [HF.out _ (List.mem_take_iff_getElem.2 ⟨j, by omega, rfl⟩)]; simp⟩)
      generalize l[k] = z at y0 y1 y2 HN HE
      clear hcell hov
      cases hd : z.o
      · rw [hd] at y2
        by_cases es : z.r.ms = s
        · subst es
          have q : (z.r.ms == z.r.ms) = true := by simp
          by_cases eg : z.r.mg = g
          · subst eg
            have q' : (z.r.mg == z.r.mg) = true := by simp
            go_wp2
            go_quiet (fail)
            go_wp2
            go_ret
            exact ⟨ret_int (by rw [HE.out (by simp [isMe, hd])]; rfl), hB1.trans ((below_dr _ _ _).trans (below_dr _ _ _))⟩
          · have q' : (z.r.mg == g) = false := by simpa using eg
            have HG := hide eg
            clear eg
            go_wp2
            go_quiet (fail)
            go_wp2
            go_roundw
            case rel => exact ⟨k + 1, _, by omega, by go_num, hide (fun t ht => (HN.out false (by simp [isMe, HG.out]) t ht).elim id id), rfl⟩
            case measure => simp [intOf]; omega
        · have q : (z.r.ms == s) = false := by simpa using es
          have HG := hide es
          clear es
          go_wp2
          go_quiet (fail)
          go_wp2
          go_roundw
          case rel => exact ⟨k + 1, _, by omega, by go_num, hide (fun t ht => (HN.out false (by simp [isMe, HG.out]) t ht).elim id id), rfl⟩
          case measure => simp [intOf]; omega
      · rw [hd] at y2
        go_wp2
        go_quiet (fail)
        go_wp2
        go_roundw
        case rel => exact ⟨k + 1, _, by omega, by go_num, hide (fun t ht => (HN.out false (by simp [isMe, hd]) t ht).elim id id), rfl⟩
        case measure => simp [intOf]; omega
    · have ek : l.take k = l := List.take_of_length_le (by omega)
      rw [ek] at HF
      have HE := hide (show fndW l s g = none by unfold fndW; rw [List.findIdx?_eq_none_iff]; exact HF.out)
      go_wp2
      go_ret
      exact ⟨ret_int (by rw [HE.out]; rfl), hB1.trans (below_dr _ _ _)⟩

end Go.Proofs.Ythnnpipekeanoaa
