/- Layer 11: the document's book: Leave, First; two lists alike. -/
import Derived.Test.YthnnpipekeanoaaWg
namespace Go.Proofs.Ythnnpipekeanoaa
open Go.RowKit

variable {w : World} {B b : Nat} {av ov : Value} {l : List Wt}

/-- the first k are gone through -/
def leaT (l : List Wt) (s g : Int) (k : Nat) : List Wt := leaW (l.take k) s g ++ l.drop k
theorem leaT_len (l : List Wt) (s g : Int) (k : Nat) : (leaT l s g k).length = l.length := by
  unfold leaT
  rw [List.length_append, leaW_len, List.length_take, List.length_drop]
  omega
theorem leaT_zero (l : List Wt) (s g : Int) : leaT l s g 0 = l := by simp [leaT, leaW]
theorem leaT_all {l : List Wt} {s g : Int} {k : Nat} (h : l.length ≤ k) : leaT l s g k = leaW l s g := by
  unfold leaT
  rw [List.take_of_length_le h, List.drop_of_length_le h, List.append_nil]
theorem leaT_at {l : List Wt} (s g : Int) {k : Nat} (h : k < l.length) : leaT l s g k = leaW (l.take k) s g ++ l[k] :: l.drop (k + 1) ∧ leaT l s g (k + 1) = leaW (l.take k) s g ++ (if isWho s g l[k] then over l[k] else l[k]) :: l.drop (k + 1) := by
  unfold leaT
  rw [List.drop_eq_getElem_cons h, List.take_succ_eq_append_getElem h]
  refine ⟨rfl, ?_⟩
  unfold leaW
  rw [List.map_append, List.append_assoc]
  rfl
theorem leaT_get {l : List Wt} (s g : Int) {k : Nat} (h : k < l.length) (h' : k < (leaT l s g k).length) : (leaT l s g k)[k] = l[k] := by
  have e := (leaT_at s g h).1
  have hl : (leaW (l.take k) s g).length = k := by rw [leaW_len, List.length_take]; omega
  simp only [e]
  rw [List.getElem_append_right (by omega)]
  simp [hl]
theorem leaT_no {l : List Wt} {s g : Int} {k : Nat} (h : k < l.length) (hq : isWho s g l[k] = false) : leaT l s g (k + 1) = leaT l s g k := by
  rw [(leaT_at s g h).1, (leaT_at s g h).2, hq]
  rfl
theorem leaT_yes {l : List Wt} {s g : Int} {k : Nat} (h : k < l.length) (hq : isWho s g l[k] = true) : (leaT l s g (k + 1)).map Wt.r = (leaT l s g k).map Wt.r ∧ (leaT l s g (k + 1)).map Wt.o = ((leaT l s g k).map Wt.o).set k true := by
  have hl : ((leaW (l.take k) s g).map Wt.o).length = k := by rw [List.length_map, leaW_len, List.length_take]; omega
  rw [(leaT_at s g h).1, (leaT_at s g h).2, hq]
  constructor
  · rw [List.map_append, List.map_append, List.map_cons, List.map_cons]
    rfl
  · rw [List.map_append, List.map_append, List.set_append_right _ _ (by omega), hl, Nat.sub_self]
    rfl
theorem DB.markN {oa oc n : Nat} (h : DB w B b av (.slice (some ⟨oa, 0, none⟩) n oc) l) (hn : n = l.length) {i : Nat} (hi : i < l.length) {l' : List Wt} (h1 : l'.map Wt.r = l.map Wt.r) (h2 : l'.map Wt.o = (l.map Wt.o).set i true) : DB (w.setCell ⟨oa, i, none⟩ (.int .i64 1)) B b av (.slice (some ⟨oa, 0, none⟩) n oc) l' := by
  subst hn
  exact h.mark hi h1 h2
theorem leaN_next {l : List Wt} {s g : Int} {k : Nat} (h : k < l.length) : leaN (l.take (k + 1)) s g = leaN (l.take k) s g + if isWho s g l[k] then 1 else 0 := by
  rw [List.take_succ_eq_append_getElem h, leaN_snoc]

set_option maxRecDepth 100000 in
set_option maxHeartbeats 4000000 in
theorem rleaW (h : DB w B b av ov l) (hl : l.length ≤ 100000) (s g : Int) :
    Calls Try.prog 26 #[.pointer (some ⟨b, 0, none⟩), hvW s g] w fun e w' => e = .returned (.int .i64 (leaN l s g : Int)) ∧ DB w' B b av ov (leaW l s g) ∧ Ch (fun x => ov.ownBlock = some x) w w' := by
  obtain ⟨w1, hw1⟩ : ∃ w1, w.alloc (.cells #[.int .u32 s, .int .u32 g] 41) = w1 := ⟨_, rfl⟩
  have HB1 := hide (show Below w.heap.size w w1 by rw [← hw1]; exact below1 _ _)
  have hn : w1.heap[w.heap.size]? = some (.cells #[.int .u32 s, .int .u32 g] 41 (0, 0)) := by rw [← hw1]; exact heap_new _ _
  have H1 := hide (h.below HB1.out)
  go_enter Try.func26, Try.ntmps26
  go_wp2
  clear hw1
  go_loopw [5, 6] (fun t i wr => ∃ k : Nat, k ≤ l.length ∧ i = .int .i64 k ∧ t = .int .i64 (leaN (l.take k) s g : Int) ∧ Hid (DB wr B b av ov (leaT l s g k)) ∧ Hid (Ch (fun x => ov.ownBlock = some x) w wr) ∧ wr.heap[w.heap.size]? = some (.cells #[.int .u32 s, .int .u32 g] 41 (0, 0))) (fun _ i _ => l.length - (intOf i).toNat)
  case atStart => exact ⟨0, Nat.zero_le _, rfl, by simp [leaN], by rw [leaT_zero]; exact H1, hide (Ch.of_below HB1.out), hn⟩
  case round =>
    obtain ⟨k, hk, rfl, rfl, HD, HC, hbx⟩ := hrel
    obtain ⟨W, rfl⟩ : ∃ W, W = wr := ⟨_, rfl⟩
    have hy0 : W.cell? ⟨w.heap.size, 0, none⟩ = some (.int .u32 s) := by simp [Lib.cell_of_heap hbx]
    have hy1 : W.cell? ⟨w.heap.size, 1, none⟩ = some (.int .u32 g) := by simp [Lib.cell_of_heap hbx]
    obtain ⟨hx0, hx1⟩ := HD.out.cells
    by_cases hlt : k < l.length
    · have hlt' : k < (leaT l s g k).length := by rw [leaT_len]; exact hlt
      obtain ⟨ga, gc, oa, oc, e1, e2, k1, k2, -, -, hcell, hov, fz⟩ := HD.out.at (by omega)
      rw [leaT_len] at e1 e2
      subst e1
      subst e2
      have eg := leaT_get s g hlt hlt'
      have q1 : decide ((k : Int) < (l.length : Int)) = true := decide_eq_true (by omega)
      have y2 := hcell k hlt' 2 (.int .u32 l[k].r.ws) (by rw [eg]; rfl)
      have y3 := hcell k hlt' 3 (.int .u32 l[k].r.wg) (by rw [eg]; rfl)
      have yo := hov k hlt'
      rw [eg] at yo
      have hle : leaN (l.take k) s g ≤ k := Nat.le_trans List.countP_le_length (List.length_take_le _ _)
      have HN := hide (leaN_next (s := s) (g := g) hlt)
      have HY := hide (fun hq => leaT_yes (s := s) (g := g) hlt hq)
      have HNO := hide (fun hq => leaT_no (s := s) (g := g) hlt hq)
      generalize l[k] = z at y2 y3 yo HN HY HNO
      clear hcell hov eg
      have hle2 := leaT_len l s g k
      cases hd : z.o
      · rw [hd] at yo
        by_cases es : z.r.ws = s
        · have qs : (z.r.ws == s) = true := by simpa using es
          have HES := hide es
          clear es
          by_cases eg : z.r.wg = g
          · have qg : (z.r.wg == g) = true := by simpa using eg
            have HEG := hide eg
            clear eg
            go_wp2
            go_quiet (fail)
            generalize hV : W.drewN nq = V
            have cV : Ch (fun _ => False) W V := by rw [← hV]; exact Ch.drewN _ _
            have CW : ∀ p, V.cell? p = W.cell? p := by rw [← hV]; exact fun _ => rfl
            have CZ : ∀ p, V.frozen? p = W.frozen? p := by rw [← hV]; exact fun _ => rfl
            have fzV := fun o => (CZ ⟨oa, o, none⟩).trans (fz o)
            rw [← CW] at y2 y3 yo hx0 hx1 hy0 hy1
            clear hV CW CZ
            have HQ := hide (show isWho s g z = true by simp [isWho, hd, HES.out, HEG.out])
            have HDV := hide (HD.out.ch cV (fun h => h) (fun _ _ h => h) (fun _ _ h => h))
            go_wp2
            go_roundw
            case rel => exact ⟨k + 1, by omega, by go_num, by rw [HN.out, HQ.out]; go_num, hide (by have h5 := HDV.out.markN (l' := leaT l s g (k + 1)) (leaT_len l s g k).symm hlt' (HY.out HQ.out).1 (HY.out HQ.out).2; exact h5), hide ((HC.out.trans cV (fun _ _ h => h.elim)).trans (Ch.set (Q := fun x => x = oa) V rfl _ _) (fun x _ e => by rw [e]; rfl)), (Ch.set (Q := fun x => x = oa) V rfl _ _).box (cV.box hbx (fun h => h)) (fun e => own_box HDV.out.ov (cV.box hbx (fun h => h)) (by decide) (by rw [e]; rfl))⟩
            case measure => simp [intOf]; omega
          · have qg : (z.r.wg == g) = false := by simpa using eg
            have HEG := hide eg
            clear eg
            go_wp2
            go_quiet (fail)
            generalize hV : W.drewN nq = V
            have cV : Ch (fun _ => False) W V := by rw [← hV]; exact Ch.drewN _ _
            have CW : ∀ p, V.cell? p = W.cell? p := by rw [← hV]; exact fun _ => rfl
            have CZ : ∀ p, V.frozen? p = W.frozen? p := by rw [← hV]; exact fun _ => rfl
            have fzV := fun o => (CZ ⟨oa, o, none⟩).trans (fz o)
            rw [← CW] at y2 y3 yo hx0 hx1 hy0 hy1
            clear hV CW CZ
            have HQ := hide (show isWho s g z = false by simp [isWho, HEG.out])
            go_wp2
            go_roundw
            case rel => exact ⟨k + 1, by omega, by go_num, by rw [HN.out, HQ.out]; rfl, hide (by rw [HNO.out HQ.out]; exact HD.out.ch cV (fun h => h) (fun _ _ h => h) (fun _ _ h => h)), hide (HC.out.trans cV (fun _ _ h => h.elim)), cV.box hbx (fun h => h)⟩
            case measure => simp [intOf]; omega
        · have qs : (z.r.ws == s) = false := by simpa using es
          have HES := hide es
          clear es
          go_wp2
          go_quiet (fail)
          generalize hV : W.drewN nq = V
          have cV : Ch (fun _ => False) W V := by rw [← hV]; exact Ch.drewN _ _
          have CW : ∀ p, V.cell? p = W.cell? p := by rw [← hV]; exact fun _ => rfl
          have CZ : ∀ p, V.frozen? p = W.frozen? p := by rw [← hV]; exact fun _ => rfl
          have fzV := fun o => (CZ ⟨oa, o, none⟩).trans (fz o)
          rw [← CW] at y2 y3 yo hx0 hx1 hy0 hy1
          clear hV CW CZ
          have HQ := hide (show isWho s g z = false by simp [isWho, HES.out])
          go_wp2
          go_roundw
          case rel => exact ⟨k + 1, by omega, by go_num, by rw [HN.out, HQ.out]; rfl, hide (by rw [HNO.out HQ.out]; exact HD.out.ch cV (fun h => h) (fun _ _ h => h) (fun _ _ h => h)), hide (HC.out.trans cV (fun _ _ h => h.elim)), cV.box hbx (fun h => h)⟩
          case measure => simp [intOf]; omega
      · rw [hd] at yo
        go_wp2
        go_quiet (fail)
        generalize hV : W.drewN nq = V
        have cV : Ch (fun _ => False) W V := by rw [← hV]; exact Ch.drewN _ _
        have CW : ∀ p, V.cell? p = W.cell? p := by rw [← hV]; exact fun _ => rfl
        have CZ : ∀ p, V.frozen? p = W.frozen? p := by rw [← hV]; exact fun _ => rfl
        have fzV := fun o => (CZ ⟨oa, o, none⟩).trans (fz o)
        rw [← CW] at y2 y3 yo hx0 hx1 hy0 hy1
        clear hV CW CZ
        have HQ := hide (show isWho s g z = false by simp [isWho, hd])
        go_wp2
        go_roundw
        case rel => exact ⟨k + 1, by omega, by go_num, by rw [HN.out, HQ.out]; rfl, hide (by rw [HNO.out HQ.out]; exact HD.out.ch cV (fun h => h) (fun _ _ h => h) (fun _ _ h => h)), hide (HC.out.trans cV (fun _ _ h => h.elim)), cV.box hbx (fun h => h)⟩
        case measure => simp [intOf]; omega
    · have ek : l.take k = l := List.take_of_length_le (by omega)
      have HA := hide (leaT_all (s := s) (g := g) (show l.length ≤ k by omega))
      obtain ⟨a, c, a', c', rfl, rfl, hc, hc', hm⟩ := HD.out.forms
      rw [leaT_len]
      rw [leaT_len] at hx0 hx1
      have q1 : decide ((k : Int) < (l.length : Int)) = false := decide_eq_false (by omega)
      go_wp2
      go_ret
      exact ⟨ret_int (by rw [ek]), by rw [← HA.out]; exact HD.out, HC.out⟩

end Go.Proofs.Ythnnpipekeanoaa
