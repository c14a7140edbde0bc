/- Programs as bytes: the writer's texts. -/
import Derived.Test.YtgheaieghoekhaaDoorEb
namespace Go.Proofs.YtgheaieghoekhaaDoor
open Go.RowKit

def btext (s : ByteArray) : List UInt8 := beb s.size 4 ++ s.data.toList
def bflag (b : Bool) : List UInt8 := [if b then 1 else 0]
def bitem (x : It) : List UInt8 := beb x.k 1 ++ (if x.k = 1 then btext x.t else [])
def bins (i : In) : List UInt8 := beb i.op 1 ++ (beb i.a 8 ++ (beb i.b 1 ++ beb i.l 4))
def bfun (f : Fu) : List UInt8 := btext f.nm ++ (beb f.pa 1 ++ (beb f.sl 2 ++ (bflag f.rs ++ (beb f.cd.length 4 ++ f.cd.flatMap bins))))
def bprint (l : List It) : List UInt8 := beb l.length 1 ++ l.flatMap bitem
def barm (l : List Bool) : List UInt8 := beb l.length 1 ++ l.flatMap bflag
def bprog (p : Pg) : List UInt8 := [68, 82, 87, 49] ++ (beb p.mn 4 ++ (beb p.fs.length 4 ++ (p.fs.flatMap bfun ++ (beb p.ps.length 4 ++ (p.ps.flatMap bprint ++ (beb p.ar.length 4 ++ p.ar.flatMap barm))))))

theorem Fx.boxc {N W B : Nat} {w w' : World} {cs : Array Value} {T : TypeId} (h : Fx N W w w') (hb : w.heap[B]? = some (.cells cs T (0, 0))) (hB : B ≠ W) (hT : T ≠ 5) {o : Nat} {u : Value} (hu : cs[o]? = some u) : w'.cell? ⟨B, o, none⟩ = some u := by
  rw [Lib.cell_of_heap ((h.blk B cs T (0, 0) hB hT hb).trans hb)]
  exact hu

theorem wnum_eq {N W : Nat} {acc : List UInt8} {w : World} (n : Int) (m : Nat) {m' : Int} (em : m' = (m : Int)) (hm : m ≤ 8) (h : Wr N W acc w) (hlen : acc.length + m ≤ 140737488355328) :
    Calls Tryd.prog 52 #[.pointer (some ⟨W, 0, none⟩), .int .i64 n, .int .i64 m'] w fun e w' => Wrote N W acc (beb n m) w e w' := by
  subst em
  exact wnum_is n m hm h hlen

theorem Wr.c0 {N W : Nat} {acc : List UInt8} {w : World} (h : Wr N W acc w) : ∃ u, w.cell? ⟨W, 0, none⟩ = some u := by
  obtain ⟨-, p, v, -, hbk, -, -⟩ := h
  exact ⟨p, by rw [Lib.cell_of_heap hbk]; rfl⟩

set_option maxHeartbeats 1000000 in
theorem wtext_is {N W : Nat} {acc : List UInt8} {w : World} (s : ByteArray) (h : Wr N W acc w) (hlen : acc.length + (btext s).length ≤ 140737488355328) :
    Calls Tryd.prog 76 #[.pointer (some ⟨W, 0, none⟩), .string s] w fun e w' => Wrote N W acc (btext s) w e w' := by
  have hl : (btext s).length = 4 + s.size := by unfold btext; rw [List.length_append, beb_len]; rfl
  rw [hl] at hlen
  have HW := hide h
  clear h hl
  go_enter Tryd.func76, Tryd.ntmps76
  go_wp2_with fail
  refine (wnum_eq _ 4 rfl (by omega) (unhide HW) (by omega)).mono ?_
  rintro e w2 ⟨rfl, hF2, hW2⟩
  obtain ⟨u, c0⟩ := hW2.c0
  have HF2 := hide hF2
  have HW2 := hide hW2
  clear hF2 hW2
  go_wp2_with fail
  refine (wstr_is s (unhide HW2) (by rw [List.length_append, beb_len]; omega)).mono ?_
  rintro e w3 ⟨rfl, hF3, hW3⟩
  have HF3 := hide hF3
  have HW3 := hide hW3
  clear hF3 hW3
  go_wp2
  go_end0
  exact ⟨rfl, (unhide HF2).trans (unhide HF3), by unfold btext; rw [← List.append_assoc]; exact unhide HW3⟩

set_option maxHeartbeats 1000000 in
theorem wflag_is {N W : Nat} {acc : List UInt8} {w : World} (b : Bool) (h : Wr N W acc w) (hlen : acc.length + 1 ≤ 140737488355328) :
    Calls Tryd.prog 55 #[.pointer (some ⟨W, 0, none⟩), .bool b] w fun e w' => Wrote N W acc (bflag b) w e w' := by
  have HW := hide h
  obtain ⟨u, c0⟩ := h.c0
  clear h
  cases b
  · go_enter Tryd.func55, Tryd.ntmps55
    go_wp2_with fail
    refine (wbyte_eq (c := 0) rfl (unhide HW) hlen).mono ?_
    rintro e w3 ⟨rfl, hF3, hW3⟩
    have HF3 := hide hF3
    have HW3 := hide hW3
    clear hF3 hW3
    go_wp2
    go_end0
    exact ⟨rfl, unhide HF3, unhide HW3⟩
  · go_enter Tryd.func55, Tryd.ntmps55
    go_wp2_with fail
    refine (wbyte_eq (c := 1) rfl (unhide HW) hlen).mono ?_
    rintro e w3 ⟨rfl, hF3, hW3⟩
    have HF3 := hide hF3
    have HW3 := hide hW3
    clear hF3 hW3
    go_wp2
    go_end0
    exact ⟨rfl, unhide HF3, unhide HW3⟩

theorem Wr.box {N W : Nat} {acc : List UInt8} {w : World} (h : Wr N W acc w) (o : Obj) : Wr N W acc (w.alloc o) := h.below (below1 w o)
theorem Wr.fxa {N W : Nat} {acc : List UInt8} {w : World} (h : Wr N W acc w) (o : Obj) : Fx N W w (w.alloc o) := Fx.of_below (below1 w o) h.nle
theorem heap_new (w : World) (o : Obj) : (w.alloc o).heap[w.heap.size]? = some o := (MapKept.heap_alloc w _).1

set_option maxHeartbeats 1000000 in
theorem witem_is {N W : Nat} {acc : List UInt8} {w : World} (x : It) (h : Wr N W acc w) (hlen : acc.length + (bitem x).length ≤ 140737488355328) :
    Calls Tryd.prog 54 #[.pointer (some ⟨W, 0, none⟩), .agg #[.int .i64 x.k, .string x.t]] w fun e w' => Wrote N W acc (bitem x) w e w' := by
  obtain ⟨k, t⟩ := x
  have hWn : w.heap.size ≠ W := by have := h.lt; omega
  have HW := hide (h.box (.cells #[.int .i64 k, .string t] 64))
  have HF := hide (h.fxa (.cells #[.int .i64 k, .string t] 64))
  have HB := hide (heap_new w (.cells #[.int .i64 k, .string t] 64))
  have hl1 : acc.length + 1 ≤ 140737488355328 := by unfold bitem at hlen; rw [List.length_append, beb_len] at hlen; omega
  clear h
  by_cases c1 : k = 1
  · subst c1
    have e : bitem ⟨1, t⟩ = beb 1 1 ++ btext t := by unfold bitem; rw [if_pos rfl]
    rw [e, List.length_append, beb_len] at hlen
    have E := hide e
    clear e
    go_enter Tryd.func54, Tryd.ntmps54
    go_wp2_with fail
    refine (wnum_eq _ 1 rfl (by omega) (unhide HW) (by omega)).mono ?_
    rintro e w2 ⟨rfl, hF2, hW2⟩
    have d0 : w2.cell? ⟨w.heap.size, 0, none⟩ = some (.int .i64 1) := hF2.boxc (unhide HB) hWn (by decide) rfl
    have d1 : w2.cell? ⟨w.heap.size, 1, none⟩ = some (.string t) := hF2.boxc (unhide HB) hWn (by decide) rfl
    have HF2 := hide hF2
    have HW2 := hide hW2
    clear hF2 hW2
    go_wp2_with fail
    refine (wtext_is t (unhide HW2) (by rw [List.length_append, beb_len]; omega)).mono ?_
    rintro e w3 ⟨rfl, hF3, hW3⟩
    have HF3 := hide hF3
    have HW3 := hide hW3
    clear hF3 hW3
    go_wp2
    go_end0
    exact ⟨rfl, (unhide HF).trans ((unhide HF2).trans (unhide HF3)), by rw [unhide E, ← List.append_assoc]; exact unhide HW3⟩
  · have q : (k == 1) = false := by simpa using c1
    have E := hide (show bitem ⟨k, t⟩ = beb k 1 by unfold bitem; rw [if_neg c1, List.append_nil])
    clear c1
    go_enter Tryd.func54, Tryd.ntmps54
    go_wp2_with fail
    refine (wnum_eq _ 1 rfl (by omega) (unhide HW) (by omega)).mono ?_
    rintro e w2 ⟨rfl, hF2, hW2⟩
    have d0 : w2.cell? ⟨w.heap.size, 0, none⟩ = some (.int .i64 k) := hF2.boxc (unhide HB) hWn (by decide) rfl
    have HF2 := hide hF2
    have HW2 := hide hW2
    clear hF2 hW2
    go_wp2
    go_end0
    exact ⟨rfl, (unhide HF).trans (unhide HF2), by rw [unhide E]; exact unhide HW2⟩

end Go.Proofs.YtgheaieghoekhaaDoor
