/- A range over a function that tells a list that is known. -/
import Derived.Test.YtcogiklnegpfiaaIf
namespace Go.Proofs.Ytcogiklnegpfiaa
open Go.RowKit Go.Shelf

/-- called with yield it hands it the rows of vs, one by one, till all have come or one round has said no -/
def SeqIs (n : Nat) (P : Program) (gf : Nat) (lb : Array Value) (vs : List (Array Value)) (Kp : World → World → Prop) (w : World) : Prop :=
  ∀ (l : Nat) (J Jx : Nat → World → Prop) (W : World), Below w.heap.size w W → AbidesFrom W.heap.size J → AbidesFrom W.heap.size Jx →
    (∀ i (h : i < vs.length) W1, J i W1 → YieldAt Fence.wide (n - 1) P l vs[i] W1 fun e W' => (e = .returned (.bool true) ∧ J (i + 1) W' ∧ Kp W1 W') ∨ (e = .returned (.bool false) ∧ Jx (i + 1) W')) →
    J 0 W → CallsIn Fence.wide n P gf (#[.func (.yield l) #[] #[]] ++ lb) W fun e W' => (∃ v, e = .returned v) ∧ (J vs.length W' ∨ ∃ i, i ≤ vs.length ∧ Jx i W')

/-- how a round may be left -/
def seqPost (B : Nat) (Kp : World → World → Prop) (I : Nat → World → Prop) (Ix : Code → Nat → World → Prop) (i : Nat) (W : World) : Exit → Act → World → Prop
  | .normal, _, W' => KeepsFrom B W W' ∧ Kp W W' ∧ I i W'
  | .ret, _, W' => KeepsFrom B W W' ∧ Ix .ret i W'
  | .exit id, _, W' => KeepsFrom B W W' ∧ Ix (.exit id) i W'
  | .goto t, _, W' => KeepsFrom B W W' ∧ Ix (.goto t) i W'
  | .panic _, _, _ => False
  | .outgrown, _, _ => False

section
variable {n : Nat} {P : Program} {ps : Array Tmp} {assign body : Code} {vs : List (Array Value)} {Kp : World → World → Prop} {B l : Nat} {X : World → Prop} {I : Nat → World → Prop} {Ix : Code → Nat → World → Prop} {tm : Array Value} {fn df : Nat}

abbrev recAt (fn : Nat) (tm : Array Value) (ps : Array Tmp) (assign body : Code) (df : Nat) (st : LoopState) (pe : Option Code) : Loop := { state := st, pending := pe, fn, tmps := tm, params := ps, assign, body, defers := df }

/-- one round: the record goes from ready to busy, and back or to done -/
theorem one_round (hBl : B ≤ l) (hX : ∀ W o, X W → W.heap[l]? = some o → o.isCells = false → ∀ o', X (W.putObj l o')) (hXk : ∀ W W', X W → KeepsFrom B W W' → X W')
    (hKt : ∀ {A B C : World}, Kp A B → Kp B C → Kp A C) (hKb : ∀ (W : World) (o o' : Obj), W.heap[l]? = some o → o.isCells = false → o.isWalk = false → Kp W (W.putObj l o'))
    (hI : OwnFrom B I) (hIx : ∀ c, OwnFrom B (Ix c)) {v : Array Value} (hv : v.size = ps.size) {i : Nat} {W : World} (Ax : Act → World → Prop) (hAx : ∀ a', OwnFrom B (fun (_ : Unit) W => Ax a' W))
    (hl : W.heap[l]? = some (.loop (recAt fn tm ps assign body df .ready none))) (hx : X W)
    (ha : ∀ K : Act → World → Prop, (∀ a' W', KeepsFrom B W W' → Kp W W' → I i W' → Ax a' W' → K a' W') → assign.wpIn (Fence.wide.inRound l) n P (Exit.then K (fun _ _ _ => False)) { tmps := (ps.zip v).foldl (fun t (p, v) => t.setIfInBounds p v) tm, defers := [] } W)
    (hb : ∀ a' W', (∃ r, W'.heap[l]? = some (.loop r)) → I i W' → Ax a' W' → body.wpIn (Fence.wide.inRound l) n P (seqPost B Kp I Ix (i + 1) W') a' W') :
    YieldAt Fence.wide n P l v W fun e W' => (e = .returned (.bool true) ∧ (I (i + 1) W' ∧ W'.heap[l]? = some (.loop (recAt fn tm ps assign body df .ready none)) ∧ X W') ∧ Kp W W') ∨
      (e = .returned (.bool false) ∧ ∃ c, Ix c (i + 1) W' ∧ W'.heap[l]? = some (.loop (recAt fn tm ps assign body df .done (some c))) ∧ X W') := by
  refine ⟨fn, _, assign, body, run_yield (args := v) hl hv, roundIn_of_wpIn trivial (ha _ ?_)⟩
  intro a' Wa k1 k2 hi hax
  have l1 := k1.same l _ hBl hl rfl
  have x1 := hXk _ _ hx k1
  refine ⟨_, run_beginRound l1 rfl, ?_⟩
  have l2 : (Wa.putObj l (.loop (recAt fn tm ps assign body df .busy none))).heap[l]? = some (.loop (recAt fn tm ps assign body df .busy none)) := World.putObj_heap_same (Array.getElem?_eq_some_iff.1 l1).1
  have x2 := hX _ _ x1 l1 rfl (.loop (recAt fn tm ps assign body df .busy none))
  have k3 : Kp W (Wa.putObj l (.loop (recAt fn tm ps assign body df .busy none))) := hKt k2 (hKb _ _ _ l1 rfl rfl)
  refine wpIn_mono (hb a' _ ⟨_, l2⟩ (hI.putObj _ hi hBl l1 rfl) ((hAx a').putObj (s := ()) _ hax hBl l1 rfl)) ?_
  have leave : ∀ (c : Code) (W3 : World), KeepsFrom B (Wa.putObj l (.loop (recAt fn tm ps assign body df .busy none))) W3 → Ix c (i + 1) W3 →
      ∃ w', (Instr.endRound l (some c)).run P W3 = .ok (.bool false) w' ∧ ∃ c, Ix c (i + 1) w' ∧ w'.heap[l]? = some (.loop (recAt fn tm ps assign body df .done (some c))) ∧ X w' := by
    intro c W3 k h
    have l3 := k.same l _ hBl l2 rfl
    exact ⟨_, run_endRound (some c) l3, c, (hIx c).putObj _ h hBl l3 rfl, World.putObj_heap_same (Array.getElem?_eq_some_iff.1 l3).1, hX _ _ (hXk _ _ x2 k) l3 rfl _⟩
  intro e a3 W3 hp
  cases e with
  | normal =>
    obtain ⟨k, k', h⟩ := hp
    have l3 := k.same l _ hBl l2 rfl
    exact ⟨_, _, run_endRound none l3, .inl ⟨rfl, ⟨hI.putObj _ h hBl l3 rfl, World.putObj_heap_same (Array.getElem?_eq_some_iff.1 l3).1, hX _ _ (hXk _ _ x2 k) l3 rfl _⟩, hKt k3 (hKt k' (hKb _ _ _ l3 rfl rfl))⟩⟩
  | ret => obtain ⟨w', e, h⟩ := leave .ret W3 hp.1 hp.2; exact ⟨_, _, e, .inr ⟨rfl, h⟩⟩
  | exit id => obtain ⟨w', e, h⟩ := leave (.exit id) W3 hp.1 hp.2; exact ⟨_, _, e, .inr ⟨rfl, h⟩⟩
  | goto t => obtain ⟨w', e, h⟩ := leave (.goto t) W3 hp.1 hp.2; exact ⟨_, _, e, .inr ⟨rfl, h⟩⟩
  | panic c => exact hp.elim
  | outgrown => exact hp.elim

theorem abides_own {β : Type} {A C : Nat} {J : β → World → Prop} (h : OwnFrom A J) (hA : A ≤ C) : AbidesFrom C J := fun s W W' row hs hg hr =>
  h s W W' row hs hg fun r e => by obtain ⟨h1, o, h2, h3⟩ := hr r e; exact ⟨by omega, o, h2, Obj.not_cells_of_walk h3⟩
theorem abides_blk {β : Type} {C k : Nat} {o : Obj} (ho : o.isWalk = false) : AbidesFrom C (fun (_ : β) W => W.heap[k]? = some o) := fun _ _ _ _ hs hg hr => (grownBy_keeps hg (fun r e => (hr r e).2) hs ho).trans hs
theorem abides_and {β : Type} {C : Nat} {J J' : β → World → Prop} (h : AbidesFrom C J) (h' : AbidesFrom C J') : AbidesFrom C (fun s W => J s W ∧ J' s W) := fun s W W' row hs hg hr => ⟨h s W W' row hs.1 hg hr, h' s W W' row hs.2 hg hr⟩
theorem abides_ex {β : Type} {γ : Type} {C : Nat} {J : γ → β → World → Prop} (h : ∀ c, AbidesFrom C (J c)) : AbidesFrom C (fun s W => ∃ c, J c s W) := fun s W W' row hs hg hr => by
  obtain ⟨c, hc⟩ := hs
  exact ⟨c, h c s W W' row hc hg hr⟩

/-- a range over a function, in no round of another -/
theorem range_is {g : Operand} {Q : Exit → Act → World → Prop} {a : Act} {w : World} (h1 : 1 ≤ n) {gf : Nat} {lb : Array Value} (hg : a.eval g = .func (.func gf) #[] lb) (eg : ∀ args w, (callFunc gf args).run P w = .ok (.enter gf args) w) (hseq : SeqIs (n - 1) P gf lb vs Kp w)
    (hKt : ∀ {A B C : World}, Kp A B → Kp B C → Kp A C) (hKb : ∀ (W : World) (l : Nat) (o o' : Obj), w.heap.size ≤ l → W.heap[l]? = some o → o.isCells = false → o.isWalk = false → Kp W (W.putObj l o')) (hps : ∀ i (h : i < vs.length), vs[i].size = ps.size)
    (I : Nat → World → Prop) (Ix : Code → Nat → World → Prop) (hI : OwnFrom w.heap.size I) (hIx : ∀ c, OwnFrom w.heap.size (Ix c)) (h0 : I 0 w) (Ax : Nat → Act → World → Prop) (hAx : ∀ i a', OwnFrom w.heap.size (fun (_ : Unit) W => Ax i a' W))
    (hassign : ∀ l i (h : i < vs.length) W (K : Act → World → Prop), I i W → (∀ a' W', KeepsFrom w.heap.size W W' → Kp W W' → I i W' → Ax i a' W' → K a' W') → assign.wpIn (Fence.wide.inRound l) (n - 1 - 1) P (Exit.then K (fun _ _ _ => False)) { tmps := (ps.zip vs[i]).foldl (fun t (p, v) => t.setIfInBounds p v) a.tmps, defers := [] } W)
    (hbody : ∀ l i (_ : i < vs.length) a' W, w.heap.size ≤ l → (∃ r, W.heap[l]? = some (.loop r)) → I i W → Ax i a' W → body.wpIn (Fence.wide.inRound l) (n - 1 - 1) P (seqPost w.heap.size Kp I Ix (i + 1) W) a' W)
    (hdone : ∀ D W, w.heap.size ≤ D → I vs.length W → W.heap[D]? = some (.deferred (some [])) → Q .normal { a with defers := { target := .collected D, args := #[] } :: a.defers } W)
    (hstop : ∀ D c i W, w.heap.size ≤ D → i ≤ vs.length → Ix c i W → W.heap[D]? = some (.deferred (some [])) → c.wpIn Fence.wide n P Q { a with defers := { target := .collected D, args := #[] } :: a.defers } W) :
    (Code.rangeFunc g ps assign body).wpIn Fence.wide n P Q a w := by
  refine wpIn_rangeFunc fun fn _ => ?_
  obtain ⟨W1, hW1⟩ : ∃ W1, (w.alloc (.deferred (some []))).alloc (.loop (recAt fn a.tmps ps assign body w.heap.size .ready none)) = W1 := ⟨_, rfl⟩
  have hs1 : W1.heap.size = w.heap.size + 1 + 1 := by rw [← hW1]; simp
  have l1 : W1.heap[w.heap.size + 1]? = some (.loop (recAt fn a.tmps ps assign body w.heap.size .ready none)) := by
    rw [← hW1]
    have := World.alloc_heap_new (w.alloc (.deferred (some []))) (.loop (recAt fn a.tmps ps assign body w.heap.size .ready none))
    rwa [World.size_alloc] at this
  have d1 : W1.heap[w.heap.size]? = some (.deferred (some [])) := by
    rw [← hW1]
    exact (Below.heap_alloc _ _ _ (by simp)).trans (World.alloc_heap_new w _)
  have i1 : I 0 W1 := by rw [← hW1]; exact hI.alloc _ (hI.alloc _ h0)
  have b1 : Below w.heap.size w W1 := by rw [← hW1]; exact (below1 w _).trans ((below1 _ _).mono (by simp))
  refine ⟨w.heap.size + 1, [{ target := .collected w.heap.size, args := #[] }], W1, { target := .fn (.func gf) lb, args := #[.func (.yield (w.heap.size + 1)) #[] #[]] }, W1, gf, #[.func (.yield (w.heap.size + 1)) #[] #[]] ++ lb, W1, ?_, ?_, fun _ _ => trivial, ?_, fun _ => h1, ?_⟩
  · rw [← hW1]
    exact run_enterLoop_outer _ _ _ _ _
  · simp only [resolve, hg]
    simp [go_sem]
  · simp [invoke, go_sem, eg]
  refine (hseq (w.heap.size + 1) (fun i W => I i W ∧ W.heap[w.heap.size + 1]? = some (.loop (recAt fn a.tmps ps assign body w.heap.size .ready none)) ∧ W.heap[w.heap.size]? = some (.deferred (some [])))
    (fun i W => ∃ c, Ix c i W ∧ W.heap[w.heap.size + 1]? = some (.loop (recAt fn a.tmps ps assign body w.heap.size .done (some c))) ∧ W.heap[w.heap.size]? = some (.deferred (some [])))
    W1 b1 (abides_and (abides_own hI (C := W1.heap.size) (by omega)) (abides_and (abides_blk rfl) (abides_blk rfl))) (abides_ex fun c => abides_and (abides_own (hIx c) (C := W1.heap.size) (by omega)) (abides_and (abides_blk rfl) (abides_blk rfl))) ?_ ⟨i1, l1, d1⟩).mono ?_
  · rintro i hi W ⟨hi1, hl, hd⟩
    exact one_round (Kp := Kp) (X := fun W => W.heap[w.heap.size]? = some (.deferred (some []))) (B := w.heap.size) (by omega) (fun W o h _ _ o' => (World.putObj_heap_other (by omega)).trans h) (fun W W' h k => k.same _ _ (Nat.le_refl _) h rfl) (fun h k => hKt h k) (fun W o o' h => hKb W _ o o' (by omega) h) hI hIx (hps i hi) (Ax i) (hAx i) hl hd
      (fun K hK => hassign _ i hi W K hi1 hK) (fun a' W' hr h h' => hbody _ i hi a' W' (by omega) hr h h')
  · rintro e W2 ⟨⟨v, rfl⟩, ⟨hi, hl, hd⟩ | ⟨i, hi', c, hi, hl, hd⟩⟩
    · exact ⟨none, _, run_endLoop hl (by simp), hdone _ _ (Nat.le_refl _) (hI.putObj _ hi (by omega) hl rfl) ((World.putObj_heap_other (by omega)).trans hd)⟩
    · exact ⟨some c, _, run_endLoop hl (by simp), hstop _ c i _ (Nat.le_refl _) hi' ((hIx c).putObj _ hi (by omega) hl rfl) ((World.putObj_heap_other (by omega)).trans hd)⟩

/-- within a round of another -/
theorem range_in {g : Operand} {Q : Exit → Act → World → Prop} {a : Act} {w : World} {l₀ : Nat} {r₀ : Loop} (hl₀ : w.heap[l₀]? = some (.loop r₀)) (h1 : 1 ≤ n) {gf : Nat} {lb : Array Value} (hg : a.eval g = .func (.func gf) #[] lb) (eg : ∀ args w, (callFunc gf args).run P w = .ok (.enter gf args) w) (hseq : SeqIs (n - 1) P gf lb vs Kp w)
    (hKt : ∀ {A B C : World}, Kp A B → Kp B C → Kp A C) (hKb : ∀ (W : World) (l : Nat) (o o' : Obj), w.heap.size ≤ l → W.heap[l]? = some o → o.isCells = false → o.isWalk = false → Kp W (W.putObj l o')) (hps : ∀ i (h : i < vs.length), vs[i].size = ps.size)
    (I : Nat → World → Prop) (Ix : Code → Nat → World → Prop) (hI : OwnFrom w.heap.size I) (hIx : ∀ c, OwnFrom w.heap.size (Ix c)) (h0 : I 0 w) (Ax : Nat → Act → World → Prop) (hAx : ∀ i a', OwnFrom w.heap.size (fun (_ : Unit) W => Ax i a' W))
    (hassign : ∀ l i (h : i < vs.length) W (K : Act → World → Prop), I i W → (∀ a' W', KeepsFrom w.heap.size W W' → Kp W W' → I i W' → Ax i a' W' → K a' W') → assign.wpIn (Fence.wide.inRound l) (n - 1 - 1) P (Exit.then K (fun _ _ _ => False)) { tmps := (ps.zip vs[i]).foldl (fun t (p, v) => t.setIfInBounds p v) a.tmps, defers := [] } W)
    (hbody : ∀ l i (_ : i < vs.length) a' W, w.heap.size ≤ l → (∃ r, W.heap[l]? = some (.loop r)) → I i W → Ax i a' W → body.wpIn (Fence.wide.inRound l) (n - 1 - 1) P (seqPost w.heap.size Kp I Ix (i + 1) W) a' W)
    (hdone : ∀ W, I vs.length W → Q .normal a W)
    (hstop : ∀ c i W, i ≤ vs.length → Ix c i W → c.wpIn (Fence.wide.inRound l₀) n P Q a W) :
    (Code.rangeFunc g ps assign body).wpIn (Fence.wide.inRound l₀) n P Q a w := by
  refine wpIn_rangeFunc fun fn _ => ?_
  obtain ⟨W1, hW1⟩ : ∃ W1, w.alloc (.loop (recAt fn a.tmps ps assign body r₀.defers .ready none)) = W1 := ⟨_, rfl⟩
  have hs1 : W1.heap.size = w.heap.size + 1 := by rw [← hW1]; simp
  have l1 : W1.heap[w.heap.size]? = some (.loop (recAt fn a.tmps ps assign body r₀.defers .ready none)) := by rw [← hW1]; exact World.alloc_heap_new _ _
  have i1 : I 0 W1 := by rw [← hW1]; exact hI.alloc _ h0
  have b1 : Below w.heap.size w W1 := by rw [← hW1]; exact below1 w _
  refine ⟨w.heap.size, [], W1, { target := .fn (.func gf) lb, args := #[.func (.yield w.heap.size) #[] #[]] }, W1, gf, #[.func (.yield w.heap.size) #[] #[]] ++ lb, W1, ?_, ?_, fun _ _ => trivial, ?_, fun _ => h1, ?_⟩
  · rw [← hW1]
    exact run_enterLoop_inner hl₀ _ _ _ _ _
  · simp only [resolve, hg]
    simp [go_sem]
  · simp [invoke, go_sem, eg]
  refine (CallsIn.inRound l₀ (hseq w.heap.size (fun i W => I i W ∧ W.heap[w.heap.size]? = some (.loop (recAt fn a.tmps ps assign body r₀.defers .ready none)) ∧ True)
    (fun i W => ∃ c, Ix c i W ∧ W.heap[w.heap.size]? = some (.loop (recAt fn a.tmps ps assign body r₀.defers .done (some c))) ∧ True)
    W1 b1 (abides_and (abides_own hI (C := W1.heap.size) (by omega)) (abides_and (abides_blk rfl) (fun _ _ _ _ h _ _ => h))) (abides_ex fun c => abides_and (abides_own (hIx c) (C := W1.heap.size) (by omega)) (abides_and (abides_blk rfl) (fun _ _ _ _ h _ _ => h))) ?_ ⟨i1, l1, trivial⟩)).mono ?_
  · rintro i hi W ⟨hi1, hl, hd⟩
    exact one_round (Kp := Kp) (X := fun _ => True) (B := w.heap.size) (Nat.le_refl _) (fun _ _ _ _ _ _ => trivial) (fun _ _ _ _ => trivial) (fun h k => hKt h k) (fun W o o' h => hKb W _ o o' (Nat.le_refl _) h) hI hIx (hps i hi) (Ax i) (hAx i) hl hd
      (fun K hK => hassign _ i hi W K hi1 hK) (fun a' W' hr h h' => hbody _ i hi a' W' (Nat.le_refl _) hr h h')
  · rintro e W2 ⟨⟨v, rfl⟩, ⟨hi, hl, hd⟩ | ⟨i, hi', c, hi, hl, hd⟩⟩
    · exact ⟨none, _, run_endLoop hl (by simp), hdone _ (hI.putObj _ hi (Nat.le_refl _) hl rfl)⟩
    · exact ⟨some c, _, run_endLoop hl (by simp), hstop c i _ hi' ((hIx c).putObj _ hi (Nat.le_refl _) hl rfl)⟩

end
end Go.Proofs.Ytcogiklnegpfiaa
