/- Spoil: a tree that lies apart, written over. -/
import Derived.Test.YtnclmlhmmljfgaaGreatDoorTm
namespace Go.Proofs.YtnclmlhmmljfgaaGreatDoor
open Go.RowKit

theorem node2_one : ∀ x ∈ ncs (zNd, .slice none 0 0) ++ ncs (zNd, .slice none 0 0), x.oneCell' = true := by
  intro x hx
  rcases List.mem_append.1 hx with h | h <;> exact node_one zNd rfl x h

theorem node2_new (w : World) : ∀ (j : Nat) (x : Value), (ncs (zNd, .slice none 0 0) ++ ncs (zNd, .slice none 0 0))[j]? = some x → (w.alloc (.cells #[.int .i64 0, .string ⟨#[]⟩, .int .i64 0, .string ⟨#[]⟩, .int .i64 0, .int .i64 0, .int .i64 0, .slice none 0 0, .int .i64 0, .string ⟨#[]⟩, .int .i64 0, .string ⟨#[]⟩, .int .i64 0, .int .i64 0, .int .i64 0, .slice none 0 0] 25)).cell? ((⟨w.heap.size, 0, none⟩ : Addr).add j) = some x := by
  intro j x hj
  have e : (⟨w.heap.size, 0, none⟩ : Addr).add j = ⟨w.heap.size, j, none⟩ := by unfold Addr.add; split <;> simp_all
  rw [e]
  have h1 := (MapKept.heap_alloc w (.cells #[.int .i64 0, .string ⟨#[]⟩, .int .i64 0, .string ⟨#[]⟩, .int .i64 0, .int .i64 0, .int .i64 0, .slice none 0 0, .int .i64 0, .string ⟨#[]⟩, .int .i64 0, .string ⟨#[]⟩, .int .i64 0, .int .i64 0, .int .i64 0, .slice none 0 0] 25 : Obj)).1
  simp only [World.cell?, h1]
  have : (ncs (zNd, Value.slice none 0 0) ++ ncs (zNd, Value.slice none 0 0)) = #[Value.int .i64 0, .string ⟨#[]⟩, .int .i64 0, .string ⟨#[]⟩, .int .i64 0, .int .i64 0, .int .i64 0, .slice none 0 0, .int .i64 0, .string ⟨#[]⟩, .int .i64 0, .string ⟨#[]⟩, .int .i64 0, .int .i64 0, .int .i64 0, .slice none 0 0].toList := rfl
  rw [this, Array.getElem?_toList] at hj
  exact hj

theorem own_blk2 {w : World} {B n : Nat} {v : Value} {xs : List Value} (h : w.ownsRow B 25 8 v (n + 2) xs) : ∃ g c cur, v = .slice (some ⟨g, 0, none⟩) (n + 2) c ∧ B ≤ g ∧ w.heap[g]? = some (.cells cur 25 (0, 0)) ∧ n + 2 ≤ c ∧ cur.size = c * 8 := by
  rcases h with ⟨_, ⟨_, h0⟩ | ⟨g, cap, cur, rfl, h1, h2, h3, _, h5, _⟩⟩
  · cases h0
  · exact ⟨g, cap, cur, rfl, h1, h2, h3, h5⟩

theorem own_blk2z {w : World} {B : Nat} {v : Value} {xs : List Value} (h : w.ownsRow B 25 8 v (0 + 2) xs) : ∃ g c cur, v = .slice (some ⟨g, 0, none⟩) 2 c ∧ B ≤ g ∧ w.heap[g]? = some (.cells cur 25 (0, 0)) ∧ 2 ≤ c ∧ cur.size = c * 8 := by
  rcases h with ⟨_, ⟨_, h0⟩ | ⟨g, cap, cur, rfl, h1, h2, h3, _, h5, _⟩⟩
  · cases h0
  · exact ⟨g, cap, cur, rfl, h1, h2, h3, h5⟩

def moreNd : Nd := ⟨0, ⟨#[109, 111, 114, 101]⟩, 0, ⟨#[]⟩, 0, 0, 0⟩
def notNd : Nd := ⟨0, ⟨#[110, 111, 116, 32, 121, 111, 117, 114, 115]⟩, 0, ⟨#[]⟩, 0, 0, 0⟩

theorem cell_of {w : World} {b i : Nat} {cur : Array Value} {T : TypeId} {v : Value} (h : w.heap[b]? = some (.cells cur T (0, 0))) (hv : cur[i]? = some v) : w.cell? ⟨b, i, none⟩ = some v := by
  simp only [World.cell?, h]
  simpa using hv
theorem froz_of {w : World} {b i : Nat} {cur : Array Value} {T : TypeId} (h : w.heap[b]? = some (.cells cur T (0, 0))) : w.frozen? ⟨b, i, none⟩ = false := by simp [World.frozen?, h]

theorem set_blk {w : World} {b i : Nat} {cur : Array Value} {T : TypeId} {v : Value} (h : w.heap[b]? = some (.cells cur T (0, 0))) : (w.setCell ⟨b, i, none⟩ v).heap[b]? = some (.cells (cur.setIfInBounds i v) T (0, 0)) := by simp [World.setCell, Array.getElem?_modify, h]

/-- what is left to be written over -/
def SpI (w wr : World) (lo hi g : Nat) (ks : List Tr) (k : Nat) : Prop := Ex (fun i => lo ≤ i ∧ i < hi) w wr ∧ ∃ cur l, wr.heap[g]? = some (.cells cur 25 (0, 0)) ∧ cur.size = ks.length * 8 ∧ g + 1 ≤ l ∧ l ≤ hi ∧ SepR wr l hi cur k (ks.drop k)

theorem spi_open {w wr : World} {lo hi g : Nat} {ks : List Tr} {k : Nat} (h : SpI w wr lo hi g ks k) (hk : k < ks.length) : ∃ cur l v mid, wr.heap[g]? = some (.cells cur 25 (0, 0)) ∧ cur.size = ks.length * 8 ∧ g + 1 ≤ l ∧ l ≤ mid ∧ mid ≤ hi ∧ cur[k * 8 + 7]? = some v ∧ SepT wr l mid v ks[k] ∧ SepR wr mid hi cur (k + 1) (ks.drop (k + 1)) := by
  obtain ⟨_, cur, l, h1, h2, h3, h4, h5⟩ := h
  rw [List.drop_eq_getElem_cons hk] at h5
  obtain ⟨v, mid, a1, a2, a3, a4, a5⟩ := h5
  exact ⟨cur, l, v, mid, h1, h2, h3, a2, a3, a1 7 v rfl, a4, a5⟩

theorem spi_step {w wr w5 w6 : World} {lo hi g l mid : Nat} {ks : List Tr} {k : Nat} {cur : Array Value} {v5 : Value} {vs : List Value} (h : SpI w wr lo hi g ks k) (hz : cur.size = ks.length * 8) (hlo : lo ≤ g) (hgh : g < hi) (hl : g + 1 ≤ l) (hm : l ≤ mid) (hh : mid ≤ hi) (hhi : hi ≤ wr.heap.size)
    (hr : SepR wr mid hi cur (k + 1) (ks.drop (k + 1))) (e5 : Ex (fun i => (l ≤ i ∧ i < mid) ∨ i = g) wr w5) (h5 : w5.heap[g]? = some (.cells (cur.setIfInBounds (k * 8 + 7) v5) 25 (0, 0))) (hw6 : w6 = w5.setCells g (k * 8) vs) (hvs : vs.length = 8) : SpI w w6 lo hi g ks (k + 1) := by
  subst hw6
  obtain ⟨cur', f1, f2, f3, _⟩ := blk_setCells vs (k * 8) h5
  have e6 := ex_setCells (g := g) vs w5 (k * 8)
  have hs := h.1.size
  have hs5 := e5.size
  have e56 : Ex (fun i => (l ≤ i ∧ i < mid) ∨ i = g) wr (w5.setCells g (k * 8) vs) := e5.trans (e6.mono fun i _ e => Or.inr e)
  refine ⟨h.1.trans (e56.mono fun i _ e => by omega), cur', mid, f1, by rw [f2, Array.size_setIfInBounds, hz], by omega, hh, hr.agree (fun x hx hx' => e56.block x (by omega) (by omega)) fun p hp hp' => ?_⟩
  rw [f3 p (by omega), Array.getElem?_setIfInBounds, if_neg (by omega)]

set_option maxRecDepth 100000 in
set_option maxHeartbeats 16000000 in
theorem spoil_all (n : Nat) (hn : n ≤ 65536) : ∀ (t : Tr) (w : World) (b o lo hi : Nat) (cur : Array Value) (v : Value) (T : TypeId), cnt t ≤ n → w.heap[b]? = some (.cells cur T (0, 0)) → cur[o + 7]? = some v → SepT w lo hi v t → lo ≤ hi → hi ≤ w.heap.size → ¬ (lo ≤ b ∧ b < hi) →
    Calls Tryz.prog 22 #[.pointer (some ⟨b, o, none⟩)] w fun e w' => e = .returned (.tuple #[]) ∧ Ex (fun i => (lo ≤ i ∧ i < hi) ∨ i = b) w w' ∧ ∃ v', w'.heap[b]? = some (.cells (cur.setIfInBounds (o + 7) v') T (0, 0)) := by
  induction n with
  | zero => intro t w b o lo hi cur v T h; have := cnt_pos t; omega
  | succ n ih =>
    intro t w b o lo hi cur v T hc hb hcv hsp hlh hhi hnb
    obtain ⟨i0, hi0, hz0, hz1, hz2⟩ := info_parts Tryz.infoN
    have hll : t.ks.length ≤ 65536 := by
      have h1 := len_le_cnts t.ks
      obtain ⟨f, ks⟩ := t
      unfold cnt at hc
      simp only [Tr.ks] at h1 ⊢
      omega
    have HIH := hide (ih (by omega))
    have HC := hide hc
    have HI0 := hide hi0
    have HZ0 := hide hz0
    have HZ1 := hide hz1
    have HZ2 := hide hz2
    have hbw0 : b < w.heap.size := (Array.getElem?_eq_some_iff.1 hb).1
    clear hc ih hi0 hz0 hz1 hz2
    rcases hsp.kidsv with ⟨hk0, rfl⟩ | ⟨hpos, g, cur0, rfl, hlg, hgh, hg0, hz0, hr0⟩
    · have HCV := hide hcv
      have kb0 := cell_of hb hcv
      clear hsp hcv hk0
      go_enter Tryz.func22, Tryz.ntmps22
      go_wp2
      go_loopw [2] (fun i wr => i = .int .i64 0 ∧ wr = w) (fun _ _ => 0)
      case atStart => exact ⟨rfl, rfl⟩
      case round =>
        obtain ⟨rfl, rfl⟩ := hrel
        have HRE := hide (Ex.refl (fun i => (lo ≤ i ∧ i < hi) ∨ i = b) wr)
        have hbb := hb
        have HOWN := hide (show ∀ i, Value.ownBlock (.slice none 0 0) = some i → lo ≤ i ∧ i < hi from fun i e => by cases e)
        have HFAR := hide (show ∀ g8 : Nat, ((some g8 : Option Nat) = Value.ownBlock (.slice none 0 0) ∨ some g8 = some (wr.drew.alloc (.cells #[.int .i64 0, .string ⟨#[]⟩, .int .i64 0, .string ⟨#[]⟩, .int .i64 0, .int .i64 0, .int .i64 0, .slice none 0 0, .int .i64 0, .string ⟨#[]⟩, .int .i64 0, .string ⟨#[]⟩, .int .i64 0, .int .i64 0, .int .i64 0, .slice none 0 0] 25)).heap.size) → g8 ≠ b from fun g8 e => by
          rcases e with e | e
          · cases e
          · have := Option.some.inj e; rw [World.size_alloc] at this; have h2 : wr.drew.heap.size = wr.heap.size := rfl; omega)
        have HNEW := hide (show ∀ g8 : Nat, ((some g8 : Option Nat) = Value.ownBlock (.slice none 0 0) ∨ some g8 = some (wr.drew.alloc (.cells #[.int .i64 0, .string ⟨#[]⟩, .int .i64 0, .string ⟨#[]⟩, .int .i64 0, .int .i64 0, .int .i64 0, .slice none 0 0, .int .i64 0, .string ⟨#[]⟩, .int .i64 0, .string ⟨#[]⟩, .int .i64 0, .int .i64 0, .int .i64 0, .slice none 0 0] 25)).heap.size) → ∀ i, i < wr.heap.size → i = g8 → lo ≤ i ∧ i < hi from fun g8 e i h1 h2 => by
          rcases e with e | e
          · cases e
          · have := Option.some.inj e; rw [World.size_alloc] at this; have h3 : wr.drew.heap.size = wr.heap.size := rfl; omega)
        have HOW : ∀ o', Hid ((wr.drew.alloc o').ownsRow lo 25 8 (.slice none 0 0) 0 []) := fun o' => hide (World.ownsRow_nil _ _ _ _)
        have HLO : ∀ o', Hid (lo ≤ (wr.drew.alloc o').heap.size) := fun o' => hide (by rw [World.size_alloc]; show lo ≤ wr.heap.size + 1; omega)
        have HM1 := hide (show 0 + 2 ≤ maxLen by unfold maxLen; omega)
        have HM2 := hide (show (0 + 2) * 96 ≤ 140737488355328 by omega)
        have hwp : IntKind.i64.wrap 1 = 1 := by decide
        have HNOB := hide (show some b ≠ Value.ownBlock (.slice none 0 0) from fun e => by cases e)
        have HBB := hide hbb
        have hbw : b < wr.heap.size := (Array.getElem?_eq_some_iff.1 hbb).1
        have kb := cell_of hbb (unhide HCV)
        have kb6 : ∀ o', (wr.alloc o').cell? ⟨b, o + 7, none⟩ = some (.slice none 0 0) := fun o' => (World.cell?_alloc_lt _ _ _ hbw).trans kb
        have kb7 : ∀ o', (wr.drew.alloc o').cell? ⟨b, o + 7, none⟩ = some (.slice none 0 0) := fun o' => (World.cell?_alloc_lt _ _ _ hbw).trans kb
        clear hbb
        clear hb
        go_wp2
        refine wp_region_held_drew (S := Ex (fun i => (lo ≤ i ∧ i < hi) ∨ i = b) wr) (by kernel_rfl) ?_ (fun hHeld => ?_)
        · exact Ex.drew _ _
        refine wpAnyH_take (i := 0) (oi := { dst := some 26, op := Op.move (Operand.tmp 0), type := 38, pos := "law.go:52", after := #[], guard := none }) (v := ?_) rfl (by kernel_rfl) (by kernel_rfl) (by kernel_rfl) (fun _ _ _ h => h) (Or.inl ⟨by rfl, ?_⟩) (by assumption) ?_
        rotate_left
        · intro wq hSw
          go_simp
          try (with_reducible rfl)
        go_frame
        refine wpAnyH_take (i := 1) (oi := { dst := some 27, op := Op.nilCheck (Operand.tmp 26), type := 0, pos := "law.go:52", after := #[{ on := 0, ground := Ground.data }], guard := none }) (v := ?_) rfl (by kernel_rfl) (by kernel_rfl) (by kernel_rfl) (fun _ _ _ h => h) (Or.inl ⟨by rfl, ?_⟩) (by assumption) ?_
        rotate_left
        · intro wq hSw
          go_simp
          try (with_reducible rfl)
        go_frame
        refine wpAnyH_take (i := 2) (oi := { dst := some 28, op := Op.fieldAddr 25 (Operand.tmp 27) 7, type := 0, pos := "law.go:52", after := #[{ on := 1, ground := Ground.data }], guard := none }) (v := ?_) rfl (by kernel_rfl) (by kernel_rfl) (by kernel_rfl) (fun _ _ _ h => h) (Or.inl ⟨by rfl, ?_⟩) (by assumption) ?_
        rotate_left
        · intro wq hSw
          go_simp
          try (with_reducible rfl)
        go_frame
        refine wpAnyH_take (i := 4) (oi := { dst := some 30, op := Op.build 25 #[(1, Operand.const (Value.string { data := #[109, 111, 114, 101] }))], type := 25, pos := "law.go:52", after := #[], guard := none }) (v := ?_) rfl (by kernel_rfl) (by kernel_rfl) (by kernel_rfl) (fun _ _ _ h => h) (Or.inl ⟨by rfl, ?_⟩) (by assumption) ?_
        rotate_left
        · intro wq hSw
          go_simp
          try (with_reducible rfl)
        go_frame
        refine wpAnyH_take (i := 5) (oi := { dst := some 31, op := Op.build 25 #[(1, Operand.const (Value.string { data := #[109, 111, 114, 101] }))], type := 25, pos := "law.go:52", after := #[], guard := none }) (v := ?_) rfl (by kernel_rfl) (by kernel_rfl) (by kernel_rfl) (fun _ _ _ h => h) (Or.inl ⟨by rfl, ?_⟩) (by assumption) ?_
        rotate_left
        · intro wq hSw
          go_simp
          try (with_reducible rfl)
        go_frame
        refine wpAnyH_ready (rs := [3, 7]) (by kernel_rfl) (by simp) ?_
        refine AllReadyH.cons (o := { dst := some 29, op := Op.load 23 (Operand.tmp 28), type := 23, pos := "law.go:52", after := #[{ on := 2, ground := Ground.data }], guard := none }) rfl (fun K hK => ?_) (AllReadyH.cons (o := { dst := some 33, op := Op.buildSlice 23 2 #[(0, Operand.const (Value.agg #[Value.int IntKind.i64 0, Value.string { data := #[] }, Value.int IntKind.i64 0, Value.string { data := #[] }, Value.int IntKind.i64 0, Value.int IntKind.i64 0, Value.int IntKind.i64 0, Value.slice none 0 0])), (1, Operand.const (Value.agg #[Value.int IntKind.i64 0, Value.string { data := #[] }, Value.int IntKind.i64 0, Value.string { data := #[] }, Value.int IntKind.i64 0, Value.int IntKind.i64 0, Value.int IntKind.i64 0, Value.slice none 0 0]))], type := 23, pos := "law.go:52", after := #[], guard := none }) rfl (fun K hK => ?_) AllReadyH.nil)
        · go_simp
          refine hK.out _ _ ?_ (fun hHeld => ?_)
          · exact hHeld
          clear hK K
          try go_frame
          refine wpAnyH_take (i := 6) (oi := { dst := some 32, op := Op.call { callee := Callee.builtin Builtin.len, args := #[Operand.tmp 29], argTypes := #[23] }, type := 3, pos := "law.go:52", after := #[{ on := 3, ground := Ground.data }], guard := none }) (v := ?_) rfl (by kernel_rfl) (by kernel_rfl) (by kernel_rfl) (fun _ _ _ h => h) (Or.inl ⟨by rfl, ?_⟩) (by assumption) ?_
          rotate_left
          · intro wq hSw
            go_simp
            try (with_reducible rfl)
          go_frame
          refine wpAnyH_take (i := 11) (oi := { dst := some 36, op := Op.binOp BinOp.add 3 (Operand.tmp 32) (Operand.const (Value.int IntKind.i64 1)) 3, type := 3, pos := "law.go:52", after := #[{ on := 6, ground := Ground.data }, { on := 16, ground := Ground.gcOnly Departure.appendInPlace }], guard := none }) (v := ?_) rfl (by kernel_rfl) (by kernel_rfl) (by kernel_rfl) (fun _ _ _ h => h) (Or.inl ⟨by rfl, ?_⟩) (by assumption) ?_
          rotate_left
          · intro wq hSw
            go_simp
            try (with_reducible rfl)
          go_frame
          refine wpAnyH_ready (rs := [7]) (by kernel_rfl) (by simp) ?_
          refine AllReadyH.cons (o := { dst := some 33, op := Op.buildSlice 23 2 #[(0, Operand.const (Value.agg #[Value.int IntKind.i64 0, Value.string { data := #[] }, Value.int IntKind.i64 0, Value.string { data := #[] }, Value.int IntKind.i64 0, Value.int IntKind.i64 0, Value.int IntKind.i64 0, Value.slice none 0 0])), (1, Operand.const (Value.agg #[Value.int IntKind.i64 0, Value.string { data := #[] }, Value.int IntKind.i64 0, Value.string { data := #[] }, Value.int IntKind.i64 0, Value.int IntKind.i64 0, Value.int IntKind.i64 0, Value.slice none 0 0]))], type := 23, pos := "law.go:52", after := #[], guard := none }) rfl (fun K hK => ?_) AllReadyH.nil
          go_simp
          refine hK.out _ _ ?_ (fun hHeld => ?_)
          · exact hHeld.trans (Ex.of_below ((Below.refl _ _).alloc (Nat.le_refl _) _))
          clear hK K
          try go_frame
          refine wpAnyH_ready (rs := [8]) (by kernel_rfl) (by simp) ?_
          refine AllReadyH.cons (o := { dst := some 34, op := Op.call { callee := Callee.builtin Builtin.append, args := #[Operand.tmp 29, Operand.tmp 33], argTypes := #[23, 23] }, type := 23, pos := "law.go:52", after := #[{ on := 3, ground := Ground.data }, { on := 7, ground := Ground.data }, { on := 0, ground := Ground.phase }, { on := 1, ground := Ground.phase }, { on := 2, ground := Ground.phase }, { on := 3, ground := Ground.phase }, { on := 4, ground := Ground.phase }, { on := 5, ground := Ground.phase }, { on := 6, ground := Ground.phase }, { on := 7, ground := Ground.phase }], guard := none }) rfl (fun K hK => ?_) AllReadyH.nil
          refine step_append_at rfl (.tmp 29) (.tmp 33) 23 rfl lo 25 i0 (.agg #[.int .i64 0, .string ⟨#[]⟩, .int .i64 0, .string ⟨#[]⟩, .int .i64 0, .int .i64 0, .int .i64 0, .slice none 0 0]) 8 96 Tryz.underlying23 (unhide HI0) (unhide HZ0) (unhide HZ1) (unhide HZ2) rfl (by decide) (.slice none 0 0) 0 [] rfl (unhide (HOW _)) ⟨wr.drew.heap.size, 0, none⟩ 2 2 (ncs (zNd, .slice none 0 0) ++ ncs (zNd, .slice none 0 0)) rfl rfl (node2_new wr.drew) node2_one (unhide HM1) (unhide HM2) (unhide (HLO _)) ?_
          intro v7 w7 ho7 hg7 hl7
          obtain ⟨g8, c8, cur8, rfl, hlo8, hg8, hle8, hz8⟩ := own_blk2z ho7
          have hne8 : g8 ≠ b := unhide HFAR _ hl7
          have hX8 : ∀ i, i < wr.heap.size → i = g8 → (lo ≤ i ∧ i < hi) ∨ i = b := fun i h1 h2 => Or.inl (unhide HNEW _ hl7 i h1 h2)
          have HX8 := hide hX8
          have hb7 : w7.heap[b]? = some (.cells cur T (0, 0)) := (hg7.block b (by show b < (wr.alloc _).heap.size; rw [World.size_alloc]; omega) (unhide HNOB)).trans (((Below.refl wr.drew.heap.size wr.drew).alloc (Nat.le_refl _) _).block b hbw |>.trans (unhide HBB))
          have HB7 := hide hb7
          have HG8 := hide hg8
          have HE7 := hide (show Ex (fun i => (lo ≤ i ∧ i < hi) ∨ i = b) _ w7 from Ex.of_grown hg7 fun i e => Or.inl (unhide HOWN i e))
          have HZ8 := hide hz8
          have HLE := hide hle8
          have HBL7 := hide (show b < w7.heap.size from Nat.lt_of_lt_of_le (by show b < (wr.alloc _).heap.size; rw [World.size_alloc]; omega) hg7.size)
          clear ho7 hg7 hl7 hX8 hb7 hg8 hz8 hlo8
          refine hK.out _ _ ?_ (fun hHeld => ?_)
          · exact hHeld.trans (unhide HE7)
          clear hK K
          try go_frame
          refine wpAnyH_take (i := 9) (oi := { dst := some 35, op := Op.indexAddr 23 (Operand.tmp 34) (Operand.tmp 32), type := 0, pos := "law.go:52", after := #[{ on := 8, ground := Ground.data }, { on := 6, ground := Ground.data }, { on := 0, ground := Ground.phase }, { on := 1, ground := Ground.phase }, { on := 2, ground := Ground.phase }, { on := 3, ground := Ground.phase }, { on := 4, ground := Ground.phase }, { on := 5, ground := Ground.phase }, { on := 6, ground := Ground.phase }, { on := 7, ground := Ground.phase }, { on := 8, ground := Ground.phase }, { on := 16, ground := Ground.gcOnly Departure.appendInPlace }], guard := none }) (v := ?_) rfl (by kernel_rfl) (by kernel_rfl) (by kernel_rfl) (fun _ _ _ h => h) (Or.inl ⟨by rfl, ?_⟩) (by assumption) ?_
          rotate_left
          · intro wq hSw
            go_simp
            try (with_reducible rfl)
          go_frame
          refine wpAnyH_take (i := 14) (oi := { dst := some 38, op := Op.nilCheck (Operand.tmp 26), type := 0, pos := "law.go:52", after := #[{ on := 0, ground := Ground.data }, { on := 0, ground := Ground.phase }, { on := 1, ground := Ground.phase }, { on := 2, ground := Ground.phase }, { on := 3, ground := Ground.phase }, { on := 4, ground := Ground.phase }, { on := 5, ground := Ground.phase }, { on := 6, ground := Ground.phase }, { on := 7, ground := Ground.phase }, { on := 8, ground := Ground.phase }, { on := 9, ground := Ground.textOnly Departure.appendInPlace }, { on := 10, ground := Ground.textOnly Departure.appendInPlace }, { on := 11, ground := Ground.textOnly Departure.appendInPlace }, { on := 12, ground := Ground.textOnly Departure.appendInPlace }, { on := 13, ground := Ground.textOnly Departure.appendInPlace }], guard := none }) (v := ?_) rfl (by kernel_rfl) (by kernel_rfl) (by kernel_rfl) (fun _ _ _ h => h) (Or.inl ⟨by rfl, ?_⟩) (by assumption) ?_
          rotate_left
          · intro wq hSw
            go_simp
            try (with_reducible rfl)
          go_frame
          refine wpAnyH_take (i := 15) (oi := { dst := some 39, op := Op.fieldAddr 25 (Operand.tmp 38) 7, type := 0, pos := "law.go:52", after := #[{ on := 14, ground := Ground.data }, { on := 0, ground := Ground.phase }, { on := 1, ground := Ground.phase }, { on := 2, ground := Ground.phase }, { on := 3, ground := Ground.phase }, { on := 4, ground := Ground.phase }, { on := 5, ground := Ground.phase }, { on := 6, ground := Ground.phase }, { on := 7, ground := Ground.phase }, { on := 8, ground := Ground.phase }, { on := 9, ground := Ground.textOnly Departure.appendInPlace }, { on := 10, ground := Ground.textOnly Departure.appendInPlace }, { on := 11, ground := Ground.textOnly Departure.appendInPlace }, { on := 12, ground := Ground.textOnly Departure.appendInPlace }, { on := 13, ground := Ground.textOnly Departure.appendInPlace }], guard := none }) (v := ?_) rfl (by kernel_rfl) (by kernel_rfl) (by kernel_rfl) (fun _ _ _ h => h) (Or.inl ⟨by rfl, ?_⟩) (by assumption) ?_
          rotate_left
          · intro wq hSw
            go_simp
            try (with_reducible rfl)
          go_frame
          refine wpAnyH_ready (rs := [10, 16]) (by kernel_rfl) (by simp) ?_
          refine AllReadyH.cons (o := { dst := none, op := Op.store 25 (Operand.tmp 35) (Operand.tmp 30), type := 0, pos := "law.go:52", after := #[{ on := 9, ground := Ground.data }, { on := 4, ground := Ground.data }, { on := 8, ground := Ground.chain }, { on := 0, ground := Ground.phase }, { on := 1, ground := Ground.phase }, { on := 2, ground := Ground.phase }, { on := 3, ground := Ground.phase }, { on := 4, ground := Ground.phase }, { on := 5, ground := Ground.phase }, { on := 6, ground := Ground.phase }, { on := 7, ground := Ground.phase }, { on := 8, ground := Ground.phase }, { on := 16, ground := Ground.gcOnly Departure.appendInPlace }], guard := none }) rfl (fun K hK => ?_) (AllReadyH.cons (o := { dst := none, op := Op.store 23 (Operand.tmp 39) (Operand.tmp 34), type := 0, pos := "law.go:52", after := #[{ on := 15, ground := Ground.data }, { on := 8, ground := Ground.data }, { on := 8, ground := Ground.chain }, { on := 13, ground := Ground.textOnly Departure.appendInPlace }, { on := 0, ground := Ground.phase }, { on := 1, ground := Ground.phase }, { on := 2, ground := Ground.phase }, { on := 3, ground := Ground.phase }, { on := 4, ground := Ground.phase }, { on := 5, ground := Ground.phase }, { on := 6, ground := Ground.phase }, { on := 7, ground := Ground.phase }, { on := 8, ground := Ground.phase }, { on := 9, ground := Ground.textOnly Departure.appendInPlace }, { on := 10, ground := Ground.textOnly Departure.appendInPlace }, { on := 11, ground := Ground.textOnly Departure.appendInPlace }, { on := 12, ground := Ground.textOnly Departure.appendInPlace }, { on := 13, ground := Ground.textOnly Departure.appendInPlace }], guard := none }) rfl (fun K hK => ?_) AllReadyH.nil)
          · refine step_store rfl (.tmp 35) (.tmp 30) 25 rfl g8 (0) #[.int .i64 0, .string ⟨#[109, 111, 114, 101]⟩, .int .i64 0, .string ⟨#[]⟩, .int .i64 0, .int .i64 0, .int .i64 0, .slice none 0 0] rfl rfl (there_of (n := 8) (unhide HG8) (by have := unhide HLE; have := unhide HZ8; omega)) Tryz.sizeN (all_oneCell_toArray (node_one moreNd rfl)) ?_
            intro w9 hw
            obtain ⟨cur_w9, h1_w9, h2_w9, _, _⟩ := blk_setCells #[.int .i64 0, .string ⟨#[109, 111, 114, 101]⟩, .int .i64 0, .string ⟨#[]⟩, .int .i64 0, .int .i64 0, .int .i64 0, .slice none 0 0].toList (0) (unhide HG8)
            have HG_w9 : Hid (w9.heap[g8]? = some (.cells cur_w9 25 (0, 0))) := hide (by rw [hw]; exact h1_w9)
            have HS_w9 := hide h2_w9
            have HE_w9 : Hid (Ex (fun i => i = g8) w7 w9) := hide (by rw [hw]; exact ex_setCells _ _ _)
            have HZ_w9 : Hid (w9.heap.size = (w7).heap.size) := hide (by rw [hw]; exact size_setCells _ _ _)
            clear hw h1_w9 h2_w9
            refine hK.out _ _ ?_ (fun hHeld => ?_)
            · exact hHeld.trans' (unhide HE_w9) (unhide HX8)
            clear hK K
            try go_frame
            refine wpAnyH_take (i := 12) (oi := { dst := some 37, op := Op.indexAddr 23 (Operand.tmp 34) (Operand.tmp 36), type := 0, pos := "law.go:52", after := #[{ on := 8, ground := Ground.data }, { on := 11, ground := Ground.data }, { on := 0, ground := Ground.phase }, { on := 1, ground := Ground.phase }, { on := 2, ground := Ground.phase }, { on := 3, ground := Ground.phase }, { on := 4, ground := Ground.phase }, { on := 5, ground := Ground.phase }, { on := 6, ground := Ground.phase }, { on := 7, ground := Ground.phase }, { on := 8, ground := Ground.phase }, { on := 9, ground := Ground.phase }, { on := 10, ground := Ground.phase }, { on := 11, ground := Ground.phase }, { on := 16, ground := Ground.gcOnly Departure.appendInPlace }], guard := none }) (v := ?_) rfl (by kernel_rfl) (by kernel_rfl) (by kernel_rfl) (fun _ _ _ h => h) (Or.inl ⟨by rfl, ?_⟩) (by assumption) ?_
            rotate_left
            · intro wq hSw
              go_simp
              try (with_reducible rfl)
            go_frame
            have HB9 : Hid (w9.heap[b]? = some (.cells cur T (0, 0))) := hide (((unhide HE_w9).block b (unhide HBL7) (Ne.symm hne8)).trans (unhide HB7))
            refine wpAnyH_ready (rs := [13, 16]) (by kernel_rfl) (by simp) ?_
            refine AllReadyH.cons (o := { dst := none, op := Op.store 25 (Operand.tmp 37) (Operand.tmp 31), type := 0, pos := "law.go:52", after := #[{ on := 12, ground := Ground.data }, { on := 5, ground := Ground.data }, { on := 10, ground := Ground.chain }, { on := 0, ground := Ground.phase }, { on := 1, ground := Ground.phase }, { on := 2, ground := Ground.phase }, { on := 3, ground := Ground.phase }, { on := 4, ground := Ground.phase }, { on := 5, ground := Ground.phase }, { on := 6, ground := Ground.phase }, { on := 7, ground := Ground.phase }, { on := 8, ground := Ground.phase }, { on := 9, ground := Ground.phase }, { on := 10, ground := Ground.phase }, { on := 11, ground := Ground.phase }, { on := 16, ground := Ground.gcOnly Departure.appendInPlace }], guard := none }) rfl (fun K hK => ?_) (AllReadyH.cons (o := { dst := none, op := Op.store 23 (Operand.tmp 39) (Operand.tmp 34), type := 0, pos := "law.go:52", after := #[{ on := 15, ground := Ground.data }, { on := 8, ground := Ground.data }, { on := 8, ground := Ground.chain }, { on := 13, ground := Ground.textOnly Departure.appendInPlace }, { on := 0, ground := Ground.phase }, { on := 1, ground := Ground.phase }, { on := 2, ground := Ground.phase }, { on := 3, ground := Ground.phase }, { on := 4, ground := Ground.phase }, { on := 5, ground := Ground.phase }, { on := 6, ground := Ground.phase }, { on := 7, ground := Ground.phase }, { on := 8, ground := Ground.phase }, { on := 9, ground := Ground.textOnly Departure.appendInPlace }, { on := 10, ground := Ground.textOnly Departure.appendInPlace }, { on := 11, ground := Ground.textOnly Departure.appendInPlace }, { on := 12, ground := Ground.textOnly Departure.appendInPlace }, { on := 13, ground := Ground.textOnly Departure.appendInPlace }], guard := none }) rfl (fun K hK => ?_) AllReadyH.nil)
            · refine step_store rfl (.tmp 37) (.tmp 31) 25 rfl g8 (8) #[.int .i64 0, .string ⟨#[109, 111, 114, 101]⟩, .int .i64 0, .string ⟨#[]⟩, .int .i64 0, .int .i64 0, .int .i64 0, .slice none 0 0] rfl rfl (there_of (n := 8) (unhide HG_w9) (by have := unhide HLE; have := unhide HZ8; have := unhide HS_w9; omega)) Tryz.sizeN (all_oneCell_toArray (node_one moreNd rfl)) ?_
              intro w10 hw
              obtain ⟨cur_w10, h1_w10, h2_w10, _, _⟩ := blk_setCells #[.int .i64 0, .string ⟨#[109, 111, 114, 101]⟩, .int .i64 0, .string ⟨#[]⟩, .int .i64 0, .int .i64 0, .int .i64 0, .slice none 0 0].toList (8) (unhide HG_w9)
              have HG_w10 : Hid (w10.heap[g8]? = some (.cells cur_w10 25 (0, 0))) := hide (by rw [hw]; exact h1_w10)
              have HS_w10 := hide h2_w10
              have HE_w10 : Hid (Ex (fun i => i = g8) w9 w10) := hide (by rw [hw]; exact ex_setCells _ _ _)
              have HZ_w10 : Hid (w10.heap.size = (w9).heap.size) := hide (by rw [hw]; exact size_setCells _ _ _)
              clear hw h1_w10 h2_w10
              refine hK.out _ _ ?_ (fun hHeld => ?_)
              · exact hHeld.trans' (unhide HE_w10) (unhide HX8)
              clear hK K
              try go_frame
              have hb10 : w10.heap[b]? = some (.cells cur T (0, 0)) := ((unhide HE_w10).block b (by have := unhide HZ_w9; have := unhide HBL7; omega) (Ne.symm hne8)).trans (unhide HB9)
              have k10 := cell_of hb10 (unhide HCV)
              have f10 : w10.frozen? ⟨b, o + 7, none⟩ = false := froz_of hb10
              have HB10 := hide hb10
              clear hb10
              refine wpAnyH_ready (rs := [16]) (by kernel_rfl) (by simp) ?_
              refine AllReadyH.cons (o := { dst := none, op := Op.store 23 (Operand.tmp 39) (Operand.tmp 34), type := 0, pos := "law.go:52", after := #[{ on := 15, ground := Ground.data }, { on := 8, ground := Ground.data }, { on := 8, ground := Ground.chain }, { on := 13, ground := Ground.textOnly Departure.appendInPlace }, { on := 0, ground := Ground.phase }, { on := 1, ground := Ground.phase }, { on := 2, ground := Ground.phase }, { on := 3, ground := Ground.phase }, { on := 4, ground := Ground.phase }, { on := 5, ground := Ground.phase }, { on := 6, ground := Ground.phase }, { on := 7, ground := Ground.phase }, { on := 8, ground := Ground.phase }, { on := 9, ground := Ground.textOnly Departure.appendInPlace }, { on := 10, ground := Ground.textOnly Departure.appendInPlace }, { on := 11, ground := Ground.textOnly Departure.appendInPlace }, { on := 12, ground := Ground.textOnly Departure.appendInPlace }, { on := 13, ground := Ground.textOnly Departure.appendInPlace }], guard := none }) rfl (fun K hK => ?_) AllReadyH.nil
              go_simp
              refine hK.out _ _ ?_ (fun hHeld => ?_)
              · exact hHeld.trans (Ex.setCell _ _ _ _ (Or.inr rfl))
              clear hK K
              try go_frame
              refine wpAnyH_done (by kernel_rfl) ?_ _
              go_end0
              exact ⟨rfl, (unhide HRE).trans hHeld, _, set_blk (unhide HB10)⟩
            · have k9 := cell_of (unhide HB9) (unhide HCV)
              have f9 : w9.frozen? ⟨b, o + 7, none⟩ = false := froz_of (unhide HB9)
              go_simp
              refine hK.out _ _ ?_ (fun hHeld => ?_)
              · exact hHeld.trans (Ex.setCell _ _ _ _ (Or.inr rfl))
              clear hK K
              try go_frame
              have HGs : Hid ((w9.setCell ⟨b, o + 7, none⟩ (.slice (some ⟨g8, 0, none⟩) 2 c8)).heap[g8]? = some (.cells cur_w9 25 (0, 0))) := hide ((Below.heap_setCell _ _ _ _ hne8).trans (unhide HG_w9))
              refine wpAnyH_ready (rs := [13]) (by kernel_rfl) (by simp) ?_
              refine AllReadyH.cons (o := { dst := none, op := Op.store 25 (Operand.tmp 37) (Operand.tmp 31), type := 0, pos := "law.go:52", after := #[{ on := 12, ground := Ground.data }, { on := 5, ground := Ground.data }, { on := 10, ground := Ground.chain }, { on := 0, ground := Ground.phase }, { on := 1, ground := Ground.phase }, { on := 2, ground := Ground.phase }, { on := 3, ground := Ground.phase }, { on := 4, ground := Ground.phase }, { on := 5, ground := Ground.phase }, { on := 6, ground := Ground.phase }, { on := 7, ground := Ground.phase }, { on := 8, ground := Ground.phase }, { on := 9, ground := Ground.phase }, { on := 10, ground := Ground.phase }, { on := 11, ground := Ground.phase }, { on := 16, ground := Ground.gcOnly Departure.appendInPlace }], guard := none }) rfl (fun K hK => ?_) AllReadyH.nil
              refine step_store rfl (.tmp 37) (.tmp 31) 25 rfl g8 (8) #[.int .i64 0, .string ⟨#[109, 111, 114, 101]⟩, .int .i64 0, .string ⟨#[]⟩, .int .i64 0, .int .i64 0, .int .i64 0, .slice none 0 0] rfl rfl (there_of (n := 8) (unhide HGs) (by have := unhide HLE; have := unhide HZ8; have := unhide HS_w9; omega)) Tryz.sizeN (all_oneCell_toArray (node_one moreNd rfl)) ?_
              intro w10 hw
              obtain ⟨cur_w10, h1_w10, h2_w10, _, _⟩ := blk_setCells #[.int .i64 0, .string ⟨#[109, 111, 114, 101]⟩, .int .i64 0, .string ⟨#[]⟩, .int .i64 0, .int .i64 0, .int .i64 0, .slice none 0 0].toList (8) (unhide HGs)
              have HG_w10 : Hid (w10.heap[g8]? = some (.cells cur_w10 25 (0, 0))) := hide (by rw [hw]; exact h1_w10)
              have HS_w10 := hide h2_w10
              have HE_w10 : Hid (Ex (fun i => i = g8) (w9.setCell ⟨b, o + 7, none⟩ (.slice (some ⟨g8, 0, none⟩) 2 c8)) w10) := hide (by rw [hw]; exact ex_setCells _ _ _)
              have HZ_w10 : Hid (w10.heap.size = ((w9.setCell ⟨b, o + 7, none⟩ (.slice (some ⟨g8, 0, none⟩) 2 c8))).heap.size) := hide (by rw [hw]; exact size_setCells _ _ _)
              clear hw h1_w10 h2_w10
              refine hK.out _ _ ?_ (fun hHeld => ?_)
              · exact hHeld.trans' (unhide HE_w10) (unhide HX8)
              clear hK K
              try go_frame
              refine wpAnyH_done (by kernel_rfl) ?_ _
              go_end0
              exact ⟨rfl, (unhide HRE).trans hHeld, _, ((unhide HE_w10).block b (by have := unhide HZ_w9; have := unhide HBL7; simp [World.setCell]; omega) (Ne.symm hne8)).trans (set_blk (unhide HB9))⟩
          · have k7 := cell_of (unhide HB7) (unhide HCV)
            have f7 : w7.frozen? ⟨b, o + 7, none⟩ = false := froz_of (unhide HB7)
            go_simp
            refine hK.out _ _ ?_ (fun hHeld => ?_)
            · exact hHeld.trans (Ex.setCell _ _ _ _ (Or.inr rfl))
            clear hK K
            try go_frame
            have HGs : Hid ((w7.setCell ⟨b, o + 7, none⟩ (.slice (some ⟨g8, 0, none⟩) 2 c8)).heap[g8]? = some (.cells cur8 25 (0, 0))) := hide ((Below.heap_setCell _ _ _ _ hne8).trans (unhide HG8))
            refine wpAnyH_ready (rs := [10]) (by kernel_rfl) (by simp) ?_
            refine AllReadyH.cons (o := { dst := none, op := Op.store 25 (Operand.tmp 35) (Operand.tmp 30), type := 0, pos := "law.go:52", after := #[{ on := 9, ground := Ground.data }, { on := 4, ground := Ground.data }, { on := 8, ground := Ground.chain }, { on := 0, ground := Ground.phase }, { on := 1, ground := Ground.phase }, { on := 2, ground := Ground.phase }, { on := 3, ground := Ground.phase }, { on := 4, ground := Ground.phase }, { on := 5, ground := Ground.phase }, { on := 6, ground := Ground.phase }, { on := 7, ground := Ground.phase }, { on := 8, ground := Ground.phase }, { on := 16, ground := Ground.gcOnly Departure.appendInPlace }], guard := none }) rfl (fun K hK => ?_) AllReadyH.nil
            refine step_store rfl (.tmp 35) (.tmp 30) 25 rfl g8 (0) #[.int .i64 0, .string ⟨#[109, 111, 114, 101]⟩, .int .i64 0, .string ⟨#[]⟩, .int .i64 0, .int .i64 0, .int .i64 0, .slice none 0 0] rfl rfl (there_of (n := 8) (unhide HGs) (by have := unhide HLE; have := unhide HZ8; omega)) Tryz.sizeN (all_oneCell_toArray (node_one moreNd rfl)) ?_
            intro w9 hw
            obtain ⟨cur_w9, h1_w9, h2_w9, _, _⟩ := blk_setCells #[.int .i64 0, .string ⟨#[109, 111, 114, 101]⟩, .int .i64 0, .string ⟨#[]⟩, .int .i64 0, .int .i64 0, .int .i64 0, .slice none 0 0].toList (0) (unhide HGs)
            have HG_w9 : Hid (w9.heap[g8]? = some (.cells cur_w9 25 (0, 0))) := hide (by rw [hw]; exact h1_w9)
            have HS_w9 := hide h2_w9
            have HE_w9 : Hid (Ex (fun i => i = g8) (w7.setCell ⟨b, o + 7, none⟩ (.slice (some ⟨g8, 0, none⟩) 2 c8)) w9) := hide (by rw [hw]; exact ex_setCells _ _ _)
            have HZ_w9 : Hid (w9.heap.size = ((w7.setCell ⟨b, o + 7, none⟩ (.slice (some ⟨g8, 0, none⟩) 2 c8))).heap.size) := hide (by rw [hw]; exact size_setCells _ _ _)
            clear hw h1_w9 h2_w9
            refine hK.out _ _ ?_ (fun hHeld => ?_)
            · exact hHeld.trans' (unhide HE_w9) (unhide HX8)
            clear hK K
            try go_frame
            refine wpAnyH_take (i := 12) (oi := { dst := some 37, op := Op.indexAddr 23 (Operand.tmp 34) (Operand.tmp 36), type := 0, pos := "law.go:52", after := #[{ on := 8, ground := Ground.data }, { on := 11, ground := Ground.data }, { on := 0, ground := Ground.phase }, { on := 1, ground := Ground.phase }, { on := 2, ground := Ground.phase }, { on := 3, ground := Ground.phase }, { on := 4, ground := Ground.phase }, { on := 5, ground := Ground.phase }, { on := 6, ground := Ground.phase }, { on := 7, ground := Ground.phase }, { on := 8, ground := Ground.phase }, { on := 9, ground := Ground.phase }, { on := 10, ground := Ground.phase }, { on := 11, ground := Ground.phase }, { on := 16, ground := Ground.gcOnly Departure.appendInPlace }], guard := none }) (v := ?_) rfl (by kernel_rfl) (by kernel_rfl) (by kernel_rfl) (fun _ _ _ h => h) (Or.inl ⟨by rfl, ?_⟩) (by assumption) ?_
            rotate_left
            · intro wq hSw
              go_simp
              try (with_reducible rfl)
            go_frame
            refine wpAnyH_ready (rs := [13]) (by kernel_rfl) (by simp) ?_
            refine AllReadyH.cons (o := { dst := none, op := Op.store 25 (Operand.tmp 37) (Operand.tmp 31), type := 0, pos := "law.go:52", after := #[{ on := 12, ground := Ground.data }, { on := 5, ground := Ground.data }, { on := 10, ground := Ground.chain }, { on := 0, ground := Ground.phase }, { on := 1, ground := Ground.phase }, { on := 2, ground := Ground.phase }, { on := 3, ground := Ground.phase }, { on := 4, ground := Ground.phase }, { on := 5, ground := Ground.phase }, { on := 6, ground := Ground.phase }, { on := 7, ground := Ground.phase }, { on := 8, ground := Ground.phase }, { on := 9, ground := Ground.phase }, { on := 10, ground := Ground.phase }, { on := 11, ground := Ground.phase }, { on := 16, ground := Ground.gcOnly Departure.appendInPlace }], guard := none }) rfl (fun K hK => ?_) AllReadyH.nil
            refine step_store rfl (.tmp 37) (.tmp 31) 25 rfl g8 (8) #[.int .i64 0, .string ⟨#[109, 111, 114, 101]⟩, .int .i64 0, .string ⟨#[]⟩, .int .i64 0, .int .i64 0, .int .i64 0, .slice none 0 0] rfl rfl (there_of (n := 8) (unhide HG_w9) (by have := unhide HLE; have := unhide HZ8; have := unhide HS_w9; omega)) Tryz.sizeN (all_oneCell_toArray (node_one moreNd rfl)) ?_
            intro w10 hw
            obtain ⟨cur_w10, h1_w10, h2_w10, _, _⟩ := blk_setCells #[.int .i64 0, .string ⟨#[109, 111, 114, 101]⟩, .int .i64 0, .string ⟨#[]⟩, .int .i64 0, .int .i64 0, .int .i64 0, .slice none 0 0].toList (8) (unhide HG_w9)
            have HG_w10 : Hid (w10.heap[g8]? = some (.cells cur_w10 25 (0, 0))) := hide (by rw [hw]; exact h1_w10)
            have HS_w10 := hide h2_w10
            have HE_w10 : Hid (Ex (fun i => i = g8) w9 w10) := hide (by rw [hw]; exact ex_setCells _ _ _)
            have HZ_w10 : Hid (w10.heap.size = (w9).heap.size) := hide (by rw [hw]; exact size_setCells _ _ _)
            clear hw h1_w10 h2_w10
            refine hK.out _ _ ?_ (fun hHeld => ?_)
            · exact hHeld.trans' (unhide HE_w10) (unhide HX8)
            clear hK K
            try go_frame
            refine wpAnyH_done (by kernel_rfl) ?_ _
            go_end0
            exact ⟨rfl, (unhide HRE).trans hHeld, _, ((unhide HE_w10).block b (by rw [show w9.heap.size = w7.heap.size by rw [unhide HZ_w9]; simp [World.setCell]]; exact unhide HBL7) (Ne.symm hne8)).trans (((unhide HE_w9).block b (by simp [World.setCell]; exact unhide HBL7) (Ne.symm hne8)).trans (set_blk (unhide HB7)))⟩
        · go_simp
          refine hK.out _ _ ?_ (fun hHeld => ?_)
          · exact hHeld.trans (Ex.of_below ((Below.refl _ _).alloc (Nat.le_refl _) _))
          clear hK K
          try go_frame
          refine wpAnyH_ready (rs := [3]) (by kernel_rfl) (by simp) ?_
          refine AllReadyH.cons (o := { dst := some 29, op := Op.load 23 (Operand.tmp 28), type := 23, pos := "law.go:52", after := #[{ on := 2, ground := Ground.data }], guard := none }) rfl (fun K hK => ?_) AllReadyH.nil
          go_simp
          refine hK.out _ _ ?_ (fun hHeld => ?_)
          · exact hHeld
          clear hK K
          try go_frame
          refine wpAnyH_take (i := 6) (oi := { dst := some 32, op := Op.call { callee := Callee.builtin Builtin.len, args := #[Operand.tmp 29], argTypes := #[23] }, type := 3, pos := "law.go:52", after := #[{ on := 3, ground := Ground.data }], guard := none }) (v := ?_) rfl (by kernel_rfl) (by kernel_rfl) (by kernel_rfl) (fun _ _ _ h => h) (Or.inl ⟨by rfl, ?_⟩) (by assumption) ?_
          rotate_left
          · intro wq hSw
            go_simp
            try (with_reducible rfl)
          go_frame
          refine wpAnyH_take (i := 11) (oi := { dst := some 36, op := Op.binOp BinOp.add 3 (Operand.tmp 32) (Operand.const (Value.int IntKind.i64 1)) 3, type := 3, pos := "law.go:52", after := #[{ on := 6, ground := Ground.data }, { on := 16, ground := Ground.gcOnly Departure.appendInPlace }], guard := none }) (v := ?_) rfl (by kernel_rfl) (by kernel_rfl) (by kernel_rfl) (fun _ _ _ h => h) (Or.inl ⟨by rfl, ?_⟩) (by assumption) ?_
          rotate_left
          · intro wq hSw
            go_simp
            try (with_reducible rfl)
          go_frame
          refine wpAnyH_ready (rs := [8]) (by kernel_rfl) (by simp) ?_
          refine AllReadyH.cons (o := { dst := some 34, op := Op.call { callee := Callee.builtin Builtin.append, args := #[Operand.tmp 29, Operand.tmp 33], argTypes := #[23, 23] }, type := 23, pos := "law.go:52", after := #[{ on := 3, ground := Ground.data }, { on := 7, ground := Ground.data }, { on := 0, ground := Ground.phase }, { on := 1, ground := Ground.phase }, { on := 2, ground := Ground.phase }, { on := 3, ground := Ground.phase }, { on := 4, ground := Ground.phase }, { on := 5, ground := Ground.phase }, { on := 6, ground := Ground.phase }, { on := 7, ground := Ground.phase }], guard := none }) rfl (fun K hK => ?_) AllReadyH.nil
          refine step_append_at rfl (.tmp 29) (.tmp 33) 23 rfl lo 25 i0 (.agg #[.int .i64 0, .string ⟨#[]⟩, .int .i64 0, .string ⟨#[]⟩, .int .i64 0, .int .i64 0, .int .i64 0, .slice none 0 0]) 8 96 Tryz.underlying23 (unhide HI0) (unhide HZ0) (unhide HZ1) (unhide HZ2) rfl (by decide) (.slice none 0 0) 0 [] rfl (unhide (HOW _)) ⟨wr.drew.heap.size, 0, none⟩ 2 2 (ncs (zNd, .slice none 0 0) ++ ncs (zNd, .slice none 0 0)) rfl rfl (node2_new wr.drew) node2_one (unhide HM1) (unhide HM2) (unhide (HLO _)) ?_
          intro v7 w7 ho7 hg7 hl7
          obtain ⟨g8, c8, cur8, rfl, hlo8, hg8, hle8, hz8⟩ := own_blk2z ho7
          have hne8 : g8 ≠ b := unhide HFAR _ hl7
          have hX8 : ∀ i, i < wr.heap.size → i = g8 → (lo ≤ i ∧ i < hi) ∨ i = b := fun i h1 h2 => Or.inl (unhide HNEW _ hl7 i h1 h2)
          have HX8 := hide hX8
          have hb7 : w7.heap[b]? = some (.cells cur T (0, 0)) := (hg7.block b (by show b < (wr.alloc _).heap.size; rw [World.size_alloc]; omega) (unhide HNOB)).trans (((Below.refl wr.drew.heap.size wr.drew).alloc (Nat.le_refl _) _).block b hbw |>.trans (unhide HBB))
          have HB7 := hide hb7
          have HG8 := hide hg8
          have HE7 := hide (show Ex (fun i => (lo ≤ i ∧ i < hi) ∨ i = b) _ w7 from Ex.of_grown hg7 fun i e => Or.inl (unhide HOWN i e))
          have HZ8 := hide hz8
          have HLE := hide hle8
          have HBL7 := hide (show b < w7.heap.size from Nat.lt_of_lt_of_le (by show b < (wr.alloc _).heap.size; rw [World.size_alloc]; omega) hg7.size)
          clear ho7 hg7 hl7 hX8 hb7 hg8 hz8 hlo8
          refine hK.out _ _ ?_ (fun hHeld => ?_)
          · exact hHeld.trans (unhide HE7)
          clear hK K
          try go_frame
          refine wpAnyH_take (i := 9) (oi := { dst := some 35, op := Op.indexAddr 23 (Operand.tmp 34) (Operand.tmp 32), type := 0, pos := "law.go:52", after := #[{ on := 8, ground := Ground.data }, { on := 6, ground := Ground.data }, { on := 0, ground := Ground.phase }, { on := 1, ground := Ground.phase }, { on := 2, ground := Ground.phase }, { on := 3, ground := Ground.phase }, { on := 4, ground := Ground.phase }, { on := 5, ground := Ground.phase }, { on := 6, ground := Ground.phase }, { on := 7, ground := Ground.phase }, { on := 8, ground := Ground.phase }, { on := 16, ground := Ground.gcOnly Departure.appendInPlace }], guard := none }) (v := ?_) rfl (by kernel_rfl) (by kernel_rfl) (by kernel_rfl) (fun _ _ _ h => h) (Or.inl ⟨by rfl, ?_⟩) (by assumption) ?_
          rotate_left
          · intro wq hSw
            go_simp
            try (with_reducible rfl)
          go_frame
          refine wpAnyH_take (i := 14) (oi := { dst := some 38, op := Op.nilCheck (Operand.tmp 26), type := 0, pos := "law.go:52", after := #[{ on := 0, ground := Ground.data }, { on := 0, ground := Ground.phase }, { on := 1, ground := Ground.phase }, { on := 2, ground := Ground.phase }, { on := 3, ground := Ground.phase }, { on := 4, ground := Ground.phase }, { on := 5, ground := Ground.phase }, { on := 6, ground := Ground.phase }, { on := 7, ground := Ground.phase }, { on := 8, ground := Ground.phase }, { on := 9, ground := Ground.textOnly Departure.appendInPlace }, { on := 10, ground := Ground.textOnly Departure.appendInPlace }, { on := 11, ground := Ground.textOnly Departure.appendInPlace }, { on := 12, ground := Ground.textOnly Departure.appendInPlace }, { on := 13, ground := Ground.textOnly Departure.appendInPlace }], guard := none }) (v := ?_) rfl (by kernel_rfl) (by kernel_rfl) (by kernel_rfl) (fun _ _ _ h => h) (Or.inl ⟨by rfl, ?_⟩) (by assumption) ?_
          rotate_left
          · intro wq hSw
            go_simp
            try (with_reducible rfl)
          go_frame
          refine wpAnyH_take (i := 15) (oi := { dst := some 39, op := Op.fieldAddr 25 (Operand.tmp 38) 7, type := 0, pos := "law.go:52", after := #[{ on := 14, ground := Ground.data }, { on := 0, ground := Ground.phase }, { on := 1, ground := Ground.phase }, { on := 2, ground := Ground.phase }, { on := 3, ground := Ground.phase }, { on := 4, ground := Ground.phase }, { on := 5, ground := Ground.phase }, { on := 6, ground := Ground.phase }, { on := 7, ground := Ground.phase }, { on := 8, ground := Ground.phase }, { on := 9, ground := Ground.textOnly Departure.appendInPlace }, { on := 10, ground := Ground.textOnly Departure.appendInPlace }, { on := 11, ground := Ground.textOnly Departure.appendInPlace }, { on := 12, ground := Ground.textOnly Departure.appendInPlace }, { on := 13, ground := Ground.textOnly Departure.appendInPlace }], guard := none }) (v := ?_) rfl (by kernel_rfl) (by kernel_rfl) (by kernel_rfl) (fun _ _ _ h => h) (Or.inl ⟨by rfl, ?_⟩) (by assumption) ?_
          rotate_left
          · intro wq hSw
            go_simp
            try (with_reducible rfl)
          go_frame
          refine wpAnyH_ready (rs := [10, 16]) (by kernel_rfl) (by simp) ?_
          refine AllReadyH.cons (o := { dst := none, op := Op.store 25 (Operand.tmp 35) (Operand.tmp 30), type := 0, pos := "law.go:52", after := #[{ on := 9, ground := Ground.data }, { on := 4, ground := Ground.data }, { on := 8, ground := Ground.chain }, { on := 0, ground := Ground.phase }, { on := 1, ground := Ground.phase }, { on := 2, ground := Ground.phase }, { on := 3, ground := Ground.phase }, { on := 4, ground := Ground.phase }, { on := 5, ground := Ground.phase }, { on := 6, ground := Ground.phase }, { on := 7, ground := Ground.phase }, { on := 8, ground := Ground.phase }, { on := 16, ground := Ground.gcOnly Departure.appendInPlace }], guard := none }) rfl (fun K hK => ?_) (AllReadyH.cons (o := { dst := none, op := Op.store 23 (Operand.tmp 39) (Operand.tmp 34), type := 0, pos := "law.go:52", after := #[{ on := 15, ground := Ground.data }, { on := 8, ground := Ground.data }, { on := 8, ground := Ground.chain }, { on := 13, ground := Ground.textOnly Departure.appendInPlace }, { on := 0, ground := Ground.phase }, { on := 1, ground := Ground.phase }, { on := 2, ground := Ground.phase }, { on := 3, ground := Ground.phase }, { on := 4, ground := Ground.phase }, { on := 5, ground := Ground.phase }, { on := 6, ground := Ground.phase }, { on := 7, ground := Ground.phase }, { on := 8, ground := Ground.phase }, { on := 9, ground := Ground.textOnly Departure.appendInPlace }, { on := 10, ground := Ground.textOnly Departure.appendInPlace }, { on := 11, ground := Ground.textOnly Departure.appendInPlace }, { on := 12, ground := Ground.textOnly Departure.appendInPlace }, { on := 13, ground := Ground.textOnly Departure.appendInPlace }], guard := none }) rfl (fun K hK => ?_) AllReadyH.nil)
          · refine step_store rfl (.tmp 35) (.tmp 30) 25 rfl g8 (0) #[.int .i64 0, .string ⟨#[109, 111, 114, 101]⟩, .int .i64 0, .string ⟨#[]⟩, .int .i64 0, .int .i64 0, .int .i64 0, .slice none 0 0] rfl rfl (there_of (n := 8) (unhide HG8) (by have := unhide HLE; have := unhide HZ8; omega)) Tryz.sizeN (all_oneCell_toArray (node_one moreNd rfl)) ?_
            intro w9 hw
            obtain ⟨cur_w9, h1_w9, h2_w9, _, _⟩ := blk_setCells #[.int .i64 0, .string ⟨#[109, 111, 114, 101]⟩, .int .i64 0, .string ⟨#[]⟩, .int .i64 0, .int .i64 0, .int .i64 0, .slice none 0 0].toList (0) (unhide HG8)
            have HG_w9 : Hid (w9.heap[g8]? = some (.cells cur_w9 25 (0, 0))) := hide (by rw [hw]; exact h1_w9)
            have HS_w9 := hide h2_w9
            have HE_w9 : Hid (Ex (fun i => i = g8) w7 w9) := hide (by rw [hw]; exact ex_setCells _ _ _)
            have HZ_w9 : Hid (w9.heap.size = (w7).heap.size) := hide (by rw [hw]; exact size_setCells _ _ _)
            clear hw h1_w9 h2_w9
            refine hK.out _ _ ?_ (fun hHeld => ?_)
            · exact hHeld.trans' (unhide HE_w9) (unhide HX8)
            clear hK K
            try go_frame
            refine wpAnyH_take (i := 12) (oi := { dst := some 37, op := Op.indexAddr 23 (Operand.tmp 34) (Operand.tmp 36), type := 0, pos := "law.go:52", after := #[{ on := 8, ground := Ground.data }, { on := 11, ground := Ground.data }, { on := 0, ground := Ground.phase }, { on := 1, ground := Ground.phase }, { on := 2, ground := Ground.phase }, { on := 3, ground := Ground.phase }, { on := 4, ground := Ground.phase }, { on := 5, ground := Ground.phase }, { on := 6, ground := Ground.phase }, { on := 7, ground := Ground.phase }, { on := 8, ground := Ground.phase }, { on := 9, ground := Ground.phase }, { on := 10, ground := Ground.phase }, { on := 11, ground := Ground.phase }, { on := 16, ground := Ground.gcOnly Departure.appendInPlace }], guard := none }) (v := ?_) rfl (by kernel_rfl) (by kernel_rfl) (by kernel_rfl) (fun _ _ _ h => h) (Or.inl ⟨by rfl, ?_⟩) (by assumption) ?_
            rotate_left
            · intro wq hSw
              go_simp
              try (with_reducible rfl)
            go_frame
            have HB9 : Hid (w9.heap[b]? = some (.cells cur T (0, 0))) := hide (((unhide HE_w9).block b (unhide HBL7) (Ne.symm hne8)).trans (unhide HB7))
            refine wpAnyH_ready (rs := [13, 16]) (by kernel_rfl) (by simp) ?_
            refine AllReadyH.cons (o := { dst := none, op := Op.store 25 (Operand.tmp 37) (Operand.tmp 31), type := 0, pos := "law.go:52", after := #[{ on := 12, ground := Ground.data }, { on := 5, ground := Ground.data }, { on := 10, ground := Ground.chain }, { on := 0, ground := Ground.phase }, { on := 1, ground := Ground.phase }, { on := 2, ground := Ground.phase }, { on := 3, ground := Ground.phase }, { on := 4, ground := Ground.phase }, { on := 5, ground := Ground.phase }, { on := 6, ground := Ground.phase }, { on := 7, ground := Ground.phase }, { on := 8, ground := Ground.phase }, { on := 9, ground := Ground.phase }, { on := 10, ground := Ground.phase }, { on := 11, ground := Ground.phase }, { on := 16, ground := Ground.gcOnly Departure.appendInPlace }], guard := none }) rfl (fun K hK => ?_) (AllReadyH.cons (o := { dst := none, op := Op.store 23 (Operand.tmp 39) (Operand.tmp 34), type := 0, pos := "law.go:52", after := #[{ on := 15, ground := Ground.data }, { on := 8, ground := Ground.data }, { on := 8, ground := Ground.chain }, { on := 13, ground := Ground.textOnly Departure.appendInPlace }, { on := 0, ground := Ground.phase }, { on := 1, ground := Ground.phase }, { on := 2, ground := Ground.phase }, { on := 3, ground := Ground.phase }, { on := 4, ground := Ground.phase }, { on := 5, ground := Ground.phase }, { on := 6, ground := Ground.phase }, { on := 7, ground := Ground.phase }, { on := 8, ground := Ground.phase }, { on := 9, ground := Ground.textOnly Departure.appendInPlace }, { on := 10, ground := Ground.textOnly Departure.appendInPlace }, { on := 11, ground := Ground.textOnly Departure.appendInPlace }, { on := 12, ground := Ground.textOnly Departure.appendInPlace }, { on := 13, ground := Ground.textOnly Departure.appendInPlace }], guard := none }) rfl (fun K hK => ?_) AllReadyH.nil)
            · refine step_store rfl (.tmp 37) (.tmp 31) 25 rfl g8 (8) #[.int .i64 0, .string ⟨#[109, 111, 114, 101]⟩, .int .i64 0, .string ⟨#[]⟩, .int .i64 0, .int .i64 0, .int .i64 0, .slice none 0 0] rfl rfl (there_of (n := 8) (unhide HG_w9) (by have := unhide HLE; have := unhide HZ8; have := unhide HS_w9; omega)) Tryz.sizeN (all_oneCell_toArray (node_one moreNd rfl)) ?_
              intro w10 hw
              obtain ⟨cur_w10, h1_w10, h2_w10, _, _⟩ := blk_setCells #[.int .i64 0, .string ⟨#[109, 111, 114, 101]⟩, .int .i64 0, .string ⟨#[]⟩, .int .i64 0, .int .i64 0, .int .i64 0, .slice none 0 0].toList (8) (unhide HG_w9)
              have HG_w10 : Hid (w10.heap[g8]? = some (.cells cur_w10 25 (0, 0))) := hide (by rw [hw]; exact h1_w10)
              have HS_w10 := hide h2_w10
              have HE_w10 : Hid (Ex (fun i => i = g8) w9 w10) := hide (by rw [hw]; exact ex_setCells _ _ _)
              have HZ_w10 : Hid (w10.heap.size = (w9).heap.size) := hide (by rw [hw]; exact size_setCells _ _ _)
              clear hw h1_w10 h2_w10
              refine hK.out _ _ ?_ (fun hHeld => ?_)
              · exact hHeld.trans' (unhide HE_w10) (unhide HX8)
              clear hK K
              try go_frame
              have hb10 : w10.heap[b]? = some (.cells cur T (0, 0)) := ((unhide HE_w10).block b (by have := unhide HZ_w9; have := unhide HBL7; omega) (Ne.symm hne8)).trans (unhide HB9)
              have k10 := cell_of hb10 (unhide HCV)
              have f10 : w10.frozen? ⟨b, o + 7, none⟩ = false := froz_of hb10
              have HB10 := hide hb10
              clear hb10
              refine wpAnyH_ready (rs := [16]) (by kernel_rfl) (by simp) ?_
              refine AllReadyH.cons (o := { dst := none, op := Op.store 23 (Operand.tmp 39) (Operand.tmp 34), type := 0, pos := "law.go:52", after := #[{ on := 15, ground := Ground.data }, { on := 8, ground := Ground.data }, { on := 8, ground := Ground.chain }, { on := 13, ground := Ground.textOnly Departure.appendInPlace }, { on := 0, ground := Ground.phase }, { on := 1, ground := Ground.phase }, { on := 2, ground := Ground.phase }, { on := 3, ground := Ground.phase }, { on := 4, ground := Ground.phase }, { on := 5, ground := Ground.phase }, { on := 6, ground := Ground.phase }, { on := 7, ground := Ground.phase }, { on := 8, ground := Ground.phase }, { on := 9, ground := Ground.textOnly Departure.appendInPlace }, { on := 10, ground := Ground.textOnly Departure.appendInPlace }, { on := 11, ground := Ground.textOnly Departure.appendInPlace }, { on := 12, ground := Ground.textOnly Departure.appendInPlace }, { on := 13, ground := Ground.textOnly Departure.appendInPlace }], guard := none }) rfl (fun K hK => ?_) AllReadyH.nil
              go_simp
              refine hK.out _ _ ?_ (fun hHeld => ?_)
              · exact hHeld.trans (Ex.setCell _ _ _ _ (Or.inr rfl))
              clear hK K
              try go_frame
              refine wpAnyH_done (by kernel_rfl) ?_ _
              go_end0
              exact ⟨rfl, (unhide HRE).trans hHeld, _, set_blk (unhide HB10)⟩
            · have k9 := cell_of (unhide HB9) (unhide HCV)
              have f9 : w9.frozen? ⟨b, o + 7, none⟩ = false := froz_of (unhide HB9)
              go_simp
              refine hK.out _ _ ?_ (fun hHeld => ?_)
              · exact hHeld.trans (Ex.setCell _ _ _ _ (Or.inr rfl))
              clear hK K
              try go_frame
              have HGs : Hid ((w9.setCell ⟨b, o + 7, none⟩ (.slice (some ⟨g8, 0, none⟩) 2 c8)).heap[g8]? = some (.cells cur_w9 25 (0, 0))) := hide ((Below.heap_setCell _ _ _ _ hne8).trans (unhide HG_w9))
              refine wpAnyH_ready (rs := [13]) (by kernel_rfl) (by simp) ?_
              refine AllReadyH.cons (o := { dst := none, op := Op.store 25 (Operand.tmp 37) (Operand.tmp 31), type := 0, pos := "law.go:52", after := #[{ on := 12, ground := Ground.data }, { on := 5, ground := Ground.data }, { on := 10, ground := Ground.chain }, { on := 0, ground := Ground.phase }, { on := 1, ground := Ground.phase }, { on := 2, ground := Ground.phase }, { on := 3, ground := Ground.phase }, { on := 4, ground := Ground.phase }, { on := 5, ground := Ground.phase }, { on := 6, ground := Ground.phase }, { on := 7, ground := Ground.phase }, { on := 8, ground := Ground.phase }, { on := 9, ground := Ground.phase }, { on := 10, ground := Ground.phase }, { on := 11, ground := Ground.phase }, { on := 16, ground := Ground.gcOnly Departure.appendInPlace }], guard := none }) rfl (fun K hK => ?_) AllReadyH.nil
              refine step_store rfl (.tmp 37) (.tmp 31) 25 rfl g8 (8) #[.int .i64 0, .string ⟨#[109, 111, 114, 101]⟩, .int .i64 0, .string ⟨#[]⟩, .int .i64 0, .int .i64 0, .int .i64 0, .slice none 0 0] rfl rfl (there_of (n := 8) (unhide HGs) (by have := unhide HLE; have := unhide HZ8; have := unhide HS_w9; omega)) Tryz.sizeN (all_oneCell_toArray (node_one moreNd rfl)) ?_
              intro w10 hw
              obtain ⟨cur_w10, h1_w10, h2_w10, _, _⟩ := blk_setCells #[.int .i64 0, .string ⟨#[109, 111, 114, 101]⟩, .int .i64 0, .string ⟨#[]⟩, .int .i64 0, .int .i64 0, .int .i64 0, .slice none 0 0].toList (8) (unhide HGs)
              have HG_w10 : Hid (w10.heap[g8]? = some (.cells cur_w10 25 (0, 0))) := hide (by rw [hw]; exact h1_w10)
              have HS_w10 := hide h2_w10
              have HE_w10 : Hid (Ex (fun i => i = g8) (w9.setCell ⟨b, o + 7, none⟩ (.slice (some ⟨g8, 0, none⟩) 2 c8)) w10) := hide (by rw [hw]; exact ex_setCells _ _ _)
              have HZ_w10 : Hid (w10.heap.size = ((w9.setCell ⟨b, o + 7, none⟩ (.slice (some ⟨g8, 0, none⟩) 2 c8))).heap.size) := hide (by rw [hw]; exact size_setCells _ _ _)
              clear hw h1_w10 h2_w10
              refine hK.out _ _ ?_ (fun hHeld => ?_)
              · exact hHeld.trans' (unhide HE_w10) (unhide HX8)
              clear hK K
              try go_frame
              refine wpAnyH_done (by kernel_rfl) ?_ _
              go_end0
              exact ⟨rfl, (unhide HRE).trans hHeld, _, ((unhide HE_w10).block b (by have := unhide HZ_w9; have := unhide HBL7; simp [World.setCell]; omega) (Ne.symm hne8)).trans (set_blk (unhide HB9))⟩
          · have k7 := cell_of (unhide HB7) (unhide HCV)
            have f7 : w7.frozen? ⟨b, o + 7, none⟩ = false := froz_of (unhide HB7)
            go_simp
            refine hK.out _ _ ?_ (fun hHeld => ?_)
            · exact hHeld.trans (Ex.setCell _ _ _ _ (Or.inr rfl))
            clear hK K
            try go_frame
            have HGs : Hid ((w7.setCell ⟨b, o + 7, none⟩ (.slice (some ⟨g8, 0, none⟩) 2 c8)).heap[g8]? = some (.cells cur8 25 (0, 0))) := hide ((Below.heap_setCell _ _ _ _ hne8).trans (unhide HG8))
            refine wpAnyH_ready (rs := [10]) (by kernel_rfl) (by simp) ?_
            refine AllReadyH.cons (o := { dst := none, op := Op.store 25 (Operand.tmp 35) (Operand.tmp 30), type := 0, pos := "law.go:52", after := #[{ on := 9, ground := Ground.data }, { on := 4, ground := Ground.data }, { on := 8, ground := Ground.chain }, { on := 0, ground := Ground.phase }, { on := 1, ground := Ground.phase }, { on := 2, ground := Ground.phase }, { on := 3, ground := Ground.phase }, { on := 4, ground := Ground.phase }, { on := 5, ground := Ground.phase }, { on := 6, ground := Ground.phase }, { on := 7, ground := Ground.phase }, { on := 8, ground := Ground.phase }, { on := 16, ground := Ground.gcOnly Departure.appendInPlace }], guard := none }) rfl (fun K hK => ?_) AllReadyH.nil
            refine step_store rfl (.tmp 35) (.tmp 30) 25 rfl g8 (0) #[.int .i64 0, .string ⟨#[109, 111, 114, 101]⟩, .int .i64 0, .string ⟨#[]⟩, .int .i64 0, .int .i64 0, .int .i64 0, .slice none 0 0] rfl rfl (there_of (n := 8) (unhide HGs) (by have := unhide HLE; have := unhide HZ8; omega)) Tryz.sizeN (all_oneCell_toArray (node_one moreNd rfl)) ?_
            intro w9 hw
            obtain ⟨cur_w9, h1_w9, h2_w9, _, _⟩ := blk_setCells #[.int .i64 0, .string ⟨#[109, 111, 114, 101]⟩, .int .i64 0, .string ⟨#[]⟩, .int .i64 0, .int .i64 0, .int .i64 0, .slice none 0 0].toList (0) (unhide HGs)
            have HG_w9 : Hid (w9.heap[g8]? = some (.cells cur_w9 25 (0, 0))) := hide (by rw [hw]; exact h1_w9)
            have HS_w9 := hide h2_w9
            have HE_w9 : Hid (Ex (fun i => i = g8) (w7.setCell ⟨b, o + 7, none⟩ (.slice (some ⟨g8, 0, none⟩) 2 c8)) w9) := hide (by rw [hw]; exact ex_setCells _ _ _)
            have HZ_w9 : Hid (w9.heap.size = ((w7.setCell ⟨b, o + 7, none⟩ (.slice (some ⟨g8, 0, none⟩) 2 c8))).heap.size) := hide (by rw [hw]; exact size_setCells _ _ _)
            clear hw h1_w9 h2_w9
            refine hK.out _ _ ?_ (fun hHeld => ?_)
            · exact hHeld.trans' (unhide HE_w9) (unhide HX8)
            clear hK K
            try go_frame
            refine wpAnyH_take (i := 12) (oi := { dst := some 37, op := Op.indexAddr 23 (Operand.tmp 34) (Operand.tmp 36), type := 0, pos := "law.go:52", after := #[{ on := 8, ground := Ground.data }, { on := 11, ground := Ground.data }, { on := 0, ground := Ground.phase }, { on := 1, ground := Ground.phase }, { on := 2, ground := Ground.phase }, { on := 3, ground := Ground.phase }, { on := 4, ground := Ground.phase }, { on := 5, ground := Ground.phase }, { on := 6, ground := Ground.phase }, { on := 7, ground := Ground.phase }, { on := 8, ground := Ground.phase }, { on := 9, ground := Ground.phase }, { on := 10, ground := Ground.phase }, { on := 11, ground := Ground.phase }, { on := 16, ground := Ground.gcOnly Departure.appendInPlace }], guard := none }) (v := ?_) rfl (by kernel_rfl) (by kernel_rfl) (by kernel_rfl) (fun _ _ _ h => h) (Or.inl ⟨by rfl, ?_⟩) (by assumption) ?_
            rotate_left
            · intro wq hSw
              go_simp
              try (with_reducible rfl)
            go_frame
            refine wpAnyH_ready (rs := [13]) (by kernel_rfl) (by simp) ?_
            refine AllReadyH.cons (o := { dst := none, op := Op.store 25 (Operand.tmp 37) (Operand.tmp 31), type := 0, pos := "law.go:52", after := #[{ on := 12, ground := Ground.data }, { on := 5, ground := Ground.data }, { on := 10, ground := Ground.chain }, { on := 0, ground := Ground.phase }, { on := 1, ground := Ground.phase }, { on := 2, ground := Ground.phase }, { on := 3, ground := Ground.phase }, { on := 4, ground := Ground.phase }, { on := 5, ground := Ground.phase }, { on := 6, ground := Ground.phase }, { on := 7, ground := Ground.phase }, { on := 8, ground := Ground.phase }, { on := 9, ground := Ground.phase }, { on := 10, ground := Ground.phase }, { on := 11, ground := Ground.phase }, { on := 16, ground := Ground.gcOnly Departure.appendInPlace }], guard := none }) rfl (fun K hK => ?_) AllReadyH.nil
            refine step_store rfl (.tmp 37) (.tmp 31) 25 rfl g8 (8) #[.int .i64 0, .string ⟨#[109, 111, 114, 101]⟩, .int .i64 0, .string ⟨#[]⟩, .int .i64 0, .int .i64 0, .int .i64 0, .slice none 0 0] rfl rfl (there_of (n := 8) (unhide HG_w9) (by have := unhide HLE; have := unhide HZ8; have := unhide HS_w9; omega)) Tryz.sizeN (all_oneCell_toArray (node_one moreNd rfl)) ?_
            intro w10 hw
            obtain ⟨cur_w10, h1_w10, h2_w10, _, _⟩ := blk_setCells #[.int .i64 0, .string ⟨#[109, 111, 114, 101]⟩, .int .i64 0, .string ⟨#[]⟩, .int .i64 0, .int .i64 0, .int .i64 0, .slice none 0 0].toList (8) (unhide HG_w9)
            have HG_w10 : Hid (w10.heap[g8]? = some (.cells cur_w10 25 (0, 0))) := hide (by rw [hw]; exact h1_w10)
            have HS_w10 := hide h2_w10
            have HE_w10 : Hid (Ex (fun i => i = g8) w9 w10) := hide (by rw [hw]; exact ex_setCells _ _ _)
            have HZ_w10 : Hid (w10.heap.size = (w9).heap.size) := hide (by rw [hw]; exact size_setCells _ _ _)
            clear hw h1_w10 h2_w10
            refine hK.out _ _ ?_ (fun hHeld => ?_)
            · exact hHeld.trans' (unhide HE_w10) (unhide HX8)
            clear hK K
            try go_frame
            refine wpAnyH_done (by kernel_rfl) ?_ _
            go_end0
            exact ⟨rfl, (unhide HRE).trans hHeld, _, ((unhide HE_w10).block b (by rw [show w9.heap.size = w7.heap.size by rw [unhide HZ_w9]; simp [World.setCell]]; exact unhide HBL7) (Ne.symm hne8)).trans (((unhide HE_w9).block b (by simp [World.setCell]; exact unhide HBL7) (Ne.symm hne8)).trans (set_blk (unhide HB7)))⟩
    · have HCV := hide hcv
      have hgb : g ≠ b := fun e => hnb ⟨by omega, by omega⟩
      have HS0 := hide (show SpI w w lo hi g t.ks 0 from ⟨Ex.refl _ _, cur0, g + 1, hg0, hz0, Nat.le_refl _, hgh, hr0⟩)
      have HBB0 := hide hb
      clear hsp hcv hg0 hz0 hr0 hb
      go_enter Tryz.func22, Tryz.ntmps22
      go_wp2
      go_loopw [2] (fun i wr => ∃ k : Nat, k ≤ t.ks.length ∧ i = .int .i64 k ∧ SpI w wr lo hi g t.ks k) (fun i _ => t.ks.length - (intOf i).toNat)
      case atStart => exact ⟨0, Nat.zero_le _, rfl, unhide HS0⟩
      case round =>
        obtain ⟨k, hk, rfl, hsi⟩ := hrel
        have HSI := hide hsi
        have hsz := hsi.1.size
        have hbb : wr.heap[b]? = some (.cells cur T (0, 0)) := (hsi.1.block b hbw0 hnb).trans (unhide HBB0)
        clear hsi
        by_cases hkl : k < t.ks.length
        · obtain ⟨curk, l, vk, mid, hgk, hzk, hl1, hl2, hl3, hck, hst, hsr⟩ := spi_open (unhide HSI) hkl
          have HGK := hide hgk
          have HZK := hide hzk
          have HCK := hide hck
          have HST := hide hst
          have HSR := hide hsr
          have HCN := hide (cnts_lt (unhide HC) hkl)
          have kb := cell_of hbb (unhide HCV)
          have HBB := hide hbb
          have i0' : (0 : Int) ≤ (k : Int) := by omega
          have i1 : (k : Int) < (t.ks.length : Int) := by omega
          clear hgk hzk hck hst hsr hbb
          go_wp2_with fail
          refine (unhide HIH t.ks[k] wr g (k * 8) l mid curk vk 25 (unhide HCN) (unhide HGK) (unhide HCK) (unhide HST) hl2 (by omega) (by omega)).mono ?_
          rintro e w5 ⟨rfl, e5, v5, h5⟩
          have hb5 : w5.heap[b]? = some (.cells cur T (0, 0)) := (e5.block b (by omega) (by omega)).trans (unhide HBB)
          have kb5 := cell_of hb5 (unhide HCV)
          have HE5 := hide e5
          have HH5 := hide h5
          have hz5 : (curk.setIfInBounds (k * 8 + 7) v5).size = t.ks.length * 8 := by rw [Array.size_setIfInBounds]; exact unhide HZK
          have ex8 : ∀ j, j < 8 → ∃ u, w5.cell? ⟨g, k * 8 + j, none⟩ = some u := fun j hj => ⟨_, cell_of h5 (Array.getElem?_eq_getElem (by rw [hz5]; omega))⟩
          obtain ⟨u0, c0⟩ := ex8 0 (by omega)
          obtain ⟨u1, c1⟩ := ex8 1 (by omega)
          obtain ⟨u2, c2⟩ := ex8 2 (by omega)
          obtain ⟨u3, c3⟩ := ex8 3 (by omega)
          obtain ⟨u4, c4⟩ := ex8 4 (by omega)
          obtain ⟨u5, c5⟩ := ex8 5 (by omega)
          obtain ⟨u6, c6⟩ := ex8 6 (by omega)
          obtain ⟨u7, c7⟩ := ex8 7 (by omega)
          rw [Nat.add_zero] at c0
          have fz : ∀ j, w5.frozen? ⟨g, j, none⟩ = false := fun j => froz_of h5
          clear e5 h5 hb5 hz5 ex8 kb
          go_wp2
          go_roundw
          case rel => exact ⟨k + 1, by omega, by go_num, spi_step (vs := ncs (notNd, .slice none 0 0)) (unhide HSI) (unhide HZK) hlg hgh hl1 hl2 hl3 (by omega) (unhide HSR) (unhide HE5) (unhide HH5) rfl rfl⟩
          case measure => simp [intOf]; omega
        · obtain rfl : k = t.ks.length := by omega
          have HRE := hide (show Ex (fun i => (lo ≤ i ∧ i < hi) ∨ i = b) w wr from (unhide HSI).1.mono fun i _ h => Or.inl h)
          obtain ⟨curk, hgk, hzk⟩ : ∃ curk, wr.heap[g]? = some (.cells curk 25 (0, 0)) ∧ curk.size = t.ks.length * 8 := by
            obtain ⟨_, curk, _, h1, h2, _⟩ := unhide HSI
            exact ⟨curk, h1, h2⟩
          obtain ⟨N, hN⟩ : ∃ N, t.ks.length = N := ⟨_, rfl⟩
          rw [hN] at hll hzk HCV hpos
          rw [hN]
          have HGK := hide hgk
          have HZK := hide hzk
          clear hgk hzk HSI hkl hk hN
          have HOWN := hide (show ∀ i, Value.ownBlock (.slice (some ⟨g, 0, none⟩) N N) = some i → lo ≤ i ∧ i < hi from fun i e => by cases e; exact ⟨hlg, hgh⟩)
          have HFAR := hide (show ∀ g8 : Nat, ((some g8 : Option Nat) = Value.ownBlock (.slice (some ⟨g, 0, none⟩) N N) ∨ some g8 = some (wr.drew.alloc (.cells #[.int .i64 0, .string ⟨#[]⟩, .int .i64 0, .string ⟨#[]⟩, .int .i64 0, .int .i64 0, .int .i64 0, .slice none 0 0, .int .i64 0, .string ⟨#[]⟩, .int .i64 0, .string ⟨#[]⟩, .int .i64 0, .int .i64 0, .int .i64 0, .slice none 0 0] 25)).heap.size) → g8 ≠ b from fun g8 e => by
            rcases e with e | e
            · cases e; exact hgb
            · have := Option.some.inj e; rw [World.size_alloc] at this; have h2 : wr.drew.heap.size = wr.heap.size := rfl; omega)
          have HNEW := hide (show ∀ g8 : Nat, ((some g8 : Option Nat) = Value.ownBlock (.slice (some ⟨g, 0, none⟩) N N) ∨ some g8 = some (wr.drew.alloc (.cells #[.int .i64 0, .string ⟨#[]⟩, .int .i64 0, .string ⟨#[]⟩, .int .i64 0, .int .i64 0, .int .i64 0, .slice none 0 0, .int .i64 0, .string ⟨#[]⟩, .int .i64 0, .string ⟨#[]⟩, .int .i64 0, .int .i64 0, .int .i64 0, .slice none 0 0] 25)).heap.size) → ∀ i, i < wr.heap.size → i = g8 → lo ≤ i ∧ i < hi from fun g8 e i h1 h2 => by
            rcases e with e | e
            · cases e; subst h2; exact ⟨hlg, hgh⟩
            · have := Option.some.inj e; rw [World.size_alloc] at this; have h3 : wr.drew.heap.size = wr.heap.size := rfl; omega)
          have HOW : ∀ o', Hid ((wr.drew.alloc o').ownsRow lo 25 8 (.slice (some ⟨g, 0, none⟩) N N) N curk.toList) := fun o' => hide ⟨by rw [Array.length_toList]; exact unhide HZK, Or.inr ⟨g, N, curk, rfl, hlg, (((Below.refl wr.drew.heap.size wr.drew).alloc (Nat.le_refl _) o').block g (by show g < wr.heap.size; omega)).trans (unhide HGK), Nat.le_refl _, by unfold maxLen; omega, unhide HZK, by rw [← unhide HZK, ← Array.length_toList, List.take_length]⟩⟩
          have HLO : ∀ o', Hid (lo ≤ (wr.drew.alloc o').heap.size) := fun o' => hide (by rw [World.size_alloc]; show lo ≤ wr.heap.size + 1; omega)
          have HM1 := hide (show N + 2 ≤ maxLen by unfold maxLen; omega)
          have HM2 := hide (show (N + 2) * 96 ≤ 140737488355328 by omega)
          have hwp : IntKind.i64.wrap ((N : Int) + 1) = (N : Int) + 1 := by rw [IntKind.wrap_i64]; omega
          have j0 : (0 : Int) ≤ (N : Int) := by omega
          have j1 : (N : Int) < (N : Int) + 2 := by omega
          have j2 : (0 : Int) ≤ (N : Int) + 1 := by omega
          have j3 : (N : Int) + 1 < (N : Int) + 2 := by omega
          have HNOB := hide (show some b ≠ Value.ownBlock (.slice (some ⟨g, 0, none⟩) N N) from fun e => by cases e; exact hgb rfl)
          have HBB := hide hbb
          have hbw : b < wr.heap.size := (Array.getElem?_eq_some_iff.1 hbb).1
          have kb := cell_of hbb (unhide HCV)
          have kb6 : ∀ o', (wr.alloc o').cell? ⟨b, o + 7, none⟩ = some (.slice (some ⟨g, 0, none⟩) N N) := fun o' => (World.cell?_alloc_lt _ _ _ hbw).trans kb
          have kb7 : ∀ o', (wr.drew.alloc o').cell? ⟨b, o + 7, none⟩ = some (.slice (some ⟨g, 0, none⟩) N N) := fun o' => (World.cell?_alloc_lt _ _ _ hbw).trans kb
          clear hbb
          go_wp2
          refine wp_region_held_drew (S := Ex (fun i => (lo ≤ i ∧ i < hi) ∨ i = b) wr) (by kernel_rfl) ?_ (fun hHeld => ?_)
          · exact Ex.drew _ _
          refine wpAnyH_take (i := 0) (oi := { dst := some 26, op := Op.move (Operand.tmp 0), type := 38, pos := "law.go:52", after := #[], guard := none }) (v := ?_) rfl (by kernel_rfl) (by kernel_rfl) (by kernel_rfl) (fun _ _ _ h => h) (Or.inl ⟨by rfl, ?_⟩) (by assumption) ?_
          rotate_left
          · intro wq hSw
            go_simp
            try (with_reducible rfl)
          go_frame
          refine wpAnyH_take (i := 1) (oi := { dst := some 27, op := Op.nilCheck (Operand.tmp 26), type := 0, pos := "law.go:52", after := #[{ on := 0, ground := Ground.data }], guard := none }) (v := ?_) rfl (by kernel_rfl) (by kernel_rfl) (by kernel_rfl) (fun _ _ _ h => h) (Or.inl ⟨by rfl, ?_⟩) (by assumption) ?_
          rotate_left
          · intro wq hSw
            go_simp
            try (with_reducible rfl)
          go_frame
          refine wpAnyH_take (i := 2) (oi := { dst := some 28, op := Op.fieldAddr 25 (Operand.tmp 27) 7, type := 0, pos := "law.go:52", after := #[{ on := 1, ground := Ground.data }], guard := none }) (v := ?_) rfl (by kernel_rfl) (by kernel_rfl) (by kernel_rfl) (fun _ _ _ h => h) (Or.inl ⟨by rfl, ?_⟩) (by assumption) ?_
          rotate_left
          · intro wq hSw
            go_simp
            try (with_reducible rfl)
          go_frame
          refine wpAnyH_take (i := 4) (oi := { dst := some 30, op := Op.build 25 #[(1, Operand.const (Value.string { data := #[109, 111, 114, 101] }))], type := 25, pos := "law.go:52", after := #[], guard := none }) (v := ?_) rfl (by kernel_rfl) (by kernel_rfl) (by kernel_rfl) (fun _ _ _ h => h) (Or.inl ⟨by rfl, ?_⟩) (by assumption) ?_
          rotate_left
          · intro wq hSw
            go_simp
            try (with_reducible rfl)
          go_frame
          refine wpAnyH_take (i := 5) (oi := { dst := some 31, op := Op.build 25 #[(1, Operand.const (Value.string { data := #[109, 111, 114, 101] }))], type := 25, pos := "law.go:52", after := #[], guard := none }) (v := ?_) rfl (by kernel_rfl) (by kernel_rfl) (by kernel_rfl) (fun _ _ _ h => h) (Or.inl ⟨by rfl, ?_⟩) (by assumption) ?_
          rotate_left
          · intro wq hSw
            go_simp
            try (with_reducible rfl)
          go_frame
          refine wpAnyH_ready (rs := [3, 7]) (by kernel_rfl) (by simp) ?_
          refine AllReadyH.cons (o := { dst := some 29, op := Op.load 23 (Operand.tmp 28), type := 23, pos := "law.go:52", after := #[{ on := 2, ground := Ground.data }], guard := none }) rfl (fun K hK => ?_) (AllReadyH.cons (o := { dst := some 33, op := Op.buildSlice 23 2 #[(0, Operand.const (Value.agg #[Value.int IntKind.i64 0, Value.string { data := #[] }, Value.int IntKind.i64 0, Value.string { data := #[] }, Value.int IntKind.i64 0, Value.int IntKind.i64 0, Value.int IntKind.i64 0, Value.slice none 0 0])), (1, Operand.const (Value.agg #[Value.int IntKind.i64 0, Value.string { data := #[] }, Value.int IntKind.i64 0, Value.string { data := #[] }, Value.int IntKind.i64 0, Value.int IntKind.i64 0, Value.int IntKind.i64 0, Value.slice none 0 0]))], type := 23, pos := "law.go:52", after := #[], guard := none }) rfl (fun K hK => ?_) AllReadyH.nil)
          · go_simp
            refine hK.out _ _ ?_ (fun hHeld => ?_)
            · exact hHeld
            clear hK K
            try go_frame
            refine wpAnyH_take (i := 6) (oi := { dst := some 32, op := Op.call { callee := Callee.builtin Builtin.len, args := #[Operand.tmp 29], argTypes := #[23] }, type := 3, pos := "law.go:52", after := #[{ on := 3, ground := Ground.data }], guard := none }) (v := ?_) rfl (by kernel_rfl) (by kernel_rfl) (by kernel_rfl) (fun _ _ _ h => h) (Or.inl ⟨by rfl, ?_⟩) (by assumption) ?_
            rotate_left
            · intro wq hSw
              go_simp
              try (with_reducible rfl)
            go_frame
            refine wpAnyH_take (i := 11) (oi := { dst := some 36, op := Op.binOp BinOp.add 3 (Operand.tmp 32) (Operand.const (Value.int IntKind.i64 1)) 3, type := 3, pos := "law.go:52", after := #[{ on := 6, ground := Ground.data }, { on := 16, ground := Ground.gcOnly Departure.appendInPlace }], guard := none }) (v := ?_) rfl (by kernel_rfl) (by kernel_rfl) (by kernel_rfl) (fun _ _ _ h => h) (Or.inl ⟨by rfl, ?_⟩) (by assumption) ?_
            rotate_left
            · intro wq hSw
              go_simp
              try (with_reducible rfl)
            go_frame
            refine wpAnyH_ready (rs := [7]) (by kernel_rfl) (by simp) ?_
            refine AllReadyH.cons (o := { dst := some 33, op := Op.buildSlice 23 2 #[(0, Operand.const (Value.agg #[Value.int IntKind.i64 0, Value.string { data := #[] }, Value.int IntKind.i64 0, Value.string { data := #[] }, Value.int IntKind.i64 0, Value.int IntKind.i64 0, Value.int IntKind.i64 0, Value.slice none 0 0])), (1, Operand.const (Value.agg #[Value.int IntKind.i64 0, Value.string { data := #[] }, Value.int IntKind.i64 0, Value.string { data := #[] }, Value.int IntKind.i64 0, Value.int IntKind.i64 0, Value.int IntKind.i64 0, Value.slice none 0 0]))], type := 23, pos := "law.go:52", after := #[], guard := none }) rfl (fun K hK => ?_) AllReadyH.nil
            go_simp
            refine hK.out _ _ ?_ (fun hHeld => ?_)
            · exact hHeld.trans (Ex.of_below ((Below.refl _ _).alloc (Nat.le_refl _) _))
            clear hK K
            try go_frame
            refine wpAnyH_ready (rs := [8]) (by kernel_rfl) (by simp) ?_
            refine AllReadyH.cons (o := { dst := some 34, op := Op.call { callee := Callee.builtin Builtin.append, args := #[Operand.tmp 29, Operand.tmp 33], argTypes := #[23, 23] }, type := 23, pos := "law.go:52", after := #[{ on := 3, ground := Ground.data }, { on := 7, ground := Ground.data }, { on := 0, ground := Ground.phase }, { on := 1, ground := Ground.phase }, { on := 2, ground := Ground.phase }, { on := 3, ground := Ground.phase }, { on := 4, ground := Ground.phase }, { on := 5, ground := Ground.phase }, { on := 6, ground := Ground.phase }, { on := 7, ground := Ground.phase }], guard := none }) rfl (fun K hK => ?_) AllReadyH.nil
            refine step_append_at rfl (.tmp 29) (.tmp 33) 23 rfl lo 25 i0 (.agg #[.int .i64 0, .string ⟨#[]⟩, .int .i64 0, .string ⟨#[]⟩, .int .i64 0, .int .i64 0, .int .i64 0, .slice none 0 0]) 8 96 Tryz.underlying23 (unhide HI0) (unhide HZ0) (unhide HZ1) (unhide HZ2) rfl (by decide) (.slice (some ⟨g, 0, none⟩) N N) N curk.toList rfl (unhide (HOW _)) ⟨wr.drew.heap.size, 0, none⟩ 2 2 (ncs (zNd, .slice none 0 0) ++ ncs (zNd, .slice none 0 0)) rfl rfl (node2_new wr.drew) node2_one (unhide HM1) (unhide HM2) (unhide (HLO _)) ?_
            intro v7 w7 ho7 hg7 hl7
            obtain ⟨g8, c8, cur8, rfl, hlo8, hg8, hle8, hz8⟩ := own_blk2 ho7
            have hne8 : g8 ≠ b := unhide HFAR _ hl7
            have hX8 : ∀ i, i < wr.heap.size → i = g8 → (lo ≤ i ∧ i < hi) ∨ i = b := fun i h1 h2 => Or.inl (unhide HNEW _ hl7 i h1 h2)
            have HX8 := hide hX8
            have hb7 : w7.heap[b]? = some (.cells cur T (0, 0)) := (hg7.block b (by show b < (wr.alloc _).heap.size; rw [World.size_alloc]; omega) (unhide HNOB)).trans (((Below.refl wr.drew.heap.size wr.drew).alloc (Nat.le_refl _) _).block b hbw |>.trans (unhide HBB))
            have HB7 := hide hb7
            have HG8 := hide hg8
            have HE7 := hide (show Ex (fun i => (lo ≤ i ∧ i < hi) ∨ i = b) _ w7 from Ex.of_grown hg7 fun i e => Or.inl (unhide HOWN i e))
            have HZ8 := hide hz8
            have HLE := hide hle8
            have HBL7 := hide (show b < w7.heap.size from Nat.lt_of_lt_of_le (by show b < (wr.alloc _).heap.size; rw [World.size_alloc]; omega) hg7.size)
            clear ho7 hg7 hl7 hX8 hb7 hg8 hz8 hlo8
            refine hK.out _ _ ?_ (fun hHeld => ?_)
            · exact hHeld.trans (unhide HE7)
            clear hK K
            try go_frame
            refine wpAnyH_take (i := 9) (oi := { dst := some 35, op := Op.indexAddr 23 (Operand.tmp 34) (Operand.tmp 32), type := 0, pos := "law.go:52", after := #[{ on := 8, ground := Ground.data }, { on := 6, ground := Ground.data }, { on := 0, ground := Ground.phase }, { on := 1, ground := Ground.phase }, { on := 2, ground := Ground.phase }, { on := 3, ground := Ground.phase }, { on := 4, ground := Ground.phase }, { on := 5, ground := Ground.phase }, { on := 6, ground := Ground.phase }, { on := 7, ground := Ground.phase }, { on := 8, ground := Ground.phase }, { on := 16, ground := Ground.gcOnly Departure.appendInPlace }], guard := none }) (v := ?_) rfl (by kernel_rfl) (by kernel_rfl) (by kernel_rfl) (fun _ _ _ h => h) (Or.inl ⟨by rfl, ?_⟩) (by assumption) ?_
            rotate_left
            · intro wq hSw
              go_simp
              try (with_reducible rfl)
            go_frame
            refine wpAnyH_take (i := 14) (oi := { dst := some 38, op := Op.nilCheck (Operand.tmp 26), type := 0, pos := "law.go:52", after := #[{ on := 0, ground := Ground.data }, { on := 0, ground := Ground.phase }, { on := 1, ground := Ground.phase }, { on := 2, ground := Ground.phase }, { on := 3, ground := Ground.phase }, { on := 4, ground := Ground.phase }, { on := 5, ground := Ground.phase }, { on := 6, ground := Ground.phase }, { on := 7, ground := Ground.phase }, { on := 8, ground := Ground.phase }, { on := 9, ground := Ground.textOnly Departure.appendInPlace }, { on := 10, ground := Ground.textOnly Departure.appendInPlace }, { on := 11, ground := Ground.textOnly Departure.appendInPlace }, { on := 12, ground := Ground.textOnly Departure.appendInPlace }, { on := 13, ground := Ground.textOnly Departure.appendInPlace }], guard := none }) (v := ?_) rfl (by kernel_rfl) (by kernel_rfl) (by kernel_rfl) (fun _ _ _ h => h) (Or.inl ⟨by rfl, ?_⟩) (by assumption) ?_
            rotate_left
            · intro wq hSw
              go_simp
              try (with_reducible rfl)
            go_frame
            refine wpAnyH_take (i := 15) (oi := { dst := some 39, op := Op.fieldAddr 25 (Operand.tmp 38) 7, type := 0, pos := "law.go:52", after := #[{ on := 14, ground := Ground.data }, { on := 0, ground := Ground.phase }, { on := 1, ground := Ground.phase }, { on := 2, ground := Ground.phase }, { on := 3, ground := Ground.phase }, { on := 4, ground := Ground.phase }, { on := 5, ground := Ground.phase }, { on := 6, ground := Ground.phase }, { on := 7, ground := Ground.phase }, { on := 8, ground := Ground.phase }, { on := 9, ground := Ground.textOnly Departure.appendInPlace }, { on := 10, ground := Ground.textOnly Departure.appendInPlace }, { on := 11, ground := Ground.textOnly Departure.appendInPlace }, { on := 12, ground := Ground.textOnly Departure.appendInPlace }, { on := 13, ground := Ground.textOnly Departure.appendInPlace }], guard := none }) (v := ?_) rfl (by kernel_rfl) (by kernel_rfl) (by kernel_rfl) (fun _ _ _ h => h) (Or.inl ⟨by rfl, ?_⟩) (by assumption) ?_
            rotate_left
            · intro wq hSw
              go_simp
              try (with_reducible rfl)
            go_frame
            refine wpAnyH_ready (rs := [10, 16]) (by kernel_rfl) (by simp) ?_
            refine AllReadyH.cons (o := { dst := none, op := Op.store 25 (Operand.tmp 35) (Operand.tmp 30), type := 0, pos := "law.go:52", after := #[{ on := 9, ground := Ground.data }, { on := 4, ground := Ground.data }, { on := 8, ground := Ground.chain }, { on := 0, ground := Ground.phase }, { on := 1, ground := Ground.phase }, { on := 2, ground := Ground.phase }, { on := 3, ground := Ground.phase }, { on := 4, ground := Ground.phase }, { on := 5, ground := Ground.phase }, { on := 6, ground := Ground.phase }, { on := 7, ground := Ground.phase }, { on := 8, ground := Ground.phase }, { on := 16, ground := Ground.gcOnly Departure.appendInPlace }], guard := none }) rfl (fun K hK => ?_) (AllReadyH.cons (o := { dst := none, op := Op.store 23 (Operand.tmp 39) (Operand.tmp 34), type := 0, pos := "law.go:52", after := #[{ on := 15, ground := Ground.data }, { on := 8, ground := Ground.data }, { on := 8, ground := Ground.chain }, { on := 13, ground := Ground.textOnly Departure.appendInPlace }, { on := 0, ground := Ground.phase }, { on := 1, ground := Ground.phase }, { on := 2, ground := Ground.phase }, { on := 3, ground := Ground.phase }, { on := 4, ground := Ground.phase }, { on := 5, ground := Ground.phase }, { on := 6, ground := Ground.phase }, { on := 7, ground := Ground.phase }, { on := 8, ground := Ground.phase }, { on := 9, ground := Ground.textOnly Departure.appendInPlace }, { on := 10, ground := Ground.textOnly Departure.appendInPlace }, { on := 11, ground := Ground.textOnly Departure.appendInPlace }, { on := 12, ground := Ground.textOnly Departure.appendInPlace }, { on := 13, ground := Ground.textOnly Departure.appendInPlace }], guard := none }) rfl (fun K hK => ?_) AllReadyH.nil)
            · refine step_store rfl (.tmp 35) (.tmp 30) 25 rfl g8 (N * 8) #[.int .i64 0, .string ⟨#[109, 111, 114, 101]⟩, .int .i64 0, .string ⟨#[]⟩, .int .i64 0, .int .i64 0, .int .i64 0, .slice none 0 0] rfl rfl (there_of (n := 8) (unhide HG8) (by have := unhide HLE; have := unhide HZ8; omega)) Tryz.sizeN (all_oneCell_toArray (node_one moreNd rfl)) ?_
              intro w9 hw
              obtain ⟨cur_w9, h1_w9, h2_w9, _, _⟩ := blk_setCells #[.int .i64 0, .string ⟨#[109, 111, 114, 101]⟩, .int .i64 0, .string ⟨#[]⟩, .int .i64 0, .int .i64 0, .int .i64 0, .slice none 0 0].toList (N * 8) (unhide HG8)
              have HG_w9 : Hid (w9.heap[g8]? = some (.cells cur_w9 25 (0, 0))) := hide (by rw [hw]; exact h1_w9)
              have HS_w9 := hide h2_w9
              have HE_w9 : Hid (Ex (fun i => i = g8) w7 w9) := hide (by rw [hw]; exact ex_setCells _ _ _)
              have HZ_w9 : Hid (w9.heap.size = (w7).heap.size) := hide (by rw [hw]; exact size_setCells _ _ _)
              clear hw h1_w9 h2_w9
              refine hK.out _ _ ?_ (fun hHeld => ?_)
              · exact hHeld.trans' (unhide HE_w9) (unhide HX8)
              clear hK K
              try go_frame
              refine wpAnyH_take (i := 12) (oi := { dst := some 37, op := Op.indexAddr 23 (Operand.tmp 34) (Operand.tmp 36), type := 0, pos := "law.go:52", after := #[{ on := 8, ground := Ground.data }, { on := 11, ground := Ground.data }, { on := 0, ground := Ground.phase }, { on := 1, ground := Ground.phase }, { on := 2, ground := Ground.phase }, { on := 3, ground := Ground.phase }, { on := 4, ground := Ground.phase }, { on := 5, ground := Ground.phase }, { on := 6, ground := Ground.phase }, { on := 7, ground := Ground.phase }, { on := 8, ground := Ground.phase }, { on := 9, ground := Ground.phase }, { on := 10, ground := Ground.phase }, { on := 11, ground := Ground.phase }, { on := 16, ground := Ground.gcOnly Departure.appendInPlace }], guard := none }) (v := ?_) rfl (by kernel_rfl) (by kernel_rfl) (by kernel_rfl) (fun _ _ _ h => h) (Or.inl ⟨by rfl, ?_⟩) (by assumption) ?_
              rotate_left
              · intro wq hSw
                go_simp
                try (with_reducible rfl)
              go_frame
              have HB9 : Hid (w9.heap[b]? = some (.cells cur T (0, 0))) := hide (((unhide HE_w9).block b (unhide HBL7) (Ne.symm hne8)).trans (unhide HB7))
              refine wpAnyH_ready (rs := [13, 16]) (by kernel_rfl) (by simp) ?_
              refine AllReadyH.cons (o := { dst := none, op := Op.store 25 (Operand.tmp 37) (Operand.tmp 31), type := 0, pos := "law.go:52", after := #[{ on := 12, ground := Ground.data }, { on := 5, ground := Ground.data }, { on := 10, ground := Ground.chain }, { on := 0, ground := Ground.phase }, { on := 1, ground := Ground.phase }, { on := 2, ground := Ground.phase }, { on := 3, ground := Ground.phase }, { on := 4, ground := Ground.phase }, { on := 5, ground := Ground.phase }, { on := 6, ground := Ground.phase }, { on := 7, ground := Ground.phase }, { on := 8, ground := Ground.phase }, { on := 9, ground := Ground.phase }, { on := 10, ground := Ground.phase }, { on := 11, ground := Ground.phase }, { on := 16, ground := Ground.gcOnly Departure.appendInPlace }], guard := none }) rfl (fun K hK => ?_) (AllReadyH.cons (o := { dst := none, op := Op.store 23 (Operand.tmp 39) (Operand.tmp 34), type := 0, pos := "law.go:52", after := #[{ on := 15, ground := Ground.data }, { on := 8, ground := Ground.data }, { on := 8, ground := Ground.chain }, { on := 13, ground := Ground.textOnly Departure.appendInPlace }, { on := 0, ground := Ground.phase }, { on := 1, ground := Ground.phase }, { on := 2, ground := Ground.phase }, { on := 3, ground := Ground.phase }, { on := 4, ground := Ground.phase }, { on := 5, ground := Ground.phase }, { on := 6, ground := Ground.phase }, { on := 7, ground := Ground.phase }, { on := 8, ground := Ground.phase }, { on := 9, ground := Ground.textOnly Departure.appendInPlace }, { on := 10, ground := Ground.textOnly Departure.appendInPlace }, { on := 11, ground := Ground.textOnly Departure.appendInPlace }, { on := 12, ground := Ground.textOnly Departure.appendInPlace }, { on := 13, ground := Ground.textOnly Departure.appendInPlace }], guard := none }) rfl (fun K hK => ?_) AllReadyH.nil)
              · refine step_store rfl (.tmp 37) (.tmp 31) 25 rfl g8 ((N + 1) * 8) #[.int .i64 0, .string ⟨#[109, 111, 114, 101]⟩, .int .i64 0, .string ⟨#[]⟩, .int .i64 0, .int .i64 0, .int .i64 0, .slice none 0 0] rfl rfl (there_of (n := 8) (unhide HG_w9) (by have := unhide HLE; have := unhide HZ8; have := unhide HS_w9; omega)) Tryz.sizeN (all_oneCell_toArray (node_one moreNd rfl)) ?_
                intro w10 hw
                obtain ⟨cur_w10, h1_w10, h2_w10, _, _⟩ := blk_setCells #[.int .i64 0, .string ⟨#[109, 111, 114, 101]⟩, .int .i64 0, .string ⟨#[]⟩, .int .i64 0, .int .i64 0, .int .i64 0, .slice none 0 0].toList ((N + 1) * 8) (unhide HG_w9)
                have HG_w10 : Hid (w10.heap[g8]? = some (.cells cur_w10 25 (0, 0))) := hide (by rw [hw]; exact h1_w10)
                have HS_w10 := hide h2_w10
                have HE_w10 : Hid (Ex (fun i => i = g8) w9 w10) := hide (by rw [hw]; exact ex_setCells _ _ _)
                have HZ_w10 : Hid (w10.heap.size = (w9).heap.size) := hide (by rw [hw]; exact size_setCells _ _ _)
                clear hw h1_w10 h2_w10
                refine hK.out _ _ ?_ (fun hHeld => ?_)
                · exact hHeld.trans' (unhide HE_w10) (unhide HX8)
                clear hK K
                try go_frame
                have hb10 : w10.heap[b]? = some (.cells cur T (0, 0)) := ((unhide HE_w10).block b (by have := unhide HZ_w9; have := unhide HBL7; omega) (Ne.symm hne8)).trans (unhide HB9)
                have k10 := cell_of hb10 (unhide HCV)
                have f10 : w10.frozen? ⟨b, o + 7, none⟩ = false := froz_of hb10
                have HB10 := hide hb10
                clear hb10
                refine wpAnyH_ready (rs := [16]) (by kernel_rfl) (by simp) ?_
                refine AllReadyH.cons (o := { dst := none, op := Op.store 23 (Operand.tmp 39) (Operand.tmp 34), type := 0, pos := "law.go:52", after := #[{ on := 15, ground := Ground.data }, { on := 8, ground := Ground.data }, { on := 8, ground := Ground.chain }, { on := 13, ground := Ground.textOnly Departure.appendInPlace }, { on := 0, ground := Ground.phase }, { on := 1, ground := Ground.phase }, { on := 2, ground := Ground.phase }, { on := 3, ground := Ground.phase }, { on := 4, ground := Ground.phase }, { on := 5, ground := Ground.phase }, { on := 6, ground := Ground.phase }, { on := 7, ground := Ground.phase }, { on := 8, ground := Ground.phase }, { on := 9, ground := Ground.textOnly Departure.appendInPlace }, { on := 10, ground := Ground.textOnly Departure.appendInPlace }, { on := 11, ground := Ground.textOnly Departure.appendInPlace }, { on := 12, ground := Ground.textOnly Departure.appendInPlace }, { on := 13, ground := Ground.textOnly Departure.appendInPlace }], guard := none }) rfl (fun K hK => ?_) AllReadyH.nil
                go_simp
                refine hK.out _ _ ?_ (fun hHeld => ?_)
                · exact hHeld.trans (Ex.setCell _ _ _ _ (Or.inr rfl))
                clear hK K
                try go_frame
                refine wpAnyH_done (by kernel_rfl) ?_ _
                go_end0
                exact ⟨rfl, (unhide HRE).trans hHeld, _, set_blk (unhide HB10)⟩
              · have k9 := cell_of (unhide HB9) (unhide HCV)
                have f9 : w9.frozen? ⟨b, o + 7, none⟩ = false := froz_of (unhide HB9)
                go_simp
                refine hK.out _ _ ?_ (fun hHeld => ?_)
                · exact hHeld.trans (Ex.setCell _ _ _ _ (Or.inr rfl))
                clear hK K
                try go_frame
                have HGs : Hid ((w9.setCell ⟨b, o + 7, none⟩ (.slice (some ⟨g8, 0, none⟩) (N + 2) c8)).heap[g8]? = some (.cells cur_w9 25 (0, 0))) := hide ((Below.heap_setCell _ _ _ _ hne8).trans (unhide HG_w9))
                refine wpAnyH_ready (rs := [13]) (by kernel_rfl) (by simp) ?_
                refine AllReadyH.cons (o := { dst := none, op := Op.store 25 (Operand.tmp 37) (Operand.tmp 31), type := 0, pos := "law.go:52", after := #[{ on := 12, ground := Ground.data }, { on := 5, ground := Ground.data }, { on := 10, ground := Ground.chain }, { on := 0, ground := Ground.phase }, { on := 1, ground := Ground.phase }, { on := 2, ground := Ground.phase }, { on := 3, ground := Ground.phase }, { on := 4, ground := Ground.phase }, { on := 5, ground := Ground.phase }, { on := 6, ground := Ground.phase }, { on := 7, ground := Ground.phase }, { on := 8, ground := Ground.phase }, { on := 9, ground := Ground.phase }, { on := 10, ground := Ground.phase }, { on := 11, ground := Ground.phase }, { on := 16, ground := Ground.gcOnly Departure.appendInPlace }], guard := none }) rfl (fun K hK => ?_) AllReadyH.nil
                refine step_store rfl (.tmp 37) (.tmp 31) 25 rfl g8 ((N + 1) * 8) #[.int .i64 0, .string ⟨#[109, 111, 114, 101]⟩, .int .i64 0, .string ⟨#[]⟩, .int .i64 0, .int .i64 0, .int .i64 0, .slice none 0 0] rfl rfl (there_of (n := 8) (unhide HGs) (by have := unhide HLE; have := unhide HZ8; have := unhide HS_w9; omega)) Tryz.sizeN (all_oneCell_toArray (node_one moreNd rfl)) ?_
                intro w10 hw
                obtain ⟨cur_w10, h1_w10, h2_w10, _, _⟩ := blk_setCells #[.int .i64 0, .string ⟨#[109, 111, 114, 101]⟩, .int .i64 0, .string ⟨#[]⟩, .int .i64 0, .int .i64 0, .int .i64 0, .slice none 0 0].toList ((N + 1) * 8) (unhide HGs)
                have HG_w10 : Hid (w10.heap[g8]? = some (.cells cur_w10 25 (0, 0))) := hide (by rw [hw]; exact h1_w10)
                have HS_w10 := hide h2_w10
                have HE_w10 : Hid (Ex (fun i => i = g8) (w9.setCell ⟨b, o + 7, none⟩ (.slice (some ⟨g8, 0, none⟩) (N + 2) c8)) w10) := hide (by rw [hw]; exact ex_setCells _ _ _)
                have HZ_w10 : Hid (w10.heap.size = ((w9.setCell ⟨b, o + 7, none⟩ (.slice (some ⟨g8, 0, none⟩) (N + 2) c8))).heap.size) := hide (by rw [hw]; exact size_setCells _ _ _)
                clear hw h1_w10 h2_w10
                refine hK.out _ _ ?_ (fun hHeld => ?_)
                · exact hHeld.trans' (unhide HE_w10) (unhide HX8)
                clear hK K
                try go_frame
                refine wpAnyH_done (by kernel_rfl) ?_ _
                go_end0
                exact ⟨rfl, (unhide HRE).trans hHeld, _, ((unhide HE_w10).block b (by have := unhide HZ_w9; have := unhide HBL7; simp [World.setCell]; omega) (Ne.symm hne8)).trans (set_blk (unhide HB9))⟩
            · have k7 := cell_of (unhide HB7) (unhide HCV)
              have f7 : w7.frozen? ⟨b, o + 7, none⟩ = false := froz_of (unhide HB7)
              go_simp
              refine hK.out _ _ ?_ (fun hHeld => ?_)
              · exact hHeld.trans (Ex.setCell _ _ _ _ (Or.inr rfl))
              clear hK K
              try go_frame
              have HGs : Hid ((w7.setCell ⟨b, o + 7, none⟩ (.slice (some ⟨g8, 0, none⟩) (N + 2) c8)).heap[g8]? = some (.cells cur8 25 (0, 0))) := hide ((Below.heap_setCell _ _ _ _ hne8).trans (unhide HG8))
              refine wpAnyH_ready (rs := [10]) (by kernel_rfl) (by simp) ?_
              refine AllReadyH.cons (o := { dst := none, op := Op.store 25 (Operand.tmp 35) (Operand.tmp 30), type := 0, pos := "law.go:52", after := #[{ on := 9, ground := Ground.data }, { on := 4, ground := Ground.data }, { on := 8, ground := Ground.chain }, { on := 0, ground := Ground.phase }, { on := 1, ground := Ground.phase }, { on := 2, ground := Ground.phase }, { on := 3, ground := Ground.phase }, { on := 4, ground := Ground.phase }, { on := 5, ground := Ground.phase }, { on := 6, ground := Ground.phase }, { on := 7, ground := Ground.phase }, { on := 8, ground := Ground.phase }, { on := 16, ground := Ground.gcOnly Departure.appendInPlace }], guard := none }) rfl (fun K hK => ?_) AllReadyH.nil
              refine step_store rfl (.tmp 35) (.tmp 30) 25 rfl g8 (N * 8) #[.int .i64 0, .string ⟨#[109, 111, 114, 101]⟩, .int .i64 0, .string ⟨#[]⟩, .int .i64 0, .int .i64 0, .int .i64 0, .slice none 0 0] rfl rfl (there_of (n := 8) (unhide HGs) (by have := unhide HLE; have := unhide HZ8; omega)) Tryz.sizeN (all_oneCell_toArray (node_one moreNd rfl)) ?_
              intro w9 hw
              obtain ⟨cur_w9, h1_w9, h2_w9, _, _⟩ := blk_setCells #[.int .i64 0, .string ⟨#[109, 111, 114, 101]⟩, .int .i64 0, .string ⟨#[]⟩, .int .i64 0, .int .i64 0, .int .i64 0, .slice none 0 0].toList (N * 8) (unhide HGs)
              have HG_w9 : Hid (w9.heap[g8]? = some (.cells cur_w9 25 (0, 0))) := hide (by rw [hw]; exact h1_w9)
              have HS_w9 := hide h2_w9
              have HE_w9 : Hid (Ex (fun i => i = g8) (w7.setCell ⟨b, o + 7, none⟩ (.slice (some ⟨g8, 0, none⟩) (N + 2) c8)) w9) := hide (by rw [hw]; exact ex_setCells _ _ _)
              have HZ_w9 : Hid (w9.heap.size = ((w7.setCell ⟨b, o + 7, none⟩ (.slice (some ⟨g8, 0, none⟩) (N + 2) c8))).heap.size) := hide (by rw [hw]; exact size_setCells _ _ _)
              clear hw h1_w9 h2_w9
              refine hK.out _ _ ?_ (fun hHeld => ?_)
              · exact hHeld.trans' (unhide HE_w9) (unhide HX8)
              clear hK K
              try go_frame
              refine wpAnyH_take (i := 12) (oi := { dst := some 37, op := Op.indexAddr 23 (Operand.tmp 34) (Operand.tmp 36), type := 0, pos := "law.go:52", after := #[{ on := 8, ground := Ground.data }, { on := 11, ground := Ground.data }, { on := 0, ground := Ground.phase }, { on := 1, ground := Ground.phase }, { on := 2, ground := Ground.phase }, { on := 3, ground := Ground.phase }, { on := 4, ground := Ground.phase }, { on := 5, ground := Ground.phase }, { on := 6, ground := Ground.phase }, { on := 7, ground := Ground.phase }, { on := 8, ground := Ground.phase }, { on := 9, ground := Ground.phase }, { on := 10, ground := Ground.phase }, { on := 11, ground := Ground.phase }, { on := 16, ground := Ground.gcOnly Departure.appendInPlace }], guard := none }) (v := ?_) rfl (by kernel_rfl) (by kernel_rfl) (by kernel_rfl) (fun _ _ _ h => h) (Or.inl ⟨by rfl, ?_⟩) (by assumption) ?_
              rotate_left
              · intro wq hSw
                go_simp
                try (with_reducible rfl)
              go_frame
              refine wpAnyH_ready (rs := [13]) (by kernel_rfl) (by simp) ?_
              refine AllReadyH.cons (o := { dst := none, op := Op.store 25 (Operand.tmp 37) (Operand.tmp 31), type := 0, pos := "law.go:52", after := #[{ on := 12, ground := Ground.data }, { on := 5, ground := Ground.data }, { on := 10, ground := Ground.chain }, { on := 0, ground := Ground.phase }, { on := 1, ground := Ground.phase }, { on := 2, ground := Ground.phase }, { on := 3, ground := Ground.phase }, { on := 4, ground := Ground.phase }, { on := 5, ground := Ground.phase }, { on := 6, ground := Ground.phase }, { on := 7, ground := Ground.phase }, { on := 8, ground := Ground.phase }, { on := 9, ground := Ground.phase }, { on := 10, ground := Ground.phase }, { on := 11, ground := Ground.phase }, { on := 16, ground := Ground.gcOnly Departure.appendInPlace }], guard := none }) rfl (fun K hK => ?_) AllReadyH.nil
              refine step_store rfl (.tmp 37) (.tmp 31) 25 rfl g8 ((N + 1) * 8) #[.int .i64 0, .string ⟨#[109, 111, 114, 101]⟩, .int .i64 0, .string ⟨#[]⟩, .int .i64 0, .int .i64 0, .int .i64 0, .slice none 0 0] rfl rfl (there_of (n := 8) (unhide HG_w9) (by have := unhide HLE; have := unhide HZ8; have := unhide HS_w9; omega)) Tryz.sizeN (all_oneCell_toArray (node_one moreNd rfl)) ?_
              intro w10 hw
              obtain ⟨cur_w10, h1_w10, h2_w10, _, _⟩ := blk_setCells #[.int .i64 0, .string ⟨#[109, 111, 114, 101]⟩, .int .i64 0, .string ⟨#[]⟩, .int .i64 0, .int .i64 0, .int .i64 0, .slice none 0 0].toList ((N + 1) * 8) (unhide HG_w9)
              have HG_w10 : Hid (w10.heap[g8]? = some (.cells cur_w10 25 (0, 0))) := hide (by rw [hw]; exact h1_w10)
              have HS_w10 := hide h2_w10
              have HE_w10 : Hid (Ex (fun i => i = g8) w9 w10) := hide (by rw [hw]; exact ex_setCells _ _ _)
              have HZ_w10 : Hid (w10.heap.size = (w9).heap.size) := hide (by rw [hw]; exact size_setCells _ _ _)
              clear hw h1_w10 h2_w10
              refine hK.out _ _ ?_ (fun hHeld => ?_)
              · exact hHeld.trans' (unhide HE_w10) (unhide HX8)
              clear hK K
              try go_frame
              refine wpAnyH_done (by kernel_rfl) ?_ _
              go_end0
              exact ⟨rfl, (unhide HRE).trans hHeld, _, ((unhide HE_w10).block b (by rw [show w9.heap.size = w7.heap.size by rw [unhide HZ_w9]; simp [World.setCell]]; exact unhide HBL7) (Ne.symm hne8)).trans (((unhide HE_w9).block b (by simp [World.setCell]; exact unhide HBL7) (Ne.symm hne8)).trans (set_blk (unhide HB7)))⟩
          · go_simp
            refine hK.out _ _ ?_ (fun hHeld => ?_)
            · exact hHeld.trans (Ex.of_below ((Below.refl _ _).alloc (Nat.le_refl _) _))
            clear hK K
            try go_frame
            refine wpAnyH_ready (rs := [3]) (by kernel_rfl) (by simp) ?_
            refine AllReadyH.cons (o := { dst := some 29, op := Op.load 23 (Operand.tmp 28), type := 23, pos := "law.go:52", after := #[{ on := 2, ground := Ground.data }], guard := none }) rfl (fun K hK => ?_) AllReadyH.nil
            go_simp
            refine hK.out _ _ ?_ (fun hHeld => ?_)
            · exact hHeld
            clear hK K
            try go_frame
            refine wpAnyH_take (i := 6) (oi := { dst := some 32, op := Op.call { callee := Callee.builtin Builtin.len, args := #[Operand.tmp 29], argTypes := #[23] }, type := 3, pos := "law.go:52", after := #[{ on := 3, ground := Ground.data }], guard := none }) (v := ?_) rfl (by kernel_rfl) (by kernel_rfl) (by kernel_rfl) (fun _ _ _ h => h) (Or.inl ⟨by rfl, ?_⟩) (by assumption) ?_
            rotate_left
            · intro wq hSw
              go_simp
              try (with_reducible rfl)
            go_frame
            refine wpAnyH_take (i := 11) (oi := { dst := some 36, op := Op.binOp BinOp.add 3 (Operand.tmp 32) (Operand.const (Value.int IntKind.i64 1)) 3, type := 3, pos := "law.go:52", after := #[{ on := 6, ground := Ground.data }, { on := 16, ground := Ground.gcOnly Departure.appendInPlace }], guard := none }) (v := ?_) rfl (by kernel_rfl) (by kernel_rfl) (by kernel_rfl) (fun _ _ _ h => h) (Or.inl ⟨by rfl, ?_⟩) (by assumption) ?_
            rotate_left
            · intro wq hSw
              go_simp
              try (with_reducible rfl)
            go_frame
            refine wpAnyH_ready (rs := [8]) (by kernel_rfl) (by simp) ?_
            refine AllReadyH.cons (o := { dst := some 34, op := Op.call { callee := Callee.builtin Builtin.append, args := #[Operand.tmp 29, Operand.tmp 33], argTypes := #[23, 23] }, type := 23, pos := "law.go:52", after := #[{ on := 3, ground := Ground.data }, { on := 7, ground := Ground.data }, { on := 0, ground := Ground.phase }, { on := 1, ground := Ground.phase }, { on := 2, ground := Ground.phase }, { on := 3, ground := Ground.phase }, { on := 4, ground := Ground.phase }, { on := 5, ground := Ground.phase }, { on := 6, ground := Ground.phase }, { on := 7, ground := Ground.phase }], guard := none }) rfl (fun K hK => ?_) AllReadyH.nil
            refine step_append_at rfl (.tmp 29) (.tmp 33) 23 rfl lo 25 i0 (.agg #[.int .i64 0, .string ⟨#[]⟩, .int .i64 0, .string ⟨#[]⟩, .int .i64 0, .int .i64 0, .int .i64 0, .slice none 0 0]) 8 96 Tryz.underlying23 (unhide HI0) (unhide HZ0) (unhide HZ1) (unhide HZ2) rfl (by decide) (.slice (some ⟨g, 0, none⟩) N N) N curk.toList rfl (unhide (HOW _)) ⟨wr.drew.heap.size, 0, none⟩ 2 2 (ncs (zNd, .slice none 0 0) ++ ncs (zNd, .slice none 0 0)) rfl rfl (node2_new wr.drew) node2_one (unhide HM1) (unhide HM2) (unhide (HLO _)) ?_
            intro v7 w7 ho7 hg7 hl7
            obtain ⟨g8, c8, cur8, rfl, hlo8, hg8, hle8, hz8⟩ := own_blk2 ho7
            have hne8 : g8 ≠ b := unhide HFAR _ hl7
            have hX8 : ∀ i, i < wr.heap.size → i = g8 → (lo ≤ i ∧ i < hi) ∨ i = b := fun i h1 h2 => Or.inl (unhide HNEW _ hl7 i h1 h2)
            have HX8 := hide hX8
            have hb7 : w7.heap[b]? = some (.cells cur T (0, 0)) := (hg7.block b (by show b < (wr.alloc _).heap.size; rw [World.size_alloc]; omega) (unhide HNOB)).trans (((Below.refl wr.drew.heap.size wr.drew).alloc (Nat.le_refl _) _).block b hbw |>.trans (unhide HBB))
            have HB7 := hide hb7
            have HG8 := hide hg8
            have HE7 := hide (show Ex (fun i => (lo ≤ i ∧ i < hi) ∨ i = b) _ w7 from Ex.of_grown hg7 fun i e => Or.inl (unhide HOWN i e))
            have HZ8 := hide hz8
            have HLE := hide hle8
            have HBL7 := hide (show b < w7.heap.size from Nat.lt_of_lt_of_le (by show b < (wr.alloc _).heap.size; rw [World.size_alloc]; omega) hg7.size)
            clear ho7 hg7 hl7 hX8 hb7 hg8 hz8 hlo8
            refine hK.out _ _ ?_ (fun hHeld => ?_)
            · exact hHeld.trans (unhide HE7)
            clear hK K
            try go_frame
            refine wpAnyH_take (i := 9) (oi := { dst := some 35, op := Op.indexAddr 23 (Operand.tmp 34) (Operand.tmp 32), type := 0, pos := "law.go:52", after := #[{ on := 8, ground := Ground.data }, { on := 6, ground := Ground.data }, { on := 0, ground := Ground.phase }, { on := 1, ground := Ground.phase }, { on := 2, ground := Ground.phase }, { on := 3, ground := Ground.phase }, { on := 4, ground := Ground.phase }, { on := 5, ground := Ground.phase }, { on := 6, ground := Ground.phase }, { on := 7, ground := Ground.phase }, { on := 8, ground := Ground.phase }, { on := 16, ground := Ground.gcOnly Departure.appendInPlace }], guard := none }) (v := ?_) rfl (by kernel_rfl) (by kernel_rfl) (by kernel_rfl) (fun _ _ _ h => h) (Or.inl ⟨by rfl, ?_⟩) (by assumption) ?_
            rotate_left
            · intro wq hSw
              go_simp
              try (with_reducible rfl)
            go_frame
            refine wpAnyH_take (i := 14) (oi := { dst := some 38, op := Op.nilCheck (Operand.tmp 26), type := 0, pos := "law.go:52", after := #[{ on := 0, ground := Ground.data }, { on := 0, ground := Ground.phase }, { on := 1, ground := Ground.phase }, { on := 2, ground := Ground.phase }, { on := 3, ground := Ground.phase }, { on := 4, ground := Ground.phase }, { on := 5, ground := Ground.phase }, { on := 6, ground := Ground.phase }, { on := 7, ground := Ground.phase }, { on := 8, ground := Ground.phase }, { on := 9, ground := Ground.textOnly Departure.appendInPlace }, { on := 10, ground := Ground.textOnly Departure.appendInPlace }, { on := 11, ground := Ground.textOnly Departure.appendInPlace }, { on := 12, ground := Ground.textOnly Departure.appendInPlace }, { on := 13, ground := Ground.textOnly Departure.appendInPlace }], guard := none }) (v := ?_) rfl (by kernel_rfl) (by kernel_rfl) (by kernel_rfl) (fun _ _ _ h => h) (Or.inl ⟨by rfl, ?_⟩) (by assumption) ?_
            rotate_left
            · intro wq hSw
              go_simp
              try (with_reducible rfl)
            go_frame
            refine wpAnyH_take (i := 15) (oi := { dst := some 39, op := Op.fieldAddr 25 (Operand.tmp 38) 7, type := 0, pos := "law.go:52", after := #[{ on := 14, ground := Ground.data }, { on := 0, ground := Ground.phase }, { on := 1, ground := Ground.phase }, { on := 2, ground := Ground.phase }, { on := 3, ground := Ground.phase }, { on := 4, ground := Ground.phase }, { on := 5, ground := Ground.phase }, { on := 6, ground := Ground.phase }, { on := 7, ground := Ground.phase }, { on := 8, ground := Ground.phase }, { on := 9, ground := Ground.textOnly Departure.appendInPlace }, { on := 10, ground := Ground.textOnly Departure.appendInPlace }, { on := 11, ground := Ground.textOnly Departure.appendInPlace }, { on := 12, ground := Ground.textOnly Departure.appendInPlace }, { on := 13, ground := Ground.textOnly Departure.appendInPlace }], guard := none }) (v := ?_) rfl (by kernel_rfl) (by kernel_rfl) (by kernel_rfl) (fun _ _ _ h => h) (Or.inl ⟨by rfl, ?_⟩) (by assumption) ?_
            rotate_left
            · intro wq hSw
              go_simp
              try (with_reducible rfl)
            go_frame
            refine wpAnyH_ready (rs := [10, 16]) (by kernel_rfl) (by simp) ?_
            refine AllReadyH.cons (o := { dst := none, op := Op.store 25 (Operand.tmp 35) (Operand.tmp 30), type := 0, pos := "law.go:52", after := #[{ on := 9, ground := Ground.data }, { on := 4, ground := Ground.data }, { on := 8, ground := Ground.chain }, { on := 0, ground := Ground.phase }, { on := 1, ground := Ground.phase }, { on := 2, ground := Ground.phase }, { on := 3, ground := Ground.phase }, { on := 4, ground := Ground.phase }, { on := 5, ground := Ground.phase }, { on := 6, ground := Ground.phase }, { on := 7, ground := Ground.phase }, { on := 8, ground := Ground.phase }, { on := 16, ground := Ground.gcOnly Departure.appendInPlace }], guard := none }) rfl (fun K hK => ?_) (AllReadyH.cons (o := { dst := none, op := Op.store 23 (Operand.tmp 39) (Operand.tmp 34), type := 0, pos := "law.go:52", after := #[{ on := 15, ground := Ground.data }, { on := 8, ground := Ground.data }, { on := 8, ground := Ground.chain }, { on := 13, ground := Ground.textOnly Departure.appendInPlace }, { on := 0, ground := Ground.phase }, { on := 1, ground := Ground.phase }, { on := 2, ground := Ground.phase }, { on := 3, ground := Ground.phase }, { on := 4, ground := Ground.phase }, { on := 5, ground := Ground.phase }, { on := 6, ground := Ground.phase }, { on := 7, ground := Ground.phase }, { on := 8, ground := Ground.phase }, { on := 9, ground := Ground.textOnly Departure.appendInPlace }, { on := 10, ground := Ground.textOnly Departure.appendInPlace }, { on := 11, ground := Ground.textOnly Departure.appendInPlace }, { on := 12, ground := Ground.textOnly Departure.appendInPlace }, { on := 13, ground := Ground.textOnly Departure.appendInPlace }], guard := none }) rfl (fun K hK => ?_) AllReadyH.nil)
            · refine step_store rfl (.tmp 35) (.tmp 30) 25 rfl g8 (N * 8) #[.int .i64 0, .string ⟨#[109, 111, 114, 101]⟩, .int .i64 0, .string ⟨#[]⟩, .int .i64 0, .int .i64 0, .int .i64 0, .slice none 0 0] rfl rfl (there_of (n := 8) (unhide HG8) (by have := unhide HLE; have := unhide HZ8; omega)) Tryz.sizeN (all_oneCell_toArray (node_one moreNd rfl)) ?_
              intro w9 hw
              obtain ⟨cur_w9, h1_w9, h2_w9, _, _⟩ := blk_setCells #[.int .i64 0, .string ⟨#[109, 111, 114, 101]⟩, .int .i64 0, .string ⟨#[]⟩, .int .i64 0, .int .i64 0, .int .i64 0, .slice none 0 0].toList (N * 8) (unhide HG8)
              have HG_w9 : Hid (w9.heap[g8]? = some (.cells cur_w9 25 (0, 0))) := hide (by rw [hw]; exact h1_w9)
              have HS_w9 := hide h2_w9
              have HE_w9 : Hid (Ex (fun i => i = g8) w7 w9) := hide (by rw [hw]; exact ex_setCells _ _ _)
              have HZ_w9 : Hid (w9.heap.size = (w7).heap.size) := hide (by rw [hw]; exact size_setCells _ _ _)
              clear hw h1_w9 h2_w9
              refine hK.out _ _ ?_ (fun hHeld => ?_)
              · exact hHeld.trans' (unhide HE_w9) (unhide HX8)
              clear hK K
              try go_frame
              refine wpAnyH_take (i := 12) (oi := { dst := some 37, op := Op.indexAddr 23 (Operand.tmp 34) (Operand.tmp 36), type := 0, pos := "law.go:52", after := #[{ on := 8, ground := Ground.data }, { on := 11, ground := Ground.data }, { on := 0, ground := Ground.phase }, { on := 1, ground := Ground.phase }, { on := 2, ground := Ground.phase }, { on := 3, ground := Ground.phase }, { on := 4, ground := Ground.phase }, { on := 5, ground := Ground.phase }, { on := 6, ground := Ground.phase }, { on := 7, ground := Ground.phase }, { on := 8, ground := Ground.phase }, { on := 9, ground := Ground.phase }, { on := 10, ground := Ground.phase }, { on := 11, ground := Ground.phase }, { on := 16, ground := Ground.gcOnly Departure.appendInPlace }], guard := none }) (v := ?_) rfl (by kernel_rfl) (by kernel_rfl) (by kernel_rfl) (fun _ _ _ h => h) (Or.inl ⟨by rfl, ?_⟩) (by assumption) ?_
              rotate_left
              · intro wq hSw
                go_simp
                try (with_reducible rfl)
              go_frame
              have HB9 : Hid (w9.heap[b]? = some (.cells cur T (0, 0))) := hide (((unhide HE_w9).block b (unhide HBL7) (Ne.symm hne8)).trans (unhide HB7))
              refine wpAnyH_ready (rs := [13, 16]) (by kernel_rfl) (by simp) ?_
              refine AllReadyH.cons (o := { dst := none, op := Op.store 25 (Operand.tmp 37) (Operand.tmp 31), type := 0, pos := "law.go:52", after := #[{ on := 12, ground := Ground.data }, { on := 5, ground := Ground.data }, { on := 10, ground := Ground.chain }, { on := 0, ground := Ground.phase }, { on := 1, ground := Ground.phase }, { on := 2, ground := Ground.phase }, { on := 3, ground := Ground.phase }, { on := 4, ground := Ground.phase }, { on := 5, ground := Ground.phase }, { on := 6, ground := Ground.phase }, { on := 7, ground := Ground.phase }, { on := 8, ground := Ground.phase }, { on := 9, ground := Ground.phase }, { on := 10, ground := Ground.phase }, { on := 11, ground := Ground.phase }, { on := 16, ground := Ground.gcOnly Departure.appendInPlace }], guard := none }) rfl (fun K hK => ?_) (AllReadyH.cons (o := { dst := none, op := Op.store 23 (Operand.tmp 39) (Operand.tmp 34), type := 0, pos := "law.go:52", after := #[{ on := 15, ground := Ground.data }, { on := 8, ground := Ground.data }, { on := 8, ground := Ground.chain }, { on := 13, ground := Ground.textOnly Departure.appendInPlace }, { on := 0, ground := Ground.phase }, { on := 1, ground := Ground.phase }, { on := 2, ground := Ground.phase }, { on := 3, ground := Ground.phase }, { on := 4, ground := Ground.phase }, { on := 5, ground := Ground.phase }, { on := 6, ground := Ground.phase }, { on := 7, ground := Ground.phase }, { on := 8, ground := Ground.phase }, { on := 9, ground := Ground.textOnly Departure.appendInPlace }, { on := 10, ground := Ground.textOnly Departure.appendInPlace }, { on := 11, ground := Ground.textOnly Departure.appendInPlace }, { on := 12, ground := Ground.textOnly Departure.appendInPlace }, { on := 13, ground := Ground.textOnly Departure.appendInPlace }], guard := none }) rfl (fun K hK => ?_) AllReadyH.nil)
              · refine step_store rfl (.tmp 37) (.tmp 31) 25 rfl g8 ((N + 1) * 8) #[.int .i64 0, .string ⟨#[109, 111, 114, 101]⟩, .int .i64 0, .string ⟨#[]⟩, .int .i64 0, .int .i64 0, .int .i64 0, .slice none 0 0] rfl rfl (there_of (n := 8) (unhide HG_w9) (by have := unhide HLE; have := unhide HZ8; have := unhide HS_w9; omega)) Tryz.sizeN (all_oneCell_toArray (node_one moreNd rfl)) ?_
                intro w10 hw
                obtain ⟨cur_w10, h1_w10, h2_w10, _, _⟩ := blk_setCells #[.int .i64 0, .string ⟨#[109, 111, 114, 101]⟩, .int .i64 0, .string ⟨#[]⟩, .int .i64 0, .int .i64 0, .int .i64 0, .slice none 0 0].toList ((N + 1) * 8) (unhide HG_w9)
                have HG_w10 : Hid (w10.heap[g8]? = some (.cells cur_w10 25 (0, 0))) := hide (by rw [hw]; exact h1_w10)
                have HS_w10 := hide h2_w10
                have HE_w10 : Hid (Ex (fun i => i = g8) w9 w10) := hide (by rw [hw]; exact ex_setCells _ _ _)
                have HZ_w10 : Hid (w10.heap.size = (w9).heap.size) := hide (by rw [hw]; exact size_setCells _ _ _)
                clear hw h1_w10 h2_w10
                refine hK.out _ _ ?_ (fun hHeld => ?_)
                · exact hHeld.trans' (unhide HE_w10) (unhide HX8)
                clear hK K
                try go_frame
                have hb10 : w10.heap[b]? = some (.cells cur T (0, 0)) := ((unhide HE_w10).block b (by have := unhide HZ_w9; have := unhide HBL7; omega) (Ne.symm hne8)).trans (unhide HB9)
                have k10 := cell_of hb10 (unhide HCV)
                have f10 : w10.frozen? ⟨b, o + 7, none⟩ = false := froz_of hb10
                have HB10 := hide hb10
                clear hb10
                refine wpAnyH_ready (rs := [16]) (by kernel_rfl) (by simp) ?_
                refine AllReadyH.cons (o := { dst := none, op := Op.store 23 (Operand.tmp 39) (Operand.tmp 34), type := 0, pos := "law.go:52", after := #[{ on := 15, ground := Ground.data }, { on := 8, ground := Ground.data }, { on := 8, ground := Ground.chain }, { on := 13, ground := Ground.textOnly Departure.appendInPlace }, { on := 0, ground := Ground.phase }, { on := 1, ground := Ground.phase }, { on := 2, ground := Ground.phase }, { on := 3, ground := Ground.phase }, { on := 4, ground := Ground.phase }, { on := 5, ground := Ground.phase }, { on := 6, ground := Ground.phase }, { on := 7, ground := Ground.phase }, { on := 8, ground := Ground.phase }, { on := 9, ground := Ground.textOnly Departure.appendInPlace }, { on := 10, ground := Ground.textOnly Departure.appendInPlace }, { on := 11, ground := Ground.textOnly Departure.appendInPlace }, { on := 12, ground := Ground.textOnly Departure.appendInPlace }, { on := 13, ground := Ground.textOnly Departure.appendInPlace }], guard := none }) rfl (fun K hK => ?_) AllReadyH.nil
                go_simp
                refine hK.out _ _ ?_ (fun hHeld => ?_)
                · exact hHeld.trans (Ex.setCell _ _ _ _ (Or.inr rfl))
                clear hK K
                try go_frame
                refine wpAnyH_done (by kernel_rfl) ?_ _
                go_end0
                exact ⟨rfl, (unhide HRE).trans hHeld, _, set_blk (unhide HB10)⟩
              · have k9 := cell_of (unhide HB9) (unhide HCV)
                have f9 : w9.frozen? ⟨b, o + 7, none⟩ = false := froz_of (unhide HB9)
                go_simp
                refine hK.out _ _ ?_ (fun hHeld => ?_)
                · exact hHeld.trans (Ex.setCell _ _ _ _ (Or.inr rfl))
                clear hK K
                try go_frame
                have HGs : Hid ((w9.setCell ⟨b, o + 7, none⟩ (.slice (some ⟨g8, 0, none⟩) (N + 2) c8)).heap[g8]? = some (.cells cur_w9 25 (0, 0))) := hide ((Below.heap_setCell _ _ _ _ hne8).trans (unhide HG_w9))
                refine wpAnyH_ready (rs := [13]) (by kernel_rfl) (by simp) ?_
                refine AllReadyH.cons (o := { dst := none, op := Op.store 25 (Operand.tmp 37) (Operand.tmp 31), type := 0, pos := "law.go:52", after := #[{ on := 12, ground := Ground.data }, { on := 5, ground := Ground.data }, { on := 10, ground := Ground.chain }, { on := 0, ground := Ground.phase }, { on := 1, ground := Ground.phase }, { on := 2, ground := Ground.phase }, { on := 3, ground := Ground.phase }, { on := 4, ground := Ground.phase }, { on := 5, ground := Ground.phase }, { on := 6, ground := Ground.phase }, { on := 7, ground := Ground.phase }, { on := 8, ground := Ground.phase }, { on := 9, ground := Ground.phase }, { on := 10, ground := Ground.phase }, { on := 11, ground := Ground.phase }, { on := 16, ground := Ground.gcOnly Departure.appendInPlace }], guard := none }) rfl (fun K hK => ?_) AllReadyH.nil
                refine step_store rfl (.tmp 37) (.tmp 31) 25 rfl g8 ((N + 1) * 8) #[.int .i64 0, .string ⟨#[109, 111, 114, 101]⟩, .int .i64 0, .string ⟨#[]⟩, .int .i64 0, .int .i64 0, .int .i64 0, .slice none 0 0] rfl rfl (there_of (n := 8) (unhide HGs) (by have := unhide HLE; have := unhide HZ8; have := unhide HS_w9; omega)) Tryz.sizeN (all_oneCell_toArray (node_one moreNd rfl)) ?_
                intro w10 hw
                obtain ⟨cur_w10, h1_w10, h2_w10, _, _⟩ := blk_setCells #[.int .i64 0, .string ⟨#[109, 111, 114, 101]⟩, .int .i64 0, .string ⟨#[]⟩, .int .i64 0, .int .i64 0, .int .i64 0, .slice none 0 0].toList ((N + 1) * 8) (unhide HGs)
                have HG_w10 : Hid (w10.heap[g8]? = some (.cells cur_w10 25 (0, 0))) := hide (by rw [hw]; exact h1_w10)
                have HS_w10 := hide h2_w10
                have HE_w10 : Hid (Ex (fun i => i = g8) (w9.setCell ⟨b, o + 7, none⟩ (.slice (some ⟨g8, 0, none⟩) (N + 2) c8)) w10) := hide (by rw [hw]; exact ex_setCells _ _ _)
                have HZ_w10 : Hid (w10.heap.size = ((w9.setCell ⟨b, o + 7, none⟩ (.slice (some ⟨g8, 0, none⟩) (N + 2) c8))).heap.size) := hide (by rw [hw]; exact size_setCells _ _ _)
                clear hw h1_w10 h2_w10
                refine hK.out _ _ ?_ (fun hHeld => ?_)
                · exact hHeld.trans' (unhide HE_w10) (unhide HX8)
                clear hK K
                try go_frame
                refine wpAnyH_done (by kernel_rfl) ?_ _
                go_end0
                exact ⟨rfl, (unhide HRE).trans hHeld, _, ((unhide HE_w10).block b (by have := unhide HZ_w9; have := unhide HBL7; simp [World.setCell]; omega) (Ne.symm hne8)).trans (set_blk (unhide HB9))⟩
            · have k7 := cell_of (unhide HB7) (unhide HCV)
              have f7 : w7.frozen? ⟨b, o + 7, none⟩ = false := froz_of (unhide HB7)
              go_simp
              refine hK.out _ _ ?_ (fun hHeld => ?_)
              · exact hHeld.trans (Ex.setCell _ _ _ _ (Or.inr rfl))
              clear hK K
              try go_frame
              have HGs : Hid ((w7.setCell ⟨b, o + 7, none⟩ (.slice (some ⟨g8, 0, none⟩) (N + 2) c8)).heap[g8]? = some (.cells cur8 25 (0, 0))) := hide ((Below.heap_setCell _ _ _ _ hne8).trans (unhide HG8))
              refine wpAnyH_ready (rs := [10]) (by kernel_rfl) (by simp) ?_
              refine AllReadyH.cons (o := { dst := none, op := Op.store 25 (Operand.tmp 35) (Operand.tmp 30), type := 0, pos := "law.go:52", after := #[{ on := 9, ground := Ground.data }, { on := 4, ground := Ground.data }, { on := 8, ground := Ground.chain }, { on := 0, ground := Ground.phase }, { on := 1, ground := Ground.phase }, { on := 2, ground := Ground.phase }, { on := 3, ground := Ground.phase }, { on := 4, ground := Ground.phase }, { on := 5, ground := Ground.phase }, { on := 6, ground := Ground.phase }, { on := 7, ground := Ground.phase }, { on := 8, ground := Ground.phase }, { on := 16, ground := Ground.gcOnly Departure.appendInPlace }], guard := none }) rfl (fun K hK => ?_) AllReadyH.nil
              refine step_store rfl (.tmp 35) (.tmp 30) 25 rfl g8 (N * 8) #[.int .i64 0, .string ⟨#[109, 111, 114, 101]⟩, .int .i64 0, .string ⟨#[]⟩, .int .i64 0, .int .i64 0, .int .i64 0, .slice none 0 0] rfl rfl (there_of (n := 8) (unhide HGs) (by have := unhide HLE; have := unhide HZ8; omega)) Tryz.sizeN (all_oneCell_toArray (node_one moreNd rfl)) ?_
              intro w9 hw
              obtain ⟨cur_w9, h1_w9, h2_w9, _, _⟩ := blk_setCells #[.int .i64 0, .string ⟨#[109, 111, 114, 101]⟩, .int .i64 0, .string ⟨#[]⟩, .int .i64 0, .int .i64 0, .int .i64 0, .slice none 0 0].toList (N * 8) (unhide HGs)
              have HG_w9 : Hid (w9.heap[g8]? = some (.cells cur_w9 25 (0, 0))) := hide (by rw [hw]; exact h1_w9)
              have HS_w9 := hide h2_w9
              have HE_w9 : Hid (Ex (fun i => i = g8) (w7.setCell ⟨b, o + 7, none⟩ (.slice (some ⟨g8, 0, none⟩) (N + 2) c8)) w9) := hide (by rw [hw]; exact ex_setCells _ _ _)
              have HZ_w9 : Hid (w9.heap.size = ((w7.setCell ⟨b, o + 7, none⟩ (.slice (some ⟨g8, 0, none⟩) (N + 2) c8))).heap.size) := hide (by rw [hw]; exact size_setCells _ _ _)
              clear hw h1_w9 h2_w9
              refine hK.out _ _ ?_ (fun hHeld => ?_)
              · exact hHeld.trans' (unhide HE_w9) (unhide HX8)
              clear hK K
              try go_frame
              refine wpAnyH_take (i := 12) (oi := { dst := some 37, op := Op.indexAddr 23 (Operand.tmp 34) (Operand.tmp 36), type := 0, pos := "law.go:52", after := #[{ on := 8, ground := Ground.data }, { on := 11, ground := Ground.data }, { on := 0, ground := Ground.phase }, { on := 1, ground := Ground.phase }, { on := 2, ground := Ground.phase }, { on := 3, ground := Ground.phase }, { on := 4, ground := Ground.phase }, { on := 5, ground := Ground.phase }, { on := 6, ground := Ground.phase }, { on := 7, ground := Ground.phase }, { on := 8, ground := Ground.phase }, { on := 9, ground := Ground.phase }, { on := 10, ground := Ground.phase }, { on := 11, ground := Ground.phase }, { on := 16, ground := Ground.gcOnly Departure.appendInPlace }], guard := none }) (v := ?_) rfl (by kernel_rfl) (by kernel_rfl) (by kernel_rfl) (fun _ _ _ h => h) (Or.inl ⟨by rfl, ?_⟩) (by assumption) ?_
              rotate_left
              · intro wq hSw
                go_simp
                try (with_reducible rfl)
              go_frame
              refine wpAnyH_ready (rs := [13]) (by kernel_rfl) (by simp) ?_
              refine AllReadyH.cons (o := { dst := none, op := Op.store 25 (Operand.tmp 37) (Operand.tmp 31), type := 0, pos := "law.go:52", after := #[{ on := 12, ground := Ground.data }, { on := 5, ground := Ground.data }, { on := 10, ground := Ground.chain }, { on := 0, ground := Ground.phase }, { on := 1, ground := Ground.phase }, { on := 2, ground := Ground.phase }, { on := 3, ground := Ground.phase }, { on := 4, ground := Ground.phase }, { on := 5, ground := Ground.phase }, { on := 6, ground := Ground.phase }, { on := 7, ground := Ground.phase }, { on := 8, ground := Ground.phase }, { on := 9, ground := Ground.phase }, { on := 10, ground := Ground.phase }, { on := 11, ground := Ground.phase }, { on := 16, ground := Ground.gcOnly Departure.appendInPlace }], guard := none }) rfl (fun K hK => ?_) AllReadyH.nil
              refine step_store rfl (.tmp 37) (.tmp 31) 25 rfl g8 ((N + 1) * 8) #[.int .i64 0, .string ⟨#[109, 111, 114, 101]⟩, .int .i64 0, .string ⟨#[]⟩, .int .i64 0, .int .i64 0, .int .i64 0, .slice none 0 0] rfl rfl (there_of (n := 8) (unhide HG_w9) (by have := unhide HLE; have := unhide HZ8; have := unhide HS_w9; omega)) Tryz.sizeN (all_oneCell_toArray (node_one moreNd rfl)) ?_
              intro w10 hw
              obtain ⟨cur_w10, h1_w10, h2_w10, _, _⟩ := blk_setCells #[.int .i64 0, .string ⟨#[109, 111, 114, 101]⟩, .int .i64 0, .string ⟨#[]⟩, .int .i64 0, .int .i64 0, .int .i64 0, .slice none 0 0].toList ((N + 1) * 8) (unhide HG_w9)
              have HG_w10 : Hid (w10.heap[g8]? = some (.cells cur_w10 25 (0, 0))) := hide (by rw [hw]; exact h1_w10)
              have HS_w10 := hide h2_w10
              have HE_w10 : Hid (Ex (fun i => i = g8) w9 w10) := hide (by rw [hw]; exact ex_setCells _ _ _)
              have HZ_w10 : Hid (w10.heap.size = (w9).heap.size) := hide (by rw [hw]; exact size_setCells _ _ _)
              clear hw h1_w10 h2_w10
              refine hK.out _ _ ?_ (fun hHeld => ?_)
              · exact hHeld.trans' (unhide HE_w10) (unhide HX8)
              clear hK K
              try go_frame
              refine wpAnyH_done (by kernel_rfl) ?_ _
              go_end0
              exact ⟨rfl, (unhide HRE).trans hHeld, _, ((unhide HE_w10).block b (by rw [show w9.heap.size = w7.heap.size by rw [unhide HZ_w9]; simp [World.setCell]]; exact unhide HBL7) (Ne.symm hne8)).trans (((unhide HE_w9).block b (by simp [World.setCell]; exact unhide HBL7) (Ne.symm hne8)).trans (set_blk (unhide HB7)))⟩

end Go.Proofs.YtnclmlhmmljfgaaGreatDoor
