/- Same: lists held against each other, each pair once. -/
import Derived.Test.YtnclmlhmmljfgaaGreatDoorTd
import Derived.Test.YtnclmlhmmljfgaaGreatDoorKeep
import Derived.Maps.RangeWalk
namespace Go.Proofs.YtnclmlhmmljfgaaGreatDoor
open Go.RowKit

/-- what lies at a key -/
structure KeyAt (w : World) (m : Md) (S : Nat → Prop) (x : LK) (ts : List Tr) : Prop where
  pos : 0 < ts.length
  len : ts.length = x.n
  blk : S x.b
  pb : PB w x.b
  row : RowAt w m S x.b x.o ts

theorem KeyAt.agree {w w' : World} {m : Md} {S : Nat → Prop} {x : LK} {ts : List Tr} (ha : Agree S w w') (h : KeyAt w m S x ts) : KeyAt w' m S x ts :=
  ⟨h.pos, h.len, h.blk, h.pb.agree ha h.blk, h.row.agree ha h.blk⟩

theorem KeyAt.one {w : World} {m m' : Md} {S S' : Nat → Prop} {x : LK} {ts ts' : List Tr} (h : KeyAt w m S x ts) (h' : KeyAt w m' S' x ts') : ts = ts' := RowAt.one (h.len.trans h'.len.symm) h.row h'.row

/-- two lists of which it is known that they are the same -/
def Good (w : World) (m : Md) (S : Nat → Prop) (x : LK × LK) : Prop := ∃ ta tb, KeyAt w m S x.1 ta ∧ KeyAt w m S x.2 tb ∧ sames ta tb = true
/-- two lists, the first greater than n -/
def Wide (w : World) (m : Md) (S : Nat → Prop) (n : Nat) (x : LK × LK) : Prop := ∃ ta tb, KeyAt w m S x.1 ta ∧ KeyAt w m S x.2 tb ∧ n < cnts ta

theorem Good.agree {w w' : World} {m : Md} {S : Nat → Prop} {x : LK × LK} (ha : Agree S w w') (h : Good w m S x) : Good w' m S x := by
  obtain ⟨ta, tb, h1, h2, h3⟩ := h
  exact ⟨ta, tb, h1.agree ha, h2.agree ha, h3⟩
theorem Wide.agree {w w' : World} {m : Md} {S : Nat → Prop} {n : Nat} {x : LK × LK} (ha : Agree S w w') (h : Wide w m S n x) : Wide w' m S n x := by
  obtain ⟨ta, tb, h1, h2, h3⟩ := h
  exact ⟨ta, tb, h1.agree ha, h2.agree ha, h3⟩

/-- the pairs that have been asked -/
def Tws (w : World) (m : Md) (S : Nat → Prop) (n : Nat) (l : List ((LK × LK) × Value)) : Prop := ∀ e ∈ l, e.2 = .agg #[] ∧ (Good w m S e.1 ∨ Wide w m S n e.1)

theorem Tws.agree {w w' : World} {m : Md} {S : Nat → Prop} {n : Nat} {l : List ((LK × LK) × Value)} (ha : Agree S w w') (h : Tws w m S n l) : Tws w' m S n l :=
  fun e he => ⟨(h e he).1, (h e he).2.imp (Good.agree ha) (Wide.agree ha)⟩
theorem Tws.ok {w : World} {m : Md} {S : Nat → Prop} {n : Nat} {l : List ((LK × LK) × Value)} (h : Tws w m S n l) : ∀ e ∈ l, ok2 w e.1 := fun e he => by
  rcases (h e he).2 with ⟨ta, tb, h1, h2, _⟩ | ⟨ta, tb, h1, h2, _⟩ <;> exact ⟨h1.pb, h2.pb⟩
theorem Tws.found {w : World} {m : Md} {S : Nat → Prop} {n : Nat} {l : List ((LK × LK) × Value)} {x : LK × LK} {v : Value} {ta tb : List Tr} (h : Tws w m S n l) (hg : getE x l = some v) (ha : KeyAt w m S x.1 ta) (hb : KeyAt w m S x.2 tb) (hn : cnts ta ≤ n) : v = .agg #[] ∧ sames ta tb = true := by
  refine ⟨(h _ (getE_some hg)).1, ?_⟩
  rcases (h _ (getE_some hg)).2 with ⟨ta', tb', h1, h2, h3⟩ | ⟨ta', tb', h1, h2, h3⟩
  · rw [ha.one h1, hb.one h2]; exact h3
  · rw [ha.one h1] at hn; omega
theorem Tws.put {w : World} {m : Md} {S : Nat → Prop} {n n' : Nat} {l : List ((LK × LK) × Value)} {x : LK × LK} {ta tb : List Tr} (h : Tws w m S n l) (ha : KeyAt w m S x.1 ta) (hb : KeyAt w m S x.2 tb) (hn : n' ≤ n) (hc : n' < cnts ta) : Tws w m S n' (putE x (.agg #[]) l) := by
  intro e he
  rcases mem_putE he with rfl | he
  · exact ⟨rfl, Or.inr ⟨ta, tb, ha, hb, hc⟩⟩
  · rcases h e he with ⟨h0, h | ⟨ta', tb', h1, h2, h3⟩⟩
    · exact ⟨h0, Or.inl h⟩
    · exact ⟨h0, Or.inr ⟨ta', tb', h1, h2, by omega⟩⟩

/-- what has come to the pairs asked: those that were there, or the same -/
def More (w : World) (m : Md) (S : Nat → Prop) (l l' : List ((LK × LK) × Value)) : Prop := ∀ e ∈ l', e.2 = .agg #[] ∧ ((∃ v, (e.1, v) ∈ l) ∨ Good w m S e.1)

theorem More.refl {w : World} {m : Md} {S : Nat → Prop} {n : Nat} {l : List ((LK × LK) × Value)} (h : Tws w m S n l) : More w m S l l := fun e he => ⟨(h e he).1, Or.inl ⟨e.2, he⟩⟩
theorem More.agree {w w' : World} {m : Md} {S : Nat → Prop} {l l' : List ((LK × LK) × Value)} (ha : Agree S w w') (h : More w m S l l') : More w' m S l l' := fun e he => ⟨(h e he).1, (h e he).2.imp id (Good.agree ha)⟩
theorem More.trans {w : World} {m : Md} {S : Nat → Prop} {l l' l'' : List ((LK × LK) × Value)} (h : More w m S l l') (k : More w m S l' l'') : More w m S l l'' := fun e he => by
  refine ⟨(k e he).1, ?_⟩
  rcases (k e he).2 with ⟨v, hv⟩ | hg
  · exact (h (e.1, v) hv).2
  · exact Or.inr hg
theorem More.tws {w : World} {m : Md} {S : Nat → Prop} {n : Nat} {l l' : List ((LK × LK) × Value)} (h : More w m S l l') (k : Tws w m S n l) : Tws w m S n l' := fun e he => by
  refine ⟨(h e he).1, ?_⟩
  rcases (h e he).2 with ⟨v, hv⟩ | hg
  · exact (k (e.1, v) hv).2
  · exact Or.inl hg
/-- the pair that was put in is the same after all -/
theorem More.closed {w : World} {m : Md} {S : Nat → Prop} {l l' : List ((LK × LK) × Value)} {x : LK × LK} {v : Value} (h : More w m S (putE x v l) l') (hg : Good w m S x) : More w m S l l' := fun e he => by
  refine ⟨(h e he).1, ?_⟩
  rcases (h e he).2 with ⟨u, hu⟩ | hg'
  · rcases mem_putE hu with h' | h'
    · rw [(Prod.mk.inj h').1]; exact Or.inr hg
    · exact Or.inl ⟨u, h'⟩
  · exact Or.inr hg'

theorem MapIs.below {κ : Type} {key : κ → Value} {w w' : World} {M N : Nat} {l : List (κ × Value)} (h : MapIs key w M l) (hb : Below N w w') (hM : M < N) : MapIs key w' M l := by
  obtain ⟨es, clock, h1, h2⟩ := h.is
  exact ⟨es, clock, (hb.block M hM).trans h1, h2⟩

theorem Keep.agree {M : Nat} {S : Nat → Prop} {w w' : World} (h : Keep M w w') (hS : ∀ i, S i → i < w.heap.size ∧ i ≠ M) : Agree S w w' := fun i hi => h.block i (hS i hi).1 (fun e => by cases e; exact (hS _ hi).2 rfl)
theorem Cs.keep {M b o : Nat} {w w' : World} {f : Nd} {v : Value} (h : Cs w b o f v) (hk : Keep M w w') (hb : b < w.heap.size) (hne : b ≠ M) : Cs w' b o f v := h.agree (S := fun i => i = b) (hk.agree fun i e => by subst e; exact ⟨hb, hne⟩) rfl
theorem below_undrew {M : Nat} {w w' : World} (h : Below M w.drew w') : Below M w w' := ⟨h.os, h.tape, h.output, h.size, h.block⟩

theorem bcell {W w1 : World} (hb : Below W.heap.size W w1) : (∀ b o, b < W.heap.size → w1.cell? ⟨b, o, none⟩ = W.cell? ⟨b, o, none⟩) ∧ (∀ b o, b < W.heap.size → w1.frozen? ⟨b, o, none⟩ = W.frozen? ⟨b, o, none⟩) :=
  ⟨fun b o h => hb.cell (p := ⟨b, o, none⟩) h, fun b o h => hb.frozen (p := ⟨b, o, none⟩) h⟩

theorem zeroUnit (w : World) : (zeroValue 63).run Tryz.prog w = .ok (.agg #[]) w := by kernel_rfl

set_option maxHeartbeats 4000000 in
theorem slists_all (n : Nat) : ∀ (a b : List Tr) (w : World) (va vb : Value) (m : Md) (S : Nat → Prop) (M : Nat) (l : List ((LK × LK) × Value)), cnts a ≤ n → m.plain = true → Kids w m S va a → Kids w m S vb b → (∀ i, S i → i < M) → MapIs key2 w M l → Tws w m S n l →
    Calls Tryz.prog 34 #[.map (some M), va, vb] w fun e w' => e = .returned (.bool (sames a b)) ∧ Keep M w w' ∧ (sames a b = true → ∃ l', MapIs key2 w' M l' ∧ More w' m S l l') := by
  induction n using Nat.strongRecOn with
  | ind n ih =>
    intro a b w va vb m S M l hc hp ha hb hS hM hT
    obtain ⟨A, ca, ba, oa, rfl, hla, hA, hra⟩ := ha.form
    obtain ⟨B, cb, bb, ob, rfl, hlb, hB, hrb⟩ := hb.form
    by_cases hl : a.length = b.length
    rotate_left
    · have E := hide (show false = sames a b by rw [sames_nolen hl])
      have q : ((a.length : Int) != (b.length : Int)) = true := by simp; omega
      clear ih hc ha hb hS hM hT hA hB hra hrb
      go_enter Tryz.func34, Tryz.ntmps34
      go_wp2
      go_ret
      exact ⟨ret_bool (unhide E), Keep.refl _ _, fun h => by rw [← unhide E] at h; cases h⟩
    have q : ((a.length : Int) != (b.length : Int)) = false := by simp; omega
    by_cases h0 : a.length = 0
    · have e1 : a = [] := List.eq_nil_of_length_eq_zero h0
      have e2 : b = [] := List.eq_nil_of_length_eq_zero (by omega)
      subst e1 e2
      have HM := hide hM
      have HT := hide hT
      clear ih hc ha hb hS hM hT hA hB hra hrb q hl h0
      simp only [List.length_nil]
      go_enter Tryz.func34, Tryz.ntmps34
      go_wp2
      go_ret
      exact ⟨ret_bool (by simp [sames]), Keep.refl _ _, fun _ => ⟨l, unhide HM, More.refl (unhide HT)⟩⟩
    obtain ⟨rfl, hba, hpa⟩ := hA (by omega)
    obtain ⟨rfl, hbb, hpb⟩ := hB (by omega)
    have hpos : 0 < a.length := by omega
    have hposb : 0 < b.length := by omega
    have HKA := hide (show KeyAt w m S ⟨ba, oa, a.length⟩ a from ⟨hpos, rfl, hba, hpa hp, hra⟩)
    have HKB := hide (show KeyAt w m S ⟨bb, ob, b.length⟩ b from ⟨hposb, rfl, hbb, hpb hp, hrb⟩)
    have hMl := hM.lt
    have HM := hide hM
    have HT := hide hT
    have HC := hide hc
    have HL := hide hl
    have HSM := hide hS
    have qz : ((a.length : Int) == 0) = false := beq_false_of_ne (by omega)
    clear hA hB hM hT hc hl hra hrb hS hpa hpb h0 ha hb
    go_enter Tryz.func34, Tryz.ntmps34
    go_wp2_with fail
    refine (listof_is hpos _).mono ?_
    rintro e w1 ⟨rfl, b1⟩
    have HB1 := hide b1
    clear b1
    go_wp2_with fail
    refine (listof_is hposb _).mono ?_
    rintro e w2 ⟨rfl, b2⟩
    have HB2 := hide ((unhide HB1).trans (b2.mono (unhide HB1).size))
    clear b2 HB1
    have hz2 := (unhide HB2).size
    have hBa : ∀ o, Below w.heap.size w (w2.alloc o) := fun o => (unhide HB2).alloc (unhide HB2).size o
    have HM3 : ∀ o, Hid (MapIs key2 (w2.alloc o) M l) := fun o => hide ((unhide HM).below (hBa o) hMl)
    have HG3 : ∀ o, Hid (Agree S w (w2.alloc o)) := fun o => hide (Agree.of_below (hBa o) fun i hi => Nat.lt_trans (unhide HSM i hi) hMl)
    have HT3 : ∀ o, Hid (Tws (w2.alloc o) m S n l) := fun o => hide ((unhide HT).agree (unhide (HG3 o)))
    have HO3 : ∀ o, Hid (ok2 (w2.alloc o) (⟨ba, oa, a.length⟩, ⟨bb, ob, b.length⟩)) := fun o => hide ⟨(unhide HKA).pb.agree (unhide (HG3 o)) hba, (unhide HKB).pb.agree (unhide (HG3 o)) hbb⟩
    have HBA := hide hBa
    clear hBa
    cases hg : getE (⟨ba, oa, a.length⟩, ⟨bb, ob, b.length⟩) l with
    | some v =>
      obtain ⟨rfl, hs⟩ := (unhide HT).found hg (unhide HKA) (unhide HKB) (unhide HC)
      have HS := hide hs
      have HR := hide (show (match getE (⟨ba, oa, a.length⟩, ⟨bb, ob, b.length⟩) l with | some v => Value.tuple #[v, .bool true] | none => .tuple #[.agg #[], .bool false]) = .tuple #[.agg #[], .bool true] by rw [hg])
      clear hs hg ih
      go_wp2_with (first | (at_lookup; refine wpList_look (x := (⟨ba, oa, a.length⟩, ⟨bb, ob, b.length⟩)) rfl _ _ rfl (keyT2 _) Tryz.underlying60 (zeroUnit _) rfl (unhide (HM3 _)) rfl (unhide (HO3 _)) (unhide (HT3 _)).ok (unhide HR) ?_) | go_in)
      go_ret
      exact ⟨ret_bool (unhide HS).symm, Keep.of_below ((unhide HBA _).alloc (by rw [World.size_alloc]; omega) _), fun _ => ⟨l, (unhide (HM3 _)).below ((Below.refl _ _).alloc (Nat.le_refl _) _) (by rw [World.size_alloc]; omega), More.refl ((unhide (HT3 _)).agree (Agree.of_below ((Below.refl _ _).alloc (Nat.le_refl _) _) fun i hi => by rw [World.size_alloc]; have := unhide HSM i hi; omega))⟩⟩
    | none =>
      have HR := hide (show (match getE (⟨ba, oa, a.length⟩, ⟨bb, ob, b.length⟩) l with | some v => Value.tuple #[v, .bool true] | none => .tuple #[.agg #[], .bool false]) = .tuple #[.agg #[], .bool false] by rw [hg])
      have hBa4 : ∀ o o', Below w.heap.size w ((w2.alloc o).alloc o') := fun o o' => (unhide HBA o).alloc (by rw [World.size_alloc]; omega) o'
      have HM4 : ∀ o o', Hid (MapIs key2 ((w2.alloc o).alloc o') M l) := fun o o' => hide ((unhide HM).below (hBa4 o o') hMl)
      have HG4 : ∀ o o', Hid (Agree S w ((w2.alloc o).alloc o')) := fun o o' => hide (Agree.of_below (hBa4 o o') fun i hi => Nat.lt_trans (unhide HSM i hi) hMl)
      have HT4 : ∀ o o', Hid (Tws ((w2.alloc o).alloc o') m S n l) := fun o o' => hide ((unhide HT).agree (unhide (HG4 o o')))
      have HO4 : ∀ o o', Hid (ok2 ((w2.alloc o).alloc o') (⟨ba, oa, a.length⟩, ⟨bb, ob, b.length⟩)) := fun o o' => hide ⟨(unhide HKA).pb.agree (unhide (HG4 o o')) hba, (unhide HKB).pb.agree (unhide (HG4 o o')) hbb⟩
      have HBA4 := hide hBa4
      have HIH := hide ih
      clear hBa4 hg ih
      go_wp2_with (first | (at_lookup; refine wpList_look (x := (⟨ba, oa, a.length⟩, ⟨bb, ob, b.length⟩)) rfl _ _ rfl (keyT2 _) Tryz.underlying60 (zeroUnit _) rfl (unhide (HM3 _)) rfl (unhide (HO3 _)) (unhide (HT3 _)).ok (unhide HR) ?_) | (at_mapUpdate; refine wpList_put (x := (⟨ba, oa, a.length⟩, ⟨bb, ob, b.length⟩)) rfl _ _ _ rfl (keyT2 _) Tryz.underlying60 rfl (unhide (HM4 _ _)) rfl (unhide (HO4 _ _)) (unhide (HT4 _ _)).ok rfl ?_; intro w4 hm4 hg4) | go_in)
      have hc1 : 0 < cnts a := Nat.lt_of_lt_of_le hpos (len_le_cnts a)
      have HK4 := hide (show Keep M w w4 from (Keep.of_below (unhide HBA4 _ _)).trans hg4)
      have HG5 := hide (show Agree S w w4 from fun i hi => (unhide HK4).block i (Nat.lt_trans (unhide HSM i hi) hMl) (fun e => by cases e; exact Nat.lt_irrefl _ (unhide HSM _ hi)))
      have HT5 := hide (show Tws w4 m S (cnts a - 1) (putE (⟨ba, oa, a.length⟩, ⟨bb, ob, b.length⟩) (.agg #[]) l) from ((unhide HT).agree (unhide HG5)).put ((unhide HKA).agree (unhide HG5)) ((unhide HKB).agree (unhide HG5)) (by have := unhide HC; omega) (by omega))
      have HM5 := hide hm4
      clear hm4 hg4 HM3 HG3 HT3 HO3 HBA HM4 HG4 HT4 HO4 HBA4 HR HB2 HM
      go_loopw [36] (fun i wr => ∃ k : Nat, k ≤ a.length ∧ i = .int .i64 k ∧ Keep M w4 wr ∧ (∀ j (h : j < k) (h1 : j < a.length) (h2 : j < b.length), same a[j] b[j] = true) ∧ ∃ l', MapIs key2 wr M l' ∧ More wr m S (putE (⟨ba, oa, a.length⟩, ⟨bb, ob, b.length⟩) (.agg #[]) l) l') (fun i _ => a.length - (intOf i).toNat)
      case atStart => exact ⟨0, Nat.zero_le _, rfl, Keep.refl _ _, fun j h => by omega, _, unhide HM5, More.refl (unhide HT5)⟩
      case round =>
        obtain ⟨k, hk, rfl, hkw, hsm, l', hml, hmo⟩ := hrel
        have HKW := hide hkw
        have HSM2 := hide hsm
        have HML := hide hml
        have HMO := hide hmo
        have HG6 := hide (show Agree S w wr from (unhide HG5).trans fun i hi => hkw.block i (Nat.lt_of_lt_of_le (Nat.lt_trans (unhide HSM i hi) hMl) (unhide HK4).size) (fun e => by cases e; exact Nat.lt_irrefl _ (unhide HSM _ hi)))
        clear hkw hsm hml hmo
        by_cases hkl : k < a.length
        · have hkb : k < b.length := by have := unhide HL; omega
          obtain ⟨va', HCa, HKa⟩ := (((unhide HKA).agree (unhide HG6)).row.get k hkl).cs
          obtain ⟨vb', HCb, HKb⟩ := (((unhide HKB).agree (unhide HG6)).row.get k hkb).cs
          have hbaw : ba < wr.heap.size := by
            have h1 := (unhide HKW).size
            have h2 := (unhide HK4).size
            have h3 := unhide HSM ba hba
            omega
          have hbbw : bb < wr.heap.size := by
            have h1 := (unhide HKW).size
            have h2 := (unhide HK4).size
            have h3 := unhide HSM bb hbb
            omega
          have hbaM : ba ≠ M := Nat.ne_of_lt (unhide HSM ba hba)
          have hbbM : bb ≠ M := Nat.ne_of_lt (unhide HSM bb hbb)
          have hMw : M < wr.heap.size := (unhide HML).lt
          have i0 : (0 : Int) ≤ (k : Int) := by omega
          have i1 : (k : Int) < (a.length : Int) := by omega
          have i2 : (k : Int) < (b.length : Int) := by omega
          have HAG : ∀ w', Keep M wr w' → Hid (Agree S wr w') := fun w' h => hide (h.agree fun i hi => ⟨Nat.lt_trans (unhide HSM i hi) hMw, Nat.ne_of_lt (unhide HSM i hi)⟩)
          cases hf : sameF a[k].f b[k].f
          · have HF := hide hf
            have E := hide (show false = sames a b from (sames_no hkl hkb (by rw [show a[k] = .mk a[k].f a[k].ks from by cases a[k]; rfl, show b[k] = .mk b[k].f b[k].ks from by cases b[k]; rfl, same, hf]; rfl)).symm)
            clear hf
            go_wp2
            refine wp_region_held_drew (S := Keep M wr) (by kernel_rfl) ?_ (fun hHeld => ?_)
            · exact Keep.of_below (below_drw _)
            refine wpAnyH_take (i := 0) (oi := { dst := some 39, op := Op.move (Operand.tmp 1), type := 23, pos := "tree.go:56", after := #[], guard := none }) (v := ?_) rfl (by kernel_rfl) (by kernel_rfl) (by kernel_rfl) (fun _ _ _ h => h) (Or.inl ⟨by rfl, ?_⟩) (by assumption) ?_
            rotate_left
            · intro wq hSw
              go_simp
              try (with_reducible rfl)
            go_frame
            refine wpAnyH_take (i := 1) (oi := { dst := some 40, op := Op.move (Operand.tmp 10), type := 3, pos := "tree.go:56", after := #[], guard := none }) (v := ?_) rfl (by kernel_rfl) (by kernel_rfl) (by kernel_rfl) (fun _ _ _ h => h) (Or.inl ⟨by rfl, ?_⟩) (by assumption) ?_
            rotate_left
            · intro wq hSw
              go_simp
              try (with_reducible rfl)
            go_frame
            refine wpAnyH_take (i := 2) (oi := { dst := some 41, op := Op.indexAddr 23 (Operand.tmp 39) (Operand.tmp 40), type := 0, pos := "tree.go:56", after := #[{ on := 0, ground := Ground.data }, { on := 1, ground := Ground.data }], guard := none }) (v := ?_) rfl (by kernel_rfl) (by kernel_rfl) (by kernel_rfl) (fun _ _ _ h => h) (Or.inl ⟨by rfl, ?_⟩) (by assumption) ?_
            rotate_left
            · intro wq hSw
              go_simp
              try (with_reducible rfl)
            go_frame
            refine wpAnyH_take (i := 3) (oi := { dst := some 42, op := Op.load 25 (Operand.tmp 41), type := 25, pos := "tree.go:56", after := #[{ on := 2, ground := Ground.data }], guard := none }) (v := ?_) rfl (by kernel_rfl) (by kernel_rfl) (by kernel_rfl) (fun _ _ _ h => h) (Or.inl ⟨by rfl, ?_⟩) (by assumption) ?_
            rotate_left
            · intro wq hSw
              obtain ⟨y0, y1, y2, y3, y4, y5, y6, y7⟩ := (unhide HCa).keep hSw hbaw hbaM
              go_simp
              try (with_reducible rfl)
            go_frame
            refine wpAnyH_take (i := 4) (oi := { dst := some 43, op := Op.move (Operand.tmp 2), type := 23, pos := "tree.go:56", after := #[], guard := none }) (v := ?_) rfl (by kernel_rfl) (by kernel_rfl) (by kernel_rfl) (fun _ _ _ h => h) (Or.inl ⟨by rfl, ?_⟩) (by assumption) ?_
            rotate_left
            · intro wq hSw
              go_simp
              try (with_reducible rfl)
            go_frame
            refine wpAnyH_take (i := 5) (oi := { dst := some 44, op := Op.move (Operand.tmp 10), type := 3, pos := "tree.go:56", after := #[], guard := none }) (v := ?_) rfl (by kernel_rfl) (by kernel_rfl) (by kernel_rfl) (fun _ _ _ h => h) (Or.inl ⟨by rfl, ?_⟩) (by assumption) ?_
            rotate_left
            · intro wq hSw
              go_simp
              try (with_reducible rfl)
            go_frame
            refine wpAnyH_take (i := 6) (oi := { dst := some 45, op := Op.indexAddr 23 (Operand.tmp 43) (Operand.tmp 44), type := 0, pos := "tree.go:56", after := #[{ on := 4, ground := Ground.data }, { on := 5, ground := Ground.data }], guard := none }) (v := ?_) rfl (by kernel_rfl) (by kernel_rfl) (by kernel_rfl) (fun _ _ _ h => h) (Or.inl ⟨by rfl, ?_⟩) (by assumption) ?_
            rotate_left
            · intro wq hSw
              go_simp
              try (with_reducible rfl)
            go_frame
            refine wpAnyH_take (i := 7) (oi := { dst := some 46, op := Op.load 25 (Operand.tmp 45), type := 25, pos := "tree.go:56", after := #[{ on := 6, ground := Ground.data }], guard := none }) (v := ?_) rfl (by kernel_rfl) (by kernel_rfl) (by kernel_rfl) (fun _ _ _ h => h) (Or.inl ⟨by rfl, ?_⟩) (by assumption) ?_
            rotate_left
            · intro wq hSw
              obtain ⟨y0, y1, y2, y3, y4, y5, y6, y7⟩ := (unhide HCb).keep hSw hbbw hbbM
              go_simp
              try (with_reducible rfl)
            go_frame
            refine wpAnyH_ready (rs := [8]) (by kernel_rfl) (by simp) ?_
            refine AllReadyH.cons (o := { dst := some 47, op := Op.call { callee := Callee.value (Operand.func 33), args := #[Operand.tmp 42, Operand.tmp 46], argTypes := #[25, 25] }, type := 4, pos := "tree.go:56", after := #[{ on := 3, ground := Ground.data }, { on := 7, ground := Ground.data }], guard := none }) rfl (fun K hK => ?_) AllReadyH.nil
            go_simp
            refine (samef_is (unhide HF) _).mono ?_
            rintro e w5 ⟨rfl, b5⟩
            have HB5 := hide (below_undrew b5)
            clear b5
            go_wp2_with fail
            refine hK.out _ _ ?_ (fun hHeld => ?_)
            · exact Keep.of_below (unhide HB5)
            clear hK K
            try go_frame
            refine wpAnyH_take (i := 9) (oi := { dst := some 48, op := Op.unOp UnOp.not 4 (Operand.tmp 47), type := 4, pos := "tree.go:56", after := #[{ on := 8, ground := Ground.data }], guard := none }) (v := ?_) rfl (by kernel_rfl) (by kernel_rfl) (by kernel_rfl) (fun _ _ _ h => h) (Or.inl ⟨by rfl, ?_⟩) (by assumption) ?_
            rotate_left
            · intro wq hSw
              go_simp
              try (with_reducible rfl)
            go_frame
            refine wpAnyH_take (i := 10) (oi := { dst := some 49, op := Op.move (Operand.tmp 48), type := 4, pos := "tree.go:56", after := #[{ on := 9, ground := Ground.data }, { on := 8, ground := Ground.chain }], guard := none }) (v := ?_) rfl (by kernel_rfl) (by kernel_rfl) (by kernel_rfl) (fun _ _ _ h => h) (Or.inl ⟨by rfl, ?_⟩) (by assumption) ?_
            rotate_left
            · intro wq hSw
              go_simp
              try (with_reducible rfl)
            go_frame
            refine wpAnyH_take (i := 11) (oi := { dst := some 50, op := Op.move (Operand.tmp 0), type := 60, pos := "tree.go:56", after := #[{ on := 10, ground := Ground.guard }], guard := some (10, false) }) (v := undef) rfl (by kernel_rfl) (by kernel_rfl) (by kernel_rfl) (fun _ _ _ h => h) (Or.inr ⟨by rfl, rfl⟩) (by assumption) ?_
            go_frame
            refine wpAnyH_take (i := 12) (oi := { dst := some 51, op := Op.move (Operand.tmp 1), type := 23, pos := "tree.go:56", after := #[{ on := 10, ground := Ground.guard }], guard := some (10, false) }) (v := undef) rfl (by kernel_rfl) (by kernel_rfl) (by kernel_rfl) (fun _ _ _ h => h) (Or.inr ⟨by rfl, rfl⟩) (by assumption) ?_
            go_frame
            refine wpAnyH_take (i := 13) (oi := { dst := some 52, op := Op.move (Operand.tmp 10), type := 3, pos := "tree.go:56", after := #[{ on := 10, ground := Ground.guard }], guard := some (10, false) }) (v := undef) rfl (by kernel_rfl) (by kernel_rfl) (by kernel_rfl) (fun _ _ _ h => h) (Or.inr ⟨by rfl, rfl⟩) (by assumption) ?_
            go_frame
            refine wpAnyH_take (i := 14) (oi := { dst := some 53, op := Op.indexAddr 23 (Operand.tmp 51) (Operand.tmp 52), type := 0, pos := "tree.go:56", after := #[{ on := 12, ground := Ground.data }, { on := 13, ground := Ground.data }, { on := 10, ground := Ground.guard }], guard := some (10, false) }) (v := undef) rfl (by kernel_rfl) (by kernel_rfl) (by kernel_rfl) (fun _ _ _ h => h) (Or.inr ⟨by rfl, rfl⟩) (by assumption) ?_
            go_frame
            refine wpAnyH_take (i := 15) (oi := { dst := some 54, op := Op.fieldAddr 25 (Operand.tmp 53) 7, type := 0, pos := "tree.go:56", after := #[{ on := 14, ground := Ground.data }, { on := 10, ground := Ground.guard }], guard := some (10, false) }) (v := undef) rfl (by kernel_rfl) (by kernel_rfl) (by kernel_rfl) (fun _ _ _ h => h) (Or.inr ⟨by rfl, rfl⟩) (by assumption) ?_
            go_frame
            refine wpAnyH_take (i := 16) (oi := { dst := some 55, op := Op.load 23 (Operand.tmp 54), type := 23, pos := "tree.go:56", after := #[{ on := 15, ground := Ground.data }, { on := 10, ground := Ground.guard }], guard := some (10, false) }) (v := undef) rfl (by kernel_rfl) (by kernel_rfl) (by kernel_rfl) (fun _ _ _ h => h) (Or.inr ⟨by rfl, rfl⟩) (by assumption) ?_
            go_frame
            refine wpAnyH_take (i := 17) (oi := { dst := some 56, op := Op.move (Operand.tmp 2), type := 23, pos := "tree.go:56", after := #[{ on := 10, ground := Ground.guard }], guard := some (10, false) }) (v := undef) rfl (by kernel_rfl) (by kernel_rfl) (by kernel_rfl) (fun _ _ _ h => h) (Or.inr ⟨by rfl, rfl⟩) (by assumption) ?_
            go_frame
            refine wpAnyH_take (i := 18) (oi := { dst := some 57, op := Op.move (Operand.tmp 10), type := 3, pos := "tree.go:56", after := #[{ on := 10, ground := Ground.guard }], guard := some (10, false) }) (v := undef) rfl (by kernel_rfl) (by kernel_rfl) (by kernel_rfl) (fun _ _ _ h => h) (Or.inr ⟨by rfl, rfl⟩) (by assumption) ?_
            go_frame
            refine wpAnyH_take (i := 19) (oi := { dst := some 58, op := Op.indexAddr 23 (Operand.tmp 56) (Operand.tmp 57), type := 0, pos := "tree.go:56", after := #[{ on := 17, ground := Ground.data }, { on := 18, ground := Ground.data }, { on := 10, ground := Ground.guard }], guard := some (10, false) }) (v := undef) rfl (by kernel_rfl) (by kernel_rfl) (by kernel_rfl) (fun _ _ _ h => h) (Or.inr ⟨by rfl, rfl⟩) (by assumption) ?_
            go_frame
            refine wpAnyH_take (i := 20) (oi := { dst := some 59, op := Op.fieldAddr 25 (Operand.tmp 58) 7, type := 0, pos := "tree.go:56", after := #[{ on := 19, ground := Ground.data }, { on := 10, ground := Ground.guard }], guard := some (10, false) }) (v := undef) rfl (by kernel_rfl) (by kernel_rfl) (by kernel_rfl) (fun _ _ _ h => h) (Or.inr ⟨by rfl, rfl⟩) (by assumption) ?_
            go_frame
            refine wpAnyH_take (i := 21) (oi := { dst := some 60, op := Op.load 23 (Operand.tmp 59), type := 23, pos := "tree.go:56", after := #[{ on := 20, ground := Ground.data }, { on := 10, ground := Ground.guard }], guard := some (10, false) }) (v := undef) rfl (by kernel_rfl) (by kernel_rfl) (by kernel_rfl) (fun _ _ _ h => h) (Or.inr ⟨by rfl, rfl⟩) (by assumption) ?_
            go_frame
            refine wpAnyH_take (i := 22) (oi := { dst := some 61, op := Op.call { callee := Callee.value (Operand.func 34), args := #[Operand.tmp 50, Operand.tmp 55, Operand.tmp 60], argTypes := #[60, 23, 23] }, type := 4, pos := "tree.go:56", after := #[{ on := 11, ground := Ground.data }, { on := 16, ground := Ground.data }, { on := 21, ground := Ground.data }, { on := 10, ground := Ground.chain }, { on := 10, ground := Ground.guard }], guard := some (10, false) }) (v := undef) rfl (by kernel_rfl) (by kernel_rfl) (by kernel_rfl) (fun _ _ _ h => h) (Or.inr ⟨by rfl, rfl⟩) (by assumption) ?_
            go_frame
            refine wpAnyH_take (i := 23) (oi := { dst := some 62, op := Op.unOp UnOp.not 4 (Operand.tmp 61), type := 4, pos := "tree.go:56", after := #[{ on := 22, ground := Ground.data }, { on := 10, ground := Ground.guard }], guard := some (10, false) }) (v := undef) rfl (by kernel_rfl) (by kernel_rfl) (by kernel_rfl) (fun _ _ _ h => h) (Or.inr ⟨by rfl, rfl⟩) (by assumption) ?_
            go_frame
            refine wpAnyH_take (i := 24) (oi := { dst := some 63, op := Op.pick (Operand.tmp 49) (Operand.const (Value.bool true)) (Operand.tmp 62), type := 4, pos := "tree.go:56", after := #[{ on := 10, ground := Ground.data }, { on := 23, ground := Ground.data }], guard := none }) (v := ?_) rfl (by kernel_rfl) (by kernel_rfl) (by kernel_rfl) (fun _ _ _ h => h) (Or.inl ⟨by rfl, ?_⟩) (by assumption) ?_
            rotate_left
            · intro wq hSw
              go_simp
              try (with_reducible rfl)
            go_frame
            refine wpAnyH_done (by kernel_rfl) ?_ _
            go_wp2
            go_ret
            exact ⟨ret_bool (unhide E), (unhide HK4).trans ((unhide HKW).trans hHeld), fun h => by rw [← unhide E] at h; cases h⟩
          · have HF := hide hf
            have hab : same a[k] b[k] = sames a[k].ks b[k].ks := by rw [show a[k] = .mk a[k].f a[k].ks from by cases a[k]; rfl, show b[k] = .mk b[k].f b[k].ks from by cases b[k]; rfl, same, hf]; rfl
            have hcm := cnts_mem (List.getElem_mem hkl)
            have hck : cnt a[k] = 1 + cnts a[k].ks := by rw [show a[k] = .mk a[k].f a[k].ks from by cases a[k]; rfl, cnt]; rfl
            have HLT := hide (show cnts a - 1 < n by have := unhide HC; omega)
            have HCN := hide (show cnts a[k].ks ≤ cnts a - 1 by omega)
            have HTW := hide (show Tws wr m S (cnts a - 1) l' from (unhide HMO).tws ((unhide HT5).agree (show Agree S w4 wr from (unhide HKW).agree fun i hi => ⟨Nat.lt_of_lt_of_le (Nat.lt_trans (unhide HSM i hi) hMl) (unhide HK4).size, Nat.ne_of_lt (unhide HSM i hi)⟩)))
            clear hf hcm hck
            cases hs : sames a[k].ks b[k].ks
            · have HSK := hide hs
              have E := hide (show false = sames a b from (sames_no hkl hkb (by rw [hab, hs])).symm)
              clear hs hab
              go_wp2
              refine wp_region_held_drew (S := Keep M wr) (by kernel_rfl) ?_ (fun hHeld => ?_)
              · exact Keep.of_below (below_drw _)
              refine wpAnyH_take (i := 0) (oi := { dst := some 39, op := Op.move (Operand.tmp 1), type := 23, pos := "tree.go:56", after := #[], guard := none }) (v := ?_) rfl (by kernel_rfl) (by kernel_rfl) (by kernel_rfl) (fun _ _ _ h => h) (Or.inl ⟨by rfl, ?_⟩) (by assumption) ?_
              rotate_left
              · intro wq hSw
                go_simp
                try (with_reducible rfl)
              go_frame
              refine wpAnyH_take (i := 1) (oi := { dst := some 40, op := Op.move (Operand.tmp 10), type := 3, pos := "tree.go:56", after := #[], guard := none }) (v := ?_) rfl (by kernel_rfl) (by kernel_rfl) (by kernel_rfl) (fun _ _ _ h => h) (Or.inl ⟨by rfl, ?_⟩) (by assumption) ?_
              rotate_left
              · intro wq hSw
                go_simp
                try (with_reducible rfl)
              go_frame
              refine wpAnyH_take (i := 2) (oi := { dst := some 41, op := Op.indexAddr 23 (Operand.tmp 39) (Operand.tmp 40), type := 0, pos := "tree.go:56", after := #[{ on := 0, ground := Ground.data }, { on := 1, ground := Ground.data }], guard := none }) (v := ?_) rfl (by kernel_rfl) (by kernel_rfl) (by kernel_rfl) (fun _ _ _ h => h) (Or.inl ⟨by rfl, ?_⟩) (by assumption) ?_
              rotate_left
              · intro wq hSw
                go_simp
                try (with_reducible rfl)
              go_frame
              refine wpAnyH_take (i := 3) (oi := { dst := some 42, op := Op.load 25 (Operand.tmp 41), type := 25, pos := "tree.go:56", after := #[{ on := 2, ground := Ground.data }], guard := none }) (v := ?_) rfl (by kernel_rfl) (by kernel_rfl) (by kernel_rfl) (fun _ _ _ h => h) (Or.inl ⟨by rfl, ?_⟩) (by assumption) ?_
              rotate_left
              · intro wq hSw
                obtain ⟨y0, y1, y2, y3, y4, y5, y6, y7⟩ := (unhide HCa).keep hSw hbaw hbaM
                go_simp
                try (with_reducible rfl)
              go_frame
              refine wpAnyH_take (i := 4) (oi := { dst := some 43, op := Op.move (Operand.tmp 2), type := 23, pos := "tree.go:56", after := #[], guard := none }) (v := ?_) rfl (by kernel_rfl) (by kernel_rfl) (by kernel_rfl) (fun _ _ _ h => h) (Or.inl ⟨by rfl, ?_⟩) (by assumption) ?_
              rotate_left
              · intro wq hSw
                go_simp
                try (with_reducible rfl)
              go_frame
              refine wpAnyH_take (i := 5) (oi := { dst := some 44, op := Op.move (Operand.tmp 10), type := 3, pos := "tree.go:56", after := #[], guard := none }) (v := ?_) rfl (by kernel_rfl) (by kernel_rfl) (by kernel_rfl) (fun _ _ _ h => h) (Or.inl ⟨by rfl, ?_⟩) (by assumption) ?_
              rotate_left
              · intro wq hSw
                go_simp
                try (with_reducible rfl)
              go_frame
              refine wpAnyH_take (i := 6) (oi := { dst := some 45, op := Op.indexAddr 23 (Operand.tmp 43) (Operand.tmp 44), type := 0, pos := "tree.go:56", after := #[{ on := 4, ground := Ground.data }, { on := 5, ground := Ground.data }], guard := none }) (v := ?_) rfl (by kernel_rfl) (by kernel_rfl) (by kernel_rfl) (fun _ _ _ h => h) (Or.inl ⟨by rfl, ?_⟩) (by assumption) ?_
              rotate_left
              · intro wq hSw
                go_simp
                try (with_reducible rfl)
              go_frame
              refine wpAnyH_take (i := 7) (oi := { dst := some 46, op := Op.load 25 (Operand.tmp 45), type := 25, pos := "tree.go:56", after := #[{ on := 6, ground := Ground.data }], guard := none }) (v := ?_) rfl (by kernel_rfl) (by kernel_rfl) (by kernel_rfl) (fun _ _ _ h => h) (Or.inl ⟨by rfl, ?_⟩) (by assumption) ?_
              rotate_left
              · intro wq hSw
                obtain ⟨y0, y1, y2, y3, y4, y5, y6, y7⟩ := (unhide HCb).keep hSw hbbw hbbM
                go_simp
                try (with_reducible rfl)
              go_frame
              refine wpAnyH_ready (rs := [8]) (by kernel_rfl) (by simp) ?_
              refine AllReadyH.cons (o := { dst := some 47, op := Op.call { callee := Callee.value (Operand.func 33), args := #[Operand.tmp 42, Operand.tmp 46], argTypes := #[25, 25] }, type := 4, pos := "tree.go:56", after := #[{ on := 3, ground := Ground.data }, { on := 7, ground := Ground.data }], guard := none }) rfl (fun K hK => ?_) AllReadyH.nil
              go_simp
              refine (samef_is (unhide HF) _).mono ?_
              rintro e w5 ⟨rfl, b5⟩
              have HB5 := hide (below_undrew b5)
              clear b5
              go_wp2_with fail
              refine hK.out _ _ ?_ (fun hHeld => ?_)
              · exact Keep.of_below (unhide HB5)
              clear hK K
              try go_frame
              refine wpAnyH_take (i := 9) (oi := { dst := some 48, op := Op.unOp UnOp.not 4 (Operand.tmp 47), type := 4, pos := "tree.go:56", after := #[{ on := 8, ground := Ground.data }], guard := none }) (v := ?_) rfl (by kernel_rfl) (by kernel_rfl) (by kernel_rfl) (fun _ _ _ h => h) (Or.inl ⟨by rfl, ?_⟩) (by assumption) ?_
              rotate_left
              · intro wq hSw
                go_simp
                try (with_reducible rfl)
              go_frame
              refine wpAnyH_take (i := 10) (oi := { dst := some 49, op := Op.move (Operand.tmp 48), type := 4, pos := "tree.go:56", after := #[{ on := 9, ground := Ground.data }, { on := 8, ground := Ground.chain }], guard := none }) (v := ?_) rfl (by kernel_rfl) (by kernel_rfl) (by kernel_rfl) (fun _ _ _ h => h) (Or.inl ⟨by rfl, ?_⟩) (by assumption) ?_
              rotate_left
              · intro wq hSw
                go_simp
                try (with_reducible rfl)
              go_frame
              refine wpAnyH_take (i := 11) (oi := { dst := some 50, op := Op.move (Operand.tmp 0), type := 60, pos := "tree.go:56", after := #[{ on := 10, ground := Ground.guard }], guard := some (10, false) }) (v := ?_) rfl (by kernel_rfl) (by kernel_rfl) (by kernel_rfl) (fun _ _ _ h => h) (Or.inl ⟨by rfl, ?_⟩) (by assumption) ?_
              rotate_left
              · intro wq hSw
                go_simp
                try (with_reducible rfl)
              go_frame
              refine wpAnyH_take (i := 12) (oi := { dst := some 51, op := Op.move (Operand.tmp 1), type := 23, pos := "tree.go:56", after := #[{ on := 10, ground := Ground.guard }], guard := some (10, false) }) (v := ?_) rfl (by kernel_rfl) (by kernel_rfl) (by kernel_rfl) (fun _ _ _ h => h) (Or.inl ⟨by rfl, ?_⟩) (by assumption) ?_
              rotate_left
              · intro wq hSw
                go_simp
                try (with_reducible rfl)
              go_frame
              refine wpAnyH_take (i := 13) (oi := { dst := some 52, op := Op.move (Operand.tmp 10), type := 3, pos := "tree.go:56", after := #[{ on := 10, ground := Ground.guard }], guard := some (10, false) }) (v := ?_) rfl (by kernel_rfl) (by kernel_rfl) (by kernel_rfl) (fun _ _ _ h => h) (Or.inl ⟨by rfl, ?_⟩) (by assumption) ?_
              rotate_left
              · intro wq hSw
                go_simp
                try (with_reducible rfl)
              go_frame
              refine wpAnyH_take (i := 14) (oi := { dst := some 53, op := Op.indexAddr 23 (Operand.tmp 51) (Operand.tmp 52), type := 0, pos := "tree.go:56", after := #[{ on := 12, ground := Ground.data }, { on := 13, ground := Ground.data }, { on := 10, ground := Ground.guard }], guard := some (10, false) }) (v := ?_) rfl (by kernel_rfl) (by kernel_rfl) (by kernel_rfl) (fun _ _ _ h => h) (Or.inl ⟨by rfl, ?_⟩) (by assumption) ?_
              rotate_left
              · intro wq hSw
                go_simp
                try (with_reducible rfl)
              go_frame
              refine wpAnyH_take (i := 15) (oi := { dst := some 54, op := Op.fieldAddr 25 (Operand.tmp 53) 7, type := 0, pos := "tree.go:56", after := #[{ on := 14, ground := Ground.data }, { on := 10, ground := Ground.guard }], guard := some (10, false) }) (v := ?_) rfl (by kernel_rfl) (by kernel_rfl) (by kernel_rfl) (fun _ _ _ h => h) (Or.inl ⟨by rfl, ?_⟩) (by assumption) ?_
              rotate_left
              · intro wq hSw
                go_simp
                try (with_reducible rfl)
              go_frame
              refine wpAnyH_take (i := 16) (oi := { dst := some 55, op := Op.load 23 (Operand.tmp 54), type := 23, pos := "tree.go:56", after := #[{ on := 15, ground := Ground.data }, { on := 10, ground := Ground.guard }], guard := some (10, false) }) (v := ?_) rfl (by kernel_rfl) (by kernel_rfl) (by kernel_rfl) (fun _ _ _ h => h) (Or.inl ⟨by rfl, ?_⟩) (by assumption) ?_
              rotate_left
              · intro wq hSw
                obtain ⟨y0, y1, y2, y3, y4, y5, y6, y7⟩ := (unhide HCa).keep hSw hbaw hbaM
                go_simp
                try (with_reducible rfl)
              go_frame
              refine wpAnyH_take (i := 17) (oi := { dst := some 56, op := Op.move (Operand.tmp 2), type := 23, pos := "tree.go:56", after := #[{ on := 10, ground := Ground.guard }], guard := some (10, false) }) (v := ?_) rfl (by kernel_rfl) (by kernel_rfl) (by kernel_rfl) (fun _ _ _ h => h) (Or.inl ⟨by rfl, ?_⟩) (by assumption) ?_
              rotate_left
              · intro wq hSw
                go_simp
                try (with_reducible rfl)
              go_frame
              refine wpAnyH_take (i := 18) (oi := { dst := some 57, op := Op.move (Operand.tmp 10), type := 3, pos := "tree.go:56", after := #[{ on := 10, ground := Ground.guard }], guard := some (10, false) }) (v := ?_) rfl (by kernel_rfl) (by kernel_rfl) (by kernel_rfl) (fun _ _ _ h => h) (Or.inl ⟨by rfl, ?_⟩) (by assumption) ?_
              rotate_left
              · intro wq hSw
                go_simp
                try (with_reducible rfl)
              go_frame
              refine wpAnyH_take (i := 19) (oi := { dst := some 58, op := Op.indexAddr 23 (Operand.tmp 56) (Operand.tmp 57), type := 0, pos := "tree.go:56", after := #[{ on := 17, ground := Ground.data }, { on := 18, ground := Ground.data }, { on := 10, ground := Ground.guard }], guard := some (10, false) }) (v := ?_) rfl (by kernel_rfl) (by kernel_rfl) (by kernel_rfl) (fun _ _ _ h => h) (Or.inl ⟨by rfl, ?_⟩) (by assumption) ?_
              rotate_left
              · intro wq hSw
                go_simp
                try (with_reducible rfl)
              go_frame
              refine wpAnyH_take (i := 20) (oi := { dst := some 59, op := Op.fieldAddr 25 (Operand.tmp 58) 7, type := 0, pos := "tree.go:56", after := #[{ on := 19, ground := Ground.data }, { on := 10, ground := Ground.guard }], guard := some (10, false) }) (v := ?_) rfl (by kernel_rfl) (by kernel_rfl) (by kernel_rfl) (fun _ _ _ h => h) (Or.inl ⟨by rfl, ?_⟩) (by assumption) ?_
              rotate_left
              · intro wq hSw
                go_simp
                try (with_reducible rfl)
              go_frame
              refine wpAnyH_take (i := 21) (oi := { dst := some 60, op := Op.load 23 (Operand.tmp 59), type := 23, pos := "tree.go:56", after := #[{ on := 20, ground := Ground.data }, { on := 10, ground := Ground.guard }], guard := some (10, false) }) (v := ?_) rfl (by kernel_rfl) (by kernel_rfl) (by kernel_rfl) (fun _ _ _ h => h) (Or.inl ⟨by rfl, ?_⟩) (by assumption) ?_
              rotate_left
              · intro wq hSw
                obtain ⟨y0, y1, y2, y3, y4, y5, y6, y7⟩ := (unhide HCb).keep hSw hbbw hbbM
                go_simp
                try (with_reducible rfl)
              go_frame
              refine wpAnyH_ready (rs := [22]) (by kernel_rfl) (by simp) ?_
              refine AllReadyH.cons (o := { dst := some 61, op := Op.call { callee := Callee.value (Operand.func 34), args := #[Operand.tmp 50, Operand.tmp 55, Operand.tmp 60], argTypes := #[60, 23, 23] }, type := 4, pos := "tree.go:56", after := #[{ on := 11, ground := Ground.data }, { on := 16, ground := Ground.data }, { on := 21, ground := Ground.data }, { on := 10, ground := Ground.chain }, { on := 10, ground := Ground.guard }], guard := some (10, false) }) rfl (fun K hK => ?_) AllReadyH.nil
              go_simp
              refine (unhide HIH (cnts a - 1) (unhide HLT) a[k].ks b[k].ks _ va' vb' m S M l' (unhide HCN) hp ((unhide HKa).agree (unhide (HAG _ hHeld))) ((unhide HKb).agree (unhide (HAG _ hHeld))) (unhide HSM) ((unhide HML).below (unhide HB5) hMw) ((unhide HTW).agree (unhide (HAG _ hHeld)))).mono ?_
              rintro e w6 ⟨rfl, k6, hm6⟩
              rw [unhide HSK]
              have HK6 := hide k6
              have HM6 := hide hm6
              clear k6 hm6
              go_wp2_with fail
              refine hK.out _ _ ?_ (fun hHeld => ?_)
              · exact hHeld.trans (unhide HK6)
              clear hK K
              try go_frame
              refine wpAnyH_take (i := 23) (oi := { dst := some 62, op := Op.unOp UnOp.not 4 (Operand.tmp 61), type := 4, pos := "tree.go:56", after := #[{ on := 22, ground := Ground.data }, { on := 10, ground := Ground.guard }], guard := some (10, false) }) (v := ?_) rfl (by kernel_rfl) (by kernel_rfl) (by kernel_rfl) (fun _ _ _ h => h) (Or.inl ⟨by rfl, ?_⟩) (by assumption) ?_
              rotate_left
              · intro wq hSw
                go_simp
                try (with_reducible rfl)
              go_frame
              refine wpAnyH_take (i := 24) (oi := { dst := some 63, op := Op.pick (Operand.tmp 49) (Operand.const (Value.bool true)) (Operand.tmp 62), type := 4, pos := "tree.go:56", after := #[{ on := 10, ground := Ground.data }, { on := 23, ground := Ground.data }], guard := none }) (v := ?_) rfl (by kernel_rfl) (by kernel_rfl) (by kernel_rfl) (fun _ _ _ h => h) (Or.inl ⟨by rfl, ?_⟩) (by assumption) ?_
              rotate_left
              · intro wq hSw
                go_simp
                try (with_reducible rfl)
              go_frame
              refine wpAnyH_done (by kernel_rfl) ?_ _
              go_wp2
              go_ret
              exact ⟨ret_bool (unhide E), (unhide HK4).trans ((unhide HKW).trans hHeld), fun h => by rw [← unhide E] at h; cases h⟩
            · have HSK := hide hs
              have HAB := hide (hab.trans hs)
              clear hs hab
              go_wp2
              refine wp_region_held_drew (S := Keep M wr) (by kernel_rfl) ?_ (fun hHeld => ?_)
              · exact Keep.of_below (below_drw _)
              refine wpAnyH_take (i := 0) (oi := { dst := some 39, op := Op.move (Operand.tmp 1), type := 23, pos := "tree.go:56", after := #[], guard := none }) (v := ?_) rfl (by kernel_rfl) (by kernel_rfl) (by kernel_rfl) (fun _ _ _ h => h) (Or.inl ⟨by rfl, ?_⟩) (by assumption) ?_
              rotate_left
              · intro wq hSw
                go_simp
                try (with_reducible rfl)
              go_frame
              refine wpAnyH_take (i := 1) (oi := { dst := some 40, op := Op.move (Operand.tmp 10), type := 3, pos := "tree.go:56", after := #[], guard := none }) (v := ?_) rfl (by kernel_rfl) (by kernel_rfl) (by kernel_rfl) (fun _ _ _ h => h) (Or.inl ⟨by rfl, ?_⟩) (by assumption) ?_
              rotate_left
              · intro wq hSw
                go_simp
                try (with_reducible rfl)
              go_frame
              refine wpAnyH_take (i := 2) (oi := { dst := some 41, op := Op.indexAddr 23 (Operand.tmp 39) (Operand.tmp 40), type := 0, pos := "tree.go:56", after := #[{ on := 0, ground := Ground.data }, { on := 1, ground := Ground.data }], guard := none }) (v := ?_) rfl (by kernel_rfl) (by kernel_rfl) (by kernel_rfl) (fun _ _ _ h => h) (Or.inl ⟨by rfl, ?_⟩) (by assumption) ?_
              rotate_left
              · intro wq hSw
                go_simp
                try (with_reducible rfl)
              go_frame
              refine wpAnyH_take (i := 3) (oi := { dst := some 42, op := Op.load 25 (Operand.tmp 41), type := 25, pos := "tree.go:56", after := #[{ on := 2, ground := Ground.data }], guard := none }) (v := ?_) rfl (by kernel_rfl) (by kernel_rfl) (by kernel_rfl) (fun _ _ _ h => h) (Or.inl ⟨by rfl, ?_⟩) (by assumption) ?_
              rotate_left
              · intro wq hSw
                obtain ⟨y0, y1, y2, y3, y4, y5, y6, y7⟩ := (unhide HCa).keep hSw hbaw hbaM
                go_simp
                try (with_reducible rfl)
              go_frame
              refine wpAnyH_take (i := 4) (oi := { dst := some 43, op := Op.move (Operand.tmp 2), type := 23, pos := "tree.go:56", after := #[], guard := none }) (v := ?_) rfl (by kernel_rfl) (by kernel_rfl) (by kernel_rfl) (fun _ _ _ h => h) (Or.inl ⟨by rfl, ?_⟩) (by assumption) ?_
              rotate_left
              · intro wq hSw
                go_simp
                try (with_reducible rfl)
              go_frame
              refine wpAnyH_take (i := 5) (oi := { dst := some 44, op := Op.move (Operand.tmp 10), type := 3, pos := "tree.go:56", after := #[], guard := none }) (v := ?_) rfl (by kernel_rfl) (by kernel_rfl) (by kernel_rfl) (fun _ _ _ h => h) (Or.inl ⟨by rfl, ?_⟩) (by assumption) ?_
              rotate_left
              · intro wq hSw
                go_simp
                try (with_reducible rfl)
              go_frame
              refine wpAnyH_take (i := 6) (oi := { dst := some 45, op := Op.indexAddr 23 (Operand.tmp 43) (Operand.tmp 44), type := 0, pos := "tree.go:56", after := #[{ on := 4, ground := Ground.data }, { on := 5, ground := Ground.data }], guard := none }) (v := ?_) rfl (by kernel_rfl) (by kernel_rfl) (by kernel_rfl) (fun _ _ _ h => h) (Or.inl ⟨by rfl, ?_⟩) (by assumption) ?_
              rotate_left
              · intro wq hSw
                go_simp
                try (with_reducible rfl)
              go_frame
              refine wpAnyH_take (i := 7) (oi := { dst := some 46, op := Op.load 25 (Operand.tmp 45), type := 25, pos := "tree.go:56", after := #[{ on := 6, ground := Ground.data }], guard := none }) (v := ?_) rfl (by kernel_rfl) (by kernel_rfl) (by kernel_rfl) (fun _ _ _ h => h) (Or.inl ⟨by rfl, ?_⟩) (by assumption) ?_
              rotate_left
              · intro wq hSw
                obtain ⟨y0, y1, y2, y3, y4, y5, y6, y7⟩ := (unhide HCb).keep hSw hbbw hbbM
                go_simp
                try (with_reducible rfl)
              go_frame
              refine wpAnyH_ready (rs := [8]) (by kernel_rfl) (by simp) ?_
              refine AllReadyH.cons (o := { dst := some 47, op := Op.call { callee := Callee.value (Operand.func 33), args := #[Operand.tmp 42, Operand.tmp 46], argTypes := #[25, 25] }, type := 4, pos := "tree.go:56", after := #[{ on := 3, ground := Ground.data }, { on := 7, ground := Ground.data }], guard := none }) rfl (fun K hK => ?_) AllReadyH.nil
              go_simp
              refine (samef_is (unhide HF) _).mono ?_
              rintro e w5 ⟨rfl, b5⟩
              have HB5 := hide (below_undrew b5)
              clear b5
              go_wp2_with fail
              refine hK.out _ _ ?_ (fun hHeld => ?_)
              · exact Keep.of_below (unhide HB5)
              clear hK K
              try go_frame
              refine wpAnyH_take (i := 9) (oi := { dst := some 48, op := Op.unOp UnOp.not 4 (Operand.tmp 47), type := 4, pos := "tree.go:56", after := #[{ on := 8, ground := Ground.data }], guard := none }) (v := ?_) rfl (by kernel_rfl) (by kernel_rfl) (by kernel_rfl) (fun _ _ _ h => h) (Or.inl ⟨by rfl, ?_⟩) (by assumption) ?_
              rotate_left
              · intro wq hSw
                go_simp
                try (with_reducible rfl)
              go_frame
              refine wpAnyH_take (i := 10) (oi := { dst := some 49, op := Op.move (Operand.tmp 48), type := 4, pos := "tree.go:56", after := #[{ on := 9, ground := Ground.data }, { on := 8, ground := Ground.chain }], guard := none }) (v := ?_) rfl (by kernel_rfl) (by kernel_rfl) (by kernel_rfl) (fun _ _ _ h => h) (Or.inl ⟨by rfl, ?_⟩) (by assumption) ?_
              rotate_left
              · intro wq hSw
                go_simp
                try (with_reducible rfl)
              go_frame
              refine wpAnyH_take (i := 11) (oi := { dst := some 50, op := Op.move (Operand.tmp 0), type := 60, pos := "tree.go:56", after := #[{ on := 10, ground := Ground.guard }], guard := some (10, false) }) (v := ?_) rfl (by kernel_rfl) (by kernel_rfl) (by kernel_rfl) (fun _ _ _ h => h) (Or.inl ⟨by rfl, ?_⟩) (by assumption) ?_
              rotate_left
              · intro wq hSw
                go_simp
                try (with_reducible rfl)
              go_frame
              refine wpAnyH_take (i := 12) (oi := { dst := some 51, op := Op.move (Operand.tmp 1), type := 23, pos := "tree.go:56", after := #[{ on := 10, ground := Ground.guard }], guard := some (10, false) }) (v := ?_) rfl (by kernel_rfl) (by kernel_rfl) (by kernel_rfl) (fun _ _ _ h => h) (Or.inl ⟨by rfl, ?_⟩) (by assumption) ?_
              rotate_left
              · intro wq hSw
                go_simp
                try (with_reducible rfl)
              go_frame
              refine wpAnyH_take (i := 13) (oi := { dst := some 52, op := Op.move (Operand.tmp 10), type := 3, pos := "tree.go:56", after := #[{ on := 10, ground := Ground.guard }], guard := some (10, false) }) (v := ?_) rfl (by kernel_rfl) (by kernel_rfl) (by kernel_rfl) (fun _ _ _ h => h) (Or.inl ⟨by rfl, ?_⟩) (by assumption) ?_
              rotate_left
              · intro wq hSw
                go_simp
                try (with_reducible rfl)
              go_frame
              refine wpAnyH_take (i := 14) (oi := { dst := some 53, op := Op.indexAddr 23 (Operand.tmp 51) (Operand.tmp 52), type := 0, pos := "tree.go:56", after := #[{ on := 12, ground := Ground.data }, { on := 13, ground := Ground.data }, { on := 10, ground := Ground.guard }], guard := some (10, false) }) (v := ?_) rfl (by kernel_rfl) (by kernel_rfl) (by kernel_rfl) (fun _ _ _ h => h) (Or.inl ⟨by rfl, ?_⟩) (by assumption) ?_
              rotate_left
              · intro wq hSw
                go_simp
                try (with_reducible rfl)
              go_frame
              refine wpAnyH_take (i := 15) (oi := { dst := some 54, op := Op.fieldAddr 25 (Operand.tmp 53) 7, type := 0, pos := "tree.go:56", after := #[{ on := 14, ground := Ground.data }, { on := 10, ground := Ground.guard }], guard := some (10, false) }) (v := ?_) rfl (by kernel_rfl) (by kernel_rfl) (by kernel_rfl) (fun _ _ _ h => h) (Or.inl ⟨by rfl, ?_⟩) (by assumption) ?_
              rotate_left
              · intro wq hSw
                go_simp
                try (with_reducible rfl)
              go_frame
              refine wpAnyH_take (i := 16) (oi := { dst := some 55, op := Op.load 23 (Operand.tmp 54), type := 23, pos := "tree.go:56", after := #[{ on := 15, ground := Ground.data }, { on := 10, ground := Ground.guard }], guard := some (10, false) }) (v := ?_) rfl (by kernel_rfl) (by kernel_rfl) (by kernel_rfl) (fun _ _ _ h => h) (Or.inl ⟨by rfl, ?_⟩) (by assumption) ?_
              rotate_left
              · intro wq hSw
                obtain ⟨y0, y1, y2, y3, y4, y5, y6, y7⟩ := (unhide HCa).keep hSw hbaw hbaM
                go_simp
                try (with_reducible rfl)
              go_frame
              refine wpAnyH_take (i := 17) (oi := { dst := some 56, op := Op.move (Operand.tmp 2), type := 23, pos := "tree.go:56", after := #[{ on := 10, ground := Ground.guard }], guard := some (10, false) }) (v := ?_) rfl (by kernel_rfl) (by kernel_rfl) (by kernel_rfl) (fun _ _ _ h => h) (Or.inl ⟨by rfl, ?_⟩) (by assumption) ?_
              rotate_left
              · intro wq hSw
                go_simp
                try (with_reducible rfl)
              go_frame
              refine wpAnyH_take (i := 18) (oi := { dst := some 57, op := Op.move (Operand.tmp 10), type := 3, pos := "tree.go:56", after := #[{ on := 10, ground := Ground.guard }], guard := some (10, false) }) (v := ?_) rfl (by kernel_rfl) (by kernel_rfl) (by kernel_rfl) (fun _ _ _ h => h) (Or.inl ⟨by rfl, ?_⟩) (by assumption) ?_
              rotate_left
              · intro wq hSw
                go_simp
                try (with_reducible rfl)
              go_frame
              refine wpAnyH_take (i := 19) (oi := { dst := some 58, op := Op.indexAddr 23 (Operand.tmp 56) (Operand.tmp 57), type := 0, pos := "tree.go:56", after := #[{ on := 17, ground := Ground.data }, { on := 18, ground := Ground.data }, { on := 10, ground := Ground.guard }], guard := some (10, false) }) (v := ?_) rfl (by kernel_rfl) (by kernel_rfl) (by kernel_rfl) (fun _ _ _ h => h) (Or.inl ⟨by rfl, ?_⟩) (by assumption) ?_
              rotate_left
              · intro wq hSw
                go_simp
                try (with_reducible rfl)
              go_frame
              refine wpAnyH_take (i := 20) (oi := { dst := some 59, op := Op.fieldAddr 25 (Operand.tmp 58) 7, type := 0, pos := "tree.go:56", after := #[{ on := 19, ground := Ground.data }, { on := 10, ground := Ground.guard }], guard := some (10, false) }) (v := ?_) rfl (by kernel_rfl) (by kernel_rfl) (by kernel_rfl) (fun _ _ _ h => h) (Or.inl ⟨by rfl, ?_⟩) (by assumption) ?_
              rotate_left
              · intro wq hSw
                go_simp
                try (with_reducible rfl)
              go_frame
              refine wpAnyH_take (i := 21) (oi := { dst := some 60, op := Op.load 23 (Operand.tmp 59), type := 23, pos := "tree.go:56", after := #[{ on := 20, ground := Ground.data }, { on := 10, ground := Ground.guard }], guard := some (10, false) }) (v := ?_) rfl (by kernel_rfl) (by kernel_rfl) (by kernel_rfl) (fun _ _ _ h => h) (Or.inl ⟨by rfl, ?_⟩) (by assumption) ?_
              rotate_left
              · intro wq hSw
                obtain ⟨y0, y1, y2, y3, y4, y5, y6, y7⟩ := (unhide HCb).keep hSw hbbw hbbM
                go_simp
                try (with_reducible rfl)
              go_frame
              refine wpAnyH_ready (rs := [22]) (by kernel_rfl) (by simp) ?_
              refine AllReadyH.cons (o := { dst := some 61, op := Op.call { callee := Callee.value (Operand.func 34), args := #[Operand.tmp 50, Operand.tmp 55, Operand.tmp 60], argTypes := #[60, 23, 23] }, type := 4, pos := "tree.go:56", after := #[{ on := 11, ground := Ground.data }, { on := 16, ground := Ground.data }, { on := 21, ground := Ground.data }, { on := 10, ground := Ground.chain }, { on := 10, ground := Ground.guard }], guard := some (10, false) }) rfl (fun K hK => ?_) AllReadyH.nil
              go_simp
              refine (unhide HIH (cnts a - 1) (unhide HLT) a[k].ks b[k].ks _ va' vb' m S M l' (unhide HCN) hp ((unhide HKa).agree (unhide (HAG _ hHeld))) ((unhide HKb).agree (unhide (HAG _ hHeld))) (unhide HSM) ((unhide HML).below (unhide HB5) hMw) ((unhide HTW).agree (unhide (HAG _ hHeld)))).mono ?_
              rintro e w6 ⟨rfl, k6, hm6⟩
              rw [unhide HSK]
              have HK6 := hide k6
              have HM6 := hide hm6
              clear k6 hm6
              go_wp2_with fail
              refine hK.out _ _ ?_ (fun hHeld => ?_)
              · exact hHeld.trans (unhide HK6)
              clear hK K
              try go_frame
              refine wpAnyH_take (i := 23) (oi := { dst := some 62, op := Op.unOp UnOp.not 4 (Operand.tmp 61), type := 4, pos := "tree.go:56", after := #[{ on := 22, ground := Ground.data }, { on := 10, ground := Ground.guard }], guard := some (10, false) }) (v := ?_) rfl (by kernel_rfl) (by kernel_rfl) (by kernel_rfl) (fun _ _ _ h => h) (Or.inl ⟨by rfl, ?_⟩) (by assumption) ?_
              rotate_left
              · intro wq hSw
                go_simp
                try (with_reducible rfl)
              go_frame
              refine wpAnyH_take (i := 24) (oi := { dst := some 63, op := Op.pick (Operand.tmp 49) (Operand.const (Value.bool true)) (Operand.tmp 62), type := 4, pos := "tree.go:56", after := #[{ on := 10, ground := Ground.data }, { on := 23, ground := Ground.data }], guard := none }) (v := ?_) rfl (by kernel_rfl) (by kernel_rfl) (by kernel_rfl) (fun _ _ _ h => h) (Or.inl ⟨by rfl, ?_⟩) (by assumption) ?_
              rotate_left
              · intro wq hSw
                go_simp
                try (with_reducible rfl)
              go_frame
              refine wpAnyH_done (by kernel_rfl) ?_ _
              obtain ⟨l'', hm'', hmo''⟩ := unhide HM6 (unhide HSK)
              have HM7 := hide hm''
              have HO7 := hide (show More w6 m S (putE (⟨ba, oa, a.length⟩, ⟨bb, ob, b.length⟩) (.agg #[]) l) l'' from ((unhide HMO).agree (unhide (HAG _ hHeld))).trans hmo'')
              clear hm'' hmo''
              go_wp2
              go_roundw
              case rel => exact ⟨k + 1, by omega, by go_num, (unhide HKW).trans hHeld, fun j h h1 h2 => by
                rcases Nat.lt_or_ge j k with hj | hj
                · exact unhide HSM2 j hj h1 h2
                · obtain rfl : j = k := by omega
                  exact unhide HAB, l'', unhide HM7, unhide HO7⟩
              case measure => simp [intOf]; omega
        · have hs : sames a b = true := (sames_take a b (unhide HL)).2 fun i h h' => unhide HSM2 i (by omega) h h'
          have HS := hide hs
          clear hs
          go_wp2
          go_ret
          exact ⟨ret_bool (unhide HS).symm, (unhide HK4).trans (unhide HKW), fun _ => ⟨l', unhide HML, (unhide HMO).closed ⟨a, b, (unhide HKA).agree (unhide HG6), (unhide HKB).agree (unhide HG6), unhide HS⟩⟩⟩

end Go.Proofs.YtnclmlhmmljfgaaGreatDoor
