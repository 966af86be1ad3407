/- buffers: sizes; compared (written by mkTsC.py) -/
import Derived.Test.YtcocobmanlmjdaaTsB
namespace Go.Proofs.Ytcocobmanlmjdaa
open Go.RowKit
set_option linter.unusedVariables false
set_option linter.unusedSimpArgs false

/-- a Tso, read: memory zs, C buffers, R rows of registers -/
structure Tv (w : World) (mv bv rv : Value) (zs : List Int) (C : Nat) (L : Nat → Nat) (F : Nat → Nat → Nat → Int) (R : Nat) (Z : Nat → List Int) : Prop where
  mem : Sl w mv zs
  buf : Ss w bv C L F
  reg : Si w rv R Z
theorem Tv.below {w w' : World} {mv bv rv : Value} {zs : List Int} {C : Nat} {L : Nat → Nat} {F : Nat → Nat → Nat → Int} {R : Nat} {Z : Nat → List Int} (h : Tv w mv bv rv zs C L F R Z) (hb : Below w.heap.size w w') : Tv w' mv bv rv zs C L F R Z := ⟨h.mem.below hb, h.buf.below hb, h.reg.below hb⟩
/-- not too large -/
structure Tl (zs : List Int) (C : Nat) (L : Nat → Nat) (R : Nat) (Z : Nat → List Int) : Prop where
  mem : zs.length ≤ 1048576
  buf : C ≤ 1048576 ∧ ∀ c, c < C → L c ≤ 1048576
  reg : R ≤ 1048576 ∧ ∀ c, c < R → (Z c).length ≤ 1048576

theorem box3 (w : World) (a b c : Value) (T : TypeId) : (w.alloc (.cells #[a, b, c] T)).cell? ⟨w.heap.size, 0, none⟩ = some a ∧ (w.alloc (.cells #[a, b, c] T)).cell? ⟨w.heap.size, 1, none⟩ = some b ∧ (w.alloc (.cells #[a, b, c] T)).cell? ⟨w.heap.size, 2, none⟩ = some c := by
  have h := heap_alloc_new w (.cells #[a, b, c] T)
  exact ⟨(cell_of_row _ _ 0 _ _ _ h).trans rfl, (cell_of_row _ _ 1 _ _ _ h).trans rfl, (cell_of_row _ _ 2 _ _ _ h).trans rfl⟩

set_option maxHeartbeats 2000000 in
theorem eqTso_same (mv bv rv mv' bv' rv' : Value) (zs : List Int) (C : Nat) (L : Nat → Nat) (F : Nat → Nat → Nat → Int) (R : Nat) (Z : Nat → List Int) (w : World) (h : Tv w mv bv rv zs C L F R Z) (h' : Tv w mv' bv' rv' zs C L F R Z) (hl : Tl zs C L R Z) :
    Calls Try.prog 13 #[.agg #[mv, bv, rv], .agg #[mv', bv', rv']] w fun e w' => e = .returned (.bool true) ∧ Below w.heap.size w w' := by
  have hA : Below w.heap.size w (w.alloc (.cells #[mv, bv, rv] 37)) := (Below.refl _ _).alloc (Nat.le_refl _) _
  have hA2 : Below (w.alloc (.cells #[mv, bv, rv] 37)).heap.size (w.alloc (.cells #[mv, bv, rv] 37)) ((w.alloc (.cells #[mv, bv, rv] 37)).alloc (.cells #[mv', bv', rv'] 37)) := (Below.refl _ _).alloc (Nat.le_refl _) _
  obtain ⟨a0, a1, a2⟩ := box3 w mv bv rv 37
  obtain ⟨b0, b1, b2⟩ := box3 (w.alloc (.cells #[mv, bv, rv] 37)) mv' bv' rv' 37
  have c0 := keepc hA2 a0
  have c1 := keepc hA2 a1
  have c2 := keepc hA2 a2
  have hB := hA.trans (hA2.mono hA.size)
  have HT := hide (h.below hB)
  have HT' := hide (h'.below hB)
  obtain ⟨⟨ma, mc, rfl, _⟩, ⟨ba, bc, rfl, _⟩, ⟨ra, rc, rfl, _⟩⟩ := h
  obtain ⟨⟨ma', mc', rfl, _⟩, ⟨ba', bc', rfl, _⟩, ⟨ra', rc', rfl, _⟩⟩ := h'
  simp only [World.size_alloc] at b0 b1 b2
  clear a0 a1 a2 hA hA2
  generalize hW : ((w.alloc (.cells #[.slice ma zs.length mc, .slice ba C bc, .slice ra R rc] 37)).alloc (.cells #[.slice ma' zs.length mc', .slice ba' C bc', .slice ra' R rc'] 37)) = W at *
  go_enter Try.func13, Try.ntmps13
  go_wp2_with fail
  refine (eq_same _ _ zs _ HT.out.mem HT'.out.mem hl.mem).mono ?_
  rintro e w1 ⟨rfl, hb1⟩
  have hB1 := hB.trans (hb1.mono hB.size)
  have e1 := keepc hb1 c1
  have e2 := keepc hb1 c2
  have f1 := keepc hb1 b1
  have f2 := keepc hb1 b2
  have HT1 := hide (HT.out.below hb1)
  have HT1' := hide (HT'.out.below hb1)
  clear c0 c1 c2 b0 b1 b2 hb1 hB HT HT' hW
  go_wp2_with fail
  refine (eqStoreSS_same _ _ C L F _ HT1.out.buf HT1'.out.buf hl.buf.1 hl.buf.2).mono ?_
  rintro e w2 ⟨rfl, hb2⟩
  have hB2 := hB1.trans (hb2.mono hB1.size)
  have g2 := keepc hb2 e2
  have k2 := keepc hb2 f2
  have HT2 := hide (HT1.out.below hb2)
  have HT2' := hide (HT1'.out.below hb2)
  clear e1 e2 f1 f2 hb2 hB1 HT1 HT1'
  go_wp2_with fail
  refine (eqInt64SS_same _ _ R Z _ HT2.out.reg HT2'.out.reg hl.reg.1 hl.reg.2).mono ?_
  rintro e w3 ⟨rfl, hb3⟩
  have HB := hide (hB2.trans (hb3.mono hB2.size))
  clear g2 k2 hb3 hB2 HT2 HT2'
  go_wp2
  go_ret
  exact ⟨rfl, HB.out⟩

end Go.Proofs.Ytcocobmanlmjdaa
