/- SeenBy: impl, spec -/
import Derived.Test.YtneofegnbflfiaaTsH
namespace Go.Proofs.Ytneofegnbflfiaa
open Go.RowKit
set_option linter.unusedVariables false
set_option linter.unusedSimpArgs false

theorem ret_ib {a b : Int} {c d : Bool} (h : a = b) (h' : c = d) : Ending.returned (.tuple #[.int .i64 a, .bool c]) = .returned (.tuple #[.int .i64 b, .bool d]) := by rw [h, h']
/-- may it be seen? -/
def seB (zs : List Int) (C : Nat) (L : Nat → Nat) (F : Nat → Nat → Nat → Int) (R : Nat) (Z : Nat → List Int) (c v : Int) : Bool := tokB zs C L F R Z && inB c 0 C && inB v 0 3
def seV (zs : List Int) (C : Nat) (L : Nat → Nat) (F : Nat → Nat → Nat → Int) (R : Nat) (Z : Nat → List Int) (c v : Int) : Int := if seB zs C L F R Z c v = true then sn zs (F c.toNat) v.toNat (L c.toNat) else 0
theorem tok_parts {zs : List Int} {C : Nat} {L : Nat → Nat} {F : Nat → Nat → Nat → Int} {R : Nat} {Z : Nat → List Int} (h : tokB zs C L F R Z = true) : (1 ≤ C ∧ C ≤ 3) ∧ R = C ∧ zs.length = 3 ∧ (∀ j, j < 3 → 0 ≤ zs.getD j 0 ∧ zs.getD j 0 < 10) ∧ (∀ c, c < C → L c ≤ 4 ∧ (∀ j, j < L c → (0 ≤ F c j 0 ∧ F c j 0 < 3) ∧ 0 ≤ F c j 1 ∧ F c j 1 < 10) ∧ (Z c).length = 2 ∧ ∀ j, j < 2 → 0 ≤ (Z c).getD j 0 ∧ (Z c).getD j 0 < 10) := by
  simp only [tokB, inB, digB, stB, Bool.and_eq_true, decide_eq_true_eq] at h
  obtain ⟨⟨⟨⟨a, b⟩, c⟩, d, e⟩, g⟩ := h
  refine ⟨by omega, c, d, fun j hj => e j (by omega), fun k hk => ?_⟩
  obtain ⟨⟨p, q⟩, r, s⟩ := g k hk
  exact ⟨p, fun j hj => q j hj, r, fun j hj => s j (by omega)⟩

set_option maxHeartbeats 4000000 in
theorem implSeenBy_any (mv bv rv : Value) (zs : List Int) (C : Nat) (L : Nat → Nat) (F : Nat → Nat → Nat → Int) (R : Nat) (Z : Nat → List Int) (c v : Int) (w : World) (h : Tv w mv bv rv zs C L F R Z) :
    Calls Try.prog 15 #[.agg #[mv, bv, rv], .int .i64 c, .int .i64 v] w fun e w' => e = .returned (.tuple #[.int .i64 (seV zs C L F R Z c v), .bool (seB zs C L F R Z c v)]) ∧ Below w.heap.size w w' := by
  have hB0 : Below w.heap.size w (w.alloc (.cells #[mv, bv, rv] 28)) := (Below.refl _ _).alloc (Nat.le_refl _) _
  obtain ⟨a0, a1, a2⟩ := box3 w mv bv rv 28
  have HT := hide h
  obtain ⟨⟨ma, mc, rfl, _⟩, ⟨ba, bc, rfl, _⟩, ⟨ra, rc, rfl, _⟩⟩ := h
  have hok := fun W h => implTsoOk_any (.slice ma zs.length mc) (.slice ba C bc) (.slice ra R rc) zs C L F R Z W h
  have hco := fun W => cores_any (.slice none 0 0) ba C bc ra R rc ma zs.length mc W
  have hb1 := fun W => isBelow_any c (C : Int) W
  have hb2 := fun W => isBelow_any v 3 W
  cases hx : tokB zs C L F R Z
  · have HO : Hid (0 = seV zs C L F R Z c v ∧ false = seB zs C L F R Z c v) := hide (by simp [seV, seB, hx])
    rw [hx] at hok
    clear hx hco hb1 hb2
    go_enter Try.func15, Try.ntmps15
    go_wp2_with fail
    refine (hok _ (HT.out.below hB0)).mono ?_
    rintro e w1 ⟨rfl, hw1⟩
    have HB := hide (hB0.trans (hw1.mono hB0.size))
    clear hok hw1 hB0 HT
    go_wp2
    go_ret2
    exact ⟨ret_ib HO.out.1 HO.out.2, HB.out⟩
  have hpa := tok_parts hx
  rw [hx] at hok
  cases hy : inB c 0 C
  · have HO : Hid (0 = seV zs C L F R Z c v ∧ false = seB zs C L F R Z c v) := hide (by simp [seV, seB, hy])
    rw [hy] at hb1
    clear hx hy hb2 hpa
    go_enter Try.func15, Try.ntmps15
    go_wp2_with fail
    refine (hok _ (HT.out.below hB0)).mono ?_
    rintro e w1 ⟨rfl, hw1⟩
    have hB1 := hB0.trans (hw1.mono hB0.size)
    have d0 := keepc hw1 a0
    have d1 := keepc hw1 a1
    have d2 := keepc hw1 a2
    clear hok hw1 hB0 HT a0 a1 a2
    go_wp2_with fail
    refine (hco _).mono ?_
    rintro e w2 ⟨rfl, hw2⟩
    have HB := hide (hB1.trans (hw2.mono hB1.size))
    clear hco hw2 hB1 d0 d1 d2
    go_wp2_with fail
    refine (hb1 _).mono ?_
    rintro e w3 ⟨rfl, rfl⟩
    clear hb1
    go_wp2
    go_ret2
    exact ⟨ret_ib HO.out.1 HO.out.2, HB.out⟩
  rw [hy] at hb1
  cases hz : inB v 0 3
  · have HO : Hid (0 = seV zs C L F R Z c v ∧ false = seB zs C L F R Z c v) := hide (by simp [seV, seB, hz])
    rw [hz] at hb2
    clear hx hy hz hpa
    go_enter Try.func15, Try.ntmps15
    go_wp2_with fail
    refine (hok _ (HT.out.below hB0)).mono ?_
    rintro e w1 ⟨rfl, hw1⟩
    have hB1 := hB0.trans (hw1.mono hB0.size)
    have d0 := keepc hw1 a0
    have d1 := keepc hw1 a1
    have d2 := keepc hw1 a2
    clear hok hw1 hB0 HT a0 a1 a2
    go_wp2_with fail
    refine (hco _).mono ?_
    rintro e w2 ⟨rfl, hw2⟩
    have HB := hide (hB1.trans (hw2.mono hB1.size))
    clear hco hw2 hB1 d0 d1 d2
    go_wp2_with fail
    refine (hb1 _).mono ?_
    rintro e w3 ⟨rfl, rfl⟩
    clear hb1
    go_wp2_with fail
    refine (hb2 _).mono ?_
    rintro e w4 ⟨rfl, rfl⟩
    clear hb2
    go_wp2
    go_ret2
    exact ⟨ret_ib HO.out.1 HO.out.2, HB.out⟩
  rw [hz] at hb2
  have hcc : 0 ≤ c ∧ c < (C : Int) := by simpa [inB] using hy
  have hvv : 0 ≤ v ∧ v < 3 := by simpa [inB] using hz
  obtain ⟨c', rfl⟩ : ∃ c' : Nat, c = c' := ⟨c.toNat, by omega⟩
  obtain ⟨v', rfl⟩ : ∃ v' : Nat, v = v' := ⟨v.toNat, by omega⟩
  have HO : Hid (sn zs (F c') v' (L c') = seV zs C L F R Z c' v' ∧ true = seB zs C L F R Z c' v') := hide (by simp [seV, seB, hx, hy, hz])
  have hse := fun W h => implSeen_any (.slice ma zs.length mc) (.slice ba C bc) (.slice ra R rc) zs C L F R Z c' v' W h (by omega) (by omega) (by have := (hpa.2.2.2.2 c' (by omega)).1; omega)
  generalize sn zs (F c') v' (L c') = sv at hse HO
  clear hx hy hz hpa hcc hvv
  go_enter Try.func15, Try.ntmps15
  go_wp2_with fail
  refine (hok _ (HT.out.below hB0)).mono ?_
  rintro e w1 ⟨rfl, hw1⟩
  have hB1 := hB0.trans (hw1.mono hB0.size)
  have d0 := keepc hw1 a0
  have d1 := keepc hw1 a1
  have d2 := keepc hw1 a2
  clear hok hw1 hB0 a0 a1 a2
  go_wp2_with fail
  refine (hco _).mono ?_
  rintro e w2 ⟨rfl, hw2⟩
  have hB2 := hB1.trans (hw2.mono hB1.size)
  have e0 := keepc hw2 d0
  have e1 := keepc hw2 d1
  have e2 := keepc hw2 d2
  clear hco hw2 hB1 d0 d1 d2
  go_wp2_with fail
  refine (hb1 _).mono ?_
  rintro e w3 ⟨rfl, rfl⟩
  clear hb1
  go_wp2_with fail
  refine (hb2 _).mono ?_
  rintro e w4 ⟨rfl, rfl⟩
  clear hb2
  go_wp2_with fail
  refine (hse _ (HT.out.below hB2)).mono ?_
  rintro e w5 ⟨rfl, hw5⟩
  have HB := hide (hB2.trans (hw5.mono hB2.size))
  clear hse hw5 hB2 HT
  go_wp2
  go_ret2
  exact ⟨ret_ib HO.out.1 HO.out.2, HB.out⟩

set_option maxHeartbeats 4000000 in
theorem specSeenBy_any (mv bv rv : Value) (zs : List Int) (C : Nat) (L : Nat → Nat) (F : Nat → Nat → Nat → Int) (R : Nat) (Z : Nat → List Int) (c v : Int) (w : World) (h : Tv w mv bv rv zs C L F R Z) :
    Calls Try.prog 16 #[.agg #[mv, bv, rv], .int .i64 c, .int .i64 v] w fun e w' => e = .returned (.tuple #[.int .i64 (seV zs C L F R Z c v), .bool (seB zs C L F R Z c v)]) ∧ Below w.heap.size w w' := by
  have hB0 : Below w.heap.size w (w.alloc (.cells #[mv, bv, rv] 28)) := (Below.refl _ _).alloc (Nat.le_refl _) _
  obtain ⟨a0, a1, a2⟩ := box3 w mv bv rv 28
  have HT := hide h
  obtain ⟨⟨ma, mc, rfl, _⟩, ⟨ba, bc, rfl, _⟩, ⟨ra, rc, rfl, _⟩⟩ := h
  have hok := fun W h => specTsoOk_any (.slice ma zs.length mc) (.slice ba C bc) (.slice ra R rc) zs C L F R Z W h
  have hb1 := fun W => l1InB c 0 ((C : Int) - 1) W
  have hb2 := fun W => l1InB v 0 2 W
  simp only [Int.sub_add_cancel] at hb1
  simp only [show (2 : Int) + 1 = 3 from rfl] at hb2
  cases hx : tokB zs C L F R Z
  · have HO : Hid (0 = seV zs C L F R Z c v ∧ false = seB zs C L F R Z c v) := hide (by simp [seV, seB, hx])
    rw [hx] at hok
    clear hx hb1 hb2
    go_enter Try.func16, Try.ntmps16
    go_wp2_with fail
    refine (hok _ (HT.out.below hB0)).mono ?_
    rintro e w1 ⟨rfl, hw1⟩
    have HB := hide (hB0.trans (hw1.mono hB0.size))
    clear hok hw1 hB0 HT
    go_wp2
    go_ret2
    exact ⟨ret_ib HO.out.1 HO.out.2, HB.out⟩
  have hpa := tok_parts hx
  have hwC : wrap64 ((C : Int) - 1) = (C : Int) - 1 := Go.IntWalk.wrap64_in _ (by omega)
  rw [hx] at hok
  cases hy : inB c 0 C
  · have HO : Hid (0 = seV zs C L F R Z c v ∧ false = seB zs C L F R Z c v) := hide (by simp [seV, seB, hy])
    rw [hy] at hb1
    clear hx hy hb2 hpa
    go_enter Try.func16, Try.ntmps16
    go_wp2_with fail
    refine (hok _ (HT.out.below hB0)).mono ?_
    rintro e w1 ⟨rfl, hw1⟩
    have hB1 := hB0.trans (hw1.mono hB0.size)
    have d1 := keepc hw1 a1
    clear hok hw1 hB0 HT a0 a1 a2
    go_wp2_with fail
    refine (hb1 _).mono ?_
    rintro e w3 ⟨rfl, rfl⟩
    clear hb1
    go_wp2
    go_ret2
    exact ⟨ret_ib HO.out.1 HO.out.2, hB1⟩
  rw [hy] at hb1
  cases hz : inB v 0 3
  · have HO : Hid (0 = seV zs C L F R Z c v ∧ false = seB zs C L F R Z c v) := hide (by simp [seV, seB, hz])
    rw [hz] at hb2
    clear hx hy hz hpa
    go_enter Try.func16, Try.ntmps16
    go_wp2_with fail
    refine (hok _ (HT.out.below hB0)).mono ?_
    rintro e w1 ⟨rfl, hw1⟩
    have hB1 := hB0.trans (hw1.mono hB0.size)
    have d1 := keepc hw1 a1
    clear hok hw1 hB0 HT a0 a1 a2
    go_wp2_with fail
    refine (hb1 _).mono ?_
    rintro e w3 ⟨rfl, rfl⟩
    clear hb1
    go_wp2_with fail
    refine (hb2 _).mono ?_
    rintro e w4 ⟨rfl, rfl⟩
    clear hb2
    go_wp2
    go_ret2
    exact ⟨ret_ib HO.out.1 HO.out.2, hB1⟩
  rw [hz] at hb2
  have hcc : 0 ≤ c ∧ c < (C : Int) := by simpa [inB] using hy
  have hvv : 0 ≤ v ∧ v < 3 := by simpa [inB] using hz
  obtain ⟨c', rfl⟩ : ∃ c' : Nat, c = c' := ⟨c.toNat, by omega⟩
  obtain ⟨v', rfl⟩ : ∃ v' : Nat, v = v' := ⟨v.toNat, by omega⟩
  have HO : Hid (sn zs (F c') v' (L c') = seV zs C L F R Z c' v' ∧ true = seB zs C L F R Z c' v') := hide (by simp [seV, seB, hx, hy, hz])
  have hse := fun W h => specSeen_any (.slice ma zs.length mc) (.slice ba C bc) (.slice ra R rc) zs C L F R Z c' v' W h (by omega) (by omega) (by have := (hpa.2.2.2.2 c' (by omega)).1; omega)
  generalize sn zs (F c') v' (L c') = sv at hse HO
  clear hx hy hz hpa hcc hvv
  go_enter Try.func16, Try.ntmps16
  go_wp2_with fail
  refine (hok _ (HT.out.below hB0)).mono ?_
  rintro e w1 ⟨rfl, hw1⟩
  have hB1 := hB0.trans (hw1.mono hB0.size)
  have d0 := keepc hw1 a0
  have d1 := keepc hw1 a1
  have d2 := keepc hw1 a2
  clear hok hw1 hB0 a0 a1 a2
  go_wp2_with fail
  refine (hb1 _).mono ?_
  rintro e w3 ⟨rfl, rfl⟩
  clear hb1
  go_wp2_with fail
  refine (hb2 _).mono ?_
  rintro e w4 ⟨rfl, rfl⟩
  clear hb2
  go_wp2_with fail
  refine (hse _ (HT.out.below hB1)).mono ?_
  rintro e w5 ⟨rfl, hw5⟩
  have HB := hide (hB1.trans (hw5.mono hB1.size))
  clear hse hw5 hB1 HT
  go_wp2
  go_ret2
  exact ⟨ret_ib HO.out.1 HO.out.2, HB.out⟩

end Go.Proofs.Ytneofegnbflfiaa
