/- slots: the small tests; SlotOk of both sides by one Bool function; toSlot, eqSlot -/
import Derived.Test.YtelknolcneiikaaDoorMsgC
import Derived.WalkKit
import Derived.WalkSpells
import Derived.WalkLawsBesides
import Derived.Deep.Light
namespace Go.Proofs.YtelknolcneiikaaDoor
open Go.RowKit

theorem inB_iff {n a b : Int} : inB n a b = true ↔ a ≤ n ∧ n ≤ b := by simp [inB]

/-- hasOk's answer -/
def hasB (st d : Int) : Bool := if st = 0 then d == 0 else inB st 1 3 && inB d 0 1000000
/-- wishOk's answer -/
def wishB (st wt v : Int) : Bool := if wt = 0 then v == 0 else if wt = 1 then v == 0 && st == 0 else if wt = 2 then inB v 0 1000000 && (st == 0 || st == 1) else false
/-- a right slot -/
def slB (st d wt v : Int) : Bool := hasB st d && wishB st wt v

theorem hasB_iff {st d : Int} : hasB st d = true ↔ (st = 0 ∧ d = 0) ∨ ((st = 1 ∨ st = 2 ∨ st = 3) ∧ 0 ≤ d ∧ d ≤ 1000000) := by
  unfold hasB
  by_cases h : st = 0
  · subst h; simp
  · rw [if_neg h, Bool.and_eq_true, inB_iff, inB_iff]; omega

theorem wishB_iff {st wt v : Int} : wishB st wt v = true ↔ (wt = 0 ∧ v = 0) ∨ (wt = 1 ∧ v = 0 ∧ st = 0) ∨ (wt = 2 ∧ 0 ≤ v ∧ v ≤ 1000000 ∧ (st = 0 ∨ st = 1)) := by
  unfold wishB
  by_cases h : wt = 0
  · subst h; simp
  · rw [if_neg h]
    by_cases h1 : wt = 1
    · subst h1; simp
    · rw [if_neg h1]
      by_cases h2 : wt = 2
      · subst h2; simp [inB]; constructor
        · rintro ⟨⟨a, b⟩, c⟩; exact ⟨a, b, c⟩
        · rintro ⟨a, b, c⟩; exact ⟨⟨a, b⟩, c⟩
      · simp [h, h1, h2]

/-- what a right slot is, case by case -/
theorem slB_cases {st d wt v : Int} (h : slB st d wt v = true) : (0 ≤ d ∧ d ≤ 1000000 ∧ 0 ≤ v ∧ v ≤ 1000000) ∧
    ((st = 0 ∧ d = 0 ∧ wt = 0 ∧ v = 0) ∨ (st = 0 ∧ d = 0 ∧ wt = 1 ∧ v = 0) ∨ (st = 0 ∧ d = 0 ∧ wt = 2) ∨ (st = 1 ∧ wt = 0 ∧ v = 0) ∨ (st = 1 ∧ wt = 2) ∨ (st = 2 ∧ wt = 0 ∧ v = 0) ∨ (st = 3 ∧ wt = 0 ∧ v = 0)) := by
  unfold slB at h
  rw [Bool.and_eq_true, hasB_iff, wishB_iff] at h
  obtain ⟨h1, h2⟩ := h
  rcases h1 with ⟨rfl, rfl⟩ | ⟨rfl | rfl | rfl, hd⟩ <;> rcases h2 with ⟨rfl, rfl⟩ | ⟨rfl, rfl, hs⟩ | ⟨rfl, hv1, hv2, hs⟩ <;> simp_all

theorem slB_of {st d wt v : Int} (h0 : 0 ≤ d ∧ d ≤ 1000000 ∧ 0 ≤ v ∧ v ≤ 1000000)
    (h : (st = 0 ∧ d = 0 ∧ wt = 0 ∧ v = 0) ∨ (st = 0 ∧ d = 0 ∧ wt = 1 ∧ v = 0) ∨ (st = 0 ∧ d = 0 ∧ wt = 2) ∨ (st = 1 ∧ wt = 0 ∧ v = 0) ∨ (st = 1 ∧ wt = 2) ∨ (st = 2 ∧ wt = 0 ∧ v = 0) ∨ (st = 3 ∧ wt = 0 ∧ v = 0)) : slB st d wt v = true := by
  unfold slB
  rw [Bool.and_eq_true, hasB_iff, wishB_iff]
  rcases h with ⟨rfl, rfl, rfl, rfl⟩ | ⟨rfl, rfl, rfl, rfl⟩ | ⟨rfl, rfl, rfl⟩ | ⟨rfl, rfl, rfl⟩ | ⟨rfl, rfl⟩ | ⟨rfl, rfl, rfl⟩ | ⟨rfl, rfl, rfl⟩ <;> simp_all

theorem slB_not {st d wt v : Int} (h : slB st d wt v = true → False) : slB st d wt v = false := by
  rw [Bool.eq_false_iff]; exact h

set_option maxHeartbeats 1000000 in
theorem hasOk_any (st d wt v : Int) (w : World) : Calls Tryd.prog 45 #[.agg #[.int .i64 st, .int .i64 d, .int .i64 wt, .int .i64 v]] w fun e w' => e = .returned (.bool (hasB st d)) ∧ Below w.heap.size w w' := by
  have HB := hide ((Below.refl w.heap.size w).alloc (Nat.le_refl _) (.cells #[.int .i64 st, .int .i64 d, .int .i64 wt, .int .i64 v] 47))
  by_cases h0 : st = 0
  · subst h0
    have HR : Hid (hasB 0 d = (d == 0)) := hide (by simp [hasB])
    go_enter Tryd.func45, Tryd.ntmps45
    go_wp2
    go_ret
    exact ⟨ret_bool (by rw [HR.out]), HB.out⟩
  · have HR : Hid (hasB st d = (inB st 1 3 && inB d 0 1000000)) := hide (by simp [hasB, h0])
    by_cases h1 : 1 ≤ st
    · by_cases h3 : st ≤ 3
      · have HR' : Hid (hasB st d = inB d 0 1000000) := hide (by rw [HR.out, inB_yes h1 h3]; rfl)
        go_enter Tryd.func45, Tryd.ntmps45
        go_wp2_with fail
        refine (isValue_any _ _).mono ?_
        rintro e w1 ⟨rfl, rfl⟩
        generalize inB d 0 1000000 = b at HR'
        go_wp2
        go_ret
        exact ⟨ret_bool (by rw [HR'.out]), HB.out⟩
      · have HR' : Hid (hasB st d = false) := hide (by rw [HR.out, inB_no (by omega)]; rfl)
        go_enter Tryd.func45, Tryd.ntmps45
        go_wp2
        go_ret
        exact ⟨ret_bool (by rw [HR'.out]), HB.out⟩
    · have HR' : Hid (hasB st d = false) := hide (by rw [HR.out, inB_no (by omega)]; rfl)
      go_enter Tryd.func45, Tryd.ntmps45
      go_wp2
      go_ret
      exact ⟨ret_bool (by rw [HR'.out]), HB.out⟩

set_option maxHeartbeats 1000000 in
theorem wishOk_any (st d wt v : Int) (w : World) : Calls Tryd.prog 46 #[.agg #[.int .i64 st, .int .i64 d, .int .i64 wt, .int .i64 v]] w fun e w' => e = .returned (.bool (wishB st wt v)) ∧ Below w.heap.size w w' := by
  have HB := hide ((Below.refl w.heap.size w).alloc (Nat.le_refl _) (.cells #[.int .i64 st, .int .i64 d, .int .i64 wt, .int .i64 v] 47))
  by_cases h0 : wt = 0
  · subst h0
    have HR : Hid (wishB st 0 v = (v == 0)) := hide (by simp [wishB])
    go_enter Tryd.func46, Tryd.ntmps46
    go_wp2
    go_ret
    exact ⟨ret_bool (by rw [HR.out]), HB.out⟩
  · by_cases h1 : wt = 1
    · subst h1
      by_cases hv : v = 0
      · subst hv
        have HR : Hid (wishB st 1 0 = (st == 0)) := hide (by simp [wishB])
        go_enter Tryd.func46, Tryd.ntmps46
        go_wp2
        go_ret
        exact ⟨ret_bool (by rw [HR.out]), HB.out⟩
      · have HR : Hid (wishB st 1 v = false) := hide (by simp [wishB, hv])
        go_enter Tryd.func46, Tryd.ntmps46
        go_wp2
        go_ret
        exact ⟨ret_bool (by rw [HR.out]), HB.out⟩
    · by_cases h2 : wt = 2
      · subst h2
        cases hv : inB v 0 1000000 with
        | false =>
          have HR : Hid (wishB st 2 v = false) := hide (by simp [wishB, hv])
          go_enter Tryd.func46, Tryd.ntmps46
          go_wp2_with fail
          refine (isValue_any _ _).mono ?_
          rintro e w1 ⟨rfl, rfl⟩
          rw [hv]
          go_wp2
          go_ret
          exact ⟨ret_bool (by rw [HR.out]), HB.out⟩
        | true =>
          by_cases hs : st = 0
          · subst hs
            have HR : Hid (wishB 0 2 v = true) := hide (by simp [wishB, hv])
            go_enter Tryd.func46, Tryd.ntmps46
            go_wp2_with fail
            refine (isValue_any _ _).mono ?_
            rintro e w1 ⟨rfl, rfl⟩
            rw [hv]
            go_wp2
            go_ret
            exact ⟨ret_bool (by rw [HR.out]), HB.out⟩
          · have HR : Hid (wishB st 2 v = (st == 0 || st == 1)) := hide (by simp [wishB, hv])
            go_enter Tryd.func46, Tryd.ntmps46
            go_wp2_with fail
            refine (isValue_any _ _).mono ?_
            rintro e w1 ⟨rfl, rfl⟩
            rw [hv]
            go_wp2
            go_ret
            exact ⟨ret_bool (by rw [HR.out]), HB.out⟩
      · have HR : Hid (wishB st wt v = false) := hide (by simp [wishB, h0, h1, h2])
        go_enter Tryd.func46, Tryd.ntmps46
        go_wp2
        go_ret
        exact ⟨ret_bool (by rw [HR.out]), HB.out⟩

theorem keepc {w w' : World} (hb : Below w.heap.size w w') {a : Addr} {u : Value} (h : w.cell? a = some u) : w'.cell? a = some u := by
  rw [hb.cell (World.block_lt_of_cell? w a h)]; exact h

/-- four cells of a box, kept -/
def SC (w : World) (B : Nat) (a b c d : Int) (wx : World) : Prop :=
  Below w.heap.size w wx ∧ wx.cell? ⟨B, 0, none⟩ = some (.int .i64 a) ∧ wx.cell? ⟨B, 1, none⟩ = some (.int .i64 b) ∧ wx.cell? ⟨B, 2, none⟩ = some (.int .i64 c) ∧ wx.cell? ⟨B, 3, none⟩ = some (.int .i64 d)
theorem sc_next {w wx wy : World} {B : Nat} {a b c d : Int} (h : SC w B a b c d wx) (hb : Below wx.heap.size wx wy) : SC w B a b c d wy :=
  ⟨h.1.trans (hb.mono h.1.size), keepc hb h.2.1, keepc hb h.2.2.1, keepc hb h.2.2.2.1, keepc hb h.2.2.2.2⟩
theorem sc_box (w : World) (a b c d : Int) (T : TypeId) : SC w w.heap.size a b c d (w.alloc (.cells #[.int .i64 a, .int .i64 b, .int .i64 c, .int .i64 d] T)) :=
  ⟨(Below.refl _ _).alloc (Nat.le_refl _) _, by simp, by simp, by simp, by simp⟩

set_option maxHeartbeats 1000000 in
theorem implSlotOk_any (st d wt v : Int) (w : World) : Calls Tryd.prog 39 #[.agg #[.int .i64 st, .int .i64 d, .int .i64 wt, .int .i64 v]] w fun e w' => e = .returned (.bool (slB st d wt v)) ∧ Below w.heap.size w w' := by
  have m0 := sc_box w st d wt v 47
  go_enter Tryd.func39, Tryd.ntmps39
  go_wp2_with fail
  refine (hasOk_any _ _ _ _ _).mono ?_
  rintro e w1 ⟨rfl, hb1⟩
  have m1 := sc_next m0 hb1
  clear hb1 m0
  cases hh : hasB st d with
  | false =>
    go_wp2
    go_ret
    exact ⟨ret_bool (by rw [slB, hh]; rfl), m1.1⟩
  | true =>
    obtain ⟨q, c0, c1, c2, c3⟩ := id m1
    go_wp2_with fail
    refine (wishOk_any _ _ _ _ _).mono ?_
    rintro e w2 ⟨rfl, hb2⟩
    have m2 := sc_next m1 hb2
    clear hb2 c0 c1 c2 c3 q m1
    have HR2 : Hid (slB st d wt v = wishB st wt v) := hide (by rw [slB, hh]; rfl)
    generalize wishB st wt v = b at HR2
    go_wp2
    go_ret
    exact ⟨ret_bool (by rw [HR2.out]), m2.1⟩

end Go.Proofs.YtelknolcneiikaaDoor
