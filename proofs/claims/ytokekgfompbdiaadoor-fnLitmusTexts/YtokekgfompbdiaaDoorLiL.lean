/- spec.l10Form (written by mkTkL.py) -/
import Derived.Test.YtokekgfompbdiaaDoorLiA
namespace Go.Proofs.YtokekgfompbdiaaDoor
open Go.RowKit
set_option linter.unusedVariables false
set_option linter.unusedSimpArgs false

set_option maxHeartbeats 1000000 in
theorem l1InB (n lo hi : Int) (w : World) : Calls Tryd.prog 21 #[.int .i64 n, .int .i64 lo, .int .i64 hi] w fun e w' => e = .returned (.bool (inB n lo (hi + 1))) ∧ w' = w := by
  by_cases h0 : lo ≤ n
  · by_cases h1 : n ≤ hi
    · have HO : Hid (true = inB n lo (hi + 1)) := hide (by simp [inB, h0]; omega)
      go_enter Tryd.func21, Tryd.ntmps21
      go_wp2
      go_ret
      exact ⟨ret_b HO.out, rfl⟩
    · have HO : Hid (false = inB n lo (hi + 1)) := hide (by simp [inB]; omega)
      go_enter Tryd.func21, Tryd.ntmps21
      go_wp2
      go_ret
      exact ⟨ret_b HO.out, rfl⟩
  · have HO : Hid (false = inB n lo (hi + 1)) := hide (by simp [inB, h0])
    go_enter Tryd.func21, Tryd.ntmps21
    go_wp2
    go_ret
    exact ⟨ret_b HO.out, rfl⟩

set_option maxHeartbeats 4000000 in
theorem l10Form_any (k co va vl rg : Int) (C : Nat) (w : World) (hC : 1 ≤ C ∧ C ≤ 3) : Calls Tryd.prog 22 #[.agg (five k co va vl rg), .int .i64 C] w fun e w' => e = .returned (.bool (fmB C k co va vl rg)) ∧ Below w.heap.size w w' := by
  have HB : Hid (Below w.heap.size w (w.alloc (.cells (five k co va vl rg) 42))) := hide ((Below.refl _ _).alloc (Nat.le_refl _) _)
  have hw : wrap64 ((C : Int) - 1) = (C : Int) - 1 := Go.IntWalk.wrap64_in _ (by omega)
  have c0 := fun w => l1InB co 0 ((C : Int) - 1) w
  have c1 := fun w => l1InB va 0 2 w
  have c2 := fun w => l1InB vl 0 9 w
  have c3 := fun w => l1InB rg 0 1 w
  simp only [Int.sub_add_cancel, show (2 : Int) + 1 = 3 from rfl, show (9 : Int) + 1 = 10 from rfl, show (1 : Int) + 1 = 2 from rfl] at c0 c1 c2 c3
  cases h0 : inB co 0 C
  · rw [h0] at c0
    have HO : Hid (false = fmB C k co va vl rg) := hide (by simp [fmB, h0])
    clear h0
    go_enter Tryd.func22, Tryd.ntmps22
    go_wp2_with fail
    refine (c0 _).mono ?_
    rintro e w1 ⟨rfl, rfl⟩
    go_wp2
    go_ret
    exact ⟨ret_b HO.out, HB.out⟩
  rw [h0] at c0
  by_cases e1 : k = 1
  · subst e1
    have q1 : ((1 : Int) == 1) = true := rfl
    cases h1 : inB va 0 3
    · rw [h1] at c1
      have HO : Hid (false = fmB C 1 co va vl rg) := hide (by simp [fmB, h0, h1])
      clear h0 h1
      go_enter Tryd.func22, Tryd.ntmps22
      go_wp2_with fail
      refine (c0 _).mono ?_
      rintro e w1 ⟨rfl, rfl⟩
      go_wp2_with fail
      refine (c1 _).mono ?_
      rintro e w2 ⟨rfl, rfl⟩
      go_wp2
      go_ret
      exact ⟨ret_b HO.out, HB.out⟩
    · rw [h1] at c1
      cases h2 : inB vl 0 10
      · rw [h2] at c2
        have HO : Hid (false = fmB C 1 co va vl rg) := hide (by simp [fmB, h0, h1, h2])
        clear h0 h1 h2
        go_enter Tryd.func22, Tryd.ntmps22
        go_wp2_with fail
        refine (c0 _).mono ?_
        rintro e w1 ⟨rfl, rfl⟩
        go_wp2_with fail
        refine (c1 _).mono ?_
        rintro e w2 ⟨rfl, rfl⟩
        go_wp2_with fail
        refine (c2 _).mono ?_
        rintro e w3 ⟨rfl, rfl⟩
        go_wp2
        go_ret
        exact ⟨ret_b HO.out, HB.out⟩
      · rw [h2] at c2
        by_cases h3 : rg = 0
        · have q3 : (rg == 0) = true := by simpa using h3
          have HO : Hid (true = fmB C 1 co va vl rg) := hide (by simp [fmB, h0, h1, h2, h3])
          clear h0 h1 h2 h3
          go_enter Tryd.func22, Tryd.ntmps22
          go_wp2_with fail
          refine (c0 _).mono ?_
          rintro e w1 ⟨rfl, rfl⟩
          go_wp2_with fail
          refine (c1 _).mono ?_
          rintro e w2 ⟨rfl, rfl⟩
          go_wp2_with fail
          refine (c2 _).mono ?_
          rintro e w3 ⟨rfl, rfl⟩
          go_wp2
          go_ret
          exact ⟨ret_b HO.out, HB.out⟩
        · have q3 : (rg == 0) = false := by simpa using h3
          have HO : Hid (false = fmB C 1 co va vl rg) := hide (by simp [fmB, h0, h1, h2, h3])
          clear h0 h1 h2 h3
          go_enter Tryd.func22, Tryd.ntmps22
          go_wp2_with fail
          refine (c0 _).mono ?_
          rintro e w1 ⟨rfl, rfl⟩
          go_wp2_with fail
          refine (c1 _).mono ?_
          rintro e w2 ⟨rfl, rfl⟩
          go_wp2_with fail
          refine (c2 _).mono ?_
          rintro e w3 ⟨rfl, rfl⟩
          go_wp2
          go_ret
          exact ⟨ret_b HO.out, HB.out⟩
  have q1 : (k == 1) = false := by simpa using e1
  by_cases e2 : k = 2
  · subst e2
    clear e1 q1
    cases h1 : inB va 0 3
    · rw [h1] at c1
      have HO : Hid (false = fmB C 2 co va vl rg) := hide (by simp [fmB, h0, h1])
      clear h0 h1
      go_enter Tryd.func22, Tryd.ntmps22
      go_wp2_with fail
      refine (c0 _).mono ?_
      rintro e w1 ⟨rfl, rfl⟩
      go_wp2_with fail
      refine (c1 _).mono ?_
      rintro e w2 ⟨rfl, rfl⟩
      go_wp2
      go_ret
      exact ⟨ret_b HO.out, HB.out⟩
    · rw [h1] at c1
      by_cases h2 : vl = 0
      · have q2 : (vl == 0) = true := by simpa using h2
        cases h3 : inB rg 0 2
        · rw [h3] at c3
          have HO : Hid (false = fmB C 2 co va vl rg) := hide (by simp [fmB, h0, h1, h2, h3])
          clear h0 h1 h2 h3
          go_enter Tryd.func22, Tryd.ntmps22
          go_wp2_with fail
          refine (c0 _).mono ?_
          rintro e w1 ⟨rfl, rfl⟩
          go_wp2_with fail
          refine (c1 _).mono ?_
          rintro e w2 ⟨rfl, rfl⟩
          go_wp2_with fail
          refine (c3 _).mono ?_
          rintro e w3 ⟨rfl, rfl⟩
          go_wp2
          go_ret
          exact ⟨ret_b HO.out, HB.out⟩
        · rw [h3] at c3
          have HO : Hid (true = fmB C 2 co va vl rg) := hide (by simp [fmB, h0, h1, h2, h3])
          clear h0 h1 h2 h3
          go_enter Tryd.func22, Tryd.ntmps22
          go_wp2_with fail
          refine (c0 _).mono ?_
          rintro e w1 ⟨rfl, rfl⟩
          go_wp2_with fail
          refine (c1 _).mono ?_
          rintro e w2 ⟨rfl, rfl⟩
          go_wp2_with fail
          refine (c3 _).mono ?_
          rintro e w3 ⟨rfl, rfl⟩
          go_wp2
          go_ret
          exact ⟨ret_b HO.out, HB.out⟩
      · have q2 : (vl == 0) = false := by simpa using h2
        have HO : Hid (false = fmB C 2 co va vl rg) := hide (by simp [fmB, h0, h1, h2])
        clear h0 h1 h2
        go_enter Tryd.func22, Tryd.ntmps22
        go_wp2_with fail
        refine (c0 _).mono ?_
        rintro e w1 ⟨rfl, rfl⟩
        go_wp2_with fail
        refine (c1 _).mono ?_
        rintro e w2 ⟨rfl, rfl⟩
        go_wp2
        go_ret
        exact ⟨ret_b HO.out, HB.out⟩
  have q2 : (k == 2) = false := by simpa using e2
  by_cases e3 : k = 3
  · subst e3
    clear e1 e2 q1 q2
    by_cases h1 : va = 0
    · have p1 : (va == 0) = true := by simpa using h1
      by_cases h2 : vl = 0
      · have p2 : (vl == 0) = true := by simpa using h2
        by_cases h3 : rg = 0
        · have p3 : (rg == 0) = true := by simpa using h3
          have HO : Hid (true = fmB C 3 co va vl rg) := hide (by simp [fmB, h0, h1, h2, h3])
          clear h0 h1 h2 h3
          go_enter Tryd.func22, Tryd.ntmps22
          go_wp2_with fail
          refine (c0 _).mono ?_
          rintro e w1 ⟨rfl, rfl⟩
          go_wp2
          go_ret
          exact ⟨ret_b HO.out, HB.out⟩
        · have p3 : (rg == 0) = false := by simpa using h3
          have HO : Hid (false = fmB C 3 co va vl rg) := hide (by simp [fmB, h0, h1, h2, h3])
          clear h0 h1 h2 h3
          go_enter Tryd.func22, Tryd.ntmps22
          go_wp2_with fail
          refine (c0 _).mono ?_
          rintro e w1 ⟨rfl, rfl⟩
          go_wp2
          go_ret
          exact ⟨ret_b HO.out, HB.out⟩
      · have p2 : (vl == 0) = false := by simpa using h2
        have HO : Hid (false = fmB C 3 co va vl rg) := hide (by simp [fmB, h0, h1, h2])
        clear h0 h1 h2
        go_enter Tryd.func22, Tryd.ntmps22
        go_wp2_with fail
        refine (c0 _).mono ?_
        rintro e w1 ⟨rfl, rfl⟩
        go_wp2
        go_ret
        exact ⟨ret_b HO.out, HB.out⟩
    · have p1 : (va == 0) = false := by simpa using h1
      have HO : Hid (false = fmB C 3 co va vl rg) := hide (by simp [fmB, h0, h1])
      clear h0 h1
      go_enter Tryd.func22, Tryd.ntmps22
      go_wp2_with fail
      refine (c0 _).mono ?_
      rintro e w1 ⟨rfl, rfl⟩
      go_wp2
      go_ret
      exact ⟨ret_b HO.out, HB.out⟩
  have q3 : (k == 3) = false := by simpa using e3
  by_cases e4 : k = 4
  · subst e4
    clear e1 e2 e3 q1 q2 q3
    by_cases h1 : va = 0
    · have p1 : (va == 0) = true := by simpa using h1
      by_cases h2 : vl = 0
      · have p2 : (vl == 0) = true := by simpa using h2
        by_cases h3 : rg = 0
        · have p3 : (rg == 0) = true := by simpa using h3
          have HO : Hid (true = fmB C 4 co va vl rg) := hide (by simp [fmB, h0, h1, h2, h3])
          clear h0 h1 h2 h3
          go_enter Tryd.func22, Tryd.ntmps22
          go_wp2_with fail
          refine (c0 _).mono ?_
          rintro e w1 ⟨rfl, rfl⟩
          go_wp2
          go_ret
          exact ⟨ret_b HO.out, HB.out⟩
        · have p3 : (rg == 0) = false := by simpa using h3
          have HO : Hid (false = fmB C 4 co va vl rg) := hide (by simp [fmB, h0, h1, h2, h3])
          clear h0 h1 h2 h3
          go_enter Tryd.func22, Tryd.ntmps22
          go_wp2_with fail
          refine (c0 _).mono ?_
          rintro e w1 ⟨rfl, rfl⟩
          go_wp2
          go_ret
          exact ⟨ret_b HO.out, HB.out⟩
      · have p2 : (vl == 0) = false := by simpa using h2
        have HO : Hid (false = fmB C 4 co va vl rg) := hide (by simp [fmB, h0, h1, h2])
        clear h0 h1 h2
        go_enter Tryd.func22, Tryd.ntmps22
        go_wp2_with fail
        refine (c0 _).mono ?_
        rintro e w1 ⟨rfl, rfl⟩
        go_wp2
        go_ret
        exact ⟨ret_b HO.out, HB.out⟩
    · have p1 : (va == 0) = false := by simpa using h1
      have HO : Hid (false = fmB C 4 co va vl rg) := hide (by simp [fmB, h0, h1])
      clear h0 h1
      go_enter Tryd.func22, Tryd.ntmps22
      go_wp2_with fail
      refine (c0 _).mono ?_
      rintro e w1 ⟨rfl, rfl⟩
      go_wp2
      go_ret
      exact ⟨ret_b HO.out, HB.out⟩
  have q4 : (k == 4) = false := by simpa using e4
  have HO : Hid (false = fmB C k co va vl rg) := hide (by simp [fmB, h0, e1, e2, e3, e4])
  clear h0
  go_enter Tryd.func22, Tryd.ntmps22
  go_wp2_with fail
  refine (c0 _).mono ?_
  rintro e w1 ⟨rfl, rfl⟩
  go_wp2
  go_ret
  exact ⟨ret_b HO.out, HB.out⟩

end Go.Proofs.YtokekgfompbdiaaDoor
