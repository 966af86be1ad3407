/- spec.PairOk -/
import Derived.Test.YtplnfddleaoimaaPrC
namespace Go.Proofs.Ytplnfddleaoimaa
open Go.RowKit
set_option linter.unusedVariables false
set_option linter.unusedSimpArgs false

theorem inB15 (n : Nat) : inB n 1 5 = decide (1 ≤ n ∧ n ≤ 4) := by
  by_cases h : 1 ≤ n ∧ n ≤ 4
  · rw [decide_eq_true h]; simp [inB]; omega
  · rw [decide_eq_false h]; simp [inB]; omega

/-- what the four cases ask -/
theorem pairB_ff (zl zr : List Int) : pairB zl zr false false = (decide (zl.length = 0) && decide (zr.length = 0)) := by simp [pairB, sideB]
theorem pairB_tf (zl zr : List Int) : pairB zl zr true false = (inB zl.length 1 5 && allV zl && decide (zr.length = 0)) := by simp [pairB, sideB]
theorem pairB_ft (zl zr : List Int) : pairB zl zr false true = (decide (zl.length = 0) && (inB zr.length 1 5 && allV zr)) := by simp [pairB, sideB]
theorem pairB_tt (zl zr : List Int) : pairB zl zr true true = (inB zl.length 1 5 && allV zl && (inB zr.length 1 5 && allV zr) && decide (zl = zr)) := by simp [pairB, sideB]

set_option maxHeartbeats 4000000 in
theorem specPairOk_ff (ad bd : Option Addr) (ac bc : Nat) (n m : Nat) (w : World) (hn : n ≤ 1048576) (hm : m ≤ 1048576) :
    Calls Try.prog 13 #[.agg (pq (.slice ad n ac) (.slice bd m bc) false false)] w fun e w' => e = .returned (.bool (decide (n = 0) && decide (m = 0))) ∧ Below w.heap.size w w' := by
  have hB0 : Below w.heap.size w (w.alloc (.cells (pq (.slice ad n ac) (.slice bd m bc) false false) 26)) := (Below.refl _ _).alloc (Nat.le_refl _) _
  obtain ⟨x0, x1, x2, x3⟩ := bx4 w (.slice ad n ac) (.slice bd m bc) (.bool false) (.bool false) 26
  by_cases h1 : n = 0
  · by_cases h2 : m = 0
    · subst h1 h2
      go_enter Try.func13, Try.ntmps13
      go_wp2
      go_ret
      exact ⟨rfl, hB0⟩
    · have HO : Hid (false = (decide (n = 0) && decide (m = 0))) := hide (by simp [h2])
      have hb : ((m : Int) == 0) = false := by simp; omega
      generalize (decide (n = 0) && decide (m = 0)) = res at HO ⊢
      subst h1
      go_enter Try.func13, Try.ntmps13
      go_wp2
      go_ret
      first | exact ⟨ret_b HO.out, hB0⟩ | exact ⟨ret_b (hb.trans HO.out), hB0⟩
  · have HO : Hid (false = (decide (n = 0) && decide (m = 0))) := hide (by simp [h1])
    have hb : ((n : Int) == 0) = false := by simp; omega
    go_enter Try.func13, Try.ntmps13
    go_wp2
    go_ret
    exact ⟨ret_b HO.out, hB0⟩

set_option maxHeartbeats 8000000 in
/-- one side is up -/
theorem specPairOk_tf (ad bd : Option Addr) (ac bc : Nat) (zl : List Int) (m : Nat) (w : World) (hl : Sl w (.slice ad zl.length ac) zl) (hn : zl.length ≤ 1048576) (hm : m ≤ 1048576) :
    Calls Try.prog 13 #[.agg (pq (.slice ad zl.length ac) (.slice bd m bc) true false)] w fun e w' => e = .returned (.bool (inB zl.length 1 5 && allV zl && decide (m = 0))) ∧ Below w.heap.size w w' := by
  have H1 := hide hl
  have hS := fun w h => values_any (.slice ad zl.length ac) zl zl.length w h hn hn
  have e1 : (allV zl && decide (zl.length = zl.length)) = allV zl := by simp
  rw [e1] at hS
  rw [inB15]
  clear hl e1
  generalize allV zl = b1 at hS ⊢
  generalize zl.length = n at *
  have hB0 : Below w.heap.size w (w.alloc (.cells (pq (.slice ad n ac) (.slice bd m bc) true false) 26)) := (Below.refl _ _).alloc (Nat.le_refl _) _
  obtain ⟨x0, x1, x2, x3⟩ := bx4 w (.slice ad n ac) (.slice bd m bc) (.bool true) (.bool false) 26
  by_cases h1 : n < 1
  · have HO : Hid (false = (decide (1 ≤ n ∧ n ≤ 4) && b1 && decide (m = 0))) := hide (by simp; omega)
    generalize (decide (1 ≤ n ∧ n ≤ 4) && b1 && decide (m = 0)) = res at HO ⊢
    clear hS H1
    go_enter Try.func13, Try.ntmps13
    go_wp2
    go_ret
    exact ⟨ret_b HO.out, hB0⟩
  by_cases h2 : 4 < n
  · have HO : Hid (false = (decide (1 ≤ n ∧ n ≤ 4) && b1 && decide (m = 0))) := hide (by simp; omega)
    generalize (decide (1 ≤ n ∧ n ≤ 4) && b1 && decide (m = 0)) = res at HO ⊢
    clear hS H1
    go_enter Try.func13, Try.ntmps13
    go_wp2
    go_ret
    exact ⟨ret_b HO.out, hB0⟩
  have HO : Hid (b1 = (decide (1 ≤ n ∧ n ≤ 4) && b1)) := hide (by rw [decide_eq_true (by omega), Bool.true_and])
  generalize (decide (1 ≤ n ∧ n ≤ 4) && b1) = q at HO ⊢
  cases b1
  · have HO2 : Hid (false = (q && decide (m = 0))) := hide (by rw [← HO.out]; rfl)
    clear HO
    go_enter Try.func13, Try.ntmps13
    go_wp2_with fail
    refine (hS _ (H1.out.below hB0)).mono ?_
    rintro e w1 ⟨rfl, rfl⟩
    go_wp2
    go_ret
    exact ⟨ret_b HO2.out, hB0⟩
  by_cases h3 : m = 0
  · have HO2 : Hid (true = (q && decide (m = 0))) := hide (by rw [← HO.out, decide_eq_true h3]; rfl)
    generalize (q && decide (m = 0)) = qq at HO2 ⊢
    subst h3
    clear HO
    go_enter Try.func13, Try.ntmps13
    go_wp2_with fail
    refine (hS _ (H1.out.below hB0)).mono ?_
    rintro e w1 ⟨rfl, rfl⟩
    clear hS H1
    go_wp2
    go_loopw [4] (fun i wr => i = .int .i64 0 ∧ wr = (w.alloc (.cells (pq (.slice ad n ac) (.slice bd 0 bc) true false) 26))) (fun i _ => 0)
    case atStart => exact ⟨rfl, rfl⟩
    case round =>
      obtain ⟨rfl, rfl⟩ := hrel
      go_wp2
      go_ret
      exact ⟨ret_b HO2.out, hB0⟩
  · have HO2 : Hid (false = (q && decide (m = 0))) := hide (by simp [h3])
    have h4 : 0 < m := by omega
    clear HO
    go_enter Try.func13, Try.ntmps13
    go_wp2_with fail
    refine (hS _ (H1.out.below hB0)).mono ?_
    rintro e w1 ⟨rfl, rfl⟩
    go_wp2
    go_ret
    exact ⟨ret_b HO2.out, hB0⟩

set_option maxHeartbeats 8000000 in
theorem specPairOk_ft (ad bd : Option Addr) (ac bc : Nat) (zr : List Int) (m : Nat) (w : World) (hl : Sl w (.slice bd zr.length bc) zr) (hn : zr.length ≤ 1048576) (hm : m ≤ 1048576) :
    Calls Try.prog 13 #[.agg (pq (.slice ad m ac) (.slice bd zr.length bc) false true)] w fun e w' => e = .returned (.bool (decide (m = 0) && (inB zr.length 1 5 && allV zr))) ∧ Below w.heap.size w w' := by
  have H1 := hide hl
  have hS := fun w h => values_any (.slice bd zr.length bc) zr zr.length w h hn hn
  have e1 : (allV zr && decide (zr.length = zr.length)) = allV zr := by simp
  rw [e1] at hS
  rw [inB15]
  clear hl e1
  generalize allV zr = b1 at hS ⊢
  generalize zr.length = n at *
  have hB0 : Below w.heap.size w (w.alloc (.cells (pq (.slice ad m ac) (.slice bd n bc) false true) 26)) := (Below.refl _ _).alloc (Nat.le_refl _) _
  obtain ⟨x0, x1, x2, x3⟩ := bx4 w (.slice ad m ac) (.slice bd n bc) (.bool false) (.bool true) 26
  by_cases h1 : n < 1
  · have HO : Hid (false = (decide (m = 0) && (decide (1 ≤ n ∧ n ≤ 4) && b1))) := hide (by rw [decide_eq_false (p := 1 ≤ n ∧ n ≤ 4) (by omega)]; simp)
    generalize (decide (m = 0) && (decide (1 ≤ n ∧ n ≤ 4) && b1)) = res at HO ⊢
    clear hS H1
    go_enter Try.func13, Try.ntmps13
    go_wp2
    go_ret
    exact ⟨ret_b HO.out, hB0⟩
  by_cases h2 : 4 < n
  · have HO : Hid (false = (decide (m = 0) && (decide (1 ≤ n ∧ n ≤ 4) && b1))) := hide (by rw [decide_eq_false (p := 1 ≤ n ∧ n ≤ 4) (by omega)]; simp)
    generalize (decide (m = 0) && (decide (1 ≤ n ∧ n ≤ 4) && b1)) = res at HO ⊢
    clear hS H1
    go_enter Try.func13, Try.ntmps13
    go_wp2
    go_ret
    exact ⟨ret_b HO.out, hB0⟩
  have HO : Hid (b1 = (decide (1 ≤ n ∧ n ≤ 4) && b1)) := hide (by rw [decide_eq_true (by omega), Bool.true_and])
  generalize (decide (1 ≤ n ∧ n ≤ 4) && b1) = q at HO ⊢
  cases b1
  · have HO2 : Hid (false = (decide (m = 0) && q)) := hide (by rw [← HO.out]; simp)
    clear HO
    go_enter Try.func13, Try.ntmps13
    go_wp2_with fail
    refine (hS _ (H1.out.below hB0)).mono ?_
    rintro e w1 ⟨rfl, rfl⟩
    go_wp2
    go_ret
    exact ⟨ret_b HO2.out, hB0⟩
  by_cases h3 : m = 0
  · have HO2 : Hid (true = (decide (m = 0) && q)) := hide (by rw [← HO.out, decide_eq_true h3]; rfl)
    generalize (decide (m = 0) && q) = qq at HO2 ⊢
    subst h3
    clear HO
    go_enter Try.func13, Try.ntmps13
    go_wp2_with fail
    refine (hS _ (H1.out.below hB0)).mono ?_
    rintro e w1 ⟨rfl, rfl⟩
    clear hS H1
    go_wp2
    go_loopw [4] (fun i wr => i = .int .i64 0 ∧ wr = (w.alloc (.cells (pq (.slice ad 0 ac) (.slice bd n bc) false true) 26))) (fun i _ => 0)
    case atStart => exact ⟨rfl, rfl⟩
    case round =>
      obtain ⟨rfl, rfl⟩ := hrel
      go_wp2
      go_ret
      exact ⟨ret_b HO2.out, hB0⟩
  · have HO2 : Hid (false = (decide (m = 0) && q)) := hide (by simp [h3])
    have h4 : 0 < m := by omega
    clear HO
    go_enter Try.func13, Try.ntmps13
    go_wp2_with fail
    refine (hS _ (H1.out.below hB0)).mono ?_
    rintro e w1 ⟨rfl, rfl⟩
    go_wp2
    go_ret
    exact ⟨ret_b HO2.out, hB0⟩

set_option maxHeartbeats 8000000 in
theorem specPairOk_tt (ad bd : Option Addr) (ac bc : Nat) (zl zr : List Int) (w : World) (hl : Sl w (.slice ad zl.length ac) zl) (hr : Sl w (.slice bd zr.length bc) zr) (hn : zl.length ≤ 1048576) (hm : zr.length ≤ 1048576) :
    Calls Try.prog 13 #[.agg (pq (.slice ad zl.length ac) (.slice bd zr.length bc) true true)] w fun e w' => e = .returned (.bool (inB zl.length 1 5 && allV zl && (inB zr.length 1 5 && allV zr) && decide (zl = zr))) ∧ Below w.heap.size w w' := by
  have H1 := hide (And.intro hl hr)
  have hS := fun w h => values_any (.slice ad zl.length ac) zl zl.length w h hn hn
  have e1 : (allV zl && decide (zl.length = zl.length)) = allV zl := by simp
  rw [e1] at hS
  have hS2 := fun w h => values_any (.slice bd zr.length bc) zr zl.length w h hm hn
  rw [inB15, inB15]
  have HF1 : Hid (¬ (1 ≤ zl.length ∧ zl.length ≤ 4) → false = (decide (1 ≤ zl.length ∧ zl.length ≤ 4) && allV zl && (decide (1 ≤ zr.length ∧ zr.length ≤ 4) && allV zr) && decide (zl = zr))) := hide (fun h => by rw [decide_eq_false h]; rfl)
  have HF2 : Hid (allV zl = false → false = (decide (1 ≤ zl.length ∧ zl.length ≤ 4) && allV zl && (decide (1 ≤ zr.length ∧ zr.length ≤ 4) && allV zr) && decide (zl = zr))) := hide (fun h => by rw [h]; simp)
  have HF3 : Hid ((allV zr && decide (zr.length = zl.length)) = false → false = (decide (1 ≤ zl.length ∧ zl.length ≤ 4) && allV zl && (decide (1 ≤ zr.length ∧ zr.length ≤ 4) && allV zr) && decide (zl = zr))) := hide (fun h => by
    cases ha : allV zr
    · simp
    · rw [ha, Bool.true_and] at h
      have h2 := of_decide_eq_false h
      rw [decide_eq_false (p := zl = zr) (fun e => h2 (by rw [e])), Bool.and_false])
  have HF4 : Hid (∀ k, k < zl.length → zl.getD k 0 ≠ zr.getD k 0 → false = (decide (1 ≤ zl.length ∧ zl.length ≤ 4) && allV zl && (decide (1 ≤ zr.length ∧ zr.length ≤ 4) && allV zr) && decide (zl = zr))) := hide (fun k _ h => by
    rw [decide_eq_false (p := zl = zr) (list_ne h), Bool.and_false])
  have HT : Hid ((1 ≤ zl.length ∧ zl.length ≤ 4) → allV zl = true → (allV zr && decide (zr.length = zl.length)) = true → (∀ k, k < zl.length → zl.getD k 0 = zr.getD k 0) → true = (decide (1 ≤ zl.length ∧ zl.length ≤ 4) && allV zl && (decide (1 ≤ zr.length ∧ zr.length ≤ 4) && allV zr) && decide (zl = zr))) := hide (fun h1 h2 h3 h4 => by
    rw [Bool.and_eq_true] at h3
    have h5 := of_decide_eq_true h3.2
    rw [h2, h3.1, decide_eq_true h1, decide_eq_true (p := 1 ≤ zr.length ∧ zr.length ≤ 4) (by omega), decide_eq_true (list_eq h5.symm h4)]; rfl)
  have HL : Hid ((allV zr && decide (zr.length = zl.length)) = true → zr.length = zl.length) := hide (fun h => by rw [Bool.and_eq_true] at h; exact of_decide_eq_true h.2)
  generalize (decide (1 ≤ zl.length ∧ zl.length ≤ 4) && allV zl && (decide (1 ≤ zr.length ∧ zr.length ≤ 4) && allV zr) && decide (zl = zr)) = res at HF1 HF2 HF3 HF4 HT ⊢
  generalize (allV zr && decide (zr.length = zl.length)) = b2 at hS2 HF3 HT HL
  clear e1
  generalize allV zl = b1 at hS HF2 HT
  obtain ⟨ad', ac', e1, hl⟩ := hl
  obtain ⟨bd', bc', e2, hr⟩ := hr
  simp only [Value.slice.injEq, true_and] at e1 e2
  obtain ⟨rfl, rfl⟩ := e1
  obtain ⟨rfl, rfl⟩ := e2
  generalize zl.length = n at *
  generalize zr.length = m at *
  have hB0 : Below w.heap.size w (w.alloc (.cells (pq (.slice ad n ac) (.slice bd m bc) true true) 26)) := (Below.refl _ _).alloc (Nat.le_refl _) _
  have hbx := bx4 w (.slice ad n ac) (.slice bd m bc) (.bool true) (.bool true) 26
  obtain ⟨x0, x1, x2, x3⟩ := hbx
  by_cases h1 : n < 1
  · have HO := hide (HF1.out (by omega))
    clear hS hS2 H1 hl hr HF1 HF2 HF3 HF4 HT HL
    go_enter Try.func13, Try.ntmps13
    go_wp2
    go_ret
    exact ⟨ret_b HO.out, hB0⟩
  by_cases h2 : 4 < n
  · have HO := hide (HF1.out (by omega))
    clear hS hS2 H1 hl hr HF1 HF2 HF3 HF4 HT HL
    go_enter Try.func13, Try.ntmps13
    go_wp2
    go_ret
    exact ⟨ret_b HO.out, hB0⟩
  cases b1
  · have HO := hide (HF2.out rfl)
    clear hS2 hl hr HF1 HF2 HF3 HF4 HT HL
    go_enter Try.func13, Try.ntmps13
    go_wp2_with fail
    refine (hS _ (H1.out.1.below hB0)).mono ?_
    rintro e w1 ⟨rfl, rfl⟩
    go_wp2
    go_ret
    exact ⟨ret_b HO.out, hB0⟩
  cases b2
  · have HO := hide (HF3.out rfl)
    clear hl hr HF1 HF2 HF3 HF4 HT HL
    go_enter Try.func13, Try.ntmps13
    go_wp2_with fail
    refine (hS _ (H1.out.1.below hB0)).mono ?_
    rintro e w1 ⟨rfl, rfl⟩
    go_wp2_with fail
    refine (hS2 _ (H1.out.2.below hB0)).mono ?_
    rintro e w1 ⟨rfl, rfl⟩
    go_wp2
    go_ret
    exact ⟨ret_b HO.out, hB0⟩
  have hm2 := HL.out rfl
  have HT2 := hide (HT.out (by omega) rfl rfl)
  clear HF1 HF2 HF3 HT HL
  subst hm2
  go_enter Try.func13, Try.ntmps13
  go_wp2_with fail
  refine (hS _ (H1.out.1.below hB0)).mono ?_
  rintro e w1 ⟨rfl, rfl⟩
  go_wp2_with fail
  refine (hS2 _ (H1.out.2.below hB0)).mono ?_
  rintro e w1 ⟨rfl, rfl⟩
  clear hS hS2 H1
  go_wp2
  have HX := hide (And.intro hB0 (And.intro x0 (And.intro x1 (And.intro x2 x3))))
  go_loopw [4] (fun i wr => ∃ k : Nat, k ≤ m ∧ i = .int .i64 k ∧ Below w.heap.size w wr ∧ B4 wr w.heap.size (.slice ad m ac) (.slice bd m bc) (.bool true) (.bool true) ∧ Hid (∀ j, j < k → zl.getD j 0 = zr.getD j 0)) (fun i _ => m - (intOf i).toNat)
  case atStart => exact ⟨0, Nat.zero_le _, rfl, HX.out.1, HX.out.2, hide (fun j hj => by omega)⟩
  case round =>
    obtain ⟨k, hk, rfl, hbk, hbx, HA⟩ := hrel
    clear HX x0 x1 x2 x3 hB0
    obtain ⟨x0, x1, x2, x3⟩ := hbx
    by_cases hlt : k < m
    · obtain ⟨p, off, rfl, hc⟩ := hl (by omega)
      obtain ⟨q, off', rfl, hd⟩ := hr (by omega)
      have hck := Below.keep hbk _ _ (hc k hlt)
      have hdk := Below.keep hbk _ _ (hd k hlt)
      have HN1 : Hid (zl.getD k 0 ≠ zr.getD k 0 → false = res) := hide (HF4.out k hlt)
      have HY1 : Hid (zl.getD k 0 = zr.getD k 0 → ∀ j, j < k + 1 → zl.getD j 0 = zr.getD j 0) := hide (fun h j hj => by
        by_cases e : j = k
        · rw [e]; exact h
        · exact HA.out j (by omega))
      generalize zl.getD k 0 = x at hck HN1 HY1
      generalize zr.getD k 0 = y at hdk HN1 HY1
      clear hc hd hl hr HF4 HT2 HA
      by_cases hxy : x = y
      · subst hxy
        have HY2 := hide (HY1.out rfl)
        clear HY1 HN1
        have HX := hide (And.intro x0 (And.intro x1 (And.intro x2 x3)))
        go_wp2
        go_quiet (fail)
        all_goals go_wp2
        all_goals go_roundw
        case rel => exact ⟨k + 1, by omega, by go_num, below_drewN hbk _, B4.below (w := wr) HX.out (below_drewN (Below.refl _ _) _), HY2⟩
        case measure => simp [intOf]; omega
      · have HO := hide (HN1.out hxy)
        clear HN1 HY1
        go_wp2
        go_quiet (fail)
        all_goals go_wp2
        all_goals go_ret
        all_goals exact ⟨ret_b HO.out, below_drewN hbk _⟩
    · have e : k = m := by omega
      subst e
      clear hl hr
      go_wp2
      go_ret
      exact ⟨ret_b (HT2.out HA.out), hbk⟩

theorem specPairOk_any (L R : Value) (zl zr : List Int) (lu ru : Bool) (w : World) (hl : Sl w L zl) (hr : Sl w R zr) (hn : zl.length + zr.length ≤ 1048576) :
    Calls Try.prog 13 #[.agg (pq L R lu ru)] w fun e w' => e = .returned (.bool (pairB zl zr lu ru)) ∧ Below w.heap.size w w' := by
  have h1 := hl
  have h2 := hr
  obtain ⟨ad, ac, rfl, _⟩ := hl
  obtain ⟨bd, bc, rfl, _⟩ := hr
  cases lu <;> cases ru
  · rw [pairB_ff]; exact specPairOk_ff _ _ _ _ _ _ _ (by omega) (by omega)
  · rw [pairB_ft]; exact specPairOk_ft _ _ _ _ _ _ _ h2 (by omega) (by omega)
  · rw [pairB_tf]; exact specPairOk_tf _ _ _ _ _ _ _ h1 (by omega) (by omega)
  · rw [pairB_tt]; exact specPairOk_tt _ _ _ _ _ _ _ h1 h2 (by omega) (by omega)

end Go.Proofs.Ytplnfddleaoimaa
