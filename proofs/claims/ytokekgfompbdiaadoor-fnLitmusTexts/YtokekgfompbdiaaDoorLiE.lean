/- right litmus tests: LitmusOk, impl and spec -/
import Derived.Test.YtokekgfompbdiaaDoorLiD
namespace Go.Proofs.YtokekgfompbdiaaDoor
open Go.RowKit
set_option linter.unusedVariables false
set_option linter.unusedSimpArgs false

theorem heap_bl {w w' : World} {g : Nat} {x : Obj} (h : w.heap[g]? = some x) (hb : Below w.heap.size w w') : w'.heap[g]? = some x := (hb.block g (lt_of_block h)).trans h
theorem lit_no {C : Nat} {L : Nat → Nat} {F : Nat → Nat → Nat → Int} {c : Nat} (h : thrB C c (L c) (F c) = false) (hc : c < C) : litB C L F = false := by unfold litB; rw [ths_no h C hc, Bool.and_false]
theorem lit_yes {C : Nat} {L : Nat → Nat} {F : Nat → Nat → Nat → Int} (h : thsB C L F C = true) (h1 : 1 ≤ C ∧ C ≤ 2) : litB C L F = true := by unfold litB; rw [h, show decide (1 ≤ C ∧ C ≤ 2) = true by simpa using h1]; rfl
theorem lit_size {C : Nat} {L : Nat → Nat} {F : Nat → Nat → Nat → Int} (h1 : ¬ (1 ≤ C ∧ C ≤ 2)) : litB C L F = false := by unfold litB; rw [show decide (1 ≤ C ∧ C ≤ 2) = false by simpa using h1, Bool.false_and]

set_option maxHeartbeats 4000000 in
set_option maxRecDepth 20000 in
theorem implLitmusOk_any (v : Value) (C : Nat) (L : Nat → Nat) (F : Nat → Nat → Nat → Int) (w : World) (hs : Sa w v C L F) :
    Calls Tryd.prog 9 #[.agg #[v]] w fun e w' => e = .returned (.bool (litB C L F)) ∧ Below w.heap.size w w' := by
  have hB0 : Below w.heap.size w (w.alloc (.cells #[v] 26)) := (Below.refl _ _).alloc (Nat.le_refl _) _
  have k0 : (w.alloc (.cells #[v] 26)).cell? ⟨w.heap.size, 0, none⟩ = some v := (cell_of_row _ _ 0 _ _ _ (heap_alloc_new _ _)).trans rfl
  obtain ⟨ad, cap, rfl, hs⟩ := hs
  by_cases h1 : C < 1
  · have hd : decide ((C : Int) < 1) = true := by simp; omega
    have HO : Hid (false = litB C L F) := hide (lit_size (by omega)).symm
    clear hs
    go_enter Tryd.func9, Tryd.ntmps9
    go_wp2
    go_ret
    exact ⟨ret_b HO.out, hB0⟩
  have hd1 : decide ((C : Int) < 1) = false := by simp; omega
  by_cases h2 : 2 < C
  · have hd : decide ((2 : Int) < (C : Int)) = true := by simp; omega
    have HO : Hid (false = litB C L F) := hide (lit_size (by omega)).symm
    clear hs
    go_enter Tryd.func9, Tryd.ntmps9
    go_wp2
    go_ret
    exact ⟨ret_b HO.out, hB0⟩
  have hd2 : decide ((2 : Int) < (C : Int)) = false := by simp; omega
  go_enter Tryd.func9, Tryd.ntmps9
  go_wp2
  go_loopw [18] (fun x wr => ∃ c : Nat, c ≤ C ∧ x = .int .i64 c ∧ Hid (thsB C L F c = true) ∧ Hid (Below w.heap.size w wr ∧ wr.cell? ⟨w.heap.size, 0, none⟩ = some (.slice ad C cap))) (fun x _ => C - (intOf x).toNat)
  case atStart => exact ⟨0, Nat.zero_le _, rfl, hide rfl, hide ⟨hB0, k0⟩⟩
  case round =>
    clear k0 hB0
    obtain ⟨c, hc, rfl, HA, HB⟩ := hrel
    by_cases hlt : c < C
    · obtain ⟨b, off, rfl, hcc⟩ := hs (by omega)
      obtain ⟨ia, ic, q', hr⟩ := hcc c hlt
      obtain ⟨hbk, k0⟩ := HB.out
      have q0 : wr.cell? ⟨b, off + c, none⟩ = some (.slice ia (L c) ic) := Below.keep hbk _ _ q'
      have hX : ∀ o, Below w.heap.size w (wr.alloc o) := fun o => hbk.alloc hbk.size o
      have HR := hide hr
      clear hs hcc q' hr
      go_wp2_with (first | (go_at_call 20; go_in) | fail)
      refine (threadOk_any ia (L c) ic (F c) c C _ (Sr.below HR.out (hX _))).mono ?_
      rintro e w2 ⟨rfl, hb2⟩
      have hb3 := (hX (.cells #[.slice (some ⟨b, off, none⟩) C cap] 26)).trans (hb2.mono (hX (.cells #[.slice (some ⟨b, off, none⟩) C cap] 26)).size)
      have k2 := keepc hb2 (keepc ((Below.refl _ wr).alloc (Nat.le_refl _) _) k0)
      cases hth : thrB C c (L c) (F c)
      · have HO : Hid (false = litB C L F) := hide (lit_no hth hlt).symm
        clear hX hb2 k0 q0 hbk HR hth
        go_wp2
        go_ret
        exact ⟨ret_b HO.out, hb3⟩
      · have HA2 : Hid (thsB C L F (c + 1) = true) := hide (by rw [thsB, HA.out, hth]; rfl)
        clear hX hb2 k0 q0 hbk HR hth
        go_wp2
        go_roundw
        case rel => exact ⟨c + 1, by omega, by go_num, HA2, hide ⟨hb3, k2⟩⟩
        case measure => simp [intOf]; omega
    · have e : c = C := by omega
      subst e
      have HO : Hid (true = litB c L F) := hide (lit_yes HA.out (by omega)).symm
      clear hs
      go_wp2
      go_ret
      exact ⟨ret_b HO.out, HB.out.1⟩

set_option maxHeartbeats 4000000 in
set_option maxRecDepth 20000 in
theorem specLitmusOk_any (v : Value) (C : Nat) (L : Nat → Nat) (F : Nat → Nat → Nat → Int) (w : World) (hs : Sa w v C L F) (hC : C ≤ 1048576) (hL : ∀ c, c < C → L c ≤ 1048576) :
    Calls Tryd.prog 10 #[.agg #[v]] w fun e w' => e = .returned (.bool (litB C L F)) ∧ Below w.heap.size w w' := by
  have hB0 : Below w.heap.size w (w.alloc (.cells #[v] 26)) := (Below.refl _ _).alloc (Nat.le_refl _) _
  have k0 : (w.alloc (.cells #[v] 26)).cell? ⟨w.heap.size, 0, none⟩ = some v := (cell_of_row _ _ 0 _ _ _ (heap_alloc_new _ _)).trans rfl
  have hin := fun W => l1InB C 1 2 W
  obtain ⟨ad, cap, rfl, hs⟩ := hs
  by_cases h1 : ¬ (1 ≤ C ∧ C ≤ 2)
  · have HO : Hid (false = litB C L F) := hide (lit_size h1).symm
    rw [show inB (C : Int) 1 (2 + 1) = false by simp [inB]; omega] at hin
    clear hs
    go_enter Tryd.func10, Tryd.ntmps10
    go_wp2_with fail
    refine (hin _).mono ?_
    rintro e w1 ⟨rfl, hw1⟩
    subst hw1
    go_wp2
    go_ret
    exact ⟨ret_b HO.out, hB0⟩
  replace h1 : 1 ≤ C ∧ C ≤ 2 := Decidable.of_not_not h1
  rw [show inB (C : Int) 1 (2 + 1) = true by simp [inB]; omega] at hin
  go_enter Tryd.func10, Tryd.ntmps10
  go_wp2_with fail
  refine (hin _).mono ?_
  rintro e w1 ⟨rfl, hw1⟩
  subst hw1
  go_wp2
  go_loopw [4] (fun x wr => ∃ c : Nat, c ≤ C ∧ x = .int .i64 c ∧ Hid (thsB C L F c = true) ∧ Hid (Below w.heap.size w wr ∧ wr.cell? ⟨w.heap.size, 0, none⟩ = some (.slice ad C cap))) (fun x _ => C - (intOf x).toNat)
  case atStart => exact ⟨0, Nat.zero_le _, rfl, hide rfl, hide ⟨hB0, k0⟩⟩
  case round =>
    clear k0 hB0 hin
    obtain ⟨c, hc, rfl, HA, HB⟩ := hrel
    by_cases hlt : c < C
    · obtain ⟨b, off, rfl, hcc⟩ := hs (by omega)
      obtain ⟨ia, ic, q', hr⟩ := hcc c hlt
      obtain ⟨hbk, k0⟩ := HB.out
      have q0 : wr.cell? ⟨b, off + c, none⟩ = some (.slice ia (L c) ic) := Below.keep hbk _ _ q'
      have hc0 : (0 : Int) ≤ (c : Int) := by omega
      have hc1 : (c : Int) < (C : Int) := by omega
      have hLc := hL c hlt
      have HQ := hide (And.intro q' hr)
      clear hs hcc q' hr
      by_cases h3 : 3 < L c
      · have hd : decide ((3 : Int) < (L c : Int)) = true := by simp; omega
        have HO : Hid (false = litB C L F) := hide (lit_no (by unfold thrB; rw [show decide (L c ≤ 3) = false by simp; omega, Bool.false_and]) hlt).symm
        go_wp2
        go_ret
        exact ⟨ret_b HO.out, hbk⟩
      have hd : decide ((3 : Int) < (L c : Int)) = false := by simp; omega
      go_wp2
      go_loopw [5] (fun y wr' => ∃ j : Nat, j ≤ L c ∧ y = .int .i64 j ∧ Hid (actsB C c (F c) j = true) ∧ Hid (Below w.heap.size w wr' ∧ wr'.cell? ⟨w.heap.size, 0, none⟩ = some (.slice (some ⟨b, off, none⟩) C cap))) (fun y _ => L c - (intOf y).toNat)
      case atStart => exact ⟨0, Nat.zero_le _, rfl, hide rfl, HB⟩
      case round =>
        clear k0 q0 HB hbk
        obtain ⟨j, hj, rfl, HJ, HB⟩ := hrel
        obtain ⟨hbk, k0⟩ := HB.out
        have q0 : wr.cell? ⟨b, off + c, none⟩ = some (.slice ia (L c) ic) := Below.keep hbk _ _ HQ.out.1
        by_cases hlj : j < L c
        · obtain ⟨ad2, cap2, e, hs2⟩ := HQ.out.2
          obtain ⟨rfl, rfl⟩ : ia = ad2 ∧ ic = cap2 := by simp at e; exact e
          clear e
          obtain ⟨p, o, rfl, hcell⟩ := hs2 (by omega)
          have a0 : wr.cell? ⟨p, o + j * 5, none⟩ = some (.int .i64 (F c j 0)) := Below.keep hbk _ _ (hcell j hlj 0 (by decide))
          have a1 : wr.cell? ⟨p, o + j * 5 + 1, none⟩ = some (.int .i64 (F c j 1)) := Below.keep hbk _ _ (hcell j hlj 1 (by decide))
          have a2 : wr.cell? ⟨p, o + j * 5 + 2, none⟩ = some (.int .i64 (F c j 2)) := Below.keep hbk _ _ (hcell j hlj 2 (by decide))
          have a3 : wr.cell? ⟨p, o + j * 5 + 3, none⟩ = some (.int .i64 (F c j 3)) := Below.keep hbk _ _ (hcell j hlj 3 (by decide))
          have a4 : wr.cell? ⟨p, o + j * 5 + 4, none⟩ = some (.int .i64 (F c j 4)) := Below.keep hbk _ _ (hcell j hlj 4 (by decide))
          have hj0 : (0 : Int) ≤ (j : Int) := by omega
          have hj1 : (j : Int) < (L c : Int) := by omega
          have hA : Below wr.heap.size wr (wr.alloc (.cells (five (F c j 0) (F c j 1) (F c j 2) (F c j 3) (F c j 4)) 42)) := (Below.refl _ _).alloc (Nat.le_refl _) _
          have hbA := hbk.trans (hA.mono hbk.size)
          have kA := keepc hA k0
          have HAC : Hid (actsB C c (F c) (j + 1) = (actsB C c (F c) j && actB C c (F c j 0) (F c j 1) (F c j 2) (F c j 3) (F c j 4))) := hide rfl
          have HNO := hide (fun (h : actB C c (F c j 0) (F c j 1) (F c j 2) (F c j 3) (F c j 4) = false) => (lit_no (L := L) (F := F) (thr_no h hlj) hlt).symm)
          clear hs2 hcell hA
          generalize F c j 0 = x0 at *
          generalize F c j 1 = x1 at *
          generalize F c j 2 = x2 at *
          generalize F c j 3 = x3 at *
          generalize F c j 4 = x4 at *
          by_cases kc : x1 = (c : Int)
          · subst kc
            by_cases k4 : x0 = 4
            · subst k4
              have HO := hide (HNO.out (by simp [actB]))
              clear HNO HAC
              go_wp2
              go_ret
              exact ⟨ret_b HO.out, hbA⟩
            have hd4 : (x0 == 4) = false := by simpa using k4
            have hfo := fun W => l10Form_any x0 c x2 x3 x4 C W (by omega)
            cases hf : fmB C x0 c x2 x3 x4
            · have HO := hide (HNO.out (by simp [actB, hf]))
              rw [hf] at hfo
              clear HNO HAC k4 hf
              go_wp2_with fail
              refine (hfo _).mono ?_
              rintro e w2 ⟨rfl, hb2⟩
              have hb3 := hbA.trans (hb2.mono hbA.size)
              clear hb2 hbA
              go_wp2
              go_ret
              exact ⟨ret_b HO.out, hb3⟩
            · have HJ2 : Hid (actsB C c (F c) (j + 1) = true) := hide (by rw [HAC.out, HJ.out]; simp [actB, hf, k4])
              rw [hf] at hfo
              clear HNO HAC k4 hf
              go_wp2_with fail
              refine (hfo _).mono ?_
              rintro e w2 ⟨rfl, hb2⟩
              have hb3 := hbA.trans (hb2.mono hbA.size)
              have k3 := keepc hb2 kA
              clear hb2 hbA
              go_wp2
              go_roundw
              case rel => exact ⟨j + 1, by omega, by go_num, HJ2, hide ⟨hb3, k3⟩⟩
              case measure => simp [intOf]; omega
          · have hdc : (x1 == (c : Int)) = false := by simpa using kc
            have hdn : (x1 != (c : Int)) = true := by simpa using kc
            have HO := hide (HNO.out (by simp [actB, kc]))
            clear HNO HAC kc
            go_wp2
            go_ret
            exact ⟨ret_b HO.out, hbA⟩
        · have e : j = L c := by omega
          subst e
          have HA2 : Hid (thsB C L F (c + 1) = true) := hide (by rw [thsB, HA.out, thrB, HJ.out, show decide (L c ≤ 3) = true by simp; omega]; rfl)
          go_wp2
          go_roundw
          case rel => exact ⟨c + 1, by omega, by go_num, HA2, HB⟩
          case measure => simp [intOf]; omega
    · have e : c = C := by omega
      subst e
      have HO : Hid (true = litB c L F) := hide (lit_yes HA.out h1).symm
      clear hs
      go_wp2
      go_ret
      exact ⟨ret_b HO.out, HB.out.1⟩

end Go.Proofs.YtokekgfompbdiaaDoor
