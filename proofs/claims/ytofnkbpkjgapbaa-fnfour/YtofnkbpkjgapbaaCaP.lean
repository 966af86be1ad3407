/- spec.Holds -/
import Derived.Test.YtofnkbpkjgapbaaCaO
import Derived.Test.YtofnkbpkjgapbaaCaM
namespace Go.Proofs.Ytofnkbpkjgapbaa
open Go.RowKit
set_option linter.unusedVariables false
set_option linter.unusedSimpArgs false

theorem cok_two {n : Nat} {L : Nat → Nat} {D : Nat → Sm} (h : Ca.cokB n L D = true) : n = 2 ∧ L 0 = 4 ∧ L 1 = 4 ∧ Ca.rightB (D 0) 0 = true ∧ Ca.rightB (D 1) 1 = true := by
  simp [Ca.cokB, Ca.okB] at h
  exact ⟨h.1, h.2.1.1.1, h.2.1.2, h.2.1.1.2, h.2.2⟩

set_option maxHeartbeats 2000000 in
set_option maxRecDepth 20000 in
theorem specHolds_any (v : Value) (n : Nat) (L : Nat → Nat) (D : Nat → Sm) (x : Int) (w : World) (hv : Cv w v n L D) :
    Calls Try.prog 16 #[.agg #[v], .int .i64 x] w fun e w' => e = .returned (.bool (Ca.hldB n L D x)) ∧ Below w.heap.size w w' := by
  have hB : Below w.heap.size w (w.alloc (.cells #[v] 26)) := (Below.refl _ _).alloc (Nat.le_refl _) _
  have hvb := hv.below hB
  have HV := hide hvb
  have hk := fun w h => specCacheOk_any v n L D w h
  obtain ⟨ad, cap, rfl, hvv⟩ := hv
  have hc0 : (w.alloc (.cells #[.slice ad n cap] 26)).cell? ⟨w.heap.size, 0, none⟩ = some (.slice ad n cap) := cell_of_row _ _ 0 _ _ _ (heap_alloc_new _ _)
  cases hc : Ca.cokB n L D
  · have HO := hide (Ca.hld_no (x := x) hc)
    rw [hc] at hk
    clear hvv hvb hc
    go_enter Try.func16, Try.ntmps16
    go_wp2_with fail
    refine (hk _ HV.out).mono ?_
    rintro e w1 ⟨rfl, hb1⟩
    have HB := hide (hB.trans (hb1.mono hB.size))
    clear hb1 hB HV hc0
    go_wp2
    go_ret
    exact ⟨ret_b HO.out.symm, HB.out⟩
  · rw [hc] at hk
    have hA := fun w => l1In_any x 1000 w
    cases hx : inR x 1000
    · have HO := hide (Ca.hld_off (n := n) (L := L) (D := D) hx)
      rw [hx] at hA
      clear hvv hvb hc hx
      go_enter Try.func16, Try.ntmps16
      go_wp2_with fail
      refine (hk _ HV.out).mono ?_
      rintro e w1 ⟨rfl, hb1⟩
      have HB := hide (hB.trans (hb1.mono hB.size))
      clear hb1 hB HV hc0
      go_wp2_with fail
      refine (hA _).mono ?_
      rintro e w2 ⟨rfl, rfl⟩
      go_wp2
      go_ret
      exact ⟨ret_b HO.out.symm, HB.out⟩
    · have HO := hide (Ca.hld_at hc hx)
      obtain ⟨h0, h1⟩ := (inR_cases hx).1 rfl
      obtain ⟨rfl, l0, l1, _, _⟩ := cok_two hc
      rw [hx] at hA
      obtain ⟨b, off, rfl, hv2⟩ := hvv (by omega)
      clear hvb hc hx hvv
      have hx2 : x % 2 = 0 ∨ x % 2 = 1 := by omega
      go_enter Try.func16, Try.ntmps16
      go_wp2_with fail
      refine (hk _ HV.out).mono ?_
      rintro e w1 ⟨rfl, hb1⟩
      have hBB := hB.trans (hb1.mono hB.size)
      have hc1 := keepc hb1 hc0
      have HB := hide hBB
      clear hb1 hB HV hc0 hk
      go_wp2_with fail
      refine (hA _).mono ?_
      rintro e w2 ⟨rfl, rfl⟩
      rcases hx2 with hp | hp
      · rw [hp] at HO
        obtain ⟨ia, ic, q0', q1', hr0⟩ := hv2 0 (by omega)
        have q0 : w2.cell? ⟨b, off, none⟩ = some (.int .i64 (D 0).b) := Below.keep hBB _ _ q0'
        have q1 : w2.cell? ⟨b, off + 1, none⟩ = some (.slice ia 4 ic) := by rw [← l0]; exact Below.keep hBB _ _ q1'
        have hws : Ws w2 (.slice ia 4 ic) 4 (D 0) := by have := hr0.below hBB; rw [l0] at this; exact this
        have hf := fun w h => l9Way_any (D 0) ia ic x w h
        generalize hy : Ca.fst (D 0) true x = y at hf
        have HY := hide hy
        have HR := hide (Ca.fst_range (D 0) true x)
        rw [hy] at HR
        clear q0' q1' hr0 hv2 hBB hy
        go_wp2_with fail
        refine (hf _ hws).mono ?_
        rintro e w3 ⟨rfl, hb3⟩
        have HB3 := hide (HB.out.trans (hb3.mono HB.out.size))
        have HE : Hid (decide (0 ≤ y) = Ca.hldB 2 L D x) := hide (by
          rw [HO.out]; show decide (0 ≤ y) = decide (¬ Ca.fst (D 0) true x = -1); rw [HY.out]
          rcases HR.out with h | h | h | h | h <;> subst h <;> decide)
        clear hb3
        go_wp2
        go_ret
        exact ⟨ret_b HE.out, HB3.out⟩
      · rw [hp] at HO
        obtain ⟨ia, ic, q0', q1', hr0⟩ := hv2 1 (by omega)
        have q0 : w2.cell? ⟨b, off + 2, none⟩ = some (.int .i64 (D 1).b) := Below.keep hBB _ _ q0'
        have q1 : w2.cell? ⟨b, off + 2 + 1, none⟩ = some (.slice ia 4 ic) := by rw [← l1]; exact Below.keep hBB _ _ q1'
        have hws : Ws w2 (.slice ia 4 ic) 4 (D 1) := by have := hr0.below hBB; rw [l1] at this; exact this
        have hf := fun w h => l9Way_any (D 1) ia ic x w h
        generalize hy : Ca.fst (D 1) true x = y at hf
        have HY := hide hy
        have HR := hide (Ca.fst_range (D 1) true x)
        rw [hy] at HR
        clear q0' q1' hr0 hv2 hBB hy
        go_wp2_with fail
        refine (hf _ hws).mono ?_
        rintro e w3 ⟨rfl, hb3⟩
        have HB3 := hide (HB.out.trans (hb3.mono HB.out.size))
        have HE : Hid (decide (0 ≤ y) = Ca.hldB 2 L D x) := hide (by
          rw [HO.out]; show decide (0 ≤ y) = decide (¬ Ca.fst (D 1) true x = -1); rw [HY.out]
          rcases HR.out with h | h | h | h | h <;> subst h <;> decide)
        clear hb3
        go_wp2
        go_ret
        exact ⟨ret_b HE.out, HB3.out⟩

end Go.Proofs.Ytofnkbpkjgapbaa
