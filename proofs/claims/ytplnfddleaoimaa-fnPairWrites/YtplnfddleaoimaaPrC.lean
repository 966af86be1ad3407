/- PairOk of both sides: the same 'pairB' -/
import Derived.Test.YtplnfddleaoimaaPrB
namespace Go.Proofs.Ytplnfddleaoimaa
open Go.RowKit
set_option linter.unusedVariables false
set_option linter.unusedSimpArgs false

set_option maxHeartbeats 4000000 in
theorem implPairOk_any (L R : Value) (zl zr : List Int) (lu ru : Bool) (w : World) (hl : Sl w L zl) (hr : Sl w R zr) (hn : zl.length + zr.length ≤ 1048576) :
    Calls Try.prog 12 #[.agg (pq L R lu ru)] w fun e w' => e = .returned (.bool (pairB zl zr lu ru)) ∧ Below w.heap.size w w' := by
  have H1 := hide (And.intro hl hr)
  obtain ⟨ad, ac, rfl, _⟩ := hl
  obtain ⟨bd, bc, rfl, _⟩ := hr
  have HN : Hid (zl.length ≤ 1048576 ∧ zr.length ≤ 1048576) := hide ⟨by omega, by omega⟩
  clear hn
  have hS1 := fun w h => sideOk_any (.slice ad zl.length ac) zl lu w h HN.out.1
  have hS2 := fun w h => sideOk_any (.slice bd zr.length bc) zr ru w h HN.out.2
  have hS3 := fun w h k => equal_any (.slice ad zl.length ac) (.slice bd zr.length bc) zl zr w h k HN.out.1
  have HO : Hid (pairB zl zr lu ru = (sideB zl lu && sideB zr ru && (!lu || !ru || decide (zl = zr)))) := hide rfl
  generalize pairB zl zr lu ru = res at HO ⊢
  generalize sideB zl lu = b1 at hS1 HO
  generalize sideB zr ru = b2 at hS2 HO
  generalize decide (zl = zr) = b3 at hS3 HO
  generalize zl.length = n at *
  generalize zr.length = m at *
  have hB0 : Below w.heap.size w (w.alloc (.cells (pq (.slice ad n ac) (.slice bd m bc) lu ru) 26)) := (Below.refl _ _).alloc (Nat.le_refl _) _
  obtain ⟨x0, x1, x2, x3⟩ := bx4 w (.slice ad n ac) (.slice bd m bc) (.bool lu) (.bool ru) 26
  cases b1
  · go_enter Try.func12, Try.ntmps12
    go_wp2_with fail
    refine (hS1 _ (H1.out.1.below hB0)).mono ?_
    rintro e w1 ⟨rfl, rfl⟩
    go_wp2
    go_ret
    exact ⟨ret_b (by have := HO.out; simpa using this.symm), hB0⟩
  cases b2
  · go_enter Try.func12, Try.ntmps12
    go_wp2_with fail
    refine (hS1 _ (H1.out.1.below hB0)).mono ?_
    rintro e w1 ⟨rfl, rfl⟩
    go_wp2_with fail
    refine (hS2 _ (H1.out.2.below hB0)).mono ?_
    rintro e w1 ⟨rfl, rfl⟩
    go_wp2
    go_ret
    exact ⟨ret_b (by have := HO.out; simpa using this.symm), hB0⟩
  cases lu
  · go_enter Try.func12, Try.ntmps12
    go_wp2_with fail
    refine (hS1 _ (H1.out.1.below hB0)).mono ?_
    rintro e w1 ⟨rfl, rfl⟩
    go_wp2_with fail
    refine (hS2 _ (H1.out.2.below hB0)).mono ?_
    rintro e w1 ⟨rfl, rfl⟩
    go_wp2
    go_ret
    exact ⟨ret_b (by have := HO.out; simpa using this.symm), hB0⟩
  cases ru
  · go_enter Try.func12, Try.ntmps12
    go_wp2_with fail
    refine (hS1 _ (H1.out.1.below hB0)).mono ?_
    rintro e w1 ⟨rfl, rfl⟩
    go_wp2_with fail
    refine (hS2 _ (H1.out.2.below hB0)).mono ?_
    rintro e w1 ⟨rfl, rfl⟩
    go_wp2
    go_ret
    exact ⟨ret_b (by have := HO.out; simpa using this.symm), hB0⟩
  · go_enter Try.func12, Try.ntmps12
    go_wp2_with fail
    refine (hS1 _ (H1.out.1.below hB0)).mono ?_
    rintro e w1 ⟨rfl, rfl⟩
    go_wp2_with fail
    refine (hS2 _ (H1.out.2.below hB0)).mono ?_
    rintro e w1 ⟨rfl, rfl⟩
    go_wp2_with fail
    refine (hS3 _ (H1.out.1.below hB0) (H1.out.2.below hB0)).mono ?_
    rintro e w1 ⟨rfl, hb1⟩
    have hB1 := hB0.trans (hb1.mono hB0.size)
    clear hb1 hB0
    go_wp2
    go_ret
    exact ⟨ret_b (by have := HO.out; simpa using this.symm), hB1⟩

set_option maxHeartbeats 2000000 in
theorem values_any (v : Value) (zs : List Int) (N : Nat) (w : World) (hs : Sl w v zs) (hl : zs.length ≤ 1048576) (hN : N ≤ 1048576) :
    Calls Try.prog 40 #[v, .int .i64 N] w fun e w' => e = .returned (.bool (allV zs && decide (zs.length = N))) ∧ w' = w := by
  obtain ⟨ad, cap, rfl, hs⟩ := hs
  have HO2 : Hid (∀ k, k < zs.length → inB (zs.getD k 0) 0 (1000000 + 1) = false → false = (allV zs && decide (zs.length = N))) := hide (fun k hk hf => by
    simp only [allV, all_no (p := fun j => inB (zs.getD j 0) 0 1000001) hk hf]; rfl)
  have HO3 : Hid ((∀ k, k < zs.length → inB (zs.getD k 0) 0 (1000000 + 1) = true) → decide (zs.length = N) = (allV zs && decide (zs.length = N))) := hide (fun hf => by
    have h2 : allV zs = true := decide_eq_true hf
    rw [h2, Bool.true_and])
  generalize (allV zs && decide (zs.length = N)) = res at HO2 HO3 ⊢
  generalize zs.length = n at *
  go_enter Try.func40, Try.ntmps40
  go_wp2
  go_loop [5] (fun i => ∃ k : Nat, k ≤ n ∧ i = .int .i64 k ∧ Hid (∀ j, j < k → inB (zs.getD j 0) 0 (1000000 + 1) = true)) (fun i => n - (intOf i).toNat)
  case atStart => exact ⟨0, Nat.zero_le _, rfl, hide (fun j hj => by omega)⟩
  case round =>
    obtain ⟨k, hk, rfl, HA⟩ := hrel
    by_cases hlt : k < n
    · obtain ⟨p, off, rfl, hc⟩ := hs (by omega)
      have hck := hc k hlt
      have hV := fun w => l1In_any (zs.getD k 0) 0 1000000 w (by decide)
      have HN : Hid (inB (zs.getD k 0) 0 (1000000 + 1) = false → false = res) := hide (fun h => HO2.out k hlt h)
      have HY : Hid (inB (zs.getD k 0) 0 (1000000 + 1) = true → ∀ j, j < k + 1 → inB (zs.getD j 0) 0 (1000000 + 1) = true) := hide (fun h j hj => by
        by_cases e : j = k
        · rw [e]; exact h
        · exact HA.out j (by omega))
      generalize inB (zs.getD k 0) 0 (1000000 + 1) = b at hV HN HY
      generalize zs.getD k 0 = z at hck hV
      clear hc hs HA HO2 HO3
      go_wp2_with fail
      refine (hV _).mono ?_
      rintro e w2 ⟨rfl, rfl⟩
      clear hV
      cases b
      · go_wp2
        go_ret
        exact ⟨ret_b (HN.out (by first | rfl | trivial)), rfl⟩
      · go_wp2
        go_round
        case rel => exact ⟨k + 1, by omega, by go_num, hide (HY.out (by first | rfl | trivial))⟩
        case measure => simp [intOf]; omega
    · have e : k = n := by omega
      subst e
      have HX := hide (HO3.out HA.out)
      clear hs HO2 HO3 HA
      by_cases hkN : k = N
      · have HX2 : Hid (true = res) := hide (by rw [← HX.out]; simp [hkN])
        subst hkN
        clear HX
        go_wp2
        go_ret
        exact ⟨ret_b HX2.out, rfl⟩
      · have HX2 : Hid (false = res) := hide (by rw [← HX.out]; simp [hkN])
        have hne : ¬ ((k : Int) = (N : Int)) := by omega
        have hnb : ((k : Int) == (N : Int)) = false := by simp; omega
        clear HX
        go_wp2
        go_ret
        first | exact ⟨ret_b HX2.out, rfl⟩ | exact ⟨ret_b (hnb.trans HX2.out), rfl⟩

end Go.Proofs.Ytplnfddleaoimaa
