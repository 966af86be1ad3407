/- laws.sameCache -/
import Derived.Test.YtlijgkodcbnhbaaCaV
import Derived.Deep.QuietTactic
namespace Go.Proofs.Ytlijgkodcbnhbaa
open Go.RowKit
set_option linter.unusedVariables false
set_option linter.unusedSimpArgs false

set_option maxHeartbeats 4000000 in
set_option maxRecDepth 20000 in
theorem sameCache_same (a b : Value) (n : Nat) (L : Nat → Nat) (D : Nat → Sm) (w : World) (ha : Cv w a n L D) (hb : Cv w b n L D) (hl : n ≤ 1048576) (hL : ∀ c, c < n → L c ≤ 1048576) :
    Calls Try.prog 9 #[.agg #[a], .agg #[b]] w fun e w' => e = .returned (.bool true) ∧ Below w.heap.size w w' := by
  have hB : ∀ o1 o2 : Obj, Below w.heap.size w ((w.alloc o1).alloc o2) := fun o1 o2 => ((Below.refl _ _).alloc (Nat.le_refl _) _).alloc (by simp) _
  obtain ⟨ad, cap, rfl, ha⟩ := ha
  obtain ⟨bd, cbp, rfl, hb⟩ := hb
  have HA := hide ha
  have HX := hide hb
  clear ha hb
  obtain ⟨W, hW⟩ : ∃ W, (w.alloc (.cells #[.slice ad n cap] 26)).alloc (.cells #[.slice bd n cbp] 26) = W := ⟨_, rfl⟩
  have x0 : W.cell? ⟨w.heap.size, 0, none⟩ = some (.slice ad n cap) := by
    rw [← hW]
    have h0 : (w.alloc (.cells #[.slice ad n cap] 26)).cell? ⟨w.heap.size, 0, none⟩ = some (.slice ad n cap) := cell_of_row _ _ 0 _ _ _ (heap_alloc_new _ _)
    exact keepc ((Below.refl _ _).alloc (Nat.le_refl _) _) h0
  have y0 : W.cell? ⟨w.heap.size + 1, 0, none⟩ = some (.slice bd n cbp) := by
    rw [← hW]
    have := heap_alloc_new (w.alloc (.cells #[.slice ad n cap] 26)) (.cells #[.slice bd n cbp] 26)
    simp only [World.size_alloc] at this
    exact cell_of_row _ _ 0 _ _ _ this
  have HB0 : Hid (Below w.heap.size w W) := hide (by rw [← hW]; exact hB _ _)
  clear hB
  go_enter Try.func9, Try.ntmps9
  go_wp2
  clear hW
  go_loopw [5] (fun i wr => ∃ k : Nat, k ≤ n ∧ i = .int .i64 k ∧ wr.cell? ⟨w.heap.size, 0, none⟩ = some (.slice ad n cap) ∧ wr.cell? ⟨w.heap.size + 1, 0, none⟩ = some (.slice bd n cbp) ∧ Hid (Below w.heap.size w wr)) (fun i _ => n - (intOf i).toNat)
  case atStart => exact ⟨0, Nat.zero_le _, rfl, x0, y0, HB0⟩
  case round =>
    clear x0 y0 HB0
    obtain ⟨k, hk, rfl, x0, y0, HB⟩ := hrel
    by_cases hlt : k < n
    · obtain ⟨p, off, rfl, hc⟩ := HA.out (by omega)
      obtain ⟨q, off', rfl, hd⟩ := HX.out (by omega)
      obtain ⟨ia, ic, c0', c1', ra⟩ := hc k hlt
      obtain ⟨ja, jc, d0', d1', rb⟩ := hd k hlt
      have HC := hide (And.intro (And.intro c0' c1') (And.intro d0' d1'))
      have c0 : wr.cell? ⟨p, off + k * 2, none⟩ = some (.int .i64 (D k).b) := Below.keep HB.out _ _ c0'
      have c1 : wr.cell? ⟨p, off + k * 2 + 1, none⟩ = some (.slice ia (L k) ic) := Below.keep HB.out _ _ c1'
      have d0 : wr.cell? ⟨q, off' + k * 2, none⟩ = some (.int .i64 (D k).b) := Below.keep HB.out _ _ d0'
      have d1 : wr.cell? ⟨q, off' + k * 2 + 1, none⟩ = some (.slice ja (L k) jc) := Below.keep HB.out _ _ d1'
      have hk0 : (0 : Int) ≤ (k : Int) := by omega
      have hk1 : (k : Int) < (n : Int) := by omega
      have hLk := hL k hlt
      have RA := hide ra
      have RB := hide rb
      clear hc hd c0' d0' c1' d1' ra rb hL
      go_wp2
      go_quiet (fail)
      all_goals go_wp2
      go_loopw [6] (fun i wr2 => ∃ j : Nat, j ≤ L k ∧ i = .int .i64 j ∧ wr2.cell? ⟨w.heap.size, 0, none⟩ = some (.slice (some ⟨p, off, none⟩) n cap) ∧ wr2.cell? ⟨w.heap.size + 1, 0, none⟩ = some (.slice (some ⟨q, off', none⟩) n cbp) ∧ Hid (Below w.heap.size w wr2)) (fun i _ => L k - (intOf i).toNat)
      case atStart => exact ⟨0, Nat.zero_le _, rfl, x0, y0, hide (below_drewN HB.out _)⟩
      case round =>
        clear x0 y0 HB c0 c1 d0 d1
        obtain ⟨j, hj, rfl, x0, y0, HB⟩ := hrel
        have c1 : wr.cell? ⟨p, off + k * 2 + 1, none⟩ = some (.slice ia (L k) ic) := Below.keep HB.out _ _ HC.out.1.2
        have d1 : wr.cell? ⟨q, off' + k * 2 + 1, none⟩ = some (.slice ja (L k) jc) := Below.keep HB.out _ _ HC.out.2.2
        by_cases hjl : j < L k
        · obtain ⟨ia', ic', hvx, hw⟩ := RA.out
          simp only [Value.slice.injEq, true_and] at hvx
          obtain ⟨rfl, rfl⟩ := hvx
          obtain ⟨ja', jc', hvy, hz⟩ := RB.out
          simp only [Value.slice.injEq, true_and] at hvy
          obtain ⟨rfl, rfl⟩ := hvy
          obtain ⟨pp, po, rfl, hw2⟩ := hw (by omega)
          obtain ⟨qq, qo, rfl, hz2⟩ := hz (by omega)
          have e0 : wr.cell? ⟨pp, po + j * 2, none⟩ = some (.bool ((D k).u j)) := Below.keep HB.out _ _ (hw2 j hjl).1
          have e1 : wr.cell? ⟨pp, po + j * 2 + 1, none⟩ = some (.int .i64 ((D k).a j)) := Below.keep HB.out _ _ (hw2 j hjl).2
          have f0 : wr.cell? ⟨qq, qo + j * 2, none⟩ = some (.bool ((D k).u j)) := Below.keep HB.out _ _ (hz2 j hjl).1
          have f1 : wr.cell? ⟨qq, qo + j * 2 + 1, none⟩ = some (.int .i64 ((D k).a j)) := Below.keep HB.out _ _ (hz2 j hjl).2
          have hj0 : (0 : Int) ≤ (j : Int) := by omega
          have hj1 : (j : Int) < (L k : Int) := by omega
          clear hw hw2 hz hz2 RA RB HC
          generalize (D k).u j = uu at *
          generalize (D k).a j = aa at *
          generalize hll : L k = ll at *
          clear hll
          go_wp2
          go_quiet (fail)
          all_goals go_wp2
          exact ⟨⟨j + 1, by omega, by go_num, x0, y0, hide (below_drewN HB.out _)⟩, by simp [intOf]; omega⟩
        · have e : j = L k := by omega
          clear RA RB HC
          generalize hll : L k = ll at *
          clear hll
          subst e
          go_wp2
          exact ⟨⟨k + 1, by omega, by go_num, x0, y0, HB⟩, by simp [intOf]; omega⟩
    · go_wp2
      go_ret
      exact ⟨rfl, HB.out⟩

end Go.Proofs.Ytlijgkodcbnhbaa
