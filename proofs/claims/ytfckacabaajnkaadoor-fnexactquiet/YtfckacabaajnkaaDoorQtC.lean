/- spec.Quiet -/
import Derived.Test.YtfckacabaajnkaaDoorQtB
import Derived.Test.YtfckacabaajnkaaDoorMsH
namespace Go.Proofs.YtfckacabaajnkaaDoor
open Go.RowKit
set_option linter.unusedVariables false
set_option linter.unusedSimpArgs false

theorem q_cases {a b : Int} (h : qB a b = false) : (b != 0) = true ∨ (b = 0 ∧ a = 3) := by
  unfold qB at h
  by_cases h2 : b = 0
  · right; subst h2; simp at h; exact ⟨rfl, h⟩
  · left; simp; omega
theorem q_yes {a b : Int} (h : qB a b = true) : b = 0 ∧ (a == 3) = false := by
  unfold qB at h
  simpa using h

set_option maxHeartbeats 8000000 in
theorem specQuiet_any (sa : Option Addr) (C sc : Nat) (la : Option Addr) (N lc : Nat) (qa : Option Addr) (n qc : Nat) (L : Nat → Nat) (F : Nat → Nat → Nat → Int) (G : Nat → LnD) (f : Nat → Nat → Int) (w : World) (hs : Ss w (.slice sa C sc) C L F) (hl : Ls w (.slice la N lc) N G) (hq : Sr w (.slice qa n qc) 6 n f)
    (hC : C ≤ 1048576) (hL : ∀ c, c < C → L c ≤ 1048576) (hN : N ≤ 1048576) (hG : ∀ c, c < N → (G c).zs.length ≤ 1048576 ∧ (G c).qn ≤ 1048576) (hn : n ≤ 1048576) :
    Calls Tryd.prog 23 #[.agg (mc3 (.slice sa C sc) (.slice la N lc) (.slice qa n qc))] w fun e w' => e = .returned (.bool (quietB C L F N G n f)) ∧ Below w.heap.size w w' := by
  have mb := mb_box w (.slice sa C sc) (.slice la N lc) (.slice qa n qc) 34
  have hb0 : Below w.heap.size w (w.alloc (.cells (mc3 (.slice sa C sc) (.slice la N lc) (.slice qa n qc)) 34)) := (Below.refl _ _).alloc (Nat.le_refl _) _
  have hmo := specMachineOk_any sa C sc la N lc qa n qc L F G f (w.alloc (.cells (mc3 (.slice sa C sc) (.slice la N lc) (.slice qa n qc)) 34)) (hs.below hb0) (hl.below hb0) (hq.below hb0) hC hL hN hG hn
  clear hb0
  cases hm : machB C L F N G n f
  · rw [quietB_no hm]
    rw [hm] at hmo
    clear hm
    go_enter Tryd.func23, Tryd.ntmps23
    go_wp2_with fail
    refine hmo.mono ?_
    rintro e w1 ⟨rfl, hb1⟩
    have m1 := mb.next hb1
    clear mb hb1 hmo
    go_wp2
    go_ret
    exact ⟨rfl, m1.1⟩
  · rw [hm] at hmo
    by_cases hn0 : n = 0
    · subst hn0
      rw [quietB_yes hm]
      clear hm
      go_enter Tryd.func23, Tryd.ntmps23
      go_wp2_with fail
      refine hmo.mono ?_
      rintro e w1 ⟨rfl, hb1⟩
      have m1 := mb.next hb1
      clear mb hb1 hmo
      obtain ⟨ad, cap, hv, hl⟩ := hl
      simp only [Value.slice.injEq, true_and] at hv
      obtain ⟨rfl, rfl⟩ := hv
      obtain ⟨ad, cap, hv, hs⟩ := hs
      simp only [Value.slice.injEq, true_and] at hv
      obtain ⟨rfl, rfl⟩ := hv
      obtain ⟨b1, c0, c1, c2⟩ := id m1
      have HB := hide b1
      clear m1 b1
      go_wp2
      go_loop [3] (fun i => ∃ k : Nat, k ≤ C ∧ i = .int .i64 k ∧ Hid (allB L F k 0 = true)) (fun i => C - (intOf i).toNat)
      case atStart => exact ⟨0, Nat.zero_le _, rfl, hide (allB_zero L F)⟩
      case round =>
        obtain ⟨k, hk, rfl, HK⟩ := hrel
        by_cases hlt : k < C
        · obtain ⟨p, off, rfl, hc⟩ := hs (by omega)
          obtain ⟨ia, ic, q0', hr⟩ := hc k hlt
          have q0 : w1.cell? ⟨p, off + k, none⟩ = some (.slice ia (L k) ic) := Below.keep HB.out _ _ q0'
          obtain ⟨iad, icap, hiv, hr⟩ := hr
          simp only [Value.slice.injEq, true_and] at hiv
          obtain ⟨rfl, rfl⟩ := hiv
          have hLk := hL k hlt
          clear hs hc q0'
          go_wp2
          go_loop [4] (fun i => ∃ m : Nat, m ≤ L k ∧ i = .int .i64 m ∧ Hid (allB L F k m = true)) (fun i => L k - (intOf i).toNat)
          case atStart => exact ⟨0, Nat.zero_le _, rfl, HK⟩
          case round =>
            obtain ⟨m, hm, rfl, HM⟩ := hrel
            by_cases hlm : m < L k
            · obtain ⟨pi, oi, rfl, hx⟩ := hr (by omega)
              have x0 : w1.cell? ⟨pi, oi + m * 4, none⟩ = some (.int .i64 (F k m 0)) := Below.keep HB.out _ _ (hx m hlm 0 (by decide))
              have x2 : w1.cell? ⟨pi, oi + m * 4 + 2, none⟩ = some (.int .i64 (F k m 2)) := Below.keep HB.out _ _ (hx m hlm 2 (by decide))
              clear hx hr
              have HS := hide (allB_step L F k m)
              cases hqq : qB (F k m 0) (F k m 2)
              · have HF : Hid (allB L F C 0 = false) := hide (by
                  have h1 : allB L F k (m + 1) = false := by rw [HS.out, hqq, Bool.and_false]
                  exact decide_eq_false (fun h2 => by
                    have h3 := of_decide_eq_false h1
                    exact h3 ⟨fun c hc j hj => h2.1 c (by omega) j hj, fun j hj => h2.1 k hlt j (by omega)⟩))
                have hor := q_cases hqq
                clear hqq
                generalize F k m 0 = a0 at x0 hor
                generalize F k m 2 = a2 at x2 hor
                rcases hor with hor | ⟨rfl, rfl⟩
                all_goals go_wp2
                all_goals go_ret
                all_goals exact ⟨ret_bool (by rw [HF.out]; rfl), HB.out⟩
              · have HT : Hid (allB L F k (m + 1) = true) := hide (by rw [HS.out, hqq, HM.out]; rfl)
                obtain ⟨z2, z0⟩ := q_yes hqq
                clear hqq HS
                generalize F k m 0 = a0 at x0 z0
                generalize F k m 2 = a2 at x2 z2
                subst z2
                go_wp2
                go_round
                case rel => exact ⟨m + 1, by omega, by go_num, HT⟩
                case measure => simp [intOf]; omega
            · have e : m = L k := by omega
              subst e
              have HT : Hid (allB L F (k + 1) 0 = true) := hide (by rw [allB_row]; exact HM.out)
              go_wp2
              go_round
              case rel => exact ⟨k + 1, by omega, by go_num, HT⟩
              case measure => simp [intOf]; omega
        · have e : k = C := by omega
          subst e
          clear hs hlt hk
          go_wp2
          go_loop [5] (fun i => ∃ j : Nat, j ≤ N ∧ i = .int .i64 j ∧ Hid (noBusy G j = true)) (fun i => N - (intOf i).toNat)
          case atStart => exact ⟨0, Nat.zero_le _, rfl, hide (noBusy_zero G)⟩
          case round =>
            obtain ⟨j, hj, rfl, HJ⟩ := hrel
            by_cases hlj : j < N
            · obtain ⟨p, off, rfl, hc⟩ := hl (by omega)
              obtain ⟨sb, sd, qb, qd, ⟨d0, d1, d2, d3, d4, d5, d6⟩, s1, t1⟩ := hc j hlj
              have e3 := Below.keep HB.out _ _ d3
              clear d0 d1 d2 d3 d4 d5 d6 s1 t1 hc hl
              by_cases hbu : (G j).bu = 0
              · have HT : Hid (noBusy G (j + 1) = true) := hide (by rw [noBusy_yes hbu]; exact HJ.out)
                rw [hbu] at e3
                clear hbu
                go_wp2
                go_round
                case rel => exact ⟨j + 1, by omega, by go_num, HT⟩
                case measure => simp [intOf]; omega
              · have HF : Hid (noBusy G N = false) := hide (decide_eq_false (fun h2 => hbu (h2 j hlj)))
                have hq0 : ((G j).bu != 0) = true := by simp [hbu]
                clear hbu
                go_wp2
                go_ret
                exact ⟨ret_bool (by rw [HF.out, Bool.and_false]), HB.out⟩
            · have e : j = N := by omega
              subst e
              go_wp2
              go_ret
              exact ⟨ret_bool (by rw [HK.out, HJ.out]; rfl), HB.out⟩
    · rw [quietB_mail hn0]
      clear hm
      go_enter Tryd.func23, Tryd.ntmps23
      go_wp2_with fail
      refine hmo.mono ?_
      rintro e w1 ⟨rfl, hb1⟩
      have m1 := mb.next hb1
      clear mb hb1 hmo
      obtain ⟨_, c0, c1, c2⟩ := id m1
      have hpos : 0 < (n : Int) := by omega
      go_wp2
      go_ret
      exact ⟨rfl, m1.1⟩
end Go.Proofs.YtfckacabaajnkaaDoor
