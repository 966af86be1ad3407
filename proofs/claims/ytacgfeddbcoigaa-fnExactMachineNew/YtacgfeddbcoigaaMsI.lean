/- laws.eqMachine -/
import Derived.Test.YtacgfeddbcoigaaMsL
namespace Go.Proofs.Ytacgfeddbcoigaa
open Go.RowKit
set_option linter.unusedVariables false
set_option linter.unusedSimpArgs false

set_option maxHeartbeats 2000000 in
theorem eqMachine_same (a0 a1 a2 b0 b1 b2 : Value) (C N n : Nat) (L : Nat → Nat) (F : Nat → Nat → Nat → Int) (G : Nat → LnD) (f : Nat → Nat → Int) (w : World)
    (hs : Ss w a0 C L F) (hs' : Ss w b0 C L F) (hl : Ls w a1 N G) (hl' : Ls w b1 N G) (hq : Sr w a2 6 n f) (hq' : Sr w b2 6 n f)
    (hC : C ≤ 1048576) (hL : ∀ c, c < C → L c ≤ 1048576) (hN : N ≤ 1048576) (hG : ∀ c, c < N → (G c).zs.length ≤ 1048576 ∧ (G c).qn ≤ 1048576) (hn : n ≤ 1048576) :
    Calls Try.prog 6 #[.agg (mc3 a0 a1 a2), .agg (mc3 b0 b1 b2)] w fun e w' => e = .returned (.bool true) ∧ Below w.heap.size w w' := by
  have m1 := mb_box w a0 a1 a2 26
  have m2 := mb_here m1.1 b0 b1 b2 26
  have hz : (w.alloc (.cells (mc3 a0 a1 a2) 26)).heap.size = w.heap.size + 1 := by simp
  have m3 := m1.next ((Below.refl _ _).alloc (Nat.le_refl _) (.cells (mc3 b0 b1 b2) 26))
  rw [hz] at m2
  clear m1 hz
  go_enter Try.func6, Try.ntmps6
  go_wp2_with fail
  refine (eqSlotSS_same a0 b0 C L F _ (hs.below m2.1) (hs'.below m2.1) hC hL).mono ?_
  rintro e w1 ⟨rfl, hb1⟩
  have m4 := m2.next hb1
  have m5 := m3.next hb1
  obtain ⟨_, x0, x1, x2⟩ := id m4
  obtain ⟨_, y0, y1, y2⟩ := id m5
  clear hb1 m2 m3
  go_wp2_with fail
  refine (eqLineS_same a1 b1 N G _ (hl.below m4.1) (hl'.below m4.1) hN hG).mono ?_
  rintro e w2 ⟨rfl, hb2⟩
  have m6 := m4.next hb2
  have m7 := m5.next hb2
  clear hb2 m4 m5 x0 x1 x2 y0 y1 y2
  obtain ⟨_, x0, x1, x2⟩ := id m6
  obtain ⟨_, y0, y1, y2⟩ := id m7
  go_wp2_with fail
  refine (eqMsgS_same a2 b2 n f _ (hq.below m6.1) (hq'.below m6.1) hn).mono ?_
  rintro e w3 ⟨rfl, hb3⟩
  have m8 := m6.next hb3
  clear hb3 m6 m7 x0 x1 x2 y0 y1 y2
  go_wp2
  go_ret
  exact ⟨rfl, m8.1⟩

end Go.Proofs.Ytacgfeddbcoigaa
