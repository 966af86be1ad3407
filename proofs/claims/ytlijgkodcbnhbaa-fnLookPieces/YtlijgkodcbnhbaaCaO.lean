/- spec.l9Way, spec.Holds -/
import Derived.Test.YtlijgkodcbnhbaaCaN
namespace Go.Proofs.Ytlijgkodcbnhbaa
open Go.RowKit
set_option linter.unusedVariables false
set_option linter.unusedSimpArgs false

set_option maxHeartbeats 2000000 in
set_option maxRecDepth 20000 in
theorem l9Way_any (s : Sm) (ia : Option Addr) (ic : Nat) (x : Int) (w : World) (hs : Ws w (.slice ia 4 ic) 4 s) :
    Calls Try.prog 29 #[.agg #[.int .i64 s.b, .slice ia 4 ic], .int .i64 x] w fun e w' => e = .returned (.int .i64 (Ca.fst s true x)) ∧ Below w.heap.size w w' := by
  obtain ⟨ia', ic', hvx, hw⟩ := hs
  simp only [Value.slice.injEq, true_and] at hvx
  obtain ⟨rfl, rfl⟩ := hvx
  obtain ⟨p, po, rfl, hw2⟩ := hw (by omega)
  have HW := hide hw2
  clear hw hw2
  go_enter Try.func29, Try.ntmps29
  go_wp2
  go_loopw [5] (fun i wr => ∃ k : Nat, k ≤ 4 ∧ i = .int .i64 k ∧ wr.cell? ⟨w.heap.size, 1, none⟩ = some (.slice (some ⟨p, po, none⟩) 4 ic) ∧ Hid (Below w.heap.size w wr) ∧ Hid (∀ j, j < k → Ca.at_ s true x j = false)) (fun i _ => 4 - (intOf i).toNat)
  case atStart => exact ⟨0, by omega, rfl, box2.2, hide ((Below.refl _ _).alloc (Nat.le_refl _) _), hide (fun j hj => by omega)⟩
  case round =>
    obtain ⟨k, hk, rfl, hx, HB, HN⟩ := hrel
    by_cases hlt : k < 4
    · have r0 : wr.cell? ⟨p, po + k * 2, none⟩ = some (.bool (s.u k)) := Below.keep HB.out _ _ (HW.out k hlt).1
      have r1 : wr.cell? ⟨p, po + k * 2 + 1, none⟩ = some (.int .i64 (s.a k)) := Below.keep HB.out _ _ (HW.out k hlt).2
      have hk0 : (0 : Int) ≤ (k : Int) := by omega
      have hk4 : (k : Int) < 4 := by omega
      cases hu : s.u k
      · have HN2 : Hid (∀ j, j < k + 1 → Ca.at_ s true x j = false) := hide (fun j hj => by
          by_cases e : j = k
          · subst e; exact Ca.at_no (fun h => by rw [hu] at h; cases h.1)
          · exact HN.out j (by omega))
        rw [hu] at r0
        clear hu
        go_wp2
        exact ⟨⟨k + 1, by omega, by go_num, hx, HB, HN2⟩, by simp [intOf]; omega⟩
      · rw [hu] at r0
        by_cases hq : s.a k = x
        · have HF : Hid (Ca.fst s true x = k) := hide (by rw [← hq]; exact Ca.fst_yes hlt hu (fun j hj => by rw [hq]; exact HN.out j hj))
          have hq' : (s.a k == x) = true := by simpa using hq
          clear hu hq
          go_wp2
          go_ret
          exact ⟨ret_i HF.out.symm, HB.out⟩
        · have HN2 : Hid (∀ j, j < k + 1 → Ca.at_ s true x j = false) := hide (fun j hj => by
            by_cases e : j = k
            · subst e; exact Ca.at_no (fun h => hq h.2)
            · exact HN.out j (by omega))
          have hq' : (s.a k == x) = false := by simpa using hq
          clear hu hq
          go_wp2
          exact ⟨⟨k + 1, by omega, by go_num, hx, HB, HN2⟩, by simp [intOf]; omega⟩
    · have e : k = 4 := by omega
      subst e
      have HF : Hid (Ca.fst s true x = -1) := hide (by simp [Ca.fst, HN.out 0 (by omega), HN.out 1 (by omega), HN.out 2 (by omega), HN.out 3 (by omega)])
      go_wp2
      go_ret
      exact ⟨ret_i HF.out.symm, HB.out⟩

end Go.Proofs.Ytlijgkodcbnhbaa
