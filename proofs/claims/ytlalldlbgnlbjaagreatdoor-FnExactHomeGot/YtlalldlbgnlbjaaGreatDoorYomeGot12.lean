/- D, Bits -/
import Derived.Test.YtlalldlbgnlbjaaGreatDoorYomeGot11
import Derived.Test.YtlalldlbgnlbjaaGreatDoorYomeGot9
import Derived.WalkKit
/- spec.IdsOk -/
namespace Go.Proofs.YtlalldlbgnlbjaaGreatDoor
open Go.RowKit


set_option maxHeartbeats 1000000 in
theorem specIdsOk_any (v : Value) (zs : List Int) (w : World) (ha : Sl w v zs) (hl : zs.length ≤ 1048576) :
    Calls Tryz.prog 56 #[v] w fun e w' => e = .returned (.bool (Ids.ok zs)) ∧ Below w.heap.size w w' := by
  obtain ⟨ad, cap, rfl, ha⟩ := ha
  obtain ⟨n, hn⟩ : ∃ n, zs.length = n := ⟨_, rfl⟩
  rw [hn] at ha hl ⊢
  have HN := hide hn
  clear hn
  go_enter Tryz.func56, Tryz.ntmps56
  go_wp2
  go_loopw [3] (fun i wr => ∃ k : Nat, k ≤ n ∧ i = .int .i64 k ∧ Below w.heap.size w wr ∧ Hid (Ids.rest zs k = Ids.ok zs ∧ 1 ≤ Ids.lo zs k)) (fun i _ => n - (intOf i).toNat)
  case atStart => exact ⟨0, Nat.zero_le _, rfl, Below.refl _ _, hide ⟨Ids.rest_zero zs, Int.le_refl _⟩⟩
  case round =>
    obtain ⟨k, hk, rfl, hbk, HR⟩ := hrel
    by_cases hlt : k < n
    · obtain ⟨p, off, rfl, hc⟩ := ha (by omega)
      have hck : wr.cell? ⟨p, off + k, none⟩ = some (.int .i64 (zs.getD k 0)) := Below.keep hbk _ _ (hc k hlt)
      obtain ⟨z, hz⟩ : ∃ z, zs.getD k 0 = z := ⟨_, rfl⟩
      rw [hz] at hck
      have HZ := hide hz
      clear hz
      by_cases hin : 1 ≤ z ∧ z ≤ 5
      · obtain ⟨h1, h5⟩ := hin
        rcases Nat.eq_zero_or_pos k with rfl | hp
        · have hg0 : decide ((0 : Int) < 0) = false := by decide
          have hck0 : wr.cell? ⟨p, off, none⟩ = some (.int .i64 z) := by simpa using hck
          clear hc ha hck
          go_wp2
          go_quiet ((go_at_call 55; exact Calls.quiet_of_same (in_yes _ _ _ _ (by omega) (by omega))))
          all_goals go_wp2
          all_goals go_roundw
          case rel =>
            refine ⟨1, by omega, by go_num, below_drewN hbk _, hide ⟨?_, by show 1 ≤ zs.getD 0 0 + 1; rw [HZ.out]; omega⟩⟩
            rw [← HR.out.1]
            exact (Ids.rest_step zs 0 (by rw [HN.out]; omega) (by rw [HZ.out]; exact h1) (by rw [HZ.out]; exact h5)).symm
          case measure => simp [intOf]; omega
        · obtain ⟨m, rfl⟩ : ∃ m, k = m + 1 := ⟨k - 1, by omega⟩
          have hcm : wr.cell? ⟨p, off + m, none⟩ = some (.int .i64 (zs.getD m 0)) := Below.keep hbk _ _ (hc m (by omega))
          obtain ⟨y, hy⟩ : ∃ y, zs.getD m 0 = y := ⟨_, rfl⟩
          rw [hy] at hcm
          have HY := hide hy
          clear hy hc ha
          have hg0 : decide ((0 : Int) < (m : Int) + 1) = true := by simp
          by_cases hyz : z ≤ y
          · have hyz' : decide (z ≤ y) = true := by simpa using hyz
            go_wp2
            go_quiet ((go_at_call 55; exact Calls.quiet_of_same (in_yes _ _ _ _ (by omega) (by omega))))
            all_goals go_wp2
            go_ret
            refine ⟨ret_bool ?_, below_drewN hbk _⟩
            rw [← HR.out.1]
            exact (Ids.rest_low zs (m + 1) (by rw [HN.out]; omega) (by rw [HZ.out]; show z < zs.getD m 0 + 1; rw [HY.out]; omega)).symm
          · have hyz' : decide (z ≤ y) = false := by simpa using hyz
            go_wp2
            go_quiet ((go_at_call 55; exact Calls.quiet_of_same (in_yes _ _ _ _ (by omega) (by omega))))
            all_goals go_wp2
            all_goals go_roundw
            case rel =>
              refine ⟨m + 1 + 1, by omega, by go_num, below_drewN hbk _, hide ⟨?_, by show 1 ≤ zs.getD (m + 1) 0 + 1; rw [HZ.out]; omega⟩⟩
              rw [← HR.out.1]
              exact (Ids.rest_step zs (m + 1) (by rw [HN.out]; omega) (by rw [HZ.out]; show zs.getD m 0 + 1 ≤ z; rw [HY.out]; omega) (by rw [HZ.out]; exact h5)).symm
            case measure => simp [intOf]; omega
      · have hno : z < 1 ∨ 5 < z := by omega
        clear hin hc ha
        have HNO := hide hno
        clear hno
        go_wp2
        go_quiet ((go_at_call 55; exact Calls.quiet_of_same (in_no _ _ _ _ HNO.out)))
        all_goals go_wp2
        go_ret
        refine ⟨ret_bool ?_, below_drewN hbk _⟩
        rw [← HR.out.1]
        rcases HNO.out with h | h
        · refine (Ids.rest_low zs k (by rw [HN.out]; omega) ?_).symm
          rw [HZ.out]
          have := HR.out.2
          omega
        · exact (Ids.rest_high zs k (by rw [HN.out]; omega) (by rw [HZ.out]; exact h)).symm
    · go_wp2
      go_ret
      have e : k = n := by omega
      subst e
      refine ⟨ret_bool ?_, hbk⟩
      have h1 := Ids.rest_end zs
      rw [HN.out, HR.out.1] at h1
      exact h1.symm

end Go.Proofs.YtlalldlbgnlbjaaGreatDoor

/- bits of small numbers: closed facts -/
namespace Go.Proofs.YtlalldlbgnlbjaaGreatDoor
open Go.RowKit

theorem fin_of (s : Int) (h0 : 0 ≤ s) (h : s < 64) : ∃ m : Fin 64, s = ((m.val : Nat) : Int) := ⟨⟨s.toNat, by omega⟩, by simp; omega⟩

theorem or_fin : ∀ m : Fin 64, ∀ z ∈ [1, 2, 3, 4, 5], ((m.val : Nat) : Int) < 2 ^ z → bits BinOp.or IntKind.u64 ((m.val : Nat) : Int) (2 ^ z) = ((m.val : Nat) : Int) + 2 ^ z := by decide +kernel

theorem or_in : ∀ m : Fin 64, ∀ z ∈ [1, 2, 3, 4, 5], 0 ≤ bits BinOp.or IntKind.u64 ((m.val : Nat) : Int) (2 ^ z) ∧ bits BinOp.or IntKind.u64 ((m.val : Nat) : Int) (2 ^ z) < 64 := by decide +kernel

theorem andNot_in : ∀ m : Fin 64, ∀ z ∈ [1, 2, 3, 4, 5], 0 ≤ bits BinOp.andNot IntKind.u64 ((m.val : Nat) : Int) (2 ^ z) ∧ bits BinOp.andNot IntKind.u64 ((m.val : Nat) : Int) (2 ^ z) < 64 := by decide +kernel

theorem and_fin : ∀ m : Fin 64, bits BinOp.and IntKind.u64 ((m.val : Nat) : Int) 1 = ((m.val : Nat) : Int) % 2 := by decide +kernel

theorem with_five : ∀ a b c d e : Bool, ∀ z ∈ [1, 2, 3, 4, 5], Ids.inSet (bits BinOp.or IntKind.u64 (Ids.bs (Ids.five a b c d e)) (2 ^ z)) = Ids.withId (Ids.five a b c d e) (z : Nat) := by decide +kernel

theorem without_five : ∀ a b c d e : Bool, ∀ z ∈ [1, 2, 3, 4, 5], Ids.inSet (bits BinOp.andNot IntKind.u64 (Ids.bs (Ids.five a b c d e)) (2 ^ z)) = Ids.withoutId (Ids.five a b c d e) (z : Nat) := by decide +kernel

end Go.Proofs.YtlalldlbgnlbjaaGreatDoor
