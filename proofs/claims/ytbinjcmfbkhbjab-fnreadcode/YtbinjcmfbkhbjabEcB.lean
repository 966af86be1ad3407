/- impl: SyndromeOf, spread, checked, byteIn -/
import Derived.Test.YtbinjcmfbkhbjabEcA
namespace Go.Proofs.Ytbinjcmfbkhbjab
open Go.RowKit

set_option maxHeartbeats 1000000 in
theorem syn_any (n : Nat) (w : World) (hn : n < 8192) : Calls Try.prog 16 #[.int .i64 n] w fun e w' => e = .returned (.int .i64 (Ecc.syn n 13)) ∧ w' = w := by
  have hin : inR (n : Int) 8191 = true := inR_yes (by omega) (by omega)
  have hw := fun w => isWord_any (n : Int) w
  rw [hin] at hw
  have HB := hide (fun k w hk => bitAt_any n k w hn hk)
  clear hin
  go_enter Try.func16, Try.ntmps16
  go_wp2_with (go_at_call 43; refine (hw _).mono ?_; rintro e w' ⟨rfl, rfl⟩)
  go_loop [3, 8] (fun s i => ∃ (k p : Nat), k ≤ 13 ∧ i = .int .i64 k ∧ s = .int .i64 p ∧ p < 16 ∧ Hid (p = Ecc.syn n k)) (fun _ i => 13 - (intOf i).toNat)
  case atStart => exact ⟨0, 0, by omega, rfl, rfl, by omega, hide rfl⟩
  case round =>
    obtain ⟨k, p, hk, rfl, rfl, hp, HP⟩ := hrel
    by_cases hlt : k < 13
    · obtain ⟨t, ht⟩ : ∃ t, Ecc.bt n k = t := ⟨_, rfl⟩
      have hb := fun w => HB.out k w hlt
      rw [ht] at hb
      have ht2 : t < 2 := by rw [← ht]; exact Ecc.bt_lt n k
      have HT := hide ht
      clear ht
      have hmul : (k : Int) * (t : Int) = ((k * t : Nat) : Int) := by simp
      have hkt : k * t < 16 := by
        have : t = 0 ∨ t = 1 := by omega
        rcases this with rfl | rfl <;> omega
      obtain ⟨m, hm⟩ : ∃ m, k * t = m := ⟨_, rfl⟩
      rw [hm] at hmul hkt
      have HX := hide (Ecc.i64_xor p m (by omega) (by omega))
      have HM := hide hm
      clear hm
      go_wp2_with (go_at_call 49; refine (hb _).mono ?_; rintro e w' ⟨rfl, rfl⟩)
      go_round
      case rel =>
        refine ⟨k + 1, p ^^^ m, by omega, by go_num, ?_, Nat.xor_lt_two_pow (n := 4) hp hkt, hide ?_⟩
        · exact congrArg (Value.int .i64) HX.out
        · rw [Ecc.syn_succ, HT.out, HM.out, HP.out]
      case measure => simp [intOf]; omega
    · have e : k = 13 := by omega
      subst e
      go_wp2
      go_ret
      exact ⟨ret_i (congrArg Nat.cast HP.out), rfl⟩

set_option maxHeartbeats 1000000 in
theorem syn_none (n : Int) (w : World) (hn : ¬ (0 ≤ n ∧ n ≤ 8191)) : Calls Try.prog 16 #[.int .i64 n] w fun e w' => e = .returned (.int .i64 (-1)) ∧ w' = w := by
  have hw := fun w => isWord_any n w
  rw [inR_no hn] at hw
  clear hn
  go_enter Try.func16, Try.ntmps16
  go_wp2_with (go_at_call 43; refine (hw _).mono ?_; rintro e w' ⟨rfl, rfl⟩)
  go_ret
  exact ⟨rfl, rfl⟩

set_option maxHeartbeats 1000000 in
theorem spread_any (b : Nat) (w : World) (hb : b < 256) : Calls Try.prog 34 #[.int .i64 b] w fun e w' => e = .returned (.int .i64 (Ecc.sw b 13)) ∧ w' = w := by
  go_enter Try.func34, Try.ntmps34
  go_wp2
  go_loop [0, 3, 5] (fun x s i => ∃ (k p q : Nat), k ≤ 13 ∧ i = .int .i64 k ∧ s = .int .i64 p ∧ x = .int .i64 q ∧ p < 8192 ∧ q < 256 ∧ Hid (p = Ecc.sw b k) ∧ Hid (q = b / 2 ^ Ecc.ac k)) (fun _ _ i => 13 - (intOf i).toNat)
  case atStart => exact ⟨0, 0, b, by omega, rfl, rfl, rfl, by omega, by omega, hide rfl, hide (Nat.div_one b).symm⟩
  case round =>
    obtain ⟨k, p, q, hk, rfl, rfl, rfl, hp, hq, HP, HQ⟩ := hrel
    by_cases hlt : k < 13
    · have hh := fun w => isHeld_any k w hlt
      cases hc : Ecc.held k
      · rw [hc] at hh
        have HC := hide hc
        clear hc
        go_wp2_with (go_at_call 55; refine (hh _).mono ?_; rintro e w' ⟨rfl, rfl⟩)
        go_round
        case rel =>
          refine ⟨k + 1, p, q, by omega, by go_num, rfl, rfl, hp, hq, hide ?_, hide ?_⟩
          · rw [Ecc.sw_no b k HC.out]; exact HP.out
          · rw [Ecc.ac_no k HC.out]; exact HQ.out
        case measure => simp [intOf]; omega
      · rw [hc] at hh
        have HC := hide hc
        clear hc
        have HA := hide (Ecc.i64_and1 q (by omega))
        obtain ⟨t, ht⟩ : ∃ t, q % 2 = t := ⟨_, rfl⟩
        have ht2 : t < 2 := by omega
        rw [ht] at HA
        have hpk : 2 ^ k < 2 ^ 13 := Nat.pow_lt_pow_of_lt (by decide) hlt
        have htk : t * 2 ^ k < 8192 := by
          have : t = 0 ∨ t = 1 := by omega
          rcases this with rfl | rfl <;> omega
        have HT := hide ht
        clear ht
        have hsh : wrap64 ((t : Int) * 2 ^ k) = ((t * 2 ^ k : Nat) : Int) := by
          have e : ((t : Int) * 2 ^ k) = ((t * 2 ^ k : Nat) : Int) := by simp
          rw [e]
          generalize t * 2 ^ k = z at htk
          unfold wrap64
          omega
        obtain ⟨z, hz⟩ : ∃ z, t * 2 ^ k = z := ⟨_, rfl⟩
        rw [hz] at hsh htk
        have HO := hide (Ecc.i64_or p z (by omega) (by omega))
        have HZ := hide hz
        have HS := hide hsh
        clear hz hpk hsh
        go_wp2_with (go_at_call 55; refine (hh _).mono ?_; rintro e w' ⟨rfl, rfl⟩)
        go_round
        case rel =>
          refine ⟨k + 1, p ||| z, q / 2, by omega, by go_num, ?_, ?_, Nat.or_lt_two_pow (n := 13) hp htk, by omega, hide ?_, hide ?_⟩
          · rw [HA.out, HS.out, HO.out]
          · first | rfl | go_num
          · rw [Ecc.sw_yes b k HC.out, ← HZ.out, ← HT.out, HP.out, Ecc.or_add _ _ _ (Ecc.sw_lt b k), HQ.out]; rfl
          · rw [Ecc.ac_yes k HC.out, HQ.out, Ecc.half]
        case measure => simp [intOf]; omega
    · have e : k = 13 := by omega
      subst e
      go_wp2
      go_ret
      exact ⟨ret_i (congrArg Nat.cast HP.out), rfl⟩

end Go.Proofs.Ytbinjcmfbkhbjab
