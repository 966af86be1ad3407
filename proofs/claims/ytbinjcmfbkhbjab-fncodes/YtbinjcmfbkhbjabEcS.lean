/- spec: l1In, l7Bit, l7Pow, l7Check, l7Xor, l7Odd, l7Data, l7Flip, SyndromeOf, Flipped, EccRead, EccOf -/
import Derived.Test.YtbinjcmfbkhbjabEcC
namespace Go.Proofs.Ytbinjcmfbkhbjab
open Go.RowKit

set_option maxHeartbeats 400000 in
theorem l1In_any (n hi : Int) (w : World) : Calls Try.prog 37 #[.int .i64 n, .int .i64 0, .int .i64 hi] w fun e w' => e = .returned (.bool (inR n hi)) ∧ w' = w := by
  by_cases h0 : 0 ≤ n
  · by_cases h1 : n ≤ hi
    · have HH := hide (inR_yes h0 h1)
      go_enter Try.func37, Try.ntmps37
      go_wp2
      go_ret
      exact ⟨ret_b HH.out.symm, rfl⟩
    · have HH := hide (inR_no (n := n) (hi := hi) (by omega))
      go_enter Try.func37, Try.ntmps37
      go_wp2
      go_ret
      exact ⟨ret_b HH.out.symm, rfl⟩
  · have HH := hide (inR_no (n := n) (hi := hi) (by omega))
    go_enter Try.func37, Try.ntmps37
    go_wp2
    go_ret
    exact ⟨ret_b HH.out.symm, rfl⟩

set_option maxHeartbeats 1000000 in
theorem l7Bit_any (n b : Nat) (w : World) (hn : n < 1048576) (hb : b < 64) : Calls Try.prog 39 #[.int .i64 n, .int .i64 b] w fun e w' => e = .returned (.int .i64 (Ecc.bt n b)) ∧ w' = w := by
  go_enter Try.func39, Try.ntmps39
  go_wp2
  go_loop [0, 5] (fun s i => ∃ (k p : Nat), k ≤ b ∧ i = .int .i64 k ∧ s = .int .i64 p ∧ p < 1048576 ∧ Hid (p = n / 2 ^ k)) (fun _ i => b - (intOf i).toNat)
  case atStart => exact ⟨0, n, by omega, rfl, rfl, hn, hide (Nat.div_one n).symm⟩
  case round =>
    obtain ⟨k, p, hk, rfl, rfl, hp, HP⟩ := hrel
    by_cases hlt : k < b
    · go_wp2
      go_round
      case rel =>
        refine ⟨k + 1, p / 2, by omega, by go_num, by go_num, by omega, hide ?_⟩
        rw [HP.out, Ecc.half]
      case measure => simp [intOf]; omega
    · have e : k = b := by omega
      subst e
      go_wp2
      go_ret
      refine ⟨ret_i ?_, rfl⟩
      rw [Ecc.bt_eq, ← HP.out]
      omega

theorem pow_lt20 (k : Nat) (h : k < 20) : 2 ^ k < 1048576 := Nat.pow_lt_pow_of_lt (m := 20) (by decide) h

set_option maxHeartbeats 1000000 in
theorem l7Pow_any (b : Nat) (w : World) (hb : b < 20) : Calls Try.prog 40 #[.int .i64 b] w fun e w' => e = .returned (.int .i64 ((2 ^ b : Nat) : Int)) ∧ w' = w := by
  have HW := hide (fun k => pow_lt20 k)
  go_enter Try.func40, Try.ntmps40
  go_wp2
  go_loop [3, 4] (fun s i => ∃ (k p : Nat), k ≤ b ∧ i = .int .i64 k ∧ s = .int .i64 p ∧ p < 1048576 ∧ Hid (p = 2 ^ k)) (fun _ i => b - (intOf i).toNat)
  case atStart => exact ⟨0, 1, by omega, rfl, rfl, by omega, hide rfl⟩
  case round =>
    obtain ⟨k, p, hk, rfl, rfl, hp, HP⟩ := hrel
    by_cases hlt : k < b
    · go_wp2
      go_round
      case rel =>
        have e2 : 2 * p = 2 ^ (k + 1) := by rw [HP.out, Nat.pow_succ]; omega
        refine ⟨k + 1, 2 * p, by omega, by go_num, by go_num, ?_, hide e2⟩
        rw [e2]; exact HW.out (k + 1) (by omega)
      case measure => simp [intOf]; omega
    · have e : k = b := by omega
      subst e
      go_wp2
      go_ret
      exact ⟨ret_i (congrArg Nat.cast HP.out), rfl⟩

theorem check_cases (k : Nat) (h1 : 1 ≤ k) (h : k < 13) : k = 1 ∨ k = 2 ∨ k = 3 ∨ k = 4 ∨ k = 5 ∨ k = 6 ∨ k = 7 ∨ k = 8 ∨ k = 9 ∨ k = 10 ∨ k = 11 ∨ k = 12 := by omega

set_option maxHeartbeats 2000000 in
theorem l7Check_any (k : Nat) (w : World) (h1 : 1 ≤ k) (h : k < 13) : Calls Try.prog 38 #[.int .i64 k] w fun e w' => e = .returned (.bool (!(Ecc.held k))) ∧ w' = w := by
  rcases check_cases k h1 h with rfl | rfl | rfl | rfl | rfl | rfl | rfl | rfl | rfl | rfl | rfl | rfl
  all_goals clear h1 h
  all_goals go_enter Try.func38, Try.ntmps38
  all_goals go_wp2
  all_goals go_ret
  all_goals exact ⟨rfl, rfl⟩

set_option maxHeartbeats 1000000 in
theorem l7Xor_any (n : Nat) (w : World) (hn : n < 1048576) : Calls Try.prog 41 #[.int .i64 n] w fun e w' => e = .returned (.int .i64 (Ecc.syn n 13)) ∧ w' = w := by
  have HB := hide (fun k w hk => l7Bit_any n k w hn hk)
  go_enter Try.func41, Try.ntmps41
  go_wp2
  go_loop [3, 4] (fun s i => ∃ (k p : Nat), 1 ≤ k ∧ k ≤ 13 ∧ i = .int .i64 k ∧ s = .int .i64 p ∧ p < 16 ∧ Hid (p = Ecc.syn n k)) (fun _ i => 13 - (intOf i).toNat)
  case atStart => exact ⟨1, 0, by omega, by omega, rfl, rfl, by omega, hide (Ecc.syn_one n).symm⟩
  case round =>
    obtain ⟨k, p, hk1, hk, rfl, rfl, hp, HP⟩ := hrel
    by_cases hlt : k < 13
    · obtain ⟨t, ht⟩ : ∃ t, Ecc.bt n k = t := ⟨_, rfl⟩
      have hb := fun w => HB.out k w (by omega)
      rw [ht] at hb
      by_cases h1 : t = 1
      · subst h1
        have HT := hide ht
        clear ht
        have HX := hide (Ecc.i64_xor p k (by omega) (by omega))
        go_wp2_with (go_at_call 39; refine (hb _).mono ?_; rintro e w' ⟨rfl, rfl⟩)
        go_round
        case rel =>
          refine ⟨k + 1, p ^^^ k, by omega, by omega, by go_num, congrArg (Value.int .i64) HX.out, Nat.xor_lt_two_pow (n := 4) hp (by omega), hide ?_⟩
          rw [Ecc.syn_yes n k HT.out, HP.out]
        case measure => simp [intOf]; omega
      · have HT := hide (show ¬ Ecc.bt n k = 1 by rw [ht]; exact h1)
        have hq : ((t : Int) == 1) = false := by simp; omega
        clear ht h1
        go_wp2_with (go_at_call 39; refine (hb _).mono ?_; rintro e w' ⟨rfl, rfl⟩)
        go_round
        case rel => exact ⟨k + 1, p, by omega, by omega, by go_num, rfl, hp, hide (by rw [Ecc.syn_no n k HT.out, HP.out])⟩
        case measure => simp [intOf]; omega
    · have e : k = 13 := by omega
      subst e
      clear hk1
      go_wp2
      go_ret
      exact ⟨ret_i (congrArg Nat.cast HP.out), rfl⟩

set_option maxHeartbeats 1000000 in
theorem l7Odd_any (n : Nat) (w : World) (hn : n < 1048576) : Calls Try.prog 42 #[.int .i64 n] w fun e w' => e = .returned (.bool (Ecc.odd n 13)) ∧ w' = w := by
  have HB := hide (fun k w hk => l7Bit_any n k w hn hk)
  go_enter Try.func42, Try.ntmps42
  go_wp2
  go_loop [3, 4] (fun s i => ∃ (k : Nat) (o : Bool), k ≤ 13 ∧ i = .int .i64 k ∧ s = .bool o ∧ Hid (o = Ecc.odd n k)) (fun _ i => 13 - (intOf i).toNat)
  case atStart => exact ⟨0, false, by omega, rfl, rfl, hide rfl⟩
  case round =>
    obtain ⟨k, o, hk, rfl, rfl, HP⟩ := hrel
    by_cases hlt : k < 13
    · obtain ⟨t, ht⟩ : ∃ t, Ecc.bt n k = t := ⟨_, rfl⟩
      have hb := fun w => HB.out k w (by omega)
      rw [ht] at hb
      have ht2 : t < 2 := by rw [← ht]; exact Ecc.bt_lt n k
      have HT := hide ht
      clear ht
      have : t = 0 ∨ t = 1 := by omega
      clear ht2
      rcases this with rfl | rfl
      all_goals go_wp2_with (go_at_call 39; refine (hb _).mono ?_; rintro e w' ⟨rfl, rfl⟩)
      all_goals go_round
      case rel =>
        refine ⟨k + 1, Ecc.odd n (k + 1), by omega, by go_num, ?_, hide rfl⟩
        show _ = Value.bool (Bool.xor (Ecc.odd n k) (Nat.beq (Ecc.bt n k) 1))
        rw [HT.out, HP.out]; cases Ecc.odd n k <;> rfl
      case measure => simp [intOf]; omega
      case rel =>
        refine ⟨k + 1, Ecc.odd n (k + 1), by omega, by go_num, ?_, hide rfl⟩
        show _ = Value.bool (Bool.xor (Ecc.odd n k) (Nat.beq (Ecc.bt n k) 1))
        rw [HT.out, HP.out]; cases Ecc.odd n k <;> rfl
      case measure => simp [intOf]; omega
    · have e : k = 13 := by omega
      subst e
      go_wp2
      go_ret
      exact ⟨ret_b HP.out, rfl⟩

set_option maxHeartbeats 1000000 in
theorem l7Data_any (n : Nat) (w : World) (hn : n < 1048576) : Calls Try.prog 47 #[.int .i64 n] w fun e w' => e = .returned (.int .i64 (Ecc.dat n 13)) ∧ w' = w := by
  have HB := hide (fun k w hk => l7Bit_any n k w hn hk)
  go_enter Try.func47, Try.ntmps47
  go_wp2
  go_loop [3, 4, 5] (fun s x i => ∃ (k p q : Nat), 1 ≤ k ∧ k ≤ 13 ∧ i = .int .i64 k ∧ s = .int .i64 p ∧ x = .int .i64 q ∧ p < 256 ∧ q < 9 ∧ Hid (p = Ecc.dat n k) ∧ Hid (q = Ecc.ac k)) (fun _ _ i => 13 - (intOf i).toNat)
  case atStart => exact ⟨1, 0, 0, by omega, by omega, rfl, rfl, rfl, by omega, by omega, hide rfl, hide rfl⟩
  case round =>
    obtain ⟨k, p, q, hk1, hk, rfl, rfl, rfl, hp, hq, HP, HQ⟩ := hrel
    by_cases hlt : k < 13
    · have hh := fun w => l7Check_any k w hk1 hlt
      cases hc : Ecc.held k
      · rw [hc] at hh
        have HC := hide hc
        clear hc
        go_wp2_with (go_at_call 38; refine (hh _).mono ?_; rintro e w' ⟨rfl, rfl⟩)
        go_round
        case rel =>
          refine ⟨k + 1, p, q, by omega, by omega, by go_num, rfl, rfl, hp, hq, hide ?_, hide ?_⟩
          · rw [Ecc.dat_no n k HC.out]; exact HP.out
          · rw [Ecc.ac_no k HC.out]; exact HQ.out
        case measure => simp [intOf]; omega
      · rw [hc] at hh
        have HC := hide hc
        clear hc
        have hbt := fun w => HB.out k w (by omega)
        obtain ⟨t, ht⟩ : ∃ t, Ecc.bt n k = t := ⟨_, rfl⟩
        rw [ht] at hbt
        have ht2 : t < 2 := by rw [← ht]; exact Ecc.bt_lt n k
        have HT := hide ht
        have HQ1 : Hid (q + 1 = Ecc.ac (k + 1)) := hide (by rw [Ecc.ac_yes k HC.out, HQ.out])
        have hq8 : q < 8 := by
          have h1 := HQ1.out
          have h2 : ∀ k : Fin 14, Ecc.ac k.val ≤ 8 := by decide +kernel
          have h3 := h2 ⟨k + 1, by omega⟩
          simp only at h3
          omega
        have hpk : 2 ^ q < 2 ^ 8 := Nat.pow_lt_pow_of_lt (by decide) hq8
        have hpw := fun w => l7Pow_any q w (by omega)
        have HD : Hid (p + t * 2 ^ q = Ecc.dat n (k + 1)) := hide (by rw [Ecc.dat_yes n k HC.out, HP.out, HT.out, HQ.out])
        have hdl : p + t * 2 ^ q < 256 := by rw [HD.out]; exact Ecc.dat_small n (k + 1) (by omega)
        generalize 2 ^ q = u at hpw hpk HD hdl
        have htk : t * u < 256 := by omega
        have hmul : (t : Int) * (u : Int) = ((t * u : Nat) : Int) := by simp
        generalize t * u = z at hmul htk HD hdl
        clear ht hpk
        go_wp2_with (first | (go_at_call 38; refine (hh _).mono ?_; rintro e w' ⟨rfl, rfl⟩) | (go_at_call 39; refine (hbt _).mono ?_; rintro e w' ⟨rfl, rfl⟩) | (go_at_call 40; refine (hpw _).mono ?_; rintro e w' ⟨rfl, rfl⟩))
        go_round
        case rel => exact ⟨k + 1, p + z, q + 1, by omega, by omega, by go_num, by go_num, by go_num, hdl, by omega, HD, HQ1⟩
        case measure => simp [intOf]; omega
    · have e : k = 13 := by omega
      subst e
      clear hk1
      go_wp2
      go_ret
      exact ⟨ret_i (congrArg Nat.cast HP.out), rfl⟩

set_option maxHeartbeats 1000000 in
theorem l7Flip_any (n k : Nat) (w : World) (hn : n < 8192) (hk : k < 13) : Calls Try.prog 48 #[.int .i64 n, .int .i64 k] w fun e w' => e = .returned (.int .i64 (Ecc.flp n k)) ∧ w' = w := by
  have hb := fun w => l7Bit_any n k w (by omega) (by omega)
  have hp := fun w => l7Pow_any k w (by omega)
  have hpl : 2 ^ k < 2 ^ 13 := Nat.pow_lt_pow_of_lt (by decide) hk
  by_cases h : Ecc.bt n k = 1
  · obtain ⟨e1, e2⟩ := Ecc.flp_yes n k h
    rw [e1]
    rw [h] at hb
    generalize 2 ^ k = u at hp e2 hpl
    clear e1 h
    have HE : Hid ((n : Int) - u = ((n - u : Nat) : Int)) := hide (by omega)
    go_enter Try.func48, Try.ntmps48
    go_wp2_with (first | (go_at_call 39; refine (hb _).mono ?_; rintro e w' ⟨rfl, rfl⟩) | (go_at_call 40; refine (hp _).mono ?_; rintro e w' ⟨rfl, rfl⟩))
    go_ret
    exact ⟨ret_i HE.out, rfl⟩
  · rw [Ecc.flp_no n k h]
    have h2 := Ecc.bt_lt n k
    generalize Ecc.bt n k = t at hb h h2
    have hq : ((t : Int) == 1) = false := by simp; omega
    generalize 2 ^ k = u at hp hpl
    have HE : Hid ((n : Int) + u = ((n + u : Nat) : Int)) := hide (by omega)
    go_enter Try.func48, Try.ntmps48
    go_wp2_with (first | (go_at_call 39; refine (hb _).mono ?_; rintro e w' ⟨rfl, rfl⟩) | (go_at_call 40; refine (hp _).mono ?_; rintro e w' ⟨rfl, rfl⟩))
    go_ret
    exact ⟨ret_i HE.out, rfl⟩

set_option maxHeartbeats 1000000 in
theorem specSyn_any (n : Nat) (w : World) (hn : n < 8192) : Calls Try.prog 20 #[.int .i64 n] w fun e w' => e = .returned (.int .i64 (Ecc.syn n 13)) ∧ w' = w := by
  have hi := fun w => l1In_any (n : Int) 8191 w
  rw [inR_yes (by omega) (by omega)] at hi
  have hs := fun w => l7Xor_any n w (by omega)
  generalize Ecc.syn n 13 = x at hs
  go_enter Try.func20, Try.ntmps20
  go_wp2_with (first | (go_at_call 37; refine (hi _).mono ?_; rintro e w' ⟨rfl, rfl⟩) | (go_at_call 41; refine (hs _).mono ?_; rintro e w' ⟨rfl, rfl⟩))
  go_ret
  exact ⟨rfl, rfl⟩

set_option maxHeartbeats 1000000 in
theorem specSyn_none (n : Int) (w : World) (hn : ¬ (0 ≤ n ∧ n ≤ 8191)) : Calls Try.prog 20 #[.int .i64 n] w fun e w' => e = .returned (.int .i64 (-1)) ∧ w' = w := by
  have hi := fun w => l1In_any n 8191 w
  rw [inR_no hn] at hi
  clear hn
  go_enter Try.func20, Try.ntmps20
  go_wp2_with (go_at_call 37; refine (hi _).mono ?_; rintro e w' ⟨rfl, rfl⟩)
  go_ret
  exact ⟨rfl, rfl⟩

set_option maxHeartbeats 1000000 in
theorem specFlipped_any (n k : Nat) (w : World) (hn : n < 8192) (hk : k < 13) : Calls Try.prog 19 #[.int .i64 n, .int .i64 k] w fun e w' => e = .returned (.tuple #[.int .i64 (Ecc.flp n k), .bool true]) ∧ w' = w := by
  have E1 := hide (inR_yes (n := (n : Int)) (hi := 8191) (by omega) (by omega))
  have E2 := hide (inR_yes (n := (k : Int)) (hi := 12) (by omega) (by omega))
  have ht := fun w => l7Flip_any n k w hn hk
  generalize Ecc.flp n k = y at ht
  go_enter Try.func19, Try.ntmps19
  go_wp2_with (first | (go_at_call 37; refine (l1In_any _ _ _).mono ?_; rintro e w' ⟨rfl, rfl⟩; first | rw [E1.out] | rw [E2.out]) | (go_at_call 48; refine (ht _).mono ?_; rintro e w' ⟨rfl, rfl⟩))
  go_ret2
  exact ⟨rfl, rfl⟩

set_option maxHeartbeats 1000000 in
theorem specFlipped_none (n k : Int) (w : World) (hn : ¬ ((0 ≤ n ∧ n ≤ 8191) ∧ 0 ≤ k ∧ k < 13)) : Calls Try.prog 19 #[.int .i64 n, .int .i64 k] w fun e w' => e = .returned (.tuple #[.int .i64 0, .bool false]) ∧ w' = w := by
  by_cases h1 : 0 ≤ n ∧ n ≤ 8191
  · have E1 := hide (inR_yes h1.1 h1.2)
    have E2 := hide (inR_no (n := k) (hi := 12) (by omega))
    clear hn h1
    go_enter Try.func19, Try.ntmps19
    go_wp2_with (go_at_call 37; refine (l1In_any _ _ _).mono ?_; rintro e w' ⟨rfl, rfl⟩; first | rw [E1.out] | rw [E2.out])
    go_ret2
    exact ⟨rfl, rfl⟩
  · have E1 := hide (inR_no h1)
    clear hn h1
    go_enter Try.func19, Try.ntmps19
    go_wp2_with (go_at_call 37; refine (l1In_any _ _ _).mono ?_; rintro e w' ⟨rfl, rfl⟩; rw [E1.out])
    go_ret2
    exact ⟨rfl, rfl⟩

set_option maxHeartbeats 1000000 in
theorem specRead_any (n : Nat) (w : World) (hn : n < 8192) : Calls Try.prog 15 #[.int .i64 n] w fun e w' => e = .returned (.tuple #[.int .i64 (Ecc.rdV n), .int .i64 (Ecc.rdC n)]) ∧ w' = w := by
  have hi := fun w => l1In_any (n : Int) 8191 w
  rw [inR_yes (by omega) (by omega)] at hi
  have hs := fun w => l7Xor_any n w (by omega)
  have hs16 : Ecc.syn n 13 < 16 := Ecc.syn_lt n 13 (by omega)
  have ho := fun w => l7Odd_any n w (by omega)
  have hd := fun w => l7Data_any n w (by omega)
  have hfl : Ecc.syn n 13 < 13 → Ecc.flp n (Ecc.syn n 13) < 8192 := fun h => Ecc.flp_lt n _ hn h
  have hf := fun h w => l7Flip_any n (Ecc.syn n 13) w hn h
  have hfd := fun (h : Ecc.syn n 13 < 13) w => l7Data_any (Ecc.flp n (Ecc.syn n 13)) w (by have := hfl h; omega)
  unfold Ecc.rdV Ecc.rdC
  clear hfl
  generalize Ecc.dat (Ecc.flp n (Ecc.syn n 13)) 13 = y at hfd
  generalize Ecc.flp n (Ecc.syn n 13) = f at hf hfd
  generalize Ecc.dat n 13 = d at hd
  generalize Ecc.syn n 13 = x at hs hs16 hf hfd
  cases hc : Ecc.odd n 13
  · rw [hc] at ho
    clear hf hfd hc
    by_cases hx : x = 0
    · subst hx
      show Calls _ _ _ _ fun e w' => e = .returned (.tuple #[.int .i64 (d : Nat), .int .i64 0]) ∧ w' = w
      go_enter Try.func15, Try.ntmps15
      go_wp2_with (first | (go_at_call 37; refine (hi _).mono ?_; rintro e w' ⟨rfl, rfl⟩) | (go_at_call 41; refine (hs _).mono ?_; rintro e w' ⟨rfl, rfl⟩) | (go_at_call 42; refine (ho _).mono ?_; rintro e w' ⟨rfl, rfl⟩) | (go_at_call 47; refine (hd _).mono ?_; rintro e w' ⟨rfl, rfl⟩))
      go_ret2
      exact ⟨rfl, rfl⟩
    · have hb : Nat.beq x 0 = false := by
        cases hc : Nat.beq x 0
        · rfl
        · exact absurd (Nat.eq_of_beq_eq_true hc) hx
      rw [hb]
      clear hb hd
      show Calls _ _ _ _ fun e w' => e = .returned (.tuple #[.int .i64 0, .int .i64 2]) ∧ w' = w
      have hq : ((x : Int) == 0) = false := by simp; omega
      go_enter Try.func15, Try.ntmps15
      go_wp2_with (first | (go_at_call 37; refine (hi _).mono ?_; rintro e w' ⟨rfl, rfl⟩) | (go_at_call 41; refine (hs _).mono ?_; rintro e w' ⟨rfl, rfl⟩) | (go_at_call 42; refine (ho _).mono ?_; rintro e w' ⟨rfl, rfl⟩))
      go_ret2
      exact ⟨rfl, rfl⟩
  · rw [hc] at ho
    clear hc hd
    by_cases hx : 13 ≤ x
    · have hb : Nat.ble 13 x = true := Nat.ble_eq.mpr hx
      rw [hb]
      clear hb hf hfd
      show Calls _ _ _ _ fun e w' => e = .returned (.tuple #[.int .i64 0, .int .i64 2]) ∧ w' = w
      go_enter Try.func15, Try.ntmps15
      go_wp2_with (first | (go_at_call 37; refine (hi _).mono ?_; rintro e w' ⟨rfl, rfl⟩) | (go_at_call 41; refine (hs _).mono ?_; rintro e w' ⟨rfl, rfl⟩) | (go_at_call 42; refine (ho _).mono ?_; rintro e w' ⟨rfl, rfl⟩))
      go_ret2
      exact ⟨rfl, rfl⟩
    · have hb : Nat.ble 13 x = false := by
        cases hc : Nat.ble 13 x
        · rfl
        · exact absurd (Nat.ble_eq.mp hc) hx
      rw [hb]
      clear hb
      have hf := hf (by omega)
      have hfd := hfd (by omega)
      show Calls _ _ _ _ fun e w' => e = .returned (.tuple #[.int .i64 (y : Nat), .int .i64 1]) ∧ w' = w
      go_enter Try.func15, Try.ntmps15
      go_wp2_with (first | (go_at_call 37; refine (hi _).mono ?_; rintro e w' ⟨rfl, rfl⟩) | (go_at_call 41; refine (hs _).mono ?_; rintro e w' ⟨rfl, rfl⟩) | (go_at_call 42; refine (ho _).mono ?_; rintro e w' ⟨rfl, rfl⟩) | (go_at_call 48; refine (hf _).mono ?_; rintro e w' ⟨rfl, rfl⟩) | (go_at_call 47; refine (hfd _).mono ?_; rintro e w' ⟨rfl, rfl⟩))
      go_ret2
      exact ⟨rfl, rfl⟩

set_option maxHeartbeats 1000000 in
theorem specRead_none (n : Int) (w : World) (hn : ¬ (0 ≤ n ∧ n ≤ 8191)) : Calls Try.prog 15 #[.int .i64 n] w fun e w' => e = .returned (.tuple #[.int .i64 0, .int .i64 3]) ∧ w' = w := by
  have hi := fun w => l1In_any n 8191 w
  rw [inR_no hn] at hi
  clear hn
  go_enter Try.func15, Try.ntmps15
  go_wp2_with (go_at_call 37; refine (hi _).mono ?_; rintro e w' ⟨rfl, rfl⟩)
  go_ret2
  exact ⟨rfl, rfl⟩

set_option maxHeartbeats 1000000 in
theorem specEcc_none (b : Int) (w : World) (hb : ¬ (0 ≤ b ∧ b ≤ 255)) : Calls Try.prog 12 #[.int .i64 b] w fun e w' => e = .returned (.int .i64 (-1)) ∧ w' = w := by
  have hi := fun w => l1In_any b 255 w
  rw [inR_no hb] at hi
  clear hb
  go_enter Try.func12, Try.ntmps12
  go_wp2_with (go_at_call 37; refine (hi _).mono ?_; rintro e w' ⟨rfl, rfl⟩)
  go_ret
  exact ⟨rfl, rfl⟩

theorem isC_eq (k : Nat) (h1 : 1 ≤ k) : Ecc.isC k = !(Ecc.held k) := by
  unfold Ecc.isC
  have : Nat.beq k 0 = false := by
    cases hc : Nat.beq k 0
    · rfl
    · have := Nat.eq_of_beq_eq_true hc; omega
  rw [this]; simp

set_option maxHeartbeats 2000000 in
theorem specEcc_any (b : Nat) (w : World) (hb : b < 256) : Calls Try.prog 12 #[.int .i64 b] w fun e w' => e = .returned (.int .i64 (Ecc.enc b)) ∧ w' = w := by
  have hi := fun w => l1In_any (b : Int) 255 w
  rw [inR_yes (by omega) (by omega)] at hi
  have HE : Hid (Ecc.enc b = cond (Ecc.odd (Ecc.chs (Ecc.sw b 13) (Ecc.syn (Ecc.sw b 13) 13) 13) 13) (Ecc.chs (Ecc.sw b 13) (Ecc.syn (Ecc.sw b 13) 13) 13 + 1) (Ecc.chs (Ecc.sw b 13) (Ecc.syn (Ecc.sw b 13) 13) 13)) := hide rfl
  generalize Ecc.enc b = E at HE
  go_enter Try.func12, Try.ntmps12
  go_wp2_with (go_at_call 37; refine (hi _).mono ?_; rintro e w' ⟨rfl, rfl⟩)
  go_loop [3, 4, 5] (fun s x i => ∃ (k p q : Nat), 1 ≤ k ∧ k ≤ 13 ∧ i = .int .i64 k ∧ s = .int .i64 p ∧ x = .int .i64 q ∧ p < 8192 ∧ q < 9 ∧ Hid (p = Ecc.sw b k) ∧ Hid (q = Ecc.ac k)) (fun _ _ i => 13 - (intOf i).toNat)
  case atStart => exact ⟨1, 0, 0, by omega, by omega, rfl, rfl, rfl, by omega, by omega, hide rfl, hide rfl⟩
  case round =>
    obtain ⟨k, p, q, hk1, hk, rfl, rfl, rfl, hp, hq, HP, HQ⟩ := hrel
    by_cases hlt : k < 13
    · have hh := fun w => l7Check_any k w hk1 hlt
      cases hc : Ecc.held k
      · rw [hc] at hh
        have HC := hide hc
        clear hc
        go_wp2_with (go_at_call 38; refine (hh _).mono ?_; rintro e w' ⟨rfl, rfl⟩)
        go_round
        case rel =>
          refine ⟨k + 1, p, q, by omega, by omega, by go_num, rfl, rfl, hp, hq, hide ?_, hide ?_⟩
          · rw [Ecc.sw_no b k HC.out]; exact HP.out
          · rw [Ecc.ac_no k HC.out]; exact HQ.out
        case measure => simp [intOf]; omega
      · rw [hc] at hh
        have HC := hide hc
        clear hc
        have hbt := fun w => l7Bit_any b q w (by omega) (by omega)
        obtain ⟨t, ht⟩ : ∃ t, Ecc.bt b q = t := ⟨_, rfl⟩
        rw [ht] at hbt
        have ht2 : t < 2 := by rw [← ht]; exact Ecc.bt_lt b q
        have HT := hide ht
        have HQ1 : Hid (q + 1 = Ecc.ac (k + 1)) := hide (by rw [Ecc.ac_yes k HC.out, HQ.out])
        have hq8 : q < 8 := by
          have h1 := HQ1.out
          have h2 : ∀ k : Fin 14, Ecc.ac k.val ≤ 8 := by decide +kernel
          have h3 := h2 ⟨k + 1, by omega⟩
          simp only at h3
          omega
        have hpw := fun w => l7Pow_any k w (by omega)
        have HD : Hid (p + t * 2 ^ k = Ecc.sw b (k + 1)) := hide (by rw [Ecc.sw_yes b k HC.out, HP.out, ← HT.out, HQ.out])
        have hdl : p + t * 2 ^ k < 8192 := by
          rw [HD.out]
          have h1 := Ecc.sw_lt b (k + 1)
          have h2 : 2 ^ (k + 1) ≤ 2 ^ 13 := Nat.pow_le_pow_right (by decide) (by omega)
          omega
        have hpk : 2 ^ k < 2 ^ 13 := Nat.pow_lt_pow_of_lt (by decide) hlt
        generalize 2 ^ k = u at hpw HD hdl hpk
        have htk : t * u < 8192 := by omega
        have hmul : (t : Int) * (u : Int) = ((t * u : Nat) : Int) := by simp
        generalize t * u = z at hmul htk HD hdl
        clear ht hpk
        go_wp2_with (first | (go_at_call 38; refine (hh _).mono ?_; rintro e w' ⟨rfl, rfl⟩) | (go_at_call 39; refine (hbt _).mono ?_; rintro e w' ⟨rfl, rfl⟩) | (go_at_call 40; refine (hpw _).mono ?_; rintro e w' ⟨rfl, rfl⟩))
        go_round
        case rel => exact ⟨k + 1, p + z, q + 1, by omega, by omega, by go_num, by go_num, by go_num, hdl, by omega, HD, HQ1⟩
        case measure => simp [intOf]; omega
    · have e : k = 13 := by omega
      subst e
      clear hk1 hk hlt HQ hq
      have HS := hide (show p = Ecc.sw b 13 from HP.out)
      rw [← HS.out] at HE
      have hx := fun w => l7Xor_any p w (by omega)
      have hx16 : Ecc.syn p 13 < 16 := Ecc.syn_lt p 13 (by omega)
      generalize Ecc.syn p 13 = x at hx hx16 HE
      have HL := hide (fun k => Ecc.chs_lt p x k)
      clear HS HP
      go_wp2_with (go_at_call 41; refine (hx _).mono ?_; rintro e w' ⟨rfl, rfl⟩)
      clear hx
      go_loop [3, 7] (fun s i => ∃ (k r : Nat), 1 ≤ k ∧ k ≤ 13 ∧ i = .int .i64 k ∧ s = .int .i64 r ∧ r < 16384 ∧ Hid (r = Ecc.chs p x k)) (fun _ i => 13 - (intOf i).toNat)
      case atStart => exact ⟨1, p, by omega, by omega, rfl, rfl, by omega, hide rfl⟩
      case round =>
        obtain ⟨k, r, hk1, hk, rfl, rfl, hr, HR⟩ := hrel
        by_cases hlt : k < 13
        · have hh := fun w => l7Check_any k w hk1 hlt
          have HI := hide (isC_eq k hk1)
          cases hc : Ecc.held k
          · rw [hc] at hh HI
            have HA := hide (Ecc.i64_and x k (by omega) (by omega))
            by_cases hz : x &&& k = 0
            · have hq : (bits BinOp.and IntKind.i64 (x : Int) (k : Int) != 0) = false := by rw [HA.out, hz]; rfl
              have HN : Hid (r = Ecc.chs p x (k + 1)) := hide (by rw [Ecc.chs_none p x k hz]; exact HR.out)
              clear hc hz
              go_wp2_with (go_at_call 38; refine (hh _).mono ?_; rintro e w' ⟨rfl, rfl⟩)
              go_round
              case rel => exact ⟨k + 1, r, by omega, by omega, by go_num, rfl, hr, HN⟩
              case measure => simp [intOf]; omega
            · have hq : (bits BinOp.and IntKind.i64 (x : Int) (k : Int) != 0) = true := by
                rw [HA.out]
                generalize x &&& k = z at hz
                simp; omega
              have HN : Hid (r + 2 ^ k = Ecc.chs p x (k + 1)) := hide (by rw [Ecc.chs_yes p x k HI.out hz, HR.out])
              have hrl : r + 2 ^ k < 16384 := by
                rw [HN.out]
                have h1 := HL.out (k + 1)
                have h2 : 2 ^ (k + 1) ≤ 2 ^ 13 := Nat.pow_le_pow_right (by decide) (by omega)
                omega
              have hpw := fun w => l7Pow_any k w (by omega)
              clear hc hz
              generalize 2 ^ k = u at hpw HN hrl
              go_wp2_with (first | (go_at_call 38; refine (hh _).mono ?_; rintro e w' ⟨rfl, rfl⟩) | (go_at_call 40; refine (hpw _).mono ?_; rintro e w' ⟨rfl, rfl⟩))
              go_round
              case rel => exact ⟨k + 1, r + u, by omega, by omega, by go_num, by go_num, hrl, HN⟩
              case measure => simp [intOf]; omega
          · rw [hc] at hh HI
            have HN : Hid (r = Ecc.chs p x (k + 1)) := hide (by rw [Ecc.chs_no p x k HI.out]; exact HR.out)
            clear hc
            go_wp2_with (go_at_call 38; refine (hh _).mono ?_; rintro e w' ⟨rfl, rfl⟩)
            go_round
            case rel => exact ⟨k + 1, r, by omega, by omega, by go_num, rfl, hr, HN⟩
            case measure => simp [intOf]; omega
        · have e : k = 13 := by omega
          subst e
          clear hk1 hk hlt
          have HS := hide (show r = Ecc.chs p x 13 from HR.out)
          rw [← HS.out] at HE
          have ho := fun w => l7Odd_any r w (by omega)
          cases hd : Ecc.odd r 13
          · rw [hd] at ho HE
            clear hd HR HS
            go_wp2_with (go_at_call 42; refine (ho _).mono ?_; rintro e w' ⟨rfl, rfl⟩)
            go_ret
            exact ⟨ret_i (congrArg Nat.cast HE.out.symm), rfl⟩
          · rw [hd] at ho HE
            clear hd HR HS
            go_wp2_with (go_at_call 42; refine (ho _).mono ?_; rintro e w' ⟨rfl, rfl⟩)
            go_ret
            refine ⟨ret_i ?_, rfl⟩
            rw [HE.out]; simp

end Go.Proofs.Ytbinjcmfbkhbjab
