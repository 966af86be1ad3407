/- impl: checked, byteIn, mended, EccRead, Flipped, EccOf -/
import Derived.Test.YtbinjcmfbkhbjabEcB
namespace Go.Proofs.Ytbinjcmfbkhbjab
open Go.RowKit

theorem pow_cases (j : Nat) (h : j < 4) : j = 0 ∨ j = 1 ∨ j = 2 ∨ j = 3 := by omega

set_option maxHeartbeats 2000000 in
theorem checked_any (n : Nat) (w : World) (hn : n < 8192) : Calls Try.prog 33 #[.int .i64 n] w fun e w' => e = .returned (.int .i64 (Ecc.chk n (Ecc.syn n 13) 4)) ∧ w' = w := by
  have hs := fun w => syn_any n w hn
  have hs16 : Ecc.syn n 13 < 16 := Ecc.syn_lt n 13 (by omega)
  generalize Ecc.syn n 13 = x at hs hs16
  have HC := hide (fun j => Ecc.chk_lt n x hn j)
  go_enter Try.func33, Try.ntmps33
  go_wp2_with (go_at_call 16; refine (hs _).mono ?_; rintro e w' ⟨rfl, rfl⟩)
  go_loop [0, 4] (fun s i => ∃ (j p : Nat), j ≤ 4 ∧ i = .int .i64 ((2 ^ j : Nat) : Int) ∧ s = .int .i64 p ∧ p < 8192 ∧ Hid (p = Ecc.chk n x j)) (fun _ i => 16 - (intOf i).toNat)
  case atStart => exact ⟨0, n, by omega, rfl, rfl, hn, hide rfl⟩
  case round =>
    obtain ⟨j, p, hj, rfl, rfl, hp, HP⟩ := hrel
    by_cases hlt : j < 4
    · have HA := hide (Ecc.i64_and x (2 ^ j) (by omega) (by rcases pow_cases j hlt with rfl | rfl | rfl | rfl <;> decide))
      have HK := hide hlt
      by_cases hb : x &&& 2 ^ j = 0
      · have HN := hide (Ecc.chk_no n x j hb)
        have hq : (bits BinOp.and IntKind.i64 (x : Int) ((2 ^ j : Nat) : Int) != 0) = false := by rw [HA.out, hb]; rfl
        clear hb
        rcases pow_cases j hlt with rfl | rfl | rfl | rfl
        all_goals simp at hq
        all_goals clear hlt hj
        all_goals go_wp2
        all_goals go_round
        case rel => exact ⟨1, p, by omega, rfl, rfl, hp, hide (HP.out.trans HN.out.symm)⟩
        case measure => simp [intOf]
        case rel => exact ⟨2, p, by omega, rfl, rfl, hp, hide (HP.out.trans HN.out.symm)⟩
        case measure => simp [intOf]
        case rel => exact ⟨3, p, by omega, rfl, rfl, hp, hide (HP.out.trans HN.out.symm)⟩
        case measure => simp [intOf]
        case rel => exact ⟨4, p, by omega, rfl, rfl, hp, hide (HP.out.trans HN.out.symm)⟩
        case measure => simp [intOf]
      · have HN := hide (Ecc.chk_yes n x j hb)
        have hq : (bits BinOp.and IntKind.i64 (x : Int) ((2 ^ j : Nat) : Int) != 0) = true := by
          rw [HA.out]
          generalize x &&& 2 ^ j = z at hb
          simp; omega
        clear hb
        have ht := fun w => turned_any p (2 ^ j) w hp (by rcases pow_cases j hlt with rfl | rfl | rfl | rfl <;> decide)
        have hf : Ecc.flp p (2 ^ j) < 8192 := Ecc.flp_lt p (2 ^ j) hp (by rcases pow_cases j hlt with rfl | rfl | rfl | rfl <;> decide)
        have HF : Hid (Ecc.flp p (2 ^ j) = Ecc.chk n x (j + 1)) := hide (by rw [HN.out, ← HP.out]; rfl)
        generalize Ecc.flp p (2 ^ j) = z at ht hf HF
        rcases pow_cases j hlt with rfl | rfl | rfl | rfl
        all_goals simp at hq ht
        all_goals clear hlt hj
        all_goals go_wp2_with (go_at_call 36; refine (ht _).mono ?_; rintro e w' ⟨rfl, rfl⟩)
        all_goals go_round
        case rel => exact ⟨1, z, by omega, rfl, rfl, hf, HF⟩
        case measure => simp [intOf]
        case rel => exact ⟨2, z, by omega, rfl, rfl, hf, HF⟩
        case measure => simp [intOf]
        case rel => exact ⟨3, z, by omega, rfl, rfl, hf, HF⟩
        case measure => simp [intOf]
        case rel => exact ⟨4, z, by omega, rfl, rfl, hf, HF⟩
        case measure => simp [intOf]
    · have e : j = 4 := by omega
      subst e
      clear hlt
      go_wp2
      go_ret
      exact ⟨ret_i (congrArg Nat.cast HP.out), rfl⟩

set_option maxHeartbeats 1000000 in
theorem byteIn_any (n : Nat) (w : World) (hn : n < 8192) : Calls Try.prog 45 #[.int .i64 n] w fun e w' => e = .returned (.int .i64 (Ecc.dat n 13)) ∧ w' = w := by
  have HB := hide (fun k w hk => bitAt_any n k w hn hk)
  go_enter Try.func45, Try.ntmps45
  go_wp2
  go_loop [3, 4, 6] (fun s x i => ∃ (k p q : Nat), k ≤ 13 ∧ i = .int .i64 k ∧ s = .int .i64 p ∧ x = .int .i64 q ∧ p < 256 ∧ q < 9 ∧ Hid (p = Ecc.dat n k) ∧ Hid (q = Ecc.ac k)) (fun _ _ i => 13 - (intOf i).toNat)
  case atStart => exact ⟨0, 0, 0, by omega, rfl, rfl, rfl, by omega, by omega, hide rfl, hide rfl⟩
  case round =>
    obtain ⟨k, p, q, hk, rfl, rfl, rfl, hp, hq, HP, HQ⟩ := hrel
    by_cases hlt : k < 13
    · have hh := fun w => isHeld_any k w hlt
      cases hc : Ecc.held k
      · rw [hc] at hh
        have HC := hide hc
        clear hc
        go_wp2_with (go_at_call 55; refine (hh _).mono ?_; rintro e w' ⟨rfl, rfl⟩)
        go_round
        case rel =>
          refine ⟨k + 1, p, q, by omega, by go_num, rfl, rfl, hp, hq, hide ?_, hide ?_⟩
          · rw [Ecc.dat_no n k HC.out]; exact HP.out
          · rw [Ecc.ac_no k HC.out]; exact HQ.out
        case measure => simp [intOf]; omega
      · rw [hc] at hh
        have HC := hide hc
        clear hc
        have hbt := fun w => HB.out k w hlt
        obtain ⟨t, ht⟩ : ∃ t, Ecc.bt n k = t := ⟨_, rfl⟩
        rw [ht] at hbt
        have ht2 : t < 2 := by rw [← ht]; exact Ecc.bt_lt n k
        have HT := hide ht
        have hq8 : q < 8 := by
          have h1 : Ecc.ac (k + 1) = q + 1 := by rw [Ecc.ac_yes k HC.out, HQ.out]
          have h2 : ∀ k : Fin 14, Ecc.ac k.val ≤ 8 := by decide +kernel
          have h3 := h2 ⟨k + 1, by omega⟩
          simp only at h3
          omega
        have hpk : 2 ^ q < 2 ^ 8 := Nat.pow_lt_pow_of_lt (by decide) hq8
        have htk : t * 2 ^ q < 256 := by
          have : t = 0 ∨ t = 1 := by omega
          rcases this with rfl | rfl <;> omega
        clear ht
        have hsh : wrap64 ((t : Int) * 2 ^ q) = ((t * 2 ^ q : Nat) : Int) := by
          have e : ((t : Int) * 2 ^ q) = ((t * 2 ^ q : Nat) : Int) := by simp
          rw [e]
          generalize t * 2 ^ q = z at htk
          unfold wrap64
          omega
        obtain ⟨z, hz⟩ : ∃ z, t * 2 ^ q = z := ⟨_, rfl⟩
        rw [hz] at hsh htk
        have HO := hide (Ecc.i64_or p z (by omega) (by omega))
        have HZ := hide hz
        have HS := hide hsh
        clear hz hpk hsh
        go_wp2_with (first | (go_at_call 55; refine (hh _).mono ?_; rintro e w' ⟨rfl, rfl⟩) | (go_at_call 49; refine (hbt _).mono ?_; rintro e w' ⟨rfl, rfl⟩))
        go_round
        case rel =>
          refine ⟨k + 1, p ||| z, q + 1, by omega, by go_num, ?_, by go_num, Nat.or_lt_two_pow (n := 8) hp htk, by omega, hide ?_, hide ?_⟩
          · rw [HS.out, HO.out]
          · rw [Ecc.dat_yes n k HC.out, ← HZ.out, HP.out, HT.out, HQ.out, Ecc.or_add _ _ _ (Ecc.dat_lt n k)]
          · rw [Ecc.ac_yes k HC.out, HQ.out]
        case measure => simp [intOf]; omega
    · have e : k = 13 := by omega
      subst e
      go_wp2
      go_ret
      exact ⟨ret_i (congrArg Nat.cast HP.out), rfl⟩

set_option maxHeartbeats 1000000 in
theorem mended_any (n x : Nat) (w : World) (hn : n < 8192) (hx : x < 16) : Calls Try.prog 44 #[.int .i64 n, .int .i64 x] w fun e w' => e = .returned (.tuple #[.int .i64 ((cond (Nat.ble 13 x) 0 (Ecc.dat (Ecc.flp n x) 13) : Nat) : Int), .int .i64 ((cond (Nat.ble 13 x) 2 1 : Nat) : Int)]) ∧ w' = w := by
  by_cases h : 13 ≤ x
  · have hb : Nat.ble 13 x = true := Nat.ble_eq.mpr h
    rw [hb]
    clear hb
    go_enter Try.func44, Try.ntmps44
    go_wp2
    go_ret2
    exact ⟨rfl, rfl⟩
  · have hb : Nat.ble 13 x = false := by
      cases hc : Nat.ble 13 x
      · rfl
      · exact absurd (Nat.ble_eq.mp hc) h
    rw [hb]
    clear hb
    have ht := fun w => turned_any n x w hn (by omega)
    have hf := Ecc.flp_lt n x hn (by omega)
    generalize Ecc.flp n x = y at ht hf
    have hd := fun w => byteIn_any y w hf
    show Calls _ _ _ _ fun e w' => e = .returned (.tuple #[.int .i64 (Ecc.dat y 13 : Nat), .int .i64 1]) ∧ w' = w
    generalize Ecc.dat y 13 = z at hd
    go_enter Try.func44, Try.ntmps44
    go_wp2_with (first | (go_at_call 36; refine (ht _).mono ?_; rintro e w' ⟨rfl, rfl⟩) | (go_at_call 45; refine (hd _).mono ?_; rintro e w' ⟨rfl, rfl⟩))
    go_ret2
    exact ⟨rfl, rfl⟩

set_option maxHeartbeats 1000000 in
theorem read_any (n : Nat) (w : World) (hn : n < 8192) : Calls Try.prog 13 #[.int .i64 n] w fun e w' => e = .returned (.tuple #[.int .i64 (Ecc.rdV n), .int .i64 (Ecc.rdC n)]) ∧ w' = w := by
  have hin : inR (n : Int) 8191 = true := inR_yes (by omega) (by omega)
  have hw := fun w => isWord_any (n : Int) w
  rw [hin] at hw
  clear hin
  have hs := fun w => syn_any n w hn
  have hs16 : Ecc.syn n 13 < 16 := Ecc.syn_lt n 13 (by omega)
  have ho := fun w => isOdd_any n w hn
  have hm := fun w => mended_any n (Ecc.syn n 13) w hn hs16
  have hd := fun w => byteIn_any n w hn
  unfold Ecc.rdV Ecc.rdC
  generalize Ecc.dat (Ecc.flp n (Ecc.syn n 13)) 13 = y at hm
  generalize Ecc.dat n 13 = d at hd
  generalize Ecc.syn n 13 = x at hs hs16 hm
  cases hc : Ecc.odd n 13
  · rw [hc] at ho
    clear hm hc
    by_cases hx : x = 0
    · subst hx
      show Calls _ _ _ _ fun e w' => e = .returned (.tuple #[.int .i64 (d : Nat), .int .i64 0]) ∧ w' = w
      go_enter Try.func13, Try.ntmps13
      go_wp2_with (first | (go_at_call 43; refine (hw _).mono ?_; rintro e w' ⟨rfl, rfl⟩) | (go_at_call 16; refine (hs _).mono ?_; rintro e w' ⟨rfl, rfl⟩) | (go_at_call 35; refine (ho _).mono ?_; rintro e w' ⟨rfl, rfl⟩) | (go_at_call 45; refine (hd _).mono ?_; rintro e w' ⟨rfl, rfl⟩))
      go_ret2
      exact ⟨rfl, rfl⟩
    · have hb : Nat.beq x 0 = false := by
        cases hc : Nat.beq x 0
        · rfl
        · exact absurd (Nat.eq_of_beq_eq_true hc) hx
      rw [hb]
      clear hb
      show Calls _ _ _ _ fun e w' => e = .returned (.tuple #[.int .i64 0, .int .i64 2]) ∧ w' = w
      have hq : ((x : Int) != 0) = true := by simp; omega
      go_enter Try.func13, Try.ntmps13
      go_wp2_with (first | (go_at_call 43; refine (hw _).mono ?_; rintro e w' ⟨rfl, rfl⟩) | (go_at_call 16; refine (hs _).mono ?_; rintro e w' ⟨rfl, rfl⟩) | (go_at_call 35; refine (ho _).mono ?_; rintro e w' ⟨rfl, rfl⟩))
      go_ret2
      exact ⟨rfl, rfl⟩
  · rw [hc] at ho
    clear hc hd
    show Calls _ _ _ _ fun e w' => e = .returned (.tuple #[.int .i64 ((cond (Nat.ble 13 x) 0 y : Nat) : Int), .int .i64 ((cond (Nat.ble 13 x) 2 1 : Nat) : Int)]) ∧ w' = w
    generalize (cond (Nat.ble 13 x) 0 y : Nat) = a at hm
    generalize (cond (Nat.ble 13 x) 2 1 : Nat) = c at hm
    go_enter Try.func13, Try.ntmps13
    go_wp2_with (first | (go_at_call 43; refine (hw _).mono ?_; rintro e w' ⟨rfl, rfl⟩) | (go_at_call 16; refine (hs _).mono ?_; rintro e w' ⟨rfl, rfl⟩) | (go_at_call 35; refine (ho _).mono ?_; rintro e w' ⟨rfl, rfl⟩) | (go_at_call 44; refine (hm _).mono ?_; rintro e w' ⟨rfl, rfl⟩))
    go_ret2
    exact ⟨rfl, rfl⟩

set_option maxHeartbeats 1000000 in
theorem read_none (n : Int) (w : World) (hn : ¬ (0 ≤ n ∧ n ≤ 8191)) : Calls Try.prog 13 #[.int .i64 n] w fun e w' => e = .returned (.tuple #[.int .i64 0, .int .i64 3]) ∧ w' = w := by
  have hw := fun w => isWord_any n w
  rw [inR_no hn] at hw
  clear hn
  go_enter Try.func13, Try.ntmps13
  go_wp2_with (go_at_call 43; refine (hw _).mono ?_; rintro e w' ⟨rfl, rfl⟩)
  go_ret2
  exact ⟨rfl, rfl⟩

set_option maxHeartbeats 1000000 in
theorem flipped_any (n k : Nat) (w : World) (hn : n < 8192) (hk : k < 13) : Calls Try.prog 17 #[.int .i64 n, .int .i64 k] w fun e w' => e = .returned (.tuple #[.int .i64 (Ecc.flp n k), .bool true]) ∧ w' = w := by
  have hin : inR (n : Int) 8191 = true := inR_yes (by omega) (by omega)
  have hw := fun w => isWord_any (n : Int) w
  rw [hin] at hw
  clear hin
  have ht := fun w => turned_any n k w hn hk
  generalize Ecc.flp n k = y at ht
  go_enter Try.func17, Try.ntmps17
  go_wp2_with (first | (go_at_call 43; refine (hw _).mono ?_; rintro e w' ⟨rfl, rfl⟩) | (go_at_call 36; refine (ht _).mono ?_; rintro e w' ⟨rfl, rfl⟩))
  go_ret2
  exact ⟨rfl, rfl⟩

set_option maxHeartbeats 1000000 in
theorem flipped_none (n k : Int) (w : World) (hn : ¬ ((0 ≤ n ∧ n ≤ 8191) ∧ 0 ≤ k ∧ k < 13)) : Calls Try.prog 17 #[.int .i64 n, .int .i64 k] w fun e w' => e = .returned (.tuple #[.int .i64 0, .bool false]) ∧ w' = w := by
  have hw := fun w => isWord_any n w
  by_cases h1 : 0 ≤ n ∧ n ≤ 8191
  · rw [inR_yes h1.1 h1.2] at hw
    have h2 : k < 0 ∨ 13 ≤ k := by omega
    clear hn h1
    rcases h2 with h2 | h2
    all_goals go_enter Try.func17, Try.ntmps17
    all_goals go_wp2_with (go_at_call 43; refine (hw _).mono ?_; rintro e w' ⟨rfl, rfl⟩)
    all_goals go_ret2
    all_goals exact ⟨rfl, rfl⟩
  · rw [inR_no h1] at hw
    clear hn h1
    go_enter Try.func17, Try.ntmps17
    go_wp2_with (go_at_call 43; refine (hw _).mono ?_; rintro e w' ⟨rfl, rfl⟩)
    go_ret2
    exact ⟨rfl, rfl⟩

set_option maxHeartbeats 1000000 in
theorem eccOf_any (b : Nat) (w : World) (hb : b < 256) : Calls Try.prog 11 #[.int .i64 b] w fun e w' => e = .returned (.int .i64 (Ecc.enc b)) ∧ w' = w := by
  have hin : inR (b : Int) 255 = true := inR_yes (by omega) (by omega)
  have hw := fun w => isByte_any (b : Int) w
  rw [hin] at hw
  clear hin
  rw [← (Ecc.enc_eq b hb).1]
  unfold Ecc.encI
  have hs := fun w => spread_any b w hb
  have hsl : Ecc.sw b 13 < 8192 := Ecc.sw_lt b 13
  generalize Ecc.sw b 13 = s at hs hsl
  have hc := fun w => checked_any s w hsl
  have hcl : Ecc.chk s (Ecc.syn s 13) 4 < 8192 := Ecc.chk_lt s _ hsl 4 (by omega)
  generalize Ecc.chk s (Ecc.syn s 13) 4 = c at hc hcl
  have ho := fun w => isOdd_any c w hcl
  have ht := fun w => turned_any c 0 w hcl (by omega)
  generalize Ecc.flp c 0 = y at ht
  cases hd : Ecc.odd c 13
  · rw [hd] at ho
    clear ht hd
    show Calls _ _ _ _ fun e w' => e = .returned (.int .i64 (c : Nat)) ∧ w' = w
    go_enter Try.func11, Try.ntmps11
    go_wp2_with (first | (go_at_call 32; refine (hw _).mono ?_; rintro e w' ⟨rfl, rfl⟩) | (go_at_call 34; refine (hs _).mono ?_; rintro e w' ⟨rfl, rfl⟩) | (go_at_call 33; refine (hc _).mono ?_; rintro e w' ⟨rfl, rfl⟩) | (go_at_call 35; refine (ho _).mono ?_; rintro e w' ⟨rfl, rfl⟩))
    go_ret
    exact ⟨rfl, rfl⟩
  · rw [hd] at ho
    clear hd
    show Calls _ _ _ _ fun e w' => e = .returned (.int .i64 (y : Nat)) ∧ w' = w
    go_enter Try.func11, Try.ntmps11
    go_wp2_with (first | (go_at_call 32; refine (hw _).mono ?_; rintro e w' ⟨rfl, rfl⟩) | (go_at_call 34; refine (hs _).mono ?_; rintro e w' ⟨rfl, rfl⟩) | (go_at_call 33; refine (hc _).mono ?_; rintro e w' ⟨rfl, rfl⟩) | (go_at_call 35; refine (ho _).mono ?_; rintro e w' ⟨rfl, rfl⟩) | (go_at_call 36; refine (ht _).mono ?_; rintro e w' ⟨rfl, rfl⟩))
    go_ret
    exact ⟨rfl, rfl⟩

set_option maxHeartbeats 1000000 in
theorem eccOf_none (b : Int) (w : World) (hb : ¬ (0 ≤ b ∧ b ≤ 255)) : Calls Try.prog 11 #[.int .i64 b] w fun e w' => e = .returned (.int .i64 (-1)) ∧ w' = w := by
  have hw := fun w => isByte_any b w
  rw [inR_no hb] at hw
  clear hb
  go_enter Try.func11, Try.ntmps11
  go_wp2_with (go_at_call 32; refine (hw _).mono ?_; rintro e w' ⟨rfl, rfl⟩)
  go_ret
  exact ⟨rfl, rfl⟩

end Go.Proofs.Ytbinjcmfbkhbjab
