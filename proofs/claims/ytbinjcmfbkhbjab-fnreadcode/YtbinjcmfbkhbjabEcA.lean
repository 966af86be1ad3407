/- impl: bitAt, turned, isHeld, isWord, isByte, OnesCount64, isOdd -/
import Derived.Test.YtbinjcmfbkhbjabView
import Derived.Test.YtbinjcmfbkhbjabChecked
import Derived.Test.YtbinjcmfbkhbjabEcM
namespace Go.Proofs.Ytbinjcmfbkhbjab
open Go.RowKit

theorem ret_i {a b : Int} (h : a = b) : Ending.returned (.int .i64 a) = .returned (.int .i64 b) := by rw [h]
theorem ret_b {a b : Bool} (h : a = b) : Ending.returned (.bool a) = .returned (.bool b) := by rw [h]
theorem ret_ii {a b c d : Int} (h : a = b) (k : c = d) : Ending.returned (.tuple #[.int .i64 a, .int .i64 c]) = .returned (.tuple #[.int .i64 b, .int .i64 d]) := by rw [h, k]
theorem ret_ib {a b : Int} {c d : Bool} (h : a = b) (k : c = d) : Ending.returned (.tuple #[.int .i64 a, .bool c]) = .returned (.tuple #[.int .i64 b, .bool d]) := by rw [h, k]

def inR (n hi : Int) : Bool := decide (0 ≤ n ∧ n ≤ hi)
theorem inR_yes {n hi : Int} (h0 : 0 ≤ n) (h : n ≤ hi) : inR n hi = true := by simp [inR, h0, h]
theorem inR_no {n hi : Int} (h : ¬ (0 ≤ n ∧ n ≤ hi)) : inR n hi = false := by simp only [inR]; exact decide_eq_false h

set_option maxHeartbeats 400000 in
theorem isWord_any (n : Int) (w : World) : Calls Try.prog 43 #[.int .i64 n] w fun e w' => e = .returned (.bool (inR n 8191)) ∧ w' = w := by
  by_cases h0 : 0 ≤ n
  · by_cases h1 : n ≤ 8191
    · have HH := hide (inR_yes h0 h1)
      go_enter Try.func43, Try.ntmps43
      go_wp2
      go_ret
      exact ⟨ret_b HH.out.symm, rfl⟩
    · have HH := hide (inR_no (n := n) (hi := 8191) (by omega))
      go_enter Try.func43, Try.ntmps43
      go_wp2
      go_ret
      exact ⟨ret_b HH.out.symm, rfl⟩
  · have HH := hide (inR_no (n := n) (hi := 8191) (by omega))
    go_enter Try.func43, Try.ntmps43
    go_wp2
    go_ret
    exact ⟨ret_b HH.out.symm, rfl⟩

set_option maxHeartbeats 400000 in
theorem isByte_any (n : Int) (w : World) : Calls Try.prog 32 #[.int .i64 n] w fun e w' => e = .returned (.bool (inR n 255)) ∧ w' = w := by
  by_cases h0 : 0 ≤ n
  · by_cases h1 : n ≤ 255
    · have HH := hide (inR_yes h0 h1)
      go_enter Try.func32, Try.ntmps32
      go_wp2
      go_ret
      exact ⟨ret_b HH.out.symm, rfl⟩
    · have HH := hide (inR_no (n := n) (hi := 255) (by omega))
      go_enter Try.func32, Try.ntmps32
      go_wp2
      go_ret
      exact ⟨ret_b HH.out.symm, rfl⟩
  · have HH := hide (inR_no (n := n) (hi := 255) (by omega))
    go_enter Try.func32, Try.ntmps32
    go_wp2
    go_ret
    exact ⟨ret_b HH.out.symm, rfl⟩

set_option maxHeartbeats 400000 in
theorem bitAt_any (n k : Nat) (w : World) (hn : n < 8192) (hk : k < 13) : Calls Try.prog 49 #[.int .i64 n, .int .i64 k] w fun e w' => e = .returned (.int .i64 (Ecc.bt n k)) ∧ w' = w := by
  go_enter Try.func49, Try.ntmps49
  go_wp2
  go_ret
  refine ⟨ret_i ?_, rfl⟩
  have e : ((n : Int) / 2 ^ k) = ((n / 2 ^ k : Nat) : Int) := by simp
  rw [e, Ecc.i64_and1 _ (by have := Nat.div_le_self n (2 ^ k); omega)]
  rfl

set_option maxHeartbeats 400000 in
theorem turned_any (n k : Nat) (w : World) (hn : n < 8192) (hk : k < 13) : Calls Try.prog 36 #[.int .i64 n, .int .i64 k] w fun e w' => e = .returned (.int .i64 (Ecc.flp n k)) ∧ w' = w := by
  go_enter Try.func36, Try.ntmps36
  go_wp2
  go_ret
  refine ⟨ret_i ?_, rfl⟩
  have h1 : 2 ^ k < 2 ^ 13 := Nat.pow_lt_pow_of_lt (by decide) hk
  rw [Ecc.wrap_pow k (by omega), Ecc.i64_xor _ _ (by omega) (by omega)]
  rfl

set_option maxHeartbeats 400000 in
theorem isHeld_any (k : Nat) (w : World) (hk : k < 13) : Calls Try.prog 55 #[.int .i64 k] w fun e w' => e = .returned (.bool (Ecc.held k)) ∧ w' = w := by
  go_enter Try.func55, Try.ntmps55
  go_wp2
  go_ret
  refine ⟨ret_b ?_, rfl⟩
  exact Ecc.held_int ⟨k, hk⟩

set_option maxHeartbeats 1000000 in
theorem ones_any (n : Nat) (w : World) (hn : n < 8192) : Calls Try.prog 56 #[.int .u64 n] w fun e w' => e = .returned (.int .i64 (Ecc.popN n)) ∧ w' = w := by
  go_enter Try.func56, Try.ntmps56
  go_wp2
  go_ret
  refine ⟨ret_i ?_, rfl⟩
  obtain ⟨e1, b1⟩ := Ecc.pA_int n (by omega)
  obtain ⟨e2, b2⟩ := Ecc.pB_int _ b1
  obtain ⟨e3, b3⟩ := Ecc.pC_int _ b2
  obtain ⟨e4, b4⟩ := Ecc.pD_int _ b3
  obtain ⟨e5, b5⟩ := Ecc.pE_int _ b4
  obtain ⟨e6, b6⟩ := Ecc.pF_int _ b5
  rw [e1, e2, e3, e4, e5, e6]
  have e8 : Ecc.popN n = Nat.land (Ecc.pF (Ecc.pE (Ecc.pD (Ecc.pC (Ecc.pB (Ecc.pA n)))))) 127 := rfl
  rw [e8]
  clear e1 e2 e3 e4 e5 e6 e8 b1 b2 b3 b4 b5
  generalize Ecc.pF (Ecc.pE (Ecc.pD (Ecc.pC (Ecc.pB (Ecc.pA n))))) = q at b6
  have e7 : wrap64 (q : Int) = (q : Int) := by unfold wrap64; omega
  rw [e7]
  exact Ecc.i64_and q 127 (by omega) (by omega)

set_option maxHeartbeats 1000000 in
theorem isOdd_any (n : Nat) (w : World) (hn : n < 8192) : Calls Try.prog 35 #[.int .i64 n] w fun e w' => e = .returned (.bool (Ecc.odd n 13)) ∧ w' = w := by
  have hp := Ecc.pop_le n
  have HO := hide (Ecc.pop_odd n hn)
  have ho := fun w => ones_any n w hn
  generalize Ecc.popN n = p at hp HO ho
  go_enter Try.func35, Try.ntmps35
  go_wp2_with (go_at_call 56; refine (ho _).mono ?_; rintro e w' ⟨rfl, rfl⟩)
  go_ret
  refine ⟨ret_b ?_, rfl⟩
  rw [← HO.out]
  by_cases h : p % 2 = 1
  · have h2 : ((p : Int) % 2 == 1) = true := by simp; omega
    rw [h2, decide_eq_true h]
  · have h2 : ((p : Int) % 2 == 1) = false := by simp; omega
    rw [h2, decide_eq_false h]

end Go.Proofs.Ytbinjcmfbkhbjab
