/- slots: spec.SlotOk, toSlot, eqSlot -/
import Derived.Test.YtfckacabaajnkaaDoorSlA
namespace Go.Proofs.YtfckacabaajnkaaDoor
open Go.RowKit

set_option maxHeartbeats 1000000 in
theorem spSl_r0 (st d wt v : Int) (w : World)  (r0 : inB st 0 3 = false) : Calls Tryd.prog 64 #[.agg #[.int .i64 st, .int .i64 d, .int .i64 wt, .int .i64 v]] w fun e w' => e = .returned (.bool false) ∧ Below w.heap.size w w' := by
  go_enter Tryd.func64, Tryd.ntmps64
  go_wp2_with fail
  refine (in_any _ _ _ _).mono ?_
  rintro e w1 ⟨rfl, rfl⟩
  rw [r0]
  go_wp2
  go_ret
  exact ⟨rfl, (Below.refl _ _).alloc (Nat.le_refl _) _⟩

set_option maxHeartbeats 1000000 in
theorem spSl_r1 (st d wt v : Int) (w : World) (r0 : inB st 0 3 = true) (r1 : inB d 0 1000000 = false) : Calls Tryd.prog 64 #[.agg #[.int .i64 st, .int .i64 d, .int .i64 wt, .int .i64 v]] w fun e w' => e = .returned (.bool false) ∧ Below w.heap.size w w' := by
  go_enter Tryd.func64, Tryd.ntmps64
  go_wp2_with fail
  refine (in_any _ _ _ _).mono ?_
  rintro e w1 ⟨rfl, rfl⟩
  rw [r0]
  go_wp2_with fail
  refine (in_any _ _ _ _).mono ?_
  rintro e w2 ⟨rfl, rfl⟩
  rw [r1]
  go_wp2
  go_ret
  exact ⟨rfl, (Below.refl _ _).alloc (Nat.le_refl _) _⟩

set_option maxHeartbeats 1000000 in
theorem spSl_r2 (st d wt v : Int) (w : World) (r0 : inB st 0 3 = true) (r1 : inB d 0 1000000 = true) (r2 : inB wt 0 2 = false) : Calls Tryd.prog 64 #[.agg #[.int .i64 st, .int .i64 d, .int .i64 wt, .int .i64 v]] w fun e w' => e = .returned (.bool false) ∧ Below w.heap.size w w' := by
  go_enter Tryd.func64, Tryd.ntmps64
  go_wp2_with fail
  refine (in_any _ _ _ _).mono ?_
  rintro e w1 ⟨rfl, rfl⟩
  rw [r0]
  go_wp2_with fail
  refine (in_any _ _ _ _).mono ?_
  rintro e w2 ⟨rfl, rfl⟩
  rw [r1]
  go_wp2_with fail
  refine (in_any _ _ _ _).mono ?_
  rintro e w3 ⟨rfl, rfl⟩
  rw [r2]
  go_wp2
  go_ret
  exact ⟨rfl, (Below.refl _ _).alloc (Nat.le_refl _) _⟩

set_option maxHeartbeats 1000000 in
theorem spSl_r3 (st d wt v : Int) (w : World) (r0 : inB st 0 3 = true) (r1 : inB d 0 1000000 = true) (r2 : inB wt 0 2 = true) (r3 : inB v 0 1000000 = false) : Calls Tryd.prog 64 #[.agg #[.int .i64 st, .int .i64 d, .int .i64 wt, .int .i64 v]] w fun e w' => e = .returned (.bool false) ∧ Below w.heap.size w w' := by
  go_enter Tryd.func64, Tryd.ntmps64
  go_wp2_with fail
  refine (in_any _ _ _ _).mono ?_
  rintro e w1 ⟨rfl, rfl⟩
  rw [r0]
  go_wp2_with fail
  refine (in_any _ _ _ _).mono ?_
  rintro e w2 ⟨rfl, rfl⟩
  rw [r1]
  go_wp2_with fail
  refine (in_any _ _ _ _).mono ?_
  rintro e w3 ⟨rfl, rfl⟩
  rw [r2]
  go_wp2_with fail
  refine (in_any _ _ _ _).mono ?_
  rintro e w4 ⟨rfl, rfl⟩
  rw [r3]
  go_wp2
  go_ret
  exact ⟨rfl, (Below.refl _ _).alloc (Nat.le_refl _) _⟩

set_option maxHeartbeats 1000000 in
theorem spSl_a (st d wt v : Int) (w : World) (r0 : inB st 0 3 = true) (r1 : inB d 0 1000000 = true) (r2 : inB wt 0 2 = true) (r3 : inB v 0 1000000 = true) (hs : st = 0) (hd : ¬ d = 0) : Calls Tryd.prog 64 #[.agg #[.int .i64 st, .int .i64 d, .int .i64 wt, .int .i64 v]] w fun e w' => e = .returned (.bool false) ∧ Below w.heap.size w w' := by
  subst hs
  have nhd : (d != 0) = true := by simp [hd]
  have ehd : (d == 0) = false := by simp [hd]
  go_enter Tryd.func64, Tryd.ntmps64
  go_wp2_with fail
  refine (in_any _ _ _ _).mono ?_
  rintro e w1 ⟨rfl, rfl⟩
  rw [r0]
  go_wp2_with fail
  refine (in_any _ _ _ _).mono ?_
  rintro e w2 ⟨rfl, rfl⟩
  rw [r1]
  go_wp2_with fail
  refine (in_any _ _ _ _).mono ?_
  rintro e w3 ⟨rfl, rfl⟩
  rw [r2]
  go_wp2_with fail
  refine (in_any _ _ _ _).mono ?_
  rintro e w4 ⟨rfl, rfl⟩
  rw [r3]
  go_wp2
  go_ret
  exact ⟨rfl, (Below.refl _ _).alloc (Nat.le_refl _) _⟩

set_option maxHeartbeats 1000000 in
theorem spSl_bz (st d wt v : Int) (w : World) (r0 : inB st 0 3 = true) (r1 : inB d 0 1000000 = true) (r2 : inB wt 0 2 = true) (r3 : inB v 0 1000000 = true) (hs : st = 0) (hd : d = 0) (hw : ¬ wt = 2) (hv : ¬ v = 0) : Calls Tryd.prog 64 #[.agg #[.int .i64 st, .int .i64 d, .int .i64 wt, .int .i64 v]] w fun e w' => e = .returned (.bool false) ∧ Below w.heap.size w w' := by
  subst hs hd
  have nhw : (wt != 2) = true := by simp [hw]
  have ehw : (wt == 2) = false := by simp [hw]
  have nhv : (v != 0) = true := by simp [hv]
  have ehv : (v == 0) = false := by simp [hv]
  go_enter Tryd.func64, Tryd.ntmps64
  go_wp2_with fail
  refine (in_any _ _ _ _).mono ?_
  rintro e w1 ⟨rfl, rfl⟩
  rw [r0]
  go_wp2_with fail
  refine (in_any _ _ _ _).mono ?_
  rintro e w2 ⟨rfl, rfl⟩
  rw [r1]
  go_wp2_with fail
  refine (in_any _ _ _ _).mono ?_
  rintro e w3 ⟨rfl, rfl⟩
  rw [r2]
  go_wp2_with fail
  refine (in_any _ _ _ _).mono ?_
  rintro e w4 ⟨rfl, rfl⟩
  rw [r3]
  go_wp2
  go_ret
  exact ⟨rfl, (Below.refl _ _).alloc (Nat.le_refl _) _⟩

set_option maxHeartbeats 1000000 in
theorem spSl_cz (st d wt v : Int) (w : World) (r0 : inB st 0 3 = true) (r1 : inB d 0 1000000 = true) (r2 : inB wt 0 2 = true) (r3 : inB v 0 1000000 = true) (hs : st = 0) (hd : d = 0) (hw : wt = 1) (hv : v = 0) : Calls Tryd.prog 64 #[.agg #[.int .i64 st, .int .i64 d, .int .i64 wt, .int .i64 v]] w fun e w' => e = .returned (.bool (st == 0)) ∧ Below w.heap.size w w' := by
  subst hs hd hw hv
  go_enter Tryd.func64, Tryd.ntmps64
  go_wp2_with fail
  refine (in_any _ _ _ _).mono ?_
  rintro e w1 ⟨rfl, rfl⟩
  rw [r0]
  go_wp2_with fail
  refine (in_any _ _ _ _).mono ?_
  rintro e w2 ⟨rfl, rfl⟩
  rw [r1]
  go_wp2_with fail
  refine (in_any _ _ _ _).mono ?_
  rintro e w3 ⟨rfl, rfl⟩
  rw [r2]
  go_wp2_with fail
  refine (in_any _ _ _ _).mono ?_
  rintro e w4 ⟨rfl, rfl⟩
  rw [r3]
  go_wp2
  go_ret
  exact ⟨rfl, (Below.refl _ _).alloc (Nat.le_refl _) _⟩

set_option maxHeartbeats 1000000 in
theorem spSl_ez (st d wt v : Int) (w : World) (r0 : inB st 0 3 = true) (r1 : inB d 0 1000000 = true) (r2 : inB wt 0 2 = true) (r3 : inB v 0 1000000 = true) (hs : st = 0) (hd : d = 0) (hw : ¬ wt = 2) (hw1 : ¬ wt = 1) (hv : v = 0) : Calls Tryd.prog 64 #[.agg #[.int .i64 st, .int .i64 d, .int .i64 wt, .int .i64 v]] w fun e w' => e = .returned (.bool true) ∧ Below w.heap.size w w' := by
  subst hs hd hv
  have nhw : (wt != 2) = true := by simp [hw]
  have ehw : (wt == 2) = false := by simp [hw]
  have nhw1 : (wt != 1) = true := by simp [hw1]
  have ehw1 : (wt == 1) = false := by simp [hw1]
  go_enter Tryd.func64, Tryd.ntmps64
  go_wp2_with fail
  refine (in_any _ _ _ _).mono ?_
  rintro e w1 ⟨rfl, rfl⟩
  rw [r0]
  go_wp2_with fail
  refine (in_any _ _ _ _).mono ?_
  rintro e w2 ⟨rfl, rfl⟩
  rw [r1]
  go_wp2_with fail
  refine (in_any _ _ _ _).mono ?_
  rintro e w3 ⟨rfl, rfl⟩
  rw [r2]
  go_wp2_with fail
  refine (in_any _ _ _ _).mono ?_
  rintro e w4 ⟨rfl, rfl⟩
  rw [r3]
  go_wp2
  go_ret
  exact ⟨rfl, (Below.refl _ _).alloc (Nat.le_refl _) _⟩

set_option maxHeartbeats 1000000 in
theorem spSl_bn (st d wt v : Int) (w : World) (r0 : inB st 0 3 = true) (r1 : inB d 0 1000000 = true) (r2 : inB wt 0 2 = true) (r3 : inB v 0 1000000 = true) (hs : ¬ st = 0) (hw : ¬ wt = 2) (hv : ¬ v = 0) : Calls Tryd.prog 64 #[.agg #[.int .i64 st, .int .i64 d, .int .i64 wt, .int .i64 v]] w fun e w' => e = .returned (.bool false) ∧ Below w.heap.size w w' := by
  have nhs : (st != 0) = true := by simp [hs]
  have ehs : (st == 0) = false := by simp [hs]
  have nhw : (wt != 2) = true := by simp [hw]
  have ehw : (wt == 2) = false := by simp [hw]
  have nhv : (v != 0) = true := by simp [hv]
  have ehv : (v == 0) = false := by simp [hv]
  go_enter Tryd.func64, Tryd.ntmps64
  go_wp2_with fail
  refine (in_any _ _ _ _).mono ?_
  rintro e w1 ⟨rfl, rfl⟩
  rw [r0]
  go_wp2_with fail
  refine (in_any _ _ _ _).mono ?_
  rintro e w2 ⟨rfl, rfl⟩
  rw [r1]
  go_wp2_with fail
  refine (in_any _ _ _ _).mono ?_
  rintro e w3 ⟨rfl, rfl⟩
  rw [r2]
  go_wp2_with fail
  refine (in_any _ _ _ _).mono ?_
  rintro e w4 ⟨rfl, rfl⟩
  rw [r3]
  go_wp2
  go_ret
  exact ⟨rfl, (Below.refl _ _).alloc (Nat.le_refl _) _⟩

set_option maxHeartbeats 1000000 in
theorem spSl_cn (st d wt v : Int) (w : World) (r0 : inB st 0 3 = true) (r1 : inB d 0 1000000 = true) (r2 : inB wt 0 2 = true) (r3 : inB v 0 1000000 = true) (hs : ¬ st = 0) (hw : wt = 1) (hv : v = 0) : Calls Tryd.prog 64 #[.agg #[.int .i64 st, .int .i64 d, .int .i64 wt, .int .i64 v]] w fun e w' => e = .returned (.bool false) ∧ Below w.heap.size w w' := by
  subst hw hv
  have nhs : (st != 0) = true := by simp [hs]
  have ehs : (st == 0) = false := by simp [hs]
  go_enter Tryd.func64, Tryd.ntmps64
  go_wp2_with fail
  refine (in_any _ _ _ _).mono ?_
  rintro e w1 ⟨rfl, rfl⟩
  rw [r0]
  go_wp2_with fail
  refine (in_any _ _ _ _).mono ?_
  rintro e w2 ⟨rfl, rfl⟩
  rw [r1]
  go_wp2_with fail
  refine (in_any _ _ _ _).mono ?_
  rintro e w3 ⟨rfl, rfl⟩
  rw [r2]
  go_wp2_with fail
  refine (in_any _ _ _ _).mono ?_
  rintro e w4 ⟨rfl, rfl⟩
  rw [r3]
  go_wp2
  go_ret
  exact ⟨rfl, (Below.refl _ _).alloc (Nat.le_refl _) _⟩

set_option maxHeartbeats 1000000 in
theorem spSl_en (st d wt v : Int) (w : World) (r0 : inB st 0 3 = true) (r1 : inB d 0 1000000 = true) (r2 : inB wt 0 2 = true) (r3 : inB v 0 1000000 = true) (hs : ¬ st = 0) (hw : ¬ wt = 2) (hw1 : ¬ wt = 1) (hv : v = 0) : Calls Tryd.prog 64 #[.agg #[.int .i64 st, .int .i64 d, .int .i64 wt, .int .i64 v]] w fun e w' => e = .returned (.bool true) ∧ Below w.heap.size w w' := by
  subst hv
  have nhs : (st != 0) = true := by simp [hs]
  have ehs : (st == 0) = false := by simp [hs]
  have nhw : (wt != 2) = true := by simp [hw]
  have ehw : (wt == 2) = false := by simp [hw]
  have nhw1 : (wt != 1) = true := by simp [hw1]
  have ehw1 : (wt == 1) = false := by simp [hw1]
  go_enter Tryd.func64, Tryd.ntmps64
  go_wp2_with fail
  refine (in_any _ _ _ _).mono ?_
  rintro e w1 ⟨rfl, rfl⟩
  rw [r0]
  go_wp2_with fail
  refine (in_any _ _ _ _).mono ?_
  rintro e w2 ⟨rfl, rfl⟩
  rw [r1]
  go_wp2_with fail
  refine (in_any _ _ _ _).mono ?_
  rintro e w3 ⟨rfl, rfl⟩
  rw [r2]
  go_wp2_with fail
  refine (in_any _ _ _ _).mono ?_
  rintro e w4 ⟨rfl, rfl⟩
  rw [r3]
  go_wp2
  go_ret
  exact ⟨rfl, (Below.refl _ _).alloc (Nat.le_refl _) _⟩

set_option maxHeartbeats 1000000 in
theorem spSl_dz (st d wt v : Int) (w : World) (r0 : inB st 0 3 = true) (r1 : inB d 0 1000000 = true) (r2 : inB wt 0 2 = true) (r3 : inB v 0 1000000 = true) (hs : st = 0) (hd : d = 0) (hw : wt = 2) : Calls Tryd.prog 64 #[.agg #[.int .i64 st, .int .i64 d, .int .i64 wt, .int .i64 v]] w fun e w' => e = .returned (.bool true) ∧ Below w.heap.size w w' := by
  subst hs hd hw
  go_enter Tryd.func64, Tryd.ntmps64
  go_wp2_with fail
  refine (in_any _ _ _ _).mono ?_
  rintro e w1 ⟨rfl, rfl⟩
  rw [r0]
  go_wp2_with fail
  refine (in_any _ _ _ _).mono ?_
  rintro e w2 ⟨rfl, rfl⟩
  rw [r1]
  go_wp2_with fail
  refine (in_any _ _ _ _).mono ?_
  rintro e w3 ⟨rfl, rfl⟩
  rw [r2]
  go_wp2_with fail
  refine (in_any _ _ _ _).mono ?_
  rintro e w4 ⟨rfl, rfl⟩
  rw [r3]
  go_wp2
  go_ret
  exact ⟨rfl, (Below.refl _ _).alloc (Nat.le_refl _) _⟩

set_option maxHeartbeats 1000000 in
theorem spSl_dn (st d wt v : Int) (w : World) (r0 : inB st 0 3 = true) (r1 : inB d 0 1000000 = true) (r2 : inB wt 0 2 = true) (r3 : inB v 0 1000000 = true) (hs : ¬ st = 0) (hw : wt = 2) : Calls Tryd.prog 64 #[.agg #[.int .i64 st, .int .i64 d, .int .i64 wt, .int .i64 v]] w fun e w' => e = .returned (.bool (st == 1)) ∧ Below w.heap.size w w' := by
  subst hw
  have nhs : (st != 0) = true := by simp [hs]
  have ehs : (st == 0) = false := by simp [hs]
  go_enter Tryd.func64, Tryd.ntmps64
  go_wp2_with fail
  refine (in_any _ _ _ _).mono ?_
  rintro e w1 ⟨rfl, rfl⟩
  rw [r0]
  go_wp2_with fail
  refine (in_any _ _ _ _).mono ?_
  rintro e w2 ⟨rfl, rfl⟩
  rw [r1]
  go_wp2_with fail
  refine (in_any _ _ _ _).mono ?_
  rintro e w3 ⟨rfl, rfl⟩
  rw [r2]
  go_wp2_with fail
  refine (in_any _ _ _ _).mono ?_
  rintro e w4 ⟨rfl, rfl⟩
  rw [r3]
  go_wp2
  go_ret
  exact ⟨rfl, (Below.refl _ _).alloc (Nat.le_refl _) _⟩


theorem spec_no {st d wt v : Int} (h : slB st d wt v = true) : inB st 0 3 = true ∧ inB d 0 1000000 = true ∧ inB wt 0 2 = true ∧ inB v 0 1000000 = true := by
  obtain ⟨h0, hc⟩ := slB_cases h
  simp only [inB_iff]
  omega

theorem specSlotOk_any (st d wt v : Int) (w : World) : Calls Tryd.prog 64 #[.agg #[.int .i64 st, .int .i64 d, .int .i64 wt, .int .i64 v]] w fun e w' => e = .returned (.bool (slB st d wt v)) ∧ Below w.heap.size w w' := by
  cases r0 : inB st 0 3 with
  | false => rw [slB_not (fun h => by rw [(spec_no h).1] at r0; cases r0)]; exact spSl_r0 st d wt v w r0
  | true =>
  cases r1 : inB d 0 1000000 with
  | false => rw [slB_not (fun h => by rw [(spec_no h).2.1] at r1; cases r1)]; exact spSl_r1 st d wt v w r0 r1
  | true =>
  cases r2 : inB wt 0 2 with
  | false => rw [slB_not (fun h => by rw [(spec_no h).2.2.1] at r2; cases r2)]; exact spSl_r2 st d wt v w r0 r1 r2
  | true =>
  cases r3 : inB v 0 1000000 with
  | false => rw [slB_not (fun h => by rw [(spec_no h).2.2.2] at r3; cases r3)]; exact spSl_r3 st d wt v w r0 r1 r2 r3
  | true =>
  have q0 := inB_iff.1 r0
  have q1 := inB_iff.1 r1
  have q2 := inB_iff.1 r2
  have q3 := inB_iff.1 r3
  by_cases hs : st = 0
  · by_cases hd : d = 0
    · by_cases hw : wt = 2
      · rw [slB_of (by omega) (by omega)]; exact spSl_dz st d wt v w r0 r1 r2 r3 hs hd hw
      · by_cases hv : v = 0
        · by_cases hw1 : wt = 1
          · rw [show slB st d wt v = (st == 0) by rw [slB_of (by omega) (by omega), hs]; rfl]; exact spSl_cz st d wt v w r0 r1 r2 r3 hs hd hw1 hv
          · rw [slB_of (by omega) (by omega)]; exact spSl_ez st d wt v w r0 r1 r2 r3 hs hd hw hw1 hv
        · rw [slB_not (fun h => by have := slB_cases h; omega)]; exact spSl_bz st d wt v w r0 r1 r2 r3 hs hd hw hv
    · rw [slB_not (fun h => by have := slB_cases h; omega)]; exact spSl_a st d wt v w r0 r1 r2 r3 hs hd
  · have hh : hasB st d = true := hasB_iff.2 (by omega)
    by_cases hw : wt = 2
    · rw [show slB st d wt v = (st == 1) by rw [slB, hh, Bool.true_and, wishB, if_neg (by omega), if_neg (by omega), if_pos hw, r3, Bool.true_and, show (st == 0) = false by simp [hs], Bool.false_or]]; exact spSl_dn st d wt v w r0 r1 r2 r3 hs hw
    · by_cases hv : v = 0
      · by_cases hw1 : wt = 1
        · rw [slB_not (fun h => by have := slB_cases h; omega)]; exact spSl_cn st d wt v w r0 r1 r2 r3 hs hw1 hv
        · rw [show slB st d wt v = true by rw [slB, hh, Bool.true_and, wishB, if_pos (by omega), hv]; rfl]; exact spSl_en st d wt v w r0 r1 r2 r3 hs hw hw1 hv
      · rw [slB_not (fun h => by have := slB_cases h; omega)]; exact spSl_bn st d wt v w r0 r1 r2 r3 hs hw hv

set_option maxHeartbeats 1000000 in
theorem toSlot_any (st d wt v : Int) (w : World) : Calls Tryd.prog 74 #[.agg #[.int .i64 st, .int .i64 d, .int .i64 wt, .int .i64 v]] w fun e w' => e = .returned (.agg #[.int .i64 st, .int .i64 d, .int .i64 wt, .int .i64 v]) ∧ Below w.heap.size w w' := by
  go_enter Tryd.func74, Tryd.ntmps74
  go_wp2
  refine bodyPost_ret (v := .agg #[.int .i64 st, .int .i64 d, .int .i64 wt, .int .i64 v]) (by simp [results, Tryd.results74, go_sem]) rfl ⟨rfl, ?_⟩
  exact (((Below.refl _ _).alloc (Nat.le_refl _) _).alloc (by simp) _).alloc (by simp; omega) _

set_option maxHeartbeats 1000000 in
theorem eqSlot_same (st d wt v : Int) (w : World) : Calls Tryd.prog 77 #[.agg #[.int .i64 st, .int .i64 d, .int .i64 wt, .int .i64 v], .agg #[.int .i64 st, .int .i64 d, .int .i64 wt, .int .i64 v]] w fun e w' => e = .returned (.bool true) ∧ Below w.heap.size w w' := by
  go_enter Tryd.func77, Tryd.ntmps77
  go_wp2
  go_ret
  exact ⟨rfl, ((Below.refl _ _).alloc (Nat.le_refl _) _).alloc (by simp) _⟩

end Go.Proofs.YtfckacabaajnkaaDoor
