/- readWords, ReadCode -/
import Derived.Test.YtbinjcmfbkhbjabEcL
namespace Go.Proofs.Ytbinjcmfbkhbjab
open Go.RowKit
set_option linter.unusedVariables false

namespace Ecc
def rV (z : Int) : Nat := if 0 ≤ z ∧ z ≤ 8191 then rdV z.toNat else 0
def rC (z : Int) : Nat := if 0 ≤ z ∧ z ≤ 8191 then rdC z.toNat else 3
theorem rdV_lt (w : Nat) : rdV w < 256 := by
  unfold rdV
  cases odd w 13
  · cases Nat.beq (syn w 13) 0
    · show 0 < 256; omega
    · exact dat_small w 13 (by omega)
  · cases Nat.ble 13 (syn w 13)
    · exact dat_small _ 13 (by omega)
    · show 0 < 256; omega
theorem rdC_le (w : Nat) : rdC w ≤ 3 := by
  unfold rdC
  cases odd w 13
  · cases Nat.beq (syn w 13) 0
    · show 2 ≤ 3; omega
    · show 0 ≤ 3; omega
  · cases Nat.ble 13 (syn w 13)
    · show 1 ≤ 3; omega
    · show 2 ≤ 3; omega
theorem rV_lt (z : Int) : rV z < 256 := by
  unfold rV; split
  · exact rdV_lt _
  · omega
theorem rC_le (z : Int) : rC z ≤ 3 := by
  unfold rC; split
  · exact rdC_le _
  · omega
def tk (zs : List Int) : Nat → Nat
  | 0 => 0
  | k + 1 => tk zs k + rV (zs.getD k 0) * 2 ^ (8 * k)
def mk (zs : List Int) : Nat → Nat
  | 0 => 0
  | k + 1 => max (mk zs k) (rC (zs.getD k 0))
theorem tk_lt (zs : List Int) : ∀ k, tk zs k < 2 ^ (8 * k)
  | 0 => by show 0 < 1; omega
  | k + 1 => by
    have h := tk_lt zs k
    have h2 := rV_lt (zs.getD k 0)
    show tk zs k + rV (zs.getD k 0) * 2 ^ (8 * k) < 2 ^ (8 * k + 8)
    rw [Nat.pow_add]
    generalize 2 ^ (8 * k) = p at h
    generalize rV (zs.getD k 0) = v at h2
    have : v * p ≤ 255 * p := Nat.mul_le_mul_right p (by omega)
    omega
theorem mk_le (zs : List Int) : ∀ k, mk zs k ≤ 3
  | 0 => by show 0 ≤ 3; omega
  | k + 1 => by
    have h := mk_le zs k
    have h2 := rC_le (zs.getD k 0)
    show max (mk zs k) (rC (zs.getD k 0)) ≤ 3
    omega
end Ecc

set_option maxHeartbeats 400000 in
theorem readZ_any (z : Int) (w : World) : Calls Try.prog 13 #[.int .i64 z] w fun e w' => e = .returned (.tuple #[.int .i64 (Ecc.rV z), .int .i64 (Ecc.rC z)]) ∧ w' = w := by
  unfold Ecc.rV Ecc.rC
  by_cases h : 0 ≤ z ∧ z ≤ 8191
  · rw [if_pos h, if_pos h]
    obtain ⟨n, rfl⟩ := Int.eq_ofNat_of_zero_le h.1
    exact read_any n w (by omega)
  · rw [if_neg h, if_neg h]
    exact read_none z w h

theorem readZS_any (z : Int) (w : World) : Calls Try.prog 15 #[.int .i64 z] w fun e w' => e = .returned (.tuple #[.int .i64 (Ecc.rV z), .int .i64 (Ecc.rC z)]) ∧ w' = w := by
  unfold Ecc.rV Ecc.rC
  by_cases h : 0 ≤ z ∧ z ≤ 8191
  · rw [if_pos h, if_pos h]
    obtain ⟨n, rfl⟩ := Int.eq_ofNat_of_zero_le h.1
    exact specRead_any n w (by omega)
  · rw [if_neg h, if_neg h]
    exact specRead_none z w h

set_option maxHeartbeats 1000000 in
theorem readWords_any (v : Value) (zs : List Int) (w : World) (hs : Sl w v zs) (hl : zs.length = 3) : Calls Try.prog 52 #[v] w fun e w' => e = .returned (.tuple #[.int .i64 (Ecc.tk zs 3), .int .i64 (Ecc.mk zs 3)]) ∧ w' = w := by
  obtain ⟨ad, cap, rfl, hs⟩ := hs
  rw [hl] at hs ⊢
  obtain ⟨b, off, rfl, hc⟩ := hs (by omega)
  clear hs hl
  have HC := hide hc
  clear hc
  go_enter Try.func52, Try.ntmps52
  go_wp2
  go_loop [4, 5, 12] (fun s m i => ∃ (k p q : Nat), k ≤ 3 ∧ i = .int .i64 k ∧ s = .int .i64 p ∧ m = .int .i64 q ∧ p < 16777216 ∧ q ≤ 3 ∧ Hid (p = Ecc.tk zs k ∧ q = Ecc.mk zs k)) (fun _ _ i => 3 - (intOf i).toNat)
  case atStart => exact ⟨0, 0, 0, by omega, rfl, rfl, rfl, by omega, by omega, hide ⟨rfl, rfl⟩⟩
  case round =>
    obtain ⟨k, p, q, hk, rfl, rfl, rfl, hp, hq, HP⟩ := hrel
    by_cases hlt : k < 3
    · have hck := HC.out k hlt
      have HT : Hid (p + Ecc.rV (zs.getD k 0) * 2 ^ (8 * k) = Ecc.tk zs (k + 1)) := hide (by rw [HP.out.1]; rfl)
      have HM : Hid (max q (Ecc.rC (zs.getD k 0)) = Ecc.mk zs (k + 1)) := hide (by rw [HP.out.2]; rfl)
      have HN : Hid (p + Ecc.rV (zs.getD k 0) * 2 ^ (8 * k) < 16777216) := hide (by
        rw [HT.out]
        have h1 := Ecc.tk_lt zs (k + 1)
        have h2 : 2 ^ (8 * (k + 1)) ≤ 2 ^ 24 := Nat.pow_le_pow_right (by decide) (by omega)
        omega)
      have HL : Hid (p < 2 ^ (8 * k)) := hide (by rw [HP.out.1]; exact Ecc.tk_lt zs k)
      have hr := fun w => readZ_any (zs.getD k 0) w
      have hv := Ecc.rV_lt (zs.getD k 0)
      have hx := Ecc.rC_le (zs.getD k 0)
      generalize zs.getD k 0 = z at hck hr hv hx HT HM HN
      generalize Ecc.rV z = a at hr hv HT HN
      generalize Ecc.rC z = c at hr hx HM
      have hpw : 2 ^ (8 * k) ≤ 65536 := by
        have : k = 0 ∨ k = 1 ∨ k = 2 := by omega
        rcases this with rfl | rfl | rfl <;> decide
      have haw : a * 2 ^ (8 * k) ≤ 255 * 65536 := Nat.mul_le_mul (by omega) hpw
      have HS : Hid (wrap64 ((a : Int) * 2 ^ (8 * k)) = ((a * 2 ^ (8 * k) : Nat) : Int)) := by
        refine hide ?_
        have e : ((a : Int) * 2 ^ (8 * k)) = ((a * 2 ^ (8 * k) : Nat) : Int) := by simp
        rw [e]
        generalize a * 2 ^ (8 * k) = y at haw
        unfold wrap64
        omega
      have HO := hide (Ecc.i64_or p (a * 2 ^ (8 * k)) (by omega) (by omega))
      have HA := hide (Ecc.or_add p a (8 * k) HL.out)
      clear hpw haw
      go_wp2_with (go_at_call 13; refine (hr _).mono ?_; rintro e w' ⟨rfl, rfl⟩)
      go_round
      case rel =>
        refine ⟨k + 1, p + a * 2 ^ (8 * k), max q c, by omega, by go_num, ?_, ?_, HN.out, by omega, hide ⟨HT.out, HM.out⟩⟩
        · rw [HS.out, HO.out, HA.out]
        · congr 1
          split <;> omega
      case measure => simp [intOf]; omega
    · have e : k = 3 := by omega
      subst e
      go_wp2
      go_ret2
      exact ⟨ret_ii (congrArg Nat.cast HP.out.1) (congrArg Nat.cast HP.out.2), rfl⟩

namespace Ecc
def rcV (zs : List Int) : Nat := if zs.length = 3 then (if mk zs 3 ≤ 1 then (if tk zs 3 ≤ 1000000 then tk zs 3 else 0) else 0) else 0
def rcC (zs : List Int) : Nat := if zs.length = 3 then (if mk zs 3 ≤ 1 then (if tk zs 3 ≤ 1000000 then mk zs 3 else 2) else mk zs 3) else 3
end Ecc

set_option maxHeartbeats 1000000 in
theorem readI_any (v : Value) (zs : List Int) (w : World) (hs : Sl w v zs) (hl : zs.length ≤ 1048576) : Calls Try.prog 25 #[v] w fun e w' => e = .returned (.tuple #[.int .i64 (Ecc.rcV zs), .int .i64 (Ecc.rcC zs)]) ∧ w' = w := by
  unfold Ecc.rcV Ecc.rcC
  by_cases h3 : zs.length = 3
  · rw [if_pos h3, if_pos h3]
    have hr := fun w hs => readWords_any v zs w hs h3
    obtain ⟨ad, cap, rfl, hs'⟩ := hs
    have HR := hide (hr w ⟨ad, cap, rfl, hs'⟩)
    rw [h3] at HR ⊢
    clear hr hs'
    have hm := Ecc.mk_le zs 3
    generalize Ecc.tk zs 3 = t at HR
    generalize Ecc.mk zs 3 = m at HR hm
    clear h3 hl
    by_cases h1 : m ≤ 1
    · rw [if_pos h1, if_pos h1]
      have hv := fun w => isValue_any (t : Int) w
      by_cases h2 : t ≤ 1000000
      · rw [if_pos h2, if_pos h2]
        rw [inR_yes (by omega) (by omega)] at hv
        go_enter Try.func25, Try.ntmps25
        go_wp2_with (first | (go_at_call 52; refine HR.out.mono ?_; rintro e w' ⟨rfl, rfl⟩) | (go_at_call 51; refine (hv _).mono ?_; rintro e w' ⟨rfl, rfl⟩))
        go_ret2
        exact ⟨rfl, rfl⟩
      · rw [if_neg h2, if_neg h2]
        rw [inR_no (by omega)] at hv
        go_enter Try.func25, Try.ntmps25
        go_wp2_with (first | (go_at_call 52; refine HR.out.mono ?_; rintro e w' ⟨rfl, rfl⟩) | (go_at_call 51; refine (hv _).mono ?_; rintro e w' ⟨rfl, rfl⟩))
        go_ret2
        exact ⟨rfl, rfl⟩
    · rw [if_neg h1, if_neg h1]
      go_enter Try.func25, Try.ntmps25
      go_wp2_with (go_at_call 52; refine HR.out.mono ?_; rintro e w' ⟨rfl, rfl⟩)
      go_ret2
      exact ⟨rfl, rfl⟩
  · rw [if_neg h3, if_neg h3]
    obtain ⟨ad, cap, rfl, hs'⟩ := hs
    clear hs'
    generalize zs.length = n at h3 hl
    have hq : ((n : Int) != 3) = true := by simp; omega
    clear h3
    go_enter Try.func25, Try.ntmps25
    go_wp2
    go_ret2
    exact ⟨rfl, rfl⟩

theorem dn_step (zs : List Int) : Ecc.tk zs 3 = 256 * (256 * (256 * 0 + Ecc.rV (zs.getD 2 0)) + Ecc.rV (zs.getD 1 0)) + Ecc.rV (zs.getD 0 0) := by
  show ((0 + Ecc.rV (zs.getD 0 0) * 2 ^ 0) + Ecc.rV (zs.getD 1 0) * 2 ^ 8) + Ecc.rV (zs.getD 2 0) * 2 ^ 16 = _
  omega
theorem dm_step (zs : List Int) : Ecc.mk zs 3 = max (max (max 0 (Ecc.rC (zs.getD 2 0))) (Ecc.rC (zs.getD 1 0))) (Ecc.rC (zs.getD 0 0)) := by
  show max (max (max 0 (Ecc.rC (zs.getD 0 0))) (Ecc.rC (zs.getD 1 0))) (Ecc.rC (zs.getD 2 0)) = _
  omega

namespace Ecc
/-- from the last on -/
def dt (zs : List Int) : Nat → Nat
  | 0 => 0
  | k + 1 => 256 * dt zs k + rV (zs.getD (2 - k) 0)
def dm (zs : List Int) : Nat → Nat
  | 0 => 0
  | k + 1 => max (dm zs k) (rC (zs.getD (2 - k) 0))
theorem dt_end (zs : List Int) : dt zs 3 = tk zs 3 := (dn_step zs).symm
theorem dm_end (zs : List Int) : dm zs 3 = mk zs 3 := (dm_step zs).symm
theorem dt_lt (zs : List Int) : ∀ k, k ≤ 3 → dt zs k < 16777216
  | 0, _ => by show 0 < 16777216; omega
  | 1, _ => by
    have := rV_lt (zs.getD 2 0)
    show 256 * 0 + rV (zs.getD 2 0) < 16777216
    omega
  | 2, _ => by
    have := rV_lt (zs.getD 2 0)
    have := rV_lt (zs.getD 1 0)
    show 256 * (256 * 0 + rV (zs.getD 2 0)) + rV (zs.getD 1 0) < 16777216
    omega
  | 3, _ => by
    have := rV_lt (zs.getD 2 0)
    have := rV_lt (zs.getD 1 0)
    have := rV_lt (zs.getD 0 0)
    show 256 * (256 * (256 * 0 + rV (zs.getD 2 0)) + rV (zs.getD 1 0)) + rV (zs.getD 0 0) < 16777216
    omega
end Ecc

set_option maxHeartbeats 2000000 in
theorem readS_any (v : Value) (zs : List Int) (w : World) (hs : Sl w v zs) (hl : zs.length ≤ 1048576) : Calls Try.prog 27 #[v] w fun e w' => e = .returned (.tuple #[.int .i64 (Ecc.rcV zs), .int .i64 (Ecc.rcC zs)]) ∧ w' = w := by
  unfold Ecc.rcV Ecc.rcC
  by_cases h3 : zs.length = 3
  · rw [if_pos h3, if_pos h3]
    obtain ⟨rv, rc, ev, ec, hcase⟩ : ∃ rv rc : Nat, (if Ecc.mk zs 3 ≤ 1 then (if Ecc.tk zs 3 ≤ 1000000 then Ecc.tk zs 3 else 0) else 0) = rv ∧ (if Ecc.mk zs 3 ≤ 1 then (if Ecc.tk zs 3 ≤ 1000000 then Ecc.mk zs 3 else 2) else Ecc.mk zs 3) = rc ∧
        ((1 < Ecc.mk zs 3 ∧ rv = 0 ∧ rc = Ecc.mk zs 3) ∨ (Ecc.mk zs 3 ≤ 1 ∧ 1000000 < Ecc.tk zs 3 ∧ rv = 0 ∧ rc = 2) ∨ (Ecc.mk zs 3 ≤ 1 ∧ Ecc.tk zs 3 ≤ 1000000 ∧ rv = Ecc.tk zs 3 ∧ rc = Ecc.mk zs 3)) := by
      refine ⟨_, _, rfl, rfl, ?_⟩
      by_cases h1 : Ecc.mk zs 3 ≤ 1
      · by_cases h2 : Ecc.tk zs 3 ≤ 1000000
        · exact .inr (.inr ⟨h1, h2, by rw [if_pos h1, if_pos h2], by rw [if_pos h1, if_pos h2]⟩)
        · exact .inr (.inl ⟨h1, by omega, by rw [if_pos h1, if_neg h2], by rw [if_pos h1, if_neg h2]⟩)
      · exact .inl ⟨by omega, by rw [if_neg h1], by rw [if_neg h1]⟩
    rw [ev, ec]
    have HH := hide hcase
    clear ev ec hcase
    obtain ⟨ad, cap, rfl, hs⟩ := hs
    rw [h3] at hs ⊢
    obtain ⟨b, off, rfl, hc⟩ := hs (by omega)
    clear hs hl h3
    have HC := hide hc
    clear hc
    go_enter Try.func27, Try.ntmps27
    go_wp2
    go_loop [4, 5, 6] (fun s m i => ∃ (k p q : Nat), k ≤ 3 ∧ i = .int .i64 (2 - (k : Int)) ∧ s = .int .i64 p ∧ m = .int .i64 q ∧ p < 16777216 ∧ q ≤ 3 ∧ Hid (p = Ecc.dt zs k ∧ q = Ecc.dm zs k)) (fun _ _ i => (intOf i + 1).toNat)
    case atStart => exact ⟨0, 0, 0, by omega, rfl, rfl, rfl, by omega, by omega, hide ⟨rfl, rfl⟩⟩
    case round =>
      obtain ⟨k, p, q, hk, rfl, rfl, rfl, hp, hq, HP⟩ := hrel
      by_cases hlt : k < 3
      · obtain ⟨j, hj⟩ : ∃ j, 2 - k = j := ⟨_, rfl⟩
        have ej : (2 : Int) - (k : Int) = (j : Int) := by omega
        have hj3 : j < 3 := by omega
        have hck := HC.out j hj3
        have HT : Hid (256 * p + Ecc.rV (zs.getD j 0) = Ecc.dt zs (k + 1)) := hide (by rw [HP.out.1, ← hj]; rfl)
        have HM : Hid (max q (Ecc.rC (zs.getD j 0)) = Ecc.dm zs (k + 1)) := hide (by rw [HP.out.2, ← hj]; rfl)
        have HL : Hid (256 * p + Ecc.rV (zs.getD j 0) < 16777216) := hide (by rw [HT.out]; exact Ecc.dt_lt zs (k + 1) (by omega))
        have hr := fun w => readZS_any (zs.getD j 0) w
        have hv := Ecc.rV_lt (zs.getD j 0)
        have hx := Ecc.rC_le (zs.getD j 0)
        generalize zs.getD j 0 = z at hck hr hv hx HT HM HL
        generalize Ecc.rV z = a at hr hv HT HL
        generalize Ecc.rC z = c at hr hx HM
        rw [ej]
        have HJ := hide (And.intro ej hj)
        have HK := hide hlt
        clear ej hj hlt hk
        go_wp2_with (go_at_call 15; refine (hr _).mono ?_; rintro e w' ⟨rfl, rfl⟩)
        go_round
        case rel =>
          refine ⟨k + 1, 256 * p + a, max q c, by have := HK.out; omega, ?_, by go_num, ?_, HL.out, by omega, hide ⟨HT.out, HM.out⟩⟩
          · congr 1
            have := HJ.out.1
            omega
          · congr 1
            split <;> omega
        case measure => have := HJ.out.1; simp [intOf] <;> omega
      · have e : k = 3 := by omega
        subst e
        have HE : Hid (p = Ecc.tk zs 3 ∧ q = Ecc.mk zs 3) := hide ⟨HP.out.1.trans (Ecc.dt_end zs), HP.out.2.trans (Ecc.dm_end zs)⟩
        clear HP HC hlt hk
        rw [← HE.out.1, ← HE.out.2] at HH
        clear HE
        rcases HH.out with ⟨h1, hv, hc⟩ | ⟨h1, h2, hv, hc⟩ | ⟨h1, h2, hv, hc⟩
        · have HR := hide (And.intro hv hc)
          clear hv hc HH
          have hq2 : q = 2 ∨ q = 3 := by omega
          clear h1 hq
          rcases hq2 with rfl | rfl
          all_goals go_wp2
          all_goals go_ret2
          all_goals exact ⟨ret_ii (congrArg Nat.cast HR.out.1.symm) (congrArg Nat.cast HR.out.2.symm), rfl⟩
        · have HR := hide (And.intro hv hc)
          clear hv hc HH
          have hq2 : q = 0 ∨ q = 1 := by omega
          clear h1 hq
          rcases hq2 with rfl | rfl
          all_goals go_wp2
          all_goals go_ret2
          all_goals exact ⟨ret_ii (congrArg Nat.cast HR.out.1.symm) (congrArg Nat.cast HR.out.2.symm), rfl⟩
        · have HR := hide (And.intro hv hc)
          clear hv hc HH
          have hq2 : q = 0 ∨ q = 1 := by omega
          clear h1 hq
          rcases hq2 with rfl | rfl
          all_goals go_wp2
          all_goals go_ret2
          all_goals exact ⟨ret_ii (congrArg Nat.cast HR.out.1.symm) (congrArg Nat.cast HR.out.2.symm), rfl⟩
  · rw [if_neg h3, if_neg h3]
    obtain ⟨ad, cap, rfl, hs'⟩ := hs
    clear hs'
    generalize zs.length = n at h3 hl
    have hq : ((n : Int) != 3) = true := by simp; omega
    clear h3
    go_enter Try.func27, Try.ntmps27
    go_wp2
    go_ret2
    exact ⟨rfl, rfl⟩

end Go.Proofs.Ytbinjcmfbkhbjab
