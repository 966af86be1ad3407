/- E -/
import Derived.Test.YtlalldlbgnlbjaaGreatDoorYomeGot12
/- impl.bitsOf, impl.IdsOk -/
namespace Go.Proofs.YtlalldlbgnlbjaaGreatDoor
open Go.RowKit

def Inv (zs : List Int) (k : Nat) (s : Int) : Prop :=
  Ids.rest zs k = Ids.ok zs ∧ s = Ids.bs (zs.take k) ∧ 1 ≤ Ids.lo zs k ∧ Ids.lo zs k ≤ 6 ∧ s < 2 ^ (Ids.lo zs k).toNat ∧ (0 < k → 2 ^ (Ids.lo zs k - 1).toNat ≤ s)

theorem Inv.start (zs : List Int) : Inv zs 0 0 := ⟨Ids.rest_zero zs, rfl, Int.le_refl _, by show (1 : Int) ≤ 6; decide, by show (0 : Int) < 2 ^ (1 : Int).toNat; decide, fun h => by omega⟩

theorem Inv.step {zs : List Int} {k : Nat} {s z : Int} (h : Inv zs k s) (hk : k < zs.length) (hz : zs.getD k 0 = z) (hs0 : 0 ≤ s) (hlo : Ids.lo zs k ≤ z) (h5 : z ≤ 5) : Inv zs (k + 1) (s + 2 ^ z.toNat) := by
  obtain ⟨h1, h2, h3, h4, h6, _⟩ := h
  have hb := Ids.bits_bound _ s z h3 h4 hs0 h6 hlo h5
  have hl : Ids.lo zs (k + 1) = z + 1 := by show zs.getD k 0 + 1 = z + 1; rw [hz]
  refine ⟨?_, ?_, ?_, ?_, ?_, ?_⟩
  · rw [← h1]; exact (Ids.rest_step zs k hk (by rw [hz]; exact hlo) (by rw [hz]; exact h5)).symm
  · rw [Ids.bs_take zs k hk, hz, h2]
  · rw [hl]; omega
  · rw [hl]; omega
  · rw [hl]; exact hb.2.2
  · intro _
    rw [hl]
    have e : z + 1 - 1 = z := by omega
    rw [e]; exact hb.2.1

theorem Inv.small {zs : List Int} {k : Nat} {s z : Int} (h : Inv zs k s) (hs0 : 0 ≤ s) (hlo : Ids.lo zs k ≤ z) (h5 : z ≤ 5) : s < 2 ^ z.toNat :=
  (Ids.bits_bound _ s z h.2.2.1 h.2.2.2.1 hs0 h.2.2.2.2.1 hlo h5).1

theorem Inv.great {zs : List Int} {k : Nat} {s z : Int} (h : Inv zs k s) (hlo : ¬ Ids.lo zs k ≤ z) (h1 : 1 ≤ z) : 2 ^ z.toNat ≤ s := by
  have hk : 0 < k := by
    rcases Nat.eq_zero_or_pos k with rfl | h0
    · exact absurd (show Ids.lo zs 0 ≤ z from h1) hlo
    · exact h0
  exact Ids.bits_high _ s z h.2.2.2.1 (h.2.2.2.2.2 hk) (by omega) h1

theorem or_of (s : Int) (h0 : 0 ≤ s) (h : s < 64) (z : Nat) (hz : z ∈ [1, 2, 3, 4, 5]) (hlt : s < 2 ^ z) : bits BinOp.or IntKind.u64 s (2 ^ z) = s + 2 ^ z := by
  obtain ⟨m, rfl⟩ := fin_of s h0 h
  exact or_fin m z hz hlt

def bsOk (zs : List Int) : Int := if Ids.ok zs then Ids.bs zs else 0
theorem bsOk_no {zs : List Int} (h : Ids.ok zs = false) : 0 = bsOk zs := by simp [bsOk, h]
theorem bsOk_yes {zs : List Int} (h : Ids.ok zs = true) : Ids.bs zs = bsOk zs := by simp [bsOk, h]

theorem ret_pair {a b : Int} {c d : Bool} (h : a = b) (k : c = d) : Ending.returned (.tuple #[.int .u64 a, .bool c]) = .returned (.tuple #[.int .u64 b, .bool d]) := by rw [h, k]

set_option maxHeartbeats 2000000 in
theorem bits_any (v : Value) (zs : List Int) (w : World) (ha : Sl w v zs) (hl : zs.length ≤ 1048576) :
    Calls Tryz.prog 75 #[v] w fun e w' => e = .returned (.tuple #[.int .u64 (bsOk zs), .bool (Ids.ok zs)]) ∧ w' = w := by
  obtain ⟨ad, cap, rfl, ha⟩ := ha
  obtain ⟨n, hn⟩ : ∃ n, zs.length = n := ⟨_, rfl⟩
  rw [hn] at ha hl ⊢
  have HN := hide hn
  clear hn
  go_enter Tryz.func75, Tryz.ntmps75
  go_wp2
  go_loop [4, 9] (fun t i => ∃ (k : Nat) (s : Int), k ≤ n ∧ i = .int .i64 k ∧ t = .int .u64 s ∧ 0 ≤ s ∧ s < 64 ∧ Hid (Inv zs k s)) (fun _ i => n - (intOf i).toNat)
  case atStart => exact ⟨0, 0, Nat.zero_le _, rfl, rfl, by omega, by omega, hide (Inv.start zs)⟩
  case round =>
    obtain ⟨k, s, hk, rfl, rfl, hs0, hs64, HR⟩ := hrel
    by_cases hlt : k < n
    · obtain ⟨p, off, rfl, hc⟩ := ha (by omega)
      have hck := hc k hlt
      obtain ⟨z, hz⟩ : ∃ z, zs.getD k 0 = z := ⟨_, rfl⟩
      rw [hz] at hck
      have HZ := hide hz
      clear hz hc ha
      by_cases hin : 1 ≤ z ∧ z ≤ 5
      · obtain ⟨h1, h5⟩ := hin
        have ez : z = 1 ∨ z = 2 ∨ z = 3 ∨ z = 4 ∨ z = 5 := by omega
        by_cases hlo : Ids.lo zs k ≤ z
        · have hsm := HR.out.small hs0 hlo h5
          have HL := hide (HR.out.step (by rw [HN.out]; exact hlt) HZ.out hs0 hlo h5)
          clear hlo
          rcases ez with rfl | rfl | rfl | rfl | rfl
          · have HO := hide (or_of s hs0 hs64 1 (by decide) (by simpa using hsm))
            simp at hsm
            have hq : (s / 2 != 0) = false := by simp; omega
            go_wp2_with (go_at_call 51; refine (core_yes _ _ (by omega) (by omega)).mono ?_; rintro e w' ⟨rfl, rfl⟩)
            go_round
            case rel => exact ⟨k + 1, s + 2, by omega, by go_num, congrArg (Value.int .u64) HO.out, by omega, by omega, HL⟩
            case measure => simp [intOf]; omega
          · have HO := hide (or_of s hs0 hs64 2 (by decide) (by simpa using hsm))
            simp at hsm
            have hq : (s / 4 != 0) = false := by simp; omega
            go_wp2_with (go_at_call 51; refine (core_yes _ _ (by omega) (by omega)).mono ?_; rintro e w' ⟨rfl, rfl⟩)
            go_round
            case rel => exact ⟨k + 1, s + 4, by omega, by go_num, congrArg (Value.int .u64) HO.out, by omega, by omega, HL⟩
            case measure => simp [intOf]; omega
          · have HO := hide (or_of s hs0 hs64 3 (by decide) (by simpa using hsm))
            simp at hsm
            have hq : (s / 8 != 0) = false := by simp; omega
            go_wp2_with (go_at_call 51; refine (core_yes _ _ (by omega) (by omega)).mono ?_; rintro e w' ⟨rfl, rfl⟩)
            go_round
            case rel => exact ⟨k + 1, s + 8, by omega, by go_num, congrArg (Value.int .u64) HO.out, by omega, by omega, HL⟩
            case measure => simp [intOf]; omega
          · have HO := hide (or_of s hs0 hs64 4 (by decide) (by simpa using hsm))
            simp at hsm
            have hq : (s / 16 != 0) = false := by simp; omega
            go_wp2_with (go_at_call 51; refine (core_yes _ _ (by omega) (by omega)).mono ?_; rintro e w' ⟨rfl, rfl⟩)
            go_round
            case rel => exact ⟨k + 1, s + 16, by omega, by go_num, congrArg (Value.int .u64) HO.out, by omega, by omega, HL⟩
            case measure => simp [intOf]; omega
          · have HO := hide (or_of s hs0 hs64 5 (by decide) (by simpa using hsm))
            simp at hsm
            have hq : (s / 32 != 0) = false := by simp; omega
            go_wp2_with (go_at_call 51; refine (core_yes _ _ (by omega) (by omega)).mono ?_; rintro e w' ⟨rfl, rfl⟩)
            go_round
            case rel => exact ⟨k + 1, s + 32, by omega, by go_num, congrArg (Value.int .u64) HO.out, by omega, by omega, HL⟩
            case measure => simp [intOf]; omega
        · have hgt := HR.out.great hlo h1
          have HF : Hid (Ids.ok zs = false) := hide (by rw [← HR.out.1]; exact Ids.rest_low zs k (by rw [HN.out]; exact hlt) (by rw [HZ.out]; omega))
          clear hlo
          rcases ez with rfl | rfl | rfl | rfl | rfl
          all_goals simp at hgt
          · have hq : (s / 2 != 0) = true := by simp; omega
            go_wp2_with (go_at_call 51; refine (core_yes _ _ (by omega) (by omega)).mono ?_; rintro e w' ⟨rfl, rfl⟩)
            go_ret2
            exact ⟨ret_pair (bsOk_no HF.out) HF.out.symm, rfl⟩
          · have hq : (s / 4 != 0) = true := by simp; omega
            go_wp2_with (go_at_call 51; refine (core_yes _ _ (by omega) (by omega)).mono ?_; rintro e w' ⟨rfl, rfl⟩)
            go_ret2
            exact ⟨ret_pair (bsOk_no HF.out) HF.out.symm, rfl⟩
          · have hq : (s / 8 != 0) = true := by simp; omega
            go_wp2_with (go_at_call 51; refine (core_yes _ _ (by omega) (by omega)).mono ?_; rintro e w' ⟨rfl, rfl⟩)
            go_ret2
            exact ⟨ret_pair (bsOk_no HF.out) HF.out.symm, rfl⟩
          · have hq : (s / 16 != 0) = true := by simp; omega
            go_wp2_with (go_at_call 51; refine (core_yes _ _ (by omega) (by omega)).mono ?_; rintro e w' ⟨rfl, rfl⟩)
            go_ret2
            exact ⟨ret_pair (bsOk_no HF.out) HF.out.symm, rfl⟩
          · have hq : (s / 32 != 0) = true := by simp; omega
            go_wp2_with (go_at_call 51; refine (core_yes _ _ (by omega) (by omega)).mono ?_; rintro e w' ⟨rfl, rfl⟩)
            go_ret2
            exact ⟨ret_pair (bsOk_no HF.out) HF.out.symm, rfl⟩
      · have hno : z < 1 ∨ 5 < z := by omega
        have HF : Hid (Ids.ok zs = false) := by
          refine hide ?_
          rw [← HR.out.1]
          rcases hno with h | h
          · exact Ids.rest_low zs k (by rw [HN.out]; exact hlt) (by rw [HZ.out]; have := HR.out.2.2.1; omega)
          · exact Ids.rest_high zs k (by rw [HN.out]; exact hlt) (by rw [HZ.out]; exact h)
        have HNO := hide hno
        clear hno hin
        go_wp2_with (go_at_call 51; refine (core_no _ _ HNO.out).mono ?_; rintro e w' ⟨rfl, rfl⟩)
        go_ret2
        exact ⟨ret_pair (bsOk_no HF.out) HF.out.symm, rfl⟩
    · have e : k = n := by omega
      have HF : Hid (Ids.ok zs = true ∧ s = Ids.bs zs) := by
        refine hide ⟨?_, ?_⟩
        · have h1 := Ids.rest_end zs
          rw [HN.out, ← e, HR.out.1] at h1
          exact h1
        · have h2 := HR.out.2.1
          rw [e, ← HN.out, List.take_length] at h2
          exact h2
      clear e
      go_wp2
      go_ret2
      exact ⟨ret_pair (HF.out.2.trans (bsOk_yes HF.out.1)) HF.out.1.symm, rfl⟩

set_option maxHeartbeats 400000 in
theorem implIdsOk_any (v : Value) (zs : List Int) (w : World) (ha : Sl w v zs) (hl : zs.length ≤ 1048576) :
    Calls Tryz.prog 52 #[v] w fun e w' => e = .returned (.bool (Ids.ok zs)) ∧ w' = w := by
  go_enter Tryz.func52, Tryz.ntmps52
  go_wp2_with (go_at_call 75; refine (bits_any v zs _ ha hl).mono ?_; rintro e w' ⟨rfl, rfl⟩)
  go_ret
  exact ⟨rfl, rfl⟩

end Go.Proofs.YtlalldlbgnlbjaaGreatDoor
