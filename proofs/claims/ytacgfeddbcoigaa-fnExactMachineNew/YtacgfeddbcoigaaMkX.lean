/- the marks of a machine with no lists at its lines and no mail, read again -/
import Derived.Test.YtacgfeddbcoigaaMkV
namespace Go.Proofs.Ytacgfeddbcoigaa
open Go.RowKit
set_option linter.unusedVariables false
set_option linter.unusedSimpArgs false

def ks (k0 : Int) (N : Nat) : Nat → Int
  | 0 => k0
  | c + 1 => ks k0 N c + 4 * N
theorem ks_bound (k0 : Int) (N : Nat) (hN : N ≤ 4) : ∀ c, k0 ≤ ks k0 N c ∧ ks k0 N c ≤ k0 + 16 * c
  | 0 => ⟨Int.le_refl _, by simp [ks]⟩
  | c + 1 => by
    have h := ks_bound k0 N hN c
    have e : ks k0 N (c + 1) = ks k0 N c + 4 * N := rfl
    rw [e]
    omega
/-- rows of N slots each, in blocks of their own -/
structure RV (w : World) (g C N : Nat) (ib : Nat → Nat) : Prop where
  at_ : ∀ c, c < C → w.cell? ⟨g, c, none⟩ = some (.slice (some ⟨ib c, 0, none⟩) N N)
  wc : ∀ c, c < C → Wc w (ib c) (N * 4)
  ne : ∀ c, c < C → ib c ≠ g
  inj : ∀ c c', c < C → c' < C → ib c = ib c' → c = c'

set_option maxHeartbeats 2000000 in
theorem markSlotSSv (g C cap N : Nat) (ib : Nat → Nat) (k0 : Int) (w : World) (h0 : 0 ≤ k0) (h1 : k0 ≤ 1000) (hR : RV w g C N ib) (hC : C ≤ 5) (hN : N ≤ 4) :
    Calls Try.prog 14 #[.slice (some ⟨g, 0, none⟩) C cap, .int .i64 k0] w fun e w' => e = .returned (.int .i64 (ks k0 N C)) ∧ Chg (fun x => ∃ c, c < C ∧ x = ib c) w w' ∧ ∀ c, c < C → Vr w' (ib c) (N * 4) (ks k0 N c) := by
  go_enter Try.func14, Try.ntmps14
  go_wp2
  go_loopw [1, 5] (fun t i wr => ∃ j : Nat, j ≤ C ∧ i = .int .i64 j ∧ t = .int .i64 (ks k0 N j) ∧ Chg (fun x => ∃ c, c < C ∧ x = ib c) w wr ∧ Hid (∀ c, c < j → Vr wr (ib c) (N * 4) (ks k0 N c))) (fun _ i _ => C - (intOf i).toNat)
  case atStart => exact ⟨0, Nat.zero_le _, rfl, rfl, Chg.refl _ _, hide (fun c hc => by omega)⟩
  case round =>
    obtain ⟨j, hj, rfl, rfl, hgj, HV⟩ := hrel
    by_cases hlt : j < C
    · have hc := hgj.cell (fun ⟨c, hc, e⟩ => hR.ne c hc e.symm) (hR.at_ j hlt)
      have hw := hgj.keep _ _ (hR.wc j hlt)
      have hkb := ks_bound k0 N hN j
      have HK : Hid (ks k0 N (j + 1) = ks k0 N j + 4 * N) := hide rfl
      have HV' : Hid (∀ w2, Chg (· = ib j) wr w2 → Vr w2 (ib j) (N * 4) (ks k0 N j) → ∀ c, c < j + 1 → Vr w2 (ib c) (N * 4) (ks k0 N c)) := hide (fun w2 hg hv c hcj => by
        by_cases e : c = j
        · subst e; exact hv
        · exact (HV.out c (by omega)).chg hg (fun h => e (hR.inj c j (by omega) hlt h)))
      clear HV
      generalize ks k0 N j = kk at hkb HK HV' ⊢
      go_wp2_with fail
      refine (mkv4_any (ib j) N N kk _ (by omega) (by omega) hw (by omega)).mono ?_
      rintro e w2 ⟨rfl, hg2, hv2⟩
      have HG := hide (hgj.trans (hg2.mono (R := fun x => ∃ c, c < C ∧ x = ib c) (fun x hx => ⟨j, hlt, hx⟩)))
      have HX : Hid (∀ c, c < j + 1 → Vr w2 (ib c) (N * 4) (ks k0 N c)) := hide (HV'.out w2 hg2 hv2)
      clear hgj hg2 hv2 hc hw HV' hR
      go_wp2
      go_roundw
      case rel => exact ⟨j + 1, by omega, by go_num, by rw [HK.out], HG.out, HX⟩
      case measure => simp [intOf]; omega
    · have e : j = C := by omega
      subst e
      go_wp2
      go_ret
      exact ⟨rfl, hgj, HV.out⟩

set_option maxHeartbeats 2000000 in
theorem heldSlotSSv (g C cap N : Nat) (ib : Nat → Nat) (k0 : Int) (w : World) (h0 : 0 ≤ k0) (h1 : k0 ≤ 1000) (hR : ∀ c, c < C → w.cell? ⟨g, c, none⟩ = some (.slice (some ⟨ib c, 0, none⟩) N N)) (hV : ∀ c, c < C → Vr w (ib c) (N * 4) (ks k0 N c)) (hC : C ≤ 5) (hN : N ≤ 4) :
    Calls Try.prog 17 #[.slice (some ⟨g, 0, none⟩) C cap, .int .i64 k0] w fun e w' => e = .returned (.int .i64 (ks k0 N C)) ∧ w' = w := by
  go_enter Try.func17, Try.ntmps17
  go_wp2
  go_loopw [1, 5] (fun t i wr => ∃ j : Nat, j ≤ C ∧ i = .int .i64 j ∧ t = .int .i64 (ks k0 N j) ∧ wr = w) (fun _ i _ => C - (intOf i).toNat)
  case atStart => exact ⟨0, Nat.zero_le _, rfl, rfl, rfl⟩
  case round =>
    obtain ⟨j, hj, rfl, rfl, rfl⟩ := hrel
    by_cases hlt : j < C
    · have hc := hR j hlt
      have hv := hV j hlt
      have hkb := ks_bound k0 N hN j
      have HK : Hid (ks k0 N (j + 1) = ks k0 N j + 4 * N) := hide rfl
      generalize ks k0 N j = kk at hkb HK hv ⊢
      have hneg : decide (kk + 4 * (N : Int) < 0) = false := by simp; omega
      go_wp2_with fail
      refine (held4_any (ib j) N N kk _ (by omega) (by omega) hv (by omega)).mono ?_
      rintro e w2 ⟨rfl, rfl⟩
      clear hc hv hR hV
      go_wp2
      go_roundw
      case rel => exact ⟨j + 1, by omega, by go_num, by rw [HK.out], by first | rfl | trivial⟩
      case measure => simp [intOf]; omega
    · have e : j = C := by omega
      subst e
      go_wp2
      go_ret
      exact ⟨rfl, rfl⟩
end Go.Proofs.Ytacgfeddbcoigaa
