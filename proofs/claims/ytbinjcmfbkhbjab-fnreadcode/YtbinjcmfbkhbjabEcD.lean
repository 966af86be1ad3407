/- DrawCodeOf, DrawReadCode; sameInts -/
import Derived.Test.YtbinjcmfbkhbjabEcN
import Derived.Test.YtbinjcmfbkhbjabEcR
import Derived.Deep.RegionWith
import Derived.Deep.QuietTactic
import Derived.BigQuiet
namespace Go.Proofs.Ytbinjcmfbkhbjab
open Go.RowKit
set_option linter.unusedVariables false
set_option linter.unusedSimpArgs false

set_option maxHeartbeats 1000000 in
theorem drawCodeOf_any (ad : Option Addr) (n cap : Nat) (w : World) (hb : Bt w ad n) (hn : n ≤ 1048576) :
    Calls Try.prog 21 #[.slice ad n cap] w fun e w' => ∃ z : Int, e = .returned (.int .i64 z) ∧ Below w.heap.size w w' := by
  go_enter Try.func21, Try.ntmps21
  go_wp2_with fail
  refine (open_any ad n cap _ hb hn).mono ?_
  rintro e w1 ⟨g, rfl, hg1, hr1, hb1⟩
  clear hb
  go_wp2_with fail
  refine (once_any g 4 _ hr1 (by omega) (by omega)).mono ?_
  rintro e w2 ⟨b, rfl, hr2, hg2⟩
  have HB := hide (open_base hg1 hb1 hg2)
  have HS := hide (And.intro hg1 HB.out.size)
  clear hr1 hb1 hg2 hg1
  cases b
  · go_wp2_with fail
    refine (below_any g 1000001 _ hr2 (by omega) (by omega)).mono ?_
    rintro e w3 ⟨c, rfl, hc0, hc1, hr3, hg3⟩
    have HF := hide (below_read HB.out hg3 HS.out.1 HS.out.2)
    clear hr2 hr3 hg3
    go_wp2
    go_ret
    exact ⟨_, rfl, HF.out⟩
  · go_wp2_with fail
    refine (off_any g 0 1000000 _ hr2 (by omega) (by omega) (by omega)).mono ?_
    rintro e w3 ⟨z, rfl, hr3, hg3⟩
    have HF := hide (below_read HB.out hg3 HS.out.1 HS.out.2)
    clear hr2 hr3 hg3
    go_wp2
    go_ret
    exact ⟨_, rfl, HF.out⟩

set_option maxHeartbeats 1000000 in
theorem sameInts_same (a b : Value) (zs : List Int) (w : World) (ha : Sl w a zs) (hb : Sl w b zs) (hl : zs.length ≤ 1048576) :
    Calls Try.prog 24 #[a, b] w fun e w' => e = .returned (.bool true) ∧ Below w.heap.size w w' := by
  obtain ⟨ad, cap, rfl, ha⟩ := ha
  obtain ⟨bd, cbp, rfl, hb⟩ := hb
  obtain ⟨n, hn⟩ : ∃ n, zs.length = n := ⟨_, rfl⟩
  rw [hn] at ha hb hl ⊢
  clear hn
  go_enter Try.func24, Try.ntmps24
  go_wp2
  go_loopw [5] (fun i wr => ∃ k : Nat, k ≤ n ∧ i = .int .i64 k ∧ Below w.heap.size w wr) (fun i _ => n - (intOf i).toNat)
  case atStart => exact ⟨0, Nat.zero_le _, rfl, Below.refl _ _⟩
  case round =>
    obtain ⟨k, hk, rfl, hbk⟩ := hrel
    by_cases hlt : k < n
    · obtain ⟨p, off, rfl, hc⟩ := ha (by omega)
      obtain ⟨q, off', rfl, hd⟩ := hb (by omega)
      have hck : wr.cell? ⟨p, off + k, none⟩ = some (.int .i64 (zs.getD k 0)) := Below.keep hbk _ _ (hc k hlt)
      have hdk : wr.cell? ⟨q, off' + k, none⟩ = some (.int .i64 (zs.getD k 0)) := Below.keep hbk _ _ (hd k hlt)
      generalize zs.getD k 0 = z at hck hdk
      clear hc hd ha hb
      go_wp2
      go_quiet (fail)
      all_goals go_wp2
      all_goals go_roundw
      case rel => exact ⟨k + 1, by omega, by go_num, below_drewN hbk _⟩
      case measure => simp [intOf]; omega
    · go_wp2
      go_ret
      exact ⟨rfl, hbk⟩

theorem flippedZ (z k : Int) (w : World) : Calls Try.prog 19 #[.int .i64 z, .int .i64 k] w fun e w' => ∃ (y : Int) (b : Bool), e = .returned (.tuple #[.int .i64 y, .bool b]) ∧ w' = w := by
  by_cases h : (0 ≤ z ∧ z ≤ 8191) ∧ 0 ≤ k ∧ k < 13
  · obtain ⟨n, rfl⟩ := Int.eq_ofNat_of_zero_le h.1.1
    obtain ⟨m, rfl⟩ := Int.eq_ofNat_of_zero_le h.2.1
    exact (specFlipped_any n m w (by omega) (by omega)).mono fun e w' h => ⟨_, _, h.1, h.2⟩
  · exact (specFlipped_none z k w h).mono fun e w' h => ⟨_, _, h.1, h.2⟩

theorem Ow.read {w w' : World} {base g : Nat} {v : Value} {zs : List Int} (h : Ow w base v zs) (hg : w.grownBy w' (some g)) (hlt : g < base) : Ow w' base v zs := by
  refine World.ownsRow.kept h hg ?_
  cases hv : v.ownBlock with
  | none => exact .inl rfl
  | some k =>
    refine .inr fun e => ?_
    have h1 := World.ownsRow.lt h k hv
    simp only [Option.some.injEq] at e
    omega

theorem Ow.facts3 {w : World} {base G cap : Nat} {zs : List Int} (hl : zs.length = 3) (h : Ow w base (.slice (some ⟨G, 0, none⟩) 3 cap) zs) (k : Nat) (hk : k < 3) :
    w.frozen? ⟨G, k, none⟩ = false ∧ w.cell? ⟨G, k, none⟩ = some (.int .i64 (zs.getD k 0)) ∧ (∀ y, Ow (w.setCell ⟨G, k, none⟩ (.int .i64 y)) base (.slice (some ⟨G, 0, none⟩) 3 cap) (zs.set k y) ∧ w.grownBy (w.setCell ⟨G, k, none⟩ (.int .i64 y)) (some G)) := by
  unfold Ow at *
  rw [hl] at h
  refine ⟨h.frozenAt k, ?_, fun y => ?_⟩
  · have h1 := h.cellAt k (by omega)
    rw [h1]
    simp [hl, hk]
  · rw [List.length_set, hl, List.map_set]
    exact h.stored k _

end Go.Proofs.Ytbinjcmfbkhbjab
