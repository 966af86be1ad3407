/- szSlotS, szMsgS, szSlotSS (written by mkMsJ.py) -/
import Derived.Test.YtfckacabaajnkaaDoorLqF
import Derived.Test.YtfckacabaajnkaaDoorMsA
namespace Go.Proofs.YtfckacabaajnkaaDoor
open Go.RowKit
set_option linter.unusedVariables false
set_option linter.unusedSimpArgs false

set_option maxHeartbeats 400000 in
theorem szS_no (sa : Option Addr) (sn sc : Nat) (left : Int) (w : World) (h0 : 0 ≤ left) (hm : left ≤ 1048576) (hL : (sn : Int) ≤ 9223372036854775807) (h : left < sn) :
    Calls Tryd.prog 51 #[.slice sa sn sc, .int .i64 left] w fun e w' => e = .returned (.int .i64 (-1)) ∧ w' = w := by
  have hw : wrap64 (left - (sn : Int)) = left - sn := Go.IntWalk.wrap64_in _ (by omega)
  have hd : decide (left - (sn : Int) < 0) = true := by simp; omega
  go_enter Tryd.func51, Tryd.ntmps51
  go_wp2
  go_ret
  exact ⟨rfl, rfl⟩
set_option maxHeartbeats 400000 in
theorem szS_yes (sa : Option Addr) (sn sc : Nat) (left : Int) (w : World) (h0 : 0 ≤ left) (hm : left ≤ 1048576) (h : (sn : Int) ≤ left) :
    Calls Tryd.prog 51 #[.slice sa sn sc, .int .i64 left] w fun e w' => e = .returned (.int .i64 (left - sn)) ∧ w' = w := by
  have hw : wrap64 (left - (sn : Int)) = left - sn := Go.IntWalk.wrap64_in _ (by omega)
  have hd : decide (left - (sn : Int) < 0) = false := by simp; omega
  go_enter Tryd.func51, Tryd.ntmps51
  go_wp2
  go_ret
  exact ⟨rfl, rfl⟩

set_option maxHeartbeats 400000 in
theorem szM_no (sa : Option Addr) (sn sc : Nat) (left : Int) (w : World) (h0 : 0 ≤ left) (hm : left ≤ 1048576) (hL : (sn : Int) ≤ 9223372036854775807) (h : left < sn) :
    Calls Tryd.prog 27 #[.slice sa sn sc, .int .i64 left] w fun e w' => e = .returned (.int .i64 (-1)) ∧ w' = w := by
  have hw : wrap64 (left - (sn : Int)) = left - sn := Go.IntWalk.wrap64_in _ (by omega)
  have hd : decide (left - (sn : Int) < 0) = true := by simp; omega
  go_enter Tryd.func27, Tryd.ntmps27
  go_wp2
  go_ret
  exact ⟨rfl, rfl⟩
set_option maxHeartbeats 400000 in
theorem szM_yes (sa : Option Addr) (sn sc : Nat) (left : Int) (w : World) (h0 : 0 ≤ left) (hm : left ≤ 1048576) (h : (sn : Int) ≤ left) :
    Calls Tryd.prog 27 #[.slice sa sn sc, .int .i64 left] w fun e w' => e = .returned (.int .i64 (left - sn)) ∧ w' = w := by
  have hw : wrap64 (left - (sn : Int)) = left - sn := Go.IntWalk.wrap64_in _ (by omega)
  have hd : decide (left - (sn : Int) < 0) = false := by simp; omega
  go_enter Tryd.func27, Tryd.ntmps27
  go_wp2
  go_ret
  exact ⟨rfl, rfl⟩


-- what is not too much is small; below 0: too much
set_option maxHeartbeats 2000000 in
theorem szSlotSS_any (v : Value) (C : Nat) (L : Nat → Nat) (F : Nat → Nat → Nat → Int) (left : Int) (w : World) (h0 : 0 ≤ left) (hm : left ≤ 1048576) (hs : Ss w v C L F) (hC : (C : Int) ≤ 9223372036854775807) (hL : ∀ c, c < C → (L c : Int) ≤ 9223372036854775807) :
    Calls Tryd.prog 25 #[v, .int .i64 left] w fun e w' => ∃ r : Int, e = .returned (.int .i64 r) ∧ (-1 ≤ r ∧ r ≤ left) ∧ (0 ≤ r → C ≤ 1048576 ∧ ∀ c, c < C → L c ≤ 1048576) ∧ Below w.heap.size w w' := by
  obtain ⟨ad, cap, rfl, hs⟩ := hs
  have hw : wrap64 (left - (C : Int)) = left - C := Go.IntWalk.wrap64_in _ (by omega)
  by_cases h : left < C
  · have hd : decide (left - (C : Int) < 0) = true := by simp; omega
    clear hs
    go_enter Tryd.func25, Tryd.ntmps25
    go_wp2
    go_ret
    exact ⟨-1, rfl, by omega, fun h => by omega, Below.refl _ _⟩
  · have hd : decide (left - (C : Int) < 0) = false := by simp; omega
    go_enter Tryd.func25, Tryd.ntmps25
    go_wp2
    clear hw hd
    go_loopw [1, 5] (fun l i wr => ∃ (k : Nat) (r : Int), k ≤ C ∧ i = .int .i64 k ∧ l = .int .i64 r ∧ 0 ≤ r ∧ r ≤ left ∧ Below w.heap.size w wr ∧ Hid (∀ c, c < k → L c ≤ 1048576)) (fun _ i _ => C - (intOf i).toNat)
    case atStart => exact ⟨0, left - C, Nat.zero_le _, rfl, rfl, by omega, by omega, Below.refl _ _, hide fun c hc => by omega⟩
    case round =>
      obtain ⟨k, r, hk, rfl, rfl, hr0, hrl, hbk, HK⟩ := hrel
      by_cases hlt : k < C
      · obtain ⟨p, off, rfl, hc⟩ := hs (by omega)
        obtain ⟨ia, ic, q0', hr⟩ := hc k hlt
        have q0 : wr.cell? ⟨p, off + k, none⟩ = some (.slice ia (L k) ic) := Below.keep hbk _ _ q0'
        have hLk := hL k hlt
        have hk0 : (0 : Int) ≤ (k : Int) := by omega
        have hk1 : (k : Int) < (C : Int) := by omega
        clear hs hc q0' hr
        by_cases hx : r < L k
        · go_wp2_with fail
          refine (szS_no ia (L k) ic r _ hr0 (by omega) hLk hx).mono ?_
          rintro e w2 ⟨rfl, rfl⟩
          go_wp2
          go_ret
          exact ⟨-1, rfl, by omega, fun h => by omega, hbk⟩
        · have hd : decide (r - (L k : Int) < 0) = false := by simp; omega
          have HK2 : Hid (∀ c, c < k + 1 → L c ≤ 1048576) := hide (fun c hc => by
            by_cases e : c = k
            · subst e; omega
            · exact HK.out c (by omega))
          go_wp2_with fail
          refine (szS_yes ia (L k) ic r _ hr0 (by omega) (by omega)).mono ?_
          rintro e w2 ⟨rfl, rfl⟩
          go_wp2
          go_roundw
          case rel => exact ⟨k + 1, r - L k, by omega, by go_num, rfl, by omega, by omega, hbk, HK2⟩
          case measure => simp [intOf]; omega
      · clear hs
        go_wp2
        go_ret
        exact ⟨r, rfl, by omega, fun _ => ⟨by omega, fun c hc => HK.out c (by omega)⟩, hbk⟩

end Go.Proofs.YtfckacabaajnkaaDoor
