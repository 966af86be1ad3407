/- szLine at any room left, szLineS, szMachine -/
import Derived.Test.YtfckacabaajnkaaDoorMsJ
import Derived.Test.YtfckacabaajnkaaDoorMsI
namespace Go.Proofs.YtfckacabaajnkaaDoor
open Go.RowKit
set_option linter.unusedVariables false
set_option linter.unusedSimpArgs false

set_option maxHeartbeats 2000000 in
theorem szLineL_any (mem ow : Int) (sa : Option Addr) (sn sc : Nat) (bu wt ac : Int) (qa : Option Addr) (qn qc : Nat) (left : Int) (w : World) (h0 : 0 ≤ left) (hm : left ≤ 1048576) (hS : (sn : Int) ≤ 9223372036854775807) (hQ : (qn : Int) ≤ 9223372036854775807) :
    Calls Tryd.prog 52 #[.agg (ln7 mem ow (.slice sa sn sc) bu wt ac (.slice qa qn qc)), .int .i64 left] w fun e w' => ∃ r : Int, e = .returned (.int .i64 r) ∧ (-1 ≤ r ∧ r ≤ left) ∧ (0 ≤ r → sn ≤ 1048576 ∧ qn ≤ 1048576) ∧ Below w.heap.size w w' := by
  have lb := lb_box w mem ow (.slice sa sn sc) bu wt ac (.slice qa qn qc) 82
  by_cases h1 : left < sn
  · go_enter Tryd.func52, Tryd.ntmps52
    go_wp2_with fail
    refine (szI_no sa sn sc _ _ h0 hm hS h1).mono ?_
    rintro e w1 ⟨rfl, rfl⟩
    go_wp2
    go_ret
    exact ⟨-1, rfl, by omega, fun h => by omega, lb.1⟩
  · have hd1 : decide (left - (sn : Int) < 0) = false := by simp; omega
    by_cases h2 : left - sn < qn
    · go_enter Tryd.func52, Tryd.ntmps52
      go_wp2_with fail
      refine (szI_yes sa sn sc _ _ h0 hm (by omega)).mono ?_
      rintro e w1 ⟨rfl, rfl⟩
      go_wp2_with fail
      refine (szR_no qa qn qc _ _ (by omega) (by omega) hQ h2).mono ?_
      rintro e w1 ⟨rfl, rfl⟩
      go_wp2
      go_ret
      exact ⟨-1, rfl, by omega, fun h => by omega, lb.1⟩
    · have hd2 : decide (left - (sn : Int) - qn < 0) = false := by simp; omega
      go_enter Tryd.func52, Tryd.ntmps52
      go_wp2_with fail
      refine (szI_yes sa sn sc _ _ h0 hm (by omega)).mono ?_
      rintro e w1 ⟨rfl, rfl⟩
      go_wp2_with fail
      refine (szR_yes qa qn qc _ _ (by omega) (by omega) (by omega)).mono ?_
      rintro e w1 ⟨rfl, rfl⟩
      go_wp2
      go_ret
      exact ⟨_, rfl, by omega, fun _ => ⟨by omega, by omega⟩, lb.1⟩

set_option maxHeartbeats 2000000 in
theorem szLineS_any (v : Value) (N : Nat) (G : Nat → LnD) (left : Int) (w : World) (h0 : 0 ≤ left) (hm : left ≤ 1048576) (hs : Ls w v N G) (hN : (N : Int) ≤ 9223372036854775807) (hG : ∀ c, c < N → ((G c).zs.length : Int) ≤ 9223372036854775807 ∧ ((G c).qn : Int) ≤ 9223372036854775807) :
    Calls Tryd.prog 26 #[v, .int .i64 left] w fun e w' => ∃ r : Int, e = .returned (.int .i64 r) ∧ (-1 ≤ r ∧ r ≤ left) ∧ (0 ≤ r → N ≤ 1048576 ∧ ∀ c, c < N → (G c).zs.length ≤ 1048576 ∧ (G c).qn ≤ 1048576) ∧ Below w.heap.size w w' := by
  obtain ⟨ad, cap, rfl, hs⟩ := hs
  have hw : wrap64 (left - (N : Int)) = left - N := Go.IntWalk.wrap64_in _ (by omega)
  by_cases h : left < N
  · have hd : decide (left - (N : Int) < 0) = true := by simp; omega
    clear hs
    go_enter Tryd.func26, Tryd.ntmps26
    go_wp2
    go_ret
    exact ⟨-1, rfl, by omega, fun h => by omega, Below.refl _ _⟩
  · have hd : decide (left - (N : Int) < 0) = false := by simp; omega
    go_enter Tryd.func26, Tryd.ntmps26
    go_wp2
    clear hw hd
    go_loopw [1, 5] (fun l i wr => ∃ (k : Nat) (r : Int), k ≤ N ∧ i = .int .i64 k ∧ l = .int .i64 r ∧ 0 ≤ r ∧ r ≤ left ∧ Below w.heap.size w wr ∧ Hid (∀ c, c < k → (G c).zs.length ≤ 1048576 ∧ (G c).qn ≤ 1048576)) (fun _ i _ => N - (intOf i).toNat)
    case atStart => exact ⟨0, left - N, Nat.zero_le _, rfl, rfl, by omega, by omega, Below.refl _ _, hide fun c hc => by omega⟩
    case round =>
      obtain ⟨k, r, hk, rfl, rfl, hr0, hrl, hbk, HK⟩ := hrel
      by_cases hlt : k < N
      · obtain ⟨p, off, rfl, hc⟩ := hs (by omega)
        obtain ⟨sa, sc, qa, qc, ⟨c0, c1, c2, c3, c4, c5, c6⟩, s1, t1⟩ := (hc k hlt).below hbk
        obtain ⟨hL1, hL2⟩ := hG k hlt
        have hk0 : (0 : Int) ≤ (k : Int) := by omega
        have hk1 : (k : Int) < (N : Int) := by omega
        clear hs hc s1 t1
        go_wp2_with fail
        refine (szLineL_any _ _ _ _ _ _ _ _ _ _ _ r _ hr0 (by omega) hL1 hL2).mono ?_
        rintro e w2 ⟨r2, rfl, hr2, hr3, hb2⟩
        have hbw := hbk.trans (hb2.mono hbk.size)
        clear hb2 c0 c1 c2 c3 c4 c5 c6
        by_cases hx : r2 < 0
        · go_wp2
          go_ret
          exact ⟨-1, rfl, by omega, fun h => by omega, hbw⟩
        · have HK2 : Hid (∀ c, c < k + 1 → (G c).zs.length ≤ 1048576 ∧ (G c).qn ≤ 1048576) := hide (fun c hc => by
            by_cases e : c = k
            · subst e; exact hr3 (by omega)
            · exact HK.out c (by omega))
          clear hr3
          go_wp2
          go_roundw
          case rel => exact ⟨k + 1, r2, by omega, by go_num, rfl, by omega, by omega, hbw, HK2⟩
          case measure => simp [intOf]; omega
      · clear hs
        go_wp2
        go_ret
        exact ⟨r, rfl, by omega, fun _ => ⟨by omega, fun c hc => HK.out c (by omega)⟩, hbk⟩

set_option maxHeartbeats 2000000 in
theorem szMachine_any (sv lv : Value) (qa : Option Addr) (n qc C N : Nat) (L : Nat → Nat) (F : Nat → Nat → Nat → Int) (G : Nat → LnD) (w : World) (hs : Ss w sv C L F) (hl : Ls w lv N G)
    (hC : (C : Int) ≤ 9223372036854775807) (hL : ∀ c, c < C → (L c : Int) ≤ 9223372036854775807) (hN : (N : Int) ≤ 9223372036854775807) (hG : ∀ c, c < N → ((G c).zs.length : Int) ≤ 9223372036854775807 ∧ ((G c).qn : Int) ≤ 9223372036854775807) (hn : (n : Int) ≤ 9223372036854775807) :
    Calls Tryd.prog 8 #[.agg (mc3 sv lv (.slice qa n qc)), .int .i64 1048576] w fun e w' => ∃ r : Int, e = .returned (.int .i64 r) ∧ (0 ≤ r → (C ≤ 1048576 ∧ ∀ c, c < C → L c ≤ 1048576) ∧ (N ≤ 1048576 ∧ ∀ c, c < N → (G c).zs.length ≤ 1048576 ∧ (G c).qn ≤ 1048576) ∧ n ≤ 1048576) ∧ Below w.heap.size w w' := by
  have mb := mb_box w sv lv (.slice qa n qc) 26
  go_enter Tryd.func8, Tryd.ntmps8
  go_wp2_with fail
  refine (szSlotSS_any sv C L F 1048576 _ (by decide) (by decide) (hs.below mb.1) hC hL).mono ?_
  rintro e w1 ⟨r1, rfl, hr1, hp1, hb1⟩
  have m1 := mb.next hb1
  clear mb hb1
  obtain ⟨_, c0, c1, c2⟩ := id m1
  by_cases h1 : r1 < 0
  · clear hp1
    go_wp2
    go_ret
    exact ⟨-1, rfl, fun h => by omega, m1.1⟩
  · have HP1 := hide (hp1 (by omega))
    clear hp1
    go_wp2_with fail
    refine (szLineS_any lv N G r1 _ (by omega) (by omega) (hl.below m1.1) hN hG).mono ?_
    rintro e w2 ⟨r2, rfl, hr2, hp2, hb2⟩
    have m2 := m1.next hb2
    clear m1 hb2 c0 c1 c2
    obtain ⟨_, c0, c1, c2⟩ := id m2
    by_cases h2 : r2 < 0
    · clear hp2
      go_wp2
      go_ret
      exact ⟨-1, rfl, fun h => by omega, m2.1⟩
    · have HP2 := hide (hp2 (by omega))
      clear hp2
      by_cases h3 : r2 < n
      · go_wp2_with fail
        refine (szM_no qa n qc r2 _ (by omega) (by omega) hn h3).mono ?_
        rintro e w3 ⟨rfl, rfl⟩
        go_wp2
        go_ret
        exact ⟨-1, rfl, fun h => by omega, m2.1⟩
      · have hd : decide (r2 - (n : Int) < 0) = false := by simp; omega
        go_wp2_with fail
        refine (szM_yes qa n qc r2 _ (by omega) (by omega) (by omega)).mono ?_
        rintro e w3 ⟨rfl, rfl⟩
        go_wp2
        go_ret
        exact ⟨_, rfl, fun _ => ⟨HP1.out, HP2.out, by omega⟩, m2.1⟩

end Go.Proofs.YtfckacabaajnkaaDoor
