/- the marks of rows of rows, of lines, of a machine -/
import Derived.Test.YtacgfeddbcoigaaMkA
namespace Go.Proofs.Ytacgfeddbcoigaa
open Go.RowKit
set_option linter.unusedVariables false
set_option linter.unusedSimpArgs false

/-- rows of slots that may be written -/
def MSs (w : World) (g E C : Nat) (L : Nat → Nat) : Prop := ∀ c, c < C → ∃ ib, w.cell? ⟨g, c, none⟩ = some (.slice (some ⟨ib, 0, none⟩) (L c) (L c)) ∧ (g < ib ∧ ib < E) ∧ Wc w ib (L c * 4)

set_option maxHeartbeats 2000000 in
theorem markSlotSS_any (g E C cap : Nat) (L : Nat → Nat) (k0 : Int) (w : World) (h0 : 0 ≤ k0) (h1 : k0 ≤ 144115188075855872) (hw : MSs w g E C L) (hC : C ≤ 1048576) (hL : ∀ c, c < C → L c ≤ 1048576) :
    Calls Try.prog 14 #[.slice (some ⟨g, 0, none⟩) C cap, .int .i64 k0] w fun e w' => ∃ k1, e = .returned (.int .i64 k1) ∧ (k0 ≤ k1 ∧ k1 ≤ k0 + 4194304 * C) ∧ Chg (fun j => g < j ∧ j < E) w w' := by
  go_enter Try.func14, Try.ntmps14
  go_wp2
  go_loopw [1, 5] (fun t i wr => ∃ (j : Nat) (kk : Int), j ≤ C ∧ i = .int .i64 j ∧ t = .int .i64 kk ∧ (k0 ≤ kk ∧ kk ≤ k0 + 4194304 * j) ∧ Chg (fun j => g < j ∧ j < E) w wr) (fun _ i _ => C - (intOf i).toNat)
  case atStart => exact ⟨0, k0, Nat.zero_le _, rfl, rfl, ⟨by omega, by omega⟩, Chg.refl _ _⟩
  case round =>
    obtain ⟨j, kk, hj, rfl, rfl, ⟨hk1, hk2⟩, hgj⟩ := hrel
    by_cases hlt : j < C
    · obtain ⟨ib, hc, ⟨hi1, hi2⟩, hwc⟩ := hw j hlt
      have hc' := hgj.cell (by simp) hc
      have hw' := hgj.keep _ _ hwc
      have hLj := hL j hlt
      generalize L j = m at hc' hw' hLj
      clear hc hwc hw hL
      go_wp2_with fail
      refine (mk4_any ib m m kk _ (by omega) (by omega) hw' hLj).mono ?_
      rintro e w2 ⟨rfl, hg2⟩
      have HG := hide (hgj.trans (hg2.mono (R := fun j => g < j ∧ j < E) (fun j hj => by have hj : j = ib := hj; subst hj; exact ⟨hi1, hi2⟩)))
      clear hgj hg2 hc' hw'
      go_wp2
      go_roundw
      case rel => exact ⟨j + 1, _, by omega, by go_num, rfl, ⟨by omega, by omega⟩, HG.out⟩
      case measure => simp [intOf]; omega
    · have e : j = C := by omega
      subst e
      go_wp2
      go_ret
      exact ⟨kk, rfl, ⟨hk1, hk2⟩, hgj⟩

/-- lines that may be written: Z c sharers, Q c requests -/
def MLs (w : World) (g E N : Nat) (Z Q : Nat → Nat) : Prop := Wc w g (N * 7) ∧ ∀ c, c < N → (∃ sb, w.cell? ⟨g, c * 7 + 2, none⟩ = some (.slice (some ⟨sb, 0, none⟩) (Z c) (Z c)) ∧ (g < sb ∧ sb < E) ∧ Wc w sb (Z c)) ∧ ∃ qb, w.cell? ⟨g, c * 7 + 6, none⟩ = some (.slice (some ⟨qb, 0, none⟩) (Q c) (Q c)) ∧ (g < qb ∧ qb < E) ∧ Wc w qb (Q c * 2)
theorem far_set {w : World} {g i k : Nat} {v : Value} (h : i ≠ k) : (w.setCell ⟨g, i, none⟩ v).cell? ⟨g, k, none⟩ = w.cell? ⟨g, k, none⟩ := World.cell?_setCell_other _ _ _ _ (fun e => h (congrArg Addr.off e))
/-- a line's lists stand where they stood -/
def Same (w wr : World) (g N : Nat) : Prop := ∀ c, c < N → wr.cell? ⟨g, c * 7 + 2, none⟩ = w.cell? ⟨g, c * 7 + 2, none⟩ ∧ wr.cell? ⟨g, c * 7 + 6, none⟩ = w.cell? ⟨g, c * 7 + 6, none⟩
theorem Same.set {w wr : World} {g N i : Nat} (h : Same w wr g N) (h2 : ∀ c, i ≠ c * 7 + 2 ∧ i ≠ c * 7 + 6) (v : Value) : Same w (wr.setCell ⟨g, i, none⟩ v) g N := by
  intro c hc
  obtain ⟨a, b⟩ := h c hc
  refine ⟨?_, ?_⟩
  · rw [far_set (h2 c).1]; exact a
  · rw [far_set (h2 c).2]; exact b
theorem Same.chg {w wr w2 : World} {g N b : Nat} (h : Same w wr g N) (hc : Chg (· = b) wr w2) (hb : g < b) (hg : g < wr.heap.size) : Same w w2 g N := by
  intro c hcc
  obtain ⟨x, y⟩ := h c hcc
  have e := hc.block g hg (fun h => by have h : g = b := h; omega)
  refine ⟨?_, ?_⟩
  · rw [← x]; simp only [World.cell?]; rw [e]
  · rw [← y]; simp only [World.cell?]; rw [e]

set_option maxHeartbeats 4000000 in
theorem markLineS_any (g E N cap : Nat) (Z Q : Nat → Nat) (k0 : Int) (w : World) (h0 : 0 ≤ k0) (h1 : k0 ≤ 144115188075855872) (hw : MLs w g E N Z Q) (hgE : g < E) (hN : N ≤ 1048576) (hL : ∀ c, c < N → Z c ≤ 1048576 ∧ Q c ≤ 1048576) :
    Calls Try.prog 15 #[.slice (some ⟨g, 0, none⟩) N cap, .int .i64 k0] w fun e w' => ∃ k1, e = .returned (.int .i64 k1) ∧ (k0 ≤ k1 ∧ k1 ≤ k0 + 4194304 * N) ∧ Chg (fun j => g ≤ j ∧ j < E) w w' := by
  obtain ⟨hwg, hwl⟩ := hw
  go_enter Try.func15, Try.ntmps15
  go_wp2
  go_loopw [1, 5] (fun t i wr => ∃ (j : Nat) (kk : Int), j ≤ N ∧ i = .int .i64 j ∧ t = .int .i64 kk ∧ (k0 ≤ kk ∧ kk ≤ k0 + 4194304 * j) ∧ Hid (Same w wr g N) ∧ Chg (fun j => g ≤ j ∧ j < E) w wr) (fun _ i _ => N - (intOf i).toNat)
  case atStart => exact ⟨0, k0, Nat.zero_le _, rfl, rfl, ⟨by omega, by omega⟩, hide (fun c hc => ⟨rfl, rfl⟩), Chg.refl _ _⟩
  case round =>
    obtain ⟨j, kk, hj, rfl, rfl, ⟨hk1, hk2⟩, HS, hgj⟩ := hrel
    by_cases hlt : j < N
    · obtain ⟨⟨sb, hc2, ⟨hs1, hs2⟩, hws⟩, qb, hc6, ⟨hq1, hq2⟩, hwq⟩ := hwl j hlt
      have s2 : wr.cell? ⟨g, j * 7 + 2, none⟩ = some (.slice (some ⟨sb, 0, none⟩) (Z j) (Z j)) := (HS.out j hlt).1.trans hc2
      have s6 : wr.cell? ⟨g, j * 7 + 6, none⟩ = some (.slice (some ⟨qb, 0, none⟩) (Q j) (Q j)) := (HS.out j hlt).2.trans hc6
      have HWq := hide (hgj.keep _ _ hwq)
      have HWs := hide (hgj.keep _ _ hws)
      have HWg := hide (hgj.keep _ _ hwg)
      obtain ⟨hZj, hQj⟩ := hL j hlt
      generalize Z j = mz at s2 HWs hZj
      generalize Q j = mq at s6 HWq hQj
      obtain ⟨fr, hcs⟩ := HWg.out.facts
      obtain ⟨o0, r0⟩ := hcs (j * 7) (by omega)
      obtain ⟨o1, r1⟩ := hcs (j * 7 + 1) (by omega)
      have HG := hide hgj
      clear hc2 hc6 hws hwq hwl hL hcs hgj
      go_wp2_with fail
      generalize hW : (wr.setCell ⟨g, j * 7, none⟩ (.int .i64 kk)).setCell ⟨g, j * 7 + 1, none⟩ (.int .i64 (kk + 1)) = W
      have HA : Hid (Chg (fun j => g ≤ j ∧ j < E) w W) := hide (by rw [← hW]; exact (HG.out.set ⟨Nat.le_refl _, hgE⟩ _).set ⟨Nat.le_refl _, hgE⟩ _)
      have HB : Hid (Same w W g N) := hide (by rw [← hW]; exact (HS.out.set (fun c => ⟨by omega, by omega⟩) _).set (fun c => ⟨by omega, by omega⟩) _)
      have HC : Hid (Wc W g (N * 7) ∧ Wc W sb mz ∧ Wc W qb (mq * 2)) := hide (by rw [← hW]; exact ⟨(HWg.out.set _).set _, (HWs.out.set _).set _, (HWq.out.set _).set _⟩)
      have HD : Hid (W.cell? ⟨g, j * 7 + 6, none⟩ = some (.slice (some ⟨qb, 0, none⟩) mq mq)) := hide (by
        rw [← hW, far_set (by omega), far_set (by omega)]; exact s6)
      clear hW HG HS HWq HWs HWg fr r0 r1 s2 s6
      refine (mk1_any sb mz mz _ W (by omega) (by omega) HC.out.2.1 hZj).mono ?_
      rintro e w2 ⟨rfl, hg2⟩
      have HA2 : Hid (Chg (fun j => g ≤ j ∧ j < E) w w2) := hide (HA.out.trans (hg2.mono (fun j hj => by have hj : j = sb := hj; subst hj; exact ⟨by omega, hs2⟩)))
      have HB2 : Hid (Same w w2 g N) := hide (HB.out.chg hg2 hs1 HC.out.1.lt)
      have HC2 : Hid (Wc w2 g (N * 7) ∧ Wc w2 qb (mq * 2)) := hide ⟨hg2.keep _ _ HC.out.1, hg2.keep _ _ HC.out.2.2⟩
      have s6 : w2.cell? ⟨g, j * 7 + 6, none⟩ = some (.slice (some ⟨qb, 0, none⟩) mq mq) := hg2.cell (fun h => by have h : g = sb := h; omega) HD.out
      obtain ⟨fr, hcs⟩ := HC2.out.1.facts
      obtain ⟨o3, r3⟩ := hcs (j * 7 + 3) (by omega)
      obtain ⟨o4, r4⟩ := hcs (j * 7 + 4) (by omega)
      obtain ⟨o5, r5⟩ := hcs (j * 7 + 5) (by omega)
      clear hg2 HA HB HC HD hcs
      obtain ⟨k2, hk2'⟩ : ∃ k2 : Int, k2 = kk + 1 + 1 + mz := ⟨_, rfl⟩
      have hk3 : kk + 1 + 1 + (mz : Int) = k2 := hk2'.symm
      first | rw [hk3] | trace_state
      have hb1 : kk ≤ k2 := by omega
      have hb2 : k2 ≤ kk + 1048578 := by omega
      clear hk2' hk3
      go_wp2_with fail
      generalize hW : ((w2.setCell ⟨g, j * 7 + 3, none⟩ (.int .i64 k2)).setCell ⟨g, j * 7 + 4, none⟩ (.int .i64 (k2 + 1))).setCell ⟨g, j * 7 + 5, none⟩ (.int .i64 (k2 + 1 + 1)) = W2
      have HA : Hid (Chg (fun j => g ≤ j ∧ j < E) w W2) := hide (by rw [← hW]; exact ((HA2.out.set ⟨Nat.le_refl _, hgE⟩ _).set ⟨Nat.le_refl _, hgE⟩ _).set ⟨Nat.le_refl _, hgE⟩ _)
      have HB : Hid (Same w W2 g N) := hide (by rw [← hW]; exact ((HB2.out.set (fun c => ⟨by omega, by omega⟩) _).set (fun c => ⟨by omega, by omega⟩) _).set (fun c => ⟨by omega, by omega⟩) _)
      have HC : Hid (Wc W2 g (N * 7) ∧ Wc W2 qb (mq * 2)) := hide (by rw [← hW]; exact ⟨((HC2.out.1.set _).set _).set _, ((HC2.out.2.set _).set _).set _⟩)
      clear hW HA2 HB2 HC2 fr r3 r4 r5 s6
      refine (mk2_any qb mq mq _ W2 (by omega) (by omega) HC.out.2 hQj).mono ?_
      rintro e w4 ⟨rfl, hg4⟩
      have HA4 : Hid (Chg (fun j => g ≤ j ∧ j < E) w w4) := hide (HA.out.trans (hg4.mono (fun j hj => by have hj : j = qb := hj; subst hj; exact ⟨by omega, hq2⟩)))
      have HB4 : Hid (Same w w4 g N) := hide (HB.out.chg hg4 hq1 HC.out.1.lt)
      clear hg4 HA HB HC
      go_wp2
      go_roundw
      case rel => exact ⟨j + 1, _, by omega, by go_num, rfl, ⟨by omega, by omega⟩, HB4, HA4.out⟩
      case measure => simp [intOf]; omega
    · have e : j = N := by omega
      subst e
      go_wp2
      go_ret
      exact ⟨kk, rfl, ⟨hk1, hk2⟩, hgj⟩

theorem MLs.chg {S : Nat → Prop} {w w' : World} {g E N : Nat} {Z Q : Nat → Nat} (h : MLs w g E N Z Q) (hc : Chg S w w') (hS : ¬ S g) : MLs w' g E N Z Q := by
  obtain ⟨h1, h2⟩ := h
  refine ⟨hc.keep _ _ h1, fun c hcN => ?_⟩
  obtain ⟨⟨sb, a, b, d⟩, qb, a', b', d'⟩ := h2 c hcN
  exact ⟨⟨sb, hc.cell hS a, b, hc.keep _ _ d⟩, qb, hc.cell hS a', b', hc.keep _ _ d'⟩
theorem MSs.chg {S : Nat → Prop} {w w' : World} {g E C : Nat} {L : Nat → Nat} (h : MSs w g E C L) (hc : Chg S w w') (hS : ¬ S g) : MSs w' g E C L := by
  intro c hcC
  obtain ⟨ib, a, b, d⟩ := h c hcC
  exact ⟨ib, hc.cell hS a, b, hc.keep _ _ d⟩

set_option maxHeartbeats 4000000 in
theorem markMachine_any (g1 g2 g3 B E1 E C N n : Nat) (L Z Q : Nat → Nat) (w : World) (hw1 : MSs w g1 E1 C L) (hw2 : MLs w g2 E N Z Q) (hw3 : Wc w g3 (n * 6)) (hB1 : B ≤ g1) (hB2 : E1 ≤ g2 ∧ B ≤ g2 ∧ g2 < E) (hB3 : B ≤ g3 ∧ g3 < E) (hE : E ≤ w.heap.size)
    (hC : C ≤ 1048576) (hL : ∀ c, c < C → L c ≤ 1048576) (hN : N ≤ 1048576) (hG : ∀ c, c < N → Z c ≤ 1048576 ∧ Q c ≤ 1048576) (hn : n ≤ 1048576) :
    Calls Try.prog 7 #[.agg (mc3 (full g1 C) (full g2 N) (full g3 n)), .int .i64 1] w fun e w' => ∃ k1, e = .returned (.int .i64 k1) ∧ 0 ≤ k1 ∧ Chg (fun j => B ≤ j ∧ j < E) w w' := by
  have mb := mb_box w (full g1 C) (full g2 N) (full g3 n) 26
  have hA : Chg (fun j => False) w (w.alloc (.cells (mc3 (full g1 C) (full g2 N) (full g3 n)) 26)) := (Chg.refl _ _).alloc _
  replace hw1 := hw1.chg hA (fun h => h)
  replace hw2 := hw2.chg hA (fun h => h)
  replace hw3 := hA.keep _ _ hw3
  have hA2 : Chg (fun j => B ≤ j ∧ j < E) w (w.alloc (.cells (mc3 (full g1 C) (full g2 N) (full g3 n)) 26)) := (Chg.refl _ _).alloc _
  obtain ⟨_, c0, c1, c2⟩ := id mb
  clear hA mb
  go_enter Try.func7, Try.ntmps7
  go_wp2_with fail
  refine (markSlotSS_any g1 E1 C C L 1 _ (by omega) (by omega) hw1 hC hL).mono ?_
  rintro e w1 ⟨k1, rfl, ⟨hk1, hk2⟩, hg1⟩
  have d0 := hg1.cell (fun h => by have h : g1 < w.heap.size ∧ w.heap.size < E1 := h; omega) c0
  have d1 := hg1.cell (fun h => by have h : g1 < w.heap.size ∧ w.heap.size < E1 := h; omega) c1
  have d2 := hg1.cell (fun h => by have h : g1 < w.heap.size ∧ w.heap.size < E1 := h; omega) c2
  replace hw2 := hw2.chg hg1 (fun h => by have h : g1 < g2 ∧ g2 < E1 := h; omega)
  replace hw3 := hg1.keep _ _ hw3
  replace hA2 := hA2.trans (hg1.mono (R := fun j => B ≤ j ∧ j < E) (fun j hj => by have hj : g1 < j ∧ j < E1 := hj; exact ⟨by omega, by omega⟩))
  clear hg1 c0 c1 c2 hw1
  go_wp2_with fail
  refine (markLineS_any g2 E N N Z Q k1 _ (by omega) (by omega) hw2 hB2.2.2 hN hG).mono ?_
  rintro e w2 ⟨k2, rfl, ⟨hk3, hk4⟩, hg2⟩
  have e0 := hg2.cell (fun h => by have h : g2 ≤ w.heap.size ∧ w.heap.size < E := h; omega) d0
  have e1 := hg2.cell (fun h => by have h : g2 ≤ w.heap.size ∧ w.heap.size < E := h; omega) d1
  have e2 := hg2.cell (fun h => by have h : g2 ≤ w.heap.size ∧ w.heap.size < E := h; omega) d2
  replace hw3 := hg2.keep _ _ hw3
  replace hA2 := hA2.trans (hg2.mono (R := fun j => B ≤ j ∧ j < E) (fun j hj => by have hj : g2 ≤ j ∧ j < E := hj; exact ⟨by omega, by omega⟩))
  clear hg2 d0 d1 d2 hw2
  go_wp2_with fail
  refine (mk6_any g3 n n k2 _ (by omega) (by omega) hw3 hn).mono ?_
  rintro e w3 ⟨rfl, hg3⟩
  have HA := hide (hA2.trans (hg3.mono (R := fun j => B ≤ j ∧ j < E) (fun j hj => by have hj : j = g3 := hj; subst hj; exact hB3)))
  clear hg3 hA2 e0 e1 e2 hw3
  go_wp2
  go_ret
  exact ⟨_, rfl, by omega, HA.out⟩
end Go.Proofs.Ytacgfeddbcoigaa
