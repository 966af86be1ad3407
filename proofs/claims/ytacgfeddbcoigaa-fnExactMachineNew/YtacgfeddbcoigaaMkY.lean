/- the marks of lines with no lists, of a machine with no mail; what is read of them (written by mkMkY.py) -/
import Derived.Test.YtacgfeddbcoigaaMkX
namespace Go.Proofs.Ytacgfeddbcoigaa
open Go.RowKit
set_option linter.unusedVariables false
set_option linter.unusedSimpArgs false

set_option maxHeartbeats 400000 in
theorem mkSS_nil (k0 : Int) (w : World) : Calls Try.prog 14 #[.slice none 0 0, .int .i64 k0] w fun e w' => e = .returned (.int .i64 k0) ∧ w' = w := by
  go_enter Try.func14, Try.ntmps14
  go_wp2
  go_loopw [1, 5] (fun t i wr => i = .int .i64 0 ∧ t = .int .i64 k0 ∧ wr = w) (fun _ i _ => (intOf i).toNat)
  case atStart => exact ⟨rfl, rfl, rfl⟩
  case round =>
    obtain ⟨rfl, rfl, rfl⟩ := hrel
    go_wp2
    go_ret
    exact ⟨rfl, rfl⟩

set_option maxHeartbeats 400000 in
theorem mkLS_nil (k0 : Int) (w : World) : Calls Try.prog 15 #[.slice none 0 0, .int .i64 k0] w fun e w' => e = .returned (.int .i64 k0) ∧ w' = w := by
  go_enter Try.func15, Try.ntmps15
  go_wp2
  go_loopw [1, 5] (fun t i wr => i = .int .i64 0 ∧ t = .int .i64 k0 ∧ wr = w) (fun _ i _ => (intOf i).toNat)
  case atStart => exact ⟨rfl, rfl, rfl⟩
  case round =>
    obtain ⟨rfl, rfl, rfl⟩ := hrel
    go_wp2
    go_ret
    exact ⟨rfl, rfl⟩

set_option maxHeartbeats 400000 in
theorem heldSS_nil (k0 : Int) (w : World) : Calls Try.prog 17 #[.slice none 0 0, .int .i64 k0] w fun e w' => e = .returned (.int .i64 k0) ∧ w' = w := by
  go_enter Try.func17, Try.ntmps17
  go_wp2
  go_loopw [1, 5] (fun t i wr => i = .int .i64 0 ∧ t = .int .i64 k0 ∧ wr = w) (fun _ i _ => (intOf i).toNat)
  case atStart => exact ⟨rfl, rfl, rfl⟩
  case round =>
    obtain ⟨rfl, rfl, rfl⟩ := hrel
    go_wp2
    go_ret
    exact ⟨rfl, rfl⟩

set_option maxHeartbeats 400000 in
theorem heldLS_nil (k0 : Int) (w : World) : Calls Try.prog 18 #[.slice none 0 0, .int .i64 k0] w fun e w' => e = .returned (.int .i64 k0) ∧ w' = w := by
  go_enter Try.func18, Try.ntmps18
  go_wp2
  go_loopw [1, 5] (fun t i wr => i = .int .i64 0 ∧ t = .int .i64 k0 ∧ wr = w) (fun _ i _ => (intOf i).toNat)
  case atStart => exact ⟨rfl, rfl, rfl⟩
  case round =>
    obtain ⟨rfl, rfl, rfl⟩ := hrel
    go_wp2
    go_ret
    exact ⟨rfl, rfl⟩

/-- no lists -/
def NoL (w : World) (g N : Nat) : Prop := ∀ c, c < N → w.cell? ⟨g, c * 7 + 2, none⟩ = some (.slice none 0 0) ∧ w.cell? ⟨g, c * 7 + 6, none⟩ = some (.slice none 0 0)
/-- the first n lines hold k, k + 1, .. -/
def VL (w : World) (g n : Nat) (k : Int) : Prop := ∀ c : Nat, c < n → w.cell? ⟨g, c * 7, none⟩ = some (.int .i64 (k + 5 * c)) ∧ w.cell? ⟨g, c * 7 + 1, none⟩ = some (.int .i64 (k + 5 * c + 1)) ∧ w.cell? ⟨g, c * 7 + 3, none⟩ = some (.int .i64 (k + 5 * c + 1 + 1)) ∧ w.cell? ⟨g, c * 7 + 4, none⟩ = some (.int .i64 (k + 5 * c + 1 + 1 + 1)) ∧ w.cell? ⟨g, c * 7 + 5, none⟩ = some (.int .i64 (k + 5 * c + 1 + 1 + 1 + 1))
theorem same_set {w : World} {g x len : Nat} {v : Value} (hw : Wc w g len) (hx : x < len) : (w.setCell ⟨g, x, none⟩ v).cell? ⟨g, x, none⟩ = some v := by
  obtain ⟨u, hu⟩ := hw.facts.2 x hx
  rw [World.cell?_setCell_same (h := hu)]
theorem five {w : World} {g b len : Nat} {z0 z1 z2 z3 z4 : Value} (hw : Wc w g len) (hb : b + 6 < len) (W : World) (hW : W = ((((w.setCell ⟨g, b, none⟩ z0).setCell ⟨g, b + 1, none⟩ z1).setCell ⟨g, b + 3, none⟩ z2).setCell ⟨g, b + 4, none⟩ z3).setCell ⟨g, b + 5, none⟩ z4) :
    (∀ y, y ≠ b → y ≠ b + 1 → y ≠ b + 3 → y ≠ b + 4 → y ≠ b + 5 → W.cell? ⟨g, y, none⟩ = w.cell? ⟨g, y, none⟩) ∧ W.cell? ⟨g, b, none⟩ = some z0 ∧ W.cell? ⟨g, b + 1, none⟩ = some z1 ∧ W.cell? ⟨g, b + 3, none⟩ = some z2 ∧ W.cell? ⟨g, b + 4, none⟩ = some z3 ∧ W.cell? ⟨g, b + 5, none⟩ = some z4 := by
  subst hW
  refine ⟨fun y h0 h1 h2 h3 h4 => ?_, ?_, ?_, ?_, ?_, ?_⟩
  · rw [far_set (by omega), far_set (by omega), far_set (by omega), far_set (by omega), far_set (by omega)]
  · rw [far_set (by omega), far_set (by omega), far_set (by omega), far_set (by omega)]; exact same_set hw (by omega)
  · rw [far_set (by omega), far_set (by omega), far_set (by omega)]; exact same_set (hw.set _) (by omega)
  · rw [far_set (by omega), far_set (by omega)]; exact same_set ((hw.set _).set _) (by omega)
  · rw [far_set (by omega)]; exact same_set (((hw.set _).set _).set _) (by omega)
  · exact same_set ((((hw.set _).set _).set _).set _) (by omega)
theorem VL.step {w : World} {g N j : Nat} {k : Int} (hw : Wc w g (N * 7)) (hj : j < N) (h : VL w g j k) (hn : NoL w g N) (W : World) (hW : W = ((((w.setCell ⟨g, j * 7, none⟩ (.int .i64 (k + 5 * j))).setCell ⟨g, j * 7 + 1, none⟩ (.int .i64 (k + 5 * j + 1))).setCell ⟨g, j * 7 + 3, none⟩ (.int .i64 (k + 5 * j + 1 + 1))).setCell ⟨g, j * 7 + 4, none⟩ (.int .i64 (k + 5 * j + 1 + 1 + 1))).setCell ⟨g, j * 7 + 5, none⟩ (.int .i64 (k + 5 * j + 1 + 1 + 1 + 1))) : VL W g (j + 1) k ∧ NoL W g N := by
  obtain ⟨hf, a0, a1, a2, a3, a4⟩ := five hw (by omega) W hW
  refine ⟨fun c hc => ?_, fun c hc => ?_⟩
  · by_cases e : c = j
    · subst e; exact ⟨a0, a1, a2, a3, a4⟩
    · obtain ⟨b0, b1, b2, b3, b4⟩ := h c (by omega)
      refine ⟨?_, ?_, ?_, ?_, ?_⟩
      · rw [hf _ (by omega) (by omega) (by omega) (by omega) (by omega)]; exact b0
      · rw [hf _ (by omega) (by omega) (by omega) (by omega) (by omega)]; exact b1
      · rw [hf _ (by omega) (by omega) (by omega) (by omega) (by omega)]; exact b2
      · rw [hf _ (by omega) (by omega) (by omega) (by omega) (by omega)]; exact b3
      · rw [hf _ (by omega) (by omega) (by omega) (by omega) (by omega)]; exact b4
  · obtain ⟨b2, b6⟩ := hn c hc
    refine ⟨?_, ?_⟩
    · rw [hf _ (by omega) (by omega) (by omega) (by omega) (by omega)]; exact b2
    · rw [hf _ (by omega) (by omega) (by omega) (by omega) (by omega)]; exact b6

set_option maxHeartbeats 4000000 in
theorem markLineSv (g N cap : Nat) (k : Int) (w : World) (h0 : 0 ≤ k) (h1 : k ≤ 10000) (hw : Wc w g (N * 7)) (hn : NoL w g N) (hN : N ≤ 4) :
    Calls Try.prog 15 #[.slice (some ⟨g, 0, none⟩) N cap, .int .i64 k] w fun e w' => e = .returned (.int .i64 (k + 5 * N)) ∧ Chg (· = g) w w' ∧ VL w' g N k ∧ NoL w' g N := by
  go_enter Try.func15, Try.ntmps15
  go_wp2
  go_loopw [1, 5] (fun t i wr => ∃ j : Nat, j ≤ N ∧ i = .int .i64 j ∧ t = .int .i64 (k + 5 * j) ∧ Chg (· = g) w wr ∧ Hid (VL wr g j k ∧ NoL wr g N)) (fun _ i _ => N - (intOf i).toNat)
  case atStart => exact ⟨0, Nat.zero_le _, rfl, by simp, Chg.refl _ _, hide ⟨fun c hc => by omega, hn⟩⟩
  case round =>
    obtain ⟨j, hj, rfl, rfl, hgj, HV⟩ := hrel
    by_cases hlt : j < N
    · have HW := hide (hgj.keep _ _ hw)
      obtain ⟨fr, hc⟩ := HW.out.facts
      obtain ⟨o0, r0⟩ := hc (j * 7) (by omega)
      obtain ⟨o1, r1⟩ := hc (j * 7 + 1) (by omega)
      obtain ⟨o3, r3⟩ := hc (j * 7 + 3) (by omega)
      obtain ⟨o4, r4⟩ := hc (j * 7 + 4) (by omega)
      obtain ⟨o5, r5⟩ := hc (j * 7 + 5) (by omega)
      obtain ⟨n2, n6⟩ := HV.out.2 j hlt
      have HP := hide (VL.step HW.out hlt HV.out.1 HV.out.2 _ rfl)
      have HB := hide hgj
      clear hgj hc hw HV HW hn
      go_wp2_with fail
      refine (mk1_nil _ _).mono ?_
      rintro e w2 ⟨rfl, rfl⟩
      go_wp2_with fail
      refine (mk2_nil _ _).mono ?_
      rintro e w3 ⟨rfl, rfl⟩
      go_wp2
      go_roundw
      case rel => exact ⟨j + 1, by omega, by go_num, by go_num, ((((HB.out.set rfl _).set rfl _).set rfl _).set rfl _).set rfl _, HP⟩
      case measure => simp [intOf]; omega
    · have e : j = N := by omega
      subst e
      go_wp2
      go_ret
      exact ⟨rfl, hgj, HV.out.1, HV.out.2⟩

set_option maxHeartbeats 4000000 in
theorem heldLineSv (g N cap : Nat) (k : Int) (w : World) (h0 : 0 ≤ k) (h1 : k ≤ 10000) (hv : VL w g N k) (hn : NoL w g N) (hN : N ≤ 4) :
    Calls Try.prog 18 #[.slice (some ⟨g, 0, none⟩) N cap, .int .i64 k] w fun e w' => e = .returned (.int .i64 (k + 5 * N)) ∧ w' = w := by
  go_enter Try.func18, Try.ntmps18
  go_wp2
  go_loopw [1, 5] (fun t i wr => ∃ j : Nat, j ≤ N ∧ i = .int .i64 j ∧ t = .int .i64 (k + 5 * j) ∧ wr = w) (fun _ i _ => N - (intOf i).toNat)
  case atStart => exact ⟨0, Nat.zero_le _, rfl, by simp, rfl⟩
  case round =>
    obtain ⟨j, hj, rfl, rfl, rfl⟩ := hrel
    by_cases hlt : j < N
    · obtain ⟨x0, x1, x3, x4, x5⟩ := hv j hlt
      obtain ⟨n2, n6⟩ := hn j hlt
      have hg1 : decide (k + 5 * (j : Int) + 1 + 1 < 0) = false := by simp; omega
      have hg2 : decide (k + 5 * (j : Int) + 1 + 1 + 1 + 1 + 1 < 0) = false := by simp; omega
      clear hv hn
      go_wp2_with fail
      refine (held1_nil _ _).mono ?_
      rintro e w2 ⟨rfl, rfl⟩
      go_wp2_with fail
      refine (held2_nil _ _).mono ?_
      rintro e w3 ⟨rfl, rfl⟩
      go_wp2
      go_roundw
      case rel => exact ⟨j + 1, by omega, by go_num, by go_num, by first | rfl | trivial⟩
      case measure => simp [intOf]; omega
    · have e : j = N := by omega
      subst e
      go_wp2
      go_ret
      exact ⟨rfl, rfl⟩

/-- a machine's marks -/
structure MV (w : World) (g1 g2 C N : Nat) (ib : Nat → Nat) : Prop where
  row : ∀ c, c < C → w.cell? ⟨g1, c, none⟩ = some (.slice (some ⟨ib c, 0, none⟩) N N)
  slots : ∀ c, c < C → Vr w (ib c) (N * 4) (ks 1 N c)
  lines : VL w g2 N (ks 1 N C)
  nol : NoL w g2 N
theorem VL.below {w w' : World} {g n : Nat} {k : Int} (h : VL w g n k) (hb : Below w.heap.size w w') : VL w' g n k := fun c hc => by
  obtain ⟨a, b, d, e, f⟩ := h c hc
  exact ⟨keepc hb a, keepc hb b, keepc hb d, keepc hb e, keepc hb f⟩
theorem NoL.below {w w' : World} {g n : Nat} (h : NoL w g n) (hb : Below w.heap.size w w') : NoL w' g n := fun c hc => ⟨keepc hb (h c hc).1, keepc hb (h c hc).2⟩
theorem MV.below {w w' : World} {g1 g2 C N : Nat} {ib : Nat → Nat} (h : MV w g1 g2 C N ib) (hb : Below w.heap.size w w') : MV w' g1 g2 C N ib :=
  ⟨fun c hc => keepc hb (h.row c hc), fun c hc => (h.slots c hc).below hb, h.lines.below hb, h.nol.below hb⟩

set_option maxHeartbeats 4000000 in
theorem markMachinev (g1 g2 C N : Nat) (ib : Nat → Nat) (w : World) (hR : RV w g1 C N ib) (hw : Wc w g2 (N * 7)) (hn : NoL w g2 N) (h12 : g1 ≠ g2) (hi2 : ∀ c, c < C → ib c ≠ g2) (hg1 : g1 < w.heap.size) (hC : C ≤ 5) (hN : N ≤ 4) :
    Calls Try.prog 7 #[.agg (mc3 (full g1 C) (full g2 N) (.slice none 0 0)), .int .i64 1] w fun e w' => e = .returned (.int .i64 (ks 1 N C + 5 * N)) ∧ Chg (fun x => x = g2 ∨ ∃ c, c < C ∧ x = ib c) w w' ∧ MV w' g1 g2 C N ib := by
  have mb := mb_box w (full g1 C) (full g2 N) (.slice none 0 0) 26
  have hA : Chg (fun j => False) w (w.alloc (.cells (mc3 (full g1 C) (full g2 N) (.slice none 0 0)) 26)) := (Chg.refl _ _).alloc _
  have hA2 : Chg (fun x => x = g2 ∨ ∃ c, c < C ∧ x = ib c) w (w.alloc (.cells (mc3 (full g1 C) (full g2 N) (.slice none 0 0)) 26)) := (Chg.refl _ _).alloc _
  have hg2 := hw.lt
  have hil : ∀ c, c < C → ib c < w.heap.size := fun c hc => (hR.wc c hc).lt
  have hR2 : RV (w.alloc (.cells (mc3 (full g1 C) (full g2 N) (.slice none 0 0)) 26)) g1 C N ib := ⟨fun c hc => hA.cell id (hR.at_ c hc), fun c hc => hA.keep _ _ (hR.wc c hc), hR.ne, hR.inj⟩
  have hw2 := hA.keep _ _ hw
  have hn2 : NoL (w.alloc (.cells (mc3 (full g1 C) (full g2 N) (.slice none 0 0)) 26)) g2 N := fun c hc => ⟨hA.cell id (hn c hc).1, hA.cell id (hn c hc).2⟩
  have hkb := ks_bound 1 N hN C
  obtain ⟨_, c0, c1, c2⟩ := id mb
  clear hA mb hw hn
  go_enter Try.func7, Try.ntmps7
  go_wp2_with fail
  refine (markSlotSSv g1 C C N ib 1 _ (by omega) (by omega) hR2 hC hN).mono ?_
  rintro e w1 ⟨rfl, hg, hv⟩
  have hb : ∀ (x : Nat), (∃ c, c < C ∧ x = ib c) → x < w.heap.size := fun x ⟨c, hc, e⟩ => by rw [e]; exact hil c hc
  have d0 := hg.cell (fun h => by have := hb _ h; omega) c0
  have d1 := hg.cell (fun h => by have := hb _ h; omega) c1
  have d2 := hg.cell (fun h => by have := hb _ h; omega) c2
  have hS2 : ¬ (∃ c, c < C ∧ g2 = ib c) := fun ⟨c, hc, e⟩ => hi2 c hc e.symm
  have hS1 : ¬ (∃ c, c < C ∧ g1 = ib c) := fun ⟨c, hc, e⟩ => hR.ne c hc e.symm
  have hw3 := hg.keep _ _ hw2
  have hn3 : NoL w1 g2 N := fun c hc => ⟨hg.cell hS2 (hn2 c hc).1, hg.cell hS2 (hn2 c hc).2⟩
  have HR : Hid (∀ c, c < C → w1.cell? ⟨g1, c, none⟩ = some (.slice (some ⟨ib c, 0, none⟩) N N)) := hide (fun c hc => hg.cell hS1 (hR2.at_ c hc))
  have HA := hide (hA2.trans (hg.mono (R := fun x => x = g2 ∨ ∃ c, c < C ∧ x = ib c) (fun x hx => Or.inr hx)))
  have HV := hide hv
  have HS := hide (And.intro h12 hi2)
  obtain ⟨kk, hkk⟩ : ∃ kk, ks 1 N C = kk := ⟨_, rfl⟩
  have HKK := hide hkk
  rw [hkk] at hkb
  try rw [hkk]
  clear hkk
  clear hg hv c0 c1 c2 hA2 hw2 hn2 hR2 hR hS1 hS2 hb h12 hi2
  go_wp2_with fail
  refine (markLineSv g2 N N kk _ (by omega) (by omega) hw3 hn3 hN).mono ?_
  rintro e w2 ⟨rfl, hgl, hvl, hnl⟩
  have e0 := hgl.cell (fun h => by have h : w.heap.size = g2 := h; omega) d0
  have e1 := hgl.cell (fun h => by have h : w.heap.size = g2 := h; omega) d1
  have e2 := hgl.cell (fun h => by have h : w.heap.size = g2 := h; omega) d2
  have HA3 := hide (HA.out.trans (hgl.mono (R := fun x => x = g2 ∨ ∃ c, c < C ∧ x = ib c) (fun x hx => Or.inl hx)))
  have HM : Hid ((∀ c, c < C → w2.cell? ⟨g1, c, none⟩ = some (.slice (some ⟨ib c, 0, none⟩) N N)) ∧ (∀ c, c < C → Vr w2 (ib c) (N * 4) (ks 1 N c)) ∧ VL w2 g2 N kk ∧ NoL w2 g2 N) := hide ⟨fun c hc => hgl.cell (fun h => HS.out.1 h) (HR.out c hc), fun c hc => (HV.out c hc).chg hgl (fun h => HS.out.2 c hc h), hvl, hnl⟩
  clear hgl hvl hnl d0 d1 d2 hw3 hn3 HA HV HR HS hil
  go_wp2_with fail
  refine (mk6_nil _ _).mono ?_
  rintro e w3 ⟨rfl, rfl⟩
  go_wp2
  go_ret
  exact ⟨by rw [HKK.out]; rfl, HA3.out, ⟨HM.out.1, HM.out.2.1, by rw [HKK.out]; exact HM.out.2.2.1, HM.out.2.2.2⟩⟩

set_option maxHeartbeats 4000000 in
theorem heldMachinev (g1 g2 C N : Nat) (ib : Nat → Nat) (w : World) (hM : MV w g1 g2 C N ib) (hC : C ≤ 5) (hN : N ≤ 4) :
    Calls Try.prog 8 #[.agg (mc3 (full g1 C) (full g2 N) (.slice none 0 0)), .int .i64 1] w fun e w' => e = .returned (.int .i64 (ks 1 N C + 5 * N)) ∧ Below w.heap.size w w' := by
  have mb := mb_box w (full g1 C) (full g2 N) (.slice none 0 0) 26
  have hM2 := hM.below ((Below.refl _ w).alloc (Nat.le_refl _) (.cells (mc3 (full g1 C) (full g2 N) (.slice none 0 0)) 26))
  have hkb := ks_bound 1 N hN C
  obtain ⟨_, c0, c1, c2⟩ := id mb
  clear hM
  go_enter Try.func8, Try.ntmps8
  go_wp2_with fail
  refine (heldSlotSSv g1 C C N ib 1 _ (by omega) (by omega) hM2.row hM2.slots hC hN).mono ?_
  rintro e w1 ⟨rfl, rfl⟩
  have hL := hM2.lines
  have hNl := hM2.nol
  obtain ⟨kk, hkk⟩ : ∃ kk, ks 1 N C = kk := ⟨_, rfl⟩
  have HKK := hide hkk
  rw [hkk] at hkb hL
  rw [hkk]
  have hn1 : decide (kk < 0) = false := by simp; omega
  have hn2 : decide (kk + 5 * (N : Int) < 0) = false := by simp; omega
  clear hkk hM2
  go_wp2_with fail
  refine (heldLineSv g2 N N kk _ (by omega) (by omega) hL hNl hN).mono ?_
  rintro e w2 ⟨rfl, rfl⟩
  go_wp2_with fail
  refine (held6_nil _ _).mono ?_
  rintro e w3 ⟨rfl, rfl⟩
  go_wp2
  go_ret
  exact ⟨by rw [HKK.out]; rfl, mb.1⟩

set_option maxHeartbeats 1000000 in
theorem markMachine_nil (w : World) : Calls Try.prog 7 #[.agg (mc3 (.slice none 0 0) (.slice none 0 0) (.slice none 0 0)), .int .i64 1] w fun e w' => e = .returned (.int .i64 1) ∧ Below w.heap.size w w' := by
  have mb := mb_box w (.slice none 0 0) (.slice none 0 0) (.slice none 0 0) 26
  obtain ⟨_, c0, c1, c2⟩ := id mb
  go_enter Try.func7, Try.ntmps7
  go_wp2_with fail
  refine (mkSS_nil _ _).mono ?_
  rintro e w1 ⟨rfl, rfl⟩
  go_wp2_with fail
  refine (mkLS_nil _ _).mono ?_
  rintro e w1 ⟨rfl, rfl⟩
  go_wp2_with fail
  refine (mk6_nil _ _).mono ?_
  rintro e w1 ⟨rfl, rfl⟩
  go_wp2
  go_ret
  exact ⟨rfl, mb.1⟩

set_option maxHeartbeats 1000000 in
theorem heldMachine_nil (w : World) : Calls Try.prog 8 #[.agg (mc3 (.slice none 0 0) (.slice none 0 0) (.slice none 0 0)), .int .i64 1] w fun e w' => e = .returned (.int .i64 1) ∧ Below w.heap.size w w' := by
  have mb := mb_box w (.slice none 0 0) (.slice none 0 0) (.slice none 0 0) 26
  obtain ⟨_, c0, c1, c2⟩ := id mb
  go_enter Try.func8, Try.ntmps8
  go_wp2_with fail
  refine (heldSS_nil _ _).mono ?_
  rintro e w1 ⟨rfl, rfl⟩
  go_wp2_with fail
  refine (heldLS_nil _ _).mono ?_
  rintro e w1 ⟨rfl, rfl⟩
  go_wp2_with fail
  refine (held6_nil _ _).mono ?_
  rintro e w1 ⟨rfl, rfl⟩
  go_wp2
  go_ret
  exact ⟨rfl, mb.1⟩

end Go.Proofs.Ytacgfeddbcoigaa
