/- LmC -/
import Derived.Test.YtnkocikbapbbmaaYnkPlay37
/- links marked, marks found (written by mkLmC.py) -/
namespace Go.Proofs.Ytnkocikbapbbmaa
open Go.RowKit
set_option linter.unusedVariables false
set_option linter.unusedSimpArgs false

theorem Rg.setT {w : World} {base g off n k : Nat} {s : Nat → ByteArray} {z : Nat} (b : ByteArray) (hr : Rg w base (.slice (some ⟨g, off, none⟩) n k) 1 n (tF s)) (hz : z < n) :
    Rg (w.setCell ⟨g, off + z, none⟩ (.string b)) base (.slice (some ⟨g, off, none⟩) n k) 1 n (tF (upd s z b)) := by
  obtain ⟨g', off', e, h1, h2, h3, h4, h5⟩ := hr.rows (by omega)
  cases e
  refine .inr ⟨g, off, k, rfl, h1, by omega, h2, h3, h4.set _, fun x hx => ?_⟩
  have c0 := h5 z (by omega)
  by_cases e1 : x = z
  · subst e1
    rw [World.cell?_setCell_same _ _ _ c0, Nat.div_one]
    simp [upd]
  · rw [far_set (by omega), h5 x hx, Nat.div_one]
    simp [upd, e1]
theorem markS_rg (v : Value) (n : Nat) (s : Nat → ByteArray) (k0 : Int) (base : Nat) (w : World) (hr : Rg w base v 1 n (tF s)) (hn : n ≤ 1048576) (h0 : 0 < k0) (h1 : k0 ≤ 7000000) :
    Calls Try.prog 43 #[v, .int .i64 k0] w fun e w' => e = .returned (.int .i64 (k0 + n)) ∧ Mv (fun g => rb v = some g) w w' ∧ Rg w' base v 1 n (tF (fun j => mT (k0 + j))) := by
  obtain ⟨a, c, rfl, hc⟩ := hr.form
  by_cases hz : n = 0
  · subst hz
    refine (markS_gen a 0 0 0 c k0 (fun _ W => W = w) w (by omega) h0 (by omega) (fun h => absurd h (by omega)) rfl (fun j W hj => absurd hj (by omega))).mono (fun e w' h => ⟨h.1, ?_, ?_⟩)
    · rw [h.2]; exact Mv.refl _ _
    · rw [h.2]
      exact hr.congr (by decide) (fun j hj => absurd hj (by omega))
  obtain ⟨g, off, rfl, _⟩ := hr.rows (by omega)
  have hp := hr.rbpos (by omega)
  refine (markS_gen _ g off n c k0 (fun j W => Mv (fun g => rb (.slice (some ⟨g, off, none⟩) n c) = some g) w W ∧ Mv (fun x => x = g) w W ∧ Rg W base (.slice (some ⟨g, off, none⟩) n c) 1 n (tF (fun x => if x < j then mT (k0 + x) else s x))) w hn h0 (by omega) (fun _ => rfl) ⟨Mv.refl _ _, Mv.refl _ _, hr.congr (by decide) (fun j hj i hi => by simp)⟩ (fun j W hj hI => ?_)).mono (fun e w' h => ⟨h.1, h.2.2.1.mono (fun x _ e => by subst e; exact hp), h.2.2.2.congr (by decide) (fun j hj i hi => by simp [hj])⟩)
  obtain ⟨_, hm, hR⟩ := hI
  obtain ⟨g', off', e, q1, q2, q3, q4, q5⟩ := hR.rows (by omega)
  cases e
  refine ⟨q4.facts.1 _, ⟨_, q5 j (by omega)⟩, q4.lt, fun W2 hb => ?_⟩
  have hm2 : Mv (fun x => x = g) w (W2.setCell ⟨g, off + j, none⟩ (.string (mT (k0 + j)))) := Mv.set (hm.step (Mv.of_below hb) (fun _ _ h => h.elim)) _ _
  refine ⟨hm2.mono (fun x _ e => by subst e; exact hp), hm2, ?_⟩
  refine ((hR.below hb).setT (mT (k0 + j)) hj).congr (by decide) (fun x hx i hi => ?_)
  unfold upd
  by_cases e : x = j
  · subst e; simp
  · by_cases e2 : x < j
    · simp [e, e2, show x < j + 1 by omega]
    · simp [e, e2, show ¬ x < j + 1 by omega]
theorem markW_rg (v : Value) (n : Nat) (t : Nat → ByteArray) (h : Nat → Bool) (k0 : Int) (base : Nat) (w : World) (hr : Rg w base v 2 n (wF t h)) (hn : n ≤ 1048576) (h0 : 0 < k0) (h1 : k0 ≤ 7000000) :
    Calls Try.prog 44 #[v, .int .i64 k0] w fun e w' => e = .returned (.int .i64 (k0 + 2 * n)) ∧ Mv (fun g => rb v = some g) w w' ∧ Rg w' base v 2 n (wF (fun j => mT (k0 + 2 * j)) (fun j => mH (k0 + 2 * j + 1))) := by
  obtain ⟨a, c, rfl, hc⟩ := hr.form
  by_cases hz : n = 0
  · subst hz
    refine (markW_gen a 0 0 0 c k0 (fun _ W => W = w) w (by omega) h0 (by omega) (fun h => absurd h (by omega)) rfl (fun j W hj => absurd hj (by omega))).mono (fun e w' h => ⟨h.1, ?_, ?_⟩)
    · rw [h.2]; exact Mv.refl _ _
    · rw [h.2]
      exact hr.congr (by decide) (fun j hj => absurd hj (by omega))
  obtain ⟨g, off, rfl, _⟩ := hr.rows (by omega)
  have hp := hr.rbpos (by omega)
  refine (markW_gen _ g off n c k0 (fun j W => Mv (fun x => x = g) w W ∧ Rg W base (.slice (some ⟨g, off, none⟩) n c) 2 n (wF (fun x => if x < j then mT (k0 + 2 * x) else t x) (fun x => if x < j then mH (k0 + 2 * x + 1) else h x))) w hn h0 (by omega) (fun _ => rfl) ⟨Mv.refl _ _, hr.congr (by decide) (fun j hj i hi => by simp)⟩ (fun j W hj hI => ?_)).mono (fun e w' h => ⟨h.1, h.2.1.mono (fun x _ e => by subst e; exact hp), h.2.2.congr (by decide) (fun j hj i hi => by unfold wF; simp [hj])⟩)
  obtain ⟨hm, hR⟩ := hI
  obtain ⟨g', off', e, q1, q2, q3, q4, q5⟩ := hR.rows (by omega)
  cases e
  refine ⟨q4.facts.1, ⟨_, q5 (j * 2) (by omega)⟩, ⟨_, q5 (j * 2 + 1) (by omega)⟩, q4.lt, fun W2 hb => ?_⟩
  refine ⟨((hm.step (Mv.of_below hb) (fun _ _ h => h.elim)).set _ _).set _ _, ?_⟩
  refine ((hR.below hb).setW (mT (k0 + 2 * j)) (mH (k0 + 2 * j + 1)) hj).congr (by decide) (fun x hx i hi => ?_)
  unfold wF upd
  by_cases e : x = j
  · subst e; simp
  · by_cases e2 : x < j
    · simp [e, e2, show x < j + 1 by omega]
    · simp [e, e2, show ¬ x < j + 1 by omega]
theorem markS_w (g n : Nat) (k0 : Int) (w : World) (hw : Wc w g n) (hn : n ≤ 1048576) (h0 : 0 < k0) (h1 : k0 ≤ 7000000) :
    Calls Try.prog 43 #[sln g n, .int .i64 k0] w fun e w' => e = .returned (.int .i64 (k0 + n)) ∧ Mv (fun x => x = g) w w' ∧ ∀ x len, Wc w x len → Wc w' x len := by
  refine (markS_gen _ g 0 n n k0 (fun j W => Mv (fun x => x = g) w W ∧ ∀ x len, Wc w x len → Wc W x len) w hn h0 (by omega) (fun _ => rfl) ⟨Mv.refl _ _, fun _ _ h => h⟩ (fun j W hj hI => ?_)).mono (fun e w' h => h)
  have q := hI.2 g n hw
  refine ⟨q.facts.1 _, q.facts.2 _ (by omega), q.lt, fun W2 hb => ⟨(hI.1.step (Mv.of_below hb) (fun _ _ h => h.elim)).set _ _, fun x len hx => ((hI.2 x len hx).below hb).set _⟩⟩
theorem markW_w (g n : Nat) (k0 : Int) (w : World) (hw : Wc w g (n * 2)) (hn : n ≤ 1048576) (h0 : 0 < k0) (h1 : k0 ≤ 7000000) :
    Calls Try.prog 44 #[sln g n, .int .i64 k0] w fun e w' => e = .returned (.int .i64 (k0 + 2 * n)) ∧ Mv (fun x => x = g) w w' ∧ ∀ x len, Wc w x len → Wc w' x len := by
  refine (markW_gen _ g 0 n n k0 (fun j W => Mv (fun x => x = g) w W ∧ ∀ x len, Wc w x len → Wc W x len) w hn h0 (by omega) (fun _ => rfl) ⟨Mv.refl _ _, fun _ _ h => h⟩ (fun j W hj hI => ?_)).mono (fun e w' h => h)
  have q := hI.2 g (n * 2) hw
  refine ⟨q.facts.1, q.facts.2 _ (by omega), q.facts.2 _ (by omega), q.lt, fun W2 hb => ⟨((hI.1.step (Mv.of_below hb) (fun _ _ h => h.elim)).set _ _).set _ _, fun x len hx => (((hI.2 x len hx).below hb).set _).set _⟩⟩
/-- the marks' number behind a link -/
def mkE (p : Lk) (k0 : Int) : Int := k0 + p.nw + p.ng + 2 * p.nd + 2 * p.nu
/-- a link whose every cell is marked -/
def mkL (p : Lk) (k0 : Int) : Lk := { p with ws := fun j => mT (k0 + j), gs := fun j => mT (k0 + p.nw + j), dt := fun j => mT (k0 + p.nw + p.ng + 2 * j), dh := fun j => mH (k0 + p.nw + p.ng + 2 * j + 1), ut := fun j => mT (k0 + p.nw + p.ng + 2 * p.nd + 2 * j), uh := fun j => mH (k0 + p.nw + p.ng + 2 * p.nd + 2 * j + 1) }

set_option maxHeartbeats 8000000 in
set_option maxRecDepth 20000 in
theorem markLink_gen (pb pk : Int) (wv gv dv uv : Value) (k0 k1 k2 k3 k4 : Int) (S : Nat → Prop) (J0 J1 J2 J3 J4 : World → Prop) (w : World) (hS : ∀ g, S g → g < w.heap.size) (st0 : ∀ W W', J0 W → Mv nob W W' → J0 W') (st1 : ∀ W W', J1 W → Mv nob W W' → J1 W') (st2 : ∀ W W', J2 W → Mv nob W W' → J2 W') (st3 : ∀ W W', J3 W → Mv nob W W' → J3 W') (st4 : ∀ W W', J4 W → Mv nob W W' → J4 W') (j0 : J0 w) (c1 : ∀ W, J0 W → Calls Try.prog 43 #[wv, .int .i64 k0] W fun e W' => e = .returned (.int .i64 k1) ∧ Mv S W W' ∧ J1 W') (c2 : ∀ W, J1 W → Calls Try.prog 43 #[gv, .int .i64 k1] W fun e W' => e = .returned (.int .i64 k2) ∧ Mv S W W' ∧ J2 W') (c3 : ∀ W, J2 W → Calls Try.prog 44 #[dv, .int .i64 k2] W fun e W' => e = .returned (.int .i64 k3) ∧ Mv S W W' ∧ J3 W') (c4 : ∀ W, J3 W → Calls Try.prog 44 #[uv, .int .i64 k3] W fun e W' => e = .returned (.int .i64 k4) ∧ Mv S W W' ∧ J4 W') :
    Calls Try.prog 16 #[.agg (l6 pb wv pk gv dv uv), .int .i64 k0] w fun e w' => e = .returned (.int .i64 k4) ∧ Mv S w w' ∧ J4 w' := by
  have HB : Hid (Mv S w w) := hide (Mv.refl _ _)
  have HJ := hide j0
  have hso := hS
  clear j0
  go_enter Try.func16, Try.ntmps16
  refine sk fun K hK => rl ?_
  refine sbp #[.int .i64 pb, wv, .int .i64 pk, gv, dv, uv] 30 fun V1 b0 hb0 m1 bx0 => ?_
  have o_0 : w.heap.size ≤ b0 := by omega
  replace HB := Xhn HB m1
  replace HJ := hide (st0 _ _ HJ.out m1)
  clear hb0 m1
  refine sv (.int .i64 0) ?_
  refine nt (hK _ _ ?_); clear hK K; refine sk fun K hK => rl ?_
  refine sv (.pointer (some ⟨b0, 1, none⟩)) ?_
  refine sl 1 bx0 ?_
  refine sv (.int .i64 k0) ?_
  refine sw_call (by rfl) (by first | rfl | (go_simp; done)) (c1 V1 HJ.out) ?_
  rintro e V2 ⟨rfl, mm, hj⟩
  have m2 : Mv (S) V1 V2 := mm
  refine ⟨_, rfl, ?_⟩
  refine pt ?_
  replace HB := hide (HB.out.step m2 (fun _ _ h => h))
  replace bx0 := hide (m2.box bx0.out (fun h => by have := hso _ h; omega))
  replace HJ := hide hj
  clear hj mm; clear m2
  refine sv (.int .i64 k1) ?_
  refine nt (hK _ _ ?_); clear hK K; refine sk fun K hK => rl ?_
  refine sv (.pointer (some ⟨b0, 3, none⟩)) ?_
  refine sl 3 bx0 ?_
  refine sv (.int .i64 k1) ?_
  refine sw_call (by rfl) (by first | rfl | (go_simp; done)) (c2 V2 HJ.out) ?_
  rintro e V3 ⟨rfl, mm, hj⟩
  have m3 : Mv (S) V2 V3 := mm
  refine ⟨_, rfl, ?_⟩
  refine pt ?_
  replace HB := hide (HB.out.step m3 (fun _ _ h => h))
  replace bx0 := hide (m3.box bx0.out (fun h => by have := hso _ h; omega))
  replace HJ := hide hj
  clear hj mm; clear m3
  refine sv (.int .i64 k2) ?_
  refine nt (hK _ _ ?_); clear hK K; refine sk fun K hK => rl ?_
  refine sv (.pointer (some ⟨b0, 4, none⟩)) ?_
  refine sl 4 bx0 ?_
  refine sv (.int .i64 k2) ?_
  refine sw_call (by rfl) (by first | rfl | (go_simp; done)) (c3 V3 HJ.out) ?_
  rintro e V4 ⟨rfl, mm, hj⟩
  have m4 : Mv (S) V3 V4 := mm
  refine ⟨_, rfl, ?_⟩
  refine pt ?_
  replace HB := hide (HB.out.step m4 (fun _ _ h => h))
  replace bx0 := hide (m4.box bx0.out (fun h => by have := hso _ h; omega))
  replace HJ := hide hj
  clear hj mm; clear m4
  refine sv (.int .i64 k3) ?_
  refine nt (hK _ _ ?_); clear hK K; refine sk fun K hK => rl ?_
  refine sv (.pointer (some ⟨b0, 5, none⟩)) ?_
  refine sl 5 bx0 ?_
  refine sv (.int .i64 k3) ?_
  refine sw_call (by rfl) (by first | rfl | (go_simp; done)) (c4 V4 HJ.out) ?_
  rintro e V5 ⟨rfl, mm, hj⟩
  have m5 : Mv (S) V4 V5 := mm
  refine ⟨_, rfl, ?_⟩
  refine pt ?_
  replace HB := hide (HB.out.step m5 (fun _ _ h => h))
  replace bx0 := hide (m5.box bx0.out (fun h => by have := hso _ h; omega))
  replace HJ := hide hj
  clear hj mm; clear m5
  refine sv (.int .i64 k4) ?_
  refine nt (hK _ _ ?_); clear hK K; refine sk fun K hK => rl ?_
  refine sv (.int .i64 k4) ?_
  refine sv (.int .i64 k4) ?_
  refine nt (hK _ _ ?_); clear hK K; refine wp_ret ?_
  try simp only [Exit.then, Exit.inBlock, ↓reduceIte, Nat.reduceEqDiff]
  exact bodyPost_ret (v := .int .i64 k4) (by simp [results, Try.results16, go_sem]) rfl ⟨rfl, HB.out, HJ.out⟩

set_option maxHeartbeats 8000000 in
set_option maxRecDepth 20000 in
theorem heldLink_gen (pb pk : Int) (wv gv dv uv : Value) (k0 k1 k2 k3 k4 : Int) (w : World) (n1 : decide (k1 < 0) = false) (n2 : decide (k2 < 0) = false) (n3 : decide (k3 < 0) = false) (n4 : decide (k4 < 0) = false) (c1 : ∀ W, Below w.heap.size w W → Calls Try.prog 45 #[wv, .int .i64 k0] W fun e W' => e = .returned (.int .i64 k1) ∧ Below W.heap.size W W') (c2 : ∀ W, Below w.heap.size w W → Calls Try.prog 45 #[gv, .int .i64 k1] W fun e W' => e = .returned (.int .i64 k2) ∧ Below W.heap.size W W') (c3 : ∀ W, Below w.heap.size w W → Calls Try.prog 46 #[dv, .int .i64 k2] W fun e W' => e = .returned (.int .i64 k3) ∧ Below W.heap.size W W') (c4 : ∀ W, Below w.heap.size w W → Calls Try.prog 46 #[uv, .int .i64 k3] W fun e W' => e = .returned (.int .i64 k4) ∧ Below W.heap.size W W') :
    Calls Try.prog 17 #[.agg (l6 pb wv pk gv dv uv), .int .i64 k0] w fun e w' => e = .returned (.int .i64 k4) ∧ Below w.heap.size w w' := by
  have HB : Hid (Mv nob w w) := hide (Mv.refl _ _)
  go_enter Try.func17, Try.ntmps17
  refine sk fun K hK => rl ?_
  refine sbp #[.int .i64 pb, wv, .int .i64 pk, gv, dv, uv] 30 fun V1 b0 hb0 m1 bx0 => ?_
  have o_0 : w.heap.size ≤ b0 := by omega
  replace HB := Xhn HB m1; clear hb0 m1
  refine sv (.int .i64 0) ?_
  refine nt (hK _ _ ?_); clear hK K; refine sk fun K hK => rl ?_
  refine sv (.pointer (some ⟨b0, 1, none⟩)) ?_
  refine sl 1 bx0 ?_
  refine sv (.int .i64 k0) ?_
  refine sw_call (by rfl) (by first | rfl | (go_simp; done)) (c1 V1 HB.out.below) ?_
  rintro e V2 ⟨rfl, hbV2⟩
  have m2 : Mv (nob) V1 V2 := Mv.of_below hbV2
  refine ⟨_, rfl, ?_⟩
  refine pt ?_
  replace HB := Xhn HB m2; replace bx0 := Xbn bx0 m2; clear hbV2; clear m2
  refine sv (.int .i64 k1) ?_
  refine nt (hK _ _ ?_); clear hK K; refine sk fun K hK => sk fun K hK => rl ?_
  refine sv (.int .i64 k1) ?_
  refine sg (.bool false) (h := by have hk := n1; go_simp) ?_
  refine nt (hK _ _ ?_); clear hK K; refine cf (wp_skip (then_normal (hK _ _ ?_))); clear hK K; refine sk fun K hK => rl ?_
  refine sv (.pointer (some ⟨b0, 3, none⟩)) ?_
  refine sl 3 bx0 ?_
  refine sv (.int .i64 k1) ?_
  refine sw_call (by rfl) (by first | rfl | (go_simp; done)) (c2 V2 HB.out.below) ?_
  rintro e V3 ⟨rfl, hbV3⟩
  have m3 : Mv (nob) V2 V3 := Mv.of_below hbV3
  refine ⟨_, rfl, ?_⟩
  refine pt ?_
  replace HB := Xhn HB m3; replace bx0 := Xbn bx0 m3; clear hbV3; clear m3
  refine sv (.int .i64 k2) ?_
  refine nt (hK _ _ ?_); clear hK K; refine sk fun K hK => sk fun K hK => rl ?_
  refine sv (.int .i64 k2) ?_
  refine sg (.bool false) (h := by have hk := n2; go_simp) ?_
  refine nt (hK _ _ ?_); clear hK K; refine cf (wp_skip (then_normal (hK _ _ ?_))); clear hK K; refine sk fun K hK => rl ?_
  refine sv (.pointer (some ⟨b0, 4, none⟩)) ?_
  refine sl 4 bx0 ?_
  refine sv (.int .i64 k2) ?_
  refine sw_call (by rfl) (by first | rfl | (go_simp; done)) (c3 V3 HB.out.below) ?_
  rintro e V4 ⟨rfl, hbV4⟩
  have m4 : Mv (nob) V3 V4 := Mv.of_below hbV4
  refine ⟨_, rfl, ?_⟩
  refine pt ?_
  replace HB := Xhn HB m4; replace bx0 := Xbn bx0 m4; clear hbV4; clear m4
  refine sv (.int .i64 k3) ?_
  refine nt (hK _ _ ?_); clear hK K; refine sk fun K hK => sk fun K hK => rl ?_
  refine sv (.int .i64 k3) ?_
  refine sg (.bool false) (h := by have hk := n3; go_simp) ?_
  refine nt (hK _ _ ?_); clear hK K; refine cf (wp_skip (then_normal (hK _ _ ?_))); clear hK K; refine sk fun K hK => rl ?_
  refine sv (.pointer (some ⟨b0, 5, none⟩)) ?_
  refine sl 5 bx0 ?_
  refine sv (.int .i64 k3) ?_
  refine sw_call (by rfl) (by first | rfl | (go_simp; done)) (c4 V4 HB.out.below) ?_
  rintro e V5 ⟨rfl, hbV5⟩
  have m5 : Mv (nob) V4 V5 := Mv.of_below hbV5
  refine ⟨_, rfl, ?_⟩
  refine pt ?_
  replace HB := Xhn HB m5; clear hbV5; clear m5
  refine sv (.int .i64 k4) ?_
  refine nt (hK _ _ ?_); clear hK K; refine sk fun K hK => sk fun K hK => rl ?_
  refine sv (.int .i64 k4) ?_
  refine sg (.bool false) (h := by have hk := n4; go_simp) ?_
  refine nt (hK _ _ ?_); clear hK K; refine cf (wp_skip (then_normal (hK _ _ ?_))); clear hK K; refine sk fun K hK => rl ?_
  refine sv (.int .i64 k4) ?_
  refine sv (.int .i64 k4) ?_
  refine nt (hK _ _ ?_); clear hK K; refine wp_ret ?_
  try simp only [Exit.then, Exit.inBlock, ↓reduceIte, Nat.reduceEqDiff]
  exact bodyPost_ret (v := .int .i64 k4) (by simp [results, Try.results17, go_sem]) rfl ⟨rfl, HB.out.below⟩

theorem markLink_lr (wv gv dv uv : Value) (p : Lk) (k0 : Int) (base : Nat) (w : World) (hr : Lr w base wv gv dv uv p) (hs : p.nw ≤ 1048576 ∧ p.ng ≤ 1048576 ∧ p.nd ≤ 1048576 ∧ p.nu ≤ 1048576) (h0 : 0 < k0) (h1 : k0 ≤ 1000) :
    Calls Try.prog 16 #[.agg (l6 p.base wv p.want gv dv uv), .int .i64 k0] w fun e w' => e = .returned (.int .i64 (mkE p k0)) ∧ Mv (Lrb wv gv dv uv) w w' ∧ Lr w' base wv gv dv uv (mkL p k0) := by
  obtain ⟨s1, s2, s3, s4⟩ := hs
  refine markLink_gen p.base p.want wv gv dv uv k0 (k0 + p.nw) (k0 + p.nw + p.ng) (k0 + p.nw + p.ng + 2 * p.nd) (mkE p k0) (Lrb wv gv dv uv)
    (fun W => Lr W base wv gv dv uv p) (fun W => Lr W base wv gv dv uv { p with ws := (mkL p k0).ws }) (fun W => Lr W base wv gv dv uv { p with ws := (mkL p k0).ws, gs := (mkL p k0).gs }) (fun W => Lr W base wv gv dv uv { p with ws := (mkL p k0).ws, gs := (mkL p k0).gs, dt := (mkL p k0).dt, dh := (mkL p k0).dh }) (fun W => Lr W base wv gv dv uv (mkL p k0)) w (fun g h => (hr.lt g h).2)
    (fun _ _ h m => h.mv m (fun _ _ h => h)) (fun _ _ h m => h.mv m (fun _ _ h => h)) (fun _ _ h m => h.mv m (fun _ _ h => h)) (fun _ _ h m => h.mv m (fun _ _ h => h)) (fun _ _ h m => h.mv m (fun _ _ h => h)) hr ?_ ?_ ?_ ?_
  · intro W h
    refine (markS_rg wv p.nw _ k0 base W h.wa s1 h0 (by omega)).mono (fun e W' q => ⟨q.1, q.2.1.mono (fun g _ e => .inl e), ?_⟩)
    exact ⟨q.2.2, h.go.mv q.2.1 (fun g e e2 => (h.aw g e2).1 e), h.dn.mv q.2.1 (fun g e e2 => (h.aw g e2).2.1 e), h.up.mv q.2.1 (fun g e e2 => (h.aw g e2).2.2 e), h.aw, h.ag, h.ad⟩
  · intro W h
    refine (markS_rg gv p.ng _ (k0 + p.nw) base W h.go s2 (by omega) (by omega)).mono (fun e W' q => ⟨q.1, q.2.1.mono (fun g _ e => .inr (.inl e)), ?_⟩)
    exact ⟨h.wa.mv q.2.1 (fun g e e2 => (h.aw g e).1 e2), q.2.2, h.dn.mv q.2.1 (fun g e e2 => (h.ag g e2).1 e), h.up.mv q.2.1 (fun g e e2 => (h.ag g e2).2 e), h.aw, h.ag, h.ad⟩
  · intro W h
    refine (markW_rg dv p.nd _ _ (k0 + p.nw + p.ng) base W h.dn s3 (by omega) (by omega)).mono (fun e W' q => ⟨q.1, q.2.1.mono (fun g _ e => .inr (.inr (.inl e))), ?_⟩)
    exact ⟨h.wa.mv q.2.1 (fun g e e2 => (h.aw g e).2.1 e2), h.go.mv q.2.1 (fun g e e2 => (h.ag g e).1 e2), q.2.2, h.up.mv q.2.1 (fun g e e2 => h.ad g e2 e), h.aw, h.ag, h.ad⟩
  · intro W h
    refine (markW_rg uv p.nu _ _ (k0 + p.nw + p.ng + 2 * p.nd) base W h.up s4 (by omega) (by omega)).mono (fun e W' q => ⟨q.1, q.2.1.mono (fun g _ e => .inr (.inr (.inr e))), ?_⟩)
    exact ⟨h.wa.mv q.2.1 (fun g e e2 => (h.aw g e).2.2 e2), h.go.mv q.2.1 (fun g e e2 => (h.ag g e).2 e2), h.dn.mv q.2.1 (fun g e e2 => h.ad g e e2), q.2.2, h.aw, h.ag, h.ad⟩
theorem heldLink_lr (wv gv dv uv : Value) (p : Lk) (k0 : Int) (w : World) (hv : Lv w wv gv dv uv (mkL p k0)) (hs : p.nw ≤ 1048576 ∧ p.ng ≤ 1048576 ∧ p.nd ≤ 1048576 ∧ p.nu ≤ 1048576) (h0 : 0 < k0) (h1 : k0 ≤ 1000) :
    Calls Try.prog 17 #[.agg (l6 p.base wv p.want gv dv uv), .int .i64 k0] w fun e w' => e = .returned (.int .i64 (mkE p k0)) ∧ Below w.heap.size w w' := by
  obtain ⟨s1, s2, s3, s4⟩ := hs
  exact heldLink_gen p.base p.want wv gv dv uv k0 (k0 + p.nw) (k0 + p.nw + p.ng) (k0 + p.nw + p.ng + 2 * p.nd) (mkE p k0) w
    (decide_eq_false (by omega)) (decide_eq_false (by omega)) (decide_eq_false (by omega)) (decide_eq_false (by unfold mkE; omega))
    (fun W hb => heldS_any wv p.nw k0 W s1 h0 (by omega) (hv.wa.below hb)) (fun W hb => heldS_any gv p.ng (k0 + p.nw) W s2 (by omega) (by omega) (hv.go.below hb))
    (fun W hb => heldW_any dv p.nd (k0 + p.nw + p.ng) W s3 (by omega) (by omega) (hv.dn.below hb)) (fun W hb => heldW_any uv p.nu (k0 + p.nw + p.ng + 2 * p.nd) W s4 (by omega) (by omega) (hv.up.below hb))
theorem markLink_lo (gw gg gd gu : Nat) (p : Lk) (k0 : Int) (base : Nat) (w : World) (hr : Lo w base gw gg gd gu p) (hs : p.nw ≤ 1048576 ∧ p.ng ≤ 1048576 ∧ p.nd ≤ 1048576 ∧ p.nu ≤ 1048576) (h0 : 0 < k0) (h1 : k0 ≤ 1000) :
    Calls Try.prog 16 #[.agg (l6 p.base (sln gw p.nw) p.want (sln gg p.ng) (sln gd p.nd) (sln gu p.nu)), .int .i64 k0] w fun e w' => e = .returned (.int .i64 (mkE p k0)) ∧ Mv (fun g => g = gw ∨ g = gg ∨ g = gd ∨ g = gu) w w' := by
  obtain ⟨s1, s2, s3, s4⟩ := hs
  have wc : ∀ {g n m : Nat} {T : TypeId} {f : Nat → Nat → Value}, Cr w g T m n n f → Wc w g (n * m) := fun h => by
    obtain ⟨cur, q1, q2, _⟩ := h
    exact ⟨cur, _, q1, by omega⟩
  have w1 := wc hr.wa
  have w2 := wc hr.go
  have w3 := wc hr.dn
  have w4 := wc hr.up
  rw [Nat.mul_one] at w1 w2
  have J : ∀ W W', (Wc W gw p.nw ∧ Wc W gg p.ng ∧ Wc W gd (p.nd * 2) ∧ Wc W gu (p.nu * 2)) → Mv nob W W' → (Wc W' gw p.nw ∧ Wc W' gg p.ng ∧ Wc W' gd (p.nd * 2) ∧ Wc W' gu (p.nu * 2)) := fun W W' h m => ⟨h.1.below m.below, h.2.1.below m.below, h.2.2.1.below m.below, h.2.2.2.below m.below⟩
  refine (markLink_gen p.base p.want _ _ _ _ k0 (k0 + p.nw) (k0 + p.nw + p.ng) (k0 + p.nw + p.ng + 2 * p.nd) (mkE p k0) (fun g => g = gw ∨ g = gg ∨ g = gd ∨ g = gu) _ _ _ _ _ w (fun g h => by have := w1.lt; have := w2.lt; have := w3.lt; have := w4.lt; omega) J J J J J ⟨w1, w2, w3, w4⟩ ?_ ?_ ?_ ?_).mono (fun e w' h => ⟨h.1, h.2.1⟩)
  · intro W h
    exact (markS_w gw p.nw k0 W h.1 s1 h0 (by omega)).mono (fun e W' q => ⟨q.1, q.2.1.mono (fun g _ e => .inl e), q.2.2 _ _ h.1, q.2.2 _ _ h.2.1, q.2.2 _ _ h.2.2.1, q.2.2 _ _ h.2.2.2⟩)
  · intro W h
    exact (markS_w gg p.ng (k0 + p.nw) W h.2.1 s2 (by omega) (by omega)).mono (fun e W' q => ⟨q.1, q.2.1.mono (fun g _ e => .inr (.inl e)), q.2.2 _ _ h.1, q.2.2 _ _ h.2.1, q.2.2 _ _ h.2.2.1, q.2.2 _ _ h.2.2.2⟩)
  · intro W h
    exact (markW_w gd p.nd (k0 + p.nw + p.ng) W h.2.2.1 s3 (by omega) (by omega)).mono (fun e W' q => ⟨q.1, q.2.1.mono (fun g _ e => .inr (.inr (.inl e))), q.2.2 _ _ h.1, q.2.2 _ _ h.2.1, q.2.2 _ _ h.2.2.1, q.2.2 _ _ h.2.2.2⟩)
  · intro W h
    exact (markW_w gu p.nu (k0 + p.nw + p.ng + 2 * p.nd) W h.2.2.2 s4 (by omega) (by omega)).mono (fun e W' q => ⟨q.1, q.2.1.mono (fun g _ e => .inr (.inr (.inr e))), q.2.2 _ _ h.1, q.2.2 _ _ h.2.1, q.2.2 _ _ h.2.2.1, q.2.2 _ _ h.2.2.2⟩)

end Go.Proofs.Ytnkocikbapbbmaa
