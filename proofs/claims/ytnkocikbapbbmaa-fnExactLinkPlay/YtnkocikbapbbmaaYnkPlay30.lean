/- LdV -/
import Derived.Test.YtnkocikbapbbmaaYnkPlay28
/- spec.l8Copy (written by mkLdV.py) -/
namespace Go.Proofs.Ytnkocikbapbbmaa
open Go.RowKit
set_option linter.unusedVariables false
set_option linter.unusedSimpArgs false

/-- the copy under way: k rows are copied -/
structure Cy (V0 V : World) (p : Lk) (k : Nat) (v1 v2 v3 v4 : Value) : Prop where
  mv : Mv nob V0 V
  r1 : 1 ≤ k → Rg V V0.heap.size v1 1 p.nw (tF p.ws)
  r2 : 2 ≤ k → Rg V V0.heap.size v2 1 p.ng (tF p.gs) ∧ ∀ g, rb v2 = some g → rb v1 ≠ some g
  r3 : 3 ≤ k → Rg V V0.heap.size v3 2 p.nd (wF p.dt p.dh) ∧ ∀ g, rb v3 = some g → rb v1 ≠ some g ∧ rb v2 ≠ some g
  r4 : 4 ≤ k → Rg V V0.heap.size v4 2 p.nu (wF p.ut p.uh) ∧ ∀ g, rb v4 = some g → rb v1 ≠ some g ∧ rb v2 ≠ some g ∧ rb v3 ≠ some g
theorem Cy.next {V0 V V' : World} {p : Lk} {k : Nat} {v1 v2 v3 v4 : Value} (h : Cy V0 V p k v1 v2 v3 v4) (hm : Mv nob V V') : Cy V0 V' p k v1 v2 v3 v4 :=
  ⟨h.mv.step hm (fun _ _ h => h), fun e => (h.r1 e).mv hm (fun _ _ h => h), fun e => ⟨(h.r2 e).1.mv hm (fun _ _ h => h), (h.r2 e).2⟩, fun e => ⟨(h.r3 e).1.mv hm (fun _ _ h => h), (h.r3 e).2⟩, fun e => ⟨(h.r4 e).1.mv hm (fun _ _ h => h), (h.r4 e).2⟩⟩
theorem Cy.zero {V0 : World} {p : Lk} {v1 v2 v3 v4 : Value} : Cy V0 V0 p 0 v1 v2 v3 v4 := ⟨Mv.refl _ _, fun h => absurd h (by omega), fun h => absurd h (by omega), fun h => absurd h (by omega), fun h => absurd h (by omega)⟩
theorem Cy.app1 {V0 V V' : World} {p : Lk} {v1 v2 v3 v4 v : Value} (h : Cy V0 V p 0 v1 v2 v3 v4) (hm : Mv nob V V') (hr : Rg V' V.heap.size v 1 p.nw (tF p.ws)) : Cy V0 V' p 1 v v2 v3 v4 :=
  ⟨h.mv.step hm (fun _ _ h => h), fun _ => hr.base h.mv.size, fun h => absurd h (by omega), fun h => absurd h (by omega), fun h => absurd h (by omega)⟩
theorem Cy.app2 {V0 V V' : World} {p : Lk} {v1 v2 v3 v4 v : Value} (h : Cy V0 V p 1 v1 v2 v3 v4) (hm : Mv nob V V') (hr : Rg V' V.heap.size v 1 p.ng (tF p.gs)) : Cy V0 V' p 2 v1 v v3 v4 :=
  ⟨h.mv.step hm (fun _ _ h => h), (h.next hm).r1 ∘ (fun _ => by omega), fun _ => ⟨hr.base h.mv.size, fun g e e1 => by have := (hr.lt g e).1; have := ((h.r1 (by omega)).lt g e1).2; omega⟩, fun h => absurd h (by omega), fun h => absurd h (by omega)⟩
theorem Cy.app3 {V0 V V' : World} {p : Lk} {v1 v2 v3 v4 v : Value} (h : Cy V0 V p 2 v1 v2 v3 v4) (hm : Mv nob V V') (hr : Rg V' V.heap.size v 2 p.nd (wF p.dt p.dh)) : Cy V0 V' p 3 v1 v2 v v4 :=
  ⟨h.mv.step hm (fun _ _ h => h), (h.next hm).r1 ∘ (fun _ => by omega), (h.next hm).r2 ∘ (fun _ => by omega), fun _ => ⟨hr.base h.mv.size, fun g e => ⟨fun e1 => by have := (hr.lt g e).1; have := ((h.r1 (by omega)).lt g e1).2; omega, fun e1 => by have := (hr.lt g e).1; have := ((h.r2 (by omega)).1.lt g e1).2; omega⟩⟩, fun h => absurd h (by omega)⟩
theorem Cy.app4 {V0 V V' : World} {p : Lk} {v1 v2 v3 v4 v : Value} (h : Cy V0 V p 3 v1 v2 v3 v4) (hm : Mv nob V V') (hr : Rg V' V.heap.size v 2 p.nu (wF p.ut p.uh)) : Cy V0 V' p 4 v1 v2 v3 v :=
  ⟨h.mv.step hm (fun _ _ h => h), (h.next hm).r1 ∘ (fun _ => by omega), (h.next hm).r2 ∘ (fun _ => by omega), (h.next hm).r3 ∘ (fun _ => by omega), fun _ => ⟨hr.base h.mv.size, fun g e => ⟨fun e1 => by have := (hr.lt g e).1; have := ((h.r1 (by omega)).lt g e1).2; omega, fun e1 => by have := (hr.lt g e).1; have := ((h.r2 (by omega)).1.lt g e1).2; omega, fun e1 => by have := (hr.lt g e).1; have := ((h.r3 (by omega)).1.lt g e1).2; omega⟩⟩⟩
theorem Cy.lr {V0 V : World} {p : Lk} {v1 v2 v3 v4 : Value} (h : Cy V0 V p 4 v1 v2 v3 v4) : Lr V V0.heap.size v1 v2 v3 v4 p :=
  ⟨h.r1 (by omega), (h.r2 (by omega)).1, (h.r3 (by omega)).1, (h.r4 (by omega)).1, fun g e => ⟨fun e2 => (h.r2 (by omega)).2 g e2 e, fun e3 => ((h.r3 (by omega)).2 g e3).1 e, fun e4 => ((h.r4 (by omega)).2 g e4).1 e⟩, fun g e => ⟨fun e3 => ((h.r3 (by omega)).2 g e3).2 e, fun e4 => ((h.r4 (by omega)).2 g e4).2.1 e⟩, fun g e e4 => ((h.r4 (by omega)).2 g e4).2.2 e⟩

set_option maxHeartbeats 4000000 in
set_option maxRecDepth 20000 in
theorem l8Copy_sl (p : Lk) (wa ga da ua : Option Addr) (wc gc dc uc : Nat) (w : World) (ha : La w (.slice wa p.nw wc) (.slice ga p.ng gc) (.slice da p.nd dc) (.slice ua p.nu uc) p) (hs : Lsm 1048576 p) :
    Calls Try.prog 47 #[.agg (l6 p.base (.slice wa p.nw wc) p.want (.slice ga p.ng gc) (.slice da p.nd dc) (.slice ua p.nu uc))] w fun e w' => ∃ wv' gv' dv' uv', e = .returned (.agg (l6 p.base wv' p.want gv' dv' uv')) ∧ Lr w' w.heap.size wv' gv' dv' uv' p ∧ Below w.heap.size w w' := by
  have HB : Hid (Mv nob w w) := hide (Mv.refl _ _)
  go_enter Try.func47, Try.ntmps47
  refine sk fun K hK => rl ?_
  refine sbp #[.int .i64 p.base, .slice wa p.nw wc, .int .i64 p.want, .slice ga p.ng gc, .slice da p.nd dc, .slice ua p.nu uc] 30 fun V1 b0 hb0 m1 bx0 => ?_
  have o_0 : w.heap.size ≤ b0 := by omega
  replace HB := Xhn HB m1; clear hb0 m1
  refine sbp #[.int .i64 0, .slice none 0 0, .int .i64 0, .slice none 0 0, .slice none 0 0, .slice none 0 0] 30 fun V2 b1 hb1 m2 bx1 => ?_
  have o0_1 := Xlo bx0 hb1; replace HB := Xhn HB m2; replace bx0 := Xbn bx0 m2; clear hb1 m2
  refine nt (hK _ _ ?_); clear hK K; refine sk fun K hK => ?_
  refine wp_region_but (z := 21) (S := fun w' => Mv nob V2.drew w') (by kernel_rfl) (Mv.refl _ _) (fun hS => ?_)
  have m3 : Mv nob V2 V2.drew := Mv.drew _
  obtain ⟨V3, hV3⟩ : ∃ V, V2.drew = V := ⟨_, rfl⟩
  rw [hV3] at hS m3 ⊢
  clear hV3; replace HB := Xhn HB m3; replace bx0 := Xbn bx0 m3; replace bx1 := Xbn bx1 m3; clear m3; have rbx0 := bx0; have rbx1 := bx1
  refine wpAnyK_take (i := 0) (v := .pointer (some ⟨b0, 0, none⟩)) rfl (by kernel_rfl) (by kernel_rfl) (by kernel_rfl) (by kernel_rfl) (fun _ _ _ h => h) (Or.inl ⟨by rfl, fun w' hSw => ?_⟩) (by assumption) ?_
  · (try dsimp only at hSw); go_simp
  refine ptk ?_
  refine wpAnyK_take (i := 1) (v := .int .i64 p.base) rfl (by kernel_rfl) (by kernel_rfl) (by kernel_rfl) (by kernel_rfl) (fun _ _ _ h => h) (Or.inl ⟨by rfl, fun w' hSw => ?_⟩) (by assumption) ?_
  · (try dsimp only at hSw); have z0 := cell_box 0 (hSw.box rbx0.out (fun h => h)) rfl; go_simp
  refine ptk ?_
  refine wpAnyK_take (i := 3) (v := .pointer (some ⟨b0, 1, none⟩)) rfl (by kernel_rfl) (by kernel_rfl) (by kernel_rfl) (by kernel_rfl) (fun _ _ _ h => h) (Or.inl ⟨by rfl, fun w' hSw => ?_⟩) (by assumption) ?_
  · (try dsimp only at hSw); go_simp
  refine ptk ?_
  refine wpAnyK_take (i := 4) (v := .slice wa p.nw wc) rfl (by kernel_rfl) (by kernel_rfl) (by kernel_rfl) (by kernel_rfl) (fun _ _ _ h => h) (Or.inl ⟨by rfl, fun w' hSw => ?_⟩) (by assumption) ?_
  · (try dsimp only at hSw); have z0 := cell_box 1 (hSw.box rbx0.out (fun h => h)) rfl; go_simp
  refine ptk ?_
  refine wpAnyK_take (i := 6) (v := .pointer (some ⟨b0, 2, none⟩)) rfl (by kernel_rfl) (by kernel_rfl) (by kernel_rfl) (by kernel_rfl) (fun _ _ _ h => h) (Or.inl ⟨by rfl, fun w' hSw => ?_⟩) (by assumption) ?_
  · (try dsimp only at hSw); go_simp
  refine ptk ?_
  refine wpAnyK_take (i := 7) (v := .int .i64 p.want) rfl (by kernel_rfl) (by kernel_rfl) (by kernel_rfl) (by kernel_rfl) (fun _ _ _ h => h) (Or.inl ⟨by rfl, fun w' hSw => ?_⟩) (by assumption) ?_
  · (try dsimp only at hSw); have z0 := cell_box 2 (hSw.box rbx0.out (fun h => h)) rfl; go_simp
  refine ptk ?_
  refine wpAnyK_take (i := 9) (v := .pointer (some ⟨b0, 3, none⟩)) rfl (by kernel_rfl) (by kernel_rfl) (by kernel_rfl) (by kernel_rfl) (fun _ _ _ h => h) (Or.inl ⟨by rfl, fun w' hSw => ?_⟩) (by assumption) ?_
  · (try dsimp only at hSw); go_simp
  refine ptk ?_
  refine wpAnyK_take (i := 10) (v := .slice ga p.ng gc) rfl (by kernel_rfl) (by kernel_rfl) (by kernel_rfl) (by kernel_rfl) (fun _ _ _ h => h) (Or.inl ⟨by rfl, fun w' hSw => ?_⟩) (by assumption) ?_
  · (try dsimp only at hSw); have z0 := cell_box 3 (hSw.box rbx0.out (fun h => h)) rfl; go_simp
  refine ptk ?_
  refine wpAnyK_take (i := 13) (v := .pointer (some ⟨b0, 4, none⟩)) rfl (by kernel_rfl) (by kernel_rfl) (by kernel_rfl) (by kernel_rfl) (fun _ _ _ h => h) (Or.inl ⟨by rfl, fun w' hSw => ?_⟩) (by assumption) ?_
  · (try dsimp only at hSw); go_simp
  refine ptk ?_
  refine wpAnyK_take (i := 14) (v := .slice da p.nd dc) rfl (by kernel_rfl) (by kernel_rfl) (by kernel_rfl) (by kernel_rfl) (fun _ _ _ h => h) (Or.inl ⟨by rfl, fun w' hSw => ?_⟩) (by assumption) ?_
  · (try dsimp only at hSw); have z0 := cell_box 4 (hSw.box rbx0.out (fun h => h)) rfl; go_simp
  refine ptk ?_
  refine wpAnyK_take (i := 17) (v := .pointer (some ⟨b0, 5, none⟩)) rfl (by kernel_rfl) (by kernel_rfl) (by kernel_rfl) (by kernel_rfl) (fun _ _ _ h => h) (Or.inl ⟨by rfl, fun w' hSw => ?_⟩) (by assumption) ?_
  · (try dsimp only at hSw); go_simp
  refine ptk ?_
  refine wpAnyK_take (i := 18) (v := .slice ua p.nu uc) rfl (by kernel_rfl) (by kernel_rfl) (by kernel_rfl) (by kernel_rfl) (fun _ _ _ h => h) (Or.inl ⟨by rfl, fun w' hSw => ?_⟩) (by assumption) ?_
  · (try dsimp only at hSw); have z0 := cell_box 5 (hSw.box rbx0.out (fun h => h)) rfl; go_simp
  refine ptk ?_
  refine region_states (fun G hG => ?_)
  try dsimp only
  have hR0 : w.heap.size ≤ V3.heap.size := HB.out.size
  have HA := hide (ha.lv.below (HB.out.below))
  have HF := hide (And.intro ha.fw (And.intro ha.fg (And.intro ha.fd ha.fu)))
  clear ha
  have s4_1234 : ∀ (V : World) (g1 g2 g3 g4 : Nat) (v1 v2 v3 v4 : Value), Cy V3 V p 4 v1 v2 v3 v4 → G 2 #[true, true, true, true, true, true, true, true, true, true, true, true, true, true, true, true, true, true, true, true, false, false] #[.agg #[.int .i64 p.base, .slice wa p.nw wc, .int .i64 p.want, .slice ga p.ng gc, .slice da p.nd dc, .slice ua p.nu uc], .pointer (some ⟨b0, 0, none⟩), .pointer (some ⟨b1, 0, none⟩), .pointer (some ⟨b0, 0, none⟩), .int .i64 p.base, .slice (some ⟨g1, 0, none⟩) 0 0, .pointer (some ⟨b0, 1, none⟩), .slice wa p.nw wc, v1, .pointer (some ⟨b0, 2, none⟩), .int .i64 p.want, .slice (some ⟨g2, 0, none⟩) 0 0, .pointer (some ⟨b0, 3, none⟩), .slice ga p.ng gc, v2, .slice (some ⟨g3, 0, none⟩) 0 0, .pointer (some ⟨b0, 4, none⟩), .slice da p.nd dc, v3, .slice (some ⟨g4, 0, none⟩) 0 0, .pointer (some ⟨b0, 5, none⟩), .slice ua p.nu uc, v4, undef] V := by
    intro V g1 g2 g3 g4 v1 v2 v3 v4 cy
    rw [hG]
    have LX := cy.lr
    obtain ⟨xa, xc, rfl, _⟩ := LX.wa.form
    obtain ⟨ya, yc, rfl, _⟩ := LX.go.form
    obtain ⟨za, zc, rfl, _⟩ := LX.dn.form
    obtain ⟨va, vc, rfl, _⟩ := LX.up.form
    have LT : ∀ g, Lrb (.slice xa p.nw xc) (.slice ya p.ng yc) (.slice za p.nd zc) (.slice va p.nu vc) g → V3.heap.size ≤ g := fun g h => (LX.lt g h).1
    have sz0 := lt_of_block bx1.out
    have hS2 : Mv nob V3 V := cy.mv
    replace bx0 := hide (cy.mv.box bx0.out (fun h => h))
    replace bx1 := hide (cy.mv.box bx1.out (fun h => h))
    replace HB := hide (HB.out.step cy.mv (fun _ _ h => h))
    replace LX := hide LX
    clear cy hS hG
    refine kd_val (i := 20) (v := .agg #[.int .i64 p.base, .slice xa p.nw xc, .int .i64 p.want, .slice ya p.ng yc, .slice za p.nd zc, .slice va p.nu vc]) (by kernel_rfl) rfl (by rfl) (by first | rfl | go_simp) hS2 ?_
    refine ptk ?_
    refine kd_skipI (i := 21) (w' := ((((((V).setCell ⟨b1, 0, none⟩ (.int .i64 p.base)).setCell ⟨b1, 1, none⟩ (.slice xa p.nw xc)).setCell ⟨b1, 2, none⟩ (.int .i64 p.want)).setCell ⟨b1, 3, none⟩ (.slice ya p.ng yc)).setCell ⟨b1, 4, none⟩ (.slice za p.nd zc)).setCell ⟨b1, 5, none⟩ (.slice va p.nu vc)) (fun X => Mv (fun g => g = b1) V X ∧ X.heap[b1]? = some (.cells #[.int .i64 p.base, .slice xa p.nw xc, .int .i64 p.want, .slice ya p.ng yc, .slice za p.nd zc, .slice va p.nu vc] 30 (0, 0))) (by kernel_rfl) rfl (by rfl) (by have fr := fun i => frozen_of_row _ _ i _ _ bx1.out; have z0 := cell_box 0 bx1.out rfl; have z1 := cell_box 1 bx1.out rfl; have z2 := cell_box 2 bx1.out rfl; have z3 := cell_box 3 bx1.out rfl; have z4 := cell_box 4 bx1.out rfl; have z5 := cell_box 5 bx1.out rfl; go_simp) ⟨Mv.set (Mv.set (Mv.set (Mv.set (Mv.set (Mv.set (Mv.refl _ _) _ _) _ _) _ _) _ _) _ _) _ _, (heap_setCell_same _ _ 5 _ _ _ (heap_setCell_same _ _ 4 _ _ _ (heap_setCell_same _ _ 3 _ _ _ (heap_setCell_same _ _ 2 _ _ _ (heap_setCell_same _ _ 1 _ _ _ (heap_setCell_same _ _ 0 _ _ _ (bx1.out))))))).trans rfl⟩ (fun _ _ h => absurd rfl h) ?_
    rintro X ⟨mvX, nxX⟩
    refine ptk ?_
    replace LX := hide (LX.out.mv mvX (fun g hg h => by have h : g = b1 := h; have := LT g hg; omega))
    replace HB := hide (HB.out.step mvX (fun g hg h => by have h : g = b1 := h; exfalso; omega))
    refine wpAnyK_done (by kernel_rfl) ?_
    refine then_normal (hK _ _ ?_); clear hK K; refine wp_ret ?_
    try simp only [Exit.then, Exit.inBlock, ↓reduceIte, Nat.reduceEqDiff]
    have q1_0 := cell_box 0 nxX rfl
    have q1_1 := cell_box 1 nxX rfl
    have q1_2 := cell_box 2 nxX rfl
    have q1_3 := cell_box 3 nxX rfl
    have q1_4 := cell_box 4 nxX rfl
    have q1_5 := cell_box 5 nxX rfl
    exact bodyPost_ret (v := .agg #[.int .i64 p.base, .slice xa p.nw xc, .int .i64 p.want, .slice ya p.ng yc, .slice za p.nd zc, .slice va p.nu vc]) (by simp [results, Try.results47, go_sem, q1_0, q1_1, q1_2, q1_3, q1_4, q1_5]) rfl ⟨_, _, _, _, rfl, ⟨LX.out.wa.base hR0, LX.out.go.base hR0, LX.out.dn.base hR0, LX.out.up.base hR0, LX.out.aw, LX.out.ag, LX.out.ad⟩, HB.out.below⟩
  have s3_1234 : ∀ (V : World) (g1 g2 g3 g4 : Nat) (v1 v2 v3 v4 : Value), Cy V3 V p 3 v1 v2 v3 v4 → G 3 #[true, true, true, true, true, true, true, true, true, true, true, true, true, true, true, true, true, true, true, false, false, false] #[.agg #[.int .i64 p.base, .slice wa p.nw wc, .int .i64 p.want, .slice ga p.ng gc, .slice da p.nd dc, .slice ua p.nu uc], .pointer (some ⟨b0, 0, none⟩), .pointer (some ⟨b1, 0, none⟩), .pointer (some ⟨b0, 0, none⟩), .int .i64 p.base, .slice (some ⟨g1, 0, none⟩) 0 0, .pointer (some ⟨b0, 1, none⟩), .slice wa p.nw wc, v1, .pointer (some ⟨b0, 2, none⟩), .int .i64 p.want, .slice (some ⟨g2, 0, none⟩) 0 0, .pointer (some ⟨b0, 3, none⟩), .slice ga p.ng gc, v2, .slice (some ⟨g3, 0, none⟩) 0 0, .pointer (some ⟨b0, 4, none⟩), .slice da p.nd dc, v3, .slice (some ⟨g4, 0, none⟩) 0 0, .pointer (some ⟨b0, 5, none⟩), .slice ua p.nu uc, undef, undef] V := by
    intro V g1 g2 g3 g4 v1 v2 v3 v4 cy
    rw [hG]
    refine kd_many (l := [19]) (by kernel_rfl) rfl ⟨?_, trivial⟩
    · obtain ⟨vx, w2, hrun, hm, hrg⟩ := copy_wires V p.nu g4 (.slice ua p.nu uc) p.ut p.uh 28 HF.out.2.2.2 (HA.out.below cy.mv.below).up hs.2.2.2.1
      refine ⟨_, vx, w2, rfl, by rfl, (run_append_op _ _ 28 (by rfl) (by rfl) (by rfl) hrun), fun _ => cy.mv.step hm (fun _ _ h => h), ?_⟩
      refine ptk ?_
      have := s4_1234 _ g1 g2 g3 g4 v1 v2 v3 vx (cy.app4 hm hrg)
      rw [hG] at this
      exact this
  have s2_1234 : ∀ (V : World) (g1 g2 g3 g4 : Nat) (v1 v2 v3 v4 : Value), Cy V3 V p 2 v1 v2 v3 v4 → G 4 #[true, true, true, true, true, true, true, true, true, true, true, true, true, true, true, false, true, true, true, false, false, false] #[.agg #[.int .i64 p.base, .slice wa p.nw wc, .int .i64 p.want, .slice ga p.ng gc, .slice da p.nd dc, .slice ua p.nu uc], .pointer (some ⟨b0, 0, none⟩), .pointer (some ⟨b1, 0, none⟩), .pointer (some ⟨b0, 0, none⟩), .int .i64 p.base, .slice (some ⟨g1, 0, none⟩) 0 0, .pointer (some ⟨b0, 1, none⟩), .slice wa p.nw wc, v1, .pointer (some ⟨b0, 2, none⟩), .int .i64 p.want, .slice (some ⟨g2, 0, none⟩) 0 0, .pointer (some ⟨b0, 3, none⟩), .slice ga p.ng gc, v2, .slice (some ⟨g3, 0, none⟩) 0 0, .pointer (some ⟨b0, 4, none⟩), .slice da p.nd dc, undef, .slice (some ⟨g4, 0, none⟩) 0 0, .pointer (some ⟨b0, 5, none⟩), .slice ua p.nu uc, undef, undef] V := by
    intro V g1 g2 g3 g4 v1 v2 v3 v4 cy
    rw [hG]
    refine kd_many (l := [15]) (by kernel_rfl) rfl ⟨?_, trivial⟩
    · obtain ⟨vx, w2, hrun, hm, hrg⟩ := copy_wires V p.nd g3 (.slice da p.nd dc) p.dt p.dh 28 HF.out.2.2.1 (HA.out.below cy.mv.below).dn hs.2.2.1.1
      refine ⟨_, vx, w2, rfl, by rfl, (run_append_op _ _ 28 (by rfl) (by rfl) (by rfl) hrun), fun _ => cy.mv.step hm (fun _ _ h => h), ?_⟩
      refine ptk ?_
      have := s3_1234 _ g1 g2 g3 g4 v1 v2 vx v4 (cy.app3 hm hrg)
      rw [hG] at this
      exact this
  have s3_123 : ∀ (V : World) (g1 g2 g3 g4 : Nat) (v1 v2 v3 v4 : Value), Cy V3 V p 3 v1 v2 v3 v4 → G 4 #[true, true, true, true, true, true, true, true, true, true, true, true, true, true, true, true, false, true, true, false, false, false] #[.agg #[.int .i64 p.base, .slice wa p.nw wc, .int .i64 p.want, .slice ga p.ng gc, .slice da p.nd dc, .slice ua p.nu uc], .pointer (some ⟨b0, 0, none⟩), .pointer (some ⟨b1, 0, none⟩), .pointer (some ⟨b0, 0, none⟩), .int .i64 p.base, .slice (some ⟨g1, 0, none⟩) 0 0, .pointer (some ⟨b0, 1, none⟩), .slice wa p.nw wc, v1, .pointer (some ⟨b0, 2, none⟩), .int .i64 p.want, .slice (some ⟨g2, 0, none⟩) 0 0, .pointer (some ⟨b0, 3, none⟩), .slice ga p.ng gc, v2, .slice (some ⟨g3, 0, none⟩) 0 0, .pointer (some ⟨b0, 4, none⟩), .slice da p.nd dc, v3, undef, .pointer (some ⟨b0, 5, none⟩), .slice ua p.nu uc, undef, undef] V := by
    intro V g1 g2 g3 g4 v1 v2 v3 v4 cy
    rw [hG]
    refine kd_many (l := [16]) (by kernel_rfl) rfl ⟨?_, trivial⟩
    · refine ⟨_, .slice (some ⟨V.heap.size, 0, none⟩) 0 0, V.alloc (.cells #[] 73), rfl, by rfl, by first | rfl | go_simp, fun _ => cy.mv.step (Mv.alloc _ _) (fun _ _ h => h), ?_⟩
      refine ptk ?_
      have := s3_1234 _ g1 g2 g3 V.heap.size v1 v2 v3 v4 (cy.next (Mv.alloc V (.cells #[] 73)))
      rw [hG] at this
      exact this
  have s1_1234 : ∀ (V : World) (g1 g2 g3 g4 : Nat) (v1 v2 v3 v4 : Value), Cy V3 V p 1 v1 v2 v3 v4 → G 5 #[true, true, true, true, true, true, true, true, true, true, true, false, true, true, true, false, true, true, true, false, false, false] #[.agg #[.int .i64 p.base, .slice wa p.nw wc, .int .i64 p.want, .slice ga p.ng gc, .slice da p.nd dc, .slice ua p.nu uc], .pointer (some ⟨b0, 0, none⟩), .pointer (some ⟨b1, 0, none⟩), .pointer (some ⟨b0, 0, none⟩), .int .i64 p.base, .slice (some ⟨g1, 0, none⟩) 0 0, .pointer (some ⟨b0, 1, none⟩), .slice wa p.nw wc, v1, .pointer (some ⟨b0, 2, none⟩), .int .i64 p.want, .slice (some ⟨g2, 0, none⟩) 0 0, .pointer (some ⟨b0, 3, none⟩), .slice ga p.ng gc, undef, .slice (some ⟨g3, 0, none⟩) 0 0, .pointer (some ⟨b0, 4, none⟩), .slice da p.nd dc, undef, .slice (some ⟨g4, 0, none⟩) 0 0, .pointer (some ⟨b0, 5, none⟩), .slice ua p.nu uc, undef, undef] V := by
    intro V g1 g2 g3 g4 v1 v2 v3 v4 cy
    rw [hG]
    refine kd_many (l := [11]) (by kernel_rfl) rfl ⟨?_, trivial⟩
    · obtain ⟨vx, w2, hrun, hm, hrg⟩ := copy_texts V p.ng g2 (.slice ga p.ng gc) p.gs 22 HF.out.2.1 (HA.out.below cy.mv.below).go hs.2.1.1
      refine ⟨_, vx, w2, rfl, by rfl, (run_append_op _ _ 22 (by rfl) (by rfl) (by rfl) hrun), fun _ => cy.mv.step hm (fun _ _ h => h), ?_⟩
      refine ptk ?_
      have := s2_1234 _ g1 g2 g3 g4 v1 vx v3 v4 (cy.app2 hm hrg)
      rw [hG] at this
      exact this
  have s2_123 : ∀ (V : World) (g1 g2 g3 g4 : Nat) (v1 v2 v3 v4 : Value), Cy V3 V p 2 v1 v2 v3 v4 → G 5 #[true, true, true, true, true, true, true, true, true, true, true, true, true, true, true, false, false, true, true, false, false, false] #[.agg #[.int .i64 p.base, .slice wa p.nw wc, .int .i64 p.want, .slice ga p.ng gc, .slice da p.nd dc, .slice ua p.nu uc], .pointer (some ⟨b0, 0, none⟩), .pointer (some ⟨b1, 0, none⟩), .pointer (some ⟨b0, 0, none⟩), .int .i64 p.base, .slice (some ⟨g1, 0, none⟩) 0 0, .pointer (some ⟨b0, 1, none⟩), .slice wa p.nw wc, v1, .pointer (some ⟨b0, 2, none⟩), .int .i64 p.want, .slice (some ⟨g2, 0, none⟩) 0 0, .pointer (some ⟨b0, 3, none⟩), .slice ga p.ng gc, v2, .slice (some ⟨g3, 0, none⟩) 0 0, .pointer (some ⟨b0, 4, none⟩), .slice da p.nd dc, undef, undef, .pointer (some ⟨b0, 5, none⟩), .slice ua p.nu uc, undef, undef] V := by
    intro V g1 g2 g3 g4 v1 v2 v3 v4 cy
    rw [hG]
    refine kd_many (l := [15, 16]) (by kernel_rfl) rfl ⟨?_, ?_, trivial⟩
    · obtain ⟨vx, w2, hrun, hm, hrg⟩ := copy_wires V p.nd g3 (.slice da p.nd dc) p.dt p.dh 28 HF.out.2.2.1 (HA.out.below cy.mv.below).dn hs.2.2.1.1
      refine ⟨_, vx, w2, rfl, by rfl, (run_append_op _ _ 28 (by rfl) (by rfl) (by rfl) hrun), fun _ => cy.mv.step hm (fun _ _ h => h), ?_⟩
      refine ptk ?_
      have := s3_123 _ g1 g2 g3 g4 v1 v2 vx v4 (cy.app3 hm hrg)
      rw [hG] at this
      exact this
    · refine ⟨_, .slice (some ⟨V.heap.size, 0, none⟩) 0 0, V.alloc (.cells #[] 73), rfl, by rfl, by first | rfl | go_simp, fun _ => cy.mv.step (Mv.alloc _ _) (fun _ _ h => h), ?_⟩
      refine ptk ?_
      have := s2_1234 _ g1 g2 g3 V.heap.size v1 v2 v3 v4 (cy.next (Mv.alloc V (.cells #[] 73)))
      rw [hG] at this
      exact this
  have s2_124 : ∀ (V : World) (g1 g2 g3 g4 : Nat) (v1 v2 v3 v4 : Value), Cy V3 V p 2 v1 v2 v3 v4 → G 5 #[true, true, true, true, true, true, true, true, true, true, true, true, false, true, true, false, true, true, true, false, false, false] #[.agg #[.int .i64 p.base, .slice wa p.nw wc, .int .i64 p.want, .slice ga p.ng gc, .slice da p.nd dc, .slice ua p.nu uc], .pointer (some ⟨b0, 0, none⟩), .pointer (some ⟨b1, 0, none⟩), .pointer (some ⟨b0, 0, none⟩), .int .i64 p.base, .slice (some ⟨g1, 0, none⟩) 0 0, .pointer (some ⟨b0, 1, none⟩), .slice wa p.nw wc, v1, .pointer (some ⟨b0, 2, none⟩), .int .i64 p.want, .slice (some ⟨g2, 0, none⟩) 0 0, .pointer (some ⟨b0, 3, none⟩), .slice ga p.ng gc, v2, undef, .pointer (some ⟨b0, 4, none⟩), .slice da p.nd dc, undef, .slice (some ⟨g4, 0, none⟩) 0 0, .pointer (some ⟨b0, 5, none⟩), .slice ua p.nu uc, undef, undef] V := by
    intro V g1 g2 g3 g4 v1 v2 v3 v4 cy
    rw [hG]
    refine kd_many (l := [12]) (by kernel_rfl) rfl ⟨?_, trivial⟩
    · refine ⟨_, .slice (some ⟨V.heap.size, 0, none⟩) 0 0, V.alloc (.cells #[] 73), rfl, by rfl, by first | rfl | go_simp, fun _ => cy.mv.step (Mv.alloc _ _) (fun _ _ h => h), ?_⟩
      refine ptk ?_
      have := s2_1234 _ g1 g2 V.heap.size g4 v1 v2 v3 v4 (cy.next (Mv.alloc V (.cells #[] 73)))
      rw [hG] at this
      exact this
  have s0_1234 : ∀ (V : World) (g1 g2 g3 g4 : Nat) (v1 v2 v3 v4 : Value), Cy V3 V p 0 v1 v2 v3 v4 → G 6 #[true, true, true, true, true, false, true, true, true, true, true, false, true, true, true, false, true, true, true, false, false, false] #[.agg #[.int .i64 p.base, .slice wa p.nw wc, .int .i64 p.want, .slice ga p.ng gc, .slice da p.nd dc, .slice ua p.nu uc], .pointer (some ⟨b0, 0, none⟩), .pointer (some ⟨b1, 0, none⟩), .pointer (some ⟨b0, 0, none⟩), .int .i64 p.base, .slice (some ⟨g1, 0, none⟩) 0 0, .pointer (some ⟨b0, 1, none⟩), .slice wa p.nw wc, undef, .pointer (some ⟨b0, 2, none⟩), .int .i64 p.want, .slice (some ⟨g2, 0, none⟩) 0 0, .pointer (some ⟨b0, 3, none⟩), .slice ga p.ng gc, undef, .slice (some ⟨g3, 0, none⟩) 0 0, .pointer (some ⟨b0, 4, none⟩), .slice da p.nd dc, undef, .slice (some ⟨g4, 0, none⟩) 0 0, .pointer (some ⟨b0, 5, none⟩), .slice ua p.nu uc, undef, undef] V := by
    intro V g1 g2 g3 g4 v1 v2 v3 v4 cy
    rw [hG]
    refine kd_many (l := [5]) (by kernel_rfl) rfl ⟨?_, trivial⟩
    · obtain ⟨vx, w2, hrun, hm, hrg⟩ := copy_texts V p.nw g1 (.slice wa p.nw wc) p.ws 22 HF.out.1 (HA.out.below cy.mv.below).wa hs.1.1
      refine ⟨_, vx, w2, rfl, by rfl, (run_append_op _ _ 22 (by rfl) (by rfl) (by rfl) hrun), fun _ => cy.mv.step hm (fun _ _ h => h), ?_⟩
      refine ptk ?_
      have := s1_1234 _ g1 g2 g3 g4 vx v2 v3 v4 (cy.app1 hm hrg)
      rw [hG] at this
      exact this
  have s1_123 : ∀ (V : World) (g1 g2 g3 g4 : Nat) (v1 v2 v3 v4 : Value), Cy V3 V p 1 v1 v2 v3 v4 → G 6 #[true, true, true, true, true, true, true, true, true, true, true, false, true, true, true, false, false, true, true, false, false, false] #[.agg #[.int .i64 p.base, .slice wa p.nw wc, .int .i64 p.want, .slice ga p.ng gc, .slice da p.nd dc, .slice ua p.nu uc], .pointer (some ⟨b0, 0, none⟩), .pointer (some ⟨b1, 0, none⟩), .pointer (some ⟨b0, 0, none⟩), .int .i64 p.base, .slice (some ⟨g1, 0, none⟩) 0 0, .pointer (some ⟨b0, 1, none⟩), .slice wa p.nw wc, v1, .pointer (some ⟨b0, 2, none⟩), .int .i64 p.want, .slice (some ⟨g2, 0, none⟩) 0 0, .pointer (some ⟨b0, 3, none⟩), .slice ga p.ng gc, undef, .slice (some ⟨g3, 0, none⟩) 0 0, .pointer (some ⟨b0, 4, none⟩), .slice da p.nd dc, undef, undef, .pointer (some ⟨b0, 5, none⟩), .slice ua p.nu uc, undef, undef] V := by
    intro V g1 g2 g3 g4 v1 v2 v3 v4 cy
    rw [hG]
    refine kd_many (l := [11, 16]) (by kernel_rfl) rfl ⟨?_, ?_, trivial⟩
    · obtain ⟨vx, w2, hrun, hm, hrg⟩ := copy_texts V p.ng g2 (.slice ga p.ng gc) p.gs 22 HF.out.2.1 (HA.out.below cy.mv.below).go hs.2.1.1
      refine ⟨_, vx, w2, rfl, by rfl, (run_append_op _ _ 22 (by rfl) (by rfl) (by rfl) hrun), fun _ => cy.mv.step hm (fun _ _ h => h), ?_⟩
      refine ptk ?_
      have := s2_123 _ g1 g2 g3 g4 v1 vx v3 v4 (cy.app2 hm hrg)
      rw [hG] at this
      exact this
    · refine ⟨_, .slice (some ⟨V.heap.size, 0, none⟩) 0 0, V.alloc (.cells #[] 73), rfl, by rfl, by first | rfl | go_simp, fun _ => cy.mv.step (Mv.alloc _ _) (fun _ _ h => h), ?_⟩
      refine ptk ?_
      have := s1_1234 _ g1 g2 g3 V.heap.size v1 v2 v3 v4 (cy.next (Mv.alloc V (.cells #[] 73)))
      rw [hG] at this
      exact this
  have s1_124 : ∀ (V : World) (g1 g2 g3 g4 : Nat) (v1 v2 v3 v4 : Value), Cy V3 V p 1 v1 v2 v3 v4 → G 6 #[true, true, true, true, true, true, true, true, true, true, true, false, false, true, true, false, true, true, true, false, false, false] #[.agg #[.int .i64 p.base, .slice wa p.nw wc, .int .i64 p.want, .slice ga p.ng gc, .slice da p.nd dc, .slice ua p.nu uc], .pointer (some ⟨b0, 0, none⟩), .pointer (some ⟨b1, 0, none⟩), .pointer (some ⟨b0, 0, none⟩), .int .i64 p.base, .slice (some ⟨g1, 0, none⟩) 0 0, .pointer (some ⟨b0, 1, none⟩), .slice wa p.nw wc, v1, .pointer (some ⟨b0, 2, none⟩), .int .i64 p.want, .slice (some ⟨g2, 0, none⟩) 0 0, .pointer (some ⟨b0, 3, none⟩), .slice ga p.ng gc, undef, undef, .pointer (some ⟨b0, 4, none⟩), .slice da p.nd dc, undef, .slice (some ⟨g4, 0, none⟩) 0 0, .pointer (some ⟨b0, 5, none⟩), .slice ua p.nu uc, undef, undef] V := by
    intro V g1 g2 g3 g4 v1 v2 v3 v4 cy
    rw [hG]
    refine kd_many (l := [11, 12]) (by kernel_rfl) rfl ⟨?_, ?_, trivial⟩
    · obtain ⟨vx, w2, hrun, hm, hrg⟩ := copy_texts V p.ng g2 (.slice ga p.ng gc) p.gs 22 HF.out.2.1 (HA.out.below cy.mv.below).go hs.2.1.1
      refine ⟨_, vx, w2, rfl, by rfl, (run_append_op _ _ 22 (by rfl) (by rfl) (by rfl) hrun), fun _ => cy.mv.step hm (fun _ _ h => h), ?_⟩
      refine ptk ?_
      have := s2_124 _ g1 g2 g3 g4 v1 vx v3 v4 (cy.app2 hm hrg)
      rw [hG] at this
      exact this
    · refine ⟨_, .slice (some ⟨V.heap.size, 0, none⟩) 0 0, V.alloc (.cells #[] 73), rfl, by rfl, by first | rfl | go_simp, fun _ => cy.mv.step (Mv.alloc _ _) (fun _ _ h => h), ?_⟩
      refine ptk ?_
      have := s1_1234 _ g1 g2 V.heap.size g4 v1 v2 v3 v4 (cy.next (Mv.alloc V (.cells #[] 73)))
      rw [hG] at this
      exact this
  have s1_134 : ∀ (V : World) (g1 g2 g3 g4 : Nat) (v1 v2 v3 v4 : Value), Cy V3 V p 1 v1 v2 v3 v4 → G 6 #[true, true, true, true, true, true, true, true, false, true, true, false, true, true, true, false, true, true, true, false, false, false] #[.agg #[.int .i64 p.base, .slice wa p.nw wc, .int .i64 p.want, .slice ga p.ng gc, .slice da p.nd dc, .slice ua p.nu uc], .pointer (some ⟨b0, 0, none⟩), .pointer (some ⟨b1, 0, none⟩), .pointer (some ⟨b0, 0, none⟩), .int .i64 p.base, .slice (some ⟨g1, 0, none⟩) 0 0, .pointer (some ⟨b0, 1, none⟩), .slice wa p.nw wc, v1, .pointer (some ⟨b0, 2, none⟩), .int .i64 p.want, undef, .pointer (some ⟨b0, 3, none⟩), .slice ga p.ng gc, undef, .slice (some ⟨g3, 0, none⟩) 0 0, .pointer (some ⟨b0, 4, none⟩), .slice da p.nd dc, undef, .slice (some ⟨g4, 0, none⟩) 0 0, .pointer (some ⟨b0, 5, none⟩), .slice ua p.nu uc, undef, undef] V := by
    intro V g1 g2 g3 g4 v1 v2 v3 v4 cy
    rw [hG]
    refine kd_many (l := [8]) (by kernel_rfl) rfl ⟨?_, trivial⟩
    · refine ⟨_, .slice (some ⟨V.heap.size, 0, none⟩) 0 0, V.alloc (.cells #[] 9), rfl, by rfl, by first | rfl | go_simp, fun _ => cy.mv.step (Mv.alloc _ _) (fun _ _ h => h), ?_⟩
      refine ptk ?_
      have := s1_1234 _ g1 V.heap.size g3 g4 v1 v2 v3 v4 (cy.next (Mv.alloc V (.cells #[] 9)))
      rw [hG] at this
      exact this
  have s2_12 : ∀ (V : World) (g1 g2 g3 g4 : Nat) (v1 v2 v3 v4 : Value), Cy V3 V p 2 v1 v2 v3 v4 → G 6 #[true, true, true, true, true, true, true, true, true, true, true, true, false, true, true, false, false, true, true, false, false, false] #[.agg #[.int .i64 p.base, .slice wa p.nw wc, .int .i64 p.want, .slice ga p.ng gc, .slice da p.nd dc, .slice ua p.nu uc], .pointer (some ⟨b0, 0, none⟩), .pointer (some ⟨b1, 0, none⟩), .pointer (some ⟨b0, 0, none⟩), .int .i64 p.base, .slice (some ⟨g1, 0, none⟩) 0 0, .pointer (some ⟨b0, 1, none⟩), .slice wa p.nw wc, v1, .pointer (some ⟨b0, 2, none⟩), .int .i64 p.want, .slice (some ⟨g2, 0, none⟩) 0 0, .pointer (some ⟨b0, 3, none⟩), .slice ga p.ng gc, v2, undef, .pointer (some ⟨b0, 4, none⟩), .slice da p.nd dc, undef, undef, .pointer (some ⟨b0, 5, none⟩), .slice ua p.nu uc, undef, undef] V := by
    intro V g1 g2 g3 g4 v1 v2 v3 v4 cy
    rw [hG]
    refine kd_many (l := [12, 16]) (by kernel_rfl) rfl ⟨?_, ?_, trivial⟩
    · refine ⟨_, .slice (some ⟨V.heap.size, 0, none⟩) 0 0, V.alloc (.cells #[] 73), rfl, by rfl, by first | rfl | go_simp, fun _ => cy.mv.step (Mv.alloc _ _) (fun _ _ h => h), ?_⟩
      refine ptk ?_
      have := s2_123 _ g1 g2 V.heap.size g4 v1 v2 v3 v4 (cy.next (Mv.alloc V (.cells #[] 73)))
      rw [hG] at this
      exact this
    · refine ⟨_, .slice (some ⟨V.heap.size, 0, none⟩) 0 0, V.alloc (.cells #[] 73), rfl, by rfl, by first | rfl | go_simp, fun _ => cy.mv.step (Mv.alloc _ _) (fun _ _ h => h), ?_⟩
      refine ptk ?_
      have := s2_124 _ g1 g2 g3 V.heap.size v1 v2 v3 v4 (cy.next (Mv.alloc V (.cells #[] 73)))
      rw [hG] at this
      exact this
  have s0_123 : ∀ (V : World) (g1 g2 g3 g4 : Nat) (v1 v2 v3 v4 : Value), Cy V3 V p 0 v1 v2 v3 v4 → G 7 #[true, true, true, true, true, false, true, true, true, true, true, false, true, true, true, false, false, true, true, false, false, false] #[.agg #[.int .i64 p.base, .slice wa p.nw wc, .int .i64 p.want, .slice ga p.ng gc, .slice da p.nd dc, .slice ua p.nu uc], .pointer (some ⟨b0, 0, none⟩), .pointer (some ⟨b1, 0, none⟩), .pointer (some ⟨b0, 0, none⟩), .int .i64 p.base, .slice (some ⟨g1, 0, none⟩) 0 0, .pointer (some ⟨b0, 1, none⟩), .slice wa p.nw wc, undef, .pointer (some ⟨b0, 2, none⟩), .int .i64 p.want, .slice (some ⟨g2, 0, none⟩) 0 0, .pointer (some ⟨b0, 3, none⟩), .slice ga p.ng gc, undef, .slice (some ⟨g3, 0, none⟩) 0 0, .pointer (some ⟨b0, 4, none⟩), .slice da p.nd dc, undef, undef, .pointer (some ⟨b0, 5, none⟩), .slice ua p.nu uc, undef, undef] V := by
    intro V g1 g2 g3 g4 v1 v2 v3 v4 cy
    rw [hG]
    refine kd_many (l := [5, 16]) (by kernel_rfl) rfl ⟨?_, ?_, trivial⟩
    · obtain ⟨vx, w2, hrun, hm, hrg⟩ := copy_texts V p.nw g1 (.slice wa p.nw wc) p.ws 22 HF.out.1 (HA.out.below cy.mv.below).wa hs.1.1
      refine ⟨_, vx, w2, rfl, by rfl, (run_append_op _ _ 22 (by rfl) (by rfl) (by rfl) hrun), fun _ => cy.mv.step hm (fun _ _ h => h), ?_⟩
      refine ptk ?_
      have := s1_123 _ g1 g2 g3 g4 vx v2 v3 v4 (cy.app1 hm hrg)
      rw [hG] at this
      exact this
    · refine ⟨_, .slice (some ⟨V.heap.size, 0, none⟩) 0 0, V.alloc (.cells #[] 73), rfl, by rfl, by first | rfl | go_simp, fun _ => cy.mv.step (Mv.alloc _ _) (fun _ _ h => h), ?_⟩
      refine ptk ?_
      have := s0_1234 _ g1 g2 g3 V.heap.size v1 v2 v3 v4 (cy.next (Mv.alloc V (.cells #[] 73)))
      rw [hG] at this
      exact this
  have s0_124 : ∀ (V : World) (g1 g2 g3 g4 : Nat) (v1 v2 v3 v4 : Value), Cy V3 V p 0 v1 v2 v3 v4 → G 7 #[true, true, true, true, true, false, true, true, true, true, true, false, false, true, true, false, true, true, true, false, false, false] #[.agg #[.int .i64 p.base, .slice wa p.nw wc, .int .i64 p.want, .slice ga p.ng gc, .slice da p.nd dc, .slice ua p.nu uc], .pointer (some ⟨b0, 0, none⟩), .pointer (some ⟨b1, 0, none⟩), .pointer (some ⟨b0, 0, none⟩), .int .i64 p.base, .slice (some ⟨g1, 0, none⟩) 0 0, .pointer (some ⟨b0, 1, none⟩), .slice wa p.nw wc, undef, .pointer (some ⟨b0, 2, none⟩), .int .i64 p.want, .slice (some ⟨g2, 0, none⟩) 0 0, .pointer (some ⟨b0, 3, none⟩), .slice ga p.ng gc, undef, undef, .pointer (some ⟨b0, 4, none⟩), .slice da p.nd dc, undef, .slice (some ⟨g4, 0, none⟩) 0 0, .pointer (some ⟨b0, 5, none⟩), .slice ua p.nu uc, undef, undef] V := by
    intro V g1 g2 g3 g4 v1 v2 v3 v4 cy
    rw [hG]
    refine kd_many (l := [5, 12]) (by kernel_rfl) rfl ⟨?_, ?_, trivial⟩
    · obtain ⟨vx, w2, hrun, hm, hrg⟩ := copy_texts V p.nw g1 (.slice wa p.nw wc) p.ws 22 HF.out.1 (HA.out.below cy.mv.below).wa hs.1.1
      refine ⟨_, vx, w2, rfl, by rfl, (run_append_op _ _ 22 (by rfl) (by rfl) (by rfl) hrun), fun _ => cy.mv.step hm (fun _ _ h => h), ?_⟩
      refine ptk ?_
      have := s1_124 _ g1 g2 g3 g4 vx v2 v3 v4 (cy.app1 hm hrg)
      rw [hG] at this
      exact this
    · refine ⟨_, .slice (some ⟨V.heap.size, 0, none⟩) 0 0, V.alloc (.cells #[] 73), rfl, by rfl, by first | rfl | go_simp, fun _ => cy.mv.step (Mv.alloc _ _) (fun _ _ h => h), ?_⟩
      refine ptk ?_
      have := s0_1234 _ g1 g2 V.heap.size g4 v1 v2 v3 v4 (cy.next (Mv.alloc V (.cells #[] 73)))
      rw [hG] at this
      exact this
  have s0_134 : ∀ (V : World) (g1 g2 g3 g4 : Nat) (v1 v2 v3 v4 : Value), Cy V3 V p 0 v1 v2 v3 v4 → G 7 #[true, true, true, true, true, false, true, true, false, true, true, false, true, true, true, false, true, true, true, false, false, false] #[.agg #[.int .i64 p.base, .slice wa p.nw wc, .int .i64 p.want, .slice ga p.ng gc, .slice da p.nd dc, .slice ua p.nu uc], .pointer (some ⟨b0, 0, none⟩), .pointer (some ⟨b1, 0, none⟩), .pointer (some ⟨b0, 0, none⟩), .int .i64 p.base, .slice (some ⟨g1, 0, none⟩) 0 0, .pointer (some ⟨b0, 1, none⟩), .slice wa p.nw wc, undef, .pointer (some ⟨b0, 2, none⟩), .int .i64 p.want, undef, .pointer (some ⟨b0, 3, none⟩), .slice ga p.ng gc, undef, .slice (some ⟨g3, 0, none⟩) 0 0, .pointer (some ⟨b0, 4, none⟩), .slice da p.nd dc, undef, .slice (some ⟨g4, 0, none⟩) 0 0, .pointer (some ⟨b0, 5, none⟩), .slice ua p.nu uc, undef, undef] V := by
    intro V g1 g2 g3 g4 v1 v2 v3 v4 cy
    rw [hG]
    refine kd_many (l := [5, 8]) (by kernel_rfl) rfl ⟨?_, ?_, trivial⟩
    · obtain ⟨vx, w2, hrun, hm, hrg⟩ := copy_texts V p.nw g1 (.slice wa p.nw wc) p.ws 22 HF.out.1 (HA.out.below cy.mv.below).wa hs.1.1
      refine ⟨_, vx, w2, rfl, by rfl, (run_append_op _ _ 22 (by rfl) (by rfl) (by rfl) hrun), fun _ => cy.mv.step hm (fun _ _ h => h), ?_⟩
      refine ptk ?_
      have := s1_134 _ g1 g2 g3 g4 vx v2 v3 v4 (cy.app1 hm hrg)
      rw [hG] at this
      exact this
    · refine ⟨_, .slice (some ⟨V.heap.size, 0, none⟩) 0 0, V.alloc (.cells #[] 9), rfl, by rfl, by first | rfl | go_simp, fun _ => cy.mv.step (Mv.alloc _ _) (fun _ _ h => h), ?_⟩
      refine ptk ?_
      have := s0_1234 _ g1 V.heap.size g3 g4 v1 v2 v3 v4 (cy.next (Mv.alloc V (.cells #[] 9)))
      rw [hG] at this
      exact this
  have s0_234 : ∀ (V : World) (g1 g2 g3 g4 : Nat) (v1 v2 v3 v4 : Value), Cy V3 V p 0 v1 v2 v3 v4 → G 7 #[true, true, false, true, true, false, true, true, true, true, true, false, true, true, true, false, true, true, true, false, false, false] #[.agg #[.int .i64 p.base, .slice wa p.nw wc, .int .i64 p.want, .slice ga p.ng gc, .slice da p.nd dc, .slice ua p.nu uc], .pointer (some ⟨b0, 0, none⟩), .pointer (some ⟨b1, 0, none⟩), .pointer (some ⟨b0, 0, none⟩), .int .i64 p.base, undef, .pointer (some ⟨b0, 1, none⟩), .slice wa p.nw wc, undef, .pointer (some ⟨b0, 2, none⟩), .int .i64 p.want, .slice (some ⟨g2, 0, none⟩) 0 0, .pointer (some ⟨b0, 3, none⟩), .slice ga p.ng gc, undef, .slice (some ⟨g3, 0, none⟩) 0 0, .pointer (some ⟨b0, 4, none⟩), .slice da p.nd dc, undef, .slice (some ⟨g4, 0, none⟩) 0 0, .pointer (some ⟨b0, 5, none⟩), .slice ua p.nu uc, undef, undef] V := by
    intro V g1 g2 g3 g4 v1 v2 v3 v4 cy
    rw [hG]
    refine kd_many (l := [2]) (by kernel_rfl) rfl ⟨?_, trivial⟩
    · refine ⟨_, .slice (some ⟨V.heap.size, 0, none⟩) 0 0, V.alloc (.cells #[] 9), rfl, by rfl, by first | rfl | go_simp, fun _ => cy.mv.step (Mv.alloc _ _) (fun _ _ h => h), ?_⟩
      refine ptk ?_
      have := s0_1234 _ V.heap.size g2 g3 g4 v1 v2 v3 v4 (cy.next (Mv.alloc V (.cells #[] 9)))
      rw [hG] at this
      exact this
  have s1_12 : ∀ (V : World) (g1 g2 g3 g4 : Nat) (v1 v2 v3 v4 : Value), Cy V3 V p 1 v1 v2 v3 v4 → G 7 #[true, true, true, true, true, true, true, true, true, true, true, false, false, true, true, false, false, true, true, false, false, false] #[.agg #[.int .i64 p.base, .slice wa p.nw wc, .int .i64 p.want, .slice ga p.ng gc, .slice da p.nd dc, .slice ua p.nu uc], .pointer (some ⟨b0, 0, none⟩), .pointer (some ⟨b1, 0, none⟩), .pointer (some ⟨b0, 0, none⟩), .int .i64 p.base, .slice (some ⟨g1, 0, none⟩) 0 0, .pointer (some ⟨b0, 1, none⟩), .slice wa p.nw wc, v1, .pointer (some ⟨b0, 2, none⟩), .int .i64 p.want, .slice (some ⟨g2, 0, none⟩) 0 0, .pointer (some ⟨b0, 3, none⟩), .slice ga p.ng gc, undef, undef, .pointer (some ⟨b0, 4, none⟩), .slice da p.nd dc, undef, undef, .pointer (some ⟨b0, 5, none⟩), .slice ua p.nu uc, undef, undef] V := by
    intro V g1 g2 g3 g4 v1 v2 v3 v4 cy
    rw [hG]
    refine kd_many (l := [11, 12, 16]) (by kernel_rfl) rfl ⟨?_, ?_, ?_, trivial⟩
    · obtain ⟨vx, w2, hrun, hm, hrg⟩ := copy_texts V p.ng g2 (.slice ga p.ng gc) p.gs 22 HF.out.2.1 (HA.out.below cy.mv.below).go hs.2.1.1
      refine ⟨_, vx, w2, rfl, by rfl, (run_append_op _ _ 22 (by rfl) (by rfl) (by rfl) hrun), fun _ => cy.mv.step hm (fun _ _ h => h), ?_⟩
      refine ptk ?_
      have := s2_12 _ g1 g2 g3 g4 v1 vx v3 v4 (cy.app2 hm hrg)
      rw [hG] at this
      exact this
    · refine ⟨_, .slice (some ⟨V.heap.size, 0, none⟩) 0 0, V.alloc (.cells #[] 73), rfl, by rfl, by first | rfl | go_simp, fun _ => cy.mv.step (Mv.alloc _ _) (fun _ _ h => h), ?_⟩
      refine ptk ?_
      have := s1_123 _ g1 g2 V.heap.size g4 v1 v2 v3 v4 (cy.next (Mv.alloc V (.cells #[] 73)))
      rw [hG] at this
      exact this
    · refine ⟨_, .slice (some ⟨V.heap.size, 0, none⟩) 0 0, V.alloc (.cells #[] 73), rfl, by rfl, by first | rfl | go_simp, fun _ => cy.mv.step (Mv.alloc _ _) (fun _ _ h => h), ?_⟩
      refine ptk ?_
      have := s1_124 _ g1 g2 g3 V.heap.size v1 v2 v3 v4 (cy.next (Mv.alloc V (.cells #[] 73)))
      rw [hG] at this
      exact this
  have s1_13 : ∀ (V : World) (g1 g2 g3 g4 : Nat) (v1 v2 v3 v4 : Value), Cy V3 V p 1 v1 v2 v3 v4 → G 7 #[true, true, true, true, true, true, true, true, false, true, true, false, true, true, true, false, false, true, true, false, false, false] #[.agg #[.int .i64 p.base, .slice wa p.nw wc, .int .i64 p.want, .slice ga p.ng gc, .slice da p.nd dc, .slice ua p.nu uc], .pointer (some ⟨b0, 0, none⟩), .pointer (some ⟨b1, 0, none⟩), .pointer (some ⟨b0, 0, none⟩), .int .i64 p.base, .slice (some ⟨g1, 0, none⟩) 0 0, .pointer (some ⟨b0, 1, none⟩), .slice wa p.nw wc, v1, .pointer (some ⟨b0, 2, none⟩), .int .i64 p.want, undef, .pointer (some ⟨b0, 3, none⟩), .slice ga p.ng gc, undef, .slice (some ⟨g3, 0, none⟩) 0 0, .pointer (some ⟨b0, 4, none⟩), .slice da p.nd dc, undef, undef, .pointer (some ⟨b0, 5, none⟩), .slice ua p.nu uc, undef, undef] V := by
    intro V g1 g2 g3 g4 v1 v2 v3 v4 cy
    rw [hG]
    refine kd_many (l := [8, 16]) (by kernel_rfl) rfl ⟨?_, ?_, trivial⟩
    · refine ⟨_, .slice (some ⟨V.heap.size, 0, none⟩) 0 0, V.alloc (.cells #[] 9), rfl, by rfl, by first | rfl | go_simp, fun _ => cy.mv.step (Mv.alloc _ _) (fun _ _ h => h), ?_⟩
      refine ptk ?_
      have := s1_123 _ g1 V.heap.size g3 g4 v1 v2 v3 v4 (cy.next (Mv.alloc V (.cells #[] 9)))
      rw [hG] at this
      exact this
    · refine ⟨_, .slice (some ⟨V.heap.size, 0, none⟩) 0 0, V.alloc (.cells #[] 73), rfl, by rfl, by first | rfl | go_simp, fun _ => cy.mv.step (Mv.alloc _ _) (fun _ _ h => h), ?_⟩
      refine ptk ?_
      have := s1_134 _ g1 g2 g3 V.heap.size v1 v2 v3 v4 (cy.next (Mv.alloc V (.cells #[] 73)))
      rw [hG] at this
      exact this
  have s1_14 : ∀ (V : World) (g1 g2 g3 g4 : Nat) (v1 v2 v3 v4 : Value), Cy V3 V p 1 v1 v2 v3 v4 → G 7 #[true, true, true, true, true, true, true, true, false, true, true, false, false, true, true, false, true, true, true, false, false, false] #[.agg #[.int .i64 p.base, .slice wa p.nw wc, .int .i64 p.want, .slice ga p.ng gc, .slice da p.nd dc, .slice ua p.nu uc], .pointer (some ⟨b0, 0, none⟩), .pointer (some ⟨b1, 0, none⟩), .pointer (some ⟨b0, 0, none⟩), .int .i64 p.base, .slice (some ⟨g1, 0, none⟩) 0 0, .pointer (some ⟨b0, 1, none⟩), .slice wa p.nw wc, v1, .pointer (some ⟨b0, 2, none⟩), .int .i64 p.want, undef, .pointer (some ⟨b0, 3, none⟩), .slice ga p.ng gc, undef, undef, .pointer (some ⟨b0, 4, none⟩), .slice da p.nd dc, undef, .slice (some ⟨g4, 0, none⟩) 0 0, .pointer (some ⟨b0, 5, none⟩), .slice ua p.nu uc, undef, undef] V := by
    intro V g1 g2 g3 g4 v1 v2 v3 v4 cy
    rw [hG]
    refine kd_many (l := [8, 12]) (by kernel_rfl) rfl ⟨?_, ?_, trivial⟩
    · refine ⟨_, .slice (some ⟨V.heap.size, 0, none⟩) 0 0, V.alloc (.cells #[] 9), rfl, by rfl, by first | rfl | go_simp, fun _ => cy.mv.step (Mv.alloc _ _) (fun _ _ h => h), ?_⟩
      refine ptk ?_
      have := s1_124 _ g1 V.heap.size g3 g4 v1 v2 v3 v4 (cy.next (Mv.alloc V (.cells #[] 9)))
      rw [hG] at this
      exact this
    · refine ⟨_, .slice (some ⟨V.heap.size, 0, none⟩) 0 0, V.alloc (.cells #[] 73), rfl, by rfl, by first | rfl | go_simp, fun _ => cy.mv.step (Mv.alloc _ _) (fun _ _ h => h), ?_⟩
      refine ptk ?_
      have := s1_134 _ g1 g2 V.heap.size g4 v1 v2 v3 v4 (cy.next (Mv.alloc V (.cells #[] 73)))
      rw [hG] at this
      exact this
  have s0_12 : ∀ (V : World) (g1 g2 g3 g4 : Nat) (v1 v2 v3 v4 : Value), Cy V3 V p 0 v1 v2 v3 v4 → G 8 #[true, true, true, true, true, false, true, true, true, true, true, false, false, true, true, false, false, true, true, false, false, false] #[.agg #[.int .i64 p.base, .slice wa p.nw wc, .int .i64 p.want, .slice ga p.ng gc, .slice da p.nd dc, .slice ua p.nu uc], .pointer (some ⟨b0, 0, none⟩), .pointer (some ⟨b1, 0, none⟩), .pointer (some ⟨b0, 0, none⟩), .int .i64 p.base, .slice (some ⟨g1, 0, none⟩) 0 0, .pointer (some ⟨b0, 1, none⟩), .slice wa p.nw wc, undef, .pointer (some ⟨b0, 2, none⟩), .int .i64 p.want, .slice (some ⟨g2, 0, none⟩) 0 0, .pointer (some ⟨b0, 3, none⟩), .slice ga p.ng gc, undef, undef, .pointer (some ⟨b0, 4, none⟩), .slice da p.nd dc, undef, undef, .pointer (some ⟨b0, 5, none⟩), .slice ua p.nu uc, undef, undef] V := by
    intro V g1 g2 g3 g4 v1 v2 v3 v4 cy
    rw [hG]
    refine kd_many (l := [5, 12, 16]) (by kernel_rfl) rfl ⟨?_, ?_, ?_, trivial⟩
    · obtain ⟨vx, w2, hrun, hm, hrg⟩ := copy_texts V p.nw g1 (.slice wa p.nw wc) p.ws 22 HF.out.1 (HA.out.below cy.mv.below).wa hs.1.1
      refine ⟨_, vx, w2, rfl, by rfl, (run_append_op _ _ 22 (by rfl) (by rfl) (by rfl) hrun), fun _ => cy.mv.step hm (fun _ _ h => h), ?_⟩
      refine ptk ?_
      have := s1_12 _ g1 g2 g3 g4 vx v2 v3 v4 (cy.app1 hm hrg)
      rw [hG] at this
      exact this
    · refine ⟨_, .slice (some ⟨V.heap.size, 0, none⟩) 0 0, V.alloc (.cells #[] 73), rfl, by rfl, by first | rfl | go_simp, fun _ => cy.mv.step (Mv.alloc _ _) (fun _ _ h => h), ?_⟩
      refine ptk ?_
      have := s0_123 _ g1 g2 V.heap.size g4 v1 v2 v3 v4 (cy.next (Mv.alloc V (.cells #[] 73)))
      rw [hG] at this
      exact this
    · refine ⟨_, .slice (some ⟨V.heap.size, 0, none⟩) 0 0, V.alloc (.cells #[] 73), rfl, by rfl, by first | rfl | go_simp, fun _ => cy.mv.step (Mv.alloc _ _) (fun _ _ h => h), ?_⟩
      refine ptk ?_
      have := s0_124 _ g1 g2 g3 V.heap.size v1 v2 v3 v4 (cy.next (Mv.alloc V (.cells #[] 73)))
      rw [hG] at this
      exact this
  have s0_13 : ∀ (V : World) (g1 g2 g3 g4 : Nat) (v1 v2 v3 v4 : Value), Cy V3 V p 0 v1 v2 v3 v4 → G 8 #[true, true, true, true, true, false, true, true, false, true, true, false, true, true, true, false, false, true, true, false, false, false] #[.agg #[.int .i64 p.base, .slice wa p.nw wc, .int .i64 p.want, .slice ga p.ng gc, .slice da p.nd dc, .slice ua p.nu uc], .pointer (some ⟨b0, 0, none⟩), .pointer (some ⟨b1, 0, none⟩), .pointer (some ⟨b0, 0, none⟩), .int .i64 p.base, .slice (some ⟨g1, 0, none⟩) 0 0, .pointer (some ⟨b0, 1, none⟩), .slice wa p.nw wc, undef, .pointer (some ⟨b0, 2, none⟩), .int .i64 p.want, undef, .pointer (some ⟨b0, 3, none⟩), .slice ga p.ng gc, undef, .slice (some ⟨g3, 0, none⟩) 0 0, .pointer (some ⟨b0, 4, none⟩), .slice da p.nd dc, undef, undef, .pointer (some ⟨b0, 5, none⟩), .slice ua p.nu uc, undef, undef] V := by
    intro V g1 g2 g3 g4 v1 v2 v3 v4 cy
    rw [hG]
    refine kd_many (l := [5, 8, 16]) (by kernel_rfl) rfl ⟨?_, ?_, ?_, trivial⟩
    · obtain ⟨vx, w2, hrun, hm, hrg⟩ := copy_texts V p.nw g1 (.slice wa p.nw wc) p.ws 22 HF.out.1 (HA.out.below cy.mv.below).wa hs.1.1
      refine ⟨_, vx, w2, rfl, by rfl, (run_append_op _ _ 22 (by rfl) (by rfl) (by rfl) hrun), fun _ => cy.mv.step hm (fun _ _ h => h), ?_⟩
      refine ptk ?_
      have := s1_13 _ g1 g2 g3 g4 vx v2 v3 v4 (cy.app1 hm hrg)
      rw [hG] at this
      exact this
    · refine ⟨_, .slice (some ⟨V.heap.size, 0, none⟩) 0 0, V.alloc (.cells #[] 9), rfl, by rfl, by first | rfl | go_simp, fun _ => cy.mv.step (Mv.alloc _ _) (fun _ _ h => h), ?_⟩
      refine ptk ?_
      have := s0_123 _ g1 V.heap.size g3 g4 v1 v2 v3 v4 (cy.next (Mv.alloc V (.cells #[] 9)))
      rw [hG] at this
      exact this
    · refine ⟨_, .slice (some ⟨V.heap.size, 0, none⟩) 0 0, V.alloc (.cells #[] 73), rfl, by rfl, by first | rfl | go_simp, fun _ => cy.mv.step (Mv.alloc _ _) (fun _ _ h => h), ?_⟩
      refine ptk ?_
      have := s0_134 _ g1 g2 g3 V.heap.size v1 v2 v3 v4 (cy.next (Mv.alloc V (.cells #[] 73)))
      rw [hG] at this
      exact this
  have s0_14 : ∀ (V : World) (g1 g2 g3 g4 : Nat) (v1 v2 v3 v4 : Value), Cy V3 V p 0 v1 v2 v3 v4 → G 8 #[true, true, true, true, true, false, true, true, false, true, true, false, false, true, true, false, true, true, true, false, false, false] #[.agg #[.int .i64 p.base, .slice wa p.nw wc, .int .i64 p.want, .slice ga p.ng gc, .slice da p.nd dc, .slice ua p.nu uc], .pointer (some ⟨b0, 0, none⟩), .pointer (some ⟨b1, 0, none⟩), .pointer (some ⟨b0, 0, none⟩), .int .i64 p.base, .slice (some ⟨g1, 0, none⟩) 0 0, .pointer (some ⟨b0, 1, none⟩), .slice wa p.nw wc, undef, .pointer (some ⟨b0, 2, none⟩), .int .i64 p.want, undef, .pointer (some ⟨b0, 3, none⟩), .slice ga p.ng gc, undef, undef, .pointer (some ⟨b0, 4, none⟩), .slice da p.nd dc, undef, .slice (some ⟨g4, 0, none⟩) 0 0, .pointer (some ⟨b0, 5, none⟩), .slice ua p.nu uc, undef, undef] V := by
    intro V g1 g2 g3 g4 v1 v2 v3 v4 cy
    rw [hG]
    refine kd_many (l := [5, 8, 12]) (by kernel_rfl) rfl ⟨?_, ?_, ?_, trivial⟩
    · obtain ⟨vx, w2, hrun, hm, hrg⟩ := copy_texts V p.nw g1 (.slice wa p.nw wc) p.ws 22 HF.out.1 (HA.out.below cy.mv.below).wa hs.1.1
      refine ⟨_, vx, w2, rfl, by rfl, (run_append_op _ _ 22 (by rfl) (by rfl) (by rfl) hrun), fun _ => cy.mv.step hm (fun _ _ h => h), ?_⟩
      refine ptk ?_
      have := s1_14 _ g1 g2 g3 g4 vx v2 v3 v4 (cy.app1 hm hrg)
      rw [hG] at this
      exact this
    · refine ⟨_, .slice (some ⟨V.heap.size, 0, none⟩) 0 0, V.alloc (.cells #[] 9), rfl, by rfl, by first | rfl | go_simp, fun _ => cy.mv.step (Mv.alloc _ _) (fun _ _ h => h), ?_⟩
      refine ptk ?_
      have := s0_124 _ g1 V.heap.size g3 g4 v1 v2 v3 v4 (cy.next (Mv.alloc V (.cells #[] 9)))
      rw [hG] at this
      exact this
    · refine ⟨_, .slice (some ⟨V.heap.size, 0, none⟩) 0 0, V.alloc (.cells #[] 73), rfl, by rfl, by first | rfl | go_simp, fun _ => cy.mv.step (Mv.alloc _ _) (fun _ _ h => h), ?_⟩
      refine ptk ?_
      have := s0_134 _ g1 g2 V.heap.size g4 v1 v2 v3 v4 (cy.next (Mv.alloc V (.cells #[] 73)))
      rw [hG] at this
      exact this
  have s0_23 : ∀ (V : World) (g1 g2 g3 g4 : Nat) (v1 v2 v3 v4 : Value), Cy V3 V p 0 v1 v2 v3 v4 → G 8 #[true, true, false, true, true, false, true, true, true, true, true, false, true, true, true, false, false, true, true, false, false, false] #[.agg #[.int .i64 p.base, .slice wa p.nw wc, .int .i64 p.want, .slice ga p.ng gc, .slice da p.nd dc, .slice ua p.nu uc], .pointer (some ⟨b0, 0, none⟩), .pointer (some ⟨b1, 0, none⟩), .pointer (some ⟨b0, 0, none⟩), .int .i64 p.base, undef, .pointer (some ⟨b0, 1, none⟩), .slice wa p.nw wc, undef, .pointer (some ⟨b0, 2, none⟩), .int .i64 p.want, .slice (some ⟨g2, 0, none⟩) 0 0, .pointer (some ⟨b0, 3, none⟩), .slice ga p.ng gc, undef, .slice (some ⟨g3, 0, none⟩) 0 0, .pointer (some ⟨b0, 4, none⟩), .slice da p.nd dc, undef, undef, .pointer (some ⟨b0, 5, none⟩), .slice ua p.nu uc, undef, undef] V := by
    intro V g1 g2 g3 g4 v1 v2 v3 v4 cy
    rw [hG]
    refine kd_many (l := [2, 16]) (by kernel_rfl) rfl ⟨?_, ?_, trivial⟩
    · refine ⟨_, .slice (some ⟨V.heap.size, 0, none⟩) 0 0, V.alloc (.cells #[] 9), rfl, by rfl, by first | rfl | go_simp, fun _ => cy.mv.step (Mv.alloc _ _) (fun _ _ h => h), ?_⟩
      refine ptk ?_
      have := s0_123 _ V.heap.size g2 g3 g4 v1 v2 v3 v4 (cy.next (Mv.alloc V (.cells #[] 9)))
      rw [hG] at this
      exact this
    · refine ⟨_, .slice (some ⟨V.heap.size, 0, none⟩) 0 0, V.alloc (.cells #[] 73), rfl, by rfl, by first | rfl | go_simp, fun _ => cy.mv.step (Mv.alloc _ _) (fun _ _ h => h), ?_⟩
      refine ptk ?_
      have := s0_234 _ g1 g2 g3 V.heap.size v1 v2 v3 v4 (cy.next (Mv.alloc V (.cells #[] 73)))
      rw [hG] at this
      exact this
  have s0_24 : ∀ (V : World) (g1 g2 g3 g4 : Nat) (v1 v2 v3 v4 : Value), Cy V3 V p 0 v1 v2 v3 v4 → G 8 #[true, true, false, true, true, false, true, true, true, true, true, false, false, true, true, false, true, true, true, false, false, false] #[.agg #[.int .i64 p.base, .slice wa p.nw wc, .int .i64 p.want, .slice ga p.ng gc, .slice da p.nd dc, .slice ua p.nu uc], .pointer (some ⟨b0, 0, none⟩), .pointer (some ⟨b1, 0, none⟩), .pointer (some ⟨b0, 0, none⟩), .int .i64 p.base, undef, .pointer (some ⟨b0, 1, none⟩), .slice wa p.nw wc, undef, .pointer (some ⟨b0, 2, none⟩), .int .i64 p.want, .slice (some ⟨g2, 0, none⟩) 0 0, .pointer (some ⟨b0, 3, none⟩), .slice ga p.ng gc, undef, undef, .pointer (some ⟨b0, 4, none⟩), .slice da p.nd dc, undef, .slice (some ⟨g4, 0, none⟩) 0 0, .pointer (some ⟨b0, 5, none⟩), .slice ua p.nu uc, undef, undef] V := by
    intro V g1 g2 g3 g4 v1 v2 v3 v4 cy
    rw [hG]
    refine kd_many (l := [2, 12]) (by kernel_rfl) rfl ⟨?_, ?_, trivial⟩
    · refine ⟨_, .slice (some ⟨V.heap.size, 0, none⟩) 0 0, V.alloc (.cells #[] 9), rfl, by rfl, by first | rfl | go_simp, fun _ => cy.mv.step (Mv.alloc _ _) (fun _ _ h => h), ?_⟩
      refine ptk ?_
      have := s0_124 _ V.heap.size g2 g3 g4 v1 v2 v3 v4 (cy.next (Mv.alloc V (.cells #[] 9)))
      rw [hG] at this
      exact this
    · refine ⟨_, .slice (some ⟨V.heap.size, 0, none⟩) 0 0, V.alloc (.cells #[] 73), rfl, by rfl, by first | rfl | go_simp, fun _ => cy.mv.step (Mv.alloc _ _) (fun _ _ h => h), ?_⟩
      refine ptk ?_
      have := s0_234 _ g1 g2 V.heap.size g4 v1 v2 v3 v4 (cy.next (Mv.alloc V (.cells #[] 73)))
      rw [hG] at this
      exact this
  have s0_34 : ∀ (V : World) (g1 g2 g3 g4 : Nat) (v1 v2 v3 v4 : Value), Cy V3 V p 0 v1 v2 v3 v4 → G 8 #[true, true, false, true, true, false, true, true, false, true, true, false, true, true, true, false, true, true, true, false, false, false] #[.agg #[.int .i64 p.base, .slice wa p.nw wc, .int .i64 p.want, .slice ga p.ng gc, .slice da p.nd dc, .slice ua p.nu uc], .pointer (some ⟨b0, 0, none⟩), .pointer (some ⟨b1, 0, none⟩), .pointer (some ⟨b0, 0, none⟩), .int .i64 p.base, undef, .pointer (some ⟨b0, 1, none⟩), .slice wa p.nw wc, undef, .pointer (some ⟨b0, 2, none⟩), .int .i64 p.want, undef, .pointer (some ⟨b0, 3, none⟩), .slice ga p.ng gc, undef, .slice (some ⟨g3, 0, none⟩) 0 0, .pointer (some ⟨b0, 4, none⟩), .slice da p.nd dc, undef, .slice (some ⟨g4, 0, none⟩) 0 0, .pointer (some ⟨b0, 5, none⟩), .slice ua p.nu uc, undef, undef] V := by
    intro V g1 g2 g3 g4 v1 v2 v3 v4 cy
    rw [hG]
    refine kd_many (l := [2, 8]) (by kernel_rfl) rfl ⟨?_, ?_, trivial⟩
    · refine ⟨_, .slice (some ⟨V.heap.size, 0, none⟩) 0 0, V.alloc (.cells #[] 9), rfl, by rfl, by first | rfl | go_simp, fun _ => cy.mv.step (Mv.alloc _ _) (fun _ _ h => h), ?_⟩
      refine ptk ?_
      have := s0_134 _ V.heap.size g2 g3 g4 v1 v2 v3 v4 (cy.next (Mv.alloc V (.cells #[] 9)))
      rw [hG] at this
      exact this
    · refine ⟨_, .slice (some ⟨V.heap.size, 0, none⟩) 0 0, V.alloc (.cells #[] 9), rfl, by rfl, by first | rfl | go_simp, fun _ => cy.mv.step (Mv.alloc _ _) (fun _ _ h => h), ?_⟩
      refine ptk ?_
      have := s0_234 _ g1 V.heap.size g3 g4 v1 v2 v3 v4 (cy.next (Mv.alloc V (.cells #[] 9)))
      rw [hG] at this
      exact this
  have s1_1 : ∀ (V : World) (g1 g2 g3 g4 : Nat) (v1 v2 v3 v4 : Value), Cy V3 V p 1 v1 v2 v3 v4 → G 8 #[true, true, true, true, true, true, true, true, false, true, true, false, false, true, true, false, false, true, true, false, false, false] #[.agg #[.int .i64 p.base, .slice wa p.nw wc, .int .i64 p.want, .slice ga p.ng gc, .slice da p.nd dc, .slice ua p.nu uc], .pointer (some ⟨b0, 0, none⟩), .pointer (some ⟨b1, 0, none⟩), .pointer (some ⟨b0, 0, none⟩), .int .i64 p.base, .slice (some ⟨g1, 0, none⟩) 0 0, .pointer (some ⟨b0, 1, none⟩), .slice wa p.nw wc, v1, .pointer (some ⟨b0, 2, none⟩), .int .i64 p.want, undef, .pointer (some ⟨b0, 3, none⟩), .slice ga p.ng gc, undef, undef, .pointer (some ⟨b0, 4, none⟩), .slice da p.nd dc, undef, undef, .pointer (some ⟨b0, 5, none⟩), .slice ua p.nu uc, undef, undef] V := by
    intro V g1 g2 g3 g4 v1 v2 v3 v4 cy
    rw [hG]
    refine kd_many (l := [8, 12, 16]) (by kernel_rfl) rfl ⟨?_, ?_, ?_, trivial⟩
    · refine ⟨_, .slice (some ⟨V.heap.size, 0, none⟩) 0 0, V.alloc (.cells #[] 9), rfl, by rfl, by first | rfl | go_simp, fun _ => cy.mv.step (Mv.alloc _ _) (fun _ _ h => h), ?_⟩
      refine ptk ?_
      have := s1_12 _ g1 V.heap.size g3 g4 v1 v2 v3 v4 (cy.next (Mv.alloc V (.cells #[] 9)))
      rw [hG] at this
      exact this
    · refine ⟨_, .slice (some ⟨V.heap.size, 0, none⟩) 0 0, V.alloc (.cells #[] 73), rfl, by rfl, by first | rfl | go_simp, fun _ => cy.mv.step (Mv.alloc _ _) (fun _ _ h => h), ?_⟩
      refine ptk ?_
      have := s1_13 _ g1 g2 V.heap.size g4 v1 v2 v3 v4 (cy.next (Mv.alloc V (.cells #[] 73)))
      rw [hG] at this
      exact this
    · refine ⟨_, .slice (some ⟨V.heap.size, 0, none⟩) 0 0, V.alloc (.cells #[] 73), rfl, by rfl, by first | rfl | go_simp, fun _ => cy.mv.step (Mv.alloc _ _) (fun _ _ h => h), ?_⟩
      refine ptk ?_
      have := s1_14 _ g1 g2 g3 V.heap.size v1 v2 v3 v4 (cy.next (Mv.alloc V (.cells #[] 73)))
      rw [hG] at this
      exact this
  have s0_1 : ∀ (V : World) (g1 g2 g3 g4 : Nat) (v1 v2 v3 v4 : Value), Cy V3 V p 0 v1 v2 v3 v4 → G 9 #[true, true, true, true, true, false, true, true, false, true, true, false, false, true, true, false, false, true, true, false, false, false] #[.agg #[.int .i64 p.base, .slice wa p.nw wc, .int .i64 p.want, .slice ga p.ng gc, .slice da p.nd dc, .slice ua p.nu uc], .pointer (some ⟨b0, 0, none⟩), .pointer (some ⟨b1, 0, none⟩), .pointer (some ⟨b0, 0, none⟩), .int .i64 p.base, .slice (some ⟨g1, 0, none⟩) 0 0, .pointer (some ⟨b0, 1, none⟩), .slice wa p.nw wc, undef, .pointer (some ⟨b0, 2, none⟩), .int .i64 p.want, undef, .pointer (some ⟨b0, 3, none⟩), .slice ga p.ng gc, undef, undef, .pointer (some ⟨b0, 4, none⟩), .slice da p.nd dc, undef, undef, .pointer (some ⟨b0, 5, none⟩), .slice ua p.nu uc, undef, undef] V := by
    intro V g1 g2 g3 g4 v1 v2 v3 v4 cy
    rw [hG]
    refine kd_many (l := [5, 8, 12, 16]) (by kernel_rfl) rfl ⟨?_, ?_, ?_, ?_, trivial⟩
    · obtain ⟨vx, w2, hrun, hm, hrg⟩ := copy_texts V p.nw g1 (.slice wa p.nw wc) p.ws 22 HF.out.1 (HA.out.below cy.mv.below).wa hs.1.1
      refine ⟨_, vx, w2, rfl, by rfl, (run_append_op _ _ 22 (by rfl) (by rfl) (by rfl) hrun), fun _ => cy.mv.step hm (fun _ _ h => h), ?_⟩
      refine ptk ?_
      have := s1_1 _ g1 g2 g3 g4 vx v2 v3 v4 (cy.app1 hm hrg)
      rw [hG] at this
      exact this
    · refine ⟨_, .slice (some ⟨V.heap.size, 0, none⟩) 0 0, V.alloc (.cells #[] 9), rfl, by rfl, by first | rfl | go_simp, fun _ => cy.mv.step (Mv.alloc _ _) (fun _ _ h => h), ?_⟩
      refine ptk ?_
      have := s0_12 _ g1 V.heap.size g3 g4 v1 v2 v3 v4 (cy.next (Mv.alloc V (.cells #[] 9)))
      rw [hG] at this
      exact this
    · refine ⟨_, .slice (some ⟨V.heap.size, 0, none⟩) 0 0, V.alloc (.cells #[] 73), rfl, by rfl, by first | rfl | go_simp, fun _ => cy.mv.step (Mv.alloc _ _) (fun _ _ h => h), ?_⟩
      refine ptk ?_
      have := s0_13 _ g1 g2 V.heap.size g4 v1 v2 v3 v4 (cy.next (Mv.alloc V (.cells #[] 73)))
      rw [hG] at this
      exact this
    · refine ⟨_, .slice (some ⟨V.heap.size, 0, none⟩) 0 0, V.alloc (.cells #[] 73), rfl, by rfl, by first | rfl | go_simp, fun _ => cy.mv.step (Mv.alloc _ _) (fun _ _ h => h), ?_⟩
      refine ptk ?_
      have := s0_14 _ g1 g2 g3 V.heap.size v1 v2 v3 v4 (cy.next (Mv.alloc V (.cells #[] 73)))
      rw [hG] at this
      exact this
  have s0_2 : ∀ (V : World) (g1 g2 g3 g4 : Nat) (v1 v2 v3 v4 : Value), Cy V3 V p 0 v1 v2 v3 v4 → G 9 #[true, true, false, true, true, false, true, true, true, true, true, false, false, true, true, false, false, true, true, false, false, false] #[.agg #[.int .i64 p.base, .slice wa p.nw wc, .int .i64 p.want, .slice ga p.ng gc, .slice da p.nd dc, .slice ua p.nu uc], .pointer (some ⟨b0, 0, none⟩), .pointer (some ⟨b1, 0, none⟩), .pointer (some ⟨b0, 0, none⟩), .int .i64 p.base, undef, .pointer (some ⟨b0, 1, none⟩), .slice wa p.nw wc, undef, .pointer (some ⟨b0, 2, none⟩), .int .i64 p.want, .slice (some ⟨g2, 0, none⟩) 0 0, .pointer (some ⟨b0, 3, none⟩), .slice ga p.ng gc, undef, undef, .pointer (some ⟨b0, 4, none⟩), .slice da p.nd dc, undef, undef, .pointer (some ⟨b0, 5, none⟩), .slice ua p.nu uc, undef, undef] V := by
    intro V g1 g2 g3 g4 v1 v2 v3 v4 cy
    rw [hG]
    refine kd_many (l := [2, 12, 16]) (by kernel_rfl) rfl ⟨?_, ?_, ?_, trivial⟩
    · refine ⟨_, .slice (some ⟨V.heap.size, 0, none⟩) 0 0, V.alloc (.cells #[] 9), rfl, by rfl, by first | rfl | go_simp, fun _ => cy.mv.step (Mv.alloc _ _) (fun _ _ h => h), ?_⟩
      refine ptk ?_
      have := s0_12 _ V.heap.size g2 g3 g4 v1 v2 v3 v4 (cy.next (Mv.alloc V (.cells #[] 9)))
      rw [hG] at this
      exact this
    · refine ⟨_, .slice (some ⟨V.heap.size, 0, none⟩) 0 0, V.alloc (.cells #[] 73), rfl, by rfl, by first | rfl | go_simp, fun _ => cy.mv.step (Mv.alloc _ _) (fun _ _ h => h), ?_⟩
      refine ptk ?_
      have := s0_23 _ g1 g2 V.heap.size g4 v1 v2 v3 v4 (cy.next (Mv.alloc V (.cells #[] 73)))
      rw [hG] at this
      exact this
    · refine ⟨_, .slice (some ⟨V.heap.size, 0, none⟩) 0 0, V.alloc (.cells #[] 73), rfl, by rfl, by first | rfl | go_simp, fun _ => cy.mv.step (Mv.alloc _ _) (fun _ _ h => h), ?_⟩
      refine ptk ?_
      have := s0_24 _ g1 g2 g3 V.heap.size v1 v2 v3 v4 (cy.next (Mv.alloc V (.cells #[] 73)))
      rw [hG] at this
      exact this
  have s0_3 : ∀ (V : World) (g1 g2 g3 g4 : Nat) (v1 v2 v3 v4 : Value), Cy V3 V p 0 v1 v2 v3 v4 → G 9 #[true, true, false, true, true, false, true, true, false, true, true, false, true, true, true, false, false, true, true, false, false, false] #[.agg #[.int .i64 p.base, .slice wa p.nw wc, .int .i64 p.want, .slice ga p.ng gc, .slice da p.nd dc, .slice ua p.nu uc], .pointer (some ⟨b0, 0, none⟩), .pointer (some ⟨b1, 0, none⟩), .pointer (some ⟨b0, 0, none⟩), .int .i64 p.base, undef, .pointer (some ⟨b0, 1, none⟩), .slice wa p.nw wc, undef, .pointer (some ⟨b0, 2, none⟩), .int .i64 p.want, undef, .pointer (some ⟨b0, 3, none⟩), .slice ga p.ng gc, undef, .slice (some ⟨g3, 0, none⟩) 0 0, .pointer (some ⟨b0, 4, none⟩), .slice da p.nd dc, undef, undef, .pointer (some ⟨b0, 5, none⟩), .slice ua p.nu uc, undef, undef] V := by
    intro V g1 g2 g3 g4 v1 v2 v3 v4 cy
    rw [hG]
    refine kd_many (l := [2, 8, 16]) (by kernel_rfl) rfl ⟨?_, ?_, ?_, trivial⟩
    · refine ⟨_, .slice (some ⟨V.heap.size, 0, none⟩) 0 0, V.alloc (.cells #[] 9), rfl, by rfl, by first | rfl | go_simp, fun _ => cy.mv.step (Mv.alloc _ _) (fun _ _ h => h), ?_⟩
      refine ptk ?_
      have := s0_13 _ V.heap.size g2 g3 g4 v1 v2 v3 v4 (cy.next (Mv.alloc V (.cells #[] 9)))
      rw [hG] at this
      exact this
    · refine ⟨_, .slice (some ⟨V.heap.size, 0, none⟩) 0 0, V.alloc (.cells #[] 9), rfl, by rfl, by first | rfl | go_simp, fun _ => cy.mv.step (Mv.alloc _ _) (fun _ _ h => h), ?_⟩
      refine ptk ?_
      have := s0_23 _ g1 V.heap.size g3 g4 v1 v2 v3 v4 (cy.next (Mv.alloc V (.cells #[] 9)))
      rw [hG] at this
      exact this
    · refine ⟨_, .slice (some ⟨V.heap.size, 0, none⟩) 0 0, V.alloc (.cells #[] 73), rfl, by rfl, by first | rfl | go_simp, fun _ => cy.mv.step (Mv.alloc _ _) (fun _ _ h => h), ?_⟩
      refine ptk ?_
      have := s0_34 _ g1 g2 g3 V.heap.size v1 v2 v3 v4 (cy.next (Mv.alloc V (.cells #[] 73)))
      rw [hG] at this
      exact this
  have s0_4 : ∀ (V : World) (g1 g2 g3 g4 : Nat) (v1 v2 v3 v4 : Value), Cy V3 V p 0 v1 v2 v3 v4 → G 9 #[true, true, false, true, true, false, true, true, false, true, true, false, false, true, true, false, true, true, true, false, false, false] #[.agg #[.int .i64 p.base, .slice wa p.nw wc, .int .i64 p.want, .slice ga p.ng gc, .slice da p.nd dc, .slice ua p.nu uc], .pointer (some ⟨b0, 0, none⟩), .pointer (some ⟨b1, 0, none⟩), .pointer (some ⟨b0, 0, none⟩), .int .i64 p.base, undef, .pointer (some ⟨b0, 1, none⟩), .slice wa p.nw wc, undef, .pointer (some ⟨b0, 2, none⟩), .int .i64 p.want, undef, .pointer (some ⟨b0, 3, none⟩), .slice ga p.ng gc, undef, undef, .pointer (some ⟨b0, 4, none⟩), .slice da p.nd dc, undef, .slice (some ⟨g4, 0, none⟩) 0 0, .pointer (some ⟨b0, 5, none⟩), .slice ua p.nu uc, undef, undef] V := by
    intro V g1 g2 g3 g4 v1 v2 v3 v4 cy
    rw [hG]
    refine kd_many (l := [2, 8, 12]) (by kernel_rfl) rfl ⟨?_, ?_, ?_, trivial⟩
    · refine ⟨_, .slice (some ⟨V.heap.size, 0, none⟩) 0 0, V.alloc (.cells #[] 9), rfl, by rfl, by first | rfl | go_simp, fun _ => cy.mv.step (Mv.alloc _ _) (fun _ _ h => h), ?_⟩
      refine ptk ?_
      have := s0_14 _ V.heap.size g2 g3 g4 v1 v2 v3 v4 (cy.next (Mv.alloc V (.cells #[] 9)))
      rw [hG] at this
      exact this
    · refine ⟨_, .slice (some ⟨V.heap.size, 0, none⟩) 0 0, V.alloc (.cells #[] 9), rfl, by rfl, by first | rfl | go_simp, fun _ => cy.mv.step (Mv.alloc _ _) (fun _ _ h => h), ?_⟩
      refine ptk ?_
      have := s0_24 _ g1 V.heap.size g3 g4 v1 v2 v3 v4 (cy.next (Mv.alloc V (.cells #[] 9)))
      rw [hG] at this
      exact this
    · refine ⟨_, .slice (some ⟨V.heap.size, 0, none⟩) 0 0, V.alloc (.cells #[] 73), rfl, by rfl, by first | rfl | go_simp, fun _ => cy.mv.step (Mv.alloc _ _) (fun _ _ h => h), ?_⟩
      refine ptk ?_
      have := s0_34 _ g1 g2 V.heap.size g4 v1 v2 v3 v4 (cy.next (Mv.alloc V (.cells #[] 73)))
      rw [hG] at this
      exact this
  have s0_0 : ∀ (V : World) (g1 g2 g3 g4 : Nat) (v1 v2 v3 v4 : Value), Cy V3 V p 0 v1 v2 v3 v4 → G 10 #[true, true, false, true, true, false, true, true, false, true, true, false, false, true, true, false, false, true, true, false, false, false] #[.agg #[.int .i64 p.base, .slice wa p.nw wc, .int .i64 p.want, .slice ga p.ng gc, .slice da p.nd dc, .slice ua p.nu uc], .pointer (some ⟨b0, 0, none⟩), .pointer (some ⟨b1, 0, none⟩), .pointer (some ⟨b0, 0, none⟩), .int .i64 p.base, undef, .pointer (some ⟨b0, 1, none⟩), .slice wa p.nw wc, undef, .pointer (some ⟨b0, 2, none⟩), .int .i64 p.want, undef, .pointer (some ⟨b0, 3, none⟩), .slice ga p.ng gc, undef, undef, .pointer (some ⟨b0, 4, none⟩), .slice da p.nd dc, undef, undef, .pointer (some ⟨b0, 5, none⟩), .slice ua p.nu uc, undef, undef] V := by
    intro V g1 g2 g3 g4 v1 v2 v3 v4 cy
    rw [hG]
    refine kd_many (l := [2, 8, 12, 16]) (by kernel_rfl) rfl ⟨?_, ?_, ?_, ?_, trivial⟩
    · refine ⟨_, .slice (some ⟨V.heap.size, 0, none⟩) 0 0, V.alloc (.cells #[] 9), rfl, by rfl, by first | rfl | go_simp, fun _ => cy.mv.step (Mv.alloc _ _) (fun _ _ h => h), ?_⟩
      refine ptk ?_
      have := s0_1 _ V.heap.size g2 g3 g4 v1 v2 v3 v4 (cy.next (Mv.alloc V (.cells #[] 9)))
      rw [hG] at this
      exact this
    · refine ⟨_, .slice (some ⟨V.heap.size, 0, none⟩) 0 0, V.alloc (.cells #[] 9), rfl, by rfl, by first | rfl | go_simp, fun _ => cy.mv.step (Mv.alloc _ _) (fun _ _ h => h), ?_⟩
      refine ptk ?_
      have := s0_2 _ g1 V.heap.size g3 g4 v1 v2 v3 v4 (cy.next (Mv.alloc V (.cells #[] 9)))
      rw [hG] at this
      exact this
    · refine ⟨_, .slice (some ⟨V.heap.size, 0, none⟩) 0 0, V.alloc (.cells #[] 73), rfl, by rfl, by first | rfl | go_simp, fun _ => cy.mv.step (Mv.alloc _ _) (fun _ _ h => h), ?_⟩
      refine ptk ?_
      have := s0_3 _ g1 g2 V.heap.size g4 v1 v2 v3 v4 (cy.next (Mv.alloc V (.cells #[] 73)))
      rw [hG] at this
      exact this
    · refine ⟨_, .slice (some ⟨V.heap.size, 0, none⟩) 0 0, V.alloc (.cells #[] 73), rfl, by rfl, by first | rfl | go_simp, fun _ => cy.mv.step (Mv.alloc _ _) (fun _ _ h => h), ?_⟩
      refine ptk ?_
      have := s0_4 _ g1 g2 g3 V.heap.size v1 v2 v3 v4 (cy.next (Mv.alloc V (.cells #[] 73)))
      rw [hG] at this
      exact this
  exact s0_0 _ 0 0 0 0 undef undef undef undef Cy.zero

theorem l8Copy_any (p : Lk) (wv gv dv uv : Value) (w : World) (ha : La w wv gv dv uv p) (hs : Lsm 1048576 p) :
    Calls Try.prog 47 #[.agg (l6 p.base wv p.want gv dv uv)] w fun e w' => ∃ wv' gv' dv' uv', e = .returned (.agg (l6 p.base wv' p.want gv' dv' uv')) ∧ Lr w' w.heap.size wv' gv' dv' uv' p ∧ Below w.heap.size w w' := by
  obtain ⟨wa, ga, da, ua, wc, gc, dc, uc, rfl, rfl, rfl, rfl⟩ := ha.slices
  exact l8Copy_sl p wa ga da ua wc gc dc uc w ha hs

end Go.Proofs.Ytnkocikbapbbmaa
