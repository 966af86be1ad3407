/- Proved: for every link laws.FnExactLinkCalmed returns true and leaves its argument as it read. No other condition. -/
import Derived.Test.YtnkocikbapbbmaaRows
import Derived.Test.YtnkocikbapbbmaaLnkG
import Derived.Test.YtnkocikbapbbmaaZLxC
import Derived.WalkKit
import Derived.ProofKit
import Derived.OpenShut
import Derived.ShutString
import Derived.ChangeOld
import Derived.Below
import Derived.OpenVars
namespace Go.Proofs.Ytnkocikbapbbmaa.fnExactLinkCalmed
open Go.ChangeShapes Go.WideShapes Go.ChangeAt Go.WideMaps Go.WideElems Go.RowKit
set_option linter.unusedVariables false
set_option linter.unusedSimpArgs false

theorem own : ownKnob Try.prog.godebug = none := by kernel_rfl
theorem laidOut : laidOutB Try.prog = true := by kernel_rfl

set_option maxHeartbeats 40000000 in
set_option maxRecDepth 20000 in
theorem walk (wv gv dv uv : Value) (p : Lk) (w : World) (hv : Lv w wv gv dv uv p) (hs : Lsm 9223372036854775807 p) :
    Calls Try.prog 6 #[.agg (l6 p.base wv p.want gv dv uv)] w fun e w' => e = .returned (.bool true) ∧ Below w.heap.size w w' := by
  have ha0 := hide hv
  have hm0 : decide (mkE p 1 < 0) = false := decide_eq_false (by unfold mkE; omega)
  obtain ⟨L, bb, hA⟩ : ∃ L b, cmL p = (L, b) := ⟨_, _, rfl⟩
  have hsz := cmL_sm p
  rw [hA] at hsz
  replace hsz := hide hsz
  have hspec := fun V wv gv dv uv h hsm => specCalmed_at p L bb wv gv dv uv V hA h hsm
  have himpl := fun V wv gv dv uv h hsm => implCalmed_at p L bb wv gv dv uv V hA h hsm
  clear hA
  have hbb : (bb != bb) = false := by cases bb <;> rfl
  have hm1 : decide (mkE L 1 < 0) = false := decide_eq_false (by unfold mkE; omega)
  obtain ⟨⟨wa, wc, rfl, _⟩, ⟨ga, gc, rfl, _⟩, ⟨da, dc, rfl, _⟩, ⟨ua, uc, rfl, _⟩⟩ := hv
  have HB : Hid (Mv nob w w) := hide (Mv.refl _ _)
  go_enter Try.func6, Try.ntmps6
  repeat first | with_reducible refine sk fun K hK => ?_ | with_reducible refine then_normal ?_ | ((with_reducible refine hK _ _ ?_); clear hK K) | with_reducible refine wpList_nil ?_ | with_reducible refine rl ?_ | ((with_reducible refine is_cond ?_); first | refine wp_cond_true (by rfl) ?_ | refine wp_cond_false (by rfl) ?_) | with_reducible refine wp_block ?_ | with_reducible refine wp_skip ?_ | with_reducible refine wp_ret ?_ | with_reducible refine wp_exit ?_ | (clear hK K; (with_reducible refine hK _ _ ?_); clear hK K) | (clear hK K; clear hK K; (with_reducible refine hK _ _ ?_); clear hK K) | with_reducible refine then_exit ?_ | with_reducible refine then_ret ?_ | with_reducible refine inb_ret ?_ | with_reducible refine inb_norm ?_
  refine sbp #[.int .i64 p.base, .slice wa p.nw wc, .int .i64 p.want, .slice ga p.ng gc, .slice da p.nd dc, .slice ua p.nu uc] 25 fun V1 b0 hb0 m1 bx0 => ?_
  have o_0 : w.heap.size ≤ b0 := by omega
  replace HB := Xhn HB m1; clear hb0 m1
  refine sv (.bool false) ?_
  repeat first | with_reducible refine sk fun K hK => ?_ | with_reducible refine then_normal ?_ | ((with_reducible refine hK _ _ ?_); clear hK K) | with_reducible refine wpList_nil ?_ | with_reducible refine rl ?_ | ((with_reducible refine is_cond ?_); first | refine wp_cond_true (by rfl) ?_ | refine wp_cond_false (by rfl) ?_) | with_reducible refine wp_block ?_ | with_reducible refine wp_skip ?_ | with_reducible refine wp_ret ?_ | with_reducible refine wp_exit ?_ | (clear hK K; (with_reducible refine hK _ _ ?_); clear hK K) | (clear hK K; clear hK K; (with_reducible refine hK _ _ ?_); clear hK K) | with_reducible refine then_exit ?_ | with_reducible refine then_ret ?_ | with_reducible refine inb_ret ?_ | with_reducible refine inb_norm ?_
  refine sv (.int .i64 1048576) ?_
  repeat first | with_reducible refine sk fun K hK => ?_ | with_reducible refine then_normal ?_ | ((with_reducible refine hK _ _ ?_); clear hK K) | with_reducible refine wpList_nil ?_ | with_reducible refine rl ?_ | ((with_reducible refine is_cond ?_); first | refine wp_cond_true (by rfl) ?_ | refine wp_cond_false (by rfl) ?_) | with_reducible refine wp_block ?_ | with_reducible refine wp_skip ?_ | with_reducible refine wp_ret ?_ | with_reducible refine wp_exit ?_ | (clear hK K; (with_reducible refine hK _ _ ?_); clear hK K) | (clear hK K; clear hK K; (with_reducible refine hK _ _ ?_); clear hK K) | with_reducible refine then_exit ?_ | with_reducible refine then_ret ?_ | with_reducible refine inb_ret ?_ | with_reducible refine inb_norm ?_
  refine sl6 bx0 ?_
  refine sv (.int .i64 1048576) ?_
  refine sw_call (by rfl) (by first | rfl | (go_simp; done)) (szLink_le p.base p.want _ _ _ _ p V1 (ha0.out.below HB.out.below) hs) ?_
  rintro e V2 ⟨r, rfl, hp, hr1, hbV2⟩
  have m2 : Mv (nob) V1 V2 := Mv.of_below hbV2
  refine ⟨_, rfl, ?_⟩
  refine pt ?_
  replace HB := Xhn HB m2; replace bx0 := Xbn bx0 m2; clear hbV2; clear m2
  refine sv (.int .i64 r) ?_
  repeat first | with_reducible refine sk fun K hK => ?_ | with_reducible refine then_normal ?_ | ((with_reducible refine hK _ _ ?_); clear hK K) | with_reducible refine wpList_nil ?_ | with_reducible refine rl ?_ | ((with_reducible refine is_cond ?_); first | refine wp_cond_true (by rfl) ?_ | refine wp_cond_false (by rfl) ?_) | with_reducible refine wp_block ?_ | with_reducible refine wp_skip ?_ | with_reducible refine wp_ret ?_ | with_reducible refine wp_exit ?_ | (clear hK K; (with_reducible refine hK _ _ ?_); clear hK K) | (clear hK K; clear hK K; (with_reducible refine hK _ _ ?_); clear hK K) | with_reducible refine then_exit ?_ | with_reducible refine then_ret ?_ | with_reducible refine inb_ret ?_ | with_reducible refine inb_norm ?_
  by_cases hx : r < 0
  · refine sv (.int .i64 r) ?_
    refine sg (.bool true) (h := by have h0 : decide (r < 0) = true := decide_eq_true hx; have h1 := hx; go_simp) ?_
    repeat first | with_reducible refine sk fun K hK => ?_ | with_reducible refine then_normal ?_ | ((with_reducible refine hK _ _ ?_); clear hK K) | with_reducible refine wpList_nil ?_ | with_reducible refine rl ?_ | ((with_reducible refine is_cond ?_); first | refine wp_cond_true (by rfl) ?_ | refine wp_cond_false (by rfl) ?_) | with_reducible refine wp_block ?_ | with_reducible refine wp_skip ?_ | with_reducible refine wp_ret ?_ | with_reducible refine wp_exit ?_ | (clear hK K; (with_reducible refine hK _ _ ?_); clear hK K) | (clear hK K; clear hK K; (with_reducible refine hK _ _ ?_); clear hK K) | with_reducible refine then_exit ?_ | with_reducible refine then_ret ?_ | with_reducible refine inb_ret ?_ | with_reducible refine inb_norm ?_
    refine sv (.bool true) ?_
    repeat first | with_reducible refine sk fun K hK => ?_ | with_reducible refine then_normal ?_ | ((with_reducible refine hK _ _ ?_); clear hK K) | with_reducible refine wpList_nil ?_ | with_reducible refine rl ?_ | ((with_reducible refine is_cond ?_); first | refine wp_cond_true (by rfl) ?_ | refine wp_cond_false (by rfl) ?_) | with_reducible refine wp_block ?_ | with_reducible refine wp_skip ?_ | with_reducible refine wp_ret ?_ | with_reducible refine wp_exit ?_ | (clear hK K; (with_reducible refine hK _ _ ?_); clear hK K) | (clear hK K; clear hK K; (with_reducible refine hK _ _ ?_); clear hK K) | with_reducible refine then_exit ?_ | with_reducible refine then_ret ?_ | with_reducible refine inb_ret ?_ | with_reducible refine inb_norm ?_
    try simp only [Exit.then, Exit.inBlock, ↓reduceIte, Nat.reduceEqDiff]
    exact bodyPost_ret (v := .bool true) (by simp [results, Try.results6, go_sem]) rfl ⟨rfl, HB.out.below⟩
  refine sv (.int .i64 r) ?_
  refine sg (.bool false) (h := by have h0 : decide (r < 0) = false := decide_eq_false hx; have h1 := hx; go_simp) ?_
  repeat first | with_reducible refine sk fun K hK => ?_ | with_reducible refine then_normal ?_ | ((with_reducible refine hK _ _ ?_); clear hK K) | with_reducible refine wpList_nil ?_ | with_reducible refine rl ?_ | ((with_reducible refine is_cond ?_); first | refine wp_cond_true (by rfl) ?_ | refine wp_cond_false (by rfl) ?_) | with_reducible refine wp_block ?_ | with_reducible refine wp_skip ?_ | with_reducible refine wp_ret ?_ | with_reducible refine wp_exit ?_ | (clear hK K; (with_reducible refine hK _ _ ?_); clear hK K) | (clear hK K; clear hK K; (with_reducible refine hK _ _ ?_); clear hK K) | with_reducible refine then_exit ?_ | with_reducible refine then_ret ?_ | with_reducible refine inb_ret ?_ | with_reducible refine inb_norm ?_
  have hsm := hp (by omega)
  clear hp hx hr1
  refine sl6 bx0 ?_
  refine sw_call (by rfl) (by first | rfl | (go_simp; done)) (toLink_any _ _ _ _ p V2 (ha0.out.below HB.out.below) hsm) ?_
  rintro e V3 ⟨xw, xg, xd, xu, rfl, LO1, hbV3⟩
  have m3 : Mv (nob) V2 V3 := Mv.of_below hbV3
  refine ⟨_, rfl, ?_⟩
  refine pt ?_
  replace HB := Xhn HB m3; replace bx0 := Xbn bx0 m3
  have LA1 := hide LO1.la
  clear LO1 hbV3; clear m3
  have szV := HB.out.size
  refine sw_call (by rfl) (by first | rfl | (go_simp; done)) (hspec V3 _ _ _ _ LA1.out hsm) ?_
  rintro e V4 ⟨qa_, qb_, qc_, qd_, rfl, LQ, hbV4⟩
  have m4 : Mv (nob) V3 V4 := Mv.of_below hbV4
  refine ⟨_, rfl, ?_⟩
  refine pt ?_
  replace HB := Xhn HB m4; replace bx0 := Xbn bx0 m4
  replace LA1 := hide (LA1.out.below (m4).below)
  obtain ⟨xa0, xc0, rfl, _⟩ := LQ.wa.form
  obtain ⟨xa1, xc1, rfl, _⟩ := LQ.go.form
  obtain ⟨xa2, xc2, rfl, _⟩ := LQ.dn.form
  obtain ⟨xa3, xc3, rfl, _⟩ := LQ.up.form
  have LW := hide (LQ.lower (Nat.zero_le _))
  clear LQ hbV4 szV; clear LA1; clear m4
  refine sv (.tuple #[.agg #[.int .i64 L.base, .slice xa0 L.nw xc0, .int .i64 L.want, .slice xa1 L.ng xc1, .slice xa2 L.nd xc2, .slice xa3 L.nu xc3], .bool bb]) ?_
  refine sv (.agg #[.int .i64 L.base, .slice xa0 L.nw xc0, .int .i64 L.want, .slice xa1 L.ng xc1, .slice xa2 L.nd xc2, .slice xa3 L.nu xc3]) ?_
  refine sv (.bool bb) ?_
  refine sbp #[.int .i64 0, .slice none 0 0, .int .i64 0, .slice none 0 0, .slice none 0 0, .slice none 0 0] 30 fun V5 b1 hb1 m5 bx1 => ?_
  have o0_1 := Xlo bx0 hb1
  have LWb : ∀ g, Lrb (.slice xa0 L.nw xc0) (.slice xa1 L.ng xc1) (.slice xa2 L.nd xc2) (.slice xa3 L.nu xc3) g → g ≠ b1 := fun g h => by have := (LW.out.lt g h).2; omega
  replace HB := Xhn HB m5; replace bx0 := Xbn bx0 m5
  replace LW := hide (LW.out.mv m5 (fun _ _ h => h))
  clear hb1 m5
  refine ss6 (.int .i64 L.base) (.slice xa0 L.nw xc0) (.int .i64 L.want) (.slice xa1 L.ng xc1) (.slice xa2 L.nd xc2) (.slice xa3 L.nu xc3) bx1 fun V6 m6 bx1 => ?_
  replace HB := Xhb HB m6; replace bx0 := Xbb bx0 m6
  replace LW := hide (LW.out.mv m6 (fun g hg h => LWb g hg h))
  clear m6
  refine sv (.bool bb) ?_
  repeat first | with_reducible refine sk fun K hK => ?_ | with_reducible refine then_normal ?_ | ((with_reducible refine hK _ _ ?_); clear hK K) | with_reducible refine wpList_nil ?_ | with_reducible refine rl ?_ | ((with_reducible refine is_cond ?_); first | refine wp_cond_true (by rfl) ?_ | refine wp_cond_false (by rfl) ?_) | with_reducible refine wp_block ?_ | with_reducible refine wp_skip ?_ | with_reducible refine wp_ret ?_ | with_reducible refine wp_exit ?_ | (clear hK K; (with_reducible refine hK _ _ ?_); clear hK K) | (clear hK K; clear hK K; (with_reducible refine hK _ _ ?_); clear hK K) | with_reducible refine then_exit ?_ | with_reducible refine then_ret ?_ | with_reducible refine inb_ret ?_ | with_reducible refine inb_norm ?_
  have HB8 : Hid (Mv nob V6 V6) := hide (Mv.refl _ _)
  have l28 : b1 < V6.heap.size := lt_of_block bx1.out
  clear LWb
  refine sl6 bx0 ?_
  have z8 := HB8.out.size
  refine sw_call (by rfl) (by first | rfl | (go_simp; done)) (toLink_any _ _ _ _ p V6 (ha0.out.below HB.out.below) hsm) ?_
  rintro e V7 ⟨gw, gg, gd, gu, rfl, LO2, hbV7⟩
  have m7 : Mv (nob) V6 V7 := Mv.of_below hbV7
  refine ⟨_, rfl, ?_⟩
  refine pt ?_
  replace HB := Xhn HB m7; replace bx0 := Xbn bx0 m7; replace bx1 := Xbn bx1 m7; replace HB8 := Xhn HB8 m7
  have LX := hide LO2
  have HB9 : Hid (Mv nob V7 V7) := hide (Mv.refl _ _)
  have lw9 := LO2.lw
  have hi9 := LO2.hi
  clear LO2 hbV7; clear m7
  refine sbp #[.int .i64 0, .slice none 0 0, .int .i64 0, .slice none 0 0, .slice none 0 0, .slice none 0 0] 30 fun V8 b2 hb2 m8 bx2 => ?_
  have o0_2 := Xlo bx0 hb2; have o1_2 := Xlo bx1 hb2; have a8_b2 := Xhs HB8 hb2; have a9_b2 := Xhs HB9 hb2; replace HB := Xhn HB m8; replace bx0 := Xbn bx0 m8; replace bx1 := Xbn bx1 m8; replace HB8 := Xhn HB8 m8; replace HB9 := Xhn HB9 m8; clear hb2 m8
  refine ss6 (.int .i64 p.base) (sln gw p.nw) (.int .i64 p.want) (sln gg p.ng) (sln gd p.nd) (sln gu p.nu) bx2 fun V9 m9 bx2 => ?_
  replace HB := Xhb HB m9; replace bx0 := Xbb bx0 m9; replace bx1 := Xbb bx1 m9; replace HB8 := Xhb HB8 m9; replace HB9 := Xhb HB9 m9; clear m9
  repeat first | with_reducible refine sk fun K hK => ?_ | with_reducible refine then_normal ?_ | ((with_reducible refine hK _ _ ?_); clear hK K) | with_reducible refine wpList_nil ?_ | with_reducible refine rl ?_ | ((with_reducible refine is_cond ?_); first | refine wp_cond_true (by rfl) ?_ | refine wp_cond_false (by rfl) ?_) | with_reducible refine wp_block ?_ | with_reducible refine wp_skip ?_ | with_reducible refine wp_ret ?_ | with_reducible refine wp_exit ?_ | (clear hK K; (with_reducible refine hK _ _ ?_); clear hK K) | (clear hK K; clear hK K; (with_reducible refine hK _ _ ?_); clear hK K) | with_reducible refine then_exit ?_ | with_reducible refine then_ret ?_ | with_reducible refine inb_ret ?_ | with_reducible refine inb_norm ?_
  have l3R := lt_of_block bx2.out
  refine sl6 bx2 ?_
  have szV := HB.out.size
  refine sw_call (by rfl) (by first | rfl | (go_simp; done)) (himpl V9 _ _ _ _ (LX.out.below HB9.out.below).la hsm) ?_
  rintro e V10 ⟨qa_, qb_, qc_, qd_, rfl, LQ, hbV10⟩
  have m10 : Mv (nob) V9 V10 := Mv.of_below hbV10
  refine ⟨_, rfl, ?_⟩
  refine pt ?_
  replace HB := Xhn HB m10; replace bx0 := Xbn bx0 m10; replace bx1 := Xbn bx1 m10; replace HB8 := Xhn HB8 m10; replace HB9 := Xhn HB9 m10; replace bx2 := Xbn bx2 m10
  obtain ⟨ya0, yc0, rfl, _⟩ := LQ.wa.form
  obtain ⟨ya1, yc1, rfl, _⟩ := LQ.go.form
  obtain ⟨ya2, yc2, rfl, _⟩ := LQ.dn.form
  obtain ⟨ya3, yc3, rfl, _⟩ := LQ.up.form
  have LG := hide (LQ.lower (Nat.zero_le _))
  have LGl : ∀ g, Lrb (.slice ya0 L.nw yc0) (.slice ya1 L.ng yc1) (.slice ya2 L.nd yc2) (.slice ya3 L.nu yc3) g → V9.heap.size ≤ g := fun g h => (LQ.lt g h).1
  clear LQ hbV10 szV; clear m10
  refine sv (.tuple #[.agg #[.int .i64 L.base, .slice ya0 L.nw yc0, .int .i64 L.want, .slice ya1 L.ng yc1, .slice ya2 L.nd yc2, .slice ya3 L.nu yc3], .bool bb]) ?_
  refine sv (.agg #[.int .i64 L.base, .slice ya0 L.nw yc0, .int .i64 L.want, .slice ya1 L.ng yc1, .slice ya2 L.nd yc2, .slice ya3 L.nu yc3]) ?_
  refine sv (.bool bb) ?_
  refine sbp #[.int .i64 0, .slice none 0 0, .int .i64 0, .slice none 0 0, .slice none 0 0, .slice none 0 0] 30 fun V11 b3 hb3 m11 bx3 => ?_
  have o0_3 := Xlo bx0 hb3; have o1_3 := Xlo bx1 hb3; have o2_3 := Xlo bx2 hb3
  have LGb : ∀ g, Lrb (.slice ya0 L.nw yc0) (.slice ya1 L.ng yc1) (.slice ya2 L.nd yc2) (.slice ya3 L.nu yc3) g → b2 < g ∧ g ≠ b3 := fun g h => by have := LGl g h; have := (LG.out.lt g h).2; omega
  replace HB := Xhn HB m11; replace bx0 := Xbn bx0 m11; replace bx1 := Xbn bx1 m11; replace HB8 := Xhn HB8 m11; replace HB9 := Xhn HB9 m11; replace bx2 := Xbn bx2 m11
  replace LG := hide (LG.out.mv m11 (fun _ _ h => h))
  clear hb3 m11
  refine ss6 (.int .i64 L.base) (.slice ya0 L.nw yc0) (.int .i64 L.want) (.slice ya1 L.ng yc1) (.slice ya2 L.nd yc2) (.slice ya3 L.nu yc3) bx3 fun V12 m12 bx3 => ?_
  replace HB := Xhb HB m12; replace bx0 := Xbb bx0 m12; replace bx1 := Xbb bx1 m12; replace HB8 := Xhb HB8 m12; replace HB9 := Xhb HB9 m12; replace bx2 := Xbb bx2 m12
  replace LG := hide (LG.out.mv m12 (fun g hg h => by have h : g = b3 := h; have := LGb g hg; omega))
  clear m12
  refine sv (.bool bb) ?_
  repeat first | with_reducible refine sk fun K hK => ?_ | with_reducible refine then_normal ?_ | ((with_reducible refine hK _ _ ?_); clear hK K) | with_reducible refine wpList_nil ?_ | with_reducible refine rl ?_ | ((with_reducible refine is_cond ?_); first | refine wp_cond_true (by rfl) ?_ | refine wp_cond_false (by rfl) ?_) | with_reducible refine wp_block ?_ | with_reducible refine wp_skip ?_ | with_reducible refine wp_ret ?_ | with_reducible refine wp_exit ?_ | (clear hK K; (with_reducible refine hK _ _ ?_); clear hK K) | (clear hK K; clear hK K; (with_reducible refine hK _ _ ?_); clear hK K) | with_reducible refine then_exit ?_ | with_reducible refine then_ret ?_ | with_reducible refine inb_ret ?_ | with_reducible refine inb_norm ?_
  refine sl6 bx3 ?_
  refine sl6 bx1 ?_
  refine sw_call (by rfl) (by first | rfl | (go_simp; done)) (eqLink_same _ _ _ _ _ _ _ _ L V12 LG.out.lv (LW.out.mv HB8.out (fun _ _ h => h)).lv hsz.out) ?_
  rintro e V13 ⟨rfl, hbV13⟩
  have m13 : Mv (nob) V12 V13 := Mv.of_below hbV13
  refine ⟨_, rfl, ?_⟩
  refine pt ?_
  replace HB := Xhn HB m13; replace bx0 := Xbn bx0 m13; replace bx1 := Xbn bx1 m13; replace HB8 := Xhn HB8 m13; replace HB9 := Xhn HB9 m13; replace bx2 := Xbn bx2 m13
  replace LG := hide (LG.out.mv m13 (fun _ _ h => h))
  replace bx3 := Xbn bx3 m13; clear hbV13; clear m13
  refine sg (.bool false) ?_
  refine sv (.bool false) ?_
  refine sv (.bool bb) ?_
  refine sv (.bool bb) ?_
  refine sg (.bool false) (h := by have h0 := hbb; go_simp) ?_
  refine sg (.bool false) ?_
  repeat first | with_reducible refine sk fun K hK => ?_ | with_reducible refine then_normal ?_ | ((with_reducible refine hK _ _ ?_); clear hK K) | with_reducible refine wpList_nil ?_ | with_reducible refine rl ?_ | ((with_reducible refine is_cond ?_); first | refine wp_cond_true (by rfl) ?_ | refine wp_cond_false (by rfl) ?_) | with_reducible refine wp_block ?_ | with_reducible refine wp_skip ?_ | with_reducible refine wp_ret ?_ | with_reducible refine wp_exit ?_ | (clear hK K; (with_reducible refine hK _ _ ?_); clear hK K) | (clear hK K; clear hK K; (with_reducible refine hK _ _ ?_); clear hK K) | with_reducible refine then_exit ?_ | with_reducible refine then_ret ?_ | with_reducible refine inb_ret ?_ | with_reducible refine inb_norm ?_
  refine wp_region_but (z := 999) (S := fun w' => Mv (nob) V13.drew w') (by kernel_rfl) (Mv.refl _ _) (fun hS => ?_)
  have m14 : Mv nob V13 V13.drew := Mv.drew _
  obtain ⟨V14, hV14⟩ : ∃ V, V13.drew = V := ⟨_, rfl⟩
  rw [hV14] at hS m14 ⊢
  clear hV14; replace HB := Xhn HB m14; replace bx0 := Xbn bx0 m14; replace bx1 := Xbn bx1 m14; replace HB8 := Xhn HB8 m14; replace HB9 := Xhn HB9 m14; replace bx2 := Xbn bx2 m14
  replace LG := hide (LG.out.mv m14 (fun _ _ h => h))
  replace bx3 := Xbn bx3 m14; clear m14; have rbx0 := bx0; have rbx1 := bx1; have rbx2 := bx2; have rbx3 := bx3
  refine tk 0 (.agg #[.int .i64 p.base, sln gw p.nw, .int .i64 p.want, sln gg p.ng, sln gd p.nd, sln gu p.nu]) rfl (fun w' hSw => by (try dsimp only at hSw); have z0 := cell_box 0 (hSw.box rbx2.out (fun h => h)) rfl; have z1 := cell_box 1 (hSw.box rbx2.out (fun h => h)) rfl; have z2 := cell_box 2 (hSw.box rbx2.out (fun h => h)) rfl; have z3 := cell_box 3 (hSw.box rbx2.out (fun h => h)) rfl; have z4 := cell_box 4 (hSw.box rbx2.out (fun h => h)) rfl; have z5 := cell_box 5 (hSw.box rbx2.out (fun h => h)) rfl; go_simp) ?_
  refine tk 1 (.agg #[.int .i64 p.base, .slice wa p.nw wc, .int .i64 p.want, .slice ga p.ng gc, .slice da p.nd dc, .slice ua p.nu uc]) rfl (fun w' hSw => by (try dsimp only at hSw); have z0 := cell_box 0 (hSw.box rbx0.out (fun h => h)) rfl; have z1 := cell_box 1 (hSw.box rbx0.out (fun h => h)) rfl; have z2 := cell_box 2 (hSw.box rbx0.out (fun h => h)) rfl; have z3 := cell_box 3 (hSw.box rbx0.out (fun h => h)) rfl; have z4 := cell_box 4 (hSw.box rbx0.out (fun h => h)) rfl; have z5 := cell_box 5 (hSw.box rbx0.out (fun h => h)) rfl; go_simp) ?_
  refine kd_call (i := 2) (by kernel_rfl) rfl (by rfl) (by first | rfl | (go_simp; done)) (toLink_any _ _ _ _ p V14 (ha0.out.below HB.out.below) hsm) ?_
  rintro e V15 ⟨tw, tg, td, tu, rfl, LO3, hbV15⟩
  have m15 : Mv (nob) V14 V15 := Mv.of_below hbV15
  replace hS := hS.step m15 (fun _ _ h => h.elim)
  refine ⟨_, rfl, fun _ => hS, ?_⟩
  refine ptk ?_
  replace HB := Xhn HB m15; replace bx0 := Xbn bx0 m15; replace bx1 := Xbn bx1 m15; replace HB8 := Xhn HB8 m15; replace HB9 := Xhn HB9 m15; replace bx2 := Xbn bx2 m15
  replace LG := hide (LG.out.mv m15 (fun _ _ h => h))
  replace bx3 := Xbn bx3 m15
  have LT3 := hide LO3
  clear LO3 hbV15; clear m15
  refine kd_call (i := 3) (by kernel_rfl) rfl (by rfl) (by first | rfl | (go_simp; done)) (eqLink_same _ _ _ _ _ _ _ _ p V15 (LX.out.below HB9.out.below).lv LT3.out.lv hsm) ?_
  rintro e V16 ⟨rfl, hbV16⟩
  have m16 : Mv (nob) V15 V16 := Mv.of_below hbV16
  replace hS := hS.step m16 (fun _ _ h => h.elim)
  refine ⟨_, rfl, fun _ => hS, ?_⟩
  refine ptk ?_
  replace HB := Xhn HB m16; replace bx0 := Xbn bx0 m16; replace bx1 := Xbn bx1 m16; replace HB8 := Xhn HB8 m16; replace HB9 := Xhn HB9 m16; replace bx2 := Xbn bx2 m16
  replace LG := hide (LG.out.mv m16 (fun _ _ h => h))
  replace bx3 := Xbn bx3 m16
  replace LT3 := hide (LT3.out.below (m16).below)
  clear hbV16; clear m16
  refine tk0 4 (.bool false) rfl ?_
  refine wpAnyK_done (by kernel_rfl) ?_
  clear hS rbx0 rbx1 rbx2 rbx3
  repeat first | with_reducible refine sk fun K hK => ?_ | with_reducible refine then_normal ?_ | ((with_reducible refine hK _ _ ?_); clear hK K) | with_reducible refine wpList_nil ?_ | with_reducible refine rl ?_ | ((with_reducible refine is_cond ?_); first | refine wp_cond_true (by rfl) ?_ | refine wp_cond_false (by rfl) ?_) | with_reducible refine wp_block ?_ | with_reducible refine wp_skip ?_ | with_reducible refine wp_ret ?_ | with_reducible refine wp_exit ?_ | (clear hK K; (with_reducible refine hK _ _ ?_); clear hK K) | (clear hK K; clear hK K; (with_reducible refine hK _ _ ?_); clear hK K) | with_reducible refine then_exit ?_ | with_reducible refine then_ret ?_ | with_reducible refine inb_ret ?_ | with_reducible refine inb_norm ?_
  clear LT3
  refine sv (.int .i64 1) ?_
  repeat first | with_reducible refine sk fun K hK => ?_ | with_reducible refine then_normal ?_ | ((with_reducible refine hK _ _ ?_); clear hK K) | with_reducible refine wpList_nil ?_ | with_reducible refine rl ?_ | ((with_reducible refine is_cond ?_); first | refine wp_cond_true (by rfl) ?_ | refine wp_cond_false (by rfl) ?_) | with_reducible refine wp_block ?_ | with_reducible refine wp_skip ?_ | with_reducible refine wp_ret ?_ | with_reducible refine wp_exit ?_ | (clear hK K; (with_reducible refine hK _ _ ?_); clear hK K) | (clear hK K; clear hK K; (with_reducible refine hK _ _ ?_); clear hK K) | with_reducible refine then_exit ?_ | with_reducible refine then_ret ?_ | with_reducible refine inb_ret ?_ | with_reducible refine inb_norm ?_
  refine sl6 bx2 ?_
  refine sv (.int .i64 1) ?_
  have LTm : ∀ g, (g = gw ∨ g = gg ∨ g = gd ∨ g = gu) → b1 < g ∧ g < b2 := fun g h => by omega
  refine sw_call (by rfl) (by first | rfl | (go_simp; done)) (markLink_lo gw gg gd gu p 1 _ V16 (LX.out.below HB9.out.below) hsm.four (by decide) (by decide)) ?_
  rintro e V17 ⟨rfl, mm⟩
  have m17 : Mv (fun g => g = gw ∨ g = gg ∨ g = gd ∨ g = gu) V16 V17 := mm
  refine ⟨_, rfl, ?_⟩
  refine pt ?_
  replace HB := hide (HB.out.step m17 (fun g hlt h => by have := LTm g h; exfalso; omega))
  replace bx0 := hide (m17.box bx0.out (fun h => by have := LTm _ h; omega))
  replace bx1 := hide (m17.box bx1.out (fun h => by have := LTm _ h; omega))
  replace HB8 := hide (HB8.out.step m17 (fun g hlt h => by have := LTm g h; exfalso; omega))
  replace bx2 := hide (m17.box bx2.out (fun h => by have := LTm _ h; omega))
  replace LG := hide (LG.out.mv m17 (fun g hg h => by have := LTm g h; have := LGb g hg; omega))
  replace bx3 := hide (m17.box bx3.out (fun h => by have := LTm _ h; omega))
  clear mm LTm HB9 LX; clear m17
  refine sv (.int .i64 (mkE p 1)) ?_
  repeat first | with_reducible refine sk fun K hK => ?_ | with_reducible refine then_normal ?_ | ((with_reducible refine hK _ _ ?_); clear hK K) | with_reducible refine wpList_nil ?_ | with_reducible refine rl ?_ | ((with_reducible refine is_cond ?_); first | refine wp_cond_true (by rfl) ?_ | refine wp_cond_false (by rfl) ?_) | with_reducible refine wp_block ?_ | with_reducible refine wp_skip ?_ | with_reducible refine wp_ret ?_ | with_reducible refine wp_exit ?_ | (clear hK K; (with_reducible refine hK _ _ ?_); clear hK K) | (clear hK K; clear hK K; (with_reducible refine hK _ _ ?_); clear hK K) | with_reducible refine then_exit ?_ | with_reducible refine then_ret ?_ | with_reducible refine inb_ret ?_ | with_reducible refine inb_norm ?_
  refine sv (.int .i64 (mkE p 1)) ?_
  refine sg (.bool false) (h := by have h0 := hm0; go_simp) ?_
  refine sv (.bool false) ?_
  refine sl6 bx3 ?_
  refine sl6 bx1 ?_
  refine sw_call (by rfl) (by first | rfl | (go_simp; done)) (eqLink_same _ _ _ _ _ _ _ _ L V17 LG.out.lv (LW.out.mv HB8.out (fun _ _ h => h)).lv hsz.out) ?_
  rintro e V18 ⟨rfl, hbV18⟩
  have m18 : Mv (nob) V17 V18 := Mv.of_below hbV18
  refine ⟨_, rfl, ?_⟩
  refine pt ?_
  replace HB := Xhn HB m18; replace bx0 := Xbn bx0 m18; replace bx1 := Xbn bx1 m18; replace HB8 := Xhn HB8 m18; replace bx2 := Xbn bx2 m18
  replace LG := hide (LG.out.mv m18 (fun _ _ h => h))
  replace bx3 := Xbn bx3 m18; clear hbV18; clear m18
  refine sg (.bool false) ?_
  refine sg (.bool false) ?_
  refine sv (.bool false) ?_
  refine sv (.bool bb) ?_
  refine sv (.bool bb) ?_
  refine sg (.bool false) (h := by have h0 := hbb; go_simp) ?_
  refine sg (.bool false) ?_
  repeat first | with_reducible refine sk fun K hK => ?_ | with_reducible refine then_normal ?_ | ((with_reducible refine hK _ _ ?_); clear hK K) | with_reducible refine wpList_nil ?_ | with_reducible refine rl ?_ | ((with_reducible refine is_cond ?_); first | refine wp_cond_true (by rfl) ?_ | refine wp_cond_false (by rfl) ?_) | with_reducible refine wp_block ?_ | with_reducible refine wp_skip ?_ | with_reducible refine wp_ret ?_ | with_reducible refine wp_exit ?_ | (clear hK K; (with_reducible refine hK _ _ ?_); clear hK K) | (clear hK K; clear hK K; (with_reducible refine hK _ _ ?_); clear hK K) | with_reducible refine then_exit ?_ | with_reducible refine then_ret ?_ | with_reducible refine inb_ret ?_ | with_reducible refine inb_norm ?_
  refine sv (.int .i64 1) ?_
  repeat first | with_reducible refine sk fun K hK => ?_ | with_reducible refine then_normal ?_ | ((with_reducible refine hK _ _ ?_); clear hK K) | with_reducible refine wpList_nil ?_ | with_reducible refine rl ?_ | ((with_reducible refine is_cond ?_); first | refine wp_cond_true (by rfl) ?_ | refine wp_cond_false (by rfl) ?_) | with_reducible refine wp_block ?_ | with_reducible refine wp_skip ?_ | with_reducible refine wp_ret ?_ | with_reducible refine wp_exit ?_ | (clear hK K; (with_reducible refine hK _ _ ?_); clear hK K) | (clear hK K; clear hK K; (with_reducible refine hK _ _ ?_); clear hK K) | with_reducible refine then_exit ?_ | with_reducible refine then_ret ?_ | with_reducible refine inb_ret ?_ | with_reducible refine inb_norm ?_
  refine sl6 bx3 ?_
  refine sv (.int .i64 1) ?_
  have LTm : ∀ g, Lrb (.slice ya0 L.nw yc0) (.slice ya1 L.ng yc1) (.slice ya2 L.nd yc2) (.slice ya3 L.nu yc3) g → b2 < g ∧ g ≠ b3 := fun g h => by have := LGb g h; omega
  refine sw_call (by rfl) (by first | rfl | (go_simp; done)) (markLink_lr _ _ _ _ L 1 _ V18 LG.out hsz.out.four (by decide) (by decide)) ?_
  rintro e V19 ⟨rfl, mm, LM0⟩
  have m19 : Mv (Lrb (.slice ya0 L.nw yc0) (.slice ya1 L.ng yc1) (.slice ya2 L.nd yc2) (.slice ya3 L.nu yc3)) V18 V19 := mm
  refine ⟨_, rfl, ?_⟩
  refine pt ?_
  replace HB := hide (HB.out.step m19 (fun g hlt h => by have := LTm g h; exfalso; omega))
  replace bx0 := hide (m19.box bx0.out (fun h => by have := LTm _ h; omega))
  replace bx1 := hide (m19.box bx1.out (fun h => by have := LTm _ h; omega))
  replace HB8 := hide (HB8.out.step m19 (fun g hlt h => by have := LTm g h; exfalso; omega))
  replace bx2 := hide (m19.box bx2.out (fun h => by have := LTm _ h; omega))
  replace bx3 := hide (m19.box bx3.out (fun h => by have := LTm _ h; omega))
  have LM := hide LM0
  clear LG LM0 mm LTm; clear m19
  refine sv (.int .i64 (mkE L 1)) ?_
  repeat first | with_reducible refine sk fun K hK => ?_ | with_reducible refine then_normal ?_ | ((with_reducible refine hK _ _ ?_); clear hK K) | with_reducible refine wpList_nil ?_ | with_reducible refine rl ?_ | ((with_reducible refine is_cond ?_); first | refine wp_cond_true (by rfl) ?_ | refine wp_cond_false (by rfl) ?_) | with_reducible refine wp_block ?_ | with_reducible refine wp_skip ?_ | with_reducible refine wp_ret ?_ | with_reducible refine wp_exit ?_ | (clear hK K; (with_reducible refine hK _ _ ?_); clear hK K) | (clear hK K; clear hK K; (with_reducible refine hK _ _ ?_); clear hK K) | with_reducible refine then_exit ?_ | with_reducible refine then_ret ?_ | with_reducible refine inb_ret ?_ | with_reducible refine inb_norm ?_
  refine sv (.int .i64 1) ?_
  repeat first | with_reducible refine sk fun K hK => ?_ | with_reducible refine then_normal ?_ | ((with_reducible refine hK _ _ ?_); clear hK K) | with_reducible refine wpList_nil ?_ | with_reducible refine rl ?_ | ((with_reducible refine is_cond ?_); first | refine wp_cond_true (by rfl) ?_ | refine wp_cond_false (by rfl) ?_) | with_reducible refine wp_block ?_ | with_reducible refine wp_skip ?_ | with_reducible refine wp_ret ?_ | with_reducible refine wp_exit ?_ | (clear hK K; (with_reducible refine hK _ _ ?_); clear hK K) | (clear hK K; clear hK K; (with_reducible refine hK _ _ ?_); clear hK K) | with_reducible refine then_exit ?_ | with_reducible refine then_ret ?_ | with_reducible refine inb_ret ?_ | with_reducible refine inb_norm ?_
  refine sl6 bx3 ?_
  refine sv (.int .i64 1) ?_
  refine sw_call (by rfl) (by first | rfl | (go_simp; done)) (heldLink_lr _ _ _ _ L 1 V19 LM.out.lv hsz.out.four (by decide) (by decide)) ?_
  rintro e V20 ⟨rfl, hbV20⟩
  have m20 : Mv (nob) V19 V20 := Mv.of_below hbV20
  refine ⟨_, rfl, ?_⟩
  refine pt ?_
  replace HB := Xhn HB m20; replace bx0 := Xbn bx0 m20; replace bx1 := Xbn bx1 m20; replace HB8 := Xhn HB8 m20; replace bx2 := Xbn bx2 m20; replace bx3 := Xbn bx3 m20
  replace LM := hide (LM.out.mv m20 (fun _ _ h => h))
  clear hbV20; clear m20
  refine sv (.int .i64 (mkE L 1)) ?_
  repeat first | with_reducible refine sk fun K hK => ?_ | with_reducible refine then_normal ?_ | ((with_reducible refine hK _ _ ?_); clear hK K) | with_reducible refine wpList_nil ?_ | with_reducible refine rl ?_ | ((with_reducible refine is_cond ?_); first | refine wp_cond_true (by rfl) ?_ | refine wp_cond_false (by rfl) ?_) | with_reducible refine wp_block ?_ | with_reducible refine wp_skip ?_ | with_reducible refine wp_ret ?_ | with_reducible refine wp_exit ?_ | (clear hK K; (with_reducible refine hK _ _ ?_); clear hK K) | (clear hK K; clear hK K; (with_reducible refine hK _ _ ?_); clear hK K) | with_reducible refine then_exit ?_ | with_reducible refine then_ret ?_ | with_reducible refine inb_ret ?_ | with_reducible refine inb_norm ?_
  refine sv (.int .i64 (mkE L 1)) ?_
  refine sg (.bool false) (h := by have h0 := hm1; go_simp) ?_
  repeat first | with_reducible refine sk fun K hK => ?_ | with_reducible refine then_normal ?_ | ((with_reducible refine hK _ _ ?_); clear hK K) | with_reducible refine wpList_nil ?_ | with_reducible refine rl ?_ | ((with_reducible refine is_cond ?_); first | refine wp_cond_true (by rfl) ?_ | refine wp_cond_false (by rfl) ?_) | with_reducible refine wp_block ?_ | with_reducible refine wp_skip ?_ | with_reducible refine wp_ret ?_ | with_reducible refine wp_exit ?_ | (clear hK K; (with_reducible refine hK _ _ ?_); clear hK K) | (clear hK K; clear hK K; (with_reducible refine hK _ _ ?_); clear hK K) | with_reducible refine then_exit ?_ | with_reducible refine then_ret ?_ | with_reducible refine inb_ret ?_ | with_reducible refine inb_norm ?_
  refine sv (.int .i64 (mkE L 1)) ?_
  refine sv (.int .i64 (mkE L 1)) ?_
  refine sg (.bool false) ?_
  repeat first | with_reducible refine sk fun K hK => ?_ | with_reducible refine then_normal ?_ | ((with_reducible refine hK _ _ ?_); clear hK K) | with_reducible refine wpList_nil ?_ | with_reducible refine rl ?_ | ((with_reducible refine is_cond ?_); first | refine wp_cond_true (by rfl) ?_ | refine wp_cond_false (by rfl) ?_) | with_reducible refine wp_block ?_ | with_reducible refine wp_skip ?_ | with_reducible refine wp_ret ?_ | with_reducible refine wp_exit ?_ | (clear hK K; (with_reducible refine hK _ _ ?_); clear hK K) | (clear hK K; clear hK K; (with_reducible refine hK _ _ ?_); clear hK K) | with_reducible refine then_exit ?_ | with_reducible refine then_ret ?_ | with_reducible refine inb_ret ?_ | with_reducible refine inb_norm ?_
  have HB24 : Hid (Mv nob V20 V20) := hide (Mv.refl _ _)
  have LMlt := hide (fun g h => (LM.out.lt g h).2)
  refine sl6 bx0 ?_
  refine sw_call (by rfl) (by first | rfl | (go_simp; done)) (toLink_any _ _ _ _ p V20 (ha0.out.below HB.out.below) hsm) ?_
  rintro e V21 ⟨uw, ug, ud, uu, rfl, LO1, hbV21⟩
  have m21 : Mv (nob) V20 V21 := Mv.of_below hbV21
  refine ⟨_, rfl, ?_⟩
  refine pt ?_
  replace HB := Xhn HB m21; replace bx0 := Xbn bx0 m21; replace bx1 := Xbn bx1 m21; replace HB8 := Xhn HB8 m21; replace bx2 := Xbn bx2 m21; replace bx3 := Xbn bx3 m21
  replace LM := hide (LM.out.mv m21 (fun _ _ h => h))
  replace HB24 := Xhn HB24 m21
  have LA2 := hide LO1.la
  clear LO1 hbV21; clear m21
  have szV := HB.out.size
  refine sw_call (by rfl) (by first | rfl | (go_simp; done)) (himpl V21 _ _ _ _ LA2.out hsm) ?_
  rintro e V22 ⟨qa_, qb_, qc_, qd_, rfl, LQ, hbV22⟩
  have m22 : Mv (nob) V21 V22 := Mv.of_below hbV22
  refine ⟨_, rfl, ?_⟩
  refine pt ?_
  replace HB := Xhn HB m22; replace bx0 := Xbn bx0 m22; replace bx1 := Xbn bx1 m22; replace HB8 := Xhn HB8 m22; replace bx2 := Xbn bx2 m22; replace bx3 := Xbn bx3 m22
  replace LM := hide (LM.out.mv m22 (fun _ _ h => h))
  replace HB24 := Xhn HB24 m22
  replace LA2 := hide (LA2.out.below (m22).below)
  obtain ⟨ua0, uc0, rfl, _⟩ := LQ.wa.form
  obtain ⟨ua1, uc1, rfl, _⟩ := LQ.go.form
  obtain ⟨ua2, uc2, rfl, _⟩ := LQ.dn.form
  obtain ⟨ua3, uc3, rfl, _⟩ := LQ.up.form
  have LH := hide (LQ.lower (Nat.zero_le _))
  clear LQ hbV22 szV; clear LA2; clear m22
  refine sv (.tuple #[.agg #[.int .i64 L.base, .slice ua0 L.nw uc0, .int .i64 L.want, .slice ua1 L.ng uc1, .slice ua2 L.nd uc2, .slice ua3 L.nu uc3], .bool bb]) ?_
  refine sv (.agg #[.int .i64 L.base, .slice ua0 L.nw uc0, .int .i64 L.want, .slice ua1 L.ng uc1, .slice ua2 L.nd uc2, .slice ua3 L.nu uc3]) ?_
  refine sv (.bool bb) ?_
  refine sbp #[.int .i64 0, .slice none 0 0, .int .i64 0, .slice none 0 0, .slice none 0 0, .slice none 0 0] 30 fun V23 b4 hb4 m23 bx4 => ?_
  have o0_4 := Xlo bx0 hb4; have o1_4 := Xlo bx1 hb4; have o2_4 := Xlo bx2 hb4; have o3_4 := Xlo bx3 hb4; have a24_b4 := Xhs HB24 hb4
  have LHb : ∀ g, Lrb (.slice ua0 L.nw uc0) (.slice ua1 L.ng uc1) (.slice ua2 L.nd uc2) (.slice ua3 L.nu uc3) g → g ≠ b4 := fun g h => by have := (LH.out.lt g h).2; omega
  replace HB := Xhn HB m23; replace bx1 := Xbn bx1 m23; replace HB8 := Xhn HB8 m23; replace bx3 := Xbn bx3 m23
  replace LM := hide (LM.out.mv m23 (fun _ _ h => h))
  replace HB24 := Xhn HB24 m23
  replace LH := hide (LH.out.mv m23 (fun _ _ h => h))
  clear hb4 m23
  refine ss6 (.int .i64 L.base) (.slice ua0 L.nw uc0) (.int .i64 L.want) (.slice ua1 L.ng uc1) (.slice ua2 L.nd uc2) (.slice ua3 L.nu uc3) bx4 fun V24 m24 bx4 => ?_
  replace HB := Xhb HB m24; replace bx1 := Xbb bx1 m24; replace HB8 := Xhb HB8 m24; replace bx3 := Xbb bx3 m24
  replace LM := hide (LM.out.mv m24 (fun g hg h => by have h : g = b4 := h; have := LGb g hg; have := LMlt.out g hg; omega))
  replace HB24 := Xhb HB24 m24
  replace LH := hide (LH.out.mv m24 (fun g hg h => LHb g hg h))
  clear m24
  refine sv (.bool bb) ?_
  repeat first | with_reducible refine sk fun K hK => ?_ | with_reducible refine then_normal ?_ | ((with_reducible refine hK _ _ ?_); clear hK K) | with_reducible refine wpList_nil ?_ | with_reducible refine rl ?_ | ((with_reducible refine is_cond ?_); first | refine wp_cond_true (by rfl) ?_ | refine wp_cond_false (by rfl) ?_) | with_reducible refine wp_block ?_ | with_reducible refine wp_skip ?_ | with_reducible refine wp_ret ?_ | with_reducible refine wp_exit ?_ | (clear hK K; (with_reducible refine hK _ _ ?_); clear hK K) | (clear hK K; clear hK K; (with_reducible refine hK _ _ ?_); clear hK K) | with_reducible refine then_exit ?_ | with_reducible refine then_ret ?_ | with_reducible refine inb_ret ?_ | with_reducible refine inb_norm ?_
  refine sl6 bx4 ?_
  refine sl6 bx1 ?_
  refine sw_call (by rfl) (by first | rfl | (go_simp; done)) (eqLink_same _ _ _ _ _ _ _ _ L V24 LH.out.lv (LW.out.mv HB8.out (fun _ _ h => h)).lv hsz.out) ?_
  rintro e V25 ⟨rfl, hbV25⟩
  have m25 : Mv (nob) V24 V25 := Mv.of_below hbV25
  refine ⟨_, rfl, ?_⟩
  refine pt ?_
  replace HB := Xhn HB m25; replace HB8 := Xhn HB8 m25; replace bx3 := Xbn bx3 m25
  replace LM := hide (LM.out.mv m25 (fun _ _ h => h))
  replace HB24 := Xhn HB24 m25
  replace LH := hide (LH.out.mv m25 (fun _ _ h => h))
  clear hbV25; clear m25
  refine sg (.bool false) ?_
  refine sv (.bool false) ?_
  refine sv (.bool bb) ?_
  refine sv (.bool bb) ?_
  refine sg (.bool false) (h := by have h0 := hbb; go_simp) ?_
  refine sg (.bool false) ?_
  repeat first | with_reducible refine sk fun K hK => ?_ | with_reducible refine then_normal ?_ | ((with_reducible refine hK _ _ ?_); clear hK K) | with_reducible refine wpList_nil ?_ | with_reducible refine rl ?_ | ((with_reducible refine is_cond ?_); first | refine wp_cond_true (by rfl) ?_ | refine wp_cond_false (by rfl) ?_) | with_reducible refine wp_block ?_ | with_reducible refine wp_skip ?_ | with_reducible refine wp_ret ?_ | with_reducible refine wp_exit ?_ | (clear hK K; (with_reducible refine hK _ _ ?_); clear hK K) | (clear hK K; clear hK K; (with_reducible refine hK _ _ ?_); clear hK K) | with_reducible refine then_exit ?_ | with_reducible refine then_ret ?_ | with_reducible refine inb_ret ?_ | with_reducible refine inb_norm ?_
  refine sv (.int .i64 1) ?_
  repeat first | with_reducible refine sk fun K hK => ?_ | with_reducible refine then_normal ?_ | ((with_reducible refine hK _ _ ?_); clear hK K) | with_reducible refine wpList_nil ?_ | with_reducible refine rl ?_ | ((with_reducible refine is_cond ?_); first | refine wp_cond_true (by rfl) ?_ | refine wp_cond_false (by rfl) ?_) | with_reducible refine wp_block ?_ | with_reducible refine wp_skip ?_ | with_reducible refine wp_ret ?_ | with_reducible refine wp_exit ?_ | (clear hK K; (with_reducible refine hK _ _ ?_); clear hK K) | (clear hK K; clear hK K; (with_reducible refine hK _ _ ?_); clear hK K) | with_reducible refine then_exit ?_ | with_reducible refine then_ret ?_ | with_reducible refine inb_ret ?_ | with_reducible refine inb_norm ?_
  refine sl6 bx3 ?_
  refine sv (.int .i64 1) ?_
  refine sw_call (by rfl) (by first | rfl | (go_simp; done)) (heldLink_lr _ _ _ _ L 1 V25 LM.out.lv hsz.out.four (by decide) (by decide)) ?_
  rintro e V26 ⟨rfl, hbV26⟩
  have m26 : Mv (nob) V25 V26 := Mv.of_below hbV26
  refine ⟨_, rfl, ?_⟩
  refine pt ?_
  replace HB := Xhn HB m26; replace HB8 := Xhn HB8 m26
  replace LM := hide (LM.out.mv m26 (fun _ _ h => h))
  replace HB24 := Xhn HB24 m26
  replace LH := hide (LH.out.mv m26 (fun _ _ h => h))
  clear hbV26; clear m26
  refine sv (.int .i64 (mkE L 1)) ?_
  repeat first | with_reducible refine sk fun K hK => ?_ | with_reducible refine then_normal ?_ | ((with_reducible refine hK _ _ ?_); clear hK K) | with_reducible refine wpList_nil ?_ | with_reducible refine rl ?_ | ((with_reducible refine is_cond ?_); first | refine wp_cond_true (by rfl) ?_ | refine wp_cond_false (by rfl) ?_) | with_reducible refine wp_block ?_ | with_reducible refine wp_skip ?_ | with_reducible refine wp_ret ?_ | with_reducible refine wp_exit ?_ | (clear hK K; (with_reducible refine hK _ _ ?_); clear hK K) | (clear hK K; clear hK K; (with_reducible refine hK _ _ ?_); clear hK K) | with_reducible refine then_exit ?_ | with_reducible refine then_ret ?_ | with_reducible refine inb_ret ?_ | with_reducible refine inb_norm ?_
  refine sv (.int .i64 (mkE L 1)) ?_
  refine sg (.bool false) (h := by have h0 := hm1; go_simp) ?_
  repeat first | with_reducible refine sk fun K hK => ?_ | with_reducible refine then_normal ?_ | ((with_reducible refine hK _ _ ?_); clear hK K) | with_reducible refine wpList_nil ?_ | with_reducible refine rl ?_ | ((with_reducible refine is_cond ?_); first | refine wp_cond_true (by rfl) ?_ | refine wp_cond_false (by rfl) ?_) | with_reducible refine wp_block ?_ | with_reducible refine wp_skip ?_ | with_reducible refine wp_ret ?_ | with_reducible refine wp_exit ?_ | (clear hK K; (with_reducible refine hK _ _ ?_); clear hK K) | (clear hK K; clear hK K; (with_reducible refine hK _ _ ?_); clear hK K) | with_reducible refine then_exit ?_ | with_reducible refine then_ret ?_ | with_reducible refine inb_ret ?_ | with_reducible refine inb_norm ?_
  refine sv (.int .i64 (mkE L 1)) ?_
  refine sv (.int .i64 (mkE L 1)) ?_
  refine sg (.bool false) ?_
  repeat first | with_reducible refine sk fun K hK => ?_ | with_reducible refine then_normal ?_ | ((with_reducible refine hK _ _ ?_); clear hK K) | with_reducible refine wpList_nil ?_ | with_reducible refine rl ?_ | ((with_reducible refine is_cond ?_); first | refine wp_cond_true (by rfl) ?_ | refine wp_cond_false (by rfl) ?_) | with_reducible refine wp_block ?_ | with_reducible refine wp_skip ?_ | with_reducible refine wp_ret ?_ | with_reducible refine wp_exit ?_ | (clear hK K; (with_reducible refine hK _ _ ?_); clear hK K) | (clear hK K; clear hK K; (with_reducible refine hK _ _ ?_); clear hK K) | with_reducible refine then_exit ?_ | with_reducible refine then_ret ?_ | with_reducible refine inb_ret ?_ | with_reducible refine inb_norm ?_
  refine sv (.bool true) ?_
  repeat first | with_reducible refine sk fun K hK => ?_ | with_reducible refine then_normal ?_ | ((with_reducible refine hK _ _ ?_); clear hK K) | with_reducible refine wpList_nil ?_ | with_reducible refine rl ?_ | ((with_reducible refine is_cond ?_); first | refine wp_cond_true (by rfl) ?_ | refine wp_cond_false (by rfl) ?_) | with_reducible refine wp_block ?_ | with_reducible refine wp_skip ?_ | with_reducible refine wp_ret ?_ | with_reducible refine wp_exit ?_ | (clear hK K; (with_reducible refine hK _ _ ?_); clear hK K) | (clear hK K; clear hK K; (with_reducible refine hK _ _ ?_); clear hK K) | with_reducible refine then_exit ?_ | with_reducible refine then_ret ?_ | with_reducible refine inb_ret ?_ | with_reducible refine inb_norm ?_
  try simp only [Exit.then, Exit.inBlock, ↓reduceIte, Nat.reduceEqDiff]
  exact bodyPost_ret (v := .bool true) (by simp [results, Try.results6, go_sem]) rfl ⟨rfl, HB.out.below⟩

set_option maxRecDepth 100000 in
theorem lifted (os : Os) (started : os.Started) (H : Type) (enc : TypeId × Value → H) :
    ReturnsInHanded {} Try.checked os 6 .any (Rows.fnExactLinkCalmedSpec.pre6 enc Try.prog Try.f6 Rows.fnExactLinkCalmedRow.domain false) (Rows.fnExactLinkCalmedSpec.post enc Try.prog Try.f6 false true false false) := by
  refine returnsInHanded_of_change (C := Try.checked) own started (by kernel_rfl) Try.func6
    (ChangeSpec.witness6 (enc := enc) (C := Try.checked) false ⟨#[], #[.agg #[.int .i64 0, .slice none 0 0, .int .i64 0, .slice none 0 0, .slice none 0 0, .slice none 0 0]], []⟩ 8 (by kernel_rfl) (by kernel_rfl) (by kernel_rfl) (by kernel_rfl)) ?_
  intro W base args ds gs before hval0 hW hcnd _
  have hval : ∀ (j : Nat) t v, Try.f6.params[j]? = some t → args[j]? = some v → Value.okWide Try.prog W .any base t v := hval0
  have hW' := hW
  obtain ⟨p, q, hA0, hV, rfl, hfz, hnd⟩ := hW
  have hA : DataW.TrodAll enc Try.prog W 0 (fun _ => true) true Try.f6.params.toList args.toList ds p := hA0
  rw [Try.params6] at hA hval
  obtain ⟨v0, vs0, d0, ds0, p0, q0, hargs, rfl, rfl, h0, r0⟩ := trodAll_cons hA
  obtain ⟨rfl, rfl, rfl⟩ := trodAll_nil r0
  obtain rfl : args = #[v0] := by cases args; simp_all
  obtain ⟨rfl, rfl⟩ := trodVars_none hV
  have k0 := h0
  have lt0 : ∀ x ∈ p0, x.block < W.heap.size := by obtain ⟨m, hm⟩ := k0; exact DataW.trod_lt m _ _ _ hm
  obtain ⟨wv0, gv0, dv0, uv0, lk0, rfl, hc0, hl0⟩ := open_link (hval 0 25 v0 rfl rfl) h0
  clear hA0 hval0
  refine (walk wv0 gv0 dv0 uv0 lk0 W hc0 hl0).mono fun e W' ⟨he, bel⟩ => ?_
  subst he
  exact ⟨_, rfl, _, _, _, [], _, [], hW', trodAll_mk1 (shut_bool Try.underlying4 _), (trodAll_cons_mk (Below.trod laidOut (by kernel_rfl) (of_decide_eq_true (by kernel_rfl)) k0 bel lt0) trodAll_mk0), rfl, bel.frame _, fun h => by cases h⟩

theorem over : Rows.fnExactLinkCalmedRow.holds Try.pinned (OpenSpec.ofChange Rows.fnExactLinkCalmedSpec) :=
  OpenClaim.holds_of_wide 6 Try.f6 rfl rfl rfl rfl rfl rfl rfl ⟨rfl, rfl, rfl, rfl, rfl⟩ rfl rfl rfl rfl rfl (by kernel_rfl) Try.func6 (by kernel_rfl)
    (of_decide_eq_true (by kernel_rfl)) (by unfold Func.isWrapper; first | (rw [if_pos (by decide +kernel)]; kernel_rfl) | (rw [if_neg (by decide +kernel)]; exact ⟨rfl, rfl⟩))
    (fun os started H enc _ => lifted os started H enc)

theorem proved : Rows.FnExactLinkCalmedSaid := over
end Go.Proofs.Ytnkocikbapbbmaa.fnExactLinkCalmed

namespace Go.Proofs.Ytnkocikbapbbmaa
theorem fnExactLinkCalmed_holds : Rows.FnExactLinkCalmedSaid := fnExactLinkCalmed.proved
end Go.Proofs.Ytnkocikbapbbmaa
