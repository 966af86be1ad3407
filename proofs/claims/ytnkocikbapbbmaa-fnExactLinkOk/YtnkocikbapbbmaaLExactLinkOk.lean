/- Proved: for every link laws.FnExactLinkOk returns true and leaves its argument as it read. No other condition. -/
import Derived.Test.YtnkocikbapbbmaaRows
import Derived.Test.YtnkocikbapbbmaaLnkG
import Derived.WalkKit
import Derived.ProofKit
import Derived.OpenShut
import Derived.ShutString
import Derived.ChangeOld
import Derived.Below
import Derived.OpenVars
namespace Go.Proofs.Ytnkocikbapbbmaa.fnExactLinkOk
open Go.ChangeShapes Go.WideShapes Go.ChangeAt Go.WideMaps Go.WideElems Go.RowKit
set_option linter.unusedVariables false
set_option linter.unusedSimpArgs false

theorem own : ownKnob Try.prog.godebug = none := by kernel_rfl
theorem laidOut : laidOutB Try.prog = true := by kernel_rfl

set_option maxHeartbeats 8000000 in
set_option maxRecDepth 20000 in
theorem walk (wv gv dv uv : Value) (p : Lk) (w : World) (hv : Lv w wv gv dv uv p) (hs : Lsm 9223372036854775807 p) :
    Calls Try.prog 3 #[.agg (l6 p.base wv p.want gv dv uv)] w fun e w' => e = .returned (.bool true) ∧ Below w.heap.size w w' := by
  have hB0 : Below w.heap.size w (w.alloc (.cells (l6 p.base wv p.want gv dv uv) 25)) := (Below.refl _ _).alloc (Nat.le_refl _) _
  have qX := heap_alloc_new w (.cells (l6 p.base wv p.want gv dv uv) 25)
  have HV := hide hv
  obtain ⟨⟨wa, wc, rfl, _⟩, ⟨ga, gc, rfl, _⟩, ⟨da, dc, rfl, _⟩, ⟨ua, uc, rfl, _⟩⟩ := hv
  obtain ⟨W0, hE0⟩ : ∃ W0, w.alloc (.cells (l6 p.base (.slice wa p.nw wc) p.want (.slice ga p.ng gc) (.slice da p.nd dc) (.slice ua p.nu uc)) 25) = W0 := ⟨_, rfl⟩
  rw [hE0] at hB0 qX
  obtain ⟨_, fx0, fx1, fx2, fx3, fx4, fx5⟩ := box6 qX
  go_enter Try.func3, Try.ntmps3
  go_wp2_with fail
  refine (szLink_any _ _ _ _ _ _ p _ (HV.out.below hB0) hs).mono ?_
  rintro e w1 ⟨r, rfl, hp, hb1'⟩
  have hb1 := hB0.trans (hb1'.mono hB0.size)
  have qX1 := heap_bl qX hb1'
  clear hb1' hB0 qX fx0 fx1 fx2 fx3 fx4 fx5 hE0
  by_cases hx : r < 0
  · clear hp
    go_wp2
    go_ret
    exact ⟨rfl, hb1⟩
  have hsm := hp (by omega)
  clear hp hs
  have HTO := hide (fun W (h : Below w.heap.size w W) => toLink_any _ _ _ _ p W (HV.out.below h) hsm)
  obtain ⟨_, fx0, fx1, fx2, fx3, fx4, fx5⟩ := box6 qX1
  go_wp2_with fail
  refine (HTO.out _ hb1).mono ?_
  rintro e w2 ⟨aw, ag, ad, au, rfl, lo2, hb2⟩
  go_wp2_with fail
  refine (specLinkOk_any p _ _ _ _ _ _ _ _ _ _ _ lo2.lv hsm).mono ?_
  rintro e w3 ⟨rfl, hb3⟩
  have hb23 := hb2.trans (hb3.mono hb2.size)
  have hB3 := hb1.trans (hb23.mono hb1.size)
  have qX3 := heap_bl qX1 hb23
  clear hb1 hb2 hb3 hb23 qX1 fx0 fx1 fx2 fx3 fx4 fx5 lo2
  obtain ⟨_, fx0, fx1, fx2, fx3, fx4, fx5⟩ := box6 qX3
  go_wp2_with fail
  refine (HTO.out _ hB3).mono ?_
  rintro e w4 ⟨gw, gg, gd, gu, rfl, lo4, hb4⟩
  have hA5 : Below w4.heap.size w4 (w4.alloc (.cells (l6 p.base (sln gw p.nw) p.want (sln gg p.ng) (sln gd p.nd) (sln gu p.nu)) 30)) := (Below.refl _ _).alloc (Nat.le_refl _) _
  have q5 := heap_alloc_new w4 (.cells (l6 p.base (sln gw p.nw) p.want (sln gg p.ng) (sln gd p.nd) (sln gu p.nu)) 30)
  have lo5 := lo4.below hA5
  have hb45 := hb4.trans (hA5.mono hb4.size)
  have hB5 := hB3.trans (hb45.mono hB3.size)
  have qX5 := heap_bl qX3 hb45
  obtain ⟨W5, hE5⟩ : ∃ W5, w4.alloc (.cells (l6 p.base (sln gw p.nw) p.want (sln gg p.ng) (sln gd p.nd) (sln gu p.nu)) 30) = W5 := ⟨_, rfl⟩
  rw [hE5] at q5 lo5 hB5 qX5
  have LO5 := hide lo5
  clear hb4 hA5 hb45 hB3 qX3 fx0 fx1 fx2 fx3 fx4 fx5 lo4 lo5
  obtain ⟨_, fx0, fx1, fx2, fx3, fx4, fx5⟩ := box6 qX5
  obtain ⟨_, fy0, fy1, fy2, fy3, fy4, fy5⟩ := box6 q5
  go_wp2_with fail
  refine (implLinkOk_any p _ _ _ _ _ _ _ _ _ _ LO5.out.lv hsm (Nat.le_refl _)).mono ?_
  rintro e w6 ⟨rfl, hb6⟩
  have LO6 := hide (LO5.out.below hb6)
  have hB6 := hB5.trans (hb6.mono hB5.size)
  have qX6 := heap_bl qX5 hb6
  have q6 := heap_bl q5 hb6
  clear hb6 hB5 qX5 q5 LO5 fx0 fx1 fx2 fx3 fx4 fx5 fy0 fy1 fy2 fy3 fy4 fy5 hE5
  obtain ⟨_, fx0, fx1, fx2, fx3, fx4, fx5⟩ := box6 qX6
  obtain ⟨_, fy0, fy1, fy2, fy3, fy4, fy5⟩ := box6 q6
  clear qX6 q6
  generalize lkB p = K0
  cases K0
  · go_wp2
    refine wp_region_held_drew (S := fun w' => Below (w6).heap.size (w6) w') (by kernel_rfl) ((Below.refl _ _).drew) (fun hHeld => ?_)
    refine wpAnyH_take (i := 0) (v := .agg (l6 p.base (sln gw p.nw) p.want (sln gg p.ng) (sln gd p.nd) (sln gu p.nu))) rfl (by kernel_rfl) (by kernel_rfl) (by kernel_rfl) (fun _ _ _ h => h) (Or.inl ⟨by rfl, fun w' hSw => ?_⟩) (by assumption) ?_
    · (try dsimp only at hSw); have z0 := keepc hSw fx0; have y0 := keepc hSw fy0; have z1 := keepc hSw fx1; have y1 := keepc hSw fy1; have z2 := keepc hSw fx2; have y2 := keepc hSw fy2; have z3 := keepc hSw fx3; have y3 := keepc hSw fy3; have z4 := keepc hSw fx4; have y4 := keepc hSw fy4; have z5 := keepc hSw fx5; have y5 := keepc hSw fy5; go_simp
    try simp only [Act.put, List.getElem_toArray, List.getElem_cons_zero, List.getElem_cons_succ, List.setIfInBounds_toArray, List.set_cons_zero, List.set_cons_succ]
    refine wpAnyH_take (i := 1) (v := .agg (l6 p.base (.slice wa p.nw wc) p.want (.slice ga p.ng gc) (.slice da p.nd dc) (.slice ua p.nu uc))) rfl (by kernel_rfl) (by kernel_rfl) (by kernel_rfl) (fun _ _ _ h => h) (Or.inl ⟨by rfl, fun w' hSw => ?_⟩) (by assumption) ?_
    · (try dsimp only at hSw); have z0 := keepc hSw fx0; have y0 := keepc hSw fy0; have z1 := keepc hSw fx1; have y1 := keepc hSw fy1; have z2 := keepc hSw fx2; have y2 := keepc hSw fy2; have z3 := keepc hSw fx3; have y3 := keepc hSw fy3; have z4 := keepc hSw fx4; have y4 := keepc hSw fy4; have z5 := keepc hSw fx5; have y5 := keepc hSw fy5; go_simp
    try simp only [Act.put, List.getElem_toArray, List.getElem_cons_zero, List.getElem_cons_succ, List.setIfInBounds_toArray, List.set_cons_zero, List.set_cons_succ]
    refine wpAnyH_ready (rs := [2]) (by kernel_rfl) (by simp) ?_
    refine AllReadyH.cons rfl (fun K hK => ?_) AllReadyH.nil
    go_simp
    refine (HTO.out _ (hB6.trans (hHeld.mono hB6.size))).mono ?_
    rintro e wc2 ⟨hw7, hg7, hd7, hu7, rfl, lo7, hbc⟩
    refine hK.out _ _ (hHeld.trans (hbc.mono hHeld.size)) (fun hHeld => ?_)
    clear hK K hbc
    try simp only [Act.put, List.getElem_toArray, List.getElem_cons_zero, List.getElem_cons_succ, List.setIfInBounds_toArray, List.set_cons_zero, List.set_cons_succ]
    refine wpAnyH_ready (rs := [3]) (by kernel_rfl) (by simp) ?_
    refine AllReadyH.cons rfl (fun K hK => ?_) AllReadyH.nil
    go_simp
    refine (eqLink_same _ _ _ _ _ _ _ _ p _ (LO6.out.lv.below hHeld) lo7.lv hsm).mono ?_
    rintro e wc3 ⟨rfl, hbc⟩
    refine hK.out _ _ (hHeld.trans (hbc.mono hHeld.size)) (fun hHeld => ?_)
    clear hK K hbc
    try simp only [Act.put, List.getElem_toArray, List.getElem_cons_zero, List.getElem_cons_succ, List.setIfInBounds_toArray, List.set_cons_zero, List.set_cons_succ]
    refine wpAnyH_take (i := 4) (v := .bool false) rfl (by kernel_rfl) (by kernel_rfl) (by kernel_rfl) (fun _ _ _ h => h) (Or.inl ⟨by rfl, fun w' hSw => ?_⟩) (by assumption) ?_
    · (try dsimp only at hSw); skip; go_simp
    try simp only [Act.put, List.getElem_toArray, List.getElem_cons_zero, List.getElem_cons_succ, List.setIfInBounds_toArray, List.set_cons_zero, List.set_cons_succ]
    refine wpAnyH_done (by kernel_rfl) ?_ _
    have HB := hide (hB6.trans (hHeld.mono hB6.size))
    clear hHeld hB6 fx0 fx1 fx2 fx3 fx4 fx5 fy0 fy1 fy2 fy3 fy4 fy5
    go_wp2
    go_ret
    exact ⟨rfl, HB.out⟩
  · go_wp2
    refine wp_region_held_drew (S := fun w' => Below (w6).heap.size (w6) w') (by kernel_rfl) ((Below.refl _ _).drew) (fun hHeld => ?_)
    refine wpAnyH_take (i := 0) (v := .agg (l6 p.base (sln gw p.nw) p.want (sln gg p.ng) (sln gd p.nd) (sln gu p.nu))) rfl (by kernel_rfl) (by kernel_rfl) (by kernel_rfl) (fun _ _ _ h => h) (Or.inl ⟨by rfl, fun w' hSw => ?_⟩) (by assumption) ?_
    · (try dsimp only at hSw); have z0 := keepc hSw fx0; have y0 := keepc hSw fy0; have z1 := keepc hSw fx1; have y1 := keepc hSw fy1; have z2 := keepc hSw fx2; have y2 := keepc hSw fy2; have z3 := keepc hSw fx3; have y3 := keepc hSw fy3; have z4 := keepc hSw fx4; have y4 := keepc hSw fy4; have z5 := keepc hSw fx5; have y5 := keepc hSw fy5; go_simp
    try simp only [Act.put, List.getElem_toArray, List.getElem_cons_zero, List.getElem_cons_succ, List.setIfInBounds_toArray, List.set_cons_zero, List.set_cons_succ]
    refine wpAnyH_take (i := 1) (v := .agg (l6 p.base (.slice wa p.nw wc) p.want (.slice ga p.ng gc) (.slice da p.nd dc) (.slice ua p.nu uc))) rfl (by kernel_rfl) (by kernel_rfl) (by kernel_rfl) (fun _ _ _ h => h) (Or.inl ⟨by rfl, fun w' hSw => ?_⟩) (by assumption) ?_
    · (try dsimp only at hSw); have z0 := keepc hSw fx0; have y0 := keepc hSw fy0; have z1 := keepc hSw fx1; have y1 := keepc hSw fy1; have z2 := keepc hSw fx2; have y2 := keepc hSw fy2; have z3 := keepc hSw fx3; have y3 := keepc hSw fy3; have z4 := keepc hSw fx4; have y4 := keepc hSw fy4; have z5 := keepc hSw fx5; have y5 := keepc hSw fy5; go_simp
    try simp only [Act.put, List.getElem_toArray, List.getElem_cons_zero, List.getElem_cons_succ, List.setIfInBounds_toArray, List.set_cons_zero, List.set_cons_succ]
    refine wpAnyH_ready (rs := [2]) (by kernel_rfl) (by simp) ?_
    refine AllReadyH.cons rfl (fun K hK => ?_) AllReadyH.nil
    go_simp
    refine (HTO.out _ (hB6.trans (hHeld.mono hB6.size))).mono ?_
    rintro e wc2 ⟨hw7, hg7, hd7, hu7, rfl, lo7, hbc⟩
    refine hK.out _ _ (hHeld.trans (hbc.mono hHeld.size)) (fun hHeld => ?_)
    clear hK K hbc
    try simp only [Act.put, List.getElem_toArray, List.getElem_cons_zero, List.getElem_cons_succ, List.setIfInBounds_toArray, List.set_cons_zero, List.set_cons_succ]
    refine wpAnyH_ready (rs := [3]) (by kernel_rfl) (by simp) ?_
    refine AllReadyH.cons rfl (fun K hK => ?_) AllReadyH.nil
    go_simp
    refine (eqLink_same _ _ _ _ _ _ _ _ p _ (LO6.out.lv.below hHeld) lo7.lv hsm).mono ?_
    rintro e wc3 ⟨rfl, hbc⟩
    refine hK.out _ _ (hHeld.trans (hbc.mono hHeld.size)) (fun hHeld => ?_)
    clear hK K hbc
    try simp only [Act.put, List.getElem_toArray, List.getElem_cons_zero, List.getElem_cons_succ, List.setIfInBounds_toArray, List.set_cons_zero, List.set_cons_succ]
    refine wpAnyH_take (i := 4) (v := .bool false) rfl (by kernel_rfl) (by kernel_rfl) (by kernel_rfl) (fun _ _ _ h => h) (Or.inl ⟨by rfl, fun w' hSw => ?_⟩) (by assumption) ?_
    · (try dsimp only at hSw); skip; go_simp
    try simp only [Act.put, List.getElem_toArray, List.getElem_cons_zero, List.getElem_cons_succ, List.setIfInBounds_toArray, List.set_cons_zero, List.set_cons_succ]
    refine wpAnyH_done (by kernel_rfl) ?_ _
    have HB := hide (hB6.trans (hHeld.mono hB6.size))
    clear hHeld hB6 fx0 fx1 fx2 fx3 fx4 fx5 fy0 fy1 fy2 fy3 fy4 fy5
    go_wp2
    go_ret
    exact ⟨rfl, HB.out⟩

set_option maxRecDepth 100000 in
theorem lifted (os : Os) (started : os.Started) (H : Type) (enc : TypeId × Value → H) :
    ReturnsInHanded {} Try.checked os 3 .any (Rows.fnExactLinkOkSpec.pre6 enc Try.prog Try.f3 Rows.fnExactLinkOkRow.domain false) (Rows.fnExactLinkOkSpec.post enc Try.prog Try.f3 false true false false) := by
  refine returnsInHanded_of_change (C := Try.checked) own started (by kernel_rfl) Try.func3
    (ChangeSpec.witness6 (enc := enc) (C := Try.checked) false ⟨#[], #[.agg #[.int .i64 0, .slice none 0 0, .int .i64 0, .slice none 0 0, .slice none 0 0, .slice none 0 0]], []⟩ 8 (by kernel_rfl) (by kernel_rfl) (by kernel_rfl) (by kernel_rfl)) ?_
  intro W base args ds gs before hval0 hW hcnd _
  have hval : ∀ (j : Nat) t v, Try.f3.params[j]? = some t → args[j]? = some v → Value.okWide Try.prog W .any base t v := hval0
  have hW' := hW
  obtain ⟨p, q, hA0, hV, rfl, hfz, hnd⟩ := hW
  have hA : DataW.TrodAll enc Try.prog W 0 (fun _ => true) true Try.f3.params.toList args.toList ds p := hA0
  rw [Try.params3] at hA hval
  obtain ⟨v0, vs0, d0, ds0, p0, q0, hargs, rfl, rfl, h0, r0⟩ := trodAll_cons hA
  obtain ⟨rfl, rfl, rfl⟩ := trodAll_nil r0
  obtain rfl : args = #[v0] := by cases args; simp_all
  obtain ⟨rfl, rfl⟩ := trodVars_none hV
  have k0 := h0
  have lt0 : ∀ x ∈ p0, x.block < W.heap.size := by obtain ⟨m, hm⟩ := k0; exact DataW.trod_lt m _ _ _ hm
  obtain ⟨wv0, gv0, dv0, uv0, lk0, rfl, hc0, hl0⟩ := open_link (hval 0 25 v0 rfl rfl) h0
  clear hA0 hval0
  refine (walk wv0 gv0 dv0 uv0 lk0 W hc0 hl0).mono fun e W' ⟨he, bel⟩ => ?_
  subst he
  exact ⟨_, rfl, _, _, _, [], _, [], hW', trodAll_mk1 (shut_bool Try.underlying4 _), (trodAll_cons_mk (Below.trod laidOut (by kernel_rfl) (of_decide_eq_true (by kernel_rfl)) k0 bel lt0) trodAll_mk0), rfl, bel.frame _, fun h => by cases h⟩

theorem over : Rows.fnExactLinkOkRow.holds Try.pinned (OpenSpec.ofChange Rows.fnExactLinkOkSpec) :=
  OpenClaim.holds_of_wide 3 Try.f3 rfl rfl rfl rfl rfl rfl rfl ⟨rfl, rfl, rfl, rfl, rfl⟩ rfl rfl rfl rfl rfl (by kernel_rfl) Try.func3 (by kernel_rfl)
    (of_decide_eq_true (by kernel_rfl)) (by unfold Func.isWrapper; first | (rw [if_pos (by decide +kernel)]; kernel_rfl) | (rw [if_neg (by decide +kernel)]; exact ⟨rfl, rfl⟩))
    (fun os started H enc _ => lifted os started H enc)

theorem proved : Rows.FnExactLinkOkSaid := over
end Go.Proofs.Ytnkocikbapbbmaa.fnExactLinkOk

namespace Go.Proofs.Ytnkocikbapbbmaa
theorem fnExactLinkOk_holds : Rows.FnExactLinkOkSaid := fnExactLinkOk.proved
end Go.Proofs.Ytnkocikbapbbmaa
