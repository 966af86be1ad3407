/- Proved: for every code, laws.FnTsoDone returns true. No condition. -/
import Derived.Test.YtneofegnbflfiaaRows
import Derived.Test.YtneofegnbflfiaaDtX
import Derived.WalkKit
import Derived.ProofKit
import Derived.OpenShut
import Derived.ShutString
import Derived.ChangeOld
import Derived.Below
import Derived.OpenVars
namespace Go.Proofs.Ytneofegnbflfiaa.fnTsoDone
open Go.ChangeShapes Go.WideShapes Go.ChangeAt Go.WideMaps Go.WideElems Go.RowKit
set_option linter.unusedVariables false
set_option linter.unusedSimpArgs false

theorem own : ownKnob Try.prog.godebug = none := by kernel_rfl
theorem laidOut : laidOutB Try.prog = true := by kernel_rfl

def IsRow (k : IntKind) (w : World) (a : Option Addr) (len cap : Nat) (zs : List Int) : Prop :=
  (a = none ∧ len = 0 ∧ cap = 0 ∧ zs = []) ∨
  ∃ x, a = some x ∧ len ≤ cap ∧ cap ≤ maxLen ∧ zs.length = cap ∧ (∀ i, i < zs.length → w.cell? (x.add i) = some (.int k (zs.getD i 0))) ∧ ∀ n ∈ zs, (Lit.int k n).wf = true

theorem row_bt {w : World} {a : Option Addr} {len cap : Nat} {z : List Int} (h : IsRow .u8 w a len cap z) : Bt w a len := by
  intro h0
  rcases h with ⟨rfl, rfl, rfl, rfl⟩ | ⟨x, rfl, hl, hm, hz, hcell, hwf⟩
  · exact absurd h0 (by simp)
  · obtain ⟨b, off, spot⟩ := x
    have hc := hcell 0 (by omega)
    have hspot : spot = none := by simpa [Addr.add] using World.cell?_spot hc
    subst hspot
    refine ⟨b, off, rfl, fun j hj => ?_⟩
    have hcj := hcell j (by omega)
    rw [addr_add] at hcj
    have hj' : j < z.length := by omega
    have e : z.getD j 0 = z[j] := by simp [hj']
    have hw := bounds_u8 (hwf z[j] (List.getElem_mem hj'))
    exact ⟨z.getD j 0, by rw [e]; exact hw.1, by rw [e]; exact hw.2, hcj⟩

set_option maxHeartbeats 16000000 in
set_option maxRecDepth 20000 in
theorem walk (a0 : Option Addr) (len0 cap0 : Nat) (w : World) (hs : Bt w a0 len0) :
    Calls Try.prog 4 #[.slice a0 len0 cap0] w fun e w' => e = .returned (.bool true) ∧ Below w.heap.size w w' := by
  by_cases hbig : (1048576 : Int) < (len0 : Int)
  · go_enter Try.func4, Try.ntmps4
    go_wp2
    go_ret
    exact ⟨rfl, Below.refl _ _⟩
  have hb : len0 ≤ 1048576 := by omega
  go_enter Try.func4, Try.ntmps4
  go_wp2_with (first | (go_at_call 13; go_in) | fail)
  refine (drawTsoDo_any a0 len0 cap0 _ hs hb).mono ?_
  rintro e w1 ⟨m, b, r, d, C, vb, vr, tag, k, co, va, vl, rg, rfl, ta, hcp, hsm, hb1⟩
  obtain ⟨xm, ym, xb, yb, xr, yr, rfl, rfl, rfl⟩ := Ta.three (n := d.zs.length) ta rfl
  obtain ⟨X1, hA1, ya⟩ := Bq.new2 (d := d) k co va vl rg (Ta.tv ta)
  have CAP1 := Bcap.below (Bcap.of ta.bs hcp) (Ta.tv ta).buf hA1
  have HB1 := hide (hb1.trans (hA1.mono hb1.size))
  clear hs hb1 hA1 ta hcp hb hbig
  obtain ⟨_, x0, x1, x2⟩ := row3_facts X1.box
  obtain ⟨y0, y1, y2, y3, y4⟩ := row5_facts ya
  go_wp2_with fail
  refine (implTsoDo_any _ _ _ d C C k co va vl rg _ X1.tv).mono ?_
  intro e w2 hp2
  obtain ⟨m2, b2, r2, vb2, vr2, tag2, rfl, ta2, hb2⟩ := do_all hp2
  obtain ⟨xm2, ym2, xb2, yb2, xr2, yr2, rfl, rfl, rfl⟩ := Ta.three (n := (aD d C C k co va vl rg).zs.length) ta2 rfl
  obtain ⟨N2, hA2⟩ := Bq.new (d := aD d C C k co va vl rg) (C := aC d C C) (Ta.tv ta2)
  have hc2 := hb2.trans (hA2.mono hb2.size)
  have X2 := X1.below hc2
  have yb := heap_b ya hc2
  have HB2 := hide (HB1.out.trans (hc2.mono HB1.out.size))
  have CAP2 := Bcap.below CAP1 X1.tv.buf hc2
  clear hp2 ta2 hb2 hA2 hc2 X1 ya HB1 CAP1 x0 x1 x2 y0 y1 y2 y3 y4
  obtain ⟨_, x0, x1, x2⟩ := row3_facts X2.box
  obtain ⟨y0, y1, y2, y3, y4⟩ := row5_facts yb
  go_wp2_with fail
  refine (specTsoDo_any _ _ _ d C C k co va vl rg _ X2.tv CAP2).mono ?_
  intro e w3 hp3
  obtain ⟨m3, b3, r3, vb3, vr3, tag3, rfl, ta3, hb3⟩ := do_all hp3
  obtain ⟨xm3, ym3, xb3, yb3, xr3, yr3, rfl, rfl, rfl⟩ := Ta.three (n := (aD d C C k co va vl rg).zs.length) ta3 rfl
  obtain ⟨P3, hA3⟩ := Bq.new (d := aD d C C k co va vl rg) (C := aC d C C) (Ta.tv ta3)
  have hc3 := hb3.trans (hA3.mono hb3.size)
  have X3 := X2.below hc3
  have N3 := N2.below hc3
  have yc := heap_b yb hc3
  have HB3 := hide (HB2.out.trans (hc3.mono HB2.out.size))
  clear hp3 ta3 hb3 hA3 hc3 X2 N2 yb HB2 CAP2 x0 x1 x2 y0 y1 y2 y3 y4
  generalize w2.heap.size = B2 at N3 ⊢
  generalize w1.heap.size = B1 at X3 yc ⊢
  have TL := hide (aD_small d C C k co va vl rg).tl
  have HS := hide (done_says d C k co va vl rg)
  generalize hD : aD d C C k co va vl rg = D at *
  generalize hCC : aC d C C = CC at *
  generalize hK : aK d C C k co va vl rg = ka at *
  try simp only [hD, hCC, hK] at HS
  clear hD hCC hK
  obtain ⟨_, x0, x1, x2⟩ := row3_facts N3.box
  obtain ⟨_, z0, z1, z2⟩ := row3_facts P3.box
  go_wp2_with fail
  refine (sameTso_same _ _ _ _ _ _ D.zs CC D.L D.F CC D.Z _ N3.tv P3.tv TL.out).mono ?_
  rintro e w4 ⟨rfl, hbb⟩
  have X4 := X3.below hbb
  have N4 := N3.below hbb
  have P4 := P3.below hbb
  have yd := heap_b yc hbb
  have HB4 := hide (HB3.out.trans (hbb.mono HB3.out.size))
  clear hbb HB3 X3 N3 P3 yc x0 x1 x2 z0 z1 z2
  rcases HS.out with ⟨rfl, ht⟩ | ⟨ht, rfl, ⟨h0, h1, rfl⟩ | ⟨rfl, htn, hq⟩⟩
  · clear HS
    clear yd
    have hI := fun W h => implTsoOk_any (.slice xm d.zs.length ym) (.slice xb C yb) (.slice xr C yr) d.zs C d.L d.F C d.Z W h
    have hS := fun W h => specTsoOk_any (.slice xm d.zs.length ym) (.slice xb C yb) (.slice xr C yr) d.zs C d.L d.F C d.Z W h
    rw [show tokB d.zs C d.L d.F C d.Z = false from ht] at hI hS
    obtain ⟨_, fa0, fa1, fa2⟩ := row3_facts N4.box
    obtain ⟨_, fb0, fb1, fb2⟩ := row3_facts P4.box
    obtain ⟨_, fc0, fc1, fc2⟩ := row3_facts X4.box
    go_wp2
    refine wp_region_held_drew (S := fun w' => Below (w4).heap.size (w4) w') (by kernel_rfl) ((Below.refl _ _).drew) (fun hHeld => ?_)
    refine wpAnyH_take (i := 0) (v := .int .i64 1) rfl (by kernel_rfl) (by kernel_rfl) (by kernel_rfl) (fun _ _ _ h => h) (Or.inl ⟨by rfl, fun w' hSw => ?_⟩) (by assumption) ?_
    · (try dsimp only at hSw); go_simp
    try simp only [Act.put, List.getElem_toArray, List.getElem_cons_zero, List.getElem_cons_succ, List.setIfInBounds_toArray, List.set_cons_zero, List.set_cons_succ]
    refine wpAnyH_take (i := 1) (v := .int .i64 1) rfl (by kernel_rfl) (by kernel_rfl) (by kernel_rfl) (fun _ _ _ h => h) (Or.inl ⟨by rfl, fun w' hSw => ?_⟩) (by assumption) ?_
    · (try dsimp only at hSw); go_simp
    try simp only [Act.put, List.getElem_toArray, List.getElem_cons_zero, List.getElem_cons_succ, List.setIfInBounds_toArray, List.set_cons_zero, List.set_cons_succ]
    refine wpAnyH_take (i := 2) (v := .bool true) rfl (by kernel_rfl) (by kernel_rfl) (by kernel_rfl) (fun _ _ _ h => h) (Or.inl ⟨by rfl, fun w' hSw => ?_⟩) (by assumption) ?_
    · (try dsimp only at hSw); go_simp
    try simp only [Act.put, List.getElem_toArray, List.getElem_cons_zero, List.getElem_cons_succ, List.setIfInBounds_toArray, List.set_cons_zero, List.set_cons_succ]
    refine wpAnyH_take (i := 3) (v := .bool true) rfl (by kernel_rfl) (by kernel_rfl) (by kernel_rfl) (fun _ _ _ h => h) (Or.inl ⟨by rfl, fun w' hSw => ?_⟩) (by assumption) ?_
    · (try dsimp only at hSw); go_simp
    try simp only [Act.put, List.getElem_toArray, List.getElem_cons_zero, List.getElem_cons_succ, List.setIfInBounds_toArray, List.set_cons_zero, List.set_cons_succ]
    refine wpAnyH_take (i := 4) (v := .agg #[.slice xm2 D.zs.length ym2, .slice xb2 CC yb2, .slice xr2 CC yr2]) rfl (by kernel_rfl) (by kernel_rfl) (by kernel_rfl) (fun _ _ _ h => h) (Or.inl ⟨by rfl, fun w' hSw => ?_⟩) (by assumption) ?_
    · (try dsimp only at hSw); have z0 := keepc hSw fa0; have z1 := keepc hSw fa1; have z2 := keepc hSw fa2; have z3 := keepc hSw fb0; have z4 := keepc hSw fb1; have z5 := keepc hSw fb2; have z6 := keepc hSw fc0; have z7 := keepc hSw fc1; have z8 := keepc hSw fc2; go_simp
    try simp only [Act.put, List.getElem_toArray, List.getElem_cons_zero, List.getElem_cons_succ, List.setIfInBounds_toArray, List.set_cons_zero, List.set_cons_succ]
    refine wpAnyH_take (i := 5) (v := .agg #[.slice xm3 D.zs.length ym3, .slice xb3 CC yb3, .slice xr3 CC yr3]) rfl (by kernel_rfl) (by kernel_rfl) (by kernel_rfl) (fun _ _ _ h => h) (Or.inl ⟨by rfl, fun w' hSw => ?_⟩) (by assumption) ?_
    · (try dsimp only at hSw); have z0 := keepc hSw fa0; have z1 := keepc hSw fa1; have z2 := keepc hSw fa2; have z3 := keepc hSw fb0; have z4 := keepc hSw fb1; have z5 := keepc hSw fb2; have z6 := keepc hSw fc0; have z7 := keepc hSw fc1; have z8 := keepc hSw fc2; go_simp
    try simp only [Act.put, List.getElem_toArray, List.getElem_cons_zero, List.getElem_cons_succ, List.setIfInBounds_toArray, List.set_cons_zero, List.set_cons_succ]
    refine wpAnyH_ready (rs := [6]) (by kernel_rfl) (by simp) ?_
    refine AllReadyH.cons rfl (fun K hK => ?_) AllReadyH.nil
    go_simp
    refine (sameTso_same _ _ _ _ _ _ D.zs CC D.L D.F CC D.Z _ (N4.tv.below hHeld) (P4.tv.below hHeld) TL.out).mono ?_
    rintro e wc6 ⟨rfl, hbc⟩
    refine hK.out _ _ (hHeld.trans (hbc.mono hHeld.size)) (fun hHeld => ?_)
    clear hK K hbc
    try simp only [Act.put, List.getElem_toArray, List.getElem_cons_zero, List.getElem_cons_succ, List.setIfInBounds_toArray, List.set_cons_zero, List.set_cons_succ]
    refine wpAnyH_take (i := 7) (v := .bool true) rfl (by kernel_rfl) (by kernel_rfl) (by kernel_rfl) (fun _ _ _ h => h) (Or.inl ⟨by rfl, fun w' hSw => ?_⟩) (by assumption) ?_
    · (try dsimp only at hSw); go_simp
    try simp only [Act.put, List.getElem_toArray, List.getElem_cons_zero, List.getElem_cons_succ, List.setIfInBounds_toArray, List.set_cons_zero, List.set_cons_succ]
    refine wpAnyH_take (i := 8) (v := .bool true) rfl (by kernel_rfl) (by kernel_rfl) (by kernel_rfl) (fun _ _ _ h => h) (Or.inl ⟨by rfl, fun w' hSw => ?_⟩) (by assumption) ?_
    · (try dsimp only at hSw); go_simp
    try simp only [Act.put, List.getElem_toArray, List.getElem_cons_zero, List.getElem_cons_succ, List.setIfInBounds_toArray, List.set_cons_zero, List.set_cons_succ]
    refine wpAnyH_take (i := 9) (v := .agg #[.slice xm d.zs.length ym, .slice xb C yb, .slice xr C yr]) rfl (by kernel_rfl) (by kernel_rfl) (by kernel_rfl) (fun _ _ _ h => h) (Or.inl ⟨by rfl, fun w' hSw => ?_⟩) (by assumption) ?_
    · (try dsimp only at hSw); have z0 := keepc hSw fa0; have z1 := keepc hSw fa1; have z2 := keepc hSw fa2; have z3 := keepc hSw fb0; have z4 := keepc hSw fb1; have z5 := keepc hSw fb2; have z6 := keepc hSw fc0; have z7 := keepc hSw fc1; have z8 := keepc hSw fc2; go_simp
    try simp only [Act.put, List.getElem_toArray, List.getElem_cons_zero, List.getElem_cons_succ, List.setIfInBounds_toArray, List.set_cons_zero, List.set_cons_succ]
    refine wpAnyH_take (i := 11) (v := .agg #[.slice xm d.zs.length ym, .slice xb C yb, .slice xr C yr]) rfl (by kernel_rfl) (by kernel_rfl) (by kernel_rfl) (fun _ _ _ h => h) (Or.inl ⟨by rfl, fun w' hSw => ?_⟩) (by assumption) ?_
    · (try dsimp only at hSw); have z0 := keepc hSw fa0; have z1 := keepc hSw fa1; have z2 := keepc hSw fa2; have z3 := keepc hSw fb0; have z4 := keepc hSw fb1; have z5 := keepc hSw fb2; have z6 := keepc hSw fc0; have z7 := keepc hSw fc1; have z8 := keepc hSw fc2; go_simp
    try simp only [Act.put, List.getElem_toArray, List.getElem_cons_zero, List.getElem_cons_succ, List.setIfInBounds_toArray, List.set_cons_zero, List.set_cons_succ]
    refine wpAnyH_ready (rs := [10]) (by kernel_rfl) (by simp) ?_
    refine AllReadyH.cons rfl (fun K hK => ?_) AllReadyH.nil
    go_simp
    refine (hI _ (X4.tv.below hHeld)).mono ?_
    rintro e wc10 ⟨rfl, hbc⟩
    refine hK.out _ _ (hHeld.trans (hbc.mono hHeld.size)) (fun hHeld => ?_)
    clear hK K hbc
    try simp only [Act.put, List.getElem_toArray, List.getElem_cons_zero, List.getElem_cons_succ, List.setIfInBounds_toArray, List.set_cons_zero, List.set_cons_succ]
    refine wpAnyH_ready (rs := [12]) (by kernel_rfl) (by simp) ?_
    refine AllReadyH.cons rfl (fun K hK => ?_) AllReadyH.nil
    go_simp
    refine (hS _ (X4.tv.below hHeld)).mono ?_
    rintro e wc12 ⟨rfl, hbc⟩
    refine hK.out _ _ (hHeld.trans (hbc.mono hHeld.size)) (fun hHeld => ?_)
    clear hK K hbc
    try simp only [Act.put, List.getElem_toArray, List.getElem_cons_zero, List.getElem_cons_succ, List.setIfInBounds_toArray, List.set_cons_zero, List.set_cons_succ]
    refine wpAnyH_take (i := 13) (v := .bool true) rfl (by kernel_rfl) (by kernel_rfl) (by kernel_rfl) (fun _ _ _ h => h) (Or.inl ⟨by rfl, fun w' hSw => ?_⟩) (by assumption) ?_
    · (try dsimp only at hSw); go_simp
    try simp only [Act.put, List.getElem_toArray, List.getElem_cons_zero, List.getElem_cons_succ, List.setIfInBounds_toArray, List.set_cons_zero, List.set_cons_succ]
    refine wpAnyH_take (i := 14) (v := .bool true) rfl (by kernel_rfl) (by kernel_rfl) (by kernel_rfl) (fun _ _ _ h => h) (Or.inl ⟨by rfl, fun w' hSw => ?_⟩) (by assumption) ?_
    · (try dsimp only at hSw); go_simp
    try simp only [Act.put, List.getElem_toArray, List.getElem_cons_zero, List.getElem_cons_succ, List.setIfInBounds_toArray, List.set_cons_zero, List.set_cons_succ]
    refine wpAnyH_take (i := 15) (v := .bool true) rfl (by kernel_rfl) (by kernel_rfl) (by kernel_rfl) (fun _ _ _ h => h) (Or.inl ⟨by rfl, fun w' hSw => ?_⟩) (by assumption) ?_
    · (try dsimp only at hSw); go_simp
    try simp only [Act.put, List.getElem_toArray, List.getElem_cons_zero, List.getElem_cons_succ, List.setIfInBounds_toArray, List.set_cons_zero, List.set_cons_succ]
    refine wpAnyH_done (by kernel_rfl) ?_ _
    have HB5 := hide (HB4.out.trans (hHeld.mono HB4.out.size))
    clear hHeld HB4 fa0 fa1 fa2 fb0 fb1 fb2 fc0 fc1 fc2
    go_wp2
    go_ret
    exact ⟨rfl, HB5.out⟩
  · clear HS
    have hd1 : (ka == 1) = false := by simpa using h1
    have hd0 : (ka != 0) = true := by simpa using h0
    have hd0' : (ka == 0) = false := by simpa using h0
    obtain ⟨_, x0, x1, x2⟩ := row3_facts N4.box
    obtain ⟨_, z0, z1, z2⟩ := row3_facts X4.box
    go_wp2_with fail
    refine (sameTso_same _ _ _ _ _ _ D.zs CC D.L D.F CC D.Z _ N4.tv X4.tv TL.out).mono ?_
    rintro e w5 ⟨rfl, hbb⟩
    have HB5 := hide (HB4.out.trans (hbb.mono HB4.out.size))
    clear hbb HB4 x0 x1 x2 z0 z1 z2
    go_wp2
    go_ret
    exact ⟨rfl, HB5.out⟩
  · clear HS
    have hok := fun W h => implTsoOk_any (.slice xm2 D.zs.length ym2) (.slice xb2 CC yb2) (.slice xr2 CC yr2) D.zs CC D.L D.F CC D.Z W h
    rw [show tokB D.zs CC D.L D.F CC D.Z = true from htn] at hok
    obtain ⟨_, x0, x1, x2⟩ := row3_facts N4.box
    go_wp2_with fail
    refine (hok _ N4.tv).mono ?_
    rintro e w5 ⟨rfl, hbb⟩
    have X5 := X4.below hbb
    have N5 := N4.below hbb
    have ye := heap_b yd hbb
    have HB5 := hide (HB4.out.trans (hbb.mono HB4.out.size))
    clear hbb HB4 X4 N4 yd x0 x1 x2 

    obtain ⟨y0, y1, y2, y3, y4⟩ := row5_facts ye
    rcases hq with rfl | ⟨hk4, hzz⟩
    · clear P4
      go_wp2
      go_ret
      exact ⟨rfl, HB5.out⟩
    · have hd4 : (k == 4) = false := by simpa using hk4
      clear P4
      obtain ⟨_, x0, x1, x2⟩ := row3_facts N5.box
      obtain ⟨_, z0, z1, z2⟩ := row3_facts X5.box
      have hmem := N5.tv.mem
      rw [hzz] at hmem
      go_wp2_with fail
      refine (sameInts_same _ _ d.zs _ hmem X5.tv.mem (by have := hsm.zs; omega)).mono ?_
      rintro e w6 ⟨rfl, hbb⟩
      have HB6 := hide (HB5.out.trans (hbb.mono HB5.out.size))
      clear hbb HB5 x0 x1 x2 z0 z1 z2
      go_wp2
      go_ret
      exact ⟨rfl, HB6.out⟩

set_option maxRecDepth 100000 in
theorem lifted (os : Os) (started : os.Started) (H : Type) (enc : TypeId × Value → H) :
    ReturnsInHanded {} Try.checked os 4 .any (Rows.fnTsoDoneSpec.pre6 enc Try.prog Try.f4 Rows.fnTsoDoneRow.domain false) (Rows.fnTsoDoneSpec.post enc Try.prog Try.f4 false true false false) := by
  refine returnsInHanded_of_change (C := Try.checked) own started (by kernel_rfl) Try.func4
    (ChangeSpec.witness6 (enc := enc) (C := Try.checked) false ⟨#[], #[.slice none 0 0], []⟩ 8 (by kernel_rfl) (by kernel_rfl) (by kernel_rfl) (by kernel_rfl)) ?_
  intro W base args ds gs before hval0 hW hcnd _
  have hval : ∀ (j : Nat) t v, Try.f4.params[j]? = some t → args[j]? = some v → Value.okWide Try.prog W .any base t v := hval0
  have hW' := hW
  obtain ⟨p, q, hA0, hV, rfl, hfz, hnd⟩ := hW
  have hA : DataW.TrodAll enc Try.prog W 0 (fun _ => true) true Try.f4.params.toList args.toList ds p := hA0
  rw [Try.params4] at hA hval
  obtain ⟨v0, vs0, d0, ds0, p0, q0, hargs, rfl, rfl, h0, r0⟩ := trodAll_cons hA
  obtain ⟨rfl, rfl, rfl⟩ := trodAll_nil r0
  obtain rfl : args = #[v0] := by cases args; simp_all
  obtain ⟨rfl, rfl⟩ := trodVars_none hV
  obtain ⟨a0, len0, cap0, rfl⟩ := okWide_slice Try.underlying22 (hval 0 22 v0 rfl rfl)
  have k0 := h0
  have lt0 : ∀ x ∈ p0, x.block < W.heap.size := by obtain ⟨m, hm⟩ := k0; exact DataW.trod_lt m _ _ _ hm
  obtain ⟨z0, w0⟩ : ∃ zs, IsRow .u8 W a0 len0 cap0 zs := by
    obtain ⟨fuel, hf⟩ := h0
    rcases open_ints Try.underlying22 Try.underlying5 (by kernel_rfl) hf with ⟨hcs, _⟩ | ⟨x, l, c, zs, hcs, _, hl, hm, hz, _, hcell, hwz⟩
    · simp [Value.cells] at hcs
      obtain ⟨rfl, rfl, rfl⟩ := hcs
      exact ⟨[], .inl ⟨rfl, rfl, rfl, rfl⟩⟩
    · simp [Value.cells] at hcs
      obtain ⟨rfl, rfl, rfl⟩ := hcs
      exact ⟨zs, .inr ⟨_, rfl, hl, hm, by simpa using hz, hcell, hwz⟩⟩
  clear hA0 hval0
  refine (walk a0 len0 cap0 W (row_bt w0)).mono fun e W' ⟨he, bel⟩ => ?_
  subst he
  exact ⟨_, rfl, _, _, _, [], _, [], hW', trodAll_mk1 (shut_bool Try.underlying4 _), (trodAll_cons_mk (Below.trod laidOut (by kernel_rfl) (of_decide_eq_true (by kernel_rfl)) k0 bel lt0) trodAll_mk0), rfl, bel.frame _, fun h => by cases h⟩

theorem over : Rows.fnTsoDoneRow.holds Try.pinned (OpenSpec.ofChange Rows.fnTsoDoneSpec) :=
  OpenClaim.holds_of_wide 4 Try.f4 rfl rfl rfl rfl rfl rfl rfl ⟨rfl, rfl, rfl, rfl, rfl⟩ rfl rfl rfl rfl rfl (by kernel_rfl) Try.func4 (by kernel_rfl)
    (of_decide_eq_true (by kernel_rfl)) (by unfold Func.isWrapper; first | (rw [if_pos (by decide +kernel)]; kernel_rfl) | (rw [if_neg (by decide +kernel)]; exact ⟨rfl, rfl⟩))
    (fun os started H enc _ => lifted os started H enc)

theorem proved : Rows.FnTsoDoneSaid := over
end Go.Proofs.Ytneofegnbflfiaa.fnTsoDone

namespace Go.Proofs.Ytneofegnbflfiaa
theorem fnTsoDone_holds : Rows.FnTsoDoneSaid := fnTsoDone.proved
end Go.Proofs.Ytneofegnbflfiaa
