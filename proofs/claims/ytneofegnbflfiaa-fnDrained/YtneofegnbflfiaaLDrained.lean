/- Proved: for every code, laws.FnDrained returns true. No condition. -/
import Derived.Test.YtneofegnbflfiaaRows
import Derived.Test.YtneofegnbflfiaaDtX
import Derived.WalkKit
import Derived.ProofKit
import Derived.OpenShut
import Derived.ShutString
import Derived.ChangeOld
import Derived.Below
import Derived.OpenVars
namespace Go.Proofs.Ytneofegnbflfiaa.fnDrained
open Go.ChangeShapes Go.WideShapes Go.ChangeAt Go.WideMaps Go.WideElems Go.RowKit
set_option linter.unusedVariables false
set_option linter.unusedSimpArgs false

theorem own : ownKnob Try.prog.godebug = none := by kernel_rfl
theorem laidOut : laidOutB Try.prog = true := by kernel_rfl

def IsRow (k : IntKind) (w : World) (a : Option Addr) (len cap : Nat) (zs : List Int) : Prop :=
  (a = none ∧ len = 0 ∧ cap = 0 ∧ zs = []) ∨
  ∃ x, a = some x ∧ len ≤ cap ∧ cap ≤ maxLen ∧ zs.length = cap ∧ (∀ i, i < zs.length → w.cell? (x.add i) = some (.int k (zs.getD i 0))) ∧ ∀ n ∈ zs, (Lit.int k n).wf = true

theorem row_bt {w : World} {a : Option Addr} {len cap : Nat} {z : List Int} (h : IsRow .u8 w a len cap z) : Bt w a len := by
  intro h0
  rcases h with ⟨rfl, rfl, rfl, rfl⟩ | ⟨x, rfl, hl, hm, hz, hcell, hwf⟩
  · exact absurd h0 (by simp)
  · obtain ⟨b, off, spot⟩ := x
    have hc := hcell 0 (by omega)
    have hspot : spot = none := by simpa [Addr.add] using World.cell?_spot hc
    subst hspot
    refine ⟨b, off, rfl, fun j hj => ?_⟩
    have hcj := hcell j (by omega)
    rw [addr_add] at hcj
    have hj' : j < z.length := by omega
    have e : z.getD j 0 = z[j] := by simp [hj']
    have hw := bounds_u8 (hwf z[j] (List.getElem_mem hj'))
    exact ⟨z.getD j 0, by rw [e]; exact hw.1, by rw [e]; exact hw.2, hcj⟩

set_option maxHeartbeats 16000000 in
set_option maxRecDepth 20000 in
theorem walk (a0 : Option Addr) (len0 cap0 : Nat) (w : World) (hs : Bt w a0 len0) :
    Calls Try.prog 9 #[.slice a0 len0 cap0] w fun e w' => e = .returned (.bool true) ∧ Below w.heap.size w w' := by
  by_cases hbig : (1048576 : Int) < (len0 : Int)
  · go_enter Try.func9, Try.ntmps9
    go_wp2
    go_ret
    exact ⟨rfl, Below.refl _ _⟩
  have hb : len0 ≤ 1048576 := by omega
  go_enter Try.func9, Try.ntmps9
  go_wp2_with (first | (go_at_call 13; go_in) | fail)
  refine (drawDrained_any a0 len0 cap0 _ hs hb).mono ?_
  rintro e w1 ⟨m, b, r, d, C, vb, vr, tag, rfl, ta, hcp, hsm, hb1⟩
  obtain ⟨xm, ym, xb, yb, xr, yr, rfl, rfl, rfl⟩ := Ta.three (n := d.zs.length) ta rfl
  obtain ⟨X1, hA1⟩ := Bq.new (d := d) (Ta.tv ta)
  have HB1 := hide (hb1.trans (hA1.mono hb1.size))
  clear hs hb1 hA1 ta hcp hb hbig
  obtain ⟨_, x0, x1, x2⟩ := row3_facts X1.box
  go_wp2_with fail
  refine (implDrained_any _ _ _ d C C _ X1.tv).mono ?_
  intro e w2 hp2
  obtain ⟨m2, b2, r2, vb2, vr2, tag2, rfl, ta2, hb2⟩ := dr_all hp2
  obtain ⟨xm2, ym2, xb2, yb2, xr2, yr2, rfl, rfl, rfl⟩ := Ta.three (n := (eD d C C).zs.length) ta2 rfl
  obtain ⟨N2, hA2⟩ := Bq.new (d := eD d C C) (C := aC d C C) (Ta.tv ta2)
  have hc2 := hb2.trans (hA2.mono hb2.size)
  have X2 := X1.below hc2
  have HB2 := hide (HB1.out.trans (hc2.mono HB1.out.size))
  clear hp2 ta2 hb2 hA2 hc2 X1 HB1 x0 x1 x2
  obtain ⟨_, x0, x1, x2⟩ := row3_facts X2.box
  go_wp2_with fail
  refine (specDrained_any _ _ _ d C C _ X2.tv).mono ?_
  intro e w3 hp3
  obtain ⟨m3, b3, r3, vb3, vr3, tag3, rfl, ta3, hb3⟩ := dr_all hp3
  obtain ⟨xm3, ym3, xb3, yb3, xr3, yr3, rfl, rfl, rfl⟩ := Ta.three (n := (eD d C C).zs.length) ta3 rfl
  obtain ⟨P3, hA3⟩ := Bq.new (d := eD d C C) (C := aC d C C) (Ta.tv ta3)
  have hc3 := hb3.trans (hA3.mono hb3.size)
  have X3 := X2.below hc3
  have N3 := N2.below hc3
  have HB3 := hide (HB2.out.trans (hc3.mono HB2.out.size))
  clear hp3 ta3 hb3 hA3 hc3 X2 N2 HB2 x0 x1 x2
  generalize w2.heap.size = B2 at N3 ⊢
  generalize w1.heap.size = B1 at X3 ⊢
  have TL := hide (eD_small d C C).tl
  have HS := hide (dr_says d C)
  generalize hD : eD d C C = D at *
  generalize hCC : aC d C C = CC at *
  generalize hK : tokB d.zs C d.L d.F C d.Z = ka at *
  try simp only [hD, hCC] at HS
  have HK := hide hK
  clear hD hCC hK
  obtain ⟨_, x0, x1, x2⟩ := row3_facts N3.box
  obtain ⟨_, z0, z1, z2⟩ := row3_facts P3.box
  go_wp2_with fail
  refine (sameTso_same _ _ _ _ _ _ D.zs CC D.L D.F CC D.Z _ N3.tv P3.tv TL.out).mono ?_
  rintro e w4 ⟨rfl, hbb⟩
  have X4 := X3.below hbb
  have N4 := N3.below hbb
  have P4 := P3.below hbb
  have HB4 := hide (HB3.out.trans (hbb.mono HB3.out.size))
  clear hbb HB3 X3 N3 P3  x0 x1 x2 z0 z1 z2
  rcases HS.out with rfl | ⟨rfl, _, hCe, htn, hL0, hZe, hdal⟩
  · clear HS
    obtain ⟨_, x0, x1, x2⟩ := row3_facts N4.box
    obtain ⟨_, z0, z1, z2⟩ := row3_facts P4.box
    go_wp2_with fail
    refine (sameTso_same _ _ _ _ _ _ D.zs CC D.L D.F CC D.Z _ N4.tv P4.tv TL.out).mono ?_
    rintro e w5 ⟨rfl, hbb⟩
    have HB5 := hide (HB4.out.trans (hbb.mono HB4.out.size))
    clear hbb HB4 x0 x1 x2 z0 z1 z2
    go_wp2
    go_ret
    exact ⟨rfl, HB5.out⟩
  · clear HS P4
    have ht : tokD d C = true := HK.out
    clear HK
    obtain rfl : C = CC := hCe.symm
    clear hCe
    have hC3 := (tok_parts ht).1
    have HL := hide (fun c hc => ((tok_parts ht).2.2.2.2 c hc).2.2.1)
    have HL2 := hide (fun c hc => ((tok_parts htn).2.2.2.2 c hc).2.2.1)
    have HZ3 := hide (tok_parts htn).2.2.1
    have HW := hide (And.intro hL0 (And.intro hZe hdal))
    obtain ⟨rb, ro, rfl⟩ := X4.tv.regForm (by omega)
    obtain ⟨rb2, ro2, rfl⟩ := N4.tv.regForm (by omega)
    obtain ⟨bb2, bo2, rfl⟩ := N4.tv.bufForm (by omega)
    obtain ⟨mb2, mo2, rfl⟩ := N4.tv.memForm (by have := HZ3.out; omega)
    clear hL0 hZe hdal
    have HS := hide (show Ld w B1 B2 (.slice xm d.zs.length ym) (.slice xb C yb) (.slice (some ⟨rb, ro, none⟩) C yr) (.slice (some ⟨mb2, mo2, none⟩) D.zs.length ym2) (.slice (some ⟨bb2, bo2, none⟩) C yb2) (.slice (some ⟨rb2, ro2, none⟩) C yr2) d D C  w4 from ⟨X4, N4, HB4.out⟩)
    obtain ⟨_, x0, x1, x2⟩ := row3_facts X4.box
    obtain ⟨_, z0, z1, z2⟩ := row3_facts N4.box
    clear X4 N4 HB4
    go_wp2
    clear x0 x1 x2 z0 z1 z2
    go_loopw [8] (fun i wr => ∃ c : Nat, c ≤ C ∧ i = .int .i64 c ∧ Hid (Ld w B1 B2 (.slice xm d.zs.length ym) (.slice xb C yb) (.slice (some ⟨rb, ro, none⟩) C yr) (.slice (some ⟨mb2, mo2, none⟩) D.zs.length ym2) (.slice (some ⟨bb2, bo2, none⟩) C yb2) (.slice (some ⟨rb2, ro2, none⟩) C yr2) d D C wr)) (fun i _ => C - (intOf i).toNat)
    case atStart => exact ⟨0, Nat.zero_le _, rfl, HS⟩
    case round =>
      clear HS
      obtain ⟨c, hc, rfl, HS⟩ := hrel
      obtain ⟨_, x0, x1, x2⟩ := row3_facts HS.out.1.box
      obtain ⟨_, z0, z1, z2⟩ := row3_facts HS.out.2.1.box
      by_cases hlt : c < C
      · clear x0 x1 x2
        obtain ⟨ia, ic, fq1, _⟩ := HS.out.2.1.tv.bufC (c := c) hlt (HW.out.1 c hlt)
        obtain ⟨p2, o2, ic2, fq2, f2⟩ := HS.out.2.1.tv.regC (c := c) hlt (HL2.out c hlt) (by decide)
        obtain ⟨p, o, ic1, fq3, f3⟩ := HS.out.1.tv.regC (c := c) hlt (HL.out c hlt) (by decide)
        have hl2 := HL.out c hlt
        have SN : Sl wr (.slice (some ⟨p2, o2, none⟩) 2 ic2) (d.Z c) := ⟨_, ic2, by rw [hl2], fun _ => ⟨p2, o2, rfl, fun j hj => by rw [← HW.out.2.1]; exact f2 j (by omega)⟩⟩
        have SX : Sl wr (.slice (some ⟨p, o, none⟩) 2 ic1) (d.Z c) := ⟨_, ic1, by rw [hl2], fun _ => ⟨p, o, rfl, fun j hj => f3 j (by omega)⟩⟩
        clear f2 f3 hl2
        obtain ⟨_, fx0, fx1, fx2⟩ := row3_facts HS.out.1.box
        obtain ⟨_, fz0, fz1, fz2⟩ := row3_facts HS.out.2.1.box
        have hi0 : (0 : Int) ≤ (c : Int) := by omega
        have hi1 : (c : Int) < (C : Int) := by omega
        go_wp2
        refine wp_region_held_drew (S := fun w' => Below (wr).heap.size (wr) w') (by kernel_rfl) ((Below.refl _ _).drew) (fun hHeld => ?_)
        refine wpAnyH_take (i := 0) (v := .pointer (some ⟨B2, 1, none⟩)) rfl (by kernel_rfl) (by kernel_rfl) (by kernel_rfl) (fun _ _ _ h => h) (Or.inl ⟨by rfl, fun w' hSw => ?_⟩) (by assumption) ?_
        · (try dsimp only at hSw); go_simp
        try simp only [Act.put, List.getElem_toArray, List.getElem_cons_zero, List.getElem_cons_succ, List.setIfInBounds_toArray, List.set_cons_zero, List.set_cons_succ]
        refine wpAnyH_take (i := 1) (v := .slice (some ⟨bb2, bo2, none⟩) C yb2) rfl (by kernel_rfl) (by kernel_rfl) (by kernel_rfl) (fun _ _ _ h => h) (Or.inl ⟨by rfl, fun w' hSw => ?_⟩) (by assumption) ?_
        · (try dsimp only at hSw); have z0 := keepc hSw fz1; have z1 := keepc hSw fz2; have z2 := keepc hSw fx2; have z3 := keepc hSw fq1; have z4 := keepc hSw fq2; have z5 := keepc hSw fq3; go_simp
        try simp only [Act.put, List.getElem_toArray, List.getElem_cons_zero, List.getElem_cons_succ, List.setIfInBounds_toArray, List.set_cons_zero, List.set_cons_succ]
        refine wpAnyH_take (i := 2) (v := .int .i64 c) rfl (by kernel_rfl) (by kernel_rfl) (by kernel_rfl) (fun _ _ _ h => h) (Or.inl ⟨by rfl, fun w' hSw => ?_⟩) (by assumption) ?_
        · (try dsimp only at hSw); go_simp
        try simp only [Act.put, List.getElem_toArray, List.getElem_cons_zero, List.getElem_cons_succ, List.setIfInBounds_toArray, List.set_cons_zero, List.set_cons_succ]
        refine wpAnyH_take (i := 3) (v := .pointer (some ⟨bb2, bo2 + c, none⟩)) rfl (by kernel_rfl) (by kernel_rfl) (by kernel_rfl) (fun _ _ _ h => h) (Or.inl ⟨by rfl, fun w' hSw => ?_⟩) (by assumption) ?_
        · (try dsimp only at hSw); go_simp
        try simp only [Act.put, List.getElem_toArray, List.getElem_cons_zero, List.getElem_cons_succ, List.setIfInBounds_toArray, List.set_cons_zero, List.set_cons_succ]
        refine wpAnyH_take (i := 4) (v := .slice ia 0 ic) rfl (by kernel_rfl) (by kernel_rfl) (by kernel_rfl) (fun _ _ _ h => h) (Or.inl ⟨by rfl, fun w' hSw => ?_⟩) (by assumption) ?_
        · (try dsimp only at hSw); have z0 := keepc hSw fz1; have z1 := keepc hSw fz2; have z2 := keepc hSw fx2; have z3 := keepc hSw fq1; have z4 := keepc hSw fq2; have z5 := keepc hSw fq3; go_simp
        try simp only [Act.put, List.getElem_toArray, List.getElem_cons_zero, List.getElem_cons_succ, List.setIfInBounds_toArray, List.set_cons_zero, List.set_cons_succ]
        refine wpAnyH_take (i := 5) (v := .int .i64 0) rfl (by kernel_rfl) (by kernel_rfl) (by kernel_rfl) (fun _ _ _ h => h) (Or.inl ⟨by rfl, fun w' hSw => ?_⟩) (by assumption) ?_
        · (try dsimp only at hSw); go_simp
        try simp only [Act.put, List.getElem_toArray, List.getElem_cons_zero, List.getElem_cons_succ, List.setIfInBounds_toArray, List.set_cons_zero, List.set_cons_succ]
        refine wpAnyH_take (i := 6) (v := .bool false) rfl (by kernel_rfl) (by kernel_rfl) (by kernel_rfl) (fun _ _ _ h => h) (Or.inl ⟨by rfl, fun w' hSw => ?_⟩) (by assumption) ?_
        · (try dsimp only at hSw); go_simp
        try simp only [Act.put, List.getElem_toArray, List.getElem_cons_zero, List.getElem_cons_succ, List.setIfInBounds_toArray, List.set_cons_zero, List.set_cons_succ]
        refine wpAnyH_take (i := 7) (v := .bool false) rfl (by kernel_rfl) (by kernel_rfl) (by kernel_rfl) (fun _ _ _ h => h) (Or.inl ⟨by rfl, fun w' hSw => ?_⟩) (by assumption) ?_
        · (try dsimp only at hSw); go_simp
        try simp only [Act.put, List.getElem_toArray, List.getElem_cons_zero, List.getElem_cons_succ, List.setIfInBounds_toArray, List.set_cons_zero, List.set_cons_succ]
        refine wpAnyH_take (i := 8) (v := .pointer (some ⟨B2, 2, none⟩)) rfl (by kernel_rfl) (by kernel_rfl) (by kernel_rfl) (fun _ _ _ h => h) (Or.inl ⟨by rfl, fun w' hSw => ?_⟩) (by assumption) ?_
        · (try dsimp only at hSw); go_simp
        try simp only [Act.put, List.getElem_toArray, List.getElem_cons_zero, List.getElem_cons_succ, List.setIfInBounds_toArray, List.set_cons_zero, List.set_cons_succ]
        refine wpAnyH_take (i := 9) (v := .slice (some ⟨rb2, ro2, none⟩) C yr2) rfl (by kernel_rfl) (by kernel_rfl) (by kernel_rfl) (fun _ _ _ h => h) (Or.inl ⟨by rfl, fun w' hSw => ?_⟩) (by assumption) ?_
        · (try dsimp only at hSw); have z0 := keepc hSw fz1; have z1 := keepc hSw fz2; have z2 := keepc hSw fx2; have z3 := keepc hSw fq1; have z4 := keepc hSw fq2; have z5 := keepc hSw fq3; go_simp
        try simp only [Act.put, List.getElem_toArray, List.getElem_cons_zero, List.getElem_cons_succ, List.setIfInBounds_toArray, List.set_cons_zero, List.set_cons_succ]
        refine wpAnyH_take (i := 10) (v := .int .i64 c) rfl (by kernel_rfl) (by kernel_rfl) (by kernel_rfl) (fun _ _ _ h => h) (Or.inl ⟨by rfl, fun w' hSw => ?_⟩) (by assumption) ?_
        · (try dsimp only at hSw); go_simp
        try simp only [Act.put, List.getElem_toArray, List.getElem_cons_zero, List.getElem_cons_succ, List.setIfInBounds_toArray, List.set_cons_zero, List.set_cons_succ]
        refine wpAnyH_take (i := 11) (v := .pointer (some ⟨rb2, ro2 + c, none⟩)) rfl (by kernel_rfl) (by kernel_rfl) (by kernel_rfl) (fun _ _ _ h => h) (Or.inl ⟨by rfl, fun w' hSw => ?_⟩) (by assumption) ?_
        · (try dsimp only at hSw); go_simp
        try simp only [Act.put, List.getElem_toArray, List.getElem_cons_zero, List.getElem_cons_succ, List.setIfInBounds_toArray, List.set_cons_zero, List.set_cons_succ]
        refine wpAnyH_take (i := 12) (v := .slice (some ⟨p2, o2, none⟩) 2 ic2) rfl (by kernel_rfl) (by kernel_rfl) (by kernel_rfl) (fun _ _ _ h => h) (Or.inl ⟨by rfl, fun w' hSw => ?_⟩) (by assumption) ?_
        · (try dsimp only at hSw); have z0 := keepc hSw fz1; have z1 := keepc hSw fz2; have z2 := keepc hSw fx2; have z3 := keepc hSw fq1; have z4 := keepc hSw fq2; have z5 := keepc hSw fq3; go_simp
        try simp only [Act.put, List.getElem_toArray, List.getElem_cons_zero, List.getElem_cons_succ, List.setIfInBounds_toArray, List.set_cons_zero, List.set_cons_succ]
        refine wpAnyH_take (i := 13) (v := .pointer (some ⟨B1, 2, none⟩)) rfl (by kernel_rfl) (by kernel_rfl) (by kernel_rfl) (fun _ _ _ h => h) (Or.inl ⟨by rfl, fun w' hSw => ?_⟩) (by assumption) ?_
        · (try dsimp only at hSw); go_simp
        try simp only [Act.put, List.getElem_toArray, List.getElem_cons_zero, List.getElem_cons_succ, List.setIfInBounds_toArray, List.set_cons_zero, List.set_cons_succ]
        refine wpAnyH_take (i := 14) (v := .slice (some ⟨rb, ro, none⟩) C yr) rfl (by kernel_rfl) (by kernel_rfl) (by kernel_rfl) (fun _ _ _ h => h) (Or.inl ⟨by rfl, fun w' hSw => ?_⟩) (by assumption) ?_
        · (try dsimp only at hSw); have z0 := keepc hSw fz1; have z1 := keepc hSw fz2; have z2 := keepc hSw fx2; have z3 := keepc hSw fq1; have z4 := keepc hSw fq2; have z5 := keepc hSw fq3; go_simp
        try simp only [Act.put, List.getElem_toArray, List.getElem_cons_zero, List.getElem_cons_succ, List.setIfInBounds_toArray, List.set_cons_zero, List.set_cons_succ]
        refine wpAnyH_take (i := 15) (v := .int .i64 c) rfl (by kernel_rfl) (by kernel_rfl) (by kernel_rfl) (fun _ _ _ h => h) (Or.inl ⟨by rfl, fun w' hSw => ?_⟩) (by assumption) ?_
        · (try dsimp only at hSw); go_simp
        try simp only [Act.put, List.getElem_toArray, List.getElem_cons_zero, List.getElem_cons_succ, List.setIfInBounds_toArray, List.set_cons_zero, List.set_cons_succ]
        refine wpAnyH_take (i := 16) (v := .pointer (some ⟨rb, ro + c, none⟩)) rfl (by kernel_rfl) (by kernel_rfl) (by kernel_rfl) (fun _ _ _ h => h) (Or.inl ⟨by rfl, fun w' hSw => ?_⟩) (by assumption) ?_
        · (try dsimp only at hSw); go_simp
        try simp only [Act.put, List.getElem_toArray, List.getElem_cons_zero, List.getElem_cons_succ, List.setIfInBounds_toArray, List.set_cons_zero, List.set_cons_succ]
        refine wpAnyH_take (i := 17) (v := .slice (some ⟨p, o, none⟩) 2 ic1) rfl (by kernel_rfl) (by kernel_rfl) (by kernel_rfl) (fun _ _ _ h => h) (Or.inl ⟨by rfl, fun w' hSw => ?_⟩) (by assumption) ?_
        · (try dsimp only at hSw); have z0 := keepc hSw fz1; have z1 := keepc hSw fz2; have z2 := keepc hSw fx2; have z3 := keepc hSw fq1; have z4 := keepc hSw fq2; have z5 := keepc hSw fq3; go_simp
        try simp only [Act.put, List.getElem_toArray, List.getElem_cons_zero, List.getElem_cons_succ, List.setIfInBounds_toArray, List.set_cons_zero, List.set_cons_succ]
        refine wpAnyH_ready (rs := [18]) (by kernel_rfl) (by simp) ?_
        refine AllReadyH.cons rfl (fun K hK => ?_) AllReadyH.nil
        go_simp
        refine (sameInts_same _ _ (d.Z c) _ (SN.below hHeld) (SX.below hHeld) (by have := HL.out c hlt; omega)).mono ?_
        rintro e wc18 ⟨rfl, hbc⟩
        refine hK.out _ _ (hHeld.trans (hbc.mono hHeld.size)) (fun hHeld => ?_)
        clear hK K hbc
        try simp only [Act.put, List.getElem_toArray, List.getElem_cons_zero, List.getElem_cons_succ, List.setIfInBounds_toArray, List.set_cons_zero, List.set_cons_succ]
        refine wpAnyH_take (i := 19) (v := .bool false) rfl (by kernel_rfl) (by kernel_rfl) (by kernel_rfl) (fun _ _ _ h => h) (Or.inl ⟨by rfl, fun w' hSw => ?_⟩) (by assumption) ?_
        · (try dsimp only at hSw); go_simp
        try simp only [Act.put, List.getElem_toArray, List.getElem_cons_zero, List.getElem_cons_succ, List.setIfInBounds_toArray, List.set_cons_zero, List.set_cons_succ]
        refine wpAnyH_take (i := 20) (v := .bool false) rfl (by kernel_rfl) (by kernel_rfl) (by kernel_rfl) (fun _ _ _ h => h) (Or.inl ⟨by rfl, fun w' hSw => ?_⟩) (by assumption) ?_
        · (try dsimp only at hSw); go_simp
        try simp only [Act.put, List.getElem_toArray, List.getElem_cons_zero, List.getElem_cons_succ, List.setIfInBounds_toArray, List.set_cons_zero, List.set_cons_succ]
        refine wpAnyH_done (by kernel_rfl) ?_ _
        have HS2 := hide (Ld.below HS.out hHeld)
        clear hHeld HS SN SX fq1 fq2 fq3 fx0 fx1 fx2 fz0 fz1 fz2
        go_wp2
        go_loopw [9] (fun j wr' => ∃ v : Nat, v ≤ 3 ∧ j = .int .i64 v ∧ Hid (Ld w B1 B2 (.slice xm d.zs.length ym) (.slice xb C yb) (.slice (some ⟨rb, ro, none⟩) C yr) (.slice (some ⟨mb2, mo2, none⟩) D.zs.length ym2) (.slice (some ⟨bb2, bo2, none⟩) C yb2) (.slice (some ⟨rb2, ro2, none⟩) C yr2) d D C wr')) (fun j _ => 3 - (intOf j).toNat)
        case atStart => exact ⟨0, by omega, rfl, HS2⟩
        case round =>
          clear HS2
          obtain ⟨v, hv, rfl, HS⟩ := hrel
          by_cases hlv : v < 3
          · obtain ⟨s1, s2⟩ := seB_of (d := D) (C := C) (c := c) (v := v) htn hlt hlv
            have hsv := fun W h => implSeenBy_any (.slice (some ⟨mb2, mo2, none⟩) D.zs.length ym2) (.slice (some ⟨bb2, bo2, none⟩) C yb2) (.slice (some ⟨rb2, ro2, none⟩) C yr2) D.zs C D.L D.F C D.Z c v W h
            rw [s1, s2, HW.out.1 c hlt, show sn D.zs (D.F c) v 0 = D.zs.getD v 0 from rfl] at hsv
            clear s1 s2
            obtain ⟨_, x0, x1, x2⟩ := row3_facts HS.out.2.1.box
            go_wp2_with fail
            refine (hsv _ HS.out.2.1.tv).mono ?_
            rintro e w6 ⟨rfl, hbb⟩
            have HS6 := hide (Ld.below HS.out hbb)
            clear hbb HS x0 x1 x2 hsv
            have a2 := HS6.out.2.1.tv.memC (v := v) (by have := HZ3.out; omega)
            generalize D.zs.getD v 0 = mz at a2 ⊢
            have hvi0 : (0 : Int) ≤ (v : Int) := by omega
            have hvi2 : (v : Int) < (D.zs.length : Int) := by have := HZ3.out; omega
            obtain ⟨_, x0, x1, x2⟩ := row3_facts HS6.out.2.1.box
            go_wp2
            go_roundw
            case rel => exact ⟨v + 1, by omega, by go_num, HS6⟩
            case measure => simp [intOf]; omega
          · have e3 : v = 3 := by omega
            subst e3
            go_wp2
            go_roundw
            case rel => exact ⟨c + 1, by omega, by go_num, HS⟩
            case measure => simp [intOf]; omega
      · have e3 : c = C := by omega
        subst e3
        go_wp2_with fail
        refine (implDrained_any _ _ _ D c c _ HS.out.2.1.tv).mono ?_
        rintro e w5 (⟨q, _⟩ | ⟨_, m5, b5, r5, vb5, vr5, tag5, rfl, ta5, hb5⟩)
        · exact absurd (q.symm.trans htn) (by decide)
        rw [HW.out.2.2] at ta5
        obtain ⟨xm5, ym5, xb5, yb5, xr5, yr5, rfl, rfl, rfl⟩ := Ta.three (n := D.zs.length) ta5 rfl
        obtain ⟨M5, hA5⟩ := Bq.new (d := D) (C := c) (Ta.tv ta5)
        have hc5 := hb5.trans (hA5.mono hb5.size)
        have HS5 := hide (Ld.below HS.out hc5)
        clear ta5 hb5 hA5 hc5 HS x0 x1 x2 z0 z1 z2
        have hok := fun W h => implTsoOk_any (.slice (some ⟨mb2, mo2, none⟩) D.zs.length ym2) (.slice (some ⟨bb2, bo2, none⟩) c yb2) (.slice (some ⟨rb2, ro2, none⟩) c yr2) D.zs c D.L D.F c D.Z W h
        rw [show tokB D.zs c D.L D.F c D.Z = true from htn] at hok
        obtain ⟨_, x0, x1, x2⟩ := row3_facts HS5.out.2.1.box
        go_wp2_with fail
        refine (hok _ HS5.out.2.1.tv).mono ?_
        rintro e w6 ⟨rfl, hbb⟩
        have M6 := M5.below hbb
        have HS6 := hide (Ld.below HS5.out hbb)
        clear hbb HS5 M5 hok x0 x1 x2
        obtain ⟨_, x0, x1, x2⟩ := row3_facts M6.box
        obtain ⟨_, z0, z1, z2⟩ := row3_facts HS6.out.2.1.box
        go_wp2_with fail
        refine (sameTso_same _ _ _ _ _ _ D.zs c D.L D.F c D.Z _ M6.tv HS6.out.2.1.tv TL.out).mono ?_
        rintro e w7 ⟨rfl, hbb⟩
        have HS7 := hide (Ld.below HS6.out hbb)
        clear hbb HS6 x0 x1 x2 z0 z1 z2
        go_wp2
        go_ret
        exact ⟨rfl, HS7.out.2.2⟩

set_option maxRecDepth 100000 in
theorem lifted (os : Os) (started : os.Started) (H : Type) (enc : TypeId × Value → H) :
    ReturnsInHanded {} Try.checked os 9 .any (Rows.fnDrainedSpec.pre6 enc Try.prog Try.f9 Rows.fnDrainedRow.domain false) (Rows.fnDrainedSpec.post enc Try.prog Try.f9 false true false false) := by
  refine returnsInHanded_of_change (C := Try.checked) own started (by kernel_rfl) Try.func9
    (ChangeSpec.witness6 (enc := enc) (C := Try.checked) false ⟨#[], #[.slice none 0 0], []⟩ 8 (by kernel_rfl) (by kernel_rfl) (by kernel_rfl) (by kernel_rfl)) ?_
  intro W base args ds gs before hval0 hW hcnd _
  have hval : ∀ (j : Nat) t v, Try.f9.params[j]? = some t → args[j]? = some v → Value.okWide Try.prog W .any base t v := hval0
  have hW' := hW
  obtain ⟨p, q, hA0, hV, rfl, hfz, hnd⟩ := hW
  have hA : DataW.TrodAll enc Try.prog W 0 (fun _ => true) true Try.f9.params.toList args.toList ds p := hA0
  rw [Try.params9] at hA hval
  obtain ⟨v0, vs0, d0, ds0, p0, q0, hargs, rfl, rfl, h0, r0⟩ := trodAll_cons hA
  obtain ⟨rfl, rfl, rfl⟩ := trodAll_nil r0
  obtain rfl : args = #[v0] := by cases args; simp_all
  obtain ⟨rfl, rfl⟩ := trodVars_none hV
  obtain ⟨a0, len0, cap0, rfl⟩ := okWide_slice Try.underlying22 (hval 0 22 v0 rfl rfl)
  have k0 := h0
  have lt0 : ∀ x ∈ p0, x.block < W.heap.size := by obtain ⟨m, hm⟩ := k0; exact DataW.trod_lt m _ _ _ hm
  obtain ⟨z0, w0⟩ : ∃ zs, IsRow .u8 W a0 len0 cap0 zs := by
    obtain ⟨fuel, hf⟩ := h0
    rcases open_ints Try.underlying22 Try.underlying5 (by kernel_rfl) hf with ⟨hcs, _⟩ | ⟨x, l, c, zs, hcs, _, hl, hm, hz, _, hcell, hwz⟩
    · simp [Value.cells] at hcs
      obtain ⟨rfl, rfl, rfl⟩ := hcs
      exact ⟨[], .inl ⟨rfl, rfl, rfl, rfl⟩⟩
    · simp [Value.cells] at hcs
      obtain ⟨rfl, rfl, rfl⟩ := hcs
      exact ⟨zs, .inr ⟨_, rfl, hl, hm, by simpa using hz, hcell, hwz⟩⟩
  clear hA0 hval0
  refine (walk a0 len0 cap0 W (row_bt w0)).mono fun e W' ⟨he, bel⟩ => ?_
  subst he
  exact ⟨_, rfl, _, _, _, [], _, [], hW', trodAll_mk1 (shut_bool Try.underlying4 _), (trodAll_cons_mk (Below.trod laidOut (by kernel_rfl) (of_decide_eq_true (by kernel_rfl)) k0 bel lt0) trodAll_mk0), rfl, bel.frame _, fun h => by cases h⟩

theorem over : Rows.fnDrainedRow.holds Try.pinned (OpenSpec.ofChange Rows.fnDrainedSpec) :=
  OpenClaim.holds_of_wide 9 Try.f9 rfl rfl rfl rfl rfl rfl rfl ⟨rfl, rfl, rfl, rfl, rfl⟩ rfl rfl rfl rfl rfl (by kernel_rfl) Try.func9 (by kernel_rfl)
    (of_decide_eq_true (by kernel_rfl)) (by unfold Func.isWrapper; first | (rw [if_pos (by decide +kernel)]; kernel_rfl) | (rw [if_neg (by decide +kernel)]; exact ⟨rfl, rfl⟩))
    (fun os started H enc _ => lifted os started H enc)

theorem proved : Rows.FnDrainedSaid := over
end Go.Proofs.Ytneofegnbflfiaa.fnDrained

namespace Go.Proofs.Ytneofegnbflfiaa
theorem fnDrained_holds : Rows.FnDrainedSaid := fnDrained.proved
end Go.Proofs.Ytneofegnbflfiaa
