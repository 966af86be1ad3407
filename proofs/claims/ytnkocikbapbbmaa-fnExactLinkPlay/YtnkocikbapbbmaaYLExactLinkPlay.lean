/- for every link and every row of acts laws.FnExactLinkPlay returns true and leaves its arguments as it read them. No other condition. -/
import Derived.Test.YtnkocikbapbbmaaRows
import Derived.Test.YtnkocikbapbbmaaYnkPlay5
import Derived.Test.YtnkocikbapbbmaaYnkPlay54
import Derived.WalkKit
import Derived.ProofKit
import Derived.OpenShut
import Derived.ShutString
import Derived.ChangeOld
import Derived.Below
import Derived.OpenVars
namespace Go.Proofs.Ytnkocikbapbbmaa.fnExactLinkPlay
open Go.ChangeShapes Go.WideShapes Go.ChangeAt Go.WideMaps Go.WideElems Go.RowKit
set_option linter.unusedVariables false
set_option linter.unusedSimpArgs false

theorem own : ownKnob Try.prog.godebug = none := by kernel_rfl
theorem laidOut : laidOutB Try.prog = true := by kernel_rfl

set_option maxHeartbeats 40000000 in
set_option maxRecDepth 20000 in
theorem walk (wv gv dv uv : Value) (p : Lk) (sa : Option Addr) (n sc : Nat) (s : Nat → Ac4) (w : World) (hv : Lv w wv gv dv uv p) (hs : Lsm 9223372036854775807 p) (hr : Sg w (.slice sa n sc) 4 n (aF s)) (hn : (n : Int) ≤ 9223372036854775807) (hl : ∀ j, j < n → ((s j).d.size : Int) ≤ 9223372036854775807) :
    Calls Try.prog 5 #[.agg (l6 p.base wv p.want gv dv uv), .slice sa n sc] w fun e w' => e = .returned (.bool true) ∧ Below w.heap.size w w' := by
  have ha0 := hide hv
  have hr0 := hide hr
  clear hr
  obtain ⟨L, hL⟩ : ∃ L, ppL p s n = L := ⟨_, rfl⟩
  obtain ⟨N, hN⟩ : ∃ N, ppN p n = N := ⟨_, rfl⟩
  obtain ⟨C, hC⟩ : ∃ C, (fun c => pcN s p c) = C := ⟨_, rfl⟩
  have hsz := pp_sm p s n
  rw [hL, hN] at hsz
  replace hsz := hide hsz
  have hspec := fun V wv gv dv uv sv h hsm hc => specPlay_any p wv gv dv uv V h hsm s sv n hc L N hL hN
  have himpl := fun V wv gv dv uv sv h hsm hc => implPlay_any p wv gv dv uv V h hsm s sv n hc L N hL hN
  rw [hC] at hspec himpl
  clear hC hL hN
  have hN1 : N ≤ 1048576 := Nat.le_trans hsz.out.2 (by decide)
  have hq := hsz.out.1.four
  have hm1 : decide (mkE L 1 < 0) = false := decide_eq_false (by unfold mkE; omega)
  have hm2 : decide (mkE L 1 + (N : Int) < 0) = false := decide_eq_false (by unfold mkE; omega)
  have hk2 : 0 < mkE L 1 := by unfold mkE; omega
  have hk3 : mkE L 1 ≤ 8000000 := by unfold mkE; omega
  clear hq
  obtain ⟨⟨wa, wc, rfl, _⟩, ⟨ga, gc, rfl, _⟩, ⟨da, dc, rfl, _⟩, ⟨ua, uc, rfl, _⟩⟩ := hv
  have HB : Hid (Mv nob w w) := hide (Mv.refl _ _)
  go_enter Try.func5, Try.ntmps5
  refine sk fun K1 h1 => rl ?_
  refine sbp #[.int .i64 p.base, .slice wa p.nw wc, .int .i64 p.want, .slice ga p.ng gc, .slice da p.nd dc, .slice ua p.nu uc] 25 fun V1 b0 hb0 m1 bx0 => ?_
  have o_0 : w.heap.size ≤ b0 := by omega
  clear hb0
  refine sv (.bool false) ?_
  refine nt (h1 _ _ (sk fun K2 h2 => rl ?_)); clear h1 K1
  refine sv (.int .i64 1048576) ?_
  refine nt (h2 _ _ (sk fun K3 h3 => rl ?_)); clear h2 K2
  refine sl6 bx0 ?_
  refine sv (.int .i64 1048576) ?_
  replace HB := Xhn HB m1
  refine sw_call (by rfl) (by first | rfl | (go_simp; done)) (szLink_sum p.base p.want _ _ _ _ p V1 (ha0.out.below HB.out.below) hs) ?_
  rintro e V2 ⟨r, rfl, hp, hr1, hbl⟩
  have m2 : Mv (nob) V1 V2 := Mv.of_below hbl
  refine ⟨_, rfl, ?_⟩
  refine pt ?_
  clear hbl
  refine sv (.int .i64 r) ?_
  refine nt (h3 _ _ (sk fun K4 h4 => sk fun K5 h5 => rl ?_)); clear h3 K3
  by_cases hx : r < 0
  · refine sv (.int .i64 r) ?_
    refine sg (.bool true) (h := by have h0 : decide (r < 0) = true := decide_eq_true hx; have h1 := hx; go_simp) ?_
    refine nt (h5 _ _ (ct (sk fun K6 h6 => rl ?_))); clear h5 K5
    refine sv (.bool true) ?_
    refine nt (h6 _ _ (wp_ret (then_ret ?_))); clear h6 K6; clear h4 K4
    replace HB := Xhn HB m2; replace bx0 := Xbn bx0 m2
    exact bodyPost_ret (v := .bool true) (by simp [results, Try.results5, go_sem]) rfl ⟨rfl, HB.out.below⟩
  · refine sv (.int .i64 r) ?_
    refine sg (.bool false) (h := by have h0 : decide (r < 0) = false := decide_eq_false hx; have h1 := hx; go_simp) ?_
    refine nt (h5 _ _ (cf (wp_skip (then_normal (h4 _ _ (sk fun K7 h7 => rl ?_)))))); clear h5 K5; clear h4 K4
    have hr2 : 0 ≤ r := by omega
    refine sv (.slice sa n sc) ?_
    refine sv (.int .i64 r) ?_
    replace HB := Xhn HB m2
    refine sw_call (by rfl) (by first | rfl | (go_simp; done)) (szLActs_any (.slice sa n sc) n s r V2 hr2 hr1 (hr0.out.below HB.out.below) hn hl) ?_
    rintro e V3 ⟨r3, rfl, hr3, hn0, hbl⟩
    have m3 : Mv (nob) V2 V3 := Mv.of_below hbl
    refine ⟨_, rfl, ?_⟩
    refine pt ?_
    clear hbl
    refine sv (.int .i64 r3) ?_
    refine nt (h7 _ _ (sk fun K8 h8 => sk fun K9 h9 => rl ?_)); clear h7 K7
    by_cases hy : r3 < 0
    · refine sv (.int .i64 r3) ?_
      refine sg (.bool true) (h := by have h0 : decide (r3 < 0) = true := decide_eq_true hy; have h1 := hy; go_simp) ?_
      refine nt (h9 _ _ (ct (sk fun K10 h10 => rl ?_))); clear h9 K9
      refine sv (.bool true) ?_
      refine nt (h10 _ _ (wp_ret (then_ret ?_))); clear h10 K10; clear h8 K8
      replace bx0 := Xbn (Xbn bx0 m2) m3; replace HB := Xhn HB m3
      exact bodyPost_ret (v := .bool true) (by simp [results, Try.results5, go_sem]) rfl ⟨rfl, HB.out.below⟩
    · refine sv (.int .i64 r3) ?_
      refine sg (.bool false) (h := by have h0 : decide (r3 < 0) = false := decide_eq_false hy; have h1 := hy; go_simp) ?_
      refine nt (h9 _ _ (cf (wp_skip (then_normal (h8 _ _ (sk fun K11 h11 => rl ?_)))))); clear h9 K9; clear h8 K8
      have hsm := (hp hr2).1
      have hsum := (hp hr2).2
      have hn1 := hn0 (by omega)
      have hm0 : decide (mkE p 1 + 4 * (n : Int) < 0) = false := decide_eq_false (by unfold mkE; omega)
      have hk1 : mkE p 1 ≤ 5000000 := by unfold mkE; omega
      have hk0 : 0 < mkE p 1 := by unfold mkE; omega
      clear hp hx hy hr1 hr2 hr3 hn0 hsum hn hl
      replace bx0 := Xbn (Xbn bx0 m2) m3
      refine sl6 bx0 ?_
      replace HB := Xhn HB m3
      refine sw_call (by rfl) (by first | rfl | (go_simp; done)) (toLink_any _ _ _ _ p V3 (ha0.out.below HB.out.below) hsm) ?_
      rintro e V4 ⟨xw, xg, xd, xu, rfl, LO1, hbl⟩
      have m4 : Mv (nob) V3 V4 := Mv.of_below hbl
      refine ⟨_, rfl, ?_⟩
      refine pt ?_
      have LA1 := hide LO1.la
      clear LO1 hbl
      refine sv (.slice sa n sc) ?_
      replace HB := Xhn HB m4
      refine sw_call (by rfl) (by first | rfl | (go_simp; done)) (toLActs_any (.slice sa n sc) n s V4 (hr0.out.below HB.out.below) hn1) ?_
      rintro e V5 ⟨gy, rfl, hyl, CY, hbl⟩
      have m5 : Mv (nob) V4 V5 := Mv.of_below hbl
      refine ⟨_, rfl, ?_⟩
      refine pt ?_
      replace LA1 := hide (LA1.out.below (m5).below)
      have SA1 := hide CY.sg
      clear CY hyl hbl
      replace HB := Xhn HB m5
      have szV := HB.out.size
      refine sw_call (by rfl) (by first | rfl | (go_simp; done)) (hspec V5 _ _ _ _ _ LA1.out hsm SA1.out) ?_
      rintro e V6 ⟨qa_, qb_, qc_, qd_, qe_, rfl, LQ, RQ, hap, hbl⟩
      have m6 : Mv (nob) V5 V6 := Mv.of_below hbl
      refine ⟨_, rfl, ?_⟩
      refine pt ?_
      replace LA1 := hide (LA1.out.below (m6).below)
      replace SA1 := hide (SA1.out.below (m6).below)
      obtain ⟨xa0, xc0, rfl, _⟩ := LQ.wa.form
      obtain ⟨xa1, xc1, rfl, _⟩ := LQ.go.form
      obtain ⟨xa2, xc2, rfl, _⟩ := LQ.dn.form
      obtain ⟨xa3, xc3, rfl, _⟩ := LQ.up.form
      obtain ⟨xa4, xc4, rfl, _⟩ := RQ.form
      have LW := hide (LQ.lower (Nat.zero_le _))
      have CW := hide (RQ.base (Nat.zero_le _))
      clear LQ RQ hbl szV
      clear LA1 SA1
      clear hap
      refine sv (.tuple #[.agg #[.int .i64 L.base, .slice xa0 L.nw xc0, .int .i64 L.want, .slice xa1 L.ng xc1, .slice xa2 L.nd xc2, .slice xa3 L.nu xc3], .slice xa4 N xc4]) ?_
      refine sv (.agg #[.int .i64 L.base, .slice xa0 L.nw xc0, .int .i64 L.want, .slice xa1 L.ng xc1, .slice xa2 L.nd xc2, .slice xa3 L.nu xc3]) ?_
      refine sv (.slice xa4 N xc4) ?_
      replace bx0 := Xbn (Xbn (Xbn bx0 m4) m5) m6
      refine sbp #[.int .i64 0, .slice none 0 0, .int .i64 0, .slice none 0 0, .slice none 0 0, .slice none 0 0] 30 fun V7 b1 hb1 m7 bx1 => ?_
      have o0_1 := Xlo bx0 hb1
      have LWb : ∀ g, Lrb (.slice xa0 L.nw xc0) (.slice xa1 L.ng xc1) (.slice xa2 L.nd xc2) (.slice xa3 L.nu xc3) g → g ≠ b1 := fun g h => by have := (LW.out.lt g h).2; exact (by omega)
      have CWb : ∀ g, rb (.slice xa4 N xc4) = some g → g ≠ b1 := fun g h => by have := (CW.out.lt g h).2; exact (by omega)
      replace LW := hide (LW.out.mv m7 (fun _ _ h => h))
      replace CW := hide (CW.out.mv m7 (fun _ _ h => h))
      clear hb1
      refine ss6 (.int .i64 L.base) (.slice xa0 L.nw xc0) (.int .i64 L.want) (.slice xa1 L.ng xc1) (.slice xa2 L.nd xc2) (.slice xa3 L.nu xc3) bx1 fun V8 m8 bx1 => ?_
      replace LW := hide (LW.out.mv m8 (fun g hg h => LWb g hg h))
      replace CW := hide (CW.out.mv m8 (fun g hg h => CWb g hg h))
      refine sv (.slice xa4 N xc4) ?_
      refine nt (h11 _ _ (sk fun K12 h12 => rl ?_)); clear h11 K11
      replace HB := Xhb (Xhn (Xhn HB m6) m7) m8; replace bx0 := Xbb (Xbn bx0 m7) m8
      have HB8 : Hid (Mv nob V8 V8) := hide (Mv.refl _ _)
      have l28 : b1 < V8.heap.size := lt_of_block bx1.out
      clear LWb CWb hspec
      refine sl6 bx0 ?_
      have z8 := HB8.out.size
      refine sw_call (by rfl) (by first | rfl | (go_simp; done)) (toLink_any _ _ _ _ p V8 (ha0.out.below HB.out.below) hsm) ?_
      rintro e V9 ⟨gw, gg, gd, gu, rfl, LO2, hbl⟩
      have m9 : Mv (nob) V8 V9 := Mv.of_below hbl
      refine ⟨_, rfl, ?_⟩
      refine pt ?_
      have LX := hide LO2
      have HB9 : Hid (Mv nob V9 V9) := hide (Mv.refl _ _)
      have lw9 := LO2.lw
      have hi9 := LO2.hi
      clear LO2 hbl
      replace bx1 := Xbn bx1 m9
      refine sbp #[.int .i64 0, .slice none 0 0, .int .i64 0, .slice none 0 0, .slice none 0 0, .slice none 0 0] 30 fun V10 b2 hb2 m10 bx2 => ?_
      have o1_2 := Xlo bx1 hb2
      replace HB8 := Xhn HB8 m9
      have a8_b2 := Xhs HB8 hb2
      have a9_b2 := Xhs HB9 hb2
      clear hb2
      refine ss6 (.int .i64 p.base) (sln gw p.nw) (.int .i64 p.want) (sln gg p.ng) (sln gd p.nd) (sln gu p.nu) bx2 fun V11 m11 bx2 => ?_
      refine nt (h12 _ _ (sk fun K13 h13 => rl ?_)); clear h12 K12
      refine sv (.slice sa n sc) ?_
      have l3R := lt_of_block bx2.out
      replace HB8 := Xhb (Xhn HB8 m10) m11
      have z8 := HB8.out.size
      replace HB9 := Xhb (Xhn HB9 m10) m11
      have z9 := HB9.out.size
      replace HB := Xhb (Xhn (Xhn HB m9) m10) m11
      refine sw_call (by rfl) (by first | rfl | (go_simp; done)) (toLActs_any (.slice sa n sc) n s V11 (hr0.out.below HB.out.below) hn1) ?_
      rintro e V12 ⟨gx, rfl, hxl, CX0, hbl⟩
      have m12 : Mv (nob) V11 V12 := Mv.of_below hbl
      refine ⟨_, rfl, ?_⟩
      refine pt ?_
      have CX := hide CX0
      have HBa : Hid (Mv nob V12 V12) := hide (Mv.refl _ _)
      have hxb : b2 < gx := by omega
      have gx8 : V8.heap.size ≤ gx := by omega
      have gxl := (show Wc _ gx (n * 4) from let ⟨cur, h1, h2, h3⟩ := CX0; ⟨cur, _, h1, by omega⟩).lt
      clear CX0 hbl hxl
      refine sv (.slice (some ⟨gx, 0, none⟩) n n) ?_
      refine nt (h13 _ _ (sk fun K14 h14 => rl ?_)); clear h13 K13
      replace bx0 := Xbn (Xbb (Xbn (Xbn bx0 m9) m10) m11) m12; replace bx1 := Xbn (Xbb (Xbn bx1 m10) m11) m12; replace HB := Xhn HB m12; replace HB8 := Xhn HB8 m12; replace HB9 := Xhn HB9 m12; replace bx2 := Xbn bx2 m12
      refine sl6 bx2 ?_
      refine sv (.slice (some ⟨gx, 0, none⟩) n n) ?_
      have szV := HB.out.size
      refine sw_call (by rfl) (by first | rfl | (go_simp; done)) (himpl V12 _ _ _ _ _ (LX.out.below HB9.out.below).la hsm (CX.out.below HBa.out.below).sg) ?_
      rintro e V13 ⟨qa_, qb_, qc_, qd_, qe_, rfl, LQ, RQ, hap, hbl⟩
      have m13 : Mv (nob) V12 V13 := Mv.of_below hbl
      refine ⟨_, rfl, ?_⟩
      refine pt ?_
      obtain ⟨ya0, yc0, rfl, _⟩ := LQ.wa.form
      obtain ⟨ya1, yc1, rfl, _⟩ := LQ.go.form
      obtain ⟨ya2, yc2, rfl, _⟩ := LQ.dn.form
      obtain ⟨ya3, yc3, rfl, _⟩ := LQ.up.form
      obtain ⟨ya4, yc4, rfl, _⟩ := RQ.form
      have LG := hide (LQ.lower (Nat.zero_le _))
      have CG := hide (RQ.base (Nat.zero_le _))
      have LGl : ∀ g, Lrb (.slice ya0 L.nw yc0) (.slice ya1 L.ng yc1) (.slice ya2 L.nd yc2) (.slice ya3 L.nu yc3) g → V12.heap.size ≤ g := fun g h => (LQ.lt g h).1
      have CGl : ∀ g, rb (.slice ya4 N yc4) = some g → V12.heap.size ≤ g := fun g h => (RQ.lt g h).1
      have AC := hap
      replace HBa := Xhn HBa m13
      have za := HBa.out.size
      clear hap
      clear LQ RQ hbl szV
      refine sv (.tuple #[.agg #[.int .i64 L.base, .slice ya0 L.nw yc0, .int .i64 L.want, .slice ya1 L.ng yc1, .slice ya2 L.nd yc2, .slice ya3 L.nu yc3], .slice ya4 N yc4]) ?_
      refine sv (.agg #[.int .i64 L.base, .slice ya0 L.nw yc0, .int .i64 L.want, .slice ya1 L.ng yc1, .slice ya2 L.nd yc2, .slice ya3 L.nu yc3]) ?_
      refine sv (.slice ya4 N yc4) ?_
      replace bx2 := Xbn bx2 m13
      refine sbp #[.int .i64 0, .slice none 0 0, .int .i64 0, .slice none 0 0, .slice none 0 0, .slice none 0 0] 30 fun V14 b3 hb3 m14 bx3 => ?_
      have o2_3 := Xlo bx2 hb3
      have LGb : ∀ g, Lrb (.slice ya0 L.nw yc0) (.slice ya1 L.ng yc1) (.slice ya2 L.nd yc2) (.slice ya3 L.nu yc3) g → b2 < g ∧ gx < g ∧ V8.heap.size ≤ g ∧ g ≠ b3 := fun g h => by have := LGl g h; have := (LG.out.lt g h).2; exact (by omega)
      have CGb : ∀ g, rb (.slice ya4 N yc4) = some g → b2 < g ∧ gx < g ∧ V8.heap.size ≤ g ∧ g ≠ b3 := fun g h => by have := CGl g h; have := (CG.out.lt g h).2; exact (by omega)
      have gx3 : gx < b3 := by omega
      have aa_b3 := Xhs HBa hb3
      replace LG := hide (LG.out.mv m14 (fun _ _ h => h))
      replace CG := hide (CG.out.mv m14 (fun _ _ h => h))
      clear hb3
      refine ss6 (.int .i64 L.base) (.slice ya0 L.nw yc0) (.int .i64 L.want) (.slice ya1 L.ng yc1) (.slice ya2 L.nd yc2) (.slice ya3 L.nu yc3) bx3 fun V15 m15 bx3 => ?_
      replace LG := hide (LG.out.mv m15 (fun g hg h => by have h : g = b3 := h; have := LGb g hg; omega))
      replace CG := hide (CG.out.mv m15 (fun g hg h => by have h : g = b3 := h; have := CGb g hg; omega))
      refine sv (.slice ya4 N yc4) ?_
      refine nt (h14 _ _ (sk fun K15 h15 => sk fun K16 h16 => rl ?_)); clear h14 K14
      refine sl6 bx3 ?_
      replace bx1 := Xbb (Xbn (Xbn bx1 m13) m14) m15
      refine sl6 bx1 ?_
      replace HB8 := Xhb (Xhn (Xhn HB8 m13) m14) m15
      refine sw_call (by rfl) (by first | rfl | (go_simp; done)) (eqLink_same _ _ _ _ _ _ _ _ L V15 LG.out.lv (LW.out.mv HB8.out (fun _ _ h => h)).lv hsz.out.1) ?_
      rintro e V16 ⟨rfl, hbl⟩
      have m16 : Mv (nob) V15 V16 := Mv.of_below hbl
      refine ⟨_, rfl, ?_⟩
      refine pt ?_
      replace LG := hide (LG.out.mv m16 (fun _ _ h => h))
      replace CG := hide (CG.out.mv m16 (fun _ _ h => h))
      clear hbl
      refine sg (.bool false) ?_
      refine sv (.bool false) ?_
      refine sv (.slice ya4 N yc4) ?_
      refine sv (.slice xa4 N xc4) ?_
      replace HB8 := Xhn HB8 m16
      refine sw_call (by rfl) (by first | rfl | (go_simp; done)) (eqInts_same _ _ N C V16 CG.out.sg (CW.out.mv HB8.out (fun _ _ h => h)).sg hN1) ?_
      rintro e V17 ⟨rfl, hbl⟩
      have m17 : Mv (nob) V16 V17 := Mv.of_below hbl
      refine ⟨_, rfl, ?_⟩
      refine pt ?_
      replace LG := hide (LG.out.mv m17 (fun _ _ h => h))
      replace CG := hide (CG.out.mv m17 (fun _ _ h => h))
      clear hbl
      refine sg (.bool false) ?_
      refine sg (.bool false) ?_
      refine nt (h16 _ _ (cf (wp_skip (then_normal (h15 _ _ (sk fun K17 h17 => sk fun K18 h18 => ?_)))))); clear h16 K16; clear h15 K15
      refine wp_region_but (z := 999) (S := fun w' => Mv (nob) V17.drew w') (by kernel_rfl) (Mv.refl _ _) (fun hS => ?_)
      have m18 : Mv nob V17 V17.drew := Mv.drew _
      obtain ⟨V18, hN⟩ : ∃ V, V17.drew = V := ⟨_, rfl⟩
      rw [hN] at hS m18 ⊢
      clear hN
      replace LG := hide (LG.out.mv m18 (fun _ _ h => h))
      replace CG := hide (CG.out.mv m18 (fun _ _ h => h))
      replace bx0 := Xbn (Xbn (Xbn (Xbb (Xbn (Xbn bx0 m13) m14) m15) m16) m17) m18; replace bx2 := Xbn (Xbn (Xbn (Xbb (Xbn bx2 m14) m15) m16) m17) m18
      have rbx0 := bx0; have rbx2 := bx2
      refine tk 0 (.agg #[.int .i64 p.base, sln gw p.nw, .int .i64 p.want, sln gg p.ng, sln gd p.nd, sln gu p.nu]) rfl (fun w' hSw => by (try dsimp only at hSw); have z0 := cell_box 0 (hSw.box rbx2.out (fun h => h)) rfl; have z1 := cell_box 1 (hSw.box rbx2.out (fun h => h)) rfl; have z2 := cell_box 2 (hSw.box rbx2.out (fun h => h)) rfl; have z3 := cell_box 3 (hSw.box rbx2.out (fun h => h)) rfl; have z4 := cell_box 4 (hSw.box rbx2.out (fun h => h)) rfl; have z5 := cell_box 5 (hSw.box rbx2.out (fun h => h)) rfl; go_simp) ?_
      refine tk 1 (.agg #[.int .i64 p.base, .slice wa p.nw wc, .int .i64 p.want, .slice ga p.ng gc, .slice da p.nd dc, .slice ua p.nu uc]) rfl (fun w' hSw => by (try dsimp only at hSw); have z0 := cell_box 0 (hSw.box rbx0.out (fun h => h)) rfl; have z1 := cell_box 1 (hSw.box rbx0.out (fun h => h)) rfl; have z2 := cell_box 2 (hSw.box rbx0.out (fun h => h)) rfl; have z3 := cell_box 3 (hSw.box rbx0.out (fun h => h)) rfl; have z4 := cell_box 4 (hSw.box rbx0.out (fun h => h)) rfl; have z5 := cell_box 5 (hSw.box rbx0.out (fun h => h)) rfl; go_simp) ?_
      replace HB := Xhn (Xhn (Xhn (Xhb (Xhn (Xhn HB m13) m14) m15) m16) m17) m18
      refine kd_call (i := 2) (by kernel_rfl) rfl (by rfl) (by first | rfl | (go_simp; done)) (toLink_any _ _ _ _ p V18 (ha0.out.below HB.out.below) hsm) ?_
      rintro e V19 ⟨tw, tg, td, tu, rfl, LO1, hbl⟩
      have m19 : Mv (nob) V18 V19 := Mv.of_below hbl
      replace hS := hS.step m19 (fun _ _ h => h.elim)
      refine ⟨_, rfl, fun _ => hS, ?_⟩
      refine ptk ?_
      replace LG := hide (LG.out.mv m19 (fun _ _ h => h))
      replace CG := hide (CG.out.mv m19 (fun _ _ h => h))
      have LT3 := hide LO1.la
      clear LO1 hbl
      replace HB9 := Xhn (Xhn (Xhn (Xhn (Xhb (Xhn (Xhn HB9 m13) m14) m15) m16) m17) m18) m19
      refine kd_call (i := 3) (by kernel_rfl) rfl (by rfl) (by first | rfl | (go_simp; done)) (eqLink_same _ _ _ _ _ _ _ _ p V19 (LX.out.below HB9.out.below).lv LT3.out.lv hsm) ?_
      rintro e V20 ⟨rfl, hbl⟩
      have m20 : Mv (nob) V19 V20 := Mv.of_below hbl
      replace hS := hS.step m20 (fun _ _ h => h.elim)
      refine ⟨_, rfl, fun _ => hS, ?_⟩
      refine ptk ?_
      replace LG := hide (LG.out.mv m20 (fun _ _ h => h))
      replace CG := hide (CG.out.mv m20 (fun _ _ h => h))
      replace LT3 := hide (LT3.out.below (m20).below)
      clear hbl
      refine tk0 4 (.bool false) rfl ?_
      refine wpAnyK_done (by kernel_rfl) ?_
      clear hS rbx0 rbx2
      refine then_normal (h18 _ _ (cf (wp_skip (then_normal (h17 _ _ (sk fun K19 h19 => sk fun K20 h20 => rl ?_)))))); clear h18 K18; clear h17 K17
      clear LT3
      refine sv (.slice (some ⟨gx, 0, none⟩) n n) ?_
      refine sv (.slice sa n sc) ?_
      replace HB := Xhn (Xhn HB m19) m20
      refine sw_call (by rfl) (by first | rfl | (go_simp; done)) (toLActs_any (.slice sa n sc) n s V20 (hr0.out.below HB.out.below) hn1) ?_
      rintro e V21 ⟨gz, rfl, hyl, CY, hbl⟩
      have m21 : Mv (nob) V20 V21 := Mv.of_below hbl
      refine ⟨_, rfl, ?_⟩
      refine pt ?_
      replace LG := hide (LG.out.mv m21 (fun _ _ h => h))
      replace CG := hide (CG.out.mv m21 (fun _ _ h => h))
      have SB := hide CY.sg
      clear CY hyl hbl
      replace HBa := Xhn (Xhn (Xhn (Xhn (Xhn (Xhn (Xhb (Xhn HBa m14) m15) m16) m17) m18) m19) m20) m21
      refine sw_call (by rfl) (by first | rfl | (go_simp; done)) (eqLActs_same _ _ n s V21 (CX.out.below HBa.out.below).sg SB.out hn1) ?_
      rintro e V22 ⟨rfl, hbl⟩
      have m22 : Mv (nob) V21 V22 := Mv.of_below hbl
      refine ⟨_, rfl, ?_⟩
      refine pt ?_
      replace LG := hide (LG.out.mv m22 (fun _ _ h => h))
      replace CG := hide (CG.out.mv m22 (fun _ _ h => h))
      replace SB := hide (SB.out.below (m22).below)
      clear hbl
      refine sg (.bool false) ?_
      refine nt (h20 _ _ (cf (wp_skip (then_normal (h19 _ _ (sk fun K21 h21 => rl ?_)))))); clear h20 K20; clear h19 K19
      clear SB
      refine sv (.int .i64 1) ?_
      refine nt (h21 _ _ (sk fun K22 h22 => rl ?_)); clear h21 K21
      replace bx2 := Xbn (Xbn (Xbn (Xbn bx2 m19) m20) m21) m22
      refine sl6 bx2 ?_
      refine sv (.int .i64 1) ?_
      have LTm : ∀ g, (g = gw ∨ g = gg ∨ g = gd ∨ g = gu) → b1 < g ∧ g < b2 ∧ V8.heap.size ≤ g := fun g h => by omega
      replace HBa := Xhn HBa m22
      have GW0 := (show Wc _ gx (n * 4) from let ⟨cur, h1, h2, h3⟩ := (CX.out.below HBa.out.below); ⟨cur, _, h1, by omega⟩)
      replace HB9 := Xhn (Xhn (Xhn HB9 m20) m21) m22
      refine sw_call (by rfl) (by first | rfl | (go_simp; done)) (markLink_lo gw gg gd gu p 1 _ V22 (LX.out.below HB9.out.below) hsm.four (by decide) (by decide)) ?_
      rintro e V23 ⟨rfl, mm⟩
      have m23 : Mv (fun g => g = gw ∨ g = gg ∨ g = gd ∨ g = gu) V22 V23 := mm
      refine ⟨_, rfl, ?_⟩
      refine pt ?_
      replace HB := Xhn (Xhn HB m21) m22
      replace HB := hide (HB.out.step m23 (fun g hlt h => by have := LTm g h; exfalso; omega))
      replace bx0 := Xbn (Xbn (Xbn (Xbn bx0 m19) m20) m21) m22
      replace bx0 := hide (m23.box bx0.out (fun h => by have := LTm _ h; omega))
      replace bx1 := Xbn (Xbn (Xbn (Xbn (Xbn (Xbn (Xbn bx1 m16) m17) m18) m19) m20) m21) m22
      replace bx1 := hide (m23.box bx1.out (fun h => by have := LTm _ h; omega))
      replace HB8 := Xhn (Xhn (Xhn (Xhn (Xhn (Xhn HB8 m17) m18) m19) m20) m21) m22
      replace HB8 := hide (HB8.out.step m23 (fun g hlt h => by have := LTm g h; exfalso; omega))
      replace bx2 := hide (m23.box bx2.out (fun h => by have := LTm _ h; omega))
      replace LG := hide (LG.out.mv m23 (fun g hg h => by have := LTm g h; have := LGb g hg; omega))
      replace CG := hide (CG.out.mv m23 (fun g hg h => by have := LTm g h; have := CGb g hg; omega))
      replace bx3 := Xbn (Xbn (Xbn (Xbn (Xbn (Xbn (Xbn bx3 m16) m17) m18) m19) m20) m21) m22
      replace bx3 := hide (m23.box bx3.out (fun h => by have := LTm _ h; omega))
      have GW : Hid (Wc V23 gx (n * 4)) := hide (let ⟨cur, T, h1, h2⟩ := GW0; ⟨cur, T, mm.box h1 (fun h => by have := LTm gx h; omega), h2⟩)
      clear mm LTm HB9 HBa LX CX GW0
      refine sv (.int .i64 (mkE p 1)) ?_
      refine nt (h22 _ _ (sk fun K23 h23 => rl ?_)); clear h22 K22
      refine sv (.slice (some ⟨gx, 0, none⟩) n n) ?_
      refine sv (.int .i64 (mkE p 1)) ?_
      refine sw_call (by rfl) (by first | rfl | (go_simp; done)) (markLActs_w gx n (mkE p 1) V23 GW.out hn1 hk0 hk1) ?_
      rintro e V24 ⟨rfl, mm⟩
      have m24 : Mv (fun x => x = gx) V23 V24 := mm
      refine ⟨_, rfl, ?_⟩
      refine pt ?_
      replace LG := hide (LG.out.mv m24 (fun g hg h => by have h : g = gx := h; have := LGb g hg; omega))
      replace CG := hide (CG.out.mv m24 (fun g hg h => by have h : g = gx := h; have := CGb g hg; omega))
      clear GW mm
      refine sv (.int .i64 ((mkE p 1 + 4 * (n : Int)))) ?_
      refine nt (h23 _ _ (sk fun K24 h24 => sk fun K25 h25 => rl ?_)); clear h23 K23
      refine sv (.int .i64 ((mkE p 1 + 4 * (n : Int)))) ?_
      refine sg (.bool false) (h := by have h0 := hm0; go_simp) ?_
      refine sv (.bool false) ?_
      replace bx3 := Xbb bx3 m24
      refine sl6 bx3 ?_
      replace bx1 := Xbb bx1 m24
      refine sl6 bx1 ?_
      replace HB8 := Xhb HB8 m24
      refine sw_call (by rfl) (by first | rfl | (go_simp; done)) (eqLink_same _ _ _ _ _ _ _ _ L V24 LG.out.lv (LW.out.mv HB8.out (fun _ _ h => h)).lv hsz.out.1) ?_
      rintro e V25 ⟨rfl, hbl⟩
      have m25 : Mv (nob) V24 V25 := Mv.of_below hbl
      refine ⟨_, rfl, ?_⟩
      refine pt ?_
      replace LG := hide (LG.out.mv m25 (fun _ _ h => h))
      replace CG := hide (CG.out.mv m25 (fun _ _ h => h))
      clear hbl
      refine sg (.bool false) ?_
      refine sg (.bool false) ?_
      refine sv (.bool false) ?_
      refine sv (.slice ya4 N yc4) ?_
      refine sv (.slice xa4 N xc4) ?_
      replace HB8 := Xhn HB8 m25
      refine sw_call (by rfl) (by first | rfl | (go_simp; done)) (eqInts_same _ _ N C V25 CG.out.sg (CW.out.mv HB8.out (fun _ _ h => h)).sg hN1) ?_
      rintro e V26 ⟨rfl, hbl⟩
      have m26 : Mv (nob) V25 V26 := Mv.of_below hbl
      refine ⟨_, rfl, ?_⟩
      refine pt ?_
      replace LG := hide (LG.out.mv m26 (fun _ _ h => h))
      replace CG := hide (CG.out.mv m26 (fun _ _ h => h))
      clear hbl
      refine sg (.bool false) ?_
      refine sg (.bool false) ?_
      refine nt (h25 _ _ (cf (wp_skip (then_normal (h24 _ _ (sk fun K26 h26 => rl ?_)))))); clear h25 K25; clear h24 K24
      refine sv (.int .i64 1) ?_
      refine nt (h26 _ _ (sk fun K27 h27 => rl ?_)); clear h26 K26
      replace bx3 := Xbn (Xbn bx3 m25) m26
      refine sl6 bx3 ?_
      refine sv (.int .i64 1) ?_
      have LTm : ∀ g, Lrb (.slice ya0 L.nw yc0) (.slice ya1 L.ng yc1) (.slice ya2 L.nd yc2) (.slice ya3 L.nu yc3) g → b2 < g ∧ g ≠ b3 ∧ V8.heap.size ≤ g := fun g h => by have := LGb g h; exact (by omega)
      refine sw_call (by rfl) (by first | rfl | (go_simp; done)) (markLink_lr _ _ _ _ L 1 _ V26 LG.out hsz.out.1.four (by decide) (by decide)) ?_
      rintro e V27 ⟨rfl, mm, LM0⟩
      have m27 : Mv (Lrb (.slice ya0 L.nw yc0) (.slice ya1 L.ng yc1) (.slice ya2 L.nd yc2) (.slice ya3 L.nu yc3)) V26 V27 := mm
      refine ⟨_, rfl, ?_⟩
      refine pt ?_
      replace HB := Xhn (Xhn (Xhb HB m24) m25) m26
      replace HB := hide (HB.out.step m27 (fun g hlt h => by have := LTm g h; exfalso; omega))
      replace bx0 := Xbn (Xbn (Xbb bx0 m24) m25) m26
      replace bx0 := hide (m27.box bx0.out (fun h => by have := LTm _ h; omega))
      replace bx1 := Xbn (Xbn bx1 m25) m26
      replace bx1 := hide (m27.box bx1.out (fun h => by have := LTm _ h; omega))
      replace HB8 := Xhn HB8 m26
      replace HB8 := hide (HB8.out.step m27 (fun g hlt h => by have := LTm g h; exfalso; omega))
      replace bx2 := Xbn (Xbn (Xbb bx2 m24) m25) m26
      replace bx2 := hide (m27.box bx2.out (fun h => by have := LTm _ h; omega))
      replace CG := hide (CG.out.mv m27 (fun g hg h => AC g hg h))
      replace bx3 := hide (m27.box bx3.out (fun h => by have := LTm _ h; omega))
      have LM := hide LM0
      clear LG LM0 mm LTm
      refine sv (.int .i64 (mkE L 1)) ?_
      refine nt (h27 _ _ (sk fun K28 h28 => rl ?_)); clear h27 K27
      refine sv (.slice ya4 N yc4) ?_
      refine sv (.int .i64 (mkE L 1)) ?_
      have LTm : ∀ g, rb (.slice ya4 N yc4) = some g → b2 < g ∧ g ≠ b3 ∧ V8.heap.size ≤ g := fun g h => by have := CGb g h; exact (by omega)
      refine sw_call (by rfl) (by first | rfl | (go_simp; done)) (markI_rg _ N _ C (mkE L 1) _ V27 CG.out hN1 hk2 hk3) ?_
      rintro e V28 ⟨rfl, mm, CM0⟩
      have m28 : Mv (fun g => rb (.slice ya4 N yc4) = some g) V27 V28 := mm
      refine ⟨_, rfl, ?_⟩
      refine pt ?_
      replace HB := hide (HB.out.step m28 (fun g hlt h => by have := LTm g h; exfalso; omega))
      replace bx0 := hide (m28.box bx0.out (fun h => by have := LTm _ h; omega))
      replace bx1 := hide (m28.box bx1.out (fun h => by have := LTm _ h; omega))
      replace HB8 := hide (HB8.out.step m28 (fun g hlt h => by have := LTm g h; exfalso; omega))
      replace bx2 := hide (m28.box bx2.out (fun h => by have := LTm _ h; omega))
      replace bx3 := hide (m28.box bx3.out (fun h => by have := LTm _ h; omega))
      replace LM := hide (LM.out.mv m28 (fun g hg h => AC g h hg))
      have CM := hide CM0
      clear CG CM0 mm LTm
      refine sv (.int .i64 ((mkE L 1 + (N : Int)))) ?_
      refine nt (h28 _ _ (sk fun K29 h29 => rl ?_)); clear h28 K28
      refine sv (.int .i64 1) ?_
      refine nt (h29 _ _ (sk fun K30 h30 => rl ?_)); clear h29 K29
      refine sl6 bx3 ?_
      refine sv (.int .i64 1) ?_
      refine sw_call (by rfl) (by first | rfl | (go_simp; done)) (heldLink_lr _ _ _ _ L 1 V28 LM.out.lv hsz.out.1.four (by decide) (by decide)) ?_
      rintro e V29 ⟨rfl, hbl⟩
      have m29 : Mv (nob) V28 V29 := Mv.of_below hbl
      refine ⟨_, rfl, ?_⟩
      refine pt ?_
      replace LM := hide (LM.out.mv m29 (fun _ _ h => h))
      replace CM := hide (CM.out.mv m29 (fun _ _ h => h))
      clear hbl
      refine sv (.int .i64 (mkE L 1)) ?_
      refine nt (h30 _ _ (sk fun K31 h31 => sk fun K32 h32 => rl ?_)); clear h30 K30
      refine sv (.int .i64 (mkE L 1)) ?_
      refine sg (.bool false) (h := by have h0 := hm1; go_simp) ?_
      refine nt (h32 _ _ (cf (wp_skip (then_normal (h31 _ _ (sk fun K33 h33 => rl ?_)))))); clear h32 K32; clear h31 K31
      refine sv (.slice ya4 N yc4) ?_
      refine sv (.int .i64 (mkE L 1)) ?_
      refine sw_call (by rfl) (by first | rfl | (go_simp; done)) (heldI_any _ N (mkE L 1) V29 hN1 hk2 hk3 CM.out.sg) ?_
      rintro e V30 ⟨rfl, hbl⟩
      have m30 : Mv (nob) V29 V30 := Mv.of_below hbl
      refine ⟨_, rfl, ?_⟩
      refine pt ?_
      replace LM := hide (LM.out.mv m30 (fun _ _ h => h))
      replace CM := hide (CM.out.mv m30 (fun _ _ h => h))
      clear hbl
      refine sv (.int .i64 ((mkE L 1 + (N : Int)))) ?_
      refine nt (h33 _ _ (sk fun K34 h34 => sk fun K35 h35 => rl ?_)); clear h33 K33
      refine sv (.int .i64 ((mkE L 1 + (N : Int)))) ?_
      refine sg (.bool false) (h := by have h0 := hm2; go_simp) ?_
      refine nt (h35 _ _ (cf (wp_skip (then_normal (h34 _ _ (sk fun K36 h36 => sk fun K37 h37 => rl ?_)))))); clear h35 K35; clear h34 K34
      refine sv (.int .i64 ((mkE L 1 + (N : Int)))) ?_
      refine sv (.int .i64 ((mkE L 1 + (N : Int)))) ?_
      refine sg (.bool false) ?_
      refine nt (h37 _ _ (cf (wp_skip (then_normal (h36 _ _ (sk fun K38 h38 => rl ?_)))))); clear h37 K37; clear h36 K36
      have LMlt := hide (fun g h => (LM.out.lt g h).2)
      have CMlt := hide (fun g h => (CM.out.lt g h).2)
      replace HB := Xhn (Xhn HB m29) m30; replace bx0 := Xbn (Xbn bx0 m29) m30; replace bx1 := Xbn (Xbn bx1 m29) m30; replace HB8 := Xhn (Xhn HB8 m29) m30; replace bx2 := Xbn (Xbn bx2 m29) m30; replace bx3 := Xbn (Xbn bx3 m29) m30
      have HB35 : Hid (Mv nob V30 V30) := hide (Mv.refl _ _)
      refine sl6 bx0 ?_
      refine sw_call (by rfl) (by first | rfl | (go_simp; done)) (toLink_any _ _ _ _ p V30 (ha0.out.below HB.out.below) hsm) ?_
      rintro e V31 ⟨uw, ug, ud, uu, rfl, LO1, hbl⟩
      have m31 : Mv (nob) V30 V31 := Mv.of_below hbl
      refine ⟨_, rfl, ?_⟩
      refine pt ?_
      replace LM := hide (LM.out.mv m31 (fun _ _ h => h))
      replace CM := hide (CM.out.mv m31 (fun _ _ h => h))
      have LA2 := hide LO1.la
      clear LO1 hbl
      refine sv (.slice sa n sc) ?_
      replace HB := Xhn HB m31
      refine sw_call (by rfl) (by first | rfl | (go_simp; done)) (toLActs_any (.slice sa n sc) n s V31 (hr0.out.below HB.out.below) hn1) ?_
      rintro e V32 ⟨gv2, rfl, hyl, CY, hbl⟩
      have m32 : Mv (nob) V31 V32 := Mv.of_below hbl
      refine ⟨_, rfl, ?_⟩
      refine pt ?_
      replace LM := hide (LM.out.mv m32 (fun _ _ h => h))
      replace CM := hide (CM.out.mv m32 (fun _ _ h => h))
      replace LA2 := hide (LA2.out.below (m32).below)
      have SA2 := hide CY.sg
      clear CY hyl hbl
      replace HB := Xhn HB m32
      have szV := HB.out.size
      refine sw_call (by rfl) (by first | rfl | (go_simp; done)) (himpl V32 _ _ _ _ _ LA2.out hsm SA2.out) ?_
      rintro e V33 ⟨qa_, qb_, qc_, qd_, qe_, rfl, LQ, RQ, hap, hbl⟩
      have m33 : Mv (nob) V32 V33 := Mv.of_below hbl
      refine ⟨_, rfl, ?_⟩
      refine pt ?_
      replace LM := hide (LM.out.mv m33 (fun _ _ h => h))
      replace CM := hide (CM.out.mv m33 (fun _ _ h => h))
      replace LA2 := hide (LA2.out.below (m33).below)
      replace SA2 := hide (SA2.out.below (m33).below)
      obtain ⟨ua0, uc0, rfl, _⟩ := LQ.wa.form
      obtain ⟨ua1, uc1, rfl, _⟩ := LQ.go.form
      obtain ⟨ua2, uc2, rfl, _⟩ := LQ.dn.form
      obtain ⟨ua3, uc3, rfl, _⟩ := LQ.up.form
      obtain ⟨ua4, uc4, rfl, _⟩ := RQ.form
      have LH := hide (LQ.lower (Nat.zero_le _))
      have CH := hide (RQ.base (Nat.zero_le _))
      clear LQ RQ hbl szV
      clear LA2 SA2
      clear hap
      refine sv (.tuple #[.agg #[.int .i64 L.base, .slice ua0 L.nw uc0, .int .i64 L.want, .slice ua1 L.ng uc1, .slice ua2 L.nd uc2, .slice ua3 L.nu uc3], .slice ua4 N uc4]) ?_
      refine sv (.agg #[.int .i64 L.base, .slice ua0 L.nw uc0, .int .i64 L.want, .slice ua1 L.ng uc1, .slice ua2 L.nd uc2, .slice ua3 L.nu uc3]) ?_
      refine sv (.slice ua4 N uc4) ?_
      replace bx3 := Xbn (Xbn (Xbn bx3 m31) m32) m33
      refine sbp #[.int .i64 0, .slice none 0 0, .int .i64 0, .slice none 0 0, .slice none 0 0, .slice none 0 0] 30 fun V34 b4 hb4 m34 bx4 => ?_
      have o3_4 := Xlo bx3 hb4
      replace HB35 := Xhn (Xhn (Xhn HB35 m31) m32) m33
      have a35_b4 := Xhs HB35 hb4
      have LHb : ∀ g, Lrb (.slice ua0 L.nw uc0) (.slice ua1 L.ng uc1) (.slice ua2 L.nd uc2) (.slice ua3 L.nu uc3) g → g ≠ b4 := fun g h => by have := (LH.out.lt g h).2; exact (by omega)
      have CHb : ∀ g, rb (.slice ua4 N uc4) = some g → g ≠ b4 := fun g h => by have := (CH.out.lt g h).2; exact (by omega)
      replace HB8 := Xhn (Xhn (Xhn HB8 m31) m32) m33
      have a8_b4 := Xhs HB8 hb4
      replace LM := hide (LM.out.mv m34 (fun _ _ h => h))
      replace CM := hide (CM.out.mv m34 (fun _ _ h => h))
      replace LH := hide (LH.out.mv m34 (fun _ _ h => h))
      replace CH := hide (CH.out.mv m34 (fun _ _ h => h))
      clear hb4
      refine ss6 (.int .i64 L.base) (.slice ua0 L.nw uc0) (.int .i64 L.want) (.slice ua1 L.ng uc1) (.slice ua2 L.nd uc2) (.slice ua3 L.nu uc3) bx4 fun V35 m35 bx4 => ?_
      replace LM := hide (LM.out.mv m35 (fun g hg h => by have h : g = b4 := h; have := LGb g hg; have := LMlt.out g hg; omega))
      replace CM := hide (CM.out.mv m35 (fun g hg h => by have h : g = b4 := h; have := CGb g hg; have := CMlt.out g hg; omega))
      replace LH := hide (LH.out.mv m35 (fun g hg h => LHb g hg h))
      replace CH := hide (CH.out.mv m35 (fun g hg h => CHb g hg h))
      refine sv (.slice ua4 N uc4) ?_
      refine nt (h38 _ _ (sk fun K39 h39 => sk fun K40 h40 => rl ?_)); clear h38 K38
      refine sl6 bx4 ?_
      replace bx1 := Xbb (Xbn (Xbn (Xbn (Xbn bx1 m31) m32) m33) m34) m35
      refine sl6 bx1 ?_
      replace HB8 := Xhb (Xhn HB8 m34) m35
      refine sw_call (by rfl) (by first | rfl | (go_simp; done)) (eqLink_same _ _ _ _ _ _ _ _ L V35 LH.out.lv (LW.out.mv HB8.out (fun _ _ h => h)).lv hsz.out.1) ?_
      rintro e V36 ⟨rfl, hbl⟩
      have m36 : Mv (nob) V35 V36 := Mv.of_below hbl
      refine ⟨_, rfl, ?_⟩
      refine pt ?_
      replace LM := hide (LM.out.mv m36 (fun _ _ h => h))
      replace CM := hide (CM.out.mv m36 (fun _ _ h => h))
      replace LH := hide (LH.out.mv m36 (fun _ _ h => h))
      replace CH := hide (CH.out.mv m36 (fun _ _ h => h))
      clear hbl
      refine sg (.bool false) ?_
      refine sv (.bool false) ?_
      refine sv (.slice ua4 N uc4) ?_
      refine sv (.slice xa4 N xc4) ?_
      replace HB8 := Xhn HB8 m36
      refine sw_call (by rfl) (by first | rfl | (go_simp; done)) (eqInts_same _ _ N C V36 CH.out.sg (CW.out.mv HB8.out (fun _ _ h => h)).sg hN1) ?_
      rintro e V37 ⟨rfl, hbl⟩
      have m37 : Mv (nob) V36 V37 := Mv.of_below hbl
      refine ⟨_, rfl, ?_⟩
      refine pt ?_
      replace LM := hide (LM.out.mv m37 (fun _ _ h => h))
      replace CM := hide (CM.out.mv m37 (fun _ _ h => h))
      replace LH := hide (LH.out.mv m37 (fun _ _ h => h))
      replace CH := hide (CH.out.mv m37 (fun _ _ h => h))
      clear hbl
      refine sg (.bool false) ?_
      refine sg (.bool false) ?_
      refine nt (h40 _ _ (cf (wp_skip (then_normal (h39 _ _ (sk fun K41 h41 => rl ?_)))))); clear h40 K40; clear h39 K39
      refine sv (.int .i64 1) ?_
      refine nt (h41 _ _ (sk fun K42 h42 => rl ?_)); clear h41 K41
      replace bx3 := Xbn (Xbn (Xbb (Xbn bx3 m34) m35) m36) m37
      refine sl6 bx3 ?_
      refine sv (.int .i64 1) ?_
      refine sw_call (by rfl) (by first | rfl | (go_simp; done)) (heldLink_lr _ _ _ _ L 1 V37 LM.out.lv hsz.out.1.four (by decide) (by decide)) ?_
      rintro e V38 ⟨rfl, hbl⟩
      have m38 : Mv (nob) V37 V38 := Mv.of_below hbl
      refine ⟨_, rfl, ?_⟩
      refine pt ?_
      replace LM := hide (LM.out.mv m38 (fun _ _ h => h))
      replace CM := hide (CM.out.mv m38 (fun _ _ h => h))
      replace LH := hide (LH.out.mv m38 (fun _ _ h => h))
      replace CH := hide (CH.out.mv m38 (fun _ _ h => h))
      clear hbl
      refine sv (.int .i64 (mkE L 1)) ?_
      refine nt (h42 _ _ (sk fun K43 h43 => sk fun K44 h44 => rl ?_)); clear h42 K42
      refine sv (.int .i64 (mkE L 1)) ?_
      refine sg (.bool false) (h := by have h0 := hm1; go_simp) ?_
      refine nt (h44 _ _ (cf (wp_skip (then_normal (h43 _ _ (sk fun K45 h45 => rl ?_)))))); clear h44 K44; clear h43 K43
      refine sv (.slice ya4 N yc4) ?_
      refine sv (.int .i64 (mkE L 1)) ?_
      refine sw_call (by rfl) (by first | rfl | (go_simp; done)) (heldI_any _ N (mkE L 1) V38 hN1 hk2 hk3 CM.out.sg) ?_
      rintro e V39 ⟨rfl, hbl⟩
      have m39 : Mv (nob) V38 V39 := Mv.of_below hbl
      refine ⟨_, rfl, ?_⟩
      refine pt ?_
      replace LM := hide (LM.out.mv m39 (fun _ _ h => h))
      replace CM := hide (CM.out.mv m39 (fun _ _ h => h))
      replace LH := hide (LH.out.mv m39 (fun _ _ h => h))
      replace CH := hide (CH.out.mv m39 (fun _ _ h => h))
      clear hbl
      refine sv (.int .i64 ((mkE L 1 + (N : Int)))) ?_
      refine nt (h45 _ _ (sk fun K46 h46 => sk fun K47 h47 => rl ?_)); clear h45 K45
      refine sv (.int .i64 ((mkE L 1 + (N : Int)))) ?_
      refine sg (.bool false) (h := by have h0 := hm2; go_simp) ?_
      refine nt (h47 _ _ (cf (wp_skip (then_normal (h46 _ _ (sk fun K48 h48 => sk fun K49 h49 => rl ?_)))))); clear h47 K47; clear h46 K46
      refine sv (.int .i64 ((mkE L 1 + (N : Int)))) ?_
      refine sv (.int .i64 ((mkE L 1 + (N : Int)))) ?_
      refine sg (.bool false) ?_
      refine nt (h49 _ _ (cf (wp_skip (then_normal (h48 _ _ (sk fun K50 h50 => rl ?_)))))); clear h49 K49; clear h48 K48
      refine sv (.bool true) ?_
      refine nt (h50 _ _ (wp_ret ?_)); clear h50 K50
      replace bx0 := Xbn (Xbn (Xbn (Xbn (Xbb (Xbn (Xbn (Xbn (Xbn bx0 m31) m32) m33) m34) m35) m36) m37) m38) m39; replace bx2 := Xbn (Xbn (Xbn (Xbn (Xbb (Xbn (Xbn (Xbn (Xbn bx2 m31) m32) m33) m34) m35) m36) m37) m38) m39; replace HB := Xhn (Xhn (Xhn (Xhn (Xhb (Xhn (Xhn HB m33) m34) m35) m36) m37) m38) m39
      replace HB35 := Xhn (Xhn (Xhn (Xhn (Xhb (Xhn HB35 m34) m35) m36) m37) m38) m39; replace bx1 := Xbn (Xbn (Xbn (Xbn bx1 m36) m37) m38) m39; replace bx4 := Xbn (Xbn (Xbn (Xbn bx4 m36) m37) m38) m39; replace HB8 := Xhn (Xhn (Xhn HB8 m37) m38) m39; replace bx3 := Xbn (Xbn bx3 m38) m39
      exact bodyPost_ret (v := .bool true) (by simp [results, Try.results5, go_sem]) rfl ⟨rfl, HB.out.below⟩

set_option maxRecDepth 100000 in
theorem lifted (os : Os) (started : os.Started) (H : Type) (enc : TypeId × Value → H) :
    ReturnsInHanded {} Try.checked os 5 .any (Rows.fnExactLinkPlaySpec.pre6 enc Try.prog Try.f5 Rows.fnExactLinkPlayRow.domain false) (Rows.fnExactLinkPlaySpec.post enc Try.prog Try.f5 false true false false) := by
  refine returnsInHanded_of_change (C := Try.checked) own started (by kernel_rfl) Try.func5
    (ChangeSpec.witness6 (enc := enc) (C := Try.checked) false ⟨#[], #[.agg #[.int .i64 0, .slice none 0 0, .int .i64 0, .slice none 0 0, .slice none 0 0, .slice none 0 0], .slice none 0 0], []⟩ 8 (by kernel_rfl) (by kernel_rfl) (by kernel_rfl) (by kernel_rfl)) ?_
  intro W base args ds gs before hval0 hW hcnd _
  have hval : ∀ (j : Nat) t v, Try.f5.params[j]? = some t → args[j]? = some v → Value.okWide Try.prog W .any base t v := hval0
  have hW' := hW
  obtain ⟨p, q, hA0, hV, rfl, hfz, hnd⟩ := hW
  have hA : DataW.TrodAll enc Try.prog W 0 (fun _ => true) true Try.f5.params.toList args.toList ds p := hA0
  rw [Try.params5] at hA hval
  obtain ⟨v0, vs0, d0, ds0, p0, q0, hargs, rfl, rfl, h0, r0⟩ := trodAll_cons hA
  obtain ⟨v1, vs1, d1, ds1, p1, q1, rfl, rfl, rfl, h1, r1⟩ := trodAll_cons r0
  obtain ⟨rfl, rfl, rfl⟩ := trodAll_nil r1
  obtain rfl : args = #[v0, v1] := by cases args; simp_all
  obtain ⟨rfl, rfl⟩ := trodVars_none hV
  have k0 := h0
  have lt0 : ∀ x ∈ p0, x.block < W.heap.size := by obtain ⟨m, hm⟩ := k0; exact DataW.trod_lt m _ _ _ hm
  obtain ⟨wv0, gv0, dv0, uv0, lk0, rfl, hc0, hl0⟩ := open_link (hval 0 25 v0 rfl rfl) h0
  have k1 := h1
  have lt1 : ∀ x ∈ p1, x.block < W.heap.size := by obtain ⟨m, hm⟩ := k1; exact DataW.trod_lt m _ _ _ hm
  obtain ⟨a1, len1, cap1, rfl⟩ := okWide_slice Try.underlying43 (hval 1 43 v1 rfl rfl)
  obtain ⟨s1, sr1, sn1, sl1⟩ : ∃ s, Sg W (.slice a1 len1 cap1) 4 len1 (aF s) ∧ len1 ≤ maxLen ∧ ∀ c, c < len1 → (s c).d.size ≤ maxLen := by
    obtain ⟨fuel, hf⟩ := h1
    obtain ⟨qa, qn, qc, f, e, hs, hn, hl⟩ := open_lacts hf
    simp [Value.cells] at e
    obtain ⟨rfl, rfl, rfl⟩ := e
    exact ⟨f, hs, hn, hl⟩
  clear hA0 hval0
  refine (walk wv0 gv0 dv0 uv0 lk0 a1 len1 cap1 s1 W hc0 hl0 sr1 (by unfold maxLen at sn1; omega) (fun c hc => by have := sl1 c hc; unfold maxLen at this; omega)).mono fun e W' ⟨he, bel⟩ => ?_
  subst he
  exact ⟨_, rfl, _, _, _, [], _, [], hW', trodAll_mk1 (shut_bool Try.underlying4 _), (trodAll_cons_mk (Below.trod laidOut (by kernel_rfl) (of_decide_eq_true (by kernel_rfl)) k0 bel lt0) (trodAll_cons_mk (Below.trod laidOut (by kernel_rfl) (of_decide_eq_true (by kernel_rfl)) k1 bel lt1) trodAll_mk0)), rfl, bel.frame _, fun h => by cases h⟩

theorem over : Rows.fnExactLinkPlayRow.holds Try.pinned (OpenSpec.ofChange Rows.fnExactLinkPlaySpec) :=
  OpenClaim.holds_of_wide 5 Try.f5 rfl rfl rfl rfl rfl rfl rfl ⟨rfl, rfl, rfl, rfl, rfl⟩ rfl rfl rfl rfl rfl (by kernel_rfl) Try.func5 (by kernel_rfl)
    (of_decide_eq_true (by kernel_rfl)) (by unfold Func.isWrapper; first | (rw [if_pos (by decide +kernel)]; kernel_rfl) | (rw [if_neg (by decide +kernel)]; exact ⟨rfl, rfl⟩))
    (fun os started H enc _ => lifted os started H enc)

theorem proved : Rows.FnExactLinkPlaySaid := over
end Go.Proofs.Ytnkocikbapbbmaa.fnExactLinkPlay

namespace Go.Proofs.Ytnkocikbapbbmaa
theorem fnExactLinkPlay_holds : Rows.FnExactLinkPlaySaid := fnExactLinkPlay.proved
end Go.Proofs.Ytnkocikbapbbmaa
