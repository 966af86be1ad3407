/- LeC -/
import Derived.Test.YtgflipkhhpkidaaYkOrder44
/- LinkDo of both sides (written by mkLeC.py) -/
namespace Go.Proofs.Ytgflipkhhpkidaa
open Go.RowKit
set_option linter.unusedVariables false
set_option linter.unusedSimpArgs false

/-- the link that has nothing -/
def zeL : Lk := ⟨0, 0, 0, 0, 0, 0, fun _ => ⟨#[]⟩, fun _ => ⟨#[]⟩, fun _ => ⟨#[]⟩, fun _ => false, fun _ => ⟨#[]⟩, fun _ => false⟩
def doL (p : Lk) (k z bit : Int) (body : ByteArray) : Lk := if lkB p then ldL p k z bit body else zeL
def doC (p : Lk) (k z bit : Int) (body : ByteArray) : Int := if lkB p then ldC p k z bit body else 1
theorem rg_nil (w : World) (base m : Nat) (f : Nat → Nat → Value) : Rg w base (.slice none 0 0) m 0 f := .inl ⟨⟨none, rfl⟩, rfl⟩
theorem zeL_lr (w : World) (base : Nat) : Lr w base (.slice none 0 0) (.slice none 0 0) (.slice none 0 0) (.slice none 0 0) zeL :=
  ⟨rg_nil _ _ _ _, rg_nil _ _ _ _, rg_nil _ _ _ _, rg_nil _ _ _ _, fun g e => absurd e (by simp [rb]), fun g e => absurd e (by simp [rb]), fun g e => absurd e (by simp [rb])⟩
theorem La.pl4 {w : World} {wv gv dv uv : Value} {p : Lk} (h : La w wv gv dv uv p) : Pl wv p.nw ∧ Pl gv p.ng ∧ Pl dv p.nd ∧ Pl uv p.nu := ⟨h.fw.pl, h.fg.pl, h.fd.pl, h.fu.pl⟩
abbrev DoP (w : World) (L : Lk) (C : Int) : Ending → World → Prop := fun e w' => ∃ wv gv dv uv, e = .returned (.tuple #[.agg (l6 L.base wv L.want gv dv uv), .int .i64 C]) ∧ Lr w' w.heap.size wv gv dv uv L ∧ Below w.heap.size w w'

set_option maxHeartbeats 8000000 in
set_option maxRecDepth 20000 in
theorem specLinkDo_any (p : Lk) (wv0 gv0 dv0 uv0 : Value) (w : World) (ha : La w wv0 gv0 dv0 uv0 p) (hsm : Lsm 1048576 p) (k z bit : Int) (body : ByteArray) :
    Calls Try.prog 10 #[.agg (l6 p.base wv0 p.want gv0 dv0 uv0), .agg (a4 k z bit body)] w (DoP w (doL p k z bit body) (doC p k z bit body)) := by
  have ha0 := hide ha
  clear ha
  cases hok : lkB p with
  | false =>
    rw [show doL p k z bit body = zeL from by simp [doL, hok], show doC p k z bit body = 1 from by simp [doC, hok]]
    have HB : Hid (Mv nob w w) := hide (Mv.refl _ _)
    go_enter Try.func10, Try.ntmps10
    refine sk fun K hK => rl ?_
    refine sbp #[.int .i64 p.base, wv0, .int .i64 p.want, gv0, dv0, uv0] 27 fun V1 b0 hb0 m1 bx0 => ?_
    have o_0 : w.heap.size ≤ b0 := by omega
    clear hb0
    refine sbp #[.int .i64 k, .int .i64 z, .int .i64 bit, .string body] 29 fun V2 b1 hb1 m2 bx1 => ?_
    have o0_1 := Xlo bx0 hb1; clear hb1
    refine sbp #[.int .i64 0, .slice none 0 0, .int .i64 0, .slice none 0 0, .slice none 0 0, .slice none 0 0] 27 fun V3 b2 hb2 m3 bx2 => ?_
    have o1_2 := Xlo bx1 hb2; clear hb2
    refine sv (.int .i64 0) ?_
    refine nt (hK _ _ ?_); clear hK K; refine sk fun K hK => sk fun K hK => rl ?_
    replace bx0 := Xbn (Xbn bx0 m2) m3; refine sl6 bx0 ?_
    replace HB := Xhn (Xhn (Xhn HB m1) m2) m3; refine sw_call (by rfl) (by first | rfl | (go_simp; done)) (specLinkOk_la false p wv0 gv0 dv0 uv0 V3 hok (ha0.out.below HB.out.below) hsm) ?_
    rintro e V4 ⟨rfl, hbV4⟩
    have m4 : Mv (nob) V3 V4 := Mv.of_below hbV4
    refine ⟨_, rfl, ?_⟩
    refine pt ?_
    clear hbV4
    refine sg (.bool true) ?_
    refine nt (hK _ _ ?_); clear hK K; refine ct (sk fun K hK => rl ?_)
    refine sv (.agg #[.int .i64 0, .slice none 0 0, .int .i64 0, .slice none 0 0, .slice none 0 0, .slice none 0 0]) ?_
    replace bx2 := Xbn bx2 m4; refine ss6 (.int .i64 0) (.slice none 0 0) (.int .i64 0) (.slice none 0 0) (.slice none 0 0) (.slice none 0 0) bx2 fun V5 m5 bx2 => ?_
    refine sv (.int .i64 1) ?_
    refine nt (hK _ _ ?_); clear hK K; refine wp_ret (then_ret ?_)
    try simp only [Exit.then, Exit.inBlock, ↓reduceIte, Nat.reduceEqDiff]
    obtain ⟨_, q2_0, q2_1, q2_2, q2_3, q2_4, q2_5⟩ := box6 bx2.out
    replace HB := Xhb (Xhn HB m4) m5; exact bodyPost_ret (v := .tuple #[.agg #[.int .i64 0, .slice none 0 0, .int .i64 0, .slice none 0 0, .slice none 0 0, .slice none 0 0], .int .i64 1]) (by simp [results, Try.results10, go_sem, q2_0, q2_1, q2_2, q2_3, q2_4, q2_5]) rfl ⟨_, _, _, _, rfl, zeL_lr _ _, HB.out.below⟩
  | true =>
    have hf := lk_iff.1 hok
    rw [show doL p k z bit body = ldL p k z bit body from by simp [doL, hok], show doC p k z bit body = ldC p k z bit body from by simp [doC, hok]]
    have hdo := fun V (h : La V wv0 gv0 dv0 uv0 p) => l8Do_any p wv0 gv0 dv0 uv0 V h k z bit body hf
    generalize ldL p k z bit body = L at hdo ⊢
    generalize ldC p k z bit body = C at hdo ⊢
    have HB : Hid (Mv nob w w) := hide (Mv.refl _ _)
    go_enter Try.func10, Try.ntmps10
    refine sk fun K hK => rl ?_
    refine sbp #[.int .i64 p.base, wv0, .int .i64 p.want, gv0, dv0, uv0] 27 fun V1 b0 hb0 m1 bx0 => ?_
    have o_0 : w.heap.size ≤ b0 := by omega
    clear hb0
    refine sbp #[.int .i64 k, .int .i64 z, .int .i64 bit, .string body] 29 fun V2 b1 hb1 m2 bx1 => ?_
    have o0_1 := Xlo bx0 hb1; clear hb1
    refine sbp #[.int .i64 0, .slice none 0 0, .int .i64 0, .slice none 0 0, .slice none 0 0, .slice none 0 0] 27 fun V3 b2 hb2 m3 bx2 => ?_
    have o1_2 := Xlo bx1 hb2; clear hb2
    refine sv (.int .i64 0) ?_
    refine nt (hK _ _ ?_); clear hK K; refine sk fun K hK => sk fun K hK => rl ?_
    replace bx0 := Xbn (Xbn bx0 m2) m3; refine sl6 bx0 ?_
    replace HB := Xhn (Xhn (Xhn HB m1) m2) m3; refine sw_call (by rfl) (by first | rfl | (go_simp; done)) (specLinkOk_la true p wv0 gv0 dv0 uv0 V3 hok (ha0.out.below HB.out.below) hsm) ?_
    rintro e V4 ⟨rfl, hbV4⟩
    have m4 : Mv (nob) V3 V4 := Mv.of_below hbV4
    refine ⟨_, rfl, ?_⟩
    refine pt ?_
    clear hbV4
    refine sg (.bool false) ?_
    refine nt (hK _ _ ?_); clear hK K; refine cf (wp_skip (then_normal (hK _ _ ?_))); clear hK K; refine sk fun K hK => rl ?_
    replace bx0 := Xbn bx0 m4; refine sl6 bx0 ?_
    replace bx1 := Xbn (Xbn bx1 m3) m4; refine sg (.agg #[.int .i64 k, .int .i64 z, .int .i64 bit, .string body]) (h := by have z0 := cell_box 0 (bx1.out) rfl; have z1 := cell_box 1 (bx1.out) rfl; have z2 := cell_box 2 (bx1.out) rfl; have z3 := cell_box 3 (bx1.out) rfl; go_simp) ?_
    replace bx2 := Xbn bx2 m4; have szb := lt_of_block bx2.out
    replace HB := Xhn HB m4; have szW := HB.out.size
    refine sw_call (by rfl) (by first | rfl | (go_simp; done)) (hdo V4 (ha0.out.below HB.out.below)) ?_
    rintro e V5 ⟨wv, gv, dv, uv, rfl, LQ, hbV5⟩
    have m5 : Mv (nob) V4 V5 := Mv.of_below hbV5
    refine ⟨_, rfl, ?_⟩
    refine pt ?_
    obtain ⟨xa, xc, rfl, _⟩ := LQ.wa.form
    obtain ⟨ya, yc, rfl, _⟩ := LQ.go.form
    obtain ⟨za, zc, rfl, _⟩ := LQ.dn.form
    obtain ⟨ta, tc, rfl, _⟩ := LQ.up.form
    have LN := hide (LQ.lower szW)
    have LB := hide (fun g h => (LQ.lt g h).1)
    clear LQ hbV5
    refine sv (.agg #[.int .i64 L.base, .slice xa L.nw xc, .int .i64 L.want, .slice ya L.ng yc, .slice za L.nd zc, .slice ta L.nu tc]) ?_
    refine sv (.int .i64 C) ?_
    replace bx2 := Xbn bx2 m5; refine ss6 (.int .i64 L.base) (.slice xa L.nw xc) (.int .i64 L.want) (.slice ya L.ng yc) (.slice za L.nd zc) (.slice ta L.nu tc) bx2 fun V6 m6 bx2 => ?_
    replace LN := hide (LN.out.mv m6 (fun g hg h => by have h : g = b2 := h; have := LB.out g hg; omega))
    refine sv (.int .i64 C) ?_
    refine nt (hK _ _ ?_); clear hK K; refine wp_ret ?_
    try simp only [Exit.then, Exit.inBlock, ↓reduceIte, Nat.reduceEqDiff]
    obtain ⟨_, q2_0, q2_1, q2_2, q2_3, q2_4, q2_5⟩ := box6 bx2.out
    replace HB := Xhb (Xhn HB m5) m6; exact bodyPost_ret (v := .tuple #[.agg #[.int .i64 L.base, .slice xa L.nw xc, .int .i64 L.want, .slice ya L.ng yc, .slice za L.nd zc, .slice ta L.nu tc], .int .i64 C]) (by simp [results, Try.results10, go_sem, q2_0, q2_1, q2_2, q2_3, q2_4, q2_5]) rfl ⟨_, _, _, _, rfl, LN.out, HB.out.below⟩

set_option maxHeartbeats 8000000 in
set_option maxRecDepth 20000 in
theorem implLinkDo_any (p : Lk) (wv0 gv0 dv0 uv0 : Value) (w : World) (ha : La w wv0 gv0 dv0 uv0 p) (hsm : Lsm 1048576 p) (k z bit : Int) (body : ByteArray) :
    Calls Try.prog 9 #[.agg (l6 p.base wv0 p.want gv0 dv0 uv0), .agg (a4 k z bit body)] w (DoP w (doL p k z bit body) (doC p k z bit body)) := by
  have ha0 := hide ha
  clear ha
  cases hok : lkB p with
  | false =>
    rw [show doL p k z bit body = zeL from by simp [doL, hok], show doC p k z bit body = 1 from by simp [doC, hok]]
    have HB : Hid (Mv nob w w) := hide (Mv.refl _ _)
    go_enter Try.func9, Try.ntmps9
    refine sk fun K hK => rl ?_
    refine sbp #[.int .i64 p.base, wv0, .int .i64 p.want, gv0, dv0, uv0] 27 fun V1 b0 hb0 m1 bx0 => ?_
    have o_0 : w.heap.size ≤ b0 := by omega
    clear hb0
    refine sbp #[.int .i64 k, .int .i64 z, .int .i64 bit, .string body] 29 fun V2 b1 hb1 m2 bx1 => ?_
    have o0_1 := Xlo bx0 hb1; clear hb1
    refine sbp #[.int .i64 0, .slice none 0 0, .int .i64 0, .slice none 0 0, .slice none 0 0, .slice none 0 0] 27 fun V3 b2 hb2 m3 bx2 => ?_
    have o1_2 := Xlo bx1 hb2; clear hb2
    refine sv (.int .i64 0) ?_
    refine nt (hK _ _ ?_); clear hK K; refine sk fun K hK => sk fun K hK => rl ?_
    replace bx0 := Xbn (Xbn bx0 m2) m3; refine sl6 bx0 ?_
    replace HB := Xhn (Xhn (Xhn HB m1) m2) m3; refine sw_call (by rfl) (by first | rfl | (go_simp; done)) (implLinkOk_la false p wv0 gv0 dv0 uv0 V3 hok (ha0.out.below HB.out.below) hsm) ?_
    rintro e V4 ⟨rfl, hbV4⟩
    have m4 : Mv (nob) V3 V4 := Mv.of_below hbV4
    refine ⟨_, rfl, ?_⟩
    refine pt ?_
    clear hbV4
    refine sg (.bool true) ?_
    refine nt (hK _ _ ?_); clear hK K; refine ct (sk fun K hK => rl ?_)
    refine sv (.agg #[.int .i64 0, .slice none 0 0, .int .i64 0, .slice none 0 0, .slice none 0 0, .slice none 0 0]) ?_
    replace bx2 := Xbn bx2 m4; refine ss6 (.int .i64 0) (.slice none 0 0) (.int .i64 0) (.slice none 0 0) (.slice none 0 0) (.slice none 0 0) bx2 fun V5 m5 bx2 => ?_
    refine sv (.int .i64 1) ?_
    refine nt (hK _ _ ?_); clear hK K; refine wp_ret (then_ret ?_)
    try simp only [Exit.then, Exit.inBlock, ↓reduceIte, Nat.reduceEqDiff]
    obtain ⟨_, q2_0, q2_1, q2_2, q2_3, q2_4, q2_5⟩ := box6 bx2.out
    replace HB := Xhb (Xhn HB m4) m5; exact bodyPost_ret (v := .tuple #[.agg #[.int .i64 0, .slice none 0 0, .int .i64 0, .slice none 0 0, .slice none 0 0, .slice none 0 0], .int .i64 1]) (by simp [results, Try.results9, go_sem, q2_0, q2_1, q2_2, q2_3, q2_4, q2_5]) rfl ⟨_, _, _, _, rfl, zeL_lr _ _, HB.out.below⟩
  | true =>
    have hf := lk_iff.1 hok
    rw [show doL p k z bit body = ldL p k z bit body from by simp [doL, hok], show doC p k z bit body = ldC p k z bit body from by simp [doC, hok]]
    have hdone := fun xa ya za ta xc yc zc tc base V h hle => linkDone_any p xa ya za ta xc yc zc tc base V h hle k z bit body hf
    generalize ldL p k z bit body = L at hdone ⊢
    generalize ldC p k z bit body = C at hdone ⊢
    have HB : Hid (Mv nob w w) := hide (Mv.refl _ _)
    go_enter Try.func9, Try.ntmps9
    refine sk fun K hK => rl ?_
    refine sbp #[.int .i64 p.base, wv0, .int .i64 p.want, gv0, dv0, uv0] 27 fun V1 b0 hb0 m1 bx0 => ?_
    have o_0 : w.heap.size ≤ b0 := by omega
    clear hb0
    refine sbp #[.int .i64 k, .int .i64 z, .int .i64 bit, .string body] 29 fun V2 b1 hb1 m2 bx1 => ?_
    have o0_1 := Xlo bx0 hb1; clear hb1
    refine sbp #[.int .i64 0, .slice none 0 0, .int .i64 0, .slice none 0 0, .slice none 0 0, .slice none 0 0] 27 fun V3 b2 hb2 m3 bx2 => ?_
    have o1_2 := Xlo bx1 hb2; clear hb2
    refine sv (.int .i64 0) ?_
    refine nt (hK _ _ ?_); clear hK K; refine sk fun K hK => sk fun K hK => rl ?_
    replace bx0 := Xbn (Xbn bx0 m2) m3; refine sl6 bx0 ?_
    replace HB := Xhn (Xhn (Xhn HB m1) m2) m3; refine sw_call (by rfl) (by first | rfl | (go_simp; done)) (implLinkOk_la true p wv0 gv0 dv0 uv0 V3 hok (ha0.out.below HB.out.below) hsm) ?_
    rintro e V4 ⟨rfl, hbV4⟩
    have m4 : Mv (nob) V3 V4 := Mv.of_below hbV4
    refine ⟨_, rfl, ?_⟩
    refine pt ?_
    clear hbV4
    refine sg (.bool false) ?_
    refine nt (hK _ _ ?_); clear hK K; refine cf (wp_skip (then_normal (hK _ _ ?_))); clear hK K; refine sk fun K hK => ?_
    have LTz : ∀ g, g = b2 → b0 < g ∧ b1 < g := fun g h => by omega
    refine wp_region_but (z := 999) (S := fun w' => Mv (fun g => g = b2) V4.drew w') (by kernel_rfl) (Mv.refl _ _) (fun hS => ?_)
    have m5 : Mv nob V4 V4.drew := Mv.drew _
    obtain ⟨V5, hV5⟩ : ∃ V, V4.drew = V := ⟨_, rfl⟩
    rw [hV5] at hS m5 ⊢
    clear hV5; replace bx0 := Xbn (Xbn bx0 m4) m5; have rbx0 := bx0; replace bx1 := Xbn (Xbn (Xbn bx1 m3) m4) m5; have rbx1 := bx1; replace bx2 := Xbn (Xbn bx2 m4) m5; have rbx2 := bx2
    refine tk 0 (.agg #[.int .i64 p.base, wv0, .int .i64 p.want, gv0, dv0, uv0]) rfl (fun w' hSw => by (try dsimp only at hSw); have z0 := cell_box 0 (hSw.box rbx0.out (fun h => by have := LTz _ h; omega)) rfl; have z1 := cell_box 1 (hSw.box rbx0.out (fun h => by have := LTz _ h; omega)) rfl; have z2 := cell_box 2 (hSw.box rbx0.out (fun h => by have := LTz _ h; omega)) rfl; have z3 := cell_box 3 (hSw.box rbx0.out (fun h => by have := LTz _ h; omega)) rfl; have z4 := cell_box 4 (hSw.box rbx0.out (fun h => by have := LTz _ h; omega)) rfl; have z5 := cell_box 5 (hSw.box rbx0.out (fun h => by have := LTz _ h; omega)) rfl; go_simp) ?_
    refine tk 2 (.agg #[.int .i64 k, .int .i64 z, .int .i64 bit, .string body]) rfl (fun w' hSw => by (try dsimp only at hSw); have z0 := cell_box 0 (hSw.box rbx1.out (fun h => by have := LTz _ h; omega)) rfl; have z1 := cell_box 1 (hSw.box rbx1.out (fun h => by have := LTz _ h; omega)) rfl; have z2 := cell_box 2 (hSw.box rbx1.out (fun h => by have := LTz _ h; omega)) rfl; have z3 := cell_box 3 (hSw.box rbx1.out (fun h => by have := LTz _ h; omega)) rfl; go_simp) ?_
    have szb := lt_of_block bx2.out
    replace HB := Xhn (Xhn HB m4) m5; have szW := HB.out.size
    have szR := hS.size
    refine kd_call (i := 1) (by kernel_rfl) rfl (by rfl) (by first | rfl | (go_simp; done)) (linkCopy_any wv0 gv0 dv0 uv0 p V5 (ha0.out.below HB.out.below).lv hsm ha0.out.pl4) ?_
    rintro e V6 ⟨wv, gv, dv, uv, rfl, LRa, hbV6⟩
    have m6 : Mv (nob) V5 V6 := Mv.of_below hbV6
    replace hS := hS.step m6 (fun _ _ h => h.elim)
    refine ⟨_, rfl, fun _ => hS, ?_⟩
    refine ptk ?_
    obtain ⟨xa0, xc0, rfl, _⟩ := LRa.wa.form
    obtain ⟨ya0, yc0, rfl, _⟩ := LRa.go.form
    obtain ⟨za0, zc0, rfl, _⟩ := LRa.dn.form
    obtain ⟨ta0, tc0, rfl, _⟩ := LRa.up.form
    have LC := hide LRa
    have LTm : ∀ g, Lrb (.slice xa0 p.nw xc0) (.slice ya0 p.ng yc0) (.slice za0 p.nd zc0) (.slice ta0 p.nu tc0) g → V5.heap.size ≤ g := fun g h => (LRa.lt g h).1
    have szV := hbV6.size
    clear LRa hbV6
    refine kd_call (i := 3) (by kernel_rfl) rfl (by rfl) (by first | rfl | (go_simp; done)) (hdone xa0 ya0 za0 ta0 xc0 yc0 zc0 tc0 _ V6 LC.out szV) ?_
    rintro e V7 ⟨wv, gv, dv, uv, rfl, mm, LQ, hnw⟩
    have m7 : Mv (Lrb (.slice xa0 p.nw xc0) (.slice ya0 p.ng yc0) (.slice za0 p.nd zc0) (.slice ta0 p.nu tc0)) V6 V7 := mm
    replace hS := hS.step m7 (fun g hlt h => by have := LTm g h; exfalso; omega)
    refine ⟨_, rfl, fun _ => hS, ?_⟩
    refine ptk ?_
    replace HB := Xhn HB m6; replace HB := hide (HB.out.step m7 (fun g hlt h => by have := LTm g h; exfalso; omega))
    replace bx0 := Xbn bx0 m6; replace bx0 := hide (m7.box bx0.out (fun h => by have := LTm _ h; omega))
    replace bx1 := Xbn bx1 m6; replace bx1 := hide (m7.box bx1.out (fun h => by have := LTm _ h; omega))
    replace bx2 := Xbn bx2 m6; replace bx2 := hide (m7.box bx2.out (fun h => by have := LTm _ h; omega))
    obtain ⟨xa, xc, rfl, _⟩ := LQ.wa.form
    obtain ⟨ya, yc, rfl, _⟩ := LQ.go.form
    obtain ⟨za, zc, rfl, _⟩ := LQ.dn.form
    obtain ⟨ta, tc, rfl, _⟩ := LQ.up.form
    have LN := hide (LQ.lower szW)
    have LB := hide (fun g h => (LQ.lt g h).1)
    clear LQ mm hnw
    refine tk0 4 (.agg #[.int .i64 L.base, .slice xa L.nw xc, .int .i64 L.want, .slice ya L.ng yc, .slice za L.nd zc, .slice ta L.nu tc]) rfl ?_
    refine tk0 5 (.int .i64 C) rfl ?_
    refine kd_skipI (i := 6) (w' := (((((V7.setCell ⟨b2, 0, none⟩ (.int .i64 L.base)).setCell ⟨b2, 1, none⟩ (.slice xa L.nw xc)).setCell ⟨b2, 2, none⟩ (.int .i64 L.want)).setCell ⟨b2, 3, none⟩ (.slice ya L.ng yc)).setCell ⟨b2, 4, none⟩ (.slice za L.nd zc)).setCell ⟨b2, 5, none⟩ (.slice ta L.nu tc)) (fun V => Mv (fun g => g = b2) V7 V ∧ V.heap[b2]? = some (.cells #[.int .i64 L.base, .slice xa L.nw xc, .int .i64 L.want, .slice ya L.ng yc, .slice za L.nd zc, .slice ta L.nu tc] 27 (0, 0))) (by kernel_rfl) rfl (by rfl) (by have fr := fun i => frozen_of_row _ _ i _ _ bx2.out; have z0 := cell_box 0 bx2.out rfl; have z1 := cell_box 1 bx2.out rfl; have z2 := cell_box 2 bx2.out rfl; have z3 := cell_box 3 bx2.out rfl; have z4 := cell_box 4 bx2.out rfl; have z5 := cell_box 5 bx2.out rfl; go_simp) ⟨Mv.set (Mv.set (Mv.set (Mv.set (Mv.set (Mv.set (Mv.refl _ _) _ _) _ _) _ _) _ _) _ _) _ _, (heap_setCell_same _ _ 5 _ _ _ (heap_setCell_same _ _ 4 _ _ _ (heap_setCell_same _ _ 3 _ _ _ (heap_setCell_same _ _ 2 _ _ _ (heap_setCell_same _ _ 1 _ _ _ (heap_setCell_same _ _ 0 _ _ _ (bx2.out))))))).trans rfl⟩ (fun V hI _ => hS.step hI.1 (fun g hg h => by first | exact h | (have h : g = b2 := h; exfalso; omega))) ?_
    rintro V8 ⟨m8, nxV8⟩
    refine ptk ?_
    replace LN := hide (LN.out.mv m8 (fun g hg h => by have h : g = b2 := h; have := LB.out g hg; omega))
    replace bx2 := hide nxV8
    clear nxV8
    replace hS := hS.step m8 (fun g hg h => by first | exact h | (have h : g = b2 := h; exfalso; omega))
    refine tk0 7 (.int .i64 C) rfl ?_
    refine wpAnyK_done (by kernel_rfl) ?_
    clear hS rbx0 rbx1 rbx2
    refine then_normal (hK _ _ ?_); clear hK K; refine wp_ret ?_
    try simp only [Exit.then, Exit.inBlock, ↓reduceIte, Nat.reduceEqDiff]
    obtain ⟨_, q2_0, q2_1, q2_2, q2_3, q2_4, q2_5⟩ := box6 bx2.out
    replace HB := Xhb HB m8; exact bodyPost_ret (v := .tuple #[.agg #[.int .i64 L.base, .slice xa L.nw xc, .int .i64 L.want, .slice ya L.ng yc, .slice za L.nd zc, .slice ta L.nu tc], .int .i64 C]) (by simp [results, Try.results9, go_sem, q2_0, q2_1, q2_2, q2_3, q2_4, q2_5]) rfl ⟨_, _, _, _, rfl, LN.out, HB.out.below⟩

end Go.Proofs.Ytgflipkhhpkidaa
