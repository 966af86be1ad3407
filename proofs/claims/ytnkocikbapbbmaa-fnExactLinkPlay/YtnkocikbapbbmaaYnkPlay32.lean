/- LdO -/
import Derived.Test.YtnkocikbapbbmaaYnkPlay23
/- impl.bitTurned; impl.come where no text is (written by mkLdO.py) -/
namespace Go.Proofs.Ytnkocikbapbbmaa
open Go.RowKit
set_option linter.unusedVariables false
set_option linter.unusedSimpArgs false

set_option maxHeartbeats 4000000 in
set_option maxRecDepth 20000 in
theorem bt_no_d (p : Lk) (wa ga da ua : Option Addr) (wc gc dc uc : Nat) (base : Nat) (w : World) (hr : Lr w base (.slice wa p.nw wc) (.slice ga p.ng gc) (.slice da p.nd dc) (.slice ua p.nu uc) p) (hle : base ≤ w.heap.size) (z bit : Int) (hth : thB p.nd z = false) :
    Calls Try.prog 73 #[.agg (l6 p.base (.slice wa p.nw wc) p.want (.slice ga p.ng gc) (.slice da p.nd dc) (.slice ua p.nu uc)), .agg #[.bool false, .int .i64 z, .int .i64 bit]] w fun e w' => e = .returned (.tuple #[.agg (l6 p.base (.slice wa p.nw wc) p.want (.slice ga p.ng gc) (.slice da p.nd dc) (.slice ua p.nu uc)), .int .i64 3]) ∧ Mv (Lrb (.slice wa p.nw wc) (.slice ga p.ng gc) (.slice da p.nd dc) (.slice ua p.nu uc)) w w' ∧ Lr w' base (.slice wa p.nw wc) (.slice ga p.ng gc) (.slice da p.nd dc) (.slice ua p.nu uc) p := by
  have HB : Hid (Mv (Lrb (.slice wa p.nw wc) (.slice ga p.ng gc) (.slice da p.nd dc) (.slice ua p.nu uc)) w w) := hide (Mv.refl _ _)
  have LO := hide hr
  have LT := hide (fun g (h : Lrb (.slice wa p.nw wc) (.slice ga p.ng gc) (.slice da p.nd dc) (.slice ua p.nu uc) g) => (hr.lt g h).2)
  have hbs : base ≤ w.heap.size := hle
  clear hr hle
  go_enter Try.func73, Try.ntmps73
  refine sk fun K hK => rl ?_
  refine sbp #[.int .i64 p.base, .slice wa p.nw wc, .int .i64 p.want, .slice ga p.ng gc, .slice da p.nd dc, .slice ua p.nu uc] 30 fun V1 b0 hb0 m1 bx0 => ?_
  have o_0 : w.heap.size ≤ b0 := by omega
  clear hb0
  refine sbp #[.bool false, .int .i64 z, .int .i64 bit] 108 fun V2 b1 hb1 m2 bx1 => ?_
  have o0_1 := Xlo bx0 hb1; clear hb1
  refine sbp #[.int .i64 0, .slice none 0 0, .int .i64 0, .slice none 0 0, .slice none 0 0, .slice none 0 0] 30 fun V3 b2 hb2 m3 bx2 => ?_
  have o1_2 := Xlo bx1 hb2; clear hb2
  refine sv (.int .i64 0) ?_
  refine nt (hK _ _ ?_); clear hK K; refine sk fun K hK => sk fun K hK => rl ?_
  replace bx0 := Xbn (Xbn bx0 m2) m3; refine sl6 bx0 ?_
  refine sv (.pointer (some ⟨b1, 0, none⟩)) ?_
  replace bx1 := Xbn bx1 m3; refine sg (.agg #[.bool false, .int .i64 z]) (h := by have z0 := cell_box 0 (bx1.out) rfl; have z1 := cell_box 1 (bx1.out) rfl; go_simp) ?_
  refine sw_call (by rfl) (by first | rfl | (go_simp; done)) (there_as_dn false p.base p.want wa ga da ua p.nw p.ng p.nd p.nu wc gc dc uc z V3 hth) ?_
  rintro e V4 ⟨rfl, hbV4⟩
  have m4 : Mv (nob) V3 V4 := Mv.of_below hbV4
  refine ⟨_, rfl, ?_⟩
  refine pt ?_
  clear hbV4
  refine sg (.bool true) ?_
  refine nt (hK _ _ ?_); clear hK K; refine ct (sk fun K hK => rl ?_)
  replace bx0 := Xbn bx0 m4; refine sl6 bx0 ?_
  replace bx2 := Xbn bx2 m4; refine ss6 (.int .i64 p.base) (.slice wa p.nw wc) (.int .i64 p.want) (.slice ga p.ng gc) (.slice da p.nd dc) (.slice ua p.nu uc) bx2 fun V5 m5 bx2 => ?_
  refine sv (.int .i64 3) ?_
  refine nt (hK _ _ ?_); clear hK K; refine wp_ret (then_ret ?_)
  try simp only [Exit.then, Exit.inBlock, ↓reduceIte, Nat.reduceEqDiff]
  obtain ⟨_, q2_0, q2_1, q2_2, q2_3, q2_4, q2_5⟩ := box6 bx2.out
  replace HB := Xhb (Xhn (Xhn (Xhn (Xhn HB m1) m2) m3) m4) m5; replace LO := Xlb (Xln (Xln (Xln (Xln LO m1) m2) m3) m4) LT m5; exact bodyPost_ret (v := .tuple #[.agg #[.int .i64 p.base, .slice wa p.nw wc, .int .i64 p.want, .slice ga p.ng gc, .slice da p.nd dc, .slice ua p.nu uc], .int .i64 3]) (by simp [results, Try.results73, go_sem, q2_0, q2_1, q2_2, q2_3, q2_4, q2_5]) rfl ⟨rfl, HB.out, LO.out⟩

set_option maxHeartbeats 4000000 in
set_option maxRecDepth 20000 in
theorem come_no_d (p : Lk) (wa ga da ua : Option Addr) (wc gc dc uc : Nat) (base : Nat) (w : World) (hr : Lr w base (.slice wa p.nw wc) (.slice ga p.ng gc) (.slice da p.nd dc) (.slice ua p.nu uc) p) (hle : base ≤ w.heap.size) (z : Int) (hth : thB p.nd z = false) :
    Calls Try.prog 71 #[.agg (l6 p.base (.slice wa p.nw wc) p.want (.slice ga p.ng gc) (.slice da p.nd dc) (.slice ua p.nu uc)), .agg #[.bool false, .int .i64 z]] w fun e w' => e = .returned (.tuple #[.agg (l6 p.base (.slice wa p.nw wc) p.want (.slice ga p.ng gc) (.slice da p.nd dc) (.slice ua p.nu uc)), .int .i64 3]) ∧ Mv (Lrb (.slice wa p.nw wc) (.slice ga p.ng gc) (.slice da p.nd dc) (.slice ua p.nu uc)) w w' ∧ Lr w' base (.slice wa p.nw wc) (.slice ga p.ng gc) (.slice da p.nd dc) (.slice ua p.nu uc) p := by
  have HB : Hid (Mv (Lrb (.slice wa p.nw wc) (.slice ga p.ng gc) (.slice da p.nd dc) (.slice ua p.nu uc)) w w) := hide (Mv.refl _ _)
  have LO := hide hr
  have LT := hide (fun g (h : Lrb (.slice wa p.nw wc) (.slice ga p.ng gc) (.slice da p.nd dc) (.slice ua p.nu uc) g) => (hr.lt g h).2)
  have hbs : base ≤ w.heap.size := hle
  clear hr hle
  go_enter Try.func71, Try.ntmps71
  refine sk fun K hK => rl ?_
  refine sbp #[.int .i64 p.base, .slice wa p.nw wc, .int .i64 p.want, .slice ga p.ng gc, .slice da p.nd dc, .slice ua p.nu uc] 30 fun V1 b0 hb0 m1 bx0 => ?_
  have o_0 : w.heap.size ≤ b0 := by omega
  clear hb0
  refine sbp #[.bool false, .int .i64 z] 100 fun V2 b1 hb1 m2 bx1 => ?_
  have o0_1 := Xlo bx0 hb1; clear hb1
  refine sbp #[.int .i64 0, .slice none 0 0, .int .i64 0, .slice none 0 0, .slice none 0 0, .slice none 0 0] 30 fun V3 b2 hb2 m3 bx2 => ?_
  have o1_2 := Xlo bx1 hb2; clear hb2
  refine sv (.int .i64 0) ?_
  refine nt (hK _ _ ?_); clear hK K; refine sk fun K hK => rl ?_
  replace bx0 := Xbn (Xbn bx0 m2) m3; refine sl6 bx0 ?_
  replace bx1 := Xbn bx1 m3; refine sg (.agg #[.bool false, .int .i64 z]) (h := by have z0 := cell_box 0 (bx1.out) rfl; have z1 := cell_box 1 (bx1.out) rfl; go_simp) ?_
  refine sw_call (by rfl) (by first | rfl | (go_simp; done)) (taken_no_dn p.base p.want wa ga da ua p.nw p.ng p.nd p.nu wc gc dc uc z V3 hth) ?_
  rintro e V4 ⟨rfl, hbV4⟩
  have m4 : Mv (nob) V3 V4 := Mv.of_below hbV4
  refine ⟨_, rfl, ?_⟩
  refine pt ?_
  clear hbV4
  refine sv (.tuple #[.string (⟨#[]⟩), .agg #[.int .i64 p.base, .slice wa p.nw wc, .int .i64 p.want, .slice ga p.ng gc, .slice da p.nd dc, .slice ua p.nu uc], .int .i64 3]) ?_
  refine sv (.string (⟨#[]⟩)) ?_
  refine sv (.agg #[.int .i64 p.base, .slice wa p.nw wc, .int .i64 p.want, .slice ga p.ng gc, .slice da p.nd dc, .slice ua p.nu uc]) ?_
  refine sv (.int .i64 3) ?_
  refine sbp #[.int .i64 0, .slice none 0 0, .int .i64 0, .slice none 0 0, .slice none 0 0, .slice none 0 0] 30 fun V5 b3 hb3 m5 bx3 => ?_
  replace bx2 := Xbn bx2 m4; have o2_3 := Xlo bx2 hb3; clear hb3
  refine sv (.string (⟨#[]⟩)) ?_
  refine ss6 (.int .i64 p.base) (.slice wa p.nw wc) (.int .i64 p.want) (.slice ga p.ng gc) (.slice da p.nd dc) (.slice ua p.nu uc) bx3 fun V6 m6 bx3 => ?_
  refine sv (.int .i64 3) ?_
  refine nt (hK _ _ ?_); clear hK K; refine sk fun K hK => sk fun K hK => rl ?_
  refine sv (.int .i64 3) ?_
  refine sg (.bool true) ?_
  refine nt (hK _ _ ?_); clear hK K; refine ct (sk fun K hK => rl ?_)
  replace bx0 := Xbb (Xbn (Xbn bx0 m4) m5) m6; refine sl6 bx0 ?_
  refine sv (.int .i64 3) ?_
  replace bx2 := Xbb (Xbn bx2 m5) m6; refine ss6 (.int .i64 p.base) (.slice wa p.nw wc) (.int .i64 p.want) (.slice ga p.ng gc) (.slice da p.nd dc) (.slice ua p.nu uc) bx2 fun V7 m7 bx2 => ?_
  refine sv (.int .i64 3) ?_
  refine nt (hK _ _ ?_); clear hK K; refine wp_ret (then_ret ?_)
  try simp only [Exit.then, Exit.inBlock, ↓reduceIte, Nat.reduceEqDiff]
  obtain ⟨_, q2_0, q2_1, q2_2, q2_3, q2_4, q2_5⟩ := box6 bx2.out
  replace HB := Xhb (Xhb (Xhn (Xhn (Xhn (Xhn (Xhn HB m1) m2) m3) m4) m5) m6) m7; replace LO := Xlb (Xlb (Xln (Xln (Xln (Xln (Xln LO m1) m2) m3) m4) m5) LT m6) LT m7; exact bodyPost_ret (v := .tuple #[.agg #[.int .i64 p.base, .slice wa p.nw wc, .int .i64 p.want, .slice ga p.ng gc, .slice da p.nd dc, .slice ua p.nu uc], .int .i64 3]) (by simp [results, Try.results71, go_sem, q2_0, q2_1, q2_2, q2_3, q2_4, q2_5]) rfl ⟨rfl, HB.out, LO.out⟩

set_option maxHeartbeats 4000000 in
set_option maxRecDepth 20000 in
theorem bt_form_d (p : Lk) (wa ga da ua : Option Addr) (wc gc dc uc : Nat) (base : Nat) (w : World) (hr : Lr w base (.slice wa p.nw wc) (.slice ga p.ng gc) (.slice da p.nd dc) (.slice ua p.nu uc) p) (hle : base ≤ w.heap.size) (z : Nat) (bit : Int) (hz : z < p.nd) (hnn : p.nd ≤ 1048576) (hts : (p.dt z).size ≤ 15) (hbad : bit < 0 ∨ 8 * (((p.dt z).size : Nat) : Int) ≤ bit) :
    Calls Try.prog 73 #[.agg (l6 p.base (.slice wa p.nw wc) p.want (.slice ga p.ng gc) (.slice da p.nd dc) (.slice ua p.nu uc)), .agg #[.bool false, .int .i64 (z : Int), .int .i64 bit]] w fun e w' => e = .returned (.tuple #[.agg (l6 p.base (.slice wa p.nw wc) p.want (.slice ga p.ng gc) (.slice da p.nd dc) (.slice ua p.nu uc)), .int .i64 2]) ∧ Mv (Lrb (.slice wa p.nw wc) (.slice ga p.ng gc) (.slice da p.nd dc) (.slice ua p.nu uc)) w w' ∧ Lr w' base (.slice wa p.nw wc) (.slice ga p.ng gc) (.slice da p.nd dc) (.slice ua p.nu uc) p := by
  have hth : thB p.nd (z : Int) = true := by simp [thB]; omega
  by_cases hlo : bit < 0
  · have hbit0 : decide (bit < 0) = true := by simp; omega
    clear hbad
    have HB : Hid (Mv (Lrb (.slice wa p.nw wc) (.slice ga p.ng gc) (.slice da p.nd dc) (.slice ua p.nu uc)) w w) := hide (Mv.refl _ _)
    have LO := hide hr
    have LT := hide (fun g (h : Lrb (.slice wa p.nw wc) (.slice ga p.ng gc) (.slice da p.nd dc) (.slice ua p.nu uc) g) => (hr.lt g h).2)
    have hbs : base ≤ w.heap.size := hle
    clear hr hle
    go_enter Try.func73, Try.ntmps73
    refine sk fun K hK => rl ?_
    refine sbp #[.int .i64 p.base, .slice wa p.nw wc, .int .i64 p.want, .slice ga p.ng gc, .slice da p.nd dc, .slice ua p.nu uc] 30 fun V1 b0 hb0 m1 bx0 => ?_
    have o_0 : w.heap.size ≤ b0 := by omega
    clear hb0
    refine sbp #[.bool false, .int .i64 ((z : Int)), .int .i64 bit] 108 fun V2 b1 hb1 m2 bx1 => ?_
    have o0_1 := Xlo bx0 hb1; clear hb1
    refine sbp #[.int .i64 0, .slice none 0 0, .int .i64 0, .slice none 0 0, .slice none 0 0, .slice none 0 0] 30 fun V3 b2 hb2 m3 bx2 => ?_
    have o1_2 := Xlo bx1 hb2; clear hb2
    refine sv (.int .i64 0) ?_
    refine nt (hK _ _ ?_); clear hK K; refine sk fun K hK => sk fun K hK => rl ?_
    replace bx0 := Xbn (Xbn bx0 m2) m3; refine sl6 bx0 ?_
    refine sv (.pointer (some ⟨b1, 0, none⟩)) ?_
    replace bx1 := Xbn bx1 m3; refine sg (.agg #[.bool false, .int .i64 ((z : Int))]) (h := by have z0 := cell_box 0 (bx1.out) rfl; have z1 := cell_box 1 (bx1.out) rfl; go_simp) ?_
    refine sw_call (by rfl) (by first | rfl | (go_simp; done)) (there_as_dn true p.base p.want wa ga da ua p.nw p.ng p.nd p.nu wc gc dc uc (z : Int) V3 hth) ?_
    rintro e V4 ⟨rfl, hbV4⟩
    have m4 : Mv (nob) V3 V4 := Mv.of_below hbV4
    refine ⟨_, rfl, ?_⟩
    refine pt ?_
    clear hbV4
    refine sg (.bool false) ?_
    refine nt (hK _ _ ?_); clear hK K; refine cf (wp_skip (then_normal (hK _ _ ?_))); clear hK K; refine sk fun K hK => rl ?_
    replace bx0 := Xbn bx0 m4; refine sl6 bx0 ?_
    refine sv (.pointer (some ⟨b1, 0, none⟩)) ?_
    refine sv (.pointer (some ⟨b1, 0, none⟩)) ?_
    replace bx1 := Xbn bx1 m4; refine sl 0 bx1 ?_
    refine sw_call (by rfl) (by first | rfl | (go_simp; done)) (wires_dn p.base p.want wa ga da ua p.nw p.ng p.nd p.nu wc gc dc uc V4) ?_
    rintro e V5 ⟨rfl, hbV5⟩
    have m5 : Mv (nob) V4 V5 := Mv.of_below hbV5
    refine ⟨_, rfl, ?_⟩
    refine pt ?_
    clear hbV5
    replace bx2 := Xbn (Xbn bx2 m4) m5; have szT := lt_of_block bx2.out
    replace HB := Xhn (Xhn (Xhn (Xhn (Xhn HB m1) m2) m3) m4) m5; have szW := HB.out.size
    replace LO := Xln (Xln (Xln (Xln (Xln LO m1) m2) m3) m4) m5; refine sw_call (by rfl) (by first | rfl | (go_simp; done)) (clone_at da p.nd dc base p.dt p.dh V5 LO.out.dn (by omega) (by omega)) ?_
    rintro e V6 ⟨g, off, k, rfl, hrx, hbV6⟩
    have m6 : Mv (nob) V5 V6 := Mv.of_below hbV6
    refine ⟨_, rfl, ?_⟩
    refine pt ?_
    have NR : Hid (Rg V6 w.heap.size (.slice (some ⟨g, off, none⟩) p.nd k) 2 p.nd (wF p.dt p.dh)) := hide (hrx.base szW)
    obtain ⟨g_, off_, eg_, hk1, hk2, hg1, _, hcl⟩ := hrx.rows (by omega)
    cases eg_
    have hgs := (hrx.lt g (rb_some (by omega))).2
    have hc0 : Hid (V6.cell? ⟨g, off + z * 2, none⟩ = some (.string (p.dt z))) := hide (by have := hcl (z * 2) (by omega); rwa [show z * 2 / 2 = z by omega, show z * 2 % 2 = 0 by omega] at this)
    have hc1 : Hid (V6.cell? ⟨g, off + z * 2 + 1, none⟩ = some (.bool (p.dh z))) := hide (by have := hcl (z * 2 + 1) (by omega); rwa [show (z * 2 + 1) / 2 = z by omega, show (z * 2 + 1) % 2 = 1 by omega] at this)
    have hg2 : g < V6.heap.size := hgs
    have gT : b2 < g := by omega
    have gW : w.heap.size ≤ g := by omega
    clear hbV6 hrx hcl szT szW hgs hg1
    refine sv (.slice (some ⟨g, off, none⟩) p.nd k) ?_
    refine nt (hK _ _ ?_); clear hK K; refine sk fun K hK => rl ?_
    refine sv (.slice (some ⟨g, off, none⟩) p.nd k) ?_
    refine sv (.pointer (some ⟨b1, 0, none⟩)) ?_
    refine sv (.pointer (some ⟨b1, 1, none⟩)) ?_
    replace bx1 := Xbn (Xbn bx1 m5) m6; refine sl 1 bx1 ?_
    refine sg (.pointer (some ⟨g, off + z * 2, none⟩)) (h := by have hz0 : (0 : Int) ≤ (z : Int) := (by omega); have hz1 : (z : Int) < (p.nd : Int) := (by omega); go_simp) ?_
    refine sg (.agg #[.string (p.dt z), .bool (p.dh z)]) (h := by have y0 := hc0.out; have y1 := hc1.out; go_simp) ?_
    refine sbp #[.string ⟨#[]⟩, .bool false] 73 fun V7 b3 hb3 m7 bx3 => ?_
    replace bx2 := Xbn bx2 m6; have o2_3 := Xlo bx2 hb3
    have gb : g < b3 := by omega
    replace NR := hide (NR.out.mv m7 (fun _ _ h => h))
    replace hc0 := hide (m7.cell hc0.out (fun h => h))
    replace hc1 := hide (m7.cell hc1.out (fun h => h))
    clear hb3
    refine ss2 (.string (p.dt z)) (.bool (p.dh z)) bx3 fun V8 m8 bx3 => ?_
    replace NR := hide (NR.out.mv m8 (fun x hx h => by have h : x = b3 := h; have e : g = x := rb_blk hx; omega))
    replace hc0 := hide (m8.cell hc0.out (fun h => by have h : g = b3 := h; omega))
    replace hc1 := hide (m8.cell hc1.out (fun h => by have h : g = b3 := h; omega))
    refine nt (hK _ _ ?_); clear hK K; refine sk fun K hK => sk fun K hK => rl ?_
    refine sv (.pointer (some ⟨b1, 2, none⟩)) ?_
    replace bx1 := Xbb (Xbn bx1 m7) m8; refine sl 2 bx1 ?_
    refine sg (.bool true) ?_
    refine sv (.bool true) ?_
    with_reducible refine sp ?_
    with_reducible refine sp ?_
    with_reducible refine sp ?_
    with_reducible refine sp ?_
    with_reducible refine sp ?_
    with_reducible refine sp ?_
    with_reducible refine sp ?_
    refine sg (.bool true) ?_
    refine nt (hK _ _ ?_); clear hK K; refine ct (sk fun K hK => rl ?_)
    replace bx0 := Xbb (Xbn (Xbn (Xbn bx0 m5) m6) m7) m8; refine sl6 bx0 ?_
    replace bx2 := Xbb (Xbn bx2 m7) m8; refine ss6 (.int .i64 p.base) (.slice wa p.nw wc) (.int .i64 p.want) (.slice ga p.ng gc) (.slice da p.nd dc) (.slice ua p.nu uc) bx2 fun V9 m9 bx2 => ?_
    replace NR := hide (NR.out.mv m9 (fun x hx h => by have h : x = b2 := h; have e : g = x := rb_blk hx; omega))
    replace hc0 := hide (m9.cell hc0.out (fun h => by have h : g = b2 := h; omega))
    replace hc1 := hide (m9.cell hc1.out (fun h => by have h : g = b2 := h; omega))
    refine sv (.int .i64 2) ?_
    refine nt (hK _ _ ?_); clear hK K; refine wp_ret (then_ret ?_)
    try simp only [Exit.then, Exit.inBlock, ↓reduceIte, Nat.reduceEqDiff]
    obtain ⟨_, q2_0, q2_1, q2_2, q2_3, q2_4, q2_5⟩ := box6 bx2.out
    replace HB := Xhb (Xhb (Xhn (Xhn HB m6) m7) m8) m9; replace LO := Xlb (Xlb (Xln (Xln LO m6) m7) LT m8) LT m9; exact bodyPost_ret (v := .tuple #[.agg #[.int .i64 p.base, .slice wa p.nw wc, .int .i64 p.want, .slice ga p.ng gc, .slice da p.nd dc, .slice ua p.nu uc], .int .i64 2]) (by simp [results, Try.results73, go_sem, q2_0, q2_1, q2_2, q2_3, q2_4, q2_5]) rfl ⟨rfl, HB.out, LO.out⟩
  · have hbit0 : decide (bit < 0) = false := by simp; omega
    have hbit1 : decide (8 * (((p.dt z).size : Nat) : Int) ≤ bit) = true := by simp; omega
    clear hbad hlo
    have HB : Hid (Mv (Lrb (.slice wa p.nw wc) (.slice ga p.ng gc) (.slice da p.nd dc) (.slice ua p.nu uc)) w w) := hide (Mv.refl _ _)
    have LO := hide hr
    have LT := hide (fun g (h : Lrb (.slice wa p.nw wc) (.slice ga p.ng gc) (.slice da p.nd dc) (.slice ua p.nu uc) g) => (hr.lt g h).2)
    have hbs : base ≤ w.heap.size := hle
    clear hr hle
    go_enter Try.func73, Try.ntmps73
    refine sk fun K hK => rl ?_
    refine sbp #[.int .i64 p.base, .slice wa p.nw wc, .int .i64 p.want, .slice ga p.ng gc, .slice da p.nd dc, .slice ua p.nu uc] 30 fun V1 b0 hb0 m1 bx0 => ?_
    have o_0 : w.heap.size ≤ b0 := by omega
    clear hb0
    refine sbp #[.bool false, .int .i64 ((z : Int)), .int .i64 bit] 108 fun V2 b1 hb1 m2 bx1 => ?_
    have o0_1 := Xlo bx0 hb1; clear hb1
    refine sbp #[.int .i64 0, .slice none 0 0, .int .i64 0, .slice none 0 0, .slice none 0 0, .slice none 0 0] 30 fun V3 b2 hb2 m3 bx2 => ?_
    have o1_2 := Xlo bx1 hb2; clear hb2
    refine sv (.int .i64 0) ?_
    refine nt (hK _ _ ?_); clear hK K; refine sk fun K hK => sk fun K hK => rl ?_
    replace bx0 := Xbn (Xbn bx0 m2) m3; refine sl6 bx0 ?_
    refine sv (.pointer (some ⟨b1, 0, none⟩)) ?_
    replace bx1 := Xbn bx1 m3; refine sg (.agg #[.bool false, .int .i64 ((z : Int))]) (h := by have z0 := cell_box 0 (bx1.out) rfl; have z1 := cell_box 1 (bx1.out) rfl; go_simp) ?_
    refine sw_call (by rfl) (by first | rfl | (go_simp; done)) (there_as_dn true p.base p.want wa ga da ua p.nw p.ng p.nd p.nu wc gc dc uc (z : Int) V3 hth) ?_
    rintro e V4 ⟨rfl, hbV4⟩
    have m4 : Mv (nob) V3 V4 := Mv.of_below hbV4
    refine ⟨_, rfl, ?_⟩
    refine pt ?_
    clear hbV4
    refine sg (.bool false) ?_
    refine nt (hK _ _ ?_); clear hK K; refine cf (wp_skip (then_normal (hK _ _ ?_))); clear hK K; refine sk fun K hK => rl ?_
    replace bx0 := Xbn bx0 m4; refine sl6 bx0 ?_
    refine sv (.pointer (some ⟨b1, 0, none⟩)) ?_
    refine sv (.pointer (some ⟨b1, 0, none⟩)) ?_
    replace bx1 := Xbn bx1 m4; refine sl 0 bx1 ?_
    refine sw_call (by rfl) (by first | rfl | (go_simp; done)) (wires_dn p.base p.want wa ga da ua p.nw p.ng p.nd p.nu wc gc dc uc V4) ?_
    rintro e V5 ⟨rfl, hbV5⟩
    have m5 : Mv (nob) V4 V5 := Mv.of_below hbV5
    refine ⟨_, rfl, ?_⟩
    refine pt ?_
    clear hbV5
    replace bx2 := Xbn (Xbn bx2 m4) m5; have szT := lt_of_block bx2.out
    replace HB := Xhn (Xhn (Xhn (Xhn (Xhn HB m1) m2) m3) m4) m5; have szW := HB.out.size
    replace LO := Xln (Xln (Xln (Xln (Xln LO m1) m2) m3) m4) m5; refine sw_call (by rfl) (by first | rfl | (go_simp; done)) (clone_at da p.nd dc base p.dt p.dh V5 LO.out.dn (by omega) (by omega)) ?_
    rintro e V6 ⟨g, off, k, rfl, hrx, hbV6⟩
    have m6 : Mv (nob) V5 V6 := Mv.of_below hbV6
    refine ⟨_, rfl, ?_⟩
    refine pt ?_
    have NR : Hid (Rg V6 w.heap.size (.slice (some ⟨g, off, none⟩) p.nd k) 2 p.nd (wF p.dt p.dh)) := hide (hrx.base szW)
    obtain ⟨g_, off_, eg_, hk1, hk2, hg1, _, hcl⟩ := hrx.rows (by omega)
    cases eg_
    have hgs := (hrx.lt g (rb_some (by omega))).2
    have hc0 : Hid (V6.cell? ⟨g, off + z * 2, none⟩ = some (.string (p.dt z))) := hide (by have := hcl (z * 2) (by omega); rwa [show z * 2 / 2 = z by omega, show z * 2 % 2 = 0 by omega] at this)
    have hc1 : Hid (V6.cell? ⟨g, off + z * 2 + 1, none⟩ = some (.bool (p.dh z))) := hide (by have := hcl (z * 2 + 1) (by omega); rwa [show (z * 2 + 1) / 2 = z by omega, show (z * 2 + 1) % 2 = 1 by omega] at this)
    have hg2 : g < V6.heap.size := hgs
    have gT : b2 < g := by omega
    have gW : w.heap.size ≤ g := by omega
    clear hbV6 hrx hcl szT szW hgs hg1
    refine sv (.slice (some ⟨g, off, none⟩) p.nd k) ?_
    refine nt (hK _ _ ?_); clear hK K; refine sk fun K hK => rl ?_
    refine sv (.slice (some ⟨g, off, none⟩) p.nd k) ?_
    refine sv (.pointer (some ⟨b1, 0, none⟩)) ?_
    refine sv (.pointer (some ⟨b1, 1, none⟩)) ?_
    replace bx1 := Xbn (Xbn bx1 m5) m6; refine sl 1 bx1 ?_
    refine sg (.pointer (some ⟨g, off + z * 2, none⟩)) (h := by have hz0 : (0 : Int) ≤ (z : Int) := (by omega); have hz1 : (z : Int) < (p.nd : Int) := (by omega); go_simp) ?_
    refine sg (.agg #[.string (p.dt z), .bool (p.dh z)]) (h := by have y0 := hc0.out; have y1 := hc1.out; go_simp) ?_
    refine sbp #[.string ⟨#[]⟩, .bool false] 73 fun V7 b3 hb3 m7 bx3 => ?_
    replace bx2 := Xbn bx2 m6; have o2_3 := Xlo bx2 hb3
    have gb : g < b3 := by omega
    replace NR := hide (NR.out.mv m7 (fun _ _ h => h))
    replace hc0 := hide (m7.cell hc0.out (fun h => h))
    replace hc1 := hide (m7.cell hc1.out (fun h => h))
    clear hb3
    refine ss2 (.string (p.dt z)) (.bool (p.dh z)) bx3 fun V8 m8 bx3 => ?_
    replace NR := hide (NR.out.mv m8 (fun x hx h => by have h : x = b3 := h; have e : g = x := rb_blk hx; omega))
    replace hc0 := hide (m8.cell hc0.out (fun h => by have h : g = b3 := h; omega))
    replace hc1 := hide (m8.cell hc1.out (fun h => by have h : g = b3 := h; omega))
    refine nt (hK _ _ ?_); clear hK K; refine sk fun K hK => sk fun K hK => rl ?_
    refine sv (.pointer (some ⟨b1, 2, none⟩)) ?_
    replace bx1 := Xbb (Xbn bx1 m7) m8; refine sl 2 bx1 ?_
    refine sg (.bool false) (h := by have hb0 := hbit0; go_simp) ?_
    refine sv (.bool false) ?_
    refine sv (.pointer (some ⟨b1, 2, none⟩)) ?_
    refine sl 2 bx1 ?_
    refine sv (.pointer (some ⟨b3, 0, none⟩)) ?_
    refine sl 0 bx3 ?_
    refine sg (.int .i64 (((p.dt z).size : Int))) ?_
    refine sg (.int .i64 (8 * ((p.dt z).size : Int))) (h := by have hw8 : IntKind.i64.wrap (8 * ((p.dt z).size : Int)) = 8 * ((p.dt z).size : Int) := i64wrap (by omega); go_simp) ?_
    refine sg (.bool true) (h := by have hb1 := hbit1; go_simp) ?_
    refine sg (.bool true) ?_
    refine nt (hK _ _ ?_); clear hK K; refine ct (sk fun K hK => rl ?_)
    replace bx0 := Xbb (Xbn (Xbn (Xbn bx0 m5) m6) m7) m8; refine sl6 bx0 ?_
    replace bx2 := Xbb (Xbn bx2 m7) m8; refine ss6 (.int .i64 p.base) (.slice wa p.nw wc) (.int .i64 p.want) (.slice ga p.ng gc) (.slice da p.nd dc) (.slice ua p.nu uc) bx2 fun V9 m9 bx2 => ?_
    replace NR := hide (NR.out.mv m9 (fun x hx h => by have h : x = b2 := h; have e : g = x := rb_blk hx; omega))
    replace hc0 := hide (m9.cell hc0.out (fun h => by have h : g = b2 := h; omega))
    replace hc1 := hide (m9.cell hc1.out (fun h => by have h : g = b2 := h; omega))
    refine sv (.int .i64 2) ?_
    refine nt (hK _ _ ?_); clear hK K; refine wp_ret (then_ret ?_)
    try simp only [Exit.then, Exit.inBlock, ↓reduceIte, Nat.reduceEqDiff]
    obtain ⟨_, q2_0, q2_1, q2_2, q2_3, q2_4, q2_5⟩ := box6 bx2.out
    replace HB := Xhb (Xhb (Xhn (Xhn HB m6) m7) m8) m9; replace LO := Xlb (Xlb (Xln (Xln LO m6) m7) LT m8) LT m9; exact bodyPost_ret (v := .tuple #[.agg #[.int .i64 p.base, .slice wa p.nw wc, .int .i64 p.want, .slice ga p.ng gc, .slice da p.nd dc, .slice ua p.nu uc], .int .i64 2]) (by simp [results, Try.results73, go_sem, q2_0, q2_1, q2_2, q2_3, q2_4, q2_5]) rfl ⟨rfl, HB.out, LO.out⟩

set_option maxHeartbeats 4000000 in
set_option maxRecDepth 20000 in
theorem bt_hurt_d (p : Lk) (wa ga da ua : Option Addr) (wc gc dc uc : Nat) (base : Nat) (w : World) (hr : Lr w base (.slice wa p.nw wc) (.slice ga p.ng gc) (.slice da p.nd dc) (.slice ua p.nu uc) p) (hle : base ≤ w.heap.size) (z n : Nat) (hz : z < p.nd) (hnn : p.nd ≤ 1048576) (hts : (p.dt z).size ≤ 15) (hn : n < 8 * (p.dt z).size) (hhurt : p.dh z = true) :
    Calls Try.prog 73 #[.agg (l6 p.base (.slice wa p.nw wc) p.want (.slice ga p.ng gc) (.slice da p.nd dc) (.slice ua p.nu uc)), .agg #[.bool false, .int .i64 (z : Int), .int .i64 (n : Int)]] w fun e w' => e = .returned (.tuple #[.agg (l6 p.base (.slice wa p.nw wc) p.want (.slice ga p.ng gc) (.slice da p.nd dc) (.slice ua p.nu uc)), .int .i64 5]) ∧ Mv (Lrb (.slice wa p.nw wc) (.slice ga p.ng gc) (.slice da p.nd dc) (.slice ua p.nu uc)) w w' ∧ Lr w' base (.slice wa p.nw wc) (.slice ga p.ng gc) (.slice da p.nd dc) (.slice ua p.nu uc) p := by
  have hth : thB p.nd (z : Int) = true := by simp [thB]; omega
  have hbit0 : decide ((n : Int) < 0) = false := decide_eq_false (by omega)
  have hbit1 : decide (8 * (((p.dt z).size : Nat) : Int) ≤ (n : Int)) = false := decide_eq_false (by omega)
  have HB : Hid (Mv (Lrb (.slice wa p.nw wc) (.slice ga p.ng gc) (.slice da p.nd dc) (.slice ua p.nu uc)) w w) := hide (Mv.refl _ _)
  have LO := hide hr
  have LT := hide (fun g (h : Lrb (.slice wa p.nw wc) (.slice ga p.ng gc) (.slice da p.nd dc) (.slice ua p.nu uc) g) => (hr.lt g h).2)
  have hbs : base ≤ w.heap.size := hle
  clear hr hle
  go_enter Try.func73, Try.ntmps73
  refine sk fun K hK => rl ?_
  refine sbp #[.int .i64 p.base, .slice wa p.nw wc, .int .i64 p.want, .slice ga p.ng gc, .slice da p.nd dc, .slice ua p.nu uc] 30 fun V1 b0 hb0 m1 bx0 => ?_
  have o_0 : w.heap.size ≤ b0 := by omega
  clear hb0
  refine sbp #[.bool false, .int .i64 ((z : Int)), .int .i64 ((n : Int))] 108 fun V2 b1 hb1 m2 bx1 => ?_
  have o0_1 := Xlo bx0 hb1; clear hb1
  refine sbp #[.int .i64 0, .slice none 0 0, .int .i64 0, .slice none 0 0, .slice none 0 0, .slice none 0 0] 30 fun V3 b2 hb2 m3 bx2 => ?_
  have o1_2 := Xlo bx1 hb2; clear hb2
  refine sv (.int .i64 0) ?_
  refine nt (hK _ _ ?_); clear hK K; refine sk fun K hK => sk fun K hK => rl ?_
  replace bx0 := Xbn (Xbn bx0 m2) m3; refine sl6 bx0 ?_
  refine sv (.pointer (some ⟨b1, 0, none⟩)) ?_
  replace bx1 := Xbn bx1 m3; refine sg (.agg #[.bool false, .int .i64 ((z : Int))]) (h := by have z0 := cell_box 0 (bx1.out) rfl; have z1 := cell_box 1 (bx1.out) rfl; go_simp) ?_
  refine sw_call (by rfl) (by first | rfl | (go_simp; done)) (there_as_dn true p.base p.want wa ga da ua p.nw p.ng p.nd p.nu wc gc dc uc (z : Int) V3 hth) ?_
  rintro e V4 ⟨rfl, hbV4⟩
  have m4 : Mv (nob) V3 V4 := Mv.of_below hbV4
  refine ⟨_, rfl, ?_⟩
  refine pt ?_
  clear hbV4
  refine sg (.bool false) ?_
  refine nt (hK _ _ ?_); clear hK K; refine cf (wp_skip (then_normal (hK _ _ ?_))); clear hK K; refine sk fun K hK => rl ?_
  replace bx0 := Xbn bx0 m4; refine sl6 bx0 ?_
  refine sv (.pointer (some ⟨b1, 0, none⟩)) ?_
  refine sv (.pointer (some ⟨b1, 0, none⟩)) ?_
  replace bx1 := Xbn bx1 m4; refine sl 0 bx1 ?_
  refine sw_call (by rfl) (by first | rfl | (go_simp; done)) (wires_dn p.base p.want wa ga da ua p.nw p.ng p.nd p.nu wc gc dc uc V4) ?_
  rintro e V5 ⟨rfl, hbV5⟩
  have m5 : Mv (nob) V4 V5 := Mv.of_below hbV5
  refine ⟨_, rfl, ?_⟩
  refine pt ?_
  clear hbV5
  replace bx2 := Xbn (Xbn bx2 m4) m5; have szT := lt_of_block bx2.out
  replace HB := Xhn (Xhn (Xhn (Xhn (Xhn HB m1) m2) m3) m4) m5; have szW := HB.out.size
  replace LO := Xln (Xln (Xln (Xln (Xln LO m1) m2) m3) m4) m5; refine sw_call (by rfl) (by first | rfl | (go_simp; done)) (clone_at da p.nd dc base p.dt p.dh V5 LO.out.dn (by omega) (by omega)) ?_
  rintro e V6 ⟨g, off, k, rfl, hrx, hbV6⟩
  have m6 : Mv (nob) V5 V6 := Mv.of_below hbV6
  refine ⟨_, rfl, ?_⟩
  refine pt ?_
  have NR : Hid (Rg V6 w.heap.size (.slice (some ⟨g, off, none⟩) p.nd k) 2 p.nd (wF p.dt p.dh)) := hide (hrx.base szW)
  obtain ⟨g_, off_, eg_, hk1, hk2, hg1, _, hcl⟩ := hrx.rows (by omega)
  cases eg_
  have hgs := (hrx.lt g (rb_some (by omega))).2
  have hc0 : Hid (V6.cell? ⟨g, off + z * 2, none⟩ = some (.string (p.dt z))) := hide (by have := hcl (z * 2) (by omega); rwa [show z * 2 / 2 = z by omega, show z * 2 % 2 = 0 by omega] at this)
  have hc1 : Hid (V6.cell? ⟨g, off + z * 2 + 1, none⟩ = some (.bool (p.dh z))) := hide (by have := hcl (z * 2 + 1) (by omega); rwa [show (z * 2 + 1) / 2 = z by omega, show (z * 2 + 1) % 2 = 1 by omega] at this)
  have hg2 : g < V6.heap.size := hgs
  have gT : b2 < g := by omega
  have gW : w.heap.size ≤ g := by omega
  clear hbV6 hrx hcl szT szW hgs hg1
  refine sv (.slice (some ⟨g, off, none⟩) p.nd k) ?_
  refine nt (hK _ _ ?_); clear hK K; refine sk fun K hK => rl ?_
  refine sv (.slice (some ⟨g, off, none⟩) p.nd k) ?_
  refine sv (.pointer (some ⟨b1, 0, none⟩)) ?_
  refine sv (.pointer (some ⟨b1, 1, none⟩)) ?_
  replace bx1 := Xbn (Xbn bx1 m5) m6; refine sl 1 bx1 ?_
  refine sg (.pointer (some ⟨g, off + z * 2, none⟩)) (h := by have hz0 : (0 : Int) ≤ (z : Int) := (by omega); have hz1 : (z : Int) < (p.nd : Int) := (by omega); go_simp) ?_
  refine sg (.agg #[.string (p.dt z), .bool true]) (h := by have y0 := hc0.out; have y1 := hc1.out; rw [hhurt] at y1; go_simp) ?_
  refine sbp #[.string ⟨#[]⟩, .bool false] 73 fun V7 b3 hb3 m7 bx3 => ?_
  replace bx2 := Xbn bx2 m6; have o2_3 := Xlo bx2 hb3
  have gb : g < b3 := by omega
  replace NR := hide (NR.out.mv m7 (fun _ _ h => h))
  replace hc0 := hide (m7.cell hc0.out (fun h => h))
  replace hc1 := hide (m7.cell hc1.out (fun h => h))
  clear hb3
  refine ss2 (.string (p.dt z)) (.bool true) bx3 fun V8 m8 bx3 => ?_
  replace NR := hide (NR.out.mv m8 (fun x hx h => by have h : x = b3 := h; have e : g = x := rb_blk hx; omega))
  replace hc0 := hide (m8.cell hc0.out (fun h => by have h : g = b3 := h; omega))
  replace hc1 := hide (m8.cell hc1.out (fun h => by have h : g = b3 := h; omega))
  refine nt (hK _ _ ?_); clear hK K; refine sk fun K hK => sk fun K hK => rl ?_
  refine sv (.pointer (some ⟨b1, 2, none⟩)) ?_
  replace bx1 := Xbb (Xbn bx1 m7) m8; refine sl 2 bx1 ?_
  refine sg (.bool false) (h := by have hb0 := hbit0; go_simp) ?_
  refine sv (.bool false) ?_
  refine sv (.pointer (some ⟨b1, 2, none⟩)) ?_
  refine sl 2 bx1 ?_
  refine sv (.pointer (some ⟨b3, 0, none⟩)) ?_
  refine sl 0 bx3 ?_
  refine sg (.int .i64 (((p.dt z).size : Int))) ?_
  refine sg (.int .i64 (8 * ((p.dt z).size : Int))) (h := by have hw8 : IntKind.i64.wrap (8 * ((p.dt z).size : Int)) = 8 * ((p.dt z).size : Int) := i64wrap (by omega); go_simp) ?_
  refine sg (.bool false) (h := by have hb1 := hbit1; go_simp) ?_
  refine sg (.bool false) ?_
  refine nt (hK _ _ ?_); clear hK K; refine cf (wp_skip (then_normal (hK _ _ ?_))); clear hK K; refine sk fun K hK => sk fun K hK => rl ?_
  refine sv (.pointer (some ⟨b3, 1, none⟩)) ?_
  refine sg (.bool true) (h := by have z0 := cell_box 1 (bx3.out) rfl; have hh := hhurt; go_simp) ?_
  refine nt (hK _ _ ?_); clear hK K; refine ct (sk fun K hK => rl ?_)
  replace bx0 := Xbb (Xbn (Xbn (Xbn bx0 m5) m6) m7) m8; refine sl6 bx0 ?_
  replace bx2 := Xbb (Xbn bx2 m7) m8; refine ss6 (.int .i64 p.base) (.slice wa p.nw wc) (.int .i64 p.want) (.slice ga p.ng gc) (.slice da p.nd dc) (.slice ua p.nu uc) bx2 fun V9 m9 bx2 => ?_
  replace NR := hide (NR.out.mv m9 (fun x hx h => by have h : x = b2 := h; have e : g = x := rb_blk hx; omega))
  replace hc0 := hide (m9.cell hc0.out (fun h => by have h : g = b2 := h; omega))
  replace hc1 := hide (m9.cell hc1.out (fun h => by have h : g = b2 := h; omega))
  refine sv (.int .i64 5) ?_
  refine nt (hK _ _ ?_); clear hK K; refine wp_ret (then_ret ?_)
  try simp only [Exit.then, Exit.inBlock, ↓reduceIte, Nat.reduceEqDiff]
  obtain ⟨_, q2_0, q2_1, q2_2, q2_3, q2_4, q2_5⟩ := box6 bx2.out
  replace HB := Xhb (Xhb (Xhn (Xhn HB m6) m7) m8) m9; replace LO := Xlb (Xlb (Xln (Xln LO m6) m7) LT m8) LT m9; exact bodyPost_ret (v := .tuple #[.agg #[.int .i64 p.base, .slice wa p.nw wc, .int .i64 p.want, .slice ga p.ng gc, .slice da p.nd dc, .slice ua p.nu uc], .int .i64 5]) (by simp [results, Try.results73, go_sem, q2_0, q2_1, q2_2, q2_3, q2_4, q2_5]) rfl ⟨rfl, HB.out, LO.out⟩

set_option maxHeartbeats 4000000 in
set_option maxRecDepth 20000 in
theorem bt_yes_d (p : Lk) (wa ga da ua : Option Addr) (wc gc dc uc : Nat) (base : Nat) (w : World) (hr : Lr w base (.slice wa p.nw wc) (.slice ga p.ng gc) (.slice da p.nd dc) (.slice ua p.nu uc) p) (hle : base ≤ w.heap.size) (z n : Nat) (hz : z < p.nd) (hnn : p.nd ≤ 1048576) (hts : (p.dt z).size ≤ 15) (hn : n < 8 * (p.dt z).size) (hhurt : p.dh z = false) :
    Calls Try.prog 73 #[.agg (l6 p.base (.slice wa p.nw wc) p.want (.slice ga p.ng gc) (.slice da p.nd dc) (.slice ua p.nu uc)), .agg #[.bool false, .int .i64 (z : Int), .int .i64 (n : Int)]] w fun e w' => ∃ wv gv dv uv, e = .returned (.tuple #[.agg (l6 (flipD p z n).base wv (flipD p z n).want gv dv uv), .int .i64 0]) ∧ Mv (Lrb (.slice wa p.nw wc) (.slice ga p.ng gc) (.slice da p.nd dc) (.slice ua p.nu uc)) w w' ∧ Lr w' base (.slice wa p.nw wc) (.slice ga p.ng gc) (.slice da p.nd dc) (.slice ua p.nu uc) p ∧ Lr w' base wv gv dv uv (flipD p z n) ∧ Nw w.heap.size (.slice wa p.nw wc) (.slice ga p.ng gc) (.slice da p.nd dc) (.slice ua p.nu uc) wv gv dv uv := by
  have hth : thB p.nd (z : Int) = true := by simp [thB]; omega
  have hbit0 : decide ((n : Int) < 0) = false := decide_eq_false (by omega)
  have hbit1 : decide (8 * (((p.dt z).size : Nat) : Int) ≤ (n : Int)) = false := decide_eq_false (by omega)
  have HB : Hid (Mv (Lrb (.slice wa p.nw wc) (.slice ga p.ng gc) (.slice da p.nd dc) (.slice ua p.nu uc)) w w) := hide (Mv.refl _ _)
  have LO := hide hr
  have LT := hide (fun g (h : Lrb (.slice wa p.nw wc) (.slice ga p.ng gc) (.slice da p.nd dc) (.slice ua p.nu uc) g) => (hr.lt g h).2)
  have hbs : base ≤ w.heap.size := hle
  clear hr hle
  go_enter Try.func73, Try.ntmps73
  refine sk fun K hK => rl ?_
  refine sbp #[.int .i64 p.base, .slice wa p.nw wc, .int .i64 p.want, .slice ga p.ng gc, .slice da p.nd dc, .slice ua p.nu uc] 30 fun V1 b0 hb0 m1 bx0 => ?_
  have o_0 : w.heap.size ≤ b0 := by omega
  clear hb0
  refine sbp #[.bool false, .int .i64 ((z : Int)), .int .i64 ((n : Int))] 108 fun V2 b1 hb1 m2 bx1 => ?_
  have o0_1 := Xlo bx0 hb1; clear hb1
  refine sbp #[.int .i64 0, .slice none 0 0, .int .i64 0, .slice none 0 0, .slice none 0 0, .slice none 0 0] 30 fun V3 b2 hb2 m3 bx2 => ?_
  have o1_2 := Xlo bx1 hb2; clear hb2
  refine sv (.int .i64 0) ?_
  refine nt (hK _ _ ?_); clear hK K; refine sk fun K hK => sk fun K hK => rl ?_
  replace bx0 := Xbn (Xbn bx0 m2) m3; refine sl6 bx0 ?_
  refine sv (.pointer (some ⟨b1, 0, none⟩)) ?_
  replace bx1 := Xbn bx1 m3; refine sg (.agg #[.bool false, .int .i64 ((z : Int))]) (h := by have z0 := cell_box 0 (bx1.out) rfl; have z1 := cell_box 1 (bx1.out) rfl; go_simp) ?_
  refine sw_call (by rfl) (by first | rfl | (go_simp; done)) (there_as_dn true p.base p.want wa ga da ua p.nw p.ng p.nd p.nu wc gc dc uc (z : Int) V3 hth) ?_
  rintro e V4 ⟨rfl, hbV4⟩
  have m4 : Mv (nob) V3 V4 := Mv.of_below hbV4
  refine ⟨_, rfl, ?_⟩
  refine pt ?_
  clear hbV4
  refine sg (.bool false) ?_
  refine nt (hK _ _ ?_); clear hK K; refine cf (wp_skip (then_normal (hK _ _ ?_))); clear hK K; refine sk fun K hK => rl ?_
  replace bx0 := Xbn bx0 m4; refine sl6 bx0 ?_
  refine sv (.pointer (some ⟨b1, 0, none⟩)) ?_
  refine sv (.pointer (some ⟨b1, 0, none⟩)) ?_
  replace bx1 := Xbn bx1 m4; refine sl 0 bx1 ?_
  refine sw_call (by rfl) (by first | rfl | (go_simp; done)) (wires_dn p.base p.want wa ga da ua p.nw p.ng p.nd p.nu wc gc dc uc V4) ?_
  rintro e V5 ⟨rfl, hbV5⟩
  have m5 : Mv (nob) V4 V5 := Mv.of_below hbV5
  refine ⟨_, rfl, ?_⟩
  refine pt ?_
  clear hbV5
  replace bx2 := Xbn (Xbn bx2 m4) m5; have szT := lt_of_block bx2.out
  replace HB := Xhn (Xhn (Xhn (Xhn (Xhn HB m1) m2) m3) m4) m5; have szW := HB.out.size
  replace LO := Xln (Xln (Xln (Xln (Xln LO m1) m2) m3) m4) m5; refine sw_call (by rfl) (by first | rfl | (go_simp; done)) (clone_at da p.nd dc base p.dt p.dh V5 LO.out.dn (by omega) (by omega)) ?_
  rintro e V6 ⟨g, off, k, rfl, hrx, hbV6⟩
  have m6 : Mv (nob) V5 V6 := Mv.of_below hbV6
  refine ⟨_, rfl, ?_⟩
  refine pt ?_
  have NR : Hid (Rg V6 w.heap.size (.slice (some ⟨g, off, none⟩) p.nd k) 2 p.nd (wF p.dt p.dh)) := hide (hrx.base szW)
  obtain ⟨g_, off_, eg_, hk1, hk2, hg1, _, hcl⟩ := hrx.rows (by omega)
  cases eg_
  have hgs := (hrx.lt g (rb_some (by omega))).2
  have hc0 : Hid (V6.cell? ⟨g, off + z * 2, none⟩ = some (.string (p.dt z))) := hide (by have := hcl (z * 2) (by omega); rwa [show z * 2 / 2 = z by omega, show z * 2 % 2 = 0 by omega] at this)
  have hc1 : Hid (V6.cell? ⟨g, off + z * 2 + 1, none⟩ = some (.bool (p.dh z))) := hide (by have := hcl (z * 2 + 1) (by omega); rwa [show (z * 2 + 1) / 2 = z by omega, show (z * 2 + 1) % 2 = 1 by omega] at this)
  have hg2 : g < V6.heap.size := hgs
  have gT : b2 < g := by omega
  have gW : w.heap.size ≤ g := by omega
  clear hbV6 hrx hcl szT szW hgs hg1
  refine sv (.slice (some ⟨g, off, none⟩) p.nd k) ?_
  refine nt (hK _ _ ?_); clear hK K; refine sk fun K hK => rl ?_
  refine sv (.slice (some ⟨g, off, none⟩) p.nd k) ?_
  refine sv (.pointer (some ⟨b1, 0, none⟩)) ?_
  refine sv (.pointer (some ⟨b1, 1, none⟩)) ?_
  replace bx1 := Xbn (Xbn bx1 m5) m6; refine sl 1 bx1 ?_
  refine sg (.pointer (some ⟨g, off + z * 2, none⟩)) (h := by have hz0 : (0 : Int) ≤ (z : Int) := (by omega); have hz1 : (z : Int) < (p.nd : Int) := (by omega); go_simp) ?_
  refine sg (.agg #[.string (p.dt z), .bool false]) (h := by have y0 := hc0.out; have y1 := hc1.out; rw [hhurt] at y1; go_simp) ?_
  refine sbp #[.string ⟨#[]⟩, .bool false] 73 fun V7 b3 hb3 m7 bx3 => ?_
  replace bx2 := Xbn bx2 m6; have o2_3 := Xlo bx2 hb3
  have gb : g < b3 := by omega
  replace NR := hide (NR.out.mv m7 (fun _ _ h => h))
  replace hc0 := hide (m7.cell hc0.out (fun h => h))
  replace hc1 := hide (m7.cell hc1.out (fun h => h))
  clear hb3
  refine ss2 (.string (p.dt z)) (.bool false) bx3 fun V8 m8 bx3 => ?_
  replace NR := hide (NR.out.mv m8 (fun x hx h => by have h : x = b3 := h; have e : g = x := rb_blk hx; omega))
  replace hc0 := hide (m8.cell hc0.out (fun h => by have h : g = b3 := h; omega))
  replace hc1 := hide (m8.cell hc1.out (fun h => by have h : g = b3 := h; omega))
  refine nt (hK _ _ ?_); clear hK K; refine sk fun K hK => sk fun K hK => rl ?_
  refine sv (.pointer (some ⟨b1, 2, none⟩)) ?_
  replace bx1 := Xbb (Xbn bx1 m7) m8; refine sl 2 bx1 ?_
  refine sg (.bool false) (h := by have hb0 := hbit0; go_simp) ?_
  refine sv (.bool false) ?_
  refine sv (.pointer (some ⟨b1, 2, none⟩)) ?_
  refine sl 2 bx1 ?_
  refine sv (.pointer (some ⟨b3, 0, none⟩)) ?_
  refine sl 0 bx3 ?_
  refine sg (.int .i64 (((p.dt z).size : Int))) ?_
  refine sg (.int .i64 (8 * ((p.dt z).size : Int))) (h := by have hw8 : IntKind.i64.wrap (8 * ((p.dt z).size : Int)) = 8 * ((p.dt z).size : Int) := i64wrap (by omega); go_simp) ?_
  refine sg (.bool false) (h := by have hb1 := hbit1; go_simp) ?_
  refine sg (.bool false) ?_
  refine nt (hK _ _ ?_); clear hK K; refine cf (wp_skip (then_normal (hK _ _ ?_))); clear hK K; refine sk fun K hK => sk fun K hK => rl ?_
  refine sv (.pointer (some ⟨b3, 1, none⟩)) ?_
  refine sg (.bool false) (h := by have z0 := cell_box 1 (bx3.out) rfl; have hh := hhurt; go_simp) ?_
  refine nt (hK _ _ ?_); clear hK K; refine cf (wp_skip (then_normal (hK _ _ ?_))); clear hK K; refine sk fun K hK => ?_
  refine wp_region_but (z := 11) (S := fun w' => Mv (nob) V8.drew w') (by kernel_rfl) (Mv.refl _ _) (fun hS => ?_)
  have m9 : Mv nob V8 V8.drew := Mv.drew _
  obtain ⟨V9, hV9⟩ : ∃ V, V8.drew = V := ⟨_, rfl⟩
  rw [hV9] at hS m9 ⊢
  clear hV9
  replace NR := hide (NR.out.mv m9 (fun _ _ h => h))
  replace hc0 := hide (m9.cell hc0.out (fun h => h))
  replace hc1 := hide (m9.cell hc1.out (fun h => h))
  replace bx0 := Xbn (Xbb (Xbn (Xbn (Xbn bx0 m5) m6) m7) m8) m9; have rbx0 := bx0; replace bx1 := Xbn bx1 m9; have rbx1 := bx1; replace bx2 := Xbn (Xbb (Xbn bx2 m7) m8) m9; have rbx2 := bx2; replace bx3 := Xbn bx3 m9; have rbx3 := bx3
  refine tk0 0 (.slice (some ⟨g, off, none⟩) p.nd k) rfl ?_
  refine tk0 1 (.pointer (some ⟨b1, 0, none⟩)) rfl ?_
  refine tk0 2 (.pointer (some ⟨b1, 1, none⟩)) rfl ?_
  refine tk 3 (.int .i64 ((z : Int))) rfl (fun w' hSw => by (try dsimp only at hSw); have z0 := cell_box 1 (hSw.box rbx1.out (fun h => h)) rfl; go_simp) ?_
  refine tk0 4 (.pointer (some ⟨b3, 0, none⟩)) rfl ?_
  refine tk 5 (.string (p.dt z)) rfl (fun w' hSw => by (try dsimp only at hSw); have z0 := cell_box 0 (hSw.box rbx3.out (fun h => h)) rfl; go_simp) ?_
  refine tk0 6 (.pointer (some ⟨b1, 2, none⟩)) rfl ?_
  refine tk 7 (.int .i64 ((n : Int))) rfl (fun w' hSw => by (try dsimp only at hSw); have z0 := cell_box 2 (hSw.box rbx1.out (fun h => h)) rfl; go_simp) ?_
  refine kd_call (i := 8) (by kernel_rfl) rfl (by rfl) (by first | rfl | (go_simp; done)) (textTurned_any (p.dt z) n V9 (by omega) (by omega)) ?_
  rintro e V10 ⟨rfl, hbV10⟩
  have m10 : Mv (nob) V9 V10 := Mv.of_below hbV10
  replace hS := hS.step m10 (fun _ _ h => h.elim)
  refine ⟨_, rfl, fun _ => hS, ?_⟩
  refine ptk ?_
  replace NR := hide (NR.out.mv m10 (fun _ _ h => h))
  replace hc0 := hide (m10.cell hc0.out (fun h => h))
  replace hc1 := hide (m10.cell hc1.out (fun h => h))
  clear hbV10
  refine tk0 9 (.agg #[.string (trn (p.dt z) n), .bool true]) rfl ?_
  refine tk 10 (.pointer (some ⟨g, off + z * 2, none⟩)) rfl (fun w' hSw => by (try dsimp only at hSw); have hz0 : (0 : Int) ≤ (z : Int) := (by omega); have hz1 : (z : Int) < (p.nd : Int) := (by omega); go_simp) ?_
  obtain ⟨g_, off_, eg_, _, _, _, hwc, _⟩ := NR.out.rows (by omega)
  cases eg_
  have hfr := hwc.facts.1
  clear hwc
  refine kd_skipI (i := 11) (w' := (V10.setCell ⟨g, off + z * 2, none⟩ (.string (trn (p.dt z) n))).setCell ⟨g, off + z * 2 + 1, none⟩ (.bool true)) (fun V => Mv (fun x => x = g) V10 V ∧ Rg V w.heap.size (.slice (some ⟨g, off, none⟩) p.nd k) 2 p.nd (wF (upd p.dt z (trn (p.dt z) n)) (upd p.dh z true))) (by kernel_rfl) rfl (by rfl) (by have y0 := hc0.out; have y1 := hc1.out; go_simp) ⟨((Mv.refl _ _).set _ _).set _ _, NR.out.setW _ _ (by omega)⟩ (fun _ _ h => absurd rfl h) ?_
  rintro V11 ⟨m11, nxV11⟩
  refine ptk ?_
  clear hfr hc0 hc1
  replace HB := Xhn (Xhn (Xhb (Xhn (Xhn HB m6) m7) m8) m9) m10; replace HB := hide (HB.out.step m11 (fun x hx h => by have h : x = g := h; exfalso; omega))
  replace LO := Xln (Xln (Xlb (Xln (Xln LO m6) m7) LT m8) m9) m10; replace LO := hide (LO.out.mv m11 (fun x hx h => by have h : x = g := h; have := LT.out x hx; omega))
  replace bx0 := Xbn bx0 m10; replace bx0 := hide (m11.box bx0.out (show ¬ (b0 = g) by omega))
  replace bx1 := Xbn bx1 m10; replace bx1 := hide (m11.box bx1.out (show ¬ (b1 = g) by omega))
  replace bx2 := Xbn bx2 m10; replace bx2 := hide (m11.box bx2.out (show ¬ (b2 = g) by omega))
  replace bx3 := Xbn bx3 m10; replace bx3 := hide (m11.box bx3.out (show ¬ (b3 = g) by omega))
  replace NR := hide nxV11
  clear nxV11
  refine wpAnyK_done (by kernel_rfl) ?_
  clear hS rbx0 rbx1 rbx2 rbx3
  refine then_normal (hK _ _ ?_); clear hK K; refine sk fun K hK => rl ?_
  refine sl6 bx0 ?_
  refine sv (.pointer (some ⟨b1, 0, none⟩)) ?_
  refine sv (.pointer (some ⟨b1, 0, none⟩)) ?_
  refine sl 0 bx1 ?_
  refine sv (.slice (some ⟨g, off, none⟩) p.nd k) ?_
  refine sw_call (by rfl) (by first | rfl | (go_simp; done)) (with_dn p.base p.want wa ga da ua p.nw p.ng p.nd p.nu wc gc dc uc (some ⟨g, off, none⟩) p.nd k V11) ?_
  rintro e V12 ⟨rfl, hbV12⟩
  have m12 : Mv (nob) V11 V12 := Mv.of_below hbV12
  refine ⟨_, rfl, ?_⟩
  refine pt ?_
  replace NR := hide (NR.out.mv m12 (fun _ _ h => h))
  clear hbV12
  replace bx2 := Xbn bx2 m12; refine ss6 (.int .i64 p.base) (.slice wa p.nw wc) (.int .i64 p.want) (.slice ga p.ng gc) (.slice (some ⟨g, off, none⟩) p.nd k) (.slice ua p.nu uc) bx2 fun V13 m13 bx2 => ?_
  replace NR := hide (NR.out.mv m13 (fun x hx h => by have h : x = b2 := h; have e : g = x := rb_blk hx; omega))
  refine sv (.int .i64 0) ?_
  refine nt (hK _ _ ?_); clear hK K; refine wp_ret ?_
  try simp only [Exit.then, Exit.inBlock, ↓reduceIte, Nat.reduceEqDiff]
  obtain ⟨_, q2_0, q2_1, q2_2, q2_3, q2_4, q2_5⟩ := box6 bx2.out
  replace HB := Xhb (Xhn HB m12) m13; replace LO := Xlb (Xln LO m12) LT m13; exact bodyPost_ret (v := .tuple #[.agg #[.int .i64 p.base, .slice wa p.nw wc, .int .i64 p.want, .slice ga p.ng gc, .slice (some ⟨g, off, none⟩) p.nd k, .slice ua p.nu uc], .int .i64 0]) (by simp [results, Try.results73, go_sem, q2_0, q2_1, q2_2, q2_3, q2_4, q2_5]) rfl ⟨_, _, _, _, rfl, HB.out, LO.out, LO.out.with_dn (NR.out.base hbs) (fun x e h => by have e2 : g = x := rb_blk e; have := LT.out x h; omega), nw_dn (fun x e => .inr (by have e2 : g = x := rb_blk e; omega))⟩


end Go.Proofs.Ytnkocikbapbbmaa
