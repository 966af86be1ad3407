/- LcB -/
import Derived.Test.YtgflipkhhpkidaaYnkCalm45
import Derived.Deep.LoopGhost
/- spec.l8All (written by mkLcB.py) -/
namespace Go.Proofs.Ytgflipkhhpkidaa
open Go.RowKit
set_option linter.unusedVariables false
set_option linter.unusedSimpArgs false

abbrev LsP (wv0 gv0 dv0 uv0 : Value) (w : World) (A : Lk × Bool) : Ending → World → Prop := fun e w' => ∃ wv gv dv uv, e = .returned (.tuple #[.agg (l6 A.1.base wv A.1.want gv dv uv), .bool A.2]) ∧ Mv nob w w' ∧ Lr w' 0 wv gv dv uv A.1 ∧ Nw w.heap.size wv0 gv0 dv0 uv0 wv gv dv uv

set_option maxHeartbeats 8000000 in
set_option maxRecDepth 20000 in
theorem l8All_3 (p : Lk) (x0a y0a z0a t0a : Option Addr) (x0c y0c z0c t0c : Nat) (w : World) (hr : Lr w 0 (.slice x0a p.nw x0c) (.slice y0a p.ng y0c) (.slice z0a p.nd z0c) (.slice t0a p.nu t0c) p) (hf : Lf p) (AL : Lk × Bool) (hAL : alC 3 p = AL) :
    Calls Try.prog 38 #[.agg (l6 p.base (.slice x0a p.nw x0c) p.want (.slice y0a p.ng y0c) (.slice z0a p.nd z0c) (.slice t0a p.nu t0c)), .int .i64 3] w (LsP (.slice x0a p.nw x0c) (.slice y0a p.ng y0c) (.slice z0a p.nd z0c) (.slice t0a p.nu t0c) w AL) := by
  have HB : Hid (Mv nob w w) := hide (Mv.refl _ _)
  have LN := hide hr
  have LT := hide (fun g (h : Lrb (.slice x0a p.nw x0c) (.slice y0a p.ng y0c) (.slice z0a p.nd z0c) (.slice t0a p.nu t0c) g) => (hr.lt g h).2)
  go_enter Try.func38, Try.ntmps38
  refine sk fun K hK => rl ?_
  refine sbp #[.int .i64 p.base, .slice x0a p.nw x0c, .int .i64 p.want, .slice y0a p.ng y0c, .slice z0a p.nd z0c, .slice t0a p.nu t0c] 27 fun V1 b0 hb0 m1 bx0 => ?_
  have o_0 : w.heap.size ≤ b0 := by omega
  replace LN := hide (LN.out.mv m1 (fun _ _ h => h))
  clear hb0
  refine sbp #[.int .i64 0, .slice none 0 0, .int .i64 0, .slice none 0 0, .slice none 0 0, .slice none 0 0] 27 fun V2 b1 hb1 m2 bx1 => ?_
  have o0_1 := Xlo bx0 hb1
  replace LN := hide (LN.out.mv m2 (fun _ _ h => h))
  clear hb1
  refine sv (.bool false) ?_
  refine nt (hK _ _ ?_); clear hK K; refine sk fun K hK => wp_block ?_
  have AF : Hid (∀ g, Lrb (.slice x0a p.nw x0c) (.slice y0a p.ng y0c) (.slice z0a p.nd z0c) (.slice t0a p.nu t0c) g → g ≠ b0 ∧ g ≠ b1) := hide (fun g h => by have := LT.out g h; omega)
  have AN : Hid (Nw w.heap.size (.slice x0a p.nw x0c) (.slice y0a p.ng y0c) (.slice z0a p.nd z0c) (.slice t0a p.nu t0c) (.slice x0a p.nw x0c) (.slice y0a p.ng y0c) (.slice z0a p.nd z0c) (.slice t0a p.nu t0c)) := hide (Nw.refl _ _ _ _ _)
  have QF : Hid (Lf p ∧ alC 3 p = AL) := hide ⟨hf, hAL⟩
  clear hAL
  replace HB := Xhn (Xhn HB m1) m2; replace bx0 := Xbn bx0 m2; refine wp_loop_ghost (fun m a' w' => ∃ (q : Lk) (xa : Option Addr) (xc : Nat) (ya : Option Addr) (yc : Nat) (za : Option Addr) (zc : Nat) (ta : Option Addr) (tc : Nat) (u5 : Value) (u6 : Value) (u7 : Value) (u8 : Value) (u9 : Value) (u10 : Value) (u11 : Value) (u12 : Value) (u13 : Value) (u14 : Value) (u15 : Value) (u16 : Value) (u17 : Value) (u18 : Value) (u19 : Value) (u20 : Value) (u21 : Value) (u22 : Value) (u23 : Value) (u24 : Value) (u25 : Value) (u26 : Value) (u27 : Value) (u28 : Value) (u29 : Value) (u30 : Value) (u31 : Value) (u32 : Value) (u33 : Value) (u34 : Value) (u35 : Value) (u36 : Value), m = q.nd ∧ a' = ⟨#[.agg #[.int .i64 p.base, .slice x0a p.nw x0c, .int .i64 p.want, .slice y0a p.ng y0c, .slice z0a p.nd z0c, .slice t0a p.nu t0c], .int .i64 3, .pointer (some ⟨b0, 0, none⟩), undef, .pointer (some ⟨b1, 0, none⟩), u5, u6, u7, u8, u9, u10, u11, u12, u13, u14, u15, u16, u17, u18, u19, u20, u21, u22, u23, u24, u25, u26, u27, u28, u29, u30, u31, u32, u33, u34, u35, u36, undef], []⟩ ∧ (Mv nob w w') ∧ (Lr w' 0 (.slice xa q.nw xc) (.slice ya q.ng yc) (.slice za q.nd zc) (.slice ta q.nu tc) q) ∧ (∀ g, Lrb (.slice xa q.nw xc) (.slice ya q.ng yc) (.slice za q.nd zc) (.slice ta q.nu tc) g → g ≠ b0 ∧ g ≠ b1) ∧ (Nw w.heap.size (.slice x0a p.nw x0c) (.slice y0a p.ng y0c) (.slice z0a p.nd z0c) (.slice t0a p.nu t0c) (.slice xa q.nw xc) (.slice ya q.ng yc) (.slice za q.nd zc) (.slice ta q.nu tc)) ∧ (Lf q ∧ alC 3 q = AL) ∧ (w'.heap[b0]? = some (.cells #[.int .i64 q.base, .slice xa q.nw xc, .int .i64 q.want, .slice ya q.ng yc, .slice za q.nd zc, .slice ta q.nu tc] 27 (0, 0))) ∧ (w'.heap[b1]? = some (.cells #[.int .i64 0, .slice none 0 0, .int .i64 0, .slice none 0 0, .slice none 0 0, .slice none 0 0] 27 (0, 0)))) (p.nd) ⟨p, x0a, x0c, y0a, y0c, z0a, z0c, t0a, t0c, _, _, _, _, _, _, _, _, _, _, _, _, _, _, _, _, _, _, _, _, _, _, _, _, _, _, _, _, _, _, _, _, rfl, rfl, (HB.out), (LN.out), (AF.out), (AN.out), (QF.out), (bx0.out), (bx1.out)⟩ (fun m a' VL1 hI => ?_)
  obtain ⟨q, xa, xc, ya, yc, za, zc, ta, tc, u5, u6, u7, u8, u9, u10, u11, u12, u13, u14, u15, u16, u17, u18, u19, u20, u21, u22, u23, u24, u25, u26, u27, u28, u29, u30, u31, u32, u33, u34, u35, u36, rfl, rfl, i_HB, i_LN, i_AF, i_AN, i_QF, i_bx0, i_bx1⟩ := hI
  clear HB LN bx0 bx1
  have HB := hide i_HB
  clear i_HB
  have LN := hide i_LN
  clear i_LN
  have AF := hide i_AF
  clear i_AF
  have AN := hide i_AN
  clear i_AN
  have QF := hide i_QF
  clear i_QF
  have bx0 := hide i_bx0
  clear i_bx0
  have bx1 := hide i_bx1
  clear i_bx1
  refine sk fun K hK => sk fun K hK => rl ?_
  by_cases hn : q.nd = 0
  · refine sv (.int .i64 3) ?_
    refine sg (.bool true) ?_
    refine sv (.bool true) ?_
    refine sv (.pointer (some ⟨b0, 4, none⟩)) ?_
    refine sl 4 bx0 ?_
    refine sg (.int .i64 (q.nd : Int)) ?_
    refine sg (.bool false) (h := by have q1 : decide (0 < (q.nd : Int)) = false := decide_eq_false (by omega); have q2 : decide (0 < q.nd) = false := decide_eq_false (by omega); go_simp) ?_
    refine sg (.bool false) ?_
    refine sv (.bool false) ?_
    refine sv (.int .i64 3) ?_
    refine sg (.bool false) ?_
    refine sv (.bool false) ?_
    with_reducible refine sp ?_
    with_reducible refine sp ?_
    with_reducible refine sp ?_
    with_reducible refine sp ?_
    refine sg (.bool false) ?_
    refine sg (.bool false) ?_
    refine nt (hK _ _ ?_); clear hK K; refine cf ?_; refine wp_exit ?_; refine then_exit ?_; refine then_exit ?_; refine inb_here rfl ?_; refine then_normal ?_; clear hK K; refine hK _ _ ?_; clear hK K; refine sk fun K hK => rl ?_
    refine sl6 bx0 ?_
    refine ss6 (.int .i64 q.base) (.slice xa q.nw xc) (.int .i64 q.want) (.slice ya q.ng yc) (.slice za q.nd zc) (.slice ta q.nu tc) bx1 fun V3 m3 bx1 => ?_
    replace LN := hide (LN.out.mv m3 (fun g hg h => by have h : g = b1 := h; have := AF.out g hg; omega))
    refine sv (.bool true) ?_
    refine nt (hK _ _ ?_); clear hK K; refine wp_ret ?_
    have hA : (q, true) = AL := (al_zero (k := 3) (by simp [cnt, hn])).symm.trans QF.out.2
    subst hA
    try simp only [Exit.then, Exit.inBlock, ↓reduceIte, Nat.reduceEqDiff]
    obtain ⟨_, q1_0, q1_1, q1_2, q1_3, q1_4, q1_5⟩ := box6 bx1.out
    replace HB := Xhb HB m3; exact bodyPost_ret (v := .tuple #[.agg #[.int .i64 q.base, .slice xa q.nw xc, .int .i64 q.want, .slice ya q.ng yc, .slice za q.nd zc, .slice ta q.nu tc], .bool true]) (by simp [results, Try.results38, go_sem, q1_0, q1_1, q1_2, q1_3, q1_4, q1_5]) rfl ⟨_, _, _, _, rfl, HB.out, LN.out, AN.out⟩
  refine sv (.int .i64 3) ?_
  refine sg (.bool true) ?_
  refine sv (.bool true) ?_
  refine sv (.pointer (some ⟨b0, 4, none⟩)) ?_
  refine sl 4 bx0 ?_
  refine sg (.int .i64 (q.nd : Int)) ?_
  refine sg (.bool true) (h := by have q1 : decide (0 < (q.nd : Int)) = true := decide_eq_true (by omega); have q2 : decide (0 < q.nd) = true := decide_eq_true (by omega); go_simp) ?_
  refine sg (.bool true) ?_
  refine sv (.bool true) ?_
  with_reducible refine sp ?_
  with_reducible refine sp ?_
  with_reducible refine sp ?_
  with_reducible refine sp ?_
  with_reducible refine sp ?_
  with_reducible refine sp ?_
  with_reducible refine sp ?_
  with_reducible refine sp ?_
  refine sg (.bool true) ?_
  refine nt (hK _ _ ?_); clear hK K; refine ct (wp_skip (then_normal (hK _ _ ?_))); clear hK K; refine wp_block (sk fun K hK => rl ?_)
  have hcall := fun V h => l8Do_any q (.slice xa q.nw xc) (.slice ya q.ng yc) (.slice za q.nd zc) (.slice ta q.nu tc) V h 3 0 0 e0 QF.out.1
  have st := @al_step q 3 (by decide)
  have sp_ := @al_stop q 3 (by decide)
  have cs := @cnt_step q 3 (by decide)
  have lf := ld_lf QF.out.1 3 0 0 e0
  have n3 : ldC q 3 0 0 e0 ≠ 3 := by rw [ldC_three, if_neg hn]; split <;> decide
  generalize ldL q 3 0 0 e0 = L at hcall st cs lf
  generalize ldC q 3 0 0 e0 = C at hcall st sp_ cs n3
  have HS := hide (And.intro st (And.intro sp_ (And.intro cs (And.intro lf n3))))
  clear st sp_ cs lf n3
  refine sl6 bx0 ?_
  refine sv (.int .i64 3) ?_
  refine sv (.agg #[.int .i64 3, .int .i64 0, .int .i64 0, .string ⟨#[]⟩]) ?_
  have szT := lt_of_block bx1.out
  have szW := HB.out.size
  refine sw_call (by rfl) (by first | rfl | (go_simp; done)) (hcall VL1 LN.out.la) ?_
  rintro e V4 ⟨wv, gv, dv, uv, rfl, LQ, hbV4⟩
  have m4 : Mv (nob) VL1 V4 := Mv.of_below hbV4
  refine ⟨_, rfl, ?_⟩
  refine pt ?_
  replace LN := hide (LN.out.mv m4 (fun _ _ h => h))
  obtain ⟨x2a, x2c, rfl, _⟩ := LQ.wa.form
  obtain ⟨y2a, y2c, rfl, _⟩ := LQ.go.form
  obtain ⟨z2a, z2c, rfl, _⟩ := LQ.dn.form
  obtain ⟨t2a, t2c, rfl, _⟩ := LQ.up.form
  have L2 := hide (LQ.lower (Nat.zero_le _))
  have A2 : Hid (∀ g, Lrb (.slice x2a L.nw x2c) (.slice y2a L.ng y2c) (.slice z2a L.nd z2c) (.slice t2a L.nu t2c) g → w.heap.size ≤ g ∧ g ≠ b0 ∧ g ≠ b1) := hide (fun g h => by have := (LQ.lt g h).1; omega)
  clear LQ hcall szT szW hbV4
  refine sv (.tuple #[.agg #[.int .i64 L.base, .slice x2a L.nw x2c, .int .i64 L.want, .slice y2a L.ng y2c, .slice z2a L.nd z2c, .slice t2a L.nu t2c], .int .i64 C]) ?_
  refine sv (.agg #[.int .i64 L.base, .slice x2a L.nw x2c, .int .i64 L.want, .slice y2a L.ng y2c, .slice z2a L.nd z2c, .slice t2a L.nu t2c]) ?_
  refine sv (.int .i64 C) ?_
  refine sbp #[.int .i64 0, .slice none 0 0, .int .i64 0, .slice none 0 0, .slice none 0 0, .slice none 0 0] 27 fun V5 b2 hb2 m5 bx2 => ?_
  replace bx1 := Xbn bx1 m4; have o1_2 := Xlo bx1 hb2
  have A3 : Hid (∀ g, Lrb (.slice x2a L.nw x2c) (.slice y2a L.ng y2c) (.slice z2a L.nd z2c) (.slice t2a L.nu t2c) g → g ≠ b2) := hide (fun g h => by have h2 := (L2.out.lt g h).2; omega)
  have A4 : Hid (∀ g, Lrb (.slice xa q.nw xc) (.slice ya q.ng yc) (.slice za q.nd zc) (.slice ta q.nu tc) g → g ≠ b2) := hide (fun g h => by have h2 := (LN.out.lt g h).2; omega)
  replace LN := hide (LN.out.mv m5 (fun _ _ h => h))
  replace L2 := hide (L2.out.mv m5 (fun _ _ h => h))
  clear hb2
  refine ss6 (.int .i64 L.base) (.slice x2a L.nw x2c) (.int .i64 L.want) (.slice y2a L.ng y2c) (.slice z2a L.nd z2c) (.slice t2a L.nu t2c) bx2 fun V6 m6 bx2 => ?_
  replace LN := hide (LN.out.mv m6 (fun g hg h => by have h : g = b2 := h; have := AF.out g hg; have := A4.out g hg; omega))
  replace L2 := hide (L2.out.mv m6 (fun g hg h => by have h : g = b2 := h; have := A2.out g hg; have := A3.out g hg; omega))
  refine sv (.int .i64 C) ?_
  refine nt (hK _ _ ?_); clear hK K; refine sk fun K hK => sk fun K hK => rl ?_
  by_cases hC : ¬ C = 0
  · refine sv (.int .i64 C) ?_
    refine sg (.bool true) (h := by have h0 := hC; go_simp) ?_
    refine nt (hK _ _ ?_); clear hK K; refine ct (sk fun K hK => rl ?_)
    replace bx0 := Xbb (Xbn (Xbn bx0 m4) m5) m6; refine sl6 bx0 ?_
    replace bx1 := Xbb (Xbn bx1 m5) m6; refine ss6 (.int .i64 q.base) (.slice xa q.nw xc) (.int .i64 q.want) (.slice ya q.ng yc) (.slice za q.nd zc) (.slice ta q.nu tc) bx1 fun V7 m7 bx1 => ?_
    replace LN := hide (LN.out.mv m7 (fun g hg h => by have h : g = b1 := h; have := AF.out g hg; have := A4.out g hg; omega))
    replace L2 := hide (L2.out.mv m7 (fun g hg h => by have h : g = b1 := h; have := A2.out g hg; have := A3.out g hg; omega))
    refine sv (.bool false) ?_
    refine nt (hK _ _ ?_); clear hK K; refine wp_ret (then_ret ?_); refine inb_ret ?_; refine then_ret ?_; refine inb_ret ?_; refine then_ret ?_
    have hA : (q, false) = AL := by rw [← QF.out.2, HS.out.2.1 hC, decide_eq_false HS.out.2.2.2.2]
    subst hA
    try simp only [Exit.then, Exit.inBlock, ↓reduceIte, Nat.reduceEqDiff]
    obtain ⟨_, q1_0, q1_1, q1_2, q1_3, q1_4, q1_5⟩ := box6 bx1.out
    replace HB := Xhb (Xhb (Xhn (Xhn HB m4) m5) m6) m7; exact bodyPost_ret (v := .tuple #[.agg #[.int .i64 q.base, .slice xa q.nw xc, .int .i64 q.want, .slice ya q.ng yc, .slice za q.nd zc, .slice ta q.nu tc], .bool false]) (by simp [results, Try.results38, go_sem, q1_0, q1_1, q1_2, q1_3, q1_4, q1_5]) rfl ⟨_, _, _, _, rfl, HB.out, LN.out, AN.out⟩
  have hC0 : C = 0 := by omega
  subst hC0
  clear hC
  refine sv (.int .i64 0) ?_
  refine sg (.bool false) ?_
  refine nt (hK _ _ ?_); clear hK K; refine cf (wp_skip (then_normal (hK _ _ ?_))); clear hK K; refine rl ?_
  clear LN
  refine sl6 bx2 ?_
  replace bx0 := Xbb (Xbn (Xbn bx0 m4) m5) m6; refine ss6 (.int .i64 L.base) (.slice x2a L.nw x2c) (.int .i64 L.want) (.slice y2a L.ng y2c) (.slice z2a L.nd z2c) (.slice t2a L.nu t2c) bx0 fun V8 m8 bx0 => ?_
  replace L2 := hide (L2.out.mv m8 (fun g hg h => by have h : g = b0 := h; have := A2.out g hg; have := A3.out g hg; omega))
  refine wpList_nil (inb_norm (then_normal ?_))
  replace HB := Xhb (Xhb (Xhn (Xhn HB m4) m5) m6) m8; replace bx1 := Xbb (Xbb (Xbn bx1 m5) m6) m8; exact ⟨L.nd, by have := HS.out.2.2.1 rfl; simp only [cnt, if_true] at this; omega, L, x2a, x2c, y2a, y2c, z2a, z2c, t2a, t2c, _, _, _, _, _, _, _, _, _, _, _, _, _, _, _, _, _, _, _, _, _, _, _, _, _, _, _, _, _, _, _, _, rfl, rfl, (HB.out), (L2.out), (fun g h => (A2.out g h).2), (fun g h => .inr (A2.out g h).1), (⟨HS.out.2.2.2.1, (HS.out.1 rfl).trans QF.out.2⟩), (bx0.out), (bx1.out)⟩

set_option maxHeartbeats 8000000 in
set_option maxRecDepth 20000 in
theorem l8All_4 (p : Lk) (x0a y0a z0a t0a : Option Addr) (x0c y0c z0c t0c : Nat) (w : World) (hr : Lr w 0 (.slice x0a p.nw x0c) (.slice y0a p.ng y0c) (.slice z0a p.nd z0c) (.slice t0a p.nu t0c) p) (hf : Lf p) (AL : Lk × Bool) (hAL : alC 4 p = AL) :
    Calls Try.prog 38 #[.agg (l6 p.base (.slice x0a p.nw x0c) p.want (.slice y0a p.ng y0c) (.slice z0a p.nd z0c) (.slice t0a p.nu t0c)), .int .i64 4] w (LsP (.slice x0a p.nw x0c) (.slice y0a p.ng y0c) (.slice z0a p.nd z0c) (.slice t0a p.nu t0c) w AL) := by
  have HB : Hid (Mv nob w w) := hide (Mv.refl _ _)
  have LN := hide hr
  have LT := hide (fun g (h : Lrb (.slice x0a p.nw x0c) (.slice y0a p.ng y0c) (.slice z0a p.nd z0c) (.slice t0a p.nu t0c) g) => (hr.lt g h).2)
  go_enter Try.func38, Try.ntmps38
  refine sk fun K hK => rl ?_
  refine sbp #[.int .i64 p.base, .slice x0a p.nw x0c, .int .i64 p.want, .slice y0a p.ng y0c, .slice z0a p.nd z0c, .slice t0a p.nu t0c] 27 fun V1 b0 hb0 m1 bx0 => ?_
  have o_0 : w.heap.size ≤ b0 := by omega
  replace LN := hide (LN.out.mv m1 (fun _ _ h => h))
  clear hb0
  refine sbp #[.int .i64 0, .slice none 0 0, .int .i64 0, .slice none 0 0, .slice none 0 0, .slice none 0 0] 27 fun V2 b1 hb1 m2 bx1 => ?_
  have o0_1 := Xlo bx0 hb1
  replace LN := hide (LN.out.mv m2 (fun _ _ h => h))
  clear hb1
  refine sv (.bool false) ?_
  refine nt (hK _ _ ?_); clear hK K; refine sk fun K hK => wp_block ?_
  have AF : Hid (∀ g, Lrb (.slice x0a p.nw x0c) (.slice y0a p.ng y0c) (.slice z0a p.nd z0c) (.slice t0a p.nu t0c) g → g ≠ b0 ∧ g ≠ b1) := hide (fun g h => by have := LT.out g h; omega)
  have AN : Hid (Nw w.heap.size (.slice x0a p.nw x0c) (.slice y0a p.ng y0c) (.slice z0a p.nd z0c) (.slice t0a p.nu t0c) (.slice x0a p.nw x0c) (.slice y0a p.ng y0c) (.slice z0a p.nd z0c) (.slice t0a p.nu t0c)) := hide (Nw.refl _ _ _ _ _)
  have QF : Hid (Lf p ∧ alC 4 p = AL) := hide ⟨hf, hAL⟩
  clear hAL
  replace HB := Xhn (Xhn HB m1) m2; replace bx0 := Xbn bx0 m2; refine wp_loop_ghost (fun m a' w' => ∃ (q : Lk) (xa : Option Addr) (xc : Nat) (ya : Option Addr) (yc : Nat) (za : Option Addr) (zc : Nat) (ta : Option Addr) (tc : Nat) (u5 : Value) (u6 : Value) (u7 : Value) (u8 : Value) (u9 : Value) (u10 : Value) (u11 : Value) (u12 : Value) (u13 : Value) (u14 : Value) (u15 : Value) (u16 : Value) (u17 : Value) (u18 : Value) (u19 : Value) (u20 : Value) (u21 : Value) (u22 : Value) (u23 : Value) (u24 : Value) (u25 : Value) (u26 : Value) (u27 : Value) (u28 : Value) (u29 : Value) (u30 : Value) (u31 : Value) (u32 : Value) (u33 : Value) (u34 : Value) (u35 : Value) (u36 : Value), m = q.nu ∧ a' = ⟨#[.agg #[.int .i64 p.base, .slice x0a p.nw x0c, .int .i64 p.want, .slice y0a p.ng y0c, .slice z0a p.nd z0c, .slice t0a p.nu t0c], .int .i64 4, .pointer (some ⟨b0, 0, none⟩), undef, .pointer (some ⟨b1, 0, none⟩), u5, u6, u7, u8, u9, u10, u11, u12, u13, u14, u15, u16, u17, u18, u19, u20, u21, u22, u23, u24, u25, u26, u27, u28, u29, u30, u31, u32, u33, u34, u35, u36, undef], []⟩ ∧ (Mv nob w w') ∧ (Lr w' 0 (.slice xa q.nw xc) (.slice ya q.ng yc) (.slice za q.nd zc) (.slice ta q.nu tc) q) ∧ (∀ g, Lrb (.slice xa q.nw xc) (.slice ya q.ng yc) (.slice za q.nd zc) (.slice ta q.nu tc) g → g ≠ b0 ∧ g ≠ b1) ∧ (Nw w.heap.size (.slice x0a p.nw x0c) (.slice y0a p.ng y0c) (.slice z0a p.nd z0c) (.slice t0a p.nu t0c) (.slice xa q.nw xc) (.slice ya q.ng yc) (.slice za q.nd zc) (.slice ta q.nu tc)) ∧ (Lf q ∧ alC 4 q = AL) ∧ (w'.heap[b0]? = some (.cells #[.int .i64 q.base, .slice xa q.nw xc, .int .i64 q.want, .slice ya q.ng yc, .slice za q.nd zc, .slice ta q.nu tc] 27 (0, 0))) ∧ (w'.heap[b1]? = some (.cells #[.int .i64 0, .slice none 0 0, .int .i64 0, .slice none 0 0, .slice none 0 0, .slice none 0 0] 27 (0, 0)))) (p.nu) ⟨p, x0a, x0c, y0a, y0c, z0a, z0c, t0a, t0c, _, _, _, _, _, _, _, _, _, _, _, _, _, _, _, _, _, _, _, _, _, _, _, _, _, _, _, _, _, _, _, _, rfl, rfl, (HB.out), (LN.out), (AF.out), (AN.out), (QF.out), (bx0.out), (bx1.out)⟩ (fun m a' VL1 hI => ?_)
  obtain ⟨q, xa, xc, ya, yc, za, zc, ta, tc, u5, u6, u7, u8, u9, u10, u11, u12, u13, u14, u15, u16, u17, u18, u19, u20, u21, u22, u23, u24, u25, u26, u27, u28, u29, u30, u31, u32, u33, u34, u35, u36, rfl, rfl, i_HB, i_LN, i_AF, i_AN, i_QF, i_bx0, i_bx1⟩ := hI
  clear HB LN bx0 bx1
  have HB := hide i_HB
  clear i_HB
  have LN := hide i_LN
  clear i_LN
  have AF := hide i_AF
  clear i_AF
  have AN := hide i_AN
  clear i_AN
  have QF := hide i_QF
  clear i_QF
  have bx0 := hide i_bx0
  clear i_bx0
  have bx1 := hide i_bx1
  clear i_bx1
  refine sk fun K hK => sk fun K hK => rl ?_
  by_cases hn : q.nu = 0
  · refine sv (.int .i64 4) ?_
    refine sg (.bool false) ?_
    refine sv (.bool false) ?_
    with_reducible refine sp ?_
    with_reducible refine sp ?_
    with_reducible refine sp ?_
    with_reducible refine sp ?_
    refine sg (.bool false) ?_
    refine sv (.bool false) ?_
    refine sv (.int .i64 4) ?_
    refine sg (.bool true) ?_
    refine sv (.bool true) ?_
    refine sv (.pointer (some ⟨b0, 5, none⟩)) ?_
    refine sl 5 bx0 ?_
    refine sg (.int .i64 (q.nu : Int)) ?_
    refine sg (.bool false) (h := by have q1 : decide (0 < (q.nu : Int)) = false := decide_eq_false (by omega); have q2 : decide (0 < q.nu) = false := decide_eq_false (by omega); go_simp) ?_
    refine sg (.bool false) ?_
    refine sg (.bool false) ?_
    refine nt (hK _ _ ?_); clear hK K; refine cf ?_; refine wp_exit ?_; refine then_exit ?_; refine then_exit ?_; refine inb_here rfl ?_; refine then_normal ?_; clear hK K; refine hK _ _ ?_; clear hK K; refine sk fun K hK => rl ?_
    refine sl6 bx0 ?_
    refine ss6 (.int .i64 q.base) (.slice xa q.nw xc) (.int .i64 q.want) (.slice ya q.ng yc) (.slice za q.nd zc) (.slice ta q.nu tc) bx1 fun V3 m3 bx1 => ?_
    replace LN := hide (LN.out.mv m3 (fun g hg h => by have h : g = b1 := h; have := AF.out g hg; omega))
    refine sv (.bool true) ?_
    refine nt (hK _ _ ?_); clear hK K; refine wp_ret ?_
    have hA : (q, true) = AL := (al_zero (k := 4) (by simp [cnt, hn])).symm.trans QF.out.2
    subst hA
    try simp only [Exit.then, Exit.inBlock, ↓reduceIte, Nat.reduceEqDiff]
    obtain ⟨_, q1_0, q1_1, q1_2, q1_3, q1_4, q1_5⟩ := box6 bx1.out
    replace HB := Xhb HB m3; exact bodyPost_ret (v := .tuple #[.agg #[.int .i64 q.base, .slice xa q.nw xc, .int .i64 q.want, .slice ya q.ng yc, .slice za q.nd zc, .slice ta q.nu tc], .bool true]) (by simp [results, Try.results38, go_sem, q1_0, q1_1, q1_2, q1_3, q1_4, q1_5]) rfl ⟨_, _, _, _, rfl, HB.out, LN.out, AN.out⟩
  refine sv (.int .i64 4) ?_
  refine sg (.bool false) ?_
  refine sv (.bool false) ?_
  with_reducible refine sp ?_
  with_reducible refine sp ?_
  with_reducible refine sp ?_
  with_reducible refine sp ?_
  refine sg (.bool false) ?_
  refine sv (.bool false) ?_
  refine sv (.int .i64 4) ?_
  refine sg (.bool true) ?_
  refine sv (.bool true) ?_
  refine sv (.pointer (some ⟨b0, 5, none⟩)) ?_
  refine sl 5 bx0 ?_
  refine sg (.int .i64 (q.nu : Int)) ?_
  refine sg (.bool true) (h := by have q1 : decide (0 < (q.nu : Int)) = true := decide_eq_true (by omega); have q2 : decide (0 < q.nu) = true := decide_eq_true (by omega); go_simp) ?_
  refine sg (.bool true) ?_
  refine sg (.bool true) ?_
  refine nt (hK _ _ ?_); clear hK K; refine ct (wp_skip (then_normal (hK _ _ ?_))); clear hK K; refine wp_block (sk fun K hK => rl ?_)
  have hcall := fun V h => l8Do_any q (.slice xa q.nw xc) (.slice ya q.ng yc) (.slice za q.nd zc) (.slice ta q.nu tc) V h 4 0 0 e0 QF.out.1
  have st := @al_step q 4 (by decide)
  have sp_ := @al_stop q 4 (by decide)
  have cs := @cnt_step q 4 (by decide)
  have lf := ld_lf QF.out.1 4 0 0 e0
  have n3 : ldC q 4 0 0 e0 ≠ 3 := by rw [ldC_four, if_neg hn]; split <;> decide
  generalize ldL q 4 0 0 e0 = L at hcall st cs lf
  generalize ldC q 4 0 0 e0 = C at hcall st sp_ cs n3
  have HS := hide (And.intro st (And.intro sp_ (And.intro cs (And.intro lf n3))))
  clear st sp_ cs lf n3
  refine sl6 bx0 ?_
  refine sv (.int .i64 4) ?_
  refine sv (.agg #[.int .i64 4, .int .i64 0, .int .i64 0, .string ⟨#[]⟩]) ?_
  have szT := lt_of_block bx1.out
  have szW := HB.out.size
  refine sw_call (by rfl) (by first | rfl | (go_simp; done)) (hcall VL1 LN.out.la) ?_
  rintro e V4 ⟨wv, gv, dv, uv, rfl, LQ, hbV4⟩
  have m4 : Mv (nob) VL1 V4 := Mv.of_below hbV4
  refine ⟨_, rfl, ?_⟩
  refine pt ?_
  replace LN := hide (LN.out.mv m4 (fun _ _ h => h))
  obtain ⟨x2a, x2c, rfl, _⟩ := LQ.wa.form
  obtain ⟨y2a, y2c, rfl, _⟩ := LQ.go.form
  obtain ⟨z2a, z2c, rfl, _⟩ := LQ.dn.form
  obtain ⟨t2a, t2c, rfl, _⟩ := LQ.up.form
  have L2 := hide (LQ.lower (Nat.zero_le _))
  have A2 : Hid (∀ g, Lrb (.slice x2a L.nw x2c) (.slice y2a L.ng y2c) (.slice z2a L.nd z2c) (.slice t2a L.nu t2c) g → w.heap.size ≤ g ∧ g ≠ b0 ∧ g ≠ b1) := hide (fun g h => by have := (LQ.lt g h).1; omega)
  clear LQ hcall szT szW hbV4
  refine sv (.tuple #[.agg #[.int .i64 L.base, .slice x2a L.nw x2c, .int .i64 L.want, .slice y2a L.ng y2c, .slice z2a L.nd z2c, .slice t2a L.nu t2c], .int .i64 C]) ?_
  refine sv (.agg #[.int .i64 L.base, .slice x2a L.nw x2c, .int .i64 L.want, .slice y2a L.ng y2c, .slice z2a L.nd z2c, .slice t2a L.nu t2c]) ?_
  refine sv (.int .i64 C) ?_
  refine sbp #[.int .i64 0, .slice none 0 0, .int .i64 0, .slice none 0 0, .slice none 0 0, .slice none 0 0] 27 fun V5 b2 hb2 m5 bx2 => ?_
  replace bx1 := Xbn bx1 m4; have o1_2 := Xlo bx1 hb2
  have A3 : Hid (∀ g, Lrb (.slice x2a L.nw x2c) (.slice y2a L.ng y2c) (.slice z2a L.nd z2c) (.slice t2a L.nu t2c) g → g ≠ b2) := hide (fun g h => by have h2 := (L2.out.lt g h).2; omega)
  have A4 : Hid (∀ g, Lrb (.slice xa q.nw xc) (.slice ya q.ng yc) (.slice za q.nd zc) (.slice ta q.nu tc) g → g ≠ b2) := hide (fun g h => by have h2 := (LN.out.lt g h).2; omega)
  replace LN := hide (LN.out.mv m5 (fun _ _ h => h))
  replace L2 := hide (L2.out.mv m5 (fun _ _ h => h))
  clear hb2
  refine ss6 (.int .i64 L.base) (.slice x2a L.nw x2c) (.int .i64 L.want) (.slice y2a L.ng y2c) (.slice z2a L.nd z2c) (.slice t2a L.nu t2c) bx2 fun V6 m6 bx2 => ?_
  replace LN := hide (LN.out.mv m6 (fun g hg h => by have h : g = b2 := h; have := AF.out g hg; have := A4.out g hg; omega))
  replace L2 := hide (L2.out.mv m6 (fun g hg h => by have h : g = b2 := h; have := A2.out g hg; have := A3.out g hg; omega))
  refine sv (.int .i64 C) ?_
  refine nt (hK _ _ ?_); clear hK K; refine sk fun K hK => sk fun K hK => rl ?_
  by_cases hC : ¬ C = 0
  · refine sv (.int .i64 C) ?_
    refine sg (.bool true) (h := by have h0 := hC; go_simp) ?_
    refine nt (hK _ _ ?_); clear hK K; refine ct (sk fun K hK => rl ?_)
    replace bx0 := Xbb (Xbn (Xbn bx0 m4) m5) m6; refine sl6 bx0 ?_
    replace bx1 := Xbb (Xbn bx1 m5) m6; refine ss6 (.int .i64 q.base) (.slice xa q.nw xc) (.int .i64 q.want) (.slice ya q.ng yc) (.slice za q.nd zc) (.slice ta q.nu tc) bx1 fun V7 m7 bx1 => ?_
    replace LN := hide (LN.out.mv m7 (fun g hg h => by have h : g = b1 := h; have := AF.out g hg; have := A4.out g hg; omega))
    replace L2 := hide (L2.out.mv m7 (fun g hg h => by have h : g = b1 := h; have := A2.out g hg; have := A3.out g hg; omega))
    refine sv (.bool false) ?_
    refine nt (hK _ _ ?_); clear hK K; refine wp_ret (then_ret ?_); refine inb_ret ?_; refine then_ret ?_; refine inb_ret ?_; refine then_ret ?_
    have hA : (q, false) = AL := by rw [← QF.out.2, HS.out.2.1 hC, decide_eq_false HS.out.2.2.2.2]
    subst hA
    try simp only [Exit.then, Exit.inBlock, ↓reduceIte, Nat.reduceEqDiff]
    obtain ⟨_, q1_0, q1_1, q1_2, q1_3, q1_4, q1_5⟩ := box6 bx1.out
    replace HB := Xhb (Xhb (Xhn (Xhn HB m4) m5) m6) m7; exact bodyPost_ret (v := .tuple #[.agg #[.int .i64 q.base, .slice xa q.nw xc, .int .i64 q.want, .slice ya q.ng yc, .slice za q.nd zc, .slice ta q.nu tc], .bool false]) (by simp [results, Try.results38, go_sem, q1_0, q1_1, q1_2, q1_3, q1_4, q1_5]) rfl ⟨_, _, _, _, rfl, HB.out, LN.out, AN.out⟩
  have hC0 : C = 0 := by omega
  subst hC0
  clear hC
  refine sv (.int .i64 0) ?_
  refine sg (.bool false) ?_
  refine nt (hK _ _ ?_); clear hK K; refine cf (wp_skip (then_normal (hK _ _ ?_))); clear hK K; refine rl ?_
  clear LN
  refine sl6 bx2 ?_
  replace bx0 := Xbb (Xbn (Xbn bx0 m4) m5) m6; refine ss6 (.int .i64 L.base) (.slice x2a L.nw x2c) (.int .i64 L.want) (.slice y2a L.ng y2c) (.slice z2a L.nd z2c) (.slice t2a L.nu t2c) bx0 fun V8 m8 bx0 => ?_
  replace L2 := hide (L2.out.mv m8 (fun g hg h => by have h : g = b0 := h; have := A2.out g hg; have := A3.out g hg; omega))
  refine wpList_nil (inb_norm (then_normal ?_))
  replace HB := Xhb (Xhb (Xhn (Xhn HB m4) m5) m6) m8; replace bx1 := Xbb (Xbb (Xbn bx1 m5) m6) m8; exact ⟨L.nu, by have := HS.out.2.2.1 rfl; simp only [cnt, show ¬ (4 : Int) = 3 by decide, if_false] at this; omega, L, x2a, x2c, y2a, y2c, z2a, z2c, t2a, t2c, _, _, _, _, _, _, _, _, _, _, _, _, _, _, _, _, _, _, _, _, _, _, _, _, _, _, _, _, _, _, _, _, rfl, rfl, (HB.out), (L2.out), (fun g h => (A2.out g h).2), (fun g h => .inr (A2.out g h).1), (⟨HS.out.2.2.2.1, (HS.out.1 rfl).trans QF.out.2⟩), (bx0.out), (bx1.out)⟩

end Go.Proofs.Ytgflipkhhpkidaa
