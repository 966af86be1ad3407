/- LcD -/
import Derived.Test.YtgflipkhhpkidaaYnkCalm50
import Derived.Test.YtgflipkhhpkidaaYnkCalm52
/- spec.LinkCalmed (written by mkLcC.py) -/
namespace Go.Proofs.Ytgflipkhhpkidaa
open Go.RowKit
set_option linter.unusedVariables false
set_option linter.unusedSimpArgs false

theorem Rg.rebase {w : World} {b b' m n : Nat} {v : Value} {f : Nat → Nat → Value} (h : Rg w b v m n f) (hg : ∀ g, rb v = some g → b' ≤ g) : Rg w b' v m n f := by
  rcases h with h | ⟨g, off, k, e, h1, hp, h0, h2, h3, h4⟩
  · exact .inl h
  · exact .inr ⟨g, off, k, e, h1, hp, h0, hg g (by rw [e]; exact rb_some hp), h3, h4⟩
theorem Lr.rebase {w : World} {b b' : Nat} {wv gv dv uv : Value} {p : Lk} (h : Lr w b wv gv dv uv p) (hg : ∀ g, Lrb wv gv dv uv g → b' ≤ g) : Lr w b' wv gv dv uv p :=
  ⟨h.wa.rebase (fun g e => hg g (.inl e)), h.go.rebase (fun g e => hg g (.inr (.inl e))), h.dn.rebase (fun g e => hg g (.inr (.inr (.inl e)))), h.up.rebase (fun g e => hg g (.inr (.inr (.inr e)))), h.aw, h.ag, h.ad⟩

set_option maxHeartbeats 8000000 in
set_option maxRecDepth 20000 in
theorem specCalmed_any (p : Lk) (wv0 gv0 dv0 uv0 : Value) (w : World) (ha : La w wv0 gv0 dv0 uv0 p) (hsm : Lsm 1048576 p) :
    Calls Try.prog 18 #[.agg (l6 p.base wv0 p.want gv0 dv0 uv0)] w (CmP w (cmL p)) := by
  have ha0 := hide ha
  clear ha
  cases hok : lkB p with
  | false =>
    rw [show cmL p = (zeL, false) from by simp [cmL, hok]]
    have HB : Hid (Mv nob w w) := hide (Mv.refl _ _)
    go_enter Try.func18, Try.ntmps18
    refine sk fun K hK => rl ?_
    refine sbp #[.int .i64 p.base, wv0, .int .i64 p.want, gv0, dv0, uv0] 27 fun V1 b0 hb0 m1 bx0 => ?_
    have o_0 : w.heap.size ≤ b0 := by omega
    clear hb0
    refine sbp #[.int .i64 0, .slice none 0 0, .int .i64 0, .slice none 0 0, .slice none 0 0, .slice none 0 0] 27 fun V2 b1 hb1 m2 bx1 => ?_
    have o0_1 := Xlo bx0 hb1; clear hb1
    refine sv (.bool false) ?_
    refine nt (hK _ _ ?_); clear hK K; refine sk fun K hK => sk fun K hK => rl ?_
    replace bx0 := Xbn bx0 m2; refine sl6 bx0 ?_
    replace HB := Xhn (Xhn HB m1) m2; refine sw_call (by rfl) (by first | rfl | (go_simp; done)) (specLinkOk_la false p wv0 gv0 dv0 uv0 V2 hok (ha0.out.below HB.out.below) hsm) ?_
    rintro e V3 ⟨rfl, hbV3⟩
    have m3 : Mv (nob) V2 V3 := Mv.of_below hbV3
    refine ⟨_, rfl, ?_⟩
    refine pt ?_
    clear hbV3
    refine sg (.bool true) ?_
    refine nt (hK _ _ ?_); clear hK K; refine ct (sk fun K hK => rl ?_)
    refine sv (.agg #[.int .i64 0, .slice none 0 0, .int .i64 0, .slice none 0 0, .slice none 0 0, .slice none 0 0]) ?_
    replace bx1 := Xbn bx1 m3; refine ss6 (.int .i64 0) (.slice none 0 0) (.int .i64 0) (.slice none 0 0) (.slice none 0 0) (.slice none 0 0) bx1 fun V4 m4 bx1 => ?_
    refine sv (.bool false) ?_
    refine nt (hK _ _ ?_); clear hK K; refine wp_ret (then_ret ?_)
    try simp only [Exit.then, Exit.inBlock, ↓reduceIte, Nat.reduceEqDiff]
    obtain ⟨_, q1_0, q1_1, q1_2, q1_3, q1_4, q1_5⟩ := box6 bx1.out
    replace HB := Xhb (Xhn HB m3) m4; exact bodyPost_ret (v := .tuple #[.agg #[.int .i64 0, .slice none 0 0, .int .i64 0, .slice none 0 0, .slice none 0 0, .slice none 0 0], .bool false]) (by simp [results, Try.results18, go_sem, q1_0, q1_1, q1_2, q1_3, q1_4, q1_5]) rfl ⟨_, _, _, _, rfl, zeL_lr _ _, HB.out.below⟩
  | true =>
    have hf := lk_iff.1 hok
    obtain ⟨A, hA⟩ : ∃ A, calN 20 (bare p) = A := ⟨_, rfl⟩
    rw [show cmL p = A from by simp [cmL, hok, hA]]
    have HB : Hid (Mv nob w w) := hide (Mv.refl _ _)
    go_enter Try.func18, Try.ntmps18
    refine sk fun K hK => rl ?_
    refine sbp #[.int .i64 p.base, wv0, .int .i64 p.want, gv0, dv0, uv0] 27 fun V1 b0 hb0 m1 bx0 => ?_
    have o_0 : w.heap.size ≤ b0 := by omega
    clear hb0
    refine sbp #[.int .i64 0, .slice none 0 0, .int .i64 0, .slice none 0 0, .slice none 0 0, .slice none 0 0] 27 fun V2 b1 hb1 m2 bx1 => ?_
    have o0_1 := Xlo bx0 hb1; clear hb1
    refine sv (.bool false) ?_
    refine nt (hK _ _ ?_); clear hK K; refine sk fun K hK => sk fun K hK => rl ?_
    replace bx0 := Xbn bx0 m2; refine sl6 bx0 ?_
    replace HB := Xhn (Xhn HB m1) m2; refine sw_call (by rfl) (by first | rfl | (go_simp; done)) (specLinkOk_la true p wv0 gv0 dv0 uv0 V2 hok (ha0.out.below HB.out.below) hsm) ?_
    rintro e V3 ⟨rfl, hbV3⟩
    have m3 : Mv (nob) V2 V3 := Mv.of_below hbV3
    refine ⟨_, rfl, ?_⟩
    refine pt ?_
    clear hbV3
    refine sg (.bool false) ?_
    refine nt (hK _ _ ?_); clear hK K; refine cf (wp_skip (then_normal (hK _ _ ?_))); clear hK K; refine sk fun K hK => rl ?_
    replace bx0 := Xbn bx0 m3; refine sl6 bx0 ?_
    replace bx1 := Xbn bx1 m3; have szT := lt_of_block bx1.out
    replace HB := Xhn HB m3; have szW := HB.out.size
    refine sw_call (by rfl) (by first | rfl | (go_simp; done)) (l8Copy_any p wv0 gv0 dv0 uv0 V3 (ha0.out.below HB.out.below) hsm) ?_
    rintro e V4 ⟨wv, gv, dv, uv, rfl, LQ, hbV4⟩
    have m4 : Mv (nob) V3 V4 := Mv.of_below hbV4
    refine ⟨_, rfl, ?_⟩
    refine pt ?_
    obtain ⟨x0a, x0c, rfl, _⟩ := LQ.wa.form
    obtain ⟨y0a, y0c, rfl, _⟩ := LQ.go.form
    obtain ⟨z0a, z0c, rfl, _⟩ := LQ.dn.form
    obtain ⟨t0a, t0c, rfl, _⟩ := LQ.up.form
    have LN := hide (LQ.lower szW)
    have A2 : Hid (∀ g, Lrb (.slice x0a p.nw x0c) (.slice y0a p.ng y0c) (.slice z0a p.nd z0c) (.slice t0a p.nu t0c) g → g ≠ b0 ∧ g ≠ b1) := hide (fun g h => by have := (LQ.lt g h).1; omega)
    clear LQ hbV4 szT szW
    refine sbp #[.int .i64 0, .slice none 0 0, .int .i64 0, .slice none 0 0, .slice none 0 0, .slice none 0 0] 27 fun V5 b2 hb2 m5 bx2 => ?_
    replace bx1 := Xbn bx1 m4; have o1_2 := Xlo bx1 hb2
    have A3 : Hid (∀ g, Lrb (.slice x0a p.nw x0c) (.slice y0a p.ng y0c) (.slice z0a p.nd z0c) (.slice t0a p.nu t0c) g → g ≠ b0 ∧ g ≠ b1 ∧ g ≠ b2) := hide (fun g h => by have h2 := (LN.out.lt g h).2; have := A2.out g h; omega)
    replace LN := hide (LN.out.mv m5 (fun _ _ h => h))
    clear hb2
    refine ss6 (.int .i64 p.base) (.slice x0a p.nw x0c) (.int .i64 p.want) (.slice y0a p.ng y0c) (.slice z0a p.nd z0c) (.slice t0a p.nu t0c) bx2 fun V6 m6 bx2 => ?_
    replace LN := hide (LN.out.mv m6 (fun g hg h => by have h : g = b2 := h; have := A3.out g hg; omega))
    refine nt (hK _ _ ?_); clear hK K; refine sk fun K hK => rl ?_
    refine sv (.pointer (some ⟨b2, 4, none⟩)) ?_
    refine ss 4 (.slice none 0 0) bx2 fun V7 m7 bx2 => ?_
    replace LN := hide (LN.out.mv m7 (fun g hg h => by have h : g = b2 := h; have := A3.out g hg; omega))
    refine nt (hK _ _ ?_); clear hK K; refine sk fun K hK => rl ?_
    refine sv (.pointer (some ⟨b2, 5, none⟩)) ?_
    refine ss 5 (.slice none 0 0) bx2 fun V8 m8 bx2 => ?_
    replace LN := hide (LN.out.mv m8 (fun g hg h => by have h : g = b2 := h; have := A3.out g hg; omega))
    refine nt (hK _ _ ?_); clear hK K; refine sk fun K hK => sk fun K hK => rl ?_
    refine sv (.int .i64 0) ?_
    refine nt (hK _ _ ?_); clear hK K; refine wp_block ?_
    have LB := hide LN.out.bare
    have AF : Hid (∀ g, Lrb (.slice x0a p.nw x0c) (.slice y0a p.ng y0c) (.slice none 0 0) (.slice none 0 0) g → w.heap.size ≤ g ∧ g ≠ b0 ∧ g ≠ b1 ∧ g ≠ b2) := hide (fun g h => ⟨(LB.out.lt g h).1, A3.out g (h.elim .inl (fun h => h.elim (fun h => .inr (.inl h)) (fun h => by rcases h with h | h <;> exact absurd h (by simp [rb]))))⟩)
    have QF : Hid (Lf (bare p) ∧ 0 ≤ 20 ∧ (bare p).nd = 0 ∧ (bare p).nu = 0 ∧ calN (20 - 0) (bare p) = A) := hide ⟨bare_lf hf, by decide, rfl, rfl, hA⟩
    clear hA A2 A3
    replace LN := hide (LB.out.lower (Nat.zero_le _))
    clear LB
    replace HB := Xhb (Xhb (Xhb (Xhn (Xhn HB m4) m5) m6) m7) m8; replace bx0 := Xbb (Xbb (Xbb (Xbn (Xbn bx0 m4) m5) m6) m7) m8; replace bx1 := Xbb (Xbb (Xbb (Xbn bx1 m5) m6) m7) m8; refine wp_loop_ghost (fun m a' w' => ∃ (q : Lk) (i : Nat) (xa : Option Addr) (xc : Nat) (ya : Option Addr) (yc : Nat) (za : Option Addr) (zc : Nat) (ta : Option Addr) (tc : Nat) (u3 : Value) (u6 : Value) (u7 : Value) (u8 : Value) (u9 : Value) (u10 : Value) (u11 : Value) (u20 : Value) (u21 : Value) (u22 : Value) (u23 : Value) (u24 : Value) (u25 : Value) (u26 : Value) (u27 : Value) (u28 : Value) (u29 : Value) (u30 : Value) (u31 : Value) (u32 : Value) (u33 : Value) (u34 : Value) (u35 : Value) (u36 : Value) (u37 : Value) (u38 : Value) (u39 : Value) (u40 : Value) (u41 : Value) (u42 : Value) (u43 : Value) (u44 : Value) (u45 : Value) (u46 : Value) (u47 : Value) (u48 : Value) (u49 : Value) (u50 : Value) (u51 : Value) (u52 : Value) (u53 : Value) (u54 : Value) (u55 : Value) (u56 : Value), m = 20 - i ∧ a' = ⟨#[.agg #[.int .i64 p.base, wv0, .int .i64 p.want, gv0, dv0, uv0], .pointer (some ⟨b0, 0, none⟩), .pointer (some ⟨b1, 0, none⟩), u3, .pointer (some ⟨b2, 0, none⟩), .int .i64 ((i : Int)), u6, u7, u8, u9, u10, u11, .agg #[.int .i64 p.base, wv0, .int .i64 p.want, gv0, dv0, uv0], .bool true, .bool false, undef, .agg #[.int .i64 p.base, wv0, .int .i64 p.want, gv0, dv0, uv0], .agg #[.int .i64 p.base, .slice x0a p.nw x0c, .int .i64 p.want, .slice y0a p.ng y0c, .slice z0a p.nd z0c, .slice t0a p.nu t0c], .pointer (some ⟨b2, 4, none⟩), .pointer (some ⟨b2, 5, none⟩), u20, u21, u22, u23, u24, u25, u26, u27, u28, u29, u30, u31, u32, u33, u34, u35, u36, u37, u38, u39, u40, u41, u42, u43, u44, u45, u46, u47, u48, u49, u50, u51, u52, u53, u54, u55, u56, undef, undef, undef, undef, undef], []⟩ ∧ (Mv nob w w') ∧ (Lr w' 0 (.slice xa q.nw xc) (.slice ya q.ng yc) (.slice za q.nd zc) (.slice ta q.nu tc) q) ∧ (∀ g, Lrb (.slice xa q.nw xc) (.slice ya q.ng yc) (.slice za q.nd zc) (.slice ta q.nu tc) g → w.heap.size ≤ g ∧ g ≠ b0 ∧ g ≠ b1 ∧ g ≠ b2) ∧ (Lf q ∧ i ≤ 20 ∧ q.nd = 0 ∧ q.nu = 0 ∧ calN (20 - i) q = A) ∧ (w'.heap[b0]? = some (.cells #[.int .i64 p.base, wv0, .int .i64 p.want, gv0, dv0, uv0] 27 (0, 0))) ∧ (w'.heap[b1]? = some (.cells #[.int .i64 0, .slice none 0 0, .int .i64 0, .slice none 0 0, .slice none 0 0, .slice none 0 0] 27 (0, 0))) ∧ (w'.heap[b2]? = some (.cells #[.int .i64 q.base, .slice xa q.nw xc, .int .i64 q.want, .slice ya q.ng yc, .slice za q.nd zc, .slice ta q.nu tc] 27 (0, 0)))) (20) ⟨bare p, 0, x0a, x0c, y0a, y0c, none, 0, none, 0, _, _, _, _, _, _, _, _, _, _, _, _, _, _, _, _, _, _, _, _, _, _, _, _, _, _, _, _, _, _, _, _, _, _, _, _, _, _, _, _, _, _, _, _, rfl, rfl, (HB.out), (LN.out), (AF.out), (QF.out), (bx0.out), (bx1.out), (bx2.out)⟩ (fun m a' VL1 hI => ?_)
    obtain ⟨q, i, xa, xc, ya, yc, za, zc, ta, tc, u3, u6, u7, u8, u9, u10, u11, u20, u21, u22, u23, u24, u25, u26, u27, u28, u29, u30, u31, u32, u33, u34, u35, u36, u37, u38, u39, u40, u41, u42, u43, u44, u45, u46, u47, u48, u49, u50, u51, u52, u53, u54, u55, u56, rfl, rfl, i_HB, i_LN, i_AF, i_QF, i_bx0, i_bx1, i_bx2⟩ := hI
    clear HB bx0 bx1 bx2 LN
    have HB := hide i_HB
    clear i_HB
    have LN := hide i_LN
    clear i_LN
    have AF := hide i_AF
    clear i_AF
    have QF := hide i_QF
    clear i_QF
    have bx0 := hide i_bx0
    clear i_bx0
    have bx1 := hide i_bx1
    clear i_bx1
    have bx2 := hide i_bx2
    clear i_bx2
    refine sk fun K hK => sk fun K hK => rl ?_
    have hi20 := QF.out.2.1
    by_cases hl : ¬ i < 20
    · have hi : i = 20 := by omega
      refine sv (.int .i64 ((i : Int))) ?_
      refine sg (.bool false) (h := by have q1 : decide ((i : Int) < 20) = false := decide_eq_false (by omega); have q2 : decide (i < 20) = false := decide_eq_false (by omega); go_simp) ?_
      refine sv (.bool false) ?_
      with_reducible refine sp ?_
      with_reducible refine sp ?_
      with_reducible refine sp ?_
      with_reducible refine sp ?_
      refine sg (.bool false) ?_
      refine nt (hK _ _ ?_); clear hK K; refine cf ?_; refine wp_exit ?_; refine then_exit ?_; refine then_exit ?_; refine inb_here rfl ?_; refine then_normal ?_; clear hK K; refine hK _ _ ?_; clear hK K; refine sk fun K hK => ?_
      by_cases hn : q.nw = 0
      · have LTz : ∀ g, g = b1 → b0 < g ∧ g < b2 := fun g h => by omega
        refine wp_region_but (z := 999) (S := fun w' => Mv (fun g => g = b1) VL1.drew w') (by kernel_rfl) (Mv.refl _ _) (fun hS => ?_)
        have m9 : Mv nob VL1 VL1.drew := Mv.drew _
        obtain ⟨V9, hV9⟩ : ∃ V, VL1.drew = V := ⟨_, rfl⟩
        rw [hV9] at hS m9 ⊢
        clear hV9
        replace LN := hide (LN.out.mv m9 (fun _ _ h => h))
        replace bx0 := Xbn bx0 m9; have rbx0 := bx0; replace bx1 := Xbn bx1 m9; have rbx1 := bx1; replace bx2 := Xbn bx2 m9; have rbx2 := bx2
        refine tk 0 (.agg #[.int .i64 q.base, .slice xa q.nw xc, .int .i64 q.want, .slice ya q.ng yc, .slice za q.nd zc, .slice ta q.nu tc]) rfl (fun w' hSw => by (try dsimp only at hSw); have z0 := cell_box 0 (hSw.box rbx2.out (fun h => by have := LTz _ h; omega)) rfl; have z1 := cell_box 1 (hSw.box rbx2.out (fun h => by have := LTz _ h; omega)) rfl; have z2 := cell_box 2 (hSw.box rbx2.out (fun h => by have := LTz _ h; omega)) rfl; have z3 := cell_box 3 (hSw.box rbx2.out (fun h => by have := LTz _ h; omega)) rfl; have z4 := cell_box 4 (hSw.box rbx2.out (fun h => by have := LTz _ h; omega)) rfl; have z5 := cell_box 5 (hSw.box rbx2.out (fun h => by have := LTz _ h; omega)) rfl; go_simp) ?_
        refine tk0 1 (.pointer (some ⟨b2, 1, none⟩)) rfl ?_
        refine tk 2 (.slice xa q.nw xc) rfl (fun w' hSw => by (try dsimp only at hSw); have z0 := cell_box 1 (hSw.box rbx2.out (fun h => by have := LTz _ h; omega)) rfl; go_simp) ?_
        refine tk0 3 (.int .i64 (q.nw : Int)) rfl ?_
        refine tk 4 (.bool true) rfl (fun w' hSw => by (try dsimp only at hSw); have q1 := hn; have q2 : ((q.nw : Int) == 0) = true := (by simp [hn]); have q3 : (q.nw == 0) = true := (by simp [hn]); go_simp) ?_
        refine kd_skipI (i := 5) (w' := (((((V9.setCell ⟨b1, 0, none⟩ (.int .i64 q.base)).setCell ⟨b1, 1, none⟩ (.slice xa q.nw xc)).setCell ⟨b1, 2, none⟩ (.int .i64 q.want)).setCell ⟨b1, 3, none⟩ (.slice ya q.ng yc)).setCell ⟨b1, 4, none⟩ (.slice za q.nd zc)).setCell ⟨b1, 5, none⟩ (.slice ta q.nu tc)) (fun V => Mv (fun g => g = b1) V9 V ∧ V.heap[b1]? = some (.cells #[.int .i64 q.base, .slice xa q.nw xc, .int .i64 q.want, .slice ya q.ng yc, .slice za q.nd zc, .slice ta q.nu tc] 27 (0, 0))) (by kernel_rfl) rfl (by rfl) (by have fr := fun i => frozen_of_row _ _ i _ _ bx1.out; have z0 := cell_box 0 bx1.out rfl; have z1 := cell_box 1 bx1.out rfl; have z2 := cell_box 2 bx1.out rfl; have z3 := cell_box 3 bx1.out rfl; have z4 := cell_box 4 bx1.out rfl; have z5 := cell_box 5 bx1.out rfl; go_simp) ⟨Mv.set (Mv.set (Mv.set (Mv.set (Mv.set (Mv.set (Mv.refl _ _) _ _) _ _) _ _) _ _) _ _) _ _, (heap_setCell_same _ _ 5 _ _ _ (heap_setCell_same _ _ 4 _ _ _ (heap_setCell_same _ _ 3 _ _ _ (heap_setCell_same _ _ 2 _ _ _ (heap_setCell_same _ _ 1 _ _ _ (heap_setCell_same _ _ 0 _ _ _ (bx1.out))))))).trans rfl⟩ (fun V hI _ => hS.step hI.1 (fun g hg h => by first | exact h | (have h : g = b1 := h; exfalso; omega))) ?_
        rintro V10 ⟨m10, nxV10⟩
        refine ptk ?_
        replace LN := hide (LN.out.mv m10 (fun g hg h => by have h : g = b1 := h; have := AF.out g hg; omega))
        replace bx1 := hide nxV10
        clear nxV10
        replace hS := hS.step m10 (fun g hg h => by first | exact h | (have h : g = b1 := h; exfalso; omega))
        refine tk0 6 (.bool true) rfl ?_
        refine wpAnyK_done (by kernel_rfl) ?_
        clear hS rbx0 rbx1 rbx2
        refine then_normal (hK _ _ ?_); clear hK K; refine wp_ret ?_
        have hA : (q, true) = A := (calN_nil hn).symm.trans QF.out.2.2.2.2
        subst hA
        try simp only [Exit.then, Exit.inBlock, ↓reduceIte, Nat.reduceEqDiff]
        obtain ⟨_, q1_0, q1_1, q1_2, q1_3, q1_4, q1_5⟩ := box6 bx1.out
        replace HB := Xhb (Xhn HB m9) m10; exact bodyPost_ret (v := .tuple #[.agg #[.int .i64 q.base, .slice xa q.nw xc, .int .i64 q.want, .slice ya q.ng yc, .slice za q.nd zc, .slice ta q.nu tc], .bool true]) (by simp [results, Try.results18, go_sem, q1_0, q1_1, q1_2, q1_3, q1_4, q1_5]) rfl ⟨_, _, _, _, rfl, (LN.out.rebase (fun g h => (AF.out g h).1)), HB.out.below⟩
      have LTz : ∀ g, g = b1 → b0 < g ∧ g < b2 := fun g h => by omega
      refine wp_region_but (z := 999) (S := fun w' => Mv (fun g => g = b1) VL1.drew w') (by kernel_rfl) (Mv.refl _ _) (fun hS => ?_)
      have m11 : Mv nob VL1 VL1.drew := Mv.drew _
      obtain ⟨V11, hV11⟩ : ∃ V, VL1.drew = V := ⟨_, rfl⟩
      rw [hV11] at hS m11 ⊢
      clear hV11
      replace LN := hide (LN.out.mv m11 (fun _ _ h => h))
      replace bx0 := Xbn bx0 m11; have rbx0 := bx0; replace bx1 := Xbn bx1 m11; have rbx1 := bx1; replace bx2 := Xbn bx2 m11; have rbx2 := bx2
      refine tk 0 (.agg #[.int .i64 q.base, .slice xa q.nw xc, .int .i64 q.want, .slice ya q.ng yc, .slice za q.nd zc, .slice ta q.nu tc]) rfl (fun w' hSw => by (try dsimp only at hSw); have z0 := cell_box 0 (hSw.box rbx2.out (fun h => by have := LTz _ h; omega)) rfl; have z1 := cell_box 1 (hSw.box rbx2.out (fun h => by have := LTz _ h; omega)) rfl; have z2 := cell_box 2 (hSw.box rbx2.out (fun h => by have := LTz _ h; omega)) rfl; have z3 := cell_box 3 (hSw.box rbx2.out (fun h => by have := LTz _ h; omega)) rfl; have z4 := cell_box 4 (hSw.box rbx2.out (fun h => by have := LTz _ h; omega)) rfl; have z5 := cell_box 5 (hSw.box rbx2.out (fun h => by have := LTz _ h; omega)) rfl; go_simp) ?_
      refine tk0 1 (.pointer (some ⟨b2, 1, none⟩)) rfl ?_
      refine tk 2 (.slice xa q.nw xc) rfl (fun w' hSw => by (try dsimp only at hSw); have z0 := cell_box 1 (hSw.box rbx2.out (fun h => by have := LTz _ h; omega)) rfl; go_simp) ?_
      refine tk0 3 (.int .i64 (q.nw : Int)) rfl ?_
      refine tk 4 (.bool false) rfl (fun w' hSw => by (try dsimp only at hSw); have q1 := hn; have q2 : ((q.nw : Int) == 0) = false := (by simp [hn]); have q3 : (q.nw == 0) = false := (by simp [hn]); go_simp) ?_
      refine kd_skipI (i := 5) (w' := (((((V11.setCell ⟨b1, 0, none⟩ (.int .i64 q.base)).setCell ⟨b1, 1, none⟩ (.slice xa q.nw xc)).setCell ⟨b1, 2, none⟩ (.int .i64 q.want)).setCell ⟨b1, 3, none⟩ (.slice ya q.ng yc)).setCell ⟨b1, 4, none⟩ (.slice za q.nd zc)).setCell ⟨b1, 5, none⟩ (.slice ta q.nu tc)) (fun V => Mv (fun g => g = b1) V11 V ∧ V.heap[b1]? = some (.cells #[.int .i64 q.base, .slice xa q.nw xc, .int .i64 q.want, .slice ya q.ng yc, .slice za q.nd zc, .slice ta q.nu tc] 27 (0, 0))) (by kernel_rfl) rfl (by rfl) (by have fr := fun i => frozen_of_row _ _ i _ _ bx1.out; have z0 := cell_box 0 bx1.out rfl; have z1 := cell_box 1 bx1.out rfl; have z2 := cell_box 2 bx1.out rfl; have z3 := cell_box 3 bx1.out rfl; have z4 := cell_box 4 bx1.out rfl; have z5 := cell_box 5 bx1.out rfl; go_simp) ⟨Mv.set (Mv.set (Mv.set (Mv.set (Mv.set (Mv.set (Mv.refl _ _) _ _) _ _) _ _) _ _) _ _) _ _, (heap_setCell_same _ _ 5 _ _ _ (heap_setCell_same _ _ 4 _ _ _ (heap_setCell_same _ _ 3 _ _ _ (heap_setCell_same _ _ 2 _ _ _ (heap_setCell_same _ _ 1 _ _ _ (heap_setCell_same _ _ 0 _ _ _ (bx1.out))))))).trans rfl⟩ (fun V hI _ => hS.step hI.1 (fun g hg h => by first | exact h | (have h : g = b1 := h; exfalso; omega))) ?_
      rintro V12 ⟨m12, nxV12⟩
      refine ptk ?_
      replace LN := hide (LN.out.mv m12 (fun g hg h => by have h : g = b1 := h; have := AF.out g hg; omega))
      replace bx1 := hide nxV12
      clear nxV12
      replace hS := hS.step m12 (fun g hg h => by first | exact h | (have h : g = b1 := h; exfalso; omega))
      refine tk0 6 (.bool false) rfl ?_
      refine wpAnyK_done (by kernel_rfl) ?_
      clear hS rbx0 rbx1 rbx2
      refine then_normal (hK _ _ ?_); clear hK K; refine wp_ret ?_
      have hA : (q, false) = A := by rw [← calN_end hn]; have := QF.out.2.2.2.2; rwa [hi] at this
      subst hA
      try simp only [Exit.then, Exit.inBlock, ↓reduceIte, Nat.reduceEqDiff]
      obtain ⟨_, q1_0, q1_1, q1_2, q1_3, q1_4, q1_5⟩ := box6 bx1.out
      replace HB := Xhb (Xhn HB m11) m12; exact bodyPost_ret (v := .tuple #[.agg #[.int .i64 q.base, .slice xa q.nw xc, .int .i64 q.want, .slice ya q.ng yc, .slice za q.nd zc, .slice ta q.nu tc], .bool false]) (by simp [results, Try.results18, go_sem, q1_0, q1_1, q1_2, q1_3, q1_4, q1_5]) rfl ⟨_, _, _, _, rfl, (LN.out.rebase (fun g h => (AF.out g h).1)), HB.out.below⟩
    replace hl : i < 20 := by omega
    by_cases hn : q.nw = 0
    · refine sv (.int .i64 ((i : Int))) ?_
      refine sg (.bool true) (h := by have q1 : decide ((i : Int) < 20) = true := decide_eq_true (by omega); have q2 : decide (i < 20) = true := decide_eq_true (by omega); go_simp) ?_
      refine sv (.bool true) ?_
      refine sv (.pointer (some ⟨b2, 1, none⟩)) ?_
      refine sl 1 bx2 ?_
      refine sg (.int .i64 (q.nw : Int)) ?_
      refine sg (.bool false) (h := by have q1 : decide (0 < (q.nw : Int)) = false := decide_eq_false (by omega); have q2 : decide (0 < q.nw) = false := decide_eq_false (by omega); go_simp) ?_
      refine sg (.bool false) ?_
      refine nt (hK _ _ ?_); clear hK K; refine cf ?_; refine wp_exit ?_; refine then_exit ?_; refine then_exit ?_; refine inb_here rfl ?_; refine then_normal ?_; clear hK K; refine hK _ _ ?_; clear hK K; refine sk fun K hK => ?_
      have LTz : ∀ g, g = b1 → b0 < g ∧ g < b2 := fun g h => by omega
      refine wp_region_but (z := 999) (S := fun w' => Mv (fun g => g = b1) VL1.drew w') (by kernel_rfl) (Mv.refl _ _) (fun hS => ?_)
      have m13 : Mv nob VL1 VL1.drew := Mv.drew _
      obtain ⟨V13, hV13⟩ : ∃ V, VL1.drew = V := ⟨_, rfl⟩
      rw [hV13] at hS m13 ⊢
      clear hV13
      replace LN := hide (LN.out.mv m13 (fun _ _ h => h))
      replace bx0 := Xbn bx0 m13; have rbx0 := bx0; replace bx1 := Xbn bx1 m13; have rbx1 := bx1; replace bx2 := Xbn bx2 m13; have rbx2 := bx2
      refine tk 0 (.agg #[.int .i64 q.base, .slice xa q.nw xc, .int .i64 q.want, .slice ya q.ng yc, .slice za q.nd zc, .slice ta q.nu tc]) rfl (fun w' hSw => by (try dsimp only at hSw); have z0 := cell_box 0 (hSw.box rbx2.out (fun h => by have := LTz _ h; omega)) rfl; have z1 := cell_box 1 (hSw.box rbx2.out (fun h => by have := LTz _ h; omega)) rfl; have z2 := cell_box 2 (hSw.box rbx2.out (fun h => by have := LTz _ h; omega)) rfl; have z3 := cell_box 3 (hSw.box rbx2.out (fun h => by have := LTz _ h; omega)) rfl; have z4 := cell_box 4 (hSw.box rbx2.out (fun h => by have := LTz _ h; omega)) rfl; have z5 := cell_box 5 (hSw.box rbx2.out (fun h => by have := LTz _ h; omega)) rfl; go_simp) ?_
      refine tk0 1 (.pointer (some ⟨b2, 1, none⟩)) rfl ?_
      refine tk 2 (.slice xa q.nw xc) rfl (fun w' hSw => by (try dsimp only at hSw); have z0 := cell_box 1 (hSw.box rbx2.out (fun h => by have := LTz _ h; omega)) rfl; go_simp) ?_
      refine tk0 3 (.int .i64 (q.nw : Int)) rfl ?_
      refine tk 4 (.bool true) rfl (fun w' hSw => by (try dsimp only at hSw); have q1 := hn; have q2 : ((q.nw : Int) == 0) = true := (by simp [hn]); have q3 : (q.nw == 0) = true := (by simp [hn]); go_simp) ?_
      refine kd_skipI (i := 5) (w' := (((((V13.setCell ⟨b1, 0, none⟩ (.int .i64 q.base)).setCell ⟨b1, 1, none⟩ (.slice xa q.nw xc)).setCell ⟨b1, 2, none⟩ (.int .i64 q.want)).setCell ⟨b1, 3, none⟩ (.slice ya q.ng yc)).setCell ⟨b1, 4, none⟩ (.slice za q.nd zc)).setCell ⟨b1, 5, none⟩ (.slice ta q.nu tc)) (fun V => Mv (fun g => g = b1) V13 V ∧ V.heap[b1]? = some (.cells #[.int .i64 q.base, .slice xa q.nw xc, .int .i64 q.want, .slice ya q.ng yc, .slice za q.nd zc, .slice ta q.nu tc] 27 (0, 0))) (by kernel_rfl) rfl (by rfl) (by have fr := fun i => frozen_of_row _ _ i _ _ bx1.out; have z0 := cell_box 0 bx1.out rfl; have z1 := cell_box 1 bx1.out rfl; have z2 := cell_box 2 bx1.out rfl; have z3 := cell_box 3 bx1.out rfl; have z4 := cell_box 4 bx1.out rfl; have z5 := cell_box 5 bx1.out rfl; go_simp) ⟨Mv.set (Mv.set (Mv.set (Mv.set (Mv.set (Mv.set (Mv.refl _ _) _ _) _ _) _ _) _ _) _ _) _ _, (heap_setCell_same _ _ 5 _ _ _ (heap_setCell_same _ _ 4 _ _ _ (heap_setCell_same _ _ 3 _ _ _ (heap_setCell_same _ _ 2 _ _ _ (heap_setCell_same _ _ 1 _ _ _ (heap_setCell_same _ _ 0 _ _ _ (bx1.out))))))).trans rfl⟩ (fun V hI _ => hS.step hI.1 (fun g hg h => by first | exact h | (have h : g = b1 := h; exfalso; omega))) ?_
      rintro V14 ⟨m14, nxV14⟩
      refine ptk ?_
      replace LN := hide (LN.out.mv m14 (fun g hg h => by have h : g = b1 := h; have := AF.out g hg; omega))
      replace bx1 := hide nxV14
      clear nxV14
      replace hS := hS.step m14 (fun g hg h => by first | exact h | (have h : g = b1 := h; exfalso; omega))
      refine tk0 6 (.bool true) rfl ?_
      refine wpAnyK_done (by kernel_rfl) ?_
      clear hS rbx0 rbx1 rbx2
      refine then_normal (hK _ _ ?_); clear hK K; refine wp_ret ?_
      have hA : (q, true) = A := (calN_nil hn).symm.trans QF.out.2.2.2.2
      subst hA
      try simp only [Exit.then, Exit.inBlock, ↓reduceIte, Nat.reduceEqDiff]
      obtain ⟨_, q1_0, q1_1, q1_2, q1_3, q1_4, q1_5⟩ := box6 bx1.out
      replace HB := Xhb (Xhn HB m13) m14; exact bodyPost_ret (v := .tuple #[.agg #[.int .i64 q.base, .slice xa q.nw xc, .int .i64 q.want, .slice ya q.ng yc, .slice za q.nd zc, .slice ta q.nu tc], .bool true]) (by simp [results, Try.results18, go_sem, q1_0, q1_1, q1_2, q1_3, q1_4, q1_5]) rfl ⟨_, _, _, _, rfl, (LN.out.rebase (fun g h => (AF.out g h).1)), HB.out.below⟩
    refine sv (.int .i64 ((i : Int))) ?_
    refine sg (.bool true) (h := by have q1 : decide ((i : Int) < 20) = true := decide_eq_true (by omega); have q2 : decide (i < 20) = true := decide_eq_true (by omega); go_simp) ?_
    refine sv (.bool true) ?_
    refine sv (.pointer (some ⟨b2, 1, none⟩)) ?_
    refine sl 1 bx2 ?_
    refine sg (.int .i64 (q.nw : Int)) ?_
    refine sg (.bool true) (h := by have q1 : decide (0 < (q.nw : Int)) = true := decide_eq_true (by omega); have q2 : decide (0 < q.nw) = true := decide_eq_true (by omega); go_simp) ?_
    refine sg (.bool true) ?_
    refine nt (hK _ _ ?_); clear hK K; refine ct (wp_skip (then_normal (hK _ _ ?_))); clear hK K; refine sk fun K hK => wp_block (sk fun K hK => rl ?_)
    have hgo := (calN_go hn hl).symm.trans QF.out.2.2.2.2
    have hRL := rnd_lf QF.out.1
    have hRe := @rnd_empty q
    have hRn := @rnd_no q QF.out.2.2.1 QF.out.2.2.2.1
    have hcall := fun V h => l8Do_any q (.slice xa q.nw xc) (.slice ya q.ng yc) (.slice za q.nd zc) (.slice ta q.nu tc) V h 2 0 0 e0 QF.out.1
    have f1 := ld_lf QF.out.1 2 0 0 e0
    unfold rnd at hgo hRL hRe hRn
    generalize ldL q 2 0 0 e0 = L1 at hcall f1 hgo hRL hRe hRn
    generalize ldC q 2 0 0 e0 = C1 at hcall hgo hRL hRe hRn
    have f2 := al_lf 3 f1
    obtain ⟨L2, b2_, h2⟩ : ∃ L b, alC 3 L1 = (L, b) := ⟨_, _, rfl⟩
    rw [h2] at hgo hRL hRe hRn f2
    obtain ⟨L3, b3_, h3⟩ : ∃ L b, alC 4 L2 = (L, b) := ⟨_, _, rfl⟩
    simp only at f2 hgo hRL hRe hRn
    rw [h3] at hgo hRL hRe hRn
    simp only at hgo hRL hRe hRn
    have HG := hide (And.intro hgo (And.intro hRL (And.intro hRe hRn)))
    clear hgo hRL hRe hRn
    refine sl6 bx2 ?_
    refine sv (.agg #[.int .i64 2, .int .i64 0, .int .i64 0, .string ⟨#[]⟩]) ?_
    have szT := lt_of_block bx2.out
    have szW := HB.out.size
    refine sw_call (by rfl) (by first | rfl | (go_simp; done)) (hcall VL1 LN.out.la) ?_
    rintro e V15 ⟨wv, gv, dv, uv, rfl, LQ, hbV15⟩
    have m15 : Mv (nob) VL1 V15 := Mv.of_below hbV15
    refine ⟨_, rfl, ?_⟩
    refine pt ?_
    replace LN := hide (LN.out.mv m15 (fun _ _ h => h))
    obtain ⟨x1a, x1c, rfl, _⟩ := LQ.wa.form
    obtain ⟨y1a, y1c, rfl, _⟩ := LQ.go.form
    obtain ⟨z1a, z1c, rfl, _⟩ := LQ.dn.form
    obtain ⟨t1a, t1c, rfl, _⟩ := LQ.up.form
    have M1 := hide (LQ.lower (Nat.zero_le _))
    have AM1 : Hid (∀ g, Lrb (.slice x1a L1.nw x1c) (.slice y1a L1.ng y1c) (.slice z1a L1.nd z1c) (.slice t1a L1.nu t1c) g → w.heap.size ≤ g ∧ g ≠ b0 ∧ g ≠ b1 ∧ g ≠ b2) := hide (fun g h => by have := (LQ.lt g h).1; omega)
    clear LQ szT szW hbV15
    refine sv (.tuple #[.agg #[.int .i64 L1.base, .slice x1a L1.nw x1c, .int .i64 L1.want, .slice y1a L1.ng y1c, .slice z1a L1.nd z1c, .slice t1a L1.nu t1c], .int .i64 C1]) ?_
    refine sv (.agg #[.int .i64 L1.base, .slice x1a L1.nw x1c, .int .i64 L1.want, .slice y1a L1.ng y1c, .slice z1a L1.nd z1c, .slice t1a L1.nu t1c]) ?_
    refine sv (.int .i64 C1) ?_
    refine sbp #[.int .i64 0, .slice none 0 0, .int .i64 0, .slice none 0 0, .slice none 0 0, .slice none 0 0] 27 fun V16 b3 hb3 m16 bx3 => ?_
    replace bx2 := Xbn bx2 m15; have o2_3 := Xlo bx2 hb3
    replace AM1 : Hid (∀ g, Lrb (.slice x1a L1.nw x1c) (.slice y1a L1.ng y1c) (.slice z1a L1.nd z1c) (.slice t1a L1.nu t1c) g → w.heap.size ≤ g ∧ g ≠ b0 ∧ g ≠ b1 ∧ g ≠ b2 ∧ g ≠ b3) := hide (fun g h => by have h1 := AM1.out g h; have h2 := (M1.out.lt g h).2; omega)
    replace AF : Hid (∀ g, Lrb (.slice xa q.nw xc) (.slice ya q.ng yc) (.slice za q.nd zc) (.slice ta q.nu tc) g → w.heap.size ≤ g ∧ g ≠ b0 ∧ g ≠ b1 ∧ g ≠ b2 ∧ g ≠ b3) := hide (fun g h => by have h1 := AF.out g h; have h2 := (LN.out.lt g h).2; omega)
    replace LN := hide (LN.out.mv m16 (fun _ _ h => h))
    replace M1 := hide (M1.out.mv m16 (fun _ _ h => h))
    clear hb3
    refine ss6 (.int .i64 L1.base) (.slice x1a L1.nw x1c) (.int .i64 L1.want) (.slice y1a L1.ng y1c) (.slice z1a L1.nd z1c) (.slice t1a L1.nu t1c) bx3 fun V17 m17 bx3 => ?_
    replace LN := hide (LN.out.mv m17 (fun g hg h => by have h : g = b3 := h; have := AF.out g hg; omega))
    replace M1 := hide (M1.out.mv m17 (fun g hg h => by have h : g = b3 := h; have := AM1.out g hg; omega))
    refine sv (.int .i64 C1) ?_
    refine nt (hK _ _ ?_); clear hK K; refine sk fun K hK => sk fun K hK => rl ?_
    by_cases hC1 : ¬ C1 = 0
    · refine sv (.int .i64 C1) ?_
      refine sg (.bool true) (h := by have h0 := hC1; go_simp) ?_
      refine nt (hK _ _ ?_); clear hK K; refine ct (sk fun K hK => rl ?_)
      replace bx2 := Xbb (Xbn bx2 m16) m17; refine sl6 bx2 ?_
      replace bx1 := Xbb (Xbn (Xbn bx1 m15) m16) m17; refine ss6 (.int .i64 q.base) (.slice xa q.nw xc) (.int .i64 q.want) (.slice ya q.ng yc) (.slice za q.nd zc) (.slice ta q.nu tc) bx1 fun V18 m18 bx1 => ?_
      replace LN := hide (LN.out.mv m18 (fun g hg h => by have h : g = b1 := h; have := AF.out g hg; omega))
      replace M1 := hide (M1.out.mv m18 (fun g hg h => by have h : g = b1 := h; have := AM1.out g hg; omega))
      refine sv (.bool false) ?_
      refine nt (hK _ _ ?_); clear hK K; refine wp_ret (then_ret ?_); refine inb_ret ?_; refine then_ret (then_ret ?_); refine inb_ret ?_; refine then_ret ?_
      have hE := HG.out.2.2.2 hC1
      have hb0 : (decide (C1 = 0) && b2_ && b3_) = false := by rw [decide_eq_false hC1]; rfl
      have hq : L3 = q := congrArg Prod.fst hE
      have hA : (q, false) = A := by have := HG.out.1; rw [hb0, hq] at this; simpa using this
      subst hA
      try simp only [Exit.then, Exit.inBlock, ↓reduceIte, Nat.reduceEqDiff]
      obtain ⟨_, q1_0, q1_1, q1_2, q1_3, q1_4, q1_5⟩ := box6 bx1.out
      replace HB := Xhb (Xhb (Xhn (Xhn HB m15) m16) m17) m18; exact bodyPost_ret (v := .tuple #[.agg #[.int .i64 q.base, .slice xa q.nw xc, .int .i64 q.want, .slice ya q.ng yc, .slice za q.nd zc, .slice ta q.nu tc], .bool false]) (by simp [results, Try.results18, go_sem, q1_0, q1_1, q1_2, q1_3, q1_4, q1_5]) rfl ⟨_, _, _, _, rfl, (LN.out.rebase (fun g h => (AF.out g h).1)), HB.out.below⟩
    have hC0 : C1 = 0 := by omega
    subst hC0
    clear hC1
    refine sv (.int .i64 0) ?_
    refine sg (.bool false) ?_
    refine nt (hK _ _ ?_); clear hK K; refine cf (wp_skip (then_normal (hK _ _ ?_))); clear hK K; refine sk fun K hK => rl ?_
    clear LN
    refine sl6 bx3 ?_
    have szT := lt_of_block bx3.out
    replace HB := Xhb (Xhn (Xhn HB m15) m16) m17; have szW := HB.out.size
    refine sw_call (by rfl) (by first | rfl | (go_simp; done)) (l8All_3 L1 x1a y1a z1a t1a x1c y1c z1c t1c V17 M1.out f1 (L2, b2_) h2) ?_
    rintro e V19 ⟨wv, gv, dv, uv, rfl, mm, LQ, hnw⟩
    have m19 : Mv (nob) V17 V19 := mm
    refine ⟨_, rfl, ?_⟩
    refine pt ?_
    replace M1 := hide (M1.out.mv m19 (fun _ _ h => h))
    obtain ⟨x2a, x2c, rfl, _⟩ := LQ.wa.form
    obtain ⟨y2a, y2c, rfl, _⟩ := LQ.go.form
    obtain ⟨z2a, z2c, rfl, _⟩ := LQ.dn.form
    obtain ⟨t2a, t2c, rfl, _⟩ := LQ.up.form
    have M2 := hide LQ
    have AM2 : Hid (∀ g, Lrb (.slice x2a L2.nw x2c) (.slice y2a L2.ng y2c) (.slice z2a L2.nd z2c) (.slice t2a L2.nu t2c) g → w.heap.size ≤ g ∧ g ≠ b0 ∧ g ≠ b1 ∧ g ≠ b2 ∧ g ≠ b3) := hide (fun g h => (hnw g h).elim (fun h2 => by have := AM1.out g h2; omega) (fun h2 => by omega))
    clear LQ szT szW mm hnw M1
    refine sv (.tuple #[.agg #[.int .i64 L2.base, .slice x2a L2.nw x2c, .int .i64 L2.want, .slice y2a L2.ng y2c, .slice z2a L2.nd z2c, .slice t2a L2.nu t2c], .bool b2_]) ?_
    refine sv (.agg #[.int .i64 L2.base, .slice x2a L2.nw x2c, .int .i64 L2.want, .slice y2a L2.ng y2c, .slice z2a L2.nd z2c, .slice t2a L2.nu t2c]) ?_
    refine sv (.bool b2_) ?_
    refine sbp #[.int .i64 0, .slice none 0 0, .int .i64 0, .slice none 0 0, .slice none 0 0, .slice none 0 0] 27 fun V20 b4 hb4 m20 bx4 => ?_
    replace bx3 := Xbn bx3 m19; have o3_4 := Xlo bx3 hb4
    replace AM2 : Hid (∀ g, Lrb (.slice x2a L2.nw x2c) (.slice y2a L2.ng y2c) (.slice z2a L2.nd z2c) (.slice t2a L2.nu t2c) g → w.heap.size ≤ g ∧ g ≠ b0 ∧ g ≠ b1 ∧ g ≠ b2 ∧ g ≠ b3 ∧ g ≠ b4) := hide (fun g h => by have h1 := AM2.out g h; have h2 := (M2.out.lt g h).2; omega)
    replace M2 := hide (M2.out.mv m20 (fun _ _ h => h))
    clear hb4
    refine ss6 (.int .i64 L2.base) (.slice x2a L2.nw x2c) (.int .i64 L2.want) (.slice y2a L2.ng y2c) (.slice z2a L2.nd z2c) (.slice t2a L2.nu t2c) bx4 fun V21 m21 bx4 => ?_
    replace M2 := hide (M2.out.mv m21 (fun g hg h => by have h : g = b4 := h; have := AM2.out g hg; omega))
    refine sv (.bool b2_) ?_
    refine nt (hK _ _ ?_); clear hK K; refine sk fun K hK => rl ?_
    refine sl6 bx4 ?_
    have szT := lt_of_block bx4.out
    replace HB := Xhb (Xhn (Xhn HB m19) m20) m21; have szW := HB.out.size
    refine sw_call (by rfl) (by first | rfl | (go_simp; done)) (l8All_4 L2 x2a y2a z2a t2a x2c y2c z2c t2c V21 M2.out f2 (L3, b3_) h3) ?_
    rintro e V22 ⟨wv, gv, dv, uv, rfl, mm, LQ, hnw⟩
    have m22 : Mv (nob) V21 V22 := mm
    refine ⟨_, rfl, ?_⟩
    refine pt ?_
    replace M2 := hide (M2.out.mv m22 (fun _ _ h => h))
    obtain ⟨x3a, x3c, rfl, _⟩ := LQ.wa.form
    obtain ⟨y3a, y3c, rfl, _⟩ := LQ.go.form
    obtain ⟨z3a, z3c, rfl, _⟩ := LQ.dn.form
    obtain ⟨t3a, t3c, rfl, _⟩ := LQ.up.form
    have M3 := hide LQ
    have AM3 : Hid (∀ g, Lrb (.slice x3a L3.nw x3c) (.slice y3a L3.ng y3c) (.slice z3a L3.nd z3c) (.slice t3a L3.nu t3c) g → w.heap.size ≤ g ∧ g ≠ b0 ∧ g ≠ b1 ∧ g ≠ b2 ∧ g ≠ b3 ∧ g ≠ b4) := hide (fun g h => (hnw g h).elim (fun h2 => by have := AM2.out g h2; omega) (fun h2 => by omega))
    clear LQ szT szW mm hnw M2
    refine sv (.tuple #[.agg #[.int .i64 L3.base, .slice x3a L3.nw x3c, .int .i64 L3.want, .slice y3a L3.ng y3c, .slice z3a L3.nd z3c, .slice t3a L3.nu t3c], .bool b3_]) ?_
    refine sv (.agg #[.int .i64 L3.base, .slice x3a L3.nw x3c, .int .i64 L3.want, .slice y3a L3.ng y3c, .slice z3a L3.nd z3c, .slice t3a L3.nu t3c]) ?_
    refine sv (.bool b3_) ?_
    refine sbp #[.int .i64 0, .slice none 0 0, .int .i64 0, .slice none 0 0, .slice none 0 0, .slice none 0 0] 27 fun V23 b5 hb5 m23 bx5 => ?_
    replace bx4 := Xbn bx4 m22; have o4_5 := Xlo bx4 hb5
    replace AM3 : Hid (∀ g, Lrb (.slice x3a L3.nw x3c) (.slice y3a L3.ng y3c) (.slice z3a L3.nd z3c) (.slice t3a L3.nu t3c) g → w.heap.size ≤ g ∧ g ≠ b0 ∧ g ≠ b1 ∧ g ≠ b2 ∧ g ≠ b3 ∧ g ≠ b4 ∧ g ≠ b5) := hide (fun g h => by have h1 := AM3.out g h; have h2 := (M3.out.lt g h).2; omega)
    replace M3 := hide (M3.out.mv m23 (fun _ _ h => h))
    clear hb5
    refine ss6 (.int .i64 L3.base) (.slice x3a L3.nw x3c) (.int .i64 L3.want) (.slice y3a L3.ng y3c) (.slice z3a L3.nd z3c) (.slice t3a L3.nu t3c) bx5 fun V24 m24 bx5 => ?_
    replace M3 := hide (M3.out.mv m24 (fun g hg h => by have h : g = b5 := h; have := AM3.out g hg; omega))
    refine sv (.bool b3_) ?_
    refine nt (hK _ _ ?_); clear hK K; refine sk fun K hK => rl ?_
    refine sl6 bx5 ?_
    replace bx2 := Xbb (Xbn (Xbn (Xbb (Xbn (Xbn (Xbb (Xbn bx2 m16) m17) m19) m20) m21) m22) m23) m24; refine ss6 (.int .i64 L3.base) (.slice x3a L3.nw x3c) (.int .i64 L3.want) (.slice y3a L3.ng y3c) (.slice z3a L3.nd z3c) (.slice t3a L3.nu t3c) bx2 fun V25 m25 bx2 => ?_
    replace M3 := hide (M3.out.mv m25 (fun g hg h => by have h : g = b2 := h; have := AM3.out g hg; omega))
    refine nt (hK _ _ ?_); clear hK K; refine sk fun K hK => rl ?_
    by_cases h_b2_ : b2_ = false
    · subst h_b2_
      refine sv (.bool false) ?_
      refine sg (.bool true) ?_
      refine sv (.bool true) ?_
      with_reducible refine sp ?_
      with_reducible refine sp ?_
      refine sg (.bool true) ?_
      refine nt (hK _ _ ?_); clear hK K; refine ct (sk fun K hK => rl ?_)
      refine sl6 bx2 ?_
      replace bx1 := Xbb (Xbb (Xbn (Xbn (Xbb (Xbn (Xbn (Xbb (Xbn (Xbn bx1 m15) m16) m17) m19) m20) m21) m22) m23) m24) m25; refine ss6 (.int .i64 L3.base) (.slice x3a L3.nw x3c) (.int .i64 L3.want) (.slice y3a L3.ng y3c) (.slice z3a L3.nd z3c) (.slice t3a L3.nu t3c) bx1 fun V26 m26 bx1 => ?_
      replace M3 := hide (M3.out.mv m26 (fun g hg h => by have h : g = b1 := h; have := AM3.out g hg; omega))
      refine sv (.bool false) ?_
      refine nt (hK _ _ ?_); clear hK K; refine wp_ret ?_; refine inb_ret ?_; refine then_ret (then_ret ?_); refine inb_ret ?_; refine then_ret ?_
      have hA : (L3, false) = A := by have := HG.out.1; simpa using this
      subst hA
      try simp only [Exit.then, Exit.inBlock, ↓reduceIte, Nat.reduceEqDiff]
      obtain ⟨_, q1_0, q1_1, q1_2, q1_3, q1_4, q1_5⟩ := box6 bx1.out
      replace HB := Xhb (Xhb (Xhb (Xhn (Xhn HB m22) m23) m24) m25) m26; exact bodyPost_ret (v := .tuple #[.agg #[.int .i64 L3.base, .slice x3a L3.nw x3c, .int .i64 L3.want, .slice y3a L3.ng y3c, .slice z3a L3.nd z3c, .slice t3a L3.nu t3c], .bool false]) (by simp [results, Try.results18, go_sem, q1_0, q1_1, q1_2, q1_3, q1_4, q1_5]) rfl ⟨_, _, _, _, rfl, (M3.out.rebase (fun g h => (AM3.out g h).1)), HB.out.below⟩
    replace h_b2_ : b2_ = true := by simpa using h_b2_
    subst h_b2_
    by_cases h_b3_ : b3_ = false
    · subst h_b3_
      refine sv (.bool true) ?_
      refine sg (.bool false) ?_
      refine sv (.bool false) ?_
      refine sv (.bool false) ?_
      refine sg (.bool true) ?_
      refine sg (.bool true) ?_
      refine nt (hK _ _ ?_); clear hK K; refine ct (sk fun K hK => rl ?_)
      refine sl6 bx2 ?_
      replace bx1 := Xbb (Xbb (Xbn (Xbn (Xbb (Xbn (Xbn (Xbb (Xbn (Xbn bx1 m15) m16) m17) m19) m20) m21) m22) m23) m24) m25; refine ss6 (.int .i64 L3.base) (.slice x3a L3.nw x3c) (.int .i64 L3.want) (.slice y3a L3.ng y3c) (.slice z3a L3.nd z3c) (.slice t3a L3.nu t3c) bx1 fun V27 m27 bx1 => ?_
      replace M3 := hide (M3.out.mv m27 (fun g hg h => by have h : g = b1 := h; have := AM3.out g hg; omega))
      refine sv (.bool false) ?_
      refine nt (hK _ _ ?_); clear hK K; refine wp_ret ?_; refine inb_ret ?_; refine then_ret (then_ret ?_); refine inb_ret ?_; refine then_ret ?_
      have hA : (L3, false) = A := by have := HG.out.1; simpa using this
      subst hA
      try simp only [Exit.then, Exit.inBlock, ↓reduceIte, Nat.reduceEqDiff]
      obtain ⟨_, q1_0, q1_1, q1_2, q1_3, q1_4, q1_5⟩ := box6 bx1.out
      replace HB := Xhb (Xhb (Xhb (Xhn (Xhn HB m22) m23) m24) m25) m27; exact bodyPost_ret (v := .tuple #[.agg #[.int .i64 L3.base, .slice x3a L3.nw x3c, .int .i64 L3.want, .slice y3a L3.ng y3c, .slice z3a L3.nd z3c, .slice t3a L3.nu t3c], .bool false]) (by simp [results, Try.results18, go_sem, q1_0, q1_1, q1_2, q1_3, q1_4, q1_5]) rfl ⟨_, _, _, _, rfl, (M3.out.rebase (fun g h => (AM3.out g h).1)), HB.out.below⟩
    replace h_b3_ : b3_ = true := by simpa using h_b3_
    subst h_b3_
    refine sv (.bool true) ?_
    refine sg (.bool false) ?_
    refine sv (.bool false) ?_
    refine sv (.bool true) ?_
    refine sg (.bool false) ?_
    refine sg (.bool false) ?_
    refine nt (hK _ _ ?_); clear hK K; refine cf (wp_skip (inb_norm (then_normal (hK _ _ ?_)))); clear hK K; refine rl ?_
    refine sv (.int .i64 ((i : Int))) ?_
    refine sg (.int .i64 (((i + 1 : Nat) : Int))) (h := by have hw : IntKind.i64.wrap ((i : Int) + 1) = ((i + 1 : Nat) : Int) := (by rw [i64wrap (by omega)]; omega); go_simp) ?_
    refine sv (.int .i64 (((i + 1 : Nat) : Int))) ?_
    refine nt ?_
    replace bx0 := Xbb (Xbb (Xbn (Xbn (Xbb (Xbn (Xbn (Xbb (Xbn (Xbn bx0 m15) m16) m17) m19) m20) m21) m22) m23) m24) m25; replace bx1 := Xbb (Xbb (Xbn (Xbn (Xbb (Xbn (Xbn (Xbb (Xbn (Xbn bx1 m15) m16) m17) m19) m20) m21) m22) m23) m24) m25; replace HB := Xhb (Xhb (Xhn (Xhn HB m22) m23) m24) m25; exact ⟨20 - (i + 1), by omega, L3, i + 1, x3a, x3c, y3a, y3c, z3a, z3c, t3a, t3c, _, _, _, _, _, _, _, _, _, _, _, _, _, _, _, _, _, _, _, _, _, _, _, _, _, _, _, _, _, _, _, _, _, _, _, _, _, _, _, _, _, _, _, _, rfl, rfl, (HB.out), (M3.out), (fun g h => by have := AM3.out g h; omega), (⟨HG.out.2.1, by omega, (HG.out.2.2.1 (by simp)).1, (HG.out.2.2.1 (by simp)).2, by have := HG.out.1; simpa using this⟩), (bx0.out), (bx1.out), (bx2.out)⟩

end Go.Proofs.Ytgflipkhhpkidaa
