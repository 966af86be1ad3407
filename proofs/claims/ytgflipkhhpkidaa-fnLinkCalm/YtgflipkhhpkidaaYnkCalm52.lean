/- LcC -/
import Derived.Test.YtgflipkhhpkidaaYnkCalm51
/- impl.LinkCalmed (written by mkLcC.py) -/
namespace Go.Proofs.Ytgflipkhhpkidaa
open Go.RowKit
set_option linter.unusedVariables false
set_option linter.unusedSimpArgs false

abbrev CmP (w : World) (A : Lk × Bool) : Ending → World → Prop := fun e w' => ∃ wv gv dv uv, e = .returned (.tuple #[.agg (l6 A.1.base wv A.1.want gv dv uv), .bool A.2]) ∧ Lr w' w.heap.size wv gv dv uv A.1 ∧ Below w.heap.size w w'
theorem Lr.bare {w : World} {base : Nat} {wv gv dv uv : Value} {p : Lk} (h : Lr w base wv gv dv uv p) : Lr w base wv gv (.slice none 0 0) (.slice none 0 0) (bare p) :=
  ⟨h.wa, h.go, rg_nil _ _ _ _, rg_nil _ _ _ _, fun g e => ⟨(h.aw g e).1, by simp [rb], by simp [rb]⟩, fun g e => ⟨by simp [rb], by simp [rb]⟩, fun g e => absurd e (by simp [rb])⟩
def ms2 (b : Bool) (i : Nat) : Nat := if b then 21 - i else 0
theorem ms2_lt {b : Bool} {i : Nat} (h : i < 20) : ms2 b (i + 1) < ms2 true i := by
  unfold ms2
  cases b
  · simp; omega
  · simp; omega
theorem calN_nil {m : Nat} {q : Lk} (h : q.nw = 0) : calN m q = (q, true) := by
  cases m with
  | zero => simp [calN, h]
  | succ m => simp [calN, h]
theorem calN_end {q : Lk} (h : ¬ q.nw = 0) : calN 0 q = (q, false) := by simp [calN, h]
theorem calN_go {i : Nat} {q : Lk} (h : ¬ q.nw = 0) (hi : i < 20) : calN (20 - i) q = if (rnd q).2 then calN (20 - (i + 1)) (rnd q).1 else ((rnd q).1, false) := by
  rw [show 20 - i = (20 - (i + 1)) + 1 by omega]
  show (if q.nw = 0 then _ else _) = _
  rw [if_neg h]

set_option maxHeartbeats 8000000 in
set_option maxRecDepth 20000 in
theorem implCalmed_any (p : Lk) (wv0 gv0 dv0 uv0 : Value) (w : World) (ha : La w wv0 gv0 dv0 uv0 p) (hsm : Lsm 1048576 p) :
    Calls Try.prog 17 #[.agg (l6 p.base wv0 p.want gv0 dv0 uv0)] w (CmP w (cmL p)) := by
  have ha0 := hide ha
  clear ha
  cases hok : lkB p with
  | false =>
    rw [show cmL p = (zeL, false) from by simp [cmL, hok]]
    have HB : Hid (Mv nob w w) := hide (Mv.refl _ _)
    go_enter Try.func17, Try.ntmps17
    refine sk fun K hK => rl ?_
    refine sbp #[.int .i64 p.base, wv0, .int .i64 p.want, gv0, dv0, uv0] 27 fun V1 b0 hb0 m1 bx0 => ?_
    have o_0 : w.heap.size ≤ b0 := by omega
    clear hb0
    refine sbp #[.int .i64 0, .slice none 0 0, .int .i64 0, .slice none 0 0, .slice none 0 0, .slice none 0 0] 27 fun V2 b1 hb1 m2 bx1 => ?_
    have o0_1 := Xlo bx0 hb1; clear hb1
    refine sv (.bool false) ?_
    refine nt (hK _ _ ?_); clear hK K; refine sk fun K hK => sk fun K hK => rl ?_
    replace bx0 := Xbn bx0 m2; refine sl6 bx0 ?_
    replace HB := Xhn (Xhn HB m1) m2; refine sw_call (by rfl) (by first | rfl | (go_simp; done)) (implLinkOk_la false p wv0 gv0 dv0 uv0 V2 hok (ha0.out.below HB.out.below) hsm) ?_
    rintro e V3 ⟨rfl, hbV3⟩
    have m3 : Mv (nob) V2 V3 := Mv.of_below hbV3
    refine ⟨_, rfl, ?_⟩
    refine pt ?_
    clear hbV3
    refine sg (.bool true) ?_
    refine nt (hK _ _ ?_); clear hK K; refine ct (sk fun K hK => rl ?_)
    refine sv (.agg #[.int .i64 0, .slice none 0 0, .int .i64 0, .slice none 0 0, .slice none 0 0, .slice none 0 0]) ?_
    replace bx1 := Xbn bx1 m3; refine ss6 (.int .i64 0) (.slice none 0 0) (.int .i64 0) (.slice none 0 0) (.slice none 0 0) (.slice none 0 0) bx1 fun V4 m4 bx1 => ?_
    refine sv (.bool false) ?_
    refine nt (hK _ _ ?_); clear hK K; refine wp_ret (then_ret ?_)
    try simp only [Exit.then, Exit.inBlock, ↓reduceIte, Nat.reduceEqDiff]
    obtain ⟨_, q1_0, q1_1, q1_2, q1_3, q1_4, q1_5⟩ := box6 bx1.out
    replace HB := Xhb (Xhn HB m3) m4; exact bodyPost_ret (v := .tuple #[.agg #[.int .i64 0, .slice none 0 0, .int .i64 0, .slice none 0 0, .slice none 0 0, .slice none 0 0], .bool false]) (by simp [results, Try.results17, go_sem, q1_0, q1_1, q1_2, q1_3, q1_4, q1_5]) rfl ⟨_, _, _, _, rfl, zeL_lr _ _, HB.out.below⟩
  | true =>
    have hf := lk_iff.1 hok
    obtain ⟨A, hA⟩ : ∃ A, calN 20 (bare p) = A := ⟨_, rfl⟩
    rw [show cmL p = A from by simp [cmL, hok, hA]]
    have HB : Hid (Mv nob w w) := hide (Mv.refl _ _)
    go_enter Try.func17, Try.ntmps17
    refine sk fun K hK => rl ?_
    refine sbp #[.int .i64 p.base, wv0, .int .i64 p.want, gv0, dv0, uv0] 27 fun V1 b0 hb0 m1 bx0 => ?_
    have o_0 : w.heap.size ≤ b0 := by omega
    clear hb0
    refine sbp #[.int .i64 0, .slice none 0 0, .int .i64 0, .slice none 0 0, .slice none 0 0, .slice none 0 0] 27 fun V2 b1 hb1 m2 bx1 => ?_
    have o0_1 := Xlo bx0 hb1; clear hb1
    refine sv (.bool false) ?_
    refine nt (hK _ _ ?_); clear hK K; refine sk fun K hK => sk fun K hK => rl ?_
    replace bx0 := Xbn bx0 m2; refine sl6 bx0 ?_
    replace HB := Xhn (Xhn HB m1) m2; refine sw_call (by rfl) (by first | rfl | (go_simp; done)) (implLinkOk_la true p wv0 gv0 dv0 uv0 V2 hok (ha0.out.below HB.out.below) hsm) ?_
    rintro e V3 ⟨rfl, hbV3⟩
    have m3 : Mv (nob) V2 V3 := Mv.of_below hbV3
    refine ⟨_, rfl, ?_⟩
    refine pt ?_
    clear hbV3
    refine sg (.bool false) ?_
    refine nt (hK _ _ ?_); clear hK K; refine cf (wp_skip (then_normal (hK _ _ ?_))); clear hK K; refine sk fun K hK => rl ?_
    replace bx0 := Xbn bx0 m3; refine sl6 bx0 ?_
    replace bx1 := Xbn bx1 m3; have szT := lt_of_block bx1.out
    replace HB := Xhn HB m3; have szW := HB.out.size
    refine sw_call (by rfl) (by first | rfl | (go_simp; done)) (linkCopy_any wv0 gv0 dv0 uv0 p V3 (ha0.out.below HB.out.below).lv hsm ha0.out.pl4) ?_
    rintro e V4 ⟨wv, gv, dv, uv, rfl, LQ, hbV4⟩
    have m4 : Mv (nob) V3 V4 := Mv.of_below hbV4
    refine ⟨_, rfl, ?_⟩
    refine pt ?_
    obtain ⟨x0a, x0c, rfl, _⟩ := LQ.wa.form
    obtain ⟨y0a, y0c, rfl, _⟩ := LQ.go.form
    obtain ⟨z0a, z0c, rfl, _⟩ := LQ.dn.form
    obtain ⟨t0a, t0c, rfl, _⟩ := LQ.up.form
    have LN := hide (LQ.lower szW)
    have A2 : Hid (∀ g, Lrb (.slice x0a p.nw x0c) (.slice y0a p.ng y0c) (.slice z0a p.nd z0c) (.slice t0a p.nu t0c) g → g ≠ b0 ∧ g ≠ b1) := hide (fun g h => by have := (LQ.lt g h).1; omega)
    clear LQ hbV4 szT szW
    refine sbp #[.int .i64 0, .slice none 0 0, .int .i64 0, .slice none 0 0, .slice none 0 0, .slice none 0 0] 27 fun V5 b2 hb2 m5 bx2 => ?_
    replace bx1 := Xbn bx1 m4; have o1_2 := Xlo bx1 hb2
    have A3 : Hid (∀ g, Lrb (.slice x0a p.nw x0c) (.slice y0a p.ng y0c) (.slice z0a p.nd z0c) (.slice t0a p.nu t0c) g → g ≠ b0 ∧ g ≠ b1 ∧ g ≠ b2) := hide (fun g h => by have h2 := (LN.out.lt g h).2; have := A2.out g h; omega)
    replace LN := hide (LN.out.mv m5 (fun _ _ h => h))
    clear hb2
    refine ss6 (.int .i64 p.base) (.slice x0a p.nw x0c) (.int .i64 p.want) (.slice y0a p.ng y0c) (.slice z0a p.nd z0c) (.slice t0a p.nu t0c) bx2 fun V6 m6 bx2 => ?_
    replace LN := hide (LN.out.mv m6 (fun g hg h => by have h : g = b2 := h; have := A3.out g hg; omega))
    refine nt (hK _ _ ?_); clear hK K; refine sk fun K hK => rl ?_
    refine sv (.pointer (some ⟨b2, 4, none⟩)) ?_
    refine ss 4 (.slice none 0 0) bx2 fun V7 m7 bx2 => ?_
    replace LN := hide (LN.out.mv m7 (fun g hg h => by have h : g = b2 := h; have := A3.out g hg; omega))
    refine sv (.pointer (some ⟨b2, 5, none⟩)) ?_
    refine ss 5 (.slice none 0 0) bx2 fun V8 m8 bx2 => ?_
    replace LN := hide (LN.out.mv m8 (fun g hg h => by have h : g = b2 := h; have := A3.out g hg; omega))
    refine nt (hK _ _ ?_); clear hK K; refine sk fun K hK => rl ?_
    refine sv (.bool true) ?_
    refine nt (hK _ _ ?_); clear hK K; refine sk fun K hK => sk fun K hK => rl ?_
    refine sv (.int .i64 0) ?_
    refine nt (hK _ _ ?_); clear hK K; refine wp_block ?_
    have LB := hide LN.out.bare
    have AF : Hid (∀ g, Lrb (.slice x0a p.nw x0c) (.slice y0a p.ng y0c) (.slice none 0 0) (.slice none 0 0) g → g ≠ b0 ∧ g ≠ b1 ∧ g ≠ b2) := hide (fun g h => A3.out g (h.elim .inl (fun h => h.elim (fun h => .inr (.inl h)) (fun h => by rcases h with h | h <;> exact absurd h (by simp [rb])))))
    have QF : Hid (Lf (bare p) ∧ 0 ≤ 20 ∧ (true = true → calN (20 - 0) (bare p) = A) ∧ (true = false → (bare p, false) = A)) := hide ⟨bare_lf hf, by decide, fun _ => hA, fun h => by cases h⟩
    clear hA A2 A3
    replace LN := LB
    clear LB
    replace HB := Xhb (Xhb (Xhb (Xhn (Xhn HB m4) m5) m6) m7) m8; replace bx0 := Xbb (Xbb (Xbb (Xbn (Xbn bx0 m4) m5) m6) m7) m8; replace bx1 := Xbb (Xbb (Xbb (Xbn bx1 m5) m6) m7) m8; refine wp_loop_ghost (fun m a' w' => ∃ (q : Lk) (okb : Bool) (i : Nat) (xa : Option Addr) (xc : Nat) (ya : Option Addr) (yc : Nat) (za : Option Addr) (zc : Nat) (ta : Option Addr) (tc : Nat) (u15 : Value) (u16 : Value) (u17 : Value) (u18 : Value) (u19 : Value) (u20 : Value) (u21 : Value) (u22 : Value) (u23 : Value) (u24 : Value) (u25 : Value) (u26 : Value) (u27 : Value) (u28 : Value) (u29 : Value) (u30 : Value) (u31 : Value) (u32 : Value), m = ms2 okb i ∧ a' = ⟨#[.agg #[.int .i64 p.base, wv0, .int .i64 p.want, gv0, dv0, uv0], .pointer (some ⟨b0, 0, none⟩), .pointer (some ⟨b1, 0, none⟩), .bool false, .pointer (some ⟨b2, 0, none⟩), .bool okb, .int .i64 ((i : Int)), .agg #[.int .i64 p.base, wv0, .int .i64 p.want, gv0, dv0, uv0], .bool true, .bool false, undef, .agg #[.int .i64 p.base, wv0, .int .i64 p.want, gv0, dv0, uv0], .agg #[.int .i64 p.base, .slice x0a p.nw x0c, .int .i64 p.want, .slice y0a p.ng y0c, .slice z0a p.nd z0c, .slice t0a p.nu t0c], .pointer (some ⟨b2, 4, none⟩), .pointer (some ⟨b2, 5, none⟩), u15, u16, u17, u18, u19, u20, u21, u22, u23, u24, u25, u26, u27, u28, u29, u30, u31, u32, undef, undef, undef, undef, undef, undef, undef, undef], []⟩ ∧ (Mv nob w w') ∧ (Lr w' w.heap.size (.slice xa q.nw xc) (.slice ya q.ng yc) (.slice za q.nd zc) (.slice ta q.nu tc) q) ∧ (∀ g, Lrb (.slice xa q.nw xc) (.slice ya q.ng yc) (.slice za q.nd zc) (.slice ta q.nu tc) g → g ≠ b0 ∧ g ≠ b1 ∧ g ≠ b2) ∧ (Lf q ∧ i ≤ 20 ∧ (okb = true → calN (20 - i) q = A) ∧ (okb = false → (q, false) = A)) ∧ (w'.heap[b0]? = some (.cells #[.int .i64 p.base, wv0, .int .i64 p.want, gv0, dv0, uv0] 27 (0, 0))) ∧ (w'.heap[b1]? = some (.cells #[.int .i64 0, .slice none 0 0, .int .i64 0, .slice none 0 0, .slice none 0 0, .slice none 0 0] 27 (0, 0))) ∧ (w'.heap[b2]? = some (.cells #[.int .i64 q.base, .slice xa q.nw xc, .int .i64 q.want, .slice ya q.ng yc, .slice za q.nd zc, .slice ta q.nu tc] 27 (0, 0)))) (ms2 true 0) ⟨bare p, true, 0, x0a, x0c, y0a, y0c, none, 0, none, 0, _, _, _, _, _, _, _, _, _, _, _, _, _, _, _, _, _, _, rfl, rfl, (HB.out), (LN.out), (AF.out), (QF.out), (bx0.out), (bx1.out), (bx2.out)⟩ (fun m a' VL1 hI => ?_)
    obtain ⟨q, okb, i, xa, xc, ya, yc, za, zc, ta, tc, u15, u16, u17, u18, u19, u20, u21, u22, u23, u24, u25, u26, u27, u28, u29, u30, u31, u32, rfl, rfl, i_HB, i_LN, i_AF, i_QF, i_bx0, i_bx1, i_bx2⟩ := hI
    clear HB bx0 bx1 bx2 LN
    have HB := hide i_HB
    clear i_HB
    have LN := hide i_LN
    clear i_LN
    have AF := hide i_AF
    clear i_AF
    have QF := hide i_QF
    clear i_QF
    have bx0 := hide i_bx0
    clear i_bx0
    have bx1 := hide i_bx1
    clear i_bx1
    have bx2 := hide i_bx2
    clear i_bx2
    refine sk fun K hK => sk fun K hK => rl ?_
    have hi20 := QF.out.2.1
    by_cases h_okb : okb = false
    · subst h_okb
      refine sv (.bool false) ?_
      refine sv (.bool false) ?_
      with_reducible refine sp ?_
      with_reducible refine sp ?_
      with_reducible refine sp ?_
      with_reducible refine sp ?_
      refine sg (.bool false) ?_
      refine sv (.bool false) ?_
      with_reducible refine sp ?_
      with_reducible refine sp ?_
      refine sg (.bool false) ?_
      refine nt (hK _ _ ?_); clear hK K; refine cf ?_; refine wp_exit ?_; refine then_exit ?_; refine then_exit ?_; refine inb_here rfl ?_; refine then_normal ?_; clear hK K; refine hK _ _ ?_; clear hK K; refine sk fun K hK => ?_
      have LTz : ∀ g, g = b1 → b0 < g ∧ g < b2 := fun g h => by omega
      refine wp_region_but (z := 999) (S := fun w' => Mv (fun g => g = b1) VL1.drew w') (by kernel_rfl) (Mv.refl _ _) (fun hS => ?_)
      have m9 : Mv nob VL1 VL1.drew := Mv.drew _
      obtain ⟨V9, hV9⟩ : ∃ V, VL1.drew = V := ⟨_, rfl⟩
      rw [hV9] at hS m9 ⊢
      clear hV9
      replace LN := hide (LN.out.mv m9 (fun _ _ h => h))
      replace bx0 := Xbn bx0 m9; have rbx0 := bx0; replace bx1 := Xbn bx1 m9; have rbx1 := bx1; replace bx2 := Xbn bx2 m9; have rbx2 := bx2
      refine tk 0 (.agg #[.int .i64 q.base, .slice xa q.nw xc, .int .i64 q.want, .slice ya q.ng yc, .slice za q.nd zc, .slice ta q.nu tc]) rfl (fun w' hSw => by (try dsimp only at hSw); have z0 := cell_box 0 (hSw.box rbx2.out (fun h => by have := LTz _ h; omega)) rfl; have z1 := cell_box 1 (hSw.box rbx2.out (fun h => by have := LTz _ h; omega)) rfl; have z2 := cell_box 2 (hSw.box rbx2.out (fun h => by have := LTz _ h; omega)) rfl; have z3 := cell_box 3 (hSw.box rbx2.out (fun h => by have := LTz _ h; omega)) rfl; have z4 := cell_box 4 (hSw.box rbx2.out (fun h => by have := LTz _ h; omega)) rfl; have z5 := cell_box 5 (hSw.box rbx2.out (fun h => by have := LTz _ h; omega)) rfl; go_simp) ?_
      refine tk0 1 (.bool false) rfl ?_
      refine tk0 2 (.bool false) rfl ?_
      refine tu 3 rfl ?_
      refine tu 4 rfl ?_
      refine tu 5 rfl ?_
      refine tu 6 rfl ?_
      refine tk0 7 (.bool false) rfl ?_
      refine kd_skipI (i := 8) (w' := (((((V9.setCell ⟨b1, 0, none⟩ (.int .i64 q.base)).setCell ⟨b1, 1, none⟩ (.slice xa q.nw xc)).setCell ⟨b1, 2, none⟩ (.int .i64 q.want)).setCell ⟨b1, 3, none⟩ (.slice ya q.ng yc)).setCell ⟨b1, 4, none⟩ (.slice za q.nd zc)).setCell ⟨b1, 5, none⟩ (.slice ta q.nu tc)) (fun V => Mv (fun g => g = b1) V9 V ∧ V.heap[b1]? = some (.cells #[.int .i64 q.base, .slice xa q.nw xc, .int .i64 q.want, .slice ya q.ng yc, .slice za q.nd zc, .slice ta q.nu tc] 27 (0, 0))) (by kernel_rfl) rfl (by rfl) (by have fr := fun i => frozen_of_row _ _ i _ _ bx1.out; have z0 := cell_box 0 bx1.out rfl; have z1 := cell_box 1 bx1.out rfl; have z2 := cell_box 2 bx1.out rfl; have z3 := cell_box 3 bx1.out rfl; have z4 := cell_box 4 bx1.out rfl; have z5 := cell_box 5 bx1.out rfl; go_simp) ⟨Mv.set (Mv.set (Mv.set (Mv.set (Mv.set (Mv.set (Mv.refl _ _) _ _) _ _) _ _) _ _) _ _) _ _, (heap_setCell_same _ _ 5 _ _ _ (heap_setCell_same _ _ 4 _ _ _ (heap_setCell_same _ _ 3 _ _ _ (heap_setCell_same _ _ 2 _ _ _ (heap_setCell_same _ _ 1 _ _ _ (heap_setCell_same _ _ 0 _ _ _ (bx1.out))))))).trans rfl⟩ (fun V hI _ => hS.step hI.1 (fun g hg h => by first | exact h | (have h : g = b1 := h; exfalso; omega))) ?_
      rintro V10 ⟨m10, nxV10⟩
      refine ptk ?_
      replace LN := hide (LN.out.mv m10 (fun g hg h => by have h : g = b1 := h; have := AF.out g hg; omega))
      replace bx1 := hide nxV10
      clear nxV10
      replace hS := hS.step m10 (fun g hg h => by first | exact h | (have h : g = b1 := h; exfalso; omega))
      refine tk0 9 (.bool false) rfl ?_
      refine wpAnyK_done (by kernel_rfl) ?_
      clear hS rbx0 rbx1 rbx2
      refine then_normal (hK _ _ ?_); clear hK K; refine wp_ret ?_
      have hA : (q, false) = A := QF.out.2.2.2 rfl
      subst hA
      try simp only [Exit.then, Exit.inBlock, ↓reduceIte, Nat.reduceEqDiff]
      obtain ⟨_, q1_0, q1_1, q1_2, q1_3, q1_4, q1_5⟩ := box6 bx1.out
      replace HB := Xhb (Xhn HB m9) m10; exact bodyPost_ret (v := .tuple #[.agg #[.int .i64 q.base, .slice xa q.nw xc, .int .i64 q.want, .slice ya q.ng yc, .slice za q.nd zc, .slice ta q.nu tc], .bool false]) (by simp [results, Try.results17, go_sem, q1_0, q1_1, q1_2, q1_3, q1_4, q1_5]) rfl ⟨_, _, _, _, rfl, LN.out, HB.out.below⟩
    replace h_okb : okb = true := by simpa using h_okb
    subst h_okb
    by_cases hn : q.nw = 0
    · refine sv (.bool true) ?_
      refine sv (.bool true) ?_
      refine sv (.pointer (some ⟨b2, 1, none⟩)) ?_
      refine sl 1 bx2 ?_
      refine sg (.int .i64 (q.nw : Int)) ?_
      refine sg (.bool false) (h := by have q1 : decide (0 < (q.nw : Int)) = false := decide_eq_false (by omega); have q2 : decide (0 < q.nw) = false := decide_eq_false (by omega); go_simp) ?_
      refine sg (.bool false) ?_
      refine sv (.bool false) ?_
      with_reducible refine sp ?_
      with_reducible refine sp ?_
      refine sg (.bool false) ?_
      refine nt (hK _ _ ?_); clear hK K; refine cf ?_; refine wp_exit ?_; refine then_exit ?_; refine then_exit ?_; refine inb_here rfl ?_; refine then_normal ?_; clear hK K; refine hK _ _ ?_; clear hK K; refine sk fun K hK => ?_
      have LTz : ∀ g, g = b1 → b0 < g ∧ g < b2 := fun g h => by omega
      refine wp_region_but (z := 999) (S := fun w' => Mv (fun g => g = b1) VL1.drew w') (by kernel_rfl) (Mv.refl _ _) (fun hS => ?_)
      have m11 : Mv nob VL1 VL1.drew := Mv.drew _
      obtain ⟨V11, hV11⟩ : ∃ V, VL1.drew = V := ⟨_, rfl⟩
      rw [hV11] at hS m11 ⊢
      clear hV11
      replace LN := hide (LN.out.mv m11 (fun _ _ h => h))
      replace bx0 := Xbn bx0 m11; have rbx0 := bx0; replace bx1 := Xbn bx1 m11; have rbx1 := bx1; replace bx2 := Xbn bx2 m11; have rbx2 := bx2
      refine tk 0 (.agg #[.int .i64 q.base, .slice xa q.nw xc, .int .i64 q.want, .slice ya q.ng yc, .slice za q.nd zc, .slice ta q.nu tc]) rfl (fun w' hSw => by (try dsimp only at hSw); have z0 := cell_box 0 (hSw.box rbx2.out (fun h => by have := LTz _ h; omega)) rfl; have z1 := cell_box 1 (hSw.box rbx2.out (fun h => by have := LTz _ h; omega)) rfl; have z2 := cell_box 2 (hSw.box rbx2.out (fun h => by have := LTz _ h; omega)) rfl; have z3 := cell_box 3 (hSw.box rbx2.out (fun h => by have := LTz _ h; omega)) rfl; have z4 := cell_box 4 (hSw.box rbx2.out (fun h => by have := LTz _ h; omega)) rfl; have z5 := cell_box 5 (hSw.box rbx2.out (fun h => by have := LTz _ h; omega)) rfl; go_simp) ?_
      refine tk0 1 (.bool true) rfl ?_
      refine tk0 2 (.bool true) rfl ?_
      refine tk0 3 (.pointer (some ⟨b2, 1, none⟩)) rfl ?_
      refine tk 4 (.slice xa q.nw xc) rfl (fun w' hSw => by (try dsimp only at hSw); have z0 := cell_box 1 (hSw.box rbx2.out (fun h => by have := LTz _ h; omega)) rfl; go_simp) ?_
      refine tk0 5 (.int .i64 (q.nw : Int)) rfl ?_
      refine tk 6 (.bool true) rfl (fun w' hSw => by (try dsimp only at hSw); have q1 := hn; have q2 : ((q.nw : Int) == 0) = true := (by simp [hn]); have q3 : (q.nw == 0) = true := (by simp [hn]); go_simp) ?_
      refine tk0 7 (.bool true) rfl ?_
      refine kd_skipI (i := 8) (w' := (((((V11.setCell ⟨b1, 0, none⟩ (.int .i64 q.base)).setCell ⟨b1, 1, none⟩ (.slice xa q.nw xc)).setCell ⟨b1, 2, none⟩ (.int .i64 q.want)).setCell ⟨b1, 3, none⟩ (.slice ya q.ng yc)).setCell ⟨b1, 4, none⟩ (.slice za q.nd zc)).setCell ⟨b1, 5, none⟩ (.slice ta q.nu tc)) (fun V => Mv (fun g => g = b1) V11 V ∧ V.heap[b1]? = some (.cells #[.int .i64 q.base, .slice xa q.nw xc, .int .i64 q.want, .slice ya q.ng yc, .slice za q.nd zc, .slice ta q.nu tc] 27 (0, 0))) (by kernel_rfl) rfl (by rfl) (by have fr := fun i => frozen_of_row _ _ i _ _ bx1.out; have z0 := cell_box 0 bx1.out rfl; have z1 := cell_box 1 bx1.out rfl; have z2 := cell_box 2 bx1.out rfl; have z3 := cell_box 3 bx1.out rfl; have z4 := cell_box 4 bx1.out rfl; have z5 := cell_box 5 bx1.out rfl; go_simp) ⟨Mv.set (Mv.set (Mv.set (Mv.set (Mv.set (Mv.set (Mv.refl _ _) _ _) _ _) _ _) _ _) _ _) _ _, (heap_setCell_same _ _ 5 _ _ _ (heap_setCell_same _ _ 4 _ _ _ (heap_setCell_same _ _ 3 _ _ _ (heap_setCell_same _ _ 2 _ _ _ (heap_setCell_same _ _ 1 _ _ _ (heap_setCell_same _ _ 0 _ _ _ (bx1.out))))))).trans rfl⟩ (fun V hI _ => hS.step hI.1 (fun g hg h => by first | exact h | (have h : g = b1 := h; exfalso; omega))) ?_
      rintro V12 ⟨m12, nxV12⟩
      refine ptk ?_
      replace LN := hide (LN.out.mv m12 (fun g hg h => by have h : g = b1 := h; have := AF.out g hg; omega))
      replace bx1 := hide nxV12
      clear nxV12
      replace hS := hS.step m12 (fun g hg h => by first | exact h | (have h : g = b1 := h; exfalso; omega))
      refine tk0 9 (.bool true) rfl ?_
      refine wpAnyK_done (by kernel_rfl) ?_
      clear hS rbx0 rbx1 rbx2
      refine then_normal (hK _ _ ?_); clear hK K; refine wp_ret ?_
      have hA : (q, true) = A := (calN_nil hn).symm.trans (QF.out.2.2.1 rfl)
      subst hA
      try simp only [Exit.then, Exit.inBlock, ↓reduceIte, Nat.reduceEqDiff]
      obtain ⟨_, q1_0, q1_1, q1_2, q1_3, q1_4, q1_5⟩ := box6 bx1.out
      replace HB := Xhb (Xhn HB m11) m12; exact bodyPost_ret (v := .tuple #[.agg #[.int .i64 q.base, .slice xa q.nw xc, .int .i64 q.want, .slice ya q.ng yc, .slice za q.nd zc, .slice ta q.nu tc], .bool true]) (by simp [results, Try.results17, go_sem, q1_0, q1_1, q1_2, q1_3, q1_4, q1_5]) rfl ⟨_, _, _, _, rfl, LN.out, HB.out.below⟩
    by_cases hl : ¬ i < 20
    · have hi : i = 20 := by omega
      refine sv (.bool true) ?_
      refine sv (.bool true) ?_
      refine sv (.pointer (some ⟨b2, 1, none⟩)) ?_
      refine sl 1 bx2 ?_
      refine sg (.int .i64 (q.nw : Int)) ?_
      refine sg (.bool true) (h := by have q1 : decide (0 < (q.nw : Int)) = true := decide_eq_true (by omega); have q2 : decide (0 < q.nw) = true := decide_eq_true (by omega); go_simp) ?_
      refine sg (.bool true) ?_
      refine sv (.bool true) ?_
      refine sv (.int .i64 ((i : Int))) ?_
      refine sg (.bool false) (h := by have q1 : decide ((i : Int) < 20) = false := decide_eq_false (by omega); have q2 : decide (i < 20) = false := decide_eq_false (by omega); go_simp) ?_
      refine sg (.bool false) ?_
      refine nt (hK _ _ ?_); clear hK K; refine cf ?_; refine wp_exit ?_; refine then_exit ?_; refine then_exit ?_; refine inb_here rfl ?_; refine then_normal ?_; clear hK K; refine hK _ _ ?_; clear hK K; refine sk fun K hK => ?_
      have LTz : ∀ g, g = b1 → b0 < g ∧ g < b2 := fun g h => by omega
      refine wp_region_but (z := 999) (S := fun w' => Mv (fun g => g = b1) VL1.drew w') (by kernel_rfl) (Mv.refl _ _) (fun hS => ?_)
      have m13 : Mv nob VL1 VL1.drew := Mv.drew _
      obtain ⟨V13, hV13⟩ : ∃ V, VL1.drew = V := ⟨_, rfl⟩
      rw [hV13] at hS m13 ⊢
      clear hV13
      replace LN := hide (LN.out.mv m13 (fun _ _ h => h))
      replace bx0 := Xbn bx0 m13; have rbx0 := bx0; replace bx1 := Xbn bx1 m13; have rbx1 := bx1; replace bx2 := Xbn bx2 m13; have rbx2 := bx2
      refine tk 0 (.agg #[.int .i64 q.base, .slice xa q.nw xc, .int .i64 q.want, .slice ya q.ng yc, .slice za q.nd zc, .slice ta q.nu tc]) rfl (fun w' hSw => by (try dsimp only at hSw); have z0 := cell_box 0 (hSw.box rbx2.out (fun h => by have := LTz _ h; omega)) rfl; have z1 := cell_box 1 (hSw.box rbx2.out (fun h => by have := LTz _ h; omega)) rfl; have z2 := cell_box 2 (hSw.box rbx2.out (fun h => by have := LTz _ h; omega)) rfl; have z3 := cell_box 3 (hSw.box rbx2.out (fun h => by have := LTz _ h; omega)) rfl; have z4 := cell_box 4 (hSw.box rbx2.out (fun h => by have := LTz _ h; omega)) rfl; have z5 := cell_box 5 (hSw.box rbx2.out (fun h => by have := LTz _ h; omega)) rfl; go_simp) ?_
      refine tk0 1 (.bool true) rfl ?_
      refine tk0 2 (.bool true) rfl ?_
      refine tk0 3 (.pointer (some ⟨b2, 1, none⟩)) rfl ?_
      refine tk 4 (.slice xa q.nw xc) rfl (fun w' hSw => by (try dsimp only at hSw); have z0 := cell_box 1 (hSw.box rbx2.out (fun h => by have := LTz _ h; omega)) rfl; go_simp) ?_
      refine tk0 5 (.int .i64 (q.nw : Int)) rfl ?_
      refine tk 6 (.bool false) rfl (fun w' hSw => by (try dsimp only at hSw); have q1 := hn; have q2 : ((q.nw : Int) == 0) = false := (by simp [hn]); have q3 : (q.nw == 0) = false := (by simp [hn]); go_simp) ?_
      refine tk0 7 (.bool false) rfl ?_
      refine kd_skipI (i := 8) (w' := (((((V13.setCell ⟨b1, 0, none⟩ (.int .i64 q.base)).setCell ⟨b1, 1, none⟩ (.slice xa q.nw xc)).setCell ⟨b1, 2, none⟩ (.int .i64 q.want)).setCell ⟨b1, 3, none⟩ (.slice ya q.ng yc)).setCell ⟨b1, 4, none⟩ (.slice za q.nd zc)).setCell ⟨b1, 5, none⟩ (.slice ta q.nu tc)) (fun V => Mv (fun g => g = b1) V13 V ∧ V.heap[b1]? = some (.cells #[.int .i64 q.base, .slice xa q.nw xc, .int .i64 q.want, .slice ya q.ng yc, .slice za q.nd zc, .slice ta q.nu tc] 27 (0, 0))) (by kernel_rfl) rfl (by rfl) (by have fr := fun i => frozen_of_row _ _ i _ _ bx1.out; have z0 := cell_box 0 bx1.out rfl; have z1 := cell_box 1 bx1.out rfl; have z2 := cell_box 2 bx1.out rfl; have z3 := cell_box 3 bx1.out rfl; have z4 := cell_box 4 bx1.out rfl; have z5 := cell_box 5 bx1.out rfl; go_simp) ⟨Mv.set (Mv.set (Mv.set (Mv.set (Mv.set (Mv.set (Mv.refl _ _) _ _) _ _) _ _) _ _) _ _) _ _, (heap_setCell_same _ _ 5 _ _ _ (heap_setCell_same _ _ 4 _ _ _ (heap_setCell_same _ _ 3 _ _ _ (heap_setCell_same _ _ 2 _ _ _ (heap_setCell_same _ _ 1 _ _ _ (heap_setCell_same _ _ 0 _ _ _ (bx1.out))))))).trans rfl⟩ (fun V hI _ => hS.step hI.1 (fun g hg h => by first | exact h | (have h : g = b1 := h; exfalso; omega))) ?_
      rintro V14 ⟨m14, nxV14⟩
      refine ptk ?_
      replace LN := hide (LN.out.mv m14 (fun g hg h => by have h : g = b1 := h; have := AF.out g hg; omega))
      replace bx1 := hide nxV14
      clear nxV14
      replace hS := hS.step m14 (fun g hg h => by first | exact h | (have h : g = b1 := h; exfalso; omega))
      refine tk0 9 (.bool false) rfl ?_
      refine wpAnyK_done (by kernel_rfl) ?_
      clear hS rbx0 rbx1 rbx2
      refine then_normal (hK _ _ ?_); clear hK K; refine wp_ret ?_
      have hA : (q, false) = A := by rw [← calN_end hn]; have := QF.out.2.2.1 rfl; rwa [hi] at this
      subst hA
      try simp only [Exit.then, Exit.inBlock, ↓reduceIte, Nat.reduceEqDiff]
      obtain ⟨_, q1_0, q1_1, q1_2, q1_3, q1_4, q1_5⟩ := box6 bx1.out
      replace HB := Xhb (Xhn HB m13) m14; exact bodyPost_ret (v := .tuple #[.agg #[.int .i64 q.base, .slice xa q.nw xc, .int .i64 q.want, .slice ya q.ng yc, .slice za q.nd zc, .slice ta q.nu tc], .bool false]) (by simp [results, Try.results17, go_sem, q1_0, q1_1, q1_2, q1_3, q1_4, q1_5]) rfl ⟨_, _, _, _, rfl, LN.out, HB.out.below⟩
    replace hl : i < 20 := by omega
    refine sv (.bool true) ?_
    refine sv (.bool true) ?_
    refine sv (.pointer (some ⟨b2, 1, none⟩)) ?_
    refine sl 1 bx2 ?_
    refine sg (.int .i64 (q.nw : Int)) ?_
    refine sg (.bool true) (h := by have q1 : decide (0 < (q.nw : Int)) = true := decide_eq_true (by omega); have q2 : decide (0 < q.nw) = true := decide_eq_true (by omega); go_simp) ?_
    refine sg (.bool true) ?_
    refine sv (.bool true) ?_
    refine sv (.int .i64 ((i : Int))) ?_
    refine sg (.bool true) (h := by have q1 : decide ((i : Int) < 20) = true := decide_eq_true (by omega); have q2 : decide (i < 20) = true := decide_eq_true (by omega); go_simp) ?_
    refine sg (.bool true) ?_
    refine nt (hK _ _ ?_); clear hK K; refine ct (wp_skip (then_normal (hK _ _ ?_))); clear hK K; refine sk fun K hK => wp_block (rl ?_)
    obtain ⟨L, rb_, hR⟩ : ∃ L b, rnd q = (L, b) := ⟨_, _, rfl⟩
    have hLf := rnd_lf QF.out.1
    rw [hR] at hLf
    have hgo := (calN_go hn hl).symm.trans (QF.out.2.2.1 rfl)
    rw [hR] at hgo
    have HG := hide (And.intro hLf hgo)
    clear hLf hgo
    refine sl6 bx2 ?_
    have szT := lt_of_block bx2.out
    have szW := HB.out.size
    refine sw_call (by rfl) (by first | rfl | (go_simp; done)) (linkRound_sl q xa ya za ta xc yc zc tc w.heap.size VL1 LN.out szW QF.out.1 (L, rb_) hR) ?_
    rintro e V15 ⟨wv, gv, dv, uv, rfl, mm, LQ, hnw⟩
    have m15 : Mv (Lrb (.slice xa q.nw xc) (.slice ya q.ng yc) (.slice za q.nd zc) (.slice ta q.nu tc)) VL1 V15 := mm
    refine ⟨_, rfl, ?_⟩
    refine pt ?_
    replace HB := hide (HB.out.step m15 (fun g hlt h => by have := (LN.out.lt g h).1; exfalso; omega))
    replace bx0 := hide (m15.box bx0.out (fun h => by have := AF.out _ h; omega))
    replace bx1 := hide (m15.box bx1.out (fun h => by have := AF.out _ h; omega))
    replace bx2 := hide (m15.box bx2.out (fun h => by have := AF.out _ h; omega))
    obtain ⟨x2a, x2c, rfl, _⟩ := LQ.wa.form
    obtain ⟨y2a, y2c, rfl, _⟩ := LQ.go.form
    obtain ⟨z2a, z2c, rfl, _⟩ := LQ.dn.form
    obtain ⟨t2a, t2c, rfl, _⟩ := LQ.up.form
    replace LN := hide LQ
    replace AF : Hid (∀ g, Lrb (.slice x2a L.nw x2c) (.slice y2a L.ng y2c) (.slice z2a L.nd z2c) (.slice t2a L.nu t2c) g → g ≠ b0 ∧ g ≠ b1 ∧ g ≠ b2) := hide (fun g h => (hnw g h).elim (fun h2 => AF.out g h2) (fun h2 => by omega))
    clear LQ mm hnw szT szW
    refine sv (.tuple #[.agg #[.int .i64 L.base, .slice x2a L.nw x2c, .int .i64 L.want, .slice y2a L.ng y2c, .slice z2a L.nd z2c, .slice t2a L.nu t2c], .bool rb_]) ?_
    refine sv (.agg #[.int .i64 L.base, .slice x2a L.nw x2c, .int .i64 L.want, .slice y2a L.ng y2c, .slice z2a L.nd z2c, .slice t2a L.nu t2c]) ?_
    refine sv (.bool rb_) ?_
    refine ss6 (.int .i64 L.base) (.slice x2a L.nw x2c) (.int .i64 L.want) (.slice y2a L.ng y2c) (.slice z2a L.nd z2c) (.slice t2a L.nu t2c) bx2 fun V16 m16 bx2 => ?_
    replace LN := hide (LN.out.mv m16 (fun g hg h => by have h : g = b2 := h; have := AF.out g hg; omega))
    refine sv (.bool rb_) ?_
    refine wpList_nil (inb_norm (then_normal (hK _ _ ?_))); clear hK K; refine rl ?_
    refine sv (.int .i64 ((i : Int))) ?_
    refine sg (.int .i64 (((i + 1 : Nat) : Int))) (h := by have hw : IntKind.i64.wrap ((i : Int) + 1) = ((i + 1 : Nat) : Int) := (by rw [i64wrap (by omega)]; omega); go_simp) ?_
    refine sv (.int .i64 (((i + 1 : Nat) : Int))) ?_
    refine nt ?_
    replace HB := Xhb HB m16; replace bx0 := Xbb bx0 m16; replace bx1 := Xbb bx1 m16; exact ⟨ms2 rb_ (i + 1), ms2_lt hl, L, rb_, i + 1, x2a, x2c, y2a, y2c, z2a, z2c, t2a, t2c, _, _, _, _, _, _, _, _, _, _, _, _, _, _, _, _, _, _, rfl, rfl, (HB.out), (LN.out), (AF.out), (⟨HG.out.1, by omega, fun h => by have := HG.out.2; rw [h] at this; simpa using this, fun h => by have := HG.out.2; rw [h] at this; simpa using this⟩), (bx0.out), (bx1.out), (bx2.out)⟩

end Go.Proofs.Ytgflipkhhpkidaa
