/- LdZa -/
import Derived.Test.YtnkocikbapbbmaaYnkPlay35
/- spec.l8Act: offers, wrong kinds (written by mkLdZ.py) -/
namespace Go.Proofs.Ytnkocikbapbbmaa
open Go.RowKit
set_option linter.unusedVariables false
set_option linter.unusedSimpArgs false

set_option maxHeartbeats 20000000 in
set_option maxRecDepth 20000 in
theorem sb_1 (p : Lk) (wa ga da ua : Option Addr) (wc gc dc uc : Nat) (base : Nat) (w : World) (hr : Lr w base (.slice wa p.nw wc) (.slice ga p.ng gc) (.slice da p.nd dc) (.slice ua p.nu uc) p) (hle : base ≤ w.heap.size) (z bit : Int) (body : ByteArray) (hf : Lf p) :
    Calls Try.prog 57 #[.agg (l6 p.base (.slice wa p.nw wc) p.want (.slice ga p.ng gc) (.slice da p.nd dc) (.slice ua p.nu uc)), .agg (a4 1 z bit body)] w (SaP (.slice wa p.nw wc) (.slice ga p.ng gc) (.slice da p.nd dc) (.slice ua p.nu uc) base w p (saC p 1 z bit body) (actL p 1 z bit body)) := by
  have hnw := hf.w8
  have HB : Hid (Mv (Lrb (.slice wa p.nw wc) (.slice ga p.ng gc) (.slice da p.nd dc) (.slice ua p.nu uc)) w w) := hide (Mv.refl _ _)
  have LO := hide hr
  have LT := hide (fun g (h : Lrb (.slice wa p.nw wc) (.slice ga p.ng gc) (.slice da p.nd dc) (.slice ua p.nu uc) g) => (hr.lt g h).2)
  have hbs : base ≤ w.heap.size := hle
  clear hr hle
  go_enter Try.func57, Try.ntmps57
  refine sk fun K hK => rl ?_
  refine sbp #[.int .i64 p.base, .slice wa p.nw wc, .int .i64 p.want, .slice ga p.ng gc, .slice da p.nd dc, .slice ua p.nu uc] 30 fun V1 b0 hb0 m1 bx0 => ?_
  have o_0 : w.heap.size ≤ b0 := by omega
  clear hb0
  refine sbp #[.int .i64 1, .int .i64 z, .int .i64 bit, .string body] 39 fun V2 b1 hb1 m2 bx1 => ?_
  have o0_1 := Xlo bx0 hb1; clear hb1
  refine sbp #[.int .i64 0, .slice none 0 0, .int .i64 0, .slice none 0 0, .slice none 0 0, .slice none 0 0] 30 fun V3 b2 hb2 m3 bx2 => ?_
  have o1_2 := Xlo bx1 hb2; clear hb2
  refine sv (.int .i64 0) ?_
  refine nt (hK _ _ ?_); clear hK K; refine sk fun K hK => sk fun K hK => rl ?_
  refine sv (.pointer (some ⟨b1, 0, none⟩)) ?_
  replace bx1 := Xbn bx1 m3; refine sl 0 bx1 ?_
  refine nt (hK _ _ ?_); clear hK K; refine wp_block (sk fun K hK => rl ?_)
  refine sg (.bool true) ?_
  refine sv (.bool true) ?_
  refine nt (hK _ _ ?_); clear hK K; refine ct (sk fun K hK => sk fun K hK => rl ?_)
  by_cases hz : ¬ z = 0
  · refine sv (.pointer (some ⟨b1, 1, none⟩)) ?_
    refine sl 1 bx1 ?_
    refine sg (.bool true) (h := by have dz := hz; go_simp) ?_
    refine sv (.bool true) ?_
    with_reducible refine sp ?_
    with_reducible refine sp ?_
    with_reducible refine sp ?_
    refine sg (.bool true) ?_
    refine sv (.bool true) ?_
    with_reducible refine sp ?_
    with_reducible refine sp ?_
    with_reducible refine sp ?_
    with_reducible refine sp ?_
    refine sg (.bool true) ?_
    refine nt (hK _ _ ?_); clear hK K; refine ct (sk fun K hK => rl ?_)
    replace bx0 := Xbn (Xbn bx0 m2) m3; refine sl6 bx0 ?_
    refine ss6 (.int .i64 p.base) (.slice wa p.nw wc) (.int .i64 p.want) (.slice ga p.ng gc) (.slice da p.nd dc) (.slice ua p.nu uc) bx2 fun V4 m4 bx2 => ?_
    refine sv (.int .i64 2) ?_
    refine nt (hK _ _ ?_); clear hK K; refine wp_ret (then_ret ?_); refine inb_ret ?_; refine then_ret ?_
    try simp only [Exit.then, Exit.inBlock, ↓reduceIte, Nat.reduceEqDiff]
    obtain ⟨_, q2_0, q2_1, q2_2, q2_3, q2_4, q2_5⟩ := box6 bx2.out
    replace HB := Xhb (Xhn (Xhn (Xhn HB m1) m2) m3) m4; exact bodyPost_ret (v := .tuple #[.agg #[.int .i64 p.base, .slice wa p.nw wc, .int .i64 p.want, .slice ga p.ng gc, .slice da p.nd dc, .slice ua p.nu uc], .int .i64 2]) (by simp [results, Try.results57, go_sem, q2_0, q2_1, q2_2, q2_3, q2_4, q2_5]) rfl (sap_no ⟨rfl, HB.out⟩ ⟨⟨_, _, _, rfl⟩, ⟨_, _, _, rfl⟩, ⟨_, _, _, rfl⟩, ⟨_, _, _, rfl⟩⟩ (by simp [saC, laB, hz]) (by decide))
  replace hz : z = 0 := by omega
  by_cases hb : ¬ bit = 0
  · refine sv (.pointer (some ⟨b1, 1, none⟩)) ?_
    refine sl 1 bx1 ?_
    refine sg (.bool false) (h := by have dz := hz; go_simp) ?_
    refine sv (.bool false) ?_
    refine sv (.pointer (some ⟨b1, 2, none⟩)) ?_
    refine sl 2 bx1 ?_
    refine sg (.bool true) (h := by have db := hb; go_simp) ?_
    refine sg (.bool true) ?_
    refine sv (.bool true) ?_
    with_reducible refine sp ?_
    with_reducible refine sp ?_
    with_reducible refine sp ?_
    with_reducible refine sp ?_
    refine sg (.bool true) ?_
    refine nt (hK _ _ ?_); clear hK K; refine ct (sk fun K hK => rl ?_)
    replace bx0 := Xbn (Xbn bx0 m2) m3; refine sl6 bx0 ?_
    refine ss6 (.int .i64 p.base) (.slice wa p.nw wc) (.int .i64 p.want) (.slice ga p.ng gc) (.slice da p.nd dc) (.slice ua p.nu uc) bx2 fun V5 m5 bx2 => ?_
    refine sv (.int .i64 2) ?_
    refine nt (hK _ _ ?_); clear hK K; refine wp_ret (then_ret ?_); refine inb_ret ?_; refine then_ret ?_
    try simp only [Exit.then, Exit.inBlock, ↓reduceIte, Nat.reduceEqDiff]
    obtain ⟨_, q2_0, q2_1, q2_2, q2_3, q2_4, q2_5⟩ := box6 bx2.out
    replace HB := Xhb (Xhn (Xhn (Xhn HB m1) m2) m3) m5; exact bodyPost_ret (v := .tuple #[.agg #[.int .i64 p.base, .slice wa p.nw wc, .int .i64 p.want, .slice ga p.ng gc, .slice da p.nd dc, .slice ua p.nu uc], .int .i64 2]) (by simp [results, Try.results57, go_sem, q2_0, q2_1, q2_2, q2_3, q2_4, q2_5]) rfl (sap_no ⟨rfl, HB.out⟩ ⟨⟨_, _, _, rfl⟩, ⟨_, _, _, rfl⟩, ⟨_, _, _, rfl⟩, ⟨_, _, _, rfl⟩⟩ (by simp [saC, laB, hb]) (by decide))
  replace hb : bit = 0 := by omega
  by_cases h8 : ¬ body.size ≤ 8
  · refine sv (.pointer (some ⟨b1, 1, none⟩)) ?_
    refine sl 1 bx1 ?_
    refine sg (.bool false) (h := by have dz := hz; go_simp) ?_
    refine sv (.bool false) ?_
    refine sv (.pointer (some ⟨b1, 2, none⟩)) ?_
    refine sl 2 bx1 ?_
    refine sg (.bool false) (h := by have db := hb; go_simp) ?_
    refine sg (.bool false) ?_
    refine sv (.bool false) ?_
    refine sv (.pointer (some ⟨b1, 3, none⟩)) ?_
    refine sl 3 bx1 ?_
    refine sg (.int .i64 ((body.size : Int))) ?_
    refine sg (.bool true) (h := by have q1 : decide (8 < (body.size : Int)) = true := decide_eq_true (by omega); have q2 : decide (8 < body.size) = true := decide_eq_true (by omega); go_simp) ?_
    refine sg (.bool true) ?_
    refine nt (hK _ _ ?_); clear hK K; refine ct (sk fun K hK => rl ?_)
    replace bx0 := Xbn (Xbn bx0 m2) m3; refine sl6 bx0 ?_
    refine ss6 (.int .i64 p.base) (.slice wa p.nw wc) (.int .i64 p.want) (.slice ga p.ng gc) (.slice da p.nd dc) (.slice ua p.nu uc) bx2 fun V6 m6 bx2 => ?_
    refine sv (.int .i64 2) ?_
    refine nt (hK _ _ ?_); clear hK K; refine wp_ret (then_ret ?_); refine inb_ret ?_; refine then_ret ?_
    try simp only [Exit.then, Exit.inBlock, ↓reduceIte, Nat.reduceEqDiff]
    obtain ⟨_, q2_0, q2_1, q2_2, q2_3, q2_4, q2_5⟩ := box6 bx2.out
    replace HB := Xhb (Xhn (Xhn (Xhn HB m1) m2) m3) m6; exact bodyPost_ret (v := .tuple #[.agg #[.int .i64 p.base, .slice wa p.nw wc, .int .i64 p.want, .slice ga p.ng gc, .slice da p.nd dc, .slice ua p.nu uc], .int .i64 2]) (by simp [results, Try.results57, go_sem, q2_0, q2_1, q2_2, q2_3, q2_4, q2_5]) rfl (sap_no ⟨rfl, HB.out⟩ ⟨⟨_, _, _, rfl⟩, ⟨_, _, _, rfl⟩, ⟨_, _, _, rfl⟩, ⟨_, _, _, rfl⟩⟩ (by simp [saC, laB, h8]) (by decide))
  replace h8 : body.size ≤ 8 := by omega
  refine sv (.pointer (some ⟨b1, 1, none⟩)) ?_
  refine sl 1 bx1 ?_
  refine sg (.bool false) (h := by have dz := hz; go_simp) ?_
  refine sv (.bool false) ?_
  refine sv (.pointer (some ⟨b1, 2, none⟩)) ?_
  refine sl 2 bx1 ?_
  refine sg (.bool false) (h := by have db := hb; go_simp) ?_
  refine sg (.bool false) ?_
  refine sv (.bool false) ?_
  refine sv (.pointer (some ⟨b1, 3, none⟩)) ?_
  refine sl 3 bx1 ?_
  refine sg (.int .i64 ((body.size : Int))) ?_
  refine sg (.bool false) (h := by have q1 : decide (8 < (body.size : Int)) = false := decide_eq_false (by omega); have q2 : decide (8 < body.size) = false := decide_eq_false (by omega); go_simp) ?_
  refine sg (.bool false) ?_
  refine nt (hK _ _ ?_); clear hK K; refine cf (wp_skip (then_normal (hK _ _ ?_))); clear hK K; refine sk fun K hK => rl ?_
  refine sv (.pointer (some ⟨b0, 1, none⟩)) ?_
  replace bx0 := Xbn (Xbn bx0 m2) m3; refine sl 1 bx0 ?_
  refine sv (.pointer (some ⟨b1, 3, none⟩)) ?_
  refine sl 3 bx1 ?_
  refine sbs 1 #[.string body] 9 fun V7 b3 hb3 m7 bx3 => ?_
  have o2_3 := Xlo bx2 hb3; clear hb3
  have szT := lt_of_block bx3.out
  replace HB := Xhn (Xhn (Xhn (Xhn HB m1) m2) m3) m7; have szW := HB.out.size
  have LTm : ∀ g, rb (.slice wa p.nw wc) = some g → g < w.heap.size := fun g h => LT.out g (.inl h)
  replace LO := Xln (Xln (Xln (Xln LO m1) m2) m3) m7; obtain ⟨gx, ox, kx, V8, hrun, hgr, hrg, hbl, hold⟩ := add_text V7 base (.slice wa p.nw wc) p.nw p.ws body 22 ⟨b3, 0, none⟩ 1 (cell_box 0 bx3.out rfl) LO.out.wa (by omega) (by omega)
  have m8 : Mv (fun g => rb (.slice wa p.nw wc) = some g) V7 V8 := Mv.of_grown hgr
  refine sw_valW (by rfl) (run_append_op _ _ 22 (by rfl) (by rfl) (by rfl) hrun) ?_
  refine pt ?_
  replace HB := hide (HB.out.step m8 (fun g _ h => .inl h))
  replace bx0 := Xbn bx0 m7; replace bx0 := hide (m8.box bx0.out (fun h => by have := LTm _ h; omega))
  replace bx1 := Xbn bx1 m7; replace bx1 := hide (m8.box bx1.out (fun h => by have := LTm _ h; omega))
  replace bx2 := Xbn bx2 m7; replace bx2 := hide (m8.box bx2.out (fun h => by have := LTm _ h; omega))
  replace bx3 := hide (m8.box bx3.out (fun h => by have := LTm _ h; omega))
  have NX : Nw V7.heap.size (.slice wa p.nw wc) (.slice ga p.ng gc) (.slice da p.nd dc) (.slice ua p.nu uc) (.slice (some ⟨gx, ox, none⟩) (p.nw + 1) kx) (.slice ga p.ng gc) (.slice da p.nd dc) (.slice ua p.nu uc) := nw_wa (fun g e => (rb_blk e : gx = g) ▸ hbl)
  have LN := hide ((LO.out.put_wa hgr hrg (fun g e => (rb_blk e : gx = g) ▸ hbl) : Lr V8 base (.slice (some ⟨gx, ox, none⟩) (p.nw + 1) kx) (.slice ga p.ng gc) (.slice da p.nd dc) (.slice ua p.nu uc) (offL p body)))
  have AF : Hid (∀ g, Lrb (.slice (some ⟨gx, ox, none⟩) (p.nw + 1) kx) (.slice ga p.ng gc) (.slice da p.nd dc) (.slice ua p.nu uc) g → g ≠ b0 ∧ g ≠ b1 ∧ g ≠ b2 ∧ g ≠ b3) := hide (fun g h => (NX g h).elim (fun h2 => by have := LT.out g h2; omega) (fun h2 => by omega))
  have AN : Hid (Nw w.heap.size (.slice wa p.nw wc) (.slice ga p.ng gc) (.slice da p.nd dc) (.slice ua p.nu uc) (.slice (some ⟨gx, ox, none⟩) (p.nw + 1) kx) (.slice ga p.ng gc) (.slice da p.nd dc) (.slice ua p.nu uc)) := hide (fun g h => (NX g h).elim (fun h2 => .inl h2) (fun h2 => .inr (by omega)))
  clear NX szT szW; clear hrun hgr hrg hold hbl LTm; clear LO
  refine sv (.pointer (some ⟨b0, 1, none⟩)) ?_
  refine ss 1 (.slice (some ⟨gx, ox, none⟩) (p.nw + 1) kx) bx0 fun V9 m9 bx0 => ?_
  replace LN := hide (LN.out.mv m9 (fun g hg h => by have h : g = b0 := h; have := AF.out g hg; omega))
  refine nt (hK _ _ ?_); clear hK K; refine sk fun K hK => rl ?_
  refine sl6 bx0 ?_
  replace bx2 := Xbb bx2 m9; refine ss6 (.int .i64 p.base) (.slice (some ⟨gx, ox, none⟩) (p.nw + 1) kx) (.int .i64 p.want) (.slice ga p.ng gc) (.slice da p.nd dc) (.slice ua p.nu uc) bx2 fun V10 m10 bx2 => ?_
  replace LN := hide (LN.out.mv m10 (fun g hg h => by have h : g = b2 := h; have := AF.out g hg; omega))
  refine sv (.int .i64 0) ?_
  refine nt (hK _ _ ?_); clear hK K; refine wp_ret ?_; refine inb_ret ?_; refine then_ret ?_
  try simp only [Exit.then, Exit.inBlock, ↓reduceIte, Nat.reduceEqDiff]
  obtain ⟨_, q2_0, q2_1, q2_2, q2_3, q2_4, q2_5⟩ := box6 bx2.out
  replace HB := Xhb (Xhb HB m9) m10; exact bodyPost_ret (v := .tuple #[.agg #[.int .i64 p.base, .slice (some ⟨gx, ox, none⟩) (p.nw + 1) kx, .int .i64 p.want, .slice ga p.ng gc, .slice da p.nd dc, .slice ua p.nu uc], .int .i64 0]) (by simp [results, Try.results57, go_sem, q2_0, q2_1, q2_2, q2_3, q2_4, q2_5]) rfl (sap_ok (q := offL p body) ⟨_, _, _, _, rfl, HB.out, LN.out, AN.out⟩ (by simp [saC, laB, hz, hb, h8, actC]) (by simp [actL]))

set_option maxHeartbeats 20000000 in
set_option maxRecDepth 20000 in
theorem sb_k (p : Lk) (wa ga da ua : Option Addr) (wc gc dc uc : Nat) (base : Nat) (w : World) (hr : Lr w base (.slice wa p.nw wc) (.slice ga p.ng gc) (.slice da p.nd dc) (.slice ua p.nu uc) p) (hle : base ≤ w.heap.size) (k : Int) (hk1 : ¬ k = 1) (hk2 : ¬ k = 2) (hk3 : ¬ k = 3) (hk5 : ¬ k = 5) (hk7 : ¬ k = 7) (hk8 : ¬ k = 8) (hkk : decide (3 ≤ k ∧ k ≤ 8) = false) (z bit : Int) (body : ByteArray) (hf : Lf p) (hcl : saC p k z bit body = 2) :
    Calls Try.prog 57 #[.agg (l6 p.base (.slice wa p.nw wc) p.want (.slice ga p.ng gc) (.slice da p.nd dc) (.slice ua p.nu uc)), .agg (a4 k z bit body)] w (SaP (.slice wa p.nw wc) (.slice ga p.ng gc) (.slice da p.nd dc) (.slice ua p.nu uc) base w p (saC p k z bit body) (actL p k z bit body)) := by
  have HB : Hid (Mv (Lrb (.slice wa p.nw wc) (.slice ga p.ng gc) (.slice da p.nd dc) (.slice ua p.nu uc)) w w) := hide (Mv.refl _ _)
  have LO := hide hr
  have LT := hide (fun g (h : Lrb (.slice wa p.nw wc) (.slice ga p.ng gc) (.slice da p.nd dc) (.slice ua p.nu uc) g) => (hr.lt g h).2)
  have hbs : base ≤ w.heap.size := hle
  clear hr hle
  go_enter Try.func57, Try.ntmps57
  refine sk fun K hK => rl ?_
  refine sbp #[.int .i64 p.base, .slice wa p.nw wc, .int .i64 p.want, .slice ga p.ng gc, .slice da p.nd dc, .slice ua p.nu uc] 30 fun V1 b0 hb0 m1 bx0 => ?_
  have o_0 : w.heap.size ≤ b0 := by omega
  clear hb0
  refine sbp #[.int .i64 k, .int .i64 z, .int .i64 bit, .string body] 39 fun V2 b1 hb1 m2 bx1 => ?_
  have o0_1 := Xlo bx0 hb1; clear hb1
  refine sbp #[.int .i64 0, .slice none 0 0, .int .i64 0, .slice none 0 0, .slice none 0 0, .slice none 0 0] 30 fun V3 b2 hb2 m3 bx2 => ?_
  have o1_2 := Xlo bx1 hb2; clear hb2
  refine sv (.int .i64 0) ?_
  refine nt (hK _ _ ?_); clear hK K; refine sk fun K hK => sk fun K hK => rl ?_
  refine sv (.pointer (some ⟨b1, 0, none⟩)) ?_
  replace bx1 := Xbn bx1 m3; refine sl 0 bx1 ?_
  refine nt (hK _ _ ?_); clear hK K; refine wp_block (sk fun K hK => rl ?_)
  refine sg (.bool false) (h := by have e1 := hk1; go_simp) ?_
  refine sv (.bool false) ?_
  refine nt (hK _ _ ?_); clear hK K; refine cf (sk fun K hK => rl ?_)
  refine sg (.bool false) (h := by have e2 := hk2; go_simp) ?_
  refine sv (.bool false) ?_
  refine nt (hK _ _ ?_); clear hK K; refine cf (wp_skip (inb_norm (then_normal (hK _ _ ?_)))); clear hK K; refine sk fun K hK => rl ?_
  refine sv (.pointer (some ⟨b1, 0, none⟩)) ?_
  refine sl 0 bx1 ?_
  refine sg (.bool false) (h := by have e3 := hk3; go_simp) ?_
  refine sv (.bool false) ?_
  refine sv (.pointer (some ⟨b1, 0, none⟩)) ?_
  refine sl 0 bx1 ?_
  refine sg (.bool false) (h := by have e5 := hk5; go_simp) ?_
  refine sg (.bool false) ?_
  refine sv (.bool false) ?_
  refine sv (.pointer (some ⟨b1, 0, none⟩)) ?_
  refine sl 0 bx1 ?_
  refine sg (.bool false) (h := by have e7 := hk7; go_simp) ?_
  refine sg (.bool false) ?_
  refine sv (.bool false) ?_
  refine nt (hK _ _ ?_); clear hK K; refine sk fun K hK => rl ?_
  refine sv (.pointer (some ⟨b1, 0, none⟩)) ?_
  refine sl 0 bx1 ?_
  refine sg (.bool false) (h := by have e7 := hk7; go_simp) ?_
  refine sv (.bool false) ?_
  refine sv (.pointer (some ⟨b1, 0, none⟩)) ?_
  refine sl 0 bx1 ?_
  refine sg (.bool false) (h := by have e8 := hk8; go_simp) ?_
  refine sg (.bool false) ?_
  refine sv (.bool false) ?_
  refine nt (hK _ _ ?_); clear hK K; refine sk fun K hK => sk fun K hK => rl ?_
  refine sv (.pointer (some ⟨b1, 0, none⟩)) ?_
  refine sl 0 bx1 ?_
  refine sw_call (by rfl) (by first | rfl | (go_simp; done)) (l1In_as false k 3 8 V3 hkk) ?_
  rintro e V4 ⟨rfl, hbV4⟩
  have m4 : Mv (nob) V3 V4 := Mv.of_below hbV4
  refine ⟨_, rfl, ?_⟩
  refine pt ?_
  clear hbV4
  refine sg (.bool true) ?_
  refine sv (.bool true) ?_
  with_reducible refine sp ?_
  with_reducible refine sp ?_
  with_reducible refine sp ?_
  refine sg (.bool true) ?_
  refine sv (.bool true) ?_
  with_reducible refine sp ?_
  with_reducible refine sp ?_
  with_reducible refine sp ?_
  with_reducible refine sp ?_
  with_reducible refine sp ?_
  with_reducible refine sp ?_
  with_reducible refine sp ?_
  refine sg (.bool true) ?_
  refine nt (hK _ _ ?_); clear hK K; refine ct (sk fun K hK => rl ?_)
  replace bx0 := Xbn (Xbn (Xbn bx0 m2) m3) m4; refine sl6 bx0 ?_
  replace bx2 := Xbn bx2 m4; refine ss6 (.int .i64 p.base) (.slice wa p.nw wc) (.int .i64 p.want) (.slice ga p.ng gc) (.slice da p.nd dc) (.slice ua p.nu uc) bx2 fun V5 m5 bx2 => ?_
  refine sv (.int .i64 2) ?_
  refine nt (hK _ _ ?_); clear hK K; refine wp_ret (then_ret ?_)
  try simp only [Exit.then, Exit.inBlock, ↓reduceIte, Nat.reduceEqDiff]
  obtain ⟨_, q2_0, q2_1, q2_2, q2_3, q2_4, q2_5⟩ := box6 bx2.out
  replace HB := Xhb (Xhn (Xhn (Xhn (Xhn HB m1) m2) m3) m4) m5; exact bodyPost_ret (v := .tuple #[.agg #[.int .i64 p.base, .slice wa p.nw wc, .int .i64 p.want, .slice ga p.ng gc, .slice da p.nd dc, .slice ua p.nu uc], .int .i64 2]) (by simp [results, Try.results57, go_sem, q2_0, q2_1, q2_2, q2_3, q2_4, q2_5]) rfl (sap_no ⟨rfl, HB.out⟩ ⟨⟨_, _, _, rfl⟩, ⟨_, _, _, rfl⟩, ⟨_, _, _, rfl⟩, ⟨_, _, _, rfl⟩⟩ (hcl) (by decide))


end Go.Proofs.Ytnkocikbapbbmaa
