/- LdX -/
import Derived.Test.YtnkocikbapbbmaaYnkPlay28
/- spec.l8Down, spec.l8Up (written by mkLdX.py) -/
namespace Go.Proofs.Ytnkocikbapbbmaa
open Go.RowKit
set_option linter.unusedVariables false
set_option linter.unusedSimpArgs false

set_option maxHeartbeats 20000000 in
set_option maxRecDepth 20000 in
theorem l8Down_any (p : Lk) (s : ByteArray) (wa ga da ua : Option Addr) (wc gc dc uc : Nat) (base : Nat) (w : World) (hr : Lr w base (.slice wa p.nw wc) (.slice ga p.ng gc) (.slice da p.nd dc) (.slice ua p.nu uc) p) (hle : base ≤ w.heap.size) (hts : s.size ≤ 15) (h0 : 0 ≤ p.base) (h1 : p.base ≤ 999900) (h3 : p.nw ≤ 8) (h6 : 0 ≤ p.want) (hn : p.want ≤ p.base + p.nw) (hng : p.ng ≤ 1048000) (hnu : p.nu ≤ 1048000) :
    Calls Try.prog 67 #[.agg (l6 p.base (.slice wa p.nw wc) p.want (.slice ga p.ng gc) (.slice da p.nd dc) (.slice ua p.nu uc)), .string s] w fun e w' => ∃ wv gv dv uv, e = .returned (.agg (l6 (downL p s).base wv (downL p s).want gv dv uv)) ∧ Mv (Lrb (.slice wa p.nw wc) (.slice ga p.ng gc) (.slice da p.nd dc) (.slice ua p.nu uc)) w w' ∧ Lr w' base wv gv dv uv (downL p s) ∧ Nw w.heap.size (.slice wa p.nw wc) (.slice ga p.ng gc) (.slice da p.nd dc) (.slice ua p.nu uc) wv gv dv uv := by
  cases hrd : Flit.rd s with
  | false =>
    have HD : downL p s = p := by simp [downL, hrd]
    have HB : Hid (Mv (Lrb (.slice wa p.nw wc) (.slice ga p.ng gc) (.slice da p.nd dc) (.slice ua p.nu uc)) w w) := hide (Mv.refl _ _)
    have LO := hide hr
    have LT := hide (fun g (h : Lrb (.slice wa p.nw wc) (.slice ga p.ng gc) (.slice da p.nd dc) (.slice ua p.nu uc) g) => (hr.lt g h).2)
    have hbs : base ≤ w.heap.size := hle
    clear hr hle
    go_enter Try.func67, Try.ntmps67
    refine sk fun K hK => rl ?_
    refine sbp #[.int .i64 p.base, .slice wa p.nw wc, .int .i64 p.want, .slice ga p.ng gc, .slice da p.nd dc, .slice ua p.nu uc] 30 fun V1 b0 hb0 m1 bx0 => ?_
    have o_0 : w.heap.size ≤ b0 := by omega
    clear hb0
    refine sbp #[.int .i64 0, .slice none 0 0, .int .i64 0, .slice none 0 0, .slice none 0 0, .slice none 0 0] 30 fun V2 b1 hb1 m2 bx1 => ?_
    have o0_1 := Xlo bx0 hb1; clear hb1
    refine nt (hK _ _ ?_); clear hK K; refine sk fun K hK => rl ?_
    refine sv (.string s) ?_
    refine sw_call (by rfl) (by first | rfl | (go_simp; done)) (sread_as s false hrd V2 hts) ?_
    rintro e V3 ⟨rfl, hbV3⟩
    have m3 : Mv (nob) V2 V3 := Mv.of_below hbV3
    refine ⟨_, rfl, ?_⟩
    refine pt ?_
    clear hbV3
    refine sv (.tuple #[.agg #[.int .i64 (Flit.rK s), .int .i64 (Flit.rS s), .string (Flit.rB s)], .bool false]) ?_
    refine sv (.agg #[.int .i64 (Flit.rK s), .int .i64 (Flit.rS s), .string (Flit.rB s)]) ?_
    refine sv (.bool false) ?_
    refine sbp #[.int .i64 0, .int .i64 0, .string ⟨#[]⟩] 88 fun V4 b2 hb2 m4 bx2 => ?_
    replace bx1 := Xbn bx1 m3; have o1_2 := Xlo bx1 hb2; clear hb2
    refine ss3 (.int .i64 (Flit.rK s)) (.int .i64 (Flit.rS s)) (.string (Flit.rB s)) bx2 fun V5 m5 bx2 => ?_
    refine sv (.bool false) ?_
    refine nt (hK _ _ ?_); clear hK K; refine sk fun K hK => sk fun K hK => rl ?_
    refine sv (.bool false) ?_
    refine sg (.bool true) ?_
    refine sv (.bool true) ?_
    with_reducible refine sp ?_
    with_reducible refine sp ?_
    with_reducible refine sp ?_
    refine sg (.bool true) ?_
    refine nt (hK _ _ ?_); clear hK K; refine ct (sk fun K hK => rl ?_)
    replace bx0 := Xbb (Xbn (Xbn (Xbn bx0 m2) m3) m4) m5; refine sl6 bx0 ?_
    replace bx1 := Xbb (Xbn bx1 m4) m5; refine ss6 (.int .i64 p.base) (.slice wa p.nw wc) (.int .i64 p.want) (.slice ga p.ng gc) (.slice da p.nd dc) (.slice ua p.nu uc) bx1 fun V6 m6 bx1 => ?_
    refine nt (hK _ _ ?_); clear hK K; refine wp_ret ?_
    try simp only [Exit.then, Exit.inBlock, ↓reduceIte, Nat.reduceEqDiff]
    obtain ⟨_, q1_0, q1_1, q1_2, q1_3, q1_4, q1_5⟩ := box6 bx1.out
    replace HB := Xhb (Xhb (Xhn (Xhn (Xhn (Xhn HB m1) m2) m3) m4) m5) m6; replace LO := Xlb (Xlb (Xln (Xln (Xln (Xln LO m1) m2) m3) m4) LT m5) LT m6; exact bodyPost_ret (v := .agg #[.int .i64 p.base, .slice wa p.nw wc, .int .i64 p.want, .slice ga p.ng gc, .slice da p.nd dc, .slice ua p.nu uc]) (by simp [results, Try.results67, go_sem, q1_0, q1_1, q1_2, q1_3, q1_4, q1_5]) rfl ⟨_, _, _, _, by rw [HD], HB.out, by rw [HD]; exact LO.out, Nw.refl _ _ _ _ _⟩
  | true =>
    by_cases e1 : Flit.rK s = 1
    rotate_left
    · have HD : downL p s = p := by simp [downL, hrd, e1]
      have d1 : (Flit.rK s == 1) = false := by simpa using e1
      have HB : Hid (Mv (Lrb (.slice wa p.nw wc) (.slice ga p.ng gc) (.slice da p.nd dc) (.slice ua p.nu uc)) w w) := hide (Mv.refl _ _)
      have LO := hide hr
      have LT := hide (fun g (h : Lrb (.slice wa p.nw wc) (.slice ga p.ng gc) (.slice da p.nd dc) (.slice ua p.nu uc) g) => (hr.lt g h).2)
      have hbs : base ≤ w.heap.size := hle
      clear hr hle
      go_enter Try.func67, Try.ntmps67
      refine sk fun K hK => rl ?_
      refine sbp #[.int .i64 p.base, .slice wa p.nw wc, .int .i64 p.want, .slice ga p.ng gc, .slice da p.nd dc, .slice ua p.nu uc] 30 fun V1 b0 hb0 m1 bx0 => ?_
      have o_0 : w.heap.size ≤ b0 := by omega
      clear hb0
      refine sbp #[.int .i64 0, .slice none 0 0, .int .i64 0, .slice none 0 0, .slice none 0 0, .slice none 0 0] 30 fun V2 b1 hb1 m2 bx1 => ?_
      have o0_1 := Xlo bx0 hb1; clear hb1
      refine nt (hK _ _ ?_); clear hK K; refine sk fun K hK => rl ?_
      refine sv (.string s) ?_
      refine sw_call (by rfl) (by first | rfl | (go_simp; done)) (sread_as s true hrd V2 hts) ?_
      rintro e V3 ⟨rfl, hbV3⟩
      have m3 : Mv (nob) V2 V3 := Mv.of_below hbV3
      refine ⟨_, rfl, ?_⟩
      refine pt ?_
      clear hbV3
      refine sv (.tuple #[.agg #[.int .i64 (Flit.rK s), .int .i64 (Flit.rS s), .string (Flit.rB s)], .bool true]) ?_
      refine sv (.agg #[.int .i64 (Flit.rK s), .int .i64 (Flit.rS s), .string (Flit.rB s)]) ?_
      refine sv (.bool true) ?_
      refine sbp #[.int .i64 0, .int .i64 0, .string ⟨#[]⟩] 88 fun V4 b2 hb2 m4 bx2 => ?_
      replace bx1 := Xbn bx1 m3; have o1_2 := Xlo bx1 hb2; clear hb2
      refine ss3 (.int .i64 (Flit.rK s)) (.int .i64 (Flit.rS s)) (.string (Flit.rB s)) bx2 fun V5 m5 bx2 => ?_
      refine sv (.bool true) ?_
      refine nt (hK _ _ ?_); clear hK K; refine sk fun K hK => sk fun K hK => rl ?_
      refine sv (.bool true) ?_
      refine sg (.bool false) ?_
      refine sv (.bool false) ?_
      refine sv (.pointer (some ⟨b2, 0, none⟩)) ?_
      refine sl 0 bx2 ?_
      refine sg (.bool true) ?_
      refine sg (.bool true) ?_
      refine nt (hK _ _ ?_); clear hK K; refine ct (sk fun K hK => rl ?_)
      replace bx0 := Xbb (Xbn (Xbn (Xbn bx0 m2) m3) m4) m5; refine sl6 bx0 ?_
      replace bx1 := Xbb (Xbn bx1 m4) m5; refine ss6 (.int .i64 p.base) (.slice wa p.nw wc) (.int .i64 p.want) (.slice ga p.ng gc) (.slice da p.nd dc) (.slice ua p.nu uc) bx1 fun V6 m6 bx1 => ?_
      refine nt (hK _ _ ?_); clear hK K; refine wp_ret ?_
      try simp only [Exit.then, Exit.inBlock, ↓reduceIte, Nat.reduceEqDiff]
      obtain ⟨_, q1_0, q1_1, q1_2, q1_3, q1_4, q1_5⟩ := box6 bx1.out
      replace HB := Xhb (Xhb (Xhn (Xhn (Xhn (Xhn HB m1) m2) m3) m4) m5) m6; replace LO := Xlb (Xlb (Xln (Xln (Xln (Xln LO m1) m2) m3) m4) LT m5) LT m6; exact bodyPost_ret (v := .agg #[.int .i64 p.base, .slice wa p.nw wc, .int .i64 p.want, .slice ga p.ng gc, .slice da p.nd dc, .slice ua p.nu uc]) (by simp [results, Try.results67, go_sem, q1_0, q1_1, q1_2, q1_3, q1_4, q1_5]) rfl ⟨_, _, _, _, by rw [HD], HB.out, by rw [HD]; exact LO.out, Nw.refl _ _ _ _ _⟩
    · have HY : downL p s = dgL p (Flit.rS s) (Flit.rB s) := by simp [downL, hrd, e1]
      have d1 : (Flit.rK s == 1) = true := by simpa using e1
      by_cases e2 : Flit.rS s = p.want
      rotate_left
      · have HD : downL p s = ackUp p := by rw [HY]; simp [dgL, dgB, e2]
        have d2 : (Flit.rS s == p.want) = false := by simpa using e2
        clear HY e2
        have HB : Hid (Mv (Lrb (.slice wa p.nw wc) (.slice ga p.ng gc) (.slice da p.nd dc) (.slice ua p.nu uc)) w w) := hide (Mv.refl _ _)
        have LO := hide hr
        have LT := hide (fun g (h : Lrb (.slice wa p.nw wc) (.slice ga p.ng gc) (.slice da p.nd dc) (.slice ua p.nu uc) g) => (hr.lt g h).2)
        have hbs : base ≤ w.heap.size := hle
        clear hr hle
        go_enter Try.func67, Try.ntmps67
        refine sk fun K hK => rl ?_
        refine sbp #[.int .i64 p.base, .slice wa p.nw wc, .int .i64 p.want, .slice ga p.ng gc, .slice da p.nd dc, .slice ua p.nu uc] 30 fun V1 b0 hb0 m1 bx0 => ?_
        have o_0 : w.heap.size ≤ b0 := by omega
        clear hb0
        refine sbp #[.int .i64 0, .slice none 0 0, .int .i64 0, .slice none 0 0, .slice none 0 0, .slice none 0 0] 30 fun V2 b1 hb1 m2 bx1 => ?_
        have o0_1 := Xlo bx0 hb1; clear hb1
        refine nt (hK _ _ ?_); clear hK K; refine sk fun K hK => rl ?_
        refine sv (.string s) ?_
        refine sw_call (by rfl) (by first | rfl | (go_simp; done)) (sread_as s true hrd V2 hts) ?_
        rintro e V3 ⟨rfl, hbV3⟩
        have m3 : Mv (nob) V2 V3 := Mv.of_below hbV3
        refine ⟨_, rfl, ?_⟩
        refine pt ?_
        clear hbV3
        refine sv (.tuple #[.agg #[.int .i64 (Flit.rK s), .int .i64 (Flit.rS s), .string (Flit.rB s)], .bool true]) ?_
        refine sv (.agg #[.int .i64 (Flit.rK s), .int .i64 (Flit.rS s), .string (Flit.rB s)]) ?_
        refine sv (.bool true) ?_
        refine sbp #[.int .i64 0, .int .i64 0, .string ⟨#[]⟩] 88 fun V4 b2 hb2 m4 bx2 => ?_
        replace bx1 := Xbn bx1 m3; have o1_2 := Xlo bx1 hb2; clear hb2
        refine ss3 (.int .i64 (Flit.rK s)) (.int .i64 (Flit.rS s)) (.string (Flit.rB s)) bx2 fun V5 m5 bx2 => ?_
        refine sv (.bool true) ?_
        refine nt (hK _ _ ?_); clear hK K; refine sk fun K hK => sk fun K hK => rl ?_
        refine sv (.bool true) ?_
        refine sg (.bool false) ?_
        refine sv (.bool false) ?_
        refine sv (.pointer (some ⟨b2, 0, none⟩)) ?_
        refine sl 0 bx2 ?_
        refine sg (.bool false) ?_
        refine sg (.bool false) ?_
        refine nt (hK _ _ ?_); clear hK K; refine cf (wp_skip (then_normal (hK _ _ ?_))); clear hK K; refine sk fun K hK => sk fun K hK => rl ?_
        refine sv (.pointer (some ⟨b2, 1, none⟩)) ?_
        refine sl 1 bx2 ?_
        refine sv (.pointer (some ⟨b0, 2, none⟩)) ?_
        replace bx0 := Xbb (Xbn (Xbn (Xbn bx0 m2) m3) m4) m5; refine sl 2 bx0 ?_
        refine sg (.bool false) ?_
        refine sv (.bool false) ?_
        with_reducible refine sp ?_
        with_reducible refine sp ?_
        with_reducible refine sp ?_
        with_reducible refine sp ?_
        with_reducible refine sp ?_
        with_reducible refine sp ?_
        with_reducible refine sp ?_
        with_reducible refine sp ?_
        with_reducible refine sp ?_
        refine sg (.bool false) ?_
        refine nt (hK _ _ ?_); clear hK K; refine cf (wp_skip (then_normal (hK _ _ ?_))); clear hK K; refine sk fun K hK => ?_
        have LTu : ∀ g, rb (.slice ua p.nu uc) = some g → g < w.heap.size := fun g h => LT.out g (.inr (.inr (.inr h)))
        refine wp_region_but (z := 10) (S := fun w' => Mv (fun g => rb (.slice ua p.nu uc) = some g) V5.drew w') (by kernel_rfl) (Mv.refl _ _) (fun hS => ?_)
        have m6 : Mv nob V5 V5.drew := Mv.drew _
        obtain ⟨V6, hV6⟩ : ∃ V, V5.drew = V := ⟨_, rfl⟩
        rw [hV6] at hS m6 ⊢
        clear hV6; replace bx0 := Xbn bx0 m6; have rbx0 := bx0; replace bx1 := Xbn (Xbb (Xbn bx1 m4) m5) m6; have rbx1 := bx1; replace bx2 := Xbn bx2 m6; have rbx2 := bx2
        refine tk0 0 (.pointer (some ⟨b0, 5, none⟩)) rfl ?_
        refine tk 1 (.slice ua p.nu uc) rfl (fun w' hSw => by (try dsimp only at hSw); have z0 := cell_box 5 (hSw.box rbx0.out (fun h => by have := LTu _ h; omega)) rfl; go_simp) ?_
        refine tk0 2 (.pointer (some ⟨b0, 2, none⟩)) rfl ?_
        refine tk 3 (.int .i64 p.want) rfl (fun w' hSw => by (try dsimp only at hSw); have z0 := cell_box 2 (hSw.box rbx0.out (fun h => by have := LTu _ h; omega)) rfl; go_simp) ?_
        refine tk0 4 (.agg #[.int .i64 2, .int .i64 p.want, .string ⟨#[]⟩]) rfl ?_
        refine kd_call (i := 5) (by kernel_rfl) rfl (by rfl) (by first | rfl | (go_simp; done)) (l8Text_ack p.want V6 (by omega) (by omega)) ?_
        rintro e V7 ⟨rfl, hbV7⟩
        have m7 : Mv (nob) V6 V7 := Mv.of_below hbV7
        replace hS := hS.step m7 (fun _ _ h => h.elim)
        refine ⟨_, rfl, fun _ => hS, ?_⟩
        refine ptk ?_
        clear hbV7
        refine tk0 6 (.agg #[.string (Flit.txt 2 p.want ⟨#[]⟩), .bool false]) rfl ?_
        refine kd_valI (i := 7) (v := .slice (some ⟨V7.heap.size, 0, none⟩) 1 1) (w' := V7.alloc (.cells #[.string (Flit.txt 2 p.want ⟨#[]⟩), .bool false] 73)) (fun V => Mv nob V7 V ∧ V.heap[V7.heap.size]? = some (.cells #[.string (Flit.txt 2 p.want ⟨#[]⟩), .bool false] 73 (0, 0))) (by kernel_rfl) rfl (by rfl) (by first | rfl | go_simp) ⟨Mv.alloc _ _, heap_alloc_new _ _⟩ (fun V hI _ => hS.step hI.1 (fun _ _ h => h.elim)) ?_
        rintro V8 ⟨m8, nxV8⟩
        refine ptk ?_
        obtain ⟨b3, hb3⟩ : ∃ b3, V7.heap.size = b3 := ⟨_, rfl⟩
        rw [hb3] at nxV8 ⊢
        replace bx2 := Xbn bx2 m7; have o2_3 := Xlo bx2 hb3
        have sV8 : b3 < V8.heap.size := lt_of_block nxV8
        clear hb3
        have bx3 := hide nxV8
        clear nxV8
        replace hS := hS.step m8 (fun _ _ h => h.elim)
        clear sV8
        have LTy : ∀ g, rb (.slice ua p.nu uc) = some g → g < w.heap.size := fun g h => LT.out g (.inr (.inr (.inr h)))
        replace bx2 := Xbn bx2 m8; have szy := lt_of_block bx2.out
        replace HB := Xhn (Xhn (Xhn (Xhb (Xhn (Xhn (Xhn (Xhn HB m1) m2) m3) m4) m5) m6) m7) m8; replace LO := Xln (Xln (Xln (Xlb (Xln (Xln (Xln (Xln LO m1) m2) m3) m4) LT m5) m6) m7) m8; obtain ⟨gy, oy, ky, V9, hrun, hgr, hrg, hbl, hold⟩ := add_wire V8 base (.slice ua p.nu uc) p.nu p.ut p.uh (Flit.txt 2 p.want ⟨#[]⟩) false 28 b3 0 1 (cell_box 0 bx3.out rfl) (cell_box 1 bx3.out rfl) LO.out.up (by omega) (by have := HB.out.size; omega)
        have m9 : Mv (fun g => rb (.slice ua p.nu uc) = some g) V8 V9 := Mv.of_grown hgr
        replace hS := hS.step m9 (fun _ _ h => h)
        refine kd_valW (i := 8) (by kernel_rfl) rfl (by rfl) (run_append_op _ _ 28 (by rfl) (by rfl) (by rfl) hrun) (fun _ => hS) ?_
        refine ptk ?_
        replace HB := hide (HB.out.step m9 (fun g _ h => .inr (.inr (.inr h))))
        replace bx0 := Xbn (Xbn bx0 m7) m8; replace bx0 := hide (m9.box bx0.out (fun h => by have := LTy _ h; omega))
        replace bx1 := Xbn (Xbn bx1 m7) m8; replace bx1 := hide (m9.box bx1.out (fun h => by have := LTy _ h; omega))
        replace bx2 := hide (m9.box bx2.out (fun h => by have := LTy _ h; omega))
        replace bx3 := hide (m9.box bx3.out (fun h => by have := LTy _ h; omega))
        have LN := hide (LO.out.put_up hgr hrg (fun g e => (rb_blk e : gy = g) ▸ hbl))
        replace LO := hide (LO.out.put_up hgr hold (fun g e => .inl e))
        have AF := hide (af_up (A := Lrb (.slice wa p.nw wc) (.slice ga p.ng gc) (.slice da p.nd dc) (.slice ua p.nu uc)) (hi := b2) (ox := oy) (n := (p.nu + 1)) (k := ky) (fun g h => .inl h) hbl szy)
        clear hrun hgr hrg hold hbl szy
        refine tk0 9 (.pointer (some ⟨b0, 5, none⟩)) rfl ?_
        refine kd_skipI (i := 10) (w' := V9.setCell ⟨b0, 5, none⟩ (.slice (some ⟨gy, oy, none⟩) (p.nu + 1) ky)) (fun V => Mv (fun g => g = b0) V9 V ∧ V.heap[b0]? = some (.cells #[.int .i64 p.base, .slice wa p.nw wc, .int .i64 p.want, .slice ga p.ng gc, .slice da p.nd dc, .slice (some ⟨gy, oy, none⟩) (p.nu + 1) ky] 30 (0, 0))) (by kernel_rfl) rfl (by rfl) (by have fr := fun i => frozen_of_row _ _ i _ _ bx0.out; have z0 := cell_box 5 bx0.out rfl; go_simp) ⟨Mv.set (Mv.refl _ _) _ _, (heap_setCell_same _ _ 5 _ _ _ (bx0.out)).trans rfl⟩ (fun _ _ h => absurd rfl h) ?_
        rintro V10 ⟨m10, nxV10⟩
        refine ptk ?_
        replace LN := hide (LN.out.mv m10 (fun g hg h => (AF.out g hg).elim (fun h2 => by have h : g = b0 := h; have := LT.out g h2; omega) (fun h2 => by have h : g = b0 := h; omega)))
        replace bx0 := hide nxV10
        clear nxV10
        refine wpAnyK_done (by kernel_rfl) ?_
        clear hS rbx0 rbx1 rbx2
        refine then_normal (hK _ _ ?_); clear hK K; refine sk fun K hK => rl ?_
        refine sl6 bx0 ?_
        replace bx1 := Xbb bx1 m10; refine ss6 (.int .i64 p.base) (.slice wa p.nw wc) (.int .i64 p.want) (.slice ga p.ng gc) (.slice da p.nd dc) (.slice (some ⟨gy, oy, none⟩) (p.nu + 1) ky) bx1 fun V11 m11 bx1 => ?_
        replace LN := hide (LN.out.mv m11 (fun g hg h => (AF.out g hg).elim (fun h2 => by have h : g = b1 := h; have := LT.out g h2; omega) (fun h2 => by have h : g = b1 := h; omega)))
        refine nt (hK _ _ ?_); clear hK K; refine wp_ret ?_
        try simp only [Exit.then, Exit.inBlock, ↓reduceIte, Nat.reduceEqDiff]
        obtain ⟨_, q1_0, q1_1, q1_2, q1_3, q1_4, q1_5⟩ := box6 bx1.out
        replace HB := Xhb (Xhb HB m10) m11; exact bodyPost_ret (v := .agg #[.int .i64 p.base, .slice wa p.nw wc, .int .i64 p.want, .slice ga p.ng gc, .slice da p.nd dc, .slice (some ⟨gy, oy, none⟩) (p.nu + 1) ky]) (by simp [results, Try.results67, go_sem, q1_0, q1_1, q1_2, q1_3, q1_4, q1_5]) rfl ⟨_, _, _, _, by rw [HD]; rfl, HB.out, by rw [HD]; exact ⟨LN.out.wa, LN.out.go, LN.out.dn, LN.out.up, LN.out.aw, LN.out.ag, LN.out.ad⟩, fun g h => (AF.out g h).elim .inl (fun h2 => .inr (by omega))⟩
      · have d2 : (Flit.rS s == p.want) = true := by simpa using e2
        by_cases e3 : p.want < p.base + p.nw
        · have HD : downL p s = ackUp (gotL p (Flit.rB s)) := by rw [HY]; simp [dgL, dgB, e2, e3]
          have d3 : decide (p.want < p.base + (p.nw : Int)) = true := by simpa using e3
          clear HY e2
          have HB : Hid (Mv (Lrb (.slice wa p.nw wc) (.slice ga p.ng gc) (.slice da p.nd dc) (.slice ua p.nu uc)) w w) := hide (Mv.refl _ _)
          have LO := hide hr
          have LT := hide (fun g (h : Lrb (.slice wa p.nw wc) (.slice ga p.ng gc) (.slice da p.nd dc) (.slice ua p.nu uc) g) => (hr.lt g h).2)
          have hbs : base ≤ w.heap.size := hle
          clear hr hle
          go_enter Try.func67, Try.ntmps67
          refine sk fun K hK => rl ?_
          refine sbp #[.int .i64 p.base, .slice wa p.nw wc, .int .i64 p.want, .slice ga p.ng gc, .slice da p.nd dc, .slice ua p.nu uc] 30 fun V1 b0 hb0 m1 bx0 => ?_
          have o_0 : w.heap.size ≤ b0 := by omega
          clear hb0
          refine sbp #[.int .i64 0, .slice none 0 0, .int .i64 0, .slice none 0 0, .slice none 0 0, .slice none 0 0] 30 fun V2 b1 hb1 m2 bx1 => ?_
          have o0_1 := Xlo bx0 hb1; clear hb1
          refine nt (hK _ _ ?_); clear hK K; refine sk fun K hK => rl ?_
          refine sv (.string s) ?_
          refine sw_call (by rfl) (by first | rfl | (go_simp; done)) (sread_as s true hrd V2 hts) ?_
          rintro e V3 ⟨rfl, hbV3⟩
          have m3 : Mv (nob) V2 V3 := Mv.of_below hbV3
          refine ⟨_, rfl, ?_⟩
          refine pt ?_
          clear hbV3
          refine sv (.tuple #[.agg #[.int .i64 (Flit.rK s), .int .i64 (Flit.rS s), .string (Flit.rB s)], .bool true]) ?_
          refine sv (.agg #[.int .i64 (Flit.rK s), .int .i64 (Flit.rS s), .string (Flit.rB s)]) ?_
          refine sv (.bool true) ?_
          refine sbp #[.int .i64 0, .int .i64 0, .string ⟨#[]⟩] 88 fun V4 b2 hb2 m4 bx2 => ?_
          replace bx1 := Xbn bx1 m3; have o1_2 := Xlo bx1 hb2; clear hb2
          refine ss3 (.int .i64 (Flit.rK s)) (.int .i64 (Flit.rS s)) (.string (Flit.rB s)) bx2 fun V5 m5 bx2 => ?_
          refine sv (.bool true) ?_
          refine nt (hK _ _ ?_); clear hK K; refine sk fun K hK => sk fun K hK => rl ?_
          refine sv (.bool true) ?_
          refine sg (.bool false) ?_
          refine sv (.bool false) ?_
          refine sv (.pointer (some ⟨b2, 0, none⟩)) ?_
          refine sl 0 bx2 ?_
          refine sg (.bool false) ?_
          refine sg (.bool false) ?_
          refine nt (hK _ _ ?_); clear hK K; refine cf (wp_skip (then_normal (hK _ _ ?_))); clear hK K; refine sk fun K hK => sk fun K hK => rl ?_
          refine sv (.pointer (some ⟨b2, 1, none⟩)) ?_
          refine sl 1 bx2 ?_
          refine sv (.pointer (some ⟨b0, 2, none⟩)) ?_
          replace bx0 := Xbb (Xbn (Xbn (Xbn bx0 m2) m3) m4) m5; refine sl 2 bx0 ?_
          refine sg (.bool true) ?_
          refine sv (.bool true) ?_
          refine sv (.pointer (some ⟨b0, 2, none⟩)) ?_
          refine sl 2 bx0 ?_
          refine sv (.pointer (some ⟨b0, 0, none⟩)) ?_
          refine sl 0 bx0 ?_
          refine sv (.pointer (some ⟨b0, 1, none⟩)) ?_
          refine sl 1 bx0 ?_
          refine sg (.int .i64 (p.nw : Int)) ?_
          refine sg (.int .i64 (p.base + p.nw)) (h := by have hw : IntKind.i64.wrap (p.base + (p.nw : Int)) = p.base + (p.nw : Int) := i64wrap (by omega); go_simp) ?_
          refine sg (.bool true) ?_
          refine sg (.bool true) ?_
          refine nt (hK _ _ ?_); clear hK K; refine ct (sk fun K hK => rl ?_)
          refine sv (.pointer (some ⟨b0, 3, none⟩)) ?_
          refine sl 3 bx0 ?_
          refine sv (.pointer (some ⟨b2, 2, none⟩)) ?_
          refine sl 2 bx2 ?_
          refine sbs 1 #[.string (Flit.rB s)] 9 fun V6 b3 hb3 m6 bx3 => ?_
          have o2_3 := Xlo bx2 hb3; clear hb3
          have LTx : ∀ g, rb (.slice ga p.ng gc) = some g → g < w.heap.size := fun g h => LT.out g (.inr (.inl h))
          replace bx2 := Xbn bx2 m6; have szx := lt_of_block bx2.out
          replace HB := Xhn (Xhb (Xhn (Xhn (Xhn (Xhn HB m1) m2) m3) m4) m5) m6; replace LO := Xln (Xlb (Xln (Xln (Xln (Xln LO m1) m2) m3) m4) LT m5) m6; obtain ⟨gx, ox, kx, V7, hrun, hgr, hrg, hbl, hold⟩ := add_text V6 base (.slice ga p.ng gc) p.ng p.gs (Flit.rB s) 22 ⟨b3, 0, none⟩ 1 (cell_box 0 bx3.out rfl) LO.out.go (by omega) (by have := HB.out.size; omega)
          have m7 : Mv (fun g => rb (.slice ga p.ng gc) = some g) V6 V7 := Mv.of_grown hgr
          refine sw_valW (by rfl) (run_append_op _ _ 22 (by rfl) (by rfl) (by rfl) hrun) ?_
          refine pt ?_
          replace HB := hide (HB.out.step m7 (fun g _ h => .inr (.inl h)))
          replace bx0 := Xbn bx0 m6; replace bx0 := hide (m7.box bx0.out (fun h => by have := LTx _ h; omega))
          replace bx1 := Xbn (Xbb (Xbn bx1 m4) m5) m6; replace bx1 := hide (m7.box bx1.out (fun h => by have := LTx _ h; omega))
          replace bx2 := hide (m7.box bx2.out (fun h => by have := LTx _ h; omega))
          replace bx3 := hide (m7.box bx3.out (fun h => by have := LTx _ h; omega))
          have LN := hide (LO.out.put_go hgr hrg (fun g e => (rb_blk e : gx = g) ▸ hbl))
          replace LO := hide (LO.out.put_go hgr hold (fun g e => .inl e))
          have AF := hide (af_go (A := Lrb (.slice wa p.nw wc) (.slice ga p.ng gc) (.slice da p.nd dc) (.slice ua p.nu uc)) (hi := b2) (ox := ox) (n := (p.ng + 1)) (k := kx) (fun g h => .inl h) hbl szx)
          clear hrun hgr hrg hold hbl szx
          refine sv (.pointer (some ⟨b0, 3, none⟩)) ?_
          refine ss 3 (.slice (some ⟨gx, ox, none⟩) (p.ng + 1) kx) bx0 fun V8 m8 bx0 => ?_
          replace LN := hide (LN.out.mv m8 (fun g hg h => (AF.out g hg).elim (fun h2 => by have h : g = b0 := h; have := LT.out g h2; omega) (fun h2 => by have h : g = b0 := h; omega)))
          refine nt (hK _ _ ?_); clear hK K; refine rl ?_
          refine sv (.pointer (some ⟨b0, 2, none⟩)) ?_
          refine sl 2 bx0 ?_
          refine sg (.int .i64 (p.want + 1)) (h := by have hw : IntKind.i64.wrap (p.want + 1) = p.want + 1 := i64wrap (by omega); go_simp) ?_
          refine sv (.pointer (some ⟨b0, 2, none⟩)) ?_
          refine ss 2 (.int .i64 (p.want + 1)) bx0 fun V9 m9 bx0 => ?_
          replace LN := hide (LN.out.mv m9 (fun g hg h => (AF.out g hg).elim (fun h2 => by have h : g = b0 := h; have := LT.out g h2; omega) (fun h2 => by have h : g = b0 := h; omega)))
          refine nt (hK _ _ ?_); clear hK K; refine sk fun K hK => ?_
          have LTu : ∀ g, rb (.slice ua p.nu uc) = some g → g < w.heap.size := fun g h => LT.out g (.inr (.inr (.inr h)))
          refine wp_region_but (z := 10) (S := fun w' => Mv (fun g => rb (.slice ua p.nu uc) = some g) V9.drew w') (by kernel_rfl) (Mv.refl _ _) (fun hS => ?_)
          have m10 : Mv nob V9 V9.drew := Mv.drew _
          obtain ⟨V10, hV10⟩ : ∃ V, V9.drew = V := ⟨_, rfl⟩
          rw [hV10] at hS m10 ⊢
          clear hV10; replace bx0 := Xbn bx0 m10; have rbx0 := bx0; replace bx1 := Xbn (Xbb (Xbb bx1 m8) m9) m10; have rbx1 := bx1; replace bx2 := Xbn (Xbb (Xbb bx2 m8) m9) m10; have rbx2 := bx2; replace bx3 := Xbn (Xbb (Xbb bx3 m8) m9) m10; have rbx3 := bx3
          refine tk0 0 (.pointer (some ⟨b0, 5, none⟩)) rfl ?_
          refine tk 1 (.slice ua p.nu uc) rfl (fun w' hSw => by (try dsimp only at hSw); have z0 := cell_box 5 (hSw.box rbx0.out (fun h => by have := LTu _ h; omega)) rfl; go_simp) ?_
          refine tk0 2 (.pointer (some ⟨b0, 2, none⟩)) rfl ?_
          refine tk 3 (.int .i64 (p.want + 1)) rfl (fun w' hSw => by (try dsimp only at hSw); have z0 := cell_box 2 (hSw.box rbx0.out (fun h => by have := LTu _ h; omega)) rfl; go_simp) ?_
          refine tk0 4 (.agg #[.int .i64 2, .int .i64 (p.want + 1), .string ⟨#[]⟩]) rfl ?_
          refine kd_call (i := 5) (by kernel_rfl) rfl (by rfl) (by first | rfl | (go_simp; done)) (l8Text_ack (p.want + 1) V10 (by omega) (by omega)) ?_
          rintro e V11 ⟨rfl, hbV11⟩
          have m11 : Mv (nob) V10 V11 := Mv.of_below hbV11
          replace hS := hS.step m11 (fun _ _ h => h.elim)
          refine ⟨_, rfl, fun _ => hS, ?_⟩
          refine ptk ?_
          clear hbV11
          refine tk0 6 (.agg #[.string (Flit.txt 2 (p.want + 1) ⟨#[]⟩), .bool false]) rfl ?_
          refine kd_valI (i := 7) (v := .slice (some ⟨V11.heap.size, 0, none⟩) 1 1) (w' := V11.alloc (.cells #[.string (Flit.txt 2 (p.want + 1) ⟨#[]⟩), .bool false] 73)) (fun V => Mv nob V11 V ∧ V.heap[V11.heap.size]? = some (.cells #[.string (Flit.txt 2 (p.want + 1) ⟨#[]⟩), .bool false] 73 (0, 0))) (by kernel_rfl) rfl (by rfl) (by first | rfl | go_simp) ⟨Mv.alloc _ _, heap_alloc_new _ _⟩ (fun V hI _ => hS.step hI.1 (fun _ _ h => h.elim)) ?_
          rintro V12 ⟨m12, nxV12⟩
          refine ptk ?_
          obtain ⟨b4, hb4⟩ : ∃ b4, V11.heap.size = b4 := ⟨_, rfl⟩
          rw [hb4] at nxV12 ⊢
          replace bx3 := Xbn bx3 m11; have o3_4 := Xlo bx3 hb4
          have sV12 : b4 < V12.heap.size := lt_of_block nxV12
          clear hb4
          have bx4 := hide nxV12
          clear nxV12
          replace hS := hS.step m12 (fun _ _ h => h.elim)
          clear sV12
          have LTy : ∀ g, rb (.slice ua p.nu uc) = some g → g < w.heap.size := fun g h => LT.out g (.inr (.inr (.inr h)))
          replace bx2 := Xbn (Xbn bx2 m11) m12; have szy := lt_of_block bx2.out
          replace HB := Xhn (Xhn (Xhn (Xhb (Xhb HB m8) m9) m10) m11) m12; replace LN := Xln (Xln (Xln LN m10) m11) m12; obtain ⟨gy, oy, ky, V13, hrun, hgr, hrg, hbl, hold⟩ := add_wire V12 base (.slice ua p.nu uc) p.nu p.ut p.uh (Flit.txt 2 (p.want + 1) ⟨#[]⟩) false 28 b4 0 1 (cell_box 0 bx4.out rfl) (cell_box 1 bx4.out rfl) LN.out.up (by omega) (by have := HB.out.size; omega)
          have m13 : Mv (fun g => rb (.slice ua p.nu uc) = some g) V12 V13 := Mv.of_grown hgr
          replace hS := hS.step m13 (fun _ _ h => h)
          refine kd_valW (i := 8) (by kernel_rfl) rfl (by rfl) (run_append_op _ _ 28 (by rfl) (by rfl) (by rfl) hrun) (fun _ => hS) ?_
          refine ptk ?_
          replace HB := hide (HB.out.step m13 (fun g _ h => .inr (.inr (.inr h))))
          replace bx0 := Xbn (Xbn bx0 m11) m12; replace bx0 := hide (m13.box bx0.out (fun h => by have := LTy _ h; omega))
          replace bx1 := Xbn (Xbn bx1 m11) m12; replace bx1 := hide (m13.box bx1.out (fun h => by have := LTy _ h; omega))
          replace bx2 := hide (m13.box bx2.out (fun h => by have := LTy _ h; omega))
          replace bx3 := Xbn bx3 m12; replace bx3 := hide (m13.box bx3.out (fun h => by have := LTy _ h; omega))
          replace bx4 := hide (m13.box bx4.out (fun h => by have := LTy _ h; omega))
          replace LN := hide (LN.out.put_up hgr hrg (fun g e => (rb_blk e : gy = g) ▸ hbl))
          replace LO := Xln (Xln (Xln (Xlb (Xlb LO LT m8) LT m9) m10) m11) m12; replace LO := hide (LO.out.put_up hgr hold (fun g e => .inl e))
          replace AF := hide (af_up (ox := oy) (n := (p.nu + 1)) (k := ky) AF.out hbl szy)
          clear hrun hgr hrg hold hbl szy
          refine tk0 9 (.pointer (some ⟨b0, 5, none⟩)) rfl ?_
          refine kd_skipI (i := 10) (w' := V13.setCell ⟨b0, 5, none⟩ (.slice (some ⟨gy, oy, none⟩) (p.nu + 1) ky)) (fun V => Mv (fun g => g = b0) V13 V ∧ V.heap[b0]? = some (.cells #[.int .i64 p.base, .slice wa p.nw wc, .int .i64 (p.want + 1), .slice (some ⟨gx, ox, none⟩) (p.ng + 1) kx, .slice da p.nd dc, .slice (some ⟨gy, oy, none⟩) (p.nu + 1) ky] 30 (0, 0))) (by kernel_rfl) rfl (by rfl) (by have fr := fun i => frozen_of_row _ _ i _ _ bx0.out; have z0 := cell_box 5 bx0.out rfl; go_simp) ⟨Mv.set (Mv.refl _ _) _ _, (heap_setCell_same _ _ 5 _ _ _ (bx0.out)).trans rfl⟩ (fun _ _ h => absurd rfl h) ?_
          rintro V14 ⟨m14, nxV14⟩
          refine ptk ?_
          replace LN := hide (LN.out.mv m14 (fun g hg h => (AF.out g hg).elim (fun h2 => by have h : g = b0 := h; have := LT.out g h2; omega) (fun h2 => by have h : g = b0 := h; omega)))
          replace bx0 := hide nxV14
          clear nxV14
          refine wpAnyK_done (by kernel_rfl) ?_
          clear hS rbx0 rbx1 rbx2 rbx3
          refine then_normal (hK _ _ ?_); clear hK K; refine sk fun K hK => rl ?_
          refine sl6 bx0 ?_
          replace bx1 := Xbb bx1 m14; refine ss6 (.int .i64 p.base) (.slice wa p.nw wc) (.int .i64 (p.want + 1)) (.slice (some ⟨gx, ox, none⟩) (p.ng + 1) kx) (.slice da p.nd dc) (.slice (some ⟨gy, oy, none⟩) (p.nu + 1) ky) bx1 fun V15 m15 bx1 => ?_
          replace LN := hide (LN.out.mv m15 (fun g hg h => (AF.out g hg).elim (fun h2 => by have h : g = b1 := h; have := LT.out g h2; omega) (fun h2 => by have h : g = b1 := h; omega)))
          refine nt (hK _ _ ?_); clear hK K; refine wp_ret ?_
          try simp only [Exit.then, Exit.inBlock, ↓reduceIte, Nat.reduceEqDiff]
          obtain ⟨_, q1_0, q1_1, q1_2, q1_3, q1_4, q1_5⟩ := box6 bx1.out
          replace HB := Xhb (Xhb HB m14) m15; exact bodyPost_ret (v := .agg #[.int .i64 p.base, .slice wa p.nw wc, .int .i64 ((p.want + 1)), .slice (some ⟨gx, ox, none⟩) (p.ng + 1) kx, .slice da p.nd dc, .slice (some ⟨gy, oy, none⟩) (p.nu + 1) ky]) (by simp [results, Try.results67, go_sem, q1_0, q1_1, q1_2, q1_3, q1_4, q1_5]) rfl ⟨_, _, _, _, by rw [HD]; rfl, HB.out, by rw [HD]; exact ⟨LN.out.wa, LN.out.go, LN.out.dn, LN.out.up, LN.out.aw, LN.out.ag, LN.out.ad⟩, fun g h => (AF.out g h).elim .inl (fun h2 => .inr (by omega))⟩
        · have HD : downL p s = ackUp p := by rw [HY]; simp [dgL, dgB, e2, e3]
          have d3 : decide (p.want < p.base + (p.nw : Int)) = false := by simpa using e3
          clear HY e2
          have HB : Hid (Mv (Lrb (.slice wa p.nw wc) (.slice ga p.ng gc) (.slice da p.nd dc) (.slice ua p.nu uc)) w w) := hide (Mv.refl _ _)
          have LO := hide hr
          have LT := hide (fun g (h : Lrb (.slice wa p.nw wc) (.slice ga p.ng gc) (.slice da p.nd dc) (.slice ua p.nu uc) g) => (hr.lt g h).2)
          have hbs : base ≤ w.heap.size := hle
          clear hr hle
          go_enter Try.func67, Try.ntmps67
          refine sk fun K hK => rl ?_
          refine sbp #[.int .i64 p.base, .slice wa p.nw wc, .int .i64 p.want, .slice ga p.ng gc, .slice da p.nd dc, .slice ua p.nu uc] 30 fun V1 b0 hb0 m1 bx0 => ?_
          have o_0 : w.heap.size ≤ b0 := by omega
          clear hb0
          refine sbp #[.int .i64 0, .slice none 0 0, .int .i64 0, .slice none 0 0, .slice none 0 0, .slice none 0 0] 30 fun V2 b1 hb1 m2 bx1 => ?_
          have o0_1 := Xlo bx0 hb1; clear hb1
          refine nt (hK _ _ ?_); clear hK K; refine sk fun K hK => rl ?_
          refine sv (.string s) ?_
          refine sw_call (by rfl) (by first | rfl | (go_simp; done)) (sread_as s true hrd V2 hts) ?_
          rintro e V3 ⟨rfl, hbV3⟩
          have m3 : Mv (nob) V2 V3 := Mv.of_below hbV3
          refine ⟨_, rfl, ?_⟩
          refine pt ?_
          clear hbV3
          refine sv (.tuple #[.agg #[.int .i64 (Flit.rK s), .int .i64 (Flit.rS s), .string (Flit.rB s)], .bool true]) ?_
          refine sv (.agg #[.int .i64 (Flit.rK s), .int .i64 (Flit.rS s), .string (Flit.rB s)]) ?_
          refine sv (.bool true) ?_
          refine sbp #[.int .i64 0, .int .i64 0, .string ⟨#[]⟩] 88 fun V4 b2 hb2 m4 bx2 => ?_
          replace bx1 := Xbn bx1 m3; have o1_2 := Xlo bx1 hb2; clear hb2
          refine ss3 (.int .i64 (Flit.rK s)) (.int .i64 (Flit.rS s)) (.string (Flit.rB s)) bx2 fun V5 m5 bx2 => ?_
          refine sv (.bool true) ?_
          refine nt (hK _ _ ?_); clear hK K; refine sk fun K hK => sk fun K hK => rl ?_
          refine sv (.bool true) ?_
          refine sg (.bool false) ?_
          refine sv (.bool false) ?_
          refine sv (.pointer (some ⟨b2, 0, none⟩)) ?_
          refine sl 0 bx2 ?_
          refine sg (.bool false) ?_
          refine sg (.bool false) ?_
          refine nt (hK _ _ ?_); clear hK K; refine cf (wp_skip (then_normal (hK _ _ ?_))); clear hK K; refine sk fun K hK => sk fun K hK => rl ?_
          refine sv (.pointer (some ⟨b2, 1, none⟩)) ?_
          refine sl 1 bx2 ?_
          refine sv (.pointer (some ⟨b0, 2, none⟩)) ?_
          replace bx0 := Xbb (Xbn (Xbn (Xbn bx0 m2) m3) m4) m5; refine sl 2 bx0 ?_
          refine sg (.bool true) ?_
          refine sv (.bool true) ?_
          refine sv (.pointer (some ⟨b0, 2, none⟩)) ?_
          refine sl 2 bx0 ?_
          refine sv (.pointer (some ⟨b0, 0, none⟩)) ?_
          refine sl 0 bx0 ?_
          refine sv (.pointer (some ⟨b0, 1, none⟩)) ?_
          refine sl 1 bx0 ?_
          refine sg (.int .i64 (p.nw : Int)) ?_
          refine sg (.int .i64 (p.base + p.nw)) (h := by have hw : IntKind.i64.wrap (p.base + (p.nw : Int)) = p.base + (p.nw : Int) := i64wrap (by omega); go_simp) ?_
          refine sg (.bool false) ?_
          refine sg (.bool false) ?_
          refine nt (hK _ _ ?_); clear hK K; refine cf (wp_skip (then_normal (hK _ _ ?_))); clear hK K; refine sk fun K hK => ?_
          have LTu : ∀ g, rb (.slice ua p.nu uc) = some g → g < w.heap.size := fun g h => LT.out g (.inr (.inr (.inr h)))
          refine wp_region_but (z := 10) (S := fun w' => Mv (fun g => rb (.slice ua p.nu uc) = some g) V5.drew w') (by kernel_rfl) (Mv.refl _ _) (fun hS => ?_)
          have m6 : Mv nob V5 V5.drew := Mv.drew _
          obtain ⟨V6, hV6⟩ : ∃ V, V5.drew = V := ⟨_, rfl⟩
          rw [hV6] at hS m6 ⊢
          clear hV6; replace bx0 := Xbn bx0 m6; have rbx0 := bx0; replace bx1 := Xbn (Xbb (Xbn bx1 m4) m5) m6; have rbx1 := bx1; replace bx2 := Xbn bx2 m6; have rbx2 := bx2
          refine tk0 0 (.pointer (some ⟨b0, 5, none⟩)) rfl ?_
          refine tk 1 (.slice ua p.nu uc) rfl (fun w' hSw => by (try dsimp only at hSw); have z0 := cell_box 5 (hSw.box rbx0.out (fun h => by have := LTu _ h; omega)) rfl; go_simp) ?_
          refine tk0 2 (.pointer (some ⟨b0, 2, none⟩)) rfl ?_
          refine tk 3 (.int .i64 p.want) rfl (fun w' hSw => by (try dsimp only at hSw); have z0 := cell_box 2 (hSw.box rbx0.out (fun h => by have := LTu _ h; omega)) rfl; go_simp) ?_
          refine tk0 4 (.agg #[.int .i64 2, .int .i64 p.want, .string ⟨#[]⟩]) rfl ?_
          refine kd_call (i := 5) (by kernel_rfl) rfl (by rfl) (by first | rfl | (go_simp; done)) (l8Text_ack p.want V6 (by omega) (by omega)) ?_
          rintro e V7 ⟨rfl, hbV7⟩
          have m7 : Mv (nob) V6 V7 := Mv.of_below hbV7
          replace hS := hS.step m7 (fun _ _ h => h.elim)
          refine ⟨_, rfl, fun _ => hS, ?_⟩
          refine ptk ?_
          clear hbV7
          refine tk0 6 (.agg #[.string (Flit.txt 2 p.want ⟨#[]⟩), .bool false]) rfl ?_
          refine kd_valI (i := 7) (v := .slice (some ⟨V7.heap.size, 0, none⟩) 1 1) (w' := V7.alloc (.cells #[.string (Flit.txt 2 p.want ⟨#[]⟩), .bool false] 73)) (fun V => Mv nob V7 V ∧ V.heap[V7.heap.size]? = some (.cells #[.string (Flit.txt 2 p.want ⟨#[]⟩), .bool false] 73 (0, 0))) (by kernel_rfl) rfl (by rfl) (by first | rfl | go_simp) ⟨Mv.alloc _ _, heap_alloc_new _ _⟩ (fun V hI _ => hS.step hI.1 (fun _ _ h => h.elim)) ?_
          rintro V8 ⟨m8, nxV8⟩
          refine ptk ?_
          obtain ⟨b3, hb3⟩ : ∃ b3, V7.heap.size = b3 := ⟨_, rfl⟩
          rw [hb3] at nxV8 ⊢
          replace bx2 := Xbn bx2 m7; have o2_3 := Xlo bx2 hb3
          have sV8 : b3 < V8.heap.size := lt_of_block nxV8
          clear hb3
          have bx3 := hide nxV8
          clear nxV8
          replace hS := hS.step m8 (fun _ _ h => h.elim)
          clear sV8
          have LTy : ∀ g, rb (.slice ua p.nu uc) = some g → g < w.heap.size := fun g h => LT.out g (.inr (.inr (.inr h)))
          replace bx2 := Xbn bx2 m8; have szy := lt_of_block bx2.out
          replace HB := Xhn (Xhn (Xhn (Xhb (Xhn (Xhn (Xhn (Xhn HB m1) m2) m3) m4) m5) m6) m7) m8; replace LO := Xln (Xln (Xln (Xlb (Xln (Xln (Xln (Xln LO m1) m2) m3) m4) LT m5) m6) m7) m8; obtain ⟨gy, oy, ky, V9, hrun, hgr, hrg, hbl, hold⟩ := add_wire V8 base (.slice ua p.nu uc) p.nu p.ut p.uh (Flit.txt 2 p.want ⟨#[]⟩) false 28 b3 0 1 (cell_box 0 bx3.out rfl) (cell_box 1 bx3.out rfl) LO.out.up (by omega) (by have := HB.out.size; omega)
          have m9 : Mv (fun g => rb (.slice ua p.nu uc) = some g) V8 V9 := Mv.of_grown hgr
          replace hS := hS.step m9 (fun _ _ h => h)
          refine kd_valW (i := 8) (by kernel_rfl) rfl (by rfl) (run_append_op _ _ 28 (by rfl) (by rfl) (by rfl) hrun) (fun _ => hS) ?_
          refine ptk ?_
          replace HB := hide (HB.out.step m9 (fun g _ h => .inr (.inr (.inr h))))
          replace bx0 := Xbn (Xbn bx0 m7) m8; replace bx0 := hide (m9.box bx0.out (fun h => by have := LTy _ h; omega))
          replace bx1 := Xbn (Xbn bx1 m7) m8; replace bx1 := hide (m9.box bx1.out (fun h => by have := LTy _ h; omega))
          replace bx2 := hide (m9.box bx2.out (fun h => by have := LTy _ h; omega))
          replace bx3 := hide (m9.box bx3.out (fun h => by have := LTy _ h; omega))
          have LN := hide (LO.out.put_up hgr hrg (fun g e => (rb_blk e : gy = g) ▸ hbl))
          replace LO := hide (LO.out.put_up hgr hold (fun g e => .inl e))
          have AF := hide (af_up (A := Lrb (.slice wa p.nw wc) (.slice ga p.ng gc) (.slice da p.nd dc) (.slice ua p.nu uc)) (hi := b2) (ox := oy) (n := (p.nu + 1)) (k := ky) (fun g h => .inl h) hbl szy)
          clear hrun hgr hrg hold hbl szy
          refine tk0 9 (.pointer (some ⟨b0, 5, none⟩)) rfl ?_
          refine kd_skipI (i := 10) (w' := V9.setCell ⟨b0, 5, none⟩ (.slice (some ⟨gy, oy, none⟩) (p.nu + 1) ky)) (fun V => Mv (fun g => g = b0) V9 V ∧ V.heap[b0]? = some (.cells #[.int .i64 p.base, .slice wa p.nw wc, .int .i64 p.want, .slice ga p.ng gc, .slice da p.nd dc, .slice (some ⟨gy, oy, none⟩) (p.nu + 1) ky] 30 (0, 0))) (by kernel_rfl) rfl (by rfl) (by have fr := fun i => frozen_of_row _ _ i _ _ bx0.out; have z0 := cell_box 5 bx0.out rfl; go_simp) ⟨Mv.set (Mv.refl _ _) _ _, (heap_setCell_same _ _ 5 _ _ _ (bx0.out)).trans rfl⟩ (fun _ _ h => absurd rfl h) ?_
          rintro V10 ⟨m10, nxV10⟩
          refine ptk ?_
          replace LN := hide (LN.out.mv m10 (fun g hg h => (AF.out g hg).elim (fun h2 => by have h : g = b0 := h; have := LT.out g h2; omega) (fun h2 => by have h : g = b0 := h; omega)))
          replace bx0 := hide nxV10
          clear nxV10
          refine wpAnyK_done (by kernel_rfl) ?_
          clear hS rbx0 rbx1 rbx2
          refine then_normal (hK _ _ ?_); clear hK K; refine sk fun K hK => rl ?_
          refine sl6 bx0 ?_
          replace bx1 := Xbb bx1 m10; refine ss6 (.int .i64 p.base) (.slice wa p.nw wc) (.int .i64 p.want) (.slice ga p.ng gc) (.slice da p.nd dc) (.slice (some ⟨gy, oy, none⟩) (p.nu + 1) ky) bx1 fun V11 m11 bx1 => ?_
          replace LN := hide (LN.out.mv m11 (fun g hg h => (AF.out g hg).elim (fun h2 => by have h : g = b1 := h; have := LT.out g h2; omega) (fun h2 => by have h : g = b1 := h; omega)))
          refine nt (hK _ _ ?_); clear hK K; refine wp_ret ?_
          try simp only [Exit.then, Exit.inBlock, ↓reduceIte, Nat.reduceEqDiff]
          obtain ⟨_, q1_0, q1_1, q1_2, q1_3, q1_4, q1_5⟩ := box6 bx1.out
          replace HB := Xhb (Xhb HB m10) m11; exact bodyPost_ret (v := .agg #[.int .i64 p.base, .slice wa p.nw wc, .int .i64 p.want, .slice ga p.ng gc, .slice da p.nd dc, .slice (some ⟨gy, oy, none⟩) (p.nu + 1) ky]) (by simp [results, Try.results67, go_sem, q1_0, q1_1, q1_2, q1_3, q1_4, q1_5]) rfl ⟨_, _, _, _, by rw [HD]; rfl, HB.out, by rw [HD]; exact ⟨LN.out.wa, LN.out.go, LN.out.dn, LN.out.up, LN.out.aw, LN.out.ag, LN.out.ad⟩, fun g h => (AF.out g h).elim .inl (fun h2 => .inr (by omega))⟩

end Go.Proofs.Ytnkocikbapbbmaa
