/- LdY -/
import Derived.Test.YtnkocikbapbbmaaYnkPlay28
/- spec.l8Down, spec.l8Up (written by mkLdX.py) -/
namespace Go.Proofs.Ytnkocikbapbbmaa
open Go.RowKit
set_option linter.unusedVariables false
set_option linter.unusedSimpArgs false


set_option maxHeartbeats 20000000 in
set_option maxRecDepth 20000 in
theorem l8Up_any (p : Lk) (s : ByteArray) (wa ga da ua : Option Addr) (wc gc dc uc : Nat) (base : Nat) (w : World) (hr : Lr w base (.slice wa p.nw wc) (.slice ga p.ng gc) (.slice da p.nd dc) (.slice ua p.nu uc) p) (hle : base ≤ w.heap.size) (hts : s.size ≤ 15) (h0 : 0 ≤ p.base) (h1 : p.base ≤ 999900) (h3 : p.nw ≤ 8) (hn : p.want ≤ p.base + p.nw) :
    Calls Try.prog 68 #[.agg (l6 p.base (.slice wa p.nw wc) p.want (.slice ga p.ng gc) (.slice da p.nd dc) (.slice ua p.nu uc)), .string s] w fun e w' => ∃ wv gv dv uv, e = .returned (.agg (l6 (upL p s).base wv (upL p s).want gv dv uv)) ∧ Mv (Lrb (.slice wa p.nw wc) (.slice ga p.ng gc) (.slice da p.nd dc) (.slice ua p.nu uc)) w w' ∧ Lr w' base wv gv dv uv (upL p s) ∧ Nw w.heap.size (.slice wa p.nw wc) (.slice ga p.ng gc) (.slice da p.nd dc) (.slice ua p.nu uc) wv gv dv uv := by
  cases hrd : Flit.rd s with
  | false =>
    have HD : upL p s = p := by simp [upL, hrd]
    have HB : Hid (Mv (Lrb (.slice wa p.nw wc) (.slice ga p.ng gc) (.slice da p.nd dc) (.slice ua p.nu uc)) w w) := hide (Mv.refl _ _)
    have LO := hide hr
    have LT := hide (fun g (h : Lrb (.slice wa p.nw wc) (.slice ga p.ng gc) (.slice da p.nd dc) (.slice ua p.nu uc) g) => (hr.lt g h).2)
    have hbs : base ≤ w.heap.size := hle
    clear hr hle
    go_enter Try.func68, Try.ntmps68
    refine sk fun K hK => rl ?_
    refine sbp #[.int .i64 p.base, .slice wa p.nw wc, .int .i64 p.want, .slice ga p.ng gc, .slice da p.nd dc, .slice ua p.nu uc] 30 fun V1 b0 hb0 m1 bx0 => ?_
    have o_0 : w.heap.size ≤ b0 := by omega
    clear hb0
    refine sbp #[.int .i64 0, .slice none 0 0, .int .i64 0, .slice none 0 0, .slice none 0 0, .slice none 0 0] 30 fun V2 b1 hb1 m2 bx1 => ?_
    have o0_1 := Xlo bx0 hb1; clear hb1
    refine nt (hK _ _ ?_); clear hK K; refine sk fun K hK => rl ?_
    refine sv (.string s) ?_
    refine sw_call (by rfl) (by first | rfl | (go_simp; done)) (sread_as s false hrd V2 hts) ?_
    rintro e V3 ⟨rfl, hbV3⟩
    have m3 : Mv (nob) V2 V3 := Mv.of_below hbV3
    refine ⟨_, rfl, ?_⟩
    refine pt ?_
    clear hbV3
    refine sv (.tuple #[.agg #[.int .i64 (Flit.rK s), .int .i64 (Flit.rS s), .string (Flit.rB s)], .bool false]) ?_
    refine sv (.agg #[.int .i64 (Flit.rK s), .int .i64 (Flit.rS s), .string (Flit.rB s)]) ?_
    refine sv (.bool false) ?_
    refine sbp #[.int .i64 0, .int .i64 0, .string ⟨#[]⟩] 88 fun V4 b2 hb2 m4 bx2 => ?_
    replace bx1 := Xbn bx1 m3; have o1_2 := Xlo bx1 hb2; clear hb2
    refine ss3 (.int .i64 (Flit.rK s)) (.int .i64 (Flit.rS s)) (.string (Flit.rB s)) bx2 fun V5 m5 bx2 => ?_
    refine sv (.bool false) ?_
    refine nt (hK _ _ ?_); clear hK K; refine sk fun K hK => sk fun K hK => rl ?_
    refine sv (.bool false) ?_
    refine sg (.bool true) ?_
    refine sv (.bool true) ?_
    with_reducible refine sp ?_
    with_reducible refine sp ?_
    with_reducible refine sp ?_
    refine sg (.bool true) ?_
    refine sv (.bool true) ?_
    with_reducible refine sp ?_
    with_reducible refine sp ?_
    with_reducible refine sp ?_
    with_reducible refine sp ?_
    with_reducible refine sp ?_
    refine sg (.bool true) ?_
    refine sv (.bool true) ?_
    with_reducible refine sp ?_
    with_reducible refine sp ?_
    with_reducible refine sp ?_
    with_reducible refine sp ?_
    with_reducible refine sp ?_
    refine sg (.bool true) ?_
    refine nt (hK _ _ ?_); clear hK K; refine ct (sk fun K hK => rl ?_)
    replace bx0 := Xbb (Xbn (Xbn (Xbn bx0 m2) m3) m4) m5; refine sl6 bx0 ?_
    replace bx1 := Xbb (Xbn bx1 m4) m5; refine ss6 (.int .i64 p.base) (.slice wa p.nw wc) (.int .i64 p.want) (.slice ga p.ng gc) (.slice da p.nd dc) (.slice ua p.nu uc) bx1 fun V6 m6 bx1 => ?_
    refine nt (hK _ _ ?_); clear hK K; refine wp_ret ?_
    try simp only [Exit.then, Exit.inBlock, ↓reduceIte, Nat.reduceEqDiff]
    obtain ⟨_, q1_0, q1_1, q1_2, q1_3, q1_4, q1_5⟩ := box6 bx1.out
    replace HB := Xhb (Xhb (Xhn (Xhn (Xhn (Xhn HB m1) m2) m3) m4) m5) m6; replace LO := Xlb (Xlb (Xln (Xln (Xln (Xln LO m1) m2) m3) m4) LT m5) LT m6; exact bodyPost_ret (v := .agg #[.int .i64 p.base, .slice wa p.nw wc, .int .i64 p.want, .slice ga p.ng gc, .slice da p.nd dc, .slice ua p.nu uc]) (by simp [results, Try.results68, go_sem, q1_0, q1_1, q1_2, q1_3, q1_4, q1_5]) rfl ⟨_, _, _, _, by rw [HD], HB.out, by rw [HD]; exact LO.out, Nw.refl _ _ _ _ _⟩
  | true =>
    by_cases e1 : Flit.rK s = 2
    rotate_left
    · have HD : upL p s = p := by simp [upL, hrd, e1]
      have d1 : (Flit.rK s == 2) = false := by simpa using e1
      have HB : Hid (Mv (Lrb (.slice wa p.nw wc) (.slice ga p.ng gc) (.slice da p.nd dc) (.slice ua p.nu uc)) w w) := hide (Mv.refl _ _)
      have LO := hide hr
      have LT := hide (fun g (h : Lrb (.slice wa p.nw wc) (.slice ga p.ng gc) (.slice da p.nd dc) (.slice ua p.nu uc) g) => (hr.lt g h).2)
      have hbs : base ≤ w.heap.size := hle
      clear hr hle
      go_enter Try.func68, Try.ntmps68
      refine sk fun K hK => rl ?_
      refine sbp #[.int .i64 p.base, .slice wa p.nw wc, .int .i64 p.want, .slice ga p.ng gc, .slice da p.nd dc, .slice ua p.nu uc] 30 fun V1 b0 hb0 m1 bx0 => ?_
      have o_0 : w.heap.size ≤ b0 := by omega
      clear hb0
      refine sbp #[.int .i64 0, .slice none 0 0, .int .i64 0, .slice none 0 0, .slice none 0 0, .slice none 0 0] 30 fun V2 b1 hb1 m2 bx1 => ?_
      have o0_1 := Xlo bx0 hb1; clear hb1
      refine nt (hK _ _ ?_); clear hK K; refine sk fun K hK => rl ?_
      refine sv (.string s) ?_
      refine sw_call (by rfl) (by first | rfl | (go_simp; done)) (sread_as s true hrd V2 hts) ?_
      rintro e V3 ⟨rfl, hbV3⟩
      have m3 : Mv (nob) V2 V3 := Mv.of_below hbV3
      refine ⟨_, rfl, ?_⟩
      refine pt ?_
      clear hbV3
      refine sv (.tuple #[.agg #[.int .i64 (Flit.rK s), .int .i64 (Flit.rS s), .string (Flit.rB s)], .bool true]) ?_
      refine sv (.agg #[.int .i64 (Flit.rK s), .int .i64 (Flit.rS s), .string (Flit.rB s)]) ?_
      refine sv (.bool true) ?_
      refine sbp #[.int .i64 0, .int .i64 0, .string ⟨#[]⟩] 88 fun V4 b2 hb2 m4 bx2 => ?_
      replace bx1 := Xbn bx1 m3; have o1_2 := Xlo bx1 hb2; clear hb2
      refine ss3 (.int .i64 (Flit.rK s)) (.int .i64 (Flit.rS s)) (.string (Flit.rB s)) bx2 fun V5 m5 bx2 => ?_
      refine sv (.bool true) ?_
      refine nt (hK _ _ ?_); clear hK K; refine sk fun K hK => sk fun K hK => rl ?_
      refine sv (.bool true) ?_
      refine sg (.bool false) ?_
      refine sv (.bool false) ?_
      refine sv (.pointer (some ⟨b2, 0, none⟩)) ?_
      refine sl 0 bx2 ?_
      refine sg (.bool true) ?_
      refine sg (.bool true) ?_
      refine sv (.bool true) ?_
      with_reducible refine sp ?_
      with_reducible refine sp ?_
      with_reducible refine sp ?_
      with_reducible refine sp ?_
      with_reducible refine sp ?_
      refine sg (.bool true) ?_
      refine sv (.bool true) ?_
      with_reducible refine sp ?_
      with_reducible refine sp ?_
      with_reducible refine sp ?_
      with_reducible refine sp ?_
      with_reducible refine sp ?_
      refine sg (.bool true) ?_
      refine nt (hK _ _ ?_); clear hK K; refine ct (sk fun K hK => rl ?_)
      replace bx0 := Xbb (Xbn (Xbn (Xbn bx0 m2) m3) m4) m5; refine sl6 bx0 ?_
      replace bx1 := Xbb (Xbn bx1 m4) m5; refine ss6 (.int .i64 p.base) (.slice wa p.nw wc) (.int .i64 p.want) (.slice ga p.ng gc) (.slice da p.nd dc) (.slice ua p.nu uc) bx1 fun V6 m6 bx1 => ?_
      refine nt (hK _ _ ?_); clear hK K; refine wp_ret ?_
      try simp only [Exit.then, Exit.inBlock, ↓reduceIte, Nat.reduceEqDiff]
      obtain ⟨_, q1_0, q1_1, q1_2, q1_3, q1_4, q1_5⟩ := box6 bx1.out
      replace HB := Xhb (Xhb (Xhn (Xhn (Xhn (Xhn HB m1) m2) m3) m4) m5) m6; replace LO := Xlb (Xlb (Xln (Xln (Xln (Xln LO m1) m2) m3) m4) LT m5) LT m6; exact bodyPost_ret (v := .agg #[.int .i64 p.base, .slice wa p.nw wc, .int .i64 p.want, .slice ga p.ng gc, .slice da p.nd dc, .slice ua p.nu uc]) (by simp [results, Try.results68, go_sem, q1_0, q1_1, q1_2, q1_3, q1_4, q1_5]) rfl ⟨_, _, _, _, by rw [HD], HB.out, by rw [HD]; exact LO.out, Nw.refl _ _ _ _ _⟩
    · have HY : upL p s = ackL p (Flit.rS s) := by simp [upL, hrd, e1]
      have d1 : (Flit.rK s == 2) = true := by simpa using e1
      by_cases e2 : Flit.rS s ≤ p.base
      · have HD : upL p s = p := by rw [HY]; simp [ackL, ackB]; omega
        have d2 : decide (Flit.rS s ≤ p.base) = true := by simpa using e2
        clear HY
        have HB : Hid (Mv (Lrb (.slice wa p.nw wc) (.slice ga p.ng gc) (.slice da p.nd dc) (.slice ua p.nu uc)) w w) := hide (Mv.refl _ _)
        have LO := hide hr
        have LT := hide (fun g (h : Lrb (.slice wa p.nw wc) (.slice ga p.ng gc) (.slice da p.nd dc) (.slice ua p.nu uc) g) => (hr.lt g h).2)
        have hbs : base ≤ w.heap.size := hle
        clear hr hle
        go_enter Try.func68, Try.ntmps68
        refine sk fun K hK => rl ?_
        refine sbp #[.int .i64 p.base, .slice wa p.nw wc, .int .i64 p.want, .slice ga p.ng gc, .slice da p.nd dc, .slice ua p.nu uc] 30 fun V1 b0 hb0 m1 bx0 => ?_
        have o_0 : w.heap.size ≤ b0 := by omega
        clear hb0
        refine sbp #[.int .i64 0, .slice none 0 0, .int .i64 0, .slice none 0 0, .slice none 0 0, .slice none 0 0] 30 fun V2 b1 hb1 m2 bx1 => ?_
        have o0_1 := Xlo bx0 hb1; clear hb1
        refine nt (hK _ _ ?_); clear hK K; refine sk fun K hK => rl ?_
        refine sv (.string s) ?_
        refine sw_call (by rfl) (by first | rfl | (go_simp; done)) (sread_as s true hrd V2 hts) ?_
        rintro e V3 ⟨rfl, hbV3⟩
        have m3 : Mv (nob) V2 V3 := Mv.of_below hbV3
        refine ⟨_, rfl, ?_⟩
        refine pt ?_
        clear hbV3
        refine sv (.tuple #[.agg #[.int .i64 (Flit.rK s), .int .i64 (Flit.rS s), .string (Flit.rB s)], .bool true]) ?_
        refine sv (.agg #[.int .i64 (Flit.rK s), .int .i64 (Flit.rS s), .string (Flit.rB s)]) ?_
        refine sv (.bool true) ?_
        refine sbp #[.int .i64 0, .int .i64 0, .string ⟨#[]⟩] 88 fun V4 b2 hb2 m4 bx2 => ?_
        replace bx1 := Xbn bx1 m3; have o1_2 := Xlo bx1 hb2; clear hb2
        refine ss3 (.int .i64 (Flit.rK s)) (.int .i64 (Flit.rS s)) (.string (Flit.rB s)) bx2 fun V5 m5 bx2 => ?_
        refine sv (.bool true) ?_
        refine nt (hK _ _ ?_); clear hK K; refine sk fun K hK => sk fun K hK => rl ?_
        refine sv (.bool true) ?_
        refine sg (.bool false) ?_
        refine sv (.bool false) ?_
        refine sv (.pointer (some ⟨b2, 0, none⟩)) ?_
        refine sl 0 bx2 ?_
        refine sg (.bool false) ?_
        refine sg (.bool false) ?_
        refine sv (.bool false) ?_
        refine sv (.pointer (some ⟨b2, 1, none⟩)) ?_
        refine sl 1 bx2 ?_
        refine sv (.pointer (some ⟨b0, 0, none⟩)) ?_
        replace bx0 := Xbb (Xbn (Xbn (Xbn bx0 m2) m3) m4) m5; refine sl 0 bx0 ?_
        refine sg (.bool true) ?_
        refine sg (.bool true) ?_
        refine sv (.bool true) ?_
        with_reducible refine sp ?_
        with_reducible refine sp ?_
        with_reducible refine sp ?_
        with_reducible refine sp ?_
        with_reducible refine sp ?_
        refine sg (.bool true) ?_
        refine nt (hK _ _ ?_); clear hK K; refine ct (sk fun K hK => rl ?_)
        refine sl6 bx0 ?_
        replace bx1 := Xbb (Xbn bx1 m4) m5; refine ss6 (.int .i64 p.base) (.slice wa p.nw wc) (.int .i64 p.want) (.slice ga p.ng gc) (.slice da p.nd dc) (.slice ua p.nu uc) bx1 fun V6 m6 bx1 => ?_
        refine nt (hK _ _ ?_); clear hK K; refine wp_ret ?_
        try simp only [Exit.then, Exit.inBlock, ↓reduceIte, Nat.reduceEqDiff]
        obtain ⟨_, q1_0, q1_1, q1_2, q1_3, q1_4, q1_5⟩ := box6 bx1.out
        replace HB := Xhb (Xhb (Xhn (Xhn (Xhn (Xhn HB m1) m2) m3) m4) m5) m6; replace LO := Xlb (Xlb (Xln (Xln (Xln (Xln LO m1) m2) m3) m4) LT m5) LT m6; exact bodyPost_ret (v := .agg #[.int .i64 p.base, .slice wa p.nw wc, .int .i64 p.want, .slice ga p.ng gc, .slice da p.nd dc, .slice ua p.nu uc]) (by simp [results, Try.results68, go_sem, q1_0, q1_1, q1_2, q1_3, q1_4, q1_5]) rfl ⟨_, _, _, _, by rw [HD], HB.out, by rw [HD]; exact LO.out, Nw.refl _ _ _ _ _⟩
      · have d2 : decide (Flit.rS s ≤ p.base) = false := by simpa using e2
        by_cases e3 : p.want < Flit.rS s
        · have HD : upL p s = p := by rw [HY]; simp [ackL, ackB]; omega
          have d3 : decide (p.want < Flit.rS s) = true := by simpa using e3
          clear HY
          have HB : Hid (Mv (Lrb (.slice wa p.nw wc) (.slice ga p.ng gc) (.slice da p.nd dc) (.slice ua p.nu uc)) w w) := hide (Mv.refl _ _)
          have LO := hide hr
          have LT := hide (fun g (h : Lrb (.slice wa p.nw wc) (.slice ga p.ng gc) (.slice da p.nd dc) (.slice ua p.nu uc) g) => (hr.lt g h).2)
          have hbs : base ≤ w.heap.size := hle
          clear hr hle
          go_enter Try.func68, Try.ntmps68
          refine sk fun K hK => rl ?_
          refine sbp #[.int .i64 p.base, .slice wa p.nw wc, .int .i64 p.want, .slice ga p.ng gc, .slice da p.nd dc, .slice ua p.nu uc] 30 fun V1 b0 hb0 m1 bx0 => ?_
          have o_0 : w.heap.size ≤ b0 := by omega
          clear hb0
          refine sbp #[.int .i64 0, .slice none 0 0, .int .i64 0, .slice none 0 0, .slice none 0 0, .slice none 0 0] 30 fun V2 b1 hb1 m2 bx1 => ?_
          have o0_1 := Xlo bx0 hb1; clear hb1
          refine nt (hK _ _ ?_); clear hK K; refine sk fun K hK => rl ?_
          refine sv (.string s) ?_
          refine sw_call (by rfl) (by first | rfl | (go_simp; done)) (sread_as s true hrd V2 hts) ?_
          rintro e V3 ⟨rfl, hbV3⟩
          have m3 : Mv (nob) V2 V3 := Mv.of_below hbV3
          refine ⟨_, rfl, ?_⟩
          refine pt ?_
          clear hbV3
          refine sv (.tuple #[.agg #[.int .i64 (Flit.rK s), .int .i64 (Flit.rS s), .string (Flit.rB s)], .bool true]) ?_
          refine sv (.agg #[.int .i64 (Flit.rK s), .int .i64 (Flit.rS s), .string (Flit.rB s)]) ?_
          refine sv (.bool true) ?_
          refine sbp #[.int .i64 0, .int .i64 0, .string ⟨#[]⟩] 88 fun V4 b2 hb2 m4 bx2 => ?_
          replace bx1 := Xbn bx1 m3; have o1_2 := Xlo bx1 hb2; clear hb2
          refine ss3 (.int .i64 (Flit.rK s)) (.int .i64 (Flit.rS s)) (.string (Flit.rB s)) bx2 fun V5 m5 bx2 => ?_
          refine sv (.bool true) ?_
          refine nt (hK _ _ ?_); clear hK K; refine sk fun K hK => sk fun K hK => rl ?_
          refine sv (.bool true) ?_
          refine sg (.bool false) ?_
          refine sv (.bool false) ?_
          refine sv (.pointer (some ⟨b2, 0, none⟩)) ?_
          refine sl 0 bx2 ?_
          refine sg (.bool false) ?_
          refine sg (.bool false) ?_
          refine sv (.bool false) ?_
          refine sv (.pointer (some ⟨b2, 1, none⟩)) ?_
          refine sl 1 bx2 ?_
          refine sv (.pointer (some ⟨b0, 0, none⟩)) ?_
          replace bx0 := Xbb (Xbn (Xbn (Xbn bx0 m2) m3) m4) m5; refine sl 0 bx0 ?_
          refine sg (.bool false) ?_
          refine sg (.bool false) ?_
          refine sv (.bool false) ?_
          refine sv (.pointer (some ⟨b2, 1, none⟩)) ?_
          refine sl 1 bx2 ?_
          refine sv (.pointer (some ⟨b0, 2, none⟩)) ?_
          refine sl 2 bx0 ?_
          refine sg (.bool true) ?_
          refine sg (.bool true) ?_
          refine nt (hK _ _ ?_); clear hK K; refine ct (sk fun K hK => rl ?_)
          refine sl6 bx0 ?_
          replace bx1 := Xbb (Xbn bx1 m4) m5; refine ss6 (.int .i64 p.base) (.slice wa p.nw wc) (.int .i64 p.want) (.slice ga p.ng gc) (.slice da p.nd dc) (.slice ua p.nu uc) bx1 fun V6 m6 bx1 => ?_
          refine nt (hK _ _ ?_); clear hK K; refine wp_ret ?_
          try simp only [Exit.then, Exit.inBlock, ↓reduceIte, Nat.reduceEqDiff]
          obtain ⟨_, q1_0, q1_1, q1_2, q1_3, q1_4, q1_5⟩ := box6 bx1.out
          replace HB := Xhb (Xhb (Xhn (Xhn (Xhn (Xhn HB m1) m2) m3) m4) m5) m6; replace LO := Xlb (Xlb (Xln (Xln (Xln (Xln LO m1) m2) m3) m4) LT m5) LT m6; exact bodyPost_ret (v := .agg #[.int .i64 p.base, .slice wa p.nw wc, .int .i64 p.want, .slice ga p.ng gc, .slice da p.nd dc, .slice ua p.nu uc]) (by simp [results, Try.results68, go_sem, q1_0, q1_1, q1_2, q1_3, q1_4, q1_5]) rfl ⟨_, _, _, _, by rw [HD], HB.out, by rw [HD]; exact LO.out, Nw.refl _ _ _ _ _⟩
        · obtain ⟨j, hj⟩ : ∃ j, (Flit.rS s - p.base).toNat = j := ⟨_, rfl⟩
          have HD : upL p s = { p with base := Flit.rS s, nw := p.nw - j, ws := fun x => p.ws (x + j) } := by rw [HY]; unfold ackL; rw [if_pos (by simp [ackB]; omega)]; subst hj; rfl
          have d3 : decide (p.want < Flit.rS s) = false := by simpa using e3
          obtain ⟨v_, hs, ht, hrb⟩ := hr.wa.tail (j := j) (by omega) (by omega)
          obtain ⟨xa, xc, rfl, _⟩ := ht.form
          have hwj : IntKind.i64.wrap (Flit.rS s - p.base) = (j : Int) := by rw [show Flit.rS s - p.base = (j : Int) by omega]; exact i64wrap (by omega)
          clear HY
          have HB : Hid (Mv (Lrb (.slice wa p.nw wc) (.slice ga p.ng gc) (.slice da p.nd dc) (.slice ua p.nu uc)) w w) := hide (Mv.refl _ _)
          have LO := hide hr
          have LT := hide (fun g (h : Lrb (.slice wa p.nw wc) (.slice ga p.ng gc) (.slice da p.nd dc) (.slice ua p.nu uc) g) => (hr.lt g h).2)
          have hbs : base ≤ w.heap.size := hle
          clear hr hle
          have TL := hide ht
          clear ht
          go_enter Try.func68, Try.ntmps68
          refine sk fun K hK => rl ?_
          refine sbp #[.int .i64 p.base, .slice wa p.nw wc, .int .i64 p.want, .slice ga p.ng gc, .slice da p.nd dc, .slice ua p.nu uc] 30 fun V1 b0 hb0 m1 bx0 => ?_
          have o_0 : w.heap.size ≤ b0 := by omega
          replace TL := hide (TL.out.mv m1 (fun _ _ h => h))
          clear hb0
          refine sbp #[.int .i64 0, .slice none 0 0, .int .i64 0, .slice none 0 0, .slice none 0 0, .slice none 0 0] 30 fun V2 b1 hb1 m2 bx1 => ?_
          have o0_1 := Xlo bx0 hb1
          replace TL := hide (TL.out.mv m2 (fun _ _ h => h))
          clear hb1
          refine nt (hK _ _ ?_); clear hK K; refine sk fun K hK => rl ?_
          refine sv (.string s) ?_
          refine sw_call (by rfl) (by first | rfl | (go_simp; done)) (sread_as s true hrd V2 hts) ?_
          rintro e V3 ⟨rfl, hbV3⟩
          have m3 : Mv (nob) V2 V3 := Mv.of_below hbV3
          refine ⟨_, rfl, ?_⟩
          refine pt ?_
          replace TL := hide (TL.out.mv m3 (fun _ _ h => h))
          clear hbV3
          refine sv (.tuple #[.agg #[.int .i64 (Flit.rK s), .int .i64 (Flit.rS s), .string (Flit.rB s)], .bool true]) ?_
          refine sv (.agg #[.int .i64 (Flit.rK s), .int .i64 (Flit.rS s), .string (Flit.rB s)]) ?_
          refine sv (.bool true) ?_
          refine sbp #[.int .i64 0, .int .i64 0, .string ⟨#[]⟩] 88 fun V4 b2 hb2 m4 bx2 => ?_
          replace bx1 := Xbn bx1 m3; have o1_2 := Xlo bx1 hb2
          replace TL := hide (TL.out.mv m4 (fun _ _ h => h))
          clear hb2
          refine ss3 (.int .i64 (Flit.rK s)) (.int .i64 (Flit.rS s)) (.string (Flit.rB s)) bx2 fun V5 m5 bx2 => ?_
          replace TL := hide (TL.out.mv m5 (fun g hg h => by have h : g = b2 := h; have := LT.out g (.inl (hrb g hg)); omega))
          refine sv (.bool true) ?_
          refine nt (hK _ _ ?_); clear hK K; refine sk fun K hK => sk fun K hK => rl ?_
          refine sv (.bool true) ?_
          refine sg (.bool false) ?_
          refine sv (.bool false) ?_
          refine sv (.pointer (some ⟨b2, 0, none⟩)) ?_
          refine sl 0 bx2 ?_
          refine sg (.bool false) ?_
          refine sg (.bool false) ?_
          refine sv (.bool false) ?_
          refine sv (.pointer (some ⟨b2, 1, none⟩)) ?_
          refine sl 1 bx2 ?_
          refine sv (.pointer (some ⟨b0, 0, none⟩)) ?_
          replace bx0 := Xbb (Xbn (Xbn (Xbn bx0 m2) m3) m4) m5; refine sl 0 bx0 ?_
          refine sg (.bool false) ?_
          refine sg (.bool false) ?_
          refine sv (.bool false) ?_
          refine sv (.pointer (some ⟨b2, 1, none⟩)) ?_
          refine sl 1 bx2 ?_
          refine sv (.pointer (some ⟨b0, 2, none⟩)) ?_
          refine sl 2 bx0 ?_
          refine sg (.bool false) ?_
          refine sg (.bool false) ?_
          refine nt (hK _ _ ?_); clear hK K; refine cf (wp_skip (then_normal (hK _ _ ?_))); clear hK K; refine sk fun K hK => rl ?_
          refine sbs 0 #[] 9 fun V6 b3 hb3 m6 bx3 => ?_
          have o2_3 := Xlo bx2 hb3
          replace TL := hide (TL.out.mv m6 (fun _ _ h => h))
          clear hb3
          refine sv (.pointer (some ⟨b0, 1, none⟩)) ?_
          replace bx0 := Xbn bx0 m6; refine sl 1 bx0 ?_
          refine sv (.pointer (some ⟨b2, 1, none⟩)) ?_
          replace bx2 := Xbn bx2 m6; refine sl 1 bx2 ?_
          refine sv (.pointer (some ⟨b0, 0, none⟩)) ?_
          refine sl 0 bx0 ?_
          refine sg (.int .i64 ((j : Int))) (h := by have hw := hwj; go_simp) ?_
          refine sg (.slice xa (p.nw - j) xc) (h := by have hsl := hs; go_simp) ?_
          have szT := lt_of_block bx3.out
          replace HB := Xhn (Xhb (Xhn (Xhn (Xhn (Xhn HB m1) m2) m3) m4) m5) m6; have szW := HB.out.size
          obtain ⟨vx, V7, hrun, hm, hrg⟩ := copy_texts V6 (p.nw - j) b3 (.slice xa (p.nw - j) xc) (fun x => p.ws (x + j)) 22 TL.out.gf TL.out.sg (by omega)
          have m7 : Mv (nob) V6 V7 := hm
          refine sw_valW (by rfl) (run_append_op _ _ 22 (by rfl) (by rfl) (by rfl) hrun) ?_
          refine pt ?_
          obtain ⟨ya, yc, rfl, _⟩ := hrg.form
          have NX : Nw V6.heap.size (.slice wa p.nw wc) (.slice ga p.ng gc) (.slice da p.nd dc) (.slice ua p.nu uc) (.slice ya (p.nw - j) yc) (.slice ga p.ng gc) (.slice da p.nd dc) (.slice ua p.nu uc) := nw_wa (fun g e => .inr (hrg.lt g e).1)
          replace LO := Xln (Xlb (Xln (Xln (Xln (Xln LO m1) m2) m3) m4) LT m5) m6; have LN := hide ((Lr.num (LO.out.put_wa (Below.gb hm.below _) (hrg.base (by omega)) (fun g e => .inr (hrg.lt g e).1)) (Flit.rS s) p.want : Lr V7 base (.slice ya (p.nw - j) yc) (.slice ga p.ng gc) (.slice da p.nd dc) (.slice ua p.nu uc) { p with base := Flit.rS s, nw := p.nw - j, ws := fun x => p.ws (x + j) }))
          have AF : Hid (∀ g, Lrb (.slice ya (p.nw - j) yc) (.slice ga p.ng gc) (.slice da p.nd dc) (.slice ua p.nu uc) g → g ≠ b0 ∧ g ≠ b1 ∧ g ≠ b2 ∧ g ≠ b3) := hide (fun g h => (NX g h).elim (fun h2 => by have := LT.out g h2; omega) (fun h2 => by omega))
          have AN : Hid (Nw w.heap.size (.slice wa p.nw wc) (.slice ga p.ng gc) (.slice da p.nd dc) (.slice ua p.nu uc) (.slice ya (p.nw - j) yc) (.slice ga p.ng gc) (.slice da p.nd dc) (.slice ua p.nu uc)) := hide (fun g h => (NX g h).elim (fun h2 => .inl h2) (fun h2 => .inr (by omega)))
          clear NX szT szW
          replace LO := hide (LO.out.below hm.below)
          clear TL hrun hm hrg
          refine sv (.pointer (some ⟨b0, 1, none⟩)) ?_
          replace bx0 := Xbn bx0 m7; refine ss 1 (.slice ya (p.nw - j) yc) bx0 fun V8 m8 bx0 => ?_
          replace LN := hide (LN.out.mv m8 (fun g hg h => by have h : g = b0 := h; have := AF.out g hg; omega))
          refine nt (hK _ _ ?_); clear hK K; refine sk fun K hK => rl ?_
          refine sv (.pointer (some ⟨b2, 1, none⟩)) ?_
          replace bx2 := Xbb (Xbn bx2 m7) m8; refine sl 1 bx2 ?_
          refine sv (.pointer (some ⟨b0, 0, none⟩)) ?_
          refine ss 0 (.int .i64 (Flit.rS s)) bx0 fun V9 m9 bx0 => ?_
          replace LN := hide (LN.out.mv m9 (fun g hg h => by have h : g = b0 := h; have := AF.out g hg; omega))
          refine nt (hK _ _ ?_); clear hK K; refine sk fun K hK => rl ?_
          refine sl6 bx0 ?_
          replace bx1 := Xbb (Xbb (Xbn (Xbn (Xbb (Xbn bx1 m4) m5) m6) m7) m8) m9; refine ss6 (.int .i64 (Flit.rS s)) (.slice ya (p.nw - j) yc) (.int .i64 p.want) (.slice ga p.ng gc) (.slice da p.nd dc) (.slice ua p.nu uc) bx1 fun V10 m10 bx1 => ?_
          replace LN := hide (LN.out.mv m10 (fun g hg h => by have h : g = b1 := h; have := AF.out g hg; omega))
          refine nt (hK _ _ ?_); clear hK K; refine wp_ret ?_
          try simp only [Exit.then, Exit.inBlock, ↓reduceIte, Nat.reduceEqDiff]
          obtain ⟨_, q1_0, q1_1, q1_2, q1_3, q1_4, q1_5⟩ := box6 bx1.out
          replace HB := Xhb (Xhb (Xhb (Xhn HB m7) m8) m9) m10; exact bodyPost_ret (v := .agg #[.int .i64 ((Flit.rS s)), .slice ya (p.nw - j) yc, .int .i64 p.want, .slice ga p.ng gc, .slice da p.nd dc, .slice ua p.nu uc]) (by simp [results, Try.results68, go_sem, q1_0, q1_1, q1_2, q1_3, q1_4, q1_5]) rfl ⟨_, _, _, _, by rw [HD], HB.out, by rw [HD]; exact LN.out, AN.out⟩

end Go.Proofs.Ytnkocikbapbbmaa
