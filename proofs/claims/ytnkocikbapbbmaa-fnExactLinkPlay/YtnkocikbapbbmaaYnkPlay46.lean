/- LdZ7 -/
import Derived.Test.YtnkocikbapbbmaaYnkPlay35
/- spec.l8Act: texts under way (written by mkLdZ.py) -/
namespace Go.Proofs.Ytnkocikbapbbmaa
open Go.RowKit
set_option linter.unusedVariables false
set_option linter.unusedSimpArgs false

set_option maxHeartbeats 20000000 in
set_option maxRecDepth 20000 in
theorem sb_7 (p : Lk) (wa ga da ua : Option Addr) (wc gc dc uc : Nat) (base : Nat) (w : World) (hr : Lr w base (.slice wa p.nw wc) (.slice ga p.ng gc) (.slice da p.nd dc) (.slice ua p.nu uc) p) (hle : base ≤ w.heap.size) (z bit : Int) (body : ByteArray) (hf : Lf p) :
    Calls Try.prog 57 #[.agg (l6 p.base (.slice wa p.nw wc) p.want (.slice ga p.ng gc) (.slice da p.nd dc) (.slice ua p.nu uc)), .agg (a4 7 z bit body)] w (SaP (.slice wa p.nw wc) (.slice ga p.ng gc) (.slice da p.nd dc) (.slice ua p.nu uc) base w p (saC p 7 z bit body) (actL p 7 z bit body)) := by
  have HB : Hid (Mv (Lrb (.slice wa p.nw wc) (.slice ga p.ng gc) (.slice da p.nd dc) (.slice ua p.nu uc)) w w) := hide (Mv.refl _ _)
  have LO := hide hr
  have LT := hide (fun g (h : Lrb (.slice wa p.nw wc) (.slice ga p.ng gc) (.slice da p.nd dc) (.slice ua p.nu uc) g) => (hr.lt g h).2)
  have hbs : base ≤ w.heap.size := hle
  clear hr hle
  go_enter Try.func57, Try.ntmps57
  refine sk fun K hK => rl ?_
  refine sbp #[.int .i64 p.base, .slice wa p.nw wc, .int .i64 p.want, .slice ga p.ng gc, .slice da p.nd dc, .slice ua p.nu uc] 30 fun V1 b0 hb0 m1 bx0 => ?_
  have o_0 : w.heap.size ≤ b0 := by omega
  clear hb0
  refine sbp #[.int .i64 7, .int .i64 z, .int .i64 bit, .string body] 39 fun V2 b1 hb1 m2 bx1 => ?_
  have o0_1 := Xlo bx0 hb1; clear hb1
  refine sbp #[.int .i64 0, .slice none 0 0, .int .i64 0, .slice none 0 0, .slice none 0 0, .slice none 0 0] 30 fun V3 b2 hb2 m3 bx2 => ?_
  have o1_2 := Xlo bx1 hb2; clear hb2
  refine sv (.int .i64 0) ?_
  refine nt (hK _ _ ?_); clear hK K; refine sk fun K hK => sk fun K hK => rl ?_
  refine sv (.pointer (some ⟨b1, 0, none⟩)) ?_
  replace bx1 := Xbn bx1 m3; refine sl 0 bx1 ?_
  refine nt (hK _ _ ?_); clear hK K; refine wp_block (sk fun K hK => rl ?_)
  refine sg (.bool false) ?_
  refine sv (.bool false) ?_
  refine nt (hK _ _ ?_); clear hK K; refine cf (sk fun K hK => rl ?_)
  refine sg (.bool false) ?_
  refine sv (.bool false) ?_
  refine nt (hK _ _ ?_); clear hK K; refine cf (wp_skip (inb_norm (then_normal (hK _ _ ?_)))); clear hK K; refine sk fun K hK => rl ?_
  refine sv (.pointer (some ⟨b1, 0, none⟩)) ?_
  refine sl 0 bx1 ?_
  refine sg (.bool false) ?_
  refine sv (.bool false) ?_
  refine sv (.pointer (some ⟨b1, 0, none⟩)) ?_
  refine sl 0 bx1 ?_
  refine sg (.bool false) ?_
  refine sg (.bool false) ?_
  refine sv (.bool false) ?_
  refine sv (.pointer (some ⟨b1, 0, none⟩)) ?_
  refine sl 0 bx1 ?_
  refine sg (.bool true) ?_
  refine sg (.bool true) ?_
  refine sv (.bool true) ?_
  refine nt (hK _ _ ?_); clear hK K; refine sk fun K hK => rl ?_
  refine sv (.pointer (some ⟨b1, 0, none⟩)) ?_
  refine sl 0 bx1 ?_
  refine sg (.bool true) ?_
  refine sv (.bool true) ?_
  with_reducible refine sp ?_
  with_reducible refine sp ?_
  with_reducible refine sp ?_
  refine sg (.bool true) ?_
  refine sv (.bool true) ?_
  refine nt (hK _ _ ?_); clear hK K; refine sk fun K hK => sk fun K hK => rl ?_
  by_cases h0 : ¬ body.size = 0
  · obtain ⟨hs1, hs2, hs3⟩ := str_no h0
    refine sv (.pointer (some ⟨b1, 0, none⟩)) ?_
    refine sl 0 bx1 ?_
    refine sw_call (by rfl) (by first | rfl | (go_simp; done)) (l1In_as true 7 3 8 V3 rfl) ?_
    rintro e V4 ⟨rfl, hbV4⟩
    have m4 : Mv (nob) V3 V4 := Mv.of_below hbV4
    refine ⟨_, rfl, ?_⟩
    refine pt ?_
    clear hbV4
    refine sg (.bool false) ?_
    refine sv (.bool false) ?_
    refine sv (.pointer (some ⟨b1, 3, none⟩)) ?_
    replace bx1 := Xbn bx1 m4; refine sl 3 bx1 ?_
    refine sg (.bool true) (h := by have q1 := hs1; have q2 := hs2; have q3 := hs3; go_simp) ?_
    refine sg (.bool true) ?_
    refine sv (.bool true) ?_
    with_reducible refine sp ?_
    with_reducible refine sp ?_
    with_reducible refine sp ?_
    with_reducible refine sp ?_
    with_reducible refine sp ?_
    with_reducible refine sp ?_
    with_reducible refine sp ?_
    refine sg (.bool true) ?_
    refine nt (hK _ _ ?_); clear hK K; refine ct (sk fun K hK => rl ?_)
    replace bx0 := Xbn (Xbn (Xbn bx0 m2) m3) m4; refine sl6 bx0 ?_
    replace bx2 := Xbn bx2 m4; refine ss6 (.int .i64 p.base) (.slice wa p.nw wc) (.int .i64 p.want) (.slice ga p.ng gc) (.slice da p.nd dc) (.slice ua p.nu uc) bx2 fun V5 m5 bx2 => ?_
    refine sv (.int .i64 2) ?_
    refine nt (hK _ _ ?_); clear hK K; refine wp_ret (then_ret ?_)
    try simp only [Exit.then, Exit.inBlock, ↓reduceIte, Nat.reduceEqDiff]
    obtain ⟨_, q2_0, q2_1, q2_2, q2_3, q2_4, q2_5⟩ := box6 bx2.out
    replace HB := Xhb (Xhn (Xhn (Xhn (Xhn HB m1) m2) m3) m4) m5; exact bodyPost_ret (v := .tuple #[.agg #[.int .i64 p.base, .slice wa p.nw wc, .int .i64 p.want, .slice ga p.ng gc, .slice da p.nd dc, .slice ua p.nu uc], .int .i64 2]) (by simp [results, Try.results57, go_sem, q2_0, q2_1, q2_2, q2_3, q2_4, q2_5]) rfl (sap_no ⟨rfl, HB.out⟩ ⟨⟨_, _, _, rfl⟩, ⟨_, _, _, rfl⟩, ⟨_, _, _, rfl⟩, ⟨_, _, _, rfl⟩⟩ (by simp [saC, laB, h0]) (by decide))
  replace h0 : body.size = 0 := by omega
  obtain ⟨hs1, hs2, hs3⟩ := str_yes h0
  have hla : laB 7 z bit body = true := by simp [laB, h0]
  have hCk : saC p 7 z bit body = flC p.nd p.dt p.dh z bit := by unfold saC; rw [hla, if_pos rfl]; simp [actC]
  refine sv (.pointer (some ⟨b1, 0, none⟩)) ?_
  refine sl 0 bx1 ?_
  refine sw_call (by rfl) (by first | rfl | (go_simp; done)) (l1In_as true 7 3 8 V3 rfl) ?_
  rintro e V6 ⟨rfl, hbV6⟩
  have m6 : Mv (nob) V3 V6 := Mv.of_below hbV6
  refine ⟨_, rfl, ?_⟩
  refine pt ?_
  clear hbV6
  refine sg (.bool false) ?_
  refine sv (.bool false) ?_
  refine sv (.pointer (some ⟨b1, 3, none⟩)) ?_
  replace bx1 := Xbn bx1 m6; refine sl 3 bx1 ?_
  refine sg (.bool false) (h := by have q1 := hs1; have q2 := hs2; have q3 := hs3; go_simp) ?_
  refine sg (.bool false) ?_
  refine sv (.bool false) ?_
  refine sv (.bool true) ?_
  refine sg (.bool false) ?_
  refine sv (.bool false) ?_
  with_reducible refine sp ?_
  with_reducible refine sp ?_
  with_reducible refine sp ?_
  refine sg (.bool false) ?_
  refine sg (.bool false) ?_
  refine nt (hK _ _ ?_); clear hK K; refine cf (wp_skip (then_normal (hK _ _ ?_))); clear hK K; refine sk fun K hK => rl ?_
  refine sv (.pointer (some ⟨b0, 5, none⟩)) ?_
  replace bx0 := Xbn (Xbn (Xbn bx0 m2) m3) m6; refine sl 5 bx0 ?_
  refine sv (.slice ua p.nu uc) ?_
  refine nt (hK _ _ ?_); clear hK K; refine sk fun K hK => sk fun K hK => rl ?_
  refine sv (.bool true) ?_
  refine nt (hK _ _ ?_); clear hK K; refine ct (rl ?_)
  refine sv (.pointer (some ⟨b0, 4, none⟩)) ?_
  refine sl 4 bx0 ?_
  refine sv (.slice da p.nd dc) ?_
  refine nt (hK _ _ ?_); clear hK K; refine sk fun K hK => sk fun K hK => rl ?_
  have hnn := hf.nd; have h1 := hf.b1; have h3 := hf.w8; have h6_ := hf.k0; have hn := hf.k1; have hkg := hf.kg; have hnn1 := hf.nd; have hnn2 := hf.nu
  have hb00 := hf.b0
  have hng : p.ng ≤ 1048000 := by omega
  have hnu : p.nu ≤ 1048000 := by omega
  have h6 : 0 ≤ p.want := by omega
  clear hkg h6_
  by_cases ht : ¬ thB p.nd z = true
  · replace ht : thB p.nd z = false := by simpa using ht
    refine sv (.pointer (some ⟨b1, 1, none⟩)) ?_
    refine sl 1 bx1 ?_
    refine sv (.slice da p.nd dc) ?_
    refine sg (.int .i64 (p.nd : Int)) ?_
    refine sg (.int .i64 ((p.nd : Int) - 1)) (h := by have hw : IntKind.i64.wrap ((p.nd : Int) - 1) = (p.nd : Int) - 1 := i64wrap (by omega); go_simp) ?_
    refine sw_call (by rfl) (by first | rfl | (go_simp; done)) (l1In_as false z 0 ((p.nd : Int) - 1) V6 (thB_in ht)) ?_
    rintro e V7 ⟨rfl, hbV7⟩
    have m7 : Mv (nob) V6 V7 := Mv.of_below hbV7
    refine ⟨_, rfl, ?_⟩
    refine pt ?_
    clear hbV7
    refine sg (.bool true) ?_
    refine nt (hK _ _ ?_); clear hK K; refine ct (sk fun K hK => rl ?_)
    replace bx0 := Xbn bx0 m7; refine sl6 bx0 ?_
    replace bx2 := Xbn (Xbn bx2 m6) m7; refine ss6 (.int .i64 p.base) (.slice wa p.nw wc) (.int .i64 p.want) (.slice ga p.ng gc) (.slice da p.nd dc) (.slice ua p.nu uc) bx2 fun V8 m8 bx2 => ?_
    refine sv (.int .i64 3) ?_
    refine nt (hK _ _ ?_); clear hK K; refine wp_ret (then_ret ?_)
    try simp only [Exit.then, Exit.inBlock, ↓reduceIte, Nat.reduceEqDiff]
    obtain ⟨_, q2_0, q2_1, q2_2, q2_3, q2_4, q2_5⟩ := box6 bx2.out
    replace HB := Xhb (Xhn (Xhn (Xhn (Xhn (Xhn HB m1) m2) m3) m6) m7) m8; exact bodyPost_ret (v := .tuple #[.agg #[.int .i64 p.base, .slice wa p.nw wc, .int .i64 p.want, .slice ga p.ng gc, .slice da p.nd dc, .slice ua p.nu uc], .int .i64 3]) (by simp [results, Try.results57, go_sem, q2_0, q2_1, q2_2, q2_3, q2_4, q2_5]) rfl (sap_no ⟨rfl, HB.out⟩ ⟨⟨_, _, _, rfl⟩, ⟨_, _, _, rfl⟩, ⟨_, _, _, rfl⟩, ⟨_, _, _, rfl⟩⟩ (by rw [hCk]; simp [flC, ht]) (by decide))
  replace ht : thB p.nd z = true := by simpa using ht
  obtain ⟨m, rfl, hm⟩ := thB_yes ht
  replace LO := Xln (Xln (Xln (Xln LO m1) m2) m3) m6; obtain ⟨gr, fr, rfl, _⟩ := LO.out.dn.rows (by omega)
  have hts := (hf.wd m hm).2
  refine sv (.pointer (some ⟨b1, 1, none⟩)) ?_
  refine sl 1 bx1 ?_
  refine sv (.slice (some ⟨gr, fr, none⟩) p.nd dc) ?_
  refine sg (.int .i64 (p.nd : Int)) ?_
  refine sg (.int .i64 ((p.nd : Int) - 1)) (h := by have hw : IntKind.i64.wrap ((p.nd : Int) - 1) = (p.nd : Int) - 1 := i64wrap (by omega); go_simp) ?_
  refine sw_call (by rfl) (by first | rfl | (go_simp; done)) (l1In_as true (m : Int) 0 ((p.nd : Int) - 1) V6 (thB_in ht)) ?_
  rintro e V9 ⟨rfl, hbV9⟩
  have m9 : Mv (nob) V6 V9 := Mv.of_below hbV9
  refine ⟨_, rfl, ?_⟩
  refine pt ?_
  clear hbV9
  refine sg (.bool false) ?_
  refine nt (hK _ _ ?_); clear hK K; refine cf (wp_skip (then_normal (hK _ _ ?_))); clear hK K; refine sk fun K hK => rl ?_
  refine sv (.slice (some ⟨gr, fr, none⟩) p.nd dc) ?_
  refine sv (.pointer (some ⟨b1, 1, none⟩)) ?_
  replace bx1 := Xbn bx1 m9; refine sl 1 bx1 ?_
  refine sg (.pointer (some ⟨gr, fr + m * 2, none⟩)) (h := by have hz0 : (0 : Int) ≤ (m : Int) := (by omega); have hz1 : (m : Int) < (p.nd : Int) := (by omega); go_simp) ?_
  replace LO := Xln LO m9; refine sg (.agg #[.string (p.dt m), .bool (p.dh m)]) (h := by obtain ⟨y0, y1⟩ := LO.out.dn.wir hm; go_simp) ?_
  refine sbp #[.string ⟨#[]⟩, .bool false] 73 fun V10 b3 hb3 m10 bx3 => ?_
  replace bx2 := Xbn (Xbn bx2 m6) m9; have o2_3 := Xlo bx2 hb3; clear hb3
  refine ss2 (.string (p.dt m)) (.bool (p.dh m)) bx3 fun V11 m11 bx3 => ?_
  refine nt (hK _ _ ?_); clear hK K; refine sk fun K hK => wp_block (sk fun K hK => rl ?_)
  by_cases hbad : bit < 0 ∨ 8 * ((p.dt m).size : Int) ≤ bit
  · refine sv (.bool true) ?_
    refine sv (.bool true) ?_
    refine sv (.pointer (some ⟨b1, 2, none⟩)) ?_
    replace bx1 := Xbb (Xbn bx1 m10) m11; refine sl 2 bx1 ?_
    refine sv (.pointer (some ⟨b3, 0, none⟩)) ?_
    refine sl 0 bx3 ?_
    refine sg (.int .i64 (((p.dt m).size : Int))) ?_
    refine sg (.int .i64 (8 * ((p.dt m).size : Int))) (h := by have hw8 : IntKind.i64.wrap (8 * ((p.dt m).size : Int)) = 8 * ((p.dt m).size : Int) := i64wrap (by omega); go_simp) ?_
    refine sg (.int .i64 (8 * ((p.dt m).size : Int) - 1)) (h := by have hw9 : IntKind.i64.wrap (8 * ((p.dt m).size : Int) - 1) = 8 * ((p.dt m).size : Int) - 1 := i64wrap (by omega); go_simp) ?_
    refine sw_call (by rfl) (by first | rfl | (go_simp; done)) (l1In_as false bit 0 (8 * ((p.dt m).size : Int) - 1) V11 (decide_eq_false (by omega))) ?_
    rintro e V12 ⟨rfl, hbV12⟩
    have m12 : Mv (nob) V11 V12 := Mv.of_below hbV12
    refine ⟨_, rfl, ?_⟩
    refine pt ?_
    clear hbV12
    refine sg (.bool true) ?_
    refine sg (.bool true) ?_
    refine sv (.bool true) ?_
    refine nt (hK _ _ ?_); clear hK K; refine ct (sk fun K hK => rl ?_)
    replace bx0 := Xbn (Xbb (Xbn (Xbn bx0 m9) m10) m11) m12; refine sl6 bx0 ?_
    replace bx2 := Xbn (Xbb (Xbn bx2 m10) m11) m12; refine ss6 (.int .i64 p.base) (.slice wa p.nw wc) (.int .i64 p.want) (.slice ga p.ng gc) (.slice (some ⟨gr, fr, none⟩) p.nd dc) (.slice ua p.nu uc) bx2 fun V13 m13 bx2 => ?_
    refine sv (.int .i64 2) ?_
    refine nt (hK _ _ ?_); clear hK K; refine wp_ret ?_; refine inb_ret ?_; refine then_ret ?_
    try simp only [Exit.then, Exit.inBlock, ↓reduceIte, Nat.reduceEqDiff]
    obtain ⟨_, q2_0, q2_1, q2_2, q2_3, q2_4, q2_5⟩ := box6 bx2.out
    replace HB := Xhb (Xhn (Xhb (Xhn (Xhn (Xhn (Xhn (Xhn (Xhn HB m1) m2) m3) m6) m9) m10) m11) m12) m13; exact bodyPost_ret (v := .tuple #[.agg #[.int .i64 p.base, .slice wa p.nw wc, .int .i64 p.want, .slice ga p.ng gc, .slice (some ⟨gr, fr, none⟩) p.nd dc, .slice ua p.nu uc], .int .i64 2]) (by simp [results, Try.results57, go_sem, q2_0, q2_1, q2_2, q2_3, q2_4, q2_5]) rfl (sap_no ⟨rfl, HB.out⟩ ⟨⟨_, _, _, rfl⟩, ⟨_, _, _, rfl⟩, ⟨_, _, _, rfl⟩, ⟨_, _, _, rfl⟩⟩ (by rw [hCk]; unfold flC; rw [ht, if_pos rfl, Int.toNat_natCast, if_pos hbad]) (by decide))
  obtain ⟨b, rfl⟩ : ∃ b : Nat, bit = (b : Int) := ⟨bit.toNat, by omega⟩
  refine sv (.bool true) ?_
  refine sv (.bool true) ?_
  refine sv (.pointer (some ⟨b1, 2, none⟩)) ?_
  replace bx1 := Xbb (Xbn bx1 m10) m11; refine sl 2 bx1 ?_
  refine sv (.pointer (some ⟨b3, 0, none⟩)) ?_
  refine sl 0 bx3 ?_
  refine sg (.int .i64 (((p.dt m).size : Int))) ?_
  refine sg (.int .i64 (8 * ((p.dt m).size : Int))) (h := by have hw8 : IntKind.i64.wrap (8 * ((p.dt m).size : Int)) = 8 * ((p.dt m).size : Int) := i64wrap (by omega); go_simp) ?_
  refine sg (.int .i64 (8 * ((p.dt m).size : Int) - 1)) (h := by have hw9 : IntKind.i64.wrap (8 * ((p.dt m).size : Int) - 1) = 8 * ((p.dt m).size : Int) - 1 := i64wrap (by omega); go_simp) ?_
  refine sw_call (by rfl) (by first | rfl | (go_simp; done)) (l1In_as true (b : Int) 0 (8 * ((p.dt m).size : Int) - 1) V11 (decide_eq_true (by omega))) ?_
  rintro e V14 ⟨rfl, hbV14⟩
  have m14 : Mv (nob) V11 V14 := Mv.of_below hbV14
  refine ⟨_, rfl, ?_⟩
  refine pt ?_
  clear hbV14
  refine sg (.bool false) ?_
  refine sg (.bool false) ?_
  refine sv (.bool false) ?_
  refine nt (hK _ _ ?_); clear hK K; refine cf (sk fun K hK => rl ?_)
  by_cases hh : p.dh m = true
  · refine sv (.bool true) ?_
    refine sv (.bool true) ?_
    refine sv (.pointer (some ⟨b3, 1, none⟩)) ?_
    replace bx3 := Xbn bx3 m14; refine sg (.bool true) (h := by have z0 := cell_box 1 (bx3.out) rfl; rw [hh] at z0; go_simp) ?_
    refine sg (.bool true) ?_
    refine sv (.bool true) ?_
    refine nt (hK _ _ ?_); clear hK K; refine ct (sk fun K hK => rl ?_)
    replace bx0 := Xbn (Xbb (Xbn (Xbn bx0 m9) m10) m11) m14; refine sl6 bx0 ?_
    replace bx2 := Xbn (Xbb (Xbn bx2 m10) m11) m14; refine ss6 (.int .i64 p.base) (.slice wa p.nw wc) (.int .i64 p.want) (.slice ga p.ng gc) (.slice (some ⟨gr, fr, none⟩) p.nd dc) (.slice ua p.nu uc) bx2 fun V15 m15 bx2 => ?_
    refine sv (.int .i64 5) ?_
    refine nt (hK _ _ ?_); clear hK K; refine wp_ret ?_; refine inb_ret ?_; refine then_ret ?_
    try simp only [Exit.then, Exit.inBlock, ↓reduceIte, Nat.reduceEqDiff]
    obtain ⟨_, q2_0, q2_1, q2_2, q2_3, q2_4, q2_5⟩ := box6 bx2.out
    replace HB := Xhb (Xhn (Xhb (Xhn (Xhn (Xhn (Xhn (Xhn (Xhn HB m1) m2) m3) m6) m9) m10) m11) m14) m15; exact bodyPost_ret (v := .tuple #[.agg #[.int .i64 p.base, .slice wa p.nw wc, .int .i64 p.want, .slice ga p.ng gc, .slice (some ⟨gr, fr, none⟩) p.nd dc, .slice ua p.nu uc], .int .i64 5]) (by simp [results, Try.results57, go_sem, q2_0, q2_1, q2_2, q2_3, q2_4, q2_5]) rfl (sap_no ⟨rfl, HB.out⟩ ⟨⟨_, _, _, rfl⟩, ⟨_, _, _, rfl⟩, ⟨_, _, _, rfl⟩, ⟨_, _, _, rfl⟩⟩ (by rw [hCk]; unfold flC; rw [ht, if_pos rfl, Int.toNat_natCast, if_neg hbad, hh]; rfl) (by decide))
  replace hh : p.dh m = false := by simpa using hh
  refine sv (.bool true) ?_
  refine sv (.bool true) ?_
  refine sv (.pointer (some ⟨b3, 1, none⟩)) ?_
  replace bx3 := Xbn bx3 m14; refine sg (.bool false) (h := by have z0 := cell_box 1 (bx3.out) rfl; rw [hh] at z0; go_simp) ?_
  refine sg (.bool false) ?_
  refine sv (.bool false) ?_
  refine nt (hK _ _ ?_); clear hK K; refine cf (sk fun K hK => rl ?_)
  refine sv (.bool true) ?_
  refine sv (.bool true) ?_
  refine nt (hK _ _ ?_); clear hK K; refine ct (sk fun K hK => ?_)
  refine wp_region_but (z := 10) (S := fun w' => Mv (nob) V14.drew w') (by kernel_rfl) (Mv.refl _ _) (fun hS => ?_)
  have m16 : Mv nob V14 V14.drew := Mv.drew _
  obtain ⟨V16, hV16⟩ : ∃ V, V14.drew = V := ⟨_, rfl⟩
  rw [hV16] at hS m16 ⊢
  clear hV16; replace bx0 := Xbn (Xbn (Xbb (Xbn (Xbn bx0 m9) m10) m11) m14) m16; have rbx0 := bx0; replace bx1 := Xbn (Xbn bx1 m14) m16; have rbx1 := bx1; replace bx2 := Xbn (Xbn (Xbb (Xbn bx2 m10) m11) m14) m16; have rbx2 := bx2; replace bx3 := Xbn bx3 m16; have rbx3 := bx3
  refine tk0 0 (.slice (some ⟨gr, fr, none⟩) p.nd dc) rfl ?_
  refine tk0 1 (.pointer (some ⟨b1, 1, none⟩)) rfl ?_
  refine tk 2 (.int .i64 (m : Int)) rfl (fun w' hSw => by (try dsimp only at hSw); have z0 := cell_box 1 (hSw.box rbx1.out (fun h => h)) rfl; go_simp) ?_
  refine tk0 3 (.pointer (some ⟨b3, 0, none⟩)) rfl ?_
  refine tk 4 (.string (p.dt m)) rfl (fun w' hSw => by (try dsimp only at hSw); have z0 := cell_box 0 (hSw.box rbx3.out (fun h => h)) rfl; go_simp) ?_
  refine tk0 5 (.pointer (some ⟨b1, 2, none⟩)) rfl ?_
  refine tk 6 (.int .i64 (b : Int)) rfl (fun w' hSw => by (try dsimp only at hSw); have z0 := cell_box 2 (hSw.box rbx1.out (fun h => h)) rfl; go_simp) ?_
  refine kd_call (i := 7) (by kernel_rfl) rfl (by rfl) (by first | rfl | (go_simp; done)) (turn_any (p.dt m) b V16 (by omega) (by omega)) ?_
  rintro e V17 ⟨rfl, hbV17⟩
  have m17 : Mv (nob) V16 V17 := Mv.of_below hbV17
  replace hS := hS.step m17 (fun _ _ h => h.elim)
  refine ⟨_, rfl, fun _ => hS, ?_⟩
  refine ptk ?_
  clear hbV17
  refine tk0 8 (.agg #[.string (trn (p.dt m) b), .bool true]) rfl ?_
  refine tk 9 (.pointer (some ⟨gr, fr + m * 2, none⟩)) rfl (fun w' hSw => by (try dsimp only at hSw); have hz0 : (0 : Int) ≤ (m : Int) := (by omega); have hz1 : (m : Int) < (p.nd : Int) := (by omega); go_simp) ?_
  replace LO := Xln (Xln (Xln (Xlb (Xln LO m10) LT m11) m14) m16) m17; obtain ⟨g_, off_, eg_, _, _, _, hwc, _⟩ := LO.out.dn.rows (by omega)
  cases eg_
  have hfr := hwc.facts.1
  clear hwc
  obtain ⟨y0, y1⟩ := LO.out.dn.wir hm
  have hrp := LO.out.dn.rbpos (by omega)
  refine kd_skipI (i := 10) (w' := (V17.setCell ⟨gr, fr + m * 2, none⟩ (.string (trn (p.dt m) b))).setCell ⟨gr, fr + m * 2 + 1, none⟩ (.bool true)) (fun V => Mv (fun x => x = gr) V17 V ∧ Lr V base (.slice wa p.nw wc) (.slice ga p.ng gc) (.slice (some ⟨gr, fr, none⟩) p.nd dc) (.slice ua p.nu uc) (flipD p m b)) (by kernel_rfl) rfl (by rfl) (by go_simp) ⟨((Mv.refl _ _).set _ _).set _ _, LO.out.set_dn _ _ hm⟩ (fun _ _ h => absurd rfl h) ?_
  rintro V18 ⟨m18, nxV18⟩
  refine ptk ?_
  clear hfr y0 y1
  have hgr := LT.out gr (.inr (.inr (.inl hrp)))
  replace HB := Xhn (Xhn (Xhn (Xhb (Xhn (Xhn (Xhn (Xhn (Xhn (Xhn HB m1) m2) m3) m6) m9) m10) m11) m14) m16) m17; replace HB := hide (HB.out.step m18 (fun x hx h => by have h : x = gr := h; subst h; exact .inr (.inr (.inl hrp))))
  replace bx0 := Xbn bx0 m17; replace bx0 := hide (m18.box bx0.out (show ¬ (b0 = gr) by omega))
  replace bx1 := Xbn bx1 m17; replace bx1 := hide (m18.box bx1.out (show ¬ (b1 = gr) by omega))
  replace bx2 := Xbn bx2 m17; replace bx2 := hide (m18.box bx2.out (show ¬ (b2 = gr) by omega))
  replace bx3 := Xbn bx3 m17; replace bx3 := hide (m18.box bx3.out (show ¬ (b3 = gr) by omega))
  replace LO := hide nxV18
  clear nxV18 hrp hgr
  refine wpAnyK_done (by kernel_rfl) ?_
  clear hS rbx0 rbx1 rbx2 rbx3
  refine then_normal (hK _ _ ?_); clear hK K; refine sk fun K hK => rl ?_
  refine sl6 bx0 ?_
  refine ss6 (.int .i64 p.base) (.slice wa p.nw wc) (.int .i64 p.want) (.slice ga p.ng gc) (.slice (some ⟨gr, fr, none⟩) p.nd dc) (.slice ua p.nu uc) bx2 fun V19 m19 bx2 => ?_
  refine sv (.int .i64 0) ?_
  refine nt (hK _ _ ?_); clear hK K; refine wp_ret ?_; refine inb_ret ?_; refine then_ret ?_
  try simp only [Exit.then, Exit.inBlock, ↓reduceIte, Nat.reduceEqDiff]
  obtain ⟨_, q2_0, q2_1, q2_2, q2_3, q2_4, q2_5⟩ := box6 bx2.out
  replace HB := Xhb HB m19; replace LO := Xlb LO LT m19; exact bodyPost_ret (v := .tuple #[.agg #[.int .i64 p.base, .slice wa p.nw wc, .int .i64 p.want, .slice ga p.ng gc, .slice (some ⟨gr, fr, none⟩) p.nd dc, .slice ua p.nu uc], .int .i64 0]) (by simp [results, Try.results57, go_sem, q2_0, q2_1, q2_2, q2_3, q2_4, q2_5]) rfl (sap_ok (q := (flipD p m b)) ⟨_, _, _, _, rfl, HB.out, LO.out, Nw.refl _ _ _ _ _⟩ (by rw [hCk]; unfold flC; rw [ht, if_pos rfl, Int.toNat_natCast, if_neg hbad, hh]; rfl) (by simp [actL]))


end Go.Proofs.Ytnkocikbapbbmaa
