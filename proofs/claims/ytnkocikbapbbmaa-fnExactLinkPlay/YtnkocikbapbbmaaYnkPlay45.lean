/- LdZ6 -/
import Derived.Test.YtnkocikbapbbmaaYnkPlay35
/- spec.l8Act: texts under way (written by mkLdZ.py) -/
namespace Go.Proofs.Ytnkocikbapbbmaa
open Go.RowKit
set_option linter.unusedVariables false
set_option linter.unusedSimpArgs false

set_option maxHeartbeats 20000000 in
set_option maxRecDepth 20000 in
theorem sb_6 (p : Lk) (wa ga da ua : Option Addr) (wc gc dc uc : Nat) (base : Nat) (w : World) (hr : Lr w base (.slice wa p.nw wc) (.slice ga p.ng gc) (.slice da p.nd dc) (.slice ua p.nu uc) p) (hle : base ≤ w.heap.size) (z bit : Int) (body : ByteArray) (hf : Lf p) :
    Calls Try.prog 57 #[.agg (l6 p.base (.slice wa p.nw wc) p.want (.slice ga p.ng gc) (.slice da p.nd dc) (.slice ua p.nu uc)), .agg (a4 6 z bit body)] w (SaP (.slice wa p.nw wc) (.slice ga p.ng gc) (.slice da p.nd dc) (.slice ua p.nu uc) base w p (saC p 6 z bit body) (actL p 6 z bit body)) := by
  have HB : Hid (Mv (Lrb (.slice wa p.nw wc) (.slice ga p.ng gc) (.slice da p.nd dc) (.slice ua p.nu uc)) w w) := hide (Mv.refl _ _)
  have LO := hide hr
  have LT := hide (fun g (h : Lrb (.slice wa p.nw wc) (.slice ga p.ng gc) (.slice da p.nd dc) (.slice ua p.nu uc) g) => (hr.lt g h).2)
  have hbs : base ≤ w.heap.size := hle
  clear hr hle
  go_enter Try.func57, Try.ntmps57
  refine sk fun K hK => rl ?_
  refine sbp #[.int .i64 p.base, .slice wa p.nw wc, .int .i64 p.want, .slice ga p.ng gc, .slice da p.nd dc, .slice ua p.nu uc] 30 fun V1 b0 hb0 m1 bx0 => ?_
  have o_0 : w.heap.size ≤ b0 := by omega
  clear hb0
  refine sbp #[.int .i64 6, .int .i64 z, .int .i64 bit, .string body] 39 fun V2 b1 hb1 m2 bx1 => ?_
  have o0_1 := Xlo bx0 hb1; clear hb1
  refine sbp #[.int .i64 0, .slice none 0 0, .int .i64 0, .slice none 0 0, .slice none 0 0, .slice none 0 0] 30 fun V3 b2 hb2 m3 bx2 => ?_
  have o1_2 := Xlo bx1 hb2; clear hb2
  refine sv (.int .i64 0) ?_
  refine nt (hK _ _ ?_); clear hK K; refine sk fun K hK => sk fun K hK => rl ?_
  refine sv (.pointer (some ⟨b1, 0, none⟩)) ?_
  replace bx1 := Xbn bx1 m3; refine sl 0 bx1 ?_
  refine nt (hK _ _ ?_); clear hK K; refine wp_block (sk fun K hK => rl ?_)
  refine sg (.bool false) ?_
  refine sv (.bool false) ?_
  refine nt (hK _ _ ?_); clear hK K; refine cf (sk fun K hK => rl ?_)
  refine sg (.bool false) ?_
  refine sv (.bool false) ?_
  refine nt (hK _ _ ?_); clear hK K; refine cf (wp_skip (inb_norm (then_normal (hK _ _ ?_)))); clear hK K; refine sk fun K hK => rl ?_
  refine sv (.pointer (some ⟨b1, 0, none⟩)) ?_
  refine sl 0 bx1 ?_
  refine sg (.bool false) ?_
  refine sv (.bool false) ?_
  refine sv (.pointer (some ⟨b1, 0, none⟩)) ?_
  refine sl 0 bx1 ?_
  refine sg (.bool false) ?_
  refine sg (.bool false) ?_
  refine sv (.bool false) ?_
  refine sv (.pointer (some ⟨b1, 0, none⟩)) ?_
  refine sl 0 bx1 ?_
  refine sg (.bool false) ?_
  refine sg (.bool false) ?_
  refine sv (.bool false) ?_
  refine nt (hK _ _ ?_); clear hK K; refine sk fun K hK => rl ?_
  refine sv (.pointer (some ⟨b1, 0, none⟩)) ?_
  refine sl 0 bx1 ?_
  refine sg (.bool false) ?_
  refine sv (.bool false) ?_
  refine sv (.pointer (some ⟨b1, 0, none⟩)) ?_
  refine sl 0 bx1 ?_
  refine sg (.bool false) ?_
  refine sg (.bool false) ?_
  refine sv (.bool false) ?_
  refine nt (hK _ _ ?_); clear hK K; refine sk fun K hK => sk fun K hK => rl ?_
  by_cases h0 : ¬ body.size = 0
  · obtain ⟨hs1, hs2, hs3⟩ := str_no h0
    refine sv (.pointer (some ⟨b1, 0, none⟩)) ?_
    refine sl 0 bx1 ?_
    refine sw_call (by rfl) (by first | rfl | (go_simp; done)) (l1In_as true 6 3 8 V3 rfl) ?_
    rintro e V4 ⟨rfl, hbV4⟩
    have m4 : Mv (nob) V3 V4 := Mv.of_below hbV4
    refine ⟨_, rfl, ?_⟩
    refine pt ?_
    clear hbV4
    refine sg (.bool false) ?_
    refine sv (.bool false) ?_
    refine sv (.pointer (some ⟨b1, 3, none⟩)) ?_
    replace bx1 := Xbn bx1 m4; refine sl 3 bx1 ?_
    refine sg (.bool true) (h := by have q1 := hs1; have q2 := hs2; have q3 := hs3; go_simp) ?_
    refine sg (.bool true) ?_
    refine sv (.bool true) ?_
    with_reducible refine sp ?_
    with_reducible refine sp ?_
    with_reducible refine sp ?_
    with_reducible refine sp ?_
    with_reducible refine sp ?_
    with_reducible refine sp ?_
    with_reducible refine sp ?_
    refine sg (.bool true) ?_
    refine nt (hK _ _ ?_); clear hK K; refine ct (sk fun K hK => rl ?_)
    replace bx0 := Xbn (Xbn (Xbn bx0 m2) m3) m4; refine sl6 bx0 ?_
    replace bx2 := Xbn bx2 m4; refine ss6 (.int .i64 p.base) (.slice wa p.nw wc) (.int .i64 p.want) (.slice ga p.ng gc) (.slice da p.nd dc) (.slice ua p.nu uc) bx2 fun V5 m5 bx2 => ?_
    refine sv (.int .i64 2) ?_
    refine nt (hK _ _ ?_); clear hK K; refine wp_ret (then_ret ?_)
    try simp only [Exit.then, Exit.inBlock, ↓reduceIte, Nat.reduceEqDiff]
    obtain ⟨_, q2_0, q2_1, q2_2, q2_3, q2_4, q2_5⟩ := box6 bx2.out
    replace HB := Xhb (Xhn (Xhn (Xhn (Xhn HB m1) m2) m3) m4) m5; exact bodyPost_ret (v := .tuple #[.agg #[.int .i64 p.base, .slice wa p.nw wc, .int .i64 p.want, .slice ga p.ng gc, .slice da p.nd dc, .slice ua p.nu uc], .int .i64 2]) (by simp [results, Try.results57, go_sem, q2_0, q2_1, q2_2, q2_3, q2_4, q2_5]) rfl (sap_no ⟨rfl, HB.out⟩ ⟨⟨_, _, _, rfl⟩, ⟨_, _, _, rfl⟩, ⟨_, _, _, rfl⟩, ⟨_, _, _, rfl⟩⟩ (by simp [saC, laB, h0]) (by decide))
  replace h0 : body.size = 0 := by omega
  obtain ⟨hs1, hs2, hs3⟩ := str_yes h0
  by_cases hb : ¬ bit = 0
  · refine sv (.pointer (some ⟨b1, 0, none⟩)) ?_
    refine sl 0 bx1 ?_
    refine sw_call (by rfl) (by first | rfl | (go_simp; done)) (l1In_as true 6 3 8 V3 rfl) ?_
    rintro e V6 ⟨rfl, hbV6⟩
    have m6 : Mv (nob) V3 V6 := Mv.of_below hbV6
    refine ⟨_, rfl, ?_⟩
    refine pt ?_
    clear hbV6
    refine sg (.bool false) ?_
    refine sv (.bool false) ?_
    refine sv (.pointer (some ⟨b1, 3, none⟩)) ?_
    replace bx1 := Xbn bx1 m6; refine sl 3 bx1 ?_
    refine sg (.bool false) (h := by have q1 := hs1; have q2 := hs2; have q3 := hs3; go_simp) ?_
    refine sg (.bool false) ?_
    refine sv (.bool false) ?_
    refine sv (.bool false) ?_
    refine sg (.bool true) ?_
    refine sv (.bool true) ?_
    refine sv (.pointer (some ⟨b1, 2, none⟩)) ?_
    refine sl 2 bx1 ?_
    refine sg (.bool true) (h := by have db := hb; go_simp) ?_
    refine sg (.bool true) ?_
    refine sg (.bool true) ?_
    refine nt (hK _ _ ?_); clear hK K; refine ct (sk fun K hK => rl ?_)
    replace bx0 := Xbn (Xbn (Xbn bx0 m2) m3) m6; refine sl6 bx0 ?_
    replace bx2 := Xbn bx2 m6; refine ss6 (.int .i64 p.base) (.slice wa p.nw wc) (.int .i64 p.want) (.slice ga p.ng gc) (.slice da p.nd dc) (.slice ua p.nu uc) bx2 fun V7 m7 bx2 => ?_
    refine sv (.int .i64 2) ?_
    refine nt (hK _ _ ?_); clear hK K; refine wp_ret (then_ret ?_)
    try simp only [Exit.then, Exit.inBlock, ↓reduceIte, Nat.reduceEqDiff]
    obtain ⟨_, q2_0, q2_1, q2_2, q2_3, q2_4, q2_5⟩ := box6 bx2.out
    replace HB := Xhb (Xhn (Xhn (Xhn (Xhn HB m1) m2) m3) m6) m7; exact bodyPost_ret (v := .tuple #[.agg #[.int .i64 p.base, .slice wa p.nw wc, .int .i64 p.want, .slice ga p.ng gc, .slice da p.nd dc, .slice ua p.nu uc], .int .i64 2]) (by simp [results, Try.results57, go_sem, q2_0, q2_1, q2_2, q2_3, q2_4, q2_5]) rfl (sap_no ⟨rfl, HB.out⟩ ⟨⟨_, _, _, rfl⟩, ⟨_, _, _, rfl⟩, ⟨_, _, _, rfl⟩, ⟨_, _, _, rfl⟩⟩ (by simp [saC, laB, hb]) (by decide))
  replace hb : bit = 0 := by omega
  have hla : laB 6 z bit body = true := by simp [laB, h0, hb]
  refine sv (.pointer (some ⟨b1, 0, none⟩)) ?_
  refine sl 0 bx1 ?_
  refine sw_call (by rfl) (by first | rfl | (go_simp; done)) (l1In_as true 6 3 8 V3 rfl) ?_
  rintro e V8 ⟨rfl, hbV8⟩
  have m8 : Mv (nob) V3 V8 := Mv.of_below hbV8
  refine ⟨_, rfl, ?_⟩
  refine pt ?_
  clear hbV8
  refine sg (.bool false) ?_
  refine sv (.bool false) ?_
  refine sv (.pointer (some ⟨b1, 3, none⟩)) ?_
  replace bx1 := Xbn bx1 m8; refine sl 3 bx1 ?_
  refine sg (.bool false) (h := by have q1 := hs1; have q2 := hs2; have q3 := hs3; go_simp) ?_
  refine sg (.bool false) ?_
  refine sv (.bool false) ?_
  refine sv (.bool false) ?_
  refine sg (.bool true) ?_
  refine sv (.bool true) ?_
  refine sv (.pointer (some ⟨b1, 2, none⟩)) ?_
  refine sl 2 bx1 ?_
  refine sg (.bool false) (h := by have db := hb; go_simp) ?_
  refine sg (.bool false) ?_
  refine sg (.bool false) ?_
  refine nt (hK _ _ ?_); clear hK K; refine cf (wp_skip (then_normal (hK _ _ ?_))); clear hK K; refine sk fun K hK => rl ?_
  refine sv (.pointer (some ⟨b0, 5, none⟩)) ?_
  replace bx0 := Xbn (Xbn (Xbn bx0 m2) m3) m8; refine sl 5 bx0 ?_
  refine sv (.slice ua p.nu uc) ?_
  refine nt (hK _ _ ?_); clear hK K; refine sk fun K hK => sk fun K hK => rl ?_
  refine sv (.bool false) ?_
  refine nt (hK _ _ ?_); clear hK K; refine cf (wp_skip (then_normal (hK _ _ ?_))); clear hK K; refine sk fun K hK => sk fun K hK => rl ?_
  have hnn := hf.nu; have h1 := hf.b1; have h3 := hf.w8; have h6_ := hf.k0; have hn := hf.k1; have hkg := hf.kg; have hnn1 := hf.nd; have hnn2 := hf.nu
  have hb00 := hf.b0
  have hng : p.ng ≤ 1048000 := by omega
  have hnu : p.nu ≤ 1048000 := by omega
  have h6 : 0 ≤ p.want := by omega
  clear hkg h6_
  by_cases ht : ¬ thB p.nu z = true
  · replace ht : thB p.nu z = false := by simpa using ht
    refine sv (.pointer (some ⟨b1, 1, none⟩)) ?_
    refine sl 1 bx1 ?_
    refine sv (.slice ua p.nu uc) ?_
    refine sg (.int .i64 (p.nu : Int)) ?_
    refine sg (.int .i64 ((p.nu : Int) - 1)) (h := by have hw : IntKind.i64.wrap ((p.nu : Int) - 1) = (p.nu : Int) - 1 := i64wrap (by omega); go_simp) ?_
    refine sw_call (by rfl) (by first | rfl | (go_simp; done)) (l1In_as false z 0 ((p.nu : Int) - 1) V8 (thB_in ht)) ?_
    rintro e V9 ⟨rfl, hbV9⟩
    have m9 : Mv (nob) V8 V9 := Mv.of_below hbV9
    refine ⟨_, rfl, ?_⟩
    refine pt ?_
    clear hbV9
    refine sg (.bool true) ?_
    refine nt (hK _ _ ?_); clear hK K; refine ct (sk fun K hK => rl ?_)
    replace bx0 := Xbn bx0 m9; refine sl6 bx0 ?_
    replace bx2 := Xbn (Xbn bx2 m8) m9; refine ss6 (.int .i64 p.base) (.slice wa p.nw wc) (.int .i64 p.want) (.slice ga p.ng gc) (.slice da p.nd dc) (.slice ua p.nu uc) bx2 fun V10 m10 bx2 => ?_
    refine sv (.int .i64 3) ?_
    refine nt (hK _ _ ?_); clear hK K; refine wp_ret (then_ret ?_)
    try simp only [Exit.then, Exit.inBlock, ↓reduceIte, Nat.reduceEqDiff]
    obtain ⟨_, q2_0, q2_1, q2_2, q2_3, q2_4, q2_5⟩ := box6 bx2.out
    replace HB := Xhb (Xhn (Xhn (Xhn (Xhn (Xhn HB m1) m2) m3) m8) m9) m10; exact bodyPost_ret (v := .tuple #[.agg #[.int .i64 p.base, .slice wa p.nw wc, .int .i64 p.want, .slice ga p.ng gc, .slice da p.nd dc, .slice ua p.nu uc], .int .i64 3]) (by simp [results, Try.results57, go_sem, q2_0, q2_1, q2_2, q2_3, q2_4, q2_5]) rfl (sap_no ⟨rfl, HB.out⟩ ⟨⟨_, _, _, rfl⟩, ⟨_, _, _, rfl⟩, ⟨_, _, _, rfl⟩, ⟨_, _, _, rfl⟩⟩ (by simp [saC, hla, actC, ht]) (by decide))
  replace ht : thB p.nu z = true := by simpa using ht
  obtain ⟨m, rfl, hm⟩ := thB_yes ht
  replace LO := Xln (Xln (Xln (Xln LO m1) m2) m3) m8; obtain ⟨gr, fr, rfl, _⟩ := LO.out.up.rows (by omega)
  have hts := (hf.wu m hm).2
  refine sv (.pointer (some ⟨b1, 1, none⟩)) ?_
  refine sl 1 bx1 ?_
  refine sv (.slice (some ⟨gr, fr, none⟩) p.nu uc) ?_
  refine sg (.int .i64 (p.nu : Int)) ?_
  refine sg (.int .i64 ((p.nu : Int) - 1)) (h := by have hw : IntKind.i64.wrap ((p.nu : Int) - 1) = (p.nu : Int) - 1 := i64wrap (by omega); go_simp) ?_
  refine sw_call (by rfl) (by first | rfl | (go_simp; done)) (l1In_as true (m : Int) 0 ((p.nu : Int) - 1) V8 (thB_in ht)) ?_
  rintro e V11 ⟨rfl, hbV11⟩
  have m11 : Mv (nob) V8 V11 := Mv.of_below hbV11
  refine ⟨_, rfl, ?_⟩
  refine pt ?_
  clear hbV11
  refine sg (.bool false) ?_
  refine nt (hK _ _ ?_); clear hK K; refine cf (wp_skip (then_normal (hK _ _ ?_))); clear hK K; refine sk fun K hK => rl ?_
  refine sv (.slice (some ⟨gr, fr, none⟩) p.nu uc) ?_
  refine sv (.pointer (some ⟨b1, 1, none⟩)) ?_
  replace bx1 := Xbn bx1 m11; refine sl 1 bx1 ?_
  refine sg (.pointer (some ⟨gr, fr + m * 2, none⟩)) (h := by have hz0 : (0 : Int) ≤ (m : Int) := (by omega); have hz1 : (m : Int) < (p.nu : Int) := (by omega); go_simp) ?_
  replace LO := Xln LO m11; refine sg (.agg #[.string (p.ut m), .bool (p.uh m)]) (h := by obtain ⟨y0, y1⟩ := LO.out.up.wir hm; go_simp) ?_
  refine sbp #[.string ⟨#[]⟩, .bool false] 73 fun V12 b3 hb3 m12 bx3 => ?_
  replace bx2 := Xbn (Xbn bx2 m8) m11; have o2_3 := Xlo bx2 hb3; clear hb3
  refine ss2 (.string (p.ut m)) (.bool (p.uh m)) bx3 fun V13 m13 bx3 => ?_
  refine nt (hK _ _ ?_); clear hK K; refine sk fun K hK => wp_block (sk fun K hK => rl ?_)
  refine sv (.bool false) ?_
  refine sv (.bool false) ?_
  with_reducible refine sp ?_
  with_reducible refine sp ?_
  with_reducible refine sp ?_
  with_reducible refine sp ?_
  with_reducible refine sp ?_
  with_reducible refine sp ?_
  with_reducible refine sp ?_
  with_reducible refine sp ?_
  with_reducible refine sp ?_
  refine sg (.bool false) ?_
  refine sv (.bool false) ?_
  refine nt (hK _ _ ?_); clear hK K; refine cf (sk fun K hK => rl ?_)
  refine sv (.bool false) ?_
  refine sv (.bool false) ?_
  with_reducible refine sp ?_
  with_reducible refine sp ?_
  refine sg (.bool false) ?_
  refine sv (.bool false) ?_
  refine nt (hK _ _ ?_); clear hK K; refine cf (sk fun K hK => rl ?_)
  refine sv (.bool false) ?_
  refine sv (.bool false) ?_
  refine nt (hK _ _ ?_); clear hK K; refine cf (sk fun K hK => rl ?_)
  refine sv (.bool false) ?_
  refine sv (.bool false) ?_
  refine nt (hK _ _ ?_); clear hK K; refine cf (rl ?_)
  refine sv (.slice (some ⟨gr, fr, none⟩) p.nu uc) ?_
  refine sv (.pointer (some ⟨b1, 1, none⟩)) ?_
  replace bx1 := Xbb (Xbn bx1 m12) m13; refine sl 1 bx1 ?_
  have szT := lt_of_block bx3.out
  replace HB := Xhb (Xhn (Xhn (Xhn (Xhn (Xhn (Xhn HB m1) m2) m3) m8) m11) m12) m13; have szW := HB.out.size
  replace LO := Xlb (Xln LO m12) LT m13; refine sw_call (by rfl) (by first | rfl | (go_simp; done)) (l8Out_any (some ⟨gr, fr, none⟩) p.nu uc base m p.ut p.uh V13 LO.out.up hm (by omega)) ?_
  rintro e V14 ⟨ux, kx, rfl, hrx, hbV14⟩
  have m14 : Mv (nob) V13 V14 := Mv.of_below hbV14
  refine ⟨_, rfl, ?_⟩
  refine pt ?_
  have NX : Nw V13.heap.size (.slice wa p.nw wc) (.slice ga p.ng gc) (.slice da p.nd dc) (.slice (some ⟨gr, fr, none⟩) p.nu uc) (.slice wa p.nw wc) (.slice ga p.ng gc) (.slice da p.nd dc) (.slice ux (p.nu - 1) kx) := nw_up (fun g e => .inr (hrx.lt g e).1)
  have LN := hide ((LO.out.put_up (Below.gb hbV14 _) (hrx.base (by omega)) (fun g e => .inr (hrx.lt g e).1) : Lr V14 base (.slice wa p.nw wc) (.slice ga p.ng gc) (.slice da p.nd dc) (.slice ux (p.nu - 1) kx) (outU p m)))
  have AF : Hid (∀ g, Lrb (.slice wa p.nw wc) (.slice ga p.ng gc) (.slice da p.nd dc) (.slice ux (p.nu - 1) kx) g → g ≠ b0 ∧ g ≠ b1 ∧ g ≠ b2 ∧ g ≠ b3) := hide (fun g h => (NX g h).elim (fun h2 => by have := LT.out g h2; omega) (fun h2 => by omega))
  have AN : Hid (Nw w.heap.size (.slice wa p.nw wc) (.slice ga p.ng gc) (.slice da p.nd dc) (.slice (some ⟨gr, fr, none⟩) p.nu uc) (.slice wa p.nw wc) (.slice ga p.ng gc) (.slice da p.nd dc) (.slice ux (p.nu - 1) kx)) := hide (fun g h => (NX g h).elim (fun h2 => .inl h2) (fun h2 => .inr (by omega)))
  clear NX szT szW; clear hbV14 hrx; clear LO
  refine sv (.pointer (some ⟨b0, 5, none⟩)) ?_
  replace bx0 := Xbn (Xbb (Xbn (Xbn bx0 m11) m12) m13) m14; refine ss 5 (.slice ux (p.nu - 1) kx) bx0 fun V15 m15 bx0 => ?_
  replace LN := hide (LN.out.mv m15 (fun g hg h => by have h : g = b0 := h; have := AF.out g hg; omega))
  refine wpList_nil (inb_norm (then_normal (hK _ _ ?_))); clear hK K; refine sk fun K hK => sk fun K hK => rl ?_
  refine sv (.pointer (some ⟨b1, 0, none⟩)) ?_
  replace bx1 := Xbb (Xbn bx1 m14) m15; refine sl 0 bx1 ?_
  refine sg (.bool false) ?_
  refine nt (hK _ _ ?_); clear hK K; refine cf (wp_skip (then_normal (hK _ _ ?_))); clear hK K; refine sk fun K hK => sk fun K hK => rl ?_
  refine sv (.pointer (some ⟨b1, 0, none⟩)) ?_
  refine sl 0 bx1 ?_
  refine sg (.bool false) ?_
  refine nt (hK _ _ ?_); clear hK K; refine cf (wp_skip (then_normal (hK _ _ ?_))); clear hK K; refine sk fun K hK => rl ?_
  refine sl6 bx0 ?_
  replace bx2 := Xbb (Xbn (Xbb (Xbn bx2 m12) m13) m14) m15; refine ss6 (.int .i64 p.base) (.slice wa p.nw wc) (.int .i64 p.want) (.slice ga p.ng gc) (.slice da p.nd dc) (.slice ux (p.nu - 1) kx) bx2 fun V16 m16 bx2 => ?_
  replace LN := hide (LN.out.mv m16 (fun g hg h => by have h : g = b2 := h; have := AF.out g hg; omega))
  refine sv (.int .i64 0) ?_
  refine nt (hK _ _ ?_); clear hK K; refine wp_ret ?_
  try simp only [Exit.then, Exit.inBlock, ↓reduceIte, Nat.reduceEqDiff]
  obtain ⟨_, q2_0, q2_1, q2_2, q2_3, q2_4, q2_5⟩ := box6 bx2.out
  replace HB := Xhb (Xhb (Xhn HB m14) m15) m16; exact bodyPost_ret (v := .tuple #[.agg #[.int .i64 p.base, .slice wa p.nw wc, .int .i64 p.want, .slice ga p.ng gc, .slice da p.nd dc, .slice ux (p.nu - 1) kx], .int .i64 0]) (by simp [results, Try.results57, go_sem, q2_0, q2_1, q2_2, q2_3, q2_4, q2_5]) rfl (sap_ok (q := (outU p m)) ⟨_, _, _, _, rfl, HB.out, LN.out, AN.out⟩ (by simp [saC, hla, actC, ht]) (by simp [actL]))


end Go.Proofs.Ytnkocikbapbbmaa
