/- LdZb -/
import Derived.Test.YtnkocikbapbbmaaYnkPlay35
/- spec.l8Act: sends (written by mkLdZ.py) -/
namespace Go.Proofs.Ytnkocikbapbbmaa
open Go.RowKit
set_option linter.unusedVariables false
set_option linter.unusedSimpArgs false

set_option maxHeartbeats 20000000 in
set_option maxRecDepth 20000 in
theorem sb_2 (p : Lk) (wa ga da ua : Option Addr) (wc gc dc uc : Nat) (base : Nat) (w : World) (hr : Lr w base (.slice wa p.nw wc) (.slice ga p.ng gc) (.slice da p.nd dc) (.slice ua p.nu uc) p) (hle : base ≤ w.heap.size) (z bit : Int) (body : ByteArray) (hf : Lf p) :
    Calls Try.prog 57 #[.agg (l6 p.base (.slice wa p.nw wc) p.want (.slice ga p.ng gc) (.slice da p.nd dc) (.slice ua p.nu uc)), .agg (a4 2 z bit body)] w (SaP (.slice wa p.nw wc) (.slice ga p.ng gc) (.slice da p.nd dc) (.slice ua p.nu uc) base w p (saC p 2 z bit body) (actL p 2 z bit body)) := by
  have hb0 := hf.b0; have hb1 := hf.b1; have hnw := hf.w8; have hnd := hf.nd
  have HB : Hid (Mv (Lrb (.slice wa p.nw wc) (.slice ga p.ng gc) (.slice da p.nd dc) (.slice ua p.nu uc)) w w) := hide (Mv.refl _ _)
  have LO := hide hr
  have LT := hide (fun g (h : Lrb (.slice wa p.nw wc) (.slice ga p.ng gc) (.slice da p.nd dc) (.slice ua p.nu uc) g) => (hr.lt g h).2)
  have hbs : base ≤ w.heap.size := hle
  clear hr hle
  go_enter Try.func57, Try.ntmps57
  refine sk fun K hK => rl ?_
  refine sbp #[.int .i64 p.base, .slice wa p.nw wc, .int .i64 p.want, .slice ga p.ng gc, .slice da p.nd dc, .slice ua p.nu uc] 30 fun V1 b0 hb0 m1 bx0 => ?_
  have o_0 : w.heap.size ≤ b0 := by omega
  clear hb0
  refine sbp #[.int .i64 2, .int .i64 z, .int .i64 bit, .string body] 39 fun V2 b1 hb1 m2 bx1 => ?_
  have o0_1 := Xlo bx0 hb1; clear hb1
  refine sbp #[.int .i64 0, .slice none 0 0, .int .i64 0, .slice none 0 0, .slice none 0 0, .slice none 0 0] 30 fun V3 b2 hb2 m3 bx2 => ?_
  have o1_2 := Xlo bx1 hb2; clear hb2
  refine sv (.int .i64 0) ?_
  refine nt (hK _ _ ?_); clear hK K; refine sk fun K hK => sk fun K hK => rl ?_
  refine sv (.pointer (some ⟨b1, 0, none⟩)) ?_
  replace bx1 := Xbn bx1 m3; refine sl 0 bx1 ?_
  refine nt (hK _ _ ?_); clear hK K; refine wp_block (sk fun K hK => rl ?_)
  refine sg (.bool false) ?_
  refine sv (.bool false) ?_
  refine nt (hK _ _ ?_); clear hK K; refine cf (sk fun K hK => rl ?_)
  refine sg (.bool true) ?_
  refine sv (.bool true) ?_
  refine nt (hK _ _ ?_); clear hK K; refine ct (sk fun K hK => sk fun K hK => rl ?_)
  by_cases hz : ¬ z = 0
  · refine sv (.pointer (some ⟨b1, 1, none⟩)) ?_
    refine sl 1 bx1 ?_
    refine sg (.bool true) (h := by have dz := hz; go_simp) ?_
    refine sv (.bool true) ?_
    with_reducible refine sp ?_
    with_reducible refine sp ?_
    with_reducible refine sp ?_
    refine sg (.bool true) ?_
    refine sv (.bool true) ?_
    with_reducible refine sp ?_
    with_reducible refine sp ?_
    with_reducible refine sp ?_
    refine sg (.bool true) ?_
    refine nt (hK _ _ ?_); clear hK K; refine ct (sk fun K hK => rl ?_)
    replace bx0 := Xbn (Xbn bx0 m2) m3; refine sl6 bx0 ?_
    refine ss6 (.int .i64 p.base) (.slice wa p.nw wc) (.int .i64 p.want) (.slice ga p.ng gc) (.slice da p.nd dc) (.slice ua p.nu uc) bx2 fun V4 m4 bx2 => ?_
    refine sv (.int .i64 2) ?_
    refine nt (hK _ _ ?_); clear hK K; refine wp_ret (then_ret ?_); refine inb_ret ?_; refine then_ret ?_
    try simp only [Exit.then, Exit.inBlock, ↓reduceIte, Nat.reduceEqDiff]
    obtain ⟨_, q2_0, q2_1, q2_2, q2_3, q2_4, q2_5⟩ := box6 bx2.out
    replace HB := Xhb (Xhn (Xhn (Xhn HB m1) m2) m3) m4; exact bodyPost_ret (v := .tuple #[.agg #[.int .i64 p.base, .slice wa p.nw wc, .int .i64 p.want, .slice ga p.ng gc, .slice da p.nd dc, .slice ua p.nu uc], .int .i64 2]) (by simp [results, Try.results57, go_sem, q2_0, q2_1, q2_2, q2_3, q2_4, q2_5]) rfl (sap_no ⟨rfl, HB.out⟩ ⟨⟨_, _, _, rfl⟩, ⟨_, _, _, rfl⟩, ⟨_, _, _, rfl⟩, ⟨_, _, _, rfl⟩⟩ (by simp [saC, laB, hz]) (by decide))
  replace hz : z = 0 := by omega
  by_cases hb : ¬ bit = 0
  · refine sv (.pointer (some ⟨b1, 1, none⟩)) ?_
    refine sl 1 bx1 ?_
    refine sg (.bool false) (h := by have dz := hz; go_simp) ?_
    refine sv (.bool false) ?_
    refine sv (.pointer (some ⟨b1, 2, none⟩)) ?_
    refine sl 2 bx1 ?_
    refine sg (.bool true) (h := by have db := hb; go_simp) ?_
    refine sg (.bool true) ?_
    refine sv (.bool true) ?_
    with_reducible refine sp ?_
    with_reducible refine sp ?_
    with_reducible refine sp ?_
    refine sg (.bool true) ?_
    refine nt (hK _ _ ?_); clear hK K; refine ct (sk fun K hK => rl ?_)
    replace bx0 := Xbn (Xbn bx0 m2) m3; refine sl6 bx0 ?_
    refine ss6 (.int .i64 p.base) (.slice wa p.nw wc) (.int .i64 p.want) (.slice ga p.ng gc) (.slice da p.nd dc) (.slice ua p.nu uc) bx2 fun V5 m5 bx2 => ?_
    refine sv (.int .i64 2) ?_
    refine nt (hK _ _ ?_); clear hK K; refine wp_ret (then_ret ?_); refine inb_ret ?_; refine then_ret ?_
    try simp only [Exit.then, Exit.inBlock, ↓reduceIte, Nat.reduceEqDiff]
    obtain ⟨_, q2_0, q2_1, q2_2, q2_3, q2_4, q2_5⟩ := box6 bx2.out
    replace HB := Xhb (Xhn (Xhn (Xhn HB m1) m2) m3) m5; exact bodyPost_ret (v := .tuple #[.agg #[.int .i64 p.base, .slice wa p.nw wc, .int .i64 p.want, .slice ga p.ng gc, .slice da p.nd dc, .slice ua p.nu uc], .int .i64 2]) (by simp [results, Try.results57, go_sem, q2_0, q2_1, q2_2, q2_3, q2_4, q2_5]) rfl (sap_no ⟨rfl, HB.out⟩ ⟨⟨_, _, _, rfl⟩, ⟨_, _, _, rfl⟩, ⟨_, _, _, rfl⟩, ⟨_, _, _, rfl⟩⟩ (by simp [saC, laB, hb]) (by decide))
  replace hb : bit = 0 := by omega
  by_cases h0 : ¬ body.size = 0
  · obtain ⟨hs1, hs2, hs3⟩ := str_no h0
    refine sv (.pointer (some ⟨b1, 1, none⟩)) ?_
    refine sl 1 bx1 ?_
    refine sg (.bool false) (h := by have dz := hz; go_simp) ?_
    refine sv (.bool false) ?_
    refine sv (.pointer (some ⟨b1, 2, none⟩)) ?_
    refine sl 2 bx1 ?_
    refine sg (.bool false) (h := by have db := hb; go_simp) ?_
    refine sg (.bool false) ?_
    refine sv (.bool false) ?_
    refine sv (.pointer (some ⟨b1, 3, none⟩)) ?_
    refine sl 3 bx1 ?_
    refine sg (.bool true) (h := by have q1 := hs1; have q2 := hs2; have q3 := hs3; go_simp) ?_
    refine sg (.bool true) ?_
    refine nt (hK _ _ ?_); clear hK K; refine ct (sk fun K hK => rl ?_)
    replace bx0 := Xbn (Xbn bx0 m2) m3; refine sl6 bx0 ?_
    refine ss6 (.int .i64 p.base) (.slice wa p.nw wc) (.int .i64 p.want) (.slice ga p.ng gc) (.slice da p.nd dc) (.slice ua p.nu uc) bx2 fun V6 m6 bx2 => ?_
    refine sv (.int .i64 2) ?_
    refine nt (hK _ _ ?_); clear hK K; refine wp_ret (then_ret ?_); refine inb_ret ?_; refine then_ret ?_
    try simp only [Exit.then, Exit.inBlock, ↓reduceIte, Nat.reduceEqDiff]
    obtain ⟨_, q2_0, q2_1, q2_2, q2_3, q2_4, q2_5⟩ := box6 bx2.out
    replace HB := Xhb (Xhn (Xhn (Xhn HB m1) m2) m3) m6; exact bodyPost_ret (v := .tuple #[.agg #[.int .i64 p.base, .slice wa p.nw wc, .int .i64 p.want, .slice ga p.ng gc, .slice da p.nd dc, .slice ua p.nu uc], .int .i64 2]) (by simp [results, Try.results57, go_sem, q2_0, q2_1, q2_2, q2_3, q2_4, q2_5]) rfl (sap_no ⟨rfl, HB.out⟩ ⟨⟨_, _, _, rfl⟩, ⟨_, _, _, rfl⟩, ⟨_, _, _, rfl⟩, ⟨_, _, _, rfl⟩⟩ (by simp [saC, laB, h0]) (by decide))
  replace h0 : body.size = 0 := by omega
  obtain ⟨hs1, hs2, hs3⟩ := str_yes h0
  refine sv (.pointer (some ⟨b1, 1, none⟩)) ?_
  refine sl 1 bx1 ?_
  refine sg (.bool false) (h := by have dz := hz; go_simp) ?_
  refine sv (.bool false) ?_
  refine sv (.pointer (some ⟨b1, 2, none⟩)) ?_
  refine sl 2 bx1 ?_
  refine sg (.bool false) (h := by have db := hb; go_simp) ?_
  refine sg (.bool false) ?_
  refine sv (.bool false) ?_
  refine sv (.pointer (some ⟨b1, 3, none⟩)) ?_
  refine sl 3 bx1 ?_
  refine sg (.bool false) (h := by have q1 := hs1; have q2 := hs2; have q3 := hs3; go_simp) ?_
  refine sg (.bool false) ?_
  refine nt (hK _ _ ?_); clear hK K; refine cf (wp_skip (then_normal (hK _ _ ?_))); clear hK K; refine sk fun K hK => sk fun K hK => rl ?_
  refine sv (.int .i64 0) ?_
  refine nt (hK _ _ ?_); clear hK K; refine wp_block ?_; refine wp_loop_rounds 4 ?_; refine rounds_step ?_; refine sk fun K hK => sk fun K hK => rl ?_
  by_cases hw0 : p.nw = 0
  · refine sv (.int .i64 0) ?_
    refine sv (.pointer (some ⟨b0, 1, none⟩)) ?_
    replace bx0 := Xbn (Xbn bx0 m2) m3; refine sl 1 bx0 ?_
    refine sg (.int .i64 (p.nw : Int)) ?_
    refine sg (.int .i64 0) (h := by have hmn : min (3 : Int) (p.nw : Int) = 0 := (by omega); have hm2 : min 3 p.nw = 0 := (by omega); go_simp) ?_
    refine sg (.bool false) ?_
    refine nt (hK _ _ ?_); clear hK K; refine cf ?_; refine wp_exit ?_; refine then_exit ?_; refine then_exit ?_; refine inb_here rfl ?_; refine then_normal ?_; clear hK K; refine hK _ _ ?_; clear hK K; refine sk fun K hK => rl ?_
    refine sl6 bx0 ?_
    refine ss6 (.int .i64 p.base) (.slice wa p.nw wc) (.int .i64 p.want) (.slice ga p.ng gc) (.slice da p.nd dc) (.slice ua p.nu uc) bx2 fun V7 m7 bx2 => ?_
    refine sv (.int .i64 0) ?_
    refine nt (hK _ _ ?_); clear hK K; refine wp_ret ?_; refine inb_ret ?_; refine then_ret ?_
    try simp only [Exit.then, Exit.inBlock, ↓reduceIte, Nat.reduceEqDiff]
    obtain ⟨_, q2_0, q2_1, q2_2, q2_3, q2_4, q2_5⟩ := box6 bx2.out
    replace HB := Xhb (Xhn (Xhn (Xhn HB m1) m2) m3) m7; replace LO := Xlb (Xln (Xln (Xln LO m1) m2) m3) LT m7; exact bodyPost_ret (v := .tuple #[.agg #[.int .i64 p.base, .slice wa p.nw wc, .int .i64 p.want, .slice ga p.ng gc, .slice da p.nd dc, .slice ua p.nu uc], .int .i64 0]) (by simp [results, Try.results57, go_sem, q2_0, q2_1, q2_2, q2_3, q2_4, q2_5]) rfl (sap_ok (q := sndK p 0) ⟨_, _, _, _, rfl, HB.out, snd_none LO.out, Nw.refl _ _ _ _ _⟩ (by simp [saC, laB, hz, hb, h0, actC]) (by rw [show actL p 2 z bit body = sndL p from by simp [actL]]; exact sndK_eq p 0 (by omega)))
  replace LO := Xln (Xln (Xln LO m1) m2) m3; obtain ⟨gr, fr, rfl, _⟩ := LO.out.wa.rows (by omega)
  have hwp := LO.out.wa.rbpos (by omega)
  by_cases hw1 : p.nw = 1
  · refine sv (.int .i64 0) ?_
    refine sv (.pointer (some ⟨b0, 1, none⟩)) ?_
    replace bx0 := Xbn (Xbn bx0 m2) m3; refine sl 1 bx0 ?_
    refine sg (.int .i64 (p.nw : Int)) ?_
    refine sg (.int .i64 1) (h := by have hmn : min (3 : Int) (p.nw : Int) = 1 := (by omega); have hm2 : min 3 p.nw = 1 := (by omega); go_simp) ?_
    refine sg (.bool true) ?_
    refine nt (hK _ _ ?_); clear hK K; refine ct (wp_skip (then_normal (hK _ _ ?_))); clear hK K; refine sk fun K hK => wp_block ?_
    have cw : Hid (V3.cell? ⟨gr, fr, none⟩ = some (.string (p.ws 0))) := hide (LO.out.wa.txt (x := 0) (by omega))
    have hna : ¬ (rb (.slice da p.nd dc) = some gr) := (LO.out.aw gr (LO.out.wa.rbpos (by omega))).2.1
    have LTr : ∀ g, rb (.slice da p.nd dc) = some g → g < w.heap.size := fun g h => LT.out g (.inr (.inr (.inl h)))
    refine wp_region_but (z := 17) (S := fun w' => Mv (fun g => rb (.slice da p.nd dc) = some g) V3.drew w') (by kernel_rfl) (Mv.refl _ _) (fun hS => ?_)
    have m8 : Mv nob V3 V3.drew := Mv.drew _
    obtain ⟨V8, hV8⟩ : ∃ V, V3.drew = V := ⟨_, rfl⟩
    rw [hV8] at hS m8 ⊢
    clear hV8
    replace cw := hide (m8.cell cw.out (fun h => h))
    replace bx0 := Xbn bx0 m8; have rbx0 := bx0; replace bx1 := Xbn bx1 m8; have rbx1 := bx1; replace bx2 := Xbn bx2 m8; have rbx2 := bx2
    refine tk0 0 (.pointer (some ⟨b0, 4, none⟩)) rfl ?_
    refine tk 1 (.slice da p.nd dc) rfl (fun w' hSw => by (try dsimp only at hSw); have z0 := cell_box 4 (hSw.box rbx0.out (fun h => by have := LTr _ h; omega)) rfl; go_simp) ?_
    refine tk0 2 (.pointer (some ⟨b0, 0, none⟩)) rfl ?_
    refine tk 3 (.int .i64 p.base) rfl (fun w' hSw => by (try dsimp only at hSw); have z0 := cell_box 0 (hSw.box rbx0.out (fun h => by have := LTr _ h; omega)) rfl; go_simp) ?_
    refine tk0 4 (.int .i64 0) rfl ?_
    refine tk 5 (.int .i64 (p.base + 0)) rfl (fun w' hSw => by (try dsimp only at hSw); have hw0 : IntKind.i64.wrap p.base = p.base := i64wrap (by omega); have hw : IntKind.i64.wrap (p.base + 0) = p.base + 0 := i64wrap (by omega); go_simp) ?_
    refine tk0 6 (.pointer (some ⟨b0, 1, none⟩)) rfl ?_
    refine tk 7 (.slice (some ⟨gr, fr, none⟩) p.nw wc) rfl (fun w' hSw => by (try dsimp only at hSw); have z0 := cell_box 1 (hSw.box rbx0.out (fun h => by have := LTr _ h; omega)) rfl; go_simp) ?_
    refine tk0 8 (.int .i64 0) rfl ?_
    refine tk 9 (.pointer (some ⟨gr, fr, none⟩)) rfl (fun w' hSw => by (try dsimp only at hSw); have hn0 : ¬ ((p.nw : Int) ≤ 0) := (by omega); have hn9 : ¬ p.nw = 0 := (by omega); go_simp) ?_
    refine tk 10 (.string (p.ws 0)) rfl (fun w' hSw => by (try dsimp only at hSw); have hcw := hSw.cell cw.out hna; go_simp) ?_
    refine tk0 11 (.agg #[.int .i64 1, .int .i64 (p.base + 0), .string (p.ws 0)]) rfl ?_
    refine kd_call (i := 12) (by kernel_rfl) rfl (by rfl) (by first | rfl | (go_simp; done)) (l8Text_data (p.base + 0) (p.ws 0) V8 (by omega) (by omega) (hf.tw 0 (by omega))) ?_
    rintro e V9 ⟨rfl, hbV9⟩
    have m9 : Mv (nob) V8 V9 := Mv.of_below hbV9
    replace hS := hS.step m9 (fun _ _ h => h.elim)
    refine ⟨_, rfl, fun _ => hS, ?_⟩
    refine ptk ?_
    replace cw := hide (m9.cell cw.out (fun h => h))
    clear hbV9
    refine tk0 13 (.agg #[.string (Flit.txt 1 (p.base + 0) (p.ws 0)), .bool false]) rfl ?_
    refine kd_valI (i := 14) (v := .slice (some ⟨V9.heap.size, 0, none⟩) 1 1) (w' := V9.alloc (.cells #[.string (Flit.txt 1 (p.base + 0) (p.ws 0)), .bool false] 73)) (fun V => Mv nob V9 V ∧ V.heap[V9.heap.size]? = some (.cells #[.string (Flit.txt 1 (p.base + 0) (p.ws 0)), .bool false] 73 (0, 0))) (by kernel_rfl) rfl (by rfl) (by first | rfl | go_simp) ⟨Mv.alloc _ _, heap_alloc_new _ _⟩ (fun V hI _ => hS.step hI.1 (fun _ _ h => h.elim)) ?_
    rintro V10 ⟨m10, nxV10⟩
    refine ptk ?_
    obtain ⟨b3, hb3⟩ : ∃ b3, V9.heap.size = b3 := ⟨_, rfl⟩
    rw [hb3] at nxV10 ⊢
    replace bx2 := Xbn bx2 m9; have o2_3 := Xlo bx2 hb3
    have sV10 : b3 < V10.heap.size := lt_of_block nxV10
    clear hb3
    replace cw := hide (m10.cell cw.out (fun h => h))
    have bx3 := hide nxV10
    clear nxV10
    replace hS := hS.step m10 (fun _ _ h => h.elim)
    clear sV10
    have szT := lt_of_block bx3.out
    replace HB := Xhn (Xhn (Xhn (Xhn (Xhn (Xhn HB m1) m2) m3) m8) m9) m10; have szW := HB.out.size
    have LTm : ∀ g, rb (.slice da p.nd dc) = some g → g < w.heap.size := LTr
    replace LO := Xln (Xln (Xln LO m8) m9) m10; obtain ⟨gx0, ox0, kx0, V11, hrun, hgr, hrg, hbl, hold⟩ := add_wire V10 base (.slice da p.nd dc) p.nd p.dt p.dh (Flit.txt 1 (p.base + 0) (p.ws 0)) false 28 b3 0 1 (cell_box 0 bx3.out rfl) (cell_box 1 bx3.out rfl) LO.out.dn (by omega) (by omega)
    have m11 : Mv (fun g => rb (.slice da p.nd dc) = some g) V10 V11 := Mv.of_grown hgr
    replace hS := hS.step m11 (fun _ _ h => h)
    refine kd_valW (i := 15) (by kernel_rfl) rfl (by rfl) (run_append_op _ _ 28 (by rfl) (by rfl) (by rfl) hrun) (fun _ => hS) ?_
    refine ptk ?_
    replace HB := hide (HB.out.step m11 (fun g _ h => .inr (.inr (.inl h))))
    replace bx0 := Xbn (Xbn bx0 m9) m10; replace bx0 := hide (m11.box bx0.out (fun h => by have := LTm _ h; omega))
    replace bx1 := Xbn (Xbn bx1 m9) m10; replace bx1 := hide (m11.box bx1.out (fun h => by have := LTm _ h; omega))
    replace bx2 := Xbn bx2 m10; replace bx2 := hide (m11.box bx2.out (fun h => by have := LTm _ h; omega))
    clear cw
    replace bx3 := hide (m11.box bx3.out (fun h => by have := LTm _ h; omega))
    have NX : Nw V10.heap.size (.slice (some ⟨gr, fr, none⟩) p.nw wc) (.slice ga p.ng gc) (.slice da p.nd dc) (.slice ua p.nu uc) (.slice (some ⟨gr, fr, none⟩) p.nw wc) (.slice ga p.ng gc) (.slice (some ⟨gx0, ox0, none⟩) (p.nd + 1) kx0) (.slice ua p.nu uc) := nw_dn (fun g e => (rb_blk e : gx0 = g) ▸ hbl)
    have LN := hide ((LO.out.put_dn hgr (snd_first hrg (by simp [fdT])) (fun g e => (rb_blk e : gx0 = g) ▸ hbl) : Lr V11 base (.slice (some ⟨gr, fr, none⟩) p.nw wc) (.slice ga p.ng gc) (.slice (some ⟨gx0, ox0, none⟩) (p.nd + 1) kx0) (.slice ua p.nu uc) (sndK p 1)))
    have AF : Hid (∀ g, Lrb (.slice (some ⟨gr, fr, none⟩) p.nw wc) (.slice ga p.ng gc) (.slice (some ⟨gx0, ox0, none⟩) (p.nd + 1) kx0) (.slice ua p.nu uc) g → g ≠ b0 ∧ g ≠ b1 ∧ g ≠ b2 ∧ g ≠ b3) := hide (fun g h => (NX g h).elim (fun h2 => by have := LT.out g h2; omega) (fun h2 => by omega))
    have AN : Hid (Nw w.heap.size (.slice (some ⟨gr, fr, none⟩) p.nw wc) (.slice ga p.ng gc) (.slice da p.nd dc) (.slice ua p.nu uc) (.slice (some ⟨gr, fr, none⟩) p.nw wc) (.slice ga p.ng gc) (.slice (some ⟨gx0, ox0, none⟩) (p.nd + 1) kx0) (.slice ua p.nu uc)) := hide (fun g h => (NX g h).elim (fun h2 => .inl h2) (fun h2 => .inr (by omega)))
    clear NX szT szW; clear hrun hgr hrg hold hbl LTm LTr; clear LO
    refine tk0 16 (.pointer (some ⟨b0, 4, none⟩)) rfl ?_
    refine kd_skipI (i := 17) (w' := V11.setCell ⟨b0, 4, none⟩ (.slice (some ⟨gx0, ox0, none⟩) (p.nd + 1) kx0)) (fun V => Mv (fun g => g = b0) V11 V ∧ V.heap[b0]? = some (.cells #[.int .i64 p.base, .slice (some ⟨gr, fr, none⟩) p.nw wc, .int .i64 p.want, .slice ga p.ng gc, .slice (some ⟨gx0, ox0, none⟩) (p.nd + 1) kx0, .slice ua p.nu uc] 30 (0, 0))) (by kernel_rfl) rfl (by rfl) (by have fr := fun i => frozen_of_row _ _ i _ _ bx0.out; have z0 := cell_box 4 bx0.out rfl; go_simp) ⟨Mv.set (Mv.refl _ _) _ _, (heap_setCell_same _ _ 4 _ _ _ (bx0.out)).trans rfl⟩ (fun _ _ h => absurd rfl h) ?_
    rintro V12 ⟨m12, nxV12⟩
    refine ptk ?_
    replace LN := hide (LN.out.mv m12 (fun g hg h => by have h : g = b0 := h; have := AF.out g hg; omega))
    replace bx0 := hide nxV12
    clear nxV12
    refine wpAnyK_done (by kernel_rfl) ?_
    clear hS rbx0 rbx1 rbx2
    refine inb_norm (then_normal (hK _ _ ?_)); clear hK K; refine rl ?_
    clear hna
    refine sv (.int .i64 0) ?_
    refine sg (.int .i64 1) (h := by have hw1 : IntKind.i64.wrap 1 = 1 := i64wrap (by omega); go_simp) ?_
    refine sv (.int .i64 1) ?_
    refine nt ?_; refine rounds_step ?_; refine sk fun K hK => sk fun K hK => rl ?_
    refine sv (.int .i64 1) ?_
    refine sv (.pointer (some ⟨b0, 1, none⟩)) ?_
    refine sl 1 bx0 ?_
    refine sg (.int .i64 (p.nw : Int)) ?_
    refine sg (.int .i64 1) (h := by have hmn : min (3 : Int) (p.nw : Int) = 1 := (by omega); have hm2 : min 3 p.nw = 1 := (by omega); go_simp) ?_
    refine sg (.bool false) ?_
    refine nt (hK _ _ ?_); clear hK K; refine cf ?_; refine wp_exit ?_; refine then_exit ?_; refine then_exit ?_; refine inb_here rfl ?_; refine then_normal ?_; clear hK K; refine hK _ _ ?_; clear hK K; refine sk fun K hK => rl ?_
    refine sl6 bx0 ?_
    replace bx2 := Xbb bx2 m12; refine ss6 (.int .i64 p.base) (.slice (some ⟨gr, fr, none⟩) p.nw wc) (.int .i64 p.want) (.slice ga p.ng gc) (.slice (some ⟨gx0, ox0, none⟩) (p.nd + 1) kx0) (.slice ua p.nu uc) bx2 fun V13 m13 bx2 => ?_
    replace LN := hide (LN.out.mv m13 (fun g hg h => by have h : g = b2 := h; have := AF.out g hg; omega))
    refine sv (.int .i64 0) ?_
    refine nt (hK _ _ ?_); clear hK K; refine wp_ret ?_; refine inb_ret ?_; refine then_ret ?_
    try simp only [Exit.then, Exit.inBlock, ↓reduceIte, Nat.reduceEqDiff]
    obtain ⟨_, q2_0, q2_1, q2_2, q2_3, q2_4, q2_5⟩ := box6 bx2.out
    replace HB := Xhb (Xhb HB m12) m13; exact bodyPost_ret (v := .tuple #[.agg #[.int .i64 p.base, .slice (some ⟨gr, fr, none⟩) p.nw wc, .int .i64 p.want, .slice ga p.ng gc, .slice (some ⟨gx0, ox0, none⟩) (p.nd + 1) kx0, .slice ua p.nu uc], .int .i64 0]) (by simp [results, Try.results57, go_sem, q2_0, q2_1, q2_2, q2_3, q2_4, q2_5]) rfl (sap_ok (q := sndK p 1) ⟨_, _, _, _, rfl, HB.out, LN.out, AN.out⟩ (by simp [saC, laB, hz, hb, h0, actC]) (by rw [show actL p 2 z bit body = sndL p from by simp [actL]]; exact sndK_eq p 1 (by omega)))
  by_cases hw2 : p.nw = 2
  · refine sv (.int .i64 0) ?_
    refine sv (.pointer (some ⟨b0, 1, none⟩)) ?_
    replace bx0 := Xbn (Xbn bx0 m2) m3; refine sl 1 bx0 ?_
    refine sg (.int .i64 (p.nw : Int)) ?_
    refine sg (.int .i64 2) (h := by have hmn : min (3 : Int) (p.nw : Int) = 2 := (by omega); have hm2 : min 3 p.nw = 2 := (by omega); go_simp) ?_
    refine sg (.bool true) ?_
    refine nt (hK _ _ ?_); clear hK K; refine ct (wp_skip (then_normal (hK _ _ ?_))); clear hK K; refine sk fun K hK => wp_block ?_
    have cw : Hid (V3.cell? ⟨gr, fr, none⟩ = some (.string (p.ws 0))) := hide (LO.out.wa.txt (x := 0) (by omega))
    have hna : ¬ (rb (.slice da p.nd dc) = some gr) := (LO.out.aw gr (LO.out.wa.rbpos (by omega))).2.1
    have LTr : ∀ g, rb (.slice da p.nd dc) = some g → g < w.heap.size := fun g h => LT.out g (.inr (.inr (.inl h)))
    refine wp_region_but (z := 17) (S := fun w' => Mv (fun g => rb (.slice da p.nd dc) = some g) V3.drew w') (by kernel_rfl) (Mv.refl _ _) (fun hS => ?_)
    have m14 : Mv nob V3 V3.drew := Mv.drew _
    obtain ⟨V14, hV14⟩ : ∃ V, V3.drew = V := ⟨_, rfl⟩
    rw [hV14] at hS m14 ⊢
    clear hV14
    replace cw := hide (m14.cell cw.out (fun h => h))
    replace bx0 := Xbn bx0 m14; have rbx0 := bx0; replace bx1 := Xbn bx1 m14; have rbx1 := bx1; replace bx2 := Xbn bx2 m14; have rbx2 := bx2
    refine tk0 0 (.pointer (some ⟨b0, 4, none⟩)) rfl ?_
    refine tk 1 (.slice da p.nd dc) rfl (fun w' hSw => by (try dsimp only at hSw); have z0 := cell_box 4 (hSw.box rbx0.out (fun h => by have := LTr _ h; omega)) rfl; go_simp) ?_
    refine tk0 2 (.pointer (some ⟨b0, 0, none⟩)) rfl ?_
    refine tk 3 (.int .i64 p.base) rfl (fun w' hSw => by (try dsimp only at hSw); have z0 := cell_box 0 (hSw.box rbx0.out (fun h => by have := LTr _ h; omega)) rfl; go_simp) ?_
    refine tk0 4 (.int .i64 0) rfl ?_
    refine tk 5 (.int .i64 (p.base + 0)) rfl (fun w' hSw => by (try dsimp only at hSw); have hw0 : IntKind.i64.wrap p.base = p.base := i64wrap (by omega); have hw : IntKind.i64.wrap (p.base + 0) = p.base + 0 := i64wrap (by omega); go_simp) ?_
    refine tk0 6 (.pointer (some ⟨b0, 1, none⟩)) rfl ?_
    refine tk 7 (.slice (some ⟨gr, fr, none⟩) p.nw wc) rfl (fun w' hSw => by (try dsimp only at hSw); have z0 := cell_box 1 (hSw.box rbx0.out (fun h => by have := LTr _ h; omega)) rfl; go_simp) ?_
    refine tk0 8 (.int .i64 0) rfl ?_
    refine tk 9 (.pointer (some ⟨gr, fr, none⟩)) rfl (fun w' hSw => by (try dsimp only at hSw); have hn0 : ¬ ((p.nw : Int) ≤ 0) := (by omega); have hn9 : ¬ p.nw = 0 := (by omega); go_simp) ?_
    refine tk 10 (.string (p.ws 0)) rfl (fun w' hSw => by (try dsimp only at hSw); have hcw := hSw.cell cw.out hna; go_simp) ?_
    refine tk0 11 (.agg #[.int .i64 1, .int .i64 (p.base + 0), .string (p.ws 0)]) rfl ?_
    refine kd_call (i := 12) (by kernel_rfl) rfl (by rfl) (by first | rfl | (go_simp; done)) (l8Text_data (p.base + 0) (p.ws 0) V14 (by omega) (by omega) (hf.tw 0 (by omega))) ?_
    rintro e V15 ⟨rfl, hbV15⟩
    have m15 : Mv (nob) V14 V15 := Mv.of_below hbV15
    replace hS := hS.step m15 (fun _ _ h => h.elim)
    refine ⟨_, rfl, fun _ => hS, ?_⟩
    refine ptk ?_
    replace cw := hide (m15.cell cw.out (fun h => h))
    clear hbV15
    refine tk0 13 (.agg #[.string (Flit.txt 1 (p.base + 0) (p.ws 0)), .bool false]) rfl ?_
    refine kd_valI (i := 14) (v := .slice (some ⟨V15.heap.size, 0, none⟩) 1 1) (w' := V15.alloc (.cells #[.string (Flit.txt 1 (p.base + 0) (p.ws 0)), .bool false] 73)) (fun V => Mv nob V15 V ∧ V.heap[V15.heap.size]? = some (.cells #[.string (Flit.txt 1 (p.base + 0) (p.ws 0)), .bool false] 73 (0, 0))) (by kernel_rfl) rfl (by rfl) (by first | rfl | go_simp) ⟨Mv.alloc _ _, heap_alloc_new _ _⟩ (fun V hI _ => hS.step hI.1 (fun _ _ h => h.elim)) ?_
    rintro V16 ⟨m16, nxV16⟩
    refine ptk ?_
    obtain ⟨b3, hb3⟩ : ∃ b3, V15.heap.size = b3 := ⟨_, rfl⟩
    rw [hb3] at nxV16 ⊢
    replace bx2 := Xbn bx2 m15; have o2_3 := Xlo bx2 hb3
    have sV16 : b3 < V16.heap.size := lt_of_block nxV16
    clear hb3
    replace cw := hide (m16.cell cw.out (fun h => h))
    have bx3 := hide nxV16
    clear nxV16
    replace hS := hS.step m16 (fun _ _ h => h.elim)
    clear sV16
    have szT := lt_of_block bx3.out
    replace HB := Xhn (Xhn (Xhn (Xhn (Xhn (Xhn HB m1) m2) m3) m14) m15) m16; have szW := HB.out.size
    have LTm : ∀ g, rb (.slice da p.nd dc) = some g → g < w.heap.size := LTr
    replace LO := Xln (Xln (Xln LO m14) m15) m16; obtain ⟨gx0, ox0, kx0, V17, hrun, hgr, hrg, hbl, hold⟩ := add_wire V16 base (.slice da p.nd dc) p.nd p.dt p.dh (Flit.txt 1 (p.base + 0) (p.ws 0)) false 28 b3 0 1 (cell_box 0 bx3.out rfl) (cell_box 1 bx3.out rfl) LO.out.dn (by omega) (by omega)
    have m17 : Mv (fun g => rb (.slice da p.nd dc) = some g) V16 V17 := Mv.of_grown hgr
    replace hS := hS.step m17 (fun _ _ h => h)
    refine kd_valW (i := 15) (by kernel_rfl) rfl (by rfl) (run_append_op _ _ 28 (by rfl) (by rfl) (by rfl) hrun) (fun _ => hS) ?_
    refine ptk ?_
    replace HB := hide (HB.out.step m17 (fun g _ h => .inr (.inr (.inl h))))
    replace bx0 := Xbn (Xbn bx0 m15) m16; replace bx0 := hide (m17.box bx0.out (fun h => by have := LTm _ h; omega))
    replace bx1 := Xbn (Xbn bx1 m15) m16; replace bx1 := hide (m17.box bx1.out (fun h => by have := LTm _ h; omega))
    replace bx2 := Xbn bx2 m16; replace bx2 := hide (m17.box bx2.out (fun h => by have := LTm _ h; omega))
    clear cw
    replace bx3 := hide (m17.box bx3.out (fun h => by have := LTm _ h; omega))
    have NX : Nw V16.heap.size (.slice (some ⟨gr, fr, none⟩) p.nw wc) (.slice ga p.ng gc) (.slice da p.nd dc) (.slice ua p.nu uc) (.slice (some ⟨gr, fr, none⟩) p.nw wc) (.slice ga p.ng gc) (.slice (some ⟨gx0, ox0, none⟩) (p.nd + 1) kx0) (.slice ua p.nu uc) := nw_dn (fun g e => (rb_blk e : gx0 = g) ▸ hbl)
    have LN := hide ((LO.out.put_dn hgr (snd_first hrg (by simp [fdT])) (fun g e => (rb_blk e : gx0 = g) ▸ hbl) : Lr V17 base (.slice (some ⟨gr, fr, none⟩) p.nw wc) (.slice ga p.ng gc) (.slice (some ⟨gx0, ox0, none⟩) (p.nd + 1) kx0) (.slice ua p.nu uc) (sndK p 1)))
    have AF : Hid (∀ g, Lrb (.slice (some ⟨gr, fr, none⟩) p.nw wc) (.slice ga p.ng gc) (.slice (some ⟨gx0, ox0, none⟩) (p.nd + 1) kx0) (.slice ua p.nu uc) g → g ≠ b0 ∧ g ≠ b1 ∧ g ≠ b2 ∧ g ≠ b3) := hide (fun g h => (NX g h).elim (fun h2 => by have := LT.out g h2; omega) (fun h2 => by omega))
    have AN : Hid (Nw w.heap.size (.slice (some ⟨gr, fr, none⟩) p.nw wc) (.slice ga p.ng gc) (.slice da p.nd dc) (.slice ua p.nu uc) (.slice (some ⟨gr, fr, none⟩) p.nw wc) (.slice ga p.ng gc) (.slice (some ⟨gx0, ox0, none⟩) (p.nd + 1) kx0) (.slice ua p.nu uc)) := hide (fun g h => (NX g h).elim (fun h2 => .inl h2) (fun h2 => .inr (by omega)))
    clear NX szT szW; clear hrun hgr hrg hold hbl LTm LTr; clear LO
    refine tk0 16 (.pointer (some ⟨b0, 4, none⟩)) rfl ?_
    refine kd_skipI (i := 17) (w' := V17.setCell ⟨b0, 4, none⟩ (.slice (some ⟨gx0, ox0, none⟩) (p.nd + 1) kx0)) (fun V => Mv (fun g => g = b0) V17 V ∧ V.heap[b0]? = some (.cells #[.int .i64 p.base, .slice (some ⟨gr, fr, none⟩) p.nw wc, .int .i64 p.want, .slice ga p.ng gc, .slice (some ⟨gx0, ox0, none⟩) (p.nd + 1) kx0, .slice ua p.nu uc] 30 (0, 0))) (by kernel_rfl) rfl (by rfl) (by have fr := fun i => frozen_of_row _ _ i _ _ bx0.out; have z0 := cell_box 4 bx0.out rfl; go_simp) ⟨Mv.set (Mv.refl _ _) _ _, (heap_setCell_same _ _ 4 _ _ _ (bx0.out)).trans rfl⟩ (fun _ _ h => absurd rfl h) ?_
    rintro V18 ⟨m18, nxV18⟩
    refine ptk ?_
    replace LN := hide (LN.out.mv m18 (fun g hg h => by have h : g = b0 := h; have := AF.out g hg; omega))
    replace bx0 := hide nxV18
    clear nxV18
    refine wpAnyK_done (by kernel_rfl) ?_
    clear hS rbx0 rbx1 rbx2
    refine inb_norm (then_normal (hK _ _ ?_)); clear hK K; refine rl ?_
    clear hna
    refine sv (.int .i64 0) ?_
    refine sg (.int .i64 1) (h := by have hw1 : IntKind.i64.wrap 1 = 1 := i64wrap (by omega); go_simp) ?_
    refine sv (.int .i64 1) ?_
    refine nt ?_; refine rounds_step ?_; refine sk fun K hK => sk fun K hK => rl ?_
    refine sv (.int .i64 1) ?_
    refine sv (.pointer (some ⟨b0, 1, none⟩)) ?_
    refine sl 1 bx0 ?_
    refine sg (.int .i64 (p.nw : Int)) ?_
    refine sg (.int .i64 2) (h := by have hmn : min (3 : Int) (p.nw : Int) = 2 := (by omega); have hm2 : min 3 p.nw = 2 := (by omega); go_simp) ?_
    refine sg (.bool true) ?_
    refine nt (hK _ _ ?_); clear hK K; refine ct (wp_skip (then_normal (hK _ _ ?_))); clear hK K; refine sk fun K hK => wp_block ?_
    have cw : Hid (V18.cell? ⟨gr, fr + 1, none⟩ = some (.string (p.ws 1))) := hide (LN.out.wa.txt (by omega))
    have hna : ¬ (rb (.slice (some ⟨gx0, ox0, none⟩) (p.nd + 1) kx0) = some gr) := (LN.out.aw gr (LN.out.wa.rbpos (by omega))).2.1
    have LTr : ∀ g, rb (.slice (some ⟨gx0, ox0, none⟩) (p.nd + 1) kx0) = some g → g ≠ b0 ∧ g ≠ b1 ∧ g ≠ b2 ∧ g ≠ b3 := fun g h => AF.out g (.inr (.inr (.inl h)))
    refine wp_region_but (z := 17) (S := fun w' => Mv (fun g => rb (.slice (some ⟨gx0, ox0, none⟩) (p.nd + 1) kx0) = some g) V18.drew w') (by kernel_rfl) (Mv.refl _ _) (fun hS => ?_)
    have m19 : Mv nob V18 V18.drew := Mv.drew _
    obtain ⟨V19, hV19⟩ : ∃ V, V18.drew = V := ⟨_, rfl⟩
    rw [hV19] at hS m19 ⊢
    clear hV19
    replace cw := hide (m19.cell cw.out (fun h => h))
    replace bx0 := Xbn bx0 m19; have rbx0 := bx0; replace bx1 := Xbn (Xbb bx1 m18) m19; have rbx1 := bx1; replace bx2 := Xbn (Xbb bx2 m18) m19; have rbx2 := bx2; replace bx3 := Xbn (Xbb bx3 m18) m19; have rbx3 := bx3
    refine tk0 0 (.pointer (some ⟨b0, 4, none⟩)) rfl ?_
    refine tk 1 (.slice (some ⟨gx0, ox0, none⟩) (p.nd + 1) kx0) rfl (fun w' hSw => by (try dsimp only at hSw); have z0 := cell_box 4 (hSw.box rbx0.out (fun h => by have := LTr _ h; omega)) rfl; go_simp) ?_
    refine tk0 2 (.pointer (some ⟨b0, 0, none⟩)) rfl ?_
    refine tk 3 (.int .i64 p.base) rfl (fun w' hSw => by (try dsimp only at hSw); have z0 := cell_box 0 (hSw.box rbx0.out (fun h => by have := LTr _ h; omega)) rfl; go_simp) ?_
    refine tk0 4 (.int .i64 1) rfl ?_
    refine tk 5 (.int .i64 (p.base + 1)) rfl (fun w' hSw => by (try dsimp only at hSw); have hw0 : IntKind.i64.wrap p.base = p.base := i64wrap (by omega); have hw : IntKind.i64.wrap (p.base + 1) = p.base + 1 := i64wrap (by omega); go_simp) ?_
    refine tk0 6 (.pointer (some ⟨b0, 1, none⟩)) rfl ?_
    refine tk 7 (.slice (some ⟨gr, fr, none⟩) p.nw wc) rfl (fun w' hSw => by (try dsimp only at hSw); have z0 := cell_box 1 (hSw.box rbx0.out (fun h => by have := LTr _ h; omega)) rfl; go_simp) ?_
    refine tk0 8 (.int .i64 1) rfl ?_
    refine tk 9 (.pointer (some ⟨gr, fr + 1, none⟩)) rfl (fun w' hSw => by (try dsimp only at hSw); have hn0 : ¬ ((p.nw : Int) ≤ 1) := (by omega); have hn9 : ¬ p.nw = 0 := (by omega); go_simp) ?_
    refine tk 10 (.string (p.ws 1)) rfl (fun w' hSw => by (try dsimp only at hSw); have hcw := hSw.cell cw.out hna; go_simp) ?_
    refine tk0 11 (.agg #[.int .i64 1, .int .i64 (p.base + 1), .string (p.ws 1)]) rfl ?_
    refine kd_call (i := 12) (by kernel_rfl) rfl (by rfl) (by first | rfl | (go_simp; done)) (l8Text_data (p.base + 1) (p.ws 1) V19 (by omega) (by omega) (hf.tw 1 (by omega))) ?_
    rintro e V20 ⟨rfl, hbV20⟩
    have m20 : Mv (nob) V19 V20 := Mv.of_below hbV20
    replace hS := hS.step m20 (fun _ _ h => h.elim)
    refine ⟨_, rfl, fun _ => hS, ?_⟩
    refine ptk ?_
    replace cw := hide (m20.cell cw.out (fun h => h))
    clear hbV20
    refine tk0 13 (.agg #[.string (Flit.txt 1 (p.base + 1) (p.ws 1)), .bool false]) rfl ?_
    refine kd_valI (i := 14) (v := .slice (some ⟨V20.heap.size, 0, none⟩) 1 1) (w' := V20.alloc (.cells #[.string (Flit.txt 1 (p.base + 1) (p.ws 1)), .bool false] 73)) (fun V => Mv nob V20 V ∧ V.heap[V20.heap.size]? = some (.cells #[.string (Flit.txt 1 (p.base + 1) (p.ws 1)), .bool false] 73 (0, 0))) (by kernel_rfl) rfl (by rfl) (by first | rfl | go_simp) ⟨Mv.alloc _ _, heap_alloc_new _ _⟩ (fun V hI _ => hS.step hI.1 (fun _ _ h => h.elim)) ?_
    rintro V21 ⟨m21, nxV21⟩
    refine ptk ?_
    obtain ⟨b4, hb4⟩ : ∃ b4, V20.heap.size = b4 := ⟨_, rfl⟩
    rw [hb4] at nxV21 ⊢
    replace bx3 := Xbn bx3 m20; have o3_4 := Xlo bx3 hb4
    replace LN := Xln (Xln LN m19) m20; replace AF : Hid (∀ g, Lrb (.slice (some ⟨gr, fr, none⟩) p.nw wc) (.slice ga p.ng gc) (.slice (some ⟨gx0, ox0, none⟩) (p.nd + 1) kx0) (.slice ua p.nu uc) g → g ≠ b0 ∧ g ≠ b1 ∧ g ≠ b2 ∧ g ≠ b3 ∧ g ≠ b4) := hide (fun g h => by have h1 := AF.out g h; have h2 := (LN.out.lt g h).2; refine (?_ : _ ∧ _); exact (by omega))
    have sV21 : b4 < V21.heap.size := lt_of_block nxV21
    clear hb4
    replace cw := hide (m21.cell cw.out (fun h => h))
    have bx4 := hide nxV21
    clear nxV21
    replace hS := hS.step m21 (fun _ _ h => h.elim)
    clear sV21
    have szT := lt_of_block bx4.out
    replace HB := Xhn (Xhn (Xhn (Xhb HB m18) m19) m20) m21; have szW := HB.out.size
    have LTm : ∀ g, rb (.slice (some ⟨gx0, ox0, none⟩) (p.nd + 1) kx0) = some g → g ≠ b0 ∧ g ≠ b1 ∧ g ≠ b2 ∧ g ≠ b3 ∧ g ≠ b4 := fun g h => AF.out g (.inr (.inr (.inl h)))
    replace LN := Xln LN m21; obtain ⟨gx1, ox1, kx1, V22, hrun, hgr, hrg, hbl, hold⟩ := add_wire V21 base (.slice (some ⟨gx0, ox0, none⟩) (p.nd + 1) kx0) (p.nd + 1) (sndK p 1).dt (sndK p 1).dh (Flit.txt 1 (p.base + 1) (p.ws 1)) false 28 b4 0 1 (cell_box 0 bx4.out rfl) (cell_box 1 bx4.out rfl) LN.out.dn (by omega) (by omega)
    have m22 : Mv (fun g => rb (.slice (some ⟨gx0, ox0, none⟩) (p.nd + 1) kx0) = some g) V21 V22 := Mv.of_grown hgr
    replace hS := hS.step m22 (fun _ _ h => h)
    refine kd_valW (i := 15) (by kernel_rfl) rfl (by rfl) (run_append_op _ _ 28 (by rfl) (by rfl) (by rfl) hrun) (fun _ => hS) ?_
    refine ptk ?_
    replace HB := hide (HB.out.step m22 (fun g hlt h => (AN.out g (.inr (.inr (.inl h)))).elim (fun h => h) (fun h2 => absurd h2 (by omega))))
    replace bx0 := Xbn (Xbn bx0 m20) m21; replace bx0 := hide (m22.box bx0.out (fun h => by have := LTm _ h; omega))
    replace bx1 := Xbn (Xbn bx1 m20) m21; replace bx1 := hide (m22.box bx1.out (fun h => by have := LTm _ h; omega))
    replace bx2 := Xbn (Xbn bx2 m20) m21; replace bx2 := hide (m22.box bx2.out (fun h => by have := LTm _ h; omega))
    replace bx3 := Xbn bx3 m21; replace bx3 := hide (m22.box bx3.out (fun h => by have := LTm _ h; omega))
    clear cw
    replace bx4 := hide (m22.box bx4.out (fun h => by have := LTm _ h; omega))
    have NX : Nw V21.heap.size (.slice (some ⟨gr, fr, none⟩) p.nw wc) (.slice ga p.ng gc) (.slice (some ⟨gx0, ox0, none⟩) (p.nd + 1) kx0) (.slice ua p.nu uc) (.slice (some ⟨gr, fr, none⟩) p.nw wc) (.slice ga p.ng gc) (.slice (some ⟨gx1, ox1, none⟩) (p.nd + 1 + 1) kx1) (.slice ua p.nu uc) := nw_dn (fun g e => (rb_blk e : gx1 = g) ▸ hbl)
    replace LN := hide ((LN.out.put_dn hgr (snd_next 1 hrg (by simp [fdT])) (fun g e => (rb_blk e : gx1 = g) ▸ hbl) : Lr V22 base (.slice (some ⟨gr, fr, none⟩) p.nw wc) (.slice ga p.ng gc) (.slice (some ⟨gx1, ox1, none⟩) (p.nd + 1 + 1) kx1) (.slice ua p.nu uc) (sndK p 2)))
    replace AF : Hid (∀ g, Lrb (.slice (some ⟨gr, fr, none⟩) p.nw wc) (.slice ga p.ng gc) (.slice (some ⟨gx1, ox1, none⟩) (p.nd + 1 + 1) kx1) (.slice ua p.nu uc) g → g ≠ b0 ∧ g ≠ b1 ∧ g ≠ b2 ∧ g ≠ b3 ∧ g ≠ b4) := hide (fun g h => (NX g h).elim (fun h2 => AF.out g h2) (fun h2 => by omega))
    replace AN : Hid (Nw w.heap.size (.slice (some ⟨gr, fr, none⟩) p.nw wc) (.slice ga p.ng gc) (.slice da p.nd dc) (.slice ua p.nu uc) (.slice (some ⟨gr, fr, none⟩) p.nw wc) (.slice ga p.ng gc) (.slice (some ⟨gx1, ox1, none⟩) (p.nd + 1 + 1) kx1) (.slice ua p.nu uc)) := hide (fun g h => (NX g h).elim (fun h2 => AN.out g h2) (fun h2 => .inr (by omega)))
    clear NX szT szW; clear hrun hgr hrg hold hbl LTm LTr
    refine tk0 16 (.pointer (some ⟨b0, 4, none⟩)) rfl ?_
    refine kd_skipI (i := 17) (w' := V22.setCell ⟨b0, 4, none⟩ (.slice (some ⟨gx1, ox1, none⟩) (p.nd + 1 + 1) kx1)) (fun V => Mv (fun g => g = b0) V22 V ∧ V.heap[b0]? = some (.cells #[.int .i64 p.base, .slice (some ⟨gr, fr, none⟩) p.nw wc, .int .i64 p.want, .slice ga p.ng gc, .slice (some ⟨gx1, ox1, none⟩) (p.nd + 1 + 1) kx1, .slice ua p.nu uc] 30 (0, 0))) (by kernel_rfl) rfl (by rfl) (by have fr := fun i => frozen_of_row _ _ i _ _ bx0.out; have z0 := cell_box 4 bx0.out rfl; go_simp) ⟨Mv.set (Mv.refl _ _) _ _, (heap_setCell_same _ _ 4 _ _ _ (bx0.out)).trans rfl⟩ (fun _ _ h => absurd rfl h) ?_
    rintro V23 ⟨m23, nxV23⟩
    refine ptk ?_
    replace LN := hide (LN.out.mv m23 (fun g hg h => by have h : g = b0 := h; have := AF.out g hg; omega))
    replace bx0 := hide nxV23
    clear nxV23
    refine wpAnyK_done (by kernel_rfl) ?_
    clear hS rbx0 rbx1 rbx2 rbx3
    refine inb_norm (then_normal (hK _ _ ?_)); clear hK K; refine rl ?_
    clear hna
    refine sv (.int .i64 1) ?_
    refine sg (.int .i64 2) (h := by have hw1 : IntKind.i64.wrap 2 = 2 := i64wrap (by omega); go_simp) ?_
    refine sv (.int .i64 2) ?_
    refine nt ?_; refine rounds_step ?_; refine sk fun K hK => sk fun K hK => rl ?_
    refine sv (.int .i64 2) ?_
    refine sv (.pointer (some ⟨b0, 1, none⟩)) ?_
    refine sl 1 bx0 ?_
    refine sg (.int .i64 (p.nw : Int)) ?_
    refine sg (.int .i64 2) (h := by have hmn : min (3 : Int) (p.nw : Int) = 2 := (by omega); have hm2 : min 3 p.nw = 2 := (by omega); go_simp) ?_
    refine sg (.bool false) ?_
    refine nt (hK _ _ ?_); clear hK K; refine cf ?_; refine wp_exit ?_; refine then_exit ?_; refine then_exit ?_; refine inb_here rfl ?_; refine then_normal ?_; clear hK K; refine hK _ _ ?_; clear hK K; refine sk fun K hK => rl ?_
    refine sl6 bx0 ?_
    replace bx2 := Xbb bx2 m23; refine ss6 (.int .i64 p.base) (.slice (some ⟨gr, fr, none⟩) p.nw wc) (.int .i64 p.want) (.slice ga p.ng gc) (.slice (some ⟨gx1, ox1, none⟩) (p.nd + 1 + 1) kx1) (.slice ua p.nu uc) bx2 fun V24 m24 bx2 => ?_
    replace LN := hide (LN.out.mv m24 (fun g hg h => by have h : g = b2 := h; have := AF.out g hg; omega))
    refine sv (.int .i64 0) ?_
    refine nt (hK _ _ ?_); clear hK K; refine wp_ret ?_; refine inb_ret ?_; refine then_ret ?_
    try simp only [Exit.then, Exit.inBlock, ↓reduceIte, Nat.reduceEqDiff]
    obtain ⟨_, q2_0, q2_1, q2_2, q2_3, q2_4, q2_5⟩ := box6 bx2.out
    replace HB := Xhb (Xhb HB m23) m24; exact bodyPost_ret (v := .tuple #[.agg #[.int .i64 p.base, .slice (some ⟨gr, fr, none⟩) p.nw wc, .int .i64 p.want, .slice ga p.ng gc, .slice (some ⟨gx1, ox1, none⟩) (p.nd + 1 + 1) kx1, .slice ua p.nu uc], .int .i64 0]) (by simp [results, Try.results57, go_sem, q2_0, q2_1, q2_2, q2_3, q2_4, q2_5]) rfl (sap_ok (q := sndK p 2) ⟨_, _, _, _, rfl, HB.out, LN.out, AN.out⟩ (by simp [saC, laB, hz, hb, h0, actC]) (by rw [show actL p 2 z bit body = sndL p from by simp [actL]]; exact sndK_eq p 2 (by omega)))
  refine sv (.int .i64 0) ?_
  refine sv (.pointer (some ⟨b0, 1, none⟩)) ?_
  replace bx0 := Xbn (Xbn bx0 m2) m3; refine sl 1 bx0 ?_
  refine sg (.int .i64 (p.nw : Int)) ?_
  refine sg (.int .i64 3) (h := by have hmn : min (3 : Int) (p.nw : Int) = 3 := (by omega); have hm2 : min 3 p.nw = 3 := (by omega); have hm3 : ¬ ((p.nw : Int) < 3) := (by omega); go_simp) ?_
  refine sg (.bool true) ?_
  refine nt (hK _ _ ?_); clear hK K; refine ct (wp_skip (then_normal (hK _ _ ?_))); clear hK K; refine sk fun K hK => wp_block ?_
  have cw : Hid (V3.cell? ⟨gr, fr, none⟩ = some (.string (p.ws 0))) := hide (LO.out.wa.txt (x := 0) (by omega))
  have hna : ¬ (rb (.slice da p.nd dc) = some gr) := (LO.out.aw gr (LO.out.wa.rbpos (by omega))).2.1
  have LTr : ∀ g, rb (.slice da p.nd dc) = some g → g < w.heap.size := fun g h => LT.out g (.inr (.inr (.inl h)))
  refine wp_region_but (z := 17) (S := fun w' => Mv (fun g => rb (.slice da p.nd dc) = some g) V3.drew w') (by kernel_rfl) (Mv.refl _ _) (fun hS => ?_)
  have m25 : Mv nob V3 V3.drew := Mv.drew _
  obtain ⟨V25, hV25⟩ : ∃ V, V3.drew = V := ⟨_, rfl⟩
  rw [hV25] at hS m25 ⊢
  clear hV25
  replace cw := hide (m25.cell cw.out (fun h => h))
  replace bx0 := Xbn bx0 m25; have rbx0 := bx0; replace bx1 := Xbn bx1 m25; have rbx1 := bx1; replace bx2 := Xbn bx2 m25; have rbx2 := bx2
  refine tk0 0 (.pointer (some ⟨b0, 4, none⟩)) rfl ?_
  refine tk 1 (.slice da p.nd dc) rfl (fun w' hSw => by (try dsimp only at hSw); have z0 := cell_box 4 (hSw.box rbx0.out (fun h => by have := LTr _ h; omega)) rfl; go_simp) ?_
  refine tk0 2 (.pointer (some ⟨b0, 0, none⟩)) rfl ?_
  refine tk 3 (.int .i64 p.base) rfl (fun w' hSw => by (try dsimp only at hSw); have z0 := cell_box 0 (hSw.box rbx0.out (fun h => by have := LTr _ h; omega)) rfl; go_simp) ?_
  refine tk0 4 (.int .i64 0) rfl ?_
  refine tk 5 (.int .i64 (p.base + 0)) rfl (fun w' hSw => by (try dsimp only at hSw); have hw0 : IntKind.i64.wrap p.base = p.base := i64wrap (by omega); have hw : IntKind.i64.wrap (p.base + 0) = p.base + 0 := i64wrap (by omega); go_simp) ?_
  refine tk0 6 (.pointer (some ⟨b0, 1, none⟩)) rfl ?_
  refine tk 7 (.slice (some ⟨gr, fr, none⟩) p.nw wc) rfl (fun w' hSw => by (try dsimp only at hSw); have z0 := cell_box 1 (hSw.box rbx0.out (fun h => by have := LTr _ h; omega)) rfl; go_simp) ?_
  refine tk0 8 (.int .i64 0) rfl ?_
  refine tk 9 (.pointer (some ⟨gr, fr, none⟩)) rfl (fun w' hSw => by (try dsimp only at hSw); have hn0 : ¬ ((p.nw : Int) ≤ 0) := (by omega); have hn9 : ¬ p.nw = 0 := (by omega); go_simp) ?_
  refine tk 10 (.string (p.ws 0)) rfl (fun w' hSw => by (try dsimp only at hSw); have hcw := hSw.cell cw.out hna; go_simp) ?_
  refine tk0 11 (.agg #[.int .i64 1, .int .i64 (p.base + 0), .string (p.ws 0)]) rfl ?_
  refine kd_call (i := 12) (by kernel_rfl) rfl (by rfl) (by first | rfl | (go_simp; done)) (l8Text_data (p.base + 0) (p.ws 0) V25 (by omega) (by omega) (hf.tw 0 (by omega))) ?_
  rintro e V26 ⟨rfl, hbV26⟩
  have m26 : Mv (nob) V25 V26 := Mv.of_below hbV26
  replace hS := hS.step m26 (fun _ _ h => h.elim)
  refine ⟨_, rfl, fun _ => hS, ?_⟩
  refine ptk ?_
  replace cw := hide (m26.cell cw.out (fun h => h))
  clear hbV26
  refine tk0 13 (.agg #[.string (Flit.txt 1 (p.base + 0) (p.ws 0)), .bool false]) rfl ?_
  refine kd_valI (i := 14) (v := .slice (some ⟨V26.heap.size, 0, none⟩) 1 1) (w' := V26.alloc (.cells #[.string (Flit.txt 1 (p.base + 0) (p.ws 0)), .bool false] 73)) (fun V => Mv nob V26 V ∧ V.heap[V26.heap.size]? = some (.cells #[.string (Flit.txt 1 (p.base + 0) (p.ws 0)), .bool false] 73 (0, 0))) (by kernel_rfl) rfl (by rfl) (by first | rfl | go_simp) ⟨Mv.alloc _ _, heap_alloc_new _ _⟩ (fun V hI _ => hS.step hI.1 (fun _ _ h => h.elim)) ?_
  rintro V27 ⟨m27, nxV27⟩
  refine ptk ?_
  obtain ⟨b3, hb3⟩ : ∃ b3, V26.heap.size = b3 := ⟨_, rfl⟩
  rw [hb3] at nxV27 ⊢
  replace bx2 := Xbn bx2 m26; have o2_3 := Xlo bx2 hb3
  have sV27 : b3 < V27.heap.size := lt_of_block nxV27
  clear hb3
  replace cw := hide (m27.cell cw.out (fun h => h))
  have bx3 := hide nxV27
  clear nxV27
  replace hS := hS.step m27 (fun _ _ h => h.elim)
  clear sV27
  have szT := lt_of_block bx3.out
  replace HB := Xhn (Xhn (Xhn (Xhn (Xhn (Xhn HB m1) m2) m3) m25) m26) m27; have szW := HB.out.size
  have LTm : ∀ g, rb (.slice da p.nd dc) = some g → g < w.heap.size := LTr
  replace LO := Xln (Xln (Xln LO m25) m26) m27; obtain ⟨gx0, ox0, kx0, V28, hrun, hgr, hrg, hbl, hold⟩ := add_wire V27 base (.slice da p.nd dc) p.nd p.dt p.dh (Flit.txt 1 (p.base + 0) (p.ws 0)) false 28 b3 0 1 (cell_box 0 bx3.out rfl) (cell_box 1 bx3.out rfl) LO.out.dn (by omega) (by omega)
  have m28 : Mv (fun g => rb (.slice da p.nd dc) = some g) V27 V28 := Mv.of_grown hgr
  replace hS := hS.step m28 (fun _ _ h => h)
  refine kd_valW (i := 15) (by kernel_rfl) rfl (by rfl) (run_append_op _ _ 28 (by rfl) (by rfl) (by rfl) hrun) (fun _ => hS) ?_
  refine ptk ?_
  replace HB := hide (HB.out.step m28 (fun g _ h => .inr (.inr (.inl h))))
  replace bx0 := Xbn (Xbn bx0 m26) m27; replace bx0 := hide (m28.box bx0.out (fun h => by have := LTm _ h; omega))
  replace bx1 := Xbn (Xbn bx1 m26) m27; replace bx1 := hide (m28.box bx1.out (fun h => by have := LTm _ h; omega))
  replace bx2 := Xbn bx2 m27; replace bx2 := hide (m28.box bx2.out (fun h => by have := LTm _ h; omega))
  clear cw
  replace bx3 := hide (m28.box bx3.out (fun h => by have := LTm _ h; omega))
  have NX : Nw V27.heap.size (.slice (some ⟨gr, fr, none⟩) p.nw wc) (.slice ga p.ng gc) (.slice da p.nd dc) (.slice ua p.nu uc) (.slice (some ⟨gr, fr, none⟩) p.nw wc) (.slice ga p.ng gc) (.slice (some ⟨gx0, ox0, none⟩) (p.nd + 1) kx0) (.slice ua p.nu uc) := nw_dn (fun g e => (rb_blk e : gx0 = g) ▸ hbl)
  have LN := hide ((LO.out.put_dn hgr (snd_first hrg (by simp [fdT])) (fun g e => (rb_blk e : gx0 = g) ▸ hbl) : Lr V28 base (.slice (some ⟨gr, fr, none⟩) p.nw wc) (.slice ga p.ng gc) (.slice (some ⟨gx0, ox0, none⟩) (p.nd + 1) kx0) (.slice ua p.nu uc) (sndK p 1)))
  have AF : Hid (∀ g, Lrb (.slice (some ⟨gr, fr, none⟩) p.nw wc) (.slice ga p.ng gc) (.slice (some ⟨gx0, ox0, none⟩) (p.nd + 1) kx0) (.slice ua p.nu uc) g → g ≠ b0 ∧ g ≠ b1 ∧ g ≠ b2 ∧ g ≠ b3) := hide (fun g h => (NX g h).elim (fun h2 => by have := LT.out g h2; omega) (fun h2 => by omega))
  have AN : Hid (Nw w.heap.size (.slice (some ⟨gr, fr, none⟩) p.nw wc) (.slice ga p.ng gc) (.slice da p.nd dc) (.slice ua p.nu uc) (.slice (some ⟨gr, fr, none⟩) p.nw wc) (.slice ga p.ng gc) (.slice (some ⟨gx0, ox0, none⟩) (p.nd + 1) kx0) (.slice ua p.nu uc)) := hide (fun g h => (NX g h).elim (fun h2 => .inl h2) (fun h2 => .inr (by omega)))
  clear NX szT szW; clear hrun hgr hrg hold hbl LTm LTr; clear LO
  refine tk0 16 (.pointer (some ⟨b0, 4, none⟩)) rfl ?_
  refine kd_skipI (i := 17) (w' := V28.setCell ⟨b0, 4, none⟩ (.slice (some ⟨gx0, ox0, none⟩) (p.nd + 1) kx0)) (fun V => Mv (fun g => g = b0) V28 V ∧ V.heap[b0]? = some (.cells #[.int .i64 p.base, .slice (some ⟨gr, fr, none⟩) p.nw wc, .int .i64 p.want, .slice ga p.ng gc, .slice (some ⟨gx0, ox0, none⟩) (p.nd + 1) kx0, .slice ua p.nu uc] 30 (0, 0))) (by kernel_rfl) rfl (by rfl) (by have fr := fun i => frozen_of_row _ _ i _ _ bx0.out; have z0 := cell_box 4 bx0.out rfl; go_simp) ⟨Mv.set (Mv.refl _ _) _ _, (heap_setCell_same _ _ 4 _ _ _ (bx0.out)).trans rfl⟩ (fun _ _ h => absurd rfl h) ?_
  rintro V29 ⟨m29, nxV29⟩
  refine ptk ?_
  replace LN := hide (LN.out.mv m29 (fun g hg h => by have h : g = b0 := h; have := AF.out g hg; omega))
  replace bx0 := hide nxV29
  clear nxV29
  refine wpAnyK_done (by kernel_rfl) ?_
  clear hS rbx0 rbx1 rbx2
  refine inb_norm (then_normal (hK _ _ ?_)); clear hK K; refine rl ?_
  clear hna
  refine sv (.int .i64 0) ?_
  refine sg (.int .i64 1) (h := by have hw1 : IntKind.i64.wrap 1 = 1 := i64wrap (by omega); go_simp) ?_
  refine sv (.int .i64 1) ?_
  refine nt ?_; refine rounds_step ?_; refine sk fun K hK => sk fun K hK => rl ?_
  refine sv (.int .i64 1) ?_
  refine sv (.pointer (some ⟨b0, 1, none⟩)) ?_
  refine sl 1 bx0 ?_
  refine sg (.int .i64 (p.nw : Int)) ?_
  refine sg (.int .i64 3) (h := by have hmn : min (3 : Int) (p.nw : Int) = 3 := (by omega); have hm2 : min 3 p.nw = 3 := (by omega); have hm3 : ¬ ((p.nw : Int) < 3) := (by omega); go_simp) ?_
  refine sg (.bool true) ?_
  refine nt (hK _ _ ?_); clear hK K; refine ct (wp_skip (then_normal (hK _ _ ?_))); clear hK K; refine sk fun K hK => wp_block ?_
  have cw : Hid (V29.cell? ⟨gr, fr + 1, none⟩ = some (.string (p.ws 1))) := hide (LN.out.wa.txt (by omega))
  have hna : ¬ (rb (.slice (some ⟨gx0, ox0, none⟩) (p.nd + 1) kx0) = some gr) := (LN.out.aw gr (LN.out.wa.rbpos (by omega))).2.1
  have LTr : ∀ g, rb (.slice (some ⟨gx0, ox0, none⟩) (p.nd + 1) kx0) = some g → g ≠ b0 ∧ g ≠ b1 ∧ g ≠ b2 ∧ g ≠ b3 := fun g h => AF.out g (.inr (.inr (.inl h)))
  refine wp_region_but (z := 17) (S := fun w' => Mv (fun g => rb (.slice (some ⟨gx0, ox0, none⟩) (p.nd + 1) kx0) = some g) V29.drew w') (by kernel_rfl) (Mv.refl _ _) (fun hS => ?_)
  have m30 : Mv nob V29 V29.drew := Mv.drew _
  obtain ⟨V30, hV30⟩ : ∃ V, V29.drew = V := ⟨_, rfl⟩
  rw [hV30] at hS m30 ⊢
  clear hV30
  replace cw := hide (m30.cell cw.out (fun h => h))
  replace bx0 := Xbn bx0 m30; have rbx0 := bx0; replace bx1 := Xbn (Xbb bx1 m29) m30; have rbx1 := bx1; replace bx2 := Xbn (Xbb bx2 m29) m30; have rbx2 := bx2; replace bx3 := Xbn (Xbb bx3 m29) m30; have rbx3 := bx3
  refine tk0 0 (.pointer (some ⟨b0, 4, none⟩)) rfl ?_
  refine tk 1 (.slice (some ⟨gx0, ox0, none⟩) (p.nd + 1) kx0) rfl (fun w' hSw => by (try dsimp only at hSw); have z0 := cell_box 4 (hSw.box rbx0.out (fun h => by have := LTr _ h; omega)) rfl; go_simp) ?_
  refine tk0 2 (.pointer (some ⟨b0, 0, none⟩)) rfl ?_
  refine tk 3 (.int .i64 p.base) rfl (fun w' hSw => by (try dsimp only at hSw); have z0 := cell_box 0 (hSw.box rbx0.out (fun h => by have := LTr _ h; omega)) rfl; go_simp) ?_
  refine tk0 4 (.int .i64 1) rfl ?_
  refine tk 5 (.int .i64 (p.base + 1)) rfl (fun w' hSw => by (try dsimp only at hSw); have hw0 : IntKind.i64.wrap p.base = p.base := i64wrap (by omega); have hw : IntKind.i64.wrap (p.base + 1) = p.base + 1 := i64wrap (by omega); go_simp) ?_
  refine tk0 6 (.pointer (some ⟨b0, 1, none⟩)) rfl ?_
  refine tk 7 (.slice (some ⟨gr, fr, none⟩) p.nw wc) rfl (fun w' hSw => by (try dsimp only at hSw); have z0 := cell_box 1 (hSw.box rbx0.out (fun h => by have := LTr _ h; omega)) rfl; go_simp) ?_
  refine tk0 8 (.int .i64 1) rfl ?_
  refine tk 9 (.pointer (some ⟨gr, fr + 1, none⟩)) rfl (fun w' hSw => by (try dsimp only at hSw); have hn0 : ¬ ((p.nw : Int) ≤ 1) := (by omega); have hn9 : ¬ p.nw = 0 := (by omega); go_simp) ?_
  refine tk 10 (.string (p.ws 1)) rfl (fun w' hSw => by (try dsimp only at hSw); have hcw := hSw.cell cw.out hna; go_simp) ?_
  refine tk0 11 (.agg #[.int .i64 1, .int .i64 (p.base + 1), .string (p.ws 1)]) rfl ?_
  refine kd_call (i := 12) (by kernel_rfl) rfl (by rfl) (by first | rfl | (go_simp; done)) (l8Text_data (p.base + 1) (p.ws 1) V30 (by omega) (by omega) (hf.tw 1 (by omega))) ?_
  rintro e V31 ⟨rfl, hbV31⟩
  have m31 : Mv (nob) V30 V31 := Mv.of_below hbV31
  replace hS := hS.step m31 (fun _ _ h => h.elim)
  refine ⟨_, rfl, fun _ => hS, ?_⟩
  refine ptk ?_
  replace cw := hide (m31.cell cw.out (fun h => h))
  clear hbV31
  refine tk0 13 (.agg #[.string (Flit.txt 1 (p.base + 1) (p.ws 1)), .bool false]) rfl ?_
  refine kd_valI (i := 14) (v := .slice (some ⟨V31.heap.size, 0, none⟩) 1 1) (w' := V31.alloc (.cells #[.string (Flit.txt 1 (p.base + 1) (p.ws 1)), .bool false] 73)) (fun V => Mv nob V31 V ∧ V.heap[V31.heap.size]? = some (.cells #[.string (Flit.txt 1 (p.base + 1) (p.ws 1)), .bool false] 73 (0, 0))) (by kernel_rfl) rfl (by rfl) (by first | rfl | go_simp) ⟨Mv.alloc _ _, heap_alloc_new _ _⟩ (fun V hI _ => hS.step hI.1 (fun _ _ h => h.elim)) ?_
  rintro V32 ⟨m32, nxV32⟩
  refine ptk ?_
  obtain ⟨b4, hb4⟩ : ∃ b4, V31.heap.size = b4 := ⟨_, rfl⟩
  rw [hb4] at nxV32 ⊢
  replace bx3 := Xbn bx3 m31; have o3_4 := Xlo bx3 hb4
  replace LN := Xln (Xln LN m30) m31; replace AF : Hid (∀ g, Lrb (.slice (some ⟨gr, fr, none⟩) p.nw wc) (.slice ga p.ng gc) (.slice (some ⟨gx0, ox0, none⟩) (p.nd + 1) kx0) (.slice ua p.nu uc) g → g ≠ b0 ∧ g ≠ b1 ∧ g ≠ b2 ∧ g ≠ b3 ∧ g ≠ b4) := hide (fun g h => by have h1 := AF.out g h; have h2 := (LN.out.lt g h).2; refine (?_ : _ ∧ _); exact (by omega))
  have sV32 : b4 < V32.heap.size := lt_of_block nxV32
  clear hb4
  replace cw := hide (m32.cell cw.out (fun h => h))
  have bx4 := hide nxV32
  clear nxV32
  replace hS := hS.step m32 (fun _ _ h => h.elim)
  clear sV32
  have szT := lt_of_block bx4.out
  replace HB := Xhn (Xhn (Xhn (Xhb HB m29) m30) m31) m32; have szW := HB.out.size
  have LTm : ∀ g, rb (.slice (some ⟨gx0, ox0, none⟩) (p.nd + 1) kx0) = some g → g ≠ b0 ∧ g ≠ b1 ∧ g ≠ b2 ∧ g ≠ b3 ∧ g ≠ b4 := fun g h => AF.out g (.inr (.inr (.inl h)))
  replace LN := Xln LN m32; obtain ⟨gx1, ox1, kx1, V33, hrun, hgr, hrg, hbl, hold⟩ := add_wire V32 base (.slice (some ⟨gx0, ox0, none⟩) (p.nd + 1) kx0) (p.nd + 1) (sndK p 1).dt (sndK p 1).dh (Flit.txt 1 (p.base + 1) (p.ws 1)) false 28 b4 0 1 (cell_box 0 bx4.out rfl) (cell_box 1 bx4.out rfl) LN.out.dn (by omega) (by omega)
  have m33 : Mv (fun g => rb (.slice (some ⟨gx0, ox0, none⟩) (p.nd + 1) kx0) = some g) V32 V33 := Mv.of_grown hgr
  replace hS := hS.step m33 (fun _ _ h => h)
  refine kd_valW (i := 15) (by kernel_rfl) rfl (by rfl) (run_append_op _ _ 28 (by rfl) (by rfl) (by rfl) hrun) (fun _ => hS) ?_
  refine ptk ?_
  replace HB := hide (HB.out.step m33 (fun g hlt h => (AN.out g (.inr (.inr (.inl h)))).elim (fun h => h) (fun h2 => absurd h2 (by omega))))
  replace bx0 := Xbn (Xbn bx0 m31) m32; replace bx0 := hide (m33.box bx0.out (fun h => by have := LTm _ h; omega))
  replace bx1 := Xbn (Xbn bx1 m31) m32; replace bx1 := hide (m33.box bx1.out (fun h => by have := LTm _ h; omega))
  replace bx2 := Xbn (Xbn bx2 m31) m32; replace bx2 := hide (m33.box bx2.out (fun h => by have := LTm _ h; omega))
  replace bx3 := Xbn bx3 m32; replace bx3 := hide (m33.box bx3.out (fun h => by have := LTm _ h; omega))
  clear cw
  replace bx4 := hide (m33.box bx4.out (fun h => by have := LTm _ h; omega))
  have NX : Nw V32.heap.size (.slice (some ⟨gr, fr, none⟩) p.nw wc) (.slice ga p.ng gc) (.slice (some ⟨gx0, ox0, none⟩) (p.nd + 1) kx0) (.slice ua p.nu uc) (.slice (some ⟨gr, fr, none⟩) p.nw wc) (.slice ga p.ng gc) (.slice (some ⟨gx1, ox1, none⟩) (p.nd + 1 + 1) kx1) (.slice ua p.nu uc) := nw_dn (fun g e => (rb_blk e : gx1 = g) ▸ hbl)
  replace LN := hide ((LN.out.put_dn hgr (snd_next 1 hrg (by simp [fdT])) (fun g e => (rb_blk e : gx1 = g) ▸ hbl) : Lr V33 base (.slice (some ⟨gr, fr, none⟩) p.nw wc) (.slice ga p.ng gc) (.slice (some ⟨gx1, ox1, none⟩) (p.nd + 1 + 1) kx1) (.slice ua p.nu uc) (sndK p 2)))
  replace AF : Hid (∀ g, Lrb (.slice (some ⟨gr, fr, none⟩) p.nw wc) (.slice ga p.ng gc) (.slice (some ⟨gx1, ox1, none⟩) (p.nd + 1 + 1) kx1) (.slice ua p.nu uc) g → g ≠ b0 ∧ g ≠ b1 ∧ g ≠ b2 ∧ g ≠ b3 ∧ g ≠ b4) := hide (fun g h => (NX g h).elim (fun h2 => AF.out g h2) (fun h2 => by omega))
  replace AN : Hid (Nw w.heap.size (.slice (some ⟨gr, fr, none⟩) p.nw wc) (.slice ga p.ng gc) (.slice da p.nd dc) (.slice ua p.nu uc) (.slice (some ⟨gr, fr, none⟩) p.nw wc) (.slice ga p.ng gc) (.slice (some ⟨gx1, ox1, none⟩) (p.nd + 1 + 1) kx1) (.slice ua p.nu uc)) := hide (fun g h => (NX g h).elim (fun h2 => AN.out g h2) (fun h2 => .inr (by omega)))
  clear NX szT szW; clear hrun hgr hrg hold hbl LTm LTr
  refine tk0 16 (.pointer (some ⟨b0, 4, none⟩)) rfl ?_
  refine kd_skipI (i := 17) (w' := V33.setCell ⟨b0, 4, none⟩ (.slice (some ⟨gx1, ox1, none⟩) (p.nd + 1 + 1) kx1)) (fun V => Mv (fun g => g = b0) V33 V ∧ V.heap[b0]? = some (.cells #[.int .i64 p.base, .slice (some ⟨gr, fr, none⟩) p.nw wc, .int .i64 p.want, .slice ga p.ng gc, .slice (some ⟨gx1, ox1, none⟩) (p.nd + 1 + 1) kx1, .slice ua p.nu uc] 30 (0, 0))) (by kernel_rfl) rfl (by rfl) (by have fr := fun i => frozen_of_row _ _ i _ _ bx0.out; have z0 := cell_box 4 bx0.out rfl; go_simp) ⟨Mv.set (Mv.refl _ _) _ _, (heap_setCell_same _ _ 4 _ _ _ (bx0.out)).trans rfl⟩ (fun _ _ h => absurd rfl h) ?_
  rintro V34 ⟨m34, nxV34⟩
  refine ptk ?_
  replace LN := hide (LN.out.mv m34 (fun g hg h => by have h : g = b0 := h; have := AF.out g hg; omega))
  replace bx0 := hide nxV34
  clear nxV34
  refine wpAnyK_done (by kernel_rfl) ?_
  clear hS rbx0 rbx1 rbx2 rbx3
  refine inb_norm (then_normal (hK _ _ ?_)); clear hK K; refine rl ?_
  clear hna
  refine sv (.int .i64 1) ?_
  refine sg (.int .i64 2) (h := by have hw1 : IntKind.i64.wrap 2 = 2 := i64wrap (by omega); go_simp) ?_
  refine sv (.int .i64 2) ?_
  refine nt ?_; refine rounds_step ?_; refine sk fun K hK => sk fun K hK => rl ?_
  refine sv (.int .i64 2) ?_
  refine sv (.pointer (some ⟨b0, 1, none⟩)) ?_
  refine sl 1 bx0 ?_
  refine sg (.int .i64 (p.nw : Int)) ?_
  refine sg (.int .i64 3) (h := by have hmn : min (3 : Int) (p.nw : Int) = 3 := (by omega); have hm2 : min 3 p.nw = 3 := (by omega); have hm3 : ¬ ((p.nw : Int) < 3) := (by omega); go_simp) ?_
  refine sg (.bool true) ?_
  refine nt (hK _ _ ?_); clear hK K; refine ct (wp_skip (then_normal (hK _ _ ?_))); clear hK K; refine sk fun K hK => wp_block ?_
  have cw : Hid (V34.cell? ⟨gr, fr + 2, none⟩ = some (.string (p.ws 2))) := hide (LN.out.wa.txt (by omega))
  have hna : ¬ (rb (.slice (some ⟨gx1, ox1, none⟩) (p.nd + 1 + 1) kx1) = some gr) := (LN.out.aw gr (LN.out.wa.rbpos (by omega))).2.1
  have LTr : ∀ g, rb (.slice (some ⟨gx1, ox1, none⟩) (p.nd + 1 + 1) kx1) = some g → g ≠ b0 ∧ g ≠ b1 ∧ g ≠ b2 ∧ g ≠ b3 ∧ g ≠ b4 := fun g h => AF.out g (.inr (.inr (.inl h)))
  refine wp_region_but (z := 17) (S := fun w' => Mv (fun g => rb (.slice (some ⟨gx1, ox1, none⟩) (p.nd + 1 + 1) kx1) = some g) V34.drew w') (by kernel_rfl) (Mv.refl _ _) (fun hS => ?_)
  have m35 : Mv nob V34 V34.drew := Mv.drew _
  obtain ⟨V35, hV35⟩ : ∃ V, V34.drew = V := ⟨_, rfl⟩
  rw [hV35] at hS m35 ⊢
  clear hV35
  replace cw := hide (m35.cell cw.out (fun h => h))
  replace bx0 := Xbn bx0 m35; have rbx0 := bx0; replace bx1 := Xbn (Xbb bx1 m34) m35; have rbx1 := bx1; replace bx2 := Xbn (Xbb bx2 m34) m35; have rbx2 := bx2; replace bx3 := Xbn (Xbb bx3 m34) m35; have rbx3 := bx3; replace bx4 := Xbn (Xbb bx4 m34) m35; have rbx4 := bx4
  refine tk0 0 (.pointer (some ⟨b0, 4, none⟩)) rfl ?_
  refine tk 1 (.slice (some ⟨gx1, ox1, none⟩) (p.nd + 1 + 1) kx1) rfl (fun w' hSw => by (try dsimp only at hSw); have z0 := cell_box 4 (hSw.box rbx0.out (fun h => by have := LTr _ h; omega)) rfl; go_simp) ?_
  refine tk0 2 (.pointer (some ⟨b0, 0, none⟩)) rfl ?_
  refine tk 3 (.int .i64 p.base) rfl (fun w' hSw => by (try dsimp only at hSw); have z0 := cell_box 0 (hSw.box rbx0.out (fun h => by have := LTr _ h; omega)) rfl; go_simp) ?_
  refine tk0 4 (.int .i64 2) rfl ?_
  refine tk 5 (.int .i64 (p.base + 2)) rfl (fun w' hSw => by (try dsimp only at hSw); have hw0 : IntKind.i64.wrap p.base = p.base := i64wrap (by omega); have hw : IntKind.i64.wrap (p.base + 2) = p.base + 2 := i64wrap (by omega); go_simp) ?_
  refine tk0 6 (.pointer (some ⟨b0, 1, none⟩)) rfl ?_
  refine tk 7 (.slice (some ⟨gr, fr, none⟩) p.nw wc) rfl (fun w' hSw => by (try dsimp only at hSw); have z0 := cell_box 1 (hSw.box rbx0.out (fun h => by have := LTr _ h; omega)) rfl; go_simp) ?_
  refine tk0 8 (.int .i64 2) rfl ?_
  refine tk 9 (.pointer (some ⟨gr, fr + 2, none⟩)) rfl (fun w' hSw => by (try dsimp only at hSw); have hn0 : ¬ ((p.nw : Int) ≤ 2) := (by omega); have hn9 : ¬ p.nw = 0 := (by omega); go_simp) ?_
  refine tk 10 (.string (p.ws 2)) rfl (fun w' hSw => by (try dsimp only at hSw); have hcw := hSw.cell cw.out hna; go_simp) ?_
  refine tk0 11 (.agg #[.int .i64 1, .int .i64 (p.base + 2), .string (p.ws 2)]) rfl ?_
  refine kd_call (i := 12) (by kernel_rfl) rfl (by rfl) (by first | rfl | (go_simp; done)) (l8Text_data (p.base + 2) (p.ws 2) V35 (by omega) (by omega) (hf.tw 2 (by omega))) ?_
  rintro e V36 ⟨rfl, hbV36⟩
  have m36 : Mv (nob) V35 V36 := Mv.of_below hbV36
  replace hS := hS.step m36 (fun _ _ h => h.elim)
  refine ⟨_, rfl, fun _ => hS, ?_⟩
  refine ptk ?_
  replace cw := hide (m36.cell cw.out (fun h => h))
  clear hbV36
  refine tk0 13 (.agg #[.string (Flit.txt 1 (p.base + 2) (p.ws 2)), .bool false]) rfl ?_
  refine kd_valI (i := 14) (v := .slice (some ⟨V36.heap.size, 0, none⟩) 1 1) (w' := V36.alloc (.cells #[.string (Flit.txt 1 (p.base + 2) (p.ws 2)), .bool false] 73)) (fun V => Mv nob V36 V ∧ V.heap[V36.heap.size]? = some (.cells #[.string (Flit.txt 1 (p.base + 2) (p.ws 2)), .bool false] 73 (0, 0))) (by kernel_rfl) rfl (by rfl) (by first | rfl | go_simp) ⟨Mv.alloc _ _, heap_alloc_new _ _⟩ (fun V hI _ => hS.step hI.1 (fun _ _ h => h.elim)) ?_
  rintro V37 ⟨m37, nxV37⟩
  refine ptk ?_
  obtain ⟨b5, hb5⟩ : ∃ b5, V36.heap.size = b5 := ⟨_, rfl⟩
  rw [hb5] at nxV37 ⊢
  replace bx4 := Xbn bx4 m36; have o4_5 := Xlo bx4 hb5
  replace LN := Xln (Xln LN m35) m36; replace AF : Hid (∀ g, Lrb (.slice (some ⟨gr, fr, none⟩) p.nw wc) (.slice ga p.ng gc) (.slice (some ⟨gx1, ox1, none⟩) (p.nd + 1 + 1) kx1) (.slice ua p.nu uc) g → g ≠ b0 ∧ g ≠ b1 ∧ g ≠ b2 ∧ g ≠ b3 ∧ g ≠ b4 ∧ g ≠ b5) := hide (fun g h => by have h1 := AF.out g h; have h2 := (LN.out.lt g h).2; refine (?_ : _ ∧ _); exact (by omega))
  have sV37 : b5 < V37.heap.size := lt_of_block nxV37
  clear hb5
  replace cw := hide (m37.cell cw.out (fun h => h))
  have bx5 := hide nxV37
  clear nxV37
  replace hS := hS.step m37 (fun _ _ h => h.elim)
  clear sV37
  have szT := lt_of_block bx5.out
  replace HB := Xhn (Xhn (Xhn (Xhb HB m34) m35) m36) m37; have szW := HB.out.size
  have LTm : ∀ g, rb (.slice (some ⟨gx1, ox1, none⟩) (p.nd + 1 + 1) kx1) = some g → g ≠ b0 ∧ g ≠ b1 ∧ g ≠ b2 ∧ g ≠ b3 ∧ g ≠ b4 ∧ g ≠ b5 := fun g h => AF.out g (.inr (.inr (.inl h)))
  replace LN := Xln LN m37; obtain ⟨gx2, ox2, kx2, V38, hrun, hgr, hrg, hbl, hold⟩ := add_wire V37 base (.slice (some ⟨gx1, ox1, none⟩) (p.nd + 1 + 1) kx1) (p.nd + 2) (sndK p 2).dt (sndK p 2).dh (Flit.txt 1 (p.base + 2) (p.ws 2)) false 28 b5 0 1 (cell_box 0 bx5.out rfl) (cell_box 1 bx5.out rfl) LN.out.dn (by omega) (by omega)
  have m38 : Mv (fun g => rb (.slice (some ⟨gx1, ox1, none⟩) (p.nd + 1 + 1) kx1) = some g) V37 V38 := Mv.of_grown hgr
  replace hS := hS.step m38 (fun _ _ h => h)
  refine kd_valW (i := 15) (by kernel_rfl) rfl (by rfl) (run_append_op _ _ 28 (by rfl) (by rfl) (by rfl) hrun) (fun _ => hS) ?_
  refine ptk ?_
  replace HB := hide (HB.out.step m38 (fun g hlt h => (AN.out g (.inr (.inr (.inl h)))).elim (fun h => h) (fun h2 => absurd h2 (by omega))))
  replace bx0 := Xbn (Xbn bx0 m36) m37; replace bx0 := hide (m38.box bx0.out (fun h => by have := LTm _ h; omega))
  replace bx1 := Xbn (Xbn bx1 m36) m37; replace bx1 := hide (m38.box bx1.out (fun h => by have := LTm _ h; omega))
  replace bx2 := Xbn (Xbn bx2 m36) m37; replace bx2 := hide (m38.box bx2.out (fun h => by have := LTm _ h; omega))
  replace bx3 := Xbn (Xbn bx3 m36) m37; replace bx3 := hide (m38.box bx3.out (fun h => by have := LTm _ h; omega))
  replace bx4 := Xbn bx4 m37; replace bx4 := hide (m38.box bx4.out (fun h => by have := LTm _ h; omega))
  clear cw
  replace bx5 := hide (m38.box bx5.out (fun h => by have := LTm _ h; omega))
  have NX : Nw V37.heap.size (.slice (some ⟨gr, fr, none⟩) p.nw wc) (.slice ga p.ng gc) (.slice (some ⟨gx1, ox1, none⟩) (p.nd + 1 + 1) kx1) (.slice ua p.nu uc) (.slice (some ⟨gr, fr, none⟩) p.nw wc) (.slice ga p.ng gc) (.slice (some ⟨gx2, ox2, none⟩) (p.nd + 2 + 1) kx2) (.slice ua p.nu uc) := nw_dn (fun g e => (rb_blk e : gx2 = g) ▸ hbl)
  replace LN := hide ((LN.out.put_dn hgr (snd_next 2 hrg (by simp [fdT])) (fun g e => (rb_blk e : gx2 = g) ▸ hbl) : Lr V38 base (.slice (some ⟨gr, fr, none⟩) p.nw wc) (.slice ga p.ng gc) (.slice (some ⟨gx2, ox2, none⟩) (p.nd + 2 + 1) kx2) (.slice ua p.nu uc) (sndK p 3)))
  replace AF : Hid (∀ g, Lrb (.slice (some ⟨gr, fr, none⟩) p.nw wc) (.slice ga p.ng gc) (.slice (some ⟨gx2, ox2, none⟩) (p.nd + 2 + 1) kx2) (.slice ua p.nu uc) g → g ≠ b0 ∧ g ≠ b1 ∧ g ≠ b2 ∧ g ≠ b3 ∧ g ≠ b4 ∧ g ≠ b5) := hide (fun g h => (NX g h).elim (fun h2 => AF.out g h2) (fun h2 => by omega))
  replace AN : Hid (Nw w.heap.size (.slice (some ⟨gr, fr, none⟩) p.nw wc) (.slice ga p.ng gc) (.slice da p.nd dc) (.slice ua p.nu uc) (.slice (some ⟨gr, fr, none⟩) p.nw wc) (.slice ga p.ng gc) (.slice (some ⟨gx2, ox2, none⟩) (p.nd + 2 + 1) kx2) (.slice ua p.nu uc)) := hide (fun g h => (NX g h).elim (fun h2 => AN.out g h2) (fun h2 => .inr (by omega)))
  clear NX szT szW; clear hrun hgr hrg hold hbl LTm LTr
  refine tk0 16 (.pointer (some ⟨b0, 4, none⟩)) rfl ?_
  refine kd_skipI (i := 17) (w' := V38.setCell ⟨b0, 4, none⟩ (.slice (some ⟨gx2, ox2, none⟩) (p.nd + 2 + 1) kx2)) (fun V => Mv (fun g => g = b0) V38 V ∧ V.heap[b0]? = some (.cells #[.int .i64 p.base, .slice (some ⟨gr, fr, none⟩) p.nw wc, .int .i64 p.want, .slice ga p.ng gc, .slice (some ⟨gx2, ox2, none⟩) (p.nd + 2 + 1) kx2, .slice ua p.nu uc] 30 (0, 0))) (by kernel_rfl) rfl (by rfl) (by have fr := fun i => frozen_of_row _ _ i _ _ bx0.out; have z0 := cell_box 4 bx0.out rfl; go_simp) ⟨Mv.set (Mv.refl _ _) _ _, (heap_setCell_same _ _ 4 _ _ _ (bx0.out)).trans rfl⟩ (fun _ _ h => absurd rfl h) ?_
  rintro V39 ⟨m39, nxV39⟩
  refine ptk ?_
  replace LN := hide (LN.out.mv m39 (fun g hg h => by have h : g = b0 := h; have := AF.out g hg; omega))
  replace bx0 := hide nxV39
  clear nxV39
  refine wpAnyK_done (by kernel_rfl) ?_
  clear hS rbx0 rbx1 rbx2 rbx3 rbx4
  refine inb_norm (then_normal (hK _ _ ?_)); clear hK K; refine rl ?_
  clear hna
  refine sv (.int .i64 2) ?_
  refine sg (.int .i64 3) (h := by have hw1 : IntKind.i64.wrap 3 = 3 := i64wrap (by omega); go_simp) ?_
  refine sv (.int .i64 3) ?_
  refine nt ?_; refine rounds_step ?_; refine sk fun K hK => sk fun K hK => rl ?_
  refine sv (.int .i64 3) ?_
  refine sv (.pointer (some ⟨b0, 1, none⟩)) ?_
  refine sl 1 bx0 ?_
  refine sg (.int .i64 (p.nw : Int)) ?_
  refine sg (.int .i64 3) (h := by have hmn : min (3 : Int) (p.nw : Int) = 3 := (by omega); have hm2 : min 3 p.nw = 3 := (by omega); have hm3 : ¬ ((p.nw : Int) < 3) := (by omega); go_simp) ?_
  refine sg (.bool false) ?_
  refine nt (hK _ _ ?_); clear hK K; refine cf ?_; refine wp_exit ?_; refine then_exit ?_; refine then_exit ?_; refine inb_here rfl ?_; refine then_normal ?_; clear hK K; refine hK _ _ ?_; clear hK K; refine sk fun K hK => rl ?_
  refine sl6 bx0 ?_
  replace bx2 := Xbb bx2 m39; refine ss6 (.int .i64 p.base) (.slice (some ⟨gr, fr, none⟩) p.nw wc) (.int .i64 p.want) (.slice ga p.ng gc) (.slice (some ⟨gx2, ox2, none⟩) (p.nd + 2 + 1) kx2) (.slice ua p.nu uc) bx2 fun V40 m40 bx2 => ?_
  replace LN := hide (LN.out.mv m40 (fun g hg h => by have h : g = b2 := h; have := AF.out g hg; omega))
  refine sv (.int .i64 0) ?_
  refine nt (hK _ _ ?_); clear hK K; refine wp_ret ?_; refine inb_ret ?_; refine then_ret ?_
  try simp only [Exit.then, Exit.inBlock, ↓reduceIte, Nat.reduceEqDiff]
  obtain ⟨_, q2_0, q2_1, q2_2, q2_3, q2_4, q2_5⟩ := box6 bx2.out
  replace HB := Xhb (Xhb HB m39) m40; exact bodyPost_ret (v := .tuple #[.agg #[.int .i64 p.base, .slice (some ⟨gr, fr, none⟩) p.nw wc, .int .i64 p.want, .slice ga p.ng gc, .slice (some ⟨gx2, ox2, none⟩) (p.nd + 2 + 1) kx2, .slice ua p.nu uc], .int .i64 0]) (by simp [results, Try.results57, go_sem, q2_0, q2_1, q2_2, q2_3, q2_4, q2_5]) rfl (sap_ok (q := sndK p 3) ⟨_, _, _, _, rfl, HB.out, LN.out, AN.out⟩ (by simp [saC, laB, hz, hb, h0, actC]) (by rw [show actL p 2 z bit body = sndL p from by simp [actL]]; exact sndK_eq p 3 (by omega)))


end Go.Proofs.Ytnkocikbapbbmaa
