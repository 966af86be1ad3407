/- LdK -/
import Derived.Test.YtnkocikbapbbmaaYnkPlay20
/- impl.dataGot (written by mkLdK.py) -/
namespace Go.Proofs.Ytnkocikbapbbmaa
open Go.RowKit
set_option linter.unusedVariables false
set_option linter.unusedSimpArgs false

/-- an acknowledgement sent up -/
def ackUp (p : Lk) : Lk := { p with nu := p.nu + 1, ut := snc p.ut p.nu (Flit.txt 2 p.want ⟨#[]⟩), uh := snc p.uh p.nu false }
/-- the next text got -/
def gotL (p : Lk) (b : ByteArray) : Lk := { p with ng := p.ng + 1, gs := snc p.gs p.ng b, want := p.want + 1 }
def dgB (p : Lk) (q : Int) : Bool := decide (q = p.want) && decide (q < p.base + p.nw)
def dgL (p : Lk) (q : Int) (b : ByteArray) : Lk := ackUp (if dgB p q then gotL p b else p)

set_option maxHeartbeats 4000000 in
set_option maxRecDepth 20000 in
theorem dataGot_any (p : Lk) (k q : Int) (b : ByteArray) (wa ga da ua : Option Addr) (wc gc dc uc : Nat) (base : Nat) (w : World) (hr : Lr w base (.slice wa p.nw wc) (.slice ga p.ng gc) (.slice da p.nd dc) (.slice ua p.nu uc) p) (hle : base ≤ w.heap.size) (h0 : 0 ≤ p.base) (h1 : p.base ≤ 999900) (h3 : p.nw ≤ 8) (h4 : p.want ≤ 1000000) (h6 : 0 ≤ p.want) (hng : p.ng ≤ 1048000) (hnu : p.nu ≤ 1048000) :
    Calls Try.prog 80 #[.agg (l6 p.base (.slice wa p.nw wc) p.want (.slice ga p.ng gc) (.slice da p.nd dc) (.slice ua p.nu uc)), .agg #[.int .i64 k, .int .i64 q, .string b]] w fun e w' => ∃ gv uv, e = .returned (.agg (l6 (dgL p q b).base (.slice wa p.nw wc) (dgL p q b).want gv (.slice da p.nd dc) uv)) ∧ Mv (fun g => rb (.slice ga p.ng gc) = some g ∨ rb (.slice ua p.nu uc) = some g) w w' ∧ Lr w' base (.slice wa p.nw wc) (.slice ga p.ng gc) (.slice da p.nd dc) (.slice ua p.nu uc) p ∧ Lr w' base (.slice wa p.nw wc) gv (.slice da p.nd dc) uv (dgL p q b) ∧ Nw w.heap.size (.slice wa p.nw wc) (.slice ga p.ng gc) (.slice da p.nd dc) (.slice ua p.nu uc) (.slice wa p.nw wc) gv (.slice da p.nd dc) uv := by
  by_cases e1 : q = p.want
  · by_cases e2 : q < p.base + p.nw
    · have HD : dgL p q b = ackUp (gotL p b) := by simp [dgL, dgB, e1, e1 ▸ e2]
      have d1 : (q == p.want) = true := by simpa using e1
      have d2 : decide (q < p.base + p.nw) = true := by simpa using e2
      clear e1 e2
      have HB : Hid (Mv (fun g => rb (.slice ga p.ng gc) = some g ∨ rb (.slice ua p.nu uc) = some g) w w) := hide (Mv.refl _ _)
      have LO := hide hr
      have LT := hide (fun g (h : Lrb (.slice wa p.nw wc) (.slice ga p.ng gc) (.slice da p.nd dc) (.slice ua p.nu uc) g) => (hr.lt g h).2)
      have hbs : base ≤ w.heap.size := hle
      clear hr hle
      go_enter Try.func80, Try.ntmps80
      refine sk fun K hK => rl ?_
      refine sbp #[.int .i64 p.base, .slice wa p.nw wc, .int .i64 p.want, .slice ga p.ng gc, .slice da p.nd dc, .slice ua p.nu uc] 30 fun V1 b0 hb0 m1 bx0 => ?_
      have o_0 : w.heap.size ≤ b0 := by omega
      clear hb0
      refine sbp #[.int .i64 k, .int .i64 q, .string b] 88 fun V2 b1 hb1 m2 bx1 => ?_
      have o0_1 := Xlo bx0 hb1; clear hb1
      refine sbp #[.int .i64 0, .slice none 0 0, .int .i64 0, .slice none 0 0, .slice none 0 0, .slice none 0 0] 30 fun V3 b2 hb2 m3 bx2 => ?_
      have o1_2 := Xlo bx1 hb2; clear hb2
      refine nt (hK _ _ ?_); clear hK K; refine sk fun K hK => sk fun K hK => ?_
      refine wp_region_but (z := 999) (S := fun w' => Mv (nob) V3.drew w') (by kernel_rfl) (Mv.refl _ _) (fun hS => ?_)
      have m4 : Mv nob V3 V3.drew := Mv.drew _
      obtain ⟨V4, hV4⟩ : ∃ V, V3.drew = V := ⟨_, rfl⟩
      rw [hV4] at hS m4 ⊢
      clear hV4; replace bx0 := Xbn (Xbn (Xbn bx0 m2) m3) m4; have rbx0 := bx0; replace bx1 := Xbn (Xbn bx1 m3) m4; have rbx1 := bx1; replace bx2 := Xbn bx2 m4; have rbx2 := bx2
      refine tk0 0 (.pointer (some ⟨b1, 1, none⟩)) rfl ?_
      refine tk 1 (.int .i64 q) rfl (fun w' hSw => by (try dsimp only at hSw); have z0 := cell_box 1 (hSw.box rbx1.out (fun h => h)) rfl; go_simp) ?_
      refine tk0 2 (.pointer (some ⟨b0, 2, none⟩)) rfl ?_
      refine tk 3 (.int .i64 p.want) rfl (fun w' hSw => by (try dsimp only at hSw); have z0 := cell_box 2 (hSw.box rbx0.out (fun h => h)) rfl; go_simp) ?_
      refine tk0 4 (.bool true) rfl ?_
      refine tk0 5 (.bool true) rfl ?_
      refine tk0 6 (.pointer (some ⟨b1, 1, none⟩)) rfl ?_
      refine tk 7 (.int .i64 q) rfl (fun w' hSw => by (try dsimp only at hSw); have z0 := cell_box 1 (hSw.box rbx1.out (fun h => h)) rfl; go_simp) ?_
      refine tk 8 (.agg #[.int .i64 p.base, .slice wa p.nw wc, .int .i64 p.want, .slice ga p.ng gc, .slice da p.nd dc, .slice ua p.nu uc]) rfl (fun w' hSw => by (try dsimp only at hSw); have z0 := cell_box 0 (hSw.box rbx0.out (fun h => h)) rfl; have z1 := cell_box 1 (hSw.box rbx0.out (fun h => h)) rfl; have z2 := cell_box 2 (hSw.box rbx0.out (fun h => h)) rfl; have z3 := cell_box 3 (hSw.box rbx0.out (fun h => h)) rfl; have z4 := cell_box 4 (hSw.box rbx0.out (fun h => h)) rfl; have z5 := cell_box 5 (hSw.box rbx0.out (fun h => h)) rfl; go_simp) ?_
      refine kd_call (i := 9) (by kernel_rfl) rfl (by rfl) (by first | rfl | (go_simp; done)) (end_any p.base p.want wa ga da ua p.nw p.ng p.nd p.nu wc gc dc uc V4 h0 h1 h3) ?_
      rintro e V5 ⟨rfl, hbV5⟩
      have m5 : Mv (nob) V4 V5 := Mv.of_below hbV5
      replace hS := hS.step m5 (fun _ _ h => h.elim)
      refine ⟨_, rfl, fun _ => hS, ?_⟩
      refine ptk ?_
      clear hbV5
      refine tk0 10 (.bool true) rfl ?_
      refine tk0 11 (.bool true) rfl ?_
      refine wpAnyK_done (by kernel_rfl) ?_
      clear hS rbx0 rbx1 rbx2
      refine then_normal (hK _ _ ?_); clear hK K; refine ct (sk fun K hK => rl ?_)
      refine sv (.pointer (some ⟨b0, 3, none⟩)) ?_
      replace bx0 := Xbn bx0 m5; refine sl 3 bx0 ?_
      refine sv (.pointer (some ⟨b1, 2, none⟩)) ?_
      replace bx1 := Xbn bx1 m5; refine sl 2 bx1 ?_
      refine sbs 1 #[.string b] 9 fun V6 b3 hb3 m6 bx3 => ?_
      replace bx2 := Xbn bx2 m5; have o2_3 := Xlo bx2 hb3; clear hb3
      have LTx : ∀ g, rb (.slice ga p.ng gc) = some g → g < w.heap.size := fun g h => LT.out g (.inr (.inl h))
      replace bx2 := Xbn bx2 m6; have szx := lt_of_block bx2.out
      replace HB := Xhn (Xhn (Xhn (Xhn (Xhn (Xhn HB m1) m2) m3) m4) m5) m6; replace LO := Xln (Xln (Xln (Xln (Xln (Xln LO m1) m2) m3) m4) m5) m6; obtain ⟨gx, ox, kx, V7, hrun, hgr, hrg, hbl, hold⟩ := add_text V6 base (.slice ga p.ng gc) p.ng p.gs b 22 ⟨b3, 0, none⟩ 1 (cell_box 0 bx3.out rfl) LO.out.go (by omega) (by have := HB.out.size; omega)
      have m7 : Mv (fun g => rb (.slice ga p.ng gc) = some g) V6 V7 := Mv.of_grown hgr
      refine sw_valW (by rfl) (run_append_op _ _ 22 (by rfl) (by rfl) (by rfl) hrun) ?_
      refine pt ?_
      replace HB := hide (HB.out.step m7 (fun g _ h => .inl h))
      replace bx0 := Xbn bx0 m6; replace bx0 := hide (m7.box bx0.out (fun h => by have := LTx _ h; omega))
      replace bx1 := Xbn bx1 m6; replace bx1 := hide (m7.box bx1.out (fun h => by have := LTx _ h; omega))
      replace bx2 := hide (m7.box bx2.out (fun h => by have := LTx _ h; omega))
      replace bx3 := hide (m7.box bx3.out (fun h => by have := LTx _ h; omega))
      have LN := hide (LO.out.put_go hgr hrg (fun g e => (rb_blk e : gx = g) ▸ hbl))
      replace LO := hide (LO.out.put_go hgr hold (fun g e => .inl e))
      have AF := hide (af_go (A := Lrb (.slice wa p.nw wc) (.slice ga p.ng gc) (.slice da p.nd dc) (.slice ua p.nu uc)) (hi := b2) (ox := ox) (n := (p.ng + 1)) (k := kx) (fun g h => .inl h) hbl szx)
      clear hrun hgr hrg hold hbl szx
      refine sv (.pointer (some ⟨b0, 3, none⟩)) ?_
      refine ss 3 (.slice (some ⟨gx, ox, none⟩) (p.ng + 1) kx) bx0 fun V8 m8 bx0 => ?_
      replace LN := hide (LN.out.mv m8 (fun g hg h => (AF.out g hg).elim (fun h2 => by have h : g = b0 := h; have := LT.out g h2; omega) (fun h2 => by have h : g = b0 := h; omega)))
      refine nt (hK _ _ ?_); clear hK K; refine rl ?_
      refine sv (.pointer (some ⟨b0, 2, none⟩)) ?_
      refine sl 2 bx0 ?_
      refine sg (.int .i64 (p.want + 1)) (h := by have hw : IntKind.i64.wrap (p.want + 1) = p.want + 1 := i64wrap (by omega); go_simp) ?_
      refine sv (.pointer (some ⟨b0, 2, none⟩)) ?_
      refine ss 2 (.int .i64 (p.want + 1)) bx0 fun V9 m9 bx0 => ?_
      replace LN := hide (LN.out.mv m9 (fun g hg h => (AF.out g hg).elim (fun h2 => by have h : g = b0 := h; have := LT.out g h2; omega) (fun h2 => by have h : g = b0 := h; omega)))
      refine nt (hK _ _ ?_); clear hK K; refine sk fun K hK => ?_
      have LTu : ∀ g, rb (.slice ua p.nu uc) = some g → g < w.heap.size := fun g h => LT.out g (.inr (.inr (.inr h)))
      refine wp_region_but (z := 9) (S := fun w' => Mv (fun g => rb (.slice ua p.nu uc) = some g) V9.drew w') (by kernel_rfl) (Mv.refl _ _) (fun hS => ?_)
      have m10 : Mv nob V9 V9.drew := Mv.drew _
      obtain ⟨V10, hV10⟩ : ∃ V, V9.drew = V := ⟨_, rfl⟩
      rw [hV10] at hS m10 ⊢
      clear hV10; replace bx0 := Xbn bx0 m10; have rbx0 := bx0; replace bx1 := Xbn (Xbb (Xbb bx1 m8) m9) m10; have rbx1 := bx1; replace bx2 := Xbn (Xbb (Xbb bx2 m8) m9) m10; have rbx2 := bx2; replace bx3 := Xbn (Xbb (Xbb bx3 m8) m9) m10; have rbx3 := bx3
      refine tk0 0 (.pointer (some ⟨b0, 5, none⟩)) rfl ?_
      refine tk 1 (.slice ua p.nu uc) rfl (fun w' hSw => by (try dsimp only at hSw); have z0 := cell_box 5 (hSw.box rbx0.out (fun h => by have := LTu _ h; omega)) rfl; go_simp) ?_
      refine tk0 2 (.pointer (some ⟨b0, 2, none⟩)) rfl ?_
      refine tk 3 (.int .i64 (p.want + 1)) rfl (fun w' hSw => by (try dsimp only at hSw); have z0 := cell_box 2 (hSw.box rbx0.out (fun h => by have := LTu _ h; omega)) rfl; go_simp) ?_
      refine tk0 4 (.agg #[.int .i64 2, .int .i64 (p.want + 1), .string ⟨#[]⟩]) rfl ?_
      refine kd_call (i := 5) (by kernel_rfl) rfl (by rfl) (by first | rfl | (go_simp; done)) (wireOf_any 2 (p.want + 1) ⟨#[]⟩ V10) ?_
      rintro e V11 ⟨rfl, hbV11⟩
      have m11 : Mv (nob) V10 V11 := Mv.of_below hbV11
      replace hS := hS.step m11 (fun _ _ h => h.elim)
      refine ⟨_, rfl, fun _ => hS, ?_⟩
      refine ptk ?_
      clear hbV11
      refine kd_valI (i := 6) (v := .slice (some ⟨V11.heap.size, 0, none⟩) 1 1) (w' := V11.alloc (.cells #[.string (Flit.txt 2 (p.want + 1) ⟨#[]⟩), .bool false] 73)) (fun V => Mv nob V11 V ∧ V.heap[V11.heap.size]? = some (.cells #[.string (Flit.txt 2 (p.want + 1) ⟨#[]⟩), .bool false] 73 (0, 0))) (by kernel_rfl) rfl (by rfl) (by first | rfl | go_simp) ⟨Mv.alloc _ _, heap_alloc_new _ _⟩ (fun V hI _ => hS.step hI.1 (fun _ _ h => h.elim)) ?_
      rintro V12 ⟨m12, nxV12⟩
      refine ptk ?_
      obtain ⟨b4, hb4⟩ : ∃ b4, V11.heap.size = b4 := ⟨_, rfl⟩
      rw [hb4] at nxV12 ⊢
      replace bx3 := Xbn bx3 m11; have o3_4 := Xlo bx3 hb4
      have sV12 : b4 < V12.heap.size := lt_of_block nxV12
      clear hb4
      have bx4 := hide nxV12
      clear nxV12
      replace hS := hS.step m12 (fun _ _ h => h.elim)
      clear sV12
      have LTy : ∀ g, rb (.slice ua p.nu uc) = some g → g < w.heap.size := fun g h => LT.out g (.inr (.inr (.inr h)))
      replace bx2 := Xbn (Xbn bx2 m11) m12; have szy := lt_of_block bx2.out
      replace HB := Xhn (Xhn (Xhn (Xhb (Xhb HB m8) m9) m10) m11) m12; replace LN := Xln (Xln (Xln LN m10) m11) m12; obtain ⟨gy, oy, ky, V13, hrun, hgr, hrg, hbl, hold⟩ := add_wire V12 base (.slice ua p.nu uc) p.nu p.ut p.uh (Flit.txt 2 (p.want + 1) ⟨#[]⟩) false 28 b4 0 1 (cell_box 0 bx4.out rfl) (cell_box 1 bx4.out rfl) LN.out.up (by omega) (by have := HB.out.size; omega)
      have m13 : Mv (fun g => rb (.slice ua p.nu uc) = some g) V12 V13 := Mv.of_grown hgr
      replace hS := hS.step m13 (fun _ _ h => h)
      refine kd_valW (i := 7) (by kernel_rfl) rfl (by rfl) (run_append_op _ _ 28 (by rfl) (by rfl) (by rfl) hrun) (fun _ => hS) ?_
      refine ptk ?_
      replace HB := hide (HB.out.step m13 (fun g _ h => .inr h))
      replace bx0 := Xbn (Xbn bx0 m11) m12; replace bx0 := hide (m13.box bx0.out (fun h => by have := LTy _ h; omega))
      replace bx1 := Xbn (Xbn bx1 m11) m12; replace bx1 := hide (m13.box bx1.out (fun h => by have := LTy _ h; omega))
      replace bx2 := hide (m13.box bx2.out (fun h => by have := LTy _ h; omega))
      replace bx3 := Xbn bx3 m12; replace bx3 := hide (m13.box bx3.out (fun h => by have := LTy _ h; omega))
      replace bx4 := hide (m13.box bx4.out (fun h => by have := LTy _ h; omega))
      replace LN := hide (LN.out.put_up hgr hrg (fun g e => (rb_blk e : gy = g) ▸ hbl))
      replace LO := Xln (Xln (Xln (Xlb (Xlb LO LT m8) LT m9) m10) m11) m12; replace LO := hide (LO.out.put_up hgr hold (fun g e => .inl e))
      replace AF := hide (af_up (ox := oy) (n := (p.nu + 1)) (k := ky) AF.out hbl szy)
      clear hrun hgr hrg hold hbl szy
      refine tk0 8 (.pointer (some ⟨b0, 5, none⟩)) rfl ?_
      refine kd_skipI (i := 9) (w' := V13.setCell ⟨b0, 5, none⟩ (.slice (some ⟨gy, oy, none⟩) (p.nu + 1) ky)) (fun V => Mv (fun g => g = b0) V13 V ∧ V.heap[b0]? = some (.cells #[.int .i64 p.base, .slice wa p.nw wc, .int .i64 (p.want + 1), .slice (some ⟨gx, ox, none⟩) (p.ng + 1) kx, .slice da p.nd dc, .slice (some ⟨gy, oy, none⟩) (p.nu + 1) ky] 30 (0, 0))) (by kernel_rfl) rfl (by rfl) (by have fr := fun i => frozen_of_row _ _ i _ _ bx0.out; have z0 := cell_box 5 bx0.out rfl; go_simp) ⟨Mv.set (Mv.refl _ _) _ _, (heap_setCell_same _ _ 5 _ _ _ (bx0.out)).trans rfl⟩ (fun _ _ h => absurd rfl h) ?_
      rintro V14 ⟨m14, nxV14⟩
      refine ptk ?_
      replace LN := hide (LN.out.mv m14 (fun g hg h => (AF.out g hg).elim (fun h2 => by have h : g = b0 := h; have := LT.out g h2; omega) (fun h2 => by have h : g = b0 := h; omega)))
      replace bx0 := hide nxV14
      clear nxV14
      refine wpAnyK_done (by kernel_rfl) ?_
      clear hS rbx0 rbx1 rbx2 rbx3
      refine then_normal (hK _ _ ?_); clear hK K; refine sk fun K hK => rl ?_
      refine sl6 bx0 ?_
      replace bx2 := Xbb bx2 m14; refine ss6 (.int .i64 p.base) (.slice wa p.nw wc) (.int .i64 (p.want + 1)) (.slice (some ⟨gx, ox, none⟩) (p.ng + 1) kx) (.slice da p.nd dc) (.slice (some ⟨gy, oy, none⟩) (p.nu + 1) ky) bx2 fun V15 m15 bx2 => ?_
      replace LN := hide (LN.out.mv m15 (fun g hg h => (AF.out g hg).elim (fun h2 => by have h : g = b2 := h; have := LT.out g h2; omega) (fun h2 => by have h : g = b2 := h; omega)))
      refine nt (hK _ _ ?_); clear hK K; refine wp_ret ?_
      try simp only [Exit.then, Exit.inBlock, ↓reduceIte, Nat.reduceEqDiff]
      obtain ⟨_, q2_0, q2_1, q2_2, q2_3, q2_4, q2_5⟩ := box6 bx2.out
      replace HB := Xhb (Xhb HB m14) m15; replace LO := Xlb (Xlb LO LT m14) LT m15; exact bodyPost_ret (v := .agg #[.int .i64 p.base, .slice wa p.nw wc, .int .i64 ((p.want + 1)), .slice (some ⟨gx, ox, none⟩) (p.ng + 1) kx, .slice da p.nd dc, .slice (some ⟨gy, oy, none⟩) (p.nu + 1) ky]) (by simp [results, Try.results80, go_sem, q2_0, q2_1, q2_2, q2_3, q2_4, q2_5]) rfl ⟨_, _, by rw [HD]; rfl, HB.out, LO.out, by rw [HD]; exact ⟨LN.out.wa, LN.out.go, LN.out.dn, LN.out.up, LN.out.aw, LN.out.ag, LN.out.ad⟩, fun g h => (AF.out g h).elim .inl (fun h2 => .inr (by omega))⟩
    · have HD : dgL p q b = ackUp p := by simp [dgL, dgB, e1, e1 ▸ e2]
      have d1 : (q == p.want) = true := by simpa using e1
      have d2 : decide (q < p.base + p.nw) = false := by simpa using e2
      clear e1 e2
      have HB : Hid (Mv (fun g => rb (.slice ga p.ng gc) = some g ∨ rb (.slice ua p.nu uc) = some g) w w) := hide (Mv.refl _ _)
      have LO := hide hr
      have LT := hide (fun g (h : Lrb (.slice wa p.nw wc) (.slice ga p.ng gc) (.slice da p.nd dc) (.slice ua p.nu uc) g) => (hr.lt g h).2)
      have hbs : base ≤ w.heap.size := hle
      clear hr hle
      go_enter Try.func80, Try.ntmps80
      refine sk fun K hK => rl ?_
      refine sbp #[.int .i64 p.base, .slice wa p.nw wc, .int .i64 p.want, .slice ga p.ng gc, .slice da p.nd dc, .slice ua p.nu uc] 30 fun V1 b0 hb0 m1 bx0 => ?_
      have o_0 : w.heap.size ≤ b0 := by omega
      clear hb0
      refine sbp #[.int .i64 k, .int .i64 q, .string b] 88 fun V2 b1 hb1 m2 bx1 => ?_
      have o0_1 := Xlo bx0 hb1; clear hb1
      refine sbp #[.int .i64 0, .slice none 0 0, .int .i64 0, .slice none 0 0, .slice none 0 0, .slice none 0 0] 30 fun V3 b2 hb2 m3 bx2 => ?_
      have o1_2 := Xlo bx1 hb2; clear hb2
      refine nt (hK _ _ ?_); clear hK K; refine sk fun K hK => sk fun K hK => ?_
      refine wp_region_but (z := 999) (S := fun w' => Mv (nob) V3.drew w') (by kernel_rfl) (Mv.refl _ _) (fun hS => ?_)
      have m4 : Mv nob V3 V3.drew := Mv.drew _
      obtain ⟨V4, hV4⟩ : ∃ V, V3.drew = V := ⟨_, rfl⟩
      rw [hV4] at hS m4 ⊢
      clear hV4; replace bx0 := Xbn (Xbn (Xbn bx0 m2) m3) m4; have rbx0 := bx0; replace bx1 := Xbn (Xbn bx1 m3) m4; have rbx1 := bx1; replace bx2 := Xbn bx2 m4; have rbx2 := bx2
      refine tk0 0 (.pointer (some ⟨b1, 1, none⟩)) rfl ?_
      refine tk 1 (.int .i64 q) rfl (fun w' hSw => by (try dsimp only at hSw); have z0 := cell_box 1 (hSw.box rbx1.out (fun h => h)) rfl; go_simp) ?_
      refine tk0 2 (.pointer (some ⟨b0, 2, none⟩)) rfl ?_
      refine tk 3 (.int .i64 p.want) rfl (fun w' hSw => by (try dsimp only at hSw); have z0 := cell_box 2 (hSw.box rbx0.out (fun h => h)) rfl; go_simp) ?_
      refine tk0 4 (.bool true) rfl ?_
      refine tk0 5 (.bool true) rfl ?_
      refine tk0 6 (.pointer (some ⟨b1, 1, none⟩)) rfl ?_
      refine tk 7 (.int .i64 q) rfl (fun w' hSw => by (try dsimp only at hSw); have z0 := cell_box 1 (hSw.box rbx1.out (fun h => h)) rfl; go_simp) ?_
      refine tk 8 (.agg #[.int .i64 p.base, .slice wa p.nw wc, .int .i64 p.want, .slice ga p.ng gc, .slice da p.nd dc, .slice ua p.nu uc]) rfl (fun w' hSw => by (try dsimp only at hSw); have z0 := cell_box 0 (hSw.box rbx0.out (fun h => h)) rfl; have z1 := cell_box 1 (hSw.box rbx0.out (fun h => h)) rfl; have z2 := cell_box 2 (hSw.box rbx0.out (fun h => h)) rfl; have z3 := cell_box 3 (hSw.box rbx0.out (fun h => h)) rfl; have z4 := cell_box 4 (hSw.box rbx0.out (fun h => h)) rfl; have z5 := cell_box 5 (hSw.box rbx0.out (fun h => h)) rfl; go_simp) ?_
      refine kd_call (i := 9) (by kernel_rfl) rfl (by rfl) (by first | rfl | (go_simp; done)) (end_any p.base p.want wa ga da ua p.nw p.ng p.nd p.nu wc gc dc uc V4 h0 h1 h3) ?_
      rintro e V5 ⟨rfl, hbV5⟩
      have m5 : Mv (nob) V4 V5 := Mv.of_below hbV5
      replace hS := hS.step m5 (fun _ _ h => h.elim)
      refine ⟨_, rfl, fun _ => hS, ?_⟩
      refine ptk ?_
      clear hbV5
      refine tk0 10 (.bool false) rfl ?_
      refine tk0 11 (.bool false) rfl ?_
      refine wpAnyK_done (by kernel_rfl) ?_
      clear hS rbx0 rbx1 rbx2
      refine then_normal (hK _ _ ?_); clear hK K; refine cf (wp_skip (then_normal (hK _ _ ?_))); clear hK K; refine sk fun K hK => ?_
      have LTu : ∀ g, rb (.slice ua p.nu uc) = some g → g < w.heap.size := fun g h => LT.out g (.inr (.inr (.inr h)))
      refine wp_region_but (z := 9) (S := fun w' => Mv (fun g => rb (.slice ua p.nu uc) = some g) V5.drew w') (by kernel_rfl) (Mv.refl _ _) (fun hS => ?_)
      have m6 : Mv nob V5 V5.drew := Mv.drew _
      obtain ⟨V6, hV6⟩ : ∃ V, V5.drew = V := ⟨_, rfl⟩
      rw [hV6] at hS m6 ⊢
      clear hV6; replace bx0 := Xbn (Xbn bx0 m5) m6; have rbx0 := bx0; replace bx1 := Xbn (Xbn bx1 m5) m6; have rbx1 := bx1; replace bx2 := Xbn (Xbn bx2 m5) m6; have rbx2 := bx2
      refine tk0 0 (.pointer (some ⟨b0, 5, none⟩)) rfl ?_
      refine tk 1 (.slice ua p.nu uc) rfl (fun w' hSw => by (try dsimp only at hSw); have z0 := cell_box 5 (hSw.box rbx0.out (fun h => by have := LTu _ h; omega)) rfl; go_simp) ?_
      refine tk0 2 (.pointer (some ⟨b0, 2, none⟩)) rfl ?_
      refine tk 3 (.int .i64 p.want) rfl (fun w' hSw => by (try dsimp only at hSw); have z0 := cell_box 2 (hSw.box rbx0.out (fun h => by have := LTu _ h; omega)) rfl; go_simp) ?_
      refine tk0 4 (.agg #[.int .i64 2, .int .i64 p.want, .string ⟨#[]⟩]) rfl ?_
      refine kd_call (i := 5) (by kernel_rfl) rfl (by rfl) (by first | rfl | (go_simp; done)) (wireOf_any 2 p.want ⟨#[]⟩ V6) ?_
      rintro e V7 ⟨rfl, hbV7⟩
      have m7 : Mv (nob) V6 V7 := Mv.of_below hbV7
      replace hS := hS.step m7 (fun _ _ h => h.elim)
      refine ⟨_, rfl, fun _ => hS, ?_⟩
      refine ptk ?_
      clear hbV7
      refine kd_valI (i := 6) (v := .slice (some ⟨V7.heap.size, 0, none⟩) 1 1) (w' := V7.alloc (.cells #[.string (Flit.txt 2 p.want ⟨#[]⟩), .bool false] 73)) (fun V => Mv nob V7 V ∧ V.heap[V7.heap.size]? = some (.cells #[.string (Flit.txt 2 p.want ⟨#[]⟩), .bool false] 73 (0, 0))) (by kernel_rfl) rfl (by rfl) (by first | rfl | go_simp) ⟨Mv.alloc _ _, heap_alloc_new _ _⟩ (fun V hI _ => hS.step hI.1 (fun _ _ h => h.elim)) ?_
      rintro V8 ⟨m8, nxV8⟩
      refine ptk ?_
      obtain ⟨b3, hb3⟩ : ∃ b3, V7.heap.size = b3 := ⟨_, rfl⟩
      rw [hb3] at nxV8 ⊢
      replace bx2 := Xbn bx2 m7; have o2_3 := Xlo bx2 hb3
      have sV8 : b3 < V8.heap.size := lt_of_block nxV8
      clear hb3
      have bx3 := hide nxV8
      clear nxV8
      replace hS := hS.step m8 (fun _ _ h => h.elim)
      clear sV8
      have LTy : ∀ g, rb (.slice ua p.nu uc) = some g → g < w.heap.size := fun g h => LT.out g (.inr (.inr (.inr h)))
      replace bx2 := Xbn bx2 m8; have szy := lt_of_block bx2.out
      replace HB := Xhn (Xhn (Xhn (Xhn (Xhn (Xhn (Xhn (Xhn HB m1) m2) m3) m4) m5) m6) m7) m8; replace LO := Xln (Xln (Xln (Xln (Xln (Xln (Xln (Xln LO m1) m2) m3) m4) m5) m6) m7) m8; obtain ⟨gy, oy, ky, V9, hrun, hgr, hrg, hbl, hold⟩ := add_wire V8 base (.slice ua p.nu uc) p.nu p.ut p.uh (Flit.txt 2 p.want ⟨#[]⟩) false 28 b3 0 1 (cell_box 0 bx3.out rfl) (cell_box 1 bx3.out rfl) LO.out.up (by omega) (by have := HB.out.size; omega)
      have m9 : Mv (fun g => rb (.slice ua p.nu uc) = some g) V8 V9 := Mv.of_grown hgr
      replace hS := hS.step m9 (fun _ _ h => h)
      refine kd_valW (i := 7) (by kernel_rfl) rfl (by rfl) (run_append_op _ _ 28 (by rfl) (by rfl) (by rfl) hrun) (fun _ => hS) ?_
      refine ptk ?_
      replace HB := hide (HB.out.step m9 (fun g _ h => .inr h))
      replace bx0 := Xbn (Xbn bx0 m7) m8; replace bx0 := hide (m9.box bx0.out (fun h => by have := LTy _ h; omega))
      replace bx1 := Xbn (Xbn bx1 m7) m8; replace bx1 := hide (m9.box bx1.out (fun h => by have := LTy _ h; omega))
      replace bx2 := hide (m9.box bx2.out (fun h => by have := LTy _ h; omega))
      replace bx3 := hide (m9.box bx3.out (fun h => by have := LTy _ h; omega))
      have LN := hide (LO.out.put_up hgr hrg (fun g e => (rb_blk e : gy = g) ▸ hbl))
      replace LO := hide (LO.out.put_up hgr hold (fun g e => .inl e))
      have AF := hide (af_up (A := Lrb (.slice wa p.nw wc) (.slice ga p.ng gc) (.slice da p.nd dc) (.slice ua p.nu uc)) (hi := b2) (ox := oy) (n := (p.nu + 1)) (k := ky) (fun g h => .inl h) hbl szy)
      clear hrun hgr hrg hold hbl szy
      refine tk0 8 (.pointer (some ⟨b0, 5, none⟩)) rfl ?_
      refine kd_skipI (i := 9) (w' := V9.setCell ⟨b0, 5, none⟩ (.slice (some ⟨gy, oy, none⟩) (p.nu + 1) ky)) (fun V => Mv (fun g => g = b0) V9 V ∧ V.heap[b0]? = some (.cells #[.int .i64 p.base, .slice wa p.nw wc, .int .i64 p.want, .slice ga p.ng gc, .slice da p.nd dc, .slice (some ⟨gy, oy, none⟩) (p.nu + 1) ky] 30 (0, 0))) (by kernel_rfl) rfl (by rfl) (by have fr := fun i => frozen_of_row _ _ i _ _ bx0.out; have z0 := cell_box 5 bx0.out rfl; go_simp) ⟨Mv.set (Mv.refl _ _) _ _, (heap_setCell_same _ _ 5 _ _ _ (bx0.out)).trans rfl⟩ (fun _ _ h => absurd rfl h) ?_
      rintro V10 ⟨m10, nxV10⟩
      refine ptk ?_
      replace LN := hide (LN.out.mv m10 (fun g hg h => (AF.out g hg).elim (fun h2 => by have h : g = b0 := h; have := LT.out g h2; omega) (fun h2 => by have h : g = b0 := h; omega)))
      replace bx0 := hide nxV10
      clear nxV10
      refine wpAnyK_done (by kernel_rfl) ?_
      clear hS rbx0 rbx1 rbx2
      refine then_normal (hK _ _ ?_); clear hK K; refine sk fun K hK => rl ?_
      refine sl6 bx0 ?_
      replace bx2 := Xbb bx2 m10; refine ss6 (.int .i64 p.base) (.slice wa p.nw wc) (.int .i64 p.want) (.slice ga p.ng gc) (.slice da p.nd dc) (.slice (some ⟨gy, oy, none⟩) (p.nu + 1) ky) bx2 fun V11 m11 bx2 => ?_
      replace LN := hide (LN.out.mv m11 (fun g hg h => (AF.out g hg).elim (fun h2 => by have h : g = b2 := h; have := LT.out g h2; omega) (fun h2 => by have h : g = b2 := h; omega)))
      refine nt (hK _ _ ?_); clear hK K; refine wp_ret ?_
      try simp only [Exit.then, Exit.inBlock, ↓reduceIte, Nat.reduceEqDiff]
      obtain ⟨_, q2_0, q2_1, q2_2, q2_3, q2_4, q2_5⟩ := box6 bx2.out
      replace HB := Xhb (Xhb HB m10) m11; replace LO := Xlb (Xlb LO LT m10) LT m11; exact bodyPost_ret (v := .agg #[.int .i64 p.base, .slice wa p.nw wc, .int .i64 p.want, .slice ga p.ng gc, .slice da p.nd dc, .slice (some ⟨gy, oy, none⟩) (p.nu + 1) ky]) (by simp [results, Try.results80, go_sem, q2_0, q2_1, q2_2, q2_3, q2_4, q2_5]) rfl ⟨_, _, by rw [HD]; rfl, HB.out, LO.out, by rw [HD]; exact ⟨LN.out.wa, LN.out.go, LN.out.dn, LN.out.up, LN.out.aw, LN.out.ag, LN.out.ad⟩, fun g h => (AF.out g h).elim .inl (fun h2 => .inr (by omega))⟩
  · have HD : dgL p q b = ackUp p := by simp [dgL, dgB, e1]
    have d1 : (q == p.want) = false := by simpa using e1
    clear e1
    have HB : Hid (Mv (fun g => rb (.slice ga p.ng gc) = some g ∨ rb (.slice ua p.nu uc) = some g) w w) := hide (Mv.refl _ _)
    have LO := hide hr
    have LT := hide (fun g (h : Lrb (.slice wa p.nw wc) (.slice ga p.ng gc) (.slice da p.nd dc) (.slice ua p.nu uc) g) => (hr.lt g h).2)
    have hbs : base ≤ w.heap.size := hle
    clear hr hle
    go_enter Try.func80, Try.ntmps80
    refine sk fun K hK => rl ?_
    refine sbp #[.int .i64 p.base, .slice wa p.nw wc, .int .i64 p.want, .slice ga p.ng gc, .slice da p.nd dc, .slice ua p.nu uc] 30 fun V1 b0 hb0 m1 bx0 => ?_
    have o_0 : w.heap.size ≤ b0 := by omega
    clear hb0
    refine sbp #[.int .i64 k, .int .i64 q, .string b] 88 fun V2 b1 hb1 m2 bx1 => ?_
    have o0_1 := Xlo bx0 hb1; clear hb1
    refine sbp #[.int .i64 0, .slice none 0 0, .int .i64 0, .slice none 0 0, .slice none 0 0, .slice none 0 0] 30 fun V3 b2 hb2 m3 bx2 => ?_
    have o1_2 := Xlo bx1 hb2; clear hb2
    refine nt (hK _ _ ?_); clear hK K; refine sk fun K hK => sk fun K hK => ?_
    refine wp_region_but (z := 999) (S := fun w' => Mv (nob) V3.drew w') (by kernel_rfl) (Mv.refl _ _) (fun hS => ?_)
    have m4 : Mv nob V3 V3.drew := Mv.drew _
    obtain ⟨V4, hV4⟩ : ∃ V, V3.drew = V := ⟨_, rfl⟩
    rw [hV4] at hS m4 ⊢
    clear hV4; replace bx0 := Xbn (Xbn (Xbn bx0 m2) m3) m4; have rbx0 := bx0; replace bx1 := Xbn (Xbn bx1 m3) m4; have rbx1 := bx1; replace bx2 := Xbn bx2 m4; have rbx2 := bx2
    refine tk0 0 (.pointer (some ⟨b1, 1, none⟩)) rfl ?_
    refine tk 1 (.int .i64 q) rfl (fun w' hSw => by (try dsimp only at hSw); have z0 := cell_box 1 (hSw.box rbx1.out (fun h => h)) rfl; go_simp) ?_
    refine tk0 2 (.pointer (some ⟨b0, 2, none⟩)) rfl ?_
    refine tk 3 (.int .i64 p.want) rfl (fun w' hSw => by (try dsimp only at hSw); have z0 := cell_box 2 (hSw.box rbx0.out (fun h => h)) rfl; go_simp) ?_
    refine tk0 4 (.bool false) rfl ?_
    refine tk0 5 (.bool false) rfl ?_
    refine tu 6 rfl ?_
    refine tu 7 rfl ?_
    refine tu 8 rfl ?_
    refine tu 9 rfl ?_
    refine tu 10 rfl ?_
    refine tk0 11 (.bool false) rfl ?_
    refine wpAnyK_done (by kernel_rfl) ?_
    clear hS rbx0 rbx1 rbx2
    refine then_normal (hK _ _ ?_); clear hK K; refine cf (wp_skip (then_normal (hK _ _ ?_))); clear hK K; refine sk fun K hK => ?_
    have LTu : ∀ g, rb (.slice ua p.nu uc) = some g → g < w.heap.size := fun g h => LT.out g (.inr (.inr (.inr h)))
    refine wp_region_but (z := 9) (S := fun w' => Mv (fun g => rb (.slice ua p.nu uc) = some g) V4.drew w') (by kernel_rfl) (Mv.refl _ _) (fun hS => ?_)
    have m5 : Mv nob V4 V4.drew := Mv.drew _
    obtain ⟨V5, hV5⟩ : ∃ V, V4.drew = V := ⟨_, rfl⟩
    rw [hV5] at hS m5 ⊢
    clear hV5; replace bx0 := Xbn bx0 m5; have rbx0 := bx0; replace bx1 := Xbn bx1 m5; have rbx1 := bx1; replace bx2 := Xbn bx2 m5; have rbx2 := bx2
    refine tk0 0 (.pointer (some ⟨b0, 5, none⟩)) rfl ?_
    refine tk 1 (.slice ua p.nu uc) rfl (fun w' hSw => by (try dsimp only at hSw); have z0 := cell_box 5 (hSw.box rbx0.out (fun h => by have := LTu _ h; omega)) rfl; go_simp) ?_
    refine tk0 2 (.pointer (some ⟨b0, 2, none⟩)) rfl ?_
    refine tk 3 (.int .i64 p.want) rfl (fun w' hSw => by (try dsimp only at hSw); have z0 := cell_box 2 (hSw.box rbx0.out (fun h => by have := LTu _ h; omega)) rfl; go_simp) ?_
    refine tk0 4 (.agg #[.int .i64 2, .int .i64 p.want, .string ⟨#[]⟩]) rfl ?_
    refine kd_call (i := 5) (by kernel_rfl) rfl (by rfl) (by first | rfl | (go_simp; done)) (wireOf_any 2 p.want ⟨#[]⟩ V5) ?_
    rintro e V6 ⟨rfl, hbV6⟩
    have m6 : Mv (nob) V5 V6 := Mv.of_below hbV6
    replace hS := hS.step m6 (fun _ _ h => h.elim)
    refine ⟨_, rfl, fun _ => hS, ?_⟩
    refine ptk ?_
    clear hbV6
    refine kd_valI (i := 6) (v := .slice (some ⟨V6.heap.size, 0, none⟩) 1 1) (w' := V6.alloc (.cells #[.string (Flit.txt 2 p.want ⟨#[]⟩), .bool false] 73)) (fun V => Mv nob V6 V ∧ V.heap[V6.heap.size]? = some (.cells #[.string (Flit.txt 2 p.want ⟨#[]⟩), .bool false] 73 (0, 0))) (by kernel_rfl) rfl (by rfl) (by first | rfl | go_simp) ⟨Mv.alloc _ _, heap_alloc_new _ _⟩ (fun V hI _ => hS.step hI.1 (fun _ _ h => h.elim)) ?_
    rintro V7 ⟨m7, nxV7⟩
    refine ptk ?_
    obtain ⟨b3, hb3⟩ : ∃ b3, V6.heap.size = b3 := ⟨_, rfl⟩
    rw [hb3] at nxV7 ⊢
    replace bx2 := Xbn bx2 m6; have o2_3 := Xlo bx2 hb3
    have sV7 : b3 < V7.heap.size := lt_of_block nxV7
    clear hb3
    have bx3 := hide nxV7
    clear nxV7
    replace hS := hS.step m7 (fun _ _ h => h.elim)
    clear sV7
    have LTy : ∀ g, rb (.slice ua p.nu uc) = some g → g < w.heap.size := fun g h => LT.out g (.inr (.inr (.inr h)))
    replace bx2 := Xbn bx2 m7; have szy := lt_of_block bx2.out
    replace HB := Xhn (Xhn (Xhn (Xhn (Xhn (Xhn (Xhn HB m1) m2) m3) m4) m5) m6) m7; replace LO := Xln (Xln (Xln (Xln (Xln (Xln (Xln LO m1) m2) m3) m4) m5) m6) m7; obtain ⟨gy, oy, ky, V8, hrun, hgr, hrg, hbl, hold⟩ := add_wire V7 base (.slice ua p.nu uc) p.nu p.ut p.uh (Flit.txt 2 p.want ⟨#[]⟩) false 28 b3 0 1 (cell_box 0 bx3.out rfl) (cell_box 1 bx3.out rfl) LO.out.up (by omega) (by have := HB.out.size; omega)
    have m8 : Mv (fun g => rb (.slice ua p.nu uc) = some g) V7 V8 := Mv.of_grown hgr
    replace hS := hS.step m8 (fun _ _ h => h)
    refine kd_valW (i := 7) (by kernel_rfl) rfl (by rfl) (run_append_op _ _ 28 (by rfl) (by rfl) (by rfl) hrun) (fun _ => hS) ?_
    refine ptk ?_
    replace HB := hide (HB.out.step m8 (fun g _ h => .inr h))
    replace bx0 := Xbn (Xbn bx0 m6) m7; replace bx0 := hide (m8.box bx0.out (fun h => by have := LTy _ h; omega))
    replace bx1 := Xbn (Xbn bx1 m6) m7; replace bx1 := hide (m8.box bx1.out (fun h => by have := LTy _ h; omega))
    replace bx2 := hide (m8.box bx2.out (fun h => by have := LTy _ h; omega))
    replace bx3 := hide (m8.box bx3.out (fun h => by have := LTy _ h; omega))
    have LN := hide (LO.out.put_up hgr hrg (fun g e => (rb_blk e : gy = g) ▸ hbl))
    replace LO := hide (LO.out.put_up hgr hold (fun g e => .inl e))
    have AF := hide (af_up (A := Lrb (.slice wa p.nw wc) (.slice ga p.ng gc) (.slice da p.nd dc) (.slice ua p.nu uc)) (hi := b2) (ox := oy) (n := (p.nu + 1)) (k := ky) (fun g h => .inl h) hbl szy)
    clear hrun hgr hrg hold hbl szy
    refine tk0 8 (.pointer (some ⟨b0, 5, none⟩)) rfl ?_
    refine kd_skipI (i := 9) (w' := V8.setCell ⟨b0, 5, none⟩ (.slice (some ⟨gy, oy, none⟩) (p.nu + 1) ky)) (fun V => Mv (fun g => g = b0) V8 V ∧ V.heap[b0]? = some (.cells #[.int .i64 p.base, .slice wa p.nw wc, .int .i64 p.want, .slice ga p.ng gc, .slice da p.nd dc, .slice (some ⟨gy, oy, none⟩) (p.nu + 1) ky] 30 (0, 0))) (by kernel_rfl) rfl (by rfl) (by have fr := fun i => frozen_of_row _ _ i _ _ bx0.out; have z0 := cell_box 5 bx0.out rfl; go_simp) ⟨Mv.set (Mv.refl _ _) _ _, (heap_setCell_same _ _ 5 _ _ _ (bx0.out)).trans rfl⟩ (fun _ _ h => absurd rfl h) ?_
    rintro V9 ⟨m9, nxV9⟩
    refine ptk ?_
    replace LN := hide (LN.out.mv m9 (fun g hg h => (AF.out g hg).elim (fun h2 => by have h : g = b0 := h; have := LT.out g h2; omega) (fun h2 => by have h : g = b0 := h; omega)))
    replace bx0 := hide nxV9
    clear nxV9
    refine wpAnyK_done (by kernel_rfl) ?_
    clear hS rbx0 rbx1 rbx2
    refine then_normal (hK _ _ ?_); clear hK K; refine sk fun K hK => rl ?_
    refine sl6 bx0 ?_
    replace bx2 := Xbb bx2 m9; refine ss6 (.int .i64 p.base) (.slice wa p.nw wc) (.int .i64 p.want) (.slice ga p.ng gc) (.slice da p.nd dc) (.slice (some ⟨gy, oy, none⟩) (p.nu + 1) ky) bx2 fun V10 m10 bx2 => ?_
    replace LN := hide (LN.out.mv m10 (fun g hg h => (AF.out g hg).elim (fun h2 => by have h : g = b2 := h; have := LT.out g h2; omega) (fun h2 => by have h : g = b2 := h; omega)))
    refine nt (hK _ _ ?_); clear hK K; refine wp_ret ?_
    try simp only [Exit.then, Exit.inBlock, ↓reduceIte, Nat.reduceEqDiff]
    obtain ⟨_, q2_0, q2_1, q2_2, q2_3, q2_4, q2_5⟩ := box6 bx2.out
    replace HB := Xhb (Xhb HB m9) m10; replace LO := Xlb (Xlb LO LT m9) LT m10; exact bodyPost_ret (v := .agg #[.int .i64 p.base, .slice wa p.nw wc, .int .i64 p.want, .slice ga p.ng gc, .slice da p.nd dc, .slice (some ⟨gy, oy, none⟩) (p.nu + 1) ky]) (by simp [results, Try.results80, go_sem, q2_0, q2_1, q2_2, q2_3, q2_4, q2_5]) rfl ⟨_, _, by rw [HD]; rfl, HB.out, LO.out, by rw [HD]; exact ⟨LN.out.wa, LN.out.go, LN.out.dn, LN.out.up, LN.out.aw, LN.out.ag, LN.out.ad⟩, fun g h => (AF.out g h).elim .inl (fun h2 => .inr (by omega))⟩

end Go.Proofs.Ytnkocikbapbbmaa
