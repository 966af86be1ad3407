/- LdL -/
import Derived.Test.YtnkocikbapbbmaaYnkPlay22
import Derived.Test.YtnkocikbapbbmaaYnkPlay9
/- impl.firstData (written by mkLdL.py) -/
namespace Go.Proofs.Ytnkocikbapbbmaa
open Go.RowKit
set_option linter.unusedVariables false
set_option linter.unusedSimpArgs false

/-- the texts of what waits -/
def fdT (p : Lk) : Nat → ByteArray := fun j => Flit.txt 1 (p.base + (j : Int)) (p.ws j)
theorem fd_step {w : World} {base n : Nat} {v : Value} {p : Lk} {b : ByteArray} (h : Rg w base v 2 (n + 1) (wF (snc (fdT p) n b) (snc (fun _ => false) n false))) (hb : b = fdT p n) : Rg w base v 2 (n + 1) (wF (fdT p) (fun _ => false)) := by
  subst hb
  refine h.congr (by decide) (fun j hj i hi => ?_)
  have e1 : snc (fdT p) n (fdT p n) j = fdT p j := by
    unfold snc; by_cases hl : j < n
    · rw [if_pos hl]
    · rw [if_neg hl, show j = n by omega]
  have e2 : snc (fun _ => false) n false j = false := by unfold snc; split <;> rfl
  unfold wF; rw [e1, e2]

set_option maxHeartbeats 4000000 in
set_option maxRecDepth 20000 in
theorem firstData_any (p : Lk) (wa ga da ua : Option Addr) (wc gc dc uc : Nat) (base : Nat) (w : World) (hr : Lr w base (.slice wa p.nw wc) (.slice ga p.ng gc) (.slice da p.nd dc) (.slice ua p.nu uc) p) (h0 : 0 ≤ p.base) (h1 : p.base ≤ 999900) (h3 : p.nw ≤ 8) :
    Calls Try.prog 70 #[.agg (l6 p.base (.slice wa p.nw wc) p.want (.slice ga p.ng gc) (.slice da p.nd dc) (.slice ua p.nu uc))] w fun e w' => ∃ v, e = .returned v ∧ Rg w' w.heap.size v 2 (min 3 p.nw) (wF (fdT p) (fun _ => false)) ∧ Below w.heap.size w w' := by
  by_cases e0 : p.nw = 0
  · have hmin : min 3 p.nw = 0 := by omega
    have hsl0 : ∀ W : World, (Instr.slice 22 (.slice wa p.nw wc) none (some (.int .i64 0)) none).run Try.prog W = .ok (.slice wa 0 wc) W := by intro W; cases wa <;> simp [go_sem, Try.underlying22, Instr.slice, Instr.sliceBounds, Instr.sliceBound, asIntOf, Addr.add, e0]
    have HB : Hid (Mv nob w w) := hide (Mv.refl _ _)
    go_enter Try.func70, Try.ntmps70
    refine sk fun K hK => rl ?_
    refine sbp #[.int .i64 p.base, .slice wa p.nw wc, .int .i64 p.want, .slice ga p.ng gc, .slice da p.nd dc, .slice ua p.nu uc] 30 fun V1 b0 hb0 m1 bx0 => ?_
    have o_0 : w.heap.size ≤ b0 := by omega
    clear hb0
    refine sv (.slice none 0 0) ?_
    refine nt (hK _ _ ?_); clear hK K; refine sk fun K hK => rl ?_
    refine sv (.slice none 0 0) ?_
    refine nt (hK _ _ ?_); clear hK K; refine sk fun K hK => sk fun K hK => rl ?_
    refine sv (.pointer (some ⟨b0, 1, none⟩)) ?_
    refine sl 1 bx0 ?_
    refine sv (.pointer (some ⟨b0, 1, none⟩)) ?_
    refine sl 1 bx0 ?_
    refine sg (.int .i64 (p.nw : Int)) ?_
    refine sg (.int .i64 0) (h := by have hmn : min (3 : Int) (p.nw : Int) = 0 := (by omega); go_simp) ?_
    refine sg (.slice wa 0 wc) (h := by have hsl := hsl0; go_simp) ?_
    refine sg (.int .i64 0) ?_
    refine sv (.int .i64 0) ?_
    refine nt (hK _ _ ?_); clear hK K; refine wp_block ?_; refine wp_loop_rounds 4 ?_; refine rounds_step ?_; refine sk fun K hK => rl ?_
    refine sg (.bool false) ?_
    refine nt (hK _ _ ?_); clear hK K; refine sk fun K hK => cf ?_; refine wp_exit ?_; refine then_exit ?_; refine then_exit ?_; refine inb_here rfl ?_; refine then_normal ?_; clear hK K; refine hK _ _ ?_; clear hK K; refine sk fun K hK => rl ?_
    refine sv (.slice none 0 0) ?_
    refine sv (.slice none 0 0) ?_
    refine nt (hK _ _ ?_); clear hK K; refine wp_ret ?_
    try simp only [Exit.then, Exit.inBlock, ↓reduceIte, Nat.reduceEqDiff]
    replace HB := Xhn HB m1; exact bodyPost_ret (v := .slice none 0 0) (by simp [results, Try.results70, go_sem]) rfl ⟨_, rfl, by rw [hmin]; exact .inl ⟨⟨_, rfl⟩, rfl⟩, HB.out.below⟩
  · obtain ⟨g, off, hwa, hcap, hg, hcells⟩ : ∃ g off, wa = some ⟨g, off, none⟩ ∧ p.nw ≤ wc ∧ g < w.heap.size ∧ ∀ x, x < p.nw → w.cell? ⟨g, off + x, none⟩ = some (tF p.ws x 0) := by
      rcases hr.wa with ⟨_, h⟩ | ⟨g, off, k, he, h1, hp, h0, h2, hwc, h4⟩
      · exact absurd h e0
      · simp only [Value.slice.injEq, true_and] at he
        obtain ⟨rfl, rfl⟩ := he
        refine ⟨g, off, rfl, h1, (hr.wa.lt g (rb_some hp)).2, fun x hx => ?_⟩
        have := h4 x (by omega)
        rw [Nat.div_one, Nat.mod_one] at this
        exact this
    subst hwa
    clear hr
    by_cases e1 : p.nw = 1
    · have hmin : min 3 p.nw = 1 := by omega
      have hsl0 : ∀ W : World, (Instr.slice 22 (.slice (some ⟨g, off, none⟩) p.nw wc) none (some (.int .i64 1)) none).run Try.prog W = .ok (.slice (some ⟨g, off, none⟩) 1 wc) W := by intro W; have hk : 1 ≤ wc := (by omega); have hk2 : ¬ ((wc : Int) < 1) := (by omega); simp [go_sem, Try.underlying22, Instr.slice, Instr.sliceBounds, Instr.sliceBound, asIntOf, Addr.add, hk, hk2]
      have hc0 : w.cell? ⟨g, off, none⟩ = some (.string (p.ws 0)) := by have := hcells 0 (by omega); simpa [tF] using this
      clear hcells
      have HB : Hid (Mv nob w w) := hide (Mv.refl _ _)
      have cw0 := hide hc0
      go_enter Try.func70, Try.ntmps70
      refine sk fun K hK => rl ?_
      refine sbp #[.int .i64 p.base, .slice (some ⟨g, off, none⟩) p.nw wc, .int .i64 p.want, .slice ga p.ng gc, .slice da p.nd dc, .slice ua p.nu uc] 30 fun V1 b0 hb0 m1 bx0 => ?_
      have o_0 : w.heap.size ≤ b0 := by omega
      replace cw0 := hide (m1.cell cw0.out (fun h => h))
      clear hb0
      refine sv (.slice none 0 0) ?_
      refine nt (hK _ _ ?_); clear hK K; refine sk fun K hK => rl ?_
      refine sv (.slice none 0 0) ?_
      refine nt (hK _ _ ?_); clear hK K; refine sk fun K hK => sk fun K hK => rl ?_
      refine sv (.pointer (some ⟨b0, 1, none⟩)) ?_
      refine sl 1 bx0 ?_
      refine sv (.pointer (some ⟨b0, 1, none⟩)) ?_
      refine sl 1 bx0 ?_
      refine sg (.int .i64 (p.nw : Int)) ?_
      refine sg (.int .i64 1) (h := by have hmn : min (3 : Int) (p.nw : Int) = 1 := (by omega); go_simp) ?_
      refine sg (.slice (some ⟨g, off, none⟩) 1 wc) (h := by have hsl := hsl0; have hk2 : ¬ ((wc : Int) < 1) := (by omega); go_simp) ?_
      refine sg (.int .i64 1) ?_
      refine sv (.int .i64 0) ?_
      refine nt (hK _ _ ?_); clear hK K; refine wp_block ?_; refine wp_loop_rounds 4 ?_; refine rounds_step ?_; refine sk fun K hK => rl ?_
      refine sg (.bool true) ?_
      refine nt (hK _ _ ?_); clear hK K; refine sk fun K hK => ct (wp_skip (then_normal (hK _ _ ?_))); clear hK K; refine sk fun K hK => wp_block (sk fun K hK => rl ?_)
      refine sv (.int .i64 0) ?_
      refine sg (.pointer (some ⟨g, off, none⟩)) ?_
      refine sg (.string (p.ws 0)) (h := by have hcw := cw0.out; go_simp) ?_
      refine sv (.int .i64 0) ?_
      refine sv (.string (p.ws 0)) ?_
      refine nt (hK _ _ ?_); clear hK K; refine rl ?_
      have FR : Hid (Rg V1 w.heap.size (.slice none 0 0) 2 0 (wF (fdT p) (fun _ => false))) := hide (.inl ⟨⟨_, rfl⟩, rfl⟩)
      have LX : Hid (∀ g, rb (.slice none 0 0) = some g → b0 < g ∧ g < V1.heap.size) := hide (fun g h => by cases h)
      refine sv (.slice none 0 0) ?_
      refine sv (.pointer (some ⟨b0, 0, none⟩)) ?_
      refine sl 0 bx0 ?_
      refine sv (.int .i64 0) ?_
      refine sg (.int .i64 (p.base + 0)) (h := by have hw0 : IntKind.i64.wrap p.base = p.base := i64wrap (by omega); have hwr : IntKind.i64.wrap (p.base + 0) = p.base + 0 := i64wrap (by omega); go_simp) ?_
      refine sv (.string (p.ws 0)) ?_
      refine sv (.agg #[.int .i64 1, .int .i64 (p.base + 0), .string (p.ws 0)]) ?_
      refine sw_call (by rfl) (by first | rfl | (go_simp; done)) (wireOf_any 1 (p.base + 0) (p.ws 0) V1) ?_
      rintro e V2 ⟨rfl, hbV2⟩
      have m2 : Mv (nob) V1 V2 := Mv.of_below hbV2
      refine ⟨_, rfl, ?_⟩
      refine pt ?_
      replace cw0 := hide (m2.cell cw0.out (fun h => h))
      replace FR := hide (FR.out.mv m2 (fun _ _ h => h))
      replace LX := hide ((fun g h => ⟨(LX.out g h).1, Nat.lt_of_lt_of_le (LX.out g h).2 m2.size⟩ : ∀ g, rb (.slice none 0 0) = some g → b0 < g ∧ g < V2.heap.size))
      clear hbV2
      refine sbs 1 #[.string (Flit.txt 1 (p.base + 0) (p.ws 0)), .bool false] 73 fun V3 b1 hb1 m3 bx1 => ?_
      replace bx0 := Xbn bx0 m2; have o0_1 := Xlo bx0 hb1
      have LT0 : ∀ g, rb (.slice none 0 0) = some g → b0 < g ∧ g < b1 := fun g h => by have := LX.out g h; omega
      replace cw0 := hide (m3.cell cw0.out (fun h => h))
      replace FR := hide (FR.out.mv m3 (fun _ _ h => h))
      replace LX := hide ((fun g h => ⟨(LX.out g h).1, Nat.lt_of_lt_of_le (LX.out g h).2 m3.size⟩ : ∀ g, rb (.slice none 0 0) = some g → b0 < g ∧ g < V3.heap.size))
      clear hb1
      have sz0 := lt_of_block bx1.out
      replace HB := Xhn (Xhn (Xhn HB m1) m2) m3; obtain ⟨g0, o0, k0, V4, hrun, hgr, hrg, hbl, hold⟩ := add_wire V3 w.heap.size (.slice none 0 0) 0 (fdT p) (fun _ => false) (Flit.txt 1 (p.base + 0) (p.ws 0)) false 28 b1 0 1 (cell_box 0 bx1.out rfl) (cell_box 1 bx1.out rfl) FR.out (by omega) HB.out.size
      have m4 : Mv (fun g => rb (.slice none 0 0) = some g) V3 V4 := Mv.of_grown hgr
      refine sw_valW (by rfl) (run_append_op _ _ 28 (by rfl) (by rfl) (by rfl) hrun) ?_
      refine pt ?_
      replace HB := hide (HB.out.step m4 (fun g hg h => by exfalso; have := LT0 g h; omega))
      replace cw0 := hide (m4.cell cw0.out (fun h => by have := LT0 _ h; omega))
      replace bx0 := Xbn bx0 m3; replace bx0 := hide (m4.box bx0.out (fun h => by have := LT0 _ h; omega))
      replace bx1 := hide (m4.box bx1.out (fun h => by have := LT0 _ h; omega))
      replace FR := hide (fd_step hrg (by simp [fdT]))
      replace LX : Hid (∀ g, rb (.slice (some ⟨g0, o0, none⟩) 1 k0) = some g → b0 < g ∧ g < V4.heap.size) := hide (fun g h => ⟨(show g0 = g from rb_blk h) ▸ hbl.elim (fun e => (LX.out _ e).1) (fun e => by omega), (FR.out.lt g h).2⟩)
      clear hrun hgr hrg hold hbl LT0 sz0
      refine sv (.slice (some ⟨g0, o0, none⟩) 1 k0) ?_
      refine wpList_nil (inb_norm (then_normal (hK _ _ ?_))); clear hK K; refine rl ?_
      clear bx1
      refine sg (.int .i64 1) (h := by have hw1 : IntKind.i64.wrap 1 = 1 := i64wrap (by omega); go_simp) ?_
      refine sv (.int .i64 1) ?_
      refine nt ?_; refine rounds_step ?_; refine sk fun K hK => rl ?_
      refine sg (.bool false) ?_
      refine nt (hK _ _ ?_); clear hK K; refine sk fun K hK => cf ?_; refine wp_exit ?_; refine then_exit ?_; refine then_exit ?_; refine inb_here rfl ?_; refine then_normal ?_; clear hK K; refine hK _ _ ?_; clear hK K; refine sk fun K hK => rl ?_
      refine sv (.slice (some ⟨g0, o0, none⟩) 1 k0) ?_
      refine sv (.slice (some ⟨g0, o0, none⟩) 1 k0) ?_
      refine nt (hK _ _ ?_); clear hK K; refine wp_ret ?_
      try simp only [Exit.then, Exit.inBlock, ↓reduceIte, Nat.reduceEqDiff]
      exact bodyPost_ret (v := .slice (some ⟨g0, o0, none⟩) 1 k0) (by simp [results, Try.results70, go_sem]) rfl ⟨_, rfl, by rw [hmin]; exact FR.out, HB.out.below⟩
    · by_cases e2 : p.nw = 2
      · have hmin : min 3 p.nw = 2 := by omega
        have hsl0 : ∀ W : World, (Instr.slice 22 (.slice (some ⟨g, off, none⟩) p.nw wc) none (some (.int .i64 2)) none).run Try.prog W = .ok (.slice (some ⟨g, off, none⟩) 2 wc) W := by intro W; have hk : 2 ≤ wc := (by omega); have hk2 : ¬ ((wc : Int) < 2) := (by omega); simp [go_sem, Try.underlying22, Instr.slice, Instr.sliceBounds, Instr.sliceBound, asIntOf, Addr.add, hk, hk2]
        have hc0 : w.cell? ⟨g, off, none⟩ = some (.string (p.ws 0)) := by have := hcells 0 (by omega); simpa [tF] using this
        have hc1 : w.cell? ⟨g, off + 1, none⟩ = some (.string (p.ws 1)) := by have := hcells 1 (by omega); simpa [tF] using this
        clear hcells
        have HB : Hid (Mv nob w w) := hide (Mv.refl _ _)
        have cw0 := hide hc0
        have cw1 := hide hc1
        go_enter Try.func70, Try.ntmps70
        refine sk fun K hK => rl ?_
        refine sbp #[.int .i64 p.base, .slice (some ⟨g, off, none⟩) p.nw wc, .int .i64 p.want, .slice ga p.ng gc, .slice da p.nd dc, .slice ua p.nu uc] 30 fun V1 b0 hb0 m1 bx0 => ?_
        have o_0 : w.heap.size ≤ b0 := by omega
        replace cw0 := hide (m1.cell cw0.out (fun h => h))
        replace cw1 := hide (m1.cell cw1.out (fun h => h))
        clear hb0
        refine sv (.slice none 0 0) ?_
        refine nt (hK _ _ ?_); clear hK K; refine sk fun K hK => rl ?_
        refine sv (.slice none 0 0) ?_
        refine nt (hK _ _ ?_); clear hK K; refine sk fun K hK => sk fun K hK => rl ?_
        refine sv (.pointer (some ⟨b0, 1, none⟩)) ?_
        refine sl 1 bx0 ?_
        refine sv (.pointer (some ⟨b0, 1, none⟩)) ?_
        refine sl 1 bx0 ?_
        refine sg (.int .i64 (p.nw : Int)) ?_
        refine sg (.int .i64 2) (h := by have hmn : min (3 : Int) (p.nw : Int) = 2 := (by omega); go_simp) ?_
        refine sg (.slice (some ⟨g, off, none⟩) 2 wc) (h := by have hsl := hsl0; have hk2 : ¬ ((wc : Int) < 2) := (by omega); go_simp) ?_
        refine sg (.int .i64 2) ?_
        refine sv (.int .i64 0) ?_
        refine nt (hK _ _ ?_); clear hK K; refine wp_block ?_; refine wp_loop_rounds 4 ?_; refine rounds_step ?_; refine sk fun K hK => rl ?_
        refine sg (.bool true) ?_
        refine nt (hK _ _ ?_); clear hK K; refine sk fun K hK => ct (wp_skip (then_normal (hK _ _ ?_))); clear hK K; refine sk fun K hK => wp_block (sk fun K hK => rl ?_)
        refine sv (.int .i64 0) ?_
        refine sg (.pointer (some ⟨g, off, none⟩)) ?_
        refine sg (.string (p.ws 0)) (h := by have hcw := cw0.out; go_simp) ?_
        refine sv (.int .i64 0) ?_
        refine sv (.string (p.ws 0)) ?_
        refine nt (hK _ _ ?_); clear hK K; refine rl ?_
        have FR : Hid (Rg V1 w.heap.size (.slice none 0 0) 2 0 (wF (fdT p) (fun _ => false))) := hide (.inl ⟨⟨_, rfl⟩, rfl⟩)
        have LX : Hid (∀ g, rb (.slice none 0 0) = some g → b0 < g ∧ g < V1.heap.size) := hide (fun g h => by cases h)
        refine sv (.slice none 0 0) ?_
        refine sv (.pointer (some ⟨b0, 0, none⟩)) ?_
        refine sl 0 bx0 ?_
        refine sv (.int .i64 0) ?_
        refine sg (.int .i64 (p.base + 0)) (h := by have hw0 : IntKind.i64.wrap p.base = p.base := i64wrap (by omega); have hwr : IntKind.i64.wrap (p.base + 0) = p.base + 0 := i64wrap (by omega); go_simp) ?_
        refine sv (.string (p.ws 0)) ?_
        refine sv (.agg #[.int .i64 1, .int .i64 (p.base + 0), .string (p.ws 0)]) ?_
        refine sw_call (by rfl) (by first | rfl | (go_simp; done)) (wireOf_any 1 (p.base + 0) (p.ws 0) V1) ?_
        rintro e V2 ⟨rfl, hbV2⟩
        have m2 : Mv (nob) V1 V2 := Mv.of_below hbV2
        refine ⟨_, rfl, ?_⟩
        refine pt ?_
        replace cw0 := hide (m2.cell cw0.out (fun h => h))
        replace cw1 := hide (m2.cell cw1.out (fun h => h))
        replace FR := hide (FR.out.mv m2 (fun _ _ h => h))
        replace LX := hide ((fun g h => ⟨(LX.out g h).1, Nat.lt_of_lt_of_le (LX.out g h).2 m2.size⟩ : ∀ g, rb (.slice none 0 0) = some g → b0 < g ∧ g < V2.heap.size))
        clear hbV2
        refine sbs 1 #[.string (Flit.txt 1 (p.base + 0) (p.ws 0)), .bool false] 73 fun V3 b1 hb1 m3 bx1 => ?_
        replace bx0 := Xbn bx0 m2; have o0_1 := Xlo bx0 hb1
        have LT0 : ∀ g, rb (.slice none 0 0) = some g → b0 < g ∧ g < b1 := fun g h => by have := LX.out g h; omega
        replace cw0 := hide (m3.cell cw0.out (fun h => h))
        replace cw1 := hide (m3.cell cw1.out (fun h => h))
        replace FR := hide (FR.out.mv m3 (fun _ _ h => h))
        replace LX := hide ((fun g h => ⟨(LX.out g h).1, Nat.lt_of_lt_of_le (LX.out g h).2 m3.size⟩ : ∀ g, rb (.slice none 0 0) = some g → b0 < g ∧ g < V3.heap.size))
        clear hb1
        have sz0 := lt_of_block bx1.out
        replace HB := Xhn (Xhn (Xhn HB m1) m2) m3; obtain ⟨g0, o0, k0, V4, hrun, hgr, hrg, hbl, hold⟩ := add_wire V3 w.heap.size (.slice none 0 0) 0 (fdT p) (fun _ => false) (Flit.txt 1 (p.base + 0) (p.ws 0)) false 28 b1 0 1 (cell_box 0 bx1.out rfl) (cell_box 1 bx1.out rfl) FR.out (by omega) HB.out.size
        have m4 : Mv (fun g => rb (.slice none 0 0) = some g) V3 V4 := Mv.of_grown hgr
        refine sw_valW (by rfl) (run_append_op _ _ 28 (by rfl) (by rfl) (by rfl) hrun) ?_
        refine pt ?_
        replace HB := hide (HB.out.step m4 (fun g hg h => by exfalso; have := LT0 g h; omega))
        replace cw0 := hide (m4.cell cw0.out (fun h => by have := LT0 _ h; omega))
        replace cw1 := hide (m4.cell cw1.out (fun h => by have := LT0 _ h; omega))
        replace bx0 := Xbn bx0 m3; replace bx0 := hide (m4.box bx0.out (fun h => by have := LT0 _ h; omega))
        replace bx1 := hide (m4.box bx1.out (fun h => by have := LT0 _ h; omega))
        replace FR := hide (fd_step hrg (by simp [fdT]))
        replace LX : Hid (∀ g, rb (.slice (some ⟨g0, o0, none⟩) 1 k0) = some g → b0 < g ∧ g < V4.heap.size) := hide (fun g h => ⟨(show g0 = g from rb_blk h) ▸ hbl.elim (fun e => (LX.out _ e).1) (fun e => by omega), (FR.out.lt g h).2⟩)
        clear hrun hgr hrg hold hbl LT0 sz0
        refine sv (.slice (some ⟨g0, o0, none⟩) 1 k0) ?_
        refine wpList_nil (inb_norm (then_normal (hK _ _ ?_))); clear hK K; refine rl ?_
        clear bx1
        refine sg (.int .i64 1) (h := by have hw1 : IntKind.i64.wrap 1 = 1 := i64wrap (by omega); go_simp) ?_
        refine sv (.int .i64 1) ?_
        refine nt ?_; refine rounds_step ?_; refine sk fun K hK => rl ?_
        refine sg (.bool true) ?_
        refine nt (hK _ _ ?_); clear hK K; refine sk fun K hK => ct (wp_skip (then_normal (hK _ _ ?_))); clear hK K; refine sk fun K hK => wp_block (sk fun K hK => rl ?_)
        refine sv (.int .i64 1) ?_
        refine sg (.pointer (some ⟨g, off + 1, none⟩)) ?_
        refine sg (.string (p.ws 1)) (h := by have hcw := cw1.out; go_simp) ?_
        refine sv (.int .i64 1) ?_
        refine sv (.string (p.ws 1)) ?_
        refine nt (hK _ _ ?_); clear hK K; refine rl ?_
        refine sv (.slice (some ⟨g0, o0, none⟩) 1 k0) ?_
        refine sv (.pointer (some ⟨b0, 0, none⟩)) ?_
        refine sl 0 bx0 ?_
        refine sv (.int .i64 1) ?_
        refine sg (.int .i64 (p.base + 1)) (h := by have hw0 : IntKind.i64.wrap p.base = p.base := i64wrap (by omega); have hwr : IntKind.i64.wrap (p.base + 1) = p.base + 1 := i64wrap (by omega); go_simp) ?_
        refine sv (.string (p.ws 1)) ?_
        refine sv (.agg #[.int .i64 1, .int .i64 (p.base + 1), .string (p.ws 1)]) ?_
        refine sw_call (by rfl) (by first | rfl | (go_simp; done)) (wireOf_any 1 (p.base + 1) (p.ws 1) V4) ?_
        rintro e V5 ⟨rfl, hbV5⟩
        have m5 : Mv (nob) V4 V5 := Mv.of_below hbV5
        refine ⟨_, rfl, ?_⟩
        refine pt ?_
        replace cw0 := hide (m5.cell cw0.out (fun h => h))
        replace cw1 := hide (m5.cell cw1.out (fun h => h))
        replace FR := hide (FR.out.mv m5 (fun _ _ h => h))
        replace LX := hide ((fun g h => ⟨(LX.out g h).1, Nat.lt_of_lt_of_le (LX.out g h).2 m5.size⟩ : ∀ g, rb (.slice (some ⟨g0, o0, none⟩) 1 k0) = some g → b0 < g ∧ g < V5.heap.size))
        clear hbV5
        refine sbs 1 #[.string (Flit.txt 1 (p.base + 1) (p.ws 1)), .bool false] 73 fun V6 b2 hb2 m6 bx2 => ?_
        replace bx0 := Xbn bx0 m5; have o1_2 := Xlo bx0 hb2
        have LT1 : ∀ g, rb (.slice (some ⟨g0, o0, none⟩) 1 k0) = some g → b0 < g ∧ g < b2 := fun g h => by have := LX.out g h; omega
        replace cw0 := hide (m6.cell cw0.out (fun h => h))
        replace cw1 := hide (m6.cell cw1.out (fun h => h))
        replace FR := hide (FR.out.mv m6 (fun _ _ h => h))
        replace LX := hide ((fun g h => ⟨(LX.out g h).1, Nat.lt_of_lt_of_le (LX.out g h).2 m6.size⟩ : ∀ g, rb (.slice (some ⟨g0, o0, none⟩) 1 k0) = some g → b0 < g ∧ g < V6.heap.size))
        clear hb2
        have sz1 := lt_of_block bx2.out
        replace HB := Xhn (Xhn HB m5) m6; obtain ⟨g1, o1, k1, V7, hrun, hgr, hrg, hbl, hold⟩ := add_wire V6 w.heap.size (.slice (some ⟨g0, o0, none⟩) 1 k0) 1 (fdT p) (fun _ => false) (Flit.txt 1 (p.base + 1) (p.ws 1)) false 28 b2 0 1 (cell_box 0 bx2.out rfl) (cell_box 1 bx2.out rfl) FR.out (by omega) HB.out.size
        have m7 : Mv (fun g => rb (.slice (some ⟨g0, o0, none⟩) 1 k0) = some g) V6 V7 := Mv.of_grown hgr
        refine sw_valW (by rfl) (run_append_op _ _ 28 (by rfl) (by rfl) (by rfl) hrun) ?_
        refine pt ?_
        replace HB := hide (HB.out.step m7 (fun g hg h => by exfalso; have := LT1 g h; omega))
        replace cw0 := hide (m7.cell cw0.out (fun h => by have := LT1 _ h; omega))
        replace cw1 := hide (m7.cell cw1.out (fun h => by have := LT1 _ h; omega))
        replace bx0 := Xbn bx0 m6; replace bx0 := hide (m7.box bx0.out (fun h => by have := LT1 _ h; omega))
        replace bx2 := hide (m7.box bx2.out (fun h => by have := LT1 _ h; omega))
        replace FR := hide (fd_step hrg (by simp [fdT]))
        replace LX : Hid (∀ g, rb (.slice (some ⟨g1, o1, none⟩) 2 k1) = some g → b0 < g ∧ g < V7.heap.size) := hide (fun g h => ⟨(show g1 = g from rb_blk h) ▸ hbl.elim (fun e => (LX.out _ e).1) (fun e => by omega), (FR.out.lt g h).2⟩)
        clear hrun hgr hrg hold hbl LT1 sz1
        refine sv (.slice (some ⟨g1, o1, none⟩) 2 k1) ?_
        refine wpList_nil (inb_norm (then_normal (hK _ _ ?_))); clear hK K; refine rl ?_
        clear bx2
        refine sg (.int .i64 2) (h := by have hw1 : IntKind.i64.wrap 2 = 2 := i64wrap (by omega); go_simp) ?_
        refine sv (.int .i64 2) ?_
        refine nt ?_; refine rounds_step ?_; refine sk fun K hK => rl ?_
        refine sg (.bool false) ?_
        refine nt (hK _ _ ?_); clear hK K; refine sk fun K hK => cf ?_; refine wp_exit ?_; refine then_exit ?_; refine then_exit ?_; refine inb_here rfl ?_; refine then_normal ?_; clear hK K; refine hK _ _ ?_; clear hK K; refine sk fun K hK => rl ?_
        refine sv (.slice (some ⟨g1, o1, none⟩) 2 k1) ?_
        refine sv (.slice (some ⟨g1, o1, none⟩) 2 k1) ?_
        refine nt (hK _ _ ?_); clear hK K; refine wp_ret ?_
        try simp only [Exit.then, Exit.inBlock, ↓reduceIte, Nat.reduceEqDiff]
        exact bodyPost_ret (v := .slice (some ⟨g1, o1, none⟩) 2 k1) (by simp [results, Try.results70, go_sem]) rfl ⟨_, rfl, by rw [hmin]; exact FR.out, HB.out.below⟩
      · have hmin : min 3 p.nw = 3 := by omega
        have hsl0 : ∀ W : World, (Instr.slice 22 (.slice (some ⟨g, off, none⟩) p.nw wc) none (some (.int .i64 3)) none).run Try.prog W = .ok (.slice (some ⟨g, off, none⟩) 3 wc) W := by intro W; have hk : 3 ≤ wc := (by omega); have hk2 : ¬ ((wc : Int) < 3) := (by omega); simp [go_sem, Try.underlying22, Instr.slice, Instr.sliceBounds, Instr.sliceBound, asIntOf, Addr.add, hk, hk2]
        have hc0 : w.cell? ⟨g, off, none⟩ = some (.string (p.ws 0)) := by have := hcells 0 (by omega); simpa [tF] using this
        have hc1 : w.cell? ⟨g, off + 1, none⟩ = some (.string (p.ws 1)) := by have := hcells 1 (by omega); simpa [tF] using this
        have hc2 : w.cell? ⟨g, off + 2, none⟩ = some (.string (p.ws 2)) := by have := hcells 2 (by omega); simpa [tF] using this
        clear hcells
        have HB : Hid (Mv nob w w) := hide (Mv.refl _ _)
        have cw0 := hide hc0
        have cw1 := hide hc1
        have cw2 := hide hc2
        go_enter Try.func70, Try.ntmps70
        refine sk fun K hK => rl ?_
        refine sbp #[.int .i64 p.base, .slice (some ⟨g, off, none⟩) p.nw wc, .int .i64 p.want, .slice ga p.ng gc, .slice da p.nd dc, .slice ua p.nu uc] 30 fun V1 b0 hb0 m1 bx0 => ?_
        have o_0 : w.heap.size ≤ b0 := by omega
        replace cw0 := hide (m1.cell cw0.out (fun h => h))
        replace cw1 := hide (m1.cell cw1.out (fun h => h))
        replace cw2 := hide (m1.cell cw2.out (fun h => h))
        clear hb0
        refine sv (.slice none 0 0) ?_
        refine nt (hK _ _ ?_); clear hK K; refine sk fun K hK => rl ?_
        refine sv (.slice none 0 0) ?_
        refine nt (hK _ _ ?_); clear hK K; refine sk fun K hK => sk fun K hK => rl ?_
        refine sv (.pointer (some ⟨b0, 1, none⟩)) ?_
        refine sl 1 bx0 ?_
        refine sv (.pointer (some ⟨b0, 1, none⟩)) ?_
        refine sl 1 bx0 ?_
        refine sg (.int .i64 (p.nw : Int)) ?_
        refine sg (.int .i64 3) (h := by have hmn : min (3 : Int) (p.nw : Int) = 3 := (by omega); have hm2 : ¬ ((p.nw : Int) < 3) := (by omega); go_simp) ?_
        refine sg (.slice (some ⟨g, off, none⟩) 3 wc) (h := by have hsl := hsl0; have hk2 : ¬ ((wc : Int) < 3) := (by omega); go_simp) ?_
        refine sg (.int .i64 3) ?_
        refine sv (.int .i64 0) ?_
        refine nt (hK _ _ ?_); clear hK K; refine wp_block ?_; refine wp_loop_rounds 4 ?_; refine rounds_step ?_; refine sk fun K hK => rl ?_
        refine sg (.bool true) ?_
        refine nt (hK _ _ ?_); clear hK K; refine sk fun K hK => ct (wp_skip (then_normal (hK _ _ ?_))); clear hK K; refine sk fun K hK => wp_block (sk fun K hK => rl ?_)
        refine sv (.int .i64 0) ?_
        refine sg (.pointer (some ⟨g, off, none⟩)) ?_
        refine sg (.string (p.ws 0)) (h := by have hcw := cw0.out; go_simp) ?_
        refine sv (.int .i64 0) ?_
        refine sv (.string (p.ws 0)) ?_
        refine nt (hK _ _ ?_); clear hK K; refine rl ?_
        have FR : Hid (Rg V1 w.heap.size (.slice none 0 0) 2 0 (wF (fdT p) (fun _ => false))) := hide (.inl ⟨⟨_, rfl⟩, rfl⟩)
        have LX : Hid (∀ g, rb (.slice none 0 0) = some g → b0 < g ∧ g < V1.heap.size) := hide (fun g h => by cases h)
        refine sv (.slice none 0 0) ?_
        refine sv (.pointer (some ⟨b0, 0, none⟩)) ?_
        refine sl 0 bx0 ?_
        refine sv (.int .i64 0) ?_
        refine sg (.int .i64 (p.base + 0)) (h := by have hw0 : IntKind.i64.wrap p.base = p.base := i64wrap (by omega); have hwr : IntKind.i64.wrap (p.base + 0) = p.base + 0 := i64wrap (by omega); go_simp) ?_
        refine sv (.string (p.ws 0)) ?_
        refine sv (.agg #[.int .i64 1, .int .i64 (p.base + 0), .string (p.ws 0)]) ?_
        refine sw_call (by rfl) (by first | rfl | (go_simp; done)) (wireOf_any 1 (p.base + 0) (p.ws 0) V1) ?_
        rintro e V2 ⟨rfl, hbV2⟩
        have m2 : Mv (nob) V1 V2 := Mv.of_below hbV2
        refine ⟨_, rfl, ?_⟩
        refine pt ?_
        replace cw0 := hide (m2.cell cw0.out (fun h => h))
        replace cw1 := hide (m2.cell cw1.out (fun h => h))
        replace cw2 := hide (m2.cell cw2.out (fun h => h))
        replace FR := hide (FR.out.mv m2 (fun _ _ h => h))
        replace LX := hide ((fun g h => ⟨(LX.out g h).1, Nat.lt_of_lt_of_le (LX.out g h).2 m2.size⟩ : ∀ g, rb (.slice none 0 0) = some g → b0 < g ∧ g < V2.heap.size))
        clear hbV2
        refine sbs 1 #[.string (Flit.txt 1 (p.base + 0) (p.ws 0)), .bool false] 73 fun V3 b1 hb1 m3 bx1 => ?_
        replace bx0 := Xbn bx0 m2; have o0_1 := Xlo bx0 hb1
        have LT0 : ∀ g, rb (.slice none 0 0) = some g → b0 < g ∧ g < b1 := fun g h => by have := LX.out g h; omega
        replace cw0 := hide (m3.cell cw0.out (fun h => h))
        replace cw1 := hide (m3.cell cw1.out (fun h => h))
        replace cw2 := hide (m3.cell cw2.out (fun h => h))
        replace FR := hide (FR.out.mv m3 (fun _ _ h => h))
        replace LX := hide ((fun g h => ⟨(LX.out g h).1, Nat.lt_of_lt_of_le (LX.out g h).2 m3.size⟩ : ∀ g, rb (.slice none 0 0) = some g → b0 < g ∧ g < V3.heap.size))
        clear hb1
        have sz0 := lt_of_block bx1.out
        replace HB := Xhn (Xhn (Xhn HB m1) m2) m3; obtain ⟨g0, o0, k0, V4, hrun, hgr, hrg, hbl, hold⟩ := add_wire V3 w.heap.size (.slice none 0 0) 0 (fdT p) (fun _ => false) (Flit.txt 1 (p.base + 0) (p.ws 0)) false 28 b1 0 1 (cell_box 0 bx1.out rfl) (cell_box 1 bx1.out rfl) FR.out (by omega) HB.out.size
        have m4 : Mv (fun g => rb (.slice none 0 0) = some g) V3 V4 := Mv.of_grown hgr
        refine sw_valW (by rfl) (run_append_op _ _ 28 (by rfl) (by rfl) (by rfl) hrun) ?_
        refine pt ?_
        replace HB := hide (HB.out.step m4 (fun g hg h => by exfalso; have := LT0 g h; omega))
        replace cw0 := hide (m4.cell cw0.out (fun h => by have := LT0 _ h; omega))
        replace cw1 := hide (m4.cell cw1.out (fun h => by have := LT0 _ h; omega))
        replace cw2 := hide (m4.cell cw2.out (fun h => by have := LT0 _ h; omega))
        replace bx0 := Xbn bx0 m3; replace bx0 := hide (m4.box bx0.out (fun h => by have := LT0 _ h; omega))
        replace bx1 := hide (m4.box bx1.out (fun h => by have := LT0 _ h; omega))
        replace FR := hide (fd_step hrg (by simp [fdT]))
        replace LX : Hid (∀ g, rb (.slice (some ⟨g0, o0, none⟩) 1 k0) = some g → b0 < g ∧ g < V4.heap.size) := hide (fun g h => ⟨(show g0 = g from rb_blk h) ▸ hbl.elim (fun e => (LX.out _ e).1) (fun e => by omega), (FR.out.lt g h).2⟩)
        clear hrun hgr hrg hold hbl LT0 sz0
        refine sv (.slice (some ⟨g0, o0, none⟩) 1 k0) ?_
        refine wpList_nil (inb_norm (then_normal (hK _ _ ?_))); clear hK K; refine rl ?_
        clear bx1
        refine sg (.int .i64 1) (h := by have hw1 : IntKind.i64.wrap 1 = 1 := i64wrap (by omega); go_simp) ?_
        refine sv (.int .i64 1) ?_
        refine nt ?_; refine rounds_step ?_; refine sk fun K hK => rl ?_
        refine sg (.bool true) ?_
        refine nt (hK _ _ ?_); clear hK K; refine sk fun K hK => ct (wp_skip (then_normal (hK _ _ ?_))); clear hK K; refine sk fun K hK => wp_block (sk fun K hK => rl ?_)
        refine sv (.int .i64 1) ?_
        refine sg (.pointer (some ⟨g, off + 1, none⟩)) ?_
        refine sg (.string (p.ws 1)) (h := by have hcw := cw1.out; go_simp) ?_
        refine sv (.int .i64 1) ?_
        refine sv (.string (p.ws 1)) ?_
        refine nt (hK _ _ ?_); clear hK K; refine rl ?_
        refine sv (.slice (some ⟨g0, o0, none⟩) 1 k0) ?_
        refine sv (.pointer (some ⟨b0, 0, none⟩)) ?_
        refine sl 0 bx0 ?_
        refine sv (.int .i64 1) ?_
        refine sg (.int .i64 (p.base + 1)) (h := by have hw0 : IntKind.i64.wrap p.base = p.base := i64wrap (by omega); have hwr : IntKind.i64.wrap (p.base + 1) = p.base + 1 := i64wrap (by omega); go_simp) ?_
        refine sv (.string (p.ws 1)) ?_
        refine sv (.agg #[.int .i64 1, .int .i64 (p.base + 1), .string (p.ws 1)]) ?_
        refine sw_call (by rfl) (by first | rfl | (go_simp; done)) (wireOf_any 1 (p.base + 1) (p.ws 1) V4) ?_
        rintro e V5 ⟨rfl, hbV5⟩
        have m5 : Mv (nob) V4 V5 := Mv.of_below hbV5
        refine ⟨_, rfl, ?_⟩
        refine pt ?_
        replace cw0 := hide (m5.cell cw0.out (fun h => h))
        replace cw1 := hide (m5.cell cw1.out (fun h => h))
        replace cw2 := hide (m5.cell cw2.out (fun h => h))
        replace FR := hide (FR.out.mv m5 (fun _ _ h => h))
        replace LX := hide ((fun g h => ⟨(LX.out g h).1, Nat.lt_of_lt_of_le (LX.out g h).2 m5.size⟩ : ∀ g, rb (.slice (some ⟨g0, o0, none⟩) 1 k0) = some g → b0 < g ∧ g < V5.heap.size))
        clear hbV5
        refine sbs 1 #[.string (Flit.txt 1 (p.base + 1) (p.ws 1)), .bool false] 73 fun V6 b2 hb2 m6 bx2 => ?_
        replace bx0 := Xbn bx0 m5; have o1_2 := Xlo bx0 hb2
        have LT1 : ∀ g, rb (.slice (some ⟨g0, o0, none⟩) 1 k0) = some g → b0 < g ∧ g < b2 := fun g h => by have := LX.out g h; omega
        replace cw0 := hide (m6.cell cw0.out (fun h => h))
        replace cw1 := hide (m6.cell cw1.out (fun h => h))
        replace cw2 := hide (m6.cell cw2.out (fun h => h))
        replace FR := hide (FR.out.mv m6 (fun _ _ h => h))
        replace LX := hide ((fun g h => ⟨(LX.out g h).1, Nat.lt_of_lt_of_le (LX.out g h).2 m6.size⟩ : ∀ g, rb (.slice (some ⟨g0, o0, none⟩) 1 k0) = some g → b0 < g ∧ g < V6.heap.size))
        clear hb2
        have sz1 := lt_of_block bx2.out
        replace HB := Xhn (Xhn HB m5) m6; obtain ⟨g1, o1, k1, V7, hrun, hgr, hrg, hbl, hold⟩ := add_wire V6 w.heap.size (.slice (some ⟨g0, o0, none⟩) 1 k0) 1 (fdT p) (fun _ => false) (Flit.txt 1 (p.base + 1) (p.ws 1)) false 28 b2 0 1 (cell_box 0 bx2.out rfl) (cell_box 1 bx2.out rfl) FR.out (by omega) HB.out.size
        have m7 : Mv (fun g => rb (.slice (some ⟨g0, o0, none⟩) 1 k0) = some g) V6 V7 := Mv.of_grown hgr
        refine sw_valW (by rfl) (run_append_op _ _ 28 (by rfl) (by rfl) (by rfl) hrun) ?_
        refine pt ?_
        replace HB := hide (HB.out.step m7 (fun g hg h => by exfalso; have := LT1 g h; omega))
        replace cw0 := hide (m7.cell cw0.out (fun h => by have := LT1 _ h; omega))
        replace cw1 := hide (m7.cell cw1.out (fun h => by have := LT1 _ h; omega))
        replace cw2 := hide (m7.cell cw2.out (fun h => by have := LT1 _ h; omega))
        replace bx0 := Xbn bx0 m6; replace bx0 := hide (m7.box bx0.out (fun h => by have := LT1 _ h; omega))
        replace bx2 := hide (m7.box bx2.out (fun h => by have := LT1 _ h; omega))
        replace FR := hide (fd_step hrg (by simp [fdT]))
        replace LX : Hid (∀ g, rb (.slice (some ⟨g1, o1, none⟩) 2 k1) = some g → b0 < g ∧ g < V7.heap.size) := hide (fun g h => ⟨(show g1 = g from rb_blk h) ▸ hbl.elim (fun e => (LX.out _ e).1) (fun e => by omega), (FR.out.lt g h).2⟩)
        clear hrun hgr hrg hold hbl LT1 sz1
        refine sv (.slice (some ⟨g1, o1, none⟩) 2 k1) ?_
        refine wpList_nil (inb_norm (then_normal (hK _ _ ?_))); clear hK K; refine rl ?_
        clear bx2
        refine sg (.int .i64 2) (h := by have hw1 : IntKind.i64.wrap 2 = 2 := i64wrap (by omega); go_simp) ?_
        refine sv (.int .i64 2) ?_
        refine nt ?_; refine rounds_step ?_; refine sk fun K hK => rl ?_
        refine sg (.bool true) ?_
        refine nt (hK _ _ ?_); clear hK K; refine sk fun K hK => ct (wp_skip (then_normal (hK _ _ ?_))); clear hK K; refine sk fun K hK => wp_block (sk fun K hK => rl ?_)
        refine sv (.int .i64 2) ?_
        refine sg (.pointer (some ⟨g, off + 2, none⟩)) ?_
        refine sg (.string (p.ws 2)) (h := by have hcw := cw2.out; go_simp) ?_
        refine sv (.int .i64 2) ?_
        refine sv (.string (p.ws 2)) ?_
        refine nt (hK _ _ ?_); clear hK K; refine rl ?_
        refine sv (.slice (some ⟨g1, o1, none⟩) 2 k1) ?_
        refine sv (.pointer (some ⟨b0, 0, none⟩)) ?_
        refine sl 0 bx0 ?_
        refine sv (.int .i64 2) ?_
        refine sg (.int .i64 (p.base + 2)) (h := by have hw0 : IntKind.i64.wrap p.base = p.base := i64wrap (by omega); have hwr : IntKind.i64.wrap (p.base + 2) = p.base + 2 := i64wrap (by omega); go_simp) ?_
        refine sv (.string (p.ws 2)) ?_
        refine sv (.agg #[.int .i64 1, .int .i64 (p.base + 2), .string (p.ws 2)]) ?_
        refine sw_call (by rfl) (by first | rfl | (go_simp; done)) (wireOf_any 1 (p.base + 2) (p.ws 2) V7) ?_
        rintro e V8 ⟨rfl, hbV8⟩
        have m8 : Mv (nob) V7 V8 := Mv.of_below hbV8
        refine ⟨_, rfl, ?_⟩
        refine pt ?_
        replace cw0 := hide (m8.cell cw0.out (fun h => h))
        replace cw1 := hide (m8.cell cw1.out (fun h => h))
        replace cw2 := hide (m8.cell cw2.out (fun h => h))
        replace FR := hide (FR.out.mv m8 (fun _ _ h => h))
        replace LX := hide ((fun g h => ⟨(LX.out g h).1, Nat.lt_of_lt_of_le (LX.out g h).2 m8.size⟩ : ∀ g, rb (.slice (some ⟨g1, o1, none⟩) 2 k1) = some g → b0 < g ∧ g < V8.heap.size))
        clear hbV8
        refine sbs 1 #[.string (Flit.txt 1 (p.base + 2) (p.ws 2)), .bool false] 73 fun V9 b3 hb3 m9 bx3 => ?_
        replace bx0 := Xbn bx0 m8; have o1_3 := Xlo bx0 hb3; have o2_3 := Xlo bx0 hb3
        have LT2 : ∀ g, rb (.slice (some ⟨g1, o1, none⟩) 2 k1) = some g → b0 < g ∧ g < b3 := fun g h => by have := LX.out g h; omega
        replace cw0 := hide (m9.cell cw0.out (fun h => h))
        replace cw1 := hide (m9.cell cw1.out (fun h => h))
        replace cw2 := hide (m9.cell cw2.out (fun h => h))
        replace FR := hide (FR.out.mv m9 (fun _ _ h => h))
        replace LX := hide ((fun g h => ⟨(LX.out g h).1, Nat.lt_of_lt_of_le (LX.out g h).2 m9.size⟩ : ∀ g, rb (.slice (some ⟨g1, o1, none⟩) 2 k1) = some g → b0 < g ∧ g < V9.heap.size))
        clear hb3
        have sz2 := lt_of_block bx3.out
        replace HB := Xhn (Xhn HB m8) m9; obtain ⟨g2, o2, k2, V10, hrun, hgr, hrg, hbl, hold⟩ := add_wire V9 w.heap.size (.slice (some ⟨g1, o1, none⟩) 2 k1) 2 (fdT p) (fun _ => false) (Flit.txt 1 (p.base + 2) (p.ws 2)) false 28 b3 0 1 (cell_box 0 bx3.out rfl) (cell_box 1 bx3.out rfl) FR.out (by omega) HB.out.size
        have m10 : Mv (fun g => rb (.slice (some ⟨g1, o1, none⟩) 2 k1) = some g) V9 V10 := Mv.of_grown hgr
        refine sw_valW (by rfl) (run_append_op _ _ 28 (by rfl) (by rfl) (by rfl) hrun) ?_
        refine pt ?_
        replace HB := hide (HB.out.step m10 (fun g hg h => by exfalso; have := LT2 g h; omega))
        replace cw0 := hide (m10.cell cw0.out (fun h => by have := LT2 _ h; omega))
        replace cw1 := hide (m10.cell cw1.out (fun h => by have := LT2 _ h; omega))
        replace cw2 := hide (m10.cell cw2.out (fun h => by have := LT2 _ h; omega))
        replace bx0 := Xbn bx0 m9; replace bx0 := hide (m10.box bx0.out (fun h => by have := LT2 _ h; omega))
        replace bx3 := hide (m10.box bx3.out (fun h => by have := LT2 _ h; omega))
        replace FR := hide (fd_step hrg (by simp [fdT]))
        replace LX : Hid (∀ g, rb (.slice (some ⟨g2, o2, none⟩) 3 k2) = some g → b0 < g ∧ g < V10.heap.size) := hide (fun g h => ⟨(show g2 = g from rb_blk h) ▸ hbl.elim (fun e => (LX.out _ e).1) (fun e => by omega), (FR.out.lt g h).2⟩)
        clear hrun hgr hrg hold hbl LT2 sz2
        refine sv (.slice (some ⟨g2, o2, none⟩) 3 k2) ?_
        refine wpList_nil (inb_norm (then_normal (hK _ _ ?_))); clear hK K; refine rl ?_
        clear bx3
        refine sg (.int .i64 3) (h := by have hw1 : IntKind.i64.wrap 3 = 3 := i64wrap (by omega); go_simp) ?_
        refine sv (.int .i64 3) ?_
        refine nt ?_; refine rounds_step ?_; refine sk fun K hK => rl ?_
        refine sg (.bool false) ?_
        refine nt (hK _ _ ?_); clear hK K; refine sk fun K hK => cf ?_; refine wp_exit ?_; refine then_exit ?_; refine then_exit ?_; refine inb_here rfl ?_; refine then_normal ?_; clear hK K; refine hK _ _ ?_; clear hK K; refine sk fun K hK => rl ?_
        refine sv (.slice (some ⟨g2, o2, none⟩) 3 k2) ?_
        refine sv (.slice (some ⟨g2, o2, none⟩) 3 k2) ?_
        refine nt (hK _ _ ?_); clear hK K; refine wp_ret ?_
        try simp only [Exit.then, Exit.inBlock, ↓reduceIte, Nat.reduceEqDiff]
        exact bodyPost_ret (v := .slice (some ⟨g2, o2, none⟩) 3 k2) (by simp [results, Try.results70, go_sem]) rfl ⟨_, rfl, by rw [hmin]; exact FR.out, HB.out.below⟩

end Go.Proofs.Ytnkocikbapbbmaa
