/- HnB -/
import Derived.Test.YtlalldlbgnlbjaaGreatDoorYomeGot43
/- a home goes on behind the last that is done, behind data (written by mkHnB.py) -/
namespace Go.Proofs.YtlalldlbgnlbjaaGreatDoor
open Go.RowKit
set_option linter.unusedVariables false
set_option linter.unusedSimpArgs false

/-- what a home that went on hands back -/
abbrev rvR (E : Nat → Addr) (R : Bool × Hm.Ln × List Hm.Mg) : Value := if R.1 = true then .nilIface else rfV R.2.1.own (E 1)
theorem goOn_r (E : Nat → Addr) (base hb : Nat) (L : Hm.Ln) (line : Int) (ms : List Hm.Mg) (sa : Option Addr) (sc : Nat) (qa : Option Addr) (qc : Nat) (ta : Option Addr) (tc : Nat) (w : World) (h : Hr E w base hb L line ms sa sc qa qc ta tc) (hgd : Gd L) (hb1 : 1 ≤ L.bu) (hb5 : L.bu ≤ 5) (hn : ms.length ≤ 1000) (R : Bool × Hm.Ln × List Hm.Mg) (hR : Hm.nextR line L.q (Hm.grantL L L.bu L.wt) (ms ++ [Hm.mGrant L.bu line L.wt L.mem]) = R) :
    Calls Tryz.prog 90 #[.pointer (some ⟨hb, 0, none⟩)] w (HPost E w base hb (.slice sa L.sh.length sc) (.slice qa L.q.length qc) (.slice ta ms.length tc) R.2.1 line R.2.2 (rvR E R)) := by
  refine (goOn_any E base hb L line ms sa sc qa qc ta tc w h hgd hb1 hb5 hn R (by rw [grantL_q]; exact hR)).mono ?_
  rintro e w' (⟨h1, h2⟩ | ⟨h1, h2⟩)
  · rw [show rvR E R = .nilIface from if_pos h1]; exact h2
  · rw [show rvR E R = rfV R.2.1.own (E 1) from if_neg (by rw [h1]; decide)]; exact h2

theorem rg_one {w : World} {base b : Nat} {c : Int} {T : TypeId} (h : w.heap[b]? = some (.cells #[.int .i64 c] T (0, 0))) (hb : base ≤ b) : Rg w base (.slice (some ⟨b, 0, none⟩) 1 1) 1 1 (gF (f1 [c])) := by
  refine .inr ⟨b, 0, 1, rfl, Nat.le_refl _, by decide, by decide, hb, ⟨_, _, h, by simp⟩, fun x hx => ?_⟩
  obtain rfl : x = 0 := by omega
  exact cell_box 0 h rfl
theorem ok_one {c : Int} (h1 : 1 ≤ c) (h5 : c ≤ 5) : Ids.ok [c] = true := by
  simp [Ids.ok, Ids.rise, h1, h5]

set_option maxRecDepth 20000 in
set_option maxHeartbeats 2000000 in
theorem acked_on (E : Nat → Addr) (base hb : Nat) (L : Hm.Ln) (line : Int) (ms : List Hm.Mg) (sa : Option Addr) (sc : Nat) (qa : Option Addr) (qc : Nat) (ta : Option Addr) (tc : Nat) (w : World) (k c to l t d : Int) (h : Hr E w base hb L line ms sa sc qa qc ta tc) (hgd : Gd L) (hb1 : 1 ≤ L.bu) (hb5 : L.bu ≤ 5) (hn : ms.length ≤ 1000) (ho : L.own = 0) (hw : ¬ L.wt = 1) (ha : L.ac = 1) (R : Bool × Hm.Ln × List Hm.Mg) (hR : Hm.nextR line L.q (Hm.grantL ({ L with ac := L.ac - 1 } : Hm.Ln) L.bu L.wt) (ms ++ [Hm.mGrant L.bu line L.wt L.mem]) = R) :
    Calls Tryz.prog 69 #[.pointer (some ⟨hb, 0, none⟩), .agg #[.int .i64 k, .int .i64 c, .int .i64 to, .int .i64 l, .int .i64 t, .int .i64 d]] w (HPost E w base hb (.slice sa L.sh.length sc) (.slice qa L.q.length qc) (.slice ta ms.length tc) R.2.1 line R.2.2 (rvR E R)) := by
  have HB : Hid (Mv (Hb hb (.slice sa L.sh.length sc) (.slice qa L.q.length qc) (.slice ta ms.length tc)) w w) := hide (Mv.refl _ _)
  have hlo := h.lo
  have hb4 := h.b4
  have hlt := lt_of_block h.bx
  have AP := h.ap
  have FR : ∀ g, Hb hb (.slice sa L.sh.length sc) (.slice qa L.q.length qc) (.slice ta ms.length tc) g → Hb hb (.slice sa L.sh.length sc) (.slice qa L.q.length qc) (.slice ta ms.length tc) g ∨ w.heap.size ≤ g := fun g h => .inl h
  have bx0 := hide h.bx; have RS := hide h.rs; have RQ := hide h.rq; have RT := hide h.rt; have GL := hide h.gl; clear h
  have NB : Hid (∀ g, (rb (.slice sa L.sh.length sc) = some g ∨ rb (.slice qa L.q.length qc) = some g ∨ rb (.slice ta ms.length tc) = some g) → g ≠ hb) := hide (fun g h => HAp.ne AP h)
  go_enter Tryz.func69, Tryz.ntmps69
  refine sk fun K1 h1 => rl ?_
  refine sbp #[.int .i64 k, .int .i64 c, .int .i64 to, .int .i64 l, .int .i64 t, .int .i64 d] 36 fun V1 b1 hb1 m1 bx1 => ?_
  have o0_1 := Xlo bx0 hb1
  have og_1 : w.heap.size ≤ b1 := Xhs HB hb1
  replace NB : Hid (∀ g, (rb (.slice sa L.sh.length sc) = some g ∨ rb (.slice qa L.q.length qc) = some g ∨ rb (.slice ta ms.length tc) = some g) → g ≠ hb ∧ g ≠ b1) := hide (fun g h => by have h1 := NB.out g h; have h2 := rows_lt RS.out RQ.out RT.out g h; exact (by omega))
  replace RS := hide (RS.out.mv m1 (fun _ _ h => h))
  replace RQ := hide (RQ.out.mv m1 (fun _ _ h => h))
  replace RT := hide (RT.out.mv m1 (fun _ _ h => h))
  replace GL := hide (GL.out.mv m1 (fun _ _ h => h))
  clear hb1
  refine sv (.nilIface) ?_
  refine nt (h1 _ _ (sk fun K2 h2 => sk fun K3 h3 => rl ?_)); clear h1 K1
  have hbv : Hid ((L.bu != 0) = true) := hide (by simp; omega)
  have hov : Hid ((L.own != 0) = false) := hide (by simp [ho])
  have hwv : Hid ((L.wt == 1) = false) := hide (by simpa using hw)
  clear ho hw
  refine sv (.pointer (some ⟨hb, 0, none⟩)) ?_
  refine sg (.pointer (some ⟨hb, 0, none⟩)) ?_
  refine sv (.pointer (some ⟨hb, 0, none⟩)) ?_
  replace bx0 := Xbn bx0 m1
  refine sg (.agg #[.int .i64 L.mem, .int .i64 L.own, .slice sa L.sh.length sc, .int .i64 L.bu, .int .i64 L.wt, .int .i64 L.ac, .slice qa L.q.length qc]) (h := by have z0 := cell_box 0 (bx0.out) rfl; have z1 := cell_box 1 (bx0.out) rfl; have z2 := cell_box 2 (bx0.out) rfl; have z3 := cell_box 3 (bx0.out) rfl; have z4 := cell_box 4 (bx0.out) rfl; have z5 := cell_box 5 (bx0.out) rfl; have z6 := cell_box 6 (bx0.out) rfl; go_simp) ?_
  refine sw_call (by rfl) (by first | rfl | (go_simp; done)) (isBusy_any L.mem L.own (.slice sa L.sh.length sc) L.bu L.wt L.ac (.slice qa L.q.length qc) V1) ?_
  rintro e V2 ⟨rfl, hbl⟩
  have m2 : Mv (nob) V1 V2 := Mv.of_below hbl
  refine ⟨_, rfl, ?_⟩
  refine pt ?_
  replace RS := hide (RS.out.mv m2 (fun _ _ h => h))
  replace RQ := hide (RQ.out.mv m2 (fun _ _ h => h))
  replace RT := hide (RT.out.mv m2 (fun _ _ h => h))
  replace GL := hide (GL.out.mv m2 (fun _ _ h => h))
  clear hbl
  rw [hbv.out]
  refine sg (.bool false) ?_
  refine sv (.bool false) ?_
  refine sv (.pointer (some ⟨hb, 0, none⟩)) ?_
  refine sg (.pointer (some ⟨hb, 0, none⟩)) ?_
  refine sv (.pointer (some ⟨hb, 0, none⟩)) ?_
  refine sv (.pointer (some ⟨hb, 1, none⟩)) ?_
  replace bx0 := Xbn bx0 m2
  refine sl 1 bx0 ?_
  refine sg (.bool false) (h := by have hd := hov.out; go_simp) ?_
  refine sg (.bool false) ?_
  refine sv (.bool false) ?_
  refine sv (.pointer (some ⟨hb, 0, none⟩)) ?_
  refine sg (.pointer (some ⟨hb, 0, none⟩)) ?_
  refine sv (.pointer (some ⟨hb, 0, none⟩)) ?_
  refine sv (.pointer (some ⟨hb, 4, none⟩)) ?_
  refine sl 4 bx0 ?_
  refine sg (.bool false) (h := by have hd := hwv.out; go_simp) ?_
  refine sg (.bool false) ?_
  refine nt (h3 _ _ (cf (wp_skip (then_normal (h2 _ _ (sk fun K4 h4 => rl ?_)))))); clear h3 K3; clear h2 K2
  have hA := hide ha; clear ha
  refine sv (.pointer (some ⟨hb, 0, none⟩)) ?_
  refine sg (.pointer (some ⟨hb, 0, none⟩)) ?_
  refine sv (.pointer (some ⟨hb, 0, none⟩)) ?_
  refine sv (.pointer (some ⟨hb, 5, none⟩)) ?_
  refine sl 5 bx0 ?_
  refine sg (.int .i64 (L.ac - 1)) (h := by have hq : IntKind.i64.wrap (L.ac - 1) = L.ac - 1 := i64wrap (by rw [hA.out]; omega); go_simp) ?_
  refine sg (.pointer (some ⟨hb, 0, none⟩)) ?_
  refine sv (.pointer (some ⟨hb, 0, none⟩)) ?_
  refine sv (.pointer (some ⟨hb, 5, none⟩)) ?_
  refine ss 5 (.int .i64 (L.ac - 1)) bx0 fun V3 m3 bx0 => ?_
  replace HB := Xhn (Xhn HB m1) m2
  replace HB := hide (HB.out.step m3 (fun g hg e => .inl e))
  replace RS := hide (RS.out.mv m3 (fun g e h => by have h : g = hb := h; have := NB.out g (.inl e); omega))
  replace RQ := hide (RQ.out.mv m3 (fun g e h => by have h : g = hb := h; have := NB.out g (.inr (.inl e)); omega))
  replace RT := hide (RT.out.mv m3 (fun g e h => by have h : g = hb := h; have := NB.out g (.inr (.inr e)); omega))
  replace GL := hide (GL.out.mv m3 (fun g hg h => by have h : g = hb := h; omega))
  refine nt (h4 _ _ (sk fun K5 h5 => sk fun K6 h6 => rl ?_)); clear h4 K4
  refine sv (.pointer (some ⟨hb, 0, none⟩)) ?_
  refine sg (.pointer (some ⟨hb, 0, none⟩)) ?_
  refine sv (.pointer (some ⟨hb, 0, none⟩)) ?_
  refine sv (.pointer (some ⟨hb, 5, none⟩)) ?_
  refine sl 5 bx0 ?_
  refine sg (.bool false) (h := by have hd : decide (0 < L.ac - 1) = false := (by rw [hA.out]; decide); have hd2 : decide (L.ac - 1 > 0) = false := (by rw [hA.out]; decide); have hd3 : L.ac ≤ 1 := (by rw [hA.out]; decide); go_simp) ?_
  refine nt (h6 _ _ (cf (wp_skip (then_normal (h5 _ _ (sk fun K7 h7 => rl ?_)))))); clear h6 K6; clear h5 K5
  refine sv (.pointer (some ⟨hb, 0, none⟩)) ?_
  have hsz := HB.out.size
  have h4b : ∀ g, Hb hb (.slice sa L.sh.length sc) (.slice qa L.q.length qc) (.slice ta ms.length tc) g → 7 ≤ g := fun g h => Nat.le_trans hb4 (h.elim (fun e => e ▸ hlo) (fun q => (rows_lt RS.out RQ.out RT.out g q).1))
  have SF : ∀ g, Hb hb (.slice sa L.sh.length sc) (.slice qa L.q.length qc) (.slice ta ms.length tc) g → g ≠ b1 := fun g h => h.elim (fun e => by omega) (fun q => by have := NB.out g q; omega)
  replace bx1 := Xbb (Xbn bx1 m2) m3
  have hsb1 := lt_of_block bx1.out
  refine sw_call (by rfl) (by first | rfl | (go_simp; done)) (goOn_r E base hb ({ L with ac := L.ac - 1 } : Hm.Ln) line ms _ _ _ _ _ _ V3 ⟨bx0.out, RS.out, RQ.out, RT.out, AP, hlo, GL.out, hb4⟩ ⟨hgd.sh, hgd.n, hgd.q⟩ hb1 hb5 hn R hR) ?_
  rintro e V4 ⟨sa1, sc1, qa1, qc1, ta1, tc1, rfl, HR1, hfr, hmv⟩
  have m4 : Mv (Hb hb (.slice sa L.sh.length sc) (.slice qa L.q.length qc) (.slice ta ms.length tc)) V3 V4 := hmv
  refine ⟨_, rfl, ?_⟩
  refine pt ?_
  replace HB := hide (HB.out.step m4 (fun g hg e => (FR g e).resolve_right (by omega)))
  replace bx1 := hide (m4.box bx1.out (fun h => by have := SF _ h; omega))
  replace bx0 := hide HR1.bx; have RS := hide HR1.rs; have RQ := hide HR1.rq; have RT := hide HR1.rt; replace GL := hide HR1.gl; replace AP := HR1.ap
  replace NB : Hid (∀ g, (rb (.slice sa1 R.2.1.sh.length sc1) = some g ∨ rb (.slice qa1 R.2.1.q.length qc1) = some g ∨ rb (.slice ta1 R.2.2.length tc1) = some g) → g ≠ hb ∧ g ≠ b1) := hide (fun g h => by have q1 := HAp.ne AP h; exact (hfr g (.inr h)).elim (fun q => q.elim (fun q => absurd q q1) (fun q => by have := NB.out g q; omega)) (fun q => by omega))
  replace FR := fun g h => (hfr g h).elim (FR g) (fun q => .inr (Nat.le_trans hsz q))
  clear HR1 hfr hmv hsz h4b SF hsb1
  refine sv (rvR E R) ?_
  refine nt (h7 _ _ (wp_ret ?_)); clear h7 K7
  exact bodyPost_ret (v := rvR E R) (by simp [results, Tryz.results69, go_sem]) rfl ⟨_, _, _, _, _, _, rfl, ⟨bx0.out, RS.out, RQ.out, RT.out, AP, hlo, GL.out, hb4⟩, FR, HB.out⟩

set_option maxRecDepth 20000 in
set_option maxHeartbeats 2000000 in
theorem given_r (E : Nat → Addr) (base hb : Nat) (L : Hm.Ln) (line : Int) (ms : List Hm.Mg) (sa : Option Addr) (sc : Nat) (qa : Option Addr) (qc : Nat) (ta : Option Addr) (tc : Nat) (w : World) (k c to l t d : Int) (h : Hr E w base hb L line ms sa sc qa qc ta tc) (hgd : Gd L) (hb1 : 1 ≤ L.bu) (hb5 : L.bu ≤ 5) (hn : ms.length ≤ 1000) (ho : L.own = c) (hw : L.wt = 1) (hc1 : 1 ≤ c) (hc5 : c ≤ 5) (R : Bool × Hm.Ln × List Hm.Mg) (hR : Hm.nextR line L.q (Hm.grantL ({ L with mem := d, own := 0, sh := [c] } : Hm.Ln) L.bu L.wt) (ms ++ [Hm.mGrant L.bu line L.wt d]) = R) :
    Calls Tryz.prog 70 #[.pointer (some ⟨hb, 0, none⟩), .agg #[.int .i64 k, .int .i64 c, .int .i64 to, .int .i64 l, .int .i64 t, .int .i64 d]] w (HPost E w base hb (.slice sa L.sh.length sc) (.slice qa L.q.length qc) (.slice ta ms.length tc) R.2.1 line R.2.2 (rvR E R)) := by
  have HB : Hid (Mv (Hb hb (.slice sa L.sh.length sc) (.slice qa L.q.length qc) (.slice ta ms.length tc)) w w) := hide (Mv.refl _ _)
  have hlo := h.lo
  have hb4 := h.b4
  have hlt := lt_of_block h.bx
  have AP := h.ap
  have FR : ∀ g, Hb hb (.slice sa L.sh.length sc) (.slice qa L.q.length qc) (.slice ta ms.length tc) g → Hb hb (.slice sa L.sh.length sc) (.slice qa L.q.length qc) (.slice ta ms.length tc) g ∨ w.heap.size ≤ g := fun g h => .inl h
  have bx0 := hide h.bx; have RS := hide h.rs; have RQ := hide h.rq; have RT := hide h.rt; have GL := hide h.gl; clear h
  have NB : Hid (∀ g, (rb (.slice sa L.sh.length sc) = some g ∨ rb (.slice qa L.q.length qc) = some g ∨ rb (.slice ta ms.length tc) = some g) → g ≠ hb) := hide (fun g h => HAp.ne AP h)
  go_enter Tryz.func70, Tryz.ntmps70
  refine sk fun K1 h1 => rl ?_
  refine sbp #[.int .i64 k, .int .i64 c, .int .i64 to, .int .i64 l, .int .i64 t, .int .i64 d] 36 fun V1 b1 hb1 m1 bx1 => ?_
  have o0_1 := Xlo bx0 hb1
  have og_1 : w.heap.size ≤ b1 := Xhs HB hb1
  replace NB : Hid (∀ g, (rb (.slice sa L.sh.length sc) = some g ∨ rb (.slice qa L.q.length qc) = some g ∨ rb (.slice ta ms.length tc) = some g) → g ≠ hb ∧ g ≠ b1) := hide (fun g h => by have h1 := NB.out g h; have h2 := rows_lt RS.out RQ.out RT.out g h; exact (by omega))
  replace RS := hide (RS.out.mv m1 (fun _ _ h => h))
  replace RQ := hide (RQ.out.mv m1 (fun _ _ h => h))
  replace RT := hide (RT.out.mv m1 (fun _ _ h => h))
  replace GL := hide (GL.out.mv m1 (fun _ _ h => h))
  clear hb1
  refine sv (.nilIface) ?_
  refine nt (h1 _ _ (sk fun K2 h2 => sk fun K3 h3 => ?_)); clear h1 K1
  have hbv : Hid ((L.bu != 0) = true) := hide (by simp; omega)
  have hov : Hid ((L.own != c) = false) := hide (by simp [ho])
  have hwv : Hid ((L.wt == 1) = true) := hide (by simpa using hw)
  clear ho hw
  refine wp_region_but (z := 999) (S := fun w' => Mv (nob) V1.drew w') (by kernel_rfl) (Mv.refl _ _) (fun hS => ?_)
  have m2 : Mv nob V1 V1.drew := Mv.drew _
  obtain ⟨V2, hN⟩ : ∃ V, V1.drew = V := ⟨_, rfl⟩
  rw [hN] at hS m2 ⊢
  clear hN
  replace RS := hide (RS.out.mv m2 (fun _ _ h => h))
  replace RQ := hide (RQ.out.mv m2 (fun _ _ h => h))
  replace RT := hide (RT.out.mv m2 (fun _ _ h => h))
  replace GL := hide (GL.out.mv m2 (fun _ _ h => h))
  replace bx0 := Xbn (Xbn bx0 m1) m2; replace bx1 := Xbn bx1 m2
  have rbx0 := bx0; have rbx1 := bx1
  refine tk0 0 (.pointer (some ⟨hb, 0, none⟩)) rfl ?_
  refine tk0 1 (.pointer (some ⟨hb, 0, none⟩)) rfl ?_
  refine tk0 2 (.pointer (some ⟨hb, 0, none⟩)) rfl ?_
  refine tk 3 (.agg #[.int .i64 L.mem, .int .i64 L.own, .slice sa L.sh.length sc, .int .i64 L.bu, .int .i64 L.wt, .int .i64 L.ac, .slice qa L.q.length qc]) rfl (fun w' hSw => by (try dsimp only at hSw); have z0 := cell_box 0 (hSw.box rbx0.out (fun h => h)) rfl; have z1 := cell_box 1 (hSw.box rbx0.out (fun h => h)) rfl; have z2 := cell_box 2 (hSw.box rbx0.out (fun h => h)) rfl; have z3 := cell_box 3 (hSw.box rbx0.out (fun h => h)) rfl; have z4 := cell_box 4 (hSw.box rbx0.out (fun h => h)) rfl; have z5 := cell_box 5 (hSw.box rbx0.out (fun h => h)) rfl; have z6 := cell_box 6 (hSw.box rbx0.out (fun h => h)) rfl; go_simp) ?_
  refine kd_call (i := 4) (by kernel_rfl) rfl (by rfl) (by first | rfl | (go_simp; done)) (isBusy_any L.mem L.own (.slice sa L.sh.length sc) L.bu L.wt L.ac (.slice qa L.q.length qc) V2) ?_
  rintro e V3 ⟨rfl, hbl⟩
  have m3 : Mv (nob) V2 V3 := Mv.of_below hbl
  replace hS := hS.step m3 (fun _ _ h => h.elim)
  refine ⟨_, rfl, fun _ => hS, ?_⟩
  refine ptk ?_
  replace RS := hide (RS.out.mv m3 (fun _ _ h => h))
  replace RQ := hide (RQ.out.mv m3 (fun _ _ h => h))
  replace RT := hide (RT.out.mv m3 (fun _ _ h => h))
  replace GL := hide (GL.out.mv m3 (fun _ _ h => h))
  clear hbl
  rw [hbv.out]
  refine tk0 5 (.bool false) rfl ?_
  refine tk0 6 (.bool false) rfl ?_
  refine tk0 7 (.pointer (some ⟨hb, 0, none⟩)) rfl ?_
  refine tk0 8 (.pointer (some ⟨hb, 0, none⟩)) rfl ?_
  refine tk0 9 (.pointer (some ⟨hb, 0, none⟩)) rfl ?_
  refine tk0 10 (.pointer (some ⟨hb, 1, none⟩)) rfl ?_
  refine tk 11 (.int .i64 L.own) rfl (fun w' hSw => by (try dsimp only at hSw); have z0 := cell_box 1 (hSw.box rbx0.out (fun h => h)) rfl; go_simp) ?_
  refine tk0 12 (.pointer (some ⟨b1, 1, none⟩)) rfl ?_
  refine tk 13 (.int .i64 c) rfl (fun w' hSw => by (try dsimp only at hSw); have z0 := cell_box 1 (hSw.box rbx1.out (fun h => h)) rfl; go_simp) ?_
  refine tk 14 (.bool false) rfl (fun w' hSw => by (try dsimp only at hSw); have hd := hov.out; go_simp) ?_
  refine tk0 15 (.bool false) rfl ?_
  refine wpAnyK_done (by kernel_rfl) ?_
  clear hS rbx0 rbx1
  refine then_normal (h3 _ _ (cf (wp_skip (then_normal (h2 _ _ (sk fun K4 h4 => rl ?_)))))); clear h3 K3; clear h2 K2
  refine sv (.pointer (some ⟨hb, 0, none⟩)) ?_
  refine sv (.pointer (some ⟨hb, 0, none⟩)) ?_
  refine sv (.pointer (some ⟨hb, 0, none⟩)) ?_
  refine sv (.pointer (some ⟨b1, 5, none⟩)) ?_
  replace bx1 := Xbn bx1 m3
  refine sl 5 bx1 ?_
  refine sg (.pointer (some ⟨hb, 0, none⟩)) ?_
  refine sv (.pointer (some ⟨hb, 0, none⟩)) ?_
  refine sv (.pointer (some ⟨hb, 0, none⟩)) ?_
  replace bx0 := Xbn bx0 m3
  refine ss 0 (.int .i64 d) bx0 fun V4 m4 bx0 => ?_
  replace HB := Xhn (Xhn (Xhn HB m1) m2) m3
  replace HB := hide (HB.out.step m4 (fun g hg e => .inl e))
  replace RS := hide (RS.out.mv m4 (fun g e h => by have h : g = hb := h; have := NB.out g (.inl e); omega))
  replace RQ := hide (RQ.out.mv m4 (fun g e h => by have h : g = hb := h; have := NB.out g (.inr (.inl e)); omega))
  replace RT := hide (RT.out.mv m4 (fun g e h => by have h : g = hb := h; have := NB.out g (.inr (.inr e)); omega))
  replace GL := hide (GL.out.mv m4 (fun g hg h => by have h : g = hb := h; omega))
  refine sg (.pointer (some ⟨hb, 0, none⟩)) ?_
  refine sv (.pointer (some ⟨hb, 0, none⟩)) ?_
  refine sv (.pointer (some ⟨hb, 1, none⟩)) ?_
  refine ss 1 (.int .i64 0) bx0 fun V5 m5 bx0 => ?_
  replace HB := hide (HB.out.step m5 (fun g hg e => .inl e))
  replace RS := hide (RS.out.mv m5 (fun g e h => by have h : g = hb := h; have := NB.out g (.inl e); omega))
  replace RQ := hide (RQ.out.mv m5 (fun g e h => by have h : g = hb := h; have := NB.out g (.inr (.inl e)); omega))
  replace RT := hide (RT.out.mv m5 (fun g e h => by have h : g = hb := h; have := NB.out g (.inr (.inr e)); omega))
  replace GL := hide (GL.out.mv m5 (fun g hg h => by have h : g = hb := h; omega))
  refine sg (.pointer (some ⟨hb, 0, none⟩)) ?_
  refine sv (.pointer (some ⟨hb, 0, none⟩)) ?_
  refine sv (.pointer (some ⟨hb, 2, none⟩)) ?_
  refine ss 2 (.slice none 0 0) bx0 fun V6 m6 bx0 => ?_
  replace HB := hide (HB.out.step m6 (fun g hg e => .inl e))
  replace RS := hide (RS.out.mv m6 (fun g e h => by have h : g = hb := h; have := NB.out g (.inl e); omega))
  replace RQ := hide (RQ.out.mv m6 (fun g e h => by have h : g = hb := h; have := NB.out g (.inr (.inl e)); omega))
  replace RT := hide (RT.out.mv m6 (fun g e h => by have h : g = hb := h; have := NB.out g (.inr (.inr e)); omega))
  replace GL := hide (GL.out.mv m6 (fun g hg h => by have h : g = hb := h; omega))
  refine nt (h4 _ _ (sk fun K5 h5 => sk fun K6 h6 => rl ?_)); clear h4 K4
  replace bx1 := Xbb (Xbb (Xbb bx1 m4) m5) m6
  replace RS : Hid (Rg V6 base (.slice none 0 0) 1 0 (gF (f1 []))) := hide (rg_nil _ _ _ _)
  replace AP := AP.nil
  replace FR := fun g (h : Hb hb (.slice none 0 0) (.slice qa L.q.length qc) (.slice ta ms.length tc) g) => h.elim (fun e => FR g (.inl e)) (fun h => h.elim (fun e => absurd e (by simp [rb])) (fun h => FR g (.inr (.inr h))))
  replace NB : Hid (∀ g, (rb (.slice none 0 0) = some g ∨ rb (.slice qa L.q.length qc) = some g ∨ rb (.slice ta ms.length tc) = some g) → g ≠ hb ∧ g ≠ b1) := hide (fun g h => h.elim (fun e => absurd e (by simp [rb])) (fun h => NB.out g (.inr h)))
  refine sv (.pointer (some ⟨hb, 0, none⟩)) ?_
  refine sg (.pointer (some ⟨hb, 0, none⟩)) ?_
  refine sv (.pointer (some ⟨hb, 0, none⟩)) ?_
  refine sv (.pointer (some ⟨hb, 4, none⟩)) ?_
  refine sl 4 bx0 ?_
  refine sg (.bool true) (h := by have hd := hwv.out; go_simp) ?_
  refine nt (h6 _ _ (ct (rl ?_))); clear h6 K6
  refine sv (.pointer (some ⟨hb, 0, none⟩)) ?_
  refine sv (.pointer (some ⟨b1, 1, none⟩)) ?_
  refine sl 1 bx1 ?_
  refine sbs 1 #[.int .i64 c] 2 fun V7 b2 hb2 m7 bx2 => ?_
  have o1_2 := Xlo bx1 hb2
  have og_2 : w.heap.size ≤ b2 := Xhs HB hb2
  replace NB : Hid (∀ g, (rb (.slice none 0 0) = some g ∨ rb (.slice qa L.q.length qc) = some g ∨ rb (.slice ta ms.length tc) = some g) → g ≠ hb ∧ g ≠ b1 ∧ g ≠ b2) := hide (fun g h => by have h1 := NB.out g h; have h2 := rows_lt RS.out RQ.out RT.out g h; exact (by omega))
  replace RS := hide (RS.out.mv m7 (fun _ _ h => h))
  replace RQ := hide (RQ.out.mv m7 (fun _ _ h => h))
  replace RT := hide (RT.out.mv m7 (fun _ _ h => h))
  replace GL := hide (GL.out.mv m7 (fun _ _ h => h))
  clear hb2
  refine sg (.pointer (some ⟨hb, 0, none⟩)) ?_
  refine sv (.pointer (some ⟨hb, 0, none⟩)) ?_
  refine sv (.pointer (some ⟨hb, 2, none⟩)) ?_
  replace bx0 := Xbn bx0 m7
  refine ss 2 (.slice (some ⟨b2, 0, none⟩) 1 1) bx0 fun V8 m8 bx0 => ?_
  replace HB := Xhn HB m7
  replace HB := hide (HB.out.step m8 (fun g hg e => .inl e))
  replace RS := hide (RS.out.mv m8 (fun g e h => by have h : g = hb := h; have := NB.out g (.inl e); omega))
  replace RQ := hide (RQ.out.mv m8 (fun g e h => by have h : g = hb := h; have := NB.out g (.inr (.inl e)); omega))
  replace RT := hide (RT.out.mv m8 (fun g e h => by have h : g = hb := h; have := NB.out g (.inr (.inr e)); omega))
  replace GL := hide (GL.out.mv m8 (fun g hg h => by have h : g = hb := h; omega))
  refine nt (h5 _ _ (sk fun K7 h7 => rl ?_)); clear h5 K5
  replace bx1 := Xbb (Xbn bx1 m7) m8; replace bx2 := Xbb bx2 m8
  have hbe : ∀ g, rb (.slice (some ⟨b2, 0, none⟩) 1 1) = some g → g = b2 := fun g e => (rb_blk e).symm
  replace RS := hide (rg_one bx2.out (by omega : base ≤ b2))
  replace AP : HAp hb (.slice (some ⟨b2, 0, none⟩) 1 1) (.slice qa L.q.length qc) (.slice ta ms.length tc) := ⟨⟨fun e => by have := hbe _ e; omega, AP.1.2⟩, fun g e => ⟨fun e2 => by have h1 := hbe g e; have h2 := NB.out g (.inr (.inl e2)); omega, fun e2 => by have h1 := hbe g e; have h2 := NB.out g (.inr (.inr e2)); omega⟩, AP.2.2⟩
  replace FR := fun g (h : Hb hb (.slice (some ⟨b2, 0, none⟩) 1 1) (.slice qa L.q.length qc) (.slice ta ms.length tc) g) => h.elim (fun e => FR g (.inl e)) (fun h => h.elim (fun e => .inr (by have := hbe g e; omega)) (fun h => FR g (.inr (.inr h))))
  replace NB : Hid (∀ g, (rb (.slice (some ⟨b2, 0, none⟩) 1 1) = some g ∨ rb (.slice qa L.q.length qc) = some g ∨ rb (.slice ta ms.length tc) = some g) → g ≠ hb ∧ g ≠ b1) := hide (fun g h => h.elim (fun e => by have := hbe g e; omega) (fun h => by have := NB.out g (.inr h); omega))
  clear hbe bx2
  refine sv (.pointer (some ⟨hb, 0, none⟩)) ?_
  have hsz := HB.out.size
  have h4b : ∀ g, Hb hb (.slice (some ⟨b2, 0, none⟩) 1 1) (.slice qa L.q.length qc) (.slice ta ms.length tc) g → 7 ≤ g := fun g h => Nat.le_trans hb4 (h.elim (fun e => e ▸ hlo) (fun q => (rows_lt RS.out RQ.out RT.out g q).1))
  have SF : ∀ g, Hb hb (.slice (some ⟨b2, 0, none⟩) 1 1) (.slice qa L.q.length qc) (.slice ta ms.length tc) g → g ≠ b1 := fun g h => h.elim (fun e => by omega) (fun q => by have := NB.out g q; omega)
  have hsb1 := lt_of_block bx1.out
  refine sw_call (by rfl) (by first | rfl | (go_simp; done)) (goOn_r E base hb ({ L with mem := d, own := 0, sh := [c] } : Hm.Ln) line ms _ _ _ _ _ _ V8 ⟨bx0.out, RS.out, RQ.out, RT.out, AP, hlo, GL.out, hb4⟩ ⟨ok_one hc1 hc5, hgd.n, hgd.q⟩ hb1 hb5 hn R hR) ?_
  rintro e V9 ⟨sa2, sc2, qa2, qc2, ta2, tc2, rfl, HR1, hfr, hmv⟩
  have m9 : Mv (Hb hb (.slice (some ⟨b2, 0, none⟩) 1 1) (.slice qa L.q.length qc) (.slice ta ms.length tc)) V8 V9 := hmv
  refine ⟨_, rfl, ?_⟩
  refine pt ?_
  replace HB := hide (HB.out.step m9 (fun g hg e => (FR g e).resolve_right (by omega)))
  replace bx1 := hide (m9.box bx1.out (fun h => by have := SF _ h; omega))
  replace bx0 := hide HR1.bx; have RS := hide HR1.rs; have RQ := hide HR1.rq; have RT := hide HR1.rt; replace GL := hide HR1.gl; replace AP := HR1.ap
  replace NB : Hid (∀ g, (rb (.slice sa2 R.2.1.sh.length sc2) = some g ∨ rb (.slice qa2 R.2.1.q.length qc2) = some g ∨ rb (.slice ta2 R.2.2.length tc2) = some g) → g ≠ hb ∧ g ≠ b1) := hide (fun g h => by have q1 := HAp.ne AP h; exact (hfr g (.inr h)).elim (fun q => q.elim (fun q => absurd q q1) (fun q => by have := NB.out g q; omega)) (fun q => by omega))
  replace FR := fun g h => (hfr g h).elim (FR g) (fun q => .inr (Nat.le_trans hsz q))
  clear HR1 hfr hmv hsz h4b SF hsb1
  refine sv (rvR E R) ?_
  refine nt (h7 _ _ (wp_ret ?_)); clear h7 K7
  exact bodyPost_ret (v := rvR E R) (by simp [results, Tryz.results70, go_sem]) rfl ⟨_, _, _, _, _, _, rfl, ⟨bx0.out, RS.out, RQ.out, RT.out, AP, hlo, GL.out, hb4⟩, FR, HB.out⟩

set_option maxRecDepth 20000 in
set_option maxHeartbeats 2000000 in
theorem given_w (E : Nat → Addr) (base hb : Nat) (L : Hm.Ln) (line : Int) (ms : List Hm.Mg) (sa : Option Addr) (sc : Nat) (qa : Option Addr) (qc : Nat) (ta : Option Addr) (tc : Nat) (w : World) (k c to l t d : Int) (h : Hr E w base hb L line ms sa sc qa qc ta tc) (hgd : Gd L) (hb1 : 1 ≤ L.bu) (hb5 : L.bu ≤ 5) (hn : ms.length ≤ 1000) (ho : L.own = c) (hw : ¬ L.wt = 1) (hc1 : 1 ≤ c) (hc5 : c ≤ 5) (R : Bool × Hm.Ln × List Hm.Mg) (hR : Hm.nextR line L.q (Hm.grantL ({ L with mem := d, own := 0, sh := [] } : Hm.Ln) L.bu L.wt) (ms ++ [Hm.mGrant L.bu line L.wt d]) = R) :
    Calls Tryz.prog 70 #[.pointer (some ⟨hb, 0, none⟩), .agg #[.int .i64 k, .int .i64 c, .int .i64 to, .int .i64 l, .int .i64 t, .int .i64 d]] w (HPost E w base hb (.slice sa L.sh.length sc) (.slice qa L.q.length qc) (.slice ta ms.length tc) R.2.1 line R.2.2 (rvR E R)) := by
  have HB : Hid (Mv (Hb hb (.slice sa L.sh.length sc) (.slice qa L.q.length qc) (.slice ta ms.length tc)) w w) := hide (Mv.refl _ _)
  have hlo := h.lo
  have hb4 := h.b4
  have hlt := lt_of_block h.bx
  have AP := h.ap
  have FR : ∀ g, Hb hb (.slice sa L.sh.length sc) (.slice qa L.q.length qc) (.slice ta ms.length tc) g → Hb hb (.slice sa L.sh.length sc) (.slice qa L.q.length qc) (.slice ta ms.length tc) g ∨ w.heap.size ≤ g := fun g h => .inl h
  have bx0 := hide h.bx; have RS := hide h.rs; have RQ := hide h.rq; have RT := hide h.rt; have GL := hide h.gl; clear h
  have NB : Hid (∀ g, (rb (.slice sa L.sh.length sc) = some g ∨ rb (.slice qa L.q.length qc) = some g ∨ rb (.slice ta ms.length tc) = some g) → g ≠ hb) := hide (fun g h => HAp.ne AP h)
  go_enter Tryz.func70, Tryz.ntmps70
  refine sk fun K1 h1 => rl ?_
  refine sbp #[.int .i64 k, .int .i64 c, .int .i64 to, .int .i64 l, .int .i64 t, .int .i64 d] 36 fun V1 b1 hb1 m1 bx1 => ?_
  have o0_1 := Xlo bx0 hb1
  have og_1 : w.heap.size ≤ b1 := Xhs HB hb1
  replace NB : Hid (∀ g, (rb (.slice sa L.sh.length sc) = some g ∨ rb (.slice qa L.q.length qc) = some g ∨ rb (.slice ta ms.length tc) = some g) → g ≠ hb ∧ g ≠ b1) := hide (fun g h => by have h1 := NB.out g h; have h2 := rows_lt RS.out RQ.out RT.out g h; exact (by omega))
  replace RS := hide (RS.out.mv m1 (fun _ _ h => h))
  replace RQ := hide (RQ.out.mv m1 (fun _ _ h => h))
  replace RT := hide (RT.out.mv m1 (fun _ _ h => h))
  replace GL := hide (GL.out.mv m1 (fun _ _ h => h))
  clear hb1
  refine sv (.nilIface) ?_
  refine nt (h1 _ _ (sk fun K2 h2 => sk fun K3 h3 => ?_)); clear h1 K1
  have hbv : Hid ((L.bu != 0) = true) := hide (by simp; omega)
  have hov : Hid ((L.own != c) = false) := hide (by simp [ho])
  have hwv : Hid ((L.wt == 1) = false) := hide (by simpa using hw)
  clear ho hw
  refine wp_region_but (z := 999) (S := fun w' => Mv (nob) V1.drew w') (by kernel_rfl) (Mv.refl _ _) (fun hS => ?_)
  have m2 : Mv nob V1 V1.drew := Mv.drew _
  obtain ⟨V2, hN⟩ : ∃ V, V1.drew = V := ⟨_, rfl⟩
  rw [hN] at hS m2 ⊢
  clear hN
  replace RS := hide (RS.out.mv m2 (fun _ _ h => h))
  replace RQ := hide (RQ.out.mv m2 (fun _ _ h => h))
  replace RT := hide (RT.out.mv m2 (fun _ _ h => h))
  replace GL := hide (GL.out.mv m2 (fun _ _ h => h))
  replace bx0 := Xbn (Xbn bx0 m1) m2; replace bx1 := Xbn bx1 m2
  have rbx0 := bx0; have rbx1 := bx1
  refine tk0 0 (.pointer (some ⟨hb, 0, none⟩)) rfl ?_
  refine tk0 1 (.pointer (some ⟨hb, 0, none⟩)) rfl ?_
  refine tk0 2 (.pointer (some ⟨hb, 0, none⟩)) rfl ?_
  refine tk 3 (.agg #[.int .i64 L.mem, .int .i64 L.own, .slice sa L.sh.length sc, .int .i64 L.bu, .int .i64 L.wt, .int .i64 L.ac, .slice qa L.q.length qc]) rfl (fun w' hSw => by (try dsimp only at hSw); have z0 := cell_box 0 (hSw.box rbx0.out (fun h => h)) rfl; have z1 := cell_box 1 (hSw.box rbx0.out (fun h => h)) rfl; have z2 := cell_box 2 (hSw.box rbx0.out (fun h => h)) rfl; have z3 := cell_box 3 (hSw.box rbx0.out (fun h => h)) rfl; have z4 := cell_box 4 (hSw.box rbx0.out (fun h => h)) rfl; have z5 := cell_box 5 (hSw.box rbx0.out (fun h => h)) rfl; have z6 := cell_box 6 (hSw.box rbx0.out (fun h => h)) rfl; go_simp) ?_
  refine kd_call (i := 4) (by kernel_rfl) rfl (by rfl) (by first | rfl | (go_simp; done)) (isBusy_any L.mem L.own (.slice sa L.sh.length sc) L.bu L.wt L.ac (.slice qa L.q.length qc) V2) ?_
  rintro e V3 ⟨rfl, hbl⟩
  have m3 : Mv (nob) V2 V3 := Mv.of_below hbl
  replace hS := hS.step m3 (fun _ _ h => h.elim)
  refine ⟨_, rfl, fun _ => hS, ?_⟩
  refine ptk ?_
  replace RS := hide (RS.out.mv m3 (fun _ _ h => h))
  replace RQ := hide (RQ.out.mv m3 (fun _ _ h => h))
  replace RT := hide (RT.out.mv m3 (fun _ _ h => h))
  replace GL := hide (GL.out.mv m3 (fun _ _ h => h))
  clear hbl
  rw [hbv.out]
  refine tk0 5 (.bool false) rfl ?_
  refine tk0 6 (.bool false) rfl ?_
  refine tk0 7 (.pointer (some ⟨hb, 0, none⟩)) rfl ?_
  refine tk0 8 (.pointer (some ⟨hb, 0, none⟩)) rfl ?_
  refine tk0 9 (.pointer (some ⟨hb, 0, none⟩)) rfl ?_
  refine tk0 10 (.pointer (some ⟨hb, 1, none⟩)) rfl ?_
  refine tk 11 (.int .i64 L.own) rfl (fun w' hSw => by (try dsimp only at hSw); have z0 := cell_box 1 (hSw.box rbx0.out (fun h => h)) rfl; go_simp) ?_
  refine tk0 12 (.pointer (some ⟨b1, 1, none⟩)) rfl ?_
  refine tk 13 (.int .i64 c) rfl (fun w' hSw => by (try dsimp only at hSw); have z0 := cell_box 1 (hSw.box rbx1.out (fun h => h)) rfl; go_simp) ?_
  refine tk 14 (.bool false) rfl (fun w' hSw => by (try dsimp only at hSw); have hd := hov.out; go_simp) ?_
  refine tk0 15 (.bool false) rfl ?_
  refine wpAnyK_done (by kernel_rfl) ?_
  clear hS rbx0 rbx1
  refine then_normal (h3 _ _ (cf (wp_skip (then_normal (h2 _ _ (sk fun K4 h4 => rl ?_)))))); clear h3 K3; clear h2 K2
  refine sv (.pointer (some ⟨hb, 0, none⟩)) ?_
  refine sv (.pointer (some ⟨hb, 0, none⟩)) ?_
  refine sv (.pointer (some ⟨hb, 0, none⟩)) ?_
  refine sv (.pointer (some ⟨b1, 5, none⟩)) ?_
  replace bx1 := Xbn bx1 m3
  refine sl 5 bx1 ?_
  refine sg (.pointer (some ⟨hb, 0, none⟩)) ?_
  refine sv (.pointer (some ⟨hb, 0, none⟩)) ?_
  refine sv (.pointer (some ⟨hb, 0, none⟩)) ?_
  replace bx0 := Xbn bx0 m3
  refine ss 0 (.int .i64 d) bx0 fun V4 m4 bx0 => ?_
  replace HB := Xhn (Xhn (Xhn HB m1) m2) m3
  replace HB := hide (HB.out.step m4 (fun g hg e => .inl e))
  replace RS := hide (RS.out.mv m4 (fun g e h => by have h : g = hb := h; have := NB.out g (.inl e); omega))
  replace RQ := hide (RQ.out.mv m4 (fun g e h => by have h : g = hb := h; have := NB.out g (.inr (.inl e)); omega))
  replace RT := hide (RT.out.mv m4 (fun g e h => by have h : g = hb := h; have := NB.out g (.inr (.inr e)); omega))
  replace GL := hide (GL.out.mv m4 (fun g hg h => by have h : g = hb := h; omega))
  refine sg (.pointer (some ⟨hb, 0, none⟩)) ?_
  refine sv (.pointer (some ⟨hb, 0, none⟩)) ?_
  refine sv (.pointer (some ⟨hb, 1, none⟩)) ?_
  refine ss 1 (.int .i64 0) bx0 fun V5 m5 bx0 => ?_
  replace HB := hide (HB.out.step m5 (fun g hg e => .inl e))
  replace RS := hide (RS.out.mv m5 (fun g e h => by have h : g = hb := h; have := NB.out g (.inl e); omega))
  replace RQ := hide (RQ.out.mv m5 (fun g e h => by have h : g = hb := h; have := NB.out g (.inr (.inl e)); omega))
  replace RT := hide (RT.out.mv m5 (fun g e h => by have h : g = hb := h; have := NB.out g (.inr (.inr e)); omega))
  replace GL := hide (GL.out.mv m5 (fun g hg h => by have h : g = hb := h; omega))
  refine sg (.pointer (some ⟨hb, 0, none⟩)) ?_
  refine sv (.pointer (some ⟨hb, 0, none⟩)) ?_
  refine sv (.pointer (some ⟨hb, 2, none⟩)) ?_
  refine ss 2 (.slice none 0 0) bx0 fun V6 m6 bx0 => ?_
  replace HB := hide (HB.out.step m6 (fun g hg e => .inl e))
  replace RS := hide (RS.out.mv m6 (fun g e h => by have h : g = hb := h; have := NB.out g (.inl e); omega))
  replace RQ := hide (RQ.out.mv m6 (fun g e h => by have h : g = hb := h; have := NB.out g (.inr (.inl e)); omega))
  replace RT := hide (RT.out.mv m6 (fun g e h => by have h : g = hb := h; have := NB.out g (.inr (.inr e)); omega))
  replace GL := hide (GL.out.mv m6 (fun g hg h => by have h : g = hb := h; omega))
  refine nt (h4 _ _ (sk fun K5 h5 => sk fun K6 h6 => rl ?_)); clear h4 K4
  replace bx1 := Xbb (Xbb (Xbb bx1 m4) m5) m6
  replace RS : Hid (Rg V6 base (.slice none 0 0) 1 0 (gF (f1 []))) := hide (rg_nil _ _ _ _)
  replace AP := AP.nil
  replace FR := fun g (h : Hb hb (.slice none 0 0) (.slice qa L.q.length qc) (.slice ta ms.length tc) g) => h.elim (fun e => FR g (.inl e)) (fun h => h.elim (fun e => absurd e (by simp [rb])) (fun h => FR g (.inr (.inr h))))
  replace NB : Hid (∀ g, (rb (.slice none 0 0) = some g ∨ rb (.slice qa L.q.length qc) = some g ∨ rb (.slice ta ms.length tc) = some g) → g ≠ hb ∧ g ≠ b1) := hide (fun g h => h.elim (fun e => absurd e (by simp [rb])) (fun h => NB.out g (.inr h)))
  refine sv (.pointer (some ⟨hb, 0, none⟩)) ?_
  refine sg (.pointer (some ⟨hb, 0, none⟩)) ?_
  refine sv (.pointer (some ⟨hb, 0, none⟩)) ?_
  refine sv (.pointer (some ⟨hb, 4, none⟩)) ?_
  refine sl 4 bx0 ?_
  refine sg (.bool false) (h := by have hd := hwv.out; go_simp) ?_
  refine nt (h6 _ _ (cf (wp_skip (then_normal (h5 _ _ (sk fun K7 h7 => rl ?_)))))); clear h6 K6; clear h5 K5
  refine sv (.pointer (some ⟨hb, 0, none⟩)) ?_
  have hsz := HB.out.size
  have h4b : ∀ g, Hb hb (.slice none 0 0) (.slice qa L.q.length qc) (.slice ta ms.length tc) g → 7 ≤ g := fun g h => Nat.le_trans hb4 (h.elim (fun e => e ▸ hlo) (fun q => (rows_lt RS.out RQ.out RT.out g q).1))
  have SF : ∀ g, Hb hb (.slice none 0 0) (.slice qa L.q.length qc) (.slice ta ms.length tc) g → g ≠ b1 := fun g h => h.elim (fun e => by omega) (fun q => by have := NB.out g q; omega)
  have hsb1 := lt_of_block bx1.out
  refine sw_call (by rfl) (by first | rfl | (go_simp; done)) (goOn_r E base hb ({ L with mem := d, own := 0, sh := [] } : Hm.Ln) line ms _ _ _ _ _ _ V6 ⟨bx0.out, RS.out, RQ.out, RT.out, AP, hlo, GL.out, hb4⟩ ⟨rfl, hgd.n, hgd.q⟩ hb1 hb5 hn R hR) ?_
  rintro e V7 ⟨sa3, sc3, qa3, qc3, ta3, tc3, rfl, HR1, hfr, hmv⟩
  have m7 : Mv (Hb hb (.slice none 0 0) (.slice qa L.q.length qc) (.slice ta ms.length tc)) V6 V7 := hmv
  refine ⟨_, rfl, ?_⟩
  refine pt ?_
  replace HB := hide (HB.out.step m7 (fun g hg e => (FR g e).resolve_right (by omega)))
  replace bx1 := hide (m7.box bx1.out (fun h => by have := SF _ h; omega))
  replace bx0 := hide HR1.bx; have RS := hide HR1.rs; have RQ := hide HR1.rq; have RT := hide HR1.rt; replace GL := hide HR1.gl; replace AP := HR1.ap
  replace NB : Hid (∀ g, (rb (.slice sa3 R.2.1.sh.length sc3) = some g ∨ rb (.slice qa3 R.2.1.q.length qc3) = some g ∨ rb (.slice ta3 R.2.2.length tc3) = some g) → g ≠ hb ∧ g ≠ b1) := hide (fun g h => by have q1 := HAp.ne AP h; exact (hfr g (.inr h)).elim (fun q => q.elim (fun q => absurd q q1) (fun q => by have := NB.out g q; omega)) (fun q => by omega))
  replace FR := fun g h => (hfr g h).elim (FR g) (fun q => .inr (Nat.le_trans hsz q))
  clear HR1 hfr hmv hsz h4b SF hsb1
  refine sv (rvR E R) ?_
  refine nt (h7 _ _ (wp_ret ?_)); clear h7 K7
  exact bodyPost_ret (v := rvR E R) (by simp [results, Tryz.results70, go_sem]) rfl ⟨_, _, _, _, _, _, rfl, ⟨bx0.out, RS.out, RQ.out, RT.out, AP, hlo, GL.out, hb4⟩, FR, HB.out⟩

end Go.Proofs.YtlalldlbgnlbjaaGreatDoor
