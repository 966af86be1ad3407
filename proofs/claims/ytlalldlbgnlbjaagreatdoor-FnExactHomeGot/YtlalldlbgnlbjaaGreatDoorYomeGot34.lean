/- HmQ -/
import Derived.Test.YtlalldlbgnlbjaaGreatDoorYomeGot27
/- a home takes what is put (written by mkHmQ.py) -/
namespace Go.Proofs.YtlalldlbgnlbjaaGreatDoor
open Go.RowKit
set_option linter.unusedVariables false
set_option linter.unusedSimpArgs false

set_option maxRecDepth 20000 in
set_option maxHeartbeats 2000000 in
theorem put_yes (E : Nat → Addr) (base hb : Nat) (L : Hm.Ln) (line : Int) (ms : List Hm.Mg) (sa : Option Addr) (sc : Nat) (qa : Option Addr) (qc : Nat) (ta : Option Addr) (tc : Nat) (w : World) (k c to l t d : Int) (h : Hr E w base hb L line ms sa sc qa qc ta tc) (hn : ms.length ≤ 1048000) (ho : L.own = c) (hbu : L.bu = 0) :
    Calls Tryz.prog 68 #[.pointer (some ⟨hb, 0, none⟩), .agg #[.int .i64 k, .int .i64 c, .int .i64 to, .int .i64 l, .int .i64 t, .int .i64 d]] w (HPost E w base hb (.slice sa L.sh.length sc) (.slice qa L.q.length qc) (.slice ta ms.length tc) ({ L with mem := d, own := 0 } : Hm.Ln) line (ms ++ [Hm.mDone c line]) (.tuple #[])) := by
  have HB : Hid (Mv (Hb hb (.slice sa L.sh.length sc) (.slice qa L.q.length qc) (.slice ta ms.length tc)) w w) := hide (Mv.refl _ _)
  have hlo := h.lo
  have hb4 := h.b4
  have hlt := lt_of_block h.bx
  have AP := h.ap
  have FR : ∀ g, Hb hb (.slice sa L.sh.length sc) (.slice qa L.q.length qc) (.slice ta ms.length tc) g → Hb hb (.slice sa L.sh.length sc) (.slice qa L.q.length qc) (.slice ta ms.length tc) g ∨ w.heap.size ≤ g := fun g h => .inl h
  have bx0 := hide h.bx; have RS := hide h.rs; have RQ := hide h.rq; have RT := hide h.rt; have GL := hide h.gl; clear h
  have NB : Hid (∀ g, (rb (.slice sa L.sh.length sc) = some g ∨ rb (.slice qa L.q.length qc) = some g ∨ rb (.slice ta ms.length tc) = some g) → g ≠ hb) := hide (fun g h => HAp.ne AP h)
  go_enter Tryz.func68, Tryz.ntmps68
  refine sk fun K1 h1 => rl ?_
  refine sbp #[.int .i64 k, .int .i64 c, .int .i64 to, .int .i64 l, .int .i64 t, .int .i64 d] 36 fun V1 b1 hb1 m1 bx1 => ?_
  have o0_1 := Xlo bx0 hb1
  have og_1 : w.heap.size ≤ b1 := Xhs HB hb1
  replace NB : Hid (∀ g, (rb (.slice sa L.sh.length sc) = some g ∨ rb (.slice qa L.q.length qc) = some g ∨ rb (.slice ta ms.length tc) = some g) → g ≠ hb ∧ g ≠ b1) := hide (fun g h => by have h1 := NB.out g h; have h2 := rows_lt RS.out RQ.out RT.out g h; exact (by omega))
  replace RS := hide (RS.out.mv m1 (fun _ _ h => h))
  replace RQ := hide (RQ.out.mv m1 (fun _ _ h => h))
  replace RT := hide (RT.out.mv m1 (fun _ _ h => h))
  replace GL := hide (GL.out.mv m1 (fun _ _ h => h))
  clear hb1
  refine nt (h1 _ _ (sk fun K2 h2 => sk fun K3 h3 => ?_)); clear h1 K1
  have hov : Hid ((L.own == c) = true) := hide (by simpa using ho)
  have hbv : Hid ((L.bu != 0) = false) := hide (by simp [hbu])
  clear hbu
  clear ho
  refine wp_region_but (z := 999) (S := fun w' => Mv (nob) V1.drew w') (by kernel_rfl) (Mv.refl _ _) (fun hS => ?_)
  have m2 : Mv nob V1 V1.drew := Mv.drew _
  obtain ⟨V2, hN⟩ : ∃ V, V1.drew = V := ⟨_, rfl⟩
  rw [hN] at hS m2 ⊢
  clear hN
  replace RS := hide (RS.out.mv m2 (fun _ _ h => h))
  replace RQ := hide (RQ.out.mv m2 (fun _ _ h => h))
  replace RT := hide (RT.out.mv m2 (fun _ _ h => h))
  replace GL := hide (GL.out.mv m2 (fun _ _ h => h))
  replace bx0 := Xbn (Xbn bx0 m1) m2; replace bx1 := Xbn bx1 m2
  have rbx0 := bx0; have rbx1 := bx1
  refine tk0 0 (.pointer (some ⟨hb, 0, none⟩)) rfl ?_
  refine tk0 1 (.pointer (some ⟨hb, 0, none⟩)) rfl ?_
  refine tk0 2 (.pointer (some ⟨hb, 0, none⟩)) rfl ?_
  refine tk0 3 (.pointer (some ⟨hb, 1, none⟩)) rfl ?_
  refine tk 4 (.int .i64 L.own) rfl (fun w' hSw => by (try dsimp only at hSw); have z0 := cell_box 1 (hSw.box rbx0.out (fun h => h)) rfl; go_simp) ?_
  refine tk0 5 (.pointer (some ⟨b1, 1, none⟩)) rfl ?_
  refine tk 6 (.int .i64 c) rfl (fun w' hSw => by (try dsimp only at hSw); have z0 := cell_box 1 (hSw.box rbx1.out (fun h => h)) rfl; go_simp) ?_
  refine tk 7 (.bool true) rfl (fun w' hSw => by (try dsimp only at hSw); have hd := hov.out; go_simp) ?_
  refine tk0 8 (.bool true) rfl ?_
  refine tk0 9 (.pointer (some ⟨hb, 0, none⟩)) rfl ?_
  refine tk0 10 (.pointer (some ⟨hb, 0, none⟩)) rfl ?_
  refine tk0 11 (.pointer (some ⟨hb, 0, none⟩)) rfl ?_
  refine tk 12 (.agg #[.int .i64 L.mem, .int .i64 L.own, .slice sa L.sh.length sc, .int .i64 L.bu, .int .i64 L.wt, .int .i64 L.ac, .slice qa L.q.length qc]) rfl (fun w' hSw => by (try dsimp only at hSw); have z0 := cell_box 0 (hSw.box rbx0.out (fun h => h)) rfl; have z1 := cell_box 1 (hSw.box rbx0.out (fun h => h)) rfl; have z2 := cell_box 2 (hSw.box rbx0.out (fun h => h)) rfl; have z3 := cell_box 3 (hSw.box rbx0.out (fun h => h)) rfl; have z4 := cell_box 4 (hSw.box rbx0.out (fun h => h)) rfl; have z5 := cell_box 5 (hSw.box rbx0.out (fun h => h)) rfl; have z6 := cell_box 6 (hSw.box rbx0.out (fun h => h)) rfl; go_simp) ?_
  refine kd_call (i := 13) (by kernel_rfl) rfl (by rfl) (by first | rfl | (go_simp; done)) (isBusy_any L.mem L.own (.slice sa L.sh.length sc) L.bu L.wt L.ac (.slice qa L.q.length qc) V2) ?_
  rintro e V3 ⟨rfl, hbl⟩
  have m3 : Mv (nob) V2 V3 := Mv.of_below hbl
  replace hS := hS.step m3 (fun _ _ h => h.elim)
  refine ⟨_, rfl, fun _ => hS, ?_⟩
  refine ptk ?_
  replace RS := hide (RS.out.mv m3 (fun _ _ h => h))
  replace RQ := hide (RQ.out.mv m3 (fun _ _ h => h))
  replace RT := hide (RT.out.mv m3 (fun _ _ h => h))
  replace GL := hide (GL.out.mv m3 (fun _ _ h => h))
  clear hbl
  rw [hbv.out]
  refine tk0 14 (.bool true) rfl ?_
  refine tk0 15 (.bool true) rfl ?_
  refine wpAnyK_done (by kernel_rfl) ?_
  clear hS rbx0 rbx1
  refine then_normal (h3 _ _ (ct (rl ?_))); clear h3 K3
  refine sv (.pointer (some ⟨hb, 0, none⟩)) ?_
  refine sv (.pointer (some ⟨hb, 0, none⟩)) ?_
  refine sv (.pointer (some ⟨b1, 5, none⟩)) ?_
  replace bx1 := Xbn bx1 m3
  refine sl 5 bx1 ?_
  refine sg (.pointer (some ⟨hb, 0, none⟩)) ?_
  refine sv (.pointer (some ⟨hb, 0, none⟩)) ?_
  refine sv (.pointer (some ⟨hb, 0, none⟩)) ?_
  replace bx0 := Xbn bx0 m3
  refine ss 0 (.int .i64 d) bx0 fun V4 m4 bx0 => ?_
  replace HB := Xhn (Xhn (Xhn HB m1) m2) m3
  replace HB := hide (HB.out.step m4 (fun g hg e => .inl e))
  replace RS := hide (RS.out.mv m4 (fun g e h => by have h : g = hb := h; have := NB.out g (.inl e); omega))
  replace RQ := hide (RQ.out.mv m4 (fun g e h => by have h : g = hb := h; have := NB.out g (.inr (.inl e)); omega))
  replace RT := hide (RT.out.mv m4 (fun g e h => by have h : g = hb := h; have := NB.out g (.inr (.inr e)); omega))
  replace GL := hide (GL.out.mv m4 (fun g hg h => by have h : g = hb := h; omega))
  refine sg (.pointer (some ⟨hb, 0, none⟩)) ?_
  refine sv (.pointer (some ⟨hb, 0, none⟩)) ?_
  refine sv (.pointer (some ⟨hb, 1, none⟩)) ?_
  refine ss 1 (.int .i64 0) bx0 fun V5 m5 bx0 => ?_
  replace HB := hide (HB.out.step m5 (fun g hg e => .inl e))
  replace RS := hide (RS.out.mv m5 (fun g e h => by have h : g = hb := h; have := NB.out g (.inl e); omega))
  replace RQ := hide (RQ.out.mv m5 (fun g e h => by have h : g = hb := h; have := NB.out g (.inr (.inl e)); omega))
  replace RT := hide (RT.out.mv m5 (fun g e h => by have h : g = hb := h; have := NB.out g (.inr (.inr e)); omega))
  replace GL := hide (GL.out.mv m5 (fun g hg h => by have h : g = hb := h; omega))
  refine nt (h2 _ _ (rl ?_)); clear h2 K2
  refine sv (.pointer (some ⟨hb, 0, none⟩)) ?_
  refine sv (.pointer (some ⟨b1, 1, none⟩)) ?_
  replace bx1 := Xbb (Xbb bx1 m4) m5
  refine sl 1 bx1 ?_
  refine sv (.agg #[.int .i64 9, .int .i64 0, .int .i64 c, .int .i64 0, .int .i64 0, .int .i64 0]) ?_
  have hsz := HB.out.size
  have h4b : ∀ g, Hb hb (.slice sa L.sh.length sc) (.slice qa L.q.length qc) (.slice ta ms.length tc) g → 7 ≤ g := fun g h => Nat.le_trans hb4 (h.elim (fun e => e ▸ hlo) (fun q => (rows_lt RS.out RQ.out RT.out g q).1))
  have SF : ∀ g, Hb hb (.slice sa L.sh.length sc) (.slice qa L.q.length qc) (.slice ta ms.length tc) g → g ≠ b1 := fun g h => h.elim (fun e => by omega) (fun q => by have := NB.out g q; omega)
  have hsb1 := lt_of_block bx1.out
  refine sw_call (by rfl) (by first | rfl | (go_simp; done)) (tell_any E base hb ({ L with mem := d, own := 0 } : Hm.Ln) line ms _ _ _ _ _ _ V5 9 0 c 0 0 0 ⟨bx0.out, RS.out, RQ.out, RT.out, AP, hlo, GL.out, hb4⟩ (by omega)) ?_
  rintro e V6 ⟨sa1, sc1, qa1, qc1, ta1, tc1, rfl, HR1, hfr, hmv⟩
  have m6 : Mv (Hb hb (.slice sa L.sh.length sc) (.slice qa L.q.length qc) (.slice ta ms.length tc)) V5 V6 := hmv
  refine ⟨_, rfl, ?_⟩
  refine pt ?_
  replace HB := hide (HB.out.step m6 (fun g hg e => (FR g e).resolve_right (by omega)))
  replace bx1 := hide (m6.box bx1.out (fun h => by have := SF _ h; omega))
  replace bx0 := hide HR1.bx; have RS := hide HR1.rs; have RQ := hide HR1.rq; have RT := hide HR1.rt; replace GL := hide HR1.gl; replace AP := HR1.ap
  replace NB : Hid (∀ g, (rb (.slice sa1 (({ L with mem := d, own := 0 } : Hm.Ln)).sh.length sc1) = some g ∨ rb (.slice qa1 (({ L with mem := d, own := 0 } : Hm.Ln)).q.length qc1) = some g ∨ rb (.slice ta1 (ms ++ [[9, 0, c, line, 0, 0]]).length tc1) = some g) → g ≠ hb ∧ g ≠ b1) := hide (fun g h => by have q1 := HAp.ne AP h; exact (hfr g (.inr h)).elim (fun q => q.elim (fun q => absurd q q1) (fun q => by have := NB.out g q; omega)) (fun q => by omega))
  replace FR := fun g h => (hfr g h).elim (FR g) (fun q => .inr (Nat.le_trans hsz q))
  clear HR1 hfr hmv hsz h4b SF hsb1
  refine wpList_nil ?_
  exact bodyPost_end (v := .tuple #[]) (by simp [results, Tryz.results68, go_sem]) rfl ⟨_, _, _, _, _, _, rfl, ⟨bx0.out, RS.out, RQ.out, RT.out, AP, hlo, GL.out, hb4⟩, FR, HB.out⟩

set_option maxRecDepth 20000 in
set_option maxHeartbeats 2000000 in
theorem put_busy (E : Nat → Addr) (base hb : Nat) (L : Hm.Ln) (line : Int) (ms : List Hm.Mg) (sa : Option Addr) (sc : Nat) (qa : Option Addr) (qc : Nat) (ta : Option Addr) (tc : Nat) (w : World) (k c to l t d : Int) (h : Hr E w base hb L line ms sa sc qa qc ta tc) (hn : ms.length ≤ 1048000) (ho : L.own = c) (hbu : ¬ L.bu = 0) :
    Calls Tryz.prog 68 #[.pointer (some ⟨hb, 0, none⟩), .agg #[.int .i64 k, .int .i64 c, .int .i64 to, .int .i64 l, .int .i64 t, .int .i64 d]] w (HPost E w base hb (.slice sa L.sh.length sc) (.slice qa L.q.length qc) (.slice ta ms.length tc) L line (ms ++ [Hm.mDone c line]) (.tuple #[])) := by
  have HB : Hid (Mv (Hb hb (.slice sa L.sh.length sc) (.slice qa L.q.length qc) (.slice ta ms.length tc)) w w) := hide (Mv.refl _ _)
  have hlo := h.lo
  have hb4 := h.b4
  have hlt := lt_of_block h.bx
  have AP := h.ap
  have FR : ∀ g, Hb hb (.slice sa L.sh.length sc) (.slice qa L.q.length qc) (.slice ta ms.length tc) g → Hb hb (.slice sa L.sh.length sc) (.slice qa L.q.length qc) (.slice ta ms.length tc) g ∨ w.heap.size ≤ g := fun g h => .inl h
  have bx0 := hide h.bx; have RS := hide h.rs; have RQ := hide h.rq; have RT := hide h.rt; have GL := hide h.gl; clear h
  have NB : Hid (∀ g, (rb (.slice sa L.sh.length sc) = some g ∨ rb (.slice qa L.q.length qc) = some g ∨ rb (.slice ta ms.length tc) = some g) → g ≠ hb) := hide (fun g h => HAp.ne AP h)
  go_enter Tryz.func68, Tryz.ntmps68
  refine sk fun K1 h1 => rl ?_
  refine sbp #[.int .i64 k, .int .i64 c, .int .i64 to, .int .i64 l, .int .i64 t, .int .i64 d] 36 fun V1 b1 hb1 m1 bx1 => ?_
  have o0_1 := Xlo bx0 hb1
  have og_1 : w.heap.size ≤ b1 := Xhs HB hb1
  replace NB : Hid (∀ g, (rb (.slice sa L.sh.length sc) = some g ∨ rb (.slice qa L.q.length qc) = some g ∨ rb (.slice ta ms.length tc) = some g) → g ≠ hb ∧ g ≠ b1) := hide (fun g h => by have h1 := NB.out g h; have h2 := rows_lt RS.out RQ.out RT.out g h; exact (by omega))
  replace RS := hide (RS.out.mv m1 (fun _ _ h => h))
  replace RQ := hide (RQ.out.mv m1 (fun _ _ h => h))
  replace RT := hide (RT.out.mv m1 (fun _ _ h => h))
  replace GL := hide (GL.out.mv m1 (fun _ _ h => h))
  clear hb1
  refine nt (h1 _ _ (sk fun K2 h2 => sk fun K3 h3 => ?_)); clear h1 K1
  have hov : Hid ((L.own == c) = true) := hide (by simpa using ho)
  have hbv : Hid ((L.bu != 0) = true) := hide (by simpa using hbu)
  clear hbu
  clear ho
  refine wp_region_but (z := 999) (S := fun w' => Mv (nob) V1.drew w') (by kernel_rfl) (Mv.refl _ _) (fun hS => ?_)
  have m2 : Mv nob V1 V1.drew := Mv.drew _
  obtain ⟨V2, hN⟩ : ∃ V, V1.drew = V := ⟨_, rfl⟩
  rw [hN] at hS m2 ⊢
  clear hN
  replace RS := hide (RS.out.mv m2 (fun _ _ h => h))
  replace RQ := hide (RQ.out.mv m2 (fun _ _ h => h))
  replace RT := hide (RT.out.mv m2 (fun _ _ h => h))
  replace GL := hide (GL.out.mv m2 (fun _ _ h => h))
  replace bx0 := Xbn (Xbn bx0 m1) m2; replace bx1 := Xbn bx1 m2
  have rbx0 := bx0; have rbx1 := bx1
  refine tk0 0 (.pointer (some ⟨hb, 0, none⟩)) rfl ?_
  refine tk0 1 (.pointer (some ⟨hb, 0, none⟩)) rfl ?_
  refine tk0 2 (.pointer (some ⟨hb, 0, none⟩)) rfl ?_
  refine tk0 3 (.pointer (some ⟨hb, 1, none⟩)) rfl ?_
  refine tk 4 (.int .i64 L.own) rfl (fun w' hSw => by (try dsimp only at hSw); have z0 := cell_box 1 (hSw.box rbx0.out (fun h => h)) rfl; go_simp) ?_
  refine tk0 5 (.pointer (some ⟨b1, 1, none⟩)) rfl ?_
  refine tk 6 (.int .i64 c) rfl (fun w' hSw => by (try dsimp only at hSw); have z0 := cell_box 1 (hSw.box rbx1.out (fun h => h)) rfl; go_simp) ?_
  refine tk 7 (.bool true) rfl (fun w' hSw => by (try dsimp only at hSw); have hd := hov.out; go_simp) ?_
  refine tk0 8 (.bool true) rfl ?_
  refine tk0 9 (.pointer (some ⟨hb, 0, none⟩)) rfl ?_
  refine tk0 10 (.pointer (some ⟨hb, 0, none⟩)) rfl ?_
  refine tk0 11 (.pointer (some ⟨hb, 0, none⟩)) rfl ?_
  refine tk 12 (.agg #[.int .i64 L.mem, .int .i64 L.own, .slice sa L.sh.length sc, .int .i64 L.bu, .int .i64 L.wt, .int .i64 L.ac, .slice qa L.q.length qc]) rfl (fun w' hSw => by (try dsimp only at hSw); have z0 := cell_box 0 (hSw.box rbx0.out (fun h => h)) rfl; have z1 := cell_box 1 (hSw.box rbx0.out (fun h => h)) rfl; have z2 := cell_box 2 (hSw.box rbx0.out (fun h => h)) rfl; have z3 := cell_box 3 (hSw.box rbx0.out (fun h => h)) rfl; have z4 := cell_box 4 (hSw.box rbx0.out (fun h => h)) rfl; have z5 := cell_box 5 (hSw.box rbx0.out (fun h => h)) rfl; have z6 := cell_box 6 (hSw.box rbx0.out (fun h => h)) rfl; go_simp) ?_
  refine kd_call (i := 13) (by kernel_rfl) rfl (by rfl) (by first | rfl | (go_simp; done)) (isBusy_any L.mem L.own (.slice sa L.sh.length sc) L.bu L.wt L.ac (.slice qa L.q.length qc) V2) ?_
  rintro e V3 ⟨rfl, hbl⟩
  have m3 : Mv (nob) V2 V3 := Mv.of_below hbl
  replace hS := hS.step m3 (fun _ _ h => h.elim)
  refine ⟨_, rfl, fun _ => hS, ?_⟩
  refine ptk ?_
  replace RS := hide (RS.out.mv m3 (fun _ _ h => h))
  replace RQ := hide (RQ.out.mv m3 (fun _ _ h => h))
  replace RT := hide (RT.out.mv m3 (fun _ _ h => h))
  replace GL := hide (GL.out.mv m3 (fun _ _ h => h))
  clear hbl
  rw [hbv.out]
  refine tk0 14 (.bool false) rfl ?_
  refine tk0 15 (.bool false) rfl ?_
  refine wpAnyK_done (by kernel_rfl) ?_
  clear hS rbx0 rbx1
  refine then_normal (h3 _ _ (cf (wp_skip (then_normal (h2 _ _ (rl ?_)))))); clear h3 K3; clear h2 K2
  refine sv (.pointer (some ⟨hb, 0, none⟩)) ?_
  refine sv (.pointer (some ⟨b1, 1, none⟩)) ?_
  replace bx1 := Xbn bx1 m3
  refine sl 1 bx1 ?_
  refine sv (.agg #[.int .i64 9, .int .i64 0, .int .i64 c, .int .i64 0, .int .i64 0, .int .i64 0]) ?_
  replace HB := Xhn (Xhn (Xhn HB m1) m2) m3
  have hsz := HB.out.size
  have h4b : ∀ g, Hb hb (.slice sa L.sh.length sc) (.slice qa L.q.length qc) (.slice ta ms.length tc) g → 7 ≤ g := fun g h => Nat.le_trans hb4 (h.elim (fun e => e ▸ hlo) (fun q => (rows_lt RS.out RQ.out RT.out g q).1))
  have SF : ∀ g, Hb hb (.slice sa L.sh.length sc) (.slice qa L.q.length qc) (.slice ta ms.length tc) g → g ≠ b1 := fun g h => h.elim (fun e => by omega) (fun q => by have := NB.out g q; omega)
  have hsb1 := lt_of_block bx1.out
  replace bx0 := Xbn bx0 m3
  refine sw_call (by rfl) (by first | rfl | (go_simp; done)) (tell_any E base hb L line ms _ _ _ _ _ _ V3 9 0 c 0 0 0 ⟨bx0.out, RS.out, RQ.out, RT.out, AP, hlo, GL.out, hb4⟩ (by omega)) ?_
  rintro e V4 ⟨sa2, sc2, qa2, qc2, ta2, tc2, rfl, HR1, hfr, hmv⟩
  have m4 : Mv (Hb hb (.slice sa L.sh.length sc) (.slice qa L.q.length qc) (.slice ta ms.length tc)) V3 V4 := hmv
  refine ⟨_, rfl, ?_⟩
  refine pt ?_
  replace HB := hide (HB.out.step m4 (fun g hg e => (FR g e).resolve_right (by omega)))
  replace bx1 := hide (m4.box bx1.out (fun h => by have := SF _ h; omega))
  replace bx0 := hide HR1.bx; have RS := hide HR1.rs; have RQ := hide HR1.rq; have RT := hide HR1.rt; replace GL := hide HR1.gl; replace AP := HR1.ap
  replace NB : Hid (∀ g, (rb (.slice sa2 L.sh.length sc2) = some g ∨ rb (.slice qa2 L.q.length qc2) = some g ∨ rb (.slice ta2 (ms ++ [[9, 0, c, line, 0, 0]]).length tc2) = some g) → g ≠ hb ∧ g ≠ b1) := hide (fun g h => by have q1 := HAp.ne AP h; exact (hfr g (.inr h)).elim (fun q => q.elim (fun q => absurd q q1) (fun q => by have := NB.out g q; omega)) (fun q => by omega))
  replace FR := fun g h => (hfr g h).elim (FR g) (fun q => .inr (Nat.le_trans hsz q))
  clear HR1 hfr hmv hsz h4b SF hsb1
  refine wpList_nil ?_
  exact bodyPost_end (v := .tuple #[]) (by simp [results, Tryz.results68, go_sem]) rfl ⟨_, _, _, _, _, _, rfl, ⟨bx0.out, RS.out, RQ.out, RT.out, AP, hlo, GL.out, hb4⟩, FR, HB.out⟩

set_option maxRecDepth 20000 in
set_option maxHeartbeats 2000000 in
theorem put_no (E : Nat → Addr) (base hb : Nat) (L : Hm.Ln) (line : Int) (ms : List Hm.Mg) (sa : Option Addr) (sc : Nat) (qa : Option Addr) (qc : Nat) (ta : Option Addr) (tc : Nat) (w : World) (k c to l t d : Int) (h : Hr E w base hb L line ms sa sc qa qc ta tc) (hn : ms.length ≤ 1048000) (ho : ¬ L.own = c) :
    Calls Tryz.prog 68 #[.pointer (some ⟨hb, 0, none⟩), .agg #[.int .i64 k, .int .i64 c, .int .i64 to, .int .i64 l, .int .i64 t, .int .i64 d]] w (HPost E w base hb (.slice sa L.sh.length sc) (.slice qa L.q.length qc) (.slice ta ms.length tc) L line (ms ++ [Hm.mDone c line]) (.tuple #[])) := by
  have HB : Hid (Mv (Hb hb (.slice sa L.sh.length sc) (.slice qa L.q.length qc) (.slice ta ms.length tc)) w w) := hide (Mv.refl _ _)
  have hlo := h.lo
  have hb4 := h.b4
  have hlt := lt_of_block h.bx
  have AP := h.ap
  have FR : ∀ g, Hb hb (.slice sa L.sh.length sc) (.slice qa L.q.length qc) (.slice ta ms.length tc) g → Hb hb (.slice sa L.sh.length sc) (.slice qa L.q.length qc) (.slice ta ms.length tc) g ∨ w.heap.size ≤ g := fun g h => .inl h
  have bx0 := hide h.bx; have RS := hide h.rs; have RQ := hide h.rq; have RT := hide h.rt; have GL := hide h.gl; clear h
  have NB : Hid (∀ g, (rb (.slice sa L.sh.length sc) = some g ∨ rb (.slice qa L.q.length qc) = some g ∨ rb (.slice ta ms.length tc) = some g) → g ≠ hb) := hide (fun g h => HAp.ne AP h)
  go_enter Tryz.func68, Tryz.ntmps68
  refine sk fun K1 h1 => rl ?_
  refine sbp #[.int .i64 k, .int .i64 c, .int .i64 to, .int .i64 l, .int .i64 t, .int .i64 d] 36 fun V1 b1 hb1 m1 bx1 => ?_
  have o0_1 := Xlo bx0 hb1
  have og_1 : w.heap.size ≤ b1 := Xhs HB hb1
  replace NB : Hid (∀ g, (rb (.slice sa L.sh.length sc) = some g ∨ rb (.slice qa L.q.length qc) = some g ∨ rb (.slice ta ms.length tc) = some g) → g ≠ hb ∧ g ≠ b1) := hide (fun g h => by have h1 := NB.out g h; have h2 := rows_lt RS.out RQ.out RT.out g h; exact (by omega))
  replace RS := hide (RS.out.mv m1 (fun _ _ h => h))
  replace RQ := hide (RQ.out.mv m1 (fun _ _ h => h))
  replace RT := hide (RT.out.mv m1 (fun _ _ h => h))
  replace GL := hide (GL.out.mv m1 (fun _ _ h => h))
  clear hb1
  refine nt (h1 _ _ (sk fun K2 h2 => sk fun K3 h3 => ?_)); clear h1 K1
  have hov : Hid ((L.own == c) = false) := hide (by simpa using ho)
  clear ho
  refine wp_region_but (z := 999) (S := fun w' => Mv (nob) V1.drew w') (by kernel_rfl) (Mv.refl _ _) (fun hS => ?_)
  have m2 : Mv nob V1 V1.drew := Mv.drew _
  obtain ⟨V2, hN⟩ : ∃ V, V1.drew = V := ⟨_, rfl⟩
  rw [hN] at hS m2 ⊢
  clear hN
  replace RS := hide (RS.out.mv m2 (fun _ _ h => h))
  replace RQ := hide (RQ.out.mv m2 (fun _ _ h => h))
  replace RT := hide (RT.out.mv m2 (fun _ _ h => h))
  replace GL := hide (GL.out.mv m2 (fun _ _ h => h))
  replace bx0 := Xbn (Xbn bx0 m1) m2; replace bx1 := Xbn bx1 m2
  have rbx0 := bx0; have rbx1 := bx1
  refine tk0 0 (.pointer (some ⟨hb, 0, none⟩)) rfl ?_
  refine tk0 1 (.pointer (some ⟨hb, 0, none⟩)) rfl ?_
  refine tk0 2 (.pointer (some ⟨hb, 0, none⟩)) rfl ?_
  refine tk0 3 (.pointer (some ⟨hb, 1, none⟩)) rfl ?_
  refine tk 4 (.int .i64 L.own) rfl (fun w' hSw => by (try dsimp only at hSw); have z0 := cell_box 1 (hSw.box rbx0.out (fun h => h)) rfl; go_simp) ?_
  refine tk0 5 (.pointer (some ⟨b1, 1, none⟩)) rfl ?_
  refine tk 6 (.int .i64 c) rfl (fun w' hSw => by (try dsimp only at hSw); have z0 := cell_box 1 (hSw.box rbx1.out (fun h => h)) rfl; go_simp) ?_
  refine tk 7 (.bool false) rfl (fun w' hSw => by (try dsimp only at hSw); have hd := hov.out; go_simp) ?_
  refine tk0 8 (.bool false) rfl ?_
  refine tu 9 rfl ?_
  refine tu 10 rfl ?_
  refine tu 11 rfl ?_
  refine tu 12 rfl ?_
  refine tu 13 rfl ?_
  refine tu 14 rfl ?_
  refine tk0 15 (.bool false) rfl ?_
  refine wpAnyK_done (by kernel_rfl) ?_
  clear hS rbx0 rbx1
  refine then_normal (h3 _ _ (cf (wp_skip (then_normal (h2 _ _ (rl ?_)))))); clear h3 K3; clear h2 K2
  refine sv (.pointer (some ⟨hb, 0, none⟩)) ?_
  refine sv (.pointer (some ⟨b1, 1, none⟩)) ?_
  refine sl 1 bx1 ?_
  refine sv (.agg #[.int .i64 9, .int .i64 0, .int .i64 c, .int .i64 0, .int .i64 0, .int .i64 0]) ?_
  replace HB := Xhn (Xhn HB m1) m2
  have hsz := HB.out.size
  have h4b : ∀ g, Hb hb (.slice sa L.sh.length sc) (.slice qa L.q.length qc) (.slice ta ms.length tc) g → 7 ≤ g := fun g h => Nat.le_trans hb4 (h.elim (fun e => e ▸ hlo) (fun q => (rows_lt RS.out RQ.out RT.out g q).1))
  have SF : ∀ g, Hb hb (.slice sa L.sh.length sc) (.slice qa L.q.length qc) (.slice ta ms.length tc) g → g ≠ b1 := fun g h => h.elim (fun e => by omega) (fun q => by have := NB.out g q; omega)
  have hsb1 := lt_of_block bx1.out
  refine sw_call (by rfl) (by first | rfl | (go_simp; done)) (tell_any E base hb L line ms _ _ _ _ _ _ V2 9 0 c 0 0 0 ⟨bx0.out, RS.out, RQ.out, RT.out, AP, hlo, GL.out, hb4⟩ (by omega)) ?_
  rintro e V3 ⟨sa3, sc3, qa3, qc3, ta3, tc3, rfl, HR1, hfr, hmv⟩
  have m3 : Mv (Hb hb (.slice sa L.sh.length sc) (.slice qa L.q.length qc) (.slice ta ms.length tc)) V2 V3 := hmv
  refine ⟨_, rfl, ?_⟩
  refine pt ?_
  replace HB := hide (HB.out.step m3 (fun g hg e => (FR g e).resolve_right (by omega)))
  replace bx1 := hide (m3.box bx1.out (fun h => by have := SF _ h; omega))
  replace bx0 := hide HR1.bx; have RS := hide HR1.rs; have RQ := hide HR1.rq; have RT := hide HR1.rt; replace GL := hide HR1.gl; replace AP := HR1.ap
  replace NB : Hid (∀ g, (rb (.slice sa3 L.sh.length sc3) = some g ∨ rb (.slice qa3 L.q.length qc3) = some g ∨ rb (.slice ta3 (ms ++ [[9, 0, c, line, 0, 0]]).length tc3) = some g) → g ≠ hb ∧ g ≠ b1) := hide (fun g h => by have q1 := HAp.ne AP h; exact (hfr g (.inr h)).elim (fun q => q.elim (fun q => absurd q q1) (fun q => by have := NB.out g q; omega)) (fun q => by omega))
  replace FR := fun g h => (hfr g h).elim (FR g) (fun q => .inr (Nat.le_trans hsz q))
  clear HR1 hfr hmv hsz h4b SF hsb1
  refine wpList_nil ?_
  exact bodyPost_end (v := .tuple #[]) (by simp [results, Tryz.results68, go_sem]) rfl ⟨_, _, _, _, _, _, rfl, ⟨bx0.out, RS.out, RQ.out, RT.out, AP, hlo, GL.out, hb4⟩, FR, HB.out⟩

end Go.Proofs.YtlalldlbgnlbjaaGreatDoor
