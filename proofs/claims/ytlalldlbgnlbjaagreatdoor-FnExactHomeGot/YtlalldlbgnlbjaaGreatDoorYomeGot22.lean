/- HmC -/
import Derived.Test.YtlalldlbgnlbjaaGreatDoorYomeGot21
/- a home's own steps: tell, grant, ask, begin (written by mkHmC.py) -/
namespace Go.Proofs.YtlalldlbgnlbjaaGreatDoor
open Go.RowKit
set_option linter.unusedVariables false
set_option linter.unusedSimpArgs false

set_option maxRecDepth 20000 in
set_option maxHeartbeats 2000000 in
theorem tell_any (E : Nat → Addr) (base hb : Nat) (L : Hm.Ln) (line : Int) (ms : List Hm.Mg) (sa : Option Addr) (sc : Nat) (qa : Option Addr) (qc : Nat) (ta : Option Addr) (tc : Nat) (w : World) (k f to l t d : Int) (h : Hr E w base hb L line ms sa sc qa qc ta tc) (hn : ms.length ≤ 1048576) :
    Calls Tryz.prog 89 #[.pointer (some ⟨hb, 0, none⟩), .agg #[.int .i64 k, .int .i64 f, .int .i64 to, .int .i64 l, .int .i64 t, .int .i64 d]] w (HPost E w base hb (.slice sa L.sh.length sc) (.slice qa L.q.length qc) (.slice ta ms.length tc) L line (ms ++ [[k, f, to, line, t, d]]) (.tuple #[])) := by
  have HB : Hid (Mv (Hb hb (.slice sa L.sh.length sc) (.slice qa L.q.length qc) (.slice ta ms.length tc)) w w) := hide (Mv.refl _ _)
  have hlo := h.lo
  have hb4 := h.b4
  have hlt := lt_of_block h.bx
  have AP := h.ap
  have FR : ∀ g, Hb hb (.slice sa L.sh.length sc) (.slice qa L.q.length qc) (.slice ta ms.length tc) g → Hb hb (.slice sa L.sh.length sc) (.slice qa L.q.length qc) (.slice ta ms.length tc) g ∨ w.heap.size ≤ g := fun g h => .inl h
  have bx0 := hide h.bx; have RS := hide h.rs; have RQ := hide h.rq; have RT := hide h.rt; have GL := hide h.gl; clear h
  have NB : Hid (∀ g, (rb (.slice sa L.sh.length sc) = some g ∨ rb (.slice qa L.q.length qc) = some g ∨ rb (.slice ta ms.length tc) = some g) → g ≠ hb) := hide (fun g h => HAp.ne AP h)
  go_enter Tryz.func89, Tryz.ntmps89
  refine sk fun K1 h1 => rl ?_
  refine sbp #[.int .i64 k, .int .i64 f, .int .i64 to, .int .i64 l, .int .i64 t, .int .i64 d] 36 fun V1 b1 hb1 m1 bx1 => ?_
  have o0_1 := Xlo bx0 hb1
  have og_1 : w.heap.size ≤ b1 := Xhs HB hb1
  replace NB : Hid (∀ g, (rb (.slice sa L.sh.length sc) = some g ∨ rb (.slice qa L.q.length qc) = some g ∨ rb (.slice ta ms.length tc) = some g) → g ≠ hb ∧ g ≠ b1) := hide (fun g h => by have h1 := NB.out g h; have h2 := rows_lt RS.out RQ.out RT.out g h; exact (by omega))
  replace RS := hide (RS.out.mv m1 (fun _ _ h => h))
  replace RQ := hide (RQ.out.mv m1 (fun _ _ h => h))
  replace RT := hide (RT.out.mv m1 (fun _ _ h => h))
  replace GL := hide (GL.out.mv m1 (fun _ _ h => h))
  clear hb1
  refine nt (h1 _ _ (sk fun K2 h2 => rl ?_)); clear h1 K1
  refine sv (.pointer (some ⟨hb, 0, none⟩)) ?_
  refine sg (.pointer (some ⟨hb, 0, none⟩)) ?_
  refine sv (.pointer (some ⟨hb, 7, none⟩)) ?_
  replace bx0 := Xbn bx0 m1
  refine sl 7 bx0 ?_
  refine sv (.pointer (some ⟨b1, 3, none⟩)) ?_
  refine ss 3 (.int .i64 line) bx1 fun V2 m2 bx1 => ?_
  replace RS := hide (RS.out.mv m2 (fun g e h => by have h : g = b1 := h; have := NB.out g (.inl e); omega))
  replace RQ := hide (RQ.out.mv m2 (fun g e h => by have h : g = b1 := h; have := NB.out g (.inr (.inl e)); omega))
  replace RT := hide (RT.out.mv m2 (fun g e h => by have h : g = b1 := h; have := NB.out g (.inr (.inr e)); omega))
  replace GL := hide (GL.out.mv m2 (fun g hg h => by have h : g = b1 := h; omega))
  refine nt (h2 _ _ ?_); clear h2 K2
  replace HB := Xhb (Xhn HB m1) m2; replace bx0 := Xbb bx0 m2
  have nbT := fun g e => NB.out g (.inr (.inr e))
  refine wp_region_but (z := 10) (S := fun w' => Mv (fun x => rb (.slice ta ms.length tc) = some x) V2.drew w') (by kernel_rfl) (Mv.refl _ _) (fun hS => ?_)
  have m3 : Mv nob V2 V2.drew := Mv.drew _
  obtain ⟨V3, hN⟩ : ∃ V, V2.drew = V := ⟨_, rfl⟩
  rw [hN] at hS m3 ⊢
  clear hN
  replace RS := hide (RS.out.mv m3 (fun _ _ h => h))
  replace RQ := hide (RQ.out.mv m3 (fun _ _ h => h))
  replace RT := hide (RT.out.mv m3 (fun _ _ h => h))
  replace GL := hide (GL.out.mv m3 (fun _ _ h => h))
  replace bx0 := Xbn bx0 m3; replace bx1 := Xbn bx1 m3
  have rbx0 := bx0; have rbx1 := bx1
  refine tk0 0 (.pointer (some ⟨hb, 0, none⟩)) rfl ?_
  refine tk0 1 (.pointer (some ⟨hb, 0, none⟩)) rfl ?_
  refine tk0 2 (.pointer (some ⟨hb, 0, none⟩)) rfl ?_
  refine tk0 3 (.pointer (some ⟨hb, 8, none⟩)) rfl ?_
  refine tk 4 (.slice ta ms.length tc) rfl (fun w' hSw => by (try dsimp only at hSw); have z0 := cell_box 8 (hSw.box rbx0.out (fun h => by have := nbT _ h; omega)) rfl; go_simp) ?_
  refine tk 5 (.agg #[.int .i64 k, .int .i64 f, .int .i64 to, .int .i64 line, .int .i64 t, .int .i64 d]) rfl (fun w' hSw => by (try dsimp only at hSw); have z0 := cell_box 0 (hSw.box rbx1.out (fun h => by have := nbT _ h; omega)) rfl; have z1 := cell_box 1 (hSw.box rbx1.out (fun h => by have := nbT _ h; omega)) rfl; have z2 := cell_box 2 (hSw.box rbx1.out (fun h => by have := nbT _ h; omega)) rfl; have z3 := cell_box 3 (hSw.box rbx1.out (fun h => by have := nbT _ h; omega)) rfl; have z4 := cell_box 4 (hSw.box rbx1.out (fun h => by have := nbT _ h; omega)) rfl; have z5 := cell_box 5 (hSw.box rbx1.out (fun h => by have := nbT _ h; omega)) rfl; go_simp) ?_
  replace HB := Xhn HB m3
  refine kd_valI (i := 6) (v := .slice (some ⟨V3.heap.size, 0, none⟩) 1 1) (w' := V3.alloc (.cells #[.int .i64 k, .int .i64 f, .int .i64 to, .int .i64 line, .int .i64 t, .int .i64 d] 36)) (fun V => Mv nob V3 V ∧ V.heap[V3.heap.size]? = some (.cells #[.int .i64 k, .int .i64 f, .int .i64 to, .int .i64 line, .int .i64 t, .int .i64 d] 36 (0, 0))) (by kernel_rfl) rfl (by rfl) (by first | rfl | go_simp) ⟨Mv.alloc _ _, heap_alloc_new _ _⟩ (fun V hI _ => hS.step hI.1 (fun _ _ h => h.elim)) ?_
  rintro V4 ⟨m4, nx⟩
  refine ptk ?_
  obtain ⟨b2, hb2⟩ : ∃ b2, V3.heap.size = b2 := ⟨_, rfl⟩
  rw [hb2] at nx ⊢
  have o1_2 := Xlo bx1 hb2
  have og_2 : w.heap.size ≤ b2 := Xhs HB hb2
  replace NB : Hid (∀ g, (rb (.slice sa L.sh.length sc) = some g ∨ rb (.slice qa L.q.length qc) = some g ∨ rb (.slice ta ms.length tc) = some g) → g ≠ hb ∧ g ≠ b1 ∧ g ≠ b2) := hide (fun g h => by have h1 := NB.out g h; have h2 := rows_lt RS.out RQ.out RT.out g h; exact (by omega))
  replace RS := hide (RS.out.mv m4 (fun _ _ h => h))
  replace RQ := hide (RQ.out.mv m4 (fun _ _ h => h))
  replace RT := hide (RT.out.mv m4 (fun _ _ h => h))
  replace GL := hide (GL.out.mv m4 (fun _ _ h => h))
  have bx2 := hide nx
  clear nx
  replace hS := hS.step m4 (fun _ _ h => h.elim)
  clear hb2
  refine wpAnyK_re (S' := fun w' => Mv (fun x => rb (.slice ta ms.length tc) = some x) V4 w') (fun w' h => hS.step h (fun _ _ h => h)) ?_
  replace hS : Mv (fun x => rb (.slice ta ms.length tc) = some x) V4 V4 := Mv.refl _ _
  replace bx0 := Xbn bx0 m4; replace bx1 := Xbn bx1 m4
  have rbx0 := bx0; have rbx1 := bx1; have rbx2 := bx2
  have szT := lt_of_block bx2.out
  replace HB := Xhn HB m4
  have szB := HB.out.size
  have hlo2 : base ≤ V4.heap.size := by omega
  have nbT2 := fun g e => NB.out g (.inr (.inr e))
  have hs1 := fun g e => (RS.out.lt g e).2
  have hq1 := fun g e => (RQ.out.lt g e).2
  have hbz := lt_of_block bx0.out
  have hne := NB.out
  have h4r : ∀ g, rb (.slice ta ms.length tc) = some g → 7 ≤ g := fun g e => Nat.le_trans hb4 (RT.out.lt g e).1
  obtain ⟨gx, ox, kx, V5, hrun, hgr, hrg, hbl⟩ := add_msg V4 base (.slice ta ms.length tc) ms k f to line t d 32 b2 1 bx2.out RT.out hn hlo2
  have m5 : Mv (fun x => rb (.slice ta ms.length tc) = some x) V4 V5 := Mv.of_grown hgr
  replace hS := hS.step m5 (fun _ _ h => h)
  refine kd_valW (i := 7) (by kernel_rfl) rfl (by rfl) (run_append_op _ _ 32 (by rfl) (by rfl) (by rfl) hrun) (fun _ => hS) ?_
  refine ptk ?_
  replace HB := hide (HB.out.step m5 (fun g hg e => (FR g (.inr (.inr (.inr e)))).resolve_right (by omega)))
  replace bx0 := hide (m5.box bx0.out (fun h => by have := nbT2 _ h; omega))
  replace RS := hide (RS.out.mv m5 (fun g e h => (AP.2.1 g e).2 h))
  replace RQ := hide (RQ.out.mv m5 (fun g e h => AP.2.2 g e h))
  replace GL := hide (GL.out.mv m5 (fun g hg h => by have := h4r g h; omega))
  replace bx1 := hide (m5.box bx1.out (fun h => by have := nbT2 _ h; omega))
  replace bx2 := hide (m5.box bx2.out (fun h => by have := nbT2 _ h; omega))
  replace RT := hide hrg
  have hnb : ∀ g, rb (.slice (some ⟨gx, ox, none⟩) (ms.length + 1) kx) = some g → rb (.slice ta ms.length tc) = some g ∨ V4.heap.size ≤ g := fun g e => by have e2 : gx = g := rb_blk e; subst e2; exact hbl
  replace NB : Hid (∀ g, (rb (.slice sa L.sh.length sc) = some g ∨ rb (.slice qa L.q.length qc) = some g ∨ rb (.slice (some ⟨gx, ox, none⟩) (ms.length + 1) kx) = some g) → g ≠ hb ∧ g ≠ b1 ∧ g ≠ b2) := hide (fun g h => h.elim (fun h => hne g (.inl h)) (fun h => h.elim (fun h => hne g (.inr (.inl h))) (fun h => (hnb g h).elim (fun q => hne g (.inr (.inr q))) (fun q => by omega))))
  replace AP := AP.tell hbz hs1 hq1 hnb
  replace FR := fun g (h : Hb hb (.slice sa L.sh.length sc) (.slice qa L.q.length qc) (.slice (some ⟨gx, ox, none⟩) (ms.length + 1) kx) g) => h.elim (fun e => FR g (.inl e)) (fun h => h.elim (fun e => FR g (.inr (.inl e))) (fun h => h.elim (fun e => FR g (.inr (.inr (.inl e)))) (fun e => (hnb g e).elim (fun q => FR g (.inr (.inr (.inr q)))) (fun q => .inr (Nat.le_trans szB q)))))
  clear hrun hgr hrg hbl hnb hs1 hq1 hbz hne h4r nbT2 szT szB hlo2
  refine kd_val (i := 8) (v := .pointer (some ⟨hb, 0, none⟩)) (by kernel_rfl) rfl (by rfl) (by go_simp) hS ?_
  refine ptk ?_
  refine tk0 9 (.pointer (some ⟨hb, 8, none⟩)) rfl ?_
  refine kd_skipI (i := 10) (w' := V5.setCell ⟨hb, 8, none⟩ (.slice (some ⟨gx, ox, none⟩) (ms.length + 1) kx)) (fun V => Mv (fun g => g = hb) V5 V ∧ V.heap[hb]? = some (.cells #[.int .i64 L.mem, .int .i64 L.own, .slice sa L.sh.length sc, .int .i64 L.bu, .int .i64 L.wt, .int .i64 L.ac, .slice qa L.q.length qc, .int .i64 line, .slice (some ⟨gx, ox, none⟩) (ms.length + 1) kx] 87 (0, 0))) (by kernel_rfl) rfl (by rfl) (by have fr := fun i => frozen_of_row _ _ i _ _ bx0.out; have z0 := cell_box 8 bx0.out rfl; go_simp) ⟨Mv.set (Mv.refl _ _) _ _, (heap_setCell_same _ _ 8 _ _ _ (bx0.out)).trans rfl⟩ (fun _ _ h => absurd rfl h) ?_
  rintro V6 ⟨m6, nxV6⟩
  refine ptk ?_
  replace HB := hide (HB.out.step m6 (fun g hg e => .inl e))
  replace RS := hide (RS.out.mv m6 (fun g e h => by have h : g = hb := h; have := NB.out g (.inl e); omega))
  replace RQ := hide (RQ.out.mv m6 (fun g e h => by have h : g = hb := h; have := NB.out g (.inr (.inl e)); omega))
  replace RT := hide (RT.out.mv m6 (fun g e h => by have h : g = hb := h; have := NB.out g (.inr (.inr e)); omega))
  replace GL := hide (GL.out.mv m6 (fun g hg h => by have h : g = hb := h; omega))
  replace bx0 := hide nxV6
  clear nxV6
  refine wpAnyK_done (by kernel_rfl) ?_
  clear hS rbx0 rbx1 rbx2
  replace bx1 := Xbb bx1 m6; replace bx2 := Xbb bx2 m6
  have hl : ms.length + 1 = (ms ++ [[k, f, to, line, t, d]]).length := by simp
  rw [hl] at bx0 RT AP FR
  exact bodyPost_end (v := .tuple #[]) (by simp [results, Tryz.results89, go_sem]) rfl ⟨_, _, _, _, _, _, rfl, ⟨bx0.out, RS.out, RQ.out, RT.out, AP, hlo, GL.out, hb4⟩, FR, HB.out⟩

set_option maxRecDepth 20000 in
set_option maxHeartbeats 2000000 in
theorem grant_r (E : Nat → Addr) (base hb : Nat) (L : Hm.Ln) (line : Int) (ms : List Hm.Mg) (sa : Option Addr) (sc : Nat) (qa : Option Addr) (qc : Nat) (ta : Option Addr) (tc : Nat) (w : World) (c : Int) (h : Hr E w base hb L line ms sa sc qa qc ta tc) (hok : Ids.ok L.sh = true) (hc1 : 1 ≤ c) (hc5 : c ≤ 5) (hn : ms.length ≤ 1048000) :
    Calls Tryz.prog 98 #[.pointer (some ⟨hb, 0, none⟩), .agg #[.int .i64 c, .int .i64 1]] w (HPost E w base hb (.slice sa L.sh.length sc) (.slice qa L.q.length qc) (.slice ta ms.length tc) ({ L with sh := Ids.withId L.sh c, bu := 0, wt := 0, ac := 0 } : Hm.Ln) line (ms ++ [Hm.mGrant c line 1 L.mem]) (.tuple #[])) := by
  have HB : Hid (Mv (Hb hb (.slice sa L.sh.length sc) (.slice qa L.q.length qc) (.slice ta ms.length tc)) w w) := hide (Mv.refl _ _)
  have hlo := h.lo
  have hb4 := h.b4
  have hlt := lt_of_block h.bx
  have AP := h.ap
  have FR : ∀ g, Hb hb (.slice sa L.sh.length sc) (.slice qa L.q.length qc) (.slice ta ms.length tc) g → Hb hb (.slice sa L.sh.length sc) (.slice qa L.q.length qc) (.slice ta ms.length tc) g ∨ w.heap.size ≤ g := fun g h => .inl h
  have bx0 := hide h.bx; have RS := hide h.rs; have RQ := hide h.rq; have RT := hide h.rt; have GL := hide h.gl; clear h
  have NB : Hid (∀ g, (rb (.slice sa L.sh.length sc) = some g ∨ rb (.slice qa L.q.length qc) = some g ∨ rb (.slice ta ms.length tc) = some g) → g ≠ hb) := hide (fun g h => HAp.ne AP h)
  go_enter Tryz.func98, Tryz.ntmps98
  refine sk fun K1 h1 => rl ?_
  refine sbp #[.int .i64 c, .int .i64 1] 71 fun V1 b1 hb1 m1 bx1 => ?_
  have o0_1 := Xlo bx0 hb1
  have og_1 : w.heap.size ≤ b1 := Xhs HB hb1
  replace NB : Hid (∀ g, (rb (.slice sa L.sh.length sc) = some g ∨ rb (.slice qa L.q.length qc) = some g ∨ rb (.slice ta ms.length tc) = some g) → g ≠ hb ∧ g ≠ b1) := hide (fun g h => by have h1 := NB.out g h; have h2 := rows_lt RS.out RQ.out RT.out g h; exact (by omega))
  replace RS := hide (RS.out.mv m1 (fun _ _ h => h))
  replace RQ := hide (RQ.out.mv m1 (fun _ _ h => h))
  replace RT := hide (RT.out.mv m1 (fun _ _ h => h))
  replace GL := hide (GL.out.mv m1 (fun _ _ h => h))
  clear hb1
  refine nt (h1 _ _ (sk fun K2 h2 => sk fun K3 h3 => rl ?_)); clear h1 K1
  refine sv (.pointer (some ⟨b1, 1, none⟩)) ?_
  refine sl 1 bx1 ?_
  refine sg (.bool true) ?_
  refine nt (h3 _ _ (ct ?_)); clear h3 K3
  replace HB := Xhn HB m1; replace bx0 := Xbn bx0 m1
  have hl5 := ok_len hok
  refine wp_region_but (z := 12) (S := fun w' => Mv (nob) V1.drew w') (by kernel_rfl) (Mv.refl _ _) (fun hS => ?_)
  have m2 : Mv nob V1 V1.drew := Mv.drew _
  obtain ⟨V2, hN⟩ : ∃ V, V1.drew = V := ⟨_, rfl⟩
  rw [hN] at hS m2 ⊢
  clear hN
  replace RS := hide (RS.out.mv m2 (fun _ _ h => h))
  replace RQ := hide (RQ.out.mv m2 (fun _ _ h => h))
  replace RT := hide (RT.out.mv m2 (fun _ _ h => h))
  replace GL := hide (GL.out.mv m2 (fun _ _ h => h))
  replace bx0 := Xbn bx0 m2; replace bx1 := Xbn bx1 m2
  have rbx0 := bx0; have rbx1 := bx1
  refine tk0 0 (.pointer (some ⟨hb, 0, none⟩)) rfl ?_
  refine tk0 1 (.pointer (some ⟨hb, 0, none⟩)) rfl ?_
  refine tk0 2 (.pointer (some ⟨hb, 0, none⟩)) rfl ?_
  refine tk0 3 (.pointer (some ⟨hb, 0, none⟩)) rfl ?_
  refine tk0 4 (.pointer (some ⟨hb, 2, none⟩)) rfl ?_
  refine tk 5 (.slice sa L.sh.length sc) rfl (fun w' hSw => by (try dsimp only at hSw); have z0 := cell_box 2 (hSw.box rbx0.out (fun h => h)) rfl; go_simp) ?_
  refine tk0 6 (.pointer (some ⟨b1, 0, none⟩)) rfl ?_
  refine tk 7 (.int .i64 c) rfl (fun w' hSw => by (try dsimp only at hSw); have z0 := cell_box 0 (hSw.box rbx1.out (fun h => h)) rfl; go_simp) ?_
  have hbz := lt_of_block bx0.out
  replace HB := Xhn HB m2
  have szV := HB.out.size
  have b1z := lt_of_block bx1.out
  have hs1 := fun g e => (RS.out.lt g e).2
  have hq1 := fun g e => (RQ.out.lt g e).2
  have ht1 := fun g e => (RT.out.lt g e).2
  refine kd_call (i := 8) (by kernel_rfl) rfl (by rfl) (by first | rfl | (go_simp; done)) (implWith_any _ L.sh c V2 (rg_sl RS.out) (by omega)) ?_
  rintro e V3 ⟨u0, rfl, how, hbl⟩
  have m3 : Mv (nob) V2 V3 := Mv.of_below hbl
  replace hS := hS.step m3 (fun _ _ h => h.elim)
  refine ⟨_, rfl, fun _ => hS, ?_⟩
  refine ptk ?_
  replace RS := hide (RS.out.mv m3 (fun _ _ h => h))
  replace RQ := hide (RQ.out.mv m3 (fun _ _ h => h))
  replace RT := hide (RT.out.mv m3 (fun _ _ h => h))
  replace GL := hide (GL.out.mv m3 (fun _ _ h => h))
  rw [wRes_yes hok hc1 hc5] at how
  have RN := hide (ow_rg how)
  obtain ⟨na, nc, rfl, _⟩ := RN.out.form
  clear how hbl
  have rn1 := fun g e => (RN.out.lt g e).1
  refine kd_val (i := 9) (v := .pointer (some ⟨hb, 0, none⟩)) (by kernel_rfl) rfl (by rfl) (by go_simp) hS ?_
  refine ptk ?_
  refine kd_val (i := 10) (v := .pointer (some ⟨hb, 0, none⟩)) (by kernel_rfl) rfl (by rfl) (by go_simp) hS ?_
  refine ptk ?_
  refine tk0 11 (.pointer (some ⟨hb, 2, none⟩)) rfl ?_
  replace bx0 := Xbn bx0 m3
  refine kd_skipI (i := 12) (w' := V3.setCell ⟨hb, 2, none⟩ (.slice na (Ids.withId L.sh c).length nc)) (fun V => Mv (fun g => g = hb) V3 V ∧ V.heap[hb]? = some (.cells #[.int .i64 L.mem, .int .i64 L.own, .slice na (Ids.withId L.sh c).length nc, .int .i64 L.bu, .int .i64 L.wt, .int .i64 L.ac, .slice qa L.q.length qc, .int .i64 line, .slice ta ms.length tc] 87 (0, 0))) (by kernel_rfl) rfl (by rfl) (by have fr := fun i => frozen_of_row _ _ i _ _ bx0.out; have z0 := cell_box 2 bx0.out rfl; go_simp) ⟨Mv.set (Mv.refl _ _) _ _, (heap_setCell_same _ _ 2 _ _ _ (bx0.out)).trans rfl⟩ (fun _ _ h => absurd rfl h) ?_
  rintro V4 ⟨m4, nxV4⟩
  refine ptk ?_
  replace HB := Xhn HB m3
  replace HB := hide (HB.out.step m4 (fun g hg e => .inl e))
  replace RS := hide (RS.out.mv m4 (fun g e h => by have h : g = hb := h; have := NB.out g (.inl e); omega))
  replace RQ := hide (RQ.out.mv m4 (fun g e h => by have h : g = hb := h; have := NB.out g (.inr (.inl e)); omega))
  replace RT := hide (RT.out.mv m4 (fun g e h => by have h : g = hb := h; have := NB.out g (.inr (.inr e)); omega))
  replace GL := hide (GL.out.mv m4 (fun g hg h => by have h : g = hb := h; omega))
  replace RN := hide (RN.out.mv m4 (fun g e h => by have h : g = hb := h; have := (RN.out.lt g e).1; omega))
  replace bx0 := hide nxV4
  clear nxV4
  refine wpAnyK_done (by kernel_rfl) ?_
  clear hS rbx0 rbx1
  refine then_normal (h2 _ _ (sk fun K4 h4 => rl ?_)); clear h2 K2
  have hrn : base ≤ _ := Nat.le_trans (by omega : base ≤ w.heap.size) szV
  replace RS := hide (RN.out.base hrn); clear RN
  replace AP := AP.ids hbz hq1 ht1 rn1
  replace FR := fun g (h : Hb hb (.slice na (Ids.withId L.sh c).length nc) (.slice qa L.q.length qc) (.slice ta ms.length tc) g) => h.elim (fun e => FR g (.inl e)) (fun h => h.elim (fun e => .inr (Nat.le_trans szV (rn1 g e))) (fun h => FR g (.inr (.inr h))))
  replace NB : Hid (∀ g, (rb (.slice na (Ids.withId L.sh c).length nc) = some g ∨ rb (.slice qa L.q.length qc) = some g ∨ rb (.slice ta ms.length tc) = some g) → g ≠ hb ∧ g ≠ b1) := hide (fun g h => h.elim (fun e => by have := rn1 g e; omega) (fun h => NB.out g (.inr h)))
  clear hs1 hq1 ht1 rn1 hbz szV b1z hrn
  refine sv (.pointer (some ⟨hb, 0, none⟩)) ?_
  refine sv (.pointer (some ⟨hb, 0, none⟩)) ?_
  refine sv (.pointer (some ⟨hb, 0, none⟩)) ?_
  refine sg (.pointer (some ⟨hb, 0, none⟩)) ?_
  refine sv (.pointer (some ⟨hb, 0, none⟩)) ?_
  refine sv (.pointer (some ⟨hb, 3, none⟩)) ?_
  refine ss 3 (.int .i64 0) bx0 fun V5 m5 bx0 => ?_
  replace HB := hide (HB.out.step m5 (fun g hg e => .inl e))
  replace RS := hide (RS.out.mv m5 (fun g e h => by have h : g = hb := h; have := NB.out g (.inl e); omega))
  replace RQ := hide (RQ.out.mv m5 (fun g e h => by have h : g = hb := h; have := NB.out g (.inr (.inl e)); omega))
  replace RT := hide (RT.out.mv m5 (fun g e h => by have h : g = hb := h; have := NB.out g (.inr (.inr e)); omega))
  replace GL := hide (GL.out.mv m5 (fun g hg h => by have h : g = hb := h; omega))
  refine sg (.pointer (some ⟨hb, 0, none⟩)) ?_
  refine sv (.pointer (some ⟨hb, 0, none⟩)) ?_
  refine sv (.pointer (some ⟨hb, 4, none⟩)) ?_
  refine ss 4 (.int .i64 0) bx0 fun V6 m6 bx0 => ?_
  replace HB := hide (HB.out.step m6 (fun g hg e => .inl e))
  replace RS := hide (RS.out.mv m6 (fun g e h => by have h : g = hb := h; have := NB.out g (.inl e); omega))
  replace RQ := hide (RQ.out.mv m6 (fun g e h => by have h : g = hb := h; have := NB.out g (.inr (.inl e)); omega))
  replace RT := hide (RT.out.mv m6 (fun g e h => by have h : g = hb := h; have := NB.out g (.inr (.inr e)); omega))
  replace GL := hide (GL.out.mv m6 (fun g hg h => by have h : g = hb := h; omega))
  refine sg (.pointer (some ⟨hb, 0, none⟩)) ?_
  refine sv (.pointer (some ⟨hb, 0, none⟩)) ?_
  refine sv (.pointer (some ⟨hb, 5, none⟩)) ?_
  refine ss 5 (.int .i64 0) bx0 fun V7 m7 bx0 => ?_
  replace HB := hide (HB.out.step m7 (fun g hg e => .inl e))
  replace RS := hide (RS.out.mv m7 (fun g e h => by have h : g = hb := h; have := NB.out g (.inl e); omega))
  replace RQ := hide (RQ.out.mv m7 (fun g e h => by have h : g = hb := h; have := NB.out g (.inr (.inl e)); omega))
  replace RT := hide (RT.out.mv m7 (fun g e h => by have h : g = hb := h; have := NB.out g (.inr (.inr e)); omega))
  replace GL := hide (GL.out.mv m7 (fun g hg h => by have h : g = hb := h; omega))
  refine nt (h4 _ _ ?_); clear h4 K4
  replace bx1 := Xbb (Xbb (Xbb (Xbb (Xbn bx1 m3) m4) m5) m6) m7
  have SF : ∀ g, Hb hb (.slice na (Ids.withId L.sh c).length nc) (.slice qa L.q.length qc) (.slice ta ms.length tc) g → g ≠ b1 := fun g h => h.elim (fun e => by omega) (fun q => by have := NB.out g q; omega)
  refine wp_region_but (z := 999) (S := fun w' => Mv (Hb hb (.slice na (Ids.withId L.sh c).length nc) (.slice qa L.q.length qc) (.slice ta ms.length tc)) V7.drew w') (by kernel_rfl) (Mv.refl _ _) (fun hS => ?_)
  have m8 : Mv nob V7 V7.drew := Mv.drew _
  obtain ⟨V8, hN⟩ : ∃ V, V7.drew = V := ⟨_, rfl⟩
  rw [hN] at hS m8 ⊢
  clear hN
  replace RS := hide (RS.out.mv m8 (fun _ _ h => h))
  replace RQ := hide (RQ.out.mv m8 (fun _ _ h => h))
  replace RT := hide (RT.out.mv m8 (fun _ _ h => h))
  replace GL := hide (GL.out.mv m8 (fun _ _ h => h))
  replace bx0 := Xbn bx0 m8; replace bx1 := Xbn bx1 m8
  have rbx0 := bx0; have rbx1 := bx1
  refine tk0 0 (.pointer (some ⟨hb, 0, none⟩)) rfl ?_
  refine tk0 1 (.pointer (some ⟨b1, 0, none⟩)) rfl ?_
  refine tk 2 (.int .i64 c) rfl (fun w' hSw => by (try dsimp only at hSw); have z0 := cell_box 0 (hSw.box rbx1.out (fun h => by have := SF _ h; omega)) rfl; go_simp) ?_
  refine tk0 3 (.pointer (some ⟨b1, 1, none⟩)) rfl ?_
  refine tk 4 (.int .i64 1) rfl (fun w' hSw => by (try dsimp only at hSw); have z0 := cell_box 1 (hSw.box rbx1.out (fun h => by have := SF _ h; omega)) rfl; go_simp) ?_
  refine tk0 5 (.pointer (some ⟨hb, 0, none⟩)) rfl ?_
  refine tk0 6 (.pointer (some ⟨hb, 0, none⟩)) rfl ?_
  refine tk0 7 (.pointer (some ⟨hb, 0, none⟩)) rfl ?_
  refine tk0 8 (.pointer (some ⟨hb, 0, none⟩)) rfl ?_
  refine kd_val (i := 9) (v := .int .i64 L.mem) (by kernel_rfl) rfl (by rfl) (by have z0 := cell_box 0 (bx0.out) rfl; go_simp) hS ?_
  refine ptk ?_
  refine tk0 10 (.agg #[.int .i64 8, .int .i64 0, .int .i64 c, .int .i64 0, .int .i64 1, .int .i64 L.mem]) rfl ?_
  replace HB := Xhn HB m8
  have hsz := HB.out.size
  have h4b : ∀ g, Hb hb (.slice na (Ids.withId L.sh c).length nc) (.slice qa L.q.length qc) (.slice ta ms.length tc) g → 7 ≤ g := fun g h => Nat.le_trans hb4 (h.elim (fun e => e ▸ hlo) (fun q => (rows_lt RS.out RQ.out RT.out g q).1))
  have hsb1 := lt_of_block bx1.out
  refine kd_call (i := 11) (by kernel_rfl) rfl (by rfl) (by first | rfl | (go_simp; done)) (tell_any E base hb ({ L with sh := Ids.withId L.sh c, bu := 0, wt := 0, ac := 0 } : Hm.Ln) line ms _ _ _ _ _ _ V8 8 0 c 0 1 L.mem ⟨bx0.out, RS.out, RQ.out, RT.out, AP, hlo, GL.out, hb4⟩ (by omega)) ?_
  rintro e V9 ⟨sa1, sc1, qa1, qc1, ta1, tc1, rfl, HR1, hfr, hmv⟩
  have m9 : Mv (Hb hb (.slice na (Ids.withId L.sh c).length nc) (.slice qa L.q.length qc) (.slice ta ms.length tc)) V8 V9 := hmv
  replace hS := hS.step m9 (fun _ _ h => h)
  refine ⟨_, rfl, fun _ => hS, ?_⟩
  refine ptk ?_
  replace HB := hide (HB.out.step m9 (fun g hg e => (FR g e).resolve_right (by omega)))
  replace bx1 := hide (m9.box bx1.out (fun h => by have := SF _ h; omega))
  replace bx0 := hide HR1.bx; have RS := hide HR1.rs; have RQ := hide HR1.rq; have RT := hide HR1.rt; replace GL := hide HR1.gl; replace AP := HR1.ap
  replace NB : Hid (∀ g, (rb (.slice sa1 (({ L with sh := Ids.withId L.sh c, bu := 0, wt := 0, ac := 0 } : Hm.Ln)).sh.length sc1) = some g ∨ rb (.slice qa1 (({ L with sh := Ids.withId L.sh c, bu := 0, wt := 0, ac := 0 } : Hm.Ln)).q.length qc1) = some g ∨ rb (.slice ta1 (ms ++ [[8, 0, c, line, 1, L.mem]]).length tc1) = some g) → g ≠ hb ∧ g ≠ b1) := hide (fun g h => by have q1 := HAp.ne AP h; exact (hfr g (.inr h)).elim (fun q => q.elim (fun q => absurd q q1) (fun q => by have := NB.out g q; omega)) (fun q => by omega))
  replace FR := fun g h => (hfr g h).elim (FR g) (fun q => .inr (Nat.le_trans hsz q))
  clear HR1 hfr hmv hsz h4b SF hsb1
  refine wpAnyK_done (by kernel_rfl) ?_
  clear hS rbx0 rbx1
  exact bodyPost_end (v := .tuple #[]) (by simp [results, Tryz.results98, go_sem]) rfl ⟨_, _, _, _, _, _, rfl, ⟨bx0.out, RS.out, RQ.out, RT.out, AP, hlo, GL.out, hb4⟩, FR, HB.out⟩

set_option maxRecDepth 20000 in
set_option maxHeartbeats 2000000 in
theorem grant_w (E : Nat → Addr) (base hb : Nat) (L : Hm.Ln) (line : Int) (ms : List Hm.Mg) (sa : Option Addr) (sc : Nat) (qa : Option Addr) (qc : Nat) (ta : Option Addr) (tc : Nat) (w : World) (c t : Int) (h : Hr E w base hb L line ms sa sc qa qc ta tc) (hok : Ids.ok L.sh = true) (hc1 : 1 ≤ c) (hc5 : c ≤ 5) (hn : ms.length ≤ 1048000) (ht : ¬ t = 1) :
    Calls Tryz.prog 98 #[.pointer (some ⟨hb, 0, none⟩), .agg #[.int .i64 c, .int .i64 t]] w (HPost E w base hb (.slice sa L.sh.length sc) (.slice qa L.q.length qc) (.slice ta ms.length tc) ({ L with own := c, sh := [], bu := 0, wt := 0, ac := 0 } : Hm.Ln) line (ms ++ [Hm.mGrant c line t L.mem]) (.tuple #[])) := by
  have HB : Hid (Mv (Hb hb (.slice sa L.sh.length sc) (.slice qa L.q.length qc) (.slice ta ms.length tc)) w w) := hide (Mv.refl _ _)
  have hlo := h.lo
  have hb4 := h.b4
  have hlt := lt_of_block h.bx
  have AP := h.ap
  have FR : ∀ g, Hb hb (.slice sa L.sh.length sc) (.slice qa L.q.length qc) (.slice ta ms.length tc) g → Hb hb (.slice sa L.sh.length sc) (.slice qa L.q.length qc) (.slice ta ms.length tc) g ∨ w.heap.size ≤ g := fun g h => .inl h
  have bx0 := hide h.bx; have RS := hide h.rs; have RQ := hide h.rq; have RT := hide h.rt; have GL := hide h.gl; clear h
  have NB : Hid (∀ g, (rb (.slice sa L.sh.length sc) = some g ∨ rb (.slice qa L.q.length qc) = some g ∨ rb (.slice ta ms.length tc) = some g) → g ≠ hb) := hide (fun g h => HAp.ne AP h)
  go_enter Tryz.func98, Tryz.ntmps98
  refine sk fun K1 h1 => rl ?_
  refine sbp #[.int .i64 c, .int .i64 t] 71 fun V1 b1 hb1 m1 bx1 => ?_
  have o0_1 := Xlo bx0 hb1
  have og_1 : w.heap.size ≤ b1 := Xhs HB hb1
  replace NB : Hid (∀ g, (rb (.slice sa L.sh.length sc) = some g ∨ rb (.slice qa L.q.length qc) = some g ∨ rb (.slice ta ms.length tc) = some g) → g ≠ hb ∧ g ≠ b1) := hide (fun g h => by have h1 := NB.out g h; have h2 := rows_lt RS.out RQ.out RT.out g h; exact (by omega))
  replace RS := hide (RS.out.mv m1 (fun _ _ h => h))
  replace RQ := hide (RQ.out.mv m1 (fun _ _ h => h))
  replace RT := hide (RT.out.mv m1 (fun _ _ h => h))
  replace GL := hide (GL.out.mv m1 (fun _ _ h => h))
  clear hb1
  refine nt (h1 _ _ (sk fun K2 h2 => sk fun K3 h3 => rl ?_)); clear h1 K1
  refine sv (.pointer (some ⟨b1, 1, none⟩)) ?_
  refine sl 1 bx1 ?_
  refine sg (.bool false) (h := by have hd : (t == 1) = false := (by simpa using ht); go_simp) ?_
  refine nt (h3 _ _ (cf (rl ?_))); clear h3 K3
  refine sv (.pointer (some ⟨hb, 0, none⟩)) ?_
  refine sv (.pointer (some ⟨hb, 0, none⟩)) ?_
  refine sv (.pointer (some ⟨b1, 0, none⟩)) ?_
  refine sl 0 bx1 ?_
  refine sg (.pointer (some ⟨hb, 0, none⟩)) ?_
  refine sv (.pointer (some ⟨hb, 0, none⟩)) ?_
  refine sv (.pointer (some ⟨hb, 1, none⟩)) ?_
  replace bx0 := Xbn bx0 m1
  refine ss 1 (.int .i64 c) bx0 fun V2 m2 bx0 => ?_
  replace HB := Xhn HB m1
  replace HB := hide (HB.out.step m2 (fun g hg e => .inl e))
  replace RS := hide (RS.out.mv m2 (fun g e h => by have h : g = hb := h; have := NB.out g (.inl e); omega))
  replace RQ := hide (RQ.out.mv m2 (fun g e h => by have h : g = hb := h; have := NB.out g (.inr (.inl e)); omega))
  replace RT := hide (RT.out.mv m2 (fun g e h => by have h : g = hb := h; have := NB.out g (.inr (.inr e)); omega))
  replace GL := hide (GL.out.mv m2 (fun g hg h => by have h : g = hb := h; omega))
  refine sg (.pointer (some ⟨hb, 0, none⟩)) ?_
  refine sv (.pointer (some ⟨hb, 0, none⟩)) ?_
  refine sv (.pointer (some ⟨hb, 2, none⟩)) ?_
  refine ss 2 (.slice none 0 0) bx0 fun V3 m3 bx0 => ?_
  replace HB := hide (HB.out.step m3 (fun g hg e => .inl e))
  replace RS := hide (RS.out.mv m3 (fun g e h => by have h : g = hb := h; have := NB.out g (.inl e); omega))
  replace RQ := hide (RQ.out.mv m3 (fun g e h => by have h : g = hb := h; have := NB.out g (.inr (.inl e)); omega))
  replace RT := hide (RT.out.mv m3 (fun g e h => by have h : g = hb := h; have := NB.out g (.inr (.inr e)); omega))
  replace GL := hide (GL.out.mv m3 (fun g hg h => by have h : g = hb := h; omega))
  refine nt (h2 _ _ (sk fun K4 h4 => rl ?_)); clear h2 K2
  replace bx1 := Xbb (Xbb bx1 m2) m3
  replace RS : Hid (Rg V3 base (.slice none 0 0) 1 0 (gF (f1 []))) := hide (rg_nil _ _ _ _)
  replace AP := AP.nil
  replace FR := fun g (h : Hb hb (.slice none 0 0) (.slice qa L.q.length qc) (.slice ta ms.length tc) g) => h.elim (fun e => FR g (.inl e)) (fun h => h.elim (fun e => absurd e (by simp [rb])) (fun h => FR g (.inr (.inr h))))
  replace NB : Hid (∀ g, (rb (.slice none 0 0) = some g ∨ rb (.slice qa L.q.length qc) = some g ∨ rb (.slice ta ms.length tc) = some g) → g ≠ hb ∧ g ≠ b1) := hide (fun g h => h.elim (fun e => absurd e (by simp [rb])) (fun h => NB.out g (.inr h)))
  refine sv (.pointer (some ⟨hb, 0, none⟩)) ?_
  refine sv (.pointer (some ⟨hb, 0, none⟩)) ?_
  refine sv (.pointer (some ⟨hb, 0, none⟩)) ?_
  refine sg (.pointer (some ⟨hb, 0, none⟩)) ?_
  refine sv (.pointer (some ⟨hb, 0, none⟩)) ?_
  refine sv (.pointer (some ⟨hb, 3, none⟩)) ?_
  refine ss 3 (.int .i64 0) bx0 fun V4 m4 bx0 => ?_
  replace HB := hide (HB.out.step m4 (fun g hg e => .inl e))
  replace RS := hide (RS.out.mv m4 (fun g e h => by have h : g = hb := h; have := NB.out g (.inl e); omega))
  replace RQ := hide (RQ.out.mv m4 (fun g e h => by have h : g = hb := h; have := NB.out g (.inr (.inl e)); omega))
  replace RT := hide (RT.out.mv m4 (fun g e h => by have h : g = hb := h; have := NB.out g (.inr (.inr e)); omega))
  replace GL := hide (GL.out.mv m4 (fun g hg h => by have h : g = hb := h; omega))
  refine sg (.pointer (some ⟨hb, 0, none⟩)) ?_
  refine sv (.pointer (some ⟨hb, 0, none⟩)) ?_
  refine sv (.pointer (some ⟨hb, 4, none⟩)) ?_
  refine ss 4 (.int .i64 0) bx0 fun V5 m5 bx0 => ?_
  replace HB := hide (HB.out.step m5 (fun g hg e => .inl e))
  replace RS := hide (RS.out.mv m5 (fun g e h => by have h : g = hb := h; have := NB.out g (.inl e); omega))
  replace RQ := hide (RQ.out.mv m5 (fun g e h => by have h : g = hb := h; have := NB.out g (.inr (.inl e)); omega))
  replace RT := hide (RT.out.mv m5 (fun g e h => by have h : g = hb := h; have := NB.out g (.inr (.inr e)); omega))
  replace GL := hide (GL.out.mv m5 (fun g hg h => by have h : g = hb := h; omega))
  refine sg (.pointer (some ⟨hb, 0, none⟩)) ?_
  refine sv (.pointer (some ⟨hb, 0, none⟩)) ?_
  refine sv (.pointer (some ⟨hb, 5, none⟩)) ?_
  refine ss 5 (.int .i64 0) bx0 fun V6 m6 bx0 => ?_
  replace HB := hide (HB.out.step m6 (fun g hg e => .inl e))
  replace RS := hide (RS.out.mv m6 (fun g e h => by have h : g = hb := h; have := NB.out g (.inl e); omega))
  replace RQ := hide (RQ.out.mv m6 (fun g e h => by have h : g = hb := h; have := NB.out g (.inr (.inl e)); omega))
  replace RT := hide (RT.out.mv m6 (fun g e h => by have h : g = hb := h; have := NB.out g (.inr (.inr e)); omega))
  replace GL := hide (GL.out.mv m6 (fun g hg h => by have h : g = hb := h; omega))
  refine nt (h4 _ _ ?_); clear h4 K4
  replace bx1 := Xbb (Xbb (Xbb bx1 m4) m5) m6
  have SF : ∀ g, Hb hb (.slice none 0 0) (.slice qa L.q.length qc) (.slice ta ms.length tc) g → g ≠ b1 := fun g h => h.elim (fun e => by omega) (fun q => by have := NB.out g q; omega)
  refine wp_region_but (z := 999) (S := fun w' => Mv (Hb hb (.slice none 0 0) (.slice qa L.q.length qc) (.slice ta ms.length tc)) V6.drew w') (by kernel_rfl) (Mv.refl _ _) (fun hS => ?_)
  have m7 : Mv nob V6 V6.drew := Mv.drew _
  obtain ⟨V7, hN⟩ : ∃ V, V6.drew = V := ⟨_, rfl⟩
  rw [hN] at hS m7 ⊢
  clear hN
  replace RS := hide (RS.out.mv m7 (fun _ _ h => h))
  replace RQ := hide (RQ.out.mv m7 (fun _ _ h => h))
  replace RT := hide (RT.out.mv m7 (fun _ _ h => h))
  replace GL := hide (GL.out.mv m7 (fun _ _ h => h))
  replace bx0 := Xbn bx0 m7; replace bx1 := Xbn bx1 m7
  have rbx0 := bx0; have rbx1 := bx1
  refine tk0 0 (.pointer (some ⟨hb, 0, none⟩)) rfl ?_
  refine tk0 1 (.pointer (some ⟨b1, 0, none⟩)) rfl ?_
  refine tk 2 (.int .i64 c) rfl (fun w' hSw => by (try dsimp only at hSw); have z0 := cell_box 0 (hSw.box rbx1.out (fun h => by have := SF _ h; omega)) rfl; go_simp) ?_
  refine tk0 3 (.pointer (some ⟨b1, 1, none⟩)) rfl ?_
  refine tk 4 (.int .i64 t) rfl (fun w' hSw => by (try dsimp only at hSw); have z0 := cell_box 1 (hSw.box rbx1.out (fun h => by have := SF _ h; omega)) rfl; go_simp) ?_
  refine tk0 5 (.pointer (some ⟨hb, 0, none⟩)) rfl ?_
  refine tk0 6 (.pointer (some ⟨hb, 0, none⟩)) rfl ?_
  refine tk0 7 (.pointer (some ⟨hb, 0, none⟩)) rfl ?_
  refine tk0 8 (.pointer (some ⟨hb, 0, none⟩)) rfl ?_
  refine kd_val (i := 9) (v := .int .i64 L.mem) (by kernel_rfl) rfl (by rfl) (by have z0 := cell_box 0 (bx0.out) rfl; go_simp) hS ?_
  refine ptk ?_
  refine tk0 10 (.agg #[.int .i64 8, .int .i64 0, .int .i64 c, .int .i64 0, .int .i64 t, .int .i64 L.mem]) rfl ?_
  replace HB := Xhn HB m7
  have hsz := HB.out.size
  have h4b : ∀ g, Hb hb (.slice none 0 0) (.slice qa L.q.length qc) (.slice ta ms.length tc) g → 7 ≤ g := fun g h => Nat.le_trans hb4 (h.elim (fun e => e ▸ hlo) (fun q => (rows_lt RS.out RQ.out RT.out g q).1))
  have hsb1 := lt_of_block bx1.out
  refine kd_call (i := 11) (by kernel_rfl) rfl (by rfl) (by first | rfl | (go_simp; done)) (tell_any E base hb ({ L with own := c, sh := [], bu := 0, wt := 0, ac := 0 } : Hm.Ln) line ms _ _ _ _ _ _ V7 8 0 c 0 t L.mem ⟨bx0.out, RS.out, RQ.out, RT.out, AP, hlo, GL.out, hb4⟩ (by omega)) ?_
  rintro e V8 ⟨sa2, sc2, qa2, qc2, ta2, tc2, rfl, HR1, hfr, hmv⟩
  have m8 : Mv (Hb hb (.slice none 0 0) (.slice qa L.q.length qc) (.slice ta ms.length tc)) V7 V8 := hmv
  replace hS := hS.step m8 (fun _ _ h => h)
  refine ⟨_, rfl, fun _ => hS, ?_⟩
  refine ptk ?_
  replace HB := hide (HB.out.step m8 (fun g hg e => (FR g e).resolve_right (by omega)))
  replace bx1 := hide (m8.box bx1.out (fun h => by have := SF _ h; omega))
  replace bx0 := hide HR1.bx; have RS := hide HR1.rs; have RQ := hide HR1.rq; have RT := hide HR1.rt; replace GL := hide HR1.gl; replace AP := HR1.ap
  replace NB : Hid (∀ g, (rb (.slice sa2 (({ L with own := c, sh := [], bu := 0, wt := 0, ac := 0 } : Hm.Ln)).sh.length sc2) = some g ∨ rb (.slice qa2 (({ L with own := c, sh := [], bu := 0, wt := 0, ac := 0 } : Hm.Ln)).q.length qc2) = some g ∨ rb (.slice ta2 (ms ++ [[8, 0, c, line, t, L.mem]]).length tc2) = some g) → g ≠ hb ∧ g ≠ b1) := hide (fun g h => by have q1 := HAp.ne AP h; exact (hfr g (.inr h)).elim (fun q => q.elim (fun q => absurd q q1) (fun q => by have := NB.out g q; omega)) (fun q => by omega))
  replace FR := fun g h => (hfr g h).elim (FR g) (fun q => .inr (Nat.le_trans hsz q))
  clear HR1 hfr hmv hsz h4b SF hsb1
  refine wpAnyK_done (by kernel_rfl) ?_
  clear hS rbx0 rbx1
  exact bodyPost_end (v := .tuple #[]) (by simp [results, Tryz.results98, go_sem]) rfl ⟨_, _, _, _, _, _, rfl, ⟨bx0.out, RS.out, RQ.out, RT.out, AP, hlo, GL.out, hb4⟩, FR, HB.out⟩

theorem grant_any (E : Nat → Addr) (base hb : Nat) (L : Hm.Ln) (line : Int) (ms : List Hm.Mg) (sa : Option Addr) (sc : Nat) (qa : Option Addr) (qc : Nat) (ta : Option Addr) (tc : Nat) (w : World) (c t : Int) (h : Hr E w base hb L line ms sa sc qa qc ta tc) (hok : Ids.ok L.sh = true) (hc1 : 1 ≤ c) (hc5 : c ≤ 5) (hn : ms.length ≤ 1048000) :
    Calls Tryz.prog 98 #[.pointer (some ⟨hb, 0, none⟩), .agg #[.int .i64 c, .int .i64 t]] w (HPost E w base hb (.slice sa L.sh.length sc) (.slice qa L.q.length qc) (.slice ta ms.length tc) (Hm.grantL L c t) line (ms ++ [Hm.mGrant c line t L.mem]) (.tuple #[])) := by
  by_cases ht : t = 1
  · subst ht
    rw [Hm.grantL_read rfl]
    exact grant_r E base hb L line ms sa sc qa qc ta tc w c h hok hc1 hc5 hn
  · rw [Hm.grantL_write ht]
    exact grant_w E base hb L line ms sa sc qa qc ta tc w c t h hok hc1 hc5 hn ht
end Go.Proofs.YtlalldlbgnlbjaaGreatDoor
