/- HmS -/
import Derived.Test.YtlalldlbgnlbjaaGreatDoorYomeGot35
/- a home refuses data that it did not ask for, and one more where too many wait (written by mkHmS.py) -/
namespace Go.Proofs.YtlalldlbgnlbjaaGreatDoor
open Go.RowKit
set_option linter.unusedVariables false
set_option linter.unusedSimpArgs false

set_option maxRecDepth 20000 in
set_option maxHeartbeats 2000000 in
theorem given_idle (E : Nat → Addr) (base hb : Nat) (L : Hm.Ln) (line : Int) (ms : List Hm.Mg) (sa : Option Addr) (sc : Nat) (qa : Option Addr) (qc : Nat) (ta : Option Addr) (tc : Nat) (w : World) (k c to l t d : Int) (h : Hr E w base hb L line ms sa sc qa qc ta tc) (hbu : L.bu = 0) :
    Calls Tryz.prog 70 #[.pointer (some ⟨hb, 0, none⟩), .agg #[.int .i64 k, .int .i64 c, .int .i64 to, .int .i64 l, .int .i64 t, .int .i64 d]] w (HPost E w base hb (.slice sa L.sh.length sc) (.slice qa L.q.length qc) (.slice ta ms.length tc) L line ms (rfV c (E 4))) := by
  have HB : Hid (Mv (Hb hb (.slice sa L.sh.length sc) (.slice qa L.q.length qc) (.slice ta ms.length tc)) w w) := hide (Mv.refl _ _)
  have hlo := h.lo
  have hb4 := h.b4
  have hlt := lt_of_block h.bx
  have AP := h.ap
  have FR : ∀ g, Hb hb (.slice sa L.sh.length sc) (.slice qa L.q.length qc) (.slice ta ms.length tc) g → Hb hb (.slice sa L.sh.length sc) (.slice qa L.q.length qc) (.slice ta ms.length tc) g ∨ w.heap.size ≤ g := fun g h => .inl h
  have bx0 := hide h.bx; have RS := hide h.rs; have RQ := hide h.rq; have RT := hide h.rt; have GL := hide h.gl; clear h
  have NB : Hid (∀ g, (rb (.slice sa L.sh.length sc) = some g ∨ rb (.slice qa L.q.length qc) = some g ∨ rb (.slice ta ms.length tc) = some g) → g ≠ hb) := hide (fun g h => HAp.ne AP h)
  go_enter Tryz.func70, Tryz.ntmps70
  refine sk fun K1 h1 => rl ?_
  refine sbp #[.int .i64 k, .int .i64 c, .int .i64 to, .int .i64 l, .int .i64 t, .int .i64 d] 36 fun V1 b1 hb1 m1 bx1 => ?_
  have o0_1 := Xlo bx0 hb1
  have og_1 : w.heap.size ≤ b1 := Xhs HB hb1
  replace NB : Hid (∀ g, (rb (.slice sa L.sh.length sc) = some g ∨ rb (.slice qa L.q.length qc) = some g ∨ rb (.slice ta ms.length tc) = some g) → g ≠ hb ∧ g ≠ b1) := hide (fun g h => by have h1 := NB.out g h; have h2 := rows_lt RS.out RQ.out RT.out g h; exact (by omega))
  replace RS := hide (RS.out.mv m1 (fun _ _ h => h))
  replace RQ := hide (RQ.out.mv m1 (fun _ _ h => h))
  replace RT := hide (RT.out.mv m1 (fun _ _ h => h))
  replace GL := hide (GL.out.mv m1 (fun _ _ h => h))
  clear hb1
  refine sv (.nilIface) ?_
  refine nt (h1 _ _ (sk fun K2 h2 => sk fun K3 h3 => ?_)); clear h1 K1
  have hbv : Hid ((L.bu != 0) = false) := hide (by simp [hbu])
  clear hbu
  refine wp_region_but (z := 999) (S := fun w' => Mv (nob) V1.drew w') (by kernel_rfl) (Mv.refl _ _) (fun hS => ?_)
  have m2 : Mv nob V1 V1.drew := Mv.drew _
  obtain ⟨V2, hN⟩ : ∃ V, V1.drew = V := ⟨_, rfl⟩
  rw [hN] at hS m2 ⊢
  clear hN
  replace RS := hide (RS.out.mv m2 (fun _ _ h => h))
  replace RQ := hide (RQ.out.mv m2 (fun _ _ h => h))
  replace RT := hide (RT.out.mv m2 (fun _ _ h => h))
  replace GL := hide (GL.out.mv m2 (fun _ _ h => h))
  replace bx0 := Xbn (Xbn bx0 m1) m2; replace bx1 := Xbn bx1 m2
  have rbx0 := bx0; have rbx1 := bx1
  refine tk0 0 (.pointer (some ⟨hb, 0, none⟩)) rfl ?_
  refine tk0 1 (.pointer (some ⟨hb, 0, none⟩)) rfl ?_
  refine tk0 2 (.pointer (some ⟨hb, 0, none⟩)) rfl ?_
  refine tk 3 (.agg #[.int .i64 L.mem, .int .i64 L.own, .slice sa L.sh.length sc, .int .i64 L.bu, .int .i64 L.wt, .int .i64 L.ac, .slice qa L.q.length qc]) rfl (fun w' hSw => by (try dsimp only at hSw); have z0 := cell_box 0 (hSw.box rbx0.out (fun h => h)) rfl; have z1 := cell_box 1 (hSw.box rbx0.out (fun h => h)) rfl; have z2 := cell_box 2 (hSw.box rbx0.out (fun h => h)) rfl; have z3 := cell_box 3 (hSw.box rbx0.out (fun h => h)) rfl; have z4 := cell_box 4 (hSw.box rbx0.out (fun h => h)) rfl; have z5 := cell_box 5 (hSw.box rbx0.out (fun h => h)) rfl; have z6 := cell_box 6 (hSw.box rbx0.out (fun h => h)) rfl; go_simp) ?_
  refine kd_call (i := 4) (by kernel_rfl) rfl (by rfl) (by first | rfl | (go_simp; done)) (isBusy_any L.mem L.own (.slice sa L.sh.length sc) L.bu L.wt L.ac (.slice qa L.q.length qc) V2) ?_
  rintro e V3 ⟨rfl, hbl⟩
  have m3 : Mv (nob) V2 V3 := Mv.of_below hbl
  replace hS := hS.step m3 (fun _ _ h => h.elim)
  refine ⟨_, rfl, fun _ => hS, ?_⟩
  refine ptk ?_
  replace RS := hide (RS.out.mv m3 (fun _ _ h => h))
  replace RQ := hide (RQ.out.mv m3 (fun _ _ h => h))
  replace RT := hide (RT.out.mv m3 (fun _ _ h => h))
  replace GL := hide (GL.out.mv m3 (fun _ _ h => h))
  clear hbl
  rw [hbv.out]
  refine tk0 5 (.bool true) rfl ?_
  refine tk0 6 (.bool true) rfl ?_
  refine tu 7 rfl ?_
  refine tu 8 rfl ?_
  refine tu 9 rfl ?_
  refine tu 10 rfl ?_
  refine tu 11 rfl ?_
  refine tu 12 rfl ?_
  refine tu 13 rfl ?_
  refine tu 14 rfl ?_
  refine tk0 15 (.bool true) rfl ?_
  refine wpAnyK_done (by kernel_rfl) ?_
  clear hS rbx0 rbx1
  refine then_normal (h3 _ _ (ct (sk fun K4 h4 => rl ?_))); clear h3 K3
  refine sv (.pointer (some ⟨b1, 1, none⟩)) ?_
  replace bx1 := Xbn bx1 m3
  refine sl 1 bx1 ?_
  refine sg (erV (E 4)) (h := by have z0 := GL.out.unasked; go_simp) ?_
  refine sv (.agg #[.int .i64 c, erV (E 4)]) ?_
  refine sg (.iface 89 (.agg #[.int .i64 c, erV (E 4)])) ?_
  refine sv (.iface 89 (.agg #[.int .i64 c, erV (E 4)])) ?_
  refine nt (h4 _ _ (wp_ret (then_ret ?_))); clear h4 K4; clear h2 K2
  replace HB := Xhn (Xhn (Xhn HB m1) m2) m3; replace bx0 := Xbn bx0 m3
  exact bodyPost_ret (v := rfV c (E 4)) (by simp [results, Tryz.results70, go_sem]) rfl ⟨_, _, _, _, _, _, rfl, ⟨bx0.out, RS.out, RQ.out, RT.out, AP, hlo, GL.out, hb4⟩, FR, HB.out⟩

set_option maxRecDepth 20000 in
set_option maxHeartbeats 2000000 in
theorem given_other (E : Nat → Addr) (base hb : Nat) (L : Hm.Ln) (line : Int) (ms : List Hm.Mg) (sa : Option Addr) (sc : Nat) (qa : Option Addr) (qc : Nat) (ta : Option Addr) (tc : Nat) (w : World) (k c to l t d : Int) (h : Hr E w base hb L line ms sa sc qa qc ta tc) (hbu : ¬ L.bu = 0) (ho : ¬ L.own = c) :
    Calls Tryz.prog 70 #[.pointer (some ⟨hb, 0, none⟩), .agg #[.int .i64 k, .int .i64 c, .int .i64 to, .int .i64 l, .int .i64 t, .int .i64 d]] w (HPost E w base hb (.slice sa L.sh.length sc) (.slice qa L.q.length qc) (.slice ta ms.length tc) L line ms (rfV c (E 4))) := by
  have HB : Hid (Mv (Hb hb (.slice sa L.sh.length sc) (.slice qa L.q.length qc) (.slice ta ms.length tc)) w w) := hide (Mv.refl _ _)
  have hlo := h.lo
  have hb4 := h.b4
  have hlt := lt_of_block h.bx
  have AP := h.ap
  have FR : ∀ g, Hb hb (.slice sa L.sh.length sc) (.slice qa L.q.length qc) (.slice ta ms.length tc) g → Hb hb (.slice sa L.sh.length sc) (.slice qa L.q.length qc) (.slice ta ms.length tc) g ∨ w.heap.size ≤ g := fun g h => .inl h
  have bx0 := hide h.bx; have RS := hide h.rs; have RQ := hide h.rq; have RT := hide h.rt; have GL := hide h.gl; clear h
  have NB : Hid (∀ g, (rb (.slice sa L.sh.length sc) = some g ∨ rb (.slice qa L.q.length qc) = some g ∨ rb (.slice ta ms.length tc) = some g) → g ≠ hb) := hide (fun g h => HAp.ne AP h)
  go_enter Tryz.func70, Tryz.ntmps70
  refine sk fun K1 h1 => rl ?_
  refine sbp #[.int .i64 k, .int .i64 c, .int .i64 to, .int .i64 l, .int .i64 t, .int .i64 d] 36 fun V1 b1 hb1 m1 bx1 => ?_
  have o0_1 := Xlo bx0 hb1
  have og_1 : w.heap.size ≤ b1 := Xhs HB hb1
  replace NB : Hid (∀ g, (rb (.slice sa L.sh.length sc) = some g ∨ rb (.slice qa L.q.length qc) = some g ∨ rb (.slice ta ms.length tc) = some g) → g ≠ hb ∧ g ≠ b1) := hide (fun g h => by have h1 := NB.out g h; have h2 := rows_lt RS.out RQ.out RT.out g h; exact (by omega))
  replace RS := hide (RS.out.mv m1 (fun _ _ h => h))
  replace RQ := hide (RQ.out.mv m1 (fun _ _ h => h))
  replace RT := hide (RT.out.mv m1 (fun _ _ h => h))
  replace GL := hide (GL.out.mv m1 (fun _ _ h => h))
  clear hb1
  refine sv (.nilIface) ?_
  refine nt (h1 _ _ (sk fun K2 h2 => sk fun K3 h3 => ?_)); clear h1 K1
  have hbv : Hid ((L.bu != 0) = true) := hide (by simpa using hbu)
  clear hbu
  have hov : Hid ((L.own != c) = true) := hide (by simpa using ho)
  clear ho
  refine wp_region_but (z := 999) (S := fun w' => Mv (nob) V1.drew w') (by kernel_rfl) (Mv.refl _ _) (fun hS => ?_)
  have m2 : Mv nob V1 V1.drew := Mv.drew _
  obtain ⟨V2, hN⟩ : ∃ V, V1.drew = V := ⟨_, rfl⟩
  rw [hN] at hS m2 ⊢
  clear hN
  replace RS := hide (RS.out.mv m2 (fun _ _ h => h))
  replace RQ := hide (RQ.out.mv m2 (fun _ _ h => h))
  replace RT := hide (RT.out.mv m2 (fun _ _ h => h))
  replace GL := hide (GL.out.mv m2 (fun _ _ h => h))
  replace bx0 := Xbn (Xbn bx0 m1) m2; replace bx1 := Xbn bx1 m2
  have rbx0 := bx0; have rbx1 := bx1
  refine tk0 0 (.pointer (some ⟨hb, 0, none⟩)) rfl ?_
  refine tk0 1 (.pointer (some ⟨hb, 0, none⟩)) rfl ?_
  refine tk0 2 (.pointer (some ⟨hb, 0, none⟩)) rfl ?_
  refine tk 3 (.agg #[.int .i64 L.mem, .int .i64 L.own, .slice sa L.sh.length sc, .int .i64 L.bu, .int .i64 L.wt, .int .i64 L.ac, .slice qa L.q.length qc]) rfl (fun w' hSw => by (try dsimp only at hSw); have z0 := cell_box 0 (hSw.box rbx0.out (fun h => h)) rfl; have z1 := cell_box 1 (hSw.box rbx0.out (fun h => h)) rfl; have z2 := cell_box 2 (hSw.box rbx0.out (fun h => h)) rfl; have z3 := cell_box 3 (hSw.box rbx0.out (fun h => h)) rfl; have z4 := cell_box 4 (hSw.box rbx0.out (fun h => h)) rfl; have z5 := cell_box 5 (hSw.box rbx0.out (fun h => h)) rfl; have z6 := cell_box 6 (hSw.box rbx0.out (fun h => h)) rfl; go_simp) ?_
  refine kd_call (i := 4) (by kernel_rfl) rfl (by rfl) (by first | rfl | (go_simp; done)) (isBusy_any L.mem L.own (.slice sa L.sh.length sc) L.bu L.wt L.ac (.slice qa L.q.length qc) V2) ?_
  rintro e V3 ⟨rfl, hbl⟩
  have m3 : Mv (nob) V2 V3 := Mv.of_below hbl
  replace hS := hS.step m3 (fun _ _ h => h.elim)
  refine ⟨_, rfl, fun _ => hS, ?_⟩
  refine ptk ?_
  replace RS := hide (RS.out.mv m3 (fun _ _ h => h))
  replace RQ := hide (RQ.out.mv m3 (fun _ _ h => h))
  replace RT := hide (RT.out.mv m3 (fun _ _ h => h))
  replace GL := hide (GL.out.mv m3 (fun _ _ h => h))
  clear hbl
  rw [hbv.out]
  refine tk0 5 (.bool false) rfl ?_
  refine tk0 6 (.bool false) rfl ?_
  refine tk0 7 (.pointer (some ⟨hb, 0, none⟩)) rfl ?_
  refine tk0 8 (.pointer (some ⟨hb, 0, none⟩)) rfl ?_
  refine tk0 9 (.pointer (some ⟨hb, 0, none⟩)) rfl ?_
  refine tk0 10 (.pointer (some ⟨hb, 1, none⟩)) rfl ?_
  refine tk 11 (.int .i64 L.own) rfl (fun w' hSw => by (try dsimp only at hSw); have z0 := cell_box 1 (hSw.box rbx0.out (fun h => h)) rfl; go_simp) ?_
  refine tk0 12 (.pointer (some ⟨b1, 1, none⟩)) rfl ?_
  refine tk 13 (.int .i64 c) rfl (fun w' hSw => by (try dsimp only at hSw); have z0 := cell_box 1 (hSw.box rbx1.out (fun h => h)) rfl; go_simp) ?_
  refine tk 14 (.bool true) rfl (fun w' hSw => by (try dsimp only at hSw); have hd := hov.out; go_simp) ?_
  refine tk0 15 (.bool true) rfl ?_
  refine wpAnyK_done (by kernel_rfl) ?_
  clear hS rbx0 rbx1
  refine then_normal (h3 _ _ (ct (sk fun K4 h4 => rl ?_))); clear h3 K3
  refine sv (.pointer (some ⟨b1, 1, none⟩)) ?_
  replace bx1 := Xbn bx1 m3
  refine sl 1 bx1 ?_
  refine sg (erV (E 4)) (h := by have z0 := GL.out.unasked; go_simp) ?_
  refine sv (.agg #[.int .i64 c, erV (E 4)]) ?_
  refine sg (.iface 89 (.agg #[.int .i64 c, erV (E 4)])) ?_
  refine sv (.iface 89 (.agg #[.int .i64 c, erV (E 4)])) ?_
  refine nt (h4 _ _ (wp_ret (then_ret ?_))); clear h4 K4; clear h2 K2
  replace HB := Xhn (Xhn (Xhn HB m1) m2) m3; replace bx0 := Xbn bx0 m3
  exact bodyPost_ret (v := rfV c (E 4)) (by simp [results, Tryz.results70, go_sem]) rfl ⟨_, _, _, _, _, _, rfl, ⟨bx0.out, RS.out, RQ.out, RT.out, AP, hlo, GL.out, hb4⟩, FR, HB.out⟩

set_option maxRecDepth 20000 in
set_option maxHeartbeats 2000000 in
theorem wait_full (E : Nat → Addr) (base hb : Nat) (L : Hm.Ln) (line : Int) (ms : List Hm.Mg) (sa : Option Addr) (sc : Nat) (qa : Option Addr) (qc : Nat) (ta : Option Addr) (tc : Nat) (w : World) (c t : Int) (h : Hr E w base hb L line ms sa sc qa qc ta tc) (hf : 10 ≤ L.q.length) :
    Calls Tryz.prog 88 #[.pointer (some ⟨hb, 0, none⟩), .agg #[.int .i64 c, .int .i64 t]] w (HPost E w base hb (.slice sa L.sh.length sc) (.slice qa L.q.length qc) (.slice ta ms.length tc) L line ms (rfV c (E 2))) := by
  have HB : Hid (Mv (Hb hb (.slice sa L.sh.length sc) (.slice qa L.q.length qc) (.slice ta ms.length tc)) w w) := hide (Mv.refl _ _)
  have hlo := h.lo
  have hb4 := h.b4
  have hlt := lt_of_block h.bx
  have AP := h.ap
  have FR : ∀ g, Hb hb (.slice sa L.sh.length sc) (.slice qa L.q.length qc) (.slice ta ms.length tc) g → Hb hb (.slice sa L.sh.length sc) (.slice qa L.q.length qc) (.slice ta ms.length tc) g ∨ w.heap.size ≤ g := fun g h => .inl h
  have bx0 := hide h.bx; have RS := hide h.rs; have RQ := hide h.rq; have RT := hide h.rt; have GL := hide h.gl; clear h
  have NB : Hid (∀ g, (rb (.slice sa L.sh.length sc) = some g ∨ rb (.slice qa L.q.length qc) = some g ∨ rb (.slice ta ms.length tc) = some g) → g ≠ hb) := hide (fun g h => HAp.ne AP h)
  go_enter Tryz.func88, Tryz.ntmps88
  refine sk fun K1 h1 => rl ?_
  refine sbp #[.int .i64 c, .int .i64 t] 71 fun V1 b1 hb1 m1 bx1 => ?_
  have o0_1 := Xlo bx0 hb1
  have og_1 : w.heap.size ≤ b1 := Xhs HB hb1
  replace NB : Hid (∀ g, (rb (.slice sa L.sh.length sc) = some g ∨ rb (.slice qa L.q.length qc) = some g ∨ rb (.slice ta ms.length tc) = some g) → g ≠ hb ∧ g ≠ b1) := hide (fun g h => by have h1 := NB.out g h; have h2 := rows_lt RS.out RQ.out RT.out g h; exact (by omega))
  replace RS := hide (RS.out.mv m1 (fun _ _ h => h))
  replace RQ := hide (RQ.out.mv m1 (fun _ _ h => h))
  replace RT := hide (RT.out.mv m1 (fun _ _ h => h))
  replace GL := hide (GL.out.mv m1 (fun _ _ h => h))
  clear hb1
  refine sv (.nilIface) ?_
  refine nt (h1 _ _ (sk fun K2 h2 => sk fun K3 h3 => rl ?_)); clear h1 K1
  refine sv (.pointer (some ⟨hb, 0, none⟩)) ?_
  refine sg (.pointer (some ⟨hb, 0, none⟩)) ?_
  refine sv (.pointer (some ⟨hb, 0, none⟩)) ?_
  refine sv (.pointer (some ⟨hb, 6, none⟩)) ?_
  replace bx0 := Xbn bx0 m1
  refine sl 6 bx0 ?_
  refine sg (.int .i64 (L.q.length : Int)) ?_
  refine sg (.bool true) (h := by have hd : decide (10 ≤ L.q.length) = true := (by simpa using hf); have hd2 : decide ((10 : Int) ≤ (L.q.length : Int)) = true := (by simp; omega); go_simp) ?_
  refine nt (h3 _ _ (ct (sk fun K4 h4 => rl ?_))); clear h3 K3
  refine sv (.pointer (some ⟨b1, 0, none⟩)) ?_
  refine sl 0 bx1 ?_
  refine sg (erV (E 2)) (h := by have z0 := GL.out.full; go_simp) ?_
  refine sv (.agg #[.int .i64 c, erV (E 2)]) ?_
  refine sg (.iface 89 (.agg #[.int .i64 c, erV (E 2)])) ?_
  refine sv (.iface 89 (.agg #[.int .i64 c, erV (E 2)])) ?_
  refine nt (h4 _ _ (wp_ret (then_ret ?_))); clear h4 K4; clear h2 K2
  replace HB := Xhn HB m1
  exact bodyPost_ret (v := rfV c (E 2)) (by simp [results, Tryz.results88, go_sem]) rfl ⟨_, _, _, _, _, _, rfl, ⟨bx0.out, RS.out, RQ.out, RT.out, AP, hlo, GL.out, hb4⟩, FR, HB.out⟩

end Go.Proofs.YtlalldlbgnlbjaaGreatDoor
