/- HmE -/
import Derived.Test.YtlalldlbgnlbjaaGreatDoorYomeGot23
/- a home begins; a line copied, a home made (written by mkHmE.py) -/
namespace Go.Proofs.YtlalldlbgnlbjaaGreatDoor
open Go.RowKit
set_option linter.unusedVariables false
set_option linter.unusedSimpArgs false

theorem ask_any (E : Nat → Addr) (base hb : Nat) (L : Hm.Ln) (line : Int) (ms : List Hm.Mg) (sa : Option Addr) (sc : Nat) (qa : Option Addr) (qc : Nat) (ta : Option Addr) (tc : Nat) (w : World) (c t : Int) (h : Hr E w base hb L line ms sa sc qa qc ta tc) (hok : Ids.ok L.sh = true) (hc1 : 1 ≤ c) (hc5 : c ≤ 5) (hn : ms.length ≤ 1000000) :
    Calls Tryz.prog 97 #[.pointer (some ⟨hb, 0, none⟩), .agg #[.int .i64 c, .int .i64 t]] w (HPost E w base hb (.slice sa L.sh.length sc) (.slice qa L.q.length qc) (.slice ta ms.length tc) L line (ms ++ Hm.askM L line c t) (.int .i64 ((Hm.askM L line c t).length : Int))) := by
  by_cases ho : L.own = 0
  · by_cases ht : t = 1
    · subst ht
      rw [Hm.askM_read ho rfl, List.append_nil]
      exact ask_r E base hb L line ms sa sc qa qc ta tc w c h hok hc1 hc5 hn ho
    · rw [Hm.askM_write ho ht, List.length_map]
      exact ask_w E base hb L line ms sa sc qa qc ta tc w c t h hok hc1 hc5 hn ho ht
  · rw [Hm.askM_fetch ho]
    exact ask_f E base hb L line ms sa sc qa qc ta tc w c t h hok hc1 hc5 hn ho
theorem ask_none (E : Nat → Addr) (base hb : Nat) (L : Hm.Ln) (line : Int) (ms : List Hm.Mg) (sa : Option Addr) (sc : Nat) (qa : Option Addr) (qc : Nat) (ta : Option Addr) (tc : Nat) (w : World) (c t : Int) (h : Hr E w base hb L line ms sa sc qa qc ta tc) (hok : Ids.ok L.sh = true) (hc1 : 1 ≤ c) (hc5 : c ≤ 5) (hn : ms.length ≤ 1000000) (ha : Hm.askM L line c t = []) :
    Calls Tryz.prog 97 #[.pointer (some ⟨hb, 0, none⟩), .agg #[.int .i64 c, .int .i64 t]] w (HPost E w base hb (.slice sa L.sh.length sc) (.slice qa L.q.length qc) (.slice ta ms.length tc) L line ms (.int .i64 0)) := by
  have h2 := ask_any E base hb L line ms sa sc qa qc ta tc w c t h hok hc1 hc5 hn
  rw [ha, List.append_nil] at h2
  exact h2
set_option maxRecDepth 20000 in
set_option maxHeartbeats 2000000 in
theorem begin_b (E : Nat → Addr) (base hb : Nat) (L : Hm.Ln) (line : Int) (ms : List Hm.Mg) (sa : Option Addr) (sc : Nat) (qa : Option Addr) (qc : Nat) (ta : Option Addr) (tc : Nat) (w : World) (c t : Int) (h : Hr E w base hb L line ms sa sc qa qc ta tc) (hb0 : ¬ L.bu = 0) :
    Calls Tryz.prog 86 #[.pointer (some ⟨hb, 0, none⟩), .agg #[.int .i64 c, .int .i64 t]] w (HPost E w base hb (.slice sa L.sh.length sc) (.slice qa L.q.length qc) (.slice ta ms.length tc) L line ms (rfV c (E 0))) := by
  have HB : Hid (Mv (Hb hb (.slice sa L.sh.length sc) (.slice qa L.q.length qc) (.slice ta ms.length tc)) w w) := hide (Mv.refl _ _)
  have hlo := h.lo
  have hb4 := h.b4
  have hlt := lt_of_block h.bx
  have AP := h.ap
  have FR : ∀ g, Hb hb (.slice sa L.sh.length sc) (.slice qa L.q.length qc) (.slice ta ms.length tc) g → Hb hb (.slice sa L.sh.length sc) (.slice qa L.q.length qc) (.slice ta ms.length tc) g ∨ w.heap.size ≤ g := fun g h => .inl h
  have bx0 := hide h.bx; have RS := hide h.rs; have RQ := hide h.rq; have RT := hide h.rt; have GL := hide h.gl; clear h
  have NB : Hid (∀ g, (rb (.slice sa L.sh.length sc) = some g ∨ rb (.slice qa L.q.length qc) = some g ∨ rb (.slice ta ms.length tc) = some g) → g ≠ hb) := hide (fun g h => HAp.ne AP h)
  go_enter Tryz.func86, Tryz.ntmps86
  refine sk fun K1 h1 => rl ?_
  refine sbp #[.int .i64 c, .int .i64 t] 71 fun V1 b1 hb1 m1 bx1 => ?_
  have o0_1 := Xlo bx0 hb1
  have og_1 : w.heap.size ≤ b1 := Xhs HB hb1
  replace NB : Hid (∀ g, (rb (.slice sa L.sh.length sc) = some g ∨ rb (.slice qa L.q.length qc) = some g ∨ rb (.slice ta ms.length tc) = some g) → g ≠ hb ∧ g ≠ b1) := hide (fun g h => by have h1 := NB.out g h; have h2 := rows_lt RS.out RQ.out RT.out g h; exact (by omega))
  replace RS := hide (RS.out.mv m1 (fun _ _ h => h))
  replace RQ := hide (RQ.out.mv m1 (fun _ _ h => h))
  replace RT := hide (RT.out.mv m1 (fun _ _ h => h))
  replace GL := hide (GL.out.mv m1 (fun _ _ h => h))
  clear hb1
  refine sv (.nilIface) ?_
  refine nt (h1 _ _ (sk fun K2 h2 => sk fun K3 h3 => rl ?_)); clear h1 K1
  have hbv : (L.bu != 0) = true := by simpa using hb0
  refine sv (.pointer (some ⟨hb, 0, none⟩)) ?_
  refine sg (.pointer (some ⟨hb, 0, none⟩)) ?_
  refine sv (.pointer (some ⟨hb, 0, none⟩)) ?_
  replace bx0 := Xbn bx0 m1
  refine sg (.agg #[.int .i64 L.mem, .int .i64 L.own, .slice sa L.sh.length sc, .int .i64 L.bu, .int .i64 L.wt, .int .i64 L.ac, .slice qa L.q.length qc]) (h := by have z0 := cell_box 0 (bx0.out) rfl; have z1 := cell_box 1 (bx0.out) rfl; have z2 := cell_box 2 (bx0.out) rfl; have z3 := cell_box 3 (bx0.out) rfl; have z4 := cell_box 4 (bx0.out) rfl; have z5 := cell_box 5 (bx0.out) rfl; have z6 := cell_box 6 (bx0.out) rfl; go_simp) ?_
  refine sw_call (by rfl) (by first | rfl | (go_simp; done)) (isBusy_any L.mem L.own (.slice sa L.sh.length sc) L.bu L.wt L.ac (.slice qa L.q.length qc) V1) ?_
  rintro e V2 ⟨rfl, hbl⟩
  have m2 : Mv (nob) V1 V2 := Mv.of_below hbl
  refine ⟨_, rfl, ?_⟩
  refine pt ?_
  replace RS := hide (RS.out.mv m2 (fun _ _ h => h))
  replace RQ := hide (RQ.out.mv m2 (fun _ _ h => h))
  replace RT := hide (RT.out.mv m2 (fun _ _ h => h))
  replace GL := hide (GL.out.mv m2 (fun _ _ h => h))
  clear hbl
  rw [hbv]
  refine nt (h3 _ _ (ct (sk fun K4 h4 => rl ?_))); clear h3 K3
  refine sv (.pointer (some ⟨b1, 0, none⟩)) ?_
  replace bx1 := Xbn bx1 m2
  refine sl 0 bx1 ?_
  refine sg (erV (E 0)) (h := by have z0 := GL.out.busy; go_simp) ?_
  refine sv (.agg #[.int .i64 c, erV (E 0)]) ?_
  refine sg (.iface 89 (.agg #[.int .i64 c, erV (E 0)])) ?_
  refine sv (.iface 89 (.agg #[.int .i64 c, erV (E 0)])) ?_
  refine nt (h4 _ _ (wp_ret (then_ret ?_))); clear h4 K4; clear h2 K2
  replace HB := Xhn (Xhn HB m1) m2; replace bx0 := Xbn bx0 m2
  exact bodyPost_ret (v := rfV c (E 0)) (by simp [results, Tryz.results86, go_sem]) rfl ⟨_, _, _, _, _, _, rfl, ⟨bx0.out, RS.out, RQ.out, RT.out, AP, hlo, GL.out, hb4⟩, FR, HB.out⟩

set_option maxRecDepth 20000 in
set_option maxHeartbeats 2000000 in
theorem begin_o (E : Nat → Addr) (base hb : Nat) (L : Hm.Ln) (line : Int) (ms : List Hm.Mg) (sa : Option Addr) (sc : Nat) (qa : Option Addr) (qc : Nat) (ta : Option Addr) (tc : Nat) (w : World) (c t : Int) (h : Hr E w base hb L line ms sa sc qa qc ta tc) (hb0 : L.bu = 0) (ho : L.own = c) :
    Calls Tryz.prog 86 #[.pointer (some ⟨hb, 0, none⟩), .agg #[.int .i64 c, .int .i64 t]] w (HPost E w base hb (.slice sa L.sh.length sc) (.slice qa L.q.length qc) (.slice ta ms.length tc) L line ms (rfV c (E 1))) := by
  have HB : Hid (Mv (Hb hb (.slice sa L.sh.length sc) (.slice qa L.q.length qc) (.slice ta ms.length tc)) w w) := hide (Mv.refl _ _)
  have hlo := h.lo
  have hb4 := h.b4
  have hlt := lt_of_block h.bx
  have AP := h.ap
  have FR : ∀ g, Hb hb (.slice sa L.sh.length sc) (.slice qa L.q.length qc) (.slice ta ms.length tc) g → Hb hb (.slice sa L.sh.length sc) (.slice qa L.q.length qc) (.slice ta ms.length tc) g ∨ w.heap.size ≤ g := fun g h => .inl h
  have bx0 := hide h.bx; have RS := hide h.rs; have RQ := hide h.rq; have RT := hide h.rt; have GL := hide h.gl; clear h
  have NB : Hid (∀ g, (rb (.slice sa L.sh.length sc) = some g ∨ rb (.slice qa L.q.length qc) = some g ∨ rb (.slice ta ms.length tc) = some g) → g ≠ hb) := hide (fun g h => HAp.ne AP h)
  go_enter Tryz.func86, Tryz.ntmps86
  refine sk fun K1 h1 => rl ?_
  refine sbp #[.int .i64 c, .int .i64 t] 71 fun V1 b1 hb1 m1 bx1 => ?_
  have o0_1 := Xlo bx0 hb1
  have og_1 : w.heap.size ≤ b1 := Xhs HB hb1
  replace NB : Hid (∀ g, (rb (.slice sa L.sh.length sc) = some g ∨ rb (.slice qa L.q.length qc) = some g ∨ rb (.slice ta ms.length tc) = some g) → g ≠ hb ∧ g ≠ b1) := hide (fun g h => by have h1 := NB.out g h; have h2 := rows_lt RS.out RQ.out RT.out g h; exact (by omega))
  replace RS := hide (RS.out.mv m1 (fun _ _ h => h))
  replace RQ := hide (RQ.out.mv m1 (fun _ _ h => h))
  replace RT := hide (RT.out.mv m1 (fun _ _ h => h))
  replace GL := hide (GL.out.mv m1 (fun _ _ h => h))
  clear hb1
  refine sv (.nilIface) ?_
  refine nt (h1 _ _ (sk fun K2 h2 => sk fun K3 h3 => rl ?_)); clear h1 K1
  have hbv : (L.bu != 0) = false := by simp [hb0]
  refine sv (.pointer (some ⟨hb, 0, none⟩)) ?_
  refine sg (.pointer (some ⟨hb, 0, none⟩)) ?_
  refine sv (.pointer (some ⟨hb, 0, none⟩)) ?_
  replace bx0 := Xbn bx0 m1
  refine sg (.agg #[.int .i64 L.mem, .int .i64 L.own, .slice sa L.sh.length sc, .int .i64 L.bu, .int .i64 L.wt, .int .i64 L.ac, .slice qa L.q.length qc]) (h := by have z0 := cell_box 0 (bx0.out) rfl; have z1 := cell_box 1 (bx0.out) rfl; have z2 := cell_box 2 (bx0.out) rfl; have z3 := cell_box 3 (bx0.out) rfl; have z4 := cell_box 4 (bx0.out) rfl; have z5 := cell_box 5 (bx0.out) rfl; have z6 := cell_box 6 (bx0.out) rfl; go_simp) ?_
  refine sw_call (by rfl) (by first | rfl | (go_simp; done)) (isBusy_any L.mem L.own (.slice sa L.sh.length sc) L.bu L.wt L.ac (.slice qa L.q.length qc) V1) ?_
  rintro e V2 ⟨rfl, hbl⟩
  have m2 : Mv (nob) V1 V2 := Mv.of_below hbl
  refine ⟨_, rfl, ?_⟩
  refine pt ?_
  replace RS := hide (RS.out.mv m2 (fun _ _ h => h))
  replace RQ := hide (RQ.out.mv m2 (fun _ _ h => h))
  replace RT := hide (RT.out.mv m2 (fun _ _ h => h))
  replace GL := hide (GL.out.mv m2 (fun _ _ h => h))
  clear hbl
  rw [hbv]
  refine nt (h3 _ _ (cf (wp_skip (then_normal (h2 _ _ (sk fun K4 h4 => sk fun K5 h5 => ?_)))))); clear h3 K3; clear h2 K2
  refine wp_region_but (z := 999) (S := fun w' => Mv (nob) V2.drew w') (by kernel_rfl) (Mv.refl _ _) (fun hS => ?_)
  have m3 : Mv nob V2 V2.drew := Mv.drew _
  obtain ⟨V3, hN⟩ : ∃ V, V2.drew = V := ⟨_, rfl⟩
  rw [hN] at hS m3 ⊢
  clear hN
  replace RS := hide (RS.out.mv m3 (fun _ _ h => h))
  replace RQ := hide (RQ.out.mv m3 (fun _ _ h => h))
  replace RT := hide (RT.out.mv m3 (fun _ _ h => h))
  replace GL := hide (GL.out.mv m3 (fun _ _ h => h))
  replace bx0 := Xbn (Xbn bx0 m2) m3; replace bx1 := Xbn (Xbn bx1 m2) m3
  have rbx0 := bx0; have rbx1 := bx1
  refine tk0 0 (.pointer (some ⟨hb, 0, none⟩)) rfl ?_
  refine tk0 1 (.pointer (some ⟨hb, 0, none⟩)) rfl ?_
  refine tk0 2 (.pointer (some ⟨hb, 0, none⟩)) rfl ?_
  refine tk0 3 (.pointer (some ⟨hb, 1, none⟩)) rfl ?_
  refine tk 4 (.int .i64 L.own) rfl (fun w' hSw => by (try dsimp only at hSw); have z0 := cell_box 1 (hSw.box rbx0.out (fun h => h)) rfl; go_simp) ?_
  refine tk0 5 (.pointer (some ⟨b1, 0, none⟩)) rfl ?_
  refine tk 6 (.int .i64 c) rfl (fun w' hSw => by (try dsimp only at hSw); have z0 := cell_box 0 (hSw.box rbx1.out (fun h => h)) rfl; go_simp) ?_
  refine tk 7 (.bool true) rfl (fun w' hSw => by (try dsimp only at hSw); have hd : (L.own == c) = true := (by simpa using ho); go_simp) ?_
  refine wpAnyK_done (by kernel_rfl) ?_
  clear hS rbx0 rbx1
  refine then_normal (h5 _ _ (ct (sk fun K6 h6 => rl ?_))); clear h5 K5
  refine sv (.pointer (some ⟨b1, 0, none⟩)) ?_
  refine sl 0 bx1 ?_
  refine sg (erV (E 1)) (h := by have z0 := GL.out.owns; go_simp) ?_
  refine sv (.agg #[.int .i64 c, erV (E 1)]) ?_
  refine sg (.iface 89 (.agg #[.int .i64 c, erV (E 1)])) ?_
  refine sv (.iface 89 (.agg #[.int .i64 c, erV (E 1)])) ?_
  refine nt (h6 _ _ (wp_ret (then_ret ?_))); clear h6 K6; clear h4 K4
  replace HB := Xhn (Xhn (Xhn HB m1) m2) m3
  exact bodyPost_ret (v := rfV c (E 1)) (by simp [results, Tryz.results86, go_sem]) rfl ⟨_, _, _, _, _, _, rfl, ⟨bx0.out, RS.out, RQ.out, RT.out, AP, hlo, GL.out, hb4⟩, FR, HB.out⟩

set_option maxRecDepth 20000 in
set_option maxHeartbeats 2000000 in
theorem begin_g (E : Nat → Addr) (base hb : Nat) (L : Hm.Ln) (line : Int) (ms : List Hm.Mg) (sa : Option Addr) (sc : Nat) (qa : Option Addr) (qc : Nat) (ta : Option Addr) (tc : Nat) (w : World) (c t : Int) (h : Hr E w base hb L line ms sa sc qa qc ta tc) (hok : Ids.ok L.sh = true) (hc1 : 1 ≤ c) (hc5 : c ≤ 5) (hn : ms.length ≤ 1000000) (hb0 : L.bu = 0) (ho : ¬ L.own = c) (ha : Hm.askM L line c t = []) :
    Calls Tryz.prog 86 #[.pointer (some ⟨hb, 0, none⟩), .agg #[.int .i64 c, .int .i64 t]] w (HPost E w base hb (.slice sa L.sh.length sc) (.slice qa L.q.length qc) (.slice ta ms.length tc) (Hm.grantL L c t) line (ms ++ [Hm.mGrant c line t L.mem]) .nilIface) := by
  have HB : Hid (Mv (Hb hb (.slice sa L.sh.length sc) (.slice qa L.q.length qc) (.slice ta ms.length tc)) w w) := hide (Mv.refl _ _)
  have hlo := h.lo
  have hb4 := h.b4
  have hlt := lt_of_block h.bx
  have AP := h.ap
  have FR : ∀ g, Hb hb (.slice sa L.sh.length sc) (.slice qa L.q.length qc) (.slice ta ms.length tc) g → Hb hb (.slice sa L.sh.length sc) (.slice qa L.q.length qc) (.slice ta ms.length tc) g ∨ w.heap.size ≤ g := fun g h => .inl h
  have bx0 := hide h.bx; have RS := hide h.rs; have RQ := hide h.rq; have RT := hide h.rt; have GL := hide h.gl; clear h
  have NB : Hid (∀ g, (rb (.slice sa L.sh.length sc) = some g ∨ rb (.slice qa L.q.length qc) = some g ∨ rb (.slice ta ms.length tc) = some g) → g ≠ hb) := hide (fun g h => HAp.ne AP h)
  go_enter Tryz.func86, Tryz.ntmps86
  refine sk fun K1 h1 => rl ?_
  refine sbp #[.int .i64 c, .int .i64 t] 71 fun V1 b1 hb1 m1 bx1 => ?_
  have o0_1 := Xlo bx0 hb1
  have og_1 : w.heap.size ≤ b1 := Xhs HB hb1
  replace NB : Hid (∀ g, (rb (.slice sa L.sh.length sc) = some g ∨ rb (.slice qa L.q.length qc) = some g ∨ rb (.slice ta ms.length tc) = some g) → g ≠ hb ∧ g ≠ b1) := hide (fun g h => by have h1 := NB.out g h; have h2 := rows_lt RS.out RQ.out RT.out g h; exact (by omega))
  replace RS := hide (RS.out.mv m1 (fun _ _ h => h))
  replace RQ := hide (RQ.out.mv m1 (fun _ _ h => h))
  replace RT := hide (RT.out.mv m1 (fun _ _ h => h))
  replace GL := hide (GL.out.mv m1 (fun _ _ h => h))
  clear hb1
  refine sv (.nilIface) ?_
  refine nt (h1 _ _ (sk fun K2 h2 => sk fun K3 h3 => rl ?_)); clear h1 K1
  have hbv : (L.bu != 0) = false := by simp [hb0]
  refine sv (.pointer (some ⟨hb, 0, none⟩)) ?_
  refine sg (.pointer (some ⟨hb, 0, none⟩)) ?_
  refine sv (.pointer (some ⟨hb, 0, none⟩)) ?_
  replace bx0 := Xbn bx0 m1
  refine sg (.agg #[.int .i64 L.mem, .int .i64 L.own, .slice sa L.sh.length sc, .int .i64 L.bu, .int .i64 L.wt, .int .i64 L.ac, .slice qa L.q.length qc]) (h := by have z0 := cell_box 0 (bx0.out) rfl; have z1 := cell_box 1 (bx0.out) rfl; have z2 := cell_box 2 (bx0.out) rfl; have z3 := cell_box 3 (bx0.out) rfl; have z4 := cell_box 4 (bx0.out) rfl; have z5 := cell_box 5 (bx0.out) rfl; have z6 := cell_box 6 (bx0.out) rfl; go_simp) ?_
  refine sw_call (by rfl) (by first | rfl | (go_simp; done)) (isBusy_any L.mem L.own (.slice sa L.sh.length sc) L.bu L.wt L.ac (.slice qa L.q.length qc) V1) ?_
  rintro e V2 ⟨rfl, hbl⟩
  have m2 : Mv (nob) V1 V2 := Mv.of_below hbl
  refine ⟨_, rfl, ?_⟩
  refine pt ?_
  replace RS := hide (RS.out.mv m2 (fun _ _ h => h))
  replace RQ := hide (RQ.out.mv m2 (fun _ _ h => h))
  replace RT := hide (RT.out.mv m2 (fun _ _ h => h))
  replace GL := hide (GL.out.mv m2 (fun _ _ h => h))
  clear hbl
  rw [hbv]
  refine nt (h3 _ _ (cf (wp_skip (then_normal (h2 _ _ (sk fun K4 h4 => sk fun K5 h5 => ?_)))))); clear h3 K3; clear h2 K2
  refine wp_region_but (z := 999) (S := fun w' => Mv (nob) V2.drew w') (by kernel_rfl) (Mv.refl _ _) (fun hS => ?_)
  have m3 : Mv nob V2 V2.drew := Mv.drew _
  obtain ⟨V3, hN⟩ : ∃ V, V2.drew = V := ⟨_, rfl⟩
  rw [hN] at hS m3 ⊢
  clear hN
  replace RS := hide (RS.out.mv m3 (fun _ _ h => h))
  replace RQ := hide (RQ.out.mv m3 (fun _ _ h => h))
  replace RT := hide (RT.out.mv m3 (fun _ _ h => h))
  replace GL := hide (GL.out.mv m3 (fun _ _ h => h))
  replace bx0 := Xbn (Xbn bx0 m2) m3; replace bx1 := Xbn (Xbn bx1 m2) m3
  have rbx0 := bx0; have rbx1 := bx1
  refine tk0 0 (.pointer (some ⟨hb, 0, none⟩)) rfl ?_
  refine tk0 1 (.pointer (some ⟨hb, 0, none⟩)) rfl ?_
  refine tk0 2 (.pointer (some ⟨hb, 0, none⟩)) rfl ?_
  refine tk0 3 (.pointer (some ⟨hb, 1, none⟩)) rfl ?_
  refine tk 4 (.int .i64 L.own) rfl (fun w' hSw => by (try dsimp only at hSw); have z0 := cell_box 1 (hSw.box rbx0.out (fun h => h)) rfl; go_simp) ?_
  refine tk0 5 (.pointer (some ⟨b1, 0, none⟩)) rfl ?_
  refine tk 6 (.int .i64 c) rfl (fun w' hSw => by (try dsimp only at hSw); have z0 := cell_box 0 (hSw.box rbx1.out (fun h => h)) rfl; go_simp) ?_
  refine tk 7 (.bool false) rfl (fun w' hSw => by (try dsimp only at hSw); have hd : (L.own == c) = false := (by simpa using ho); go_simp) ?_
  refine wpAnyK_done (by kernel_rfl) ?_
  clear hS rbx0 rbx1
  refine then_normal (h5 _ _ (cf (wp_skip (then_normal (h4 _ _ (sk fun K6 h6 => rl ?_)))))); clear h5 K5; clear h4 K4
  refine sv (.pointer (some ⟨hb, 0, none⟩)) ?_
  refine sg (.agg #[.int .i64 c, .int .i64 t]) (h := by have z0 := cell_box 0 (bx1.out) rfl; have z1 := cell_box 1 (bx1.out) rfl; go_simp) ?_
  replace HB := Xhn (Xhn (Xhn HB m1) m2) m3
  have hsz := HB.out.size
  have h4b : ∀ g, Hb hb (.slice sa L.sh.length sc) (.slice qa L.q.length qc) (.slice ta ms.length tc) g → 7 ≤ g := fun g h => Nat.le_trans hb4 (h.elim (fun e => e ▸ hlo) (fun q => (rows_lt RS.out RQ.out RT.out g q).1))
  have SF : ∀ g, Hb hb (.slice sa L.sh.length sc) (.slice qa L.q.length qc) (.slice ta ms.length tc) g → g ≠ b1 := fun g h => h.elim (fun e => by omega) (fun q => by have := NB.out g q; omega)
  have hsb1 := lt_of_block bx1.out
  refine sw_call (by rfl) (by first | rfl | (go_simp; done)) (ask_none E base hb L line ms _ _ _ _ _ _ V3 c t ⟨bx0.out, RS.out, RQ.out, RT.out, AP, hlo, GL.out, hb4⟩ hok hc1 hc5 hn ha) ?_
  rintro e V4 ⟨sa1, sc1, qa1, qc1, ta1, tc1, rfl, HR1, hfr, hmv⟩
  have m4 : Mv (Hb hb (.slice sa L.sh.length sc) (.slice qa L.q.length qc) (.slice ta ms.length tc)) V3 V4 := hmv
  refine ⟨_, rfl, ?_⟩
  refine pt ?_
  replace HB := hide (HB.out.step m4 (fun g hg e => (FR g e).resolve_right (by omega)))
  replace bx1 := hide (m4.box bx1.out (fun h => by have := SF _ h; omega))
  replace bx0 := hide HR1.bx; have RS := hide HR1.rs; have RQ := hide HR1.rq; have RT := hide HR1.rt; replace GL := hide HR1.gl; replace AP := HR1.ap
  replace NB : Hid (∀ g, (rb (.slice sa1 L.sh.length sc1) = some g ∨ rb (.slice qa1 L.q.length qc1) = some g ∨ rb (.slice ta1 ms.length tc1) = some g) → g ≠ hb ∧ g ≠ b1) := hide (fun g h => by have q1 := HAp.ne AP h; exact (hfr g (.inr h)).elim (fun q => q.elim (fun q => absurd q q1) (fun q => by have := NB.out g q; omega)) (fun q => by omega))
  replace FR := fun g h => (hfr g h).elim (FR g) (fun q => .inr (Nat.le_trans hsz q))
  clear HR1 hfr hmv hsz h4b SF hsb1
  refine sv (.int .i64 0) ?_
  refine nt (h6 _ _ (sk fun K7 h7 => sk fun K8 h8 => rl ?_)); clear h6 K6
  refine sv (.int .i64 0) ?_
  refine sg (.bool true) ?_
  refine nt (h8 _ _ (ct (sk fun K9 h9 => rl ?_))); clear h8 K8
  refine sv (.pointer (some ⟨hb, 0, none⟩)) ?_
  refine sg (.agg #[.int .i64 c, .int .i64 t]) (h := by have z0 := cell_box 0 (bx1.out) rfl; have z1 := cell_box 1 (bx1.out) rfl; go_simp) ?_
  have hsz := HB.out.size
  have h4b : ∀ g, Hb hb (.slice sa1 L.sh.length sc1) (.slice qa1 L.q.length qc1) (.slice ta1 ms.length tc1) g → 7 ≤ g := fun g h => Nat.le_trans hb4 (h.elim (fun e => e ▸ hlo) (fun q => (rows_lt RS.out RQ.out RT.out g q).1))
  have SF : ∀ g, Hb hb (.slice sa1 L.sh.length sc1) (.slice qa1 L.q.length qc1) (.slice ta1 ms.length tc1) g → g ≠ b1 := fun g h => h.elim (fun e => by omega) (fun q => by have := NB.out g q; omega)
  have hsb1 := lt_of_block bx1.out
  refine sw_call (by rfl) (by first | rfl | (go_simp; done)) (grant_any E base hb L line ms _ _ _ _ _ _ V4 c t ⟨bx0.out, RS.out, RQ.out, RT.out, AP, hlo, GL.out, hb4⟩ hok hc1 hc5 (by omega)) ?_
  rintro e V5 ⟨sa2, sc2, qa2, qc2, ta2, tc2, rfl, HR1, hfr, hmv⟩
  have m5 : Mv (Hb hb (.slice sa1 L.sh.length sc1) (.slice qa1 L.q.length qc1) (.slice ta1 ms.length tc1)) V4 V5 := hmv
  refine ⟨_, rfl, ?_⟩
  refine pt ?_
  replace HB := hide (HB.out.step m5 (fun g hg e => (FR g e).resolve_right (by omega)))
  replace bx1 := hide (m5.box bx1.out (fun h => by have := SF _ h; omega))
  replace bx0 := hide HR1.bx; have RS := hide HR1.rs; have RQ := hide HR1.rq; have RT := hide HR1.rt; replace GL := hide HR1.gl; replace AP := HR1.ap
  replace NB : Hid (∀ g, (rb (.slice sa2 (Hm.grantL L c t).sh.length sc2) = some g ∨ rb (.slice qa2 (Hm.grantL L c t).q.length qc2) = some g ∨ rb (.slice ta2 (ms ++ [Hm.mGrant c line t L.mem]).length tc2) = some g) → g ≠ hb ∧ g ≠ b1) := hide (fun g h => by have q1 := HAp.ne AP h; exact (hfr g (.inr h)).elim (fun q => q.elim (fun q => absurd q q1) (fun q => by have := NB.out g q; omega)) (fun q => by omega))
  replace FR := fun g h => (hfr g h).elim (FR g) (fun q => .inr (Nat.le_trans hsz q))
  clear HR1 hfr hmv hsz h4b SF hsb1
  refine nt (h9 _ _ (sk fun K10 h10 => rl ?_)); clear h9 K9
  refine sv (.nilIface) ?_
  refine nt (h10 _ _ (wp_ret (then_ret ?_))); clear h10 K10; clear h7 K7
  exact bodyPost_ret (v := .nilIface) (by simp [results, Tryz.results86, go_sem]) rfl ⟨_, _, _, _, _, _, rfl, ⟨bx0.out, RS.out, RQ.out, RT.out, AP, hlo, GL.out, hb4⟩, FR, HB.out⟩

set_option maxRecDepth 20000 in
set_option maxHeartbeats 2000000 in
theorem begin_a (E : Nat → Addr) (base hb : Nat) (L : Hm.Ln) (line : Int) (ms : List Hm.Mg) (sa : Option Addr) (sc : Nat) (qa : Option Addr) (qc : Nat) (ta : Option Addr) (tc : Nat) (w : World) (c t : Int) (h : Hr E w base hb L line ms sa sc qa qc ta tc) (hok : Ids.ok L.sh = true) (hc1 : 1 ≤ c) (hc5 : c ≤ 5) (hn : ms.length ≤ 1000000) (hb0 : L.bu = 0) (ho : ¬ L.own = c) (ha : ¬ Hm.askM L line c t = []) :
    Calls Tryz.prog 86 #[.pointer (some ⟨hb, 0, none⟩), .agg #[.int .i64 c, .int .i64 t]] w (HPost E w base hb (.slice sa L.sh.length sc) (.slice qa L.q.length qc) (.slice ta ms.length tc) { L with bu := c, wt := t, ac := ((Hm.askM L line c t).length : Int) } line (ms ++ Hm.askM L line c t) .nilIface) := by
  have HB : Hid (Mv (Hb hb (.slice sa L.sh.length sc) (.slice qa L.q.length qc) (.slice ta ms.length tc)) w w) := hide (Mv.refl _ _)
  have hlo := h.lo
  have hb4 := h.b4
  have hlt := lt_of_block h.bx
  have AP := h.ap
  have FR : ∀ g, Hb hb (.slice sa L.sh.length sc) (.slice qa L.q.length qc) (.slice ta ms.length tc) g → Hb hb (.slice sa L.sh.length sc) (.slice qa L.q.length qc) (.slice ta ms.length tc) g ∨ w.heap.size ≤ g := fun g h => .inl h
  have bx0 := hide h.bx; have RS := hide h.rs; have RQ := hide h.rq; have RT := hide h.rt; have GL := hide h.gl; clear h
  have NB : Hid (∀ g, (rb (.slice sa L.sh.length sc) = some g ∨ rb (.slice qa L.q.length qc) = some g ∨ rb (.slice ta ms.length tc) = some g) → g ≠ hb) := hide (fun g h => HAp.ne AP h)
  go_enter Tryz.func86, Tryz.ntmps86
  refine sk fun K1 h1 => rl ?_
  refine sbp #[.int .i64 c, .int .i64 t] 71 fun V1 b1 hb1 m1 bx1 => ?_
  have o0_1 := Xlo bx0 hb1
  have og_1 : w.heap.size ≤ b1 := Xhs HB hb1
  replace NB : Hid (∀ g, (rb (.slice sa L.sh.length sc) = some g ∨ rb (.slice qa L.q.length qc) = some g ∨ rb (.slice ta ms.length tc) = some g) → g ≠ hb ∧ g ≠ b1) := hide (fun g h => by have h1 := NB.out g h; have h2 := rows_lt RS.out RQ.out RT.out g h; exact (by omega))
  replace RS := hide (RS.out.mv m1 (fun _ _ h => h))
  replace RQ := hide (RQ.out.mv m1 (fun _ _ h => h))
  replace RT := hide (RT.out.mv m1 (fun _ _ h => h))
  replace GL := hide (GL.out.mv m1 (fun _ _ h => h))
  clear hb1
  refine sv (.nilIface) ?_
  refine nt (h1 _ _ (sk fun K2 h2 => sk fun K3 h3 => rl ?_)); clear h1 K1
  have hbv : (L.bu != 0) = false := by simp [hb0]
  refine sv (.pointer (some ⟨hb, 0, none⟩)) ?_
  refine sg (.pointer (some ⟨hb, 0, none⟩)) ?_
  refine sv (.pointer (some ⟨hb, 0, none⟩)) ?_
  replace bx0 := Xbn bx0 m1
  refine sg (.agg #[.int .i64 L.mem, .int .i64 L.own, .slice sa L.sh.length sc, .int .i64 L.bu, .int .i64 L.wt, .int .i64 L.ac, .slice qa L.q.length qc]) (h := by have z0 := cell_box 0 (bx0.out) rfl; have z1 := cell_box 1 (bx0.out) rfl; have z2 := cell_box 2 (bx0.out) rfl; have z3 := cell_box 3 (bx0.out) rfl; have z4 := cell_box 4 (bx0.out) rfl; have z5 := cell_box 5 (bx0.out) rfl; have z6 := cell_box 6 (bx0.out) rfl; go_simp) ?_
  refine sw_call (by rfl) (by first | rfl | (go_simp; done)) (isBusy_any L.mem L.own (.slice sa L.sh.length sc) L.bu L.wt L.ac (.slice qa L.q.length qc) V1) ?_
  rintro e V2 ⟨rfl, hbl⟩
  have m2 : Mv (nob) V1 V2 := Mv.of_below hbl
  refine ⟨_, rfl, ?_⟩
  refine pt ?_
  replace RS := hide (RS.out.mv m2 (fun _ _ h => h))
  replace RQ := hide (RQ.out.mv m2 (fun _ _ h => h))
  replace RT := hide (RT.out.mv m2 (fun _ _ h => h))
  replace GL := hide (GL.out.mv m2 (fun _ _ h => h))
  clear hbl
  rw [hbv]
  refine nt (h3 _ _ (cf (wp_skip (then_normal (h2 _ _ (sk fun K4 h4 => sk fun K5 h5 => ?_)))))); clear h3 K3; clear h2 K2
  refine wp_region_but (z := 999) (S := fun w' => Mv (nob) V2.drew w') (by kernel_rfl) (Mv.refl _ _) (fun hS => ?_)
  have m3 : Mv nob V2 V2.drew := Mv.drew _
  obtain ⟨V3, hN⟩ : ∃ V, V2.drew = V := ⟨_, rfl⟩
  rw [hN] at hS m3 ⊢
  clear hN
  replace RS := hide (RS.out.mv m3 (fun _ _ h => h))
  replace RQ := hide (RQ.out.mv m3 (fun _ _ h => h))
  replace RT := hide (RT.out.mv m3 (fun _ _ h => h))
  replace GL := hide (GL.out.mv m3 (fun _ _ h => h))
  replace bx0 := Xbn (Xbn bx0 m2) m3; replace bx1 := Xbn (Xbn bx1 m2) m3
  have rbx0 := bx0; have rbx1 := bx1
  refine tk0 0 (.pointer (some ⟨hb, 0, none⟩)) rfl ?_
  refine tk0 1 (.pointer (some ⟨hb, 0, none⟩)) rfl ?_
  refine tk0 2 (.pointer (some ⟨hb, 0, none⟩)) rfl ?_
  refine tk0 3 (.pointer (some ⟨hb, 1, none⟩)) rfl ?_
  refine tk 4 (.int .i64 L.own) rfl (fun w' hSw => by (try dsimp only at hSw); have z0 := cell_box 1 (hSw.box rbx0.out (fun h => h)) rfl; go_simp) ?_
  refine tk0 5 (.pointer (some ⟨b1, 0, none⟩)) rfl ?_
  refine tk 6 (.int .i64 c) rfl (fun w' hSw => by (try dsimp only at hSw); have z0 := cell_box 0 (hSw.box rbx1.out (fun h => h)) rfl; go_simp) ?_
  refine tk 7 (.bool false) rfl (fun w' hSw => by (try dsimp only at hSw); have hd : (L.own == c) = false := (by simpa using ho); go_simp) ?_
  refine wpAnyK_done (by kernel_rfl) ?_
  clear hS rbx0 rbx1
  refine then_normal (h5 _ _ (cf (wp_skip (then_normal (h4 _ _ (sk fun K6 h6 => rl ?_)))))); clear h5 K5; clear h4 K4
  replace HB := Xhn (Xhn (Xhn HB m1) m2) m3
  obtain ⟨k, hk⟩ : ∃ k, (Hm.askM L line c t).length = k := ⟨_, rfl⟩
  have hk0 : ¬ k = 0 := fun e => ha (List.eq_nil_of_length_eq_zero (hk.trans e))
  refine sv (.pointer (some ⟨hb, 0, none⟩)) ?_
  refine sg (.agg #[.int .i64 c, .int .i64 t]) (h := by have z0 := cell_box 0 (bx1.out) rfl; have z1 := cell_box 1 (bx1.out) rfl; go_simp) ?_
  have hsz := HB.out.size
  have h4b : ∀ g, Hb hb (.slice sa L.sh.length sc) (.slice qa L.q.length qc) (.slice ta ms.length tc) g → 7 ≤ g := fun g h => Nat.le_trans hb4 (h.elim (fun e => e ▸ hlo) (fun q => (rows_lt RS.out RQ.out RT.out g q).1))
  have SF : ∀ g, Hb hb (.slice sa L.sh.length sc) (.slice qa L.q.length qc) (.slice ta ms.length tc) g → g ≠ b1 := fun g h => h.elim (fun e => by omega) (fun q => by have := NB.out g q; omega)
  have hsb1 := lt_of_block bx1.out
  refine sw_call (by rfl) (by first | rfl | (go_simp; done)) (ask_any E base hb L line ms _ _ _ _ _ _ V3 c t ⟨bx0.out, RS.out, RQ.out, RT.out, AP, hlo, GL.out, hb4⟩ hok hc1 hc5 hn) ?_
  rintro e V4 ⟨sa3, sc3, qa3, qc3, ta3, tc3, rfl, HR1, hfr, hmv⟩
  have m4 : Mv (Hb hb (.slice sa L.sh.length sc) (.slice qa L.q.length qc) (.slice ta ms.length tc)) V3 V4 := hmv
  refine ⟨_, rfl, ?_⟩
  refine pt ?_
  replace HB := hide (HB.out.step m4 (fun g hg e => (FR g e).resolve_right (by omega)))
  replace bx1 := hide (m4.box bx1.out (fun h => by have := SF _ h; omega))
  rw [hk]
  replace bx0 := hide HR1.bx; have RS := hide HR1.rs; have RQ := hide HR1.rq; have RT := hide HR1.rt; replace GL := hide HR1.gl; replace AP := HR1.ap
  replace NB : Hid (∀ g, (rb (.slice sa3 L.sh.length sc3) = some g ∨ rb (.slice qa3 L.q.length qc3) = some g ∨ rb (.slice ta3 (ms ++ Hm.askM L line c t).length tc3) = some g) → g ≠ hb ∧ g ≠ b1) := hide (fun g h => by have q1 := HAp.ne AP h; exact (hfr g (.inr h)).elim (fun q => q.elim (fun q => absurd q q1) (fun q => by have := NB.out g q; omega)) (fun q => by omega))
  replace FR := fun g h => (hfr g h).elim (FR g) (fun q => .inr (Nat.le_trans hsz q))
  clear HR1 hfr hmv hsz h4b SF hsb1
  refine sv (.int .i64 (k : Int)) ?_
  refine nt (h6 _ _ (sk fun K7 h7 => sk fun K8 h8 => rl ?_)); clear h6 K6
  refine sv (.int .i64 (k : Int)) ?_
  refine sg (.bool false) (h := by have hd : ((k : Int) == 0) = false := (by simp; omega); go_simp) ?_
  refine nt (h8 _ _ (cf (wp_skip (then_normal (h7 _ _ (sk fun K9 h9 => ?_)))))); clear h8 K8; clear h7 K7
  refine wp_region_but (z := 999) (S := fun w' => Mv (fun x => x = hb) V4.drew w') (by kernel_rfl) (Mv.refl _ _) (fun hS => ?_)
  have m5 : Mv nob V4 V4.drew := Mv.drew _
  obtain ⟨V5, hN⟩ : ∃ V, V4.drew = V := ⟨_, rfl⟩
  rw [hN] at hS m5 ⊢
  clear hN
  replace GL := hide (GL.out.mv m5 (fun _ _ h => h))
  replace RS := hide (RS.out.mv m5 (fun _ _ h => h))
  replace RQ := hide (RQ.out.mv m5 (fun _ _ h => h))
  replace RT := hide (RT.out.mv m5 (fun _ _ h => h))
  replace bx1 := Xbn bx1 m5
  have rbx1 := bx1
  refine tk0 0 (.pointer (some ⟨hb, 0, none⟩)) rfl ?_
  refine tk0 1 (.pointer (some ⟨hb, 0, none⟩)) rfl ?_
  refine tk0 2 (.pointer (some ⟨hb, 0, none⟩)) rfl ?_
  refine tk0 3 (.pointer (some ⟨b1, 0, none⟩)) rfl ?_
  refine tk 4 (.int .i64 c) rfl (fun w' hSw => by (try dsimp only at hSw); have z0 := cell_box 0 (hSw.box rbx1.out (show ¬ (b1 = hb) by omega)) rfl; go_simp) ?_
  refine tk0 5 (.pointer (some ⟨b1, 1, none⟩)) rfl ?_
  refine tk 6 (.int .i64 t) rfl (fun w' hSw => by (try dsimp only at hSw); have z0 := cell_box 1 (hSw.box rbx1.out (show ¬ (b1 = hb) by omega)) rfl; go_simp) ?_
  refine tk0 7 (.int .i64 (k : Int)) rfl ?_
  refine tk0 8 (.pointer (some ⟨hb, 0, none⟩)) rfl ?_
  refine tk0 9 (.pointer (some ⟨hb, 0, none⟩)) rfl ?_
  refine tk0 10 (.pointer (some ⟨hb, 3, none⟩)) rfl ?_
  replace bx0 := Xbn bx0 m5
  refine kd_skipI (i := 11) (w' := V5.setCell ⟨hb, 3, none⟩ (.int .i64 c)) (fun V => Mv (fun g => g = hb) V5 V ∧ V.heap[hb]? = some (.cells #[.int .i64 L.mem, .int .i64 L.own, .slice sa3 L.sh.length sc3, .int .i64 c, .int .i64 L.wt, .int .i64 L.ac, .slice qa3 L.q.length qc3, .int .i64 line, .slice ta3 (ms ++ Hm.askM L line c t).length tc3] 87 (0, 0))) (by kernel_rfl) rfl (by rfl) (by have fr := fun i => frozen_of_row _ _ i _ _ bx0.out; have z0 := cell_box 3 bx0.out rfl; go_simp) ⟨Mv.set (Mv.refl _ _) _ _, (heap_setCell_same _ _ 3 _ _ _ (bx0.out)).trans rfl⟩ (fun V hI _ => hS.step hI.1 (fun _ _ h => h)) ?_
  rintro V6 ⟨m6, nxV6⟩
  refine ptk ?_
  replace HB := Xhn HB m5
  replace HB := hide (HB.out.step m6 (fun g hg e => .inl e))
  replace GL := hide (GL.out.mv m6 (fun g hg h => by have h : g = hb := h; omega))
  replace RS := hide (RS.out.mv m6 (fun g e h => by have h : g = hb := h; have := NB.out g (.inl e); omega))
  replace RQ := hide (RQ.out.mv m6 (fun g e h => by have h : g = hb := h; have := NB.out g (.inr (.inl e)); omega))
  replace RT := hide (RT.out.mv m6 (fun g e h => by have h : g = hb := h; have := NB.out g (.inr (.inr e)); omega))
  replace bx0 := hide nxV6
  clear nxV6
  replace hS := hS.step m6 (fun _ _ h => h)
  refine tk0 12 (.pointer (some ⟨hb, 0, none⟩)) rfl ?_
  refine tk0 13 (.pointer (some ⟨hb, 0, none⟩)) rfl ?_
  refine tk0 14 (.pointer (some ⟨hb, 4, none⟩)) rfl ?_
  refine kd_skipI (i := 15) (w' := V6.setCell ⟨hb, 4, none⟩ (.int .i64 t)) (fun V => Mv (fun g => g = hb) V6 V ∧ V.heap[hb]? = some (.cells #[.int .i64 L.mem, .int .i64 L.own, .slice sa3 L.sh.length sc3, .int .i64 c, .int .i64 t, .int .i64 L.ac, .slice qa3 L.q.length qc3, .int .i64 line, .slice ta3 (ms ++ Hm.askM L line c t).length tc3] 87 (0, 0))) (by kernel_rfl) rfl (by rfl) (by have fr := fun i => frozen_of_row _ _ i _ _ bx0.out; have z0 := cell_box 4 bx0.out rfl; go_simp) ⟨Mv.set (Mv.refl _ _) _ _, (heap_setCell_same _ _ 4 _ _ _ (bx0.out)).trans rfl⟩ (fun V hI _ => hS.step hI.1 (fun _ _ h => h)) ?_
  rintro V7 ⟨m7, nxV7⟩
  refine ptk ?_
  replace HB := hide (HB.out.step m7 (fun g hg e => .inl e))
  replace GL := hide (GL.out.mv m7 (fun g hg h => by have h : g = hb := h; omega))
  replace RS := hide (RS.out.mv m7 (fun g e h => by have h : g = hb := h; have := NB.out g (.inl e); omega))
  replace RQ := hide (RQ.out.mv m7 (fun g e h => by have h : g = hb := h; have := NB.out g (.inr (.inl e)); omega))
  replace RT := hide (RT.out.mv m7 (fun g e h => by have h : g = hb := h; have := NB.out g (.inr (.inr e)); omega))
  replace bx0 := hide nxV7
  clear nxV7
  replace hS := hS.step m7 (fun _ _ h => h)
  refine tk0 16 (.pointer (some ⟨hb, 0, none⟩)) rfl ?_
  refine tk0 17 (.pointer (some ⟨hb, 0, none⟩)) rfl ?_
  refine tk0 18 (.pointer (some ⟨hb, 5, none⟩)) rfl ?_
  refine kd_skipI (i := 19) (w' := V7.setCell ⟨hb, 5, none⟩ (.int .i64 (k : Int))) (fun V => Mv (fun g => g = hb) V7 V ∧ V.heap[hb]? = some (.cells #[.int .i64 L.mem, .int .i64 L.own, .slice sa3 L.sh.length sc3, .int .i64 c, .int .i64 t, .int .i64 (k : Int), .slice qa3 L.q.length qc3, .int .i64 line, .slice ta3 (ms ++ Hm.askM L line c t).length tc3] 87 (0, 0))) (by kernel_rfl) rfl (by rfl) (by have fr := fun i => frozen_of_row _ _ i _ _ bx0.out; have z0 := cell_box 5 bx0.out rfl; go_simp) ⟨Mv.set (Mv.refl _ _) _ _, (heap_setCell_same _ _ 5 _ _ _ (bx0.out)).trans rfl⟩ (fun V hI _ => hS.step hI.1 (fun _ _ h => h)) ?_
  rintro V8 ⟨m8, nxV8⟩
  refine ptk ?_
  replace HB := hide (HB.out.step m8 (fun g hg e => .inl e))
  replace GL := hide (GL.out.mv m8 (fun g hg h => by have h : g = hb := h; omega))
  replace RS := hide (RS.out.mv m8 (fun g e h => by have h : g = hb := h; have := NB.out g (.inl e); omega))
  replace RQ := hide (RQ.out.mv m8 (fun g e h => by have h : g = hb := h; have := NB.out g (.inr (.inl e)); omega))
  replace RT := hide (RT.out.mv m8 (fun g e h => by have h : g = hb := h; have := NB.out g (.inr (.inr e)); omega))
  replace bx0 := hide nxV8
  clear nxV8
  replace hS := hS.step m8 (fun _ _ h => h)
  refine wpAnyK_done (by kernel_rfl) ?_
  clear hS rbx1
  refine then_normal (h9 _ _ (sk fun K10 h10 => rl ?_)); clear h9 K9
  refine sv (.nilIface) ?_
  refine nt (h10 _ _ (wp_ret ?_)); clear h10 K10
  replace bx1 := Xbb (Xbb (Xbb bx1 m6) m7) m8
  subst hk
  exact bodyPost_ret (v := .nilIface) (by simp [results, Tryz.results86, go_sem]) rfl ⟨_, _, _, _, _, _, rfl, ⟨bx0.out, RS.out, RQ.out, RT.out, AP, hlo, GL.out, hb4⟩, FR, HB.out⟩

theorem begin_any (E : Nat → Addr) (base hb : Nat) (L : Hm.Ln) (line : Int) (ms : List Hm.Mg) (sa : Option Addr) (sc : Nat) (qa : Option Addr) (qc : Nat) (ta : Option Addr) (tc : Nat) (w : World) (c t : Int) (h : Hr E w base hb L line ms sa sc qa qc ta tc) (hok : Ids.ok L.sh = true) (hc1 : 1 ≤ c) (hc5 : c ≤ 5) (hn : ms.length ≤ 1000000) (hb0 : L.bu = 0) (ho : ¬ L.own = c) :
    Calls Tryz.prog 86 #[.pointer (some ⟨hb, 0, none⟩), .agg #[.int .i64 c, .int .i64 t]] w (HPost E w base hb (.slice sa L.sh.length sc) (.slice qa L.q.length qc) (.slice ta ms.length tc) (Hm.begL L line c t) line (ms ++ Hm.begM L line c t) .nilIface) := by
  by_cases ha : Hm.askM L line c t = []
  · rw [Hm.begL_grant ha, Hm.begM_grant ha]
    exact begin_g E base hb L line ms sa sc qa qc ta tc w c t h hok hc1 hc5 hn hb0 ho ha
  · rw [Hm.begL_ask ha, Hm.begM_ask ha]
    exact begin_a E base hb L line ms sa sc qa qc ta tc w c t h hok hc1 hc5 hn hb0 ho ha
set_option maxRecDepth 20000 in
set_option maxHeartbeats 2000000 in
theorem lineCopy_any (L : Hm.Ln) (sa : Option Addr) (sc : Nat) (qa : Option Addr) (qc : Nat) (w : World) (hs : Sg w (.slice sa L.sh.length sc) 1 L.sh.length (gF (f1 L.sh))) (hps : Pl (.slice sa L.sh.length sc) L.sh.length) (hq : Sg w (.slice qa L.q.length qc) 2 L.q.length (gF (f2 L.q))) (hpq : Pl (.slice qa L.q.length qc) L.q.length) (hsl : L.sh.length ≤ 1048576) (hql : L.q.length ≤ 1048576) :
    Calls Tryz.prog 65 #[.agg #[.int .i64 L.mem, .int .i64 L.own, .slice sa L.sh.length sc, .int .i64 L.bu, .int .i64 L.wt, .int .i64 L.ac, .slice qa L.q.length qc]] w (fun e w' => ∃ sa' sc' qa' qc', e = .returned (.agg #[.int .i64 L.mem, .int .i64 L.own, .slice sa' L.sh.length sc', .int .i64 L.bu, .int .i64 L.wt, .int .i64 L.ac, .slice qa' L.q.length qc']) ∧ Rg w' w.heap.size (.slice sa' L.sh.length sc') 1 L.sh.length (gF (f1 L.sh)) ∧ Rg w' w.heap.size (.slice qa' L.q.length qc') 2 L.q.length (gF (f2 L.q)) ∧ (∀ g, rb (.slice sa' L.sh.length sc') = some g → rb (.slice qa' L.q.length qc') ≠ some g) ∧ Below w.heap.size w w') := by
  have hs0 := hide hs; have hq0 := hide hq; clear hs hq
  have HB : Hid (Mv nob w w) := hide (Mv.refl _ _)
  go_enter Tryz.func65, Tryz.ntmps65
  refine sk fun K1 h1 => rl ?_
  refine sbp #[.int .i64 L.mem, .int .i64 L.own, .slice sa L.sh.length sc, .int .i64 L.bu, .int .i64 L.wt, .int .i64 L.ac, .slice qa L.q.length qc] 31 fun V1 b0 hb0 m1 bx0 => ?_
  have o_0 : w.heap.size ≤ b0 := by omega
  clear hb0
  refine sbp #[.int .i64 0, .int .i64 0, .slice none 0 0, .int .i64 0, .int .i64 0, .int .i64 0, .slice none 0 0] 31 fun V2 b1 hb1 m2 bx1 => ?_
  have o0_1 := Xlo bx0 hb1
  clear hb1
  refine nt (h1 _ _ (sk fun K2 h2 => rl ?_)); clear h1 K1
  refine sv (.pointer (some ⟨b0, 2, none⟩)) ?_
  replace bx0 := Xbn bx0 m2
  refine sl 2 bx0 ?_
  replace HB := Xhn (Xhn HB m1) m2
  have szV := HB.out.size
  have b1z := lt_of_block bx1.out
  refine sw_call (by rfl) (by first | rfl | (go_simp; done)) (clone_ids _ _ _ V2 hps (hs0.out.below HB.out.below) hsl) ?_
  rintro e V3 ⟨u0, rfl, hrg, hbl⟩
  have m3 : Mv (nob) V2 V3 := Mv.of_below hbl
  refine ⟨_, rfl, ?_⟩
  refine pt ?_
  obtain ⟨sa1, sc1, rfl, _⟩ := hrg.form
  have RSb : ∀ g, rb (.slice sa1 L.sh.length sc1) = some g → b0 < g ∧ b1 < g := fun g e => by have := (hrg.lt g e).1; omega
  have RSn := fun g e => (hrg.lt g e).1
  have RS := hide (hrg.base szV)
  clear hrg hbl
  refine sv (.pointer (some ⟨b0, 2, none⟩)) ?_
  replace bx0 := Xbn bx0 m3
  refine ss 2 (.slice sa1 L.sh.length sc1) bx0 fun V4 m4 bx0 => ?_
  replace RS := hide (RS.out.mv m4 (fun g e h => by have h : g = b0 := h; have := RSb g e; omega))
  refine nt (h2 _ _ (sk fun K3 h3 => rl ?_)); clear h2 K2
  replace HB := Xhb (Xhn HB m3) m4; replace bx1 := Xbb (Xbn bx1 m3) m4
  have szQ := HB.out.size
  clear szV b1z
  have rsl2 : ∀ g, rb (.slice sa1 L.sh.length sc1) = some g → g < V4.heap.size := fun g e => (RS.out.lt g e).2
  refine sv (.pointer (some ⟨b0, 6, none⟩)) ?_
  refine sl 6 bx0 ?_
  have szV := HB.out.size
  have b1z := lt_of_block bx1.out
  refine sw_call (by rfl) (by first | rfl | (go_simp; done)) (clone_reqs _ _ _ V4 hpq (hq0.out.below HB.out.below) hql) ?_
  rintro e V5 ⟨u0, rfl, hrg, hbl⟩
  have m5 : Mv (nob) V4 V5 := Mv.of_below hbl
  refine ⟨_, rfl, ?_⟩
  refine pt ?_
  replace RS := hide (RS.out.mv m5 (fun _ _ h => h))
  obtain ⟨qa1, qc1, rfl, _⟩ := hrg.form
  have RQb : ∀ g, rb (.slice qa1 L.q.length qc1) = some g → b0 < g ∧ b1 < g := fun g e => by have := (hrg.lt g e).1; omega
  have RQn := fun g e => (hrg.lt g e).1
  have RQ := hide (hrg.base szV)
  clear hrg hbl
  refine sv (.pointer (some ⟨b0, 6, none⟩)) ?_
  replace bx0 := Xbn bx0 m5
  refine ss 6 (.slice qa1 L.q.length qc1) bx0 fun V6 m6 bx0 => ?_
  replace RS := hide (RS.out.mv m6 (fun g e h => by have h : g = b0 := h; have := RSb g e; omega))
  replace RQ := hide (RQ.out.mv m6 (fun g e h => by have h : g = b0 := h; have := RQb g e; omega))
  refine nt (h3 _ _ (sk fun K4 h4 => rl ?_)); clear h3 K3
  replace HB := Xhb (Xhn HB m5) m6; replace bx1 := Xbb (Xbn bx1 m5) m6
  refine sg (.agg #[.int .i64 L.mem, .int .i64 L.own, .slice sa1 L.sh.length sc1, .int .i64 L.bu, .int .i64 L.wt, .int .i64 L.ac, .slice qa1 L.q.length qc1]) (h := by have z0 := cell_box 0 (bx0.out) rfl; have z1 := cell_box 1 (bx0.out) rfl; have z2 := cell_box 2 (bx0.out) rfl; have z3 := cell_box 3 (bx0.out) rfl; have z4 := cell_box 4 (bx0.out) rfl; have z5 := cell_box 5 (bx0.out) rfl; have z6 := cell_box 6 (bx0.out) rfl; go_simp) ?_
  refine ss7 (.int .i64 L.mem) (.int .i64 L.own) (.slice sa1 L.sh.length sc1) (.int .i64 L.bu) (.int .i64 L.wt) (.int .i64 L.ac) (.slice qa1 L.q.length qc1) bx1 fun V7 m7 bx1 => ?_
  replace RS := hide (RS.out.mv m7 (fun g e h => by have h : g = b1 := h; have := RSb g e; omega))
  replace RQ := hide (RQ.out.mv m7 (fun g e h => by have h : g = b1 := h; have := RQb g e; omega))
  refine nt (h4 _ _ (wp_ret ?_)); clear h4 K4
  replace HB := Xhb HB m7; replace bx0 := Xbb bx0 m7
  have q1_0 := cell_box 0 bx1.out rfl
  have q1_1 := cell_box 1 bx1.out rfl
  have q1_2 := cell_box 2 bx1.out rfl
  have q1_3 := cell_box 3 bx1.out rfl
  have q1_4 := cell_box 4 bx1.out rfl
  have q1_5 := cell_box 5 bx1.out rfl
  have q1_6 := cell_box 6 bx1.out rfl
  exact bodyPost_ret (v := .agg #[.int .i64 L.mem, .int .i64 L.own, .slice sa1 L.sh.length sc1, .int .i64 L.bu, .int .i64 L.wt, .int .i64 L.ac, .slice qa1 L.q.length qc1]) (by simp [results, Tryz.results65, go_sem, q1_0, q1_1, q1_2, q1_3, q1_4, q1_5, q1_6]) rfl ⟨_, _, _, _, rfl, RS.out, RQ.out, fun g e e2 => by have := rsl2 g e; have := RQn g e2; omega, HB.out.below⟩

set_option maxRecDepth 20000 in
set_option maxHeartbeats 2000000 in
theorem homeOf_any (E : Nat → Addr) (line : Int) (L : Hm.Ln) (sa : Option Addr) (sc : Nat) (qa : Option Addr) (qc : Nat) (w : World) (hs : Sg w (.slice sa L.sh.length sc) 1 L.sh.length (gF (f1 L.sh))) (hps : Pl (.slice sa L.sh.length sc) L.sh.length) (hq : Sg w (.slice qa L.q.length qc) 2 L.q.length (gF (f2 L.q))) (hpq : Pl (.slice qa L.q.length qc) L.q.length) (hsl : L.sh.length ≤ 1048576) (hql : L.q.length ≤ 1048576) (hg : Gl E w) :
    Calls Tryz.prog 31 #[.agg #[.int .i64 L.mem, .int .i64 L.own, .slice sa L.sh.length sc, .int .i64 L.bu, .int .i64 L.wt, .int .i64 L.ac, .slice qa L.q.length qc], .int .i64 line] w (fun e w' => ∃ hb sa' sc' qa' qc', e = .returned (.pointer (some ⟨hb, 0, none⟩)) ∧ Hr E w' w.heap.size hb L line [] sa' sc' qa' qc' none 0 ∧ Below w.heap.size w w') := by
  have hs0 := hide hs; have hq0 := hide hq; have hg0 := hide hg; have hg4 := hg.lo; clear hs hq hg
  have HB : Hid (Mv nob w w) := hide (Mv.refl _ _)
  go_enter Tryz.func31, Tryz.ntmps31
  refine sk fun K1 h1 => rl ?_
  refine sbp #[.int .i64 L.mem, .int .i64 L.own, .slice sa L.sh.length sc, .int .i64 L.bu, .int .i64 L.wt, .int .i64 L.ac, .slice qa L.q.length qc] 31 fun V1 b0 hb0 m1 bx0 => ?_
  have o_0 : w.heap.size ≤ b0 := by omega
  clear hb0
  refine sv (.pointer none) ?_
  refine nt (h1 _ _ (sk fun K2 h2 => rl ?_)); clear h1 K1
  refine sg (.agg #[.int .i64 L.mem, .int .i64 L.own, .slice sa L.sh.length sc, .int .i64 L.bu, .int .i64 L.wt, .int .i64 L.ac, .slice qa L.q.length qc]) (h := by have z0 := cell_box 0 (bx0.out) rfl; have z1 := cell_box 1 (bx0.out) rfl; have z2 := cell_box 2 (bx0.out) rfl; have z3 := cell_box 3 (bx0.out) rfl; have z4 := cell_box 4 (bx0.out) rfl; have z5 := cell_box 5 (bx0.out) rfl; have z6 := cell_box 6 (bx0.out) rfl; go_simp) ?_
  replace HB := Xhn HB m1
  have szV := HB.out.size
  refine sw_call (by rfl) (by first | rfl | (go_simp; done)) (lineCopy_any L sa sc qa qc V1 (hs0.out.below HB.out.below) hps (hq0.out.below HB.out.below) hpq hsl hql) ?_
  rintro e V2 ⟨sa1, sc1, qa1, qc1, rfl, hrs, hrq, hap, hbl⟩
  have m2 : Mv (nob) V1 V2 := Mv.of_below hbl
  refine ⟨_, rfl, ?_⟩
  refine pt ?_
  have RSb := fun g e => (hrs.lt g e).2
  have RQb := fun g e => (hrq.lt g e).2
  have RS := hide (hrs.base szV)
  have RQ := hide (hrq.base szV)
  clear hrs hrq hbl szV
  refine sv (.int .i64 line) ?_
  refine sv (.agg #[.int .i64 L.mem, .int .i64 L.own, .slice sa1 L.sh.length sc1, .int .i64 L.bu, .int .i64 L.wt, .int .i64 L.ac, .slice qa1 L.q.length qc1, .int .i64 line, .slice none 0 0]) ?_
  replace bx0 := Xbn bx0 m2
  refine sbp #[.int .i64 L.mem, .int .i64 L.own, .slice sa1 L.sh.length sc1, .int .i64 L.bu, .int .i64 L.wt, .int .i64 L.ac, .slice qa1 L.q.length qc1, .int .i64 line, .slice none 0 0] 87 fun V3 b1 hb1 m3 bx1 => ?_
  have o0_1 := Xlo bx0 hb1
  have e1_b1 := hb1
  replace RS := hide (RS.out.mv m3 (fun _ _ h => h))
  replace RQ := hide (RQ.out.mv m3 (fun _ _ h => h))
  clear hb1
  refine sv (.pointer (some ⟨b1, 0, none⟩)) ?_
  refine nt (h2 _ _ (wp_ret ?_)); clear h2 K2
  replace HB := Xhn (Xhn HB m2) m3; replace bx0 := Xbn bx0 m3
  exact bodyPost_ret (v := .pointer (some ⟨b1, 0, none⟩)) (by simp [results, Tryz.results31, go_sem]) rfl ⟨_, _, _, _, _, rfl, ⟨bx1.out, RS.out, RQ.out, rg_nil _ _ _ _, ⟨⟨fun e => by have := RSb _ e; omega, fun e => by have := RQb _ e; omega, by simp [rb]⟩, fun g e => ⟨hap g e, by simp [rb]⟩, fun g e => by simp [rb]⟩, by omega, hg0.out.mv HB.out (fun _ _ h => h), hg4⟩, HB.out.below⟩

end Go.Proofs.YtlalldlbgnlbjaaGreatDoor
