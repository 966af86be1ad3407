/- HmD -/
import Derived.Test.YtlalldlbgnlbjaaGreatDoorYomeGot22
/- a home asks, begins; a line copied, a home made (written by mkHmD.py) -/
namespace Go.Proofs.YtlalldlbgnlbjaaGreatDoor
open Go.RowKit
set_option linter.unusedVariables false
set_option linter.unusedSimpArgs false

theorem pick_block {v : Value} {N M b1 : Nat} {X : Nat → Prop} (h : ∀ g, rb v = some g → N ≤ g ∧ g < M) (hb : b1 < M) (h1 : ∀ g, X g → g ≠ b1) (h2 : ∀ g, X g → g < N) : ∃ ob, (∀ g, rb v = some g → g = ob) ∧ (∀ g, X g → g ≠ ob) ∧ ob < M := by
  cases e : rb v with
  | none => exact ⟨b1, fun g h => (by cases h), h1, hb⟩
  | some b => exact ⟨b, fun g h => (Option.some.inj h).symm, fun g hg => by have := h2 g hg; have := (h b e).1; omega, (h b e).2⟩
theorem take_snoc (os : List Int) (j : Nat) (h : j < os.length) : os.take (j + 1) = os.take j ++ [os.getD j 0] := by
  rw [List.take_add_one]
  simp [List.getD_eq_getElem?_getD, h]
set_option maxRecDepth 20000 in
set_option maxHeartbeats 2000000 in
theorem ask_f (E : Nat → Addr) (base hb : Nat) (L : Hm.Ln) (line : Int) (ms : List Hm.Mg) (sa : Option Addr) (sc : Nat) (qa : Option Addr) (qc : Nat) (ta : Option Addr) (tc : Nat) (w : World) (c t : Int) (h : Hr E w base hb L line ms sa sc qa qc ta tc) (hok : Ids.ok L.sh = true) (hc1 : 1 ≤ c) (hc5 : c ≤ 5) (hn : ms.length ≤ 1000000) (ho : ¬ L.own = 0) :
    Calls Tryz.prog 97 #[.pointer (some ⟨hb, 0, none⟩), .agg #[.int .i64 c, .int .i64 t]] w (HPost E w base hb (.slice sa L.sh.length sc) (.slice qa L.q.length qc) (.slice ta ms.length tc) L line (ms ++ [Hm.mFetch L.own line t]) (.int .i64 1)) := by
  have HB : Hid (Mv (Hb hb (.slice sa L.sh.length sc) (.slice qa L.q.length qc) (.slice ta ms.length tc)) w w) := hide (Mv.refl _ _)
  have hlo := h.lo
  have hb4 := h.b4
  have hlt := lt_of_block h.bx
  have AP := h.ap
  have FR : ∀ g, Hb hb (.slice sa L.sh.length sc) (.slice qa L.q.length qc) (.slice ta ms.length tc) g → Hb hb (.slice sa L.sh.length sc) (.slice qa L.q.length qc) (.slice ta ms.length tc) g ∨ w.heap.size ≤ g := fun g h => .inl h
  have bx0 := hide h.bx; have RS := hide h.rs; have RQ := hide h.rq; have RT := hide h.rt; have GL := hide h.gl; clear h
  have NB : Hid (∀ g, (rb (.slice sa L.sh.length sc) = some g ∨ rb (.slice qa L.q.length qc) = some g ∨ rb (.slice ta ms.length tc) = some g) → g ≠ hb) := hide (fun g h => HAp.ne AP h)
  go_enter Tryz.func97, Tryz.ntmps97
  refine sk fun K1 h1 => rl ?_
  refine sbp #[.int .i64 c, .int .i64 t] 71 fun V1 b1 hb1 m1 bx1 => ?_
  have o0_1 := Xlo bx0 hb1
  have og_1 : w.heap.size ≤ b1 := Xhs HB hb1
  replace NB : Hid (∀ g, (rb (.slice sa L.sh.length sc) = some g ∨ rb (.slice qa L.q.length qc) = some g ∨ rb (.slice ta ms.length tc) = some g) → g ≠ hb ∧ g ≠ b1) := hide (fun g h => by have h1 := NB.out g h; have h2 := rows_lt RS.out RQ.out RT.out g h; exact (by omega))
  replace RS := hide (RS.out.mv m1 (fun _ _ h => h))
  replace RQ := hide (RQ.out.mv m1 (fun _ _ h => h))
  replace RT := hide (RT.out.mv m1 (fun _ _ h => h))
  replace GL := hide (GL.out.mv m1 (fun _ _ h => h))
  clear hb1
  refine sv (.int .i64 0) ?_
  refine nt (h1 _ _ (sk fun K2 h2 => sk fun K3 h3 => rl ?_)); clear h1 K1
  refine sv (.pointer (some ⟨hb, 0, none⟩)) ?_
  refine sg (.pointer (some ⟨hb, 0, none⟩)) ?_
  refine sv (.pointer (some ⟨hb, 0, none⟩)) ?_
  refine sv (.pointer (some ⟨hb, 1, none⟩)) ?_
  replace bx0 := Xbn bx0 m1
  refine sl 1 bx0 ?_
  refine sg (.bool true) (h := by have hd : (L.own != 0) = true := (by simpa using ho); go_simp) ?_
  refine nt (h3 _ _ (ct (sk fun K4 h4 => ?_))); clear h3 K3
  replace HB := Xhn HB m1
  have SF : ∀ g, Hb hb (.slice sa L.sh.length sc) (.slice qa L.q.length qc) (.slice ta ms.length tc) g → g ≠ b1 := fun g h => h.elim (fun e => by omega) (fun q => by have := NB.out g q; omega)
  refine wp_region_but (z := 999) (S := fun w' => Mv (Hb hb (.slice sa L.sh.length sc) (.slice qa L.q.length qc) (.slice ta ms.length tc)) V1.drew w') (by kernel_rfl) (Mv.refl _ _) (fun hS => ?_)
  have m2 : Mv nob V1 V1.drew := Mv.drew _
  obtain ⟨V2, hN⟩ : ∃ V, V1.drew = V := ⟨_, rfl⟩
  rw [hN] at hS m2 ⊢
  clear hN
  replace RS := hide (RS.out.mv m2 (fun _ _ h => h))
  replace RQ := hide (RQ.out.mv m2 (fun _ _ h => h))
  replace RT := hide (RT.out.mv m2 (fun _ _ h => h))
  replace GL := hide (GL.out.mv m2 (fun _ _ h => h))
  replace bx0 := Xbn bx0 m2; replace bx1 := Xbn bx1 m2
  have rbx0 := bx0; have rbx1 := bx1
  refine tk0 0 (.pointer (some ⟨hb, 0, none⟩)) rfl ?_
  refine tk0 1 (.pointer (some ⟨hb, 0, none⟩)) rfl ?_
  refine tk0 2 (.pointer (some ⟨hb, 0, none⟩)) rfl ?_
  refine tk0 3 (.pointer (some ⟨hb, 0, none⟩)) rfl ?_
  refine tk0 4 (.pointer (some ⟨hb, 1, none⟩)) rfl ?_
  refine tk0 6 (.pointer (some ⟨b1, 1, none⟩)) rfl ?_
  refine tk 7 (.int .i64 t) rfl (fun w' hSw => by (try dsimp only at hSw); have z0 := cell_box 1 (hSw.box rbx1.out (fun h => by have := SF _ h; omega)) rfl; go_simp) ?_
  refine kd_val (i := 5) (v := .int .i64 L.own) (by kernel_rfl) rfl (by rfl) (by have z0 := cell_box 1 (bx0.out) rfl; go_simp) hS ?_
  refine ptk ?_
  refine tk0 8 (.agg #[.int .i64 5, .int .i64 0, .int .i64 L.own, .int .i64 0, .int .i64 t, .int .i64 0]) rfl ?_
  replace HB := Xhn HB m2
  have hsz := HB.out.size
  have h4b : ∀ g, Hb hb (.slice sa L.sh.length sc) (.slice qa L.q.length qc) (.slice ta ms.length tc) g → 7 ≤ g := fun g h => Nat.le_trans hb4 (h.elim (fun e => e ▸ hlo) (fun q => (rows_lt RS.out RQ.out RT.out g q).1))
  have hsb1 := lt_of_block bx1.out
  refine kd_call (i := 9) (by kernel_rfl) rfl (by rfl) (by first | rfl | (go_simp; done)) (tell_any E base hb L line ms _ _ _ _ _ _ V2 5 0 L.own 0 t 0 ⟨bx0.out, RS.out, RQ.out, RT.out, AP, hlo, GL.out, hb4⟩ (by omega)) ?_
  rintro e V3 ⟨sa1, sc1, qa1, qc1, ta1, tc1, rfl, HR1, hfr, hmv⟩
  have m3 : Mv (Hb hb (.slice sa L.sh.length sc) (.slice qa L.q.length qc) (.slice ta ms.length tc)) V2 V3 := hmv
  replace hS := hS.step m3 (fun _ _ h => h)
  refine ⟨_, rfl, fun _ => hS, ?_⟩
  refine ptk ?_
  replace HB := hide (HB.out.step m3 (fun g hg e => (FR g e).resolve_right (by omega)))
  replace bx1 := hide (m3.box bx1.out (fun h => by have := SF _ h; omega))
  replace bx0 := hide HR1.bx; have RS := hide HR1.rs; have RQ := hide HR1.rq; have RT := hide HR1.rt; replace GL := hide HR1.gl; replace AP := HR1.ap
  replace NB : Hid (∀ g, (rb (.slice sa1 L.sh.length sc1) = some g ∨ rb (.slice qa1 L.q.length qc1) = some g ∨ rb (.slice ta1 (ms ++ [[5, 0, L.own, line, t, 0]]).length tc1) = some g) → g ≠ hb ∧ g ≠ b1) := hide (fun g h => by have q1 := HAp.ne AP h; exact (hfr g (.inr h)).elim (fun q => q.elim (fun q => absurd q q1) (fun q => by have := NB.out g q; omega)) (fun q => by omega))
  replace FR := fun g h => (hfr g h).elim (FR g) (fun q => .inr (Nat.le_trans hsz q))
  clear HR1 hfr hmv hsz h4b SF hsb1
  refine wpAnyK_done (by kernel_rfl) ?_
  clear hS rbx0 rbx1
  refine then_normal (h4 _ _ (sk fun K5 h5 => rl ?_)); clear h4 K4
  refine sv (.int .i64 1) ?_
  refine nt (h5 _ _ (wp_ret (then_ret ?_))); clear h5 K5; clear h2 K2
  exact bodyPost_ret (v := .int .i64 1) (by simp [results, Tryz.results97, go_sem]) rfl ⟨_, _, _, _, _, _, rfl, ⟨bx0.out, RS.out, RQ.out, RT.out, AP, hlo, GL.out, hb4⟩, FR, HB.out⟩

set_option maxRecDepth 20000 in
set_option maxHeartbeats 2000000 in
theorem ask_r (E : Nat → Addr) (base hb : Nat) (L : Hm.Ln) (line : Int) (ms : List Hm.Mg) (sa : Option Addr) (sc : Nat) (qa : Option Addr) (qc : Nat) (ta : Option Addr) (tc : Nat) (w : World) (c : Int) (h : Hr E w base hb L line ms sa sc qa qc ta tc) (hok : Ids.ok L.sh = true) (hc1 : 1 ≤ c) (hc5 : c ≤ 5) (hn : ms.length ≤ 1000000) (ho : L.own = 0) :
    Calls Tryz.prog 97 #[.pointer (some ⟨hb, 0, none⟩), .agg #[.int .i64 c, .int .i64 1]] w (HPost E w base hb (.slice sa L.sh.length sc) (.slice qa L.q.length qc) (.slice ta ms.length tc) L line ms (.int .i64 0)) := by
  have HB : Hid (Mv (Hb hb (.slice sa L.sh.length sc) (.slice qa L.q.length qc) (.slice ta ms.length tc)) w w) := hide (Mv.refl _ _)
  have hlo := h.lo
  have hb4 := h.b4
  have hlt := lt_of_block h.bx
  have AP := h.ap
  have FR : ∀ g, Hb hb (.slice sa L.sh.length sc) (.slice qa L.q.length qc) (.slice ta ms.length tc) g → Hb hb (.slice sa L.sh.length sc) (.slice qa L.q.length qc) (.slice ta ms.length tc) g ∨ w.heap.size ≤ g := fun g h => .inl h
  have bx0 := hide h.bx; have RS := hide h.rs; have RQ := hide h.rq; have RT := hide h.rt; have GL := hide h.gl; clear h
  have NB : Hid (∀ g, (rb (.slice sa L.sh.length sc) = some g ∨ rb (.slice qa L.q.length qc) = some g ∨ rb (.slice ta ms.length tc) = some g) → g ≠ hb) := hide (fun g h => HAp.ne AP h)
  go_enter Tryz.func97, Tryz.ntmps97
  refine sk fun K1 h1 => rl ?_
  refine sbp #[.int .i64 c, .int .i64 1] 71 fun V1 b1 hb1 m1 bx1 => ?_
  have o0_1 := Xlo bx0 hb1
  have og_1 : w.heap.size ≤ b1 := Xhs HB hb1
  replace NB : Hid (∀ g, (rb (.slice sa L.sh.length sc) = some g ∨ rb (.slice qa L.q.length qc) = some g ∨ rb (.slice ta ms.length tc) = some g) → g ≠ hb ∧ g ≠ b1) := hide (fun g h => by have h1 := NB.out g h; have h2 := rows_lt RS.out RQ.out RT.out g h; exact (by omega))
  replace RS := hide (RS.out.mv m1 (fun _ _ h => h))
  replace RQ := hide (RQ.out.mv m1 (fun _ _ h => h))
  replace RT := hide (RT.out.mv m1 (fun _ _ h => h))
  replace GL := hide (GL.out.mv m1 (fun _ _ h => h))
  clear hb1
  refine sv (.int .i64 0) ?_
  refine nt (h1 _ _ (sk fun K2 h2 => sk fun K3 h3 => rl ?_)); clear h1 K1
  refine sv (.pointer (some ⟨hb, 0, none⟩)) ?_
  refine sg (.pointer (some ⟨hb, 0, none⟩)) ?_
  refine sv (.pointer (some ⟨hb, 0, none⟩)) ?_
  refine sv (.pointer (some ⟨hb, 1, none⟩)) ?_
  replace bx0 := Xbn bx0 m1
  refine sl 1 bx0 ?_
  refine sg (.bool false) (h := by have hd : (L.own != 0) = false := (by simp [ho]); go_simp) ?_
  refine nt (h3 _ _ (cf (wp_skip (then_normal (h2 _ _ (sk fun K4 h4 => sk fun K5 h5 => rl ?_)))))); clear h3 K3; clear h2 K2
  refine sv (.pointer (some ⟨b1, 1, none⟩)) ?_
  refine sl 1 bx1 ?_
  refine sg (.bool true) ?_
  refine nt (h5 _ _ (ct (sk fun K6 h6 => rl ?_))); clear h5 K5
  refine sv (.int .i64 0) ?_
  refine nt (h6 _ _ (wp_ret (then_ret ?_))); clear h6 K6; clear h4 K4
  replace HB := Xhn HB m1
  exact bodyPost_ret (v := .int .i64 0) (by simp [results, Tryz.results97, go_sem]) rfl ⟨_, _, _, _, _, _, rfl, ⟨bx0.out, RS.out, RQ.out, RT.out, AP, hlo, GL.out, hb4⟩, FR, HB.out⟩

set_option maxRecDepth 20000 in
set_option maxHeartbeats 2000000 in
theorem ask_w (E : Nat → Addr) (base hb : Nat) (L : Hm.Ln) (line : Int) (ms : List Hm.Mg) (sa : Option Addr) (sc : Nat) (qa : Option Addr) (qc : Nat) (ta : Option Addr) (tc : Nat) (w : World) (c t : Int) (h : Hr E w base hb L line ms sa sc qa qc ta tc) (hok : Ids.ok L.sh = true) (hc1 : 1 ≤ c) (hc5 : c ≤ 5) (hn : ms.length ≤ 1000000) (ho : L.own = 0) (ht : ¬ t = 1) :
    Calls Tryz.prog 97 #[.pointer (some ⟨hb, 0, none⟩), .agg #[.int .i64 c, .int .i64 t]] w (HPost E w base hb (.slice sa L.sh.length sc) (.slice qa L.q.length qc) (.slice ta ms.length tc) L line (ms ++ (Ids.withoutId L.sh c).map (fun k => Hm.mInv k line)) (.int .i64 ((Ids.withoutId L.sh c).length : Int))) := by
  have HB : Hid (Mv (Hb hb (.slice sa L.sh.length sc) (.slice qa L.q.length qc) (.slice ta ms.length tc)) w w) := hide (Mv.refl _ _)
  have hlo := h.lo
  have hb4 := h.b4
  have hlt := lt_of_block h.bx
  have AP := h.ap
  have FR : ∀ g, Hb hb (.slice sa L.sh.length sc) (.slice qa L.q.length qc) (.slice ta ms.length tc) g → Hb hb (.slice sa L.sh.length sc) (.slice qa L.q.length qc) (.slice ta ms.length tc) g ∨ w.heap.size ≤ g := fun g h => .inl h
  have bx0 := hide h.bx; have RS := hide h.rs; have RQ := hide h.rq; have RT := hide h.rt; have GL := hide h.gl; clear h
  have NB : Hid (∀ g, (rb (.slice sa L.sh.length sc) = some g ∨ rb (.slice qa L.q.length qc) = some g ∨ rb (.slice ta ms.length tc) = some g) → g ≠ hb) := hide (fun g h => HAp.ne AP h)
  go_enter Tryz.func97, Tryz.ntmps97
  refine sk fun K1 h1 => rl ?_
  refine sbp #[.int .i64 c, .int .i64 t] 71 fun V1 b1 hb1 m1 bx1 => ?_
  have o0_1 := Xlo bx0 hb1
  have og_1 : w.heap.size ≤ b1 := Xhs HB hb1
  replace NB : Hid (∀ g, (rb (.slice sa L.sh.length sc) = some g ∨ rb (.slice qa L.q.length qc) = some g ∨ rb (.slice ta ms.length tc) = some g) → g ≠ hb ∧ g ≠ b1) := hide (fun g h => by have h1 := NB.out g h; have h2 := rows_lt RS.out RQ.out RT.out g h; exact (by omega))
  replace RS := hide (RS.out.mv m1 (fun _ _ h => h))
  replace RQ := hide (RQ.out.mv m1 (fun _ _ h => h))
  replace RT := hide (RT.out.mv m1 (fun _ _ h => h))
  replace GL := hide (GL.out.mv m1 (fun _ _ h => h))
  clear hb1
  refine sv (.int .i64 0) ?_
  refine nt (h1 _ _ (sk fun K2 h2 => sk fun K3 h3 => rl ?_)); clear h1 K1
  refine sv (.pointer (some ⟨hb, 0, none⟩)) ?_
  refine sg (.pointer (some ⟨hb, 0, none⟩)) ?_
  refine sv (.pointer (some ⟨hb, 0, none⟩)) ?_
  refine sv (.pointer (some ⟨hb, 1, none⟩)) ?_
  replace bx0 := Xbn bx0 m1
  refine sl 1 bx0 ?_
  refine sg (.bool false) (h := by have hd : (L.own != 0) = false := (by simp [ho]); go_simp) ?_
  refine nt (h3 _ _ (cf (wp_skip (then_normal (h2 _ _ (sk fun K4 h4 => sk fun K5 h5 => rl ?_)))))); clear h3 K3; clear h2 K2
  refine sv (.pointer (some ⟨b1, 1, none⟩)) ?_
  refine sl 1 bx1 ?_
  refine sg (.bool false) (h := by have hd : (t == 1) = false := (by simpa using ht); go_simp) ?_
  refine nt (h5 _ _ (cf (wp_skip (then_normal (h4 _ _ (sk fun K6 h6 => ?_)))))); clear h5 K5; clear h4 K4
  replace HB := Xhn HB m1
  have hl5 := ok_len hok
  obtain ⟨os, hos⟩ : ∃ os, Ids.withoutId L.sh c = os := ⟨_, rfl⟩
  have hle := oRes_le L.sh c
  have hor := oRes_yes hok hc1 hc5
  rw [hos] at hor ⊢
  rw [hor] at hle
  refine wp_region_but (z := 999) (S := fun w' => Mv (nob) V1.drew w') (by kernel_rfl) (Mv.refl _ _) (fun hS => ?_)
  have m2 : Mv nob V1 V1.drew := Mv.drew _
  obtain ⟨V2, hN⟩ : ∃ V, V1.drew = V := ⟨_, rfl⟩
  rw [hN] at hS m2 ⊢
  clear hN
  replace RS := hide (RS.out.mv m2 (fun _ _ h => h))
  replace RQ := hide (RQ.out.mv m2 (fun _ _ h => h))
  replace RT := hide (RT.out.mv m2 (fun _ _ h => h))
  replace GL := hide (GL.out.mv m2 (fun _ _ h => h))
  replace bx0 := Xbn bx0 m2; replace bx1 := Xbn bx1 m2
  have rbx0 := bx0; have rbx1 := bx1
  refine tk0 0 (.pointer (some ⟨hb, 0, none⟩)) rfl ?_
  refine tk0 1 (.pointer (some ⟨hb, 0, none⟩)) rfl ?_
  refine tk0 2 (.pointer (some ⟨hb, 0, none⟩)) rfl ?_
  refine tk0 3 (.pointer (some ⟨hb, 2, none⟩)) rfl ?_
  refine tk 4 (.slice sa L.sh.length sc) rfl (fun w' hSw => by (try dsimp only at hSw); have z0 := cell_box 2 (hSw.box rbx0.out (fun h => h)) rfl; go_simp) ?_
  refine tk0 5 (.pointer (some ⟨b1, 0, none⟩)) rfl ?_
  refine tk 6 (.int .i64 c) rfl (fun w' hSw => by (try dsimp only at hSw); have z0 := cell_box 0 (hSw.box rbx1.out (fun h => h)) rfl; go_simp) ?_
  have hbz := lt_of_block bx0.out
  replace HB := Xhn HB m2
  have szV := HB.out.size
  have b1z := lt_of_block bx1.out
  have hrz := rows_lt RS.out RQ.out RT.out
  have hn1 := NB.out
  refine kd_call (i := 7) (by kernel_rfl) rfl (by rfl) (by first | rfl | (go_simp; done)) (implWithout_any _ L.sh c V2 (rg_sl RS.out) (by omega)) ?_
  rintro e V3 ⟨u0, rfl, how, hbl⟩
  have m3 : Mv (nob) V2 V3 := Mv.of_below hbl
  replace hS := hS.step m3 (fun _ _ h => h.elim)
  refine ⟨_, rfl, fun _ => hS, ?_⟩
  refine ptk ?_
  replace RS := hide (RS.out.mv m3 (fun _ _ h => h))
  replace RQ := hide (RQ.out.mv m3 (fun _ _ h => h))
  replace RT := hide (RT.out.mv m3 (fun _ _ h => h))
  replace GL := hide (GL.out.mv m3 (fun _ _ h => h))
  rw [hor] at how
  have RN := hide (ow_rg how)
  obtain ⟨na, nc, rfl, _⟩ := RN.out.form
  have hsz2 := hbl.size
  obtain ⟨ob, hob, hobn, hobl⟩ := pick_block (X := Hb hb (.slice sa L.sh.length sc) (.slice qa L.q.length qc) (.slice ta ms.length tc)) RN.out.lt (Nat.lt_of_lt_of_le b1z hsz2) (fun g h => h.elim (fun e => by omega) (fun q => (hn1 g q).2)) (fun g h => h.elim (fun e => by omega) (fun q => (hrz g q).2))
  clear how hbl hbz b1z hrz hn1 hsz2 szV
  refine tk0 8 (.slice na os.length nc) rfl ?_
  refine wpAnyK_done (by kernel_rfl) ?_
  clear hS rbx0 rbx1
  refine then_normal (h6 _ _ (sk fun K7 h7 => sk fun K8 h8 => rl ?_)); clear h6 K6
  refine sv (.slice na os.length nc) ?_
  refine sg (.int .i64 (os.length : Int)) ?_
  refine sv (.int .i64 0) ?_
  refine nt (h8 _ _ (wp_block ?_)); clear h8 K8
  replace HB := Xhn HB m3; replace bx0 := Xbn bx0 m3; replace bx1 := Xbn bx1 m3
  replace NB : Hid (∀ g, (rb (.slice sa L.sh.length sc) = some g ∨ rb (.slice qa L.q.length qc) = some g ∨ rb (.slice ta ms.length tc) = some g) → g ≠ hb ∧ g ≠ b1 ∧ g ≠ ob) := hide (fun g h => by have q1 := NB.out g h; have q2 := hobn g (.inr h); exact ⟨q1.1, q1.2, q2⟩)
  have OL : Hid (ob < V3.heap.size) := hide hobl
  have hbob : hb ≠ ob := hobn hb (.inl rfl)
  clear hobl hobn
  have hSFp := o0_1
  obtain ⟨N0, hN0⟩ : ∃ N, _ = N := ⟨_, rfl⟩; replace RN := (show Hid (Rg V3 N0 (.slice na os.length nc) 1 os.length (gF (f1 os))) from hN0 ▸ RN); clear hN0
  refine wp_loop_ghost (fun m a' w' => ∃ (j : Nat) (M : List Hm.Mg) (saj : Option Addr) (scj : Nat) (qaj : Option Addr) (qcj : Nat) (taj : Option Addr) (tcj : Nat) (u7 : Value) (u38 : Value) (u39 : Value) (u40 : Value) (u41 : Value) (u42 : Value) (u43 : Value) (u44 : Value) (u45 : Value), m = os.length - j + 1 ∧ a' = ⟨#[.pointer (some ⟨hb, 0, none⟩), .agg #[.int .i64 c, .int .i64 t], undef, .pointer (some ⟨b1, 0, none⟩), .int .i64 0, .slice na os.length nc, undef, u7, .pointer (some ⟨hb, 0, none⟩), .pointer (some ⟨hb, 0, none⟩), .pointer (some ⟨hb, 0, none⟩), .pointer (some ⟨hb, 1, none⟩), .int .i64 L.own, .bool false, undef, undef, undef, undef, undef, undef, undef, undef, undef, undef, .pointer (some ⟨b1, 1, none⟩), .int .i64 t, .bool false, .pointer (some ⟨hb, 0, none⟩), .pointer (some ⟨hb, 0, none⟩), .pointer (some ⟨hb, 0, none⟩), .pointer (some ⟨hb, 2, none⟩), .slice sa L.sh.length sc, .pointer (some ⟨b1, 0, none⟩), .int .i64 c, .slice na os.length nc, .slice na os.length nc, .int .i64 (os.length : Int), .int .i64 (j : Int), u38, u39, u40, u41, u42, u43, u44, u45, undef, undef], []⟩ ∧ (Mv (Hb hb (.slice sa L.sh.length sc) (.slice qa L.q.length qc) (.slice ta ms.length tc)) w w') ∧ (Rg w' base (.slice saj L.sh.length scj) 1 L.sh.length (gF (f1 L.sh))) ∧ (Rg w' base (.slice qaj L.q.length qcj) 2 L.q.length (gF (f2 L.q))) ∧ (Rg w' base (.slice taj M.length tcj) 6 M.length (gF (f6 M))) ∧ (Gl E w') ∧ (Rg w' N0 (.slice na os.length nc) 1 os.length (gF (f1 os))) ∧ (ob < w'.heap.size) ∧ (HAp hb (.slice saj L.sh.length scj) (.slice qaj L.q.length qcj) (.slice taj M.length tcj)) ∧ (∀ g, (rb (.slice saj L.sh.length scj) = some g ∨ rb (.slice qaj L.q.length qcj) = some g ∨ rb (.slice taj M.length tcj) = some g) → g ≠ hb ∧ g ≠ b1 ∧ g ≠ ob) ∧ (∀ g, Hb hb (.slice saj L.sh.length scj) (.slice qaj L.q.length qcj) (.slice taj M.length tcj) g → Hb hb (.slice sa L.sh.length sc) (.slice qa L.q.length qc) (.slice ta ms.length tc) g ∨ w.heap.size ≤ g) ∧ (M = ms ++ (os.take j).map (fun k => Hm.mInv k line) ∧ j ≤ os.length) ∧ (w'.heap[hb]? = some (.cells #[.int .i64 L.mem, .int .i64 L.own, .slice saj L.sh.length scj, .int .i64 L.bu, .int .i64 L.wt, .int .i64 L.ac, .slice qaj L.q.length qcj, .int .i64 line, .slice taj M.length tcj] 87 (0, 0))) ∧ (w'.heap[b1]? = some (.cells #[.int .i64 c, .int .i64 t] 71 (0, 0)))) (os.length - 0 + 1) ⟨0, ms, sa, sc, qa, qc, ta, tc, _, _, _, _, _, _, _, _, _, rfl, rfl, (HB.out), (RS.out), (RQ.out), (RT.out), (GL.out), (RN.out), (OL.out), (AP), (NB.out), (FR), (by simp), (bx0.out), (bx1.out)⟩ (fun m a' VL1 hI => ?_)
  obtain ⟨j, M, saj, scj, qaj, qcj, taj, tcj, u7, u38, u39, u40, u41, u42, u43, u44, u45, rfl, rfl, i_HB, i_RS, i_RQ, i_RT, i_GL, i_RN, i_OL, i_AP, i_NB, i_FR, i_EM, i_bx0, i_bx1⟩ := hI
  clear HB bx0 RS RQ RT GL bx1 RN OL
  have HB := hide i_HB
  clear i_HB
  have RS := hide i_RS
  clear i_RS
  have RQ := hide i_RQ
  clear i_RQ
  have RT := hide i_RT
  clear i_RT
  have GL := hide i_GL
  clear i_GL
  have RN := hide i_RN
  clear i_RN
  have OL := hide i_OL
  clear i_OL
  have AP := hide i_AP
  clear i_AP
  have NB := hide i_NB
  clear i_NB
  have FR := hide i_FR
  clear i_FR
  have EM := hide i_EM
  clear i_EM
  have bx0 := hide i_bx0
  clear i_bx0
  have bx1 := hide i_bx1
  clear i_bx1
  refine sk fun K9 h9 => rl ?_
  replace AP := AP.out; replace FR := FR.out; have EMj := EM.out.2
  by_cases hlt : j < os.length
  · refine sg (.bool true) (h := by have hd : decide (j < os.length) = true := (by simp; omega); have hd2 : decide ((j : Int) < (os.length : Int)) = true := (by simp; omega); go_simp) ?_
    refine nt (h9 _ _ (sk fun K10 h10 => ct (wp_skip (then_normal (h10 _ _ (sk fun K11 h11 => wp_block (sk fun K12 h12 => rl ?_))))))); clear h9 K9; clear h10 K10
    obtain ⟨g0, o0, e0, _, _, _, _, hcell⟩ := RN.out.rows (by omega)
    subst e0
    obtain ⟨x, hx⟩ : ∃ x, os.getD j 0 = x := ⟨_, rfl⟩
    have z0 : VL1.cell? ⟨g0, o0 + j, none⟩ = some (.int .i64 x) := by have := hcell j (by omega); rw [Nat.div_one] at this; rw [← hx]; exact this
    clear hcell
    refine sg (.pointer (some ⟨g0, o0 + j, none⟩)) (h := by have h1 : (j : Int) < (os.length : Int) := (by omega); go_simp) ?_
    refine sg (.int .i64 x) (h := by have z1 := z0; go_simp) ?_
    refine sv (.int .i64 x) ?_
    refine nt (h12 _ _ (rl ?_)); clear h12 K12
    clear z0
    have hML : M.length ≤ 1048576 := by rw [EM.out.1]; simp; omega
    refine sv (.pointer (some ⟨hb, 0, none⟩)) ?_
    refine sv (.int .i64 x) ?_
    refine sv (.agg #[.int .i64 4, .int .i64 0, .int .i64 x, .int .i64 0, .int .i64 0, .int .i64 0]) ?_
    have hsz := HB.out.size
    have h4b : ∀ g, Hb hb (.slice saj L.sh.length scj) (.slice qaj L.q.length qcj) (.slice taj M.length tcj) g → 7 ≤ g := fun g h => Nat.le_trans hb4 (h.elim (fun e => e ▸ hlo) (fun q => (rows_lt RS.out RQ.out RT.out g q).1))
    have SF : ∀ g, Hb hb (.slice saj L.sh.length scj) (.slice qaj L.q.length qcj) (.slice taj M.length tcj) g → g ≠ b1 ∧ g ≠ ob := fun g h => h.elim (fun e => by omega) (fun q => by have := NB.out g q; omega)
    have hsb1 := lt_of_block bx1.out
    have hsob := OL.out
    refine sw_call (by rfl) (by first | rfl | (go_simp; done)) (tell_any E base hb L line M _ _ _ _ _ _ VL1 4 0 x 0 0 0 ⟨bx0.out, RS.out, RQ.out, RT.out, AP, hlo, GL.out, hb4⟩ hML) ?_
    rintro e V4 ⟨sa2, sc2, qa2, qc2, ta2, tc2, rfl, HR1, hfr, hmv⟩
    have m4 : Mv (Hb hb (.slice saj L.sh.length scj) (.slice qaj L.q.length qcj) (.slice taj M.length tcj)) VL1 V4 := hmv
    refine ⟨_, rfl, ?_⟩
    refine pt ?_
    replace HB := hide (HB.out.step m4 (fun g hg e => (FR g e).resolve_right (by omega)))
    replace bx1 := hide (m4.box bx1.out (fun h => by have := SF _ h; omega))
    replace RN := hide (RN.out.mv m4 (fun g e h => by have e2 := hob g e; have := SF g h; omega))
    replace OL := hide (Nat.lt_of_lt_of_le OL.out (m4).size)
    replace bx0 := hide HR1.bx; have RS := hide HR1.rs; have RQ := hide HR1.rq; have RT := hide HR1.rt; replace GL := hide HR1.gl; replace AP := HR1.ap
    replace NB : Hid (∀ g, (rb (.slice sa2 L.sh.length sc2) = some g ∨ rb (.slice qa2 L.q.length qc2) = some g ∨ rb (.slice ta2 (M ++ [[4, 0, x, line, 0, 0]]).length tc2) = some g) → g ≠ hb ∧ g ≠ b1 ∧ g ≠ ob) := hide (fun g h => by have q1 := HAp.ne AP h; exact (hfr g (.inr h)).elim (fun q => q.elim (fun q => absurd q q1) (fun q => by have := NB.out g q; omega)) (fun q => by omega))
    replace FR := fun g h => (hfr g h).elim (FR g) (fun q => .inr (Nat.le_trans hsz q))
    clear HR1 hfr hmv hsz h4b SF hsb1 hsob
    refine wpList_nil (inb_norm (then_normal (h11 _ _ (rl ?_)))); clear h11 K11
    refine sg (.int .i64 ((j + 1 : Nat) : Int)) (h := by have hw : IntKind.i64.wrap ((j : Int) + 1) = ((j + 1 : Nat) : Int) := (by rw [i64wrap (by omega)]; omega); go_simp) ?_
    refine sv (.int .i64 ((j + 1 : Nat) : Int)) ?_
    refine wpList_nil (then_normal ?_)
    have EN : M ++ [[4, 0, x, line, 0, 0]] = ms ++ (os.take (j + 1)).map (fun k => Hm.mInv k line) ∧ j + 1 ≤ os.length := ⟨by rw [EM.out.1, take_snoc os j hlt, List.map_append, List.append_assoc, hx]; rfl, hlt⟩
    exact ⟨(os.length - (j + 1) + 1), (by omega), (j + 1), (M ++ [[4, 0, x, line, 0, 0]]), sa2, sc2, qa2, qc2, ta2, tc2, _, _, _, _, _, _, _, _, _, rfl, rfl, (HB.out), (RS.out), (RQ.out), (RT.out), (GL.out), (RN.out), (OL.out), (AP), (NB.out), (FR), (EN), (bx0.out), (bx1.out)⟩
  · refine sg (.bool false) (h := by have hd : decide (j < os.length) = false := (by simp; omega); have hd2 : decide ((j : Int) < (os.length : Int)) = false := (by simp; omega); go_simp) ?_
    refine nt (h9 _ _ (sk fun K13 h13 => cf (wp_exit (then_exit (then_exit (inb_here rfl (then_normal (h7 _ _ (sk fun K14 h14 => rl ?_))))))))); clear h9 K9; clear h13 K13; clear h7 K7
    have e1 := EM.out.1
    obtain rfl : j = os.length := by omega
    rw [List.take_length] at e1
    subst e1
    subst hos
    refine sv (.slice na (Ids.withoutId L.sh c).length nc) ?_
    refine sg (.int .i64 ((Ids.withoutId L.sh c).length : Int)) ?_
    refine sv (.int .i64 ((Ids.withoutId L.sh c).length : Int)) ?_
    refine nt (h14 _ _ (wp_ret ?_)); clear h14 K14
    exact bodyPost_ret (v := .int .i64 ((Ids.withoutId L.sh c).length : Int)) (by simp [results, Tryz.results97, go_sem]) rfl ⟨_, _, _, _, _, _, rfl, ⟨bx0.out, RS.out, RQ.out, RT.out, AP, hlo, GL.out, hb4⟩, FR, HB.out⟩

end Go.Proofs.YtlalldlbgnlbjaaGreatDoor
