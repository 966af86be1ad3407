/- LsH -/
import Derived.Test.YtnkocikbapbbmaaYnkPlay51
/- spec.LinkPlay; both where there is nothing to play (written by mkLsH.py) -/
namespace Go.Proofs.Ytnkocikbapbbmaa
open Go.RowKit
set_option linter.unusedVariables false
set_option linter.unusedSimpArgs false

set_option maxHeartbeats 8000000 in
set_option maxRecDepth 20000 in
theorem specPlay_yes (p : Lk) (wv gv dv uv : Value) (w : World) (ha : La w wv gv dv uv p) (hf : Lf p) (s : Nat → Ac4) (ad : Option Addr) (n cap : Nat) (hs : 0 < n → ∃ b off, ad = some ⟨b, off, none⟩ ∧ ∀ j, j < n → ∀ i, i < 4 → w.cell? ⟨b, off + j * 4 + i, none⟩ = some (aF s j i)) (hn : n ≤ 200) :
    Calls Try.prog 19 #[.agg (l6 p.base wv p.want gv dv uv), .slice ad n cap] w (PlP w (plN s n p) n (fun c => pcN s p c)) := by
  have ha0 := hide ha
  clear ha
  have HB : Hid (Mv nob w w) := hide (Mv.refl _ _)
  go_enter Try.func19, Try.ntmps19
  refine sk fun K1 h1 => rl ?_
  refine sbp #[.int .i64 p.base, wv, .int .i64 p.want, gv, dv, uv] 30 fun V1 b0 hb0 m1 bx0 => ?_
  have o_0 : w.heap.size ≤ b0 := by omega
  clear hb0
  refine sbp #[.int .i64 0, .slice none 0 0, .int .i64 0, .slice none 0 0, .slice none 0 0, .slice none 0 0] 30 fun V2 b1 hb1 m2 bx1 => ?_
  have o0_1 := Xlo bx0 hb1
  clear hb1
  refine sv (.slice none 0 0) ?_
  refine nt (h1 _ _ (sk fun K2 h2 => sk fun K3 h3 => rl ?_)); clear h1 K1
  replace bx0 := Xbn bx0 m2
  refine sl6 bx0 ?_
  replace HB := Xhn (Xhn HB m1) m2
  refine sw_call (by rfl) (by first | rfl | (go_simp; done)) (specLinkOk_la true p _ _ _ _ V2 (lk_iff.2 hf) (ha0.out.below HB.out.below) hf.sm) ?_
  rintro e V3 ⟨rfl, hbl⟩
  have m3 : Mv (nob) V2 V3 := Mv.of_below hbl
  refine ⟨_, rfl, ?_⟩
  refine pt ?_
  clear hbl
  refine sg (.bool false) ?_
  refine sv (.bool false) ?_
  refine sv (.slice ad n cap) ?_
  refine sg (.int .i64 (n : Int)) ?_
  refine sg (.bool false) (h := by have hd : decide (200 < n) = false := (by simp; omega); have hd2 : decide ((200 : Int) < (n : Int)) = false := (by simp; omega); go_simp) ?_
  refine sg (.bool false) ?_
  refine nt (h3 _ _ (cf (wp_skip (then_normal (h2 _ _ (sk fun K4 h4 => rl ?_)))))); clear h3 K3; clear h2 K2
  replace bx0 := Xbn bx0 m3
  refine sl6 bx0 ?_
  replace bx1 := Xbn bx1 m3
  have szT := lt_of_block bx1.out
  replace HB := Xhn HB m3
  have szW := HB.out.size
  refine sw_call (by rfl) (by first | rfl | (go_simp; done)) (l8Copy_any p wv gv dv uv V3 (ha0.out.below HB.out.below) hf.sm) ?_
  rintro e V4 ⟨wv1, gv1, dv1, uv1, rfl, LQ, hbl⟩
  have m4 : Mv (nob) V3 V4 := Mv.of_below hbl
  refine ⟨_, rfl, ?_⟩
  refine pt ?_
  obtain ⟨x0a, x0c, rfl, _⟩ := LQ.wa.form
  obtain ⟨y0a, y0c, rfl, _⟩ := LQ.go.form
  obtain ⟨z0a, z0c, rfl, _⟩ := LQ.dn.form
  obtain ⟨t0a, t0c, rfl, _⟩ := LQ.up.form
  have LN := hide (LQ.lower szW)
  have ALN : Hid (∀ x, Lrb (.slice x0a p.nw x0c) (.slice y0a p.ng y0c) (.slice z0a p.nd z0c) (.slice t0a p.nu t0c) x → x ≠ b0 ∧ x ≠ b1) := hide (fun x h => by have := (LQ.lt x h).1; exact (by omega))
  clear LQ hbl szW szT
  replace bx1 := Xbn bx1 m4
  refine sbp #[.int .i64 0, .slice none 0 0, .int .i64 0, .slice none 0 0, .slice none 0 0, .slice none 0 0] 30 fun V5 b2 hb2 m5 bx2 => ?_
  have o1_2 := Xlo bx1 hb2
  replace ALN : Hid (∀ x, Lrb (.slice x0a p.nw x0c) (.slice y0a p.ng y0c) (.slice z0a p.nd z0c) (.slice t0a p.nu t0c) x → x ≠ b0 ∧ x ≠ b1 ∧ x ≠ b2) := hide (fun x h => by have h1 := ALN.out x h; have h2 := (LN.out.lt x h).2; exact (by omega))
  clear hb2
  refine ss6 (.int .i64 p.base) (.slice x0a p.nw x0c) (.int .i64 p.want) (.slice y0a p.ng y0c) (.slice z0a p.nd z0c) (.slice t0a p.nu t0c) bx2 fun V6 m6 bx2 => ?_
  refine nt (h4 _ _ (sk fun K5 h5 => rl ?_)); clear h4 K4
  refine sbs 0 #[] 2 fun V7 b3 hb3 m7 bx3 => ?_
  have o2_3 := Xlo bx2 hb3
  replace LN := Xqb (Xqn LN m5) m6 (fun x h => by have := ALN.out x h; omega)
  replace ALN : Hid (∀ x, Lrb (.slice x0a p.nw x0c) (.slice y0a p.ng y0c) (.slice z0a p.nd z0c) (.slice t0a p.nu t0c) x → x ≠ b0 ∧ x ≠ b1 ∧ x ≠ b2 ∧ x ≠ b3) := hide (fun x h => by have h1 := ALN.out x h; have h2 := (LN.out.lt x h).2; exact (by omega))
  clear hb3
  refine sv (.slice (some ⟨b3, 0, none⟩) 0 0) ?_
  refine nt (h5 _ _ (sk fun K6 h6 => sk fun K7 h7 => rl ?_)); clear h5 K5
  refine sv (.int .i64 0) ?_
  refine nt (h7 _ _ (wp_block ?_)); clear h7 K7
  have CF : Hid (Rg V7 w.heap.size (.slice (some ⟨b3, 0, none⟩) 0 0) 1 0 (iF (fun c => pcN s p c))) := hide (.inl ⟨⟨_, rfl⟩, rfl⟩)
  have AC : Hid (∀ x, rb (.slice (some ⟨b3, 0, none⟩) 0 0) = some x → ¬ Lrb (.slice x0a p.nw x0c) (.slice y0a p.ng y0c) (.slice z0a p.nd z0c) (.slice t0a p.nu t0c) x) := hide (fun x e => absurd e (by simp [rb]))
  have CB : Hid (∀ x, rb (.slice (some ⟨b3, 0, none⟩) 0 0) = some x → x ≠ b0 ∧ x ≠ b1 ∧ x ≠ b2 ∧ x ≠ b3) := hide (fun x e => absurd e (by simp [rb]))
  have QF : Hid (Lf p ∧ p = plN s 0 p) := hide ⟨hf, rfl⟩
  replace HB := Xhn (Xhb (Xhn (Xhn HB m4) m5) m6) m7; replace bx0 := Xbn (Xbb (Xbn (Xbn bx0 m4) m5) m6) m7; replace bx1 := Xbn (Xbb (Xbn bx1 m5) m6) m7; replace LN := Xqn LN m7; replace bx2 := Xbn bx2 m7
  refine wp_loop_ghost (fun m a' w' => ∃ (q : Lk) (j : Nat) (ca : Option Addr) (cc : Nat) (xa : Option Addr) (xc : Nat) (ya : Option Addr) (yc : Nat) (za : Option Addr) (zc : Nat) (ta : Option Addr) (tc : Nat) (u9 : Value) (u10 : Value) (u23 : Value) (u24 : Value) (u25 : Value) (u26 : Value) (u27 : Value) (u28 : Value) (u29 : Value) (u30 : Value) (u31 : Value) (u32 : Value) (u33 : Value) (u34 : Value) (u35 : Value) (u36 : Value) (u37 : Value) (u38 : Value) (u39 : Value) (u40 : Value) (u41 : Value) (u42 : Value), m = n - j + 1 ∧ a' = ⟨#[.agg #[.int .i64 p.base, wv, .int .i64 p.want, gv, dv, uv], .slice ad n cap, .pointer (some ⟨b0, 0, none⟩), undef, .pointer (some ⟨b1, 0, none⟩), .slice none 0 0, .pointer (some ⟨b2, 0, none⟩), .slice ca j cc, .int .i64 ((j : Int)), u9, u10, .agg #[.int .i64 p.base, wv, .int .i64 p.want, gv, dv, uv], .bool true, .bool false, .bool false, .slice ad n cap, .int .i64 (n : Int), .bool false, .bool false, undef, .agg #[.int .i64 p.base, wv, .int .i64 p.want, gv, dv, uv], .agg #[.int .i64 p.base, .slice x0a p.nw x0c, .int .i64 p.want, .slice y0a p.ng y0c, .slice z0a p.nd z0c, .slice t0a p.nu t0c], .slice (some ⟨b3, 0, none⟩) 0 0, u23, u24, u25, u26, u27, u28, u29, u30, u31, u32, u33, u34, u35, u36, u37, u38, u39, u40, u41, u42, undef, undef], []⟩ ∧ (Mv nob w w') ∧ (Lr w' w.heap.size (.slice xa q.nw xc) (.slice ya q.ng yc) (.slice za q.nd zc) (.slice ta q.nu tc) q) ∧ (∀ x, Lrb (.slice xa q.nw xc) (.slice ya q.ng yc) (.slice za q.nd zc) (.slice ta q.nu tc) x → x ≠ b0 ∧ x ≠ b1 ∧ x ≠ b2 ∧ x ≠ b3) ∧ (Rg w' w.heap.size (.slice ca j cc) 1 j (iF (fun c => pcN s p c))) ∧ (∀ x, rb (.slice ca j cc) = some x → ¬ Lrb (.slice xa q.nw xc) (.slice ya q.ng yc) (.slice za q.nd zc) (.slice ta q.nu tc) x) ∧ (∀ x, rb (.slice ca j cc) = some x → x ≠ b0 ∧ x ≠ b1 ∧ x ≠ b2 ∧ x ≠ b3) ∧ (Lf q ∧ q = plN s j p) ∧ (j ≤ n) ∧ (w'.heap[b0]? = some (.cells #[.int .i64 p.base, wv, .int .i64 p.want, gv, dv, uv] 30 (0, 0))) ∧ (w'.heap[b1]? = some (.cells #[.int .i64 0, .slice none 0 0, .int .i64 0, .slice none 0 0, .slice none 0 0, .slice none 0 0] 30 (0, 0))) ∧ (w'.heap[b2]? = some (.cells #[.int .i64 q.base, .slice xa q.nw xc, .int .i64 q.want, .slice ya q.ng yc, .slice za q.nd zc, .slice ta q.nu tc] 30 (0, 0))) ∧ (w'.heap[b3]? = some (.cells #[] 2 (0, 0)))) (n - 0 + 1) ⟨p, 0, some ⟨b3, 0, none⟩, 0, x0a, x0c, y0a, y0c, z0a, z0c, t0a, t0c, _, _, _, _, _, _, _, _, _, _, _, _, _, _, _, _, _, _, _, _, _, _, rfl, rfl, (HB.out), (LN.out), (ALN.out), (CF.out), (AC.out), (CB.out), (QF.out), (Nat.zero_le _), (bx0.out), (bx1.out), (bx2.out), (bx3.out)⟩ (fun m a' VL1 hI => ?_)
  obtain ⟨q, j, ca, cc, xa, xc, ya, yc, za, zc, ta, tc, u9, u10, u23, u24, u25, u26, u27, u28, u29, u30, u31, u32, u33, u34, u35, u36, u37, u38, u39, u40, u41, u42, rfl, rfl, i_HB, i_LN, i_ALN, i_CF, i_AC, i_CB, i_QF, i_NL, i_bx0, i_bx1, i_bx2, i_bx3⟩ := hI
  clear HB bx0 bx1 LN bx2 bx3 CF
  have HB := hide i_HB
  clear i_HB
  have LN := hide i_LN
  clear i_LN
  have ALN := hide i_ALN
  clear i_ALN
  have CF := hide i_CF
  clear i_CF
  have AC := hide i_AC
  clear i_AC
  have CB := hide i_CB
  clear i_CB
  have QF := hide i_QF
  clear i_QF
  have NL := hide i_NL
  clear i_NL
  have bx0 := hide i_bx0
  clear i_bx0
  have bx1 := hide i_bx1
  clear i_bx1
  have bx2 := hide i_bx2
  clear i_bx2
  have bx3 := hide i_bx3
  clear i_bx3
  refine sk fun K8 h8 => sk fun K9 h9 => rl ?_
  by_cases hlt : j < n
  · refine sv (.int .i64 ((j : Int))) ?_
    refine sv (.slice ad n cap) ?_
    refine sg (.int .i64 (n : Int)) ?_
    refine sg (.bool true) (h := by have hd : decide (j < n) = true := (by simp; omega); have hd2 : decide ((j : Int) < (n : Int)) = true := (by simp; omega); go_simp) ?_
    refine nt (h9 _ _ (ct (wp_skip (then_normal (h8 _ _ (sk fun K10 h10 => wp_block (sk fun K11 h11 => ?_))))))); clear h9 K9; clear h8 K8
    obtain ⟨lb, lo, rfl, hc⟩ := hs (by omega)
    have hdone := fun V wv gv dv uv (h : La V wv gv dv uv q) => l8Do_any q wv gv dv uv V h (s j).k (s j).z (s j).b (s j).d QF.out.1
    have QL : Hid (Lf (ldL q (s j).k (s j).z (s j).b (s j).d) ∧ ldL q (s j).k (s j).z (s j).b (s j).d = plN s (j + 1) p ∧ ldC q (s j).k (s j).z (s j).b (s j).d = pcN s p j) := hide ⟨ld_lf QF.out.1 _ _ _ _, by rw [QF.out.2]; rfl, by rw [QF.out.2]; rfl⟩
    generalize ldL q (s j).k (s j).z (s j).b (s j).d = L at hdone QL
    generalize ldC q (s j).k (s j).z (s j).b (s j).d = C at hdone QL
    have hC := QL.out.2.2
    subst hC
    refine wp_region_but (z := 999) (S := fun w' => Mv (fun x => False) VL1.drew w') (by kernel_rfl) (Mv.refl _ _) (fun hS => ?_)
    have m8 : Mv nob VL1 VL1.drew := Mv.drew _
    obtain ⟨V8, hN⟩ : ∃ V, VL1.drew = V := ⟨_, rfl⟩
    rw [hN] at hS m8 ⊢
    clear hN
    replace CF := hide (CF.out.mv m8 (fun _ _ h => h))
    replace bx2 := Xbn bx2 m8
    have rbx2 := bx2
    refine tk 0 (.agg #[.int .i64 q.base, .slice xa q.nw xc, .int .i64 q.want, .slice ya q.ng yc, .slice za q.nd zc, .slice ta q.nu tc]) rfl (fun w' hSw => by (try dsimp only at hSw); have z0 := cell_box 0 (hSw.box rbx2.out (fun h => h)) rfl; have z1 := cell_box 1 (hSw.box rbx2.out (fun h => h)) rfl; have z2 := cell_box 2 (hSw.box rbx2.out (fun h => h)) rfl; have z3 := cell_box 3 (hSw.box rbx2.out (fun h => h)) rfl; have z4 := cell_box 4 (hSw.box rbx2.out (fun h => h)) rfl; have z5 := cell_box 5 (hSw.box rbx2.out (fun h => h)) rfl; go_simp) ?_
    refine tk0 1 (.slice (some ⟨lb, lo, none⟩) n cap) rfl ?_
    refine tk0 2 (.int .i64 ((j : Int))) rfl ?_
    refine tk 3 (.pointer (some ⟨lb, lo + j * 4, none⟩)) rfl (fun w' hSw => by (try dsimp only at hSw); have h1 : (j : Int) < (n : Int) := (by omega); go_simp) ?_
    replace HB := Xhn HB m8
    refine tk 4 (.agg #[.int .i64 ((s j).k), .int .i64 ((s j).z), .int .i64 ((s j).b), .string (s j).d]) rfl (fun w' hSw => by (try dsimp only at hSw); have hk := (HB.out.step hSw (fun _ _ h => h)).below; have z0 := Below.keep hk _ _ (hc j hlt 0 (by decide)); have z1 := Below.keep hk _ _ (hc j hlt 1 (by decide)); have z2 := Below.keep hk _ _ (hc j hlt 2 (by decide)); have z3 := Below.keep hk _ _ (hc j hlt 3 (by decide)); simp only [aF, Nat.add_zero] at z0 z1 z2 z3; go_simp) ?_
    replace bx0 := Xbn bx0 m8; replace bx1 := Xbn bx1 m8; replace LN := Xqn LN m8; replace bx3 := Xbn bx3 m8
    have hJ1 : ∀ (V11 : World) (b4 : Nat) (x2a : Option Addr) (x2c : Nat) (y2a : Option Addr) (y2c : Nat) (z2a : Option Addr) (z2c : Nat) (t2a : Option Addr) (t2c : Nat), (Mv nob w V11) → (b3 < b4) → (V11.heap[b0]? = some (.cells #[.int .i64 p.base, wv, .int .i64 p.want, gv, dv, uv] 30 (0, 0))) → (V11.heap[b1]? = some (.cells #[.int .i64 0, .slice none 0 0, .int .i64 0, .slice none 0 0, .slice none 0 0, .slice none 0 0] 30 (0, 0))) → (V11.heap[b2]? = some (.cells #[.int .i64 q.base, .slice xa q.nw xc, .int .i64 q.want, .slice ya q.ng yc, .slice za q.nd zc, .slice ta q.nu tc] 30 (0, 0))) → (V11.heap[b3]? = some (.cells #[] 2 (0, 0))) → (V11.heap[b4]? = some (.cells #[.int .i64 L.base, .slice x2a L.nw x2c, .int .i64 L.want, .slice y2a L.ng y2c, .slice z2a L.nd z2c, .slice t2a L.nu t2c] 30 (0, 0))) → (Lr V11 w.heap.size (.slice x2a L.nw x2c) (.slice y2a L.ng y2c) (.slice z2a L.nd z2c) (.slice t2a L.nu t2c) L) → (∀ x, Lrb (.slice x2a L.nw x2c) (.slice y2a L.ng y2c) (.slice z2a L.nd z2c) (.slice t2a L.nu t2c) x → x ≠ b0 ∧ x ≠ b1 ∧ x ≠ b2 ∧ x ≠ b3 ∧ x ≠ b4) → (Rg V11 w.heap.size (.slice ca j cc) 1 j (iF (fun c => pcN s p c))) → (∀ x, rb (.slice ca j cc) = some x → ¬ Lrb (.slice x2a L.nw x2c) (.slice y2a L.ng y2c) (.slice z2a L.nd z2c) (.slice t2a L.nu t2c) x) → (∀ x, rb (.slice ca j cc) = some x → x ≠ b0 ∧ x ≠ b1 ∧ x ≠ b2 ∧ x ≠ b3 ∧ x ≠ b4) → K11 ⟨#[.agg #[.int .i64 p.base, wv, .int .i64 p.want, gv, dv, uv], .slice (some ⟨lb, lo, none⟩) n cap, .pointer (some ⟨b0, 0, none⟩), undef, .pointer (some ⟨b1, 0, none⟩), .slice none 0 0, .pointer (some ⟨b2, 0, none⟩), .slice ca j cc, .int .i64 ((j : Int)), .pointer (some ⟨b4, 0, none⟩), .int .i64 ((pcN s p j)), .agg #[.int .i64 p.base, wv, .int .i64 p.want, gv, dv, uv], .bool true, .bool false, .bool false, .slice (some ⟨lb, lo, none⟩) n cap, .int .i64 (n : Int), .bool false, .bool false, undef, .agg #[.int .i64 p.base, wv, .int .i64 p.want, gv, dv, uv], .agg #[.int .i64 p.base, .slice x0a p.nw x0c, .int .i64 p.want, .slice y0a p.ng y0c, .slice z0a p.nd z0c, .slice t0a p.nu t0c], .slice (some ⟨b3, 0, none⟩) 0 0, .int .i64 ((j : Int)), .slice (some ⟨lb, lo, none⟩) n cap, .int .i64 (n : Int), .bool true, u27, u28, .tuple #[.agg #[.int .i64 L.base, .slice x2a L.nw x2c, .int .i64 L.want, .slice y2a L.ng y2c, .slice z2a L.nd z2c, .slice t2a L.nu t2c], .int .i64 ((pcN s p j))], .agg #[.int .i64 q.base, .slice xa q.nw xc, .int .i64 q.want, .slice ya q.ng yc, .slice za q.nd zc, .slice ta q.nu tc], .slice (some ⟨lb, lo, none⟩) n cap, .int .i64 ((j : Int)), .pointer (some ⟨lb, lo + j * 4, none⟩), .agg #[.int .i64 ((s j).k), .int .i64 ((s j).z), .int .i64 ((s j).b), .string (s j).d], .tuple #[.agg #[.int .i64 L.base, .slice x2a L.nw x2c, .int .i64 L.want, .slice y2a L.ng y2c, .slice z2a L.nd z2c, .slice t2a L.nu t2c], .int .i64 ((pcN s p j))], .agg #[.int .i64 L.base, .slice x2a L.nw x2c, .int .i64 L.want, .slice y2a L.ng y2c, .slice z2a L.nd z2c, .slice t2a L.nu t2c], .int .i64 ((pcN s p j)), u38, u39, u40, u41, u42, undef, undef], []⟩ V11 := by
      intro V11 b4 x2a x2c y2a y2c z2a z2c t2a t2c HB o3_4 bx0 bx1 bx2 bx3 bx4 LN ALN CF AC CB
      replace HB := hide HB; replace bx0 := hide bx0; replace bx1 := hide bx1; replace bx2 := hide bx2; replace bx3 := hide bx3; replace bx4 := hide bx4; replace LN := hide LN; replace ALN := hide ALN; replace CF := hide CF; replace AC := hide AC; replace CB := hide CB
      refine h11 _ _ (sk fun K12 h12 => rl ?_); clear h11 K11
      refine sl6 bx4 ?_
      refine ss6 (.int .i64 L.base) (.slice x2a L.nw x2c) (.int .i64 L.want) (.slice y2a L.ng y2c) (.slice z2a L.nd z2c) (.slice t2a L.nu t2c) bx2 fun V12 m12 bx2 => ?_
      replace CF := hide (CF.out.mv m12 (fun x e h => by have h : x = b2 := h; have := CB.out x e; omega))
      refine nt (h12 _ _ (rl ?_)); clear h12 K12
      refine sv (.slice ca j cc) ?_
      refine sv (.int .i64 ((pcN s p j))) ?_
      replace bx4 := Xbb bx4 m12
      refine sbs 1 #[.int .i64 ((pcN s p j))] 2 fun V13 b5 hb5 m13 bx5 => ?_
      have o4_5 := Xlo bx4 hb5
      replace CB : Hid (∀ x, rb (.slice ca j cc) = some x → x ≠ b0 ∧ x ≠ b1 ∧ x ≠ b2 ∧ x ≠ b3 ∧ x ≠ b4 ∧ x ≠ b5) := hide (fun x h => by have h1 := CB.out x h; have h2 := (CF.out.lt x h).2; exact (by omega))
      replace LN := Xqb LN m12 (fun x h => by have := ALN.out x h; omega)
      replace ALN : Hid (∀ x, Lrb (.slice x2a L.nw x2c) (.slice y2a L.ng y2c) (.slice z2a L.nd z2c) (.slice t2a L.nu t2c) x → x ≠ b0 ∧ x ≠ b1 ∧ x ≠ b2 ∧ x ≠ b3 ∧ x ≠ b4 ∧ x ≠ b5) := hide (fun x h => by have h1 := ALN.out x h; have h2 := (LN.out.lt x h).2; exact (by omega))
      replace CF := hide (CF.out.mv m13 (fun _ _ h => h))
      clear hb5
      have szT := lt_of_block bx5.out
      replace HB := Xhn (Xhb HB m12) m13
      have szW := HB.out.size
      have hcb := fun x e => (CF.out.lt x e).1
      replace LN := Xqn LN m13
      have hlt := fun x h => (LN.out.lt x h).2
      obtain ⟨gx, ox, kx, V14, hrun, hgr, hrg, hbl, hold⟩ := add_int V13 w.heap.size (.slice ca j cc) j (fun c => pcN s p c) (pcN s p j) 45 ⟨b5, 0, none⟩ 1 (cell_box 0 bx5.out rfl) CF.out (by omega) szW
      have m14 : Mv (fun x => rb (.slice ca j cc) = some x) V13 V14 := Mv.of_grown hgr
      refine sw_valW (by rfl) (run_append_op _ _ 45 (by rfl) (by rfl) (by rfl) hrun) ?_
      refine pt ?_
      replace HB := hide (HB.out.step m14 (fun x hx e => by have := hcb x e; exfalso; omega))
      replace bx0 := Xbn (Xbb bx0 m12) m13
      replace bx0 := hide (m14.box bx0.out (fun h => by have := CB.out _ h; omega))
      replace bx1 := Xbn (Xbb bx1 m12) m13
      replace bx1 := hide (m14.box bx1.out (fun h => by have := CB.out _ h; omega))
      replace LN := hide (LN.out.mv m14 (fun g hg e => AC.out g e hg))
      replace bx2 := Xbn bx2 m13
      replace bx2 := hide (m14.box bx2.out (fun h => by have := CB.out _ h; omega))
      replace bx3 := Xbn (Xbb bx3 m12) m13
      replace bx3 := hide (m14.box bx3.out (fun h => by have := CB.out _ h; omega))
      replace bx4 := Xbn bx4 m13
      replace bx4 := hide (m14.box bx4.out (fun h => by have := CB.out _ h; omega))
      replace bx5 := hide (m14.box bx5.out (fun h => by have := CB.out _ h; omega))
      have CF := hide (hrg.congr (by decide) (fun c hc i hi => iF_snc (fun c => pcN s p c) j c i hc))
      clear hrun hgr hrg hold
      replace AC : Hid (∀ x, rb (.slice (some ⟨gx, ox, none⟩) (j + 1) kx) = some x → ¬ Lrb (.slice x2a L.nw x2c) (.slice y2a L.ng y2c) (.slice z2a L.nd z2c) (.slice t2a L.nu t2c) x) := hide (fun x e h => by have e2 : gx = x := rb_blk e; subst e2; exact hbl.elim (fun q => AC.out gx q h) (fun q => by have := hlt gx h; omega))
      replace CB : Hid (∀ x, rb (.slice (some ⟨gx, ox, none⟩) (j + 1) kx) = some x → x ≠ b0 ∧ x ≠ b1 ∧ x ≠ b2 ∧ x ≠ b3 ∧ x ≠ b4 ∧ x ≠ b5) := hide (fun x e => by have e2 : gx = x := rb_blk e; subst e2; exact hbl.elim (fun q => CB.out gx q) (fun q => by omega))
      clear hbl hlt szT szW hcb
      refine sv (.slice (some ⟨gx, ox, none⟩) (j + 1) kx) ?_
      refine wpList_nil (inb_norm (then_normal (h10 _ _ (rl ?_)))); clear h10 K10
      refine sv (.int .i64 ((j : Int))) ?_
      refine sg (.int .i64 (((j + 1 : Nat) : Int))) (h := by have hw : IntKind.i64.wrap ((j : Int) + 1) = ((j + 1 : Nat) : Int) := (by have := NL.out; rw [i64wrap (by omega)]; omega); go_simp) ?_
      refine sv (.int .i64 (((j + 1 : Nat) : Int))) ?_
      refine wpList_nil (then_normal ?_)
      have NL2 : j + 1 ≤ n := by omega
      exact ⟨(n - (j + 1) + 1), (by omega), L, (j + 1), (some ⟨gx, ox, none⟩), kx, x2a, x2c, y2a, y2c, z2a, z2c, t2a, t2c, _, _, _, _, _, _, _, _, _, _, _, _, _, _, _, _, _, _, _, _, _, _, rfl, rfl, (HB.out), (LN.out), (fun x h => by have := ALN.out x h; exact (by omega)), (CF.out), (AC.out), (fun x h => by have := CB.out x h; exact (by omega)), (⟨QL.out.1, QL.out.2.1⟩), (NL2), (bx0.out), (bx1.out), (bx2.out), (bx3.out)⟩
    refine kd_each (l := [5, 9]) (by kernel_rfl) rfl ⟨?_, ?_, trivial⟩
    · have szT := lt_of_block bx3.out
      have szW := HB.out.size
      have hct := fun x e => (CF.out.lt x e).2
      refine ⟨_, rfl, by rfl, .inr ⟨_, _, _, by first | rfl | (go_simp; done), hdone V8 _ _ _ _ LN.out.la, ?_⟩⟩
      rintro e V15 ⟨wv1, gv1, dv1, uv1, rfl, LQ, hbl⟩
      have m15 : Mv (nob) V8 V15 := Mv.of_below hbl
      replace hS := hS.step m15 (fun _ _ h => h.elim)
      refine ⟨_, rfl, fun _ => hS, ?_⟩
      refine ptk ?_
      replace CF := hide (CF.out.mv m15 (fun _ _ h => h))
      obtain ⟨x2a, x2c, rfl, _⟩ := LQ.wa.form
      obtain ⟨y2a, y2c, rfl, _⟩ := LQ.go.form
      obtain ⟨z2a, z2c, rfl, _⟩ := LQ.dn.form
      obtain ⟨t2a, t2c, rfl, _⟩ := LQ.up.form
      replace LN := hide (LQ.lower szW)
      replace ALN : Hid (∀ x, Lrb (.slice x2a L.nw x2c) (.slice y2a L.ng y2c) (.slice z2a L.nd z2c) (.slice t2a L.nu t2c) x → x ≠ b0 ∧ x ≠ b1 ∧ x ≠ b2 ∧ x ≠ b3) := hide (fun x h => by have := (LQ.lt x h).1; exact (by omega))
      replace AC : Hid (∀ x, rb (.slice ca j cc) = some x → ¬ Lrb (.slice x2a L.nw x2c) (.slice y2a L.ng y2c) (.slice z2a L.nd z2c) (.slice t2a L.nu t2c) x) := hide (fun x e h => by have := hct x e; have := (LQ.lt x h).1; omega)
      clear LQ hbl hdone szT szW hct
      refine tk0 6 (.tuple #[.agg #[.int .i64 L.base, .slice x2a L.nw x2c, .int .i64 L.want, .slice y2a L.ng y2c, .slice z2a L.nd z2c, .slice t2a L.nu t2c], .int .i64 ((pcN s p j))]) rfl ?_
      refine tk0 7 (.agg #[.int .i64 L.base, .slice x2a L.nw x2c, .int .i64 L.want, .slice y2a L.ng y2c, .slice z2a L.nd z2c, .slice t2a L.nu t2c]) rfl ?_
      refine tk0 8 (.int .i64 ((pcN s p j))) rfl ?_
      refine kd_valI (i := 9) (v := .pointer (some ⟨V15.heap.size, 0, none⟩)) (w' := V15.alloc (.cells #[.int .i64 0, .slice none 0 0, .int .i64 0, .slice none 0 0, .slice none 0 0, .slice none 0 0] 30)) (fun V => Mv nob V15 V ∧ V.heap[V15.heap.size]? = some (.cells #[.int .i64 0, .slice none 0 0, .int .i64 0, .slice none 0 0, .slice none 0 0, .slice none 0 0] 30 (0, 0))) (by kernel_rfl) rfl (by rfl) (by first | rfl | go_simp) ⟨Mv.alloc _ _, heap_alloc_new _ _⟩ (fun V hI _ => hS.step hI.1 (fun _ _ h => h.elim)) ?_
      rintro V16 ⟨m16, nx⟩
      refine ptk ?_
      obtain ⟨b4, hb4⟩ : ∃ b4, V15.heap.size = b4 := ⟨_, rfl⟩
      rw [hb4] at nx ⊢
      have or_4 := Mv.le hS hb4
      replace bx3 := Xbn bx3 m15
      have o3_4 := Xlo bx3 hb4
      replace CB : Hid (∀ x, rb (.slice ca j cc) = some x → x ≠ b0 ∧ x ≠ b1 ∧ x ≠ b2 ∧ x ≠ b3 ∧ x ≠ b4) := hide (fun x h => by have h1 := CB.out x h; have h2 := (CF.out.lt x h).2; exact (by omega))
      replace ALN : Hid (∀ x, Lrb (.slice x2a L.nw x2c) (.slice y2a L.ng y2c) (.slice z2a L.nd z2c) (.slice t2a L.nu t2c) x → x ≠ b0 ∧ x ≠ b1 ∧ x ≠ b2 ∧ x ≠ b3 ∧ x ≠ b4) := hide (fun x h => by have h1 := ALN.out x h; have h2 := (LN.out.lt x h).2; exact (by omega))
      replace CF := hide (CF.out.mv m16 (fun _ _ h => h))
      have bx4 := hide nx
      clear nx
      replace hS := hS.step m16 (fun _ _ h => h.elim)
      clear hb4
      refine kd_skipI (i := 10) (w' := (((((V16.setCell ⟨b4, 0, none⟩ (.int .i64 L.base)).setCell ⟨b4, 1, none⟩ (.slice x2a L.nw x2c)).setCell ⟨b4, 2, none⟩ (.int .i64 L.want)).setCell ⟨b4, 3, none⟩ (.slice y2a L.ng y2c)).setCell ⟨b4, 4, none⟩ (.slice z2a L.nd z2c)).setCell ⟨b4, 5, none⟩ (.slice t2a L.nu t2c)) (fun V => Mv (fun g => g = b4) V16 V ∧ V.heap[b4]? = some (.cells #[.int .i64 L.base, .slice x2a L.nw x2c, .int .i64 L.want, .slice y2a L.ng y2c, .slice z2a L.nd z2c, .slice t2a L.nu t2c] 30 (0, 0))) (by kernel_rfl) rfl (by rfl) (by have fr := fun i => frozen_of_row _ _ i _ _ bx4.out; have z0 := cell_box 0 bx4.out rfl; have z1 := cell_box 1 bx4.out rfl; have z2 := cell_box 2 bx4.out rfl; have z3 := cell_box 3 bx4.out rfl; have z4 := cell_box 4 bx4.out rfl; have z5 := cell_box 5 bx4.out rfl; go_simp) ⟨Mv.set (Mv.set (Mv.set (Mv.set (Mv.set (Mv.set (Mv.refl _ _) _ _) _ _) _ _) _ _) _ _) _ _, (heap_setCell_same _ _ 5 _ _ _ (heap_setCell_same _ _ 4 _ _ _ (heap_setCell_same _ _ 3 _ _ _ (heap_setCell_same _ _ 2 _ _ _ (heap_setCell_same _ _ 1 _ _ _ (heap_setCell_same _ _ 0 _ _ _ (bx4.out))))))).trans rfl⟩ (fun V hI _ => hS.step hI.1 (fun g hg h => by have h : g = b4 := h; exfalso; omega)) ?_
      rintro V17 ⟨m17, nxV17⟩
      refine ptk ?_
      replace CF := hide (CF.out.mv m17 (fun x e h => by have h : x = b4 := h; have := CB.out x e; omega))
      replace bx4 := hide nxV17
      clear nxV17
      replace hS := hS.step m17 (fun g hg h => by have h : g = b4 := h; exfalso; omega)
      refine tk0 11 (.int .i64 ((pcN s p j))) rfl ?_
      refine wpAnyK_done (by kernel_rfl) ?_
      clear hS rbx2
      replace HB := Xhb (Xhn (Xhn HB m15) m16) m17; replace bx0 := Xbb (Xbn (Xbn bx0 m15) m16) m17; replace bx1 := Xbb (Xbn (Xbn bx1 m15) m16) m17; replace bx2 := Xbb (Xbn (Xbn bx2 m15) m16) m17; replace LN := Xqb (Xqn LN m16) m17 (fun x h => by have := ALN.out x h; omega); replace bx3 := Xbb (Xbn bx3 m16) m17
      exact then_normal (hJ1 _ _ _ _ _ _ _ _ _ _ HB.out (by omega) bx0.out bx1.out bx2.out bx3.out bx4.out LN.out ALN.out CF.out AC.out CB.out)
    · refine ⟨_, rfl, by rfl, .inl ⟨.pointer (some ⟨V8.heap.size, 0, none⟩), V8.alloc (.cells #[.int .i64 0, .slice none 0 0, .int .i64 0, .slice none 0 0, .slice none 0 0, .slice none 0 0] 30), (by first | rfl | go_simp), fun _ => hS.step (Mv.alloc _ _) (fun _ _ h => h.elim), ?_⟩⟩
      have m18 : Mv nob V8 (V8.alloc (.cells #[.int .i64 0, .slice none 0 0, .int .i64 0, .slice none 0 0, .slice none 0 0, .slice none 0 0] 30)) := Mv.alloc _ _
      have nx := heap_alloc_new V8 (.cells #[.int .i64 0, .slice none 0 0, .int .i64 0, .slice none 0 0, .slice none 0 0, .slice none 0 0] 30)
      obtain ⟨V18, hN⟩ : ∃ V, V8.alloc (.cells #[.int .i64 0, .slice none 0 0, .int .i64 0, .slice none 0 0, .slice none 0 0, .slice none 0 0] 30) = V := ⟨_, rfl⟩
      rw [hN] at m18 nx ⊢
      clear hN
      refine ptk ?_
      obtain ⟨b4, hb4⟩ : ∃ b4, V8.heap.size = b4 := ⟨_, rfl⟩
      rw [hb4] at nx ⊢
      have or_4 := Mv.le hS hb4
      have o3_4 := Xlo bx3 hb4
      replace CB : Hid (∀ x, rb (.slice ca j cc) = some x → x ≠ b0 ∧ x ≠ b1 ∧ x ≠ b2 ∧ x ≠ b3 ∧ x ≠ b4) := hide (fun x h => by have h1 := CB.out x h; have h2 := (CF.out.lt x h).2; exact (by omega))
      replace ALN : Hid (∀ x, Lrb (.slice xa q.nw xc) (.slice ya q.ng yc) (.slice za q.nd zc) (.slice ta q.nu tc) x → x ≠ b0 ∧ x ≠ b1 ∧ x ≠ b2 ∧ x ≠ b3 ∧ x ≠ b4) := hide (fun x h => by have h1 := ALN.out x h; have h2 := (LN.out.lt x h).2; exact (by omega))
      replace CF := hide (CF.out.mv m18 (fun _ _ h => h))
      have bx4 := hide nx
      clear nx
      replace hS := hS.step m18 (fun _ _ h => h.elim)
      clear hb4
      have szT := lt_of_block bx4.out
      replace HB := Xhn HB m18
      have szW := HB.out.size
      have hct := fun x e => (CF.out.lt x e).2
      replace LN := Xqn LN m18
      refine kd_call (i := 5) (by kernel_rfl) rfl (by rfl) (by first | rfl | (go_simp; done)) (hdone V18 _ _ _ _ LN.out.la) ?_
      rintro e V19 ⟨wv1, gv1, dv1, uv1, rfl, LQ, hbl⟩
      have m19 : Mv (nob) V18 V19 := Mv.of_below hbl
      replace hS := hS.step m19 (fun _ _ h => h.elim)
      refine ⟨_, rfl, fun _ => hS, ?_⟩
      refine ptk ?_
      replace CF := hide (CF.out.mv m19 (fun _ _ h => h))
      obtain ⟨x2a, x2c, rfl, _⟩ := LQ.wa.form
      obtain ⟨y2a, y2c, rfl, _⟩ := LQ.go.form
      obtain ⟨z2a, z2c, rfl, _⟩ := LQ.dn.form
      obtain ⟨t2a, t2c, rfl, _⟩ := LQ.up.form
      replace LN := hide (LQ.lower szW)
      replace ALN : Hid (∀ x, Lrb (.slice x2a L.nw x2c) (.slice y2a L.ng y2c) (.slice z2a L.nd z2c) (.slice t2a L.nu t2c) x → x ≠ b0 ∧ x ≠ b1 ∧ x ≠ b2 ∧ x ≠ b3 ∧ x ≠ b4) := hide (fun x h => by have := (LQ.lt x h).1; exact (by omega))
      replace AC : Hid (∀ x, rb (.slice ca j cc) = some x → ¬ Lrb (.slice x2a L.nw x2c) (.slice y2a L.ng y2c) (.slice z2a L.nd z2c) (.slice t2a L.nu t2c) x) := hide (fun x e h => by have := hct x e; have := (LQ.lt x h).1; omega)
      clear LQ hbl hdone szT szW hct
      refine tk0 6 (.tuple #[.agg #[.int .i64 L.base, .slice x2a L.nw x2c, .int .i64 L.want, .slice y2a L.ng y2c, .slice z2a L.nd z2c, .slice t2a L.nu t2c], .int .i64 ((pcN s p j))]) rfl ?_
      refine tk0 7 (.agg #[.int .i64 L.base, .slice x2a L.nw x2c, .int .i64 L.want, .slice y2a L.ng y2c, .slice z2a L.nd z2c, .slice t2a L.nu t2c]) rfl ?_
      refine tk0 8 (.int .i64 ((pcN s p j))) rfl ?_
      replace bx4 := Xbn bx4 m19
      refine kd_skipI (i := 10) (w' := (((((V19.setCell ⟨b4, 0, none⟩ (.int .i64 L.base)).setCell ⟨b4, 1, none⟩ (.slice x2a L.nw x2c)).setCell ⟨b4, 2, none⟩ (.int .i64 L.want)).setCell ⟨b4, 3, none⟩ (.slice y2a L.ng y2c)).setCell ⟨b4, 4, none⟩ (.slice z2a L.nd z2c)).setCell ⟨b4, 5, none⟩ (.slice t2a L.nu t2c)) (fun V => Mv (fun g => g = b4) V19 V ∧ V.heap[b4]? = some (.cells #[.int .i64 L.base, .slice x2a L.nw x2c, .int .i64 L.want, .slice y2a L.ng y2c, .slice z2a L.nd z2c, .slice t2a L.nu t2c] 30 (0, 0))) (by kernel_rfl) rfl (by rfl) (by have fr := fun i => frozen_of_row _ _ i _ _ bx4.out; have z0 := cell_box 0 bx4.out rfl; have z1 := cell_box 1 bx4.out rfl; have z2 := cell_box 2 bx4.out rfl; have z3 := cell_box 3 bx4.out rfl; have z4 := cell_box 4 bx4.out rfl; have z5 := cell_box 5 bx4.out rfl; go_simp) ⟨Mv.set (Mv.set (Mv.set (Mv.set (Mv.set (Mv.set (Mv.refl _ _) _ _) _ _) _ _) _ _) _ _) _ _, (heap_setCell_same _ _ 5 _ _ _ (heap_setCell_same _ _ 4 _ _ _ (heap_setCell_same _ _ 3 _ _ _ (heap_setCell_same _ _ 2 _ _ _ (heap_setCell_same _ _ 1 _ _ _ (heap_setCell_same _ _ 0 _ _ _ (bx4.out))))))).trans rfl⟩ (fun V hI _ => hS.step hI.1 (fun g hg h => by have h : g = b4 := h; exfalso; omega)) ?_
      rintro V20 ⟨m20, nxV20⟩
      refine ptk ?_
      replace CF := hide (CF.out.mv m20 (fun x e h => by have h : x = b4 := h; have := CB.out x e; omega))
      replace bx4 := hide nxV20
      clear nxV20
      replace hS := hS.step m20 (fun g hg h => by have h : g = b4 := h; exfalso; omega)
      refine tk0 11 (.int .i64 ((pcN s p j))) rfl ?_
      refine wpAnyK_done (by kernel_rfl) ?_
      clear hS rbx2
      replace bx0 := Xbb (Xbn (Xbn bx0 m18) m19) m20; replace bx1 := Xbb (Xbn (Xbn bx1 m18) m19) m20; replace bx2 := Xbb (Xbn (Xbn bx2 m18) m19) m20; replace bx3 := Xbb (Xbn (Xbn bx3 m18) m19) m20; replace HB := Xhb (Xhn HB m19) m20; replace LN := Xqb LN m20 (fun x h => by have := ALN.out x h; omega)
      exact then_normal (hJ1 _ _ _ _ _ _ _ _ _ _ HB.out (by omega) bx0.out bx1.out bx2.out bx3.out bx4.out LN.out ALN.out CF.out AC.out CB.out)
  · refine sv (.int .i64 ((j : Int))) ?_
    refine sv (.slice ad n cap) ?_
    refine sg (.int .i64 (n : Int)) ?_
    refine sg (.bool false) (h := by have hd : decide (j < n) = false := (by simp; omega); have hd2 : decide ((j : Int) < (n : Int)) = false := (by simp; omega); go_simp) ?_
    refine nt (h9 _ _ (cf (wp_exit (then_exit (then_exit (inb_here rfl (then_normal (h6 _ _ (sk fun K13 h13 => rl ?_))))))))); clear h9 K9; clear h8 K8; clear h6 K6
    refine sl6 bx2 ?_
    refine sv (.slice ca j cc) ?_
    refine ss6 (.int .i64 q.base) (.slice xa q.nw xc) (.int .i64 q.want) (.slice ya q.ng yc) (.slice za q.nd zc) (.slice ta q.nu tc) bx1 fun V21 m21 bx1 => ?_
    replace CF := hide (CF.out.mv m21 (fun x e h => by have h : x = b1 := h; have := CB.out x e; omega))
    refine sv (.slice ca j cc) ?_
    refine nt (h13 _ _ (wp_ret ?_)); clear h13 K13
    have hj : j = n := by have := NL.out; omega
    subst hj
    have hq := QF.out.2
    subst hq
    replace HB := Xhb HB m21; replace bx0 := Xbb bx0 m21; replace LN := Xqb LN m21 (fun x h => by have := ALN.out x h; omega); replace bx2 := Xbb bx2 m21; replace bx3 := Xbb bx3 m21
    obtain ⟨_, q1_0, q1_1, q1_2, q1_3, q1_4, q1_5⟩ := box6 bx1.out
    exact bodyPost_ret (v := .tuple #[.agg #[.int .i64 (plN s j p).base, .slice xa (plN s j p).nw xc, .int .i64 (plN s j p).want, .slice ya (plN s j p).ng yc, .slice za (plN s j p).nd zc, .slice ta (plN s j p).nu tc], .slice ca j cc]) (by simp [results, Try.results19, go_sem, q1_0, q1_1, q1_2, q1_3, q1_4, q1_5]) rfl ⟨_, _, _, _, _, rfl, LN.out, CF.out, AC.out, HB.out.below⟩

set_option maxHeartbeats 8000000 in
set_option maxRecDepth 20000 in
theorem implPlay_no (p : Lk) (wv gv dv uv : Value) (w : World) (ha : La w wv gv dv uv p) (hsm : Lsm 1048576 p) (ad : Option Addr) (n cap : Nat) (hno : lkB p = false ∨ (lkB p = true ∧ 200 < n)) :
    Calls Try.prog 21 #[.agg (l6 p.base wv p.want gv dv uv), .slice ad n cap] w fun e w' => e = .returned (.tuple #[.agg (l6 0 (.slice none 0 0) 0 (.slice none 0 0) (.slice none 0 0) (.slice none 0 0)), .slice none 0 0]) ∧ Below w.heap.size w w' := by
  have ha0 := hide ha
  clear ha
  have HB : Hid (Mv nob w w) := hide (Mv.refl _ _)
  go_enter Try.func21, Try.ntmps21
  refine sk fun K1 h1 => rl ?_
  refine sbp #[.int .i64 p.base, wv, .int .i64 p.want, gv, dv, uv] 30 fun V1 b0 hb0 m1 bx0 => ?_
  have o_0 : w.heap.size ≤ b0 := by omega
  clear hb0
  refine sbp #[.int .i64 0, .slice none 0 0, .int .i64 0, .slice none 0 0, .slice none 0 0, .slice none 0 0] 30 fun V2 b1 hb1 m2 bx1 => ?_
  have o0_1 := Xlo bx0 hb1
  clear hb1
  refine sv (.slice none 0 0) ?_
  refine nt (h1 _ _ (sk fun K2 h2 => sk fun K3 h3 => rl ?_)); clear h1 K1
  rcases hno with hno | ⟨hyes, hn⟩
  · replace bx0 := Xbn bx0 m2
    refine sl6 bx0 ?_
    replace HB := Xhn (Xhn HB m1) m2
    refine sw_call (by rfl) (by first | rfl | (go_simp; done)) (implLinkOk_la false p _ _ _ _ V2 hno (ha0.out.below HB.out.below) hsm) ?_
    rintro e V3 ⟨rfl, hbl⟩
    have m3 : Mv (nob) V2 V3 := Mv.of_below hbl
    refine ⟨_, rfl, ?_⟩
    refine pt ?_
    clear hbl
    refine sg (.bool true) ?_
    refine sv (.bool true) ?_
    with_reducible refine sp ?_
    with_reducible refine sp ?_
    with_reducible refine sp ?_
    refine sg (.bool true) ?_
    refine nt (h3 _ _ (ct (sk fun K4 h4 => rl ?_))); clear h3 K3
    refine sv (.agg #[.int .i64 0, .slice none 0 0, .int .i64 0, .slice none 0 0, .slice none 0 0, .slice none 0 0]) ?_
    replace bx1 := Xbn bx1 m3
    refine ss6 (.int .i64 0) (.slice none 0 0) (.int .i64 0) (.slice none 0 0) (.slice none 0 0) (.slice none 0 0) bx1 fun V4 m4 bx1 => ?_
    refine sv (.slice none 0 0) ?_
    refine nt (h4 _ _ (wp_ret (then_ret ?_))); clear h4 K4; clear h2 K2
    replace HB := Xhb (Xhn HB m3) m4; replace bx0 := Xbb (Xbn bx0 m3) m4
    obtain ⟨_, q1_0, q1_1, q1_2, q1_3, q1_4, q1_5⟩ := box6 bx1.out
    exact bodyPost_ret (v := .tuple #[.agg #[.int .i64 0, .slice none 0 0, .int .i64 0, .slice none 0 0, .slice none 0 0, .slice none 0 0], .slice none 0 0]) (by simp [results, Try.results21, go_sem, q1_0, q1_1, q1_2, q1_3, q1_4, q1_5]) rfl ⟨rfl, HB.out.below⟩
  · replace bx0 := Xbn bx0 m2
    refine sl6 bx0 ?_
    replace HB := Xhn (Xhn HB m1) m2
    refine sw_call (by rfl) (by first | rfl | (go_simp; done)) (implLinkOk_la true p _ _ _ _ V2 hyes (ha0.out.below HB.out.below) hsm) ?_
    rintro e V5 ⟨rfl, hbl⟩
    have m5 : Mv (nob) V2 V5 := Mv.of_below hbl
    refine ⟨_, rfl, ?_⟩
    refine pt ?_
    clear hbl
    refine sg (.bool false) ?_
    refine sv (.bool false) ?_
    refine sv (.slice ad n cap) ?_
    refine sg (.int .i64 (n : Int)) ?_
    refine sg (.bool true) (h := by have hd : decide (200 < n) = true := (by simp; omega); have hd2 : decide ((200 : Int) < (n : Int)) = true := (by simp; omega); go_simp) ?_
    refine sg (.bool true) ?_
    refine nt (h3 _ _ (ct (sk fun K5 h5 => rl ?_))); clear h3 K3
    refine sv (.agg #[.int .i64 0, .slice none 0 0, .int .i64 0, .slice none 0 0, .slice none 0 0, .slice none 0 0]) ?_
    replace bx1 := Xbn bx1 m5
    refine ss6 (.int .i64 0) (.slice none 0 0) (.int .i64 0) (.slice none 0 0) (.slice none 0 0) (.slice none 0 0) bx1 fun V6 m6 bx1 => ?_
    refine sv (.slice none 0 0) ?_
    refine nt (h5 _ _ (wp_ret (then_ret ?_))); clear h5 K5; clear h2 K2
    replace HB := Xhb (Xhn HB m5) m6; replace bx0 := Xbb (Xbn bx0 m5) m6
    obtain ⟨_, q1_0, q1_1, q1_2, q1_3, q1_4, q1_5⟩ := box6 bx1.out
    exact bodyPost_ret (v := .tuple #[.agg #[.int .i64 0, .slice none 0 0, .int .i64 0, .slice none 0 0, .slice none 0 0, .slice none 0 0], .slice none 0 0]) (by simp [results, Try.results21, go_sem, q1_0, q1_1, q1_2, q1_3, q1_4, q1_5]) rfl ⟨rfl, HB.out.below⟩

set_option maxHeartbeats 8000000 in
set_option maxRecDepth 20000 in
theorem specPlay_no (p : Lk) (wv gv dv uv : Value) (w : World) (ha : La w wv gv dv uv p) (hsm : Lsm 1048576 p) (ad : Option Addr) (n cap : Nat) (hno : lkB p = false ∨ (lkB p = true ∧ 200 < n)) :
    Calls Try.prog 19 #[.agg (l6 p.base wv p.want gv dv uv), .slice ad n cap] w fun e w' => e = .returned (.tuple #[.agg (l6 0 (.slice none 0 0) 0 (.slice none 0 0) (.slice none 0 0) (.slice none 0 0)), .slice none 0 0]) ∧ Below w.heap.size w w' := by
  have ha0 := hide ha
  clear ha
  have HB : Hid (Mv nob w w) := hide (Mv.refl _ _)
  go_enter Try.func19, Try.ntmps19
  refine sk fun K1 h1 => rl ?_
  refine sbp #[.int .i64 p.base, wv, .int .i64 p.want, gv, dv, uv] 30 fun V1 b0 hb0 m1 bx0 => ?_
  have o_0 : w.heap.size ≤ b0 := by omega
  clear hb0
  refine sbp #[.int .i64 0, .slice none 0 0, .int .i64 0, .slice none 0 0, .slice none 0 0, .slice none 0 0] 30 fun V2 b1 hb1 m2 bx1 => ?_
  have o0_1 := Xlo bx0 hb1
  clear hb1
  refine sv (.slice none 0 0) ?_
  refine nt (h1 _ _ (sk fun K2 h2 => sk fun K3 h3 => rl ?_)); clear h1 K1
  rcases hno with hno | ⟨hyes, hn⟩
  · replace bx0 := Xbn bx0 m2
    refine sl6 bx0 ?_
    replace HB := Xhn (Xhn HB m1) m2
    refine sw_call (by rfl) (by first | rfl | (go_simp; done)) (specLinkOk_la false p _ _ _ _ V2 hno (ha0.out.below HB.out.below) hsm) ?_
    rintro e V3 ⟨rfl, hbl⟩
    have m3 : Mv (nob) V2 V3 := Mv.of_below hbl
    refine ⟨_, rfl, ?_⟩
    refine pt ?_
    clear hbl
    refine sg (.bool true) ?_
    refine sv (.bool true) ?_
    with_reducible refine sp ?_
    with_reducible refine sp ?_
    with_reducible refine sp ?_
    refine sg (.bool true) ?_
    refine nt (h3 _ _ (ct (sk fun K4 h4 => rl ?_))); clear h3 K3
    refine sv (.agg #[.int .i64 0, .slice none 0 0, .int .i64 0, .slice none 0 0, .slice none 0 0, .slice none 0 0]) ?_
    replace bx1 := Xbn bx1 m3
    refine ss6 (.int .i64 0) (.slice none 0 0) (.int .i64 0) (.slice none 0 0) (.slice none 0 0) (.slice none 0 0) bx1 fun V4 m4 bx1 => ?_
    refine sv (.slice none 0 0) ?_
    refine nt (h4 _ _ (wp_ret (then_ret ?_))); clear h4 K4; clear h2 K2
    replace HB := Xhb (Xhn HB m3) m4; replace bx0 := Xbb (Xbn bx0 m3) m4
    obtain ⟨_, q1_0, q1_1, q1_2, q1_3, q1_4, q1_5⟩ := box6 bx1.out
    exact bodyPost_ret (v := .tuple #[.agg #[.int .i64 0, .slice none 0 0, .int .i64 0, .slice none 0 0, .slice none 0 0, .slice none 0 0], .slice none 0 0]) (by simp [results, Try.results19, go_sem, q1_0, q1_1, q1_2, q1_3, q1_4, q1_5]) rfl ⟨rfl, HB.out.below⟩
  · replace bx0 := Xbn bx0 m2
    refine sl6 bx0 ?_
    replace HB := Xhn (Xhn HB m1) m2
    refine sw_call (by rfl) (by first | rfl | (go_simp; done)) (specLinkOk_la true p _ _ _ _ V2 hyes (ha0.out.below HB.out.below) hsm) ?_
    rintro e V5 ⟨rfl, hbl⟩
    have m5 : Mv (nob) V2 V5 := Mv.of_below hbl
    refine ⟨_, rfl, ?_⟩
    refine pt ?_
    clear hbl
    refine sg (.bool false) ?_
    refine sv (.bool false) ?_
    refine sv (.slice ad n cap) ?_
    refine sg (.int .i64 (n : Int)) ?_
    refine sg (.bool true) (h := by have hd : decide (200 < n) = true := (by simp; omega); have hd2 : decide ((200 : Int) < (n : Int)) = true := (by simp; omega); go_simp) ?_
    refine sg (.bool true) ?_
    refine nt (h3 _ _ (ct (sk fun K5 h5 => rl ?_))); clear h3 K3
    refine sv (.agg #[.int .i64 0, .slice none 0 0, .int .i64 0, .slice none 0 0, .slice none 0 0, .slice none 0 0]) ?_
    replace bx1 := Xbn bx1 m5
    refine ss6 (.int .i64 0) (.slice none 0 0) (.int .i64 0) (.slice none 0 0) (.slice none 0 0) (.slice none 0 0) bx1 fun V6 m6 bx1 => ?_
    refine sv (.slice none 0 0) ?_
    refine nt (h5 _ _ (wp_ret (then_ret ?_))); clear h5 K5; clear h2 K2
    replace HB := Xhb (Xhn HB m5) m6; replace bx0 := Xbb (Xbn bx0 m5) m6
    obtain ⟨_, q1_0, q1_1, q1_2, q1_3, q1_4, q1_5⟩ := box6 bx1.out
    exact bodyPost_ret (v := .tuple #[.agg #[.int .i64 0, .slice none 0 0, .int .i64 0, .slice none 0 0, .slice none 0 0, .slice none 0 0], .slice none 0 0]) (by simp [results, Try.results19, go_sem, q1_0, q1_1, q1_2, q1_3, q1_4, q1_5]) rfl ⟨rfl, HB.out.below⟩

end Go.Proofs.Ytnkocikbapbbmaa
