/- Proved: for every code, laws.FnLinkOrder returns true. No condition. -/
import Derived.Test.YtgflipkhhpkidaaRows
import Derived.Test.YtgflipkhhpkidaaYkOrder54
import Derived.WalkKit
import Derived.ProofKit
import Derived.OpenShut
import Derived.ShutString
import Derived.ChangeOld
import Derived.Below
import Derived.OpenVars
namespace Go.Proofs.Ytgflipkhhpkidaa.fnLinkOrder
open Go.ChangeShapes Go.WideShapes Go.ChangeAt Go.WideMaps Go.WideElems Go.RowKit
set_option linter.unusedVariables false
set_option linter.unusedSimpArgs false

theorem own : ownKnob Try.prog.godebug = none := by kernel_rfl
theorem laidOut : laidOutB Try.prog = true := by kernel_rfl

def IsRow (k : IntKind) (w : World) (a : Option Addr) (len cap : Nat) (zs : List Int) : Prop :=
  (a = none ∧ len = 0 ∧ cap = 0 ∧ zs = []) ∨
  ∃ x, a = some x ∧ len ≤ cap ∧ cap ≤ maxLen ∧ zs.length = cap ∧ (∀ i, i < zs.length → w.cell? (x.add i) = some (.int k (zs.getD i 0))) ∧ ∀ n ∈ zs, (Lit.int k n).wf = true

theorem row_bt {w : World} {a : Option Addr} {len cap : Nat} {z : List Int} (h : IsRow .u8 w a len cap z) : Bt w a len := by
  intro h0
  rcases h with ⟨rfl, rfl, rfl, rfl⟩ | ⟨x, rfl, hl, hm, hz, hcell, hwf⟩
  · exact absurd h0 (by simp)
  · obtain ⟨b, off, spot⟩ := x
    have hc := hcell 0 (by omega)
    have hspot : spot = none := by simpa [Addr.add] using World.cell?_spot hc
    subst hspot
    refine ⟨b, off, rfl, fun j hj => ?_⟩
    have hcj := hcell j (by omega)
    rw [addr_add] at hcj
    have hj' : j < z.length := by omega
    have e : z.getD j 0 = z[j] := by simp [hj']
    have hw := bounds_u8 (hwf z[j] (List.getElem_mem hj'))
    exact ⟨z.getD j 0, by rw [e]; exact hw.1, by rw [e]; exact hw.2, hcj⟩

set_option maxHeartbeats 16000000 in
set_option maxRecDepth 20000 in
theorem walk (a0 : Option Addr) (len0 cap0 : Nat) (w : World) (hs : Bt w a0 len0) :
    Calls Try.prog 4 #[.slice a0 len0 cap0] w fun e w' => e = .returned (.bool true) ∧ Below w.heap.size w w' := by
  by_cases hbig : (1048576 : Int) < (len0 : Int)
  · go_enter Try.func4, Try.ntmps4
    go_wp2
    go_ret
    exact ⟨rfl, Below.refl _ _⟩
  have hb : len0 ≤ 1048576 := by omega
  clear hbig
  have HB : Hid (Mv nob w w) := hide (Mv.refl _ _)
  have BT := hide hs
  clear hs
  go_enter Try.func4, Try.ntmps4
  refine sk fun K1 h1 => rl ?_
  refine sv (.bool false) ?_
  refine nt (h1 _ _ (sk fun K2 h2 => sk fun K3 h3 => rl ?_)); clear h1 K1
  refine sv (.slice a0 len0 cap0) ?_
  refine sw_call (by rfl) (by first | rfl | (go_simp; done)) (big_no a0 len0 cap0 w hb) ?_
  rintro e V1 ⟨rfl, hwV1⟩
  have m1 : Mv (nob) w V1 := hwV1 ▸ Mv.refl _ _
  refine ⟨_, rfl, ?_⟩
  refine pt ?_
  refine nt (h3 _ _ (cf (wp_skip (then_normal (h2 _ _ (sk fun K4 h4 => rl ?_)))))); clear h3 K3; clear h2 K2
  refine sv (.slice a0 len0 cap0) ?_
  replace HB := Xhn HB m1
  have szW := HB.out.size
  replace BT := Xtn BT m1
  refine sw_call (by rfl) (by first | rfl | (go_simp; done)) (drawPlay_any a0 len0 cap0 V1 BT.out hb) ?_
  rintro e V2 ⟨wv, gv, dv, uv, p, la, ln, lc, s, rfl, LQ, hsm, RQ, hm, hbl⟩
  have m2 : Mv (nob) V1 V2 := Mv.of_below hbl
  refine ⟨_, rfl, ?_⟩
  refine pt ?_
  obtain ⟨x0a, x0c, rfl, _⟩ := LQ.wa.form
  obtain ⟨y0a, y0c, rfl, _⟩ := LQ.go.form
  obtain ⟨z0a, z0c, rfl, _⟩ := LQ.dn.form
  obtain ⟨t0a, t0c, rfl, _⟩ := LQ.up.form
  have LF := hide (RQ.lower szW)
  have ALF : Hid (∀ x, rb (.slice la ln lc) = some x → True) := hide (fun x h => trivial)
  clear LQ RQ hbl szW
  refine sv (.tuple #[.agg #[.int .i64 p.base, .slice x0a p.nw x0c, .int .i64 p.want, .slice y0a p.ng y0c, .slice z0a p.nd z0c, .slice t0a p.nu t0c], .slice la ln lc]) ?_
  refine sv (.agg #[.int .i64 p.base, .slice x0a p.nw x0c, .int .i64 p.want, .slice y0a p.ng y0c, .slice z0a p.nd z0c, .slice t0a p.nu t0c]) ?_
  refine sv (.slice la ln lc) ?_
  refine sbp #[.int .i64 0, .slice none 0 0, .int .i64 0, .slice none 0 0, .slice none 0 0, .slice none 0 0] 27 fun V3 b0 hb0 m3 bx0 => ?_
  replace HB := Xhn HB m2
  have o_0 : w.heap.size ≤ b0 := Xhs HB hb0
  replace ALF : Hid (∀ x, rb (.slice la ln lc) = some x → x ≠ b0) := hide (fun x h => by have h1 := ALF.out x h; have h2 := (LF.out.lt x h).2; exact (by omega))
  clear hb0
  refine ss6 (.int .i64 p.base) (.slice x0a p.nw x0c) (.int .i64 p.want) (.slice y0a p.ng y0c) (.slice z0a p.nd z0c) (.slice t0a p.nu t0c) bx0 fun V4 m4 bx0 => ?_
  clear BT
  refine sv (.slice la ln lc) ?_
  refine nt (h4 _ _ (sk fun K5 h5 => rl ?_)); clear h4 K4
  refine sv (.agg #[.int .i64 0, .slice none 0 0, .int .i64 0, .slice none 0 0, .slice none 0 0, .slice none 0 0]) ?_
  refine sbp #[.int .i64 0, .slice none 0 0, .int .i64 0, .slice none 0 0, .slice none 0 0, .slice none 0 0] 27 fun V5 b1 hb1 m5 bx1 => ?_
  have o0_1 := Xlo bx0 hb1
  replace LF := Xgb (Xgn LF m3) m4 (fun x h => by have := ALF.out x h; omega)
  replace ALF : Hid (∀ x, rb (.slice la ln lc) = some x → x ≠ b0 ∧ x ≠ b1) := hide (fun x h => by have h1 := ALF.out x h; have h2 := (LF.out.lt x h).2; exact (by omega))
  clear hb1
  refine ss6 (.int .i64 0) (.slice none 0 0) (.int .i64 0) (.slice none 0 0) (.slice none 0 0) (.slice none 0 0) bx1 fun V6 m6 bx1 => ?_
  refine nt (h5 _ _ (sk fun K6 h6 => rl ?_)); clear h5 K5
  refine sbs 0 #[] 9 fun V7 b2 hb2 m7 bx2 => ?_
  have o1_2 := Xlo bx1 hb2
  replace LF := Xgb (Xgn LF m5) m6 (fun x h => by have := ALF.out x h; omega)
  replace ALF : Hid (∀ x, rb (.slice la ln lc) = some x → x ≠ b0 ∧ x ≠ b1 ∧ x ≠ b2) := hide (fun x h => by have h1 := ALF.out x h; have h2 := (LF.out.lt x h).2; exact (by omega))
  have hlf : ∀ x, rb (.slice la ln lc) = some x → x < b2 := fun x h => by have := (LF.out.lt x h).2; omega
  clear hb2
  refine sv (.slice (some ⟨b2, 0, none⟩) 0 0) ?_
  refine nt (h6 _ _ (sk fun K7 h7 => sk fun K8 h8 => rl ?_)); clear h6 K6
  refine sv (.int .i64 0) ?_
  refine nt (h8 _ _ (wp_block ?_)); clear h8 K8
  replace HB := Xhn (Xhb (Xhn (Xhb (Xhn HB m3) m4) m5) m6) m7; replace bx0 := Xbn (Xbb (Xbn bx0 m5) m6) m7; replace LF := Xgn LF m7; replace bx1 := Xbn bx1 m7
  have CF : Hid (Rg V7 w.heap.size (.slice (some ⟨b2, 0, none⟩) 0 0) 1 0 (tF (fun _ => ⟨#[]⟩))) := hide (.inl ⟨⟨_, rfl⟩, rfl⟩)
  have LL : Hid (Lr V7 w.heap.size (.slice none zeL.nw 0) (.slice none zeL.ng 0) (.slice none zeL.nd 0) (.slice none zeL.nu 0) zeL) := hide (zeL_lr _ _)
  have QF : Hid (Ov zeL 0 (fun _ => ⟨#[]⟩)) := hide ov_new
  refine wp_loop_ghost (fun m a' w' => ∃ (q : Lk) (j : Nat) (mo : Nat) (O : Nat → ByteArray) (ca : Option Addr) (cc : Nat) (xa : Option Addr) (xc : Nat) (ya : Option Addr) (yc : Nat) (za : Option Addr) (zc : Nat) (ta : Option Addr) (tc : Nat) (U : Nat → Value), m = ln - j + 1 ∧ a' = ⟨#[.slice a0 len0 cap0, undef, U 0, .pointer (some ⟨b0, 0, none⟩), .slice la ln lc, .pointer (some ⟨b1, 0, none⟩), .slice ca mo cc, .int .i64 ((j : Int)), U 1, U 2, U 3, U 4, .slice a0 len0 cap0, .bool false, .tuple #[.agg #[.int .i64 p.base, .slice x0a p.nw x0c, .int .i64 p.want, .slice y0a p.ng y0c, .slice z0a p.nd z0c, .slice t0a p.nu t0c], .slice la ln lc], .slice a0 len0 cap0, .tuple #[.agg #[.int .i64 p.base, .slice x0a p.nw x0c, .int .i64 p.want, .slice y0a p.ng y0c, .slice z0a p.nd z0c, .slice t0a p.nu t0c], .slice la ln lc], .agg #[.int .i64 p.base, .slice x0a p.nw x0c, .int .i64 p.want, .slice y0a p.ng y0c, .slice z0a p.nd z0c, .slice t0a p.nu t0c], .slice la ln lc, .agg #[.int .i64 0, .slice none 0 0, .int .i64 0, .slice none 0 0, .slice none 0 0, .slice none 0 0], .slice (some ⟨b2, 0, none⟩) 0 0, U 5, U 6, U 7, U 8, U 9, U 10, U 11, U 12, U 13, U 14, U 15, U 16, U 17, U 18, U 19, U 20, U 21, U 22, U 23, U 24, U 25, U 26, U 27, U 28, U 29, U 30, U 31, U 32, U 33, U 34, U 35, U 36, U 37, U 38, U 39, U 40, U 41, U 42, U 43, U 44, U 45, U 46, U 47, U 48, U 49, U 50, U 51, U 52, U 53, U 54, U 55, U 56, U 57, U 58, U 59, U 60, U 61, U 62, U 63, U 64, U 65, U 66, U 67, U 68, U 69, U 70, U 71, U 72, U 73, U 74, undef, undef], []⟩ ∧ (Mv nob w w') ∧ (Lr w' w.heap.size (.slice xa q.nw xc) (.slice ya q.ng yc) (.slice za q.nd zc) (.slice ta q.nu tc) q) ∧ (∀ x, Lrb (.slice xa q.nw xc) (.slice ya q.ng yc) (.slice za q.nd zc) (.slice ta q.nu tc) x → x ≠ b0 ∧ x ≠ b1 ∧ x ≠ b2) ∧ (Rg w' w.heap.size (.slice la ln lc) 4 ln (aF s)) ∧ (∀ x, rb (.slice la ln lc) = some x → x ≠ b0 ∧ x ≠ b1 ∧ x ≠ b2) ∧ (Rg w' w.heap.size (.slice ca mo cc) 1 mo (tF O)) ∧ (∀ x, rb (.slice ca mo cc) = some x → x ≠ b0 ∧ x ≠ b1 ∧ x ≠ b2) ∧ (∀ x, rb (.slice ca mo cc) = some x → b2 < x) ∧ (∀ x, rb (.slice ca mo cc) = some x → ¬ Lrb (.slice xa q.nw xc) (.slice ya q.ng yc) (.slice za q.nd zc) (.slice ta q.nu tc) x) ∧ (Ov q mo O) ∧ (j ≤ ln) ∧ (mo ≤ j) ∧ (w'.heap[b0]? = some (.cells #[.int .i64 p.base, .slice x0a p.nw x0c, .int .i64 p.want, .slice y0a p.ng y0c, .slice z0a p.nd z0c, .slice t0a p.nu t0c] 27 (0, 0))) ∧ (w'.heap[b1]? = some (.cells #[.int .i64 q.base, .slice xa q.nw xc, .int .i64 q.want, .slice ya q.ng yc, .slice za q.nd zc, .slice ta q.nu tc] 27 (0, 0))) ∧ (w'.heap[b2]? = some (.cells #[] 9 (0, 0)))) (ln - 0 + 1) ⟨zeL, 0, 0, (fun _ => ⟨#[]⟩), some ⟨b2, 0, none⟩, 0, none, 0, none, 0, none, 0, none, 0, fun i => [.bool false, undef, undef, undef, undef, undef, undef, undef, undef, undef, undef, undef, undef, undef, undef, undef, undef, undef, undef, undef, undef, undef, undef, undef, undef, undef, undef, undef, undef, undef, undef, undef, undef, undef, undef, undef, undef, undef, undef, undef, undef, undef, undef, undef, undef, undef, undef, undef, undef, undef, undef, undef, undef, undef, undef, undef, undef, undef, undef, undef, undef, undef, undef, undef, undef, undef, undef, undef, undef, undef, undef, undef, undef, undef, undef].getD i undef, rfl, rfl, (HB.out), (LL.out), ((fun x h => by rcases h with h | h | h | h <;> cases h)), (LF.out), (fun x h => by have := ALF.out x h; exact (by omega)), (CF.out), ((fun x e => absurd e (by simp [rb]))), ((fun x e => absurd e (by simp [rb]))), (fun x e h => absurd e (by simp [rb])), (QF.out), (Nat.zero_le _), (Nat.le_refl _), (bx0.out), (bx1.out), (bx2.out)⟩ (fun m a' VL1 hI => ?_)
  obtain ⟨q, j, mo, O, ca, cc, xa, xc, ya, yc, za, zc, ta, tc, U, rfl, rfl, i_HB, i_LL, i_ALL, i_LF, i_ALF, i_CF, i_CB, i_CG, i_ACLL, i_QF, i_NL, i_NM, i_bx0, i_bx1, i_bx2⟩ := hI
  clear HB LF bx0 bx1 bx2 CF LL
  have HB := hide i_HB; clear i_HB
  have LL := hide i_LL; clear i_LL
  have ALL := hide i_ALL; clear i_ALL
  have LF := hide i_LF; clear i_LF
  have ALF := hide i_ALF; clear i_ALF
  have CF := hide i_CF; clear i_CF
  have CB := hide i_CB; clear i_CB
  have CG := hide i_CG; clear i_CG
  have ACLL := hide i_ACLL; clear i_ACLL
  have QF := hide i_QF; clear i_QF
  have NL := hide i_NL; clear i_NL
  have NM := hide i_NM; clear i_NM
  have bx0 := hide i_bx0; clear i_bx0
  have bx1 := hide i_bx1; clear i_bx1
  have bx2 := hide i_bx2; clear i_bx2
  refine sk fun K9 h9 => sk fun K10 h10 => rl ?_
  by_cases hlt : j < ln
  · refine sv (.int .i64 ((j : Int))) ?_
    refine sv (.slice la ln lc) ?_
    refine sg (.int .i64 (ln : Int)) ?_
    refine sg (.bool true) (h := by have hd : decide (j < ln) = true := (by simp; omega); have hd2 : decide ((j : Int) < (ln : Int)) = true := (by simp; omega); go_simp) ?_
    refine nt (h10 _ _ (ct (wp_skip (then_normal (h9 _ _ (sk fun K11 h11 => wp_block (sk fun K12 h12 => ?_))))))); clear h10 K10; clear h9 K9
    obtain ⟨lb, lo, hla, _⟩ := (acts_cut LF.out ln (Nat.le_refl ln)).1.2 (by omega)
    have hI := fun V wv gv dv uv (h : La V wv gv dv uv q) => implLinkDo_any q wv gv dv uv V h QF.out.lf.sm (s j).k (s j).z (s j).b (s j).d
    have hT := fun V wv gv dv uv (h : La V wv gv dv uv q) => specLinkDo_any q wv gv dv uv V h QF.out.lf.sm (s j).k (s j).z (s j).b (s j).d
    have QL := do_ov QF.out (s j).k (s j).z (s j).b (s j).d
    generalize doL q (s j).k (s j).z (s j).b (s j).d = L at hI hT QL
    generalize doC q (s j).k (s j).z (s j).b (s j).d = C at hI hT QL
    replace QL := hide QL
    refine wp_region_but (z := 999) (S := fun w' => Mv (fun x => False) VL1.drew w') (by kernel_rfl) (Mv.refl _ _) (fun hS => ?_)
    have m8 : Mv nob VL1 VL1.drew := Mv.drew _
    obtain ⟨V8, hN⟩ : ∃ V, VL1.drew = V := ⟨_, rfl⟩
    rw [hN] at hS m8 ⊢
    clear hN
    replace CF := hide (CF.out.mv m8 (fun _ _ h => h))
    replace bx1 := Xbn bx1 m8
    have rbx1 := bx1
    refine tk 0 (.agg #[.int .i64 q.base, .slice xa q.nw xc, .int .i64 q.want, .slice ya q.ng yc, .slice za q.nd zc, .slice ta q.nu tc]) rfl (fun w' hSw => by (try dsimp only at hSw); have z0 := cell_box 0 (hSw.box rbx1.out (fun h => h)) rfl; have z1 := cell_box 1 (hSw.box rbx1.out (fun h => h)) rfl; have z2 := cell_box 2 (hSw.box rbx1.out (fun h => h)) rfl; have z3 := cell_box 3 (hSw.box rbx1.out (fun h => h)) rfl; have z4 := cell_box 4 (hSw.box rbx1.out (fun h => h)) rfl; have z5 := cell_box 5 (hSw.box rbx1.out (fun h => h)) rfl; go_simp) ?_
    refine tk0 1 (.slice la ln lc) rfl ?_
    refine tk0 2 (.int .i64 ((j : Int))) rfl ?_
    refine tk 3 (.pointer (some ⟨lb, lo + j * 4, none⟩)) rfl (fun w' hSw => by (try dsimp only at hSw); have h0 : la = some ⟨lb, lo, none⟩ := hla; have h1 : (j : Int) < (ln : Int) := (by omega); go_simp) ?_
    replace LF := Xgn LF m8
    refine tk 4 (.agg #[.int .i64 ((s j).k), .int .i64 ((s j).z), .int .i64 ((s j).b), .string (s j).d]) rfl (fun w' hSw => by (try dsimp only at hSw); have hk := LF.out.mv hSw (fun _ _ h => h); have z0 := act_cell hk hla j hlt 0 (by decide); have z1 := act_cell hk hla j hlt 1 (by decide); have z2 := act_cell hk hla j hlt 2 (by decide); have z3 := act_cell hk hla j hlt 3 (by decide); simp only [aF, Nat.add_zero] at z0 z1 z2 z3; go_simp) ?_
    replace HB := Xhn HB m8; replace bx0 := Xbn bx0 m8; replace bx2 := Xbn bx2 m8; replace LL := Xqn LL m8
    have hJ1 : ∀ (V11 : World) (b3 : Nat) (x2a : Option Addr) (x2c : Nat) (y2a : Option Addr) (y2c : Nat) (z2a : Option Addr) (z2c : Nat) (t2a : Option Addr) (t2c : Nat), (Mv nob w V11) → (b2 < b3) → (V11.heap[b0]? = some (.cells #[.int .i64 p.base, .slice x0a p.nw x0c, .int .i64 p.want, .slice y0a p.ng y0c, .slice z0a p.nd z0c, .slice t0a p.nu t0c] 27 (0, 0))) → (V11.heap[b1]? = some (.cells #[.int .i64 q.base, .slice xa q.nw xc, .int .i64 q.want, .slice ya q.ng yc, .slice za q.nd zc, .slice ta q.nu tc] 27 (0, 0))) → (V11.heap[b2]? = some (.cells #[] 9 (0, 0))) → (V11.heap[b3]? = some (.cells #[.int .i64 L.base, .slice x2a L.nw x2c, .int .i64 L.want, .slice y2a L.ng y2c, .slice z2a L.nd z2c, .slice t2a L.nu t2c] 27 (0, 0))) → (Lr V11 w.heap.size (.slice xa q.nw xc) (.slice ya q.ng yc) (.slice za q.nd zc) (.slice ta q.nu tc) q) → (∀ x, Lrb (.slice xa q.nw xc) (.slice ya q.ng yc) (.slice za q.nd zc) (.slice ta q.nu tc) x → x ≠ b0 ∧ x ≠ b1 ∧ x ≠ b2 ∧ x ≠ b3) → (Lr V11 w.heap.size (.slice x2a L.nw x2c) (.slice y2a L.ng y2c) (.slice z2a L.nd z2c) (.slice t2a L.nu t2c) L) → (∀ x, Lrb (.slice x2a L.nw x2c) (.slice y2a L.ng y2c) (.slice z2a L.nd z2c) (.slice t2a L.nu t2c) x → x ≠ b0 ∧ x ≠ b1 ∧ x ≠ b2 ∧ x ≠ b3) → (Rg V11 w.heap.size (.slice la ln lc) 4 ln (aF s)) → (∀ x, rb (.slice la ln lc) = some x → x ≠ b0 ∧ x ≠ b1 ∧ x ≠ b2 ∧ x ≠ b3) → (Rg V11 w.heap.size (.slice ca mo cc) 1 mo (tF O)) → (∀ x, rb (.slice ca mo cc) = some x → x ≠ b0 ∧ x ≠ b1 ∧ x ≠ b2 ∧ x ≠ b3) → (∀ x, rb (.slice ca mo cc) = some x → b2 < x) → (∀ x, rb (.slice ca mo cc) = some x → ¬ Lrb (.slice xa q.nw xc) (.slice ya q.ng yc) (.slice za q.nd zc) (.slice ta q.nu tc) x) → (∀ x, rb (.slice ca mo cc) = some x → ¬ Lrb (.slice x2a L.nw x2c) (.slice y2a L.ng y2c) (.slice z2a L.nd z2c) (.slice t2a L.nu t2c) x) → K12 ⟨#[.slice a0 len0 cap0, undef, U 0, .pointer (some ⟨b0, 0, none⟩), .slice la ln lc, .pointer (some ⟨b1, 0, none⟩), .slice ca mo cc, .int .i64 ((j : Int)), .pointer (some ⟨b3, 0, none⟩), .int .i64 C, U 3, U 4, .slice a0 len0 cap0, .bool false, .tuple #[.agg #[.int .i64 p.base, .slice x0a p.nw x0c, .int .i64 p.want, .slice y0a p.ng y0c, .slice z0a p.nd z0c, .slice t0a p.nu t0c], .slice la ln lc], .slice a0 len0 cap0, .tuple #[.agg #[.int .i64 p.base, .slice x0a p.nw x0c, .int .i64 p.want, .slice y0a p.ng y0c, .slice z0a p.nd z0c, .slice t0a p.nu t0c], .slice la ln lc], .agg #[.int .i64 p.base, .slice x0a p.nw x0c, .int .i64 p.want, .slice y0a p.ng y0c, .slice z0a p.nd z0c, .slice t0a p.nu t0c], .slice la ln lc, .agg #[.int .i64 0, .slice none 0 0, .int .i64 0, .slice none 0 0, .slice none 0 0, .slice none 0 0], .slice (some ⟨b2, 0, none⟩) 0 0, .int .i64 ((j : Int)), .slice la ln lc, .int .i64 (ln : Int), .bool true, U 9, U 10, .tuple #[.agg #[.int .i64 L.base, .slice x2a L.nw x2c, .int .i64 L.want, .slice y2a L.ng y2c, .slice z2a L.nd z2c, .slice t2a L.nu t2c], .int .i64 C], .agg #[.int .i64 q.base, .slice xa q.nw xc, .int .i64 q.want, .slice ya q.ng yc, .slice za q.nd zc, .slice ta q.nu tc], .slice la ln lc, .int .i64 ((j : Int)), .pointer (some ⟨lb, lo + j * 4, none⟩), .agg #[.int .i64 ((s j).k), .int .i64 ((s j).z), .int .i64 ((s j).b), .string (s j).d], .tuple #[.agg #[.int .i64 L.base, .slice x2a L.nw x2c, .int .i64 L.want, .slice y2a L.ng y2c, .slice z2a L.nd z2c, .slice t2a L.nu t2c], .int .i64 C], .agg #[.int .i64 L.base, .slice x2a L.nw x2c, .int .i64 L.want, .slice y2a L.ng y2c, .slice z2a L.nd z2c, .slice t2a L.nu t2c], .int .i64 C, U 20, U 21, U 22, U 23, U 24, U 25, U 26, U 27, U 28, U 29, U 30, U 31, U 32, U 33, U 34, U 35, U 36, U 37, U 38, U 39, U 40, U 41, U 42, U 43, U 44, U 45, U 46, U 47, U 48, U 49, U 50, U 51, U 52, U 53, U 54, U 55, U 56, U 57, U 58, U 59, U 60, U 61, U 62, U 63, U 64, U 65, U 66, U 67, U 68, U 69, U 70, U 71, U 72, U 73, U 74, undef, undef], []⟩ V11 := by
      intro V11 b3 x2a x2c y2a y2c z2a z2c t2a t2c HB o2_3 bx0 bx1 bx2 bx3 LL ALL LI ALI LF ALF CF CB CG ACLL ACLI
      replace HB := hide HB; replace bx0 := hide bx0; replace bx1 := hide bx1; replace bx2 := hide bx2; replace bx3 := hide bx3; replace LL := hide LL; replace ALL := hide ALL; replace LI := hide LI; replace ALI := hide ALI; replace LF := hide LF; replace ALF := hide ALF; replace CF := hide CF; replace CB := hide CB; replace CG := hide CG; replace ACLL := hide ACLL; replace ACLI := hide ACLI
      refine h12 _ _ (sk fun K13 h13 => ?_); clear h12 K12
      refine wp_region_but (z := 999) (S := fun w' => Mv (fun x => False) V11.drew w') (by kernel_rfl) (Mv.refl _ _) (fun hS => ?_)
      have m12 : Mv nob V11 V11.drew := Mv.drew _
      obtain ⟨V12, hN⟩ : ∃ V, V11.drew = V := ⟨_, rfl⟩
      rw [hN] at hS m12 ⊢
      clear hN
      replace CF := hide (CF.out.mv m12 (fun _ _ h => h))
      replace bx1 := Xbn bx1 m12
      have rbx1 := bx1
      refine tk 0 (.agg #[.int .i64 q.base, .slice xa q.nw xc, .int .i64 q.want, .slice ya q.ng yc, .slice za q.nd zc, .slice ta q.nu tc]) rfl (fun w' hSw => by (try dsimp only at hSw); have z0 := cell_box 0 (hSw.box rbx1.out (fun h => h)) rfl; have z1 := cell_box 1 (hSw.box rbx1.out (fun h => h)) rfl; have z2 := cell_box 2 (hSw.box rbx1.out (fun h => h)) rfl; have z3 := cell_box 3 (hSw.box rbx1.out (fun h => h)) rfl; have z4 := cell_box 4 (hSw.box rbx1.out (fun h => h)) rfl; have z5 := cell_box 5 (hSw.box rbx1.out (fun h => h)) rfl; go_simp) ?_
      refine tk0 1 (.slice la ln lc) rfl ?_
      refine tk0 2 (.int .i64 ((j : Int))) rfl ?_
      refine tk 3 (.pointer (some ⟨lb, lo + j * 4, none⟩)) rfl (fun w' hSw => by (try dsimp only at hSw); have h0 : la = some ⟨lb, lo, none⟩ := hla; have h1 : (j : Int) < (ln : Int) := (by omega); go_simp) ?_
      replace LF := Xgn LF m12
      refine tk 4 (.agg #[.int .i64 ((s j).k), .int .i64 ((s j).z), .int .i64 ((s j).b), .string (s j).d]) rfl (fun w' hSw => by (try dsimp only at hSw); have hk := LF.out.mv hSw (fun _ _ h => h); have z0 := act_cell hk hla j hlt 0 (by decide); have z1 := act_cell hk hla j hlt 1 (by decide); have z2 := act_cell hk hla j hlt 2 (by decide); have z3 := act_cell hk hla j hlt 3 (by decide); simp only [aF, Nat.add_zero] at z0 z1 z2 z3; go_simp) ?_
      replace HB := Xhn HB m12; replace bx0 := Xbn bx0 m12; replace bx2 := Xbn bx2 m12; replace LL := Xqn LL m12; replace LI := Xqn LI m12; replace bx3 := Xbn bx3 m12
      have hJ2 : ∀ (V15 : World) (b4 : Nat) (x3a : Option Addr) (x3c : Nat) (y3a : Option Addr) (y3c : Nat) (z3a : Option Addr) (z3c : Nat) (t3a : Option Addr) (t3c : Nat), (Mv nob w V15) → (b3 < b4) → (V15.heap[b0]? = some (.cells #[.int .i64 p.base, .slice x0a p.nw x0c, .int .i64 p.want, .slice y0a p.ng y0c, .slice z0a p.nd z0c, .slice t0a p.nu t0c] 27 (0, 0))) → (V15.heap[b1]? = some (.cells #[.int .i64 q.base, .slice xa q.nw xc, .int .i64 q.want, .slice ya q.ng yc, .slice za q.nd zc, .slice ta q.nu tc] 27 (0, 0))) → (V15.heap[b2]? = some (.cells #[] 9 (0, 0))) → (V15.heap[b3]? = some (.cells #[.int .i64 L.base, .slice x2a L.nw x2c, .int .i64 L.want, .slice y2a L.ng y2c, .slice z2a L.nd z2c, .slice t2a L.nu t2c] 27 (0, 0))) → (V15.heap[b4]? = some (.cells #[.int .i64 L.base, .slice x3a L.nw x3c, .int .i64 L.want, .slice y3a L.ng y3c, .slice z3a L.nd z3c, .slice t3a L.nu t3c] 27 (0, 0))) → (Lr V15 w.heap.size (.slice xa q.nw xc) (.slice ya q.ng yc) (.slice za q.nd zc) (.slice ta q.nu tc) q) → (∀ x, Lrb (.slice xa q.nw xc) (.slice ya q.ng yc) (.slice za q.nd zc) (.slice ta q.nu tc) x → x ≠ b0 ∧ x ≠ b1 ∧ x ≠ b2 ∧ x ≠ b3 ∧ x ≠ b4) → (Lr V15 w.heap.size (.slice x2a L.nw x2c) (.slice y2a L.ng y2c) (.slice z2a L.nd z2c) (.slice t2a L.nu t2c) L) → (∀ x, Lrb (.slice x2a L.nw x2c) (.slice y2a L.ng y2c) (.slice z2a L.nd z2c) (.slice t2a L.nu t2c) x → x ≠ b0 ∧ x ≠ b1 ∧ x ≠ b2 ∧ x ≠ b3 ∧ x ≠ b4) → (Lr V15 w.heap.size (.slice x3a L.nw x3c) (.slice y3a L.ng y3c) (.slice z3a L.nd z3c) (.slice t3a L.nu t3c) L) → (∀ x, Lrb (.slice x3a L.nw x3c) (.slice y3a L.ng y3c) (.slice z3a L.nd z3c) (.slice t3a L.nu t3c) x → x ≠ b0 ∧ x ≠ b1 ∧ x ≠ b2 ∧ x ≠ b3 ∧ x ≠ b4) → (Rg V15 w.heap.size (.slice la ln lc) 4 ln (aF s)) → (∀ x, rb (.slice la ln lc) = some x → x ≠ b0 ∧ x ≠ b1 ∧ x ≠ b2 ∧ x ≠ b3 ∧ x ≠ b4) → (Rg V15 w.heap.size (.slice ca mo cc) 1 mo (tF O)) → (∀ x, rb (.slice ca mo cc) = some x → x ≠ b0 ∧ x ≠ b1 ∧ x ≠ b2 ∧ x ≠ b3 ∧ x ≠ b4) → (∀ x, rb (.slice ca mo cc) = some x → b2 < x) → (∀ x, rb (.slice ca mo cc) = some x → ¬ Lrb (.slice xa q.nw xc) (.slice ya q.ng yc) (.slice za q.nd zc) (.slice ta q.nu tc) x) → (∀ x, rb (.slice ca mo cc) = some x → ¬ Lrb (.slice x2a L.nw x2c) (.slice y2a L.ng y2c) (.slice z2a L.nd z2c) (.slice t2a L.nu t2c) x) → (∀ x, rb (.slice ca mo cc) = some x → ¬ Lrb (.slice x3a L.nw x3c) (.slice y3a L.ng y3c) (.slice z3a L.nd z3c) (.slice t3a L.nu t3c) x) → K13 ⟨#[.slice a0 len0 cap0, undef, U 0, .pointer (some ⟨b0, 0, none⟩), .slice la ln lc, .pointer (some ⟨b1, 0, none⟩), .slice ca mo cc, .int .i64 ((j : Int)), .pointer (some ⟨b3, 0, none⟩), .int .i64 C, .pointer (some ⟨b4, 0, none⟩), .int .i64 C, .slice a0 len0 cap0, .bool false, .tuple #[.agg #[.int .i64 p.base, .slice x0a p.nw x0c, .int .i64 p.want, .slice y0a p.ng y0c, .slice z0a p.nd z0c, .slice t0a p.nu t0c], .slice la ln lc], .slice a0 len0 cap0, .tuple #[.agg #[.int .i64 p.base, .slice x0a p.nw x0c, .int .i64 p.want, .slice y0a p.ng y0c, .slice z0a p.nd z0c, .slice t0a p.nu t0c], .slice la ln lc], .agg #[.int .i64 p.base, .slice x0a p.nw x0c, .int .i64 p.want, .slice y0a p.ng y0c, .slice z0a p.nd z0c, .slice t0a p.nu t0c], .slice la ln lc, .agg #[.int .i64 0, .slice none 0 0, .int .i64 0, .slice none 0 0, .slice none 0 0, .slice none 0 0], .slice (some ⟨b2, 0, none⟩) 0 0, .int .i64 ((j : Int)), .slice la ln lc, .int .i64 (ln : Int), .bool true, U 9, U 10, .tuple #[.agg #[.int .i64 L.base, .slice x2a L.nw x2c, .int .i64 L.want, .slice y2a L.ng y2c, .slice z2a L.nd z2c, .slice t2a L.nu t2c], .int .i64 C], .agg #[.int .i64 q.base, .slice xa q.nw xc, .int .i64 q.want, .slice ya q.ng yc, .slice za q.nd zc, .slice ta q.nu tc], .slice la ln lc, .int .i64 ((j : Int)), .pointer (some ⟨lb, lo + j * 4, none⟩), .agg #[.int .i64 ((s j).k), .int .i64 ((s j).z), .int .i64 ((s j).b), .string (s j).d], .tuple #[.agg #[.int .i64 L.base, .slice x2a L.nw x2c, .int .i64 L.want, .slice y2a L.ng y2c, .slice z2a L.nd z2c, .slice t2a L.nu t2c], .int .i64 C], .agg #[.int .i64 L.base, .slice x2a L.nw x2c, .int .i64 L.want, .slice y2a L.ng y2c, .slice z2a L.nd z2c, .slice t2a L.nu t2c], .int .i64 C, .tuple #[.agg #[.int .i64 L.base, .slice x3a L.nw x3c, .int .i64 L.want, .slice y3a L.ng y3c, .slice z3a L.nd z3c, .slice t3a L.nu t3c], .int .i64 C], .agg #[.int .i64 q.base, .slice xa q.nw xc, .int .i64 q.want, .slice ya q.ng yc, .slice za q.nd zc, .slice ta q.nu tc], .slice la ln lc, .int .i64 ((j : Int)), .pointer (some ⟨lb, lo + j * 4, none⟩), .agg #[.int .i64 ((s j).k), .int .i64 ((s j).z), .int .i64 ((s j).b), .string (s j).d], .tuple #[.agg #[.int .i64 L.base, .slice x3a L.nw x3c, .int .i64 L.want, .slice y3a L.ng y3c, .slice z3a L.nd z3c, .slice t3a L.nu t3c], .int .i64 C], .agg #[.int .i64 L.base, .slice x3a L.nw x3c, .int .i64 L.want, .slice y3a L.ng y3c, .slice z3a L.nd z3c, .slice t3a L.nu t3c], .int .i64 C, U 29, U 30, U 31, U 32, U 33, U 34, U 35, U 36, U 37, U 38, U 39, U 40, U 41, U 42, U 43, U 44, U 45, U 46, U 47, U 48, U 49, U 50, U 51, U 52, U 53, U 54, U 55, U 56, U 57, U 58, U 59, U 60, U 61, U 62, U 63, U 64, U 65, U 66, U 67, U 68, U 69, U 70, U 71, U 72, U 73, U 74, undef, undef], []⟩ V15 := by
        intro V15 b4 x3a x3c y3a y3c z3a z3c t3a t3c HB o3_4 bx0 bx1 bx2 bx3 bx4 LL ALL LI ALI LT ALT LF ALF CF CB CG ACLL ACLI ACLT
        replace HB := hide HB; replace bx0 := hide bx0; replace bx1 := hide bx1; replace bx2 := hide bx2; replace bx3 := hide bx3; replace bx4 := hide bx4; replace LL := hide LL; replace ALL := hide ALL; replace LI := hide LI; replace ALI := hide ALI; replace LT := hide LT; replace ALT := hide ALT; replace LF := hide LF; replace ALF := hide ALF; replace CF := hide CF; replace CB := hide CB; replace CG := hide CG; replace ACLL := hide ACLL; replace ACLI := hide ACLI; replace ACLT := hide ACLT
        refine h13 _ _ (sk fun K14 h14 => sk fun K15 h15 => rl ?_); clear h13 K13
        refine sv (.int .i64 C) ?_
        refine sv (.int .i64 C) ?_
        refine sg (.bool false) ?_
        refine nt (h15 _ _ (cf (wp_skip (then_normal (h14 _ _ (sk fun K16 h16 => sk fun K17 h17 => rl ?_)))))); clear h15 K15; clear h14 K14
        have hJ3 : ∀ (V17 : World) (ca2 : Option Addr) (cc2 : Nat) (mo2 : Nat) (O2 : Nat → ByteArray) (u48 : Value) (u49 : Value) (u50 : Value) (u51 : Value) (u52 : Value) (u53 : Value) (u54 : Value) (u55 : Value) (u56 : Value) (u57 : Value) (u58 : Value) (u59 : Value) (u60 : Value) (u61 : Value) (u62 : Value) (u63 : Value) (u64 : Value) (u65 : Value), (Mv nob w V17) → (V17.heap[b0]? = some (.cells #[.int .i64 p.base, .slice x0a p.nw x0c, .int .i64 p.want, .slice y0a p.ng y0c, .slice z0a p.nd z0c, .slice t0a p.nu t0c] 27 (0, 0))) → (V17.heap[b1]? = some (.cells #[.int .i64 q.base, .slice xa q.nw xc, .int .i64 q.want, .slice ya q.ng yc, .slice za q.nd zc, .slice ta q.nu tc] 27 (0, 0))) → (V17.heap[b2]? = some (.cells #[] 9 (0, 0))) → (V17.heap[b3]? = some (.cells #[.int .i64 L.base, .slice x2a L.nw x2c, .int .i64 L.want, .slice y2a L.ng y2c, .slice z2a L.nd z2c, .slice t2a L.nu t2c] 27 (0, 0))) → (V17.heap[b4]? = some (.cells #[.int .i64 L.base, .slice x3a L.nw x3c, .int .i64 L.want, .slice y3a L.ng y3c, .slice z3a L.nd z3c, .slice t3a L.nu t3c] 27 (0, 0))) → (Lr V17 w.heap.size (.slice xa q.nw xc) (.slice ya q.ng yc) (.slice za q.nd zc) (.slice ta q.nu tc) q) → (∀ x, Lrb (.slice xa q.nw xc) (.slice ya q.ng yc) (.slice za q.nd zc) (.slice ta q.nu tc) x → x ≠ b0 ∧ x ≠ b1 ∧ x ≠ b2 ∧ x ≠ b3 ∧ x ≠ b4) → (Lr V17 w.heap.size (.slice x2a L.nw x2c) (.slice y2a L.ng y2c) (.slice z2a L.nd z2c) (.slice t2a L.nu t2c) L) → (∀ x, Lrb (.slice x2a L.nw x2c) (.slice y2a L.ng y2c) (.slice z2a L.nd z2c) (.slice t2a L.nu t2c) x → x ≠ b0 ∧ x ≠ b1 ∧ x ≠ b2 ∧ x ≠ b3 ∧ x ≠ b4) → (Rg V17 w.heap.size (.slice la ln lc) 4 ln (aF s)) → (∀ x, rb (.slice la ln lc) = some x → x ≠ b0 ∧ x ≠ b1 ∧ x ≠ b2 ∧ x ≠ b3 ∧ x ≠ b4) → (Rg V17 w.heap.size (.slice ca2 mo2 cc2) 1 mo2 (tF O2)) → (∀ x, rb (.slice ca2 mo2 cc2) = some x → x ≠ b0 ∧ x ≠ b1 ∧ x ≠ b2 ∧ x ≠ b3 ∧ x ≠ b4) → (∀ x, rb (.slice ca2 mo2 cc2) = some x → b2 < x) → (∀ x, rb (.slice ca2 mo2 cc2) = some x → ¬ Lrb (.slice xa q.nw xc) (.slice ya q.ng yc) (.slice za q.nd zc) (.slice ta q.nu tc) x) → (∀ x, rb (.slice ca2 mo2 cc2) = some x → ¬ Lrb (.slice x2a L.nw x2c) (.slice y2a L.ng y2c) (.slice z2a L.nd z2c) (.slice t2a L.nu t2c) x) → (Ov L mo2 O2) → (mo2 ≤ j + 1) → K16 ⟨#[.slice a0 len0 cap0, undef, U 0, .pointer (some ⟨b0, 0, none⟩), .slice la ln lc, .pointer (some ⟨b1, 0, none⟩), .slice ca2 mo2 cc2, .int .i64 ((j : Int)), .pointer (some ⟨b3, 0, none⟩), .int .i64 C, .pointer (some ⟨b4, 0, none⟩), .int .i64 C, .slice a0 len0 cap0, .bool false, .tuple #[.agg #[.int .i64 p.base, .slice x0a p.nw x0c, .int .i64 p.want, .slice y0a p.ng y0c, .slice z0a p.nd z0c, .slice t0a p.nu t0c], .slice la ln lc], .slice a0 len0 cap0, .tuple #[.agg #[.int .i64 p.base, .slice x0a p.nw x0c, .int .i64 p.want, .slice y0a p.ng y0c, .slice z0a p.nd z0c, .slice t0a p.nu t0c], .slice la ln lc], .agg #[.int .i64 p.base, .slice x0a p.nw x0c, .int .i64 p.want, .slice y0a p.ng y0c, .slice z0a p.nd z0c, .slice t0a p.nu t0c], .slice la ln lc, .agg #[.int .i64 0, .slice none 0 0, .int .i64 0, .slice none 0 0, .slice none 0 0, .slice none 0 0], .slice (some ⟨b2, 0, none⟩) 0 0, .int .i64 ((j : Int)), .slice la ln lc, .int .i64 (ln : Int), .bool true, U 9, U 10, .tuple #[.agg #[.int .i64 L.base, .slice x2a L.nw x2c, .int .i64 L.want, .slice y2a L.ng y2c, .slice z2a L.nd z2c, .slice t2a L.nu t2c], .int .i64 C], .agg #[.int .i64 q.base, .slice xa q.nw xc, .int .i64 q.want, .slice ya q.ng yc, .slice za q.nd zc, .slice ta q.nu tc], .slice la ln lc, .int .i64 ((j : Int)), .pointer (some ⟨lb, lo + j * 4, none⟩), .agg #[.int .i64 ((s j).k), .int .i64 ((s j).z), .int .i64 ((s j).b), .string (s j).d], .tuple #[.agg #[.int .i64 L.base, .slice x2a L.nw x2c, .int .i64 L.want, .slice y2a L.ng y2c, .slice z2a L.nd z2c, .slice t2a L.nu t2c], .int .i64 C], .agg #[.int .i64 L.base, .slice x2a L.nw x2c, .int .i64 L.want, .slice y2a L.ng y2c, .slice z2a L.nd z2c, .slice t2a L.nu t2c], .int .i64 C, .tuple #[.agg #[.int .i64 L.base, .slice x3a L.nw x3c, .int .i64 L.want, .slice y3a L.ng y3c, .slice z3a L.nd z3c, .slice t3a L.nu t3c], .int .i64 C], .agg #[.int .i64 q.base, .slice xa q.nw xc, .int .i64 q.want, .slice ya q.ng yc, .slice za q.nd zc, .slice ta q.nu tc], .slice la ln lc, .int .i64 ((j : Int)), .pointer (some ⟨lb, lo + j * 4, none⟩), .agg #[.int .i64 ((s j).k), .int .i64 ((s j).z), .int .i64 ((s j).b), .string (s j).d], .tuple #[.agg #[.int .i64 L.base, .slice x3a L.nw x3c, .int .i64 L.want, .slice y3a L.ng y3c, .slice z3a L.nd z3c, .slice t3a L.nu t3c], .int .i64 C], .agg #[.int .i64 L.base, .slice x3a L.nw x3c, .int .i64 L.want, .slice y3a L.ng y3c, .slice z3a L.nd z3c, .slice t3a L.nu t3c], .int .i64 C, .int .i64 C, .int .i64 C, .bool false, u48, u49, u50, u51, u52, u53, u54, u55, u56, u57, u58, u59, u60, u61, u62, u63, u64, u65, U 50, U 51, U 52, U 53, U 54, U 55, U 56, U 57, U 58, U 59, U 60, U 61, U 62, U 63, U 64, U 65, U 66, U 67, U 68, U 69, U 70, U 71, U 72, U 73, U 74, undef, undef], []⟩ V17 := by
          intro V17 ca2 cc2 mo2 O2 u48 u49 u50 u51 u52 u53 u54 u55 u56 u57 u58 u59 u60 u61 u62 u63 u64 u65 HB bx0 bx1 bx2 bx3 bx4 LL ALL LI ALI LF ALF CF CB CG ACLL ACLI QL2 NM2
          replace HB := hide HB; replace bx0 := hide bx0; replace bx1 := hide bx1; replace bx2 := hide bx2; replace bx3 := hide bx3; replace bx4 := hide bx4; replace LL := hide LL; replace ALL := hide ALL; replace LI := hide LI; replace ALI := hide ALI; replace LF := hide LF; replace ALF := hide ALF; replace CF := hide CF; replace CB := hide CB; replace CG := hide CG; replace ACLL := hide ACLL; replace ACLI := hide ACLI
          refine h16 _ _ (sk fun K18 h18 => rl ?_); clear h17 K17; clear h16 K16
          refine sl6 bx3 ?_
          refine ss6 (.int .i64 L.base) (.slice x2a L.nw x2c) (.int .i64 L.want) (.slice y2a L.ng y2c) (.slice z2a L.nd z2c) (.slice t2a L.nu t2c) bx1 fun V18 m18 bx1 => ?_
          replace CF := hide (CF.out.mv m18 (fun x e h => by have h : x = b1 := h; have := CB.out x e; omega))
          refine nt (h18 _ _ (sk fun K19 h19 => ?_)); clear h18 K18
          replace HB := Xhb HB m18; replace LF := Xgb LF m18 (fun x h => by have := ALF.out x h; omega); replace bx0 := Xbb bx0 m18; replace bx2 := Xbb bx2 m18; replace LL := Xqb LL m18 (fun x h => by have := ALL.out x h; omega); replace LI := Xqb LI m18 (fun x h => by have := ALI.out x h; omega); replace bx3 := Xbb bx3 m18
          replace bx4 := Xbb bx4 m18
          have hle := QL2.le
          obtain ⟨hsl, _⟩ := head_texts CF.out L.ng hle.1
          have hw8 := QL2.lf.w8; have hkg := QL2.lf.kg; have hb1 := QL2.lf.b1; have hk1 := QL2.lf.k1
          refine wp_region_but (z := 999) (S := fun w' => Mv (fun x => False) V18.drew w') (by kernel_rfl) (Mv.refl _ _) (fun hS => ?_)
          have m19 : Mv nob V18 V18.drew := Mv.drew _
          obtain ⟨V19, hN⟩ : ∃ V, V18.drew = V := ⟨_, rfl⟩
          rw [hN] at hS m19 ⊢
          clear hN
          replace CF := hide (CF.out.mv m19 (fun _ _ h => h))
          replace bx1 := Xbn bx1 m19
          have rbx1 := bx1
          refine tk0 0 (.pointer (some ⟨b1, 3, none⟩)) rfl ?_
          refine tk 1 (.slice y2a L.ng y2c) rfl (fun w' hSw => by (try dsimp only at hSw); have z0 := cell_box 3 (hSw.box rbx1.out (fun h => h)) rfl; go_simp) ?_
          refine tk0 2 (.int .i64 ((L.ng : Int))) rfl ?_
          refine tk0 3 (.slice ca2 mo2 cc2) rfl ?_
          refine tk0 4 (.int .i64 ((mo2 : Int))) rfl ?_
          refine tk 5 (.bool false) rfl (fun w' hSw => by (try dsimp only at hSw); have h := hle.1; have hd : decide (mo2 < L.ng) = false := (by simp; omega); have hd2 : decide ((mo2 : Int) < (L.ng : Int)) = false := (by simp; omega); go_simp) ?_
          refine tk0 6 (.bool false) rfl ?_
          refine tk0 7 (.pointer (some ⟨b1, 3, none⟩)) rfl ?_
          refine tk 8 (.slice y2a L.ng y2c) rfl (fun w' hSw => by (try dsimp only at hSw); have z0 := cell_box 3 (hSw.box rbx1.out (fun h => h)) rfl; go_simp) ?_
          refine tk0 9 (.slice ca2 mo2 cc2) rfl ?_
          refine tk0 10 (.pointer (some ⟨b1, 3, none⟩)) rfl ?_
          refine tk 11 (.slice y2a L.ng y2c) rfl (fun w' hSw => by (try dsimp only at hSw); have z0 := cell_box 3 (hSw.box rbx1.out (fun h => h)) rfl; go_simp) ?_
          refine tk0 12 (.int .i64 ((L.ng : Int))) rfl ?_
          refine tk 13 (.slice ca2 L.ng cc2) rfl (fun w' hSw => by (try dsimp only at hSw); have h := hsl; go_simp) ?_
          replace LI := Xqn LI m19
          refine kd_call (i := 14) (by kernel_rfl) rfl (by rfl) (by first | rfl | (go_simp; done)) (sameTexts_same _ (.slice ca2 L.ng cc2) L.ng L.gs V19 LI.out.lv.go ((head_texts CF.out L.ng hle.1).2.congr (fun i hi k _ => by show Value.string (O2 i) = Value.string (L.gs i); rw [QL2.gs i hi])) (by omega)) ?_
          rintro e V20 ⟨rfl, hbl⟩
          have m20 : Mv (nob) V19 V20 := Mv.of_below hbl
          replace hS := hS.step m20 (fun _ _ h => h.elim)
          refine ⟨_, rfl, fun _ => hS, ?_⟩
          refine ptk ?_
          replace CF := hide (CF.out.mv m20 (fun _ _ h => h))
          clear hbl
          refine tk0 15 (.bool false) rfl ?_
          refine tk0 16 (.bool false) rfl ?_
          refine tk0 17 (.bool false) rfl ?_
          refine tk0 18 (.pointer (some ⟨b1, 0, none⟩)) rfl ?_
          refine tk 19 (.int .i64 L.base) rfl (fun w' hSw => by (try dsimp only at hSw); have z0 := cell_box 0 (hSw.box rbx1.out (fun h => h)) rfl; go_simp) ?_
          refine tk0 20 (.pointer (some ⟨b1, 2, none⟩)) rfl ?_
          refine tk 21 (.int .i64 L.want) rfl (fun w' hSw => by (try dsimp only at hSw); have z0 := cell_box 2 (hSw.box rbx1.out (fun h => h)) rfl; go_simp) ?_
          refine tk 22 (.bool false) rfl (fun w' hSw => by (try dsimp only at hSw); have h := hle.2; have h9 : L.base ≤ (L.ng : Int) := (by omega); have hd : decide (L.want < L.base) = false := (by simp; omega); go_simp) ?_
          refine tk0 23 (.bool false) rfl ?_
          refine wpAnyK_done (by kernel_rfl) ?_
          clear hS rbx1
          refine then_normal (h19 _ _ (cf (wp_skip (inb_norm (then_normal (h11 _ _ (rl ?_))))))); clear h19 K19; clear h11 K11
          clear hsl hw8 hkg hb1 hk1 hle
          refine sv (.int .i64 ((j : Int))) ?_
          refine sg (.int .i64 (((j + 1 : Nat) : Int))) (h := by have hw : IntKind.i64.wrap ((j : Int) + 1) = ((j + 1 : Nat) : Int) := (by have := NL.out; rw [i64wrap (by omega)]; omega); go_simp) ?_
          refine sv (.int .i64 (((j + 1 : Nat) : Int))) ?_
          refine wpList_nil (then_normal ?_)
          replace HB := Xhn (Xhn HB m19) m20; replace LF := Xgn (Xgn LF m19) m20; replace bx0 := Xbn (Xbn bx0 m19) m20; replace bx2 := Xbn (Xbn bx2 m19) m20; replace LL := Xqn (Xqn LL m19) m20; replace bx3 := Xbn (Xbn bx3 m19) m20; replace bx4 := Xbn (Xbn bx4 m19) m20; replace bx1 := Xbn bx1 m20; replace LI := Xqn LI m20
          exact ⟨(ln - (j + 1) + 1), (by omega), L, (j + 1), mo2, O2, ca2, cc2, x2a, x2c, y2a, y2c, z2a, z2c, t2a, t2c, fun i => [U 0, .pointer (some ⟨b3, 0, none⟩), .int .i64 C, .pointer (some ⟨b4, 0, none⟩), .int .i64 C, .int .i64 ((j : Int)), .slice la ln lc, .int .i64 (ln : Int), .bool true, .int .i64 ((j : Int)), .int .i64 (((j + 1 : Nat) : Int)), .tuple #[.agg #[.int .i64 L.base, .slice x2a L.nw x2c, .int .i64 L.want, .slice y2a L.ng y2c, .slice z2a L.nd z2c, .slice t2a L.nu t2c], .int .i64 C], .agg #[.int .i64 q.base, .slice xa q.nw xc, .int .i64 q.want, .slice ya q.ng yc, .slice za q.nd zc, .slice ta q.nu tc], .slice la ln lc, .int .i64 ((j : Int)), .pointer (some ⟨lb, lo + j * 4, none⟩), .agg #[.int .i64 ((s j).k), .int .i64 ((s j).z), .int .i64 ((s j).b), .string (s j).d], .tuple #[.agg #[.int .i64 L.base, .slice x2a L.nw x2c, .int .i64 L.want, .slice y2a L.ng y2c, .slice z2a L.nd z2c, .slice t2a L.nu t2c], .int .i64 C], .agg #[.int .i64 L.base, .slice x2a L.nw x2c, .int .i64 L.want, .slice y2a L.ng y2c, .slice z2a L.nd z2c, .slice t2a L.nu t2c], .int .i64 C, .tuple #[.agg #[.int .i64 L.base, .slice x3a L.nw x3c, .int .i64 L.want, .slice y3a L.ng y3c, .slice z3a L.nd z3c, .slice t3a L.nu t3c], .int .i64 C], .agg #[.int .i64 q.base, .slice xa q.nw xc, .int .i64 q.want, .slice ya q.ng yc, .slice za q.nd zc, .slice ta q.nu tc], .slice la ln lc, .int .i64 ((j : Int)), .pointer (some ⟨lb, lo + j * 4, none⟩), .agg #[.int .i64 ((s j).k), .int .i64 ((s j).z), .int .i64 ((s j).b), .string (s j).d], .tuple #[.agg #[.int .i64 L.base, .slice x3a L.nw x3c, .int .i64 L.want, .slice y3a L.ng y3c, .slice z3a L.nd z3c, .slice t3a L.nu t3c], .int .i64 C], .agg #[.int .i64 L.base, .slice x3a L.nw x3c, .int .i64 L.want, .slice y3a L.ng y3c, .slice z3a L.nd z3c, .slice t3a L.nu t3c], .int .i64 C, .int .i64 C, .int .i64 C, .bool false, u48, u49, u50, u51, u52, u53, u54, u55, u56, u57, u58, u59, u60, u61, u62, u63, u64, u65, .agg #[.int .i64 L.base, .slice x2a L.nw x2c, .int .i64 L.want, .slice y2a L.ng y2c, .slice z2a L.nd z2c, .slice t2a L.nu t2c], .pointer (some ⟨b1, 3, none⟩), .slice y2a L.ng y2c, .int .i64 ((L.ng : Int)), .slice ca2 mo2 cc2, .int .i64 ((mo2 : Int)), .bool false, .bool false, .pointer (some ⟨b1, 3, none⟩), .slice y2a L.ng y2c, .slice ca2 mo2 cc2, .pointer (some ⟨b1, 3, none⟩), .slice y2a L.ng y2c, .int .i64 ((L.ng : Int)), .slice ca2 L.ng cc2, .bool true, .bool false, .bool false, .bool false, .pointer (some ⟨b1, 0, none⟩), .int .i64 L.base, .pointer (some ⟨b1, 2, none⟩), .int .i64 L.want, .bool false, .bool false].getD i undef, rfl, rfl, (HB.out), (LI.out), (fun x h => by have := ALI.out x h; exact (by omega)), (LF.out), (fun x h => by have := ALF.out x h; exact (by omega)), (CF.out), (fun x h => by have := CB.out x h; exact (by omega)), (CG.out), (ACLI.out), (QL2), ((by have := NL.out; omega)), (NM2), (bx0.out), (bx1.out), (bx2.out)⟩
        rcases (show ((s j).k = 1 ∧ C = 0) ∨ ((s j).k = 1 ∧ ¬ C = 0) ∨ ¬ (s j).k = 1 by omega) with hkc | ⟨hk1, hkc⟩ | hk1
        · have hQ := QL.out
          rw [if_pos hkc] at hQ
          refine sv (.slice la ln lc) ?_
          refine sv (.int .i64 ((j : Int))) ?_
          refine sg (.pointer (some ⟨lb, lo + j * 4, none⟩)) (h := by have h0 : la = some ⟨lb, lo, none⟩ := hla; have h1 : (j : Int) < (ln : Int) := (by omega); go_simp) ?_
          refine sv (.pointer (some ⟨lb, lo + j * 4, none⟩)) ?_
          refine sg (.int .i64 ((s j).k)) (h := by have z0 := act_cell LF.out hla j hlt 0 (by decide); simp only [aF, Nat.add_zero] at z0; go_simp) ?_
          refine sg (.bool true) (h := by have h := hkc.1; go_simp) ?_
          refine sv (.bool true) ?_
          refine sv (.int .i64 C) ?_
          refine sg (.bool true) (h := by have h := hkc.2; go_simp) ?_
          refine sg (.bool true) ?_
          refine nt (h17 _ _ (ct (rl ?_))); clear h17 K17
          refine sv (.slice ca mo cc) ?_
          refine sv (.slice la ln lc) ?_
          refine sv (.int .i64 ((j : Int))) ?_
          refine sg (.pointer (some ⟨lb, lo + j * 4, none⟩)) (h := by have h0 : la = some ⟨lb, lo, none⟩ := hla; have h1 : (j : Int) < (ln : Int) := (by omega); go_simp) ?_
          refine sv (.pointer (some ⟨lb, lo + j * 4 + 3, none⟩)) ?_
          refine sg (.string (s j).d) (h := by have z0 := act_cell LF.out hla j hlt 3 (by decide); simp only [aF] at z0; go_simp) ?_
          refine sbs 1 #[.string (s j).d] 9 fun V21 b5 hb5 m21 bx5 => ?_
          have o4_5 := Xlo bx4 hb5
          replace CB : Hid (∀ x, rb (.slice ca mo cc) = some x → x ≠ b0 ∧ x ≠ b1 ∧ x ≠ b2 ∧ x ≠ b3 ∧ x ≠ b4 ∧ x ≠ b5) := hide (fun x h => by have h1 := CB.out x h; have h2 := (CF.out.lt x h).2; exact (by omega))
          replace ALF : Hid (∀ x, rb (.slice la ln lc) = some x → x ≠ b0 ∧ x ≠ b1 ∧ x ≠ b2 ∧ x ≠ b3 ∧ x ≠ b4 ∧ x ≠ b5) := hide (fun x h => by have h1 := ALF.out x h; have h2 := (LF.out.lt x h).2; exact (by omega))
          replace ALL : Hid (∀ x, Lrb (.slice xa q.nw xc) (.slice ya q.ng yc) (.slice za q.nd zc) (.slice ta q.nu tc) x → x ≠ b0 ∧ x ≠ b1 ∧ x ≠ b2 ∧ x ≠ b3 ∧ x ≠ b4 ∧ x ≠ b5) := hide (fun x h => by have h1 := ALL.out x h; have h2 := (LL.out.lt x h).2; exact (by omega))
          replace ALI : Hid (∀ x, Lrb (.slice x2a L.nw x2c) (.slice y2a L.ng y2c) (.slice z2a L.nd z2c) (.slice t2a L.nu t2c) x → x ≠ b0 ∧ x ≠ b1 ∧ x ≠ b2 ∧ x ≠ b3 ∧ x ≠ b4 ∧ x ≠ b5) := hide (fun x h => by have h1 := ALI.out x h; have h2 := (LI.out.lt x h).2; exact (by omega))
          replace CF := hide (CF.out.mv m21 (fun _ _ h => h))
          clear hb5
          have szT := lt_of_block bx5.out
          replace HB := Xhn HB m21
          have szW := HB.out.size
          have hcb := fun x e => (CF.out.lt x e).1
          replace LL := Xqn LL m21
          have hltLL := fun x h => (LL.out.lt x h).2
          replace LI := Xqn LI m21
          have hltLI := fun x h => (LI.out.lt x h).2
          obtain ⟨gx, ox, kx, V22, hrun, hgr, hrg, hbl, hold⟩ := add_text V21 w.heap.size (.slice ca mo cc) mo O (s j).d 24 ⟨b5, 0, none⟩ 1 (cell_box 0 bx5.out rfl) CF.out (by have := NM.out; omega) szW
          have m22 : Mv (fun x => rb (.slice ca mo cc) = some x) V21 V22 := Mv.of_grown hgr
          refine sw_valW (by rfl) (run_append_op _ _ 24 (by rfl) (by rfl) (by rfl) hrun) ?_
          refine pt ?_
          replace HB := hide (HB.out.step m22 (fun x hx e => by have := hcb x e; exfalso; omega))
          replace LF := Xgn LF m21
          replace LF := hide (LF.out.mv m22 (fun x e h => by have := hlf x e; have := CG.out x h; omega))
          replace bx0 := Xbn bx0 m21
          replace bx0 := hide (m22.box bx0.out (fun h => by have := CB.out _ h; omega))
          replace bx1 := Xbn bx1 m21
          replace bx1 := hide (m22.box bx1.out (fun h => by have := CB.out _ h; omega))
          replace bx2 := Xbn bx2 m21
          replace bx2 := hide (m22.box bx2.out (fun h => by have := CB.out _ h; omega))
          replace LL := hide (LL.out.mv m22 (fun g hg e => ACLL.out g e hg))
          replace LI := hide (LI.out.mv m22 (fun g hg e => ACLI.out g e hg))
          replace bx3 := Xbn bx3 m21
          replace bx3 := hide (m22.box bx3.out (fun h => by have := CB.out _ h; omega))
          replace bx4 := Xbn bx4 m21
          replace bx4 := hide (m22.box bx4.out (fun h => by have := CB.out _ h; omega))
          replace bx5 := hide (m22.box bx5.out (fun h => by have := CB.out _ h; omega))
          have CF := hide (hrg)
          clear hrun hgr hrg hold
          replace ACLL : Hid (∀ x, rb (.slice (some ⟨gx, ox, none⟩) (mo + 1) kx) = some x → ¬ Lrb (.slice xa q.nw xc) (.slice ya q.ng yc) (.slice za q.nd zc) (.slice ta q.nu tc) x) := hide (fun x e h => by have e2 : gx = x := rb_blk e; subst e2; exact hbl.elim (fun q => ACLL.out gx q h) (fun q => by have := hltLL gx h; omega))
          replace ACLI : Hid (∀ x, rb (.slice (some ⟨gx, ox, none⟩) (mo + 1) kx) = some x → ¬ Lrb (.slice x2a L.nw x2c) (.slice y2a L.ng y2c) (.slice z2a L.nd z2c) (.slice t2a L.nu t2c) x) := hide (fun x e h => by have e2 : gx = x := rb_blk e; subst e2; exact hbl.elim (fun q => ACLI.out gx q h) (fun q => by have := hltLI gx h; omega))
          replace CB : Hid (∀ x, rb (.slice (some ⟨gx, ox, none⟩) (mo + 1) kx) = some x → x ≠ b0 ∧ x ≠ b1 ∧ x ≠ b2 ∧ x ≠ b3 ∧ x ≠ b4 ∧ x ≠ b5) := hide (fun x e => by have e2 : gx = x := rb_blk e; subst e2; exact hbl.elim (fun q => by have := CB.out gx q; exact (by omega)) (fun q => by omega))
          replace CG : Hid (∀ x, rb (.slice (some ⟨gx, ox, none⟩) (mo + 1) kx) = some x → b2 < x) := hide (fun x e => by have e2 : gx = x := rb_blk e; subst e2; exact hbl.elim (fun q => CG.out gx q) (fun q => by omega))
          clear hbl szT szW hcb hltLL hltLI
          refine sv (.slice (some ⟨gx, ox, none⟩) (mo + 1) kx) ?_
          refine wpList_nil (then_normal ?_)
          have QL2 : Ov L (mo + 1) (snc O mo (s j).d) := hQ
          have NM2 : mo + 1 ≤ j + 1 := by have := NM.out; omega
          exact hJ3 _ _ _ _ _ _ _ _ _ _ _ _ _ _ _ _ _ _ _ _ _ _ _ HB.out bx0.out bx1.out bx2.out bx3.out bx4.out LL.out (fun x h => by have := ALL.out x h; exact (by omega)) LI.out (fun x h => by have := ALI.out x h; exact (by omega)) LF.out (fun x h => by have := ALF.out x h; exact (by omega)) CF.out (fun x h => by have := CB.out x h; exact (by omega)) CG.out ACLL.out ACLI.out QL2 NM2
        · have hQ := QL.out
          rw [if_neg (fun e => hkc e.2)] at hQ
          refine sv (.slice la ln lc) ?_
          refine sv (.int .i64 ((j : Int))) ?_
          refine sg (.pointer (some ⟨lb, lo + j * 4, none⟩)) (h := by have h0 : la = some ⟨lb, lo, none⟩ := hla; have h1 : (j : Int) < (ln : Int) := (by omega); go_simp) ?_
          refine sv (.pointer (some ⟨lb, lo + j * 4, none⟩)) ?_
          refine sg (.int .i64 ((s j).k)) (h := by have z0 := act_cell LF.out hla j hlt 0 (by decide); simp only [aF, Nat.add_zero] at z0; go_simp) ?_
          refine sg (.bool true) (h := by have h := hk1; go_simp) ?_
          refine sv (.bool true) ?_
          refine sv (.int .i64 C) ?_
          refine sg (.bool false) (h := by have h := hkc; go_simp) ?_
          refine sg (.bool false) ?_
          refine nt (h17 _ _ (cf (wp_skip (then_normal ?_)))); clear h17 K17
          have QL2 : Ov L mo O := hQ
          have NM2 : mo ≤ j + 1 := by have := NM.out; omega
          exact hJ3 _ _ _ _ _ _ _ _ _ _ _ _ _ _ _ _ _ _ _ _ _ _ _ HB.out bx0.out bx1.out bx2.out bx3.out bx4.out LL.out (fun x h => by have := ALL.out x h; exact (by omega)) LI.out (fun x h => by have := ALI.out x h; exact (by omega)) LF.out (fun x h => by have := ALF.out x h; exact (by omega)) CF.out (fun x h => by have := CB.out x h; exact (by omega)) CG.out ACLL.out ACLI.out QL2 NM2
        · have hQ := QL.out
          rw [if_neg (fun e => hk1 e.1)] at hQ
          refine sv (.slice la ln lc) ?_
          refine sv (.int .i64 ((j : Int))) ?_
          refine sg (.pointer (some ⟨lb, lo + j * 4, none⟩)) (h := by have h0 : la = some ⟨lb, lo, none⟩ := hla; have h1 : (j : Int) < (ln : Int) := (by omega); go_simp) ?_
          refine sv (.pointer (some ⟨lb, lo + j * 4, none⟩)) ?_
          refine sg (.int .i64 ((s j).k)) (h := by have z0 := act_cell LF.out hla j hlt 0 (by decide); simp only [aF, Nat.add_zero] at z0; go_simp) ?_
          refine sg (.bool false) (h := by have h := hk1; go_simp) ?_
          refine sv (.bool false) ?_
          with_reducible refine sp ?_
          with_reducible refine sp ?_
          refine sg (.bool false) ?_
          refine nt (h17 _ _ (cf (wp_skip (then_normal ?_)))); clear h17 K17
          have QL2 : Ov L mo O := hQ
          have NM2 : mo ≤ j + 1 := by have := NM.out; omega
          exact hJ3 _ _ _ _ _ _ _ _ _ _ _ _ _ _ _ _ _ _ _ _ _ _ _ HB.out bx0.out bx1.out bx2.out bx3.out bx4.out LL.out (fun x h => by have := ALL.out x h; exact (by omega)) LI.out (fun x h => by have := ALI.out x h; exact (by omega)) LF.out (fun x h => by have := ALF.out x h; exact (by omega)) CF.out (fun x h => by have := CB.out x h; exact (by omega)) CG.out ACLL.out ACLI.out QL2 NM2
      refine kd_each (l := [5, 9]) (by kernel_rfl) rfl ⟨?_, ?_, trivial⟩
      · have szT := lt_of_block bx3.out
        have szW := HB.out.size
        have hct := fun x e => (CF.out.lt x e).2
        refine ⟨_, rfl, by rfl, .inr ⟨_, _, _, by first | rfl | (go_simp; done), hT V12 _ _ _ _ LL.out.la, ?_⟩⟩
        rintro e V23 ⟨wv1, gv1, dv1, uv1, rfl, LQ, hbl⟩
        have m23 : Mv (nob) V12 V23 := Mv.of_below hbl
        replace hS := hS.step m23 (fun _ _ h => h.elim)
        refine ⟨_, rfl, fun _ => hS, ?_⟩
        refine ptk ?_
        replace CF := hide (CF.out.mv m23 (fun _ _ h => h))
        obtain ⟨x3a, x3c, rfl, _⟩ := LQ.wa.form
        obtain ⟨y3a, y3c, rfl, _⟩ := LQ.go.form
        obtain ⟨z3a, z3c, rfl, _⟩ := LQ.dn.form
        obtain ⟨t3a, t3c, rfl, _⟩ := LQ.up.form
        have LT := hide (LQ.lower szW)
        have ALT : Hid (∀ x, Lrb (.slice x3a L.nw x3c) (.slice y3a L.ng y3c) (.slice z3a L.nd z3c) (.slice t3a L.nu t3c) x → x ≠ b0 ∧ x ≠ b1 ∧ x ≠ b2 ∧ x ≠ b3) := hide (fun x h => by have := (LQ.lt x h).1; exact (by omega))
        have ACLT : Hid (∀ x, rb (.slice ca mo cc) = some x → ¬ Lrb (.slice x3a L.nw x3c) (.slice y3a L.ng y3c) (.slice z3a L.nd z3c) (.slice t3a L.nu t3c) x) := hide (fun x e h => by have := hct x e; have := (LQ.lt x h).1; omega)
        clear LQ hbl szW szT hct
        refine tk0 6 (.tuple #[.agg #[.int .i64 L.base, .slice x3a L.nw x3c, .int .i64 L.want, .slice y3a L.ng y3c, .slice z3a L.nd z3c, .slice t3a L.nu t3c], .int .i64 C]) rfl ?_
        refine tk0 7 (.agg #[.int .i64 L.base, .slice x3a L.nw x3c, .int .i64 L.want, .slice y3a L.ng y3c, .slice z3a L.nd z3c, .slice t3a L.nu t3c]) rfl ?_
        refine tk0 8 (.int .i64 C) rfl ?_
        refine kd_valI (i := 9) (v := .pointer (some ⟨V23.heap.size, 0, none⟩)) (w' := V23.alloc (.cells #[.int .i64 0, .slice none 0 0, .int .i64 0, .slice none 0 0, .slice none 0 0, .slice none 0 0] 27)) (fun V => Mv nob V23 V ∧ V.heap[V23.heap.size]? = some (.cells #[.int .i64 0, .slice none 0 0, .int .i64 0, .slice none 0 0, .slice none 0 0, .slice none 0 0] 27 (0, 0))) (by kernel_rfl) rfl (by rfl) (by first | rfl | go_simp) ⟨Mv.alloc _ _, heap_alloc_new _ _⟩ (fun V hI _ => hS.step hI.1 (fun _ _ h => h.elim)) ?_
        rintro V24 ⟨m24, nx⟩
        refine ptk ?_
        obtain ⟨b4, hb4⟩ : ∃ b4, V23.heap.size = b4 := ⟨_, rfl⟩
        rw [hb4] at nx ⊢
        have or_4 := Mv.le hS hb4
        replace bx3 := Xbn bx3 m23
        have o3_4 := Xlo bx3 hb4
        replace CB : Hid (∀ x, rb (.slice ca mo cc) = some x → x ≠ b0 ∧ x ≠ b1 ∧ x ≠ b2 ∧ x ≠ b3 ∧ x ≠ b4) := hide (fun x h => by have h1 := CB.out x h; have h2 := (CF.out.lt x h).2; exact (by omega))
        replace LF := Xgn LF m23
        replace ALF : Hid (∀ x, rb (.slice la ln lc) = some x → x ≠ b0 ∧ x ≠ b1 ∧ x ≠ b2 ∧ x ≠ b3 ∧ x ≠ b4) := hide (fun x h => by have h1 := ALF.out x h; have h2 := (LF.out.lt x h).2; exact (by omega))
        replace LL := Xqn LL m23
        replace ALL : Hid (∀ x, Lrb (.slice xa q.nw xc) (.slice ya q.ng yc) (.slice za q.nd zc) (.slice ta q.nu tc) x → x ≠ b0 ∧ x ≠ b1 ∧ x ≠ b2 ∧ x ≠ b3 ∧ x ≠ b4) := hide (fun x h => by have h1 := ALL.out x h; have h2 := (LL.out.lt x h).2; exact (by omega))
        replace LI := Xqn LI m23
        replace ALI : Hid (∀ x, Lrb (.slice x2a L.nw x2c) (.slice y2a L.ng y2c) (.slice z2a L.nd z2c) (.slice t2a L.nu t2c) x → x ≠ b0 ∧ x ≠ b1 ∧ x ≠ b2 ∧ x ≠ b3 ∧ x ≠ b4) := hide (fun x h => by have h1 := ALI.out x h; have h2 := (LI.out.lt x h).2; exact (by omega))
        replace ALT : Hid (∀ x, Lrb (.slice x3a L.nw x3c) (.slice y3a L.ng y3c) (.slice z3a L.nd z3c) (.slice t3a L.nu t3c) x → x ≠ b0 ∧ x ≠ b1 ∧ x ≠ b2 ∧ x ≠ b3 ∧ x ≠ b4) := hide (fun x h => by have h1 := ALT.out x h; have h2 := (LT.out.lt x h).2; exact (by omega))
        replace CF := hide (CF.out.mv m24 (fun _ _ h => h))
        have bx4 := hide nx
        clear nx
        replace hS := hS.step m24 (fun _ _ h => h.elim)
        clear hb4
        refine kd_skipI (i := 10) (w' := (((((V24.setCell ⟨b4, 0, none⟩ (.int .i64 L.base)).setCell ⟨b4, 1, none⟩ (.slice x3a L.nw x3c)).setCell ⟨b4, 2, none⟩ (.int .i64 L.want)).setCell ⟨b4, 3, none⟩ (.slice y3a L.ng y3c)).setCell ⟨b4, 4, none⟩ (.slice z3a L.nd z3c)).setCell ⟨b4, 5, none⟩ (.slice t3a L.nu t3c)) (fun V => Mv (fun g => g = b4) V24 V ∧ V.heap[b4]? = some (.cells #[.int .i64 L.base, .slice x3a L.nw x3c, .int .i64 L.want, .slice y3a L.ng y3c, .slice z3a L.nd z3c, .slice t3a L.nu t3c] 27 (0, 0))) (by kernel_rfl) rfl (by rfl) (by have fr := fun i => frozen_of_row _ _ i _ _ bx4.out; have z0 := cell_box 0 bx4.out rfl; have z1 := cell_box 1 bx4.out rfl; have z2 := cell_box 2 bx4.out rfl; have z3 := cell_box 3 bx4.out rfl; have z4 := cell_box 4 bx4.out rfl; have z5 := cell_box 5 bx4.out rfl; go_simp) ⟨Mv.set (Mv.set (Mv.set (Mv.set (Mv.set (Mv.set (Mv.refl _ _) _ _) _ _) _ _) _ _) _ _) _ _, (heap_setCell_same _ _ 5 _ _ _ (heap_setCell_same _ _ 4 _ _ _ (heap_setCell_same _ _ 3 _ _ _ (heap_setCell_same _ _ 2 _ _ _ (heap_setCell_same _ _ 1 _ _ _ (heap_setCell_same _ _ 0 _ _ _ (bx4.out))))))).trans rfl⟩ (fun V hI _ => hS.step hI.1 (fun g hg h => by have h : g = b4 := h; exfalso; omega)) ?_
        rintro V25 ⟨m25, nxV25⟩
        refine ptk ?_
        replace CF := hide (CF.out.mv m25 (fun x e h => by have h : x = b4 := h; have := CB.out x e; omega))
        replace bx4 := hide nxV25
        clear nxV25
        replace hS := hS.step m25 (fun g hg h => by have h : g = b4 := h; exfalso; omega)
        refine tk0 11 (.int .i64 C) rfl ?_
        refine wpAnyK_done (by kernel_rfl) ?_
        clear hS rbx1
        replace HB := Xhb (Xhn (Xhn HB m23) m24) m25; replace bx0 := Xbb (Xbn (Xbn bx0 m23) m24) m25; replace bx1 := Xbb (Xbn (Xbn bx1 m23) m24) m25; replace bx2 := Xbb (Xbn (Xbn bx2 m23) m24) m25; replace LF := Xgb (Xgn LF m24) m25 (fun x h => by have := ALF.out x h; omega); replace LL := Xqb (Xqn LL m24) m25 (fun x h => by have := ALL.out x h; omega)
        replace LI := Xqb (Xqn LI m24) m25 (fun x h => by have := ALI.out x h; omega); replace bx3 := Xbb (Xbn bx3 m24) m25; replace LT := Xqb (Xqn LT m24) m25 (fun x h => by have := ALT.out x h; omega)
        exact then_normal (hJ2 _ _ _ _ _ _ _ _ _ _ HB.out (by omega) bx0.out bx1.out bx2.out bx3.out bx4.out LL.out ALL.out LI.out ALI.out LT.out ALT.out LF.out ALF.out CF.out CB.out CG.out ACLL.out ACLI.out ACLT.out)
      · refine ⟨_, rfl, by rfl, .inl ⟨.pointer (some ⟨V12.heap.size, 0, none⟩), V12.alloc (.cells #[.int .i64 0, .slice none 0 0, .int .i64 0, .slice none 0 0, .slice none 0 0, .slice none 0 0] 27), (by first | rfl | go_simp), fun _ => hS.step (Mv.alloc _ _) (fun _ _ h => h.elim), ?_⟩⟩
        have m26 : Mv nob V12 (V12.alloc (.cells #[.int .i64 0, .slice none 0 0, .int .i64 0, .slice none 0 0, .slice none 0 0, .slice none 0 0] 27)) := Mv.alloc _ _
        have nx := heap_alloc_new V12 (.cells #[.int .i64 0, .slice none 0 0, .int .i64 0, .slice none 0 0, .slice none 0 0, .slice none 0 0] 27)
        obtain ⟨V26, hN⟩ : ∃ V, V12.alloc (.cells #[.int .i64 0, .slice none 0 0, .int .i64 0, .slice none 0 0, .slice none 0 0, .slice none 0 0] 27) = V := ⟨_, rfl⟩
        rw [hN] at m26 nx ⊢
        clear hN
        refine ptk ?_
        obtain ⟨b4, hb4⟩ : ∃ b4, V12.heap.size = b4 := ⟨_, rfl⟩
        rw [hb4] at nx ⊢
        have or_4 := Mv.le hS hb4
        have o3_4 := Xlo bx3 hb4
        replace CB : Hid (∀ x, rb (.slice ca mo cc) = some x → x ≠ b0 ∧ x ≠ b1 ∧ x ≠ b2 ∧ x ≠ b3 ∧ x ≠ b4) := hide (fun x h => by have h1 := CB.out x h; have h2 := (CF.out.lt x h).2; exact (by omega))
        replace ALF : Hid (∀ x, rb (.slice la ln lc) = some x → x ≠ b0 ∧ x ≠ b1 ∧ x ≠ b2 ∧ x ≠ b3 ∧ x ≠ b4) := hide (fun x h => by have h1 := ALF.out x h; have h2 := (LF.out.lt x h).2; exact (by omega))
        replace ALL : Hid (∀ x, Lrb (.slice xa q.nw xc) (.slice ya q.ng yc) (.slice za q.nd zc) (.slice ta q.nu tc) x → x ≠ b0 ∧ x ≠ b1 ∧ x ≠ b2 ∧ x ≠ b3 ∧ x ≠ b4) := hide (fun x h => by have h1 := ALL.out x h; have h2 := (LL.out.lt x h).2; exact (by omega))
        replace ALI : Hid (∀ x, Lrb (.slice x2a L.nw x2c) (.slice y2a L.ng y2c) (.slice z2a L.nd z2c) (.slice t2a L.nu t2c) x → x ≠ b0 ∧ x ≠ b1 ∧ x ≠ b2 ∧ x ≠ b3 ∧ x ≠ b4) := hide (fun x h => by have h1 := ALI.out x h; have h2 := (LI.out.lt x h).2; exact (by omega))
        replace CF := hide (CF.out.mv m26 (fun _ _ h => h))
        have bx4 := hide nx
        clear nx
        replace hS := hS.step m26 (fun _ _ h => h.elim)
        clear hb4
        have szT := lt_of_block bx4.out
        replace HB := Xhn HB m26
        have szW := HB.out.size
        have hct := fun x e => (CF.out.lt x e).2
        replace LL := Xqn LL m26
        refine kd_call (i := 5) (by kernel_rfl) rfl (by rfl) (by first | rfl | (go_simp; done)) (hT V26 _ _ _ _ LL.out.la) ?_
        rintro e V27 ⟨wv1, gv1, dv1, uv1, rfl, LQ, hbl⟩
        have m27 : Mv (nob) V26 V27 := Mv.of_below hbl
        replace hS := hS.step m27 (fun _ _ h => h.elim)
        refine ⟨_, rfl, fun _ => hS, ?_⟩
        refine ptk ?_
        replace CF := hide (CF.out.mv m27 (fun _ _ h => h))
        obtain ⟨x3a, x3c, rfl, _⟩ := LQ.wa.form
        obtain ⟨y3a, y3c, rfl, _⟩ := LQ.go.form
        obtain ⟨z3a, z3c, rfl, _⟩ := LQ.dn.form
        obtain ⟨t3a, t3c, rfl, _⟩ := LQ.up.form
        have LT := hide (LQ.lower szW)
        have ALT : Hid (∀ x, Lrb (.slice x3a L.nw x3c) (.slice y3a L.ng y3c) (.slice z3a L.nd z3c) (.slice t3a L.nu t3c) x → x ≠ b0 ∧ x ≠ b1 ∧ x ≠ b2 ∧ x ≠ b3 ∧ x ≠ b4) := hide (fun x h => by have := (LQ.lt x h).1; exact (by omega))
        have ACLT : Hid (∀ x, rb (.slice ca mo cc) = some x → ¬ Lrb (.slice x3a L.nw x3c) (.slice y3a L.ng y3c) (.slice z3a L.nd z3c) (.slice t3a L.nu t3c) x) := hide (fun x e h => by have := hct x e; have := (LQ.lt x h).1; omega)
        clear LQ hbl szW szT hct
        refine tk0 6 (.tuple #[.agg #[.int .i64 L.base, .slice x3a L.nw x3c, .int .i64 L.want, .slice y3a L.ng y3c, .slice z3a L.nd z3c, .slice t3a L.nu t3c], .int .i64 C]) rfl ?_
        refine tk0 7 (.agg #[.int .i64 L.base, .slice x3a L.nw x3c, .int .i64 L.want, .slice y3a L.ng y3c, .slice z3a L.nd z3c, .slice t3a L.nu t3c]) rfl ?_
        refine tk0 8 (.int .i64 C) rfl ?_
        replace bx4 := Xbn bx4 m27
        refine kd_skipI (i := 10) (w' := (((((V27.setCell ⟨b4, 0, none⟩ (.int .i64 L.base)).setCell ⟨b4, 1, none⟩ (.slice x3a L.nw x3c)).setCell ⟨b4, 2, none⟩ (.int .i64 L.want)).setCell ⟨b4, 3, none⟩ (.slice y3a L.ng y3c)).setCell ⟨b4, 4, none⟩ (.slice z3a L.nd z3c)).setCell ⟨b4, 5, none⟩ (.slice t3a L.nu t3c)) (fun V => Mv (fun g => g = b4) V27 V ∧ V.heap[b4]? = some (.cells #[.int .i64 L.base, .slice x3a L.nw x3c, .int .i64 L.want, .slice y3a L.ng y3c, .slice z3a L.nd z3c, .slice t3a L.nu t3c] 27 (0, 0))) (by kernel_rfl) rfl (by rfl) (by have fr := fun i => frozen_of_row _ _ i _ _ bx4.out; have z0 := cell_box 0 bx4.out rfl; have z1 := cell_box 1 bx4.out rfl; have z2 := cell_box 2 bx4.out rfl; have z3 := cell_box 3 bx4.out rfl; have z4 := cell_box 4 bx4.out rfl; have z5 := cell_box 5 bx4.out rfl; go_simp) ⟨Mv.set (Mv.set (Mv.set (Mv.set (Mv.set (Mv.set (Mv.refl _ _) _ _) _ _) _ _) _ _) _ _) _ _, (heap_setCell_same _ _ 5 _ _ _ (heap_setCell_same _ _ 4 _ _ _ (heap_setCell_same _ _ 3 _ _ _ (heap_setCell_same _ _ 2 _ _ _ (heap_setCell_same _ _ 1 _ _ _ (heap_setCell_same _ _ 0 _ _ _ (bx4.out))))))).trans rfl⟩ (fun V hI _ => hS.step hI.1 (fun g hg h => by have h : g = b4 := h; exfalso; omega)) ?_
        rintro V28 ⟨m28, nxV28⟩
        refine ptk ?_
        replace CF := hide (CF.out.mv m28 (fun x e h => by have h : x = b4 := h; have := CB.out x e; omega))
        replace bx4 := hide nxV28
        clear nxV28
        replace hS := hS.step m28 (fun g hg h => by have h : g = b4 := h; exfalso; omega)
        refine tk0 11 (.int .i64 C) rfl ?_
        refine wpAnyK_done (by kernel_rfl) ?_
        clear hS rbx1
        replace LF := Xgb (Xgn (Xgn LF m26) m27) m28 (fun x h => by have := ALF.out x h; omega); replace bx0 := Xbb (Xbn (Xbn bx0 m26) m27) m28; replace bx1 := Xbb (Xbn (Xbn bx1 m26) m27) m28; replace bx2 := Xbb (Xbn (Xbn bx2 m26) m27) m28; replace LI := Xqb (Xqn (Xqn LI m26) m27) m28 (fun x h => by have := ALI.out x h; omega)
        replace bx3 := Xbb (Xbn (Xbn bx3 m26) m27) m28; replace HB := Xhb (Xhn HB m27) m28; replace LL := Xqb (Xqn LL m27) m28 (fun x h => by have := ALL.out x h; omega); replace LT := Xqb LT m28 (fun x h => by have := ALT.out x h; omega)
        exact then_normal (hJ2 _ _ _ _ _ _ _ _ _ _ HB.out (by omega) bx0.out bx1.out bx2.out bx3.out bx4.out LL.out ALL.out LI.out ALI.out LT.out ALT.out LF.out ALF.out CF.out CB.out CG.out ACLL.out ACLI.out ACLT.out)
    refine kd_each (l := [5, 9]) (by kernel_rfl) rfl ⟨?_, ?_, trivial⟩
    · have szT := lt_of_block bx2.out
      have szW := HB.out.size
      have hct := fun x e => (CF.out.lt x e).2
      refine ⟨_, rfl, by rfl, .inr ⟨_, _, _, by first | rfl | (go_simp; done), hI V8 _ _ _ _ LL.out.la, ?_⟩⟩
      rintro e V29 ⟨wv1, gv1, dv1, uv1, rfl, LQ, hbl⟩
      have m29 : Mv (nob) V8 V29 := Mv.of_below hbl
      replace hS := hS.step m29 (fun _ _ h => h.elim)
      refine ⟨_, rfl, fun _ => hS, ?_⟩
      refine ptk ?_
      replace CF := hide (CF.out.mv m29 (fun _ _ h => h))
      obtain ⟨x2a, x2c, rfl, _⟩ := LQ.wa.form
      obtain ⟨y2a, y2c, rfl, _⟩ := LQ.go.form
      obtain ⟨z2a, z2c, rfl, _⟩ := LQ.dn.form
      obtain ⟨t2a, t2c, rfl, _⟩ := LQ.up.form
      have LI := hide (LQ.lower szW)
      have ALI : Hid (∀ x, Lrb (.slice x2a L.nw x2c) (.slice y2a L.ng y2c) (.slice z2a L.nd z2c) (.slice t2a L.nu t2c) x → x ≠ b0 ∧ x ≠ b1 ∧ x ≠ b2) := hide (fun x h => by have := (LQ.lt x h).1; exact (by omega))
      have ACLI : Hid (∀ x, rb (.slice ca mo cc) = some x → ¬ Lrb (.slice x2a L.nw x2c) (.slice y2a L.ng y2c) (.slice z2a L.nd z2c) (.slice t2a L.nu t2c) x) := hide (fun x e h => by have := hct x e; have := (LQ.lt x h).1; omega)
      clear LQ hbl szW szT hct
      refine tk0 6 (.tuple #[.agg #[.int .i64 L.base, .slice x2a L.nw x2c, .int .i64 L.want, .slice y2a L.ng y2c, .slice z2a L.nd z2c, .slice t2a L.nu t2c], .int .i64 C]) rfl ?_
      refine tk0 7 (.agg #[.int .i64 L.base, .slice x2a L.nw x2c, .int .i64 L.want, .slice y2a L.ng y2c, .slice z2a L.nd z2c, .slice t2a L.nu t2c]) rfl ?_
      refine tk0 8 (.int .i64 C) rfl ?_
      refine kd_valI (i := 9) (v := .pointer (some ⟨V29.heap.size, 0, none⟩)) (w' := V29.alloc (.cells #[.int .i64 0, .slice none 0 0, .int .i64 0, .slice none 0 0, .slice none 0 0, .slice none 0 0] 27)) (fun V => Mv nob V29 V ∧ V.heap[V29.heap.size]? = some (.cells #[.int .i64 0, .slice none 0 0, .int .i64 0, .slice none 0 0, .slice none 0 0, .slice none 0 0] 27 (0, 0))) (by kernel_rfl) rfl (by rfl) (by first | rfl | go_simp) ⟨Mv.alloc _ _, heap_alloc_new _ _⟩ (fun V hI _ => hS.step hI.1 (fun _ _ h => h.elim)) ?_
      rintro V30 ⟨m30, nx⟩
      refine ptk ?_
      obtain ⟨b3, hb3⟩ : ∃ b3, V29.heap.size = b3 := ⟨_, rfl⟩
      rw [hb3] at nx ⊢
      have or_3 := Mv.le hS hb3
      replace bx2 := Xbn bx2 m29
      have o2_3 := Xlo bx2 hb3
      replace CB : Hid (∀ x, rb (.slice ca mo cc) = some x → x ≠ b0 ∧ x ≠ b1 ∧ x ≠ b2 ∧ x ≠ b3) := hide (fun x h => by have h1 := CB.out x h; have h2 := (CF.out.lt x h).2; exact (by omega))
      replace LF := Xgn LF m29
      replace ALF : Hid (∀ x, rb (.slice la ln lc) = some x → x ≠ b0 ∧ x ≠ b1 ∧ x ≠ b2 ∧ x ≠ b3) := hide (fun x h => by have h1 := ALF.out x h; have h2 := (LF.out.lt x h).2; exact (by omega))
      replace LL := Xqn LL m29
      replace ALL : Hid (∀ x, Lrb (.slice xa q.nw xc) (.slice ya q.ng yc) (.slice za q.nd zc) (.slice ta q.nu tc) x → x ≠ b0 ∧ x ≠ b1 ∧ x ≠ b2 ∧ x ≠ b3) := hide (fun x h => by have h1 := ALL.out x h; have h2 := (LL.out.lt x h).2; exact (by omega))
      replace ALI : Hid (∀ x, Lrb (.slice x2a L.nw x2c) (.slice y2a L.ng y2c) (.slice z2a L.nd z2c) (.slice t2a L.nu t2c) x → x ≠ b0 ∧ x ≠ b1 ∧ x ≠ b2 ∧ x ≠ b3) := hide (fun x h => by have h1 := ALI.out x h; have h2 := (LI.out.lt x h).2; exact (by omega))
      replace CF := hide (CF.out.mv m30 (fun _ _ h => h))
      have bx3 := hide nx
      clear nx
      replace hS := hS.step m30 (fun _ _ h => h.elim)
      clear hb3
      refine kd_skipI (i := 10) (w' := (((((V30.setCell ⟨b3, 0, none⟩ (.int .i64 L.base)).setCell ⟨b3, 1, none⟩ (.slice x2a L.nw x2c)).setCell ⟨b3, 2, none⟩ (.int .i64 L.want)).setCell ⟨b3, 3, none⟩ (.slice y2a L.ng y2c)).setCell ⟨b3, 4, none⟩ (.slice z2a L.nd z2c)).setCell ⟨b3, 5, none⟩ (.slice t2a L.nu t2c)) (fun V => Mv (fun g => g = b3) V30 V ∧ V.heap[b3]? = some (.cells #[.int .i64 L.base, .slice x2a L.nw x2c, .int .i64 L.want, .slice y2a L.ng y2c, .slice z2a L.nd z2c, .slice t2a L.nu t2c] 27 (0, 0))) (by kernel_rfl) rfl (by rfl) (by have fr := fun i => frozen_of_row _ _ i _ _ bx3.out; have z0 := cell_box 0 bx3.out rfl; have z1 := cell_box 1 bx3.out rfl; have z2 := cell_box 2 bx3.out rfl; have z3 := cell_box 3 bx3.out rfl; have z4 := cell_box 4 bx3.out rfl; have z5 := cell_box 5 bx3.out rfl; go_simp) ⟨Mv.set (Mv.set (Mv.set (Mv.set (Mv.set (Mv.set (Mv.refl _ _) _ _) _ _) _ _) _ _) _ _) _ _, (heap_setCell_same _ _ 5 _ _ _ (heap_setCell_same _ _ 4 _ _ _ (heap_setCell_same _ _ 3 _ _ _ (heap_setCell_same _ _ 2 _ _ _ (heap_setCell_same _ _ 1 _ _ _ (heap_setCell_same _ _ 0 _ _ _ (bx3.out))))))).trans rfl⟩ (fun V hI _ => hS.step hI.1 (fun g hg h => by have h : g = b3 := h; exfalso; omega)) ?_
      rintro V31 ⟨m31, nxV31⟩
      refine ptk ?_
      replace CF := hide (CF.out.mv m31 (fun x e h => by have h : x = b3 := h; have := CB.out x e; omega))
      replace bx3 := hide nxV31
      clear nxV31
      replace hS := hS.step m31 (fun g hg h => by have h : g = b3 := h; exfalso; omega)
      refine tk0 11 (.int .i64 C) rfl ?_
      refine wpAnyK_done (by kernel_rfl) ?_
      clear hS rbx1
      replace HB := Xhb (Xhn (Xhn HB m29) m30) m31; replace bx0 := Xbb (Xbn (Xbn bx0 m29) m30) m31; replace bx1 := Xbb (Xbn (Xbn bx1 m29) m30) m31; replace LF := Xgb (Xgn LF m30) m31 (fun x h => by have := ALF.out x h; omega); replace bx2 := Xbb (Xbn bx2 m30) m31; replace LL := Xqb (Xqn LL m30) m31 (fun x h => by have := ALL.out x h; omega)
      replace LI := Xqb (Xqn LI m30) m31 (fun x h => by have := ALI.out x h; omega)
      exact then_normal (hJ1 _ _ _ _ _ _ _ _ _ _ HB.out (by omega) bx0.out bx1.out bx2.out bx3.out LL.out ALL.out LI.out ALI.out LF.out ALF.out CF.out CB.out CG.out ACLL.out ACLI.out)
    · refine ⟨_, rfl, by rfl, .inl ⟨.pointer (some ⟨V8.heap.size, 0, none⟩), V8.alloc (.cells #[.int .i64 0, .slice none 0 0, .int .i64 0, .slice none 0 0, .slice none 0 0, .slice none 0 0] 27), (by first | rfl | go_simp), fun _ => hS.step (Mv.alloc _ _) (fun _ _ h => h.elim), ?_⟩⟩
      have m32 : Mv nob V8 (V8.alloc (.cells #[.int .i64 0, .slice none 0 0, .int .i64 0, .slice none 0 0, .slice none 0 0, .slice none 0 0] 27)) := Mv.alloc _ _
      have nx := heap_alloc_new V8 (.cells #[.int .i64 0, .slice none 0 0, .int .i64 0, .slice none 0 0, .slice none 0 0, .slice none 0 0] 27)
      obtain ⟨V32, hN⟩ : ∃ V, V8.alloc (.cells #[.int .i64 0, .slice none 0 0, .int .i64 0, .slice none 0 0, .slice none 0 0, .slice none 0 0] 27) = V := ⟨_, rfl⟩
      rw [hN] at m32 nx ⊢
      clear hN
      refine ptk ?_
      obtain ⟨b3, hb3⟩ : ∃ b3, V8.heap.size = b3 := ⟨_, rfl⟩
      rw [hb3] at nx ⊢
      have or_3 := Mv.le hS hb3
      have o2_3 := Xlo bx2 hb3
      replace CB : Hid (∀ x, rb (.slice ca mo cc) = some x → x ≠ b0 ∧ x ≠ b1 ∧ x ≠ b2 ∧ x ≠ b3) := hide (fun x h => by have h1 := CB.out x h; have h2 := (CF.out.lt x h).2; exact (by omega))
      replace ALF : Hid (∀ x, rb (.slice la ln lc) = some x → x ≠ b0 ∧ x ≠ b1 ∧ x ≠ b2 ∧ x ≠ b3) := hide (fun x h => by have h1 := ALF.out x h; have h2 := (LF.out.lt x h).2; exact (by omega))
      replace ALL : Hid (∀ x, Lrb (.slice xa q.nw xc) (.slice ya q.ng yc) (.slice za q.nd zc) (.slice ta q.nu tc) x → x ≠ b0 ∧ x ≠ b1 ∧ x ≠ b2 ∧ x ≠ b3) := hide (fun x h => by have h1 := ALL.out x h; have h2 := (LL.out.lt x h).2; exact (by omega))
      replace CF := hide (CF.out.mv m32 (fun _ _ h => h))
      have bx3 := hide nx
      clear nx
      replace hS := hS.step m32 (fun _ _ h => h.elim)
      clear hb3
      have szT := lt_of_block bx3.out
      replace HB := Xhn HB m32
      have szW := HB.out.size
      have hct := fun x e => (CF.out.lt x e).2
      replace LL := Xqn LL m32
      refine kd_call (i := 5) (by kernel_rfl) rfl (by rfl) (by first | rfl | (go_simp; done)) (hI V32 _ _ _ _ LL.out.la) ?_
      rintro e V33 ⟨wv1, gv1, dv1, uv1, rfl, LQ, hbl⟩
      have m33 : Mv (nob) V32 V33 := Mv.of_below hbl
      replace hS := hS.step m33 (fun _ _ h => h.elim)
      refine ⟨_, rfl, fun _ => hS, ?_⟩
      refine ptk ?_
      replace CF := hide (CF.out.mv m33 (fun _ _ h => h))
      obtain ⟨x2a, x2c, rfl, _⟩ := LQ.wa.form
      obtain ⟨y2a, y2c, rfl, _⟩ := LQ.go.form
      obtain ⟨z2a, z2c, rfl, _⟩ := LQ.dn.form
      obtain ⟨t2a, t2c, rfl, _⟩ := LQ.up.form
      have LI := hide (LQ.lower szW)
      have ALI : Hid (∀ x, Lrb (.slice x2a L.nw x2c) (.slice y2a L.ng y2c) (.slice z2a L.nd z2c) (.slice t2a L.nu t2c) x → x ≠ b0 ∧ x ≠ b1 ∧ x ≠ b2 ∧ x ≠ b3) := hide (fun x h => by have := (LQ.lt x h).1; exact (by omega))
      have ACLI : Hid (∀ x, rb (.slice ca mo cc) = some x → ¬ Lrb (.slice x2a L.nw x2c) (.slice y2a L.ng y2c) (.slice z2a L.nd z2c) (.slice t2a L.nu t2c) x) := hide (fun x e h => by have := hct x e; have := (LQ.lt x h).1; omega)
      clear LQ hbl szW szT hct
      refine tk0 6 (.tuple #[.agg #[.int .i64 L.base, .slice x2a L.nw x2c, .int .i64 L.want, .slice y2a L.ng y2c, .slice z2a L.nd z2c, .slice t2a L.nu t2c], .int .i64 C]) rfl ?_
      refine tk0 7 (.agg #[.int .i64 L.base, .slice x2a L.nw x2c, .int .i64 L.want, .slice y2a L.ng y2c, .slice z2a L.nd z2c, .slice t2a L.nu t2c]) rfl ?_
      refine tk0 8 (.int .i64 C) rfl ?_
      replace bx3 := Xbn bx3 m33
      refine kd_skipI (i := 10) (w' := (((((V33.setCell ⟨b3, 0, none⟩ (.int .i64 L.base)).setCell ⟨b3, 1, none⟩ (.slice x2a L.nw x2c)).setCell ⟨b3, 2, none⟩ (.int .i64 L.want)).setCell ⟨b3, 3, none⟩ (.slice y2a L.ng y2c)).setCell ⟨b3, 4, none⟩ (.slice z2a L.nd z2c)).setCell ⟨b3, 5, none⟩ (.slice t2a L.nu t2c)) (fun V => Mv (fun g => g = b3) V33 V ∧ V.heap[b3]? = some (.cells #[.int .i64 L.base, .slice x2a L.nw x2c, .int .i64 L.want, .slice y2a L.ng y2c, .slice z2a L.nd z2c, .slice t2a L.nu t2c] 27 (0, 0))) (by kernel_rfl) rfl (by rfl) (by have fr := fun i => frozen_of_row _ _ i _ _ bx3.out; have z0 := cell_box 0 bx3.out rfl; have z1 := cell_box 1 bx3.out rfl; have z2 := cell_box 2 bx3.out rfl; have z3 := cell_box 3 bx3.out rfl; have z4 := cell_box 4 bx3.out rfl; have z5 := cell_box 5 bx3.out rfl; go_simp) ⟨Mv.set (Mv.set (Mv.set (Mv.set (Mv.set (Mv.set (Mv.refl _ _) _ _) _ _) _ _) _ _) _ _) _ _, (heap_setCell_same _ _ 5 _ _ _ (heap_setCell_same _ _ 4 _ _ _ (heap_setCell_same _ _ 3 _ _ _ (heap_setCell_same _ _ 2 _ _ _ (heap_setCell_same _ _ 1 _ _ _ (heap_setCell_same _ _ 0 _ _ _ (bx3.out))))))).trans rfl⟩ (fun V hI _ => hS.step hI.1 (fun g hg h => by have h : g = b3 := h; exfalso; omega)) ?_
      rintro V34 ⟨m34, nxV34⟩
      refine ptk ?_
      replace CF := hide (CF.out.mv m34 (fun x e h => by have h : x = b3 := h; have := CB.out x e; omega))
      replace bx3 := hide nxV34
      clear nxV34
      replace hS := hS.step m34 (fun g hg h => by have h : g = b3 := h; exfalso; omega)
      refine tk0 11 (.int .i64 C) rfl ?_
      refine wpAnyK_done (by kernel_rfl) ?_
      clear hS rbx1
      replace LF := Xgb (Xgn (Xgn LF m32) m33) m34 (fun x h => by have := ALF.out x h; omega); replace bx0 := Xbb (Xbn (Xbn bx0 m32) m33) m34; replace bx1 := Xbb (Xbn (Xbn bx1 m32) m33) m34; replace bx2 := Xbb (Xbn (Xbn bx2 m32) m33) m34; replace HB := Xhb (Xhn HB m33) m34; replace LL := Xqb (Xqn LL m33) m34 (fun x h => by have := ALL.out x h; omega)
      replace LI := Xqb LI m34 (fun x h => by have := ALI.out x h; omega)
      exact then_normal (hJ1 _ _ _ _ _ _ _ _ _ _ HB.out (by omega) bx0.out bx1.out bx2.out bx3.out LL.out ALL.out LI.out ALI.out LF.out ALF.out CF.out CB.out CG.out ACLL.out ACLI.out)
  · refine sv (.int .i64 ((j : Int))) ?_
    refine sv (.slice la ln lc) ?_
    refine sg (.int .i64 (ln : Int)) ?_
    refine sg (.bool false) (h := by have hd : decide (j < ln) = false := (by simp; omega); have hd2 : decide ((j : Int) < (ln : Int)) = false := (by simp; omega); go_simp) ?_
    refine nt (h10 _ _ (cf (wp_exit (then_exit (then_exit (inb_here rfl (then_normal (h7 _ _ (sk fun K20 h20 => rl ?_))))))))); clear h10 K10; clear h9 K9; clear h7 K7
    refine sl6 bx1 ?_
    refine sw_call (by rfl) (by first | rfl | (go_simp; done)) (implLinkOk_la true q _ _ _ _ VL1 (lk_iff.2 QF.out.lf) LL.out.la QF.out.lf.sm) ?_
    rintro e V35 ⟨rfl, hbl⟩
    have m35 : Mv (nob) VL1 V35 := Mv.of_below hbl
    refine ⟨_, rfl, ?_⟩
    refine pt ?_
    replace CF := hide (CF.out.mv m35 (fun _ _ h => h))
    clear hbl
    refine sv (.bool true) ?_
    refine nt (h20 _ _ (wp_ret ?_)); clear h20 K20
    replace HB := Xhn HB m35; replace LF := Xgn LF m35; replace bx0 := Xbn bx0 m35; replace bx1 := Xbn bx1 m35; replace bx2 := Xbn bx2 m35; replace LL := Xqn LL m35
    exact bodyPost_ret (v := .bool true) (by simp [results, Try.results4, go_sem]) rfl ⟨rfl, HB.out.below⟩

set_option maxRecDepth 100000 in
theorem lifted (os : Os) (started : os.Started) (H : Type) (enc : TypeId × Value → H) :
    ReturnsInHanded {} Try.checked os 4 .any (Rows.fnLinkOrderSpec.pre6 enc Try.prog Try.f4 Rows.fnLinkOrderRow.domain false) (Rows.fnLinkOrderSpec.post enc Try.prog Try.f4 false true false false) := by
  refine returnsInHanded_of_change (C := Try.checked) own started (by kernel_rfl) Try.func4
    (ChangeSpec.witness6 (enc := enc) (C := Try.checked) false ⟨#[], #[.slice none 0 0], []⟩ 8 (by kernel_rfl) (by kernel_rfl) (by kernel_rfl) (by kernel_rfl)) ?_
  intro W base args ds gs before hval0 hW hcnd _
  have hval : ∀ (j : Nat) t v, Try.f4.params[j]? = some t → args[j]? = some v → Value.okWide Try.prog W .any base t v := hval0
  have hW' := hW
  obtain ⟨p, q, hA0, hV, rfl, hfz, hnd⟩ := hW
  have hA : DataW.TrodAll enc Try.prog W 0 (fun _ => true) true Try.f4.params.toList args.toList ds p := hA0
  rw [Try.params4] at hA hval
  obtain ⟨v0, vs0, d0, ds0, p0, q0, hargs, rfl, rfl, h0, r0⟩ := trodAll_cons hA
  obtain ⟨rfl, rfl, rfl⟩ := trodAll_nil r0
  obtain rfl : args = #[v0] := by cases args; simp_all
  obtain ⟨rfl, rfl⟩ := trodVars_none hV
  obtain ⟨a0, len0, cap0, rfl⟩ := okWide_slice Try.underlying22 (hval 0 22 v0 rfl rfl)
  have k0 := h0
  have lt0 : ∀ x ∈ p0, x.block < W.heap.size := by obtain ⟨m, hm⟩ := k0; exact DataW.trod_lt m _ _ _ hm
  obtain ⟨z0, w0⟩ : ∃ zs, IsRow .u8 W a0 len0 cap0 zs := by
    obtain ⟨fuel, hf⟩ := h0
    rcases open_ints Try.underlying22 Try.underlying5 (by kernel_rfl) hf with ⟨hcs, _⟩ | ⟨x, l, c, zs, hcs, _, hl, hm, hz, _, hcell, hwz⟩
    · simp [Value.cells] at hcs
      obtain ⟨rfl, rfl, rfl⟩ := hcs
      exact ⟨[], .inl ⟨rfl, rfl, rfl, rfl⟩⟩
    · simp [Value.cells] at hcs
      obtain ⟨rfl, rfl, rfl⟩ := hcs
      exact ⟨zs, .inr ⟨_, rfl, hl, hm, by simpa using hz, hcell, hwz⟩⟩
  clear hA0 hval0
  refine (walk a0 len0 cap0 W (row_bt w0)).mono fun e W' ⟨he, bel⟩ => ?_
  subst he
  exact ⟨_, rfl, _, _, _, [], _, [], hW', trodAll_mk1 (shut_bool Try.underlying4 _), (trodAll_cons_mk (Below.trod laidOut (by kernel_rfl) (of_decide_eq_true (by kernel_rfl)) k0 bel lt0) trodAll_mk0), rfl, bel.frame _, fun h => by cases h⟩

theorem over : Rows.fnLinkOrderRow.holds Try.pinned (OpenSpec.ofChange Rows.fnLinkOrderSpec) :=
  OpenClaim.holds_of_wide 4 Try.f4 rfl rfl rfl rfl rfl rfl rfl ⟨rfl, rfl, rfl, rfl, rfl⟩ rfl rfl rfl rfl rfl (by kernel_rfl) Try.func4 (by kernel_rfl)
    (of_decide_eq_true (by kernel_rfl)) (by unfold Func.isWrapper; first | (rw [if_pos (by decide +kernel)]; kernel_rfl) | (rw [if_neg (by decide +kernel)]; exact ⟨rfl, rfl⟩))
    (fun os started H enc _ => lifted os started H enc)

theorem proved : Rows.FnLinkOrderSaid := over
end Go.Proofs.Ytgflipkhhpkidaa.fnLinkOrder

namespace Go.Proofs.Ytgflipkhhpkidaa
theorem fnLinkOrder_holds : Rows.FnLinkOrderSaid := fnLinkOrder.proved
end Go.Proofs.Ytgflipkhhpkidaa
