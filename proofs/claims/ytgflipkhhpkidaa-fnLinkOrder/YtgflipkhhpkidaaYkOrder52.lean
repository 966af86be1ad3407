/- LsI -/
import Derived.Test.YtgflipkhhpkidaaYkOrder51
/- DrawLinkPlay (written by mkLsI.py) -/
namespace Go.Proofs.Ytgflipkhhpkidaa
open Go.RowKit
set_option linter.unusedVariables false
set_option linter.unusedSimpArgs false

theorem do_sm (p : Lk) (k z bit : Int) (bd : ByteArray) : Lsm 1048576 (doL p k z bit bd) := (done_says p k z bit bd).1
theorem infoAct : (Try.prog.info? 29).map (fun i => (i.zero, i.size, i.bytes)) = some (some (.agg #[.int .i64 0, .int .i64 0, .int .i64 0, .string ⟨#[]⟩]), 4, 40) := by kernel_rfl
/-- an act appended -/
theorem add_act (W : World) (base : Nat) (v : Value) (n : Nat) (s : Nat → Ac4) (x : Ac4) (ty : TypeId) (g0 o0 c : Nat) (c0 : W.cell? ⟨g0, o0, none⟩ = some (.int .i64 x.k)) (c1 : W.cell? ⟨g0, o0 + 1, none⟩ = some (.int .i64 x.z)) (c2 : W.cell? ⟨g0, o0 + 2, none⟩ = some (.int .i64 x.b)) (c3 : W.cell? ⟨g0, o0 + 3, none⟩ = some (.string x.d)) (hr : Rg W base v 4 n (aF s)) (hn : n ≤ 1048576) (hb : base ≤ W.heap.size) :
    ∃ g off k w', (Builtin.append_ #[37, 37] ty #[v, .slice (some ⟨g0, o0, none⟩) 1 c]).run Try.prog W = .ok (.slice (some ⟨g, off, none⟩) (n + 1) k) w' ∧ W.grownBy w' (rb v) ∧ Rg w' base (.slice (some ⟨g, off, none⟩) (n + 1) k) 4 (n + 1) (aF (snc s n x)) ∧ (rb v = some g ∨ W.heap.size ≤ g) ∧ Rg w' base v 4 n (aF s) := by
  obtain ⟨i0, hi, hz0, hz1, hz2⟩ := info_parts infoAct
  obtain ⟨g, off, k, w', h1, h2, h3, h4, h5⟩ := append_rg W base v 4 n 1 40 (aF s) 37 ty 29 i0 (.agg #[.int .i64 0, .int .i64 0, .int .i64 0, .string ⟨#[]⟩]) Try.underlying37 hi hz0 hz1 hz2 rfl (by decide) ⟨g0, o0, none⟩ c [.int .i64 x.k, .int .i64 x.z, .int .i64 x.b, .string x.d] rfl (fun j u hu => by
    match j with
    | 0 => simp at hu; subst hu; rw [addr_add]; exact c0
    | 1 => simp at hu; subst hu; rw [addr_add]; exact c1
    | 2 => simp at hu; subst hu; rw [addr_add]; exact c2
    | 3 => simp at hu; subst hu; rw [addr_add]; exact c3
    | j + 4 => simp at hu) (fun u hu => by simp at hu; rcases hu with rfl | rfl | rfl | rfl <;> rfl) (by decide) hr (by unfold maxLen; omega) (by omega) hb
  refine ⟨g, off, k, w', h1, h2, h3.congr (by decide) (fun j hj i hi => ?_), h4, h5⟩
  by_cases hl : j < n
  · simp [snG, snc, hl, aF]
  · have e : j = n := by omega
    subst e
    match i, hi with
    | 0, _ => simp [snG, snc, aF]
    | 1, _ => simp [snG, snc, aF]
    | 2, _ => simp [snG, snc, aF]
    | 3, _ => simp [snG, snc, aF]

set_option maxHeartbeats 8000000 in
set_option maxRecDepth 20000 in
theorem drawPlay_any (ad : Option Addr) (len cap : Nat) (w : World) (hs : Bt w ad len) (hb0 : len ≤ 1048576) : Calls Try.prog 15 #[.slice ad len cap] w fun e w' => ∃ (wv gv dv uv : Value) (p : Lk) (la : Option Addr) (m lc : Nat) (s : Nat → Ac4), e = .returned (.tuple #[.agg (l6 p.base wv p.want gv dv uv), .slice la m lc]) ∧ Lr w' w.heap.size wv gv dv uv p ∧ Lsm 1048576 p ∧ Rg w' w.heap.size (.slice la m lc) 4 m (aF s) ∧ m ≤ 200 ∧ Below w.heap.size w w' := by
  have HB : Hid (Mv nob w w) := hide (Mv.refl _ _)
  have BT := hide hs
  clear hs
  go_enter Try.func15, Try.ntmps15
  refine sk fun K1 h1 => rl ?_
  refine sbp #[.int .i64 0, .slice none 0 0, .int .i64 0, .slice none 0 0, .slice none 0 0, .slice none 0 0] 27 fun V1 b0 hb0 m1 bx0 => ?_
  have o_0 : w.heap.size ≤ b0 := by omega
  clear hb0
  refine sv (.slice none 0 0) ?_
  refine nt (h1 _ _ (sk fun K2 h2 => rl ?_)); clear h1 K1
  refine sv (.slice ad len cap) ?_
  have szT := lt_of_block bx0.out
  replace BT := Xtn BT m1
  refine sw_call (by rfl) (by first | rfl | (go_simp; done)) (open_any ad len cap V1 BT.out hb0) ?_
  rintro e V2 ⟨g, rfl, hgw, hr, hbl⟩
  have m2 : Mv (nob) V1 V2 := Mv.of_below hbl
  refine ⟨_, rfl, ?_⟩
  refine pt ?_
  have RD := hide hr
  have hgb : b0 < g := by omega
  clear hr hbl
  refine sv (.pointer (some ⟨g, 0, none⟩)) ?_
  refine nt (h2 _ _ (sk fun K3 h3 => rl ?_)); clear h2 K2
  refine sv (.agg #[.int .i64 0, .slice none 0 0, .int .i64 0, .slice none 0 0, .slice none 0 0, .slice none 0 0]) ?_
  replace bx0 := Xbn bx0 m2
  refine sbp #[.int .i64 0, .slice none 0 0, .int .i64 0, .slice none 0 0, .slice none 0 0, .slice none 0 0] 27 fun V3 b1 hb1 m3 bx1 => ?_
  have o0_1 := Xlo bx0 hb1
  have og_1 : g < b1 := Xro RD hb1
  clear hb1
  refine ss6 (.int .i64 0) (.slice none 0 0) (.int .i64 0) (.slice none 0 0) (.slice none 0 0) (.slice none 0 0) bx1 fun V4 m4 bx1 => ?_
  clear BT
  refine nt (h3 _ _ (sk fun K4 h4 => sk fun K5 h5 => rl ?_)); clear h3 K3
  refine sv (.pointer (some ⟨g, 0, none⟩)) ?_
  replace RD := Xrb (Xrn RD m3) m4
  refine sw_call (by rfl) (by first | rfl | (go_simp; done)) (once_any g 3 V4 RD.out (by decide) (by decide)) ?_
  rintro e V5 ⟨t, rfl, hr, hg⟩
  have m5 : Mv (fun x => x = g) V4 V5 := mv_rd hg
  refine ⟨_, rfl, ?_⟩
  refine pt ?_
  replace HB := Xhb (Xhn (Xhn (Xhn HB m1) m2) m3) m4
  replace HB := hide (HB.out.step m5 (fun x hx e => by have e : x = g := e; omega))
  replace RD := hide hr
  clear hr hg
  replace bx0 := Xbb (Xbb (Xbn bx0 m3) m4) m5; replace bx1 := Xbb bx1 m5
  have hJ1 : ∀ (V7 : World) (x0a : Option Addr) (x0c : Nat) (y0a : Option Addr) (y0c : Nat) (z0a : Option Addr) (z0c : Nat) (t0a : Option Addr) (t0c : Nat) (p : Lk) (u16 : Value) (u17 : Value) (u18 : Value), (Mv nob w V7) → (Rdr V7 g) → (V7.heap[b0]? = some (.cells #[.int .i64 0, .slice none 0 0, .int .i64 0, .slice none 0 0, .slice none 0 0, .slice none 0 0] 27 (0, 0))) → (V7.heap[b1]? = some (.cells #[.int .i64 p.base, .slice x0a p.nw x0c, .int .i64 p.want, .slice y0a p.ng y0c, .slice z0a p.nd z0c, .slice t0a p.nu t0c] 27 (0, 0))) → (Lr V7 w.heap.size (.slice x0a p.nw x0c) (.slice y0a p.ng y0c) (.slice z0a p.nd z0c) (.slice t0a p.nu t0c) p) → (∀ x, Lrb (.slice x0a p.nw x0c) (.slice y0a p.ng y0c) (.slice z0a p.nd z0c) (.slice t0a p.nu t0c) x → x ≠ b0 ∧ x ≠ b1 ∧ x ≠ g) → (Lsm 1048576 p) → K4 ⟨#[.slice ad len cap, undef, .pointer (some ⟨b0, 0, none⟩), .slice none 0 0, .pointer (some ⟨g, 0, none⟩), .pointer (some ⟨b1, 0, none⟩), undef, undef, undef, undef, undef, undef, .slice ad len cap, .pointer (some ⟨g, 0, none⟩), .agg #[.int .i64 0, .slice none 0 0, .int .i64 0, .slice none 0 0, .slice none 0 0, .slice none 0 0], .pointer (some ⟨g, 0, none⟩), u16, u17, u18, undef, undef, undef, undef, undef, undef, undef, undef, undef, undef, undef, undef, undef, undef, undef, undef, undef, undef, undef, undef, undef, undef, undef, undef, undef, undef], []⟩ V7 := by
    intro V7 x0a x0c y0a y0c z0a z0c t0a t0c p u16 u17 u18 HB RD bx0 bx1 LN ALN hsm
    replace HB := hide HB; replace RD := hide RD; replace bx0 := hide bx0; replace bx1 := hide bx1; replace LN := hide LN; replace ALN := hide ALN
    refine h4 _ _ (sk fun K6 h6 => rl ?_)
    refine sbs 0 #[] 29 fun V8 b2 hb2 m8 bx2 => ?_
    have o1_2 := Xlo bx1 hb2
    replace ALN : Hid (∀ x, Lrb (.slice x0a p.nw x0c) (.slice y0a p.ng y0c) (.slice z0a p.nd z0c) (.slice t0a p.nu t0c) x → x ≠ b0 ∧ x ≠ b1 ∧ x ≠ g ∧ x ≠ b2) := hide (fun x h => by have h1 := ALN.out x h; have h2 := (LN.out.lt x h).2; exact (by omega))
    have og_2 : g < b2 := Xro RD hb2
    clear hb2
    refine sv (.slice (some ⟨b2, 0, none⟩) 0 0) ?_
    refine nt (h6 _ _ (sk fun K7 h7 => rl ?_)); clear h6 K6
    replace bx1 := Xbn bx1 m8
    refine sl6 bx1 ?_
    refine sbp #[.int .i64 0, .slice none 0 0, .int .i64 0, .slice none 0 0, .slice none 0 0, .slice none 0 0] 27 fun V9 b3 hb3 m9 bx3 => ?_
    have o2_3 := Xlo bx2 hb3
    replace LN := Xqn LN m8
    replace ALN : Hid (∀ x, Lrb (.slice x0a p.nw x0c) (.slice y0a p.ng y0c) (.slice z0a p.nd z0c) (.slice t0a p.nu t0c) x → x ≠ b0 ∧ x ≠ b1 ∧ x ≠ g ∧ x ≠ b2 ∧ x ≠ b3) := hide (fun x h => by have h1 := ALN.out x h; have h2 := (LN.out.lt x h).2; exact (by omega))
    replace RD := Xrn RD m8
    have og_3 : g < b3 := Xro RD hb3
    clear hb3
    refine ss6 (.int .i64 p.base) (.slice x0a p.nw x0c) (.int .i64 p.want) (.slice y0a p.ng y0c) (.slice z0a p.nd z0c) (.slice t0a p.nu t0c) bx3 fun V10 m10 bx3 => ?_
    refine nt (h7 _ _ (sk fun K8 h8 => sk fun K9 h9 => rl ?_)); clear h7 K7
    refine sv (.pointer (some ⟨g, 0, none⟩)) ?_
    replace RD := Xrb (Xrn RD m9) m10
    refine sw_call (by rfl) (by first | rfl | (go_simp; done)) (below_any g 24 V10 RD.out (by omega) (by omega)) ?_
    rintro e V11 ⟨nn, rfl, nn0, nn1, hr, hg⟩
    have m11 : Mv (fun x => x = g) V10 V11 := mv_rd hg
    refine ⟨_, rfl, ?_⟩
    refine pt ?_
    replace HB := Xhb (Xhn (Xhn HB m8) m9) m10
    replace HB := hide (HB.out.step m11 (fun x hx e => by have e : x = g := e; omega))
    replace RD := hide hr
    clear hr hg
    refine sv (.int .i64 nn) ?_
    refine nt (h9 _ _ (wp_block ?_)); clear h9 K9
    obtain ⟨nn, rfl⟩ : ∃ m : Nat, nn = m := ⟨nn.toNat, by omega⟩
    replace bx0 := Xbb (Xbb (Xbn (Xbn bx0 m8) m9) m10) m11; replace bx1 := Xbb (Xbb (Xbn bx1 m9) m10) m11; replace LN := Xqb (Xqb (Xqn LN m9) m10 (fun x h => by have := ALN.out x h; omega)) m11 (fun x h => by have := ALN.out x h; omega); replace bx2 := Xbb (Xbb (Xbn bx2 m9) m10) m11; replace bx3 := Xbb bx3 m11
    have CF : Hid (Rg V11 w.heap.size (.slice (some ⟨b2, 0, none⟩) 0 0) 4 0 (aF (fun _ => ⟨0, 0, 0, ⟨#[]⟩⟩))) := hide (.inl ⟨⟨_, rfl⟩, rfl⟩)
    have ACLN : Hid (∀ x, rb (.slice (some ⟨b2, 0, none⟩) 0 0) = some x → ¬ Lrb (.slice x0a p.nw x0c) (.slice y0a p.ng y0c) (.slice z0a p.nd z0c) (.slice t0a p.nu t0c) x) := hide (fun x e h => absurd e (by simp [rb]))
    have CB : Hid (∀ x, rb (.slice (some ⟨b2, 0, none⟩) 0 0) = some x → x ≠ b0 ∧ x ≠ b1 ∧ x ≠ b2 ∧ x ≠ b3 ∧ x ≠ g) := hide (fun x e => absurd e (by simp [rb]))
    have CG : Hid (∀ x, rb (.slice (some ⟨b2, 0, none⟩) 0 0) = some x → g < x) := hide (fun x e => absurd e (by simp [rb]))
    have LW := LN
    have ALW := ALN
    have ACLW := ACLN
    refine wp_loop_ghost (fun m a' w' => ∃ (q : Lk) (n : Nat) (j : Nat) (s : Nat → Ac4) (ca : Option Addr) (cc : Nat) (xa : Option Addr) (xc : Nat) (ya : Option Addr) (yc : Nat) (za : Option Addr) (zc : Nat) (ta : Option Addr) (tc : Nat) (U : Nat → Value), m = n + 1 ∧ a' = ⟨#[.slice ad len cap, undef, .pointer (some ⟨b0, 0, none⟩), .slice none 0 0, .pointer (some ⟨g, 0, none⟩), .pointer (some ⟨b1, 0, none⟩), .slice ca j cc, .pointer (some ⟨b3, 0, none⟩), .int .i64 ((n : Int)), U 0, U 1, U 2, .slice ad len cap, .pointer (some ⟨g, 0, none⟩), .agg #[.int .i64 0, .slice none 0 0, .int .i64 0, .slice none 0 0, .slice none 0 0, .slice none 0 0], .pointer (some ⟨g, 0, none⟩), u16, u17, u18, .slice (some ⟨b2, 0, none⟩) 0 0, .agg #[.int .i64 p.base, .slice x0a p.nw x0c, .int .i64 p.want, .slice y0a p.ng y0c, .slice z0a p.nd z0c, .slice t0a p.nu t0c], .pointer (some ⟨g, 0, none⟩), .int .i64 nn, U 3, U 4, U 5, U 6, U 7, U 8, U 9, U 10, U 11, U 12, U 13, U 14, U 15, U 16, U 17, U 18, U 19, U 20, U 21, U 22, undef, undef], []⟩ ∧ (Mv nob w w') ∧ (Rdr w' g) ∧ (Lr w' w.heap.size (.slice x0a p.nw x0c) (.slice y0a p.ng y0c) (.slice z0a p.nd z0c) (.slice t0a p.nu t0c) p) ∧ (∀ x, Lrb (.slice x0a p.nw x0c) (.slice y0a p.ng y0c) (.slice z0a p.nd z0c) (.slice t0a p.nu t0c) x → x ≠ b0 ∧ x ≠ b1 ∧ x ≠ b2 ∧ x ≠ b3 ∧ x ≠ g) ∧ (Lr w' w.heap.size (.slice xa q.nw xc) (.slice ya q.ng yc) (.slice za q.nd zc) (.slice ta q.nu tc) q) ∧ (∀ x, Lrb (.slice xa q.nw xc) (.slice ya q.ng yc) (.slice za q.nd zc) (.slice ta q.nu tc) x → x ≠ b0 ∧ x ≠ b1 ∧ x ≠ b2 ∧ x ≠ b3 ∧ x ≠ g) ∧ (Rg w' w.heap.size (.slice ca j cc) 4 j (aF s)) ∧ (∀ x, rb (.slice ca j cc) = some x → ¬ Lrb (.slice x0a p.nw x0c) (.slice y0a p.ng y0c) (.slice z0a p.nd z0c) (.slice t0a p.nu t0c) x) ∧ (∀ x, rb (.slice ca j cc) = some x → ¬ Lrb (.slice xa q.nw xc) (.slice ya q.ng yc) (.slice za q.nd zc) (.slice ta q.nu tc) x) ∧ (∀ x, rb (.slice ca j cc) = some x → x ≠ b0 ∧ x ≠ b1 ∧ x ≠ b2 ∧ x ≠ b3 ∧ x ≠ g) ∧ (∀ x, rb (.slice ca j cc) = some x → g < x) ∧ (Lsm 1048576 q) ∧ (j + n ≤ 24) ∧ (w'.heap[b0]? = some (.cells #[.int .i64 0, .slice none 0 0, .int .i64 0, .slice none 0 0, .slice none 0 0, .slice none 0 0] 27 (0, 0))) ∧ (w'.heap[b1]? = some (.cells #[.int .i64 p.base, .slice x0a p.nw x0c, .int .i64 p.want, .slice y0a p.ng y0c, .slice z0a p.nd z0c, .slice t0a p.nu t0c] 27 (0, 0))) ∧ (w'.heap[b2]? = some (.cells #[] 29 (0, 0))) ∧ (w'.heap[b3]? = some (.cells #[.int .i64 q.base, .slice xa q.nw xc, .int .i64 q.want, .slice ya q.ng yc, .slice za q.nd zc, .slice ta q.nu tc] 27 (0, 0)))) (nn + 1) ⟨p, nn, 0, (fun _ => ⟨0, 0, 0, ⟨#[]⟩⟩), some ⟨b2, 0, none⟩, 0, x0a, x0c, y0a, y0c, z0a, z0c, t0a, t0c, fun i => [undef, undef, undef, undef, undef, undef, undef, undef, undef, undef, undef, undef, undef, undef, undef, undef, undef, undef, undef, undef, undef, undef, undef].getD i undef, rfl, rfl, (HB.out), (RD.out), (LN.out), (fun x h => by have := ALN.out x h; exact (by omega)), (LW.out), (fun x h => by have := ALW.out x h; exact (by omega)), (CF.out), (ACLN.out), (ACLW.out), (CB.out), (CG.out), (hsm), (by omega), (bx0.out), (bx1.out), (bx2.out), (bx3.out)⟩ (fun m a' VL1 hI => ?_)
    obtain ⟨q, n, j, s, ca, cc, xa, xc, ya, yc, za, zc, ta, tc, U, rfl, rfl, i_HB, i_RD, i_LN, i_ALN, i_LW, i_ALW, i_CF, i_ACLN, i_ACLW, i_CB, i_CG, i_QF, i_NL, i_bx0, i_bx1, i_bx2, i_bx3⟩ := hI
    clear HB bx0 RD bx1 LN bx2 bx3 LW CF
    have HB := hide i_HB; clear i_HB
    have RD := hide i_RD; clear i_RD
    have LN := hide i_LN; clear i_LN
    have ALN := hide i_ALN; clear i_ALN
    have LW := hide i_LW; clear i_LW
    have ALW := hide i_ALW; clear i_ALW
    have CF := hide i_CF; clear i_CF
    have ACLN := hide i_ACLN; clear i_ACLN
    have ACLW := hide i_ACLW; clear i_ACLW
    have CB := hide i_CB; clear i_CB
    have CG := hide i_CG; clear i_CG
    have QF := hide i_QF; clear i_QF
    have NL := hide i_NL; clear i_NL
    have bx0 := hide i_bx0; clear i_bx0
    have bx1 := hide i_bx1; clear i_bx1
    have bx2 := hide i_bx2; clear i_bx2
    have bx3 := hide i_bx3; clear i_bx3
    refine sk fun K10 h10 => sk fun K11 h11 => rl ?_
    by_cases hn : 0 < n
    · refine sv (.int .i64 ((n : Int))) ?_
      refine sg (.bool true) (h := by have hd : decide (0 < n) = true := (by simpa using hn); go_simp) ?_
      refine nt (h11 _ _ (ct (wp_skip (then_normal (h10 _ _ (sk fun K12 h12 => wp_block (sk fun K13 h13 => rl ?_))))))); clear h11 K11; clear h10 K10
      refine sv (.pointer (some ⟨g, 0, none⟩)) ?_
      refine sl6 bx3 ?_
      refine sw_call (by rfl) (by first | rfl | (go_simp; done)) (lact_any g q (.slice xa q.nw xc) (.slice ya q.ng yc) za ta zc tc VL1 RD.out QF.out.2.2.1.1 QF.out.2.2.2.1) ?_
      rintro e V12 ⟨k, z, bit, bd, rfl, hr, hg⟩
      have m12 : Mv (fun x => x = g) VL1 V12 := mv_rd hg
      refine ⟨_, rfl, ?_⟩
      refine pt ?_
      replace HB := hide (HB.out.step m12 (fun x hx e => by have e : x = g := e; omega))
      replace CF := hide (CF.out.mv m12 (fun x e h => by have h : x = g := h; have := CB.out x e; omega))
      replace RD := hide hr
      clear hr hg
      replace bx3 := Xbb bx3 m12
      refine sbp #[.int .i64 0, .int .i64 0, .int .i64 0, .string ⟨#[]⟩] 29 fun V13 b4 hb4 m13 bx4 => ?_
      have o3_4 := Xlo bx3 hb4
      replace CB : Hid (∀ x, rb (.slice ca j cc) = some x → x ≠ b0 ∧ x ≠ b1 ∧ x ≠ b2 ∧ x ≠ b3 ∧ x ≠ g ∧ x ≠ b4) := hide (fun x h => by have h1 := CB.out x h; have h2 := (CF.out.lt x h).2; exact (by omega))
      replace LN := Xqb LN m12 (fun x h => by have := ALN.out x h; omega)
      replace ALN : Hid (∀ x, Lrb (.slice x0a p.nw x0c) (.slice y0a p.ng y0c) (.slice z0a p.nd z0c) (.slice t0a p.nu t0c) x → x ≠ b0 ∧ x ≠ b1 ∧ x ≠ b2 ∧ x ≠ b3 ∧ x ≠ g ∧ x ≠ b4) := hide (fun x h => by have h1 := ALN.out x h; have h2 := (LN.out.lt x h).2; exact (by omega))
      replace LW := Xqb LW m12 (fun x h => by have := ALW.out x h; omega)
      replace ALW : Hid (∀ x, Lrb (.slice xa q.nw xc) (.slice ya q.ng yc) (.slice za q.nd zc) (.slice ta q.nu tc) x → x ≠ b0 ∧ x ≠ b1 ∧ x ≠ b2 ∧ x ≠ b3 ∧ x ≠ g ∧ x ≠ b4) := hide (fun x h => by have h1 := ALW.out x h; have h2 := (LW.out.lt x h).2; exact (by omega))
      have og_4 : g < b4 := Xro RD hb4
      replace CF := hide (CF.out.mv m13 (fun _ _ h => h))
      clear hb4
      refine ss4 (.int .i64 k) (.int .i64 z) (.int .i64 bit) (.string bd) bx4 fun V14 m14 bx4 => ?_
      replace CF := hide (CF.out.mv m14 (fun x e h => by have h : x = b4 := h; have := CB.out x e; omega))
      refine nt (h13 _ _ (sk fun K14 h14 => rl ?_)); clear h13 K13
      refine sv (.slice ca j cc) ?_
      refine sg (.agg #[.int .i64 k, .int .i64 z, .int .i64 bit, .string bd]) (h := by have z0 := cell_box 0 (bx4.out) rfl; have z1 := cell_box 1 (bx4.out) rfl; have z2 := cell_box 2 (bx4.out) rfl; have z3 := cell_box 3 (bx4.out) rfl; go_simp) ?_
      refine sbs 1 #[.int .i64 k, .int .i64 z, .int .i64 bit, .string bd] 29 fun V15 b5 hb5 m15 bx5 => ?_
      have o4_5 := Xlo bx4 hb5
      replace CB : Hid (∀ x, rb (.slice ca j cc) = some x → x ≠ b0 ∧ x ≠ b1 ∧ x ≠ b2 ∧ x ≠ b3 ∧ x ≠ b4 ∧ x ≠ g ∧ x ≠ b5) := hide (fun x h => by have h1 := CB.out x h; have h2 := (CF.out.lt x h).2; exact (by omega))
      replace LN := Xqb (Xqn LN m13) m14 (fun x h => by have := ALN.out x h; omega)
      replace ALN : Hid (∀ x, Lrb (.slice x0a p.nw x0c) (.slice y0a p.ng y0c) (.slice z0a p.nd z0c) (.slice t0a p.nu t0c) x → x ≠ b0 ∧ x ≠ b1 ∧ x ≠ b2 ∧ x ≠ b3 ∧ x ≠ g ∧ x ≠ b4 ∧ x ≠ b5) := hide (fun x h => by have h1 := ALN.out x h; have h2 := (LN.out.lt x h).2; exact (by omega))
      replace LW := Xqb (Xqn LW m13) m14 (fun x h => by have := ALW.out x h; omega)
      replace ALW : Hid (∀ x, Lrb (.slice xa q.nw xc) (.slice ya q.ng yc) (.slice za q.nd zc) (.slice ta q.nu tc) x → x ≠ b0 ∧ x ≠ b1 ∧ x ≠ b2 ∧ x ≠ b3 ∧ x ≠ g ∧ x ≠ b4 ∧ x ≠ b5) := hide (fun x h => by have h1 := ALW.out x h; have h2 := (LW.out.lt x h).2; exact (by omega))
      replace RD := Xrb (Xrn RD m13) m14
      have og_5 : g < b5 := Xro RD hb5
      replace CF := hide (CF.out.mv m15 (fun _ _ h => h))
      clear hb5
      have szT := lt_of_block bx5.out
      replace HB := Xhn (Xhb (Xhn HB m13) m14) m15
      have szW := HB.out.size
      have hcb := fun x e => (CF.out.lt x e).1
      replace LN := Xqn LN m15
      have hltLN := fun x h => (LN.out.lt x h).2
      replace LW := Xqn LW m15
      have hltLW := fun x h => (LW.out.lt x h).2
      have hcg : ∀ x, rb (.slice ca j cc) = some x → g < x := fun x e => CG.out x e
      replace RD := Xrn RD m15
      have szG := RD.out.lt
      obtain ⟨gx, ox, kx, V16, hrun, hgr, hrg, hbl, hold⟩ := add_act V15 w.heap.size (.slice ca j cc) j s ⟨k, z, bit, bd⟩ 37 b5 0 1 (cell_box 0 bx5.out rfl) (cell_box 1 bx5.out rfl) (cell_box 2 bx5.out rfl) (cell_box 3 bx5.out rfl) CF.out (by have := NL.out; omega) szW
      have m16 : Mv (fun x => rb (.slice ca j cc) = some x) V15 V16 := Mv.of_grown hgr
      refine sw_valW (by rfl) (run_append_op _ _ 37 (by rfl) (by rfl) (by rfl) hrun) ?_
      refine pt ?_
      replace HB := hide (HB.out.step m16 (fun x hx e => by have := hcb x e; exfalso; omega))
      replace bx0 := Xbn (Xbb (Xbn (Xbb bx0 m12) m13) m14) m15
      replace bx0 := hide (m16.box bx0.out (fun h => by have := CB.out _ h; omega))
      replace RD := hide (RD.out.mv m16 (fun x e => hcg x e))
      replace bx1 := Xbn (Xbb (Xbn (Xbb bx1 m12) m13) m14) m15
      replace bx1 := hide (m16.box bx1.out (fun h => by have := CB.out _ h; omega))
      replace LN := hide (LN.out.mv m16 (fun g hg e => ACLN.out g e hg))
      replace bx2 := Xbn (Xbb (Xbn (Xbb bx2 m12) m13) m14) m15
      replace bx2 := hide (m16.box bx2.out (fun h => by have := CB.out _ h; omega))
      replace bx3 := Xbn (Xbb (Xbn bx3 m13) m14) m15
      replace bx3 := hide (m16.box bx3.out (fun h => by have := CB.out _ h; omega))
      replace LW := hide (LW.out.mv m16 (fun g hg e => ACLW.out g e hg))
      replace bx4 := Xbn bx4 m15
      replace bx4 := hide (m16.box bx4.out (fun h => by have := CB.out _ h; omega))
      replace bx5 := hide (m16.box bx5.out (fun h => by have := CB.out _ h; omega))
      have CF := hide (hrg)
      clear hrun hgr hrg hold
      replace ACLN : Hid (∀ x, rb (.slice (some ⟨gx, ox, none⟩) (j + 1) kx) = some x → ¬ Lrb (.slice x0a p.nw x0c) (.slice y0a p.ng y0c) (.slice z0a p.nd z0c) (.slice t0a p.nu t0c) x) := hide (fun x e h => by have e2 : gx = x := rb_blk e; subst e2; exact hbl.elim (fun q => ACLN.out gx q h) (fun q => by have := hltLN gx h; omega))
      replace ACLW : Hid (∀ x, rb (.slice (some ⟨gx, ox, none⟩) (j + 1) kx) = some x → ¬ Lrb (.slice xa q.nw xc) (.slice ya q.ng yc) (.slice za q.nd zc) (.slice ta q.nu tc) x) := hide (fun x e h => by have e2 : gx = x := rb_blk e; subst e2; exact hbl.elim (fun q => ACLW.out gx q h) (fun q => by have := hltLW gx h; omega))
      replace CB : Hid (∀ x, rb (.slice (some ⟨gx, ox, none⟩) (j + 1) kx) = some x → x ≠ b0 ∧ x ≠ b1 ∧ x ≠ b2 ∧ x ≠ b3 ∧ x ≠ b4 ∧ x ≠ b5 ∧ x ≠ g) := hide (fun x e => by have e2 : gx = x := rb_blk e; subst e2; exact hbl.elim (fun q => by have := CB.out gx q; exact (by omega)) (fun q => by omega))
      replace CG : Hid (∀ x, rb (.slice (some ⟨gx, ox, none⟩) (j + 1) kx) = some x → g < x) := hide (fun x e => by have e2 : gx = x := rb_blk e; subst e2; exact hbl.elim (fun q => CG.out gx q) (fun q => by omega))
      clear hbl szT szW hcb hcg szG hltLN hltLW
      refine sv (.slice (some ⟨gx, ox, none⟩) (j + 1) kx) ?_
      refine nt (h14 _ _ (sk fun K15 h15 => rl ?_)); clear h14 K14
      have hdo := fun V wv gv dv uv (h : La V wv gv dv uv q) => specLinkDo_any q wv gv dv uv V h QF.out k z bit bd
      have smL := do_sm q k z bit bd
      generalize doL q k z bit bd = L at hdo smL
      generalize doC q k z bit bd = C at hdo
      refine sl6 bx3 ?_
      refine sg (.agg #[.int .i64 k, .int .i64 z, .int .i64 bit, .string bd]) (h := by have z0 := cell_box 0 (bx4.out) rfl; have z1 := cell_box 1 (bx4.out) rfl; have z2 := cell_box 2 (bx4.out) rfl; have z3 := cell_box 3 (bx4.out) rfl; go_simp) ?_
      have szT := lt_of_block bx5.out
      have szG := RD.out.lt
      have szW := HB.out.size
      have hct := fun x e => (CF.out.lt x e).2
      refine sw_call (by rfl) (by first | rfl | (go_simp; done)) (hdo V16 _ _ _ _ LW.out.la) ?_
      rintro e V17 ⟨wv1, gv1, dv1, uv1, rfl, LQ, hbl⟩
      have m17 : Mv (nob) V16 V17 := Mv.of_below hbl
      refine ⟨_, rfl, ?_⟩
      refine pt ?_
      replace CF := hide (CF.out.mv m17 (fun _ _ h => h))
      obtain ⟨x2a, x2c, rfl, _⟩ := LQ.wa.form
      obtain ⟨y2a, y2c, rfl, _⟩ := LQ.go.form
      obtain ⟨z2a, z2c, rfl, _⟩ := LQ.dn.form
      obtain ⟨t2a, t2c, rfl, _⟩ := LQ.up.form
      have LX := hide (LQ.lower szW)
      have ALX : Hid (∀ x, Lrb (.slice x2a L.nw x2c) (.slice y2a L.ng y2c) (.slice z2a L.nd z2c) (.slice t2a L.nu t2c) x → x ≠ b0 ∧ x ≠ b1 ∧ x ≠ b2 ∧ x ≠ b3 ∧ x ≠ b4 ∧ x ≠ b5 ∧ x ≠ g) := hide (fun x h => by have := (LQ.lt x h).1; exact (by omega))
      have ACLX : Hid (∀ x, rb (.slice (some ⟨gx, ox, none⟩) (j + 1) kx) = some x → ¬ Lrb (.slice x2a L.nw x2c) (.slice y2a L.ng y2c) (.slice z2a L.nd z2c) (.slice t2a L.nu t2c) x) := hide (fun x e h => by have := hct x e; have := (LQ.lt x h).1; omega)
      clear LQ hbl hdo szW szT szG hct
      refine sv (.tuple #[.agg #[.int .i64 L.base, .slice x2a L.nw x2c, .int .i64 L.want, .slice y2a L.ng y2c, .slice z2a L.nd z2c, .slice t2a L.nu t2c], .int .i64 C]) ?_
      refine sv (.agg #[.int .i64 L.base, .slice x2a L.nw x2c, .int .i64 L.want, .slice y2a L.ng y2c, .slice z2a L.nd z2c, .slice t2a L.nu t2c]) ?_
      refine sv (.int .i64 C) ?_
      replace bx5 := Xbn bx5 m17
      refine sbp #[.int .i64 0, .slice none 0 0, .int .i64 0, .slice none 0 0, .slice none 0 0, .slice none 0 0] 27 fun V18 b6 hb6 m18 bx6 => ?_
      have o5_6 := Xlo bx5 hb6
      replace CB : Hid (∀ x, rb (.slice (some ⟨gx, ox, none⟩) (j + 1) kx) = some x → x ≠ b0 ∧ x ≠ b1 ∧ x ≠ b2 ∧ x ≠ b3 ∧ x ≠ b4 ∧ x ≠ b5 ∧ x ≠ g ∧ x ≠ b6) := hide (fun x h => by have h1 := CB.out x h; have h2 := (CF.out.lt x h).2; exact (by omega))
      replace LN := Xqn LN m17
      replace ALN : Hid (∀ x, Lrb (.slice x0a p.nw x0c) (.slice y0a p.ng y0c) (.slice z0a p.nd z0c) (.slice t0a p.nu t0c) x → x ≠ b0 ∧ x ≠ b1 ∧ x ≠ b2 ∧ x ≠ b3 ∧ x ≠ g ∧ x ≠ b4 ∧ x ≠ b5 ∧ x ≠ b6) := hide (fun x h => by have h1 := ALN.out x h; have h2 := (LN.out.lt x h).2; exact (by omega))
      replace LW := Xqn LW m17
      replace ALW : Hid (∀ x, Lrb (.slice xa q.nw xc) (.slice ya q.ng yc) (.slice za q.nd zc) (.slice ta q.nu tc) x → x ≠ b0 ∧ x ≠ b1 ∧ x ≠ b2 ∧ x ≠ b3 ∧ x ≠ g ∧ x ≠ b4 ∧ x ≠ b5 ∧ x ≠ b6) := hide (fun x h => by have h1 := ALW.out x h; have h2 := (LW.out.lt x h).2; exact (by omega))
      replace ALX : Hid (∀ x, Lrb (.slice x2a L.nw x2c) (.slice y2a L.ng y2c) (.slice z2a L.nd z2c) (.slice t2a L.nu t2c) x → x ≠ b0 ∧ x ≠ b1 ∧ x ≠ b2 ∧ x ≠ b3 ∧ x ≠ b4 ∧ x ≠ b5 ∧ x ≠ g ∧ x ≠ b6) := hide (fun x h => by have h1 := ALX.out x h; have h2 := (LX.out.lt x h).2; exact (by omega))
      replace RD := Xrn RD m17
      have og_6 : g < b6 := Xro RD hb6
      replace CF := hide (CF.out.mv m18 (fun _ _ h => h))
      clear hb6
      refine ss6 (.int .i64 L.base) (.slice x2a L.nw x2c) (.int .i64 L.want) (.slice y2a L.ng y2c) (.slice z2a L.nd z2c) (.slice t2a L.nu t2c) bx6 fun V19 m19 bx6 => ?_
      replace CF := hide (CF.out.mv m19 (fun x e h => by have h : x = b6 := h; have := CB.out x e; omega))
      refine sv (.int .i64 C) ?_
      refine nt (h15 _ _ (sk fun K16 h16 => rl ?_)); clear h15 K15
      by_cases hC : ¬ C = 1
      · refine sv (.int .i64 C) ?_
        refine sg (.bool true) (h := by have hC := hC; go_simp) ?_
        refine nt (h16 _ _ (ct (rl ?_))); clear h16 K16
        refine sl6 bx6 ?_
        replace bx3 := Xbb (Xbn (Xbn bx3 m17) m18) m19
        refine ss6 (.int .i64 L.base) (.slice x2a L.nw x2c) (.int .i64 L.want) (.slice y2a L.ng y2c) (.slice z2a L.nd z2c) (.slice t2a L.nu t2c) bx3 fun V20 m20 bx3 => ?_
        replace CF := hide (CF.out.mv m20 (fun x e h => by have h : x = b3 := h; have := CB.out x e; omega))
        refine wpList_nil (inb_norm (then_normal (h12 _ _ (rl ?_)))); clear h12 K12
        refine sv (.int .i64 ((n : Int))) ?_
        refine sg (.int .i64 (((n - 1 : Nat) : Int))) (h := by have hw : IntKind.i64.wrap ((n : Int) - 1) = ((n - 1 : Nat) : Int) := (by have := NL.out; rw [i64wrap (by omega)]; omega); go_simp) ?_
        refine sv (.int .i64 (((n - 1 : Nat) : Int))) ?_
        refine wpList_nil (then_normal ?_)
        replace HB := Xhb (Xhb (Xhn (Xhn HB m17) m18) m19) m20; replace bx0 := Xbb (Xbb (Xbn (Xbn bx0 m17) m18) m19) m20; replace bx1 := Xbb (Xbb (Xbn (Xbn bx1 m17) m18) m19) m20; replace bx2 := Xbb (Xbb (Xbn (Xbn bx2 m17) m18) m19) m20; replace bx4 := Xbb (Xbb (Xbn (Xbn bx4 m17) m18) m19) m20; replace RD := Xrb (Xrb (Xrn RD m18) m19) m20
        replace LN := Xqb (Xqb (Xqn LN m18) m19 (fun x h => by have := ALN.out x h; omega)) m20 (fun x h => by have := ALN.out x h; omega); replace LW := Xqb (Xqb (Xqn LW m18) m19 (fun x h => by have := ALW.out x h; omega)) m20 (fun x h => by have := ALW.out x h; omega); replace bx5 := Xbb (Xbb (Xbn bx5 m18) m19) m20
        replace LX := Xqb (Xqb (Xqn LX m18) m19 (fun x h => by have := ALX.out x h; omega)) m20 (fun x h => by have := ALX.out x h; omega); replace bx6 := Xbb bx6 m20
        exact ⟨(n - 1 + 1), (by omega), L, (n - 1), (j + 1), (snc s j ⟨k, z, bit, bd⟩), (some ⟨gx, ox, none⟩), kx, x2a, x2c, y2a, y2c, z2a, z2c, t2a, t2c, fun i => [.pointer (some ⟨b4, 0, none⟩), .pointer (some ⟨b6, 0, none⟩), .int .i64 C, .int .i64 ((n : Int)), .bool true, .int .i64 ((n : Int)), .int .i64 (((n - 1 : Nat) : Int)), .pointer (some ⟨g, 0, none⟩), .agg #[.int .i64 q.base, .slice xa q.nw xc, .int .i64 q.want, .slice ya q.ng yc, .slice za q.nd zc, .slice ta q.nu tc], .agg #[.int .i64 k, .int .i64 z, .int .i64 bit, .string bd], .slice ca j cc, .agg #[.int .i64 k, .int .i64 z, .int .i64 bit, .string bd], .slice (some ⟨b5, 0, none⟩) 1 1, .slice (some ⟨gx, ox, none⟩) (j + 1) kx, .tuple #[.agg #[.int .i64 L.base, .slice x2a L.nw x2c, .int .i64 L.want, .slice y2a L.ng y2c, .slice z2a L.nd z2c, .slice t2a L.nu t2c], .int .i64 C], .agg #[.int .i64 q.base, .slice xa q.nw xc, .int .i64 q.want, .slice ya q.ng yc, .slice za q.nd zc, .slice ta q.nu tc], .agg #[.int .i64 k, .int .i64 z, .int .i64 bit, .string bd], .tuple #[.agg #[.int .i64 L.base, .slice x2a L.nw x2c, .int .i64 L.want, .slice y2a L.ng y2c, .slice z2a L.nd z2c, .slice t2a L.nu t2c], .int .i64 C], .agg #[.int .i64 L.base, .slice x2a L.nw x2c, .int .i64 L.want, .slice y2a L.ng y2c, .slice z2a L.nd z2c, .slice t2a L.nu t2c], .int .i64 C, .int .i64 C, .bool true, .agg #[.int .i64 L.base, .slice x2a L.nw x2c, .int .i64 L.want, .slice y2a L.ng y2c, .slice z2a L.nd z2c, .slice t2a L.nu t2c]].getD i undef, rfl, rfl, (HB.out), (RD.out), (LN.out), (fun x h => by have := ALN.out x h; exact (by omega)), (LX.out), (fun x h => by have := ALX.out x h; exact (by omega)), (CF.out), (ACLN.out), (ACLX.out), (fun x h => by have := CB.out x h; exact (by omega)), (CG.out), (smL), (by have := NL.out; omega), (bx0.out), (bx1.out), (bx2.out), (bx3.out)⟩
      · have hC1 : C = 1 := by omega
        subst hC1
        refine sv (.int .i64 1) ?_
        refine sg (.bool false) ?_
        refine nt (h16 _ _ (cf (wp_skip (inb_norm (then_normal (h12 _ _ (rl ?_))))))); clear h16 K16; clear h12 K12
        refine sv (.int .i64 ((n : Int))) ?_
        refine sg (.int .i64 (((n - 1 : Nat) : Int))) (h := by have hw : IntKind.i64.wrap ((n : Int) - 1) = ((n - 1 : Nat) : Int) := (by have := NL.out; rw [i64wrap (by omega)]; omega); go_simp) ?_
        refine sv (.int .i64 (((n - 1 : Nat) : Int))) ?_
        refine wpList_nil (then_normal ?_)
        replace HB := Xhb (Xhn (Xhn HB m17) m18) m19; replace bx0 := Xbb (Xbn (Xbn bx0 m17) m18) m19; replace bx1 := Xbb (Xbn (Xbn bx1 m17) m18) m19; replace bx2 := Xbb (Xbn (Xbn bx2 m17) m18) m19; replace bx3 := Xbb (Xbn (Xbn bx3 m17) m18) m19; replace bx4 := Xbb (Xbn (Xbn bx4 m17) m18) m19; replace RD := Xrb (Xrn RD m18) m19
        replace LN := Xqb (Xqn LN m18) m19 (fun x h => by have := ALN.out x h; omega); replace LW := Xqb (Xqn LW m18) m19 (fun x h => by have := ALW.out x h; omega); replace bx5 := Xbb (Xbn bx5 m18) m19; replace LX := Xqb (Xqn LX m18) m19 (fun x h => by have := ALX.out x h; omega)
        exact ⟨(n - 1 + 1), (by omega), q, (n - 1), (j + 1), (snc s j ⟨k, z, bit, bd⟩), (some ⟨gx, ox, none⟩), kx, xa, xc, ya, yc, za, zc, ta, tc, fun i => [.pointer (some ⟨b4, 0, none⟩), .pointer (some ⟨b6, 0, none⟩), .int .i64 1, .int .i64 ((n : Int)), .bool true, .int .i64 ((n : Int)), .int .i64 (((n - 1 : Nat) : Int)), .pointer (some ⟨g, 0, none⟩), .agg #[.int .i64 q.base, .slice xa q.nw xc, .int .i64 q.want, .slice ya q.ng yc, .slice za q.nd zc, .slice ta q.nu tc], .agg #[.int .i64 k, .int .i64 z, .int .i64 bit, .string bd], .slice ca j cc, .agg #[.int .i64 k, .int .i64 z, .int .i64 bit, .string bd], .slice (some ⟨b5, 0, none⟩) 1 1, .slice (some ⟨gx, ox, none⟩) (j + 1) kx, .tuple #[.agg #[.int .i64 L.base, .slice x2a L.nw x2c, .int .i64 L.want, .slice y2a L.ng y2c, .slice z2a L.nd z2c, .slice t2a L.nu t2c], .int .i64 1], .agg #[.int .i64 q.base, .slice xa q.nw xc, .int .i64 q.want, .slice ya q.ng yc, .slice za q.nd zc, .slice ta q.nu tc], .agg #[.int .i64 k, .int .i64 z, .int .i64 bit, .string bd], .tuple #[.agg #[.int .i64 L.base, .slice x2a L.nw x2c, .int .i64 L.want, .slice y2a L.ng y2c, .slice z2a L.nd z2c, .slice t2a L.nu t2c], .int .i64 1], .agg #[.int .i64 L.base, .slice x2a L.nw x2c, .int .i64 L.want, .slice y2a L.ng y2c, .slice z2a L.nd z2c, .slice t2a L.nu t2c], .int .i64 1, .int .i64 1, .bool false, U 22].getD i undef, rfl, rfl, (HB.out), (RD.out), (LN.out), (fun x h => by have := ALN.out x h; exact (by omega)), (LW.out), (fun x h => by have := ALW.out x h; exact (by omega)), (CF.out), (ACLN.out), (ACLW.out), (fun x h => by have := CB.out x h; exact (by omega)), (CG.out), (QF.out), (by have := NL.out; omega), (bx0.out), (bx1.out), (bx2.out), (bx3.out)⟩
    · refine sv (.int .i64 ((n : Int))) ?_
      refine sg (.bool false) (h := by have hd : decide (0 < n) = false := (by simpa using hn); go_simp) ?_
      refine nt (h11 _ _ (cf (wp_exit (then_exit (then_exit (inb_here rfl (then_normal (h8 _ _ (sk fun K17 h17 => rl ?_))))))))); clear h11 K11; clear h10 K10; clear h8 K8
      refine sl6 bx1 ?_
      refine sv (.slice ca j cc) ?_
      refine ss6 (.int .i64 p.base) (.slice x0a p.nw x0c) (.int .i64 p.want) (.slice y0a p.ng y0c) (.slice z0a p.nd z0c) (.slice t0a p.nu t0c) bx0 fun V21 m21 bx0 => ?_
      clear RD
      replace CF := hide (CF.out.mv m21 (fun x e h => by have h : x = b0 := h; have := CB.out x e; omega))
      refine sv (.slice ca j cc) ?_
      refine nt (h17 _ _ (wp_ret ?_)); clear h17 K17
      replace HB := Xhb HB m21; replace bx1 := Xbb bx1 m21; replace LN := Xqb LN m21 (fun x h => by have := ALN.out x h; omega); replace bx2 := Xbb bx2 m21; replace bx3 := Xbb bx3 m21; replace LW := Xqb LW m21 (fun x h => by have := ALW.out x h; omega)
      obtain ⟨_, q0_0, q0_1, q0_2, q0_3, q0_4, q0_5⟩ := box6 bx0.out
      exact bodyPost_ret (v := .tuple #[.agg #[.int .i64 p.base, .slice x0a p.nw x0c, .int .i64 p.want, .slice y0a p.ng y0c, .slice z0a p.nd z0c, .slice t0a p.nu t0c], .slice ca j cc]) (by simp [results, Try.results15, go_sem, q0_0, q0_1, q0_2, q0_3, q0_4, q0_5]) rfl ⟨_, _, _, _, _, _, _, _, _, rfl, LN.out, hsm, CF.out, by have := NL.out; omega, HB.out.below⟩
  rcases (show t = true ∨ t = false by cases t <;> simp) with rfl | rfl
  · refine nt (h5 _ _ (ct (rl ?_))); clear h5 K5
    refine sv (.pointer (some ⟨g, 0, none⟩)) ?_
    have szT := lt_of_block bx1.out
    have szG := RD.out.lt
    have szW := HB.out.size
    refine sw_call (by rfl) (by first | rfl | (go_simp; done)) (link_any g 10 V5 RD.out (by decide) (by decide)) ?_
    rintro e V22 ⟨wv, gv, dv, uv, p, rfl, LQ, hsm, hr, hg, hng⟩
    have m22 : Mv (fun x => x = g) V5 V22 := mv_rd hg
    refine ⟨_, rfl, ?_⟩
    refine pt ?_
    replace HB := hide (HB.out.step m22 (fun x hx e => by have e : x = g := e; omega))
    replace RD := hide hr
    clear hr hg
    obtain ⟨x0a, x0c, rfl, _⟩ := LQ.wa.form
    obtain ⟨y0a, y0c, rfl, _⟩ := LQ.go.form
    obtain ⟨z0a, z0c, rfl, _⟩ := LQ.dn.form
    obtain ⟨t0a, t0c, rfl, _⟩ := LQ.up.form
    have LN := hide (LQ.lower szW)
    have ALN : Hid (∀ x, Lrb (.slice x0a p.nw x0c) (.slice y0a p.ng y0c) (.slice z0a p.nd z0c) (.slice t0a p.nu t0c) x → x ≠ b0 ∧ x ≠ b1 ∧ x ≠ g) := hide (fun x h => by have := (LQ.lt x h).1; exact (by omega))
    clear LQ szW szT szG
    replace bx1 := Xbb bx1 m22
    refine ss6 (.int .i64 p.base) (.slice x0a p.nw x0c) (.int .i64 p.want) (.slice y0a p.ng y0c) (.slice z0a p.nd z0c) (.slice t0a p.nu t0c) bx1 fun V23 m23 bx1 => ?_
    refine wpList_nil (then_normal ?_)
    replace bx0 := Xbb (Xbb bx0 m22) m23; replace HB := Xhb HB m23; replace RD := Xrb RD m23; replace LN := Xqb LN m23 (fun x h => by have := ALN.out x h; omega)
    exact hJ1 _ _ _ _ _ _ _ _ _ _ _ _ _ HB.out RD.out bx0.out bx1.out LN.out (fun x h => by have := ALN.out x h; exact (by omega)) hsm
  · refine nt (h5 _ _ (cf (wp_skip (then_normal ?_)))); clear h5 K5
    have hsm := (lk_iff.1 (show lkB zeL = true by decide)).sm
    have LN : Hid (Lr V5 w.heap.size (.slice none zeL.nw 0) (.slice none zeL.ng 0) (.slice none zeL.nd 0) (.slice none zeL.nu 0) zeL) := hide (zeL_lr _ _)
    have ALN : Hid (∀ x, Lrb (.slice none zeL.nw 0) (.slice none zeL.ng 0) (.slice none zeL.nd 0) (.slice none zeL.nu 0) x → x ≠ b0 ∧ x ≠ b1 ∧ x ≠ g) := hide (fun x h => by rcases h with h | h | h | h <;> cases h)
    exact hJ1 _ _ _ _ _ _ _ _ _ _ _ _ _ HB.out RD.out bx0.out bx1.out LN.out (fun x h => by have := ALN.out x h; exact (by omega)) hsm

end Go.Proofs.Ytgflipkhhpkidaa
