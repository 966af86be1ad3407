/- LsG -/
import Derived.Test.YtnkocikbapbbmaaYnkPlay50
import Derived.Deep.LoopGhost
/- acts of a link one by one, plainly; impl.LinkPlay (written by mkLsG.py) -/
namespace Go.Proofs.Ytnkocikbapbbmaa
open Go.RowKit
set_option linter.unusedVariables false
set_option linter.unusedSimpArgs false

theorem Mv.le {S : Nat → Prop} {w v : World} {c : Nat} (h : Mv S w v) (e : v.heap.size = c) : w.heap.size ≤ c := e ▸ h.size
/-- an act's fields -/
structure Ac4 where
  k : Int
  z : Int
  b : Int
  d : ByteArray
/-- a row of acts in memory; a row of codes -/
def aF (s : Nat → Ac4) : Nat → Nat → Value := fun j i => match i with
  | 0 => .int .i64 (s j).k
  | 1 => .int .i64 (s j).z
  | 2 => .int .i64 (s j).b
  | _ => .string (s j).d
def iF (c : Nat → Int) : Nat → Nat → Value := fun j _ => .int .i64 (c j)
/-- a link behind the first acts of a row; what an act of it comes to -/
def plN (s : Nat → Ac4) : Nat → Lk → Lk
  | 0, p => p
  | j + 1, p => ldL (plN s j p) (s j).k (s j).z (s j).b (s j).d
def pcN (s : Nat → Ac4) (p : Lk) (j : Nat) : Int := ldC (plN s j p) (s j).k (s j).z (s j).b (s j).d
theorem pl_lf {s : Nat → Ac4} {p : Lk} (h : Lf p) : ∀ j, Lf (plN s j p)
  | 0 => h
  | j + 1 => ld_lf (pl_lf h j) _ _ _ _
theorem infoI64 : (Try.prog.info? 2).map (fun i => (i.zero, i.size, i.bytes)) = some (some (.int .i64 0), 1, 8) := by kernel_rfl
theorem iF_snc (c : Nat → Int) (n j i : Nat) (h : j < n + 1) : iF (snc c n (c n)) j i = iF c j i := by
  unfold iF snc
  by_cases hj : j < n
  · rw [if_pos hj]
  · rw [if_neg hj, show j = n by omega]
theorem iF_snc2 (c : Nat → Int) (n : Nat) (x : Int) (j i : Nat) (h : j < n + 1) : (if j < n then iF c j i else Value.int .i64 x) = iF (snc c n x) j i := by
  unfold iF snc
  by_cases hj : j < n
  · rw [if_pos hj, if_pos hj]
  · rw [if_neg hj, if_neg hj]
/-- a code appended -/
theorem add_int (W : World) (base : Nat) (v : Value) (n : Nat) (c : Nat → Int) (x : Int) (ty : TypeId) (ad : Addr) (cp : Nat) (hc : W.cell? ad = some (.int .i64 x)) (hr : Rg W base v 1 n (iF c)) (hn : n ≤ 1048576) (hb : base ≤ W.heap.size) :
    ∃ g off k w', (Builtin.append_ #[45, 45] ty #[v, .slice (some ad) 1 cp]).run Try.prog W = .ok (.slice (some ⟨g, off, none⟩) (n + 1) k) w' ∧ W.grownBy w' (rb v) ∧ Rg w' base (.slice (some ⟨g, off, none⟩) (n + 1) k) 1 (n + 1) (iF (snc c n x)) ∧ (rb v = some g ∨ W.heap.size ≤ g) ∧ Rg w' base v 1 n (iF c) := by
  obtain ⟨i0, hi, hz0, hz1, hz2⟩ := info_parts infoI64
  obtain ⟨g, off, k, w', h1, h2, h3, h4, h5⟩ := append_rg W base v 1 n 1 8 (iF c) 45 ty 2 i0 (.int .i64 0) Try.underlying45 hi hz0 hz1 hz2 rfl (by decide) ad cp [.int .i64 x] rfl (fun j u hu => by
    cases j with
    | zero => simp at hu; subst hu; simpa [Addr.add] using hc
    | succ j => simp at hu) (fun u hu => by simp at hu; subst hu; rfl) (by decide) hr (by unfold maxLen; omega) (by omega) hb
  refine ⟨g, off, k, w', h1, h2, h3.congr (by decide) (fun j hj i hi => ?_), h4, h5⟩
  rw [← iF_snc2 c n x j i hj]
  by_cases hl : j < n
  · simp [snG, hl]
  · have e : j = n := by omega
    have e2 : i = 0 := by omega
    subst e e2
    simp [snG]
abbrev PlP (w : World) (L : Lk) (n : Nat) (c : Nat → Int) : Ending → World → Prop := fun e w' => ∃ wv gv dv uv cv, e = .returned (.tuple #[.agg (l6 L.base wv L.want gv dv uv), cv]) ∧ Lr w' w.heap.size wv gv dv uv L ∧ Rg w' w.heap.size cv 1 n (iF c) ∧ (∀ x, rb cv = some x → ¬ Lrb wv gv dv uv x) ∧ Below w.heap.size w w'

set_option maxHeartbeats 8000000 in
set_option maxRecDepth 20000 in
theorem implPlay_yes (p : Lk) (wv gv dv uv : Value) (w : World) (ha : La w wv gv dv uv p) (hf : Lf p) (s : Nat → Ac4) (ad : Option Addr) (n cap : Nat) (hs : 0 < n → ∃ b off, ad = some ⟨b, off, none⟩ ∧ ∀ j, j < n → ∀ i, i < 4 → w.cell? ⟨b, off + j * 4 + i, none⟩ = some (aF s j i)) (hn : n ≤ 200) :
    Calls Try.prog 21 #[.agg (l6 p.base wv p.want gv dv uv), .slice ad n cap] w (PlP w (plN s n p) n (fun c => pcN s p c)) := by
  have ha0 := hide ha
  clear ha
  have HB : Hid (Mv nob w w) := hide (Mv.refl _ _)
  go_enter Try.func21, Try.ntmps21
  refine sk fun K1 h1 => rl ?_
  refine sbp #[.int .i64 p.base, wv, .int .i64 p.want, gv, dv, uv] 30 fun V1 b0 hb0 m1 bx0 => ?_
  have o_0 : w.heap.size ≤ b0 := by omega
  clear hb0
  refine sbp #[.int .i64 0, .slice none 0 0, .int .i64 0, .slice none 0 0, .slice none 0 0, .slice none 0 0] 30 fun V2 b1 hb1 m2 bx1 => ?_
  have o0_1 := Xlo bx0 hb1
  clear hb1
  refine sv (.slice none 0 0) ?_
  refine nt (h1 _ _ (sk fun K2 h2 => sk fun K3 h3 => rl ?_)); clear h1 K1
  replace bx0 := Xbn bx0 m2
  refine sl6 bx0 ?_
  replace HB := Xhn (Xhn HB m1) m2
  refine sw_call (by rfl) (by first | rfl | (go_simp; done)) (implLinkOk_la true p _ _ _ _ V2 (lk_iff.2 hf) (ha0.out.below HB.out.below) hf.sm) ?_
  rintro e V3 ⟨rfl, hbl⟩
  have m3 : Mv (nob) V2 V3 := Mv.of_below hbl
  refine ⟨_, rfl, ?_⟩
  refine pt ?_
  clear hbl
  refine sg (.bool false) ?_
  refine sv (.bool false) ?_
  refine sv (.slice ad n cap) ?_
  refine sg (.int .i64 (n : Int)) ?_
  refine sg (.bool false) (h := by have hd : decide (200 < n) = false := (by simp; omega); have hd2 : decide ((200 : Int) < (n : Int)) = false := (by simp; omega); go_simp) ?_
  refine sg (.bool false) ?_
  refine nt (h3 _ _ (cf (wp_skip (then_normal (h2 _ _ (sk fun K4 h4 => rl ?_)))))); clear h3 K3; clear h2 K2
  replace bx0 := Xbn bx0 m3
  refine sl6 bx0 ?_
  replace bx1 := Xbn bx1 m3
  have szT := lt_of_block bx1.out
  replace HB := Xhn HB m3
  have szW := HB.out.size
  refine sw_call (by rfl) (by first | rfl | (go_simp; done)) (linkCopy_any wv gv dv uv p V3 (ha0.out.below HB.out.below).lv hf.sm ha0.out.pl4) ?_
  rintro e V4 ⟨wv1, gv1, dv1, uv1, rfl, LQ, hbl⟩
  have m4 : Mv (nob) V3 V4 := Mv.of_below hbl
  refine ⟨_, rfl, ?_⟩
  refine pt ?_
  obtain ⟨x0a, x0c, rfl, _⟩ := LQ.wa.form
  obtain ⟨y0a, y0c, rfl, _⟩ := LQ.go.form
  obtain ⟨z0a, z0c, rfl, _⟩ := LQ.dn.form
  obtain ⟨t0a, t0c, rfl, _⟩ := LQ.up.form
  have LN := hide (LQ.lower szW)
  have ALN : Hid (∀ x, Lrb (.slice x0a p.nw x0c) (.slice y0a p.ng y0c) (.slice z0a p.nd z0c) (.slice t0a p.nu t0c) x → x ≠ b0 ∧ x ≠ b1) := hide (fun x h => by have := (LQ.lt x h).1; exact (by omega))
  clear LQ hbl szW szT
  replace bx1 := Xbn bx1 m4
  refine sbp #[.int .i64 0, .slice none 0 0, .int .i64 0, .slice none 0 0, .slice none 0 0, .slice none 0 0] 30 fun V5 b2 hb2 m5 bx2 => ?_
  have o1_2 := Xlo bx1 hb2
  replace ALN : Hid (∀ x, Lrb (.slice x0a p.nw x0c) (.slice y0a p.ng y0c) (.slice z0a p.nd z0c) (.slice t0a p.nu t0c) x → x ≠ b0 ∧ x ≠ b1 ∧ x ≠ b2) := hide (fun x h => by have h1 := ALN.out x h; have h2 := (LN.out.lt x h).2; exact (by omega))
  clear hb2
  refine ss6 (.int .i64 p.base) (.slice x0a p.nw x0c) (.int .i64 p.want) (.slice y0a p.ng y0c) (.slice z0a p.nd z0c) (.slice t0a p.nu t0c) bx2 fun V6 m6 bx2 => ?_
  refine nt (h4 _ _ (sk fun K5 h5 => rl ?_)); clear h4 K4
  refine sv (.slice none 0 0) ?_
  refine nt (h5 _ _ (sk fun K6 h6 => sk fun K7 h7 => rl ?_)); clear h5 K5
  refine sv (.slice ad n cap) ?_
  refine sg (.int .i64 (n : Int)) ?_
  refine sv (.int .i64 0) ?_
  refine nt (h7 _ _ (wp_block ?_)); clear h7 K7
  have CF : Hid (Rg V6 w.heap.size (.slice none 0 0) 1 0 (iF (fun c => pcN s p c))) := hide (rg_nil _ _ _ _)
  have AC : Hid (∀ x, rb (.slice none 0 0) = some x → ¬ Lrb (.slice x0a p.nw x0c) (.slice y0a p.ng y0c) (.slice z0a p.nd z0c) (.slice t0a p.nu t0c) x) := hide (fun x e => absurd e (by simp [rb]))
  have CB : Hid (∀ x, rb (.slice none 0 0) = some x → x ≠ b0 ∧ x ≠ b1 ∧ x ≠ b2) := hide (fun x e => absurd e (by simp [rb]))
  have QF : Hid (Lf p ∧ p = plN s 0 p) := hide ⟨hf, rfl⟩
  replace HB := Xhb (Xhn (Xhn HB m4) m5) m6; replace bx0 := Xbb (Xbn (Xbn bx0 m4) m5) m6; replace bx1 := Xbb (Xbn bx1 m5) m6; replace LN := Xqb (Xqn LN m5) m6 (fun x h => by have := ALN.out x h; omega)
  refine wp_loop_ghost (fun m a' w' => ∃ (q : Lk) (j : Nat) (ca : Option Addr) (cc : Nat) (xa : Option Addr) (xc : Nat) (ya : Option Addr) (yc : Nat) (za : Option Addr) (zc : Nat) (ta : Option Addr) (tc : Nat) (u9 : Value) (u10 : Value) (u11 : Value) (u26 : Value) (u27 : Value) (u28 : Value) (u29 : Value) (u30 : Value) (u31 : Value) (u32 : Value) (u33 : Value) (u34 : Value) (u35 : Value) (u36 : Value) (u37 : Value) (u38 : Value) (u39 : Value) (u40 : Value), m = n - j + 1 ∧ a' = ⟨#[.agg #[.int .i64 p.base, wv, .int .i64 p.want, gv, dv, uv], .slice ad n cap, .pointer (some ⟨b0, 0, none⟩), undef, .pointer (some ⟨b1, 0, none⟩), .slice none 0 0, .pointer (some ⟨b2, 0, none⟩), .slice ca j cc, undef, u9, u10, u11, .agg #[.int .i64 p.base, wv, .int .i64 p.want, gv, dv, uv], .bool true, .bool false, .bool false, .slice ad n cap, .int .i64 (n : Int), .bool false, .bool false, undef, .agg #[.int .i64 p.base, wv, .int .i64 p.want, gv, dv, uv], .agg #[.int .i64 p.base, .slice x0a p.nw x0c, .int .i64 p.want, .slice y0a p.ng y0c, .slice z0a p.nd z0c, .slice t0a p.nu t0c], .slice ad n cap, .int .i64 (n : Int), .int .i64 ((j : Int)), u26, u27, u28, u29, u30, u31, u32, u33, u34, u35, u36, u37, u38, u39, u40, undef, undef], []⟩ ∧ (Mv nob w w') ∧ (Lr w' w.heap.size (.slice xa q.nw xc) (.slice ya q.ng yc) (.slice za q.nd zc) (.slice ta q.nu tc) q) ∧ (∀ x, Lrb (.slice xa q.nw xc) (.slice ya q.ng yc) (.slice za q.nd zc) (.slice ta q.nu tc) x → x ≠ b0 ∧ x ≠ b1 ∧ x ≠ b2) ∧ (Rg w' w.heap.size (.slice ca j cc) 1 j (iF (fun c => pcN s p c))) ∧ (∀ x, rb (.slice ca j cc) = some x → ¬ Lrb (.slice xa q.nw xc) (.slice ya q.ng yc) (.slice za q.nd zc) (.slice ta q.nu tc) x) ∧ (∀ x, rb (.slice ca j cc) = some x → x ≠ b0 ∧ x ≠ b1 ∧ x ≠ b2) ∧ (Lf q ∧ q = plN s j p) ∧ (j ≤ n) ∧ (w'.heap[b0]? = some (.cells #[.int .i64 p.base, wv, .int .i64 p.want, gv, dv, uv] 30 (0, 0))) ∧ (w'.heap[b1]? = some (.cells #[.int .i64 0, .slice none 0 0, .int .i64 0, .slice none 0 0, .slice none 0 0, .slice none 0 0] 30 (0, 0))) ∧ (w'.heap[b2]? = some (.cells #[.int .i64 q.base, .slice xa q.nw xc, .int .i64 q.want, .slice ya q.ng yc, .slice za q.nd zc, .slice ta q.nu tc] 30 (0, 0)))) (n - 0 + 1) ⟨p, 0, none, 0, x0a, x0c, y0a, y0c, z0a, z0c, t0a, t0c, _, _, _, _, _, _, _, _, _, _, _, _, _, _, _, _, _, _, rfl, rfl, (HB.out), (LN.out), (ALN.out), (CF.out), (AC.out), (CB.out), (QF.out), (Nat.zero_le _), (bx0.out), (bx1.out), (bx2.out)⟩ (fun m a' VL1 hI => ?_)
  obtain ⟨q, j, ca, cc, xa, xc, ya, yc, za, zc, ta, tc, u9, u10, u11, u26, u27, u28, u29, u30, u31, u32, u33, u34, u35, u36, u37, u38, u39, u40, rfl, rfl, i_HB, i_LN, i_ALN, i_CF, i_AC, i_CB, i_QF, i_NL, i_bx0, i_bx1, i_bx2⟩ := hI
  clear HB bx0 bx1 LN bx2 CF
  have HB := hide i_HB
  clear i_HB
  have LN := hide i_LN
  clear i_LN
  have ALN := hide i_ALN
  clear i_ALN
  have CF := hide i_CF
  clear i_CF
  have AC := hide i_AC
  clear i_AC
  have CB := hide i_CB
  clear i_CB
  have QF := hide i_QF
  clear i_QF
  have NL := hide i_NL
  clear i_NL
  have bx0 := hide i_bx0
  clear i_bx0
  have bx1 := hide i_bx1
  clear i_bx1
  have bx2 := hide i_bx2
  clear i_bx2
  refine sk fun K8 h8 => rl ?_
  by_cases hlt : j < n
  · refine sg (.bool true) (h := by have hd : decide (j < n) = true := (by simp; omega); have hd2 : decide ((j : Int) < (n : Int)) = true := (by simp; omega); go_simp) ?_
    refine nt (h8 _ _ (sk fun K9 h9 => ct (wp_skip (then_normal (h9 _ _ (sk fun K10 h10 => wp_block (sk fun K11 h11 => rl ?_))))))); clear h8 K8; clear h9 K9
    obtain ⟨lb, lo, rfl, hc⟩ := hs (by omega)
    refine sg (.pointer (some ⟨lb, lo + j * 4, none⟩)) (h := by have h1 : (j : Int) < (n : Int) := (by omega); go_simp) ?_
    refine sg (.agg #[.int .i64 ((s j).k), .int .i64 ((s j).z), .int .i64 ((s j).b), .string (s j).d]) (h := by have hk := HB.out.below; have z0 := Below.keep hk _ _ (hc j hlt 0 (by decide)); have z1 := Below.keep hk _ _ (hc j hlt 1 (by decide)); have z2 := Below.keep hk _ _ (hc j hlt 2 (by decide)); have z3 := Below.keep hk _ _ (hc j hlt 3 (by decide)); simp only [aF, Nat.add_zero] at z0 z1 z2 z3; go_simp) ?_
    refine sbp #[.int .i64 0, .int .i64 0, .int .i64 0, .string ⟨#[]⟩] 39 fun V7 b3 hb3 m7 bx3 => ?_
    have o2_3 := Xlo bx2 hb3
    replace CB : Hid (∀ x, rb (.slice ca j cc) = some x → x ≠ b0 ∧ x ≠ b1 ∧ x ≠ b2 ∧ x ≠ b3) := hide (fun x h => by have h1 := CB.out x h; have h2 := (CF.out.lt x h).2; exact (by omega))
    replace ALN : Hid (∀ x, Lrb (.slice xa q.nw xc) (.slice ya q.ng yc) (.slice za q.nd zc) (.slice ta q.nu tc) x → x ≠ b0 ∧ x ≠ b1 ∧ x ≠ b2 ∧ x ≠ b3) := hide (fun x h => by have h1 := ALN.out x h; have h2 := (LN.out.lt x h).2; exact (by omega))
    replace CF := hide (CF.out.mv m7 (fun _ _ h => h))
    clear hb3
    refine ss4 (.int .i64 ((s j).k)) (.int .i64 ((s j).z)) (.int .i64 ((s j).b)) (.string (s j).d) bx3 fun V8 m8 bx3 => ?_
    replace CF := hide (CF.out.mv m8 (fun x e h => by have h : x = b3 := h; have := CB.out x e; omega))
    refine nt (h11 _ _ (sk fun K12 h12 => rl ?_)); clear h11 K11
    have hdone := fun V h hle => linkDone_any q xa ya za ta xc yc zc tc w.heap.size V h hle (s j).k (s j).z (s j).b (s j).d QF.out.1
    have QL : Hid (Lf (ldL q (s j).k (s j).z (s j).b (s j).d) ∧ ldL q (s j).k (s j).z (s j).b (s j).d = plN s (j + 1) p ∧ ldC q (s j).k (s j).z (s j).b (s j).d = pcN s p j) := hide ⟨ld_lf QF.out.1 _ _ _ _, by rw [QF.out.2]; rfl, by rw [QF.out.2]; rfl⟩
    generalize ldL q (s j).k (s j).z (s j).b (s j).d = L at hdone QL
    generalize ldC q (s j).k (s j).z (s j).b (s j).d = C at hdone QL
    have hC := QL.out.2.2
    subst hC
    replace bx2 := Xbb (Xbn bx2 m7) m8
    refine sl6 bx2 ?_
    refine sg (.agg #[.int .i64 ((s j).k), .int .i64 ((s j).z), .int .i64 ((s j).b), .string (s j).d]) (h := by have z0 := cell_box 0 (bx3.out) rfl; have z1 := cell_box 1 (bx3.out) rfl; have z2 := cell_box 2 (bx3.out) rfl; have z3 := cell_box 3 (bx3.out) rfl; go_simp) ?_
    have szT := lt_of_block bx3.out
    replace HB := Xhb (Xhn HB m7) m8
    have szW := HB.out.size
    have hct := fun x e => (CF.out.lt x e).2
    replace LN := Xqb (Xqn LN m7) m8 (fun x h => by have := ALN.out x h; omega)
    have hcl := fun x h => (LN.out.lt x h).1
    refine sw_call (by rfl) (by first | rfl | (go_simp; done)) (hdone V8 LN.out szW) ?_
    rintro e V9 ⟨wv1, gv1, dv1, uv1, rfl, mm, LQ, hnw⟩
    have m9 : Mv (Lrb (.slice xa q.nw xc) (.slice ya q.ng yc) (.slice za q.nd zc) (.slice ta q.nu tc)) V8 V9 := mm
    refine ⟨_, rfl, ?_⟩
    refine pt ?_
    replace HB := hide (HB.out.step m9 (fun x hx e => by have := hcl x e; exfalso; omega))
    replace bx0 := Xbb (Xbn bx0 m7) m8
    replace bx0 := hide (m9.box bx0.out (fun h => by have := ALN.out _ h; omega))
    replace bx1 := Xbb (Xbn bx1 m7) m8
    replace bx1 := hide (m9.box bx1.out (fun h => by have := ALN.out _ h; omega))
    replace bx2 := hide (m9.box bx2.out (fun h => by have := ALN.out _ h; omega))
    replace CF := hide (CF.out.mv m9 (fun x e h => AC.out x e h))
    replace bx3 := hide (m9.box bx3.out (fun h => by have := ALN.out _ h; omega))
    obtain ⟨x2a, x2c, rfl, _⟩ := LQ.wa.form
    obtain ⟨y2a, y2c, rfl, _⟩ := LQ.go.form
    obtain ⟨z2a, z2c, rfl, _⟩ := LQ.dn.form
    obtain ⟨t2a, t2c, rfl, _⟩ := LQ.up.form
    replace LN := hide LQ
    replace ALN : Hid (∀ x, Lrb (.slice x2a L.nw x2c) (.slice y2a L.ng y2c) (.slice z2a L.nd z2c) (.slice t2a L.nu t2c) x → x ≠ b0 ∧ x ≠ b1 ∧ x ≠ b2 ∧ x ≠ b3) := hide (fun x h => (hnw x h).elim (fun h2 => ALN.out x h2) (fun h2 => by omega))
    replace AC : Hid (∀ x, rb (.slice ca j cc) = some x → ¬ Lrb (.slice x2a L.nw x2c) (.slice y2a L.ng y2c) (.slice z2a L.nd z2c) (.slice t2a L.nu t2c) x) := hide (fun x e h => (hnw x h).elim (fun h2 => AC.out x e h2) (fun h2 => by have := hct x e; omega))
    clear LQ mm hnw hdone szT szW hct hcl
    refine sv (.tuple #[.agg #[.int .i64 L.base, .slice x2a L.nw x2c, .int .i64 L.want, .slice y2a L.ng y2c, .slice z2a L.nd z2c, .slice t2a L.nu t2c], .int .i64 ((pcN s p j))]) ?_
    refine sv (.agg #[.int .i64 L.base, .slice x2a L.nw x2c, .int .i64 L.want, .slice y2a L.ng y2c, .slice z2a L.nd z2c, .slice t2a L.nu t2c]) ?_
    refine sv (.int .i64 ((pcN s p j))) ?_
    refine sbp #[.int .i64 0, .slice none 0 0, .int .i64 0, .slice none 0 0, .slice none 0 0, .slice none 0 0] 30 fun V10 b4 hb4 m10 bx4 => ?_
    have o3_4 := Xlo bx3 hb4
    replace CB : Hid (∀ x, rb (.slice ca j cc) = some x → x ≠ b0 ∧ x ≠ b1 ∧ x ≠ b2 ∧ x ≠ b3 ∧ x ≠ b4) := hide (fun x h => by have h1 := CB.out x h; have h2 := (CF.out.lt x h).2; exact (by omega))
    replace ALN : Hid (∀ x, Lrb (.slice x2a L.nw x2c) (.slice y2a L.ng y2c) (.slice z2a L.nd z2c) (.slice t2a L.nu t2c) x → x ≠ b0 ∧ x ≠ b1 ∧ x ≠ b2 ∧ x ≠ b3 ∧ x ≠ b4) := hide (fun x h => by have h1 := ALN.out x h; have h2 := (LN.out.lt x h).2; exact (by omega))
    replace CF := hide (CF.out.mv m10 (fun _ _ h => h))
    clear hb4
    refine ss6 (.int .i64 L.base) (.slice x2a L.nw x2c) (.int .i64 L.want) (.slice y2a L.ng y2c) (.slice z2a L.nd z2c) (.slice t2a L.nu t2c) bx4 fun V11 m11 bx4 => ?_
    replace CF := hide (CF.out.mv m11 (fun x e h => by have h : x = b4 := h; have := CB.out x e; omega))
    refine sv (.int .i64 ((pcN s p j))) ?_
    refine nt (h12 _ _ (sk fun K13 h13 => rl ?_)); clear h12 K12
    refine sl6 bx4 ?_
    replace bx2 := Xbb (Xbn bx2 m10) m11
    refine ss6 (.int .i64 L.base) (.slice x2a L.nw x2c) (.int .i64 L.want) (.slice y2a L.ng y2c) (.slice z2a L.nd z2c) (.slice t2a L.nu t2c) bx2 fun V12 m12 bx2 => ?_
    replace CF := hide (CF.out.mv m12 (fun x e h => by have h : x = b2 := h; have := CB.out x e; omega))
    refine nt (h13 _ _ (rl ?_)); clear h13 K13
    refine sv (.slice ca j cc) ?_
    refine sv (.int .i64 ((pcN s p j))) ?_
    replace bx4 := Xbb bx4 m12
    refine sbs 1 #[.int .i64 ((pcN s p j))] 2 fun V13 b5 hb5 m13 bx5 => ?_
    have o4_5 := Xlo bx4 hb5
    replace CB : Hid (∀ x, rb (.slice ca j cc) = some x → x ≠ b0 ∧ x ≠ b1 ∧ x ≠ b2 ∧ x ≠ b3 ∧ x ≠ b4 ∧ x ≠ b5) := hide (fun x h => by have h1 := CB.out x h; have h2 := (CF.out.lt x h).2; exact (by omega))
    replace LN := Xqb (Xqb (Xqn LN m10) m11 (fun x h => by have := ALN.out x h; omega)) m12 (fun x h => by have := ALN.out x h; omega)
    replace ALN : Hid (∀ x, Lrb (.slice x2a L.nw x2c) (.slice y2a L.ng y2c) (.slice z2a L.nd z2c) (.slice t2a L.nu t2c) x → x ≠ b0 ∧ x ≠ b1 ∧ x ≠ b2 ∧ x ≠ b3 ∧ x ≠ b4 ∧ x ≠ b5) := hide (fun x h => by have h1 := ALN.out x h; have h2 := (LN.out.lt x h).2; exact (by omega))
    replace CF := hide (CF.out.mv m13 (fun _ _ h => h))
    clear hb5
    have szT := lt_of_block bx5.out
    replace HB := Xhn (Xhb (Xhb (Xhn HB m10) m11) m12) m13
    have szW := HB.out.size
    have hcb := fun x e => (CF.out.lt x e).1
    replace LN := Xqn LN m13
    have hlt := fun x h => (LN.out.lt x h).2
    obtain ⟨gx, ox, kx, V14, hrun, hgr, hrg, hbl, hold⟩ := add_int V13 w.heap.size (.slice ca j cc) j (fun c => pcN s p c) (pcN s p j) 45 ⟨b5, 0, none⟩ 1 (cell_box 0 bx5.out rfl) CF.out (by omega) szW
    have m14 : Mv (fun x => rb (.slice ca j cc) = some x) V13 V14 := Mv.of_grown hgr
    refine sw_valW (by rfl) (run_append_op _ _ 45 (by rfl) (by rfl) (by rfl) hrun) ?_
    refine pt ?_
    replace HB := hide (HB.out.step m14 (fun x hx e => by have := hcb x e; exfalso; omega))
    replace bx0 := Xbn (Xbb (Xbb (Xbn bx0 m10) m11) m12) m13
    replace bx0 := hide (m14.box bx0.out (fun h => by have := CB.out _ h; omega))
    replace bx1 := Xbn (Xbb (Xbb (Xbn bx1 m10) m11) m12) m13
    replace bx1 := hide (m14.box bx1.out (fun h => by have := CB.out _ h; omega))
    replace LN := hide (LN.out.mv m14 (fun g hg e => AC.out g e hg))
    replace bx2 := Xbn bx2 m13
    replace bx2 := hide (m14.box bx2.out (fun h => by have := CB.out _ h; omega))
    replace bx3 := Xbn (Xbb (Xbb (Xbn bx3 m10) m11) m12) m13
    replace bx3 := hide (m14.box bx3.out (fun h => by have := CB.out _ h; omega))
    replace bx4 := Xbn bx4 m13
    replace bx4 := hide (m14.box bx4.out (fun h => by have := CB.out _ h; omega))
    replace bx5 := hide (m14.box bx5.out (fun h => by have := CB.out _ h; omega))
    have CF := hide (hrg.congr (by decide) (fun c hc i hi => iF_snc (fun c => pcN s p c) j c i hc))
    clear hrun hgr hrg hold
    replace AC : Hid (∀ x, rb (.slice (some ⟨gx, ox, none⟩) (j + 1) kx) = some x → ¬ Lrb (.slice x2a L.nw x2c) (.slice y2a L.ng y2c) (.slice z2a L.nd z2c) (.slice t2a L.nu t2c) x) := hide (fun x e h => by have e2 : gx = x := rb_blk e; subst e2; exact hbl.elim (fun q => AC.out gx q h) (fun q => by have := hlt gx h; omega))
    replace CB : Hid (∀ x, rb (.slice (some ⟨gx, ox, none⟩) (j + 1) kx) = some x → x ≠ b0 ∧ x ≠ b1 ∧ x ≠ b2 ∧ x ≠ b3 ∧ x ≠ b4 ∧ x ≠ b5) := hide (fun x e => by have e2 : gx = x := rb_blk e; subst e2; exact hbl.elim (fun q => CB.out gx q) (fun q => by omega))
    clear hbl hlt szT szW hcb
    refine sv (.slice (some ⟨gx, ox, none⟩) (j + 1) kx) ?_
    refine wpList_nil (inb_norm (then_normal (h10 _ _ (rl ?_)))); clear h10 K10
    refine sg (.int .i64 (((j + 1 : Nat) : Int))) (h := by have hw : IntKind.i64.wrap ((j : Int) + 1) = ((j + 1 : Nat) : Int) := (by have := NL.out; rw [i64wrap (by omega)]; omega); go_simp) ?_
    refine sv (.int .i64 (((j + 1 : Nat) : Int))) ?_
    refine wpList_nil (then_normal ?_)
    have NL2 : j + 1 ≤ n := by omega
    exact ⟨(n - (j + 1) + 1), (by omega), L, (j + 1), (some ⟨gx, ox, none⟩), kx, x2a, x2c, y2a, y2c, z2a, z2c, t2a, t2c, _, _, _, _, _, _, _, _, _, _, _, _, _, _, _, _, _, _, rfl, rfl, (HB.out), (LN.out), (fun x h => by have := ALN.out x h; exact (by omega)), (CF.out), (AC.out), (fun x h => by have := CB.out x h; exact (by omega)), (⟨QL.out.1, QL.out.2.1⟩), (NL2), (bx0.out), (bx1.out), (bx2.out)⟩
  · refine sg (.bool false) (h := by have hd : decide (j < n) = false := (by simp; omega); have hd2 : decide ((j : Int) < (n : Int)) = false := (by simp; omega); go_simp) ?_
    refine nt (h8 _ _ (sk fun K14 h14 => cf (wp_exit (then_exit (then_exit (inb_here rfl (then_normal (h6 _ _ (sk fun K15 h15 => rl ?_))))))))); clear h8 K8; clear h14 K14; clear h6 K6
    refine sl6 bx2 ?_
    refine sv (.slice ca j cc) ?_
    refine ss6 (.int .i64 q.base) (.slice xa q.nw xc) (.int .i64 q.want) (.slice ya q.ng yc) (.slice za q.nd zc) (.slice ta q.nu tc) bx1 fun V15 m15 bx1 => ?_
    replace CF := hide (CF.out.mv m15 (fun x e h => by have h : x = b1 := h; have := CB.out x e; omega))
    refine sv (.slice ca j cc) ?_
    refine nt (h15 _ _ (wp_ret ?_)); clear h15 K15
    have hj : j = n := by have := NL.out; omega
    subst hj
    have hq := QF.out.2
    subst hq
    replace HB := Xhb HB m15; replace bx0 := Xbb bx0 m15; replace LN := Xqb LN m15 (fun x h => by have := ALN.out x h; omega); replace bx2 := Xbb bx2 m15
    obtain ⟨_, q1_0, q1_1, q1_2, q1_3, q1_4, q1_5⟩ := box6 bx1.out
    exact bodyPost_ret (v := .tuple #[.agg #[.int .i64 (plN s j p).base, .slice xa (plN s j p).nw xc, .int .i64 (plN s j p).want, .slice ya (plN s j p).ng yc, .slice za (plN s j p).nd zc, .slice ta (plN s j p).nu tc], .slice ca j cc]) (by simp [results, Try.results21, go_sem, q1_0, q1_1, q1_2, q1_3, q1_4, q1_5]) rfl ⟨_, _, _, _, _, rfl, LN.out, CF.out, AC.out, HB.out.below⟩

end Go.Proofs.Ytnkocikbapbbmaa
