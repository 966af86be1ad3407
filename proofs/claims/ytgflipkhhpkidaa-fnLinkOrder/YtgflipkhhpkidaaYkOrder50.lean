/- LsD -/
import Derived.Test.YtgflipkhhpkidaaYkOrder49
import Derived.Test.YtgflipkhhpkidaaYkOrder46
import Derived.Deep.LoopGhost
/- the reader's link (written by mkLsD.py) -/
namespace Go.Proofs.Ytgflipkhhpkidaa
open Go.RowKit
set_option linter.unusedVariables false
set_option linter.unusedSimpArgs false

theorem Lr.alike {w : World} {base : Nat} {wv gv dv uv : Value} {p : Lk} (h : Lr w base wv gv dv uv p) {b k : Int} : Lr w base wv gv dv uv { p with base := b, want := k } := ⟨h.wa, h.go, h.dn, h.up, h.aw, h.ag, h.ad⟩
theorem Xqn {w w' : World} {base : Nat} {wv gv dv uv : Value} {p : Lk} (h : Hid (Lr w base wv gv dv uv p)) (m : Mv nob w w') : Hid (Lr w' base wv gv dv uv p) := hide (h.out.mv m (fun _ _ h => h))
theorem act_ng (p : Lk) (k z bit : Int) (body : ByteArray) : (actL p k z bit body).ng ≤ p.ng + 1 := by
  have hc : (comeD p z.toNat).ng ≤ p.ng + 1 := by
    unfold comeD
    split
    · unfold dgL
      split
      · exact Nat.le_refl _
      · exact Nat.le_succ _
    · exact Nat.le_succ _
  have hv : (comeU p z.toNat).ng ≤ p.ng + 1 := by
    unfold comeU
    split
    · unfold ackL
      split <;> exact Nat.le_succ _
    · exact Nat.le_succ _
  unfold actL
  repeat' split
  all_goals first
    | exact hc
    | exact hv
    | exact Nat.le_succ _
theorem do_ng {p : Lk} (h : Lf p) (k z bit : Int) (bd : ByteArray) : (doL p k z bit bd).ng ≤ p.ng + 1 := by
  unfold doL
  rw [if_pos (lk_iff.2 h)]
  by_cases hc : ldC p k z bit bd = 0
  · rw [ldL_ok hc]; exact act_ng p k z bit bd
  · rw [ldL_no hc]; exact Nat.le_succ _
theorem do_lf {p : Lk} (h : Lf p) (k z bit : Int) (bd : ByteArray) : Lf (doL p k z bit bd) := by
  unfold doL
  rw [if_pos (lk_iff.2 h)]
  exact ld_lf h k z bit bd

set_option maxHeartbeats 8000000 in
set_option maxRecDepth 20000 in
theorem link_any (g : Nat) (most : Int) (w : World) (h : Rdr w g) (hm0 : 0 ≤ most) (hm1 : most ≤ 999) : Calls Try.prog 23 #[.pointer (some ⟨g, 0, none⟩), .int .i64 most] w fun e w' => ∃ (wv gv dv uv : Value) (p : Lk), e = .returned (.agg (l6 p.base wv p.want gv dv uv)) ∧ Lr w' w.heap.size wv gv dv uv p ∧ Lsm 1048576 p ∧ Rdr w' g ∧ w.grownBy w' (some g) ∧ p.ng ≤ 1000 := by
  have hgl := h.lt
  have HB : Hid (Mv (fun x => x = g) w w) := hide (Mv.refl _ _)
  have RD := hide h
  clear h
  go_enter Try.func23, Try.ntmps23
  refine sk fun K1 h1 => rl ?_
  refine sbp #[.int .i64 0, .slice none 0 0, .int .i64 0, .slice none 0 0, .slice none 0 0, .slice none 0 0] 27 fun V1 b0 hb0 m1 bx0 => ?_
  have o_0 : w.heap.size ≤ b0 := by omega
  clear hb0
  refine nt (h1 _ _ (sk fun K2 h2 => rl ?_)); clear h1 K1
  refine sv (.agg #[.int .i64 0, .slice none 0 0, .int .i64 0, .slice none 0 0, .slice none 0 0, .slice none 0 0]) ?_
  refine sbp #[.int .i64 0, .slice none 0 0, .int .i64 0, .slice none 0 0, .slice none 0 0, .slice none 0 0] 27 fun V2 b1 hb1 m2 bx1 => ?_
  have o0_1 := Xlo bx0 hb1
  clear hb1
  refine ss6 (.int .i64 0) (.slice none 0 0) (.int .i64 0) (.slice none 0 0) (.slice none 0 0) (.slice none 0 0) bx1 fun V3 m3 bx1 => ?_
  refine nt (h2 _ _ (sk fun K3 h3 => sk fun K4 h4 => rl ?_)); clear h2 K2
  have LN : Hid (Lr V3 w.heap.size (.slice none 0 0) (.slice none 0 0) (.slice none 0 0) (.slice none 0 0) zeL) := hide (zeL_lr _ _)
  have AF : Hid (∀ x, Lrb (.slice none 0 0) (.slice none 0 0) (.slice none 0 0) (.slice none 0 0) x → b0 < x ∧ b1 < x) := hide (fun x h => by rcases h with h | h | h | h <;> cases h)
  refine sv (.pointer (some ⟨g, 0, none⟩)) ?_
  refine sv (.int .i64 most) ?_
  refine sg (.int .i64 ((most + 1))) (h := by have hw := i64wrap (x := most + 1) (by omega); go_simp) ?_
  replace RD := Xrb (Xrn (Xrn RD m1) m2) m3
  refine sw_call (by rfl) (by first | rfl | (go_simp; done)) (below_any g (most + 1) V3 RD.out (by omega) (by omega)) ?_
  rintro e V4 ⟨nn, rfl, nn0, nn1, hr, hg⟩
  have m4 : Mv (fun x => x = g) V3 V4 := mv_rd hg
  refine ⟨_, rfl, ?_⟩
  refine pt ?_
  replace LN := hide (LN.out.mv m4 (fun x hx e => by have e : x = g := e; have := LN.out.lt x hx; omega))
  replace RD := hide hr
  clear hr hg
  refine sv (.int .i64 nn) ?_
  refine nt (h4 _ _ (wp_block ?_)); clear h4 K4
  obtain ⟨nn, rfl⟩ : ∃ m : Nat, nn = m := ⟨nn.toNat, by omega⟩
  have QF : Hid (Lf zeL) := hide (lk_iff.1 (by decide))
  replace HB := Xhg (Xhb (Xhn (Xhn HB m1) m2) m3) m4; replace bx0 := Xbb (Xbb (Xbn bx0 m2) m3) m4; replace bx1 := Xbb bx1 m4
  refine wp_loop_ghost (fun m a' w' => ∃ (q : Lk) (n : Nat) (xa : Option Addr) (xc : Nat) (ya : Option Addr) (yc : Nat) (za : Option Addr) (zc : Nat) (ta : Option Addr) (tc : Nat) (u12 : Value) (u13 : Value) (u14 : Value) (u15 : Value) (u16 : Value) (u17 : Value) (u18 : Value) (u19 : Value) (u20 : Value) (u21 : Value) (u22 : Value) (u23 : Value), m = n + 1 ∧ a' = ⟨#[.pointer (some ⟨g, 0, none⟩), .int .i64 most, undef, undef, .pointer (some ⟨b0, 0, none⟩), .pointer (some ⟨b1, 0, none⟩), .int .i64 ((n : Int)), .agg #[.int .i64 0, .slice none 0 0, .int .i64 0, .slice none 0 0, .slice none 0 0, .slice none 0 0], .pointer (some ⟨g, 0, none⟩), .int .i64 most, .int .i64 ((most + 1)), .int .i64 nn, u12, u13, u14, u15, u16, u17, u18, u19, u20, u21, u22, u23, undef, undef, undef, undef, undef, undef, undef, undef, undef, undef, undef, undef, undef], []⟩ ∧ (Mv (fun x => x = g) w w') ∧ (Rdr w' g) ∧ (Lr w' w.heap.size (.slice xa q.nw xc) (.slice ya q.ng yc) (.slice za q.nd zc) (.slice ta q.nu tc) q) ∧ (∀ x, Lrb (.slice xa q.nw xc) (.slice ya q.ng yc) (.slice za q.nd zc) (.slice ta q.nu tc) x → b0 < x ∧ b1 < x) ∧ (Lf q) ∧ (n ≤ 1000) ∧ (q.ng + n ≤ 1000) ∧ (w'.heap[b0]? = some (.cells #[.int .i64 0, .slice none 0 0, .int .i64 0, .slice none 0 0, .slice none 0 0, .slice none 0 0] 27 (0, 0))) ∧ (w'.heap[b1]? = some (.cells #[.int .i64 q.base, .slice xa q.nw xc, .int .i64 q.want, .slice ya q.ng yc, .slice za q.nd zc, .slice ta q.nu tc] 27 (0, 0)))) (nn + 1) ⟨zeL, nn, none, 0, none, 0, none, 0, none, 0, _, _, _, _, _, _, _, _, _, _, _, _, rfl, rfl, (HB.out), (RD.out), (LN.out), (AF.out), (QF.out), (by omega), (by show 0 + nn ≤ 1000; omega), (bx0.out), (bx1.out)⟩ (fun m a' VL1 hI => ?_)
  obtain ⟨q, n, xa, xc, ya, yc, za, zc, ta, tc, u12, u13, u14, u15, u16, u17, u18, u19, u20, u21, u22, u23, rfl, rfl, i_HB, i_RD, i_LN, i_AF, i_QF, i_NL, i_NG, i_bx0, i_bx1⟩ := hI
  clear HB RD bx0 bx1 LN
  have HB := hide i_HB
  clear i_HB
  have RD := hide i_RD
  clear i_RD
  have LN := hide i_LN
  clear i_LN
  have AF := hide i_AF
  clear i_AF
  have QF := hide i_QF
  clear i_QF
  have NL := hide i_NL
  clear i_NL
  have NG := hide i_NG
  clear i_NG
  have bx0 := hide i_bx0
  clear i_bx0
  have bx1 := hide i_bx1
  clear i_bx1
  refine sk fun K5 h5 => sk fun K6 h6 => rl ?_
  by_cases hn : 0 < n
  · refine sv (.int .i64 ((n : Int))) ?_
    refine sg (.bool true) (h := by have hd : decide (0 < n) = true := (by simpa using hn); go_simp) ?_
    refine nt (h6 _ _ (ct (wp_skip (then_normal (h5 _ _ (sk fun K7 h7 => wp_block ?_)))))); clear h6 K6; clear h5 K5
    have hdo := fun V wv gv dv uv (h : La V wv gv dv uv q) => specLinkDo_any q wv gv dv uv V h QF.out.sm
    refine wp_region_but (z := 999) (S := fun w' => Mv (fun x => x = g ∨ x = b1) VL1.drew w') (by kernel_rfl) (Mv.refl _ _) (fun hS => ?_)
    have m5 : Mv nob VL1 VL1.drew := Mv.drew _
    obtain ⟨V5, hN⟩ : ∃ V, VL1.drew = V := ⟨_, rfl⟩
    rw [hN] at hS m5 ⊢
    clear hN
    replace bx1 := Xbn bx1 m5
    have rbx1 := bx1
    refine tk0 1 (.pointer (some ⟨g, 0, none⟩)) rfl ?_
    replace HB := Xhn HB m5; replace RD := Xrn RD m5; replace bx0 := Xbn bx0 m5; replace LN := Xqn LN m5
    have hJ1 : ∀ (V8 : World) (L : Lk) (x2a : Option Addr) (x2c : Nat) (y2a : Option Addr) (y2c : Nat) (z2a : Option Addr) (z2c : Nat) (t2a : Option Addr) (t2c : Nat) (u20 : Value) (u21 : Value) (u16 : Value) (u23 : Value), (Mv (fun x => x = g) w V8) → (Rdr V8 g) → (V8.heap[b0]? = some (.cells #[.int .i64 0, .slice none 0 0, .int .i64 0, .slice none 0 0, .slice none 0 0, .slice none 0 0] 27 (0, 0))) → (V8.heap[b1]? = some (.cells #[.int .i64 L.base, .slice x2a L.nw x2c, .int .i64 L.want, .slice y2a L.ng y2c, .slice z2a L.nd z2c, .slice t2a L.nu t2c] 27 (0, 0))) → (Lr V8 w.heap.size (.slice x2a L.nw x2c) (.slice y2a L.ng y2c) (.slice z2a L.nd z2c) (.slice t2a L.nu t2c) L) → (∀ x, Lrb (.slice x2a L.nw x2c) (.slice y2a L.ng y2c) (.slice z2a L.nd z2c) (.slice t2a L.nu t2c) x → b0 < x ∧ b1 < x) → (Lf L) → (L.ng ≤ q.ng + 1) → K7 ⟨#[.pointer (some ⟨g, 0, none⟩), .int .i64 most, undef, undef, .pointer (some ⟨b0, 0, none⟩), .pointer (some ⟨b1, 0, none⟩), .int .i64 ((n : Int)), .agg #[.int .i64 0, .slice none 0 0, .int .i64 0, .slice none 0 0, .slice none 0 0, .slice none 0 0], .pointer (some ⟨g, 0, none⟩), .int .i64 most, .int .i64 ((most + 1)), .int .i64 nn, .int .i64 ((n : Int)), .bool true, u14, u15, u16, .agg #[.int .i64 q.base, .slice xa q.nw xc, .int .i64 q.want, .slice ya q.ng yc, .slice za q.nd zc, .slice ta q.nu tc], .pointer (some ⟨g, 0, none⟩), .agg #[.int .i64 q.base, .slice xa q.nw xc, .int .i64 q.want, .slice ya q.ng yc, .slice za q.nd zc, .slice ta q.nu tc], u20, u21, .agg #[.int .i64 L.base, .slice x2a L.nw x2c, .int .i64 L.want, .slice y2a L.ng y2c, .slice z2a L.nd z2c, .slice t2a L.nu t2c], u23, undef, undef, undef, undef, undef, undef, undef, undef, undef, undef, undef, undef, undef], []⟩ V8 := by
      intro V8 L x2a x2c y2a y2c z2a z2c t2a t2c u20 u21 u16 u23 HB RD bx0 bx1 LN AF QL GL
      replace HB := hide HB; replace RD := hide RD; replace bx0 := hide bx0; replace bx1 := hide bx1; replace LN := hide LN; replace AF := hide AF
      refine h7 _ _ (rl ?_); clear h7 K7
      refine sv (.int .i64 ((n : Int))) ?_
      refine sg (.int .i64 (((n - 1 : Nat) : Int))) (h := by have hw : IntKind.i64.wrap ((n : Int) - 1) = ((n - 1 : Nat) : Int) := (by have := NL.out; rw [i64wrap (by omega)]; omega); go_simp) ?_
      refine sv (.int .i64 (((n - 1 : Nat) : Int))) ?_
      refine wpList_nil (then_normal ?_)
      have NL2 : n - 1 ≤ 1000 := by have := NL.out; omega
      exact ⟨(n - 1 + 1), (by omega), L, (n - 1), x2a, x2c, y2a, y2c, z2a, z2c, t2a, t2c, _, _, _, _, _, _, _, _, _, _, _, _, rfl, rfl, (HB.out), (RD.out), (LN.out), (AF.out), (QL), (NL2), ((by have := NG.out; omega)), (bx0.out), (bx1.out)⟩
    refine kd_each (l := [0, 2]) (by kernel_rfl) rfl ⟨?_, ?_, trivial⟩
    · refine ⟨_, rfl, by rfl, .inl ⟨.agg #[.int .i64 q.base, .slice xa q.nw xc, .int .i64 q.want, .slice ya q.ng yc, .slice za q.nd zc, .slice ta q.nu tc], _, (by have z0 := cell_box 0 (bx1.out) rfl; have z1 := cell_box 1 (bx1.out) rfl; have z2 := cell_box 2 (bx1.out) rfl; have z3 := cell_box 3 (bx1.out) rfl; have z4 := cell_box 4 (bx1.out) rfl; have z5 := cell_box 5 (bx1.out) rfl; go_simp), fun _ => hS, ?_⟩⟩
      refine ptk ?_
      refine kd_val (i := 2) (v := .agg #[.int .i64 q.base, .slice xa q.nw xc, .int .i64 q.want, .slice ya q.ng yc, .slice za q.nd zc, .slice ta q.nu tc]) (by kernel_rfl) rfl (by rfl) (by have z0 := cell_box 0 (bx1.out) rfl; have z1 := cell_box 1 (bx1.out) rfl; have z2 := cell_box 2 (bx1.out) rfl; have z3 := cell_box 3 (bx1.out) rfl; have z4 := cell_box 4 (bx1.out) rfl; have z5 := cell_box 5 (bx1.out) rfl; go_simp) hS ?_
      refine ptk ?_
      have hqd := QF.out.sm.2.2.1.1
      have hqu := QF.out.sm.2.2.2.1
      refine kd_call (i := 3) (by kernel_rfl) rfl (by rfl) (by first | rfl | (go_simp; done)) (lact_any g q (.slice xa q.nw xc) (.slice ya q.ng yc) za ta zc tc V5 RD.out hqd hqu) ?_
      rintro e V9 ⟨k, z, bit, bd, rfl, hr, hg⟩
      have m9 : Mv (fun x => x = g) V5 V9 := mv_rd hg
      replace hS := hS.step m9 (fun _ _ h => .inl h)
      refine ⟨_, rfl, fun _ => hS, ?_⟩
      refine ptk ?_
      replace LN := hide (LN.out.mv m9 (fun x hx e => by have e : x = g := e; have := LN.out.lt x hx; omega))
      replace RD := hide hr
      clear hr hg
      replace hdo := fun V wv gv dv uv (h : La V wv gv dv uv q) => hdo V wv gv dv uv h k z bit bd
      have QL := do_lf QF.out k z bit bd
      have GL := do_ng QF.out k z bit bd
      generalize doL q k z bit bd = L at hdo QL GL
      generalize doC q k z bit bd = C at hdo
      replace bx1 := Xbb bx1 m9
      have szT := lt_of_block bx1.out
      replace HB := Xhg HB m9
      have szW := HB.out.size
      refine kd_call (i := 4) (by kernel_rfl) rfl (by rfl) (by first | rfl | (go_simp; done)) (hdo V9 _ _ _ _ LN.out.la) ?_
      rintro e V10 ⟨wv, gv, dv, uv, rfl, LQ, hbl⟩
      have m10 : Mv (nob) V9 V10 := Mv.of_below hbl
      replace hS := hS.step m10 (fun _ _ h => h.elim)
      refine ⟨_, rfl, fun _ => hS, ?_⟩
      refine ptk ?_
      obtain ⟨x2a, x2c, rfl, _⟩ := LQ.wa.form
      obtain ⟨y2a, y2c, rfl, _⟩ := LQ.go.form
      obtain ⟨z2a, z2c, rfl, _⟩ := LQ.dn.form
      obtain ⟨t2a, t2c, rfl, _⟩ := LQ.up.form
      replace LN := hide (LQ.lower szW)
      replace AF : Hid (∀ x, Lrb (.slice x2a L.nw x2c) (.slice y2a L.ng y2c) (.slice z2a L.nd z2c) (.slice t2a L.nu t2c) x → b0 < x ∧ b1 < x) := hide (fun x h => by have := (LQ.lt x h).1; omega)
      clear LQ hbl szT szW
      refine tk0 5 (.tuple #[.agg #[.int .i64 L.base, .slice x2a L.nw x2c, .int .i64 L.want, .slice y2a L.ng y2c, .slice z2a L.nd z2c, .slice t2a L.nu t2c], .int .i64 C]) rfl ?_
      refine tk0 6 (.agg #[.int .i64 L.base, .slice x2a L.nw x2c, .int .i64 L.want, .slice y2a L.ng y2c, .slice z2a L.nd z2c, .slice t2a L.nu t2c]) rfl ?_
      refine tk0 7 (.int .i64 C) rfl ?_
      replace bx1 := Xbn bx1 m10
      refine kd_skipI (i := 8) (w' := (((((V10.setCell ⟨b1, 0, none⟩ (.int .i64 L.base)).setCell ⟨b1, 1, none⟩ (.slice x2a L.nw x2c)).setCell ⟨b1, 2, none⟩ (.int .i64 L.want)).setCell ⟨b1, 3, none⟩ (.slice y2a L.ng y2c)).setCell ⟨b1, 4, none⟩ (.slice z2a L.nd z2c)).setCell ⟨b1, 5, none⟩ (.slice t2a L.nu t2c)) (fun V => Mv (fun g => g = b1) V10 V ∧ V.heap[b1]? = some (.cells #[.int .i64 L.base, .slice x2a L.nw x2c, .int .i64 L.want, .slice y2a L.ng y2c, .slice z2a L.nd z2c, .slice t2a L.nu t2c] 27 (0, 0))) (by kernel_rfl) rfl (by rfl) (by have fr := fun i => frozen_of_row _ _ i _ _ bx1.out; have z0 := cell_box 0 bx1.out rfl; have z1 := cell_box 1 bx1.out rfl; have z2 := cell_box 2 bx1.out rfl; have z3 := cell_box 3 bx1.out rfl; have z4 := cell_box 4 bx1.out rfl; have z5 := cell_box 5 bx1.out rfl; go_simp) ⟨Mv.set (Mv.set (Mv.set (Mv.set (Mv.set (Mv.set (Mv.refl _ _) _ _) _ _) _ _) _ _) _ _) _ _, (heap_setCell_same _ _ 5 _ _ _ (heap_setCell_same _ _ 4 _ _ _ (heap_setCell_same _ _ 3 _ _ _ (heap_setCell_same _ _ 2 _ _ _ (heap_setCell_same _ _ 1 _ _ _ (heap_setCell_same _ _ 0 _ _ _ (bx1.out))))))).trans rfl⟩ (fun V hI _ => hS.step hI.1 (fun _ _ h => .inr h)) ?_
      rintro V11 ⟨m11, nxV11⟩
      refine ptk ?_
      replace LN := hide (LN.out.mv m11 (fun x hx e => by have e : x = b1 := e; have := AF.out x hx; omega))
      replace bx1 := hide nxV11
      clear nxV11
      replace hS := hS.step m11 (fun _ _ h => .inr h)
      refine wpAnyK_done (by kernel_rfl) ?_
      clear hS rbx1
      replace bx0 := Xbb (Xbn (Xbb bx0 m9) m10) m11; replace HB := Xhb (Xhn HB m10) m11; replace RD := Xrb (Xrn RD m10) m11
      exact inb_norm (then_normal (hJ1 _ _ _ _ _ _ _ _ _ _ _ _ _ _ HB.out RD.out bx0.out bx1.out LN.out AF.out QL GL))
    · refine ⟨_, rfl, by rfl, .inl ⟨.agg #[.int .i64 q.base, .slice xa q.nw xc, .int .i64 q.want, .slice ya q.ng yc, .slice za q.nd zc, .slice ta q.nu tc], _, (by have z0 := cell_box 0 (bx1.out) rfl; have z1 := cell_box 1 (bx1.out) rfl; have z2 := cell_box 2 (bx1.out) rfl; have z3 := cell_box 3 (bx1.out) rfl; have z4 := cell_box 4 (bx1.out) rfl; have z5 := cell_box 5 (bx1.out) rfl; go_simp), fun _ => hS, ?_⟩⟩
      refine ptk ?_
      refine kd_each (l := [0, 3]) (by kernel_rfl) rfl ⟨?_, ?_, trivial⟩
      · refine ⟨_, rfl, by rfl, .inl ⟨.agg #[.int .i64 q.base, .slice xa q.nw xc, .int .i64 q.want, .slice ya q.ng yc, .slice za q.nd zc, .slice ta q.nu tc], _, (by have z0 := cell_box 0 (bx1.out) rfl; have z1 := cell_box 1 (bx1.out) rfl; have z2 := cell_box 2 (bx1.out) rfl; have z3 := cell_box 3 (bx1.out) rfl; have z4 := cell_box 4 (bx1.out) rfl; have z5 := cell_box 5 (bx1.out) rfl; go_simp), fun _ => hS, ?_⟩⟩
        refine ptk ?_
        have hqd := QF.out.sm.2.2.1.1
        have hqu := QF.out.sm.2.2.2.1
        refine kd_call (i := 3) (by kernel_rfl) rfl (by rfl) (by first | rfl | (go_simp; done)) (lact_any g q (.slice xa q.nw xc) (.slice ya q.ng yc) za ta zc tc V5 RD.out hqd hqu) ?_
        rintro e V12 ⟨k, z, bit, bd, rfl, hr, hg⟩
        have m12 : Mv (fun x => x = g) V5 V12 := mv_rd hg
        replace hS := hS.step m12 (fun _ _ h => .inl h)
        refine ⟨_, rfl, fun _ => hS, ?_⟩
        refine ptk ?_
        replace LN := hide (LN.out.mv m12 (fun x hx e => by have e : x = g := e; have := LN.out.lt x hx; omega))
        replace RD := hide hr
        clear hr hg
        replace hdo := fun V wv gv dv uv (h : La V wv gv dv uv q) => hdo V wv gv dv uv h k z bit bd
        have QL := do_lf QF.out k z bit bd
        have GL := do_ng QF.out k z bit bd
        generalize doL q k z bit bd = L at hdo QL GL
        generalize doC q k z bit bd = C at hdo
        replace bx1 := Xbb bx1 m12
        have szT := lt_of_block bx1.out
        replace HB := Xhg HB m12
        have szW := HB.out.size
        refine kd_call (i := 4) (by kernel_rfl) rfl (by rfl) (by first | rfl | (go_simp; done)) (hdo V12 _ _ _ _ LN.out.la) ?_
        rintro e V13 ⟨wv, gv, dv, uv, rfl, LQ, hbl⟩
        have m13 : Mv (nob) V12 V13 := Mv.of_below hbl
        replace hS := hS.step m13 (fun _ _ h => h.elim)
        refine ⟨_, rfl, fun _ => hS, ?_⟩
        refine ptk ?_
        obtain ⟨x2a, x2c, rfl, _⟩ := LQ.wa.form
        obtain ⟨y2a, y2c, rfl, _⟩ := LQ.go.form
        obtain ⟨z2a, z2c, rfl, _⟩ := LQ.dn.form
        obtain ⟨t2a, t2c, rfl, _⟩ := LQ.up.form
        replace LN := hide (LQ.lower szW)
        replace AF : Hid (∀ x, Lrb (.slice x2a L.nw x2c) (.slice y2a L.ng y2c) (.slice z2a L.nd z2c) (.slice t2a L.nu t2c) x → b0 < x ∧ b1 < x) := hide (fun x h => by have := (LQ.lt x h).1; omega)
        clear LQ hbl szT szW
        refine tk0 5 (.tuple #[.agg #[.int .i64 L.base, .slice x2a L.nw x2c, .int .i64 L.want, .slice y2a L.ng y2c, .slice z2a L.nd z2c, .slice t2a L.nu t2c], .int .i64 C]) rfl ?_
        refine tk0 6 (.agg #[.int .i64 L.base, .slice x2a L.nw x2c, .int .i64 L.want, .slice y2a L.ng y2c, .slice z2a L.nd z2c, .slice t2a L.nu t2c]) rfl ?_
        refine tk0 7 (.int .i64 C) rfl ?_
        replace bx1 := Xbn bx1 m13
        refine kd_skipI (i := 8) (w' := (((((V13.setCell ⟨b1, 0, none⟩ (.int .i64 L.base)).setCell ⟨b1, 1, none⟩ (.slice x2a L.nw x2c)).setCell ⟨b1, 2, none⟩ (.int .i64 L.want)).setCell ⟨b1, 3, none⟩ (.slice y2a L.ng y2c)).setCell ⟨b1, 4, none⟩ (.slice z2a L.nd z2c)).setCell ⟨b1, 5, none⟩ (.slice t2a L.nu t2c)) (fun V => Mv (fun g => g = b1) V13 V ∧ V.heap[b1]? = some (.cells #[.int .i64 L.base, .slice x2a L.nw x2c, .int .i64 L.want, .slice y2a L.ng y2c, .slice z2a L.nd z2c, .slice t2a L.nu t2c] 27 (0, 0))) (by kernel_rfl) rfl (by rfl) (by have fr := fun i => frozen_of_row _ _ i _ _ bx1.out; have z0 := cell_box 0 bx1.out rfl; have z1 := cell_box 1 bx1.out rfl; have z2 := cell_box 2 bx1.out rfl; have z3 := cell_box 3 bx1.out rfl; have z4 := cell_box 4 bx1.out rfl; have z5 := cell_box 5 bx1.out rfl; go_simp) ⟨Mv.set (Mv.set (Mv.set (Mv.set (Mv.set (Mv.set (Mv.refl _ _) _ _) _ _) _ _) _ _) _ _) _ _, (heap_setCell_same _ _ 5 _ _ _ (heap_setCell_same _ _ 4 _ _ _ (heap_setCell_same _ _ 3 _ _ _ (heap_setCell_same _ _ 2 _ _ _ (heap_setCell_same _ _ 1 _ _ _ (heap_setCell_same _ _ 0 _ _ _ (bx1.out))))))).trans rfl⟩ (fun V hI _ => hS.step hI.1 (fun _ _ h => .inr h)) ?_
        rintro V14 ⟨m14, nxV14⟩
        refine ptk ?_
        replace LN := hide (LN.out.mv m14 (fun x hx e => by have e : x = b1 := e; have := AF.out x hx; omega))
        replace bx1 := hide nxV14
        clear nxV14
        replace hS := hS.step m14 (fun _ _ h => .inr h)
        refine wpAnyK_done (by kernel_rfl) ?_
        clear hS rbx1
        replace bx0 := Xbb (Xbn (Xbb bx0 m12) m13) m14; replace HB := Xhb (Xhn HB m13) m14; replace RD := Xrb (Xrn RD m13) m14
        exact inb_norm (then_normal (hJ1 _ _ _ _ _ _ _ _ _ _ _ _ _ _ HB.out RD.out bx0.out bx1.out LN.out AF.out QL GL))
      · have hqd := QF.out.sm.2.2.1.1
        have hqu := QF.out.sm.2.2.2.1
        refine ⟨_, rfl, by rfl, .inr ⟨_, _, _, by first | rfl | (go_simp; done), lact_any g q (.slice xa q.nw xc) (.slice ya q.ng yc) za ta zc tc V5 RD.out hqd hqu, ?_⟩⟩
        rintro e V15 ⟨k, z, bit, bd, rfl, hr, hg⟩
        have m15 : Mv (fun x => x = g) V5 V15 := mv_rd hg
        replace hS := hS.step m15 (fun _ _ h => .inl h)
        refine ⟨_, rfl, fun _ => hS, ?_⟩
        refine ptk ?_
        replace LN := hide (LN.out.mv m15 (fun x hx e => by have e : x = g := e; have := LN.out.lt x hx; omega))
        replace RD := hide hr
        clear hr hg
        replace bx1 := Xbb bx1 m15
        refine kd_val (i := 0) (v := .agg #[.int .i64 q.base, .slice xa q.nw xc, .int .i64 q.want, .slice ya q.ng yc, .slice za q.nd zc, .slice ta q.nu tc]) (by kernel_rfl) rfl (by rfl) (by have z0 := cell_box 0 (bx1.out) rfl; have z1 := cell_box 1 (bx1.out) rfl; have z2 := cell_box 2 (bx1.out) rfl; have z3 := cell_box 3 (bx1.out) rfl; have z4 := cell_box 4 (bx1.out) rfl; have z5 := cell_box 5 (bx1.out) rfl; go_simp) hS ?_
        refine ptk ?_
        replace hdo := fun V wv gv dv uv (h : La V wv gv dv uv q) => hdo V wv gv dv uv h k z bit bd
        have QL := do_lf QF.out k z bit bd
        have GL := do_ng QF.out k z bit bd
        generalize doL q k z bit bd = L at hdo QL GL
        generalize doC q k z bit bd = C at hdo
        have szT := lt_of_block bx1.out
        replace HB := Xhg HB m15
        have szW := HB.out.size
        refine kd_call (i := 4) (by kernel_rfl) rfl (by rfl) (by first | rfl | (go_simp; done)) (hdo V15 _ _ _ _ LN.out.la) ?_
        rintro e V16 ⟨wv, gv, dv, uv, rfl, LQ, hbl⟩
        have m16 : Mv (nob) V15 V16 := Mv.of_below hbl
        replace hS := hS.step m16 (fun _ _ h => h.elim)
        refine ⟨_, rfl, fun _ => hS, ?_⟩
        refine ptk ?_
        obtain ⟨x2a, x2c, rfl, _⟩ := LQ.wa.form
        obtain ⟨y2a, y2c, rfl, _⟩ := LQ.go.form
        obtain ⟨z2a, z2c, rfl, _⟩ := LQ.dn.form
        obtain ⟨t2a, t2c, rfl, _⟩ := LQ.up.form
        replace LN := hide (LQ.lower szW)
        replace AF : Hid (∀ x, Lrb (.slice x2a L.nw x2c) (.slice y2a L.ng y2c) (.slice z2a L.nd z2c) (.slice t2a L.nu t2c) x → b0 < x ∧ b1 < x) := hide (fun x h => by have := (LQ.lt x h).1; omega)
        clear LQ hbl szT szW
        refine tk0 5 (.tuple #[.agg #[.int .i64 L.base, .slice x2a L.nw x2c, .int .i64 L.want, .slice y2a L.ng y2c, .slice z2a L.nd z2c, .slice t2a L.nu t2c], .int .i64 C]) rfl ?_
        refine tk0 6 (.agg #[.int .i64 L.base, .slice x2a L.nw x2c, .int .i64 L.want, .slice y2a L.ng y2c, .slice z2a L.nd z2c, .slice t2a L.nu t2c]) rfl ?_
        refine tk0 7 (.int .i64 C) rfl ?_
        replace bx1 := Xbn bx1 m16
        refine kd_skipI (i := 8) (w' := (((((V16.setCell ⟨b1, 0, none⟩ (.int .i64 L.base)).setCell ⟨b1, 1, none⟩ (.slice x2a L.nw x2c)).setCell ⟨b1, 2, none⟩ (.int .i64 L.want)).setCell ⟨b1, 3, none⟩ (.slice y2a L.ng y2c)).setCell ⟨b1, 4, none⟩ (.slice z2a L.nd z2c)).setCell ⟨b1, 5, none⟩ (.slice t2a L.nu t2c)) (fun V => Mv (fun g => g = b1) V16 V ∧ V.heap[b1]? = some (.cells #[.int .i64 L.base, .slice x2a L.nw x2c, .int .i64 L.want, .slice y2a L.ng y2c, .slice z2a L.nd z2c, .slice t2a L.nu t2c] 27 (0, 0))) (by kernel_rfl) rfl (by rfl) (by have fr := fun i => frozen_of_row _ _ i _ _ bx1.out; have z0 := cell_box 0 bx1.out rfl; have z1 := cell_box 1 bx1.out rfl; have z2 := cell_box 2 bx1.out rfl; have z3 := cell_box 3 bx1.out rfl; have z4 := cell_box 4 bx1.out rfl; have z5 := cell_box 5 bx1.out rfl; go_simp) ⟨Mv.set (Mv.set (Mv.set (Mv.set (Mv.set (Mv.set (Mv.refl _ _) _ _) _ _) _ _) _ _) _ _) _ _, (heap_setCell_same _ _ 5 _ _ _ (heap_setCell_same _ _ 4 _ _ _ (heap_setCell_same _ _ 3 _ _ _ (heap_setCell_same _ _ 2 _ _ _ (heap_setCell_same _ _ 1 _ _ _ (heap_setCell_same _ _ 0 _ _ _ (bx1.out))))))).trans rfl⟩ (fun V hI _ => hS.step hI.1 (fun _ _ h => .inr h)) ?_
        rintro V17 ⟨m17, nxV17⟩
        refine ptk ?_
        replace LN := hide (LN.out.mv m17 (fun x hx e => by have e : x = b1 := e; have := AF.out x hx; omega))
        replace bx1 := hide nxV17
        clear nxV17
        replace hS := hS.step m17 (fun _ _ h => .inr h)
        refine wpAnyK_done (by kernel_rfl) ?_
        clear hS rbx1
        replace bx0 := Xbb (Xbn (Xbb bx0 m15) m16) m17; replace HB := Xhb (Xhn HB m16) m17; replace RD := Xrb (Xrn RD m16) m17
        exact inb_norm (then_normal (hJ1 _ _ _ _ _ _ _ _ _ _ _ _ _ _ HB.out RD.out bx0.out bx1.out LN.out AF.out QL GL))
  · refine sv (.int .i64 ((n : Int))) ?_
    refine sg (.bool false) (h := by have hd : decide (0 < n) = false := (by simpa using hn); go_simp) ?_
    refine nt (h6 _ _ (cf (wp_exit (then_exit (then_exit (inb_here rfl (then_normal (h3 _ _ (sk fun K8 h8 => sk fun K9 h9 => rl ?_))))))))); clear h6 K6; clear h5 K5; clear h3 K3
    refine sv (.pointer (some ⟨g, 0, none⟩)) ?_
    refine sw_call (by rfl) (by first | rfl | (go_simp; done)) (below_any g 30 VL1 RD.out (by omega) (by omega)) ?_
    rintro e V18 ⟨c, rfl, c0, c1, hr, hg⟩
    have m18 : Mv (fun x => x = g) VL1 V18 := mv_rd hg
    refine ⟨_, rfl, ?_⟩
    refine pt ?_
    replace LN := hide (LN.out.mv m18 (fun x hx e => by have e : x = g := e; have := LN.out.lt x hx; omega))
    replace RD := hide hr
    clear hr hg
    refine nt (h9 _ _ (wp_block (sk fun K10 h10 => rl ?_))); clear h9 K9
    replace QF := hide QF.out.sm
    rcases (show c = 28 ∨ c = 29 ∨ (¬ c = 28 ∧ ¬ c = 29) by omega) with rfl | rfl | hc
    · clear c0 c1
      refine sg (.bool true) ?_
      refine sv (.bool true) ?_
      refine nt (h10 _ _ (ct (rl ?_))); clear h10 K10
      refine sv (.pointer (some ⟨g, 0, none⟩)) ?_
      refine sw_call (by rfl) (by first | rfl | (go_simp; done)) (off_any g 0 4 V18 RD.out (by decide) (by decide) (by decide)) ?_
      rintro e V19 ⟨z, rfl, hr, hg⟩
      have m19 : Mv (fun x => x = g) V18 V19 := mv_rd hg
      refine ⟨_, rfl, ?_⟩
      refine pt ?_
      replace LN := hide (LN.out.mv m19 (fun x hx e => by have e : x = g := e; have := LN.out.lt x hx; omega))
      replace RD := hide hr
      clear hr hg
      refine sv (.pointer (some ⟨b1, 0, none⟩)) ?_
      replace bx1 := Xbb (Xbb bx1 m18) m19
      refine ss 0 (.int .i64 z) bx1 fun V20 m20 bx1 => ?_
      replace LN := hide (LN.out.mv m20 (fun x hx e => by have e : x = b1 := e; have := AF.out x hx; omega))
      refine wpList_nil (inb_norm (then_normal (h8 _ _ (sk fun K11 h11 => rl ?_)))); clear h8 K8
      refine sl6 bx1 ?_
      replace bx0 := Xbb (Xbb (Xbb bx0 m18) m19) m20
      refine ss6 (.int .i64 z) (.slice xa q.nw xc) (.int .i64 q.want) (.slice ya q.ng yc) (.slice za q.nd zc) (.slice ta q.nu tc) bx0 fun V21 m21 bx0 => ?_
      replace LN := hide (LN.out.mv m21 (fun x hx e => by have e : x = b0 := e; have := AF.out x hx; omega))
      refine nt (h11 _ _ (wp_ret ?_)); clear h11 K11
      replace HB := Xhb (Xhb (Xhg (Xhg HB m18) m19) m20) m21; replace RD := Xrb (Xrb RD m20) m21; replace bx1 := Xbb bx1 m21
      obtain ⟨_, q0_0, q0_1, q0_2, q0_3, q0_4, q0_5⟩ := box6 bx0.out
      exact bodyPost_ret (v := .agg #[.int .i64 z, .slice xa q.nw xc, .int .i64 q.want, .slice ya q.ng yc, .slice za q.nd zc, .slice ta q.nu tc]) (by simp [results, Try.results23, go_sem, q0_0, q0_1, q0_2, q0_3, q0_4, q0_5]) rfl ⟨_, _, _, _, { q with base := z }, rfl, LN.out.alike, QF.out, RD.out, gr_mv HB.out, by have := NG.out; show q.ng ≤ 1000; omega⟩
    · clear c0 c1
      refine sg (.bool false) ?_
      refine sv (.bool false) ?_
      refine nt (h10 _ _ (cf (sk fun K12 h12 => rl ?_))); clear h10 K10
      refine sg (.bool true) ?_
      refine sv (.bool true) ?_
      refine nt (h12 _ _ (ct (rl ?_))); clear h12 K12
      refine sv (.pointer (some ⟨g, 0, none⟩)) ?_
      refine sw_call (by rfl) (by first | rfl | (go_simp; done)) (off_any g 0 4 V18 RD.out (by decide) (by decide) (by decide)) ?_
      rintro e V22 ⟨z, rfl, hr, hg⟩
      have m22 : Mv (fun x => x = g) V18 V22 := mv_rd hg
      refine ⟨_, rfl, ?_⟩
      refine pt ?_
      replace LN := hide (LN.out.mv m22 (fun x hx e => by have e : x = g := e; have := LN.out.lt x hx; omega))
      replace RD := hide hr
      clear hr hg
      refine sv (.pointer (some ⟨b1, 2, none⟩)) ?_
      replace bx1 := Xbb (Xbb bx1 m18) m22
      refine ss 2 (.int .i64 z) bx1 fun V23 m23 bx1 => ?_
      replace LN := hide (LN.out.mv m23 (fun x hx e => by have e : x = b1 := e; have := AF.out x hx; omega))
      refine wpList_nil (inb_norm (then_normal (h8 _ _ (sk fun K13 h13 => rl ?_)))); clear h8 K8
      refine sl6 bx1 ?_
      replace bx0 := Xbb (Xbb (Xbb bx0 m18) m22) m23
      refine ss6 (.int .i64 q.base) (.slice xa q.nw xc) (.int .i64 z) (.slice ya q.ng yc) (.slice za q.nd zc) (.slice ta q.nu tc) bx0 fun V24 m24 bx0 => ?_
      replace LN := hide (LN.out.mv m24 (fun x hx e => by have e : x = b0 := e; have := AF.out x hx; omega))
      refine nt (h13 _ _ (wp_ret ?_)); clear h13 K13
      replace HB := Xhb (Xhb (Xhg (Xhg HB m18) m22) m23) m24; replace RD := Xrb (Xrb RD m23) m24; replace bx1 := Xbb bx1 m24
      obtain ⟨_, q0_0, q0_1, q0_2, q0_3, q0_4, q0_5⟩ := box6 bx0.out
      exact bodyPost_ret (v := .agg #[.int .i64 q.base, .slice xa q.nw xc, .int .i64 z, .slice ya q.ng yc, .slice za q.nd zc, .slice ta q.nu tc]) (by simp [results, Try.results23, go_sem, q0_0, q0_1, q0_2, q0_3, q0_4, q0_5]) rfl ⟨_, _, _, _, { q with want := z }, rfl, LN.out.alike, QF.out, RD.out, gr_mv HB.out, by have := NG.out; show q.ng ≤ 1000; omega⟩
    · refine sg (.bool false) (h := by have hc := hc.1; go_simp) ?_
      refine sv (.bool false) ?_
      refine nt (h10 _ _ (cf (sk fun K14 h14 => rl ?_))); clear h10 K10
      refine sg (.bool false) (h := by have hc := hc.2; go_simp) ?_
      refine sv (.bool false) ?_
      refine nt (h14 _ _ (cf (wp_skip (inb_norm (then_normal (h8 _ _ (sk fun K15 h15 => rl ?_))))))); clear h14 K14; clear h8 K8
      replace bx1 := Xbb bx1 m18
      refine sl6 bx1 ?_
      replace bx0 := Xbb bx0 m18
      refine ss6 (.int .i64 q.base) (.slice xa q.nw xc) (.int .i64 q.want) (.slice ya q.ng yc) (.slice za q.nd zc) (.slice ta q.nu tc) bx0 fun V25 m25 bx0 => ?_
      replace LN := hide (LN.out.mv m25 (fun x hx e => by have e : x = b0 := e; have := AF.out x hx; omega))
      refine nt (h15 _ _ (wp_ret ?_)); clear h15 K15
      replace HB := Xhb (Xhg HB m18) m25; replace RD := Xrb RD m25; replace bx1 := Xbb bx1 m25
      obtain ⟨_, q0_0, q0_1, q0_2, q0_3, q0_4, q0_5⟩ := box6 bx0.out
      exact bodyPost_ret (v := .agg #[.int .i64 q.base, .slice xa q.nw xc, .int .i64 q.want, .slice ya q.ng yc, .slice za q.nd zc, .slice ta q.nu tc]) (by simp [results, Try.results23, go_sem, q0_0, q0_1, q0_2, q0_3, q0_4, q0_5]) rfl ⟨_, _, _, _, q, rfl, LN.out.alike, QF.out, RD.out, gr_mv HB.out, by have := NG.out; show q.ng ≤ 1000; omega⟩

end Go.Proofs.Ytgflipkhhpkidaa
