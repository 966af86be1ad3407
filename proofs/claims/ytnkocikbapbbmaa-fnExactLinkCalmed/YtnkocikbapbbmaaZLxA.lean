/- what FnExactLinkDo wants of the laws' small functions (written by mkLxA.py) -/
import Derived.Test.YtnkocikbapbbmaaPd
import Derived.Test.YtnkocikbapbbmaaZLeC
namespace Go.Proofs.Ytnkocikbapbbmaa
open Go.RowKit
set_option linter.unusedVariables false
set_option linter.unusedSimpArgs false

set_option maxHeartbeats 4000000 in
set_option maxRecDepth 20000 in
theorem szLink_le (b k : Int) (wv gv dv uv : Value) (p : Lk) (w : World) (hv : Lv w wv gv dv uv p) (hs : Lsm 9223372036854775807 p) :
    Calls Try.prog 7 #[.agg (l6 b wv k gv dv uv), .int .i64 1048576] w fun e w' => ∃ r : Int, e = .returned (.int .i64 r) ∧ (0 ≤ r → Lsm 1048576 p) ∧ r ≤ 1048576 ∧ Below w.heap.size w w' := by
  have hA : Below w.heap.size w (w.alloc (.cells (l6 b wv k gv dv uv) 25)) := (Below.refl _ _).alloc (Nat.le_refl _) _
  have qa := heap_alloc_new w (.cells (l6 b wv k gv dv uv) 25)
  have HV := hide (hv.below hA)
  obtain ⟨⟨wa, wc, rfl, _⟩, ⟨ga, gc, rfl, _⟩, ⟨da, dc, rfl, _⟩, ⟨ua, uc, rfl, _⟩⟩ := hv
  obtain ⟨_, x0, x1, x2, x3, x4, x5⟩ := box6 qa
  obtain ⟨s1, s2, s3, s4⟩ := hs
  go_enter Try.func7, Try.ntmps7
  go_wp2_with fail
  refine (szTexts_any _ p.nw p.ws 1048576 _ (by decide) (by decide) HV.out.wa (by omega) (fun j hj => by have := s1.2 j hj; omega)).mono ?_
  rintro e w1 ⟨r1, rfl, hr1, hp1, hw1⟩
  subst hw1
  by_cases hx1 : r1 < 0
  · go_wp2
    go_ret
    exact ⟨-1, rfl, fun h => by omega, by decide, hA⟩
  have P1 := hide (hp1 (by omega))
  clear hp1
  go_wp2_with fail
  refine (szTexts_any _ p.ng p.gs r1 _ (by omega) (by omega) HV.out.go (by omega) (fun j hj => by have := s2.2 j hj; omega)).mono ?_
  rintro e w1 ⟨r2, rfl, hr2, hp2, hw1⟩
  subst hw1
  by_cases hx2 : r2 < 0
  · go_wp2
    go_ret
    exact ⟨-1, rfl, fun h => by omega, by decide, hA⟩
  have P2 := hide (hp2 (by omega))
  clear hp2
  go_wp2_with fail
  refine (szWires_any _ p.nd p.dt p.dh r2 _ (by omega) (by omega) HV.out.dn (by omega) (fun j hj => by have := s3.2 j hj; omega)).mono ?_
  rintro e w3 ⟨r3, rfl, hr3, hp3, hb3⟩
  have HB3 := hide (hA.trans (hb3.mono hA.size))
  have qa3 := heap_bl qa hb3
  have HV3 := hide (HV.out.below hb3)
  by_cases hx3 : r3 < 0
  · go_wp2
    go_ret
    exact ⟨-1, rfl, fun h => by omega, by decide, HB3.out⟩
  have P3 := hide (hp3 (by omega))
  clear hp3 hb3 HV x0 x1 x2 x3 x4 x5 qa hA
  obtain ⟨_, x0, x1, x2, x3, x4, x5⟩ := box6 qa3
  go_wp2_with fail
  refine (szWires_any _ p.nu p.ut p.uh r3 _ (by omega) (by omega) HV3.out.up (by omega) (fun j hj => by have := s4.2 j hj; omega)).mono ?_
  rintro e w4 ⟨r4, rfl, hr4, hp4, hb4⟩
  have HB4 := hide (HB3.out.trans (hb4.mono HB3.out.size))
  clear hb4 HV3 x0 x1 x2 x3 x4 x5 qa3 HB3
  by_cases hx4 : r4 < 0
  · go_wp2
    go_ret
    exact ⟨-1, rfl, fun h => by omega, by decide, HB4.out⟩
  have P4 := hide (hp4 (by omega))
  clear hp4
  go_wp2
  go_ret
  exact ⟨r4, rfl, fun _ => ⟨P1.out, P2.out, P3.out, P4.out⟩, by omega, HB4.out⟩

set_option maxHeartbeats 8000000 in
set_option maxRecDepth 20000 in
theorem szLAct_any (k z bit : Int) (body : ByteArray) (left : Int) (w : World) (h0 : 0 ≤ left) (h1 : left ≤ 1048576) (hb : (body.size : Int) ≤ 9223372036854775807) :
    Calls Try.prog 12 #[.agg (a4 k z bit body), .int .i64 left] w fun e w' => ∃ r : Int, e = .returned (.int .i64 r) ∧ Below w.heap.size w w' := by
  cases hx : decide (left - (body.size : Int) < 0) with
  | true =>
    have HB : Hid (Mv nob w w) := hide (Mv.refl _ _)
    go_enter Try.func12, Try.ntmps12
    refine sk fun K hK => rl ?_
    refine sbp #[.int .i64 k, .int .i64 z, .int .i64 bit, .string body] 35 fun V1 b0 hb0 m1 bx0 => ?_
    have o_0 : w.heap.size ≤ b0 := by omega
    replace HB := Xhn HB m1; clear hb0 m1
    refine sv (.int .i64 0) ?_
    refine nt (hK _ _ ?_); clear hK K; refine sk fun K hK => rl ?_
    refine sv (.int .i64 left) ?_
    refine sv (.pointer (some ⟨b0, 3, none⟩)) ?_
    refine sl 3 bx0 ?_
    refine sg (.int .i64 ((body.size : Int))) ?_
    refine sg (.int .i64 (left - (body.size : Int))) (h := by have hw : IntKind.i64.wrap (left - (body.size : Int)) = left - (body.size : Int) := i64wrap (by omega); go_simp) ?_
    refine sv (.int .i64 (left - (body.size : Int))) ?_
    refine nt (hK _ _ ?_); clear hK K; refine sk fun K hK => sk fun K hK => rl ?_
    refine sv (.int .i64 (left - (body.size : Int))) ?_
    refine sg (.bool true) (h := by have hx0 := hx; go_simp) ?_
    refine nt (hK _ _ ?_); clear hK K; refine ct (sk fun K hK => rl ?_)
    refine sv (.int .i64 (-1)) ?_
    refine nt (hK _ _ ?_); clear hK K; refine wp_ret (then_ret ?_)
    try simp only [Exit.then, Exit.inBlock, ↓reduceIte, Nat.reduceEqDiff]
    exact bodyPost_ret (v := .int .i64 ((-1))) (by simp [results, Try.results12, go_sem]) rfl ⟨_, rfl, HB.out.below⟩
  | false =>
    have HB : Hid (Mv nob w w) := hide (Mv.refl _ _)
    go_enter Try.func12, Try.ntmps12
    refine sk fun K hK => rl ?_
    refine sbp #[.int .i64 k, .int .i64 z, .int .i64 bit, .string body] 35 fun V1 b0 hb0 m1 bx0 => ?_
    have o_0 : w.heap.size ≤ b0 := by omega
    replace HB := Xhn HB m1; clear hb0 m1
    refine sv (.int .i64 0) ?_
    refine nt (hK _ _ ?_); clear hK K; refine sk fun K hK => rl ?_
    refine sv (.int .i64 left) ?_
    refine sv (.pointer (some ⟨b0, 3, none⟩)) ?_
    refine sl 3 bx0 ?_
    refine sg (.int .i64 ((body.size : Int))) ?_
    refine sg (.int .i64 (left - (body.size : Int))) (h := by have hw : IntKind.i64.wrap (left - (body.size : Int)) = left - (body.size : Int) := i64wrap (by omega); go_simp) ?_
    refine sv (.int .i64 (left - (body.size : Int))) ?_
    refine nt (hK _ _ ?_); clear hK K; refine sk fun K hK => sk fun K hK => rl ?_
    refine sv (.int .i64 (left - (body.size : Int))) ?_
    refine sg (.bool false) (h := by have hx0 := hx; go_simp) ?_
    refine nt (hK _ _ ?_); clear hK K; refine cf (wp_skip (then_normal (hK _ _ ?_))); clear hK K; refine sk fun K hK => rl ?_
    refine sv (.int .i64 (left - (body.size : Int))) ?_
    refine sv (.int .i64 (left - (body.size : Int))) ?_
    refine nt (hK _ _ ?_); clear hK K; refine wp_ret ?_
    try simp only [Exit.then, Exit.inBlock, ↓reduceIte, Nat.reduceEqDiff]
    exact bodyPost_ret (v := .int .i64 (left - (body.size : Int))) (by simp [results, Try.results12, go_sem]) rfl ⟨_, rfl, HB.out.below⟩

set_option maxHeartbeats 8000000 in
set_option maxRecDepth 20000 in
theorem toLAct_any (k z bit : Int) (body : ByteArray) (w : World) :
    Calls Try.prog 14 #[.agg (a4 k z bit body)] w fun e w' => e = .returned (.agg (a4 k z bit body)) ∧ Below w.heap.size w w' := by
  have HB : Hid (Mv nob w w) := hide (Mv.refl _ _)
  go_enter Try.func14, Try.ntmps14
  refine sk fun K hK => rl ?_
  refine sbp #[.int .i64 k, .int .i64 z, .int .i64 bit, .string body] 35 fun V1 b0 hb0 m1 bx0 => ?_
  have o_0 : w.heap.size ≤ b0 := by omega
  replace HB := Xhn HB m1; clear hb0 m1
  refine sbp #[.int .i64 0, .int .i64 0, .int .i64 0, .string ⟨#[]⟩] 39 fun V2 b1 hb1 m2 bx1 => ?_
  have o0_1 := Xlo bx0 hb1; replace HB := Xhn HB m2; replace bx0 := Xbn bx0 m2; clear hb1 m2
  refine nt (hK _ _ ?_); clear hK K; refine sk fun K hK => rl ?_
  refine sbp #[.int .i64 0, .int .i64 0, .int .i64 0, .string ⟨#[]⟩] 39 fun V3 b2 hb2 m3 bx2 => ?_
  have o0_2 := Xlo bx0 hb2; have o1_2 := Xlo bx1 hb2; replace HB := Xhn HB m3; replace bx0 := Xbn bx0 m3; replace bx1 := Xbn bx1 m3; clear hb2 m3
  refine nt (hK _ _ ?_); clear hK K; refine sk fun K hK => rl ?_
  refine sv (.pointer (some ⟨b0, 0, none⟩)) ?_
  refine sl 0 bx0 ?_
  refine sv (.pointer (some ⟨b2, 0, none⟩)) ?_
  refine ss 0 (.int .i64 k) bx2 fun V4 m4 bx2 => ?_
  replace HB := Xhb HB m4; replace bx0 := Xbb bx0 m4; replace bx1 := Xbb bx1 m4; clear m4
  refine nt (hK _ _ ?_); clear hK K; refine sk fun K hK => rl ?_
  refine sv (.pointer (some ⟨b0, 1, none⟩)) ?_
  refine sl 1 bx0 ?_
  refine sv (.pointer (some ⟨b2, 1, none⟩)) ?_
  refine ss 1 (.int .i64 z) bx2 fun V5 m5 bx2 => ?_
  replace HB := Xhb HB m5; replace bx0 := Xbb bx0 m5; replace bx1 := Xbb bx1 m5; clear m5
  refine nt (hK _ _ ?_); clear hK K; refine sk fun K hK => rl ?_
  refine sv (.pointer (some ⟨b0, 2, none⟩)) ?_
  refine sl 2 bx0 ?_
  refine sv (.pointer (some ⟨b2, 2, none⟩)) ?_
  refine ss 2 (.int .i64 bit) bx2 fun V6 m6 bx2 => ?_
  replace HB := Xhb HB m6; replace bx0 := Xbb bx0 m6; replace bx1 := Xbb bx1 m6; clear m6
  refine nt (hK _ _ ?_); clear hK K; refine sk fun K hK => rl ?_
  refine sv (.pointer (some ⟨b0, 3, none⟩)) ?_
  refine sl 3 bx0 ?_
  refine sv (.pointer (some ⟨b2, 3, none⟩)) ?_
  refine ss 3 (.string body) bx2 fun V7 m7 bx2 => ?_
  replace HB := Xhb HB m7; replace bx1 := Xbb bx1 m7; clear m7
  refine nt (hK _ _ ?_); clear hK K; refine sk fun K hK => rl ?_
  refine sg (.agg #[.int .i64 k, .int .i64 z, .int .i64 bit, .string body]) (h := by have z0 := cell_box 0 (bx2.out) rfl; have z1 := cell_box 1 (bx2.out) rfl; have z2 := cell_box 2 (bx2.out) rfl; have z3 := cell_box 3 (bx2.out) rfl; go_simp) ?_
  refine sw_skipI (w' := ((((V7).setCell ⟨b1, 0, none⟩ (.int .i64 k)).setCell ⟨b1, 1, none⟩ (.int .i64 z)).setCell ⟨b1, 2, none⟩ (.int .i64 bit)).setCell ⟨b1, 3, none⟩ (.string body)) (fun V => Mv (fun g => g = b1) V7 V ∧ V.heap[b1]? = some (.cells #[.int .i64 k, .int .i64 z, .int .i64 bit, .string body] 39 (0, 0))) (by rfl) (by have fr := fun i => frozen_of_row _ _ i _ _ bx1.out; have z0 := cell_box 0 bx1.out rfl; have z1 := cell_box 1 bx1.out rfl; have z2 := cell_box 2 bx1.out rfl; have z3 := cell_box 3 bx1.out rfl; go_simp) ⟨Mv.set (Mv.set (Mv.set (Mv.set (Mv.refl _ _) _ _) _ _) _ _) _ _, (heap_setCell_same _ _ 3 _ _ _ (heap_setCell_same _ _ 2 _ _ _ (heap_setCell_same _ _ 1 _ _ _ (heap_setCell_same _ _ 0 _ _ _ (bx1.out))))).trans rfl⟩ ?_
  rintro V8 ⟨m8, nxV8⟩
  refine pt ?_
  replace HB := Xhb HB m8
  replace bx1 := hide nxV8
  clear nxV8 m8
  refine nt (hK _ _ ?_); clear hK K; refine wp_ret ?_
  try simp only [Exit.then, Exit.inBlock, ↓reduceIte, Nat.reduceEqDiff]
  have q1_0 := cell_box 0 bx1.out rfl
  have q1_1 := cell_box 1 bx1.out rfl
  have q1_2 := cell_box 2 bx1.out rfl
  have q1_3 := cell_box 3 bx1.out rfl
  exact bodyPost_ret (v := .agg #[.int .i64 k, .int .i64 z, .int .i64 bit, .string body]) (by simp [results, Try.results14, go_sem, q1_0, q1_1, q1_2, q1_3]) rfl ⟨rfl, HB.out.below⟩

theorem zeL_sm : Lsm 1048576 zeL := ⟨⟨by decide, fun j hj => absurd hj (Nat.not_lt_zero j)⟩, ⟨by decide, fun j hj => absurd hj (Nat.not_lt_zero j)⟩, ⟨by decide, fun j hj => absurd hj (Nat.not_lt_zero j)⟩, ⟨by decide, fun j hj => absurd hj (Nat.not_lt_zero j)⟩⟩
theorem doL_sm {p : Lk} (hs : Lsm 1048576 p) (k z bit : Int) (body : ByteArray) : Lsm 1048576 (doL p k z bit body) := by
  unfold doL
  split
  · rename_i hk
    have hf := lk_iff.1 hk
    unfold ldL
    split
    · rename_i hc
      unfold ldC at hc
      split at hc
      · rename_i hla
        split at hc
        · rename_i h0
          exact act_sm hf (laB_kind hla) h0 (laB_body hla)
        · rename_i h0
          exact absurd hc h0
      · exact absurd hc (by decide)
    · exact hs
  · exact zeL_sm
theorem Lsm.four {p : Lk} (h : Lsm 1048576 p) : p.nw ≤ 1048576 ∧ p.ng ≤ 1048576 ∧ p.nd ≤ 1048576 ∧ p.nu ≤ 1048576 := ⟨h.1.1, h.2.1.1, h.2.2.1.1, h.2.2.2.1⟩
theorem Lo.hi {w : World} {base gw gg gd gu : Nat} {p : Lk} (h : Lo w base gw gg gd gu p) : gw < w.heap.size ∧ gg < w.heap.size ∧ gd < w.heap.size ∧ gu < w.heap.size := by
  have q : ∀ {g n m : Nat} {T : TypeId} {f : Nat → Nat → Value}, Cr w g T m n n f → g < w.heap.size := fun h => by
    obtain ⟨cur, q1, _⟩ := h
    exact lt_of_block q1
  exact ⟨q h.wa, q h.go, q h.dn, q h.up⟩

end Go.Proofs.Ytnkocikbapbbmaa
