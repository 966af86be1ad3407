/- LsC -/
import Derived.Test.YtgflipkhhpkidaaYkOrder48
import Derived.Test.YtgflipkhhpkidaaYkOrder45
/- the reader's body of a text, its act of a link (written by mkLsC.py) -/
namespace Go.Proofs.Ytgflipkhhpkidaa
open Go.RowKit
set_option linter.unusedVariables false
set_option linter.unusedSimpArgs false

set_option maxHeartbeats 8000000 in
set_option maxRecDepth 20000 in
theorem body_any (g : Nat) (w : World) (h : Rdr w g) : Calls Try.prog 40 #[.pointer (some ⟨g, 0, none⟩)] w fun e w' => ∃ s : ByteArray, e = .returned (.string s) ∧ s.size ≤ 8 ∧ Rdr w' g ∧ w.grownBy w' (some g) := by
  have hgl := h.lt
  have HB : Hid (Mv (fun x => x = g) w w) := hide (Mv.refl _ _)
  have RD := hide h
  clear h
  go_enter Try.func40, Try.ntmps40
  refine sk fun K1 h1 => rl ?_
  refine sv (.string ⟨#[]⟩) ?_
  refine nt (h1 _ _ (sk fun K2 h2 => rl ?_)); clear h1 K1
  refine sbs 6 #[.string ⟨#[]⟩, .string ⟨#[97]⟩, .string ⟨#[104, 101, 108, 108, 111]⟩, .string ⟨#[49, 50, 51, 52, 53, 54, 55, 56]⟩, .string ⟨#[0]⟩, .string ⟨#[120]⟩] 9 fun V1 b0 hb0 m1 bx0 => ?_
  have o_0 : w.heap.size ≤ b0 := by omega
  clear hb0
  refine sv (.pointer (some ⟨g, 0, none⟩)) ?_
  replace RD := Xrn RD m1
  refine sw_call (by rfl) (by first | rfl | (go_simp; done)) (below_any g 6 V1 RD.out (by omega) (by omega)) ?_
  rintro e V2 ⟨c, rfl, c0, c1, hr, hg⟩
  have m2 : Mv (fun x => x = g) V1 V2 := mv_rd hg
  refine ⟨_, rfl, ?_⟩
  refine pt ?_
  replace RD := hide hr
  clear hr hg
  rcases (show c = 0 ∨ c = 1 ∨ c = 2 ∨ c = 3 ∨ c = 4 ∨ c = 5 by omega) with rfl | rfl | rfl | rfl | rfl | rfl
  · clear c0 c1
    refine sg (.pointer (some ⟨b0, 0, none⟩)) ?_
    replace bx0 := Xbb bx0 m2
    refine sg (.string ⟨#[]⟩) (h := by have z0 := cell_box 0 bx0.out rfl; go_simp) ?_
    refine sv (.string ⟨#[]⟩) ?_
    refine nt (h2 _ _ (wp_ret ?_)); clear h2 K2
    replace HB := Xhg (Xhn HB m1) m2
    exact bodyPost_ret (v := .string ⟨#[]⟩) (by simp [results, Try.results40, go_sem]) rfl ⟨_, rfl, by decide, RD.out, gr_mv HB.out⟩
  · clear c0 c1
    refine sg (.pointer (some ⟨b0, 1, none⟩)) ?_
    replace bx0 := Xbb bx0 m2
    refine sg (.string ⟨#[97]⟩) (h := by have z0 := cell_box 1 bx0.out rfl; go_simp) ?_
    refine sv (.string ⟨#[97]⟩) ?_
    refine nt (h2 _ _ (wp_ret ?_)); clear h2 K2
    replace HB := Xhg (Xhn HB m1) m2
    exact bodyPost_ret (v := .string ⟨#[97]⟩) (by simp [results, Try.results40, go_sem]) rfl ⟨_, rfl, by decide, RD.out, gr_mv HB.out⟩
  · clear c0 c1
    refine sg (.pointer (some ⟨b0, 2, none⟩)) ?_
    replace bx0 := Xbb bx0 m2
    refine sg (.string ⟨#[104, 101, 108, 108, 111]⟩) (h := by have z0 := cell_box 2 bx0.out rfl; go_simp) ?_
    refine sv (.string ⟨#[104, 101, 108, 108, 111]⟩) ?_
    refine nt (h2 _ _ (wp_ret ?_)); clear h2 K2
    replace HB := Xhg (Xhn HB m1) m2
    exact bodyPost_ret (v := .string ⟨#[104, 101, 108, 108, 111]⟩) (by simp [results, Try.results40, go_sem]) rfl ⟨_, rfl, by decide, RD.out, gr_mv HB.out⟩
  · clear c0 c1
    refine sg (.pointer (some ⟨b0, 3, none⟩)) ?_
    replace bx0 := Xbb bx0 m2
    refine sg (.string ⟨#[49, 50, 51, 52, 53, 54, 55, 56]⟩) (h := by have z0 := cell_box 3 bx0.out rfl; go_simp) ?_
    refine sv (.string ⟨#[49, 50, 51, 52, 53, 54, 55, 56]⟩) ?_
    refine nt (h2 _ _ (wp_ret ?_)); clear h2 K2
    replace HB := Xhg (Xhn HB m1) m2
    exact bodyPost_ret (v := .string ⟨#[49, 50, 51, 52, 53, 54, 55, 56]⟩) (by simp [results, Try.results40, go_sem]) rfl ⟨_, rfl, by decide, RD.out, gr_mv HB.out⟩
  · clear c0 c1
    refine sg (.pointer (some ⟨b0, 4, none⟩)) ?_
    replace bx0 := Xbb bx0 m2
    refine sg (.string ⟨#[0]⟩) (h := by have z0 := cell_box 4 bx0.out rfl; go_simp) ?_
    refine sv (.string ⟨#[0]⟩) ?_
    refine nt (h2 _ _ (wp_ret ?_)); clear h2 K2
    replace HB := Xhg (Xhn HB m1) m2
    exact bodyPost_ret (v := .string ⟨#[0]⟩) (by simp [results, Try.results40, go_sem]) rfl ⟨_, rfl, by decide, RD.out, gr_mv HB.out⟩
  · clear c0 c1
    refine sg (.pointer (some ⟨b0, 5, none⟩)) ?_
    replace bx0 := Xbb bx0 m2
    refine sg (.string ⟨#[120]⟩) (h := by have z0 := cell_box 5 bx0.out rfl; go_simp) ?_
    refine sv (.string ⟨#[120]⟩) ?_
    refine nt (h2 _ _ (wp_ret ?_)); clear h2 K2
    replace HB := Xhg (Xhn HB m1) m2
    exact bodyPost_ret (v := .string ⟨#[120]⟩) (by simp [results, Try.results40, go_sem]) rfl ⟨_, rfl, by decide, RD.out, gr_mv HB.out⟩

set_option maxHeartbeats 8000000 in
set_option maxRecDepth 20000 in
theorem lact_any (g : Nat) (p : Lk) (wv gv : Value) (da ua : Option Addr) (dc uc : Nat) (w : World) (h : Rdr w g) (hnd : p.nd ≤ 1048576) (hnu : p.nu ≤ 1048576) : Calls Try.prog 24 #[.pointer (some ⟨g, 0, none⟩), .agg (l6 p.base wv p.want gv (.slice da p.nd dc) (.slice ua p.nu uc))] w fun e w' => ∃ (k z bit : Int) (bd : ByteArray), e = .returned (.agg (a4 k z bit bd)) ∧ Rdr w' g ∧ w.grownBy w' (some g) := by
  have hgl := h.lt
  have HB : Hid (Mv (fun x => x = g) w w) := hide (Mv.refl _ _)
  have RD := hide h
  clear h
  go_enter Try.func24, Try.ntmps24
  refine sk fun K1 h1 => rl ?_
  refine sbp #[.int .i64 p.base, wv, .int .i64 p.want, gv, .slice da p.nd dc, .slice ua p.nu uc] 27 fun V1 b0 hb0 m1 bx0 => ?_
  have o_0 : w.heap.size ≤ b0 := by omega
  clear hb0
  refine sbp #[.int .i64 0, .int .i64 0, .int .i64 0, .string ⟨#[]⟩] 29 fun V2 b1 hb1 m2 bx1 => ?_
  have o0_1 := Xlo bx0 hb1
  clear hb1
  refine nt (h1 _ _ (sk fun K2 h2 => sk fun K3 h3 => rl ?_)); clear h1 K1
  refine sv (.pointer (some ⟨g, 0, none⟩)) ?_
  replace RD := Xrn (Xrn RD m1) m2
  refine sw_call (by rfl) (by first | rfl | (go_simp; done)) (below_any g 12 V2 RD.out (by omega) (by omega)) ?_
  rintro e V3 ⟨x, rfl, x0, x1, hr, hg⟩
  have m3 : Mv (fun x => x = g) V2 V3 := mv_rd hg
  refine ⟨_, rfl, ?_⟩
  refine pt ?_
  replace RD := hide hr
  clear hr hg
  refine nt (h3 _ _ (wp_block (sk fun K4 h4 => sk fun K5 h5 => rl ?_))); clear h3 K3
  rcases (show x = 0 ∨ x = 1 ∨ x = 2 ∨ x = 3 ∨ x = 4 ∨ x = 5 ∨ x = 6 ∨ x = 7 ∨ x = 8 ∨ x = 9 ∨ x = 10 ∨ x = 11 by omega) with rfl | rfl | rfl | rfl | rfl | rfl | rfl | rfl | rfl | rfl | rfl | rfl
  · clear x0 x1
    refine sg (.bool true) ?_
    refine sv (.bool true) ?_
    refine nt (h5 _ _ (ct (wp_skip (then_normal (h4 _ _ (ct (sk fun K6 h6 => rl ?_))))))); clear h5 K5; clear h4 K4
    refine sv (.pointer (some ⟨g, 0, none⟩)) ?_
    refine sw_call (by rfl) (by first | rfl | (go_simp; done)) (body_any g V3 RD.out) ?_
    rintro e V4 ⟨bd, rfl, hbd, hr, hg⟩
    have m4 : Mv (fun x => x = g) V3 V4 := mv_rd hg
    refine ⟨_, rfl, ?_⟩
    refine pt ?_
    replace RD := hide hr
    clear hr hg
    clear hbd
    refine sv (.agg #[.int .i64 1, .int .i64 0, .int .i64 0, .string bd]) ?_
    replace bx1 := Xbb (Xbb bx1 m3) m4
    refine ss4 (.int .i64 1) (.int .i64 0) (.int .i64 0) (.string bd) bx1 fun V5 m5 bx1 => ?_
    refine nt (h6 _ _ (wp_ret (inb_ret (then_ret ?_)))); clear h6 K6; clear h2 K2
    replace HB := Xhb (Xhg (Xhg (Xhn (Xhn HB m1) m2) m3) m4) m5; replace bx0 := Xbb (Xbb (Xbb (Xbn bx0 m2) m3) m4) m5; replace RD := Xrb RD m5
    have q1_0 := cell_box 0 bx1.out rfl
    have q1_1 := cell_box 1 bx1.out rfl
    have q1_2 := cell_box 2 bx1.out rfl
    have q1_3 := cell_box 3 bx1.out rfl
    exact bodyPost_ret (v := .agg #[.int .i64 1, .int .i64 0, .int .i64 0, .string bd]) (by simp [results, Try.results24, go_sem, q1_0, q1_1, q1_2, q1_3]) rfl ⟨_, _, _, _, rfl, RD.out, gr_mv HB.out⟩
  · clear x0 x1
    refine sg (.bool false) ?_
    refine sv (.bool false) ?_
    refine nt (h5 _ _ (cf (sk fun K7 h7 => rl ?_))); clear h5 K5
    refine sg (.bool true) ?_
    refine sv (.bool true) ?_
    refine nt (h7 _ _ (ct (wp_skip (then_normal (h4 _ _ (ct (sk fun K8 h8 => rl ?_))))))); clear h7 K7; clear h4 K4
    refine sv (.pointer (some ⟨g, 0, none⟩)) ?_
    refine sw_call (by rfl) (by first | rfl | (go_simp; done)) (body_any g V3 RD.out) ?_
    rintro e V6 ⟨bd, rfl, hbd, hr, hg⟩
    have m6 : Mv (fun x => x = g) V3 V6 := mv_rd hg
    refine ⟨_, rfl, ?_⟩
    refine pt ?_
    replace RD := hide hr
    clear hr hg
    clear hbd
    refine sv (.agg #[.int .i64 1, .int .i64 0, .int .i64 0, .string bd]) ?_
    replace bx1 := Xbb (Xbb bx1 m3) m6
    refine ss4 (.int .i64 1) (.int .i64 0) (.int .i64 0) (.string bd) bx1 fun V7 m7 bx1 => ?_
    refine nt (h8 _ _ (wp_ret (inb_ret (then_ret ?_)))); clear h8 K8; clear h2 K2
    replace HB := Xhb (Xhg (Xhg (Xhn (Xhn HB m1) m2) m3) m6) m7; replace bx0 := Xbb (Xbb (Xbb (Xbn bx0 m2) m3) m6) m7; replace RD := Xrb RD m7
    have q1_0 := cell_box 0 bx1.out rfl
    have q1_1 := cell_box 1 bx1.out rfl
    have q1_2 := cell_box 2 bx1.out rfl
    have q1_3 := cell_box 3 bx1.out rfl
    exact bodyPost_ret (v := .agg #[.int .i64 1, .int .i64 0, .int .i64 0, .string bd]) (by simp [results, Try.results24, go_sem, q1_0, q1_1, q1_2, q1_3]) rfl ⟨_, _, _, _, rfl, RD.out, gr_mv HB.out⟩
  · clear x0 x1
    refine sg (.bool false) ?_
    refine sv (.bool false) ?_
    refine nt (h5 _ _ (cf (sk fun K9 h9 => rl ?_))); clear h5 K5
    refine sg (.bool false) ?_
    refine sv (.bool false) ?_
    refine nt (h9 _ _ (cf (rl ?_))); clear h9 K9
    refine sg (.bool true) ?_
    refine sv (.bool true) ?_
    refine nt (h4 _ _ (ct (sk fun K10 h10 => rl ?_))); clear h4 K4
    refine sv (.pointer (some ⟨g, 0, none⟩)) ?_
    refine sw_call (by rfl) (by first | rfl | (go_simp; done)) (body_any g V3 RD.out) ?_
    rintro e V8 ⟨bd, rfl, hbd, hr, hg⟩
    have m8 : Mv (fun x => x = g) V3 V8 := mv_rd hg
    refine ⟨_, rfl, ?_⟩
    refine pt ?_
    replace RD := hide hr
    clear hr hg
    clear hbd
    refine sv (.agg #[.int .i64 1, .int .i64 0, .int .i64 0, .string bd]) ?_
    replace bx1 := Xbb (Xbb bx1 m3) m8
    refine ss4 (.int .i64 1) (.int .i64 0) (.int .i64 0) (.string bd) bx1 fun V9 m9 bx1 => ?_
    refine nt (h10 _ _ (wp_ret (inb_ret (then_ret ?_)))); clear h10 K10; clear h2 K2
    replace HB := Xhb (Xhg (Xhg (Xhn (Xhn HB m1) m2) m3) m8) m9; replace bx0 := Xbb (Xbb (Xbb (Xbn bx0 m2) m3) m8) m9; replace RD := Xrb RD m9
    have q1_0 := cell_box 0 bx1.out rfl
    have q1_1 := cell_box 1 bx1.out rfl
    have q1_2 := cell_box 2 bx1.out rfl
    have q1_3 := cell_box 3 bx1.out rfl
    exact bodyPost_ret (v := .agg #[.int .i64 1, .int .i64 0, .int .i64 0, .string bd]) (by simp [results, Try.results24, go_sem, q1_0, q1_1, q1_2, q1_3]) rfl ⟨_, _, _, _, rfl, RD.out, gr_mv HB.out⟩
  · clear x0 x1
    refine sg (.bool false) ?_
    refine sv (.bool false) ?_
    refine nt (h5 _ _ (cf (sk fun K11 h11 => rl ?_))); clear h5 K5
    refine sg (.bool false) ?_
    refine sv (.bool false) ?_
    refine nt (h11 _ _ (cf (rl ?_))); clear h11 K11
    refine sg (.bool false) ?_
    refine sv (.bool false) ?_
    refine nt (h4 _ _ (cf (sk fun K12 h12 => sk fun K13 h13 => rl ?_))); clear h4 K4
    refine sg (.bool true) ?_
    refine sv (.bool true) ?_
    refine nt (h13 _ _ (ct (wp_skip (then_normal (h12 _ _ (ct (sk fun K14 h14 => rl ?_))))))); clear h13 K13; clear h12 K12
    refine sv (.agg #[.int .i64 2, .int .i64 0, .int .i64 0, .string ⟨#[]⟩]) ?_
    replace bx1 := Xbb bx1 m3
    refine ss4 (.int .i64 2) (.int .i64 0) (.int .i64 0) (.string ⟨#[]⟩) bx1 fun V10 m10 bx1 => ?_
    refine nt (h14 _ _ (wp_ret (inb_ret (then_ret ?_)))); clear h14 K14; clear h2 K2
    replace HB := Xhb (Xhg (Xhn (Xhn HB m1) m2) m3) m10; replace bx0 := Xbb (Xbb (Xbn bx0 m2) m3) m10; replace RD := Xrb RD m10
    have q1_0 := cell_box 0 bx1.out rfl
    have q1_1 := cell_box 1 bx1.out rfl
    have q1_2 := cell_box 2 bx1.out rfl
    have q1_3 := cell_box 3 bx1.out rfl
    exact bodyPost_ret (v := .agg #[.int .i64 2, .int .i64 0, .int .i64 0, .string ⟨#[]⟩]) (by simp [results, Try.results24, go_sem, q1_0, q1_1, q1_2, q1_3]) rfl ⟨_, _, _, _, rfl, RD.out, gr_mv HB.out⟩
  · clear x0 x1
    refine sg (.bool false) ?_
    refine sv (.bool false) ?_
    refine nt (h5 _ _ (cf (sk fun K15 h15 => rl ?_))); clear h5 K5
    refine sg (.bool false) ?_
    refine sv (.bool false) ?_
    refine nt (h15 _ _ (cf (rl ?_))); clear h15 K15
    refine sg (.bool false) ?_
    refine sv (.bool false) ?_
    refine nt (h4 _ _ (cf (sk fun K16 h16 => sk fun K17 h17 => rl ?_))); clear h4 K4
    refine sg (.bool false) ?_
    refine sv (.bool false) ?_
    refine nt (h17 _ _ (cf (rl ?_))); clear h17 K17
    refine sg (.bool true) ?_
    refine sv (.bool true) ?_
    refine nt (h16 _ _ (ct (sk fun K18 h18 => rl ?_))); clear h16 K16
    refine sv (.agg #[.int .i64 2, .int .i64 0, .int .i64 0, .string ⟨#[]⟩]) ?_
    replace bx1 := Xbb bx1 m3
    refine ss4 (.int .i64 2) (.int .i64 0) (.int .i64 0) (.string ⟨#[]⟩) bx1 fun V11 m11 bx1 => ?_
    refine nt (h18 _ _ (wp_ret (inb_ret (then_ret ?_)))); clear h18 K18; clear h2 K2
    replace HB := Xhb (Xhg (Xhn (Xhn HB m1) m2) m3) m11; replace bx0 := Xbb (Xbb (Xbn bx0 m2) m3) m11; replace RD := Xrb RD m11
    have q1_0 := cell_box 0 bx1.out rfl
    have q1_1 := cell_box 1 bx1.out rfl
    have q1_2 := cell_box 2 bx1.out rfl
    have q1_3 := cell_box 3 bx1.out rfl
    exact bodyPost_ret (v := .agg #[.int .i64 2, .int .i64 0, .int .i64 0, .string ⟨#[]⟩]) (by simp [results, Try.results24, go_sem, q1_0, q1_1, q1_2, q1_3]) rfl ⟨_, _, _, _, rfl, RD.out, gr_mv HB.out⟩
  · clear x0 x1
    refine sg (.bool false) ?_
    refine sv (.bool false) ?_
    refine nt (h5 _ _ (cf (sk fun K19 h19 => rl ?_))); clear h5 K5
    refine sg (.bool false) ?_
    refine sv (.bool false) ?_
    refine nt (h19 _ _ (cf (rl ?_))); clear h19 K19
    refine sg (.bool false) ?_
    refine sv (.bool false) ?_
    refine nt (h4 _ _ (cf (sk fun K20 h20 => sk fun K21 h21 => rl ?_))); clear h4 K4
    refine sg (.bool false) ?_
    refine sv (.bool false) ?_
    refine nt (h21 _ _ (cf (rl ?_))); clear h21 K21
    refine sg (.bool false) ?_
    refine sv (.bool false) ?_
    refine nt (h20 _ _ (cf (sk fun K22 h22 => rl ?_))); clear h20 K20
    refine sg (.bool true) ?_
    refine sv (.bool true) ?_
    refine nt (h22 _ _ (ct (sk fun K23 h23 => ?_))); clear h22 K22
    refine wp_region_but (z := 8) (S := fun w' => Mv (fun x => x = g) V3.drew w') (by kernel_rfl) (Mv.refl _ _) (fun hS => ?_)
    have m12 : Mv nob V3 V3.drew := Mv.drew _
    obtain ⟨V12, hN⟩ : ∃ V, V3.drew = V := ⟨_, rfl⟩
    rw [hN] at hS m12 ⊢
    clear hN
    refine tk0 1 (.pointer (some ⟨g, 0, none⟩)) rfl ?_
    refine tk0 5 (.pointer (some ⟨g, 0, none⟩)) rfl ?_
    replace HB := Xhn (Xhg (Xhn (Xhn HB m1) m2) m3) m12; replace bx0 := Xbn (Xbb (Xbn bx0 m2) m3) m12; replace bx1 := Xbn (Xbb bx1 m3) m12; replace RD := Xrn RD m12
    refine kd_each (l := [0, 2]) (by kernel_rfl) rfl ⟨?_, ?_, trivial⟩
    · refine ⟨_, rfl, by rfl, .inl ⟨.slice (some ⟨V12.heap.size, 0, none⟩) 2 2, V12.alloc (.cells #[.int .i64 5, .int .i64 6] 2), (by first | rfl | go_simp), fun _ => hS.step (Mv.alloc _ _) (fun _ _ h => h.elim), ?_⟩⟩
      have m13 : Mv nob V12 (V12.alloc (.cells #[.int .i64 5, .int .i64 6] 2)) := Mv.alloc _ _
      have nx := heap_alloc_new V12 (.cells #[.int .i64 5, .int .i64 6] 2)
      obtain ⟨V13, hN⟩ : ∃ V, V12.alloc (.cells #[.int .i64 5, .int .i64 6] 2) = V := ⟨_, rfl⟩
      rw [hN] at m13 nx ⊢
      clear hN
      refine ptk ?_
      obtain ⟨b2, hb2⟩ : ∃ b2, V12.heap.size = b2 := ⟨_, rfl⟩
      rw [hb2] at nx ⊢
      have o1_2 := Xlo bx1 hb2
      have bx2 := hide nx
      clear nx
      replace hS := hS.step m13 (fun _ _ h => h.elim)
      clear hb2
      refine wpAnyK_re (S' := fun w' => Mv (fun x => x = g) V13 w') (fun w' h => hS.step h (fun _ _ h => h)) ?_
      replace hS : Mv (fun x => x = g) V13 V13 := Mv.refl _ _
      have rbx2 := bx2
      replace RD := Xrn RD m13
      refine kd_call (i := 2) (by kernel_rfl) rfl (by rfl) (by first | rfl | (go_simp; done)) (below_any g 2 V13 RD.out (by omega) (by omega)) ?_
      rintro e V14 ⟨y, rfl, y0, y1, hr, hg⟩
      have m14 : Mv (fun x => x = g) V13 V14 := mv_rd hg
      replace hS := hS.step m14 (fun _ _ h => h)
      refine ⟨_, rfl, fun _ => hS, ?_⟩
      refine ptk ?_
      replace RD := hide hr
      clear hr hg
      refine tk 3 (.pointer (some ⟨b2, y.toNat, none⟩)) rfl (fun w' hSw => by (try dsimp only at hSw); skip; go_simp) ?_
      refine tk 4 (.int .i64 (5 + y)) rfl (fun w' hSw => by (try dsimp only at hSw); have zc : w'.cell? ⟨b2, y.toNat, none⟩ = some (.int .i64 (5 + y)) := (by rcases (show y = 0 ∨ y = 1 by omega) with rfl | rfl; exact cell_box 0 (hSw.box rbx2.out (show ¬ (b2 = g) by omega)) rfl; exact cell_box 1 (hSw.box rbx2.out (show ¬ (b2 = g) by omega)) rfl); go_simp) ?_
      refine kd_call (i := 6) (by kernel_rfl) rfl (by rfl) (by first | rfl | (go_simp; done)) (below_any g 2 V14 RD.out (by omega) (by omega)) ?_
      rintro e V15 ⟨z, rfl, z0, z1, hr, hg⟩
      have m15 : Mv (fun x => x = g) V14 V15 := mv_rd hg
      replace hS := hS.step m15 (fun _ _ h => h)
      refine ⟨_, rfl, fun _ => hS, ?_⟩
      refine ptk ?_
      replace RD := hide hr
      clear hr hg
      refine tk0 7 (.agg #[.int .i64 (5 + y), .int .i64 z, .int .i64 0, .string ⟨#[]⟩]) rfl ?_
      replace bx1 := Xbb (Xbb (Xbn bx1 m13) m14) m15
      refine kd_skipI (i := 8) (w' := (((V15.setCell ⟨b1, 0, none⟩ (.int .i64 (5 + y))).setCell ⟨b1, 1, none⟩ (.int .i64 z)).setCell ⟨b1, 2, none⟩ (.int .i64 0)).setCell ⟨b1, 3, none⟩ (.string ⟨#[]⟩)) (fun V => Mv (fun g => g = b1) V15 V ∧ V.heap[b1]? = some (.cells #[.int .i64 (5 + y), .int .i64 z, .int .i64 0, .string ⟨#[]⟩] 29 (0, 0))) (by kernel_rfl) rfl (by rfl) (by have fr := fun i => frozen_of_row _ _ i _ _ bx1.out; have z0 := cell_box 0 bx1.out rfl; have z1 := cell_box 1 bx1.out rfl; have z2 := cell_box 2 bx1.out rfl; have z3 := cell_box 3 bx1.out rfl; go_simp) ⟨Mv.set (Mv.set (Mv.set (Mv.set (Mv.refl _ _) _ _) _ _) _ _) _ _, (heap_setCell_same _ _ 3 _ _ _ (heap_setCell_same _ _ 2 _ _ _ (heap_setCell_same _ _ 1 _ _ _ (heap_setCell_same _ _ 0 _ _ _ (bx1.out))))).trans rfl⟩ (fun _ _ h => absurd rfl h) ?_
      rintro V16 ⟨m16, nxV16⟩
      refine ptk ?_
      replace bx1 := hide nxV16
      clear nxV16
      refine wpAnyK_done (by kernel_rfl) ?_
      clear hS rbx2
      refine then_normal (h23 _ _ (wp_ret (inb_ret (then_ret ?_)))); clear h23 K23; clear h2 K2
      replace HB := Xhb (Xhg (Xhg (Xhn HB m13) m14) m15) m16; replace bx0 := Xbb (Xbb (Xbb (Xbn bx0 m13) m14) m15) m16; replace bx2 := Xbb (Xbb (Xbb bx2 m14) m15) m16; replace RD := Xrb RD m16
      have q1_0 := cell_box 0 bx1.out rfl
      have q1_1 := cell_box 1 bx1.out rfl
      have q1_2 := cell_box 2 bx1.out rfl
      have q1_3 := cell_box 3 bx1.out rfl
      exact bodyPost_ret (v := .agg #[.int .i64 (5 + y), .int .i64 z, .int .i64 0, .string ⟨#[]⟩]) (by simp [results, Try.results24, go_sem, q1_0, q1_1, q1_2, q1_3]) rfl ⟨_, _, _, _, rfl, RD.out, gr_mv HB.out⟩
    · refine ⟨_, rfl, by rfl, .inr ⟨_, _, _, by first | rfl | (go_simp; done), below_any g 2 V12 RD.out (by omega) (by omega), ?_⟩⟩
      rintro e V17 ⟨y, rfl, y0, y1, hr, hg⟩
      have m17 : Mv (fun x => x = g) V12 V17 := mv_rd hg
      replace hS := hS.step m17 (fun _ _ h => h)
      refine ⟨_, rfl, fun _ => hS, ?_⟩
      refine ptk ?_
      replace RD := hide hr
      clear hr hg
      replace HB := Xhg HB m17; replace bx0 := Xbb bx0 m17; replace bx1 := Xbb bx1 m17
      refine kd_each (l := [0, 6]) (by kernel_rfl) rfl ⟨?_, ?_, trivial⟩
      · refine ⟨_, rfl, by rfl, .inl ⟨.slice (some ⟨V17.heap.size, 0, none⟩) 2 2, V17.alloc (.cells #[.int .i64 5, .int .i64 6] 2), (by first | rfl | go_simp), fun _ => hS.step (Mv.alloc _ _) (fun _ _ h => h.elim), ?_⟩⟩
        have m18 : Mv nob V17 (V17.alloc (.cells #[.int .i64 5, .int .i64 6] 2)) := Mv.alloc _ _
        have nx := heap_alloc_new V17 (.cells #[.int .i64 5, .int .i64 6] 2)
        obtain ⟨V18, hN⟩ : ∃ V, V17.alloc (.cells #[.int .i64 5, .int .i64 6] 2) = V := ⟨_, rfl⟩
        rw [hN] at m18 nx ⊢
        clear hN
        refine ptk ?_
        obtain ⟨b2, hb2⟩ : ∃ b2, V17.heap.size = b2 := ⟨_, rfl⟩
        rw [hb2] at nx ⊢
        have o1_2 := Xlo bx1 hb2
        have bx2 := hide nx
        clear nx
        replace hS := hS.step m18 (fun _ _ h => h.elim)
        clear hb2
        refine wpAnyK_re (S' := fun w' => Mv (fun x => x = g) V18 w') (fun w' h => hS.step h (fun _ _ h => h)) ?_
        replace hS : Mv (fun x => x = g) V18 V18 := Mv.refl _ _
        have rbx2 := bx2
        refine tk 3 (.pointer (some ⟨b2, y.toNat, none⟩)) rfl (fun w' hSw => by (try dsimp only at hSw); skip; go_simp) ?_
        refine tk 4 (.int .i64 (5 + y)) rfl (fun w' hSw => by (try dsimp only at hSw); have zc : w'.cell? ⟨b2, y.toNat, none⟩ = some (.int .i64 (5 + y)) := (by rcases (show y = 0 ∨ y = 1 by omega) with rfl | rfl; exact cell_box 0 (hSw.box rbx2.out (show ¬ (b2 = g) by omega)) rfl; exact cell_box 1 (hSw.box rbx2.out (show ¬ (b2 = g) by omega)) rfl); go_simp) ?_
        replace RD := Xrn RD m18
        refine kd_call (i := 6) (by kernel_rfl) rfl (by rfl) (by first | rfl | (go_simp; done)) (below_any g 2 V18 RD.out (by omega) (by omega)) ?_
        rintro e V19 ⟨z, rfl, z0, z1, hr, hg⟩
        have m19 : Mv (fun x => x = g) V18 V19 := mv_rd hg
        replace hS := hS.step m19 (fun _ _ h => h)
        refine ⟨_, rfl, fun _ => hS, ?_⟩
        refine ptk ?_
        replace RD := hide hr
        clear hr hg
        refine tk0 7 (.agg #[.int .i64 (5 + y), .int .i64 z, .int .i64 0, .string ⟨#[]⟩]) rfl ?_
        replace bx1 := Xbb (Xbn bx1 m18) m19
        refine kd_skipI (i := 8) (w' := (((V19.setCell ⟨b1, 0, none⟩ (.int .i64 (5 + y))).setCell ⟨b1, 1, none⟩ (.int .i64 z)).setCell ⟨b1, 2, none⟩ (.int .i64 0)).setCell ⟨b1, 3, none⟩ (.string ⟨#[]⟩)) (fun V => Mv (fun g => g = b1) V19 V ∧ V.heap[b1]? = some (.cells #[.int .i64 (5 + y), .int .i64 z, .int .i64 0, .string ⟨#[]⟩] 29 (0, 0))) (by kernel_rfl) rfl (by rfl) (by have fr := fun i => frozen_of_row _ _ i _ _ bx1.out; have z0 := cell_box 0 bx1.out rfl; have z1 := cell_box 1 bx1.out rfl; have z2 := cell_box 2 bx1.out rfl; have z3 := cell_box 3 bx1.out rfl; go_simp) ⟨Mv.set (Mv.set (Mv.set (Mv.set (Mv.refl _ _) _ _) _ _) _ _) _ _, (heap_setCell_same _ _ 3 _ _ _ (heap_setCell_same _ _ 2 _ _ _ (heap_setCell_same _ _ 1 _ _ _ (heap_setCell_same _ _ 0 _ _ _ (bx1.out))))).trans rfl⟩ (fun _ _ h => absurd rfl h) ?_
        rintro V20 ⟨m20, nxV20⟩
        refine ptk ?_
        replace bx1 := hide nxV20
        clear nxV20
        refine wpAnyK_done (by kernel_rfl) ?_
        clear hS rbx2
        refine then_normal (h23 _ _ (wp_ret (inb_ret (then_ret ?_)))); clear h23 K23; clear h2 K2
        replace HB := Xhb (Xhg (Xhn HB m18) m19) m20; replace bx0 := Xbb (Xbb (Xbn bx0 m18) m19) m20; replace bx2 := Xbb (Xbb bx2 m19) m20; replace RD := Xrb RD m20
        have q1_0 := cell_box 0 bx1.out rfl
        have q1_1 := cell_box 1 bx1.out rfl
        have q1_2 := cell_box 2 bx1.out rfl
        have q1_3 := cell_box 3 bx1.out rfl
        exact bodyPost_ret (v := .agg #[.int .i64 (5 + y), .int .i64 z, .int .i64 0, .string ⟨#[]⟩]) (by simp [results, Try.results24, go_sem, q1_0, q1_1, q1_2, q1_3]) rfl ⟨_, _, _, _, rfl, RD.out, gr_mv HB.out⟩
      · refine ⟨_, rfl, by rfl, .inr ⟨_, _, _, by first | rfl | (go_simp; done), below_any g 2 V17 RD.out (by omega) (by omega), ?_⟩⟩
        rintro e V21 ⟨z, rfl, z0, z1, hr, hg⟩
        have m21 : Mv (fun x => x = g) V17 V21 := mv_rd hg
        replace hS := hS.step m21 (fun _ _ h => h)
        refine ⟨_, rfl, fun _ => hS, ?_⟩
        refine ptk ?_
        replace RD := hide hr
        clear hr hg
        refine kd_valI (i := 0) (v := .slice (some ⟨V21.heap.size, 0, none⟩) 2 2) (w' := V21.alloc (.cells #[.int .i64 5, .int .i64 6] 2)) (fun V => Mv nob V21 V ∧ V.heap[V21.heap.size]? = some (.cells #[.int .i64 5, .int .i64 6] 2 (0, 0))) (by kernel_rfl) rfl (by rfl) (by first | rfl | go_simp) ⟨Mv.alloc _ _, heap_alloc_new _ _⟩ (fun V hI _ => hS.step hI.1 (fun _ _ h => h.elim)) ?_
        rintro V22 ⟨m22, nx⟩
        refine ptk ?_
        obtain ⟨b2, hb2⟩ : ∃ b2, V21.heap.size = b2 := ⟨_, rfl⟩
        rw [hb2] at nx ⊢
        replace bx1 := Xbb bx1 m21
        have o1_2 := Xlo bx1 hb2
        have bx2 := hide nx
        clear nx
        replace hS := hS.step m22 (fun _ _ h => h.elim)
        clear hb2
        refine wpAnyK_re (S' := fun w' => Mv (fun x => x = g) V22 w') (fun w' h => hS.step h (fun _ _ h => h)) ?_
        replace hS : Mv (fun x => x = g) V22 V22 := Mv.refl _ _
        have rbx2 := bx2
        refine tk 3 (.pointer (some ⟨b2, y.toNat, none⟩)) rfl (fun w' hSw => by (try dsimp only at hSw); skip; go_simp) ?_
        refine tk 4 (.int .i64 (5 + y)) rfl (fun w' hSw => by (try dsimp only at hSw); have zc : w'.cell? ⟨b2, y.toNat, none⟩ = some (.int .i64 (5 + y)) := (by rcases (show y = 0 ∨ y = 1 by omega) with rfl | rfl; exact cell_box 0 (hSw.box rbx2.out (show ¬ (b2 = g) by omega)) rfl; exact cell_box 1 (hSw.box rbx2.out (show ¬ (b2 = g) by omega)) rfl); go_simp) ?_
        refine tk0 7 (.agg #[.int .i64 (5 + y), .int .i64 z, .int .i64 0, .string ⟨#[]⟩]) rfl ?_
        replace bx1 := Xbn bx1 m22
        refine kd_skipI (i := 8) (w' := (((V22.setCell ⟨b1, 0, none⟩ (.int .i64 (5 + y))).setCell ⟨b1, 1, none⟩ (.int .i64 z)).setCell ⟨b1, 2, none⟩ (.int .i64 0)).setCell ⟨b1, 3, none⟩ (.string ⟨#[]⟩)) (fun V => Mv (fun g => g = b1) V22 V ∧ V.heap[b1]? = some (.cells #[.int .i64 (5 + y), .int .i64 z, .int .i64 0, .string ⟨#[]⟩] 29 (0, 0))) (by kernel_rfl) rfl (by rfl) (by have fr := fun i => frozen_of_row _ _ i _ _ bx1.out; have z0 := cell_box 0 bx1.out rfl; have z1 := cell_box 1 bx1.out rfl; have z2 := cell_box 2 bx1.out rfl; have z3 := cell_box 3 bx1.out rfl; go_simp) ⟨Mv.set (Mv.set (Mv.set (Mv.set (Mv.refl _ _) _ _) _ _) _ _) _ _, (heap_setCell_same _ _ 3 _ _ _ (heap_setCell_same _ _ 2 _ _ _ (heap_setCell_same _ _ 1 _ _ _ (heap_setCell_same _ _ 0 _ _ _ (bx1.out))))).trans rfl⟩ (fun _ _ h => absurd rfl h) ?_
        rintro V23 ⟨m23, nxV23⟩
        refine ptk ?_
        replace bx1 := hide nxV23
        clear nxV23
        refine wpAnyK_done (by kernel_rfl) ?_
        clear hS rbx2
        refine then_normal (h23 _ _ (wp_ret (inb_ret (then_ret ?_)))); clear h23 K23; clear h2 K2
        replace HB := Xhb (Xhn (Xhg HB m21) m22) m23; replace bx0 := Xbb (Xbn (Xbb bx0 m21) m22) m23; replace RD := Xrb (Xrn RD m22) m23; replace bx2 := Xbb bx2 m23
        have q1_0 := cell_box 0 bx1.out rfl
        have q1_1 := cell_box 1 bx1.out rfl
        have q1_2 := cell_box 2 bx1.out rfl
        have q1_3 := cell_box 3 bx1.out rfl
        exact bodyPost_ret (v := .agg #[.int .i64 (5 + y), .int .i64 z, .int .i64 0, .string ⟨#[]⟩]) (by simp [results, Try.results24, go_sem, q1_0, q1_1, q1_2, q1_3]) rfl ⟨_, _, _, _, rfl, RD.out, gr_mv HB.out⟩
  · clear x0 x1
    refine sg (.bool false) ?_
    refine sv (.bool false) ?_
    refine nt (h5 _ _ (cf (sk fun K24 h24 => rl ?_))); clear h5 K5
    refine sg (.bool false) ?_
    refine sv (.bool false) ?_
    refine nt (h24 _ _ (cf (rl ?_))); clear h24 K24
    refine sg (.bool false) ?_
    refine sv (.bool false) ?_
    refine nt (h4 _ _ (cf (sk fun K25 h25 => sk fun K26 h26 => rl ?_))); clear h4 K4
    refine sg (.bool false) ?_
    refine sv (.bool false) ?_
    refine nt (h26 _ _ (cf (rl ?_))); clear h26 K26
    refine sg (.bool false) ?_
    refine sv (.bool false) ?_
    refine nt (h25 _ _ (cf (sk fun K27 h27 => rl ?_))); clear h25 K25
    refine sg (.bool false) ?_
    refine sv (.bool false) ?_
    refine nt (h27 _ _ (cf (sk fun K28 h28 => rl ?_))); clear h27 K27
    refine sg (.bool true) ?_
    refine sv (.bool true) ?_
    refine nt (h28 _ _ (ct (sk fun K29 h29 => ?_))); clear h28 K28
    refine wp_region_but (z := 10) (S := fun w' => Mv (fun x => x = g) V3.drew w') (by kernel_rfl) (Mv.refl _ _) (fun hS => ?_)
    have m24 : Mv nob V3 V3.drew := Mv.drew _
    obtain ⟨V24, hN⟩ : ∃ V, V3.drew = V := ⟨_, rfl⟩
    rw [hN] at hS m24 ⊢
    clear hN
    refine tk0 1 (.pointer (some ⟨g, 0, none⟩)) rfl ?_
    refine tk0 5 (.pointer (some ⟨g, 0, none⟩)) rfl ?_
    refine tk0 7 (.pointer (some ⟨g, 0, none⟩)) rfl ?_
    replace HB := Xhn (Xhg (Xhn (Xhn HB m1) m2) m3) m24; replace bx0 := Xbn (Xbb (Xbn bx0 m2) m3) m24; replace bx1 := Xbn (Xbb bx1 m3) m24; replace RD := Xrn RD m24
    refine kd_each (l := [0, 2]) (by kernel_rfl) rfl ⟨?_, ?_, trivial⟩
    · refine ⟨_, rfl, by rfl, .inl ⟨.slice (some ⟨V24.heap.size, 0, none⟩) 2 2, V24.alloc (.cells #[.int .i64 7, .int .i64 8] 2), (by first | rfl | go_simp), fun _ => hS.step (Mv.alloc _ _) (fun _ _ h => h.elim), ?_⟩⟩
      have m25 : Mv nob V24 (V24.alloc (.cells #[.int .i64 7, .int .i64 8] 2)) := Mv.alloc _ _
      have nx := heap_alloc_new V24 (.cells #[.int .i64 7, .int .i64 8] 2)
      obtain ⟨V25, hN⟩ : ∃ V, V24.alloc (.cells #[.int .i64 7, .int .i64 8] 2) = V := ⟨_, rfl⟩
      rw [hN] at m25 nx ⊢
      clear hN
      refine ptk ?_
      obtain ⟨b2, hb2⟩ : ∃ b2, V24.heap.size = b2 := ⟨_, rfl⟩
      rw [hb2] at nx ⊢
      have o1_2 := Xlo bx1 hb2
      have bx2 := hide nx
      clear nx
      replace hS := hS.step m25 (fun _ _ h => h.elim)
      clear hb2
      refine wpAnyK_re (S' := fun w' => Mv (fun x => x = g) V25 w') (fun w' h => hS.step h (fun _ _ h => h)) ?_
      replace hS : Mv (fun x => x = g) V25 V25 := Mv.refl _ _
      have rbx2 := bx2
      replace RD := Xrn RD m25
      refine kd_call (i := 2) (by kernel_rfl) rfl (by rfl) (by first | rfl | (go_simp; done)) (below_any g 2 V25 RD.out (by omega) (by omega)) ?_
      rintro e V26 ⟨y, rfl, y0, y1, hr, hg⟩
      have m26 : Mv (fun x => x = g) V25 V26 := mv_rd hg
      replace hS := hS.step m26 (fun _ _ h => h)
      refine ⟨_, rfl, fun _ => hS, ?_⟩
      refine ptk ?_
      replace RD := hide hr
      clear hr hg
      refine tk 3 (.pointer (some ⟨b2, y.toNat, none⟩)) rfl (fun w' hSw => by (try dsimp only at hSw); skip; go_simp) ?_
      refine tk 4 (.int .i64 (7 + y)) rfl (fun w' hSw => by (try dsimp only at hSw); have zc : w'.cell? ⟨b2, y.toNat, none⟩ = some (.int .i64 (7 + y)) := (by rcases (show y = 0 ∨ y = 1 by omega) with rfl | rfl; exact cell_box 0 (hSw.box rbx2.out (show ¬ (b2 = g) by omega)) rfl; exact cell_box 1 (hSw.box rbx2.out (show ¬ (b2 = g) by omega)) rfl); go_simp) ?_
      refine kd_call (i := 6) (by kernel_rfl) rfl (by rfl) (by first | rfl | (go_simp; done)) (below_any g 3 V26 RD.out (by omega) (by omega)) ?_
      rintro e V27 ⟨z, rfl, z0, z1, hr, hg⟩
      have m27 : Mv (fun x => x = g) V26 V27 := mv_rd hg
      replace hS := hS.step m27 (fun _ _ h => h)
      refine ⟨_, rfl, fun _ => hS, ?_⟩
      refine ptk ?_
      replace RD := hide hr
      clear hr hg
      refine kd_call (i := 8) (by kernel_rfl) rfl (by rfl) (by first | rfl | (go_simp; done)) (below_any g 60 V27 RD.out (by omega) (by omega)) ?_
      rintro e V28 ⟨u, rfl, u0, u1, hr, hg⟩
      have m28 : Mv (fun x => x = g) V27 V28 := mv_rd hg
      replace hS := hS.step m28 (fun _ _ h => h)
      refine ⟨_, rfl, fun _ => hS, ?_⟩
      refine ptk ?_
      replace RD := hide hr
      clear hr hg
      refine tk0 9 (.agg #[.int .i64 (7 + y), .int .i64 z, .int .i64 u, .string ⟨#[]⟩]) rfl ?_
      replace bx1 := Xbb (Xbb (Xbb (Xbn bx1 m25) m26) m27) m28
      refine kd_skipI (i := 10) (w' := (((V28.setCell ⟨b1, 0, none⟩ (.int .i64 (7 + y))).setCell ⟨b1, 1, none⟩ (.int .i64 z)).setCell ⟨b1, 2, none⟩ (.int .i64 u)).setCell ⟨b1, 3, none⟩ (.string ⟨#[]⟩)) (fun V => Mv (fun g => g = b1) V28 V ∧ V.heap[b1]? = some (.cells #[.int .i64 (7 + y), .int .i64 z, .int .i64 u, .string ⟨#[]⟩] 29 (0, 0))) (by kernel_rfl) rfl (by rfl) (by have fr := fun i => frozen_of_row _ _ i _ _ bx1.out; have z0 := cell_box 0 bx1.out rfl; have z1 := cell_box 1 bx1.out rfl; have z2 := cell_box 2 bx1.out rfl; have z3 := cell_box 3 bx1.out rfl; go_simp) ⟨Mv.set (Mv.set (Mv.set (Mv.set (Mv.refl _ _) _ _) _ _) _ _) _ _, (heap_setCell_same _ _ 3 _ _ _ (heap_setCell_same _ _ 2 _ _ _ (heap_setCell_same _ _ 1 _ _ _ (heap_setCell_same _ _ 0 _ _ _ (bx1.out))))).trans rfl⟩ (fun _ _ h => absurd rfl h) ?_
      rintro V29 ⟨m29, nxV29⟩
      refine ptk ?_
      replace bx1 := hide nxV29
      clear nxV29
      refine wpAnyK_done (by kernel_rfl) ?_
      clear hS rbx2
      refine then_normal (h29 _ _ (wp_ret (inb_ret (then_ret ?_)))); clear h29 K29; clear h2 K2
      replace HB := Xhb (Xhg (Xhg (Xhg (Xhn HB m25) m26) m27) m28) m29; replace bx0 := Xbb (Xbb (Xbb (Xbb (Xbn bx0 m25) m26) m27) m28) m29; replace bx2 := Xbb (Xbb (Xbb (Xbb bx2 m26) m27) m28) m29; replace RD := Xrb RD m29
      have q1_0 := cell_box 0 bx1.out rfl
      have q1_1 := cell_box 1 bx1.out rfl
      have q1_2 := cell_box 2 bx1.out rfl
      have q1_3 := cell_box 3 bx1.out rfl
      exact bodyPost_ret (v := .agg #[.int .i64 (7 + y), .int .i64 z, .int .i64 u, .string ⟨#[]⟩]) (by simp [results, Try.results24, go_sem, q1_0, q1_1, q1_2, q1_3]) rfl ⟨_, _, _, _, rfl, RD.out, gr_mv HB.out⟩
    · refine ⟨_, rfl, by rfl, .inr ⟨_, _, _, by first | rfl | (go_simp; done), below_any g 2 V24 RD.out (by omega) (by omega), ?_⟩⟩
      rintro e V30 ⟨y, rfl, y0, y1, hr, hg⟩
      have m30 : Mv (fun x => x = g) V24 V30 := mv_rd hg
      replace hS := hS.step m30 (fun _ _ h => h)
      refine ⟨_, rfl, fun _ => hS, ?_⟩
      refine ptk ?_
      replace RD := hide hr
      clear hr hg
      replace HB := Xhg HB m30; replace bx0 := Xbb bx0 m30; replace bx1 := Xbb bx1 m30
      refine kd_each (l := [0, 6]) (by kernel_rfl) rfl ⟨?_, ?_, trivial⟩
      · refine ⟨_, rfl, by rfl, .inl ⟨.slice (some ⟨V30.heap.size, 0, none⟩) 2 2, V30.alloc (.cells #[.int .i64 7, .int .i64 8] 2), (by first | rfl | go_simp), fun _ => hS.step (Mv.alloc _ _) (fun _ _ h => h.elim), ?_⟩⟩
        have m31 : Mv nob V30 (V30.alloc (.cells #[.int .i64 7, .int .i64 8] 2)) := Mv.alloc _ _
        have nx := heap_alloc_new V30 (.cells #[.int .i64 7, .int .i64 8] 2)
        obtain ⟨V31, hN⟩ : ∃ V, V30.alloc (.cells #[.int .i64 7, .int .i64 8] 2) = V := ⟨_, rfl⟩
        rw [hN] at m31 nx ⊢
        clear hN
        refine ptk ?_
        obtain ⟨b2, hb2⟩ : ∃ b2, V30.heap.size = b2 := ⟨_, rfl⟩
        rw [hb2] at nx ⊢
        have o1_2 := Xlo bx1 hb2
        have bx2 := hide nx
        clear nx
        replace hS := hS.step m31 (fun _ _ h => h.elim)
        clear hb2
        refine wpAnyK_re (S' := fun w' => Mv (fun x => x = g) V31 w') (fun w' h => hS.step h (fun _ _ h => h)) ?_
        replace hS : Mv (fun x => x = g) V31 V31 := Mv.refl _ _
        have rbx2 := bx2
        refine tk 3 (.pointer (some ⟨b2, y.toNat, none⟩)) rfl (fun w' hSw => by (try dsimp only at hSw); skip; go_simp) ?_
        refine tk 4 (.int .i64 (7 + y)) rfl (fun w' hSw => by (try dsimp only at hSw); have zc : w'.cell? ⟨b2, y.toNat, none⟩ = some (.int .i64 (7 + y)) := (by rcases (show y = 0 ∨ y = 1 by omega) with rfl | rfl; exact cell_box 0 (hSw.box rbx2.out (show ¬ (b2 = g) by omega)) rfl; exact cell_box 1 (hSw.box rbx2.out (show ¬ (b2 = g) by omega)) rfl); go_simp) ?_
        replace RD := Xrn RD m31
        refine kd_call (i := 6) (by kernel_rfl) rfl (by rfl) (by first | rfl | (go_simp; done)) (below_any g 3 V31 RD.out (by omega) (by omega)) ?_
        rintro e V32 ⟨z, rfl, z0, z1, hr, hg⟩
        have m32 : Mv (fun x => x = g) V31 V32 := mv_rd hg
        replace hS := hS.step m32 (fun _ _ h => h)
        refine ⟨_, rfl, fun _ => hS, ?_⟩
        refine ptk ?_
        replace RD := hide hr
        clear hr hg
        refine kd_call (i := 8) (by kernel_rfl) rfl (by rfl) (by first | rfl | (go_simp; done)) (below_any g 60 V32 RD.out (by omega) (by omega)) ?_
        rintro e V33 ⟨u, rfl, u0, u1, hr, hg⟩
        have m33 : Mv (fun x => x = g) V32 V33 := mv_rd hg
        replace hS := hS.step m33 (fun _ _ h => h)
        refine ⟨_, rfl, fun _ => hS, ?_⟩
        refine ptk ?_
        replace RD := hide hr
        clear hr hg
        refine tk0 9 (.agg #[.int .i64 (7 + y), .int .i64 z, .int .i64 u, .string ⟨#[]⟩]) rfl ?_
        replace bx1 := Xbb (Xbb (Xbn bx1 m31) m32) m33
        refine kd_skipI (i := 10) (w' := (((V33.setCell ⟨b1, 0, none⟩ (.int .i64 (7 + y))).setCell ⟨b1, 1, none⟩ (.int .i64 z)).setCell ⟨b1, 2, none⟩ (.int .i64 u)).setCell ⟨b1, 3, none⟩ (.string ⟨#[]⟩)) (fun V => Mv (fun g => g = b1) V33 V ∧ V.heap[b1]? = some (.cells #[.int .i64 (7 + y), .int .i64 z, .int .i64 u, .string ⟨#[]⟩] 29 (0, 0))) (by kernel_rfl) rfl (by rfl) (by have fr := fun i => frozen_of_row _ _ i _ _ bx1.out; have z0 := cell_box 0 bx1.out rfl; have z1 := cell_box 1 bx1.out rfl; have z2 := cell_box 2 bx1.out rfl; have z3 := cell_box 3 bx1.out rfl; go_simp) ⟨Mv.set (Mv.set (Mv.set (Mv.set (Mv.refl _ _) _ _) _ _) _ _) _ _, (heap_setCell_same _ _ 3 _ _ _ (heap_setCell_same _ _ 2 _ _ _ (heap_setCell_same _ _ 1 _ _ _ (heap_setCell_same _ _ 0 _ _ _ (bx1.out))))).trans rfl⟩ (fun _ _ h => absurd rfl h) ?_
        rintro V34 ⟨m34, nxV34⟩
        refine ptk ?_
        replace bx1 := hide nxV34
        clear nxV34
        refine wpAnyK_done (by kernel_rfl) ?_
        clear hS rbx2
        refine then_normal (h29 _ _ (wp_ret (inb_ret (then_ret ?_)))); clear h29 K29; clear h2 K2
        replace HB := Xhb (Xhg (Xhg (Xhn HB m31) m32) m33) m34; replace bx0 := Xbb (Xbb (Xbb (Xbn bx0 m31) m32) m33) m34; replace bx2 := Xbb (Xbb (Xbb bx2 m32) m33) m34; replace RD := Xrb RD m34
        have q1_0 := cell_box 0 bx1.out rfl
        have q1_1 := cell_box 1 bx1.out rfl
        have q1_2 := cell_box 2 bx1.out rfl
        have q1_3 := cell_box 3 bx1.out rfl
        exact bodyPost_ret (v := .agg #[.int .i64 (7 + y), .int .i64 z, .int .i64 u, .string ⟨#[]⟩]) (by simp [results, Try.results24, go_sem, q1_0, q1_1, q1_2, q1_3]) rfl ⟨_, _, _, _, rfl, RD.out, gr_mv HB.out⟩
      · refine ⟨_, rfl, by rfl, .inr ⟨_, _, _, by first | rfl | (go_simp; done), below_any g 3 V30 RD.out (by omega) (by omega), ?_⟩⟩
        rintro e V35 ⟨z, rfl, z0, z1, hr, hg⟩
        have m35 : Mv (fun x => x = g) V30 V35 := mv_rd hg
        replace hS := hS.step m35 (fun _ _ h => h)
        refine ⟨_, rfl, fun _ => hS, ?_⟩
        refine ptk ?_
        replace RD := hide hr
        clear hr hg
        replace HB := Xhg HB m35; replace bx0 := Xbb bx0 m35; replace bx1 := Xbb bx1 m35
        refine kd_each (l := [0, 8]) (by kernel_rfl) rfl ⟨?_, ?_, trivial⟩
        · refine ⟨_, rfl, by rfl, .inl ⟨.slice (some ⟨V35.heap.size, 0, none⟩) 2 2, V35.alloc (.cells #[.int .i64 7, .int .i64 8] 2), (by first | rfl | go_simp), fun _ => hS.step (Mv.alloc _ _) (fun _ _ h => h.elim), ?_⟩⟩
          have m36 : Mv nob V35 (V35.alloc (.cells #[.int .i64 7, .int .i64 8] 2)) := Mv.alloc _ _
          have nx := heap_alloc_new V35 (.cells #[.int .i64 7, .int .i64 8] 2)
          obtain ⟨V36, hN⟩ : ∃ V, V35.alloc (.cells #[.int .i64 7, .int .i64 8] 2) = V := ⟨_, rfl⟩
          rw [hN] at m36 nx ⊢
          clear hN
          refine ptk ?_
          obtain ⟨b2, hb2⟩ : ∃ b2, V35.heap.size = b2 := ⟨_, rfl⟩
          rw [hb2] at nx ⊢
          have o1_2 := Xlo bx1 hb2
          have bx2 := hide nx
          clear nx
          replace hS := hS.step m36 (fun _ _ h => h.elim)
          clear hb2
          refine wpAnyK_re (S' := fun w' => Mv (fun x => x = g) V36 w') (fun w' h => hS.step h (fun _ _ h => h)) ?_
          replace hS : Mv (fun x => x = g) V36 V36 := Mv.refl _ _
          have rbx2 := bx2
          refine tk 3 (.pointer (some ⟨b2, y.toNat, none⟩)) rfl (fun w' hSw => by (try dsimp only at hSw); skip; go_simp) ?_
          refine tk 4 (.int .i64 (7 + y)) rfl (fun w' hSw => by (try dsimp only at hSw); have zc : w'.cell? ⟨b2, y.toNat, none⟩ = some (.int .i64 (7 + y)) := (by rcases (show y = 0 ∨ y = 1 by omega) with rfl | rfl; exact cell_box 0 (hSw.box rbx2.out (show ¬ (b2 = g) by omega)) rfl; exact cell_box 1 (hSw.box rbx2.out (show ¬ (b2 = g) by omega)) rfl); go_simp) ?_
          replace RD := Xrn RD m36
          refine kd_call (i := 8) (by kernel_rfl) rfl (by rfl) (by first | rfl | (go_simp; done)) (below_any g 60 V36 RD.out (by omega) (by omega)) ?_
          rintro e V37 ⟨u, rfl, u0, u1, hr, hg⟩
          have m37 : Mv (fun x => x = g) V36 V37 := mv_rd hg
          replace hS := hS.step m37 (fun _ _ h => h)
          refine ⟨_, rfl, fun _ => hS, ?_⟩
          refine ptk ?_
          replace RD := hide hr
          clear hr hg
          refine tk0 9 (.agg #[.int .i64 (7 + y), .int .i64 z, .int .i64 u, .string ⟨#[]⟩]) rfl ?_
          replace bx1 := Xbb (Xbn bx1 m36) m37
          refine kd_skipI (i := 10) (w' := (((V37.setCell ⟨b1, 0, none⟩ (.int .i64 (7 + y))).setCell ⟨b1, 1, none⟩ (.int .i64 z)).setCell ⟨b1, 2, none⟩ (.int .i64 u)).setCell ⟨b1, 3, none⟩ (.string ⟨#[]⟩)) (fun V => Mv (fun g => g = b1) V37 V ∧ V.heap[b1]? = some (.cells #[.int .i64 (7 + y), .int .i64 z, .int .i64 u, .string ⟨#[]⟩] 29 (0, 0))) (by kernel_rfl) rfl (by rfl) (by have fr := fun i => frozen_of_row _ _ i _ _ bx1.out; have z0 := cell_box 0 bx1.out rfl; have z1 := cell_box 1 bx1.out rfl; have z2 := cell_box 2 bx1.out rfl; have z3 := cell_box 3 bx1.out rfl; go_simp) ⟨Mv.set (Mv.set (Mv.set (Mv.set (Mv.refl _ _) _ _) _ _) _ _) _ _, (heap_setCell_same _ _ 3 _ _ _ (heap_setCell_same _ _ 2 _ _ _ (heap_setCell_same _ _ 1 _ _ _ (heap_setCell_same _ _ 0 _ _ _ (bx1.out))))).trans rfl⟩ (fun _ _ h => absurd rfl h) ?_
          rintro V38 ⟨m38, nxV38⟩
          refine ptk ?_
          replace bx1 := hide nxV38
          clear nxV38
          refine wpAnyK_done (by kernel_rfl) ?_
          clear hS rbx2
          refine then_normal (h29 _ _ (wp_ret (inb_ret (then_ret ?_)))); clear h29 K29; clear h2 K2
          replace HB := Xhb (Xhg (Xhn HB m36) m37) m38; replace bx0 := Xbb (Xbb (Xbn bx0 m36) m37) m38; replace bx2 := Xbb (Xbb bx2 m37) m38; replace RD := Xrb RD m38
          have q1_0 := cell_box 0 bx1.out rfl
          have q1_1 := cell_box 1 bx1.out rfl
          have q1_2 := cell_box 2 bx1.out rfl
          have q1_3 := cell_box 3 bx1.out rfl
          exact bodyPost_ret (v := .agg #[.int .i64 (7 + y), .int .i64 z, .int .i64 u, .string ⟨#[]⟩]) (by simp [results, Try.results24, go_sem, q1_0, q1_1, q1_2, q1_3]) rfl ⟨_, _, _, _, rfl, RD.out, gr_mv HB.out⟩
        · refine ⟨_, rfl, by rfl, .inr ⟨_, _, _, by first | rfl | (go_simp; done), below_any g 60 V35 RD.out (by omega) (by omega), ?_⟩⟩
          rintro e V39 ⟨u, rfl, u0, u1, hr, hg⟩
          have m39 : Mv (fun x => x = g) V35 V39 := mv_rd hg
          replace hS := hS.step m39 (fun _ _ h => h)
          refine ⟨_, rfl, fun _ => hS, ?_⟩
          refine ptk ?_
          replace RD := hide hr
          clear hr hg
          refine kd_valI (i := 0) (v := .slice (some ⟨V39.heap.size, 0, none⟩) 2 2) (w' := V39.alloc (.cells #[.int .i64 7, .int .i64 8] 2)) (fun V => Mv nob V39 V ∧ V.heap[V39.heap.size]? = some (.cells #[.int .i64 7, .int .i64 8] 2 (0, 0))) (by kernel_rfl) rfl (by rfl) (by first | rfl | go_simp) ⟨Mv.alloc _ _, heap_alloc_new _ _⟩ (fun V hI _ => hS.step hI.1 (fun _ _ h => h.elim)) ?_
          rintro V40 ⟨m40, nx⟩
          refine ptk ?_
          obtain ⟨b2, hb2⟩ : ∃ b2, V39.heap.size = b2 := ⟨_, rfl⟩
          rw [hb2] at nx ⊢
          replace bx1 := Xbb bx1 m39
          have o1_2 := Xlo bx1 hb2
          have bx2 := hide nx
          clear nx
          replace hS := hS.step m40 (fun _ _ h => h.elim)
          clear hb2
          refine wpAnyK_re (S' := fun w' => Mv (fun x => x = g) V40 w') (fun w' h => hS.step h (fun _ _ h => h)) ?_
          replace hS : Mv (fun x => x = g) V40 V40 := Mv.refl _ _
          have rbx2 := bx2
          refine tk 3 (.pointer (some ⟨b2, y.toNat, none⟩)) rfl (fun w' hSw => by (try dsimp only at hSw); skip; go_simp) ?_
          refine tk 4 (.int .i64 (7 + y)) rfl (fun w' hSw => by (try dsimp only at hSw); have zc : w'.cell? ⟨b2, y.toNat, none⟩ = some (.int .i64 (7 + y)) := (by rcases (show y = 0 ∨ y = 1 by omega) with rfl | rfl; exact cell_box 0 (hSw.box rbx2.out (show ¬ (b2 = g) by omega)) rfl; exact cell_box 1 (hSw.box rbx2.out (show ¬ (b2 = g) by omega)) rfl); go_simp) ?_
          refine tk0 9 (.agg #[.int .i64 (7 + y), .int .i64 z, .int .i64 u, .string ⟨#[]⟩]) rfl ?_
          replace bx1 := Xbn bx1 m40
          refine kd_skipI (i := 10) (w' := (((V40.setCell ⟨b1, 0, none⟩ (.int .i64 (7 + y))).setCell ⟨b1, 1, none⟩ (.int .i64 z)).setCell ⟨b1, 2, none⟩ (.int .i64 u)).setCell ⟨b1, 3, none⟩ (.string ⟨#[]⟩)) (fun V => Mv (fun g => g = b1) V40 V ∧ V.heap[b1]? = some (.cells #[.int .i64 (7 + y), .int .i64 z, .int .i64 u, .string ⟨#[]⟩] 29 (0, 0))) (by kernel_rfl) rfl (by rfl) (by have fr := fun i => frozen_of_row _ _ i _ _ bx1.out; have z0 := cell_box 0 bx1.out rfl; have z1 := cell_box 1 bx1.out rfl; have z2 := cell_box 2 bx1.out rfl; have z3 := cell_box 3 bx1.out rfl; go_simp) ⟨Mv.set (Mv.set (Mv.set (Mv.set (Mv.refl _ _) _ _) _ _) _ _) _ _, (heap_setCell_same _ _ 3 _ _ _ (heap_setCell_same _ _ 2 _ _ _ (heap_setCell_same _ _ 1 _ _ _ (heap_setCell_same _ _ 0 _ _ _ (bx1.out))))).trans rfl⟩ (fun _ _ h => absurd rfl h) ?_
          rintro V41 ⟨m41, nxV41⟩
          refine ptk ?_
          replace bx1 := hide nxV41
          clear nxV41
          refine wpAnyK_done (by kernel_rfl) ?_
          clear hS rbx2
          refine then_normal (h29 _ _ (wp_ret (inb_ret (then_ret ?_)))); clear h29 K29; clear h2 K2
          replace HB := Xhb (Xhn (Xhg HB m39) m40) m41; replace bx0 := Xbb (Xbn (Xbb bx0 m39) m40) m41; replace RD := Xrb (Xrn RD m40) m41; replace bx2 := Xbb bx2 m41
          have q1_0 := cell_box 0 bx1.out rfl
          have q1_1 := cell_box 1 bx1.out rfl
          have q1_2 := cell_box 2 bx1.out rfl
          have q1_3 := cell_box 3 bx1.out rfl
          exact bodyPost_ret (v := .agg #[.int .i64 (7 + y), .int .i64 z, .int .i64 u, .string ⟨#[]⟩]) (by simp [results, Try.results24, go_sem, q1_0, q1_1, q1_2, q1_3]) rfl ⟨_, _, _, _, rfl, RD.out, gr_mv HB.out⟩
  · clear x0 x1
    refine sg (.bool false) ?_
    refine sv (.bool false) ?_
    refine nt (h5 _ _ (cf (sk fun K30 h30 => rl ?_))); clear h5 K5
    refine sg (.bool false) ?_
    refine sv (.bool false) ?_
    refine nt (h30 _ _ (cf (rl ?_))); clear h30 K30
    refine sg (.bool false) ?_
    refine sv (.bool false) ?_
    refine nt (h4 _ _ (cf (sk fun K31 h31 => sk fun K32 h32 => rl ?_))); clear h4 K4
    refine sg (.bool false) ?_
    refine sv (.bool false) ?_
    refine nt (h32 _ _ (cf (rl ?_))); clear h32 K32
    refine sg (.bool false) ?_
    refine sv (.bool false) ?_
    refine nt (h31 _ _ (cf (sk fun K33 h33 => rl ?_))); clear h31 K31
    refine sg (.bool false) ?_
    refine sv (.bool false) ?_
    refine nt (h33 _ _ (cf (sk fun K34 h34 => rl ?_))); clear h33 K33
    refine sg (.bool false) ?_
    refine sv (.bool false) ?_
    refine nt (h34 _ _ (cf (sk fun K35 h35 => sk fun K36 h36 => rl ?_))); clear h34 K34
    refine sg (.bool true) ?_
    refine sv (.bool true) ?_
    refine nt (h36 _ _ (ct (wp_skip (then_normal (h35 _ _ (ct (sk fun K37 h37 => rl ?_))))))); clear h36 K36; clear h35 K35
    by_cases hnu : 0 < p.nu
    · refine sv (.pointer (some ⟨b0, 5, none⟩)) ?_
      replace bx0 := Xbb (Xbn bx0 m2) m3
      refine sl 5 bx0 ?_
      refine sg (.int .i64 (p.nu : Int)) ?_
      refine sg (.bool true) (h := by have hd : decide (0 < p.nu) = true := (by simpa using hnu); go_simp) ?_
      refine nt (h37 _ _ (ct (sk fun K38 h38 => rl ?_))); clear h37 K37
      refine sv (.pointer (some ⟨g, 0, none⟩)) ?_
      refine sv (.pointer (some ⟨b0, 5, none⟩)) ?_
      refine sl 5 bx0 ?_
      refine sg (.int .i64 (p.nu : Int)) ?_
      refine sw_call (by rfl) (by first | rfl | (go_simp; done)) (below_any g (p.nu : Int) V3 RD.out (by omega) (by omega)) ?_
      rintro e V42 ⟨y, rfl, y0, y1, hr, hg⟩
      have m42 : Mv (fun x => x = g) V3 V42 := mv_rd hg
      refine ⟨_, rfl, ?_⟩
      refine pt ?_
      replace RD := hide hr
      clear hr hg
      refine sv (.agg #[.int .i64 4, .int .i64 y, .int .i64 0, .string ⟨#[]⟩]) ?_
      replace bx1 := Xbb (Xbb bx1 m3) m42
      refine ss4 (.int .i64 4) (.int .i64 y) (.int .i64 0) (.string ⟨#[]⟩) bx1 fun V43 m43 bx1 => ?_
      refine nt (h38 _ _ (wp_ret (inb_ret (then_ret ?_)))); clear h38 K38; clear h2 K2
      replace HB := Xhb (Xhg (Xhg (Xhn (Xhn HB m1) m2) m3) m42) m43; replace bx0 := Xbb (Xbb bx0 m42) m43; replace RD := Xrb RD m43
      have q1_0 := cell_box 0 bx1.out rfl
      have q1_1 := cell_box 1 bx1.out rfl
      have q1_2 := cell_box 2 bx1.out rfl
      have q1_3 := cell_box 3 bx1.out rfl
      exact bodyPost_ret (v := .agg #[.int .i64 4, .int .i64 y, .int .i64 0, .string ⟨#[]⟩]) (by simp [results, Try.results24, go_sem, q1_0, q1_1, q1_2, q1_3]) rfl ⟨_, _, _, _, rfl, RD.out, gr_mv HB.out⟩
    · refine sv (.pointer (some ⟨b0, 5, none⟩)) ?_
      replace bx0 := Xbb (Xbn bx0 m2) m3
      refine sl 5 bx0 ?_
      refine sg (.int .i64 (p.nu : Int)) ?_
      refine sg (.bool false) (h := by have hd : decide (0 < p.nu) = false := (by simpa using hnu); go_simp) ?_
      refine nt (h37 _ _ (cf (wp_skip (inb_norm (then_normal (h2 _ _ (sk fun K39 h39 => rl ?_))))))); clear h37 K37; clear h2 K2
      obtain ⟨mx, hmx⟩ : ∃ m : Int, (if (1 : Int) < (p.nd : Int) then (p.nd : Int) else 1) = m := ⟨_, rfl⟩
      have hm1 : 1 ≤ mx ∧ mx ≤ 2097152 := by rw [← hmx]; split <;> omega
      refine sv (.pointer (some ⟨g, 0, none⟩)) ?_
      refine sv (.pointer (some ⟨b0, 4, none⟩)) ?_
      refine sl 4 bx0 ?_
      refine sg (.int .i64 (p.nd : Int)) ?_
      refine sg (.int .i64 mx) (h := by have h := hmx; go_simp) ?_
      refine sw_call (by rfl) (by first | rfl | (go_simp; done)) (below_any g mx V3 RD.out (by omega) (by omega)) ?_
      rintro e V44 ⟨y, rfl, y0, y1, hr, hg⟩
      have m44 : Mv (fun x => x = g) V3 V44 := mv_rd hg
      refine ⟨_, rfl, ?_⟩
      refine pt ?_
      replace RD := hide hr
      clear hr hg
      refine sv (.agg #[.int .i64 3, .int .i64 y, .int .i64 0, .string ⟨#[]⟩]) ?_
      replace bx1 := Xbb (Xbb bx1 m3) m44
      refine sbp #[.int .i64 0, .int .i64 0, .int .i64 0, .string ⟨#[]⟩] 29 fun V45 b2 hb2 m45 bx2 => ?_
      have o1_2 := Xlo bx1 hb2
      clear hb2
      refine ss4 (.int .i64 3) (.int .i64 y) (.int .i64 0) (.string ⟨#[]⟩) bx2 fun V46 m46 bx2 => ?_
      refine nt (h39 _ _ (sk fun K40 h40 => sk fun K41 h41 => rl ?_)); clear h39 K39
      refine sv (.pointer (some ⟨g, 0, none⟩)) ?_
      replace RD := Xrb (Xrn RD m45) m46
      refine sw_call (by rfl) (by first | rfl | (go_simp; done)) (once_any g 40 V46 RD.out (by decide) (by decide)) ?_
      rintro e V47 ⟨t, rfl, hr, hg⟩
      have m47 : Mv (fun x => x = g) V46 V47 := mv_rd hg
      refine ⟨_, rfl, ?_⟩
      refine pt ?_
      replace RD := hide hr
      clear hr hg
      rcases (show t = true ∨ t = false by cases t <;> simp) with rfl | rfl
      · refine nt (h41 _ _ (ct (rl ?_))); clear h41 K41
        refine sv (.pointer (some ⟨g, 0, none⟩)) ?_
        refine sw_call (by rfl) (by first | rfl | (go_simp; done)) (off_any g 1 8 V47 RD.out (by decide) (by decide) (by decide)) ?_
        rintro e V48 ⟨z, rfl, hr, hg⟩
        have m48 : Mv (fun x => x = g) V47 V48 := mv_rd hg
        refine ⟨_, rfl, ?_⟩
        refine pt ?_
        replace RD := hide hr
        clear hr hg
        refine sv (.pointer (some ⟨b2, 0, none⟩)) ?_
        replace bx2 := Xbb (Xbb bx2 m47) m48
        refine ss 0 (.int .i64 z) bx2 fun V49 m49 bx2 => ?_
        refine nt (h40 _ _ (sk fun K42 h42 => rl ?_)); clear h40 K40
        refine sg (.agg #[.int .i64 z, .int .i64 y, .int .i64 0, .string ⟨#[]⟩]) (h := by have z0 := cell_box 0 (bx2.out) rfl; have z1 := cell_box 1 (bx2.out) rfl; have z2 := cell_box 2 (bx2.out) rfl; have z3 := cell_box 3 (bx2.out) rfl; go_simp) ?_
        replace bx1 := Xbb (Xbb (Xbb (Xbb (Xbn bx1 m45) m46) m47) m48) m49
        refine ss4 (.int .i64 z) (.int .i64 y) (.int .i64 0) (.string ⟨#[]⟩) bx1 fun V50 m50 bx1 => ?_
        refine nt (h42 _ _ (wp_ret ?_)); clear h42 K42
        replace HB := Xhb (Xhb (Xhg (Xhg (Xhb (Xhn (Xhg (Xhg (Xhn (Xhn HB m1) m2) m3) m44) m45) m46) m47) m48) m49) m50; replace bx0 := Xbb (Xbb (Xbb (Xbb (Xbb (Xbn (Xbb bx0 m44) m45) m46) m47) m48) m49) m50; replace RD := Xrb (Xrb RD m49) m50; replace bx2 := Xbb bx2 m50
        have q1_0 := cell_box 0 bx1.out rfl
        have q1_1 := cell_box 1 bx1.out rfl
        have q1_2 := cell_box 2 bx1.out rfl
        have q1_3 := cell_box 3 bx1.out rfl
        exact bodyPost_ret (v := .agg #[.int .i64 z, .int .i64 y, .int .i64 0, .string ⟨#[]⟩]) (by simp [results, Try.results24, go_sem, q1_0, q1_1, q1_2, q1_3]) rfl ⟨_, _, _, _, rfl, RD.out, gr_mv HB.out⟩
      · refine nt (h41 _ _ (cf (wp_skip (then_normal (h40 _ _ (sk fun K43 h43 => rl ?_)))))); clear h41 K41; clear h40 K40
        replace bx2 := Xbb bx2 m47
        refine sg (.agg #[.int .i64 3, .int .i64 y, .int .i64 0, .string ⟨#[]⟩]) (h := by have z0 := cell_box 0 (bx2.out) rfl; have z1 := cell_box 1 (bx2.out) rfl; have z2 := cell_box 2 (bx2.out) rfl; have z3 := cell_box 3 (bx2.out) rfl; go_simp) ?_
        replace bx1 := Xbb (Xbb (Xbn bx1 m45) m46) m47
        refine ss4 (.int .i64 3) (.int .i64 y) (.int .i64 0) (.string ⟨#[]⟩) bx1 fun V51 m51 bx1 => ?_
        refine nt (h43 _ _ (wp_ret ?_)); clear h43 K43
        replace HB := Xhb (Xhg (Xhb (Xhn (Xhg (Xhg (Xhn (Xhn HB m1) m2) m3) m44) m45) m46) m47) m51; replace bx0 := Xbb (Xbb (Xbb (Xbn (Xbb bx0 m44) m45) m46) m47) m51; replace RD := Xrb RD m51; replace bx2 := Xbb bx2 m51
        have q1_0 := cell_box 0 bx1.out rfl
        have q1_1 := cell_box 1 bx1.out rfl
        have q1_2 := cell_box 2 bx1.out rfl
        have q1_3 := cell_box 3 bx1.out rfl
        exact bodyPost_ret (v := .agg #[.int .i64 3, .int .i64 y, .int .i64 0, .string ⟨#[]⟩]) (by simp [results, Try.results24, go_sem, q1_0, q1_1, q1_2, q1_3]) rfl ⟨_, _, _, _, rfl, RD.out, gr_mv HB.out⟩
  · clear x0 x1
    refine sg (.bool false) ?_
    refine sv (.bool false) ?_
    refine nt (h5 _ _ (cf (sk fun K44 h44 => rl ?_))); clear h5 K5
    refine sg (.bool false) ?_
    refine sv (.bool false) ?_
    refine nt (h44 _ _ (cf (rl ?_))); clear h44 K44
    refine sg (.bool false) ?_
    refine sv (.bool false) ?_
    refine nt (h4 _ _ (cf (sk fun K45 h45 => sk fun K46 h46 => rl ?_))); clear h4 K4
    refine sg (.bool false) ?_
    refine sv (.bool false) ?_
    refine nt (h46 _ _ (cf (rl ?_))); clear h46 K46
    refine sg (.bool false) ?_
    refine sv (.bool false) ?_
    refine nt (h45 _ _ (cf (sk fun K47 h47 => rl ?_))); clear h45 K45
    refine sg (.bool false) ?_
    refine sv (.bool false) ?_
    refine nt (h47 _ _ (cf (sk fun K48 h48 => rl ?_))); clear h47 K47
    refine sg (.bool false) ?_
    refine sv (.bool false) ?_
    refine nt (h48 _ _ (cf (sk fun K49 h49 => sk fun K50 h50 => rl ?_))); clear h48 K48
    refine sg (.bool false) ?_
    refine sv (.bool false) ?_
    refine nt (h50 _ _ (cf (rl ?_))); clear h50 K50
    refine sg (.bool true) ?_
    refine sv (.bool true) ?_
    refine nt (h49 _ _ (ct (sk fun K51 h51 => rl ?_))); clear h49 K49
    by_cases hnu : 0 < p.nu
    · refine sv (.pointer (some ⟨b0, 5, none⟩)) ?_
      replace bx0 := Xbb (Xbn bx0 m2) m3
      refine sl 5 bx0 ?_
      refine sg (.int .i64 (p.nu : Int)) ?_
      refine sg (.bool true) (h := by have hd : decide (0 < p.nu) = true := (by simpa using hnu); go_simp) ?_
      refine nt (h51 _ _ (ct (sk fun K52 h52 => rl ?_))); clear h51 K51
      refine sv (.pointer (some ⟨g, 0, none⟩)) ?_
      refine sv (.pointer (some ⟨b0, 5, none⟩)) ?_
      refine sl 5 bx0 ?_
      refine sg (.int .i64 (p.nu : Int)) ?_
      refine sw_call (by rfl) (by first | rfl | (go_simp; done)) (below_any g (p.nu : Int) V3 RD.out (by omega) (by omega)) ?_
      rintro e V52 ⟨y, rfl, y0, y1, hr, hg⟩
      have m52 : Mv (fun x => x = g) V3 V52 := mv_rd hg
      refine ⟨_, rfl, ?_⟩
      refine pt ?_
      replace RD := hide hr
      clear hr hg
      refine sv (.agg #[.int .i64 4, .int .i64 y, .int .i64 0, .string ⟨#[]⟩]) ?_
      replace bx1 := Xbb (Xbb bx1 m3) m52
      refine ss4 (.int .i64 4) (.int .i64 y) (.int .i64 0) (.string ⟨#[]⟩) bx1 fun V53 m53 bx1 => ?_
      refine nt (h52 _ _ (wp_ret (inb_ret (then_ret ?_)))); clear h52 K52; clear h2 K2
      replace HB := Xhb (Xhg (Xhg (Xhn (Xhn HB m1) m2) m3) m52) m53; replace bx0 := Xbb (Xbb bx0 m52) m53; replace RD := Xrb RD m53
      have q1_0 := cell_box 0 bx1.out rfl
      have q1_1 := cell_box 1 bx1.out rfl
      have q1_2 := cell_box 2 bx1.out rfl
      have q1_3 := cell_box 3 bx1.out rfl
      exact bodyPost_ret (v := .agg #[.int .i64 4, .int .i64 y, .int .i64 0, .string ⟨#[]⟩]) (by simp [results, Try.results24, go_sem, q1_0, q1_1, q1_2, q1_3]) rfl ⟨_, _, _, _, rfl, RD.out, gr_mv HB.out⟩
    · refine sv (.pointer (some ⟨b0, 5, none⟩)) ?_
      replace bx0 := Xbb (Xbn bx0 m2) m3
      refine sl 5 bx0 ?_
      refine sg (.int .i64 (p.nu : Int)) ?_
      refine sg (.bool false) (h := by have hd : decide (0 < p.nu) = false := (by simpa using hnu); go_simp) ?_
      refine nt (h51 _ _ (cf (wp_skip (inb_norm (then_normal (h2 _ _ (sk fun K53 h53 => rl ?_))))))); clear h51 K51; clear h2 K2
      obtain ⟨mx, hmx⟩ : ∃ m : Int, (if (1 : Int) < (p.nd : Int) then (p.nd : Int) else 1) = m := ⟨_, rfl⟩
      have hm1 : 1 ≤ mx ∧ mx ≤ 2097152 := by rw [← hmx]; split <;> omega
      refine sv (.pointer (some ⟨g, 0, none⟩)) ?_
      refine sv (.pointer (some ⟨b0, 4, none⟩)) ?_
      refine sl 4 bx0 ?_
      refine sg (.int .i64 (p.nd : Int)) ?_
      refine sg (.int .i64 mx) (h := by have h := hmx; go_simp) ?_
      refine sw_call (by rfl) (by first | rfl | (go_simp; done)) (below_any g mx V3 RD.out (by omega) (by omega)) ?_
      rintro e V54 ⟨y, rfl, y0, y1, hr, hg⟩
      have m54 : Mv (fun x => x = g) V3 V54 := mv_rd hg
      refine ⟨_, rfl, ?_⟩
      refine pt ?_
      replace RD := hide hr
      clear hr hg
      refine sv (.agg #[.int .i64 3, .int .i64 y, .int .i64 0, .string ⟨#[]⟩]) ?_
      replace bx1 := Xbb (Xbb bx1 m3) m54
      refine sbp #[.int .i64 0, .int .i64 0, .int .i64 0, .string ⟨#[]⟩] 29 fun V55 b2 hb2 m55 bx2 => ?_
      have o1_2 := Xlo bx1 hb2
      clear hb2
      refine ss4 (.int .i64 3) (.int .i64 y) (.int .i64 0) (.string ⟨#[]⟩) bx2 fun V56 m56 bx2 => ?_
      refine nt (h53 _ _ (sk fun K54 h54 => sk fun K55 h55 => rl ?_)); clear h53 K53
      refine sv (.pointer (some ⟨g, 0, none⟩)) ?_
      replace RD := Xrb (Xrn RD m55) m56
      refine sw_call (by rfl) (by first | rfl | (go_simp; done)) (once_any g 40 V56 RD.out (by decide) (by decide)) ?_
      rintro e V57 ⟨t, rfl, hr, hg⟩
      have m57 : Mv (fun x => x = g) V56 V57 := mv_rd hg
      refine ⟨_, rfl, ?_⟩
      refine pt ?_
      replace RD := hide hr
      clear hr hg
      rcases (show t = true ∨ t = false by cases t <;> simp) with rfl | rfl
      · refine nt (h55 _ _ (ct (rl ?_))); clear h55 K55
        refine sv (.pointer (some ⟨g, 0, none⟩)) ?_
        refine sw_call (by rfl) (by first | rfl | (go_simp; done)) (off_any g 1 8 V57 RD.out (by decide) (by decide) (by decide)) ?_
        rintro e V58 ⟨z, rfl, hr, hg⟩
        have m58 : Mv (fun x => x = g) V57 V58 := mv_rd hg
        refine ⟨_, rfl, ?_⟩
        refine pt ?_
        replace RD := hide hr
        clear hr hg
        refine sv (.pointer (some ⟨b2, 0, none⟩)) ?_
        replace bx2 := Xbb (Xbb bx2 m57) m58
        refine ss 0 (.int .i64 z) bx2 fun V59 m59 bx2 => ?_
        refine nt (h54 _ _ (sk fun K56 h56 => rl ?_)); clear h54 K54
        refine sg (.agg #[.int .i64 z, .int .i64 y, .int .i64 0, .string ⟨#[]⟩]) (h := by have z0 := cell_box 0 (bx2.out) rfl; have z1 := cell_box 1 (bx2.out) rfl; have z2 := cell_box 2 (bx2.out) rfl; have z3 := cell_box 3 (bx2.out) rfl; go_simp) ?_
        replace bx1 := Xbb (Xbb (Xbb (Xbb (Xbn bx1 m55) m56) m57) m58) m59
        refine ss4 (.int .i64 z) (.int .i64 y) (.int .i64 0) (.string ⟨#[]⟩) bx1 fun V60 m60 bx1 => ?_
        refine nt (h56 _ _ (wp_ret ?_)); clear h56 K56
        replace HB := Xhb (Xhb (Xhg (Xhg (Xhb (Xhn (Xhg (Xhg (Xhn (Xhn HB m1) m2) m3) m54) m55) m56) m57) m58) m59) m60; replace bx0 := Xbb (Xbb (Xbb (Xbb (Xbb (Xbn (Xbb bx0 m54) m55) m56) m57) m58) m59) m60; replace RD := Xrb (Xrb RD m59) m60; replace bx2 := Xbb bx2 m60
        have q1_0 := cell_box 0 bx1.out rfl
        have q1_1 := cell_box 1 bx1.out rfl
        have q1_2 := cell_box 2 bx1.out rfl
        have q1_3 := cell_box 3 bx1.out rfl
        exact bodyPost_ret (v := .agg #[.int .i64 z, .int .i64 y, .int .i64 0, .string ⟨#[]⟩]) (by simp [results, Try.results24, go_sem, q1_0, q1_1, q1_2, q1_3]) rfl ⟨_, _, _, _, rfl, RD.out, gr_mv HB.out⟩
      · refine nt (h55 _ _ (cf (wp_skip (then_normal (h54 _ _ (sk fun K57 h57 => rl ?_)))))); clear h55 K55; clear h54 K54
        replace bx2 := Xbb bx2 m57
        refine sg (.agg #[.int .i64 3, .int .i64 y, .int .i64 0, .string ⟨#[]⟩]) (h := by have z0 := cell_box 0 (bx2.out) rfl; have z1 := cell_box 1 (bx2.out) rfl; have z2 := cell_box 2 (bx2.out) rfl; have z3 := cell_box 3 (bx2.out) rfl; go_simp) ?_
        replace bx1 := Xbb (Xbb (Xbn bx1 m55) m56) m57
        refine ss4 (.int .i64 3) (.int .i64 y) (.int .i64 0) (.string ⟨#[]⟩) bx1 fun V61 m61 bx1 => ?_
        refine nt (h57 _ _ (wp_ret ?_)); clear h57 K57
        replace HB := Xhb (Xhg (Xhb (Xhn (Xhg (Xhg (Xhn (Xhn HB m1) m2) m3) m54) m55) m56) m57) m61; replace bx0 := Xbb (Xbb (Xbb (Xbn (Xbb bx0 m54) m55) m56) m57) m61; replace RD := Xrb RD m61; replace bx2 := Xbb bx2 m61
        have q1_0 := cell_box 0 bx1.out rfl
        have q1_1 := cell_box 1 bx1.out rfl
        have q1_2 := cell_box 2 bx1.out rfl
        have q1_3 := cell_box 3 bx1.out rfl
        exact bodyPost_ret (v := .agg #[.int .i64 3, .int .i64 y, .int .i64 0, .string ⟨#[]⟩]) (by simp [results, Try.results24, go_sem, q1_0, q1_1, q1_2, q1_3]) rfl ⟨_, _, _, _, rfl, RD.out, gr_mv HB.out⟩
  · clear x0 x1
    refine sg (.bool false) ?_
    refine sv (.bool false) ?_
    refine nt (h5 _ _ (cf (sk fun K58 h58 => rl ?_))); clear h5 K5
    refine sg (.bool false) ?_
    refine sv (.bool false) ?_
    refine nt (h58 _ _ (cf (rl ?_))); clear h58 K58
    refine sg (.bool false) ?_
    refine sv (.bool false) ?_
    refine nt (h4 _ _ (cf (sk fun K59 h59 => sk fun K60 h60 => rl ?_))); clear h4 K4
    refine sg (.bool false) ?_
    refine sv (.bool false) ?_
    refine nt (h60 _ _ (cf (rl ?_))); clear h60 K60
    refine sg (.bool false) ?_
    refine sv (.bool false) ?_
    refine nt (h59 _ _ (cf (sk fun K61 h61 => rl ?_))); clear h59 K59
    refine sg (.bool false) ?_
    refine sv (.bool false) ?_
    refine nt (h61 _ _ (cf (sk fun K62 h62 => rl ?_))); clear h61 K61
    refine sg (.bool false) ?_
    refine sv (.bool false) ?_
    refine nt (h62 _ _ (cf (sk fun K63 h63 => sk fun K64 h64 => rl ?_))); clear h62 K62
    refine sg (.bool false) ?_
    refine sv (.bool false) ?_
    refine nt (h64 _ _ (cf (rl ?_))); clear h64 K64
    refine sg (.bool false) ?_
    refine sv (.bool false) ?_
    refine nt (h63 _ _ (cf (wp_skip (inb_norm (then_normal (h2 _ _ (sk fun K65 h65 => rl ?_))))))); clear h63 K63; clear h2 K2
    obtain ⟨mx, hmx⟩ : ∃ m : Int, (if (1 : Int) < (p.nd : Int) then (p.nd : Int) else 1) = m := ⟨_, rfl⟩
    have hm1 : 1 ≤ mx ∧ mx ≤ 2097152 := by rw [← hmx]; split <;> omega
    refine sv (.pointer (some ⟨g, 0, none⟩)) ?_
    refine sv (.pointer (some ⟨b0, 4, none⟩)) ?_
    replace bx0 := Xbb (Xbn bx0 m2) m3
    refine sl 4 bx0 ?_
    refine sg (.int .i64 (p.nd : Int)) ?_
    refine sg (.int .i64 mx) (h := by have h := hmx; go_simp) ?_
    refine sw_call (by rfl) (by first | rfl | (go_simp; done)) (below_any g mx V3 RD.out (by omega) (by omega)) ?_
    rintro e V62 ⟨y, rfl, y0, y1, hr, hg⟩
    have m62 : Mv (fun x => x = g) V3 V62 := mv_rd hg
    refine ⟨_, rfl, ?_⟩
    refine pt ?_
    replace RD := hide hr
    clear hr hg
    refine sv (.agg #[.int .i64 3, .int .i64 y, .int .i64 0, .string ⟨#[]⟩]) ?_
    replace bx1 := Xbb (Xbb bx1 m3) m62
    refine sbp #[.int .i64 0, .int .i64 0, .int .i64 0, .string ⟨#[]⟩] 29 fun V63 b2 hb2 m63 bx2 => ?_
    have o1_2 := Xlo bx1 hb2
    clear hb2
    refine ss4 (.int .i64 3) (.int .i64 y) (.int .i64 0) (.string ⟨#[]⟩) bx2 fun V64 m64 bx2 => ?_
    refine nt (h65 _ _ (sk fun K66 h66 => sk fun K67 h67 => rl ?_)); clear h65 K65
    refine sv (.pointer (some ⟨g, 0, none⟩)) ?_
    replace RD := Xrb (Xrn RD m63) m64
    refine sw_call (by rfl) (by first | rfl | (go_simp; done)) (once_any g 40 V64 RD.out (by decide) (by decide)) ?_
    rintro e V65 ⟨t, rfl, hr, hg⟩
    have m65 : Mv (fun x => x = g) V64 V65 := mv_rd hg
    refine ⟨_, rfl, ?_⟩
    refine pt ?_
    replace RD := hide hr
    clear hr hg
    rcases (show t = true ∨ t = false by cases t <;> simp) with rfl | rfl
    · refine nt (h67 _ _ (ct (rl ?_))); clear h67 K67
      refine sv (.pointer (some ⟨g, 0, none⟩)) ?_
      refine sw_call (by rfl) (by first | rfl | (go_simp; done)) (off_any g 1 8 V65 RD.out (by decide) (by decide) (by decide)) ?_
      rintro e V66 ⟨z, rfl, hr, hg⟩
      have m66 : Mv (fun x => x = g) V65 V66 := mv_rd hg
      refine ⟨_, rfl, ?_⟩
      refine pt ?_
      replace RD := hide hr
      clear hr hg
      refine sv (.pointer (some ⟨b2, 0, none⟩)) ?_
      replace bx2 := Xbb (Xbb bx2 m65) m66
      refine ss 0 (.int .i64 z) bx2 fun V67 m67 bx2 => ?_
      refine nt (h66 _ _ (sk fun K68 h68 => rl ?_)); clear h66 K66
      refine sg (.agg #[.int .i64 z, .int .i64 y, .int .i64 0, .string ⟨#[]⟩]) (h := by have z0 := cell_box 0 (bx2.out) rfl; have z1 := cell_box 1 (bx2.out) rfl; have z2 := cell_box 2 (bx2.out) rfl; have z3 := cell_box 3 (bx2.out) rfl; go_simp) ?_
      replace bx1 := Xbb (Xbb (Xbb (Xbb (Xbn bx1 m63) m64) m65) m66) m67
      refine ss4 (.int .i64 z) (.int .i64 y) (.int .i64 0) (.string ⟨#[]⟩) bx1 fun V68 m68 bx1 => ?_
      refine nt (h68 _ _ (wp_ret ?_)); clear h68 K68
      replace HB := Xhb (Xhb (Xhg (Xhg (Xhb (Xhn (Xhg (Xhg (Xhn (Xhn HB m1) m2) m3) m62) m63) m64) m65) m66) m67) m68; replace bx0 := Xbb (Xbb (Xbb (Xbb (Xbb (Xbn (Xbb bx0 m62) m63) m64) m65) m66) m67) m68; replace RD := Xrb (Xrb RD m67) m68; replace bx2 := Xbb bx2 m68
      have q1_0 := cell_box 0 bx1.out rfl
      have q1_1 := cell_box 1 bx1.out rfl
      have q1_2 := cell_box 2 bx1.out rfl
      have q1_3 := cell_box 3 bx1.out rfl
      exact bodyPost_ret (v := .agg #[.int .i64 z, .int .i64 y, .int .i64 0, .string ⟨#[]⟩]) (by simp [results, Try.results24, go_sem, q1_0, q1_1, q1_2, q1_3]) rfl ⟨_, _, _, _, rfl, RD.out, gr_mv HB.out⟩
    · refine nt (h67 _ _ (cf (wp_skip (then_normal (h66 _ _ (sk fun K69 h69 => rl ?_)))))); clear h67 K67; clear h66 K66
      replace bx2 := Xbb bx2 m65
      refine sg (.agg #[.int .i64 3, .int .i64 y, .int .i64 0, .string ⟨#[]⟩]) (h := by have z0 := cell_box 0 (bx2.out) rfl; have z1 := cell_box 1 (bx2.out) rfl; have z2 := cell_box 2 (bx2.out) rfl; have z3 := cell_box 3 (bx2.out) rfl; go_simp) ?_
      replace bx1 := Xbb (Xbb (Xbn bx1 m63) m64) m65
      refine ss4 (.int .i64 3) (.int .i64 y) (.int .i64 0) (.string ⟨#[]⟩) bx1 fun V69 m69 bx1 => ?_
      refine nt (h69 _ _ (wp_ret ?_)); clear h69 K69
      replace HB := Xhb (Xhg (Xhb (Xhn (Xhg (Xhg (Xhn (Xhn HB m1) m2) m3) m62) m63) m64) m65) m69; replace bx0 := Xbb (Xbb (Xbb (Xbn (Xbb bx0 m62) m63) m64) m65) m69; replace RD := Xrb RD m69; replace bx2 := Xbb bx2 m69
      have q1_0 := cell_box 0 bx1.out rfl
      have q1_1 := cell_box 1 bx1.out rfl
      have q1_2 := cell_box 2 bx1.out rfl
      have q1_3 := cell_box 3 bx1.out rfl
      exact bodyPost_ret (v := .agg #[.int .i64 3, .int .i64 y, .int .i64 0, .string ⟨#[]⟩]) (by simp [results, Try.results24, go_sem, q1_0, q1_1, q1_2, q1_3]) rfl ⟨_, _, _, _, rfl, RD.out, gr_mv HB.out⟩
  · clear x0 x1
    refine sg (.bool false) ?_
    refine sv (.bool false) ?_
    refine nt (h5 _ _ (cf (sk fun K70 h70 => rl ?_))); clear h5 K5
    refine sg (.bool false) ?_
    refine sv (.bool false) ?_
    refine nt (h70 _ _ (cf (rl ?_))); clear h70 K70
    refine sg (.bool false) ?_
    refine sv (.bool false) ?_
    refine nt (h4 _ _ (cf (sk fun K71 h71 => sk fun K72 h72 => rl ?_))); clear h4 K4
    refine sg (.bool false) ?_
    refine sv (.bool false) ?_
    refine nt (h72 _ _ (cf (rl ?_))); clear h72 K72
    refine sg (.bool false) ?_
    refine sv (.bool false) ?_
    refine nt (h71 _ _ (cf (sk fun K73 h73 => rl ?_))); clear h71 K71
    refine sg (.bool false) ?_
    refine sv (.bool false) ?_
    refine nt (h73 _ _ (cf (sk fun K74 h74 => rl ?_))); clear h73 K73
    refine sg (.bool false) ?_
    refine sv (.bool false) ?_
    refine nt (h74 _ _ (cf (sk fun K75 h75 => sk fun K76 h76 => rl ?_))); clear h74 K74
    refine sg (.bool false) ?_
    refine sv (.bool false) ?_
    refine nt (h76 _ _ (cf (rl ?_))); clear h76 K76
    refine sg (.bool false) ?_
    refine sv (.bool false) ?_
    refine nt (h75 _ _ (cf (wp_skip (inb_norm (then_normal (h2 _ _ (sk fun K77 h77 => rl ?_))))))); clear h75 K75; clear h2 K2
    obtain ⟨mx, hmx⟩ : ∃ m : Int, (if (1 : Int) < (p.nd : Int) then (p.nd : Int) else 1) = m := ⟨_, rfl⟩
    have hm1 : 1 ≤ mx ∧ mx ≤ 2097152 := by rw [← hmx]; split <;> omega
    refine sv (.pointer (some ⟨g, 0, none⟩)) ?_
    refine sv (.pointer (some ⟨b0, 4, none⟩)) ?_
    replace bx0 := Xbb (Xbn bx0 m2) m3
    refine sl 4 bx0 ?_
    refine sg (.int .i64 (p.nd : Int)) ?_
    refine sg (.int .i64 mx) (h := by have h := hmx; go_simp) ?_
    refine sw_call (by rfl) (by first | rfl | (go_simp; done)) (below_any g mx V3 RD.out (by omega) (by omega)) ?_
    rintro e V70 ⟨y, rfl, y0, y1, hr, hg⟩
    have m70 : Mv (fun x => x = g) V3 V70 := mv_rd hg
    refine ⟨_, rfl, ?_⟩
    refine pt ?_
    replace RD := hide hr
    clear hr hg
    refine sv (.agg #[.int .i64 3, .int .i64 y, .int .i64 0, .string ⟨#[]⟩]) ?_
    replace bx1 := Xbb (Xbb bx1 m3) m70
    refine sbp #[.int .i64 0, .int .i64 0, .int .i64 0, .string ⟨#[]⟩] 29 fun V71 b2 hb2 m71 bx2 => ?_
    have o1_2 := Xlo bx1 hb2
    clear hb2
    refine ss4 (.int .i64 3) (.int .i64 y) (.int .i64 0) (.string ⟨#[]⟩) bx2 fun V72 m72 bx2 => ?_
    refine nt (h77 _ _ (sk fun K78 h78 => sk fun K79 h79 => rl ?_)); clear h77 K77
    refine sv (.pointer (some ⟨g, 0, none⟩)) ?_
    replace RD := Xrb (Xrn RD m71) m72
    refine sw_call (by rfl) (by first | rfl | (go_simp; done)) (once_any g 40 V72 RD.out (by decide) (by decide)) ?_
    rintro e V73 ⟨t, rfl, hr, hg⟩
    have m73 : Mv (fun x => x = g) V72 V73 := mv_rd hg
    refine ⟨_, rfl, ?_⟩
    refine pt ?_
    replace RD := hide hr
    clear hr hg
    rcases (show t = true ∨ t = false by cases t <;> simp) with rfl | rfl
    · refine nt (h79 _ _ (ct (rl ?_))); clear h79 K79
      refine sv (.pointer (some ⟨g, 0, none⟩)) ?_
      refine sw_call (by rfl) (by first | rfl | (go_simp; done)) (off_any g 1 8 V73 RD.out (by decide) (by decide) (by decide)) ?_
      rintro e V74 ⟨z, rfl, hr, hg⟩
      have m74 : Mv (fun x => x = g) V73 V74 := mv_rd hg
      refine ⟨_, rfl, ?_⟩
      refine pt ?_
      replace RD := hide hr
      clear hr hg
      refine sv (.pointer (some ⟨b2, 0, none⟩)) ?_
      replace bx2 := Xbb (Xbb bx2 m73) m74
      refine ss 0 (.int .i64 z) bx2 fun V75 m75 bx2 => ?_
      refine nt (h78 _ _ (sk fun K80 h80 => rl ?_)); clear h78 K78
      refine sg (.agg #[.int .i64 z, .int .i64 y, .int .i64 0, .string ⟨#[]⟩]) (h := by have z0 := cell_box 0 (bx2.out) rfl; have z1 := cell_box 1 (bx2.out) rfl; have z2 := cell_box 2 (bx2.out) rfl; have z3 := cell_box 3 (bx2.out) rfl; go_simp) ?_
      replace bx1 := Xbb (Xbb (Xbb (Xbb (Xbn bx1 m71) m72) m73) m74) m75
      refine ss4 (.int .i64 z) (.int .i64 y) (.int .i64 0) (.string ⟨#[]⟩) bx1 fun V76 m76 bx1 => ?_
      refine nt (h80 _ _ (wp_ret ?_)); clear h80 K80
      replace HB := Xhb (Xhb (Xhg (Xhg (Xhb (Xhn (Xhg (Xhg (Xhn (Xhn HB m1) m2) m3) m70) m71) m72) m73) m74) m75) m76; replace bx0 := Xbb (Xbb (Xbb (Xbb (Xbb (Xbn (Xbb bx0 m70) m71) m72) m73) m74) m75) m76; replace RD := Xrb (Xrb RD m75) m76; replace bx2 := Xbb bx2 m76
      have q1_0 := cell_box 0 bx1.out rfl
      have q1_1 := cell_box 1 bx1.out rfl
      have q1_2 := cell_box 2 bx1.out rfl
      have q1_3 := cell_box 3 bx1.out rfl
      exact bodyPost_ret (v := .agg #[.int .i64 z, .int .i64 y, .int .i64 0, .string ⟨#[]⟩]) (by simp [results, Try.results24, go_sem, q1_0, q1_1, q1_2, q1_3]) rfl ⟨_, _, _, _, rfl, RD.out, gr_mv HB.out⟩
    · refine nt (h79 _ _ (cf (wp_skip (then_normal (h78 _ _ (sk fun K81 h81 => rl ?_)))))); clear h79 K79; clear h78 K78
      replace bx2 := Xbb bx2 m73
      refine sg (.agg #[.int .i64 3, .int .i64 y, .int .i64 0, .string ⟨#[]⟩]) (h := by have z0 := cell_box 0 (bx2.out) rfl; have z1 := cell_box 1 (bx2.out) rfl; have z2 := cell_box 2 (bx2.out) rfl; have z3 := cell_box 3 (bx2.out) rfl; go_simp) ?_
      replace bx1 := Xbb (Xbb (Xbn bx1 m71) m72) m73
      refine ss4 (.int .i64 3) (.int .i64 y) (.int .i64 0) (.string ⟨#[]⟩) bx1 fun V77 m77 bx1 => ?_
      refine nt (h81 _ _ (wp_ret ?_)); clear h81 K81
      replace HB := Xhb (Xhg (Xhb (Xhn (Xhg (Xhg (Xhn (Xhn HB m1) m2) m3) m70) m71) m72) m73) m77; replace bx0 := Xbb (Xbb (Xbb (Xbn (Xbb bx0 m70) m71) m72) m73) m77; replace RD := Xrb RD m77; replace bx2 := Xbb bx2 m77
      have q1_0 := cell_box 0 bx1.out rfl
      have q1_1 := cell_box 1 bx1.out rfl
      have q1_2 := cell_box 2 bx1.out rfl
      have q1_3 := cell_box 3 bx1.out rfl
      exact bodyPost_ret (v := .agg #[.int .i64 3, .int .i64 y, .int .i64 0, .string ⟨#[]⟩]) (by simp [results, Try.results24, go_sem, q1_0, q1_1, q1_2, q1_3]) rfl ⟨_, _, _, _, rfl, RD.out, gr_mv HB.out⟩
  · clear x0 x1
    refine sg (.bool false) ?_
    refine sv (.bool false) ?_
    refine nt (h5 _ _ (cf (sk fun K82 h82 => rl ?_))); clear h5 K5
    refine sg (.bool false) ?_
    refine sv (.bool false) ?_
    refine nt (h82 _ _ (cf (rl ?_))); clear h82 K82
    refine sg (.bool false) ?_
    refine sv (.bool false) ?_
    refine nt (h4 _ _ (cf (sk fun K83 h83 => sk fun K84 h84 => rl ?_))); clear h4 K4
    refine sg (.bool false) ?_
    refine sv (.bool false) ?_
    refine nt (h84 _ _ (cf (rl ?_))); clear h84 K84
    refine sg (.bool false) ?_
    refine sv (.bool false) ?_
    refine nt (h83 _ _ (cf (sk fun K85 h85 => rl ?_))); clear h83 K83
    refine sg (.bool false) ?_
    refine sv (.bool false) ?_
    refine nt (h85 _ _ (cf (sk fun K86 h86 => rl ?_))); clear h85 K85
    refine sg (.bool false) ?_
    refine sv (.bool false) ?_
    refine nt (h86 _ _ (cf (sk fun K87 h87 => sk fun K88 h88 => rl ?_))); clear h86 K86
    refine sg (.bool false) ?_
    refine sv (.bool false) ?_
    refine nt (h88 _ _ (cf (rl ?_))); clear h88 K88
    refine sg (.bool false) ?_
    refine sv (.bool false) ?_
    refine nt (h87 _ _ (cf (wp_skip (inb_norm (then_normal (h2 _ _ (sk fun K89 h89 => rl ?_))))))); clear h87 K87; clear h2 K2
    obtain ⟨mx, hmx⟩ : ∃ m : Int, (if (1 : Int) < (p.nd : Int) then (p.nd : Int) else 1) = m := ⟨_, rfl⟩
    have hm1 : 1 ≤ mx ∧ mx ≤ 2097152 := by rw [← hmx]; split <;> omega
    refine sv (.pointer (some ⟨g, 0, none⟩)) ?_
    refine sv (.pointer (some ⟨b0, 4, none⟩)) ?_
    replace bx0 := Xbb (Xbn bx0 m2) m3
    refine sl 4 bx0 ?_
    refine sg (.int .i64 (p.nd : Int)) ?_
    refine sg (.int .i64 mx) (h := by have h := hmx; go_simp) ?_
    refine sw_call (by rfl) (by first | rfl | (go_simp; done)) (below_any g mx V3 RD.out (by omega) (by omega)) ?_
    rintro e V78 ⟨y, rfl, y0, y1, hr, hg⟩
    have m78 : Mv (fun x => x = g) V3 V78 := mv_rd hg
    refine ⟨_, rfl, ?_⟩
    refine pt ?_
    replace RD := hide hr
    clear hr hg
    refine sv (.agg #[.int .i64 3, .int .i64 y, .int .i64 0, .string ⟨#[]⟩]) ?_
    replace bx1 := Xbb (Xbb bx1 m3) m78
    refine sbp #[.int .i64 0, .int .i64 0, .int .i64 0, .string ⟨#[]⟩] 29 fun V79 b2 hb2 m79 bx2 => ?_
    have o1_2 := Xlo bx1 hb2
    clear hb2
    refine ss4 (.int .i64 3) (.int .i64 y) (.int .i64 0) (.string ⟨#[]⟩) bx2 fun V80 m80 bx2 => ?_
    refine nt (h89 _ _ (sk fun K90 h90 => sk fun K91 h91 => rl ?_)); clear h89 K89
    refine sv (.pointer (some ⟨g, 0, none⟩)) ?_
    replace RD := Xrb (Xrn RD m79) m80
    refine sw_call (by rfl) (by first | rfl | (go_simp; done)) (once_any g 40 V80 RD.out (by decide) (by decide)) ?_
    rintro e V81 ⟨t, rfl, hr, hg⟩
    have m81 : Mv (fun x => x = g) V80 V81 := mv_rd hg
    refine ⟨_, rfl, ?_⟩
    refine pt ?_
    replace RD := hide hr
    clear hr hg
    rcases (show t = true ∨ t = false by cases t <;> simp) with rfl | rfl
    · refine nt (h91 _ _ (ct (rl ?_))); clear h91 K91
      refine sv (.pointer (some ⟨g, 0, none⟩)) ?_
      refine sw_call (by rfl) (by first | rfl | (go_simp; done)) (off_any g 1 8 V81 RD.out (by decide) (by decide) (by decide)) ?_
      rintro e V82 ⟨z, rfl, hr, hg⟩
      have m82 : Mv (fun x => x = g) V81 V82 := mv_rd hg
      refine ⟨_, rfl, ?_⟩
      refine pt ?_
      replace RD := hide hr
      clear hr hg
      refine sv (.pointer (some ⟨b2, 0, none⟩)) ?_
      replace bx2 := Xbb (Xbb bx2 m81) m82
      refine ss 0 (.int .i64 z) bx2 fun V83 m83 bx2 => ?_
      refine nt (h90 _ _ (sk fun K92 h92 => rl ?_)); clear h90 K90
      refine sg (.agg #[.int .i64 z, .int .i64 y, .int .i64 0, .string ⟨#[]⟩]) (h := by have z0 := cell_box 0 (bx2.out) rfl; have z1 := cell_box 1 (bx2.out) rfl; have z2 := cell_box 2 (bx2.out) rfl; have z3 := cell_box 3 (bx2.out) rfl; go_simp) ?_
      replace bx1 := Xbb (Xbb (Xbb (Xbb (Xbn bx1 m79) m80) m81) m82) m83
      refine ss4 (.int .i64 z) (.int .i64 y) (.int .i64 0) (.string ⟨#[]⟩) bx1 fun V84 m84 bx1 => ?_
      refine nt (h92 _ _ (wp_ret ?_)); clear h92 K92
      replace HB := Xhb (Xhb (Xhg (Xhg (Xhb (Xhn (Xhg (Xhg (Xhn (Xhn HB m1) m2) m3) m78) m79) m80) m81) m82) m83) m84; replace bx0 := Xbb (Xbb (Xbb (Xbb (Xbb (Xbn (Xbb bx0 m78) m79) m80) m81) m82) m83) m84; replace RD := Xrb (Xrb RD m83) m84; replace bx2 := Xbb bx2 m84
      have q1_0 := cell_box 0 bx1.out rfl
      have q1_1 := cell_box 1 bx1.out rfl
      have q1_2 := cell_box 2 bx1.out rfl
      have q1_3 := cell_box 3 bx1.out rfl
      exact bodyPost_ret (v := .agg #[.int .i64 z, .int .i64 y, .int .i64 0, .string ⟨#[]⟩]) (by simp [results, Try.results24, go_sem, q1_0, q1_1, q1_2, q1_3]) rfl ⟨_, _, _, _, rfl, RD.out, gr_mv HB.out⟩
    · refine nt (h91 _ _ (cf (wp_skip (then_normal (h90 _ _ (sk fun K93 h93 => rl ?_)))))); clear h91 K91; clear h90 K90
      replace bx2 := Xbb bx2 m81
      refine sg (.agg #[.int .i64 3, .int .i64 y, .int .i64 0, .string ⟨#[]⟩]) (h := by have z0 := cell_box 0 (bx2.out) rfl; have z1 := cell_box 1 (bx2.out) rfl; have z2 := cell_box 2 (bx2.out) rfl; have z3 := cell_box 3 (bx2.out) rfl; go_simp) ?_
      replace bx1 := Xbb (Xbb (Xbn bx1 m79) m80) m81
      refine ss4 (.int .i64 3) (.int .i64 y) (.int .i64 0) (.string ⟨#[]⟩) bx1 fun V85 m85 bx1 => ?_
      refine nt (h93 _ _ (wp_ret ?_)); clear h93 K93
      replace HB := Xhb (Xhg (Xhb (Xhn (Xhg (Xhg (Xhn (Xhn HB m1) m2) m3) m78) m79) m80) m81) m85; replace bx0 := Xbb (Xbb (Xbb (Xbn (Xbb bx0 m78) m79) m80) m81) m85; replace RD := Xrb RD m85; replace bx2 := Xbb bx2 m85
      have q1_0 := cell_box 0 bx1.out rfl
      have q1_1 := cell_box 1 bx1.out rfl
      have q1_2 := cell_box 2 bx1.out rfl
      have q1_3 := cell_box 3 bx1.out rfl
      exact bodyPost_ret (v := .agg #[.int .i64 3, .int .i64 y, .int .i64 0, .string ⟨#[]⟩]) (by simp [results, Try.results24, go_sem, q1_0, q1_1, q1_2, q1_3]) rfl ⟨_, _, _, _, rfl, RD.out, gr_mv HB.out⟩

end Go.Proofs.Ytgflipkhhpkidaa
