/- Proved: for every link and every act laws.FnExactLinkDo returns true and leaves its arguments as they read. No other condition. -/
import Derived.Test.YtnkocikbapbbmaaRows
import Derived.Test.YtnkocikbapbbmaaLnkG
import Derived.Test.YtnkocikbapbbmaaZLxA
import Derived.WalkKit
import Derived.ProofKit
import Derived.OpenShut
import Derived.ShutString
import Derived.ChangeOld
import Derived.Below
import Derived.OpenVars
namespace Go.Proofs.Ytnkocikbapbbmaa.fnExactLinkDo
open Go.ChangeShapes Go.WideShapes Go.ChangeAt Go.WideMaps Go.WideElems Go.RowKit
set_option linter.unusedVariables false
set_option linter.unusedSimpArgs false

theorem own : ownKnob Try.prog.godebug = none := by kernel_rfl
theorem laidOut : laidOutB Try.prog = true := by kernel_rfl

set_option maxRecDepth 100000 in
/-- an act of a link, opened -/
theorem open_lact {W : World} {H : Type} {enc : TypeId × Value → H} {base b0 : Nat} {spare : Nat → Bool} {held : Bool} {r : Reach} {v : Value} {d : DataW H} {p : List MemPlace} (hv : Value.okWide Try.prog W r b0 35 v) (h : DataW.Trod enc Try.prog W base spare held 35 v d p) :
    ∃ (k0 k1 k2 : Int) (s : ByteArray), v = .agg #[.int .i64 k0, .int .i64 k1, .int .i64 k2, .string s] ∧ s.size ≤ maxLen := by
  obtain ⟨cs, rfl, hsz⟩ := okWide_struct Try.underlying35 hv
  obtain ⟨fuel, hf⟩ := h
  obtain ⟨xs, n, _, _, hl, hlen, hg⟩ := DataW.trod_struct Try.underlying35 hf
  have c6 : Try.prog.cellsOf 35 = 4 := by kernel_rfl
  have c1 : Try.prog.cellsOf 2 = 1 := by kernel_rfl
  have c2 : Try.prog.cellsOf 9 = 1 := by kernel_rfl
  rw [c6] at hsz
  obtain ⟨l⟩ := cs
  match l, hsz with
  | [a0, a1, a2, a3], _ =>
    match xs, hlen with
    | [x0, x1, x2, x3], _ =>
      have g0 : DataW.trod enc Try.prog W base spare held n 2 (List.take (Try.prog.cellsOf 2) (List.drop 0 [a0, a1, a2, a3])) = some x0 := hg 0 _ rfl
      have g1 : DataW.trod enc Try.prog W base spare held n 2 (List.take (Try.prog.cellsOf 2) (List.drop 1 [a0, a1, a2, a3])) = some x1 := hg 1 _ rfl
      have g2 : DataW.trod enc Try.prog W base spare held n 2 (List.take (Try.prog.cellsOf 2) (List.drop 2 [a0, a1, a2, a3])) = some x2 := hg 2 _ rfl
      have g3 : DataW.trod enc Try.prog W base spare held n 9 (List.take (Try.prog.cellsOf 9) (List.drop 3 [a0, a1, a2, a3])) = some x3 := hg 3 _ rfl
      rw [c1] at g0 g1 g2
      rw [c2] at g3
      obtain ⟨k0, e0, _⟩ := DataW.trod_int Try.underlying2 g0
      obtain ⟨k1, e1, _⟩ := DataW.trod_int Try.underlying2 g1
      obtain ⟨k2, e2, _⟩ := DataW.trod_int Try.underlying2 g2
      obtain ⟨s, e3, _, hs⟩ := DataW.trod_string Try.underlying9 g3
      simp at e0 e1 e2 e3
      subst e0 e1 e2 e3
      exact ⟨k0, k1, k2, s, rfl, hs⟩

set_option maxHeartbeats 40000000 in
set_option maxRecDepth 20000 in
theorem walk (wv gv dv uv : Value) (p : Lk) (k z bit : Int) (body : ByteArray) (w : World) (hv : Lv w wv gv dv uv p) (hs : Lsm 9223372036854775807 p) (hbd : (body.size : Int) ≤ 9223372036854775807) :
    Calls Try.prog 4 #[.agg (l6 p.base wv p.want gv dv uv), .agg (a4 k z bit body)] w fun e w' => e = .returned (.bool true) ∧ Below w.heap.size w w' := by
  have ha0 := hide hv
  have hm0 : decide (mkE p 1 < 0) = false := decide_eq_false (by unfold mkE; omega)
  have hsL := fun (h : Lsm 1048576 p) => doL_sm h k z bit body
  have hspec := fun V wv gv dv uv (h : La V wv gv dv uv p) (hsm : Lsm 1048576 p) => specLinkDo_any p wv gv dv uv V h hsm k z bit body
  have himpl := fun V wv gv dv uv (h : La V wv gv dv uv p) (hsm : Lsm 1048576 p) => implLinkDo_any p wv gv dv uv V h hsm k z bit body
  generalize doL p k z bit body = L at hsL hspec himpl
  generalize doC p k z bit body = C at hspec himpl
  have hm1 : decide (mkE L 1 < 0) = false := decide_eq_false (by unfold mkE; omega)
  obtain ⟨⟨wa, wc, rfl, _⟩, ⟨ga, gc, rfl, _⟩, ⟨da, dc, rfl, _⟩, ⟨ua, uc, rfl, _⟩⟩ := hv
  have HB : Hid (Mv nob w w) := hide (Mv.refl _ _)
  go_enter Try.func4, Try.ntmps4
  repeat first | with_reducible refine sk fun K hK => ?_ | with_reducible refine then_normal ?_ | ((with_reducible refine hK _ _ ?_); clear hK K) | with_reducible refine wpList_nil ?_ | with_reducible refine rl ?_ | ((with_reducible refine is_cond ?_); first | refine wp_cond_true (by rfl) ?_ | refine wp_cond_false (by rfl) ?_) | with_reducible refine wp_block ?_ | with_reducible refine wp_skip ?_ | with_reducible refine wp_ret ?_ | with_reducible refine wp_exit ?_ | (clear hK K; (with_reducible refine hK _ _ ?_); clear hK K) | (clear hK K; clear hK K; (with_reducible refine hK _ _ ?_); clear hK K) | with_reducible refine then_exit ?_ | with_reducible refine then_ret ?_ | with_reducible refine inb_ret ?_ | with_reducible refine inb_norm ?_
  refine sbp #[.int .i64 p.base, .slice wa p.nw wc, .int .i64 p.want, .slice ga p.ng gc, .slice da p.nd dc, .slice ua p.nu uc] 25 fun V1 b0 hb0 m1 bx0 => ?_
  have o_0 : w.heap.size ≤ b0 := by omega
  replace HB := Xhn HB m1; clear hb0 m1
  refine sbp #[.int .i64 k, .int .i64 z, .int .i64 bit, .string body] 35 fun V2 b1 hb1 m2 bx1 => ?_
  have o0_1 := Xlo bx0 hb1; replace HB := Xhn HB m2; replace bx0 := Xbn bx0 m2; clear hb1 m2
  refine sv (.bool false) ?_
  repeat first | with_reducible refine sk fun K hK => ?_ | with_reducible refine then_normal ?_ | ((with_reducible refine hK _ _ ?_); clear hK K) | with_reducible refine wpList_nil ?_ | with_reducible refine rl ?_ | ((with_reducible refine is_cond ?_); first | refine wp_cond_true (by rfl) ?_ | refine wp_cond_false (by rfl) ?_) | with_reducible refine wp_block ?_ | with_reducible refine wp_skip ?_ | with_reducible refine wp_ret ?_ | with_reducible refine wp_exit ?_ | (clear hK K; (with_reducible refine hK _ _ ?_); clear hK K) | (clear hK K; clear hK K; (with_reducible refine hK _ _ ?_); clear hK K) | with_reducible refine then_exit ?_ | with_reducible refine then_ret ?_ | with_reducible refine inb_ret ?_ | with_reducible refine inb_norm ?_
  refine sv (.int .i64 1048576) ?_
  repeat first | with_reducible refine sk fun K hK => ?_ | with_reducible refine then_normal ?_ | ((with_reducible refine hK _ _ ?_); clear hK K) | with_reducible refine wpList_nil ?_ | with_reducible refine rl ?_ | ((with_reducible refine is_cond ?_); first | refine wp_cond_true (by rfl) ?_ | refine wp_cond_false (by rfl) ?_) | with_reducible refine wp_block ?_ | with_reducible refine wp_skip ?_ | with_reducible refine wp_ret ?_ | with_reducible refine wp_exit ?_ | (clear hK K; (with_reducible refine hK _ _ ?_); clear hK K) | (clear hK K; clear hK K; (with_reducible refine hK _ _ ?_); clear hK K) | with_reducible refine then_exit ?_ | with_reducible refine then_ret ?_ | with_reducible refine inb_ret ?_ | with_reducible refine inb_norm ?_
  refine sl6 bx0 ?_
  refine sv (.int .i64 1048576) ?_
  refine sw_call (by rfl) (by first | rfl | (go_simp; done)) (szLink_le p.base p.want _ _ _ _ p V2 (ha0.out.below HB.out.below) hs) ?_
  rintro e V3 ⟨r, rfl, hp, hr1, hbV3⟩
  have m3 : Mv (nob) V2 V3 := Mv.of_below hbV3
  refine ⟨_, rfl, ?_⟩
  refine pt ?_
  replace HB := Xhn HB m3; replace bx0 := Xbn bx0 m3; replace bx1 := Xbn bx1 m3; clear hbV3; clear m3
  refine sv (.int .i64 r) ?_
  repeat first | with_reducible refine sk fun K hK => ?_ | with_reducible refine then_normal ?_ | ((with_reducible refine hK _ _ ?_); clear hK K) | with_reducible refine wpList_nil ?_ | with_reducible refine rl ?_ | ((with_reducible refine is_cond ?_); first | refine wp_cond_true (by rfl) ?_ | refine wp_cond_false (by rfl) ?_) | with_reducible refine wp_block ?_ | with_reducible refine wp_skip ?_ | with_reducible refine wp_ret ?_ | with_reducible refine wp_exit ?_ | (clear hK K; (with_reducible refine hK _ _ ?_); clear hK K) | (clear hK K; clear hK K; (with_reducible refine hK _ _ ?_); clear hK K) | with_reducible refine then_exit ?_ | with_reducible refine then_ret ?_ | with_reducible refine inb_ret ?_ | with_reducible refine inb_norm ?_
  by_cases hx : r < 0
  · refine sv (.int .i64 r) ?_
    refine sg (.bool true) (h := by have h0 : decide (r < 0) = true := decide_eq_true hx; have h1 := hx; go_simp) ?_
    repeat first | with_reducible refine sk fun K hK => ?_ | with_reducible refine then_normal ?_ | ((with_reducible refine hK _ _ ?_); clear hK K) | with_reducible refine wpList_nil ?_ | with_reducible refine rl ?_ | ((with_reducible refine is_cond ?_); first | refine wp_cond_true (by rfl) ?_ | refine wp_cond_false (by rfl) ?_) | with_reducible refine wp_block ?_ | with_reducible refine wp_skip ?_ | with_reducible refine wp_ret ?_ | with_reducible refine wp_exit ?_ | (clear hK K; (with_reducible refine hK _ _ ?_); clear hK K) | (clear hK K; clear hK K; (with_reducible refine hK _ _ ?_); clear hK K) | with_reducible refine then_exit ?_ | with_reducible refine then_ret ?_ | with_reducible refine inb_ret ?_ | with_reducible refine inb_norm ?_
    refine sv (.bool true) ?_
    repeat first | with_reducible refine sk fun K hK => ?_ | with_reducible refine then_normal ?_ | ((with_reducible refine hK _ _ ?_); clear hK K) | with_reducible refine wpList_nil ?_ | with_reducible refine rl ?_ | ((with_reducible refine is_cond ?_); first | refine wp_cond_true (by rfl) ?_ | refine wp_cond_false (by rfl) ?_) | with_reducible refine wp_block ?_ | with_reducible refine wp_skip ?_ | with_reducible refine wp_ret ?_ | with_reducible refine wp_exit ?_ | (clear hK K; (with_reducible refine hK _ _ ?_); clear hK K) | (clear hK K; clear hK K; (with_reducible refine hK _ _ ?_); clear hK K) | with_reducible refine then_exit ?_ | with_reducible refine then_ret ?_ | with_reducible refine inb_ret ?_ | with_reducible refine inb_norm ?_
    try simp only [Exit.then, Exit.inBlock, ↓reduceIte, Nat.reduceEqDiff]
    exact bodyPost_ret (v := .bool true) (by simp [results, Try.results4, go_sem]) rfl ⟨rfl, HB.out.below⟩
  refine sv (.int .i64 r) ?_
  refine sg (.bool false) (h := by have h0 : decide (r < 0) = false := decide_eq_false hx; have h1 := hx; go_simp) ?_
  repeat first | with_reducible refine sk fun K hK => ?_ | with_reducible refine then_normal ?_ | ((with_reducible refine hK _ _ ?_); clear hK K) | with_reducible refine wpList_nil ?_ | with_reducible refine rl ?_ | ((with_reducible refine is_cond ?_); first | refine wp_cond_true (by rfl) ?_ | refine wp_cond_false (by rfl) ?_) | with_reducible refine wp_block ?_ | with_reducible refine wp_skip ?_ | with_reducible refine wp_ret ?_ | with_reducible refine wp_exit ?_ | (clear hK K; (with_reducible refine hK _ _ ?_); clear hK K) | (clear hK K; clear hK K; (with_reducible refine hK _ _ ?_); clear hK K) | with_reducible refine then_exit ?_ | with_reducible refine then_ret ?_ | with_reducible refine inb_ret ?_ | with_reducible refine inb_norm ?_
  have hsm := hp (by omega)
  have hsz := hide (hsL hsm)
  clear hp hsL
  refine sg (.agg #[.int .i64 k, .int .i64 z, .int .i64 bit, .string body]) (h := by have z0 := cell_box 0 (bx1.out) rfl; have z1 := cell_box 1 (bx1.out) rfl; have z2 := cell_box 2 (bx1.out) rfl; have z3 := cell_box 3 (bx1.out) rfl; go_simp) ?_
  refine sv (.int .i64 r) ?_
  refine sw_call (by rfl) (by first | rfl | (go_simp; done)) (szLAct_any k z bit body r V3 (by omega) hr1 hbd) ?_
  rintro e V4 ⟨r2, rfl, hbV4⟩
  have m4 : Mv (nob) V3 V4 := Mv.of_below hbV4
  refine ⟨_, rfl, ?_⟩
  refine pt ?_
  replace HB := Xhn HB m4; replace bx0 := Xbn bx0 m4; replace bx1 := Xbn bx1 m4; clear hbV4 hr1 hx; clear m4
  refine sv (.int .i64 r2) ?_
  repeat first | with_reducible refine sk fun K hK => ?_ | with_reducible refine then_normal ?_ | ((with_reducible refine hK _ _ ?_); clear hK K) | with_reducible refine wpList_nil ?_ | with_reducible refine rl ?_ | ((with_reducible refine is_cond ?_); first | refine wp_cond_true (by rfl) ?_ | refine wp_cond_false (by rfl) ?_) | with_reducible refine wp_block ?_ | with_reducible refine wp_skip ?_ | with_reducible refine wp_ret ?_ | with_reducible refine wp_exit ?_ | (clear hK K; (with_reducible refine hK _ _ ?_); clear hK K) | (clear hK K; clear hK K; (with_reducible refine hK _ _ ?_); clear hK K) | with_reducible refine then_exit ?_ | with_reducible refine then_ret ?_ | with_reducible refine inb_ret ?_ | with_reducible refine inb_norm ?_
  by_cases hx : r2 < 0
  · refine sv (.int .i64 r2) ?_
    refine sg (.bool true) (h := by have h0 : decide (r2 < 0) = true := decide_eq_true hx; have h1 := hx; go_simp) ?_
    repeat first | with_reducible refine sk fun K hK => ?_ | with_reducible refine then_normal ?_ | ((with_reducible refine hK _ _ ?_); clear hK K) | with_reducible refine wpList_nil ?_ | with_reducible refine rl ?_ | ((with_reducible refine is_cond ?_); first | refine wp_cond_true (by rfl) ?_ | refine wp_cond_false (by rfl) ?_) | with_reducible refine wp_block ?_ | with_reducible refine wp_skip ?_ | with_reducible refine wp_ret ?_ | with_reducible refine wp_exit ?_ | (clear hK K; (with_reducible refine hK _ _ ?_); clear hK K) | (clear hK K; clear hK K; (with_reducible refine hK _ _ ?_); clear hK K) | with_reducible refine then_exit ?_ | with_reducible refine then_ret ?_ | with_reducible refine inb_ret ?_ | with_reducible refine inb_norm ?_
    refine sv (.bool true) ?_
    repeat first | with_reducible refine sk fun K hK => ?_ | with_reducible refine then_normal ?_ | ((with_reducible refine hK _ _ ?_); clear hK K) | with_reducible refine wpList_nil ?_ | with_reducible refine rl ?_ | ((with_reducible refine is_cond ?_); first | refine wp_cond_true (by rfl) ?_ | refine wp_cond_false (by rfl) ?_) | with_reducible refine wp_block ?_ | with_reducible refine wp_skip ?_ | with_reducible refine wp_ret ?_ | with_reducible refine wp_exit ?_ | (clear hK K; (with_reducible refine hK _ _ ?_); clear hK K) | (clear hK K; clear hK K; (with_reducible refine hK _ _ ?_); clear hK K) | with_reducible refine then_exit ?_ | with_reducible refine then_ret ?_ | with_reducible refine inb_ret ?_ | with_reducible refine inb_norm ?_
    try simp only [Exit.then, Exit.inBlock, ↓reduceIte, Nat.reduceEqDiff]
    exact bodyPost_ret (v := .bool true) (by simp [results, Try.results4, go_sem]) rfl ⟨rfl, HB.out.below⟩
  refine sv (.int .i64 r2) ?_
  refine sg (.bool false) (h := by have h0 : decide (r2 < 0) = false := decide_eq_false hx; have h1 := hx; go_simp) ?_
  repeat first | with_reducible refine sk fun K hK => ?_ | with_reducible refine then_normal ?_ | ((with_reducible refine hK _ _ ?_); clear hK K) | with_reducible refine wpList_nil ?_ | with_reducible refine rl ?_ | ((with_reducible refine is_cond ?_); first | refine wp_cond_true (by rfl) ?_ | refine wp_cond_false (by rfl) ?_) | with_reducible refine wp_block ?_ | with_reducible refine wp_skip ?_ | with_reducible refine wp_ret ?_ | with_reducible refine wp_exit ?_ | (clear hK K; (with_reducible refine hK _ _ ?_); clear hK K) | (clear hK K; clear hK K; (with_reducible refine hK _ _ ?_); clear hK K) | with_reducible refine then_exit ?_ | with_reducible refine then_ret ?_ | with_reducible refine inb_ret ?_ | with_reducible refine inb_norm ?_
  clear hx
  refine wp_region_but (z := 999) (S := fun w' => Mv nob V4.drew w') (by kernel_rfl) (Mv.refl _ _) (fun hS => ?_)
  have m5 : Mv nob V4 V4.drew := Mv.drew _
  obtain ⟨V5, hV5⟩ : ∃ V, V4.drew = V := ⟨_, rfl⟩
  rw [hV5] at hS m5 ⊢
  clear hV5; replace HB := Xhn HB m5; replace bx0 := Xbn bx0 m5; replace bx1 := Xbn bx1 m5; clear m5; have rbx0 := bx0; have rbx1 := bx1
  refine tk 0 (.agg #[.int .i64 p.base, .slice wa p.nw wc, .int .i64 p.want, .slice ga p.ng gc, .slice da p.nd dc, .slice ua p.nu uc]) rfl (fun w' hSw => by (try dsimp only at hSw); have z0 := cell_box 0 (hSw.box rbx0.out (fun h => h)) rfl; have z1 := cell_box 1 (hSw.box rbx0.out (fun h => h)) rfl; have z2 := cell_box 2 (hSw.box rbx0.out (fun h => h)) rfl; have z3 := cell_box 3 (hSw.box rbx0.out (fun h => h)) rfl; have z4 := cell_box 4 (hSw.box rbx0.out (fun h => h)) rfl; have z5 := cell_box 5 (hSw.box rbx0.out (fun h => h)) rfl; go_simp) ?_
  refine tk 2 (.agg #[.int .i64 k, .int .i64 z, .int .i64 bit, .string body]) rfl (fun w' hSw => by (try dsimp only at hSw); have z0 := cell_box 0 (hSw.box rbx1.out (fun h => h)) rfl; have z1 := cell_box 1 (hSw.box rbx1.out (fun h => h)) rfl; have z2 := cell_box 2 (hSw.box rbx1.out (fun h => h)) rfl; have z3 := cell_box 3 (hSw.box rbx1.out (fun h => h)) rfl; go_simp) ?_
  refine region_states (fun G hG => ?_)
  try dsimp only
  have sF3a : ∀ (V : World) (xw : Nat) (xg : Nat) (xd : Nat) (xu : Nat) (xa0 : Option Addr) (xc0 : Nat) (xa1 : Option Addr) (xc1 : Nat) (xa2 : Option Addr) (xc2 : Nat) (xa3 : Option Addr) (xc3 : Nat) (bF : Nat), (Mv nob V5 V) → (V.heap[bF]? = some (.cells #[.int .i64 0, .slice none 0 0, .int .i64 0, .slice none 0 0, .slice none 0 0, .slice none 0 0] 30 (0, 0))) → (V5.heap.size ≤ bF) → (Lr V V5.heap.size (.slice xa0 L.nw xc0) (.slice xa1 L.ng xc1) (.slice xa2 L.nd xc2) (.slice xa3 L.nu xc3) L) → (∀ g, Lrb (.slice xa0 L.nw xc0) (.slice xa1 L.ng xc1) (.slice xa2 L.nd xc2) (.slice xa3 L.nu xc3) g → g ≠ bF) → G 2 #[true, true, true, true, true, true, true, true, true, false, false] #[.agg #[.int .i64 p.base, .slice wa p.nw wc, .int .i64 p.want, .slice ga p.ng gc, .slice da p.nd dc, .slice ua p.nu uc], .agg #[.int .i64 k, .int .i64 z, .int .i64 bit, .string body], .pointer (some ⟨b0, 0, none⟩), .pointer (some ⟨b1, 0, none⟩), .bool false, .int .i64 r2, .pointer (some ⟨bF, 0, none⟩), undef, undef, undef, undef, undef, undef, undef, undef, undef, .agg #[.int .i64 p.base, .slice wa p.nw wc, .int .i64 p.want, .slice ga p.ng gc, .slice da p.nd dc, .slice ua p.nu uc], .int .i64 1048576, .int .i64 r, .int .i64 r, .bool false, .agg #[.int .i64 k, .int .i64 z, .int .i64 bit, .string body], .int .i64 r, .int .i64 r2, .int .i64 r2, .bool false, .tuple #[.agg #[.int .i64 L.base, .slice xa0 L.nw xc0, .int .i64 L.want, .slice xa1 L.ng xc1, .slice xa2 L.nd xc2, .slice xa3 L.nu xc3], .int .i64 C], .agg #[.int .i64 p.base, .slice wa p.nw wc, .int .i64 p.want, .slice ga p.ng gc, .slice da p.nd dc, .slice ua p.nu uc], .agg #[.int .i64 p.base, sln xw p.nw, .int .i64 p.want, sln xg p.ng, sln xd p.nd, sln xu p.nu], .agg #[.int .i64 k, .int .i64 z, .int .i64 bit, .string body], .agg #[.int .i64 k, .int .i64 z, .int .i64 bit, .string body], .tuple #[.agg #[.int .i64 L.base, .slice xa0 L.nw xc0, .int .i64 L.want, .slice xa1 L.ng xc1, .slice xa2 L.nd xc2, .slice xa3 L.nu xc3], .int .i64 C], .agg #[.int .i64 L.base, .slice xa0 L.nw xc0, .int .i64 L.want, .slice xa1 L.ng xc1, .slice xa2 L.nd xc2, .slice xa3 L.nu xc3], .int .i64 C, undef, undef, undef, undef, undef, undef, undef, undef, undef, undef, undef, undef, undef, undef, undef, undef, undef, undef, undef, undef, undef, undef, undef, undef, undef, undef, undef, undef, undef, undef, undef, undef, undef, undef, undef, undef, undef, undef, undef, undef, undef, undef, undef, undef, undef, undef, undef, undef, undef, undef, undef, undef, undef, undef, undef, undef, undef, undef, undef, undef, undef, undef, undef, undef, undef, undef, undef, undef, undef, undef, undef, undef, undef, undef, undef] V := by
    intro VF1 xw xg xd xu xa0 xc0 xa1 xc1 xa2 xc2 xa3 xc3 b2 hM hBx hRb LQ hAB
    rw [hG]
    have o0_2 : b0 < b2 := Nat.lt_of_lt_of_le (lt_of_block bx0.out) hRb
    have o1_2 : b1 < b2 := Nat.lt_of_lt_of_le (lt_of_block bx1.out) hRb
    have rbx02 := rbx0; have rbx12 := rbx1; replace HB := Xhn HB hM; replace bx0 := Xbn bx0 hM; replace bx1 := Xbn bx1 hM
    have bx2 := hide hBx
    clear hBx; clear rbx02
    replace rbx0 := bx0
    clear rbx12
    replace rbx1 := bx1
    have rbx2 := bx2; clear hG
    replace hS : Mv nob V5 VF1 := hM
    clear hM
    have LW := hide LQ
    have LWb := hAB
    clear LQ hAB
    refine kd_skipI (i := 9) (w' := (((((VF1.setCell ⟨b2, 0, none⟩ (.int .i64 L.base)).setCell ⟨b2, 1, none⟩ (.slice xa0 L.nw xc0)).setCell ⟨b2, 2, none⟩ (.int .i64 L.want)).setCell ⟨b2, 3, none⟩ (.slice xa1 L.ng xc1)).setCell ⟨b2, 4, none⟩ (.slice xa2 L.nd xc2)).setCell ⟨b2, 5, none⟩ (.slice xa3 L.nu xc3)) (fun V => Mv (fun g => g = b2) VF1 V ∧ V.heap[b2]? = some (.cells #[.int .i64 L.base, .slice xa0 L.nw xc0, .int .i64 L.want, .slice xa1 L.ng xc1, .slice xa2 L.nd xc2, .slice xa3 L.nu xc3] 30 (0, 0))) (by kernel_rfl) rfl (by rfl) (by have fr := fun i => frozen_of_row _ _ i _ _ bx2.out; have z0 := cell_box 0 bx2.out rfl; have z1 := cell_box 1 bx2.out rfl; have z2 := cell_box 2 bx2.out rfl; have z3 := cell_box 3 bx2.out rfl; have z4 := cell_box 4 bx2.out rfl; have z5 := cell_box 5 bx2.out rfl; go_simp) ⟨Mv.set (Mv.set (Mv.set (Mv.set (Mv.set (Mv.set (Mv.refl _ _) _ _) _ _) _ _) _ _) _ _) _ _, (heap_setCell_same _ _ 5 _ _ _ (heap_setCell_same _ _ 4 _ _ _ (heap_setCell_same _ _ 3 _ _ _ (heap_setCell_same _ _ 2 _ _ _ (heap_setCell_same _ _ 1 _ _ _ (heap_setCell_same _ _ 0 _ _ _ (bx2.out))))))).trans rfl⟩ (fun V hI _ => hS.step hI.1 (fun g hg h => by have h : g = b2 := h; exfalso; omega)) ?_
    rintro V6 ⟨m6, nxV6⟩
    refine ptk ?_
    replace HB := Xhb HB m6; replace bx0 := Xbb bx0 m6; replace bx1 := Xbb bx1 m6
    replace LW := hide (LW.out.mv m6 (fun g hg h => LWb g hg h))
    replace bx2 := hide nxV6
    clear nxV6
    replace hS := hS.step m6 (fun g hg h => by first | exact h | (have h : g = b2 := h; exfalso; omega))
    clear m6
    refine tk0 10 (.int .i64 C) rfl ?_
    refine wpAnyK_done (by kernel_rfl) ?_
    clear hS rbx0 rbx1 rbx2
    repeat first | with_reducible refine sk fun K hK => ?_ | with_reducible refine then_normal ?_ | ((with_reducible refine hK _ _ ?_); clear hK K) | with_reducible refine wpList_nil ?_ | with_reducible refine rl ?_ | ((with_reducible refine is_cond ?_); first | refine wp_cond_true (by rfl) ?_ | refine wp_cond_false (by rfl) ?_) | with_reducible refine wp_block ?_ | with_reducible refine wp_skip ?_ | with_reducible refine wp_ret ?_ | with_reducible refine wp_exit ?_ | (clear hK K; (with_reducible refine hK _ _ ?_); clear hK K) | (clear hK K; clear hK K; (with_reducible refine hK _ _ ?_); clear hK K) | with_reducible refine then_exit ?_ | with_reducible refine then_ret ?_ | with_reducible refine inb_ret ?_ | with_reducible refine inb_norm ?_
    have HB8 : Hid (Mv nob V6 V6) := hide (Mv.refl _ _)
    have l28 : b2 < V6.heap.size := lt_of_block bx2.out
    clear LWb
    refine sl6 bx0 ?_
    have z8 := HB8.out.size
    refine sw_call (by rfl) (by first | rfl | (go_simp; done)) (toLink_any _ _ _ _ p V6 (ha0.out.below HB.out.below) hsm) ?_
    rintro e V7 ⟨gw, gg, gd, gu, rfl, LO2, hbV7⟩
    have m7 : Mv (nob) V6 V7 := Mv.of_below hbV7
    refine ⟨_, rfl, ?_⟩
    refine pt ?_
    replace HB := Xhn HB m7; replace bx0 := Xbn bx0 m7; replace bx1 := Xbn bx1 m7; replace bx2 := Xbn bx2 m7; replace HB8 := Xhn HB8 m7
    have LX := hide LO2
    have HB9 : Hid (Mv nob V7 V7) := hide (Mv.refl _ _)
    have lw9 := LO2.lw
    have hi9 := LO2.hi
    clear LO2 hbV7; clear m7
    refine sbp #[.int .i64 0, .slice none 0 0, .int .i64 0, .slice none 0 0, .slice none 0 0, .slice none 0 0] 30 fun V8 b3 hb3 m8 bx3 => ?_
    have o0_3 := Xlo bx0 hb3; have o1_3 := Xlo bx1 hb3; have o2_3 := Xlo bx2 hb3; have a8_b3 := Xhs HB8 hb3; have a9_b3 := Xhs HB9 hb3; replace HB := Xhn HB m8; replace bx0 := Xbn bx0 m8; replace bx1 := Xbn bx1 m8; replace bx2 := Xbn bx2 m8; replace HB8 := Xhn HB8 m8; replace HB9 := Xhn HB9 m8; clear hb3 m8
    refine ss6 (.int .i64 p.base) (sln gw p.nw) (.int .i64 p.want) (sln gg p.ng) (sln gd p.nd) (sln gu p.nu) bx3 fun V9 m9 bx3 => ?_
    replace HB := Xhb HB m9; replace bx0 := Xbb bx0 m9; replace bx1 := Xbb bx1 m9; replace bx2 := Xbb bx2 m9; replace HB8 := Xhb HB8 m9; replace HB9 := Xhb HB9 m9; clear m9
    repeat first | with_reducible refine sk fun K hK => ?_ | with_reducible refine then_normal ?_ | ((with_reducible refine hK _ _ ?_); clear hK K) | with_reducible refine wpList_nil ?_ | with_reducible refine rl ?_ | ((with_reducible refine is_cond ?_); first | refine wp_cond_true (by rfl) ?_ | refine wp_cond_false (by rfl) ?_) | with_reducible refine wp_block ?_ | with_reducible refine wp_skip ?_ | with_reducible refine wp_ret ?_ | with_reducible refine wp_exit ?_ | (clear hK K; (with_reducible refine hK _ _ ?_); clear hK K) | (clear hK K; clear hK K; (with_reducible refine hK _ _ ?_); clear hK K) | with_reducible refine then_exit ?_ | with_reducible refine then_ret ?_ | with_reducible refine inb_ret ?_ | with_reducible refine inb_norm ?_
    refine wp_region_but (z := 999) (S := fun w' => Mv nob V9.drew w') (by kernel_rfl) (Mv.refl _ _) (fun hS => ?_)
    have m10 : Mv nob V9 V9.drew := Mv.drew _
    obtain ⟨V10, hV10⟩ : ∃ V, V9.drew = V := ⟨_, rfl⟩
    rw [hV10] at hS m10 ⊢
    clear hV10; replace HB := Xhn HB m10; replace bx0 := Xbn bx0 m10; replace bx1 := Xbn bx1 m10; replace bx2 := Xbn bx2 m10; replace HB8 := Xhn HB8 m10; replace HB9 := Xhn HB9 m10; replace bx3 := Xbn bx3 m10; clear m10; have rbx0 := bx0; have rbx1 := bx1; have rbx2 := bx2; have rbx3 := bx3
    refine tk 0 (.agg #[.int .i64 p.base, sln gw p.nw, .int .i64 p.want, sln gg p.ng, sln gd p.nd, sln gu p.nu]) rfl (fun w' hSw => by (try dsimp only at hSw); have z0 := cell_box 0 (hSw.box rbx3.out (fun h => h)) rfl; have z1 := cell_box 1 (hSw.box rbx3.out (fun h => h)) rfl; have z2 := cell_box 2 (hSw.box rbx3.out (fun h => h)) rfl; have z3 := cell_box 3 (hSw.box rbx3.out (fun h => h)) rfl; have z4 := cell_box 4 (hSw.box rbx3.out (fun h => h)) rfl; have z5 := cell_box 5 (hSw.box rbx3.out (fun h => h)) rfl; go_simp) ?_
    refine tk 1 (.agg #[.int .i64 k, .int .i64 z, .int .i64 bit, .string body]) rfl (fun w' hSw => by (try dsimp only at hSw); have z0 := cell_box 0 (hSw.box rbx1.out (fun h => h)) rfl; have z1 := cell_box 1 (hSw.box rbx1.out (fun h => h)) rfl; have z2 := cell_box 2 (hSw.box rbx1.out (fun h => h)) rfl; have z3 := cell_box 3 (hSw.box rbx1.out (fun h => h)) rfl; go_simp) ?_
    have z8 := HB8.out.size
    have z9 := HB9.out.size
    have l3R := lt_of_block bx3.out
    refine region_states (fun G hG => ?_)
    try dsimp only
    have sF2a : ∀ (V : World) (ya0 : Option Addr) (yc0 : Nat) (ya1 : Option Addr) (yc1 : Nat) (ya2 : Option Addr) (yc2 : Nat) (ya3 : Option Addr) (yc3 : Nat) (bF : Nat), (Mv nob V10 V) → (V.heap[bF]? = some (.cells #[.int .i64 0, .slice none 0 0, .int .i64 0, .slice none 0 0, .slice none 0 0, .slice none 0 0] 30 (0, 0))) → (V10.heap.size ≤ bF) → (Lr V V10.heap.size (.slice ya0 L.nw yc0) (.slice ya1 L.ng yc1) (.slice ya2 L.nd yc2) (.slice ya3 L.nu yc3) L) → (∀ g, Lrb (.slice ya0 L.nw yc0) (.slice ya1 L.ng yc1) (.slice ya2 L.nd yc2) (.slice ya3 L.nu yc3) g → g ≠ bF) → G 2 #[true, true, true, true, true, true, true, true, false, false] #[.agg #[.int .i64 p.base, .slice wa p.nw wc, .int .i64 p.want, .slice ga p.ng gc, .slice da p.nd dc, .slice ua p.nu uc], .agg #[.int .i64 k, .int .i64 z, .int .i64 bit, .string body], .pointer (some ⟨b0, 0, none⟩), .pointer (some ⟨b1, 0, none⟩), .bool false, .int .i64 r2, .pointer (some ⟨b2, 0, none⟩), .int .i64 C, .pointer (some ⟨b3, 0, none⟩), .pointer (some ⟨bF, 0, none⟩), undef, undef, undef, undef, undef, undef, .agg #[.int .i64 p.base, .slice wa p.nw wc, .int .i64 p.want, .slice ga p.ng gc, .slice da p.nd dc, .slice ua p.nu uc], .int .i64 1048576, .int .i64 r, .int .i64 r, .bool false, .agg #[.int .i64 k, .int .i64 z, .int .i64 bit, .string body], .int .i64 r, .int .i64 r2, .int .i64 r2, .bool false, .tuple #[.agg #[.int .i64 L.base, .slice xa0 L.nw xc0, .int .i64 L.want, .slice xa1 L.ng xc1, .slice xa2 L.nd xc2, .slice xa3 L.nu xc3], .int .i64 C], .agg #[.int .i64 p.base, .slice wa p.nw wc, .int .i64 p.want, .slice ga p.ng gc, .slice da p.nd dc, .slice ua p.nu uc], .agg #[.int .i64 p.base, sln xw p.nw, .int .i64 p.want, sln xg p.ng, sln xd p.nd, sln xu p.nu], .agg #[.int .i64 k, .int .i64 z, .int .i64 bit, .string body], .agg #[.int .i64 k, .int .i64 z, .int .i64 bit, .string body], .tuple #[.agg #[.int .i64 L.base, .slice xa0 L.nw xc0, .int .i64 L.want, .slice xa1 L.ng xc1, .slice xa2 L.nd xc2, .slice xa3 L.nu xc3], .int .i64 C], .agg #[.int .i64 L.base, .slice xa0 L.nw xc0, .int .i64 L.want, .slice xa1 L.ng xc1, .slice xa2 L.nd xc2, .slice xa3 L.nu xc3], .int .i64 C, .agg #[.int .i64 p.base, .slice wa p.nw wc, .int .i64 p.want, .slice ga p.ng gc, .slice da p.nd dc, .slice ua p.nu uc], .agg #[.int .i64 p.base, sln gw p.nw, .int .i64 p.want, sln gg p.ng, sln gd p.nd, sln gu p.nu], .tuple #[.agg #[.int .i64 L.base, .slice ya0 L.nw yc0, .int .i64 L.want, .slice ya1 L.ng yc1, .slice ya2 L.nd yc2, .slice ya3 L.nu yc3], .int .i64 C], .agg #[.int .i64 p.base, sln gw p.nw, .int .i64 p.want, sln gg p.ng, sln gd p.nd, sln gu p.nu], .agg #[.int .i64 k, .int .i64 z, .int .i64 bit, .string body], .agg #[.int .i64 k, .int .i64 z, .int .i64 bit, .string body], .tuple #[.agg #[.int .i64 L.base, .slice ya0 L.nw yc0, .int .i64 L.want, .slice ya1 L.ng yc1, .slice ya2 L.nd yc2, .slice ya3 L.nu yc3], .int .i64 C], .agg #[.int .i64 L.base, .slice ya0 L.nw yc0, .int .i64 L.want, .slice ya1 L.ng yc1, .slice ya2 L.nd yc2, .slice ya3 L.nu yc3], .int .i64 C, undef, undef, undef, undef, undef, undef, undef, undef, undef, undef, undef, undef, undef, undef, undef, undef, undef, undef, undef, undef, undef, undef, undef, undef, undef, undef, undef, undef, undef, undef, undef, undef, undef, undef, undef, undef, undef, undef, undef, undef, undef, undef, undef, undef, undef, undef, undef, undef, undef, undef, undef, undef, undef, undef, undef, undef, undef, undef, undef, undef, undef, undef, undef, undef, undef, undef] V := by
      intro VF2 ya0 yc0 ya1 yc1 ya2 yc2 ya3 yc3 b4 hM hBx hRb LQ hAB
      rw [hG]
      have o0_4 : b0 < b4 := Nat.lt_of_lt_of_le (lt_of_block bx0.out) hRb
      have o1_4 : b1 < b4 := Nat.lt_of_lt_of_le (lt_of_block bx1.out) hRb
      have o2_4 : b2 < b4 := Nat.lt_of_lt_of_le (lt_of_block bx2.out) hRb
      have o3_4 : b3 < b4 := Nat.lt_of_lt_of_le (lt_of_block bx3.out) hRb
      have rbx02 := rbx0; have rbx12 := rbx1; have rbx22 := rbx2; have rbx32 := rbx3; replace HB := Xhn HB hM; replace bx0 := Xbn bx0 hM; replace bx1 := Xbn bx1 hM; replace bx2 := Xbn bx2 hM; replace HB8 := Xhn HB8 hM; replace HB9 := Xhn HB9 hM; replace bx3 := Xbn bx3 hM
      have bx4 := hide hBx
      clear hBx; clear rbx02
      replace rbx0 := bx0
      clear rbx12
      replace rbx1 := bx1
      clear rbx22
      replace rbx2 := bx2
      clear rbx32
      replace rbx3 := bx3
      have rbx4 := bx4; clear hG
      replace hS : Mv nob V10 VF2 := hM
      clear hM
      have LG := hide LQ
      have LGb : ∀ g, Lrb (.slice ya0 L.nw yc0) (.slice ya1 L.ng yc1) (.slice ya2 L.nd yc2) (.slice ya3 L.nu yc3) g → V10.heap.size ≤ g ∧ g ≠ b4 := fun g h => ⟨(LQ.lt g h).1, hAB g h⟩
      clear LQ hAB
      refine kd_skipI (i := 8) (w' := (((((VF2.setCell ⟨b4, 0, none⟩ (.int .i64 L.base)).setCell ⟨b4, 1, none⟩ (.slice ya0 L.nw yc0)).setCell ⟨b4, 2, none⟩ (.int .i64 L.want)).setCell ⟨b4, 3, none⟩ (.slice ya1 L.ng yc1)).setCell ⟨b4, 4, none⟩ (.slice ya2 L.nd yc2)).setCell ⟨b4, 5, none⟩ (.slice ya3 L.nu yc3)) (fun V => Mv (fun g => g = b4) VF2 V ∧ V.heap[b4]? = some (.cells #[.int .i64 L.base, .slice ya0 L.nw yc0, .int .i64 L.want, .slice ya1 L.ng yc1, .slice ya2 L.nd yc2, .slice ya3 L.nu yc3] 30 (0, 0))) (by kernel_rfl) rfl (by rfl) (by have fr := fun i => frozen_of_row _ _ i _ _ bx4.out; have z0 := cell_box 0 bx4.out rfl; have z1 := cell_box 1 bx4.out rfl; have z2 := cell_box 2 bx4.out rfl; have z3 := cell_box 3 bx4.out rfl; have z4 := cell_box 4 bx4.out rfl; have z5 := cell_box 5 bx4.out rfl; go_simp) ⟨Mv.set (Mv.set (Mv.set (Mv.set (Mv.set (Mv.set (Mv.refl _ _) _ _) _ _) _ _) _ _) _ _) _ _, (heap_setCell_same _ _ 5 _ _ _ (heap_setCell_same _ _ 4 _ _ _ (heap_setCell_same _ _ 3 _ _ _ (heap_setCell_same _ _ 2 _ _ _ (heap_setCell_same _ _ 1 _ _ _ (heap_setCell_same _ _ 0 _ _ _ (bx4.out))))))).trans rfl⟩ (fun V hI _ => hS.step hI.1 (fun g hg h => by have h : g = b4 := h; exfalso; omega)) ?_
      rintro V11 ⟨m11, nxV11⟩
      refine ptk ?_
      replace HB := Xhb HB m11; replace bx0 := Xbb bx0 m11; replace bx1 := Xbb bx1 m11; replace bx2 := Xbb bx2 m11; replace HB8 := Xhb HB8 m11; replace HB9 := Xhb HB9 m11; replace bx3 := Xbb bx3 m11
      replace LG := hide (LG.out.mv m11 (fun g hg h => by have h : g = b4 := h; have := LGb g hg; omega))
      replace bx4 := hide nxV11
      clear nxV11
      replace hS := hS.step m11 (fun g hg h => by first | exact h | (have h : g = b4 := h; exfalso; omega))
      clear m11
      refine tk0 9 (.int .i64 C) rfl ?_
      refine wpAnyK_done (by kernel_rfl) ?_
      clear hS rbx0 rbx1 rbx2 rbx3 rbx4
      repeat first | with_reducible refine sk fun K hK => ?_ | with_reducible refine then_normal ?_ | ((with_reducible refine hK _ _ ?_); clear hK K) | with_reducible refine wpList_nil ?_ | with_reducible refine rl ?_ | ((with_reducible refine is_cond ?_); first | refine wp_cond_true (by rfl) ?_ | refine wp_cond_false (by rfl) ?_) | with_reducible refine wp_block ?_ | with_reducible refine wp_skip ?_ | with_reducible refine wp_ret ?_ | with_reducible refine wp_exit ?_ | (clear hK K; (with_reducible refine hK _ _ ?_); clear hK K) | (clear hK K; clear hK K; (with_reducible refine hK _ _ ?_); clear hK K) | with_reducible refine then_exit ?_ | with_reducible refine then_ret ?_ | with_reducible refine inb_ret ?_ | with_reducible refine inb_norm ?_
      refine sl6 bx4 ?_
      refine sl6 bx2 ?_
      refine sw_call (by rfl) (by first | rfl | (go_simp; done)) (eqLink_same _ _ _ _ _ _ _ _ L V11 LG.out.lv (LW.out.mv HB8.out (fun _ _ h => h)).lv hsz.out) ?_
      rintro e V12 ⟨rfl, hbV12⟩
      have m12 : Mv (nob) V11 V12 := Mv.of_below hbV12
      refine ⟨_, rfl, ?_⟩
      refine pt ?_
      replace HB := Xhn HB m12; replace bx0 := Xbn bx0 m12; replace bx1 := Xbn bx1 m12; replace bx2 := Xbn bx2 m12; replace HB8 := Xhn HB8 m12; replace HB9 := Xhn HB9 m12; replace bx3 := Xbn bx3 m12; replace bx4 := Xbn bx4 m12
      replace LG := hide (LG.out.mv m12 (fun _ _ h => h))
      clear hbV12; clear m12
      refine sg (.bool false) ?_
      refine sv (.bool false) ?_
      refine sv (.int .i64 C) ?_
      refine sv (.int .i64 C) ?_
      refine sg (.bool false) ?_
      refine sg (.bool false) ?_
      repeat first | with_reducible refine sk fun K hK => ?_ | with_reducible refine then_normal ?_ | ((with_reducible refine hK _ _ ?_); clear hK K) | with_reducible refine wpList_nil ?_ | with_reducible refine rl ?_ | ((with_reducible refine is_cond ?_); first | refine wp_cond_true (by rfl) ?_ | refine wp_cond_false (by rfl) ?_) | with_reducible refine wp_block ?_ | with_reducible refine wp_skip ?_ | with_reducible refine wp_ret ?_ | with_reducible refine wp_exit ?_ | (clear hK K; (with_reducible refine hK _ _ ?_); clear hK K) | (clear hK K; clear hK K; (with_reducible refine hK _ _ ?_); clear hK K) | with_reducible refine then_exit ?_ | with_reducible refine then_ret ?_ | with_reducible refine inb_ret ?_ | with_reducible refine inb_norm ?_
      refine wp_region_but (z := 999) (S := fun w' => Mv (nob) V12.drew w') (by kernel_rfl) (Mv.refl _ _) (fun hS => ?_)
      have m13 : Mv nob V12 V12.drew := Mv.drew _
      obtain ⟨V13, hV13⟩ : ∃ V, V12.drew = V := ⟨_, rfl⟩
      rw [hV13] at hS m13 ⊢
      clear hV13; replace HB := Xhn HB m13; replace bx0 := Xbn bx0 m13; replace bx1 := Xbn bx1 m13; replace bx2 := Xbn bx2 m13; replace HB8 := Xhn HB8 m13; replace HB9 := Xhn HB9 m13; replace bx3 := Xbn bx3 m13; replace bx4 := Xbn bx4 m13
      replace LG := hide (LG.out.mv m13 (fun _ _ h => h))
      clear m13; have rbx0 := bx0; have rbx1 := bx1; have rbx2 := bx2; have rbx3 := bx3; have rbx4 := bx4
      refine tk 0 (.agg #[.int .i64 p.base, sln gw p.nw, .int .i64 p.want, sln gg p.ng, sln gd p.nd, sln gu p.nu]) rfl (fun w' hSw => by (try dsimp only at hSw); have z0 := cell_box 0 (hSw.box rbx3.out (fun h => h)) rfl; have z1 := cell_box 1 (hSw.box rbx3.out (fun h => h)) rfl; have z2 := cell_box 2 (hSw.box rbx3.out (fun h => h)) rfl; have z3 := cell_box 3 (hSw.box rbx3.out (fun h => h)) rfl; have z4 := cell_box 4 (hSw.box rbx3.out (fun h => h)) rfl; have z5 := cell_box 5 (hSw.box rbx3.out (fun h => h)) rfl; go_simp) ?_
      refine tk 1 (.agg #[.int .i64 p.base, .slice wa p.nw wc, .int .i64 p.want, .slice ga p.ng gc, .slice da p.nd dc, .slice ua p.nu uc]) rfl (fun w' hSw => by (try dsimp only at hSw); have z0 := cell_box 0 (hSw.box rbx0.out (fun h => h)) rfl; have z1 := cell_box 1 (hSw.box rbx0.out (fun h => h)) rfl; have z2 := cell_box 2 (hSw.box rbx0.out (fun h => h)) rfl; have z3 := cell_box 3 (hSw.box rbx0.out (fun h => h)) rfl; have z4 := cell_box 4 (hSw.box rbx0.out (fun h => h)) rfl; have z5 := cell_box 5 (hSw.box rbx0.out (fun h => h)) rfl; go_simp) ?_
      refine kd_call (i := 2) (by kernel_rfl) rfl (by rfl) (by first | rfl | (go_simp; done)) (toLink_any _ _ _ _ p V13 (ha0.out.below HB.out.below) hsm) ?_
      rintro e V14 ⟨tw, tg, td, tu, rfl, LO3, hbV14⟩
      have m14 : Mv (nob) V13 V14 := Mv.of_below hbV14
      replace hS := hS.step m14 (fun _ _ h => h.elim)
      refine ⟨_, rfl, fun _ => hS, ?_⟩
      refine ptk ?_
      replace HB := Xhn HB m14; replace bx0 := Xbn bx0 m14; replace bx1 := Xbn bx1 m14; replace bx2 := Xbn bx2 m14; replace HB8 := Xhn HB8 m14; replace HB9 := Xhn HB9 m14; replace bx3 := Xbn bx3 m14; replace bx4 := Xbn bx4 m14
      replace LG := hide (LG.out.mv m14 (fun _ _ h => h))
      have LT3 := hide LO3
      clear LO3 hbV14; clear m14
      refine kd_call (i := 3) (by kernel_rfl) rfl (by rfl) (by first | rfl | (go_simp; done)) (eqLink_same _ _ _ _ _ _ _ _ p V14 (LX.out.below HB9.out.below).lv LT3.out.lv hsm) ?_
      rintro e V15 ⟨rfl, hbV15⟩
      have m15 : Mv (nob) V14 V15 := Mv.of_below hbV15
      replace hS := hS.step m15 (fun _ _ h => h.elim)
      refine ⟨_, rfl, fun _ => hS, ?_⟩
      refine ptk ?_
      replace HB := Xhn HB m15; replace bx0 := Xbn bx0 m15; replace bx1 := Xbn bx1 m15; replace bx2 := Xbn bx2 m15; replace HB8 := Xhn HB8 m15; replace HB9 := Xhn HB9 m15; replace bx3 := Xbn bx3 m15; replace bx4 := Xbn bx4 m15
      replace LG := hide (LG.out.mv m15 (fun _ _ h => h))
      replace LT3 := hide (LT3.out.below (m15).below)
      clear hbV15; clear m15
      refine tk0 4 (.bool false) rfl ?_
      refine wpAnyK_done (by kernel_rfl) ?_
      clear hS rbx0 rbx1 rbx2 rbx3 rbx4
      repeat first | with_reducible refine sk fun K hK => ?_ | with_reducible refine then_normal ?_ | ((with_reducible refine hK _ _ ?_); clear hK K) | with_reducible refine wpList_nil ?_ | with_reducible refine rl ?_ | ((with_reducible refine is_cond ?_); first | refine wp_cond_true (by rfl) ?_ | refine wp_cond_false (by rfl) ?_) | with_reducible refine wp_block ?_ | with_reducible refine wp_skip ?_ | with_reducible refine wp_ret ?_ | with_reducible refine wp_exit ?_ | (clear hK K; (with_reducible refine hK _ _ ?_); clear hK K) | (clear hK K; clear hK K; (with_reducible refine hK _ _ ?_); clear hK K) | with_reducible refine then_exit ?_ | with_reducible refine then_ret ?_ | with_reducible refine inb_ret ?_ | with_reducible refine inb_norm ?_
      clear LT3
      refine sv (.int .i64 1) ?_
      repeat first | with_reducible refine sk fun K hK => ?_ | with_reducible refine then_normal ?_ | ((with_reducible refine hK _ _ ?_); clear hK K) | with_reducible refine wpList_nil ?_ | with_reducible refine rl ?_ | ((with_reducible refine is_cond ?_); first | refine wp_cond_true (by rfl) ?_ | refine wp_cond_false (by rfl) ?_) | with_reducible refine wp_block ?_ | with_reducible refine wp_skip ?_ | with_reducible refine wp_ret ?_ | with_reducible refine wp_exit ?_ | (clear hK K; (with_reducible refine hK _ _ ?_); clear hK K) | (clear hK K; clear hK K; (with_reducible refine hK _ _ ?_); clear hK K) | with_reducible refine then_exit ?_ | with_reducible refine then_ret ?_ | with_reducible refine inb_ret ?_ | with_reducible refine inb_norm ?_
      refine sl6 bx3 ?_
      refine sv (.int .i64 1) ?_
      have LTm : ∀ g, (g = gw ∨ g = gg ∨ g = gd ∨ g = gu) → b2 < g ∧ g < b3 := fun g h => by omega
      refine sw_call (by rfl) (by first | rfl | (go_simp; done)) (markLink_lo gw gg gd gu p 1 _ V15 (LX.out.below HB9.out.below) hsm.four (by decide) (by decide)) ?_
      rintro e V16 ⟨rfl, mm⟩
      have m16 : Mv (fun g => g = gw ∨ g = gg ∨ g = gd ∨ g = gu) V15 V16 := mm
      refine ⟨_, rfl, ?_⟩
      refine pt ?_
      replace HB := hide (HB.out.step m16 (fun g hlt h => by have := LTm g h; exfalso; omega))
      replace bx0 := hide (m16.box bx0.out (fun h => by have := LTm _ h; omega))
      replace bx1 := hide (m16.box bx1.out (fun h => by have := LTm _ h; omega))
      replace bx2 := hide (m16.box bx2.out (fun h => by have := LTm _ h; omega))
      replace HB8 := hide (HB8.out.step m16 (fun g hlt h => by have := LTm g h; exfalso; omega))
      replace bx3 := hide (m16.box bx3.out (fun h => by have := LTm _ h; omega))
      replace bx4 := hide (m16.box bx4.out (fun h => by have := LTm _ h; omega))
      replace LG := hide (LG.out.mv m16 (fun g hg h => by have := LTm g h; have := LGb g hg; omega))
      clear mm LTm HB9 LX; clear m16
      refine sv (.int .i64 (mkE p 1)) ?_
      repeat first | with_reducible refine sk fun K hK => ?_ | with_reducible refine then_normal ?_ | ((with_reducible refine hK _ _ ?_); clear hK K) | with_reducible refine wpList_nil ?_ | with_reducible refine rl ?_ | ((with_reducible refine is_cond ?_); first | refine wp_cond_true (by rfl) ?_ | refine wp_cond_false (by rfl) ?_) | with_reducible refine wp_block ?_ | with_reducible refine wp_skip ?_ | with_reducible refine wp_ret ?_ | with_reducible refine wp_exit ?_ | (clear hK K; (with_reducible refine hK _ _ ?_); clear hK K) | (clear hK K; clear hK K; (with_reducible refine hK _ _ ?_); clear hK K) | with_reducible refine then_exit ?_ | with_reducible refine then_ret ?_ | with_reducible refine inb_ret ?_ | with_reducible refine inb_norm ?_
      refine sv (.int .i64 (mkE p 1)) ?_
      refine sg (.bool false) (h := by have h0 := hm0; go_simp) ?_
      refine sv (.bool false) ?_
      refine sl6 bx4 ?_
      refine sl6 bx2 ?_
      refine sw_call (by rfl) (by first | rfl | (go_simp; done)) (eqLink_same _ _ _ _ _ _ _ _ L V16 LG.out.lv (LW.out.mv HB8.out (fun _ _ h => h)).lv hsz.out) ?_
      rintro e V17 ⟨rfl, hbV17⟩
      have m17 : Mv (nob) V16 V17 := Mv.of_below hbV17
      refine ⟨_, rfl, ?_⟩
      refine pt ?_
      replace HB := Xhn HB m17; replace bx0 := Xbn bx0 m17; replace bx1 := Xbn bx1 m17; replace bx2 := Xbn bx2 m17; replace HB8 := Xhn HB8 m17; replace bx3 := Xbn bx3 m17; replace bx4 := Xbn bx4 m17
      replace LG := hide (LG.out.mv m17 (fun _ _ h => h))
      clear hbV17; clear m17
      refine sg (.bool false) ?_
      refine sg (.bool false) ?_
      refine sv (.bool false) ?_
      refine sv (.int .i64 C) ?_
      refine sv (.int .i64 C) ?_
      refine sg (.bool false) ?_
      refine sg (.bool false) ?_
      repeat first | with_reducible refine sk fun K hK => ?_ | with_reducible refine then_normal ?_ | ((with_reducible refine hK _ _ ?_); clear hK K) | with_reducible refine wpList_nil ?_ | with_reducible refine rl ?_ | ((with_reducible refine is_cond ?_); first | refine wp_cond_true (by rfl) ?_ | refine wp_cond_false (by rfl) ?_) | with_reducible refine wp_block ?_ | with_reducible refine wp_skip ?_ | with_reducible refine wp_ret ?_ | with_reducible refine wp_exit ?_ | (clear hK K; (with_reducible refine hK _ _ ?_); clear hK K) | (clear hK K; clear hK K; (with_reducible refine hK _ _ ?_); clear hK K) | with_reducible refine then_exit ?_ | with_reducible refine then_ret ?_ | with_reducible refine inb_ret ?_ | with_reducible refine inb_norm ?_
      refine sv (.int .i64 1) ?_
      repeat first | with_reducible refine sk fun K hK => ?_ | with_reducible refine then_normal ?_ | ((with_reducible refine hK _ _ ?_); clear hK K) | with_reducible refine wpList_nil ?_ | with_reducible refine rl ?_ | ((with_reducible refine is_cond ?_); first | refine wp_cond_true (by rfl) ?_ | refine wp_cond_false (by rfl) ?_) | with_reducible refine wp_block ?_ | with_reducible refine wp_skip ?_ | with_reducible refine wp_ret ?_ | with_reducible refine wp_exit ?_ | (clear hK K; (with_reducible refine hK _ _ ?_); clear hK K) | (clear hK K; clear hK K; (with_reducible refine hK _ _ ?_); clear hK K) | with_reducible refine then_exit ?_ | with_reducible refine then_ret ?_ | with_reducible refine inb_ret ?_ | with_reducible refine inb_norm ?_
      refine sl6 bx4 ?_
      refine sv (.int .i64 1) ?_
      have LTm : ∀ g, Lrb (.slice ya0 L.nw yc0) (.slice ya1 L.ng yc1) (.slice ya2 L.nd yc2) (.slice ya3 L.nu yc3) g → b3 < g ∧ g ≠ b4 := fun g h => by have := LGb g h; omega
      refine sw_call (by rfl) (by first | rfl | (go_simp; done)) (markLink_lr _ _ _ _ L 1 _ V17 LG.out hsz.out.four (by decide) (by decide)) ?_
      rintro e V18 ⟨rfl, mm, LM0⟩
      have m18 : Mv (Lrb (.slice ya0 L.nw yc0) (.slice ya1 L.ng yc1) (.slice ya2 L.nd yc2) (.slice ya3 L.nu yc3)) V17 V18 := mm
      refine ⟨_, rfl, ?_⟩
      refine pt ?_
      replace HB := hide (HB.out.step m18 (fun g hlt h => by have := LTm g h; exfalso; omega))
      replace bx0 := hide (m18.box bx0.out (fun h => by have := LTm _ h; omega))
      replace bx1 := hide (m18.box bx1.out (fun h => by have := LTm _ h; omega))
      replace bx2 := hide (m18.box bx2.out (fun h => by have := LTm _ h; omega))
      replace HB8 := hide (HB8.out.step m18 (fun g hlt h => by have := LTm g h; exfalso; omega))
      replace bx3 := hide (m18.box bx3.out (fun h => by have := LTm _ h; omega))
      replace bx4 := hide (m18.box bx4.out (fun h => by have := LTm _ h; omega))
      have LM := hide LM0
      clear LG LM0 mm LTm; clear m18
      refine sv (.int .i64 (mkE L 1)) ?_
      repeat first | with_reducible refine sk fun K hK => ?_ | with_reducible refine then_normal ?_ | ((with_reducible refine hK _ _ ?_); clear hK K) | with_reducible refine wpList_nil ?_ | with_reducible refine rl ?_ | ((with_reducible refine is_cond ?_); first | refine wp_cond_true (by rfl) ?_ | refine wp_cond_false (by rfl) ?_) | with_reducible refine wp_block ?_ | with_reducible refine wp_skip ?_ | with_reducible refine wp_ret ?_ | with_reducible refine wp_exit ?_ | (clear hK K; (with_reducible refine hK _ _ ?_); clear hK K) | (clear hK K; clear hK K; (with_reducible refine hK _ _ ?_); clear hK K) | with_reducible refine then_exit ?_ | with_reducible refine then_ret ?_ | with_reducible refine inb_ret ?_ | with_reducible refine inb_norm ?_
      refine sv (.int .i64 1) ?_
      repeat first | with_reducible refine sk fun K hK => ?_ | with_reducible refine then_normal ?_ | ((with_reducible refine hK _ _ ?_); clear hK K) | with_reducible refine wpList_nil ?_ | with_reducible refine rl ?_ | ((with_reducible refine is_cond ?_); first | refine wp_cond_true (by rfl) ?_ | refine wp_cond_false (by rfl) ?_) | with_reducible refine wp_block ?_ | with_reducible refine wp_skip ?_ | with_reducible refine wp_ret ?_ | with_reducible refine wp_exit ?_ | (clear hK K; (with_reducible refine hK _ _ ?_); clear hK K) | (clear hK K; clear hK K; (with_reducible refine hK _ _ ?_); clear hK K) | with_reducible refine then_exit ?_ | with_reducible refine then_ret ?_ | with_reducible refine inb_ret ?_ | with_reducible refine inb_norm ?_
      refine sl6 bx4 ?_
      refine sv (.int .i64 1) ?_
      refine sw_call (by rfl) (by first | rfl | (go_simp; done)) (heldLink_lr _ _ _ _ L 1 V18 LM.out.lv hsz.out.four (by decide) (by decide)) ?_
      rintro e V19 ⟨rfl, hbV19⟩
      have m19 : Mv (nob) V18 V19 := Mv.of_below hbV19
      refine ⟨_, rfl, ?_⟩
      refine pt ?_
      replace HB := Xhn HB m19; replace bx0 := Xbn bx0 m19; replace bx1 := Xbn bx1 m19; replace bx2 := Xbn bx2 m19; replace HB8 := Xhn HB8 m19; replace bx3 := Xbn bx3 m19; replace bx4 := Xbn bx4 m19
      replace LM := hide (LM.out.mv m19 (fun _ _ h => h))
      clear hbV19; clear m19
      refine sv (.int .i64 (mkE L 1)) ?_
      repeat first | with_reducible refine sk fun K hK => ?_ | with_reducible refine then_normal ?_ | ((with_reducible refine hK _ _ ?_); clear hK K) | with_reducible refine wpList_nil ?_ | with_reducible refine rl ?_ | ((with_reducible refine is_cond ?_); first | refine wp_cond_true (by rfl) ?_ | refine wp_cond_false (by rfl) ?_) | with_reducible refine wp_block ?_ | with_reducible refine wp_skip ?_ | with_reducible refine wp_ret ?_ | with_reducible refine wp_exit ?_ | (clear hK K; (with_reducible refine hK _ _ ?_); clear hK K) | (clear hK K; clear hK K; (with_reducible refine hK _ _ ?_); clear hK K) | with_reducible refine then_exit ?_ | with_reducible refine then_ret ?_ | with_reducible refine inb_ret ?_ | with_reducible refine inb_norm ?_
      refine sv (.int .i64 (mkE L 1)) ?_
      refine sg (.bool false) (h := by have h0 := hm1; go_simp) ?_
      repeat first | with_reducible refine sk fun K hK => ?_ | with_reducible refine then_normal ?_ | ((with_reducible refine hK _ _ ?_); clear hK K) | with_reducible refine wpList_nil ?_ | with_reducible refine rl ?_ | ((with_reducible refine is_cond ?_); first | refine wp_cond_true (by rfl) ?_ | refine wp_cond_false (by rfl) ?_) | with_reducible refine wp_block ?_ | with_reducible refine wp_skip ?_ | with_reducible refine wp_ret ?_ | with_reducible refine wp_exit ?_ | (clear hK K; (with_reducible refine hK _ _ ?_); clear hK K) | (clear hK K; clear hK K; (with_reducible refine hK _ _ ?_); clear hK K) | with_reducible refine then_exit ?_ | with_reducible refine then_ret ?_ | with_reducible refine inb_ret ?_ | with_reducible refine inb_norm ?_
      refine sv (.int .i64 (mkE L 1)) ?_
      refine sv (.int .i64 (mkE L 1)) ?_
      refine sg (.bool false) ?_
      repeat first | with_reducible refine sk fun K hK => ?_ | with_reducible refine then_normal ?_ | ((with_reducible refine hK _ _ ?_); clear hK K) | with_reducible refine wpList_nil ?_ | with_reducible refine rl ?_ | ((with_reducible refine is_cond ?_); first | refine wp_cond_true (by rfl) ?_ | refine wp_cond_false (by rfl) ?_) | with_reducible refine wp_block ?_ | with_reducible refine wp_skip ?_ | with_reducible refine wp_ret ?_ | with_reducible refine wp_exit ?_ | (clear hK K; (with_reducible refine hK _ _ ?_); clear hK K) | (clear hK K; clear hK K; (with_reducible refine hK _ _ ?_); clear hK K) | with_reducible refine then_exit ?_ | with_reducible refine then_ret ?_ | with_reducible refine inb_ret ?_ | with_reducible refine inb_norm ?_
      refine wp_region_but (z := 999) (S := fun w' => Mv nob V19.drew w') (by kernel_rfl) (Mv.refl _ _) (fun hS => ?_)
      have m20 : Mv nob V19 V19.drew := Mv.drew _
      obtain ⟨V20, hV20⟩ : ∃ V, V19.drew = V := ⟨_, rfl⟩
      rw [hV20] at hS m20 ⊢
      clear hV20; replace HB := Xhn HB m20; replace bx0 := Xbn bx0 m20; replace bx1 := Xbn bx1 m20; replace bx2 := Xbn bx2 m20; replace HB8 := Xhn HB8 m20; replace bx3 := Xbn bx3 m20; replace bx4 := Xbn bx4 m20
      replace LM := hide (LM.out.mv m20 (fun _ _ h => h))
      clear m20; have rbx0 := bx0; have rbx1 := bx1; have rbx2 := bx2; have rbx3 := bx3; have rbx4 := bx4
      refine tk 0 (.agg #[.int .i64 p.base, .slice wa p.nw wc, .int .i64 p.want, .slice ga p.ng gc, .slice da p.nd dc, .slice ua p.nu uc]) rfl (fun w' hSw => by (try dsimp only at hSw); have z0 := cell_box 0 (hSw.box rbx0.out (fun h => h)) rfl; have z1 := cell_box 1 (hSw.box rbx0.out (fun h => h)) rfl; have z2 := cell_box 2 (hSw.box rbx0.out (fun h => h)) rfl; have z3 := cell_box 3 (hSw.box rbx0.out (fun h => h)) rfl; have z4 := cell_box 4 (hSw.box rbx0.out (fun h => h)) rfl; have z5 := cell_box 5 (hSw.box rbx0.out (fun h => h)) rfl; go_simp) ?_
      refine tk 2 (.agg #[.int .i64 k, .int .i64 z, .int .i64 bit, .string body]) rfl (fun w' hSw => by (try dsimp only at hSw); have z0 := cell_box 0 (hSw.box rbx1.out (fun h => h)) rfl; have z1 := cell_box 1 (hSw.box rbx1.out (fun h => h)) rfl; have z2 := cell_box 2 (hSw.box rbx1.out (fun h => h)) rfl; have z3 := cell_box 3 (hSw.box rbx1.out (fun h => h)) rfl; go_simp) ?_
      have z8 := HB8.out.size
      have l4R := lt_of_block bx4.out
      have LMlt := hide (fun g h => (LM.out.lt g h).2)
      refine region_states (fun G hG => ?_)
      try dsimp only
      have sF3a : ∀ (V : World) (uw : Nat) (ug : Nat) (ud : Nat) (uu : Nat) (ua0 : Option Addr) (uc0 : Nat) (ua1 : Option Addr) (uc1 : Nat) (ua2 : Option Addr) (uc2 : Nat) (ua3 : Option Addr) (uc3 : Nat) (bF : Nat), (Mv nob V20 V) → (V.heap[bF]? = some (.cells #[.int .i64 0, .slice none 0 0, .int .i64 0, .slice none 0 0, .slice none 0 0, .slice none 0 0] 30 (0, 0))) → (V20.heap.size ≤ bF) → (Lr V V20.heap.size (.slice ua0 L.nw uc0) (.slice ua1 L.ng uc1) (.slice ua2 L.nd uc2) (.slice ua3 L.nu uc3) L) → (∀ g, Lrb (.slice ua0 L.nw uc0) (.slice ua1 L.ng uc1) (.slice ua2 L.nd uc2) (.slice ua3 L.nu uc3) g → g ≠ bF) → G 2 #[true, true, true, true, true, true, true, true, true, false, false] #[.agg #[.int .i64 p.base, .slice wa p.nw wc, .int .i64 p.want, .slice ga p.ng gc, .slice da p.nd dc, .slice ua p.nu uc], .agg #[.int .i64 k, .int .i64 z, .int .i64 bit, .string body], .pointer (some ⟨b0, 0, none⟩), .pointer (some ⟨b1, 0, none⟩), .bool false, .int .i64 r2, .pointer (some ⟨b2, 0, none⟩), .int .i64 C, .pointer (some ⟨b3, 0, none⟩), .pointer (some ⟨b4, 0, none⟩), .int .i64 C, .int .i64 (mkE p 1), .int .i64 (mkE L 1), .int .i64 (mkE L 1), .pointer (some ⟨bF, 0, none⟩), undef, .agg #[.int .i64 p.base, .slice wa p.nw wc, .int .i64 p.want, .slice ga p.ng gc, .slice da p.nd dc, .slice ua p.nu uc], .int .i64 1048576, .int .i64 r, .int .i64 r, .bool false, .agg #[.int .i64 k, .int .i64 z, .int .i64 bit, .string body], .int .i64 r, .int .i64 r2, .int .i64 r2, .bool false, .tuple #[.agg #[.int .i64 L.base, .slice xa0 L.nw xc0, .int .i64 L.want, .slice xa1 L.ng xc1, .slice xa2 L.nd xc2, .slice xa3 L.nu xc3], .int .i64 C], .agg #[.int .i64 p.base, .slice wa p.nw wc, .int .i64 p.want, .slice ga p.ng gc, .slice da p.nd dc, .slice ua p.nu uc], .agg #[.int .i64 p.base, sln xw p.nw, .int .i64 p.want, sln xg p.ng, sln xd p.nd, sln xu p.nu], .agg #[.int .i64 k, .int .i64 z, .int .i64 bit, .string body], .agg #[.int .i64 k, .int .i64 z, .int .i64 bit, .string body], .tuple #[.agg #[.int .i64 L.base, .slice xa0 L.nw xc0, .int .i64 L.want, .slice xa1 L.ng xc1, .slice xa2 L.nd xc2, .slice xa3 L.nu xc3], .int .i64 C], .agg #[.int .i64 L.base, .slice xa0 L.nw xc0, .int .i64 L.want, .slice xa1 L.ng xc1, .slice xa2 L.nd xc2, .slice xa3 L.nu xc3], .int .i64 C, .agg #[.int .i64 p.base, .slice wa p.nw wc, .int .i64 p.want, .slice ga p.ng gc, .slice da p.nd dc, .slice ua p.nu uc], .agg #[.int .i64 p.base, sln gw p.nw, .int .i64 p.want, sln gg p.ng, sln gd p.nd, sln gu p.nu], .tuple #[.agg #[.int .i64 L.base, .slice ya0 L.nw yc0, .int .i64 L.want, .slice ya1 L.ng yc1, .slice ya2 L.nd yc2, .slice ya3 L.nu yc3], .int .i64 C], .agg #[.int .i64 p.base, sln gw p.nw, .int .i64 p.want, sln gg p.ng, sln gd p.nd, sln gu p.nu], .agg #[.int .i64 k, .int .i64 z, .int .i64 bit, .string body], .agg #[.int .i64 k, .int .i64 z, .int .i64 bit, .string body], .tuple #[.agg #[.int .i64 L.base, .slice ya0 L.nw yc0, .int .i64 L.want, .slice ya1 L.ng yc1, .slice ya2 L.nd yc2, .slice ya3 L.nu yc3], .int .i64 C], .agg #[.int .i64 L.base, .slice ya0 L.nw yc0, .int .i64 L.want, .slice ya1 L.ng yc1, .slice ya2 L.nd yc2, .slice ya3 L.nu yc3], .int .i64 C, .agg #[.int .i64 L.base, .slice ya0 L.nw yc0, .int .i64 L.want, .slice ya1 L.ng yc1, .slice ya2 L.nd yc2, .slice ya3 L.nu yc3], .agg #[.int .i64 L.base, .slice xa0 L.nw xc0, .int .i64 L.want, .slice xa1 L.ng xc1, .slice xa2 L.nd xc2, .slice xa3 L.nu xc3], .bool true, .bool false, .bool false, .int .i64 C, .int .i64 C, .bool false, .bool false, .agg #[.int .i64 p.base, sln gw p.nw, .int .i64 p.want, sln gg p.ng, sln gd p.nd, sln gu p.nu], .agg #[.int .i64 p.base, .slice wa p.nw wc, .int .i64 p.want, .slice ga p.ng gc, .slice da p.nd dc, .slice ua p.nu uc], .agg #[.int .i64 p.base, sln tw p.nw, .int .i64 p.want, sln tg p.ng, sln td p.nd, sln tu p.nu], .bool true, .bool false, .agg #[.int .i64 p.base, sln gw p.nw, .int .i64 p.want, sln gg p.ng, sln gd p.nd, sln gu p.nu], .int .i64 1, .int .i64 (mkE p 1), .int .i64 (mkE p 1), .bool false, .bool false, .agg #[.int .i64 L.base, .slice ya0 L.nw yc0, .int .i64 L.want, .slice ya1 L.ng yc1, .slice ya2 L.nd yc2, .slice ya3 L.nu yc3], .agg #[.int .i64 L.base, .slice xa0 L.nw xc0, .int .i64 L.want, .slice xa1 L.ng xc1, .slice xa2 L.nd xc2, .slice xa3 L.nu xc3], .bool true, .bool false, .bool false, .bool false, .int .i64 C, .int .i64 C, .bool false, .bool false, .agg #[.int .i64 L.base, .slice ya0 L.nw yc0, .int .i64 L.want, .slice ya1 L.ng yc1, .slice ya2 L.nd yc2, .slice ya3 L.nu yc3], .int .i64 1, .int .i64 (mkE L 1), .agg #[.int .i64 L.base, .slice ya0 L.nw yc0, .int .i64 L.want, .slice ya1 L.ng yc1, .slice ya2 L.nd yc2, .slice ya3 L.nu yc3], .int .i64 1, .int .i64 (mkE L 1), .int .i64 (mkE L 1), .bool false, .int .i64 (mkE L 1), .int .i64 (mkE L 1), .bool false, .tuple #[.agg #[.int .i64 L.base, .slice ua0 L.nw uc0, .int .i64 L.want, .slice ua1 L.ng uc1, .slice ua2 L.nd uc2, .slice ua3 L.nu uc3], .int .i64 C], .agg #[.int .i64 p.base, .slice wa p.nw wc, .int .i64 p.want, .slice ga p.ng gc, .slice da p.nd dc, .slice ua p.nu uc], .agg #[.int .i64 p.base, sln uw p.nw, .int .i64 p.want, sln ug p.ng, sln ud p.nd, sln uu p.nu], .agg #[.int .i64 k, .int .i64 z, .int .i64 bit, .string body], .agg #[.int .i64 k, .int .i64 z, .int .i64 bit, .string body], .tuple #[.agg #[.int .i64 L.base, .slice ua0 L.nw uc0, .int .i64 L.want, .slice ua1 L.ng uc1, .slice ua2 L.nd uc2, .slice ua3 L.nu uc3], .int .i64 C], .agg #[.int .i64 L.base, .slice ua0 L.nw uc0, .int .i64 L.want, .slice ua1 L.ng uc1, .slice ua2 L.nd uc2, .slice ua3 L.nu uc3], .int .i64 C, undef, undef, undef, undef, undef, undef, undef, undef, undef, undef, undef, undef, undef, undef, undef, undef, undef] V := by
        intro VF3 uw ug ud uu ua0 uc0 ua1 uc1 ua2 uc2 ua3 uc3 b5 hM hBx hRb LQ hAB
        rw [hG]
        have o0_5 : b0 < b5 := Nat.lt_of_lt_of_le (lt_of_block bx0.out) hRb
        have o1_5 : b1 < b5 := Nat.lt_of_lt_of_le (lt_of_block bx1.out) hRb
        have o2_5 : b2 < b5 := Nat.lt_of_lt_of_le (lt_of_block bx2.out) hRb
        have o3_5 : b3 < b5 := Nat.lt_of_lt_of_le (lt_of_block bx3.out) hRb
        have o4_5 : b4 < b5 := Nat.lt_of_lt_of_le (lt_of_block bx4.out) hRb
        have rbx02 := rbx0; have rbx12 := rbx1; have rbx22 := rbx2; have rbx32 := rbx3; have rbx42 := rbx4; replace HB := Xhn HB hM; replace bx0 := Xbn bx0 hM; replace bx1 := Xbn bx1 hM; replace bx2 := Xbn bx2 hM; replace HB8 := Xhn HB8 hM; replace bx3 := Xbn bx3 hM; replace bx4 := Xbn bx4 hM
        replace LM := hide (LM.out.mv hM (fun _ _ h => h))
        have bx5 := hide hBx
        clear hBx; clear rbx02
        replace rbx0 := bx0
        clear rbx12
        replace rbx1 := bx1
        clear rbx22
        replace rbx2 := bx2
        clear rbx32
        replace rbx3 := bx3
        clear rbx42
        replace rbx4 := bx4
        have rbx5 := bx5; clear hG
        replace hS : Mv nob V20 VF3 := hM
        clear hM
        have LH := hide LQ
        have LHb := hAB
        clear LQ hAB
        refine kd_skipI (i := 9) (w' := (((((VF3.setCell ⟨b5, 0, none⟩ (.int .i64 L.base)).setCell ⟨b5, 1, none⟩ (.slice ua0 L.nw uc0)).setCell ⟨b5, 2, none⟩ (.int .i64 L.want)).setCell ⟨b5, 3, none⟩ (.slice ua1 L.ng uc1)).setCell ⟨b5, 4, none⟩ (.slice ua2 L.nd uc2)).setCell ⟨b5, 5, none⟩ (.slice ua3 L.nu uc3)) (fun V => Mv (fun g => g = b5) VF3 V ∧ V.heap[b5]? = some (.cells #[.int .i64 L.base, .slice ua0 L.nw uc0, .int .i64 L.want, .slice ua1 L.ng uc1, .slice ua2 L.nd uc2, .slice ua3 L.nu uc3] 30 (0, 0))) (by kernel_rfl) rfl (by rfl) (by have fr := fun i => frozen_of_row _ _ i _ _ bx5.out; have z0 := cell_box 0 bx5.out rfl; have z1 := cell_box 1 bx5.out rfl; have z2 := cell_box 2 bx5.out rfl; have z3 := cell_box 3 bx5.out rfl; have z4 := cell_box 4 bx5.out rfl; have z5 := cell_box 5 bx5.out rfl; go_simp) ⟨Mv.set (Mv.set (Mv.set (Mv.set (Mv.set (Mv.set (Mv.refl _ _) _ _) _ _) _ _) _ _) _ _) _ _, (heap_setCell_same _ _ 5 _ _ _ (heap_setCell_same _ _ 4 _ _ _ (heap_setCell_same _ _ 3 _ _ _ (heap_setCell_same _ _ 2 _ _ _ (heap_setCell_same _ _ 1 _ _ _ (heap_setCell_same _ _ 0 _ _ _ (bx5.out))))))).trans rfl⟩ (fun V hI _ => hS.step hI.1 (fun g hg h => by have h : g = b5 := h; exfalso; omega)) ?_
        rintro V21 ⟨m21, nxV21⟩
        refine ptk ?_
        replace HB := Xhb HB m21; replace bx0 := Xbb bx0 m21; replace bx1 := Xbb bx1 m21; replace bx2 := Xbb bx2 m21; replace HB8 := Xhb HB8 m21; replace bx3 := Xbb bx3 m21; replace bx4 := Xbb bx4 m21
        replace LM := hide (LM.out.mv m21 (fun g hg h => by have h : g = b5 := h; have := LGb g hg; have := LMlt.out g hg; omega))
        replace LH := hide (LH.out.mv m21 (fun g hg h => LHb g hg h))
        replace bx5 := hide nxV21
        clear nxV21
        replace hS := hS.step m21 (fun g hg h => by first | exact h | (have h : g = b5 := h; exfalso; omega))
        clear m21
        refine tk0 10 (.int .i64 C) rfl ?_
        refine wpAnyK_done (by kernel_rfl) ?_
        clear hS rbx0 rbx1 rbx2 rbx3 rbx4 rbx5
        repeat first | with_reducible refine sk fun K hK => ?_ | with_reducible refine then_normal ?_ | ((with_reducible refine hK _ _ ?_); clear hK K) | with_reducible refine wpList_nil ?_ | with_reducible refine rl ?_ | ((with_reducible refine is_cond ?_); first | refine wp_cond_true (by rfl) ?_ | refine wp_cond_false (by rfl) ?_) | with_reducible refine wp_block ?_ | with_reducible refine wp_skip ?_ | with_reducible refine wp_ret ?_ | with_reducible refine wp_exit ?_ | (clear hK K; (with_reducible refine hK _ _ ?_); clear hK K) | (clear hK K; clear hK K; (with_reducible refine hK _ _ ?_); clear hK K) | with_reducible refine then_exit ?_ | with_reducible refine then_ret ?_ | with_reducible refine inb_ret ?_ | with_reducible refine inb_norm ?_
        refine sl6 bx5 ?_
        refine sl6 bx2 ?_
        refine sw_call (by rfl) (by first | rfl | (go_simp; done)) (eqLink_same _ _ _ _ _ _ _ _ L V21 LH.out.lv (LW.out.mv HB8.out (fun _ _ h => h)).lv hsz.out) ?_
        rintro e V22 ⟨rfl, hbV22⟩
        have m22 : Mv (nob) V21 V22 := Mv.of_below hbV22
        refine ⟨_, rfl, ?_⟩
        refine pt ?_
        replace HB := Xhn HB m22; replace bx0 := Xbn bx0 m22; replace bx1 := Xbn bx1 m22; replace bx2 := Xbn bx2 m22; replace HB8 := Xhn HB8 m22; replace bx3 := Xbn bx3 m22; replace bx4 := Xbn bx4 m22
        replace LM := hide (LM.out.mv m22 (fun _ _ h => h))
        replace bx5 := Xbn bx5 m22
        replace LH := hide (LH.out.mv m22 (fun _ _ h => h))
        clear hbV22; clear m22
        refine sg (.bool false) ?_
        refine sv (.bool false) ?_
        refine sv (.int .i64 C) ?_
        refine sv (.int .i64 C) ?_
        refine sg (.bool false) ?_
        refine sg (.bool false) ?_
        repeat first | with_reducible refine sk fun K hK => ?_ | with_reducible refine then_normal ?_ | ((with_reducible refine hK _ _ ?_); clear hK K) | with_reducible refine wpList_nil ?_ | with_reducible refine rl ?_ | ((with_reducible refine is_cond ?_); first | refine wp_cond_true (by rfl) ?_ | refine wp_cond_false (by rfl) ?_) | with_reducible refine wp_block ?_ | with_reducible refine wp_skip ?_ | with_reducible refine wp_ret ?_ | with_reducible refine wp_exit ?_ | (clear hK K; (with_reducible refine hK _ _ ?_); clear hK K) | (clear hK K; clear hK K; (with_reducible refine hK _ _ ?_); clear hK K) | with_reducible refine then_exit ?_ | with_reducible refine then_ret ?_ | with_reducible refine inb_ret ?_ | with_reducible refine inb_norm ?_
        refine sv (.int .i64 1) ?_
        repeat first | with_reducible refine sk fun K hK => ?_ | with_reducible refine then_normal ?_ | ((with_reducible refine hK _ _ ?_); clear hK K) | with_reducible refine wpList_nil ?_ | with_reducible refine rl ?_ | ((with_reducible refine is_cond ?_); first | refine wp_cond_true (by rfl) ?_ | refine wp_cond_false (by rfl) ?_) | with_reducible refine wp_block ?_ | with_reducible refine wp_skip ?_ | with_reducible refine wp_ret ?_ | with_reducible refine wp_exit ?_ | (clear hK K; (with_reducible refine hK _ _ ?_); clear hK K) | (clear hK K; clear hK K; (with_reducible refine hK _ _ ?_); clear hK K) | with_reducible refine then_exit ?_ | with_reducible refine then_ret ?_ | with_reducible refine inb_ret ?_ | with_reducible refine inb_norm ?_
        refine sl6 bx4 ?_
        refine sv (.int .i64 1) ?_
        refine sw_call (by rfl) (by first | rfl | (go_simp; done)) (heldLink_lr _ _ _ _ L 1 V22 LM.out.lv hsz.out.four (by decide) (by decide)) ?_
        rintro e V23 ⟨rfl, hbV23⟩
        have m23 : Mv (nob) V22 V23 := Mv.of_below hbV23
        refine ⟨_, rfl, ?_⟩
        refine pt ?_
        replace HB := Xhn HB m23; replace bx0 := Xbn bx0 m23; replace bx1 := Xbn bx1 m23; replace bx2 := Xbn bx2 m23; replace HB8 := Xhn HB8 m23; replace bx3 := Xbn bx3 m23; replace bx4 := Xbn bx4 m23
        replace LM := hide (LM.out.mv m23 (fun _ _ h => h))
        replace bx5 := Xbn bx5 m23
        replace LH := hide (LH.out.mv m23 (fun _ _ h => h))
        clear hbV23; clear m23
        refine sv (.int .i64 (mkE L 1)) ?_
        repeat first | with_reducible refine sk fun K hK => ?_ | with_reducible refine then_normal ?_ | ((with_reducible refine hK _ _ ?_); clear hK K) | with_reducible refine wpList_nil ?_ | with_reducible refine rl ?_ | ((with_reducible refine is_cond ?_); first | refine wp_cond_true (by rfl) ?_ | refine wp_cond_false (by rfl) ?_) | with_reducible refine wp_block ?_ | with_reducible refine wp_skip ?_ | with_reducible refine wp_ret ?_ | with_reducible refine wp_exit ?_ | (clear hK K; (with_reducible refine hK _ _ ?_); clear hK K) | (clear hK K; clear hK K; (with_reducible refine hK _ _ ?_); clear hK K) | with_reducible refine then_exit ?_ | with_reducible refine then_ret ?_ | with_reducible refine inb_ret ?_ | with_reducible refine inb_norm ?_
        refine sv (.int .i64 (mkE L 1)) ?_
        refine sg (.bool false) (h := by have h0 := hm1; go_simp) ?_
        repeat first | with_reducible refine sk fun K hK => ?_ | with_reducible refine then_normal ?_ | ((with_reducible refine hK _ _ ?_); clear hK K) | with_reducible refine wpList_nil ?_ | with_reducible refine rl ?_ | ((with_reducible refine is_cond ?_); first | refine wp_cond_true (by rfl) ?_ | refine wp_cond_false (by rfl) ?_) | with_reducible refine wp_block ?_ | with_reducible refine wp_skip ?_ | with_reducible refine wp_ret ?_ | with_reducible refine wp_exit ?_ | (clear hK K; (with_reducible refine hK _ _ ?_); clear hK K) | (clear hK K; clear hK K; (with_reducible refine hK _ _ ?_); clear hK K) | with_reducible refine then_exit ?_ | with_reducible refine then_ret ?_ | with_reducible refine inb_ret ?_ | with_reducible refine inb_norm ?_
        refine sv (.int .i64 (mkE L 1)) ?_
        refine sv (.int .i64 (mkE L 1)) ?_
        refine sg (.bool false) ?_
        repeat first | with_reducible refine sk fun K hK => ?_ | with_reducible refine then_normal ?_ | ((with_reducible refine hK _ _ ?_); clear hK K) | with_reducible refine wpList_nil ?_ | with_reducible refine rl ?_ | ((with_reducible refine is_cond ?_); first | refine wp_cond_true (by rfl) ?_ | refine wp_cond_false (by rfl) ?_) | with_reducible refine wp_block ?_ | with_reducible refine wp_skip ?_ | with_reducible refine wp_ret ?_ | with_reducible refine wp_exit ?_ | (clear hK K; (with_reducible refine hK _ _ ?_); clear hK K) | (clear hK K; clear hK K; (with_reducible refine hK _ _ ?_); clear hK K) | with_reducible refine then_exit ?_ | with_reducible refine then_ret ?_ | with_reducible refine inb_ret ?_ | with_reducible refine inb_norm ?_
        refine sv (.bool true) ?_
        repeat first | with_reducible refine sk fun K hK => ?_ | with_reducible refine then_normal ?_ | ((with_reducible refine hK _ _ ?_); clear hK K) | with_reducible refine wpList_nil ?_ | with_reducible refine rl ?_ | ((with_reducible refine is_cond ?_); first | refine wp_cond_true (by rfl) ?_ | refine wp_cond_false (by rfl) ?_) | with_reducible refine wp_block ?_ | with_reducible refine wp_skip ?_ | with_reducible refine wp_ret ?_ | with_reducible refine wp_exit ?_ | (clear hK K; (with_reducible refine hK _ _ ?_); clear hK K) | (clear hK K; clear hK K; (with_reducible refine hK _ _ ?_); clear hK K) | with_reducible refine then_exit ?_ | with_reducible refine then_ret ?_ | with_reducible refine inb_ret ?_ | with_reducible refine inb_norm ?_
        try simp only [Exit.then, Exit.inBlock, ↓reduceIte, Nat.reduceEqDiff]
        exact bodyPost_ret (v := .bool true) (by simp [results, Try.results4, go_sem]) rfl ⟨rfl, HB.out.below⟩
      have sF3n : ∀ (V : World) (uw : Nat) (ug : Nat) (ud : Nat) (uu : Nat) (ua0 : Option Addr) (uc0 : Nat) (ua1 : Option Addr) (uc1 : Nat) (ua2 : Option Addr) (uc2 : Nat) (ua3 : Option Addr) (uc3 : Nat), (Mv nob V20 V) → (Lr V V20.heap.size (.slice ua0 L.nw uc0) (.slice ua1 L.ng uc1) (.slice ua2 L.nd uc2) (.slice ua3 L.nu uc3) L) → G 3 #[true, true, true, true, true, true, true, true, false, false, false] #[.agg #[.int .i64 p.base, .slice wa p.nw wc, .int .i64 p.want, .slice ga p.ng gc, .slice da p.nd dc, .slice ua p.nu uc], .agg #[.int .i64 k, .int .i64 z, .int .i64 bit, .string body], .pointer (some ⟨b0, 0, none⟩), .pointer (some ⟨b1, 0, none⟩), .bool false, .int .i64 r2, .pointer (some ⟨b2, 0, none⟩), .int .i64 C, .pointer (some ⟨b3, 0, none⟩), .pointer (some ⟨b4, 0, none⟩), .int .i64 C, .int .i64 (mkE p 1), .int .i64 (mkE L 1), .int .i64 (mkE L 1), undef, undef, .agg #[.int .i64 p.base, .slice wa p.nw wc, .int .i64 p.want, .slice ga p.ng gc, .slice da p.nd dc, .slice ua p.nu uc], .int .i64 1048576, .int .i64 r, .int .i64 r, .bool false, .agg #[.int .i64 k, .int .i64 z, .int .i64 bit, .string body], .int .i64 r, .int .i64 r2, .int .i64 r2, .bool false, .tuple #[.agg #[.int .i64 L.base, .slice xa0 L.nw xc0, .int .i64 L.want, .slice xa1 L.ng xc1, .slice xa2 L.nd xc2, .slice xa3 L.nu xc3], .int .i64 C], .agg #[.int .i64 p.base, .slice wa p.nw wc, .int .i64 p.want, .slice ga p.ng gc, .slice da p.nd dc, .slice ua p.nu uc], .agg #[.int .i64 p.base, sln xw p.nw, .int .i64 p.want, sln xg p.ng, sln xd p.nd, sln xu p.nu], .agg #[.int .i64 k, .int .i64 z, .int .i64 bit, .string body], .agg #[.int .i64 k, .int .i64 z, .int .i64 bit, .string body], .tuple #[.agg #[.int .i64 L.base, .slice xa0 L.nw xc0, .int .i64 L.want, .slice xa1 L.ng xc1, .slice xa2 L.nd xc2, .slice xa3 L.nu xc3], .int .i64 C], .agg #[.int .i64 L.base, .slice xa0 L.nw xc0, .int .i64 L.want, .slice xa1 L.ng xc1, .slice xa2 L.nd xc2, .slice xa3 L.nu xc3], .int .i64 C, .agg #[.int .i64 p.base, .slice wa p.nw wc, .int .i64 p.want, .slice ga p.ng gc, .slice da p.nd dc, .slice ua p.nu uc], .agg #[.int .i64 p.base, sln gw p.nw, .int .i64 p.want, sln gg p.ng, sln gd p.nd, sln gu p.nu], .tuple #[.agg #[.int .i64 L.base, .slice ya0 L.nw yc0, .int .i64 L.want, .slice ya1 L.ng yc1, .slice ya2 L.nd yc2, .slice ya3 L.nu yc3], .int .i64 C], .agg #[.int .i64 p.base, sln gw p.nw, .int .i64 p.want, sln gg p.ng, sln gd p.nd, sln gu p.nu], .agg #[.int .i64 k, .int .i64 z, .int .i64 bit, .string body], .agg #[.int .i64 k, .int .i64 z, .int .i64 bit, .string body], .tuple #[.agg #[.int .i64 L.base, .slice ya0 L.nw yc0, .int .i64 L.want, .slice ya1 L.ng yc1, .slice ya2 L.nd yc2, .slice ya3 L.nu yc3], .int .i64 C], .agg #[.int .i64 L.base, .slice ya0 L.nw yc0, .int .i64 L.want, .slice ya1 L.ng yc1, .slice ya2 L.nd yc2, .slice ya3 L.nu yc3], .int .i64 C, .agg #[.int .i64 L.base, .slice ya0 L.nw yc0, .int .i64 L.want, .slice ya1 L.ng yc1, .slice ya2 L.nd yc2, .slice ya3 L.nu yc3], .agg #[.int .i64 L.base, .slice xa0 L.nw xc0, .int .i64 L.want, .slice xa1 L.ng xc1, .slice xa2 L.nd xc2, .slice xa3 L.nu xc3], .bool true, .bool false, .bool false, .int .i64 C, .int .i64 C, .bool false, .bool false, .agg #[.int .i64 p.base, sln gw p.nw, .int .i64 p.want, sln gg p.ng, sln gd p.nd, sln gu p.nu], .agg #[.int .i64 p.base, .slice wa p.nw wc, .int .i64 p.want, .slice ga p.ng gc, .slice da p.nd dc, .slice ua p.nu uc], .agg #[.int .i64 p.base, sln tw p.nw, .int .i64 p.want, sln tg p.ng, sln td p.nd, sln tu p.nu], .bool true, .bool false, .agg #[.int .i64 p.base, sln gw p.nw, .int .i64 p.want, sln gg p.ng, sln gd p.nd, sln gu p.nu], .int .i64 1, .int .i64 (mkE p 1), .int .i64 (mkE p 1), .bool false, .bool false, .agg #[.int .i64 L.base, .slice ya0 L.nw yc0, .int .i64 L.want, .slice ya1 L.ng yc1, .slice ya2 L.nd yc2, .slice ya3 L.nu yc3], .agg #[.int .i64 L.base, .slice xa0 L.nw xc0, .int .i64 L.want, .slice xa1 L.ng xc1, .slice xa2 L.nd xc2, .slice xa3 L.nu xc3], .bool true, .bool false, .bool false, .bool false, .int .i64 C, .int .i64 C, .bool false, .bool false, .agg #[.int .i64 L.base, .slice ya0 L.nw yc0, .int .i64 L.want, .slice ya1 L.ng yc1, .slice ya2 L.nd yc2, .slice ya3 L.nu yc3], .int .i64 1, .int .i64 (mkE L 1), .agg #[.int .i64 L.base, .slice ya0 L.nw yc0, .int .i64 L.want, .slice ya1 L.ng yc1, .slice ya2 L.nd yc2, .slice ya3 L.nu yc3], .int .i64 1, .int .i64 (mkE L 1), .int .i64 (mkE L 1), .bool false, .int .i64 (mkE L 1), .int .i64 (mkE L 1), .bool false, .tuple #[.agg #[.int .i64 L.base, .slice ua0 L.nw uc0, .int .i64 L.want, .slice ua1 L.ng uc1, .slice ua2 L.nd uc2, .slice ua3 L.nu uc3], .int .i64 C], .agg #[.int .i64 p.base, .slice wa p.nw wc, .int .i64 p.want, .slice ga p.ng gc, .slice da p.nd dc, .slice ua p.nu uc], .agg #[.int .i64 p.base, sln uw p.nw, .int .i64 p.want, sln ug p.ng, sln ud p.nd, sln uu p.nu], .agg #[.int .i64 k, .int .i64 z, .int .i64 bit, .string body], .agg #[.int .i64 k, .int .i64 z, .int .i64 bit, .string body], .tuple #[.agg #[.int .i64 L.base, .slice ua0 L.nw uc0, .int .i64 L.want, .slice ua1 L.ng uc1, .slice ua2 L.nd uc2, .slice ua3 L.nu uc3], .int .i64 C], .agg #[.int .i64 L.base, .slice ua0 L.nw uc0, .int .i64 L.want, .slice ua1 L.ng uc1, .slice ua2 L.nd uc2, .slice ua3 L.nu uc3], .int .i64 C, undef, undef, undef, undef, undef, undef, undef, undef, undef, undef, undef, undef, undef, undef, undef, undef, undef] V := by
        intro V uw ug ud uu ua0 uc0 ua1 uc1 ua2 uc2 ua3 uc3 hM LQ
        rw [hG]
        refine kd_each (l := [8]) (by kernel_rfl) rfl ⟨?_, trivial⟩
        · refine ⟨_, rfl, by rfl, .inl ⟨.pointer (some ⟨V.heap.size, 0, none⟩), V.alloc (.cells #[.int .i64 0, .slice none 0 0, .int .i64 0, .slice none 0 0, .slice none 0 0, .slice none 0 0] 30), by first | rfl | go_simp, fun _ => hM.step (Mv.alloc _ _) (fun _ _ h => h), ?_⟩⟩
          refine ptk ?_
          have := sF3a _ uw ug ud uu ua0 uc0 ua1 uc1 ua2 uc2 ua3 uc3 V.heap.size (hM.step (Mv.alloc V (.cells #[.int .i64 0, .slice none 0 0, .int .i64 0, .slice none 0 0, .slice none 0 0, .slice none 0 0] 30)) (fun _ _ h => h)) (heap_alloc_new _ _) (hM.size) (LQ.mv (Mv.alloc V (.cells #[.int .i64 0, .slice none 0 0, .int .i64 0, .slice none 0 0, .slice none 0 0, .slice none 0 0] 30)) (fun _ _ h => h)) (fun g h => by have := (LQ.lt g h).2; omega)
          rw [hG] at this
          exact this
      have sF2a : ∀ (V : World) (uw : Nat) (ug : Nat) (ud : Nat) (uu : Nat) (bF : Nat), (Mv nob V20 V) → (V.heap[bF]? = some (.cells #[.int .i64 0, .slice none 0 0, .int .i64 0, .slice none 0 0, .slice none 0 0, .slice none 0 0] 30 (0, 0))) → (V20.heap.size ≤ bF) → (La V (sln uw p.nw) (sln ug p.ng) (sln ud p.nd) (sln uu p.nu) p) → G 6 #[true, true, true, true, false, false, false, false, true, false, false] #[.agg #[.int .i64 p.base, .slice wa p.nw wc, .int .i64 p.want, .slice ga p.ng gc, .slice da p.nd dc, .slice ua p.nu uc], .agg #[.int .i64 k, .int .i64 z, .int .i64 bit, .string body], .pointer (some ⟨b0, 0, none⟩), .pointer (some ⟨b1, 0, none⟩), .bool false, .int .i64 r2, .pointer (some ⟨b2, 0, none⟩), .int .i64 C, .pointer (some ⟨b3, 0, none⟩), .pointer (some ⟨b4, 0, none⟩), .int .i64 C, .int .i64 (mkE p 1), .int .i64 (mkE L 1), .int .i64 (mkE L 1), .pointer (some ⟨bF, 0, none⟩), undef, .agg #[.int .i64 p.base, .slice wa p.nw wc, .int .i64 p.want, .slice ga p.ng gc, .slice da p.nd dc, .slice ua p.nu uc], .int .i64 1048576, .int .i64 r, .int .i64 r, .bool false, .agg #[.int .i64 k, .int .i64 z, .int .i64 bit, .string body], .int .i64 r, .int .i64 r2, .int .i64 r2, .bool false, .tuple #[.agg #[.int .i64 L.base, .slice xa0 L.nw xc0, .int .i64 L.want, .slice xa1 L.ng xc1, .slice xa2 L.nd xc2, .slice xa3 L.nu xc3], .int .i64 C], .agg #[.int .i64 p.base, .slice wa p.nw wc, .int .i64 p.want, .slice ga p.ng gc, .slice da p.nd dc, .slice ua p.nu uc], .agg #[.int .i64 p.base, sln xw p.nw, .int .i64 p.want, sln xg p.ng, sln xd p.nd, sln xu p.nu], .agg #[.int .i64 k, .int .i64 z, .int .i64 bit, .string body], .agg #[.int .i64 k, .int .i64 z, .int .i64 bit, .string body], .tuple #[.agg #[.int .i64 L.base, .slice xa0 L.nw xc0, .int .i64 L.want, .slice xa1 L.ng xc1, .slice xa2 L.nd xc2, .slice xa3 L.nu xc3], .int .i64 C], .agg #[.int .i64 L.base, .slice xa0 L.nw xc0, .int .i64 L.want, .slice xa1 L.ng xc1, .slice xa2 L.nd xc2, .slice xa3 L.nu xc3], .int .i64 C, .agg #[.int .i64 p.base, .slice wa p.nw wc, .int .i64 p.want, .slice ga p.ng gc, .slice da p.nd dc, .slice ua p.nu uc], .agg #[.int .i64 p.base, sln gw p.nw, .int .i64 p.want, sln gg p.ng, sln gd p.nd, sln gu p.nu], .tuple #[.agg #[.int .i64 L.base, .slice ya0 L.nw yc0, .int .i64 L.want, .slice ya1 L.ng yc1, .slice ya2 L.nd yc2, .slice ya3 L.nu yc3], .int .i64 C], .agg #[.int .i64 p.base, sln gw p.nw, .int .i64 p.want, sln gg p.ng, sln gd p.nd, sln gu p.nu], .agg #[.int .i64 k, .int .i64 z, .int .i64 bit, .string body], .agg #[.int .i64 k, .int .i64 z, .int .i64 bit, .string body], .tuple #[.agg #[.int .i64 L.base, .slice ya0 L.nw yc0, .int .i64 L.want, .slice ya1 L.ng yc1, .slice ya2 L.nd yc2, .slice ya3 L.nu yc3], .int .i64 C], .agg #[.int .i64 L.base, .slice ya0 L.nw yc0, .int .i64 L.want, .slice ya1 L.ng yc1, .slice ya2 L.nd yc2, .slice ya3 L.nu yc3], .int .i64 C, .agg #[.int .i64 L.base, .slice ya0 L.nw yc0, .int .i64 L.want, .slice ya1 L.ng yc1, .slice ya2 L.nd yc2, .slice ya3 L.nu yc3], .agg #[.int .i64 L.base, .slice xa0 L.nw xc0, .int .i64 L.want, .slice xa1 L.ng xc1, .slice xa2 L.nd xc2, .slice xa3 L.nu xc3], .bool true, .bool false, .bool false, .int .i64 C, .int .i64 C, .bool false, .bool false, .agg #[.int .i64 p.base, sln gw p.nw, .int .i64 p.want, sln gg p.ng, sln gd p.nd, sln gu p.nu], .agg #[.int .i64 p.base, .slice wa p.nw wc, .int .i64 p.want, .slice ga p.ng gc, .slice da p.nd dc, .slice ua p.nu uc], .agg #[.int .i64 p.base, sln tw p.nw, .int .i64 p.want, sln tg p.ng, sln td p.nd, sln tu p.nu], .bool true, .bool false, .agg #[.int .i64 p.base, sln gw p.nw, .int .i64 p.want, sln gg p.ng, sln gd p.nd, sln gu p.nu], .int .i64 1, .int .i64 (mkE p 1), .int .i64 (mkE p 1), .bool false, .bool false, .agg #[.int .i64 L.base, .slice ya0 L.nw yc0, .int .i64 L.want, .slice ya1 L.ng yc1, .slice ya2 L.nd yc2, .slice ya3 L.nu yc3], .agg #[.int .i64 L.base, .slice xa0 L.nw xc0, .int .i64 L.want, .slice xa1 L.ng xc1, .slice xa2 L.nd xc2, .slice xa3 L.nu xc3], .bool true, .bool false, .bool false, .bool false, .int .i64 C, .int .i64 C, .bool false, .bool false, .agg #[.int .i64 L.base, .slice ya0 L.nw yc0, .int .i64 L.want, .slice ya1 L.ng yc1, .slice ya2 L.nd yc2, .slice ya3 L.nu yc3], .int .i64 1, .int .i64 (mkE L 1), .agg #[.int .i64 L.base, .slice ya0 L.nw yc0, .int .i64 L.want, .slice ya1 L.ng yc1, .slice ya2 L.nd yc2, .slice ya3 L.nu yc3], .int .i64 1, .int .i64 (mkE L 1), .int .i64 (mkE L 1), .bool false, .int .i64 (mkE L 1), .int .i64 (mkE L 1), .bool false, undef, .agg #[.int .i64 p.base, .slice wa p.nw wc, .int .i64 p.want, .slice ga p.ng gc, .slice da p.nd dc, .slice ua p.nu uc], .agg #[.int .i64 p.base, sln uw p.nw, .int .i64 p.want, sln ug p.ng, sln ud p.nd, sln uu p.nu], .agg #[.int .i64 k, .int .i64 z, .int .i64 bit, .string body], .agg #[.int .i64 k, .int .i64 z, .int .i64 bit, .string body], undef, undef, undef, undef, undef, undef, undef, undef, undef, undef, undef, undef, undef, undef, undef, undef, undef, undef, undef, undef] V := by
        intro V uw ug ud uu bF hM hBx hRb LA1
        rw [hG]
        refine kd_each (l := [4]) (by kernel_rfl) rfl ⟨?_, trivial⟩
        · refine ⟨_, rfl, by rfl, .inr ⟨_, _, _, by first | rfl | (go_simp; done), himpl V _ _ _ _ LA1 hsm, ?_⟩⟩
          rintro e V2 ⟨qa_, qb_, qc_, qd_, rfl, LQ, hbC⟩
          have mV2 : Mv (nob) V V2 := Mv.of_below hbC
          have sb := lt_of_block hBx
          obtain ⟨ua0, uc0, rfl, _⟩ := LQ.wa.form
          obtain ⟨ua1, uc1, rfl, _⟩ := LQ.go.form
          obtain ⟨ua2, uc2, rfl, _⟩ := LQ.dn.form
          obtain ⟨ua3, uc3, rfl, _⟩ := LQ.up.form
          refine ⟨_, rfl, fun _ => hM.step mV2 (fun _ _ h => h), ?_⟩
          refine ptk ?_
          have hMx : Mv nob V20 V2 := hM.step mV2 (fun _ _ h => h)
          refine tk0 5 (.tuple #[.agg #[.int .i64 L.base, .slice ua0 L.nw uc0, .int .i64 L.want, .slice ua1 L.ng uc1, .slice ua2 L.nd uc2, .slice ua3 L.nu uc3], .int .i64 C]) rfl ?_
          refine tk0 6 (.agg #[.int .i64 L.base, .slice ua0 L.nw uc0, .int .i64 L.want, .slice ua1 L.ng uc1, .slice ua2 L.nd uc2, .slice ua3 L.nu uc3]) rfl ?_
          refine tk0 7 (.int .i64 C) rfl ?_
          have := sF3a V2 uw ug ud uu ua0 uc0 ua1 uc1 ua2 uc2 ua3 uc3 bF (hM.step mV2 (fun _ _ h => h)) (mV2.box hBx (fun h => h)) (hRb) (LQ.lower hM.size) (fun g h => by have := (LQ.lt g h).1; omega)
          rw [hG] at this
          exact this
      have sF2n : ∀ (V : World) (uw : Nat) (ug : Nat) (ud : Nat) (uu : Nat), (Mv nob V20 V) → (La V (sln uw p.nw) (sln ug p.ng) (sln ud p.nd) (sln uu p.nu) p) → G 7 #[true, true, true, true, false, false, false, false, false, false, false] #[.agg #[.int .i64 p.base, .slice wa p.nw wc, .int .i64 p.want, .slice ga p.ng gc, .slice da p.nd dc, .slice ua p.nu uc], .agg #[.int .i64 k, .int .i64 z, .int .i64 bit, .string body], .pointer (some ⟨b0, 0, none⟩), .pointer (some ⟨b1, 0, none⟩), .bool false, .int .i64 r2, .pointer (some ⟨b2, 0, none⟩), .int .i64 C, .pointer (some ⟨b3, 0, none⟩), .pointer (some ⟨b4, 0, none⟩), .int .i64 C, .int .i64 (mkE p 1), .int .i64 (mkE L 1), .int .i64 (mkE L 1), undef, undef, .agg #[.int .i64 p.base, .slice wa p.nw wc, .int .i64 p.want, .slice ga p.ng gc, .slice da p.nd dc, .slice ua p.nu uc], .int .i64 1048576, .int .i64 r, .int .i64 r, .bool false, .agg #[.int .i64 k, .int .i64 z, .int .i64 bit, .string body], .int .i64 r, .int .i64 r2, .int .i64 r2, .bool false, .tuple #[.agg #[.int .i64 L.base, .slice xa0 L.nw xc0, .int .i64 L.want, .slice xa1 L.ng xc1, .slice xa2 L.nd xc2, .slice xa3 L.nu xc3], .int .i64 C], .agg #[.int .i64 p.base, .slice wa p.nw wc, .int .i64 p.want, .slice ga p.ng gc, .slice da p.nd dc, .slice ua p.nu uc], .agg #[.int .i64 p.base, sln xw p.nw, .int .i64 p.want, sln xg p.ng, sln xd p.nd, sln xu p.nu], .agg #[.int .i64 k, .int .i64 z, .int .i64 bit, .string body], .agg #[.int .i64 k, .int .i64 z, .int .i64 bit, .string body], .tuple #[.agg #[.int .i64 L.base, .slice xa0 L.nw xc0, .int .i64 L.want, .slice xa1 L.ng xc1, .slice xa2 L.nd xc2, .slice xa3 L.nu xc3], .int .i64 C], .agg #[.int .i64 L.base, .slice xa0 L.nw xc0, .int .i64 L.want, .slice xa1 L.ng xc1, .slice xa2 L.nd xc2, .slice xa3 L.nu xc3], .int .i64 C, .agg #[.int .i64 p.base, .slice wa p.nw wc, .int .i64 p.want, .slice ga p.ng gc, .slice da p.nd dc, .slice ua p.nu uc], .agg #[.int .i64 p.base, sln gw p.nw, .int .i64 p.want, sln gg p.ng, sln gd p.nd, sln gu p.nu], .tuple #[.agg #[.int .i64 L.base, .slice ya0 L.nw yc0, .int .i64 L.want, .slice ya1 L.ng yc1, .slice ya2 L.nd yc2, .slice ya3 L.nu yc3], .int .i64 C], .agg #[.int .i64 p.base, sln gw p.nw, .int .i64 p.want, sln gg p.ng, sln gd p.nd, sln gu p.nu], .agg #[.int .i64 k, .int .i64 z, .int .i64 bit, .string body], .agg #[.int .i64 k, .int .i64 z, .int .i64 bit, .string body], .tuple #[.agg #[.int .i64 L.base, .slice ya0 L.nw yc0, .int .i64 L.want, .slice ya1 L.ng yc1, .slice ya2 L.nd yc2, .slice ya3 L.nu yc3], .int .i64 C], .agg #[.int .i64 L.base, .slice ya0 L.nw yc0, .int .i64 L.want, .slice ya1 L.ng yc1, .slice ya2 L.nd yc2, .slice ya3 L.nu yc3], .int .i64 C, .agg #[.int .i64 L.base, .slice ya0 L.nw yc0, .int .i64 L.want, .slice ya1 L.ng yc1, .slice ya2 L.nd yc2, .slice ya3 L.nu yc3], .agg #[.int .i64 L.base, .slice xa0 L.nw xc0, .int .i64 L.want, .slice xa1 L.ng xc1, .slice xa2 L.nd xc2, .slice xa3 L.nu xc3], .bool true, .bool false, .bool false, .int .i64 C, .int .i64 C, .bool false, .bool false, .agg #[.int .i64 p.base, sln gw p.nw, .int .i64 p.want, sln gg p.ng, sln gd p.nd, sln gu p.nu], .agg #[.int .i64 p.base, .slice wa p.nw wc, .int .i64 p.want, .slice ga p.ng gc, .slice da p.nd dc, .slice ua p.nu uc], .agg #[.int .i64 p.base, sln tw p.nw, .int .i64 p.want, sln tg p.ng, sln td p.nd, sln tu p.nu], .bool true, .bool false, .agg #[.int .i64 p.base, sln gw p.nw, .int .i64 p.want, sln gg p.ng, sln gd p.nd, sln gu p.nu], .int .i64 1, .int .i64 (mkE p 1), .int .i64 (mkE p 1), .bool false, .bool false, .agg #[.int .i64 L.base, .slice ya0 L.nw yc0, .int .i64 L.want, .slice ya1 L.ng yc1, .slice ya2 L.nd yc2, .slice ya3 L.nu yc3], .agg #[.int .i64 L.base, .slice xa0 L.nw xc0, .int .i64 L.want, .slice xa1 L.ng xc1, .slice xa2 L.nd xc2, .slice xa3 L.nu xc3], .bool true, .bool false, .bool false, .bool false, .int .i64 C, .int .i64 C, .bool false, .bool false, .agg #[.int .i64 L.base, .slice ya0 L.nw yc0, .int .i64 L.want, .slice ya1 L.ng yc1, .slice ya2 L.nd yc2, .slice ya3 L.nu yc3], .int .i64 1, .int .i64 (mkE L 1), .agg #[.int .i64 L.base, .slice ya0 L.nw yc0, .int .i64 L.want, .slice ya1 L.ng yc1, .slice ya2 L.nd yc2, .slice ya3 L.nu yc3], .int .i64 1, .int .i64 (mkE L 1), .int .i64 (mkE L 1), .bool false, .int .i64 (mkE L 1), .int .i64 (mkE L 1), .bool false, undef, .agg #[.int .i64 p.base, .slice wa p.nw wc, .int .i64 p.want, .slice ga p.ng gc, .slice da p.nd dc, .slice ua p.nu uc], .agg #[.int .i64 p.base, sln uw p.nw, .int .i64 p.want, sln ug p.ng, sln ud p.nd, sln uu p.nu], .agg #[.int .i64 k, .int .i64 z, .int .i64 bit, .string body], .agg #[.int .i64 k, .int .i64 z, .int .i64 bit, .string body], undef, undef, undef, undef, undef, undef, undef, undef, undef, undef, undef, undef, undef, undef, undef, undef, undef, undef, undef, undef] V := by
        intro V uw ug ud uu hM LA1
        rw [hG]
        refine kd_each (l := [4, 8]) (by kernel_rfl) rfl ⟨?_, ?_, trivial⟩
        · refine ⟨_, rfl, by rfl, .inr ⟨_, _, _, by first | rfl | (go_simp; done), himpl V _ _ _ _ LA1 hsm, ?_⟩⟩
          rintro e V2 ⟨qa_, qb_, qc_, qd_, rfl, LQ, hbC⟩
          have mV2 : Mv (nob) V V2 := Mv.of_below hbC
          obtain ⟨ua0, uc0, rfl, _⟩ := LQ.wa.form
          obtain ⟨ua1, uc1, rfl, _⟩ := LQ.go.form
          obtain ⟨ua2, uc2, rfl, _⟩ := LQ.dn.form
          obtain ⟨ua3, uc3, rfl, _⟩ := LQ.up.form
          refine ⟨_, rfl, fun _ => hM.step mV2 (fun _ _ h => h), ?_⟩
          refine ptk ?_
          have hMx : Mv nob V20 V2 := hM.step mV2 (fun _ _ h => h)
          refine tk0 5 (.tuple #[.agg #[.int .i64 L.base, .slice ua0 L.nw uc0, .int .i64 L.want, .slice ua1 L.ng uc1, .slice ua2 L.nd uc2, .slice ua3 L.nu uc3], .int .i64 C]) rfl ?_
          refine tk0 6 (.agg #[.int .i64 L.base, .slice ua0 L.nw uc0, .int .i64 L.want, .slice ua1 L.ng uc1, .slice ua2 L.nd uc2, .slice ua3 L.nu uc3]) rfl ?_
          refine tk0 7 (.int .i64 C) rfl ?_
          have := sF3n V2 uw ug ud uu ua0 uc0 ua1 uc1 ua2 uc2 ua3 uc3 (hM.step mV2 (fun _ _ h => h)) (LQ.lower hM.size)
          rw [hG] at this
          exact this
        · refine ⟨_, rfl, by rfl, .inl ⟨.pointer (some ⟨V.heap.size, 0, none⟩), V.alloc (.cells #[.int .i64 0, .slice none 0 0, .int .i64 0, .slice none 0 0, .slice none 0 0, .slice none 0 0] 30), by first | rfl | go_simp, fun _ => hM.step (Mv.alloc _ _) (fun _ _ h => h), ?_⟩⟩
          refine ptk ?_
          have := sF2a _ uw ug ud uu V.heap.size (hM.step (Mv.alloc V (.cells #[.int .i64 0, .slice none 0 0, .int .i64 0, .slice none 0 0, .slice none 0 0, .slice none 0 0] 30)) (fun _ _ h => h)) (heap_alloc_new _ _) (hM.size) (LA1.below (Mv.alloc V (.cells #[.int .i64 0, .slice none 0 0, .int .i64 0, .slice none 0 0, .slice none 0 0, .slice none 0 0] 30)).below)
          rw [hG] at this
          exact this
      have sF1a : ∀ (V : World) (uw : Nat) (ug : Nat) (ud : Nat) (uu : Nat) (bF : Nat), (Mv nob V20 V) → (V.heap[bF]? = some (.cells #[.int .i64 0, .slice none 0 0, .int .i64 0, .slice none 0 0, .slice none 0 0, .slice none 0 0] 30 (0, 0))) → (V20.heap.size ≤ bF) → (La V (sln uw p.nw) (sln ug p.ng) (sln ud p.nd) (sln uu p.nu) p) → G 7 #[true, true, true, false, false, false, false, false, true, false, false] #[.agg #[.int .i64 p.base, .slice wa p.nw wc, .int .i64 p.want, .slice ga p.ng gc, .slice da p.nd dc, .slice ua p.nu uc], .agg #[.int .i64 k, .int .i64 z, .int .i64 bit, .string body], .pointer (some ⟨b0, 0, none⟩), .pointer (some ⟨b1, 0, none⟩), .bool false, .int .i64 r2, .pointer (some ⟨b2, 0, none⟩), .int .i64 C, .pointer (some ⟨b3, 0, none⟩), .pointer (some ⟨b4, 0, none⟩), .int .i64 C, .int .i64 (mkE p 1), .int .i64 (mkE L 1), .int .i64 (mkE L 1), .pointer (some ⟨bF, 0, none⟩), undef, .agg #[.int .i64 p.base, .slice wa p.nw wc, .int .i64 p.want, .slice ga p.ng gc, .slice da p.nd dc, .slice ua p.nu uc], .int .i64 1048576, .int .i64 r, .int .i64 r, .bool false, .agg #[.int .i64 k, .int .i64 z, .int .i64 bit, .string body], .int .i64 r, .int .i64 r2, .int .i64 r2, .bool false, .tuple #[.agg #[.int .i64 L.base, .slice xa0 L.nw xc0, .int .i64 L.want, .slice xa1 L.ng xc1, .slice xa2 L.nd xc2, .slice xa3 L.nu xc3], .int .i64 C], .agg #[.int .i64 p.base, .slice wa p.nw wc, .int .i64 p.want, .slice ga p.ng gc, .slice da p.nd dc, .slice ua p.nu uc], .agg #[.int .i64 p.base, sln xw p.nw, .int .i64 p.want, sln xg p.ng, sln xd p.nd, sln xu p.nu], .agg #[.int .i64 k, .int .i64 z, .int .i64 bit, .string body], .agg #[.int .i64 k, .int .i64 z, .int .i64 bit, .string body], .tuple #[.agg #[.int .i64 L.base, .slice xa0 L.nw xc0, .int .i64 L.want, .slice xa1 L.ng xc1, .slice xa2 L.nd xc2, .slice xa3 L.nu xc3], .int .i64 C], .agg #[.int .i64 L.base, .slice xa0 L.nw xc0, .int .i64 L.want, .slice xa1 L.ng xc1, .slice xa2 L.nd xc2, .slice xa3 L.nu xc3], .int .i64 C, .agg #[.int .i64 p.base, .slice wa p.nw wc, .int .i64 p.want, .slice ga p.ng gc, .slice da p.nd dc, .slice ua p.nu uc], .agg #[.int .i64 p.base, sln gw p.nw, .int .i64 p.want, sln gg p.ng, sln gd p.nd, sln gu p.nu], .tuple #[.agg #[.int .i64 L.base, .slice ya0 L.nw yc0, .int .i64 L.want, .slice ya1 L.ng yc1, .slice ya2 L.nd yc2, .slice ya3 L.nu yc3], .int .i64 C], .agg #[.int .i64 p.base, sln gw p.nw, .int .i64 p.want, sln gg p.ng, sln gd p.nd, sln gu p.nu], .agg #[.int .i64 k, .int .i64 z, .int .i64 bit, .string body], .agg #[.int .i64 k, .int .i64 z, .int .i64 bit, .string body], .tuple #[.agg #[.int .i64 L.base, .slice ya0 L.nw yc0, .int .i64 L.want, .slice ya1 L.ng yc1, .slice ya2 L.nd yc2, .slice ya3 L.nu yc3], .int .i64 C], .agg #[.int .i64 L.base, .slice ya0 L.nw yc0, .int .i64 L.want, .slice ya1 L.ng yc1, .slice ya2 L.nd yc2, .slice ya3 L.nu yc3], .int .i64 C, .agg #[.int .i64 L.base, .slice ya0 L.nw yc0, .int .i64 L.want, .slice ya1 L.ng yc1, .slice ya2 L.nd yc2, .slice ya3 L.nu yc3], .agg #[.int .i64 L.base, .slice xa0 L.nw xc0, .int .i64 L.want, .slice xa1 L.ng xc1, .slice xa2 L.nd xc2, .slice xa3 L.nu xc3], .bool true, .bool false, .bool false, .int .i64 C, .int .i64 C, .bool false, .bool false, .agg #[.int .i64 p.base, sln gw p.nw, .int .i64 p.want, sln gg p.ng, sln gd p.nd, sln gu p.nu], .agg #[.int .i64 p.base, .slice wa p.nw wc, .int .i64 p.want, .slice ga p.ng gc, .slice da p.nd dc, .slice ua p.nu uc], .agg #[.int .i64 p.base, sln tw p.nw, .int .i64 p.want, sln tg p.ng, sln td p.nd, sln tu p.nu], .bool true, .bool false, .agg #[.int .i64 p.base, sln gw p.nw, .int .i64 p.want, sln gg p.ng, sln gd p.nd, sln gu p.nu], .int .i64 1, .int .i64 (mkE p 1), .int .i64 (mkE p 1), .bool false, .bool false, .agg #[.int .i64 L.base, .slice ya0 L.nw yc0, .int .i64 L.want, .slice ya1 L.ng yc1, .slice ya2 L.nd yc2, .slice ya3 L.nu yc3], .agg #[.int .i64 L.base, .slice xa0 L.nw xc0, .int .i64 L.want, .slice xa1 L.ng xc1, .slice xa2 L.nd xc2, .slice xa3 L.nu xc3], .bool true, .bool false, .bool false, .bool false, .int .i64 C, .int .i64 C, .bool false, .bool false, .agg #[.int .i64 L.base, .slice ya0 L.nw yc0, .int .i64 L.want, .slice ya1 L.ng yc1, .slice ya2 L.nd yc2, .slice ya3 L.nu yc3], .int .i64 1, .int .i64 (mkE L 1), .agg #[.int .i64 L.base, .slice ya0 L.nw yc0, .int .i64 L.want, .slice ya1 L.ng yc1, .slice ya2 L.nd yc2, .slice ya3 L.nu yc3], .int .i64 1, .int .i64 (mkE L 1), .int .i64 (mkE L 1), .bool false, .int .i64 (mkE L 1), .int .i64 (mkE L 1), .bool false, undef, .agg #[.int .i64 p.base, .slice wa p.nw wc, .int .i64 p.want, .slice ga p.ng gc, .slice da p.nd dc, .slice ua p.nu uc], .agg #[.int .i64 p.base, sln uw p.nw, .int .i64 p.want, sln ug p.ng, sln ud p.nd, sln uu p.nu], .agg #[.int .i64 k, .int .i64 z, .int .i64 bit, .string body], undef, undef, undef, undef, undef, undef, undef, undef, undef, undef, undef, undef, undef, undef, undef, undef, undef, undef, undef, undef, undef] V := by
        intro V uw ug ud uu bF hM hBx hRb LA1
        rw [hG]
        refine kd_each (l := [3]) (by kernel_rfl) rfl ⟨?_, trivial⟩
        · refine ⟨_, rfl, by rfl, .inr ⟨_, _, _, by first | rfl | (go_simp; done), toLAct_any k z bit body V, ?_⟩⟩
          rintro e V2 ⟨rfl, hbC⟩
          have mV2 : Mv (nob) V V2 := Mv.of_below hbC
          have sb := lt_of_block hBx
          refine ⟨_, rfl, fun _ => hM.step mV2 (fun _ _ h => h), ?_⟩
          refine ptk ?_
          have := sF2a V2 uw ug ud uu bF (hM.step mV2 (fun _ _ h => h)) (mV2.box hBx (fun h => h)) (hRb) (LA1.below hbC)
          rw [hG] at this
          exact this
      have sF1n : ∀ (V : World) (uw : Nat) (ug : Nat) (ud : Nat) (uu : Nat), (Mv nob V20 V) → (La V (sln uw p.nw) (sln ug p.ng) (sln ud p.nd) (sln uu p.nu) p) → G 8 #[true, true, true, false, false, false, false, false, false, false, false] #[.agg #[.int .i64 p.base, .slice wa p.nw wc, .int .i64 p.want, .slice ga p.ng gc, .slice da p.nd dc, .slice ua p.nu uc], .agg #[.int .i64 k, .int .i64 z, .int .i64 bit, .string body], .pointer (some ⟨b0, 0, none⟩), .pointer (some ⟨b1, 0, none⟩), .bool false, .int .i64 r2, .pointer (some ⟨b2, 0, none⟩), .int .i64 C, .pointer (some ⟨b3, 0, none⟩), .pointer (some ⟨b4, 0, none⟩), .int .i64 C, .int .i64 (mkE p 1), .int .i64 (mkE L 1), .int .i64 (mkE L 1), undef, undef, .agg #[.int .i64 p.base, .slice wa p.nw wc, .int .i64 p.want, .slice ga p.ng gc, .slice da p.nd dc, .slice ua p.nu uc], .int .i64 1048576, .int .i64 r, .int .i64 r, .bool false, .agg #[.int .i64 k, .int .i64 z, .int .i64 bit, .string body], .int .i64 r, .int .i64 r2, .int .i64 r2, .bool false, .tuple #[.agg #[.int .i64 L.base, .slice xa0 L.nw xc0, .int .i64 L.want, .slice xa1 L.ng xc1, .slice xa2 L.nd xc2, .slice xa3 L.nu xc3], .int .i64 C], .agg #[.int .i64 p.base, .slice wa p.nw wc, .int .i64 p.want, .slice ga p.ng gc, .slice da p.nd dc, .slice ua p.nu uc], .agg #[.int .i64 p.base, sln xw p.nw, .int .i64 p.want, sln xg p.ng, sln xd p.nd, sln xu p.nu], .agg #[.int .i64 k, .int .i64 z, .int .i64 bit, .string body], .agg #[.int .i64 k, .int .i64 z, .int .i64 bit, .string body], .tuple #[.agg #[.int .i64 L.base, .slice xa0 L.nw xc0, .int .i64 L.want, .slice xa1 L.ng xc1, .slice xa2 L.nd xc2, .slice xa3 L.nu xc3], .int .i64 C], .agg #[.int .i64 L.base, .slice xa0 L.nw xc0, .int .i64 L.want, .slice xa1 L.ng xc1, .slice xa2 L.nd xc2, .slice xa3 L.nu xc3], .int .i64 C, .agg #[.int .i64 p.base, .slice wa p.nw wc, .int .i64 p.want, .slice ga p.ng gc, .slice da p.nd dc, .slice ua p.nu uc], .agg #[.int .i64 p.base, sln gw p.nw, .int .i64 p.want, sln gg p.ng, sln gd p.nd, sln gu p.nu], .tuple #[.agg #[.int .i64 L.base, .slice ya0 L.nw yc0, .int .i64 L.want, .slice ya1 L.ng yc1, .slice ya2 L.nd yc2, .slice ya3 L.nu yc3], .int .i64 C], .agg #[.int .i64 p.base, sln gw p.nw, .int .i64 p.want, sln gg p.ng, sln gd p.nd, sln gu p.nu], .agg #[.int .i64 k, .int .i64 z, .int .i64 bit, .string body], .agg #[.int .i64 k, .int .i64 z, .int .i64 bit, .string body], .tuple #[.agg #[.int .i64 L.base, .slice ya0 L.nw yc0, .int .i64 L.want, .slice ya1 L.ng yc1, .slice ya2 L.nd yc2, .slice ya3 L.nu yc3], .int .i64 C], .agg #[.int .i64 L.base, .slice ya0 L.nw yc0, .int .i64 L.want, .slice ya1 L.ng yc1, .slice ya2 L.nd yc2, .slice ya3 L.nu yc3], .int .i64 C, .agg #[.int .i64 L.base, .slice ya0 L.nw yc0, .int .i64 L.want, .slice ya1 L.ng yc1, .slice ya2 L.nd yc2, .slice ya3 L.nu yc3], .agg #[.int .i64 L.base, .slice xa0 L.nw xc0, .int .i64 L.want, .slice xa1 L.ng xc1, .slice xa2 L.nd xc2, .slice xa3 L.nu xc3], .bool true, .bool false, .bool false, .int .i64 C, .int .i64 C, .bool false, .bool false, .agg #[.int .i64 p.base, sln gw p.nw, .int .i64 p.want, sln gg p.ng, sln gd p.nd, sln gu p.nu], .agg #[.int .i64 p.base, .slice wa p.nw wc, .int .i64 p.want, .slice ga p.ng gc, .slice da p.nd dc, .slice ua p.nu uc], .agg #[.int .i64 p.base, sln tw p.nw, .int .i64 p.want, sln tg p.ng, sln td p.nd, sln tu p.nu], .bool true, .bool false, .agg #[.int .i64 p.base, sln gw p.nw, .int .i64 p.want, sln gg p.ng, sln gd p.nd, sln gu p.nu], .int .i64 1, .int .i64 (mkE p 1), .int .i64 (mkE p 1), .bool false, .bool false, .agg #[.int .i64 L.base, .slice ya0 L.nw yc0, .int .i64 L.want, .slice ya1 L.ng yc1, .slice ya2 L.nd yc2, .slice ya3 L.nu yc3], .agg #[.int .i64 L.base, .slice xa0 L.nw xc0, .int .i64 L.want, .slice xa1 L.ng xc1, .slice xa2 L.nd xc2, .slice xa3 L.nu xc3], .bool true, .bool false, .bool false, .bool false, .int .i64 C, .int .i64 C, .bool false, .bool false, .agg #[.int .i64 L.base, .slice ya0 L.nw yc0, .int .i64 L.want, .slice ya1 L.ng yc1, .slice ya2 L.nd yc2, .slice ya3 L.nu yc3], .int .i64 1, .int .i64 (mkE L 1), .agg #[.int .i64 L.base, .slice ya0 L.nw yc0, .int .i64 L.want, .slice ya1 L.ng yc1, .slice ya2 L.nd yc2, .slice ya3 L.nu yc3], .int .i64 1, .int .i64 (mkE L 1), .int .i64 (mkE L 1), .bool false, .int .i64 (mkE L 1), .int .i64 (mkE L 1), .bool false, undef, .agg #[.int .i64 p.base, .slice wa p.nw wc, .int .i64 p.want, .slice ga p.ng gc, .slice da p.nd dc, .slice ua p.nu uc], .agg #[.int .i64 p.base, sln uw p.nw, .int .i64 p.want, sln ug p.ng, sln ud p.nd, sln uu p.nu], .agg #[.int .i64 k, .int .i64 z, .int .i64 bit, .string body], undef, undef, undef, undef, undef, undef, undef, undef, undef, undef, undef, undef, undef, undef, undef, undef, undef, undef, undef, undef, undef] V := by
        intro V uw ug ud uu hM LA1
        rw [hG]
        refine kd_each (l := [3, 8]) (by kernel_rfl) rfl ⟨?_, ?_, trivial⟩
        · refine ⟨_, rfl, by rfl, .inr ⟨_, _, _, by first | rfl | (go_simp; done), toLAct_any k z bit body V, ?_⟩⟩
          rintro e V2 ⟨rfl, hbC⟩
          have mV2 : Mv (nob) V V2 := Mv.of_below hbC
          refine ⟨_, rfl, fun _ => hM.step mV2 (fun _ _ h => h), ?_⟩
          refine ptk ?_
          have := sF2n V2 uw ug ud uu (hM.step mV2 (fun _ _ h => h)) (LA1.below hbC)
          rw [hG] at this
          exact this
        · refine ⟨_, rfl, by rfl, .inl ⟨.pointer (some ⟨V.heap.size, 0, none⟩), V.alloc (.cells #[.int .i64 0, .slice none 0 0, .int .i64 0, .slice none 0 0, .slice none 0 0, .slice none 0 0] 30), by first | rfl | go_simp, fun _ => hM.step (Mv.alloc _ _) (fun _ _ h => h), ?_⟩⟩
          refine ptk ?_
          have := sF1a _ uw ug ud uu V.heap.size (hM.step (Mv.alloc V (.cells #[.int .i64 0, .slice none 0 0, .int .i64 0, .slice none 0 0, .slice none 0 0, .slice none 0 0] 30)) (fun _ _ h => h)) (heap_alloc_new _ _) (hM.size) (LA1.below (Mv.alloc V (.cells #[.int .i64 0, .slice none 0 0, .int .i64 0, .slice none 0 0, .slice none 0 0, .slice none 0 0] 30)).below)
          rw [hG] at this
          exact this
      have sF0a : ∀ (V : World) (bF : Nat), (Mv nob V20 V) → (V.heap[bF]? = some (.cells #[.int .i64 0, .slice none 0 0, .int .i64 0, .slice none 0 0, .slice none 0 0, .slice none 0 0] 30 (0, 0))) → (V20.heap.size ≤ bF) → G 8 #[true, false, true, false, false, false, false, false, true, false, false] #[.agg #[.int .i64 p.base, .slice wa p.nw wc, .int .i64 p.want, .slice ga p.ng gc, .slice da p.nd dc, .slice ua p.nu uc], .agg #[.int .i64 k, .int .i64 z, .int .i64 bit, .string body], .pointer (some ⟨b0, 0, none⟩), .pointer (some ⟨b1, 0, none⟩), .bool false, .int .i64 r2, .pointer (some ⟨b2, 0, none⟩), .int .i64 C, .pointer (some ⟨b3, 0, none⟩), .pointer (some ⟨b4, 0, none⟩), .int .i64 C, .int .i64 (mkE p 1), .int .i64 (mkE L 1), .int .i64 (mkE L 1), .pointer (some ⟨bF, 0, none⟩), undef, .agg #[.int .i64 p.base, .slice wa p.nw wc, .int .i64 p.want, .slice ga p.ng gc, .slice da p.nd dc, .slice ua p.nu uc], .int .i64 1048576, .int .i64 r, .int .i64 r, .bool false, .agg #[.int .i64 k, .int .i64 z, .int .i64 bit, .string body], .int .i64 r, .int .i64 r2, .int .i64 r2, .bool false, .tuple #[.agg #[.int .i64 L.base, .slice xa0 L.nw xc0, .int .i64 L.want, .slice xa1 L.ng xc1, .slice xa2 L.nd xc2, .slice xa3 L.nu xc3], .int .i64 C], .agg #[.int .i64 p.base, .slice wa p.nw wc, .int .i64 p.want, .slice ga p.ng gc, .slice da p.nd dc, .slice ua p.nu uc], .agg #[.int .i64 p.base, sln xw p.nw, .int .i64 p.want, sln xg p.ng, sln xd p.nd, sln xu p.nu], .agg #[.int .i64 k, .int .i64 z, .int .i64 bit, .string body], .agg #[.int .i64 k, .int .i64 z, .int .i64 bit, .string body], .tuple #[.agg #[.int .i64 L.base, .slice xa0 L.nw xc0, .int .i64 L.want, .slice xa1 L.ng xc1, .slice xa2 L.nd xc2, .slice xa3 L.nu xc3], .int .i64 C], .agg #[.int .i64 L.base, .slice xa0 L.nw xc0, .int .i64 L.want, .slice xa1 L.ng xc1, .slice xa2 L.nd xc2, .slice xa3 L.nu xc3], .int .i64 C, .agg #[.int .i64 p.base, .slice wa p.nw wc, .int .i64 p.want, .slice ga p.ng gc, .slice da p.nd dc, .slice ua p.nu uc], .agg #[.int .i64 p.base, sln gw p.nw, .int .i64 p.want, sln gg p.ng, sln gd p.nd, sln gu p.nu], .tuple #[.agg #[.int .i64 L.base, .slice ya0 L.nw yc0, .int .i64 L.want, .slice ya1 L.ng yc1, .slice ya2 L.nd yc2, .slice ya3 L.nu yc3], .int .i64 C], .agg #[.int .i64 p.base, sln gw p.nw, .int .i64 p.want, sln gg p.ng, sln gd p.nd, sln gu p.nu], .agg #[.int .i64 k, .int .i64 z, .int .i64 bit, .string body], .agg #[.int .i64 k, .int .i64 z, .int .i64 bit, .string body], .tuple #[.agg #[.int .i64 L.base, .slice ya0 L.nw yc0, .int .i64 L.want, .slice ya1 L.ng yc1, .slice ya2 L.nd yc2, .slice ya3 L.nu yc3], .int .i64 C], .agg #[.int .i64 L.base, .slice ya0 L.nw yc0, .int .i64 L.want, .slice ya1 L.ng yc1, .slice ya2 L.nd yc2, .slice ya3 L.nu yc3], .int .i64 C, .agg #[.int .i64 L.base, .slice ya0 L.nw yc0, .int .i64 L.want, .slice ya1 L.ng yc1, .slice ya2 L.nd yc2, .slice ya3 L.nu yc3], .agg #[.int .i64 L.base, .slice xa0 L.nw xc0, .int .i64 L.want, .slice xa1 L.ng xc1, .slice xa2 L.nd xc2, .slice xa3 L.nu xc3], .bool true, .bool false, .bool false, .int .i64 C, .int .i64 C, .bool false, .bool false, .agg #[.int .i64 p.base, sln gw p.nw, .int .i64 p.want, sln gg p.ng, sln gd p.nd, sln gu p.nu], .agg #[.int .i64 p.base, .slice wa p.nw wc, .int .i64 p.want, .slice ga p.ng gc, .slice da p.nd dc, .slice ua p.nu uc], .agg #[.int .i64 p.base, sln tw p.nw, .int .i64 p.want, sln tg p.ng, sln td p.nd, sln tu p.nu], .bool true, .bool false, .agg #[.int .i64 p.base, sln gw p.nw, .int .i64 p.want, sln gg p.ng, sln gd p.nd, sln gu p.nu], .int .i64 1, .int .i64 (mkE p 1), .int .i64 (mkE p 1), .bool false, .bool false, .agg #[.int .i64 L.base, .slice ya0 L.nw yc0, .int .i64 L.want, .slice ya1 L.ng yc1, .slice ya2 L.nd yc2, .slice ya3 L.nu yc3], .agg #[.int .i64 L.base, .slice xa0 L.nw xc0, .int .i64 L.want, .slice xa1 L.ng xc1, .slice xa2 L.nd xc2, .slice xa3 L.nu xc3], .bool true, .bool false, .bool false, .bool false, .int .i64 C, .int .i64 C, .bool false, .bool false, .agg #[.int .i64 L.base, .slice ya0 L.nw yc0, .int .i64 L.want, .slice ya1 L.ng yc1, .slice ya2 L.nd yc2, .slice ya3 L.nu yc3], .int .i64 1, .int .i64 (mkE L 1), .agg #[.int .i64 L.base, .slice ya0 L.nw yc0, .int .i64 L.want, .slice ya1 L.ng yc1, .slice ya2 L.nd yc2, .slice ya3 L.nu yc3], .int .i64 1, .int .i64 (mkE L 1), .int .i64 (mkE L 1), .bool false, .int .i64 (mkE L 1), .int .i64 (mkE L 1), .bool false, undef, .agg #[.int .i64 p.base, .slice wa p.nw wc, .int .i64 p.want, .slice ga p.ng gc, .slice da p.nd dc, .slice ua p.nu uc], undef, .agg #[.int .i64 k, .int .i64 z, .int .i64 bit, .string body], undef, undef, undef, undef, undef, undef, undef, undef, undef, undef, undef, undef, undef, undef, undef, undef, undef, undef, undef, undef, undef] V := by
        intro V bF hM hBx hRb
        rw [hG]
        refine kd_each (l := [1]) (by kernel_rfl) rfl ⟨?_, trivial⟩
        · refine ⟨_, rfl, by rfl, .inr ⟨_, _, _, by first | rfl | (go_simp; done), toLink_any _ _ _ _ p V (ha0.out.below (HB.out.step hM (fun _ _ h => h)).below) hsm, ?_⟩⟩
          rintro e V2 ⟨uw, ug, ud, uu, rfl, LO1, hbC⟩
          have mV2 : Mv (nob) V V2 := Mv.of_below hbC
          have sb := lt_of_block hBx
          refine ⟨_, rfl, fun _ => hM.step mV2 (fun _ _ h => h), ?_⟩
          refine ptk ?_
          have := sF1a V2 uw ug ud uu bF (hM.step mV2 (fun _ _ h => h)) (mV2.box hBx (fun h => h)) (hRb) (LO1.la)
          rw [hG] at this
          exact this
      have sF0n : ∀ (V : World), (Mv nob V20 V) → G 9 #[true, false, true, false, false, false, false, false, false, false, false] #[.agg #[.int .i64 p.base, .slice wa p.nw wc, .int .i64 p.want, .slice ga p.ng gc, .slice da p.nd dc, .slice ua p.nu uc], .agg #[.int .i64 k, .int .i64 z, .int .i64 bit, .string body], .pointer (some ⟨b0, 0, none⟩), .pointer (some ⟨b1, 0, none⟩), .bool false, .int .i64 r2, .pointer (some ⟨b2, 0, none⟩), .int .i64 C, .pointer (some ⟨b3, 0, none⟩), .pointer (some ⟨b4, 0, none⟩), .int .i64 C, .int .i64 (mkE p 1), .int .i64 (mkE L 1), .int .i64 (mkE L 1), undef, undef, .agg #[.int .i64 p.base, .slice wa p.nw wc, .int .i64 p.want, .slice ga p.ng gc, .slice da p.nd dc, .slice ua p.nu uc], .int .i64 1048576, .int .i64 r, .int .i64 r, .bool false, .agg #[.int .i64 k, .int .i64 z, .int .i64 bit, .string body], .int .i64 r, .int .i64 r2, .int .i64 r2, .bool false, .tuple #[.agg #[.int .i64 L.base, .slice xa0 L.nw xc0, .int .i64 L.want, .slice xa1 L.ng xc1, .slice xa2 L.nd xc2, .slice xa3 L.nu xc3], .int .i64 C], .agg #[.int .i64 p.base, .slice wa p.nw wc, .int .i64 p.want, .slice ga p.ng gc, .slice da p.nd dc, .slice ua p.nu uc], .agg #[.int .i64 p.base, sln xw p.nw, .int .i64 p.want, sln xg p.ng, sln xd p.nd, sln xu p.nu], .agg #[.int .i64 k, .int .i64 z, .int .i64 bit, .string body], .agg #[.int .i64 k, .int .i64 z, .int .i64 bit, .string body], .tuple #[.agg #[.int .i64 L.base, .slice xa0 L.nw xc0, .int .i64 L.want, .slice xa1 L.ng xc1, .slice xa2 L.nd xc2, .slice xa3 L.nu xc3], .int .i64 C], .agg #[.int .i64 L.base, .slice xa0 L.nw xc0, .int .i64 L.want, .slice xa1 L.ng xc1, .slice xa2 L.nd xc2, .slice xa3 L.nu xc3], .int .i64 C, .agg #[.int .i64 p.base, .slice wa p.nw wc, .int .i64 p.want, .slice ga p.ng gc, .slice da p.nd dc, .slice ua p.nu uc], .agg #[.int .i64 p.base, sln gw p.nw, .int .i64 p.want, sln gg p.ng, sln gd p.nd, sln gu p.nu], .tuple #[.agg #[.int .i64 L.base, .slice ya0 L.nw yc0, .int .i64 L.want, .slice ya1 L.ng yc1, .slice ya2 L.nd yc2, .slice ya3 L.nu yc3], .int .i64 C], .agg #[.int .i64 p.base, sln gw p.nw, .int .i64 p.want, sln gg p.ng, sln gd p.nd, sln gu p.nu], .agg #[.int .i64 k, .int .i64 z, .int .i64 bit, .string body], .agg #[.int .i64 k, .int .i64 z, .int .i64 bit, .string body], .tuple #[.agg #[.int .i64 L.base, .slice ya0 L.nw yc0, .int .i64 L.want, .slice ya1 L.ng yc1, .slice ya2 L.nd yc2, .slice ya3 L.nu yc3], .int .i64 C], .agg #[.int .i64 L.base, .slice ya0 L.nw yc0, .int .i64 L.want, .slice ya1 L.ng yc1, .slice ya2 L.nd yc2, .slice ya3 L.nu yc3], .int .i64 C, .agg #[.int .i64 L.base, .slice ya0 L.nw yc0, .int .i64 L.want, .slice ya1 L.ng yc1, .slice ya2 L.nd yc2, .slice ya3 L.nu yc3], .agg #[.int .i64 L.base, .slice xa0 L.nw xc0, .int .i64 L.want, .slice xa1 L.ng xc1, .slice xa2 L.nd xc2, .slice xa3 L.nu xc3], .bool true, .bool false, .bool false, .int .i64 C, .int .i64 C, .bool false, .bool false, .agg #[.int .i64 p.base, sln gw p.nw, .int .i64 p.want, sln gg p.ng, sln gd p.nd, sln gu p.nu], .agg #[.int .i64 p.base, .slice wa p.nw wc, .int .i64 p.want, .slice ga p.ng gc, .slice da p.nd dc, .slice ua p.nu uc], .agg #[.int .i64 p.base, sln tw p.nw, .int .i64 p.want, sln tg p.ng, sln td p.nd, sln tu p.nu], .bool true, .bool false, .agg #[.int .i64 p.base, sln gw p.nw, .int .i64 p.want, sln gg p.ng, sln gd p.nd, sln gu p.nu], .int .i64 1, .int .i64 (mkE p 1), .int .i64 (mkE p 1), .bool false, .bool false, .agg #[.int .i64 L.base, .slice ya0 L.nw yc0, .int .i64 L.want, .slice ya1 L.ng yc1, .slice ya2 L.nd yc2, .slice ya3 L.nu yc3], .agg #[.int .i64 L.base, .slice xa0 L.nw xc0, .int .i64 L.want, .slice xa1 L.ng xc1, .slice xa2 L.nd xc2, .slice xa3 L.nu xc3], .bool true, .bool false, .bool false, .bool false, .int .i64 C, .int .i64 C, .bool false, .bool false, .agg #[.int .i64 L.base, .slice ya0 L.nw yc0, .int .i64 L.want, .slice ya1 L.ng yc1, .slice ya2 L.nd yc2, .slice ya3 L.nu yc3], .int .i64 1, .int .i64 (mkE L 1), .agg #[.int .i64 L.base, .slice ya0 L.nw yc0, .int .i64 L.want, .slice ya1 L.ng yc1, .slice ya2 L.nd yc2, .slice ya3 L.nu yc3], .int .i64 1, .int .i64 (mkE L 1), .int .i64 (mkE L 1), .bool false, .int .i64 (mkE L 1), .int .i64 (mkE L 1), .bool false, undef, .agg #[.int .i64 p.base, .slice wa p.nw wc, .int .i64 p.want, .slice ga p.ng gc, .slice da p.nd dc, .slice ua p.nu uc], undef, .agg #[.int .i64 k, .int .i64 z, .int .i64 bit, .string body], undef, undef, undef, undef, undef, undef, undef, undef, undef, undef, undef, undef, undef, undef, undef, undef, undef, undef, undef, undef, undef] V := by
        intro V hM
        rw [hG]
        refine kd_each (l := [1, 8]) (by kernel_rfl) rfl ⟨?_, ?_, trivial⟩
        · refine ⟨_, rfl, by rfl, .inr ⟨_, _, _, by first | rfl | (go_simp; done), toLink_any _ _ _ _ p V (ha0.out.below (HB.out.step hM (fun _ _ h => h)).below) hsm, ?_⟩⟩
          rintro e V2 ⟨uw, ug, ud, uu, rfl, LO1, hbC⟩
          have mV2 : Mv (nob) V V2 := Mv.of_below hbC
          refine ⟨_, rfl, fun _ => hM.step mV2 (fun _ _ h => h), ?_⟩
          refine ptk ?_
          have := sF1n V2 uw ug ud uu (hM.step mV2 (fun _ _ h => h)) (LO1.la)
          rw [hG] at this
          exact this
        · refine ⟨_, rfl, by rfl, .inl ⟨.pointer (some ⟨V.heap.size, 0, none⟩), V.alloc (.cells #[.int .i64 0, .slice none 0 0, .int .i64 0, .slice none 0 0, .slice none 0 0, .slice none 0 0] 30), by first | rfl | go_simp, fun _ => hM.step (Mv.alloc _ _) (fun _ _ h => h), ?_⟩⟩
          refine ptk ?_
          have := sF0a _ V.heap.size (hM.step (Mv.alloc V (.cells #[.int .i64 0, .slice none 0 0, .int .i64 0, .slice none 0 0, .slice none 0 0, .slice none 0 0] 30)) (fun _ _ h => h)) (heap_alloc_new _ _) (hM.size)
          rw [hG] at this
          exact this
      exact sF0n _ (hS)
    have sF2n : ∀ (V : World) (ya0 : Option Addr) (yc0 : Nat) (ya1 : Option Addr) (yc1 : Nat) (ya2 : Option Addr) (yc2 : Nat) (ya3 : Option Addr) (yc3 : Nat), (Mv nob V10 V) → (Lr V V10.heap.size (.slice ya0 L.nw yc0) (.slice ya1 L.ng yc1) (.slice ya2 L.nd yc2) (.slice ya3 L.nu yc3) L) → G 3 #[true, true, true, true, true, true, true, false, false, false] #[.agg #[.int .i64 p.base, .slice wa p.nw wc, .int .i64 p.want, .slice ga p.ng gc, .slice da p.nd dc, .slice ua p.nu uc], .agg #[.int .i64 k, .int .i64 z, .int .i64 bit, .string body], .pointer (some ⟨b0, 0, none⟩), .pointer (some ⟨b1, 0, none⟩), .bool false, .int .i64 r2, .pointer (some ⟨b2, 0, none⟩), .int .i64 C, .pointer (some ⟨b3, 0, none⟩), undef, undef, undef, undef, undef, undef, undef, .agg #[.int .i64 p.base, .slice wa p.nw wc, .int .i64 p.want, .slice ga p.ng gc, .slice da p.nd dc, .slice ua p.nu uc], .int .i64 1048576, .int .i64 r, .int .i64 r, .bool false, .agg #[.int .i64 k, .int .i64 z, .int .i64 bit, .string body], .int .i64 r, .int .i64 r2, .int .i64 r2, .bool false, .tuple #[.agg #[.int .i64 L.base, .slice xa0 L.nw xc0, .int .i64 L.want, .slice xa1 L.ng xc1, .slice xa2 L.nd xc2, .slice xa3 L.nu xc3], .int .i64 C], .agg #[.int .i64 p.base, .slice wa p.nw wc, .int .i64 p.want, .slice ga p.ng gc, .slice da p.nd dc, .slice ua p.nu uc], .agg #[.int .i64 p.base, sln xw p.nw, .int .i64 p.want, sln xg p.ng, sln xd p.nd, sln xu p.nu], .agg #[.int .i64 k, .int .i64 z, .int .i64 bit, .string body], .agg #[.int .i64 k, .int .i64 z, .int .i64 bit, .string body], .tuple #[.agg #[.int .i64 L.base, .slice xa0 L.nw xc0, .int .i64 L.want, .slice xa1 L.ng xc1, .slice xa2 L.nd xc2, .slice xa3 L.nu xc3], .int .i64 C], .agg #[.int .i64 L.base, .slice xa0 L.nw xc0, .int .i64 L.want, .slice xa1 L.ng xc1, .slice xa2 L.nd xc2, .slice xa3 L.nu xc3], .int .i64 C, .agg #[.int .i64 p.base, .slice wa p.nw wc, .int .i64 p.want, .slice ga p.ng gc, .slice da p.nd dc, .slice ua p.nu uc], .agg #[.int .i64 p.base, sln gw p.nw, .int .i64 p.want, sln gg p.ng, sln gd p.nd, sln gu p.nu], .tuple #[.agg #[.int .i64 L.base, .slice ya0 L.nw yc0, .int .i64 L.want, .slice ya1 L.ng yc1, .slice ya2 L.nd yc2, .slice ya3 L.nu yc3], .int .i64 C], .agg #[.int .i64 p.base, sln gw p.nw, .int .i64 p.want, sln gg p.ng, sln gd p.nd, sln gu p.nu], .agg #[.int .i64 k, .int .i64 z, .int .i64 bit, .string body], .agg #[.int .i64 k, .int .i64 z, .int .i64 bit, .string body], .tuple #[.agg #[.int .i64 L.base, .slice ya0 L.nw yc0, .int .i64 L.want, .slice ya1 L.ng yc1, .slice ya2 L.nd yc2, .slice ya3 L.nu yc3], .int .i64 C], .agg #[.int .i64 L.base, .slice ya0 L.nw yc0, .int .i64 L.want, .slice ya1 L.ng yc1, .slice ya2 L.nd yc2, .slice ya3 L.nu yc3], .int .i64 C, undef, undef, undef, undef, undef, undef, undef, undef, undef, undef, undef, undef, undef, undef, undef, undef, undef, undef, undef, undef, undef, undef, undef, undef, undef, undef, undef, undef, undef, undef, undef, undef, undef, undef, undef, undef, undef, undef, undef, undef, undef, undef, undef, undef, undef, undef, undef, undef, undef, undef, undef, undef, undef, undef, undef, undef, undef, undef, undef, undef, undef, undef, undef, undef, undef, undef] V := by
      intro V ya0 yc0 ya1 yc1 ya2 yc2 ya3 yc3 hM LQ
      rw [hG]
      refine kd_each (l := [7]) (by kernel_rfl) rfl ⟨?_, trivial⟩
      · refine ⟨_, rfl, by rfl, .inl ⟨.pointer (some ⟨V.heap.size, 0, none⟩), V.alloc (.cells #[.int .i64 0, .slice none 0 0, .int .i64 0, .slice none 0 0, .slice none 0 0, .slice none 0 0] 30), by first | rfl | go_simp, fun _ => hM.step (Mv.alloc _ _) (fun _ _ h => h), ?_⟩⟩
        refine ptk ?_
        have := sF2a _ ya0 yc0 ya1 yc1 ya2 yc2 ya3 yc3 V.heap.size (hM.step (Mv.alloc V (.cells #[.int .i64 0, .slice none 0 0, .int .i64 0, .slice none 0 0, .slice none 0 0, .slice none 0 0] 30)) (fun _ _ h => h)) (heap_alloc_new _ _) (hM.size) (LQ.mv (Mv.alloc V (.cells #[.int .i64 0, .slice none 0 0, .int .i64 0, .slice none 0 0, .slice none 0 0, .slice none 0 0] 30)) (fun _ _ h => h)) (fun g h => by have := (LQ.lt g h).2; omega)
        rw [hG] at this
        exact this
    have sF1a : ∀ (V : World) (bF : Nat), (Mv nob V10 V) → (V.heap[bF]? = some (.cells #[.int .i64 0, .slice none 0 0, .int .i64 0, .slice none 0 0, .slice none 0 0, .slice none 0 0] 30 (0, 0))) → (V10.heap.size ≤ bF) → G 6 #[true, true, true, false, false, false, false, true, false, false] #[.agg #[.int .i64 p.base, .slice wa p.nw wc, .int .i64 p.want, .slice ga p.ng gc, .slice da p.nd dc, .slice ua p.nu uc], .agg #[.int .i64 k, .int .i64 z, .int .i64 bit, .string body], .pointer (some ⟨b0, 0, none⟩), .pointer (some ⟨b1, 0, none⟩), .bool false, .int .i64 r2, .pointer (some ⟨b2, 0, none⟩), .int .i64 C, .pointer (some ⟨b3, 0, none⟩), .pointer (some ⟨bF, 0, none⟩), undef, undef, undef, undef, undef, undef, .agg #[.int .i64 p.base, .slice wa p.nw wc, .int .i64 p.want, .slice ga p.ng gc, .slice da p.nd dc, .slice ua p.nu uc], .int .i64 1048576, .int .i64 r, .int .i64 r, .bool false, .agg #[.int .i64 k, .int .i64 z, .int .i64 bit, .string body], .int .i64 r, .int .i64 r2, .int .i64 r2, .bool false, .tuple #[.agg #[.int .i64 L.base, .slice xa0 L.nw xc0, .int .i64 L.want, .slice xa1 L.ng xc1, .slice xa2 L.nd xc2, .slice xa3 L.nu xc3], .int .i64 C], .agg #[.int .i64 p.base, .slice wa p.nw wc, .int .i64 p.want, .slice ga p.ng gc, .slice da p.nd dc, .slice ua p.nu uc], .agg #[.int .i64 p.base, sln xw p.nw, .int .i64 p.want, sln xg p.ng, sln xd p.nd, sln xu p.nu], .agg #[.int .i64 k, .int .i64 z, .int .i64 bit, .string body], .agg #[.int .i64 k, .int .i64 z, .int .i64 bit, .string body], .tuple #[.agg #[.int .i64 L.base, .slice xa0 L.nw xc0, .int .i64 L.want, .slice xa1 L.ng xc1, .slice xa2 L.nd xc2, .slice xa3 L.nu xc3], .int .i64 C], .agg #[.int .i64 L.base, .slice xa0 L.nw xc0, .int .i64 L.want, .slice xa1 L.ng xc1, .slice xa2 L.nd xc2, .slice xa3 L.nu xc3], .int .i64 C, .agg #[.int .i64 p.base, .slice wa p.nw wc, .int .i64 p.want, .slice ga p.ng gc, .slice da p.nd dc, .slice ua p.nu uc], .agg #[.int .i64 p.base, sln gw p.nw, .int .i64 p.want, sln gg p.ng, sln gd p.nd, sln gu p.nu], undef, .agg #[.int .i64 p.base, sln gw p.nw, .int .i64 p.want, sln gg p.ng, sln gd p.nd, sln gu p.nu], .agg #[.int .i64 k, .int .i64 z, .int .i64 bit, .string body], .agg #[.int .i64 k, .int .i64 z, .int .i64 bit, .string body], undef, undef, undef, undef, undef, undef, undef, undef, undef, undef, undef, undef, undef, undef, undef, undef, undef, undef, undef, undef, undef, undef, undef, undef, undef, undef, undef, undef, undef, undef, undef, undef, undef, undef, undef, undef, undef, undef, undef, undef, undef, undef, undef, undef, undef, undef, undef, undef, undef, undef, undef, undef, undef, undef, undef, undef, undef, undef, undef, undef, undef, undef, undef, undef, undef, undef, undef, undef, undef] V := by
      intro V bF hM hBx hRb
      rw [hG]
      refine kd_each (l := [3]) (by kernel_rfl) rfl ⟨?_, trivial⟩
      · refine ⟨_, rfl, by rfl, .inr ⟨_, _, _, by first | rfl | (go_simp; done), himpl V _ _ _ _ (LX.out.below (HB9.out.step hM (fun _ _ h => h)).below).la hsm, ?_⟩⟩
        rintro e V2 ⟨qa_, qb_, qc_, qd_, rfl, LQ, hbC⟩
        have mV2 : Mv (nob) V V2 := Mv.of_below hbC
        have sb := lt_of_block hBx
        obtain ⟨ya0, yc0, rfl, _⟩ := LQ.wa.form
        obtain ⟨ya1, yc1, rfl, _⟩ := LQ.go.form
        obtain ⟨ya2, yc2, rfl, _⟩ := LQ.dn.form
        obtain ⟨ya3, yc3, rfl, _⟩ := LQ.up.form
        refine ⟨_, rfl, fun _ => hM.step mV2 (fun _ _ h => h), ?_⟩
        refine ptk ?_
        have hMx : Mv nob V10 V2 := hM.step mV2 (fun _ _ h => h)
        refine tk0 4 (.tuple #[.agg #[.int .i64 L.base, .slice ya0 L.nw yc0, .int .i64 L.want, .slice ya1 L.ng yc1, .slice ya2 L.nd yc2, .slice ya3 L.nu yc3], .int .i64 C]) rfl ?_
        refine tk0 5 (.agg #[.int .i64 L.base, .slice ya0 L.nw yc0, .int .i64 L.want, .slice ya1 L.ng yc1, .slice ya2 L.nd yc2, .slice ya3 L.nu yc3]) rfl ?_
        refine tk0 6 (.int .i64 C) rfl ?_
        have := sF2a V2 ya0 yc0 ya1 yc1 ya2 yc2 ya3 yc3 bF (hM.step mV2 (fun _ _ h => h)) (mV2.box hBx (fun h => h)) (hRb) (LQ.lower hM.size) (fun g h => by have := (LQ.lt g h).1; omega)
        rw [hG] at this
        exact this
    have sF1n : ∀ (V : World), (Mv nob V10 V) → G 7 #[true, true, true, false, false, false, false, false, false, false] #[.agg #[.int .i64 p.base, .slice wa p.nw wc, .int .i64 p.want, .slice ga p.ng gc, .slice da p.nd dc, .slice ua p.nu uc], .agg #[.int .i64 k, .int .i64 z, .int .i64 bit, .string body], .pointer (some ⟨b0, 0, none⟩), .pointer (some ⟨b1, 0, none⟩), .bool false, .int .i64 r2, .pointer (some ⟨b2, 0, none⟩), .int .i64 C, .pointer (some ⟨b3, 0, none⟩), undef, undef, undef, undef, undef, undef, undef, .agg #[.int .i64 p.base, .slice wa p.nw wc, .int .i64 p.want, .slice ga p.ng gc, .slice da p.nd dc, .slice ua p.nu uc], .int .i64 1048576, .int .i64 r, .int .i64 r, .bool false, .agg #[.int .i64 k, .int .i64 z, .int .i64 bit, .string body], .int .i64 r, .int .i64 r2, .int .i64 r2, .bool false, .tuple #[.agg #[.int .i64 L.base, .slice xa0 L.nw xc0, .int .i64 L.want, .slice xa1 L.ng xc1, .slice xa2 L.nd xc2, .slice xa3 L.nu xc3], .int .i64 C], .agg #[.int .i64 p.base, .slice wa p.nw wc, .int .i64 p.want, .slice ga p.ng gc, .slice da p.nd dc, .slice ua p.nu uc], .agg #[.int .i64 p.base, sln xw p.nw, .int .i64 p.want, sln xg p.ng, sln xd p.nd, sln xu p.nu], .agg #[.int .i64 k, .int .i64 z, .int .i64 bit, .string body], .agg #[.int .i64 k, .int .i64 z, .int .i64 bit, .string body], .tuple #[.agg #[.int .i64 L.base, .slice xa0 L.nw xc0, .int .i64 L.want, .slice xa1 L.ng xc1, .slice xa2 L.nd xc2, .slice xa3 L.nu xc3], .int .i64 C], .agg #[.int .i64 L.base, .slice xa0 L.nw xc0, .int .i64 L.want, .slice xa1 L.ng xc1, .slice xa2 L.nd xc2, .slice xa3 L.nu xc3], .int .i64 C, .agg #[.int .i64 p.base, .slice wa p.nw wc, .int .i64 p.want, .slice ga p.ng gc, .slice da p.nd dc, .slice ua p.nu uc], .agg #[.int .i64 p.base, sln gw p.nw, .int .i64 p.want, sln gg p.ng, sln gd p.nd, sln gu p.nu], undef, .agg #[.int .i64 p.base, sln gw p.nw, .int .i64 p.want, sln gg p.ng, sln gd p.nd, sln gu p.nu], .agg #[.int .i64 k, .int .i64 z, .int .i64 bit, .string body], .agg #[.int .i64 k, .int .i64 z, .int .i64 bit, .string body], undef, undef, undef, undef, undef, undef, undef, undef, undef, undef, undef, undef, undef, undef, undef, undef, undef, undef, undef, undef, undef, undef, undef, undef, undef, undef, undef, undef, undef, undef, undef, undef, undef, undef, undef, undef, undef, undef, undef, undef, undef, undef, undef, undef, undef, undef, undef, undef, undef, undef, undef, undef, undef, undef, undef, undef, undef, undef, undef, undef, undef, undef, undef, undef, undef, undef, undef, undef, undef] V := by
      intro V hM
      rw [hG]
      refine kd_each (l := [3, 7]) (by kernel_rfl) rfl ⟨?_, ?_, trivial⟩
      · refine ⟨_, rfl, by rfl, .inr ⟨_, _, _, by first | rfl | (go_simp; done), himpl V _ _ _ _ (LX.out.below (HB9.out.step hM (fun _ _ h => h)).below).la hsm, ?_⟩⟩
        rintro e V2 ⟨qa_, qb_, qc_, qd_, rfl, LQ, hbC⟩
        have mV2 : Mv (nob) V V2 := Mv.of_below hbC
        obtain ⟨ya0, yc0, rfl, _⟩ := LQ.wa.form
        obtain ⟨ya1, yc1, rfl, _⟩ := LQ.go.form
        obtain ⟨ya2, yc2, rfl, _⟩ := LQ.dn.form
        obtain ⟨ya3, yc3, rfl, _⟩ := LQ.up.form
        refine ⟨_, rfl, fun _ => hM.step mV2 (fun _ _ h => h), ?_⟩
        refine ptk ?_
        have hMx : Mv nob V10 V2 := hM.step mV2 (fun _ _ h => h)
        refine tk0 4 (.tuple #[.agg #[.int .i64 L.base, .slice ya0 L.nw yc0, .int .i64 L.want, .slice ya1 L.ng yc1, .slice ya2 L.nd yc2, .slice ya3 L.nu yc3], .int .i64 C]) rfl ?_
        refine tk0 5 (.agg #[.int .i64 L.base, .slice ya0 L.nw yc0, .int .i64 L.want, .slice ya1 L.ng yc1, .slice ya2 L.nd yc2, .slice ya3 L.nu yc3]) rfl ?_
        refine tk0 6 (.int .i64 C) rfl ?_
        have := sF2n V2 ya0 yc0 ya1 yc1 ya2 yc2 ya3 yc3 (hM.step mV2 (fun _ _ h => h)) (LQ.lower hM.size)
        rw [hG] at this
        exact this
      · refine ⟨_, rfl, by rfl, .inl ⟨.pointer (some ⟨V.heap.size, 0, none⟩), V.alloc (.cells #[.int .i64 0, .slice none 0 0, .int .i64 0, .slice none 0 0, .slice none 0 0, .slice none 0 0] 30), by first | rfl | go_simp, fun _ => hM.step (Mv.alloc _ _) (fun _ _ h => h), ?_⟩⟩
        refine ptk ?_
        have := sF1a _ V.heap.size (hM.step (Mv.alloc V (.cells #[.int .i64 0, .slice none 0 0, .int .i64 0, .slice none 0 0, .slice none 0 0, .slice none 0 0] 30)) (fun _ _ h => h)) (heap_alloc_new _ _) (hM.size)
        rw [hG] at this
        exact this
    have sF0a : ∀ (V : World) (bF : Nat), (Mv nob V10 V) → (V.heap[bF]? = some (.cells #[.int .i64 0, .slice none 0 0, .int .i64 0, .slice none 0 0, .slice none 0 0, .slice none 0 0] 30 (0, 0))) → (V10.heap.size ≤ bF) → G 7 #[true, true, false, false, false, false, false, true, false, false] #[.agg #[.int .i64 p.base, .slice wa p.nw wc, .int .i64 p.want, .slice ga p.ng gc, .slice da p.nd dc, .slice ua p.nu uc], .agg #[.int .i64 k, .int .i64 z, .int .i64 bit, .string body], .pointer (some ⟨b0, 0, none⟩), .pointer (some ⟨b1, 0, none⟩), .bool false, .int .i64 r2, .pointer (some ⟨b2, 0, none⟩), .int .i64 C, .pointer (some ⟨b3, 0, none⟩), .pointer (some ⟨bF, 0, none⟩), undef, undef, undef, undef, undef, undef, .agg #[.int .i64 p.base, .slice wa p.nw wc, .int .i64 p.want, .slice ga p.ng gc, .slice da p.nd dc, .slice ua p.nu uc], .int .i64 1048576, .int .i64 r, .int .i64 r, .bool false, .agg #[.int .i64 k, .int .i64 z, .int .i64 bit, .string body], .int .i64 r, .int .i64 r2, .int .i64 r2, .bool false, .tuple #[.agg #[.int .i64 L.base, .slice xa0 L.nw xc0, .int .i64 L.want, .slice xa1 L.ng xc1, .slice xa2 L.nd xc2, .slice xa3 L.nu xc3], .int .i64 C], .agg #[.int .i64 p.base, .slice wa p.nw wc, .int .i64 p.want, .slice ga p.ng gc, .slice da p.nd dc, .slice ua p.nu uc], .agg #[.int .i64 p.base, sln xw p.nw, .int .i64 p.want, sln xg p.ng, sln xd p.nd, sln xu p.nu], .agg #[.int .i64 k, .int .i64 z, .int .i64 bit, .string body], .agg #[.int .i64 k, .int .i64 z, .int .i64 bit, .string body], .tuple #[.agg #[.int .i64 L.base, .slice xa0 L.nw xc0, .int .i64 L.want, .slice xa1 L.ng xc1, .slice xa2 L.nd xc2, .slice xa3 L.nu xc3], .int .i64 C], .agg #[.int .i64 L.base, .slice xa0 L.nw xc0, .int .i64 L.want, .slice xa1 L.ng xc1, .slice xa2 L.nd xc2, .slice xa3 L.nu xc3], .int .i64 C, .agg #[.int .i64 p.base, .slice wa p.nw wc, .int .i64 p.want, .slice ga p.ng gc, .slice da p.nd dc, .slice ua p.nu uc], .agg #[.int .i64 p.base, sln gw p.nw, .int .i64 p.want, sln gg p.ng, sln gd p.nd, sln gu p.nu], undef, .agg #[.int .i64 p.base, sln gw p.nw, .int .i64 p.want, sln gg p.ng, sln gd p.nd, sln gu p.nu], .agg #[.int .i64 k, .int .i64 z, .int .i64 bit, .string body], undef, undef, undef, undef, undef, undef, undef, undef, undef, undef, undef, undef, undef, undef, undef, undef, undef, undef, undef, undef, undef, undef, undef, undef, undef, undef, undef, undef, undef, undef, undef, undef, undef, undef, undef, undef, undef, undef, undef, undef, undef, undef, undef, undef, undef, undef, undef, undef, undef, undef, undef, undef, undef, undef, undef, undef, undef, undef, undef, undef, undef, undef, undef, undef, undef, undef, undef, undef, undef, undef] V := by
      intro V bF hM hBx hRb
      rw [hG]
      refine kd_each (l := [2]) (by kernel_rfl) rfl ⟨?_, trivial⟩
      · refine ⟨_, rfl, by rfl, .inr ⟨_, _, _, by first | rfl | (go_simp; done), toLAct_any k z bit body V, ?_⟩⟩
        rintro e V2 ⟨rfl, hbC⟩
        have mV2 : Mv (nob) V V2 := Mv.of_below hbC
        have sb := lt_of_block hBx
        refine ⟨_, rfl, fun _ => hM.step mV2 (fun _ _ h => h), ?_⟩
        refine ptk ?_
        have := sF1a V2 bF (hM.step mV2 (fun _ _ h => h)) (mV2.box hBx (fun h => h)) (hRb)
        rw [hG] at this
        exact this
    have sF0n : ∀ (V : World), (Mv nob V10 V) → G 8 #[true, true, false, false, false, false, false, false, false, false] #[.agg #[.int .i64 p.base, .slice wa p.nw wc, .int .i64 p.want, .slice ga p.ng gc, .slice da p.nd dc, .slice ua p.nu uc], .agg #[.int .i64 k, .int .i64 z, .int .i64 bit, .string body], .pointer (some ⟨b0, 0, none⟩), .pointer (some ⟨b1, 0, none⟩), .bool false, .int .i64 r2, .pointer (some ⟨b2, 0, none⟩), .int .i64 C, .pointer (some ⟨b3, 0, none⟩), undef, undef, undef, undef, undef, undef, undef, .agg #[.int .i64 p.base, .slice wa p.nw wc, .int .i64 p.want, .slice ga p.ng gc, .slice da p.nd dc, .slice ua p.nu uc], .int .i64 1048576, .int .i64 r, .int .i64 r, .bool false, .agg #[.int .i64 k, .int .i64 z, .int .i64 bit, .string body], .int .i64 r, .int .i64 r2, .int .i64 r2, .bool false, .tuple #[.agg #[.int .i64 L.base, .slice xa0 L.nw xc0, .int .i64 L.want, .slice xa1 L.ng xc1, .slice xa2 L.nd xc2, .slice xa3 L.nu xc3], .int .i64 C], .agg #[.int .i64 p.base, .slice wa p.nw wc, .int .i64 p.want, .slice ga p.ng gc, .slice da p.nd dc, .slice ua p.nu uc], .agg #[.int .i64 p.base, sln xw p.nw, .int .i64 p.want, sln xg p.ng, sln xd p.nd, sln xu p.nu], .agg #[.int .i64 k, .int .i64 z, .int .i64 bit, .string body], .agg #[.int .i64 k, .int .i64 z, .int .i64 bit, .string body], .tuple #[.agg #[.int .i64 L.base, .slice xa0 L.nw xc0, .int .i64 L.want, .slice xa1 L.ng xc1, .slice xa2 L.nd xc2, .slice xa3 L.nu xc3], .int .i64 C], .agg #[.int .i64 L.base, .slice xa0 L.nw xc0, .int .i64 L.want, .slice xa1 L.ng xc1, .slice xa2 L.nd xc2, .slice xa3 L.nu xc3], .int .i64 C, .agg #[.int .i64 p.base, .slice wa p.nw wc, .int .i64 p.want, .slice ga p.ng gc, .slice da p.nd dc, .slice ua p.nu uc], .agg #[.int .i64 p.base, sln gw p.nw, .int .i64 p.want, sln gg p.ng, sln gd p.nd, sln gu p.nu], undef, .agg #[.int .i64 p.base, sln gw p.nw, .int .i64 p.want, sln gg p.ng, sln gd p.nd, sln gu p.nu], .agg #[.int .i64 k, .int .i64 z, .int .i64 bit, .string body], undef, undef, undef, undef, undef, undef, undef, undef, undef, undef, undef, undef, undef, undef, undef, undef, undef, undef, undef, undef, undef, undef, undef, undef, undef, undef, undef, undef, undef, undef, undef, undef, undef, undef, undef, undef, undef, undef, undef, undef, undef, undef, undef, undef, undef, undef, undef, undef, undef, undef, undef, undef, undef, undef, undef, undef, undef, undef, undef, undef, undef, undef, undef, undef, undef, undef, undef, undef, undef, undef] V := by
      intro V hM
      rw [hG]
      refine kd_each (l := [2, 7]) (by kernel_rfl) rfl ⟨?_, ?_, trivial⟩
      · refine ⟨_, rfl, by rfl, .inr ⟨_, _, _, by first | rfl | (go_simp; done), toLAct_any k z bit body V, ?_⟩⟩
        rintro e V2 ⟨rfl, hbC⟩
        have mV2 : Mv (nob) V V2 := Mv.of_below hbC
        refine ⟨_, rfl, fun _ => hM.step mV2 (fun _ _ h => h), ?_⟩
        refine ptk ?_
        have := sF1n V2 (hM.step mV2 (fun _ _ h => h))
        rw [hG] at this
        exact this
      · refine ⟨_, rfl, by rfl, .inl ⟨.pointer (some ⟨V.heap.size, 0, none⟩), V.alloc (.cells #[.int .i64 0, .slice none 0 0, .int .i64 0, .slice none 0 0, .slice none 0 0, .slice none 0 0] 30), by first | rfl | go_simp, fun _ => hM.step (Mv.alloc _ _) (fun _ _ h => h), ?_⟩⟩
        refine ptk ?_
        have := sF0a _ V.heap.size (hM.step (Mv.alloc V (.cells #[.int .i64 0, .slice none 0 0, .int .i64 0, .slice none 0 0, .slice none 0 0, .slice none 0 0] 30)) (fun _ _ h => h)) (heap_alloc_new _ _) (hM.size)
        rw [hG] at this
        exact this
    exact sF0n _ (hS)
  have sF3n : ∀ (V : World) (xw : Nat) (xg : Nat) (xd : Nat) (xu : Nat) (xa0 : Option Addr) (xc0 : Nat) (xa1 : Option Addr) (xc1 : Nat) (xa2 : Option Addr) (xc2 : Nat) (xa3 : Option Addr) (xc3 : Nat), (Mv nob V5 V) → (Lr V V5.heap.size (.slice xa0 L.nw xc0) (.slice xa1 L.ng xc1) (.slice xa2 L.nd xc2) (.slice xa3 L.nu xc3) L) → G 3 #[true, true, true, true, true, true, true, true, false, false, false] #[.agg #[.int .i64 p.base, .slice wa p.nw wc, .int .i64 p.want, .slice ga p.ng gc, .slice da p.nd dc, .slice ua p.nu uc], .agg #[.int .i64 k, .int .i64 z, .int .i64 bit, .string body], .pointer (some ⟨b0, 0, none⟩), .pointer (some ⟨b1, 0, none⟩), .bool false, .int .i64 r2, undef, undef, undef, undef, undef, undef, undef, undef, undef, undef, .agg #[.int .i64 p.base, .slice wa p.nw wc, .int .i64 p.want, .slice ga p.ng gc, .slice da p.nd dc, .slice ua p.nu uc], .int .i64 1048576, .int .i64 r, .int .i64 r, .bool false, .agg #[.int .i64 k, .int .i64 z, .int .i64 bit, .string body], .int .i64 r, .int .i64 r2, .int .i64 r2, .bool false, .tuple #[.agg #[.int .i64 L.base, .slice xa0 L.nw xc0, .int .i64 L.want, .slice xa1 L.ng xc1, .slice xa2 L.nd xc2, .slice xa3 L.nu xc3], .int .i64 C], .agg #[.int .i64 p.base, .slice wa p.nw wc, .int .i64 p.want, .slice ga p.ng gc, .slice da p.nd dc, .slice ua p.nu uc], .agg #[.int .i64 p.base, sln xw p.nw, .int .i64 p.want, sln xg p.ng, sln xd p.nd, sln xu p.nu], .agg #[.int .i64 k, .int .i64 z, .int .i64 bit, .string body], .agg #[.int .i64 k, .int .i64 z, .int .i64 bit, .string body], .tuple #[.agg #[.int .i64 L.base, .slice xa0 L.nw xc0, .int .i64 L.want, .slice xa1 L.ng xc1, .slice xa2 L.nd xc2, .slice xa3 L.nu xc3], .int .i64 C], .agg #[.int .i64 L.base, .slice xa0 L.nw xc0, .int .i64 L.want, .slice xa1 L.ng xc1, .slice xa2 L.nd xc2, .slice xa3 L.nu xc3], .int .i64 C, undef, undef, undef, undef, undef, undef, undef, undef, undef, undef, undef, undef, undef, undef, undef, undef, undef, undef, undef, undef, undef, undef, undef, undef, undef, undef, undef, undef, undef, undef, undef, undef, undef, undef, undef, undef, undef, undef, undef, undef, undef, undef, undef, undef, undef, undef, undef, undef, undef, undef, undef, undef, undef, undef, undef, undef, undef, undef, undef, undef, undef, undef, undef, undef, undef, undef, undef, undef, undef, undef, undef, undef, undef, undef, undef] V := by
    intro V xw xg xd xu xa0 xc0 xa1 xc1 xa2 xc2 xa3 xc3 hM LQ
    rw [hG]
    refine kd_each (l := [8]) (by kernel_rfl) rfl ⟨?_, trivial⟩
    · refine ⟨_, rfl, by rfl, .inl ⟨.pointer (some ⟨V.heap.size, 0, none⟩), V.alloc (.cells #[.int .i64 0, .slice none 0 0, .int .i64 0, .slice none 0 0, .slice none 0 0, .slice none 0 0] 30), by first | rfl | go_simp, fun _ => hM.step (Mv.alloc _ _) (fun _ _ h => h), ?_⟩⟩
      refine ptk ?_
      have := sF3a _ xw xg xd xu xa0 xc0 xa1 xc1 xa2 xc2 xa3 xc3 V.heap.size (hM.step (Mv.alloc V (.cells #[.int .i64 0, .slice none 0 0, .int .i64 0, .slice none 0 0, .slice none 0 0, .slice none 0 0] 30)) (fun _ _ h => h)) (heap_alloc_new _ _) (hM.size) (LQ.mv (Mv.alloc V (.cells #[.int .i64 0, .slice none 0 0, .int .i64 0, .slice none 0 0, .slice none 0 0, .slice none 0 0] 30)) (fun _ _ h => h)) (fun g h => by have := (LQ.lt g h).2; omega)
      rw [hG] at this
      exact this
  have sF2a : ∀ (V : World) (xw : Nat) (xg : Nat) (xd : Nat) (xu : Nat) (bF : Nat), (Mv nob V5 V) → (V.heap[bF]? = some (.cells #[.int .i64 0, .slice none 0 0, .int .i64 0, .slice none 0 0, .slice none 0 0, .slice none 0 0] 30 (0, 0))) → (V5.heap.size ≤ bF) → (La V (sln xw p.nw) (sln xg p.ng) (sln xd p.nd) (sln xu p.nu) p) → G 6 #[true, true, true, true, false, false, false, false, true, false, false] #[.agg #[.int .i64 p.base, .slice wa p.nw wc, .int .i64 p.want, .slice ga p.ng gc, .slice da p.nd dc, .slice ua p.nu uc], .agg #[.int .i64 k, .int .i64 z, .int .i64 bit, .string body], .pointer (some ⟨b0, 0, none⟩), .pointer (some ⟨b1, 0, none⟩), .bool false, .int .i64 r2, .pointer (some ⟨bF, 0, none⟩), undef, undef, undef, undef, undef, undef, undef, undef, undef, .agg #[.int .i64 p.base, .slice wa p.nw wc, .int .i64 p.want, .slice ga p.ng gc, .slice da p.nd dc, .slice ua p.nu uc], .int .i64 1048576, .int .i64 r, .int .i64 r, .bool false, .agg #[.int .i64 k, .int .i64 z, .int .i64 bit, .string body], .int .i64 r, .int .i64 r2, .int .i64 r2, .bool false, undef, .agg #[.int .i64 p.base, .slice wa p.nw wc, .int .i64 p.want, .slice ga p.ng gc, .slice da p.nd dc, .slice ua p.nu uc], .agg #[.int .i64 p.base, sln xw p.nw, .int .i64 p.want, sln xg p.ng, sln xd p.nd, sln xu p.nu], .agg #[.int .i64 k, .int .i64 z, .int .i64 bit, .string body], .agg #[.int .i64 k, .int .i64 z, .int .i64 bit, .string body], undef, undef, undef, undef, undef, undef, undef, undef, undef, undef, undef, undef, undef, undef, undef, undef, undef, undef, undef, undef, undef, undef, undef, undef, undef, undef, undef, undef, undef, undef, undef, undef, undef, undef, undef, undef, undef, undef, undef, undef, undef, undef, undef, undef, undef, undef, undef, undef, undef, undef, undef, undef, undef, undef, undef, undef, undef, undef, undef, undef, undef, undef, undef, undef, undef, undef, undef, undef, undef, undef, undef, undef, undef, undef, undef, undef, undef, undef] V := by
    intro V xw xg xd xu bF hM hBx hRb LA1
    rw [hG]
    refine kd_each (l := [4]) (by kernel_rfl) rfl ⟨?_, trivial⟩
    · refine ⟨_, rfl, by rfl, .inr ⟨_, _, _, by first | rfl | (go_simp; done), hspec V _ _ _ _ LA1 hsm, ?_⟩⟩
      rintro e V2 ⟨qa_, qb_, qc_, qd_, rfl, LQ, hbC⟩
      have mV2 : Mv (nob) V V2 := Mv.of_below hbC
      have sb := lt_of_block hBx
      obtain ⟨xa0, xc0, rfl, _⟩ := LQ.wa.form
      obtain ⟨xa1, xc1, rfl, _⟩ := LQ.go.form
      obtain ⟨xa2, xc2, rfl, _⟩ := LQ.dn.form
      obtain ⟨xa3, xc3, rfl, _⟩ := LQ.up.form
      refine ⟨_, rfl, fun _ => hM.step mV2 (fun _ _ h => h), ?_⟩
      refine ptk ?_
      have hMx : Mv nob V5 V2 := hM.step mV2 (fun _ _ h => h)
      refine tk0 5 (.tuple #[.agg #[.int .i64 L.base, .slice xa0 L.nw xc0, .int .i64 L.want, .slice xa1 L.ng xc1, .slice xa2 L.nd xc2, .slice xa3 L.nu xc3], .int .i64 C]) rfl ?_
      refine tk0 6 (.agg #[.int .i64 L.base, .slice xa0 L.nw xc0, .int .i64 L.want, .slice xa1 L.ng xc1, .slice xa2 L.nd xc2, .slice xa3 L.nu xc3]) rfl ?_
      refine tk0 7 (.int .i64 C) rfl ?_
      have := sF3a V2 xw xg xd xu xa0 xc0 xa1 xc1 xa2 xc2 xa3 xc3 bF (hM.step mV2 (fun _ _ h => h)) (mV2.box hBx (fun h => h)) (hRb) (LQ.lower hM.size) (fun g h => by have := (LQ.lt g h).1; omega)
      rw [hG] at this
      exact this
  have sF2n : ∀ (V : World) (xw : Nat) (xg : Nat) (xd : Nat) (xu : Nat), (Mv nob V5 V) → (La V (sln xw p.nw) (sln xg p.ng) (sln xd p.nd) (sln xu p.nu) p) → G 7 #[true, true, true, true, false, false, false, false, false, false, false] #[.agg #[.int .i64 p.base, .slice wa p.nw wc, .int .i64 p.want, .slice ga p.ng gc, .slice da p.nd dc, .slice ua p.nu uc], .agg #[.int .i64 k, .int .i64 z, .int .i64 bit, .string body], .pointer (some ⟨b0, 0, none⟩), .pointer (some ⟨b1, 0, none⟩), .bool false, .int .i64 r2, undef, undef, undef, undef, undef, undef, undef, undef, undef, undef, .agg #[.int .i64 p.base, .slice wa p.nw wc, .int .i64 p.want, .slice ga p.ng gc, .slice da p.nd dc, .slice ua p.nu uc], .int .i64 1048576, .int .i64 r, .int .i64 r, .bool false, .agg #[.int .i64 k, .int .i64 z, .int .i64 bit, .string body], .int .i64 r, .int .i64 r2, .int .i64 r2, .bool false, undef, .agg #[.int .i64 p.base, .slice wa p.nw wc, .int .i64 p.want, .slice ga p.ng gc, .slice da p.nd dc, .slice ua p.nu uc], .agg #[.int .i64 p.base, sln xw p.nw, .int .i64 p.want, sln xg p.ng, sln xd p.nd, sln xu p.nu], .agg #[.int .i64 k, .int .i64 z, .int .i64 bit, .string body], .agg #[.int .i64 k, .int .i64 z, .int .i64 bit, .string body], undef, undef, undef, undef, undef, undef, undef, undef, undef, undef, undef, undef, undef, undef, undef, undef, undef, undef, undef, undef, undef, undef, undef, undef, undef, undef, undef, undef, undef, undef, undef, undef, undef, undef, undef, undef, undef, undef, undef, undef, undef, undef, undef, undef, undef, undef, undef, undef, undef, undef, undef, undef, undef, undef, undef, undef, undef, undef, undef, undef, undef, undef, undef, undef, undef, undef, undef, undef, undef, undef, undef, undef, undef, undef, undef, undef, undef, undef] V := by
    intro V xw xg xd xu hM LA1
    rw [hG]
    refine kd_each (l := [4, 8]) (by kernel_rfl) rfl ⟨?_, ?_, trivial⟩
    · refine ⟨_, rfl, by rfl, .inr ⟨_, _, _, by first | rfl | (go_simp; done), hspec V _ _ _ _ LA1 hsm, ?_⟩⟩
      rintro e V2 ⟨qa_, qb_, qc_, qd_, rfl, LQ, hbC⟩
      have mV2 : Mv (nob) V V2 := Mv.of_below hbC
      obtain ⟨xa0, xc0, rfl, _⟩ := LQ.wa.form
      obtain ⟨xa1, xc1, rfl, _⟩ := LQ.go.form
      obtain ⟨xa2, xc2, rfl, _⟩ := LQ.dn.form
      obtain ⟨xa3, xc3, rfl, _⟩ := LQ.up.form
      refine ⟨_, rfl, fun _ => hM.step mV2 (fun _ _ h => h), ?_⟩
      refine ptk ?_
      have hMx : Mv nob V5 V2 := hM.step mV2 (fun _ _ h => h)
      refine tk0 5 (.tuple #[.agg #[.int .i64 L.base, .slice xa0 L.nw xc0, .int .i64 L.want, .slice xa1 L.ng xc1, .slice xa2 L.nd xc2, .slice xa3 L.nu xc3], .int .i64 C]) rfl ?_
      refine tk0 6 (.agg #[.int .i64 L.base, .slice xa0 L.nw xc0, .int .i64 L.want, .slice xa1 L.ng xc1, .slice xa2 L.nd xc2, .slice xa3 L.nu xc3]) rfl ?_
      refine tk0 7 (.int .i64 C) rfl ?_
      have := sF3n V2 xw xg xd xu xa0 xc0 xa1 xc1 xa2 xc2 xa3 xc3 (hM.step mV2 (fun _ _ h => h)) (LQ.lower hM.size)
      rw [hG] at this
      exact this
    · refine ⟨_, rfl, by rfl, .inl ⟨.pointer (some ⟨V.heap.size, 0, none⟩), V.alloc (.cells #[.int .i64 0, .slice none 0 0, .int .i64 0, .slice none 0 0, .slice none 0 0, .slice none 0 0] 30), by first | rfl | go_simp, fun _ => hM.step (Mv.alloc _ _) (fun _ _ h => h), ?_⟩⟩
      refine ptk ?_
      have := sF2a _ xw xg xd xu V.heap.size (hM.step (Mv.alloc V (.cells #[.int .i64 0, .slice none 0 0, .int .i64 0, .slice none 0 0, .slice none 0 0, .slice none 0 0] 30)) (fun _ _ h => h)) (heap_alloc_new _ _) (hM.size) (LA1.below (Mv.alloc V (.cells #[.int .i64 0, .slice none 0 0, .int .i64 0, .slice none 0 0, .slice none 0 0, .slice none 0 0] 30)).below)
      rw [hG] at this
      exact this
  have sF1a : ∀ (V : World) (xw : Nat) (xg : Nat) (xd : Nat) (xu : Nat) (bF : Nat), (Mv nob V5 V) → (V.heap[bF]? = some (.cells #[.int .i64 0, .slice none 0 0, .int .i64 0, .slice none 0 0, .slice none 0 0, .slice none 0 0] 30 (0, 0))) → (V5.heap.size ≤ bF) → (La V (sln xw p.nw) (sln xg p.ng) (sln xd p.nd) (sln xu p.nu) p) → G 7 #[true, true, true, false, false, false, false, false, true, false, false] #[.agg #[.int .i64 p.base, .slice wa p.nw wc, .int .i64 p.want, .slice ga p.ng gc, .slice da p.nd dc, .slice ua p.nu uc], .agg #[.int .i64 k, .int .i64 z, .int .i64 bit, .string body], .pointer (some ⟨b0, 0, none⟩), .pointer (some ⟨b1, 0, none⟩), .bool false, .int .i64 r2, .pointer (some ⟨bF, 0, none⟩), undef, undef, undef, undef, undef, undef, undef, undef, undef, .agg #[.int .i64 p.base, .slice wa p.nw wc, .int .i64 p.want, .slice ga p.ng gc, .slice da p.nd dc, .slice ua p.nu uc], .int .i64 1048576, .int .i64 r, .int .i64 r, .bool false, .agg #[.int .i64 k, .int .i64 z, .int .i64 bit, .string body], .int .i64 r, .int .i64 r2, .int .i64 r2, .bool false, undef, .agg #[.int .i64 p.base, .slice wa p.nw wc, .int .i64 p.want, .slice ga p.ng gc, .slice da p.nd dc, .slice ua p.nu uc], .agg #[.int .i64 p.base, sln xw p.nw, .int .i64 p.want, sln xg p.ng, sln xd p.nd, sln xu p.nu], .agg #[.int .i64 k, .int .i64 z, .int .i64 bit, .string body], undef, undef, undef, undef, undef, undef, undef, undef, undef, undef, undef, undef, undef, undef, undef, undef, undef, undef, undef, undef, undef, undef, undef, undef, undef, undef, undef, undef, undef, undef, undef, undef, undef, undef, undef, undef, undef, undef, undef, undef, undef, undef, undef, undef, undef, undef, undef, undef, undef, undef, undef, undef, undef, undef, undef, undef, undef, undef, undef, undef, undef, undef, undef, undef, undef, undef, undef, undef, undef, undef, undef, undef, undef, undef, undef, undef, undef, undef, undef] V := by
    intro V xw xg xd xu bF hM hBx hRb LA1
    rw [hG]
    refine kd_each (l := [3]) (by kernel_rfl) rfl ⟨?_, trivial⟩
    · refine ⟨_, rfl, by rfl, .inr ⟨_, _, _, by first | rfl | (go_simp; done), toLAct_any k z bit body V, ?_⟩⟩
      rintro e V2 ⟨rfl, hbC⟩
      have mV2 : Mv (nob) V V2 := Mv.of_below hbC
      have sb := lt_of_block hBx
      refine ⟨_, rfl, fun _ => hM.step mV2 (fun _ _ h => h), ?_⟩
      refine ptk ?_
      have := sF2a V2 xw xg xd xu bF (hM.step mV2 (fun _ _ h => h)) (mV2.box hBx (fun h => h)) (hRb) (LA1.below hbC)
      rw [hG] at this
      exact this
  have sF1n : ∀ (V : World) (xw : Nat) (xg : Nat) (xd : Nat) (xu : Nat), (Mv nob V5 V) → (La V (sln xw p.nw) (sln xg p.ng) (sln xd p.nd) (sln xu p.nu) p) → G 8 #[true, true, true, false, false, false, false, false, false, false, false] #[.agg #[.int .i64 p.base, .slice wa p.nw wc, .int .i64 p.want, .slice ga p.ng gc, .slice da p.nd dc, .slice ua p.nu uc], .agg #[.int .i64 k, .int .i64 z, .int .i64 bit, .string body], .pointer (some ⟨b0, 0, none⟩), .pointer (some ⟨b1, 0, none⟩), .bool false, .int .i64 r2, undef, undef, undef, undef, undef, undef, undef, undef, undef, undef, .agg #[.int .i64 p.base, .slice wa p.nw wc, .int .i64 p.want, .slice ga p.ng gc, .slice da p.nd dc, .slice ua p.nu uc], .int .i64 1048576, .int .i64 r, .int .i64 r, .bool false, .agg #[.int .i64 k, .int .i64 z, .int .i64 bit, .string body], .int .i64 r, .int .i64 r2, .int .i64 r2, .bool false, undef, .agg #[.int .i64 p.base, .slice wa p.nw wc, .int .i64 p.want, .slice ga p.ng gc, .slice da p.nd dc, .slice ua p.nu uc], .agg #[.int .i64 p.base, sln xw p.nw, .int .i64 p.want, sln xg p.ng, sln xd p.nd, sln xu p.nu], .agg #[.int .i64 k, .int .i64 z, .int .i64 bit, .string body], undef, undef, undef, undef, undef, undef, undef, undef, undef, undef, undef, undef, undef, undef, undef, undef, undef, undef, undef, undef, undef, undef, undef, undef, undef, undef, undef, undef, undef, undef, undef, undef, undef, undef, undef, undef, undef, undef, undef, undef, undef, undef, undef, undef, undef, undef, undef, undef, undef, undef, undef, undef, undef, undef, undef, undef, undef, undef, undef, undef, undef, undef, undef, undef, undef, undef, undef, undef, undef, undef, undef, undef, undef, undef, undef, undef, undef, undef, undef] V := by
    intro V xw xg xd xu hM LA1
    rw [hG]
    refine kd_each (l := [3, 8]) (by kernel_rfl) rfl ⟨?_, ?_, trivial⟩
    · refine ⟨_, rfl, by rfl, .inr ⟨_, _, _, by first | rfl | (go_simp; done), toLAct_any k z bit body V, ?_⟩⟩
      rintro e V2 ⟨rfl, hbC⟩
      have mV2 : Mv (nob) V V2 := Mv.of_below hbC
      refine ⟨_, rfl, fun _ => hM.step mV2 (fun _ _ h => h), ?_⟩
      refine ptk ?_
      have := sF2n V2 xw xg xd xu (hM.step mV2 (fun _ _ h => h)) (LA1.below hbC)
      rw [hG] at this
      exact this
    · refine ⟨_, rfl, by rfl, .inl ⟨.pointer (some ⟨V.heap.size, 0, none⟩), V.alloc (.cells #[.int .i64 0, .slice none 0 0, .int .i64 0, .slice none 0 0, .slice none 0 0, .slice none 0 0] 30), by first | rfl | go_simp, fun _ => hM.step (Mv.alloc _ _) (fun _ _ h => h), ?_⟩⟩
      refine ptk ?_
      have := sF1a _ xw xg xd xu V.heap.size (hM.step (Mv.alloc V (.cells #[.int .i64 0, .slice none 0 0, .int .i64 0, .slice none 0 0, .slice none 0 0, .slice none 0 0] 30)) (fun _ _ h => h)) (heap_alloc_new _ _) (hM.size) (LA1.below (Mv.alloc V (.cells #[.int .i64 0, .slice none 0 0, .int .i64 0, .slice none 0 0, .slice none 0 0, .slice none 0 0] 30)).below)
      rw [hG] at this
      exact this
  have sF0a : ∀ (V : World) (bF : Nat), (Mv nob V5 V) → (V.heap[bF]? = some (.cells #[.int .i64 0, .slice none 0 0, .int .i64 0, .slice none 0 0, .slice none 0 0, .slice none 0 0] 30 (0, 0))) → (V5.heap.size ≤ bF) → G 8 #[true, false, true, false, false, false, false, false, true, false, false] #[.agg #[.int .i64 p.base, .slice wa p.nw wc, .int .i64 p.want, .slice ga p.ng gc, .slice da p.nd dc, .slice ua p.nu uc], .agg #[.int .i64 k, .int .i64 z, .int .i64 bit, .string body], .pointer (some ⟨b0, 0, none⟩), .pointer (some ⟨b1, 0, none⟩), .bool false, .int .i64 r2, .pointer (some ⟨bF, 0, none⟩), undef, undef, undef, undef, undef, undef, undef, undef, undef, .agg #[.int .i64 p.base, .slice wa p.nw wc, .int .i64 p.want, .slice ga p.ng gc, .slice da p.nd dc, .slice ua p.nu uc], .int .i64 1048576, .int .i64 r, .int .i64 r, .bool false, .agg #[.int .i64 k, .int .i64 z, .int .i64 bit, .string body], .int .i64 r, .int .i64 r2, .int .i64 r2, .bool false, undef, .agg #[.int .i64 p.base, .slice wa p.nw wc, .int .i64 p.want, .slice ga p.ng gc, .slice da p.nd dc, .slice ua p.nu uc], undef, .agg #[.int .i64 k, .int .i64 z, .int .i64 bit, .string body], undef, undef, undef, undef, undef, undef, undef, undef, undef, undef, undef, undef, undef, undef, undef, undef, undef, undef, undef, undef, undef, undef, undef, undef, undef, undef, undef, undef, undef, undef, undef, undef, undef, undef, undef, undef, undef, undef, undef, undef, undef, undef, undef, undef, undef, undef, undef, undef, undef, undef, undef, undef, undef, undef, undef, undef, undef, undef, undef, undef, undef, undef, undef, undef, undef, undef, undef, undef, undef, undef, undef, undef, undef, undef, undef, undef, undef, undef, undef] V := by
    intro V bF hM hBx hRb
    rw [hG]
    refine kd_each (l := [1]) (by kernel_rfl) rfl ⟨?_, trivial⟩
    · refine ⟨_, rfl, by rfl, .inr ⟨_, _, _, by first | rfl | (go_simp; done), toLink_any _ _ _ _ p V (ha0.out.below (HB.out.step hM (fun _ _ h => h)).below) hsm, ?_⟩⟩
      rintro e V2 ⟨xw, xg, xd, xu, rfl, LO1, hbC⟩
      have mV2 : Mv (nob) V V2 := Mv.of_below hbC
      have sb := lt_of_block hBx
      refine ⟨_, rfl, fun _ => hM.step mV2 (fun _ _ h => h), ?_⟩
      refine ptk ?_
      have := sF1a V2 xw xg xd xu bF (hM.step mV2 (fun _ _ h => h)) (mV2.box hBx (fun h => h)) (hRb) (LO1.la)
      rw [hG] at this
      exact this
  have sF0n : ∀ (V : World), (Mv nob V5 V) → G 9 #[true, false, true, false, false, false, false, false, false, false, false] #[.agg #[.int .i64 p.base, .slice wa p.nw wc, .int .i64 p.want, .slice ga p.ng gc, .slice da p.nd dc, .slice ua p.nu uc], .agg #[.int .i64 k, .int .i64 z, .int .i64 bit, .string body], .pointer (some ⟨b0, 0, none⟩), .pointer (some ⟨b1, 0, none⟩), .bool false, .int .i64 r2, undef, undef, undef, undef, undef, undef, undef, undef, undef, undef, .agg #[.int .i64 p.base, .slice wa p.nw wc, .int .i64 p.want, .slice ga p.ng gc, .slice da p.nd dc, .slice ua p.nu uc], .int .i64 1048576, .int .i64 r, .int .i64 r, .bool false, .agg #[.int .i64 k, .int .i64 z, .int .i64 bit, .string body], .int .i64 r, .int .i64 r2, .int .i64 r2, .bool false, undef, .agg #[.int .i64 p.base, .slice wa p.nw wc, .int .i64 p.want, .slice ga p.ng gc, .slice da p.nd dc, .slice ua p.nu uc], undef, .agg #[.int .i64 k, .int .i64 z, .int .i64 bit, .string body], undef, undef, undef, undef, undef, undef, undef, undef, undef, undef, undef, undef, undef, undef, undef, undef, undef, undef, undef, undef, undef, undef, undef, undef, undef, undef, undef, undef, undef, undef, undef, undef, undef, undef, undef, undef, undef, undef, undef, undef, undef, undef, undef, undef, undef, undef, undef, undef, undef, undef, undef, undef, undef, undef, undef, undef, undef, undef, undef, undef, undef, undef, undef, undef, undef, undef, undef, undef, undef, undef, undef, undef, undef, undef, undef, undef, undef, undef, undef] V := by
    intro V hM
    rw [hG]
    refine kd_each (l := [1, 8]) (by kernel_rfl) rfl ⟨?_, ?_, trivial⟩
    · refine ⟨_, rfl, by rfl, .inr ⟨_, _, _, by first | rfl | (go_simp; done), toLink_any _ _ _ _ p V (ha0.out.below (HB.out.step hM (fun _ _ h => h)).below) hsm, ?_⟩⟩
      rintro e V2 ⟨xw, xg, xd, xu, rfl, LO1, hbC⟩
      have mV2 : Mv (nob) V V2 := Mv.of_below hbC
      refine ⟨_, rfl, fun _ => hM.step mV2 (fun _ _ h => h), ?_⟩
      refine ptk ?_
      have := sF1n V2 xw xg xd xu (hM.step mV2 (fun _ _ h => h)) (LO1.la)
      rw [hG] at this
      exact this
    · refine ⟨_, rfl, by rfl, .inl ⟨.pointer (some ⟨V.heap.size, 0, none⟩), V.alloc (.cells #[.int .i64 0, .slice none 0 0, .int .i64 0, .slice none 0 0, .slice none 0 0, .slice none 0 0] 30), by first | rfl | go_simp, fun _ => hM.step (Mv.alloc _ _) (fun _ _ h => h), ?_⟩⟩
      refine ptk ?_
      have := sF0a _ V.heap.size (hM.step (Mv.alloc V (.cells #[.int .i64 0, .slice none 0 0, .int .i64 0, .slice none 0 0, .slice none 0 0, .slice none 0 0] 30)) (fun _ _ h => h)) (heap_alloc_new _ _) (hM.size)
      rw [hG] at this
      exact this
  exact sF0n _ (hS)

set_option maxRecDepth 100000 in
theorem lifted (os : Os) (started : os.Started) (H : Type) (enc : TypeId × Value → H) :
    ReturnsInHanded {} Try.checked os 4 .any (Rows.fnExactLinkDoSpec.pre6 enc Try.prog Try.f4 Rows.fnExactLinkDoRow.domain false) (Rows.fnExactLinkDoSpec.post enc Try.prog Try.f4 false true false false) := by
  refine returnsInHanded_of_change (C := Try.checked) own started (by kernel_rfl) Try.func4
    (ChangeSpec.witness6 (enc := enc) (C := Try.checked) false ⟨#[], #[.agg #[.int .i64 0, .slice none 0 0, .int .i64 0, .slice none 0 0, .slice none 0 0, .slice none 0 0], .agg #[.int .i64 0, .int .i64 0, .int .i64 0, .string ⟨#[]⟩]], []⟩ 8 (by kernel_rfl) (by kernel_rfl) (by kernel_rfl) (by kernel_rfl)) ?_
  intro W base args ds gs before hval0 hW hcnd _
  have hval : ∀ (j : Nat) t v, Try.f4.params[j]? = some t → args[j]? = some v → Value.okWide Try.prog W .any base t v := hval0
  have hW' := hW
  obtain ⟨p, q, hA0, hV, rfl, hfz, hnd⟩ := hW
  have hA : DataW.TrodAll enc Try.prog W 0 (fun _ => true) true Try.f4.params.toList args.toList ds p := hA0
  rw [Try.params4] at hA hval
  obtain ⟨v0, vs0, d0, ds0, p0, q0, hargs, rfl, rfl, h0, r0⟩ := trodAll_cons hA
  obtain ⟨v1, vs1, d1, ds1, p1, q1, rfl, rfl, rfl, h1, r1⟩ := trodAll_cons r0
  obtain ⟨rfl, rfl, rfl⟩ := trodAll_nil r1
  obtain rfl : args = #[v0, v1] := by cases args; simp_all
  obtain ⟨rfl, rfl⟩ := trodVars_none hV
  have k0 := h0
  have lt0 : ∀ x ∈ p0, x.block < W.heap.size := by obtain ⟨m, hm⟩ := k0; exact DataW.trod_lt m _ _ _ hm
  obtain ⟨wv0, gv0, dv0, uv0, lk0, rfl, hc0, hl0⟩ := open_link (hval 0 25 v0 rfl rfl) h0
  have k1 := h1
  have lt1 : ∀ x ∈ p1, x.block < W.heap.size := by obtain ⟨m, hm⟩ := k1; exact DataW.trod_lt m _ _ _ hm
  obtain ⟨a1, b1, c1, s1, rfl, hs1⟩ := open_lact (hval 1 35 v1 rfl rfl) h1
  clear hA0 hval0
  refine (walk wv0 gv0 dv0 uv0 lk0 a1 b1 c1 s1 W hc0 hl0 (by unfold maxLen at hs1; omega)).mono fun e W' ⟨he, bel⟩ => ?_
  subst he
  exact ⟨_, rfl, _, _, _, [], _, [], hW', trodAll_mk1 (shut_bool Try.underlying4 _), (trodAll_cons_mk (Below.trod laidOut (by kernel_rfl) (of_decide_eq_true (by kernel_rfl)) k0 bel lt0) (trodAll_cons_mk (Below.trod laidOut (by kernel_rfl) (of_decide_eq_true (by kernel_rfl)) k1 bel lt1) trodAll_mk0)), rfl, bel.frame _, fun h => by cases h⟩

theorem over : Rows.fnExactLinkDoRow.holds Try.pinned (OpenSpec.ofChange Rows.fnExactLinkDoSpec) :=
  OpenClaim.holds_of_wide 4 Try.f4 rfl rfl rfl rfl rfl rfl rfl ⟨rfl, rfl, rfl, rfl, rfl⟩ rfl rfl rfl rfl rfl (by kernel_rfl) Try.func4 (by kernel_rfl)
    (of_decide_eq_true (by kernel_rfl)) (by unfold Func.isWrapper; first | (rw [if_pos (by decide +kernel)]; kernel_rfl) | (rw [if_neg (by decide +kernel)]; exact ⟨rfl, rfl⟩))
    (fun os started H enc _ => lifted os started H enc)

theorem proved : Rows.FnExactLinkDoSaid := over
end Go.Proofs.Ytnkocikbapbbmaa.fnExactLinkDo

namespace Go.Proofs.Ytnkocikbapbbmaa
theorem fnExactLinkDo_holds : Rows.FnExactLinkDoSaid := fnExactLinkDo.proved
end Go.Proofs.Ytnkocikbapbbmaa
