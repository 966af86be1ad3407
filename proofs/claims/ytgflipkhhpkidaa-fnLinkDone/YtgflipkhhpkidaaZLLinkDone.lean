/- Proved: for every code, laws.FnLinkDone returns true. No condition. -/
import Derived.Test.YtgflipkhhpkidaaRows
import Derived.Test.YtgflipkhhpkidaaPe
import Derived.WalkKit
import Derived.ProofKit
import Derived.OpenShut
import Derived.ShutString
import Derived.ChangeOld
import Derived.Below
import Derived.OpenVars
namespace Go.Proofs.Ytgflipkhhpkidaa.fnLinkDone
open Go.ChangeShapes Go.WideShapes Go.ChangeAt Go.WideMaps Go.WideElems Go.RowKit
set_option linter.unusedVariables false
set_option linter.unusedSimpArgs false

theorem own : ownKnob Try.prog.godebug = none := by kernel_rfl
theorem laidOut : laidOutB Try.prog = true := by kernel_rfl

def IsRow (k : IntKind) (w : World) (a : Option Addr) (len cap : Nat) (zs : List Int) : Prop :=
  (a = none ∧ len = 0 ∧ cap = 0 ∧ zs = []) ∨
  ∃ x, a = some x ∧ len ≤ cap ∧ cap ≤ maxLen ∧ zs.length = cap ∧ (∀ i, i < zs.length → w.cell? (x.add i) = some (.int k (zs.getD i 0))) ∧ ∀ n ∈ zs, (Lit.int k n).wf = true

theorem row_bt {w : World} {a : Option Addr} {len cap : Nat} {z : List Int} (h : IsRow .u8 w a len cap z) : Bt w a len := by
  intro h0
  rcases h with ⟨rfl, rfl, rfl, rfl⟩ | ⟨x, rfl, hl, hm, hz, hcell, hwf⟩
  · exact absurd h0 (by simp)
  · obtain ⟨b, off, spot⟩ := x
    have hc := hcell 0 (by omega)
    have hspot : spot = none := by simpa [Addr.add] using World.cell?_spot hc
    subst hspot
    refine ⟨b, off, rfl, fun j hj => ?_⟩
    have hcj := hcell j (by omega)
    rw [addr_add] at hcj
    have hj' : j < z.length := by omega
    have e : z.getD j 0 = z[j] := by simp [hj']
    have hw := bounds_u8 (hwf z[j] (List.getElem_mem hj'))
    exact ⟨z.getD j 0, by rw [e]; exact hw.1, by rw [e]; exact hw.2, hcj⟩

set_option maxHeartbeats 16000000 in
set_option maxRecDepth 20000 in
theorem walk (a0 : Option Addr) (len0 cap0 : Nat) (w : World) (hs : Bt w a0 len0) :
    Calls Try.prog 3 #[.slice a0 len0 cap0] w fun e w' => e = .returned (.bool true) ∧ Below w.heap.size w w' := by
  by_cases hbig : (1048576 : Int) < (len0 : Int)
  · go_enter Try.func3, Try.ntmps3
    go_wp2
    go_ret
    exact ⟨rfl, Below.refl _ _⟩
  have hb : len0 ≤ 1048576 := by omega
  clear hbig
  have HB : Hid (Mv nob w w) := hide (Mv.refl _ _)
  have BT := hide hs
  clear hs
  go_enter Try.func3, Try.ntmps3
  refine sk fun K1 h1 => rl ?_
  refine sv (.bool false) ?_
  refine nt (h1 _ _ (sk fun K2 h2 => sk fun K3 h3 => rl ?_)); clear h1 K1
  refine sv (.slice a0 len0 cap0) ?_
  refine sw_call (by rfl) (by first | rfl | (go_simp; done)) (big_no a0 len0 cap0 w hb) ?_
  rintro e V1 ⟨rfl, hwV1⟩
  have m1 : Mv (nob) w V1 := hwV1 ▸ Mv.refl _ _
  refine ⟨_, rfl, ?_⟩
  refine pt ?_
  refine nt (h3 _ _ (cf (wp_skip (then_normal (h2 _ _ (sk fun K4 h4 => rl ?_)))))); clear h3 K3; clear h2 K2
  refine sv (.slice a0 len0 cap0) ?_
  replace HB := Xhn HB m1
  have szW := HB.out.size
  replace BT := Xtn BT m1
  refine sw_call (by rfl) (by first | rfl | (go_simp; done)) (drawDo_any a0 len0 cap0 V1 BT.out hb) ?_
  rintro e V2 ⟨wv, gv, dv, uv, p, k, z, bit, bd, rfl, LQ, hsm, hbl⟩
  have m2 : Mv (nob) V1 V2 := Mv.of_below hbl
  refine ⟨_, rfl, ?_⟩
  refine pt ?_
  obtain ⟨xa, xc, rfl, _⟩ := LQ.wa.form
  obtain ⟨ya, yc, rfl, _⟩ := LQ.go.form
  obtain ⟨za, zc, rfl, _⟩ := LQ.dn.form
  obtain ⟨ta, tc, rfl, _⟩ := LQ.up.form
  have LN := hide (LQ.lower szW)
  have ALN : Hid (∀ x, Lrb (.slice xa p.nw xc) (.slice ya p.ng yc) (.slice za p.nd zc) (.slice ta p.nu tc) x → True) := hide (fun x h => trivial)
  clear LQ hbl szW
  refine sv (.tuple #[.agg #[.int .i64 p.base, .slice xa p.nw xc, .int .i64 p.want, .slice ya p.ng yc, .slice za p.nd zc, .slice ta p.nu tc], .agg #[.int .i64 k, .int .i64 z, .int .i64 bit, .string bd]]) ?_
  refine sv (.agg #[.int .i64 p.base, .slice xa p.nw xc, .int .i64 p.want, .slice ya p.ng yc, .slice za p.nd zc, .slice ta p.nu tc]) ?_
  refine sv (.agg #[.int .i64 k, .int .i64 z, .int .i64 bit, .string bd]) ?_
  refine sbp #[.int .i64 0, .slice none 0 0, .int .i64 0, .slice none 0 0, .slice none 0 0, .slice none 0 0] 27 fun V3 b0 hb0 m3 bx0 => ?_
  replace HB := Xhn HB m2
  have o_0 : w.heap.size ≤ b0 := Xhs HB hb0
  replace ALN : Hid (∀ x, Lrb (.slice xa p.nw xc) (.slice ya p.ng yc) (.slice za p.nd zc) (.slice ta p.nu tc) x → x ≠ b0) := hide (fun x h => by have h1 := ALN.out x h; have h2 := (LN.out.lt x h).2; exact (by omega))
  clear hb0
  refine sbp #[.int .i64 0, .int .i64 0, .int .i64 0, .string ⟨#[]⟩] 29 fun V4 b1 hb1 m4 bx1 => ?_
  have o0_1 := Xlo bx0 hb1
  replace LN := Xqn LN m3
  replace ALN : Hid (∀ x, Lrb (.slice xa p.nw xc) (.slice ya p.ng yc) (.slice za p.nd zc) (.slice ta p.nu tc) x → x ≠ b0 ∧ x ≠ b1) := hide (fun x h => by have h1 := ALN.out x h; have h2 := (LN.out.lt x h).2; exact (by omega))
  clear hb1
  replace bx0 := Xbn bx0 m4
  refine ss6 (.int .i64 p.base) (.slice xa p.nw xc) (.int .i64 p.want) (.slice ya p.ng yc) (.slice za p.nd zc) (.slice ta p.nu tc) bx0 fun V5 m5 bx0 => ?_
  clear BT
  replace bx1 := Xbb bx1 m5
  refine ss4 (.int .i64 k) (.int .i64 z) (.int .i64 bit) (.string bd) bx1 fun V6 m6 bx1 => ?_
  refine nt (h4 _ _ (sk fun K5 h5 => rl ?_)); clear h4 K4
  have hI := fun V wv gv dv uv (h : La V wv gv dv uv p) => implLinkDo_any p wv gv dv uv V h hsm k z bit bd
  have hT := fun V wv gv dv uv (h : La V wv gv dv uv p) => specLinkDo_any p wv gv dv uv V h hsm k z bit bd
  obtain ⟨smL, HD⟩ := done_says p k z bit bd
  generalize doL p k z bit bd = L at *
  generalize doC p k z bit bd = C at *
  replace HD := hide HD
  replace bx0 := Xbb bx0 m6
  refine sl6 bx0 ?_
  refine sg (.agg #[.int .i64 k, .int .i64 z, .int .i64 bit, .string bd]) (h := by have z0 := cell_box 0 (bx1.out) rfl; have z1 := cell_box 1 (bx1.out) rfl; have z2 := cell_box 2 (bx1.out) rfl; have z3 := cell_box 3 (bx1.out) rfl; go_simp) ?_
  have szT := lt_of_block bx1.out
  replace HB := Xhb (Xhb (Xhn (Xhn HB m3) m4) m5) m6
  have szW := HB.out.size
  replace LN := Xqb (Xqb (Xqn LN m4) m5 (fun x h => by have := ALN.out x h; omega)) m6 (fun x h => by have := ALN.out x h; omega)
  refine sw_call (by rfl) (by first | rfl | (go_simp; done)) (hI V6 _ _ _ _ LN.out.la) ?_
  rintro e V7 ⟨wv, gv, dv, uv, rfl, LQ, hbl⟩
  have m7 : Mv (nob) V6 V7 := Mv.of_below hbl
  refine ⟨_, rfl, ?_⟩
  refine pt ?_
  obtain ⟨x2a, x2c, rfl, _⟩ := LQ.wa.form
  obtain ⟨y2a, y2c, rfl, _⟩ := LQ.go.form
  obtain ⟨z2a, z2c, rfl, _⟩ := LQ.dn.form
  obtain ⟨t2a, t2c, rfl, _⟩ := LQ.up.form
  have LI := hide (LQ.lower szW)
  have ALI : Hid (∀ x, Lrb (.slice x2a L.nw x2c) (.slice y2a L.ng y2c) (.slice z2a L.nd z2c) (.slice t2a L.nu t2c) x → x ≠ b0 ∧ x ≠ b1) := hide (fun x h => by have := (LQ.lt x h).1; exact (by omega))
  clear LQ hbl szW szT
  refine sv (.tuple #[.agg #[.int .i64 L.base, .slice x2a L.nw x2c, .int .i64 L.want, .slice y2a L.ng y2c, .slice z2a L.nd z2c, .slice t2a L.nu t2c], .int .i64 C]) ?_
  refine sv (.agg #[.int .i64 L.base, .slice x2a L.nw x2c, .int .i64 L.want, .slice y2a L.ng y2c, .slice z2a L.nd z2c, .slice t2a L.nu t2c]) ?_
  refine sv (.int .i64 C) ?_
  replace bx1 := Xbn bx1 m7
  refine sbp #[.int .i64 0, .slice none 0 0, .int .i64 0, .slice none 0 0, .slice none 0 0, .slice none 0 0] 27 fun V8 b2 hb2 m8 bx2 => ?_
  have o1_2 := Xlo bx1 hb2
  replace LN := Xqn LN m7
  replace ALN : Hid (∀ x, Lrb (.slice xa p.nw xc) (.slice ya p.ng yc) (.slice za p.nd zc) (.slice ta p.nu tc) x → x ≠ b0 ∧ x ≠ b1 ∧ x ≠ b2) := hide (fun x h => by have h1 := ALN.out x h; have h2 := (LN.out.lt x h).2; exact (by omega))
  replace ALI : Hid (∀ x, Lrb (.slice x2a L.nw x2c) (.slice y2a L.ng y2c) (.slice z2a L.nd z2c) (.slice t2a L.nu t2c) x → x ≠ b0 ∧ x ≠ b1 ∧ x ≠ b2) := hide (fun x h => by have h1 := ALI.out x h; have h2 := (LI.out.lt x h).2; exact (by omega))
  clear hb2
  refine ss6 (.int .i64 L.base) (.slice x2a L.nw x2c) (.int .i64 L.want) (.slice y2a L.ng y2c) (.slice z2a L.nd z2c) (.slice t2a L.nu t2c) bx2 fun V9 m9 bx2 => ?_
  refine sv (.int .i64 C) ?_
  refine nt (h5 _ _ (sk fun K6 h6 => rl ?_)); clear h5 K5
  replace bx0 := Xbb (Xbn (Xbn bx0 m7) m8) m9
  refine sl6 bx0 ?_
  replace bx1 := Xbb (Xbn bx1 m8) m9
  refine sg (.agg #[.int .i64 k, .int .i64 z, .int .i64 bit, .string bd]) (h := by have z0 := cell_box 0 (bx1.out) rfl; have z1 := cell_box 1 (bx1.out) rfl; have z2 := cell_box 2 (bx1.out) rfl; have z3 := cell_box 3 (bx1.out) rfl; go_simp) ?_
  have szT := lt_of_block bx2.out
  replace HB := Xhb (Xhn (Xhn HB m7) m8) m9
  have szW := HB.out.size
  replace LN := Xqb (Xqn LN m8) m9 (fun x h => by have := ALN.out x h; omega)
  refine sw_call (by rfl) (by first | rfl | (go_simp; done)) (hT V9 _ _ _ _ LN.out.la) ?_
  rintro e V10 ⟨wv, gv, dv, uv, rfl, LQ, hbl⟩
  have m10 : Mv (nob) V9 V10 := Mv.of_below hbl
  refine ⟨_, rfl, ?_⟩
  refine pt ?_
  obtain ⟨x3a, x3c, rfl, _⟩ := LQ.wa.form
  obtain ⟨y3a, y3c, rfl, _⟩ := LQ.go.form
  obtain ⟨z3a, z3c, rfl, _⟩ := LQ.dn.form
  obtain ⟨t3a, t3c, rfl, _⟩ := LQ.up.form
  have LT := hide (LQ.lower szW)
  have ALT : Hid (∀ x, Lrb (.slice x3a L.nw x3c) (.slice y3a L.ng y3c) (.slice z3a L.nd z3c) (.slice t3a L.nu t3c) x → x ≠ b0 ∧ x ≠ b1 ∧ x ≠ b2) := hide (fun x h => by have := (LQ.lt x h).1; exact (by omega))
  clear LQ hbl szW szT
  refine sv (.tuple #[.agg #[.int .i64 L.base, .slice x3a L.nw x3c, .int .i64 L.want, .slice y3a L.ng y3c, .slice z3a L.nd z3c, .slice t3a L.nu t3c], .int .i64 C]) ?_
  refine sv (.agg #[.int .i64 L.base, .slice x3a L.nw x3c, .int .i64 L.want, .slice y3a L.ng y3c, .slice z3a L.nd z3c, .slice t3a L.nu t3c]) ?_
  refine sv (.int .i64 C) ?_
  replace bx2 := Xbn bx2 m10
  refine sbp #[.int .i64 0, .slice none 0 0, .int .i64 0, .slice none 0 0, .slice none 0 0, .slice none 0 0] 27 fun V11 b3 hb3 m11 bx3 => ?_
  have o2_3 := Xlo bx2 hb3
  replace LN := Xqn LN m10
  replace ALN : Hid (∀ x, Lrb (.slice xa p.nw xc) (.slice ya p.ng yc) (.slice za p.nd zc) (.slice ta p.nu tc) x → x ≠ b0 ∧ x ≠ b1 ∧ x ≠ b2 ∧ x ≠ b3) := hide (fun x h => by have h1 := ALN.out x h; have h2 := (LN.out.lt x h).2; exact (by omega))
  replace LI := Xqn (Xqb (Xqn LI m8) m9 (fun x h => by have := ALI.out x h; omega)) m10
  replace ALI : Hid (∀ x, Lrb (.slice x2a L.nw x2c) (.slice y2a L.ng y2c) (.slice z2a L.nd z2c) (.slice t2a L.nu t2c) x → x ≠ b0 ∧ x ≠ b1 ∧ x ≠ b2 ∧ x ≠ b3) := hide (fun x h => by have h1 := ALI.out x h; have h2 := (LI.out.lt x h).2; exact (by omega))
  replace ALT : Hid (∀ x, Lrb (.slice x3a L.nw x3c) (.slice y3a L.ng y3c) (.slice z3a L.nd z3c) (.slice t3a L.nu t3c) x → x ≠ b0 ∧ x ≠ b1 ∧ x ≠ b2 ∧ x ≠ b3) := hide (fun x h => by have h1 := ALT.out x h; have h2 := (LT.out.lt x h).2; exact (by omega))
  clear hb3
  refine ss6 (.int .i64 L.base) (.slice x3a L.nw x3c) (.int .i64 L.want) (.slice y3a L.ng y3c) (.slice z3a L.nd z3c) (.slice t3a L.nu t3c) bx3 fun V12 m12 bx3 => ?_
  refine sv (.int .i64 C) ?_
  refine nt (h6 _ _ (sk fun K7 h7 => sk fun K8 h8 => rl ?_)); clear h6 K6
  clear hI hT
  rcases HD.out with ⟨hC, hok⟩ | ⟨hC, hC0, hL, hok⟩ | ⟨hC, hok, hokL, HG⟩
  · subst hC
    refine sv (.int .i64 1) ?_
    refine sv (.int .i64 1) ?_
    refine sg (.bool false) ?_
    refine sv (.bool false) ?_
    replace bx2 := Xbb (Xbn bx2 m11) m12
    refine sl6 bx2 ?_
    refine sl6 bx3 ?_
    replace LI := Xqb (Xqn LI m11) m12 (fun x h => by have := ALI.out x h; omega); replace LT := Xqb (Xqn LT m11) m12 (fun x h => by have := ALT.out x h; omega)
    refine sw_call (by rfl) (by first | rfl | (go_simp; done)) (sameLink_same L _ _ _ _ _ _ _ _ V12 LI.out.lv LT.out.lv smL) ?_
    rintro e V13 ⟨rfl, hbl⟩
    have m13 : Mv (nob) V12 V13 := Mv.of_below hbl
    refine ⟨_, rfl, ?_⟩
    refine pt ?_
    clear hbl
    refine sg (.bool false) ?_
    refine sg (.bool false) ?_
    refine sv (.bool false) ?_
    refine sv (.int .i64 1) ?_
    refine sg (.bool true) ?_
    refine sg (.bool true) ?_
    refine nt (h8 _ _ (ct (sk fun K9 h9 => ?_))); clear h8 K8
    refine wp_region_but (z := 999) (S := fun w' => Mv (fun x => False) V13.drew w') (by kernel_rfl) (Mv.refl _ _) (fun hS => ?_)
    have m14 : Mv nob V13 V13.drew := Mv.drew _
    obtain ⟨V14, hN⟩ : ∃ V, V13.drew = V := ⟨_, rfl⟩
    rw [hN] at hS m14 ⊢
    clear hN
    replace bx0 := Xbn (Xbn (Xbb (Xbn (Xbn bx0 m10) m11) m12) m13) m14; replace bx2 := Xbn (Xbn bx2 m13) m14; replace bx3 := Xbn (Xbn bx3 m13) m14
    have rbx0 := bx0; have rbx2 := bx2; have rbx3 := bx3
    refine tk0 0 (.int .i64 1) rfl ?_
    refine tk0 1 (.int .i64 1) rfl ?_
    refine tk0 2 (.bool true) rfl ?_
    refine tk0 3 (.bool true) rfl ?_
    refine tk 4 (.agg #[.int .i64 L.base, .slice x2a L.nw x2c, .int .i64 L.want, .slice y2a L.ng y2c, .slice z2a L.nd z2c, .slice t2a L.nu t2c]) rfl (fun w' hSw => by (try dsimp only at hSw); have z0 := cell_box 0 (hSw.box rbx2.out (fun h => h)) rfl; have z1 := cell_box 1 (hSw.box rbx2.out (fun h => h)) rfl; have z2 := cell_box 2 (hSw.box rbx2.out (fun h => h)) rfl; have z3 := cell_box 3 (hSw.box rbx2.out (fun h => h)) rfl; have z4 := cell_box 4 (hSw.box rbx2.out (fun h => h)) rfl; have z5 := cell_box 5 (hSw.box rbx2.out (fun h => h)) rfl; go_simp) ?_
    refine tk 5 (.agg #[.int .i64 L.base, .slice x3a L.nw x3c, .int .i64 L.want, .slice y3a L.ng y3c, .slice z3a L.nd z3c, .slice t3a L.nu t3c]) rfl (fun w' hSw => by (try dsimp only at hSw); have z0 := cell_box 0 (hSw.box rbx3.out (fun h => h)) rfl; have z1 := cell_box 1 (hSw.box rbx3.out (fun h => h)) rfl; have z2 := cell_box 2 (hSw.box rbx3.out (fun h => h)) rfl; have z3 := cell_box 3 (hSw.box rbx3.out (fun h => h)) rfl; have z4 := cell_box 4 (hSw.box rbx3.out (fun h => h)) rfl; have z5 := cell_box 5 (hSw.box rbx3.out (fun h => h)) rfl; go_simp) ?_
    replace LI := Xqn (Xqn LI m13) m14; replace LT := Xqn (Xqn LT m13) m14
    refine kd_call (i := 6) (by kernel_rfl) rfl (by rfl) (by first | rfl | (go_simp; done)) (sameLink_same L _ _ _ _ _ _ _ _ V14 LI.out.lv LT.out.lv smL) ?_
    rintro e V15 ⟨rfl, hbl⟩
    have m15 : Mv (nob) V14 V15 := Mv.of_below hbl
    replace hS := hS.step m15 (fun _ _ h => h.elim)
    refine ⟨_, rfl, fun _ => hS, ?_⟩
    refine ptk ?_
    clear hbl
    refine tk0 7 (.bool true) rfl ?_
    refine tk0 8 (.bool true) rfl ?_
    refine tk 9 (.agg #[.int .i64 p.base, .slice xa p.nw xc, .int .i64 p.want, .slice ya p.ng yc, .slice za p.nd zc, .slice ta p.nu tc]) rfl (fun w' hSw => by (try dsimp only at hSw); have z0 := cell_box 0 (hSw.box rbx0.out (fun h => h)) rfl; have z1 := cell_box 1 (hSw.box rbx0.out (fun h => h)) rfl; have z2 := cell_box 2 (hSw.box rbx0.out (fun h => h)) rfl; have z3 := cell_box 3 (hSw.box rbx0.out (fun h => h)) rfl; have z4 := cell_box 4 (hSw.box rbx0.out (fun h => h)) rfl; have z5 := cell_box 5 (hSw.box rbx0.out (fun h => h)) rfl; go_simp) ?_
    refine tk 11 (.agg #[.int .i64 p.base, .slice xa p.nw xc, .int .i64 p.want, .slice ya p.ng yc, .slice za p.nd zc, .slice ta p.nu tc]) rfl (fun w' hSw => by (try dsimp only at hSw); have z0 := cell_box 0 (hSw.box rbx0.out (fun h => h)) rfl; have z1 := cell_box 1 (hSw.box rbx0.out (fun h => h)) rfl; have z2 := cell_box 2 (hSw.box rbx0.out (fun h => h)) rfl; have z3 := cell_box 3 (hSw.box rbx0.out (fun h => h)) rfl; have z4 := cell_box 4 (hSw.box rbx0.out (fun h => h)) rfl; have z5 := cell_box 5 (hSw.box rbx0.out (fun h => h)) rfl; go_simp) ?_
    replace LN := Xqn (Xqn (Xqn (Xqb (Xqn LN m11) m12 (fun x h => by have := ALN.out x h; omega)) m13) m14) m15
    refine kd_call (i := 10) (by kernel_rfl) rfl (by rfl) (by first | rfl | (go_simp; done)) (implLinkOk_la false p _ _ _ _ V15 hok LN.out.la hsm) ?_
    rintro e V16 ⟨rfl, hbl⟩
    have m16 : Mv (nob) V15 V16 := Mv.of_below hbl
    replace hS := hS.step m16 (fun _ _ h => h.elim)
    refine ⟨_, rfl, fun _ => hS, ?_⟩
    refine ptk ?_
    clear hbl
    replace LN := Xqn LN m16
    refine kd_call (i := 12) (by kernel_rfl) rfl (by rfl) (by first | rfl | (go_simp; done)) (specLinkOk_la false p _ _ _ _ V16 hok LN.out.la hsm) ?_
    rintro e V17 ⟨rfl, hbl⟩
    have m17 : Mv (nob) V16 V17 := Mv.of_below hbl
    replace hS := hS.step m17 (fun _ _ h => h.elim)
    refine ⟨_, rfl, fun _ => hS, ?_⟩
    refine ptk ?_
    clear hbl
    refine tk0 13 (.bool true) rfl ?_
    refine tk0 14 (.bool true) rfl ?_
    refine tk0 15 (.bool true) rfl ?_
    refine wpAnyK_done (by kernel_rfl) ?_
    clear hS rbx0 rbx2 rbx3
    refine then_normal (h9 _ _ (wp_ret (then_ret ?_))); clear h9 K9; clear h7 K7
    replace HB := Xhn (Xhn (Xhn (Xhn (Xhn (Xhb (Xhn (Xhn HB m10) m11) m12) m13) m14) m15) m16) m17; replace bx1 := Xbn (Xbn (Xbn (Xbn (Xbn (Xbb (Xbn (Xbn bx1 m10) m11) m12) m13) m14) m15) m16) m17; replace bx0 := Xbn (Xbn (Xbn bx0 m15) m16) m17; replace LI := Xqn (Xqn (Xqn LI m15) m16) m17; replace bx2 := Xbn (Xbn (Xbn bx2 m15) m16) m17
    replace LT := Xqn (Xqn (Xqn LT m15) m16) m17; replace bx3 := Xbn (Xbn (Xbn bx3 m15) m16) m17; replace LN := Xqn LN m17
    exact bodyPost_ret (v := .bool true) (by simp [results, Try.results3, go_sem]) rfl ⟨rfl, HB.out.below⟩
  · refine sv (.int .i64 C) ?_
    refine sv (.int .i64 C) ?_
    refine sg (.bool false) ?_
    refine sv (.bool false) ?_
    replace bx2 := Xbb (Xbn bx2 m11) m12
    refine sl6 bx2 ?_
    refine sl6 bx3 ?_
    replace LI := Xqb (Xqn LI m11) m12 (fun x h => by have := ALI.out x h; omega); replace LT := Xqb (Xqn LT m11) m12 (fun x h => by have := ALT.out x h; omega)
    refine sw_call (by rfl) (by first | rfl | (go_simp; done)) (sameLink_same L _ _ _ _ _ _ _ _ V12 LI.out.lv LT.out.lv smL) ?_
    rintro e V18 ⟨rfl, hbl⟩
    have m18 : Mv (nob) V12 V18 := Mv.of_below hbl
    refine ⟨_, rfl, ?_⟩
    refine pt ?_
    clear hbl
    refine sg (.bool false) ?_
    refine sg (.bool false) ?_
    refine sv (.bool false) ?_
    refine sv (.int .i64 C) ?_
    refine sg (.bool false) (h := by have hC := hC; go_simp) ?_
    refine sg (.bool false) ?_
    refine nt (h8 _ _ (cf (wp_skip (then_normal (h7 _ _ (sk fun K10 h10 => sk fun K11 h11 => rl ?_)))))); clear h8 K8; clear h7 K7
    refine sv (.int .i64 C) ?_
    refine sg (.bool true) (h := by have hC0 := hC0; go_simp) ?_
    refine nt (h11 _ _ (ct (sk fun K12 h12 => rl ?_))); clear h11 K11
    subst hL
    replace bx2 := Xbn bx2 m18
    refine sl6 bx2 ?_
    replace bx0 := Xbn (Xbb (Xbn (Xbn bx0 m10) m11) m12) m18
    refine sl6 bx0 ?_
    replace LN := Xqn (Xqb (Xqn LN m11) m12 (fun x h => by have := ALN.out x h; omega)) m18; replace LI := Xqn LI m18
    refine sw_call (by rfl) (by first | rfl | (go_simp; done)) (sameLink_same p _ _ _ _ _ _ _ _ V18 LI.out.lv LN.out.lv hsm) ?_
    rintro e V19 ⟨rfl, hbl⟩
    have m19 : Mv (nob) V18 V19 := Mv.of_below hbl
    refine ⟨_, rfl, ?_⟩
    refine pt ?_
    clear hbl
    refine sv (.bool true) ?_
    refine nt (h12 _ _ (wp_ret (then_ret ?_))); clear h12 K12; clear h10 K10
    replace HB := Xhn (Xhn (Xhb (Xhn (Xhn HB m10) m11) m12) m18) m19; replace bx1 := Xbn (Xbn (Xbb (Xbn (Xbn bx1 m10) m11) m12) m18) m19; replace LT := Xqn (Xqn LT m18) m19; replace bx3 := Xbn (Xbn bx3 m18) m19; replace LN := Xqn LN m19; replace bx0 := Xbn bx0 m19; replace LI := Xqn LI m19; replace bx2 := Xbn bx2 m19
    exact bodyPost_ret (v := .bool true) (by simp [results, Try.results3, go_sem]) rfl ⟨rfl, HB.out.below⟩
  · subst hC
    refine sv (.int .i64 0) ?_
    refine sv (.int .i64 0) ?_
    refine sg (.bool false) ?_
    refine sv (.bool false) ?_
    replace bx2 := Xbb (Xbn bx2 m11) m12
    refine sl6 bx2 ?_
    refine sl6 bx3 ?_
    replace LI := Xqb (Xqn LI m11) m12 (fun x h => by have := ALI.out x h; omega); replace LT := Xqb (Xqn LT m11) m12 (fun x h => by have := ALT.out x h; omega)
    refine sw_call (by rfl) (by first | rfl | (go_simp; done)) (sameLink_same L _ _ _ _ _ _ _ _ V12 LI.out.lv LT.out.lv smL) ?_
    rintro e V20 ⟨rfl, hbl⟩
    have m20 : Mv (nob) V12 V20 := Mv.of_below hbl
    refine ⟨_, rfl, ?_⟩
    refine pt ?_
    clear hbl
    refine sg (.bool false) ?_
    refine sg (.bool false) ?_
    refine sv (.bool false) ?_
    refine sv (.int .i64 0) ?_
    refine sg (.bool false) ?_
    refine sg (.bool false) ?_
    refine nt (h8 _ _ (cf (wp_skip (then_normal (h7 _ _ (sk fun K13 h13 => sk fun K14 h14 => rl ?_)))))); clear h8 K8; clear h7 K7
    refine sv (.int .i64 0) ?_
    refine sg (.bool false) ?_
    refine nt (h14 _ _ (cf (wp_skip (then_normal (h13 _ _ (sk fun K15 h15 => ?_)))))); clear h14 K14; clear h13 K13
    have hf := lk_iff.1 hok
    obtain ⟨g1, g2, g3, g4, g5⟩ := HG
    have w1 : IntKind.i64.wrap (p.want + 1) = p.want + 1 := by have := hf.b1; have := hf.k1; have := hf.w8; have := hf.k0; have := hf.b0; exact i64wrap (by omega)
    replace HB := Xhn (Xhb (Xhn (Xhn HB m10) m11) m12) m20; replace bx0 := Xbn (Xbb (Xbn (Xbn bx0 m10) m11) m12) m20; replace bx1 := Xbn (Xbb (Xbn (Xbn bx1 m10) m11) m12) m20; replace LN := Xqn (Xqb (Xqn LN m11) m12 (fun x h => by have := ALN.out x h; omega)) m20; replace LI := Xqn LI m20; replace bx2 := Xbn bx2 m20
    replace LT := Xqn LT m20; replace bx3 := Xbn bx3 m20
    obtain ⟨hsl, hsg⟩ := head_texts LI.out.go p.ng g4
    have GS : Hid (Sg V20 (.slice y2a p.ng y2c) 1 p.ng (tF p.gs)) := hide (hsg.congr (fun j hj i _ => by show Value.string (L.gs j) = Value.string (p.gs j); rw [g5 j hj]))
    clear hsg g5
    refine wp_region_but (z := 999) (S := fun w' => Mv (fun x => False) V20.drew w') (by kernel_rfl) (Mv.refl _ _) (fun hS => ?_)
    have m21 : Mv nob V20 V20.drew := Mv.drew _
    obtain ⟨V21, hN⟩ : ∃ V, V20.drew = V := ⟨_, rfl⟩
    rw [hN] at hS m21 ⊢
    clear hN
    replace bx0 := Xbn bx0 m21; replace bx2 := Xbn bx2 m21
    have rbx0 := bx0; have rbx2 := bx2
    refine tk 0 (.agg #[.int .i64 L.base, .slice x2a L.nw x2c, .int .i64 L.want, .slice y2a L.ng y2c, .slice z2a L.nd z2c, .slice t2a L.nu t2c]) rfl (fun w' hSw => by (try dsimp only at hSw); have z0 := cell_box 0 (hSw.box rbx2.out (fun h => h)) rfl; have z1 := cell_box 1 (hSw.box rbx2.out (fun h => h)) rfl; have z2 := cell_box 2 (hSw.box rbx2.out (fun h => h)) rfl; have z3 := cell_box 3 (hSw.box rbx2.out (fun h => h)) rfl; have z4 := cell_box 4 (hSw.box rbx2.out (fun h => h)) rfl; have z5 := cell_box 5 (hSw.box rbx2.out (fun h => h)) rfl; go_simp) ?_
    replace LI := Xqn LI m21
    refine kd_call (i := 1) (by kernel_rfl) rfl (by rfl) (by first | rfl | (go_simp; done)) (implLinkOk_la true L _ _ _ _ V21 hokL LI.out.la smL) ?_
    rintro e V22 ⟨rfl, hbl⟩
    have m22 : Mv (nob) V21 V22 := Mv.of_below hbl
    replace hS := hS.step m22 (fun _ _ h => h.elim)
    refine ⟨_, rfl, fun _ => hS, ?_⟩
    refine ptk ?_
    clear hbl
    refine tk0 2 (.bool true) rfl ?_
    refine tk0 3 (.pointer (some ⟨b2, 0, none⟩)) rfl ?_
    refine tk 4 (.int .i64 L.base) rfl (fun w' hSw => by (try dsimp only at hSw); have z0 := cell_box 0 (hSw.box rbx2.out (fun h => h)) rfl; go_simp) ?_
    refine tk0 5 (.pointer (some ⟨b0, 0, none⟩)) rfl ?_
    refine tk 6 (.int .i64 p.base) rfl (fun w' hSw => by (try dsimp only at hSw); have z0 := cell_box 0 (hSw.box rbx0.out (fun h => h)) rfl; go_simp) ?_
    refine tk 7 (.bool true) rfl (fun w' hSw => by (try dsimp only at hSw); have h := g1; go_simp) ?_
    refine tk0 8 (.bool true) rfl ?_
    refine tk0 9 (.bool true) rfl ?_
    refine tk0 10 (.pointer (some ⟨b2, 2, none⟩)) rfl ?_
    refine tk 11 (.int .i64 L.want) rfl (fun w' hSw => by (try dsimp only at hSw); have z0 := cell_box 2 (hSw.box rbx2.out (fun h => h)) rfl; go_simp) ?_
    refine tk0 12 (.pointer (some ⟨b0, 2, none⟩)) rfl ?_
    refine tk 13 (.int .i64 p.want) rfl (fun w' hSw => by (try dsimp only at hSw); have z0 := cell_box 2 (hSw.box rbx0.out (fun h => h)) rfl; go_simp) ?_
    refine tk 14 (.bool true) rfl (fun w' hSw => by (try dsimp only at hSw); have h := g2; go_simp) ?_
    refine tk0 15 (.bool true) rfl ?_
    refine tk0 16 (.bool true) rfl ?_
    refine tk0 17 (.pointer (some ⟨b2, 2, none⟩)) rfl ?_
    refine tk 18 (.int .i64 L.want) rfl (fun w' hSw => by (try dsimp only at hSw); have z0 := cell_box 2 (hSw.box rbx2.out (fun h => h)) rfl; go_simp) ?_
    refine tk0 19 (.pointer (some ⟨b0, 2, none⟩)) rfl ?_
    refine tk 20 (.int .i64 p.want) rfl (fun w' hSw => by (try dsimp only at hSw); have z0 := cell_box 2 (hSw.box rbx0.out (fun h => h)) rfl; go_simp) ?_
    refine tk 21 (.int .i64 ((p.want + 1))) rfl (fun w' hSw => by (try dsimp only at hSw); have h := w1; go_simp) ?_
    refine tk 22 (.bool true) rfl (fun w' hSw => by (try dsimp only at hSw); have h := g3; go_simp) ?_
    refine tk0 23 (.bool true) rfl ?_
    refine tk0 24 (.bool true) rfl ?_
    refine tk0 25 (.pointer (some ⟨b2, 3, none⟩)) rfl ?_
    refine tk 26 (.slice y2a L.ng y2c) rfl (fun w' hSw => by (try dsimp only at hSw); have z0 := cell_box 3 (hSw.box rbx2.out (fun h => h)) rfl; go_simp) ?_
    refine tk0 27 (.pointer (some ⟨b0, 3, none⟩)) rfl ?_
    refine tk 28 (.slice ya p.ng yc) rfl (fun w' hSw => by (try dsimp only at hSw); have z0 := cell_box 3 (hSw.box rbx0.out (fun h => h)) rfl; go_simp) ?_
    refine tk0 29 (.int .i64 (p.ng : Int)) rfl ?_
    refine tk 30 (.slice y2a p.ng y2c) rfl (fun w' hSw => by (try dsimp only at hSw); have h := hsl; go_simp) ?_
    refine tk0 31 (.pointer (some ⟨b0, 3, none⟩)) rfl ?_
    refine tk 32 (.slice ya p.ng yc) rfl (fun w' hSw => by (try dsimp only at hSw); have z0 := cell_box 3 (hSw.box rbx0.out (fun h => h)) rfl; go_simp) ?_
    replace LN := Xqn (Xqn LN m21) m22; replace GS := Xsg (Xsg GS m21) m22
    refine kd_call (i := 33) (by kernel_rfl) rfl (by rfl) (by first | rfl | (go_simp; done)) (sameTexts_same _ _ p.ng p.gs V22 GS.out LN.out.lv.go (by have := hsm.2.1.1; omega)) ?_
    rintro e V23 ⟨rfl, hbl⟩
    have m23 : Mv (nob) V22 V23 := Mv.of_below hbl
    replace hS := hS.step m23 (fun _ _ h => h.elim)
    refine ⟨_, rfl, fun _ => hS, ?_⟩
    refine ptk ?_
    clear hbl
    refine tk0 34 (.bool true) rfl ?_
    refine tk0 35 (.bool true) rfl ?_
    refine wpAnyK_done (by kernel_rfl) ?_
    clear hS rbx0 rbx2
    refine then_normal (h15 _ _ (wp_ret ?_)); clear h15 K15
    replace HB := Xhn (Xhn (Xhn HB m21) m22) m23; replace bx1 := Xbn (Xbn (Xbn bx1 m21) m22) m23; replace LT := Xqn (Xqn (Xqn LT m21) m22) m23; replace bx3 := Xbn (Xbn (Xbn bx3 m21) m22) m23; replace bx0 := Xbn (Xbn bx0 m22) m23; replace LI := Xqn (Xqn LI m22) m23; replace bx2 := Xbn (Xbn bx2 m22) m23; replace LN := Xqn LN m23
    replace GS := Xsg GS m23
    exact bodyPost_ret (v := .bool true) (by simp [results, Try.results3, go_sem]) rfl ⟨rfl, HB.out.below⟩

set_option maxRecDepth 100000 in
theorem lifted (os : Os) (started : os.Started) (H : Type) (enc : TypeId × Value → H) :
    ReturnsInHanded {} Try.checked os 3 .any (Rows.fnLinkDoneSpec.pre6 enc Try.prog Try.f3 Rows.fnLinkDoneRow.domain false) (Rows.fnLinkDoneSpec.post enc Try.prog Try.f3 false true false false) := by
  refine returnsInHanded_of_change (C := Try.checked) own started (by kernel_rfl) Try.func3
    (ChangeSpec.witness6 (enc := enc) (C := Try.checked) false ⟨#[], #[.slice none 0 0], []⟩ 8 (by kernel_rfl) (by kernel_rfl) (by kernel_rfl) (by kernel_rfl)) ?_
  intro W base args ds gs before hval0 hW hcnd _
  have hval : ∀ (j : Nat) t v, Try.f3.params[j]? = some t → args[j]? = some v → Value.okWide Try.prog W .any base t v := hval0
  have hW' := hW
  obtain ⟨p, q, hA0, hV, rfl, hfz, hnd⟩ := hW
  have hA : DataW.TrodAll enc Try.prog W 0 (fun _ => true) true Try.f3.params.toList args.toList ds p := hA0
  rw [Try.params3] at hA hval
  obtain ⟨v0, vs0, d0, ds0, p0, q0, hargs, rfl, rfl, h0, r0⟩ := trodAll_cons hA
  obtain ⟨rfl, rfl, rfl⟩ := trodAll_nil r0
  obtain rfl : args = #[v0] := by cases args; simp_all
  obtain ⟨rfl, rfl⟩ := trodVars_none hV
  obtain ⟨a0, len0, cap0, rfl⟩ := okWide_slice Try.underlying22 (hval 0 22 v0 rfl rfl)
  have k0 := h0
  have lt0 : ∀ x ∈ p0, x.block < W.heap.size := by obtain ⟨m, hm⟩ := k0; exact DataW.trod_lt m _ _ _ hm
  obtain ⟨z0, w0⟩ : ∃ zs, IsRow .u8 W a0 len0 cap0 zs := by
    obtain ⟨fuel, hf⟩ := h0
    rcases open_ints Try.underlying22 Try.underlying5 (by kernel_rfl) hf with ⟨hcs, _⟩ | ⟨x, l, c, zs, hcs, _, hl, hm, hz, _, hcell, hwz⟩
    · simp [Value.cells] at hcs
      obtain ⟨rfl, rfl, rfl⟩ := hcs
      exact ⟨[], .inl ⟨rfl, rfl, rfl, rfl⟩⟩
    · simp [Value.cells] at hcs
      obtain ⟨rfl, rfl, rfl⟩ := hcs
      exact ⟨zs, .inr ⟨_, rfl, hl, hm, by simpa using hz, hcell, hwz⟩⟩
  clear hA0 hval0
  refine (walk a0 len0 cap0 W (row_bt w0)).mono fun e W' ⟨he, bel⟩ => ?_
  subst he
  exact ⟨_, rfl, _, _, _, [], _, [], hW', trodAll_mk1 (shut_bool Try.underlying4 _), (trodAll_cons_mk (Below.trod laidOut (by kernel_rfl) (of_decide_eq_true (by kernel_rfl)) k0 bel lt0) trodAll_mk0), rfl, bel.frame _, fun h => by cases h⟩

theorem over : Rows.fnLinkDoneRow.holds Try.pinned (OpenSpec.ofChange Rows.fnLinkDoneSpec) :=
  OpenClaim.holds_of_wide 3 Try.f3 rfl rfl rfl rfl rfl rfl rfl ⟨rfl, rfl, rfl, rfl, rfl⟩ rfl rfl rfl rfl rfl (by kernel_rfl) Try.func3 (by kernel_rfl)
    (of_decide_eq_true (by kernel_rfl)) (by unfold Func.isWrapper; first | (rw [if_pos (by decide +kernel)]; kernel_rfl) | (rw [if_neg (by decide +kernel)]; exact ⟨rfl, rfl⟩))
    (fun os started H enc _ => lifted os started H enc)

theorem proved : Rows.FnLinkDoneSaid := over
end Go.Proofs.Ytgflipkhhpkidaa.fnLinkDone

namespace Go.Proofs.Ytgflipkhhpkidaa
theorem fnLinkDone_holds : Rows.FnLinkDoneSaid := fnLinkDone.proved
end Go.Proofs.Ytgflipkhhpkidaa
