/- Proved: for every code, laws.FnLinkCalm returns true. No condition. -/
import Derived.Test.YtgflipkhhpkidaaRows
import Derived.Test.YtgflipkhhpkidaaYnkCalm54
import Derived.WalkKit
import Derived.ProofKit
import Derived.OpenShut
import Derived.ShutString
import Derived.ChangeOld
import Derived.Below
import Derived.OpenVars
namespace Go.Proofs.Ytgflipkhhpkidaa.fnLinkCalm
open Go.ChangeShapes Go.WideShapes Go.ChangeAt Go.WideMaps Go.WideElems Go.RowKit
set_option linter.unusedVariables false
set_option linter.unusedSimpArgs false

theorem own : ownKnob Try.prog.godebug = none := by kernel_rfl
theorem laidOut : laidOutB Try.prog = true := by kernel_rfl

def IsRow (k : IntKind) (w : World) (a : Option Addr) (len cap : Nat) (zs : List Int) : Prop :=
  (a = none ∧ len = 0 ∧ cap = 0 ∧ zs = []) ∨
  ∃ x, a = some x ∧ len ≤ cap ∧ cap ≤ maxLen ∧ zs.length = cap ∧ (∀ i, i < zs.length → w.cell? (x.add i) = some (.int k (zs.getD i 0))) ∧ ∀ n ∈ zs, (Lit.int k n).wf = true

theorem row_bt {w : World} {a : Option Addr} {len cap : Nat} {z : List Int} (h : IsRow .u8 w a len cap z) : Bt w a len := by
  intro h0
  rcases h with ⟨rfl, rfl, rfl, rfl⟩ | ⟨x, rfl, hl, hm, hz, hcell, hwf⟩
  · exact absurd h0 (by simp)
  · obtain ⟨b, off, spot⟩ := x
    have hc := hcell 0 (by omega)
    have hspot : spot = none := by simpa [Addr.add] using World.cell?_spot hc
    subst hspot
    refine ⟨b, off, rfl, fun j hj => ?_⟩
    have hcj := hcell j (by omega)
    rw [addr_add] at hcj
    have hj' : j < z.length := by omega
    have e : z.getD j 0 = z[j] := by simp [hj']
    have hw := bounds_u8 (hwf z[j] (List.getElem_mem hj'))
    exact ⟨z.getD j 0, by rw [e]; exact hw.1, by rw [e]; exact hw.2, hcj⟩

set_option maxHeartbeats 16000000 in
set_option maxRecDepth 20000 in
theorem walk (a0 : Option Addr) (len0 cap0 : Nat) (w : World) (hs : Bt w a0 len0) :
    Calls Try.prog 5 #[.slice a0 len0 cap0] w fun e w' => e = .returned (.bool true) ∧ Below w.heap.size w w' := by
  by_cases hbig : (1048576 : Int) < (len0 : Int)
  · go_enter Try.func5, Try.ntmps5
    go_wp2
    go_ret
    exact ⟨rfl, Below.refl _ _⟩
  have hb : len0 ≤ 1048576 := by omega
  clear hbig
  have HB : Hid (Mv nob w w) := hide (Mv.refl _ _)
  have BT := hide hs
  clear hs
  go_enter Try.func5, Try.ntmps5
  refine sk fun K1 h1 => rl ?_
  refine sv (.bool false) ?_
  refine nt (h1 _ _ (sk fun K2 h2 => sk fun K3 h3 => rl ?_)); clear h1 K1
  refine sv (.slice a0 len0 cap0) ?_
  refine sw_call (by rfl) (by first | rfl | (go_simp; done)) (big_no a0 len0 cap0 w hb) ?_
  rintro e V1 ⟨rfl, hwV1⟩
  have m1 : Mv (nob) w V1 := hwV1 ▸ Mv.refl _ _
  refine ⟨_, rfl, ?_⟩
  refine pt ?_
  refine nt (h3 _ _ (cf (wp_skip (then_normal (h2 _ _ (sk fun K4 h4 => rl ?_)))))); clear h3 K3; clear h2 K2
  refine sv (.slice a0 len0 cap0) ?_
  replace HB := Xhn HB m1
  have szW := HB.out.size
  replace BT := Xtn BT m1
  refine sw_call (by rfl) (by first | rfl | (go_simp; done)) (drawCalmed_any a0 len0 cap0 V1 BT.out hb) ?_
  rintro e V2 ⟨wv, gv, dv, uv, p, rfl, LQ, hsm, hbl, hng⟩
  have m2 : Mv (nob) V1 V2 := Mv.of_below hbl
  refine ⟨_, rfl, ?_⟩
  refine pt ?_
  obtain ⟨xa, xc, rfl, _⟩ := LQ.wa.form
  obtain ⟨ya, yc, rfl, _⟩ := LQ.go.form
  obtain ⟨za, zc, rfl, _⟩ := LQ.dn.form
  obtain ⟨ta, tc, rfl, _⟩ := LQ.up.form
  have LN := hide (LQ.lower szW)
  have ALN : Hid (∀ x, Lrb (.slice xa p.nw xc) (.slice ya p.ng yc) (.slice za p.nd zc) (.slice ta p.nu tc) x → True) := hide (fun x h => trivial)
  clear LQ hbl szW
  refine sbp #[.int .i64 0, .slice none 0 0, .int .i64 0, .slice none 0 0, .slice none 0 0, .slice none 0 0] 27 fun V3 b0 hb0 m3 bx0 => ?_
  replace HB := Xhn HB m2
  have o_0 : w.heap.size ≤ b0 := Xhs HB hb0
  replace ALN : Hid (∀ x, Lrb (.slice xa p.nw xc) (.slice ya p.ng yc) (.slice za p.nd zc) (.slice ta p.nu tc) x → x ≠ b0) := hide (fun x h => by have h1 := ALN.out x h; have h2 := (LN.out.lt x h).2; exact (by omega))
  clear hb0
  refine ss6 (.int .i64 p.base) (.slice xa p.nw xc) (.int .i64 p.want) (.slice ya p.ng yc) (.slice za p.nd zc) (.slice ta p.nu tc) bx0 fun V4 m4 bx0 => ?_
  clear BT
  refine nt (h4 _ _ (sk fun K5 h5 => rl ?_)); clear h4 K4
  obtain ⟨L, b, hA⟩ : ∃ L b, cmL p = (L, b) := ⟨_, _, rfl⟩
  have smL : Lsm 1048576 L := by have := cmL_sm p; rw [hA] at this; exact this
  have hI : ∀ V wv gv dv uv, La V wv gv dv uv p → Calls Try.prog 17 #[.agg (l6 p.base wv p.want gv dv uv)] V (fun e w' => ∃ wv gv dv uv, e = .returned (.tuple #[.agg (l6 L.base wv L.want gv dv uv), .bool b]) ∧ Lr w' V.heap.size wv gv dv uv L ∧ Below V.heap.size V w') := fun V wv gv dv uv h => by have q := implCalmed_any p wv gv dv uv V h hsm; rw [hA] at q; exact q
  have hT : ∀ V wv gv dv uv, La V wv gv dv uv p → Calls Try.prog 18 #[.agg (l6 p.base wv p.want gv dv uv)] V (fun e w' => ∃ wv gv dv uv, e = .returned (.tuple #[.agg (l6 L.base wv L.want gv dv uv), .bool b]) ∧ Lr w' V.heap.size wv gv dv uv L ∧ Below V.heap.size V w') := fun V wv gv dv uv h => by have q := specCalmed_any p wv gv dv uv V h hsm; rw [hA] at q; exact q
  refine sl6 bx0 ?_
  have szT := lt_of_block bx0.out
  replace HB := Xhb (Xhn HB m3) m4
  have szW := HB.out.size
  replace LN := Xqb (Xqn LN m3) m4 (fun x h => by have := ALN.out x h; omega)
  refine sw_call (by rfl) (by first | rfl | (go_simp; done)) (hI V4 _ _ _ _ LN.out.la) ?_
  rintro e V5 ⟨wv1, gv1, dv1, uv1, rfl, LQ, hbl⟩
  have m5 : Mv (nob) V4 V5 := Mv.of_below hbl
  refine ⟨_, rfl, ?_⟩
  refine pt ?_
  obtain ⟨x1a, x1c, rfl, _⟩ := LQ.wa.form
  obtain ⟨y1a, y1c, rfl, _⟩ := LQ.go.form
  obtain ⟨z1a, z1c, rfl, _⟩ := LQ.dn.form
  obtain ⟨t1a, t1c, rfl, _⟩ := LQ.up.form
  have LI := hide (LQ.lower szW)
  have ALI : Hid (∀ x, Lrb (.slice x1a L.nw x1c) (.slice y1a L.ng y1c) (.slice z1a L.nd z1c) (.slice t1a L.nu t1c) x → x ≠ b0) := hide (fun x h => by have := (LQ.lt x h).1; exact (by omega))
  clear LQ hbl szW szT
  refine sv (.tuple #[.agg #[.int .i64 L.base, .slice x1a L.nw x1c, .int .i64 L.want, .slice y1a L.ng y1c, .slice z1a L.nd z1c, .slice t1a L.nu t1c], .bool b]) ?_
  refine sv (.agg #[.int .i64 L.base, .slice x1a L.nw x1c, .int .i64 L.want, .slice y1a L.ng y1c, .slice z1a L.nd z1c, .slice t1a L.nu t1c]) ?_
  refine sv (.bool b) ?_
  replace bx0 := Xbn bx0 m5
  refine sbp #[.int .i64 0, .slice none 0 0, .int .i64 0, .slice none 0 0, .slice none 0 0, .slice none 0 0] 27 fun V6 b1 hb1 m6 bx1 => ?_
  have o0_1 := Xlo bx0 hb1
  replace LN := Xqn LN m5
  replace ALN : Hid (∀ x, Lrb (.slice xa p.nw xc) (.slice ya p.ng yc) (.slice za p.nd zc) (.slice ta p.nu tc) x → x ≠ b0 ∧ x ≠ b1) := hide (fun x h => by have h1 := ALN.out x h; have h2 := (LN.out.lt x h).2; exact (by omega))
  replace ALI : Hid (∀ x, Lrb (.slice x1a L.nw x1c) (.slice y1a L.ng y1c) (.slice z1a L.nd z1c) (.slice t1a L.nu t1c) x → x ≠ b0 ∧ x ≠ b1) := hide (fun x h => by have h1 := ALI.out x h; have h2 := (LI.out.lt x h).2; exact (by omega))
  clear hb1
  refine ss6 (.int .i64 L.base) (.slice x1a L.nw x1c) (.int .i64 L.want) (.slice y1a L.ng y1c) (.slice z1a L.nd z1c) (.slice t1a L.nu t1c) bx1 fun V7 m7 bx1 => ?_
  refine sv (.bool b) ?_
  refine nt (h5 _ _ (sk fun K6 h6 => rl ?_)); clear h5 K5
  replace bx0 := Xbb (Xbn bx0 m6) m7
  refine sl6 bx0 ?_
  have szT := lt_of_block bx1.out
  replace HB := Xhb (Xhn (Xhn HB m5) m6) m7
  have szW := HB.out.size
  replace LN := Xqb (Xqn LN m6) m7 (fun x h => by have := ALN.out x h; omega)
  refine sw_call (by rfl) (by first | rfl | (go_simp; done)) (hT V7 _ _ _ _ LN.out.la) ?_
  rintro e V8 ⟨wv1, gv1, dv1, uv1, rfl, LQ, hbl⟩
  have m8 : Mv (nob) V7 V8 := Mv.of_below hbl
  refine ⟨_, rfl, ?_⟩
  refine pt ?_
  obtain ⟨x2a, x2c, rfl, _⟩ := LQ.wa.form
  obtain ⟨y2a, y2c, rfl, _⟩ := LQ.go.form
  obtain ⟨z2a, z2c, rfl, _⟩ := LQ.dn.form
  obtain ⟨t2a, t2c, rfl, _⟩ := LQ.up.form
  have LT := hide (LQ.lower szW)
  have ALT : Hid (∀ x, Lrb (.slice x2a L.nw x2c) (.slice y2a L.ng y2c) (.slice z2a L.nd z2c) (.slice t2a L.nu t2c) x → x ≠ b0 ∧ x ≠ b1) := hide (fun x h => by have := (LQ.lt x h).1; exact (by omega))
  clear LQ hbl szW szT
  refine sv (.tuple #[.agg #[.int .i64 L.base, .slice x2a L.nw x2c, .int .i64 L.want, .slice y2a L.ng y2c, .slice z2a L.nd z2c, .slice t2a L.nu t2c], .bool b]) ?_
  refine sv (.agg #[.int .i64 L.base, .slice x2a L.nw x2c, .int .i64 L.want, .slice y2a L.ng y2c, .slice z2a L.nd z2c, .slice t2a L.nu t2c]) ?_
  refine sv (.bool b) ?_
  replace bx1 := Xbn bx1 m8
  refine sbp #[.int .i64 0, .slice none 0 0, .int .i64 0, .slice none 0 0, .slice none 0 0, .slice none 0 0] 27 fun V9 b2 hb2 m9 bx2 => ?_
  have o1_2 := Xlo bx1 hb2
  replace LN := Xqn LN m8
  replace ALN : Hid (∀ x, Lrb (.slice xa p.nw xc) (.slice ya p.ng yc) (.slice za p.nd zc) (.slice ta p.nu tc) x → x ≠ b0 ∧ x ≠ b1 ∧ x ≠ b2) := hide (fun x h => by have h1 := ALN.out x h; have h2 := (LN.out.lt x h).2; exact (by omega))
  replace LI := Xqn (Xqb (Xqn LI m6) m7 (fun x h => by have := ALI.out x h; omega)) m8
  replace ALI : Hid (∀ x, Lrb (.slice x1a L.nw x1c) (.slice y1a L.ng y1c) (.slice z1a L.nd z1c) (.slice t1a L.nu t1c) x → x ≠ b0 ∧ x ≠ b1 ∧ x ≠ b2) := hide (fun x h => by have h1 := ALI.out x h; have h2 := (LI.out.lt x h).2; exact (by omega))
  replace ALT : Hid (∀ x, Lrb (.slice x2a L.nw x2c) (.slice y2a L.ng y2c) (.slice z2a L.nd z2c) (.slice t2a L.nu t2c) x → x ≠ b0 ∧ x ≠ b1 ∧ x ≠ b2) := hide (fun x h => by have h1 := ALT.out x h; have h2 := (LT.out.lt x h).2; exact (by omega))
  clear hb2
  refine ss6 (.int .i64 L.base) (.slice x2a L.nw x2c) (.int .i64 L.want) (.slice y2a L.ng y2c) (.slice z2a L.nd z2c) (.slice t2a L.nu t2c) bx2 fun V10 m10 bx2 => ?_
  refine sv (.bool b) ?_
  refine nt (h6 _ _ (sk fun K7 h7 => sk fun K8 h8 => rl ?_)); clear h6 K6
  clear hI hT
  rcases (show lkB p = false ∨ lkB p = true by cases lkB p <;> simp) with hok | hok
  · refine sv (.bool b) ?_
    refine sv (.bool b) ?_
    refine sg (.bool false) ?_
    refine sv (.bool false) ?_
    replace bx1 := Xbb (Xbn bx1 m9) m10
    refine sl6 bx1 ?_
    refine sl6 bx2 ?_
    replace LI := Xqb (Xqn LI m9) m10 (fun x h => by have := ALI.out x h; omega); replace LT := Xqb (Xqn LT m9) m10 (fun x h => by have := ALT.out x h; omega)
    refine sw_call (by rfl) (by first | rfl | (go_simp; done)) (sameLink_same L _ _ _ _ _ _ _ _ V10 LI.out.lv LT.out.lv smL) ?_
    rintro e V11 ⟨rfl, hbl⟩
    have m11 : Mv (nob) V10 V11 := Mv.of_below hbl
    refine ⟨_, rfl, ?_⟩
    refine pt ?_
    clear hbl
    refine sg (.bool false) ?_
    refine sg (.bool false) ?_
    refine sv (.bool false) ?_
    replace bx0 := Xbn (Xbb (Xbn (Xbn bx0 m8) m9) m10) m11
    refine sl6 bx0 ?_
    replace LN := Xqn (Xqb (Xqn LN m9) m10 (fun x h => by have := ALN.out x h; omega)) m11
    refine sw_call (by rfl) (by first | rfl | (go_simp; done)) (specLinkOk_la false p _ _ _ _ V11 hok LN.out.la hsm) ?_
    rintro e V12 ⟨rfl, hbl⟩
    have m12 : Mv (nob) V11 V12 := Mv.of_below hbl
    refine ⟨_, rfl, ?_⟩
    refine pt ?_
    clear hbl
    refine sg (.bool true) ?_
    refine sg (.bool true) ?_
    refine nt (h8 _ _ (ct (sk fun K9 h9 => rl ?_))); clear h8 K8
    refine sv (.bool b) ?_
    refine sv (.bool b) ?_
    refine sg (.bool true) ?_
    refine sv (.bool true) ?_
    replace bx1 := Xbn (Xbn bx1 m11) m12
    refine sl6 bx1 ?_
    replace bx2 := Xbn (Xbn bx2 m11) m12
    refine sl6 bx2 ?_
    replace LI := Xqn (Xqn LI m11) m12; replace LT := Xqn (Xqn LT m11) m12
    refine sw_call (by rfl) (by first | rfl | (go_simp; done)) (sameLink_same L _ _ _ _ _ _ _ _ V12 LI.out.lv LT.out.lv smL) ?_
    rintro e V13 ⟨rfl, hbl⟩
    have m13 : Mv (nob) V12 V13 := Mv.of_below hbl
    refine ⟨_, rfl, ?_⟩
    refine pt ?_
    clear hbl
    refine sg (.bool true) ?_
    refine sv (.bool true) ?_
    refine nt (h9 _ _ (wp_ret (then_ret ?_))); clear h9 K9; clear h7 K7
    replace HB := Xhn (Xhn (Xhn (Xhb (Xhn (Xhn HB m8) m9) m10) m11) m12) m13; replace LN := Xqn (Xqn LN m12) m13; replace bx0 := Xbn (Xbn bx0 m12) m13; replace LI := Xqn LI m13; replace bx1 := Xbn bx1 m13; replace LT := Xqn LT m13; replace bx2 := Xbn bx2 m13
    exact bodyPost_ret (v := .bool true) (by simp [results, Try.results5, go_sem]) rfl ⟨rfl, HB.out.below⟩
  · have hf := lk_iff.1 hok
    have hB : p.base + p.nw ≤ 999900 := by have := hf.kg; have := hf.k0; have := hf.w8; omega
    obtain ⟨c1, c2, c3, c4, c5, c6⟩ := cm_all hf hB
    rw [hA] at c1 c2 c3 c4 c5 c6
    simp only at c1 c2 c3 c4 c5 c6
    subst c1
    refine sv (.bool true) ?_
    refine sv (.bool true) ?_
    refine sg (.bool false) ?_
    refine sv (.bool false) ?_
    replace bx1 := Xbb (Xbn bx1 m9) m10
    refine sl6 bx1 ?_
    refine sl6 bx2 ?_
    replace LI := Xqb (Xqn LI m9) m10 (fun x h => by have := ALI.out x h; omega); replace LT := Xqb (Xqn LT m9) m10 (fun x h => by have := ALT.out x h; omega)
    refine sw_call (by rfl) (by first | rfl | (go_simp; done)) (sameLink_same L _ _ _ _ _ _ _ _ V10 LI.out.lv LT.out.lv smL) ?_
    rintro e V14 ⟨rfl, hbl⟩
    have m14 : Mv (nob) V10 V14 := Mv.of_below hbl
    refine ⟨_, rfl, ?_⟩
    refine pt ?_
    clear hbl
    refine sg (.bool false) ?_
    refine sg (.bool false) ?_
    refine sv (.bool false) ?_
    replace bx0 := Xbn (Xbb (Xbn (Xbn bx0 m8) m9) m10) m14
    refine sl6 bx0 ?_
    replace LN := Xqn (Xqb (Xqn LN m9) m10 (fun x h => by have := ALN.out x h; omega)) m14
    refine sw_call (by rfl) (by first | rfl | (go_simp; done)) (specLinkOk_la true p _ _ _ _ V14 hok LN.out.la hsm) ?_
    rintro e V15 ⟨rfl, hbl⟩
    have m15 : Mv (nob) V14 V15 := Mv.of_below hbl
    refine ⟨_, rfl, ?_⟩
    refine pt ?_
    clear hbl
    refine sg (.bool false) ?_
    refine sg (.bool false) ?_
    refine nt (h8 _ _ (cf (wp_skip (then_normal (h7 _ _ (sk fun K10 h10 => ?_)))))); clear h8 K8; clear h7 K7
    replace HB := Xhn (Xhn (Xhb (Xhn (Xhn HB m8) m9) m10) m14) m15; replace LI := Xqn (Xqn LI m14) m15; replace bx1 := Xbn (Xbn bx1 m14) m15; replace LT := Xqn (Xqn LT m14) m15; replace bx2 := Xbn (Xbn bx2 m14) m15; replace LN := Xqn LN m15; replace bx0 := Xbn bx0 m15
    obtain ⟨bn, hbn⟩ : ∃ k : Nat, p.base = (k : Int) := ⟨p.base.toNat, by have := hf.b0; omega⟩
    have hbg : bn ≤ p.ng := by have := hf.kg; have := hf.k0; omega
    have hw8 := hf.w8
    obtain ⟨hsl, _⟩ := head_texts LN.out.go bn hbg
    refine wp_region_but (z := 999) (S := fun w' => Mv (fun x => False) V15.drew w') (by kernel_rfl) (Mv.refl _ _) (fun hS => ?_)
    have m16 : Mv nob V15 V15.drew := Mv.drew _
    obtain ⟨V16, hN⟩ : ∃ V, V15.drew = V := ⟨_, rfl⟩
    rw [hN] at hS m16 ⊢
    clear hN
    replace bx0 := Xbn bx0 m16
    have rbx0 := bx0
    refine tk0 1 (.pointer (some ⟨b0, 3, none⟩)) rfl ?_
    refine tk 2 (.slice ya p.ng yc) rfl (fun w' hSw => by (try dsimp only at hSw); have z0 := cell_box 3 (hSw.box rbx0.out (fun h => h)) rfl; go_simp) ?_
    refine tk0 3 (.pointer (some ⟨b0, 0, none⟩)) rfl ?_
    refine tk 4 (.int .i64 p.base) rfl (fun w' hSw => by (try dsimp only at hSw); have z0 := cell_box 0 (hSw.box rbx0.out (fun h => h)) rfl; go_simp) ?_
    refine tk 5 (.slice ya bn yc) rfl (fun w' hSw => by (try dsimp only at hSw); have h := hsl; have h2 := hbn; go_simp) ?_
    refine tk0 7 (.pointer (some ⟨b0, 1, none⟩)) rfl ?_
    refine tk 8 (.slice xa p.nw xc) rfl (fun w' hSw => by (try dsimp only at hSw); have z0 := cell_box 1 (hSw.box rbx0.out (fun h => h)) rfl; go_simp) ?_
    refine kd_valI (i := 0) (v := .slice (some ⟨V16.heap.size, 0, none⟩) 0 0) (w' := V16.alloc (.cells #[] 9)) (fun V => Mv nob V16 V ∧ V.heap[V16.heap.size]? = some (.cells #[] 9 (0, 0))) (by kernel_rfl) rfl (by rfl) (by first | rfl | go_simp) ⟨Mv.alloc _ _, heap_alloc_new _ _⟩ (fun V hI _ => hS.step hI.1 (fun _ _ h => h.elim)) ?_
    rintro V17 ⟨m17, nx⟩
    refine ptk ?_
    obtain ⟨b3, hb3⟩ : ∃ b3, V16.heap.size = b3 := ⟨_, rfl⟩
    rw [hb3] at nx ⊢
    replace bx2 := Xbn bx2 m16
    have o2_3 := Xlo bx2 hb3
    replace LN := Xqn LN m16
    replace ALN : Hid (∀ x, Lrb (.slice xa p.nw xc) (.slice ya p.ng yc) (.slice za p.nd zc) (.slice ta p.nu tc) x → x ≠ b0 ∧ x ≠ b1 ∧ x ≠ b2 ∧ x ≠ b3) := hide (fun x h => by have h1 := ALN.out x h; have h2 := (LN.out.lt x h).2; exact (by omega))
    replace LI := Xqn LI m16
    replace ALI : Hid (∀ x, Lrb (.slice x1a L.nw x1c) (.slice y1a L.ng y1c) (.slice z1a L.nd z1c) (.slice t1a L.nu t1c) x → x ≠ b0 ∧ x ≠ b1 ∧ x ≠ b2 ∧ x ≠ b3) := hide (fun x h => by have h1 := ALI.out x h; have h2 := (LI.out.lt x h).2; exact (by omega))
    replace LT := Xqn LT m16
    replace ALT : Hid (∀ x, Lrb (.slice x2a L.nw x2c) (.slice y2a L.ng y2c) (.slice z2a L.nd z2c) (.slice t2a L.nu t2c) x → x ≠ b0 ∧ x ≠ b1 ∧ x ≠ b2 ∧ x ≠ b3) := hide (fun x h => by have h1 := ALT.out x h; have h2 := (LT.out.lt x h).2; exact (by omega))
    have bx3 := hide nx
    clear nx
    replace hS := hS.step m17 (fun _ _ h => h.elim)
    clear hb3
    refine wpAnyK_re (S' := fun w' => Mv (fun x => False) V17 w') (fun w' h => hS.step h (fun _ _ h => h)) ?_
    replace hS : Mv (fun x => False) V17 V17 := Mv.refl _ _
    replace bx0 := Xbn bx0 m17
    have rbx0 := bx0; have rbx3 := bx3
    replace HB := Xhn (Xhn HB m16) m17
    have szW := HB.out.size
    have szT := lt_of_block bx3.out
    have szS := hS.size
    replace LN := Xqn LN m17
    have hltLN := fun x h => (LN.out.lt x h).2
    replace LI := Xqn LI m17
    have hltLI := fun x h => (LI.out.lt x h).2
    replace LT := Xqn LT m17
    have hltLT := fun x h => (LT.out.lt x h).2
    obtain ⟨ga, gk, V18, hrun, hgr, hrg, hbl⟩ := app_texts2 V17 V17.heap.size (.slice (some ⟨b3, 0, none⟩) 0 0) 0 (fun _ => e0) ya bn yc p.gs 24 (.inl ⟨⟨_, rfl⟩, rfl⟩) (head_texts LN.out.go bn hbg).2 (by omega) (by omega) (Nat.le_refl _)
    have m18 : Mv (nob) V17 V18 := mv_nil hgr
    replace hS := hS.step m18 (fun _ _ h => h.elim)
    refine kd_valW (i := 6) (by kernel_rfl) rfl (by rfl) (run_append_op _ _ 24 (by rfl) (by rfl) (by rfl) hrun) (fun _ => hS) ?_
    refine ptk ?_
    have HG := hide hrg
    have szV := hgr.size
    have hgb : ∀ x, rb (.slice ga (0 + bn) gk) = some x → V17.heap.size ≤ x := fun x e => (hbl x e).elim (fun h => absurd h (by simp [rb])) (fun h => h)
    clear hrun hgr hrg hbl
    replace LN := Xqn LN m18; replace LI := Xqn LI m18; replace LT := Xqn LT m18; replace HB := Xhn HB m18
    have szW2 := HB.out.size
    obtain ⟨ha, hk2, V19, hrun, hgr, hrg, hbl⟩ := app_texts2 V18 w.heap.size (.slice ga (0 + bn) gk) (0 + bn) (fun j => if j < 0 then e0 else p.gs (j - 0)) xa p.nw xc p.ws 24 (HG.out.base (by omega)) LN.out.lv.wa (by omega) (by omega) (by omega)
    have m19 : Mv (fun x => rb (.slice ga (0 + bn) gk) = some x) V18 V19 := Mv.of_grown hgr
    replace hS := hS.step m19 (fun g hg h => by have := hgb g h; exfalso; omega)
    refine kd_valW (i := 9) (by kernel_rfl) rfl (by rfl) (run_append_op _ _ 24 (by rfl) (by rfl) (by rfl) hrun) (fun _ => hS) ?_
    refine ptk ?_
    replace HB := hide (HB.out.step m19 (fun x hx e => by have := hgb x e; omega))
    replace LN := hide (LN.out.mv m19 (fun x h e => by have := hgb x e; have := hltLN x h; omega))
    replace bx0 := Xbn bx0 m18
    replace bx0 := hide (m19.box bx0.out (fun h => by have := hgb _ h; omega))
    replace LI := hide (LI.out.mv m19 (fun x h e => by have := hgb x e; have := hltLI x h; omega))
    replace bx1 := Xbn (Xbn (Xbn bx1 m16) m17) m18
    replace bx1 := hide (m19.box bx1.out (fun h => by have := hgb _ h; omega))
    replace LT := hide (LT.out.mv m19 (fun x h e => by have := hgb x e; have := hltLT x h; omega))
    replace bx2 := Xbn (Xbn bx2 m17) m18
    replace bx2 := hide (m19.box bx2.out (fun h => by have := hgb _ h; omega))
    replace bx3 := Xbn bx3 m18
    replace bx3 := hide (m19.box bx3.out (fun h => by have := hgb _ h; omega))
    have AHR : Hid (∀ x, rb (.slice ha (0 + bn + p.nw) hk2) = some x → x ≠ b0 ∧ x ≠ b1 ∧ x ≠ b2 ∧ x ≠ b3) := hide (fun x h => (hbl x h).elim (fun h3 => by have := hgb x h3; exact (by omega)) (fun h3 => by exact (by omega)))
    have HR := hide hrg
    clear hrun hgr hrg hbl HG hgb szV szT szW szW2 szS hltLN hltLI hltLT
    refine tk0 10 (.slice ha (0 + bn + p.nw) hk2) rfl ?_
    refine wpAnyK_done (by kernel_rfl) ?_
    clear hS rbx0 rbx3
    refine then_normal (h10 _ _ (sk fun K11 h11 => rl ?_)); clear h10 K10
    have hM : ∀ V wv gv dv uv, La V wv gv dv uv L → Calls Try.prog 17 #[.agg (l6 L.base wv L.want gv dv uv)] V (fun e w' => ∃ wv gv dv uv, e = .returned (.tuple #[.agg (l6 L.base wv L.want gv dv uv), .bool true]) ∧ Lr w' V.heap.size wv gv dv uv L ∧ Below V.heap.size V w') := fun V wv gv dv uv h => by have q := implCalmed_any L wv gv dv uv V h smL; rw [c6] at q; exact q
    refine sl6 bx1 ?_
    have szT := lt_of_block bx3.out
    have szW := HB.out.size
    refine sw_call (by rfl) (by first | rfl | (go_simp; done)) (hM V19 _ _ _ _ LI.out.la) ?_
    rintro e V20 ⟨wv1, gv1, dv1, uv1, rfl, LQ, hbl⟩
    have m20 : Mv (nob) V19 V20 := Mv.of_below hbl
    refine ⟨_, rfl, ?_⟩
    refine pt ?_
    obtain ⟨x4a, x4c, rfl, _⟩ := LQ.wa.form
    obtain ⟨y4a, y4c, rfl, _⟩ := LQ.go.form
    obtain ⟨z4a, z4c, rfl, _⟩ := LQ.dn.form
    obtain ⟨t4a, t4c, rfl, _⟩ := LQ.up.form
    have LM := hide (LQ.lower szW)
    have ALM : Hid (∀ x, Lrb (.slice x4a L.nw x4c) (.slice y4a L.ng y4c) (.slice z4a L.nd z4c) (.slice t4a L.nu t4c) x → x ≠ b0 ∧ x ≠ b1 ∧ x ≠ b2 ∧ x ≠ b3) := hide (fun x h => by have := (LQ.lt x h).1; exact (by omega))
    clear LQ hbl szW szT
    refine sv (.tuple #[.agg #[.int .i64 L.base, .slice x4a L.nw x4c, .int .i64 L.want, .slice y4a L.ng y4c, .slice z4a L.nd z4c, .slice t4a L.nu t4c], .bool true]) ?_
    refine sv (.agg #[.int .i64 L.base, .slice x4a L.nw x4c, .int .i64 L.want, .slice y4a L.ng y4c, .slice z4a L.nd z4c, .slice t4a L.nu t4c]) ?_
    refine sv (.bool true) ?_
    replace bx3 := Xbn bx3 m20
    refine sbp #[.int .i64 0, .slice none 0 0, .int .i64 0, .slice none 0 0, .slice none 0 0, .slice none 0 0] 27 fun V21 b4 hb4 m21 bx4 => ?_
    have o3_4 := Xlo bx3 hb4
    replace HR := Xgn HR m20
    replace AHR : Hid (∀ x, rb (.slice ha (0 + bn + p.nw) hk2) = some x → x ≠ b0 ∧ x ≠ b1 ∧ x ≠ b2 ∧ x ≠ b3 ∧ x ≠ b4) := hide (fun x h => by have h1 := AHR.out x h; have h2 := (HR.out.lt x h).2; exact (by omega))
    replace LN := Xqn LN m20
    replace ALN : Hid (∀ x, Lrb (.slice xa p.nw xc) (.slice ya p.ng yc) (.slice za p.nd zc) (.slice ta p.nu tc) x → x ≠ b0 ∧ x ≠ b1 ∧ x ≠ b2 ∧ x ≠ b3 ∧ x ≠ b4) := hide (fun x h => by have h1 := ALN.out x h; have h2 := (LN.out.lt x h).2; exact (by omega))
    replace LI := Xqn LI m20
    replace ALI : Hid (∀ x, Lrb (.slice x1a L.nw x1c) (.slice y1a L.ng y1c) (.slice z1a L.nd z1c) (.slice t1a L.nu t1c) x → x ≠ b0 ∧ x ≠ b1 ∧ x ≠ b2 ∧ x ≠ b3 ∧ x ≠ b4) := hide (fun x h => by have h1 := ALI.out x h; have h2 := (LI.out.lt x h).2; exact (by omega))
    replace LT := Xqn LT m20
    replace ALT : Hid (∀ x, Lrb (.slice x2a L.nw x2c) (.slice y2a L.ng y2c) (.slice z2a L.nd z2c) (.slice t2a L.nu t2c) x → x ≠ b0 ∧ x ≠ b1 ∧ x ≠ b2 ∧ x ≠ b3 ∧ x ≠ b4) := hide (fun x h => by have h1 := ALT.out x h; have h2 := (LT.out.lt x h).2; exact (by omega))
    replace ALM : Hid (∀ x, Lrb (.slice x4a L.nw x4c) (.slice y4a L.ng y4c) (.slice z4a L.nd z4c) (.slice t4a L.nu t4c) x → x ≠ b0 ∧ x ≠ b1 ∧ x ≠ b2 ∧ x ≠ b3 ∧ x ≠ b4) := hide (fun x h => by have h1 := ALM.out x h; have h2 := (LM.out.lt x h).2; exact (by omega))
    clear hb4
    refine ss6 (.int .i64 L.base) (.slice x4a L.nw x4c) (.int .i64 L.want) (.slice y4a L.ng y4c) (.slice z4a L.nd z4c) (.slice t4a L.nu t4c) bx4 fun V22 m22 bx4 => ?_
    refine sv (.bool true) ?_
    refine nt (h11 _ _ (sk fun K12 h12 => rl ?_)); clear h11 K11
    refine sv (.bool true) ?_
    refine sv (.bool true) ?_
    refine sv (.bool true) ?_
    refine sg (.bool true) ?_
    refine sv (.bool true) ?_
    refine sv (.pointer (some ⟨b1, 1, none⟩)) ?_
    replace bx1 := Xbb (Xbn (Xbn bx1 m20) m21) m22
    refine sl 1 bx1 ?_
    refine sg (.int .i64 ((L.nw : Int))) ?_
    refine sg (.bool true) (h := by have q1 := c3; have q2 : ((L.nw : Int) == 0) = true := (by simp [c3]); have q3 : (L.nw == 0) = true := (by simp [c3]); go_simp) ?_
    refine sg (.bool true) ?_
    refine sv (.bool true) ?_
    refine sv (.pointer (some ⟨b1, 3, none⟩)) ?_
    refine sl 3 bx1 ?_
    refine sv (.slice ha (0 + bn + p.nw) hk2) ?_
    replace LI := Xqb (Xqn LI m21) m22 (fun x h => by have := ALI.out x h; omega); replace HR := Xgb (Xgn HR m21) m22 (fun x h => by have := AHR.out x h; omega)
    refine sw_call (by rfl) (by first | rfl | (go_simp; done)) (sameTexts_same _ (.slice ha (0 + bn + p.nw) hk2) L.ng L.gs V22 LI.out.lv.go (by have h := HR.out.sg; rw [show 0 + bn + p.nw = L.ng by omega] at h ⊢; exact h.congr (fun j hj i hi => by show Value.string _ = Value.string _; rw [c5 j hj]; unfold Al; rw [show p.base.toNat = bn by omega]; simp only [Nat.zero_add, Nat.not_lt_zero, if_false, Nat.sub_zero])) (by have := smL.2.1.1; omega)) ?_
    rintro e V23 ⟨rfl, hbl⟩
    have m23 : Mv (nob) V22 V23 := Mv.of_below hbl
    refine ⟨_, rfl, ?_⟩
    refine pt ?_
    clear hbl
    refine sg (.bool true) ?_
    refine sv (.bool true) ?_
    replace bx4 := Xbn bx4 m23
    refine sl6 bx4 ?_
    replace bx1 := Xbn bx1 m23
    refine sl6 bx1 ?_
    replace LM := Xqn (Xqb (Xqn LM m21) m22 (fun x h => by have := ALM.out x h; omega)) m23; replace LI := Xqn LI m23
    refine sw_call (by rfl) (by first | rfl | (go_simp; done)) (sameLink_same L _ _ _ _ _ _ _ _ V23 LM.out.lv LI.out.lv smL) ?_
    rintro e V24 ⟨rfl, hbl⟩
    have m24 : Mv (nob) V23 V24 := Mv.of_below hbl
    refine ⟨_, rfl, ?_⟩
    refine pt ?_
    clear hbl
    refine sg (.bool true) ?_
    refine sv (.bool true) ?_
    refine nt (h12 _ _ (wp_ret ?_)); clear h12 K12
    replace HB := Xhn (Xhn (Xhb (Xhn (Xhn HB m20) m21) m22) m23) m24; replace bx0 := Xbn (Xbn (Xbb (Xbn (Xbn bx0 m20) m21) m22) m23) m24; replace bx2 := Xbn (Xbn (Xbb (Xbn (Xbn bx2 m20) m21) m22) m23) m24; replace LN := Xqn (Xqn (Xqb (Xqn LN m21) m22 (fun x h => by have := ALN.out x h; omega)) m23) m24; replace LT := Xqn (Xqn (Xqb (Xqn LT m21) m22 (fun x h => by have := ALT.out x h; omega)) m23) m24
    replace bx3 := Xbn (Xbn (Xbb (Xbn bx3 m21) m22) m23) m24; replace HR := Xgn (Xgn HR m23) m24; replace LI := Xqn LI m24; replace bx1 := Xbn bx1 m24; replace LM := Xqn LM m24; replace bx4 := Xbn bx4 m24
    exact bodyPost_ret (v := .bool true) (by simp [results, Try.results5, go_sem]) rfl ⟨rfl, HB.out.below⟩

set_option maxRecDepth 100000 in
theorem lifted (os : Os) (started : os.Started) (H : Type) (enc : TypeId × Value → H) :
    ReturnsInHanded {} Try.checked os 5 .any (Rows.fnLinkCalmSpec.pre6 enc Try.prog Try.f5 Rows.fnLinkCalmRow.domain false) (Rows.fnLinkCalmSpec.post enc Try.prog Try.f5 false true false false) := by
  refine returnsInHanded_of_change (C := Try.checked) own started (by kernel_rfl) Try.func5
    (ChangeSpec.witness6 (enc := enc) (C := Try.checked) false ⟨#[], #[.slice none 0 0], []⟩ 8 (by kernel_rfl) (by kernel_rfl) (by kernel_rfl) (by kernel_rfl)) ?_
  intro W base args ds gs before hval0 hW hcnd _
  have hval : ∀ (j : Nat) t v, Try.f5.params[j]? = some t → args[j]? = some v → Value.okWide Try.prog W .any base t v := hval0
  have hW' := hW
  obtain ⟨p, q, hA0, hV, rfl, hfz, hnd⟩ := hW
  have hA : DataW.TrodAll enc Try.prog W 0 (fun _ => true) true Try.f5.params.toList args.toList ds p := hA0
  rw [Try.params5] at hA hval
  obtain ⟨v0, vs0, d0, ds0, p0, q0, hargs, rfl, rfl, h0, r0⟩ := trodAll_cons hA
  obtain ⟨rfl, rfl, rfl⟩ := trodAll_nil r0
  obtain rfl : args = #[v0] := by cases args; simp_all
  obtain ⟨rfl, rfl⟩ := trodVars_none hV
  obtain ⟨a0, len0, cap0, rfl⟩ := okWide_slice Try.underlying22 (hval 0 22 v0 rfl rfl)
  have k0 := h0
  have lt0 : ∀ x ∈ p0, x.block < W.heap.size := by obtain ⟨m, hm⟩ := k0; exact DataW.trod_lt m _ _ _ hm
  obtain ⟨z0, w0⟩ : ∃ zs, IsRow .u8 W a0 len0 cap0 zs := by
    obtain ⟨fuel, hf⟩ := h0
    rcases open_ints Try.underlying22 Try.underlying5 (by kernel_rfl) hf with ⟨hcs, _⟩ | ⟨x, l, c, zs, hcs, _, hl, hm, hz, _, hcell, hwz⟩
    · simp [Value.cells] at hcs
      obtain ⟨rfl, rfl, rfl⟩ := hcs
      exact ⟨[], .inl ⟨rfl, rfl, rfl, rfl⟩⟩
    · simp [Value.cells] at hcs
      obtain ⟨rfl, rfl, rfl⟩ := hcs
      exact ⟨zs, .inr ⟨_, rfl, hl, hm, by simpa using hz, hcell, hwz⟩⟩
  clear hA0 hval0
  refine (walk a0 len0 cap0 W (row_bt w0)).mono fun e W' ⟨he, bel⟩ => ?_
  subst he
  exact ⟨_, rfl, _, _, _, [], _, [], hW', trodAll_mk1 (shut_bool Try.underlying4 _), (trodAll_cons_mk (Below.trod laidOut (by kernel_rfl) (of_decide_eq_true (by kernel_rfl)) k0 bel lt0) trodAll_mk0), rfl, bel.frame _, fun h => by cases h⟩

theorem over : Rows.fnLinkCalmRow.holds Try.pinned (OpenSpec.ofChange Rows.fnLinkCalmSpec) :=
  OpenClaim.holds_of_wide 5 Try.f5 rfl rfl rfl rfl rfl rfl rfl ⟨rfl, rfl, rfl, rfl, rfl⟩ rfl rfl rfl rfl rfl (by kernel_rfl) Try.func5 (by kernel_rfl)
    (of_decide_eq_true (by kernel_rfl)) (by unfold Func.isWrapper; first | (rw [if_pos (by decide +kernel)]; kernel_rfl) | (rw [if_neg (by decide +kernel)]; exact ⟨rfl, rfl⟩))
    (fun os started H enc _ => lifted os started H enc)

theorem proved : Rows.FnLinkCalmSaid := over
end Go.Proofs.Ytgflipkhhpkidaa.fnLinkCalm

namespace Go.Proofs.Ytgflipkhhpkidaa
theorem fnLinkCalm_holds : Rows.FnLinkCalmSaid := fnLinkCalm.proved
end Go.Proofs.Ytgflipkhhpkidaa
