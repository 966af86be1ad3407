/- Proved: for every code, laws.FnLinkPieces returns true. No condition. -/
import Derived.Test.YtgflipkhhpkidaaRows
import Derived.Test.YtgflipkhhpkidaaYPieces54
import Derived.WalkKit
import Derived.ProofKit
import Derived.OpenShut
import Derived.ShutString
import Derived.ChangeOld
import Derived.Below
import Derived.OpenVars
namespace Go.Proofs.Ytgflipkhhpkidaa.fnLinkPieces
open Go.ChangeShapes Go.WideShapes Go.ChangeAt Go.WideMaps Go.WideElems Go.RowKit
set_option linter.unusedVariables false
set_option linter.unusedSimpArgs false

theorem own : ownKnob Try.prog.godebug = none := by kernel_rfl
theorem laidOut : laidOutB Try.prog = true := by kernel_rfl

def IsRow (k : IntKind) (w : World) (a : Option Addr) (len cap : Nat) (zs : List Int) : Prop :=
  (a = none ∧ len = 0 ∧ cap = 0 ∧ zs = []) ∨
  ∃ x, a = some x ∧ len ≤ cap ∧ cap ≤ maxLen ∧ zs.length = cap ∧ (∀ i, i < zs.length → w.cell? (x.add i) = some (.int k (zs.getD i 0))) ∧ ∀ n ∈ zs, (Lit.int k n).wf = true

theorem row_bt {w : World} {a : Option Addr} {len cap : Nat} {z : List Int} (h : IsRow .u8 w a len cap z) : Bt w a len := by
  intro h0
  rcases h with ⟨rfl, rfl, rfl, rfl⟩ | ⟨x, rfl, hl, hm, hz, hcell, hwf⟩
  · exact absurd h0 (by simp)
  · obtain ⟨b, off, spot⟩ := x
    have hc := hcell 0 (by omega)
    have hspot : spot = none := by simpa [Addr.add] using World.cell?_spot hc
    subst hspot
    refine ⟨b, off, rfl, fun j hj => ?_⟩
    have hcj := hcell j (by omega)
    rw [addr_add] at hcj
    have hj' : j < z.length := by omega
    have e : z.getD j 0 = z[j] := by simp [hj']
    have hw := bounds_u8 (hwf z[j] (List.getElem_mem hj'))
    exact ⟨z.getD j 0, by rw [e]; exact hw.1, by rw [e]; exact hw.2, hcj⟩

set_option maxHeartbeats 16000000 in
set_option maxRecDepth 20000 in
theorem walk (a0 : Option Addr) (len0 cap0 : Nat) (w : World) (hs : Bt w a0 len0) :
    Calls Try.prog 6 #[.slice a0 len0 cap0] w fun e w' => e = .returned (.bool true) ∧ Below w.heap.size w w' := by
  by_cases hbig : (1048576 : Int) < (len0 : Int)
  · go_enter Try.func6, Try.ntmps6
    go_wp2
    go_ret
    exact ⟨rfl, Below.refl _ _⟩
  have hb : len0 ≤ 1048576 := by omega
  clear hbig
  have HB : Hid (Mv nob w w) := hide (Mv.refl _ _)
  have BT := hide hs
  clear hs
  go_enter Try.func6, Try.ntmps6
  refine sk fun K1 h1 => rl ?_
  refine sv (.bool false) ?_
  refine nt (h1 _ _ (sk fun K2 h2 => sk fun K3 h3 => rl ?_)); clear h1 K1
  refine sv (.slice a0 len0 cap0) ?_
  refine sw_call (by rfl) (by first | rfl | (go_simp; done)) (big_no a0 len0 cap0 w hb) ?_
  rintro e V1 ⟨rfl, hwV1⟩
  have m1 : Mv (nob) w V1 := hwV1 ▸ Mv.refl _ _
  refine ⟨_, rfl, ?_⟩
  refine pt ?_
  refine nt (h3 _ _ (cf (wp_skip (then_normal (h2 _ _ (sk fun K4 h4 => rl ?_)))))); clear h3 K3; clear h2 K2
  refine sv (.slice a0 len0 cap0) ?_
  replace HB := Xhn HB m1
  have szW := HB.out.size
  replace BT := Xtn BT m1
  refine sw_call (by rfl) (by first | rfl | (go_simp; done)) (drawPlay_any a0 len0 cap0 V1 BT.out hb) ?_
  rintro e V2 ⟨wv, gv, dv, uv, p, la, m, lc, s, rfl, LQ, hsm, RQ, hm, hbl⟩
  have m2 : Mv (nob) V1 V2 := Mv.of_below hbl
  refine ⟨_, rfl, ?_⟩
  refine pt ?_
  obtain ⟨xa, xc, rfl, _⟩ := LQ.wa.form
  obtain ⟨ya, yc, rfl, _⟩ := LQ.go.form
  obtain ⟨za, zc, rfl, _⟩ := LQ.dn.form
  obtain ⟨ta, tc, rfl, _⟩ := LQ.up.form
  have LN := hide (LQ.lower szW)
  have ALN : Hid (∀ x, Lrb (.slice xa p.nw xc) (.slice ya p.ng yc) (.slice za p.nd zc) (.slice ta p.nu tc) x → True) := hide (fun x h => trivial)
  have LF := hide (RQ.lower szW)
  have ALF : Hid (∀ x, rb (.slice la m lc) = some x → True) := hide (fun x h => trivial)
  clear LQ RQ hbl szW
  refine sv (.tuple #[.agg #[.int .i64 p.base, .slice xa p.nw xc, .int .i64 p.want, .slice ya p.ng yc, .slice za p.nd zc, .slice ta p.nu tc], .slice la m lc]) ?_
  refine sv (.agg #[.int .i64 p.base, .slice xa p.nw xc, .int .i64 p.want, .slice ya p.ng yc, .slice za p.nd zc, .slice ta p.nu tc]) ?_
  refine sv (.slice la m lc) ?_
  refine sbp #[.int .i64 0, .slice none 0 0, .int .i64 0, .slice none 0 0, .slice none 0 0, .slice none 0 0] 27 fun V3 b0 hb0 m3 bx0 => ?_
  replace HB := Xhn HB m2
  have o_0 : w.heap.size ≤ b0 := Xhs HB hb0
  replace ALF : Hid (∀ x, rb (.slice la m lc) = some x → x ≠ b0) := hide (fun x h => by have h1 := ALF.out x h; have h2 := (LF.out.lt x h).2; exact (by omega))
  replace ALN : Hid (∀ x, Lrb (.slice xa p.nw xc) (.slice ya p.ng yc) (.slice za p.nd zc) (.slice ta p.nu tc) x → x ≠ b0) := hide (fun x h => by have h1 := ALN.out x h; have h2 := (LN.out.lt x h).2; exact (by omega))
  clear hb0
  refine ss6 (.int .i64 p.base) (.slice xa p.nw xc) (.int .i64 p.want) (.slice ya p.ng yc) (.slice za p.nd zc) (.slice ta p.nu tc) bx0 fun V4 m4 bx0 => ?_
  clear BT
  refine sv (.slice la m lc) ?_
  refine nt (h4 _ _ (sk fun K5 h5 => rl ?_)); clear h4 K4
  rcases (show lkB p = false ∨ lkB p = true by cases lkB p <;> simp) with hok | hok
  · refine sl6 bx0 ?_
    refine sv (.slice la m lc) ?_
    replace LN := Xqb (Xqn LN m3) m4 (fun x h => by have := ALN.out x h; omega)
    refine sw_call (by rfl) (by first | rfl | (go_simp; done)) (implPlay_no p _ _ _ _ V4 LN.out.la hsm la m lc (.inl hok)) ?_
    rintro e V5 ⟨rfl, hbl⟩
    have m5 : Mv (nob) V4 V5 := Mv.of_below hbl
    refine ⟨_, rfl, ?_⟩
    refine pt ?_
    clear hbl
    refine sv (.tuple #[.agg #[.int .i64 0, .slice none 0 0, .int .i64 0, .slice none 0 0, .slice none 0 0, .slice none 0 0], .slice none 0 0]) ?_
    refine sv (.agg #[.int .i64 0, .slice none 0 0, .int .i64 0, .slice none 0 0, .slice none 0 0, .slice none 0 0]) ?_
    refine sv (.slice none 0 0) ?_
    replace bx0 := Xbn bx0 m5
    refine sbp #[.int .i64 0, .slice none 0 0, .int .i64 0, .slice none 0 0, .slice none 0 0, .slice none 0 0] 27 fun V6 b1 hb1 m6 bx1 => ?_
    have o0_1 := Xlo bx0 hb1
    replace LF := Xgn (Xgb (Xgn LF m3) m4 (fun x h => by have := ALF.out x h; omega)) m5
    replace ALF : Hid (∀ x, rb (.slice la m lc) = some x → x ≠ b0 ∧ x ≠ b1) := hide (fun x h => by have h1 := ALF.out x h; have h2 := (LF.out.lt x h).2; exact (by omega))
    replace LN := Xqn LN m5
    replace ALN : Hid (∀ x, Lrb (.slice xa p.nw xc) (.slice ya p.ng yc) (.slice za p.nd zc) (.slice ta p.nu tc) x → x ≠ b0 ∧ x ≠ b1) := hide (fun x h => by have h1 := ALN.out x h; have h2 := (LN.out.lt x h).2; exact (by omega))
    clear hb1
    refine ss6 (.int .i64 0) (.slice none 0 0) (.int .i64 0) (.slice none 0 0) (.slice none 0 0) (.slice none 0 0) bx1 fun V7 m7 bx1 => ?_
    refine sv (.slice none 0 0) ?_
    refine nt (h5 _ _ (sk fun K6 h6 => rl ?_)); clear h5 K5
    replace bx0 := Xbb (Xbn bx0 m6) m7
    refine sl6 bx0 ?_
    refine sv (.slice la m lc) ?_
    replace LN := Xqb (Xqn LN m6) m7 (fun x h => by have := ALN.out x h; omega)
    refine sw_call (by rfl) (by first | rfl | (go_simp; done)) (specPlay_no p _ _ _ _ V7 LN.out.la hsm la m lc (.inl hok)) ?_
    rintro e V8 ⟨rfl, hbl⟩
    have m8 : Mv (nob) V7 V8 := Mv.of_below hbl
    refine ⟨_, rfl, ?_⟩
    refine pt ?_
    clear hbl
    refine sv (.tuple #[.agg #[.int .i64 0, .slice none 0 0, .int .i64 0, .slice none 0 0, .slice none 0 0, .slice none 0 0], .slice none 0 0]) ?_
    refine sv (.agg #[.int .i64 0, .slice none 0 0, .int .i64 0, .slice none 0 0, .slice none 0 0, .slice none 0 0]) ?_
    refine sv (.slice none 0 0) ?_
    replace bx1 := Xbn bx1 m8
    refine sbp #[.int .i64 0, .slice none 0 0, .int .i64 0, .slice none 0 0, .slice none 0 0, .slice none 0 0] 27 fun V9 b2 hb2 m9 bx2 => ?_
    have o1_2 := Xlo bx1 hb2
    replace LF := Xgn (Xgb (Xgn LF m6) m7 (fun x h => by have := ALF.out x h; omega)) m8
    replace ALF : Hid (∀ x, rb (.slice la m lc) = some x → x ≠ b0 ∧ x ≠ b1 ∧ x ≠ b2) := hide (fun x h => by have h1 := ALF.out x h; have h2 := (LF.out.lt x h).2; exact (by omega))
    replace LN := Xqn LN m8
    replace ALN : Hid (∀ x, Lrb (.slice xa p.nw xc) (.slice ya p.ng yc) (.slice za p.nd zc) (.slice ta p.nu tc) x → x ≠ b0 ∧ x ≠ b1 ∧ x ≠ b2) := hide (fun x h => by have h1 := ALN.out x h; have h2 := (LN.out.lt x h).2; exact (by omega))
    clear hb2
    refine ss6 (.int .i64 0) (.slice none 0 0) (.int .i64 0) (.slice none 0 0) (.slice none 0 0) (.slice none 0 0) bx2 fun V10 m10 bx2 => ?_
    refine sv (.slice none 0 0) ?_
    refine nt (h6 _ _ (sk fun K7 h7 => sk fun K8 h8 => rl ?_)); clear h6 K6
    refine sv (.slice none 0 0) ?_
    refine sv (.slice none 0 0) ?_
    refine sw_call (by rfl) (by first | rfl | (go_simp; done)) (sameInts_same (.slice none 0 0) (.slice none 0 0) 0 (fun _ => 0) V10 (rg_nil V10 0 _ _).sg (rg_nil V10 0 _ _).sg (by omega)) ?_
    rintro e V11 ⟨rfl, hbl⟩
    have m11 : Mv (nob) V10 V11 := Mv.of_below hbl
    refine ⟨_, rfl, ?_⟩
    refine pt ?_
    clear hbl
    refine sg (.bool false) ?_
    refine sv (.bool false) ?_
    replace bx1 := Xbn (Xbb (Xbn bx1 m9) m10) m11
    refine sl6 bx1 ?_
    replace bx2 := Xbn bx2 m11
    refine sl6 bx2 ?_
    refine sw_call (by rfl) (by have hz1 : zeL.base = 0 := rfl; have hz2 : zeL.want = 0 := rfl; first | rfl | (go_simp; done)) (sameLink_same zeL (.slice none 0 0) (.slice none 0 0) (.slice none 0 0) (.slice none 0 0) (.slice none 0 0) (.slice none 0 0) (.slice none 0 0) (.slice none 0 0) V11 (zeL_lr V11 0).lv (zeL_lr V11 0).lv (lk_iff.1 (show lkB zeL = true by decide)).sm) ?_
    rintro e V12 ⟨rfl, hbl⟩
    have m12 : Mv (nob) V11 V12 := Mv.of_below hbl
    refine ⟨_, rfl, ?_⟩
    refine pt ?_
    clear hbl
    refine sg (.bool false) ?_
    refine sg (.bool false) ?_
    refine sv (.bool false) ?_
    replace bx0 := Xbn (Xbn (Xbb (Xbn (Xbn bx0 m8) m9) m10) m11) m12
    refine sl6 bx0 ?_
    replace LN := Xqn (Xqn (Xqb (Xqn LN m9) m10 (fun x h => by have := ALN.out x h; omega)) m11) m12
    refine sw_call (by rfl) (by first | rfl | (go_simp; done)) (specLinkOk_la false p _ _ _ _ V12 hok LN.out.la hsm) ?_
    rintro e V13 ⟨rfl, hbl⟩
    have m13 : Mv (nob) V12 V13 := Mv.of_below hbl
    refine ⟨_, rfl, ?_⟩
    refine pt ?_
    clear hbl
    refine sg (.bool true) ?_
    refine sg (.bool true) ?_
    refine nt (h8 _ _ (ct (sk fun K9 h9 => rl ?_))); clear h8 K8
    refine sv (.slice none 0 0) ?_
    refine sv (.slice none 0 0) ?_
    refine sw_call (by rfl) (by first | rfl | (go_simp; done)) (sameInts_same (.slice none 0 0) (.slice none 0 0) 0 (fun _ => 0) V13 (rg_nil V13 0 _ _).sg (rg_nil V13 0 _ _).sg (by omega)) ?_
    rintro e V14 ⟨rfl, hbl⟩
    have m14 : Mv (nob) V13 V14 := Mv.of_below hbl
    refine ⟨_, rfl, ?_⟩
    refine pt ?_
    clear hbl
    refine sv (.bool true) ?_
    replace bx1 := Xbn (Xbn (Xbn bx1 m12) m13) m14
    refine sl6 bx1 ?_
    replace bx2 := Xbn (Xbn (Xbn bx2 m12) m13) m14
    refine sl6 bx2 ?_
    refine sw_call (by rfl) (by have hz1 : zeL.base = 0 := rfl; have hz2 : zeL.want = 0 := rfl; first | rfl | (go_simp; done)) (sameLink_same zeL (.slice none 0 0) (.slice none 0 0) (.slice none 0 0) (.slice none 0 0) (.slice none 0 0) (.slice none 0 0) (.slice none 0 0) (.slice none 0 0) V14 (zeL_lr V14 0).lv (zeL_lr V14 0).lv (lk_iff.1 (show lkB zeL = true by decide)).sm) ?_
    rintro e V15 ⟨rfl, hbl⟩
    have m15 : Mv (nob) V14 V15 := Mv.of_below hbl
    refine ⟨_, rfl, ?_⟩
    refine pt ?_
    clear hbl
    refine sg (.bool true) ?_
    refine sv (.bool true) ?_
    refine nt (h9 _ _ (wp_ret (then_ret ?_))); clear h9 K9; clear h7 K7
    replace HB := Xhn (Xhn (Xhn (Xhn (Xhn (Xhb (Xhn (Xhn (Xhb (Xhn (Xhn (Xhb (Xhn HB m3) m4) m5) m6) m7) m8) m9) m10) m11) m12) m13) m14) m15; replace LF := Xgn (Xgn (Xgn (Xgn (Xgn (Xgb (Xgn LF m9) m10 (fun x h => by have := ALF.out x h; omega)) m11) m12) m13) m14) m15; replace LN := Xqn (Xqn (Xqn LN m13) m14) m15
    replace bx0 := Xbn (Xbn (Xbn bx0 m13) m14) m15; replace bx1 := Xbn bx1 m15; replace bx2 := Xbn bx2 m15
    exact bodyPost_ret (v := .bool true) (by simp [results, Try.results6, go_sem]) rfl ⟨rfl, HB.out.below⟩
  · have hf := lk_iff.1 hok
    have smL := (pl_lf (s := s) hf m).sm
    obtain ⟨k, hk⟩ : ∃ k : Nat, len0 % (m + 1) = k := ⟨_, rfl⟩
    have hkm : k ≤ m := by have := Nat.mod_lt len0 (show 0 < m + 1 by omega); omega
    have smM := pl_lf (s := s) hf k
    have hadd : plN (fun j => s (k + j)) (m - k) (plN s k p) = plN s m p := by rw [pl_add, show k + (m - k) = m by omega]
    have hI := fun V wv gv dv uv (h : La V wv gv dv uv p) hc => implPlay_yes p wv gv dv uv V h hf s la m lc hc hm
    have hT := fun V wv gv dv uv (h : La V wv gv dv uv p) hc => specPlay_yes p wv gv dv uv V h hf s la m lc hc hm
    have hA := fun V wv gv dv uv (h : La V wv gv dv uv p) hc => implPlay_yes p wv gv dv uv V h hf s la k lc hc (by omega)
    have hB := fun (ad : Option Addr) (cp : Nat) V wv gv dv uv (h : La V wv gv dv uv (plN s k p)) hc => implPlay_yes (plN s k p) wv gv dv uv V h smM (fun j => s (k + j)) ad (m - k) cp hc (by omega)
    rw [hadd] at hB
    generalize plN s m p = L at *
    have hC2 := fun j (hj : j < m) => codes_two s p k m hkm j hj
    generalize plN s k p = M at *
    obtain ⟨C, hC⟩ : ∃ C, (fun c => pcN s p c) = C := ⟨_, rfl⟩
    obtain ⟨D, hD⟩ : ∃ D, (fun c => pcN (fun j => s (k + j)) M c) = D := ⟨_, rfl⟩
    rw [hC] at hI hT hA
    rw [hD] at hB
    replace hC2 : ∀ j, j < m → (if j < k then C j else D (j - k)) = C j := fun j hj => by rw [← hC, ← hD]; exact hC2 j hj
    clear hC hD hadd
    refine sl6 bx0 ?_
    refine sv (.slice la m lc) ?_
    have szT := lt_of_block bx0.out
    replace HB := Xhb (Xhn HB m3) m4
    have szW := HB.out.size
    replace LN := Xqb (Xqn LN m3) m4 (fun x h => by have := ALN.out x h; omega); replace LF := Xgb (Xgn LF m3) m4 (fun x h => by have := ALF.out x h; omega)
    refine sw_call (by rfl) (by first | rfl | (go_simp; done)) (hI V4 _ _ _ _ LN.out.la (acts_cut LF.out m (Nat.le_refl m)).1.2) ?_
    rintro e V16 ⟨wv1, gv1, dv1, uv1, cv1, rfl, LQ, RQ, hap, hbl⟩
    have m16 : Mv (nob) V4 V16 := Mv.of_below hbl
    refine ⟨_, rfl, ?_⟩
    refine pt ?_
    obtain ⟨cia, cic, rfl, _⟩ := RQ.form
    obtain ⟨x1a, x1c, rfl, _⟩ := LQ.wa.form
    obtain ⟨y1a, y1c, rfl, _⟩ := LQ.go.form
    obtain ⟨z1a, z1c, rfl, _⟩ := LQ.dn.form
    obtain ⟨t1a, t1c, rfl, _⟩ := LQ.up.form
    have LI := hide (LQ.lower szW)
    have ALI : Hid (∀ x, Lrb (.slice x1a L.nw x1c) (.slice y1a L.ng y1c) (.slice z1a L.nd z1c) (.slice t1a L.nu t1c) x → x ≠ b0) := hide (fun x h => by have := (LQ.lt x h).1; exact (by omega))
    have CI := hide (RQ.lower szW)
    have ACI : Hid (∀ x, rb (.slice cia m cic) = some x → x ≠ b0) := hide (fun x h => by have := (RQ.lt x h).1; exact (by omega))
    clear LQ RQ hap hbl szW szT
    refine sv (.tuple #[.agg #[.int .i64 L.base, .slice x1a L.nw x1c, .int .i64 L.want, .slice y1a L.ng y1c, .slice z1a L.nd z1c, .slice t1a L.nu t1c], .slice cia m cic]) ?_
    refine sv (.agg #[.int .i64 L.base, .slice x1a L.nw x1c, .int .i64 L.want, .slice y1a L.ng y1c, .slice z1a L.nd z1c, .slice t1a L.nu t1c]) ?_
    refine sv (.slice cia m cic) ?_
    replace bx0 := Xbn bx0 m16
    refine sbp #[.int .i64 0, .slice none 0 0, .int .i64 0, .slice none 0 0, .slice none 0 0, .slice none 0 0] 27 fun V17 b1 hb1 m17 bx1 => ?_
    have o0_1 := Xlo bx0 hb1
    replace LF := Xgn LF m16
    replace ALF : Hid (∀ x, rb (.slice la m lc) = some x → x ≠ b0 ∧ x ≠ b1) := hide (fun x h => by have h1 := ALF.out x h; have h2 := (LF.out.lt x h).2; exact (by omega))
    replace ACI : Hid (∀ x, rb (.slice cia m cic) = some x → x ≠ b0 ∧ x ≠ b1) := hide (fun x h => by have h1 := ACI.out x h; have h2 := (CI.out.lt x h).2; exact (by omega))
    replace LN := Xqn LN m16
    replace ALN : Hid (∀ x, Lrb (.slice xa p.nw xc) (.slice ya p.ng yc) (.slice za p.nd zc) (.slice ta p.nu tc) x → x ≠ b0 ∧ x ≠ b1) := hide (fun x h => by have h1 := ALN.out x h; have h2 := (LN.out.lt x h).2; exact (by omega))
    replace ALI : Hid (∀ x, Lrb (.slice x1a L.nw x1c) (.slice y1a L.ng y1c) (.slice z1a L.nd z1c) (.slice t1a L.nu t1c) x → x ≠ b0 ∧ x ≠ b1) := hide (fun x h => by have h1 := ALI.out x h; have h2 := (LI.out.lt x h).2; exact (by omega))
    clear hb1
    refine ss6 (.int .i64 L.base) (.slice x1a L.nw x1c) (.int .i64 L.want) (.slice y1a L.ng y1c) (.slice z1a L.nd z1c) (.slice t1a L.nu t1c) bx1 fun V18 m18 bx1 => ?_
    refine sv (.slice cia m cic) ?_
    refine nt (h5 _ _ (sk fun K10 h10 => rl ?_)); clear h5 K5
    replace bx0 := Xbb (Xbn bx0 m17) m18
    refine sl6 bx0 ?_
    refine sv (.slice la m lc) ?_
    have szT := lt_of_block bx1.out
    replace HB := Xhb (Xhn (Xhn HB m16) m17) m18
    have szW := HB.out.size
    replace LN := Xqb (Xqn LN m17) m18 (fun x h => by have := ALN.out x h; omega); replace LF := Xgb (Xgn LF m17) m18 (fun x h => by have := ALF.out x h; omega)
    refine sw_call (by rfl) (by first | rfl | (go_simp; done)) (hT V18 _ _ _ _ LN.out.la (acts_cut LF.out m (Nat.le_refl m)).1.2) ?_
    rintro e V19 ⟨wv1, gv1, dv1, uv1, cv1, rfl, LQ, RQ, hap, hbl⟩
    have m19 : Mv (nob) V18 V19 := Mv.of_below hbl
    refine ⟨_, rfl, ?_⟩
    refine pt ?_
    obtain ⟨cta, ctc, rfl, _⟩ := RQ.form
    obtain ⟨x2a, x2c, rfl, _⟩ := LQ.wa.form
    obtain ⟨y2a, y2c, rfl, _⟩ := LQ.go.form
    obtain ⟨z2a, z2c, rfl, _⟩ := LQ.dn.form
    obtain ⟨t2a, t2c, rfl, _⟩ := LQ.up.form
    have LT := hide (LQ.lower szW)
    have ALT : Hid (∀ x, Lrb (.slice x2a L.nw x2c) (.slice y2a L.ng y2c) (.slice z2a L.nd z2c) (.slice t2a L.nu t2c) x → x ≠ b0 ∧ x ≠ b1) := hide (fun x h => by have := (LQ.lt x h).1; exact (by omega))
    have CT := hide (RQ.lower szW)
    have ACT : Hid (∀ x, rb (.slice cta m ctc) = some x → x ≠ b0 ∧ x ≠ b1) := hide (fun x h => by have := (RQ.lt x h).1; exact (by omega))
    clear LQ RQ hap hbl szW szT
    refine sv (.tuple #[.agg #[.int .i64 L.base, .slice x2a L.nw x2c, .int .i64 L.want, .slice y2a L.ng y2c, .slice z2a L.nd z2c, .slice t2a L.nu t2c], .slice cta m ctc]) ?_
    refine sv (.agg #[.int .i64 L.base, .slice x2a L.nw x2c, .int .i64 L.want, .slice y2a L.ng y2c, .slice z2a L.nd z2c, .slice t2a L.nu t2c]) ?_
    refine sv (.slice cta m ctc) ?_
    replace bx1 := Xbn bx1 m19
    refine sbp #[.int .i64 0, .slice none 0 0, .int .i64 0, .slice none 0 0, .slice none 0 0, .slice none 0 0] 27 fun V20 b2 hb2 m20 bx2 => ?_
    have o1_2 := Xlo bx1 hb2
    replace LF := Xgn LF m19
    replace ALF : Hid (∀ x, rb (.slice la m lc) = some x → x ≠ b0 ∧ x ≠ b1 ∧ x ≠ b2) := hide (fun x h => by have h1 := ALF.out x h; have h2 := (LF.out.lt x h).2; exact (by omega))
    replace CI := Xgn (Xgb (Xgn CI m17) m18 (fun x h => by have := ACI.out x h; omega)) m19
    replace ACI : Hid (∀ x, rb (.slice cia m cic) = some x → x ≠ b0 ∧ x ≠ b1 ∧ x ≠ b2) := hide (fun x h => by have h1 := ACI.out x h; have h2 := (CI.out.lt x h).2; exact (by omega))
    replace ACT : Hid (∀ x, rb (.slice cta m ctc) = some x → x ≠ b0 ∧ x ≠ b1 ∧ x ≠ b2) := hide (fun x h => by have h1 := ACT.out x h; have h2 := (CT.out.lt x h).2; exact (by omega))
    replace LN := Xqn LN m19
    replace ALN : Hid (∀ x, Lrb (.slice xa p.nw xc) (.slice ya p.ng yc) (.slice za p.nd zc) (.slice ta p.nu tc) x → x ≠ b0 ∧ x ≠ b1 ∧ x ≠ b2) := hide (fun x h => by have h1 := ALN.out x h; have h2 := (LN.out.lt x h).2; exact (by omega))
    replace LI := Xqn (Xqb (Xqn LI m17) m18 (fun x h => by have := ALI.out x h; omega)) m19
    replace ALI : Hid (∀ x, Lrb (.slice x1a L.nw x1c) (.slice y1a L.ng y1c) (.slice z1a L.nd z1c) (.slice t1a L.nu t1c) x → x ≠ b0 ∧ x ≠ b1 ∧ x ≠ b2) := hide (fun x h => by have h1 := ALI.out x h; have h2 := (LI.out.lt x h).2; exact (by omega))
    replace ALT : Hid (∀ x, Lrb (.slice x2a L.nw x2c) (.slice y2a L.ng y2c) (.slice z2a L.nd z2c) (.slice t2a L.nu t2c) x → x ≠ b0 ∧ x ≠ b1 ∧ x ≠ b2) := hide (fun x h => by have h1 := ALT.out x h; have h2 := (LT.out.lt x h).2; exact (by omega))
    clear hb2
    refine ss6 (.int .i64 L.base) (.slice x2a L.nw x2c) (.int .i64 L.want) (.slice y2a L.ng y2c) (.slice z2a L.nd z2c) (.slice t2a L.nu t2c) bx2 fun V21 m21 bx2 => ?_
    refine sv (.slice cta m ctc) ?_
    refine nt (h10 _ _ (sk fun K11 h11 => sk fun K12 h12 => rl ?_)); clear h10 K10
    clear hI hT
    refine sv (.slice cia m cic) ?_
    refine sv (.slice cta m ctc) ?_
    replace CI := Xgb (Xgn CI m20) m21 (fun x h => by have := ACI.out x h; omega); replace CT := Xgb (Xgn CT m20) m21 (fun x h => by have := ACT.out x h; omega)
    refine sw_call (by rfl) (by first | rfl | (go_simp; done)) (sameInts_same _ _ m C V21 CI.out.sg CT.out.sg (by omega)) ?_
    rintro e V22 ⟨rfl, hbl⟩
    have m22 : Mv (nob) V21 V22 := Mv.of_below hbl
    refine ⟨_, rfl, ?_⟩
    refine pt ?_
    clear hbl
    refine sg (.bool false) ?_
    refine sv (.bool false) ?_
    replace bx1 := Xbn (Xbb (Xbn bx1 m20) m21) m22
    refine sl6 bx1 ?_
    replace bx2 := Xbn bx2 m22
    refine sl6 bx2 ?_
    replace LI := Xqn (Xqb (Xqn LI m20) m21 (fun x h => by have := ALI.out x h; omega)) m22; replace LT := Xqn (Xqb (Xqn LT m20) m21 (fun x h => by have := ALT.out x h; omega)) m22
    refine sw_call (by rfl) (by first | rfl | (go_simp; done)) (sameLink_same L _ _ _ _ _ _ _ _ V22 LI.out.lv LT.out.lv smL) ?_
    rintro e V23 ⟨rfl, hbl⟩
    have m23 : Mv (nob) V22 V23 := Mv.of_below hbl
    refine ⟨_, rfl, ?_⟩
    refine pt ?_
    clear hbl
    refine sg (.bool false) ?_
    refine sg (.bool false) ?_
    refine sv (.bool false) ?_
    replace bx0 := Xbn (Xbn (Xbb (Xbn (Xbn bx0 m19) m20) m21) m22) m23
    refine sl6 bx0 ?_
    replace LN := Xqn (Xqn (Xqb (Xqn LN m20) m21 (fun x h => by have := ALN.out x h; omega)) m22) m23
    refine sw_call (by rfl) (by first | rfl | (go_simp; done)) (specLinkOk_la true p _ _ _ _ V23 hok LN.out.la hsm) ?_
    rintro e V24 ⟨rfl, hbl⟩
    have m24 : Mv (nob) V23 V24 := Mv.of_below hbl
    refine ⟨_, rfl, ?_⟩
    refine pt ?_
    clear hbl
    refine sg (.bool false) ?_
    refine sg (.bool false) ?_
    refine nt (h12 _ _ (cf (wp_skip (then_normal (h11 _ _ (sk fun K13 h13 => rl ?_)))))); clear h12 K12; clear h11 K11
    refine sv (.slice a0 len0 cap0) ?_
    refine sg (.int .i64 (len0 : Int)) ?_
    refine sv (.slice la m lc) ?_
    refine sg (.int .i64 (m : Int)) ?_
    refine sg (.int .i64 (((m : Int) + 1))) (h := by have h := i64wrap (x := (m : Int) + 1) (by omega); go_simp) ?_
    refine sg (.int .i64 ((k : Int))) (h := by have hKr : (len0 : Int).tmod ((m : Int) + 1) = (k : Int) := (by rw [Int.tmod_eq_emod_of_nonneg (by omega), ← hk]; simp); have h1 : ¬ ((m : Int) + 1 = 0) := (by omega); go_simp) ?_
    refine sv (.int .i64 ((k : Int))) ?_
    refine nt (h13 _ _ (sk fun K14 h14 => ?_)); clear h13 K13
    replace HB := Xhn (Xhn (Xhn (Xhb (Xhn (Xhn HB m19) m20) m21) m22) m23) m24; replace LF := Xgn (Xgn (Xgn (Xgb (Xgn LF m20) m21 (fun x h => by have := ALF.out x h; omega)) m22) m23) m24; replace CI := Xgn (Xgn (Xgn CI m22) m23) m24; replace CT := Xgn (Xgn (Xgn CT m22) m23) m24; replace LI := Xqn (Xqn LI m23) m24
    replace bx1 := Xbn (Xbn bx1 m23) m24; replace LT := Xqn (Xqn LT m23) m24; replace bx2 := Xbn (Xbn bx2 m23) m24; replace LN := Xqn LN m24; replace bx0 := Xbn bx0 m24
    obtain ⟨⟨hs1, _⟩, tla, tlc, hs2, _⟩ := acts_cut LF.out k hkm
    refine wp_region_but (z := 999) (S := fun w' => Mv (fun x => False) V24.drew w') (by kernel_rfl) (Mv.refl _ _) (fun hS => ?_)
    have m25 : Mv nob V24 V24.drew := Mv.drew _
    obtain ⟨V25, hN⟩ : ∃ V, V24.drew = V := ⟨_, rfl⟩
    rw [hN] at hS m25 ⊢
    clear hN
    replace bx0 := Xbn bx0 m25
    have rbx0 := bx0
    refine tk 0 (.agg #[.int .i64 p.base, .slice xa p.nw xc, .int .i64 p.want, .slice ya p.ng yc, .slice za p.nd zc, .slice ta p.nu tc]) rfl (fun w' hSw => by (try dsimp only at hSw); have z0 := cell_box 0 (hSw.box rbx0.out (fun h => h)) rfl; have z1 := cell_box 1 (hSw.box rbx0.out (fun h => h)) rfl; have z2 := cell_box 2 (hSw.box rbx0.out (fun h => h)) rfl; have z3 := cell_box 3 (hSw.box rbx0.out (fun h => h)) rfl; have z4 := cell_box 4 (hSw.box rbx0.out (fun h => h)) rfl; have z5 := cell_box 5 (hSw.box rbx0.out (fun h => h)) rfl; go_simp) ?_
    refine tk0 1 (.slice la m lc) rfl ?_
    refine tk0 2 (.int .i64 ((k : Int))) rfl ?_
    refine tk 3 (.slice la k lc) rfl (fun w' hSw => by (try dsimp only at hSw); have h := hs1; go_simp) ?_
    replace HB := Xhn HB m25; replace LN := Xqn LN m25; replace LF := Xgn LF m25; replace LI := Xqn LI m25; replace CI := Xgn CI m25; replace bx1 := Xbn bx1 m25; replace LT := Xqn LT m25; replace CT := Xgn CT m25; replace bx2 := Xbn bx2 m25
    have hJ1 : ∀ (V28 : World) (b3 : Nat) (x3a : Option Addr) (x3c : Nat) (y3a : Option Addr) (y3c : Nat) (z3a : Option Addr) (z3c : Nat) (t3a : Option Addr) (t3c : Nat) (caa : Option Addr) (cac : Nat), (Mv nob w V28) → (b2 < b3) → (V28.heap[b0]? = some (.cells #[.int .i64 p.base, .slice xa p.nw xc, .int .i64 p.want, .slice ya p.ng yc, .slice za p.nd zc, .slice ta p.nu tc] 27 (0, 0))) → (V28.heap[b1]? = some (.cells #[.int .i64 L.base, .slice x1a L.nw x1c, .int .i64 L.want, .slice y1a L.ng y1c, .slice z1a L.nd z1c, .slice t1a L.nu t1c] 27 (0, 0))) → (V28.heap[b2]? = some (.cells #[.int .i64 L.base, .slice x2a L.nw x2c, .int .i64 L.want, .slice y2a L.ng y2c, .slice z2a L.nd z2c, .slice t2a L.nu t2c] 27 (0, 0))) → (V28.heap[b3]? = some (.cells #[.int .i64 M.base, .slice x3a M.nw x3c, .int .i64 M.want, .slice y3a M.ng y3c, .slice z3a M.nd z3c, .slice t3a M.nu t3c] 27 (0, 0))) → (Lr V28 w.heap.size (.slice xa p.nw xc) (.slice ya p.ng yc) (.slice za p.nd zc) (.slice ta p.nu tc) p) → (∀ x, Lrb (.slice xa p.nw xc) (.slice ya p.ng yc) (.slice za p.nd zc) (.slice ta p.nu tc) x → x ≠ b0 ∧ x ≠ b1 ∧ x ≠ b2 ∧ x ≠ b3) → (Lr V28 w.heap.size (.slice x1a L.nw x1c) (.slice y1a L.ng y1c) (.slice z1a L.nd z1c) (.slice t1a L.nu t1c) L) → (∀ x, Lrb (.slice x1a L.nw x1c) (.slice y1a L.ng y1c) (.slice z1a L.nd z1c) (.slice t1a L.nu t1c) x → x ≠ b0 ∧ x ≠ b1 ∧ x ≠ b2 ∧ x ≠ b3) → (Lr V28 w.heap.size (.slice x2a L.nw x2c) (.slice y2a L.ng y2c) (.slice z2a L.nd z2c) (.slice t2a L.nu t2c) L) → (∀ x, Lrb (.slice x2a L.nw x2c) (.slice y2a L.ng y2c) (.slice z2a L.nd z2c) (.slice t2a L.nu t2c) x → x ≠ b0 ∧ x ≠ b1 ∧ x ≠ b2 ∧ x ≠ b3) → (Lr V28 w.heap.size (.slice x3a M.nw x3c) (.slice y3a M.ng y3c) (.slice z3a M.nd z3c) (.slice t3a M.nu t3c) M) → (∀ x, Lrb (.slice x3a M.nw x3c) (.slice y3a M.ng y3c) (.slice z3a M.nd z3c) (.slice t3a M.nu t3c) x → x ≠ b0 ∧ x ≠ b1 ∧ x ≠ b2 ∧ x ≠ b3) → (Rg V28 w.heap.size (.slice la m lc) 4 m (aF s)) → (∀ x, rb (.slice la m lc) = some x → x ≠ b0 ∧ x ≠ b1 ∧ x ≠ b2 ∧ x ≠ b3) → (Rg V28 w.heap.size (.slice cia m cic) 1 m (iF C)) → (∀ x, rb (.slice cia m cic) = some x → x ≠ b0 ∧ x ≠ b1 ∧ x ≠ b2 ∧ x ≠ b3) → (Rg V28 w.heap.size (.slice cta m ctc) 1 m (iF C)) → (∀ x, rb (.slice cta m ctc) = some x → x ≠ b0 ∧ x ≠ b1 ∧ x ≠ b2 ∧ x ≠ b3) → (Rg V28 w.heap.size (.slice caa k cac) 1 k (iF C)) → (∀ x, rb (.slice caa k cac) = some x → x ≠ b0 ∧ x ≠ b1 ∧ x ≠ b2 ∧ x ≠ b3) → K14 ⟨#[.slice a0 len0 cap0, undef, .bool false, .pointer (some ⟨b0, 0, none⟩), .slice la m lc, .pointer (some ⟨b1, 0, none⟩), .slice cia m cic, .pointer (some ⟨b2, 0, none⟩), .slice cta m ctc, .int .i64 ((k : Int)), .pointer (some ⟨b3, 0, none⟩), .slice caa k cac, undef, undef, .slice a0 len0 cap0, .bool false, .tuple #[.agg #[.int .i64 p.base, .slice xa p.nw xc, .int .i64 p.want, .slice ya p.ng yc, .slice za p.nd zc, .slice ta p.nu tc], .slice la m lc], .slice a0 len0 cap0, .tuple #[.agg #[.int .i64 p.base, .slice xa p.nw xc, .int .i64 p.want, .slice ya p.ng yc, .slice za p.nd zc, .slice ta p.nu tc], .slice la m lc], .agg #[.int .i64 p.base, .slice xa p.nw xc, .int .i64 p.want, .slice ya p.ng yc, .slice za p.nd zc, .slice ta p.nu tc], .slice la m lc, .tuple #[.agg #[.int .i64 L.base, .slice x1a L.nw x1c, .int .i64 L.want, .slice y1a L.ng y1c, .slice z1a L.nd z1c, .slice t1a L.nu t1c], .slice cia m cic], .agg #[.int .i64 p.base, .slice xa p.nw xc, .int .i64 p.want, .slice ya p.ng yc, .slice za p.nd zc, .slice ta p.nu tc], .slice la m lc, .tuple #[.agg #[.int .i64 L.base, .slice x1a L.nw x1c, .int .i64 L.want, .slice y1a L.ng y1c, .slice z1a L.nd z1c, .slice t1a L.nu t1c], .slice cia m cic], .agg #[.int .i64 L.base, .slice x1a L.nw x1c, .int .i64 L.want, .slice y1a L.ng y1c, .slice z1a L.nd z1c, .slice t1a L.nu t1c], .slice cia m cic, .tuple #[.agg #[.int .i64 L.base, .slice x2a L.nw x2c, .int .i64 L.want, .slice y2a L.ng y2c, .slice z2a L.nd z2c, .slice t2a L.nu t2c], .slice cta m ctc], .agg #[.int .i64 p.base, .slice xa p.nw xc, .int .i64 p.want, .slice ya p.ng yc, .slice za p.nd zc, .slice ta p.nu tc], .slice la m lc, .tuple #[.agg #[.int .i64 L.base, .slice x2a L.nw x2c, .int .i64 L.want, .slice y2a L.ng y2c, .slice z2a L.nd z2c, .slice t2a L.nu t2c], .slice cta m ctc], .agg #[.int .i64 L.base, .slice x2a L.nw x2c, .int .i64 L.want, .slice y2a L.ng y2c, .slice z2a L.nd z2c, .slice t2a L.nu t2c], .slice cta m ctc, .slice cia m cic, .slice cta m ctc, .bool true, .bool false, .bool false, .agg #[.int .i64 L.base, .slice x1a L.nw x1c, .int .i64 L.want, .slice y1a L.ng y1c, .slice z1a L.nd z1c, .slice t1a L.nu t1c], .agg #[.int .i64 L.base, .slice x2a L.nw x2c, .int .i64 L.want, .slice y2a L.ng y2c, .slice z2a L.nd z2c, .slice t2a L.nu t2c], .bool true, .bool false, .bool false, .bool false, .agg #[.int .i64 p.base, .slice xa p.nw xc, .int .i64 p.want, .slice ya p.ng yc, .slice za p.nd zc, .slice ta p.nu tc], .bool true, .bool false, .bool false, undef, undef, undef, undef, undef, undef, undef, undef, .slice a0 len0 cap0, .int .i64 (len0 : Int), .slice la m lc, .int .i64 (m : Int), .int .i64 (((m : Int) + 1)), .int .i64 ((k : Int)), .tuple #[.agg #[.int .i64 M.base, .slice x3a M.nw x3c, .int .i64 M.want, .slice y3a M.ng y3c, .slice z3a M.nd z3c, .slice t3a M.nu t3c], .slice caa k cac], .agg #[.int .i64 p.base, .slice xa p.nw xc, .int .i64 p.want, .slice ya p.ng yc, .slice za p.nd zc, .slice ta p.nu tc], .slice la m lc, .int .i64 ((k : Int)), .slice la k lc, .tuple #[.agg #[.int .i64 M.base, .slice x3a M.nw x3c, .int .i64 M.want, .slice y3a M.ng y3c, .slice z3a M.nd z3c, .slice t3a M.nu t3c], .slice caa k cac], .agg #[.int .i64 M.base, .slice x3a M.nw x3c, .int .i64 M.want, .slice y3a M.ng y3c, .slice z3a M.nd z3c, .slice t3a M.nu t3c], .slice caa k cac, undef, undef, undef, undef, undef, undef, undef, undef, undef, undef, undef, undef, undef, undef, undef, undef, undef, undef, undef, undef], []⟩ V28 := by
      intro V28 b3 x3a x3c y3a y3c z3a z3c t3a t3c caa cac HB o2_3 bx0 bx1 bx2 bx3 LN ALN LI ALI LT ALT LA ALA LF ALF CI ACI CT ACT CA ACA
      replace HB := hide HB; replace bx0 := hide bx0; replace bx1 := hide bx1; replace bx2 := hide bx2; replace bx3 := hide bx3; replace LN := hide LN; replace ALN := hide ALN; replace LI := hide LI; replace ALI := hide ALI; replace LT := hide LT; replace ALT := hide ALT; replace LA := hide LA; replace ALA := hide ALA; replace LF := hide LF; replace ALF := hide ALF; replace CI := hide CI; replace ACI := hide ACI; replace CT := hide CT; replace ACT := hide ACT; replace CA := hide CA; replace ACA := hide ACA
      refine h14 _ _ (sk fun K15 h15 => ?_); clear h14 K14
      refine wp_region_but (z := 999) (S := fun w' => Mv (fun x => False) V28.drew w') (by kernel_rfl) (Mv.refl _ _) (fun hS => ?_)
      have m29 : Mv nob V28 V28.drew := Mv.drew _
      obtain ⟨V29, hN⟩ : ∃ V, V28.drew = V := ⟨_, rfl⟩
      rw [hN] at hS m29 ⊢
      clear hN
      replace bx3 := Xbn bx3 m29
      have rbx3 := bx3
      refine tk 0 (.agg #[.int .i64 M.base, .slice x3a M.nw x3c, .int .i64 M.want, .slice y3a M.ng y3c, .slice z3a M.nd z3c, .slice t3a M.nu t3c]) rfl (fun w' hSw => by (try dsimp only at hSw); have z0 := cell_box 0 (hSw.box rbx3.out (fun h => h)) rfl; have z1 := cell_box 1 (hSw.box rbx3.out (fun h => h)) rfl; have z2 := cell_box 2 (hSw.box rbx3.out (fun h => h)) rfl; have z3 := cell_box 3 (hSw.box rbx3.out (fun h => h)) rfl; have z4 := cell_box 4 (hSw.box rbx3.out (fun h => h)) rfl; have z5 := cell_box 5 (hSw.box rbx3.out (fun h => h)) rfl; go_simp) ?_
      refine tk0 1 (.slice la m lc) rfl ?_
      refine tk0 2 (.int .i64 ((k : Int))) rfl ?_
      refine tk 3 (.slice tla (m - k) tlc) rfl (fun w' hSw => by (try dsimp only at hSw); have h := hs2; go_simp) ?_
      replace HB := Xhn HB m29; replace LN := Xqn LN m29; replace LF := Xgn LF m29; replace bx0 := Xbn bx0 m29; replace LI := Xqn LI m29; replace CI := Xgn CI m29; replace bx1 := Xbn bx1 m29; replace LT := Xqn LT m29; replace CT := Xgn CT m29; replace bx2 := Xbn bx2 m29; replace LA := Xqn LA m29; replace CA := Xgn CA m29
      have hJ2 : ∀ (V32 : World) (b4 : Nat) (x4a : Option Addr) (x4c : Nat) (y4a : Option Addr) (y4c : Nat) (z4a : Option Addr) (z4c : Nat) (t4a : Option Addr) (t4c : Nat) (cba : Option Addr) (cbc : Nat), (Mv nob w V32) → (b3 < b4) → (V32.heap[b0]? = some (.cells #[.int .i64 p.base, .slice xa p.nw xc, .int .i64 p.want, .slice ya p.ng yc, .slice za p.nd zc, .slice ta p.nu tc] 27 (0, 0))) → (V32.heap[b1]? = some (.cells #[.int .i64 L.base, .slice x1a L.nw x1c, .int .i64 L.want, .slice y1a L.ng y1c, .slice z1a L.nd z1c, .slice t1a L.nu t1c] 27 (0, 0))) → (V32.heap[b2]? = some (.cells #[.int .i64 L.base, .slice x2a L.nw x2c, .int .i64 L.want, .slice y2a L.ng y2c, .slice z2a L.nd z2c, .slice t2a L.nu t2c] 27 (0, 0))) → (V32.heap[b3]? = some (.cells #[.int .i64 M.base, .slice x3a M.nw x3c, .int .i64 M.want, .slice y3a M.ng y3c, .slice z3a M.nd z3c, .slice t3a M.nu t3c] 27 (0, 0))) → (V32.heap[b4]? = some (.cells #[.int .i64 L.base, .slice x4a L.nw x4c, .int .i64 L.want, .slice y4a L.ng y4c, .slice z4a L.nd z4c, .slice t4a L.nu t4c] 27 (0, 0))) → (Lr V32 w.heap.size (.slice xa p.nw xc) (.slice ya p.ng yc) (.slice za p.nd zc) (.slice ta p.nu tc) p) → (∀ x, Lrb (.slice xa p.nw xc) (.slice ya p.ng yc) (.slice za p.nd zc) (.slice ta p.nu tc) x → x ≠ b0 ∧ x ≠ b1 ∧ x ≠ b2 ∧ x ≠ b3 ∧ x ≠ b4) → (Lr V32 w.heap.size (.slice x1a L.nw x1c) (.slice y1a L.ng y1c) (.slice z1a L.nd z1c) (.slice t1a L.nu t1c) L) → (∀ x, Lrb (.slice x1a L.nw x1c) (.slice y1a L.ng y1c) (.slice z1a L.nd z1c) (.slice t1a L.nu t1c) x → x ≠ b0 ∧ x ≠ b1 ∧ x ≠ b2 ∧ x ≠ b3 ∧ x ≠ b4) → (Lr V32 w.heap.size (.slice x2a L.nw x2c) (.slice y2a L.ng y2c) (.slice z2a L.nd z2c) (.slice t2a L.nu t2c) L) → (∀ x, Lrb (.slice x2a L.nw x2c) (.slice y2a L.ng y2c) (.slice z2a L.nd z2c) (.slice t2a L.nu t2c) x → x ≠ b0 ∧ x ≠ b1 ∧ x ≠ b2 ∧ x ≠ b3 ∧ x ≠ b4) → (Lr V32 w.heap.size (.slice x3a M.nw x3c) (.slice y3a M.ng y3c) (.slice z3a M.nd z3c) (.slice t3a M.nu t3c) M) → (∀ x, Lrb (.slice x3a M.nw x3c) (.slice y3a M.ng y3c) (.slice z3a M.nd z3c) (.slice t3a M.nu t3c) x → x ≠ b0 ∧ x ≠ b1 ∧ x ≠ b2 ∧ x ≠ b3 ∧ x ≠ b4) → (Lr V32 w.heap.size (.slice x4a L.nw x4c) (.slice y4a L.ng y4c) (.slice z4a L.nd z4c) (.slice t4a L.nu t4c) L) → (∀ x, Lrb (.slice x4a L.nw x4c) (.slice y4a L.ng y4c) (.slice z4a L.nd z4c) (.slice t4a L.nu t4c) x → x ≠ b0 ∧ x ≠ b1 ∧ x ≠ b2 ∧ x ≠ b3 ∧ x ≠ b4) → (Rg V32 w.heap.size (.slice la m lc) 4 m (aF s)) → (∀ x, rb (.slice la m lc) = some x → x ≠ b0 ∧ x ≠ b1 ∧ x ≠ b2 ∧ x ≠ b3 ∧ x ≠ b4) → (Rg V32 w.heap.size (.slice cia m cic) 1 m (iF C)) → (∀ x, rb (.slice cia m cic) = some x → x ≠ b0 ∧ x ≠ b1 ∧ x ≠ b2 ∧ x ≠ b3 ∧ x ≠ b4) → (Rg V32 w.heap.size (.slice cta m ctc) 1 m (iF C)) → (∀ x, rb (.slice cta m ctc) = some x → x ≠ b0 ∧ x ≠ b1 ∧ x ≠ b2 ∧ x ≠ b3 ∧ x ≠ b4) → (Rg V32 w.heap.size (.slice caa k cac) 1 k (iF C)) → (∀ x, rb (.slice caa k cac) = some x → x ≠ b0 ∧ x ≠ b1 ∧ x ≠ b2 ∧ x ≠ b3 ∧ x ≠ b4) → (Rg V32 w.heap.size (.slice cba (m - k) cbc) 1 (m - k) (iF D)) → (∀ x, rb (.slice cba (m - k) cbc) = some x → x ≠ b0 ∧ x ≠ b1 ∧ x ≠ b2 ∧ x ≠ b3 ∧ x ≠ b4) → K15 ⟨#[.slice a0 len0 cap0, undef, .bool false, .pointer (some ⟨b0, 0, none⟩), .slice la m lc, .pointer (some ⟨b1, 0, none⟩), .slice cia m cic, .pointer (some ⟨b2, 0, none⟩), .slice cta m ctc, .int .i64 ((k : Int)), .pointer (some ⟨b3, 0, none⟩), .slice caa k cac, .pointer (some ⟨b4, 0, none⟩), .slice cba (m - k) cbc, .slice a0 len0 cap0, .bool false, .tuple #[.agg #[.int .i64 p.base, .slice xa p.nw xc, .int .i64 p.want, .slice ya p.ng yc, .slice za p.nd zc, .slice ta p.nu tc], .slice la m lc], .slice a0 len0 cap0, .tuple #[.agg #[.int .i64 p.base, .slice xa p.nw xc, .int .i64 p.want, .slice ya p.ng yc, .slice za p.nd zc, .slice ta p.nu tc], .slice la m lc], .agg #[.int .i64 p.base, .slice xa p.nw xc, .int .i64 p.want, .slice ya p.ng yc, .slice za p.nd zc, .slice ta p.nu tc], .slice la m lc, .tuple #[.agg #[.int .i64 L.base, .slice x1a L.nw x1c, .int .i64 L.want, .slice y1a L.ng y1c, .slice z1a L.nd z1c, .slice t1a L.nu t1c], .slice cia m cic], .agg #[.int .i64 p.base, .slice xa p.nw xc, .int .i64 p.want, .slice ya p.ng yc, .slice za p.nd zc, .slice ta p.nu tc], .slice la m lc, .tuple #[.agg #[.int .i64 L.base, .slice x1a L.nw x1c, .int .i64 L.want, .slice y1a L.ng y1c, .slice z1a L.nd z1c, .slice t1a L.nu t1c], .slice cia m cic], .agg #[.int .i64 L.base, .slice x1a L.nw x1c, .int .i64 L.want, .slice y1a L.ng y1c, .slice z1a L.nd z1c, .slice t1a L.nu t1c], .slice cia m cic, .tuple #[.agg #[.int .i64 L.base, .slice x2a L.nw x2c, .int .i64 L.want, .slice y2a L.ng y2c, .slice z2a L.nd z2c, .slice t2a L.nu t2c], .slice cta m ctc], .agg #[.int .i64 p.base, .slice xa p.nw xc, .int .i64 p.want, .slice ya p.ng yc, .slice za p.nd zc, .slice ta p.nu tc], .slice la m lc, .tuple #[.agg #[.int .i64 L.base, .slice x2a L.nw x2c, .int .i64 L.want, .slice y2a L.ng y2c, .slice z2a L.nd z2c, .slice t2a L.nu t2c], .slice cta m ctc], .agg #[.int .i64 L.base, .slice x2a L.nw x2c, .int .i64 L.want, .slice y2a L.ng y2c, .slice z2a L.nd z2c, .slice t2a L.nu t2c], .slice cta m ctc, .slice cia m cic, .slice cta m ctc, .bool true, .bool false, .bool false, .agg #[.int .i64 L.base, .slice x1a L.nw x1c, .int .i64 L.want, .slice y1a L.ng y1c, .slice z1a L.nd z1c, .slice t1a L.nu t1c], .agg #[.int .i64 L.base, .slice x2a L.nw x2c, .int .i64 L.want, .slice y2a L.ng y2c, .slice z2a L.nd z2c, .slice t2a L.nu t2c], .bool true, .bool false, .bool false, .bool false, .agg #[.int .i64 p.base, .slice xa p.nw xc, .int .i64 p.want, .slice ya p.ng yc, .slice za p.nd zc, .slice ta p.nu tc], .bool true, .bool false, .bool false, undef, undef, undef, undef, undef, undef, undef, undef, .slice a0 len0 cap0, .int .i64 (len0 : Int), .slice la m lc, .int .i64 (m : Int), .int .i64 (((m : Int) + 1)), .int .i64 ((k : Int)), .tuple #[.agg #[.int .i64 M.base, .slice x3a M.nw x3c, .int .i64 M.want, .slice y3a M.ng y3c, .slice z3a M.nd z3c, .slice t3a M.nu t3c], .slice caa k cac], .agg #[.int .i64 p.base, .slice xa p.nw xc, .int .i64 p.want, .slice ya p.ng yc, .slice za p.nd zc, .slice ta p.nu tc], .slice la m lc, .int .i64 ((k : Int)), .slice la k lc, .tuple #[.agg #[.int .i64 M.base, .slice x3a M.nw x3c, .int .i64 M.want, .slice y3a M.ng y3c, .slice z3a M.nd z3c, .slice t3a M.nu t3c], .slice caa k cac], .agg #[.int .i64 M.base, .slice x3a M.nw x3c, .int .i64 M.want, .slice y3a M.ng y3c, .slice z3a M.nd z3c, .slice t3a M.nu t3c], .slice caa k cac, .tuple #[.agg #[.int .i64 L.base, .slice x4a L.nw x4c, .int .i64 L.want, .slice y4a L.ng y4c, .slice z4a L.nd z4c, .slice t4a L.nu t4c], .slice cba (m - k) cbc], .agg #[.int .i64 M.base, .slice x3a M.nw x3c, .int .i64 M.want, .slice y3a M.ng y3c, .slice z3a M.nd z3c, .slice t3a M.nu t3c], .slice la m lc, .int .i64 ((k : Int)), .slice tla (m - k) tlc, .tuple #[.agg #[.int .i64 L.base, .slice x4a L.nw x4c, .int .i64 L.want, .slice y4a L.ng y4c, .slice z4a L.nd z4c, .slice t4a L.nu t4c], .slice cba (m - k) cbc], .agg #[.int .i64 L.base, .slice x4a L.nw x4c, .int .i64 L.want, .slice y4a L.ng y4c, .slice z4a L.nd z4c, .slice t4a L.nu t4c], .slice cba (m - k) cbc, undef, undef, undef, undef, undef, undef, undef, undef, undef, undef, undef, undef], []⟩ V32 := by
        intro V32 b4 x4a x4c y4a y4c z4a z4c t4a t4c cba cbc HB o3_4 bx0 bx1 bx2 bx3 bx4 LN ALN LI ALI LT ALT LA ALA LB ALB LF ALF CI ACI CT ACT CA ACA CB ACB
        replace HB := hide HB; replace bx0 := hide bx0; replace bx1 := hide bx1; replace bx2 := hide bx2; replace bx3 := hide bx3; replace bx4 := hide bx4; replace LN := hide LN; replace ALN := hide ALN; replace LI := hide LI; replace ALI := hide ALI; replace LT := hide LT; replace ALT := hide ALT; replace LA := hide LA; replace ALA := hide ALA; replace LB := hide LB; replace ALB := hide ALB; replace LF := hide LF; replace ALF := hide ALF; replace CI := hide CI; replace ACI := hide ACI; replace CT := hide CT; replace ACT := hide ACT; replace CA := hide CA; replace ACA := hide ACA; replace CB := hide CB; replace ACB := hide ACB
        refine h15 _ _ (sk fun K16 h16 => rl ?_); clear h15 K15
        refine sl6 bx4 ?_
        refine sl6 bx1 ?_
        refine sw_call (by rfl) (by first | rfl | (go_simp; done)) (sameLink_same L _ _ _ _ _ _ _ _ V32 LB.out.lv LI.out.lv smL) ?_
        rintro e V33 ⟨rfl, hbl⟩
        have m33 : Mv (nob) V32 V33 := Mv.of_below hbl
        refine ⟨_, rfl, ?_⟩
        refine pt ?_
        clear hbl
        refine sv (.bool true) ?_
        replace bx4 := Xbn bx4 m33
        refine sbs 0 #[] 2 fun V34 b5 hb5 m34 bx5 => ?_
        have o4_5 := Xlo bx4 hb5
        replace LF := Xgn LF m33
        replace ALF : Hid (∀ x, rb (.slice la m lc) = some x → x ≠ b0 ∧ x ≠ b1 ∧ x ≠ b2 ∧ x ≠ b3 ∧ x ≠ b4 ∧ x ≠ b5) := hide (fun x h => by have h1 := ALF.out x h; have h2 := (LF.out.lt x h).2; exact (by omega))
        replace CI := Xgn CI m33
        replace ACI : Hid (∀ x, rb (.slice cia m cic) = some x → x ≠ b0 ∧ x ≠ b1 ∧ x ≠ b2 ∧ x ≠ b3 ∧ x ≠ b4 ∧ x ≠ b5) := hide (fun x h => by have h1 := ACI.out x h; have h2 := (CI.out.lt x h).2; exact (by omega))
        replace CT := Xgn CT m33
        replace ACT : Hid (∀ x, rb (.slice cta m ctc) = some x → x ≠ b0 ∧ x ≠ b1 ∧ x ≠ b2 ∧ x ≠ b3 ∧ x ≠ b4 ∧ x ≠ b5) := hide (fun x h => by have h1 := ACT.out x h; have h2 := (CT.out.lt x h).2; exact (by omega))
        replace CA := Xgn CA m33
        replace ACA : Hid (∀ x, rb (.slice caa k cac) = some x → x ≠ b0 ∧ x ≠ b1 ∧ x ≠ b2 ∧ x ≠ b3 ∧ x ≠ b4 ∧ x ≠ b5) := hide (fun x h => by have h1 := ACA.out x h; have h2 := (CA.out.lt x h).2; exact (by omega))
        replace CB := Xgn CB m33
        replace ACB : Hid (∀ x, rb (.slice cba (m - k) cbc) = some x → x ≠ b0 ∧ x ≠ b1 ∧ x ≠ b2 ∧ x ≠ b3 ∧ x ≠ b4 ∧ x ≠ b5) := hide (fun x h => by have h1 := ACB.out x h; have h2 := (CB.out.lt x h).2; exact (by omega))
        replace LN := Xqn LN m33
        replace ALN : Hid (∀ x, Lrb (.slice xa p.nw xc) (.slice ya p.ng yc) (.slice za p.nd zc) (.slice ta p.nu tc) x → x ≠ b0 ∧ x ≠ b1 ∧ x ≠ b2 ∧ x ≠ b3 ∧ x ≠ b4 ∧ x ≠ b5) := hide (fun x h => by have h1 := ALN.out x h; have h2 := (LN.out.lt x h).2; exact (by omega))
        replace LI := Xqn LI m33
        replace ALI : Hid (∀ x, Lrb (.slice x1a L.nw x1c) (.slice y1a L.ng y1c) (.slice z1a L.nd z1c) (.slice t1a L.nu t1c) x → x ≠ b0 ∧ x ≠ b1 ∧ x ≠ b2 ∧ x ≠ b3 ∧ x ≠ b4 ∧ x ≠ b5) := hide (fun x h => by have h1 := ALI.out x h; have h2 := (LI.out.lt x h).2; exact (by omega))
        replace LT := Xqn LT m33
        replace ALT : Hid (∀ x, Lrb (.slice x2a L.nw x2c) (.slice y2a L.ng y2c) (.slice z2a L.nd z2c) (.slice t2a L.nu t2c) x → x ≠ b0 ∧ x ≠ b1 ∧ x ≠ b2 ∧ x ≠ b3 ∧ x ≠ b4 ∧ x ≠ b5) := hide (fun x h => by have h1 := ALT.out x h; have h2 := (LT.out.lt x h).2; exact (by omega))
        replace LA := Xqn LA m33
        replace ALA : Hid (∀ x, Lrb (.slice x3a M.nw x3c) (.slice y3a M.ng y3c) (.slice z3a M.nd z3c) (.slice t3a M.nu t3c) x → x ≠ b0 ∧ x ≠ b1 ∧ x ≠ b2 ∧ x ≠ b3 ∧ x ≠ b4 ∧ x ≠ b5) := hide (fun x h => by have h1 := ALA.out x h; have h2 := (LA.out.lt x h).2; exact (by omega))
        replace LB := Xqn LB m33
        replace ALB : Hid (∀ x, Lrb (.slice x4a L.nw x4c) (.slice y4a L.ng y4c) (.slice z4a L.nd z4c) (.slice t4a L.nu t4c) x → x ≠ b0 ∧ x ≠ b1 ∧ x ≠ b2 ∧ x ≠ b3 ∧ x ≠ b4 ∧ x ≠ b5) := hide (fun x h => by have h1 := ALB.out x h; have h2 := (LB.out.lt x h).2; exact (by omega))
        clear hb5
        refine sv (.slice caa k cac) ?_
        replace HB := Xhn (Xhn HB m33) m34
        have szW := HB.out.size
        replace CI := Xgn CI m34
        have hci := fun x e => (CI.out.lt x e).2
        replace CA := Xgn CA m34
        obtain ⟨ga, gk, V35, hrun, hgr, hrg, hbl⟩ := app_ints V34 V34.heap.size (.slice (some ⟨b5, 0, none⟩) 0 0) 0 (fun _ => 0) caa k cac C 43 (.inl ⟨⟨_, rfl⟩, rfl⟩) CA.out.sg (by omega) (by omega) (Nat.le_refl _)
        have m35 : Mv (nob) V34 V35 := mv_nil hgr
        refine sw_valW (by rfl) (run_append_op _ _ 43 (by rfl) (by rfl) (by rfl) hrun) ?_
        refine pt ?_
        have HG := hide hrg
        have szV := hgr.size
        have hgb : ∀ x, rb (.slice ga (0 + k) gk) = some x → V34.heap.size ≤ x := fun x e => (hbl x e).elim (fun h => absurd h (by simp [rb])) (fun h => h)
        clear hrun hgr hrg hbl
        refine sv (.slice cba (m - k) cbc) ?_
        replace bx0 := Xbn (Xbn (Xbn bx0 m33) m34) m35; replace bx1 := Xbn (Xbn (Xbn bx1 m33) m34) m35; replace bx2 := Xbn (Xbn (Xbn bx2 m33) m34) m35; replace bx3 := Xbn (Xbn (Xbn bx3 m33) m34) m35; replace LN := Xqn (Xqn LN m34) m35; replace LF := Xgn (Xgn LF m34) m35; replace LI := Xqn (Xqn LI m34) m35; replace LT := Xqn (Xqn LT m34) m35
        replace CT := Xgn (Xgn CT m34) m35; replace LA := Xqn (Xqn LA m34) m35; replace LB := Xqn (Xqn LB m34) m35; replace CB := Xgn (Xgn CB m34) m35; replace bx4 := Xbn (Xbn bx4 m34) m35; replace HB := Xhn HB m35; replace CI := Xgn CI m35; replace CA := Xgn CA m35; replace bx5 := Xbn bx5 m35
        have szW2 := HB.out.size
        replace HG := HG
        obtain ⟨ha, hk2, V36, hrun, hgr, hrg, hbl⟩ := app_ints V35 w.heap.size (.slice ga (0 + k) gk) (0 + k) (fun j => if j < 0 then 0 else C (j - 0)) cba (m - k) cbc D 43 (HG.out.lower (by omega)) CB.out.sg (by omega) (by omega) (by omega)
        have m36 : Mv (fun x => rb (.slice ga (0 + k) gk) = some x) V35 V36 := Mv.of_grown hgr
        refine sw_valW (by rfl) (run_append_op _ _ 43 (by rfl) (by rfl) (by rfl) hrun) ?_
        refine pt ?_
        replace HB := hide (HB.out.step m36 (fun x hx e => by have := hgb x e; omega))
        replace CI := hide (CI.out.mv m36 (fun x e h => by have := hgb x h; have := hci x e; omega))
        have HR := hide hrg
        clear hrun hgr hrg hbl
        refine sv (.slice cia m cic) ?_
        refine sw_call (by rfl) (by first | rfl | (go_simp; done)) (sameInts_same (.slice ha (0 + k + (m - k)) hk2) _ m C V36 (by have h := HR.out.sg; rw [show 0 + k + (m - k) = m by omega] at h ⊢; exact h.congr (fun j hj i hi => by unfold iF; simp only [Nat.zero_add, Nat.not_lt_zero, if_false, Nat.sub_zero]; rw [hC2 j hj])) CI.out.sg (by omega)) ?_
        rintro e V37 ⟨rfl, hbl⟩
        have m37 : Mv (nob) V36 V37 := Mv.of_below hbl
        refine ⟨_, rfl, ?_⟩
        refine pt ?_
        clear hbl
        refine sg (.bool true) ?_
        refine sv (.bool true) ?_
        refine nt (h16 _ _ (wp_ret ?_)); clear h16 K16
        replace HB := Xhn HB m37; replace CI := Xgn CI m37
        exact bodyPost_ret (v := .bool true) (by simp [results, Try.results6, go_sem]) rfl ⟨rfl, HB.out.below⟩
      refine kd_each (l := [4, 8]) (by kernel_rfl) rfl ⟨?_, ?_, trivial⟩
      · have szT := lt_of_block bx3.out
        have szW := HB.out.size
        refine ⟨_, rfl, by rfl, .inr ⟨_, _, _, by first | rfl | (go_simp; done), hB tla tlc V29 _ _ _ _ LA.out.la (cut_tail LF.out k hkm hs2), ?_⟩⟩
        rintro e V38 ⟨wv1, gv1, dv1, uv1, cv1, rfl, LQ, RQ, hap, hbl⟩
        have m38 : Mv (nob) V29 V38 := Mv.of_below hbl
        replace hS := hS.step m38 (fun _ _ h => h.elim)
        refine ⟨_, rfl, fun _ => hS, ?_⟩
        refine ptk ?_
        obtain ⟨cba, cbc, rfl, _⟩ := RQ.form
        obtain ⟨x4a, x4c, rfl, _⟩ := LQ.wa.form
        obtain ⟨y4a, y4c, rfl, _⟩ := LQ.go.form
        obtain ⟨z4a, z4c, rfl, _⟩ := LQ.dn.form
        obtain ⟨t4a, t4c, rfl, _⟩ := LQ.up.form
        have LB := hide (LQ.lower szW)
        have ALB : Hid (∀ x, Lrb (.slice x4a L.nw x4c) (.slice y4a L.ng y4c) (.slice z4a L.nd z4c) (.slice t4a L.nu t4c) x → x ≠ b0 ∧ x ≠ b1 ∧ x ≠ b2 ∧ x ≠ b3) := hide (fun x h => by have := (LQ.lt x h).1; exact (by omega))
        have CB := hide (RQ.lower szW)
        have ACB : Hid (∀ x, rb (.slice cba (m - k) cbc) = some x → x ≠ b0 ∧ x ≠ b1 ∧ x ≠ b2 ∧ x ≠ b3) := hide (fun x h => by have := (RQ.lt x h).1; exact (by omega))
        clear LQ RQ hap hbl szW szT
        refine tk0 5 (.tuple #[.agg #[.int .i64 L.base, .slice x4a L.nw x4c, .int .i64 L.want, .slice y4a L.ng y4c, .slice z4a L.nd z4c, .slice t4a L.nu t4c], .slice cba (m - k) cbc]) rfl ?_
        refine tk0 6 (.agg #[.int .i64 L.base, .slice x4a L.nw x4c, .int .i64 L.want, .slice y4a L.ng y4c, .slice z4a L.nd z4c, .slice t4a L.nu t4c]) rfl ?_
        refine tk0 7 (.slice cba (m - k) cbc) rfl ?_
        refine kd_valI (i := 8) (v := .pointer (some ⟨V38.heap.size, 0, none⟩)) (w' := V38.alloc (.cells #[.int .i64 0, .slice none 0 0, .int .i64 0, .slice none 0 0, .slice none 0 0, .slice none 0 0] 27)) (fun V => Mv nob V38 V ∧ V.heap[V38.heap.size]? = some (.cells #[.int .i64 0, .slice none 0 0, .int .i64 0, .slice none 0 0, .slice none 0 0, .slice none 0 0] 27 (0, 0))) (by kernel_rfl) rfl (by rfl) (by first | rfl | go_simp) ⟨Mv.alloc _ _, heap_alloc_new _ _⟩ (fun V hI _ => hS.step hI.1 (fun _ _ h => h.elim)) ?_
        rintro V39 ⟨m39, nx⟩
        refine ptk ?_
        obtain ⟨b4, hb4⟩ : ∃ b4, V38.heap.size = b4 := ⟨_, rfl⟩
        rw [hb4] at nx ⊢
        have or_4 := Mv.le hS hb4
        replace bx3 := Xbn bx3 m38
        have o3_4 := Xlo bx3 hb4
        replace LF := Xgn LF m38
        replace ALF : Hid (∀ x, rb (.slice la m lc) = some x → x ≠ b0 ∧ x ≠ b1 ∧ x ≠ b2 ∧ x ≠ b3 ∧ x ≠ b4) := hide (fun x h => by have h1 := ALF.out x h; have h2 := (LF.out.lt x h).2; exact (by omega))
        replace CI := Xgn CI m38
        replace ACI : Hid (∀ x, rb (.slice cia m cic) = some x → x ≠ b0 ∧ x ≠ b1 ∧ x ≠ b2 ∧ x ≠ b3 ∧ x ≠ b4) := hide (fun x h => by have h1 := ACI.out x h; have h2 := (CI.out.lt x h).2; exact (by omega))
        replace CT := Xgn CT m38
        replace ACT : Hid (∀ x, rb (.slice cta m ctc) = some x → x ≠ b0 ∧ x ≠ b1 ∧ x ≠ b2 ∧ x ≠ b3 ∧ x ≠ b4) := hide (fun x h => by have h1 := ACT.out x h; have h2 := (CT.out.lt x h).2; exact (by omega))
        replace CA := Xgn CA m38
        replace ACA : Hid (∀ x, rb (.slice caa k cac) = some x → x ≠ b0 ∧ x ≠ b1 ∧ x ≠ b2 ∧ x ≠ b3 ∧ x ≠ b4) := hide (fun x h => by have h1 := ACA.out x h; have h2 := (CA.out.lt x h).2; exact (by omega))
        replace ACB : Hid (∀ x, rb (.slice cba (m - k) cbc) = some x → x ≠ b0 ∧ x ≠ b1 ∧ x ≠ b2 ∧ x ≠ b3 ∧ x ≠ b4) := hide (fun x h => by have h1 := ACB.out x h; have h2 := (CB.out.lt x h).2; exact (by omega))
        replace LN := Xqn LN m38
        replace ALN : Hid (∀ x, Lrb (.slice xa p.nw xc) (.slice ya p.ng yc) (.slice za p.nd zc) (.slice ta p.nu tc) x → x ≠ b0 ∧ x ≠ b1 ∧ x ≠ b2 ∧ x ≠ b3 ∧ x ≠ b4) := hide (fun x h => by have h1 := ALN.out x h; have h2 := (LN.out.lt x h).2; exact (by omega))
        replace LI := Xqn LI m38
        replace ALI : Hid (∀ x, Lrb (.slice x1a L.nw x1c) (.slice y1a L.ng y1c) (.slice z1a L.nd z1c) (.slice t1a L.nu t1c) x → x ≠ b0 ∧ x ≠ b1 ∧ x ≠ b2 ∧ x ≠ b3 ∧ x ≠ b4) := hide (fun x h => by have h1 := ALI.out x h; have h2 := (LI.out.lt x h).2; exact (by omega))
        replace LT := Xqn LT m38
        replace ALT : Hid (∀ x, Lrb (.slice x2a L.nw x2c) (.slice y2a L.ng y2c) (.slice z2a L.nd z2c) (.slice t2a L.nu t2c) x → x ≠ b0 ∧ x ≠ b1 ∧ x ≠ b2 ∧ x ≠ b3 ∧ x ≠ b4) := hide (fun x h => by have h1 := ALT.out x h; have h2 := (LT.out.lt x h).2; exact (by omega))
        replace LA := Xqn LA m38
        replace ALA : Hid (∀ x, Lrb (.slice x3a M.nw x3c) (.slice y3a M.ng y3c) (.slice z3a M.nd z3c) (.slice t3a M.nu t3c) x → x ≠ b0 ∧ x ≠ b1 ∧ x ≠ b2 ∧ x ≠ b3 ∧ x ≠ b4) := hide (fun x h => by have h1 := ALA.out x h; have h2 := (LA.out.lt x h).2; exact (by omega))
        replace ALB : Hid (∀ x, Lrb (.slice x4a L.nw x4c) (.slice y4a L.ng y4c) (.slice z4a L.nd z4c) (.slice t4a L.nu t4c) x → x ≠ b0 ∧ x ≠ b1 ∧ x ≠ b2 ∧ x ≠ b3 ∧ x ≠ b4) := hide (fun x h => by have h1 := ALB.out x h; have h2 := (LB.out.lt x h).2; exact (by omega))
        have bx4 := hide nx
        clear nx
        replace hS := hS.step m39 (fun _ _ h => h.elim)
        clear hb4
        refine kd_skipI (i := 9) (w' := (((((V39.setCell ⟨b4, 0, none⟩ (.int .i64 L.base)).setCell ⟨b4, 1, none⟩ (.slice x4a L.nw x4c)).setCell ⟨b4, 2, none⟩ (.int .i64 L.want)).setCell ⟨b4, 3, none⟩ (.slice y4a L.ng y4c)).setCell ⟨b4, 4, none⟩ (.slice z4a L.nd z4c)).setCell ⟨b4, 5, none⟩ (.slice t4a L.nu t4c)) (fun V => Mv (fun g => g = b4) V39 V ∧ V.heap[b4]? = some (.cells #[.int .i64 L.base, .slice x4a L.nw x4c, .int .i64 L.want, .slice y4a L.ng y4c, .slice z4a L.nd z4c, .slice t4a L.nu t4c] 27 (0, 0))) (by kernel_rfl) rfl (by rfl) (by have fr := fun i => frozen_of_row _ _ i _ _ bx4.out; have z0 := cell_box 0 bx4.out rfl; have z1 := cell_box 1 bx4.out rfl; have z2 := cell_box 2 bx4.out rfl; have z3 := cell_box 3 bx4.out rfl; have z4 := cell_box 4 bx4.out rfl; have z5 := cell_box 5 bx4.out rfl; go_simp) ⟨Mv.set (Mv.set (Mv.set (Mv.set (Mv.set (Mv.set (Mv.refl _ _) _ _) _ _) _ _) _ _) _ _) _ _, (heap_setCell_same _ _ 5 _ _ _ (heap_setCell_same _ _ 4 _ _ _ (heap_setCell_same _ _ 3 _ _ _ (heap_setCell_same _ _ 2 _ _ _ (heap_setCell_same _ _ 1 _ _ _ (heap_setCell_same _ _ 0 _ _ _ (bx4.out))))))).trans rfl⟩ (fun V hI _ => hS.step hI.1 (fun g hg h => by have h : g = b4 := h; exfalso; omega)) ?_
        rintro V40 ⟨m40, nxV40⟩
        refine ptk ?_
        replace bx4 := hide nxV40
        clear nxV40
        replace hS := hS.step m40 (fun g hg h => by have h : g = b4 := h; exfalso; omega)
        refine tk0 10 (.slice cba (m - k) cbc) rfl ?_
        refine wpAnyK_done (by kernel_rfl) ?_
        clear hS rbx3
        replace HB := Xhb (Xhn (Xhn HB m38) m39) m40; replace bx0 := Xbb (Xbn (Xbn bx0 m38) m39) m40; replace bx1 := Xbb (Xbn (Xbn bx1 m38) m39) m40; replace bx2 := Xbb (Xbn (Xbn bx2 m38) m39) m40; replace LN := Xqb (Xqn LN m39) m40 (fun x h => by have := ALN.out x h; omega); replace LF := Xgb (Xgn LF m39) m40 (fun x h => by have := ALF.out x h; omega)
        replace LI := Xqb (Xqn LI m39) m40 (fun x h => by have := ALI.out x h; omega); replace CI := Xgb (Xgn CI m39) m40 (fun x h => by have := ACI.out x h; omega); replace LT := Xqb (Xqn LT m39) m40 (fun x h => by have := ALT.out x h; omega); replace CT := Xgb (Xgn CT m39) m40 (fun x h => by have := ACT.out x h; omega)
        replace LA := Xqb (Xqn LA m39) m40 (fun x h => by have := ALA.out x h; omega); replace CA := Xgb (Xgn CA m39) m40 (fun x h => by have := ACA.out x h; omega); replace bx3 := Xbb (Xbn bx3 m39) m40; replace LB := Xqb (Xqn LB m39) m40 (fun x h => by have := ALB.out x h; omega); replace CB := Xgb (Xgn CB m39) m40 (fun x h => by have := ACB.out x h; omega)
        exact then_normal (hJ2 _ _ _ _ _ _ _ _ _ _ _ _ HB.out (by omega) bx0.out bx1.out bx2.out bx3.out bx4.out LN.out ALN.out LI.out ALI.out LT.out ALT.out LA.out ALA.out LB.out ALB.out LF.out ALF.out CI.out ACI.out CT.out ACT.out CA.out ACA.out CB.out ACB.out)
      · refine ⟨_, rfl, by rfl, .inl ⟨.pointer (some ⟨V29.heap.size, 0, none⟩), V29.alloc (.cells #[.int .i64 0, .slice none 0 0, .int .i64 0, .slice none 0 0, .slice none 0 0, .slice none 0 0] 27), (by first | rfl | go_simp), fun _ => hS.step (Mv.alloc _ _) (fun _ _ h => h.elim), ?_⟩⟩
        have m41 : Mv nob V29 (V29.alloc (.cells #[.int .i64 0, .slice none 0 0, .int .i64 0, .slice none 0 0, .slice none 0 0, .slice none 0 0] 27)) := Mv.alloc _ _
        have nx := heap_alloc_new V29 (.cells #[.int .i64 0, .slice none 0 0, .int .i64 0, .slice none 0 0, .slice none 0 0, .slice none 0 0] 27)
        obtain ⟨V41, hN⟩ : ∃ V, V29.alloc (.cells #[.int .i64 0, .slice none 0 0, .int .i64 0, .slice none 0 0, .slice none 0 0, .slice none 0 0] 27) = V := ⟨_, rfl⟩
        rw [hN] at m41 nx ⊢
        clear hN
        refine ptk ?_
        obtain ⟨b4, hb4⟩ : ∃ b4, V29.heap.size = b4 := ⟨_, rfl⟩
        rw [hb4] at nx ⊢
        have or_4 := Mv.le hS hb4
        have o3_4 := Xlo bx3 hb4
        replace ALF : Hid (∀ x, rb (.slice la m lc) = some x → x ≠ b0 ∧ x ≠ b1 ∧ x ≠ b2 ∧ x ≠ b3 ∧ x ≠ b4) := hide (fun x h => by have h1 := ALF.out x h; have h2 := (LF.out.lt x h).2; exact (by omega))
        replace ACI : Hid (∀ x, rb (.slice cia m cic) = some x → x ≠ b0 ∧ x ≠ b1 ∧ x ≠ b2 ∧ x ≠ b3 ∧ x ≠ b4) := hide (fun x h => by have h1 := ACI.out x h; have h2 := (CI.out.lt x h).2; exact (by omega))
        replace ACT : Hid (∀ x, rb (.slice cta m ctc) = some x → x ≠ b0 ∧ x ≠ b1 ∧ x ≠ b2 ∧ x ≠ b3 ∧ x ≠ b4) := hide (fun x h => by have h1 := ACT.out x h; have h2 := (CT.out.lt x h).2; exact (by omega))
        replace ACA : Hid (∀ x, rb (.slice caa k cac) = some x → x ≠ b0 ∧ x ≠ b1 ∧ x ≠ b2 ∧ x ≠ b3 ∧ x ≠ b4) := hide (fun x h => by have h1 := ACA.out x h; have h2 := (CA.out.lt x h).2; exact (by omega))
        replace ALN : Hid (∀ x, Lrb (.slice xa p.nw xc) (.slice ya p.ng yc) (.slice za p.nd zc) (.slice ta p.nu tc) x → x ≠ b0 ∧ x ≠ b1 ∧ x ≠ b2 ∧ x ≠ b3 ∧ x ≠ b4) := hide (fun x h => by have h1 := ALN.out x h; have h2 := (LN.out.lt x h).2; exact (by omega))
        replace ALI : Hid (∀ x, Lrb (.slice x1a L.nw x1c) (.slice y1a L.ng y1c) (.slice z1a L.nd z1c) (.slice t1a L.nu t1c) x → x ≠ b0 ∧ x ≠ b1 ∧ x ≠ b2 ∧ x ≠ b3 ∧ x ≠ b4) := hide (fun x h => by have h1 := ALI.out x h; have h2 := (LI.out.lt x h).2; exact (by omega))
        replace ALT : Hid (∀ x, Lrb (.slice x2a L.nw x2c) (.slice y2a L.ng y2c) (.slice z2a L.nd z2c) (.slice t2a L.nu t2c) x → x ≠ b0 ∧ x ≠ b1 ∧ x ≠ b2 ∧ x ≠ b3 ∧ x ≠ b4) := hide (fun x h => by have h1 := ALT.out x h; have h2 := (LT.out.lt x h).2; exact (by omega))
        replace ALA : Hid (∀ x, Lrb (.slice x3a M.nw x3c) (.slice y3a M.ng y3c) (.slice z3a M.nd z3c) (.slice t3a M.nu t3c) x → x ≠ b0 ∧ x ≠ b1 ∧ x ≠ b2 ∧ x ≠ b3 ∧ x ≠ b4) := hide (fun x h => by have h1 := ALA.out x h; have h2 := (LA.out.lt x h).2; exact (by omega))
        have bx4 := hide nx
        clear nx
        replace hS := hS.step m41 (fun _ _ h => h.elim)
        clear hb4
        have szT := lt_of_block bx4.out
        replace HB := Xhn HB m41
        have szW := HB.out.size
        replace LF := Xgn LF m41; replace LA := Xqn LA m41
        refine kd_call (i := 4) (by kernel_rfl) rfl (by rfl) (by first | rfl | (go_simp; done)) (hB tla tlc V41 _ _ _ _ LA.out.la (cut_tail LF.out k hkm hs2)) ?_
        rintro e V42 ⟨wv1, gv1, dv1, uv1, cv1, rfl, LQ, RQ, hap, hbl⟩
        have m42 : Mv (nob) V41 V42 := Mv.of_below hbl
        replace hS := hS.step m42 (fun _ _ h => h.elim)
        refine ⟨_, rfl, fun _ => hS, ?_⟩
        refine ptk ?_
        obtain ⟨cba, cbc, rfl, _⟩ := RQ.form
        obtain ⟨x4a, x4c, rfl, _⟩ := LQ.wa.form
        obtain ⟨y4a, y4c, rfl, _⟩ := LQ.go.form
        obtain ⟨z4a, z4c, rfl, _⟩ := LQ.dn.form
        obtain ⟨t4a, t4c, rfl, _⟩ := LQ.up.form
        have LB := hide (LQ.lower szW)
        have ALB : Hid (∀ x, Lrb (.slice x4a L.nw x4c) (.slice y4a L.ng y4c) (.slice z4a L.nd z4c) (.slice t4a L.nu t4c) x → x ≠ b0 ∧ x ≠ b1 ∧ x ≠ b2 ∧ x ≠ b3 ∧ x ≠ b4) := hide (fun x h => by have := (LQ.lt x h).1; exact (by omega))
        have CB := hide (RQ.lower szW)
        have ACB : Hid (∀ x, rb (.slice cba (m - k) cbc) = some x → x ≠ b0 ∧ x ≠ b1 ∧ x ≠ b2 ∧ x ≠ b3 ∧ x ≠ b4) := hide (fun x h => by have := (RQ.lt x h).1; exact (by omega))
        clear LQ RQ hap hbl szW szT
        refine tk0 5 (.tuple #[.agg #[.int .i64 L.base, .slice x4a L.nw x4c, .int .i64 L.want, .slice y4a L.ng y4c, .slice z4a L.nd z4c, .slice t4a L.nu t4c], .slice cba (m - k) cbc]) rfl ?_
        refine tk0 6 (.agg #[.int .i64 L.base, .slice x4a L.nw x4c, .int .i64 L.want, .slice y4a L.ng y4c, .slice z4a L.nd z4c, .slice t4a L.nu t4c]) rfl ?_
        refine tk0 7 (.slice cba (m - k) cbc) rfl ?_
        replace bx4 := Xbn bx4 m42
        refine kd_skipI (i := 9) (w' := (((((V42.setCell ⟨b4, 0, none⟩ (.int .i64 L.base)).setCell ⟨b4, 1, none⟩ (.slice x4a L.nw x4c)).setCell ⟨b4, 2, none⟩ (.int .i64 L.want)).setCell ⟨b4, 3, none⟩ (.slice y4a L.ng y4c)).setCell ⟨b4, 4, none⟩ (.slice z4a L.nd z4c)).setCell ⟨b4, 5, none⟩ (.slice t4a L.nu t4c)) (fun V => Mv (fun g => g = b4) V42 V ∧ V.heap[b4]? = some (.cells #[.int .i64 L.base, .slice x4a L.nw x4c, .int .i64 L.want, .slice y4a L.ng y4c, .slice z4a L.nd z4c, .slice t4a L.nu t4c] 27 (0, 0))) (by kernel_rfl) rfl (by rfl) (by have fr := fun i => frozen_of_row _ _ i _ _ bx4.out; have z0 := cell_box 0 bx4.out rfl; have z1 := cell_box 1 bx4.out rfl; have z2 := cell_box 2 bx4.out rfl; have z3 := cell_box 3 bx4.out rfl; have z4 := cell_box 4 bx4.out rfl; have z5 := cell_box 5 bx4.out rfl; go_simp) ⟨Mv.set (Mv.set (Mv.set (Mv.set (Mv.set (Mv.set (Mv.refl _ _) _ _) _ _) _ _) _ _) _ _) _ _, (heap_setCell_same _ _ 5 _ _ _ (heap_setCell_same _ _ 4 _ _ _ (heap_setCell_same _ _ 3 _ _ _ (heap_setCell_same _ _ 2 _ _ _ (heap_setCell_same _ _ 1 _ _ _ (heap_setCell_same _ _ 0 _ _ _ (bx4.out))))))).trans rfl⟩ (fun V hI _ => hS.step hI.1 (fun g hg h => by have h : g = b4 := h; exfalso; omega)) ?_
        rintro V43 ⟨m43, nxV43⟩
        refine ptk ?_
        replace bx4 := hide nxV43
        clear nxV43
        replace hS := hS.step m43 (fun g hg h => by have h : g = b4 := h; exfalso; omega)
        refine tk0 10 (.slice cba (m - k) cbc) rfl ?_
        refine wpAnyK_done (by kernel_rfl) ?_
        clear hS rbx3
        replace LN := Xqb (Xqn (Xqn LN m41) m42) m43 (fun x h => by have := ALN.out x h; omega); replace bx0 := Xbb (Xbn (Xbn bx0 m41) m42) m43; replace LI := Xqb (Xqn (Xqn LI m41) m42) m43 (fun x h => by have := ALI.out x h; omega); replace CI := Xgb (Xgn (Xgn CI m41) m42) m43 (fun x h => by have := ACI.out x h; omega)
        replace bx1 := Xbb (Xbn (Xbn bx1 m41) m42) m43; replace LT := Xqb (Xqn (Xqn LT m41) m42) m43 (fun x h => by have := ALT.out x h; omega); replace CT := Xgb (Xgn (Xgn CT m41) m42) m43 (fun x h => by have := ACT.out x h; omega); replace bx2 := Xbb (Xbn (Xbn bx2 m41) m42) m43; replace CA := Xgb (Xgn (Xgn CA m41) m42) m43 (fun x h => by have := ACA.out x h; omega)
        replace bx3 := Xbb (Xbn (Xbn bx3 m41) m42) m43; replace HB := Xhb (Xhn HB m42) m43; replace LF := Xgb (Xgn LF m42) m43 (fun x h => by have := ALF.out x h; omega); replace LA := Xqb (Xqn LA m42) m43 (fun x h => by have := ALA.out x h; omega); replace LB := Xqb LB m43 (fun x h => by have := ALB.out x h; omega)
        replace CB := Xgb CB m43 (fun x h => by have := ACB.out x h; omega)
        exact then_normal (hJ2 _ _ _ _ _ _ _ _ _ _ _ _ HB.out (by omega) bx0.out bx1.out bx2.out bx3.out bx4.out LN.out ALN.out LI.out ALI.out LT.out ALT.out LA.out ALA.out LB.out ALB.out LF.out ALF.out CI.out ACI.out CT.out ACT.out CA.out ACA.out CB.out ACB.out)
    refine kd_each (l := [4, 8]) (by kernel_rfl) rfl ⟨?_, ?_, trivial⟩
    · have szT := lt_of_block bx2.out
      have szW := HB.out.size
      refine ⟨_, rfl, by rfl, .inr ⟨_, _, _, by first | rfl | (go_simp; done), hA V25 _ _ _ _ LN.out.la (acts_cut LF.out k hkm).1.2, ?_⟩⟩
      rintro e V44 ⟨wv1, gv1, dv1, uv1, cv1, rfl, LQ, RQ, hap, hbl⟩
      have m44 : Mv (nob) V25 V44 := Mv.of_below hbl
      replace hS := hS.step m44 (fun _ _ h => h.elim)
      refine ⟨_, rfl, fun _ => hS, ?_⟩
      refine ptk ?_
      obtain ⟨caa, cac, rfl, _⟩ := RQ.form
      obtain ⟨x3a, x3c, rfl, _⟩ := LQ.wa.form
      obtain ⟨y3a, y3c, rfl, _⟩ := LQ.go.form
      obtain ⟨z3a, z3c, rfl, _⟩ := LQ.dn.form
      obtain ⟨t3a, t3c, rfl, _⟩ := LQ.up.form
      have LA := hide (LQ.lower szW)
      have ALA : Hid (∀ x, Lrb (.slice x3a M.nw x3c) (.slice y3a M.ng y3c) (.slice z3a M.nd z3c) (.slice t3a M.nu t3c) x → x ≠ b0 ∧ x ≠ b1 ∧ x ≠ b2) := hide (fun x h => by have := (LQ.lt x h).1; exact (by omega))
      have CA := hide (RQ.lower szW)
      have ACA : Hid (∀ x, rb (.slice caa k cac) = some x → x ≠ b0 ∧ x ≠ b1 ∧ x ≠ b2) := hide (fun x h => by have := (RQ.lt x h).1; exact (by omega))
      clear LQ RQ hap hbl szW szT
      refine tk0 5 (.tuple #[.agg #[.int .i64 M.base, .slice x3a M.nw x3c, .int .i64 M.want, .slice y3a M.ng y3c, .slice z3a M.nd z3c, .slice t3a M.nu t3c], .slice caa k cac]) rfl ?_
      refine tk0 6 (.agg #[.int .i64 M.base, .slice x3a M.nw x3c, .int .i64 M.want, .slice y3a M.ng y3c, .slice z3a M.nd z3c, .slice t3a M.nu t3c]) rfl ?_
      refine tk0 7 (.slice caa k cac) rfl ?_
      refine kd_valI (i := 8) (v := .pointer (some ⟨V44.heap.size, 0, none⟩)) (w' := V44.alloc (.cells #[.int .i64 0, .slice none 0 0, .int .i64 0, .slice none 0 0, .slice none 0 0, .slice none 0 0] 27)) (fun V => Mv nob V44 V ∧ V.heap[V44.heap.size]? = some (.cells #[.int .i64 0, .slice none 0 0, .int .i64 0, .slice none 0 0, .slice none 0 0, .slice none 0 0] 27 (0, 0))) (by kernel_rfl) rfl (by rfl) (by first | rfl | go_simp) ⟨Mv.alloc _ _, heap_alloc_new _ _⟩ (fun V hI _ => hS.step hI.1 (fun _ _ h => h.elim)) ?_
      rintro V45 ⟨m45, nx⟩
      refine ptk ?_
      obtain ⟨b3, hb3⟩ : ∃ b3, V44.heap.size = b3 := ⟨_, rfl⟩
      rw [hb3] at nx ⊢
      have or_3 := Mv.le hS hb3
      replace bx2 := Xbn bx2 m44
      have o2_3 := Xlo bx2 hb3
      replace LF := Xgn LF m44
      replace ALF : Hid (∀ x, rb (.slice la m lc) = some x → x ≠ b0 ∧ x ≠ b1 ∧ x ≠ b2 ∧ x ≠ b3) := hide (fun x h => by have h1 := ALF.out x h; have h2 := (LF.out.lt x h).2; exact (by omega))
      replace CI := Xgn CI m44
      replace ACI : Hid (∀ x, rb (.slice cia m cic) = some x → x ≠ b0 ∧ x ≠ b1 ∧ x ≠ b2 ∧ x ≠ b3) := hide (fun x h => by have h1 := ACI.out x h; have h2 := (CI.out.lt x h).2; exact (by omega))
      replace CT := Xgn CT m44
      replace ACT : Hid (∀ x, rb (.slice cta m ctc) = some x → x ≠ b0 ∧ x ≠ b1 ∧ x ≠ b2 ∧ x ≠ b3) := hide (fun x h => by have h1 := ACT.out x h; have h2 := (CT.out.lt x h).2; exact (by omega))
      replace ACA : Hid (∀ x, rb (.slice caa k cac) = some x → x ≠ b0 ∧ x ≠ b1 ∧ x ≠ b2 ∧ x ≠ b3) := hide (fun x h => by have h1 := ACA.out x h; have h2 := (CA.out.lt x h).2; exact (by omega))
      replace LN := Xqn LN m44
      replace ALN : Hid (∀ x, Lrb (.slice xa p.nw xc) (.slice ya p.ng yc) (.slice za p.nd zc) (.slice ta p.nu tc) x → x ≠ b0 ∧ x ≠ b1 ∧ x ≠ b2 ∧ x ≠ b3) := hide (fun x h => by have h1 := ALN.out x h; have h2 := (LN.out.lt x h).2; exact (by omega))
      replace LI := Xqn LI m44
      replace ALI : Hid (∀ x, Lrb (.slice x1a L.nw x1c) (.slice y1a L.ng y1c) (.slice z1a L.nd z1c) (.slice t1a L.nu t1c) x → x ≠ b0 ∧ x ≠ b1 ∧ x ≠ b2 ∧ x ≠ b3) := hide (fun x h => by have h1 := ALI.out x h; have h2 := (LI.out.lt x h).2; exact (by omega))
      replace LT := Xqn LT m44
      replace ALT : Hid (∀ x, Lrb (.slice x2a L.nw x2c) (.slice y2a L.ng y2c) (.slice z2a L.nd z2c) (.slice t2a L.nu t2c) x → x ≠ b0 ∧ x ≠ b1 ∧ x ≠ b2 ∧ x ≠ b3) := hide (fun x h => by have h1 := ALT.out x h; have h2 := (LT.out.lt x h).2; exact (by omega))
      replace ALA : Hid (∀ x, Lrb (.slice x3a M.nw x3c) (.slice y3a M.ng y3c) (.slice z3a M.nd z3c) (.slice t3a M.nu t3c) x → x ≠ b0 ∧ x ≠ b1 ∧ x ≠ b2 ∧ x ≠ b3) := hide (fun x h => by have h1 := ALA.out x h; have h2 := (LA.out.lt x h).2; exact (by omega))
      have bx3 := hide nx
      clear nx
      replace hS := hS.step m45 (fun _ _ h => h.elim)
      clear hb3
      refine kd_skipI (i := 9) (w' := (((((V45.setCell ⟨b3, 0, none⟩ (.int .i64 M.base)).setCell ⟨b3, 1, none⟩ (.slice x3a M.nw x3c)).setCell ⟨b3, 2, none⟩ (.int .i64 M.want)).setCell ⟨b3, 3, none⟩ (.slice y3a M.ng y3c)).setCell ⟨b3, 4, none⟩ (.slice z3a M.nd z3c)).setCell ⟨b3, 5, none⟩ (.slice t3a M.nu t3c)) (fun V => Mv (fun g => g = b3) V45 V ∧ V.heap[b3]? = some (.cells #[.int .i64 M.base, .slice x3a M.nw x3c, .int .i64 M.want, .slice y3a M.ng y3c, .slice z3a M.nd z3c, .slice t3a M.nu t3c] 27 (0, 0))) (by kernel_rfl) rfl (by rfl) (by have fr := fun i => frozen_of_row _ _ i _ _ bx3.out; have z0 := cell_box 0 bx3.out rfl; have z1 := cell_box 1 bx3.out rfl; have z2 := cell_box 2 bx3.out rfl; have z3 := cell_box 3 bx3.out rfl; have z4 := cell_box 4 bx3.out rfl; have z5 := cell_box 5 bx3.out rfl; go_simp) ⟨Mv.set (Mv.set (Mv.set (Mv.set (Mv.set (Mv.set (Mv.refl _ _) _ _) _ _) _ _) _ _) _ _) _ _, (heap_setCell_same _ _ 5 _ _ _ (heap_setCell_same _ _ 4 _ _ _ (heap_setCell_same _ _ 3 _ _ _ (heap_setCell_same _ _ 2 _ _ _ (heap_setCell_same _ _ 1 _ _ _ (heap_setCell_same _ _ 0 _ _ _ (bx3.out))))))).trans rfl⟩ (fun V hI _ => hS.step hI.1 (fun g hg h => by have h : g = b3 := h; exfalso; omega)) ?_
      rintro V46 ⟨m46, nxV46⟩
      refine ptk ?_
      replace bx3 := hide nxV46
      clear nxV46
      replace hS := hS.step m46 (fun g hg h => by have h : g = b3 := h; exfalso; omega)
      refine tk0 10 (.slice caa k cac) rfl ?_
      refine wpAnyK_done (by kernel_rfl) ?_
      clear hS rbx0
      replace HB := Xhb (Xhn (Xhn HB m44) m45) m46; replace bx0 := Xbb (Xbn (Xbn bx0 m44) m45) m46; replace bx1 := Xbb (Xbn (Xbn bx1 m44) m45) m46; replace LN := Xqb (Xqn LN m45) m46 (fun x h => by have := ALN.out x h; omega); replace LF := Xgb (Xgn LF m45) m46 (fun x h => by have := ALF.out x h; omega); replace LI := Xqb (Xqn LI m45) m46 (fun x h => by have := ALI.out x h; omega)
      replace CI := Xgb (Xgn CI m45) m46 (fun x h => by have := ACI.out x h; omega); replace LT := Xqb (Xqn LT m45) m46 (fun x h => by have := ALT.out x h; omega); replace CT := Xgb (Xgn CT m45) m46 (fun x h => by have := ACT.out x h; omega); replace bx2 := Xbb (Xbn bx2 m45) m46; replace LA := Xqb (Xqn LA m45) m46 (fun x h => by have := ALA.out x h; omega)
      replace CA := Xgb (Xgn CA m45) m46 (fun x h => by have := ACA.out x h; omega)
      exact then_normal (hJ1 _ _ _ _ _ _ _ _ _ _ _ _ HB.out (by omega) bx0.out bx1.out bx2.out bx3.out LN.out ALN.out LI.out ALI.out LT.out ALT.out LA.out ALA.out LF.out ALF.out CI.out ACI.out CT.out ACT.out CA.out ACA.out)
    · refine ⟨_, rfl, by rfl, .inl ⟨.pointer (some ⟨V25.heap.size, 0, none⟩), V25.alloc (.cells #[.int .i64 0, .slice none 0 0, .int .i64 0, .slice none 0 0, .slice none 0 0, .slice none 0 0] 27), (by first | rfl | go_simp), fun _ => hS.step (Mv.alloc _ _) (fun _ _ h => h.elim), ?_⟩⟩
      have m47 : Mv nob V25 (V25.alloc (.cells #[.int .i64 0, .slice none 0 0, .int .i64 0, .slice none 0 0, .slice none 0 0, .slice none 0 0] 27)) := Mv.alloc _ _
      have nx := heap_alloc_new V25 (.cells #[.int .i64 0, .slice none 0 0, .int .i64 0, .slice none 0 0, .slice none 0 0, .slice none 0 0] 27)
      obtain ⟨V47, hN⟩ : ∃ V, V25.alloc (.cells #[.int .i64 0, .slice none 0 0, .int .i64 0, .slice none 0 0, .slice none 0 0, .slice none 0 0] 27) = V := ⟨_, rfl⟩
      rw [hN] at m47 nx ⊢
      clear hN
      refine ptk ?_
      obtain ⟨b3, hb3⟩ : ∃ b3, V25.heap.size = b3 := ⟨_, rfl⟩
      rw [hb3] at nx ⊢
      have or_3 := Mv.le hS hb3
      have o2_3 := Xlo bx2 hb3
      replace ALF : Hid (∀ x, rb (.slice la m lc) = some x → x ≠ b0 ∧ x ≠ b1 ∧ x ≠ b2 ∧ x ≠ b3) := hide (fun x h => by have h1 := ALF.out x h; have h2 := (LF.out.lt x h).2; exact (by omega))
      replace ACI : Hid (∀ x, rb (.slice cia m cic) = some x → x ≠ b0 ∧ x ≠ b1 ∧ x ≠ b2 ∧ x ≠ b3) := hide (fun x h => by have h1 := ACI.out x h; have h2 := (CI.out.lt x h).2; exact (by omega))
      replace ACT : Hid (∀ x, rb (.slice cta m ctc) = some x → x ≠ b0 ∧ x ≠ b1 ∧ x ≠ b2 ∧ x ≠ b3) := hide (fun x h => by have h1 := ACT.out x h; have h2 := (CT.out.lt x h).2; exact (by omega))
      replace ALN : Hid (∀ x, Lrb (.slice xa p.nw xc) (.slice ya p.ng yc) (.slice za p.nd zc) (.slice ta p.nu tc) x → x ≠ b0 ∧ x ≠ b1 ∧ x ≠ b2 ∧ x ≠ b3) := hide (fun x h => by have h1 := ALN.out x h; have h2 := (LN.out.lt x h).2; exact (by omega))
      replace ALI : Hid (∀ x, Lrb (.slice x1a L.nw x1c) (.slice y1a L.ng y1c) (.slice z1a L.nd z1c) (.slice t1a L.nu t1c) x → x ≠ b0 ∧ x ≠ b1 ∧ x ≠ b2 ∧ x ≠ b3) := hide (fun x h => by have h1 := ALI.out x h; have h2 := (LI.out.lt x h).2; exact (by omega))
      replace ALT : Hid (∀ x, Lrb (.slice x2a L.nw x2c) (.slice y2a L.ng y2c) (.slice z2a L.nd z2c) (.slice t2a L.nu t2c) x → x ≠ b0 ∧ x ≠ b1 ∧ x ≠ b2 ∧ x ≠ b3) := hide (fun x h => by have h1 := ALT.out x h; have h2 := (LT.out.lt x h).2; exact (by omega))
      have bx3 := hide nx
      clear nx
      replace hS := hS.step m47 (fun _ _ h => h.elim)
      clear hb3
      have szT := lt_of_block bx3.out
      replace HB := Xhn HB m47
      have szW := HB.out.size
      replace LN := Xqn LN m47; replace LF := Xgn LF m47
      refine kd_call (i := 4) (by kernel_rfl) rfl (by rfl) (by first | rfl | (go_simp; done)) (hA V47 _ _ _ _ LN.out.la (acts_cut LF.out k hkm).1.2) ?_
      rintro e V48 ⟨wv1, gv1, dv1, uv1, cv1, rfl, LQ, RQ, hap, hbl⟩
      have m48 : Mv (nob) V47 V48 := Mv.of_below hbl
      replace hS := hS.step m48 (fun _ _ h => h.elim)
      refine ⟨_, rfl, fun _ => hS, ?_⟩
      refine ptk ?_
      obtain ⟨caa, cac, rfl, _⟩ := RQ.form
      obtain ⟨x3a, x3c, rfl, _⟩ := LQ.wa.form
      obtain ⟨y3a, y3c, rfl, _⟩ := LQ.go.form
      obtain ⟨z3a, z3c, rfl, _⟩ := LQ.dn.form
      obtain ⟨t3a, t3c, rfl, _⟩ := LQ.up.form
      have LA := hide (LQ.lower szW)
      have ALA : Hid (∀ x, Lrb (.slice x3a M.nw x3c) (.slice y3a M.ng y3c) (.slice z3a M.nd z3c) (.slice t3a M.nu t3c) x → x ≠ b0 ∧ x ≠ b1 ∧ x ≠ b2 ∧ x ≠ b3) := hide (fun x h => by have := (LQ.lt x h).1; exact (by omega))
      have CA := hide (RQ.lower szW)
      have ACA : Hid (∀ x, rb (.slice caa k cac) = some x → x ≠ b0 ∧ x ≠ b1 ∧ x ≠ b2 ∧ x ≠ b3) := hide (fun x h => by have := (RQ.lt x h).1; exact (by omega))
      clear LQ RQ hap hbl szW szT
      refine tk0 5 (.tuple #[.agg #[.int .i64 M.base, .slice x3a M.nw x3c, .int .i64 M.want, .slice y3a M.ng y3c, .slice z3a M.nd z3c, .slice t3a M.nu t3c], .slice caa k cac]) rfl ?_
      refine tk0 6 (.agg #[.int .i64 M.base, .slice x3a M.nw x3c, .int .i64 M.want, .slice y3a M.ng y3c, .slice z3a M.nd z3c, .slice t3a M.nu t3c]) rfl ?_
      refine tk0 7 (.slice caa k cac) rfl ?_
      replace bx3 := Xbn bx3 m48
      refine kd_skipI (i := 9) (w' := (((((V48.setCell ⟨b3, 0, none⟩ (.int .i64 M.base)).setCell ⟨b3, 1, none⟩ (.slice x3a M.nw x3c)).setCell ⟨b3, 2, none⟩ (.int .i64 M.want)).setCell ⟨b3, 3, none⟩ (.slice y3a M.ng y3c)).setCell ⟨b3, 4, none⟩ (.slice z3a M.nd z3c)).setCell ⟨b3, 5, none⟩ (.slice t3a M.nu t3c)) (fun V => Mv (fun g => g = b3) V48 V ∧ V.heap[b3]? = some (.cells #[.int .i64 M.base, .slice x3a M.nw x3c, .int .i64 M.want, .slice y3a M.ng y3c, .slice z3a M.nd z3c, .slice t3a M.nu t3c] 27 (0, 0))) (by kernel_rfl) rfl (by rfl) (by have fr := fun i => frozen_of_row _ _ i _ _ bx3.out; have z0 := cell_box 0 bx3.out rfl; have z1 := cell_box 1 bx3.out rfl; have z2 := cell_box 2 bx3.out rfl; have z3 := cell_box 3 bx3.out rfl; have z4 := cell_box 4 bx3.out rfl; have z5 := cell_box 5 bx3.out rfl; go_simp) ⟨Mv.set (Mv.set (Mv.set (Mv.set (Mv.set (Mv.set (Mv.refl _ _) _ _) _ _) _ _) _ _) _ _) _ _, (heap_setCell_same _ _ 5 _ _ _ (heap_setCell_same _ _ 4 _ _ _ (heap_setCell_same _ _ 3 _ _ _ (heap_setCell_same _ _ 2 _ _ _ (heap_setCell_same _ _ 1 _ _ _ (heap_setCell_same _ _ 0 _ _ _ (bx3.out))))))).trans rfl⟩ (fun V hI _ => hS.step hI.1 (fun g hg h => by have h : g = b3 := h; exfalso; omega)) ?_
      rintro V49 ⟨m49, nxV49⟩
      refine ptk ?_
      replace bx3 := hide nxV49
      clear nxV49
      replace hS := hS.step m49 (fun g hg h => by have h : g = b3 := h; exfalso; omega)
      refine tk0 10 (.slice caa k cac) rfl ?_
      refine wpAnyK_done (by kernel_rfl) ?_
      clear hS rbx0
      replace bx0 := Xbb (Xbn (Xbn bx0 m47) m48) m49; replace LI := Xqb (Xqn (Xqn LI m47) m48) m49 (fun x h => by have := ALI.out x h; omega); replace CI := Xgb (Xgn (Xgn CI m47) m48) m49 (fun x h => by have := ACI.out x h; omega); replace bx1 := Xbb (Xbn (Xbn bx1 m47) m48) m49; replace LT := Xqb (Xqn (Xqn LT m47) m48) m49 (fun x h => by have := ALT.out x h; omega)
      replace CT := Xgb (Xgn (Xgn CT m47) m48) m49 (fun x h => by have := ACT.out x h; omega); replace bx2 := Xbb (Xbn (Xbn bx2 m47) m48) m49; replace HB := Xhb (Xhn HB m48) m49; replace LN := Xqb (Xqn LN m48) m49 (fun x h => by have := ALN.out x h; omega); replace LF := Xgb (Xgn LF m48) m49 (fun x h => by have := ALF.out x h; omega)
      replace LA := Xqb LA m49 (fun x h => by have := ALA.out x h; omega); replace CA := Xgb CA m49 (fun x h => by have := ACA.out x h; omega)
      exact then_normal (hJ1 _ _ _ _ _ _ _ _ _ _ _ _ HB.out (by omega) bx0.out bx1.out bx2.out bx3.out LN.out ALN.out LI.out ALI.out LT.out ALT.out LA.out ALA.out LF.out ALF.out CI.out ACI.out CT.out ACT.out CA.out ACA.out)

set_option maxRecDepth 100000 in
theorem lifted (os : Os) (started : os.Started) (H : Type) (enc : TypeId × Value → H) :
    ReturnsInHanded {} Try.checked os 6 .any (Rows.fnLinkPiecesSpec.pre6 enc Try.prog Try.f6 Rows.fnLinkPiecesRow.domain false) (Rows.fnLinkPiecesSpec.post enc Try.prog Try.f6 false true false false) := by
  refine returnsInHanded_of_change (C := Try.checked) own started (by kernel_rfl) Try.func6
    (ChangeSpec.witness6 (enc := enc) (C := Try.checked) false ⟨#[], #[.slice none 0 0], []⟩ 8 (by kernel_rfl) (by kernel_rfl) (by kernel_rfl) (by kernel_rfl)) ?_
  intro W base args ds gs before hval0 hW hcnd _
  have hval : ∀ (j : Nat) t v, Try.f6.params[j]? = some t → args[j]? = some v → Value.okWide Try.prog W .any base t v := hval0
  have hW' := hW
  obtain ⟨p, q, hA0, hV, rfl, hfz, hnd⟩ := hW
  have hA : DataW.TrodAll enc Try.prog W 0 (fun _ => true) true Try.f6.params.toList args.toList ds p := hA0
  rw [Try.params6] at hA hval
  obtain ⟨v0, vs0, d0, ds0, p0, q0, hargs, rfl, rfl, h0, r0⟩ := trodAll_cons hA
  obtain ⟨rfl, rfl, rfl⟩ := trodAll_nil r0
  obtain rfl : args = #[v0] := by cases args; simp_all
  obtain ⟨rfl, rfl⟩ := trodVars_none hV
  obtain ⟨a0, len0, cap0, rfl⟩ := okWide_slice Try.underlying22 (hval 0 22 v0 rfl rfl)
  have k0 := h0
  have lt0 : ∀ x ∈ p0, x.block < W.heap.size := by obtain ⟨m, hm⟩ := k0; exact DataW.trod_lt m _ _ _ hm
  obtain ⟨z0, w0⟩ : ∃ zs, IsRow .u8 W a0 len0 cap0 zs := by
    obtain ⟨fuel, hf⟩ := h0
    rcases open_ints Try.underlying22 Try.underlying5 (by kernel_rfl) hf with ⟨hcs, _⟩ | ⟨x, l, c, zs, hcs, _, hl, hm, hz, _, hcell, hwz⟩
    · simp [Value.cells] at hcs
      obtain ⟨rfl, rfl, rfl⟩ := hcs
      exact ⟨[], .inl ⟨rfl, rfl, rfl, rfl⟩⟩
    · simp [Value.cells] at hcs
      obtain ⟨rfl, rfl, rfl⟩ := hcs
      exact ⟨zs, .inr ⟨_, rfl, hl, hm, by simpa using hz, hcell, hwz⟩⟩
  clear hA0 hval0
  refine (walk a0 len0 cap0 W (row_bt w0)).mono fun e W' ⟨he, bel⟩ => ?_
  subst he
  exact ⟨_, rfl, _, _, _, [], _, [], hW', trodAll_mk1 (shut_bool Try.underlying4 _), (trodAll_cons_mk (Below.trod laidOut (by kernel_rfl) (of_decide_eq_true (by kernel_rfl)) k0 bel lt0) trodAll_mk0), rfl, bel.frame _, fun h => by cases h⟩

theorem over : Rows.fnLinkPiecesRow.holds Try.pinned (OpenSpec.ofChange Rows.fnLinkPiecesSpec) :=
  OpenClaim.holds_of_wide 6 Try.f6 rfl rfl rfl rfl rfl rfl rfl ⟨rfl, rfl, rfl, rfl, rfl⟩ rfl rfl rfl rfl rfl (by kernel_rfl) Try.func6 (by kernel_rfl)
    (of_decide_eq_true (by kernel_rfl)) (by unfold Func.isWrapper; first | (rw [if_pos (by decide +kernel)]; kernel_rfl) | (rw [if_neg (by decide +kernel)]; exact ⟨rfl, rfl⟩))
    (fun os started H enc _ => lifted os started H enc)

theorem proved : Rows.FnLinkPiecesSaid := over
end Go.Proofs.Ytgflipkhhpkidaa.fnLinkPieces

namespace Go.Proofs.Ytgflipkhhpkidaa
theorem fnLinkPieces_holds : Rows.FnLinkPiecesSaid := fnLinkPieces.proved
end Go.Proofs.Ytgflipkhhpkidaa
