/- LeB -/
import Derived.Test.YtnkocikbapbbmaaYnkPlay48
import Derived.Test.YtnkocikbapbbmaaYnkPlay37
/- spec.l8Do (written by mkLeB.py) -/
namespace Go.Proofs.Ytnkocikbapbbmaa
open Go.RowKit
set_option linter.unusedVariables false
set_option linter.unusedSimpArgs false

set_option maxHeartbeats 8000000 in
set_option maxRecDepth 20000 in
theorem l8Do_any (p : Lk) (wv0 gv0 dv0 uv0 : Value) (w : World) (ha : La w wv0 gv0 dv0 uv0 p) (k z bit : Int) (body : ByteArray) (hf : Lf p) :
    Calls Try.prog 40 #[.agg (l6 p.base wv0 p.want gv0 dv0 uv0), .agg (a4 k z bit body)] w fun e w' => ∃ wv gv dv uv, e = .returned (.tuple #[.agg (l6 (ldL p k z bit body).base wv (ldL p k z bit body).want gv dv uv), .int .i64 (ldC p k z bit body)]) ∧ Lr w' w.heap.size wv gv dv uv (ldL p k z bit body) ∧ Below w.heap.size w w' := by
  have hsm := hf.sm
  have ha0 := hide ha
  clear ha
  have hsz : saC p k z bit body = 0 → Lsm 1048576 (actL p k z bit body) := fun h => by
    unfold saC at h
    split at h
    · rename_i hla
      exact act_sm hf (laB_kind hla) h (laB_body hla)
    · exact absurd h (by decide)
  have hact : ∀ (base : Nat) V wv gv dv uv, Lr V base wv gv dv uv p → base ≤ V.heap.size → Calls Try.prog 57 #[.agg (l6 p.base wv p.want gv dv uv), .agg (a4 k z bit body)] V (SaP wv gv dv uv base V p (saC p k z bit body) (actL p k z bit body)) := fun base V wv gv dv uv hr hle => l8Act_any p wv gv dv uv base V hr hle k z bit body hf
  have HC0 : ldC p k z bit body = if saC p k z bit body = 0 then (if lkB (actL p k z bit body) then 0 else 4) else saC p k z bit body := by
    unfold ldC saC
    split
    · rfl
    · rfl
  have HL0 : ldL p k z bit body = if ldC p k z bit body = 0 then actL p k z bit body else p := rfl
  generalize ldC p k z bit body = LCc at HC0 HL0 ⊢
  generalize ldL p k z bit body = LLl at HL0 ⊢
  generalize saC p k z bit body = c at hact HC0 hsz
  generalize actL p k z bit body = q at hact HC0 HL0 hsz
  by_cases hc : c = 0
  · subst hc
    have hqs := hsz rfl
    clear hsz
    cases hok : lkB q with
    | false =>
      have HC : LCc = 4 := by rw [HC0]; simp [hok]
      have HL : LLl = p := by rw [HL0, HC]; rfl
      clear HC0 HL0
      have HB : Hid (Mv nob w w) := hide (Mv.refl _ _)
      go_enter Try.func40, Try.ntmps40
      refine sk fun K hK => rl ?_
      refine sbp #[.int .i64 p.base, wv0, .int .i64 p.want, gv0, dv0, uv0] 30 fun V1 b0 hb0 m1 bx0 => ?_
      have o_0 : w.heap.size ≤ b0 := by omega
      clear hb0
      refine sbp #[.int .i64 k, .int .i64 z, .int .i64 bit, .string body] 39 fun V2 b1 hb1 m2 bx1 => ?_
      have o0_1 := Xlo bx0 hb1; clear hb1
      refine sbp #[.int .i64 0, .slice none 0 0, .int .i64 0, .slice none 0 0, .slice none 0 0, .slice none 0 0] 30 fun V3 b2 hb2 m3 bx2 => ?_
      have o1_2 := Xlo bx1 hb2; clear hb2
      refine sv (.int .i64 0) ?_
      refine nt (hK _ _ ?_); clear hK K; refine sk fun K hK => ?_
      refine wp_region_but (z := 999) (S := fun w' => Mv nob V3.drew w') (by kernel_rfl) (Mv.refl _ _) (fun hS => ?_)
      have m4 : Mv nob V3 V3.drew := Mv.drew _
      obtain ⟨V4, hV4⟩ : ∃ V, V3.drew = V := ⟨_, rfl⟩
      rw [hV4] at hS m4 ⊢
      clear hV4; replace bx0 := Xbn (Xbn (Xbn bx0 m2) m3) m4; have rbx0 := bx0; replace bx1 := Xbn (Xbn bx1 m3) m4; have rbx1 := bx1; replace bx2 := Xbn bx2 m4; have rbx2 := bx2
      refine tk 0 (.agg #[.int .i64 p.base, wv0, .int .i64 p.want, gv0, dv0, uv0]) rfl (fun w' hSw => by (try dsimp only at hSw); have z0 := cell_box 0 (hSw.box rbx0.out (fun h => h)) rfl; have z1 := cell_box 1 (hSw.box rbx0.out (fun h => h)) rfl; have z2 := cell_box 2 (hSw.box rbx0.out (fun h => h)) rfl; have z3 := cell_box 3 (hSw.box rbx0.out (fun h => h)) rfl; have z4 := cell_box 4 (hSw.box rbx0.out (fun h => h)) rfl; have z5 := cell_box 5 (hSw.box rbx0.out (fun h => h)) rfl; go_simp) ?_
      refine tk 2 (.agg #[.int .i64 k, .int .i64 z, .int .i64 bit, .string body]) rfl (fun w' hSw => by (try dsimp only at hSw); have z0 := cell_box 0 (hSw.box rbx1.out (fun h => h)) rfl; have z1 := cell_box 1 (hSw.box rbx1.out (fun h => h)) rfl; have z2 := cell_box 2 (hSw.box rbx1.out (fun h => h)) rfl; have z3 := cell_box 3 (hSw.box rbx1.out (fun h => h)) rfl; go_simp) ?_
      have szR := lt_of_block bx2.out
      refine region_states (fun G hG => ?_)
      try dsimp only
      replace HB := Xhn (Xhn (Xhn (Xhn HB m1) m2) m3) m4; have sF2a : ∀ (V : World) (wv : Value) (gv : Value) (dv : Value) (uv : Value) (xa : Option Addr) (xn : Nat) (xc : Nat) (ya : Option Addr) (yn : Nat) (yc : Nat) (za : Option Addr) (zn : Nat) (zc : Nat) (ta : Option Addr) (tn : Nat) (tc : Nat) (bF : Nat), (Mv nob V4 V) → (V.heap[bF]? = some (.cells #[.int .i64 0, .slice none 0 0, .int .i64 0, .slice none 0 0, .slice none 0 0, .slice none 0 0] 30 (0, 0))) → (V4.heap.size ≤ bF) → (Lr V V4.heap.size (.slice xa xn xc) (.slice ya yn yc) (.slice za zn zc) (.slice ta tn tc) q) → (∀ g, Lrb (.slice xa xn xc) (.slice ya yn yc) (.slice za zn zc) (.slice ta tn tc) g → g ≠ bF) → G 2 #[true, true, true, true, true, true, true, true, false, false] #[.agg #[.int .i64 p.base, wv0, .int .i64 p.want, gv0, dv0, uv0], .agg #[.int .i64 k, .int .i64 z, .int .i64 bit, .string body], .pointer (some ⟨b0, 0, none⟩), .pointer (some ⟨b1, 0, none⟩), .pointer (some ⟨b2, 0, none⟩), .int .i64 0, .pointer (some ⟨bF, 0, none⟩), undef, .tuple #[.agg #[.int .i64 q.base, .slice xa xn xc, .int .i64 q.want, .slice ya yn yc, .slice za zn zc, .slice ta tn tc], .int .i64 0], .agg #[.int .i64 p.base, wv0, .int .i64 p.want, gv0, dv0, uv0], .agg #[.int .i64 p.base, wv, .int .i64 p.want, gv, dv, uv], .agg #[.int .i64 k, .int .i64 z, .int .i64 bit, .string body], .tuple #[.agg #[.int .i64 q.base, .slice xa xn xc, .int .i64 q.want, .slice ya yn yc, .slice za zn zc, .slice ta tn tc], .int .i64 0], .agg #[.int .i64 q.base, .slice xa xn xc, .int .i64 q.want, .slice ya yn yc, .slice za zn zc, .slice ta tn tc], .int .i64 0, undef, undef, undef, undef, undef, undef, undef, undef, undef, undef, undef, undef, undef, undef] V := by
        intro VF1 wv gv dv uv xa xn xc ya yn yc za zn zc ta tn tc b3 hM hBx hRb LQ hAB
        rw [hG]
        have o0_3 : b0 < b3 := Nat.lt_of_lt_of_le (lt_of_block bx0.out) hRb
        have o1_3 : b1 < b3 := Nat.lt_of_lt_of_le (lt_of_block bx1.out) hRb
        have o2_3 : b2 < b3 := Nat.lt_of_lt_of_le (lt_of_block bx2.out) hRb
        have rbx02 := rbx0; have rbx12 := rbx1; have rbx22 := rbx2; replace HB := Xhn HB hM; replace bx0 := Xbn bx0 hM; replace bx1 := Xbn bx1 hM; replace bx2 := Xbn bx2 hM
        have bx3 := hide hBx
        clear hBx; clear rbx02
        replace rbx0 := bx0
        clear rbx12
        replace rbx1 := bx1
        clear rbx22
        replace rbx2 := bx2
        have rbx3 := bx3; clear hG
        replace hS : Mv nob V4 VF1 := hM
        clear hM
        have LN := hide (LQ.lower (Nat.zero_le _))
        have LB := hide (fun g h => And.intro (LQ.lt g h).1 (hAB g h))
        clear LQ hAB
        refine kd_skipI (i := 8) (w' := (((((VF1.setCell ⟨b3, 0, none⟩ (.int .i64 q.base)).setCell ⟨b3, 1, none⟩ (.slice xa xn xc)).setCell ⟨b3, 2, none⟩ (.int .i64 q.want)).setCell ⟨b3, 3, none⟩ (.slice ya yn yc)).setCell ⟨b3, 4, none⟩ (.slice za zn zc)).setCell ⟨b3, 5, none⟩ (.slice ta tn tc)) (fun V => Mv (fun g => g = b3) VF1 V ∧ V.heap[b3]? = some (.cells #[.int .i64 q.base, .slice xa xn xc, .int .i64 q.want, .slice ya yn yc, .slice za zn zc, .slice ta tn tc] 30 (0, 0))) (by kernel_rfl) rfl (by rfl) (by have fr := fun i => frozen_of_row _ _ i _ _ bx3.out; have z0 := cell_box 0 bx3.out rfl; have z1 := cell_box 1 bx3.out rfl; have z2 := cell_box 2 bx3.out rfl; have z3 := cell_box 3 bx3.out rfl; have z4 := cell_box 4 bx3.out rfl; have z5 := cell_box 5 bx3.out rfl; go_simp) ⟨Mv.set (Mv.set (Mv.set (Mv.set (Mv.set (Mv.set (Mv.refl _ _) _ _) _ _) _ _) _ _) _ _) _ _, (heap_setCell_same _ _ 5 _ _ _ (heap_setCell_same _ _ 4 _ _ _ (heap_setCell_same _ _ 3 _ _ _ (heap_setCell_same _ _ 2 _ _ _ (heap_setCell_same _ _ 1 _ _ _ (heap_setCell_same _ _ 0 _ _ _ (bx3.out))))))).trans rfl⟩ (fun V hI _ => hS.step hI.1 (fun g hg h => by have h : g = b3 := h; exfalso; omega)) ?_
        rintro V5 ⟨m5, nxV5⟩
        refine ptk ?_
        replace HB := Xhb HB m5; replace bx0 := Xbb bx0 m5; replace bx2 := Xbb bx2 m5
        replace LN := hide (LN.out.mv m5 (fun g hg h => by have h : g = b3 := h; have := LB.out g hg; omega))
        replace bx3 := hide nxV5
        clear nxV5
        replace hS := hS.step m5 (fun g hg h => by first | exact h | (have h : g = b3 := h; exfalso; omega))
        clear m5
        refine tk0 9 (.int .i64 0) rfl ?_
        refine wpAnyK_done (by kernel_rfl) ?_
        clear hS rbx0 rbx1 rbx2 rbx3
        refine then_normal (hK _ _ ?_); clear hK K; refine sk fun K hK => sk fun K hK => rl ?_
        refine sv (.int .i64 0) ?_
        refine sg (.bool true) ?_
        refine sv (.bool true) ?_
        refine sl6 bx3 ?_
        refine sw_call (by rfl) (by first | rfl | (go_simp; done)) (specLinkOk_la false q (.slice xa xn xc) (.slice ya yn yc) (.slice za zn zc) (.slice ta tn tc) V5 hok LN.out.la hqs) ?_
        rintro e V6 ⟨rfl, hbV6⟩
        have m6 : Mv (nob) V5 V6 := Mv.of_below hbV6
        refine ⟨_, rfl, ?_⟩
        refine pt ?_
        replace HB := Xhn HB m6; replace bx0 := Xbn bx0 m6; replace bx2 := Xbn bx2 m6; replace bx3 := Xbn bx3 m6
        replace LN := hide (LN.out.mv m6 (fun _ _ h => h))
        clear hbV6; clear m6
        refine sg (.bool true) ?_
        refine sg (.bool true) ?_
        refine nt (hK _ _ ?_); clear hK K; refine ct (rl ?_)
        refine sv (.int .i64 4) ?_
        refine nt (hK _ _ ?_); clear hK K; refine sk fun K hK => sk fun K hK => rl ?_
        refine sv (.int .i64 4) ?_
        refine sg (.bool true) ?_
        refine nt (hK _ _ ?_); clear hK K; refine ct (sk fun K hK => rl ?_)
        refine sl6 bx0 ?_
        have szA := HB.out.size
        have szb := lt_of_block bx3.out
        refine sw_call (by rfl) (by first | rfl | (go_simp; done)) (l8Copy_any p wv0 gv0 dv0 uv0 V6 (ha0.out.below HB.out.below) hsm) ?_
        rintro e V7 ⟨cw, cg, cd, cu, rfl, LRc, hbC⟩
        have m7 : Mv (nob) V6 V7 := Mv.of_below hbC
        refine ⟨_, rfl, ?_⟩
        refine pt ?_
        replace HB := Xhn HB m7; replace bx2 := Xbn bx2 m7
        replace LN := hide (LN.out.mv m7 (fun _ _ h => h))
        obtain ⟨ca0, ck0, rfl, _⟩ := LRc.wa.form
        obtain ⟨ca1, ck1, rfl, _⟩ := LRc.go.form
        obtain ⟨ca2, ck2, rfl, _⟩ := LRc.dn.form
        obtain ⟨ca3, ck3, rfl, _⟩ := LRc.up.form
        have LF := hide (LRc.lower szA)
        have LFb := hide (fun g h => (LRc.lt g h).1)
        clear LRc hbC szA; clear m7
        refine sv (.int .i64 4) ?_
        refine ss6 (.int .i64 p.base) (.slice ca0 p.nw ck0) (.int .i64 p.want) (.slice ca1 p.ng ck1) (.slice ca2 p.nd ck2) (.slice ca3 p.nu ck3) bx2 fun V8 m8 bx2 => ?_
        replace HB := Xhb HB m8
        replace LN := hide (LN.out.mv m8 (fun g hg h => by have h : g = b2 := h; have := LB.out g hg; omega))
        replace LF := hide (LF.out.mv m8 (fun g hg h => by have h : g = b2 := h; have := LFb.out g hg; omega))
        clear m8
        refine sv (.int .i64 4) ?_
        refine nt (hK _ _ ?_); clear hK K; refine wp_ret (then_ret ?_)
        try simp only [Exit.then, Exit.inBlock, ↓reduceIte, Nat.reduceEqDiff]
        obtain ⟨_, q2_0, q2_1, q2_2, q2_3, q2_4, q2_5⟩ := box6 bx2.out
        exact bodyPost_ret (v := .tuple #[.agg #[.int .i64 p.base, .slice ca0 p.nw ck0, .int .i64 p.want, .slice ca1 p.ng ck1, .slice ca2 p.nd ck2, .slice ca3 p.nu ck3], .int .i64 4]) (by simp [results, Try.results40, go_sem, q2_0, q2_1, q2_2, q2_3, q2_4, q2_5]) rfl ⟨_, _, _, _, by rw [HC, HL], by rw [HL]; exact LF.out, HB.out.below⟩
      have sF2n : ∀ (V : World) (wv : Value) (gv : Value) (dv : Value) (uv : Value) (xa : Option Addr) (xn : Nat) (xc : Nat) (ya : Option Addr) (yn : Nat) (yc : Nat) (za : Option Addr) (zn : Nat) (zc : Nat) (ta : Option Addr) (tn : Nat) (tc : Nat), (Mv nob V4 V) → (Lr V V4.heap.size (.slice xa xn xc) (.slice ya yn yc) (.slice za zn zc) (.slice ta tn tc) q) → G 3 #[true, true, true, true, true, true, true, false, false, false] #[.agg #[.int .i64 p.base, wv0, .int .i64 p.want, gv0, dv0, uv0], .agg #[.int .i64 k, .int .i64 z, .int .i64 bit, .string body], .pointer (some ⟨b0, 0, none⟩), .pointer (some ⟨b1, 0, none⟩), .pointer (some ⟨b2, 0, none⟩), .int .i64 0, undef, undef, .tuple #[.agg #[.int .i64 q.base, .slice xa xn xc, .int .i64 q.want, .slice ya yn yc, .slice za zn zc, .slice ta tn tc], .int .i64 0], .agg #[.int .i64 p.base, wv0, .int .i64 p.want, gv0, dv0, uv0], .agg #[.int .i64 p.base, wv, .int .i64 p.want, gv, dv, uv], .agg #[.int .i64 k, .int .i64 z, .int .i64 bit, .string body], .tuple #[.agg #[.int .i64 q.base, .slice xa xn xc, .int .i64 q.want, .slice ya yn yc, .slice za zn zc, .slice ta tn tc], .int .i64 0], .agg #[.int .i64 q.base, .slice xa xn xc, .int .i64 q.want, .slice ya yn yc, .slice za zn zc, .slice ta tn tc], .int .i64 0, undef, undef, undef, undef, undef, undef, undef, undef, undef, undef, undef, undef, undef, undef] V := by
        intro V wv gv dv uv xa xn xc ya yn yc za zn zc ta tn tc hM LQ
        rw [hG]
        refine kd_each (l := [7]) (by kernel_rfl) rfl ⟨?_, trivial⟩
        · refine ⟨_, rfl, by rfl, .inl ⟨.pointer (some ⟨V.heap.size, 0, none⟩), V.alloc (.cells #[.int .i64 0, .slice none 0 0, .int .i64 0, .slice none 0 0, .slice none 0 0, .slice none 0 0] 30), by first | rfl | go_simp, fun _ => hM.step (Mv.alloc _ _) (fun _ _ h => h), ?_⟩⟩
          refine ptk ?_
          have := sF2a _ wv gv dv uv xa xn xc ya yn yc za zn zc ta tn tc V.heap.size (hM.step (Mv.alloc V (.cells #[.int .i64 0, .slice none 0 0, .int .i64 0, .slice none 0 0, .slice none 0 0, .slice none 0 0] 30)) (fun _ _ h => h)) (heap_alloc_new _ _) (hM.size) (LQ.mv (Mv.alloc V (.cells #[.int .i64 0, .slice none 0 0, .int .i64 0, .slice none 0 0, .slice none 0 0, .slice none 0 0] 30)) (fun _ _ h => h)) (fun g h => by have := (LQ.lt g h).2; omega)
          rw [hG] at this
          exact this
      have sF1a : ∀ (V : World) (wv : Value) (gv : Value) (dv : Value) (uv : Value) (bF : Nat), (Mv nob V4 V) → (V.heap[bF]? = some (.cells #[.int .i64 0, .slice none 0 0, .int .i64 0, .slice none 0 0, .slice none 0 0, .slice none 0 0] 30 (0, 0))) → (V4.heap.size ≤ bF) → (Lr V V4.heap.size wv gv dv uv p) → (∀ g, Lrb wv gv dv uv g → g ≠ bF) → G 6 #[true, true, true, false, false, false, false, true, false, false] #[.agg #[.int .i64 p.base, wv0, .int .i64 p.want, gv0, dv0, uv0], .agg #[.int .i64 k, .int .i64 z, .int .i64 bit, .string body], .pointer (some ⟨b0, 0, none⟩), .pointer (some ⟨b1, 0, none⟩), .pointer (some ⟨b2, 0, none⟩), .int .i64 0, .pointer (some ⟨bF, 0, none⟩), undef, undef, .agg #[.int .i64 p.base, wv0, .int .i64 p.want, gv0, dv0, uv0], .agg #[.int .i64 p.base, wv, .int .i64 p.want, gv, dv, uv], .agg #[.int .i64 k, .int .i64 z, .int .i64 bit, .string body], undef, undef, undef, undef, undef, undef, undef, undef, undef, undef, undef, undef, undef, undef, undef, undef, undef] V := by
        intro V wv gv dv uv bF hM hBx hRb LR hAB
        rw [hG]
        refine kd_each (l := [3]) (by kernel_rfl) rfl ⟨?_, trivial⟩
        · refine ⟨_, rfl, by rfl, .inr ⟨_, _, _, by first | rfl | (go_simp; done), hact _ V wv gv dv uv LR hM.size, ?_⟩⟩
          rintro e V2 ⟨xv_, yv_, zv_, tv_, r, rfl, ⟨⟨xa, xn, xc, rfl⟩, ⟨ya, yn, yc, rfl⟩, ⟨za, zn, zc, rfl⟩, ⟨ta, tn, tc, rfl⟩⟩, mm, hq⟩
          have mV2 : Mv (Lrb wv gv dv uv) V V2 := mm
          have sb := lt_of_block hBx
          have hrq := (hq rfl).1
          rw [hrq]
          replace hq := (hq rfl).2
          refine ⟨_, rfl, fun _ => hM.step mV2 (fun g hlt h => by have := (LR.lt g h).1; omega), ?_⟩
          refine ptk ?_
          have hMx : Mv nob V4 V2 := hM.step mV2 (fun g hlt h => by have := (LR.lt g h).1; omega)
          refine tk0 4 (.tuple #[.agg #[.int .i64 q.base, .slice xa xn xc, .int .i64 q.want, .slice ya yn yc, .slice za zn zc, .slice ta tn tc], .int .i64 0]) rfl ?_
          refine tk0 5 (.agg #[.int .i64 q.base, .slice xa xn xc, .int .i64 q.want, .slice ya yn yc, .slice za zn zc, .slice ta tn tc]) rfl ?_
          refine tk0 6 (.int .i64 0) rfl ?_
          have := sF2a V2 wv gv dv uv xa xn xc ya yn yc za zn zc ta tn tc bF (hM.step mV2 (fun g hlt h => by have := (LR.lt g h).1; omega)) (mV2.box hBx (fun h => hAB _ h rfl)) (hRb) (hq.1) (fun g h => (hq.2 g h).elim (fun h2 => hAB g h2) (fun h2 => by omega))
          rw [hG] at this
          exact this
      have sF1n : ∀ (V : World) (wv : Value) (gv : Value) (dv : Value) (uv : Value), (Mv nob V4 V) → (Lr V V4.heap.size wv gv dv uv p) → G 7 #[true, true, true, false, false, false, false, false, false, false] #[.agg #[.int .i64 p.base, wv0, .int .i64 p.want, gv0, dv0, uv0], .agg #[.int .i64 k, .int .i64 z, .int .i64 bit, .string body], .pointer (some ⟨b0, 0, none⟩), .pointer (some ⟨b1, 0, none⟩), .pointer (some ⟨b2, 0, none⟩), .int .i64 0, undef, undef, undef, .agg #[.int .i64 p.base, wv0, .int .i64 p.want, gv0, dv0, uv0], .agg #[.int .i64 p.base, wv, .int .i64 p.want, gv, dv, uv], .agg #[.int .i64 k, .int .i64 z, .int .i64 bit, .string body], undef, undef, undef, undef, undef, undef, undef, undef, undef, undef, undef, undef, undef, undef, undef, undef, undef] V := by
        intro V wv gv dv uv hM LR
        rw [hG]
        refine kd_each (l := [3, 7]) (by kernel_rfl) rfl ⟨?_, ?_, trivial⟩
        · refine ⟨_, rfl, by rfl, .inr ⟨_, _, _, by first | rfl | (go_simp; done), hact _ V wv gv dv uv LR hM.size, ?_⟩⟩
          rintro e V2 ⟨xv_, yv_, zv_, tv_, r, rfl, ⟨⟨xa, xn, xc, rfl⟩, ⟨ya, yn, yc, rfl⟩, ⟨za, zn, zc, rfl⟩, ⟨ta, tn, tc, rfl⟩⟩, mm, hq⟩
          have mV2 : Mv (Lrb wv gv dv uv) V V2 := mm
          have hrq := (hq rfl).1
          rw [hrq]
          replace hq := (hq rfl).2
          refine ⟨_, rfl, fun _ => hM.step mV2 (fun g hlt h => by have := (LR.lt g h).1; omega), ?_⟩
          refine ptk ?_
          have hMx : Mv nob V4 V2 := hM.step mV2 (fun g hlt h => by have := (LR.lt g h).1; omega)
          refine tk0 4 (.tuple #[.agg #[.int .i64 q.base, .slice xa xn xc, .int .i64 q.want, .slice ya yn yc, .slice za zn zc, .slice ta tn tc], .int .i64 0]) rfl ?_
          refine tk0 5 (.agg #[.int .i64 q.base, .slice xa xn xc, .int .i64 q.want, .slice ya yn yc, .slice za zn zc, .slice ta tn tc]) rfl ?_
          refine tk0 6 (.int .i64 0) rfl ?_
          have := sF2n V2 wv gv dv uv xa xn xc ya yn yc za zn zc ta tn tc (hM.step mV2 (fun g hlt h => by have := (LR.lt g h).1; omega)) (hq.1)
          rw [hG] at this
          exact this
        · refine ⟨_, rfl, by rfl, .inl ⟨.pointer (some ⟨V.heap.size, 0, none⟩), V.alloc (.cells #[.int .i64 0, .slice none 0 0, .int .i64 0, .slice none 0 0, .slice none 0 0, .slice none 0 0] 30), by first | rfl | go_simp, fun _ => hM.step (Mv.alloc _ _) (fun _ _ h => h), ?_⟩⟩
          refine ptk ?_
          have := sF1a _ wv gv dv uv V.heap.size (hM.step (Mv.alloc V (.cells #[.int .i64 0, .slice none 0 0, .int .i64 0, .slice none 0 0, .slice none 0 0, .slice none 0 0] 30)) (fun _ _ h => h)) (heap_alloc_new _ _) (hM.size) (LR.mv (Mv.alloc V (.cells #[.int .i64 0, .slice none 0 0, .int .i64 0, .slice none 0 0, .slice none 0 0, .slice none 0 0] 30)) (fun _ _ h => h)) (fun g h => by have := (LR.lt g h).2; omega)
          rw [hG] at this
          exact this
      have sF0a : ∀ (V : World) (bF : Nat), (Mv nob V4 V) → (V.heap[bF]? = some (.cells #[.int .i64 0, .slice none 0 0, .int .i64 0, .slice none 0 0, .slice none 0 0, .slice none 0 0] 30 (0, 0))) → (V4.heap.size ≤ bF) → G 7 #[true, false, true, false, false, false, false, true, false, false] #[.agg #[.int .i64 p.base, wv0, .int .i64 p.want, gv0, dv0, uv0], .agg #[.int .i64 k, .int .i64 z, .int .i64 bit, .string body], .pointer (some ⟨b0, 0, none⟩), .pointer (some ⟨b1, 0, none⟩), .pointer (some ⟨b2, 0, none⟩), .int .i64 0, .pointer (some ⟨bF, 0, none⟩), undef, undef, .agg #[.int .i64 p.base, wv0, .int .i64 p.want, gv0, dv0, uv0], undef, .agg #[.int .i64 k, .int .i64 z, .int .i64 bit, .string body], undef, undef, undef, undef, undef, undef, undef, undef, undef, undef, undef, undef, undef, undef, undef, undef, undef] V := by
        intro V bF hM hBx hRb
        rw [hG]
        refine kd_each (l := [1]) (by kernel_rfl) rfl ⟨?_, trivial⟩
        · refine ⟨_, rfl, by rfl, .inr ⟨_, _, _, by first | rfl | (go_simp; done), l8Copy_any p wv0 gv0 dv0 uv0 V (ha0.out.below (HB.out.step hM (fun _ _ h => h)).below) hsm, ?_⟩⟩
          rintro e V2 ⟨wv, gv, dv, uv, rfl, LRa, hbC⟩
          have mV2 : Mv (nob) V V2 := Mv.of_below hbC
          have sb := lt_of_block hBx
          refine ⟨_, rfl, fun _ => hM.step mV2 (fun _ _ h => h), ?_⟩
          refine ptk ?_
          have := sF1a V2 wv gv dv uv bF (hM.step mV2 (fun _ _ h => h)) (mV2.box hBx (fun h => h)) (hRb) (LRa.lower hM.size) (fun g h => by have := (LRa.lt g h).1; omega)
          rw [hG] at this
          exact this
      have sF0n : ∀ (V : World), (Mv nob V4 V) → G 8 #[true, false, true, false, false, false, false, false, false, false] #[.agg #[.int .i64 p.base, wv0, .int .i64 p.want, gv0, dv0, uv0], .agg #[.int .i64 k, .int .i64 z, .int .i64 bit, .string body], .pointer (some ⟨b0, 0, none⟩), .pointer (some ⟨b1, 0, none⟩), .pointer (some ⟨b2, 0, none⟩), .int .i64 0, undef, undef, undef, .agg #[.int .i64 p.base, wv0, .int .i64 p.want, gv0, dv0, uv0], undef, .agg #[.int .i64 k, .int .i64 z, .int .i64 bit, .string body], undef, undef, undef, undef, undef, undef, undef, undef, undef, undef, undef, undef, undef, undef, undef, undef, undef] V := by
        intro V hM
        rw [hG]
        refine kd_each (l := [1, 7]) (by kernel_rfl) rfl ⟨?_, ?_, trivial⟩
        · refine ⟨_, rfl, by rfl, .inr ⟨_, _, _, by first | rfl | (go_simp; done), l8Copy_any p wv0 gv0 dv0 uv0 V (ha0.out.below (HB.out.step hM (fun _ _ h => h)).below) hsm, ?_⟩⟩
          rintro e V2 ⟨wv, gv, dv, uv, rfl, LRa, hbC⟩
          have mV2 : Mv (nob) V V2 := Mv.of_below hbC
          refine ⟨_, rfl, fun _ => hM.step mV2 (fun _ _ h => h), ?_⟩
          refine ptk ?_
          have := sF1n V2 wv gv dv uv (hM.step mV2 (fun _ _ h => h)) (LRa.lower hM.size)
          rw [hG] at this
          exact this
        · refine ⟨_, rfl, by rfl, .inl ⟨.pointer (some ⟨V.heap.size, 0, none⟩), V.alloc (.cells #[.int .i64 0, .slice none 0 0, .int .i64 0, .slice none 0 0, .slice none 0 0, .slice none 0 0] 30), by first | rfl | go_simp, fun _ => hM.step (Mv.alloc _ _) (fun _ _ h => h), ?_⟩⟩
          refine ptk ?_
          have := sF0a _ V.heap.size (hM.step (Mv.alloc V (.cells #[.int .i64 0, .slice none 0 0, .int .i64 0, .slice none 0 0, .slice none 0 0, .slice none 0 0] 30)) (fun _ _ h => h)) (heap_alloc_new _ _) (hM.size)
          rw [hG] at this
          exact this
      exact sF0n _ (hS)
    | true =>
      have HC : LCc = 0 := by rw [HC0]; simp [hok]
      have HL : LLl = q := by rw [HL0, HC]; rfl
      clear HC0 HL0
      have HB : Hid (Mv nob w w) := hide (Mv.refl _ _)
      go_enter Try.func40, Try.ntmps40
      refine sk fun K hK => rl ?_
      refine sbp #[.int .i64 p.base, wv0, .int .i64 p.want, gv0, dv0, uv0] 30 fun V1 b0 hb0 m1 bx0 => ?_
      have o_0 : w.heap.size ≤ b0 := by omega
      clear hb0
      refine sbp #[.int .i64 k, .int .i64 z, .int .i64 bit, .string body] 39 fun V2 b1 hb1 m2 bx1 => ?_
      have o0_1 := Xlo bx0 hb1; clear hb1
      refine sbp #[.int .i64 0, .slice none 0 0, .int .i64 0, .slice none 0 0, .slice none 0 0, .slice none 0 0] 30 fun V3 b2 hb2 m3 bx2 => ?_
      have o1_2 := Xlo bx1 hb2; clear hb2
      refine sv (.int .i64 0) ?_
      refine nt (hK _ _ ?_); clear hK K; refine sk fun K hK => ?_
      refine wp_region_but (z := 999) (S := fun w' => Mv nob V3.drew w') (by kernel_rfl) (Mv.refl _ _) (fun hS => ?_)
      have m4 : Mv nob V3 V3.drew := Mv.drew _
      obtain ⟨V4, hV4⟩ : ∃ V, V3.drew = V := ⟨_, rfl⟩
      rw [hV4] at hS m4 ⊢
      clear hV4; replace bx0 := Xbn (Xbn (Xbn bx0 m2) m3) m4; have rbx0 := bx0; replace bx1 := Xbn (Xbn bx1 m3) m4; have rbx1 := bx1; replace bx2 := Xbn bx2 m4; have rbx2 := bx2
      refine tk 0 (.agg #[.int .i64 p.base, wv0, .int .i64 p.want, gv0, dv0, uv0]) rfl (fun w' hSw => by (try dsimp only at hSw); have z0 := cell_box 0 (hSw.box rbx0.out (fun h => h)) rfl; have z1 := cell_box 1 (hSw.box rbx0.out (fun h => h)) rfl; have z2 := cell_box 2 (hSw.box rbx0.out (fun h => h)) rfl; have z3 := cell_box 3 (hSw.box rbx0.out (fun h => h)) rfl; have z4 := cell_box 4 (hSw.box rbx0.out (fun h => h)) rfl; have z5 := cell_box 5 (hSw.box rbx0.out (fun h => h)) rfl; go_simp) ?_
      refine tk 2 (.agg #[.int .i64 k, .int .i64 z, .int .i64 bit, .string body]) rfl (fun w' hSw => by (try dsimp only at hSw); have z0 := cell_box 0 (hSw.box rbx1.out (fun h => h)) rfl; have z1 := cell_box 1 (hSw.box rbx1.out (fun h => h)) rfl; have z2 := cell_box 2 (hSw.box rbx1.out (fun h => h)) rfl; have z3 := cell_box 3 (hSw.box rbx1.out (fun h => h)) rfl; go_simp) ?_
      have szR := lt_of_block bx2.out
      refine region_states (fun G hG => ?_)
      try dsimp only
      replace HB := Xhn (Xhn (Xhn (Xhn HB m1) m2) m3) m4; have sF2a : ∀ (V : World) (wv : Value) (gv : Value) (dv : Value) (uv : Value) (xa : Option Addr) (xn : Nat) (xc : Nat) (ya : Option Addr) (yn : Nat) (yc : Nat) (za : Option Addr) (zn : Nat) (zc : Nat) (ta : Option Addr) (tn : Nat) (tc : Nat) (bF : Nat), (Mv nob V4 V) → (V.heap[bF]? = some (.cells #[.int .i64 0, .slice none 0 0, .int .i64 0, .slice none 0 0, .slice none 0 0, .slice none 0 0] 30 (0, 0))) → (V4.heap.size ≤ bF) → (Lr V V4.heap.size (.slice xa xn xc) (.slice ya yn yc) (.slice za zn zc) (.slice ta tn tc) q) → (∀ g, Lrb (.slice xa xn xc) (.slice ya yn yc) (.slice za zn zc) (.slice ta tn tc) g → g ≠ bF) → G 2 #[true, true, true, true, true, true, true, true, false, false] #[.agg #[.int .i64 p.base, wv0, .int .i64 p.want, gv0, dv0, uv0], .agg #[.int .i64 k, .int .i64 z, .int .i64 bit, .string body], .pointer (some ⟨b0, 0, none⟩), .pointer (some ⟨b1, 0, none⟩), .pointer (some ⟨b2, 0, none⟩), .int .i64 0, .pointer (some ⟨bF, 0, none⟩), undef, .tuple #[.agg #[.int .i64 q.base, .slice xa xn xc, .int .i64 q.want, .slice ya yn yc, .slice za zn zc, .slice ta tn tc], .int .i64 0], .agg #[.int .i64 p.base, wv0, .int .i64 p.want, gv0, dv0, uv0], .agg #[.int .i64 p.base, wv, .int .i64 p.want, gv, dv, uv], .agg #[.int .i64 k, .int .i64 z, .int .i64 bit, .string body], .tuple #[.agg #[.int .i64 q.base, .slice xa xn xc, .int .i64 q.want, .slice ya yn yc, .slice za zn zc, .slice ta tn tc], .int .i64 0], .agg #[.int .i64 q.base, .slice xa xn xc, .int .i64 q.want, .slice ya yn yc, .slice za zn zc, .slice ta tn tc], .int .i64 0, undef, undef, undef, undef, undef, undef, undef, undef, undef, undef, undef, undef, undef, undef] V := by
        intro VF1 wv gv dv uv xa xn xc ya yn yc za zn zc ta tn tc b3 hM hBx hRb LQ hAB
        rw [hG]
        have o0_3 : b0 < b3 := Nat.lt_of_lt_of_le (lt_of_block bx0.out) hRb
        have o1_3 : b1 < b3 := Nat.lt_of_lt_of_le (lt_of_block bx1.out) hRb
        have o2_3 : b2 < b3 := Nat.lt_of_lt_of_le (lt_of_block bx2.out) hRb
        have rbx02 := rbx0; have rbx12 := rbx1; have rbx22 := rbx2; replace HB := Xhn HB hM; replace bx0 := Xbn bx0 hM; replace bx1 := Xbn bx1 hM; replace bx2 := Xbn bx2 hM
        have bx3 := hide hBx
        clear hBx; clear rbx02
        replace rbx0 := bx0
        clear rbx12
        replace rbx1 := bx1
        clear rbx22
        replace rbx2 := bx2
        have rbx3 := bx3; clear hG
        replace hS : Mv nob V4 VF1 := hM
        clear hM
        have LN := hide (LQ.lower (Nat.zero_le _))
        have LB := hide (fun g h => And.intro (LQ.lt g h).1 (hAB g h))
        clear LQ hAB
        refine kd_skipI (i := 8) (w' := (((((VF1.setCell ⟨b3, 0, none⟩ (.int .i64 q.base)).setCell ⟨b3, 1, none⟩ (.slice xa xn xc)).setCell ⟨b3, 2, none⟩ (.int .i64 q.want)).setCell ⟨b3, 3, none⟩ (.slice ya yn yc)).setCell ⟨b3, 4, none⟩ (.slice za zn zc)).setCell ⟨b3, 5, none⟩ (.slice ta tn tc)) (fun V => Mv (fun g => g = b3) VF1 V ∧ V.heap[b3]? = some (.cells #[.int .i64 q.base, .slice xa xn xc, .int .i64 q.want, .slice ya yn yc, .slice za zn zc, .slice ta tn tc] 30 (0, 0))) (by kernel_rfl) rfl (by rfl) (by have fr := fun i => frozen_of_row _ _ i _ _ bx3.out; have z0 := cell_box 0 bx3.out rfl; have z1 := cell_box 1 bx3.out rfl; have z2 := cell_box 2 bx3.out rfl; have z3 := cell_box 3 bx3.out rfl; have z4 := cell_box 4 bx3.out rfl; have z5 := cell_box 5 bx3.out rfl; go_simp) ⟨Mv.set (Mv.set (Mv.set (Mv.set (Mv.set (Mv.set (Mv.refl _ _) _ _) _ _) _ _) _ _) _ _) _ _, (heap_setCell_same _ _ 5 _ _ _ (heap_setCell_same _ _ 4 _ _ _ (heap_setCell_same _ _ 3 _ _ _ (heap_setCell_same _ _ 2 _ _ _ (heap_setCell_same _ _ 1 _ _ _ (heap_setCell_same _ _ 0 _ _ _ (bx3.out))))))).trans rfl⟩ (fun V hI _ => hS.step hI.1 (fun g hg h => by have h : g = b3 := h; exfalso; omega)) ?_
        rintro V5 ⟨m5, nxV5⟩
        refine ptk ?_
        replace HB := Xhb HB m5; replace bx2 := Xbb bx2 m5
        replace LN := hide (LN.out.mv m5 (fun g hg h => by have h : g = b3 := h; have := LB.out g hg; omega))
        replace bx3 := hide nxV5
        clear nxV5
        replace hS := hS.step m5 (fun g hg h => by first | exact h | (have h : g = b3 := h; exfalso; omega))
        clear m5
        refine tk0 9 (.int .i64 0) rfl ?_
        refine wpAnyK_done (by kernel_rfl) ?_
        clear hS rbx0 rbx1 rbx2 rbx3
        refine then_normal (hK _ _ ?_); clear hK K; refine sk fun K hK => sk fun K hK => rl ?_
        refine sv (.int .i64 0) ?_
        refine sg (.bool true) ?_
        refine sv (.bool true) ?_
        refine sl6 bx3 ?_
        refine sw_call (by rfl) (by first | rfl | (go_simp; done)) (specLinkOk_la true q (.slice xa xn xc) (.slice ya yn yc) (.slice za zn zc) (.slice ta tn tc) V5 hok LN.out.la hqs) ?_
        rintro e V6 ⟨rfl, hbV6⟩
        have m6 : Mv (nob) V5 V6 := Mv.of_below hbV6
        refine ⟨_, rfl, ?_⟩
        refine pt ?_
        replace HB := Xhn HB m6; replace bx2 := Xbn bx2 m6; replace bx3 := Xbn bx3 m6
        replace LN := hide (LN.out.mv m6 (fun _ _ h => h))
        clear hbV6; clear m6
        refine sg (.bool false) ?_
        refine sg (.bool false) ?_
        refine nt (hK _ _ ?_); clear hK K; refine cf (wp_skip (then_normal (hK _ _ ?_))); clear hK K; refine sk fun K hK => sk fun K hK => rl ?_
        refine sv (.int .i64 0) ?_
        refine sg (.bool false) ?_
        refine nt (hK _ _ ?_); clear hK K; refine cf (wp_skip (then_normal (hK _ _ ?_))); clear hK K; refine sk fun K hK => rl ?_
        refine sl6 bx3 ?_
        have szA := HB.out.size
        have szb := lt_of_block bx3.out
        refine sw_call (by rfl) (by first | rfl | (go_simp; done)) (l8Copy_any q (.slice xa xn xc) (.slice ya yn yc) (.slice za zn zc) (.slice ta tn tc) V6 LN.out.la hqs) ?_
        rintro e V7 ⟨cw, cg, cd, cu, rfl, LRc, hbC⟩
        have m7 : Mv (nob) V6 V7 := Mv.of_below hbC
        refine ⟨_, rfl, ?_⟩
        refine pt ?_
        replace HB := Xhn HB m7; replace bx2 := Xbn bx2 m7
        replace LN := hide (LN.out.mv m7 (fun _ _ h => h))
        obtain ⟨ca0, ck0, rfl, _⟩ := LRc.wa.form
        obtain ⟨ca1, ck1, rfl, _⟩ := LRc.go.form
        obtain ⟨ca2, ck2, rfl, _⟩ := LRc.dn.form
        obtain ⟨ca3, ck3, rfl, _⟩ := LRc.up.form
        have LF := hide (LRc.lower szA)
        have LFb := hide (fun g h => (LRc.lt g h).1)
        clear LRc hbC szA; clear m7
        refine ss6 (.int .i64 q.base) (.slice ca0 q.nw ck0) (.int .i64 q.want) (.slice ca1 q.ng ck1) (.slice ca2 q.nd ck2) (.slice ca3 q.nu ck3) bx2 fun V8 m8 bx2 => ?_
        replace HB := Xhb HB m8
        replace LN := hide (LN.out.mv m8 (fun g hg h => by have h : g = b2 := h; have := LB.out g hg; omega))
        replace LF := hide (LF.out.mv m8 (fun g hg h => by have h : g = b2 := h; have := LFb.out g hg; omega))
        clear m8
        refine sv (.int .i64 0) ?_
        refine nt (hK _ _ ?_); clear hK K; refine wp_ret ?_
        try simp only [Exit.then, Exit.inBlock, ↓reduceIte, Nat.reduceEqDiff]
        obtain ⟨_, q2_0, q2_1, q2_2, q2_3, q2_4, q2_5⟩ := box6 bx2.out
        exact bodyPost_ret (v := .tuple #[.agg #[.int .i64 q.base, .slice ca0 q.nw ck0, .int .i64 q.want, .slice ca1 q.ng ck1, .slice ca2 q.nd ck2, .slice ca3 q.nu ck3], .int .i64 0]) (by simp [results, Try.results40, go_sem, q2_0, q2_1, q2_2, q2_3, q2_4, q2_5]) rfl ⟨_, _, _, _, by rw [HC, HL], by rw [HL]; exact LF.out, HB.out.below⟩
      have sF2n : ∀ (V : World) (wv : Value) (gv : Value) (dv : Value) (uv : Value) (xa : Option Addr) (xn : Nat) (xc : Nat) (ya : Option Addr) (yn : Nat) (yc : Nat) (za : Option Addr) (zn : Nat) (zc : Nat) (ta : Option Addr) (tn : Nat) (tc : Nat), (Mv nob V4 V) → (Lr V V4.heap.size (.slice xa xn xc) (.slice ya yn yc) (.slice za zn zc) (.slice ta tn tc) q) → G 3 #[true, true, true, true, true, true, true, false, false, false] #[.agg #[.int .i64 p.base, wv0, .int .i64 p.want, gv0, dv0, uv0], .agg #[.int .i64 k, .int .i64 z, .int .i64 bit, .string body], .pointer (some ⟨b0, 0, none⟩), .pointer (some ⟨b1, 0, none⟩), .pointer (some ⟨b2, 0, none⟩), .int .i64 0, undef, undef, .tuple #[.agg #[.int .i64 q.base, .slice xa xn xc, .int .i64 q.want, .slice ya yn yc, .slice za zn zc, .slice ta tn tc], .int .i64 0], .agg #[.int .i64 p.base, wv0, .int .i64 p.want, gv0, dv0, uv0], .agg #[.int .i64 p.base, wv, .int .i64 p.want, gv, dv, uv], .agg #[.int .i64 k, .int .i64 z, .int .i64 bit, .string body], .tuple #[.agg #[.int .i64 q.base, .slice xa xn xc, .int .i64 q.want, .slice ya yn yc, .slice za zn zc, .slice ta tn tc], .int .i64 0], .agg #[.int .i64 q.base, .slice xa xn xc, .int .i64 q.want, .slice ya yn yc, .slice za zn zc, .slice ta tn tc], .int .i64 0, undef, undef, undef, undef, undef, undef, undef, undef, undef, undef, undef, undef, undef, undef] V := by
        intro V wv gv dv uv xa xn xc ya yn yc za zn zc ta tn tc hM LQ
        rw [hG]
        refine kd_each (l := [7]) (by kernel_rfl) rfl ⟨?_, trivial⟩
        · refine ⟨_, rfl, by rfl, .inl ⟨.pointer (some ⟨V.heap.size, 0, none⟩), V.alloc (.cells #[.int .i64 0, .slice none 0 0, .int .i64 0, .slice none 0 0, .slice none 0 0, .slice none 0 0] 30), by first | rfl | go_simp, fun _ => hM.step (Mv.alloc _ _) (fun _ _ h => h), ?_⟩⟩
          refine ptk ?_
          have := sF2a _ wv gv dv uv xa xn xc ya yn yc za zn zc ta tn tc V.heap.size (hM.step (Mv.alloc V (.cells #[.int .i64 0, .slice none 0 0, .int .i64 0, .slice none 0 0, .slice none 0 0, .slice none 0 0] 30)) (fun _ _ h => h)) (heap_alloc_new _ _) (hM.size) (LQ.mv (Mv.alloc V (.cells #[.int .i64 0, .slice none 0 0, .int .i64 0, .slice none 0 0, .slice none 0 0, .slice none 0 0] 30)) (fun _ _ h => h)) (fun g h => by have := (LQ.lt g h).2; omega)
          rw [hG] at this
          exact this
      have sF1a : ∀ (V : World) (wv : Value) (gv : Value) (dv : Value) (uv : Value) (bF : Nat), (Mv nob V4 V) → (V.heap[bF]? = some (.cells #[.int .i64 0, .slice none 0 0, .int .i64 0, .slice none 0 0, .slice none 0 0, .slice none 0 0] 30 (0, 0))) → (V4.heap.size ≤ bF) → (Lr V V4.heap.size wv gv dv uv p) → (∀ g, Lrb wv gv dv uv g → g ≠ bF) → G 6 #[true, true, true, false, false, false, false, true, false, false] #[.agg #[.int .i64 p.base, wv0, .int .i64 p.want, gv0, dv0, uv0], .agg #[.int .i64 k, .int .i64 z, .int .i64 bit, .string body], .pointer (some ⟨b0, 0, none⟩), .pointer (some ⟨b1, 0, none⟩), .pointer (some ⟨b2, 0, none⟩), .int .i64 0, .pointer (some ⟨bF, 0, none⟩), undef, undef, .agg #[.int .i64 p.base, wv0, .int .i64 p.want, gv0, dv0, uv0], .agg #[.int .i64 p.base, wv, .int .i64 p.want, gv, dv, uv], .agg #[.int .i64 k, .int .i64 z, .int .i64 bit, .string body], undef, undef, undef, undef, undef, undef, undef, undef, undef, undef, undef, undef, undef, undef, undef, undef, undef] V := by
        intro V wv gv dv uv bF hM hBx hRb LR hAB
        rw [hG]
        refine kd_each (l := [3]) (by kernel_rfl) rfl ⟨?_, trivial⟩
        · refine ⟨_, rfl, by rfl, .inr ⟨_, _, _, by first | rfl | (go_simp; done), hact _ V wv gv dv uv LR hM.size, ?_⟩⟩
          rintro e V2 ⟨xv_, yv_, zv_, tv_, r, rfl, ⟨⟨xa, xn, xc, rfl⟩, ⟨ya, yn, yc, rfl⟩, ⟨za, zn, zc, rfl⟩, ⟨ta, tn, tc, rfl⟩⟩, mm, hq⟩
          have mV2 : Mv (Lrb wv gv dv uv) V V2 := mm
          have sb := lt_of_block hBx
          have hrq := (hq rfl).1
          rw [hrq]
          replace hq := (hq rfl).2
          refine ⟨_, rfl, fun _ => hM.step mV2 (fun g hlt h => by have := (LR.lt g h).1; omega), ?_⟩
          refine ptk ?_
          have hMx : Mv nob V4 V2 := hM.step mV2 (fun g hlt h => by have := (LR.lt g h).1; omega)
          refine tk0 4 (.tuple #[.agg #[.int .i64 q.base, .slice xa xn xc, .int .i64 q.want, .slice ya yn yc, .slice za zn zc, .slice ta tn tc], .int .i64 0]) rfl ?_
          refine tk0 5 (.agg #[.int .i64 q.base, .slice xa xn xc, .int .i64 q.want, .slice ya yn yc, .slice za zn zc, .slice ta tn tc]) rfl ?_
          refine tk0 6 (.int .i64 0) rfl ?_
          have := sF2a V2 wv gv dv uv xa xn xc ya yn yc za zn zc ta tn tc bF (hM.step mV2 (fun g hlt h => by have := (LR.lt g h).1; omega)) (mV2.box hBx (fun h => hAB _ h rfl)) (hRb) (hq.1) (fun g h => (hq.2 g h).elim (fun h2 => hAB g h2) (fun h2 => by omega))
          rw [hG] at this
          exact this
      have sF1n : ∀ (V : World) (wv : Value) (gv : Value) (dv : Value) (uv : Value), (Mv nob V4 V) → (Lr V V4.heap.size wv gv dv uv p) → G 7 #[true, true, true, false, false, false, false, false, false, false] #[.agg #[.int .i64 p.base, wv0, .int .i64 p.want, gv0, dv0, uv0], .agg #[.int .i64 k, .int .i64 z, .int .i64 bit, .string body], .pointer (some ⟨b0, 0, none⟩), .pointer (some ⟨b1, 0, none⟩), .pointer (some ⟨b2, 0, none⟩), .int .i64 0, undef, undef, undef, .agg #[.int .i64 p.base, wv0, .int .i64 p.want, gv0, dv0, uv0], .agg #[.int .i64 p.base, wv, .int .i64 p.want, gv, dv, uv], .agg #[.int .i64 k, .int .i64 z, .int .i64 bit, .string body], undef, undef, undef, undef, undef, undef, undef, undef, undef, undef, undef, undef, undef, undef, undef, undef, undef] V := by
        intro V wv gv dv uv hM LR
        rw [hG]
        refine kd_each (l := [3, 7]) (by kernel_rfl) rfl ⟨?_, ?_, trivial⟩
        · refine ⟨_, rfl, by rfl, .inr ⟨_, _, _, by first | rfl | (go_simp; done), hact _ V wv gv dv uv LR hM.size, ?_⟩⟩
          rintro e V2 ⟨xv_, yv_, zv_, tv_, r, rfl, ⟨⟨xa, xn, xc, rfl⟩, ⟨ya, yn, yc, rfl⟩, ⟨za, zn, zc, rfl⟩, ⟨ta, tn, tc, rfl⟩⟩, mm, hq⟩
          have mV2 : Mv (Lrb wv gv dv uv) V V2 := mm
          have hrq := (hq rfl).1
          rw [hrq]
          replace hq := (hq rfl).2
          refine ⟨_, rfl, fun _ => hM.step mV2 (fun g hlt h => by have := (LR.lt g h).1; omega), ?_⟩
          refine ptk ?_
          have hMx : Mv nob V4 V2 := hM.step mV2 (fun g hlt h => by have := (LR.lt g h).1; omega)
          refine tk0 4 (.tuple #[.agg #[.int .i64 q.base, .slice xa xn xc, .int .i64 q.want, .slice ya yn yc, .slice za zn zc, .slice ta tn tc], .int .i64 0]) rfl ?_
          refine tk0 5 (.agg #[.int .i64 q.base, .slice xa xn xc, .int .i64 q.want, .slice ya yn yc, .slice za zn zc, .slice ta tn tc]) rfl ?_
          refine tk0 6 (.int .i64 0) rfl ?_
          have := sF2n V2 wv gv dv uv xa xn xc ya yn yc za zn zc ta tn tc (hM.step mV2 (fun g hlt h => by have := (LR.lt g h).1; omega)) (hq.1)
          rw [hG] at this
          exact this
        · refine ⟨_, rfl, by rfl, .inl ⟨.pointer (some ⟨V.heap.size, 0, none⟩), V.alloc (.cells #[.int .i64 0, .slice none 0 0, .int .i64 0, .slice none 0 0, .slice none 0 0, .slice none 0 0] 30), by first | rfl | go_simp, fun _ => hM.step (Mv.alloc _ _) (fun _ _ h => h), ?_⟩⟩
          refine ptk ?_
          have := sF1a _ wv gv dv uv V.heap.size (hM.step (Mv.alloc V (.cells #[.int .i64 0, .slice none 0 0, .int .i64 0, .slice none 0 0, .slice none 0 0, .slice none 0 0] 30)) (fun _ _ h => h)) (heap_alloc_new _ _) (hM.size) (LR.mv (Mv.alloc V (.cells #[.int .i64 0, .slice none 0 0, .int .i64 0, .slice none 0 0, .slice none 0 0, .slice none 0 0] 30)) (fun _ _ h => h)) (fun g h => by have := (LR.lt g h).2; omega)
          rw [hG] at this
          exact this
      have sF0a : ∀ (V : World) (bF : Nat), (Mv nob V4 V) → (V.heap[bF]? = some (.cells #[.int .i64 0, .slice none 0 0, .int .i64 0, .slice none 0 0, .slice none 0 0, .slice none 0 0] 30 (0, 0))) → (V4.heap.size ≤ bF) → G 7 #[true, false, true, false, false, false, false, true, false, false] #[.agg #[.int .i64 p.base, wv0, .int .i64 p.want, gv0, dv0, uv0], .agg #[.int .i64 k, .int .i64 z, .int .i64 bit, .string body], .pointer (some ⟨b0, 0, none⟩), .pointer (some ⟨b1, 0, none⟩), .pointer (some ⟨b2, 0, none⟩), .int .i64 0, .pointer (some ⟨bF, 0, none⟩), undef, undef, .agg #[.int .i64 p.base, wv0, .int .i64 p.want, gv0, dv0, uv0], undef, .agg #[.int .i64 k, .int .i64 z, .int .i64 bit, .string body], undef, undef, undef, undef, undef, undef, undef, undef, undef, undef, undef, undef, undef, undef, undef, undef, undef] V := by
        intro V bF hM hBx hRb
        rw [hG]
        refine kd_each (l := [1]) (by kernel_rfl) rfl ⟨?_, trivial⟩
        · refine ⟨_, rfl, by rfl, .inr ⟨_, _, _, by first | rfl | (go_simp; done), l8Copy_any p wv0 gv0 dv0 uv0 V (ha0.out.below (HB.out.step hM (fun _ _ h => h)).below) hsm, ?_⟩⟩
          rintro e V2 ⟨wv, gv, dv, uv, rfl, LRa, hbC⟩
          have mV2 : Mv (nob) V V2 := Mv.of_below hbC
          have sb := lt_of_block hBx
          refine ⟨_, rfl, fun _ => hM.step mV2 (fun _ _ h => h), ?_⟩
          refine ptk ?_
          have := sF1a V2 wv gv dv uv bF (hM.step mV2 (fun _ _ h => h)) (mV2.box hBx (fun h => h)) (hRb) (LRa.lower hM.size) (fun g h => by have := (LRa.lt g h).1; omega)
          rw [hG] at this
          exact this
      have sF0n : ∀ (V : World), (Mv nob V4 V) → G 8 #[true, false, true, false, false, false, false, false, false, false] #[.agg #[.int .i64 p.base, wv0, .int .i64 p.want, gv0, dv0, uv0], .agg #[.int .i64 k, .int .i64 z, .int .i64 bit, .string body], .pointer (some ⟨b0, 0, none⟩), .pointer (some ⟨b1, 0, none⟩), .pointer (some ⟨b2, 0, none⟩), .int .i64 0, undef, undef, undef, .agg #[.int .i64 p.base, wv0, .int .i64 p.want, gv0, dv0, uv0], undef, .agg #[.int .i64 k, .int .i64 z, .int .i64 bit, .string body], undef, undef, undef, undef, undef, undef, undef, undef, undef, undef, undef, undef, undef, undef, undef, undef, undef] V := by
        intro V hM
        rw [hG]
        refine kd_each (l := [1, 7]) (by kernel_rfl) rfl ⟨?_, ?_, trivial⟩
        · refine ⟨_, rfl, by rfl, .inr ⟨_, _, _, by first | rfl | (go_simp; done), l8Copy_any p wv0 gv0 dv0 uv0 V (ha0.out.below (HB.out.step hM (fun _ _ h => h)).below) hsm, ?_⟩⟩
          rintro e V2 ⟨wv, gv, dv, uv, rfl, LRa, hbC⟩
          have mV2 : Mv (nob) V V2 := Mv.of_below hbC
          refine ⟨_, rfl, fun _ => hM.step mV2 (fun _ _ h => h), ?_⟩
          refine ptk ?_
          have := sF1n V2 wv gv dv uv (hM.step mV2 (fun _ _ h => h)) (LRa.lower hM.size)
          rw [hG] at this
          exact this
        · refine ⟨_, rfl, by rfl, .inl ⟨.pointer (some ⟨V.heap.size, 0, none⟩), V.alloc (.cells #[.int .i64 0, .slice none 0 0, .int .i64 0, .slice none 0 0, .slice none 0 0, .slice none 0 0] 30), by first | rfl | go_simp, fun _ => hM.step (Mv.alloc _ _) (fun _ _ h => h), ?_⟩⟩
          refine ptk ?_
          have := sF0a _ V.heap.size (hM.step (Mv.alloc V (.cells #[.int .i64 0, .slice none 0 0, .int .i64 0, .slice none 0 0, .slice none 0 0, .slice none 0 0] 30)) (fun _ _ h => h)) (heap_alloc_new _ _) (hM.size)
          rw [hG] at this
          exact this
      exact sF0n _ (hS)
  · have HC : LCc = c := by rw [HC0]; simp [hc]
    have HL : LLl = p := by rw [HL0, HC]; simp [hc]
    have hcn : (c == 0) = false := by simpa using hc
    clear HC0 HL0 hsz
    have HB : Hid (Mv nob w w) := hide (Mv.refl _ _)
    go_enter Try.func40, Try.ntmps40
    refine sk fun K hK => rl ?_
    refine sbp #[.int .i64 p.base, wv0, .int .i64 p.want, gv0, dv0, uv0] 30 fun V1 b0 hb0 m1 bx0 => ?_
    have o_0 : w.heap.size ≤ b0 := by omega
    clear hb0
    refine sbp #[.int .i64 k, .int .i64 z, .int .i64 bit, .string body] 39 fun V2 b1 hb1 m2 bx1 => ?_
    have o0_1 := Xlo bx0 hb1; clear hb1
    refine sbp #[.int .i64 0, .slice none 0 0, .int .i64 0, .slice none 0 0, .slice none 0 0, .slice none 0 0] 30 fun V3 b2 hb2 m3 bx2 => ?_
    have o1_2 := Xlo bx1 hb2; clear hb2
    refine sv (.int .i64 0) ?_
    refine nt (hK _ _ ?_); clear hK K; refine sk fun K hK => ?_
    refine wp_region_but (z := 999) (S := fun w' => Mv nob V3.drew w') (by kernel_rfl) (Mv.refl _ _) (fun hS => ?_)
    have m4 : Mv nob V3 V3.drew := Mv.drew _
    obtain ⟨V4, hV4⟩ : ∃ V, V3.drew = V := ⟨_, rfl⟩
    rw [hV4] at hS m4 ⊢
    clear hV4; replace bx0 := Xbn (Xbn (Xbn bx0 m2) m3) m4; have rbx0 := bx0; replace bx1 := Xbn (Xbn bx1 m3) m4; have rbx1 := bx1; replace bx2 := Xbn bx2 m4; have rbx2 := bx2
    refine tk 0 (.agg #[.int .i64 p.base, wv0, .int .i64 p.want, gv0, dv0, uv0]) rfl (fun w' hSw => by (try dsimp only at hSw); have z0 := cell_box 0 (hSw.box rbx0.out (fun h => h)) rfl; have z1 := cell_box 1 (hSw.box rbx0.out (fun h => h)) rfl; have z2 := cell_box 2 (hSw.box rbx0.out (fun h => h)) rfl; have z3 := cell_box 3 (hSw.box rbx0.out (fun h => h)) rfl; have z4 := cell_box 4 (hSw.box rbx0.out (fun h => h)) rfl; have z5 := cell_box 5 (hSw.box rbx0.out (fun h => h)) rfl; go_simp) ?_
    refine tk 2 (.agg #[.int .i64 k, .int .i64 z, .int .i64 bit, .string body]) rfl (fun w' hSw => by (try dsimp only at hSw); have z0 := cell_box 0 (hSw.box rbx1.out (fun h => h)) rfl; have z1 := cell_box 1 (hSw.box rbx1.out (fun h => h)) rfl; have z2 := cell_box 2 (hSw.box rbx1.out (fun h => h)) rfl; have z3 := cell_box 3 (hSw.box rbx1.out (fun h => h)) rfl; go_simp) ?_
    have szR := lt_of_block bx2.out
    refine region_states (fun G hG => ?_)
    try dsimp only
    replace HB := Xhn (Xhn (Xhn (Xhn HB m1) m2) m3) m4; have sF2a : ∀ (V : World) (wv : Value) (gv : Value) (dv : Value) (uv : Value) (xa : Option Addr) (xn : Nat) (xc : Nat) (ya : Option Addr) (yn : Nat) (yc : Nat) (za : Option Addr) (zn : Nat) (zc : Nat) (ta : Option Addr) (tn : Nat) (tc : Nat) (r : Lk) (bF : Nat), (Mv nob V4 V) → (V.heap[bF]? = some (.cells #[.int .i64 0, .slice none 0 0, .int .i64 0, .slice none 0 0, .slice none 0 0, .slice none 0 0] 30 (0, 0))) → (V4.heap.size ≤ bF) → G 2 #[true, true, true, true, true, true, true, true, false, false] #[.agg #[.int .i64 p.base, wv0, .int .i64 p.want, gv0, dv0, uv0], .agg #[.int .i64 k, .int .i64 z, .int .i64 bit, .string body], .pointer (some ⟨b0, 0, none⟩), .pointer (some ⟨b1, 0, none⟩), .pointer (some ⟨b2, 0, none⟩), .int .i64 0, .pointer (some ⟨bF, 0, none⟩), undef, .tuple #[.agg #[.int .i64 r.base, .slice xa xn xc, .int .i64 r.want, .slice ya yn yc, .slice za zn zc, .slice ta tn tc], .int .i64 c], .agg #[.int .i64 p.base, wv0, .int .i64 p.want, gv0, dv0, uv0], .agg #[.int .i64 p.base, wv, .int .i64 p.want, gv, dv, uv], .agg #[.int .i64 k, .int .i64 z, .int .i64 bit, .string body], .tuple #[.agg #[.int .i64 r.base, .slice xa xn xc, .int .i64 r.want, .slice ya yn yc, .slice za zn zc, .slice ta tn tc], .int .i64 c], .agg #[.int .i64 r.base, .slice xa xn xc, .int .i64 r.want, .slice ya yn yc, .slice za zn zc, .slice ta tn tc], .int .i64 c, undef, undef, undef, undef, undef, undef, undef, undef, undef, undef, undef, undef, undef, undef] V := by
      intro VF1 wv gv dv uv xa xn xc ya yn yc za zn zc ta tn tc r b3 hM hBx hRb
      rw [hG]
      have o0_3 : b0 < b3 := Nat.lt_of_lt_of_le (lt_of_block bx0.out) hRb
      have o1_3 : b1 < b3 := Nat.lt_of_lt_of_le (lt_of_block bx1.out) hRb
      have o2_3 : b2 < b3 := Nat.lt_of_lt_of_le (lt_of_block bx2.out) hRb
      have rbx02 := rbx0; have rbx12 := rbx1; have rbx22 := rbx2; replace HB := Xhn HB hM; replace bx0 := Xbn bx0 hM; replace bx1 := Xbn bx1 hM; replace bx2 := Xbn bx2 hM
      have bx3 := hide hBx
      clear hBx; clear rbx02
      replace rbx0 := bx0
      clear rbx12
      replace rbx1 := bx1
      clear rbx22
      replace rbx2 := bx2
      have rbx3 := bx3; clear hG
      replace hS : Mv nob V4 VF1 := hM
      clear hM
      refine kd_skipI (i := 8) (w' := (((((VF1.setCell ⟨b3, 0, none⟩ (.int .i64 r.base)).setCell ⟨b3, 1, none⟩ (.slice xa xn xc)).setCell ⟨b3, 2, none⟩ (.int .i64 r.want)).setCell ⟨b3, 3, none⟩ (.slice ya yn yc)).setCell ⟨b3, 4, none⟩ (.slice za zn zc)).setCell ⟨b3, 5, none⟩ (.slice ta tn tc)) (fun V => Mv (fun g => g = b3) VF1 V ∧ V.heap[b3]? = some (.cells #[.int .i64 r.base, .slice xa xn xc, .int .i64 r.want, .slice ya yn yc, .slice za zn zc, .slice ta tn tc] 30 (0, 0))) (by kernel_rfl) rfl (by rfl) (by have fr := fun i => frozen_of_row _ _ i _ _ bx3.out; have z0 := cell_box 0 bx3.out rfl; have z1 := cell_box 1 bx3.out rfl; have z2 := cell_box 2 bx3.out rfl; have z3 := cell_box 3 bx3.out rfl; have z4 := cell_box 4 bx3.out rfl; have z5 := cell_box 5 bx3.out rfl; go_simp) ⟨Mv.set (Mv.set (Mv.set (Mv.set (Mv.set (Mv.set (Mv.refl _ _) _ _) _ _) _ _) _ _) _ _) _ _, (heap_setCell_same _ _ 5 _ _ _ (heap_setCell_same _ _ 4 _ _ _ (heap_setCell_same _ _ 3 _ _ _ (heap_setCell_same _ _ 2 _ _ _ (heap_setCell_same _ _ 1 _ _ _ (heap_setCell_same _ _ 0 _ _ _ (bx3.out))))))).trans rfl⟩ (fun V hI _ => hS.step hI.1 (fun g hg h => by have h : g = b3 := h; exfalso; omega)) ?_
      rintro V5 ⟨m5, nxV5⟩
      refine ptk ?_
      replace HB := Xhb HB m5; replace bx0 := Xbb bx0 m5; replace bx2 := Xbb bx2 m5
      replace bx3 := hide nxV5
      clear nxV5
      replace hS := hS.step m5 (fun g hg h => by first | exact h | (have h : g = b3 := h; exfalso; omega))
      clear m5
      refine tk0 9 (.int .i64 c) rfl ?_
      refine wpAnyK_done (by kernel_rfl) ?_
      clear hS rbx0 rbx1 rbx2 rbx3
      refine then_normal (hK _ _ ?_); clear hK K; refine sk fun K hK => sk fun K hK => rl ?_
      refine sv (.int .i64 c) ?_
      refine sg (.bool false) (h := by have hc0 := hcn; go_simp) ?_
      refine sv (.bool false) ?_
      with_reducible refine sp ?_
      with_reducible refine sp ?_
      with_reducible refine sp ?_
      refine sg (.bool false) ?_
      refine nt (hK _ _ ?_); clear hK K; refine cf (wp_skip (then_normal (hK _ _ ?_))); clear hK K; refine sk fun K hK => sk fun K hK => rl ?_
      refine sv (.int .i64 c) ?_
      refine sg (.bool true) (h := by have hc0 := hcn; go_simp) ?_
      refine nt (hK _ _ ?_); clear hK K; refine ct (sk fun K hK => rl ?_)
      refine sl6 bx0 ?_
      have szA := HB.out.size
      have szb := lt_of_block bx3.out
      refine sw_call (by rfl) (by first | rfl | (go_simp; done)) (l8Copy_any p wv0 gv0 dv0 uv0 V5 (ha0.out.below HB.out.below) hsm) ?_
      rintro e V6 ⟨cw, cg, cd, cu, rfl, LRc, hbC⟩
      have m6 : Mv (nob) V5 V6 := Mv.of_below hbC
      refine ⟨_, rfl, ?_⟩
      refine pt ?_
      replace HB := Xhn HB m6; replace bx2 := Xbn bx2 m6
      obtain ⟨ca0, ck0, rfl, _⟩ := LRc.wa.form
      obtain ⟨ca1, ck1, rfl, _⟩ := LRc.go.form
      obtain ⟨ca2, ck2, rfl, _⟩ := LRc.dn.form
      obtain ⟨ca3, ck3, rfl, _⟩ := LRc.up.form
      have LF := hide (LRc.lower szA)
      have LFb := hide (fun g h => (LRc.lt g h).1)
      clear LRc hbC szA; clear m6
      refine sv (.int .i64 c) ?_
      refine ss6 (.int .i64 p.base) (.slice ca0 p.nw ck0) (.int .i64 p.want) (.slice ca1 p.ng ck1) (.slice ca2 p.nd ck2) (.slice ca3 p.nu ck3) bx2 fun V7 m7 bx2 => ?_
      replace HB := Xhb HB m7
      replace LF := hide (LF.out.mv m7 (fun g hg h => by have h : g = b2 := h; have := LFb.out g hg; omega))
      clear m7
      refine sv (.int .i64 c) ?_
      refine nt (hK _ _ ?_); clear hK K; refine wp_ret (then_ret ?_)
      try simp only [Exit.then, Exit.inBlock, ↓reduceIte, Nat.reduceEqDiff]
      obtain ⟨_, q2_0, q2_1, q2_2, q2_3, q2_4, q2_5⟩ := box6 bx2.out
      exact bodyPost_ret (v := .tuple #[.agg #[.int .i64 p.base, .slice ca0 p.nw ck0, .int .i64 p.want, .slice ca1 p.ng ck1, .slice ca2 p.nd ck2, .slice ca3 p.nu ck3], .int .i64 c]) (by simp [results, Try.results40, go_sem, q2_0, q2_1, q2_2, q2_3, q2_4, q2_5]) rfl ⟨_, _, _, _, by rw [HC, HL], by rw [HL]; exact LF.out, HB.out.below⟩
    have sF2n : ∀ (V : World) (wv : Value) (gv : Value) (dv : Value) (uv : Value) (xa : Option Addr) (xn : Nat) (xc : Nat) (ya : Option Addr) (yn : Nat) (yc : Nat) (za : Option Addr) (zn : Nat) (zc : Nat) (ta : Option Addr) (tn : Nat) (tc : Nat) (r : Lk), (Mv nob V4 V) → G 3 #[true, true, true, true, true, true, true, false, false, false] #[.agg #[.int .i64 p.base, wv0, .int .i64 p.want, gv0, dv0, uv0], .agg #[.int .i64 k, .int .i64 z, .int .i64 bit, .string body], .pointer (some ⟨b0, 0, none⟩), .pointer (some ⟨b1, 0, none⟩), .pointer (some ⟨b2, 0, none⟩), .int .i64 0, undef, undef, .tuple #[.agg #[.int .i64 r.base, .slice xa xn xc, .int .i64 r.want, .slice ya yn yc, .slice za zn zc, .slice ta tn tc], .int .i64 c], .agg #[.int .i64 p.base, wv0, .int .i64 p.want, gv0, dv0, uv0], .agg #[.int .i64 p.base, wv, .int .i64 p.want, gv, dv, uv], .agg #[.int .i64 k, .int .i64 z, .int .i64 bit, .string body], .tuple #[.agg #[.int .i64 r.base, .slice xa xn xc, .int .i64 r.want, .slice ya yn yc, .slice za zn zc, .slice ta tn tc], .int .i64 c], .agg #[.int .i64 r.base, .slice xa xn xc, .int .i64 r.want, .slice ya yn yc, .slice za zn zc, .slice ta tn tc], .int .i64 c, undef, undef, undef, undef, undef, undef, undef, undef, undef, undef, undef, undef, undef, undef] V := by
      intro V wv gv dv uv xa xn xc ya yn yc za zn zc ta tn tc r hM
      rw [hG]
      refine kd_each (l := [7]) (by kernel_rfl) rfl ⟨?_, trivial⟩
      · refine ⟨_, rfl, by rfl, .inl ⟨.pointer (some ⟨V.heap.size, 0, none⟩), V.alloc (.cells #[.int .i64 0, .slice none 0 0, .int .i64 0, .slice none 0 0, .slice none 0 0, .slice none 0 0] 30), by first | rfl | go_simp, fun _ => hM.step (Mv.alloc _ _) (fun _ _ h => h), ?_⟩⟩
        refine ptk ?_
        have := sF2a _ wv gv dv uv xa xn xc ya yn yc za zn zc ta tn tc r V.heap.size (hM.step (Mv.alloc V (.cells #[.int .i64 0, .slice none 0 0, .int .i64 0, .slice none 0 0, .slice none 0 0, .slice none 0 0] 30)) (fun _ _ h => h)) (heap_alloc_new _ _) (hM.size)
        rw [hG] at this
        exact this
    have sF1a : ∀ (V : World) (wv : Value) (gv : Value) (dv : Value) (uv : Value) (bF : Nat), (Mv nob V4 V) → (V.heap[bF]? = some (.cells #[.int .i64 0, .slice none 0 0, .int .i64 0, .slice none 0 0, .slice none 0 0, .slice none 0 0] 30 (0, 0))) → (V4.heap.size ≤ bF) → (Lr V V4.heap.size wv gv dv uv p) → (∀ g, Lrb wv gv dv uv g → g ≠ bF) → G 6 #[true, true, true, false, false, false, false, true, false, false] #[.agg #[.int .i64 p.base, wv0, .int .i64 p.want, gv0, dv0, uv0], .agg #[.int .i64 k, .int .i64 z, .int .i64 bit, .string body], .pointer (some ⟨b0, 0, none⟩), .pointer (some ⟨b1, 0, none⟩), .pointer (some ⟨b2, 0, none⟩), .int .i64 0, .pointer (some ⟨bF, 0, none⟩), undef, undef, .agg #[.int .i64 p.base, wv0, .int .i64 p.want, gv0, dv0, uv0], .agg #[.int .i64 p.base, wv, .int .i64 p.want, gv, dv, uv], .agg #[.int .i64 k, .int .i64 z, .int .i64 bit, .string body], undef, undef, undef, undef, undef, undef, undef, undef, undef, undef, undef, undef, undef, undef, undef, undef, undef] V := by
      intro V wv gv dv uv bF hM hBx hRb LR hAB
      rw [hG]
      refine kd_each (l := [3]) (by kernel_rfl) rfl ⟨?_, trivial⟩
      · refine ⟨_, rfl, by rfl, .inr ⟨_, _, _, by first | rfl | (go_simp; done), hact _ V wv gv dv uv LR hM.size, ?_⟩⟩
        rintro e V2 ⟨xv_, yv_, zv_, tv_, r, rfl, ⟨⟨xa, xn, xc, rfl⟩, ⟨ya, yn, yc, rfl⟩, ⟨za, zn, zc, rfl⟩, ⟨ta, tn, tc, rfl⟩⟩, mm, hq⟩
        have mV2 : Mv (Lrb wv gv dv uv) V V2 := mm
        have sb := lt_of_block hBx
        refine ⟨_, rfl, fun _ => hM.step mV2 (fun g hlt h => by have := (LR.lt g h).1; omega), ?_⟩
        refine ptk ?_
        have hMx : Mv nob V4 V2 := hM.step mV2 (fun g hlt h => by have := (LR.lt g h).1; omega)
        refine tk0 4 (.tuple #[.agg #[.int .i64 r.base, .slice xa xn xc, .int .i64 r.want, .slice ya yn yc, .slice za zn zc, .slice ta tn tc], .int .i64 c]) rfl ?_
        refine tk0 5 (.agg #[.int .i64 r.base, .slice xa xn xc, .int .i64 r.want, .slice ya yn yc, .slice za zn zc, .slice ta tn tc]) rfl ?_
        refine tk0 6 (.int .i64 c) rfl ?_
        have := sF2a V2 wv gv dv uv xa xn xc ya yn yc za zn zc ta tn tc r bF (hM.step mV2 (fun g hlt h => by have := (LR.lt g h).1; omega)) (mV2.box hBx (fun h => hAB _ h rfl)) (hRb)
        rw [hG] at this
        exact this
    have sF1n : ∀ (V : World) (wv : Value) (gv : Value) (dv : Value) (uv : Value), (Mv nob V4 V) → (Lr V V4.heap.size wv gv dv uv p) → G 7 #[true, true, true, false, false, false, false, false, false, false] #[.agg #[.int .i64 p.base, wv0, .int .i64 p.want, gv0, dv0, uv0], .agg #[.int .i64 k, .int .i64 z, .int .i64 bit, .string body], .pointer (some ⟨b0, 0, none⟩), .pointer (some ⟨b1, 0, none⟩), .pointer (some ⟨b2, 0, none⟩), .int .i64 0, undef, undef, undef, .agg #[.int .i64 p.base, wv0, .int .i64 p.want, gv0, dv0, uv0], .agg #[.int .i64 p.base, wv, .int .i64 p.want, gv, dv, uv], .agg #[.int .i64 k, .int .i64 z, .int .i64 bit, .string body], undef, undef, undef, undef, undef, undef, undef, undef, undef, undef, undef, undef, undef, undef, undef, undef, undef] V := by
      intro V wv gv dv uv hM LR
      rw [hG]
      refine kd_each (l := [3, 7]) (by kernel_rfl) rfl ⟨?_, ?_, trivial⟩
      · refine ⟨_, rfl, by rfl, .inr ⟨_, _, _, by first | rfl | (go_simp; done), hact _ V wv gv dv uv LR hM.size, ?_⟩⟩
        rintro e V2 ⟨xv_, yv_, zv_, tv_, r, rfl, ⟨⟨xa, xn, xc, rfl⟩, ⟨ya, yn, yc, rfl⟩, ⟨za, zn, zc, rfl⟩, ⟨ta, tn, tc, rfl⟩⟩, mm, hq⟩
        have mV2 : Mv (Lrb wv gv dv uv) V V2 := mm
        refine ⟨_, rfl, fun _ => hM.step mV2 (fun g hlt h => by have := (LR.lt g h).1; omega), ?_⟩
        refine ptk ?_
        have hMx : Mv nob V4 V2 := hM.step mV2 (fun g hlt h => by have := (LR.lt g h).1; omega)
        refine tk0 4 (.tuple #[.agg #[.int .i64 r.base, .slice xa xn xc, .int .i64 r.want, .slice ya yn yc, .slice za zn zc, .slice ta tn tc], .int .i64 c]) rfl ?_
        refine tk0 5 (.agg #[.int .i64 r.base, .slice xa xn xc, .int .i64 r.want, .slice ya yn yc, .slice za zn zc, .slice ta tn tc]) rfl ?_
        refine tk0 6 (.int .i64 c) rfl ?_
        have := sF2n V2 wv gv dv uv xa xn xc ya yn yc za zn zc ta tn tc r (hM.step mV2 (fun g hlt h => by have := (LR.lt g h).1; omega))
        rw [hG] at this
        exact this
      · refine ⟨_, rfl, by rfl, .inl ⟨.pointer (some ⟨V.heap.size, 0, none⟩), V.alloc (.cells #[.int .i64 0, .slice none 0 0, .int .i64 0, .slice none 0 0, .slice none 0 0, .slice none 0 0] 30), by first | rfl | go_simp, fun _ => hM.step (Mv.alloc _ _) (fun _ _ h => h), ?_⟩⟩
        refine ptk ?_
        have := sF1a _ wv gv dv uv V.heap.size (hM.step (Mv.alloc V (.cells #[.int .i64 0, .slice none 0 0, .int .i64 0, .slice none 0 0, .slice none 0 0, .slice none 0 0] 30)) (fun _ _ h => h)) (heap_alloc_new _ _) (hM.size) (LR.mv (Mv.alloc V (.cells #[.int .i64 0, .slice none 0 0, .int .i64 0, .slice none 0 0, .slice none 0 0, .slice none 0 0] 30)) (fun _ _ h => h)) (fun g h => by have := (LR.lt g h).2; omega)
        rw [hG] at this
        exact this
    have sF0a : ∀ (V : World) (bF : Nat), (Mv nob V4 V) → (V.heap[bF]? = some (.cells #[.int .i64 0, .slice none 0 0, .int .i64 0, .slice none 0 0, .slice none 0 0, .slice none 0 0] 30 (0, 0))) → (V4.heap.size ≤ bF) → G 7 #[true, false, true, false, false, false, false, true, false, false] #[.agg #[.int .i64 p.base, wv0, .int .i64 p.want, gv0, dv0, uv0], .agg #[.int .i64 k, .int .i64 z, .int .i64 bit, .string body], .pointer (some ⟨b0, 0, none⟩), .pointer (some ⟨b1, 0, none⟩), .pointer (some ⟨b2, 0, none⟩), .int .i64 0, .pointer (some ⟨bF, 0, none⟩), undef, undef, .agg #[.int .i64 p.base, wv0, .int .i64 p.want, gv0, dv0, uv0], undef, .agg #[.int .i64 k, .int .i64 z, .int .i64 bit, .string body], undef, undef, undef, undef, undef, undef, undef, undef, undef, undef, undef, undef, undef, undef, undef, undef, undef] V := by
      intro V bF hM hBx hRb
      rw [hG]
      refine kd_each (l := [1]) (by kernel_rfl) rfl ⟨?_, trivial⟩
      · refine ⟨_, rfl, by rfl, .inr ⟨_, _, _, by first | rfl | (go_simp; done), l8Copy_any p wv0 gv0 dv0 uv0 V (ha0.out.below (HB.out.step hM (fun _ _ h => h)).below) hsm, ?_⟩⟩
        rintro e V2 ⟨wv, gv, dv, uv, rfl, LRa, hbC⟩
        have mV2 : Mv (nob) V V2 := Mv.of_below hbC
        have sb := lt_of_block hBx
        refine ⟨_, rfl, fun _ => hM.step mV2 (fun _ _ h => h), ?_⟩
        refine ptk ?_
        have := sF1a V2 wv gv dv uv bF (hM.step mV2 (fun _ _ h => h)) (mV2.box hBx (fun h => h)) (hRb) (LRa.lower hM.size) (fun g h => by have := (LRa.lt g h).1; omega)
        rw [hG] at this
        exact this
    have sF0n : ∀ (V : World), (Mv nob V4 V) → G 8 #[true, false, true, false, false, false, false, false, false, false] #[.agg #[.int .i64 p.base, wv0, .int .i64 p.want, gv0, dv0, uv0], .agg #[.int .i64 k, .int .i64 z, .int .i64 bit, .string body], .pointer (some ⟨b0, 0, none⟩), .pointer (some ⟨b1, 0, none⟩), .pointer (some ⟨b2, 0, none⟩), .int .i64 0, undef, undef, undef, .agg #[.int .i64 p.base, wv0, .int .i64 p.want, gv0, dv0, uv0], undef, .agg #[.int .i64 k, .int .i64 z, .int .i64 bit, .string body], undef, undef, undef, undef, undef, undef, undef, undef, undef, undef, undef, undef, undef, undef, undef, undef, undef] V := by
      intro V hM
      rw [hG]
      refine kd_each (l := [1, 7]) (by kernel_rfl) rfl ⟨?_, ?_, trivial⟩
      · refine ⟨_, rfl, by rfl, .inr ⟨_, _, _, by first | rfl | (go_simp; done), l8Copy_any p wv0 gv0 dv0 uv0 V (ha0.out.below (HB.out.step hM (fun _ _ h => h)).below) hsm, ?_⟩⟩
        rintro e V2 ⟨wv, gv, dv, uv, rfl, LRa, hbC⟩
        have mV2 : Mv (nob) V V2 := Mv.of_below hbC
        refine ⟨_, rfl, fun _ => hM.step mV2 (fun _ _ h => h), ?_⟩
        refine ptk ?_
        have := sF1n V2 wv gv dv uv (hM.step mV2 (fun _ _ h => h)) (LRa.lower hM.size)
        rw [hG] at this
        exact this
      · refine ⟨_, rfl, by rfl, .inl ⟨.pointer (some ⟨V.heap.size, 0, none⟩), V.alloc (.cells #[.int .i64 0, .slice none 0 0, .int .i64 0, .slice none 0 0, .slice none 0 0, .slice none 0 0] 30), by first | rfl | go_simp, fun _ => hM.step (Mv.alloc _ _) (fun _ _ h => h), ?_⟩⟩
        refine ptk ?_
        have := sF0a _ V.heap.size (hM.step (Mv.alloc V (.cells #[.int .i64 0, .slice none 0 0, .int .i64 0, .slice none 0 0, .slice none 0 0, .slice none 0 0] 30)) (fun _ _ h => h)) (heap_alloc_new _ _) (hM.size)
        rw [hG] at this
        exact this
    exact sF0n _ (hS)

end Go.Proofs.Ytnkocikbapbbmaa
