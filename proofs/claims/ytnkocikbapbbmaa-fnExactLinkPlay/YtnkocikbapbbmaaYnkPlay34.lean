/- LdS -/
import Derived.Test.YtnkocikbapbbmaaYnkPlay27
import Derived.Test.YtnkocikbapbbmaaYnkPlay32
import Derived.Test.YtnkocikbapbbmaaYnkPlay33
/- impl.linkDone, impl.LinkDo (written by mkLdS.py) -/
namespace Go.Proofs.Ytnkocikbapbbmaa
open Go.RowKit
set_option linter.unusedVariables false
set_option linter.unusedSimpArgs false

theorem acted_ok (p : Lk) (wa ga da ua : Option Addr) (wc gc dc uc : Nat) (base : Nat) (w : World) (hr : Lr w base (.slice wa p.nw wc) (.slice ga p.ng gc) (.slice da p.nd dc) (.slice ua p.nu uc) p) (hle : base ≤ w.heap.size) (k z bit : Int) (body : ByteArray) (hk : 1 ≤ k ∧ k ≤ 8) (hf : Lf p) (hC : actC p k z bit = 0) :
    Calls Try.prog 59 #[.agg (l6 p.base (.slice wa p.nw wc) p.want (.slice ga p.ng gc) (.slice da p.nd dc) (.slice ua p.nu uc)), laV k z bit body] w (OkC (.slice wa p.nw wc) (.slice ga p.ng gc) (.slice da p.nd dc) (.slice ua p.nu uc) base w p (actL p k z bit body)) := by
  have f0 := hf.b0; have f1 := hf.b1; have f2 := hf.w8; have f3 := hf.k0; have f4 := hf.k1; have f5 := hf.kg; have f6 := hf.nd; have f7 := hf.nu
  rcases (show k = 1 ∨ k = 2 ∨ k = 3 ∨ k = 4 ∨ k = 5 ∨ k = 6 ∨ k = 7 ∨ k = 8 by omega) with rfl | rfl | rfl | rfl | rfl | rfl | rfl | rfl
  · rw [laV_1, show actL p 1 z bit body = offL p body from by simp [actL]]
    exact acted_offer p wa ga da ua wc gc dc uc base w hr hle body (by omega)
  · rw [laV_2, show actL p 2 z bit body = sndL p from by simp [actL]]
    exact acted_send p wa ga da ua wc gc dc uc base w hr hle f0 f1 f2 (by omega)
  · rw [laV_3]
    have ht : thB p.nd z = true := by cases h : thB p.nd z with | true => rfl | false => simp [actC, h] at hC
    obtain ⟨m, rfl, hm⟩ := thB_yes ht
    rw [show actL p 3 (m : Int) bit body = comeD p m from by simp [actL]]
    exact acted_come_ok p wa ga da ua wc gc dc uc base w hr hle false m _ (fun V hV hb => come_d p m wa ga da ua wc gc dc uc base V hV hb hm (hf.wd m hm).2 f0 f1 f2 (by omega) (by omega) f4 (by omega) f6 (by omega))
  · rw [laV_4]
    have ht : thB p.nu z = true := by cases h : thB p.nu z with | true => rfl | false => simp [actC, h] at hC
    obtain ⟨m, rfl, hm⟩ := thB_yes ht
    rw [show actL p 4 (m : Int) bit body = comeU p m from by simp [actL]]
    exact acted_come_ok p wa ga da ua wc gc dc uc base w hr hle true m _ (fun V hV hb => come_u p m wa ga da ua wc gc dc uc base V hV hb hm (hf.wu m hm).2 f0 f1 f2 (by omega) (by omega) f4 (by omega) f6 (by omega))
  · rw [laV_5]
    have ht : thB p.nd z = true := by cases h : thB p.nd z with | true => rfl | false => simp [actC, h] at hC
    obtain ⟨m, rfl, hm⟩ := thB_yes ht
    rw [show actL p 5 (m : Int) bit body = outD p m from by simp [actL]]
    refine acted_lose_ok p wa ga da ua wc gc dc uc base w hr hle false m _ (fun V hV hb => ?_)
    refine (taken_dn p.base p.want wa ga da ua p.nw p.ng p.nd p.nu wc gc dc uc base m p.dt p.dh V hV.dn hm (by omega)).mono ?_
    rintro e w' ⟨ux, kx, he, hrx, hbx⟩
    exact ⟨_, _, _, _, _, he, (Mv.of_below hbx).mono (fun _ _ h => h.elim), hV.below hbx, hV.put_dn (Below.gb hbx _) (hrx.base hb) (fun g e => .inr (hrx.lt g e).1), nw_dn (fun g e => .inr (hrx.lt g e).1)⟩
  · rw [laV_6]
    have ht : thB p.nu z = true := by cases h : thB p.nu z with | true => rfl | false => simp [actC, h] at hC
    obtain ⟨m, rfl, hm⟩ := thB_yes ht
    rw [show actL p 6 (m : Int) bit body = outU p m from by simp [actL]]
    refine acted_lose_ok p wa ga da ua wc gc dc uc base w hr hle true m _ (fun V hV hb => ?_)
    refine (taken_up p.base p.want wa ga da ua p.nw p.ng p.nd p.nu wc gc dc uc base m p.ut p.uh V hV.up hm (by omega)).mono ?_
    rintro e w' ⟨ux, kx, he, hrx, hbx⟩
    exact ⟨_, _, _, _, _, he, (Mv.of_below hbx).mono (fun _ _ h => h.elim), hV.below hbx, hV.put_up (Below.gb hbx _) (hrx.base hb) (fun g e => .inr (hrx.lt g e).1), nw_up (fun g e => .inr (hrx.lt g e).1)⟩
  · rw [laV_7]
    have hc : flC p.nd p.dt p.dh z bit = 0 := by simpa [actC] using hC
    obtain ⟨m, b, rfl, hm, rfl, hb8, hh⟩ := flC_zero hc
    rw [show actL p 7 (m : Int) (b : Int) body = flipD p m b from by simp [actL]]
    exact acted_flip_ok p wa ga da ua wc gc dc uc base w hr hle false m b _ (fun V hV hb => bt_yes_d p wa ga da ua wc gc dc uc base V hV hb m b hm (by omega) (hf.wd m hm).2 hb8 hh)
  · rw [laV_8]
    have hc : flC p.nu p.ut p.uh z bit = 0 := by simpa [actC] using hC
    obtain ⟨m, b, rfl, hm, rfl, hb8, hh⟩ := flC_zero hc
    rw [show actL p 8 (m : Int) (b : Int) body = flipU p m b from by simp [actL]]
    exact acted_flip_ok p wa ga da ua wc gc dc uc base w hr hle true m b _ (fun V hV hb => bt_yes_u p wa ga da ua wc gc dc uc base V hV hb m b hm (by omega) (hf.wu m hm).2 hb8 hh)

theorem acted_bad (p : Lk) (wa ga da ua : Option Addr) (wc gc dc uc : Nat) (base : Nat) (w : World) (hr : Lr w base (.slice wa p.nw wc) (.slice ga p.ng gc) (.slice da p.nd dc) (.slice ua p.nu uc) p) (hle : base ≤ w.heap.size) (k z bit : Int) (body : ByteArray) (hk : 1 ≤ k ∧ k ≤ 8) (hf : Lf p) (hC : actC p k z bit ≠ 0) :
    Calls Try.prog 59 #[.agg (l6 p.base (.slice wa p.nw wc) p.want (.slice ga p.ng gc) (.slice da p.nd dc) (.slice ua p.nu uc)), laV k z bit body] w (NoC (.slice wa p.nw wc) (.slice ga p.ng gc) (.slice da p.nd dc) (.slice ua p.nu uc) base w p (actC p k z bit)) := by
  have f6 := hf.nd; have f7 := hf.nu
  rcases (show k = 1 ∨ k = 2 ∨ k = 3 ∨ k = 4 ∨ k = 5 ∨ k = 6 ∨ k = 7 ∨ k = 8 by omega) with rfl | rfl | rfl | rfl | rfl | rfl | rfl | rfl
  · exact absurd (by simp [actC]) hC
  · exact absurd (by simp [actC]) hC
  · rw [laV_3]
    have ht : thB p.nd z = false := by cases h : thB p.nd z with | false => rfl | true => simp [actC, h] at hC
    rw [show actC p 3 z bit = 3 from by simp [actC, ht]]
    exact acted_come_no p wa ga da ua wc gc dc uc base w hr hle false z 3 (fun V hV hb => come_no_d p wa ga da ua wc gc dc uc base V hV hb z ht)
  · rw [laV_4]
    have ht : thB p.nu z = false := by cases h : thB p.nu z with | false => rfl | true => simp [actC, h] at hC
    rw [show actC p 4 z bit = 3 from by simp [actC, ht]]
    exact acted_come_no p wa ga da ua wc gc dc uc base w hr hle true z 3 (fun V hV hb => come_no_u p wa ga da ua wc gc dc uc base V hV hb z ht)
  · rw [laV_5]
    have ht : thB p.nd z = false := by cases h : thB p.nd z with | false => rfl | true => simp [actC, h] at hC
    rw [show actC p 5 z bit = 3 from by simp [actC, ht]]
    refine acted_lose_no p wa ga da ua wc gc dc uc base w hr hle false z 3 (fun V hV hb => (taken_no_dn p.base p.want wa ga da ua p.nw p.ng p.nd p.nu wc gc dc uc z V ht).mono ?_)
    rintro e w' ⟨he, hbx⟩
    exact ⟨_, he, (Mv.of_below hbx).mono (fun _ _ h => h.elim), hV.below hbx⟩
  · rw [laV_6]
    have ht : thB p.nu z = false := by cases h : thB p.nu z with | false => rfl | true => simp [actC, h] at hC
    rw [show actC p 6 z bit = 3 from by simp [actC, ht]]
    refine acted_lose_no p wa ga da ua wc gc dc uc base w hr hle true z 3 (fun V hV hb => (taken_no_up p.base p.want wa ga da ua p.nw p.ng p.nd p.nu wc gc dc uc z V ht).mono ?_)
    rintro e w' ⟨he, hbx⟩
    exact ⟨_, he, (Mv.of_below hbx).mono (fun _ _ h => h.elim), hV.below hbx⟩
  · rw [laV_7, show actC p 7 z bit = flC p.nd p.dt p.dh z bit from by simp [actC]]
    have hC : flC p.nd p.dt p.dh z bit ≠ 0 := fun h => hC (by simpa [actC] using h)
    refine acted_flip_no p wa ga da ua wc gc dc uc base w hr hle false z bit _ (fun V hV hb => ?_)
    unfold flC at hC ⊢
    cases ht : thB p.nd z with
    | false => exact bt_no_d p wa ga da ua wc gc dc uc base V hV hb z bit ht
    | true =>
      obtain ⟨m, rfl, hm⟩ := thB_yes ht
      rw [ht] at hC
      simp only [Int.toNat_natCast, if_true] at hC ⊢
      by_cases hbad : bit < 0 ∨ 8 * ((p.dt m).size : Int) ≤ bit
      · rw [if_pos hbad]
        exact bt_form_d p wa ga da ua wc gc dc uc base V hV hb m bit hm (by omega) (hf.wd m hm).2 hbad
      · rw [if_neg hbad] at hC ⊢
        by_cases hh : p.dh m = true
        rotate_left
        · rw [if_neg hh] at hC; exact absurd rfl hC
        · rw [if_pos hh]
          obtain ⟨b, rfl⟩ : ∃ b : Nat, bit = (b : Int) := ⟨bit.toNat, by omega⟩
          exact bt_hurt_d p wa ga da ua wc gc dc uc base V hV hb m b hm (by omega) (hf.wd m hm).2 (by omega) hh
  · rw [laV_8, show actC p 8 z bit = flC p.nu p.ut p.uh z bit from by simp [actC]]
    have hC : flC p.nu p.ut p.uh z bit ≠ 0 := fun h => hC (by simpa [actC] using h)
    refine acted_flip_no p wa ga da ua wc gc dc uc base w hr hle true z bit _ (fun V hV hb => ?_)
    unfold flC at hC ⊢
    cases ht : thB p.nu z with
    | false => exact bt_no_u p wa ga da ua wc gc dc uc base V hV hb z bit ht
    | true =>
      obtain ⟨m, rfl, hm⟩ := thB_yes ht
      rw [ht] at hC
      simp only [Int.toNat_natCast, if_true] at hC ⊢
      by_cases hbad : bit < 0 ∨ 8 * ((p.ut m).size : Int) ≤ bit
      · rw [if_pos hbad]
        exact bt_form_u p wa ga da ua wc gc dc uc base V hV hb m bit hm (by omega) (hf.wu m hm).2 hbad
      · rw [if_neg hbad] at hC ⊢
        by_cases hh : p.uh m = true
        rotate_left
        · rw [if_neg hh] at hC; exact absurd rfl hC
        · rw [if_pos hh]
          obtain ⟨b, rfl⟩ : ∃ b : Nat, bit = (b : Int) := ⟨bit.toNat, by omega⟩
          exact bt_hurt_u p wa ga da ua wc gc dc uc base V hV hb m b hm (by omega) (hf.wu m hm).2 (by omega) hh

/-- what an act at a right link comes to -/
def ldC (p : Lk) (k z bit : Int) (body : ByteArray) : Int := if laB k z bit body then (if actC p k z bit = 0 then (if lkB (actL p k z bit body) then 0 else 4) else actC p k z bit) else 2
def ldL (p : Lk) (k z bit : Int) (body : ByteArray) : Lk := if ldC p k z bit body = 0 then actL p k z bit body else p
theorem laB_kind {k z bit : Int} {body : ByteArray} (h : laB k z bit body = true) : 1 ≤ k ∧ k ≤ 8 := by
  unfold laB at h
  split at h
  · omega
  · split at h
    · omega
    · split at h
      · omega
      · split at h
        · omega
        · cases h
theorem laB_body {k z bit : Int} {body : ByteArray} (h : laB k z bit body = true) : body.size ≤ 8 := by
  unfold laB at h
  split at h
  · exact (of_decide_eq_true h).2.2
  · split at h
    · have := (of_decide_eq_true h).2.2; omega
    · split at h
      · have := (of_decide_eq_true h).2; omega
      · split at h
        · have := of_decide_eq_true h; omega
        · cases h
theorem act_sm {p : Lk} {k z bit : Int} {body : ByteArray} (hf : Lf p) (hk : 1 ≤ k ∧ k ≤ 8) (hC : actC p k z bit = 0) (hb : body.size ≤ 8) : Lsm 1048576 (actL p k z bit body) := by
  have hs := hf.sm2
  have hs' := hs.mono (b := 1048576) (by decide)
  rcases (show k = 1 ∨ k = 2 ∨ k = 3 ∨ k = 4 ∨ k = 5 ∨ k = 6 ∨ k = 7 ∨ k = 8 by omega) with rfl | rfl | rfl | rfl | rfl | rfl | rfl | rfl
  · rw [show actL p 1 z bit body = offL p body from by simp [actL]]
    exact off_sm hs hb
  · rw [show actL p 2 z bit body = sndL p from by simp [actL]]
    exact snd_sm hs hf.tw
  · have ht : thB p.nd z = true := by cases h : thB p.nd z with | true => rfl | false => simp [actC, h] at hC
    obtain ⟨m, rfl, hm⟩ := thB_yes ht
    rw [show actL p 3 (m : Int) bit body = comeD p m from by simp [actL]]
    exact comeD_sm hs (hf.wd m hm).2
  · rw [show actL p 4 z bit body = comeU p z.toNat from by simp [actL]]
    exact comeU_sm hs'
  · rw [show actL p 5 z bit body = outD p z.toNat from by simp [actL]]
    exact outD_sm hs'
  · rw [show actL p 6 z bit body = outU p z.toNat from by simp [actL]]
    exact outU_sm hs'
  · have hc : flC p.nd p.dt p.dh z bit = 0 := by simpa [actC] using hC
    obtain ⟨m, b, rfl, hm, rfl, hb8, hh⟩ := flC_zero hc
    rw [show actL p 7 (m : Int) (b : Int) body = flipD p m b from by simp [actL]]
    exact flipD_sm hs' hm
  · have hc : flC p.nu p.ut p.uh z bit = 0 := by simpa [actC] using hC
    obtain ⟨m, b, rfl, hm, rfl, hb8, hh⟩ := flC_zero hc
    rw [show actL p 8 (m : Int) (b : Int) body = flipU p m b from by simp [actL]]
    exact flipU_sm hs' hm
theorem act_as (lv : Value) (b : Bool) (k z bit : Int) (body : ByteArray) (w : World) (h1 : laV k z bit body = lv) (h2 : laB k z bit body = b) : Calls Try.prog 58 #[.agg (a4 k z bit body)] w fun e w' => e = .returned (.tuple #[lv, .bool b]) ∧ Below w.heap.size w w' := by
  subst h1; subst h2; exact act_any k z bit body w
theorem ok_as (b : Bool) (p : Lk) (wa ga da ua : Option Addr) (wc gc dc uc base : Nat) (w : World) (h : lkB p = b) (hr : Lr w base (.slice wa p.nw wc) (.slice ga p.ng gc) (.slice da p.nd dc) (.slice ua p.nu uc) p) (hs : Lsm 1048576 p) :
    Calls Try.prog 10 #[.agg (l6 p.base (.slice wa p.nw wc) p.want (.slice ga p.ng gc) (.slice da p.nd dc) (.slice ua p.nu uc))] w fun e w' => e = .returned (.bool b) ∧ Below w.heap.size w w' := by
  subst h; exact implLinkOk_lr p wa ga da ua wc gc dc uc base w hr hs

set_option maxHeartbeats 4000000 in
set_option maxRecDepth 20000 in
theorem linkDone_any (p : Lk) (wa ga da ua : Option Addr) (wc gc dc uc : Nat) (base : Nat) (w : World) (hr : Lr w base (.slice wa p.nw wc) (.slice ga p.ng gc) (.slice da p.nd dc) (.slice ua p.nu uc) p) (hle : base ≤ w.heap.size) (k z bit : Int) (body : ByteArray) (hf : Lf p) :
    Calls Try.prog 41 #[.agg (l6 p.base (.slice wa p.nw wc) p.want (.slice ga p.ng gc) (.slice da p.nd dc) (.slice ua p.nu uc)), .agg (a4 k z bit body)] w fun e w' => ∃ wv gv dv uv, e = .returned (.tuple #[.agg (l6 (ldL p k z bit body).base wv (ldL p k z bit body).want gv dv uv), .int .i64 (ldC p k z bit body)]) ∧ Mv (Lrb (.slice wa p.nw wc) (.slice ga p.ng gc) (.slice da p.nd dc) (.slice ua p.nu uc)) w w' ∧ Lr w' base wv gv dv uv (ldL p k z bit body) ∧ Nw w.heap.size (.slice wa p.nw wc) (.slice ga p.ng gc) (.slice da p.nd dc) (.slice ua p.nu uc) wv gv dv uv := by
  obtain ⟨lv, hlv⟩ : ∃ lv, laV k z bit body = lv := ⟨_, rfl⟩
  cases hla : laB k z bit body with
  | false =>
    have HC : ldC p k z bit body = 2 := by simp [ldC, hla]
    have HL : ldL p k z bit body = p := by simp [ldL, HC]
    have HB : Hid (Mv (Lrb (.slice wa p.nw wc) (.slice ga p.ng gc) (.slice da p.nd dc) (.slice ua p.nu uc)) w w) := hide (Mv.refl _ _)
    have LO := hide hr
    have LT := hide (fun g (h : Lrb (.slice wa p.nw wc) (.slice ga p.ng gc) (.slice da p.nd dc) (.slice ua p.nu uc) g) => (hr.lt g h).2)
    have hbs : base ≤ w.heap.size := hle
    clear hr hle
    go_enter Try.func41, Try.ntmps41
    refine sk fun K hK => rl ?_
    refine sbp #[.int .i64 p.base, .slice wa p.nw wc, .int .i64 p.want, .slice ga p.ng gc, .slice da p.nd dc, .slice ua p.nu uc] 30 fun V1 b0 hb0 m1 bx0 => ?_
    have o_0 : w.heap.size ≤ b0 := by omega
    clear hb0
    refine sbp #[.int .i64 k, .int .i64 z, .int .i64 bit, .string body] 39 fun V2 b1 hb1 m2 bx1 => ?_
    have o0_1 := Xlo bx0 hb1; clear hb1
    refine sbp #[.int .i64 0, .slice none 0 0, .int .i64 0, .slice none 0 0, .slice none 0 0, .slice none 0 0] 30 fun V3 b2 hb2 m3 bx2 => ?_
    have o1_2 := Xlo bx1 hb2; clear hb2
    refine sv (.int .i64 0) ?_
    refine nt (hK _ _ ?_); clear hK K; refine sk fun K hK => rl ?_
    replace bx1 := Xbn bx1 m3; refine sg (.agg #[.int .i64 k, .int .i64 z, .int .i64 bit, .string body]) (h := by have z0 := cell_box 0 (bx1.out) rfl; have z1 := cell_box 1 (bx1.out) rfl; have z2 := cell_box 2 (bx1.out) rfl; have z3 := cell_box 3 (bx1.out) rfl; go_simp) ?_
    refine sw_call (by rfl) (by first | rfl | (go_simp; done)) (act_as lv false k z bit body V3 hlv hla) ?_
    rintro e V4 ⟨rfl, hbV4⟩
    have m4 : Mv (nob) V3 V4 := Mv.of_below hbV4
    refine ⟨_, rfl, ?_⟩
    refine pt ?_
    clear hbV4
    refine sv (.tuple #[lv, .bool false]) ?_
    refine sv (lv) ?_
    refine sv (.bool false) ?_
    refine sv (lv) ?_
    refine sv (.bool false) ?_
    refine nt (hK _ _ ?_); clear hK K; refine sk fun K hK => sk fun K hK => rl ?_
    refine sv (.bool false) ?_
    refine sg (.bool true) ?_
    refine nt (hK _ _ ?_); clear hK K; refine ct (sk fun K hK => rl ?_)
    replace bx0 := Xbn (Xbn (Xbn bx0 m2) m3) m4; refine sl6 bx0 ?_
    replace bx2 := Xbn bx2 m4; refine ss6 (.int .i64 p.base) (.slice wa p.nw wc) (.int .i64 p.want) (.slice ga p.ng gc) (.slice da p.nd dc) (.slice ua p.nu uc) bx2 fun V5 m5 bx2 => ?_
    refine sv (.int .i64 2) ?_
    refine nt (hK _ _ ?_); clear hK K; refine wp_ret (then_ret ?_)
    try simp only [Exit.then, Exit.inBlock, ↓reduceIte, Nat.reduceEqDiff]
    obtain ⟨_, q2_0, q2_1, q2_2, q2_3, q2_4, q2_5⟩ := box6 bx2.out
    replace HB := Xhb (Xhn (Xhn (Xhn (Xhn HB m1) m2) m3) m4) m5; replace LO := Xlb (Xln (Xln (Xln (Xln LO m1) m2) m3) m4) LT m5; exact bodyPost_ret (v := .tuple #[.agg #[.int .i64 p.base, .slice wa p.nw wc, .int .i64 p.want, .slice ga p.ng gc, .slice da p.nd dc, .slice ua p.nu uc], .int .i64 2]) (by simp [results, Try.results41, go_sem, q2_0, q2_1, q2_2, q2_3, q2_4, q2_5]) rfl ⟨_, _, _, _, by rw [HC, HL], HB.out.mono (fun _ _ h => h), by rw [HL]; exact LO.out, Nw.refl _ _ _ _ _⟩
  | true =>
    have hk := laB_kind hla
    have hb8 := laB_body hla
    by_cases hC : actC p k z bit = 0
    · have hcon := fun V hV hb => acted_ok p wa ga da ua wc gc dc uc base V hV hb k z bit body hk hf hC
      have hsm := act_sm hf hk hC hb8
      rw [hlv] at hcon
      cases hok : lkB (actL p k z bit body) with
      | false =>
        have HC : ldC p k z bit body = 4 := by simp [ldC, hla, hC, hok]
        have HL : ldL p k z bit body = p := by simp [ldL, HC]
        generalize actL p k z bit body = q at hcon hsm hok
        have HB : Hid (Mv (Lrb (.slice wa p.nw wc) (.slice ga p.ng gc) (.slice da p.nd dc) (.slice ua p.nu uc)) w w) := hide (Mv.refl _ _)
        have LO := hide hr
        have LT := hide (fun g (h : Lrb (.slice wa p.nw wc) (.slice ga p.ng gc) (.slice da p.nd dc) (.slice ua p.nu uc) g) => (hr.lt g h).2)
        have hbs : base ≤ w.heap.size := hle
        clear hr hle
        go_enter Try.func41, Try.ntmps41
        refine sk fun K hK => rl ?_
        refine sbp #[.int .i64 p.base, .slice wa p.nw wc, .int .i64 p.want, .slice ga p.ng gc, .slice da p.nd dc, .slice ua p.nu uc] 30 fun V1 b0 hb0 m1 bx0 => ?_
        have o_0 : w.heap.size ≤ b0 := by omega
        clear hb0
        refine sbp #[.int .i64 k, .int .i64 z, .int .i64 bit, .string body] 39 fun V2 b1 hb1 m2 bx1 => ?_
        have o0_1 := Xlo bx0 hb1; clear hb1
        refine sbp #[.int .i64 0, .slice none 0 0, .int .i64 0, .slice none 0 0, .slice none 0 0, .slice none 0 0] 30 fun V3 b2 hb2 m3 bx2 => ?_
        have o1_2 := Xlo bx1 hb2; clear hb2
        refine sv (.int .i64 0) ?_
        refine nt (hK _ _ ?_); clear hK K; refine sk fun K hK => rl ?_
        replace bx1 := Xbn bx1 m3; refine sg (.agg #[.int .i64 k, .int .i64 z, .int .i64 bit, .string body]) (h := by have z0 := cell_box 0 (bx1.out) rfl; have z1 := cell_box 1 (bx1.out) rfl; have z2 := cell_box 2 (bx1.out) rfl; have z3 := cell_box 3 (bx1.out) rfl; go_simp) ?_
        refine sw_call (by rfl) (by first | rfl | (go_simp; done)) (act_as lv true k z bit body V3 hlv hla) ?_
        rintro e V4 ⟨rfl, hbV4⟩
        have m4 : Mv (nob) V3 V4 := Mv.of_below hbV4
        refine ⟨_, rfl, ?_⟩
        refine pt ?_
        clear hbV4
        refine sv (.tuple #[lv, .bool true]) ?_
        refine sv (lv) ?_
        refine sv (.bool true) ?_
        refine sv (lv) ?_
        refine sv (.bool true) ?_
        refine nt (hK _ _ ?_); clear hK K; refine sk fun K hK => sk fun K hK => rl ?_
        refine sv (.bool true) ?_
        refine sg (.bool false) ?_
        refine nt (hK _ _ ?_); clear hK K; refine cf (wp_skip (then_normal (hK _ _ ?_))); clear hK K; refine sk fun K hK => rl ?_
        replace bx0 := Xbn (Xbn (Xbn bx0 m2) m3) m4; refine sl6 bx0 ?_
        refine sv (lv) ?_
        replace bx2 := Xbn bx2 m4; have szT := lt_of_block bx2.out
        replace HB := Xhn (Xhn (Xhn (Xhn HB m1) m2) m3) m4; have szW := HB.out.size
        have LTm : ∀ g, Lrb (.slice wa p.nw wc) (.slice ga p.ng gc) (.slice da p.nd dc) (.slice ua p.nu uc) g → g < w.heap.size := fun g h => LT.out g h
        replace LO := Xln (Xln (Xln (Xln LO m1) m2) m3) m4; refine sw_call (by rfl) (by first | rfl | (go_simp; done)) (hcon V4 LO.out (by omega)) ?_
        rintro e V5 ⟨wv, gv, dv, uv, rfl, mm, hq, hl2, hnw⟩
        have m5 : Mv (Lrb (.slice wa p.nw wc) (.slice ga p.ng gc) (.slice da p.nd dc) (.slice ua p.nu uc)) V4 V5 := mm
        refine ⟨_, rfl, ?_⟩
        refine pt ?_
        replace HB := hide (HB.out.step m5 (fun g _ h => h))
        replace bx0 := hide (m5.box bx0.out (fun h => by have := LTm _ h; omega))
        replace bx1 := Xbn bx1 m4; replace bx1 := hide (m5.box bx1.out (fun h => by have := LTm _ h; omega))
        replace bx2 := hide (m5.box bx2.out (fun h => by have := LTm _ h; omega))
        obtain ⟨xa, xc, rfl, _⟩ := hl2.wa.form
        obtain ⟨ya, yc, rfl, _⟩ := hl2.go.form
        obtain ⟨za, zc, rfl, _⟩ := hl2.dn.form
        obtain ⟨va, vc, rfl, _⟩ := hl2.up.form
        have NX : Nw V4.heap.size (.slice wa p.nw wc) (.slice ga p.ng gc) (.slice da p.nd dc) (.slice ua p.nu uc) (.slice xa q.nw xc) (.slice ya q.ng yc) (.slice za q.nd zc) (.slice va q.nu vc) := hnw
        have LN := hide (hl2)
        have AF : Hid (∀ g, Lrb (.slice xa q.nw xc) (.slice ya q.ng yc) (.slice za q.nd zc) (.slice va q.nu vc) g → g ≠ b0 ∧ g ≠ b1 ∧ g ≠ b2) := hide (fun g h => (NX g h).elim (fun h2 => by have := LT.out g h2; omega) (fun h2 => by omega))
        have AN : Hid (Nw w.heap.size (.slice wa p.nw wc) (.slice ga p.ng gc) (.slice da p.nd dc) (.slice ua p.nu uc) (.slice xa q.nw xc) (.slice ya q.ng yc) (.slice za q.nd zc) (.slice va q.nu vc)) := hide (fun g h => (NX g h).elim (fun h2 => .inl h2) (fun h2 => .inr (by omega)))
        clear NX szT szW
        replace LO := hide hq
        clear hq hl2 hnw mm LTm
        refine sv (.tuple #[.agg #[.int .i64 q.base, .slice xa q.nw xc, .int .i64 q.want, .slice ya q.ng yc, .slice za q.nd zc, .slice va q.nu vc], .int .i64 0]) ?_
        refine sv (.agg #[.int .i64 q.base, .slice xa q.nw xc, .int .i64 q.want, .slice ya q.ng yc, .slice za q.nd zc, .slice va q.nu vc]) ?_
        refine sv (.int .i64 0) ?_
        refine sbp #[.int .i64 0, .slice none 0 0, .int .i64 0, .slice none 0 0, .slice none 0 0, .slice none 0 0] 30 fun V6 b3 hb3 m6 bx3 => ?_
        have o2_3 := Xlo bx2 hb3
        replace AF : Hid (∀ g, Lrb (.slice xa q.nw xc) (.slice ya q.ng yc) (.slice za q.nd zc) (.slice va q.nu vc) g → g ≠ b0 ∧ g ≠ b1 ∧ g ≠ b2 ∧ g ≠ b3) := hide (fun g h => by have h1 := AF.out g h; have h2 := (LN.out.lt g h).2; refine (?_ : _ ∧ _); exact (by omega))
        clear hb3
        refine ss6 (.int .i64 q.base) (.slice xa q.nw xc) (.int .i64 q.want) (.slice ya q.ng yc) (.slice za q.nd zc) (.slice va q.nu vc) bx3 fun V7 m7 bx3 => ?_
        replace LN := Xln LN m6; replace LN := hide (LN.out.mv m7 (fun g hg h => by have h : g = b3 := h; have := AF.out g hg; omega))
        refine sv (.int .i64 0) ?_
        refine nt (hK _ _ ?_); clear hK K; refine sk fun K hK => sk fun K hK => rl ?_
        refine sv (.int .i64 0) ?_
        refine sg (.bool false) ?_
        refine nt (hK _ _ ?_); clear hK K; refine cf (wp_skip (then_normal (hK _ _ ?_))); clear hK K; refine sk fun K hK => sk fun K hK => rl ?_
        refine sl6 bx3 ?_
        refine sw_call (by rfl) (by first | rfl | (go_simp; done)) (ok_as false q xa ya za va xc yc zc vc base V7 hok LN.out hsm) ?_
        rintro e V8 ⟨rfl, hbV8⟩
        have m8 : Mv (nob) V7 V8 := Mv.of_below hbV8
        refine ⟨_, rfl, ?_⟩
        refine pt ?_
        clear hbV8
        refine sg (.bool true) ?_
        refine nt (hK _ _ ?_); clear hK K; refine ct (sk fun K hK => rl ?_)
        replace bx0 := Xbn (Xbb (Xbn bx0 m6) m7) m8; refine sl6 bx0 ?_
        replace bx2 := Xbn (Xbb (Xbn bx2 m6) m7) m8; refine ss6 (.int .i64 p.base) (.slice wa p.nw wc) (.int .i64 p.want) (.slice ga p.ng gc) (.slice da p.nd dc) (.slice ua p.nu uc) bx2 fun V9 m9 bx2 => ?_
        replace LN := Xln LN m8; replace LN := hide (LN.out.mv m9 (fun g hg h => by have h : g = b2 := h; have := AF.out g hg; omega))
        refine sv (.int .i64 4) ?_
        refine nt (hK _ _ ?_); clear hK K; refine wp_ret (then_ret ?_)
        try simp only [Exit.then, Exit.inBlock, ↓reduceIte, Nat.reduceEqDiff]
        obtain ⟨_, q2_0, q2_1, q2_2, q2_3, q2_4, q2_5⟩ := box6 bx2.out
        replace HB := Xhb (Xhn (Xhb (Xhn HB m6) m7) m8) m9; replace LO := Xlb (Xln (Xlb (Xln LO m6) LT m7) m8) LT m9; exact bodyPost_ret (v := .tuple #[.agg #[.int .i64 p.base, .slice wa p.nw wc, .int .i64 p.want, .slice ga p.ng gc, .slice da p.nd dc, .slice ua p.nu uc], .int .i64 4]) (by simp [results, Try.results41, go_sem, q2_0, q2_1, q2_2, q2_3, q2_4, q2_5]) rfl ⟨_, _, _, _, by rw [HC, HL], HB.out, by rw [HL]; exact LO.out, Nw.refl _ _ _ _ _⟩
      | true =>
        have HC : ldC p k z bit body = 0 := by simp [ldC, hla, hC, hok]
        have HL : ldL p k z bit body = actL p k z bit body := by simp [ldL, HC]
        generalize actL p k z bit body = q at hcon hsm hok HL
        have HB : Hid (Mv (Lrb (.slice wa p.nw wc) (.slice ga p.ng gc) (.slice da p.nd dc) (.slice ua p.nu uc)) w w) := hide (Mv.refl _ _)
        have LO := hide hr
        have LT := hide (fun g (h : Lrb (.slice wa p.nw wc) (.slice ga p.ng gc) (.slice da p.nd dc) (.slice ua p.nu uc) g) => (hr.lt g h).2)
        have hbs : base ≤ w.heap.size := hle
        clear hr hle
        go_enter Try.func41, Try.ntmps41
        refine sk fun K hK => rl ?_
        refine sbp #[.int .i64 p.base, .slice wa p.nw wc, .int .i64 p.want, .slice ga p.ng gc, .slice da p.nd dc, .slice ua p.nu uc] 30 fun V1 b0 hb0 m1 bx0 => ?_
        have o_0 : w.heap.size ≤ b0 := by omega
        clear hb0
        refine sbp #[.int .i64 k, .int .i64 z, .int .i64 bit, .string body] 39 fun V2 b1 hb1 m2 bx1 => ?_
        have o0_1 := Xlo bx0 hb1; clear hb1
        refine sbp #[.int .i64 0, .slice none 0 0, .int .i64 0, .slice none 0 0, .slice none 0 0, .slice none 0 0] 30 fun V3 b2 hb2 m3 bx2 => ?_
        have o1_2 := Xlo bx1 hb2; clear hb2
        refine sv (.int .i64 0) ?_
        refine nt (hK _ _ ?_); clear hK K; refine sk fun K hK => rl ?_
        replace bx1 := Xbn bx1 m3; refine sg (.agg #[.int .i64 k, .int .i64 z, .int .i64 bit, .string body]) (h := by have z0 := cell_box 0 (bx1.out) rfl; have z1 := cell_box 1 (bx1.out) rfl; have z2 := cell_box 2 (bx1.out) rfl; have z3 := cell_box 3 (bx1.out) rfl; go_simp) ?_
        refine sw_call (by rfl) (by first | rfl | (go_simp; done)) (act_as lv true k z bit body V3 hlv hla) ?_
        rintro e V4 ⟨rfl, hbV4⟩
        have m4 : Mv (nob) V3 V4 := Mv.of_below hbV4
        refine ⟨_, rfl, ?_⟩
        refine pt ?_
        clear hbV4
        refine sv (.tuple #[lv, .bool true]) ?_
        refine sv (lv) ?_
        refine sv (.bool true) ?_
        refine sv (lv) ?_
        refine sv (.bool true) ?_
        refine nt (hK _ _ ?_); clear hK K; refine sk fun K hK => sk fun K hK => rl ?_
        refine sv (.bool true) ?_
        refine sg (.bool false) ?_
        refine nt (hK _ _ ?_); clear hK K; refine cf (wp_skip (then_normal (hK _ _ ?_))); clear hK K; refine sk fun K hK => rl ?_
        replace bx0 := Xbn (Xbn (Xbn bx0 m2) m3) m4; refine sl6 bx0 ?_
        refine sv (lv) ?_
        replace bx2 := Xbn bx2 m4; have szT := lt_of_block bx2.out
        replace HB := Xhn (Xhn (Xhn (Xhn HB m1) m2) m3) m4; have szW := HB.out.size
        have LTm : ∀ g, Lrb (.slice wa p.nw wc) (.slice ga p.ng gc) (.slice da p.nd dc) (.slice ua p.nu uc) g → g < w.heap.size := fun g h => LT.out g h
        replace LO := Xln (Xln (Xln (Xln LO m1) m2) m3) m4; refine sw_call (by rfl) (by first | rfl | (go_simp; done)) (hcon V4 LO.out (by omega)) ?_
        rintro e V5 ⟨wv, gv, dv, uv, rfl, mm, hq, hl2, hnw⟩
        have m5 : Mv (Lrb (.slice wa p.nw wc) (.slice ga p.ng gc) (.slice da p.nd dc) (.slice ua p.nu uc)) V4 V5 := mm
        refine ⟨_, rfl, ?_⟩
        refine pt ?_
        replace HB := hide (HB.out.step m5 (fun g _ h => h))
        replace bx0 := hide (m5.box bx0.out (fun h => by have := LTm _ h; omega))
        replace bx1 := Xbn bx1 m4; replace bx1 := hide (m5.box bx1.out (fun h => by have := LTm _ h; omega))
        replace bx2 := hide (m5.box bx2.out (fun h => by have := LTm _ h; omega))
        obtain ⟨xa, xc, rfl, _⟩ := hl2.wa.form
        obtain ⟨ya, yc, rfl, _⟩ := hl2.go.form
        obtain ⟨za, zc, rfl, _⟩ := hl2.dn.form
        obtain ⟨va, vc, rfl, _⟩ := hl2.up.form
        have NX : Nw V4.heap.size (.slice wa p.nw wc) (.slice ga p.ng gc) (.slice da p.nd dc) (.slice ua p.nu uc) (.slice xa q.nw xc) (.slice ya q.ng yc) (.slice za q.nd zc) (.slice va q.nu vc) := hnw
        have LN := hide (hl2)
        have AF : Hid (∀ g, Lrb (.slice xa q.nw xc) (.slice ya q.ng yc) (.slice za q.nd zc) (.slice va q.nu vc) g → g ≠ b0 ∧ g ≠ b1 ∧ g ≠ b2) := hide (fun g h => (NX g h).elim (fun h2 => by have := LT.out g h2; omega) (fun h2 => by omega))
        have AN : Hid (Nw w.heap.size (.slice wa p.nw wc) (.slice ga p.ng gc) (.slice da p.nd dc) (.slice ua p.nu uc) (.slice xa q.nw xc) (.slice ya q.ng yc) (.slice za q.nd zc) (.slice va q.nu vc)) := hide (fun g h => (NX g h).elim (fun h2 => .inl h2) (fun h2 => .inr (by omega)))
        clear NX szT szW
        replace LO := hide hq
        clear hq hl2 hnw mm LTm
        refine sv (.tuple #[.agg #[.int .i64 q.base, .slice xa q.nw xc, .int .i64 q.want, .slice ya q.ng yc, .slice za q.nd zc, .slice va q.nu vc], .int .i64 0]) ?_
        refine sv (.agg #[.int .i64 q.base, .slice xa q.nw xc, .int .i64 q.want, .slice ya q.ng yc, .slice za q.nd zc, .slice va q.nu vc]) ?_
        refine sv (.int .i64 0) ?_
        refine sbp #[.int .i64 0, .slice none 0 0, .int .i64 0, .slice none 0 0, .slice none 0 0, .slice none 0 0] 30 fun V6 b3 hb3 m6 bx3 => ?_
        have o2_3 := Xlo bx2 hb3
        replace AF : Hid (∀ g, Lrb (.slice xa q.nw xc) (.slice ya q.ng yc) (.slice za q.nd zc) (.slice va q.nu vc) g → g ≠ b0 ∧ g ≠ b1 ∧ g ≠ b2 ∧ g ≠ b3) := hide (fun g h => by have h1 := AF.out g h; have h2 := (LN.out.lt g h).2; refine (?_ : _ ∧ _); exact (by omega))
        clear hb3
        refine ss6 (.int .i64 q.base) (.slice xa q.nw xc) (.int .i64 q.want) (.slice ya q.ng yc) (.slice za q.nd zc) (.slice va q.nu vc) bx3 fun V7 m7 bx3 => ?_
        replace LN := Xln LN m6; replace LN := hide (LN.out.mv m7 (fun g hg h => by have h : g = b3 := h; have := AF.out g hg; omega))
        refine sv (.int .i64 0) ?_
        refine nt (hK _ _ ?_); clear hK K; refine sk fun K hK => sk fun K hK => rl ?_
        refine sv (.int .i64 0) ?_
        refine sg (.bool false) ?_
        refine nt (hK _ _ ?_); clear hK K; refine cf (wp_skip (then_normal (hK _ _ ?_))); clear hK K; refine sk fun K hK => sk fun K hK => rl ?_
        refine sl6 bx3 ?_
        refine sw_call (by rfl) (by first | rfl | (go_simp; done)) (ok_as true q xa ya za va xc yc zc vc base V7 hok LN.out hsm) ?_
        rintro e V8 ⟨rfl, hbV8⟩
        have m8 : Mv (nob) V7 V8 := Mv.of_below hbV8
        refine ⟨_, rfl, ?_⟩
        refine pt ?_
        clear hbV8
        refine sg (.bool false) ?_
        refine nt (hK _ _ ?_); clear hK K; refine cf (wp_skip (then_normal (hK _ _ ?_))); clear hK K; refine sk fun K hK => rl ?_
        replace bx3 := Xbn bx3 m8; refine sl6 bx3 ?_
        replace bx2 := Xbn (Xbb (Xbn bx2 m6) m7) m8; refine ss6 (.int .i64 q.base) (.slice xa q.nw xc) (.int .i64 q.want) (.slice ya q.ng yc) (.slice za q.nd zc) (.slice va q.nu vc) bx2 fun V9 m9 bx2 => ?_
        replace LN := Xln LN m8; replace LN := hide (LN.out.mv m9 (fun g hg h => by have h : g = b2 := h; have := AF.out g hg; omega))
        refine sv (.int .i64 0) ?_
        refine nt (hK _ _ ?_); clear hK K; refine wp_ret ?_
        try simp only [Exit.then, Exit.inBlock, ↓reduceIte, Nat.reduceEqDiff]
        obtain ⟨_, q2_0, q2_1, q2_2, q2_3, q2_4, q2_5⟩ := box6 bx2.out
        replace HB := Xhb (Xhn (Xhb (Xhn HB m6) m7) m8) m9; exact bodyPost_ret (v := .tuple #[.agg #[.int .i64 q.base, .slice xa q.nw xc, .int .i64 q.want, .slice ya q.ng yc, .slice za q.nd zc, .slice va q.nu vc], .int .i64 0]) (by simp [results, Try.results41, go_sem, q2_0, q2_1, q2_2, q2_3, q2_4, q2_5]) rfl ⟨_, _, _, _, by rw [HC, HL], HB.out, by rw [HL]; exact LN.out, AN.out⟩
    · have hcon := fun V hV hb => acted_bad p wa ga da ua wc gc dc uc base V hV hb k z bit body hk hf hC
      rw [hlv] at hcon
      have HC : ldC p k z bit body = actC p k z bit := by simp [ldC, hla, hC]
      have HL : ldL p k z bit body = p := by simp [ldL, HC, hC]
      have hcne : (actC p k z bit == 0) = false := by simpa using hC
      generalize actC p k z bit = c at hcon HC hcne hC
      have HB : Hid (Mv (Lrb (.slice wa p.nw wc) (.slice ga p.ng gc) (.slice da p.nd dc) (.slice ua p.nu uc)) w w) := hide (Mv.refl _ _)
      have LO := hide hr
      have LT := hide (fun g (h : Lrb (.slice wa p.nw wc) (.slice ga p.ng gc) (.slice da p.nd dc) (.slice ua p.nu uc) g) => (hr.lt g h).2)
      have hbs : base ≤ w.heap.size := hle
      clear hr hle
      go_enter Try.func41, Try.ntmps41
      refine sk fun K hK => rl ?_
      refine sbp #[.int .i64 p.base, .slice wa p.nw wc, .int .i64 p.want, .slice ga p.ng gc, .slice da p.nd dc, .slice ua p.nu uc] 30 fun V1 b0 hb0 m1 bx0 => ?_
      have o_0 : w.heap.size ≤ b0 := by omega
      clear hb0
      refine sbp #[.int .i64 k, .int .i64 z, .int .i64 bit, .string body] 39 fun V2 b1 hb1 m2 bx1 => ?_
      have o0_1 := Xlo bx0 hb1; clear hb1
      refine sbp #[.int .i64 0, .slice none 0 0, .int .i64 0, .slice none 0 0, .slice none 0 0, .slice none 0 0] 30 fun V3 b2 hb2 m3 bx2 => ?_
      have o1_2 := Xlo bx1 hb2; clear hb2
      refine sv (.int .i64 0) ?_
      refine nt (hK _ _ ?_); clear hK K; refine sk fun K hK => rl ?_
      replace bx1 := Xbn bx1 m3; refine sg (.agg #[.int .i64 k, .int .i64 z, .int .i64 bit, .string body]) (h := by have z0 := cell_box 0 (bx1.out) rfl; have z1 := cell_box 1 (bx1.out) rfl; have z2 := cell_box 2 (bx1.out) rfl; have z3 := cell_box 3 (bx1.out) rfl; go_simp) ?_
      refine sw_call (by rfl) (by first | rfl | (go_simp; done)) (act_as lv true k z bit body V3 hlv hla) ?_
      rintro e V4 ⟨rfl, hbV4⟩
      have m4 : Mv (nob) V3 V4 := Mv.of_below hbV4
      refine ⟨_, rfl, ?_⟩
      refine pt ?_
      clear hbV4
      refine sv (.tuple #[lv, .bool true]) ?_
      refine sv (lv) ?_
      refine sv (.bool true) ?_
      refine sv (lv) ?_
      refine sv (.bool true) ?_
      refine nt (hK _ _ ?_); clear hK K; refine sk fun K hK => sk fun K hK => rl ?_
      refine sv (.bool true) ?_
      refine sg (.bool false) ?_
      refine nt (hK _ _ ?_); clear hK K; refine cf (wp_skip (then_normal (hK _ _ ?_))); clear hK K; refine sk fun K hK => rl ?_
      replace bx0 := Xbn (Xbn (Xbn bx0 m2) m3) m4; refine sl6 bx0 ?_
      refine sv (lv) ?_
      replace bx2 := Xbn bx2 m4; have szT := lt_of_block bx2.out
      replace HB := Xhn (Xhn (Xhn (Xhn HB m1) m2) m3) m4; have szW := HB.out.size
      have LTm : ∀ g, Lrb (.slice wa p.nw wc) (.slice ga p.ng gc) (.slice da p.nd dc) (.slice ua p.nu uc) g → g < w.heap.size := fun g h => LT.out g h
      replace LO := Xln (Xln (Xln (Xln LO m1) m2) m3) m4; refine sw_call (by rfl) (by first | rfl | (go_simp; done)) (hcon V4 LO.out (by omega)) ?_
      rintro e V5 ⟨rfl, mm, hq⟩
      have m5 : Mv (Lrb (.slice wa p.nw wc) (.slice ga p.ng gc) (.slice da p.nd dc) (.slice ua p.nu uc)) V4 V5 := mm
      refine ⟨_, rfl, ?_⟩
      refine pt ?_
      replace HB := hide (HB.out.step m5 (fun g _ h => h))
      replace bx0 := hide (m5.box bx0.out (fun h => by have := LTm _ h; omega))
      replace bx1 := Xbn bx1 m4; replace bx1 := hide (m5.box bx1.out (fun h => by have := LTm _ h; omega))
      replace bx2 := hide (m5.box bx2.out (fun h => by have := LTm _ h; omega))
      replace LO := hide hq
      clear hq mm LTm szT szW
      refine sv (.tuple #[.agg #[.int .i64 p.base, .slice wa p.nw wc, .int .i64 p.want, .slice ga p.ng gc, .slice da p.nd dc, .slice ua p.nu uc], .int .i64 c]) ?_
      refine sv (.agg #[.int .i64 p.base, .slice wa p.nw wc, .int .i64 p.want, .slice ga p.ng gc, .slice da p.nd dc, .slice ua p.nu uc]) ?_
      refine sv (.int .i64 c) ?_
      refine sbp #[.int .i64 0, .slice none 0 0, .int .i64 0, .slice none 0 0, .slice none 0 0, .slice none 0 0] 30 fun V6 b3 hb3 m6 bx3 => ?_
      have o2_3 := Xlo bx2 hb3; clear hb3
      refine ss6 (.int .i64 p.base) (.slice wa p.nw wc) (.int .i64 p.want) (.slice ga p.ng gc) (.slice da p.nd dc) (.slice ua p.nu uc) bx3 fun V7 m7 bx3 => ?_
      refine sv (.int .i64 c) ?_
      refine nt (hK _ _ ?_); clear hK K; refine sk fun K hK => sk fun K hK => rl ?_
      refine sv (.int .i64 c) ?_
      refine sg (.bool true) (h := by have hc0 := hcne; go_simp) ?_
      refine nt (hK _ _ ?_); clear hK K; refine ct (sk fun K hK => rl ?_)
      replace bx0 := Xbb (Xbn bx0 m6) m7; refine sl6 bx0 ?_
      refine sv (.int .i64 c) ?_
      replace bx2 := Xbb (Xbn bx2 m6) m7; refine ss6 (.int .i64 p.base) (.slice wa p.nw wc) (.int .i64 p.want) (.slice ga p.ng gc) (.slice da p.nd dc) (.slice ua p.nu uc) bx2 fun V8 m8 bx2 => ?_
      refine sv (.int .i64 c) ?_
      refine nt (hK _ _ ?_); clear hK K; refine wp_ret (then_ret ?_)
      try simp only [Exit.then, Exit.inBlock, ↓reduceIte, Nat.reduceEqDiff]
      obtain ⟨_, q2_0, q2_1, q2_2, q2_3, q2_4, q2_5⟩ := box6 bx2.out
      replace HB := Xhb (Xhb (Xhn HB m6) m7) m8; replace LO := Xlb (Xlb (Xln LO m6) LT m7) LT m8; exact bodyPost_ret (v := .tuple #[.agg #[.int .i64 p.base, .slice wa p.nw wc, .int .i64 p.want, .slice ga p.ng gc, .slice da p.nd dc, .slice ua p.nu uc], .int .i64 c]) (by simp [results, Try.results41, go_sem, q2_0, q2_1, q2_2, q2_3, q2_4, q2_5]) rfl ⟨_, _, _, _, by rw [HC, HL], HB.out, by rw [HL]; exact LO.out, Nw.refl _ _ _ _ _⟩

end Go.Proofs.Ytnkocikbapbbmaa
