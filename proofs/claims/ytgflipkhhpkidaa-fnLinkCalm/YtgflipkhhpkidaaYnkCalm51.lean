/- LcA -/
import Derived.Test.YtgflipkhhpkidaaYnkCalm45
import Derived.Deep.LoopGhost
/- impl.allCome, impl.linkRound (written by mkLcA.py) -/
namespace Go.Proofs.Ytgflipkhhpkidaa
open Go.RowKit
set_option linter.unusedVariables false
set_option linter.unusedSimpArgs false

def mes (k c : Int) (q : Lk) : Nat := if c = 0 then cnt k q + 1 else 0
theorem mes_lt {k C : Int} {q L : Lk} (h : C = 0 → cnt k L + 1 = cnt k q) : mes k C L < mes k 0 q := by
  unfold mes
  rw [if_pos rfl]
  split
  · rename_i h0
    have := h h0
    omega
  · omega
theorem beq3 (c : Int) : (c == 3) = decide (c = 3) := by by_cases h : c = 3 <;> simp [h]
abbrev LbP (wv0 gv0 dv0 uv0 : Value) (base : Nat) (w : World) (A : Lk × Bool) : Ending → World → Prop := fun e w' => ∃ wv gv dv uv, e = .returned (.tuple #[.agg (l6 A.1.base wv A.1.want gv dv uv), .bool A.2]) ∧ Mv (Lrb wv0 gv0 dv0 uv0) w w' ∧ Lr w' base wv gv dv uv A.1 ∧ Nw w.heap.size wv0 gv0 dv0 uv0 wv gv dv uv

set_option maxHeartbeats 8000000 in
set_option maxRecDepth 20000 in
theorem allCome_sl (p : Lk) (x0a y0a z0a t0a : Option Addr) (x0c y0c z0c t0c : Nat) (base : Nat) (w : World) (hr : Lr w base (.slice x0a p.nw x0c) (.slice y0a p.ng y0c) (.slice z0a p.nd z0c) (.slice t0a p.nu t0c) p) (hle : base ≤ w.heap.size) (k : Int) (hk : k = 3 ∨ k = 4) (hf : Lf p) (AL : Lk × Bool) (hAL : alC k p = AL) :
    Calls Try.prog 49 #[.agg (l6 p.base (.slice x0a p.nw x0c) p.want (.slice y0a p.ng y0c) (.slice z0a p.nd z0c) (.slice t0a p.nu t0c)), .int .i64 k] w (LbP (.slice x0a p.nw x0c) (.slice y0a p.ng y0c) (.slice z0a p.nd z0c) (.slice t0a p.nu t0c) base w AL) := by
  have HB : Hid (Mv (Lrb (.slice x0a p.nw x0c) (.slice y0a p.ng y0c) (.slice z0a p.nd z0c) (.slice t0a p.nu t0c)) w w) := hide (Mv.refl _ _)
  have LN := hide hr
  have LT := hide (fun g (h : Lrb (.slice x0a p.nw x0c) (.slice y0a p.ng y0c) (.slice z0a p.nd z0c) (.slice t0a p.nu t0c) g) => (hr.lt g h).2)
  go_enter Try.func49, Try.ntmps49
  refine sk fun K hK => rl ?_
  refine sbp #[.int .i64 p.base, .slice x0a p.nw x0c, .int .i64 p.want, .slice y0a p.ng y0c, .slice z0a p.nd z0c, .slice t0a p.nu t0c] 27 fun V1 b0 hb0 m1 bx0 => ?_
  have o_0 : w.heap.size ≤ b0 := by omega
  replace LN := hide (LN.out.mv m1 (fun _ _ h => h))
  clear hb0
  refine sbp #[.int .i64 0, .slice none 0 0, .int .i64 0, .slice none 0 0, .slice none 0 0, .slice none 0 0] 27 fun V2 b1 hb1 m2 bx1 => ?_
  have o0_1 := Xlo bx0 hb1
  replace LN := hide (LN.out.mv m2 (fun _ _ h => h))
  clear hb1
  refine sv (.bool false) ?_
  refine nt (hK _ _ ?_); clear hK K; refine sk fun K hK => rl ?_
  refine sv (.int .i64 0) ?_
  refine nt (hK _ _ ?_); clear hK K; refine sk fun K hK => wp_block ?_
  have AF : Hid (∀ g, Lrb (.slice x0a p.nw x0c) (.slice y0a p.ng y0c) (.slice z0a p.nd z0c) (.slice t0a p.nu t0c) g → g ≠ b0 ∧ g ≠ b1) := hide (fun g h => by have := LT.out g h; omega)
  have AN : Hid (Nw w.heap.size (.slice x0a p.nw x0c) (.slice y0a p.ng y0c) (.slice z0a p.nd z0c) (.slice t0a p.nu t0c) (.slice x0a p.nw x0c) (.slice y0a p.ng y0c) (.slice z0a p.nd z0c) (.slice t0a p.nu t0c)) := hide (Nw.refl _ _ _ _ _)
  have QF : Hid (Lf p ∧ ((0 : Int) = 0 → alC k p = AL) ∧ (¬ (0 : Int) = 0 → (p, (0 : Int) == 3) = AL)) := hide ⟨hf, fun _ => hAL, fun h => absurd rfl h⟩
  clear hAL
  replace HB := Xhn (Xhn HB m1) m2; replace bx0 := Xbn bx0 m2; refine wp_loop_ghost (fun m a' w' => ∃ (q : Lk) (c : Int) (xa : Option Addr) (xc : Nat) (ya : Option Addr) (yc : Nat) (za : Option Addr) (zc : Nat) (ta : Option Addr) (tc : Nat) (u7 : Value) (u8 : Value) (u9 : Value) (u10 : Value) (u11 : Value) (u12 : Value) (u13 : Value) (u14 : Value) (u15 : Value), m = mes k c q ∧ a' = ⟨#[.agg #[.int .i64 p.base, .slice x0a p.nw x0c, .int .i64 p.want, .slice y0a p.ng y0c, .slice z0a p.nd z0c, .slice t0a p.nu t0c], .int .i64 k, .pointer (some ⟨b0, 0, none⟩), undef, .pointer (some ⟨b1, 0, none⟩), .bool false, .int .i64 c, u7, u8, u9, u10, u11, u12, u13, u14, u15, undef, undef, undef], []⟩ ∧ (Mv (Lrb (.slice x0a p.nw x0c) (.slice y0a p.ng y0c) (.slice z0a p.nd z0c) (.slice t0a p.nu t0c)) w w') ∧ (Lr w' base (.slice xa q.nw xc) (.slice ya q.ng yc) (.slice za q.nd zc) (.slice ta q.nu tc) q) ∧ (∀ g, Lrb (.slice xa q.nw xc) (.slice ya q.ng yc) (.slice za q.nd zc) (.slice ta q.nu tc) g → g ≠ b0 ∧ g ≠ b1) ∧ (Nw w.heap.size (.slice x0a p.nw x0c) (.slice y0a p.ng y0c) (.slice z0a p.nd z0c) (.slice t0a p.nu t0c) (.slice xa q.nw xc) (.slice ya q.ng yc) (.slice za q.nd zc) (.slice ta q.nu tc)) ∧ (Lf q ∧ (c = 0 → alC k q = AL) ∧ (¬ c = 0 → (q, c == 3) = AL)) ∧ (w'.heap[b0]? = some (.cells #[.int .i64 q.base, .slice xa q.nw xc, .int .i64 q.want, .slice ya q.ng yc, .slice za q.nd zc, .slice ta q.nu tc] 27 (0, 0))) ∧ (w'.heap[b1]? = some (.cells #[.int .i64 0, .slice none 0 0, .int .i64 0, .slice none 0 0, .slice none 0 0, .slice none 0 0] 27 (0, 0)))) (mes k 0 p) ⟨p, 0, x0a, x0c, y0a, y0c, z0a, z0c, t0a, t0c, _, _, _, _, _, _, _, _, _, rfl, rfl, (HB.out), (LN.out), (AF.out), (AN.out), (QF.out), (bx0.out), (bx1.out)⟩ (fun m a' VL1 hI => ?_)
  obtain ⟨q, c, xa, xc, ya, yc, za, zc, ta, tc, u7, u8, u9, u10, u11, u12, u13, u14, u15, rfl, rfl, i_HB, i_LN, i_AF, i_AN, i_QF, i_bx0, i_bx1⟩ := hI
  clear HB LN bx0 bx1
  have HB := hide i_HB
  clear i_HB
  have LN := hide i_LN
  clear i_LN
  have AF := hide i_AF
  clear i_AF
  have AN := hide i_AN
  clear i_AN
  have QF := hide i_QF
  clear i_QF
  have bx0 := hide i_bx0
  clear i_bx0
  have bx1 := hide i_bx1
  clear i_bx1
  have hle2 := LN.out
  clear hle2
  refine sk fun K hK => sk fun K hK => rl ?_
  by_cases hc : ¬ c = 0
  · refine sv (.int .i64 c) ?_
    refine sg (.bool false) (h := by have h0 := hc; go_simp) ?_
    refine nt (hK _ _ ?_); clear hK K; refine cf ?_; refine wp_exit ?_; refine then_exit ?_; refine then_exit ?_; refine inb_here rfl ?_; refine then_normal ?_; clear hK K; refine hK _ _ ?_; clear hK K; refine sk fun K hK => rl ?_
    refine sl6 bx0 ?_
    refine sv (.int .i64 c) ?_
    refine sg (.bool (c == 3)) ?_
    refine ss6 (.int .i64 q.base) (.slice xa q.nw xc) (.int .i64 q.want) (.slice ya q.ng yc) (.slice za q.nd zc) (.slice ta q.nu tc) bx1 fun V3 m3 bx1 => ?_
    replace LN := hide (LN.out.mv m3 (fun g hg h => by have h : g = b1 := h; have := AF.out g hg; omega))
    refine sv (.bool (c == 3)) ?_
    refine nt (hK _ _ ?_); clear hK K; refine wp_ret ?_
    have hA := QF.out.2.2 hc
    subst hA
    try simp only [Exit.then, Exit.inBlock, ↓reduceIte, Nat.reduceEqDiff]
    obtain ⟨_, q1_0, q1_1, q1_2, q1_3, q1_4, q1_5⟩ := box6 bx1.out
    replace HB := Xhb HB m3; exact bodyPost_ret (v := .tuple #[.agg #[.int .i64 q.base, .slice xa q.nw xc, .int .i64 q.want, .slice ya q.ng yc, .slice za q.nd zc, .slice ta q.nu tc], .bool (c == 3)]) (by simp [results, Try.results49, go_sem, q1_0, q1_1, q1_2, q1_3, q1_4, q1_5]) rfl ⟨_, _, _, _, rfl, HB.out, LN.out, AN.out⟩
  have hc0 : c = 0 := by omega
  subst hc0
  clear hc
  refine sv (.int .i64 0) ?_
  refine sg (.bool true) ?_
  refine nt (hK _ _ ?_); clear hK K; refine ct (wp_skip (then_normal (hK _ _ ?_))); clear hK K; refine wp_block (rl ?_)
  have hcall := fun V h hle => linkDone_any q xa ya za ta xc yc zc tc base V h hle k 0 0 e0 QF.out.1
  have st := @al_step q k hk
  have sp_ := @al_stop q k hk
  have cs := @cnt_step q k hk
  have lf := ld_lf QF.out.1 k 0 0 e0
  have no := @ldL_no q k 0 0 e0
  generalize ldL q k 0 0 e0 = L at hcall st cs lf no
  generalize ldC q k 0 0 e0 = C at hcall st sp_ cs no
  have HS := hide (And.intro st (And.intro sp_ (And.intro cs (And.intro lf no))))
  clear st sp_ cs lf no
  refine sl6 bx0 ?_
  refine sv (.int .i64 k) ?_
  refine sv (.agg #[.int .i64 k, .int .i64 0, .int .i64 0, .string ⟨#[]⟩]) ?_
  have szT := lt_of_block bx1.out
  have szW := HB.out.size
  refine sw_call (by rfl) (by first | rfl | (go_simp; done)) (hcall VL1 LN.out (by omega)) ?_
  rintro e V4 ⟨wv, gv, dv, uv, rfl, mm, LQ, hnw⟩
  have m4 : Mv (Lrb (.slice xa q.nw xc) (.slice ya q.ng yc) (.slice za q.nd zc) (.slice ta q.nu tc)) VL1 V4 := mm
  refine ⟨_, rfl, ?_⟩
  refine pt ?_
  replace HB := hide (HB.out.step m4 (fun g hlt h => (AN.out g h).elim (fun h => h) (fun h2 => absurd h2 (by omega))))
  replace bx0 := hide (m4.box bx0.out (fun h => by have := AF.out _ h; omega))
  replace bx1 := hide (m4.box bx1.out (fun h => by have := AF.out _ h; omega))
  obtain ⟨x2a, x2c, rfl, _⟩ := LQ.wa.form
  obtain ⟨y2a, y2c, rfl, _⟩ := LQ.go.form
  obtain ⟨z2a, z2c, rfl, _⟩ := LQ.dn.form
  obtain ⟨t2a, t2c, rfl, _⟩ := LQ.up.form
  replace LN := hide LQ
  replace AF : Hid (∀ g, Lrb (.slice x2a L.nw x2c) (.slice y2a L.ng y2c) (.slice z2a L.nd z2c) (.slice t2a L.nu t2c) g → g ≠ b0 ∧ g ≠ b1) := hide (fun g h => (hnw g h).elim (fun h2 => AF.out g h2) (fun h2 => by omega))
  replace AN : Hid (Nw w.heap.size (.slice x0a p.nw x0c) (.slice y0a p.ng y0c) (.slice z0a p.nd z0c) (.slice t0a p.nu t0c) (.slice x2a L.nw x2c) (.slice y2a L.ng y2c) (.slice z2a L.nd z2c) (.slice t2a L.nu t2c)) := hide (fun g h => (hnw g h).elim (fun h2 => AN.out g h2) (fun h2 => .inr (by omega)))
  clear LQ mm hnw hcall szT szW
  refine sv (.tuple #[.agg #[.int .i64 L.base, .slice x2a L.nw x2c, .int .i64 L.want, .slice y2a L.ng y2c, .slice z2a L.nd z2c, .slice t2a L.nu t2c], .int .i64 C]) ?_
  refine sv (.agg #[.int .i64 L.base, .slice x2a L.nw x2c, .int .i64 L.want, .slice y2a L.ng y2c, .slice z2a L.nd z2c, .slice t2a L.nu t2c]) ?_
  refine sv (.int .i64 C) ?_
  refine ss6 (.int .i64 L.base) (.slice x2a L.nw x2c) (.int .i64 L.want) (.slice y2a L.ng y2c) (.slice z2a L.nd z2c) (.slice t2a L.nu t2c) bx0 fun V5 m5 bx0 => ?_
  replace LN := hide (LN.out.mv m5 (fun g hg h => by have h : g = b0 := h; have := AF.out g hg; omega))
  refine sv (.int .i64 C) ?_
  refine wpList_nil (inb_norm (then_normal ?_))
  replace HB := Xhb HB m5; replace bx1 := Xbb bx1 m5; exact ⟨mes k C L, mes_lt HS.out.2.2.1, L, C, x2a, x2c, y2a, y2c, z2a, z2c, t2a, t2c, _, _, _, _, _, _, _, _, _, rfl, rfl, (HB.out), (LN.out), (AF.out), (AN.out), (⟨HS.out.2.2.2.1, fun h => (HS.out.1 h).trans (QF.out.2.1 rfl), fun h => by rw [HS.out.2.2.2.2 h, beq3, ← QF.out.2.1 rfl, HS.out.2.1 h]⟩), (bx0.out), (bx1.out)⟩

set_option maxHeartbeats 8000000 in
set_option maxRecDepth 20000 in
theorem linkRound_sl (p : Lk) (x0a y0a z0a t0a : Option Addr) (x0c y0c z0c t0c : Nat) (base : Nat) (w : World) (hr : Lr w base (.slice x0a p.nw x0c) (.slice y0a p.ng y0c) (.slice z0a p.nd z0c) (.slice t0a p.nu t0c) p) (hle : base ≤ w.heap.size) (hf : Lf p) (RD : Lk × Bool) (hRD : rnd p = RD) :
    Calls Try.prog 36 #[.agg (l6 p.base (.slice x0a p.nw x0c) p.want (.slice y0a p.ng y0c) (.slice z0a p.nd z0c) (.slice t0a p.nu t0c))] w (LbP (.slice x0a p.nw x0c) (.slice y0a p.ng y0c) (.slice z0a p.nd z0c) (.slice t0a p.nu t0c) base w RD) := by
  have hsend := fun V h hle => linkDone_any p x0a y0a z0a t0a x0c y0c z0c t0c base V h hle 2 0 0 e0 hf
  have f1 := ld_lf hf 2 0 0 e0
  unfold rnd at hRD
  generalize ldL p 2 0 0 e0 = L1 at hsend f1 hRD
  generalize ldC p 2 0 0 e0 = C1 at hsend hRD
  have f2 := al_lf 3 f1
  obtain ⟨L2, b2_, h2⟩ : ∃ L b, alC 3 L1 = (L, b) := ⟨_, _, rfl⟩
  rw [h2] at hRD f2
  obtain ⟨L3, b3_, h3⟩ : ∃ L b, alC 4 L2 = (L, b) := ⟨_, _, rfl⟩
  simp only at f2 hRD
  rw [h3] at hRD
  simp only at hRD
  have HB : Hid (Mv (Lrb (.slice x0a p.nw x0c) (.slice y0a p.ng y0c) (.slice z0a p.nd z0c) (.slice t0a p.nu t0c)) w w) := hide (Mv.refl _ _)
  have LN := hide hr
  have LT := hide (fun g (h : Lrb (.slice x0a p.nw x0c) (.slice y0a p.ng y0c) (.slice z0a p.nd z0c) (.slice t0a p.nu t0c) g) => (hr.lt g h).2)
  go_enter Try.func36, Try.ntmps36
  refine sk fun K hK => rl ?_
  refine sbp #[.int .i64 p.base, .slice x0a p.nw x0c, .int .i64 p.want, .slice y0a p.ng y0c, .slice z0a p.nd z0c, .slice t0a p.nu t0c] 27 fun V1 b0 hb0 m1 bx0 => ?_
  have o_0 : w.heap.size ≤ b0 := by omega
  replace LN := hide (LN.out.mv m1 (fun _ _ h => h))
  clear hb0
  refine sbp #[.int .i64 0, .slice none 0 0, .int .i64 0, .slice none 0 0, .slice none 0 0, .slice none 0 0] 27 fun V2 b1 hb1 m2 bx1 => ?_
  have o0_1 := Xlo bx0 hb1
  replace LN := hide (LN.out.mv m2 (fun _ _ h => h))
  clear hb1
  refine sv (.bool false) ?_
  refine nt (hK _ _ ?_); clear hK K; refine sk fun K hK => rl ?_
  have AF : Hid (∀ g, Lrb (.slice x0a p.nw x0c) (.slice y0a p.ng y0c) (.slice z0a p.nd z0c) (.slice t0a p.nu t0c) g → g ≠ b0 ∧ g ≠ b1) := hide (fun g h => by have := LT.out g h; omega)
  have AN : Hid (Nw w.heap.size (.slice x0a p.nw x0c) (.slice y0a p.ng y0c) (.slice z0a p.nd z0c) (.slice t0a p.nu t0c) (.slice x0a p.nw x0c) (.slice y0a p.ng y0c) (.slice z0a p.nd z0c) (.slice t0a p.nu t0c)) := hide (Nw.refl _ _ _ _ _)
  replace bx0 := Xbn bx0 m2; refine sl6 bx0 ?_
  refine sv (.agg #[.int .i64 2, .int .i64 0, .int .i64 0, .string ⟨#[]⟩]) ?_
  have szT := lt_of_block bx1.out
  replace HB := Xhn (Xhn HB m1) m2; have szW := HB.out.size
  refine sw_call (by rfl) (by first | rfl | (go_simp; done)) (hsend V2 LN.out (by omega)) ?_
  rintro e V3 ⟨wv, gv, dv, uv, rfl, mm, LQ, hnw⟩
  have m3 : Mv (Lrb (.slice x0a p.nw x0c) (.slice y0a p.ng y0c) (.slice z0a p.nd z0c) (.slice t0a p.nu t0c)) V2 V3 := mm
  refine ⟨_, rfl, ?_⟩
  refine pt ?_
  replace HB := hide (HB.out.step m3 (fun g hlt h => (AN.out g h).elim (fun h => h) (fun h2 => absurd h2 (by omega))))
  replace bx0 := hide (m3.box bx0.out (fun h => by have := AF.out _ h; omega))
  replace bx1 := hide (m3.box bx1.out (fun h => by have := AF.out _ h; omega))
  obtain ⟨x1a, x1c, rfl, _⟩ := LQ.wa.form
  obtain ⟨y1a, y1c, rfl, _⟩ := LQ.go.form
  obtain ⟨z1a, z1c, rfl, _⟩ := LQ.dn.form
  obtain ⟨t1a, t1c, rfl, _⟩ := LQ.up.form
  replace LN := hide LQ
  replace AF : Hid (∀ g, Lrb (.slice x1a L1.nw x1c) (.slice y1a L1.ng y1c) (.slice z1a L1.nd z1c) (.slice t1a L1.nu t1c) g → g ≠ b0 ∧ g ≠ b1) := hide (fun g h => (hnw g h).elim (fun h2 => AF.out g h2) (fun h2 => by omega))
  replace AN : Hid (Nw w.heap.size (.slice x0a p.nw x0c) (.slice y0a p.ng y0c) (.slice z0a p.nd z0c) (.slice t0a p.nu t0c) (.slice x1a L1.nw x1c) (.slice y1a L1.ng y1c) (.slice z1a L1.nd z1c) (.slice t1a L1.nu t1c)) := hide (fun g h => (hnw g h).elim (fun h2 => AN.out g h2) (fun h2 => .inr (by omega)))
  clear LQ mm hnw szT szW
  refine sv (.tuple #[.agg #[.int .i64 L1.base, .slice x1a L1.nw x1c, .int .i64 L1.want, .slice y1a L1.ng y1c, .slice z1a L1.nd z1c, .slice t1a L1.nu t1c], .int .i64 C1]) ?_
  refine sv (.agg #[.int .i64 L1.base, .slice x1a L1.nw x1c, .int .i64 L1.want, .slice y1a L1.ng y1c, .slice z1a L1.nd z1c, .slice t1a L1.nu t1c]) ?_
  refine sv (.int .i64 C1) ?_
  refine ss6 (.int .i64 L1.base) (.slice x1a L1.nw x1c) (.int .i64 L1.want) (.slice y1a L1.ng y1c) (.slice z1a L1.nd z1c) (.slice t1a L1.nu t1c) bx0 fun V4 m4 bx0 => ?_
  replace LN := hide (LN.out.mv m4 (fun g hg h => by have h : g = b0 := h; have := AF.out g hg; omega))
  refine sv (.int .i64 C1) ?_
  refine nt (hK _ _ ?_); clear hK K; refine sk fun K hK => rl ?_
  refine sl6 bx0 ?_
  replace bx1 := Xbb bx1 m4; have szT := lt_of_block bx1.out
  replace HB := Xhb HB m4; have szW := HB.out.size
  refine sw_call (by rfl) (by first | rfl | (go_simp; done)) (allCome_sl L1 x1a y1a z1a t1a x1c y1c z1c t1c base V4 LN.out (by omega) 3 (.inl rfl) f1 (L2, b2_) h2) ?_
  rintro e V5 ⟨wv, gv, dv, uv, rfl, mm, LQ, hnw⟩
  have m5 : Mv (Lrb (.slice x1a L1.nw x1c) (.slice y1a L1.ng y1c) (.slice z1a L1.nd z1c) (.slice t1a L1.nu t1c)) V4 V5 := mm
  refine ⟨_, rfl, ?_⟩
  refine pt ?_
  replace HB := hide (HB.out.step m5 (fun g hlt h => (AN.out g h).elim (fun h => h) (fun h2 => absurd h2 (by omega))))
  replace bx0 := hide (m5.box bx0.out (fun h => by have := AF.out _ h; omega))
  replace bx1 := hide (m5.box bx1.out (fun h => by have := AF.out _ h; omega))
  obtain ⟨x2a, x2c, rfl, _⟩ := LQ.wa.form
  obtain ⟨y2a, y2c, rfl, _⟩ := LQ.go.form
  obtain ⟨z2a, z2c, rfl, _⟩ := LQ.dn.form
  obtain ⟨t2a, t2c, rfl, _⟩ := LQ.up.form
  replace LN := hide LQ
  replace AF : Hid (∀ g, Lrb (.slice x2a L2.nw x2c) (.slice y2a L2.ng y2c) (.slice z2a L2.nd z2c) (.slice t2a L2.nu t2c) g → g ≠ b0 ∧ g ≠ b1) := hide (fun g h => (hnw g h).elim (fun h2 => AF.out g h2) (fun h2 => by omega))
  replace AN : Hid (Nw w.heap.size (.slice x0a p.nw x0c) (.slice y0a p.ng y0c) (.slice z0a p.nd z0c) (.slice t0a p.nu t0c) (.slice x2a L2.nw x2c) (.slice y2a L2.ng y2c) (.slice z2a L2.nd z2c) (.slice t2a L2.nu t2c)) := hide (fun g h => (hnw g h).elim (fun h2 => AN.out g h2) (fun h2 => .inr (by omega)))
  clear LQ mm hnw szT szW
  refine sv (.tuple #[.agg #[.int .i64 L2.base, .slice x2a L2.nw x2c, .int .i64 L2.want, .slice y2a L2.ng y2c, .slice z2a L2.nd z2c, .slice t2a L2.nu t2c], .bool b2_]) ?_
  refine sv (.agg #[.int .i64 L2.base, .slice x2a L2.nw x2c, .int .i64 L2.want, .slice y2a L2.ng y2c, .slice z2a L2.nd z2c, .slice t2a L2.nu t2c]) ?_
  refine sv (.bool b2_) ?_
  refine ss6 (.int .i64 L2.base) (.slice x2a L2.nw x2c) (.int .i64 L2.want) (.slice y2a L2.ng y2c) (.slice z2a L2.nd z2c) (.slice t2a L2.nu t2c) bx0 fun V6 m6 bx0 => ?_
  replace LN := hide (LN.out.mv m6 (fun g hg h => by have h : g = b0 := h; have := AF.out g hg; omega))
  refine sv (.bool b2_) ?_
  refine nt (hK _ _ ?_); clear hK K; refine sk fun K hK => rl ?_
  refine sl6 bx0 ?_
  replace bx1 := Xbb bx1 m6; have szT := lt_of_block bx1.out
  replace HB := Xhb HB m6; have szW := HB.out.size
  refine sw_call (by rfl) (by first | rfl | (go_simp; done)) (allCome_sl L2 x2a y2a z2a t2a x2c y2c z2c t2c base V6 LN.out (by omega) 4 (.inr rfl) f2 (L3, b3_) h3) ?_
  rintro e V7 ⟨wv, gv, dv, uv, rfl, mm, LQ, hnw⟩
  have m7 : Mv (Lrb (.slice x2a L2.nw x2c) (.slice y2a L2.ng y2c) (.slice z2a L2.nd z2c) (.slice t2a L2.nu t2c)) V6 V7 := mm
  refine ⟨_, rfl, ?_⟩
  refine pt ?_
  replace HB := hide (HB.out.step m7 (fun g hlt h => (AN.out g h).elim (fun h => h) (fun h2 => absurd h2 (by omega))))
  replace bx0 := hide (m7.box bx0.out (fun h => by have := AF.out _ h; omega))
  replace bx1 := hide (m7.box bx1.out (fun h => by have := AF.out _ h; omega))
  obtain ⟨x3a, x3c, rfl, _⟩ := LQ.wa.form
  obtain ⟨y3a, y3c, rfl, _⟩ := LQ.go.form
  obtain ⟨z3a, z3c, rfl, _⟩ := LQ.dn.form
  obtain ⟨t3a, t3c, rfl, _⟩ := LQ.up.form
  replace LN := hide LQ
  replace AF : Hid (∀ g, Lrb (.slice x3a L3.nw x3c) (.slice y3a L3.ng y3c) (.slice z3a L3.nd z3c) (.slice t3a L3.nu t3c) g → g ≠ b0 ∧ g ≠ b1) := hide (fun g h => (hnw g h).elim (fun h2 => AF.out g h2) (fun h2 => by omega))
  replace AN : Hid (Nw w.heap.size (.slice x0a p.nw x0c) (.slice y0a p.ng y0c) (.slice z0a p.nd z0c) (.slice t0a p.nu t0c) (.slice x3a L3.nw x3c) (.slice y3a L3.ng y3c) (.slice z3a L3.nd z3c) (.slice t3a L3.nu t3c)) := hide (fun g h => (hnw g h).elim (fun h2 => AN.out g h2) (fun h2 => .inr (by omega)))
  clear LQ mm hnw szT szW
  refine sv (.tuple #[.agg #[.int .i64 L3.base, .slice x3a L3.nw x3c, .int .i64 L3.want, .slice y3a L3.ng y3c, .slice z3a L3.nd z3c, .slice t3a L3.nu t3c], .bool b3_]) ?_
  refine sv (.agg #[.int .i64 L3.base, .slice x3a L3.nw x3c, .int .i64 L3.want, .slice y3a L3.ng y3c, .slice z3a L3.nd z3c, .slice t3a L3.nu t3c]) ?_
  refine sv (.bool b3_) ?_
  refine ss6 (.int .i64 L3.base) (.slice x3a L3.nw x3c) (.int .i64 L3.want) (.slice y3a L3.ng y3c) (.slice z3a L3.nd z3c) (.slice t3a L3.nu t3c) bx0 fun V8 m8 bx0 => ?_
  replace LN := hide (LN.out.mv m8 (fun g hg h => by have h : g = b0 := h; have := AF.out g hg; omega))
  refine sv (.bool b3_) ?_
  refine nt (hK _ _ ?_); clear hK K; refine sk fun K hK => rl ?_
  by_cases hC1 : ¬ C1 = 0
  · refine sl6 bx0 ?_
    refine sv (.int .i64 C1) ?_
    refine sg (.bool false) (h := by have h0 := hC1; go_simp) ?_
    refine sv (.bool false) ?_
    with_reducible refine sp ?_
    refine sg (.bool false) ?_
    refine sv (.bool false) ?_
    with_reducible refine sp ?_
    refine sg (.bool false) ?_
    replace bx1 := Xbb bx1 m8; refine ss6 (.int .i64 L3.base) (.slice x3a L3.nw x3c) (.int .i64 L3.want) (.slice y3a L3.ng y3c) (.slice z3a L3.nd z3c) (.slice t3a L3.nu t3c) bx1 fun V9 m9 bx1 => ?_
    replace LN := hide (LN.out.mv m9 (fun g hg h => by have h : g = b1 := h; have := AF.out g hg; omega))
    refine sv (.bool false) ?_
    refine nt (hK _ _ ?_); clear hK K; refine wp_ret ?_
    replace hRD : (L3, false) = RD := by rw [← hRD]; simp [hC1]
    subst hRD
    try simp only [Exit.then, Exit.inBlock, ↓reduceIte, Nat.reduceEqDiff]
    obtain ⟨_, q1_0, q1_1, q1_2, q1_3, q1_4, q1_5⟩ := box6 bx1.out
    replace HB := Xhb (Xhb HB m8) m9; exact bodyPost_ret (v := .tuple #[.agg #[.int .i64 L3.base, .slice x3a L3.nw x3c, .int .i64 L3.want, .slice y3a L3.ng y3c, .slice z3a L3.nd z3c, .slice t3a L3.nu t3c], .bool false]) (by simp [results, Try.results36, go_sem, q1_0, q1_1, q1_2, q1_3, q1_4, q1_5]) rfl ⟨_, _, _, _, rfl, HB.out, LN.out, AN.out⟩
  have hC0 : C1 = 0 := by omega
  subst hC0
  clear hC1
  by_cases h_b2_ : b2_ = false
  · subst h_b2_
    refine sl6 bx0 ?_
    refine sv (.int .i64 0) ?_
    refine sg (.bool true) ?_
    refine sv (.bool true) ?_
    refine sv (.bool false) ?_
    refine sg (.bool false) ?_
    refine sv (.bool false) ?_
    with_reducible refine sp ?_
    refine sg (.bool false) ?_
    replace bx1 := Xbb bx1 m8; refine ss6 (.int .i64 L3.base) (.slice x3a L3.nw x3c) (.int .i64 L3.want) (.slice y3a L3.ng y3c) (.slice z3a L3.nd z3c) (.slice t3a L3.nu t3c) bx1 fun V10 m10 bx1 => ?_
    replace LN := hide (LN.out.mv m10 (fun g hg h => by have h : g = b1 := h; have := AF.out g hg; omega))
    refine sv (.bool false) ?_
    refine nt (hK _ _ ?_); clear hK K; refine wp_ret ?_
    replace hRD : (L3, false) = RD := by rw [← hRD]; simp
    subst hRD
    try simp only [Exit.then, Exit.inBlock, ↓reduceIte, Nat.reduceEqDiff]
    obtain ⟨_, q1_0, q1_1, q1_2, q1_3, q1_4, q1_5⟩ := box6 bx1.out
    replace HB := Xhb (Xhb HB m8) m10; exact bodyPost_ret (v := .tuple #[.agg #[.int .i64 L3.base, .slice x3a L3.nw x3c, .int .i64 L3.want, .slice y3a L3.ng y3c, .slice z3a L3.nd z3c, .slice t3a L3.nu t3c], .bool false]) (by simp [results, Try.results36, go_sem, q1_0, q1_1, q1_2, q1_3, q1_4, q1_5]) rfl ⟨_, _, _, _, rfl, HB.out, LN.out, AN.out⟩
  replace h_b2_ : b2_ = true := by simpa using h_b2_
  subst h_b2_
  by_cases h_b3_ : b3_ = false
  · subst h_b3_
    refine sl6 bx0 ?_
    refine sv (.int .i64 0) ?_
    refine sg (.bool true) ?_
    refine sv (.bool true) ?_
    refine sv (.bool true) ?_
    refine sg (.bool true) ?_
    refine sv (.bool true) ?_
    refine sv (.bool false) ?_
    refine sg (.bool false) ?_
    replace bx1 := Xbb bx1 m8; refine ss6 (.int .i64 L3.base) (.slice x3a L3.nw x3c) (.int .i64 L3.want) (.slice y3a L3.ng y3c) (.slice z3a L3.nd z3c) (.slice t3a L3.nu t3c) bx1 fun V11 m11 bx1 => ?_
    replace LN := hide (LN.out.mv m11 (fun g hg h => by have h : g = b1 := h; have := AF.out g hg; omega))
    refine sv (.bool false) ?_
    refine nt (hK _ _ ?_); clear hK K; refine wp_ret ?_
    replace hRD : (L3, false) = RD := by rw [← hRD]; simp
    subst hRD
    try simp only [Exit.then, Exit.inBlock, ↓reduceIte, Nat.reduceEqDiff]
    obtain ⟨_, q1_0, q1_1, q1_2, q1_3, q1_4, q1_5⟩ := box6 bx1.out
    replace HB := Xhb (Xhb HB m8) m11; exact bodyPost_ret (v := .tuple #[.agg #[.int .i64 L3.base, .slice x3a L3.nw x3c, .int .i64 L3.want, .slice y3a L3.ng y3c, .slice z3a L3.nd z3c, .slice t3a L3.nu t3c], .bool false]) (by simp [results, Try.results36, go_sem, q1_0, q1_1, q1_2, q1_3, q1_4, q1_5]) rfl ⟨_, _, _, _, rfl, HB.out, LN.out, AN.out⟩
  replace h_b3_ : b3_ = true := by simpa using h_b3_
  subst h_b3_
  refine sl6 bx0 ?_
  refine sv (.int .i64 0) ?_
  refine sg (.bool true) ?_
  refine sv (.bool true) ?_
  refine sv (.bool true) ?_
  refine sg (.bool true) ?_
  refine sv (.bool true) ?_
  refine sv (.bool true) ?_
  refine sg (.bool true) ?_
  replace bx1 := Xbb bx1 m8; refine ss6 (.int .i64 L3.base) (.slice x3a L3.nw x3c) (.int .i64 L3.want) (.slice y3a L3.ng y3c) (.slice z3a L3.nd z3c) (.slice t3a L3.nu t3c) bx1 fun V12 m12 bx1 => ?_
  replace LN := hide (LN.out.mv m12 (fun g hg h => by have h : g = b1 := h; have := AF.out g hg; omega))
  refine sv (.bool true) ?_
  refine nt (hK _ _ ?_); clear hK K; refine wp_ret ?_
  replace hRD : (L3, true) = RD := by rw [← hRD]; simp
  subst hRD
  try simp only [Exit.then, Exit.inBlock, ↓reduceIte, Nat.reduceEqDiff]
  obtain ⟨_, q1_0, q1_1, q1_2, q1_3, q1_4, q1_5⟩ := box6 bx1.out
  replace HB := Xhb (Xhb HB m8) m12; exact bodyPost_ret (v := .tuple #[.agg #[.int .i64 L3.base, .slice x3a L3.nw x3c, .int .i64 L3.want, .slice y3a L3.ng y3c, .slice z3a L3.nd z3c, .slice t3a L3.nu t3c], .bool true]) (by simp [results, Try.results36, go_sem, q1_0, q1_1, q1_2, q1_3, q1_4, q1_5]) rfl ⟨_, _, _, _, rfl, HB.out, LN.out, AN.out⟩

end Go.Proofs.Ytgflipkhhpkidaa
