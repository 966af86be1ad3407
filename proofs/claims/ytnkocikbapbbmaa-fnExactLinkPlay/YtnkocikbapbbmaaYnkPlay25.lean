/- LdQ -/
import Derived.Test.YtnkocikbapbbmaaYnkPlay23
import Derived.Test.YtnkocikbapbbmaaYnkPlay24
/- impl.acted (written by mkLdQ.py) -/
namespace Go.Proofs.Ytnkocikbapbbmaa
open Go.RowKit
set_option linter.unusedVariables false
set_option linter.unusedSimpArgs false

abbrev OkC (wv0 gv0 dv0 uv0 : Value) (base : Nat) (w : World) (p q : Lk) : Ending → World → Prop := fun e w' => ∃ wv gv dv uv, e = .returned (.tuple #[.agg (l6 q.base wv q.want gv dv uv), .int .i64 0]) ∧ Mv (Lrb wv0 gv0 dv0 uv0) w w' ∧ Lr w' base wv0 gv0 dv0 uv0 p ∧ Lr w' base wv gv dv uv q ∧ Nw w.heap.size wv0 gv0 dv0 uv0 wv gv dv uv
abbrev NoC (wv0 gv0 dv0 uv0 : Value) (base : Nat) (w : World) (p : Lk) (c : Int) : Ending → World → Prop := fun e w' => e = .returned (.tuple #[.agg (l6 p.base wv0 p.want gv0 dv0 uv0), .int .i64 c]) ∧ Mv (Lrb wv0 gv0 dv0 uv0) w w' ∧ Lr w' base wv0 gv0 dv0 uv0 p
/-- a link with a text offered, with the first ones sent -/
def offL (p : Lk) (b : ByteArray) : Lk := { p with nw := p.nw + 1, ws := snc p.ws p.nw b }
def sndL (p : Lk) : Lk := { p with nd := p.nd + min 3 p.nw, dt := fun j => if j < p.nd then p.dt j else fdT p (j - p.nd), dh := fun j => if j < p.nd then p.dh j else false }
theorem append_zero (W : World) (t ty e : TypeId) (i0 : TypeInfo) (ht : Try.prog.underlying t = some (.slice e)) (hi : Try.prog.info? e = some i0) (ad bd : Option Addr) (n k c : Nat) (h : n ≤ k) : (Builtin.append_ #[t, t] ty #[.slice ad n k, .slice bd 0 c]).run Try.prog W = .ok (.slice ad n k) W := by
  cases ad <;> cases bd <;> simp [Builtin.append_, run_underlying ht, sizeOf, typeInfo, hi, h, Builtin.lenOf, Builtin.firstCells, loadCells, loadCellsFrom, storeCells]
theorem snd_rg {w : World} {base m : Nat} {v : Value} {p : Lk} (h : Rg w base v 2 (p.nd + m) (snG 2 p.nd (wF p.dt p.dh) (rowG 2 m (wF (fdT p) (fun _ => false))))) : Rg w base v 2 (p.nd + m) (wF (fun j => if j < p.nd then p.dt j else fdT p (j - p.nd)) (fun j => if j < p.nd then p.dh j else false)) := by
  refine h.congr (by omega) (fun j hj i hi => ?_)
  unfold snG
  by_cases e : j < p.nd
  · simp only [if_pos e]
    unfold wF
    simp only [if_pos e]
  · simp only [if_neg e]
    have hx : (j - p.nd) * 2 + i < m * 2 := by omega
    rw [List.getD_eq_getElem?_getD, rowG_get hx, show ((j - p.nd) * 2 + i) / 2 = j - p.nd by omega, show ((j - p.nd) * 2 + i) % 2 = i by omega]
    unfold wF
    simp only [if_neg e, Option.getD_some]
theorem snd_zero {w : World} {base : Nat} {v : Value} {p : Lk} (h : Rg w base v 2 p.nd (wF p.dt p.dh)) (h0 : p.nw = 0) : Rg w base v 2 (p.nd + min 3 p.nw) (wF (fun j => if j < p.nd then p.dt j else fdT p (j - p.nd)) (fun j => if j < p.nd then p.dh j else false)) := by
  have e : p.nd + min 3 p.nw = p.nd := by omega
  rw [e]
  refine h.congr (by omega) (fun j hj i hi => ?_)
  unfold wF
  simp only [if_pos hj]

theorem ta_offer_offer (x : Value) (w : World) : (Instr.typeAssert (.iface 95 (.agg #[x])) 79 95 true).run Try.prog w = .ok (.tuple #[.agg #[x], .bool true]) w := by kernel_rfl
theorem ta_send_offer (w : World) : (Instr.typeAssert (.iface 97 (.agg #[])) 79 95 true).run Try.prog w = .ok (.tuple #[.agg #[.string ⟨#[]⟩], .bool false]) w := by kernel_rfl
theorem ta_send_send (w : World) : (Instr.typeAssert (.iface 97 (.agg #[])) 79 97 true).run Try.prog w = .ok (.tuple #[.agg #[], .bool true]) w := by kernel_rfl
theorem ta_come_offer (x y : Value) (w : World) : (Instr.typeAssert (.iface 102 (.agg #[x, y])) 79 95 true).run Try.prog w = .ok (.tuple #[.agg #[.string ⟨#[]⟩], .bool false]) w := by kernel_rfl
theorem ta_come_send (x y : Value) (w : World) : (Instr.typeAssert (.iface 102 (.agg #[x, y])) 79 97 true).run Try.prog w = .ok (.tuple #[.agg #[], .bool false]) w := by kernel_rfl
theorem ta_come_come (x y : Value) (w : World) : (Instr.typeAssert (.iface 102 (.agg #[x, y])) 79 102 true).run Try.prog w = .ok (.tuple #[.agg #[x, y], .bool true]) w := by kernel_rfl
theorem ta_lose_offer (x y : Value) (w : World) : (Instr.typeAssert (.iface 104 (.agg #[x, y])) 79 95 true).run Try.prog w = .ok (.tuple #[.agg #[.string ⟨#[]⟩], .bool false]) w := by kernel_rfl
theorem ta_lose_send (x y : Value) (w : World) : (Instr.typeAssert (.iface 104 (.agg #[x, y])) 79 97 true).run Try.prog w = .ok (.tuple #[.agg #[], .bool false]) w := by kernel_rfl
theorem ta_lose_come (x y : Value) (w : World) : (Instr.typeAssert (.iface 104 (.agg #[x, y])) 79 102 true).run Try.prog w = .ok (.tuple #[.agg #[.bool false, .int .i64 0], .bool false]) w := by kernel_rfl
theorem ta_lose_lose (x y : Value) (w : World) : (Instr.typeAssert (.iface 104 (.agg #[x, y])) 79 104 true).run Try.prog w = .ok (.tuple #[.agg #[x, y], .bool true]) w := by kernel_rfl
theorem ta_flip_offer (x y z : Value) (w : World) : (Instr.typeAssert (.iface 108 (.agg #[x, y, z])) 79 95 true).run Try.prog w = .ok (.tuple #[.agg #[.string ⟨#[]⟩], .bool false]) w := by kernel_rfl
theorem ta_flip_send (x y z : Value) (w : World) : (Instr.typeAssert (.iface 108 (.agg #[x, y, z])) 79 97 true).run Try.prog w = .ok (.tuple #[.agg #[], .bool false]) w := by kernel_rfl
theorem ta_flip_come (x y z : Value) (w : World) : (Instr.typeAssert (.iface 108 (.agg #[x, y, z])) 79 102 true).run Try.prog w = .ok (.tuple #[.agg #[.bool false, .int .i64 0], .bool false]) w := by kernel_rfl
theorem ta_flip_lose (x y z : Value) (w : World) : (Instr.typeAssert (.iface 108 (.agg #[x, y, z])) 79 104 true).run Try.prog w = .ok (.tuple #[.agg #[.bool false, .int .i64 0], .bool false]) w := by kernel_rfl
theorem ta_flip_flip (x y z : Value) (w : World) : (Instr.typeAssert (.iface 108 (.agg #[x, y, z])) 79 108 true).run Try.prog w = .ok (.tuple #[.agg #[x, y, z], .bool true]) w := by kernel_rfl

set_option maxHeartbeats 4000000 in
set_option maxRecDepth 20000 in
theorem acted_offer (p : Lk) (wa ga da ua : Option Addr) (wc gc dc uc : Nat) (base : Nat) (w : World) (hr : Lr w base (.slice wa p.nw wc) (.slice ga p.ng gc) (.slice da p.nd dc) (.slice ua p.nu uc) p) (hle : base ≤ w.heap.size) (body : ByteArray) (hnw : p.nw ≤ 1000) :
    Calls Try.prog 59 #[.agg (l6 p.base (.slice wa p.nw wc) p.want (.slice ga p.ng gc) (.slice da p.nd dc) (.slice ua p.nu uc)), .iface 95 (.agg #[.string body])] w (OkC (.slice wa p.nw wc) (.slice ga p.ng gc) (.slice da p.nd dc) (.slice ua p.nu uc) base w p (offL p body)) := by
  have HB : Hid (Mv (Lrb (.slice wa p.nw wc) (.slice ga p.ng gc) (.slice da p.nd dc) (.slice ua p.nu uc)) w w) := hide (Mv.refl _ _)
  have LO := hide hr
  have LT := hide (fun g (h : Lrb (.slice wa p.nw wc) (.slice ga p.ng gc) (.slice da p.nd dc) (.slice ua p.nu uc) g) => (hr.lt g h).2)
  have hbs : base ≤ w.heap.size := hle
  clear hr hle
  go_enter Try.func59, Try.ntmps59
  refine sk fun K hK => rl ?_
  refine sbp #[.int .i64 p.base, .slice wa p.nw wc, .int .i64 p.want, .slice ga p.ng gc, .slice da p.nd dc, .slice ua p.nu uc] 30 fun V1 b0 hb0 m1 bx0 => ?_
  have o_0 : w.heap.size ≤ b0 := by omega
  clear hb0
  refine sbp #[.int .i64 0, .slice none 0 0, .int .i64 0, .slice none 0 0, .slice none 0 0, .slice none 0 0] 30 fun V2 b1 hb1 m2 bx1 => ?_
  have o0_1 := Xlo bx0 hb1; clear hb1
  refine sv (.int .i64 0) ?_
  refine nt (hK _ _ ?_); clear hK K; refine sk fun K hK => sk fun K hK => rl ?_
  refine sv (.iface 95 (.agg #[.string body])) ?_
  refine nt (hK _ _ ?_); clear hK K; refine wp_block (sk fun K hK => rl ?_)
  refine sg (.tuple #[.agg #[.string body], .bool true]) (h := by have hta := ta_offer_offer; go_simp) ?_
  refine sv (.bool true) ?_
  refine sv (.agg #[.string body]) ?_
  refine nt (hK _ _ ?_); clear hK K; refine ct (sk fun K hK => rl ?_)
  refine sbp #[.string ⟨#[]⟩] 95 fun V3 b2 hb2 m3 bx2 => ?_
  have o1_2 := Xlo bx1 hb2; clear hb2
  refine ss 0 (.string body) bx2 fun V4 m4 bx2 => ?_
  refine nt (hK _ _ ?_); clear hK K; refine rl ?_
  refine sv (.pointer (some ⟨b0, 1, none⟩)) ?_
  replace bx0 := Xbb (Xbn (Xbn bx0 m2) m3) m4; refine sl 1 bx0 ?_
  refine sv (.pointer (some ⟨b2, 0, none⟩)) ?_
  refine sl 0 bx2 ?_
  refine sbs 1 #[.string body] 9 fun V5 b3 hb3 m5 bx3 => ?_
  have o2_3 := Xlo bx2 hb3; clear hb3
  have szT := lt_of_block bx3.out
  replace HB := Xhn (Xhb (Xhn (Xhn (Xhn HB m1) m2) m3) m4) m5; have szW := HB.out.size
  have LTm : ∀ g, rb (.slice wa p.nw wc) = some g → g < w.heap.size := fun g h => LT.out g (.inl h)
  replace LO := Xln (Xlb (Xln (Xln (Xln LO m1) m2) m3) LT m4) m5; obtain ⟨gx, ox, kx, V6, hrun, hgr, hrg, hbl, hold⟩ := add_text V5 base (.slice wa p.nw wc) p.nw p.ws body 22 ⟨b3, 0, none⟩ 1 (cell_box 0 bx3.out rfl) LO.out.wa (by omega) (by omega)
  have m6 : Mv (fun g => rb (.slice wa p.nw wc) = some g) V5 V6 := Mv.of_grown hgr
  refine sw_valW (by rfl) (run_append_op _ _ 22 (by rfl) (by rfl) (by rfl) hrun) ?_
  refine pt ?_
  replace HB := hide (HB.out.step m6 (fun g _ h => .inl h))
  replace bx0 := Xbn bx0 m5; replace bx0 := hide (m6.box bx0.out (fun h => by have := LTm _ h; omega))
  replace bx1 := Xbn (Xbb (Xbn bx1 m3) m4) m5; replace bx1 := hide (m6.box bx1.out (fun h => by have := LTm _ h; omega))
  replace bx2 := Xbn bx2 m5; replace bx2 := hide (m6.box bx2.out (fun h => by have := LTm _ h; omega))
  replace bx3 := hide (m6.box bx3.out (fun h => by have := LTm _ h; omega))
  have NX : Nw V5.heap.size (.slice wa p.nw wc) (.slice ga p.ng gc) (.slice da p.nd dc) (.slice ua p.nu uc) (.slice (some ⟨gx, ox, none⟩) (p.nw + 1) kx) (.slice ga p.ng gc) (.slice da p.nd dc) (.slice ua p.nu uc) := nw_wa (fun g e => (rb_blk e : gx = g) ▸ hbl)
  have LN := hide ((LO.out.put_wa hgr hrg (fun g e => (rb_blk e : gx = g) ▸ hbl) : Lr V6 base (.slice (some ⟨gx, ox, none⟩) (p.nw + 1) kx) (.slice ga p.ng gc) (.slice da p.nd dc) (.slice ua p.nu uc) (offL p body)))
  have AF : Hid (∀ g, Lrb (.slice (some ⟨gx, ox, none⟩) (p.nw + 1) kx) (.slice ga p.ng gc) (.slice da p.nd dc) (.slice ua p.nu uc) g → g ≠ b0 ∧ g ≠ b1 ∧ g ≠ b2 ∧ g ≠ b3) := hide (fun g h => (NX g h).elim (fun h2 => by have := LT.out g h2; omega) (fun h2 => by omega))
  have AN : Hid (Nw w.heap.size (.slice wa p.nw wc) (.slice ga p.ng gc) (.slice da p.nd dc) (.slice ua p.nu uc) (.slice (some ⟨gx, ox, none⟩) (p.nw + 1) kx) (.slice ga p.ng gc) (.slice da p.nd dc) (.slice ua p.nu uc)) := hide (fun g h => (NX g h).elim (fun h2 => .inl h2) (fun h2 => .inr (by omega)))
  clear NX szT szW
  replace LO : Hid (Lr V6 base (.slice wa p.nw wc) (.slice ga p.ng gc) (.slice da p.nd dc) (.slice ua p.nu uc) p) := hide (LO.out.put_wa hgr hold (fun g e => .inl e))
  clear hrun hgr hrg hold hbl LTm
  refine sv (.pointer (some ⟨b0, 1, none⟩)) ?_
  refine ss 1 (.slice (some ⟨gx, ox, none⟩) (p.nw + 1) kx) bx0 fun V7 m7 bx0 => ?_
  replace LN := hide (LN.out.mv m7 (fun g hg h => by have h : g = b0 := h; have := AF.out g hg; omega))
  refine wpList_nil (inb_norm (then_normal (hK _ _ ?_))); clear hK K; refine sk fun K hK => rl ?_
  refine sl6 bx0 ?_
  replace bx1 := Xbb bx1 m7; refine ss6 (.int .i64 p.base) (.slice (some ⟨gx, ox, none⟩) (p.nw + 1) kx) (.int .i64 p.want) (.slice ga p.ng gc) (.slice da p.nd dc) (.slice ua p.nu uc) bx1 fun V8 m8 bx1 => ?_
  replace LN := hide (LN.out.mv m8 (fun g hg h => by have h : g = b1 := h; have := AF.out g hg; omega))
  refine sv (.int .i64 0) ?_
  refine nt (hK _ _ ?_); clear hK K; refine wp_ret ?_
  try simp only [Exit.then, Exit.inBlock, ↓reduceIte, Nat.reduceEqDiff]
  obtain ⟨_, q1_0, q1_1, q1_2, q1_3, q1_4, q1_5⟩ := box6 bx1.out
  replace HB := Xhb (Xhb HB m7) m8; replace LO := Xlb (Xlb LO LT m7) LT m8; exact bodyPost_ret (v := .tuple #[.agg #[.int .i64 p.base, .slice (some ⟨gx, ox, none⟩) (p.nw + 1) kx, .int .i64 p.want, .slice ga p.ng gc, .slice da p.nd dc, .slice ua p.nu uc], .int .i64 0]) (by simp [results, Try.results59, go_sem, q1_0, q1_1, q1_2, q1_3, q1_4, q1_5]) rfl ⟨_, _, _, _, rfl, HB.out, LO.out, LN.out, AN.out⟩

set_option maxHeartbeats 4000000 in
set_option maxRecDepth 20000 in
theorem acted_send (p : Lk) (wa ga da ua : Option Addr) (wc gc dc uc : Nat) (base : Nat) (w : World) (hr : Lr w base (.slice wa p.nw wc) (.slice ga p.ng gc) (.slice da p.nd dc) (.slice ua p.nu uc) p) (hle : base ≤ w.heap.size) (h0 : 0 ≤ p.base) (h1 : p.base ≤ 999900) (h3 : p.nw ≤ 8) (hnd : p.nd ≤ 1000) :
    Calls Try.prog 59 #[.agg (l6 p.base (.slice wa p.nw wc) p.want (.slice ga p.ng gc) (.slice da p.nd dc) (.slice ua p.nu uc)), .iface 97 (.agg #[])] w (OkC (.slice wa p.nw wc) (.slice ga p.ng gc) (.slice da p.nd dc) (.slice ua p.nu uc) base w p (sndL p)) := by
  obtain ⟨i0, hi, hz0, hz1, hz2⟩ := info_parts infoWi
  by_cases h00 : p.nw = 0
  · obtain ⟨_, _, e_, hdc⟩ := hr.dn.form
    simp only [Value.slice.injEq, true_and] at e_
    obtain ⟨rfl, rfl⟩ := e_
    have HB : Hid (Mv (Lrb (.slice wa p.nw wc) (.slice ga p.ng gc) (.slice da p.nd dc) (.slice ua p.nu uc)) w w) := hide (Mv.refl _ _)
    have LO := hide hr
    have LT := hide (fun g (h : Lrb (.slice wa p.nw wc) (.slice ga p.ng gc) (.slice da p.nd dc) (.slice ua p.nu uc) g) => (hr.lt g h).2)
    have hbs : base ≤ w.heap.size := hle
    clear hr hle
    go_enter Try.func59, Try.ntmps59
    refine sk fun K hK => rl ?_
    refine sbp #[.int .i64 p.base, .slice wa p.nw wc, .int .i64 p.want, .slice ga p.ng gc, .slice da p.nd dc, .slice ua p.nu uc] 30 fun V1 b0 hb0 m1 bx0 => ?_
    have o_0 : w.heap.size ≤ b0 := by omega
    clear hb0
    refine sbp #[.int .i64 0, .slice none 0 0, .int .i64 0, .slice none 0 0, .slice none 0 0, .slice none 0 0] 30 fun V2 b1 hb1 m2 bx1 => ?_
    have o0_1 := Xlo bx0 hb1; clear hb1
    refine sv (.int .i64 0) ?_
    refine nt (hK _ _ ?_); clear hK K; refine sk fun K hK => sk fun K hK => rl ?_
    refine sv (.iface 97 (.agg #[])) ?_
    refine nt (hK _ _ ?_); clear hK K; refine wp_block (sk fun K hK => rl ?_)
    refine sg (.tuple #[.agg #[.string ⟨#[]⟩], .bool false]) (h := by have hta := ta_send_offer; go_simp) ?_
    refine sv (.bool false) ?_
    refine sv (.agg #[.string ⟨#[]⟩]) ?_
    refine nt (hK _ _ ?_); clear hK K; refine cf (sk fun K hK => rl ?_)
    refine sg (.tuple #[.agg #[], .bool true]) (h := by have hta := ta_send_send; go_simp) ?_
    refine sv (.bool true) ?_
    refine sv (.agg #[]) ?_
    refine nt (hK _ _ ?_); clear hK K; refine ct (sk fun K hK => rl ?_)
    refine sbp #[] 97 fun V3 b2 hb2 m3 bx2 => ?_
    have o1_2 := Xlo bx1 hb2; clear hb2
    refine s0 ?_
    refine nt (hK _ _ ?_); clear hK K
    refine wp_region_but (z := 6) (S := fun w' => Mv (nob) V3.drew w') (by kernel_rfl) (Mv.refl _ _) (fun hS => ?_)
    have m4 : Mv nob V3 V3.drew := Mv.drew _
    obtain ⟨V4, hV4⟩ : ∃ V, V3.drew = V := ⟨_, rfl⟩
    rw [hV4] at hS m4 ⊢
    clear hV4; replace bx0 := Xbn (Xbn (Xbn bx0 m2) m3) m4; have rbx0 := bx0; replace bx1 := Xbn (Xbn bx1 m3) m4; have rbx1 := bx1; replace bx2 := Xbn bx2 m4; have rbx2 := bx2
    refine tk0 0 (.pointer (some ⟨b0, 4, none⟩)) rfl ?_
    refine tk 1 (.slice da p.nd dc) rfl (fun w' hSw => by (try dsimp only at hSw); have z0 := cell_box 4 (hSw.box rbx0.out (fun h => h)) rfl; go_simp) ?_
    refine tk 2 (.agg #[.int .i64 p.base, .slice wa p.nw wc, .int .i64 p.want, .slice ga p.ng gc, .slice da p.nd dc, .slice ua p.nu uc]) rfl (fun w' hSw => by (try dsimp only at hSw); have z0 := cell_box 0 (hSw.box rbx0.out (fun h => h)) rfl; have z1 := cell_box 1 (hSw.box rbx0.out (fun h => h)) rfl; have z2 := cell_box 2 (hSw.box rbx0.out (fun h => h)) rfl; have z3 := cell_box 3 (hSw.box rbx0.out (fun h => h)) rfl; have z4 := cell_box 4 (hSw.box rbx0.out (fun h => h)) rfl; have z5 := cell_box 5 (hSw.box rbx0.out (fun h => h)) rfl; go_simp) ?_
    replace LO := Xln (Xln (Xln (Xln LO m1) m2) m3) m4; refine kd_call (i := 3) (by kernel_rfl) rfl (by rfl) (by first | rfl | (go_simp; done)) (firstData_any p wa ga da ua wc gc dc uc base V4 LO.out h0 h1 h3) ?_
    rintro e V5 ⟨vf, rfl, hrf, hbV5⟩
    have m5 : Mv (nob) V4 V5 := Mv.of_below hbV5
    replace hS := hS.step m5 (fun _ _ h => h.elim)
    refine ⟨_, rfl, fun _ => hS, ?_⟩
    refine ptk ?_
    obtain ⟨fa, fc, rfl, _⟩ := hrf.form
    rw [show min 3 p.nw = 0 by omega] at hrf ⊢
    have FV := hide hrf
    have FS := V4.heap.size
    clear hbV5 hrf FS
    refine kd_valW (i := 4) (by kernel_rfl) rfl (by rfl) (run_append_op _ _ 28 (by rfl) (by rfl) (by rfl) (append_zero _ _ _ _ i0 Try.underlying28 hi da fa p.nd dc fc hdc)) (fun _ => hS) ?_
    refine ptk ?_
    refine tk0 5 (.pointer (some ⟨b0, 4, none⟩)) rfl ?_
    replace bx0 := Xbn bx0 m5; refine kd_skipI (i := 6) (w' := V5.setCell ⟨b0, 4, none⟩ (.slice da p.nd dc)) (fun V => Mv (fun g => g = b0) V5 V ∧ V.heap[b0]? = some (.cells #[.int .i64 p.base, .slice wa p.nw wc, .int .i64 p.want, .slice ga p.ng gc, .slice da p.nd dc, .slice ua p.nu uc] 30 (0, 0))) (by kernel_rfl) rfl (by rfl) (by have fr := fun i => frozen_of_row _ _ i _ _ bx0.out; have z0 := cell_box 4 bx0.out rfl; go_simp) ⟨Mv.set (Mv.refl _ _) _ _, (heap_setCell_same _ _ 4 _ _ _ (bx0.out)).trans rfl⟩ (fun _ _ h => absurd rfl h) ?_
    rintro V6 ⟨m6, nxV6⟩
    refine ptk ?_
    replace bx0 := hide nxV6
    clear nxV6
    refine wpAnyK_done (by kernel_rfl) ?_
    clear hS rbx0 rbx1 rbx2
    refine inb_norm (then_normal (hK _ _ ?_)); clear hK K; refine sk fun K hK => rl ?_
    refine sl6 bx0 ?_
    replace bx1 := Xbb (Xbn bx1 m5) m6; refine ss6 (.int .i64 p.base) (.slice wa p.nw wc) (.int .i64 p.want) (.slice ga p.ng gc) (.slice da p.nd dc) (.slice ua p.nu uc) bx1 fun V7 m7 bx1 => ?_
    refine sv (.int .i64 0) ?_
    refine nt (hK _ _ ?_); clear hK K; refine wp_ret ?_
    try simp only [Exit.then, Exit.inBlock, ↓reduceIte, Nat.reduceEqDiff]
    obtain ⟨_, q1_0, q1_1, q1_2, q1_3, q1_4, q1_5⟩ := box6 bx1.out
    replace HB := Xhb (Xhb (Xhn (Xhn (Xhn (Xhn (Xhn HB m1) m2) m3) m4) m5) m6) m7; replace LO := Xlb (Xlb (Xln LO m5) LT m6) LT m7; exact bodyPost_ret (v := .tuple #[.agg #[.int .i64 p.base, .slice wa p.nw wc, .int .i64 p.want, .slice ga p.ng gc, .slice da p.nd dc, .slice ua p.nu uc], .int .i64 0]) (by simp [results, Try.results59, go_sem, q1_0, q1_1, q1_2, q1_3, q1_4, q1_5]) rfl ⟨_, _, _, _, rfl, HB.out, LO.out, ⟨LO.out.wa, LO.out.go, snd_zero LO.out.dn h00, LO.out.up, LO.out.aw, LO.out.ag, LO.out.ad⟩, Nw.refl _ _ _ _ _⟩
  · have LTr : ∀ g, rb (.slice da p.nd dc) = some g → g < w.heap.size := fun g h => (hr.lt g (.inr (.inr (.inl h)))).2
    have HB : Hid (Mv (Lrb (.slice wa p.nw wc) (.slice ga p.ng gc) (.slice da p.nd dc) (.slice ua p.nu uc)) w w) := hide (Mv.refl _ _)
    have LO := hide hr
    have LT := hide (fun g (h : Lrb (.slice wa p.nw wc) (.slice ga p.ng gc) (.slice da p.nd dc) (.slice ua p.nu uc) g) => (hr.lt g h).2)
    have hbs : base ≤ w.heap.size := hle
    clear hr hle
    go_enter Try.func59, Try.ntmps59
    refine sk fun K hK => rl ?_
    refine sbp #[.int .i64 p.base, .slice wa p.nw wc, .int .i64 p.want, .slice ga p.ng gc, .slice da p.nd dc, .slice ua p.nu uc] 30 fun V1 b0 hb0 m1 bx0 => ?_
    have o_0 : w.heap.size ≤ b0 := by omega
    clear hb0
    refine sbp #[.int .i64 0, .slice none 0 0, .int .i64 0, .slice none 0 0, .slice none 0 0, .slice none 0 0] 30 fun V2 b1 hb1 m2 bx1 => ?_
    have o0_1 := Xlo bx0 hb1; clear hb1
    refine sv (.int .i64 0) ?_
    refine nt (hK _ _ ?_); clear hK K; refine sk fun K hK => sk fun K hK => rl ?_
    refine sv (.iface 97 (.agg #[])) ?_
    refine nt (hK _ _ ?_); clear hK K; refine wp_block (sk fun K hK => rl ?_)
    refine sg (.tuple #[.agg #[.string ⟨#[]⟩], .bool false]) (h := by have hta := ta_send_offer; go_simp) ?_
    refine sv (.bool false) ?_
    refine sv (.agg #[.string ⟨#[]⟩]) ?_
    refine nt (hK _ _ ?_); clear hK K; refine cf (sk fun K hK => rl ?_)
    refine sg (.tuple #[.agg #[], .bool true]) (h := by have hta := ta_send_send; go_simp) ?_
    refine sv (.bool true) ?_
    refine sv (.agg #[]) ?_
    refine nt (hK _ _ ?_); clear hK K; refine ct (sk fun K hK => rl ?_)
    refine sbp #[] 97 fun V3 b2 hb2 m3 bx2 => ?_
    have o1_2 := Xlo bx1 hb2; clear hb2
    refine s0 ?_
    refine nt (hK _ _ ?_); clear hK K
    refine wp_region_but (z := 6) (S := fun w' => Mv (fun g => rb (.slice da p.nd dc) = some g) V3.drew w') (by kernel_rfl) (Mv.refl _ _) (fun hS => ?_)
    have m4 : Mv nob V3 V3.drew := Mv.drew _
    obtain ⟨V4, hV4⟩ : ∃ V, V3.drew = V := ⟨_, rfl⟩
    rw [hV4] at hS m4 ⊢
    clear hV4; replace bx0 := Xbn (Xbn (Xbn bx0 m2) m3) m4; have rbx0 := bx0; replace bx1 := Xbn (Xbn bx1 m3) m4; have rbx1 := bx1; replace bx2 := Xbn bx2 m4; have rbx2 := bx2
    refine tk0 0 (.pointer (some ⟨b0, 4, none⟩)) rfl ?_
    refine tk 1 (.slice da p.nd dc) rfl (fun w' hSw => by (try dsimp only at hSw); have z0 := cell_box 4 (hSw.box rbx0.out (fun h => by have := LTr _ h; omega)) rfl; go_simp) ?_
    refine tk 2 (.agg #[.int .i64 p.base, .slice wa p.nw wc, .int .i64 p.want, .slice ga p.ng gc, .slice da p.nd dc, .slice ua p.nu uc]) rfl (fun w' hSw => by (try dsimp only at hSw); have z0 := cell_box 0 (hSw.box rbx0.out (fun h => by have := LTr _ h; omega)) rfl; have z1 := cell_box 1 (hSw.box rbx0.out (fun h => by have := LTr _ h; omega)) rfl; have z2 := cell_box 2 (hSw.box rbx0.out (fun h => by have := LTr _ h; omega)) rfl; have z3 := cell_box 3 (hSw.box rbx0.out (fun h => by have := LTr _ h; omega)) rfl; have z4 := cell_box 4 (hSw.box rbx0.out (fun h => by have := LTr _ h; omega)) rfl; have z5 := cell_box 5 (hSw.box rbx0.out (fun h => by have := LTr _ h; omega)) rfl; go_simp) ?_
    replace LO := Xln (Xln (Xln (Xln LO m1) m2) m3) m4; refine kd_call (i := 3) (by kernel_rfl) rfl (by rfl) (by first | rfl | (go_simp; done)) (firstData_any p wa ga da ua wc gc dc uc base V4 LO.out h0 h1 h3) ?_
    rintro e V5 ⟨vf, rfl, hrf, hbV5⟩
    have m5 : Mv (nob) V4 V5 := Mv.of_below hbV5
    replace hS := hS.step m5 (fun _ _ h => h.elim)
    refine ⟨_, rfl, fun _ => hS, ?_⟩
    refine ptk ?_
    obtain ⟨fa, fc, rfl, _⟩ := hrf.form
    have FV := hide hrf
    have FS := V4.heap.size
    clear hbV5 hrf FS
    replace bx2 := Xbn bx2 m5; have szT := lt_of_block bx2.out
    replace HB := Xhn (Xhn (Xhn (Xhn (Xhn HB m1) m2) m3) m4) m5; have szW := HB.out.size
    have LTm : ∀ g, rb (.slice da p.nd dc) = some g → g < w.heap.size := fun g h => LT.out g (.inr (.inr (.inl h)))
    obtain ⟨gf, of, hfa, _⟩ := FV.out.rows (by omega)
    subst hfa
    replace LO := Xln LO m5; obtain ⟨gx, ox, kx, V6, hrun, hgr, hrg, hbl, hold⟩ := append_rg V5 base (.slice da p.nd dc) 2 p.nd (min 3 p.nw) 24 (wF p.dt p.dh) 28 28 73 i0 _ Try.underlying28 hi hz0 hz1 hz2 rfl (by decide) ⟨gf, of, none⟩ fc (rowG 2 (min 3 p.nw) (wF (fdT p) (fun _ => false))) (rowG_len _ _ _) (Rg.news (by decide) FV.out.sg) (one_wires _ _) (by omega) LO.out.dn (by unfold maxLen; omega) (by omega) (by omega)
    have m6 : Mv (fun g => rb (.slice da p.nd dc) = some g) V5 V6 := Mv.of_grown hgr
    replace hS := hS.step m6 (fun g h1 h => h)
    refine kd_valW (i := 4) (by kernel_rfl) rfl (by rfl) (run_append_op _ _ 28 (by rfl) (by rfl) (by rfl) hrun) (fun _ => hS) ?_
    refine ptk ?_
    replace HB := hide (HB.out.step m6 (fun g _ h => .inr (.inr (.inl h))))
    replace bx0 := Xbn bx0 m5; replace bx0 := hide (m6.box bx0.out (fun h => by have := LTm _ h; omega))
    replace bx1 := Xbn bx1 m5; replace bx1 := hide (m6.box bx1.out (fun h => by have := LTm _ h; omega))
    replace bx2 := hide (m6.box bx2.out (fun h => by have := LTm _ h; omega))
    have NX : Nw V5.heap.size (.slice wa p.nw wc) (.slice ga p.ng gc) (.slice da p.nd dc) (.slice ua p.nu uc) (.slice wa p.nw wc) (.slice ga p.ng gc) (.slice (some ⟨gx, ox, none⟩) (p.nd + min 3 p.nw) kx) (.slice ua p.nu uc) := nw_dn (fun g e => (rb_blk e : gx = g) ▸ hbl)
    have LN := hide ((LO.out.put_dn hgr (snd_rg hrg) (fun g e => (rb_blk e : gx = g) ▸ hbl) : Lr V6 base (.slice wa p.nw wc) (.slice ga p.ng gc) (.slice (some ⟨gx, ox, none⟩) (p.nd + min 3 p.nw) kx) (.slice ua p.nu uc) (sndL p)))
    have AF : Hid (∀ g, Lrb (.slice wa p.nw wc) (.slice ga p.ng gc) (.slice (some ⟨gx, ox, none⟩) (p.nd + min 3 p.nw) kx) (.slice ua p.nu uc) g → g ≠ b0 ∧ g ≠ b1 ∧ g ≠ b2) := hide (fun g h => (NX g h).elim (fun h2 => by have := LT.out g h2; omega) (fun h2 => by omega))
    have AN : Hid (Nw w.heap.size (.slice wa p.nw wc) (.slice ga p.ng gc) (.slice da p.nd dc) (.slice ua p.nu uc) (.slice wa p.nw wc) (.slice ga p.ng gc) (.slice (some ⟨gx, ox, none⟩) (p.nd + min 3 p.nw) kx) (.slice ua p.nu uc)) := hide (fun g h => (NX g h).elim (fun h2 => .inl h2) (fun h2 => .inr (by omega)))
    clear NX szT szW
    replace LO : Hid (Lr V6 base (.slice wa p.nw wc) (.slice ga p.ng gc) (.slice da p.nd dc) (.slice ua p.nu uc) p) := hide (LO.out.put_dn hgr hold (fun g e => .inl e))
    clear hrun hgr hrg hold hbl LTm FV
    refine tk0 5 (.pointer (some ⟨b0, 4, none⟩)) rfl ?_
    refine kd_skipI (i := 6) (w' := V6.setCell ⟨b0, 4, none⟩ (.slice (some ⟨gx, ox, none⟩) (p.nd + min 3 p.nw) kx)) (fun V => Mv (fun g => g = b0) V6 V ∧ V.heap[b0]? = some (.cells #[.int .i64 p.base, .slice wa p.nw wc, .int .i64 p.want, .slice ga p.ng gc, .slice (some ⟨gx, ox, none⟩) (p.nd + min 3 p.nw) kx, .slice ua p.nu uc] 30 (0, 0))) (by kernel_rfl) rfl (by rfl) (by have fr := fun i => frozen_of_row _ _ i _ _ bx0.out; have z0 := cell_box 4 bx0.out rfl; go_simp) ⟨Mv.set (Mv.refl _ _) _ _, (heap_setCell_same _ _ 4 _ _ _ (bx0.out)).trans rfl⟩ (fun _ _ h => absurd rfl h) ?_
    rintro V7 ⟨m7, nxV7⟩
    refine ptk ?_
    replace LN := hide (LN.out.mv m7 (fun g hg h => by have h : g = b0 := h; have := AF.out g hg; omega))
    replace bx0 := hide nxV7
    clear nxV7
    refine wpAnyK_done (by kernel_rfl) ?_
    clear hS rbx0 rbx1 rbx2
    refine inb_norm (then_normal (hK _ _ ?_)); clear hK K; refine sk fun K hK => rl ?_
    refine sl6 bx0 ?_
    replace bx1 := Xbb bx1 m7; refine ss6 (.int .i64 p.base) (.slice wa p.nw wc) (.int .i64 p.want) (.slice ga p.ng gc) (.slice (some ⟨gx, ox, none⟩) (p.nd + min 3 p.nw) kx) (.slice ua p.nu uc) bx1 fun V8 m8 bx1 => ?_
    replace LN := hide (LN.out.mv m8 (fun g hg h => by have h : g = b1 := h; have := AF.out g hg; omega))
    refine sv (.int .i64 0) ?_
    refine nt (hK _ _ ?_); clear hK K; refine wp_ret ?_
    try simp only [Exit.then, Exit.inBlock, ↓reduceIte, Nat.reduceEqDiff]
    obtain ⟨_, q1_0, q1_1, q1_2, q1_3, q1_4, q1_5⟩ := box6 bx1.out
    replace HB := Xhb (Xhb HB m7) m8; replace LO := Xlb (Xlb LO LT m7) LT m8; exact bodyPost_ret (v := .tuple #[.agg #[.int .i64 p.base, .slice wa p.nw wc, .int .i64 p.want, .slice ga p.ng gc, .slice (some ⟨gx, ox, none⟩) (p.nd + min 3 p.nw) kx, .slice ua p.nu uc], .int .i64 0]) (by simp [results, Try.results59, go_sem, q1_0, q1_1, q1_2, q1_3, q1_4, q1_5]) rfl ⟨_, _, _, _, rfl, HB.out, LO.out, LN.out, AN.out⟩

set_option maxHeartbeats 4000000 in
set_option maxRecDepth 20000 in
theorem acted_come_ok (p : Lk) (wa ga da ua : Option Addr) (wc gc dc uc : Nat) (base : Nat) (w : World) (hr : Lr w base (.slice wa p.nw wc) (.slice ga p.ng gc) (.slice da p.nd dc) (.slice ua p.nu uc) p) (hle : base ≤ w.heap.size) (up : Bool) (z : Int) (q : Lk) (hcon : ∀ V : World, Lr V base (.slice wa p.nw wc) (.slice ga p.ng gc) (.slice da p.nd dc) (.slice ua p.nu uc) p → base ≤ V.heap.size → Calls Try.prog 71 #[.agg (l6 p.base (.slice wa p.nw wc) p.want (.slice ga p.ng gc) (.slice da p.nd dc) (.slice ua p.nu uc)), .agg #[.bool up, .int .i64 z]] V (OkC (.slice wa p.nw wc) (.slice ga p.ng gc) (.slice da p.nd dc) (.slice ua p.nu uc) base V p q)) :
    Calls Try.prog 59 #[.agg (l6 p.base (.slice wa p.nw wc) p.want (.slice ga p.ng gc) (.slice da p.nd dc) (.slice ua p.nu uc)), .iface 102 (.agg #[.bool up, .int .i64 z])] w (OkC (.slice wa p.nw wc) (.slice ga p.ng gc) (.slice da p.nd dc) (.slice ua p.nu uc) base w p q) := by
  have HB : Hid (Mv (Lrb (.slice wa p.nw wc) (.slice ga p.ng gc) (.slice da p.nd dc) (.slice ua p.nu uc)) w w) := hide (Mv.refl _ _)
  have LO := hide hr
  have LT := hide (fun g (h : Lrb (.slice wa p.nw wc) (.slice ga p.ng gc) (.slice da p.nd dc) (.slice ua p.nu uc) g) => (hr.lt g h).2)
  have hbs : base ≤ w.heap.size := hle
  clear hr hle
  go_enter Try.func59, Try.ntmps59
  refine sk fun K hK => rl ?_
  refine sbp #[.int .i64 p.base, .slice wa p.nw wc, .int .i64 p.want, .slice ga p.ng gc, .slice da p.nd dc, .slice ua p.nu uc] 30 fun V1 b0 hb0 m1 bx0 => ?_
  have o_0 : w.heap.size ≤ b0 := by omega
  clear hb0
  refine sbp #[.int .i64 0, .slice none 0 0, .int .i64 0, .slice none 0 0, .slice none 0 0, .slice none 0 0] 30 fun V2 b1 hb1 m2 bx1 => ?_
  have o0_1 := Xlo bx0 hb1; clear hb1
  refine sv (.int .i64 0) ?_
  refine nt (hK _ _ ?_); clear hK K; refine sk fun K hK => sk fun K hK => rl ?_
  refine sv (.iface 102 (.agg #[.bool up, .int .i64 z])) ?_
  refine nt (hK _ _ ?_); clear hK K; refine wp_block (sk fun K hK => rl ?_)
  refine sg (.tuple #[.agg #[.string ⟨#[]⟩], .bool false]) (h := by have hta := ta_come_offer; go_simp) ?_
  refine sv (.bool false) ?_
  refine sv (.agg #[.string ⟨#[]⟩]) ?_
  refine nt (hK _ _ ?_); clear hK K; refine cf (sk fun K hK => rl ?_)
  refine sg (.tuple #[.agg #[], .bool false]) (h := by have hta := ta_come_send; go_simp) ?_
  refine sv (.bool false) ?_
  refine sv (.agg #[]) ?_
  refine nt (hK _ _ ?_); clear hK K; refine cf (sk fun K hK => rl ?_)
  refine sg (.tuple #[.agg #[.bool up, .int .i64 z], .bool true]) (h := by have hta := ta_come_come; go_simp) ?_
  refine sv (.bool true) ?_
  refine sv (.agg #[.bool up, .int .i64 z]) ?_
  refine nt (hK _ _ ?_); clear hK K; refine ct (sk fun K hK => rl ?_)
  refine sbp #[.bool false, .int .i64 0] 102 fun V3 b2 hb2 m3 bx2 => ?_
  have o1_2 := Xlo bx1 hb2; clear hb2
  refine ss2 (.bool up) (.int .i64 z) bx2 fun V4 m4 bx2 => ?_
  refine nt (hK _ _ ?_); clear hK K; refine sk fun K hK => rl ?_
  replace bx0 := Xbb (Xbn (Xbn bx0 m2) m3) m4; refine sl6 bx0 ?_
  refine sv (.pointer (some ⟨b2, 0, none⟩)) ?_
  refine sg (.agg #[.bool up, .int .i64 z]) (h := by have z0 := cell_box 0 (bx2.out) rfl; have z1 := cell_box 1 (bx2.out) rfl; go_simp) ?_
  have szT := lt_of_block bx2.out
  replace HB := Xhb (Xhn (Xhn (Xhn HB m1) m2) m3) m4; have szW := HB.out.size
  have LTm : ∀ g, Lrb (.slice wa p.nw wc) (.slice ga p.ng gc) (.slice da p.nd dc) (.slice ua p.nu uc) g → g < w.heap.size := fun g h => LT.out g h
  replace LO := Xlb (Xln (Xln (Xln LO m1) m2) m3) LT m4; refine sw_call (by rfl) (by first | rfl | (go_simp; done)) (hcon V4 LO.out (by omega)) ?_
  rintro e V5 ⟨wv, gv, dv, uv, rfl, mm, hq, hl2, hnw⟩
  have m5 : Mv (Lrb (.slice wa p.nw wc) (.slice ga p.ng gc) (.slice da p.nd dc) (.slice ua p.nu uc)) V4 V5 := mm
  refine ⟨_, rfl, ?_⟩
  refine pt ?_
  replace HB := hide (HB.out.step m5 (fun g _ h => h))
  replace bx0 := hide (m5.box bx0.out (fun h => by have := LTm _ h; omega))
  replace bx1 := Xbb (Xbn bx1 m3) m4; replace bx1 := hide (m5.box bx1.out (fun h => by have := LTm _ h; omega))
  replace bx2 := hide (m5.box bx2.out (fun h => by have := LTm _ h; omega))
  obtain ⟨xa, xc, rfl, _⟩ := hl2.wa.form
  obtain ⟨ya, yc, rfl, _⟩ := hl2.go.form
  obtain ⟨za, zc, rfl, _⟩ := hl2.dn.form
  obtain ⟨va, vc, rfl, _⟩ := hl2.up.form
  have NX : Nw V4.heap.size (.slice wa p.nw wc) (.slice ga p.ng gc) (.slice da p.nd dc) (.slice ua p.nu uc) (.slice xa q.nw xc) (.slice ya q.ng yc) (.slice za q.nd zc) (.slice va q.nu vc) := hnw
  have LN := hide (hl2)
  have AF : Hid (∀ g, Lrb (.slice xa q.nw xc) (.slice ya q.ng yc) (.slice za q.nd zc) (.slice va q.nu vc) g → g ≠ b0 ∧ g ≠ b1 ∧ g ≠ b2) := hide (fun g h => (NX g h).elim (fun h2 => by have := LT.out g h2; omega) (fun h2 => by omega))
  have AN : Hid (Nw w.heap.size (.slice wa p.nw wc) (.slice ga p.ng gc) (.slice da p.nd dc) (.slice ua p.nu uc) (.slice xa q.nw xc) (.slice ya q.ng yc) (.slice za q.nd zc) (.slice va q.nu vc)) := hide (fun g h => (NX g h).elim (fun h2 => .inl h2) (fun h2 => .inr (by omega)))
  clear NX szT szW
  replace LO := hide hq
  clear hq hl2 hnw mm LTm
  refine sv (.agg #[.int .i64 q.base, .slice xa q.nw xc, .int .i64 q.want, .slice ya q.ng yc, .slice za q.nd zc, .slice va q.nu vc]) ?_
  refine sv (.int .i64 0) ?_
  refine ss6 (.int .i64 q.base) (.slice xa q.nw xc) (.int .i64 q.want) (.slice ya q.ng yc) (.slice za q.nd zc) (.slice va q.nu vc) bx1 fun V6 m6 bx1 => ?_
  replace LN := hide (LN.out.mv m6 (fun g hg h => by have h : g = b1 := h; have := AF.out g hg; omega))
  refine sv (.int .i64 0) ?_
  refine nt (hK _ _ ?_); clear hK K; refine wp_ret ?_; refine inb_ret ?_; refine then_ret ?_
  try simp only [Exit.then, Exit.inBlock, ↓reduceIte, Nat.reduceEqDiff]
  obtain ⟨_, q1_0, q1_1, q1_2, q1_3, q1_4, q1_5⟩ := box6 bx1.out
  replace HB := Xhb HB m6; replace LO := Xlb LO LT m6; exact bodyPost_ret (v := .tuple #[.agg #[.int .i64 q.base, .slice xa q.nw xc, .int .i64 q.want, .slice ya q.ng yc, .slice za q.nd zc, .slice va q.nu vc], .int .i64 0]) (by simp [results, Try.results59, go_sem, q1_0, q1_1, q1_2, q1_3, q1_4, q1_5]) rfl ⟨_, _, _, _, rfl, HB.out, LO.out, LN.out, AN.out⟩

set_option maxHeartbeats 4000000 in
set_option maxRecDepth 20000 in
theorem acted_come_no (p : Lk) (wa ga da ua : Option Addr) (wc gc dc uc : Nat) (base : Nat) (w : World) (hr : Lr w base (.slice wa p.nw wc) (.slice ga p.ng gc) (.slice da p.nd dc) (.slice ua p.nu uc) p) (hle : base ≤ w.heap.size) (up : Bool) (z : Int) (c : Int) (hcon : ∀ V : World, Lr V base (.slice wa p.nw wc) (.slice ga p.ng gc) (.slice da p.nd dc) (.slice ua p.nu uc) p → base ≤ V.heap.size → Calls Try.prog 71 #[.agg (l6 p.base (.slice wa p.nw wc) p.want (.slice ga p.ng gc) (.slice da p.nd dc) (.slice ua p.nu uc)), .agg #[.bool up, .int .i64 z]] V (NoC (.slice wa p.nw wc) (.slice ga p.ng gc) (.slice da p.nd dc) (.slice ua p.nu uc) base V p c)) :
    Calls Try.prog 59 #[.agg (l6 p.base (.slice wa p.nw wc) p.want (.slice ga p.ng gc) (.slice da p.nd dc) (.slice ua p.nu uc)), .iface 102 (.agg #[.bool up, .int .i64 z])] w (NoC (.slice wa p.nw wc) (.slice ga p.ng gc) (.slice da p.nd dc) (.slice ua p.nu uc) base w p c) := by
  have HB : Hid (Mv (Lrb (.slice wa p.nw wc) (.slice ga p.ng gc) (.slice da p.nd dc) (.slice ua p.nu uc)) w w) := hide (Mv.refl _ _)
  have LO := hide hr
  have LT := hide (fun g (h : Lrb (.slice wa p.nw wc) (.slice ga p.ng gc) (.slice da p.nd dc) (.slice ua p.nu uc) g) => (hr.lt g h).2)
  have hbs : base ≤ w.heap.size := hle
  clear hr hle
  go_enter Try.func59, Try.ntmps59
  refine sk fun K hK => rl ?_
  refine sbp #[.int .i64 p.base, .slice wa p.nw wc, .int .i64 p.want, .slice ga p.ng gc, .slice da p.nd dc, .slice ua p.nu uc] 30 fun V1 b0 hb0 m1 bx0 => ?_
  have o_0 : w.heap.size ≤ b0 := by omega
  clear hb0
  refine sbp #[.int .i64 0, .slice none 0 0, .int .i64 0, .slice none 0 0, .slice none 0 0, .slice none 0 0] 30 fun V2 b1 hb1 m2 bx1 => ?_
  have o0_1 := Xlo bx0 hb1; clear hb1
  refine sv (.int .i64 0) ?_
  refine nt (hK _ _ ?_); clear hK K; refine sk fun K hK => sk fun K hK => rl ?_
  refine sv (.iface 102 (.agg #[.bool up, .int .i64 z])) ?_
  refine nt (hK _ _ ?_); clear hK K; refine wp_block (sk fun K hK => rl ?_)
  refine sg (.tuple #[.agg #[.string ⟨#[]⟩], .bool false]) (h := by have hta := ta_come_offer; go_simp) ?_
  refine sv (.bool false) ?_
  refine sv (.agg #[.string ⟨#[]⟩]) ?_
  refine nt (hK _ _ ?_); clear hK K; refine cf (sk fun K hK => rl ?_)
  refine sg (.tuple #[.agg #[], .bool false]) (h := by have hta := ta_come_send; go_simp) ?_
  refine sv (.bool false) ?_
  refine sv (.agg #[]) ?_
  refine nt (hK _ _ ?_); clear hK K; refine cf (sk fun K hK => rl ?_)
  refine sg (.tuple #[.agg #[.bool up, .int .i64 z], .bool true]) (h := by have hta := ta_come_come; go_simp) ?_
  refine sv (.bool true) ?_
  refine sv (.agg #[.bool up, .int .i64 z]) ?_
  refine nt (hK _ _ ?_); clear hK K; refine ct (sk fun K hK => rl ?_)
  refine sbp #[.bool false, .int .i64 0] 102 fun V3 b2 hb2 m3 bx2 => ?_
  have o1_2 := Xlo bx1 hb2; clear hb2
  refine ss2 (.bool up) (.int .i64 z) bx2 fun V4 m4 bx2 => ?_
  refine nt (hK _ _ ?_); clear hK K; refine sk fun K hK => rl ?_
  replace bx0 := Xbb (Xbn (Xbn bx0 m2) m3) m4; refine sl6 bx0 ?_
  refine sv (.pointer (some ⟨b2, 0, none⟩)) ?_
  refine sg (.agg #[.bool up, .int .i64 z]) (h := by have z0 := cell_box 0 (bx2.out) rfl; have z1 := cell_box 1 (bx2.out) rfl; go_simp) ?_
  have szT := lt_of_block bx2.out
  replace HB := Xhb (Xhn (Xhn (Xhn HB m1) m2) m3) m4; have szW := HB.out.size
  have LTm : ∀ g, Lrb (.slice wa p.nw wc) (.slice ga p.ng gc) (.slice da p.nd dc) (.slice ua p.nu uc) g → g < w.heap.size := fun g h => LT.out g h
  replace LO := Xlb (Xln (Xln (Xln LO m1) m2) m3) LT m4; refine sw_call (by rfl) (by first | rfl | (go_simp; done)) (hcon V4 LO.out (by omega)) ?_
  rintro e V5 ⟨rfl, mm, hq⟩
  have m5 : Mv (Lrb (.slice wa p.nw wc) (.slice ga p.ng gc) (.slice da p.nd dc) (.slice ua p.nu uc)) V4 V5 := mm
  refine ⟨_, rfl, ?_⟩
  refine pt ?_
  replace HB := hide (HB.out.step m5 (fun g _ h => h))
  replace bx0 := hide (m5.box bx0.out (fun h => by have := LTm _ h; omega))
  replace bx1 := Xbb (Xbn bx1 m3) m4; replace bx1 := hide (m5.box bx1.out (fun h => by have := LTm _ h; omega))
  replace bx2 := hide (m5.box bx2.out (fun h => by have := LTm _ h; omega))
  replace LO := hide hq
  clear hq mm LTm szT szW
  refine sv (.agg #[.int .i64 p.base, .slice wa p.nw wc, .int .i64 p.want, .slice ga p.ng gc, .slice da p.nd dc, .slice ua p.nu uc]) ?_
  refine sv (.int .i64 c) ?_
  refine ss6 (.int .i64 p.base) (.slice wa p.nw wc) (.int .i64 p.want) (.slice ga p.ng gc) (.slice da p.nd dc) (.slice ua p.nu uc) bx1 fun V6 m6 bx1 => ?_
  refine sv (.int .i64 c) ?_
  refine nt (hK _ _ ?_); clear hK K; refine wp_ret ?_; refine inb_ret ?_; refine then_ret ?_
  try simp only [Exit.then, Exit.inBlock, ↓reduceIte, Nat.reduceEqDiff]
  obtain ⟨_, q1_0, q1_1, q1_2, q1_3, q1_4, q1_5⟩ := box6 bx1.out
  replace HB := Xhb HB m6; replace LO := Xlb LO LT m6; exact bodyPost_ret (v := .tuple #[.agg #[.int .i64 p.base, .slice wa p.nw wc, .int .i64 p.want, .slice ga p.ng gc, .slice da p.nd dc, .slice ua p.nu uc], .int .i64 c]) (by simp [results, Try.results59, go_sem, q1_0, q1_1, q1_2, q1_3, q1_4, q1_5]) rfl ⟨rfl, HB.out, LO.out⟩

set_option maxHeartbeats 4000000 in
set_option maxRecDepth 20000 in
theorem acted_flip_ok (p : Lk) (wa ga da ua : Option Addr) (wc gc dc uc : Nat) (base : Nat) (w : World) (hr : Lr w base (.slice wa p.nw wc) (.slice ga p.ng gc) (.slice da p.nd dc) (.slice ua p.nu uc) p) (hle : base ≤ w.heap.size) (up : Bool) (z bit : Int) (q : Lk) (hcon : ∀ V : World, Lr V base (.slice wa p.nw wc) (.slice ga p.ng gc) (.slice da p.nd dc) (.slice ua p.nu uc) p → base ≤ V.heap.size → Calls Try.prog 73 #[.agg (l6 p.base (.slice wa p.nw wc) p.want (.slice ga p.ng gc) (.slice da p.nd dc) (.slice ua p.nu uc)), .agg #[.bool up, .int .i64 z, .int .i64 bit]] V (OkC (.slice wa p.nw wc) (.slice ga p.ng gc) (.slice da p.nd dc) (.slice ua p.nu uc) base V p q)) :
    Calls Try.prog 59 #[.agg (l6 p.base (.slice wa p.nw wc) p.want (.slice ga p.ng gc) (.slice da p.nd dc) (.slice ua p.nu uc)), .iface 108 (.agg #[.bool up, .int .i64 z, .int .i64 bit])] w (OkC (.slice wa p.nw wc) (.slice ga p.ng gc) (.slice da p.nd dc) (.slice ua p.nu uc) base w p q) := by
  have HB : Hid (Mv (Lrb (.slice wa p.nw wc) (.slice ga p.ng gc) (.slice da p.nd dc) (.slice ua p.nu uc)) w w) := hide (Mv.refl _ _)
  have LO := hide hr
  have LT := hide (fun g (h : Lrb (.slice wa p.nw wc) (.slice ga p.ng gc) (.slice da p.nd dc) (.slice ua p.nu uc) g) => (hr.lt g h).2)
  have hbs : base ≤ w.heap.size := hle
  clear hr hle
  go_enter Try.func59, Try.ntmps59
  refine sk fun K hK => rl ?_
  refine sbp #[.int .i64 p.base, .slice wa p.nw wc, .int .i64 p.want, .slice ga p.ng gc, .slice da p.nd dc, .slice ua p.nu uc] 30 fun V1 b0 hb0 m1 bx0 => ?_
  have o_0 : w.heap.size ≤ b0 := by omega
  clear hb0
  refine sbp #[.int .i64 0, .slice none 0 0, .int .i64 0, .slice none 0 0, .slice none 0 0, .slice none 0 0] 30 fun V2 b1 hb1 m2 bx1 => ?_
  have o0_1 := Xlo bx0 hb1; clear hb1
  refine sv (.int .i64 0) ?_
  refine nt (hK _ _ ?_); clear hK K; refine sk fun K hK => sk fun K hK => rl ?_
  refine sv (.iface 108 (.agg #[.bool up, .int .i64 z, .int .i64 bit])) ?_
  refine nt (hK _ _ ?_); clear hK K; refine wp_block (sk fun K hK => rl ?_)
  refine sg (.tuple #[.agg #[.string ⟨#[]⟩], .bool false]) (h := by have hta := ta_flip_offer; go_simp) ?_
  refine sv (.bool false) ?_
  refine sv (.agg #[.string ⟨#[]⟩]) ?_
  refine nt (hK _ _ ?_); clear hK K; refine cf (sk fun K hK => rl ?_)
  refine sg (.tuple #[.agg #[], .bool false]) (h := by have hta := ta_flip_send; go_simp) ?_
  refine sv (.bool false) ?_
  refine sv (.agg #[]) ?_
  refine nt (hK _ _ ?_); clear hK K; refine cf (sk fun K hK => rl ?_)
  refine sg (.tuple #[.agg #[.bool false, .int .i64 0], .bool false]) (h := by have hta := ta_flip_come; go_simp) ?_
  refine sv (.bool false) ?_
  refine sv (.agg #[.bool false, .int .i64 0]) ?_
  refine nt (hK _ _ ?_); clear hK K; refine cf (sk fun K hK => rl ?_)
  refine sg (.tuple #[.agg #[.bool false, .int .i64 0], .bool false]) (h := by have hta := ta_flip_lose; go_simp) ?_
  refine sv (.bool false) ?_
  refine sv (.agg #[.bool false, .int .i64 0]) ?_
  refine nt (hK _ _ ?_); clear hK K; refine cf (sk fun K hK => rl ?_)
  refine sg (.tuple #[.agg #[.bool up, .int .i64 z, .int .i64 bit], .bool true]) (h := by have hta := ta_flip_flip; go_simp) ?_
  refine sv (.bool true) ?_
  refine sv (.agg #[.bool up, .int .i64 z, .int .i64 bit]) ?_
  refine nt (hK _ _ ?_); clear hK K; refine ct (sk fun K hK => rl ?_)
  refine sbp #[.bool false, .int .i64 0, .int .i64 0] 108 fun V3 b2 hb2 m3 bx2 => ?_
  have o1_2 := Xlo bx1 hb2; clear hb2
  refine ss3 (.bool up) (.int .i64 z) (.int .i64 bit) bx2 fun V4 m4 bx2 => ?_
  refine nt (hK _ _ ?_); clear hK K; refine sk fun K hK => rl ?_
  replace bx0 := Xbb (Xbn (Xbn bx0 m2) m3) m4; refine sl6 bx0 ?_
  refine sg (.agg #[.bool up, .int .i64 z, .int .i64 bit]) (h := by have z0 := cell_box 0 (bx2.out) rfl; have z1 := cell_box 1 (bx2.out) rfl; have z2 := cell_box 2 (bx2.out) rfl; go_simp) ?_
  have szT := lt_of_block bx2.out
  replace HB := Xhb (Xhn (Xhn (Xhn HB m1) m2) m3) m4; have szW := HB.out.size
  have LTm : ∀ g, Lrb (.slice wa p.nw wc) (.slice ga p.ng gc) (.slice da p.nd dc) (.slice ua p.nu uc) g → g < w.heap.size := fun g h => LT.out g h
  replace LO := Xlb (Xln (Xln (Xln LO m1) m2) m3) LT m4; refine sw_call (by rfl) (by first | rfl | (go_simp; done)) (hcon V4 LO.out (by omega)) ?_
  rintro e V5 ⟨wv, gv, dv, uv, rfl, mm, hq, hl2, hnw⟩
  have m5 : Mv (Lrb (.slice wa p.nw wc) (.slice ga p.ng gc) (.slice da p.nd dc) (.slice ua p.nu uc)) V4 V5 := mm
  refine ⟨_, rfl, ?_⟩
  refine pt ?_
  replace HB := hide (HB.out.step m5 (fun g _ h => h))
  replace bx0 := hide (m5.box bx0.out (fun h => by have := LTm _ h; omega))
  replace bx1 := Xbb (Xbn bx1 m3) m4; replace bx1 := hide (m5.box bx1.out (fun h => by have := LTm _ h; omega))
  replace bx2 := hide (m5.box bx2.out (fun h => by have := LTm _ h; omega))
  obtain ⟨xa, xc, rfl, _⟩ := hl2.wa.form
  obtain ⟨ya, yc, rfl, _⟩ := hl2.go.form
  obtain ⟨za, zc, rfl, _⟩ := hl2.dn.form
  obtain ⟨va, vc, rfl, _⟩ := hl2.up.form
  have NX : Nw V4.heap.size (.slice wa p.nw wc) (.slice ga p.ng gc) (.slice da p.nd dc) (.slice ua p.nu uc) (.slice xa q.nw xc) (.slice ya q.ng yc) (.slice za q.nd zc) (.slice va q.nu vc) := hnw
  have LN := hide (hl2)
  have AF : Hid (∀ g, Lrb (.slice xa q.nw xc) (.slice ya q.ng yc) (.slice za q.nd zc) (.slice va q.nu vc) g → g ≠ b0 ∧ g ≠ b1 ∧ g ≠ b2) := hide (fun g h => (NX g h).elim (fun h2 => by have := LT.out g h2; omega) (fun h2 => by omega))
  have AN : Hid (Nw w.heap.size (.slice wa p.nw wc) (.slice ga p.ng gc) (.slice da p.nd dc) (.slice ua p.nu uc) (.slice xa q.nw xc) (.slice ya q.ng yc) (.slice za q.nd zc) (.slice va q.nu vc)) := hide (fun g h => (NX g h).elim (fun h2 => .inl h2) (fun h2 => .inr (by omega)))
  clear NX szT szW
  replace LO := hide hq
  clear hq hl2 hnw mm LTm
  refine sv (.agg #[.int .i64 q.base, .slice xa q.nw xc, .int .i64 q.want, .slice ya q.ng yc, .slice za q.nd zc, .slice va q.nu vc]) ?_
  refine sv (.int .i64 0) ?_
  refine ss6 (.int .i64 q.base) (.slice xa q.nw xc) (.int .i64 q.want) (.slice ya q.ng yc) (.slice za q.nd zc) (.slice va q.nu vc) bx1 fun V6 m6 bx1 => ?_
  replace LN := hide (LN.out.mv m6 (fun g hg h => by have h : g = b1 := h; have := AF.out g hg; omega))
  refine sv (.int .i64 0) ?_
  refine nt (hK _ _ ?_); clear hK K; refine wp_ret ?_; refine inb_ret ?_; refine then_ret ?_
  try simp only [Exit.then, Exit.inBlock, ↓reduceIte, Nat.reduceEqDiff]
  obtain ⟨_, q1_0, q1_1, q1_2, q1_3, q1_4, q1_5⟩ := box6 bx1.out
  replace HB := Xhb HB m6; replace LO := Xlb LO LT m6; exact bodyPost_ret (v := .tuple #[.agg #[.int .i64 q.base, .slice xa q.nw xc, .int .i64 q.want, .slice ya q.ng yc, .slice za q.nd zc, .slice va q.nu vc], .int .i64 0]) (by simp [results, Try.results59, go_sem, q1_0, q1_1, q1_2, q1_3, q1_4, q1_5]) rfl ⟨_, _, _, _, rfl, HB.out, LO.out, LN.out, AN.out⟩

set_option maxHeartbeats 4000000 in
set_option maxRecDepth 20000 in
theorem acted_flip_no (p : Lk) (wa ga da ua : Option Addr) (wc gc dc uc : Nat) (base : Nat) (w : World) (hr : Lr w base (.slice wa p.nw wc) (.slice ga p.ng gc) (.slice da p.nd dc) (.slice ua p.nu uc) p) (hle : base ≤ w.heap.size) (up : Bool) (z bit : Int) (c : Int) (hcon : ∀ V : World, Lr V base (.slice wa p.nw wc) (.slice ga p.ng gc) (.slice da p.nd dc) (.slice ua p.nu uc) p → base ≤ V.heap.size → Calls Try.prog 73 #[.agg (l6 p.base (.slice wa p.nw wc) p.want (.slice ga p.ng gc) (.slice da p.nd dc) (.slice ua p.nu uc)), .agg #[.bool up, .int .i64 z, .int .i64 bit]] V (NoC (.slice wa p.nw wc) (.slice ga p.ng gc) (.slice da p.nd dc) (.slice ua p.nu uc) base V p c)) :
    Calls Try.prog 59 #[.agg (l6 p.base (.slice wa p.nw wc) p.want (.slice ga p.ng gc) (.slice da p.nd dc) (.slice ua p.nu uc)), .iface 108 (.agg #[.bool up, .int .i64 z, .int .i64 bit])] w (NoC (.slice wa p.nw wc) (.slice ga p.ng gc) (.slice da p.nd dc) (.slice ua p.nu uc) base w p c) := by
  have HB : Hid (Mv (Lrb (.slice wa p.nw wc) (.slice ga p.ng gc) (.slice da p.nd dc) (.slice ua p.nu uc)) w w) := hide (Mv.refl _ _)
  have LO := hide hr
  have LT := hide (fun g (h : Lrb (.slice wa p.nw wc) (.slice ga p.ng gc) (.slice da p.nd dc) (.slice ua p.nu uc) g) => (hr.lt g h).2)
  have hbs : base ≤ w.heap.size := hle
  clear hr hle
  go_enter Try.func59, Try.ntmps59
  refine sk fun K hK => rl ?_
  refine sbp #[.int .i64 p.base, .slice wa p.nw wc, .int .i64 p.want, .slice ga p.ng gc, .slice da p.nd dc, .slice ua p.nu uc] 30 fun V1 b0 hb0 m1 bx0 => ?_
  have o_0 : w.heap.size ≤ b0 := by omega
  clear hb0
  refine sbp #[.int .i64 0, .slice none 0 0, .int .i64 0, .slice none 0 0, .slice none 0 0, .slice none 0 0] 30 fun V2 b1 hb1 m2 bx1 => ?_
  have o0_1 := Xlo bx0 hb1; clear hb1
  refine sv (.int .i64 0) ?_
  refine nt (hK _ _ ?_); clear hK K; refine sk fun K hK => sk fun K hK => rl ?_
  refine sv (.iface 108 (.agg #[.bool up, .int .i64 z, .int .i64 bit])) ?_
  refine nt (hK _ _ ?_); clear hK K; refine wp_block (sk fun K hK => rl ?_)
  refine sg (.tuple #[.agg #[.string ⟨#[]⟩], .bool false]) (h := by have hta := ta_flip_offer; go_simp) ?_
  refine sv (.bool false) ?_
  refine sv (.agg #[.string ⟨#[]⟩]) ?_
  refine nt (hK _ _ ?_); clear hK K; refine cf (sk fun K hK => rl ?_)
  refine sg (.tuple #[.agg #[], .bool false]) (h := by have hta := ta_flip_send; go_simp) ?_
  refine sv (.bool false) ?_
  refine sv (.agg #[]) ?_
  refine nt (hK _ _ ?_); clear hK K; refine cf (sk fun K hK => rl ?_)
  refine sg (.tuple #[.agg #[.bool false, .int .i64 0], .bool false]) (h := by have hta := ta_flip_come; go_simp) ?_
  refine sv (.bool false) ?_
  refine sv (.agg #[.bool false, .int .i64 0]) ?_
  refine nt (hK _ _ ?_); clear hK K; refine cf (sk fun K hK => rl ?_)
  refine sg (.tuple #[.agg #[.bool false, .int .i64 0], .bool false]) (h := by have hta := ta_flip_lose; go_simp) ?_
  refine sv (.bool false) ?_
  refine sv (.agg #[.bool false, .int .i64 0]) ?_
  refine nt (hK _ _ ?_); clear hK K; refine cf (sk fun K hK => rl ?_)
  refine sg (.tuple #[.agg #[.bool up, .int .i64 z, .int .i64 bit], .bool true]) (h := by have hta := ta_flip_flip; go_simp) ?_
  refine sv (.bool true) ?_
  refine sv (.agg #[.bool up, .int .i64 z, .int .i64 bit]) ?_
  refine nt (hK _ _ ?_); clear hK K; refine ct (sk fun K hK => rl ?_)
  refine sbp #[.bool false, .int .i64 0, .int .i64 0] 108 fun V3 b2 hb2 m3 bx2 => ?_
  have o1_2 := Xlo bx1 hb2; clear hb2
  refine ss3 (.bool up) (.int .i64 z) (.int .i64 bit) bx2 fun V4 m4 bx2 => ?_
  refine nt (hK _ _ ?_); clear hK K; refine sk fun K hK => rl ?_
  replace bx0 := Xbb (Xbn (Xbn bx0 m2) m3) m4; refine sl6 bx0 ?_
  refine sg (.agg #[.bool up, .int .i64 z, .int .i64 bit]) (h := by have z0 := cell_box 0 (bx2.out) rfl; have z1 := cell_box 1 (bx2.out) rfl; have z2 := cell_box 2 (bx2.out) rfl; go_simp) ?_
  have szT := lt_of_block bx2.out
  replace HB := Xhb (Xhn (Xhn (Xhn HB m1) m2) m3) m4; have szW := HB.out.size
  have LTm : ∀ g, Lrb (.slice wa p.nw wc) (.slice ga p.ng gc) (.slice da p.nd dc) (.slice ua p.nu uc) g → g < w.heap.size := fun g h => LT.out g h
  replace LO := Xlb (Xln (Xln (Xln LO m1) m2) m3) LT m4; refine sw_call (by rfl) (by first | rfl | (go_simp; done)) (hcon V4 LO.out (by omega)) ?_
  rintro e V5 ⟨rfl, mm, hq⟩
  have m5 : Mv (Lrb (.slice wa p.nw wc) (.slice ga p.ng gc) (.slice da p.nd dc) (.slice ua p.nu uc)) V4 V5 := mm
  refine ⟨_, rfl, ?_⟩
  refine pt ?_
  replace HB := hide (HB.out.step m5 (fun g _ h => h))
  replace bx0 := hide (m5.box bx0.out (fun h => by have := LTm _ h; omega))
  replace bx1 := Xbb (Xbn bx1 m3) m4; replace bx1 := hide (m5.box bx1.out (fun h => by have := LTm _ h; omega))
  replace bx2 := hide (m5.box bx2.out (fun h => by have := LTm _ h; omega))
  replace LO := hide hq
  clear hq mm LTm szT szW
  refine sv (.agg #[.int .i64 p.base, .slice wa p.nw wc, .int .i64 p.want, .slice ga p.ng gc, .slice da p.nd dc, .slice ua p.nu uc]) ?_
  refine sv (.int .i64 c) ?_
  refine ss6 (.int .i64 p.base) (.slice wa p.nw wc) (.int .i64 p.want) (.slice ga p.ng gc) (.slice da p.nd dc) (.slice ua p.nu uc) bx1 fun V6 m6 bx1 => ?_
  refine sv (.int .i64 c) ?_
  refine nt (hK _ _ ?_); clear hK K; refine wp_ret ?_; refine inb_ret ?_; refine then_ret ?_
  try simp only [Exit.then, Exit.inBlock, ↓reduceIte, Nat.reduceEqDiff]
  obtain ⟨_, q1_0, q1_1, q1_2, q1_3, q1_4, q1_5⟩ := box6 bx1.out
  replace HB := Xhb HB m6; replace LO := Xlb LO LT m6; exact bodyPost_ret (v := .tuple #[.agg #[.int .i64 p.base, .slice wa p.nw wc, .int .i64 p.want, .slice ga p.ng gc, .slice da p.nd dc, .slice ua p.nu uc], .int .i64 c]) (by simp [results, Try.results59, go_sem, q1_0, q1_1, q1_2, q1_3, q1_4, q1_5]) rfl ⟨rfl, HB.out, LO.out⟩

set_option maxHeartbeats 4000000 in
set_option maxRecDepth 20000 in
theorem acted_lose_ok (p : Lk) (wa ga da ua : Option Addr) (wc gc dc uc : Nat) (base : Nat) (w : World) (hr : Lr w base (.slice wa p.nw wc) (.slice ga p.ng gc) (.slice da p.nd dc) (.slice ua p.nu uc) p) (hle : base ≤ w.heap.size) (up : Bool) (z : Int) (q : Lk) (hcon : ∀ V : World, Lr V base (.slice wa p.nw wc) (.slice ga p.ng gc) (.slice da p.nd dc) (.slice ua p.nu uc) p → base ≤ V.heap.size → Calls Try.prog 72 #[.agg (l6 p.base (.slice wa p.nw wc) p.want (.slice ga p.ng gc) (.slice da p.nd dc) (.slice ua p.nu uc)), .agg #[.bool up, .int .i64 z]] V (fun e w' => ∃ sx wv gv dv uv, e = .returned (.tuple #[.string sx, .agg (l6 q.base wv q.want gv dv uv), .int .i64 0]) ∧ Mv (Lrb (.slice wa p.nw wc) (.slice ga p.ng gc) (.slice da p.nd dc) (.slice ua p.nu uc)) V w' ∧ Lr w' base (.slice wa p.nw wc) (.slice ga p.ng gc) (.slice da p.nd dc) (.slice ua p.nu uc) p ∧ Lr w' base wv gv dv uv q ∧ Nw V.heap.size (.slice wa p.nw wc) (.slice ga p.ng gc) (.slice da p.nd dc) (.slice ua p.nu uc) wv gv dv uv)) :
    Calls Try.prog 59 #[.agg (l6 p.base (.slice wa p.nw wc) p.want (.slice ga p.ng gc) (.slice da p.nd dc) (.slice ua p.nu uc)), .iface 104 (.agg #[.bool up, .int .i64 z])] w (OkC (.slice wa p.nw wc) (.slice ga p.ng gc) (.slice da p.nd dc) (.slice ua p.nu uc) base w p q) := by
  have HB : Hid (Mv (Lrb (.slice wa p.nw wc) (.slice ga p.ng gc) (.slice da p.nd dc) (.slice ua p.nu uc)) w w) := hide (Mv.refl _ _)
  have LO := hide hr
  have LT := hide (fun g (h : Lrb (.slice wa p.nw wc) (.slice ga p.ng gc) (.slice da p.nd dc) (.slice ua p.nu uc) g) => (hr.lt g h).2)
  have hbs : base ≤ w.heap.size := hle
  clear hr hle
  go_enter Try.func59, Try.ntmps59
  refine sk fun K hK => rl ?_
  refine sbp #[.int .i64 p.base, .slice wa p.nw wc, .int .i64 p.want, .slice ga p.ng gc, .slice da p.nd dc, .slice ua p.nu uc] 30 fun V1 b0 hb0 m1 bx0 => ?_
  have o_0 : w.heap.size ≤ b0 := by omega
  clear hb0
  refine sbp #[.int .i64 0, .slice none 0 0, .int .i64 0, .slice none 0 0, .slice none 0 0, .slice none 0 0] 30 fun V2 b1 hb1 m2 bx1 => ?_
  have o0_1 := Xlo bx0 hb1; clear hb1
  refine sv (.int .i64 0) ?_
  refine nt (hK _ _ ?_); clear hK K; refine sk fun K hK => sk fun K hK => rl ?_
  refine sv (.iface 104 (.agg #[.bool up, .int .i64 z])) ?_
  refine nt (hK _ _ ?_); clear hK K; refine wp_block (sk fun K hK => rl ?_)
  refine sg (.tuple #[.agg #[.string ⟨#[]⟩], .bool false]) (h := by have hta := ta_lose_offer; go_simp) ?_
  refine sv (.bool false) ?_
  refine sv (.agg #[.string ⟨#[]⟩]) ?_
  refine nt (hK _ _ ?_); clear hK K; refine cf (sk fun K hK => rl ?_)
  refine sg (.tuple #[.agg #[], .bool false]) (h := by have hta := ta_lose_send; go_simp) ?_
  refine sv (.bool false) ?_
  refine sv (.agg #[]) ?_
  refine nt (hK _ _ ?_); clear hK K; refine cf (sk fun K hK => rl ?_)
  refine sg (.tuple #[.agg #[.bool false, .int .i64 0], .bool false]) (h := by have hta := ta_lose_come; go_simp) ?_
  refine sv (.bool false) ?_
  refine sv (.agg #[.bool false, .int .i64 0]) ?_
  refine nt (hK _ _ ?_); clear hK K; refine cf (sk fun K hK => rl ?_)
  refine sg (.tuple #[.agg #[.bool up, .int .i64 z], .bool true]) (h := by have hta := ta_lose_lose; go_simp) ?_
  refine sv (.bool true) ?_
  refine sv (.agg #[.bool up, .int .i64 z]) ?_
  refine nt (hK _ _ ?_); clear hK K; refine ct (sk fun K hK => rl ?_)
  refine sbp #[.bool false, .int .i64 0] 104 fun V3 b2 hb2 m3 bx2 => ?_
  have o1_2 := Xlo bx1 hb2; clear hb2
  refine ss2 (.bool up) (.int .i64 z) bx2 fun V4 m4 bx2 => ?_
  refine nt (hK _ _ ?_); clear hK K; refine sk fun K hK => rl ?_
  replace bx0 := Xbb (Xbn (Xbn bx0 m2) m3) m4; refine sl6 bx0 ?_
  refine sv (.pointer (some ⟨b2, 0, none⟩)) ?_
  refine sg (.agg #[.bool up, .int .i64 z]) (h := by have z0 := cell_box 0 (bx2.out) rfl; have z1 := cell_box 1 (bx2.out) rfl; go_simp) ?_
  have szT := lt_of_block bx2.out
  replace HB := Xhb (Xhn (Xhn (Xhn HB m1) m2) m3) m4; have szW := HB.out.size
  have LTm : ∀ g, Lrb (.slice wa p.nw wc) (.slice ga p.ng gc) (.slice da p.nd dc) (.slice ua p.nu uc) g → g < w.heap.size := fun g h => LT.out g h
  replace LO := Xlb (Xln (Xln (Xln LO m1) m2) m3) LT m4; refine sw_call (by rfl) (by first | rfl | (go_simp; done)) (hcon V4 LO.out (by omega)) ?_
  rintro e V5 ⟨sx, wv, gv, dv, uv, rfl, mm, hq, hl2, hnw⟩
  have m5 : Mv (Lrb (.slice wa p.nw wc) (.slice ga p.ng gc) (.slice da p.nd dc) (.slice ua p.nu uc)) V4 V5 := mm
  refine ⟨_, rfl, ?_⟩
  refine pt ?_
  replace HB := hide (HB.out.step m5 (fun g _ h => h))
  replace bx0 := hide (m5.box bx0.out (fun h => by have := LTm _ h; omega))
  replace bx1 := Xbb (Xbn bx1 m3) m4; replace bx1 := hide (m5.box bx1.out (fun h => by have := LTm _ h; omega))
  replace bx2 := hide (m5.box bx2.out (fun h => by have := LTm _ h; omega))
  obtain ⟨xa, xc, rfl, _⟩ := hl2.wa.form
  obtain ⟨ya, yc, rfl, _⟩ := hl2.go.form
  obtain ⟨za, zc, rfl, _⟩ := hl2.dn.form
  obtain ⟨va, vc, rfl, _⟩ := hl2.up.form
  have NX : Nw V4.heap.size (.slice wa p.nw wc) (.slice ga p.ng gc) (.slice da p.nd dc) (.slice ua p.nu uc) (.slice xa q.nw xc) (.slice ya q.ng yc) (.slice za q.nd zc) (.slice va q.nu vc) := hnw
  have LN := hide (hl2)
  have AF : Hid (∀ g, Lrb (.slice xa q.nw xc) (.slice ya q.ng yc) (.slice za q.nd zc) (.slice va q.nu vc) g → g ≠ b0 ∧ g ≠ b1 ∧ g ≠ b2) := hide (fun g h => (NX g h).elim (fun h2 => by have := LT.out g h2; omega) (fun h2 => by omega))
  have AN : Hid (Nw w.heap.size (.slice wa p.nw wc) (.slice ga p.ng gc) (.slice da p.nd dc) (.slice ua p.nu uc) (.slice xa q.nw xc) (.slice ya q.ng yc) (.slice za q.nd zc) (.slice va q.nu vc)) := hide (fun g h => (NX g h).elim (fun h2 => .inl h2) (fun h2 => .inr (by omega)))
  clear NX szT szW
  replace LO := hide hq
  clear hq hl2 hnw mm LTm
  refine sv (.tuple #[.string sx, .agg #[.int .i64 q.base, .slice xa q.nw xc, .int .i64 q.want, .slice ya q.ng yc, .slice za q.nd zc, .slice va q.nu vc], .int .i64 0]) ?_
  refine sv (.string sx) ?_
  refine sv (.agg #[.int .i64 q.base, .slice xa q.nw xc, .int .i64 q.want, .slice ya q.ng yc, .slice za q.nd zc, .slice va q.nu vc]) ?_
  refine sv (.int .i64 0) ?_
  refine sbp #[.int .i64 0, .slice none 0 0, .int .i64 0, .slice none 0 0, .slice none 0 0, .slice none 0 0] 30 fun V6 b3 hb3 m6 bx3 => ?_
  have o2_3 := Xlo bx2 hb3
  replace AF : Hid (∀ g, Lrb (.slice xa q.nw xc) (.slice ya q.ng yc) (.slice za q.nd zc) (.slice va q.nu vc) g → g ≠ b0 ∧ g ≠ b1 ∧ g ≠ b2 ∧ g ≠ b3) := hide (fun g h => by have h1 := AF.out g h; have h2 := (LN.out.lt g h).2; refine (?_ : _ ∧ _); exact (by omega))
  clear hb3
  refine sv (.string sx) ?_
  refine ss6 (.int .i64 q.base) (.slice xa q.nw xc) (.int .i64 q.want) (.slice ya q.ng yc) (.slice za q.nd zc) (.slice va q.nu vc) bx3 fun V7 m7 bx3 => ?_
  replace LN := Xln LN m6; replace LN := hide (LN.out.mv m7 (fun g hg h => by have h : g = b3 := h; have := AF.out g hg; omega))
  refine sv (.int .i64 0) ?_
  refine nt (hK _ _ ?_); clear hK K; refine sk fun K hK => rl ?_
  refine sl6 bx3 ?_
  refine sv (.int .i64 0) ?_
  replace bx1 := Xbb (Xbn bx1 m6) m7; refine ss6 (.int .i64 q.base) (.slice xa q.nw xc) (.int .i64 q.want) (.slice ya q.ng yc) (.slice za q.nd zc) (.slice va q.nu vc) bx1 fun V8 m8 bx1 => ?_
  replace LN := hide (LN.out.mv m8 (fun g hg h => by have h : g = b1 := h; have := AF.out g hg; omega))
  refine sv (.int .i64 0) ?_
  refine nt (hK _ _ ?_); clear hK K; refine wp_ret ?_; refine inb_ret ?_; refine then_ret ?_
  try simp only [Exit.then, Exit.inBlock, ↓reduceIte, Nat.reduceEqDiff]
  obtain ⟨_, q1_0, q1_1, q1_2, q1_3, q1_4, q1_5⟩ := box6 bx1.out
  replace HB := Xhb (Xhb (Xhn HB m6) m7) m8; replace LO := Xlb (Xlb (Xln LO m6) LT m7) LT m8; exact bodyPost_ret (v := .tuple #[.agg #[.int .i64 q.base, .slice xa q.nw xc, .int .i64 q.want, .slice ya q.ng yc, .slice za q.nd zc, .slice va q.nu vc], .int .i64 0]) (by simp [results, Try.results59, go_sem, q1_0, q1_1, q1_2, q1_3, q1_4, q1_5]) rfl ⟨_, _, _, _, rfl, HB.out, LO.out, LN.out, AN.out⟩

set_option maxHeartbeats 4000000 in
set_option maxRecDepth 20000 in
theorem acted_lose_no (p : Lk) (wa ga da ua : Option Addr) (wc gc dc uc : Nat) (base : Nat) (w : World) (hr : Lr w base (.slice wa p.nw wc) (.slice ga p.ng gc) (.slice da p.nd dc) (.slice ua p.nu uc) p) (hle : base ≤ w.heap.size) (up : Bool) (z : Int) (c : Int) (hcon : ∀ V : World, Lr V base (.slice wa p.nw wc) (.slice ga p.ng gc) (.slice da p.nd dc) (.slice ua p.nu uc) p → base ≤ V.heap.size → Calls Try.prog 72 #[.agg (l6 p.base (.slice wa p.nw wc) p.want (.slice ga p.ng gc) (.slice da p.nd dc) (.slice ua p.nu uc)), .agg #[.bool up, .int .i64 z]] V (fun e w' => ∃ sx, e = .returned (.tuple #[.string sx, .agg (l6 p.base (.slice wa p.nw wc) p.want (.slice ga p.ng gc) (.slice da p.nd dc) (.slice ua p.nu uc)), .int .i64 c]) ∧ Mv (Lrb (.slice wa p.nw wc) (.slice ga p.ng gc) (.slice da p.nd dc) (.slice ua p.nu uc)) V w' ∧ Lr w' base (.slice wa p.nw wc) (.slice ga p.ng gc) (.slice da p.nd dc) (.slice ua p.nu uc) p)) :
    Calls Try.prog 59 #[.agg (l6 p.base (.slice wa p.nw wc) p.want (.slice ga p.ng gc) (.slice da p.nd dc) (.slice ua p.nu uc)), .iface 104 (.agg #[.bool up, .int .i64 z])] w (NoC (.slice wa p.nw wc) (.slice ga p.ng gc) (.slice da p.nd dc) (.slice ua p.nu uc) base w p c) := by
  have HB : Hid (Mv (Lrb (.slice wa p.nw wc) (.slice ga p.ng gc) (.slice da p.nd dc) (.slice ua p.nu uc)) w w) := hide (Mv.refl _ _)
  have LO := hide hr
  have LT := hide (fun g (h : Lrb (.slice wa p.nw wc) (.slice ga p.ng gc) (.slice da p.nd dc) (.slice ua p.nu uc) g) => (hr.lt g h).2)
  have hbs : base ≤ w.heap.size := hle
  clear hr hle
  go_enter Try.func59, Try.ntmps59
  refine sk fun K hK => rl ?_
  refine sbp #[.int .i64 p.base, .slice wa p.nw wc, .int .i64 p.want, .slice ga p.ng gc, .slice da p.nd dc, .slice ua p.nu uc] 30 fun V1 b0 hb0 m1 bx0 => ?_
  have o_0 : w.heap.size ≤ b0 := by omega
  clear hb0
  refine sbp #[.int .i64 0, .slice none 0 0, .int .i64 0, .slice none 0 0, .slice none 0 0, .slice none 0 0] 30 fun V2 b1 hb1 m2 bx1 => ?_
  have o0_1 := Xlo bx0 hb1; clear hb1
  refine sv (.int .i64 0) ?_
  refine nt (hK _ _ ?_); clear hK K; refine sk fun K hK => sk fun K hK => rl ?_
  refine sv (.iface 104 (.agg #[.bool up, .int .i64 z])) ?_
  refine nt (hK _ _ ?_); clear hK K; refine wp_block (sk fun K hK => rl ?_)
  refine sg (.tuple #[.agg #[.string ⟨#[]⟩], .bool false]) (h := by have hta := ta_lose_offer; go_simp) ?_
  refine sv (.bool false) ?_
  refine sv (.agg #[.string ⟨#[]⟩]) ?_
  refine nt (hK _ _ ?_); clear hK K; refine cf (sk fun K hK => rl ?_)
  refine sg (.tuple #[.agg #[], .bool false]) (h := by have hta := ta_lose_send; go_simp) ?_
  refine sv (.bool false) ?_
  refine sv (.agg #[]) ?_
  refine nt (hK _ _ ?_); clear hK K; refine cf (sk fun K hK => rl ?_)
  refine sg (.tuple #[.agg #[.bool false, .int .i64 0], .bool false]) (h := by have hta := ta_lose_come; go_simp) ?_
  refine sv (.bool false) ?_
  refine sv (.agg #[.bool false, .int .i64 0]) ?_
  refine nt (hK _ _ ?_); clear hK K; refine cf (sk fun K hK => rl ?_)
  refine sg (.tuple #[.agg #[.bool up, .int .i64 z], .bool true]) (h := by have hta := ta_lose_lose; go_simp) ?_
  refine sv (.bool true) ?_
  refine sv (.agg #[.bool up, .int .i64 z]) ?_
  refine nt (hK _ _ ?_); clear hK K; refine ct (sk fun K hK => rl ?_)
  refine sbp #[.bool false, .int .i64 0] 104 fun V3 b2 hb2 m3 bx2 => ?_
  have o1_2 := Xlo bx1 hb2; clear hb2
  refine ss2 (.bool up) (.int .i64 z) bx2 fun V4 m4 bx2 => ?_
  refine nt (hK _ _ ?_); clear hK K; refine sk fun K hK => rl ?_
  replace bx0 := Xbb (Xbn (Xbn bx0 m2) m3) m4; refine sl6 bx0 ?_
  refine sv (.pointer (some ⟨b2, 0, none⟩)) ?_
  refine sg (.agg #[.bool up, .int .i64 z]) (h := by have z0 := cell_box 0 (bx2.out) rfl; have z1 := cell_box 1 (bx2.out) rfl; go_simp) ?_
  have szT := lt_of_block bx2.out
  replace HB := Xhb (Xhn (Xhn (Xhn HB m1) m2) m3) m4; have szW := HB.out.size
  have LTm : ∀ g, Lrb (.slice wa p.nw wc) (.slice ga p.ng gc) (.slice da p.nd dc) (.slice ua p.nu uc) g → g < w.heap.size := fun g h => LT.out g h
  replace LO := Xlb (Xln (Xln (Xln LO m1) m2) m3) LT m4; refine sw_call (by rfl) (by first | rfl | (go_simp; done)) (hcon V4 LO.out (by omega)) ?_
  rintro e V5 ⟨sx, rfl, mm, hq⟩
  have m5 : Mv (Lrb (.slice wa p.nw wc) (.slice ga p.ng gc) (.slice da p.nd dc) (.slice ua p.nu uc)) V4 V5 := mm
  refine ⟨_, rfl, ?_⟩
  refine pt ?_
  replace HB := hide (HB.out.step m5 (fun g _ h => h))
  replace bx0 := hide (m5.box bx0.out (fun h => by have := LTm _ h; omega))
  replace bx1 := Xbb (Xbn bx1 m3) m4; replace bx1 := hide (m5.box bx1.out (fun h => by have := LTm _ h; omega))
  replace bx2 := hide (m5.box bx2.out (fun h => by have := LTm _ h; omega))
  replace LO := hide hq
  clear hq mm LTm szT szW
  refine sv (.tuple #[.string sx, .agg #[.int .i64 p.base, .slice wa p.nw wc, .int .i64 p.want, .slice ga p.ng gc, .slice da p.nd dc, .slice ua p.nu uc], .int .i64 c]) ?_
  refine sv (.string sx) ?_
  refine sv (.agg #[.int .i64 p.base, .slice wa p.nw wc, .int .i64 p.want, .slice ga p.ng gc, .slice da p.nd dc, .slice ua p.nu uc]) ?_
  refine sv (.int .i64 c) ?_
  refine sbp #[.int .i64 0, .slice none 0 0, .int .i64 0, .slice none 0 0, .slice none 0 0, .slice none 0 0] 30 fun V6 b3 hb3 m6 bx3 => ?_
  have o2_3 := Xlo bx2 hb3; clear hb3
  refine sv (.string sx) ?_
  refine ss6 (.int .i64 p.base) (.slice wa p.nw wc) (.int .i64 p.want) (.slice ga p.ng gc) (.slice da p.nd dc) (.slice ua p.nu uc) bx3 fun V7 m7 bx3 => ?_
  refine sv (.int .i64 c) ?_
  refine nt (hK _ _ ?_); clear hK K; refine sk fun K hK => rl ?_
  refine sl6 bx3 ?_
  refine sv (.int .i64 c) ?_
  replace bx1 := Xbb (Xbn bx1 m6) m7; refine ss6 (.int .i64 p.base) (.slice wa p.nw wc) (.int .i64 p.want) (.slice ga p.ng gc) (.slice da p.nd dc) (.slice ua p.nu uc) bx1 fun V8 m8 bx1 => ?_
  refine sv (.int .i64 c) ?_
  refine nt (hK _ _ ?_); clear hK K; refine wp_ret ?_; refine inb_ret ?_; refine then_ret ?_
  try simp only [Exit.then, Exit.inBlock, ↓reduceIte, Nat.reduceEqDiff]
  obtain ⟨_, q1_0, q1_1, q1_2, q1_3, q1_4, q1_5⟩ := box6 bx1.out
  replace HB := Xhb (Xhb (Xhn HB m6) m7) m8; replace LO := Xlb (Xlb (Xln LO m6) LT m7) LT m8; exact bodyPost_ret (v := .tuple #[.agg #[.int .i64 p.base, .slice wa p.nw wc, .int .i64 p.want, .slice ga p.ng gc, .slice da p.nd dc, .slice ua p.nu uc], .int .i64 c]) (by simp [results, Try.results59, go_sem, q1_0, q1_1, q1_2, q1_3, q1_4, q1_5]) rfl ⟨rfl, HB.out, LO.out⟩


end Go.Proofs.Ytnkocikbapbbmaa
