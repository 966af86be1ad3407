/- LdM -/
import Derived.Test.YtnkocikbapbbmaaYnkPlay24
/- impl.come (written by mkLdM.py) -/
namespace Go.Proofs.Ytnkocikbapbbmaa
open Go.RowKit
set_option linter.unusedVariables false
set_option linter.unusedSimpArgs false

/-- a link without the text at a place -/
def outD (p : Lk) (z : Nat) : Lk := { p with nd := p.nd - 1, dt := dlt p.dt z, dh := dlt p.dh z }
def outU (p : Lk) (z : Nat) : Lk := { p with nu := p.nu - 1, ut := dlt p.ut z, uh := dlt p.uh z }
def comeD (p : Lk) (z : Nat) : Lk := if Flit.rd (p.dt z) && decide (Flit.rK (p.dt z) = 1) then dgL (outD p z) (Flit.rS (p.dt z)) (Flit.rB (p.dt z)) else outD p z
def comeU (p : Lk) (z : Nat) : Lk := if Flit.rd (p.ut z) && decide (Flit.rK (p.ut z) = 2) then ackL (outU p z) (Flit.rS (p.ut z)) else outU p z
theorem read_as (s : ByteArray) (b : Bool) (h : Flit.rd s = b) (w : World) (hl : s.size ≤ 15) : Calls Try.prog 78 #[.string s] w fun e w' => e = .returned (.tuple #[.agg #[.int .i64 (Flit.rK s), .int .i64 (Flit.rS s), .string (Flit.rB s)], .bool b]) ∧ Below w.heap.size w w' := by
  subst h; exact implRead_any s w (by omega)

theorem acked_nw (p : Lk) (q : Int) (wv gv dv uv : Value) (base : Nat) (w : World) (hr : Lr w base wv gv dv uv p) (h0 : 0 ≤ p.base) (hk : p.want ≤ 1000000) (hn : p.want ≤ p.base + p.nw) :
    Calls Try.prog 79 #[.agg (l6 p.base wv p.want gv dv uv), .int .i64 q] w fun e w' => ∃ xa xc, e = .returned (.agg (l6 (ackL p q).base (.slice xa (ackL p q).nw xc) (ackL p q).want gv dv uv)) ∧ Lr w' base (.slice xa (ackL p q).nw xc) gv dv uv (ackL p q) ∧ Below w.heap.size w w' ∧ ∀ g, rb (.slice xa (ackL p q).nw xc) = some g → rb wv = some g := by
  obtain ⟨ga, gc, rfl, _⟩ := hr.go.form
  obtain ⟨da, dc, rfl, _⟩ := hr.dn.form
  obtain ⟨ua, uc, rfl, _⟩ := hr.up.form
  cases hc : ackB p.base p.want q with
  | false =>
    obtain ⟨wa, wc, rfl, _⟩ := hr.wa.form
    have e : ackL p q = p := by simp [ackL, hc]
    rw [e]
    exact (acked_no _ _ _ _ _ _ _ _ _ _ _ _ _ _ q w hc).mono (fun _ w' ⟨h, hb⟩ => ⟨_, _, h, hr.below hb, hb, fun _ h => h⟩)
  | true =>
    have e : ackL p q = { p with base := q, nw := p.nw - (q - p.base).toNat, ws := fun x => p.ws (x + (q - p.base).toNat) } := by simp [ackL, hc]
    rw [e]
    have hh : p.base < q ∧ q ≤ p.want := by simpa [ackB] using hc
    obtain ⟨v', hs, ht, hrb⟩ := hr.wa.tail (j := (q - p.base).toNat) (by omega) (by omega)
    obtain ⟨xa, xc, rfl, _⟩ := ht.form
    obtain ⟨wa, wc, rfl, _⟩ := hr.wa.form
    refine (acked_yes _ _ _ _ _ _ _ _ _ _ _ _ _ _ _ _ _ q (q - p.base).toNat w hh.1 hh.2 h0 hk (by omega) hs).mono (fun _ w' ⟨h, hb⟩ => ⟨_, _, h, ?_, hb, hrb⟩)
    exact Lr.below ⟨ht, hr.go, hr.dn, hr.up, fun g hg => hr.aw g (hrb g hg), hr.ag, hr.ad⟩ hb

set_option maxHeartbeats 4000000 in
set_option maxRecDepth 20000 in
theorem come_d (p : Lk) (z : Nat) (wa ga da ua : Option Addr) (wc gc dc uc : Nat) (base : Nat) (w : World) (hr : Lr w base (.slice wa p.nw wc) (.slice ga p.ng gc) (.slice da p.nd dc) (.slice ua p.nu uc) p) (hle : base ≤ w.heap.size) (hz : z < p.nd) (hts : (p.dt z).size ≤ 15) (h0 : 0 ≤ p.base) (h1 : p.base ≤ 999900) (h3 : p.nw ≤ 8) (hk : p.want ≤ 1000000) (h6 : 0 ≤ p.want) (hn : p.want ≤ p.base + p.nw) (hng : p.ng ≤ 1048000) (hnd : p.nd ≤ 12) (hnu : p.nu ≤ 1048000) :
    Calls Try.prog 71 #[.agg (l6 p.base (.slice wa p.nw wc) p.want (.slice ga p.ng gc) (.slice da p.nd dc) (.slice ua p.nu uc)), .agg #[.bool false, .int .i64 (z : Int)]] w fun e w' => ∃ wv gv dv uv, e = .returned (.tuple #[.agg (l6 (comeD p z).base wv (comeD p z).want gv dv uv), .int .i64 0]) ∧ Mv (Lrb (.slice wa p.nw wc) (.slice ga p.ng gc) (.slice da p.nd dc) (.slice ua p.nu uc)) w w' ∧ Lr w' base (.slice wa p.nw wc) (.slice ga p.ng gc) (.slice da p.nd dc) (.slice ua p.nu uc) p ∧ Lr w' base wv gv dv uv (comeD p z) ∧ Nw w.heap.size (.slice wa p.nw wc) (.slice ga p.ng gc) (.slice da p.nd dc) (.slice ua p.nu uc) wv gv dv uv := by
  cases hrd : Flit.rd (p.dt z) with
  | false =>
    have HD : comeD p z = outD p z := by simp [comeD, hrd]
    have HB : Hid (Mv (Lrb (.slice wa p.nw wc) (.slice ga p.ng gc) (.slice da p.nd dc) (.slice ua p.nu uc)) w w) := hide (Mv.refl _ _)
    have LO := hide hr
    have LT := hide (fun g (h : Lrb (.slice wa p.nw wc) (.slice ga p.ng gc) (.slice da p.nd dc) (.slice ua p.nu uc) g) => (hr.lt g h).2)
    have hbs : base ≤ w.heap.size := hle
    clear hr hle
    go_enter Try.func71, Try.ntmps71
    refine sk fun K hK => rl ?_
    refine sbp #[.int .i64 p.base, .slice wa p.nw wc, .int .i64 p.want, .slice ga p.ng gc, .slice da p.nd dc, .slice ua p.nu uc] 30 fun V1 b0 hb0 m1 bx0 => ?_
    have o_0 : w.heap.size ≤ b0 := by omega
    clear hb0
    refine sbp #[.bool false, .int .i64 ((z : Int))] 100 fun V2 b1 hb1 m2 bx1 => ?_
    have o0_1 := Xlo bx0 hb1; clear hb1
    refine sbp #[.int .i64 0, .slice none 0 0, .int .i64 0, .slice none 0 0, .slice none 0 0, .slice none 0 0] 30 fun V3 b2 hb2 m3 bx2 => ?_
    have o1_2 := Xlo bx1 hb2; clear hb2
    refine sv (.int .i64 0) ?_
    refine nt (hK _ _ ?_); clear hK K; refine sk fun K hK => rl ?_
    replace bx0 := Xbn (Xbn bx0 m2) m3; refine sl6 bx0 ?_
    replace bx1 := Xbn bx1 m3; refine sg (.agg #[.bool false, .int .i64 ((z : Int))]) (h := by have z0 := cell_box 0 (bx1.out) rfl; have z1 := cell_box 1 (bx1.out) rfl; go_simp) ?_
    have szT := lt_of_block bx2.out
    replace HB := Xhn (Xhn (Xhn HB m1) m2) m3; have szW := HB.out.size
    replace LO := Xln (Xln (Xln LO m1) m2) m3; refine sw_call (by rfl) (by first | rfl | (go_simp; done)) (taken_dn p.base p.want wa ga da ua p.nw p.ng p.nd p.nu wc gc dc uc base z p.dt p.dh V3 LO.out.dn hz (by omega)) ?_
    rintro e V4 ⟨ux, kx, rfl, hrx, hbV4⟩
    have m4 : Mv (nob) V3 V4 := Mv.of_below hbV4
    refine ⟨_, rfl, ?_⟩
    refine pt ?_
    have NX : Nw V3.heap.size (.slice wa p.nw wc) (.slice ga p.ng gc) (.slice da p.nd dc) (.slice ua p.nu uc) (.slice wa p.nw wc) (.slice ga p.ng gc) (.slice ux (p.nd - 1) kx) (.slice ua p.nu uc) := nw_dn (fun g e => .inr (hrx.lt g e).1)
    have LN := hide ((LO.out.put_dn (Below.gb hbV4 _) (hrx.base (by omega)) (fun g e => .inr (hrx.lt g e).1) : Lr V4 base (.slice wa p.nw wc) (.slice ga p.ng gc) (.slice ux (p.nd - 1) kx) (.slice ua p.nu uc) (outD p z)))
    have AF : Hid (∀ g, Lrb (.slice wa p.nw wc) (.slice ga p.ng gc) (.slice ux (p.nd - 1) kx) (.slice ua p.nu uc) g → g ≠ b0 ∧ g ≠ b1 ∧ g ≠ b2) := hide (fun g h => (NX g h).elim (fun h2 => by have := LT.out g h2; omega) (fun h2 => by omega))
    have AN : Hid (Nw w.heap.size (.slice wa p.nw wc) (.slice ga p.ng gc) (.slice da p.nd dc) (.slice ua p.nu uc) (.slice wa p.nw wc) (.slice ga p.ng gc) (.slice ux (p.nd - 1) kx) (.slice ua p.nu uc)) := hide (fun g h => (NX g h).elim (fun h2 => .inl h2) (fun h2 => .inr (by omega)))
    clear NX szT szW
    replace LO := hide (LO.out.below hbV4)
    clear hbV4 hrx
    refine sv (.tuple #[.string (p.dt z), .agg #[.int .i64 p.base, .slice wa p.nw wc, .int .i64 p.want, .slice ga p.ng gc, .slice ux (p.nd - 1) kx, .slice ua p.nu uc], .int .i64 0]) ?_
    refine sv (.string (p.dt z)) ?_
    refine sv (.agg #[.int .i64 p.base, .slice wa p.nw wc, .int .i64 p.want, .slice ga p.ng gc, .slice ux (p.nd - 1) kx, .slice ua p.nu uc]) ?_
    refine sv (.int .i64 0) ?_
    refine sbp #[.int .i64 0, .slice none 0 0, .int .i64 0, .slice none 0 0, .slice none 0 0, .slice none 0 0] 30 fun V5 b3 hb3 m5 bx3 => ?_
    replace bx2 := Xbn bx2 m4; have o2_3 := Xlo bx2 hb3
    replace AF : Hid (∀ g, Lrb (.slice wa p.nw wc) (.slice ga p.ng gc) (.slice ux (p.nd - 1) kx) (.slice ua p.nu uc) g → g ≠ b0 ∧ g ≠ b1 ∧ g ≠ b2 ∧ g ≠ b3) := hide (fun g h => by have h1 := AF.out g h; have h2 := (LN.out.lt g h).2; refine (?_ : _ ∧ _); exact (by omega))
    clear hb3
    refine sv (.string (p.dt z)) ?_
    refine ss6 (.int .i64 p.base) (.slice wa p.nw wc) (.int .i64 p.want) (.slice ga p.ng gc) (.slice ux (p.nd - 1) kx) (.slice ua p.nu uc) bx3 fun V6 m6 bx3 => ?_
    replace LN := Xln LN m5; replace LN := hide (LN.out.mv m6 (fun g hg h => by have h : g = b3 := h; have := AF.out g hg; omega))
    refine sv (.int .i64 0) ?_
    refine nt (hK _ _ ?_); clear hK K; refine sk fun K hK => sk fun K hK => rl ?_
    refine sv (.int .i64 0) ?_
    refine sg (.bool false) ?_
    refine nt (hK _ _ ?_); clear hK K; refine cf (wp_skip (then_normal (hK _ _ ?_))); clear hK K; refine sk fun K hK => rl ?_
    refine sv (.string (p.dt z)) ?_
    refine sw_call (by rfl) (by first | rfl | (go_simp; done)) (read_as (p.dt z) false hrd V6 hts) ?_
    rintro e V7 ⟨rfl, hbV7⟩
    have m7 : Mv (nob) V6 V7 := Mv.of_below hbV7
    refine ⟨_, rfl, ?_⟩
    refine pt ?_
    clear hbV7
    refine sv (.tuple #[.agg #[.int .i64 (Flit.rK (p.dt z)), .int .i64 (Flit.rS (p.dt z)), .string (Flit.rB (p.dt z))], .bool false]) ?_
    refine sv (.agg #[.int .i64 (Flit.rK (p.dt z)), .int .i64 (Flit.rS (p.dt z)), .string (Flit.rB (p.dt z))]) ?_
    refine sv (.bool false) ?_
    refine sbp #[.int .i64 0, .int .i64 0, .string ⟨#[]⟩] 88 fun V8 b4 hb4 m8 bx4 => ?_
    replace bx3 := Xbn bx3 m7; have o3_4 := Xlo bx3 hb4
    replace LN := Xln LN m7; replace AF : Hid (∀ g, Lrb (.slice wa p.nw wc) (.slice ga p.ng gc) (.slice ux (p.nd - 1) kx) (.slice ua p.nu uc) g → g ≠ b0 ∧ g ≠ b1 ∧ g ≠ b2 ∧ g ≠ b3 ∧ g ≠ b4) := hide (fun g h => by have h1 := AF.out g h; have h2 := (LN.out.lt g h).2; refine (?_ : _ ∧ _); exact (by omega))
    clear hb4
    refine ss3 (.int .i64 (Flit.rK (p.dt z))) (.int .i64 (Flit.rS (p.dt z))) (.string (Flit.rB (p.dt z))) bx4 fun V9 m9 bx4 => ?_
    replace LN := Xln LN m8; replace LN := hide (LN.out.mv m9 (fun g hg h => by have h : g = b4 := h; have := AF.out g hg; omega))
    refine sv (.bool false) ?_
    refine nt (hK _ _ ?_); clear hK K; refine sk fun K hK => sk fun K hK => rl ?_
    refine sv (.bool false) ?_
    refine sv (.bool false) ?_
    with_reducible refine sp ?_
    with_reducible refine sp ?_
    refine sg (.bool false) ?_
    refine sv (.bool false) ?_
    with_reducible refine sp ?_
    with_reducible refine sp ?_
    with_reducible refine sp ?_
    refine sg (.bool false) ?_
    refine nt (hK _ _ ?_); clear hK K; refine cf (wp_skip (then_normal (hK _ _ ?_))); clear hK K; refine sk fun K hK => sk fun K hK => rl ?_
    refine sv (.bool false) ?_
    refine sv (.bool false) ?_
    with_reducible refine sp ?_
    with_reducible refine sp ?_
    with_reducible refine sp ?_
    refine sg (.bool false) ?_
    refine sv (.bool false) ?_
    with_reducible refine sp ?_
    with_reducible refine sp ?_
    with_reducible refine sp ?_
    refine sg (.bool false) ?_
    refine nt (hK _ _ ?_); clear hK K; refine cf (wp_skip (then_normal (hK _ _ ?_))); clear hK K; refine sk fun K hK => rl ?_
    replace bx3 := Xbb (Xbn bx3 m8) m9; refine sl6 bx3 ?_
    replace bx2 := Xbb (Xbn (Xbn (Xbb (Xbn bx2 m5) m6) m7) m8) m9; refine ss6 (.int .i64 p.base) (.slice wa p.nw wc) (.int .i64 p.want) (.slice ga p.ng gc) (.slice ux (p.nd - 1) kx) (.slice ua p.nu uc) bx2 fun V10 m10 bx2 => ?_
    replace LN := hide (LN.out.mv m10 (fun g hg h => by have h : g = b2 := h; have := AF.out g hg; omega))
    refine sv (.int .i64 0) ?_
    refine nt (hK _ _ ?_); clear hK K; refine wp_ret ?_
    try simp only [Exit.then, Exit.inBlock, ↓reduceIte, Nat.reduceEqDiff]
    obtain ⟨_, q2_0, q2_1, q2_2, q2_3, q2_4, q2_5⟩ := box6 bx2.out
    replace HB := Xhb (Xhb (Xhn (Xhn (Xhb (Xhn (Xhn HB m4) m5) m6) m7) m8) m9) m10; replace LO := Xlb (Xlb (Xln (Xln (Xlb (Xln LO m5) LT m6) m7) m8) LT m9) LT m10; exact bodyPost_ret (v := .tuple #[.agg #[.int .i64 p.base, .slice wa p.nw wc, .int .i64 p.want, .slice ga p.ng gc, .slice ux (p.nd - 1) kx, .slice ua p.nu uc], .int .i64 0]) (by simp [results, Try.results71, go_sem, q2_0, q2_1, q2_2, q2_3, q2_4, q2_5]) rfl ⟨_, _, _, _, by first | (rw [HD]; done) | (rw [HD]; rfl), HB.out, LO.out, by rw [HD]; exact LN.out, AN.out⟩
  | true =>
    by_cases e1 : Flit.rK (p.dt z) = 1
    · have HD : comeD p z = dgL (outD p z) (Flit.rS (p.dt z)) (Flit.rB (p.dt z)) := by simp [comeD, hrd, e1]
      have d1 : (Flit.rK (p.dt z) == 1) = true := by simpa using e1
      have HB : Hid (Mv (Lrb (.slice wa p.nw wc) (.slice ga p.ng gc) (.slice da p.nd dc) (.slice ua p.nu uc)) w w) := hide (Mv.refl _ _)
      have LO := hide hr
      have LT := hide (fun g (h : Lrb (.slice wa p.nw wc) (.slice ga p.ng gc) (.slice da p.nd dc) (.slice ua p.nu uc) g) => (hr.lt g h).2)
      have hbs : base ≤ w.heap.size := hle
      clear hr hle
      go_enter Try.func71, Try.ntmps71
      refine sk fun K hK => rl ?_
      refine sbp #[.int .i64 p.base, .slice wa p.nw wc, .int .i64 p.want, .slice ga p.ng gc, .slice da p.nd dc, .slice ua p.nu uc] 30 fun V1 b0 hb0 m1 bx0 => ?_
      have o_0 : w.heap.size ≤ b0 := by omega
      clear hb0
      refine sbp #[.bool false, .int .i64 ((z : Int))] 100 fun V2 b1 hb1 m2 bx1 => ?_
      have o0_1 := Xlo bx0 hb1; clear hb1
      refine sbp #[.int .i64 0, .slice none 0 0, .int .i64 0, .slice none 0 0, .slice none 0 0, .slice none 0 0] 30 fun V3 b2 hb2 m3 bx2 => ?_
      have o1_2 := Xlo bx1 hb2; clear hb2
      refine sv (.int .i64 0) ?_
      refine nt (hK _ _ ?_); clear hK K; refine sk fun K hK => rl ?_
      replace bx0 := Xbn (Xbn bx0 m2) m3; refine sl6 bx0 ?_
      replace bx1 := Xbn bx1 m3; refine sg (.agg #[.bool false, .int .i64 ((z : Int))]) (h := by have z0 := cell_box 0 (bx1.out) rfl; have z1 := cell_box 1 (bx1.out) rfl; go_simp) ?_
      have szT := lt_of_block bx2.out
      replace HB := Xhn (Xhn (Xhn HB m1) m2) m3; have szW := HB.out.size
      replace LO := Xln (Xln (Xln LO m1) m2) m3; refine sw_call (by rfl) (by first | rfl | (go_simp; done)) (taken_dn p.base p.want wa ga da ua p.nw p.ng p.nd p.nu wc gc dc uc base z p.dt p.dh V3 LO.out.dn hz (by omega)) ?_
      rintro e V4 ⟨ux, kx, rfl, hrx, hbV4⟩
      have m4 : Mv (nob) V3 V4 := Mv.of_below hbV4
      refine ⟨_, rfl, ?_⟩
      refine pt ?_
      have NX : Nw V3.heap.size (.slice wa p.nw wc) (.slice ga p.ng gc) (.slice da p.nd dc) (.slice ua p.nu uc) (.slice wa p.nw wc) (.slice ga p.ng gc) (.slice ux (p.nd - 1) kx) (.slice ua p.nu uc) := nw_dn (fun g e => .inr (hrx.lt g e).1)
      have LN := hide ((LO.out.put_dn (Below.gb hbV4 _) (hrx.base (by omega)) (fun g e => .inr (hrx.lt g e).1) : Lr V4 base (.slice wa p.nw wc) (.slice ga p.ng gc) (.slice ux (p.nd - 1) kx) (.slice ua p.nu uc) (outD p z)))
      have AF : Hid (∀ g, Lrb (.slice wa p.nw wc) (.slice ga p.ng gc) (.slice ux (p.nd - 1) kx) (.slice ua p.nu uc) g → g ≠ b0 ∧ g ≠ b1 ∧ g ≠ b2) := hide (fun g h => (NX g h).elim (fun h2 => by have := LT.out g h2; omega) (fun h2 => by omega))
      have AN : Hid (Nw w.heap.size (.slice wa p.nw wc) (.slice ga p.ng gc) (.slice da p.nd dc) (.slice ua p.nu uc) (.slice wa p.nw wc) (.slice ga p.ng gc) (.slice ux (p.nd - 1) kx) (.slice ua p.nu uc)) := hide (fun g h => (NX g h).elim (fun h2 => .inl h2) (fun h2 => .inr (by omega)))
      clear NX szT szW
      replace LO := hide (LO.out.below hbV4)
      clear hbV4 hrx
      refine sv (.tuple #[.string (p.dt z), .agg #[.int .i64 p.base, .slice wa p.nw wc, .int .i64 p.want, .slice ga p.ng gc, .slice ux (p.nd - 1) kx, .slice ua p.nu uc], .int .i64 0]) ?_
      refine sv (.string (p.dt z)) ?_
      refine sv (.agg #[.int .i64 p.base, .slice wa p.nw wc, .int .i64 p.want, .slice ga p.ng gc, .slice ux (p.nd - 1) kx, .slice ua p.nu uc]) ?_
      refine sv (.int .i64 0) ?_
      refine sbp #[.int .i64 0, .slice none 0 0, .int .i64 0, .slice none 0 0, .slice none 0 0, .slice none 0 0] 30 fun V5 b3 hb3 m5 bx3 => ?_
      replace bx2 := Xbn bx2 m4; have o2_3 := Xlo bx2 hb3
      replace AF : Hid (∀ g, Lrb (.slice wa p.nw wc) (.slice ga p.ng gc) (.slice ux (p.nd - 1) kx) (.slice ua p.nu uc) g → g ≠ b0 ∧ g ≠ b1 ∧ g ≠ b2 ∧ g ≠ b3) := hide (fun g h => by have h1 := AF.out g h; have h2 := (LN.out.lt g h).2; refine (?_ : _ ∧ _); exact (by omega))
      clear hb3
      refine sv (.string (p.dt z)) ?_
      refine ss6 (.int .i64 p.base) (.slice wa p.nw wc) (.int .i64 p.want) (.slice ga p.ng gc) (.slice ux (p.nd - 1) kx) (.slice ua p.nu uc) bx3 fun V6 m6 bx3 => ?_
      replace LN := Xln LN m5; replace LN := hide (LN.out.mv m6 (fun g hg h => by have h : g = b3 := h; have := AF.out g hg; omega))
      refine sv (.int .i64 0) ?_
      refine nt (hK _ _ ?_); clear hK K; refine sk fun K hK => sk fun K hK => rl ?_
      refine sv (.int .i64 0) ?_
      refine sg (.bool false) ?_
      refine nt (hK _ _ ?_); clear hK K; refine cf (wp_skip (then_normal (hK _ _ ?_))); clear hK K; refine sk fun K hK => rl ?_
      refine sv (.string (p.dt z)) ?_
      refine sw_call (by rfl) (by first | rfl | (go_simp; done)) (read_as (p.dt z) true hrd V6 hts) ?_
      rintro e V7 ⟨rfl, hbV7⟩
      have m7 : Mv (nob) V6 V7 := Mv.of_below hbV7
      refine ⟨_, rfl, ?_⟩
      refine pt ?_
      clear hbV7
      refine sv (.tuple #[.agg #[.int .i64 (Flit.rK (p.dt z)), .int .i64 (Flit.rS (p.dt z)), .string (Flit.rB (p.dt z))], .bool true]) ?_
      refine sv (.agg #[.int .i64 (Flit.rK (p.dt z)), .int .i64 (Flit.rS (p.dt z)), .string (Flit.rB (p.dt z))]) ?_
      refine sv (.bool true) ?_
      refine sbp #[.int .i64 0, .int .i64 0, .string ⟨#[]⟩] 88 fun V8 b4 hb4 m8 bx4 => ?_
      replace bx3 := Xbn bx3 m7; have o3_4 := Xlo bx3 hb4
      replace LN := Xln LN m7; replace AF : Hid (∀ g, Lrb (.slice wa p.nw wc) (.slice ga p.ng gc) (.slice ux (p.nd - 1) kx) (.slice ua p.nu uc) g → g ≠ b0 ∧ g ≠ b1 ∧ g ≠ b2 ∧ g ≠ b3 ∧ g ≠ b4) := hide (fun g h => by have h1 := AF.out g h; have h2 := (LN.out.lt g h).2; refine (?_ : _ ∧ _); exact (by omega))
      clear hb4
      refine ss3 (.int .i64 (Flit.rK (p.dt z))) (.int .i64 (Flit.rS (p.dt z))) (.string (Flit.rB (p.dt z))) bx4 fun V9 m9 bx4 => ?_
      replace LN := Xln LN m8; replace LN := hide (LN.out.mv m9 (fun g hg h => by have h : g = b4 := h; have := AF.out g hg; omega))
      refine sv (.bool true) ?_
      refine nt (hK _ _ ?_); clear hK K; refine sk fun K hK => sk fun K hK => rl ?_
      refine sv (.bool true) ?_
      refine sv (.bool true) ?_
      refine sv (.pointer (some ⟨b1, 0, none⟩)) ?_
      replace bx1 := Xbb (Xbn (Xbn (Xbb (Xbn (Xbn bx1 m4) m5) m6) m7) m8) m9; refine sl 0 bx1 ?_
      refine sg (.bool false) ?_
      refine sv (.bool false) ?_
      with_reducible refine sp ?_
      with_reducible refine sp ?_
      with_reducible refine sp ?_
      refine sg (.bool false) ?_
      refine nt (hK _ _ ?_); clear hK K; refine cf (wp_skip (then_normal (hK _ _ ?_))); clear hK K; refine sk fun K hK => sk fun K hK => rl ?_
      refine sv (.bool true) ?_
      refine sv (.bool true) ?_
      refine sv (.pointer (some ⟨b1, 0, none⟩)) ?_
      refine sl 0 bx1 ?_
      refine sg (.bool true) ?_
      refine sg (.bool true) ?_
      refine sv (.bool true) ?_
      refine sv (.pointer (some ⟨b4, 0, none⟩)) ?_
      refine sl 0 bx4 ?_
      refine sg (.bool true) ?_
      refine sg (.bool true) ?_
      refine nt (hK _ _ ?_); clear hK K; refine ct (sk fun K hK => rl ?_)
      replace bx3 := Xbb (Xbn bx3 m8) m9; refine sl6 bx3 ?_
      refine sg (.agg #[.int .i64 (Flit.rK (p.dt z)), .int .i64 (Flit.rS (p.dt z)), .string (Flit.rB (p.dt z))]) (h := by have z0 := cell_box 0 (bx4.out) rfl; have z1 := cell_box 1 (bx4.out) rfl; have z2 := cell_box 2 (bx4.out) rfl; go_simp) ?_
      have szT := lt_of_block bx4.out
      replace HB := Xhb (Xhn (Xhn (Xhb (Xhn (Xhn HB m4) m5) m6) m7) m8) m9; have szW := HB.out.size
      have LTm : ∀ g, (rb (.slice ga p.ng gc) = some g ∨ rb (.slice ua p.nu uc) = some g) → g < w.heap.size := fun g h => LT.out g (h.elim (fun h => .inr (.inl h)) (fun h => .inr (.inr (.inr h))))
      refine sw_call (by rfl) (by first | rfl | (go_simp; done) | (go_simp; simp [outD, outU])) (dataGot_any (outD p z) (Flit.rK (p.dt z)) (Flit.rS (p.dt z)) (Flit.rB (p.dt z)) wa ga ux ua wc gc kx uc base V9 LN.out (by omega) h0 h1 h3 hk h6 hng hnu) ?_
      rintro e V10 ⟨gv, uv, rfl, mm, hq, hl2, hnw⟩
      have m10 : Mv (fun g => rb (.slice ga p.ng gc) = some g ∨ rb (.slice ua p.nu uc) = some g) V9 V10 := mm
      refine ⟨_, rfl, ?_⟩
      refine pt ?_
      replace HB := hide (HB.out.step m10 (fun g _ h => h.elim (fun h => .inr (.inl h)) (fun h => .inr (.inr (.inr h)))))
      replace bx0 := Xbb (Xbn (Xbn (Xbb (Xbn (Xbn bx0 m4) m5) m6) m7) m8) m9; replace bx0 := hide (m10.box bx0.out (fun h => by have := LTm _ h; omega))
      replace bx1 := hide (m10.box bx1.out (fun h => by have := LTm _ h; omega))
      replace bx2 := Xbb (Xbn (Xbn (Xbb (Xbn bx2 m5) m6) m7) m8) m9; replace bx2 := hide (m10.box bx2.out (fun h => by have := LTm _ h; omega))
      replace bx3 := hide (m10.box bx3.out (fun h => by have := LTm _ h; omega))
      replace bx4 := hide (m10.box bx4.out (fun h => by have := LTm _ h; omega))
      simp only [show (outD p z).nw = p.nw from rfl, show (outD p z).nd = p.nd - 1 from rfl]
      obtain ⟨ga2, gc2, rfl, _⟩ := hl2.go.form
      obtain ⟨ua2, uc2, rfl, _⟩ := hl2.up.form
      replace LO := Xlb (Xln (Xln (Xlb (Xln LO m5) LT m6) m7) m8) LT m9; replace LO : Hid (Lr V10 base (.slice wa p.nw wc) (.slice ga p.ng gc) (.slice da p.nd dc) (.slice ua p.nu uc) p) := hide ⟨hq.wa, hq.go, LO.out.dn.mv mm (fun g e h => h.elim (fun h => (LO.out.ag g h).1 e) (fun h => LO.out.ad g e h)), hq.up, LO.out.aw, LO.out.ag, LO.out.ad⟩
      have NX : Nw V9.heap.size (.slice wa p.nw wc) (.slice ga p.ng gc) (.slice ux (p.nd - 1) kx) (.slice ua p.nu uc) (.slice wa p.nw wc) (.slice ga2 (dgL (outD p z) (Flit.rS (p.dt z)) (Flit.rB (p.dt z))).ng gc2) (.slice ux (p.nd - 1) kx) (.slice ua2 (dgL (outD p z) (Flit.rS (p.dt z)) (Flit.rB (p.dt z))).nu uc2) := hnw
      replace LN := hide (hl2)
      replace AF : Hid (∀ g, Lrb (.slice wa p.nw wc) (.slice ga2 (dgL (outD p z) (Flit.rS (p.dt z)) (Flit.rB (p.dt z))).ng gc2) (.slice ux (p.nd - 1) kx) (.slice ua2 (dgL (outD p z) (Flit.rS (p.dt z)) (Flit.rB (p.dt z))).nu uc2) g → g ≠ b0 ∧ g ≠ b1 ∧ g ≠ b2 ∧ g ≠ b3 ∧ g ≠ b4) := hide (fun g h => (NX g h).elim (fun h2 => AF.out g h2) (fun h2 => by omega))
      replace AN : Hid (Nw w.heap.size (.slice wa p.nw wc) (.slice ga p.ng gc) (.slice da p.nd dc) (.slice ua p.nu uc) (.slice wa p.nw wc) (.slice ga2 (dgL (outD p z) (Flit.rS (p.dt z)) (Flit.rB (p.dt z))).ng gc2) (.slice ux (p.nd - 1) kx) (.slice ua2 (dgL (outD p z) (Flit.rS (p.dt z)) (Flit.rB (p.dt z))).nu uc2)) := hide (fun g h => (NX g h).elim (fun h2 => AN.out g h2) (fun h2 => .inr (by omega)))
      clear NX szT szW; clear hq hl2 hnw mm LTm
      refine ss6 (.int .i64 ((dgL (outD p z) (Flit.rS (p.dt z)) (Flit.rB (p.dt z))).base)) (.slice wa p.nw wc) (.int .i64 ((dgL (outD p z) (Flit.rS (p.dt z)) (Flit.rB (p.dt z))).want)) (.slice ga2 (dgL (outD p z) (Flit.rS (p.dt z)) (Flit.rB (p.dt z))).ng gc2) (.slice ux (p.nd - 1) kx) (.slice ua2 (dgL (outD p z) (Flit.rS (p.dt z)) (Flit.rB (p.dt z))).nu uc2) bx2 fun V11 m11 bx2 => ?_
      replace LN := hide (LN.out.mv m11 (fun g hg h => by have h : g = b2 := h; have := AF.out g hg; omega))
      refine sv (.int .i64 0) ?_
      refine nt (hK _ _ ?_); clear hK K; refine wp_ret (then_ret ?_)
      try simp only [Exit.then, Exit.inBlock, ↓reduceIte, Nat.reduceEqDiff]
      obtain ⟨_, q2_0, q2_1, q2_2, q2_3, q2_4, q2_5⟩ := box6 bx2.out
      replace HB := Xhb HB m11; replace LO := Xlb LO LT m11; exact bodyPost_ret (v := .tuple #[.agg #[.int .i64 ((dgL (outD p z) (Flit.rS (p.dt z)) (Flit.rB (p.dt z))).base), .slice wa p.nw wc, .int .i64 ((dgL (outD p z) (Flit.rS (p.dt z)) (Flit.rB (p.dt z))).want), .slice ga2 (dgL (outD p z) (Flit.rS (p.dt z)) (Flit.rB (p.dt z))).ng gc2, .slice ux (p.nd - 1) kx, .slice ua2 (dgL (outD p z) (Flit.rS (p.dt z)) (Flit.rB (p.dt z))).nu uc2], .int .i64 0]) (by simp [results, Try.results71, go_sem, q2_0, q2_1, q2_2, q2_3, q2_4, q2_5]) rfl ⟨_, _, _, _, by first | (rw [HD]; done) | (rw [HD]; rfl), HB.out, LO.out, by rw [HD]; exact LN.out, AN.out⟩
    · have HD : comeD p z = outD p z := by simp [comeD, hrd, e1]
      have d1 : (Flit.rK (p.dt z) == 1) = false := by simpa using e1
      have HB : Hid (Mv (Lrb (.slice wa p.nw wc) (.slice ga p.ng gc) (.slice da p.nd dc) (.slice ua p.nu uc)) w w) := hide (Mv.refl _ _)
      have LO := hide hr
      have LT := hide (fun g (h : Lrb (.slice wa p.nw wc) (.slice ga p.ng gc) (.slice da p.nd dc) (.slice ua p.nu uc) g) => (hr.lt g h).2)
      have hbs : base ≤ w.heap.size := hle
      clear hr hle
      go_enter Try.func71, Try.ntmps71
      refine sk fun K hK => rl ?_
      refine sbp #[.int .i64 p.base, .slice wa p.nw wc, .int .i64 p.want, .slice ga p.ng gc, .slice da p.nd dc, .slice ua p.nu uc] 30 fun V1 b0 hb0 m1 bx0 => ?_
      have o_0 : w.heap.size ≤ b0 := by omega
      clear hb0
      refine sbp #[.bool false, .int .i64 ((z : Int))] 100 fun V2 b1 hb1 m2 bx1 => ?_
      have o0_1 := Xlo bx0 hb1; clear hb1
      refine sbp #[.int .i64 0, .slice none 0 0, .int .i64 0, .slice none 0 0, .slice none 0 0, .slice none 0 0] 30 fun V3 b2 hb2 m3 bx2 => ?_
      have o1_2 := Xlo bx1 hb2; clear hb2
      refine sv (.int .i64 0) ?_
      refine nt (hK _ _ ?_); clear hK K; refine sk fun K hK => rl ?_
      replace bx0 := Xbn (Xbn bx0 m2) m3; refine sl6 bx0 ?_
      replace bx1 := Xbn bx1 m3; refine sg (.agg #[.bool false, .int .i64 ((z : Int))]) (h := by have z0 := cell_box 0 (bx1.out) rfl; have z1 := cell_box 1 (bx1.out) rfl; go_simp) ?_
      have szT := lt_of_block bx2.out
      replace HB := Xhn (Xhn (Xhn HB m1) m2) m3; have szW := HB.out.size
      replace LO := Xln (Xln (Xln LO m1) m2) m3; refine sw_call (by rfl) (by first | rfl | (go_simp; done)) (taken_dn p.base p.want wa ga da ua p.nw p.ng p.nd p.nu wc gc dc uc base z p.dt p.dh V3 LO.out.dn hz (by omega)) ?_
      rintro e V4 ⟨ux, kx, rfl, hrx, hbV4⟩
      have m4 : Mv (nob) V3 V4 := Mv.of_below hbV4
      refine ⟨_, rfl, ?_⟩
      refine pt ?_
      have NX : Nw V3.heap.size (.slice wa p.nw wc) (.slice ga p.ng gc) (.slice da p.nd dc) (.slice ua p.nu uc) (.slice wa p.nw wc) (.slice ga p.ng gc) (.slice ux (p.nd - 1) kx) (.slice ua p.nu uc) := nw_dn (fun g e => .inr (hrx.lt g e).1)
      have LN := hide ((LO.out.put_dn (Below.gb hbV4 _) (hrx.base (by omega)) (fun g e => .inr (hrx.lt g e).1) : Lr V4 base (.slice wa p.nw wc) (.slice ga p.ng gc) (.slice ux (p.nd - 1) kx) (.slice ua p.nu uc) (outD p z)))
      have AF : Hid (∀ g, Lrb (.slice wa p.nw wc) (.slice ga p.ng gc) (.slice ux (p.nd - 1) kx) (.slice ua p.nu uc) g → g ≠ b0 ∧ g ≠ b1 ∧ g ≠ b2) := hide (fun g h => (NX g h).elim (fun h2 => by have := LT.out g h2; omega) (fun h2 => by omega))
      have AN : Hid (Nw w.heap.size (.slice wa p.nw wc) (.slice ga p.ng gc) (.slice da p.nd dc) (.slice ua p.nu uc) (.slice wa p.nw wc) (.slice ga p.ng gc) (.slice ux (p.nd - 1) kx) (.slice ua p.nu uc)) := hide (fun g h => (NX g h).elim (fun h2 => .inl h2) (fun h2 => .inr (by omega)))
      clear NX szT szW
      replace LO := hide (LO.out.below hbV4)
      clear hbV4 hrx
      refine sv (.tuple #[.string (p.dt z), .agg #[.int .i64 p.base, .slice wa p.nw wc, .int .i64 p.want, .slice ga p.ng gc, .slice ux (p.nd - 1) kx, .slice ua p.nu uc], .int .i64 0]) ?_
      refine sv (.string (p.dt z)) ?_
      refine sv (.agg #[.int .i64 p.base, .slice wa p.nw wc, .int .i64 p.want, .slice ga p.ng gc, .slice ux (p.nd - 1) kx, .slice ua p.nu uc]) ?_
      refine sv (.int .i64 0) ?_
      refine sbp #[.int .i64 0, .slice none 0 0, .int .i64 0, .slice none 0 0, .slice none 0 0, .slice none 0 0] 30 fun V5 b3 hb3 m5 bx3 => ?_
      replace bx2 := Xbn bx2 m4; have o2_3 := Xlo bx2 hb3
      replace AF : Hid (∀ g, Lrb (.slice wa p.nw wc) (.slice ga p.ng gc) (.slice ux (p.nd - 1) kx) (.slice ua p.nu uc) g → g ≠ b0 ∧ g ≠ b1 ∧ g ≠ b2 ∧ g ≠ b3) := hide (fun g h => by have h1 := AF.out g h; have h2 := (LN.out.lt g h).2; refine (?_ : _ ∧ _); exact (by omega))
      clear hb3
      refine sv (.string (p.dt z)) ?_
      refine ss6 (.int .i64 p.base) (.slice wa p.nw wc) (.int .i64 p.want) (.slice ga p.ng gc) (.slice ux (p.nd - 1) kx) (.slice ua p.nu uc) bx3 fun V6 m6 bx3 => ?_
      replace LN := Xln LN m5; replace LN := hide (LN.out.mv m6 (fun g hg h => by have h : g = b3 := h; have := AF.out g hg; omega))
      refine sv (.int .i64 0) ?_
      refine nt (hK _ _ ?_); clear hK K; refine sk fun K hK => sk fun K hK => rl ?_
      refine sv (.int .i64 0) ?_
      refine sg (.bool false) ?_
      refine nt (hK _ _ ?_); clear hK K; refine cf (wp_skip (then_normal (hK _ _ ?_))); clear hK K; refine sk fun K hK => rl ?_
      refine sv (.string (p.dt z)) ?_
      refine sw_call (by rfl) (by first | rfl | (go_simp; done)) (read_as (p.dt z) true hrd V6 hts) ?_
      rintro e V7 ⟨rfl, hbV7⟩
      have m7 : Mv (nob) V6 V7 := Mv.of_below hbV7
      refine ⟨_, rfl, ?_⟩
      refine pt ?_
      clear hbV7
      refine sv (.tuple #[.agg #[.int .i64 (Flit.rK (p.dt z)), .int .i64 (Flit.rS (p.dt z)), .string (Flit.rB (p.dt z))], .bool true]) ?_
      refine sv (.agg #[.int .i64 (Flit.rK (p.dt z)), .int .i64 (Flit.rS (p.dt z)), .string (Flit.rB (p.dt z))]) ?_
      refine sv (.bool true) ?_
      refine sbp #[.int .i64 0, .int .i64 0, .string ⟨#[]⟩] 88 fun V8 b4 hb4 m8 bx4 => ?_
      replace bx3 := Xbn bx3 m7; have o3_4 := Xlo bx3 hb4
      replace LN := Xln LN m7; replace AF : Hid (∀ g, Lrb (.slice wa p.nw wc) (.slice ga p.ng gc) (.slice ux (p.nd - 1) kx) (.slice ua p.nu uc) g → g ≠ b0 ∧ g ≠ b1 ∧ g ≠ b2 ∧ g ≠ b3 ∧ g ≠ b4) := hide (fun g h => by have h1 := AF.out g h; have h2 := (LN.out.lt g h).2; refine (?_ : _ ∧ _); exact (by omega))
      clear hb4
      refine ss3 (.int .i64 (Flit.rK (p.dt z))) (.int .i64 (Flit.rS (p.dt z))) (.string (Flit.rB (p.dt z))) bx4 fun V9 m9 bx4 => ?_
      replace LN := Xln LN m8; replace LN := hide (LN.out.mv m9 (fun g hg h => by have h : g = b4 := h; have := AF.out g hg; omega))
      refine sv (.bool true) ?_
      refine nt (hK _ _ ?_); clear hK K; refine sk fun K hK => sk fun K hK => rl ?_
      refine sv (.bool true) ?_
      refine sv (.bool true) ?_
      refine sv (.pointer (some ⟨b1, 0, none⟩)) ?_
      replace bx1 := Xbb (Xbn (Xbn (Xbb (Xbn (Xbn bx1 m4) m5) m6) m7) m8) m9; refine sl 0 bx1 ?_
      refine sg (.bool false) ?_
      refine sv (.bool false) ?_
      with_reducible refine sp ?_
      with_reducible refine sp ?_
      with_reducible refine sp ?_
      refine sg (.bool false) ?_
      refine nt (hK _ _ ?_); clear hK K; refine cf (wp_skip (then_normal (hK _ _ ?_))); clear hK K; refine sk fun K hK => sk fun K hK => rl ?_
      refine sv (.bool true) ?_
      refine sv (.bool true) ?_
      refine sv (.pointer (some ⟨b1, 0, none⟩)) ?_
      refine sl 0 bx1 ?_
      refine sg (.bool true) ?_
      refine sg (.bool true) ?_
      refine sv (.bool true) ?_
      refine sv (.pointer (some ⟨b4, 0, none⟩)) ?_
      refine sl 0 bx4 ?_
      refine sg (.bool false) ?_
      refine sg (.bool false) ?_
      refine nt (hK _ _ ?_); clear hK K; refine cf (wp_skip (then_normal (hK _ _ ?_))); clear hK K; refine sk fun K hK => rl ?_
      replace bx3 := Xbb (Xbn bx3 m8) m9; refine sl6 bx3 ?_
      replace bx2 := Xbb (Xbn (Xbn (Xbb (Xbn bx2 m5) m6) m7) m8) m9; refine ss6 (.int .i64 p.base) (.slice wa p.nw wc) (.int .i64 p.want) (.slice ga p.ng gc) (.slice ux (p.nd - 1) kx) (.slice ua p.nu uc) bx2 fun V10 m10 bx2 => ?_
      replace LN := hide (LN.out.mv m10 (fun g hg h => by have h : g = b2 := h; have := AF.out g hg; omega))
      refine sv (.int .i64 0) ?_
      refine nt (hK _ _ ?_); clear hK K; refine wp_ret ?_
      try simp only [Exit.then, Exit.inBlock, ↓reduceIte, Nat.reduceEqDiff]
      obtain ⟨_, q2_0, q2_1, q2_2, q2_3, q2_4, q2_5⟩ := box6 bx2.out
      replace HB := Xhb (Xhb (Xhn (Xhn (Xhb (Xhn (Xhn HB m4) m5) m6) m7) m8) m9) m10; replace LO := Xlb (Xlb (Xln (Xln (Xlb (Xln LO m5) LT m6) m7) m8) LT m9) LT m10; exact bodyPost_ret (v := .tuple #[.agg #[.int .i64 p.base, .slice wa p.nw wc, .int .i64 p.want, .slice ga p.ng gc, .slice ux (p.nd - 1) kx, .slice ua p.nu uc], .int .i64 0]) (by simp [results, Try.results71, go_sem, q2_0, q2_1, q2_2, q2_3, q2_4, q2_5]) rfl ⟨_, _, _, _, by first | (rw [HD]; done) | (rw [HD]; rfl), HB.out, LO.out, by rw [HD]; exact LN.out, AN.out⟩

set_option maxHeartbeats 4000000 in
set_option maxRecDepth 20000 in
theorem come_u (p : Lk) (z : Nat) (wa ga da ua : Option Addr) (wc gc dc uc : Nat) (base : Nat) (w : World) (hr : Lr w base (.slice wa p.nw wc) (.slice ga p.ng gc) (.slice da p.nd dc) (.slice ua p.nu uc) p) (hle : base ≤ w.heap.size) (hz : z < p.nu) (hts : (p.ut z).size ≤ 15) (h0 : 0 ≤ p.base) (h1 : p.base ≤ 999900) (h3 : p.nw ≤ 8) (hk : p.want ≤ 1000000) (h6 : 0 ≤ p.want) (hn : p.want ≤ p.base + p.nw) (hng : p.ng ≤ 1048000) (hnd : p.nd ≤ 12) (hnu : p.nu ≤ 1048000) :
    Calls Try.prog 71 #[.agg (l6 p.base (.slice wa p.nw wc) p.want (.slice ga p.ng gc) (.slice da p.nd dc) (.slice ua p.nu uc)), .agg #[.bool true, .int .i64 (z : Int)]] w fun e w' => ∃ wv gv dv uv, e = .returned (.tuple #[.agg (l6 (comeU p z).base wv (comeU p z).want gv dv uv), .int .i64 0]) ∧ Mv (Lrb (.slice wa p.nw wc) (.slice ga p.ng gc) (.slice da p.nd dc) (.slice ua p.nu uc)) w w' ∧ Lr w' base (.slice wa p.nw wc) (.slice ga p.ng gc) (.slice da p.nd dc) (.slice ua p.nu uc) p ∧ Lr w' base wv gv dv uv (comeU p z) ∧ Nw w.heap.size (.slice wa p.nw wc) (.slice ga p.ng gc) (.slice da p.nd dc) (.slice ua p.nu uc) wv gv dv uv := by
  cases hrd : Flit.rd (p.ut z) with
  | false =>
    have HD : comeU p z = outU p z := by simp [comeU, hrd]
    have HB : Hid (Mv (Lrb (.slice wa p.nw wc) (.slice ga p.ng gc) (.slice da p.nd dc) (.slice ua p.nu uc)) w w) := hide (Mv.refl _ _)
    have LO := hide hr
    have LT := hide (fun g (h : Lrb (.slice wa p.nw wc) (.slice ga p.ng gc) (.slice da p.nd dc) (.slice ua p.nu uc) g) => (hr.lt g h).2)
    have hbs : base ≤ w.heap.size := hle
    clear hr hle
    go_enter Try.func71, Try.ntmps71
    refine sk fun K hK => rl ?_
    refine sbp #[.int .i64 p.base, .slice wa p.nw wc, .int .i64 p.want, .slice ga p.ng gc, .slice da p.nd dc, .slice ua p.nu uc] 30 fun V1 b0 hb0 m1 bx0 => ?_
    have o_0 : w.heap.size ≤ b0 := by omega
    clear hb0
    refine sbp #[.bool true, .int .i64 ((z : Int))] 100 fun V2 b1 hb1 m2 bx1 => ?_
    have o0_1 := Xlo bx0 hb1; clear hb1
    refine sbp #[.int .i64 0, .slice none 0 0, .int .i64 0, .slice none 0 0, .slice none 0 0, .slice none 0 0] 30 fun V3 b2 hb2 m3 bx2 => ?_
    have o1_2 := Xlo bx1 hb2; clear hb2
    refine sv (.int .i64 0) ?_
    refine nt (hK _ _ ?_); clear hK K; refine sk fun K hK => rl ?_
    replace bx0 := Xbn (Xbn bx0 m2) m3; refine sl6 bx0 ?_
    replace bx1 := Xbn bx1 m3; refine sg (.agg #[.bool true, .int .i64 ((z : Int))]) (h := by have z0 := cell_box 0 (bx1.out) rfl; have z1 := cell_box 1 (bx1.out) rfl; go_simp) ?_
    have szT := lt_of_block bx2.out
    replace HB := Xhn (Xhn (Xhn HB m1) m2) m3; have szW := HB.out.size
    replace LO := Xln (Xln (Xln LO m1) m2) m3; refine sw_call (by rfl) (by first | rfl | (go_simp; done)) (taken_up p.base p.want wa ga da ua p.nw p.ng p.nd p.nu wc gc dc uc base z p.ut p.uh V3 LO.out.up hz (by omega)) ?_
    rintro e V4 ⟨ux, kx, rfl, hrx, hbV4⟩
    have m4 : Mv (nob) V3 V4 := Mv.of_below hbV4
    refine ⟨_, rfl, ?_⟩
    refine pt ?_
    have NX : Nw V3.heap.size (.slice wa p.nw wc) (.slice ga p.ng gc) (.slice da p.nd dc) (.slice ua p.nu uc) (.slice wa p.nw wc) (.slice ga p.ng gc) (.slice da p.nd dc) (.slice ux (p.nu - 1) kx) := nw_up (fun g e => .inr (hrx.lt g e).1)
    have LN := hide ((LO.out.put_up (Below.gb hbV4 _) (hrx.base (by omega)) (fun g e => .inr (hrx.lt g e).1) : Lr V4 base (.slice wa p.nw wc) (.slice ga p.ng gc) (.slice da p.nd dc) (.slice ux (p.nu - 1) kx) (outU p z)))
    have AF : Hid (∀ g, Lrb (.slice wa p.nw wc) (.slice ga p.ng gc) (.slice da p.nd dc) (.slice ux (p.nu - 1) kx) g → g ≠ b0 ∧ g ≠ b1 ∧ g ≠ b2) := hide (fun g h => (NX g h).elim (fun h2 => by have := LT.out g h2; omega) (fun h2 => by omega))
    have AN : Hid (Nw w.heap.size (.slice wa p.nw wc) (.slice ga p.ng gc) (.slice da p.nd dc) (.slice ua p.nu uc) (.slice wa p.nw wc) (.slice ga p.ng gc) (.slice da p.nd dc) (.slice ux (p.nu - 1) kx)) := hide (fun g h => (NX g h).elim (fun h2 => .inl h2) (fun h2 => .inr (by omega)))
    clear NX szT szW
    replace LO := hide (LO.out.below hbV4)
    clear hbV4 hrx
    refine sv (.tuple #[.string (p.ut z), .agg #[.int .i64 p.base, .slice wa p.nw wc, .int .i64 p.want, .slice ga p.ng gc, .slice da p.nd dc, .slice ux (p.nu - 1) kx], .int .i64 0]) ?_
    refine sv (.string (p.ut z)) ?_
    refine sv (.agg #[.int .i64 p.base, .slice wa p.nw wc, .int .i64 p.want, .slice ga p.ng gc, .slice da p.nd dc, .slice ux (p.nu - 1) kx]) ?_
    refine sv (.int .i64 0) ?_
    refine sbp #[.int .i64 0, .slice none 0 0, .int .i64 0, .slice none 0 0, .slice none 0 0, .slice none 0 0] 30 fun V5 b3 hb3 m5 bx3 => ?_
    replace bx2 := Xbn bx2 m4; have o2_3 := Xlo bx2 hb3
    replace AF : Hid (∀ g, Lrb (.slice wa p.nw wc) (.slice ga p.ng gc) (.slice da p.nd dc) (.slice ux (p.nu - 1) kx) g → g ≠ b0 ∧ g ≠ b1 ∧ g ≠ b2 ∧ g ≠ b3) := hide (fun g h => by have h1 := AF.out g h; have h2 := (LN.out.lt g h).2; refine (?_ : _ ∧ _); exact (by omega))
    clear hb3
    refine sv (.string (p.ut z)) ?_
    refine ss6 (.int .i64 p.base) (.slice wa p.nw wc) (.int .i64 p.want) (.slice ga p.ng gc) (.slice da p.nd dc) (.slice ux (p.nu - 1) kx) bx3 fun V6 m6 bx3 => ?_
    replace LN := Xln LN m5; replace LN := hide (LN.out.mv m6 (fun g hg h => by have h : g = b3 := h; have := AF.out g hg; omega))
    refine sv (.int .i64 0) ?_
    refine nt (hK _ _ ?_); clear hK K; refine sk fun K hK => sk fun K hK => rl ?_
    refine sv (.int .i64 0) ?_
    refine sg (.bool false) ?_
    refine nt (hK _ _ ?_); clear hK K; refine cf (wp_skip (then_normal (hK _ _ ?_))); clear hK K; refine sk fun K hK => rl ?_
    refine sv (.string (p.ut z)) ?_
    refine sw_call (by rfl) (by first | rfl | (go_simp; done)) (read_as (p.ut z) false hrd V6 hts) ?_
    rintro e V7 ⟨rfl, hbV7⟩
    have m7 : Mv (nob) V6 V7 := Mv.of_below hbV7
    refine ⟨_, rfl, ?_⟩
    refine pt ?_
    clear hbV7
    refine sv (.tuple #[.agg #[.int .i64 (Flit.rK (p.ut z)), .int .i64 (Flit.rS (p.ut z)), .string (Flit.rB (p.ut z))], .bool false]) ?_
    refine sv (.agg #[.int .i64 (Flit.rK (p.ut z)), .int .i64 (Flit.rS (p.ut z)), .string (Flit.rB (p.ut z))]) ?_
    refine sv (.bool false) ?_
    refine sbp #[.int .i64 0, .int .i64 0, .string ⟨#[]⟩] 88 fun V8 b4 hb4 m8 bx4 => ?_
    replace bx3 := Xbn bx3 m7; have o3_4 := Xlo bx3 hb4
    replace LN := Xln LN m7; replace AF : Hid (∀ g, Lrb (.slice wa p.nw wc) (.slice ga p.ng gc) (.slice da p.nd dc) (.slice ux (p.nu - 1) kx) g → g ≠ b0 ∧ g ≠ b1 ∧ g ≠ b2 ∧ g ≠ b3 ∧ g ≠ b4) := hide (fun g h => by have h1 := AF.out g h; have h2 := (LN.out.lt g h).2; refine (?_ : _ ∧ _); exact (by omega))
    clear hb4
    refine ss3 (.int .i64 (Flit.rK (p.ut z))) (.int .i64 (Flit.rS (p.ut z))) (.string (Flit.rB (p.ut z))) bx4 fun V9 m9 bx4 => ?_
    replace LN := Xln LN m8; replace LN := hide (LN.out.mv m9 (fun g hg h => by have h : g = b4 := h; have := AF.out g hg; omega))
    refine sv (.bool false) ?_
    refine nt (hK _ _ ?_); clear hK K; refine sk fun K hK => sk fun K hK => rl ?_
    refine sv (.bool false) ?_
    refine sv (.bool false) ?_
    with_reducible refine sp ?_
    with_reducible refine sp ?_
    refine sg (.bool false) ?_
    refine sv (.bool false) ?_
    with_reducible refine sp ?_
    with_reducible refine sp ?_
    with_reducible refine sp ?_
    refine sg (.bool false) ?_
    refine nt (hK _ _ ?_); clear hK K; refine cf (wp_skip (then_normal (hK _ _ ?_))); clear hK K; refine sk fun K hK => sk fun K hK => rl ?_
    refine sv (.bool false) ?_
    refine sv (.bool false) ?_
    with_reducible refine sp ?_
    with_reducible refine sp ?_
    with_reducible refine sp ?_
    refine sg (.bool false) ?_
    refine sv (.bool false) ?_
    with_reducible refine sp ?_
    with_reducible refine sp ?_
    with_reducible refine sp ?_
    refine sg (.bool false) ?_
    refine nt (hK _ _ ?_); clear hK K; refine cf (wp_skip (then_normal (hK _ _ ?_))); clear hK K; refine sk fun K hK => rl ?_
    replace bx3 := Xbb (Xbn bx3 m8) m9; refine sl6 bx3 ?_
    replace bx2 := Xbb (Xbn (Xbn (Xbb (Xbn bx2 m5) m6) m7) m8) m9; refine ss6 (.int .i64 p.base) (.slice wa p.nw wc) (.int .i64 p.want) (.slice ga p.ng gc) (.slice da p.nd dc) (.slice ux (p.nu - 1) kx) bx2 fun V10 m10 bx2 => ?_
    replace LN := hide (LN.out.mv m10 (fun g hg h => by have h : g = b2 := h; have := AF.out g hg; omega))
    refine sv (.int .i64 0) ?_
    refine nt (hK _ _ ?_); clear hK K; refine wp_ret ?_
    try simp only [Exit.then, Exit.inBlock, ↓reduceIte, Nat.reduceEqDiff]
    obtain ⟨_, q2_0, q2_1, q2_2, q2_3, q2_4, q2_5⟩ := box6 bx2.out
    replace HB := Xhb (Xhb (Xhn (Xhn (Xhb (Xhn (Xhn HB m4) m5) m6) m7) m8) m9) m10; replace LO := Xlb (Xlb (Xln (Xln (Xlb (Xln LO m5) LT m6) m7) m8) LT m9) LT m10; exact bodyPost_ret (v := .tuple #[.agg #[.int .i64 p.base, .slice wa p.nw wc, .int .i64 p.want, .slice ga p.ng gc, .slice da p.nd dc, .slice ux (p.nu - 1) kx], .int .i64 0]) (by simp [results, Try.results71, go_sem, q2_0, q2_1, q2_2, q2_3, q2_4, q2_5]) rfl ⟨_, _, _, _, by first | (rw [HD]; done) | (rw [HD]; rfl), HB.out, LO.out, by rw [HD]; exact LN.out, AN.out⟩
  | true =>
    by_cases e1 : Flit.rK (p.ut z) = 2
    · have HD : comeU p z = ackL (outU p z) (Flit.rS (p.ut z)) := by simp [comeU, hrd, e1]
      have d1 : (Flit.rK (p.ut z) == 2) = true := by simpa using e1
      have HB : Hid (Mv (Lrb (.slice wa p.nw wc) (.slice ga p.ng gc) (.slice da p.nd dc) (.slice ua p.nu uc)) w w) := hide (Mv.refl _ _)
      have LO := hide hr
      have LT := hide (fun g (h : Lrb (.slice wa p.nw wc) (.slice ga p.ng gc) (.slice da p.nd dc) (.slice ua p.nu uc) g) => (hr.lt g h).2)
      have hbs : base ≤ w.heap.size := hle
      clear hr hle
      go_enter Try.func71, Try.ntmps71
      refine sk fun K hK => rl ?_
      refine sbp #[.int .i64 p.base, .slice wa p.nw wc, .int .i64 p.want, .slice ga p.ng gc, .slice da p.nd dc, .slice ua p.nu uc] 30 fun V1 b0 hb0 m1 bx0 => ?_
      have o_0 : w.heap.size ≤ b0 := by omega
      clear hb0
      refine sbp #[.bool true, .int .i64 ((z : Int))] 100 fun V2 b1 hb1 m2 bx1 => ?_
      have o0_1 := Xlo bx0 hb1; clear hb1
      refine sbp #[.int .i64 0, .slice none 0 0, .int .i64 0, .slice none 0 0, .slice none 0 0, .slice none 0 0] 30 fun V3 b2 hb2 m3 bx2 => ?_
      have o1_2 := Xlo bx1 hb2; clear hb2
      refine sv (.int .i64 0) ?_
      refine nt (hK _ _ ?_); clear hK K; refine sk fun K hK => rl ?_
      replace bx0 := Xbn (Xbn bx0 m2) m3; refine sl6 bx0 ?_
      replace bx1 := Xbn bx1 m3; refine sg (.agg #[.bool true, .int .i64 ((z : Int))]) (h := by have z0 := cell_box 0 (bx1.out) rfl; have z1 := cell_box 1 (bx1.out) rfl; go_simp) ?_
      have szT := lt_of_block bx2.out
      replace HB := Xhn (Xhn (Xhn HB m1) m2) m3; have szW := HB.out.size
      replace LO := Xln (Xln (Xln LO m1) m2) m3; refine sw_call (by rfl) (by first | rfl | (go_simp; done)) (taken_up p.base p.want wa ga da ua p.nw p.ng p.nd p.nu wc gc dc uc base z p.ut p.uh V3 LO.out.up hz (by omega)) ?_
      rintro e V4 ⟨ux, kx, rfl, hrx, hbV4⟩
      have m4 : Mv (nob) V3 V4 := Mv.of_below hbV4
      refine ⟨_, rfl, ?_⟩
      refine pt ?_
      have NX : Nw V3.heap.size (.slice wa p.nw wc) (.slice ga p.ng gc) (.slice da p.nd dc) (.slice ua p.nu uc) (.slice wa p.nw wc) (.slice ga p.ng gc) (.slice da p.nd dc) (.slice ux (p.nu - 1) kx) := nw_up (fun g e => .inr (hrx.lt g e).1)
      have LN := hide ((LO.out.put_up (Below.gb hbV4 _) (hrx.base (by omega)) (fun g e => .inr (hrx.lt g e).1) : Lr V4 base (.slice wa p.nw wc) (.slice ga p.ng gc) (.slice da p.nd dc) (.slice ux (p.nu - 1) kx) (outU p z)))
      have AF : Hid (∀ g, Lrb (.slice wa p.nw wc) (.slice ga p.ng gc) (.slice da p.nd dc) (.slice ux (p.nu - 1) kx) g → g ≠ b0 ∧ g ≠ b1 ∧ g ≠ b2) := hide (fun g h => (NX g h).elim (fun h2 => by have := LT.out g h2; omega) (fun h2 => by omega))
      have AN : Hid (Nw w.heap.size (.slice wa p.nw wc) (.slice ga p.ng gc) (.slice da p.nd dc) (.slice ua p.nu uc) (.slice wa p.nw wc) (.slice ga p.ng gc) (.slice da p.nd dc) (.slice ux (p.nu - 1) kx)) := hide (fun g h => (NX g h).elim (fun h2 => .inl h2) (fun h2 => .inr (by omega)))
      clear NX szT szW
      replace LO := hide (LO.out.below hbV4)
      clear hbV4 hrx
      refine sv (.tuple #[.string (p.ut z), .agg #[.int .i64 p.base, .slice wa p.nw wc, .int .i64 p.want, .slice ga p.ng gc, .slice da p.nd dc, .slice ux (p.nu - 1) kx], .int .i64 0]) ?_
      refine sv (.string (p.ut z)) ?_
      refine sv (.agg #[.int .i64 p.base, .slice wa p.nw wc, .int .i64 p.want, .slice ga p.ng gc, .slice da p.nd dc, .slice ux (p.nu - 1) kx]) ?_
      refine sv (.int .i64 0) ?_
      refine sbp #[.int .i64 0, .slice none 0 0, .int .i64 0, .slice none 0 0, .slice none 0 0, .slice none 0 0] 30 fun V5 b3 hb3 m5 bx3 => ?_
      replace bx2 := Xbn bx2 m4; have o2_3 := Xlo bx2 hb3
      replace AF : Hid (∀ g, Lrb (.slice wa p.nw wc) (.slice ga p.ng gc) (.slice da p.nd dc) (.slice ux (p.nu - 1) kx) g → g ≠ b0 ∧ g ≠ b1 ∧ g ≠ b2 ∧ g ≠ b3) := hide (fun g h => by have h1 := AF.out g h; have h2 := (LN.out.lt g h).2; refine (?_ : _ ∧ _); exact (by omega))
      clear hb3
      refine sv (.string (p.ut z)) ?_
      refine ss6 (.int .i64 p.base) (.slice wa p.nw wc) (.int .i64 p.want) (.slice ga p.ng gc) (.slice da p.nd dc) (.slice ux (p.nu - 1) kx) bx3 fun V6 m6 bx3 => ?_
      replace LN := Xln LN m5; replace LN := hide (LN.out.mv m6 (fun g hg h => by have h : g = b3 := h; have := AF.out g hg; omega))
      refine sv (.int .i64 0) ?_
      refine nt (hK _ _ ?_); clear hK K; refine sk fun K hK => sk fun K hK => rl ?_
      refine sv (.int .i64 0) ?_
      refine sg (.bool false) ?_
      refine nt (hK _ _ ?_); clear hK K; refine cf (wp_skip (then_normal (hK _ _ ?_))); clear hK K; refine sk fun K hK => rl ?_
      refine sv (.string (p.ut z)) ?_
      refine sw_call (by rfl) (by first | rfl | (go_simp; done)) (read_as (p.ut z) true hrd V6 hts) ?_
      rintro e V7 ⟨rfl, hbV7⟩
      have m7 : Mv (nob) V6 V7 := Mv.of_below hbV7
      refine ⟨_, rfl, ?_⟩
      refine pt ?_
      clear hbV7
      refine sv (.tuple #[.agg #[.int .i64 (Flit.rK (p.ut z)), .int .i64 (Flit.rS (p.ut z)), .string (Flit.rB (p.ut z))], .bool true]) ?_
      refine sv (.agg #[.int .i64 (Flit.rK (p.ut z)), .int .i64 (Flit.rS (p.ut z)), .string (Flit.rB (p.ut z))]) ?_
      refine sv (.bool true) ?_
      refine sbp #[.int .i64 0, .int .i64 0, .string ⟨#[]⟩] 88 fun V8 b4 hb4 m8 bx4 => ?_
      replace bx3 := Xbn bx3 m7; have o3_4 := Xlo bx3 hb4
      replace LN := Xln LN m7; replace AF : Hid (∀ g, Lrb (.slice wa p.nw wc) (.slice ga p.ng gc) (.slice da p.nd dc) (.slice ux (p.nu - 1) kx) g → g ≠ b0 ∧ g ≠ b1 ∧ g ≠ b2 ∧ g ≠ b3 ∧ g ≠ b4) := hide (fun g h => by have h1 := AF.out g h; have h2 := (LN.out.lt g h).2; refine (?_ : _ ∧ _); exact (by omega))
      clear hb4
      refine ss3 (.int .i64 (Flit.rK (p.ut z))) (.int .i64 (Flit.rS (p.ut z))) (.string (Flit.rB (p.ut z))) bx4 fun V9 m9 bx4 => ?_
      replace LN := Xln LN m8; replace LN := hide (LN.out.mv m9 (fun g hg h => by have h : g = b4 := h; have := AF.out g hg; omega))
      refine sv (.bool true) ?_
      refine nt (hK _ _ ?_); clear hK K; refine sk fun K hK => sk fun K hK => rl ?_
      refine sv (.bool true) ?_
      refine sv (.bool true) ?_
      refine sv (.pointer (some ⟨b1, 0, none⟩)) ?_
      replace bx1 := Xbb (Xbn (Xbn (Xbb (Xbn (Xbn bx1 m4) m5) m6) m7) m8) m9; refine sl 0 bx1 ?_
      refine sg (.bool true) ?_
      refine sv (.bool true) ?_
      refine sv (.pointer (some ⟨b4, 0, none⟩)) ?_
      refine sl 0 bx4 ?_
      refine sg (.bool true) ?_
      refine sg (.bool true) ?_
      refine nt (hK _ _ ?_); clear hK K; refine ct (sk fun K hK => rl ?_)
      replace bx3 := Xbb (Xbn bx3 m8) m9; refine sl6 bx3 ?_
      refine sv (.pointer (some ⟨b4, 1, none⟩)) ?_
      refine sl 1 bx4 ?_
      have szT := lt_of_block bx4.out
      replace HB := Xhb (Xhn (Xhn (Xhb (Xhn (Xhn HB m4) m5) m6) m7) m8) m9; have szW := HB.out.size
      refine sw_call (by rfl) (by first | rfl | (go_simp; done) | (go_simp; simp [outD, outU])) (acked_nw (outU p z) (Flit.rS (p.ut z)) (.slice wa p.nw wc) (.slice ga p.ng gc) (.slice da p.nd dc) (.slice ux (p.nu - 1) kx) base V9 LN.out h0 hk hn) ?_
      rintro e V10 ⟨xa, xc, rfl, hl2, hbV10, hrx⟩
      have m10 : Mv (nob) V9 V10 := Mv.of_below hbV10
      refine ⟨_, rfl, ?_⟩
      refine pt ?_
      have NX : Nw V9.heap.size (.slice wa p.nw wc) (.slice ga p.ng gc) (.slice da p.nd dc) (.slice ux (p.nu - 1) kx) (.slice xa (ackL (outU p z) (Flit.rS (p.ut z))).nw xc) (.slice ga p.ng gc) (.slice da p.nd dc) (.slice ux (p.nu - 1) kx) := nw_wa (fun g e => .inl (hrx g e))
      replace LN := hide (hl2)
      replace AF : Hid (∀ g, Lrb (.slice xa (ackL (outU p z) (Flit.rS (p.ut z))).nw xc) (.slice ga p.ng gc) (.slice da p.nd dc) (.slice ux (p.nu - 1) kx) g → g ≠ b0 ∧ g ≠ b1 ∧ g ≠ b2 ∧ g ≠ b3 ∧ g ≠ b4) := hide (fun g h => (NX g h).elim (fun h2 => AF.out g h2) (fun h2 => by omega))
      replace AN : Hid (Nw w.heap.size (.slice wa p.nw wc) (.slice ga p.ng gc) (.slice da p.nd dc) (.slice ua p.nu uc) (.slice xa (ackL (outU p z) (Flit.rS (p.ut z))).nw xc) (.slice ga p.ng gc) (.slice da p.nd dc) (.slice ux (p.nu - 1) kx)) := hide (fun g h => (NX g h).elim (fun h2 => AN.out g h2) (fun h2 => .inr (by omega)))
      clear NX szT szW; clear hbV10 hrx hl2
      replace bx2 := Xbn (Xbb (Xbn (Xbn (Xbb (Xbn bx2 m5) m6) m7) m8) m9) m10; refine ss6 (.int .i64 ((ackL (outU p z) (Flit.rS (p.ut z))).base)) (.slice xa (ackL (outU p z) (Flit.rS (p.ut z))).nw xc) (.int .i64 ((ackL (outU p z) (Flit.rS (p.ut z))).want)) (.slice ga p.ng gc) (.slice da p.nd dc) (.slice ux (p.nu - 1) kx) bx2 fun V11 m11 bx2 => ?_
      replace LN := hide (LN.out.mv m11 (fun g hg h => by have h : g = b2 := h; have := AF.out g hg; omega))
      refine sv (.int .i64 0) ?_
      refine nt (hK _ _ ?_); clear hK K; refine wp_ret (then_ret ?_)
      try simp only [Exit.then, Exit.inBlock, ↓reduceIte, Nat.reduceEqDiff]
      obtain ⟨_, q2_0, q2_1, q2_2, q2_3, q2_4, q2_5⟩ := box6 bx2.out
      replace LO := Xlb (Xln (Xlb (Xln (Xln (Xlb (Xln LO m5) LT m6) m7) m8) LT m9) m10) LT m11; replace HB := Xhb (Xhn HB m10) m11; exact bodyPost_ret (v := .tuple #[.agg #[.int .i64 ((ackL (outU p z) (Flit.rS (p.ut z))).base), .slice xa (ackL (outU p z) (Flit.rS (p.ut z))).nw xc, .int .i64 ((ackL (outU p z) (Flit.rS (p.ut z))).want), .slice ga p.ng gc, .slice da p.nd dc, .slice ux (p.nu - 1) kx], .int .i64 0]) (by simp [results, Try.results71, go_sem, q2_0, q2_1, q2_2, q2_3, q2_4, q2_5]) rfl ⟨_, _, _, _, by first | (rw [HD]; done) | (rw [HD]; rfl), HB.out, LO.out, by rw [HD]; exact LN.out, AN.out⟩
    · have HD : comeU p z = outU p z := by simp [comeU, hrd, e1]
      have d1 : (Flit.rK (p.ut z) == 2) = false := by simpa using e1
      have HB : Hid (Mv (Lrb (.slice wa p.nw wc) (.slice ga p.ng gc) (.slice da p.nd dc) (.slice ua p.nu uc)) w w) := hide (Mv.refl _ _)
      have LO := hide hr
      have LT := hide (fun g (h : Lrb (.slice wa p.nw wc) (.slice ga p.ng gc) (.slice da p.nd dc) (.slice ua p.nu uc) g) => (hr.lt g h).2)
      have hbs : base ≤ w.heap.size := hle
      clear hr hle
      go_enter Try.func71, Try.ntmps71
      refine sk fun K hK => rl ?_
      refine sbp #[.int .i64 p.base, .slice wa p.nw wc, .int .i64 p.want, .slice ga p.ng gc, .slice da p.nd dc, .slice ua p.nu uc] 30 fun V1 b0 hb0 m1 bx0 => ?_
      have o_0 : w.heap.size ≤ b0 := by omega
      clear hb0
      refine sbp #[.bool true, .int .i64 ((z : Int))] 100 fun V2 b1 hb1 m2 bx1 => ?_
      have o0_1 := Xlo bx0 hb1; clear hb1
      refine sbp #[.int .i64 0, .slice none 0 0, .int .i64 0, .slice none 0 0, .slice none 0 0, .slice none 0 0] 30 fun V3 b2 hb2 m3 bx2 => ?_
      have o1_2 := Xlo bx1 hb2; clear hb2
      refine sv (.int .i64 0) ?_
      refine nt (hK _ _ ?_); clear hK K; refine sk fun K hK => rl ?_
      replace bx0 := Xbn (Xbn bx0 m2) m3; refine sl6 bx0 ?_
      replace bx1 := Xbn bx1 m3; refine sg (.agg #[.bool true, .int .i64 ((z : Int))]) (h := by have z0 := cell_box 0 (bx1.out) rfl; have z1 := cell_box 1 (bx1.out) rfl; go_simp) ?_
      have szT := lt_of_block bx2.out
      replace HB := Xhn (Xhn (Xhn HB m1) m2) m3; have szW := HB.out.size
      replace LO := Xln (Xln (Xln LO m1) m2) m3; refine sw_call (by rfl) (by first | rfl | (go_simp; done)) (taken_up p.base p.want wa ga da ua p.nw p.ng p.nd p.nu wc gc dc uc base z p.ut p.uh V3 LO.out.up hz (by omega)) ?_
      rintro e V4 ⟨ux, kx, rfl, hrx, hbV4⟩
      have m4 : Mv (nob) V3 V4 := Mv.of_below hbV4
      refine ⟨_, rfl, ?_⟩
      refine pt ?_
      have NX : Nw V3.heap.size (.slice wa p.nw wc) (.slice ga p.ng gc) (.slice da p.nd dc) (.slice ua p.nu uc) (.slice wa p.nw wc) (.slice ga p.ng gc) (.slice da p.nd dc) (.slice ux (p.nu - 1) kx) := nw_up (fun g e => .inr (hrx.lt g e).1)
      have LN := hide ((LO.out.put_up (Below.gb hbV4 _) (hrx.base (by omega)) (fun g e => .inr (hrx.lt g e).1) : Lr V4 base (.slice wa p.nw wc) (.slice ga p.ng gc) (.slice da p.nd dc) (.slice ux (p.nu - 1) kx) (outU p z)))
      have AF : Hid (∀ g, Lrb (.slice wa p.nw wc) (.slice ga p.ng gc) (.slice da p.nd dc) (.slice ux (p.nu - 1) kx) g → g ≠ b0 ∧ g ≠ b1 ∧ g ≠ b2) := hide (fun g h => (NX g h).elim (fun h2 => by have := LT.out g h2; omega) (fun h2 => by omega))
      have AN : Hid (Nw w.heap.size (.slice wa p.nw wc) (.slice ga p.ng gc) (.slice da p.nd dc) (.slice ua p.nu uc) (.slice wa p.nw wc) (.slice ga p.ng gc) (.slice da p.nd dc) (.slice ux (p.nu - 1) kx)) := hide (fun g h => (NX g h).elim (fun h2 => .inl h2) (fun h2 => .inr (by omega)))
      clear NX szT szW
      replace LO := hide (LO.out.below hbV4)
      clear hbV4 hrx
      refine sv (.tuple #[.string (p.ut z), .agg #[.int .i64 p.base, .slice wa p.nw wc, .int .i64 p.want, .slice ga p.ng gc, .slice da p.nd dc, .slice ux (p.nu - 1) kx], .int .i64 0]) ?_
      refine sv (.string (p.ut z)) ?_
      refine sv (.agg #[.int .i64 p.base, .slice wa p.nw wc, .int .i64 p.want, .slice ga p.ng gc, .slice da p.nd dc, .slice ux (p.nu - 1) kx]) ?_
      refine sv (.int .i64 0) ?_
      refine sbp #[.int .i64 0, .slice none 0 0, .int .i64 0, .slice none 0 0, .slice none 0 0, .slice none 0 0] 30 fun V5 b3 hb3 m5 bx3 => ?_
      replace bx2 := Xbn bx2 m4; have o2_3 := Xlo bx2 hb3
      replace AF : Hid (∀ g, Lrb (.slice wa p.nw wc) (.slice ga p.ng gc) (.slice da p.nd dc) (.slice ux (p.nu - 1) kx) g → g ≠ b0 ∧ g ≠ b1 ∧ g ≠ b2 ∧ g ≠ b3) := hide (fun g h => by have h1 := AF.out g h; have h2 := (LN.out.lt g h).2; refine (?_ : _ ∧ _); exact (by omega))
      clear hb3
      refine sv (.string (p.ut z)) ?_
      refine ss6 (.int .i64 p.base) (.slice wa p.nw wc) (.int .i64 p.want) (.slice ga p.ng gc) (.slice da p.nd dc) (.slice ux (p.nu - 1) kx) bx3 fun V6 m6 bx3 => ?_
      replace LN := Xln LN m5; replace LN := hide (LN.out.mv m6 (fun g hg h => by have h : g = b3 := h; have := AF.out g hg; omega))
      refine sv (.int .i64 0) ?_
      refine nt (hK _ _ ?_); clear hK K; refine sk fun K hK => sk fun K hK => rl ?_
      refine sv (.int .i64 0) ?_
      refine sg (.bool false) ?_
      refine nt (hK _ _ ?_); clear hK K; refine cf (wp_skip (then_normal (hK _ _ ?_))); clear hK K; refine sk fun K hK => rl ?_
      refine sv (.string (p.ut z)) ?_
      refine sw_call (by rfl) (by first | rfl | (go_simp; done)) (read_as (p.ut z) true hrd V6 hts) ?_
      rintro e V7 ⟨rfl, hbV7⟩
      have m7 : Mv (nob) V6 V7 := Mv.of_below hbV7
      refine ⟨_, rfl, ?_⟩
      refine pt ?_
      clear hbV7
      refine sv (.tuple #[.agg #[.int .i64 (Flit.rK (p.ut z)), .int .i64 (Flit.rS (p.ut z)), .string (Flit.rB (p.ut z))], .bool true]) ?_
      refine sv (.agg #[.int .i64 (Flit.rK (p.ut z)), .int .i64 (Flit.rS (p.ut z)), .string (Flit.rB (p.ut z))]) ?_
      refine sv (.bool true) ?_
      refine sbp #[.int .i64 0, .int .i64 0, .string ⟨#[]⟩] 88 fun V8 b4 hb4 m8 bx4 => ?_
      replace bx3 := Xbn bx3 m7; have o3_4 := Xlo bx3 hb4
      replace LN := Xln LN m7; replace AF : Hid (∀ g, Lrb (.slice wa p.nw wc) (.slice ga p.ng gc) (.slice da p.nd dc) (.slice ux (p.nu - 1) kx) g → g ≠ b0 ∧ g ≠ b1 ∧ g ≠ b2 ∧ g ≠ b3 ∧ g ≠ b4) := hide (fun g h => by have h1 := AF.out g h; have h2 := (LN.out.lt g h).2; refine (?_ : _ ∧ _); exact (by omega))
      clear hb4
      refine ss3 (.int .i64 (Flit.rK (p.ut z))) (.int .i64 (Flit.rS (p.ut z))) (.string (Flit.rB (p.ut z))) bx4 fun V9 m9 bx4 => ?_
      replace LN := Xln LN m8; replace LN := hide (LN.out.mv m9 (fun g hg h => by have h : g = b4 := h; have := AF.out g hg; omega))
      refine sv (.bool true) ?_
      refine nt (hK _ _ ?_); clear hK K; refine sk fun K hK => sk fun K hK => rl ?_
      refine sv (.bool true) ?_
      refine sv (.bool true) ?_
      refine sv (.pointer (some ⟨b1, 0, none⟩)) ?_
      replace bx1 := Xbb (Xbn (Xbn (Xbb (Xbn (Xbn bx1 m4) m5) m6) m7) m8) m9; refine sl 0 bx1 ?_
      refine sg (.bool true) ?_
      refine sv (.bool true) ?_
      refine sv (.pointer (some ⟨b4, 0, none⟩)) ?_
      refine sl 0 bx4 ?_
      refine sg (.bool false) ?_
      refine sg (.bool false) ?_
      refine nt (hK _ _ ?_); clear hK K; refine cf (wp_skip (then_normal (hK _ _ ?_))); clear hK K; refine sk fun K hK => sk fun K hK => rl ?_
      refine sv (.bool true) ?_
      refine sv (.bool true) ?_
      refine sv (.pointer (some ⟨b1, 0, none⟩)) ?_
      refine sl 0 bx1 ?_
      refine sg (.bool false) ?_
      refine sg (.bool false) ?_
      refine sv (.bool false) ?_
      with_reducible refine sp ?_
      with_reducible refine sp ?_
      with_reducible refine sp ?_
      refine sg (.bool false) ?_
      refine nt (hK _ _ ?_); clear hK K; refine cf (wp_skip (then_normal (hK _ _ ?_))); clear hK K; refine sk fun K hK => rl ?_
      replace bx3 := Xbb (Xbn bx3 m8) m9; refine sl6 bx3 ?_
      replace bx2 := Xbb (Xbn (Xbn (Xbb (Xbn bx2 m5) m6) m7) m8) m9; refine ss6 (.int .i64 p.base) (.slice wa p.nw wc) (.int .i64 p.want) (.slice ga p.ng gc) (.slice da p.nd dc) (.slice ux (p.nu - 1) kx) bx2 fun V10 m10 bx2 => ?_
      replace LN := hide (LN.out.mv m10 (fun g hg h => by have h : g = b2 := h; have := AF.out g hg; omega))
      refine sv (.int .i64 0) ?_
      refine nt (hK _ _ ?_); clear hK K; refine wp_ret ?_
      try simp only [Exit.then, Exit.inBlock, ↓reduceIte, Nat.reduceEqDiff]
      obtain ⟨_, q2_0, q2_1, q2_2, q2_3, q2_4, q2_5⟩ := box6 bx2.out
      replace HB := Xhb (Xhb (Xhn (Xhn (Xhb (Xhn (Xhn HB m4) m5) m6) m7) m8) m9) m10; replace LO := Xlb (Xlb (Xln (Xln (Xlb (Xln LO m5) LT m6) m7) m8) LT m9) LT m10; exact bodyPost_ret (v := .tuple #[.agg #[.int .i64 p.base, .slice wa p.nw wc, .int .i64 p.want, .slice ga p.ng gc, .slice da p.nd dc, .slice ux (p.nu - 1) kx], .int .i64 0]) (by simp [results, Try.results71, go_sem, q2_0, q2_1, q2_2, q2_3, q2_4, q2_5]) rfl ⟨_, _, _, _, by first | (rw [HD]; done) | (rw [HD]; rfl), HB.out, LO.out, by rw [HD]; exact LN.out, AN.out⟩


end Go.Proofs.Ytnkocikbapbbmaa
