/- LcM, LsD, LsE, LsA, LsB, LsF, in one text -/
import Derived.Test.YtgflipkhhpkidaaZLeC
import Derived.Test.YtgflipkhhpkidaaZLsC
import Derived.Deep.LoopGhost
import Derived.Test.YtgflipkhhpkidaaLnkA
/- a link calmed, plainly: all that comes, a round, rounds -/
namespace Go.Proofs.Ytgflipkhhpkidaa
open Go.RowKit
set_option linter.unusedVariables false
set_option linter.unusedSimpArgs false

/-- how many are under way -/
def cnt (k : Int) (p : Lk) : Nat := if k = 3 then p.nd else p.nu
def allN (k : Int) : Nat → Lk → Lk × Bool
  | 0, p => (p, true)
  | m + 1, p => if ldC p k 0 0 e0 = 0 then allN k m (ldL p k 0 0 e0) else (p, false)
/-- the first one comes until there is none, or one is refused -/
def alC (k : Int) (p : Lk) : Lk × Bool := allN k (cnt k p) p
theorem thB_zero (n : Nat) : thB n 0 = decide (0 < n) := by
  unfold thB
  by_cases h : 0 < n
  · rw [decide_eq_true h, decide_eq_true (by omega), decide_eq_true (by omega)]; rfl
  · rw [decide_eq_false h, decide_eq_false (show ¬ (0 : Int) < (n : Int) by omega), Bool.and_false]
theorem e0_size : e0.size = 0 := rfl
theorem ldC_three (p : Lk) : ldC p 3 0 0 e0 = if p.nd = 0 then 3 else if lkB (comeD p 0) then 0 else 4 := by
  have h1 : laB 3 0 0 e0 = true := by simp [laB, e0_size]
  have h2 : actC p 3 0 0 = if p.nd = 0 then 3 else 0 := by
    simp only [actC, thB_zero]
    by_cases h : p.nd = 0
    · simp [h]
    · simp [h, show 0 < p.nd by omega]
  have h3 : actL p 3 0 0 e0 = comeD p 0 := by simp [actL]
  unfold ldC
  rw [h1, h2, h3, if_pos rfl]
  by_cases h : p.nd = 0
  · simp [h]
  · simp [h]
theorem ldC_four (p : Lk) : ldC p 4 0 0 e0 = if p.nu = 0 then 3 else if lkB (comeU p 0) then 0 else 4 := by
  have h1 : laB 4 0 0 e0 = true := by simp [laB, e0_size]
  have h2 : actC p 4 0 0 = if p.nu = 0 then 3 else 0 := by
    simp only [actC, thB_zero]
    by_cases h : p.nu = 0
    · simp [h]
    · simp [h, show 0 < p.nu by omega]
  have h3 : actL p 4 0 0 e0 = comeU p 0 := by simp [actL]
  unfold ldC
  rw [h1, h2, h3, if_pos rfl]
  by_cases h : p.nu = 0
  · simp [h]
  · simp [h]
theorem comeD_nd (p : Lk) (z : Nat) : (comeD p z).nd = p.nd - 1 := by
  unfold comeD
  split
  · unfold dgL
    split <;> rfl
  · rfl
theorem comeU_nu (p : Lk) (z : Nat) : (comeU p z).nu = p.nu - 1 := by
  unfold comeU
  split
  · unfold ackL
    split <;> rfl
  · rfl
theorem comeU_nd (p : Lk) (z : Nat) : (comeU p z).nd = p.nd := by
  unfold comeU
  split
  · unfold ackL
    split <;> rfl
  · rfl
theorem ldL_ok {p : Lk} {k z bit : Int} {body : ByteArray} (h : ldC p k z bit body = 0) : ldL p k z bit body = actL p k z bit body := by unfold ldL; rw [if_pos h]
theorem ldL_no {p : Lk} {k z bit : Int} {body : ByteArray} (h : ldC p k z bit body ≠ 0) : ldL p k z bit body = p := by unfold ldL; rw [if_neg h]
theorem ld_lf {p : Lk} (hf : Lf p) (k z bit : Int) (body : ByteArray) : Lf (ldL p k z bit body) := by
  by_cases h : ldC p k z bit body = 0
  · rw [ldL_ok h]
    unfold ldC at h
    split at h
    · split at h
      · split at h
        · rename_i hl
          exact lk_iff.1 hl
        · exact absurd h (by decide)
      · rename_i h0
        exact absurd h h0
    · exact absurd h (by decide)
  · rw [ldL_no h]; exact hf
theorem cnt_step {p : Lk} {k : Int} (hk : k = 3 ∨ k = 4) (h : ldC p k 0 0 e0 = 0) : cnt k (ldL p k 0 0 e0) + 1 = cnt k p := by
  rw [ldL_ok h]
  rcases hk with rfl | rfl
  · rw [ldC_three] at h
    by_cases h0 : p.nd = 0
    · rw [if_pos h0] at h; exact absurd h (by decide)
    · rw [show actL p 3 0 0 e0 = comeD p 0 from by simp [actL]]
      simp only [cnt, if_true, comeD_nd]
      omega
  · rw [ldC_four] at h
    by_cases h0 : p.nu = 0
    · rw [if_pos h0] at h; exact absurd h (by decide)
    · rw [show actL p 4 0 0 e0 = comeU p 0 from by simp [actL]]
      simp only [cnt, show ¬ (4 : Int) = 3 by decide, if_false, comeU_nu]
      omega
theorem al_step {p : Lk} {k : Int} (hk : k = 3 ∨ k = 4) (h : ldC p k 0 0 e0 = 0) : alC k (ldL p k 0 0 e0) = alC k p := by
  have hc := cnt_step hk h
  unfold alC
  rw [← hc]
  simp only [allN, h, if_true]
theorem al_stop {p : Lk} {k : Int} (hk : k = 3 ∨ k = 4) (h : ldC p k 0 0 e0 ≠ 0) : alC k p = (p, decide (ldC p k 0 0 e0 = 3)) := by
  unfold alC
  cases hc : cnt k p with
  | zero =>
    have h3 : ldC p k 0 0 e0 = 3 := by
      rcases hk with rfl | rfl
      · rw [ldC_three, if_pos (by simpa [cnt] using hc)]
      · rw [ldC_four, if_pos (by simpa [cnt] using hc)]
    rw [h3]; rfl
  | succ m =>
    have h3 : ldC p k 0 0 e0 ≠ 3 := by
      rcases hk with rfl | rfl
      · have h0 : p.nd ≠ 0 := by have : p.nd = m + 1 := by simpa [cnt] using hc
                                 omega
        rw [ldC_three, if_neg h0]
        split <;> decide
      · have h0 : p.nu ≠ 0 := by have : p.nu = m + 1 := by simpa [cnt] using hc
                                 omega
        rw [ldC_four, if_neg h0]
        split <;> decide
    simp only [allN, h, if_false, decide_eq_false h3]
theorem allN_lf (k : Int) : ∀ (m : Nat) (p : Lk), Lf p → Lf (allN k m p).1
  | 0, p, h => h
  | m + 1, p, h => by
    unfold allN
    split
    · exact allN_lf k m _ (ld_lf h k 0 0 e0)
    · exact h
theorem al_lf {p : Lk} (k : Int) (h : Lf p) : Lf (alC k p).1 := allN_lf k _ p h
theorem allN_cnt {k : Int} (hk : k = 3 ∨ k = 4) : ∀ (m : Nat) (p : Lk), cnt k p = m → (allN k m p).2 = true → cnt k (allN k m p).1 = 0
  | 0, p, hc, _ => hc
  | m + 1, p, hc, h => by
    unfold allN at h ⊢
    split at h
    · rename_i h0
      rw [if_pos h0]
      exact allN_cnt hk m _ (by have := cnt_step hk h0; omega) h
    · cases h
theorem al_cnt {p : Lk} {k : Int} (hk : k = 3 ∨ k = 4) (h : (alC k p).2 = true) : cnt k (alC k p).1 = 0 := allN_cnt hk _ p rfl h
theorem allN_nd : ∀ (m : Nat) (p : Lk), (allN 4 m p).1.nd = p.nd
  | 0, p => rfl
  | m + 1, p => by
    unfold allN
    split
    · rename_i h0
      rw [allN_nd m, ldL_ok h0, show actL p 4 0 0 e0 = comeU p 0 from by simp [actL], comeU_nd]
    · rfl
theorem al_zero {p : Lk} {k : Int} (h : cnt k p = 0) : alC k p = (p, true) := by unfold alC; rw [h]; rfl
/-- a round: what waits is sent, all comes down, all comes up -/
def rnd (p : Lk) : Lk × Bool := ((alC 4 (alC 3 (ldL p 2 0 0 e0)).1).1, decide (ldC p 2 0 0 e0 = 0) && (alC 3 (ldL p 2 0 0 e0)).2 && (alC 4 (alC 3 (ldL p 2 0 0 e0)).1).2)
theorem rnd_no {p : Lk} (hd : p.nd = 0) (hu : p.nu = 0) (h : ldC p 2 0 0 e0 ≠ 0) : rnd p = (p, false) := by
  unfold rnd
  rw [ldL_no h, al_zero (k := 3) (by simpa [cnt] using hd)]
  simp only
  rw [al_zero (k := 4) (by simpa [cnt] using hu), decide_eq_false h]
  rfl
theorem rnd_empty {p : Lk} (h : (rnd p).2 = true) : (rnd p).1.nd = 0 ∧ (rnd p).1.nu = 0 := by
  unfold rnd at h ⊢
  simp only [Bool.and_eq_true] at h
  have h1 := al_cnt (k := 3) (.inl rfl) h.1.2
  have h2 := al_cnt (k := 4) (.inr rfl) h.2
  simp only [cnt, if_true] at h1
  simp only [cnt, show ¬ (4 : Int) = 3 by decide, if_false] at h2
  refine ⟨?_, h2⟩
  simp only
  rw [show (alC 4 (alC 3 (ldL p 2 0 0 e0)).1).1.nd = (alC 3 (ldL p 2 0 0 e0)).1.nd from allN_nd _ _]
  exact h1
theorem rnd_lf {p : Lk} (h : Lf p) : Lf (rnd p).1 := al_lf 4 (al_lf 3 (ld_lf h 2 0 0 e0))
def calN : Nat → Lk → Lk × Bool
  | 0, p => (p, decide (p.nw = 0))
  | m + 1, p => if p.nw = 0 then (p, true) else if (rnd p).2 then calN m (rnd p).1 else ((rnd p).1, false)
/-- a link with nothing under way -/
def bare (p : Lk) : Lk := { p with nd := 0, nu := 0 }
theorem bare_lf {p : Lk} (h : Lf p) : Lf (bare p) :=
  ⟨h.b0, h.b1, h.w8, h.k0, h.k1, h.kg, h.ma, h.tw, h.tg, fun j hj => absurd hj (Nat.not_lt_zero j), by show (0 : Nat) ≤ 12; decide, fun j hj => absurd hj (Nat.not_lt_zero j), by show (0 : Nat) ≤ 12; decide⟩
def cmL (p : Lk) : Lk × Bool := if lkB p then calN 20 (bare p) else (zeL, false)
theorem calN_lf : ∀ (m : Nat) (p : Lk), Lf p → Lf (calN m p).1
  | 0, p, h => h
  | m + 1, p, h => by
    unfold calN
    split
    · exact h
    · split
      · exact calN_lf m _ (rnd_lf h)
      · exact rnd_lf h
theorem cmL_sm (p : Lk) : Lsm 1048576 (cmL p).1 := by
  unfold cmL
  split
  · rename_i h
    exact (calN_lf 20 _ (bare_lf (lk_iff.1 h))).sm
  · exact ⟨⟨by decide, fun j hj => absurd hj (Nat.not_lt_zero j)⟩, ⟨by decide, fun j hj => absurd hj (Nat.not_lt_zero j)⟩, ⟨by decide, fun j hj => absurd hj (Nat.not_lt_zero j)⟩, ⟨by decide, fun j hj => absurd hj (Nat.not_lt_zero j)⟩⟩

end Go.Proofs.Ytgflipkhhpkidaa

/- the reader's link (written by mkLsD.py) -/
namespace Go.Proofs.Ytgflipkhhpkidaa
open Go.RowKit
set_option linter.unusedVariables false
set_option linter.unusedSimpArgs false

theorem Lr.alike {w : World} {base : Nat} {wv gv dv uv : Value} {p : Lk} (h : Lr w base wv gv dv uv p) {b k : Int} : Lr w base wv gv dv uv { p with base := b, want := k } := ⟨h.wa, h.go, h.dn, h.up, h.aw, h.ag, h.ad⟩
theorem Xqn {w w' : World} {base : Nat} {wv gv dv uv : Value} {p : Lk} (h : Hid (Lr w base wv gv dv uv p)) (m : Mv nob w w') : Hid (Lr w' base wv gv dv uv p) := hide (h.out.mv m (fun _ _ h => h))
theorem do_lf {p : Lk} (h : Lf p) (k z bit : Int) (bd : ByteArray) : Lf (doL p k z bit bd) := by
  unfold doL
  rw [if_pos (lk_iff.2 h)]
  exact ld_lf h k z bit bd

set_option maxHeartbeats 8000000 in
set_option maxRecDepth 20000 in
theorem link_any (g : Nat) (most : Int) (w : World) (h : Rdr w g) (hm0 : 0 ≤ most) (hm1 : most ≤ 999) : Calls Try.prog 23 #[.pointer (some ⟨g, 0, none⟩), .int .i64 most] w fun e w' => ∃ (wv gv dv uv : Value) (p : Lk), e = .returned (.agg (l6 p.base wv p.want gv dv uv)) ∧ Lr w' w.heap.size wv gv dv uv p ∧ Lsm 1048576 p ∧ Rdr w' g ∧ w.grownBy w' (some g) := by
  have hgl := h.lt
  have HB : Hid (Mv (fun x => x = g) w w) := hide (Mv.refl _ _)
  have RD := hide h
  clear h
  go_enter Try.func23, Try.ntmps23
  refine sk fun K1 h1 => rl ?_
  refine sbp #[.int .i64 0, .slice none 0 0, .int .i64 0, .slice none 0 0, .slice none 0 0, .slice none 0 0] 27 fun V1 b0 hb0 m1 bx0 => ?_
  have o_0 : w.heap.size ≤ b0 := by omega
  clear hb0
  refine nt (h1 _ _ (sk fun K2 h2 => rl ?_)); clear h1 K1
  refine sv (.agg #[.int .i64 0, .slice none 0 0, .int .i64 0, .slice none 0 0, .slice none 0 0, .slice none 0 0]) ?_
  refine sbp #[.int .i64 0, .slice none 0 0, .int .i64 0, .slice none 0 0, .slice none 0 0, .slice none 0 0] 27 fun V2 b1 hb1 m2 bx1 => ?_
  have o0_1 := Xlo bx0 hb1
  clear hb1
  refine ss6 (.int .i64 0) (.slice none 0 0) (.int .i64 0) (.slice none 0 0) (.slice none 0 0) (.slice none 0 0) bx1 fun V3 m3 bx1 => ?_
  refine nt (h2 _ _ (sk fun K3 h3 => sk fun K4 h4 => rl ?_)); clear h2 K2
  have LN : Hid (Lr V3 w.heap.size (.slice none 0 0) (.slice none 0 0) (.slice none 0 0) (.slice none 0 0) zeL) := hide (zeL_lr _ _)
  have AF : Hid (∀ x, Lrb (.slice none 0 0) (.slice none 0 0) (.slice none 0 0) (.slice none 0 0) x → b0 < x ∧ b1 < x) := hide (fun x h => by rcases h with h | h | h | h <;> cases h)
  refine sv (.pointer (some ⟨g, 0, none⟩)) ?_
  refine sv (.int .i64 most) ?_
  refine sg (.int .i64 ((most + 1))) (h := by have hw := i64wrap (x := most + 1) (by omega); go_simp) ?_
  replace RD := Xrb (Xrn (Xrn RD m1) m2) m3
  refine sw_call (by rfl) (by first | rfl | (go_simp; done)) (below_any g (most + 1) V3 RD.out (by omega) (by omega)) ?_
  rintro e V4 ⟨nn, rfl, nn0, nn1, hr, hg⟩
  have m4 : Mv (fun x => x = g) V3 V4 := mv_rd hg
  refine ⟨_, rfl, ?_⟩
  refine pt ?_
  replace LN := hide (LN.out.mv m4 (fun x hx e => by have e : x = g := e; have := LN.out.lt x hx; omega))
  replace RD := hide hr
  clear hr hg
  refine sv (.int .i64 nn) ?_
  refine nt (h4 _ _ (wp_block ?_)); clear h4 K4
  obtain ⟨nn, rfl⟩ : ∃ m : Nat, nn = m := ⟨nn.toNat, by omega⟩
  have QF : Hid (Lf zeL) := hide (lk_iff.1 (by decide))
  replace HB := Xhg (Xhb (Xhn (Xhn HB m1) m2) m3) m4; replace bx0 := Xbb (Xbb (Xbn bx0 m2) m3) m4; replace bx1 := Xbb bx1 m4
  refine wp_loop_ghost (fun m a' w' => ∃ (q : Lk) (n : Nat) (xa : Option Addr) (xc : Nat) (ya : Option Addr) (yc : Nat) (za : Option Addr) (zc : Nat) (ta : Option Addr) (tc : Nat) (u12 : Value) (u13 : Value) (u14 : Value) (u15 : Value) (u16 : Value) (u17 : Value) (u18 : Value) (u19 : Value) (u20 : Value) (u21 : Value) (u22 : Value) (u23 : Value), m = n + 1 ∧ a' = ⟨#[.pointer (some ⟨g, 0, none⟩), .int .i64 most, undef, undef, .pointer (some ⟨b0, 0, none⟩), .pointer (some ⟨b1, 0, none⟩), .int .i64 ((n : Int)), .agg #[.int .i64 0, .slice none 0 0, .int .i64 0, .slice none 0 0, .slice none 0 0, .slice none 0 0], .pointer (some ⟨g, 0, none⟩), .int .i64 most, .int .i64 ((most + 1)), .int .i64 nn, u12, u13, u14, u15, u16, u17, u18, u19, u20, u21, u22, u23, undef, undef, undef, undef, undef, undef, undef, undef, undef, undef, undef, undef, undef], []⟩ ∧ (Mv (fun x => x = g) w w') ∧ (Rdr w' g) ∧ (Lr w' w.heap.size (.slice xa q.nw xc) (.slice ya q.ng yc) (.slice za q.nd zc) (.slice ta q.nu tc) q) ∧ (∀ x, Lrb (.slice xa q.nw xc) (.slice ya q.ng yc) (.slice za q.nd zc) (.slice ta q.nu tc) x → b0 < x ∧ b1 < x) ∧ (Lf q) ∧ (n ≤ 1000) ∧ (w'.heap[b0]? = some (.cells #[.int .i64 0, .slice none 0 0, .int .i64 0, .slice none 0 0, .slice none 0 0, .slice none 0 0] 27 (0, 0))) ∧ (w'.heap[b1]? = some (.cells #[.int .i64 q.base, .slice xa q.nw xc, .int .i64 q.want, .slice ya q.ng yc, .slice za q.nd zc, .slice ta q.nu tc] 27 (0, 0)))) (nn + 1) ⟨zeL, nn, none, 0, none, 0, none, 0, none, 0, _, _, _, _, _, _, _, _, _, _, _, _, rfl, rfl, (HB.out), (RD.out), (LN.out), (AF.out), (QF.out), (by omega), (bx0.out), (bx1.out)⟩ (fun m a' VL1 hI => ?_)
  obtain ⟨q, n, xa, xc, ya, yc, za, zc, ta, tc, u12, u13, u14, u15, u16, u17, u18, u19, u20, u21, u22, u23, rfl, rfl, i_HB, i_RD, i_LN, i_AF, i_QF, i_NL, i_bx0, i_bx1⟩ := hI
  clear HB RD bx0 bx1 LN
  have HB := hide i_HB
  clear i_HB
  have RD := hide i_RD
  clear i_RD
  have LN := hide i_LN
  clear i_LN
  have AF := hide i_AF
  clear i_AF
  have QF := hide i_QF
  clear i_QF
  have NL := hide i_NL
  clear i_NL
  have bx0 := hide i_bx0
  clear i_bx0
  have bx1 := hide i_bx1
  clear i_bx1
  refine sk fun K5 h5 => sk fun K6 h6 => rl ?_
  by_cases hn : 0 < n
  · refine sv (.int .i64 ((n : Int))) ?_
    refine sg (.bool true) (h := by have hd : decide (0 < n) = true := (by simpa using hn); go_simp) ?_
    refine nt (h6 _ _ (ct (wp_skip (then_normal (h5 _ _ (sk fun K7 h7 => wp_block ?_)))))); clear h6 K6; clear h5 K5
    have hdo := fun V wv gv dv uv (h : La V wv gv dv uv q) => specLinkDo_any q wv gv dv uv V h QF.out.sm
    refine wp_region_but (z := 999) (S := fun w' => Mv (fun x => x = g ∨ x = b1) VL1.drew w') (by kernel_rfl) (Mv.refl _ _) (fun hS => ?_)
    have m5 : Mv nob VL1 VL1.drew := Mv.drew _
    obtain ⟨V5, hN⟩ : ∃ V, VL1.drew = V := ⟨_, rfl⟩
    rw [hN] at hS m5 ⊢
    clear hN
    replace bx1 := Xbn bx1 m5
    have rbx1 := bx1
    refine tk0 1 (.pointer (some ⟨g, 0, none⟩)) rfl ?_
    replace HB := Xhn HB m5; replace RD := Xrn RD m5; replace bx0 := Xbn bx0 m5; replace LN := Xqn LN m5
    refine kd_each (l := [0, 2]) (by kernel_rfl) rfl ⟨?_, ?_, trivial⟩
    · refine ⟨_, rfl, by rfl, .inl ⟨.agg #[.int .i64 q.base, .slice xa q.nw xc, .int .i64 q.want, .slice ya q.ng yc, .slice za q.nd zc, .slice ta q.nu tc], _, (by have z0 := cell_box 0 (bx1.out) rfl; have z1 := cell_box 1 (bx1.out) rfl; have z2 := cell_box 2 (bx1.out) rfl; have z3 := cell_box 3 (bx1.out) rfl; have z4 := cell_box 4 (bx1.out) rfl; have z5 := cell_box 5 (bx1.out) rfl; go_simp), fun _ => hS, ?_⟩⟩
      refine ptk ?_
      refine kd_val (i := 2) (v := .agg #[.int .i64 q.base, .slice xa q.nw xc, .int .i64 q.want, .slice ya q.ng yc, .slice za q.nd zc, .slice ta q.nu tc]) (by kernel_rfl) rfl (by rfl) (by have z0 := cell_box 0 (bx1.out) rfl; have z1 := cell_box 1 (bx1.out) rfl; have z2 := cell_box 2 (bx1.out) rfl; have z3 := cell_box 3 (bx1.out) rfl; have z4 := cell_box 4 (bx1.out) rfl; have z5 := cell_box 5 (bx1.out) rfl; go_simp) hS ?_
      refine ptk ?_
      have hqd := QF.out.sm.2.2.1.1
      have hqu := QF.out.sm.2.2.2.1
      refine kd_call (i := 3) (by kernel_rfl) rfl (by rfl) (by first | rfl | (go_simp; done)) (lact_any g q (.slice xa q.nw xc) (.slice ya q.ng yc) za ta zc tc V5 RD.out hqd hqu) ?_
      rintro e V6 ⟨k, z, bit, bd, rfl, hr, hg⟩
      have m6 : Mv (fun x => x = g) V5 V6 := mv_rd hg
      replace hS := hS.step m6 (fun _ _ h => .inl h)
      refine ⟨_, rfl, fun _ => hS, ?_⟩
      refine ptk ?_
      replace LN := hide (LN.out.mv m6 (fun x hx e => by have e : x = g := e; have := LN.out.lt x hx; omega))
      replace RD := hide hr
      clear hr hg
      replace hdo := fun V wv gv dv uv (h : La V wv gv dv uv q) => hdo V wv gv dv uv h k z bit bd
      have QL := do_lf QF.out k z bit bd
      generalize doL q k z bit bd = L at hdo QL
      generalize doC q k z bit bd = C at hdo
      replace bx1 := Xbb bx1 m6
      have szT := lt_of_block bx1.out
      replace HB := Xhg HB m6
      have szW := HB.out.size
      refine kd_call (i := 4) (by kernel_rfl) rfl (by rfl) (by first | rfl | (go_simp; done)) (hdo V6 _ _ _ _ LN.out.la) ?_
      rintro e V7 ⟨wv, gv, dv, uv, rfl, LQ, hbl⟩
      have m7 : Mv (nob) V6 V7 := Mv.of_below hbl
      replace hS := hS.step m7 (fun _ _ h => h.elim)
      refine ⟨_, rfl, fun _ => hS, ?_⟩
      refine ptk ?_
      obtain ⟨x2a, x2c, rfl, _⟩ := LQ.wa.form
      obtain ⟨y2a, y2c, rfl, _⟩ := LQ.go.form
      obtain ⟨z2a, z2c, rfl, _⟩ := LQ.dn.form
      obtain ⟨t2a, t2c, rfl, _⟩ := LQ.up.form
      replace LN := hide (LQ.lower szW)
      replace AF : Hid (∀ x, Lrb (.slice x2a L.nw x2c) (.slice y2a L.ng y2c) (.slice z2a L.nd z2c) (.slice t2a L.nu t2c) x → b0 < x ∧ b1 < x) := hide (fun x h => by have := (LQ.lt x h).1; omega)
      clear LQ hbl szT szW
      refine tk0 5 (.tuple #[.agg #[.int .i64 L.base, .slice x2a L.nw x2c, .int .i64 L.want, .slice y2a L.ng y2c, .slice z2a L.nd z2c, .slice t2a L.nu t2c], .int .i64 C]) rfl ?_
      refine tk0 6 (.agg #[.int .i64 L.base, .slice x2a L.nw x2c, .int .i64 L.want, .slice y2a L.ng y2c, .slice z2a L.nd z2c, .slice t2a L.nu t2c]) rfl ?_
      refine tk0 7 (.int .i64 C) rfl ?_
      replace bx1 := Xbn bx1 m7
      refine kd_skipI (i := 8) (w' := (((((V7.setCell ⟨b1, 0, none⟩ (.int .i64 L.base)).setCell ⟨b1, 1, none⟩ (.slice x2a L.nw x2c)).setCell ⟨b1, 2, none⟩ (.int .i64 L.want)).setCell ⟨b1, 3, none⟩ (.slice y2a L.ng y2c)).setCell ⟨b1, 4, none⟩ (.slice z2a L.nd z2c)).setCell ⟨b1, 5, none⟩ (.slice t2a L.nu t2c)) (fun V => Mv (fun g => g = b1) V7 V ∧ V.heap[b1]? = some (.cells #[.int .i64 L.base, .slice x2a L.nw x2c, .int .i64 L.want, .slice y2a L.ng y2c, .slice z2a L.nd z2c, .slice t2a L.nu t2c] 27 (0, 0))) (by kernel_rfl) rfl (by rfl) (by have fr := fun i => frozen_of_row _ _ i _ _ bx1.out; have z0 := cell_box 0 bx1.out rfl; have z1 := cell_box 1 bx1.out rfl; have z2 := cell_box 2 bx1.out rfl; have z3 := cell_box 3 bx1.out rfl; have z4 := cell_box 4 bx1.out rfl; have z5 := cell_box 5 bx1.out rfl; go_simp) ⟨Mv.set (Mv.set (Mv.set (Mv.set (Mv.set (Mv.set (Mv.refl _ _) _ _) _ _) _ _) _ _) _ _) _ _, (heap_setCell_same _ _ 5 _ _ _ (heap_setCell_same _ _ 4 _ _ _ (heap_setCell_same _ _ 3 _ _ _ (heap_setCell_same _ _ 2 _ _ _ (heap_setCell_same _ _ 1 _ _ _ (heap_setCell_same _ _ 0 _ _ _ (bx1.out))))))).trans rfl⟩ (fun V hI _ => hS.step hI.1 (fun _ _ h => .inr h)) ?_
      rintro V8 ⟨m8, nxV8⟩
      refine ptk ?_
      replace LN := hide (LN.out.mv m8 (fun x hx e => by have e : x = b1 := e; have := AF.out x hx; omega))
      replace bx1 := hide nxV8
      clear nxV8
      replace hS := hS.step m8 (fun _ _ h => .inr h)
      refine wpAnyK_done (by kernel_rfl) ?_
      clear hS rbx1
      refine inb_norm (then_normal (h7 _ _ (rl ?_))); clear h7 K7
      refine sv (.int .i64 ((n : Int))) ?_
      refine sg (.int .i64 (((n - 1 : Nat) : Int))) (h := by have hw : IntKind.i64.wrap ((n : Int) - 1) = ((n - 1 : Nat) : Int) := (by have := NL.out; rw [i64wrap (by omega)]; omega); go_simp) ?_
      refine sv (.int .i64 (((n - 1 : Nat) : Int))) ?_
      refine wpList_nil (then_normal ?_)
      have NL2 : n - 1 ≤ 1000 := by have := NL.out; omega
      replace bx0 := Xbb (Xbn (Xbb bx0 m6) m7) m8; replace HB := Xhb (Xhn HB m7) m8; replace RD := Xrb (Xrn RD m7) m8
      exact ⟨(n - 1 + 1), (by omega), L, (n - 1), x2a, x2c, y2a, y2c, z2a, z2c, t2a, t2c, _, _, _, _, _, _, _, _, _, _, _, _, rfl, rfl, (HB.out), (RD.out), (LN.out), (AF.out), (QL), (NL2), (bx0.out), (bx1.out)⟩
    · refine ⟨_, rfl, by rfl, .inl ⟨.agg #[.int .i64 q.base, .slice xa q.nw xc, .int .i64 q.want, .slice ya q.ng yc, .slice za q.nd zc, .slice ta q.nu tc], _, (by have z0 := cell_box 0 (bx1.out) rfl; have z1 := cell_box 1 (bx1.out) rfl; have z2 := cell_box 2 (bx1.out) rfl; have z3 := cell_box 3 (bx1.out) rfl; have z4 := cell_box 4 (bx1.out) rfl; have z5 := cell_box 5 (bx1.out) rfl; go_simp), fun _ => hS, ?_⟩⟩
      refine ptk ?_
      refine kd_each (l := [0, 3]) (by kernel_rfl) rfl ⟨?_, ?_, trivial⟩
      · refine ⟨_, rfl, by rfl, .inl ⟨.agg #[.int .i64 q.base, .slice xa q.nw xc, .int .i64 q.want, .slice ya q.ng yc, .slice za q.nd zc, .slice ta q.nu tc], _, (by have z0 := cell_box 0 (bx1.out) rfl; have z1 := cell_box 1 (bx1.out) rfl; have z2 := cell_box 2 (bx1.out) rfl; have z3 := cell_box 3 (bx1.out) rfl; have z4 := cell_box 4 (bx1.out) rfl; have z5 := cell_box 5 (bx1.out) rfl; go_simp), fun _ => hS, ?_⟩⟩
        refine ptk ?_
        have hqd := QF.out.sm.2.2.1.1
        have hqu := QF.out.sm.2.2.2.1
        refine kd_call (i := 3) (by kernel_rfl) rfl (by rfl) (by first | rfl | (go_simp; done)) (lact_any g q (.slice xa q.nw xc) (.slice ya q.ng yc) za ta zc tc V5 RD.out hqd hqu) ?_
        rintro e V9 ⟨k, z, bit, bd, rfl, hr, hg⟩
        have m9 : Mv (fun x => x = g) V5 V9 := mv_rd hg
        replace hS := hS.step m9 (fun _ _ h => .inl h)
        refine ⟨_, rfl, fun _ => hS, ?_⟩
        refine ptk ?_
        replace LN := hide (LN.out.mv m9 (fun x hx e => by have e : x = g := e; have := LN.out.lt x hx; omega))
        replace RD := hide hr
        clear hr hg
        replace hdo := fun V wv gv dv uv (h : La V wv gv dv uv q) => hdo V wv gv dv uv h k z bit bd
        have QL := do_lf QF.out k z bit bd
        generalize doL q k z bit bd = L at hdo QL
        generalize doC q k z bit bd = C at hdo
        replace bx1 := Xbb bx1 m9
        have szT := lt_of_block bx1.out
        replace HB := Xhg HB m9
        have szW := HB.out.size
        refine kd_call (i := 4) (by kernel_rfl) rfl (by rfl) (by first | rfl | (go_simp; done)) (hdo V9 _ _ _ _ LN.out.la) ?_
        rintro e V10 ⟨wv, gv, dv, uv, rfl, LQ, hbl⟩
        have m10 : Mv (nob) V9 V10 := Mv.of_below hbl
        replace hS := hS.step m10 (fun _ _ h => h.elim)
        refine ⟨_, rfl, fun _ => hS, ?_⟩
        refine ptk ?_
        obtain ⟨x2a, x2c, rfl, _⟩ := LQ.wa.form
        obtain ⟨y2a, y2c, rfl, _⟩ := LQ.go.form
        obtain ⟨z2a, z2c, rfl, _⟩ := LQ.dn.form
        obtain ⟨t2a, t2c, rfl, _⟩ := LQ.up.form
        replace LN := hide (LQ.lower szW)
        replace AF : Hid (∀ x, Lrb (.slice x2a L.nw x2c) (.slice y2a L.ng y2c) (.slice z2a L.nd z2c) (.slice t2a L.nu t2c) x → b0 < x ∧ b1 < x) := hide (fun x h => by have := (LQ.lt x h).1; omega)
        clear LQ hbl szT szW
        refine tk0 5 (.tuple #[.agg #[.int .i64 L.base, .slice x2a L.nw x2c, .int .i64 L.want, .slice y2a L.ng y2c, .slice z2a L.nd z2c, .slice t2a L.nu t2c], .int .i64 C]) rfl ?_
        refine tk0 6 (.agg #[.int .i64 L.base, .slice x2a L.nw x2c, .int .i64 L.want, .slice y2a L.ng y2c, .slice z2a L.nd z2c, .slice t2a L.nu t2c]) rfl ?_
        refine tk0 7 (.int .i64 C) rfl ?_
        replace bx1 := Xbn bx1 m10
        refine kd_skipI (i := 8) (w' := (((((V10.setCell ⟨b1, 0, none⟩ (.int .i64 L.base)).setCell ⟨b1, 1, none⟩ (.slice x2a L.nw x2c)).setCell ⟨b1, 2, none⟩ (.int .i64 L.want)).setCell ⟨b1, 3, none⟩ (.slice y2a L.ng y2c)).setCell ⟨b1, 4, none⟩ (.slice z2a L.nd z2c)).setCell ⟨b1, 5, none⟩ (.slice t2a L.nu t2c)) (fun V => Mv (fun g => g = b1) V10 V ∧ V.heap[b1]? = some (.cells #[.int .i64 L.base, .slice x2a L.nw x2c, .int .i64 L.want, .slice y2a L.ng y2c, .slice z2a L.nd z2c, .slice t2a L.nu t2c] 27 (0, 0))) (by kernel_rfl) rfl (by rfl) (by have fr := fun i => frozen_of_row _ _ i _ _ bx1.out; have z0 := cell_box 0 bx1.out rfl; have z1 := cell_box 1 bx1.out rfl; have z2 := cell_box 2 bx1.out rfl; have z3 := cell_box 3 bx1.out rfl; have z4 := cell_box 4 bx1.out rfl; have z5 := cell_box 5 bx1.out rfl; go_simp) ⟨Mv.set (Mv.set (Mv.set (Mv.set (Mv.set (Mv.set (Mv.refl _ _) _ _) _ _) _ _) _ _) _ _) _ _, (heap_setCell_same _ _ 5 _ _ _ (heap_setCell_same _ _ 4 _ _ _ (heap_setCell_same _ _ 3 _ _ _ (heap_setCell_same _ _ 2 _ _ _ (heap_setCell_same _ _ 1 _ _ _ (heap_setCell_same _ _ 0 _ _ _ (bx1.out))))))).trans rfl⟩ (fun V hI _ => hS.step hI.1 (fun _ _ h => .inr h)) ?_
        rintro V11 ⟨m11, nxV11⟩
        refine ptk ?_
        replace LN := hide (LN.out.mv m11 (fun x hx e => by have e : x = b1 := e; have := AF.out x hx; omega))
        replace bx1 := hide nxV11
        clear nxV11
        replace hS := hS.step m11 (fun _ _ h => .inr h)
        refine wpAnyK_done (by kernel_rfl) ?_
        clear hS rbx1
        refine inb_norm (then_normal (h7 _ _ (rl ?_))); clear h7 K7
        refine sv (.int .i64 ((n : Int))) ?_
        refine sg (.int .i64 (((n - 1 : Nat) : Int))) (h := by have hw : IntKind.i64.wrap ((n : Int) - 1) = ((n - 1 : Nat) : Int) := (by have := NL.out; rw [i64wrap (by omega)]; omega); go_simp) ?_
        refine sv (.int .i64 (((n - 1 : Nat) : Int))) ?_
        refine wpList_nil (then_normal ?_)
        have NL2 : n - 1 ≤ 1000 := by have := NL.out; omega
        replace bx0 := Xbb (Xbn (Xbb bx0 m9) m10) m11; replace HB := Xhb (Xhn HB m10) m11; replace RD := Xrb (Xrn RD m10) m11
        exact ⟨(n - 1 + 1), (by omega), L, (n - 1), x2a, x2c, y2a, y2c, z2a, z2c, t2a, t2c, _, _, _, _, _, _, _, _, _, _, _, _, rfl, rfl, (HB.out), (RD.out), (LN.out), (AF.out), (QL), (NL2), (bx0.out), (bx1.out)⟩
      · have hqd := QF.out.sm.2.2.1.1
        have hqu := QF.out.sm.2.2.2.1
        refine ⟨_, rfl, by rfl, .inr ⟨_, _, _, by first | rfl | (go_simp; done), lact_any g q (.slice xa q.nw xc) (.slice ya q.ng yc) za ta zc tc V5 RD.out hqd hqu, ?_⟩⟩
        rintro e V12 ⟨k, z, bit, bd, rfl, hr, hg⟩
        have m12 : Mv (fun x => x = g) V5 V12 := mv_rd hg
        replace hS := hS.step m12 (fun _ _ h => .inl h)
        refine ⟨_, rfl, fun _ => hS, ?_⟩
        refine ptk ?_
        replace LN := hide (LN.out.mv m12 (fun x hx e => by have e : x = g := e; have := LN.out.lt x hx; omega))
        replace RD := hide hr
        clear hr hg
        replace bx1 := Xbb bx1 m12
        refine kd_val (i := 0) (v := .agg #[.int .i64 q.base, .slice xa q.nw xc, .int .i64 q.want, .slice ya q.ng yc, .slice za q.nd zc, .slice ta q.nu tc]) (by kernel_rfl) rfl (by rfl) (by have z0 := cell_box 0 (bx1.out) rfl; have z1 := cell_box 1 (bx1.out) rfl; have z2 := cell_box 2 (bx1.out) rfl; have z3 := cell_box 3 (bx1.out) rfl; have z4 := cell_box 4 (bx1.out) rfl; have z5 := cell_box 5 (bx1.out) rfl; go_simp) hS ?_
        refine ptk ?_
        replace hdo := fun V wv gv dv uv (h : La V wv gv dv uv q) => hdo V wv gv dv uv h k z bit bd
        have QL := do_lf QF.out k z bit bd
        generalize doL q k z bit bd = L at hdo QL
        generalize doC q k z bit bd = C at hdo
        have szT := lt_of_block bx1.out
        replace HB := Xhg HB m12
        have szW := HB.out.size
        refine kd_call (i := 4) (by kernel_rfl) rfl (by rfl) (by first | rfl | (go_simp; done)) (hdo V12 _ _ _ _ LN.out.la) ?_
        rintro e V13 ⟨wv, gv, dv, uv, rfl, LQ, hbl⟩
        have m13 : Mv (nob) V12 V13 := Mv.of_below hbl
        replace hS := hS.step m13 (fun _ _ h => h.elim)
        refine ⟨_, rfl, fun _ => hS, ?_⟩
        refine ptk ?_
        obtain ⟨x2a, x2c, rfl, _⟩ := LQ.wa.form
        obtain ⟨y2a, y2c, rfl, _⟩ := LQ.go.form
        obtain ⟨z2a, z2c, rfl, _⟩ := LQ.dn.form
        obtain ⟨t2a, t2c, rfl, _⟩ := LQ.up.form
        replace LN := hide (LQ.lower szW)
        replace AF : Hid (∀ x, Lrb (.slice x2a L.nw x2c) (.slice y2a L.ng y2c) (.slice z2a L.nd z2c) (.slice t2a L.nu t2c) x → b0 < x ∧ b1 < x) := hide (fun x h => by have := (LQ.lt x h).1; omega)
        clear LQ hbl szT szW
        refine tk0 5 (.tuple #[.agg #[.int .i64 L.base, .slice x2a L.nw x2c, .int .i64 L.want, .slice y2a L.ng y2c, .slice z2a L.nd z2c, .slice t2a L.nu t2c], .int .i64 C]) rfl ?_
        refine tk0 6 (.agg #[.int .i64 L.base, .slice x2a L.nw x2c, .int .i64 L.want, .slice y2a L.ng y2c, .slice z2a L.nd z2c, .slice t2a L.nu t2c]) rfl ?_
        refine tk0 7 (.int .i64 C) rfl ?_
        replace bx1 := Xbn bx1 m13
        refine kd_skipI (i := 8) (w' := (((((V13.setCell ⟨b1, 0, none⟩ (.int .i64 L.base)).setCell ⟨b1, 1, none⟩ (.slice x2a L.nw x2c)).setCell ⟨b1, 2, none⟩ (.int .i64 L.want)).setCell ⟨b1, 3, none⟩ (.slice y2a L.ng y2c)).setCell ⟨b1, 4, none⟩ (.slice z2a L.nd z2c)).setCell ⟨b1, 5, none⟩ (.slice t2a L.nu t2c)) (fun V => Mv (fun g => g = b1) V13 V ∧ V.heap[b1]? = some (.cells #[.int .i64 L.base, .slice x2a L.nw x2c, .int .i64 L.want, .slice y2a L.ng y2c, .slice z2a L.nd z2c, .slice t2a L.nu t2c] 27 (0, 0))) (by kernel_rfl) rfl (by rfl) (by have fr := fun i => frozen_of_row _ _ i _ _ bx1.out; have z0 := cell_box 0 bx1.out rfl; have z1 := cell_box 1 bx1.out rfl; have z2 := cell_box 2 bx1.out rfl; have z3 := cell_box 3 bx1.out rfl; have z4 := cell_box 4 bx1.out rfl; have z5 := cell_box 5 bx1.out rfl; go_simp) ⟨Mv.set (Mv.set (Mv.set (Mv.set (Mv.set (Mv.set (Mv.refl _ _) _ _) _ _) _ _) _ _) _ _) _ _, (heap_setCell_same _ _ 5 _ _ _ (heap_setCell_same _ _ 4 _ _ _ (heap_setCell_same _ _ 3 _ _ _ (heap_setCell_same _ _ 2 _ _ _ (heap_setCell_same _ _ 1 _ _ _ (heap_setCell_same _ _ 0 _ _ _ (bx1.out))))))).trans rfl⟩ (fun V hI _ => hS.step hI.1 (fun _ _ h => .inr h)) ?_
        rintro V14 ⟨m14, nxV14⟩
        refine ptk ?_
        replace LN := hide (LN.out.mv m14 (fun x hx e => by have e : x = b1 := e; have := AF.out x hx; omega))
        replace bx1 := hide nxV14
        clear nxV14
        replace hS := hS.step m14 (fun _ _ h => .inr h)
        refine wpAnyK_done (by kernel_rfl) ?_
        clear hS rbx1
        refine inb_norm (then_normal (h7 _ _ (rl ?_))); clear h7 K7
        refine sv (.int .i64 ((n : Int))) ?_
        refine sg (.int .i64 (((n - 1 : Nat) : Int))) (h := by have hw : IntKind.i64.wrap ((n : Int) - 1) = ((n - 1 : Nat) : Int) := (by have := NL.out; rw [i64wrap (by omega)]; omega); go_simp) ?_
        refine sv (.int .i64 (((n - 1 : Nat) : Int))) ?_
        refine wpList_nil (then_normal ?_)
        have NL2 : n - 1 ≤ 1000 := by have := NL.out; omega
        replace bx0 := Xbb (Xbn (Xbb bx0 m12) m13) m14; replace HB := Xhb (Xhn HB m13) m14; replace RD := Xrb (Xrn RD m13) m14
        exact ⟨(n - 1 + 1), (by omega), L, (n - 1), x2a, x2c, y2a, y2c, z2a, z2c, t2a, t2c, _, _, _, _, _, _, _, _, _, _, _, _, rfl, rfl, (HB.out), (RD.out), (LN.out), (AF.out), (QL), (NL2), (bx0.out), (bx1.out)⟩
  · refine sv (.int .i64 ((n : Int))) ?_
    refine sg (.bool false) (h := by have hd : decide (0 < n) = false := (by simpa using hn); go_simp) ?_
    refine nt (h6 _ _ (cf (wp_exit (then_exit (then_exit (inb_here rfl (then_normal (h3 _ _ (sk fun K8 h8 => sk fun K9 h9 => rl ?_))))))))); clear h6 K6; clear h5 K5; clear h3 K3
    refine sv (.pointer (some ⟨g, 0, none⟩)) ?_
    refine sw_call (by rfl) (by first | rfl | (go_simp; done)) (below_any g 30 VL1 RD.out (by omega) (by omega)) ?_
    rintro e V15 ⟨c, rfl, c0, c1, hr, hg⟩
    have m15 : Mv (fun x => x = g) VL1 V15 := mv_rd hg
    refine ⟨_, rfl, ?_⟩
    refine pt ?_
    replace LN := hide (LN.out.mv m15 (fun x hx e => by have e : x = g := e; have := LN.out.lt x hx; omega))
    replace RD := hide hr
    clear hr hg
    refine nt (h9 _ _ (wp_block (sk fun K10 h10 => rl ?_))); clear h9 K9
    replace QF := hide QF.out.sm
    rcases (show c = 28 ∨ c = 29 ∨ (¬ c = 28 ∧ ¬ c = 29) by omega) with rfl | rfl | hc
    · clear c0 c1
      refine sg (.bool true) ?_
      refine sv (.bool true) ?_
      refine nt (h10 _ _ (ct (rl ?_))); clear h10 K10
      refine sv (.pointer (some ⟨g, 0, none⟩)) ?_
      refine sw_call (by rfl) (by first | rfl | (go_simp; done)) (off_any g 0 4 V15 RD.out (by decide) (by decide) (by decide)) ?_
      rintro e V16 ⟨z, rfl, hr, hg⟩
      have m16 : Mv (fun x => x = g) V15 V16 := mv_rd hg
      refine ⟨_, rfl, ?_⟩
      refine pt ?_
      replace LN := hide (LN.out.mv m16 (fun x hx e => by have e : x = g := e; have := LN.out.lt x hx; omega))
      replace RD := hide hr
      clear hr hg
      refine sv (.pointer (some ⟨b1, 0, none⟩)) ?_
      replace bx1 := Xbb (Xbb bx1 m15) m16
      refine ss 0 (.int .i64 z) bx1 fun V17 m17 bx1 => ?_
      replace LN := hide (LN.out.mv m17 (fun x hx e => by have e : x = b1 := e; have := AF.out x hx; omega))
      refine wpList_nil (inb_norm (then_normal (h8 _ _ (sk fun K11 h11 => rl ?_)))); clear h8 K8
      refine sl6 bx1 ?_
      replace bx0 := Xbb (Xbb (Xbb bx0 m15) m16) m17
      refine ss6 (.int .i64 z) (.slice xa q.nw xc) (.int .i64 q.want) (.slice ya q.ng yc) (.slice za q.nd zc) (.slice ta q.nu tc) bx0 fun V18 m18 bx0 => ?_
      replace LN := hide (LN.out.mv m18 (fun x hx e => by have e : x = b0 := e; have := AF.out x hx; omega))
      refine nt (h11 _ _ (wp_ret ?_)); clear h11 K11
      replace HB := Xhb (Xhb (Xhg (Xhg HB m15) m16) m17) m18; replace RD := Xrb (Xrb RD m17) m18; replace bx1 := Xbb bx1 m18
      obtain ⟨_, q0_0, q0_1, q0_2, q0_3, q0_4, q0_5⟩ := box6 bx0.out
      exact bodyPost_ret (v := .agg #[.int .i64 z, .slice xa q.nw xc, .int .i64 q.want, .slice ya q.ng yc, .slice za q.nd zc, .slice ta q.nu tc]) (by simp [results, Try.results23, go_sem, q0_0, q0_1, q0_2, q0_3, q0_4, q0_5]) rfl ⟨_, _, _, _, { q with base := z }, rfl, LN.out.alike, QF.out, RD.out, gr_mv HB.out⟩
    · clear c0 c1
      refine sg (.bool false) ?_
      refine sv (.bool false) ?_
      refine nt (h10 _ _ (cf (sk fun K12 h12 => rl ?_))); clear h10 K10
      refine sg (.bool true) ?_
      refine sv (.bool true) ?_
      refine nt (h12 _ _ (ct (rl ?_))); clear h12 K12
      refine sv (.pointer (some ⟨g, 0, none⟩)) ?_
      refine sw_call (by rfl) (by first | rfl | (go_simp; done)) (off_any g 0 4 V15 RD.out (by decide) (by decide) (by decide)) ?_
      rintro e V19 ⟨z, rfl, hr, hg⟩
      have m19 : Mv (fun x => x = g) V15 V19 := mv_rd hg
      refine ⟨_, rfl, ?_⟩
      refine pt ?_
      replace LN := hide (LN.out.mv m19 (fun x hx e => by have e : x = g := e; have := LN.out.lt x hx; omega))
      replace RD := hide hr
      clear hr hg
      refine sv (.pointer (some ⟨b1, 2, none⟩)) ?_
      replace bx1 := Xbb (Xbb bx1 m15) m19
      refine ss 2 (.int .i64 z) bx1 fun V20 m20 bx1 => ?_
      replace LN := hide (LN.out.mv m20 (fun x hx e => by have e : x = b1 := e; have := AF.out x hx; omega))
      refine wpList_nil (inb_norm (then_normal (h8 _ _ (sk fun K13 h13 => rl ?_)))); clear h8 K8
      refine sl6 bx1 ?_
      replace bx0 := Xbb (Xbb (Xbb bx0 m15) m19) m20
      refine ss6 (.int .i64 q.base) (.slice xa q.nw xc) (.int .i64 z) (.slice ya q.ng yc) (.slice za q.nd zc) (.slice ta q.nu tc) bx0 fun V21 m21 bx0 => ?_
      replace LN := hide (LN.out.mv m21 (fun x hx e => by have e : x = b0 := e; have := AF.out x hx; omega))
      refine nt (h13 _ _ (wp_ret ?_)); clear h13 K13
      replace HB := Xhb (Xhb (Xhg (Xhg HB m15) m19) m20) m21; replace RD := Xrb (Xrb RD m20) m21; replace bx1 := Xbb bx1 m21
      obtain ⟨_, q0_0, q0_1, q0_2, q0_3, q0_4, q0_5⟩ := box6 bx0.out
      exact bodyPost_ret (v := .agg #[.int .i64 q.base, .slice xa q.nw xc, .int .i64 z, .slice ya q.ng yc, .slice za q.nd zc, .slice ta q.nu tc]) (by simp [results, Try.results23, go_sem, q0_0, q0_1, q0_2, q0_3, q0_4, q0_5]) rfl ⟨_, _, _, _, { q with want := z }, rfl, LN.out.alike, QF.out, RD.out, gr_mv HB.out⟩
    · refine sg (.bool false) (h := by have hc := hc.1; go_simp) ?_
      refine sv (.bool false) ?_
      refine nt (h10 _ _ (cf (sk fun K14 h14 => rl ?_))); clear h10 K10
      refine sg (.bool false) (h := by have hc := hc.2; go_simp) ?_
      refine sv (.bool false) ?_
      refine nt (h14 _ _ (cf (wp_skip (inb_norm (then_normal (h8 _ _ (sk fun K15 h15 => rl ?_))))))); clear h14 K14; clear h8 K8
      replace bx1 := Xbb bx1 m15
      refine sl6 bx1 ?_
      replace bx0 := Xbb bx0 m15
      refine ss6 (.int .i64 q.base) (.slice xa q.nw xc) (.int .i64 q.want) (.slice ya q.ng yc) (.slice za q.nd zc) (.slice ta q.nu tc) bx0 fun V22 m22 bx0 => ?_
      replace LN := hide (LN.out.mv m22 (fun x hx e => by have e : x = b0 := e; have := AF.out x hx; omega))
      refine nt (h15 _ _ (wp_ret ?_)); clear h15 K15
      replace HB := Xhb (Xhg HB m15) m22; replace RD := Xrb RD m22; replace bx1 := Xbb bx1 m22
      obtain ⟨_, q0_0, q0_1, q0_2, q0_3, q0_4, q0_5⟩ := box6 bx0.out
      exact bodyPost_ret (v := .agg #[.int .i64 q.base, .slice xa q.nw xc, .int .i64 q.want, .slice ya q.ng yc, .slice za q.nd zc, .slice ta q.nu tc]) (by simp [results, Try.results23, go_sem, q0_0, q0_1, q0_2, q0_3, q0_4, q0_5]) rfl ⟨_, _, _, _, q, rfl, LN.out.alike, QF.out, RD.out, gr_mv HB.out⟩

end Go.Proofs.Ytgflipkhhpkidaa

/- DrawLinkDo, DrawLinkCalmed (written by mkLsE.py) -/
namespace Go.Proofs.Ytgflipkhhpkidaa
open Go.RowKit
set_option linter.unusedVariables false
set_option linter.unusedSimpArgs false

theorem Xtn {w w' : World} {ad : Option Addr} {n : Nat} (h : Hid (Bt w ad n)) (m : Mv nob w w') : Hid (Bt w' ad n) := hide (fun h0 => by
  obtain ⟨b, off, e, hc⟩ := h.out h0
  exact ⟨b, off, e, fun j hj => by
    obtain ⟨c, h1, h2, h3⟩ := hc j hj
    exact ⟨c, h1, h2, m.cell h3 (fun f => f)⟩⟩)
theorem Xqb {B : Nat} {w w' : World} {base : Nat} {wv gv dv uv : Value} {p : Lk} (h : Hid (Lr w base wv gv dv uv p)) (m : Mv (fun x => x = B) w w') (n : ∀ x, Lrb wv gv dv uv x → x ≠ B) : Hid (Lr w' base wv gv dv uv p) := hide (h.out.mv m (fun x hx e => n x hx e))
theorem big_no (ad : Option Addr) (n cap : Nat) (w : World) (h : n ≤ 1048576) : Calls Try.prog 7 #[.slice ad n cap] w fun e w' => e = .returned (.bool false) ∧ w' = w := by
  have hd : decide ((1048576 : Int) < (n : Int)) = false := by simp; omega
  go_enter Try.func7, Try.ntmps7
  go_wp2
  go_ret
  exact ⟨rfl, rfl⟩

set_option maxHeartbeats 8000000 in
set_option maxRecDepth 20000 in
theorem drawDo_any (ad : Option Addr) (n cap : Nat) (w : World) (hs : Bt w ad n) (hb0 : n ≤ 1048576) : Calls Try.prog 8 #[.slice ad n cap] w fun e w' => ∃ (wv gv dv uv : Value) (p : Lk) (k z bit : Int) (bd : ByteArray), e = .returned (.tuple #[.agg (l6 p.base wv p.want gv dv uv), .agg (a4 k z bit bd)]) ∧ Lr w' w.heap.size wv gv dv uv p ∧ Lsm 1048576 p ∧ Below w.heap.size w w' := by
  have HB : Hid (Mv nob w w) := hide (Mv.refl _ _)
  have BT := hide hs
  clear hs
  go_enter Try.func8, Try.ntmps8
  refine sk fun K1 h1 => rl ?_
  refine sbp #[.int .i64 0, .slice none 0 0, .int .i64 0, .slice none 0 0, .slice none 0 0, .slice none 0 0] 27 fun V1 b0 hb0 m1 bx0 => ?_
  have o_0 : w.heap.size ≤ b0 := by omega
  clear hb0
  refine sbp #[.int .i64 0, .int .i64 0, .int .i64 0, .string ⟨#[]⟩] 29 fun V2 b1 hb1 m2 bx1 => ?_
  have o0_1 := Xlo bx0 hb1
  clear hb1
  refine nt (h1 _ _ (sk fun K2 h2 => rl ?_)); clear h1 K1
  refine sv (.slice ad n cap) ?_
  have szT := lt_of_block bx1.out
  replace BT := Xtn (Xtn BT m1) m2
  refine sw_call (by rfl) (by first | rfl | (go_simp; done)) (open_any ad n cap V2 BT.out hb0) ?_
  rintro e V3 ⟨g, rfl, hgw, hr, hbl⟩
  have m3 : Mv (nob) V2 V3 := Mv.of_below hbl
  refine ⟨_, rfl, ?_⟩
  refine pt ?_
  have RD := hide hr
  have hgb : b1 < g := by omega
  clear hr hbl
  refine sv (.pointer (some ⟨g, 0, none⟩)) ?_
  refine nt (h2 _ _ (sk fun K3 h3 => rl ?_)); clear h2 K2
  refine sv (.pointer (some ⟨g, 0, none⟩)) ?_
  replace bx1 := Xbn bx1 m3
  have szT := lt_of_block bx1.out
  have szG := RD.out.lt
  replace HB := Xhn (Xhn (Xhn HB m1) m2) m3
  have szW := HB.out.size
  refine sw_call (by rfl) (by first | rfl | (go_simp; done)) (link_any g 20 V3 RD.out (by decide) (by decide)) ?_
  rintro e V4 ⟨wv, gv, dv, uv, p, rfl, LQ, hsm, hr, hg⟩
  have m4 : Mv (fun x => x = g) V3 V4 := mv_rd hg
  refine ⟨_, rfl, ?_⟩
  refine pt ?_
  replace HB := hide (HB.out.step m4 (fun x hx e => by have e : x = g := e; omega))
  clear BT
  replace RD := hide hr
  clear hr hg
  obtain ⟨xa, xc, rfl, _⟩ := LQ.wa.form
  obtain ⟨ya, yc, rfl, _⟩ := LQ.go.form
  obtain ⟨za, zc, rfl, _⟩ := LQ.dn.form
  obtain ⟨ta, tc, rfl, _⟩ := LQ.up.form
  have LN := hide (LQ.lower szW)
  have ALN : Hid (∀ x, Lrb (.slice xa p.nw xc) (.slice ya p.ng yc) (.slice za p.nd zc) (.slice ta p.nu tc) x → x ≠ b0 ∧ x ≠ b1 ∧ x ≠ g) := hide (fun x h => by have := (LQ.lt x h).1; exact (by omega))
  clear LQ szW szT szG
  replace bx1 := Xbb bx1 m4
  refine sbp #[.int .i64 0, .slice none 0 0, .int .i64 0, .slice none 0 0, .slice none 0 0, .slice none 0 0] 27 fun V5 b2 hb2 m5 bx2 => ?_
  have o1_2 := Xlo bx1 hb2
  replace ALN : Hid (∀ x, Lrb (.slice xa p.nw xc) (.slice ya p.ng yc) (.slice za p.nd zc) (.slice ta p.nu tc) x → x ≠ b0 ∧ x ≠ b1 ∧ x ≠ g ∧ x ≠ b2) := hide (fun x h => by have h1 := ALN.out x h; have h2 := (LN.out.lt x h).2; exact (by omega))
  have og_2 : g < b2 := Xro RD hb2
  clear hb2
  refine ss6 (.int .i64 p.base) (.slice xa p.nw xc) (.int .i64 p.want) (.slice ya p.ng yc) (.slice za p.nd zc) (.slice ta p.nu tc) bx2 fun V6 m6 bx2 => ?_
  refine nt (h3 _ _ (sk fun K4 h4 => ?_)); clear h3 K3
  refine wp_region_but (z := 5) (S := fun w' => Mv (fun x => x = g ∨ x = b0) V6.drew w') (by kernel_rfl) (Mv.refl _ _) (fun hS => ?_)
  have m7 : Mv nob V6 V6.drew := Mv.drew _
  obtain ⟨V7, hN⟩ : ∃ V, V6.drew = V := ⟨_, rfl⟩
  rw [hN] at hS m7 ⊢
  clear hN
  replace bx2 := Xbn bx2 m7
  have rbx2 := bx2
  refine tk 0 (.agg #[.int .i64 p.base, .slice xa p.nw xc, .int .i64 p.want, .slice ya p.ng yc, .slice za p.nd zc, .slice ta p.nu tc]) rfl (fun w' hSw => by (try dsimp only at hSw); have z0 := cell_box 0 (hSw.box rbx2.out (show ¬ (b2 = g ∨ b2 = b0) by omega)) rfl; have z1 := cell_box 1 (hSw.box rbx2.out (show ¬ (b2 = g ∨ b2 = b0) by omega)) rfl; have z2 := cell_box 2 (hSw.box rbx2.out (show ¬ (b2 = g ∨ b2 = b0) by omega)) rfl; have z3 := cell_box 3 (hSw.box rbx2.out (show ¬ (b2 = g ∨ b2 = b0) by omega)) rfl; have z4 := cell_box 4 (hSw.box rbx2.out (show ¬ (b2 = g ∨ b2 = b0) by omega)) rfl; have z5 := cell_box 5 (hSw.box rbx2.out (show ¬ (b2 = g ∨ b2 = b0) by omega)) rfl; go_simp) ?_
  refine tk0 1 (.pointer (some ⟨g, 0, none⟩)) rfl ?_
  refine tk 2 (.agg #[.int .i64 p.base, .slice xa p.nw xc, .int .i64 p.want, .slice ya p.ng yc, .slice za p.nd zc, .slice ta p.nu tc]) rfl (fun w' hSw => by (try dsimp only at hSw); have z0 := cell_box 0 (hSw.box rbx2.out (show ¬ (b2 = g ∨ b2 = b0) by omega)) rfl; have z1 := cell_box 1 (hSw.box rbx2.out (show ¬ (b2 = g ∨ b2 = b0) by omega)) rfl; have z2 := cell_box 2 (hSw.box rbx2.out (show ¬ (b2 = g ∨ b2 = b0) by omega)) rfl; have z3 := cell_box 3 (hSw.box rbx2.out (show ¬ (b2 = g ∨ b2 = b0) by omega)) rfl; have z4 := cell_box 4 (hSw.box rbx2.out (show ¬ (b2 = g ∨ b2 = b0) by omega)) rfl; have z5 := cell_box 5 (hSw.box rbx2.out (show ¬ (b2 = g ∨ b2 = b0) by omega)) rfl; go_simp) ?_
  replace RD := Xrn (Xrb (Xrn RD m5) m6) m7
  refine kd_call (i := 3) (by kernel_rfl) rfl (by rfl) (by first | rfl | (go_simp; done)) (lact_any g p (.slice xa p.nw xc) (.slice ya p.ng yc) za ta zc tc V7 RD.out hsm.2.2.1.1 hsm.2.2.2.1) ?_
  rintro e V8 ⟨k, z, bit, bd, rfl, hr, hg⟩
  have m8 : Mv (fun x => x = g) V7 V8 := mv_rd hg
  replace hS := hS.step m8 (fun _ _ h => .inl h)
  refine ⟨_, rfl, fun _ => hS, ?_⟩
  refine ptk ?_
  replace HB := Xhn (Xhb (Xhn HB m5) m6) m7
  replace HB := hide (HB.out.step m8 (fun x hx e => by have e : x = g := e; omega))
  replace RD := hide hr
  clear hr hg
  replace bx0 := Xbb (Xbn (Xbb (Xbn (Xbb (Xbn (Xbn bx0 m2) m3) m4) m5) m6) m7) m8
  refine kd_skipI (i := 4) (w' := (((((V8.setCell ⟨b0, 0, none⟩ (.int .i64 p.base)).setCell ⟨b0, 1, none⟩ (.slice xa p.nw xc)).setCell ⟨b0, 2, none⟩ (.int .i64 p.want)).setCell ⟨b0, 3, none⟩ (.slice ya p.ng yc)).setCell ⟨b0, 4, none⟩ (.slice za p.nd zc)).setCell ⟨b0, 5, none⟩ (.slice ta p.nu tc)) (fun V => Mv (fun g => g = b0) V8 V ∧ V.heap[b0]? = some (.cells #[.int .i64 p.base, .slice xa p.nw xc, .int .i64 p.want, .slice ya p.ng yc, .slice za p.nd zc, .slice ta p.nu tc] 27 (0, 0))) (by kernel_rfl) rfl (by rfl) (by have fr := fun i => frozen_of_row _ _ i _ _ bx0.out; have z0 := cell_box 0 bx0.out rfl; have z1 := cell_box 1 bx0.out rfl; have z2 := cell_box 2 bx0.out rfl; have z3 := cell_box 3 bx0.out rfl; have z4 := cell_box 4 bx0.out rfl; have z5 := cell_box 5 bx0.out rfl; go_simp) ⟨Mv.set (Mv.set (Mv.set (Mv.set (Mv.set (Mv.set (Mv.refl _ _) _ _) _ _) _ _) _ _) _ _) _ _, (heap_setCell_same _ _ 5 _ _ _ (heap_setCell_same _ _ 4 _ _ _ (heap_setCell_same _ _ 3 _ _ _ (heap_setCell_same _ _ 2 _ _ _ (heap_setCell_same _ _ 1 _ _ _ (heap_setCell_same _ _ 0 _ _ _ (bx0.out))))))).trans rfl⟩ (fun V hI _ => hS.step hI.1 (fun _ _ h => .inr h)) ?_
  rintro V9 ⟨m9, nxV9⟩
  refine ptk ?_
  clear RD
  replace bx0 := hide nxV9
  clear nxV9
  replace hS := hS.step m9 (fun _ _ h => .inr h)
  replace bx1 := Xbb (Xbb (Xbn (Xbb (Xbn bx1 m5) m6) m7) m8) m9
  refine kd_skipI (i := 5) (w' := (((V9.setCell ⟨b1, 0, none⟩ (.int .i64 k)).setCell ⟨b1, 1, none⟩ (.int .i64 z)).setCell ⟨b1, 2, none⟩ (.int .i64 bit)).setCell ⟨b1, 3, none⟩ (.string bd)) (fun V => Mv (fun g => g = b1) V9 V ∧ V.heap[b1]? = some (.cells #[.int .i64 k, .int .i64 z, .int .i64 bit, .string bd] 29 (0, 0))) (by kernel_rfl) rfl (by rfl) (by have fr := fun i => frozen_of_row _ _ i _ _ bx1.out; have z0 := cell_box 0 bx1.out rfl; have z1 := cell_box 1 bx1.out rfl; have z2 := cell_box 2 bx1.out rfl; have z3 := cell_box 3 bx1.out rfl; go_simp) ⟨Mv.set (Mv.set (Mv.set (Mv.set (Mv.refl _ _) _ _) _ _) _ _) _ _, (heap_setCell_same _ _ 3 _ _ _ (heap_setCell_same _ _ 2 _ _ _ (heap_setCell_same _ _ 1 _ _ _ (heap_setCell_same _ _ 0 _ _ _ (bx1.out))))).trans rfl⟩ (fun _ _ h => absurd rfl h) ?_
  rintro V10 ⟨m10, nxV10⟩
  refine ptk ?_
  replace bx1 := hide nxV10
  clear nxV10
  refine wpAnyK_done (by kernel_rfl) ?_
  clear hS rbx2
  refine then_normal (h4 _ _ (wp_ret ?_)); clear h4 K4
  replace LN := Xqb (Xqb (Xqb (Xqn (Xqb (Xqn LN m5) m6 (fun x h => by have := ALN.out x h; omega)) m7) m8 (fun x h => by have := ALN.out x h; omega)) m9 (fun x h => by have := ALN.out x h; omega)) m10 (fun x h => by have := ALN.out x h; omega); replace bx2 := Xbb (Xbb (Xbb bx2 m8) m9) m10; replace HB := Xhb (Xhb HB m9) m10
  replace bx0 := Xbb bx0 m10
  obtain ⟨_, q0_0, q0_1, q0_2, q0_3, q0_4, q0_5⟩ := box6 bx0.out
  have q1_0 := cell_box 0 bx1.out rfl
  have q1_1 := cell_box 1 bx1.out rfl
  have q1_2 := cell_box 2 bx1.out rfl
  have q1_3 := cell_box 3 bx1.out rfl
  exact bodyPost_ret (v := .tuple #[.agg #[.int .i64 p.base, .slice xa p.nw xc, .int .i64 p.want, .slice ya p.ng yc, .slice za p.nd zc, .slice ta p.nu tc], .agg #[.int .i64 k, .int .i64 z, .int .i64 bit, .string bd]]) (by simp [results, Try.results8, go_sem, q0_0, q0_1, q0_2, q0_3, q0_4, q0_5, q1_0, q1_1, q1_2, q1_3]) rfl ⟨_, _, _, _, _, _, _, _, _, rfl, LN.out, hsm, HB.out.below⟩

set_option maxHeartbeats 8000000 in
set_option maxRecDepth 20000 in
theorem drawCalmed_any (ad : Option Addr) (n cap : Nat) (w : World) (hs : Bt w ad n) (hb0 : n ≤ 1048576) : Calls Try.prog 16 #[.slice ad n cap] w fun e w' => ∃ (wv gv dv uv : Value) (p : Lk), e = .returned (.agg (l6 p.base wv p.want gv dv uv)) ∧ Lr w' w.heap.size wv gv dv uv p ∧ Lsm 1048576 p ∧ Below w.heap.size w w' := by
  have HB : Hid (Mv nob w w) := hide (Mv.refl _ _)
  have BT := hide hs
  clear hs
  go_enter Try.func16, Try.ntmps16
  refine sk fun K1 h1 => rl ?_
  refine sbp #[.int .i64 0, .slice none 0 0, .int .i64 0, .slice none 0 0, .slice none 0 0, .slice none 0 0] 27 fun V1 b0 hb0 m1 bx0 => ?_
  have o_0 : w.heap.size ≤ b0 := by omega
  clear hb0
  refine nt (h1 _ _ (sk fun K2 h2 => rl ?_)); clear h1 K1
  refine sv (.slice ad n cap) ?_
  have szT := lt_of_block bx0.out
  replace BT := Xtn BT m1
  refine sw_call (by rfl) (by first | rfl | (go_simp; done)) (open_any ad n cap V1 BT.out hb0) ?_
  rintro e V2 ⟨g, rfl, hgw, hr, hbl⟩
  have m2 : Mv (nob) V1 V2 := Mv.of_below hbl
  refine ⟨_, rfl, ?_⟩
  refine pt ?_
  have RD := hide hr
  have hgb : b0 < g := by omega
  clear hr hbl
  refine sv (.pointer (some ⟨g, 0, none⟩)) ?_
  refine nt (h2 _ _ (sk fun K3 h3 => rl ?_)); clear h2 K2
  refine sv (.pointer (some ⟨g, 0, none⟩)) ?_
  replace bx0 := Xbn bx0 m2
  have szT := lt_of_block bx0.out
  have szG := RD.out.lt
  replace HB := Xhn (Xhn HB m1) m2
  have szW := HB.out.size
  refine sw_call (by rfl) (by first | rfl | (go_simp; done)) (link_any g 24 V2 RD.out (by decide) (by decide)) ?_
  rintro e V3 ⟨wv, gv, dv, uv, p, rfl, LQ, hsm, hr, hg⟩
  have m3 : Mv (fun x => x = g) V2 V3 := mv_rd hg
  refine ⟨_, rfl, ?_⟩
  refine pt ?_
  replace HB := hide (HB.out.step m3 (fun x hx e => by have e : x = g := e; omega))
  clear BT
  replace RD := hide hr
  clear hr hg
  obtain ⟨xa, xc, rfl, _⟩ := LQ.wa.form
  obtain ⟨ya, yc, rfl, _⟩ := LQ.go.form
  obtain ⟨za, zc, rfl, _⟩ := LQ.dn.form
  obtain ⟨ta, tc, rfl, _⟩ := LQ.up.form
  have LN := hide (LQ.lower szW)
  have ALN : Hid (∀ x, Lrb (.slice xa p.nw xc) (.slice ya p.ng yc) (.slice za p.nd zc) (.slice ta p.nu tc) x → x ≠ b0 ∧ x ≠ g) := hide (fun x h => by have := (LQ.lt x h).1; exact (by omega))
  clear LQ szW szT szG
  replace bx0 := Xbb bx0 m3
  refine ss6 (.int .i64 p.base) (.slice xa p.nw xc) (.int .i64 p.want) (.slice ya p.ng yc) (.slice za p.nd zc) (.slice ta p.nu tc) bx0 fun V4 m4 bx0 => ?_
  clear RD
  refine nt (h3 _ _ (wp_ret ?_)); clear h3 K3
  replace HB := Xhb HB m4; replace LN := Xqb LN m4 (fun x h => by have := ALN.out x h; omega)
  obtain ⟨_, q0_0, q0_1, q0_2, q0_3, q0_4, q0_5⟩ := box6 bx0.out
  exact bodyPost_ret (v := .agg #[.int .i64 p.base, .slice xa p.nw xc, .int .i64 p.want, .slice ya p.ng yc, .slice za p.nd zc, .slice ta p.nu tc]) (by simp [results, Try.results16, go_sem, q0_0, q0_1, q0_2, q0_3, q0_4, q0_5]) rfl ⟨_, _, _, _, _, rfl, LN.out, hsm, HB.out.below⟩

end Go.Proofs.Ytgflipkhhpkidaa

/- sameTexts, sameWires, sameLink of what reads alike (written by mkLsA.py) -/

namespace Go.Proofs.Ytgflipkhhpkidaa
open Go.RowKit
set_option linter.unusedVariables false
set_option linter.unusedSimpArgs false

theorem Sg.congr {w : World} {v : Value} {m n : Nat} {f g : Nat → Nat → Value} (h : Sg w v m n f) (e : ∀ j, j < n → ∀ i, i < m → f j i = g j i) : Sg w v m n g := by
  obtain ⟨ad, cap, rfl, hs⟩ := h
  refine ⟨ad, cap, rfl, fun h0 => ?_⟩
  obtain ⟨b, off, rfl, hc⟩ := hs h0
  exact ⟨b, off, rfl, fun j hj i hi => (hc j hj i hi).trans (by rw [e j hj i hi])⟩

set_option maxHeartbeats 2000000 in
theorem sameTexts_same (a b : Value) (n : Nat) (s : Nat → ByteArray) (w : World) (ha : Sg w a 1 n (tF s)) (hb : Sg w b 1 n (tF s)) (hl : n ≤ 4194304) :
    Calls Try.prog 14 #[a, b] w fun e w' => e = .returned (.bool true) ∧ Below w.heap.size w w' := by
  obtain ⟨ad, cap, rfl, ha⟩ := ha
  obtain ⟨bd, cbp, rfl, hb⟩ := hb
  go_enter Try.func14, Try.ntmps14
  go_wp2
  go_loopw [5] (fun i wr => ∃ k : Nat, k ≤ n ∧ i = .int .i64 k ∧ Below w.heap.size w wr) (fun i _ => n - (intOf i).toNat)
  case atStart => exact ⟨0, Nat.zero_le _, rfl, Below.refl _ _⟩
  case round =>
    obtain ⟨k, hk, rfl, hbk⟩ := hrel
    by_cases hlt : k < n
    · obtain ⟨p, off, rfl, hc⟩ := ha (by omega)
      obtain ⟨q, off', rfl, hd⟩ := hb (by omega)
      have hck : wr.cell? ⟨p, off + k, none⟩ = some (.string (s k)) := by
        have := Below.keep hbk _ _ (hc k hlt 0 (by omega))
        rwa [Nat.mul_one, Nat.add_zero] at this
      have hdk : wr.cell? ⟨q, off' + k, none⟩ = some (.string (s k)) := by
        have := Below.keep hbk _ _ (hd k hlt 0 (by omega))
        rwa [Nat.mul_one, Nat.add_zero] at this
      have hss := str_self (s k)
      generalize s k = z at hck hdk hss
      clear hc hd ha hb
      go_wp2
      go_quiet (fail)
      all_goals go_wp2
      all_goals go_roundw
      case rel => exact ⟨k + 1, by omega, by go_num, below_drewN hbk _⟩
      case measure => simp [intOf]; omega
    · go_wp2
      go_ret
      exact ⟨rfl, hbk⟩

set_option maxHeartbeats 2000000 in
theorem sameWires_same (a b : Value) (n : Nat) (t : Nat → ByteArray) (h : Nat → Bool) (w : World) (ha : Sg w a 2 n (wF t h)) (hb : Sg w b 2 n (wF t h)) (hl : n ≤ 4194304) :
    Calls Try.prog 28 #[a, b] w fun e w' => e = .returned (.bool true) ∧ Below w.heap.size w w' := by
  obtain ⟨ad, cap, rfl, ha⟩ := ha
  obtain ⟨bd, cbp, rfl, hb⟩ := hb
  go_enter Try.func28, Try.ntmps28
  go_wp2
  go_loopw [5] (fun i wr => ∃ k : Nat, k ≤ n ∧ i = .int .i64 k ∧ Below w.heap.size w wr) (fun i _ => n - (intOf i).toNat)
  case atStart => exact ⟨0, Nat.zero_le _, rfl, Below.refl _ _⟩
  case round =>
    obtain ⟨k, hk, rfl, hbk⟩ := hrel
    by_cases hlt : k < n
    · obtain ⟨p, off, rfl, hc⟩ := ha (by omega)
      obtain ⟨q, off', rfl, hd⟩ := hb (by omega)
      have c0 : wr.cell? ⟨p, off + k * 2, none⟩ = some (.string (t k)) := Below.keep hbk _ _ (hc k hlt 0 (by decide))
      have c1 : wr.cell? ⟨p, off + k * 2 + 1, none⟩ = some (.bool (h k)) := Below.keep hbk _ _ (hc k hlt 1 (by decide))
      have d0 : wr.cell? ⟨q, off' + k * 2, none⟩ = some (.string (t k)) := Below.keep hbk _ _ (hd k hlt 0 (by decide))
      have d1 : wr.cell? ⟨q, off' + k * 2 + 1, none⟩ = some (.bool (h k)) := Below.keep hbk _ _ (hd k hlt 1 (by decide))
      have hss := str_self (t k)
      generalize t k = tk at c0 d0 hss
      generalize h k = hk' at c1 d1
      clear hc hd ha hb
      have hk0 : (0 : Int) ≤ (k : Int) := by omega
      have hk1 : (k : Int) < (n : Int) := by omega
      cases hk'
      all_goals
        go_wp2
        go_quiet (fail)
        all_goals go_wp2
        all_goals go_roundw
        case rel => exact ⟨k + 1, by omega, by go_num, below_drewN hbk _⟩
        case measure => simp [intOf]; omega
    · go_wp2
      go_ret
      exact ⟨rfl, hbk⟩

end Go.Proofs.Ytgflipkhhpkidaa

/- sameLink of links that read alike (written by mkLsB.py) -/
namespace Go.Proofs.Ytgflipkhhpkidaa
open Go.RowKit
set_option linter.unusedVariables false
set_option linter.unusedSimpArgs false

set_option maxHeartbeats 4000000 in
set_option maxRecDepth 20000 in
theorem sameLink_same (p : Lk) (wv gv dv uv wv2 gv2 dv2 uv2 : Value) (w : World) (ha : Lv w wv gv dv uv p) (hb : Lv w wv2 gv2 dv2 uv2 p) (hs : Lsm 1048576 p) :
    Calls Try.prog 11 #[.agg (l6 p.base wv p.want gv dv uv), .agg (l6 p.base wv2 p.want gv2 dv2 uv2)] w fun e w' => e = .returned (.bool true) ∧ Below w.heap.size w w' := by
  have ha0 := hide ha
  have hb0 := hide hb
  obtain ⟨⟨s1, _⟩, ⟨s2, _⟩, ⟨s3, _⟩, ⟨s4, _⟩⟩ := hs
  clear ha hb
  have HB : Hid (Mv nob w w) := hide (Mv.refl _ _)
  go_enter Try.func11, Try.ntmps11
  repeat (first | (with_reducible refine wp_seq_k (fun K hK => ?_)) | (with_reducible refine then_normal ?_) | ((with_reducible refine hK _ _ ?_); clear hK K) | (with_reducible refine wpList_nil ?_) | (with_reducible refine wp_region_lit ?_) | ((with_reducible refine is_cond ?_); first | refine wp_cond_true (by rfl) ?_ | refine wp_cond_false (by rfl) ?_) | (with_reducible refine wp_block ?_) | (with_reducible refine wp_skip ?_) | (with_reducible refine wp_ret ?_) | (with_reducible refine wp_exit ?_))
  refine sbp #[.int .i64 p.base, wv, .int .i64 p.want, gv, dv, uv] 27 fun V1 b0 hb0 m1 bx0 => ?_
  have o_0 : w.heap.size ≤ b0 := by omega
  replace HB := Xhn HB m1
  clear hb0 m1
  refine sbp #[.int .i64 p.base, wv2, .int .i64 p.want, gv2, dv2, uv2] 27 fun V2 b1 hb1 m2 bx1 => ?_
  have o0_1 := Xlo bx0 hb1
  replace HB := Xhn HB m2
  replace bx0 := Xbn bx0 m2
  clear hb1 m2
  refine sv (.bool false) ?_
  repeat (first | (with_reducible refine wp_seq_k (fun K hK => ?_)) | (with_reducible refine then_normal ?_) | ((with_reducible refine hK _ _ ?_); clear hK K) | (with_reducible refine wpList_nil ?_) | (with_reducible refine wp_region_lit ?_) | ((with_reducible refine is_cond ?_); first | refine wp_cond_true (by rfl) ?_ | refine wp_cond_false (by rfl) ?_) | (with_reducible refine wp_block ?_) | (with_reducible refine wp_skip ?_) | (with_reducible refine wp_ret ?_) | (with_reducible refine wp_exit ?_))
  refine sv (.pointer (some ⟨b0, 0, none⟩)) ?_
  refine sl 0 bx0 ?_
  refine sv (.pointer (some ⟨b1, 0, none⟩)) ?_
  refine sl 0 bx1 ?_
  refine sg (.bool true) ?_
  refine sv (.bool true) ?_
  refine sv (.pointer (some ⟨b0, 2, none⟩)) ?_
  refine sl 2 bx0 ?_
  refine sv (.pointer (some ⟨b1, 2, none⟩)) ?_
  refine sl 2 bx1 ?_
  refine sg (.bool true) ?_
  refine sg (.bool true) ?_
  refine sv (.bool true) ?_
  refine sv (.pointer (some ⟨b0, 1, none⟩)) ?_
  refine sl 1 bx0 ?_
  refine sv (.pointer (some ⟨b1, 1, none⟩)) ?_
  refine sl 1 bx1 ?_
  refine sw_call (by rfl) (by first | rfl | (go_simp; done)) (sameTexts_same wv wv2 _ _ V2 (ha0.out.below HB.out.below).wa (hb0.out.below HB.out.below).wa (by omega)) ?_
  rintro e V3 ⟨rfl, hbV3⟩
  have m3 : Mv (nob) V2 V3 := Mv.of_below hbV3
  refine ⟨_, rfl, ?_⟩
  refine pt ?_
  replace HB := Xhn HB m3
  replace bx0 := Xbn bx0 m3
  replace bx1 := Xbn bx1 m3
  clear m3
  refine sg (.bool true) ?_
  refine sv (.bool true) ?_
  refine sv (.pointer (some ⟨b0, 3, none⟩)) ?_
  refine sl 3 bx0 ?_
  refine sv (.pointer (some ⟨b1, 3, none⟩)) ?_
  refine sl 3 bx1 ?_
  refine sw_call (by rfl) (by first | rfl | (go_simp; done)) (sameTexts_same gv gv2 _ _ V3 (ha0.out.below HB.out.below).go (hb0.out.below HB.out.below).go (by omega)) ?_
  rintro e V4 ⟨rfl, hbV4⟩
  have m4 : Mv (nob) V3 V4 := Mv.of_below hbV4
  refine ⟨_, rfl, ?_⟩
  refine pt ?_
  replace HB := Xhn HB m4
  replace bx0 := Xbn bx0 m4
  replace bx1 := Xbn bx1 m4
  clear m4
  refine sg (.bool true) ?_
  refine sv (.bool true) ?_
  refine sv (.pointer (some ⟨b0, 4, none⟩)) ?_
  refine sl 4 bx0 ?_
  refine sv (.pointer (some ⟨b1, 4, none⟩)) ?_
  refine sl 4 bx1 ?_
  refine sw_call (by rfl) (by first | rfl | (go_simp; done)) (sameWires_same dv dv2 _ _ _ V4 (ha0.out.below HB.out.below).dn (hb0.out.below HB.out.below).dn (by omega)) ?_
  rintro e V5 ⟨rfl, hbV5⟩
  have m5 : Mv (nob) V4 V5 := Mv.of_below hbV5
  refine ⟨_, rfl, ?_⟩
  refine pt ?_
  replace HB := Xhn HB m5
  replace bx0 := Xbn bx0 m5
  replace bx1 := Xbn bx1 m5
  clear m5
  refine sg (.bool true) ?_
  refine sv (.bool true) ?_
  refine sv (.pointer (some ⟨b0, 5, none⟩)) ?_
  refine sl 5 bx0 ?_
  refine sv (.pointer (some ⟨b1, 5, none⟩)) ?_
  refine sl 5 bx1 ?_
  refine sw_call (by rfl) (by first | rfl | (go_simp; done)) (sameWires_same uv uv2 _ _ _ V5 (ha0.out.below HB.out.below).up (hb0.out.below HB.out.below).up (by omega)) ?_
  rintro e V6 ⟨rfl, hbV6⟩
  have m6 : Mv (nob) V5 V6 := Mv.of_below hbV6
  refine ⟨_, rfl, ?_⟩
  refine pt ?_
  replace HB := Xhn HB m6
  replace bx0 := Xbn bx0 m6
  replace bx1 := Xbn bx1 m6
  clear m6
  refine sg (.bool true) ?_
  refine sv (.bool true) ?_
  repeat (first | (with_reducible refine wp_seq_k (fun K hK => ?_)) | (with_reducible refine then_normal ?_) | ((with_reducible refine hK _ _ ?_); clear hK K) | (with_reducible refine wpList_nil ?_) | (with_reducible refine wp_region_lit ?_) | ((with_reducible refine is_cond ?_); first | refine wp_cond_true (by rfl) ?_ | refine wp_cond_false (by rfl) ?_) | (with_reducible refine wp_block ?_) | (with_reducible refine wp_skip ?_) | (with_reducible refine wp_ret ?_) | (with_reducible refine wp_exit ?_))
  try simp only [Exit.then, Exit.inBlock, ↓reduceIte, Nat.reduceEqDiff]
  exact bodyPost_ret (v := .bool true) (by simp [results, Try.results11, go_sem]) rfl ⟨rfl, HB.out.below⟩

end Go.Proofs.Ytgflipkhhpkidaa

/- what an act of a link leaves, plainly; what FnLinkDone wants besides -/
namespace Go.Proofs.Ytgflipkhhpkidaa
open Go.RowKit
set_option linter.unusedVariables false
set_option linter.unusedSimpArgs false

/-- nothing that was got is lost -/
def Gm (p q : Lk) : Prop := p.base ≤ q.base ∧ p.want ≤ q.want ∧ q.want ≤ p.want + 1 ∧ p.ng ≤ q.ng ∧ ∀ j, j < p.ng → q.gs j = p.gs j
theorem Gm.alike {p q : Lk} (h1 : p.base ≤ q.base) (h2 : q.want = p.want) (h3 : q.ng = p.ng) (h4 : q.gs = p.gs) : Gm p q := ⟨h1, by omega, by omega, by omega, fun j _ => by rw [h4]⟩
theorem act_gm (p : Lk) (k z bit : Int) (body : ByteArray) : Gm p (actL p k z bit body) := by
  have ho : Gm p (offL p body) := Gm.alike (Int.le_refl _) rfl rfl rfl
  have hs : Gm p (sndL p) := Gm.alike (Int.le_refl _) rfl rfl rfl
  have hd : Gm p (outD p z.toNat) := Gm.alike (Int.le_refl _) rfl rfl rfl
  have hu : Gm p (outU p z.toNat) := Gm.alike (Int.le_refl _) rfl rfl rfl
  have hf : Gm p (flipD p z.toNat bit.toNat) := Gm.alike (Int.le_refl _) rfl rfl rfl
  have hg : Gm p (flipU p z.toNat bit.toNat) := Gm.alike (Int.le_refl _) rfl rfl rfl
  have hc : Gm p (comeD p z.toNat) := by
    unfold comeD
    split
    · unfold dgL
      split
      · exact ⟨Int.le_refl _, show p.want ≤ p.want + 1 by omega, show p.want + 1 ≤ p.want + 1 by omega, show p.ng ≤ p.ng + 1 by omega, fun j hj => if_pos hj⟩
      · exact Gm.alike (Int.le_refl _) rfl rfl rfl
    · exact hd
  have hv : Gm p (comeU p z.toNat) := by
    unfold comeU
    split
    · unfold ackL
      split
      · rename_i h
        have h2 : p.base < Flit.rS (p.ut z.toNat) := by
          have : ackB p.base p.want (Flit.rS (p.ut z.toNat)) = true := h
          simp only [ackB, Bool.and_eq_true, decide_eq_true_eq] at this
          exact this.1
        exact Gm.alike (show p.base ≤ Flit.rS (p.ut z.toNat) by omega) rfl rfl rfl
      · exact hu
    · exact hu
  unfold actL
  repeat' split
  all_goals assumption
theorem done_says (p : Lk) (k z bit : Int) (body : ByteArray) : Lsm 1048576 (doL p k z bit body) ∧ ((doC p k z bit body = 1 ∧ lkB p = false) ∨ (doC p k z bit body ≠ 1 ∧ doC p k z bit body ≠ 0 ∧ p = doL p k z bit body ∧ lkB p = true) ∨ (doC p k z bit body = 0 ∧ lkB p = true ∧ lkB (doL p k z bit body) = true ∧ Gm p (doL p k z bit body))) := by
  cases h : lkB p with
  | false =>
    rw [show doL p k z bit body = zeL from by simp [doL, h], show doC p k z bit body = 1 from by simp [doC, h]]
    exact ⟨(lk_iff.1 (show lkB zeL = true by decide)).sm, .inl ⟨rfl, rfl⟩⟩
  | true =>
    rw [show doL p k z bit body = ldL p k z bit body from by simp [doL, h], show doC p k z bit body = ldC p k z bit body from by simp [doC, h]]
    have hf := ld_lf (lk_iff.1 h) k z bit body
    refine ⟨hf.sm, .inr ?_⟩
    by_cases hc : ldC p k z bit body = 0
    · exact .inr ⟨hc, rfl, lk_iff.2 hf, by rw [ldL_ok hc]; exact act_gm p k z bit body⟩
    · refine .inl ⟨?_, hc, (ldL_no hc).symm, rfl⟩
      unfold ldC at hc ⊢
      split
      · rename_i h1
        rw [if_pos h1] at hc
        split
        · split <;> decide
        · unfold actC flC
          repeat' split
          all_goals decide
      · decide
theorem Xsg {w w' : World} {v : Value} {m n : Nat} {f : Nat → Nat → Value} (h : Hid (Sg w v m n f)) (mv : Mv nob w w') : Hid (Sg w' v m n f) := hide (h.out.below mv.below)
theorem sl_headT (p off n cap k : Nat) (hk : k ≤ cap) (W : World) : (Instr.slice 24 (.slice (some ⟨p, off, none⟩) n cap) none (some (.int .i64 (k : Int))) none).run Try.prog W = .ok (.slice (some ⟨p, off, none⟩) k cap) W := by
  simp [go_sem, Try.underlying24, Instr.slice, Instr.sliceBounds, Instr.sliceBound, asIntOf, Addr.add, hk]
theorem sl_headN (n cap : Nat) (W : World) : (Instr.slice 24 (.slice none n cap) none (some (.int .i64 0)) none).run Try.prog W = .ok (.slice none 0 cap) W := by
  simp [go_sem, Try.underlying24, Instr.slice, Instr.sliceBounds, Instr.sliceBound, asIntOf]
/-- the first ones of a row of texts -/
theorem head_texts {w : World} {base n cap : Nat} {a : Option Addr} {s : Nat → ByteArray} (h : Rg w base (.slice a n cap) 1 n (tF s)) (k : Nat) (hk : k ≤ n) : (∀ W, (Instr.slice 24 (.slice a n cap) none (some (.int .i64 (k : Int))) none).run Try.prog W = .ok (.slice a k cap) W) ∧ Sg w (.slice a k cap) 1 k (tF s) := by
  rcases h with ⟨⟨b, e⟩, h0⟩ | ⟨g, off, c, e, h1, hp, h2, h3, ⟨cur, T, h4, h5⟩, h6⟩
  · simp only [Value.slice.injEq] at e
    obtain ⟨rfl, _, rfl⟩ := e
    have hk0 : k = 0 := by omega
    subst hk0
    refine ⟨fun W => ?_, ⟨_, _, rfl, fun h0 => absurd h0 (Nat.lt_irrefl _)⟩⟩
    cases a with
    | none => exact sl_headN _ _ W
    | some x => simp [go_sem, Try.underlying24, Instr.slice, Instr.sliceBounds, Instr.sliceBound, asIntOf, Addr.add]
  · simp only [Value.slice.injEq] at e
    obtain ⟨rfl, _, rfl⟩ := e
    refine ⟨fun W => sl_headT g off n cap k (by omega) W, ⟨_, _, rfl, fun h0 => ⟨g, off, rfl, fun j hj i hi => ?_⟩⟩⟩
    have hi0 : i = 0 := by omega
    subst hi0
    have := h6 (j * 1 + 0) (by omega)
    simpa using this
end Go.Proofs.Ytgflipkhhpkidaa
