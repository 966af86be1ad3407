/- LcM, LcB, LcA, LcC, LcD, in one text -/
import Derived.Test.YtnkocikbapbbmaaZLeC
import Derived.Deep.LoopGhost
/- a link calmed, plainly: all that comes, a round, rounds -/
namespace Go.Proofs.Ytnkocikbapbbmaa
open Go.RowKit
set_option linter.unusedVariables false
set_option linter.unusedSimpArgs false

/-- how many are under way -/
def cnt (k : Int) (p : Lk) : Nat := if k = 3 then p.nd else p.nu
def allN (k : Int) : Nat → Lk → Lk × Bool
  | 0, p => (p, true)
  | m + 1, p => if ldC p k 0 0 e0 = 0 then allN k m (ldL p k 0 0 e0) else (p, false)
/-- the first one comes until there is none, or one is refused -/
def alC (k : Int) (p : Lk) : Lk × Bool := allN k (cnt k p) p
theorem thB_zero (n : Nat) : thB n 0 = decide (0 < n) := by
  unfold thB
  by_cases h : 0 < n
  · rw [decide_eq_true h, decide_eq_true (by omega), decide_eq_true (by omega)]; rfl
  · rw [decide_eq_false h, decide_eq_false (show ¬ (0 : Int) < (n : Int) by omega), Bool.and_false]
theorem e0_size : e0.size = 0 := rfl
theorem ldC_three (p : Lk) : ldC p 3 0 0 e0 = if p.nd = 0 then 3 else if lkB (comeD p 0) then 0 else 4 := by
  have h1 : laB 3 0 0 e0 = true := by simp [laB, e0_size]
  have h2 : actC p 3 0 0 = if p.nd = 0 then 3 else 0 := by
    simp only [actC, thB_zero]
    by_cases h : p.nd = 0
    · simp [h]
    · simp [h, show 0 < p.nd by omega]
  have h3 : actL p 3 0 0 e0 = comeD p 0 := by simp [actL]
  unfold ldC
  rw [h1, h2, h3, if_pos rfl]
  by_cases h : p.nd = 0
  · simp [h]
  · simp [h]
theorem ldC_four (p : Lk) : ldC p 4 0 0 e0 = if p.nu = 0 then 3 else if lkB (comeU p 0) then 0 else 4 := by
  have h1 : laB 4 0 0 e0 = true := by simp [laB, e0_size]
  have h2 : actC p 4 0 0 = if p.nu = 0 then 3 else 0 := by
    simp only [actC, thB_zero]
    by_cases h : p.nu = 0
    · simp [h]
    · simp [h, show 0 < p.nu by omega]
  have h3 : actL p 4 0 0 e0 = comeU p 0 := by simp [actL]
  unfold ldC
  rw [h1, h2, h3, if_pos rfl]
  by_cases h : p.nu = 0
  · simp [h]
  · simp [h]
theorem comeD_nd (p : Lk) (z : Nat) : (comeD p z).nd = p.nd - 1 := by
  unfold comeD
  split
  · unfold dgL
    split <;> rfl
  · rfl
theorem comeU_nu (p : Lk) (z : Nat) : (comeU p z).nu = p.nu - 1 := by
  unfold comeU
  split
  · unfold ackL
    split <;> rfl
  · rfl
theorem comeU_nd (p : Lk) (z : Nat) : (comeU p z).nd = p.nd := by
  unfold comeU
  split
  · unfold ackL
    split <;> rfl
  · rfl
theorem ldL_ok {p : Lk} {k z bit : Int} {body : ByteArray} (h : ldC p k z bit body = 0) : ldL p k z bit body = actL p k z bit body := by unfold ldL; rw [if_pos h]
theorem ldL_no {p : Lk} {k z bit : Int} {body : ByteArray} (h : ldC p k z bit body ≠ 0) : ldL p k z bit body = p := by unfold ldL; rw [if_neg h]
theorem ld_lf {p : Lk} (hf : Lf p) (k z bit : Int) (body : ByteArray) : Lf (ldL p k z bit body) := by
  by_cases h : ldC p k z bit body = 0
  · rw [ldL_ok h]
    unfold ldC at h
    split at h
    · split at h
      · split at h
        · rename_i hl
          exact lk_iff.1 hl
        · exact absurd h (by decide)
      · rename_i h0
        exact absurd h h0
    · exact absurd h (by decide)
  · rw [ldL_no h]; exact hf
theorem cnt_step {p : Lk} {k : Int} (hk : k = 3 ∨ k = 4) (h : ldC p k 0 0 e0 = 0) : cnt k (ldL p k 0 0 e0) + 1 = cnt k p := by
  rw [ldL_ok h]
  rcases hk with rfl | rfl
  · rw [ldC_three] at h
    by_cases h0 : p.nd = 0
    · rw [if_pos h0] at h; exact absurd h (by decide)
    · rw [show actL p 3 0 0 e0 = comeD p 0 from by simp [actL]]
      simp only [cnt, if_true, comeD_nd]
      omega
  · rw [ldC_four] at h
    by_cases h0 : p.nu = 0
    · rw [if_pos h0] at h; exact absurd h (by decide)
    · rw [show actL p 4 0 0 e0 = comeU p 0 from by simp [actL]]
      simp only [cnt, show ¬ (4 : Int) = 3 by decide, if_false, comeU_nu]
      omega
theorem al_step {p : Lk} {k : Int} (hk : k = 3 ∨ k = 4) (h : ldC p k 0 0 e0 = 0) : alC k (ldL p k 0 0 e0) = alC k p := by
  have hc := cnt_step hk h
  unfold alC
  rw [← hc]
  simp only [allN, h, if_true]
theorem al_stop {p : Lk} {k : Int} (hk : k = 3 ∨ k = 4) (h : ldC p k 0 0 e0 ≠ 0) : alC k p = (p, decide (ldC p k 0 0 e0 = 3)) := by
  unfold alC
  cases hc : cnt k p with
  | zero =>
    have h3 : ldC p k 0 0 e0 = 3 := by
      rcases hk with rfl | rfl
      · rw [ldC_three, if_pos (by simpa [cnt] using hc)]
      · rw [ldC_four, if_pos (by simpa [cnt] using hc)]
    rw [h3]; rfl
  | succ m =>
    have h3 : ldC p k 0 0 e0 ≠ 3 := by
      rcases hk with rfl | rfl
      · have h0 : p.nd ≠ 0 := by have : p.nd = m + 1 := by simpa [cnt] using hc
                                 omega
        rw [ldC_three, if_neg h0]
        split <;> decide
      · have h0 : p.nu ≠ 0 := by have : p.nu = m + 1 := by simpa [cnt] using hc
                                 omega
        rw [ldC_four, if_neg h0]
        split <;> decide
    simp only [allN, h, if_false, decide_eq_false h3]
theorem allN_lf (k : Int) : ∀ (m : Nat) (p : Lk), Lf p → Lf (allN k m p).1
  | 0, p, h => h
  | m + 1, p, h => by
    unfold allN
    split
    · exact allN_lf k m _ (ld_lf h k 0 0 e0)
    · exact h
theorem al_lf {p : Lk} (k : Int) (h : Lf p) : Lf (alC k p).1 := allN_lf k _ p h
theorem allN_cnt {k : Int} (hk : k = 3 ∨ k = 4) : ∀ (m : Nat) (p : Lk), cnt k p = m → (allN k m p).2 = true → cnt k (allN k m p).1 = 0
  | 0, p, hc, _ => hc
  | m + 1, p, hc, h => by
    unfold allN at h ⊢
    split at h
    · rename_i h0
      rw [if_pos h0]
      exact allN_cnt hk m _ (by have := cnt_step hk h0; omega) h
    · cases h
theorem al_cnt {p : Lk} {k : Int} (hk : k = 3 ∨ k = 4) (h : (alC k p).2 = true) : cnt k (alC k p).1 = 0 := allN_cnt hk _ p rfl h
theorem allN_nd : ∀ (m : Nat) (p : Lk), (allN 4 m p).1.nd = p.nd
  | 0, p => rfl
  | m + 1, p => by
    unfold allN
    split
    · rename_i h0
      rw [allN_nd m, ldL_ok h0, show actL p 4 0 0 e0 = comeU p 0 from by simp [actL], comeU_nd]
    · rfl
theorem al_zero {p : Lk} {k : Int} (h : cnt k p = 0) : alC k p = (p, true) := by unfold alC; rw [h]; rfl
/-- a round: what waits is sent, all comes down, all comes up -/
def rnd (p : Lk) : Lk × Bool := ((alC 4 (alC 3 (ldL p 2 0 0 e0)).1).1, decide (ldC p 2 0 0 e0 = 0) && (alC 3 (ldL p 2 0 0 e0)).2 && (alC 4 (alC 3 (ldL p 2 0 0 e0)).1).2)
theorem rnd_no {p : Lk} (hd : p.nd = 0) (hu : p.nu = 0) (h : ldC p 2 0 0 e0 ≠ 0) : rnd p = (p, false) := by
  unfold rnd
  rw [ldL_no h, al_zero (k := 3) (by simpa [cnt] using hd)]
  simp only
  rw [al_zero (k := 4) (by simpa [cnt] using hu), decide_eq_false h]
  rfl
theorem rnd_empty {p : Lk} (h : (rnd p).2 = true) : (rnd p).1.nd = 0 ∧ (rnd p).1.nu = 0 := by
  unfold rnd at h ⊢
  simp only [Bool.and_eq_true] at h
  have h1 := al_cnt (k := 3) (.inl rfl) h.1.2
  have h2 := al_cnt (k := 4) (.inr rfl) h.2
  simp only [cnt, if_true] at h1
  simp only [cnt, show ¬ (4 : Int) = 3 by decide, if_false] at h2
  refine ⟨?_, h2⟩
  simp only
  rw [show (alC 4 (alC 3 (ldL p 2 0 0 e0)).1).1.nd = (alC 3 (ldL p 2 0 0 e0)).1.nd from allN_nd _ _]
  exact h1
theorem rnd_lf {p : Lk} (h : Lf p) : Lf (rnd p).1 := al_lf 4 (al_lf 3 (ld_lf h 2 0 0 e0))
def calN : Nat → Lk → Lk × Bool
  | 0, p => (p, decide (p.nw = 0))
  | m + 1, p => if p.nw = 0 then (p, true) else if (rnd p).2 then calN m (rnd p).1 else ((rnd p).1, false)
/-- a link with nothing under way -/
def bare (p : Lk) : Lk := { p with nd := 0, nu := 0 }
theorem bare_lf {p : Lk} (h : Lf p) : Lf (bare p) :=
  ⟨h.b0, h.b1, h.w8, h.k0, h.k1, h.kg, h.ma, h.tw, h.tg, fun j hj => absurd hj (Nat.not_lt_zero j), by show (0 : Nat) ≤ 12; decide, fun j hj => absurd hj (Nat.not_lt_zero j), by show (0 : Nat) ≤ 12; decide⟩
def cmL (p : Lk) : Lk × Bool := if lkB p then calN 20 (bare p) else (zeL, false)
theorem calN_lf : ∀ (m : Nat) (p : Lk), Lf p → Lf (calN m p).1
  | 0, p, h => h
  | m + 1, p, h => by
    unfold calN
    split
    · exact h
    · split
      · exact calN_lf m _ (rnd_lf h)
      · exact rnd_lf h
theorem cmL_sm (p : Lk) : Lsm 1048576 (cmL p).1 := by
  unfold cmL
  split
  · rename_i h
    exact (calN_lf 20 _ (bare_lf (lk_iff.1 h))).sm
  · exact ⟨⟨by decide, fun j hj => absurd hj (Nat.not_lt_zero j)⟩, ⟨by decide, fun j hj => absurd hj (Nat.not_lt_zero j)⟩, ⟨by decide, fun j hj => absurd hj (Nat.not_lt_zero j)⟩, ⟨by decide, fun j hj => absurd hj (Nat.not_lt_zero j)⟩⟩

end Go.Proofs.Ytnkocikbapbbmaa

/- spec.l8All (written by mkLcB.py) -/
namespace Go.Proofs.Ytnkocikbapbbmaa
open Go.RowKit
set_option linter.unusedVariables false
set_option linter.unusedSimpArgs false

abbrev LsP (wv0 gv0 dv0 uv0 : Value) (w : World) (A : Lk × Bool) : Ending → World → Prop := fun e w' => ∃ wv gv dv uv, e = .returned (.tuple #[.agg (l6 A.1.base wv A.1.want gv dv uv), .bool A.2]) ∧ Mv nob w w' ∧ Lr w' 0 wv gv dv uv A.1 ∧ Nw w.heap.size wv0 gv0 dv0 uv0 wv gv dv uv

set_option maxHeartbeats 8000000 in
set_option maxRecDepth 20000 in
theorem l8All_3 (p : Lk) (x0a y0a z0a t0a : Option Addr) (x0c y0c z0c t0c : Nat) (w : World) (hr : Lr w 0 (.slice x0a p.nw x0c) (.slice y0a p.ng y0c) (.slice z0a p.nd z0c) (.slice t0a p.nu t0c) p) (hf : Lf p) (AL : Lk × Bool) (hAL : alC 3 p = AL) :
    Calls Try.prog 50 #[.agg (l6 p.base (.slice x0a p.nw x0c) p.want (.slice y0a p.ng y0c) (.slice z0a p.nd z0c) (.slice t0a p.nu t0c)), .int .i64 3] w (LsP (.slice x0a p.nw x0c) (.slice y0a p.ng y0c) (.slice z0a p.nd z0c) (.slice t0a p.nu t0c) w AL) := by
  have HB : Hid (Mv nob w w) := hide (Mv.refl _ _)
  have LN := hide hr
  have LT := hide (fun g (h : Lrb (.slice x0a p.nw x0c) (.slice y0a p.ng y0c) (.slice z0a p.nd z0c) (.slice t0a p.nu t0c) g) => (hr.lt g h).2)
  go_enter Try.func50, Try.ntmps50
  refine sk fun K hK => rl ?_
  refine sbp #[.int .i64 p.base, .slice x0a p.nw x0c, .int .i64 p.want, .slice y0a p.ng y0c, .slice z0a p.nd z0c, .slice t0a p.nu t0c] 30 fun V1 b0 hb0 m1 bx0 => ?_
  have o_0 : w.heap.size ≤ b0 := by omega
  replace HB := Xhn HB m1
  replace LN := hide (LN.out.mv m1 (fun _ _ h => h))
  clear hb0 m1
  refine sbp #[.int .i64 0, .slice none 0 0, .int .i64 0, .slice none 0 0, .slice none 0 0, .slice none 0 0] 30 fun V2 b1 hb1 m2 bx1 => ?_
  have o0_1 := Xlo bx0 hb1; replace HB := Xhn HB m2
  replace LN := hide (LN.out.mv m2 (fun _ _ h => h))
  replace bx0 := Xbn bx0 m2; clear hb1 m2
  refine sv (.bool false) ?_
  refine nt (hK _ _ ?_); clear hK K; refine sk fun K hK => wp_block ?_
  have AF : Hid (∀ g, Lrb (.slice x0a p.nw x0c) (.slice y0a p.ng y0c) (.slice z0a p.nd z0c) (.slice t0a p.nu t0c) g → g ≠ b0 ∧ g ≠ b1) := hide (fun g h => by have := LT.out g h; omega)
  have AN : Hid (Nw w.heap.size (.slice x0a p.nw x0c) (.slice y0a p.ng y0c) (.slice z0a p.nd z0c) (.slice t0a p.nu t0c) (.slice x0a p.nw x0c) (.slice y0a p.ng y0c) (.slice z0a p.nd z0c) (.slice t0a p.nu t0c)) := hide (Nw.refl _ _ _ _ _)
  have QF : Hid (Lf p ∧ alC 3 p = AL) := hide ⟨hf, hAL⟩
  clear hAL
  refine wp_loop_ghost (fun m a' w' => ∃ (q : Lk) (xa : Option Addr) (xc : Nat) (ya : Option Addr) (yc : Nat) (za : Option Addr) (zc : Nat) (ta : Option Addr) (tc : Nat) (u5 : Value) (u6 : Value) (u7 : Value) (u8 : Value) (u9 : Value) (u10 : Value) (u11 : Value) (u12 : Value) (u13 : Value) (u14 : Value) (u15 : Value) (u16 : Value) (u17 : Value) (u18 : Value) (u19 : Value) (u20 : Value) (u21 : Value) (u22 : Value) (u23 : Value) (u24 : Value) (u25 : Value) (u26 : Value) (u27 : Value) (u28 : Value) (u29 : Value) (u30 : Value) (u31 : Value) (u32 : Value) (u33 : Value) (u34 : Value) (u35 : Value) (u36 : Value), m = q.nd ∧ a' = ⟨#[.agg #[.int .i64 p.base, .slice x0a p.nw x0c, .int .i64 p.want, .slice y0a p.ng y0c, .slice z0a p.nd z0c, .slice t0a p.nu t0c], .int .i64 3, .pointer (some ⟨b0, 0, none⟩), undef, .pointer (some ⟨b1, 0, none⟩), u5, u6, u7, u8, u9, u10, u11, u12, u13, u14, u15, u16, u17, u18, u19, u20, u21, u22, u23, u24, u25, u26, u27, u28, u29, u30, u31, u32, u33, u34, u35, u36, undef], []⟩ ∧ (Mv nob w w') ∧ (Lr w' 0 (.slice xa q.nw xc) (.slice ya q.ng yc) (.slice za q.nd zc) (.slice ta q.nu tc) q) ∧ (∀ g, Lrb (.slice xa q.nw xc) (.slice ya q.ng yc) (.slice za q.nd zc) (.slice ta q.nu tc) g → g ≠ b0 ∧ g ≠ b1) ∧ (Nw w.heap.size (.slice x0a p.nw x0c) (.slice y0a p.ng y0c) (.slice z0a p.nd z0c) (.slice t0a p.nu t0c) (.slice xa q.nw xc) (.slice ya q.ng yc) (.slice za q.nd zc) (.slice ta q.nu tc)) ∧ (Lf q ∧ alC 3 q = AL) ∧ (w'.heap[b0]? = some (.cells #[.int .i64 q.base, .slice xa q.nw xc, .int .i64 q.want, .slice ya q.ng yc, .slice za q.nd zc, .slice ta q.nu tc] 30 (0, 0))) ∧ (w'.heap[b1]? = some (.cells #[.int .i64 0, .slice none 0 0, .int .i64 0, .slice none 0 0, .slice none 0 0, .slice none 0 0] 30 (0, 0)))) (p.nd) ⟨p, x0a, x0c, y0a, y0c, z0a, z0c, t0a, t0c, _, _, _, _, _, _, _, _, _, _, _, _, _, _, _, _, _, _, _, _, _, _, _, _, _, _, _, _, _, _, _, _, rfl, rfl, (HB.out), (LN.out), (AF.out), (AN.out), (QF.out), (bx0.out), (bx1.out)⟩ (fun m a' VL1 hI => ?_)
  obtain ⟨q, xa, xc, ya, yc, za, zc, ta, tc, u5, u6, u7, u8, u9, u10, u11, u12, u13, u14, u15, u16, u17, u18, u19, u20, u21, u22, u23, u24, u25, u26, u27, u28, u29, u30, u31, u32, u33, u34, u35, u36, rfl, rfl, i_HB, i_LN, i_AF, i_AN, i_QF, i_bx0, i_bx1⟩ := hI
  clear HB LN bx0 bx1
  have HB := hide i_HB
  clear i_HB
  have LN := hide i_LN
  clear i_LN
  have AF := hide i_AF
  clear i_AF
  have AN := hide i_AN
  clear i_AN
  have QF := hide i_QF
  clear i_QF
  have bx0 := hide i_bx0
  clear i_bx0
  have bx1 := hide i_bx1
  clear i_bx1
  refine sk fun K hK => sk fun K hK => rl ?_
  by_cases hn : q.nd = 0
  · refine sv (.int .i64 3) ?_
    refine sg (.bool true) ?_
    refine sv (.bool true) ?_
    refine sv (.pointer (some ⟨b0, 4, none⟩)) ?_
    refine sl 4 bx0 ?_
    refine sg (.int .i64 (q.nd : Int)) ?_
    refine sg (.bool false) (h := by have q1 : decide (0 < (q.nd : Int)) = false := decide_eq_false (by omega); have q2 : decide (0 < q.nd) = false := decide_eq_false (by omega); go_simp) ?_
    refine sg (.bool false) ?_
    refine sv (.bool false) ?_
    refine sv (.int .i64 3) ?_
    refine sg (.bool false) ?_
    refine sv (.bool false) ?_
    with_reducible refine sp ?_
    with_reducible refine sp ?_
    with_reducible refine sp ?_
    with_reducible refine sp ?_
    refine sg (.bool false) ?_
    refine sg (.bool false) ?_
    refine nt (hK _ _ ?_); clear hK K; refine cf ?_; refine wp_exit ?_; refine then_exit ?_; refine then_exit ?_; refine inb_here rfl ?_; refine then_normal ?_; clear hK K; refine hK _ _ ?_; clear hK K; refine sk fun K hK => rl ?_
    refine sl6 bx0 ?_
    refine ss6 (.int .i64 q.base) (.slice xa q.nw xc) (.int .i64 q.want) (.slice ya q.ng yc) (.slice za q.nd zc) (.slice ta q.nu tc) bx1 fun V3 m3 bx1 => ?_
    replace HB := Xhb HB m3
    replace LN := hide (LN.out.mv m3 (fun g hg h => by have h : g = b1 := h; have := AF.out g hg; omega))
    clear m3
    refine sv (.bool true) ?_
    refine nt (hK _ _ ?_); clear hK K; refine wp_ret ?_
    have hA : (q, true) = AL := (al_zero (k := 3) (by simp [cnt, hn])).symm.trans QF.out.2
    subst hA
    try simp only [Exit.then, Exit.inBlock, ↓reduceIte, Nat.reduceEqDiff]
    obtain ⟨_, q1_0, q1_1, q1_2, q1_3, q1_4, q1_5⟩ := box6 bx1.out
    exact bodyPost_ret (v := .tuple #[.agg #[.int .i64 q.base, .slice xa q.nw xc, .int .i64 q.want, .slice ya q.ng yc, .slice za q.nd zc, .slice ta q.nu tc], .bool true]) (by simp [results, Try.results50, go_sem, q1_0, q1_1, q1_2, q1_3, q1_4, q1_5]) rfl ⟨_, _, _, _, rfl, HB.out, LN.out, AN.out⟩
  refine sv (.int .i64 3) ?_
  refine sg (.bool true) ?_
  refine sv (.bool true) ?_
  refine sv (.pointer (some ⟨b0, 4, none⟩)) ?_
  refine sl 4 bx0 ?_
  refine sg (.int .i64 (q.nd : Int)) ?_
  refine sg (.bool true) (h := by have q1 : decide (0 < (q.nd : Int)) = true := decide_eq_true (by omega); have q2 : decide (0 < q.nd) = true := decide_eq_true (by omega); go_simp) ?_
  refine sg (.bool true) ?_
  refine sv (.bool true) ?_
  with_reducible refine sp ?_
  with_reducible refine sp ?_
  with_reducible refine sp ?_
  with_reducible refine sp ?_
  with_reducible refine sp ?_
  with_reducible refine sp ?_
  with_reducible refine sp ?_
  with_reducible refine sp ?_
  refine sg (.bool true) ?_
  refine nt (hK _ _ ?_); clear hK K; refine ct (wp_skip (then_normal (hK _ _ ?_))); clear hK K; refine wp_block (sk fun K hK => rl ?_)
  have hcall := fun V h => l8Do_any q (.slice xa q.nw xc) (.slice ya q.ng yc) (.slice za q.nd zc) (.slice ta q.nu tc) V h 3 0 0 e0 QF.out.1
  have st := @al_step q 3 (by decide)
  have sp_ := @al_stop q 3 (by decide)
  have cs := @cnt_step q 3 (by decide)
  have lf := ld_lf QF.out.1 3 0 0 e0
  have n3 : ldC q 3 0 0 e0 ≠ 3 := by rw [ldC_three, if_neg hn]; split <;> decide
  generalize ldL q 3 0 0 e0 = L at hcall st cs lf
  generalize ldC q 3 0 0 e0 = C at hcall st sp_ cs n3
  have HS := hide (And.intro st (And.intro sp_ (And.intro cs (And.intro lf n3))))
  clear st sp_ cs lf n3
  refine sl6 bx0 ?_
  refine sv (.int .i64 3) ?_
  refine sv (.agg #[.int .i64 3, .int .i64 0, .int .i64 0, .string ⟨#[]⟩]) ?_
  have szT := lt_of_block bx1.out
  have szW := HB.out.size
  refine sw_call (by rfl) (by first | rfl | (go_simp; done)) (hcall VL1 LN.out.la) ?_
  rintro e V4 ⟨wv, gv, dv, uv, rfl, LQ, hbV4⟩
  have m4 : Mv (nob) VL1 V4 := Mv.of_below hbV4
  refine ⟨_, rfl, ?_⟩
  refine pt ?_
  replace HB := Xhn HB m4
  replace LN := hide (LN.out.mv m4 (fun _ _ h => h))
  replace bx0 := Xbn bx0 m4; replace bx1 := Xbn bx1 m4
  obtain ⟨x2a, x2c, rfl, _⟩ := LQ.wa.form
  obtain ⟨y2a, y2c, rfl, _⟩ := LQ.go.form
  obtain ⟨z2a, z2c, rfl, _⟩ := LQ.dn.form
  obtain ⟨t2a, t2c, rfl, _⟩ := LQ.up.form
  have L2 := hide (LQ.lower (Nat.zero_le _))
  have A2 : Hid (∀ g, Lrb (.slice x2a L.nw x2c) (.slice y2a L.ng y2c) (.slice z2a L.nd z2c) (.slice t2a L.nu t2c) g → w.heap.size ≤ g ∧ g ≠ b0 ∧ g ≠ b1) := hide (fun g h => by have := (LQ.lt g h).1; omega)
  clear LQ hcall szT szW hbV4; clear m4
  refine sv (.tuple #[.agg #[.int .i64 L.base, .slice x2a L.nw x2c, .int .i64 L.want, .slice y2a L.ng y2c, .slice z2a L.nd z2c, .slice t2a L.nu t2c], .int .i64 C]) ?_
  refine sv (.agg #[.int .i64 L.base, .slice x2a L.nw x2c, .int .i64 L.want, .slice y2a L.ng y2c, .slice z2a L.nd z2c, .slice t2a L.nu t2c]) ?_
  refine sv (.int .i64 C) ?_
  refine sbp #[.int .i64 0, .slice none 0 0, .int .i64 0, .slice none 0 0, .slice none 0 0, .slice none 0 0] 30 fun V5 b2 hb2 m5 bx2 => ?_
  have o0_2 := Xlo bx0 hb2; have o1_2 := Xlo bx1 hb2
  have A3 : Hid (∀ g, Lrb (.slice x2a L.nw x2c) (.slice y2a L.ng y2c) (.slice z2a L.nd z2c) (.slice t2a L.nu t2c) g → g ≠ b2) := hide (fun g h => by have h2 := (L2.out.lt g h).2; omega)
  have A4 : Hid (∀ g, Lrb (.slice xa q.nw xc) (.slice ya q.ng yc) (.slice za q.nd zc) (.slice ta q.nu tc) g → g ≠ b2) := hide (fun g h => by have h2 := (LN.out.lt g h).2; omega)
  replace HB := Xhn HB m5
  replace LN := hide (LN.out.mv m5 (fun _ _ h => h))
  replace bx0 := Xbn bx0 m5; replace bx1 := Xbn bx1 m5
  replace L2 := hide (L2.out.mv m5 (fun _ _ h => h))
  clear hb2 m5
  refine ss6 (.int .i64 L.base) (.slice x2a L.nw x2c) (.int .i64 L.want) (.slice y2a L.ng y2c) (.slice z2a L.nd z2c) (.slice t2a L.nu t2c) bx2 fun V6 m6 bx2 => ?_
  replace HB := Xhb HB m6
  replace LN := hide (LN.out.mv m6 (fun g hg h => by have h : g = b2 := h; have := AF.out g hg; have := A4.out g hg; omega))
  replace bx0 := Xbb bx0 m6; replace bx1 := Xbb bx1 m6
  replace L2 := hide (L2.out.mv m6 (fun g hg h => by have h : g = b2 := h; have := A2.out g hg; have := A3.out g hg; omega))
  clear m6
  refine sv (.int .i64 C) ?_
  refine nt (hK _ _ ?_); clear hK K; refine sk fun K hK => sk fun K hK => rl ?_
  by_cases hC : ¬ C = 0
  · refine sv (.int .i64 C) ?_
    refine sg (.bool true) (h := by have h0 := hC; go_simp) ?_
    refine nt (hK _ _ ?_); clear hK K; refine ct (sk fun K hK => rl ?_)
    refine sl6 bx0 ?_
    refine ss6 (.int .i64 q.base) (.slice xa q.nw xc) (.int .i64 q.want) (.slice ya q.ng yc) (.slice za q.nd zc) (.slice ta q.nu tc) bx1 fun V7 m7 bx1 => ?_
    replace HB := Xhb HB m7
    replace LN := hide (LN.out.mv m7 (fun g hg h => by have h : g = b1 := h; have := AF.out g hg; have := A4.out g hg; omega))
    replace L2 := hide (L2.out.mv m7 (fun g hg h => by have h : g = b1 := h; have := A2.out g hg; have := A3.out g hg; omega))
    clear m7
    refine sv (.bool false) ?_
    refine nt (hK _ _ ?_); clear hK K; refine wp_ret (then_ret ?_); refine inb_ret ?_; refine then_ret ?_; refine inb_ret ?_; refine then_ret ?_
    have hA : (q, false) = AL := by rw [← QF.out.2, HS.out.2.1 hC, decide_eq_false HS.out.2.2.2.2]
    subst hA
    try simp only [Exit.then, Exit.inBlock, ↓reduceIte, Nat.reduceEqDiff]
    obtain ⟨_, q1_0, q1_1, q1_2, q1_3, q1_4, q1_5⟩ := box6 bx1.out
    exact bodyPost_ret (v := .tuple #[.agg #[.int .i64 q.base, .slice xa q.nw xc, .int .i64 q.want, .slice ya q.ng yc, .slice za q.nd zc, .slice ta q.nu tc], .bool false]) (by simp [results, Try.results50, go_sem, q1_0, q1_1, q1_2, q1_3, q1_4, q1_5]) rfl ⟨_, _, _, _, rfl, HB.out, LN.out, AN.out⟩
  have hC0 : C = 0 := by omega
  subst hC0
  clear hC
  refine sv (.int .i64 0) ?_
  refine sg (.bool false) ?_
  refine nt (hK _ _ ?_); clear hK K; refine cf (wp_skip (then_normal (hK _ _ ?_))); clear hK K; refine rl ?_
  clear LN
  refine sl6 bx2 ?_
  refine ss6 (.int .i64 L.base) (.slice x2a L.nw x2c) (.int .i64 L.want) (.slice y2a L.ng y2c) (.slice z2a L.nd z2c) (.slice t2a L.nu t2c) bx0 fun V8 m8 bx0 => ?_
  replace HB := Xhb HB m8; replace bx1 := Xbb bx1 m8
  replace L2 := hide (L2.out.mv m8 (fun g hg h => by have h : g = b0 := h; have := A2.out g hg; have := A3.out g hg; omega))
  clear m8
  refine wpList_nil (inb_norm (then_normal ?_))
  exact ⟨L.nd, by have := HS.out.2.2.1 rfl; simp only [cnt, if_true] at this; omega, L, x2a, x2c, y2a, y2c, z2a, z2c, t2a, t2c, _, _, _, _, _, _, _, _, _, _, _, _, _, _, _, _, _, _, _, _, _, _, _, _, _, _, _, _, _, _, _, _, rfl, rfl, (HB.out), (L2.out), (fun g h => (A2.out g h).2), (fun g h => .inr (A2.out g h).1), (⟨HS.out.2.2.2.1, (HS.out.1 rfl).trans QF.out.2⟩), (bx0.out), (bx1.out)⟩

set_option maxHeartbeats 8000000 in
set_option maxRecDepth 20000 in
theorem l8All_4 (p : Lk) (x0a y0a z0a t0a : Option Addr) (x0c y0c z0c t0c : Nat) (w : World) (hr : Lr w 0 (.slice x0a p.nw x0c) (.slice y0a p.ng y0c) (.slice z0a p.nd z0c) (.slice t0a p.nu t0c) p) (hf : Lf p) (AL : Lk × Bool) (hAL : alC 4 p = AL) :
    Calls Try.prog 50 #[.agg (l6 p.base (.slice x0a p.nw x0c) p.want (.slice y0a p.ng y0c) (.slice z0a p.nd z0c) (.slice t0a p.nu t0c)), .int .i64 4] w (LsP (.slice x0a p.nw x0c) (.slice y0a p.ng y0c) (.slice z0a p.nd z0c) (.slice t0a p.nu t0c) w AL) := by
  have HB : Hid (Mv nob w w) := hide (Mv.refl _ _)
  have LN := hide hr
  have LT := hide (fun g (h : Lrb (.slice x0a p.nw x0c) (.slice y0a p.ng y0c) (.slice z0a p.nd z0c) (.slice t0a p.nu t0c) g) => (hr.lt g h).2)
  go_enter Try.func50, Try.ntmps50
  refine sk fun K hK => rl ?_
  refine sbp #[.int .i64 p.base, .slice x0a p.nw x0c, .int .i64 p.want, .slice y0a p.ng y0c, .slice z0a p.nd z0c, .slice t0a p.nu t0c] 30 fun V1 b0 hb0 m1 bx0 => ?_
  have o_0 : w.heap.size ≤ b0 := by omega
  replace HB := Xhn HB m1
  replace LN := hide (LN.out.mv m1 (fun _ _ h => h))
  clear hb0 m1
  refine sbp #[.int .i64 0, .slice none 0 0, .int .i64 0, .slice none 0 0, .slice none 0 0, .slice none 0 0] 30 fun V2 b1 hb1 m2 bx1 => ?_
  have o0_1 := Xlo bx0 hb1; replace HB := Xhn HB m2
  replace LN := hide (LN.out.mv m2 (fun _ _ h => h))
  replace bx0 := Xbn bx0 m2; clear hb1 m2
  refine sv (.bool false) ?_
  refine nt (hK _ _ ?_); clear hK K; refine sk fun K hK => wp_block ?_
  have AF : Hid (∀ g, Lrb (.slice x0a p.nw x0c) (.slice y0a p.ng y0c) (.slice z0a p.nd z0c) (.slice t0a p.nu t0c) g → g ≠ b0 ∧ g ≠ b1) := hide (fun g h => by have := LT.out g h; omega)
  have AN : Hid (Nw w.heap.size (.slice x0a p.nw x0c) (.slice y0a p.ng y0c) (.slice z0a p.nd z0c) (.slice t0a p.nu t0c) (.slice x0a p.nw x0c) (.slice y0a p.ng y0c) (.slice z0a p.nd z0c) (.slice t0a p.nu t0c)) := hide (Nw.refl _ _ _ _ _)
  have QF : Hid (Lf p ∧ alC 4 p = AL) := hide ⟨hf, hAL⟩
  clear hAL
  refine wp_loop_ghost (fun m a' w' => ∃ (q : Lk) (xa : Option Addr) (xc : Nat) (ya : Option Addr) (yc : Nat) (za : Option Addr) (zc : Nat) (ta : Option Addr) (tc : Nat) (u5 : Value) (u6 : Value) (u7 : Value) (u8 : Value) (u9 : Value) (u10 : Value) (u11 : Value) (u12 : Value) (u13 : Value) (u14 : Value) (u15 : Value) (u16 : Value) (u17 : Value) (u18 : Value) (u19 : Value) (u20 : Value) (u21 : Value) (u22 : Value) (u23 : Value) (u24 : Value) (u25 : Value) (u26 : Value) (u27 : Value) (u28 : Value) (u29 : Value) (u30 : Value) (u31 : Value) (u32 : Value) (u33 : Value) (u34 : Value) (u35 : Value) (u36 : Value), m = q.nu ∧ a' = ⟨#[.agg #[.int .i64 p.base, .slice x0a p.nw x0c, .int .i64 p.want, .slice y0a p.ng y0c, .slice z0a p.nd z0c, .slice t0a p.nu t0c], .int .i64 4, .pointer (some ⟨b0, 0, none⟩), undef, .pointer (some ⟨b1, 0, none⟩), u5, u6, u7, u8, u9, u10, u11, u12, u13, u14, u15, u16, u17, u18, u19, u20, u21, u22, u23, u24, u25, u26, u27, u28, u29, u30, u31, u32, u33, u34, u35, u36, undef], []⟩ ∧ (Mv nob w w') ∧ (Lr w' 0 (.slice xa q.nw xc) (.slice ya q.ng yc) (.slice za q.nd zc) (.slice ta q.nu tc) q) ∧ (∀ g, Lrb (.slice xa q.nw xc) (.slice ya q.ng yc) (.slice za q.nd zc) (.slice ta q.nu tc) g → g ≠ b0 ∧ g ≠ b1) ∧ (Nw w.heap.size (.slice x0a p.nw x0c) (.slice y0a p.ng y0c) (.slice z0a p.nd z0c) (.slice t0a p.nu t0c) (.slice xa q.nw xc) (.slice ya q.ng yc) (.slice za q.nd zc) (.slice ta q.nu tc)) ∧ (Lf q ∧ alC 4 q = AL) ∧ (w'.heap[b0]? = some (.cells #[.int .i64 q.base, .slice xa q.nw xc, .int .i64 q.want, .slice ya q.ng yc, .slice za q.nd zc, .slice ta q.nu tc] 30 (0, 0))) ∧ (w'.heap[b1]? = some (.cells #[.int .i64 0, .slice none 0 0, .int .i64 0, .slice none 0 0, .slice none 0 0, .slice none 0 0] 30 (0, 0)))) (p.nu) ⟨p, x0a, x0c, y0a, y0c, z0a, z0c, t0a, t0c, _, _, _, _, _, _, _, _, _, _, _, _, _, _, _, _, _, _, _, _, _, _, _, _, _, _, _, _, _, _, _, _, rfl, rfl, (HB.out), (LN.out), (AF.out), (AN.out), (QF.out), (bx0.out), (bx1.out)⟩ (fun m a' VL1 hI => ?_)
  obtain ⟨q, xa, xc, ya, yc, za, zc, ta, tc, u5, u6, u7, u8, u9, u10, u11, u12, u13, u14, u15, u16, u17, u18, u19, u20, u21, u22, u23, u24, u25, u26, u27, u28, u29, u30, u31, u32, u33, u34, u35, u36, rfl, rfl, i_HB, i_LN, i_AF, i_AN, i_QF, i_bx0, i_bx1⟩ := hI
  clear HB LN bx0 bx1
  have HB := hide i_HB
  clear i_HB
  have LN := hide i_LN
  clear i_LN
  have AF := hide i_AF
  clear i_AF
  have AN := hide i_AN
  clear i_AN
  have QF := hide i_QF
  clear i_QF
  have bx0 := hide i_bx0
  clear i_bx0
  have bx1 := hide i_bx1
  clear i_bx1
  refine sk fun K hK => sk fun K hK => rl ?_
  by_cases hn : q.nu = 0
  · refine sv (.int .i64 4) ?_
    refine sg (.bool false) ?_
    refine sv (.bool false) ?_
    with_reducible refine sp ?_
    with_reducible refine sp ?_
    with_reducible refine sp ?_
    with_reducible refine sp ?_
    refine sg (.bool false) ?_
    refine sv (.bool false) ?_
    refine sv (.int .i64 4) ?_
    refine sg (.bool true) ?_
    refine sv (.bool true) ?_
    refine sv (.pointer (some ⟨b0, 5, none⟩)) ?_
    refine sl 5 bx0 ?_
    refine sg (.int .i64 (q.nu : Int)) ?_
    refine sg (.bool false) (h := by have q1 : decide (0 < (q.nu : Int)) = false := decide_eq_false (by omega); have q2 : decide (0 < q.nu) = false := decide_eq_false (by omega); go_simp) ?_
    refine sg (.bool false) ?_
    refine sg (.bool false) ?_
    refine nt (hK _ _ ?_); clear hK K; refine cf ?_; refine wp_exit ?_; refine then_exit ?_; refine then_exit ?_; refine inb_here rfl ?_; refine then_normal ?_; clear hK K; refine hK _ _ ?_; clear hK K; refine sk fun K hK => rl ?_
    refine sl6 bx0 ?_
    refine ss6 (.int .i64 q.base) (.slice xa q.nw xc) (.int .i64 q.want) (.slice ya q.ng yc) (.slice za q.nd zc) (.slice ta q.nu tc) bx1 fun V3 m3 bx1 => ?_
    replace HB := Xhb HB m3
    replace LN := hide (LN.out.mv m3 (fun g hg h => by have h : g = b1 := h; have := AF.out g hg; omega))
    clear m3
    refine sv (.bool true) ?_
    refine nt (hK _ _ ?_); clear hK K; refine wp_ret ?_
    have hA : (q, true) = AL := (al_zero (k := 4) (by simp [cnt, hn])).symm.trans QF.out.2
    subst hA
    try simp only [Exit.then, Exit.inBlock, ↓reduceIte, Nat.reduceEqDiff]
    obtain ⟨_, q1_0, q1_1, q1_2, q1_3, q1_4, q1_5⟩ := box6 bx1.out
    exact bodyPost_ret (v := .tuple #[.agg #[.int .i64 q.base, .slice xa q.nw xc, .int .i64 q.want, .slice ya q.ng yc, .slice za q.nd zc, .slice ta q.nu tc], .bool true]) (by simp [results, Try.results50, go_sem, q1_0, q1_1, q1_2, q1_3, q1_4, q1_5]) rfl ⟨_, _, _, _, rfl, HB.out, LN.out, AN.out⟩
  refine sv (.int .i64 4) ?_
  refine sg (.bool false) ?_
  refine sv (.bool false) ?_
  with_reducible refine sp ?_
  with_reducible refine sp ?_
  with_reducible refine sp ?_
  with_reducible refine sp ?_
  refine sg (.bool false) ?_
  refine sv (.bool false) ?_
  refine sv (.int .i64 4) ?_
  refine sg (.bool true) ?_
  refine sv (.bool true) ?_
  refine sv (.pointer (some ⟨b0, 5, none⟩)) ?_
  refine sl 5 bx0 ?_
  refine sg (.int .i64 (q.nu : Int)) ?_
  refine sg (.bool true) (h := by have q1 : decide (0 < (q.nu : Int)) = true := decide_eq_true (by omega); have q2 : decide (0 < q.nu) = true := decide_eq_true (by omega); go_simp) ?_
  refine sg (.bool true) ?_
  refine sg (.bool true) ?_
  refine nt (hK _ _ ?_); clear hK K; refine ct (wp_skip (then_normal (hK _ _ ?_))); clear hK K; refine wp_block (sk fun K hK => rl ?_)
  have hcall := fun V h => l8Do_any q (.slice xa q.nw xc) (.slice ya q.ng yc) (.slice za q.nd zc) (.slice ta q.nu tc) V h 4 0 0 e0 QF.out.1
  have st := @al_step q 4 (by decide)
  have sp_ := @al_stop q 4 (by decide)
  have cs := @cnt_step q 4 (by decide)
  have lf := ld_lf QF.out.1 4 0 0 e0
  have n3 : ldC q 4 0 0 e0 ≠ 3 := by rw [ldC_four, if_neg hn]; split <;> decide
  generalize ldL q 4 0 0 e0 = L at hcall st cs lf
  generalize ldC q 4 0 0 e0 = C at hcall st sp_ cs n3
  have HS := hide (And.intro st (And.intro sp_ (And.intro cs (And.intro lf n3))))
  clear st sp_ cs lf n3
  refine sl6 bx0 ?_
  refine sv (.int .i64 4) ?_
  refine sv (.agg #[.int .i64 4, .int .i64 0, .int .i64 0, .string ⟨#[]⟩]) ?_
  have szT := lt_of_block bx1.out
  have szW := HB.out.size
  refine sw_call (by rfl) (by first | rfl | (go_simp; done)) (hcall VL1 LN.out.la) ?_
  rintro e V4 ⟨wv, gv, dv, uv, rfl, LQ, hbV4⟩
  have m4 : Mv (nob) VL1 V4 := Mv.of_below hbV4
  refine ⟨_, rfl, ?_⟩
  refine pt ?_
  replace HB := Xhn HB m4
  replace LN := hide (LN.out.mv m4 (fun _ _ h => h))
  replace bx0 := Xbn bx0 m4; replace bx1 := Xbn bx1 m4
  obtain ⟨x2a, x2c, rfl, _⟩ := LQ.wa.form
  obtain ⟨y2a, y2c, rfl, _⟩ := LQ.go.form
  obtain ⟨z2a, z2c, rfl, _⟩ := LQ.dn.form
  obtain ⟨t2a, t2c, rfl, _⟩ := LQ.up.form
  have L2 := hide (LQ.lower (Nat.zero_le _))
  have A2 : Hid (∀ g, Lrb (.slice x2a L.nw x2c) (.slice y2a L.ng y2c) (.slice z2a L.nd z2c) (.slice t2a L.nu t2c) g → w.heap.size ≤ g ∧ g ≠ b0 ∧ g ≠ b1) := hide (fun g h => by have := (LQ.lt g h).1; omega)
  clear LQ hcall szT szW hbV4; clear m4
  refine sv (.tuple #[.agg #[.int .i64 L.base, .slice x2a L.nw x2c, .int .i64 L.want, .slice y2a L.ng y2c, .slice z2a L.nd z2c, .slice t2a L.nu t2c], .int .i64 C]) ?_
  refine sv (.agg #[.int .i64 L.base, .slice x2a L.nw x2c, .int .i64 L.want, .slice y2a L.ng y2c, .slice z2a L.nd z2c, .slice t2a L.nu t2c]) ?_
  refine sv (.int .i64 C) ?_
  refine sbp #[.int .i64 0, .slice none 0 0, .int .i64 0, .slice none 0 0, .slice none 0 0, .slice none 0 0] 30 fun V5 b2 hb2 m5 bx2 => ?_
  have o0_2 := Xlo bx0 hb2; have o1_2 := Xlo bx1 hb2
  have A3 : Hid (∀ g, Lrb (.slice x2a L.nw x2c) (.slice y2a L.ng y2c) (.slice z2a L.nd z2c) (.slice t2a L.nu t2c) g → g ≠ b2) := hide (fun g h => by have h2 := (L2.out.lt g h).2; omega)
  have A4 : Hid (∀ g, Lrb (.slice xa q.nw xc) (.slice ya q.ng yc) (.slice za q.nd zc) (.slice ta q.nu tc) g → g ≠ b2) := hide (fun g h => by have h2 := (LN.out.lt g h).2; omega)
  replace HB := Xhn HB m5
  replace LN := hide (LN.out.mv m5 (fun _ _ h => h))
  replace bx0 := Xbn bx0 m5; replace bx1 := Xbn bx1 m5
  replace L2 := hide (L2.out.mv m5 (fun _ _ h => h))
  clear hb2 m5
  refine ss6 (.int .i64 L.base) (.slice x2a L.nw x2c) (.int .i64 L.want) (.slice y2a L.ng y2c) (.slice z2a L.nd z2c) (.slice t2a L.nu t2c) bx2 fun V6 m6 bx2 => ?_
  replace HB := Xhb HB m6
  replace LN := hide (LN.out.mv m6 (fun g hg h => by have h : g = b2 := h; have := AF.out g hg; have := A4.out g hg; omega))
  replace bx0 := Xbb bx0 m6; replace bx1 := Xbb bx1 m6
  replace L2 := hide (L2.out.mv m6 (fun g hg h => by have h : g = b2 := h; have := A2.out g hg; have := A3.out g hg; omega))
  clear m6
  refine sv (.int .i64 C) ?_
  refine nt (hK _ _ ?_); clear hK K; refine sk fun K hK => sk fun K hK => rl ?_
  by_cases hC : ¬ C = 0
  · refine sv (.int .i64 C) ?_
    refine sg (.bool true) (h := by have h0 := hC; go_simp) ?_
    refine nt (hK _ _ ?_); clear hK K; refine ct (sk fun K hK => rl ?_)
    refine sl6 bx0 ?_
    refine ss6 (.int .i64 q.base) (.slice xa q.nw xc) (.int .i64 q.want) (.slice ya q.ng yc) (.slice za q.nd zc) (.slice ta q.nu tc) bx1 fun V7 m7 bx1 => ?_
    replace HB := Xhb HB m7
    replace LN := hide (LN.out.mv m7 (fun g hg h => by have h : g = b1 := h; have := AF.out g hg; have := A4.out g hg; omega))
    replace L2 := hide (L2.out.mv m7 (fun g hg h => by have h : g = b1 := h; have := A2.out g hg; have := A3.out g hg; omega))
    clear m7
    refine sv (.bool false) ?_
    refine nt (hK _ _ ?_); clear hK K; refine wp_ret (then_ret ?_); refine inb_ret ?_; refine then_ret ?_; refine inb_ret ?_; refine then_ret ?_
    have hA : (q, false) = AL := by rw [← QF.out.2, HS.out.2.1 hC, decide_eq_false HS.out.2.2.2.2]
    subst hA
    try simp only [Exit.then, Exit.inBlock, ↓reduceIte, Nat.reduceEqDiff]
    obtain ⟨_, q1_0, q1_1, q1_2, q1_3, q1_4, q1_5⟩ := box6 bx1.out
    exact bodyPost_ret (v := .tuple #[.agg #[.int .i64 q.base, .slice xa q.nw xc, .int .i64 q.want, .slice ya q.ng yc, .slice za q.nd zc, .slice ta q.nu tc], .bool false]) (by simp [results, Try.results50, go_sem, q1_0, q1_1, q1_2, q1_3, q1_4, q1_5]) rfl ⟨_, _, _, _, rfl, HB.out, LN.out, AN.out⟩
  have hC0 : C = 0 := by omega
  subst hC0
  clear hC
  refine sv (.int .i64 0) ?_
  refine sg (.bool false) ?_
  refine nt (hK _ _ ?_); clear hK K; refine cf (wp_skip (then_normal (hK _ _ ?_))); clear hK K; refine rl ?_
  clear LN
  refine sl6 bx2 ?_
  refine ss6 (.int .i64 L.base) (.slice x2a L.nw x2c) (.int .i64 L.want) (.slice y2a L.ng y2c) (.slice z2a L.nd z2c) (.slice t2a L.nu t2c) bx0 fun V8 m8 bx0 => ?_
  replace HB := Xhb HB m8; replace bx1 := Xbb bx1 m8
  replace L2 := hide (L2.out.mv m8 (fun g hg h => by have h : g = b0 := h; have := A2.out g hg; have := A3.out g hg; omega))
  clear m8
  refine wpList_nil (inb_norm (then_normal ?_))
  exact ⟨L.nu, by have := HS.out.2.2.1 rfl; simp only [cnt, show ¬ (4 : Int) = 3 by decide, if_false] at this; omega, L, x2a, x2c, y2a, y2c, z2a, z2c, t2a, t2c, _, _, _, _, _, _, _, _, _, _, _, _, _, _, _, _, _, _, _, _, _, _, _, _, _, _, _, _, _, _, _, _, rfl, rfl, (HB.out), (L2.out), (fun g h => (A2.out g h).2), (fun g h => .inr (A2.out g h).1), (⟨HS.out.2.2.2.1, (HS.out.1 rfl).trans QF.out.2⟩), (bx0.out), (bx1.out)⟩

end Go.Proofs.Ytnkocikbapbbmaa

/- impl.allCome, impl.linkRound (written by mkLcA.py) -/
namespace Go.Proofs.Ytnkocikbapbbmaa
open Go.RowKit
set_option linter.unusedVariables false
set_option linter.unusedSimpArgs false

def mes (k c : Int) (q : Lk) : Nat := if c = 0 then cnt k q + 1 else 0
theorem mes_lt {k C : Int} {q L : Lk} (h : C = 0 → cnt k L + 1 = cnt k q) : mes k C L < mes k 0 q := by
  unfold mes
  rw [if_pos rfl]
  split
  · rename_i h0
    have := h h0
    omega
  · omega
theorem beq3 (c : Int) : (c == 3) = decide (c = 3) := by by_cases h : c = 3 <;> simp [h]
abbrev LbP (wv0 gv0 dv0 uv0 : Value) (base : Nat) (w : World) (A : Lk × Bool) : Ending → World → Prop := fun e w' => ∃ wv gv dv uv, e = .returned (.tuple #[.agg (l6 A.1.base wv A.1.want gv dv uv), .bool A.2]) ∧ Mv (Lrb wv0 gv0 dv0 uv0) w w' ∧ Lr w' base wv gv dv uv A.1 ∧ Nw w.heap.size wv0 gv0 dv0 uv0 wv gv dv uv

set_option maxHeartbeats 8000000 in
set_option maxRecDepth 20000 in
theorem allCome_sl (p : Lk) (x0a y0a z0a t0a : Option Addr) (x0c y0c z0c t0c : Nat) (base : Nat) (w : World) (hr : Lr w base (.slice x0a p.nw x0c) (.slice y0a p.ng y0c) (.slice z0a p.nd z0c) (.slice t0a p.nu t0c) p) (hle : base ≤ w.heap.size) (k : Int) (hk : k = 3 ∨ k = 4) (hf : Lf p) (AL : Lk × Bool) (hAL : alC k p = AL) :
    Calls Try.prog 62 #[.agg (l6 p.base (.slice x0a p.nw x0c) p.want (.slice y0a p.ng y0c) (.slice z0a p.nd z0c) (.slice t0a p.nu t0c)), .int .i64 k] w (LbP (.slice x0a p.nw x0c) (.slice y0a p.ng y0c) (.slice z0a p.nd z0c) (.slice t0a p.nu t0c) base w AL) := by
  have HB : Hid (Mv (Lrb (.slice x0a p.nw x0c) (.slice y0a p.ng y0c) (.slice z0a p.nd z0c) (.slice t0a p.nu t0c)) w w) := hide (Mv.refl _ _)
  have LN := hide hr
  have LT := hide (fun g (h : Lrb (.slice x0a p.nw x0c) (.slice y0a p.ng y0c) (.slice z0a p.nd z0c) (.slice t0a p.nu t0c) g) => (hr.lt g h).2)
  go_enter Try.func62, Try.ntmps62
  refine sk fun K hK => rl ?_
  refine sbp #[.int .i64 p.base, .slice x0a p.nw x0c, .int .i64 p.want, .slice y0a p.ng y0c, .slice z0a p.nd z0c, .slice t0a p.nu t0c] 30 fun V1 b0 hb0 m1 bx0 => ?_
  have o_0 : w.heap.size ≤ b0 := by omega
  replace HB := Xhn HB m1
  replace LN := hide (LN.out.mv m1 (fun _ _ h => h))
  clear hb0 m1
  refine sbp #[.int .i64 0, .slice none 0 0, .int .i64 0, .slice none 0 0, .slice none 0 0, .slice none 0 0] 30 fun V2 b1 hb1 m2 bx1 => ?_
  have o0_1 := Xlo bx0 hb1; replace HB := Xhn HB m2
  replace LN := hide (LN.out.mv m2 (fun _ _ h => h))
  replace bx0 := Xbn bx0 m2; clear hb1 m2
  refine sv (.bool false) ?_
  refine nt (hK _ _ ?_); clear hK K; refine sk fun K hK => rl ?_
  refine sv (.int .i64 0) ?_
  refine nt (hK _ _ ?_); clear hK K; refine sk fun K hK => wp_block ?_
  have AF : Hid (∀ g, Lrb (.slice x0a p.nw x0c) (.slice y0a p.ng y0c) (.slice z0a p.nd z0c) (.slice t0a p.nu t0c) g → g ≠ b0 ∧ g ≠ b1) := hide (fun g h => by have := LT.out g h; omega)
  have AN : Hid (Nw w.heap.size (.slice x0a p.nw x0c) (.slice y0a p.ng y0c) (.slice z0a p.nd z0c) (.slice t0a p.nu t0c) (.slice x0a p.nw x0c) (.slice y0a p.ng y0c) (.slice z0a p.nd z0c) (.slice t0a p.nu t0c)) := hide (Nw.refl _ _ _ _ _)
  have QF : Hid (Lf p ∧ ((0 : Int) = 0 → alC k p = AL) ∧ (¬ (0 : Int) = 0 → (p, (0 : Int) == 3) = AL)) := hide ⟨hf, fun _ => hAL, fun h => absurd rfl h⟩
  clear hAL
  refine wp_loop_ghost (fun m a' w' => ∃ (q : Lk) (c : Int) (xa : Option Addr) (xc : Nat) (ya : Option Addr) (yc : Nat) (za : Option Addr) (zc : Nat) (ta : Option Addr) (tc : Nat) (u7 : Value) (u8 : Value) (u9 : Value) (u10 : Value) (u11 : Value) (u12 : Value) (u13 : Value) (u14 : Value) (u15 : Value), m = mes k c q ∧ a' = ⟨#[.agg #[.int .i64 p.base, .slice x0a p.nw x0c, .int .i64 p.want, .slice y0a p.ng y0c, .slice z0a p.nd z0c, .slice t0a p.nu t0c], .int .i64 k, .pointer (some ⟨b0, 0, none⟩), undef, .pointer (some ⟨b1, 0, none⟩), .bool false, .int .i64 c, u7, u8, u9, u10, u11, u12, u13, u14, u15, undef, undef, undef], []⟩ ∧ (Mv (Lrb (.slice x0a p.nw x0c) (.slice y0a p.ng y0c) (.slice z0a p.nd z0c) (.slice t0a p.nu t0c)) w w') ∧ (Lr w' base (.slice xa q.nw xc) (.slice ya q.ng yc) (.slice za q.nd zc) (.slice ta q.nu tc) q) ∧ (∀ g, Lrb (.slice xa q.nw xc) (.slice ya q.ng yc) (.slice za q.nd zc) (.slice ta q.nu tc) g → g ≠ b0 ∧ g ≠ b1) ∧ (Nw w.heap.size (.slice x0a p.nw x0c) (.slice y0a p.ng y0c) (.slice z0a p.nd z0c) (.slice t0a p.nu t0c) (.slice xa q.nw xc) (.slice ya q.ng yc) (.slice za q.nd zc) (.slice ta q.nu tc)) ∧ (Lf q ∧ (c = 0 → alC k q = AL) ∧ (¬ c = 0 → (q, c == 3) = AL)) ∧ (w'.heap[b0]? = some (.cells #[.int .i64 q.base, .slice xa q.nw xc, .int .i64 q.want, .slice ya q.ng yc, .slice za q.nd zc, .slice ta q.nu tc] 30 (0, 0))) ∧ (w'.heap[b1]? = some (.cells #[.int .i64 0, .slice none 0 0, .int .i64 0, .slice none 0 0, .slice none 0 0, .slice none 0 0] 30 (0, 0)))) (mes k 0 p) ⟨p, 0, x0a, x0c, y0a, y0c, z0a, z0c, t0a, t0c, _, _, _, _, _, _, _, _, _, rfl, rfl, (HB.out), (LN.out), (AF.out), (AN.out), (QF.out), (bx0.out), (bx1.out)⟩ (fun m a' VL1 hI => ?_)
  obtain ⟨q, c, xa, xc, ya, yc, za, zc, ta, tc, u7, u8, u9, u10, u11, u12, u13, u14, u15, rfl, rfl, i_HB, i_LN, i_AF, i_AN, i_QF, i_bx0, i_bx1⟩ := hI
  clear HB LN bx0 bx1
  have HB := hide i_HB
  clear i_HB
  have LN := hide i_LN
  clear i_LN
  have AF := hide i_AF
  clear i_AF
  have AN := hide i_AN
  clear i_AN
  have QF := hide i_QF
  clear i_QF
  have bx0 := hide i_bx0
  clear i_bx0
  have bx1 := hide i_bx1
  clear i_bx1
  have hle2 := LN.out
  clear hle2
  refine sk fun K hK => sk fun K hK => rl ?_
  by_cases hc : ¬ c = 0
  · refine sv (.int .i64 c) ?_
    refine sg (.bool false) (h := by have h0 := hc; go_simp) ?_
    refine nt (hK _ _ ?_); clear hK K; refine cf ?_; refine wp_exit ?_; refine then_exit ?_; refine then_exit ?_; refine inb_here rfl ?_; refine then_normal ?_; clear hK K; refine hK _ _ ?_; clear hK K; refine sk fun K hK => rl ?_
    refine sl6 bx0 ?_
    refine sv (.int .i64 c) ?_
    refine sg (.bool (c == 3)) ?_
    refine ss6 (.int .i64 q.base) (.slice xa q.nw xc) (.int .i64 q.want) (.slice ya q.ng yc) (.slice za q.nd zc) (.slice ta q.nu tc) bx1 fun V3 m3 bx1 => ?_
    replace HB := Xhb HB m3
    replace LN := hide (LN.out.mv m3 (fun g hg h => by have h : g = b1 := h; have := AF.out g hg; omega))
    clear m3
    refine sv (.bool (c == 3)) ?_
    refine nt (hK _ _ ?_); clear hK K; refine wp_ret ?_
    have hA := QF.out.2.2 hc
    subst hA
    try simp only [Exit.then, Exit.inBlock, ↓reduceIte, Nat.reduceEqDiff]
    obtain ⟨_, q1_0, q1_1, q1_2, q1_3, q1_4, q1_5⟩ := box6 bx1.out
    exact bodyPost_ret (v := .tuple #[.agg #[.int .i64 q.base, .slice xa q.nw xc, .int .i64 q.want, .slice ya q.ng yc, .slice za q.nd zc, .slice ta q.nu tc], .bool (c == 3)]) (by simp [results, Try.results62, go_sem, q1_0, q1_1, q1_2, q1_3, q1_4, q1_5]) rfl ⟨_, _, _, _, rfl, HB.out, LN.out, AN.out⟩
  have hc0 : c = 0 := by omega
  subst hc0
  clear hc
  refine sv (.int .i64 0) ?_
  refine sg (.bool true) ?_
  refine nt (hK _ _ ?_); clear hK K; refine ct (wp_skip (then_normal (hK _ _ ?_))); clear hK K; refine wp_block (rl ?_)
  have hcall := fun V h hle => linkDone_any q xa ya za ta xc yc zc tc base V h hle k 0 0 e0 QF.out.1
  have st := @al_step q k hk
  have sp_ := @al_stop q k hk
  have cs := @cnt_step q k hk
  have lf := ld_lf QF.out.1 k 0 0 e0
  have no := @ldL_no q k 0 0 e0
  generalize ldL q k 0 0 e0 = L at hcall st cs lf no
  generalize ldC q k 0 0 e0 = C at hcall st sp_ cs no
  have HS := hide (And.intro st (And.intro sp_ (And.intro cs (And.intro lf no))))
  clear st sp_ cs lf no
  refine sl6 bx0 ?_
  refine sv (.int .i64 k) ?_
  refine sv (.agg #[.int .i64 k, .int .i64 0, .int .i64 0, .string ⟨#[]⟩]) ?_
  have szT := lt_of_block bx1.out
  have szW := HB.out.size
  refine sw_call (by rfl) (by first | rfl | (go_simp; done)) (hcall VL1 LN.out (by omega)) ?_
  rintro e V4 ⟨wv, gv, dv, uv, rfl, mm, LQ, hnw⟩
  have m4 : Mv (Lrb (.slice xa q.nw xc) (.slice ya q.ng yc) (.slice za q.nd zc) (.slice ta q.nu tc)) VL1 V4 := mm
  refine ⟨_, rfl, ?_⟩
  refine pt ?_
  replace HB := hide (HB.out.step m4 (fun g hlt h => (AN.out g h).elim (fun h => h) (fun h2 => absurd h2 (by omega))))
  replace bx0 := hide (m4.box bx0.out (fun h => by have := AF.out _ h; omega))
  replace bx1 := hide (m4.box bx1.out (fun h => by have := AF.out _ h; omega))
  obtain ⟨x2a, x2c, rfl, _⟩ := LQ.wa.form
  obtain ⟨y2a, y2c, rfl, _⟩ := LQ.go.form
  obtain ⟨z2a, z2c, rfl, _⟩ := LQ.dn.form
  obtain ⟨t2a, t2c, rfl, _⟩ := LQ.up.form
  replace LN := hide LQ
  replace AF : Hid (∀ g, Lrb (.slice x2a L.nw x2c) (.slice y2a L.ng y2c) (.slice z2a L.nd z2c) (.slice t2a L.nu t2c) g → g ≠ b0 ∧ g ≠ b1) := hide (fun g h => (hnw g h).elim (fun h2 => AF.out g h2) (fun h2 => by omega))
  replace AN : Hid (Nw w.heap.size (.slice x0a p.nw x0c) (.slice y0a p.ng y0c) (.slice z0a p.nd z0c) (.slice t0a p.nu t0c) (.slice x2a L.nw x2c) (.slice y2a L.ng y2c) (.slice z2a L.nd z2c) (.slice t2a L.nu t2c)) := hide (fun g h => (hnw g h).elim (fun h2 => AN.out g h2) (fun h2 => .inr (by omega)))
  clear LQ mm hnw hcall szT szW; clear m4
  refine sv (.tuple #[.agg #[.int .i64 L.base, .slice x2a L.nw x2c, .int .i64 L.want, .slice y2a L.ng y2c, .slice z2a L.nd z2c, .slice t2a L.nu t2c], .int .i64 C]) ?_
  refine sv (.agg #[.int .i64 L.base, .slice x2a L.nw x2c, .int .i64 L.want, .slice y2a L.ng y2c, .slice z2a L.nd z2c, .slice t2a L.nu t2c]) ?_
  refine sv (.int .i64 C) ?_
  refine ss6 (.int .i64 L.base) (.slice x2a L.nw x2c) (.int .i64 L.want) (.slice y2a L.ng y2c) (.slice z2a L.nd z2c) (.slice t2a L.nu t2c) bx0 fun V5 m5 bx0 => ?_
  replace HB := Xhb HB m5
  replace LN := hide (LN.out.mv m5 (fun g hg h => by have h : g = b0 := h; have := AF.out g hg; omega))
  replace bx1 := Xbb bx1 m5; clear m5
  refine sv (.int .i64 C) ?_
  refine wpList_nil (inb_norm (then_normal ?_))
  exact ⟨mes k C L, mes_lt HS.out.2.2.1, L, C, x2a, x2c, y2a, y2c, z2a, z2c, t2a, t2c, _, _, _, _, _, _, _, _, _, rfl, rfl, (HB.out), (LN.out), (AF.out), (AN.out), (⟨HS.out.2.2.2.1, fun h => (HS.out.1 h).trans (QF.out.2.1 rfl), fun h => by rw [HS.out.2.2.2.2 h, beq3, ← QF.out.2.1 rfl, HS.out.2.1 h]⟩), (bx0.out), (bx1.out)⟩

set_option maxHeartbeats 8000000 in
set_option maxRecDepth 20000 in
theorem linkRound_sl (p : Lk) (x0a y0a z0a t0a : Option Addr) (x0c y0c z0c t0c : Nat) (base : Nat) (w : World) (hr : Lr w base (.slice x0a p.nw x0c) (.slice y0a p.ng y0c) (.slice z0a p.nd z0c) (.slice t0a p.nu t0c) p) (hle : base ≤ w.heap.size) (hf : Lf p) (RD : Lk × Bool) (hRD : rnd p = RD) :
    Calls Try.prog 51 #[.agg (l6 p.base (.slice x0a p.nw x0c) p.want (.slice y0a p.ng y0c) (.slice z0a p.nd z0c) (.slice t0a p.nu t0c))] w (LbP (.slice x0a p.nw x0c) (.slice y0a p.ng y0c) (.slice z0a p.nd z0c) (.slice t0a p.nu t0c) base w RD) := by
  have hsend := fun V h hle => linkDone_any p x0a y0a z0a t0a x0c y0c z0c t0c base V h hle 2 0 0 e0 hf
  have f1 := ld_lf hf 2 0 0 e0
  unfold rnd at hRD
  generalize ldL p 2 0 0 e0 = L1 at hsend f1 hRD
  generalize ldC p 2 0 0 e0 = C1 at hsend hRD
  have f2 := al_lf 3 f1
  obtain ⟨L2, b2_, h2⟩ : ∃ L b, alC 3 L1 = (L, b) := ⟨_, _, rfl⟩
  rw [h2] at hRD f2
  obtain ⟨L3, b3_, h3⟩ : ∃ L b, alC 4 L2 = (L, b) := ⟨_, _, rfl⟩
  simp only at f2 hRD
  rw [h3] at hRD
  simp only at hRD
  have HB : Hid (Mv (Lrb (.slice x0a p.nw x0c) (.slice y0a p.ng y0c) (.slice z0a p.nd z0c) (.slice t0a p.nu t0c)) w w) := hide (Mv.refl _ _)
  have LN := hide hr
  have LT := hide (fun g (h : Lrb (.slice x0a p.nw x0c) (.slice y0a p.ng y0c) (.slice z0a p.nd z0c) (.slice t0a p.nu t0c) g) => (hr.lt g h).2)
  go_enter Try.func51, Try.ntmps51
  refine sk fun K hK => rl ?_
  refine sbp #[.int .i64 p.base, .slice x0a p.nw x0c, .int .i64 p.want, .slice y0a p.ng y0c, .slice z0a p.nd z0c, .slice t0a p.nu t0c] 30 fun V1 b0 hb0 m1 bx0 => ?_
  have o_0 : w.heap.size ≤ b0 := by omega
  replace HB := Xhn HB m1
  replace LN := hide (LN.out.mv m1 (fun _ _ h => h))
  clear hb0 m1
  refine sbp #[.int .i64 0, .slice none 0 0, .int .i64 0, .slice none 0 0, .slice none 0 0, .slice none 0 0] 30 fun V2 b1 hb1 m2 bx1 => ?_
  have o0_1 := Xlo bx0 hb1; replace HB := Xhn HB m2
  replace LN := hide (LN.out.mv m2 (fun _ _ h => h))
  replace bx0 := Xbn bx0 m2; clear hb1 m2
  refine sv (.bool false) ?_
  refine nt (hK _ _ ?_); clear hK K; refine sk fun K hK => rl ?_
  have AF : Hid (∀ g, Lrb (.slice x0a p.nw x0c) (.slice y0a p.ng y0c) (.slice z0a p.nd z0c) (.slice t0a p.nu t0c) g → g ≠ b0 ∧ g ≠ b1) := hide (fun g h => by have := LT.out g h; omega)
  have AN : Hid (Nw w.heap.size (.slice x0a p.nw x0c) (.slice y0a p.ng y0c) (.slice z0a p.nd z0c) (.slice t0a p.nu t0c) (.slice x0a p.nw x0c) (.slice y0a p.ng y0c) (.slice z0a p.nd z0c) (.slice t0a p.nu t0c)) := hide (Nw.refl _ _ _ _ _)
  refine sl6 bx0 ?_
  refine sv (.agg #[.int .i64 2, .int .i64 0, .int .i64 0, .string ⟨#[]⟩]) ?_
  have szT := lt_of_block bx1.out
  have szW := HB.out.size
  refine sw_call (by rfl) (by first | rfl | (go_simp; done)) (hsend V2 LN.out (by omega)) ?_
  rintro e V3 ⟨wv, gv, dv, uv, rfl, mm, LQ, hnw⟩
  have m3 : Mv (Lrb (.slice x0a p.nw x0c) (.slice y0a p.ng y0c) (.slice z0a p.nd z0c) (.slice t0a p.nu t0c)) V2 V3 := mm
  refine ⟨_, rfl, ?_⟩
  refine pt ?_
  replace HB := hide (HB.out.step m3 (fun g hlt h => (AN.out g h).elim (fun h => h) (fun h2 => absurd h2 (by omega))))
  replace bx0 := hide (m3.box bx0.out (fun h => by have := AF.out _ h; omega))
  replace bx1 := hide (m3.box bx1.out (fun h => by have := AF.out _ h; omega))
  obtain ⟨x1a, x1c, rfl, _⟩ := LQ.wa.form
  obtain ⟨y1a, y1c, rfl, _⟩ := LQ.go.form
  obtain ⟨z1a, z1c, rfl, _⟩ := LQ.dn.form
  obtain ⟨t1a, t1c, rfl, _⟩ := LQ.up.form
  replace LN := hide LQ
  replace AF : Hid (∀ g, Lrb (.slice x1a L1.nw x1c) (.slice y1a L1.ng y1c) (.slice z1a L1.nd z1c) (.slice t1a L1.nu t1c) g → g ≠ b0 ∧ g ≠ b1) := hide (fun g h => (hnw g h).elim (fun h2 => AF.out g h2) (fun h2 => by omega))
  replace AN : Hid (Nw w.heap.size (.slice x0a p.nw x0c) (.slice y0a p.ng y0c) (.slice z0a p.nd z0c) (.slice t0a p.nu t0c) (.slice x1a L1.nw x1c) (.slice y1a L1.ng y1c) (.slice z1a L1.nd z1c) (.slice t1a L1.nu t1c)) := hide (fun g h => (hnw g h).elim (fun h2 => AN.out g h2) (fun h2 => .inr (by omega)))
  clear LQ mm hnw szT szW; clear m3
  refine sv (.tuple #[.agg #[.int .i64 L1.base, .slice x1a L1.nw x1c, .int .i64 L1.want, .slice y1a L1.ng y1c, .slice z1a L1.nd z1c, .slice t1a L1.nu t1c], .int .i64 C1]) ?_
  refine sv (.agg #[.int .i64 L1.base, .slice x1a L1.nw x1c, .int .i64 L1.want, .slice y1a L1.ng y1c, .slice z1a L1.nd z1c, .slice t1a L1.nu t1c]) ?_
  refine sv (.int .i64 C1) ?_
  refine ss6 (.int .i64 L1.base) (.slice x1a L1.nw x1c) (.int .i64 L1.want) (.slice y1a L1.ng y1c) (.slice z1a L1.nd z1c) (.slice t1a L1.nu t1c) bx0 fun V4 m4 bx0 => ?_
  replace HB := Xhb HB m4
  replace LN := hide (LN.out.mv m4 (fun g hg h => by have h : g = b0 := h; have := AF.out g hg; omega))
  replace bx1 := Xbb bx1 m4; clear m4
  refine sv (.int .i64 C1) ?_
  refine nt (hK _ _ ?_); clear hK K; refine sk fun K hK => rl ?_
  refine sl6 bx0 ?_
  have szT := lt_of_block bx1.out
  have szW := HB.out.size
  refine sw_call (by rfl) (by first | rfl | (go_simp; done)) (allCome_sl L1 x1a y1a z1a t1a x1c y1c z1c t1c base V4 LN.out (by omega) 3 (.inl rfl) f1 (L2, b2_) h2) ?_
  rintro e V5 ⟨wv, gv, dv, uv, rfl, mm, LQ, hnw⟩
  have m5 : Mv (Lrb (.slice x1a L1.nw x1c) (.slice y1a L1.ng y1c) (.slice z1a L1.nd z1c) (.slice t1a L1.nu t1c)) V4 V5 := mm
  refine ⟨_, rfl, ?_⟩
  refine pt ?_
  replace HB := hide (HB.out.step m5 (fun g hlt h => (AN.out g h).elim (fun h => h) (fun h2 => absurd h2 (by omega))))
  replace bx0 := hide (m5.box bx0.out (fun h => by have := AF.out _ h; omega))
  replace bx1 := hide (m5.box bx1.out (fun h => by have := AF.out _ h; omega))
  obtain ⟨x2a, x2c, rfl, _⟩ := LQ.wa.form
  obtain ⟨y2a, y2c, rfl, _⟩ := LQ.go.form
  obtain ⟨z2a, z2c, rfl, _⟩ := LQ.dn.form
  obtain ⟨t2a, t2c, rfl, _⟩ := LQ.up.form
  replace LN := hide LQ
  replace AF : Hid (∀ g, Lrb (.slice x2a L2.nw x2c) (.slice y2a L2.ng y2c) (.slice z2a L2.nd z2c) (.slice t2a L2.nu t2c) g → g ≠ b0 ∧ g ≠ b1) := hide (fun g h => (hnw g h).elim (fun h2 => AF.out g h2) (fun h2 => by omega))
  replace AN : Hid (Nw w.heap.size (.slice x0a p.nw x0c) (.slice y0a p.ng y0c) (.slice z0a p.nd z0c) (.slice t0a p.nu t0c) (.slice x2a L2.nw x2c) (.slice y2a L2.ng y2c) (.slice z2a L2.nd z2c) (.slice t2a L2.nu t2c)) := hide (fun g h => (hnw g h).elim (fun h2 => AN.out g h2) (fun h2 => .inr (by omega)))
  clear LQ mm hnw szT szW; clear m5
  refine sv (.tuple #[.agg #[.int .i64 L2.base, .slice x2a L2.nw x2c, .int .i64 L2.want, .slice y2a L2.ng y2c, .slice z2a L2.nd z2c, .slice t2a L2.nu t2c], .bool b2_]) ?_
  refine sv (.agg #[.int .i64 L2.base, .slice x2a L2.nw x2c, .int .i64 L2.want, .slice y2a L2.ng y2c, .slice z2a L2.nd z2c, .slice t2a L2.nu t2c]) ?_
  refine sv (.bool b2_) ?_
  refine ss6 (.int .i64 L2.base) (.slice x2a L2.nw x2c) (.int .i64 L2.want) (.slice y2a L2.ng y2c) (.slice z2a L2.nd z2c) (.slice t2a L2.nu t2c) bx0 fun V6 m6 bx0 => ?_
  replace HB := Xhb HB m6
  replace LN := hide (LN.out.mv m6 (fun g hg h => by have h : g = b0 := h; have := AF.out g hg; omega))
  replace bx1 := Xbb bx1 m6; clear m6
  refine sv (.bool b2_) ?_
  refine nt (hK _ _ ?_); clear hK K; refine sk fun K hK => rl ?_
  refine sl6 bx0 ?_
  have szT := lt_of_block bx1.out
  have szW := HB.out.size
  refine sw_call (by rfl) (by first | rfl | (go_simp; done)) (allCome_sl L2 x2a y2a z2a t2a x2c y2c z2c t2c base V6 LN.out (by omega) 4 (.inr rfl) f2 (L3, b3_) h3) ?_
  rintro e V7 ⟨wv, gv, dv, uv, rfl, mm, LQ, hnw⟩
  have m7 : Mv (Lrb (.slice x2a L2.nw x2c) (.slice y2a L2.ng y2c) (.slice z2a L2.nd z2c) (.slice t2a L2.nu t2c)) V6 V7 := mm
  refine ⟨_, rfl, ?_⟩
  refine pt ?_
  replace HB := hide (HB.out.step m7 (fun g hlt h => (AN.out g h).elim (fun h => h) (fun h2 => absurd h2 (by omega))))
  replace bx0 := hide (m7.box bx0.out (fun h => by have := AF.out _ h; omega))
  replace bx1 := hide (m7.box bx1.out (fun h => by have := AF.out _ h; omega))
  obtain ⟨x3a, x3c, rfl, _⟩ := LQ.wa.form
  obtain ⟨y3a, y3c, rfl, _⟩ := LQ.go.form
  obtain ⟨z3a, z3c, rfl, _⟩ := LQ.dn.form
  obtain ⟨t3a, t3c, rfl, _⟩ := LQ.up.form
  replace LN := hide LQ
  replace AF : Hid (∀ g, Lrb (.slice x3a L3.nw x3c) (.slice y3a L3.ng y3c) (.slice z3a L3.nd z3c) (.slice t3a L3.nu t3c) g → g ≠ b0 ∧ g ≠ b1) := hide (fun g h => (hnw g h).elim (fun h2 => AF.out g h2) (fun h2 => by omega))
  replace AN : Hid (Nw w.heap.size (.slice x0a p.nw x0c) (.slice y0a p.ng y0c) (.slice z0a p.nd z0c) (.slice t0a p.nu t0c) (.slice x3a L3.nw x3c) (.slice y3a L3.ng y3c) (.slice z3a L3.nd z3c) (.slice t3a L3.nu t3c)) := hide (fun g h => (hnw g h).elim (fun h2 => AN.out g h2) (fun h2 => .inr (by omega)))
  clear LQ mm hnw szT szW; clear m7
  refine sv (.tuple #[.agg #[.int .i64 L3.base, .slice x3a L3.nw x3c, .int .i64 L3.want, .slice y3a L3.ng y3c, .slice z3a L3.nd z3c, .slice t3a L3.nu t3c], .bool b3_]) ?_
  refine sv (.agg #[.int .i64 L3.base, .slice x3a L3.nw x3c, .int .i64 L3.want, .slice y3a L3.ng y3c, .slice z3a L3.nd z3c, .slice t3a L3.nu t3c]) ?_
  refine sv (.bool b3_) ?_
  refine ss6 (.int .i64 L3.base) (.slice x3a L3.nw x3c) (.int .i64 L3.want) (.slice y3a L3.ng y3c) (.slice z3a L3.nd z3c) (.slice t3a L3.nu t3c) bx0 fun V8 m8 bx0 => ?_
  replace HB := Xhb HB m8
  replace LN := hide (LN.out.mv m8 (fun g hg h => by have h : g = b0 := h; have := AF.out g hg; omega))
  replace bx1 := Xbb bx1 m8; clear m8
  refine sv (.bool b3_) ?_
  refine nt (hK _ _ ?_); clear hK K; refine sk fun K hK => rl ?_
  by_cases hC1 : ¬ C1 = 0
  · refine sl6 bx0 ?_
    refine sv (.int .i64 C1) ?_
    refine sg (.bool false) (h := by have h0 := hC1; go_simp) ?_
    refine sv (.bool false) ?_
    with_reducible refine sp ?_
    refine sg (.bool false) ?_
    refine sv (.bool false) ?_
    with_reducible refine sp ?_
    refine sg (.bool false) ?_
    refine ss6 (.int .i64 L3.base) (.slice x3a L3.nw x3c) (.int .i64 L3.want) (.slice y3a L3.ng y3c) (.slice z3a L3.nd z3c) (.slice t3a L3.nu t3c) bx1 fun V9 m9 bx1 => ?_
    replace HB := Xhb HB m9
    replace LN := hide (LN.out.mv m9 (fun g hg h => by have h : g = b1 := h; have := AF.out g hg; omega))
    clear m9
    refine sv (.bool false) ?_
    refine nt (hK _ _ ?_); clear hK K; refine wp_ret ?_
    replace hRD : (L3, false) = RD := by rw [← hRD]; simp [hC1]
    subst hRD
    try simp only [Exit.then, Exit.inBlock, ↓reduceIte, Nat.reduceEqDiff]
    obtain ⟨_, q1_0, q1_1, q1_2, q1_3, q1_4, q1_5⟩ := box6 bx1.out
    exact bodyPost_ret (v := .tuple #[.agg #[.int .i64 L3.base, .slice x3a L3.nw x3c, .int .i64 L3.want, .slice y3a L3.ng y3c, .slice z3a L3.nd z3c, .slice t3a L3.nu t3c], .bool false]) (by simp [results, Try.results51, go_sem, q1_0, q1_1, q1_2, q1_3, q1_4, q1_5]) rfl ⟨_, _, _, _, rfl, HB.out, LN.out, AN.out⟩
  have hC0 : C1 = 0 := by omega
  subst hC0
  clear hC1
  by_cases h_b2_ : b2_ = false
  · subst h_b2_
    refine sl6 bx0 ?_
    refine sv (.int .i64 0) ?_
    refine sg (.bool true) ?_
    refine sv (.bool true) ?_
    refine sv (.bool false) ?_
    refine sg (.bool false) ?_
    refine sv (.bool false) ?_
    with_reducible refine sp ?_
    refine sg (.bool false) ?_
    refine ss6 (.int .i64 L3.base) (.slice x3a L3.nw x3c) (.int .i64 L3.want) (.slice y3a L3.ng y3c) (.slice z3a L3.nd z3c) (.slice t3a L3.nu t3c) bx1 fun V10 m10 bx1 => ?_
    replace HB := Xhb HB m10
    replace LN := hide (LN.out.mv m10 (fun g hg h => by have h : g = b1 := h; have := AF.out g hg; omega))
    clear m10
    refine sv (.bool false) ?_
    refine nt (hK _ _ ?_); clear hK K; refine wp_ret ?_
    replace hRD : (L3, false) = RD := by rw [← hRD]; simp
    subst hRD
    try simp only [Exit.then, Exit.inBlock, ↓reduceIte, Nat.reduceEqDiff]
    obtain ⟨_, q1_0, q1_1, q1_2, q1_3, q1_4, q1_5⟩ := box6 bx1.out
    exact bodyPost_ret (v := .tuple #[.agg #[.int .i64 L3.base, .slice x3a L3.nw x3c, .int .i64 L3.want, .slice y3a L3.ng y3c, .slice z3a L3.nd z3c, .slice t3a L3.nu t3c], .bool false]) (by simp [results, Try.results51, go_sem, q1_0, q1_1, q1_2, q1_3, q1_4, q1_5]) rfl ⟨_, _, _, _, rfl, HB.out, LN.out, AN.out⟩
  replace h_b2_ : b2_ = true := by simpa using h_b2_
  subst h_b2_
  by_cases h_b3_ : b3_ = false
  · subst h_b3_
    refine sl6 bx0 ?_
    refine sv (.int .i64 0) ?_
    refine sg (.bool true) ?_
    refine sv (.bool true) ?_
    refine sv (.bool true) ?_
    refine sg (.bool true) ?_
    refine sv (.bool true) ?_
    refine sv (.bool false) ?_
    refine sg (.bool false) ?_
    refine ss6 (.int .i64 L3.base) (.slice x3a L3.nw x3c) (.int .i64 L3.want) (.slice y3a L3.ng y3c) (.slice z3a L3.nd z3c) (.slice t3a L3.nu t3c) bx1 fun V11 m11 bx1 => ?_
    replace HB := Xhb HB m11
    replace LN := hide (LN.out.mv m11 (fun g hg h => by have h : g = b1 := h; have := AF.out g hg; omega))
    clear m11
    refine sv (.bool false) ?_
    refine nt (hK _ _ ?_); clear hK K; refine wp_ret ?_
    replace hRD : (L3, false) = RD := by rw [← hRD]; simp
    subst hRD
    try simp only [Exit.then, Exit.inBlock, ↓reduceIte, Nat.reduceEqDiff]
    obtain ⟨_, q1_0, q1_1, q1_2, q1_3, q1_4, q1_5⟩ := box6 bx1.out
    exact bodyPost_ret (v := .tuple #[.agg #[.int .i64 L3.base, .slice x3a L3.nw x3c, .int .i64 L3.want, .slice y3a L3.ng y3c, .slice z3a L3.nd z3c, .slice t3a L3.nu t3c], .bool false]) (by simp [results, Try.results51, go_sem, q1_0, q1_1, q1_2, q1_3, q1_4, q1_5]) rfl ⟨_, _, _, _, rfl, HB.out, LN.out, AN.out⟩
  replace h_b3_ : b3_ = true := by simpa using h_b3_
  subst h_b3_
  refine sl6 bx0 ?_
  refine sv (.int .i64 0) ?_
  refine sg (.bool true) ?_
  refine sv (.bool true) ?_
  refine sv (.bool true) ?_
  refine sg (.bool true) ?_
  refine sv (.bool true) ?_
  refine sv (.bool true) ?_
  refine sg (.bool true) ?_
  refine ss6 (.int .i64 L3.base) (.slice x3a L3.nw x3c) (.int .i64 L3.want) (.slice y3a L3.ng y3c) (.slice z3a L3.nd z3c) (.slice t3a L3.nu t3c) bx1 fun V12 m12 bx1 => ?_
  replace HB := Xhb HB m12
  replace LN := hide (LN.out.mv m12 (fun g hg h => by have h : g = b1 := h; have := AF.out g hg; omega))
  clear m12
  refine sv (.bool true) ?_
  refine nt (hK _ _ ?_); clear hK K; refine wp_ret ?_
  replace hRD : (L3, true) = RD := by rw [← hRD]; simp
  subst hRD
  try simp only [Exit.then, Exit.inBlock, ↓reduceIte, Nat.reduceEqDiff]
  obtain ⟨_, q1_0, q1_1, q1_2, q1_3, q1_4, q1_5⟩ := box6 bx1.out
  exact bodyPost_ret (v := .tuple #[.agg #[.int .i64 L3.base, .slice x3a L3.nw x3c, .int .i64 L3.want, .slice y3a L3.ng y3c, .slice z3a L3.nd z3c, .slice t3a L3.nu t3c], .bool true]) (by simp [results, Try.results51, go_sem, q1_0, q1_1, q1_2, q1_3, q1_4, q1_5]) rfl ⟨_, _, _, _, rfl, HB.out, LN.out, AN.out⟩

end Go.Proofs.Ytnkocikbapbbmaa

/- impl.LinkCalmed (written by mkLcC.py) -/
namespace Go.Proofs.Ytnkocikbapbbmaa
open Go.RowKit
set_option linter.unusedVariables false
set_option linter.unusedSimpArgs false

abbrev CmP (w : World) (A : Lk × Bool) : Ending → World → Prop := fun e w' => ∃ wv gv dv uv, e = .returned (.tuple #[.agg (l6 A.1.base wv A.1.want gv dv uv), .bool A.2]) ∧ Lr w' w.heap.size wv gv dv uv A.1 ∧ Below w.heap.size w w'
theorem Lr.bare {w : World} {base : Nat} {wv gv dv uv : Value} {p : Lk} (h : Lr w base wv gv dv uv p) : Lr w base wv gv (.slice none 0 0) (.slice none 0 0) (bare p) :=
  ⟨h.wa, h.go, rg_nil _ _ _ _, rg_nil _ _ _ _, fun g e => ⟨(h.aw g e).1, by simp [rb], by simp [rb]⟩, fun g e => ⟨by simp [rb], by simp [rb]⟩, fun g e => absurd e (by simp [rb])⟩
def ms2 (b : Bool) (i : Nat) : Nat := if b then 21 - i else 0
theorem ms2_lt {b : Bool} {i : Nat} (h : i < 20) : ms2 b (i + 1) < ms2 true i := by
  unfold ms2
  cases b
  · simp; omega
  · simp; omega
theorem calN_nil {m : Nat} {q : Lk} (h : q.nw = 0) : calN m q = (q, true) := by
  cases m with
  | zero => simp [calN, h]
  | succ m => simp [calN, h]
theorem calN_end {q : Lk} (h : ¬ q.nw = 0) : calN 0 q = (q, false) := by simp [calN, h]
theorem calN_go {i : Nat} {q : Lk} (h : ¬ q.nw = 0) (hi : i < 20) : calN (20 - i) q = if (rnd q).2 then calN (20 - (i + 1)) (rnd q).1 else ((rnd q).1, false) := by
  rw [show 20 - i = (20 - (i + 1)) + 1 by omega]
  show (if q.nw = 0 then _ else _) = _
  rw [if_neg h]

set_option maxHeartbeats 8000000 in
set_option maxRecDepth 20000 in
theorem implCalmed_any (p : Lk) (wv0 gv0 dv0 uv0 : Value) (w : World) (ha : La w wv0 gv0 dv0 uv0 p) (hsm : Lsm 1048576 p) :
    Calls Try.prog 28 #[.agg (l6 p.base wv0 p.want gv0 dv0 uv0)] w (CmP w (cmL p)) := by
  have ha0 := hide ha
  clear ha
  cases hok : lkB p with
  | false =>
    rw [show cmL p = (zeL, false) from by simp [cmL, hok]]
    have HB : Hid (Mv nob w w) := hide (Mv.refl _ _)
    go_enter Try.func28, Try.ntmps28
    refine sk fun K hK => rl ?_
    refine sbp #[.int .i64 p.base, wv0, .int .i64 p.want, gv0, dv0, uv0] 30 fun V1 b0 hb0 m1 bx0 => ?_
    have o_0 : w.heap.size ≤ b0 := by omega
    replace HB := Xhn HB m1; clear hb0 m1
    refine sbp #[.int .i64 0, .slice none 0 0, .int .i64 0, .slice none 0 0, .slice none 0 0, .slice none 0 0] 30 fun V2 b1 hb1 m2 bx1 => ?_
    have o0_1 := Xlo bx0 hb1; replace HB := Xhn HB m2; replace bx0 := Xbn bx0 m2; clear hb1 m2
    refine sv (.bool false) ?_
    refine nt (hK _ _ ?_); clear hK K; refine sk fun K hK => sk fun K hK => rl ?_
    refine sl6 bx0 ?_
    refine sw_call (by rfl) (by first | rfl | (go_simp; done)) (implLinkOk_la false p wv0 gv0 dv0 uv0 V2 hok (ha0.out.below HB.out.below) hsm) ?_
    rintro e V3 ⟨rfl, hbV3⟩
    have m3 : Mv (nob) V2 V3 := Mv.of_below hbV3
    refine ⟨_, rfl, ?_⟩
    refine pt ?_
    replace HB := Xhn HB m3; replace bx1 := Xbn bx1 m3; clear hbV3; clear m3
    refine sg (.bool true) ?_
    refine nt (hK _ _ ?_); clear hK K; refine ct (sk fun K hK => rl ?_)
    refine sv (.agg #[.int .i64 0, .slice none 0 0, .int .i64 0, .slice none 0 0, .slice none 0 0, .slice none 0 0]) ?_
    refine ss6 (.int .i64 0) (.slice none 0 0) (.int .i64 0) (.slice none 0 0) (.slice none 0 0) (.slice none 0 0) bx1 fun V4 m4 bx1 => ?_
    replace HB := Xhb HB m4; clear m4
    refine sv (.bool false) ?_
    refine nt (hK _ _ ?_); clear hK K; refine wp_ret (then_ret ?_)
    try simp only [Exit.then, Exit.inBlock, ↓reduceIte, Nat.reduceEqDiff]
    obtain ⟨_, q1_0, q1_1, q1_2, q1_3, q1_4, q1_5⟩ := box6 bx1.out
    exact bodyPost_ret (v := .tuple #[.agg #[.int .i64 0, .slice none 0 0, .int .i64 0, .slice none 0 0, .slice none 0 0, .slice none 0 0], .bool false]) (by simp [results, Try.results28, go_sem, q1_0, q1_1, q1_2, q1_3, q1_4, q1_5]) rfl ⟨_, _, _, _, rfl, zeL_lr _ _, HB.out.below⟩
  | true =>
    have hf := lk_iff.1 hok
    obtain ⟨A, hA⟩ : ∃ A, calN 20 (bare p) = A := ⟨_, rfl⟩
    rw [show cmL p = A from by simp [cmL, hok, hA]]
    have HB : Hid (Mv nob w w) := hide (Mv.refl _ _)
    go_enter Try.func28, Try.ntmps28
    refine sk fun K hK => rl ?_
    refine sbp #[.int .i64 p.base, wv0, .int .i64 p.want, gv0, dv0, uv0] 30 fun V1 b0 hb0 m1 bx0 => ?_
    have o_0 : w.heap.size ≤ b0 := by omega
    replace HB := Xhn HB m1; clear hb0 m1
    refine sbp #[.int .i64 0, .slice none 0 0, .int .i64 0, .slice none 0 0, .slice none 0 0, .slice none 0 0] 30 fun V2 b1 hb1 m2 bx1 => ?_
    have o0_1 := Xlo bx0 hb1; replace HB := Xhn HB m2; replace bx0 := Xbn bx0 m2; clear hb1 m2
    refine sv (.bool false) ?_
    refine nt (hK _ _ ?_); clear hK K; refine sk fun K hK => sk fun K hK => rl ?_
    refine sl6 bx0 ?_
    refine sw_call (by rfl) (by first | rfl | (go_simp; done)) (implLinkOk_la true p wv0 gv0 dv0 uv0 V2 hok (ha0.out.below HB.out.below) hsm) ?_
    rintro e V3 ⟨rfl, hbV3⟩
    have m3 : Mv (nob) V2 V3 := Mv.of_below hbV3
    refine ⟨_, rfl, ?_⟩
    refine pt ?_
    replace HB := Xhn HB m3; replace bx0 := Xbn bx0 m3; replace bx1 := Xbn bx1 m3; clear hbV3; clear m3
    refine sg (.bool false) ?_
    refine nt (hK _ _ ?_); clear hK K; refine cf (wp_skip (then_normal (hK _ _ ?_))); clear hK K; refine sk fun K hK => rl ?_
    refine sl6 bx0 ?_
    have szT := lt_of_block bx1.out
    have szW := HB.out.size
    refine sw_call (by rfl) (by first | rfl | (go_simp; done)) (linkCopy_any wv0 gv0 dv0 uv0 p V3 (ha0.out.below HB.out.below).lv hsm ha0.out.pl4) ?_
    rintro e V4 ⟨wv, gv, dv, uv, rfl, LQ, hbV4⟩
    have m4 : Mv (nob) V3 V4 := Mv.of_below hbV4
    refine ⟨_, rfl, ?_⟩
    refine pt ?_
    replace HB := Xhn HB m4; replace bx0 := Xbn bx0 m4; replace bx1 := Xbn bx1 m4
    obtain ⟨x0a, x0c, rfl, _⟩ := LQ.wa.form
    obtain ⟨y0a, y0c, rfl, _⟩ := LQ.go.form
    obtain ⟨z0a, z0c, rfl, _⟩ := LQ.dn.form
    obtain ⟨t0a, t0c, rfl, _⟩ := LQ.up.form
    have LN := hide (LQ.lower szW)
    have A2 : Hid (∀ g, Lrb (.slice x0a p.nw x0c) (.slice y0a p.ng y0c) (.slice z0a p.nd z0c) (.slice t0a p.nu t0c) g → g ≠ b0 ∧ g ≠ b1) := hide (fun g h => by have := (LQ.lt g h).1; omega)
    clear LQ hbV4 szT szW; clear m4
    refine sbp #[.int .i64 0, .slice none 0 0, .int .i64 0, .slice none 0 0, .slice none 0 0, .slice none 0 0] 30 fun V5 b2 hb2 m5 bx2 => ?_
    have o0_2 := Xlo bx0 hb2; have o1_2 := Xlo bx1 hb2
    have A3 : Hid (∀ g, Lrb (.slice x0a p.nw x0c) (.slice y0a p.ng y0c) (.slice z0a p.nd z0c) (.slice t0a p.nu t0c) g → g ≠ b0 ∧ g ≠ b1 ∧ g ≠ b2) := hide (fun g h => by have h2 := (LN.out.lt g h).2; have := A2.out g h; omega)
    replace HB := Xhn HB m5; replace bx0 := Xbn bx0 m5; replace bx1 := Xbn bx1 m5
    replace LN := hide (LN.out.mv m5 (fun _ _ h => h))
    clear hb2 m5
    refine ss6 (.int .i64 p.base) (.slice x0a p.nw x0c) (.int .i64 p.want) (.slice y0a p.ng y0c) (.slice z0a p.nd z0c) (.slice t0a p.nu t0c) bx2 fun V6 m6 bx2 => ?_
    replace HB := Xhb HB m6; replace bx0 := Xbb bx0 m6; replace bx1 := Xbb bx1 m6
    replace LN := hide (LN.out.mv m6 (fun g hg h => by have h : g = b2 := h; have := A3.out g hg; omega))
    clear m6
    refine nt (hK _ _ ?_); clear hK K; refine sk fun K hK => rl ?_
    refine sv (.pointer (some ⟨b2, 4, none⟩)) ?_
    refine ss 4 (.slice none 0 0) bx2 fun V7 m7 bx2 => ?_
    replace HB := Xhb HB m7; replace bx0 := Xbb bx0 m7; replace bx1 := Xbb bx1 m7
    replace LN := hide (LN.out.mv m7 (fun g hg h => by have h : g = b2 := h; have := A3.out g hg; omega))
    clear m7
    refine sv (.pointer (some ⟨b2, 5, none⟩)) ?_
    refine ss 5 (.slice none 0 0) bx2 fun V8 m8 bx2 => ?_
    replace HB := Xhb HB m8; replace bx0 := Xbb bx0 m8; replace bx1 := Xbb bx1 m8
    replace LN := hide (LN.out.mv m8 (fun g hg h => by have h : g = b2 := h; have := A3.out g hg; omega))
    clear m8
    refine nt (hK _ _ ?_); clear hK K; refine sk fun K hK => rl ?_
    refine sv (.bool true) ?_
    refine nt (hK _ _ ?_); clear hK K; refine sk fun K hK => sk fun K hK => rl ?_
    refine sv (.int .i64 0) ?_
    refine nt (hK _ _ ?_); clear hK K; refine wp_block ?_
    have LB := hide LN.out.bare
    have AF : Hid (∀ g, Lrb (.slice x0a p.nw x0c) (.slice y0a p.ng y0c) (.slice none 0 0) (.slice none 0 0) g → g ≠ b0 ∧ g ≠ b1 ∧ g ≠ b2) := hide (fun g h => A3.out g (h.elim .inl (fun h => h.elim (fun h => .inr (.inl h)) (fun h => by rcases h with h | h <;> exact absurd h (by simp [rb])))))
    have QF : Hid (Lf (bare p) ∧ 0 ≤ 20 ∧ (true = true → calN (20 - 0) (bare p) = A) ∧ (true = false → (bare p, false) = A)) := hide ⟨bare_lf hf, by decide, fun _ => hA, fun h => by cases h⟩
    clear hA A2 A3
    replace LN := LB
    clear LB
    refine wp_loop_ghost (fun m a' w' => ∃ (q : Lk) (okb : Bool) (i : Nat) (xa : Option Addr) (xc : Nat) (ya : Option Addr) (yc : Nat) (za : Option Addr) (zc : Nat) (ta : Option Addr) (tc : Nat) (u15 : Value) (u16 : Value) (u17 : Value) (u18 : Value) (u19 : Value) (u20 : Value) (u21 : Value) (u22 : Value) (u23 : Value) (u24 : Value) (u25 : Value) (u26 : Value) (u27 : Value) (u28 : Value) (u29 : Value) (u30 : Value) (u31 : Value) (u32 : Value), m = ms2 okb i ∧ a' = ⟨#[.agg #[.int .i64 p.base, wv0, .int .i64 p.want, gv0, dv0, uv0], .pointer (some ⟨b0, 0, none⟩), .pointer (some ⟨b1, 0, none⟩), .bool false, .pointer (some ⟨b2, 0, none⟩), .bool okb, .int .i64 ((i : Int)), .agg #[.int .i64 p.base, wv0, .int .i64 p.want, gv0, dv0, uv0], .bool true, .bool false, undef, .agg #[.int .i64 p.base, wv0, .int .i64 p.want, gv0, dv0, uv0], .agg #[.int .i64 p.base, .slice x0a p.nw x0c, .int .i64 p.want, .slice y0a p.ng y0c, .slice z0a p.nd z0c, .slice t0a p.nu t0c], .pointer (some ⟨b2, 4, none⟩), .pointer (some ⟨b2, 5, none⟩), u15, u16, u17, u18, u19, u20, u21, u22, u23, u24, u25, u26, u27, u28, u29, u30, u31, u32, undef, undef, undef, undef, undef, undef, undef, undef], []⟩ ∧ (Mv nob w w') ∧ (Lr w' w.heap.size (.slice xa q.nw xc) (.slice ya q.ng yc) (.slice za q.nd zc) (.slice ta q.nu tc) q) ∧ (∀ g, Lrb (.slice xa q.nw xc) (.slice ya q.ng yc) (.slice za q.nd zc) (.slice ta q.nu tc) g → g ≠ b0 ∧ g ≠ b1 ∧ g ≠ b2) ∧ (Lf q ∧ i ≤ 20 ∧ (okb = true → calN (20 - i) q = A) ∧ (okb = false → (q, false) = A)) ∧ (w'.heap[b0]? = some (.cells #[.int .i64 p.base, wv0, .int .i64 p.want, gv0, dv0, uv0] 30 (0, 0))) ∧ (w'.heap[b1]? = some (.cells #[.int .i64 0, .slice none 0 0, .int .i64 0, .slice none 0 0, .slice none 0 0, .slice none 0 0] 30 (0, 0))) ∧ (w'.heap[b2]? = some (.cells #[.int .i64 q.base, .slice xa q.nw xc, .int .i64 q.want, .slice ya q.ng yc, .slice za q.nd zc, .slice ta q.nu tc] 30 (0, 0)))) (ms2 true 0) ⟨bare p, true, 0, x0a, x0c, y0a, y0c, none, 0, none, 0, _, _, _, _, _, _, _, _, _, _, _, _, _, _, _, _, _, _, rfl, rfl, (HB.out), (LN.out), (AF.out), (QF.out), (bx0.out), (bx1.out), (bx2.out)⟩ (fun m a' VL1 hI => ?_)
    obtain ⟨q, okb, i, xa, xc, ya, yc, za, zc, ta, tc, u15, u16, u17, u18, u19, u20, u21, u22, u23, u24, u25, u26, u27, u28, u29, u30, u31, u32, rfl, rfl, i_HB, i_LN, i_AF, i_QF, i_bx0, i_bx1, i_bx2⟩ := hI
    clear HB bx0 bx1 bx2 LN
    have HB := hide i_HB
    clear i_HB
    have LN := hide i_LN
    clear i_LN
    have AF := hide i_AF
    clear i_AF
    have QF := hide i_QF
    clear i_QF
    have bx0 := hide i_bx0
    clear i_bx0
    have bx1 := hide i_bx1
    clear i_bx1
    have bx2 := hide i_bx2
    clear i_bx2
    refine sk fun K hK => sk fun K hK => rl ?_
    have hi20 := QF.out.2.1
    by_cases h_okb : okb = false
    · subst h_okb
      refine sv (.bool false) ?_
      refine sv (.bool false) ?_
      with_reducible refine sp ?_
      with_reducible refine sp ?_
      with_reducible refine sp ?_
      with_reducible refine sp ?_
      refine sg (.bool false) ?_
      refine sv (.bool false) ?_
      with_reducible refine sp ?_
      with_reducible refine sp ?_
      refine sg (.bool false) ?_
      refine nt (hK _ _ ?_); clear hK K; refine cf ?_; refine wp_exit ?_; refine then_exit ?_; refine then_exit ?_; refine inb_here rfl ?_; refine then_normal ?_; clear hK K; refine hK _ _ ?_; clear hK K; refine sk fun K hK => ?_
      have LTz : ∀ g, g = b1 → b0 < g ∧ g < b2 := fun g h => by omega
      refine wp_region_but (z := 999) (S := fun w' => Mv (fun g => g = b1) VL1.drew w') (by kernel_rfl) (Mv.refl _ _) (fun hS => ?_)
      have m9 : Mv nob VL1 VL1.drew := Mv.drew _
      obtain ⟨V9, hV9⟩ : ∃ V, VL1.drew = V := ⟨_, rfl⟩
      rw [hV9] at hS m9 ⊢
      clear hV9; replace HB := Xhn HB m9; replace bx0 := Xbn bx0 m9; replace bx1 := Xbn bx1 m9; replace bx2 := Xbn bx2 m9
      replace LN := hide (LN.out.mv m9 (fun _ _ h => h))
      clear m9; have rbx0 := bx0; have rbx1 := bx1; have rbx2 := bx2
      refine tk 0 (.agg #[.int .i64 q.base, .slice xa q.nw xc, .int .i64 q.want, .slice ya q.ng yc, .slice za q.nd zc, .slice ta q.nu tc]) rfl (fun w' hSw => by (try dsimp only at hSw); have z0 := cell_box 0 (hSw.box rbx2.out (fun h => by have := LTz _ h; omega)) rfl; have z1 := cell_box 1 (hSw.box rbx2.out (fun h => by have := LTz _ h; omega)) rfl; have z2 := cell_box 2 (hSw.box rbx2.out (fun h => by have := LTz _ h; omega)) rfl; have z3 := cell_box 3 (hSw.box rbx2.out (fun h => by have := LTz _ h; omega)) rfl; have z4 := cell_box 4 (hSw.box rbx2.out (fun h => by have := LTz _ h; omega)) rfl; have z5 := cell_box 5 (hSw.box rbx2.out (fun h => by have := LTz _ h; omega)) rfl; go_simp) ?_
      refine tk0 1 (.bool false) rfl ?_
      refine tk0 2 (.bool false) rfl ?_
      refine tu 3 rfl ?_
      refine tu 4 rfl ?_
      refine tu 5 rfl ?_
      refine tu 6 rfl ?_
      refine tk0 7 (.bool false) rfl ?_
      refine kd_skipI (i := 8) (w' := (((((V9.setCell ⟨b1, 0, none⟩ (.int .i64 q.base)).setCell ⟨b1, 1, none⟩ (.slice xa q.nw xc)).setCell ⟨b1, 2, none⟩ (.int .i64 q.want)).setCell ⟨b1, 3, none⟩ (.slice ya q.ng yc)).setCell ⟨b1, 4, none⟩ (.slice za q.nd zc)).setCell ⟨b1, 5, none⟩ (.slice ta q.nu tc)) (fun V => Mv (fun g => g = b1) V9 V ∧ V.heap[b1]? = some (.cells #[.int .i64 q.base, .slice xa q.nw xc, .int .i64 q.want, .slice ya q.ng yc, .slice za q.nd zc, .slice ta q.nu tc] 30 (0, 0))) (by kernel_rfl) rfl (by rfl) (by have fr := fun i => frozen_of_row _ _ i _ _ bx1.out; have z0 := cell_box 0 bx1.out rfl; have z1 := cell_box 1 bx1.out rfl; have z2 := cell_box 2 bx1.out rfl; have z3 := cell_box 3 bx1.out rfl; have z4 := cell_box 4 bx1.out rfl; have z5 := cell_box 5 bx1.out rfl; go_simp) ⟨Mv.set (Mv.set (Mv.set (Mv.set (Mv.set (Mv.set (Mv.refl _ _) _ _) _ _) _ _) _ _) _ _) _ _, (heap_setCell_same _ _ 5 _ _ _ (heap_setCell_same _ _ 4 _ _ _ (heap_setCell_same _ _ 3 _ _ _ (heap_setCell_same _ _ 2 _ _ _ (heap_setCell_same _ _ 1 _ _ _ (heap_setCell_same _ _ 0 _ _ _ (bx1.out))))))).trans rfl⟩ (fun V hI _ => hS.step hI.1 (fun g hg h => by first | exact h | (have h : g = b1 := h; exfalso; omega))) ?_
      rintro V10 ⟨m10, nxV10⟩
      refine ptk ?_
      replace HB := Xhb HB m10
      replace LN := hide (LN.out.mv m10 (fun g hg h => by have h : g = b1 := h; have := AF.out g hg; omega))
      replace bx1 := hide nxV10
      clear nxV10
      replace hS := hS.step m10 (fun g hg h => by first | exact h | (have h : g = b1 := h; exfalso; omega))
      clear m10
      refine tk0 9 (.bool false) rfl ?_
      refine wpAnyK_done (by kernel_rfl) ?_
      clear hS rbx0 rbx1 rbx2
      refine then_normal (hK _ _ ?_); clear hK K; refine wp_ret ?_
      have hA : (q, false) = A := QF.out.2.2.2 rfl
      subst hA
      try simp only [Exit.then, Exit.inBlock, ↓reduceIte, Nat.reduceEqDiff]
      obtain ⟨_, q1_0, q1_1, q1_2, q1_3, q1_4, q1_5⟩ := box6 bx1.out
      exact bodyPost_ret (v := .tuple #[.agg #[.int .i64 q.base, .slice xa q.nw xc, .int .i64 q.want, .slice ya q.ng yc, .slice za q.nd zc, .slice ta q.nu tc], .bool false]) (by simp [results, Try.results28, go_sem, q1_0, q1_1, q1_2, q1_3, q1_4, q1_5]) rfl ⟨_, _, _, _, rfl, LN.out, HB.out.below⟩
    replace h_okb : okb = true := by simpa using h_okb
    subst h_okb
    by_cases hn : q.nw = 0
    · refine sv (.bool true) ?_
      refine sv (.bool true) ?_
      refine sv (.pointer (some ⟨b2, 1, none⟩)) ?_
      refine sl 1 bx2 ?_
      refine sg (.int .i64 (q.nw : Int)) ?_
      refine sg (.bool false) (h := by have q1 : decide (0 < (q.nw : Int)) = false := decide_eq_false (by omega); have q2 : decide (0 < q.nw) = false := decide_eq_false (by omega); go_simp) ?_
      refine sg (.bool false) ?_
      refine sv (.bool false) ?_
      with_reducible refine sp ?_
      with_reducible refine sp ?_
      refine sg (.bool false) ?_
      refine nt (hK _ _ ?_); clear hK K; refine cf ?_; refine wp_exit ?_; refine then_exit ?_; refine then_exit ?_; refine inb_here rfl ?_; refine then_normal ?_; clear hK K; refine hK _ _ ?_; clear hK K; refine sk fun K hK => ?_
      have LTz : ∀ g, g = b1 → b0 < g ∧ g < b2 := fun g h => by omega
      refine wp_region_but (z := 999) (S := fun w' => Mv (fun g => g = b1) VL1.drew w') (by kernel_rfl) (Mv.refl _ _) (fun hS => ?_)
      have m11 : Mv nob VL1 VL1.drew := Mv.drew _
      obtain ⟨V11, hV11⟩ : ∃ V, VL1.drew = V := ⟨_, rfl⟩
      rw [hV11] at hS m11 ⊢
      clear hV11; replace HB := Xhn HB m11; replace bx0 := Xbn bx0 m11; replace bx1 := Xbn bx1 m11; replace bx2 := Xbn bx2 m11
      replace LN := hide (LN.out.mv m11 (fun _ _ h => h))
      clear m11; have rbx0 := bx0; have rbx1 := bx1; have rbx2 := bx2
      refine tk 0 (.agg #[.int .i64 q.base, .slice xa q.nw xc, .int .i64 q.want, .slice ya q.ng yc, .slice za q.nd zc, .slice ta q.nu tc]) rfl (fun w' hSw => by (try dsimp only at hSw); have z0 := cell_box 0 (hSw.box rbx2.out (fun h => by have := LTz _ h; omega)) rfl; have z1 := cell_box 1 (hSw.box rbx2.out (fun h => by have := LTz _ h; omega)) rfl; have z2 := cell_box 2 (hSw.box rbx2.out (fun h => by have := LTz _ h; omega)) rfl; have z3 := cell_box 3 (hSw.box rbx2.out (fun h => by have := LTz _ h; omega)) rfl; have z4 := cell_box 4 (hSw.box rbx2.out (fun h => by have := LTz _ h; omega)) rfl; have z5 := cell_box 5 (hSw.box rbx2.out (fun h => by have := LTz _ h; omega)) rfl; go_simp) ?_
      refine tk0 1 (.bool true) rfl ?_
      refine tk0 2 (.bool true) rfl ?_
      refine tk0 3 (.pointer (some ⟨b2, 1, none⟩)) rfl ?_
      refine tk 4 (.slice xa q.nw xc) rfl (fun w' hSw => by (try dsimp only at hSw); have z0 := cell_box 1 (hSw.box rbx2.out (fun h => by have := LTz _ h; omega)) rfl; go_simp) ?_
      refine tk0 5 (.int .i64 (q.nw : Int)) rfl ?_
      refine tk 6 (.bool true) rfl (fun w' hSw => by (try dsimp only at hSw); have q1 := hn; have q2 : ((q.nw : Int) == 0) = true := (by simp [hn]); have q3 : (q.nw == 0) = true := (by simp [hn]); go_simp) ?_
      refine tk0 7 (.bool true) rfl ?_
      refine kd_skipI (i := 8) (w' := (((((V11.setCell ⟨b1, 0, none⟩ (.int .i64 q.base)).setCell ⟨b1, 1, none⟩ (.slice xa q.nw xc)).setCell ⟨b1, 2, none⟩ (.int .i64 q.want)).setCell ⟨b1, 3, none⟩ (.slice ya q.ng yc)).setCell ⟨b1, 4, none⟩ (.slice za q.nd zc)).setCell ⟨b1, 5, none⟩ (.slice ta q.nu tc)) (fun V => Mv (fun g => g = b1) V11 V ∧ V.heap[b1]? = some (.cells #[.int .i64 q.base, .slice xa q.nw xc, .int .i64 q.want, .slice ya q.ng yc, .slice za q.nd zc, .slice ta q.nu tc] 30 (0, 0))) (by kernel_rfl) rfl (by rfl) (by have fr := fun i => frozen_of_row _ _ i _ _ bx1.out; have z0 := cell_box 0 bx1.out rfl; have z1 := cell_box 1 bx1.out rfl; have z2 := cell_box 2 bx1.out rfl; have z3 := cell_box 3 bx1.out rfl; have z4 := cell_box 4 bx1.out rfl; have z5 := cell_box 5 bx1.out rfl; go_simp) ⟨Mv.set (Mv.set (Mv.set (Mv.set (Mv.set (Mv.set (Mv.refl _ _) _ _) _ _) _ _) _ _) _ _) _ _, (heap_setCell_same _ _ 5 _ _ _ (heap_setCell_same _ _ 4 _ _ _ (heap_setCell_same _ _ 3 _ _ _ (heap_setCell_same _ _ 2 _ _ _ (heap_setCell_same _ _ 1 _ _ _ (heap_setCell_same _ _ 0 _ _ _ (bx1.out))))))).trans rfl⟩ (fun V hI _ => hS.step hI.1 (fun g hg h => by first | exact h | (have h : g = b1 := h; exfalso; omega))) ?_
      rintro V12 ⟨m12, nxV12⟩
      refine ptk ?_
      replace HB := Xhb HB m12
      replace LN := hide (LN.out.mv m12 (fun g hg h => by have h : g = b1 := h; have := AF.out g hg; omega))
      replace bx1 := hide nxV12
      clear nxV12
      replace hS := hS.step m12 (fun g hg h => by first | exact h | (have h : g = b1 := h; exfalso; omega))
      clear m12
      refine tk0 9 (.bool true) rfl ?_
      refine wpAnyK_done (by kernel_rfl) ?_
      clear hS rbx0 rbx1 rbx2
      refine then_normal (hK _ _ ?_); clear hK K; refine wp_ret ?_
      have hA : (q, true) = A := (calN_nil hn).symm.trans (QF.out.2.2.1 rfl)
      subst hA
      try simp only [Exit.then, Exit.inBlock, ↓reduceIte, Nat.reduceEqDiff]
      obtain ⟨_, q1_0, q1_1, q1_2, q1_3, q1_4, q1_5⟩ := box6 bx1.out
      exact bodyPost_ret (v := .tuple #[.agg #[.int .i64 q.base, .slice xa q.nw xc, .int .i64 q.want, .slice ya q.ng yc, .slice za q.nd zc, .slice ta q.nu tc], .bool true]) (by simp [results, Try.results28, go_sem, q1_0, q1_1, q1_2, q1_3, q1_4, q1_5]) rfl ⟨_, _, _, _, rfl, LN.out, HB.out.below⟩
    by_cases hl : ¬ i < 20
    · have hi : i = 20 := by omega
      refine sv (.bool true) ?_
      refine sv (.bool true) ?_
      refine sv (.pointer (some ⟨b2, 1, none⟩)) ?_
      refine sl 1 bx2 ?_
      refine sg (.int .i64 (q.nw : Int)) ?_
      refine sg (.bool true) (h := by have q1 : decide (0 < (q.nw : Int)) = true := decide_eq_true (by omega); have q2 : decide (0 < q.nw) = true := decide_eq_true (by omega); go_simp) ?_
      refine sg (.bool true) ?_
      refine sv (.bool true) ?_
      refine sv (.int .i64 ((i : Int))) ?_
      refine sg (.bool false) (h := by have q1 : decide ((i : Int) < 20) = false := decide_eq_false (by omega); have q2 : decide (i < 20) = false := decide_eq_false (by omega); go_simp) ?_
      refine sg (.bool false) ?_
      refine nt (hK _ _ ?_); clear hK K; refine cf ?_; refine wp_exit ?_; refine then_exit ?_; refine then_exit ?_; refine inb_here rfl ?_; refine then_normal ?_; clear hK K; refine hK _ _ ?_; clear hK K; refine sk fun K hK => ?_
      have LTz : ∀ g, g = b1 → b0 < g ∧ g < b2 := fun g h => by omega
      refine wp_region_but (z := 999) (S := fun w' => Mv (fun g => g = b1) VL1.drew w') (by kernel_rfl) (Mv.refl _ _) (fun hS => ?_)
      have m13 : Mv nob VL1 VL1.drew := Mv.drew _
      obtain ⟨V13, hV13⟩ : ∃ V, VL1.drew = V := ⟨_, rfl⟩
      rw [hV13] at hS m13 ⊢
      clear hV13; replace HB := Xhn HB m13; replace bx0 := Xbn bx0 m13; replace bx1 := Xbn bx1 m13; replace bx2 := Xbn bx2 m13
      replace LN := hide (LN.out.mv m13 (fun _ _ h => h))
      clear m13; have rbx0 := bx0; have rbx1 := bx1; have rbx2 := bx2
      refine tk 0 (.agg #[.int .i64 q.base, .slice xa q.nw xc, .int .i64 q.want, .slice ya q.ng yc, .slice za q.nd zc, .slice ta q.nu tc]) rfl (fun w' hSw => by (try dsimp only at hSw); have z0 := cell_box 0 (hSw.box rbx2.out (fun h => by have := LTz _ h; omega)) rfl; have z1 := cell_box 1 (hSw.box rbx2.out (fun h => by have := LTz _ h; omega)) rfl; have z2 := cell_box 2 (hSw.box rbx2.out (fun h => by have := LTz _ h; omega)) rfl; have z3 := cell_box 3 (hSw.box rbx2.out (fun h => by have := LTz _ h; omega)) rfl; have z4 := cell_box 4 (hSw.box rbx2.out (fun h => by have := LTz _ h; omega)) rfl; have z5 := cell_box 5 (hSw.box rbx2.out (fun h => by have := LTz _ h; omega)) rfl; go_simp) ?_
      refine tk0 1 (.bool true) rfl ?_
      refine tk0 2 (.bool true) rfl ?_
      refine tk0 3 (.pointer (some ⟨b2, 1, none⟩)) rfl ?_
      refine tk 4 (.slice xa q.nw xc) rfl (fun w' hSw => by (try dsimp only at hSw); have z0 := cell_box 1 (hSw.box rbx2.out (fun h => by have := LTz _ h; omega)) rfl; go_simp) ?_
      refine tk0 5 (.int .i64 (q.nw : Int)) rfl ?_
      refine tk 6 (.bool false) rfl (fun w' hSw => by (try dsimp only at hSw); have q1 := hn; have q2 : ((q.nw : Int) == 0) = false := (by simp [hn]); have q3 : (q.nw == 0) = false := (by simp [hn]); go_simp) ?_
      refine tk0 7 (.bool false) rfl ?_
      refine kd_skipI (i := 8) (w' := (((((V13.setCell ⟨b1, 0, none⟩ (.int .i64 q.base)).setCell ⟨b1, 1, none⟩ (.slice xa q.nw xc)).setCell ⟨b1, 2, none⟩ (.int .i64 q.want)).setCell ⟨b1, 3, none⟩ (.slice ya q.ng yc)).setCell ⟨b1, 4, none⟩ (.slice za q.nd zc)).setCell ⟨b1, 5, none⟩ (.slice ta q.nu tc)) (fun V => Mv (fun g => g = b1) V13 V ∧ V.heap[b1]? = some (.cells #[.int .i64 q.base, .slice xa q.nw xc, .int .i64 q.want, .slice ya q.ng yc, .slice za q.nd zc, .slice ta q.nu tc] 30 (0, 0))) (by kernel_rfl) rfl (by rfl) (by have fr := fun i => frozen_of_row _ _ i _ _ bx1.out; have z0 := cell_box 0 bx1.out rfl; have z1 := cell_box 1 bx1.out rfl; have z2 := cell_box 2 bx1.out rfl; have z3 := cell_box 3 bx1.out rfl; have z4 := cell_box 4 bx1.out rfl; have z5 := cell_box 5 bx1.out rfl; go_simp) ⟨Mv.set (Mv.set (Mv.set (Mv.set (Mv.set (Mv.set (Mv.refl _ _) _ _) _ _) _ _) _ _) _ _) _ _, (heap_setCell_same _ _ 5 _ _ _ (heap_setCell_same _ _ 4 _ _ _ (heap_setCell_same _ _ 3 _ _ _ (heap_setCell_same _ _ 2 _ _ _ (heap_setCell_same _ _ 1 _ _ _ (heap_setCell_same _ _ 0 _ _ _ (bx1.out))))))).trans rfl⟩ (fun V hI _ => hS.step hI.1 (fun g hg h => by first | exact h | (have h : g = b1 := h; exfalso; omega))) ?_
      rintro V14 ⟨m14, nxV14⟩
      refine ptk ?_
      replace HB := Xhb HB m14
      replace LN := hide (LN.out.mv m14 (fun g hg h => by have h : g = b1 := h; have := AF.out g hg; omega))
      replace bx1 := hide nxV14
      clear nxV14
      replace hS := hS.step m14 (fun g hg h => by first | exact h | (have h : g = b1 := h; exfalso; omega))
      clear m14
      refine tk0 9 (.bool false) rfl ?_
      refine wpAnyK_done (by kernel_rfl) ?_
      clear hS rbx0 rbx1 rbx2
      refine then_normal (hK _ _ ?_); clear hK K; refine wp_ret ?_
      have hA : (q, false) = A := by rw [← calN_end hn]; have := QF.out.2.2.1 rfl; rwa [hi] at this
      subst hA
      try simp only [Exit.then, Exit.inBlock, ↓reduceIte, Nat.reduceEqDiff]
      obtain ⟨_, q1_0, q1_1, q1_2, q1_3, q1_4, q1_5⟩ := box6 bx1.out
      exact bodyPost_ret (v := .tuple #[.agg #[.int .i64 q.base, .slice xa q.nw xc, .int .i64 q.want, .slice ya q.ng yc, .slice za q.nd zc, .slice ta q.nu tc], .bool false]) (by simp [results, Try.results28, go_sem, q1_0, q1_1, q1_2, q1_3, q1_4, q1_5]) rfl ⟨_, _, _, _, rfl, LN.out, HB.out.below⟩
    replace hl : i < 20 := by omega
    refine sv (.bool true) ?_
    refine sv (.bool true) ?_
    refine sv (.pointer (some ⟨b2, 1, none⟩)) ?_
    refine sl 1 bx2 ?_
    refine sg (.int .i64 (q.nw : Int)) ?_
    refine sg (.bool true) (h := by have q1 : decide (0 < (q.nw : Int)) = true := decide_eq_true (by omega); have q2 : decide (0 < q.nw) = true := decide_eq_true (by omega); go_simp) ?_
    refine sg (.bool true) ?_
    refine sv (.bool true) ?_
    refine sv (.int .i64 ((i : Int))) ?_
    refine sg (.bool true) (h := by have q1 : decide ((i : Int) < 20) = true := decide_eq_true (by omega); have q2 : decide (i < 20) = true := decide_eq_true (by omega); go_simp) ?_
    refine sg (.bool true) ?_
    refine nt (hK _ _ ?_); clear hK K; refine ct (wp_skip (then_normal (hK _ _ ?_))); clear hK K; refine sk fun K hK => wp_block (rl ?_)
    obtain ⟨L, rb_, hR⟩ : ∃ L b, rnd q = (L, b) := ⟨_, _, rfl⟩
    have hLf := rnd_lf QF.out.1
    rw [hR] at hLf
    have hgo := (calN_go hn hl).symm.trans (QF.out.2.2.1 rfl)
    rw [hR] at hgo
    have HG := hide (And.intro hLf hgo)
    clear hLf hgo
    refine sl6 bx2 ?_
    have szT := lt_of_block bx2.out
    have szW := HB.out.size
    refine sw_call (by rfl) (by first | rfl | (go_simp; done)) (linkRound_sl q xa ya za ta xc yc zc tc w.heap.size VL1 LN.out szW QF.out.1 (L, rb_) hR) ?_
    rintro e V15 ⟨wv, gv, dv, uv, rfl, mm, LQ, hnw⟩
    have m15 : Mv (Lrb (.slice xa q.nw xc) (.slice ya q.ng yc) (.slice za q.nd zc) (.slice ta q.nu tc)) VL1 V15 := mm
    refine ⟨_, rfl, ?_⟩
    refine pt ?_
    replace HB := hide (HB.out.step m15 (fun g hlt h => by have := (LN.out.lt g h).1; exfalso; omega))
    replace bx0 := hide (m15.box bx0.out (fun h => by have := AF.out _ h; omega))
    replace bx1 := hide (m15.box bx1.out (fun h => by have := AF.out _ h; omega))
    replace bx2 := hide (m15.box bx2.out (fun h => by have := AF.out _ h; omega))
    obtain ⟨x2a, x2c, rfl, _⟩ := LQ.wa.form
    obtain ⟨y2a, y2c, rfl, _⟩ := LQ.go.form
    obtain ⟨z2a, z2c, rfl, _⟩ := LQ.dn.form
    obtain ⟨t2a, t2c, rfl, _⟩ := LQ.up.form
    replace LN := hide LQ
    replace AF : Hid (∀ g, Lrb (.slice x2a L.nw x2c) (.slice y2a L.ng y2c) (.slice z2a L.nd z2c) (.slice t2a L.nu t2c) g → g ≠ b0 ∧ g ≠ b1 ∧ g ≠ b2) := hide (fun g h => (hnw g h).elim (fun h2 => AF.out g h2) (fun h2 => by omega))
    clear LQ mm hnw szT szW; clear m15
    refine sv (.tuple #[.agg #[.int .i64 L.base, .slice x2a L.nw x2c, .int .i64 L.want, .slice y2a L.ng y2c, .slice z2a L.nd z2c, .slice t2a L.nu t2c], .bool rb_]) ?_
    refine sv (.agg #[.int .i64 L.base, .slice x2a L.nw x2c, .int .i64 L.want, .slice y2a L.ng y2c, .slice z2a L.nd z2c, .slice t2a L.nu t2c]) ?_
    refine sv (.bool rb_) ?_
    refine ss6 (.int .i64 L.base) (.slice x2a L.nw x2c) (.int .i64 L.want) (.slice y2a L.ng y2c) (.slice z2a L.nd z2c) (.slice t2a L.nu t2c) bx2 fun V16 m16 bx2 => ?_
    replace HB := Xhb HB m16; replace bx0 := Xbb bx0 m16; replace bx1 := Xbb bx1 m16
    replace LN := hide (LN.out.mv m16 (fun g hg h => by have h : g = b2 := h; have := AF.out g hg; omega))
    clear m16
    refine sv (.bool rb_) ?_
    refine wpList_nil (inb_norm (then_normal (hK _ _ ?_))); clear hK K; refine rl ?_
    refine sv (.int .i64 ((i : Int))) ?_
    refine sg (.int .i64 (((i + 1 : Nat) : Int))) (h := by have hw : IntKind.i64.wrap ((i : Int) + 1) = ((i + 1 : Nat) : Int) := (by rw [i64wrap (by omega)]; omega); go_simp) ?_
    refine sv (.int .i64 (((i + 1 : Nat) : Int))) ?_
    refine nt ?_
    exact ⟨ms2 rb_ (i + 1), ms2_lt hl, L, rb_, i + 1, x2a, x2c, y2a, y2c, z2a, z2c, t2a, t2c, _, _, _, _, _, _, _, _, _, _, _, _, _, _, _, _, _, _, rfl, rfl, (HB.out), (LN.out), (AF.out), (⟨HG.out.1, by omega, fun h => by have := HG.out.2; rw [h] at this; simpa using this, fun h => by have := HG.out.2; rw [h] at this; simpa using this⟩), (bx0.out), (bx1.out), (bx2.out)⟩

end Go.Proofs.Ytnkocikbapbbmaa

/- spec.LinkCalmed (written by mkLcC.py) -/
namespace Go.Proofs.Ytnkocikbapbbmaa
open Go.RowKit
set_option linter.unusedVariables false
set_option linter.unusedSimpArgs false

theorem Rg.rebase {w : World} {b b' m n : Nat} {v : Value} {f : Nat → Nat → Value} (h : Rg w b v m n f) (hg : ∀ g, rb v = some g → b' ≤ g) : Rg w b' v m n f := by
  rcases h with h | ⟨g, off, k, e, h1, hp, h0, h2, h3, h4⟩
  · exact .inl h
  · exact .inr ⟨g, off, k, e, h1, hp, h0, hg g (by rw [e]; exact rb_some hp), h3, h4⟩
theorem Lr.rebase {w : World} {b b' : Nat} {wv gv dv uv : Value} {p : Lk} (h : Lr w b wv gv dv uv p) (hg : ∀ g, Lrb wv gv dv uv g → b' ≤ g) : Lr w b' wv gv dv uv p :=
  ⟨h.wa.rebase (fun g e => hg g (.inl e)), h.go.rebase (fun g e => hg g (.inr (.inl e))), h.dn.rebase (fun g e => hg g (.inr (.inr (.inl e)))), h.up.rebase (fun g e => hg g (.inr (.inr (.inr e)))), h.aw, h.ag, h.ad⟩

set_option maxHeartbeats 8000000 in
set_option maxRecDepth 20000 in
theorem specCalmed_any (p : Lk) (wv0 gv0 dv0 uv0 : Value) (w : World) (ha : La w wv0 gv0 dv0 uv0 p) (hsm : Lsm 1048576 p) :
    Calls Try.prog 27 #[.agg (l6 p.base wv0 p.want gv0 dv0 uv0)] w (CmP w (cmL p)) := by
  have ha0 := hide ha
  clear ha
  cases hok : lkB p with
  | false =>
    rw [show cmL p = (zeL, false) from by simp [cmL, hok]]
    have HB : Hid (Mv nob w w) := hide (Mv.refl _ _)
    go_enter Try.func27, Try.ntmps27
    refine sk fun K hK => rl ?_
    refine sbp #[.int .i64 p.base, wv0, .int .i64 p.want, gv0, dv0, uv0] 30 fun V1 b0 hb0 m1 bx0 => ?_
    have o_0 : w.heap.size ≤ b0 := by omega
    replace HB := Xhn HB m1; clear hb0 m1
    refine sbp #[.int .i64 0, .slice none 0 0, .int .i64 0, .slice none 0 0, .slice none 0 0, .slice none 0 0] 30 fun V2 b1 hb1 m2 bx1 => ?_
    have o0_1 := Xlo bx0 hb1; replace HB := Xhn HB m2; replace bx0 := Xbn bx0 m2; clear hb1 m2
    refine sv (.bool false) ?_
    refine nt (hK _ _ ?_); clear hK K; refine sk fun K hK => sk fun K hK => rl ?_
    refine sl6 bx0 ?_
    refine sw_call (by rfl) (by first | rfl | (go_simp; done)) (specLinkOk_la false p wv0 gv0 dv0 uv0 V2 hok (ha0.out.below HB.out.below) hsm) ?_
    rintro e V3 ⟨rfl, hbV3⟩
    have m3 : Mv (nob) V2 V3 := Mv.of_below hbV3
    refine ⟨_, rfl, ?_⟩
    refine pt ?_
    replace HB := Xhn HB m3; replace bx1 := Xbn bx1 m3; clear hbV3; clear m3
    refine sg (.bool true) ?_
    refine nt (hK _ _ ?_); clear hK K; refine ct (sk fun K hK => rl ?_)
    refine sv (.agg #[.int .i64 0, .slice none 0 0, .int .i64 0, .slice none 0 0, .slice none 0 0, .slice none 0 0]) ?_
    refine ss6 (.int .i64 0) (.slice none 0 0) (.int .i64 0) (.slice none 0 0) (.slice none 0 0) (.slice none 0 0) bx1 fun V4 m4 bx1 => ?_
    replace HB := Xhb HB m4; clear m4
    refine sv (.bool false) ?_
    refine nt (hK _ _ ?_); clear hK K; refine wp_ret (then_ret ?_)
    try simp only [Exit.then, Exit.inBlock, ↓reduceIte, Nat.reduceEqDiff]
    obtain ⟨_, q1_0, q1_1, q1_2, q1_3, q1_4, q1_5⟩ := box6 bx1.out
    exact bodyPost_ret (v := .tuple #[.agg #[.int .i64 0, .slice none 0 0, .int .i64 0, .slice none 0 0, .slice none 0 0, .slice none 0 0], .bool false]) (by simp [results, Try.results27, go_sem, q1_0, q1_1, q1_2, q1_3, q1_4, q1_5]) rfl ⟨_, _, _, _, rfl, zeL_lr _ _, HB.out.below⟩
  | true =>
    have hf := lk_iff.1 hok
    obtain ⟨A, hA⟩ : ∃ A, calN 20 (bare p) = A := ⟨_, rfl⟩
    rw [show cmL p = A from by simp [cmL, hok, hA]]
    have HB : Hid (Mv nob w w) := hide (Mv.refl _ _)
    go_enter Try.func27, Try.ntmps27
    refine sk fun K hK => rl ?_
    refine sbp #[.int .i64 p.base, wv0, .int .i64 p.want, gv0, dv0, uv0] 30 fun V1 b0 hb0 m1 bx0 => ?_
    have o_0 : w.heap.size ≤ b0 := by omega
    replace HB := Xhn HB m1; clear hb0 m1
    refine sbp #[.int .i64 0, .slice none 0 0, .int .i64 0, .slice none 0 0, .slice none 0 0, .slice none 0 0] 30 fun V2 b1 hb1 m2 bx1 => ?_
    have o0_1 := Xlo bx0 hb1; replace HB := Xhn HB m2; replace bx0 := Xbn bx0 m2; clear hb1 m2
    refine sv (.bool false) ?_
    refine nt (hK _ _ ?_); clear hK K; refine sk fun K hK => sk fun K hK => rl ?_
    refine sl6 bx0 ?_
    refine sw_call (by rfl) (by first | rfl | (go_simp; done)) (specLinkOk_la true p wv0 gv0 dv0 uv0 V2 hok (ha0.out.below HB.out.below) hsm) ?_
    rintro e V3 ⟨rfl, hbV3⟩
    have m3 : Mv (nob) V2 V3 := Mv.of_below hbV3
    refine ⟨_, rfl, ?_⟩
    refine pt ?_
    replace HB := Xhn HB m3; replace bx0 := Xbn bx0 m3; replace bx1 := Xbn bx1 m3; clear hbV3; clear m3
    refine sg (.bool false) ?_
    refine nt (hK _ _ ?_); clear hK K; refine cf (wp_skip (then_normal (hK _ _ ?_))); clear hK K; refine sk fun K hK => rl ?_
    refine sl6 bx0 ?_
    have szT := lt_of_block bx1.out
    have szW := HB.out.size
    refine sw_call (by rfl) (by first | rfl | (go_simp; done)) (l8Copy_any p wv0 gv0 dv0 uv0 V3 (ha0.out.below HB.out.below) hsm) ?_
    rintro e V4 ⟨wv, gv, dv, uv, rfl, LQ, hbV4⟩
    have m4 : Mv (nob) V3 V4 := Mv.of_below hbV4
    refine ⟨_, rfl, ?_⟩
    refine pt ?_
    replace HB := Xhn HB m4; replace bx0 := Xbn bx0 m4; replace bx1 := Xbn bx1 m4
    obtain ⟨x0a, x0c, rfl, _⟩ := LQ.wa.form
    obtain ⟨y0a, y0c, rfl, _⟩ := LQ.go.form
    obtain ⟨z0a, z0c, rfl, _⟩ := LQ.dn.form
    obtain ⟨t0a, t0c, rfl, _⟩ := LQ.up.form
    have LN := hide (LQ.lower szW)
    have A2 : Hid (∀ g, Lrb (.slice x0a p.nw x0c) (.slice y0a p.ng y0c) (.slice z0a p.nd z0c) (.slice t0a p.nu t0c) g → g ≠ b0 ∧ g ≠ b1) := hide (fun g h => by have := (LQ.lt g h).1; omega)
    clear LQ hbV4 szT szW; clear m4
    refine sbp #[.int .i64 0, .slice none 0 0, .int .i64 0, .slice none 0 0, .slice none 0 0, .slice none 0 0] 30 fun V5 b2 hb2 m5 bx2 => ?_
    have o0_2 := Xlo bx0 hb2; have o1_2 := Xlo bx1 hb2
    have A3 : Hid (∀ g, Lrb (.slice x0a p.nw x0c) (.slice y0a p.ng y0c) (.slice z0a p.nd z0c) (.slice t0a p.nu t0c) g → g ≠ b0 ∧ g ≠ b1 ∧ g ≠ b2) := hide (fun g h => by have h2 := (LN.out.lt g h).2; have := A2.out g h; omega)
    replace HB := Xhn HB m5; replace bx0 := Xbn bx0 m5; replace bx1 := Xbn bx1 m5
    replace LN := hide (LN.out.mv m5 (fun _ _ h => h))
    clear hb2 m5
    refine ss6 (.int .i64 p.base) (.slice x0a p.nw x0c) (.int .i64 p.want) (.slice y0a p.ng y0c) (.slice z0a p.nd z0c) (.slice t0a p.nu t0c) bx2 fun V6 m6 bx2 => ?_
    replace HB := Xhb HB m6; replace bx0 := Xbb bx0 m6; replace bx1 := Xbb bx1 m6
    replace LN := hide (LN.out.mv m6 (fun g hg h => by have h : g = b2 := h; have := A3.out g hg; omega))
    clear m6
    refine nt (hK _ _ ?_); clear hK K; refine sk fun K hK => rl ?_
    refine sv (.pointer (some ⟨b2, 4, none⟩)) ?_
    refine ss 4 (.slice none 0 0) bx2 fun V7 m7 bx2 => ?_
    replace HB := Xhb HB m7; replace bx0 := Xbb bx0 m7; replace bx1 := Xbb bx1 m7
    replace LN := hide (LN.out.mv m7 (fun g hg h => by have h : g = b2 := h; have := A3.out g hg; omega))
    clear m7
    refine nt (hK _ _ ?_); clear hK K; refine sk fun K hK => rl ?_
    refine sv (.pointer (some ⟨b2, 5, none⟩)) ?_
    refine ss 5 (.slice none 0 0) bx2 fun V8 m8 bx2 => ?_
    replace HB := Xhb HB m8; replace bx0 := Xbb bx0 m8; replace bx1 := Xbb bx1 m8
    replace LN := hide (LN.out.mv m8 (fun g hg h => by have h : g = b2 := h; have := A3.out g hg; omega))
    clear m8
    refine nt (hK _ _ ?_); clear hK K; refine sk fun K hK => sk fun K hK => rl ?_
    refine sv (.int .i64 0) ?_
    refine nt (hK _ _ ?_); clear hK K; refine wp_block ?_
    have LB := hide LN.out.bare
    have AF : Hid (∀ g, Lrb (.slice x0a p.nw x0c) (.slice y0a p.ng y0c) (.slice none 0 0) (.slice none 0 0) g → w.heap.size ≤ g ∧ g ≠ b0 ∧ g ≠ b1 ∧ g ≠ b2) := hide (fun g h => ⟨(LB.out.lt g h).1, A3.out g (h.elim .inl (fun h => h.elim (fun h => .inr (.inl h)) (fun h => by rcases h with h | h <;> exact absurd h (by simp [rb]))))⟩)
    have QF : Hid (Lf (bare p) ∧ 0 ≤ 20 ∧ (bare p).nd = 0 ∧ (bare p).nu = 0 ∧ calN (20 - 0) (bare p) = A) := hide ⟨bare_lf hf, by decide, rfl, rfl, hA⟩
    clear hA A2 A3
    replace LN := hide (LB.out.lower (Nat.zero_le _))
    clear LB
    refine wp_loop_ghost (fun m a' w' => ∃ (q : Lk) (i : Nat) (xa : Option Addr) (xc : Nat) (ya : Option Addr) (yc : Nat) (za : Option Addr) (zc : Nat) (ta : Option Addr) (tc : Nat) (u3 : Value) (u6 : Value) (u7 : Value) (u8 : Value) (u9 : Value) (u10 : Value) (u11 : Value) (u20 : Value) (u21 : Value) (u22 : Value) (u23 : Value) (u24 : Value) (u25 : Value) (u26 : Value) (u27 : Value) (u28 : Value) (u29 : Value) (u30 : Value) (u31 : Value) (u32 : Value) (u33 : Value) (u34 : Value) (u35 : Value) (u36 : Value) (u37 : Value) (u38 : Value) (u39 : Value) (u40 : Value) (u41 : Value) (u42 : Value) (u43 : Value) (u44 : Value) (u45 : Value) (u46 : Value) (u47 : Value) (u48 : Value) (u49 : Value) (u50 : Value) (u51 : Value) (u52 : Value) (u53 : Value) (u54 : Value) (u55 : Value) (u56 : Value), m = 20 - i ∧ a' = ⟨#[.agg #[.int .i64 p.base, wv0, .int .i64 p.want, gv0, dv0, uv0], .pointer (some ⟨b0, 0, none⟩), .pointer (some ⟨b1, 0, none⟩), u3, .pointer (some ⟨b2, 0, none⟩), .int .i64 ((i : Int)), u6, u7, u8, u9, u10, u11, .agg #[.int .i64 p.base, wv0, .int .i64 p.want, gv0, dv0, uv0], .bool true, .bool false, undef, .agg #[.int .i64 p.base, wv0, .int .i64 p.want, gv0, dv0, uv0], .agg #[.int .i64 p.base, .slice x0a p.nw x0c, .int .i64 p.want, .slice y0a p.ng y0c, .slice z0a p.nd z0c, .slice t0a p.nu t0c], .pointer (some ⟨b2, 4, none⟩), .pointer (some ⟨b2, 5, none⟩), u20, u21, u22, u23, u24, u25, u26, u27, u28, u29, u30, u31, u32, u33, u34, u35, u36, u37, u38, u39, u40, u41, u42, u43, u44, u45, u46, u47, u48, u49, u50, u51, u52, u53, u54, u55, u56, undef, undef, undef, undef, undef], []⟩ ∧ (Mv nob w w') ∧ (Lr w' 0 (.slice xa q.nw xc) (.slice ya q.ng yc) (.slice za q.nd zc) (.slice ta q.nu tc) q) ∧ (∀ g, Lrb (.slice xa q.nw xc) (.slice ya q.ng yc) (.slice za q.nd zc) (.slice ta q.nu tc) g → w.heap.size ≤ g ∧ g ≠ b0 ∧ g ≠ b1 ∧ g ≠ b2) ∧ (Lf q ∧ i ≤ 20 ∧ q.nd = 0 ∧ q.nu = 0 ∧ calN (20 - i) q = A) ∧ (w'.heap[b0]? = some (.cells #[.int .i64 p.base, wv0, .int .i64 p.want, gv0, dv0, uv0] 30 (0, 0))) ∧ (w'.heap[b1]? = some (.cells #[.int .i64 0, .slice none 0 0, .int .i64 0, .slice none 0 0, .slice none 0 0, .slice none 0 0] 30 (0, 0))) ∧ (w'.heap[b2]? = some (.cells #[.int .i64 q.base, .slice xa q.nw xc, .int .i64 q.want, .slice ya q.ng yc, .slice za q.nd zc, .slice ta q.nu tc] 30 (0, 0)))) (20) ⟨bare p, 0, x0a, x0c, y0a, y0c, none, 0, none, 0, _, _, _, _, _, _, _, _, _, _, _, _, _, _, _, _, _, _, _, _, _, _, _, _, _, _, _, _, _, _, _, _, _, _, _, _, _, _, _, _, _, _, _, _, rfl, rfl, (HB.out), (LN.out), (AF.out), (QF.out), (bx0.out), (bx1.out), (bx2.out)⟩ (fun m a' VL1 hI => ?_)
    obtain ⟨q, i, xa, xc, ya, yc, za, zc, ta, tc, u3, u6, u7, u8, u9, u10, u11, u20, u21, u22, u23, u24, u25, u26, u27, u28, u29, u30, u31, u32, u33, u34, u35, u36, u37, u38, u39, u40, u41, u42, u43, u44, u45, u46, u47, u48, u49, u50, u51, u52, u53, u54, u55, u56, rfl, rfl, i_HB, i_LN, i_AF, i_QF, i_bx0, i_bx1, i_bx2⟩ := hI
    clear HB bx0 bx1 bx2 LN
    have HB := hide i_HB
    clear i_HB
    have LN := hide i_LN
    clear i_LN
    have AF := hide i_AF
    clear i_AF
    have QF := hide i_QF
    clear i_QF
    have bx0 := hide i_bx0
    clear i_bx0
    have bx1 := hide i_bx1
    clear i_bx1
    have bx2 := hide i_bx2
    clear i_bx2
    refine sk fun K hK => sk fun K hK => rl ?_
    have hi20 := QF.out.2.1
    by_cases hl : ¬ i < 20
    · have hi : i = 20 := by omega
      refine sv (.int .i64 ((i : Int))) ?_
      refine sg (.bool false) (h := by have q1 : decide ((i : Int) < 20) = false := decide_eq_false (by omega); have q2 : decide (i < 20) = false := decide_eq_false (by omega); go_simp) ?_
      refine sv (.bool false) ?_
      with_reducible refine sp ?_
      with_reducible refine sp ?_
      with_reducible refine sp ?_
      with_reducible refine sp ?_
      refine sg (.bool false) ?_
      refine nt (hK _ _ ?_); clear hK K; refine cf ?_; refine wp_exit ?_; refine then_exit ?_; refine then_exit ?_; refine inb_here rfl ?_; refine then_normal ?_; clear hK K; refine hK _ _ ?_; clear hK K; refine sk fun K hK => ?_
      by_cases hn : q.nw = 0
      · have LTz : ∀ g, g = b1 → b0 < g ∧ g < b2 := fun g h => by omega
        refine wp_region_but (z := 999) (S := fun w' => Mv (fun g => g = b1) VL1.drew w') (by kernel_rfl) (Mv.refl _ _) (fun hS => ?_)
        have m9 : Mv nob VL1 VL1.drew := Mv.drew _
        obtain ⟨V9, hV9⟩ : ∃ V, VL1.drew = V := ⟨_, rfl⟩
        rw [hV9] at hS m9 ⊢
        clear hV9; replace HB := Xhn HB m9; replace bx0 := Xbn bx0 m9; replace bx1 := Xbn bx1 m9; replace bx2 := Xbn bx2 m9
        replace LN := hide (LN.out.mv m9 (fun _ _ h => h))
        clear m9; have rbx0 := bx0; have rbx1 := bx1; have rbx2 := bx2
        refine tk 0 (.agg #[.int .i64 q.base, .slice xa q.nw xc, .int .i64 q.want, .slice ya q.ng yc, .slice za q.nd zc, .slice ta q.nu tc]) rfl (fun w' hSw => by (try dsimp only at hSw); have z0 := cell_box 0 (hSw.box rbx2.out (fun h => by have := LTz _ h; omega)) rfl; have z1 := cell_box 1 (hSw.box rbx2.out (fun h => by have := LTz _ h; omega)) rfl; have z2 := cell_box 2 (hSw.box rbx2.out (fun h => by have := LTz _ h; omega)) rfl; have z3 := cell_box 3 (hSw.box rbx2.out (fun h => by have := LTz _ h; omega)) rfl; have z4 := cell_box 4 (hSw.box rbx2.out (fun h => by have := LTz _ h; omega)) rfl; have z5 := cell_box 5 (hSw.box rbx2.out (fun h => by have := LTz _ h; omega)) rfl; go_simp) ?_
        refine tk0 1 (.pointer (some ⟨b2, 1, none⟩)) rfl ?_
        refine tk 2 (.slice xa q.nw xc) rfl (fun w' hSw => by (try dsimp only at hSw); have z0 := cell_box 1 (hSw.box rbx2.out (fun h => by have := LTz _ h; omega)) rfl; go_simp) ?_
        refine tk0 3 (.int .i64 (q.nw : Int)) rfl ?_
        refine tk 4 (.bool true) rfl (fun w' hSw => by (try dsimp only at hSw); have q1 := hn; have q2 : ((q.nw : Int) == 0) = true := (by simp [hn]); have q3 : (q.nw == 0) = true := (by simp [hn]); go_simp) ?_
        refine kd_skipI (i := 5) (w' := (((((V9.setCell ⟨b1, 0, none⟩ (.int .i64 q.base)).setCell ⟨b1, 1, none⟩ (.slice xa q.nw xc)).setCell ⟨b1, 2, none⟩ (.int .i64 q.want)).setCell ⟨b1, 3, none⟩ (.slice ya q.ng yc)).setCell ⟨b1, 4, none⟩ (.slice za q.nd zc)).setCell ⟨b1, 5, none⟩ (.slice ta q.nu tc)) (fun V => Mv (fun g => g = b1) V9 V ∧ V.heap[b1]? = some (.cells #[.int .i64 q.base, .slice xa q.nw xc, .int .i64 q.want, .slice ya q.ng yc, .slice za q.nd zc, .slice ta q.nu tc] 30 (0, 0))) (by kernel_rfl) rfl (by rfl) (by have fr := fun i => frozen_of_row _ _ i _ _ bx1.out; have z0 := cell_box 0 bx1.out rfl; have z1 := cell_box 1 bx1.out rfl; have z2 := cell_box 2 bx1.out rfl; have z3 := cell_box 3 bx1.out rfl; have z4 := cell_box 4 bx1.out rfl; have z5 := cell_box 5 bx1.out rfl; go_simp) ⟨Mv.set (Mv.set (Mv.set (Mv.set (Mv.set (Mv.set (Mv.refl _ _) _ _) _ _) _ _) _ _) _ _) _ _, (heap_setCell_same _ _ 5 _ _ _ (heap_setCell_same _ _ 4 _ _ _ (heap_setCell_same _ _ 3 _ _ _ (heap_setCell_same _ _ 2 _ _ _ (heap_setCell_same _ _ 1 _ _ _ (heap_setCell_same _ _ 0 _ _ _ (bx1.out))))))).trans rfl⟩ (fun V hI _ => hS.step hI.1 (fun g hg h => by first | exact h | (have h : g = b1 := h; exfalso; omega))) ?_
        rintro V10 ⟨m10, nxV10⟩
        refine ptk ?_
        replace HB := Xhb HB m10
        replace LN := hide (LN.out.mv m10 (fun g hg h => by have h : g = b1 := h; have := AF.out g hg; omega))
        replace bx1 := hide nxV10
        clear nxV10
        replace hS := hS.step m10 (fun g hg h => by first | exact h | (have h : g = b1 := h; exfalso; omega))
        clear m10
        refine tk0 6 (.bool true) rfl ?_
        refine wpAnyK_done (by kernel_rfl) ?_
        clear hS rbx0 rbx1 rbx2
        refine then_normal (hK _ _ ?_); clear hK K; refine wp_ret ?_
        have hA : (q, true) = A := (calN_nil hn).symm.trans QF.out.2.2.2.2
        subst hA
        try simp only [Exit.then, Exit.inBlock, ↓reduceIte, Nat.reduceEqDiff]
        obtain ⟨_, q1_0, q1_1, q1_2, q1_3, q1_4, q1_5⟩ := box6 bx1.out
        exact bodyPost_ret (v := .tuple #[.agg #[.int .i64 q.base, .slice xa q.nw xc, .int .i64 q.want, .slice ya q.ng yc, .slice za q.nd zc, .slice ta q.nu tc], .bool true]) (by simp [results, Try.results27, go_sem, q1_0, q1_1, q1_2, q1_3, q1_4, q1_5]) rfl ⟨_, _, _, _, rfl, (LN.out.rebase (fun g h => (AF.out g h).1)), HB.out.below⟩
      have LTz : ∀ g, g = b1 → b0 < g ∧ g < b2 := fun g h => by omega
      refine wp_region_but (z := 999) (S := fun w' => Mv (fun g => g = b1) VL1.drew w') (by kernel_rfl) (Mv.refl _ _) (fun hS => ?_)
      have m11 : Mv nob VL1 VL1.drew := Mv.drew _
      obtain ⟨V11, hV11⟩ : ∃ V, VL1.drew = V := ⟨_, rfl⟩
      rw [hV11] at hS m11 ⊢
      clear hV11; replace HB := Xhn HB m11; replace bx0 := Xbn bx0 m11; replace bx1 := Xbn bx1 m11; replace bx2 := Xbn bx2 m11
      replace LN := hide (LN.out.mv m11 (fun _ _ h => h))
      clear m11; have rbx0 := bx0; have rbx1 := bx1; have rbx2 := bx2
      refine tk 0 (.agg #[.int .i64 q.base, .slice xa q.nw xc, .int .i64 q.want, .slice ya q.ng yc, .slice za q.nd zc, .slice ta q.nu tc]) rfl (fun w' hSw => by (try dsimp only at hSw); have z0 := cell_box 0 (hSw.box rbx2.out (fun h => by have := LTz _ h; omega)) rfl; have z1 := cell_box 1 (hSw.box rbx2.out (fun h => by have := LTz _ h; omega)) rfl; have z2 := cell_box 2 (hSw.box rbx2.out (fun h => by have := LTz _ h; omega)) rfl; have z3 := cell_box 3 (hSw.box rbx2.out (fun h => by have := LTz _ h; omega)) rfl; have z4 := cell_box 4 (hSw.box rbx2.out (fun h => by have := LTz _ h; omega)) rfl; have z5 := cell_box 5 (hSw.box rbx2.out (fun h => by have := LTz _ h; omega)) rfl; go_simp) ?_
      refine tk0 1 (.pointer (some ⟨b2, 1, none⟩)) rfl ?_
      refine tk 2 (.slice xa q.nw xc) rfl (fun w' hSw => by (try dsimp only at hSw); have z0 := cell_box 1 (hSw.box rbx2.out (fun h => by have := LTz _ h; omega)) rfl; go_simp) ?_
      refine tk0 3 (.int .i64 (q.nw : Int)) rfl ?_
      refine tk 4 (.bool false) rfl (fun w' hSw => by (try dsimp only at hSw); have q1 := hn; have q2 : ((q.nw : Int) == 0) = false := (by simp [hn]); have q3 : (q.nw == 0) = false := (by simp [hn]); go_simp) ?_
      refine kd_skipI (i := 5) (w' := (((((V11.setCell ⟨b1, 0, none⟩ (.int .i64 q.base)).setCell ⟨b1, 1, none⟩ (.slice xa q.nw xc)).setCell ⟨b1, 2, none⟩ (.int .i64 q.want)).setCell ⟨b1, 3, none⟩ (.slice ya q.ng yc)).setCell ⟨b1, 4, none⟩ (.slice za q.nd zc)).setCell ⟨b1, 5, none⟩ (.slice ta q.nu tc)) (fun V => Mv (fun g => g = b1) V11 V ∧ V.heap[b1]? = some (.cells #[.int .i64 q.base, .slice xa q.nw xc, .int .i64 q.want, .slice ya q.ng yc, .slice za q.nd zc, .slice ta q.nu tc] 30 (0, 0))) (by kernel_rfl) rfl (by rfl) (by have fr := fun i => frozen_of_row _ _ i _ _ bx1.out; have z0 := cell_box 0 bx1.out rfl; have z1 := cell_box 1 bx1.out rfl; have z2 := cell_box 2 bx1.out rfl; have z3 := cell_box 3 bx1.out rfl; have z4 := cell_box 4 bx1.out rfl; have z5 := cell_box 5 bx1.out rfl; go_simp) ⟨Mv.set (Mv.set (Mv.set (Mv.set (Mv.set (Mv.set (Mv.refl _ _) _ _) _ _) _ _) _ _) _ _) _ _, (heap_setCell_same _ _ 5 _ _ _ (heap_setCell_same _ _ 4 _ _ _ (heap_setCell_same _ _ 3 _ _ _ (heap_setCell_same _ _ 2 _ _ _ (heap_setCell_same _ _ 1 _ _ _ (heap_setCell_same _ _ 0 _ _ _ (bx1.out))))))).trans rfl⟩ (fun V hI _ => hS.step hI.1 (fun g hg h => by first | exact h | (have h : g = b1 := h; exfalso; omega))) ?_
      rintro V12 ⟨m12, nxV12⟩
      refine ptk ?_
      replace HB := Xhb HB m12
      replace LN := hide (LN.out.mv m12 (fun g hg h => by have h : g = b1 := h; have := AF.out g hg; omega))
      replace bx1 := hide nxV12
      clear nxV12
      replace hS := hS.step m12 (fun g hg h => by first | exact h | (have h : g = b1 := h; exfalso; omega))
      clear m12
      refine tk0 6 (.bool false) rfl ?_
      refine wpAnyK_done (by kernel_rfl) ?_
      clear hS rbx0 rbx1 rbx2
      refine then_normal (hK _ _ ?_); clear hK K; refine wp_ret ?_
      have hA : (q, false) = A := by rw [← calN_end hn]; have := QF.out.2.2.2.2; rwa [hi] at this
      subst hA
      try simp only [Exit.then, Exit.inBlock, ↓reduceIte, Nat.reduceEqDiff]
      obtain ⟨_, q1_0, q1_1, q1_2, q1_3, q1_4, q1_5⟩ := box6 bx1.out
      exact bodyPost_ret (v := .tuple #[.agg #[.int .i64 q.base, .slice xa q.nw xc, .int .i64 q.want, .slice ya q.ng yc, .slice za q.nd zc, .slice ta q.nu tc], .bool false]) (by simp [results, Try.results27, go_sem, q1_0, q1_1, q1_2, q1_3, q1_4, q1_5]) rfl ⟨_, _, _, _, rfl, (LN.out.rebase (fun g h => (AF.out g h).1)), HB.out.below⟩
    replace hl : i < 20 := by omega
    by_cases hn : q.nw = 0
    · refine sv (.int .i64 ((i : Int))) ?_
      refine sg (.bool true) (h := by have q1 : decide ((i : Int) < 20) = true := decide_eq_true (by omega); have q2 : decide (i < 20) = true := decide_eq_true (by omega); go_simp) ?_
      refine sv (.bool true) ?_
      refine sv (.pointer (some ⟨b2, 1, none⟩)) ?_
      refine sl 1 bx2 ?_
      refine sg (.int .i64 (q.nw : Int)) ?_
      refine sg (.bool false) (h := by have q1 : decide (0 < (q.nw : Int)) = false := decide_eq_false (by omega); have q2 : decide (0 < q.nw) = false := decide_eq_false (by omega); go_simp) ?_
      refine sg (.bool false) ?_
      refine nt (hK _ _ ?_); clear hK K; refine cf ?_; refine wp_exit ?_; refine then_exit ?_; refine then_exit ?_; refine inb_here rfl ?_; refine then_normal ?_; clear hK K; refine hK _ _ ?_; clear hK K; refine sk fun K hK => ?_
      have LTz : ∀ g, g = b1 → b0 < g ∧ g < b2 := fun g h => by omega
      refine wp_region_but (z := 999) (S := fun w' => Mv (fun g => g = b1) VL1.drew w') (by kernel_rfl) (Mv.refl _ _) (fun hS => ?_)
      have m13 : Mv nob VL1 VL1.drew := Mv.drew _
      obtain ⟨V13, hV13⟩ : ∃ V, VL1.drew = V := ⟨_, rfl⟩
      rw [hV13] at hS m13 ⊢
      clear hV13; replace HB := Xhn HB m13; replace bx0 := Xbn bx0 m13; replace bx1 := Xbn bx1 m13; replace bx2 := Xbn bx2 m13
      replace LN := hide (LN.out.mv m13 (fun _ _ h => h))
      clear m13; have rbx0 := bx0; have rbx1 := bx1; have rbx2 := bx2
      refine tk 0 (.agg #[.int .i64 q.base, .slice xa q.nw xc, .int .i64 q.want, .slice ya q.ng yc, .slice za q.nd zc, .slice ta q.nu tc]) rfl (fun w' hSw => by (try dsimp only at hSw); have z0 := cell_box 0 (hSw.box rbx2.out (fun h => by have := LTz _ h; omega)) rfl; have z1 := cell_box 1 (hSw.box rbx2.out (fun h => by have := LTz _ h; omega)) rfl; have z2 := cell_box 2 (hSw.box rbx2.out (fun h => by have := LTz _ h; omega)) rfl; have z3 := cell_box 3 (hSw.box rbx2.out (fun h => by have := LTz _ h; omega)) rfl; have z4 := cell_box 4 (hSw.box rbx2.out (fun h => by have := LTz _ h; omega)) rfl; have z5 := cell_box 5 (hSw.box rbx2.out (fun h => by have := LTz _ h; omega)) rfl; go_simp) ?_
      refine tk0 1 (.pointer (some ⟨b2, 1, none⟩)) rfl ?_
      refine tk 2 (.slice xa q.nw xc) rfl (fun w' hSw => by (try dsimp only at hSw); have z0 := cell_box 1 (hSw.box rbx2.out (fun h => by have := LTz _ h; omega)) rfl; go_simp) ?_
      refine tk0 3 (.int .i64 (q.nw : Int)) rfl ?_
      refine tk 4 (.bool true) rfl (fun w' hSw => by (try dsimp only at hSw); have q1 := hn; have q2 : ((q.nw : Int) == 0) = true := (by simp [hn]); have q3 : (q.nw == 0) = true := (by simp [hn]); go_simp) ?_
      refine kd_skipI (i := 5) (w' := (((((V13.setCell ⟨b1, 0, none⟩ (.int .i64 q.base)).setCell ⟨b1, 1, none⟩ (.slice xa q.nw xc)).setCell ⟨b1, 2, none⟩ (.int .i64 q.want)).setCell ⟨b1, 3, none⟩ (.slice ya q.ng yc)).setCell ⟨b1, 4, none⟩ (.slice za q.nd zc)).setCell ⟨b1, 5, none⟩ (.slice ta q.nu tc)) (fun V => Mv (fun g => g = b1) V13 V ∧ V.heap[b1]? = some (.cells #[.int .i64 q.base, .slice xa q.nw xc, .int .i64 q.want, .slice ya q.ng yc, .slice za q.nd zc, .slice ta q.nu tc] 30 (0, 0))) (by kernel_rfl) rfl (by rfl) (by have fr := fun i => frozen_of_row _ _ i _ _ bx1.out; have z0 := cell_box 0 bx1.out rfl; have z1 := cell_box 1 bx1.out rfl; have z2 := cell_box 2 bx1.out rfl; have z3 := cell_box 3 bx1.out rfl; have z4 := cell_box 4 bx1.out rfl; have z5 := cell_box 5 bx1.out rfl; go_simp) ⟨Mv.set (Mv.set (Mv.set (Mv.set (Mv.set (Mv.set (Mv.refl _ _) _ _) _ _) _ _) _ _) _ _) _ _, (heap_setCell_same _ _ 5 _ _ _ (heap_setCell_same _ _ 4 _ _ _ (heap_setCell_same _ _ 3 _ _ _ (heap_setCell_same _ _ 2 _ _ _ (heap_setCell_same _ _ 1 _ _ _ (heap_setCell_same _ _ 0 _ _ _ (bx1.out))))))).trans rfl⟩ (fun V hI _ => hS.step hI.1 (fun g hg h => by first | exact h | (have h : g = b1 := h; exfalso; omega))) ?_
      rintro V14 ⟨m14, nxV14⟩
      refine ptk ?_
      replace HB := Xhb HB m14
      replace LN := hide (LN.out.mv m14 (fun g hg h => by have h : g = b1 := h; have := AF.out g hg; omega))
      replace bx1 := hide nxV14
      clear nxV14
      replace hS := hS.step m14 (fun g hg h => by first | exact h | (have h : g = b1 := h; exfalso; omega))
      clear m14
      refine tk0 6 (.bool true) rfl ?_
      refine wpAnyK_done (by kernel_rfl) ?_
      clear hS rbx0 rbx1 rbx2
      refine then_normal (hK _ _ ?_); clear hK K; refine wp_ret ?_
      have hA : (q, true) = A := (calN_nil hn).symm.trans QF.out.2.2.2.2
      subst hA
      try simp only [Exit.then, Exit.inBlock, ↓reduceIte, Nat.reduceEqDiff]
      obtain ⟨_, q1_0, q1_1, q1_2, q1_3, q1_4, q1_5⟩ := box6 bx1.out
      exact bodyPost_ret (v := .tuple #[.agg #[.int .i64 q.base, .slice xa q.nw xc, .int .i64 q.want, .slice ya q.ng yc, .slice za q.nd zc, .slice ta q.nu tc], .bool true]) (by simp [results, Try.results27, go_sem, q1_0, q1_1, q1_2, q1_3, q1_4, q1_5]) rfl ⟨_, _, _, _, rfl, (LN.out.rebase (fun g h => (AF.out g h).1)), HB.out.below⟩
    refine sv (.int .i64 ((i : Int))) ?_
    refine sg (.bool true) (h := by have q1 : decide ((i : Int) < 20) = true := decide_eq_true (by omega); have q2 : decide (i < 20) = true := decide_eq_true (by omega); go_simp) ?_
    refine sv (.bool true) ?_
    refine sv (.pointer (some ⟨b2, 1, none⟩)) ?_
    refine sl 1 bx2 ?_
    refine sg (.int .i64 (q.nw : Int)) ?_
    refine sg (.bool true) (h := by have q1 : decide (0 < (q.nw : Int)) = true := decide_eq_true (by omega); have q2 : decide (0 < q.nw) = true := decide_eq_true (by omega); go_simp) ?_
    refine sg (.bool true) ?_
    refine nt (hK _ _ ?_); clear hK K; refine ct (wp_skip (then_normal (hK _ _ ?_))); clear hK K; refine sk fun K hK => wp_block (sk fun K hK => rl ?_)
    have hgo := (calN_go hn hl).symm.trans QF.out.2.2.2.2
    have hRL := rnd_lf QF.out.1
    have hRe := @rnd_empty q
    have hRn := @rnd_no q QF.out.2.2.1 QF.out.2.2.2.1
    have hcall := fun V h => l8Do_any q (.slice xa q.nw xc) (.slice ya q.ng yc) (.slice za q.nd zc) (.slice ta q.nu tc) V h 2 0 0 e0 QF.out.1
    have f1 := ld_lf QF.out.1 2 0 0 e0
    unfold rnd at hgo hRL hRe hRn
    generalize ldL q 2 0 0 e0 = L1 at hcall f1 hgo hRL hRe hRn
    generalize ldC q 2 0 0 e0 = C1 at hcall hgo hRL hRe hRn
    have f2 := al_lf 3 f1
    obtain ⟨L2, b2_, h2⟩ : ∃ L b, alC 3 L1 = (L, b) := ⟨_, _, rfl⟩
    rw [h2] at hgo hRL hRe hRn f2
    obtain ⟨L3, b3_, h3⟩ : ∃ L b, alC 4 L2 = (L, b) := ⟨_, _, rfl⟩
    simp only at f2 hgo hRL hRe hRn
    rw [h3] at hgo hRL hRe hRn
    simp only at hgo hRL hRe hRn
    have HG := hide (And.intro hgo (And.intro hRL (And.intro hRe hRn)))
    clear hgo hRL hRe hRn
    refine sl6 bx2 ?_
    refine sv (.agg #[.int .i64 2, .int .i64 0, .int .i64 0, .string ⟨#[]⟩]) ?_
    have szT := lt_of_block bx2.out
    have szW := HB.out.size
    refine sw_call (by rfl) (by first | rfl | (go_simp; done)) (hcall VL1 LN.out.la) ?_
    rintro e V15 ⟨wv, gv, dv, uv, rfl, LQ, hbV15⟩
    have m15 : Mv (nob) VL1 V15 := Mv.of_below hbV15
    refine ⟨_, rfl, ?_⟩
    refine pt ?_
    replace HB := Xhn HB m15; replace bx0 := Xbn bx0 m15; replace bx1 := Xbn bx1 m15; replace bx2 := Xbn bx2 m15
    replace LN := hide (LN.out.mv m15 (fun _ _ h => h))
    obtain ⟨x1a, x1c, rfl, _⟩ := LQ.wa.form
    obtain ⟨y1a, y1c, rfl, _⟩ := LQ.go.form
    obtain ⟨z1a, z1c, rfl, _⟩ := LQ.dn.form
    obtain ⟨t1a, t1c, rfl, _⟩ := LQ.up.form
    have M1 := hide (LQ.lower (Nat.zero_le _))
    have AM1 : Hid (∀ g, Lrb (.slice x1a L1.nw x1c) (.slice y1a L1.ng y1c) (.slice z1a L1.nd z1c) (.slice t1a L1.nu t1c) g → w.heap.size ≤ g ∧ g ≠ b0 ∧ g ≠ b1 ∧ g ≠ b2) := hide (fun g h => by have := (LQ.lt g h).1; omega)
    clear LQ szT szW hbV15; clear m15
    refine sv (.tuple #[.agg #[.int .i64 L1.base, .slice x1a L1.nw x1c, .int .i64 L1.want, .slice y1a L1.ng y1c, .slice z1a L1.nd z1c, .slice t1a L1.nu t1c], .int .i64 C1]) ?_
    refine sv (.agg #[.int .i64 L1.base, .slice x1a L1.nw x1c, .int .i64 L1.want, .slice y1a L1.ng y1c, .slice z1a L1.nd z1c, .slice t1a L1.nu t1c]) ?_
    refine sv (.int .i64 C1) ?_
    refine sbp #[.int .i64 0, .slice none 0 0, .int .i64 0, .slice none 0 0, .slice none 0 0, .slice none 0 0] 30 fun V16 b3 hb3 m16 bx3 => ?_
    have o0_3 := Xlo bx0 hb3; have o1_3 := Xlo bx1 hb3; have o2_3 := Xlo bx2 hb3
    replace AM1 : Hid (∀ g, Lrb (.slice x1a L1.nw x1c) (.slice y1a L1.ng y1c) (.slice z1a L1.nd z1c) (.slice t1a L1.nu t1c) g → w.heap.size ≤ g ∧ g ≠ b0 ∧ g ≠ b1 ∧ g ≠ b2 ∧ g ≠ b3) := hide (fun g h => by have h1 := AM1.out g h; have h2 := (M1.out.lt g h).2; omega)
    replace AF : Hid (∀ g, Lrb (.slice xa q.nw xc) (.slice ya q.ng yc) (.slice za q.nd zc) (.slice ta q.nu tc) g → w.heap.size ≤ g ∧ g ≠ b0 ∧ g ≠ b1 ∧ g ≠ b2 ∧ g ≠ b3) := hide (fun g h => by have h1 := AF.out g h; have h2 := (LN.out.lt g h).2; omega)
    replace HB := Xhn HB m16; replace bx0 := Xbn bx0 m16; replace bx1 := Xbn bx1 m16; replace bx2 := Xbn bx2 m16
    replace LN := hide (LN.out.mv m16 (fun _ _ h => h))
    replace M1 := hide (M1.out.mv m16 (fun _ _ h => h))
    clear hb3 m16
    refine ss6 (.int .i64 L1.base) (.slice x1a L1.nw x1c) (.int .i64 L1.want) (.slice y1a L1.ng y1c) (.slice z1a L1.nd z1c) (.slice t1a L1.nu t1c) bx3 fun V17 m17 bx3 => ?_
    replace HB := Xhb HB m17; replace bx0 := Xbb bx0 m17; replace bx1 := Xbb bx1 m17; replace bx2 := Xbb bx2 m17
    replace LN := hide (LN.out.mv m17 (fun g hg h => by have h : g = b3 := h; have := AF.out g hg; omega))
    replace M1 := hide (M1.out.mv m17 (fun g hg h => by have h : g = b3 := h; have := AM1.out g hg; omega))
    clear m17
    refine sv (.int .i64 C1) ?_
    refine nt (hK _ _ ?_); clear hK K; refine sk fun K hK => sk fun K hK => rl ?_
    by_cases hC1 : ¬ C1 = 0
    · refine sv (.int .i64 C1) ?_
      refine sg (.bool true) (h := by have h0 := hC1; go_simp) ?_
      refine nt (hK _ _ ?_); clear hK K; refine ct (sk fun K hK => rl ?_)
      refine sl6 bx2 ?_
      refine ss6 (.int .i64 q.base) (.slice xa q.nw xc) (.int .i64 q.want) (.slice ya q.ng yc) (.slice za q.nd zc) (.slice ta q.nu tc) bx1 fun V18 m18 bx1 => ?_
      replace HB := Xhb HB m18
      replace LN := hide (LN.out.mv m18 (fun g hg h => by have h : g = b1 := h; have := AF.out g hg; omega))
      replace M1 := hide (M1.out.mv m18 (fun g hg h => by have h : g = b1 := h; have := AM1.out g hg; omega))
      clear m18
      refine sv (.bool false) ?_
      refine nt (hK _ _ ?_); clear hK K; refine wp_ret (then_ret ?_); refine inb_ret ?_; refine then_ret (then_ret ?_); refine inb_ret ?_; refine then_ret ?_
      have hE := HG.out.2.2.2 hC1
      have hb0 : (decide (C1 = 0) && b2_ && b3_) = false := by rw [decide_eq_false hC1]; rfl
      have hq : L3 = q := congrArg Prod.fst hE
      have hA : (q, false) = A := by have := HG.out.1; rw [hb0, hq] at this; simpa using this
      subst hA
      try simp only [Exit.then, Exit.inBlock, ↓reduceIte, Nat.reduceEqDiff]
      obtain ⟨_, q1_0, q1_1, q1_2, q1_3, q1_4, q1_5⟩ := box6 bx1.out
      exact bodyPost_ret (v := .tuple #[.agg #[.int .i64 q.base, .slice xa q.nw xc, .int .i64 q.want, .slice ya q.ng yc, .slice za q.nd zc, .slice ta q.nu tc], .bool false]) (by simp [results, Try.results27, go_sem, q1_0, q1_1, q1_2, q1_3, q1_4, q1_5]) rfl ⟨_, _, _, _, rfl, (LN.out.rebase (fun g h => (AF.out g h).1)), HB.out.below⟩
    have hC0 : C1 = 0 := by omega
    subst hC0
    clear hC1
    refine sv (.int .i64 0) ?_
    refine sg (.bool false) ?_
    refine nt (hK _ _ ?_); clear hK K; refine cf (wp_skip (then_normal (hK _ _ ?_))); clear hK K; refine sk fun K hK => rl ?_
    clear LN
    refine sl6 bx3 ?_
    have szT := lt_of_block bx3.out
    have szW := HB.out.size
    refine sw_call (by rfl) (by first | rfl | (go_simp; done)) (l8All_3 L1 x1a y1a z1a t1a x1c y1c z1c t1c V17 M1.out f1 (L2, b2_) h2) ?_
    rintro e V19 ⟨wv, gv, dv, uv, rfl, mm, LQ, hnw⟩
    have m19 : Mv (nob) V17 V19 := mm
    refine ⟨_, rfl, ?_⟩
    refine pt ?_
    replace HB := Xhn HB m19; replace bx0 := Xbn bx0 m19; replace bx1 := Xbn bx1 m19; replace bx2 := Xbn bx2 m19
    replace M1 := hide (M1.out.mv m19 (fun _ _ h => h))
    replace bx3 := Xbn bx3 m19
    obtain ⟨x2a, x2c, rfl, _⟩ := LQ.wa.form
    obtain ⟨y2a, y2c, rfl, _⟩ := LQ.go.form
    obtain ⟨z2a, z2c, rfl, _⟩ := LQ.dn.form
    obtain ⟨t2a, t2c, rfl, _⟩ := LQ.up.form
    have M2 := hide LQ
    have AM2 : Hid (∀ g, Lrb (.slice x2a L2.nw x2c) (.slice y2a L2.ng y2c) (.slice z2a L2.nd z2c) (.slice t2a L2.nu t2c) g → w.heap.size ≤ g ∧ g ≠ b0 ∧ g ≠ b1 ∧ g ≠ b2 ∧ g ≠ b3) := hide (fun g h => (hnw g h).elim (fun h2 => by have := AM1.out g h2; omega) (fun h2 => by omega))
    clear LQ szT szW mm hnw M1; clear m19
    refine sv (.tuple #[.agg #[.int .i64 L2.base, .slice x2a L2.nw x2c, .int .i64 L2.want, .slice y2a L2.ng y2c, .slice z2a L2.nd z2c, .slice t2a L2.nu t2c], .bool b2_]) ?_
    refine sv (.agg #[.int .i64 L2.base, .slice x2a L2.nw x2c, .int .i64 L2.want, .slice y2a L2.ng y2c, .slice z2a L2.nd z2c, .slice t2a L2.nu t2c]) ?_
    refine sv (.bool b2_) ?_
    refine sbp #[.int .i64 0, .slice none 0 0, .int .i64 0, .slice none 0 0, .slice none 0 0, .slice none 0 0] 30 fun V20 b4 hb4 m20 bx4 => ?_
    have o0_4 := Xlo bx0 hb4; have o1_4 := Xlo bx1 hb4; have o2_4 := Xlo bx2 hb4; have o3_4 := Xlo bx3 hb4
    replace AM2 : Hid (∀ g, Lrb (.slice x2a L2.nw x2c) (.slice y2a L2.ng y2c) (.slice z2a L2.nd z2c) (.slice t2a L2.nu t2c) g → w.heap.size ≤ g ∧ g ≠ b0 ∧ g ≠ b1 ∧ g ≠ b2 ∧ g ≠ b3 ∧ g ≠ b4) := hide (fun g h => by have h1 := AM2.out g h; have h2 := (M2.out.lt g h).2; omega)
    replace HB := Xhn HB m20; replace bx0 := Xbn bx0 m20; replace bx1 := Xbn bx1 m20; replace bx2 := Xbn bx2 m20; replace bx3 := Xbn bx3 m20
    replace M2 := hide (M2.out.mv m20 (fun _ _ h => h))
    clear hb4 m20
    refine ss6 (.int .i64 L2.base) (.slice x2a L2.nw x2c) (.int .i64 L2.want) (.slice y2a L2.ng y2c) (.slice z2a L2.nd z2c) (.slice t2a L2.nu t2c) bx4 fun V21 m21 bx4 => ?_
    replace HB := Xhb HB m21; replace bx0 := Xbb bx0 m21; replace bx1 := Xbb bx1 m21; replace bx2 := Xbb bx2 m21; replace bx3 := Xbb bx3 m21
    replace M2 := hide (M2.out.mv m21 (fun g hg h => by have h : g = b4 := h; have := AM2.out g hg; omega))
    clear m21
    refine sv (.bool b2_) ?_
    refine nt (hK _ _ ?_); clear hK K; refine sk fun K hK => rl ?_
    refine sl6 bx4 ?_
    have szT := lt_of_block bx4.out
    have szW := HB.out.size
    refine sw_call (by rfl) (by first | rfl | (go_simp; done)) (l8All_4 L2 x2a y2a z2a t2a x2c y2c z2c t2c V21 M2.out f2 (L3, b3_) h3) ?_
    rintro e V22 ⟨wv, gv, dv, uv, rfl, mm, LQ, hnw⟩
    have m22 : Mv (nob) V21 V22 := mm
    refine ⟨_, rfl, ?_⟩
    refine pt ?_
    replace HB := Xhn HB m22; replace bx0 := Xbn bx0 m22; replace bx1 := Xbn bx1 m22; replace bx2 := Xbn bx2 m22; replace bx3 := Xbn bx3 m22
    replace M2 := hide (M2.out.mv m22 (fun _ _ h => h))
    replace bx4 := Xbn bx4 m22
    obtain ⟨x3a, x3c, rfl, _⟩ := LQ.wa.form
    obtain ⟨y3a, y3c, rfl, _⟩ := LQ.go.form
    obtain ⟨z3a, z3c, rfl, _⟩ := LQ.dn.form
    obtain ⟨t3a, t3c, rfl, _⟩ := LQ.up.form
    have M3 := hide LQ
    have AM3 : Hid (∀ g, Lrb (.slice x3a L3.nw x3c) (.slice y3a L3.ng y3c) (.slice z3a L3.nd z3c) (.slice t3a L3.nu t3c) g → w.heap.size ≤ g ∧ g ≠ b0 ∧ g ≠ b1 ∧ g ≠ b2 ∧ g ≠ b3 ∧ g ≠ b4) := hide (fun g h => (hnw g h).elim (fun h2 => by have := AM2.out g h2; omega) (fun h2 => by omega))
    clear LQ szT szW mm hnw M2; clear m22
    refine sv (.tuple #[.agg #[.int .i64 L3.base, .slice x3a L3.nw x3c, .int .i64 L3.want, .slice y3a L3.ng y3c, .slice z3a L3.nd z3c, .slice t3a L3.nu t3c], .bool b3_]) ?_
    refine sv (.agg #[.int .i64 L3.base, .slice x3a L3.nw x3c, .int .i64 L3.want, .slice y3a L3.ng y3c, .slice z3a L3.nd z3c, .slice t3a L3.nu t3c]) ?_
    refine sv (.bool b3_) ?_
    refine sbp #[.int .i64 0, .slice none 0 0, .int .i64 0, .slice none 0 0, .slice none 0 0, .slice none 0 0] 30 fun V23 b5 hb5 m23 bx5 => ?_
    have o0_5 := Xlo bx0 hb5; have o1_5 := Xlo bx1 hb5; have o2_5 := Xlo bx2 hb5; have o3_5 := Xlo bx3 hb5; have o4_5 := Xlo bx4 hb5
    replace AM3 : Hid (∀ g, Lrb (.slice x3a L3.nw x3c) (.slice y3a L3.ng y3c) (.slice z3a L3.nd z3c) (.slice t3a L3.nu t3c) g → w.heap.size ≤ g ∧ g ≠ b0 ∧ g ≠ b1 ∧ g ≠ b2 ∧ g ≠ b3 ∧ g ≠ b4 ∧ g ≠ b5) := hide (fun g h => by have h1 := AM3.out g h; have h2 := (M3.out.lt g h).2; omega)
    replace HB := Xhn HB m23; replace bx0 := Xbn bx0 m23; replace bx1 := Xbn bx1 m23; replace bx2 := Xbn bx2 m23
    replace M3 := hide (M3.out.mv m23 (fun _ _ h => h))
    clear hb5 m23
    refine ss6 (.int .i64 L3.base) (.slice x3a L3.nw x3c) (.int .i64 L3.want) (.slice y3a L3.ng y3c) (.slice z3a L3.nd z3c) (.slice t3a L3.nu t3c) bx5 fun V24 m24 bx5 => ?_
    replace HB := Xhb HB m24; replace bx0 := Xbb bx0 m24; replace bx1 := Xbb bx1 m24; replace bx2 := Xbb bx2 m24
    replace M3 := hide (M3.out.mv m24 (fun g hg h => by have h : g = b5 := h; have := AM3.out g hg; omega))
    clear m24
    refine sv (.bool b3_) ?_
    refine nt (hK _ _ ?_); clear hK K; refine sk fun K hK => rl ?_
    refine sl6 bx5 ?_
    refine ss6 (.int .i64 L3.base) (.slice x3a L3.nw x3c) (.int .i64 L3.want) (.slice y3a L3.ng y3c) (.slice z3a L3.nd z3c) (.slice t3a L3.nu t3c) bx2 fun V25 m25 bx2 => ?_
    replace HB := Xhb HB m25; replace bx0 := Xbb bx0 m25; replace bx1 := Xbb bx1 m25
    replace M3 := hide (M3.out.mv m25 (fun g hg h => by have h : g = b2 := h; have := AM3.out g hg; omega))
    clear m25
    refine nt (hK _ _ ?_); clear hK K; refine sk fun K hK => rl ?_
    by_cases h_b2_ : b2_ = false
    · subst h_b2_
      refine sv (.bool false) ?_
      refine sg (.bool true) ?_
      refine sv (.bool true) ?_
      with_reducible refine sp ?_
      with_reducible refine sp ?_
      refine sg (.bool true) ?_
      refine nt (hK _ _ ?_); clear hK K; refine ct (sk fun K hK => rl ?_)
      refine sl6 bx2 ?_
      refine ss6 (.int .i64 L3.base) (.slice x3a L3.nw x3c) (.int .i64 L3.want) (.slice y3a L3.ng y3c) (.slice z3a L3.nd z3c) (.slice t3a L3.nu t3c) bx1 fun V26 m26 bx1 => ?_
      replace HB := Xhb HB m26
      replace M3 := hide (M3.out.mv m26 (fun g hg h => by have h : g = b1 := h; have := AM3.out g hg; omega))
      clear m26
      refine sv (.bool false) ?_
      refine nt (hK _ _ ?_); clear hK K; refine wp_ret ?_; refine inb_ret ?_; refine then_ret (then_ret ?_); refine inb_ret ?_; refine then_ret ?_
      have hA : (L3, false) = A := by have := HG.out.1; simpa using this
      subst hA
      try simp only [Exit.then, Exit.inBlock, ↓reduceIte, Nat.reduceEqDiff]
      obtain ⟨_, q1_0, q1_1, q1_2, q1_3, q1_4, q1_5⟩ := box6 bx1.out
      exact bodyPost_ret (v := .tuple #[.agg #[.int .i64 L3.base, .slice x3a L3.nw x3c, .int .i64 L3.want, .slice y3a L3.ng y3c, .slice z3a L3.nd z3c, .slice t3a L3.nu t3c], .bool false]) (by simp [results, Try.results27, go_sem, q1_0, q1_1, q1_2, q1_3, q1_4, q1_5]) rfl ⟨_, _, _, _, rfl, (M3.out.rebase (fun g h => (AM3.out g h).1)), HB.out.below⟩
    replace h_b2_ : b2_ = true := by simpa using h_b2_
    subst h_b2_
    by_cases h_b3_ : b3_ = false
    · subst h_b3_
      refine sv (.bool true) ?_
      refine sg (.bool false) ?_
      refine sv (.bool false) ?_
      refine sv (.bool false) ?_
      refine sg (.bool true) ?_
      refine sg (.bool true) ?_
      refine nt (hK _ _ ?_); clear hK K; refine ct (sk fun K hK => rl ?_)
      refine sl6 bx2 ?_
      refine ss6 (.int .i64 L3.base) (.slice x3a L3.nw x3c) (.int .i64 L3.want) (.slice y3a L3.ng y3c) (.slice z3a L3.nd z3c) (.slice t3a L3.nu t3c) bx1 fun V27 m27 bx1 => ?_
      replace HB := Xhb HB m27
      replace M3 := hide (M3.out.mv m27 (fun g hg h => by have h : g = b1 := h; have := AM3.out g hg; omega))
      clear m27
      refine sv (.bool false) ?_
      refine nt (hK _ _ ?_); clear hK K; refine wp_ret ?_; refine inb_ret ?_; refine then_ret (then_ret ?_); refine inb_ret ?_; refine then_ret ?_
      have hA : (L3, false) = A := by have := HG.out.1; simpa using this
      subst hA
      try simp only [Exit.then, Exit.inBlock, ↓reduceIte, Nat.reduceEqDiff]
      obtain ⟨_, q1_0, q1_1, q1_2, q1_3, q1_4, q1_5⟩ := box6 bx1.out
      exact bodyPost_ret (v := .tuple #[.agg #[.int .i64 L3.base, .slice x3a L3.nw x3c, .int .i64 L3.want, .slice y3a L3.ng y3c, .slice z3a L3.nd z3c, .slice t3a L3.nu t3c], .bool false]) (by simp [results, Try.results27, go_sem, q1_0, q1_1, q1_2, q1_3, q1_4, q1_5]) rfl ⟨_, _, _, _, rfl, (M3.out.rebase (fun g h => (AM3.out g h).1)), HB.out.below⟩
    replace h_b3_ : b3_ = true := by simpa using h_b3_
    subst h_b3_
    refine sv (.bool true) ?_
    refine sg (.bool false) ?_
    refine sv (.bool false) ?_
    refine sv (.bool true) ?_
    refine sg (.bool false) ?_
    refine sg (.bool false) ?_
    refine nt (hK _ _ ?_); clear hK K; refine cf (wp_skip (inb_norm (then_normal (hK _ _ ?_)))); clear hK K; refine rl ?_
    refine sv (.int .i64 ((i : Int))) ?_
    refine sg (.int .i64 (((i + 1 : Nat) : Int))) (h := by have hw : IntKind.i64.wrap ((i : Int) + 1) = ((i + 1 : Nat) : Int) := (by rw [i64wrap (by omega)]; omega); go_simp) ?_
    refine sv (.int .i64 (((i + 1 : Nat) : Int))) ?_
    refine nt ?_
    exact ⟨20 - (i + 1), by omega, L3, i + 1, x3a, x3c, y3a, y3c, z3a, z3c, t3a, t3c, _, _, _, _, _, _, _, _, _, _, _, _, _, _, _, _, _, _, _, _, _, _, _, _, _, _, _, _, _, _, _, _, _, _, _, _, _, _, _, _, _, _, _, _, rfl, rfl, (HB.out), (M3.out), (fun g h => by have := AM3.out g h; omega), (⟨HG.out.2.1, by omega, (HG.out.2.2.1 (by simp)).1, (HG.out.2.2.1 (by simp)).2, by have := HG.out.1; simpa using this⟩), (bx0.out), (bx1.out), (bx2.out)⟩

end Go.Proofs.Ytnkocikbapbbmaa
