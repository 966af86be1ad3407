/- LsA, LsB, LsF -/
import Derived.Test.YtgflipkhhpkidaaYPieces1
import Derived.Test.YtgflipkhhpkidaaYPieces45
import Derived.Test.YtgflipkhhpkidaaYPieces49
/- sameTexts, sameWires, sameLink of what reads alike (written by mkLsA.py) -/

namespace Go.Proofs.Ytgflipkhhpkidaa
open Go.RowKit
set_option linter.unusedVariables false
set_option linter.unusedSimpArgs false

theorem Sg.congr {w : World} {v : Value} {m n : Nat} {f g : Nat → Nat → Value} (h : Sg w v m n f) (e : ∀ j, j < n → ∀ i, i < m → f j i = g j i) : Sg w v m n g := by
  obtain ⟨ad, cap, rfl, hs⟩ := h
  refine ⟨ad, cap, rfl, fun h0 => ?_⟩
  obtain ⟨b, off, rfl, hc⟩ := hs h0
  exact ⟨b, off, rfl, fun j hj i hi => (hc j hj i hi).trans (by rw [e j hj i hi])⟩

set_option maxHeartbeats 2000000 in
theorem sameTexts_same (a b : Value) (n : Nat) (s : Nat → ByteArray) (w : World) (ha : Sg w a 1 n (tF s)) (hb : Sg w b 1 n (tF s)) (hl : n ≤ 4194304) :
    Calls Try.prog 14 #[a, b] w fun e w' => e = .returned (.bool true) ∧ Below w.heap.size w w' := by
  obtain ⟨ad, cap, rfl, ha⟩ := ha
  obtain ⟨bd, cbp, rfl, hb⟩ := hb
  go_enter Try.func14, Try.ntmps14
  go_wp2
  go_loopw [5] (fun i wr => ∃ k : Nat, k ≤ n ∧ i = .int .i64 k ∧ Below w.heap.size w wr) (fun i _ => n - (intOf i).toNat)
  case atStart => exact ⟨0, Nat.zero_le _, rfl, Below.refl _ _⟩
  case round =>
    obtain ⟨k, hk, rfl, hbk⟩ := hrel
    by_cases hlt : k < n
    · obtain ⟨p, off, rfl, hc⟩ := ha (by omega)
      obtain ⟨q, off', rfl, hd⟩ := hb (by omega)
      have hck : wr.cell? ⟨p, off + k, none⟩ = some (.string (s k)) := by
        have := Below.keep hbk _ _ (hc k hlt 0 (by omega))
        rwa [Nat.mul_one, Nat.add_zero] at this
      have hdk : wr.cell? ⟨q, off' + k, none⟩ = some (.string (s k)) := by
        have := Below.keep hbk _ _ (hd k hlt 0 (by omega))
        rwa [Nat.mul_one, Nat.add_zero] at this
      have hss := str_self (s k)
      generalize s k = z at hck hdk hss
      clear hc hd ha hb
      go_wp2
      go_quiet (fail)
      all_goals go_wp2
      all_goals go_roundw
      case rel => exact ⟨k + 1, by omega, by go_num, below_drewN hbk _⟩
      case measure => simp [intOf]; omega
    · go_wp2
      go_ret
      exact ⟨rfl, hbk⟩

set_option maxHeartbeats 2000000 in
theorem sameWires_same (a b : Value) (n : Nat) (t : Nat → ByteArray) (h : Nat → Bool) (w : World) (ha : Sg w a 2 n (wF t h)) (hb : Sg w b 2 n (wF t h)) (hl : n ≤ 4194304) :
    Calls Try.prog 28 #[a, b] w fun e w' => e = .returned (.bool true) ∧ Below w.heap.size w w' := by
  obtain ⟨ad, cap, rfl, ha⟩ := ha
  obtain ⟨bd, cbp, rfl, hb⟩ := hb
  go_enter Try.func28, Try.ntmps28
  go_wp2
  go_loopw [5] (fun i wr => ∃ k : Nat, k ≤ n ∧ i = .int .i64 k ∧ Below w.heap.size w wr) (fun i _ => n - (intOf i).toNat)
  case atStart => exact ⟨0, Nat.zero_le _, rfl, Below.refl _ _⟩
  case round =>
    obtain ⟨k, hk, rfl, hbk⟩ := hrel
    by_cases hlt : k < n
    · obtain ⟨p, off, rfl, hc⟩ := ha (by omega)
      obtain ⟨q, off', rfl, hd⟩ := hb (by omega)
      have c0 : wr.cell? ⟨p, off + k * 2, none⟩ = some (.string (t k)) := Below.keep hbk _ _ (hc k hlt 0 (by decide))
      have c1 : wr.cell? ⟨p, off + k * 2 + 1, none⟩ = some (.bool (h k)) := Below.keep hbk _ _ (hc k hlt 1 (by decide))
      have d0 : wr.cell? ⟨q, off' + k * 2, none⟩ = some (.string (t k)) := Below.keep hbk _ _ (hd k hlt 0 (by decide))
      have d1 : wr.cell? ⟨q, off' + k * 2 + 1, none⟩ = some (.bool (h k)) := Below.keep hbk _ _ (hd k hlt 1 (by decide))
      have hss := str_self (t k)
      generalize t k = tk at c0 d0 hss
      generalize h k = hk' at c1 d1
      clear hc hd ha hb
      have hk0 : (0 : Int) ≤ (k : Int) := by omega
      have hk1 : (k : Int) < (n : Int) := by omega
      cases hk'
      all_goals
        go_wp2
        go_quiet (fail)
        all_goals go_wp2
        all_goals go_roundw
        case rel => exact ⟨k + 1, by omega, by go_num, below_drewN hbk _⟩
        case measure => simp [intOf]; omega
    · go_wp2
      go_ret
      exact ⟨rfl, hbk⟩

end Go.Proofs.Ytgflipkhhpkidaa

/- sameLink of links that read alike (written by mkLsB.py) -/
namespace Go.Proofs.Ytgflipkhhpkidaa
open Go.RowKit
set_option linter.unusedVariables false
set_option linter.unusedSimpArgs false

set_option maxHeartbeats 4000000 in
set_option maxRecDepth 20000 in
theorem sameLink_same (p : Lk) (wv gv dv uv wv2 gv2 dv2 uv2 : Value) (w : World) (ha : Lv w wv gv dv uv p) (hb : Lv w wv2 gv2 dv2 uv2 p) (hs : Lsm 1048576 p) :
    Calls Try.prog 11 #[.agg (l6 p.base wv p.want gv dv uv), .agg (l6 p.base wv2 p.want gv2 dv2 uv2)] w fun e w' => e = .returned (.bool true) ∧ Below w.heap.size w w' := by
  have ha0 := hide ha
  have hb0 := hide hb
  obtain ⟨⟨s1, _⟩, ⟨s2, _⟩, ⟨s3, _⟩, ⟨s4, _⟩⟩ := hs
  clear ha hb
  have HB : Hid (Mv nob w w) := hide (Mv.refl _ _)
  go_enter Try.func11, Try.ntmps11
  repeat (first | (with_reducible refine wp_seq_k (fun K hK => ?_)) | (with_reducible refine then_normal ?_) | ((with_reducible refine hK _ _ ?_); clear hK K) | (with_reducible refine wpList_nil ?_) | (with_reducible refine wp_region_lit ?_) | ((with_reducible refine is_cond ?_); first | refine wp_cond_true (by rfl) ?_ | refine wp_cond_false (by rfl) ?_) | (with_reducible refine wp_block ?_) | (with_reducible refine wp_skip ?_) | (with_reducible refine wp_ret ?_) | (with_reducible refine wp_exit ?_))
  refine sbp #[.int .i64 p.base, wv, .int .i64 p.want, gv, dv, uv] 27 fun V1 b0 hb0 m1 bx0 => ?_
  have o_0 : w.heap.size ≤ b0 := by omega
  replace HB := Xhn HB m1
  clear hb0 m1
  refine sbp #[.int .i64 p.base, wv2, .int .i64 p.want, gv2, dv2, uv2] 27 fun V2 b1 hb1 m2 bx1 => ?_
  have o0_1 := Xlo bx0 hb1
  replace HB := Xhn HB m2
  replace bx0 := Xbn bx0 m2
  clear hb1 m2
  refine sv (.bool false) ?_
  repeat (first | (with_reducible refine wp_seq_k (fun K hK => ?_)) | (with_reducible refine then_normal ?_) | ((with_reducible refine hK _ _ ?_); clear hK K) | (with_reducible refine wpList_nil ?_) | (with_reducible refine wp_region_lit ?_) | ((with_reducible refine is_cond ?_); first | refine wp_cond_true (by rfl) ?_ | refine wp_cond_false (by rfl) ?_) | (with_reducible refine wp_block ?_) | (with_reducible refine wp_skip ?_) | (with_reducible refine wp_ret ?_) | (with_reducible refine wp_exit ?_))
  refine sv (.pointer (some ⟨b0, 0, none⟩)) ?_
  refine sl 0 bx0 ?_
  refine sv (.pointer (some ⟨b1, 0, none⟩)) ?_
  refine sl 0 bx1 ?_
  refine sg (.bool true) ?_
  refine sv (.bool true) ?_
  refine sv (.pointer (some ⟨b0, 2, none⟩)) ?_
  refine sl 2 bx0 ?_
  refine sv (.pointer (some ⟨b1, 2, none⟩)) ?_
  refine sl 2 bx1 ?_
  refine sg (.bool true) ?_
  refine sg (.bool true) ?_
  refine sv (.bool true) ?_
  refine sv (.pointer (some ⟨b0, 1, none⟩)) ?_
  refine sl 1 bx0 ?_
  refine sv (.pointer (some ⟨b1, 1, none⟩)) ?_
  refine sl 1 bx1 ?_
  refine sw_call (by rfl) (by first | rfl | (go_simp; done)) (sameTexts_same wv wv2 _ _ V2 (ha0.out.below HB.out.below).wa (hb0.out.below HB.out.below).wa (by omega)) ?_
  rintro e V3 ⟨rfl, hbV3⟩
  have m3 : Mv (nob) V2 V3 := Mv.of_below hbV3
  refine ⟨_, rfl, ?_⟩
  refine pt ?_
  replace HB := Xhn HB m3
  replace bx0 := Xbn bx0 m3
  replace bx1 := Xbn bx1 m3
  clear m3
  refine sg (.bool true) ?_
  refine sv (.bool true) ?_
  refine sv (.pointer (some ⟨b0, 3, none⟩)) ?_
  refine sl 3 bx0 ?_
  refine sv (.pointer (some ⟨b1, 3, none⟩)) ?_
  refine sl 3 bx1 ?_
  refine sw_call (by rfl) (by first | rfl | (go_simp; done)) (sameTexts_same gv gv2 _ _ V3 (ha0.out.below HB.out.below).go (hb0.out.below HB.out.below).go (by omega)) ?_
  rintro e V4 ⟨rfl, hbV4⟩
  have m4 : Mv (nob) V3 V4 := Mv.of_below hbV4
  refine ⟨_, rfl, ?_⟩
  refine pt ?_
  replace HB := Xhn HB m4
  replace bx0 := Xbn bx0 m4
  replace bx1 := Xbn bx1 m4
  clear m4
  refine sg (.bool true) ?_
  refine sv (.bool true) ?_
  refine sv (.pointer (some ⟨b0, 4, none⟩)) ?_
  refine sl 4 bx0 ?_
  refine sv (.pointer (some ⟨b1, 4, none⟩)) ?_
  refine sl 4 bx1 ?_
  refine sw_call (by rfl) (by first | rfl | (go_simp; done)) (sameWires_same dv dv2 _ _ _ V4 (ha0.out.below HB.out.below).dn (hb0.out.below HB.out.below).dn (by omega)) ?_
  rintro e V5 ⟨rfl, hbV5⟩
  have m5 : Mv (nob) V4 V5 := Mv.of_below hbV5
  refine ⟨_, rfl, ?_⟩
  refine pt ?_
  replace HB := Xhn HB m5
  replace bx0 := Xbn bx0 m5
  replace bx1 := Xbn bx1 m5
  clear m5
  refine sg (.bool true) ?_
  refine sv (.bool true) ?_
  refine sv (.pointer (some ⟨b0, 5, none⟩)) ?_
  refine sl 5 bx0 ?_
  refine sv (.pointer (some ⟨b1, 5, none⟩)) ?_
  refine sl 5 bx1 ?_
  refine sw_call (by rfl) (by first | rfl | (go_simp; done)) (sameWires_same uv uv2 _ _ _ V5 (ha0.out.below HB.out.below).up (hb0.out.below HB.out.below).up (by omega)) ?_
  rintro e V6 ⟨rfl, hbV6⟩
  have m6 : Mv (nob) V5 V6 := Mv.of_below hbV6
  refine ⟨_, rfl, ?_⟩
  refine pt ?_
  replace HB := Xhn HB m6
  replace bx0 := Xbn bx0 m6
  replace bx1 := Xbn bx1 m6
  clear m6
  refine sg (.bool true) ?_
  refine sv (.bool true) ?_
  repeat (first | (with_reducible refine wp_seq_k (fun K hK => ?_)) | (with_reducible refine then_normal ?_) | ((with_reducible refine hK _ _ ?_); clear hK K) | (with_reducible refine wpList_nil ?_) | (with_reducible refine wp_region_lit ?_) | ((with_reducible refine is_cond ?_); first | refine wp_cond_true (by rfl) ?_ | refine wp_cond_false (by rfl) ?_) | (with_reducible refine wp_block ?_) | (with_reducible refine wp_skip ?_) | (with_reducible refine wp_ret ?_) | (with_reducible refine wp_exit ?_))
  try simp only [Exit.then, Exit.inBlock, ↓reduceIte, Nat.reduceEqDiff]
  exact bodyPost_ret (v := .bool true) (by simp [results, Try.results11, go_sem]) rfl ⟨rfl, HB.out.below⟩

end Go.Proofs.Ytgflipkhhpkidaa

/- what an act of a link leaves, plainly; what FnLinkDone wants besides -/
namespace Go.Proofs.Ytgflipkhhpkidaa
open Go.RowKit
set_option linter.unusedVariables false
set_option linter.unusedSimpArgs false

/-- nothing that was got is lost -/
def Gm (p q : Lk) : Prop := p.base ≤ q.base ∧ p.want ≤ q.want ∧ q.want ≤ p.want + 1 ∧ p.ng ≤ q.ng ∧ ∀ j, j < p.ng → q.gs j = p.gs j
theorem Gm.alike {p q : Lk} (h1 : p.base ≤ q.base) (h2 : q.want = p.want) (h3 : q.ng = p.ng) (h4 : q.gs = p.gs) : Gm p q := ⟨h1, by omega, by omega, by omega, fun j _ => by rw [h4]⟩
theorem act_gm (p : Lk) (k z bit : Int) (body : ByteArray) : Gm p (actL p k z bit body) := by
  have ho : Gm p (offL p body) := Gm.alike (Int.le_refl _) rfl rfl rfl
  have hs : Gm p (sndL p) := Gm.alike (Int.le_refl _) rfl rfl rfl
  have hd : Gm p (outD p z.toNat) := Gm.alike (Int.le_refl _) rfl rfl rfl
  have hu : Gm p (outU p z.toNat) := Gm.alike (Int.le_refl _) rfl rfl rfl
  have hf : Gm p (flipD p z.toNat bit.toNat) := Gm.alike (Int.le_refl _) rfl rfl rfl
  have hg : Gm p (flipU p z.toNat bit.toNat) := Gm.alike (Int.le_refl _) rfl rfl rfl
  have hc : Gm p (comeD p z.toNat) := by
    unfold comeD
    split
    · unfold dgL
      split
      · exact ⟨Int.le_refl _, show p.want ≤ p.want + 1 by omega, show p.want + 1 ≤ p.want + 1 by omega, show p.ng ≤ p.ng + 1 by omega, fun j hj => if_pos hj⟩
      · exact Gm.alike (Int.le_refl _) rfl rfl rfl
    · exact hd
  have hv : Gm p (comeU p z.toNat) := by
    unfold comeU
    split
    · unfold ackL
      split
      · rename_i h
        have h2 : p.base < Flit.rS (p.ut z.toNat) := by
          have : ackB p.base p.want (Flit.rS (p.ut z.toNat)) = true := h
          simp only [ackB, Bool.and_eq_true, decide_eq_true_eq] at this
          exact this.1
        exact Gm.alike (show p.base ≤ Flit.rS (p.ut z.toNat) by omega) rfl rfl rfl
      · exact hu
    · exact hu
  unfold actL
  repeat' split
  all_goals assumption
theorem done_says (p : Lk) (k z bit : Int) (body : ByteArray) : Lsm 1048576 (doL p k z bit body) ∧ ((doC p k z bit body = 1 ∧ lkB p = false) ∨ (doC p k z bit body ≠ 1 ∧ doC p k z bit body ≠ 0 ∧ p = doL p k z bit body ∧ lkB p = true) ∨ (doC p k z bit body = 0 ∧ lkB p = true ∧ lkB (doL p k z bit body) = true ∧ Gm p (doL p k z bit body))) := by
  cases h : lkB p with
  | false =>
    rw [show doL p k z bit body = zeL from by simp [doL, h], show doC p k z bit body = 1 from by simp [doC, h]]
    exact ⟨(lk_iff.1 (show lkB zeL = true by decide)).sm, .inl ⟨rfl, rfl⟩⟩
  | true =>
    rw [show doL p k z bit body = ldL p k z bit body from by simp [doL, h], show doC p k z bit body = ldC p k z bit body from by simp [doC, h]]
    have hf := ld_lf (lk_iff.1 h) k z bit body
    refine ⟨hf.sm, .inr ?_⟩
    by_cases hc : ldC p k z bit body = 0
    · exact .inr ⟨hc, rfl, lk_iff.2 hf, by rw [ldL_ok hc]; exact act_gm p k z bit body⟩
    · refine .inl ⟨?_, hc, (ldL_no hc).symm, rfl⟩
      unfold ldC at hc ⊢
      split
      · rename_i h1
        rw [if_pos h1] at hc
        split
        · split <;> decide
        · unfold actC flC
          repeat' split
          all_goals decide
      · decide
end Go.Proofs.Ytgflipkhhpkidaa
