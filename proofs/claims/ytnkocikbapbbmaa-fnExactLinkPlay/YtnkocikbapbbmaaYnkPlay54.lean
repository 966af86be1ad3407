/- LyB -/
import Derived.Test.YtnkocikbapbbmaaYnkPlay53
/- sizes with their sum, LinkPlay of any link, codes marked and found (written by mkLyB.py) -/
namespace Go.Proofs.Ytnkocikbapbbmaa
open Go.RowKit
open Go.ChangeShapes Go.WideShapes Go.ChangeAt Go.WideMaps Go.WideElems
set_option linter.unusedVariables false
set_option linter.unusedSimpArgs false

set_option maxHeartbeats 2000000 in
theorem szTexts_sum (v : Value) (n : Nat) (s : Nat → ByteArray) (left : Int) (w : World) (h0 : 0 ≤ left) (hm : left ≤ 1048576) (hs : Sg w v 1 n (tF s)) (hn : (n : Int) ≤ 9223372036854775807) (hl : ∀ j, j < n → ((s j).size : Int) ≤ 9223372036854775807) :
    Calls Try.prog 29 #[v, .int .i64 left] w fun e w' => ∃ r : Int, e = .returned (.int .i64 r) ∧ (-1 ≤ r ∧ r ≤ left ∧ (0 ≤ r → r + n ≤ left)) ∧ (0 ≤ r → n ≤ 1048576 ∧ ∀ j, j < n → (s j).size ≤ 1048576) ∧ w' = w := by
  obtain ⟨ad, cap, rfl, hs⟩ := hs
  have hw : wrap64 (left - (n : Int)) = left - n := Go.IntWalk.wrap64_in _ (by omega)
  by_cases h : left < n
  · have hd : decide (left - (n : Int) < 0) = true := by simp; omega
    clear hs hl
    go_enter Try.func29, Try.ntmps29
    go_wp2
    go_ret
    exact ⟨-1, rfl, by omega, fun h => by omega, rfl⟩
  · have hd : decide (left - (n : Int) < 0) = false := by simp; omega
    go_enter Try.func29, Try.ntmps29
    go_wp2
    clear hw hd
    go_loopw [1, 5] (fun l i wr => ∃ (k : Nat) (r : Int), k ≤ n ∧ i = .int .i64 k ∧ l = .int .i64 r ∧ 0 ≤ r ∧ r + n ≤ left ∧ wr = w ∧ Hid (∀ c, c < k → (s c).size ≤ 1048576)) (fun _ i _ => n - (intOf i).toNat)
    case atStart => exact ⟨0, left - n, Nat.zero_le _, rfl, rfl, by omega, by omega, rfl, hide fun c hc => by omega⟩
    case round =>
      obtain ⟨k, r, hk, rfl, rfl, hr0, hrl, rfl, HK⟩ := hrel
      by_cases hlt : k < n
      · obtain ⟨p, off, rfl, hc⟩ := hs (by omega)
        have q0 : wr.cell? ⟨p, off + k, none⟩ = some (.string (s k)) := by
          have := hc k hlt 0 (by omega)
          rwa [Nat.mul_one, Nat.add_zero] at this
        have hLk := hl k hlt
        have hk0 : (0 : Int) ≤ (k : Int) := by omega
        have hk1 : (k : Int) < (n : Int) := by omega
        have HS : Hid (∀ c, c < k + 1 → c ≠ k → (s c).size ≤ 1048576) := hide (fun c hc hne => HK.out c (by omega))
        have hw2 : wrap64 (r - ((s k).size : Int)) = r - (s k).size := Go.IntWalk.wrap64_in _ (by omega)
        have HSK : Hid (∀ m, (s k).size = m → m ≤ 1048576 → ∀ c, c < k + 1 → (s c).size ≤ 1048576) := hide (fun m hm1 hm2 c hc => by
          by_cases e : c = k
          · subst e; omega
          · exact HS.out c hc e)
        clear hs hc hl
        by_cases hx : r < (s k).size
        · have hd : decide (r - ((s k).size : Int) < 0) = true := by simp; omega
          go_wp2
          go_ret
          exact ⟨-1, rfl, by omega, fun h => by omega, by first | rfl | trivial⟩
        · have hd : decide (r - ((s k).size : Int) < 0) = false := by simp; omega
          have HK2 := hide (HSK.out _ rfl (by omega))
          go_wp2
          go_roundw
          case rel => exact ⟨k + 1, r - (s k).size, by omega, by go_num, rfl, by omega, by omega, by first | rfl | trivial, HK2⟩
          case measure => simp [intOf]; omega
      · clear hs
        go_wp2
        go_ret
        exact ⟨r, rfl, by omega, fun _ => ⟨by omega, fun c hc => HK.out c (by omega)⟩, by first | rfl | trivial⟩


set_option maxHeartbeats 2000000 in
theorem szWires_sum (v : Value) (n : Nat) (t : Nat → ByteArray) (hh : Nat → Bool) (left : Int) (w : World) (h0 : 0 ≤ left) (hm : left ≤ 1048576) (hs : Sg w v 2 n (wF t hh)) (hn : (n : Int) ≤ 9223372036854775807) (hl : ∀ j, j < n → ((t j).size : Int) ≤ 9223372036854775807) :
    Calls Try.prog 30 #[v, .int .i64 left] w fun e w' => ∃ r : Int, e = .returned (.int .i64 r) ∧ (-1 ≤ r ∧ r ≤ left ∧ (0 ≤ r → r + n ≤ left)) ∧ (0 ≤ r → n ≤ 1048576 ∧ ∀ j, j < n → (t j).size ≤ 1048576) ∧ Below w.heap.size w w' := by
  obtain ⟨ad, cap, rfl, hs⟩ := hs
  have hw : wrap64 (left - (n : Int)) = left - n := Go.IntWalk.wrap64_in _ (by omega)
  by_cases h : left < n
  · have hd : decide (left - (n : Int) < 0) = true := by simp; omega
    clear hs hl
    go_enter Try.func30, Try.ntmps30
    go_wp2
    go_ret
    exact ⟨-1, rfl, by omega, fun h => by omega, Below.refl _ _⟩
  · have hd : decide (left - (n : Int) < 0) = false := by simp; omega
    go_enter Try.func30, Try.ntmps30
    go_wp2
    clear hw hd
    go_loopw [1, 5] (fun l i wr => ∃ (k : Nat) (r : Int), k ≤ n ∧ i = .int .i64 k ∧ l = .int .i64 r ∧ 0 ≤ r ∧ r + n ≤ left ∧ Hid (Below w.heap.size w wr) ∧ Hid (∀ c, c < k → (t c).size ≤ 1048576)) (fun _ i _ => n - (intOf i).toNat)
    case atStart => exact ⟨0, left - n, Nat.zero_le _, rfl, rfl, by omega, by omega, hide (Below.refl _ _), hide fun c hc => by omega⟩
    case round =>
      obtain ⟨k, r, hk, rfl, rfl, hr0, hrl, HB, HK⟩ := hrel
      by_cases hlt : k < n
      · obtain ⟨p, off, rfl, hc⟩ := hs (by omega)
        have q0 : wr.cell? ⟨p, off + k * 2, none⟩ = some (.string (t k)) := keepc HB.out (hc k hlt 0 (by omega))
        have q1 : wr.cell? ⟨p, off + k * 2 + 1, none⟩ = some (.bool (hh k)) := keepc HB.out (hc k hlt 1 (by omega))
        have hLk := hl k hlt
        have hk0 : (0 : Int) ≤ (k : Int) := by omega
        have hk1 : (k : Int) < (n : Int) := by omega
        have HSK : Hid ((t k).size ≤ 1048576 → ∀ c, c < k + 1 → (t c).size ≤ 1048576) := hide (fun hm2 c hc => by
          by_cases e : c = k
          · subst e; exact hm2
          · exact HK.out c (by omega))
        clear hs hc hl
        generalize t k = tk at q0 hLk HSK
        generalize hh k = hk' at q1
        go_wp2_with fail
        refine (szWire_any tk hk' r _ hr0 (by omega) hLk).mono ?_
        rintro e w2 ⟨rfl, hb2⟩
        have HB2 := hide (HB.out.trans (hb2.mono HB.out.size))
        clear hb2 q0 q1
        by_cases hx : r < tk.size
        · rw [if_pos hx]
          go_wp2
          go_ret
          exact ⟨-1, rfl, by omega, fun h => by omega, HB2.out⟩
        · rw [if_neg hx]
          have hd : decide (r - (tk.size : Int) < 0) = false := by simp; omega
          have HK2 := hide (HSK.out (by omega))
          go_wp2
          go_roundw
          case rel => exact ⟨k + 1, r - tk.size, by omega, by go_num, rfl, by omega, by omega, HB2, HK2⟩
          case measure => simp [intOf]; omega
      · clear hs
        go_wp2
        go_ret
        exact ⟨r, rfl, by omega, fun _ => ⟨by omega, fun c hc => HK.out c (by omega)⟩, HB.out⟩


set_option maxHeartbeats 4000000 in
set_option maxRecDepth 20000 in
theorem szLink_sum (b k : Int) (wv gv dv uv : Value) (p : Lk) (w : World) (hv : Lv w wv gv dv uv p) (hs : Lsm 9223372036854775807 p) :
    Calls Try.prog 7 #[.agg (l6 b wv k gv dv uv), .int .i64 1048576] w fun e w' => ∃ r : Int, e = .returned (.int .i64 r) ∧ (0 ≤ r → Lsm 1048576 p ∧ r + p.nw + p.ng + p.nd + p.nu ≤ 1048576) ∧ r ≤ 1048576 ∧ Below w.heap.size w w' := by
  have hA : Below w.heap.size w (w.alloc (.cells (l6 b wv k gv dv uv) 25)) := (Below.refl _ _).alloc (Nat.le_refl _) _
  have qa := heap_alloc_new w (.cells (l6 b wv k gv dv uv) 25)
  have HV := hide (hv.below hA)
  obtain ⟨⟨wa, wc, rfl, _⟩, ⟨ga, gc, rfl, _⟩, ⟨da, dc, rfl, _⟩, ⟨ua, uc, rfl, _⟩⟩ := hv
  obtain ⟨_, x0, x1, x2, x3, x4, x5⟩ := box6 qa
  obtain ⟨s1, s2, s3, s4⟩ := hs
  go_enter Try.func7, Try.ntmps7
  go_wp2_with fail
  refine (szTexts_sum _ p.nw p.ws 1048576 _ (by decide) (by decide) HV.out.wa (by omega) (fun j hj => by have := s1.2 j hj; omega)).mono ?_
  rintro e w1 ⟨r1, rfl, hr1, hp1, hw1⟩
  subst hw1
  by_cases hx1 : r1 < 0
  · go_wp2
    go_ret
    exact ⟨-1, rfl, fun h => by omega, by decide, hA⟩
  have P1 := hide (hp1 (by omega))
  clear hp1
  go_wp2_with fail
  refine (szTexts_sum _ p.ng p.gs r1 _ (by omega) (by omega) HV.out.go (by omega) (fun j hj => by have := s2.2 j hj; omega)).mono ?_
  rintro e w1 ⟨r2, rfl, hr2, hp2, hw1⟩
  subst hw1
  by_cases hx2 : r2 < 0
  · go_wp2
    go_ret
    exact ⟨-1, rfl, fun h => by omega, by decide, hA⟩
  have P2 := hide (hp2 (by omega))
  clear hp2
  go_wp2_with fail
  refine (szWires_sum _ p.nd p.dt p.dh r2 _ (by omega) (by omega) HV.out.dn (by omega) (fun j hj => by have := s3.2 j hj; omega)).mono ?_
  rintro e w3 ⟨r3, rfl, hr3, hp3, hb3⟩
  have HB3 := hide (hA.trans (hb3.mono hA.size))
  have qa3 := heap_bl qa hb3
  have HV3 := hide (HV.out.below hb3)
  by_cases hx3 : r3 < 0
  · go_wp2
    go_ret
    exact ⟨-1, rfl, fun h => by omega, by decide, HB3.out⟩
  have P3 := hide (hp3 (by omega))
  clear hp3 hb3 HV x0 x1 x2 x3 x4 x5 qa hA
  obtain ⟨_, x0, x1, x2, x3, x4, x5⟩ := box6 qa3
  go_wp2_with fail
  refine (szWires_sum _ p.nu p.ut p.uh r3 _ (by omega) (by omega) HV3.out.up (by omega) (fun j hj => by have := s4.2 j hj; omega)).mono ?_
  rintro e w4 ⟨r4, rfl, hr4, hp4, hb4⟩
  have HB4 := hide (HB3.out.trans (hb4.mono HB3.out.size))
  clear hb4 HV3 x0 x1 x2 x3 x4 x5 qa3 HB3
  by_cases hx4 : r4 < 0
  · go_wp2
    go_ret
    exact ⟨-1, rfl, fun h => by omega, by decide, HB4.out⟩
  have P4 := hide (hp4 (by omega))
  clear hp4
  go_wp2
  go_ret
  exact ⟨r4, rfl, fun _ => ⟨⟨P1.out, P2.out, P3.out, P4.out⟩, by omega⟩, by omega, HB4.out⟩


/-- what a row of acts comes to, whatever the link is -/
def ppB (p : Lk) (n : Nat) : Bool := lkB p && decide (n ≤ 200)
def ppL (p : Lk) (s : Nat → Ac4) (n : Nat) : Lk := if ppB p n then plN s n p else zeL
def ppN (p : Lk) (n : Nat) : Nat := if ppB p n then n else 0
theorem pp_sm (p : Lk) (s : Nat → Ac4) (n : Nat) : Lsm 1048576 (ppL p s n) ∧ ppN p n ≤ 200 := by
  unfold ppL ppN
  cases h : ppB p n with
  | true =>
    simp only [ppB, Bool.and_eq_true, decide_eq_true_eq] at h
    exact ⟨(pl_lf (lk_iff.1 h.1) n).sm, h.2⟩
  | false => exact ⟨zeL_sm, by simp⟩
theorem implPlay_any (p : Lk) (wv gv dv uv : Value) (w : World) (ha : La w wv gv dv uv p) (hsm : Lsm 1048576 p) (s : Nat → Ac4) (sv : Value) (n : Nat) (hs : Sg w sv 4 n (aF s)) (L : Lk) (N : Nat) (hL : ppL p s n = L) (hN : ppN p n = N) :
    Calls Try.prog 21 #[.agg (l6 p.base wv p.want gv dv uv), sv] w (PlP w L N (fun c => pcN s p c)) := by
  obtain ⟨ad, cap, rfl, hc⟩ := hs
  cases h : ppB p n with
  | true =>
    rw [← hL, ← hN, show ppL p s n = plN s n p from by simp [ppL, h], show ppN p n = n from by simp [ppN, h]]
    simp only [ppB, Bool.and_eq_true, decide_eq_true_eq] at h
    exact implPlay_yes p wv gv dv uv w ha (lk_iff.1 h.1) s ad n cap hc h.2
  | false =>
    rw [← hL, ← hN, show ppL p s n = zeL from by simp [ppL, h], show ppN p n = 0 from by simp [ppN, h]]
    refine (implPlay_no p wv gv dv uv w ha hsm ad n cap ?_).mono ?_
    · cases hl : lkB p with
      | false => exact .inl rfl
      | true =>
        refine .inr ⟨rfl, ?_⟩
        simp only [ppB, hl, Bool.true_and, decide_eq_false_iff_not] at h
        omega
    · rintro e w' ⟨rfl, hb⟩
      exact ⟨_, _, _, _, _, rfl, zeL_lr _ _, rg_nil _ _ _ _, fun x e => absurd e (by simp [rb]), hb⟩
theorem specPlay_any (p : Lk) (wv gv dv uv : Value) (w : World) (ha : La w wv gv dv uv p) (hsm : Lsm 1048576 p) (s : Nat → Ac4) (sv : Value) (n : Nat) (hs : Sg w sv 4 n (aF s)) (L : Lk) (N : Nat) (hL : ppL p s n = L) (hN : ppN p n = N) :
    Calls Try.prog 19 #[.agg (l6 p.base wv p.want gv dv uv), sv] w (PlP w L N (fun c => pcN s p c)) := by
  obtain ⟨ad, cap, rfl, hc⟩ := hs
  cases h : ppB p n with
  | true =>
    rw [← hL, ← hN, show ppL p s n = plN s n p from by simp [ppL, h], show ppN p n = n from by simp [ppN, h]]
    simp only [ppB, Bool.and_eq_true, decide_eq_true_eq] at h
    exact specPlay_yes p wv gv dv uv w ha (lk_iff.1 h.1) s ad n cap hc h.2
  | false =>
    rw [← hL, ← hN, show ppL p s n = zeL from by simp [ppL, h], show ppN p n = 0 from by simp [ppN, h]]
    refine (specPlay_no p wv gv dv uv w ha hsm ad n cap ?_).mono ?_
    · cases hl : lkB p with
      | false => exact .inl rfl
      | true =>
        refine .inr ⟨rfl, ?_⟩
        simp only [ppB, hl, Bool.true_and, decide_eq_false_iff_not] at h
        omega
    · rintro e w' ⟨rfl, hb⟩
      exact ⟨_, _, _, _, _, rfl, zeL_lr _ _, rg_nil _ _ _ _, fun x e => absurd e (by simp [rb]), hb⟩

theorem Rg.setI {w : World} {base g off n k : Nat} {c : Nat → Int} {z : Nat} (x : Int) (hr : Rg w base (.slice (some ⟨g, off, none⟩) n k) 1 n (iF c)) (hz : z < n) :
    Rg (w.setCell ⟨g, off + z, none⟩ (.int .i64 x)) base (.slice (some ⟨g, off, none⟩) n k) 1 n (iF (upd c z x)) := by
  obtain ⟨g', off', e, h1, h2, h3, h4, h5⟩ := hr.rows (by omega)
  cases e
  refine .inr ⟨g, off, k, rfl, h1, by omega, h2, h3, h4.set _, fun y hy => ?_⟩
  have c0 := h5 z (by omega)
  by_cases e1 : y = z
  · subst e1
    rw [World.cell?_setCell_same _ _ _ c0, Nat.div_one]
    simp [iF, upd]
  · rw [far_set (by omega), h5 y hy, Nat.div_one]
    simp [iF, upd, e1]
set_option maxHeartbeats 4000000 in
theorem markI_rg (a : Option Addr) (n kc : Nat) (c : Nat → Int) (k0 : Int) (base : Nat) (w : World) (hr : Rg w base (.slice a n kc) 1 n (iF c)) (hn : n ≤ 1048576) (h0 : 0 < k0) (h1 : k0 ≤ 8000000) :
    Calls Try.prog 25 #[.slice a n kc, .int .i64 k0] w fun e w' => e = .returned (.int .i64 (k0 + n)) ∧ Mv (fun g => rb (.slice a n kc) = some g) w w' ∧ Rg w' base (.slice a n kc) 1 n (iF (fun j => k0 + j)) := by
  go_enter Try.func25, Try.ntmps25
  go_wp2
  go_loopw [1, 5] (fun t i wr => ∃ j : Nat, j ≤ n ∧ i = .int .i64 j ∧ t = .int .i64 (k0 + j) ∧ Hid (Mv (fun g => rb (.slice a n kc) = some g) w wr ∧ Rg wr base (.slice a n kc) 1 n (iF (fun x => if x < j then k0 + x else c x)))) (fun _ i _ => n - (intOf i).toNat)
  case atStart => exact ⟨0, Nat.zero_le _, rfl, by simp, hide ⟨Mv.refl _ _, hr.congr (by decide) (fun j hj i hi => by simp [iF])⟩⟩
  case round =>
    clear hr
    obtain ⟨j, hj, rfl, rfl, HI⟩ := hrel
    by_cases hlt : j < n
    · obtain ⟨g, off, e, q1, q2, q3, q4, q5⟩ := HI.out.2.rows (by omega)
      cases e
      have hp := HI.out.2.rbpos (by omega)
      have fr := q4.facts.1
      have hc : wr.cell? ⟨g, off + j, none⟩ = some _ := q5 j (by omega)
      have hj0 : (0 : Int) ≤ (j : Int) := by omega
      have hjn : (j : Int) < (n : Int) := by omega
      have HN : Hid (Mv (fun x => rb (.slice (some ⟨g, off, none⟩) n kc) = some x) w (wr.setCell ⟨g, off + j, none⟩ (.int .i64 (k0 + j))) ∧ Rg (wr.setCell ⟨g, off + j, none⟩ (.int .i64 (k0 + j))) base (.slice (some ⟨g, off, none⟩) n kc) 1 n (iF (fun x => if x < j + 1 then k0 + x else c x))) := by
        refine hide ⟨HI.out.1.step (R := fun x => x = g) (Mv.set (Mv.refl _ _) _ _) (fun x _ e => by subst e; exact hp), (HI.out.2.setI (k0 + j) hlt).congr (by decide) (fun x hx i hi => ?_)⟩
        unfold iF upd
        by_cases e : x = j
        · subst e; simp
        · by_cases e2 : x < j
          · simp [e, e2, show x < j + 1 by omega]
          · simp [e, e2, show ¬ x < j + 1 by omega]
      clear HI q1 q2 q3 q4 q5 hp
      go_wp2
      go_roundw
      case rel => exact ⟨j + 1, by omega, by go_num, by go_num, HN⟩
      case measure => simp [intOf]; omega
    · have e : j = n := by omega
      subst e
      go_wp2
      go_ret
      exact ⟨rfl, HI.out.1, HI.out.2.congr (by decide) (fun x hx i hi => by simp [iF, hx])⟩

set_option maxHeartbeats 4000000 in
theorem heldI_any (v : Value) (n : Nat) (k0 : Int) (w : World) (hn : n ≤ 1048576) (h0 : 0 < k0) (h1 : k0 ≤ 8000000) (hs : Sg w v 1 n (iF (fun j => k0 + j))) :
    Calls Try.prog 26 #[v, .int .i64 k0] w fun e w' => e = .returned (.int .i64 (k0 + n)) ∧ Below w.heap.size w w' := by
  obtain ⟨a, c, rfl, hs⟩ := hs
  go_enter Try.func26, Try.ntmps26
  go_wp2
  go_loopw [1, 5] (fun t i wr => ∃ j : Nat, j ≤ n ∧ i = .int .i64 j ∧ t = .int .i64 (k0 + j) ∧ Below w.heap.size w wr) (fun _ i _ => n - (intOf i).toNat)
  case atStart => exact ⟨0, Nat.zero_le _, rfl, by simp, Below.refl _ _⟩
  case round =>
    obtain ⟨j, hj, rfl, rfl, hbk⟩ := hrel
    by_cases hlt : j < n
    · obtain ⟨p, off, rfl, hc⟩ := hs (by omega)
      have hck : wr.cell? ⟨p, off + j, none⟩ = some (.int .i64 (k0 + j)) := by
        have := Below.keep hbk _ _ (hc j hlt 0 (by omega))
        rwa [Nat.mul_one, Nat.add_zero] at this
      have hj0 : (0 : Int) ≤ (j : Int) := by omega
      have hjn : (j : Int) < (n : Int) := by omega
      clear hc hs
      go_wp2
      go_roundw
      case rel => exact ⟨j + 1, by omega, by go_num, by go_num, hbk⟩
      case measure => simp [intOf]; omega
    · have e : j = n := by omega
      subst e
      go_wp2
      go_ret
      exact ⟨rfl, hbk⟩

set_option maxRecDepth 100000 in
theorem open_lacts {W : World} {H : Type} {enc : TypeId × Value → H} {base : Nat} {spare : Nat → Bool} {held : Bool} {fuel : Nat} {cs : List Value} {x : DataW H × List MemPlace} (h : DataW.trod enc Try.prog W base spare held fuel 43 cs = some x) :
    ∃ (sa : Option Addr) (n sc : Nat) (s : Nat → Ac4), cs = [.slice sa n sc] ∧ Sg W (.slice sa n sc) 4 n (aF s) ∧ n ≤ maxLen ∧ ∀ c, c < n → (s c).d.size ≤ maxLen := by
  have ce : Try.prog.cellsOf 35 = 4 := by kernel_rfl
  have c1 : Try.prog.cellsOf 2 = 1 := by kernel_rfl
  have c2 : Try.prog.cellsOf 9 = 1 := by kernel_rfl
  rcases Go.Deep.open_slice Try.underlying43 h with ⟨rfl, _⟩ | ⟨a, len, cap, m, n, D, Pl, rfl, _, hlc, hcm, hmm, _, hx⟩
  · exact ⟨none, 0, 0, fun _ => ⟨0, 0, 0, ⟨#[]⟩⟩, rfl, ⟨none, 0, rfl, fun hp => absurd hp (by simp)⟩, Nat.zero_le _, fun c hc => absurd hc (by simp)⟩
  · have hlm : len ≤ m := by rw [hmm]; split <;> omega
    have each : ∀ c, ∃ q : Ac4, c < len → q.d.size ≤ maxLen ∧ W.cell? ((a.add (c * 4)).add 0) = some (.int .i64 q.k) ∧ W.cell? ((a.add (c * 4)).add 1) = some (.int .i64 q.z) ∧ W.cell? ((a.add (c * 4)).add 2) = some (.int .i64 q.b) ∧ W.cell? ((a.add (c * 4)).add 3) = some (.string q.d) := by
      intro c
      by_cases hc : c < len
      · obtain ⟨cs', h1, h2⟩ := hx c (by omega)
        rw [ce] at h1
        obtain ⟨_, hlen, hcell⟩ := World.cells?_some h1
        obtain ⟨xs, k, _, _, _, hxl, hf⟩ := DataW.trod_struct Try.underlying35 h2
        match xs, hxl, cs', hlen with
        | [y0, y1, y2, y3], _, [v0, v1, v2, v3], _ =>
          have g0 : DataW.trod enc Try.prog W base spare held k 2 (List.take (Try.prog.cellsOf 2) (List.drop 0 [v0, v1, v2, v3])) = some y0 := hf 0 _ rfl
          have g1 : DataW.trod enc Try.prog W base spare held k 2 (List.take (Try.prog.cellsOf 2) (List.drop 1 [v0, v1, v2, v3])) = some y1 := hf 1 _ rfl
          have g2 : DataW.trod enc Try.prog W base spare held k 2 (List.take (Try.prog.cellsOf 2) (List.drop 2 [v0, v1, v2, v3])) = some y2 := hf 2 _ rfl
          have g3 : DataW.trod enc Try.prog W base spare held k 9 (List.take (Try.prog.cellsOf 9) (List.drop 3 [v0, v1, v2, v3])) = some y3 := hf 3 _ rfl
          rw [c1] at g0 g1 g2
          rw [c2] at g3
          obtain ⟨k0, e0, _⟩ := DataW.trod_int Try.underlying2 g0
          obtain ⟨k1, e1, _⟩ := DataW.trod_int Try.underlying2 g1
          obtain ⟨k2, e2, _⟩ := DataW.trod_int Try.underlying2 g2
          obtain ⟨s, e3, _, hs⟩ := DataW.trod_string Try.underlying9 g3
          simp at e0 e1 e2 e3
          subst e0 e1 e2 e3
          exact ⟨⟨k0, k1, k2, s⟩, fun _ => ⟨hs, by simpa using hcell 0 (by omega), by simpa using hcell 1 (by omega), by simpa using hcell 2 (by omega), by simpa using hcell 3 (by omega)⟩⟩
      · exact ⟨⟨0, 0, 0, ⟨#[]⟩⟩, fun h => absurd h hc⟩
    obtain ⟨q, hq⟩ := Classical.axiomOfChoice each
    obtain ⟨ab, ao, spot⟩ := a
    refine ⟨_, len, cap, q, rfl, ⟨_, cap, rfl, fun hp => ?_⟩, by omega, fun c hc => (hq c hc).1⟩
    have hk0 := (hq 0 hp).2.1
    have hspot : spot = none := by simpa [Addr.add] using World.cell?_spot hk0
    subst hspot
    refine ⟨ab, ao, rfl, fun j hj i hi => ?_⟩
    have h1 := (hq j hj).2
    rw [addrN, addrN, addrN, addrN, addrN] at h1
    match i, hi with
    | 0, _ => exact h1.1
    | 1, _ => exact h1.2.1
    | 2, _ => exact h1.2.2.1
    | 3, _ => exact h1.2.2.2

end Go.Proofs.Ytnkocikbapbbmaa
