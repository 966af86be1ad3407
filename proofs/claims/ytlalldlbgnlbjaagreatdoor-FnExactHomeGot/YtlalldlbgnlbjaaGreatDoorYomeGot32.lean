/- HmL -/
import Derived.Test.YtlalldlbgnlbjaaGreatDoorYomeGot30
import Derived.Test.YtlalldlbgnlbjaaGreatDoorYomeGot31
/- rows of ids, requests, messages: marked, found again, compared (written by mkHmL.py) -/
namespace Go.Proofs.YtlalldlbgnlbjaaGreatDoor
open Go.RowKit
set_option linter.unusedVariables false
set_option linter.unusedSimpArgs false

theorem Rg.setx {w : World} {base g off n k m p : Nat} {f : Nat → Nat → Int} (x : Nat) (z : Int) (hr : Rg w base (.slice (some ⟨g, off, none⟩) n k) m n (gF f)) (hm : 0 < m) (hx : x < n * m) (hp : p = off + x) :
    Rg (w.setCell ⟨g, p, none⟩ (.int .i64 z)) base (.slice (some ⟨g, off, none⟩) n k) m n (gF (fun j i => if j * m + i = x then z else f j i)) := by
  subst hp
  have hn : 0 < n := by
    rcases Nat.eq_zero_or_pos n with h | h
    · subst h; simp at hx
    · exact h
  obtain ⟨g', off', e, h1, h2, h3, h4, h5⟩ := hr.rows hn
  cases e
  refine .inr ⟨g, off, k, rfl, h1, by omega, h2, h3, h4.set _, fun y hy => ?_⟩
  have c0 := h5 x hx
  have ey : y / m * m + y % m = y := by rw [Nat.mul_comm]; exact Nat.div_add_mod y m
  by_cases e1 : y = x
  · subst e1
    rw [World.cell?_setCell_same _ _ _ c0]
    simp [gF, ey]
  · rw [far_set (by omega), h5 y hy]
    simp [gF, ey, e1]
def mkF (k0 : Int) (m : Nat) (f : Nat → Nat → Int) (y : Nat) : Nat → Nat → Int := fun j i => if j * m + i < y then k0 + ((j * m + i : Nat) : Int) else f j i
abbrev mkA (k0 : Int) (m : Nat) : Nat → Nat → Int := fun j i => k0 + ((j * m + i : Nat) : Int)
theorem Rg.markx {w : World} {base g off n k m p y : Nat} {f : Nat → Nat → Int} {k0 z : Int} (hr : Rg w base (.slice (some ⟨g, off, none⟩) n k) m n (gF (mkF k0 m f y))) (hm : 0 < m) (hx : y < n * m) (hp : p = off + y) (hz : z = k0 + (y : Int)) :
    Rg (w.setCell ⟨g, p, none⟩ (.int .i64 z)) base (.slice (some ⟨g, off, none⟩) n k) m n (gF (mkF k0 m f (y + 1))) := by
  refine (hr.setx y z hm hx hp).congr hm (fun j hj i hi => ?_)
  simp only [gF, mkF]
  by_cases e : j * m + i = y
  · rw [if_pos e, if_pos (by omega), hz, e]
  · rw [if_neg e]
    by_cases e2 : j * m + i < y
    · rw [if_pos e2, if_pos (by omega)]
    · rw [if_neg e2, if_neg (by omega)]

set_option maxHeartbeats 4000000 in
theorem markI_rg (a : Option Addr) (n kc : Nat) (f : Nat → Nat → Int) (k0 : Int) (base : Nat) (w : World) (hr : Rg w base (.slice a n kc) 1 n (gF f)) (hn : n ≤ 1048576) (h0 : 0 < k0) (h1 : k0 ≤ 100000000) :
    Calls Tryz.prog 37 #[.slice a n kc, .int .i64 k0] w fun e w' => e = .returned (.int .i64 (k0 + n)) ∧ Mv (fun g => rb (.slice a n kc) = some g) w w' ∧ Rg w' base (.slice a n kc) 1 n (gF (mkA k0 1)) := by
  go_enter Tryz.func37, Tryz.ntmps37
  go_wp2
  go_loopw [1, 5] (fun t i wr => ∃ j : Nat, j ≤ n ∧ i = .int .i64 j ∧ t = .int .i64 (k0 + j) ∧ Hid (Mv (fun g => rb (.slice a n kc) = some g) w wr ∧ Rg wr base (.slice a n kc) 1 n (gF (mkF k0 1 f (j * 1))))) (fun _ i _ => n - (intOf i).toNat)
  case atStart => exact ⟨0, Nat.zero_le _, rfl, by simp, hide ⟨Mv.refl _ _, hr.congr (by decide) (fun j hj i hi => by simp [gF, mkF])⟩⟩
  case round =>
    clear hr
    obtain ⟨j, hj, rfl, rfl, HI⟩ := hrel
    by_cases hlt : j < n
    · obtain ⟨g, off, e, q1, q2, q3, q4, q5⟩ := HI.out.2.rows (by omega)
      cases e
      have hp := HI.out.2.rbpos (by omega)
      have fr := q4.facts.1
      have q0 := HI.out.2
      obtain ⟨o0, c0⟩ := q4.facts.2 (off + j) (by omega)
      have hj0 : (0 : Int) ≤ (j : Int) := by omega
      have hjn : (j : Int) < (n : Int) := by omega
      have HN : Hid (Mv (fun x => rb (.slice (some ⟨g, off, none⟩) n kc) = some x) w (wr.setCell ⟨g, off + j, none⟩ (.int .i64 (k0 + j))) ∧ Rg (wr.setCell ⟨g, off + j, none⟩ (.int .i64 (k0 + j))) base (.slice (some ⟨g, off, none⟩) n kc) 1 n (gF (mkF k0 1 f ((j + 1) * 1)))) := by
        refine hide ⟨(HI.out.1).step (R := fun x => x = g) (Mv.set (Mv.refl _ _) _ _) (fun x _ e => by subst e; exact hp), ?_⟩
        have e : (j + 1) * 1 = j * 1 + 0 + 1 := by omega
        rw [e]
        exact (q0).markx (y := j * 1 + 0) (by decide) (by omega) (by omega) (by push_cast; omega)
      clear HI q0 q1 q2 q3 q4 q5 hp
      go_wp2
      go_roundw
      case rel => exact ⟨j + 1, by omega, by go_num, by go_num, HN⟩
      case measure => simp [intOf]; omega
    · have e : j = n := by omega
      subst e
      go_wp2
      go_ret
      exact ⟨rfl, HI.out.1, HI.out.2.congr (by decide) (fun x hx i hi => by have hq : x * 1 + i < j * 1 := (by omega); simp only [gF, mkF, mkA, if_pos hq])⟩

set_option maxHeartbeats 4000000 in
theorem heldI_any (v : Value) (n : Nat) (k0 : Int) (w : World) (hn : n ≤ 1048576) (h0 : 0 < k0) (h1 : k0 ≤ 100000000) (hs : Sg w v 1 n (gF (mkA k0 1))) :
    Calls Tryz.prog 39 #[v, .int .i64 k0] w fun e w' => e = .returned (.int .i64 (k0 + n)) ∧ Below w.heap.size w w' := by
  obtain ⟨a, c, rfl, hs⟩ := hs
  go_enter Tryz.func39, Tryz.ntmps39
  go_wp2
  go_loopw [1, 5] (fun t i wr => ∃ j : Nat, j ≤ n ∧ i = .int .i64 j ∧ t = .int .i64 (k0 + j) ∧ Below w.heap.size w wr) (fun _ i _ => n - (intOf i).toNat)
  case atStart => exact ⟨0, Nat.zero_le _, rfl, by simp, Below.refl _ _⟩
  case round =>
    obtain ⟨j, hj, rfl, rfl, hbk⟩ := hrel
    by_cases hlt : j < n
    · obtain ⟨p, off, rfl, hc⟩ := hs (by omega)
      have x0 : wr.cell? ⟨p, off + j, none⟩ = some (.int .i64 (k0 + j)) := by
        have := Below.keep hbk _ _ (hc j hlt 0 (by omega))
        simp only [gF, mkA] at this
        rw [show (k0 + j : Int) = k0 + ((j * 1 + 0 : Nat) : Int) from by push_cast; omega]
        simpa using this
      have hj0 : (0 : Int) ≤ (j : Int) := by omega
      have hjn : (j : Int) < (n : Int) := by omega
      clear hc hs
      go_wp2
      go_roundw
      case rel => exact ⟨j + 1, by omega, by go_num, by go_num, hbk⟩
      case measure => simp [intOf]; omega
    · have e : j = n := by omega
      subst e
      go_wp2
      go_ret
      exact ⟨rfl, hbk⟩

set_option maxHeartbeats 4000000 in
theorem markR_rg (a : Option Addr) (n kc : Nat) (f : Nat → Nat → Int) (k0 : Int) (base : Nat) (w : World) (hr : Rg w base (.slice a n kc) 2 n (gF f)) (hn : n ≤ 1048576) (h0 : 0 < k0) (h1 : k0 ≤ 100000000) :
    Calls Tryz.prog 38 #[.slice a n kc, .int .i64 k0] w fun e w' => e = .returned (.int .i64 (k0 + 2 * n)) ∧ Mv (fun g => rb (.slice a n kc) = some g) w w' ∧ Rg w' base (.slice a n kc) 2 n (gF (mkA k0 2)) := by
  go_enter Tryz.func38, Tryz.ntmps38
  go_wp2
  go_loopw [1, 5] (fun t i wr => ∃ j : Nat, j ≤ n ∧ i = .int .i64 j ∧ t = .int .i64 (k0 + 2 * j) ∧ Hid (Mv (fun g => rb (.slice a n kc) = some g) w wr ∧ Rg wr base (.slice a n kc) 2 n (gF (mkF k0 2 f (j * 2))))) (fun _ i _ => n - (intOf i).toNat)
  case atStart => exact ⟨0, Nat.zero_le _, rfl, by simp, hide ⟨Mv.refl _ _, hr.congr (by decide) (fun j hj i hi => by simp [gF, mkF])⟩⟩
  case round =>
    clear hr
    obtain ⟨j, hj, rfl, rfl, HI⟩ := hrel
    by_cases hlt : j < n
    · obtain ⟨g, off, e, q1, q2, q3, q4, q5⟩ := HI.out.2.rows (by omega)
      cases e
      have hp := HI.out.2.rbpos (by omega)
      have fr := q4.facts.1
      have q0 := HI.out.2
      obtain ⟨o0, c0⟩ := q4.facts.2 (off + j * 2) (by omega)
      obtain ⟨o1, c1⟩ := q4.facts.2 (off + j * 2 + 1) (by omega)
      have hj0 : (0 : Int) ≤ (j : Int) := by omega
      have hjn : (j : Int) < (n : Int) := by omega
      have HN : Hid (Mv (fun x => rb (.slice (some ⟨g, off, none⟩) n kc) = some x) w ((wr.setCell ⟨g, off + j * 2, none⟩ (.int .i64 (k0 + 2 * j))).setCell ⟨g, off + j * 2 + 1, none⟩ (.int .i64 (k0 + 2 * j + 1))) ∧ Rg ((wr.setCell ⟨g, off + j * 2, none⟩ (.int .i64 (k0 + 2 * j))).setCell ⟨g, off + j * 2 + 1, none⟩ (.int .i64 (k0 + 2 * j + 1))) base (.slice (some ⟨g, off, none⟩) n kc) 2 n (gF (mkF k0 2 f ((j + 1) * 2)))) := by
        refine hide ⟨((HI.out.1).step (R := fun x => x = g) (Mv.set (Mv.refl _ _) _ _) (fun x _ e => by subst e; exact hp)).step (R := fun x => x = g) (Mv.set (Mv.refl _ _) _ _) (fun x _ e => by subst e; exact hp), ?_⟩
        have e : (j + 1) * 2 = j * 2 + 1 + 1 := by omega
        rw [e]
        exact ((q0).markx (y := j * 2 + 0) (by decide) (by omega) (by omega) (by push_cast; omega)).markx (y := j * 2 + 1) (by decide) (by omega) (by omega) (by push_cast; omega)
      clear HI q0 q1 q2 q3 q4 q5 hp
      go_wp2
      go_roundw
      case rel => exact ⟨j + 1, by omega, by go_num, by go_num, HN⟩
      case measure => simp [intOf]; omega
    · have e : j = n := by omega
      subst e
      go_wp2
      go_ret
      exact ⟨rfl, HI.out.1, HI.out.2.congr (by decide) (fun x hx i hi => by have hq : x * 2 + i < j * 2 := (by omega); simp only [gF, mkF, mkA, if_pos hq])⟩

set_option maxHeartbeats 4000000 in
theorem heldR_any (v : Value) (n : Nat) (k0 : Int) (w : World) (hn : n ≤ 1048576) (h0 : 0 < k0) (h1 : k0 ≤ 100000000) (hs : Sg w v 2 n (gF (mkA k0 2))) :
    Calls Tryz.prog 40 #[v, .int .i64 k0] w fun e w' => e = .returned (.int .i64 (k0 + 2 * n)) ∧ Below w.heap.size w w' := by
  obtain ⟨a, c, rfl, hs⟩ := hs
  go_enter Tryz.func40, Tryz.ntmps40
  go_wp2
  go_loopw [1, 5] (fun t i wr => ∃ j : Nat, j ≤ n ∧ i = .int .i64 j ∧ t = .int .i64 (k0 + 2 * j) ∧ Below w.heap.size w wr) (fun _ i _ => n - (intOf i).toNat)
  case atStart => exact ⟨0, Nat.zero_le _, rfl, by simp, Below.refl _ _⟩
  case round =>
    obtain ⟨j, hj, rfl, rfl, hbk⟩ := hrel
    by_cases hlt : j < n
    · obtain ⟨p, off, rfl, hc⟩ := hs (by omega)
      have x0 : wr.cell? ⟨p, off + j * 2, none⟩ = some (.int .i64 (k0 + 2 * j)) := by
        have := Below.keep hbk _ _ (hc j hlt 0 (by omega))
        simp only [gF, mkA] at this
        rw [show (k0 + 2 * j : Int) = k0 + ((j * 2 + 0 : Nat) : Int) from by push_cast; omega]
        simpa using this
      have x1 : wr.cell? ⟨p, off + j * 2 + 1, none⟩ = some (.int .i64 (k0 + 2 * j + 1)) := by
        have := Below.keep hbk _ _ (hc j hlt 1 (by omega))
        simp only [gF, mkA] at this
        rw [show (k0 + 2 * j + 1 : Int) = k0 + ((j * 2 + 1 : Nat) : Int) from by push_cast; omega]
        simpa using this
      have hj0 : (0 : Int) ≤ (j : Int) := by omega
      have hjn : (j : Int) < (n : Int) := by omega
      clear hc hs
      go_wp2
      go_roundw
      case rel => exact ⟨j + 1, by omega, by go_num, by go_num, hbk⟩
      case measure => simp [intOf]; omega
    · have e : j = n := by omega
      subst e
      go_wp2
      go_ret
      exact ⟨rfl, hbk⟩

set_option maxHeartbeats 4000000 in
theorem markM_rg (a : Option Addr) (n kc : Nat) (f : Nat → Nat → Int) (k0 : Int) (base : Nat) (w : World) (hr : Rg w base (.slice a n kc) 6 n (gF f)) (hn : n ≤ 1048576) (h0 : 0 < k0) (h1 : k0 ≤ 100000000) :
    Calls Tryz.prog 13 #[.slice a n kc, .int .i64 k0] w fun e w' => e = .returned (.int .i64 (k0 + 6 * n)) ∧ Mv (fun g => rb (.slice a n kc) = some g) w w' ∧ Rg w' base (.slice a n kc) 6 n (gF (mkA k0 6)) := by
  go_enter Tryz.func13, Tryz.ntmps13
  go_wp2
  go_loopw [1, 5] (fun t i wr => ∃ j : Nat, j ≤ n ∧ i = .int .i64 j ∧ t = .int .i64 (k0 + 6 * j) ∧ Hid (Mv (fun g => rb (.slice a n kc) = some g) w wr ∧ Rg wr base (.slice a n kc) 6 n (gF (mkF k0 6 f (j * 6))))) (fun _ i _ => n - (intOf i).toNat)
  case atStart => exact ⟨0, Nat.zero_le _, rfl, by simp, hide ⟨Mv.refl _ _, hr.congr (by decide) (fun j hj i hi => by simp [gF, mkF])⟩⟩
  case round =>
    clear hr
    obtain ⟨j, hj, rfl, rfl, HI⟩ := hrel
    by_cases hlt : j < n
    · obtain ⟨g, off, e, q1, q2, q3, q4, q5⟩ := HI.out.2.rows (by omega)
      cases e
      have hp := HI.out.2.rbpos (by omega)
      have fr := q4.facts.1
      have q0 := HI.out.2
      obtain ⟨o0, c0⟩ := q4.facts.2 (off + j * 6) (by omega)
      obtain ⟨o1, c1⟩ := q4.facts.2 (off + j * 6 + 1) (by omega)
      obtain ⟨o2, c2⟩ := q4.facts.2 (off + j * 6 + 2) (by omega)
      obtain ⟨o3, c3⟩ := q4.facts.2 (off + j * 6 + 3) (by omega)
      obtain ⟨o4, c4⟩ := q4.facts.2 (off + j * 6 + 4) (by omega)
      obtain ⟨o5, c5⟩ := q4.facts.2 (off + j * 6 + 5) (by omega)
      have hj0 : (0 : Int) ≤ (j : Int) := by omega
      have hjn : (j : Int) < (n : Int) := by omega
      have HN : Hid (Mv (fun x => rb (.slice (some ⟨g, off, none⟩) n kc) = some x) w ((((((wr.setCell ⟨g, off + j * 6, none⟩ (.int .i64 (k0 + 6 * j))).setCell ⟨g, off + j * 6 + 1, none⟩ (.int .i64 (k0 + 6 * j + 1))).setCell ⟨g, off + j * 6 + 2, none⟩ (.int .i64 (k0 + 6 * j + 1 + 1))).setCell ⟨g, off + j * 6 + 3, none⟩ (.int .i64 (k0 + 6 * j + 1 + 1 + 1))).setCell ⟨g, off + j * 6 + 4, none⟩ (.int .i64 (k0 + 6 * j + 1 + 1 + 1 + 1))).setCell ⟨g, off + j * 6 + 5, none⟩ (.int .i64 (k0 + 6 * j + 1 + 1 + 1 + 1 + 1))) ∧ Rg ((((((wr.setCell ⟨g, off + j * 6, none⟩ (.int .i64 (k0 + 6 * j))).setCell ⟨g, off + j * 6 + 1, none⟩ (.int .i64 (k0 + 6 * j + 1))).setCell ⟨g, off + j * 6 + 2, none⟩ (.int .i64 (k0 + 6 * j + 1 + 1))).setCell ⟨g, off + j * 6 + 3, none⟩ (.int .i64 (k0 + 6 * j + 1 + 1 + 1))).setCell ⟨g, off + j * 6 + 4, none⟩ (.int .i64 (k0 + 6 * j + 1 + 1 + 1 + 1))).setCell ⟨g, off + j * 6 + 5, none⟩ (.int .i64 (k0 + 6 * j + 1 + 1 + 1 + 1 + 1))) base (.slice (some ⟨g, off, none⟩) n kc) 6 n (gF (mkF k0 6 f ((j + 1) * 6)))) := by
        refine hide ⟨((((((HI.out.1).step (R := fun x => x = g) (Mv.set (Mv.refl _ _) _ _) (fun x _ e => by subst e; exact hp)).step (R := fun x => x = g) (Mv.set (Mv.refl _ _) _ _) (fun x _ e => by subst e; exact hp)).step (R := fun x => x = g) (Mv.set (Mv.refl _ _) _ _) (fun x _ e => by subst e; exact hp)).step (R := fun x => x = g) (Mv.set (Mv.refl _ _) _ _) (fun x _ e => by subst e; exact hp)).step (R := fun x => x = g) (Mv.set (Mv.refl _ _) _ _) (fun x _ e => by subst e; exact hp)).step (R := fun x => x = g) (Mv.set (Mv.refl _ _) _ _) (fun x _ e => by subst e; exact hp), ?_⟩
        have e : (j + 1) * 6 = j * 6 + 5 + 1 := by omega
        rw [e]
        exact ((((((q0).markx (y := j * 6 + 0) (by decide) (by omega) (by omega) (by push_cast; omega)).markx (y := j * 6 + 1) (by decide) (by omega) (by omega) (by push_cast; omega)).markx (y := j * 6 + 2) (by decide) (by omega) (by omega) (by push_cast; omega)).markx (y := j * 6 + 3) (by decide) (by omega) (by omega) (by push_cast; omega)).markx (y := j * 6 + 4) (by decide) (by omega) (by omega) (by push_cast; omega)).markx (y := j * 6 + 5) (by decide) (by omega) (by omega) (by push_cast; omega)
      clear HI q0 q1 q2 q3 q4 q5 hp
      go_wp2
      go_roundw
      case rel => exact ⟨j + 1, by omega, by go_num, by go_num, HN⟩
      case measure => simp [intOf]; omega
    · have e : j = n := by omega
      subst e
      go_wp2
      go_ret
      exact ⟨rfl, HI.out.1, HI.out.2.congr (by decide) (fun x hx i hi => by have hq : x * 6 + i < j * 6 := (by omega); simp only [gF, mkF, mkA, if_pos hq])⟩

set_option maxHeartbeats 4000000 in
theorem heldM_any (v : Value) (n : Nat) (k0 : Int) (w : World) (hn : n ≤ 1048576) (h0 : 0 < k0) (h1 : k0 ≤ 100000000) (hs : Sg w v 6 n (gF (mkA k0 6))) :
    Calls Tryz.prog 15 #[v, .int .i64 k0] w fun e w' => e = .returned (.int .i64 (k0 + 6 * n)) ∧ Below w.heap.size w w' := by
  obtain ⟨a, c, rfl, hs⟩ := hs
  go_enter Tryz.func15, Tryz.ntmps15
  go_wp2
  go_loopw [1, 5] (fun t i wr => ∃ j : Nat, j ≤ n ∧ i = .int .i64 j ∧ t = .int .i64 (k0 + 6 * j) ∧ Below w.heap.size w wr) (fun _ i _ => n - (intOf i).toNat)
  case atStart => exact ⟨0, Nat.zero_le _, rfl, by simp, Below.refl _ _⟩
  case round =>
    obtain ⟨j, hj, rfl, rfl, hbk⟩ := hrel
    by_cases hlt : j < n
    · obtain ⟨p, off, rfl, hc⟩ := hs (by omega)
      have x0 : wr.cell? ⟨p, off + j * 6, none⟩ = some (.int .i64 (k0 + 6 * j)) := by
        have := Below.keep hbk _ _ (hc j hlt 0 (by omega))
        simp only [gF, mkA] at this
        rw [show (k0 + 6 * j : Int) = k0 + ((j * 6 + 0 : Nat) : Int) from by push_cast; omega]
        simpa using this
      have x1 : wr.cell? ⟨p, off + j * 6 + 1, none⟩ = some (.int .i64 (k0 + 6 * j + 1)) := by
        have := Below.keep hbk _ _ (hc j hlt 1 (by omega))
        simp only [gF, mkA] at this
        rw [show (k0 + 6 * j + 1 : Int) = k0 + ((j * 6 + 1 : Nat) : Int) from by push_cast; omega]
        simpa using this
      have x2 : wr.cell? ⟨p, off + j * 6 + 2, none⟩ = some (.int .i64 (k0 + 6 * j + 1 + 1)) := by
        have := Below.keep hbk _ _ (hc j hlt 2 (by omega))
        simp only [gF, mkA] at this
        rw [show (k0 + 6 * j + 1 + 1 : Int) = k0 + ((j * 6 + 2 : Nat) : Int) from by push_cast; omega]
        simpa using this
      have x3 : wr.cell? ⟨p, off + j * 6 + 3, none⟩ = some (.int .i64 (k0 + 6 * j + 1 + 1 + 1)) := by
        have := Below.keep hbk _ _ (hc j hlt 3 (by omega))
        simp only [gF, mkA] at this
        rw [show (k0 + 6 * j + 1 + 1 + 1 : Int) = k0 + ((j * 6 + 3 : Nat) : Int) from by push_cast; omega]
        simpa using this
      have x4 : wr.cell? ⟨p, off + j * 6 + 4, none⟩ = some (.int .i64 (k0 + 6 * j + 1 + 1 + 1 + 1)) := by
        have := Below.keep hbk _ _ (hc j hlt 4 (by omega))
        simp only [gF, mkA] at this
        rw [show (k0 + 6 * j + 1 + 1 + 1 + 1 : Int) = k0 + ((j * 6 + 4 : Nat) : Int) from by push_cast; omega]
        simpa using this
      have x5 : wr.cell? ⟨p, off + j * 6 + 5, none⟩ = some (.int .i64 (k0 + 6 * j + 1 + 1 + 1 + 1 + 1)) := by
        have := Below.keep hbk _ _ (hc j hlt 5 (by omega))
        simp only [gF, mkA] at this
        rw [show (k0 + 6 * j + 1 + 1 + 1 + 1 + 1 : Int) = k0 + ((j * 6 + 5 : Nat) : Int) from by push_cast; omega]
        simpa using this
      have hj0 : (0 : Int) ≤ (j : Int) := by omega
      have hjn : (j : Int) < (n : Int) := by omega
      clear hc hs
      go_wp2
      go_roundw
      case rel => exact ⟨j + 1, by omega, by go_num, by go_num, hbk⟩
      case measure => simp [intOf]; omega
    · have e : j = n := by omega
      subst e
      go_wp2
      go_ret
      exact ⟨rfl, hbk⟩

end Go.Proofs.YtlalldlbgnlbjaaGreatDoor
