/- a look at all slots: Quiet's -/
import Derived.Test.YtelknolcneiikaaDoorMsE
namespace Go.Proofs.YtelknolcneiikaaDoor
open Go.RowKit
set_option linter.unusedVariables false
set_option linter.unusedSimpArgs false

def qB (st wt : Int) : Bool := (wt == 0) && !(st == 3)

/-- a variable that a closure writes -/
def Var (w : World) (Q : Nat) (r : Bool) : Prop := w.heap[Q]? = some (.cells #[.bool r] 4 (0, 0))
theorem Var.facts {w : World} {Q : Nat} {r : Bool} (h : Var w Q r) : w.cell? ⟨Q, 0, none⟩ = some (.bool r) ∧ w.frozen? ⟨Q, 0, none⟩ = false := by
  refine ⟨?_, frozen_of_row w Q 0 _ _ h⟩
  rw [cell_of_row w Q 0 _ _ _ h]; rfl
theorem Var.put {w : World} {Q : Nat} {r : Bool} (h : Var w Q r) (x : Bool) : Var (w.setCell ⟨Q, 0, none⟩ (.bool x)) Q x := heap_setCell_same w Q 0 _ _ (.bool x) h
theorem Var.grown {w w' : World} {Q : Nat} {r : Bool} (h : Var w Q r) (hb : Below w.heap.size w w') : Var w' Q r := (hb.block Q (lt_of_block h)).trans h
theorem grown_put (w : World) (Q : Nat) (v : Value) : w.grownBy (w.setCell ⟨Q, 0, none⟩ v) (some Q) := ⟨rfl, rfl, rfl, by simp, fun k _ hk => heap_setCell_other w ⟨Q, 0, none⟩ k _ (fun e => hk (by simp [e]))⟩
theorem grown_new (w : World) (o : Obj) (row : Option Nat) : w.grownBy (w.alloc o) row := by
  have h := (Below.refl w.heap.size w).alloc (Nat.le_refl _) o
  exact ⟨h.os, h.tape, h.output, h.size, fun k hk _ => h.block k hk⟩

set_option maxHeartbeats 2000000 in
theorem quiet1_any (c l a0 a1 a2 a3 : Int) (Q : Nat) (r : Bool) (w : World) (hQ : Var w Q r) :
    Calls Tryd.prog 31 #[.int .i64 c, .int .i64 l, .agg #[.int .i64 a0, .int .i64 a1, .int .i64 a2, .int .i64 a3], .pointer (some ⟨Q, 0, none⟩)] w fun e w' => e = .returned (.tuple #[]) ∧ Var w' Q (r && qB a0 a2) ∧ w.grownBy w' (some Q) := by
  have hlt := lt_of_block hQ
  have hV : Var (w.alloc (.cells #[.int .i64 a0, .int .i64 a1, .int .i64 a2, .int .i64 a3] 47)) Q r := hQ.grown ((Below.refl _ _).alloc (Nat.le_refl _) _)
  have HP : Hid (Var ((w.setCell ⟨Q, 0, none⟩ (.bool false)).alloc (.cells #[.int .i64 a0, .int .i64 a1, .int .i64 a2, .int .i64 a3] 47)) Q false) := hide ((hQ.put false).grown ((Below.refl _ _).alloc (Nat.le_refl _) _))
  have HG := hide (grown_trans (grown_put w Q (.bool false)) (grown_new (w.setCell ⟨Q, 0, none⟩ (.bool false)) (.cells #[.int .i64 a0, .int .i64 a1, .int .i64 a2, .int .i64 a3] 47) (some Q)))
  have HG0 := hide (grown_new w (.cells #[.int .i64 a0, .int .i64 a1, .int .i64 a2, .int .i64 a3] 47) (some Q))
  obtain ⟨f0, f1⟩ := hV.facts
  have HV := hide hV
  clear hV hQ
  cases hq : qB a0 a2
  · have hor : a2 = 0 ∧ a0 = 3 ∨ (a2 != 0) = true := by
      unfold qB at hq
      by_cases h2 : a2 = 0
      · subst h2
        left
        simp at hq
        exact ⟨rfl, hq⟩
      · right; simp; omega
    clear hq
    rw [Bool.and_false]
    rcases hor with ⟨rfl, rfl⟩ | hor
    all_goals go_enter Tryd.func31, Tryd.ntmps31
    all_goals go_wp2
    all_goals go_end0
    all_goals exact ⟨rfl, HP.out, HG.out⟩
  · have hn : a2 = 0 ∧ (a0 == 3) = false := by
      unfold qB at hq
      simpa using hq
    obtain ⟨rfl, q0⟩ := hn
    clear hq
    rw [Bool.and_true]
    go_enter Tryd.func31, Tryd.ntmps31
    go_wp2
    go_end0
    exact ⟨rfl, HV.out, HG0.out⟩

/-- quiet slots, so many rows, of the last one so many slots -/
def allQ (L : Nat → Nat) (F : Nat → Nat → Nat → Int) (k m : Nat) : Prop := (∀ c, c < k → ∀ j, j < L c → qB (F c j 0) (F c j 2) = true) ∧ ∀ j, j < m → qB (F k j 0) (F k j 2) = true
instance (L : Nat → Nat) (F : Nat → Nat → Nat → Int) (k m : Nat) : Decidable (allQ L F k m) := by unfold allQ; infer_instance
def allB (L : Nat → Nat) (F : Nat → Nat → Nat → Int) (k m : Nat) : Bool := decide (allQ L F k m)
theorem allB_zero (L : Nat → Nat) (F : Nat → Nat → Nat → Int) : allB L F 0 0 = true := decide_eq_true ⟨fun c hc => by omega, fun j hj => by omega⟩
theorem allB_step (L : Nat → Nat) (F : Nat → Nat → Nat → Int) (k m : Nat) : allB L F k (m + 1) = (allB L F k m && qB (F k m 0) (F k m 2)) := by
  unfold allB
  by_cases h : allQ L F k m
  · rw [decide_eq_true h, Bool.true_and]
    cases hq : qB (F k m 0) (F k m 2)
    · exact decide_eq_false (fun h2 => by have := h2.2 m (by omega); rw [hq] at this; cases this)
    · refine decide_eq_true ⟨h.1, fun j hj => ?_⟩
      by_cases e : j = m
      · subst e; exact hq
      · exact h.2 j (by omega)
  · rw [decide_eq_false h, Bool.false_and]
    exact decide_eq_false (fun h2 => h ⟨h2.1, fun j hj => h2.2 j (by omega)⟩)
theorem allB_row (L : Nat → Nat) (F : Nat → Nat → Nat → Int) (k : Nat) : allB L F (k + 1) 0 = allB L F k (L k) := by
  unfold allB
  refine decide_eq_decide.mpr ⟨fun h => ⟨fun c hc => h.1 c (by omega), fun j hj => h.1 k (by omega) j hj⟩, fun h => ⟨fun c hc j hj => ?_, fun j hj => by omega⟩⟩
  by_cases e : c = k
  · subst e; exact h.2 j hj
  · exact h.1 c (by omega) j hj

/-- the world of a look: what lay below base is as it was; the machine's box; the variable -/
structure LW (wS w : World) (Bx Q : Nat) (sv lv mv : Value) (r : Bool) : Prop where
  bel : Below wS.heap.size wS w
  box : w.cell? ⟨Bx, 0, none⟩ = some sv ∧ w.cell? ⟨Bx, 1, none⟩ = some lv ∧ w.cell? ⟨Bx, 2, none⟩ = some mv
  var : Var w Q r
  lQ : wS.heap.size ≤ Q
  ne : Q ≠ Bx
theorem LW.alloc {wS w : World} {Bx Q : Nat} {sv lv mv : Value} {r : Bool} (h : LW wS w Bx Q sv lv mv r) (o : Obj) : LW wS (w.alloc o) Bx Q sv lv mv r := by
  have hb : Below w.heap.size w (w.alloc o) := (Below.refl _ _).alloc (Nat.le_refl _) _
  exact ⟨h.bel.alloc h.bel.size _, ⟨keepc hb h.box.1, keepc hb h.box.2.1, keepc hb h.box.2.2⟩, h.var.grown hb, h.lQ, h.ne⟩
theorem LW.call {wS w w' : World} {Bx Q : Nat} {sv lv mv : Value} {r x : Bool} (h : LW wS w Bx Q sv lv mv r) (hv : Var w' Q x) (hg : w.grownBy w' (some Q)) : LW wS w' Bx Q sv lv mv x := by
  have h1 := h.ne
  refine ⟨h.bel.grown hg h.bel.size (fun k hk => by simp only [Option.some.injEq] at hk; have := h.lQ; omega), ⟨?_, ?_, ?_⟩, hv, h.lQ, h.ne⟩
  · exact hg.cell h.box.1 (fun e => by simp only [Option.some.injEq] at e; omega)
  · exact hg.cell h.box.2.1 (fun e => by simp only [Option.some.injEq] at e; omega)
  · exact hg.cell h.box.2.2 (fun e => by simp only [Option.some.injEq] at e; omega)

theorem LW.next {wS w w' : World} {Bx Q : Nat} {sv lv mv : Value} {r : Bool} (h : LW wS w Bx Q sv lv mv r) (hb : Below w.heap.size w w') : LW wS w' Bx Q sv lv mv r :=
  ⟨h.bel.trans (hb.mono h.bel.size), ⟨keepc hb h.box.1, keepc hb h.box.2.1, keepc hb h.box.2.2⟩, h.var.grown hb, h.lQ, h.ne⟩
theorem LW.put {wS w : World} {Bx Q : Nat} {sv lv mv : Value} {r : Bool} (h : LW wS w Bx Q sv lv mv r) (x : Bool) : LW wS (w.setCell ⟨Q, 0, none⟩ (.bool x)) Bx Q sv lv mv x := h.call (h.var.put x) (grown_put w Q _)

set_option maxHeartbeats 4000000 in
theorem lookQ_any (sa : Option Addr) (C sc : Nat) (lv mv : Value) (L : Nat → Nat) (F : Nat → Nat → Nat → Int) (Q : Nat) (wS w : World) (hs : Ss wS (.slice sa C sc) C L F) (hbS : Below wS.heap.size wS w) (hQ : Var w Q true) (hQS : wS.heap.size ≤ Q) (hC : C ≤ 1048576) (hL : ∀ c, c < C → L c ≤ 1048576) :
    Calls Tryd.prog 30 #[.agg (mc3 (.slice sa C sc) lv mv), .func (.func 31) #[] #[.pointer (some ⟨Q, 0, none⟩)]] w fun e w' => e = .returned (.tuple #[]) ∧ Var w' Q (allB L F C 0) ∧ w.grownBy w' (some Q) := by
  have lw : LW wS (w.alloc (.cells (mc3 (.slice sa C sc) lv mv) 30)) w.heap.size Q (.slice sa C sc) lv mv (allB L F 0 0) := by
    have hb : Below w.heap.size w (w.alloc (.cells (mc3 (.slice sa C sc) lv mv) 30)) := (Below.refl _ _).alloc (Nat.le_refl _) _
    have mb := mb_box w (.slice sa C sc) lv mv 30
    rw [allB_zero]
    exact ⟨hbS.alloc hbS.size _, ⟨mb.2.1, mb.2.2.1, mb.2.2.2⟩, hQ.grown hb, hQS, Nat.ne_of_lt (lt_of_block hQ)⟩
  have HG0 := hide (grown_new w (.cells (mc3 (.slice sa C sc) lv mv) 30) (some Q))
  obtain ⟨ad, cap, hv, hs⟩ := hs
  simp only [Value.slice.injEq, true_and] at hv
  obtain ⟨rfl, rfl⟩ := hv
  clear hQ hbS hQS
  go_enter Tryd.func30, Tryd.ntmps30
  go_wp2
  go_loopw [11] (fun i wr => ∃ k : Nat, k ≤ C ∧ i = .int .i64 k ∧ LW wS wr w.heap.size Q (.slice sa C sc) lv mv (allB L F k 0) ∧ Hid (w.grownBy wr (some Q))) (fun i _ => C - (intOf i).toNat)
  case atStart => exact ⟨0, Nat.zero_le _, rfl, lw, HG0⟩
  case round =>
    obtain ⟨k, hk, rfl, lk, HG⟩ := hrel
    clear lw HG0
    obtain ⟨c0, c1, c2⟩ := lk.box
    by_cases hlt : k < C
    · obtain ⟨p, off, rfl, hc⟩ := hs (by omega)
      obtain ⟨ia, ic, q0', hr⟩ := hc k hlt
      have q0 : wr.cell? ⟨p, off + k, none⟩ = some (.slice ia (L k) ic) := Below.keep lk.bel _ _ q0'
      obtain ⟨iad, icap, hiv, hr⟩ := hr
      simp only [Value.slice.injEq, true_and] at hiv
      obtain ⟨rfl, rfl⟩ := hiv
      have hLk := hL k hlt
      clear hs hc q0'
      go_wp2
      go_loopw [18] (fun i wr => ∃ m : Nat, m ≤ L k ∧ i = .int .i64 m ∧ LW wS wr w.heap.size Q (.slice (some ⟨p, off, none⟩) C sc) lv mv (allB L F k m) ∧ Hid (w.grownBy wr (some Q))) (fun i _ => L k - (intOf i).toNat)
      case atStart => exact ⟨0, Nat.zero_le _, rfl, lk, HG⟩
      case round =>
        obtain ⟨m, hm, rfl, lm, HGm⟩ := hrel
        clear lk c0 c1 c2 q0 HG
        by_cases hlm : m < L k
        · obtain ⟨pi, oi, rfl, hx⟩ := hr (by omega)
          have x0 : wr.cell? ⟨pi, oi + m * 4, none⟩ = some (.int .i64 (F k m 0)) := Below.keep lm.bel _ _ (hx m hlm 0 (by decide))
          have x1 : wr.cell? ⟨pi, oi + m * 4 + 1, none⟩ = some (.int .i64 (F k m 1)) := Below.keep lm.bel _ _ (hx m hlm 1 (by decide))
          have x2 : wr.cell? ⟨pi, oi + m * 4 + 2, none⟩ = some (.int .i64 (F k m 2)) := Below.keep lm.bel _ _ (hx m hlm 2 (by decide))
          have x3 : wr.cell? ⟨pi, oi + m * 4 + 3, none⟩ = some (.int .i64 (F k m 3)) := Below.keep lm.bel _ _ (hx m hlm 3 (by decide))
          clear hx hr
          have lx := lm.alloc (.cells #[.int .i64 (F k m 0), .int .i64 (F k m 1), .int .i64 (F k m 2), .int .i64 (F k m 3)] 47)
          have HGx := hide (grown_trans HGm.out (grown_new wr (.cells #[.int .i64 (F k m 0), .int .i64 (F k m 1), .int .i64 (F k m 2), .int .i64 (F k m 3)] 47) (some Q)))
          have HS := hide (allB_step L F k m)
          clear lm HGm
          go_wp2_with fail
          refine (quiet1_any _ _ _ _ _ _ Q _ _ lx.var).mono ?_
          rintro e w2 ⟨rfl, hv2, hg2⟩
          rw [← HS.out] at hv2
          have ly := lx.call hv2 hg2
          have HGy := hide (grown_trans HGx.out hg2)
          clear lx hv2 hg2 HGx
          go_wp2
          go_roundw
          case rel => exact ⟨m + 1, by omega, by go_num, ly, HGy⟩
          case measure => simp [intOf]; omega
        · have e : m = L k := by omega
          subst e
          have HR := hide (allB_row L F k)
          have lz := lm
          rw [← HR.out] at lz
          clear lm
          go_wp2
          go_roundw
          case rel => exact ⟨k + 1, by omega, by go_num, lz, HGm⟩
          case measure => simp [intOf]; omega
    · have e : k = C := by omega
      subst e
      have HE := hide (And.intro lk.var HG.out)
      clear lk
      go_wp2
      go_end0
      exact ⟨rfl, HE.out.1, HE.out.2⟩
end Go.Proofs.YtelknolcneiikaaDoor
