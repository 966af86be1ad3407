/- LqB -/
import Derived.Test.YtlalldlbgnlbjaaGreatDoorYomeGot18
/- impl.LineOk -/
namespace Go.Proofs.YtlalldlbgnlbjaaGreatDoor
open Go.RowKit
set_option linter.unusedVariables false
set_option linter.unusedSimpArgs false

/-- a right line -/
def lineP (mem ow : Int) (zs : List Int) (bu wt ac : Int) (n : Nat) (f : Nat → Nat → Int) : Prop :=
  (0 ≤ mem ∧ mem ≤ 1000000) ∧ (0 ≤ ow ∧ ow ≤ 5) ∧ Ids.ok zs = true ∧
  ((bu = 0 ∧ wt = 0 ∧ ac = 0 ∧ n = 0) ∨ ((1 ≤ bu ∧ bu ≤ 5) ∧ (1 ≤ wt ∧ wt ≤ 2) ∧ (1 ≤ ac ∧ ac ≤ 5) ∧ n ≤ 10 ∧ ∀ j, j < n → reqB (f j 0) (f j 1) = true))
open Classical in
noncomputable def lineB (mem ow : Int) (zs : List Int) (bu wt ac : Int) (n : Nat) (f : Nat → Nat → Int) : Bool := decide (lineP mem ow zs bu wt ac n f)
theorem lineB_yes {mem ow : Int} {zs : List Int} {bu wt ac : Int} {n : Nat} {f : Nat → Nat → Int} (h : lineP mem ow zs bu wt ac n f) : true = lineB mem ow zs bu wt ac n f := by simp [lineB, h]
theorem lineB_no {mem ow : Int} {zs : List Int} {bu wt ac : Int} {n : Nat} {f : Nat → Nat → Int} (h : ¬ lineP mem ow zs bu wt ac n f) : false = lineB mem ow zs bu wt ac n f := by simp [lineB, h]

/-- a busy line's own part -/
def busyP (bu wt ac : Int) (n : Nat) (f : Nat → Nat → Int) : Prop := (1 ≤ bu ∧ bu ≤ 5) ∧ (1 ≤ wt ∧ wt ≤ 2) ∧ (1 ≤ ac ∧ ac ≤ 5) ∧ n ≤ 10 ∧ ∀ j, j < n → reqB (f j 0) (f j 1) = true
open Classical in
noncomputable def busyB (bu wt ac : Int) (n : Nat) (f : Nat → Nat → Int) : Bool := decide (busyP bu wt ac n f)
theorem busyB_yes {bu wt ac : Int} {n : Nat} {f : Nat → Nat → Int} (h : busyP bu wt ac n f) : true = busyB bu wt ac n f := by simp [busyB, h]
theorem busyB_no {bu wt ac : Int} {n : Nat} {f : Nat → Nat → Int} (h : ¬ busyP bu wt ac n f) : false = busyB bu wt ac n f := by simp [busyB, h]

abbrev ln7 (mem ow : Int) (sv : Value) (bu wt ac : Int) (qv : Value) : Array Value := #[.int .i64 mem, .int .i64 ow, sv, .int .i64 bu, .int .i64 wt, .int .i64 ac, qv]
/-- a line's box -/
def LB (w : World) (B : Nat) (mem ow : Int) (sv : Value) (bu wt ac : Int) (qv : Value) (wx : World) : Prop :=
  Below w.heap.size w wx ∧ wx.cell? ⟨B, 0, none⟩ = some (.int .i64 mem) ∧ wx.cell? ⟨B, 1, none⟩ = some (.int .i64 ow) ∧ wx.cell? ⟨B, 2, none⟩ = some sv ∧ wx.cell? ⟨B, 3, none⟩ = some (.int .i64 bu) ∧ wx.cell? ⟨B, 4, none⟩ = some (.int .i64 wt) ∧ wx.cell? ⟨B, 5, none⟩ = some (.int .i64 ac) ∧ wx.cell? ⟨B, 6, none⟩ = some qv
theorem LB.next {w wx wy : World} {B : Nat} {mem ow : Int} {sv : Value} {bu wt ac : Int} {qv : Value} (h : LB w B mem ow sv bu wt ac qv wx) (hb : Below wx.heap.size wx wy) : LB w B mem ow sv bu wt ac qv wy :=
  ⟨h.1.trans (hb.mono h.1.size), keepc hb h.2.1, keepc hb h.2.2.1, keepc hb h.2.2.2.1, keepc hb h.2.2.2.2.1, keepc hb h.2.2.2.2.2.1, keepc hb h.2.2.2.2.2.2.1, keepc hb h.2.2.2.2.2.2.2⟩
theorem lb_here {w wx : World} (h : Below w.heap.size w wx) (mem ow : Int) (sv : Value) (bu wt ac : Int) (qv : Value) (T : TypeId) : LB w wx.heap.size mem ow sv bu wt ac qv (wx.alloc (.cells (ln7 mem ow sv bu wt ac qv) T)) := by
  have e := heap_alloc_new wx (.cells (ln7 mem ow sv bu wt ac qv) T)
  exact ⟨h.alloc h.size _, (cell_of_row _ _ _ _ _ _ e).trans rfl, (cell_of_row _ _ _ _ _ _ e).trans rfl, (cell_of_row _ _ _ _ _ _ e).trans rfl, (cell_of_row _ _ _ _ _ _ e).trans rfl, (cell_of_row _ _ _ _ _ _ e).trans rfl, (cell_of_row _ _ _ _ _ _ e).trans rfl, (cell_of_row _ _ _ _ _ _ e).trans rfl⟩
theorem lb_box (w : World) (mem ow : Int) (sv : Value) (bu wt ac : Int) (qv : Value) (T : TypeId) : LB w w.heap.size mem ow sv bu wt ac qv (w.alloc (.cells (ln7 mem ow sv bu wt ac qv) T)) := lb_here (Below.refl _ _) _ _ _ _ _ _ _ _

set_option maxHeartbeats 400000 in
theorem isBusy_any (mem ow : Int) (sv : Value) (bu wt ac : Int) (qv : Value) (w : World) : Calls Tryz.prog 53 #[.agg (ln7 mem ow sv bu wt ac qv)] w fun e w' => e = .returned (.bool (bu != 0)) ∧ Below w.heap.size w w' := by
  go_enter Tryz.func53, Tryz.ntmps53
  go_wp2
  go_ret
  exact ⟨rfl, (Below.refl _ _).alloc (Nat.le_refl _) _⟩

set_option maxHeartbeats 4000000 in
theorem busyOk_any (mem ow : Int) (sv : Value) (bu wt ac : Int) (qa : Option Addr) (qc n : Nat) (f : Nat → Nat → Int) (w : World) (hq : Sr w (.slice qa n qc) 2 n f) (hn : n ≤ 1048576) :
    Calls Tryz.prog 54 #[.agg (ln7 mem ow sv bu wt ac (.slice qa n qc))] w fun e w' => e = .returned (.bool (busyB bu wt ac n f)) ∧ Below w.heap.size w w' := by
  have lb := lb_box w mem ow sv bu wt ac (.slice qa n qc) 31
  by_cases h1 : 1 ≤ bu ∧ bu ≤ 5
  · have e1 := inB_yes h1.1 h1.2
    by_cases h2 : 1 ≤ wt ∧ wt ≤ 2
    · have e2 := inB_yes h2.1 h2.2
      by_cases h3 : ac < 1
      · have HR : Hid (false = busyB bu wt ac n f) := hide (busyB_no fun ⟨_, _, h, _⟩ => by omega)
        clear h1 h2 hq
        go_enter Tryz.func54, Tryz.ntmps54
        go_wp2_with fail
        refine (isCore_any _ _).mono ?_
        rintro e w1 ⟨rfl, rfl⟩
        rw [e1]
        go_wp2_with fail
        refine (isWant_any _ _).mono ?_
        rintro e w1 ⟨rfl, rfl⟩
        rw [e2]
        go_wp2
        go_ret
        exact ⟨ret_bool HR.out, lb.1⟩
      · by_cases h4 : 5 < ac
        · have HR : Hid (false = busyB bu wt ac n f) := hide (busyB_no fun ⟨_, _, h, _⟩ => by omega)
          clear h1 h2 hq
          go_enter Tryz.func54, Tryz.ntmps54
          go_wp2_with fail
          refine (isCore_any _ _).mono ?_
          rintro e w1 ⟨rfl, rfl⟩
          rw [e1]
          go_wp2_with fail
          refine (isWant_any _ _).mono ?_
          rintro e w1 ⟨rfl, rfl⟩
          rw [e2]
          go_wp2
          go_ret
          exact ⟨ret_bool HR.out, lb.1⟩
        · have HY : Hid ((n ≤ 10 → (∀ j, j < n → reqB (f j 0) (f j 1) = true) → busyP bu wt ac n f)) := hide (fun ha hb => ⟨h1, h2, by omega, ha, hb⟩)
          obtain ⟨_, c0, c1, c2, c3, c4, c5, c6⟩ := id lb
          obtain ⟨ad, cap, hv, hq⟩ := hq
          simp only [Value.slice.injEq, true_and] at hv
          obtain ⟨rfl, rfl⟩ := hv
          clear h1 h2
          go_enter Tryz.func54, Tryz.ntmps54
          go_wp2_with fail
          refine (isCore_any _ _).mono ?_
          rintro e w1 ⟨rfl, rfl⟩
          rw [e1]
          go_wp2_with fail
          refine (isWant_any _ _).mono ?_
          rintro e w1 ⟨rfl, rfl⟩
          rw [e2]
          go_wp2
          go_loopw [28] (fun i wr => ∃ k : Nat, k ≤ n ∧ i = .int .i64 k ∧ LB w w.heap.size mem ow sv bu wt ac (.slice qa n qc) wr ∧ Hid (∀ j, j < k → reqB (f j 0) (f j 1) = true)) (fun i _ => n - (intOf i).toNat)
          case atStart => exact ⟨0, Nat.zero_le _, rfl, lb, hide fun j hj => by omega⟩
          case round =>
            obtain ⟨k, hk, rfl, lk, HK⟩ := hrel
            clear lb c0 c1 c2 c3 c4 c5 c6
            by_cases hlt : k < n
            · obtain ⟨p, off, rfl, hc⟩ := hq (by omega)
              have q0 : wr.cell? ⟨p, off + k * 2, none⟩ = some (.int .i64 (f k 0)) := Below.keep lk.1 _ _ (hc k hlt 0 (by decide))
              have q1 : wr.cell? ⟨p, off + k * 2 + 1, none⟩ = some (.int .i64 (f k 1)) := Below.keep lk.1 _ _ (hc k hlt 1 (by decide))
              clear hc hq
              have lx := lk.next ((Below.refl _ _).alloc (Nat.le_refl _) (.cells #[.int .i64 (f k 0), .int .i64 (f k 1)] 71))
              clear lk
              cases hr : reqB (f k 0) (f k 1) with
              | false =>
                have HR : Hid (false = busyB bu wt ac n f) := hide (busyB_no fun ⟨_, _, _, _, h⟩ => by have := h k hlt; rw [hr] at this; cases this)
                go_wp2_with fail
                refine (reqOk_any _ _ _).mono ?_
                rintro e w2 ⟨rfl, hb2⟩
                rw [hr]
                have ly := lx.next hb2
                clear hb2 lx
                go_wp2
                go_ret
                exact ⟨ret_bool HR.out, ly.1⟩
              | true =>
                have HK2 : Hid (∀ j, j < k + 1 → reqB (f j 0) (f j 1) = true) := hide (fun j hj => by
                  by_cases e : j = k
                  · subst e; exact hr
                  · exact HK.out j (by omega))
                go_wp2_with fail
                refine (reqOk_any _ _ _).mono ?_
                rintro e w2 ⟨rfl, hb2⟩
                rw [hr]
                have ly := lx.next hb2
                clear hb2 lx hr
                go_wp2
                go_roundw
                case rel => exact ⟨k + 1, by omega, by go_num, ly, HK2⟩
                case measure => simp [intOf]; omega
            · have e : k = n := by omega
              subst e
              obtain ⟨_, c0, c1, c2, c3, c4, c5, c6⟩ := id lk
              clear hq
              by_cases h10 : k ≤ 10
              · have HR : Hid (true = busyB bu wt ac k f) := hide (busyB_yes (HY.out h10 HK.out))
                have hd : decide ((k : Int) ≤ 10) = true := by simp; omega
                go_wp2
                go_ret
                exact ⟨ret_bool HR.out, lk.1⟩
              · have HR : Hid (false = busyB bu wt ac k f) := hide (busyB_no fun ⟨_, _, _, h, _⟩ => h10 h)
                have hd : decide ((k : Int) ≤ 10) = false := by simp; omega
                go_wp2
                go_ret
                exact ⟨ret_bool HR.out, lk.1⟩
    · have e2 := inB_no h2
      have HR : Hid (false = busyB bu wt ac n f) := hide (busyB_no fun ⟨_, h, _⟩ => h2 h)
      clear h1 h2 hq
      go_enter Tryz.func54, Tryz.ntmps54
      go_wp2_with fail
      refine (isCore_any _ _).mono ?_
      rintro e w1 ⟨rfl, rfl⟩
      rw [e1]
      go_wp2_with fail
      refine (isWant_any _ _).mono ?_
      rintro e w1 ⟨rfl, rfl⟩
      rw [e2]
      go_wp2
      go_ret
      exact ⟨ret_bool HR.out, lb.1⟩
  · have e1 := inB_no h1
    have HR : Hid (false = busyB bu wt ac n f) := hide (busyB_no fun ⟨h, _⟩ => h1 h)
    clear h1 hq
    go_enter Tryz.func54, Tryz.ntmps54
    go_wp2_with fail
    refine (isCore_any _ _).mono ?_
    rintro e w1 ⟨rfl, rfl⟩
    rw [e1]
    go_wp2
    go_ret
    exact ⟨ret_bool HR.out, lb.1⟩

end Go.Proofs.YtlalldlbgnlbjaaGreatDoor
