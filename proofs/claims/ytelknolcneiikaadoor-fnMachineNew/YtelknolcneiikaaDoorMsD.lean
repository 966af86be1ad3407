/- machines: hasLine, lineWithin -/
import Derived.Test.YtelknolcneiikaaDoorMsC
namespace Go.Proofs.YtelknolcneiikaaDoor
open Go.RowKit
set_option linter.unusedVariables false
set_option linter.unusedSimpArgs false

def hlB (i : Int) (n : Nat) : Bool := decide (0 ≤ i) && decide (i < n)
set_option maxHeartbeats 400000 in
theorem hasLine_any (sv : Value) (la : Option Addr) (N lc : Nat) (mv : Value) (i : Int) (w : World) : Calls Tryd.prog 37 #[.agg (mc3 sv (.slice la N lc) mv), .int .i64 i] w fun e w' => e = .returned (.bool (hlB i N)) ∧ Below w.heap.size w w' := by
  have mb := mb_box w sv (.slice la N lc) mv 30
  obtain ⟨_, c0, c1, c2⟩ := id mb
  by_cases h : 0 ≤ i
  · have HR : Hid (decide (i < (N : Int)) = hlB i N) := hide (by rw [hlB, decide_eq_true h, Bool.true_and])
    go_enter Tryd.func37, Tryd.ntmps37
    go_wp2_with fail
    refine (lines_any _ _ _ _ _ _).mono ?_
    rintro e w2 ⟨rfl, hb2⟩
    have my := mb.next hb2
    clear mb hb2
    go_wp2
    go_ret
    exact ⟨ret_bool HR.out, my.1⟩
  · have HR : Hid (false = hlB i N) := hide (by rw [hlB, decide_eq_false h, Bool.false_and])
    go_enter Tryd.func37, Tryd.ntmps37
    go_wp2
    go_ret
    exact ⟨ret_bool HR.out, mb.1⟩

/-- a line that names none but the first c cores -/
def withinP (ow bu : Int) (zs : List Int) (n : Nat) (f : Nat → Nat → Int) (c : Int) : Prop := ow ≤ c ∧ bu ≤ c ∧ (∀ j, j < zs.length → zs.getD j 0 ≤ c) ∧ ∀ j, j < n → f j 0 ≤ c
open Classical in
noncomputable def withinB (ow bu : Int) (zs : List Int) (n : Nat) (f : Nat → Nat → Int) (c : Int) : Bool := decide (withinP ow bu zs n f c)
theorem withinB_yes {ow bu : Int} {zs : List Int} {n : Nat} {f : Nat → Nat → Int} {c : Int} (h : withinP ow bu zs n f c) : true = withinB ow bu zs n f c := by simp [withinB, h]
theorem withinB_no {ow bu : Int} {zs : List Int} {n : Nat} {f : Nat → Nat → Int} {c : Int} (h : ¬ withinP ow bu zs n f c) : false = withinB ow bu zs n f c := by simp [withinB, h]

set_option maxHeartbeats 4000000 in
theorem lineWithin_any (mem ow : Int) (sa : Option Addr) (sc : Nat) (zs : List Int) (bu wt ac : Int) (qa : Option Addr) (qc n : Nat) (f : Nat → Nat → Int) (c : Int) (w : World) (hs : Sl w (.slice sa zs.length sc) zs) (hl : zs.length ≤ 1048576) (hq : Sr w (.slice qa n qc) 2 n f) (hn : n ≤ 1048576) :
    Calls Tryd.prog 41 #[.agg (ln7 mem ow (.slice sa zs.length sc) bu wt ac (.slice qa n qc)), .int .i64 c] w fun e w' => e = .returned (.bool (withinB ow bu zs n f c)) ∧ Below w.heap.size w w' := by
  have lb := lb_box w mem ow (.slice sa zs.length sc) bu wt ac (.slice qa n qc) 51
  by_cases h1 : c < ow
  · have HR : Hid (false = withinB ow bu zs n f c) := hide (withinB_no fun ⟨h, _⟩ => by omega)
    clear hs hq
    go_enter Tryd.func41, Tryd.ntmps41
    go_wp2
    go_ret
    exact ⟨ret_bool HR.out, lb.1⟩
  · by_cases h2 : c < bu
    · have HR : Hid (false = withinB ow bu zs n f c) := hide (withinB_no fun ⟨_, h, _⟩ => by omega)
      clear hs hq
      go_enter Tryd.func41, Tryd.ntmps41
      go_wp2
      go_ret
      exact ⟨ret_bool HR.out, lb.1⟩
    · have HY : Hid ((∀ j, j < zs.length → zs.getD j 0 ≤ c) → (∀ j, j < n → f j 0 ≤ c) → withinP ow bu zs n f c) := hide (fun ha hb => ⟨by omega, by omega, ha, hb⟩)
      obtain ⟨m, hm⟩ : ∃ m, zs.length = m := ⟨_, rfl⟩
      rw [hm] at lb hl hs ⊢
      have HM := hide hm
      obtain ⟨sad, scap, hv, hs⟩ := hs
      rw [hm] at hv hs
      simp only [Value.slice.injEq, true_and] at hv
      obtain ⟨rfl, rfl⟩ := hv
      obtain ⟨ad, cap, hv, hq⟩ := hq
      simp only [Value.slice.injEq, true_and] at hv
      obtain ⟨rfl, rfl⟩ := hv
      clear hm
      obtain ⟨_, c0, c1, c2, c3, c4, c5, c6⟩ := id lb
      go_enter Tryd.func41, Tryd.ntmps41
      go_wp2
      go_loopw [22] (fun i wr => ∃ k : Nat, k ≤ m ∧ i = .int .i64 k ∧ LB w w.heap.size mem ow (.slice sa m sc) bu wt ac (.slice qa n qc) wr ∧ Hid (∀ j, j < k → zs.getD j 0 ≤ c)) (fun i _ => m - (intOf i).toNat)
      case atStart => exact ⟨0, Nat.zero_le _, rfl, lb, hide fun j hj => by omega⟩
      case round =>
        obtain ⟨k, hk, rfl, lk, HK⟩ := hrel
        clear lb c0 c1 c2 c3 c4 c5 c6
        by_cases hlt : k < m
        · obtain ⟨p, off, rfl, hc⟩ := hs (by omega)
          have q0 : wr.cell? ⟨p, off + k, none⟩ = some (.int .i64 (zs.getD k 0)) := Below.keep lk.1 _ _ (hc k hlt)
          obtain ⟨z, hz⟩ : ∃ z, zs.getD k 0 = z := ⟨_, rfl⟩
          rw [hz] at q0
          have HZ := hide hz
          clear hc hs hz hq
          by_cases hzc : c < z
          · have HR : Hid (false = withinB ow bu zs n f c) := hide (withinB_no fun ⟨_, _, h, _⟩ => by have := h k (by rw [HM.out]; exact hlt); rw [HZ.out] at this; omega)
            go_wp2
            go_ret
            exact ⟨ret_bool HR.out, lk.1⟩
          · have HK2 : Hid (∀ j, j < k + 1 → zs.getD j 0 ≤ c) := hide (fun j hj => by
              by_cases e : j = k
              · subst e; rw [HZ.out]; omega
              · exact HK.out j (by omega))
            go_wp2
            go_roundw
            case rel => exact ⟨k + 1, by omega, by go_num, lk, HK2⟩
            case measure => simp [intOf]; omega
        · have e : k = m := by omega
          subst e
          obtain ⟨_, c0, c1, c2, c3, c4, c5, c6⟩ := id lk
          clear hs
          go_wp2
          go_loopw [33] (fun i wr => ∃ t : Nat, t ≤ n ∧ i = .int .i64 t ∧ LB w w.heap.size mem ow (.slice sa k sc) bu wt ac (.slice qa n qc) wr ∧ Hid (∀ j, j < t → f j 0 ≤ c)) (fun i _ => n - (intOf i).toNat)
          case atStart => exact ⟨0, Nat.zero_le _, rfl, lk, hide fun j hj => by omega⟩
          case round =>
            obtain ⟨t, ht, rfl, lt, HT⟩ := hrel
            clear lk c0 c1 c2 c3 c4 c5 c6
            by_cases hlt2 : t < n
            · obtain ⟨p, off, rfl, hc⟩ := hq (by omega)
              have q0 : wr.cell? ⟨p, off + t * 2, none⟩ = some (.int .i64 (f t 0)) := Below.keep lt.1 _ _ (hc t hlt2 0 (by decide))
              have q1 : wr.cell? ⟨p, off + t * 2 + 1, none⟩ = some (.int .i64 (f t 1)) := Below.keep lt.1 _ _ (hc t hlt2 1 (by decide))
              clear hc hq
              have lx := lt.next ((Below.refl _ _).alloc (Nat.le_refl _) (.cells #[.int .i64 (f t 0), .int .i64 (f t 1)] 71))
              clear lt
              by_cases hzc : c < f t 0
              · have HR : Hid (false = withinB ow bu zs n f c) := hide (withinB_no fun ⟨_, _, _, h⟩ => by have := h t hlt2; omega)
                go_wp2
                go_ret
                exact ⟨ret_bool HR.out, lx.1⟩
              · have HT2 : Hid (∀ j, j < t + 1 → f j 0 ≤ c) := hide (fun j hj => by
                  by_cases e : j = t
                  · subst e; omega
                  · exact HT.out j (by omega))
                go_wp2
                go_roundw
                case rel => exact ⟨t + 1, by omega, by go_num, lx, HT2⟩
                case measure => simp [intOf]; omega
            · have e : t = n := by omega
              subst e
              have HR : Hid (true = withinB ow bu zs t f c) := hide (withinB_yes (HY.out (fun j hj => HK.out j (by rw [HM.out] at hj; exact hj)) HT.out))
              clear hq
              go_wp2
              go_ret
              exact ⟨ret_bool HR.out, lt.1⟩

end Go.Proofs.YtelknolcneiikaaDoor
