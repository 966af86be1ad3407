/- machines: the box of one, cores, lines, sizeOk, hasLine; slotsOk; lineWithin -/
import Derived.Test.YtelknolcneiikaaDoorMsA
import Derived.Test.YtelknolcneiikaaDoorMsB
import Derived.Test.YtelknolcneiikaaDoorLqC
namespace Go.Proofs.YtelknolcneiikaaDoor
open Go.RowKit
set_option linter.unusedVariables false
set_option linter.unusedSimpArgs false

abbrev mc3 (sv lv mv : Value) : Array Value := #[sv, lv, mv]
/-- a machine's box -/
def MB (w : World) (B : Nat) (sv lv mv : Value) (wx : World) : Prop :=
  Below w.heap.size w wx ∧ wx.cell? ⟨B, 0, none⟩ = some sv ∧ wx.cell? ⟨B, 1, none⟩ = some lv ∧ wx.cell? ⟨B, 2, none⟩ = some mv
theorem MB.next {w wx wy : World} {B : Nat} {sv lv mv : Value} (h : MB w B sv lv mv wx) (hb : Below wx.heap.size wx wy) : MB w B sv lv mv wy :=
  ⟨h.1.trans (hb.mono h.1.size), keepc hb h.2.1, keepc hb h.2.2.1, keepc hb h.2.2.2⟩
theorem mb_here {w wx : World} (h : Below w.heap.size w wx) (sv lv mv : Value) (T : TypeId) : MB w wx.heap.size sv lv mv (wx.alloc (.cells (mc3 sv lv mv) T)) := by
  have e := heap_alloc_new wx (.cells (mc3 sv lv mv) T)
  exact ⟨h.alloc h.size _, (cell_of_row _ _ _ _ _ _ e).trans rfl, (cell_of_row _ _ _ _ _ _ e).trans rfl, (cell_of_row _ _ _ _ _ _ e).trans rfl⟩
theorem mb_box (w : World) (sv lv mv : Value) (T : TypeId) : MB w w.heap.size sv lv mv (w.alloc (.cells (mc3 sv lv mv) T)) := mb_here (Below.refl _ _) _ _ _ _

set_option maxHeartbeats 400000 in
theorem cores_any (sa : Option Addr) (C sc : Nat) (lv mv : Value) (w : World) : Calls Tryd.prog 25 #[.agg (mc3 (.slice sa C sc) lv mv)] w fun e w' => e = .returned (.int .i64 C) ∧ Below w.heap.size w w' := by
  go_enter Tryd.func25, Tryd.ntmps25
  go_wp2
  go_ret
  exact ⟨rfl, (Below.refl _ _).alloc (Nat.le_refl _) _⟩
set_option maxHeartbeats 400000 in
theorem lines_any (sv : Value) (la : Option Addr) (N lc : Nat) (mv : Value) (w : World) : Calls Tryd.prog 26 #[.agg (mc3 sv (.slice la N lc) mv)] w fun e w' => e = .returned (.int .i64 N) ∧ Below w.heap.size w w' := by
  go_enter Tryd.func26, Tryd.ntmps26
  go_wp2
  go_ret
  exact ⟨rfl, (Below.refl _ _).alloc (Nat.le_refl _) _⟩

def sizeB (c n : Int) : Bool := inB c 2 5 && inB n 1 4
set_option maxHeartbeats 400000 in
theorem sizeOk_any (c n : Int) (w : World) : Calls Tryd.prog 16 #[.int .i64 c, .int .i64 n] w fun e w' => e = .returned (.bool (sizeB c n)) ∧ w' = w := by
  by_cases h1 : 2 ≤ c
  · by_cases h2 : c ≤ 5
    · by_cases h3 : 1 ≤ n
      · by_cases h4 : n ≤ 4
        · have HR : Hid (true = sizeB c n) := hide (by rw [sizeB, inB_yes h1 h2, inB_yes h3 h4]; rfl)
          go_enter Tryd.func16, Tryd.ntmps16
          go_wp2
          go_ret
          exact ⟨ret_bool HR.out, rfl⟩
        · have HR : Hid (false = sizeB c n) := hide (by rw [sizeB, inB_no (n := n) (by omega), Bool.and_false])
          go_enter Tryd.func16, Tryd.ntmps16
          go_wp2
          go_ret
          exact ⟨ret_bool HR.out, rfl⟩
      · have HR : Hid (false = sizeB c n) := hide (by rw [sizeB, inB_no (n := n) (by omega), Bool.and_false])
        go_enter Tryd.func16, Tryd.ntmps16
        go_wp2
        go_ret
        exact ⟨ret_bool HR.out, rfl⟩
    · have HR : Hid (false = sizeB c n) := hide (by rw [sizeB, inB_no (n := c) (by omega), Bool.false_and])
      go_enter Tryd.func16, Tryd.ntmps16
      go_wp2
      go_ret
      exact ⟨ret_bool HR.out, rfl⟩
  · have HR : Hid (false = sizeB c n) := hide (by rw [sizeB, inB_no (n := c) (by omega), Bool.false_and])
    go_enter Tryd.func16, Tryd.ntmps16
    go_wp2
    go_ret
    exact ⟨ret_bool HR.out, rfl⟩

/-- all slots are right, and of each core as many as there are lines -/
def slotsP (C : Nat) (L : Nat → Nat) (F : Nat → Nat → Nat → Int) (N : Nat) : Prop := ∀ c, c < C → L c = N ∧ ∀ j, j < L c → slB (F c j 0) (F c j 1) (F c j 2) (F c j 3) = true
open Classical in
noncomputable def slotsB (C : Nat) (L : Nat → Nat) (F : Nat → Nat → Nat → Int) (N : Nat) : Bool := decide (slotsP C L F N)
theorem slotsB_yes {C : Nat} {L : Nat → Nat} {F : Nat → Nat → Nat → Int} {N : Nat} (h : slotsP C L F N) : true = slotsB C L F N := by simp [slotsB, h]
theorem slotsB_no {C : Nat} {L : Nat → Nat} {F : Nat → Nat → Nat → Int} {N : Nat} (h : ¬ slotsP C L F N) : false = slotsB C L F N := by simp [slotsB, h]

set_option maxHeartbeats 4000000 in
theorem slotsOk_any (sa : Option Addr) (C sc : Nat) (la : Option Addr) (N lc : Nat) (mv : Value) (L : Nat → Nat) (F : Nat → Nat → Nat → Int) (w : World) (hs : Ss w (.slice sa C sc) C L F) (hC : C ≤ 1048576) (hL : ∀ c, c < C → L c ≤ 1048576) (hN : N ≤ 1048576) :
    Calls Tryd.prog 27 #[.agg (mc3 (.slice sa C sc) (.slice la N lc) mv)] w fun e w' => e = .returned (.bool (slotsB C L F N)) ∧ Below w.heap.size w w' := by
  have mb := mb_box w (.slice sa C sc) (.slice la N lc) mv 30
  obtain ⟨ad, cap, hv, hs⟩ := hs
  simp only [Value.slice.injEq, true_and] at hv
  obtain ⟨rfl, rfl⟩ := hv
  go_enter Tryd.func27, Tryd.ntmps27
  go_wp2
  go_loopw [10] (fun i wr => ∃ k : Nat, k ≤ C ∧ i = .int .i64 k ∧ MB w w.heap.size (.slice sa C sc) (.slice la N lc) mv wr ∧ Hid (∀ c, c < k → L c = N ∧ ∀ j, j < L c → slB (F c j 0) (F c j 1) (F c j 2) (F c j 3) = true)) (fun i _ => C - (intOf i).toNat)
  case atStart => exact ⟨0, Nat.zero_le _, rfl, mb, hide fun c hc => by omega⟩
  case round =>
    obtain ⟨k, hk, rfl, mk, HK⟩ := hrel
    clear mb
    obtain ⟨_, c0, c1, c2⟩ := id mk
    by_cases hlt : k < C
    · obtain ⟨p, off, rfl, hc⟩ := hs (by omega)
      obtain ⟨ia, ic, q0', hr⟩ := hc k hlt
      have q0 : wr.cell? ⟨p, off + k, none⟩ = some (.slice ia (L k) ic) := Below.keep mk.1 _ _ q0'
      obtain ⟨iad, icap, hiv, hr⟩ := hr
      simp only [Value.slice.injEq, true_and] at hiv
      obtain ⟨rfl, rfl⟩ := hiv
      have hLk := hL k hlt
      clear hs hc q0'
      by_cases he : L k = N
      · have hne : ((L k : Int) != (N : Int)) = false := by simp [he]
        go_wp2
        go_loopw [22] (fun i wr => ∃ m : Nat, m ≤ L k ∧ i = .int .i64 m ∧ MB w w.heap.size (.slice (some ⟨p, off, none⟩) C sc) (.slice la N lc) mv wr ∧ Hid (∀ j, j < m → slB (F k j 0) (F k j 1) (F k j 2) (F k j 3) = true)) (fun i _ => L k - (intOf i).toNat)
        case atStart => exact ⟨0, Nat.zero_le _, rfl, mk, hide fun c hc => by omega⟩
        case round =>
          obtain ⟨m, hm, rfl, mm, HM⟩ := hrel
          clear mk c0 c1 c2 q0
          by_cases hlm : m < L k
          · obtain ⟨pi, oi, rfl, hx⟩ := hr (by omega)
            have x0 : wr.cell? ⟨pi, oi + m * 4, none⟩ = some (.int .i64 (F k m 0)) := Below.keep mm.1 _ _ (hx m hlm 0 (by decide))
            have x1 : wr.cell? ⟨pi, oi + m * 4 + 1, none⟩ = some (.int .i64 (F k m 1)) := Below.keep mm.1 _ _ (hx m hlm 1 (by decide))
            have x2 : wr.cell? ⟨pi, oi + m * 4 + 2, none⟩ = some (.int .i64 (F k m 2)) := Below.keep mm.1 _ _ (hx m hlm 2 (by decide))
            have x3 : wr.cell? ⟨pi, oi + m * 4 + 3, none⟩ = some (.int .i64 (F k m 3)) := Below.keep mm.1 _ _ (hx m hlm 3 (by decide))
            clear hx hr
            have mx := mm.next ((Below.refl _ _).alloc (Nat.le_refl _) (.cells #[.int .i64 (F k m 0), .int .i64 (F k m 1), .int .i64 (F k m 2), .int .i64 (F k m 3)] 47))
            clear mm
            cases hb : slB (F k m 0) (F k m 1) (F k m 2) (F k m 3) with
            | false =>
              have HR : Hid (false = slotsB C L F N) := hide (slotsB_no fun h => by have := (h k hlt).2 m hlm; rw [hb] at this; cases this)
              go_wp2_with fail
              refine (implSlotOk_any _ _ _ _ _).mono ?_
              rintro e w2 ⟨rfl, hb2⟩
              rw [hb]
              have my := mx.next hb2
              clear hb2 mx
              go_wp2
              go_ret
              exact ⟨ret_bool HR.out, my.1⟩
            | true =>
              have HM2 : Hid (∀ j, j < m + 1 → slB (F k j 0) (F k j 1) (F k j 2) (F k j 3) = true) := hide (fun j hj => by
                by_cases e : j = m
                · subst e; exact hb
                · exact HM.out j (by omega))
              go_wp2_with fail
              refine (implSlotOk_any _ _ _ _ _).mono ?_
              rintro e w2 ⟨rfl, hb2⟩
              rw [hb]
              have my := mx.next hb2
              clear hb2 mx hb
              go_wp2
              go_roundw
              case rel => exact ⟨m + 1, by omega, by go_num, my, HM2⟩
              case measure => simp [intOf]; omega
          · have e : m = L k := by omega
            have HK2 : Hid (∀ c, c < k + 1 → L c = N ∧ ∀ j, j < L c → slB (F c j 0) (F c j 1) (F c j 2) (F c j 3) = true) := hide (fun c hc => by
              by_cases ec : c = k
              · subst ec; exact ⟨he, fun j hj => HM.out j (by omega)⟩
              · exact HK.out c (by omega))
            clear hr
            go_wp2
            go_roundw
            case rel => exact ⟨k + 1, by omega, by go_num, mm, HK2⟩
            case measure => simp [intOf]; omega
      · have HR : Hid (false = slotsB C L F N) := hide (slotsB_no fun h => he (h k hlt).1)
        have hne : ((L k : Int) != (N : Int)) = true := by simp; omega
        go_wp2
        go_ret
        exact ⟨ret_bool HR.out, mk.1⟩
    · have e : k = C := by omega
      have HR : Hid (true = slotsB C L F N) := hide (slotsB_yes fun c hc => HK.out c (by omega))
      clear hs
      go_wp2
      go_ret
      exact ⟨ret_bool HR.out, mk.1⟩

end Go.Proofs.YtelknolcneiikaaDoor
