/- machines: the box of one, cores, lines, sizeOk, hasLine; slotsOk; lineWithin -/
import Derived.Test.YtacgfeddbcoigaaMsA
import Derived.Test.YtacgfeddbcoigaaMsB
namespace Go.Proofs.Ytacgfeddbcoigaa
open Go.RowKit
set_option linter.unusedVariables false
set_option linter.unusedSimpArgs false

abbrev mc3 (sv lv mv : Value) : Array Value := #[sv, lv, mv]
/-- a machine's box -/
def MB (w : World) (B : Nat) (sv lv mv : Value) (wx : World) : Prop :=
  Below w.heap.size w wx ∧ wx.cell? ⟨B, 0, none⟩ = some sv ∧ wx.cell? ⟨B, 1, none⟩ = some lv ∧ wx.cell? ⟨B, 2, none⟩ = some mv
theorem MB.next {w wx wy : World} {B : Nat} {sv lv mv : Value} (h : MB w B sv lv mv wx) (hb : Below wx.heap.size wx wy) : MB w B sv lv mv wy :=
  ⟨h.1.trans (hb.mono h.1.size), keepc hb h.2.1, keepc hb h.2.2.1, keepc hb h.2.2.2⟩
theorem mb_here {w wx : World} (h : Below w.heap.size w wx) (sv lv mv : Value) (T : TypeId) : MB w wx.heap.size sv lv mv (wx.alloc (.cells (mc3 sv lv mv) T)) := by
  have e := heap_alloc_new wx (.cells (mc3 sv lv mv) T)
  exact ⟨h.alloc h.size _, (cell_of_row _ _ _ _ _ _ e).trans rfl, (cell_of_row _ _ _ _ _ _ e).trans rfl, (cell_of_row _ _ _ _ _ _ e).trans rfl⟩
theorem mb_box (w : World) (sv lv mv : Value) (T : TypeId) : MB w w.heap.size sv lv mv (w.alloc (.cells (mc3 sv lv mv) T)) := mb_here (Below.refl _ _) _ _ _ _

def sizeB (c n : Int) : Bool := inB c 2 5 && inB n 1 4
set_option maxHeartbeats 400000 in
theorem sizeOk_any (c n : Int) (w : World) : Calls Try.prog 10 #[.int .i64 c, .int .i64 n] w fun e w' => e = .returned (.bool (sizeB c n)) ∧ w' = w := by
  by_cases h1 : 2 ≤ c
  · by_cases h2 : c ≤ 5
    · by_cases h3 : 1 ≤ n
      · by_cases h4 : n ≤ 4
        · have HR : Hid (true = sizeB c n) := hide (by rw [sizeB, inB_yes h1 h2, inB_yes h3 h4]; rfl)
          go_enter Try.func10, Try.ntmps10
          go_wp2
          go_ret
          exact ⟨ret_bool HR.out, rfl⟩
        · have HR : Hid (false = sizeB c n) := hide (by rw [sizeB, inB_no (n := n) (by omega), Bool.and_false])
          go_enter Try.func10, Try.ntmps10
          go_wp2
          go_ret
          exact ⟨ret_bool HR.out, rfl⟩
      · have HR : Hid (false = sizeB c n) := hide (by rw [sizeB, inB_no (n := n) (by omega), Bool.and_false])
        go_enter Try.func10, Try.ntmps10
        go_wp2
        go_ret
        exact ⟨ret_bool HR.out, rfl⟩
    · have HR : Hid (false = sizeB c n) := hide (by rw [sizeB, inB_no (n := c) (by omega), Bool.false_and])
      go_enter Try.func10, Try.ntmps10
      go_wp2
      go_ret
      exact ⟨ret_bool HR.out, rfl⟩
  · have HR : Hid (false = sizeB c n) := hide (by rw [sizeB, inB_no (n := c) (by omega), Bool.false_and])
    go_enter Try.func10, Try.ntmps10
    go_wp2
    go_ret
    exact ⟨ret_bool HR.out, rfl⟩

/-- all slots are right, and of each core as many as there are lines -/
def slotsP (C : Nat) (L : Nat → Nat) (F : Nat → Nat → Nat → Int) (N : Nat) : Prop := ∀ c, c < C → L c = N ∧ ∀ j, j < L c → slB (F c j 0) (F c j 1) (F c j 2) (F c j 3) = true
open Classical in
noncomputable def slotsB (C : Nat) (L : Nat → Nat) (F : Nat → Nat → Nat → Int) (N : Nat) : Bool := decide (slotsP C L F N)
theorem slotsB_yes {C : Nat} {L : Nat → Nat} {F : Nat → Nat → Nat → Int} {N : Nat} (h : slotsP C L F N) : true = slotsB C L F N := by simp [slotsB, h]
theorem slotsB_no {C : Nat} {L : Nat → Nat} {F : Nat → Nat → Nat → Int} {N : Nat} (h : ¬ slotsP C L F N) : false = slotsB C L F N := by simp [slotsB, h]

end Go.Proofs.Ytacgfeddbcoigaa
