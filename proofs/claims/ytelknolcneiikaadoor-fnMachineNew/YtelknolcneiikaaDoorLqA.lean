/- requests: isWant, reqOk, l4Req, toReq, toReqS, eqReq, eqReqS -/
import Derived.Test.YtelknolcneiikaaDoorE
import Derived.Test.YtelknolcneiikaaDoorRwA
import Derived.Deep.RegionHeld3
namespace Go.Proofs.YtelknolcneiikaaDoor
open Go.RowKit
set_option linter.unusedVariables false
set_option linter.unusedSimpArgs false

def reqB (a b : Int) : Bool := inB a 1 5 && inB b 1 2
abbrev two (a b : Int) : Value := .agg #[.int .i64 a, .int .i64 b]

set_option maxHeartbeats 400000 in
theorem isWant_any (n : Int) (w : World) : Calls Tryd.prog 56 #[.int .i64 n] w fun e w' => e = .returned (.bool (inB n 1 2)) ∧ w' = w := by
  by_cases h1 : n = 1
  · subst h1
    go_enter Tryd.func56, Tryd.ntmps56
    go_wp2
    go_ret
    exact ⟨rfl, rfl⟩
  · have e1 : (n == 1) = false := by simp [h1]
    by_cases h2 : n = 2
    · subst h2
      go_enter Tryd.func56, Tryd.ntmps56
      go_wp2
      go_ret
      exact ⟨rfl, rfl⟩
    · have e2 : (n == 2) = false := by simp [h2]
      have HR : Hid (inB n 1 2 = false) := hide (by rw [Bool.eq_false_iff]; intro h; rw [inB_iff] at h; omega)
      clear h1 h2
      go_enter Tryd.func56, Tryd.ntmps56
      go_wp2
      go_ret
      exact ⟨ret_bool HR.out.symm, rfl⟩

set_option maxHeartbeats 400000 in
theorem reqOk_any (a b : Int) (w : World) : Calls Tryd.prog 57 #[two a b] w fun e w' => e = .returned (.bool (reqB a b)) ∧ Below w.heap.size w w' := by
  cases hc : inB a 1 5 with
  | false =>
    have HR : Hid (reqB a b = false) := hide (by rw [reqB, hc]; rfl)
    go_enter Tryd.func57, Tryd.ntmps57
    go_wp2_with fail
    refine (isCore_any _ _).mono ?_
    rintro e w1 ⟨rfl, rfl⟩
    rw [hc]
    go_wp2
    go_ret
    exact ⟨ret_bool HR.out.symm, (Below.refl _ _).alloc (Nat.le_refl _) _⟩
  | true =>
    have HR : Hid (reqB a b = inB b 1 2) := hide (by rw [reqB, hc]; rfl)
    go_enter Tryd.func57, Tryd.ntmps57
    go_wp2_with fail
    refine (isCore_any _ _).mono ?_
    rintro e w1 ⟨rfl, rfl⟩
    rw [hc]
    go_wp2_with fail
    refine (isWant_any _ _).mono ?_
    rintro e w1 ⟨rfl, rfl⟩
    generalize inB b 1 2 = z at HR
    go_wp2
    go_ret
    exact ⟨ret_bool HR.out.symm, (Below.refl _ _).alloc (Nat.le_refl _) _⟩

theorem infoReq : (Tryd.prog.info? 71).map (fun i => (i.zero, i.size, i.bytes)) = some (some (two 0 0), 2, 16) := by kernel_rfl

/-- the cells of the k-th struct of a row that is the call's own -/
theorem Orow.at2 {w : World} {base g n cap k j : Nat} {T : TypeId} {f : Nat → Nat → Int} (hj : j < n) (h : Orow w base T 2 (.slice (some ⟨g, 0, none⟩) n cap) n k f) :
    (∀ i, w.frozen? ⟨g, i, none⟩ = false) ∧ (∃ o, w.cell? ⟨g, j * 2, none⟩ = some o) ∧ (∃ o, w.cell? ⟨g, j * 2 + 1, none⟩ = some o) := by
  refine ⟨fun i => World.ownsRow.frozenAt h i, ?_, ?_⟩
  · have := World.ownsRow.cellAt h (j * 2) (by omega)
    rw [rowC_get (by omega)] at this
    exact ⟨_, this⟩
  · have := World.ownsRow.cellAt h (j * 2 + 1) (by omega)
    rw [rowC_get (by omega)] at this
    exact ⟨_, this⟩

theorem keepq {w W W' : World} {p0 p1 p2 p3 : Addr} {x0 x1 x2 x3 : Value} (h : Below w.heap.size w W ∧ W.cell? p0 = some x0 ∧ W.cell? p1 = some x1 ∧ W.cell? p2 = some x2 ∧ W.cell? p3 = some x3) (hb : Below W.heap.size W W') :
    Below w.heap.size w W' ∧ W'.cell? p0 = some x0 ∧ W'.cell? p1 = some x1 ∧ W'.cell? p2 = some x2 ∧ W'.cell? p3 = some x3 := ⟨h.1.trans (hb.mono h.1.size), keepc hb h.2.1, keepc hb h.2.2.1, keepc hb h.2.2.2.1, keepc hb h.2.2.2.2⟩

end Go.Proofs.YtelknolcneiikaaDoor
