/- litmus tests: right ones -/
import Derived.Test.YtokekgfompbdiaaDoorLiB
import Derived.BigQuiet
namespace Go.Proofs.YtokekgfompbdiaaDoor
open Go.RowKit
set_option linter.unusedVariables false
set_option linter.unusedSimpArgs false

/-- a kind of act, and whether an act has its form -/
theorem kindOf (k : Int) : ∃ (a b c : Bool) (fv : Value), (∀ w, Calls Tryd.prog 37 #[.int .i64 k] w fun e w' => e = .returned (.agg (kd a b c fv)) ∧ Below w.heap.size w w') ∧ (∀ (C co va vl rg : Int) w, Calls Tryd.prog 38 #[.agg (kd a b c fv), .agg (five k co va vl rg), .int .i64 C] w fun e w' => e = .returned (.bool (fmB C k co va vl rg)) ∧ Below w.heap.size w w') := by
  by_cases e1 : k = 1
  · subst e1
    exact ⟨_, _, _, _, kind1, fun C co va vl rg w => by rw [← fm1 C co va vl rg]; exact formOk_any true true false true (fnV 51) 1 co va vl rg C w (notNil _) (notNilG _)⟩
  by_cases e2 : k = 2
  · subst e2
    exact ⟨_, _, _, _, kind2, fun C co va vl rg w => by rw [← fm2 C co va vl rg]; exact formOk_any true false true true (fnV 52) 2 co va vl rg C w (notNil _) (notNilG _)⟩
  by_cases e3 : k = 3
  · subst e3
    exact ⟨_, _, _, _, kind3, fun C co va vl rg w => by rw [← fm3 C co va vl rg]; exact formOk_any false false false true (fnV 53) 3 co va vl rg C w (notNil _) (notNilG _)⟩
  by_cases e4 : k = 4
  · subst e4
    exact ⟨_, _, _, _, kind4, fun C co va vl rg w => by rw [← fm4 C co va vl rg]; exact formOk_any false false false true (fnV 54) 4 co va vl rg C w (notNil _) (notNilG _)⟩
  exact ⟨_, _, _, _, fun w => kindNo k w e1 e2 e3 e4, fun C co va vl rg w => by rw [← fmNo C co va vl rg e1 e2 e3 e4]; exact formOk_any false false false false .nilFunc k co va vl rg C w isNil isNilG⟩

/-- is an act right, of that thread? -/
def actB (C i k co va vl rg : Int) : Bool := !decide (k = 4) && decide (co = i) && fmB C k co va vl rg
/-- the first j acts of a thread -/
def actsB (C i : Int) (f : Nat → Nat → Int) : Nat → Bool
  | 0 => true
  | j + 1 => actsB C i f j && actB C i (f j 0) (f j 1) (f j 2) (f j 3) (f j 4)
theorem acts_no {C i : Int} {f : Nat → Nat → Int} {j : Nat} (h : actB C i (f j 0) (f j 1) (f j 2) (f j 3) (f j 4) = false) : ∀ n, j < n → actsB C i f n = false
  | 0, h0 => absurd h0 (by omega)
  | n + 1, h0 => by
    rw [actsB]
    by_cases e : j = n
    · subst e; rw [h, Bool.and_false]
    · rw [acts_no h n (by omega), Bool.false_and]
def thrB (C i : Int) (n : Nat) (f : Nat → Nat → Int) : Bool := decide (n ≤ 3) && actsB C i f n
/-- the first c threads -/
def thsB (C : Int) (L : Nat → Nat) (F : Nat → Nat → Nat → Int) : Nat → Bool
  | 0 => true
  | c + 1 => thsB C L F c && thrB C c (L c) (F c)
theorem ths_no {C : Int} {L : Nat → Nat} {F : Nat → Nat → Nat → Int} {c : Nat} (h : thrB C c (L c) (F c) = false) : ∀ n, c < n → thsB C L F n = false
  | 0, h0 => absurd h0 (by omega)
  | n + 1, h0 => by
    rw [thsB]
    by_cases e : c = n
    · subst e; rw [h, Bool.and_false]
    · rw [ths_no h n (by omega), Bool.false_and]
def litB (C : Nat) (L : Nat → Nat) (F : Nat → Nat → Nat → Int) : Bool := decide (1 ≤ C ∧ C ≤ 2) && thsB C L F C

end Go.Proofs.YtokekgfompbdiaaDoor
