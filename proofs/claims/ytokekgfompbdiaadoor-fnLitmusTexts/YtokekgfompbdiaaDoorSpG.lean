/- splitting at a byte of any kind and joining again: nothing of the program (ReadMath with a letter for the blank) -/
import Derived.Lib.SplitLaws
import Derived.Lib.ItoaNum
namespace Spg
open Go

/-- cut at each blank -/
def sp (p : UInt8) : List UInt8 → List (List UInt8)
  | [] => [[]]
  | c :: r => if c = p then [] :: sp p r else match sp p r with
    | [] => [[c]]
    | x :: xs => (c :: x) :: xs

def onHead (c : UInt8) : List (List UInt8) → List (List UInt8)
  | [] => [[c]]
  | x :: xs => (c :: x) :: xs

theorem sp_blank (p : UInt8) (r : List UInt8) : sp p (p :: r) = [] :: sp p r := by simp [sp]
theorem sp_other (p : UInt8) (c : UInt8) (r : List UInt8) (h : c ≠ p) : sp p (c :: r) = onHead c (sp p r) := by
  rw [sp, if_neg h]; rfl
theorem sp_ne (p : UInt8) (s : List UInt8) : sp p s ≠ [] := by
  cases s with
  | nil => simp [sp]
  | cons c r =>
    by_cases h : c = p
    · rw [h, sp_blank p]; simp
    · rw [sp_other p c r h]; cases sp p r <;> simp [onHead]

theorem sp_word (p : UInt8) (x : List UInt8) (hx : p ∉ x) : sp p x = [x] := by
  induction x with
  | nil => rfl
  | cons c r ih =>
    simp only [List.mem_cons, not_or] at hx
    rw [sp_other p c r (fun e => hx.1 e.symm), ih hx.2]; rfl

theorem sp_join (p : UInt8) (x r : List UInt8) (hx : p ∉ x) : sp p (x ++ p :: r) = x :: sp p r := by
  induction x with
  | nil => exact sp_blank p r
  | cons c t ih =>
    simp only [List.mem_cons, not_or] at hx
    rw [List.cons_append, sp_other p c _ (fun e => hx.1 e.symm), ih hx.2]; rfl

/-- the pieces joined again -/
def jn (p : UInt8) : List (List UInt8) → List UInt8
  | [] => []
  | [x] => x
  | x :: y :: r => x ++ p :: jn p (y :: r)

theorem jn_sp (p : UInt8) (s : List UInt8) : jn p (sp p s) = s := by
  induction s with
  | nil => rfl
  | cons c r ih =>
    by_cases h : c = p
    · rw [h, sp_blank p]
      cases hr : sp p r with
      | nil => exact absurd hr (sp_ne p r)
      | cons x xs => rw [hr] at ih; show [] ++ p :: jn p (x :: xs) = _; rw [ih]; rfl
    · rw [sp_other p c r h]
      cases hr : sp p r with
      | nil => exact absurd hr (sp_ne p r)
      | cons x xs =>
        rw [hr] at ih
        cases xs with
        | nil => show c :: x = _; rw [← ih]; rfl
        | cons y ys => show (c :: x) ++ p :: jn p (y :: ys) = _; rw [← ih]; rfl

theorem sp_jn (p : UInt8) : ∀ (ws : List (List UInt8)), ws ≠ [] → (∀ x ∈ ws, p ∉ x) → sp p (jn p ws) = ws
  | [], h, _ => absurd rfl h
  | [x], _, hx => sp_word p x (hx x (by simp))
  | x :: y :: r, _, hx => by
    show sp p (x ++ p :: jn p (y :: r)) = _
    rw [sp_join p x _ (hx x (by simp)), sp_jn p (y :: r) (by simp) (fun z hz => hx z (by simp at hz ⊢; exact .inr hz))]

theorem index_blank (p : UInt8) (l : List UInt8) : Lib.index (p :: l) [p] = 0 := by simp [Lib.index]
theorem index_cons (p : UInt8) (c : UInt8) (l : List UInt8) (h : c ≠ p) : Lib.index (c :: l) [p] = if Lib.index l [p] == -1 then -1 else Lib.index l [p] + 1 := by
  rw [Lib.index]
  have : ([p] : List UInt8).isPrefixOf (c :: l) = false := by simp [List.isPrefixOf]; exact fun e => h e.symm
  rw [this]; rfl

theorem splitK_cons (p : UInt8) (c : UInt8) (h : c ≠ p) (k : Nat) (l : List UInt8) : Lib.splitK [p] 0 k (c :: l) = onHead c (Lib.splitK [p] 0 k l) := by
  cases k with
  | zero => rfl
  | succ k =>
    unfold Lib.splitK
    rw [index_cons p c l h]
    rcases Lib.index_spec l [p] with ⟨hm, _⟩ | ⟨i, hi, _⟩
    · rw [hm]; rfl
    · rw [hi]
      have e1 : ((i : Int) == -1) = false := by
        rw [beq_eq_false_iff_ne]; omega
      have e2 : (((i : Int) + 1) == -1) = false := by
        rw [beq_eq_false_iff_ne]; omega
      simp only [e1, e2, Bool.false_eq_true, if_false]
      have e3 : ((i : Int) + 1).toNat = i + 1 := by omega
      have e4 : ((i : Int)).toNat = i := by omega
      rw [e3, e4]
      rfl

theorem split_sp (p : UInt8) (s : List UInt8) : Lib.splitK [p] 0 (Lib.count s [p]) s = sp p s := by
  induction s with
  | nil => rfl
  | cons c l ih =>
    by_cases h : c = p
    · rw [h, Lib.count_cons_eq, Nat.add_comm, sp_blank p, ← ih]
      rw [Lib.splitK, index_blank p]
      rfl
    · rw [Lib.count_cons_ne c p l h, splitK_cons p c h, ih, sp_other p c l h]

end Spg
