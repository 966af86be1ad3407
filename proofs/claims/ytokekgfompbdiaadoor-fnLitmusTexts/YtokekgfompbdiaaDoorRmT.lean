/- the loop of l2Split, nothing of the program -/
import Derived.Test.YtokekgfompbdiaaDoorReadMath
namespace Rdm

/-- the word that is being gathered goes ahead of the first piece -/
def pre (cur : List UInt8) : List (List UInt8) → List (List UInt8)
  | [] => [cur]
  | x :: r => (cur ++ x) :: r

theorem pre_nil (l : List UInt8) : pre [] (sp l) = sp l := by
  cases h : sp l with
  | nil => exact absurd h (sp_ne l)
  | cons x r => rfl

theorem pre_other (cur l : List UInt8) (c : UInt8) (h : c ≠ 32) : pre cur (sp (c :: l)) = pre (cur ++ [c]) (sp l) := by
  rw [sp_other c l h]
  cases hs : sp l with
  | nil => exact absurd hs (sp_ne l)
  | cons x r => simp [onHead, pre]

theorem nz_cons (x : List UInt8) (r : List (List UInt8)) : nz (x :: r) = (if x = [] then [] else [x]) ++ nz r := by
  cases x with
  | nil => simp [nz]
  | cons => simp [nz]

/-- what l2Split has gathered ahead of the letter at k -/
def SInv (l : List UInt8) (k : Nat) (xs : List (List UInt8)) (cur : List UInt8) : Prop :=
  cur.length ≤ k ∧ xs.length ≤ k ∧ (∀ x ∈ xs, x.length ≤ l.length) ∧ (k ≤ l.length → nz (sp l) = xs ++ nz (pre cur (sp (l.drop k)))) ∧ (l.length < k → nz (sp l) = xs)

theorem SInv.start (l : List UInt8) : SInv l 0 [] [] := ⟨by simp, by simp, by simp, fun _ => by simp [pre_nil], fun h => absurd h (by omega)⟩

theorem SInv.letter {l : List UInt8} {k : Nat} {xs : List (List UInt8)} {cur : List UInt8} (h : SInv l k xs cur) (hk : k < l.length) {c : UInt8} (hc : l[k]? = some c) (hne : c ≠ 32) : SInv l (k + 1) xs (cur ++ [c]) := by
  obtain ⟨h1, h2, h3, h4, h5⟩ := h
  refine ⟨by simp; omega, by omega, h3, fun _ => ?_, fun h => absurd h (by omega)⟩
  rw [h4 (by omega)]
  have e : l.drop k = c :: l.drop (k + 1) := by
    rw [List.drop_eq_getElem_cons hk]
    rw [List.getElem?_eq_getElem hk] at hc
    cases hc; rfl
  rw [e, pre_other _ _ _ hne]

theorem SInv.cut {l : List UInt8} {k : Nat} {xs : List (List UInt8)} {cur : List UInt8} (h : SInv l k xs cur) (hk : k ≤ l.length) (hc : k < l.length → l[k]? = some 32) : SInv l (k + 1) (xs ++ if cur = [] then [] else [cur]) [] := by
  obtain ⟨h1, h2, h3, h4, h5⟩ := h
  refine ⟨by simp, ?_, ?_, fun hk1 => ?_, fun hk1 => ?_⟩
  · split <;> simp <;> omega
  · intro x hx
    split at hx
    · exact h3 x (by simpa using hx)
    · simp at hx
      rcases hx with hx | rfl
      · exact h3 x hx
      · omega
  · have hlt : k < l.length := by omega
    have e : l.drop k = 32 :: l.drop (k + 1) := by
      have := hc hlt
      rw [List.drop_eq_getElem_cons hlt]
      rw [List.getElem?_eq_getElem hlt] at this
      rw [Option.some.inj this]
    rw [h4 hk, e, sp_blank, pre_nil]
    simp only [pre, List.append_nil]
    rw [nz_cons, List.append_assoc]
  · have e : l.drop k = [] := List.drop_eq_nil_of_le (by omega)
    rw [h4 hk, e]
    simp only [sp, pre, List.append_nil]
    rw [nz_cons]
    simp [nz]

end Rdm
