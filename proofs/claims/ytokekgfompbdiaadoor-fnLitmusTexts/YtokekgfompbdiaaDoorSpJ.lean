/- what is split at a string and joined with it again is what it was: nothing of the program -/
import Derived.Lib.SplitLaws
import Derived.Lib.Join
import Derived.Lib.IndexMore
namespace Spj
open Go
set_option linter.unusedSimpArgs false

theorem occ_take {s sub : List UInt8} {i : Nat} (h : Lib.occAt s sub i = true) : s.take i ++ (sub ++ s.drop (i + sub.length)) = s := by
  have hp : sub <+: s.drop i := by
    unfold Lib.occAt at h
    exact List.isPrefixOf_iff_prefix.1 h
  obtain ⟨t, ht⟩ := hp
  have h2 : s.drop (i + sub.length) = t := by
    rw [← List.drop_drop, ← ht]; simp
  rw [h2, ht, List.take_append_drop]

theorem splitK_ne (sep : List UInt8) (k : Nat) (s : List UInt8) : Lib.splitK sep 0 k s ≠ [] := by
  cases k with
  | zero => simp [Lib.splitK]
  | succ k => unfold Lib.splitK; split <;> simp

theorem join_splitK (sep : List UInt8) : ∀ (k : Nat) (s : List UInt8), Lib.join (Lib.splitK sep 0 k s) sep = s
  | 0, s => by simp [Lib.splitK, Lib.join, List.intercalate, List.intersperse]
  | k + 1, s => by
    unfold Lib.splitK
    rcases Lib.index_spec s sep with ⟨hm, _⟩ | ⟨i, hi, _, ho, _⟩
    · rw [hm]; simp [Lib.join, List.intercalate, List.intersperse]
    · have e1 : (((i : Nat) : Int) == -1) = false := by rw [beq_eq_false_iff_ne]; omega
      have e4 : ((i : Int)).toNat = i := by omega
      rw [hi, e1, e4]
      simp only [Bool.false_eq_true, if_false, Nat.add_zero]
      have ih := join_splitK sep k (s.drop (i + sep.length))
      cases hr : Lib.splitK sep 0 k (s.drop (i + sep.length)) with
      | nil => exact absurd hr (splitK_ne sep k _)
      | cons x xs =>
        rw [hr] at ih
        have e : Lib.join (s.take i :: x :: xs) sep = s.take i ++ (sep ++ Lib.join (x :: xs) sep) := by
          simp [Lib.join, List.intercalate, List.intersperse]
        rw [e, ih]
        exact occ_take ho

/-- what is split is the joining's only parts: two texts that split alike are one -/
theorem split_inj (sep s t : List UInt8) (h : Lib.splitK sep 0 (Lib.count s sep) s = Lib.splitK sep 0 (Lib.count t sep) t) : s = t := by
  rw [← join_splitK sep (Lib.count s sep) s, h, join_splitK]

/-- an occurrence of a string that holds the byte p behind u: p stands there -/
theorem occ_at {s u v : List UInt8} {p : UInt8} {j : Nat} (h : Lib.occAt s (u ++ p :: v) j = true) : s[j + u.length]? = some p := by
  have hp : (u ++ p :: v) <+: s.drop j := by
    unfold Lib.occAt at h
    exact List.isPrefixOf_iff_prefix.1 h
  obtain ⟨t, ht⟩ := hp
  have h1 : (s.drop j)[u.length]? = some p := by rw [← ht]; simp
  rw [List.getElem?_drop] at h1
  exact h1

/-- a part that holds no p: the separator's first occurrence is behind it -/
theorem index_part {x u v r : List UInt8} {p : UInt8} (hx : p ∉ x) (hu : p ∉ u) : Lib.index (x ++ ((u ++ p :: v) ++ r)) (u ++ p :: v) = x.length := by
  refine Lib.index_first (by simp) ?_ ?_
  · unfold Lib.occAt
    rw [List.isPrefixOf_iff_prefix, List.drop_left]
    exact ⟨r, rfl⟩
  · intro j hj
    cases h : Lib.occAt (x ++ ((u ++ p :: v) ++ r)) (u ++ p :: v) j with
    | false => rfl
    | true =>
      exfalso
      have h1 := occ_at h
      have e : x ++ ((u ++ p :: v) ++ r) = (x ++ u) ++ (p :: v ++ r) := by simp
      rw [e, List.getElem?_append_left (by simp; omega)] at h1
      have h2 := List.mem_of_getElem? h1
      rcases List.mem_append.1 h2 with h3 | h3
      · exact hx h3
      · exact hu h3

theorem index_last {x u v : List UInt8} {p : UInt8} (hx : p ∉ x) : Lib.index x (u ++ p :: v) = -1 := by
  refine Lib.index_none (fun j hj => ?_)
  cases h : Lib.occAt x (u ++ p :: v) j with
  | false => rfl
  | true => exact absurd (List.mem_of_getElem? (occ_at h)) hx

theorem count_fuel {u v : List UInt8} {p : UInt8} (hu : p ∉ u) : ∀ (xs : List (List UInt8)) (x : List UInt8) (f : Nat), (∀ z ∈ x :: xs, p ∉ z) → xs.length < f → Lib.countFrom (u ++ p :: v) f (Lib.join (x :: xs) (u ++ p :: v)) = xs.length
  | [], x, 0, _, hf => by simp at hf
  | [], x, f + 1, hz, _ => by
    have e : Lib.join [x] (u ++ p :: v) = x := by simp [Lib.join, List.intercalate, List.intersperse]
    rw [e, Lib.countFrom, index_last (hz x (by simp))]; rfl
  | y :: ys, x, 0, _, hf => by simp at hf
  | y :: ys, x, f + 1, hz, hf => by
    have e : Lib.join (x :: y :: ys) (u ++ p :: v) = x ++ ((u ++ p :: v) ++ Lib.join (y :: ys) (u ++ p :: v)) := by simp [Lib.join, List.intercalate, List.intersperse]
    have ih := count_fuel (v := v) hu ys y f (fun z hz' => hz z (by simp at hz' ⊢; exact .inr hz')) (by simp at hf; omega)
    have e1 : (((x.length : Nat) : Int) == -1) = false := by rw [beq_eq_false_iff_ne]; omega
    rw [e, Lib.countFrom, index_part (hz x (by simp)) hu, e1]
    simp only [Bool.false_eq_true, if_false, Int.toNat_natCast]
    rw [← List.append_assoc, ← List.length_append, List.drop_left, ih]
    simp; omega

theorem split_fuel {u v : List UInt8} {p : UInt8} (hu : p ∉ u) : ∀ (xs : List (List UInt8)) (x : List UInt8), (∀ z ∈ x :: xs, p ∉ z) → Lib.splitK (u ++ p :: v) 0 xs.length (Lib.join (x :: xs) (u ++ p :: v)) = x :: xs
  | [], x, _ => by simp [Lib.splitK, Lib.join, List.intercalate, List.intersperse]
  | y :: ys, x, hz => by
    have e : Lib.join (x :: y :: ys) (u ++ p :: v) = x ++ ((u ++ p :: v) ++ Lib.join (y :: ys) (u ++ p :: v)) := by simp [Lib.join, List.intercalate, List.intersperse]
    have ih := split_fuel (v := v) hu ys y (fun z hz' => hz z (by simp at hz' ⊢; exact .inr hz'))
    have e1 : (((x.length : Nat) : Int) == -1) = false := by rw [beq_eq_false_iff_ne]; omega
    rw [e, List.length_cons, Lib.splitK, index_part (hz x (by simp)) hu, e1]
    simp only [Bool.false_eq_true, if_false, Int.toNat_natCast, Nat.add_zero]
    rw [List.take_left, ← List.append_assoc, ← List.length_append, List.drop_left, ih]

theorem join_len {u v : List UInt8} {p : UInt8} : ∀ (xs : List (List UInt8)) (x : List UInt8), xs.length ≤ (Lib.join (x :: xs) (u ++ p :: v)).length
  | [], x => by simp
  | y :: ys, x => by
    have e : Lib.join (x :: y :: ys) (u ++ p :: v) = x ++ ((u ++ p :: v) ++ Lib.join (y :: ys) (u ++ p :: v)) := by simp [Lib.join, List.intercalate, List.intersperse]
    have ih := join_len (u := u) (v := v) (p := p) ys y
    rw [e]
    simp only [List.length_append, List.length_cons]
    omega

/-- what is joined is split into its parts -/
theorem split_join {u v : List UInt8} {p : UInt8} (hu : p ∉ u) (x : List UInt8) (xs : List (List UInt8)) (h : ∀ z ∈ x :: xs, p ∉ z) :
    Lib.splitK (u ++ p :: v) 0 (Lib.count (Lib.join (x :: xs) (u ++ p :: v)) (u ++ p :: v)) (Lib.join (x :: xs) (u ++ p :: v)) = x :: xs := by
  have hl := join_len (u := u) (v := v) (p := p) xs x
  rw [Lib.count, count_fuel hu xs x _ h (by omega), split_fuel hu xs x h]

end Spj
