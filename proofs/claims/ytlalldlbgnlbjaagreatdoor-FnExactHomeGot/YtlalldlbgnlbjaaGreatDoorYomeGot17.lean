/- RwA -/
import Derived.Test.YtlalldlbgnlbjaaGreatDoorYomeGot2
import Derived.Laws.OwnMore
/- rows of structs of m integers: 'Sr': read; 'Orow': the call's own, filled up to k. Plain facts on worlds: nothing of the program. -/
namespace Go.Proofs.YtlalldlbgnlbjaaGreatDoor
open Go.RowKit
set_option linter.unusedVariables false
set_option linter.unusedSimpArgs false

def Sr (w : World) (v : Value) (m n : Nat) (f : Nat → Nat → Int) : Prop :=
  ∃ ad cap, v = .slice ad n cap ∧ (0 < n → ∃ b off, ad = some ⟨b, off, none⟩ ∧ ∀ j, j < n → ∀ i, i < m → w.cell? ⟨b, off + j * m + i, none⟩ = some (.int .i64 (f j i)))

def rowC (m n k : Nat) (f : Nat → Nat → Int) : List Value := (List.range (n * m)).map fun x => .int .i64 (if x / m < k then f (x / m) (x % m) else 0)

theorem rowC_length (m n k : Nat) (f : Nat → Nat → Int) : (rowC m n k f).length = n * m := by simp [rowC]
theorem rowC_get {m n k : Nat} {f : Nat → Nat → Int} {x : Nat} (h : x < n * m) : (rowC m n k f)[x]? = some (.int .i64 (if x / m < k then f (x / m) (x % m) else 0)) := by
  simp [rowC, h]
theorem rowC_none {m n k : Nat} {f : Nat → Nat → Int} {x : Nat} (h : ¬ x < n * m) : (rowC m n k f)[x]? = none := by
  simp [rowC]; omega

def Orow (w : World) (base : Nat) (T : TypeId) (m : Nat) (v : Value) (n k : Nat) (f : Nat → Nat → Int) : Prop := w.ownsRow base T m v n (rowC m n k f)

theorem made_row (z : Array Value) (m n : Nat) (hm : 0 < m) (hz : z.size = m) (h0 : ∀ i, i < m → z[i]! = .int .i64 0) (f : Nat → Nat → Int) : (madeCells z (n * m)).toList = rowC m n 0 f := by
  simp only [madeCells, rowC, Array.toList_map, Array.toList_range]
  apply List.map_congr_left
  intro x _
  rw [hz, h0 _ (Nat.mod_lt _ hm)]
  simp

/-- the k-th struct written over, whatever the length of a struct -/
theorem rowC_sets {m n k : Nat} {f : Nat → Nat → Int} {l : List Value} (hk : k < n) (hl : l.length = n * m)
    (ho : ∀ x, x < n * m → x / m ≠ k → l[x]? = (rowC m n k f)[x]?) (hn : ∀ i, i < m → l[k * m + i]? = some (.int .i64 (f k i))) : l = rowC m n (k + 1) f := by
  apply List.ext_getElem?
  intro x
  by_cases hx : x < n * m
  · have hm : 0 < m := by
      rcases Nat.eq_zero_or_pos m with h | h
      · subst h; simp at hx
      · exact h
    rw [rowC_get hx]
    by_cases e : x / m = k
    · have hx2 : x = k * m + x % m := by
        have h1 := Nat.div_add_mod x m
        rw [e, Nat.mul_comm] at h1
        exact h1.symm
      have h2 := hn (x % m) (Nat.mod_lt _ hm)
      rw [← hx2] at h2
      rw [h2, if_pos (by omega), e]
    · rw [ho x hx e, rowC_get hx]
      have : (x / m < k) ↔ (x / m < k + 1) := by omega
      simp only [this]
  · rw [rowC_none hx]
    exact List.getElem?_eq_none (by omega)

theorem Orow.below {w w' : World} {base : Nat} {T : TypeId} {m : Nat} {v : Value} {n k : Nat} {f : Nat → Nat → Int} (h : Orow w base T m v n k f) (hb : Below w.heap.size w w') : Orow w' base T m v n k f := by
  refine World.ownsRow.kept h (grown_of_below hb) ?_
  cases hv : v.ownBlock with
  | none => exact .inl rfl
  | some k => exact .inr (by simp)

theorem Sr.carry {w w' : World} {v : Value} {m n : Nat} {f : Nat → Nat → Int} (h : Sr w v m n f) (hb : ∀ a : Addr, ∀ u, w.cell? a = some u → w'.cell? a = some u) : Sr w' v m n f := by
  obtain ⟨ad, cap, rfl, h⟩ := h
  refine ⟨ad, cap, rfl, fun hp => ?_⟩
  obtain ⟨b, off, rfl, hc⟩ := h hp
  exact ⟨b, off, rfl, fun j hj i hi => hb _ _ (hc j hj i hi)⟩
theorem Sr.below {w w' : World} {v : Value} {m n : Nat} {f : Nat → Nat → Int} (h : Sr w v m n f) (hb : Below w.heap.size w w') : Sr w' v m n f := h.carry (Below.keep hb)

/-- a struct's cells written, one behind the other -/
theorem Orow.set2 {w : World} {base g n cap k : Nat} {T : TypeId} {f : Nat → Nat → Int} (hk : k < n) (h : Orow w base T 2 (.slice (some ⟨g, 0, none⟩) n cap) n k f) :
    Orow ((w.setCell ⟨g, k * 2, none⟩ (.int .i64 (f k 0))).setCell ⟨g, k * 2 + 1, none⟩ (.int .i64 (f k 1))) base T 2 (.slice (some ⟨g, 0, none⟩) n cap) n (k + 1) f := by
  have h2 := ((World.ownsRow.stored h (k * 2) (.int .i64 (f k 0))).1.stored (k * 2 + 1) (.int .i64 (f k 1))).1
  unfold Orow
  rw [← rowC_sets (l := ((rowC 2 n k f).set (k * 2) (.int .i64 (f k 0))).set (k * 2 + 1) (.int .i64 (f k 1))) hk (by simp [rowC_length]) ?_ ?_]
  · exact h2
  · intro x hx hne
    rw [List.getElem?_set_ne (by omega), List.getElem?_set_ne (by omega)]
  · intro i hi
    match i, hi with
    | 0, _ => rw [List.getElem?_set_ne (by omega), Nat.add_zero, List.getElem?_set_self (by rw [rowC_length]; omega)]
    | 1, _ => rw [List.getElem?_set_self (by rw [List.length_set, rowC_length]; omega)]

/-- a struct's 6 cells written, one behind the other -/
theorem Orow.set6 {w : World} {base g n cap k : Nat} {T : TypeId} {f : Nat → Nat → Int} (hk : k < n) (h : Orow w base T 6 (.slice (some ⟨g, 0, none⟩) n cap) n k f) :
    Orow ((((((w.setCell ⟨g, k * 6, none⟩ (.int .i64 (f k 0))).setCell ⟨g, k * 6 + 1, none⟩ (.int .i64 (f k 1))).setCell ⟨g, k * 6 + 2, none⟩ (.int .i64 (f k 2))).setCell ⟨g, k * 6 + 3, none⟩ (.int .i64 (f k 3))).setCell ⟨g, k * 6 + 4, none⟩ (.int .i64 (f k 4))).setCell ⟨g, k * 6 + 5, none⟩ (.int .i64 (f k 5))) base T 6 (.slice (some ⟨g, 0, none⟩) n cap) n (k + 1) f := by
  have h2 := ((((((World.ownsRow.stored h (k * 6) (.int .i64 (f k 0))).1.stored (k * 6 + 1) (.int .i64 (f k 1))).1.stored (k * 6 + 2) (.int .i64 (f k 2))).1.stored (k * 6 + 3) (.int .i64 (f k 3))).1.stored (k * 6 + 4) (.int .i64 (f k 4))).1.stored (k * 6 + 5) (.int .i64 (f k 5))).1
  unfold Orow
  rw [← rowC_sets (l := ((((((rowC 6 n k f).set (k * 6) (.int .i64 (f k 0))).set (k * 6 + 1) (.int .i64 (f k 1))).set (k * 6 + 2) (.int .i64 (f k 2))).set (k * 6 + 3) (.int .i64 (f k 3))).set (k * 6 + 4) (.int .i64 (f k 4))).set (k * 6 + 5) (.int .i64 (f k 5))) hk (by simp [rowC_length]) ?_ ?_]
  · exact h2
  · intro x hx hne
    rw [List.getElem?_set_ne (by omega), List.getElem?_set_ne (by omega), List.getElem?_set_ne (by omega), List.getElem?_set_ne (by omega), List.getElem?_set_ne (by omega), List.getElem?_set_ne (by omega)]
  · intro i hi
    match i, hi with
    | 0, _ => rw [List.getElem?_set_ne (by omega), List.getElem?_set_ne (by omega), List.getElem?_set_ne (by omega), List.getElem?_set_ne (by omega), List.getElem?_set_ne (by omega), Nat.add_zero, List.getElem?_set_self (by simp only [List.length_set, rowC_length]; omega)]
    | 1, _ => rw [List.getElem?_set_ne (by omega), List.getElem?_set_ne (by omega), List.getElem?_set_ne (by omega), List.getElem?_set_ne (by omega), List.getElem?_set_self (by simp only [List.length_set, rowC_length]; omega)]
    | 2, _ => rw [List.getElem?_set_ne (by omega), List.getElem?_set_ne (by omega), List.getElem?_set_ne (by omega), List.getElem?_set_self (by simp only [List.length_set, rowC_length]; omega)]
    | 3, _ => rw [List.getElem?_set_ne (by omega), List.getElem?_set_ne (by omega), List.getElem?_set_self (by simp only [List.length_set, rowC_length]; omega)]
    | 4, _ => rw [List.getElem?_set_ne (by omega), List.getElem?_set_self (by simp only [List.length_set, rowC_length]; omega)]
    | 5, _ => rw [List.getElem?_set_self (by simp only [List.length_set, rowC_length]; omega)]

end Go.Proofs.YtlalldlbgnlbjaaGreatDoor
