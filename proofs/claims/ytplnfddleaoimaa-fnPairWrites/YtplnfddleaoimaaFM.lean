/- markInt64S, heldInt64S, l1Has -/
import Derived.Test.YtplnfddleaoimaaC
namespace Go.Proofs.Ytplnfddleaoimaa
open Go.RowKit

/-- marked up to j -/
def mpart (k0 : Int) (xs : List Int) (j : Nat) : List Int := marks k0 j ++ xs.drop j
theorem mpart_length (k0 : Int) (xs : List Int) (j : Nat) (h : j ≤ xs.length) : (mpart k0 xs j).length = xs.length := by simp [mpart, marks_length]; omega
theorem mpart_end (k0 : Int) (xs : List Int) : mpart k0 xs xs.length = marks k0 xs.length := by simp [mpart]
theorem mpart_set (k0 : Int) (xs : List Int) (j : Nat) (h : j < xs.length) : (mpart k0 xs j).set j (k0 + j) = mpart k0 xs (j + 1) := by
  apply List.ext_getElem?
  intro i
  simp only [mpart, List.getElem?_set, List.getElem?_append, marks_length, List.length_append, List.length_drop, List.getElem?_drop]
  by_cases e : j = i
  · subst e
    have h1 : j < j + (xs.length - j) := by omega
    simp [h1, marks]
  · by_cases hj : i < j
    · have h1 : i < j + 1 := by omega
      simp [e, hj, h1, marks]
    · have h1 : ¬ i < j + 1 := by omega
      simp only [e, hj, h1, if_false]
      congr 1
      omega

theorem mark_step {w : World} {base g n cap j : Nat} {k0 : Int} {xs : List Int} (hn : xs.length = n) (hj : j < n) (ho : Ow w base (.slice (some ⟨g, 0, none⟩) n cap) (mpart k0 xs j)) :
    Ow (w.setCell ⟨g, j, none⟩ (.int .i64 (k0 + j))) base (.slice (some ⟨g, 0, none⟩) n cap) (mpart k0 xs (j + 1)) ∧ w.grownBy (w.setCell ⟨g, j, none⟩ (.int .i64 (k0 + j))) (some g) ∧
      w.frozen? ⟨g, j, none⟩ = false ∧ ∃ o, w.cell? ⟨g, j, none⟩ = some o := by
  unfold Ow at *
  rw [mpart_length k0 xs j (by omega), hn] at ho
  refine ⟨?_, (ho.stored j _).2, ho.frozenAt j, ?_⟩
  · rw [mpart_length k0 xs (j + 1) (by omega), hn, ← mpart_set k0 xs j (by omega), List.map_set]
    exact (ho.stored j _).1
  · have h1 := ho.cellAt j (by omega)
    have h2 : j < ((mpart k0 xs j).map (Value.int .i64)).length := by rw [List.length_map, mpart_length k0 xs j (by omega), hn]; exact hj
    rw [List.getElem?_eq_getElem h2] at h1
    exact ⟨_, h1⟩

end Go.Proofs.Ytplnfddleaoimaa
