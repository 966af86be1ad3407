/- toInt64S: a copy in new memory -/
import Derived.Test.YtokekgfompbdiaaDoorA
namespace Go.Proofs.YtokekgfompbdiaaDoor
open Go.RowKit

def part (zs : List Int) (k : Nat) : List Int := zs.take k ++ List.replicate (zs.length - k) 0
theorem part_zero (zs : List Int) : part zs 0 = List.replicate zs.length 0 := by simp [part]
theorem part_end (zs : List Int) : part zs zs.length = zs := by simp [part]
theorem part_length (zs : List Int) (k : Nat) (h : k ≤ zs.length) : (part zs k).length = zs.length := by simp [part]; omega
theorem part_set (zs : List Int) (k : Nat) (h : k < zs.length) : (part zs k).set k (zs.getD k 0) = part zs (k + 1) := by
  apply List.ext_getElem?
  intro j
  simp only [part, List.getElem?_set, List.getElem?_append, List.length_take, List.getElem?_take, List.getElem?_replicate, List.length_append, List.length_replicate, List.getD_eq_getElem?_getD]
  by_cases e : k = j
  · subst e
    have h1 : k < min (k + 1) zs.length := by omega
    have h2 : k < min k zs.length + (zs.length - k) := by omega
    simp [h, h1, h2]
  · by_cases hj : j < k
    · have h1 : j < min k zs.length := by omega
      have h2 : j < min (k + 1) zs.length := by omega
      have h3 : j < k + 1 := by omega
      simp [e, hj, h1, h2, h3]
    · have h1 : ¬ j < min k zs.length := by omega
      have h2 : ¬ j < min (k + 1) zs.length := by omega
      simp only [e, h1, h2, if_false]
      have e1 : min k zs.length = k := by omega
      have e2 : min (k + 1) zs.length = k + 1 := by omega
      rw [e1, e2]
      by_cases h4 : j < zs.length
      · rw [if_pos (by omega), if_pos (by omega)]
      · rw [if_neg (by omega), if_neg (by omega)]

theorem copy_start {w w' : World} {n : Nat} {zs : List Int} (hn : zs.length = n) (ho : w'.ownsRow w.heap.size 2 1 (.slice (some ⟨w.heap.size, 0, none⟩) n n) n (madeCells (Value.int .i64 0).cells (n * 1)).toList) :
    Ow w' w.heap.size (.slice (some ⟨w.heap.size, 0, none⟩) n n) (part zs 0) := by
  have e : (madeCells (Value.int .i64 0).cells (n * 1)).toList = List.replicate n (Value.int .i64 0) := by
    have := toList_madeCells_one (Value.int .i64 0) (n * 1)
    rw [Nat.mul_one] at this
    simpa [Value.cells] using this
  unfold Ow
  rw [part_zero, List.length_replicate, hn, List.map_replicate, ← e]
  exact ho

theorem copy_step {w : World} {base g n k : Nat} {zs : List Int} (hn : zs.length = n) (hk : k < n) (ho : Ow w base (.slice (some ⟨g, 0, none⟩) n n) (part zs k)) :
    Ow (w.setCell ⟨g, k, none⟩ (.int .i64 (zs.getD k 0))) base (.slice (some ⟨g, 0, none⟩) n n) (part zs (k + 1)) := by
  unfold Ow at *
  rw [part_length zs k (by omega), hn] at ho
  rw [part_length zs (k + 1) (by omega), hn, ← part_set zs k (by omega), List.map_set]
  exact (ho.stored k _).1

end Go.Proofs.YtokekgfompbdiaaDoor
