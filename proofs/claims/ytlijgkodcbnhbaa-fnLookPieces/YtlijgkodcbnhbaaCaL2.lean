/- a cache's set written on -/
import Derived.Test.YtlijgkodcbnhbaaCaL1
import Derived.Test.YtlijgkodcbnhbaaPlS
namespace Go.Proofs.Ytlijgkodcbnhbaa
open Go.RowKit
set_option linter.unusedVariables false
set_option linter.unusedSimpArgs false

theorem Cg.putWay {w : World} {B : Nat} {v : Value} {n : Nat} {L : Nat → Nat} {D D' : Nat → Sm} {G : Nat} {ib : Nat → Nat} {c k : Nat} {x : Int} (h : Cg w B v n L D G ib) (hc : c < n) (hk : k < L c) (h1 : ∀ c', c' ≠ c → D' c' = D c') (h2 : (D' c).b = (D c).b) (h3 : ∀ j, (D' c).u j = if j = k then true else (D c).u j) (h4 : ∀ j, (D' c).a j = if j = k then x else (D c).a j) :
    Cg ((w.setCell ⟨ib c, k * 2, none⟩ (.bool true)).setCell ⟨ib c, k * 2 + 1, none⟩ (.int .i64 x)) B v n L D' G ib := by
  have hne : ib c ≠ G := h.ne c hc
  have hcell : ∀ (g i : Nat), ib c ≠ g → ((w.setCell ⟨ib c, k * 2, none⟩ (.bool true)).setCell ⟨ib c, k * 2 + 1, none⟩ (.int .i64 x)).cell? ⟨g, i, none⟩ = w.cell? ⟨g, i, none⟩ := fun g i hg => by rw [other_set hg, other_set hg]
  have hw := h.wcI c hc
  refine ⟨h.val, h.lo, (h.wcG.set _).set _, fun c' hc' => ((h.wcI c' hc').set _).set _, h.ne, h.inj, fun c' hc' => ?_, fun c' hc' j hj => ?_⟩
  · rw [hcell G _ hne, hcell G _ hne]
    have e : (D' c').b = (D c').b := by
      by_cases e : c' = c
      · subst e; exact h2
      · rw [h1 c' e]
    rw [e]; exact h.at_ c' hc'
  · by_cases e : c' = c
    · subst e
      rw [h3, h4]
      by_cases ej : j = k
      · subst ej
        rw [if_pos rfl, if_pos rfl]
        refine ⟨?_, ?_⟩
        · obtain ⟨u, hu⟩ := hw.facts.2 (j * 2) (by omega)
          rw [far_set (by omega), World.cell?_setCell_same (h := hu)]
        · obtain ⟨u, hu⟩ := (hw.set (B := ib c') (i := j * 2) (.bool true)).facts.2 (j * 2 + 1) (by omega)
          rw [World.cell?_setCell_same (h := hu)]
      · rw [if_neg ej, if_neg ej, far_set (by omega), far_set (by omega), far_set (by omega), far_set (by omega)]
        exact h.way c' hc' j hj
    · have hg : ib c ≠ ib c' := fun q => e (h.inj c c' hc hc' q).symm
      rw [hcell _ _ hg, hcell _ _ hg, h1 c' e]
      exact h.way c' hc' j hj
theorem Cg.putSet {w : World} {B : Nat} {v : Value} {n : Nat} {L : Nat → Nat} {D D' : Nat → Sm} {G : Nat} {ib : Nat → Nat} {c ic : Nat} {b : Int} (h : Cg w B v n L D G ib) (hc : c < n) (h1 : ∀ c', c' ≠ c → D' c' = D c') (h2 : (D' c).b = b) (h3 : ∀ j, (D' c).u j = (D c).u j) (h4 : ∀ j, (D' c).a j = (D c).a j) :
    Cg ((w.setCell ⟨G, c * 2, none⟩ (.int .i64 b)).setCell ⟨G, c * 2 + 1, none⟩ (.slice (some ⟨ib c, 0, none⟩) (L c) ic)) B v n L D' G ib := by
  have hcell : ∀ (g i : Nat), G ≠ g → ((w.setCell ⟨G, c * 2, none⟩ (.int .i64 b)).setCell ⟨G, c * 2 + 1, none⟩ (.slice (some ⟨ib c, 0, none⟩) (L c) ic)).cell? ⟨g, i, none⟩ = w.cell? ⟨g, i, none⟩ := fun g i hg => by rw [other_set hg, other_set hg]
  refine ⟨h.val, h.lo, (h.wcG.set _).set _, fun c' hc' => ((h.wcI c' hc').set _).set _, h.ne, h.inj, fun c' hc' => ?_, fun c' hc' j hj => ?_⟩
  · by_cases e : c' = c
    · subst e
      refine ⟨?_, ic, ?_⟩
      · obtain ⟨u, hu⟩ := h.wcG.facts.2 (c' * 2) (by omega)
        rw [far_set (by omega), World.cell?_setCell_same (h := hu), h2]
      · obtain ⟨u, hu⟩ := (h.wcG.set (B := G) (i := c' * 2) (.int .i64 b)).facts.2 (c' * 2 + 1) (by omega)
        rw [World.cell?_setCell_same (h := hu)]
    · rw [far_set (by omega), far_set (by omega), far_set (by omega), far_set (by omega), h1 c' e]
      exact h.at_ c' hc'
  · have hg : G ≠ ib c' := fun q => h.ne c' hc' q.symm
    have e : (D' c').u j = (D c').u j ∧ (D' c').a j = (D c').a j := by
      by_cases e : c' = c
      · subst e; exact ⟨h3 j, h4 j⟩
      · rw [h1 c' e]; exact ⟨rfl, rfl⟩
    rw [hcell _ _ hg, hcell _ _ hg, e.1, e.2]
    exact h.way c' hc' j hj

namespace Ca
theorem free_a {s : Sm} {c k : Nat} (h : rightB s c = true) (hk : k < 4) (hu : s.u k = false) : s.a k = 0 := by
  simp only [rightB, Bool.and_eq_true] at h
  obtain ⟨⟨⟨⟨h0, h1⟩, h2⟩, h3⟩, _⟩ := h
  have : k = 0 ∨ k = 1 ∨ k = 2 ∨ k = 3 := by omega
  rcases this with rfl | rfl | rfl | rfl
  · rw [wayB_off hu] at h0; simpa using h0
  · rw [wayB_off hu] at h1; simpa using h1
  · rw [wayB_off hu] at h2; simpa using h2
  · rw [wayB_off hu] at h3; simpa using h3
theorem free_none {s : Sm} (h : ∀ j, j < 4 → s.u j = true) : fst s false 0 = -1 := by
  have hn : ∀ j, j < 4 → at_ s false 0 j = false := fun j hj => at_no (fun q => by rw [h j hj] at q; cases q.1)
  simp [fst, hn 0 (by omega), hn 1 (by omega), hn 2 (by omega), hn 3 (by omega)]
theorem free_first {s : Sm} {c k : Nat} (hr : rightB s c = true) (hk : k < 4) (hu : s.u k = false) (h : ∀ j, j < k → s.u j = true) : fst s false 0 = k := by
  have hn : ∀ j, j < k → at_ s false 0 j = false := fun j hj => at_no (fun q => by rw [h j hj] at q; cases q.1)
  have hy : at_ s false 0 k = true := at_yes hu (free_a hr hk hu)
  have : k = 0 ∨ k = 1 ∨ k = 2 ∨ k = 3 := by omega
  rcases this with rfl | rfl | rfl | rfl
  · simp [fst, hy]
  · simp [fst, hy, hn 0 (by omega)]
  · simp [fst, hy, hn 0 (by omega), hn 1 (by omega)]
  · simp [fst, hy, hn 0 (by omega), hn 1 (by omega), hn 2 (by omega)]
theorem wy_hit {s : Sm} {x : Int} (h : ¬ fst s true x = -1) : wy s x = fst s true x ∧ hd s x = true ∧ gn s x = -1 := ⟨if_pos h, decide_eq_true h, if_pos h⟩
theorem wy_free {s : Sm} {x : Int} (h : fst s true x = -1) (h2 : ¬ fst s false 0 = -1) : wy s x = fst s false 0 ∧ hd s x = false ∧ gn s x = -1 := by
  refine ⟨?_, decide_eq_false (by simp [h]), ?_⟩
  · unfold wy; rw [if_neg (by simp [h]), if_pos h2]
  · unfold gn; rw [if_neg (by simp [h]), if_pos h2]
theorem wy_full {s : Sm} {x : Int} (h : fst s true x = -1) (h2 : fst s false 0 = -1) : wy s x = Plru.vI s.b ∧ hd s x = false ∧ gn s x = s.a (Plru.vI s.b).toNat := by
  refine ⟨?_, decide_eq_false (by simp [h]), ?_⟩
  · unfold wy; rw [if_neg (by simp [h]), if_neg (by simp [h2])]
  · unfold gn; rw [if_neg (by simp [h]), if_neg (by simp [h2])]
end Ca

end Go.Proofs.Ytlijgkodcbnhbaa
