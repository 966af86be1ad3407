/- impl.CacheOk, impl.Holds; spec.l9Way, spec.Holds -/
import Derived.Test.YtofnkbpkjgapbaaCaN
import Derived.Deep.WholeRow
namespace Go.Proofs.Ytofnkbpkjgapbaa
open Go.RowKit
set_option linter.unusedVariables false
set_option linter.unusedSimpArgs false

theorem setsOf_all (v : Value) (n : Nat) (L : Nat → Nat) (D : Nat → Sm) (w : World) (hv : Cv w v n L D) :
    Calls Try.prog 27 #[.agg #[v]] w fun e w' => ∃ s t, e = .returned (.tuple #[.agg (c18 s t), .bool (Ca.cokB n L D)]) ∧ (Ca.cokB n L D = true → s = D 0 ∧ t = D 1) ∧ Below w.heap.size w w' := by
  by_cases hn : n = 2
  · subst hn
    have HV := hv
    obtain ⟨ad, cap, rfl, _⟩ := hv
    have e : Ca.cokB 2 L D = Ca.okB L D := rfl
    rw [e]
    exact setsOf_yes ad cap L D w HV
  · obtain ⟨ad, cap, rfl, _⟩ := hv
    have e : Ca.cokB n L D = false := by rw [Ca.cokB, decide_eq_false hn]; rfl
    rw [e]
    refine (setsOf_no ad n cap w hn).mono ?_
    rintro e w' ⟨s, t, rfl, hb⟩
    exact ⟨s, t, rfl, (fun h => absurd h (by decide)), hb⟩

theorem stored73 (w : World) (s t : Sm) : (storeCells ⟨w.heap.size, 0, none⟩ (c18 s t).toList).run Try.prog (w.alloc (.cells z18 57)) = .ok () (w.alloc (.cells (c18 s t) 57)) :=
  run_storeCells_new (P := Try.prog) w 57 z18 (c18 s t) (by rw [info73]; rfl) rfl (c18_one s t)

set_option maxHeartbeats 1000000 in
set_option maxRecDepth 20000 in
theorem implCacheOk_any (v : Value) (n : Nat) (L : Nat → Nat) (D : Nat → Sm) (w : World) (hv : Cv w v n L D) :
    Calls Try.prog 15 #[.agg #[v]] w fun e w' => e = .returned (.bool (Ca.cokB n L D)) ∧ Below w.heap.size w w' := by
  have hB : Below w.heap.size w (w.alloc (.cells #[v] 26)) := (Below.refl _ _).alloc (Nat.le_refl _) _
  have HV := hide (hv.below hB)
  obtain ⟨ad, cap, rfl, _⟩ := hv
  go_enter Try.func15, Try.ntmps15
  go_wp2_with fail
  refine (setsOf_all _ n L D _ HV.out).mono ?_
  rintro e w1 ⟨s, t, rfl, _, hb1⟩
  have hst := stored73 w1 s t
  have hz : (c18 s t).size = 18 := rfl
  have HB := hide (hB.trans (hb1.mono hB.size))
  clear hb1 hB HV
  generalize c18 s t = C at hst hz
  go_wp2
  go_ret
  exact ⟨rfl, below_a HB.out (Nat.le_refl _) _⟩

namespace Ca
def hldB (n : Nat) (L : Nat → Nat) (D : Nat → Sm) (x : Int) : Bool := cokB n L D && (inR x 1000 && decide (¬ fst (D (x % 2).toNat) true x = -1))
theorem hld_no {n : Nat} {L : Nat → Nat} {D : Nat → Sm} {x : Int} (h : cokB n L D = false) : hldB n L D x = false := by simp [hldB, h]
theorem hld_off {n : Nat} {L : Nat → Nat} {D : Nat → Sm} {x : Int} (h : inR x 1000 = false) : hldB n L D x = false := by simp [hldB, h]
theorem hld_at {n : Nat} {L : Nat → Nat} {D : Nat → Sm} {x : Int} (h : cokB n L D = true) (h2 : inR x 1000 = true) : hldB n L D x = decide (¬ fst (D (x % 2).toNat) true x = -1) := by simp [hldB, h, h2]
end Ca

theorem nine0 {W : World} {g : Nat} {T : TypeId} {s t : Sm} (h : W.heap[g]? = some (.cells (c18 s t) T (0, 0))) :
    W.cell? ⟨g, 0, none⟩ = some (.int .i64 s.b) ∧ W.cell? ⟨g, 1, none⟩ = some (.bool (s.u 0)) ∧ W.cell? ⟨g, 2, none⟩ = some (.int .i64 (s.a 0)) ∧ W.cell? ⟨g, 3, none⟩ = some (.bool (s.u 1)) ∧ W.cell? ⟨g, 4, none⟩ = some (.int .i64 (s.a 1)) ∧
    W.cell? ⟨g, 5, none⟩ = some (.bool (s.u 2)) ∧ W.cell? ⟨g, 6, none⟩ = some (.int .i64 (s.a 2)) ∧ W.cell? ⟨g, 7, none⟩ = some (.bool (s.u 3)) ∧ W.cell? ⟨g, 8, none⟩ = some (.int .i64 (s.a 3)) :=
  ⟨cell_of_row _ _ 0 _ _ _ h, cell_of_row _ _ 1 _ _ _ h, cell_of_row _ _ 2 _ _ _ h, cell_of_row _ _ 3 _ _ _ h, cell_of_row _ _ 4 _ _ _ h, cell_of_row _ _ 5 _ _ _ h, cell_of_row _ _ 6 _ _ _ h, cell_of_row _ _ 7 _ _ _ h, cell_of_row _ _ 8 _ _ _ h⟩
theorem nine1 {W : World} {g : Nat} {T : TypeId} {s t : Sm} (h : W.heap[g]? = some (.cells (c18 s t) T (0, 0))) :
    W.cell? ⟨g, 9, none⟩ = some (.int .i64 t.b) ∧ W.cell? ⟨g, 10, none⟩ = some (.bool (t.u 0)) ∧ W.cell? ⟨g, 11, none⟩ = some (.int .i64 (t.a 0)) ∧ W.cell? ⟨g, 12, none⟩ = some (.bool (t.u 1)) ∧ W.cell? ⟨g, 13, none⟩ = some (.int .i64 (t.a 1)) ∧
    W.cell? ⟨g, 14, none⟩ = some (.bool (t.u 2)) ∧ W.cell? ⟨g, 15, none⟩ = some (.int .i64 (t.a 2)) ∧ W.cell? ⟨g, 16, none⟩ = some (.bool (t.u 3)) ∧ W.cell? ⟨g, 17, none⟩ = some (.int .i64 (t.a 3)) :=
  ⟨cell_of_row _ _ 9 _ _ _ h, cell_of_row _ _ 10 _ _ _ h, cell_of_row _ _ 11 _ _ _ h, cell_of_row _ _ 12 _ _ _ h, cell_of_row _ _ 13 _ _ _ h, cell_of_row _ _ 14 _ _ _ h, cell_of_row _ _ 15 _ _ _ h, cell_of_row _ _ 16 _ _ _ h, cell_of_row _ _ 17 _ _ _ h⟩

set_option maxHeartbeats 2000000 in
set_option maxRecDepth 20000 in
theorem implHolds_any (v : Value) (n : Nat) (L : Nat → Nat) (D : Nat → Sm) (x : Int) (w : World) (hv : Cv w v n L D) :
    Calls Try.prog 14 #[.agg #[v], .int .i64 x] w fun e w' => e = .returned (.bool (Ca.hldB n L D x)) ∧ Below w.heap.size w w' := by
  have hB : Below w.heap.size w (w.alloc (.cells #[v] 26)) := (Below.refl _ _).alloc (Nat.le_refl _) _
  have HV := hide (hv.below hB)
  obtain ⟨ad, cap, rfl, _⟩ := hv
  go_enter Try.func14, Try.ntmps14
  go_wp2_with fail
  refine (setsOf_all _ n L D _ HV.out).mono ?_
  rintro e w1 ⟨s, t, rfl, hst1, hb1⟩
  have hst := stored73 w1 s t
  have hz : (c18 s t).size = 18 := rfl
  have HB := hide (below_a (hB.trans (hb1.mono hB.size)) (Nat.le_refl _) (.cells (c18 s t) 57))
  clear hb1 hB HV
  cases hc : Ca.cokB n L D
  · have HO := hide (Ca.hld_no (x := x) hc)
    clear hst1 hc
    generalize c18 s t = C at hst HB hz
    go_wp2
    go_ret
    exact ⟨ret_b HO.out.symm, HB.out⟩
  · obtain ⟨rfl, rfl⟩ := hst1 hc
    have hA := fun w => isAddr_any x w
    cases hx : inR x 1000
    · have HO := hide (Ca.hld_off (n := n) (L := L) (D := D) hx)
      rw [hx] at hA
      clear hc hx
      generalize c18 (D 0) (D 1) = C at hst HB hz
      go_wp2_with fail
      refine (hA _).mono ?_
      rintro e w2 ⟨rfl, rfl⟩
      go_wp2
      go_ret
      exact ⟨ret_b HO.out.symm, HB.out⟩
    · have HO := hide (Ca.hld_at hc hx)
      obtain ⟨h0, h1⟩ := (inR_cases hx).1 rfl
      rw [hx] at hA
      clear hc hx
      obtain ⟨W, hW⟩ : ∃ W, w1.alloc (.cells (c18 (D 0) (D 1)) 57) = W := ⟨_, rfl⟩
      have hg : W.heap[w1.heap.size]? = some (.cells (c18 (D 0) (D 1)) 57 (0, 0)) := by rw [← hW]; exact heap_alloc_new _ _
      rw [hW] at hst HB
      have hx2 : x % 2 = 0 ∨ x % 2 = 1 := by omega
      rcases hx2 with hp | hp
      · rw [hp] at HO
        have hf := fun w => wayOf_any (D 0) x w
        obtain ⟨c0, c1, c2, c3, c4, c5, c6, c7, c8⟩ := nine0 hg
        generalize hy : Ca.fst (D 0) true x = y at hf
        have HY := hide hy
        clear hg hW hy
        generalize c18 (D 0) (D 1) = C at hst hz
        go_wp2_with fail
        refine (hA _).mono ?_
        rintro e w2 ⟨rfl, rfl⟩
        go_wp2_with fail
        refine (hf _).mono ?_
        rintro e w3 ⟨rfl, hb3⟩
        have HB3 := hide (HB.out.trans (hb3.mono HB.out.size))
        have HE : Hid ((y != -1) = Ca.hldB n L D x) := hide (by rw [HO.out]; simp [HY.out, bne]; by_cases h : y = -1 <;> simp [h])
        clear hb3
        go_wp2
        go_ret
        exact ⟨ret_b HE.out, HB3.out⟩
      · rw [hp] at HO
        have hf := fun w => wayOf_any (D 1) x w
        obtain ⟨c0, c1, c2, c3, c4, c5, c6, c7, c8⟩ := nine1 hg
        generalize hy : Ca.fst (D 1) true x = y at hf
        have HY := hide hy
        clear hg hW hy
        generalize c18 (D 0) (D 1) = C at hst hz
        go_wp2_with fail
        refine (hA _).mono ?_
        rintro e w2 ⟨rfl, rfl⟩
        go_wp2_with fail
        refine (hf _).mono ?_
        rintro e w3 ⟨rfl, hb3⟩
        have HB3 := hide (HB.out.trans (hb3.mono HB.out.size))
        have HE : Hid ((y != -1) = Ca.hldB n L D x) := hide (by rw [HO.out]; simp [HY.out, bne]; by_cases h : y = -1 <;> simp [h])
        clear hb3
        go_wp2
        go_ret
        exact ⟨ret_b HE.out, HB3.out⟩

end Go.Proofs.Ytofnkbpkjgapbaa
