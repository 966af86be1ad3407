/- impl.CacheOk, impl.Holds; spec.l9Way, spec.Holds -/
import Derived.Test.YtlijgkodcbnhbaaCaN
import Derived.Deep.WholeRow
namespace Go.Proofs.Ytlijgkodcbnhbaa
open Go.RowKit
set_option linter.unusedVariables false
set_option linter.unusedSimpArgs false

theorem setsOf_all (v : Value) (n : Nat) (L : Nat → Nat) (D : Nat → Sm) (w : World) (hv : Cv w v n L D) :
    Calls Try.prog 13 #[.agg #[v]] w fun e w' => ∃ s t, e = .returned (.tuple #[.agg (c18 s t), .bool (Ca.cokB n L D)]) ∧ (Ca.cokB n L D = true → s = D 0 ∧ t = D 1) ∧ Below w.heap.size w w' := by
  by_cases hn : n = 2
  · subst hn
    have HV := hv
    obtain ⟨ad, cap, rfl, _⟩ := hv
    have e : Ca.cokB 2 L D = Ca.okB L D := rfl
    rw [e]
    exact setsOf_yes ad cap L D w HV
  · obtain ⟨ad, cap, rfl, _⟩ := hv
    have e : Ca.cokB n L D = false := by rw [Ca.cokB, decide_eq_false hn]; rfl
    rw [e]
    refine (setsOf_no ad n cap w hn).mono ?_
    rintro e w' ⟨s, t, rfl, hb⟩
    exact ⟨s, t, rfl, (fun h => absurd h (by decide)), hb⟩

theorem stored73 (w : World) (s t : Sm) : (storeCells ⟨w.heap.size, 0, none⟩ (c18 s t).toList).run Try.prog (w.alloc (.cells z18 45)) = .ok () (w.alloc (.cells (c18 s t) 45)) :=
  run_storeCells_new (P := Try.prog) w 45 z18 (c18 s t) (by rw [info73]; rfl) rfl (c18_one s t)

namespace Ca
def hldB (n : Nat) (L : Nat → Nat) (D : Nat → Sm) (x : Int) : Bool := cokB n L D && (inR x 1000 && decide (¬ fst (D (x % 2).toNat) true x = -1))
theorem hld_no {n : Nat} {L : Nat → Nat} {D : Nat → Sm} {x : Int} (h : cokB n L D = false) : hldB n L D x = false := by simp [hldB, h]
theorem hld_off {n : Nat} {L : Nat → Nat} {D : Nat → Sm} {x : Int} (h : inR x 1000 = false) : hldB n L D x = false := by simp [hldB, h]
theorem hld_at {n : Nat} {L : Nat → Nat} {D : Nat → Sm} {x : Int} (h : cokB n L D = true) (h2 : inR x 1000 = true) : hldB n L D x = decide (¬ fst (D (x % 2).toNat) true x = -1) := by simp [hldB, h, h2]
end Ca

theorem nine0 {W : World} {g : Nat} {T : TypeId} {s t : Sm} (h : W.heap[g]? = some (.cells (c18 s t) T (0, 0))) :
    W.cell? ⟨g, 0, none⟩ = some (.int .i64 s.b) ∧ W.cell? ⟨g, 1, none⟩ = some (.bool (s.u 0)) ∧ W.cell? ⟨g, 2, none⟩ = some (.int .i64 (s.a 0)) ∧ W.cell? ⟨g, 3, none⟩ = some (.bool (s.u 1)) ∧ W.cell? ⟨g, 4, none⟩ = some (.int .i64 (s.a 1)) ∧
    W.cell? ⟨g, 5, none⟩ = some (.bool (s.u 2)) ∧ W.cell? ⟨g, 6, none⟩ = some (.int .i64 (s.a 2)) ∧ W.cell? ⟨g, 7, none⟩ = some (.bool (s.u 3)) ∧ W.cell? ⟨g, 8, none⟩ = some (.int .i64 (s.a 3)) :=
  ⟨cell_of_row _ _ 0 _ _ _ h, cell_of_row _ _ 1 _ _ _ h, cell_of_row _ _ 2 _ _ _ h, cell_of_row _ _ 3 _ _ _ h, cell_of_row _ _ 4 _ _ _ h, cell_of_row _ _ 5 _ _ _ h, cell_of_row _ _ 6 _ _ _ h, cell_of_row _ _ 7 _ _ _ h, cell_of_row _ _ 8 _ _ _ h⟩
theorem nine1 {W : World} {g : Nat} {T : TypeId} {s t : Sm} (h : W.heap[g]? = some (.cells (c18 s t) T (0, 0))) :
    W.cell? ⟨g, 9, none⟩ = some (.int .i64 t.b) ∧ W.cell? ⟨g, 10, none⟩ = some (.bool (t.u 0)) ∧ W.cell? ⟨g, 11, none⟩ = some (.int .i64 (t.a 0)) ∧ W.cell? ⟨g, 12, none⟩ = some (.bool (t.u 1)) ∧ W.cell? ⟨g, 13, none⟩ = some (.int .i64 (t.a 1)) ∧
    W.cell? ⟨g, 14, none⟩ = some (.bool (t.u 2)) ∧ W.cell? ⟨g, 15, none⟩ = some (.int .i64 (t.a 2)) ∧ W.cell? ⟨g, 16, none⟩ = some (.bool (t.u 3)) ∧ W.cell? ⟨g, 17, none⟩ = some (.int .i64 (t.a 3)) :=
  ⟨cell_of_row _ _ 9 _ _ _ h, cell_of_row _ _ 10 _ _ _ h, cell_of_row _ _ 11 _ _ _ h, cell_of_row _ _ 12 _ _ _ h, cell_of_row _ _ 13 _ _ _ h, cell_of_row _ _ 14 _ _ _ h, cell_of_row _ _ 15 _ _ _ h, cell_of_row _ _ 16 _ _ _ h, cell_of_row _ _ 17 _ _ _ h⟩

end Go.Proofs.Ytlijgkodcbnhbaa
