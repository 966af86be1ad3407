/- spec.TsoDo; laws.toBAct -/
import Derived.Test.YtcocobmanlmjdaaTmD
namespace Go.Proofs.Ytcocobmanlmjdaa
open Go.RowKit
set_option linter.unusedVariables false
set_option linter.unusedSimpArgs false

set_option maxHeartbeats 4000000 in
theorem toBAct_any (k co va vl rg : Int) (w : World) :
    Calls Try.prog 63 #[.agg (five k co va vl rg)] w fun e w' => e = .returned (.agg (five k co va vl rg)) ∧ Below w.heap.size w w' := by
  go_enter Try.func63, Try.ntmps63
  go_wp2
  refine bodyPost_ret (v := .agg (five k co va vl rg)) (by simp [results, Try.results63, go_sem]) rfl ⟨rfl, ?_⟩
  repeat' (first | exact Below.refl _ _ | refine Below.setCell ?_ (by simp <;> omega) _ | refine Below.alloc ?_ (by simp <;> omega) _)

theorem Bcap.below {w w' : World} {bv : Value} {C : Nat} {L : Nat → Nat} {F : Nat → Nat → Nat → Int} (h : Bcap w bv C) (hs : Ss w bv C L F) (hb : Below w.heap.size w w') : Bcap w' bv C := by
  intro p o k c a n kk e hc hcell
  obtain ⟨ad, cap, e', hs⟩ := hs
  obtain ⟨b, off, e2, hs⟩ := hs (by omega)
  obtain ⟨ia, ic, q, _⟩ := hs c hc
  have e3 := e'.symm.trans e
  rw [e2] at e3
  simp only [Value.slice.injEq, Option.some.injEq, Addr.mk.injEq] at e3
  obtain ⟨⟨rfl, rfl, _⟩, _, rfl⟩ := e3
  have q' := keepc hb q
  rw [q'] at hcell
  simp only [Option.some.injEq, Value.slice.injEq] at hcell
  obtain ⟨rfl, rfl, rfl⟩ := hcell
  exact h _ _ _ _ _ _ _ e hc q

end Go.Proofs.Ytcocobmanlmjdaa
