/- slots: spec.SlotOk, toSlot, eqSlot -/
import Derived.Test.YtelknolcneiikaaDoorSlA
namespace Go.Proofs.YtelknolcneiikaaDoor
open Go.RowKit


theorem spec_no {st d wt v : Int} (h : slB st d wt v = true) : inB st 0 3 = true ∧ inB d 0 1000000 = true ∧ inB wt 0 2 = true ∧ inB v 0 1000000 = true := by
  obtain ⟨h0, hc⟩ := slB_cases h
  simp only [inB_iff]
  omega


end Go.Proofs.YtelknolcneiikaaDoor
