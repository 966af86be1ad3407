/- nets: copied, compared, opened -/
import Derived.Test.YtgjfhaikogobpaaNtB
import Derived.WalkKit
import Derived.ProofKit
import Derived.OpenShut
import Derived.ShutString
import Derived.ChangeOld
import Derived.Below
import Derived.OpenVars
import Derived.Deep.SlicePairs
namespace Go.Proofs.Ytgjfhaikogobpaa
open Go.ChangeShapes Go.WideShapes Go.ChangeAt Go.WideMaps Go.WideElems Go.RowKit
set_option linter.unusedVariables false
set_option linter.unusedSimpArgs false

theorem Orow.other {w : World} {base : Nat} {T : TypeId} {m g l cap n k B i : Nat} {f : Nat → Nat → Int} {v : Value} (h : Orow w base T m (.slice (some ⟨g, 0, none⟩) l cap) n k f) (hne : g ≠ B) : Orow (w.setCell ⟨B, i, none⟩ v) base T m (.slice (some ⟨g, 0, none⟩) l cap) n k f := by
  obtain ⟨h1, h2⟩ := h
  refine ⟨h1, ?_⟩
  rcases h2 with h2 | ⟨g', cap', cur, e, hb, hg, r⟩
  · exact .inl h2
  · refine .inr ⟨g', cap', cur, e, hb, ?_, r⟩
    simp only [Value.slice.injEq, Option.some.injEq, Addr.mk.injEq] at e
    obtain ⟨⟨rfl, _, _⟩, _, _⟩ := e
    rw [heap_setCell_other _ _ _ _ (by simpa using hne)]
    exact hg
theorem Orow.blk {w : World} {base : Nat} {T : TypeId} {m g n cap k l : Nat} {f : Nat → Nat → Int} (h : Orow w base T m (.slice (some ⟨g, 0, none⟩) l cap) n k f) : base ≤ g ∧ g < w.heap.size := World.ownsRow.lt h g rfl
theorem Orow.lower {w : World} {base base' : Nat} {T : TypeId} {m n k : Nat} {v : Value} {f : Nat → Nat → Int} (h : Orow w base T m v n k f) (hb : base' ≤ base) : Orow w base' T m v n k f := by
  obtain ⟨h1, h2⟩ := h
  refine ⟨h1, ?_⟩
  rcases h2 with h2 | ⟨g', cap', cur, e, hb', r⟩
  · exact .inl h2
  · exact .inr ⟨g', cap', cur, e, Nat.le_trans hb hb', r⟩

abbrev nt (N : Int) (v : Value) : Array Value := #[.int .i64 N, v]
abbrev fl (g n : Nat) : Value := .slice (some ⟨g, 0, none⟩) n n
abbrev nilS : Value := .slice none 0 0

set_option maxHeartbeats 2000000 in
theorem toNet_any (N : Int) (v : Value) (n : Nat) (f : Nat → Nat → Int) (w : World) (hs : Sr w v 2 n f) (hb : n ≤ 1048576) :
    Calls Try.prog 11 #[.agg (nt N v)] w fun e w' => ∃ g, e = .returned (.agg (nt N (fl g n))) ∧ Orow w' w.heap.size 42 2 (fl g n) n n f ∧ Below w.heap.size w w' := by
  obtain ⟨ad, cap, rfl, hs'⟩ := hs
  have hs : Sr w (.slice ad n cap) 2 n f := ⟨ad, cap, rfl, hs'⟩
  clear hs'
  have HE : Hid (∀ W, (((w.alloc (Obj.cells (nt N (.slice ad n cap)) 24)).alloc (Obj.cells (nt 0 nilS) 27)).alloc (Obj.cells (nt N nilS) 27)) = W → W.heap[w.heap.size]? = some (.cells (nt N (.slice ad n cap)) 24 (0, 0)) ∧ W.heap[w.heap.size + 1]? = some (.cells (nt 0 nilS) 27 (0, 0)) ∧ W.heap[w.heap.size + 1 + 1]? = some (.cells (nt N nilS) 27 (0, 0)) ∧ Below w.heap.size w W ∧ W.heap.size = w.heap.size + 1 + 1 + 1) := by
    refine hide fun W hW => ?_
    subst hW
    refine ⟨?_, ?_, ?_, ?_, by simp⟩
    · rw [Below.heap_alloc _ _ _ (by simp; omega), Below.heap_alloc _ _ _ (by simp)]; exact heap_alloc_new _ _
    · rw [Below.heap_alloc _ _ _ (by simp)]; have := heap_alloc_new (w.alloc (Obj.cells (nt N (.slice ad n cap)) 24)) (Obj.cells (nt 0 nilS) 27); simpa only [World.size_alloc] using this
    · have := heap_alloc_new ((w.alloc (Obj.cells (nt N (.slice ad n cap)) 24)).alloc (Obj.cells (nt 0 nilS) 27)) (Obj.cells (nt N nilS) 27); simpa only [World.size_alloc] using this
    · exact (((Below.refl _ _).alloc (Nat.le_refl _) _).alloc (by simp) _).alloc (by simp; omega) _
  have hO2 : w.heap.size ≤ w.heap.size + 1 + 1 := by omega
  go_enter Try.func11, Try.ntmps11
  go_wp2_with fail
  generalize hW : (World.alloc (World.alloc (World.alloc _ _) _) _) = W
  obtain ⟨rA, rZ, rO, hbW, hz⟩ := HE.out W hW
  clear HE hW
  refine (toA2S_any (.slice ad n cap) n f _ (hs.below hbW) hb).mono ?_
  rintro e w1 ⟨g, rfl, ho, hb1⟩
  have hgb := ho.blk
  have rZ := (hb1.block _ (by rw [hz]; omega)).trans rZ
  have rO := (hb1.block _ (by rw [hz]; omega)).trans rO
  have hB1 := hbW.trans (hb1.mono hbW.size)
  obtain ⟨fZ, z0, z1⟩ := row2_facts rZ
  obtain ⟨fO, o0, o1⟩ := row2_facts rO
  have ho' := ho.lower (base' := w.heap.size) (by rw [hz]; omega)
  have hg3 : w.heap.size + 1 + 1 < g := by rw [hz] at hgb; omega
  have hne2 : ¬ w.heap.size + 1 = w.heap.size + 1 + 1 := by omega
  have HX := hide (And.intro ho' hB1)
  clear ho ho' hb1 hB1 hbW rA rZ rO hgb hs hz
  go_wp2
  refine bodyPost_ret (v := .agg (nt N (fl g n))) (by simp [results, Try.results11, go_sem, z0, z1]) rfl ⟨g, rfl, ?_, ?_⟩
  · iterate 3 (refine Orow.other ?_ (by omega))
    exact HX.out.1
  · have hZ2 : w.heap.size ≤ w.heap.size + 1 := by omega
    iterate 2 (refine Below.setCell ?_ hZ2 _)
    refine Below.setCell ?_ hO2 _
    exact HX.out.2

set_option maxHeartbeats 1000000 in
theorem eqNet_same (N : Int) (a b : Value) (n : Nat) (f : Nat → Nat → Int) (w : World) (ha : Sr w a 2 n f) (hb : Sr w b 2 n f) (hl : n ≤ 1048576) :
    Calls Try.prog 13 #[.agg (nt N a), .agg (nt N b)] w fun e w' => e = .returned (.bool true) ∧ Below w.heap.size w w' := by
  have HA := hide ha
  have HB := hide hb
  obtain ⟨ad, cap, rfl, _⟩ := ha
  obtain ⟨bd, cbp, rfl, _⟩ := hb
  have hB0 : Below w.heap.size w ((w.alloc (.cells (nt N (.slice ad n cap)) 27)).alloc (.cells (nt N (.slice bd n cbp)) 27)) := ((Below.refl _ _).alloc (Nat.le_refl _) _).alloc (by simp) _
  go_enter Try.func13, Try.ntmps13
  go_wp2_with fail
  refine (eqA2S_same _ _ n f _ (HA.out.below hB0) (HB.out.below hB0) hl).mono ?_
  rintro e w2 ⟨rfl, hb2⟩
  have HW := hide (hB0.trans (hb2.mono hB0.size))
  clear hb2 hB0 HA HB
  go_wp2
  go_ret
  exact ⟨rfl, HW.out⟩

theorem addr_none (b o n : Nat) : (⟨b, o, none⟩ : Addr).add n = ⟨b, o + n, none⟩ := by
  by_cases h : n = 0 <;> simp [Addr.add, h]

end Go.Proofs.Ytgjfhaikogobpaa
