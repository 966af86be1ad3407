/- laws.toTso (written by mkTsD.py) -/
import Derived.Test.YtfnnjgbodlngdaaDoorTsC
namespace Go.Proofs.YtfnnjgbodlngdaaDoor
open Go.RowKit
set_option linter.unusedVariables false
set_option linter.unusedSimpArgs false

theorem Oss.set {w : World} {g C k B i : Nat} {L : Nat → Nat} {F : Nat → Nat → Nat → Int} {v : Value} (h : Oss w g C k L F) (hlt : B < g) : Oss (w.setCell ⟨B, i, none⟩ v) g C k L F := by
  obtain ⟨cur, h1, h2, h3⟩ := h
  refine ⟨cur, ?_, h2, fun c hc => ?_⟩
  · rw [heap_setCell_other _ _ _ _ (by first | omega | (simp; omega))]; exact h1
  · obtain ⟨ib, a, b, d⟩ := h3 c hc
    exact ⟨ib, a, b, d.set (by omega)⟩
theorem Oii.set {w : World} {g C k B i : Nat} {Z : Nat → List Int} {v : Value} (h : Oii w g C k Z) (hlt : B < g) : Oii (w.setCell ⟨B, i, none⟩ v) g C k Z := by
  obtain ⟨cur, h1, h2, h3⟩ := h
  refine ⟨cur, ?_, h2, fun c hc => ?_⟩
  · rw [heap_setCell_other _ _ _ _ (by first | omega | (simp; omega))]; exact h1
  · obtain ⟨ib, a, b, d⟩ := h3 c hc
    exact ⟨ib, a, b, d.set (by omega)⟩
theorem row3_facts {w : World} {B : Nat} {T : TypeId} {v0 v1 v2 : Value} (h : w.heap[B]? = some (.cells #[v0, v1, v2] T (0, 0))) : (∀ i, w.frozen? ⟨B, i, none⟩ = false) ∧ w.cell? ⟨B, 0, none⟩ = some v0 ∧ w.cell? ⟨B, 1, none⟩ = some v1 ∧ w.cell? ⟨B, 2, none⟩ = some v2 :=
  ⟨fun i => frozen_of_row _ _ i _ _ h, (cell_of_row _ _ _ _ _ _ h).trans rfl, (cell_of_row _ _ _ _ _ _ h).trans rfl, (cell_of_row _ _ _ _ _ _ h).trans rfl⟩

abbrev nil3 : Value := .slice none 0 0
abbrev full (g n : Nat) : Value := .slice (some ⟨g, 0, none⟩) n n

abbrev mc3 (a b c : Value) : Array Value := #[a, b, c]

set_option maxHeartbeats 4000000 in
theorem toTso_any (mv bv rv : Value) (zs : List Int) (C : Nat) (L : Nat → Nat) (F : Nat → Nat → Nat → Int) (R : Nat) (Z : Nat → List Int) (w : World) (hs : Sl w mv zs) (hl : Ss w bv C L F) (hq : Si w rv R Z) (hz : Tl zs C L R Z) :
    Calls Tryd.prog 13 #[.agg (mc3 mv bv rv)] w fun e w' => ∃ g1 g2 g3, e = .returned (.agg (mc3 (full g1 zs.length) (full g2 C) (full g3 R))) ∧ Sl w' (full g1 zs.length) zs ∧ Ss w' (full g2 C) C L F ∧ Si w' (full g3 R) R Z ∧ Below w.heap.size w w' := by
  generalize hA : Obj.cells (mc3 mv bv rv) 37 = A
  generalize hZ : Obj.cells (mc3 nil3 nil3 nil3) 42 = Z
  have eA : (((w.alloc A).alloc Z).alloc Z).heap[w.heap.size]? = some A := by
    rw [Below.heap_alloc _ _ _ (by simp; omega), Below.heap_alloc _ _ _ (by simp)]; exact heap_alloc_new _ _
  have eZ : (((w.alloc A).alloc Z).alloc Z).heap[w.heap.size + 1]? = some Z := by
    rw [Below.heap_alloc _ _ _ (by simp)]; have := heap_alloc_new (w.alloc A) Z; simpa only [World.size_alloc] using this
  have eO : (((w.alloc A).alloc Z).alloc Z).heap[w.heap.size + 1 + 1]? = some Z := by
    have := heap_alloc_new ((w.alloc A).alloc Z) Z; simpa only [World.size_alloc] using this
  have hb0 : Below w.heap.size w (((w.alloc A).alloc Z).alloc Z) := (((Below.refl _ _).alloc (Nat.le_refl _) _).alloc (by simp) _).alloc (by simp; omega) _
  have hz0 : (((w.alloc A).alloc Z).alloc Z).heap.size = w.heap.size + 1 + 1 + 1 := by simp
  subst hA hZ
  have HE := hide (And.intro eA (And.intro eZ (And.intro eO (And.intro hb0 hz0))))
  clear eA eZ eO hb0 hz0
  have hO2 : w.heap.size ≤ w.heap.size + 1 + 1 := by omega
  go_enter Tryd.func13, Tryd.ntmps13
  go_wp2_with fail
  refine (copy_any mv zs _ (hs.below HE.out.2.2.2.1) hz.mem).mono ?_
  rintro e w1 ⟨u1, rfl, ho1, hb1, g1, rfl⟩
  have hg1 := (World.ownsRow.lt ho1 g1 rfl).1
  have ho1 := ho1.sl
  obtain ⟨eA, eZ, eO, hb0, hz0⟩ := HE.out
  have rA := (hb1.block _ (by rw [hz0]; omega)).trans eA
  have rZ := (hb1.block _ (by rw [hz0]; omega)).trans eZ
  have rO := (hb1.block _ (by rw [hz0]; omega)).trans eO
  have hbw := hb0.trans (hb1.mono hb0.size)
  rw [hz0] at hg1
  clear hb1 hb0 hz0 eA eZ eO HE
  obtain ⟨_, a0, a1, a2⟩ := row3_facts rA
  obtain ⟨fO, o0, o1, o2⟩ := row3_facts rO
  have HW : Hid (∀ W, (w1.setCell ⟨w.heap.size + 1 + 1, 0, none⟩ (full g1 zs.length)) = W → Below w.heap.size w W ∧ Sl W (full g1 zs.length) zs ∧ W.heap[w.heap.size]? = some (.cells (mc3 mv bv rv) 37 (0, 0)) ∧ W.heap[w.heap.size + 1]? = some (.cells (mc3 nil3 nil3 nil3) 42 (0, 0)) ∧ W.heap[w.heap.size + 1 + 1]? = some (.cells (mc3 (full g1 zs.length) nil3 nil3) 42 (0, 0))) := by
    refine hide fun W hW => ?_
    subst hW
    refine ⟨hbw.setCell hO2 _, ho1.set (by omega), ?_, ?_, ?_⟩
    · rw [heap_setCell_other _ _ _ _ (by first | omega | (simp; omega))]; exact rA
    · rw [heap_setCell_other _ _ _ _ (by first | omega | simp)]; exact rZ
    · rw [heap_setCell_same _ _ 0 _ _ _ rO]; rfl
  have hne : ¬ w.heap.size = w.heap.size + 1 + 1 := by omega
  have hne' : ¬ w.heap.size + 1 + 1 = w.heap.size := by omega
  clear rA rZ rO hbw ho1
  go_wp2_with fail
  generalize hW : (w1.setCell ⟨w.heap.size + 1 + 1, 0, none⟩ (full g1 zs.length)) = W
  obtain ⟨hbW, ho1, rA, rZ, rO⟩ := HW.out W hW
  clear hW HW a0 a1 a2 fO o0 o1 o2
  refine (toStoreSS_any bv C L F _ (hl.below hbW) hz.buf.1 hz.buf.2).mono ?_
  rintro e w2 ⟨g2, rfl, hg2, ho2, hb2⟩
  have ltO : w.heap.size + 1 + 1 < W.heap.size := lt_of_block rO
  have rA := (hb2.block _ (by omega)).trans rA
  have rZ := (hb2.block _ (by omega)).trans rZ
  have rO := (hb2.block _ ltO).trans rO
  have ho1 := ho1.below hb2
  have hbw := hbW.trans (hb2.mono hbW.size)
  have hg2' : w.heap.size + 1 + 1 < g2 := by omega
  clear hb2 hbW hg2 ltO
  obtain ⟨_, a0, a1, a2⟩ := row3_facts rA
  obtain ⟨fO, o0, o1, o2⟩ := row3_facts rO
  have HW : Hid (∀ W, (w2.setCell ⟨w.heap.size + 1 + 1, 1, none⟩ (full g2 C)) = W → Below w.heap.size w W ∧ Sl W (full g1 zs.length) zs ∧ Oss W g2 C C L F ∧ W.heap[w.heap.size + 1]? = some (.cells (mc3 nil3 nil3 nil3) 42 (0, 0)) ∧ W.heap[w.heap.size + 1 + 1]? = some (.cells (mc3 (full g1 zs.length) (full g2 C) nil3) 42 (0, 0))) := by
    refine hide fun W hW => ?_
    subst hW
    refine ⟨hbw.setCell hO2 _, ho1.set (by omega), ho2.set (by omega), ?_, ?_⟩
    · rw [heap_setCell_other _ _ _ _ (by first | omega | simp)]; exact rZ
    · rw [heap_setCell_same _ _ 1 _ _ _ rO]; rfl
  clear rA rZ rO hbw ho1 ho2
  go_wp2_with fail
  generalize hW : (w2.setCell ⟨w.heap.size + 1 + 1, 1, none⟩ (full g2 C)) = W2
  obtain ⟨hbW, ho1, ho2, rZ, rO⟩ := HW.out W2 hW
  clear hW HW a0 a1 a2 fO o0 o1 o2
  refine (toInt64SS_any rv R Z _ (hq.below hbW) hz.reg.1 hz.reg.2).mono ?_
  rintro e w3 ⟨g3, rfl, hg3, ho3, hb3⟩
  have ltO : w.heap.size + 1 + 1 < W2.heap.size := lt_of_block rO
  have rZ := (hb3.block _ (by omega)).trans rZ
  have rO := (hb3.block _ ltO).trans rO
  have ho1 := ho1.below hb3
  have ho2 := ho2.below hb3
  have hbw := hbW.trans (hb3.mono hbW.size)
  obtain ⟨fZ, z0, z1, z2⟩ := row3_facts rZ
  obtain ⟨fO, o0, o1, o2⟩ := row3_facts rO
  have HX := hide (And.intro ho1 (And.intro ho2 (And.intro ho3 hbw)))
  have hne2 : ¬ w.heap.size + 1 = w.heap.size + 1 + 1 := by omega
  have hg3' : w.heap.size + 1 + 1 < g3 := by omega
  clear ho1 ho2 hbw rZ rO ho3 hb3 hbW hq hs hl
  go_wp2
  refine bodyPost_ret (v := .agg (mc3 (full g1 zs.length) (full g2 C) (full g3 R))) (by simp [results, Tryd.results13, go_sem, z0, z1, z2]) rfl ⟨_, _, _, rfl, ?_, ?_, ?_, ?_⟩
  · iterate 4 (refine Sl.set ?_ (by omega))
    exact HX.out.1
  · refine Oss.ss ?_
    iterate 4 (refine Oss.set ?_ (by omega))
    exact HX.out.2.1
  · refine Oii.ss ?_
    iterate 4 (refine Oii.set ?_ (by omega))
    exact HX.out.2.2.1
  · have hZ2 : w.heap.size ≤ w.heap.size + 1 := by omega
    iterate 3 (refine Below.setCell ?_ hZ2 _)
    refine Below.setCell ?_ hO2 _
    exact HX.out.2.2.2

end Go.Proofs.YtfnnjgbodlngdaaDoor
