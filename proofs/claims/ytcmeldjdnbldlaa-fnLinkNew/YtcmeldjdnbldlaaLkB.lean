/- LinkCalmed and sameLink for links that have nothing -/
import Derived.Test.YtcmeldjdnbldlaaLkA
namespace Go.Proofs.Ytcmeldjdnbldlaa
open Go.RowKit
set_option linter.unusedVariables false
set_option linter.unusedSimpArgs false

/-- the bytes of a code -/
def Bt (w : World) (ad : Option Addr) (n : Nat) : Prop :=
  0 < n → ∃ b off, ad = some ⟨b, off, none⟩ ∧ ∀ j, j < n → ∃ c : Int, 0 ≤ c ∧ c ≤ 255 ∧ w.cell? ⟨b, off + j, none⟩ = some (.int .u8 c)

set_option maxHeartbeats 4000000 in
theorem sameLink_zero (w : World) : Calls Try.prog 6 #[.agg z6, .agg z6] w fun e w' => e = .returned (.bool true) ∧ Below w.heap.size w w' := by
  have HE := two6 w 26
  go_enter Try.func6, Try.ntmps6
  go_wp2_with fail
  generalize hW : (World.alloc (World.alloc _ _) _) = W
  obtain ⟨hx, hr, hB⟩ := HE.out W hW
  obtain ⟨x0, x1, x2, x3, x4, x5⟩ := hx
  obtain ⟨_, y0, y1, y2, y3, y4, y5⟩ := row6 hr
  clear HE hW hr
  refine (texts_nil _).mono ?_
  rintro e w2 ⟨rfl, rfl⟩
  go_wp2_with fail
  refine (texts_nil _).mono ?_
  rintro e w2 ⟨rfl, rfl⟩
  go_wp2_with fail
  refine (swires_nil _).mono ?_
  rintro e w2 ⟨rfl, rfl⟩
  go_wp2_with fail
  refine (swires_nil _).mono ?_
  rintro e w2 ⟨rfl, rfl⟩
  go_wp2
  go_ret
  exact ⟨rfl, hB⟩

theorem fin6 {w V : World} (hB : Below w.heap.size w V) (hr : V.heap[w.heap.size + 1]? = some (.cells z6 26 (0, 0))) : B6 ((((((V.setCell ⟨w.heap.size + 1, 0, none⟩ (.int .i64 0)).setCell ⟨w.heap.size + 1, 1, none⟩ nl).setCell ⟨w.heap.size + 1, 2, none⟩ (.int .i64 0)).setCell ⟨w.heap.size + 1, 3, none⟩ nl).setCell ⟨w.heap.size + 1, 4, none⟩ nl).setCell ⟨w.heap.size + 1, 5, none⟩ nl) (w.heap.size + 1) ∧ Below w.heap.size w ((((((V.setCell ⟨w.heap.size + 1, 0, none⟩ (.int .i64 0)).setCell ⟨w.heap.size + 1, 1, none⟩ nl).setCell ⟨w.heap.size + 1, 2, none⟩ (.int .i64 0)).setCell ⟨w.heap.size + 1, 3, none⟩ nl).setCell ⟨w.heap.size + 1, 4, none⟩ nl).setCell ⟨w.heap.size + 1, 5, none⟩ nl) := by
  have hle : w.heap.size ≤ w.heap.size + 1 := by omega
  refine ⟨?_, ?_⟩
  · have hrow : ((((((V.setCell ⟨w.heap.size + 1, 0, none⟩ (.int .i64 0)).setCell ⟨w.heap.size + 1, 1, none⟩ nl).setCell ⟨w.heap.size + 1, 2, none⟩ (.int .i64 0)).setCell ⟨w.heap.size + 1, 3, none⟩ nl).setCell ⟨w.heap.size + 1, 4, none⟩ nl).setCell ⟨w.heap.size + 1, 5, none⟩ nl).heap[w.heap.size + 1]? = some (.cells z6 26 (0, 0)) := by
      rw [heap_setCell_same _ _ 5 _ _ _ (heap_setCell_same _ _ 4 _ _ _ (heap_setCell_same _ _ 3 _ _ _ (heap_setCell_same _ _ 2 _ _ _ (heap_setCell_same _ _ 1 _ _ _ (heap_setCell_same _ _ 0 _ _ _ hr)))))]; rfl
    exact (row6 hrow).2
  · iterate 6 (refine Below.setCell ?_ hle _)
    exact hB

set_option maxHeartbeats 4000000 in
theorem linkCalmed_zero (w : World) : Calls Try.prog 4 #[.agg z6] w fun e w' => e = .returned (.tuple #[.agg z6, .bool true]) ∧ Below w.heap.size w w' := by
  have HE := two6 w 26
  go_enter Try.func4, Try.ntmps4
  go_wp2_with fail
  generalize hW : (World.alloc (World.alloc _ _) _) = W
  obtain ⟨hx, hr, hB⟩ := HE.out W hW
  clear HE hW
  refine (linkOk_zero _).mono ?_
  rintro e w2 ⟨rfl, hb⟩
  have hx2 := hx.below hb
  have hr2 := (hb.block _ (lt_of_block hr)).trans hr
  have hB2 := hB.trans (hb.mono hB.size)
  obtain ⟨x0, x1, x2, x3, x4, x5⟩ := hx2
  clear hx hr hB hb
  go_wp2_with fail
  refine (linkCopy_zero _).mono ?_
  rintro e w3 ⟨rfl, hb⟩
  have hr3 := (hb.block _ (lt_of_block hr2)).trans hr2
  have hB3 := hB2.trans (hb.mono hB2.size)
  have hl3 := lt_of_block hr3
  have hA : Below w3.heap.size w3 (w3.alloc (.cells z6 26)) := (Below.refl _ _).alloc (Nat.le_refl _) _
  have hn := heap_alloc_new w3 (.cells z6 26)
  have hr4 := (hA.block _ hl3).trans hr3
  have hB4 := hB3.trans (hA.mono hB3.size)
  have hne : ¬ w3.heap.size = w.heap.size + 1 := by omega
  have hne2 : ¬ w.heap.size + 1 = w3.heap.size := by omega
  obtain ⟨fn, n0, n1, n2, n3, n4, n5⟩ := row6 hn
  obtain ⟨fr, r0, r1, r2, r3, r4, r5⟩ := row6 hr4
  have HF := hide (And.intro hB4 (And.intro hn hr4))
  clear hb hr2 hr3 hB2 hB3 hl3 hA hn hr4 hB4 x0 x1 x2 x3 x4 x5
  go_wp2
  generalize (World.alloc _ _) = V at HF fn n0 n1 n2 n3 n4 n5 fr r0 r1 r2 r3 r4 r5 ⊢
  go_loopw [5, 6] (fun o i wr => o = .bool true ∧ i = .int .i64 0 ∧ wr = V) (fun _ _ _ => 0)
  case atStart => exact ⟨rfl, rfl, rfl⟩
  case round =>
    obtain ⟨rfl, rfl, hwr⟩ := hrel
    subst hwr
    go_wp2
    go_region
    all_goals go_wp2
    all_goals have hq := fin6 HF.out.1 HF.out.2.2
    all_goals obtain ⟨⟨q0, q1, q2, q3, q4, q5⟩, hbf⟩ := hq
    all_goals have HG := hide hbf.drew
    all_goals clear hbf HF
    all_goals generalize (World.setCell _ _ _) = Y at q0 q1 q2 q3 q4 q5 HG ⊢
    all_goals exact bodyPost_ret (v := .tuple #[.agg z6, .bool true]) (by simp [results, Try.results4, go_sem, q0, q1, q2, q3, q4, q5]) rfl ⟨rfl, HG.out⟩

end Go.Proofs.Ytcmeldjdnbldlaa
