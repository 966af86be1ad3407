/- impl: what is looked up in sets; impl.Looked (written by mkCaZ.py) -/
import Derived.Test.YtlijgkodcbnhbaaCaY2
import Derived.Test.YtlijgkodcbnhbaaCaT
import Derived.Test.YtlijgkodcbnhbaaCaM
import Derived.Deep.WholeRow
namespace Go.Proofs.Ytlijgkodcbnhbaa
open Go.RowKit
set_option linter.unusedVariables false
set_option linter.unusedSimpArgs false

namespace Ca
/-- a set looked up: which one it is -/
def lk2 (s t : Sm) (x : Int) : Sm × Sm := if x % 2 = 0 then (lk s x, t) else (s, lk t x)
def at2 (s t : Sm) (x : Int) : Sm := if x % 2 = 0 then s else t
end Ca

theorem read73 {W : World} {g : Nat} {s t s' t' : Sm} (h : W.heap[g]? = some (.cells (c18 s' t') 45 (0, 0))) : (loadVar 45 ⟨g, 0, none⟩).run Try.prog (W.setCells g 0 (c18 s t).toList) = .ok (.agg (c18 s t)) (W.setCells g 0 (c18 s t).toList) := by
  have h1 := World.rangeAt_setCells_same W g 0 (c18 s t).toList (fun j hj => by
    rw [cell_of_row _ _ _ _ _ _ h, Nat.zero_add]
    exact ⟨by simp [c18] at hj ⊢; omega, frozen_of_row _ _ _ _ _ h⟩)
  have h2 := run_loadVar_mid (P := Try.prog) _ g 0 45 (c18 s t).toList _ h1 Try.underlying45 rfl (by rw [info73]; rfl)
  simpa using h2
theorem put73 {W : World} {g : Nat} {s t s' t' : Sm} (h : W.heap[g]? = some (.cells (c18 s' t') 45 (0, 0))) : (storeCells ⟨g, 0, none⟩ (c18 s t).toList).run Try.prog W = .ok () (W.setCells g 0 (c18 s t).toList) := by
  have h2 : W.there g 0 18 := fun j hj => by
    rw [cell_of_row _ _ _ _ _ _ h, Nat.zero_add]
    exact ⟨by simp [c18]; omega, frozen_of_row _ _ _ _ _ h⟩
  exact run_storeCells_cells (P := Try.prog) g 0 (c18 s t).toList 0 W (fun j hj => by simpa using (h2 j (by simpa [c18] using hj)).1) (fun j hj => by simpa using (h2 j (by simpa [c18] using hj)).2) (fun v hv => by simp [c18] at hv; rcases hv with h | h | h | h | h | h | h | h | h | h | h | h | h | h | h | h | h | h <;> subst h <;> rfl)
theorem put9 {W : World} {g : Nat} {s t : Sm} (o : Nat) (ho : o + 9 ≤ 18) (r : Sm) (h : W.heap[g]? = some (.cells (c18 s t) 45 (0, 0))) : (storeCells ⟨g, o, none⟩ (c9 r).toList).run Try.prog W = .ok () (W.setCells g o (c9 r).toList) := by
  have h2 : W.there g o 9 := fun j hj => by
    rw [cell_of_row _ _ _ _ _ _ h]
    exact ⟨by simp [c18]; omega, frozen_of_row _ _ _ _ _ h⟩
  exact run_storeCells_cells (P := Try.prog) g o (c9 r).toList 0 W (fun j hj => by simpa using (h2 j (by simpa using hj)).1) (fun j hj => by simpa using (h2 j (by simpa using hj)).2) (fun v hv => by simp at hv; rcases hv with h | h | h | h | h | h | h | h | h <;> subst h <;> rfl)
theorem range73 {W : World} {g : Nat} {s t : Sm} (h : W.heap[g]? = some (.cells (c18 s t) 45 (0, 0))) : W.rangeAt g 0 (c18 s t).toList := fun j v hv => by rw [cell_of_row _ _ _ _ _ _ h, Nat.zero_add]; simpa using hv

theorem heap9_0 {W : World} {g : Nat} {s t r : Sm} (h : W.heap[g]? = some (.cells (c18 s t) 45 (0, 0))) : (W.setCells g 0 (c9 r).toList).heap[g]? = some (.cells (c18 r t) 45 (0, 0)) := by
  have e : ((((((((((c18 s t).setIfInBounds 0 (.int .i64 r.b)).setIfInBounds 1 (.bool (r.u 0))).setIfInBounds 2 (.int .i64 (r.a 0))).setIfInBounds 3 (.bool (r.u 1))).setIfInBounds 4 (.int .i64 (r.a 1))).setIfInBounds 5 (.bool (r.u 2))).setIfInBounds 6 (.int .i64 (r.a 2))).setIfInBounds 7 (.bool (r.u 3))).setIfInBounds 8 (.int .i64 (r.a 3))) = c18 r t := by kernel_rfl
  have hs : W.setCells g 0 (c9 r).toList = (((((((((W.setCell ⟨g, 0, none⟩ (.int .i64 r.b)).setCell ⟨g, 1, none⟩ (.bool (r.u 0))).setCell ⟨g, 2, none⟩ (.int .i64 (r.a 0))).setCell ⟨g, 3, none⟩ (.bool (r.u 1))).setCell ⟨g, 4, none⟩ (.int .i64 (r.a 1))).setCell ⟨g, 5, none⟩ (.bool (r.u 2))).setCell ⟨g, 6, none⟩ (.int .i64 (r.a 2))).setCell ⟨g, 7, none⟩ (.bool (r.u 3))).setCell ⟨g, 8, none⟩ (.int .i64 (r.a 3))) := by kernel_rfl
  rw [hs, ← e]
  exact (heap_setCell_same _ _ 8 _ _ _ (heap_setCell_same _ _ 7 _ _ _ (heap_setCell_same _ _ 6 _ _ _ (heap_setCell_same _ _ 5 _ _ _ (heap_setCell_same _ _ 4 _ _ _ (heap_setCell_same _ _ 3 _ _ _ (heap_setCell_same _ _ 2 _ _ _ (heap_setCell_same _ _ 1 _ _ _ (heap_setCell_same _ _ 0 _ _ _ h)))))))))
theorem heap9_1 {W : World} {g : Nat} {s t r : Sm} (h : W.heap[g]? = some (.cells (c18 s t) 45 (0, 0))) : (W.setCells g 9 (c9 r).toList).heap[g]? = some (.cells (c18 s r) 45 (0, 0)) := by
  have e : ((((((((((c18 s t).setIfInBounds 9 (.int .i64 r.b)).setIfInBounds 10 (.bool (r.u 0))).setIfInBounds 11 (.int .i64 (r.a 0))).setIfInBounds 12 (.bool (r.u 1))).setIfInBounds 13 (.int .i64 (r.a 1))).setIfInBounds 14 (.bool (r.u 2))).setIfInBounds 15 (.int .i64 (r.a 2))).setIfInBounds 16 (.bool (r.u 3))).setIfInBounds 17 (.int .i64 (r.a 3))) = c18 s r := by kernel_rfl
  have hs : W.setCells g 9 (c9 r).toList = (((((((((W.setCell ⟨g, 9, none⟩ (.int .i64 r.b)).setCell ⟨g, 10, none⟩ (.bool (r.u 0))).setCell ⟨g, 11, none⟩ (.int .i64 (r.a 0))).setCell ⟨g, 12, none⟩ (.bool (r.u 1))).setCell ⟨g, 13, none⟩ (.int .i64 (r.a 1))).setCell ⟨g, 14, none⟩ (.bool (r.u 2))).setCell ⟨g, 15, none⟩ (.int .i64 (r.a 2))).setCell ⟨g, 16, none⟩ (.bool (r.u 3))).setCell ⟨g, 17, none⟩ (.int .i64 (r.a 3))) := by kernel_rfl
  rw [hs, ← e]
  exact (heap_setCell_same _ _ 17 _ _ _ (heap_setCell_same _ _ 16 _ _ _ (heap_setCell_same _ _ 15 _ _ _ (heap_setCell_same _ _ 14 _ _ _ (heap_setCell_same _ _ 13 _ _ _ (heap_setCell_same _ _ 12 _ _ _ (heap_setCell_same _ _ 11 _ _ _ (heap_setCell_same _ _ 10 _ _ _ (heap_setCell_same _ _ 9 _ _ _ h)))))))))
theorem setCells_far {W : World} {g g' : Nat} (hne : g' ≠ g) : ∀ (vs : List Value) (o : Nat) (W : World), (W.setCells g o vs).heap[g']? = W.heap[g']?
  | [], _, _ => rfl
  | v :: vs, o, W => by
    show ((W.setCell ⟨g, o, none⟩ v).setCells g (o + 1) vs).heap[g']? = _
    rw [setCells_far (W := W) hne vs (o + 1)]
    exact heap_setCell_other _ _ _ _ hne

set_option maxHeartbeats 2000000 in
set_option maxRecDepth 20000 in
theorem lookedW_any (s t : Sm) (x : Int) (w : World) (hx : 0 ≤ x) (hb : inR s.b 7 = true) (hbt : inR t.b 7 = true) : Calls Try.prog 15 #[.agg (c18 s t), .int .i64 x] w fun e w' => e = .returned (.tuple #[.agg (c18 (Ca.lk2 s t x).1 (Ca.lk2 s t x).2), .bool (Ca.hd (Ca.at2 s t x) x), .int .i64 (Ca.gn (Ca.at2 s t x) x)]) ∧ Below w.heap.size w w' := by
  have hz18 := z18_is
  obtain ⟨W, hW⟩ : ∃ W, (w.alloc (.cells (c18 s t) 45)).alloc (.cells z18 45) = W := ⟨_, rfl⟩
  have hg : W.heap[w.heap.size]? = some (.cells (c18 s t) 45 (0, 0)) := by rw [← hW]; exact heap_a (heap_alloc_new _ _) _
  have hr : W.heap[w.heap.size + 1]? = some (.cells (c18 zS zS) 45 (0, 0)) := by
    rw [← hW, ← z18_is]
    have := heap_alloc_new (w.alloc (.cells (c18 s t) 45)) (.cells z18 45)
    simpa only [World.size_alloc] using this
  have hB : Below w.heap.size w W := by rw [← hW]; exact ((Below.refl _ _).alloc (Nat.le_refl _) _).alloc (by simp) _
  clear hz18
  have hx2 : x % 2 = 0 ∨ x % 2 = 1 := by omega
  rcases hx2 with hp | hp
  · have e1 : Ca.lk2 s t x = (Ca.lk s x, t) := by unfold Ca.lk2; rw [if_pos hp]
    have e2 : Ca.at2 s t x = s := by unfold Ca.at2; rw [if_pos hp]
    rw [e1, e2]
    have hl := fun w => lookedS_any s x w hb
    clear e1 e2
    generalize Ca.hd s x = hh at hl
    generalize Ca.gn s x = gg at hl
    obtain ⟨c0, c1, c2, c3, c4, c5, c6, c7, c8⟩ := nine0 hg
    obtain ⟨C0, hC0⟩ : ∃ C0, c18 s t = C0 := ⟨_, rfl⟩
    rw [hC0] at hW ⊢
    go_enter Try.func15, Try.ntmps15
    go_wp2_with fail
    refine (hl _).mono ?_
    rintro e w1 ⟨rfl, hb1⟩
    have hB1 := hB.trans (hb1.mono hB.size)
    have hg1 := heap_b hg hb1
    have hr1 := heap_b hr hb1
    clear c0 c1 c2 c3 c4 c5 c6 c7 c8 hl hW
    obtain ⟨W2, hW2⟩ : ∃ W2, w1.alloc (.cells (c9 (Ca.lk s x)) 43) = W2 := ⟨_, rfl⟩
    have hn : W2.heap[w1.heap.size]? = some (.cells (c9 (Ca.lk s x)) 43 (0, 0)) := by rw [← hW2]; exact heap_alloc_new _ _
    have hg2 : W2.heap[w.heap.size]? = some (.cells (c18 s t) 45 (0, 0)) := by rw [← hW2]; exact heap_a hg1 _
    have hr2 : W2.heap[w.heap.size + 1]? = some (.cells (c18 zS zS) 45 (0, 0)) := by rw [← hW2]; exact heap_a hr1 _
    have hB2 : Below w.heap.size w W2 := by rw [← hW2]; exact below_a hB1 (Nat.le_refl _) _
    have hst9 := put9 0 (by omega) (Ca.lk s x) hg2
    have hg3x := heap9_0 (r := Ca.lk s x) hg2
    have hr3x := (setCells_far (W := W2) (g := w.heap.size) (g' := w.heap.size + 1) (by omega) (c9 (Ca.lk s x)).toList 0 W2).trans hr2
    have hB3x := below_setCells hB2 (Nat.le_refl w.heap.size) (c9 (Ca.lk s x)).toList 0
    obtain ⟨W3, hW3⟩ : ∃ W3, W2.setCells w.heap.size 0 (c9 (Ca.lk s x)).toList = W3 := ⟨_, rfl⟩
    rw [hW3] at hst9 hg3x hr3x hB3x
    have hg3 := hg3x
    have hr3 := hr3x
    have HB3 := hide hB3x
    have hn9 := run_storeCells_new (P := Try.prog) w1 43 z9 (c9 (Ca.lk s x)) (by rw [info71]; rfl) rfl (by simp [Value.oneCell'])
    rw [hW2] at hn9
    have HL9 := hide (range71 hn)
    have hsz9 : (c9 (Ca.lk s x)).toList.length = 9 := rfl
    have hz9 : (c9 (Ca.lk s x)).size = 9 := rfl
    have HL := hide (range73 hg3)
    have hst := put73 (s := (Ca.lk s x)) (t := t) hr3
    have HR := hide (read73 (s := (Ca.lk s x)) (t := t) hr3)
    have hsz : (c18 (Ca.lk s x) t).toList.length = 18 := rfl
    have hz : (c18 (Ca.lk s x) t).size = 18 := rfl
    clear hb1 hB1 hg1 hr1 hn hg2 hr2 hB2 hg3 hr3 hC0 hg hr hB hW3 hg3x hr3x hB3x
    obtain ⟨C9, hC9⟩ : ∃ C9, c9 (Ca.lk s x) = C9 := ⟨_, rfl⟩
    rw [hC9] at hst9 HL9 hsz9 hz9 hn9 ⊢
    clear hC9 hW2
    obtain ⟨C, hC⟩ : ∃ C, c18 (Ca.lk s x) t = C := ⟨_, rfl⟩
    rw [hC] at HL hst HR hsz hz
    have HC := hide hC
    clear hC
    go_wp2_with (first | ((with_reducible refine wpList_load_mid (op := { dst := some 23, op := Op.load 43 (Operand.tmp 8), type := 43, pos := _, after := _, guard := none }) ?_ 43 (Operand.tmp 8) ?_ w1.heap.size 0 ?_ C9.toList _ HL9.out Try.underlying43 ?_ ?_ ?_); (· rfl); (· rfl); (· rfl); (· rfl); (· rw [info71, hsz9])) | ((with_reducible refine wpList_load_mid (op := { dst := some 25, op := Op.load 45 (Operand.tmp 2), type := 45, pos := _, after := _, guard := none }) ?_ 45 (Operand.tmp 2) ?_ w.heap.size 0 ?_ C.toList _ HL.out Try.underlying45 ?_ ?_ ?_); (· rfl); (· rfl); (· rfl); (· rfl); (· rw [info73, hsz])))
    refine bodyPost_ret (v := .tuple #[.agg C, .bool hh, .int .i64 gg]) ?_ rfl ⟨by rw [← HC.out], below_setCells HB3.out (by omega) _ _⟩
    rw [results_cell_tmp2 Try.results15]
    have HR2 := HR.out
    simp [asAddr, HR2]
  · have e1 : Ca.lk2 s t x = (s, Ca.lk t x) := by unfold Ca.lk2; rw [if_neg (by omega)]
    have e2 : Ca.at2 s t x = t := by unfold Ca.at2; rw [if_neg (by omega)]
    rw [e1, e2]
    have hl := fun w => lookedS_any t x w hbt
    clear e1 e2
    generalize Ca.hd t x = hh at hl
    generalize Ca.gn t x = gg at hl
    obtain ⟨c0, c1, c2, c3, c4, c5, c6, c7, c8⟩ := nine1 hg
    obtain ⟨C0, hC0⟩ : ∃ C0, c18 s t = C0 := ⟨_, rfl⟩
    rw [hC0] at hW ⊢
    go_enter Try.func15, Try.ntmps15
    go_wp2_with fail
    refine (hl _).mono ?_
    rintro e w1 ⟨rfl, hb1⟩
    have hB1 := hB.trans (hb1.mono hB.size)
    have hg1 := heap_b hg hb1
    have hr1 := heap_b hr hb1
    clear c0 c1 c2 c3 c4 c5 c6 c7 c8 hl hW
    obtain ⟨W2, hW2⟩ : ∃ W2, w1.alloc (.cells (c9 (Ca.lk t x)) 43) = W2 := ⟨_, rfl⟩
    have hn : W2.heap[w1.heap.size]? = some (.cells (c9 (Ca.lk t x)) 43 (0, 0)) := by rw [← hW2]; exact heap_alloc_new _ _
    have hg2 : W2.heap[w.heap.size]? = some (.cells (c18 s t) 45 (0, 0)) := by rw [← hW2]; exact heap_a hg1 _
    have hr2 : W2.heap[w.heap.size + 1]? = some (.cells (c18 zS zS) 45 (0, 0)) := by rw [← hW2]; exact heap_a hr1 _
    have hB2 : Below w.heap.size w W2 := by rw [← hW2]; exact below_a hB1 (Nat.le_refl _) _
    have hst9 := put9 9 (by omega) (Ca.lk t x) hg2
    have hg3x := heap9_1 (r := Ca.lk t x) hg2
    have hr3x := (setCells_far (W := W2) (g := w.heap.size) (g' := w.heap.size + 1) (by omega) (c9 (Ca.lk t x)).toList 9 W2).trans hr2
    have hB3x := below_setCells hB2 (Nat.le_refl w.heap.size) (c9 (Ca.lk t x)).toList 9
    obtain ⟨W3, hW3⟩ : ∃ W3, W2.setCells w.heap.size 9 (c9 (Ca.lk t x)).toList = W3 := ⟨_, rfl⟩
    rw [hW3] at hst9 hg3x hr3x hB3x
    have hg3 := hg3x
    have hr3 := hr3x
    have HB3 := hide hB3x
    have hn9 := run_storeCells_new (P := Try.prog) w1 43 z9 (c9 (Ca.lk t x)) (by rw [info71]; rfl) rfl (by simp [Value.oneCell'])
    rw [hW2] at hn9
    have HL9 := hide (range71 hn)
    have hsz9 : (c9 (Ca.lk t x)).toList.length = 9 := rfl
    have hz9 : (c9 (Ca.lk t x)).size = 9 := rfl
    have HL := hide (range73 hg3)
    have hst := put73 (s := s) (t := (Ca.lk t x)) hr3
    have HR := hide (read73 (s := s) (t := (Ca.lk t x)) hr3)
    have hsz : (c18 s (Ca.lk t x)).toList.length = 18 := rfl
    have hz : (c18 s (Ca.lk t x)).size = 18 := rfl
    clear hb1 hB1 hg1 hr1 hn hg2 hr2 hB2 hg3 hr3 hC0 hg hr hB hW3 hg3x hr3x hB3x
    obtain ⟨C9, hC9⟩ : ∃ C9, c9 (Ca.lk t x) = C9 := ⟨_, rfl⟩
    rw [hC9] at hst9 HL9 hsz9 hz9 hn9 ⊢
    clear hC9 hW2
    obtain ⟨C, hC⟩ : ∃ C, c18 s (Ca.lk t x) = C := ⟨_, rfl⟩
    rw [hC] at HL hst HR hsz hz
    have HC := hide hC
    clear hC
    go_wp2_with (first | ((with_reducible refine wpList_load_mid (op := { dst := some 23, op := Op.load 43 (Operand.tmp 8), type := 43, pos := _, after := _, guard := none }) ?_ 43 (Operand.tmp 8) ?_ w1.heap.size 0 ?_ C9.toList _ HL9.out Try.underlying43 ?_ ?_ ?_); (· rfl); (· rfl); (· rfl); (· rfl); (· rw [info71, hsz9])) | ((with_reducible refine wpList_load_mid (op := { dst := some 25, op := Op.load 45 (Operand.tmp 2), type := 45, pos := _, after := _, guard := none }) ?_ 45 (Operand.tmp 2) ?_ w.heap.size 0 ?_ C.toList _ HL.out Try.underlying45 ?_ ?_ ?_); (· rfl); (· rfl); (· rfl); (· rfl); (· rw [info73, hsz])))
    refine bodyPost_ret (v := .tuple #[.agg C, .bool hh, .int .i64 gg]) ?_ rfl ⟨by rw [← HC.out], below_setCells HB3.out (by omega) _ _⟩
    rw [results_cell_tmp2 Try.results15]
    have HR2 := HR.out
    simp [asAddr, HR2]

end Go.Proofs.Ytlijgkodcbnhbaa
