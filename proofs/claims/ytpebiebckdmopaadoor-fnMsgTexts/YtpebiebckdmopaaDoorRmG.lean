/- impl.ReadMsg -/
import Derived.Test.YtpebiebckdmopaaDoorRmF
namespace Go.Proofs.YtpebiebckdmopaaDoor
open Go.RowKit

abbrev Z6 : Msg6 := (0, 0, 0, 0, 0, 0)
/-- what ReadMsg answers -/
abbrev ans (o : Option Msg6) : Ending := .returned (.tuple #[aggOf (o.getD Z6), .bool o.isSome])

theorem below_put {b : Nat} {w wx : World} (h : Below b w wx) {R i : Nat} (hR : b ≤ R) (v : Value) : Below b w (wx.setCell ⟨R, i, none⟩ v) := h.setCell hR v

/-- the world in which the reader starts -/
theorem rm_facts (s : ByteArray) (w : World) (hs : s.size ≤ 1048576) (ht : Tab w) :
    Rs ((((w.alloc (.cells #[.int .i64 0, .int .i64 0, .int .i64 0, .int .i64 0, .int .i64 0, .int .i64 0] 25)).alloc (.cells #[.bool false] 4)).alloc (.cells ((Lib.splitB ⟨#[32]⟩ 0 (Lib.countB s ⟨#[32]⟩) s).map Value.string).toArray 9)).alloc (.cells #[.slice (some ⟨w.heap.size + 1 + 1, 0, none⟩) (Lib.countB s ⟨#[32]⟩ + 1) (Lib.countB s ⟨#[32]⟩ + 1)] 43)) (w.heap.size + 1 + 1 + 1) (Rdm.sp s.data.toList)
    ∧ Tab ((((w.alloc (.cells #[.int .i64 0, .int .i64 0, .int .i64 0, .int .i64 0, .int .i64 0, .int .i64 0] 25)).alloc (.cells #[.bool false] 4)).alloc (.cells ((Lib.splitB ⟨#[32]⟩ 0 (Lib.countB s ⟨#[32]⟩) s).map Value.string).toArray 9)).alloc (.cells #[.slice (some ⟨w.heap.size + 1 + 1, 0, none⟩) (Lib.countB s ⟨#[32]⟩ + 1) (Lib.countB s ⟨#[32]⟩ + 1)] 43))
    ∧ ∀ w3, ((((w.alloc (.cells #[.int .i64 0, .int .i64 0, .int .i64 0, .int .i64 0, .int .i64 0, .int .i64 0] 25)).alloc (.cells #[.bool false] 4)).alloc (.cells ((Lib.splitB ⟨#[32]⟩ 0 (Lib.countB s ⟨#[32]⟩) s).map Value.string).toArray 9)).alloc (.cells #[.slice (some ⟨w.heap.size + 1 + 1, 0, none⟩) (Lib.countB s ⟨#[32]⟩ + 1) (Lib.countB s ⟨#[32]⟩ + 1)] 43)).grownBy w3 (some (w.heap.size + 1 + 1 + 1)) →
      Below w.heap.size w w3 ∧ w3.heap[w.heap.size]? = some (.cells #[.int .i64 0, .int .i64 0, .int .i64 0, .int .i64 0, .int .i64 0, .int .i64 0] 25 (0, 0)) ∧ w3.heap[w.heap.size + 1]? = some (.cells #[.bool false] 4 (0, 0)) := by
  have RM := rs_made s ((w.alloc (.cells #[.int .i64 0, .int .i64 0, .int .i64 0, .int .i64 0, .int .i64 0, .int .i64 0] 25)).alloc (.cells #[.bool false] 4)) hs
  simp only [World.size_alloc] at RM
  have hb0 : Below w.heap.size w ((w.alloc (.cells #[.int .i64 0, .int .i64 0, .int .i64 0, .int .i64 0, .int .i64 0, .int .i64 0] 25)).alloc (.cells #[.bool false] 4)) := ((Below.refl _ _).alloc (Nat.le_refl _) _).alloc (by simp) _
  have hb1 := hb0.alloc (by simp; omega) (.cells ((Lib.splitB ⟨#[32]⟩ 0 (Lib.countB s ⟨#[32]⟩) s).map Value.string).toArray 9)
  have hb2 := hb1.alloc (by simp; omega) (.cells #[.slice (some ⟨w.heap.size + 1 + 1, 0, none⟩) (Lib.countB s ⟨#[32]⟩ + 1) (Lib.countB s ⟨#[32]⟩ + 1)] 43)
  have k1 : Below (w.heap.size + 1 + 1) ((w.alloc (.cells #[.int .i64 0, .int .i64 0, .int .i64 0, .int .i64 0, .int .i64 0, .int .i64 0] 25)).alloc (.cells #[.bool false] 4)) ((((w.alloc (.cells #[.int .i64 0, .int .i64 0, .int .i64 0, .int .i64 0, .int .i64 0, .int .i64 0] 25)).alloc (.cells #[.bool false] 4)).alloc (.cells ((Lib.splitB ⟨#[32]⟩ 0 (Lib.countB s ⟨#[32]⟩) s).map Value.string).toArray 9)).alloc (.cells #[.slice (some ⟨w.heap.size + 1 + 1, 0, none⟩) (Lib.countB s ⟨#[32]⟩ + 1) (Lib.countB s ⟨#[32]⟩ + 1)] 43)) := ((Below.refl _ _).alloc (by simp) _).alloc (by simp) _
  refine ⟨RM, ht.below hb2, fun w3 g3 => ?_⟩
  have hz := g3.size
  simp only [World.size_alloc] at hz
  refine ⟨⟨g3.os.trans hb2.os, g3.tape.trans hb2.tape, g3.output.trans hb2.output, by omega, fun j hj => ?_⟩, ?_, ?_⟩
  · rw [g3.block j (by simp only [World.size_alloc]; omega) (fun e => by simp at e; omega)]; exact hb2.block j hj
  · rw [g3.block _ (by simp only [World.size_alloc]; omega) (fun e => by simp at e; omega), k1.block _ (by omega)]; exact heap_alloc2_old _ _ _
  · rw [g3.block _ (by simp only [World.size_alloc]; omega) (fun e => by simp at e), k1.block _ (by omega)]; exact heap_alloc2_new _ _ _

theorem six_of {w : World} {R : Nat} {z0 z1 z2 z3 z4 z5 : Value} (h : w.heap[R]? = some (.cells #[z0, z1, z2, z3, z4, z5] 25 (0, 0))) :
    (∀ i, w.frozen? ⟨R, i, none⟩ = false) ∧ w.cell? ⟨R, 0, none⟩ = some z0 ∧ w.cell? ⟨R, 1, none⟩ = some z1 ∧ w.cell? ⟨R, 2, none⟩ = some z2 ∧ w.cell? ⟨R, 3, none⟩ = some z3 ∧ w.cell? ⟨R, 4, none⟩ = some z4 ∧ w.cell? ⟨R, 5, none⟩ = some z5 := by
  refine ⟨fun i => frozen_of_row w R i _ _ h, ?_, ?_, ?_, ?_, ?_, ?_⟩
  · rw [cell_of_row w R 0 _ _ _ h]; rfl
  · rw [cell_of_row w R 1 _ _ _ h]; rfl
  · rw [cell_of_row w R 2 _ _ _ h]; rfl
  · rw [cell_of_row w R 3 _ _ _ h]; rfl
  · rw [cell_of_row w R 4 _ _ _ h]; rfl
  · rw [cell_of_row w R 5 _ _ _ h]; rfl

theorem fin7 {w w3 : World} (h : Below w.heap.size w w3) (z0 z1 z2 z3 z4 z5 z6 : Value) : Below w.heap.size w (((((((w3.setCell ⟨w.heap.size, 0, none⟩ z0).setCell ⟨w.heap.size, 1, none⟩ z1).setCell ⟨w.heap.size, 2, none⟩ z2).setCell ⟨w.heap.size, 3, none⟩ z3).setCell ⟨w.heap.size, 4, none⟩ z4).setCell ⟨w.heap.size, 5, none⟩ z5).setCell ⟨w.heap.size + 1, 0, none⟩ z6) :=
  below_put (below_put (below_put (below_put (below_put (below_put (below_put h (Nat.le_refl _) _) (Nat.le_refl _) _) (Nat.le_refl _) _) (Nat.le_refl _) _) (Nat.le_refl _) _) (Nat.le_refl _) _) (Nat.le_succ _) _

set_option maxRecDepth 20000 in
set_option maxHeartbeats 2000000 in
theorem readMsg_any (s : ByteArray) (w : World) (hs : s.size ≤ 1048576) (ht : Tab w) (hm : ∃ m, w.cell? ⟨2, 0, none⟩ = some (.int .i64 m)) (hg0 : 0 < w.heap.size) :
    Calls Tryd.prog 7 #[.string s] w fun e w' => e = ans (parse (Rdm.sp s.data.toList)) ∧ Below w.heap.size w w' := by
  have hmf : ∀ (fn : Fn) (first cap : Array Value) (w : World), (Instr.makeFunc fn first cap).run Tryd.prog w = .ok (.func fn first cap) w := fun _ _ _ _ => rfl
  obtain ⟨m, hm⟩ := hm
  have hb0 : Below w.heap.size w ((w.alloc (.cells #[.int .i64 0, .int .i64 0, .int .i64 0, .int .i64 0, .int .i64 0, .int .i64 0] 25)).alloc (.cells #[.bool false] 4)) := ((Below.refl _ _).alloc (Nat.le_refl _) _).alloc (by simp) _
  have F := hide (rm_facts s w hs ht)
  go_enter_defers Tryd.func7, Tryd.ntmps7
  go_wp2_with fail
  refine (Tryd.strings_Split s ⟨#[32]⟩ m _ (by omega) (keepc hb0 hm) (by decide)).mono ?_
  rintro e w1 ⟨rfl, rfl⟩
  clear hb0 hm ht
  go_wp2_with fail
  refine (message_any _ _ _ F.out.1 F.out.2.1 (by omega)).mono ?_
  rintro e w3 ⟨hcase, g3⟩
  obtain ⟨hb3, hR, hS⟩ := F.out.2.2 w3 g3
  have HF := hide (fin7 hb3)
  clear F g3 hb3
  obtain ⟨fR, i0, i1, i2, i3, i4, i5⟩ := six_of hR
  have fS : ∀ i, w3.frozen? ⟨w.heap.size + 1, i, none⟩ = false := fun i => frozen_of_row w3 _ i _ _ hS
  have s0 : w3.cell? ⟨w.heap.size + 1, 0, none⟩ = some (.bool false) := by rw [cell_of_row w3 _ 0 _ _ _ hS]; rfl
  rcases hcase with ⟨hp, rfl⟩ | ⟨m6, hp, rfl⟩
  · have HP := hide hp
    clear hp
    go_wp2
    refine leaves_cons (f := 16) (args := #[.pointer (some ⟨w.heap.size, 0, none⟩), .pointer (some ⟨w.heap.size + 1, 0, none⟩)]) (by simp) (by simp [go_sem]) ?_
    refine (catch_panicking w.heap.size (w.heap.size + 1) 0 0 0 0 0 0 false 9 _ [] _ hR hS (by omega)).mono ?_
    rintro e u' w'' ⟨rfl, rfl, rfl⟩
    simp [Leaves, settle, results, Tryd.results7, go_sem, i0, i1, i2, i3, i4, i5, s0]
    rw [HP.out]
    exact ⟨⟨⟨rfl, rfl, rfl, rfl, rfl, rfl⟩, rfl⟩, HF.out _ _ _ _ _ _ _⟩
  · have HP := hide hp
    clear hp
    go_wp2
    refine leaves_cons (f := 16) (args := #[.pointer (some ⟨w.heap.size, 0, none⟩), .pointer (some ⟨w.heap.size + 1, 0, none⟩)]) (by simp) (by simp [go_sem]) ?_
    refine (catch_idle _ _ _).mono ?_
    rintro e u' w'' ⟨rfl, rfl, rfl⟩
    simp [Leaves, settle, results, Tryd.results7, go_sem, i0, i1, i2, i3, i4, i5, s0]
    rw [HP.out]
    exact ⟨⟨⟨rfl, rfl, rfl, rfl, rfl, rfl⟩, rfl⟩, HF.out _ _ _ _ _ _ _⟩

end Go.Proofs.YtpebiebckdmopaaDoor
