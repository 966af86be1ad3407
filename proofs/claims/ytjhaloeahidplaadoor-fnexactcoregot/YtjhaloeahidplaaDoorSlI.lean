/- impl.Left, impl.Stored, impl.Asked by their results (written by mkSlI.py) -/
import Derived.Test.YtjhaloeahidplaaDoorSlH
namespace Go.Proofs.YtjhaloeahidplaaDoor
open Go.RowKit
set_option linter.unusedVariables false

def frm (core line : Int) : Bool := inB core 1 5 && inB line 0 3
theorem frm_no {core line : Int} (h : inB core 1 5 = false) : frm core line = false := by rw [frm, h]; rfl
theorem frm_yes {core line : Int} (h : inB core 1 5 = true) : frm core line = inB line 0 3 := by rw [frm, h]; rfl

theorem Told.put4 {w1 : World} {b0 B : Nat} {v : Value} {k core line d : Int} (h : Told w1 b0 v k core line d) (hB : B < b0) (v0 v1 v2 v3 : Value) : Told ((((w1.setCell ⟨B, 0, none⟩ v0).setCell ⟨B, 1, none⟩ v1).setCell ⟨B, 2, none⟩ v2).setCell ⟨B, 3, none⟩ v3) b0 v k core line d := by
  rcases h with h | ⟨hk, C, h1, h2, h3⟩
  · exact .inl h
  · exact .inr ⟨hk, C, h1, h2, h3.put4 (by omega) _ _ _ _⟩

theorem at4 {W w1 : World} {B : Nat} (hb : Below W.heap.size W w1) (h : B < W.heap.size) : (∀ i, w1.cell? ⟨B, i, none⟩ = W.cell? ⟨B, i, none⟩) ∧ (∀ i, w1.frozen? ⟨B, i, none⟩ = W.frozen? ⟨B, i, none⟩) :=
  ⟨fun i => hb.cell (p := ⟨B, i, none⟩) h, fun i => hb.frozen (p := ⟨B, i, none⟩) h⟩

/-- what an act answers -/
def Answers (w : World) (m : MR) (core line : Int) (e : Ending) (w' : World) : Prop :=
  ∃ tv, e = .returned (.tuple #[slOf m.1, tv, .int .i64 m.2.2.2]) ∧ Below w.heap.size w w' ∧ Told w' w.heap.size tv m.2.1 core line m.2.2.1

set_option maxHeartbeats 400000 in
theorem implStored_0 (s : Sl4) (core line x : Int) (w : World) (hc : inB core 1 5 = false) : Calls Tryd.prog 30 #[slOf s, .int .i64 core, .int .i64 line, .int .i64 x] w (Answers w (mvd s false (storM x s)) core line) := by
  have hmf : ∀ (fn : Fn) (first cap : Array Value) (w : World), (Instr.makeFunc fn first cap).run Tryd.prog w = .ok (.func fn first cap) w := fun _ _ _ _ => rfl
  have OK : Hid (okS (mvd s false (storM x s)).1) := hide (mvd_ok fun h hf => by cases hf)
  have HB0 := hide ((((Below.refl w.heap.size w).alloc (Nat.le_refl _) (.cells #[.int .i64 s.1, .int .i64 s.2.1, .int .i64 s.2.2.1, .int .i64 s.2.2.2] 33)).alloc (by simp) (.cells #[.int .i64 x] 2)).alloc (by simp; omega) (.cells #[.int .i64 0, .int .i64 0, .int .i64 0, .int .i64 0] 33))
  have hmv := fun w' => moved_store s false (w.heap.size + 1) x w'
  have han := fun w => answer_any (mvd s false (storM x s)) core line w OK.out
  unfold Answers
  clear OK
  generalize mvd s false (storM x s) = m at hmv han ⊢
  generalize mvOf m = mv at hmv han
  obtain ⟨⟨n0, n1, n2, n3⟩, k, dd, c⟩ := m
  go_enter Tryd.func30, Tryd.ntmps30
  go_wp2_with fail
  refine (isCore_any _ _).mono ?_
  rintro e w1 ⟨rfl, rfl⟩
  rw [hc]
  go_wp2_with fail
  refine (hmv _ ?_).mono ?_
  · exact (cell_of_row _ _ _ _ _ _ ((Below.heap_alloc _ _ _ (by simp)).trans (heap_alloc2_new _ _ _))).trans rfl
  rintro e w1 ⟨rfl, hb1⟩
  obtain ⟨a1, f1⟩ := at4 (B := w.heap.size + 1 + 1) hb1 (by simp)
  have HB1 := hide (HB0.out.trans (hb1.mono HB0.out.size))
  have hz : w.heap.size + 1 + 1 + 1 ≤ w1.heap.size := by have := hb1.size; simp at this; omega
  clear hb1
  go_wp2_with fail
  refine (han _).mono ?_
  rintro e w2 ⟨tv, rfl, hb2, ht⟩
  obtain ⟨a2, f2⟩ := at4 (B := w.heap.size + 1 + 1) hb2 (by omega)
  have HB2 := hide (HB1.out.trans (hb2.mono HB1.out.size))
  have HT := hide ht
  clear hb2 ht
  clear han hmv
  go_wp2
  refine bodyPost_ret (v := .tuple #[slV n0 n1 n2 n3, tv, .int .i64 c]) (by simp [results, Tryd.results30, go_sem, a2, a1]) rfl ⟨tv, rfl, ?_, ?_⟩
  · exact below_put4 HB2.out (by omega) _ _ _ _
  · exact (HT.out.low (b1 := w.heap.size + 3) (by omega)).put4 (by omega) _ _ _ _ |>.low (by omega)

set_option maxHeartbeats 400000 in
theorem implStored_1 (s : Sl4) (core line x : Int) (w : World) (hc : inB core 1 5 = true) (hl : inB line 0 3 = false) : Calls Tryd.prog 30 #[slOf s, .int .i64 core, .int .i64 line, .int .i64 x] w (Answers w (mvd s false (storM x s)) core line) := by
  have hmf : ∀ (fn : Fn) (first cap : Array Value) (w : World), (Instr.makeFunc fn first cap).run Tryd.prog w = .ok (.func fn first cap) w := fun _ _ _ _ => rfl
  have OK : Hid (okS (mvd s false (storM x s)).1) := hide (mvd_ok fun h hf => by cases hf)
  have HB0 := hide ((((Below.refl w.heap.size w).alloc (Nat.le_refl _) (.cells #[.int .i64 s.1, .int .i64 s.2.1, .int .i64 s.2.2.1, .int .i64 s.2.2.2] 33)).alloc (by simp) (.cells #[.int .i64 x] 2)).alloc (by simp; omega) (.cells #[.int .i64 0, .int .i64 0, .int .i64 0, .int .i64 0] 33))
  have hmv := fun w' => moved_store s false (w.heap.size + 1) x w'
  have han := fun w => answer_any (mvd s false (storM x s)) core line w OK.out
  unfold Answers
  clear OK
  generalize mvd s false (storM x s) = m at hmv han ⊢
  generalize mvOf m = mv at hmv han
  obtain ⟨⟨n0, n1, n2, n3⟩, k, dd, c⟩ := m
  go_enter Tryd.func30, Tryd.ntmps30
  go_wp2_with fail
  refine (isCore_any _ _).mono ?_
  rintro e w1 ⟨rfl, rfl⟩
  rw [hc]
  go_wp2_with fail
  refine (isLine_any _ _).mono ?_
  rintro e w1 ⟨rfl, rfl⟩
  rw [hl]
  go_wp2_with fail
  refine (hmv _ ?_).mono ?_
  · exact (cell_of_row _ _ _ _ _ _ ((Below.heap_alloc _ _ _ (by simp)).trans (heap_alloc2_new _ _ _))).trans rfl
  rintro e w1 ⟨rfl, hb1⟩
  obtain ⟨a1, f1⟩ := at4 (B := w.heap.size + 1 + 1) hb1 (by simp)
  have HB1 := hide (HB0.out.trans (hb1.mono HB0.out.size))
  have hz : w.heap.size + 1 + 1 + 1 ≤ w1.heap.size := by have := hb1.size; simp at this; omega
  clear hb1
  go_wp2_with fail
  refine (han _).mono ?_
  rintro e w2 ⟨tv, rfl, hb2, ht⟩
  obtain ⟨a2, f2⟩ := at4 (B := w.heap.size + 1 + 1) hb2 (by omega)
  have HB2 := hide (HB1.out.trans (hb2.mono HB1.out.size))
  have HT := hide ht
  clear hb2 ht
  clear han hmv
  go_wp2
  refine bodyPost_ret (v := .tuple #[slV n0 n1 n2 n3, tv, .int .i64 c]) (by simp [results, Tryd.results30, go_sem, a2, a1]) rfl ⟨tv, rfl, ?_, ?_⟩
  · exact below_put4 HB2.out (by omega) _ _ _ _
  · exact (HT.out.low (b1 := w.heap.size + 3) (by omega)).put4 (by omega) _ _ _ _ |>.low (by omega)

set_option maxHeartbeats 400000 in
theorem implStored_2 (s : Sl4) (core line x : Int) (w : World) (hc : inB core 1 5 = true) (hl : inB line 0 3 = true) : Calls Tryd.prog 30 #[slOf s, .int .i64 core, .int .i64 line, .int .i64 x] w (Answers w (mvd s (inB x 0 1000000) (storM x s)) core line) := by
  have hmf : ∀ (fn : Fn) (first cap : Array Value) (w : World), (Instr.makeFunc fn first cap).run Tryd.prog w = .ok (.func fn first cap) w := fun _ _ _ _ => rfl
  have OK : Hid (okS (mvd s (inB x 0 1000000) (storM x s)).1) := hide (mvd_ok fun h hf => stor_ok h hf)
  have HB0 := hide ((((Below.refl w.heap.size w).alloc (Nat.le_refl _) (.cells #[.int .i64 s.1, .int .i64 s.2.1, .int .i64 s.2.2.1, .int .i64 s.2.2.2] 33)).alloc (by simp) (.cells #[.int .i64 x] 2)).alloc (by simp; omega) (.cells #[.int .i64 0, .int .i64 0, .int .i64 0, .int .i64 0] 33))
  have hmv := fun w' => moved_store s (inB x 0 1000000) (w.heap.size + 1) x w'
  have han := fun w => answer_any (mvd s (inB x 0 1000000) (storM x s)) core line w OK.out
  unfold Answers
  clear OK
  generalize mvd s (inB x 0 1000000) (storM x s) = m at hmv han ⊢
  generalize mvOf m = mv at hmv han
  obtain ⟨⟨n0, n1, n2, n3⟩, k, dd, c⟩ := m
  go_enter Tryd.func30, Tryd.ntmps30
  go_wp2_with fail
  refine (isCore_any _ _).mono ?_
  rintro e w1 ⟨rfl, rfl⟩
  rw [hc]
  go_wp2_with fail
  refine (isLine_any _ _).mono ?_
  rintro e w1 ⟨rfl, rfl⟩
  rw [hl]
  go_wp2_with fail
  refine (isValue_any _ _).mono ?_
  rintro e w1 ⟨rfl, rfl⟩
  go_wp2_with fail
  refine (hmv _ ?_).mono ?_
  · exact (cell_of_row _ _ _ _ _ _ ((Below.heap_alloc _ _ _ (by simp)).trans (heap_alloc2_new _ _ _))).trans rfl
  rintro e w1 ⟨rfl, hb1⟩
  obtain ⟨a1, f1⟩ := at4 (B := w.heap.size + 1 + 1) hb1 (by simp)
  have HB1 := hide (HB0.out.trans (hb1.mono HB0.out.size))
  have hz : w.heap.size + 1 + 1 + 1 ≤ w1.heap.size := by have := hb1.size; simp at this; omega
  clear hb1
  go_wp2_with fail
  refine (han _).mono ?_
  rintro e w2 ⟨tv, rfl, hb2, ht⟩
  obtain ⟨a2, f2⟩ := at4 (B := w.heap.size + 1 + 1) hb2 (by omega)
  have HB2 := hide (HB1.out.trans (hb2.mono HB1.out.size))
  have HT := hide ht
  clear hb2 ht
  clear han hmv
  go_wp2
  refine bodyPost_ret (v := .tuple #[slV n0 n1 n2 n3, tv, .int .i64 c]) (by simp [results, Tryd.results30, go_sem, a2, a1]) rfl ⟨tv, rfl, ?_, ?_⟩
  · exact below_put4 HB2.out (by omega) _ _ _ _
  · exact (HT.out.low (b1 := w.heap.size + 3) (by omega)).put4 (by omega) _ _ _ _ |>.low (by omega)

def frm3 (core line x : Int) : Bool := frm core line && inB x 0 1000000
theorem implStored_any (s : Sl4) (core line x : Int) (w : World) : Calls Tryd.prog 30 #[slOf s, .int .i64 core, .int .i64 line, .int .i64 x] w (Answers w (mvd s (frm3 core line x) (storM x s)) core line) := by
  unfold frm3
  cases hc : inB core 1 5 with
  | false => rw [frm_no hc, Bool.false_and]; exact implStored_0 s core line x w hc
  | true =>
    rw [frm_yes hc]
    cases hl : inB line 0 3 with
    | false => rw [Bool.false_and]; exact implStored_1 s core line x w hc hl
    | true => rw [Bool.true_and]; exact implStored_2 s core line x w hc hl

end Go.Proofs.YtjhaloeahidplaaDoor
