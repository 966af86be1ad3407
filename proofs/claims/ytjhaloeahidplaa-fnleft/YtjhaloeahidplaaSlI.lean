/- impl.Left, impl.Stored, impl.Asked by their results (written by mkSlI.py) -/
import Derived.Test.YtjhaloeahidplaaSlH
namespace Go.Proofs.Ytjhaloeahidplaa
open Go.RowKit
set_option linter.unusedVariables false

def frm (core line : Int) : Bool := inB core 1 5 && inB line 0 3
theorem frm_no {core line : Int} (h : inB core 1 5 = false) : frm core line = false := by rw [frm, h]; rfl
theorem frm_yes {core line : Int} (h : inB core 1 5 = true) : frm core line = inB line 0 3 := by rw [frm, h]; rfl

theorem Told.put4 {w1 : World} {b0 B : Nat} {v : Value} {k core line d : Int} (h : Told w1 b0 v k core line d) (hB : B < b0) (v0 v1 v2 v3 : Value) : Told ((((w1.setCell ⟨B, 0, none⟩ v0).setCell ⟨B, 1, none⟩ v1).setCell ⟨B, 2, none⟩ v2).setCell ⟨B, 3, none⟩ v3) b0 v k core line d := by
  rcases h with h | ⟨hk, C, h1, h2, h3⟩
  · exact .inl h
  · exact .inr ⟨hk, C, h1, h2, h3.put4 (by omega) _ _ _ _⟩

theorem at4 {W w1 : World} {B : Nat} (hb : Below W.heap.size W w1) (h : B < W.heap.size) : (∀ i, w1.cell? ⟨B, i, none⟩ = W.cell? ⟨B, i, none⟩) ∧ (∀ i, w1.frozen? ⟨B, i, none⟩ = W.frozen? ⟨B, i, none⟩) :=
  ⟨fun i => hb.cell (p := ⟨B, i, none⟩) h, fun i => hb.frozen (p := ⟨B, i, none⟩) h⟩

/-- what an act answers -/
def Answers (w : World) (m : MR) (core line : Int) (e : Ending) (w' : World) : Prop :=
  ∃ tv, e = .returned (.tuple #[slOf m.1, tv, .int .i64 m.2.2.2]) ∧ Below w.heap.size w w' ∧ Told w' w.heap.size tv m.2.1 core line m.2.2.1

set_option maxHeartbeats 400000 in
theorem implLeft_0 (s : Sl4) (core line : Int) (w : World) (hc : inB core 1 5 = false) : Calls Try.prog 8 #[slOf s, .int .i64 core, .int .i64 line] w (Answers w (mvd s false (leftM s)) core line) := by
  have OK : Hid (okS (mvd s false (leftM s)).1) := hide (mvd_ok fun h _ => left_ok h)
  have HB0 := hide (((Below.refl w.heap.size w).alloc (Nat.le_refl _) (.cells #[.int .i64 s.1, .int .i64 s.2.1, .int .i64 s.2.2.1, .int .i64 s.2.2.2] 25)).alloc (by simp) (.cells #[.int .i64 0, .int .i64 0, .int .i64 0, .int .i64 0] 25))
  have hmv := fun w => moved_left s false w
  have han := fun w => answer_any (mvd s false (leftM s)) core line w OK.out
  unfold Answers
  clear OK
  generalize mvd s false (leftM s) = m at hmv han ⊢
  generalize mvOf m = mv at hmv han
  obtain ⟨⟨n0, n1, n2, n3⟩, k, dd, c⟩ := m
  go_enter Try.func8, Try.ntmps8
  go_wp2_with fail
  refine (isCore_any _ _).mono ?_
  rintro e w1 ⟨rfl, rfl⟩
  rw [hc]
  go_wp2_with fail
  refine (hmv _).mono ?_
  rintro e w1 ⟨rfl, hb1⟩
  obtain ⟨a1, f1⟩ := at4 (B := w.heap.size + 1) hb1 (by simp)
  have HB1 := hide (HB0.out.trans (hb1.mono HB0.out.size))
  have hz : w.heap.size + 1 + 1 ≤ w1.heap.size := by have := hb1.size; simp at this; omega
  clear hb1
  go_wp2_with fail
  refine (han _).mono ?_
  rintro e w2 ⟨tv, rfl, hb2, ht⟩
  obtain ⟨a2, f2⟩ := at4 (B := w.heap.size + 1) hb2 (by omega)
  have HB2 := hide (HB1.out.trans (hb2.mono HB1.out.size))
  have HT := hide ht
  clear hb2 ht
  clear han hmv
  go_wp2
  refine bodyPost_ret (v := .tuple #[slV n0 n1 n2 n3, tv, .int .i64 c]) (by simp [results, Try.results8, go_sem, a2, a1]) rfl ⟨tv, rfl, ?_, ?_⟩
  · exact below_put4 HB2.out (by omega) _ _ _ _
  · exact (HT.out.low (b1 := w.heap.size + 2) (by omega)).put4 (by omega) _ _ _ _ |>.low (by omega)

set_option maxHeartbeats 400000 in
theorem implLeft_1 (s : Sl4) (core line : Int) (w : World) (hc : inB core 1 5 = true) : Calls Try.prog 8 #[slOf s, .int .i64 core, .int .i64 line] w (Answers w (mvd s (inB line 0 3) (leftM s)) core line) := by
  have OK : Hid (okS (mvd s (inB line 0 3) (leftM s)).1) := hide (mvd_ok fun h _ => left_ok h)
  have HB0 := hide (((Below.refl w.heap.size w).alloc (Nat.le_refl _) (.cells #[.int .i64 s.1, .int .i64 s.2.1, .int .i64 s.2.2.1, .int .i64 s.2.2.2] 25)).alloc (by simp) (.cells #[.int .i64 0, .int .i64 0, .int .i64 0, .int .i64 0] 25))
  have hmv := fun w => moved_left s (inB line 0 3) w
  have han := fun w => answer_any (mvd s (inB line 0 3) (leftM s)) core line w OK.out
  unfold Answers
  clear OK
  generalize mvd s (inB line 0 3) (leftM s) = m at hmv han ⊢
  generalize mvOf m = mv at hmv han
  obtain ⟨⟨n0, n1, n2, n3⟩, k, dd, c⟩ := m
  go_enter Try.func8, Try.ntmps8
  go_wp2_with fail
  refine (isCore_any _ _).mono ?_
  rintro e w1 ⟨rfl, rfl⟩
  rw [hc]
  go_wp2_with fail
  refine (isLine_any _ _).mono ?_
  rintro e w1 ⟨rfl, rfl⟩
  go_wp2_with fail
  refine (hmv _).mono ?_
  rintro e w1 ⟨rfl, hb1⟩
  obtain ⟨a1, f1⟩ := at4 (B := w.heap.size + 1) hb1 (by simp)
  have HB1 := hide (HB0.out.trans (hb1.mono HB0.out.size))
  have hz : w.heap.size + 1 + 1 ≤ w1.heap.size := by have := hb1.size; simp at this; omega
  clear hb1
  go_wp2_with fail
  refine (han _).mono ?_
  rintro e w2 ⟨tv, rfl, hb2, ht⟩
  obtain ⟨a2, f2⟩ := at4 (B := w.heap.size + 1) hb2 (by omega)
  have HB2 := hide (HB1.out.trans (hb2.mono HB1.out.size))
  have HT := hide ht
  clear hb2 ht
  clear han hmv
  go_wp2
  refine bodyPost_ret (v := .tuple #[slV n0 n1 n2 n3, tv, .int .i64 c]) (by simp [results, Try.results8, go_sem, a2, a1]) rfl ⟨tv, rfl, ?_, ?_⟩
  · exact below_put4 HB2.out (by omega) _ _ _ _
  · exact (HT.out.low (b1 := w.heap.size + 2) (by omega)).put4 (by omega) _ _ _ _ |>.low (by omega)

theorem implLeft_any (s : Sl4) (core line : Int) (w : World) : Calls Try.prog 8 #[slOf s, .int .i64 core, .int .i64 line] w (Answers w (mvd s (frm core line) (leftM s)) core line) := by
  cases hc : inB core 1 5 with
  | false => rw [frm_no hc]; exact implLeft_0 s core line w hc
  | true => rw [frm_yes hc]; exact implLeft_1 s core line w hc

end Go.Proofs.Ytjhaloeahidplaa
