/- impl: a set's ways: first, wayOf, isRight (written by mkCaI.py) -/
import Derived.Test.YtlijgkodcbnhbaaCaV
import Derived.Test.YtlijgkodcbnhbaaPlA
namespace Go.Proofs.Ytlijgkodcbnhbaa
open Go.RowKit
set_option linter.unusedVariables false
set_option linter.unusedSimpArgs false

/-- the cells of a set of four ways -/
abbrev c9 (s : Sm) : Array Value := #[.int .i64 s.b, .bool (s.u 0), .int .i64 (s.a 0), .bool (s.u 1), .int .i64 (s.a 1), .bool (s.u 2), .int .i64 (s.a 2), .bool (s.u 3), .int .i64 (s.a 3)]
theorem allocc {w : World} {a : Addr} {u : Value} (h : w.cell? a = some u) (o : Obj) : (w.alloc o).cell? a = some u := keepc ((Below.refl _ w).alloc (Nat.le_refl _) o) h
theorem inR_cases {n hi : Int} {b : Bool} (h : inR n hi = b) : (b = true → 0 ≤ n ∧ n ≤ hi) ∧ (b = false → ¬ (0 ≤ n ∧ n ≤ hi)) := by
  subst h
  exact ⟨fun h => by simpa [inR] using h, fun h => by simpa [inR] using h⟩

namespace Ca
def at_ (s : Sm) (u : Bool) (x : Int) (k : Nat) : Bool := (s.u k == u) && (s.a k == x)
def fst (s : Sm) (u : Bool) (x : Int) : Int := if at_ s u x 0 then 0 else if at_ s u x 1 then 1 else if at_ s u x 2 then 2 else if at_ s u x 3 then 3 else -1
theorem at_no {s : Sm} {u : Bool} {x : Int} {k : Nat} (h : ¬ (s.u k = u ∧ s.a k = x)) : at_ s u x k = false := by
  unfold at_
  by_cases h1 : s.u k = u
  · have h2 : ¬ s.a k = x := fun e => h ⟨h1, e⟩
    simp [h1, h2]
  · simp [h1]
theorem at_yes {s : Sm} {u : Bool} {x : Int} {k : Nat} (h1 : s.u k = u) (h2 : s.a k = x) : at_ s u x k = true := by simp [at_, h1, h2]
theorem fst_range (s : Sm) (u : Bool) (x : Int) : fst s u x = -1 ∨ fst s u x = 0 ∨ fst s u x = 1 ∨ fst s u x = 2 ∨ fst s u x = 3 := by
  unfold fst
  split
  · simp
  · split
    · simp
    · split
      · simp
      · split <;> simp
def wayB (s : Sm) (c k : Nat) : Bool := if s.u k then inR (s.a k) 1000 && decide (s.a k % 2 = c) && decide (fst s true (s.a k) = k) else decide (s.a k = 0)
def rightB (s : Sm) (c : Nat) : Bool := wayB s c 0 && wayB s c 1 && wayB s c 2 && wayB s c 3 && inR s.b 7
end Ca

theorem idx0 (x0 x1 x2 x3 x4 x5 x6 x7 : Value) (W : World) : (Instr.index 41 (.agg #[x0, x1, x2, x3, x4, x5, x6, x7]) (.int .i64 0)).run Try.prog W = .ok (.agg #[x0, x1]) W := by kernel_rfl
theorem idx1 (x0 x1 x2 x3 x4 x5 x6 x7 : Value) (W : World) : (Instr.index 41 (.agg #[x0, x1, x2, x3, x4, x5, x6, x7]) (.int .i64 1)).run Try.prog W = .ok (.agg #[x2, x3]) W := by kernel_rfl
theorem idx2 (x0 x1 x2 x3 x4 x5 x6 x7 : Value) (W : World) : (Instr.index 41 (.agg #[x0, x1, x2, x3, x4, x5, x6, x7]) (.int .i64 2)).run Try.prog W = .ok (.agg #[x4, x5]) W := by kernel_rfl
theorem idx3 (x0 x1 x2 x3 x4 x5 x6 x7 : Value) (W : World) : (Instr.index 41 (.agg #[x0, x1, x2, x3, x4, x5, x6, x7]) (.int .i64 3)).run Try.prog W = .ok (.agg #[x6, x7]) W := by kernel_rfl

theorem below_a {B : Nat} {w wr : World} (h : Below B w wr) (hB : B ≤ w.heap.size) (o : Obj) : Below B w (wr.alloc o) := h.alloc (Nat.le_trans hB h.size) o

set_option maxHeartbeats 4000000 in
set_option maxRecDepth 20000 in
theorem first_any (s : Sm) (u : Bool) (x : Int) (w : World) : Calls Try.prog 34 #[.agg (c9 s), .agg #[.bool u, .int .i64 x]] w fun e w' => e = .returned (.int .i64 (Ca.fst s u x)) ∧ Below w.heap.size w w' := by
  have hB0 : ∀ o1 o2 : Obj, Below w.heap.size w ((w.alloc o1).alloc o2) := fun o1 o2 => ((Below.refl _ _).alloc (Nat.le_refl _) _).alloc (by simp) _
  have hi0 := idx0
  have hi1 := idx1
  have hi2 := idx2
  have hi3 := idx3
  go_enter Try.func34, Try.ntmps34
  go_wp2
  go_loopw [9] (fun i wr => ∃ k : Nat, k ≤ 4 ∧ i = .int .i64 k ∧ Below w.heap.size w wr ∧ wr.cell? ⟨w.heap.size + 1, 0, none⟩ = some (.bool u) ∧ wr.cell? ⟨w.heap.size + 1, 1, none⟩ = some (.int .i64 x) ∧ Hid (∀ j, j < k → Ca.at_ s u x j = false)) (fun i _ => 4 - (intOf i).toNat)
  case atStart =>
    refine ⟨0, by omega, rfl, hB0 _ _, ?_, ?_, hide (fun j hj => by omega)⟩
    · have h := heap_alloc_new (w.alloc (.cells (c9 s) 43)) (.cells #[.bool u, .int .i64 x] 40)
      simp only [World.size_alloc] at h
      exact cell_of_row _ _ 0 _ _ _ h
    · have h := heap_alloc_new (w.alloc (.cells (c9 s) 43)) (.cells #[.bool u, .int .i64 x] 40)
      simp only [World.size_alloc] at h
      exact cell_of_row _ _ 1 _ _ _ h
  case round =>
    clear hB0
    obtain ⟨k, hk, rfl, hbk, c0, c1, HN⟩ := hrel
    have d0 := allocc c0
    have d1 := allocc c1
    have HB := hide (fun o => below_a hbk (Nat.le_refl _) o)
    have HB0 := hide hbk
    clear hbk
    have hk5 : k = 0 ∨ k = 1 ∨ k = 2 ∨ k = 3 ∨ k = 4 := by omega
    rcases hk5 with rfl | rfl | rfl | rfl | rfl
    · by_cases h1 : s.u 0 = u
      · by_cases h2 : s.a 0 = x
        · go_wp2
          go_ret
          exact ⟨ret_i (by  unfold Ca.fst; simp [Ca.at_yes h1 h2]), HB.out _⟩
        · have HN2 : Hid (∀ j, j < 0 + 1 → Ca.at_ s u x j = false) := hide (fun j hj => by
            by_cases e : j = 0
            · subst e; exact Ca.at_no (fun h => h2 h.2)
            · exact HN.out j (by omega))
          go_wp2
          exact ⟨⟨0 + 1, by omega, rfl, HB.out _, d0 _, d1 _, HN2⟩, by simp [intOf]⟩
      · have HN2 : Hid (∀ j, j < 0 + 1 → Ca.at_ s u x j = false) := hide (fun j hj => by
          by_cases e : j = 0
          · subst e; exact Ca.at_no (fun h => h1 h.1)
          · exact HN.out j (by omega))
        go_wp2
        exact ⟨⟨0 + 1, by omega, rfl, HB.out _, d0 _, d1 _, HN2⟩, by simp [intOf]⟩
    · by_cases h1 : s.u 1 = u
      · by_cases h2 : s.a 1 = x
        · go_wp2
          go_ret
          exact ⟨ret_i (by have a0 := HN.out 0 (by omega); unfold Ca.fst; simp [a0, Ca.at_yes h1 h2]), HB.out _⟩
        · have HN2 : Hid (∀ j, j < 1 + 1 → Ca.at_ s u x j = false) := hide (fun j hj => by
            by_cases e : j = 1
            · subst e; exact Ca.at_no (fun h => h2 h.2)
            · exact HN.out j (by omega))
          go_wp2
          exact ⟨⟨1 + 1, by omega, rfl, HB.out _, d0 _, d1 _, HN2⟩, by simp [intOf]⟩
      · have HN2 : Hid (∀ j, j < 1 + 1 → Ca.at_ s u x j = false) := hide (fun j hj => by
          by_cases e : j = 1
          · subst e; exact Ca.at_no (fun h => h1 h.1)
          · exact HN.out j (by omega))
        go_wp2
        exact ⟨⟨1 + 1, by omega, rfl, HB.out _, d0 _, d1 _, HN2⟩, by simp [intOf]⟩
    · by_cases h1 : s.u 2 = u
      · by_cases h2 : s.a 2 = x
        · go_wp2
          go_ret
          exact ⟨ret_i (by have a0 := HN.out 0 (by omega); have a1 := HN.out 1 (by omega); unfold Ca.fst; simp [a0, a1, Ca.at_yes h1 h2]), HB.out _⟩
        · have HN2 : Hid (∀ j, j < 2 + 1 → Ca.at_ s u x j = false) := hide (fun j hj => by
            by_cases e : j = 2
            · subst e; exact Ca.at_no (fun h => h2 h.2)
            · exact HN.out j (by omega))
          go_wp2
          exact ⟨⟨2 + 1, by omega, rfl, HB.out _, d0 _, d1 _, HN2⟩, by simp [intOf]⟩
      · have HN2 : Hid (∀ j, j < 2 + 1 → Ca.at_ s u x j = false) := hide (fun j hj => by
          by_cases e : j = 2
          · subst e; exact Ca.at_no (fun h => h1 h.1)
          · exact HN.out j (by omega))
        go_wp2
        exact ⟨⟨2 + 1, by omega, rfl, HB.out _, d0 _, d1 _, HN2⟩, by simp [intOf]⟩
    · by_cases h1 : s.u 3 = u
      · by_cases h2 : s.a 3 = x
        · go_wp2
          go_ret
          exact ⟨ret_i (by have a0 := HN.out 0 (by omega); have a1 := HN.out 1 (by omega); have a2 := HN.out 2 (by omega); unfold Ca.fst; simp [a0, a1, a2, Ca.at_yes h1 h2]), HB.out _⟩
        · have HN2 : Hid (∀ j, j < 3 + 1 → Ca.at_ s u x j = false) := hide (fun j hj => by
            by_cases e : j = 3
            · subst e; exact Ca.at_no (fun h => h2 h.2)
            · exact HN.out j (by omega))
          go_wp2
          exact ⟨⟨3 + 1, by omega, rfl, HB.out _, d0 _, d1 _, HN2⟩, by simp [intOf]⟩
      · have HN2 : Hid (∀ j, j < 3 + 1 → Ca.at_ s u x j = false) := hide (fun j hj => by
          by_cases e : j = 3
          · subst e; exact Ca.at_no (fun h => h1 h.1)
          · exact HN.out j (by omega))
        go_wp2
        exact ⟨⟨3 + 1, by omega, rfl, HB.out _, d0 _, d1 _, HN2⟩, by simp [intOf]⟩
    · go_wp2
      go_ret
      exact ⟨ret_i (by have a0 := HN.out 0 (by omega); have a1 := HN.out 1 (by omega); have a2 := HN.out 2 (by omega); have a3 := HN.out 3 (by omega); unfold Ca.fst; simp [a0, a1, a2, a3]), HB0.out⟩

set_option maxHeartbeats 1000000 in
set_option maxRecDepth 20000 in
theorem wayOf_any (s : Sm) (x : Int) (w : World) : Calls Try.prog 41 #[.agg (c9 s), .int .i64 x] w fun e w' => e = .returned (.int .i64 (Ca.fst s true x)) ∧ Below w.heap.size w w' := by
  have hb0 := (Below.refl w.heap.size w).alloc (Nat.le_refl _) (.cells (c9 s) 43)
  have hf := fun w => first_any s true x w
  generalize Ca.fst s true x = y at hf
  go_enter Try.func41, Try.ntmps41
  go_wp2_with fail
  refine (hf _).mono ?_
  rintro e w1 ⟨rfl, hb1⟩
  go_wp2
  go_ret
  exact ⟨rfl, hb0.trans (hb1.mono hb0.size)⟩

set_option maxHeartbeats 400000 in
theorem isAddr_any (n : Int) (w : World) : Calls Try.prog 26 #[.int .i64 n] w fun e w' => e = .returned (.bool (inR n 1000)) ∧ w' = w := by
  by_cases h0 : 0 ≤ n
  · by_cases h1 : n ≤ 1000
    · have HH := hide (inR_yes h0 h1)
      go_enter Try.func26, Try.ntmps26
      go_wp2
      go_ret
      exact ⟨ret_b HH.out.symm, rfl⟩
    · have HH := hide (inR_no (n := n) (hi := 1000) (by omega))
      go_enter Try.func26, Try.ntmps26
      go_wp2
      go_ret
      exact ⟨ret_b HH.out.symm, rfl⟩
  · have HH := hide (inR_no (n := n) (hi := 1000) (by omega))
    go_enter Try.func26, Try.ntmps26
    go_wp2
    go_ret
    exact ⟨ret_b HH.out.symm, rfl⟩

end Go.Proofs.Ytlijgkodcbnhbaa
