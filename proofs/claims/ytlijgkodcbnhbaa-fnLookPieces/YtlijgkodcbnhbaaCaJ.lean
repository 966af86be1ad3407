/- impl: a set that is right (written by mkCaJ.py) -/
import Derived.Test.YtlijgkodcbnhbaaCaI
namespace Go.Proofs.Ytlijgkodcbnhbaa
open Go.RowKit
set_option linter.unusedVariables false
set_option linter.unusedSimpArgs false

theorem heap_a {w : World} {g : Nat} {x : Obj} (h : w.heap[g]? = some x) (o : Obj) : (w.alloc o).heap[g]? = some x := (((Below.refl w.heap.size w).alloc (Nat.le_refl _) o).block g (lt_of_block h)).trans h
theorem heap_b {w w' : World} {g : Nat} {x : Obj} (h : w.heap[g]? = some x) (hb : Below w.heap.size w w') : w'.heap[g]? = some x := (hb.block g (lt_of_block h)).trans h
theorem nine {W : World} {g : Nat} {T : TypeId} {s : Sm} (h : W.heap[g]? = some (.cells (c9 s) T (0, 0))) :
    W.cell? ⟨g, 0, none⟩ = some (.int .i64 s.b) ∧ W.cell? ⟨g, 1, none⟩ = some (.bool (s.u 0)) ∧ W.cell? ⟨g, 2, none⟩ = some (.int .i64 (s.a 0)) ∧ W.cell? ⟨g, 3, none⟩ = some (.bool (s.u 1)) ∧ W.cell? ⟨g, 4, none⟩ = some (.int .i64 (s.a 1)) ∧
    W.cell? ⟨g, 5, none⟩ = some (.bool (s.u 2)) ∧ W.cell? ⟨g, 6, none⟩ = some (.int .i64 (s.a 2)) ∧ W.cell? ⟨g, 7, none⟩ = some (.bool (s.u 3)) ∧ W.cell? ⟨g, 8, none⟩ = some (.int .i64 (s.a 3)) :=
  ⟨cell_of_row _ _ 0 _ _ _ h, cell_of_row _ _ 1 _ _ _ h, cell_of_row _ _ 2 _ _ _ h, cell_of_row _ _ 3 _ _ _ h, cell_of_row _ _ 4 _ _ _ h, cell_of_row _ _ 5 _ _ _ h, cell_of_row _ _ 6 _ _ _ h, cell_of_row _ _ 7 _ _ _ h, cell_of_row _ _ 8 _ _ _ h⟩

theorem box2 {w : World} {x y : Value} {T : TypeId} : (w.alloc (.cells #[x, y] T)).cell? ⟨w.heap.size, 0, none⟩ = some x ∧ (w.alloc (.cells #[x, y] T)).cell? ⟨w.heap.size, 1, none⟩ = some y := by
  have h := heap_alloc_new w (.cells #[x, y] T)
  exact ⟨cell_of_row _ _ 0 _ _ _ h, cell_of_row _ _ 1 _ _ _ h⟩

namespace Ca
theorem rightB_no {s : Sm} {c k : Nat} (h : wayB s c k = false) (hk : k < 4) : rightB s c = false := by
  have : k = 0 ∨ k = 1 ∨ k = 2 ∨ k = 3 := by omega
  rcases this with rfl | rfl | rfl | rfl <;> simp [rightB, h]
theorem rightB_end {s : Sm} {c : Nat} (h : ∀ j, j < 4 → wayB s c j = true) : rightB s c = inR s.b 7 := by
  simp [rightB, h 0 (by omega), h 1 (by omega), h 2 (by omega), h 3 (by omega)]
theorem wayB_off {s : Sm} {c k : Nat} (h : s.u k = false) : wayB s c k = decide (s.a k = 0) := by simp [wayB, h]
theorem wayB_on {s : Sm} {c k : Nat} (h : s.u k = true) : wayB s c k = (inR (s.a k) 1000 && decide (s.a k % 2 = c) && decide (fst s true (s.a k) = k)) := by simp [wayB, h]
end Ca

set_option maxHeartbeats 1600000 in
set_option maxRecDepth 20000 in
theorem isRight_any (s : Sm) (c : Nat) (w : World) (hc : c < 2) : Calls Try.prog 25 #[.agg (c9 s), .int .i64 c] w fun e w' => e = .returned (.bool (Ca.rightB s c)) ∧ Below w.heap.size w w' := by
  have hi0 := idx0
  have hi1 := idx1
  have hi2 := idx2
  have hi3 := idx3
  have HP := hide (fun w => isPlru_any s.b w)
  go_enter Try.func25, Try.ntmps25
  go_wp2
  go_loopw [9] (fun i wr => ∃ k : Nat, k ≤ 4 ∧ i = .int .i64 k ∧ Hid (Below w.heap.size w wr) ∧ Hid (wr.heap[w.heap.size]? = some (.cells (c9 s) 43 (0, 0))) ∧ Hid (∀ j, j < k → Ca.wayB s c j = true)) (fun i _ => 4 - (intOf i).toNat)
  case atStart => exact ⟨0, by omega, rfl, hide ((Below.refl _ _).alloc (Nat.le_refl _) _), hide (heap_alloc_new _ _), hide (fun j hj => by omega)⟩
  case round =>
    obtain ⟨k, hk, rfl, HB, HH, HN⟩ := hrel
    have HBo := hide (fun o => below_a HB.out (Nat.le_refl _) o)
    have hk5 : k = 0 ∨ k = 1 ∨ k = 2 ∨ k = 3 ∨ k = 4 := by omega
    rcases hk5 with rfl | rfl | rfl | rfl | rfl
    · have HA := hide (fun w => isAddr_any (s.a 0) w)
      have hw := fun o => nine (heap_a HH.out o)
      have c0 := fun o => (hw o).1
      have c1 := fun o => (hw o).2.1
      have c2 := fun o => (hw o).2.2.1
      have c3 := fun o => (hw o).2.2.2.1
      have c4 := fun o => (hw o).2.2.2.2.1
      have c5 := fun o => (hw o).2.2.2.2.2.1
      have c6 := fun o => (hw o).2.2.2.2.2.2.1
      have c7 := fun o => (hw o).2.2.2.2.2.2.2.1
      have c8 := fun o => (hw o).2.2.2.2.2.2.2.2
      clear hw
      cases hu : s.u 0
      · have HW := hide (Ca.wayB_off (c := c) hu)
        by_cases h0 : s.a 0 = 0
        · have HN2 : Hid (∀ j, j < 0 + 1 → Ca.wayB s c j = true) := hide (fun j hj => by
            by_cases e : j = 0
            · subst e; rw [HW.out]; exact decide_eq_true h0
            · exact HN.out j (by omega))
          have HH2 := hide (fun o => heap_a HH.out o)
          go_wp2
          exact ⟨⟨0 + 1, by omega, rfl, hide (HBo.out _), hide (HH2.out _), HN2⟩, by simp [intOf]⟩
        · have HR := hide (Ca.rightB_no (s := s) (c := c) (k := 0) (by rw [HW.out]; exact decide_eq_false h0) (by omega))
          have h0' : (s.a 0 != 0) = true := by simpa using h0
          go_wp2
          go_ret
          exact ⟨ret_b HR.out.symm, HBo.out _⟩
      · have HW := hide (Ca.wayB_on (c := c) hu)
        have hf := fun w => first_any s true (s.a 0) w
        simp only [c9, hu] at hf
        have HF := hide hf
        clear hf
        cases hA : inR (s.a 0) 1000
        · have HR := hide (Ca.rightB_no (s := s) (c := c) (k := 0) (by rw [HW.out, hA]; rfl) (by omega))
          rw [hA] at HA
          clear hA
          go_wp2_with fail
          refine (HA.out _).mono ?_
          rintro e w1 ⟨rfl, rfl⟩
          go_wp2
          go_ret
          exact ⟨ret_b HR.out.symm, HBo.out _⟩
        · have hrg := (inR_cases hA).1 rfl
          have HA' := hide hA
          rw [hA] at HA
          clear hA
          obtain ⟨h0, h1⟩ := hrg
          by_cases hm : s.a 0 % 2 = c
          · cases hy : decide (Ca.fst s true (s.a 0) = ((0 : Nat) : Int))
            · have HR := hide (Ca.rightB_no (s := s) (c := c) (k := 0) (by rw [HW.out, HA'.out, decide_eq_true hm, hy]; rfl) (by omega))
              generalize Ca.fst s true (s.a 0) = y at HF hy
              have hy' : (y == 0) = false := by simpa using hy
              clear hy
              go_wp2_with fail
              refine (HA.out _).mono ?_
              rintro e w1 ⟨rfl, rfl⟩
              go_wp2_with fail
              refine (HF.out _).mono ?_
              rintro e w2 ⟨rfl, hb2⟩
              have HZ := hide ((HBo.out _).trans (hb2.mono (HBo.out _).size))
              clear hb2
              go_wp2
              go_ret
              exact ⟨ret_b HR.out.symm, HZ.out⟩
            · have HN2 : Hid (∀ j, j < 0 + 1 → Ca.wayB s c j = true) := hide (fun j hj => by
                by_cases e : j = 0
                · subst e; rw [HW.out, HA'.out, decide_eq_true hm, hy]; rfl
                · exact HN.out j (by omega))
              generalize Ca.fst s true (s.a 0) = y at HF hy
              have hy' : y = 0 := by simpa using hy
              subst hy'
              clear hy
              go_wp2_with fail
              refine (HA.out _).mono ?_
              rintro e w1 ⟨rfl, rfl⟩
              go_wp2_with fail
              refine (HF.out _).mono ?_
              rintro e w2 ⟨rfl, hb2⟩
              have HZ := hide (And.intro ((HBo.out _).trans (hb2.mono (HBo.out _).size)) (heap_b (heap_a HH.out _) hb2))
              have q0 := keepc hb2 (box2 (w := wr) (x := .bool true) (y := .int .i64 (s.a 0)) (T := 40)).1
              have q1 := keepc hb2 (box2 (w := wr) (x := .bool true) (y := .int .i64 (s.a 0)) (T := 40)).2
              clear hb2
              go_wp2
              exact ⟨⟨0 + 1, by omega, rfl, hide HZ.out.1, hide HZ.out.2, HN2⟩, by simp [intOf]⟩
          · have HR := hide (Ca.rightB_no (s := s) (c := c) (k := 0) (by rw [HW.out, HA'.out, decide_eq_false hm]; rfl) (by omega))
            have hm' : (s.a 0 % 2 == (c : Int)) = false := by simpa using hm
            go_wp2_with fail
            refine (HA.out _).mono ?_
            rintro e w1 ⟨rfl, rfl⟩
            go_wp2
            go_ret
            exact ⟨ret_b HR.out.symm, HBo.out _⟩
    · have HA := hide (fun w => isAddr_any (s.a 1) w)
      have hw := fun o => nine (heap_a HH.out o)
      have c0 := fun o => (hw o).1
      have c1 := fun o => (hw o).2.1
      have c2 := fun o => (hw o).2.2.1
      have c3 := fun o => (hw o).2.2.2.1
      have c4 := fun o => (hw o).2.2.2.2.1
      have c5 := fun o => (hw o).2.2.2.2.2.1
      have c6 := fun o => (hw o).2.2.2.2.2.2.1
      have c7 := fun o => (hw o).2.2.2.2.2.2.2.1
      have c8 := fun o => (hw o).2.2.2.2.2.2.2.2
      clear hw
      cases hu : s.u 1
      · have HW := hide (Ca.wayB_off (c := c) hu)
        by_cases h0 : s.a 1 = 0
        · have HN2 : Hid (∀ j, j < 1 + 1 → Ca.wayB s c j = true) := hide (fun j hj => by
            by_cases e : j = 1
            · subst e; rw [HW.out]; exact decide_eq_true h0
            · exact HN.out j (by omega))
          have HH2 := hide (fun o => heap_a HH.out o)
          go_wp2
          exact ⟨⟨1 + 1, by omega, rfl, hide (HBo.out _), hide (HH2.out _), HN2⟩, by simp [intOf]⟩
        · have HR := hide (Ca.rightB_no (s := s) (c := c) (k := 1) (by rw [HW.out]; exact decide_eq_false h0) (by omega))
          have h0' : (s.a 1 != 0) = true := by simpa using h0
          go_wp2
          go_ret
          exact ⟨ret_b HR.out.symm, HBo.out _⟩
      · have HW := hide (Ca.wayB_on (c := c) hu)
        have hf := fun w => first_any s true (s.a 1) w
        simp only [c9, hu] at hf
        have HF := hide hf
        clear hf
        cases hA : inR (s.a 1) 1000
        · have HR := hide (Ca.rightB_no (s := s) (c := c) (k := 1) (by rw [HW.out, hA]; rfl) (by omega))
          rw [hA] at HA
          clear hA
          go_wp2_with fail
          refine (HA.out _).mono ?_
          rintro e w1 ⟨rfl, rfl⟩
          go_wp2
          go_ret
          exact ⟨ret_b HR.out.symm, HBo.out _⟩
        · have hrg := (inR_cases hA).1 rfl
          have HA' := hide hA
          rw [hA] at HA
          clear hA
          obtain ⟨h0, h1⟩ := hrg
          by_cases hm : s.a 1 % 2 = c
          · cases hy : decide (Ca.fst s true (s.a 1) = ((1 : Nat) : Int))
            · have HR := hide (Ca.rightB_no (s := s) (c := c) (k := 1) (by rw [HW.out, HA'.out, decide_eq_true hm, hy]; rfl) (by omega))
              generalize Ca.fst s true (s.a 1) = y at HF hy
              have hy' : (y == 1) = false := by simpa using hy
              clear hy
              go_wp2_with fail
              refine (HA.out _).mono ?_
              rintro e w1 ⟨rfl, rfl⟩
              go_wp2_with fail
              refine (HF.out _).mono ?_
              rintro e w2 ⟨rfl, hb2⟩
              have HZ := hide ((HBo.out _).trans (hb2.mono (HBo.out _).size))
              clear hb2
              go_wp2
              go_ret
              exact ⟨ret_b HR.out.symm, HZ.out⟩
            · have HN2 : Hid (∀ j, j < 1 + 1 → Ca.wayB s c j = true) := hide (fun j hj => by
                by_cases e : j = 1
                · subst e; rw [HW.out, HA'.out, decide_eq_true hm, hy]; rfl
                · exact HN.out j (by omega))
              generalize Ca.fst s true (s.a 1) = y at HF hy
              have hy' : y = 1 := by simpa using hy
              subst hy'
              clear hy
              go_wp2_with fail
              refine (HA.out _).mono ?_
              rintro e w1 ⟨rfl, rfl⟩
              go_wp2_with fail
              refine (HF.out _).mono ?_
              rintro e w2 ⟨rfl, hb2⟩
              have HZ := hide (And.intro ((HBo.out _).trans (hb2.mono (HBo.out _).size)) (heap_b (heap_a HH.out _) hb2))
              have q0 := keepc hb2 (box2 (w := wr) (x := .bool true) (y := .int .i64 (s.a 1)) (T := 40)).1
              have q1 := keepc hb2 (box2 (w := wr) (x := .bool true) (y := .int .i64 (s.a 1)) (T := 40)).2
              clear hb2
              go_wp2
              exact ⟨⟨1 + 1, by omega, rfl, hide HZ.out.1, hide HZ.out.2, HN2⟩, by simp [intOf]⟩
          · have HR := hide (Ca.rightB_no (s := s) (c := c) (k := 1) (by rw [HW.out, HA'.out, decide_eq_false hm]; rfl) (by omega))
            have hm' : (s.a 1 % 2 == (c : Int)) = false := by simpa using hm
            go_wp2_with fail
            refine (HA.out _).mono ?_
            rintro e w1 ⟨rfl, rfl⟩
            go_wp2
            go_ret
            exact ⟨ret_b HR.out.symm, HBo.out _⟩
    · have HA := hide (fun w => isAddr_any (s.a 2) w)
      have hw := fun o => nine (heap_a HH.out o)
      have c0 := fun o => (hw o).1
      have c1 := fun o => (hw o).2.1
      have c2 := fun o => (hw o).2.2.1
      have c3 := fun o => (hw o).2.2.2.1
      have c4 := fun o => (hw o).2.2.2.2.1
      have c5 := fun o => (hw o).2.2.2.2.2.1
      have c6 := fun o => (hw o).2.2.2.2.2.2.1
      have c7 := fun o => (hw o).2.2.2.2.2.2.2.1
      have c8 := fun o => (hw o).2.2.2.2.2.2.2.2
      clear hw
      cases hu : s.u 2
      · have HW := hide (Ca.wayB_off (c := c) hu)
        by_cases h0 : s.a 2 = 0
        · have HN2 : Hid (∀ j, j < 2 + 1 → Ca.wayB s c j = true) := hide (fun j hj => by
            by_cases e : j = 2
            · subst e; rw [HW.out]; exact decide_eq_true h0
            · exact HN.out j (by omega))
          have HH2 := hide (fun o => heap_a HH.out o)
          go_wp2
          exact ⟨⟨2 + 1, by omega, rfl, hide (HBo.out _), hide (HH2.out _), HN2⟩, by simp [intOf]⟩
        · have HR := hide (Ca.rightB_no (s := s) (c := c) (k := 2) (by rw [HW.out]; exact decide_eq_false h0) (by omega))
          have h0' : (s.a 2 != 0) = true := by simpa using h0
          go_wp2
          go_ret
          exact ⟨ret_b HR.out.symm, HBo.out _⟩
      · have HW := hide (Ca.wayB_on (c := c) hu)
        have hf := fun w => first_any s true (s.a 2) w
        simp only [c9, hu] at hf
        have HF := hide hf
        clear hf
        cases hA : inR (s.a 2) 1000
        · have HR := hide (Ca.rightB_no (s := s) (c := c) (k := 2) (by rw [HW.out, hA]; rfl) (by omega))
          rw [hA] at HA
          clear hA
          go_wp2_with fail
          refine (HA.out _).mono ?_
          rintro e w1 ⟨rfl, rfl⟩
          go_wp2
          go_ret
          exact ⟨ret_b HR.out.symm, HBo.out _⟩
        · have hrg := (inR_cases hA).1 rfl
          have HA' := hide hA
          rw [hA] at HA
          clear hA
          obtain ⟨h0, h1⟩ := hrg
          by_cases hm : s.a 2 % 2 = c
          · cases hy : decide (Ca.fst s true (s.a 2) = ((2 : Nat) : Int))
            · have HR := hide (Ca.rightB_no (s := s) (c := c) (k := 2) (by rw [HW.out, HA'.out, decide_eq_true hm, hy]; rfl) (by omega))
              generalize Ca.fst s true (s.a 2) = y at HF hy
              have hy' : (y == 2) = false := by simpa using hy
              clear hy
              go_wp2_with fail
              refine (HA.out _).mono ?_
              rintro e w1 ⟨rfl, rfl⟩
              go_wp2_with fail
              refine (HF.out _).mono ?_
              rintro e w2 ⟨rfl, hb2⟩
              have HZ := hide ((HBo.out _).trans (hb2.mono (HBo.out _).size))
              clear hb2
              go_wp2
              go_ret
              exact ⟨ret_b HR.out.symm, HZ.out⟩
            · have HN2 : Hid (∀ j, j < 2 + 1 → Ca.wayB s c j = true) := hide (fun j hj => by
                by_cases e : j = 2
                · subst e; rw [HW.out, HA'.out, decide_eq_true hm, hy]; rfl
                · exact HN.out j (by omega))
              generalize Ca.fst s true (s.a 2) = y at HF hy
              have hy' : y = 2 := by simpa using hy
              subst hy'
              clear hy
              go_wp2_with fail
              refine (HA.out _).mono ?_
              rintro e w1 ⟨rfl, rfl⟩
              go_wp2_with fail
              refine (HF.out _).mono ?_
              rintro e w2 ⟨rfl, hb2⟩
              have HZ := hide (And.intro ((HBo.out _).trans (hb2.mono (HBo.out _).size)) (heap_b (heap_a HH.out _) hb2))
              have q0 := keepc hb2 (box2 (w := wr) (x := .bool true) (y := .int .i64 (s.a 2)) (T := 40)).1
              have q1 := keepc hb2 (box2 (w := wr) (x := .bool true) (y := .int .i64 (s.a 2)) (T := 40)).2
              clear hb2
              go_wp2
              exact ⟨⟨2 + 1, by omega, rfl, hide HZ.out.1, hide HZ.out.2, HN2⟩, by simp [intOf]⟩
          · have HR := hide (Ca.rightB_no (s := s) (c := c) (k := 2) (by rw [HW.out, HA'.out, decide_eq_false hm]; rfl) (by omega))
            have hm' : (s.a 2 % 2 == (c : Int)) = false := by simpa using hm
            go_wp2_with fail
            refine (HA.out _).mono ?_
            rintro e w1 ⟨rfl, rfl⟩
            go_wp2
            go_ret
            exact ⟨ret_b HR.out.symm, HBo.out _⟩
    · have HA := hide (fun w => isAddr_any (s.a 3) w)
      have hw := fun o => nine (heap_a HH.out o)
      have c0 := fun o => (hw o).1
      have c1 := fun o => (hw o).2.1
      have c2 := fun o => (hw o).2.2.1
      have c3 := fun o => (hw o).2.2.2.1
      have c4 := fun o => (hw o).2.2.2.2.1
      have c5 := fun o => (hw o).2.2.2.2.2.1
      have c6 := fun o => (hw o).2.2.2.2.2.2.1
      have c7 := fun o => (hw o).2.2.2.2.2.2.2.1
      have c8 := fun o => (hw o).2.2.2.2.2.2.2.2
      clear hw
      cases hu : s.u 3
      · have HW := hide (Ca.wayB_off (c := c) hu)
        by_cases h0 : s.a 3 = 0
        · have HN2 : Hid (∀ j, j < 3 + 1 → Ca.wayB s c j = true) := hide (fun j hj => by
            by_cases e : j = 3
            · subst e; rw [HW.out]; exact decide_eq_true h0
            · exact HN.out j (by omega))
          have HH2 := hide (fun o => heap_a HH.out o)
          go_wp2
          exact ⟨⟨3 + 1, by omega, rfl, hide (HBo.out _), hide (HH2.out _), HN2⟩, by simp [intOf]⟩
        · have HR := hide (Ca.rightB_no (s := s) (c := c) (k := 3) (by rw [HW.out]; exact decide_eq_false h0) (by omega))
          have h0' : (s.a 3 != 0) = true := by simpa using h0
          go_wp2
          go_ret
          exact ⟨ret_b HR.out.symm, HBo.out _⟩
      · have HW := hide (Ca.wayB_on (c := c) hu)
        have hf := fun w => first_any s true (s.a 3) w
        simp only [c9, hu] at hf
        have HF := hide hf
        clear hf
        cases hA : inR (s.a 3) 1000
        · have HR := hide (Ca.rightB_no (s := s) (c := c) (k := 3) (by rw [HW.out, hA]; rfl) (by omega))
          rw [hA] at HA
          clear hA
          go_wp2_with fail
          refine (HA.out _).mono ?_
          rintro e w1 ⟨rfl, rfl⟩
          go_wp2
          go_ret
          exact ⟨ret_b HR.out.symm, HBo.out _⟩
        · have hrg := (inR_cases hA).1 rfl
          have HA' := hide hA
          rw [hA] at HA
          clear hA
          obtain ⟨h0, h1⟩ := hrg
          by_cases hm : s.a 3 % 2 = c
          · cases hy : decide (Ca.fst s true (s.a 3) = ((3 : Nat) : Int))
            · have HR := hide (Ca.rightB_no (s := s) (c := c) (k := 3) (by rw [HW.out, HA'.out, decide_eq_true hm, hy]; rfl) (by omega))
              generalize Ca.fst s true (s.a 3) = y at HF hy
              have hy' : (y == 3) = false := by simpa using hy
              clear hy
              go_wp2_with fail
              refine (HA.out _).mono ?_
              rintro e w1 ⟨rfl, rfl⟩
              go_wp2_with fail
              refine (HF.out _).mono ?_
              rintro e w2 ⟨rfl, hb2⟩
              have HZ := hide ((HBo.out _).trans (hb2.mono (HBo.out _).size))
              clear hb2
              go_wp2
              go_ret
              exact ⟨ret_b HR.out.symm, HZ.out⟩
            · have HN2 : Hid (∀ j, j < 3 + 1 → Ca.wayB s c j = true) := hide (fun j hj => by
                by_cases e : j = 3
                · subst e; rw [HW.out, HA'.out, decide_eq_true hm, hy]; rfl
                · exact HN.out j (by omega))
              generalize Ca.fst s true (s.a 3) = y at HF hy
              have hy' : y = 3 := by simpa using hy
              subst hy'
              clear hy
              go_wp2_with fail
              refine (HA.out _).mono ?_
              rintro e w1 ⟨rfl, rfl⟩
              go_wp2_with fail
              refine (HF.out _).mono ?_
              rintro e w2 ⟨rfl, hb2⟩
              have HZ := hide (And.intro ((HBo.out _).trans (hb2.mono (HBo.out _).size)) (heap_b (heap_a HH.out _) hb2))
              have q0 := keepc hb2 (box2 (w := wr) (x := .bool true) (y := .int .i64 (s.a 3)) (T := 40)).1
              have q1 := keepc hb2 (box2 (w := wr) (x := .bool true) (y := .int .i64 (s.a 3)) (T := 40)).2
              clear hb2
              go_wp2
              exact ⟨⟨3 + 1, by omega, rfl, hide HZ.out.1, hide HZ.out.2, HN2⟩, by simp [intOf]⟩
          · have HR := hide (Ca.rightB_no (s := s) (c := c) (k := 3) (by rw [HW.out, HA'.out, decide_eq_false hm]; rfl) (by omega))
            have hm' : (s.a 3 % 2 == (c : Int)) = false := by simpa using hm
            go_wp2_with fail
            refine (HA.out _).mono ?_
            rintro e w1 ⟨rfl, rfl⟩
            go_wp2
            go_ret
            exact ⟨ret_b HR.out.symm, HBo.out _⟩
    · have HE := hide (Ca.rightB_end HN.out)
      have c0 := (nine HH.out).1
      go_wp2_with fail
      refine (HP.out _).mono ?_
      rintro e w1 ⟨rfl, rfl⟩
      go_wp2
      go_ret
      exact ⟨ret_b HE.out.symm, HB.out⟩

end Go.Proofs.Ytlijgkodcbnhbaa
