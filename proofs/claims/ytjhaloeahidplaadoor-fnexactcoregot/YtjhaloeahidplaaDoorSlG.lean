/- the states as one function of the slot; moves as one function; answer of any move; moved -/
import Derived.Test.YtjhaloeahidplaaDoorSlFI
import Derived.Test.YtjhaloeahidplaaDoorSlFS
import Derived.Test.YtjhaloeahidplaaDoorSlFO
import Derived.Test.YtjhaloeahidplaaDoorSlFL
namespace Go.Proofs.YtjhaloeahidplaaDoor
open Go.RowKit

abbrev Sl4 := Int × Int × Int × Int
abbrev MR := Sl4 × Int × Int × Int
abbrev okS (s : Sl4) : Prop := slB s.1 s.2.1 s.2.2.1 s.2.2.2 = true
abbrev slOf (s : Sl4) : Value := slV s.1 s.2.1 s.2.2.1 s.2.2.2
/-- the state of a right slot -/
def stV (s : Sl4) : Value := if s.1 = 0 then vI s.2.2.1 s.2.2.2 else if s.1 = 1 then vS s.2.1 s.2.2.1 s.2.2.2 else if s.1 = 2 then vO s.2.1 else vL s.2.1
def mvOf (m : MR) : Value := mvV (stV m.1) m.2.1 m.2.2.1 m.2.2.2

theorem stV_form (s : Sl4) : ∃ t x, stV s = .iface t x := by
  unfold stV
  split
  · exact ⟨_, _, rfl⟩
  · split
    · exact ⟨_, _, rfl⟩
    · split
      · exact ⟨_, _, rfl⟩
      · exact ⟨_, _, rfl⟩
theorem mvOf_form (m : MR) : ∃ t x, mvOf m = .agg #[.iface t x, .int .i64 m.2.1, .int .i64 m.2.2.1, .int .i64 m.2.2.2] := by
  obtain ⟨t, x, h⟩ := stV_form m.1
  exact ⟨t, x, by rw [mvOf, h]⟩

/-- what is told: none, or one message in a block of its own -/
def Told (w : World) (b0 : Nat) (v : Value) (k core line d : Int) : Prop :=
  (k = 0 ∧ v = .slice none 0 0) ∨ (¬ k = 0 ∧ ∃ B, b0 ≤ B ∧ v = .slice (some ⟨B, 0, none⟩) 1 1 ∧ Holds6 w B k core 0 line 0 d)

theorem Told.next {w w' : World} {b0 : Nat} {v : Value} {k core line d : Int} (h : Told w b0 v k core line d) (hb : Below w.heap.size w w') : Told w' b0 v k core line d := by
  rcases h with h | ⟨hk, B, h1, h2, h3⟩
  · exact .inl h
  · exact .inr ⟨hk, B, h1, h2, h3.next hb⟩
theorem Told.low {w : World} {b0 b1 : Nat} {v : Value} {k core line d : Int} (h : Told w b0 v k core line d) (hb : b1 ≤ b0) : Told w b1 v k core line d := by
  rcases h with h | ⟨hk, B, h1, h2, h3⟩
  · exact .inl h
  · exact .inr ⟨hk, B, by omega, h2, h3⟩

theorem cases_of {s : Sl4} (h : okS s) : (0 ≤ s.2.1 ∧ s.2.1 ≤ 1000000 ∧ 0 ≤ s.2.2.2 ∧ s.2.2.2 ≤ 1000000) ∧
    (s = (0, 0, 0, 0) ∨ s = (0, 0, 1, 0) ∨ (∃ v, s = (0, 0, 2, v)) ∨ (∃ d, s = (1, d, 0, 0)) ∨ (∃ d v, s = (1, d, 2, v)) ∨ (∃ d, s = (2, d, 0, 0)) ∨ (∃ d, s = (3, d, 0, 0))) := by
  obtain ⟨st, d, wt, v⟩ := s
  obtain ⟨h0, h⟩ := slB_cases h
  refine ⟨h0, ?_⟩
  rcases h with ⟨rfl, rfl, rfl, rfl⟩ | ⟨rfl, rfl, rfl, rfl⟩ | ⟨rfl, rfl, rfl⟩ | ⟨rfl, rfl, rfl⟩ | ⟨rfl, rfl⟩ | ⟨rfl, rfl, rfl⟩ | ⟨rfl, rfl, rfl⟩
  · exact .inl rfl
  · exact .inr (.inl rfl)
  · exact .inr (.inr (.inl ⟨_, rfl⟩))
  · exact .inr (.inr (.inr (.inl ⟨_, rfl⟩)))
  · exact .inr (.inr (.inr (.inr (.inl ⟨_, _, rfl⟩))))
  · exact .inr (.inr (.inr (.inr (.inr (.inl ⟨_, rfl⟩)))))
  · exact .inr (.inr (.inr (.inr (.inr (.inr ⟨_, rfl⟩)))))

theorem answer_any (m : MR) (core line : Int) (w : World) (h : okS m.1) : Calls Tryd.prog 89 #[mvOf m, .int .i64 core, .int .i64 line] w fun e w' =>
    ∃ tv, e = .returned (.tuple #[slOf m.1, tv, .int .i64 m.2.2.2]) ∧ Below w.heap.size w w' ∧ Told w' w.heap.size tv m.2.1 core line m.2.2.1 := by
  obtain ⟨s, k, dd, c⟩ := m
  obtain ⟨_, hs⟩ := cases_of h
  by_cases hk : k = 0
  · subst hk
    rcases hs with rfl | rfl | ⟨v, rfl⟩ | ⟨d, rfl⟩ | ⟨d, v, rfl⟩ | ⟨d, rfl⟩ | ⟨d, rfl⟩
    · exact (answer_I0 0 0 dd c core line w).mono fun e w' ⟨h1, h2⟩ => ⟨_, h1, h2, .inl ⟨rfl, rfl⟩⟩
    · exact (answer_I0 1 0 dd c core line w).mono fun e w' ⟨h1, h2⟩ => ⟨_, h1, h2, .inl ⟨rfl, rfl⟩⟩
    · exact (answer_I0 2 v dd c core line w).mono fun e w' ⟨h1, h2⟩ => ⟨_, h1, h2, .inl ⟨rfl, rfl⟩⟩
    · exact (answer_S0 d 0 0 dd c core line w).mono fun e w' ⟨h1, h2⟩ => ⟨_, h1, h2, .inl ⟨rfl, rfl⟩⟩
    · exact (answer_S0 d 2 v dd c core line w).mono fun e w' ⟨h1, h2⟩ => ⟨_, h1, h2, .inl ⟨rfl, rfl⟩⟩
    · exact (answer_O0 d dd c core line w).mono fun e w' ⟨h1, h2⟩ => ⟨_, h1, h2, .inl ⟨rfl, rfl⟩⟩
    · exact (answer_L0 d dd c core line w).mono fun e w' ⟨h1, h2⟩ => ⟨_, h1, h2, .inl ⟨rfl, rfl⟩⟩
  · have hk' : (k != 0) = true := by simp [hk]
    rcases hs with rfl | rfl | ⟨v, rfl⟩ | ⟨d, rfl⟩ | ⟨d, v, rfl⟩ | ⟨d, rfl⟩ | ⟨d, rfl⟩
    · exact (answer_I1 0 0 k dd c core line hk' w).mono fun e w' ⟨h1, h2, h3⟩ => ⟨_, h1, h2, .inr ⟨hk, _, by omega, rfl, h3⟩⟩
    · exact (answer_I1 1 0 k dd c core line hk' w).mono fun e w' ⟨h1, h2, h3⟩ => ⟨_, h1, h2, .inr ⟨hk, _, by omega, rfl, h3⟩⟩
    · exact (answer_I1 2 v k dd c core line hk' w).mono fun e w' ⟨h1, h2, h3⟩ => ⟨_, h1, h2, .inr ⟨hk, _, by omega, rfl, h3⟩⟩
    · exact (answer_S1 d 0 0 k dd c core line hk' w).mono fun e w' ⟨h1, h2, h3⟩ => ⟨_, h1, h2, .inr ⟨hk, _, by omega, rfl, h3⟩⟩
    · exact (answer_S1 d 2 v k dd c core line hk' w).mono fun e w' ⟨h1, h2, h3⟩ => ⟨_, h1, h2, .inr ⟨hk, _, by omega, rfl, h3⟩⟩
    · exact (answer_O1 d k dd c core line hk' w).mono fun e w' ⟨h1, h2, h3⟩ => ⟨_, h1, h2, .inr ⟨hk, _, by omega, rfl, h3⟩⟩
    · exact (answer_L1 d k dd c core line hk' w).mono fun e w' ⟨h1, h2, h3⟩ => ⟨_, h1, h2, .inr ⟨hk, _, by omega, rfl, h3⟩⟩

theorem stateOf_any (s : Sl4) (w : World) (h : okS s) : Calls Tryd.prog 142 #[slOf s] w fun e w' => e = .returned (stV s) ∧ Below w.heap.size w w' := by
  obtain ⟨_, hs⟩ := cases_of h
  rcases hs with rfl | rfl | ⟨v, rfl⟩ | ⟨d, rfl⟩ | ⟨d, v, rfl⟩ | ⟨d, rfl⟩ | ⟨d, rfl⟩
  · exact stateOf_0 _ _ _ _
  · exact stateOf_0 _ _ _ _
  · exact stateOf_0 _ _ _ _
  · exact stateOf_1 _ _ _ _
  · exact stateOf_1 _ _ _ _
  · exact stateOf_2 _ _ _ _
  · exact stateOf_3 _ _ _ _

/-- what each act makes of a right slot -/
def askM (s : Sl4) : MR := if s.1 = 1 ∨ s.1 = 2 then (s, 0, 0, 0) else if s.1 = 0 ∧ s.2.2.1 = 0 then ((0, 0, 1, 0), 1, 0, 3) else (s, 0, 0, 4)
def leftM (s : Sl4) : MR := if s.1 = 2 then ((3, s.2.1, 0, 0), 3, s.2.1, 0) else if s.1 = 1 ∧ s.2.2.1 = 0 then ((0, 0, 0, 0), 0, 0, 0) else (s, 0, 0, 4)
def storM (x : Int) (s : Sl4) : MR := if s.1 = 2 then ((2, x, 0, 0), 0, 0, 0) else if s.1 = 3 ∨ ¬ s.2.2.1 = 0 then (s, 0, 0, 4) else ((s.1, s.2.1, 2, x), 2, 0, 3)
/-- the checks ahead of a move -/
def mvd (s : Sl4) (fm : Bool) (m : MR) : MR := if slB s.1 s.2.1 s.2.2.1 s.2.2.2 = false then ((0, 0, 0, 0), 0, 0, 1) else if fm = false then (s, 0, 0, 2) else m

theorem ok0 : okS (0, 0, 0, 0) := by decide
theorem mvd_ok {s : Sl4} {fm : Bool} {m : MR} (h : okS s → fm = true → okS m.1) : okS (mvd s fm m).1 := by
  unfold mvd
  split
  · exact ok0
  · rename_i h1
    split
    · exact (by simpa using h1)
    · rename_i h2
      exact h (by simpa using h1) (by simpa using h2)

theorem ask_ok {s : Sl4} (h : okS s) : okS (askM s).1 := by
  obtain ⟨h0, hs⟩ := cases_of h
  rcases hs with rfl | rfl | ⟨v, rfl⟩ | ⟨d, rfl⟩ | ⟨d, v, rfl⟩ | ⟨d, rfl⟩ | ⟨d, rfl⟩ <;> first | exact h | decide
theorem left_ok {s : Sl4} (h : okS s) : okS (leftM s).1 := by
  obtain ⟨h0, hs⟩ := cases_of h
  rcases hs with rfl | rfl | ⟨v, rfl⟩ | ⟨d, rfl⟩ | ⟨d, v, rfl⟩ | ⟨d, rfl⟩ | ⟨d, rfl⟩
  · exact h
  · exact h
  · exact h
  · exact ok0
  · exact h
  · exact slB_of (by simpa [leftM] using h0) (by simp [leftM])
  · exact h
theorem stor_ok {s : Sl4} {x : Int} (h : okS s) (hx : inB x 0 1000000 = true) : okS (storM x s).1 := by
  have q := inB_iff.1 hx
  obtain ⟨h0, hs⟩ := cases_of h
  rcases hs with rfl | rfl | ⟨v, rfl⟩ | ⟨d, rfl⟩ | ⟨d, v, rfl⟩ | ⟨d, rfl⟩ | ⟨d, rfl⟩
  · exact slB_of (by simpa [storM] using q) (by simp [storM])
  · exact h
  · exact h
  · exact slB_of (by simp at h0; simp [storM]; omega) (by simp [storM])
  · exact h
  · exact slB_of (by simp [storM]; omega) (by simp [storM])
  · exact h

theorem asked_any (s : Sl4) (w : World) (h : okS s) : Calls Tryd.prog 88 #[stV s] w fun e w' => e = .returned (mvOf (askM s)) ∧ Below w.heap.size w w' := by
  obtain ⟨_, hs⟩ := cases_of h
  rcases hs with rfl | rfl | ⟨v, rfl⟩ | ⟨d, rfl⟩ | ⟨d, v, rfl⟩ | ⟨d, rfl⟩ | ⟨d, rfl⟩
  · exact asked_I0 _ _
  · exact asked_I1 _ _ rfl _
  · exact asked_I1 _ _ rfl _
  · exact asked_S _ _ _ _
  · exact asked_S _ _ _ _
  · exact asked_O _ _
  · exact asked_L _ _
theorem stored_any (s : Sl4) (x : Int) (w : World) (h : okS s) : Calls Tryd.prog 99 #[stV s, .int .i64 x] w fun e w' => e = .returned (mvOf (storM x s)) ∧ Below w.heap.size w w' := by
  obtain ⟨_, hs⟩ := cases_of h
  rcases hs with rfl | rfl | ⟨v, rfl⟩ | ⟨d, rfl⟩ | ⟨d, v, rfl⟩ | ⟨d, rfl⟩ | ⟨d, rfl⟩
  · exact stored_I0 _ _ _
  · exact stored_I1 _ _ _ rfl _
  · exact stored_I1 _ _ _ rfl _
  · exact stored_S0 _ _ _ _
  · exact stored_S1 _ _ _ _ rfl _
  · exact stored_O _ _ _
  · exact stored_L _ _ _
end Go.Proofs.YtjhaloeahidplaaDoor
