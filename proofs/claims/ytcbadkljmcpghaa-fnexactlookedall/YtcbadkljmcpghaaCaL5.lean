/- an answer of a look: two sets of four ways in blocks of their own, or nil; marked and found marked -/
import Derived.Test.YtcbadkljmcpghaaCaL1
import Derived.Test.YtcbadkljmcpghaaCaW
namespace Go.Proofs.Ytcbadkljmcpghaa
open Go.RowKit
set_option linter.unusedVariables false
set_option linter.unusedSimpArgs false

/-- the marks at nil -/
theorem markNil (w : World) : Calls Try.prog 54 #[.slice none 0 0, .int .i64 1] w fun e w' => e = .returned (.int .i64 1) ∧ w' = w := by
  go_enter Try.func54, Try.ntmps54
  go_wp2
  go_loopw [1, 5] (fun t i wr => i = .int .i64 (0 : Nat) ∧ t = .int .i64 1 ∧ wr = w) (fun _ i _ => 0)
  case atStart => exact ⟨rfl, rfl, rfl⟩
  case round =>
    obtain ⟨rfl, rfl, rfl⟩ := hrel
    go_wp2
    go_ret
    exact ⟨rfl, rfl⟩
theorem heldNil (w : World) : Calls Try.prog 55 #[.slice none 0 0, .int .i64 1] w fun e w' => e = .returned (.int .i64 1) ∧ w' = w := by
  go_enter Try.func55, Try.ntmps55
  go_wp2
  go_loopw [1, 5] (fun t i wr => i = .int .i64 (0 : Nat) ∧ t = .int .i64 1 ∧ wr = w) (fun _ i _ => 0)
  case atStart => exact ⟨rfl, rfl, rfl⟩
  case round =>
    obtain ⟨rfl, rfl, rfl⟩ := hrel
    go_wp2
    go_ret
    exact ⟨rfl, rfl⟩
theorem markCacheNil (w : World) : Calls Try.prog 21 #[.agg #[.slice none 0 0], .int .i64 1] w fun e w' => e = .returned (.int .i64 1) ∧ Below w.heap.size w w' := by
  have HB : Hid (Below w.heap.size w (w.alloc (.cells #[.slice none 0 0] 32))) := hide ((Below.refl _ _).alloc (Nat.le_refl _) _)
  go_enter Try.func21, Try.ntmps21
  go_wp2_with fail
  refine (markNil _).mono ?_
  rintro e w1 ⟨rfl, rfl⟩
  go_wp2
  go_ret
  exact ⟨rfl, HB.out⟩
theorem heldCacheNil (w : World) : Calls Try.prog 22 #[.agg #[.slice none 0 0], .int .i64 1] w fun e w' => e = .returned (.int .i64 1) ∧ Below w.heap.size w w' := by
  have HB : Hid (Below w.heap.size w (w.alloc (.cells #[.slice none 0 0] 32))) := hide ((Below.refl _ _).alloc (Nat.le_refl _) _)
  go_enter Try.func22, Try.ntmps22
  go_wp2_with fail
  refine (heldNil _).mono ?_
  rintro e w1 ⟨rfl, rfl⟩
  go_wp2
  go_ret
  exact ⟨rfl, HB.out⟩

/-- an answer: m is 2, or 0 -/
def An (w : World) (B E : Nat) (v : Value) (m : Nat) (D : Nat → Sm) : Prop :=
  (m = 2 ∧ ∃ G ib, Cg w B v 2 (fun _ => 4) D G ib ∧ G < E ∧ ∀ c, c < 2 → ib c < E) ∨ (m = 0 ∧ v = .slice none 0 0)
theorem An.cv {w : World} {B E : Nat} {v : Value} {m : Nat} {D : Nat → Sm} (h : An w B E v m D) : Cv w v m (fun _ => 4) D := by
  rcases h with ⟨rfl, G, ib, h, _⟩ | ⟨rfl, rfl⟩
  · exact h.cv
  · exact Cv.nil _ _ _
theorem An.le {w : World} {B E : Nat} {v : Value} {m : Nat} {D : Nat → Sm} (h : An w B E v m D) : m ≤ 1048576 := by
  rcases h with ⟨rfl, _⟩ | ⟨rfl, _⟩ <;> decide
theorem An.below {w w' : World} {B E : Nat} {v : Value} {m : Nat} {D : Nat → Sm} (h : An w B E v m D) (hb : Below w.heap.size w w') : An w' B E v m D := by
  rcases h with ⟨rfl, G, ib, h, h2⟩ | h
  · exact .inl ⟨rfl, G, ib, h.below hb, h2⟩
  · exact .inr h
theorem An.drew {w : World} {B E : Nat} {v : Value} {m : Nat} {D : Nat → Sm} (h : An w B E v m D) : An w.drew B E v m D := h.below ((Below.refl _ _).drew)
theorem An.chg {S : Nat → Prop} {w w' : World} {B E : Nat} {v : Value} {m : Nat} {D : Nat → Sm} (h : An w B E v m D) (hc : Chg S w w') (hS : ∀ j, B ≤ j → j < E → ¬ S j) : An w' B E v m D := by
  rcases h with ⟨rfl, G, ib, h, h2⟩ | h
  · exact .inl ⟨rfl, G, ib, h.chg hc (hS _ h.lo.1 h2.1) (fun c hcc => hS _ (h.lo.2 c hcc) (h2.2 c hcc)), h2⟩
  · exact .inr h

def km (m : Nat) : Int := if m = 2 then 19 else 1
theorem km_nn (m : Nat) : 0 ≤ km m := by unfold km; split <;> decide
/-- an answer that is marked -/
def Am (w : World) (v : Value) (m : Nat) : Prop := (m = 2 ∧ ∃ G ib cap, v = sl G 2 cap ∧ MV w G 2 (fun _ => 4) ib 1) ∨ (m = 0 ∧ v = .slice none 0 0)
theorem Am.below {w w' : World} {v : Value} {m : Nat} (h : Am w v m) (hb : Below w.heap.size w w') : Am w' v m := by
  rcases h with ⟨rfl, G, ib, cap, e, h⟩ | h
  · exact .inl ⟨rfl, G, ib, cap, e, h.below hb⟩
  · exact .inr h
theorem four_le : ∀ c, c < 2 → (fun _ : Nat => 4) c ≤ 1048576 := fun c _ => by show 4 ≤ 1048576; decide

theorem chg_of_below {S : Nat → Prop} {w w' : World} (hb : Below w.heap.size w w') : Chg S w w' := (Chg.refl S w).below hb

theorem markAn {w : World} {B E : Nat} {v : Value} {m : Nat} {D : Nat → Sm} (h : An w B E v m D) : Calls Try.prog 21 #[.agg #[v], .int .i64 1] w fun e w' => e = .returned (.int .i64 (km m)) ∧ Chg (fun j => B ≤ j ∧ j < E) w w' ∧ Am w' v m := by
  rcases h with ⟨rfl, G, ib, h, h2⟩ | ⟨rfl, rfl⟩
  · obtain ⟨cap, hv⟩ := h.val
    refine (markCache_any v B 2 (fun _ => 4) D G ib w h (by decide) four_le).mono ?_
    rintro e w' ⟨rfl, hc, hm⟩
    refine ⟨rfl, hc.mono ?_, .inl ⟨rfl, G, ib, cap, hv, hm⟩⟩
    rintro j (rfl | ⟨c, hcc, rfl⟩)
    · exact ⟨h.lo.1, h2.1⟩
    · exact ⟨h.lo.2 c hcc, h2.2 c hcc⟩
  · refine (markCacheNil w).mono ?_
    rintro e w' ⟨rfl, hb⟩
    exact ⟨rfl, chg_of_below hb, .inr ⟨rfl, rfl⟩⟩
theorem heldAm {w : World} {v : Value} {m : Nat} (h : Am w v m) : Calls Try.prog 22 #[.agg #[v], .int .i64 1] w fun e w' => e = .returned (.int .i64 (km m)) ∧ Below w.heap.size w w' := by
  rcases h with ⟨rfl, G, ib, cap, rfl, hm⟩ | ⟨rfl, rfl⟩
  · refine (heldCache_any 2 cap (fun _ => 4) G ib w hm (by decide) four_le).mono ?_
    rintro e w' ⟨rfl, hb⟩
    exact ⟨rfl, hb⟩
  · refine (heldCacheNil w).mono ?_
    rintro e w' ⟨rfl, hb⟩
    exact ⟨rfl, hb⟩

/-- the answer's parts, by what is asked -/
def lkM (n : Nat) (L : Nat → Nat) (D : Nat → Sm) (x : Int) : Nat := if (Ca.cokB n L D && inR x 1000) = true then 2 else 0
def lkH (n : Nat) (L : Nat → Nat) (D : Nat → Sm) (x : Int) : Bool := if (Ca.cokB n L D && inR x 1000) = true then Ca.hd (Ca.at2 (D 0) (D 1) x) x else false
def lkG (n : Nat) (L : Nat → Nat) (D : Nat → Sm) (x : Int) : Int := if (Ca.cokB n L D && inR x 1000) = true then Ca.gn (Ca.at2 (D 0) (D 1) x) x else -1
theorem LkPost.an {n : Nat} {L : Nat → Nat} {D : Nat → Sm} {x : Int} {w : World} {e : Ending} {w' : World} (h : LkPost n L D x w e w') :
    ∃ ad cap, e = .returned (.tuple #[.agg #[.slice ad (lkM n L D x) cap], .bool (lkH n L D x), .int .i64 (lkG n L D x)]) ∧ An w' w.heap.size w'.heap.size (.slice ad (lkM n L D x) cap) (lkM n L D x) (two (Ca.lk2 (D 0) (D 1) x).1 (Ca.lk2 (D 0) (D 1) x).2) ∧ Below w.heap.size w w' := by
  unfold LkPost at h
  by_cases hc : (Ca.cokB n L D && inR x 1000) = true
  · rw [if_pos hc] at h
    obtain ⟨G, c, ib, rfl, hg, hb⟩ := h
    simp only [lkM, lkH, lkG, if_pos hc]
    exact ⟨_, c, rfl, .inl ⟨rfl, G, ib, hg, hg.wcG.lt, fun c hcc => (hg.wcI c hcc).lt⟩, hb⟩
  · rw [if_neg hc] at h
    obtain ⟨rfl, hb⟩ := h
    simp only [lkM, lkH, lkG, if_neg hc]
    exact ⟨none, 0, rfl, .inr ⟨rfl, rfl⟩, hb⟩

end Go.Proofs.Ytcbadkljmcpghaa
