/- rows of bools: compared, marked, found marked; a row of numbers marked -/
import Derived.Test.YtlijgkodcbnhbaaCaB1
import Derived.Test.YtlijgkodcbnhbaaC
namespace Go.Proofs.Ytlijgkodcbnhbaa
open Go.RowKit
set_option linter.unusedVariables false
set_option linter.unusedSimpArgs false

/-- n bools that can be read -/
def Sb (w : World) (v : Value) (n : Nat) (h : Nat → Bool) : Prop :=
  ∃ ad cap, v = .slice ad n cap ∧ (0 < n → ∃ b off, ad = some ⟨b, off, none⟩ ∧ ∀ j, j < n → w.cell? ⟨b, off + j, none⟩ = some (.bool (h j)))
/-- the same as a list of cells -/
def bl (h : Nat → Bool) (n : Nat) : List Value := (List.range n).map fun j => .bool (h j)
theorem bl_succ (h : Nat → Bool) (n : Nat) : bl h (n + 1) = bl h n ++ [.bool (h n)] := by simp [bl, List.range_succ]
/-- n bools in a row of the call's own -/
abbrev Rb (w : World) (B : Nat) (v : Value) (n : Nat) (h : Nat → Bool) : Prop := w.ownsRow B 4 1 v n (bl h n)
theorem Rb.form {w : World} {B : Nat} {v : Value} {n : Nat} {h : Nat → Bool} (r : Rb w B v n h) : (v = .slice none 0 0 ∧ n = 0) ∨ ∃ g cap, v = sl g n cap ∧ B ≤ g ∧ Wc w g n ∧ ∀ j, j < n → w.cell? ⟨g, j, none⟩ = some (.bool (h j)) := by
  rcases r.2 with ⟨h', hn⟩ | ⟨g, cap, cur, h', hb, hg, hnc, hcm, hcs, htake⟩
  · exact .inl ⟨h', hn⟩
  · subst h'
    refine .inr ⟨g, cap, rfl, hb, ⟨cur, _, hg, by omega⟩, fun j hj => ?_⟩
    have := World.ownsRow.cellAt r j (by omega)
    rw [this]
    simp [bl, hj]
theorem Rb.sb {w : World} {B : Nat} {v : Value} {n : Nat} {h : Nat → Bool} (r : Rb w B v n h) : Sb w v n h := by
  rcases r.form with ⟨rfl, rfl⟩ | ⟨g, cap, rfl, _, _, hc⟩
  · exact ⟨none, 0, rfl, fun hp => by omega⟩
  · exact ⟨_, cap, rfl, fun _ => ⟨g, 0, rfl, fun j hj => by rw [Nat.zero_add]; exact hc j hj⟩⟩

/-- what a law knows of a row of bools that was answered: in a block between B and E, or nil -/
def Bo (w : World) (B E : Nat) (v : Value) (n : Nat) (h : Nat → Bool) : Prop :=
  (v = .slice none 0 0 ∧ n = 0) ∨ ∃ g cap, v = sl g n cap ∧ B ≤ g ∧ g < E ∧ Wc w g n ∧ ∀ j, j < n → w.cell? ⟨g, j, none⟩ = some (.bool (h j))
theorem Rb.bo {w : World} {B : Nat} {v : Value} {n : Nat} {h : Nat → Bool} (r : Rb w B v n h) : Bo w B w.heap.size v n h := by
  rcases r.form with x | ⟨g, cap, e, hb, hw, hc⟩
  · exact .inl x
  · exact .inr ⟨g, cap, e, hb, hw.lt, hw, hc⟩
theorem Bo.sb {w : World} {B E : Nat} {v : Value} {n : Nat} {h : Nat → Bool} (r : Bo w B E v n h) : Sb w v n h := by
  rcases r with ⟨rfl, rfl⟩ | ⟨g, cap, rfl, _, _, _, hc⟩
  · exact ⟨none, 0, rfl, fun hp => by omega⟩
  · exact ⟨_, cap, rfl, fun _ => ⟨g, 0, rfl, fun j hj => by rw [Nat.zero_add]; exact hc j hj⟩⟩
theorem Bo.below {w w' : World} {B E : Nat} {v : Value} {n : Nat} {h : Nat → Bool} (r : Bo w B E v n h) (hb : Below w.heap.size w w') : Bo w' B E v n h := by
  rcases r with x | ⟨g, cap, e, h1, h2, hw, hc⟩
  · exact .inl x
  · exact .inr ⟨g, cap, e, h1, h2, hw.below hb, fun j hj => keepc hb (hc j hj)⟩
theorem Bo.drew {w : World} {B E : Nat} {v : Value} {n : Nat} {h : Nat → Bool} (r : Bo w B E v n h) : Bo w.drew B E v n h := r.below ((Below.refl _ _).drew)
theorem Bo.chg {S : Nat → Prop} {w w' : World} {B E : Nat} {v : Value} {n : Nat} {h : Nat → Bool} (r : Bo w B E v n h) (hc : Chg S w w') (hS : ∀ j, B ≤ j → j < E → ¬ S j) : Bo w' B E v n h := by
  rcases r with x | ⟨g, cap, e, h1, h2, hw, hcc⟩
  · exact .inl x
  · exact .inr ⟨g, cap, e, h1, h2, hc.keep _ _ hw, fun j hj => hc.cell (hS g h1 h2) (hcc j hj)⟩

/-- n bools marked from k0 on -/
def Vb (w : World) (g n : Nat) (k0 : Int) : Prop := ∀ j : Nat, j < n → w.cell? ⟨g, j, none⟩ = some (.bool ((k0 + (j : Int)) % 3 == 0))
theorem Vb.put {w : World} {g n len : Nat} {k0 : Int} (h : Vb w g n k0) (hw : Wc w g len) (hn : n < len) : Vb (w.setCell ⟨g, n, none⟩ (.bool ((k0 + (n : Int)) % 3 == 0))) g (n + 1) k0 := by
  intro j hj
  by_cases e : j = n
  · subst e
    obtain ⟨u, hu⟩ := hw.facts.2 j hn
    rw [World.cell?_setCell_same (h := hu)]
  · rw [far_set (by omega)]
    exact h j (by omega)

end Go.Proofs.Ytlijgkodcbnhbaa
