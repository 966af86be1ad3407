/- impl.Looked -/
import Derived.Test.YtlijgkodcbnhbaaCaZ
import Derived.Test.YtlijgkodcbnhbaaCaP
namespace Go.Proofs.Ytlijgkodcbnhbaa
open Go.RowKit
set_option linter.unusedVariables false
set_option linter.unusedSimpArgs false

theorem bits_of {n : Nat} {L : Nat → Nat} {D : Nat → Sm} (h : Ca.cokB n L D = true) : inR (D 0).b 7 = true ∧ inR (D 1).b 7 = true := by
  obtain ⟨_, _, _, h0, h1⟩ := cok_two h
  simp only [Ca.rightB, Bool.and_eq_true] at h0 h1
  exact ⟨h0.2, h1.2⟩

/-- the answer of a look -/
def LkPost (n : Nat) (L : Nat → Nat) (D : Nat → Sm) (x : Int) (w : World) (e : Ending) (w' : World) : Prop :=
  if (Ca.cokB n L D && inR x 1000) = true then ∃ G c ib, e = .returned (.tuple #[.agg #[sl G 2 c], .bool (Ca.hd (Ca.at2 (D 0) (D 1) x) x), .int .i64 (Ca.gn (Ca.at2 (D 0) (D 1) x) x)]) ∧ Cg w' w.heap.size (sl G 2 c) 2 (fun _ => 4) (two (Ca.lk2 (D 0) (D 1) x).1 (Ca.lk2 (D 0) (D 1) x).2) G ib ∧ Below w.heap.size w w'
  else e = .returned (.tuple #[.agg #[.slice none 0 0], .bool false, .int .i64 (-1)]) ∧ Below w.heap.size w w'
theorem LkPost.yes {n : Nat} {L : Nat → Nat} {D : Nat → Sm} {x : Int} {w : World} {e : Ending} {w' : World} (h1 : Ca.cokB n L D = true) (h2 : inR x 1000 = true) (h : ∃ G c ib, e = .returned (.tuple #[.agg #[sl G 2 c], .bool (Ca.hd (Ca.at2 (D 0) (D 1) x) x), .int .i64 (Ca.gn (Ca.at2 (D 0) (D 1) x) x)]) ∧ Cg w' w.heap.size (sl G 2 c) 2 (fun _ => 4) (two (Ca.lk2 (D 0) (D 1) x).1 (Ca.lk2 (D 0) (D 1) x).2) G ib ∧ Below w.heap.size w w') : LkPost n L D x w e w' := by
  unfold LkPost; rw [if_pos (by rw [h1, h2]; rfl)]; exact h
theorem LkPost.no {n : Nat} {L : Nat → Nat} {D : Nat → Sm} {x : Int} {w : World} {e : Ending} {w' : World} (h1 : (Ca.cokB n L D && inR x 1000) = false) (h : e = .returned (.tuple #[.agg #[.slice none 0 0], .bool false, .int .i64 (-1)]) ∧ Below w.heap.size w w') : LkPost n L D x w e w' := by
  unfold LkPost; rw [if_neg (by rw [h1]; decide)]; exact h

end Go.Proofs.Ytlijgkodcbnhbaa
