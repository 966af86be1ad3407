/- the answers of a look, parted -/
import Derived.Test.YtlijgkodcbnhbaaCdC
import Derived.Test.YtlijgkodcbnhbaaCdM
import Derived.Test.YtlijgkodcbnhbaaCaX
import Derived.Deep.RegionHeld3
namespace Go.Proofs.Ytlijgkodcbnhbaa
open Go.RowKit
set_option linter.unusedVariables false
set_option linter.unusedSimpArgs false

theorem LkPost.get {s t : Sm} {x : Int} {w : World} {e : Ending} {w' : World} (h1 : Ca.cokB 2 (fun _ => 4) (two s t) = true) (h2 : inR x 1000 = true) (h : LkPost 2 (fun _ => 4) (two s t) x w e w') : ∃ G c ib, e = .returned (.tuple #[.agg #[sl G 2 c], .bool (Ca.hd (Ca.at2 s t x) x), .int .i64 (Ca.gn (Ca.at2 s t x) x)]) ∧ Cg w' w.heap.size (sl G 2 c) 2 (fun _ => 4) (two (Ca.lk2 s t x).1 (Ca.lk2 s t x).2) G ib ∧ Below w.heap.size w w' := by
  unfold LkPost at h
  rw [if_pos (by rw [h1, h2]; rfl)] at h
  exact h
theorem LkPost.none {n : Nat} {L : Nat → Nat} {D : Nat → Sm} {x : Int} {w : World} {e : Ending} {w' : World} (h1 : (Ca.cokB n L D && inR x 1000) = false) (h : LkPost n L D x w e w') : e = .returned (.tuple #[.agg #[.slice none 0 0], .bool false, .int .i64 (-1)]) ∧ Below w.heap.size w w' := by
  unfold LkPost at h
  rw [if_neg (by rw [h1]; decide)] at h
  exact h
theorem cok_right {s t : Sm} (h : Ca.cokB 2 (fun _ => 4) (two s t) = true) : Ca.rightB s 0 = true ∧ Ca.rightB t 1 = true := by
  obtain ⟨_, _, _, h0, h1⟩ := cok_two h
  exact ⟨h0, h1⟩
theorem boxc (w : World) (u : Value) : (w.alloc (.cells #[u] 26)).cell? ⟨w.heap.size, 0, none⟩ = some u := cell_of_row _ _ 0 _ _ _ (heap_alloc_new _ _)
theorem boxb (w : World) (u : Value) : Below w.heap.size w (w.alloc (.cells #[u] 26)) := (Below.refl _ _).alloc (Nat.le_refl _) _

end Go.Proofs.Ytlijgkodcbnhbaa
