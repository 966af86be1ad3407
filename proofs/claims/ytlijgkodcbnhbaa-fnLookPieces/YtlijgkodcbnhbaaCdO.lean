/- one set of a cache by itself -/
import Derived.Test.YtlijgkodcbnhbaaCdL
namespace Go.Proofs.Ytlijgkodcbnhbaa
open Go.RowKit
set_option linter.unusedVariables false
set_option linter.unusedSimpArgs false

theorem Ca.other_set2 (s t : Sm) (x : Int) : ∃ q : Nat, q < 2 ∧ (q : Int) = 1 - x % 2 ∧ Hid (two (Ca.lk2 s t x).1 (Ca.lk2 s t x).2 q = two s t q) := by
  unfold Ca.lk2
  by_cases e : x % 2 = 0
  · exact ⟨1, by omega, by omega, hide (by rw [if_pos e]; rfl)⟩
  · exact ⟨0, by omega, by omega, hide (by rw [if_neg e]; rfl)⟩
theorem Cv.one {w : World} {G c n : Nat} {L : Nat → Nat} {D : Nat → Sm} (h : Cv w (sl G n c) n L D) {q : Nat} (hq : q < n) : ∃ (e : Unit) (ia : Option Addr) (ic : Nat), w.cell? ⟨G, q * 2, none⟩ = some (.int .i64 (D q).b) ∧ w.cell? ⟨G, q * 2 + 1, none⟩ = some (.slice ia (L q) ic) ∧ Ws w (.slice ia (L q) ic) (L q) (D q) := by
  obtain ⟨ad, cap, e, h⟩ := h
  obtain ⟨b, off, e2, h2⟩ := h (by omega)
  simp only [Value.slice.injEq] at e
  obtain ⟨e1, _, _⟩ := e
  rw [e2] at e1
  simp only [Option.some.injEq, Addr.mk.injEq] at e1
  obtain ⟨rfl, rfl, _⟩ := e1
  obtain ⟨ia, ic, x1, x2, x3⟩ := h2 q hq
  rw [Nat.zero_add] at x1 x2
  exact ⟨(), ia, ic, x1, x2, x3⟩
/-- one set, laid by itself -/
theorem Cv.lone {w : World} {B : Nat} {T : TypeId} {b : Int} {ia : Option Addr} {ic : Nat} {m : Sm} (h : w.heap[B]? = some (.cells #[.int .i64 b, .slice ia 4 ic] T (0, 0))) (hb : b = m.b) (hw : Ws w (.slice ia 4 ic) 4 m) : Cv w (.slice (some ⟨B, 0, none⟩) 1 1) 1 (fun _ => 4) (fun _ => m) := by
  subst hb
  refine ⟨_, 1, rfl, fun _ => ⟨B, 0, rfl, fun c hc => ?_⟩⟩
  have : c = 0 := by omega
  subst this
  exact ⟨ia, ic, (cell_of_row _ _ _ _ _ _ h).trans rfl, (cell_of_row _ _ _ _ _ _ h).trans rfl, hw⟩

end Go.Proofs.Ytlijgkodcbnhbaa
