/- a new Tso drawn; what is known of it -/
import Derived.Test.YtneofegnbflfiaaTpC
import Derived.Test.YtneofegnbflfiaaRdE
namespace Go.Proofs.Ytneofegnbflfiaa
open Go.RowKit
set_option linter.unusedVariables false
set_option linter.unusedSimpArgs false

set_option maxHeartbeats 1000000 in
theorem drawTsoNew_any (ad : Option Addr) (n cap : Nat) (w : World) (hb : Bt w ad n) (hn : n ≤ 1048576) :
    Calls Try.prog 42 #[.slice ad n cap] w fun e w' => ∃ z : Int, e = .returned (.int .i64 z) ∧ Below w.heap.size w w' := by
  go_enter Try.func42, Try.ntmps42
  go_wp2_with fail
  refine (open_any ad n cap _ hb hn).mono ?_
  rintro e w1 ⟨g, rfl, hg1, hr1, hb1⟩
  clear hb
  go_wp2_with fail
  refine (off_any g 1 3 _ hr1 (by omega) (by omega) (by omega)).mono ?_
  rintro e w2 ⟨z, rfl, hr2, hg2⟩
  have HB := hide (below_read hb1 hg2 hg1 hb1.size)
  clear hr1 hb1 hg2 hr2
  go_wp2
  go_ret
  exact ⟨_, rfl, HB.out⟩

theorem dal_zero {d : Td} (h : ∀ c, d.L c = 0) (k : Nat) : dal d k = d := by
  induction k with
  | zero => rfl
  | succ k ih => show dnN (dal d k) k ((dal d k).L k) = d; rw [ih, h k]; rfl
def nD : Td := ⟨[0, 0, 0], z0L, z0F, z0Z⟩
theorem nD_dal (k : Nat) : dal nD k = nD := dal_zero (fun c => rfl) k
theorem nD_tok (C : Nat) (h1 : 1 ≤ C) (h3 : C ≤ 3) : tokB [0, 0, 0] C z0L z0F C z0Z = true := by
  refine tok_of ⟨⟨h1, h3⟩, rfl, rfl, fun j hj => ?_, fun c hc => ⟨Nat.zero_le _, fun j hj => absurd hj (by show ¬ j < 0; omega), rfl, fun j hj => ?_⟩⟩
  · rcases (show j = 0 ∨ j = 1 ∨ j = 2 by omega) with rfl | rfl | rfl <;> exact ⟨by decide, by decide⟩
  · show 0 ≤ ([0, 0] : List Int).getD j 0 ∧ ([0, 0] : List Int).getD j 0 < 10
    rcases (show j = 0 ∨ j = 1 by omega) with rfl | rfl <;> exact ⟨by decide, by decide⟩
theorem lit3 (W : World) (T : TypeId) : Sl (W.alloc (.cells #[.int .i64 0, .int .i64 0, .int .i64 0] T)) (.slice (some ⟨W.heap.size, 0, none⟩) 3 3) [0, 0, 0] := by
  refine ⟨_, 3, rfl, fun _ => ⟨W.heap.size, 0, rfl, fun j hj => ?_⟩⟩
  have hj : j < 3 := hj
  rcases (show j = 0 ∨ j = 1 ∨ j = 2 by omega) with rfl | rfl | rfl <;> exact (cell_of_row _ _ _ _ _ _ (heap_alloc_new _ _)).trans rfl
/-- the three values of a Tso -/
theorem Ta.three {w : World} {base : Nat} {mv bv rv : Value} {zs : List Int} {C n : Nat} {L : Nat → Nat} {F : Nat → Nat → Nat → Int} {R : Nat} {Z : Nat → List Int} {vb vr : Nat → Value} {tag : Nat → Nat} (h : Ta w base mv bv rv zs C L F R Z vb vr tag) (hn : zs.length = n) : ∃ xa ya xb yb xc yc, mv = .slice xa n ya ∧ bv = .slice xb C yb ∧ rv = .slice xc R yc := by
  subst hn
  exact h.forms

end Go.Proofs.Ytneofegnbflfiaa
