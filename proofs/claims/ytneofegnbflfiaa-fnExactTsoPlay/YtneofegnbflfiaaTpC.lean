/- what a change elsewhere leaves of a Tso of one's own; a box of three -/
import Derived.Test.YtneofegnbflfiaaTpB
namespace Go.Proofs.Ytneofegnbflfiaa
open Go.RowKit
set_option linter.unusedVariables false
set_option linter.unusedSimpArgs false

def B3 (w : World) (B : Nat) (a b c : Value) : Prop := w.cell? ⟨B, 0, none⟩ = some a ∧ w.cell? ⟨B, 1, none⟩ = some b ∧ w.cell? ⟨B, 2, none⟩ = some c
theorem B3.below {w w' : World} {B : Nat} {a b c : Value} (h : B3 w B a b c) (hb : Below w.heap.size w w') : B3 w' B a b c := ⟨keepc hb h.1, keepc hb h.2.1, keepc hb h.2.2⟩
theorem B3.chg {S : Nat → Prop} {w w' : World} {B : Nat} {a b c : Value} (h : B3 w B a b c) (hc : Chg S w w') (hS : ¬ S B) : B3 w' B a b c := ⟨hc.cell hS h.1, hc.cell hS h.2.1, hc.cell hS h.2.2⟩
/-- a tag that says nothing of what comes behind -/
theorem Ta.tagOff {w : World} {base : Nat} {mv bv rv : Value} {zs : List Int} {C : Nat} {L : Nat → Nat} {F : Nat → Nat → Nat → Int} {R : Nat} {Z : Nat → List Int} {vb vr : Nat → Value} {tag : Nat → Nat} (h : Ta w base mv bv rv zs C L F R Z vb vr tag) : ∃ tag', Ta w base mv bv rv zs C L F R Z vb vr tag' ∧ ∀ g, w.heap.size ≤ g → tag' g = 100000 :=
  ⟨fun g => if g < w.heap.size then tag g else 100000, Ta.retag h (fun g hg => if_pos hg), fun g hg => if_neg (by omega)⟩
theorem Ta.forms {w : World} {base : Nat} {mv bv rv : Value} {zs : List Int} {C : Nat} {L : Nat → Nat} {F : Nat → Nat → Nat → Int} {R : Nat} {Z : Nat → List Int} {vb vr : Nat → Value} {tag : Nat → Nat} (h : Ta w base mv bv rv zs C L F R Z vb vr tag) : ∃ xa ya xb yb xc yc, mv = .slice xa zs.length ya ∧ bv = .slice xb C yb ∧ rv = .slice xc R yc := by
  obtain ⟨xa, ya, e1, _⟩ := h.ms
  obtain ⟨xb, yb, e2, _⟩ := h.bs
  obtain ⟨xc, yc, e3, _⟩ := h.rs
  exact ⟨xa, ya, xb, yb, xc, yc, e1, e2, e3⟩
theorem new_both (n : Int) : ∃ (zs : List Int) (C : Nat) (ok : Bool), zs.length ≤ 3 ∧ C ≤ 3 ∧ (∀ w, Calls Try.prog 43 #[.int .i64 n] w (NPost w zs C ok)) ∧ (∀ w, Calls Try.prog 44 #[.int .i64 n] w (NPost w zs C ok)) := by
  by_cases h : 1 ≤ n ∧ n ≤ 3
  · obtain ⟨C, rfl⟩ : ∃ C : Nat, n = C := ⟨n.toNat, by omega⟩
    exact ⟨[0, 0, 0], C, true, by decide, by omega, fun w => implNewT_yes C (by omega) (by omega) w, fun w => specNewT_yes C (by omega) (by omega) w⟩
  · exact ⟨[], 0, false, by decide, by omega, fun w => implNewT_no n h w, fun w => specNewT_no n h w⟩
theorem zz_tl {zs : List Int} {C : Nat} (h1 : zs.length ≤ 3) (h2 : C ≤ 3) : Tl zs C z0L C z0Z := ⟨by omega, ⟨by omega, fun c _ => Nat.zero_le _⟩, ⟨by omega, fun c _ => by show 2 ≤ 1048576; decide⟩⟩

end Go.Proofs.Ytneofegnbflfiaa
