/- what a change elsewhere leaves of a Tso of one's own; a box of three -/
import Derived.Test.YtnodnclpeldpdaaTnB
namespace Go.Proofs.Ytnodnclpeldpdaa
open Go.RowKit
set_option linter.unusedVariables false
set_option linter.unusedSimpArgs false

theorem Ta.off {S : Nat → Prop} {w w' : World} {base : Nat} {mv bv rv : Value} {zs : List Int} {C : Nat} {L : Nat → Nat} {F : Nat → Nat → Nat → Int} {R : Nat} {Z : Nat → List Int} {vb vr : Nat → Value} {tag : Nat → Nat} (h : Ta w base mv bv rv zs C L F R Z vb vr tag) (hc : Chg S w w') (hS : ∀ b, S b → b < base ∨ tag b = 100000) (hC : C ≤ 40) (hR : R ≤ 40) : Ta w' base mv bv rv zs C L F R Z vb vr tag := by
  have no : ∀ {b t : Nat}, t < 100000 → base ≤ b → tag b = t → ¬ S b := fun {b t} ht h1 h2 s => by rcases hS b s with q | q <;> omega
  have hl : ∀ {v : Value} {zs : List Int} {t : Nat}, t < 100000 → Sl w v zs → Bk w base v zs.length tag t → Sl w' v zs := fun {v zs t} ht hs hb => by
    obtain ⟨ad, cap, rfl, hs⟩ := hs
    refine ⟨ad, cap, rfl, fun hp => ?_⟩
    obtain ⟨b, off, rfl, hcc⟩ := hs hp
    obtain ⟨h1, hw, h3⟩ := hb b off _ cap rfl hp
    exact ⟨b, off, rfl, fun j hj => hc.cell (no ht h1 h3) (hcc j hj)⟩
  have hv : ∀ {v : Value} {n : Nat} {f : Nat → Value} {t : Nat}, t < 100000 → Svs w v n f → Bk w base v n tag t → Svs w' v n f := fun {v n f t} ht hs hb => by
    obtain ⟨ad, cap, rfl, hs⟩ := hs
    refine ⟨ad, cap, rfl, fun hp => ?_⟩
    obtain ⟨b, off, rfl, hcc⟩ := hs hp
    obtain ⟨h1, hw, h3⟩ := hb b off _ cap rfl hp
    exact ⟨b, off, rfl, fun j hj => hc.cell (no ht h1 h3) (hcc j hj)⟩
  refine ⟨hl (by omega) h.ms h.mb, h.mb.chg hc, hv (by omega) h.bs h.bb, h.bb.chg hc, hv (by omega) h.rs h.rb, h.rb.chg hc, fun c hcc => ?_, fun c hcc => (h.bI c hcc).chg hc, fun c hcc => hl (by omega) (h.ri c hcc) (h.rI c hcc), fun c hcc => (h.rI c hcc).chg hc⟩
  obtain ⟨ad, cap, e, hs⟩ := h.bi c hcc
  refine ⟨ad, cap, e, fun hp => ?_⟩
  obtain ⟨b, off, e2, hd⟩ := hs hp
  obtain ⟨h1, hw, h3⟩ := h.bI c hcc b off _ cap (by rw [e, e2]) (by omega)
  exact ⟨b, off, e2, fun j hj i hi => hc.cell (no (by omega) h1 h3) (hd j hj i hi)⟩

def B3 (w : World) (B : Nat) (a b c : Value) : Prop := w.cell? ⟨B, 0, none⟩ = some a ∧ w.cell? ⟨B, 1, none⟩ = some b ∧ w.cell? ⟨B, 2, none⟩ = some c
theorem B3.below {w w' : World} {B : Nat} {a b c : Value} (h : B3 w B a b c) (hb : Below w.heap.size w w') : B3 w' B a b c := ⟨keepc hb h.1, keepc hb h.2.1, keepc hb h.2.2⟩
theorem B3.chg {S : Nat → Prop} {w w' : World} {B : Nat} {a b c : Value} (h : B3 w B a b c) (hc : Chg S w w') (hS : ¬ S B) : B3 w' B a b c := ⟨hc.cell hS h.1, hc.cell hS h.2.1, hc.cell hS h.2.2⟩
/-- a tag that says nothing of what comes behind -/
theorem Ta.tagOff {w : World} {base : Nat} {mv bv rv : Value} {zs : List Int} {C : Nat} {L : Nat → Nat} {F : Nat → Nat → Nat → Int} {R : Nat} {Z : Nat → List Int} {vb vr : Nat → Value} {tag : Nat → Nat} (h : Ta w base mv bv rv zs C L F R Z vb vr tag) : ∃ tag', Ta w base mv bv rv zs C L F R Z vb vr tag' ∧ ∀ g, w.heap.size ≤ g → tag' g = 100000 :=
  ⟨fun g => if g < w.heap.size then tag g else 100000, Ta.retag h (fun g hg => if_pos hg), fun g hg => if_neg (by omega)⟩
theorem Ta.forms {w : World} {base : Nat} {mv bv rv : Value} {zs : List Int} {C : Nat} {L : Nat → Nat} {F : Nat → Nat → Nat → Int} {R : Nat} {Z : Nat → List Int} {vb vr : Nat → Value} {tag : Nat → Nat} (h : Ta w base mv bv rv zs C L F R Z vb vr tag) : ∃ xa ya xb yb xc yc, mv = .slice xa zs.length ya ∧ bv = .slice xb C yb ∧ rv = .slice xc R yc := by
  obtain ⟨xa, ya, e1, _⟩ := h.ms
  obtain ⟨xb, yb, e2, _⟩ := h.bs
  obtain ⟨xc, yc, e3, _⟩ := h.rs
  exact ⟨xa, ya, xb, yb, xc, yc, e1, e2, e3⟩
theorem new_both (n : Int) : ∃ (zs : List Int) (C : Nat) (ok : Bool), zs.length ≤ 3 ∧ C ≤ 3 ∧ (∀ w, Calls Try.prog 12 #[.int .i64 n] w (NPost w zs C ok)) ∧ (∀ w, Calls Try.prog 11 #[.int .i64 n] w (NPost w zs C ok)) := by
  by_cases h : 1 ≤ n ∧ n ≤ 3
  · obtain ⟨C, rfl⟩ : ∃ C : Nat, n = C := ⟨n.toNat, by omega⟩
    exact ⟨[0, 0, 0], C, true, by decide, by omega, fun w => implNewT_yes C (by omega) (by omega) w, fun w => specNewT_yes C (by omega) (by omega) w⟩
  · exact ⟨[], 0, false, by decide, by omega, fun w => implNewT_no n h w, fun w => specNewT_no n h w⟩
theorem zz_tl {zs : List Int} {C : Nat} (h1 : zs.length ≤ 3) (h2 : C ≤ 3) : Tl zs C z0L C z0Z := ⟨by omega, ⟨by omega, fun c _ => Nat.zero_le _⟩, ⟨by omega, fun c _ => by show 2 ≤ 1048576; decide⟩⟩

end Go.Proofs.Ytnodnclpeldpdaa
