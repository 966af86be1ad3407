/- pairs: marked, their marks found; what a change of some blocks leaves -/
import Derived.Test.YtplnfddleaoimaaPrB
import Derived.Test.YtplnfddleaoimaaFM
namespace Go.Proofs.Ytplnfddleaoimaa
open Go.RowKit
set_option linter.unusedVariables false
set_option linter.unusedSimpArgs false

/-- a change in no block but those from lo on, below hi -/
structure Ci (lo hi : Nat) (w w' : World) : Prop where
  os : w'.os = w.os
  tape : w'.tape = w.tape
  output : w'.output = w.output
  size : w.heap.size ≤ w'.heap.size
  block : ∀ j, j < w.heap.size → (j < lo ∨ hi ≤ j) → w'.heap[j]? = w.heap[j]?
theorem Ci.refl (lo hi : Nat) (w : World) : Ci lo hi w w := ⟨rfl, rfl, rfl, Nat.le_refl _, fun _ _ _ => rfl⟩
theorem Ci.trans {lo hi : Nat} {w w1 w2 : World} (h : Ci lo hi w w1) (k : Ci lo hi w1 w2) : Ci lo hi w w2 := ⟨k.os.trans h.os, k.tape.trans h.tape, k.output.trans h.output, Nat.le_trans h.size k.size, fun j hj hs => (k.block j (Nat.lt_of_lt_of_le hj h.size) hs).trans (h.block j hj hs)⟩
theorem Ci.ofBelow {lo hi : Nat} {w w' : World} (hb : Below w.heap.size w w') : Ci lo hi w w' := ⟨hb.os, hb.tape, hb.output, hb.size, fun j hj _ => hb.block j hj⟩
theorem Ci.ofGrown {lo hi : Nat} {w w' : World} {r : Option Nat} (hg : w.grownBy w' r) (hr : ∀ k, r = some k → lo ≤ k ∧ k < hi) : Ci lo hi w w' := ⟨hg.os, hg.tape, hg.output, hg.size, fun j hj hs => hg.block j hj (fun e => by have := hr j e.symm; omega)⟩
theorem Ci.below {lo hi : Nat} {B : Nat} {w w1 w2 : World} (h : Below B w w1) (k : Ci lo hi w1 w2) (hB : B ≤ lo) (hs : B ≤ w1.heap.size) : Below B w w2 := ⟨k.os.trans h.os, k.tape.trans h.tape, k.output.trans h.output, Nat.le_trans h.size k.size, fun j hj => (k.block j (by omega) (.inl (by omega))).trans (h.block j hj)⟩
theorem Ci.cell {lo hi : Nat} {w w1 : World} (h : Ci lo hi w w1) {g i : Nat} {v : Value} (hS : g < lo ∨ hi ≤ g) (hc : w.cell? ⟨g, i, none⟩ = some v) : w1.cell? ⟨g, i, none⟩ = some v := by
  have hlt : g < w.heap.size := World.block_lt_of_cell? w _ hc
  have hb := h.block g hlt hS
  simp only [World.cell?] at hc ⊢
  rw [hb]; exact hc
theorem Ci.b4 {lo hi : Nat} {w w1 : World} (h : Ci lo hi w w1) {B : Nat} {v0 v1 v2 v3 : Value} (hS : B < lo ∨ hi ≤ B) (hc : B4 w B v0 v1 v2 v3) : B4 w1 B v0 v1 v2 v3 := ⟨h.cell hS hc.1, h.cell hS hc.2.1, h.cell hS hc.2.2.1, h.cell hS hc.2.2.2⟩
theorem Ow.ci {lo hi : Nat} {w w1 : World} {base : Nat} {v : Value} {zs : List Int} (h : Ow w base v zs) (k : Ci lo hi w w1) (hS : ∀ g, v.ownBlock = some g → g < lo ∨ hi ≤ g) : Ow w1 base v zs := by
  have hlt := h.lt
  obtain ⟨h1, h2⟩ := h
  refine ⟨h1, ?_⟩
  rcases h2 with h2 | ⟨g', cap', cur, e, hb, hg, r⟩
  · exact .inl h2
  · refine .inr ⟨g', cap', cur, e, hb, ?_, r⟩
    have ho : v.ownBlock = some g' := by rw [e]; rfl
    rw [k.block g' (hlt g' ho).2 (hS g' ho)]
    exact hg
theorem Pw.ci {lo hi a b : Nat} {w w1 : World} {L R : Value} {zl zr : List Int} (h : Pw w a b L R zl zr) (k : Ci lo hi w w1) (hS : b ≤ lo ∨ hi ≤ a) : Pw w1 a b L R zl zr :=
  ⟨h.l.ci k (fun g hg => by have := h.l.lt g hg; have := h.lh g hg; omega), h.r.ci k (fun g hg => by have := h.r.lt g hg; have := h.rh g hg; omega), h.ne, h.lh, h.rh⟩

/-- an answer: two lists, two flags, and whether -/
structure PA where
  zl : List Int
  zr : List Int
  lu : Bool
  ru : Bool
  ok : Bool
def PA.no : PA := ⟨[], [], false, false, false⟩
def Post (w : World) (a : PA) (e : Ending) (w' : World) : Prop := ∃ ad ac bd bc, e = .returned (.tuple #[.agg (pq (.slice ad a.zl.length ac) (.slice bd a.zr.length bc) a.lu a.ru), .bool a.ok]) ∧ Pw w' w.heap.size w'.heap.size (.slice ad a.zl.length ac) (.slice bd a.zr.length bc) a.zl a.zr ∧ Below w.heap.size w w'
theorem Ow.nil (w : World) (lo : Nat) : Ow w lo nilS [] := ⟨by simp, .inl ⟨rfl, rfl⟩⟩
theorem Pw.nil (w : World) (lo hi : Nat) : Pw w lo hi nilS nilS [] [] := ⟨Ow.nil _ _, Ow.nil _ _, (fun k h => nomatch h), (fun k h => nomatch h), (fun k h => nomatch h)⟩
theorem Post.no {w w' : World} (hb : Below w.heap.size w w') : Post w PA.no (.returned (.tuple #[.agg (pq nilS nilS false false), .bool false])) w' := ⟨none, 0, none, 0, rfl, Pw.nil _ _ _, hb⟩

end Go.Proofs.Ytplnfddleaoimaa
