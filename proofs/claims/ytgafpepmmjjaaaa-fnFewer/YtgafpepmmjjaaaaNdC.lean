/- a drawn law's net, in its variable -/
import Derived.Test.YtgafpepmmjjaaaaNdB
namespace Go.Proofs.Ytgafpepmmjjaaaa
open Go.RowKit
set_option linter.unusedVariables false
set_option linter.unusedSimpArgs false

structure Lb (w V : World) (B : Nat) (N : Int) (u : Value) (n : Nat) (f : Nat → Nat → Int) : Prop where
  box : V.heap[B]? = some (.cells (nt N u) 26 (0, 0))
  sr : Sr V u 2 n f
  bl : Below w.heap.size w V
theorem Lb.next {w V V' : World} {B : Nat} {N : Int} {u : Value} {n : Nat} {f : Nat → Nat → Int} (h : Lb w V B N u n f) (hb : Below V.heap.size V V') : Lb w V' B N u n f :=
  ⟨heap_b h.box hb, h.sr.below hb, h.bl.trans (hb.mono h.bl.size)⟩
theorem Lb.drew {w V : World} {B : Nat} {N : Int} {u : Value} {n : Nat} {f : Nat → Nat → Int} (h : Lb w V B N u n f) : Lb w V.drew B N u n f := h.next ((Below.refl _ _).drew)
theorem Lb.new {w V : World} {N : Int} {u : Value} {n : Nat} {f : Nat → Nat → Int} (hs : Sr V u 2 n f) (hb : Below w.heap.size w V) : Lb w (V.alloc (.cells (nt N u) 26)) V.heap.size N u n f := by
  have hA : Below V.heap.size V (V.alloc (.cells (nt N u) 26)) := (Below.refl _ _).alloc (Nat.le_refl _) _
  exact ⟨heap_alloc_new _ _, hs.below hA, hb.trans (hA.mono hb.size)⟩

/-- a net is whole just where each node can be reached from each -/
theorem wh_all {M n : Nat} {f : Nat → Nat → Int} (hN : netB M n f = true) : whB M n f = true ↔ ∀ a b : Nat, a < M → b < M → 0 ≤ dst (jn n f) a b := by
  constructor
  · intro h a b ha hb
    cases hlt : decide (dst (jn n f) a b < 0)
    · simpa using hlt
    · have := wh_bad (N := M) (n := n) (f := f) (a := a) (b := b) (by simpa using ha) (by simpa using hb) (by simpa using hlt)
      rw [h] at this; cases this
  · intro h
    have hlo := (nt_of hN).lo
    refine (wh_yes hN (fun v hv => ?_)).symm
    have := h 0 v (by omega) (by simpa using hv)
    simpa using this
/-- over a third one it is no shorter -/
theorem dst_tri {n : Nat} {f : Nat → Nat → Int} {a b c : Int} (h1 : 0 ≤ dst (jn n f) a c) (h2 : 0 ≤ dst (jn n f) c b) : 0 ≤ dst (jn n f) a b ∧ dst (jn n f) a b ≤ dst (jn n f) a c + dst (jn n f) c b := by
  have w1 := dst_wk h1
  have w2 := dst_wk h2
  have := dst_le (w1.trans w2)
  omega
/-- a neighbour is one step away -/
theorem dst_one {N : Int} {n : Nat} {f : Nat → Nat → Int} (hn : Nt N n f) {a b : Int} (h : jn n f a b = true) : dst (jn n f) a b = 1 := by
  have h1 := dst_le (k := 1) ⟨b, h, rfl⟩
  have h2 := jn_lt hn h
  by_cases e : dst (jn n f) a b = 0
  · exact absurd (dst_zero e) h2.2.2.2.2
  · omega
theorem one_dst {n : Nat} {f : Nat → Nat → Int} {a b : Int} (h : dst (jn n f) a b = 1) : jn n f a b = true := by
  have hw := dst_wk (R := jn n f) (a := a) (b := b) (by omega)
  rw [h] at hw
  obtain ⟨c, h1, h2⟩ := hw
  cases h2
  exact h1

end Go.Proofs.Ytgafpepmmjjaaaa
