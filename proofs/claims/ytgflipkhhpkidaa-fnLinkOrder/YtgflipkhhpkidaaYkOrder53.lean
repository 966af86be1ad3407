/- LsJ -/
import Derived.Test.YtgflipkhhpkidaaYkOrder52
/- what FnLinkPieces wants: codes compared and put together, acts cut in two, plainly and in memory -/
namespace Go.Proofs.Ytgflipkhhpkidaa
open Go.RowKit
set_option linter.unusedVariables false
set_option linter.unusedSimpArgs false

theorem Xgn {w w' : World} {base m n : Nat} {v : Value} {f : Nat → Nat → Value} (h : Hid (Rg w base v m n f)) (mv : Mv nob w w') : Hid (Rg w' base v m n f) := hide (h.out.mv mv (fun _ _ h => h))
theorem Xgb {B : Nat} {w w' : World} {base m n : Nat} {v : Value} {f : Nat → Nat → Value} (h : Hid (Rg w base v m n f)) (mv : Mv (fun x => x = B) w w') (a : ∀ x, rb v = some x → x ≠ B) : Hid (Rg w' base v m n f) := hide (h.out.mv mv (fun x e h => a x e h))
theorem Rg.lower {w : World} {base base' m n : Nat} {v : Value} {f : Nat → Nat → Value} (h : Rg w base v m n f) (hb : base' ≤ base) : Rg w base' v m n f := h.base hb
/-- a row of acts, cut in two -/
theorem acts_cut {w : World} {base n cap : Nat} {a : Option Addr} {s : Nat → Ac4} (h : Rg w base (.slice a n cap) 4 n (aF s)) (k : Nat) (hk : k ≤ n) :
    ((∀ W, (Instr.slice 37 (.slice a n cap) none (some (.int .i64 (k : Int))) none).run Try.prog W = .ok (.slice a k cap) W) ∧ (0 < k → ∃ b off, a = some ⟨b, off, none⟩ ∧ ∀ j, j < k → ∀ i, i < 4 → w.cell? ⟨b, off + j * 4 + i, none⟩ = some (aF s j i))) ∧
    ∃ a' cap', (∀ W, (Instr.slice 37 (.slice a n cap) (some (.int .i64 (k : Int))) none none).run Try.prog W = .ok (.slice a' (n - k) cap') W) ∧ (0 < n - k → ∃ b off, a' = some ⟨b, off, none⟩ ∧ ∀ j, j < n - k → ∀ i, i < 4 → w.cell? ⟨b, off + j * 4 + i, none⟩ = some (aF (fun j => s (k + j)) j i)) := by
  rcases h with ⟨⟨b, e⟩, h0⟩ | ⟨g, off, c, e, h1, hp, h2, h3, ⟨cur, T, h4, h5⟩, h6⟩
  · simp only [Value.slice.injEq] at e
    obtain ⟨rfl, _, rfl⟩ := e
    have hk0 : k = 0 := by omega
    subst hk0 h0
    refine ⟨⟨fun W => ?_, fun h => absurd h (Nat.lt_irrefl _)⟩, a, 0, fun W => ?_, fun h => absurd h (Nat.lt_irrefl _)⟩
    all_goals
      cases a with
      | none => simp [go_sem, Try.underlying37, Instr.slice, Instr.sliceBounds, Instr.sliceBound, asIntOf]
      | some x => simp [go_sem, Try.underlying37, Instr.slice, Instr.sliceBounds, Instr.sliceBound, asIntOf, Addr.add]
  · simp only [Value.slice.injEq] at e
    obtain ⟨rfl, _, rfl⟩ := e
    have hcell : ∀ j, j < n → ∀ i, i < 4 → w.cell? ⟨g, off + j * 4 + i, none⟩ = some (aF s j i) := fun j hj i hi => by
      have h := h6 (j * 4 + i) (by omega)
      rw [show (j * 4 + i) / 4 = j by omega, show (j * 4 + i) % 4 = i by omega] at h
      rw [Nat.add_assoc]; exact h
    have hkc : k ≤ cap := by omega
    refine ⟨⟨fun W => by simp [go_sem, Try.underlying37, Instr.slice, Instr.sliceBounds, Instr.sliceBound, asIntOf, Addr.add, hkc], fun _ => ⟨g, off, rfl, fun j hj => hcell j (by omega)⟩⟩, (if cap = k then some ⟨g, off, none⟩ else some ⟨g, off + k * 4, none⟩), cap - k, fun W => ?_, fun h0 => ⟨g, off + k * 4, by rw [if_neg (by omega)], fun j hj i hi => ?_⟩⟩
    · have e1 : (k : Int) ≤ (n : Int) := by omega
      have e2 : (cap - k = 0) = (cap = k) := by simp; omega
      by_cases h0 : k = 0
      · subst h0
        have e3 : ¬ cap = 0 := by omega
        simp [go_sem, Try.underlying37, Instr.slice, Instr.sliceBounds, Instr.sliceBound, asIntOf, Addr.add, h1, e3]
      · obtain ⟨i0, hi, _, hz, _⟩ := info_parts infoAct
        simp [go_sem, Try.underlying37, Instr.slice, Instr.sliceBounds, Instr.sliceBound, asIntOf, Addr.add, e1, hk, h1, e2, h0, hi, hz, sizeOf, typeInfo, show ¬ k * 4 = 0 by omega]
    · have h := hcell (k + j) (by omega) i hi
      rw [Nat.add_mul, ← Nat.add_assoc off] at h
      show _ = some (aF s (k + j) i)
      cases i <;> exact h
end Go.Proofs.Ytgflipkhhpkidaa
