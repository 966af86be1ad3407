/- LsK -/
import Derived.Test.YtgflipkhhpkidaaYnkCalm48
import Derived.Test.YtgflipkhhpkidaaYnkCalm49
import Derived.Test.YtgflipkhhpkidaaYnkCalm53
/- texts appended; what FnLinkCalm wants besides (written by mkLsC2.py) -/
namespace Go.Proofs.Ytgflipkhhpkidaa
open Go.RowKit
set_option linter.unusedVariables false
set_option linter.unusedSimpArgs false

theorem Xgn {w w' : World} {base m n : Nat} {v : Value} {f : Nat → Nat → Value} (h : Hid (Rg w base v m n f)) (mv : Mv nob w w') : Hid (Rg w' base v m n f) := hide (h.out.mv mv (fun _ _ h => h))
theorem Xgb {B : Nat} {w w' : World} {base m n : Nat} {v : Value} {f : Nat → Nat → Value} (h : Hid (Rg w base v m n f)) (mv : Mv (fun x => x = B) w w') (a : ∀ x, rb v = some x → x ≠ B) : Hid (Rg w' base v m n f) := hide (h.out.mv mv (fun x e h => a x e h))
theorem mv_nil {w w' : World} {a : Option Addr} {n : Nat} (h : w.grownBy w' (rb (.slice a n 0))) : Mv nob w w' := by
  rw [rb_zero] at h
  exact ⟨h.os, h.tape, h.output, h.size, fun j hj _ => h.block j hj (fun e => by cases e)⟩
/-- texts appended -/
theorem app_texts2 (W : World) (base : Nat) (v : Value) (n : Nat) (c : Nat → ByteArray) (ua : Option Addr) (m uc : Nat) (d : Nat → ByteArray) (ty : TypeId) (hr : Rg W base v 1 n (tF c)) (hu : Sg W (.slice ua m uc) 1 m (tF d)) (hn : n ≤ 1048576) (hm : m ≤ 1048576) (hb : base ≤ W.heap.size) :
    ∃ va vk w', (Builtin.append_ #[24, 24] ty #[v, .slice ua m uc]).run Try.prog W = .ok (.slice va (n + m) vk) w' ∧ W.grownBy w' (rb v) ∧ Rg w' base (.slice va (n + m) vk) 1 (n + m) (tF (fun j => if j < n then c j else d (j - n))) ∧ (∀ x, rb (.slice va (n + m) vk) = some x → rb v = some x ∨ W.heap.size ≤ x) := by
  obtain ⟨i0, hi, hz0, hz1, hz2⟩ := info_parts infoStr
  by_cases h0 : m = 0
  · subst h0
    obtain ⟨va, vk, rfl, _⟩ := hr.form
    obtain ⟨ua2, uc2, e, _⟩ := hu
    simp only [Value.slice.injEq] at e
    obtain ⟨rfl, _, rfl⟩ := e
    have hnk : n ≤ vk := by
      rcases hr with ⟨⟨_, e⟩, h⟩ | ⟨g, off, k, e, h1, _⟩
      · omega
      · simp only [Value.slice.injEq] at e; omega
    refine ⟨va, vk, W, append_zero W _ _ _ i0 Try.underlying24 hi va ua n vk uc hnk, ⟨rfl, rfl, rfl, Nat.le_refl _, fun _ _ _ => rfl⟩, hr.congr (by decide) (fun j hj i hi => by show Value.string (c j) = Value.string (if j < n then c j else d (j - n)); rw [if_pos (show j < n by omega)]), fun x h => .inl h⟩
  · obtain ⟨ua2, uc2, e, hc⟩ := hu
    simp only [Value.slice.injEq] at e
    obtain ⟨rfl, _, rfl⟩ := e
    obtain ⟨b, off, rfl, hcc⟩ := hc (by omega)
    clear hc
    obtain ⟨g, o2, k, w', h1, h2, h3, h4, _⟩ := append_rg W base v 1 n m 16 (tF c) 24 ty 9 i0 (.string ⟨#[]⟩) Try.underlying24 hi hz0 hz1 hz2 rfl (by decide) ⟨b, off, none⟩ uc ((List.range m).map (fun j => Value.string (d j))) (by simp) (fun j u hu => by
      have hj : j < m := by have := (List.getElem?_eq_some_iff.1 hu).1; simpa using this
      have hq := hcc j hj 0 (by decide)
      rw [addr_add]
      rw [List.getElem?_map, List.getElem?_range hj] at hu
      simp at hu
      subst hu
      simpa using hq) (fun u hu => by simp at hu; obtain ⟨_, _, rfl⟩ := hu; rfl) (by omega) hr (by unfold maxLen; omega) (by omega) hb
    refine ⟨_, k, w', h1, h2, h3.congr (by decide) (fun j hj i hi => ?_), fun x h => ?_⟩
    · have e2 : i = 0 := by omega
      subst e2
      by_cases hl : j < n
      · simp [snG, hl]
      · simp [snG, hl, show j - n < m by omega]
    · have e := rb_blk h
      subst e
      exact h4
end Go.Proofs.Ytgflipkhhpkidaa
