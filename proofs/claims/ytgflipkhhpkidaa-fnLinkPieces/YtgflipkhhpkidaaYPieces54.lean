/- LsJ -/
import Derived.Test.YtgflipkhhpkidaaYPieces53
/- what FnLinkPieces wants: codes compared and put together, acts cut in two, plainly and in memory -/
namespace Go.Proofs.Ytgflipkhhpkidaa
open Go.RowKit
set_option linter.unusedVariables false
set_option linter.unusedSimpArgs false

theorem Xgn {w w' : World} {base m n : Nat} {v : Value} {f : Nat → Nat → Value} (h : Hid (Rg w base v m n f)) (mv : Mv nob w w') : Hid (Rg w' base v m n f) := hide (h.out.mv mv (fun _ _ h => h))
theorem Xgb {B : Nat} {w w' : World} {base m n : Nat} {v : Value} {f : Nat → Nat → Value} (h : Hid (Rg w base v m n f)) (mv : Mv (fun x => x = B) w w') (a : ∀ x, rb v = some x → x ≠ B) : Hid (Rg w' base v m n f) := hide (h.out.mv mv (fun x e h => a x e h))
theorem Rg.lower {w : World} {base base' m n : Nat} {v : Value} {f : Nat → Nat → Value} (h : Rg w base v m n f) (hb : base' ≤ base) : Rg w base' v m n f := h.base hb
set_option maxHeartbeats 2000000 in
theorem sameInts_same (a b : Value) (n : Nat) (c : Nat → Int) (w : World) (ha : Sg w a 1 n (iF c)) (hb : Sg w b 1 n (iF c)) (hl : n ≤ 4194304) :
    Calls Try.prog 21 #[a, b] w fun e w' => e = .returned (.bool true) ∧ Below w.heap.size w w' := by
  obtain ⟨ad, cap, rfl, ha⟩ := ha
  obtain ⟨bd, cbp, rfl, hb⟩ := hb
  go_enter Try.func21, Try.ntmps21
  go_wp2
  go_loopw [5] (fun i wr => ∃ k : Nat, k ≤ n ∧ i = .int .i64 k ∧ Below w.heap.size w wr) (fun i _ => n - (intOf i).toNat)
  case atStart => exact ⟨0, Nat.zero_le _, rfl, Below.refl _ _⟩
  case round =>
    obtain ⟨k, hk, rfl, hbk⟩ := hrel
    by_cases hlt : k < n
    · obtain ⟨p, off, rfl, hc⟩ := ha (by omega)
      obtain ⟨q, off', rfl, hd⟩ := hb (by omega)
      have hck : wr.cell? ⟨p, off + k, none⟩ = some (.int .i64 (c k)) := by
        have := Below.keep hbk _ _ (hc k hlt 0 (by omega))
        rwa [Nat.mul_one, Nat.add_zero] at this
      have hdk : wr.cell? ⟨q, off' + k, none⟩ = some (.int .i64 (c k)) := by
        have := Below.keep hbk _ _ (hd k hlt 0 (by omega))
        rwa [Nat.mul_one, Nat.add_zero] at this
      generalize c k = z at hck hdk
      clear hc hd ha hb
      go_wp2
      go_quiet (fail)
      all_goals go_wp2
      all_goals go_roundw
      case rel => exact ⟨k + 1, by omega, by go_num, below_drewN hbk _⟩
      case measure => simp [intOf]; omega
    · go_wp2
      go_ret
      exact ⟨rfl, hbk⟩

/-- a row of acts, cut in two -/
theorem acts_cut {w : World} {base n cap : Nat} {a : Option Addr} {s : Nat → Ac4} (h : Rg w base (.slice a n cap) 4 n (aF s)) (k : Nat) (hk : k ≤ n) :
    ((∀ W, (Instr.slice 37 (.slice a n cap) none (some (.int .i64 (k : Int))) none).run Try.prog W = .ok (.slice a k cap) W) ∧ (0 < k → ∃ b off, a = some ⟨b, off, none⟩ ∧ ∀ j, j < k → ∀ i, i < 4 → w.cell? ⟨b, off + j * 4 + i, none⟩ = some (aF s j i))) ∧
    ∃ a' cap', (∀ W, (Instr.slice 37 (.slice a n cap) (some (.int .i64 (k : Int))) none none).run Try.prog W = .ok (.slice a' (n - k) cap') W) ∧ (0 < n - k → ∃ b off, a' = some ⟨b, off, none⟩ ∧ ∀ j, j < n - k → ∀ i, i < 4 → w.cell? ⟨b, off + j * 4 + i, none⟩ = some (aF (fun j => s (k + j)) j i)) := by
  rcases h with ⟨⟨b, e⟩, h0⟩ | ⟨g, off, c, e, h1, hp, h2, h3, ⟨cur, T, h4, h5⟩, h6⟩
  · simp only [Value.slice.injEq] at e
    obtain ⟨rfl, _, rfl⟩ := e
    have hk0 : k = 0 := by omega
    subst hk0 h0
    refine ⟨⟨fun W => ?_, fun h => absurd h (Nat.lt_irrefl _)⟩, a, 0, fun W => ?_, fun h => absurd h (Nat.lt_irrefl _)⟩
    all_goals
      cases a with
      | none => simp [go_sem, Try.underlying37, Instr.slice, Instr.sliceBounds, Instr.sliceBound, asIntOf]
      | some x => simp [go_sem, Try.underlying37, Instr.slice, Instr.sliceBounds, Instr.sliceBound, asIntOf, Addr.add]
  · simp only [Value.slice.injEq] at e
    obtain ⟨rfl, _, rfl⟩ := e
    have hcell : ∀ j, j < n → ∀ i, i < 4 → w.cell? ⟨g, off + j * 4 + i, none⟩ = some (aF s j i) := fun j hj i hi => by
      have h := h6 (j * 4 + i) (by omega)
      rw [show (j * 4 + i) / 4 = j by omega, show (j * 4 + i) % 4 = i by omega] at h
      rw [Nat.add_assoc]; exact h
    have hkc : k ≤ cap := by omega
    refine ⟨⟨fun W => by simp [go_sem, Try.underlying37, Instr.slice, Instr.sliceBounds, Instr.sliceBound, asIntOf, Addr.add, hkc], fun _ => ⟨g, off, rfl, fun j hj => hcell j (by omega)⟩⟩, (if cap = k then some ⟨g, off, none⟩ else some ⟨g, off + k * 4, none⟩), cap - k, fun W => ?_, fun h0 => ⟨g, off + k * 4, by rw [if_neg (by omega)], fun j hj i hi => ?_⟩⟩
    · have e1 : (k : Int) ≤ (n : Int) := by omega
      have e2 : (cap - k = 0) = (cap = k) := by simp; omega
      by_cases h0 : k = 0
      · subst h0
        have e3 : ¬ cap = 0 := by omega
        simp [go_sem, Try.underlying37, Instr.slice, Instr.sliceBounds, Instr.sliceBound, asIntOf, Addr.add, h1, e3]
      · obtain ⟨i0, hi, _, hz, _⟩ := info_parts infoAct
        simp [go_sem, Try.underlying37, Instr.slice, Instr.sliceBounds, Instr.sliceBound, asIntOf, Addr.add, e1, hk, h1, e2, h0, hi, hz, sizeOf, typeInfo, show ¬ k * 4 = 0 by omega]
    · have h := hcell (k + j) (by omega) i hi
      rw [Nat.add_mul, ← Nat.add_assoc off] at h
      show _ = some (aF s (k + j) i)
      cases i <;> exact h
theorem cut_tail {w : World} {base n cap : Nat} {a : Option Addr} {s : Nat → Ac4} (h : Rg w base (.slice a n cap) 4 n (aF s)) (k : Nat) (hk : k ≤ n) {ta : Option Addr} {tc : Nat} (e : ∀ W, (Instr.slice 37 (.slice a n cap) (some (.int .i64 (k : Int))) none none).run Try.prog W = .ok (.slice ta (n - k) tc) W) :
    0 < n - k → ∃ b off, ta = some ⟨b, off, none⟩ ∧ ∀ j, j < n - k → ∀ i, i < 4 → w.cell? ⟨b, off + j * 4 + i, none⟩ = some (aF (fun j => s (k + j)) j i) := by
  obtain ⟨_, a', c', h1, h2⟩ := acts_cut h k hk
  have q := (h1 w).symm.trans (e w)
  simp only [Result.ok.injEq, Value.slice.injEq, true_and, and_true] at q
  obtain ⟨rfl, rfl⟩ := q
  exact h2
theorem mv_nil {w w' : World} {a : Option Addr} {n : Nat} (h : w.grownBy w' (rb (.slice a n 0))) : Mv nob w w' := by
  rw [rb_zero] at h
  exact ⟨h.os, h.tape, h.output, h.size, fun j hj _ => h.block j hj (fun e => by cases e)⟩
theorem pl_add (s : Nat → Ac4) (p : Lk) (k : Nat) : ∀ j, plN (fun j => s (k + j)) j (plN s k p) = plN s (k + j) p
  | 0 => rfl
  | j + 1 => by
    show ldL (plN (fun j => s (k + j)) j (plN s k p)) _ _ _ _ = ldL (plN s (k + j) p) _ _ _ _
    rw [pl_add s p k j]
    rfl
theorem pc_add (s : Nat → Ac4) (p : Lk) (k j : Nat) : pcN (fun j => s (k + j)) (plN s k p) j = pcN s p (k + j) := by
  unfold pcN
  rw [pl_add]
/-- two rows of codes in one -/
theorem codes_two (s : Nat → Ac4) (p : Lk) (k n : Nat) (hk : k ≤ n) (j : Nat) (hj : j < n) : (if j < k then pcN s p j else pcN (fun j => s (k + j)) (plN s k p) (j - k)) = pcN s p j := by
  by_cases h : j < k
  · rw [if_pos h]
  · rw [if_neg h, pc_add, show k + (j - k) = j by omega]
/-- numbers appended -/
theorem app_ints (W : World) (base : Nat) (v : Value) (n : Nat) (c : Nat → Int) (ua : Option Addr) (m uc : Nat) (d : Nat → Int) (ty : TypeId) (hr : Rg W base v 1 n (iF c)) (hu : Sg W (.slice ua m uc) 1 m (iF d)) (hn : n ≤ 1048576) (hm : m ≤ 1048576) (hb : base ≤ W.heap.size) :
    ∃ va vk w', (Builtin.append_ #[43, 43] ty #[v, .slice ua m uc]).run Try.prog W = .ok (.slice va (n + m) vk) w' ∧ W.grownBy w' (rb v) ∧ Rg w' base (.slice va (n + m) vk) 1 (n + m) (iF (fun j => if j < n then c j else d (j - n))) ∧ (∀ x, rb (.slice va (n + m) vk) = some x → rb v = some x ∨ W.heap.size ≤ x) := by
  obtain ⟨i0, hi, hz0, hz1, hz2⟩ := info_parts infoI64
  by_cases h0 : m = 0
  · subst h0
    obtain ⟨va, vk, rfl, _⟩ := hr.form
    obtain ⟨ua2, uc2, e, _⟩ := hu
    simp only [Value.slice.injEq] at e
    obtain ⟨rfl, _, rfl⟩ := e
    have hnk : n ≤ vk := by
      rcases hr with ⟨⟨_, e⟩, h⟩ | ⟨g, off, k, e, h1, _⟩
      · omega
      · simp only [Value.slice.injEq] at e; omega
    refine ⟨va, vk, W, append_zero W _ _ _ i0 Try.underlying43 hi va ua n vk uc hnk, ⟨rfl, rfl, rfl, Nat.le_refl _, fun _ _ _ => rfl⟩, hr.congr (by decide) (fun j hj i hi => by show Value.int .i64 (c j) = Value.int .i64 (if j < n then c j else d (j - n)); rw [if_pos (show j < n by omega)]), fun x h => .inl h⟩
  · obtain ⟨ua2, uc2, e, hc⟩ := hu
    simp only [Value.slice.injEq] at e
    obtain ⟨rfl, _, rfl⟩ := e
    obtain ⟨b, off, rfl, hcc⟩ := hc (by omega)
    clear hc
    obtain ⟨g, o2, k, w', h1, h2, h3, h4, _⟩ := append_rg W base v 1 n m 8 (iF c) 43 ty 2 i0 (.int .i64 0) Try.underlying43 hi hz0 hz1 hz2 rfl (by decide) ⟨b, off, none⟩ uc ((List.range m).map (fun j => Value.int .i64 (d j))) (by simp) (fun j u hu => by
      have hj : j < m := by have := (List.getElem?_eq_some_iff.1 hu).1; simpa using this
      have hq := hcc j hj 0 (by decide)
      rw [addr_add]
      rw [List.getElem?_map, List.getElem?_range hj] at hu
      simp at hu
      subst hu
      simpa [iF] using hq) (fun u hu => by simp at hu; obtain ⟨_, _, rfl⟩ := hu; rfl) (by omega) hr (by unfold maxLen; omega) (by omega) hb
    refine ⟨_, k, w', h1, h2, h3.congr (by decide) (fun j hj i hi => ?_), fun x h => ?_⟩
    · have e2 : i = 0 := by omega
      subst e2
      by_cases hl : j < n
      · simp [snG, iF, hl]
      · simp [snG, iF, hl, show j - n < m by omega]
    · have e := rb_blk h
      subst e
      exact h4
end Go.Proofs.Ytgflipkhhpkidaa
