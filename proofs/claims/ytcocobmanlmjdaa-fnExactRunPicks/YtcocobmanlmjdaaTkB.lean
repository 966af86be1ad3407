/- slices.Clone of numbers, of stores -/
import Derived.Test.YtcocobmanlmjdaaTkA
namespace Go.Proofs.Ytcocobmanlmjdaa
open Go.RowKit
set_option linter.unusedVariables false
set_option linter.unusedSimpArgs false

theorem infoI : (Try.prog.info? 2).map (fun i => (i.zero, i.size, i.bytes)) = some (some (.int .i64 0), 1, 8) := by kernel_rfl
theorem infoS : (Try.prog.info? 103).map (fun i => (i.zero, i.size, i.bytes)) = some (some (.agg #[.int .i64 0, .int .i64 0]), 2, 16) := by kernel_rfl
theorem nilI_yes (c : Nat) (W : World) : (binOp BinOp.eql 33 (.slice none 0 c) (.slice none 0 0)).run Try.prog W = .ok (.bool true) W := by kernel_rfl
theorem nilI_no (a : Addr) (n c : Nat) (W : World) : (binOp BinOp.eql 33 (.slice (some a) n c) (.slice none 0 0)).run Try.prog W = .ok (.bool false) W := by kernel_rfl
theorem nilS_yes (c : Nat) (W : World) : (binOp BinOp.eql 90 (.slice none 0 c) (.slice none 0 0)).run Try.prog W = .ok (.bool true) W := by kernel_rfl
theorem nilS_no (a : Addr) (n c : Nat) (W : World) : (binOp BinOp.eql 90 (.slice (some a) n c) (.slice none 0 0)).run Try.prog W = .ok (.bool false) W := by kernel_rfl
theorem empty_own (w : World) (T : TypeId) (m : Nat) : (w.alloc (.cells #[] T)).ownsRow w.heap.size T m (.slice (some ⟨w.heap.size, 0, none⟩) 0 0) 0 [] :=
  ⟨by simp, .inr ⟨w.heap.size, 0, #[], rfl, Nat.le_refl _, heap_alloc_new _ _, Nat.le_refl _, by unfold maxLen; omega, by simp, by simp⟩⟩
theorem nil_own (w : World) (base : Nat) (T : TypeId) (m : Nat) : w.ownsRow base T m (.slice none 0 0) 0 [] := ⟨by simp, .inl ⟨rfl, rfl⟩⟩
theorem addr_at (b o n : Nat) : (⟨b, o, none⟩ : Addr).add n = ⟨b, o + n, none⟩ := by
  by_cases h : n = 0 <;> simp [Addr.add, h]
/-- the cells of a slice of numbers -/
theorem Sl.news {w : World} {a : Addr} {c : Nat} {zs : List Int} (h : Sl w (.slice (some a) zs.length c) zs) : ∀ j u, (zs.map (Value.int .i64))[j]? = some u → w.cell? (a.add j) = some u := by
  intro j u hu
  have hj : j < zs.length := by
    by_cases hj : j < zs.length
    · exact hj
    · rw [List.getElem?_eq_none (by simp; omega)] at hu; cases hu
  obtain ⟨ad, cap, e, hc⟩ := h
  obtain ⟨b, off, e2, hc⟩ := hc (by omega)
  simp only [Value.slice.injEq] at e
  obtain ⟨e1, _, _⟩ := e
  rw [e2] at e1
  simp only [Option.some.injEq] at e1
  subst e1
  rw [addr_at, hc j hj]
  rw [List.getElem?_map, List.getElem?_eq_getElem hj] at hu
  simp at hu
  rw [← hu]
  simp [hj]
theorem Sr.news {w : World} {a : Addr} {c n : Nat} {f : Nat → Nat → Int} (h : Sr w (.slice (some a) n c) 2 n f) : ∀ j u, (rowC 2 n n f)[j]? = some u → w.cell? (a.add j) = some u := by
  intro j u hu
  have hj : j < n * 2 := by
    by_cases hj : j < n * 2
    · exact hj
    · rw [rowC_none hj] at hu; cases hu
  obtain ⟨ad, cap, e, hc⟩ := h
  obtain ⟨b, off, e2, hc⟩ := hc (by omega)
  simp only [Value.slice.injEq] at e
  obtain ⟨e1, _, _⟩ := e
  rw [e2] at e1
  simp only [Option.some.injEq] at e1
  subst e1
  rw [rowC_get hj, if_pos (by omega)] at hu
  rw [addr_at]
  have := hc (j / 2) (by omega) (j % 2) (by omega)
  rw [← hu, ← this]
  congr 2
  omega
theorem rowC_one {m n k : Nat} {f : Nat → Nat → Int} : ∀ u ∈ rowC m n k f, u.oneCell' = true := by
  intro u hu
  simp only [rowC, List.mem_map] at hu
  obtain ⟨x, _, rfl⟩ := hu
  rfl
theorem ints_one {zs : List Int} : ∀ u ∈ zs.map (Value.int .i64), u.oneCell' = true := by
  intro u hu
  simp only [List.mem_map] at hu
  obtain ⟨x, _, rfl⟩ := hu
  rfl

set_option maxHeartbeats 1000000 in
theorem cloneI_any (v : Value) (zs : List Int) (w : World) (h : Sl w v zs) (hl : zs.length ≤ 1000) :
    Calls Try.prog 75 #[v] w fun e w' => ∃ v', e = .returned v' ∧ Ow w' w.heap.size v' zs ∧ Below w.heap.size w w' := by
  obtain ⟨i0, hi, hz0, hz1, hz2⟩ := info_parts infoI
  have HS := hide h
  obtain ⟨ad, cap, rfl, hc⟩ := h
  cases ad with
  | none =>
    have h0 : zs.length = 0 := by
      by_cases hp : 0 < zs.length
      · obtain ⟨b, off, e, _⟩ := hc hp; cases e
      · omega
    have hz : zs = [] := List.eq_nil_of_length_eq_zero h0
    subst hz
    have hq := nilI_yes cap
    clear hc HS h0
    go_enter Try.func75, Try.ntmps75
    go_wp2
    go_ret
    exact ⟨_, rfl, nil_own _ _ _ _, Below.refl _ _⟩
  | some a =>
    have hq := nilI_no a zs.length cap
    have hB : Below w.heap.size w (w.alloc (.cells #[] 2)) := (Below.refl _ _).alloc (Nat.le_refl _) _
    clear hc
    go_enter Try.func75, Try.ntmps75
    go_wp2_with (at_builtin; refine wpList_append_own_at _ rfl _ _ 33 rfl w.heap.size 2 i0 _ 1 8 Try.underlying33 hi hz0 hz1 hz2 rfl (by omega) _ 0 [] rfl (empty_own w 2 1) a zs.length cap (zs.map (Value.int .i64)) rfl (by simp) (HS.out.below hB).news ints_one (by unfold maxLen; omega) (by omega) (by simp) ?_)
    intro v' w1 hown hgrow _ hat
    have HF : Hid (Ow w1 w.heap.size v' zs ∧ Below w.heap.size w w1) := hide ⟨by unfold Ow; simpa using hown, hB.grown hgrow (by simp) (fun k hk => by simp [Value.ownBlock] at hk; omega)⟩
    clear hown hgrow hat hB HS
    go_wp2
    go_ret
    exact ⟨_, rfl, HF.out.1, HF.out.2⟩

set_option maxHeartbeats 1000000 in
theorem cloneS_any (v : Value) (n : Nat) (f : Nat → Nat → Int) (w : World) (h : Sr w v 2 n f) (hl : n ≤ 1000) :
    Calls Try.prog 76 #[v] w fun e w' => ∃ v', e = .returned v' ∧ Orow w' w.heap.size 103 2 v' n n f ∧ Below w.heap.size w w' := by
  obtain ⟨i0, hi, hz0, hz1, hz2⟩ := info_parts infoS
  have HS := hide h
  obtain ⟨ad, cap, rfl, hc⟩ := h
  cases ad with
  | none =>
    have h0 : n = 0 := by
      by_cases hp : 0 < n
      · obtain ⟨b, off, e, _⟩ := hc hp; cases e
      · omega
    subst h0
    have hq := nilS_yes cap
    clear hc HS
    go_enter Try.func76, Try.ntmps76
    go_wp2
    go_ret
    exact ⟨_, rfl, nil_own _ _ _ _, Below.refl _ _⟩
  | some a =>
    have hq := nilS_no a n cap
    have hB : Below w.heap.size w (w.alloc (.cells #[] 103)) := (Below.refl _ _).alloc (Nat.le_refl _) _
    clear hc
    go_enter Try.func76, Try.ntmps76
    go_wp2_with (at_builtin; refine wpList_append_own_at _ rfl _ _ 90 rfl w.heap.size 103 i0 _ 2 16 Try.underlying90 hi hz0 hz1 hz2 rfl (by omega) _ 0 [] rfl (empty_own w 103 2) a n cap (rowC 2 n n f) rfl (rowC_length _ _ _ _) (HS.out.below hB).news rowC_one (by unfold maxLen; omega) (by omega) (by simp) ?_)
    intro v' w1 hown hgrow _ hat
    have HF : Hid (Orow w1 w.heap.size 103 2 v' n n f ∧ Below w.heap.size w w1) := hide ⟨by unfold Orow; simpa using hown, hB.grown hgrow (by simp) (fun k hk => by simp [Value.ownBlock] at hk; omega)⟩
    clear hown hgrow hat hB HS
    go_wp2
    go_ret
    exact ⟨_, rfl, HF.out.1, HF.out.2⟩

end Go.Proofs.Ytcocobmanlmjdaa
