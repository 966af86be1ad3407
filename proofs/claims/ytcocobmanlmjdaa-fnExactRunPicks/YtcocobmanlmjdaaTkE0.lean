/- an append onto a new empty slice, whatever is appended -/
import Derived.Test.YtcocobmanlmjdaaTkD
namespace Go.Proofs.Ytcocobmanlmjdaa
open Go.RowKit
set_option linter.unusedVariables false
set_option linter.unusedSimpArgs false

theorem step_append_run {P : Program} {ops : Array Oper} {o : Oper} {a : Act} {w : World} {K : Act → World → Prop} {Q : Exit → Act → World → Prop} {E : Prop} (hgd : o.guard = none) (s x : Operand) (t : TypeId)
    (ho : o.op = .call { callee := .builtin .append, args := #[s, x], argTypes := #[t, t] }) {v u v' : Value} {w' : World} (hs : a.eval s = v) (hx : a.eval x = u) (hr : (Builtin.append_ #[t, t] o.type #[v, u]).run P w = .ok v' w') (h : K (a.put o.dst v') w') :
    if Region.wanted o (yielded ops a.tmps) = true then Oper.wp P o a w K Q else E := by
  have hw : Region.wanted o (yielded ops a.tmps) = true := by simp [Region.wanted, hgd]
  rw [if_pos hw]
  unfold Oper.wp execOp
  simp only [ho, resolve, invoke, builtin, Sem.run_bind, Sem.run_pure, Result.andThen_ok, List.map_toArray, List.map_cons, List.map_nil, hs, hx, hr]
  exact h

theorem app_nilS (g c : Nat) (ty : TypeId) (W : World) : (Builtin.append_ #[90, 90] ty #[.slice (some ⟨g, 0, none⟩) 0 0, .slice none 0 c]).run Try.prog W = .ok (.slice (some ⟨g, 0, none⟩) 0 0) W := by kernel_rfl
theorem app_nilI (g c : Nat) (ty : TypeId) (W : World) : (Builtin.append_ #[33, 33] ty #[.slice (some ⟨g, 0, none⟩) 0 0, .slice none 0 c]).run Try.prog W = .ok (.slice (some ⟨g, 0, none⟩) 0 0) W := by kernel_rfl

theorem append_emptyS (W : World) (ad : Option Addr) (n c : Nat) (f : Nat → Nat → Int) (ty : TypeId) (hs : Sr (W.alloc (.cells #[] 103)) (.slice ad n c) 2 n f) (hl : n ≤ 1000) :
    ∃ v' w', (Builtin.append_ #[90, 90] ty #[.slice (some ⟨W.heap.size, 0, none⟩) 0 0, .slice ad n c]).run Try.prog (W.alloc (.cells #[] 103)) = .ok v' w' ∧ Orow w' W.heap.size 103 2 v' n n f ∧ Below W.heap.size W w' := by
  obtain ⟨i0, hi, hz0, hz1, hz2⟩ := info_parts infoS
  have hB : Below W.heap.size W (W.alloc (.cells #[] 103)) := (Below.refl _ _).alloc (Nat.le_refl _) _
  cases ad with
  | none =>
    have h0 : n = 0 := by
      obtain ⟨ad, cap, e, hc⟩ := hs
      by_cases hp : 0 < n
      · obtain ⟨b, off, e2, _⟩ := hc hp
        rw [e2] at e; simp at e
      · omega
    subst h0
    exact ⟨_, _, app_nilS _ _ _ _, empty_own W 103 2, hB⟩
  | some a =>
    obtain ⟨v', w', hr, hown, hgrow, _, _⟩ := run_append_own_at (P := Try.prog) (W.alloc (.cells #[] 103)) W.heap.size 90 ty 103 i0 _ 2 16 Try.underlying90 hi hz0 hz1 hz2 rfl (by omega) _ 0 [] (empty_own W 103 2) a n c (rowC 2 n n f) (rowC_length _ _ _ _) hs.news rowC_one (by unfold maxLen; omega) (by omega) (by simp)
    exact ⟨v', w', hr, by unfold Orow; simpa using hown, hB.grown hgrow (by simp) (fun k hk => by simp [Value.ownBlock] at hk; omega)⟩
theorem append_emptyI (W : World) (ad : Option Addr) (c : Nat) (zs : List Int) (ty : TypeId) (hs : Sl (W.alloc (.cells #[] 2)) (.slice ad zs.length c) zs) (hl : zs.length ≤ 1000) :
    ∃ v' w', (Builtin.append_ #[33, 33] ty #[.slice (some ⟨W.heap.size, 0, none⟩) 0 0, .slice ad zs.length c]).run Try.prog (W.alloc (.cells #[] 2)) = .ok v' w' ∧ Ow w' W.heap.size v' zs ∧ Below W.heap.size W w' := by
  obtain ⟨i0, hi, hz0, hz1, hz2⟩ := info_parts infoI
  have hB : Below W.heap.size W (W.alloc (.cells #[] 2)) := (Below.refl _ _).alloc (Nat.le_refl _) _
  cases ad with
  | none =>
    have h0 : zs.length = 0 := by
      obtain ⟨ad, cap, e, hc⟩ := hs
      by_cases hp : 0 < zs.length
      · obtain ⟨b, off, e2, _⟩ := hc hp
        rw [e2] at e; simp at e
      · omega
    have hz : zs = [] := List.eq_nil_of_length_eq_zero h0
    subst hz
    exact ⟨_, _, app_nilI _ _ _ _, empty_own W 2 1, hB⟩
  | some a =>
    obtain ⟨v', w', hr, hown, hgrow, _, _⟩ := run_append_own_at (P := Try.prog) (W.alloc (.cells #[] 2)) W.heap.size 33 ty 2 i0 _ 1 8 Try.underlying33 hi hz0 hz1 hz2 rfl (by omega) _ 0 [] (empty_own W 2 1) a zs.length c (zs.map (Value.int .i64)) (by simp) hs.news ints_one (by unfold maxLen; omega) (by omega) (by simp)
    exact ⟨v', w', hr, by unfold Ow; simpa using hown, hB.grown hgrow (by simp) (fun k hk => by simp [Value.ownBlock] at hk; omega)⟩

end Go.Proofs.Ytcocobmanlmjdaa
