/- mirrors.up, mirrors.with: rows of pointers -/
import Derived.Test.YtplnfddleaoimaaPrI
namespace Go.Proofs.Ytplnfddleaoimaa
open Go.RowKit
set_option linter.unusedVariables false
set_option linter.unusedSimpArgs false

theorem infoP : (Try.prog.info? 48).map (fun i => (i.zero, i.size, i.bytes)) = some (some (.pointer none), 1, 8) := by kernel_rfl
/-- a row of pointers to these blocks, in a block of its own or nil -/
def Pr (w : World) (lo : Nat) (v : Value) (bs : List Nat) : Prop := w.ownsRow lo 48 1 v bs.length (bs.map pt)
theorem Pr.nil (w : World) (lo : Nat) : Pr w lo nilS [] := ⟨by simp, .inl ⟨rfl, rfl⟩⟩
theorem Pr.below {w w' : World} {lo : Nat} {v : Value} {bs : List Nat} (h : Pr w lo v bs) (hb : Below w.heap.size w w') : Pr w' lo v bs := by
  refine World.ownsRow.kept h (grown_of_below hb) ?_
  cases hv : v.ownBlock with
  | none => exact .inl rfl
  | some k => exact .inr (by simp)
theorem Pr.mono {w : World} {lo lo' : Nat} {v : Value} {bs : List Nat} (h : Pr w lo v bs) (hb : lo' ≤ lo) : Pr w lo' v bs := by
  refine ⟨h.1, ?_⟩
  rcases h.2 with h' | ⟨g, cap, cur, h', hbb, hg⟩
  · exact .inl h'
  · exact .inr ⟨g, cap, cur, h', by omega, hg⟩
theorem Pr.lt {w : World} {lo : Nat} {v : Value} {bs : List Nat} (h : Pr w lo v bs) : ∀ k, v.ownBlock = some k → lo ≤ k ∧ k < w.heap.size := fun k hk => World.ownsRow.lt h k hk
theorem Pr.form {w : World} {lo : Nat} {v : Value} {bs : List Nat} (h : Pr w lo v bs) : ∃ ad cap, v = .slice ad bs.length cap ∧ (0 < bs.length → ∃ g, ad = some ⟨g, 0, none⟩ ∧ ∀ j, j < bs.length → w.cell? ⟨g, j, none⟩ = some (pt (bs.getD j 0))) := by
  have hh := h
  rcases h.2 with ⟨h', hn⟩ | ⟨g, cap, cur, h', _⟩
  · exact ⟨none, 0, by rw [hn]; exact h', fun hp => by omega⟩
  · refine ⟨_, cap, h', fun _ => ⟨g, rfl, fun j hj => ?_⟩⟩
    have h2 : w.ownsRow lo 48 1 (.slice (some ⟨g, 0, none⟩) bs.length cap) bs.length (bs.map pt) := h' ▸ hh
    rw [h2.cellAt j (by omega)]
    simp [hj]
theorem news1 (W : World) (B : Nat) : ∀ j u, [pt B][j]? = some u → (W.alloc (.cells #[pt B] 48)).cell? ((⟨W.heap.size, 0, none⟩ : Addr).add j) = some u := by
  intro j u hu
  have hj : j = 0 := by
    by_cases hj : j = 0
    · exact hj
    · rw [List.getElem?_eq_none (by simp; omega)] at hu; cases hu
  subst hj
  simp at hu
  subst hu
  exact (cell_of_row _ _ 0 _ _ _ (heap_alloc_new W (.cells #[pt B] 48))).trans rfl
theorem one1 (B : Nat) : ∀ u ∈ [pt B], u.oneCell' = true := by intro u hu; simp at hu; subst hu; rfl

/-- the sides that are up -/
def ups (lu ru : Bool) (Bl Br : Nat) : List Nat := (if lu then [Bl] else []) ++ (if ru then [Br] else [])

theorem append_ptr (W : World) (lo B : Nat) (v : Value) (bs : List Nat) (ty : TypeId) (ho : Pr W lo v bs) (hl : bs.length ≤ 10) (hlo : lo ≤ W.heap.size) :
    ∃ ud uc w', (Builtin.append_ #[54, 54] ty #[v, .slice (some ⟨W.heap.size, 0, none⟩) 1 1]).run Try.prog (W.alloc (.cells #[pt B] 48)) = .ok (.slice ud (bs ++ [B]).length uc) w' ∧ Pr w' lo (.slice ud (bs ++ [B]).length uc) (bs ++ [B]) ∧ Below lo W w' := by
  obtain ⟨i0, hi, hz0, hz1, hz2⟩ := info_parts infoP
  have hB : Below W.heap.size W (W.alloc (.cells #[pt B] 48)) := (Below.refl _ _).alloc (Nat.le_refl _) _
  have ho2 := ho.below hB
  obtain ⟨v', w', hr, hown, hgrow, _, hat⟩ := run_append_own_at (P := Try.prog) (W.alloc (.cells #[pt B] 48)) lo 54 ty 48 i0 _ 1 8 Try.underlying54 hi hz0 hz1 hz2 rfl (by omega) v bs.length (bs.map pt) ho2 ⟨W.heap.size, 0, none⟩ 1 1 [pt B] rfl (news1 W B) (one1 B) (by unfold maxLen; omega) (by omega) (by simp; omega)
  have ho' : Pr w' lo v' (bs ++ [B]) := by unfold Pr; simpa using hown
  obtain ⟨ud, uc, e, _⟩ := ho'.form
  subst e
  refine ⟨ud, uc, w', hr, ho', ?_⟩
  exact (hB.mono hlo).grown hgrow (by simp; omega) (fun k hk => (ho2.lt k hk).1)

end Go.Proofs.Ytplnfddleaoimaa
