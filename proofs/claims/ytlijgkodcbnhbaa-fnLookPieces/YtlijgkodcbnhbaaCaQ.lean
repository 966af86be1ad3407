/- slices.Clone of four ways -/
import Derived.Test.YtlijgkodcbnhbaaCaK
import Derived.Deep.AppendLies
import Derived.Deep.RegionHeld3
namespace Go.Proofs.Ytlijgkodcbnhbaa
open Go.RowKit
set_option linter.unusedVariables false
set_option linter.unusedSimpArgs false

/-- the eight cells of four ways -/
abbrev w8 (s : Sm) : List Value := [.bool (s.u 0), .int .i64 (s.a 0), .bool (s.u 1), .int .i64 (s.a 1), .bool (s.u 2), .int .i64 (s.a 2), .bool (s.u 3), .int .i64 (s.a 3)]
theorem infoWayQ : (Try.prog.info? 40).map (fun i => (i.zero, i.size, i.bytes)) = some (some (.agg #[.bool false, .int .i64 0]), 2, 16) := by kernel_rfl
theorem empty_own (w : World) (T : TypeId) (m : Nat) : (w.alloc (.cells #[] T)).ownsRow w.heap.size T m (.slice (some ⟨w.heap.size, 0, none⟩) 0 0) 0 [] :=
  ⟨by simp, .inr ⟨w.heap.size, 0, #[], rfl, Nat.le_refl _, heap_alloc_new _ _, Nat.le_refl _, by unfold maxLen; omega, by simp, by simp⟩⟩

theorem isNil4 (B o c : Nat) (W : World) : (binOp BinOp.eql 56 (.slice (some ⟨B, o, none⟩) 4 c) (.slice none 0 0)).run Try.prog W = .ok (.bool false) W := by kernel_rfl

set_option maxHeartbeats 1000000 in
set_option maxRecDepth 20000 in
theorem clone4 (B o cap : Nat) (s : Sm) (w : World) (hc : ∀ j u, (w8 s)[j]? = some u → w.cell? ⟨B, o + j, none⟩ = some u) :
    Calls Try.prog 28 #[.slice (some ⟨B, o, none⟩) 4 cap] w fun e w' => ∃ g c, e = .returned (.slice (some ⟨g, 0, none⟩) 4 c) ∧ w'.ownsRow w.heap.size 40 2 (.slice (some ⟨g, 0, none⟩) 4 c) 4 (w8 s) ∧ Below w.heap.size w w' := by
  obtain ⟨i0, hi, hz0, hz1, hz2⟩ := info_parts infoWayQ
  have hB : Below w.heap.size w (w.alloc (.cells #[] 40)) := (Below.refl _ _).alloc (Nat.le_refl _) _
  have hq := isNil4 B o cap
  go_enter Try.func28, Try.ntmps28
  go_wp2_with (at_builtin; refine wpList_append_lies _ rfl _ _ 56 rfl w.heap.size 40 i0 _ 2 16 Try.underlying56 hi hz0 hz1 hz2 rfl (by omega) _ 0 [] rfl (empty_own w 40 2) ⟨B, o, none⟩ 4 cap (w8 s) rfl rfl (fun j u hu => by rw [addr_add]; exact keepc hB (hc j u hu)) (by intro u hu; simp at hu; rcases hu with h | h | h | h | h | h | h | h <;> subst h <;> rfl) (by omega) (by unfold maxLen; omega) (by omega) (by simp) _ rfl ?_)
  intro g c w1 hown hgrow hat hlt
  go_wp2
  go_ret
  refine ⟨g, c, rfl, hown, ?_⟩
  exact hB.grown hgrow (by simp) (fun k hk => by simp [Value.ownBlock] at hk; omega)

end Go.Proofs.Ytlijgkodcbnhbaa
