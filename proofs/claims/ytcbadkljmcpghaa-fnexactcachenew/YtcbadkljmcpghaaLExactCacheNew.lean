/- Proved: laws.FnExactCacheNew returns true. No condition. -/
import Derived.Test.YtcbadkljmcpghaaRows
import Derived.Test.YtcbadkljmcpghaaCaU
import Derived.Test.YtcbadkljmcpghaaCaD
import Derived.Test.YtcbadkljmcpghaaCaW
import Derived.WalkKit
import Derived.ProofKit
import Derived.OpenShut
import Derived.ShutString
import Derived.ChangeOld
import Derived.Below
import Derived.OpenVars
namespace Go.Proofs.Ytcbadkljmcpghaa.fnExactCacheNew
open Go.ChangeShapes Go.WideShapes Go.ChangeAt Go.WideMaps Go.WideElems Go.RowKit
set_option linter.unusedVariables false
set_option linter.unusedSimpArgs false

theorem own : ownKnob Try.prog.godebug = none := by kernel_rfl
theorem laidOut : laidOutB Try.prog = true := by kernel_rfl

theorem kc19 : kc 1 (fun _ => 4) 2 = 19 := rfl

/-- what a cache's blocks are: behind B, ahead of the world's end -/
theorem cg_lt {w : World} {B : Nat} {v : Value} {n : Nat} {L : Nat → Nat} {D : Nat → Sm} {G : Nat} {ib : Nat → Nat} (h : Cg w B v n L D G ib) : G < w.heap.size ∧ ∀ c, c < n → ib c < w.heap.size := ⟨h.wcG.lt, fun c hc => (h.wcI c hc).lt⟩

set_option maxHeartbeats 4000000 in
theorem walk (w : World) : Calls Try.prog 6 #[] w fun e w' => e = .returned (.bool true) ∧ Below w.heap.size w w' := by
  have hL : ∀ c, c < 2 → (fun _ : Nat => 4) c ≤ 1048576 := fun c _ => by show 4 ≤ 1048576; decide
  go_enter Try.func6, Try.ntmps6
  go_wp2_with fail
  refine (specNew _).mono ?_
  rintro e w1 ⟨G0, c0, ib0, rfl, hs1, hb1⟩
  have hA1 : Below w1.heap.size w1 (w1.alloc (.cells #[sl G0 2 c0] 32)) := (Below.refl _ _).alloc (Nat.le_refl _) _
  have x1 : (w1.alloc (.cells #[sl G0 2 c0] 32)).cell? ⟨w1.heap.size, 0, none⟩ = some (sl G0 2 c0) := cell_of_row _ _ 0 _ _ _ (heap_alloc_new _ _)
  have hs1a := hs1.below hA1
  have l1 := cg_lt hs1
  have hB1 := hb1.trans (hA1.mono hb1.size)
  have hsz1 : (w1.alloc (.cells #[sl G0 2 c0] 32)).heap.size = w1.heap.size + 1 := by simp
  have hw1 := hb1.size
  clear hs1 hb1 hA1
  go_wp2_with fail
  refine (implNew _).mono ?_
  rintro e w2 ⟨G1, c1, ib1, rfl, hc2, hb2⟩
  have hA2 : Below w2.heap.size w2 (w2.alloc (.cells #[sl G1 2 c1] 32)) := (Below.refl _ _).alloc (Nat.le_refl _) _
  have y2 : (w2.alloc (.cells #[sl G1 2 c1] 32)).cell? ⟨w2.heap.size, 0, none⟩ = some (sl G1 2 c1) := cell_of_row _ _ 0 _ _ _ (heap_alloc_new _ _)
  have x2 := keepc hA2 (keepc hb2 x1)
  have hs2 := (hs1a.below hb2).below hA2
  have l2 := cg_lt hc2
  have lo2 := hc2.lo
  have hc2a := hc2.below hA2
  have hB2 := (hB1.trans (hb2.mono hB1.size)).trans (hA2.mono (hB1.trans (hb2.mono hB1.size)).size)
  have hw2 := hb2.size
  rw [hsz1] at lo2 hw2
  clear hb2 hA2 x1 hs1a hc2 hB1 hsz1
  go_wp2_with fail
  refine (eqCache_same _ _ 2 _ _ _ hc2a.cv hs2.cv (by decide) hL).mono ?_
  rintro e w3 ⟨rfl, hb3⟩
  have x3 := keepc hb3 x2
  have y3 := keepc hb3 y2
  have hs3 := hs2.below hb3
  have hc3 := hc2a.below hb3
  have hB3 := hB2.trans (hb3.mono hB2.size)
  have hw3 : w2.heap.size + 1 ≤ w3.heap.size := by have := hb3.size; simpa using this
  clear x2 y2 hs2 hc2a hB2 hb3
  go_wp2_with fail
  refine (markCache_any _ _ 2 _ _ G1 ib1 _ hc3 (by decide) hL).mono ?_
  rintro e w4 ⟨rfl, hg4, hm4⟩
  rw [kc19]
  have nS : ∀ j, j < w1.heap.size + 1 → ¬ SC 2 G1 ib1 j := by
    rintro j hj (h | ⟨c, hc, h⟩)
    · omega
    · have := lo2.2 c hc; omega
  have nT : ¬ SC 2 G1 ib1 w2.heap.size := by
    rintro (h | ⟨c, hc, h⟩)
    · omega
    · have := l2.2 c hc; omega
  have x4 := hg4.cell (nS _ (by omega)) x3
  have y4 := hg4.cell nT y3
  have hs4 := hs3.chg hg4 (nS _ (by omega)) (fun c hc => nS _ (by have := l1.2 c hc; omega))
  have hB4 : Below w.heap.size w w4 := below_chg hB3 hg4 (fun j hj => by rcases hj with h | ⟨c, hc, h⟩; (· omega); (· have := lo2.2 c hc; omega)) hB3.size
  clear hg4 x3 y3 hs3 hc3 hB3
  go_wp2_with fail
  refine (heldCache_any 2 c1 _ G1 ib1 _ hm4 (by decide) hL).mono ?_
  rintro e w5 ⟨rfl, hb5⟩
  rw [kc19]
  have x5 := keepc hb5 x4
  have y5 := keepc hb5 y4
  have hs5 := hs4.below hb5
  have hm5 := hm4.below hb5
  have hB5 := hB4.trans (hb5.mono hB4.size)
  clear x4 y4 hs4 hm4 hB4 hb5
  go_wp2_with fail
  refine (implNew _).mono ?_
  rintro e w6 ⟨G2, c2, ib2, rfl, hc6, hb6⟩
  have hA6 : Below w6.heap.size w6 (w6.alloc (.cells #[sl G2 2 c2] 32)) := (Below.refl _ _).alloc (Nat.le_refl _) _
  have z6 : (w6.alloc (.cells #[sl G2 2 c2] 32)).cell? ⟨w6.heap.size, 0, none⟩ = some (sl G2 2 c2) := cell_of_row _ _ 0 _ _ _ (heap_alloc_new _ _)
  have x6 := keepc hA6 (keepc hb6 x5)
  have y6 := keepc hA6 (keepc hb6 y5)
  have hs6 := (hs5.below hb6).below hA6
  have hm6 := (hm5.below hb6).below hA6
  have hc6a := hc6.below hA6
  have hB6 := (hB5.trans (hb6.mono hB5.size)).trans (hA6.mono (hB5.trans (hb6.mono hB5.size)).size)
  clear x5 y5 hs5 hm5 hB5 hb6 hA6 hc6
  go_wp2_with fail
  refine (eqCache_same _ _ 2 _ _ _ hc6a.cv hs6.cv (by decide) hL).mono ?_
  rintro e w7 ⟨rfl, hb7⟩
  have y7 := keepc hb7 y6
  have hm7 := hm6.below hb7
  have hB7 := hB6.trans (hb7.mono hB6.size)
  clear x6 y6 z6 hs6 hm6 hc6a hB6 hb7
  go_wp2_with fail
  refine (heldCache_any 2 c1 _ G1 ib1 _ hm7 (by decide) hL).mono ?_
  rintro e w8 ⟨rfl, hb8⟩
  rw [kc19]
  have HB := hide (hB7.trans (hb8.mono hB7.size))
  clear y7 hm7 hB7 hb8
  go_wp2
  go_ret
  exact ⟨rfl, HB.out⟩

set_option maxRecDepth 100000 in
theorem lifted (os : Os) (started : os.Started) (H : Type) (enc : TypeId × Value → H) :
    ReturnsInHanded {} Try.checked os 6 .any (Rows.fnExactCacheNewSpec.pre6 enc Try.prog Try.f6 Rows.fnExactCacheNewRow.domain false) (Rows.fnExactCacheNewSpec.post enc Try.prog Try.f6 false true false false) := by
  refine returnsInHanded_of_change (C := Try.checked) own started (by kernel_rfl) Try.func6
    (ChangeSpec.witness6 (enc := enc) (C := Try.checked) false ⟨#[], #[], []⟩ 8 (by kernel_rfl) (by kernel_rfl) (by kernel_rfl) (by kernel_rfl)) ?_
  intro W base args ds gs before hval0 hW hcnd _
  have hval : ∀ (j : Nat) t v, Try.f6.params[j]? = some t → args[j]? = some v → Value.okWide Try.prog W .any base t v := hval0
  have hW' := hW
  obtain ⟨p, q, hA0, hV, rfl, hfz, hnd⟩ := hW
  have hA : DataW.TrodAll enc Try.prog W 0 (fun _ => true) true Try.f6.params.toList args.toList ds p := hA0
  rw [Try.params6] at hA hval
  obtain ⟨hargs, rfl, rfl⟩ := trodAll_nil hA
  obtain rfl : args = #[] := by cases args; simp_all
  obtain ⟨rfl, rfl⟩ := trodVars_none hV
  clear hA0 hval0
  refine (walk  W ).mono fun e W' ⟨he, bel⟩ => ?_
  subst he
  exact ⟨_, rfl, _, _, _, [], _, [], hW', trodAll_mk1 (shut_bool Try.underlying4 _), trodAll_mk0, rfl, bel.frame _, fun h => by cases h⟩

theorem over : Rows.fnExactCacheNewRow.holds Try.pinned (OpenSpec.ofChange Rows.fnExactCacheNewSpec) :=
  OpenClaim.holds_of_wide 6 Try.f6 rfl rfl rfl rfl rfl rfl rfl ⟨rfl, rfl, rfl, rfl, rfl⟩ rfl rfl rfl rfl rfl (by kernel_rfl) Try.func6 (by kernel_rfl)
    (of_decide_eq_true (by kernel_rfl)) (by unfold Func.isWrapper; first | (rw [if_pos (by decide +kernel)]; kernel_rfl) | (rw [if_neg (by decide +kernel)]; exact ⟨rfl, rfl⟩))
    (fun os started H enc _ => lifted os started H enc)

theorem proved : Rows.FnExactCacheNewSaid := over
end Go.Proofs.Ytcbadkljmcpghaa.fnExactCacheNew

namespace Go.Proofs.Ytcbadkljmcpghaa
theorem fnExactCacheNew_holds : Rows.FnExactCacheNewSaid := fnExactCacheNew.proved
end Go.Proofs.Ytcbadkljmcpghaa
