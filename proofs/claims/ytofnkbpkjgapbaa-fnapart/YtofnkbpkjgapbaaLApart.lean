/- Proved: for every slice of bytes, of whatever length, laws.FnApart returns true and leaves its argument as it read. No condition. -/
import Derived.Test.YtofnkbpkjgapbaaRows
import Derived.Test.YtofnkbpkjgapbaaCdO
import Derived.WalkKit
import Derived.ProofKit
import Derived.OpenShut
import Derived.ShutString
import Derived.ChangeOld
import Derived.Below
import Derived.OpenVars
namespace Go.Proofs.Ytofnkbpkjgapbaa.fnApart
open Go.ChangeShapes Go.WideShapes Go.ChangeAt Go.WideMaps Go.WideElems Go.RowKit
set_option linter.unusedVariables false
set_option linter.unusedSimpArgs false

theorem own : ownKnob Try.prog.godebug = none := by kernel_rfl
theorem laidOut : laidOutB Try.prog = true := by kernel_rfl

def IsRow (k : IntKind) (w : World) (a : Option Addr) (len cap : Nat) (zs : List Int) : Prop :=
  (a = none ∧ len = 0 ∧ cap = 0 ∧ zs = []) ∨
  ∃ x, a = some x ∧ len ≤ cap ∧ cap ≤ maxLen ∧ zs.length = cap ∧ (∀ i, i < zs.length → w.cell? (x.add i) = some (.int k (zs.getD i 0))) ∧ ∀ n ∈ zs, (Lit.int k n).wf = true

theorem row_bt {w : World} {a : Option Addr} {len cap : Nat} {z : List Int} (h : IsRow .u8 w a len cap z) : Bt w a len := by
  intro h0
  rcases h with ⟨rfl, rfl, rfl, rfl⟩ | ⟨x, rfl, hl, hm, hz, hcell, hwf⟩
  · exact absurd h0 (by simp)
  · obtain ⟨b, off, spot⟩ := x
    have hc := hcell 0 (by omega)
    have hspot : spot = none := by simpa [Addr.add] using World.cell?_spot hc
    subst hspot
    refine ⟨b, off, rfl, fun j hj => ?_⟩
    have hcj := hcell j (by omega)
    rw [addr_add] at hcj
    have hj' : j < z.length := by omega
    have e : z.getD j 0 = z[j] := by simp [hj']
    have hw := bounds_u8 (hwf z[j] (List.getElem_mem hj'))
    exact ⟨z.getD j 0, by rw [e]; exact hw.1, by rw [e]; exact hw.2, hcj⟩

set_option maxHeartbeats 8000000 in
set_option maxRecDepth 20000 in
theorem walk (a0 : Option Addr) (len0 cap0 : Nat) (w : World) (hs0 : Bt w a0 len0) :
    Calls Try.prog 6 #[.slice a0 len0 cap0] w fun e w' => e = .returned (.bool true) ∧ Below w.heap.size w w' := by
  by_cases hbig : (1048576 : Int) < (len0 : Int)
  · go_enter Try.func6, Try.ntmps6
    go_wp2
    go_ret
    exact ⟨rfl, Below.refl _ _⟩
  have hb : len0 ≤ 1048576 := by omega
  go_enter Try.func6, Try.ntmps6
  go_wp2_with (first | (go_at_call 8; go_in) | fail)
  refine (drawLooked_any a0 len0 cap0 _ hs0 hb).mono ?_
  rintro e w1 ⟨G, c, ib, s, t, x, rfl, hc1, hb1⟩
  clear hs0 hbig hb
  have k3 := boxc w1 (sl G 2 c)
  have v1 := hc1.cv.below (boxb w1 (sl G 2 c))
  have hB1 := hb1.trans ((boxb w1 (sl G 2 c)).mono hb1.size)
  clear hc1 hb1
  cases hok : Ca.cokB 2 (fun _ => 4) (two s t)
  · have hno : (Ca.cokB 2 (fun _ => 4) (two s t) && inR x 1000) = false := by rw [hok]; rfl
    go_wp2_with fail
    refine (implLooked_any (sl G 2 c) 2 (fun _ => 4) (two s t) x _ v1).mono ?_
    rintro e w2 hp
    obtain ⟨rfl, hb2⟩ := hp.none hno
    have hb2 := hb2.trans ((boxb w2 (.slice none 0 0)).mono hb2.size)
    replace k3 := keepc hb2 k3
    replace v1 := v1.below hb2
    have k5 := boxc w2 (.slice none 0 0)
    have hB2 := hB1.trans (hb2.mono hB1.size)
    clear hp hb2 hB1 
    go_wp2_with fail
    refine (specLooked_any (sl G 2 c) 2 (fun _ => 4) (two s t) x _ v1).mono ?_
    rintro e w3 hp
    obtain ⟨rfl, hb3⟩ := hp.none hno
    have hb3 := hb3.trans ((boxb w3 (.slice none 0 0)).mono hb3.size)
    replace k3 := keepc hb3 k3
    replace k5 := keepc hb3 k5
    replace v1 := v1.below hb3
    have k8 := boxc w3 (.slice none 0 0)
    have hB3 := hB2.trans (hb3.mono hB2.size)
    clear hp hb3 hB2 
    go_wp2_with fail
    refine (sameCache_same _ _ 0 (fun _ => 4) (two s t) _ (Cv.nil _ _ _) (Cv.nil _ _ _) (by decide) (fun _ h => by omega)).mono ?_
    rintro e w4 ⟨rfl, hb4⟩
    replace k3 := keepc hb4 k3
    replace k5 := keepc hb4 k5
    replace k8 := keepc hb4 k8
    replace v1 := v1.below hb4
    have hB4 := hB3.trans (hb4.mono hB3.size)
    clear hb4 hB3
    go_wp2_with fail
    refine (specCacheOk_any (sl G 2 c) 2 (fun _ => 4) (two s t) _ v1).mono ?_
    rintro e w5 ⟨rfl, hb5⟩
    rw [hok]
    replace k5 := keepc hb5 k5
    replace k8 := keepc hb5 k8
    have hB5 := hB4.trans (hb5.mono hB4.size)
    clear hb5 hB4 k3 v1
    go_wp2_with fail
    refine (sameCache_same _ _ 0 (fun _ => 4) (two s t) _ (Cv.nil _ _ _) (Cv.nil _ _ _) (by decide) (fun _ h => by omega)).mono ?_
    rintro e w6 ⟨rfl, hb6⟩
    have HF := hide (hB5.trans (hb6.mono hB5.size))
    clear hb6 hB5 k5 k8
    go_wp2
    go_ret
    exact ⟨rfl, HF.out⟩
  cases hx : inR x 1000
  · have hno : (Ca.cokB 2 (fun _ => 4) (two s t) && inR x 1000) = false := by rw [hx, Bool.and_false]
    have hxx := (inR_cases hx).2 rfl
    by_cases hx0 : x < 0
    · go_wp2_with fail
      refine (implLooked_any (sl G 2 c) 2 (fun _ => 4) (two s t) x _ v1).mono ?_
      rintro e w2 hp
      obtain ⟨rfl, hb2⟩ := hp.none hno
      have hb2 := hb2.trans ((boxb w2 (.slice none 0 0)).mono hb2.size)
      replace k3 := keepc hb2 k3
      replace v1 := v1.below hb2
      have k5 := boxc w2 (.slice none 0 0)
      have hB2 := hB1.trans (hb2.mono hB1.size)
      clear hp hb2 hB1 
      go_wp2_with fail
      refine (specLooked_any (sl G 2 c) 2 (fun _ => 4) (two s t) x _ v1).mono ?_
      rintro e w3 hp
      obtain ⟨rfl, hb3⟩ := hp.none hno
      have hb3 := hb3.trans ((boxb w3 (.slice none 0 0)).mono hb3.size)
      replace k3 := keepc hb3 k3
      replace k5 := keepc hb3 k5
      replace v1 := v1.below hb3
      have k8 := boxc w3 (.slice none 0 0)
      have hB3 := hB2.trans (hb3.mono hB2.size)
      clear hp hb3 hB2 
      go_wp2_with fail
      refine (sameCache_same _ _ 0 (fun _ => 4) (two s t) _ (Cv.nil _ _ _) (Cv.nil _ _ _) (by decide) (fun _ h => by omega)).mono ?_
      rintro e w4 ⟨rfl, hb4⟩
      replace k3 := keepc hb4 k3
      replace k5 := keepc hb4 k5
      replace k8 := keepc hb4 k8
      replace v1 := v1.below hb4
      have hB4 := hB3.trans (hb4.mono hB3.size)
      clear hb4 hB3
      go_wp2_with fail
      refine (specCacheOk_any (sl G 2 c) 2 (fun _ => 4) (two s t) _ v1).mono ?_
      rintro e w5 ⟨rfl, hb5⟩
      rw [hok]
      replace k5 := keepc hb5 k5
      replace k8 := keepc hb5 k8
      have hB5 := hB4.trans (hb5.mono hB4.size)
      clear hb5 hB4 k3 v1
      go_wp2_with fail
      refine (sameCache_same _ _ 0 (fun _ => 4) (two s t) _ (Cv.nil _ _ _) (Cv.nil _ _ _) (by decide) (fun _ h => by omega)).mono ?_
      rintro e w6 ⟨rfl, hb6⟩
      have HF := hide (hB5.trans (hb6.mono hB5.size))
      clear hb6 hB5 k5 k8
      go_wp2
      go_ret
      exact ⟨rfl, HF.out⟩
    have hx1 : 1000 < x := by omega
    have hd0 : decide (x < 0) = false := by simp; omega
    go_wp2_with fail
    refine (implLooked_any (sl G 2 c) 2 (fun _ => 4) (two s t) x _ v1).mono ?_
    rintro e w2 hp
    obtain ⟨rfl, hb2⟩ := hp.none hno
    have hb2 := hb2.trans ((boxb w2 (.slice none 0 0)).mono hb2.size)
    replace k3 := keepc hb2 k3
    replace v1 := v1.below hb2
    have k5 := boxc w2 (.slice none 0 0)
    have hB2 := hB1.trans (hb2.mono hB1.size)
    clear hp hb2 hB1 
    go_wp2_with fail
    refine (specLooked_any (sl G 2 c) 2 (fun _ => 4) (two s t) x _ v1).mono ?_
    rintro e w3 hp
    obtain ⟨rfl, hb3⟩ := hp.none hno
    have hb3 := hb3.trans ((boxb w3 (.slice none 0 0)).mono hb3.size)
    replace k3 := keepc hb3 k3
    replace k5 := keepc hb3 k5
    replace v1 := v1.below hb3
    have k8 := boxc w3 (.slice none 0 0)
    have hB3 := hB2.trans (hb3.mono hB2.size)
    clear hp hb3 hB2 
    go_wp2_with fail
    refine (sameCache_same _ _ 0 (fun _ => 4) (two s t) _ (Cv.nil _ _ _) (Cv.nil _ _ _) (by decide) (fun _ h => by omega)).mono ?_
    rintro e w4 ⟨rfl, hb4⟩
    replace k3 := keepc hb4 k3
    replace k5 := keepc hb4 k5
    replace k8 := keepc hb4 k8
    replace v1 := v1.below hb4
    have hB4 := hB3.trans (hb4.mono hB3.size)
    clear hb4 hB3
    go_wp2_with fail
    refine (specCacheOk_any (sl G 2 c) 2 (fun _ => 4) (two s t) _ v1).mono ?_
    rintro e w5 ⟨rfl, hb5⟩
    rw [hok]
    replace k5 := keepc hb5 k5
    replace k8 := keepc hb5 k8
    have hB5 := hB4.trans (hb5.mono hB4.size)
    clear hb5 hB4 k3 v1
    go_wp2_with fail
    refine (sameCache_same _ _ 0 (fun _ => 4) (two s t) _ (Cv.nil _ _ _) (Cv.nil _ _ _) (by decide) (fun _ h => by omega)).mono ?_
    rintro e w6 ⟨rfl, hb6⟩
    have HF := hide (hB5.trans (hb6.mono hB5.size))
    clear hb6 hB5 k5 k8
    go_wp2
    go_ret
    exact ⟨rfl, HF.out⟩
  have hr := cok_right hok
  have hxx := (inR_cases hx).1 rfl
  have hx0 : decide (x < 0) = false := by simp; omega
  have hx1 : decide (1000 < x) = false := by simp; omega
  go_wp2_with fail
  refine (implLooked_any (sl G 2 c) 2 (fun _ => 4) (two s t) x _ v1).mono ?_
  rintro e w2 hp
  obtain ⟨G2, c2, ib2, rfl, hc2, hb2⟩ := hp.get hok hx
  have hb2 := hb2.trans ((boxb w2 (sl G2 2 c2)).mono hb2.size)
  replace k3 := keepc hb2 k3
  replace v1 := v1.below hb2
  have k5 := boxc w2 (sl G2 2 c2)
  have hB2 := hB1.trans (hb2.mono hB1.size)
  have v2 := hc2.cv.below (boxb w2 (sl G2 2 c2))
  clear hb2 hB1 hc2
  go_wp2_with fail
  refine (specLooked_any (sl G 2 c) 2 (fun _ => 4) (two s t) x _ v1).mono ?_
  rintro e w3 hp
  obtain ⟨G3, c3, ib3, rfl, hc3, hb3⟩ := hp.get hok hx
  have hb3 := hb3.trans ((boxb w3 (sl G3 2 c3)).mono hb3.size)
  replace k3 := keepc hb3 k3
  replace k5 := keepc hb3 k5
  replace v1 := v1.below hb3
  replace v2 := v2.below hb3
  have k8 := boxc w3 (sl G3 2 c3)
  have hB3 := hB2.trans (hb3.mono hB2.size)
  have v3 := hc3.cv.below (boxb w3 (sl G3 2 c3))
  clear hb3 hB2 hc3
  obtain ⟨q, hq2, hqx, HQ⟩ : ∃ q : Nat, q < 2 ∧ (q : Int) = 1 - x % 2 ∧ Hid (two (Ca.lk2 s t x).1 (Ca.lk2 s t x).2 q = two s t q) := Ca.other_set2 s t x
  go_wp2_with fail
  refine (sameCache_same _ _ 2 (fun _ => 4) (two (Ca.lk2 s t x).1 (Ca.lk2 s t x).2) _ v2 v3 (by decide) (fun _ _ => by decide)).mono ?_
  rintro e w4 ⟨rfl, hb4⟩
  replace k3 := keepc hb4 k3
  replace k5 := keepc hb4 k5
  replace v1 := v1.below hb4
  replace v2 := v2.below hb4
  have hB4 := hB3.trans (hb4.mono hB3.size)
  clear hb4 hB3 v3 k8
  go_wp2_with fail
  refine (specCacheOk_any (sl G 2 c) 2 (fun _ => 4) (two s t) _ v1).mono ?_
  rintro e w5 ⟨rfl, hb5⟩
  rw [hok]
  replace k3 := keepc hb5 k3
  replace k5 := keepc hb5 k5
  replace v1 := v1.below hb5
  replace v2 := v2.below hb5
  have hB5 := hB4.trans (hb5.mono hB4.size)
  clear hb5 hB4
  obtain ⟨e1, i1, j1, a1, a2, a3⟩ := v1.one hq2
  obtain ⟨e2, i2, j2, b1, b2, b3⟩ := v2.one hq2
  rw [HQ.out] at b1 b3
  obtain ⟨m, hm⟩ : ∃ m, two s t q = m := ⟨_, rfl⟩
  rw [hm] at a1 a3 b1 b3
  have hmod : wrap64 (x.tmod 2) = x % 2 := by rw [Int.tmod_eq_emod_of_nonneg hxx.1]; exact Go.IntWalk.wrap64_in _ (by omega)
  have hsub : wrap64 (1 - x % 2) = (q : Int) := by rw [← hqx]; exact Go.IntWalk.wrap64_in _ (by omega)
  have hq0 : (0 : Int) ≤ (q : Int) := by omega
  have hq1 : (q : Int) < 2 := by omega
  clear v1 v2 HQ hm
  go_wp2
  rw [← hqx]
  clear hqx
  refine wp_region_held_drew (S := fun w' => Below (w5).heap.size (w5) w') (by kernel_rfl) ((Below.refl _ _).drew) (fun hHeld => ?_)
  refine wpAnyH_take (i := 0) (v := .pointer (some ⟨w2.heap.size, 0, none⟩)) rfl (by kernel_rfl) (by kernel_rfl) (by kernel_rfl) (fun _ _ _ h => h) (Or.inl ⟨by rfl, fun w' hSw => ?_⟩) (by assumption) ?_
  · (try dsimp only at hSw); have z0 := keepc hSw k3; have z1 := keepc hSw k5; have z2 := keepc hSw a1; have z3 := keepc hSw a2; have z4 := keepc hSw b1; have z5 := keepc hSw b2; go_simp
  try simp only [Act.put, List.getElem_toArray, List.getElem_cons_zero, List.getElem_cons_succ, List.setIfInBounds_toArray, List.set_cons_zero, List.set_cons_succ]
  refine wpAnyH_take (i := 1) (v := sl G2 2 c2) rfl (by kernel_rfl) (by kernel_rfl) (by kernel_rfl) (fun _ _ _ h => h) (Or.inl ⟨by rfl, fun w' hSw => ?_⟩) (by assumption) ?_
  · (try dsimp only at hSw); have z0 := keepc hSw k3; have z1 := keepc hSw k5; have z2 := keepc hSw a1; have z3 := keepc hSw a2; have z4 := keepc hSw b1; have z5 := keepc hSw b2; go_simp
  try simp only [Act.put, List.getElem_toArray, List.getElem_cons_zero, List.getElem_cons_succ, List.setIfInBounds_toArray, List.set_cons_zero, List.set_cons_succ]
  refine wpAnyH_take (i := 2) (v := .int .i64 q) rfl (by kernel_rfl) (by kernel_rfl) (by kernel_rfl) (fun _ _ _ h => h) (Or.inl ⟨by rfl, fun w' hSw => ?_⟩) (by assumption) ?_
  · (try dsimp only at hSw); have z0 := keepc hSw k3; have z1 := keepc hSw k5; have z2 := keepc hSw a1; have z3 := keepc hSw a2; have z4 := keepc hSw b1; have z5 := keepc hSw b2; go_simp
  try simp only [Act.put, List.getElem_toArray, List.getElem_cons_zero, List.getElem_cons_succ, List.setIfInBounds_toArray, List.set_cons_zero, List.set_cons_succ]
  refine wpAnyH_take (i := 3) (v := .pointer (some ⟨G2, q * 2, none⟩)) rfl (by kernel_rfl) (by kernel_rfl) (by kernel_rfl) (fun _ _ _ h => h) (Or.inl ⟨by rfl, fun w' hSw => ?_⟩) (by assumption) ?_
  · (try dsimp only at hSw); have z0 := keepc hSw k3; have z1 := keepc hSw k5; have z2 := keepc hSw a1; have z3 := keepc hSw a2; have z4 := keepc hSw b1; have z5 := keepc hSw b2; go_simp
  try simp only [Act.put, List.getElem_toArray, List.getElem_cons_zero, List.getElem_cons_succ, List.setIfInBounds_toArray, List.set_cons_zero, List.set_cons_succ]
  refine wpAnyH_take (i := 4) (v := .agg #[.int .i64 m.b, .slice i2 4 j2]) rfl (by kernel_rfl) (by kernel_rfl) (by kernel_rfl) (fun _ _ _ h => h) (Or.inl ⟨by rfl, fun w' hSw => ?_⟩) (by assumption) ?_
  · (try dsimp only at hSw); have z0 := keepc hSw k3; have z1 := keepc hSw k5; have z2 := keepc hSw a1; have z3 := keepc hSw a2; have z4 := keepc hSw b1; have z5 := keepc hSw b2; go_simp
  try simp only [Act.put, List.getElem_toArray, List.getElem_cons_zero, List.getElem_cons_succ, List.setIfInBounds_toArray, List.set_cons_zero, List.set_cons_succ]
  refine wpAnyH_take (i := 7) (v := .pointer (some ⟨w1.heap.size, 0, none⟩)) rfl (by kernel_rfl) (by kernel_rfl) (by kernel_rfl) (fun _ _ _ h => h) (Or.inl ⟨by rfl, fun w' hSw => ?_⟩) (by assumption) ?_
  · (try dsimp only at hSw); have z0 := keepc hSw k3; have z1 := keepc hSw k5; have z2 := keepc hSw a1; have z3 := keepc hSw a2; have z4 := keepc hSw b1; have z5 := keepc hSw b2; go_simp
  try simp only [Act.put, List.getElem_toArray, List.getElem_cons_zero, List.getElem_cons_succ, List.setIfInBounds_toArray, List.set_cons_zero, List.set_cons_succ]
  refine wpAnyH_take (i := 8) (v := sl G 2 c) rfl (by kernel_rfl) (by kernel_rfl) (by kernel_rfl) (fun _ _ _ h => h) (Or.inl ⟨by rfl, fun w' hSw => ?_⟩) (by assumption) ?_
  · (try dsimp only at hSw); have z0 := keepc hSw k3; have z1 := keepc hSw k5; have z2 := keepc hSw a1; have z3 := keepc hSw a2; have z4 := keepc hSw b1; have z5 := keepc hSw b2; go_simp
  try simp only [Act.put, List.getElem_toArray, List.getElem_cons_zero, List.getElem_cons_succ, List.setIfInBounds_toArray, List.set_cons_zero, List.set_cons_succ]
  refine wpAnyH_take (i := 9) (v := .int .i64 q) rfl (by kernel_rfl) (by kernel_rfl) (by kernel_rfl) (fun _ _ _ h => h) (Or.inl ⟨by rfl, fun w' hSw => ?_⟩) (by assumption) ?_
  · (try dsimp only at hSw); have z0 := keepc hSw k3; have z1 := keepc hSw k5; have z2 := keepc hSw a1; have z3 := keepc hSw a2; have z4 := keepc hSw b1; have z5 := keepc hSw b2; go_simp
  try simp only [Act.put, List.getElem_toArray, List.getElem_cons_zero, List.getElem_cons_succ, List.setIfInBounds_toArray, List.set_cons_zero, List.set_cons_succ]
  refine wpAnyH_take (i := 10) (v := .pointer (some ⟨G, q * 2, none⟩)) rfl (by kernel_rfl) (by kernel_rfl) (by kernel_rfl) (fun _ _ _ h => h) (Or.inl ⟨by rfl, fun w' hSw => ?_⟩) (by assumption) ?_
  · (try dsimp only at hSw); have z0 := keepc hSw k3; have z1 := keepc hSw k5; have z2 := keepc hSw a1; have z3 := keepc hSw a2; have z4 := keepc hSw b1; have z5 := keepc hSw b2; go_simp
  try simp only [Act.put, List.getElem_toArray, List.getElem_cons_zero, List.getElem_cons_succ, List.setIfInBounds_toArray, List.set_cons_zero, List.set_cons_succ]
  refine wpAnyH_take (i := 11) (v := .agg #[.int .i64 m.b, .slice i1 4 j1]) rfl (by kernel_rfl) (by kernel_rfl) (by kernel_rfl) (fun _ _ _ h => h) (Or.inl ⟨by rfl, fun w' hSw => ?_⟩) (by assumption) ?_
  · (try dsimp only at hSw); have z0 := keepc hSw k3; have z1 := keepc hSw k5; have z2 := keepc hSw a1; have z3 := keepc hSw a2; have z4 := keepc hSw b1; have z5 := keepc hSw b2; go_simp
  try simp only [Act.put, List.getElem_toArray, List.getElem_cons_zero, List.getElem_cons_succ, List.setIfInBounds_toArray, List.set_cons_zero, List.set_cons_succ]
  refine wpAnyH_ready (rs := [5, 12]) (by kernel_rfl) (by simp) ?_
  refine AllReadyH.cons rfl (fun K hK => ?_) (AllReadyH.cons rfl (fun K hK => ?_) AllReadyH.nil)
  · go_simp
    refine hK.out _ _ (hHeld.trans (((Below.refl _ _).alloc (Nat.le_refl _) _).mono hHeld.size)) (fun hHeld => ?_)
    clear hK K
    try simp only [Act.put, List.getElem_toArray, List.getElem_cons_zero, List.getElem_cons_succ, List.setIfInBounds_toArray, List.set_cons_zero, List.set_cons_succ]
    refine wpAnyH_take (i := 6) (v := .agg #[.slice (some ⟨w5.heap.size, 0, none⟩) 1 1]) rfl (by kernel_rfl) (by kernel_rfl) (by kernel_rfl) (fun _ _ _ h => h) (Or.inl ⟨by rfl, fun w' hSw => ?_⟩) (by assumption) ?_
    · (try dsimp only at hSw); have z0 := keepc hSw k3; have z1 := keepc hSw k5; have z2 := keepc hSw a1; have z3 := keepc hSw a2; have z4 := keepc hSw b1; have z5 := keepc hSw b2; go_simp
    try simp only [Act.put, List.getElem_toArray, List.getElem_cons_zero, List.getElem_cons_succ, List.setIfInBounds_toArray, List.set_cons_zero, List.set_cons_succ]
    refine wpAnyH_ready (rs := [12]) (by kernel_rfl) (by simp) ?_
    refine AllReadyH.cons rfl (fun K hK => ?_) AllReadyH.nil
    go_simp
    refine hK.out _ _ (hHeld.trans (((Below.refl _ _).alloc (Nat.le_refl _) _).mono hHeld.size)) (fun hHeld => ?_)
    clear hK K
    try simp only [Act.put, List.getElem_toArray, List.getElem_cons_zero, List.getElem_cons_succ, List.setIfInBounds_toArray, List.set_cons_zero, List.set_cons_succ]
    refine wpAnyH_take (i := 13) (v := .agg #[.slice (some ⟨w5.heap.size + 1, 0, none⟩) 1 1]) rfl (by kernel_rfl) (by kernel_rfl) (by kernel_rfl) (fun _ _ _ h => h) (Or.inl ⟨by rfl, fun w' hSw => ?_⟩) (by assumption) ?_
    · (try dsimp only at hSw); have z0 := keepc hSw k3; have z1 := keepc hSw k5; have z2 := keepc hSw a1; have z3 := keepc hSw a2; have z4 := keepc hSw b1; have z5 := keepc hSw b2; go_simp
    try simp only [Act.put, List.getElem_toArray, List.getElem_cons_zero, List.getElem_cons_succ, List.setIfInBounds_toArray, List.set_cons_zero, List.set_cons_succ]
    have p1 : ((w5.drew.alloc (.cells #[.int .i64 m.b, .slice i2 4 j2] 37)).alloc (.cells #[.int .i64 m.b, .slice i1 4 j1] 37)).heap[w5.heap.size]? = some (.cells #[.int .i64 m.b, .slice i2 4 j2] 37 (0, 0)) := heap_a (heap_alloc_new w5.drew _) _
    have p2 : ((w5.drew.alloc (.cells #[.int .i64 m.b, .slice i2 4 j2] 37)).alloc (.cells #[.int .i64 m.b, .slice i1 4 j1] 37)).heap[w5.heap.size + 1]? = some (.cells #[.int .i64 m.b, .slice i1 4 j1] 37 (0, 0)) := blk2 w5 _ _
    refine wpAnyH_ready (rs := [14]) (by kernel_rfl) (by simp) ?_
    refine AllReadyH.cons rfl (fun K hK => ?_) AllReadyH.nil
    go_simp
    refine (sameCache_same _ _ 1 (fun _ => 4) (fun _ => m) _ (Cv.lone p1 rfl (b3.below hHeld)) (Cv.lone p2 rfl (a3.below hHeld)) (by decide) (fun _ _ => by decide)).mono ?_
    rintro e w6 ⟨rfl, hbc⟩
    refine hK.out _ _ (hHeld.trans (hbc.mono hHeld.size)) (fun hHeld => ?_)
    clear hK K hbc p1 p2
    try simp only [Act.put, List.getElem_toArray, List.getElem_cons_zero, List.getElem_cons_succ, List.setIfInBounds_toArray, List.set_cons_zero, List.set_cons_succ]
    refine wpAnyH_take (i := 15) (v := .bool true) rfl (by kernel_rfl) (by kernel_rfl) (by kernel_rfl) (fun _ _ _ h => h) (Or.inl ⟨by rfl, fun w' hSw => ?_⟩) (by assumption) ?_
    · (try dsimp only at hSw); have z0 := keepc hSw k3; have z1 := keepc hSw k5; have z2 := keepc hSw a1; have z3 := keepc hSw a2; have z4 := keepc hSw b1; have z5 := keepc hSw b2; go_simp
    try simp only [Act.put, List.getElem_toArray, List.getElem_cons_zero, List.getElem_cons_succ, List.setIfInBounds_toArray, List.set_cons_zero, List.set_cons_succ]
    refine wpAnyH_done (by kernel_rfl) ?_ _
    have HF := hide (hB5.trans (hHeld.mono hB5.size))
    clear hHeld hB5
    go_wp2
    go_ret
    exact ⟨rfl, HF.out⟩
  · go_simp
    refine hK.out _ _ (hHeld.trans (((Below.refl _ _).alloc (Nat.le_refl _) _).mono hHeld.size)) (fun hHeld => ?_)
    clear hK K
    try simp only [Act.put, List.getElem_toArray, List.getElem_cons_zero, List.getElem_cons_succ, List.setIfInBounds_toArray, List.set_cons_zero, List.set_cons_succ]
    refine wpAnyH_take (i := 13) (v := .agg #[.slice (some ⟨w5.heap.size, 0, none⟩) 1 1]) rfl (by kernel_rfl) (by kernel_rfl) (by kernel_rfl) (fun _ _ _ h => h) (Or.inl ⟨by rfl, fun w' hSw => ?_⟩) (by assumption) ?_
    · (try dsimp only at hSw); have z0 := keepc hSw k3; have z1 := keepc hSw k5; have z2 := keepc hSw a1; have z3 := keepc hSw a2; have z4 := keepc hSw b1; have z5 := keepc hSw b2; go_simp
    try simp only [Act.put, List.getElem_toArray, List.getElem_cons_zero, List.getElem_cons_succ, List.setIfInBounds_toArray, List.set_cons_zero, List.set_cons_succ]
    refine wpAnyH_ready (rs := [5]) (by kernel_rfl) (by simp) ?_
    refine AllReadyH.cons rfl (fun K hK => ?_) AllReadyH.nil
    go_simp
    refine hK.out _ _ (hHeld.trans (((Below.refl _ _).alloc (Nat.le_refl _) _).mono hHeld.size)) (fun hHeld => ?_)
    clear hK K
    try simp only [Act.put, List.getElem_toArray, List.getElem_cons_zero, List.getElem_cons_succ, List.setIfInBounds_toArray, List.set_cons_zero, List.set_cons_succ]
    refine wpAnyH_take (i := 6) (v := .agg #[.slice (some ⟨w5.heap.size + 1, 0, none⟩) 1 1]) rfl (by kernel_rfl) (by kernel_rfl) (by kernel_rfl) (fun _ _ _ h => h) (Or.inl ⟨by rfl, fun w' hSw => ?_⟩) (by assumption) ?_
    · (try dsimp only at hSw); have z0 := keepc hSw k3; have z1 := keepc hSw k5; have z2 := keepc hSw a1; have z3 := keepc hSw a2; have z4 := keepc hSw b1; have z5 := keepc hSw b2; go_simp
    try simp only [Act.put, List.getElem_toArray, List.getElem_cons_zero, List.getElem_cons_succ, List.setIfInBounds_toArray, List.set_cons_zero, List.set_cons_succ]
    have p1 : ((w5.drew.alloc (.cells #[.int .i64 m.b, .slice i1 4 j1] 37)).alloc (.cells #[.int .i64 m.b, .slice i2 4 j2] 37)).heap[w5.heap.size]? = some (.cells #[.int .i64 m.b, .slice i1 4 j1] 37 (0, 0)) := heap_a (heap_alloc_new w5.drew _) _
    have p2 : ((w5.drew.alloc (.cells #[.int .i64 m.b, .slice i1 4 j1] 37)).alloc (.cells #[.int .i64 m.b, .slice i2 4 j2] 37)).heap[w5.heap.size + 1]? = some (.cells #[.int .i64 m.b, .slice i2 4 j2] 37 (0, 0)) := blk2 w5 _ _
    refine wpAnyH_ready (rs := [14]) (by kernel_rfl) (by simp) ?_
    refine AllReadyH.cons rfl (fun K hK => ?_) AllReadyH.nil
    go_simp
    refine (sameCache_same _ _ 1 (fun _ => 4) (fun _ => m) _ (Cv.lone p2 rfl (b3.below hHeld)) (Cv.lone p1 rfl (a3.below hHeld)) (by decide) (fun _ _ => by decide)).mono ?_
    rintro e w6 ⟨rfl, hbc⟩
    refine hK.out _ _ (hHeld.trans (hbc.mono hHeld.size)) (fun hHeld => ?_)
    clear hK K hbc p1 p2
    try simp only [Act.put, List.getElem_toArray, List.getElem_cons_zero, List.getElem_cons_succ, List.setIfInBounds_toArray, List.set_cons_zero, List.set_cons_succ]
    refine wpAnyH_take (i := 15) (v := .bool true) rfl (by kernel_rfl) (by kernel_rfl) (by kernel_rfl) (fun _ _ _ h => h) (Or.inl ⟨by rfl, fun w' hSw => ?_⟩) (by assumption) ?_
    · (try dsimp only at hSw); have z0 := keepc hSw k3; have z1 := keepc hSw k5; have z2 := keepc hSw a1; have z3 := keepc hSw a2; have z4 := keepc hSw b1; have z5 := keepc hSw b2; go_simp
    try simp only [Act.put, List.getElem_toArray, List.getElem_cons_zero, List.getElem_cons_succ, List.setIfInBounds_toArray, List.set_cons_zero, List.set_cons_succ]
    refine wpAnyH_done (by kernel_rfl) ?_ _
    have HF := hide (hB5.trans (hHeld.mono hB5.size))
    clear hHeld hB5
    go_wp2
    go_ret
    exact ⟨rfl, HF.out⟩

set_option maxRecDepth 100000 in
theorem lifted (os : Os) (started : os.Started) (H : Type) (enc : TypeId × Value → H) :
    ReturnsInHanded {} Try.checked os 6 .any (Rows.fnApartSpec.pre6 enc Try.prog Try.f6 Rows.fnApartRow.domain false) (Rows.fnApartSpec.post enc Try.prog Try.f6 false true false false) := by
  refine returnsInHanded_of_change (C := Try.checked) own started (by kernel_rfl) Try.func6
    (ChangeSpec.witness6 (enc := enc) (C := Try.checked) false ⟨#[], #[.slice none 0 0], []⟩ 8 (by kernel_rfl) (by kernel_rfl) (by kernel_rfl) (by kernel_rfl)) ?_
  intro W base args ds gs before hval0 hW hcnd _
  have hval : ∀ (j : Nat) t v, Try.f6.params[j]? = some t → args[j]? = some v → Value.okWide Try.prog W .any base t v := hval0
  have hW' := hW
  obtain ⟨p, q, hA0, hV, rfl, hfz, hnd⟩ := hW
  have hA : DataW.TrodAll enc Try.prog W 0 (fun _ => true) true Try.f6.params.toList args.toList ds p := hA0
  rw [Try.params6] at hA hval
  obtain ⟨v0, vs0, d0, ds0, p0, q0, hargs, rfl, rfl, h0, r0⟩ := trodAll_cons hA
  obtain ⟨rfl, rfl, rfl⟩ := trodAll_nil r0
  obtain rfl : args = #[v0] := by cases args; simp_all
  obtain ⟨rfl, rfl⟩ := trodVars_none hV
  obtain ⟨a0, len0, cap0, rfl⟩ := okWide_slice Try.underlying22 (hval 0 22 v0 rfl rfl)
  have k0 := h0
  have lt0 : ∀ x ∈ p0, x.block < W.heap.size := by obtain ⟨m, hm⟩ := k0; exact DataW.trod_lt m _ _ _ hm
  obtain ⟨z0, w0⟩ : ∃ zs, IsRow .u8 W a0 len0 cap0 zs := by
    obtain ⟨fuel, hf⟩ := h0
    rcases open_ints Try.underlying22 Try.underlying5 (by kernel_rfl) hf with ⟨hcs, _⟩ | ⟨x, l, c, zs, hcs, _, hl, hm, hz, _, hcell, hwz⟩
    · simp [Value.cells] at hcs
      obtain ⟨rfl, rfl, rfl⟩ := hcs
      exact ⟨[], .inl ⟨rfl, rfl, rfl, rfl⟩⟩
    · simp [Value.cells] at hcs
      obtain ⟨rfl, rfl, rfl⟩ := hcs
      exact ⟨zs, .inr ⟨_, rfl, hl, hm, by simpa using hz, hcell, hwz⟩⟩
  clear hA0 hval0
  refine (walk a0 len0 cap0 W (row_bt w0)).mono fun e W' ⟨he, bel⟩ => ?_
  subst he
  exact ⟨_, rfl, _, _, _, [], _, [], hW', trodAll_mk1 (shut_bool Try.underlying4 _), (trodAll_cons_mk (Below.trod laidOut (by kernel_rfl) (of_decide_eq_true (by kernel_rfl)) k0 bel lt0) trodAll_mk0), rfl, bel.frame _, fun h => by cases h⟩

theorem over : Rows.fnApartRow.holds Try.pinned (OpenSpec.ofChange Rows.fnApartSpec) :=
  OpenClaim.holds_of_wide 6 Try.f6 rfl rfl rfl rfl rfl rfl rfl ⟨rfl, rfl, rfl, rfl, rfl⟩ rfl rfl rfl rfl rfl (by kernel_rfl) Try.func6 (by kernel_rfl)
    (of_decide_eq_true (by kernel_rfl)) (by unfold Func.isWrapper; first | (rw [if_pos (by decide +kernel)]; kernel_rfl) | (rw [if_neg (by decide +kernel)]; exact ⟨rfl, rfl⟩))
    (fun os started H enc _ => lifted os started H enc)

theorem proved : Rows.FnApartSaid := over
end Go.Proofs.Ytofnkbpkjgapbaa.fnApart

namespace Go.Proofs.Ytofnkbpkjgapbaa
theorem fnApart_holds : Rows.FnApartSaid := fnApart.proved
end Go.Proofs.Ytofnkbpkjgapbaa
