/- Proved: for every slice of bytes, of whatever length, laws.FnFour returns true and leaves its argument as it read. No condition. -/
import Derived.Test.YtofnkbpkjgapbaaRows
import Derived.Test.YtofnkbpkjgapbaaCdP
import Derived.WalkKit
import Derived.ProofKit
import Derived.OpenShut
import Derived.ShutString
import Derived.ChangeOld
import Derived.Below
import Derived.OpenVars
namespace Go.Proofs.Ytofnkbpkjgapbaa.fnFour
open Go.ChangeShapes Go.WideShapes Go.ChangeAt Go.WideMaps Go.WideElems Go.RowKit
set_option linter.unusedVariables false
set_option linter.unusedSimpArgs false

theorem own : ownKnob Try.prog.godebug = none := by kernel_rfl
theorem laidOut : laidOutB Try.prog = true := by kernel_rfl

def IsRow (k : IntKind) (w : World) (a : Option Addr) (len cap : Nat) (zs : List Int) : Prop :=
  (a = none ∧ len = 0 ∧ cap = 0 ∧ zs = []) ∨
  ∃ x, a = some x ∧ len ≤ cap ∧ cap ≤ maxLen ∧ zs.length = cap ∧ (∀ i, i < zs.length → w.cell? (x.add i) = some (.int k (zs.getD i 0))) ∧ ∀ n ∈ zs, (Lit.int k n).wf = true

theorem row_bt {w : World} {a : Option Addr} {len cap : Nat} {z : List Int} (h : IsRow .u8 w a len cap z) : Bt w a len := by
  intro h0
  rcases h with ⟨rfl, rfl, rfl, rfl⟩ | ⟨x, rfl, hl, hm, hz, hcell, hwf⟩
  · exact absurd h0 (by simp)
  · obtain ⟨b, off, spot⟩ := x
    have hc := hcell 0 (by omega)
    have hspot : spot = none := by simpa [Addr.add] using World.cell?_spot hc
    subst hspot
    refine ⟨b, off, rfl, fun j hj => ?_⟩
    have hcj := hcell j (by omega)
    rw [addr_add] at hcj
    have hj' : j < z.length := by omega
    have e : z.getD j 0 = z[j] := by simp [hj']
    have hw := bounds_u8 (hwf z[j] (List.getElem_mem hj'))
    exact ⟨z.getD j 0, by rw [e]; exact hw.1, by rw [e]; exact hw.2, hcj⟩

set_option maxHeartbeats 8000000 in
set_option maxRecDepth 20000 in
theorem walk (a0 : Option Addr) (len0 cap0 : Nat) (w : World) (hs0 : Bt w a0 len0) :
    Calls Try.prog 5 #[.slice a0 len0 cap0] w fun e w' => e = .returned (.bool true) ∧ Below w.heap.size w w' := by
  by_cases hbig : (1048576 : Int) < (len0 : Int)
  · go_enter Try.func5, Try.ntmps5
    go_wp2_with (first | (go_at_call 8; go_in) | fail)
    go_ret
    exact ⟨rfl, Below.refl _ _⟩
  have hb : len0 ≤ 1048576 := by omega
  by_cases hl0 : len0 = 0
  · subst hl0
    go_enter Try.func5, Try.ntmps5
    go_wp2_with (first | (go_at_call 8; go_in) | fail)
    go_ret
    exact ⟨rfl, Below.refl _ _⟩
  obtain ⟨bb, off, rfl, hcode⟩ := hs0 (by omega)
  obtain ⟨y, hy0, hy1, hyc⟩ := hcode 0 (by omega)
  have hs1 : Bt w (some ⟨bb, off, none⟩) len0 := fun _ => ⟨bb, off, rfl, hcode⟩
  have hd0 : ((len0 : Int) == 0) = false := by simp; omega
  have hd1 : (0 : Int) < (len0 : Int) := by omega
  go_enter Try.func5, Try.ntmps5
  go_wp2_with (first | (go_at_call 8; go_in) | fail)
  refine (drawCacheOk_any _ len0 cap0 _ hs1 hb).mono ?_
  rintro e w1 ⟨G, c, ib, s, t, rfl, hc1, hb1⟩
  clear hs1 hbig hb hs0 hcode hd0
  have k3 := boxc w1 (sl G 2 c)
  have v1 := hc1.cv.below (boxb w1 (sl G 2 c))
  have hB1 := hb1.trans ((boxb w1 (sl G 2 c)).mono hb1.size)
  have hx3 : (w1.alloc (.cells #[sl G 2 c] 26)).heap[w1.heap.size]? = some (.cells #[sl G 2 c] 26 (0, 0)) := heap_alloc_new _ _
  have hle : w.heap.size ≤ w1.heap.size := hb1.size
  clear hc1 hb1
  cases hok : Ca.cokB 2 (fun _ => 4) (two s t)
  · go_wp2
    refine wp_region_held_drew (S := fun w' => Below (w1.alloc (.cells #[sl G 2 c] 26)).heap.size (w1.alloc (.cells #[sl G 2 c] 26)) w') (by kernel_rfl) ((Below.refl _ _).drew) (fun hHeld => ?_)
    refine wpAnyH_take (i := 0) (v := .agg #[sl G 2 c]) rfl (by kernel_rfl) (by kernel_rfl) (by kernel_rfl) (fun _ _ _ h => h) (Or.inl ⟨by rfl, fun w' hSw => ?_⟩) (by assumption) ?_
    · (try dsimp only at hSw); have z0 := keepc hSw k3; go_simp
    try simp only [Act.put, List.getElem_toArray, List.getElem_cons_zero, List.getElem_cons_succ, List.setIfInBounds_toArray, List.set_cons_zero, List.set_cons_succ]
    refine wpAnyH_take (i := 2) (v := .agg #[sl G 2 c]) rfl (by kernel_rfl) (by kernel_rfl) (by kernel_rfl) (fun _ _ _ h => h) (Or.inl ⟨by rfl, fun w' hSw => ?_⟩) (by assumption) ?_
    · (try dsimp only at hSw); have z0 := keepc hSw k3; go_simp
    try simp only [Act.put, List.getElem_toArray, List.getElem_cons_zero, List.getElem_cons_succ, List.setIfInBounds_toArray, List.set_cons_zero, List.set_cons_succ]
    refine wpAnyH_ready (rs := [1]) (by kernel_rfl) (by simp) ?_
    refine AllReadyH.cons rfl (fun K hK => ?_) AllReadyH.nil
    go_simp
    refine (implCacheOk_any (sl G 2 c) 2 (fun _ => 4) (two s t) _ (v1.below hHeld)).mono ?_
    rintro e wc1 ⟨rfl, hbc⟩
    rw [hok]
    refine hK.out _ _ (hHeld.trans (hbc.mono hHeld.size)) (fun hHeld => ?_)
    clear hK K hbc
    try simp only [Act.put, List.getElem_toArray, List.getElem_cons_zero, List.getElem_cons_succ, List.setIfInBounds_toArray, List.set_cons_zero, List.set_cons_succ]
    refine wpAnyH_ready (rs := [3]) (by kernel_rfl) (by simp) ?_
    refine AllReadyH.cons rfl (fun K hK => ?_) AllReadyH.nil
    go_simp
    refine (specCacheOk_any (sl G 2 c) 2 (fun _ => 4) (two s t) _ (v1.below hHeld)).mono ?_
    rintro e wc3 ⟨rfl, hbc⟩
    rw [hok]
    refine hK.out _ _ (hHeld.trans (hbc.mono hHeld.size)) (fun hHeld => ?_)
    clear hK K hbc
    try simp only [Act.put, List.getElem_toArray, List.getElem_cons_zero, List.getElem_cons_succ, List.setIfInBounds_toArray, List.set_cons_zero, List.set_cons_succ]
    refine wpAnyH_take (i := 4) (v := .bool false) rfl (by kernel_rfl) (by kernel_rfl) (by kernel_rfl) (fun _ _ _ h => h) (Or.inl ⟨by rfl, fun w' hSw => ?_⟩) (by assumption) ?_
    · (try dsimp only at hSw); have z0 := keepc hSw k3; go_simp
    try simp only [Act.put, List.getElem_toArray, List.getElem_cons_zero, List.getElem_cons_succ, List.setIfInBounds_toArray, List.set_cons_zero, List.set_cons_succ]
    refine wpAnyH_take (i := 5) (v := .bool false) rfl (by kernel_rfl) (by kernel_rfl) (by kernel_rfl) (fun _ _ _ h => h) (Or.inl ⟨by rfl, fun w' hSw => ?_⟩) (by assumption) ?_
    · (try dsimp only at hSw); have z0 := keepc hSw k3; go_simp
    try simp only [Act.put, List.getElem_toArray, List.getElem_cons_zero, List.getElem_cons_succ, List.setIfInBounds_toArray, List.set_cons_zero, List.set_cons_succ]
    refine wpAnyH_take (i := 6) (v := .agg #[sl G 2 c]) rfl (by kernel_rfl) (by kernel_rfl) (by kernel_rfl) (fun _ _ _ h => h) (Or.inl ⟨by rfl, fun w' hSw => ?_⟩) (by assumption) ?_
    · (try dsimp only at hSw); have z0 := keepc hSw k3; go_simp
    try simp only [Act.put, List.getElem_toArray, List.getElem_cons_zero, List.getElem_cons_succ, List.setIfInBounds_toArray, List.set_cons_zero, List.set_cons_succ]
    refine wpAnyH_ready (rs := [7]) (by kernel_rfl) (by simp) ?_
    refine AllReadyH.cons rfl (fun K hK => ?_) AllReadyH.nil
    go_simp
    refine (specCacheOk_any (sl G 2 c) 2 (fun _ => 4) (two s t) _ (v1.below hHeld)).mono ?_
    rintro e wc7 ⟨rfl, hbc⟩
    rw [hok]
    refine hK.out _ _ (hHeld.trans (hbc.mono hHeld.size)) (fun hHeld => ?_)
    clear hK K hbc
    try simp only [Act.put, List.getElem_toArray, List.getElem_cons_zero, List.getElem_cons_succ, List.setIfInBounds_toArray, List.set_cons_zero, List.set_cons_succ]
    refine wpAnyH_take (i := 8) (v := .bool true) rfl (by kernel_rfl) (by kernel_rfl) (by kernel_rfl) (fun _ _ _ h => h) (Or.inl ⟨by rfl, fun w' hSw => ?_⟩) (by assumption) ?_
    · (try dsimp only at hSw); have z0 := keepc hSw k3; go_simp
    try simp only [Act.put, List.getElem_toArray, List.getElem_cons_zero, List.getElem_cons_succ, List.setIfInBounds_toArray, List.set_cons_zero, List.set_cons_succ]
    refine wpAnyH_take (i := 9) (v := .bool true) rfl (by kernel_rfl) (by kernel_rfl) (by kernel_rfl) (fun _ _ _ h => h) (Or.inl ⟨by rfl, fun w' hSw => ?_⟩) (by assumption) ?_
    · (try dsimp only at hSw); have z0 := keepc hSw k3; go_simp
    try simp only [Act.put, List.getElem_toArray, List.getElem_cons_zero, List.getElem_cons_succ, List.setIfInBounds_toArray, List.set_cons_zero, List.set_cons_succ]
    refine wpAnyH_done (by kernel_rfl) ?_ _
    replace k3 := keepc hHeld k3
    replace v1 := v1.below hHeld
    replace hx3 := heap_b hx3 hHeld
    have hB2 := hB1.trans (hHeld.mono hB1.size)
    clear hHeld hB1
    go_wp2
    refine wp_region_held_drew (S := fun w' => Below (wc7).heap.size (wc7) w') (by kernel_rfl) ((Below.refl _ _).drew) (fun hHeld => ?_)
    refine wpAnyH_take (i := 0) (v := .agg #[sl G 2 c]) rfl (by kernel_rfl) (by kernel_rfl) (by kernel_rfl) (fun _ _ _ h => h) (Or.inl ⟨by rfl, fun w' hSw => ?_⟩) (by assumption) ?_
    · (try dsimp only at hSw); have z0 := keepc hSw k3; go_simp
    try simp only [Act.put, List.getElem_toArray, List.getElem_cons_zero, List.getElem_cons_succ, List.setIfInBounds_toArray, List.set_cons_zero, List.set_cons_succ]
    refine wpAnyH_take (i := 2) (v := .agg #[sl G 2 c]) rfl (by kernel_rfl) (by kernel_rfl) (by kernel_rfl) (fun _ _ _ h => h) (Or.inl ⟨by rfl, fun w' hSw => ?_⟩) (by assumption) ?_
    · (try dsimp only at hSw); have z0 := keepc hSw k3; go_simp
    try simp only [Act.put, List.getElem_toArray, List.getElem_cons_zero, List.getElem_cons_succ, List.setIfInBounds_toArray, List.set_cons_zero, List.set_cons_succ]
    refine wpAnyH_ready (rs := [1]) (by kernel_rfl) (by simp) ?_
    refine AllReadyH.cons rfl (fun K hK => ?_) AllReadyH.nil
    go_simp
    refine (implCacheOk_any (sl G 2 c) 2 (fun _ => 4) (two s t) _ (v1.below hHeld)).mono ?_
    rintro e wc1 ⟨rfl, hbc⟩
    rw [hok]
    refine hK.out _ _ (hHeld.trans (hbc.mono hHeld.size)) (fun hHeld => ?_)
    clear hK K hbc
    try simp only [Act.put, List.getElem_toArray, List.getElem_cons_zero, List.getElem_cons_succ, List.setIfInBounds_toArray, List.set_cons_zero, List.set_cons_succ]
    refine wpAnyH_ready (rs := [3]) (by kernel_rfl) (by simp) ?_
    refine AllReadyH.cons rfl (fun K hK => ?_) AllReadyH.nil
    go_simp
    refine (specCacheOk_any (sl G 2 c) 2 (fun _ => 4) (two s t) _ (v1.below hHeld)).mono ?_
    rintro e wc3 ⟨rfl, hbc⟩
    rw [hok]
    refine hK.out _ _ (hHeld.trans (hbc.mono hHeld.size)) (fun hHeld => ?_)
    clear hK K hbc
    try simp only [Act.put, List.getElem_toArray, List.getElem_cons_zero, List.getElem_cons_succ, List.setIfInBounds_toArray, List.set_cons_zero, List.set_cons_succ]
    refine wpAnyH_take (i := 4) (v := .bool true) rfl (by kernel_rfl) (by kernel_rfl) (by kernel_rfl) (fun _ _ _ h => h) (Or.inl ⟨by rfl, fun w' hSw => ?_⟩) (by assumption) ?_
    · (try dsimp only at hSw); have z0 := keepc hSw k3; go_simp
    try simp only [Act.put, List.getElem_toArray, List.getElem_cons_zero, List.getElem_cons_succ, List.setIfInBounds_toArray, List.set_cons_zero, List.set_cons_succ]
    refine wpAnyH_take (i := 5) (v := .bool true) rfl (by kernel_rfl) (by kernel_rfl) (by kernel_rfl) (fun _ _ _ h => h) (Or.inl ⟨by rfl, fun w' hSw => ?_⟩) (by assumption) ?_
    · (try dsimp only at hSw); have z0 := keepc hSw k3; go_simp
    try simp only [Act.put, List.getElem_toArray, List.getElem_cons_zero, List.getElem_cons_succ, List.setIfInBounds_toArray, List.set_cons_zero, List.set_cons_succ]
    refine wpAnyH_done (by kernel_rfl) ?_ _
    have HF := hide (hB2.trans (hHeld.mono hB2.size))
    clear hHeld hB2 k3 v1
    go_wp2
    go_ret
    exact ⟨rfl, HF.out⟩
  go_wp2
  refine wp_region_held_drew (S := fun w' => Below (w1.alloc (.cells #[sl G 2 c] 26)).heap.size (w1.alloc (.cells #[sl G 2 c] 26)) w') (by kernel_rfl) ((Below.refl _ _).drew) (fun hHeld => ?_)
  refine wpAnyH_take (i := 0) (v := .agg #[sl G 2 c]) rfl (by kernel_rfl) (by kernel_rfl) (by kernel_rfl) (fun _ _ _ h => h) (Or.inl ⟨by rfl, fun w' hSw => ?_⟩) (by assumption) ?_
  · (try dsimp only at hSw); have z0 := keepc hSw k3; go_simp
  try simp only [Act.put, List.getElem_toArray, List.getElem_cons_zero, List.getElem_cons_succ, List.setIfInBounds_toArray, List.set_cons_zero, List.set_cons_succ]
  refine wpAnyH_take (i := 2) (v := .agg #[sl G 2 c]) rfl (by kernel_rfl) (by kernel_rfl) (by kernel_rfl) (fun _ _ _ h => h) (Or.inl ⟨by rfl, fun w' hSw => ?_⟩) (by assumption) ?_
  · (try dsimp only at hSw); have z0 := keepc hSw k3; go_simp
  try simp only [Act.put, List.getElem_toArray, List.getElem_cons_zero, List.getElem_cons_succ, List.setIfInBounds_toArray, List.set_cons_zero, List.set_cons_succ]
  refine wpAnyH_ready (rs := [1]) (by kernel_rfl) (by simp) ?_
  refine AllReadyH.cons rfl (fun K hK => ?_) AllReadyH.nil
  go_simp
  refine (implCacheOk_any (sl G 2 c) 2 (fun _ => 4) (two s t) _ (v1.below hHeld)).mono ?_
  rintro e wc1 ⟨rfl, hbc⟩
  rw [hok]
  refine hK.out _ _ (hHeld.trans (hbc.mono hHeld.size)) (fun hHeld => ?_)
  clear hK K hbc
  try simp only [Act.put, List.getElem_toArray, List.getElem_cons_zero, List.getElem_cons_succ, List.setIfInBounds_toArray, List.set_cons_zero, List.set_cons_succ]
  refine wpAnyH_ready (rs := [3]) (by kernel_rfl) (by simp) ?_
  refine AllReadyH.cons rfl (fun K hK => ?_) AllReadyH.nil
  go_simp
  refine (specCacheOk_any (sl G 2 c) 2 (fun _ => 4) (two s t) _ (v1.below hHeld)).mono ?_
  rintro e wc3 ⟨rfl, hbc⟩
  rw [hok]
  refine hK.out _ _ (hHeld.trans (hbc.mono hHeld.size)) (fun hHeld => ?_)
  clear hK K hbc
  try simp only [Act.put, List.getElem_toArray, List.getElem_cons_zero, List.getElem_cons_succ, List.setIfInBounds_toArray, List.set_cons_zero, List.set_cons_succ]
  refine wpAnyH_take (i := 4) (v := .bool false) rfl (by kernel_rfl) (by kernel_rfl) (by kernel_rfl) (fun _ _ _ h => h) (Or.inl ⟨by rfl, fun w' hSw => ?_⟩) (by assumption) ?_
  · (try dsimp only at hSw); have z0 := keepc hSw k3; go_simp
  try simp only [Act.put, List.getElem_toArray, List.getElem_cons_zero, List.getElem_cons_succ, List.setIfInBounds_toArray, List.set_cons_zero, List.set_cons_succ]
  refine wpAnyH_take (i := 5) (v := .bool false) rfl (by kernel_rfl) (by kernel_rfl) (by kernel_rfl) (fun _ _ _ h => h) (Or.inl ⟨by rfl, fun w' hSw => ?_⟩) (by assumption) ?_
  · (try dsimp only at hSw); have z0 := keepc hSw k3; go_simp
  try simp only [Act.put, List.getElem_toArray, List.getElem_cons_zero, List.getElem_cons_succ, List.setIfInBounds_toArray, List.set_cons_zero, List.set_cons_succ]
  refine wpAnyH_take (i := 6) (v := .agg #[sl G 2 c]) rfl (by kernel_rfl) (by kernel_rfl) (by kernel_rfl) (fun _ _ _ h => h) (Or.inl ⟨by rfl, fun w' hSw => ?_⟩) (by assumption) ?_
  · (try dsimp only at hSw); have z0 := keepc hSw k3; go_simp
  try simp only [Act.put, List.getElem_toArray, List.getElem_cons_zero, List.getElem_cons_succ, List.setIfInBounds_toArray, List.set_cons_zero, List.set_cons_succ]
  refine wpAnyH_ready (rs := [7]) (by kernel_rfl) (by simp) ?_
  refine AllReadyH.cons rfl (fun K hK => ?_) AllReadyH.nil
  go_simp
  refine (specCacheOk_any (sl G 2 c) 2 (fun _ => 4) (two s t) _ (v1.below hHeld)).mono ?_
  rintro e wc7 ⟨rfl, hbc⟩
  rw [hok]
  refine hK.out _ _ (hHeld.trans (hbc.mono hHeld.size)) (fun hHeld => ?_)
  clear hK K hbc
  try simp only [Act.put, List.getElem_toArray, List.getElem_cons_zero, List.getElem_cons_succ, List.setIfInBounds_toArray, List.set_cons_zero, List.set_cons_succ]
  refine wpAnyH_take (i := 8) (v := .bool false) rfl (by kernel_rfl) (by kernel_rfl) (by kernel_rfl) (fun _ _ _ h => h) (Or.inl ⟨by rfl, fun w' hSw => ?_⟩) (by assumption) ?_
  · (try dsimp only at hSw); have z0 := keepc hSw k3; go_simp
  try simp only [Act.put, List.getElem_toArray, List.getElem_cons_zero, List.getElem_cons_succ, List.setIfInBounds_toArray, List.set_cons_zero, List.set_cons_succ]
  refine wpAnyH_take (i := 9) (v := .bool false) rfl (by kernel_rfl) (by kernel_rfl) (by kernel_rfl) (fun _ _ _ h => h) (Or.inl ⟨by rfl, fun w' hSw => ?_⟩) (by assumption) ?_
  · (try dsimp only at hSw); have z0 := keepc hSw k3; go_simp
  try simp only [Act.put, List.getElem_toArray, List.getElem_cons_zero, List.getElem_cons_succ, List.setIfInBounds_toArray, List.set_cons_zero, List.set_cons_succ]
  refine wpAnyH_done (by kernel_rfl) ?_ _
  replace k3 := keepc hHeld k3
  replace v1 := v1.below hHeld
  replace hx3 := heap_b hx3 hHeld
  have hB2 := hB1.trans (hHeld.mono hB1.size)
  clear hHeld hB1
  have hr := cok_right hok
  obtain ⟨f, hf⟩ : ∃ f : Int, y + 400 = f := ⟨_, rfl⟩
  have hyc2 : wc7.cell? ⟨bb, off, none⟩ = some (.int .u8 y) := Below.keep hB2 _ _ hyc
  have hwf : wrap64 (y + 400) = f := by rw [← hf]; exact Go.IntWalk.wrap64_in _ (by omega)
  have hf0 : 400 ≤ f ∧ f ≤ 655 := by omega
  obtain ⟨q, hq2, hqf, hqr, hqt⟩ := Ca.at2_right hr.1 hr.2 f
  have hmod : wrap64 (f.tmod 2) = (q : Int) := by rw [Int.tmod_eq_emod_of_nonneg (by omega), hqf]; exact Go.IntWalk.wrap64_in _ (by omega)
  obtain ⟨_, ia, ic, _, c1, hws⟩ := v1.one hq2
  rw [hqt] at hws
  obtain ⟨m, hm⟩ : ∃ m, Ca.at2 s t f = m := ⟨_, rfl⟩
  rw [hm] at hws
  obtain ⟨ia', ic', e0, hws⟩ := hws
  obtain ⟨rfl, rfl⟩ : ia = ia' ∧ ic = ic' := by simp at e0; exact e0
  obtain ⟨pb, po, rfl, hways⟩ := hws (by omega)
  have hq0 : (0 : Int) ≤ (q : Int) := by omega
  have hq1 : (q : Int) < 2 := by omega
  have HV := hide v1
  have HX := hide hx3
  have HB2 := hide hB2
  clear e0 hws hyc hB2 v1 hx3 hqr hqt
  go_wp2
  clear hwf hyc2
  go_loopw [5] (fun i wr => ∃ k : Nat, k ≤ 4 ∧ i = .int .i64 k ∧ Below wc7.heap.size wc7 wr ∧ Hid (∀ j, j < k → m.u j = true ∧ m.a j < f)) (fun i _ => 4 - (intOf i).toNat)
  case atStart => exact ⟨0, by omega, rfl, Below.refl _ _, hide (fun j hj => by omega)⟩
  case round =>
    obtain ⟨k, hk, rfl, hbk, HA⟩ := hrel
    have d3 := keepc hbk k3
    have d1 := keepc hbk c1
    by_cases hlt : k < 4
    · obtain ⟨x0, x1⟩ := hways k hlt
      have x0 := keepc hbk x0
      have x1 := keepc hbk x1
      have HW : Hid (Below wc7.heap.size wc7 (wr.alloc (.cells #[.bool (m.u k), .int .i64 (m.a k)] 39))) := hide (hbk.alloc hbk.size _)
      have hk0 : (0 : Int) ≤ (k : Int) := by omega
      have hk1 : (k : Int) < 4 := by omega
      have HN : Hid (m.u k = true → m.a k < f → ∀ j, j < k + 1 → m.u j = true ∧ m.a j < f) := hide (fun h1 h2 j hj => by
        by_cases e : j = k
        · subst e; exact ⟨h1, h2⟩
        · exact HA.out j (by omega))
      clear HA hways
      cases hu : m.u k
      · rw [hu] at x0 HW HN
        have HF := hide (HB2.out.trans (HW.out.mono HB2.out.size))
        clear HN hu hm
        go_wp2
        go_ret
        exact ⟨rfl, HF.out⟩
      · rw [hu] at x0 HW HN
        generalize m.a k = ak at x1 HW HN
        by_cases ha : f ≤ ak
        · have HF := hide (HB2.out.trans (HW.out.mono HB2.out.size))
          clear HN hu hm
          go_wp2
          go_ret
          exact ⟨rfl, HF.out⟩
        · have hda : decide (f ≤ ak) = false := by simp; omega
          have HN2 := hide (HN.out rfl (by omega))
          clear HN hu hm ha
          go_wp2
          go_roundw
          case rel => exact ⟨k + 1, by omega, by go_num, HW.out, HN2⟩
          case measure => simp [intOf]; omega
    · have ek : k = 4 := by omega
      have HQ : Hid (Ca.cokB 2 (fun _ => 4) (two (Ca.rn s t (fun i => f + 2 * (i : Int)) 4).1 (Ca.rn s t (fun i => f + 2 * (i : Int)) 4).2) = true ∧ ∀ i : Nat, i < 4 → Ca.hldB 2 (fun _ => 4) (two (Ca.rn s t (fun i => f + 2 * (i : Int)) 4).1 (Ca.rn s t (fun i => f + 2 * (i : Int)) 4).2) (f + 2 * (i : Int)) = true) := hide (Ca.four_says hr.1 hr.2 (by omega) (by omega) (fun j hj => by rw [hm]; exact HA.out j (by omega)))
      have HO : Hid (∀ j, j ≤ 4 → Ca.cokB 2 (fun _ => 4) (two (Ca.rn s t (fun i => f + 2 * (i : Int)) j).1 (Ca.rn s t (fun i => f + 2 * (i : Int)) j).2) = true) := hide (fun j hj => by
        obtain ⟨q1, q2⟩ := Ca.rn_right (z := fun i => f + 2 * (i : Int)) hr.1 hr.2 j (fun i hi => decide_eq_true ⟨by omega, by omega⟩)
        exact Ca.cok_of q1 q2)
      have HB3 := hide (HB2.out.trans (hbk.mono HB2.out.size))
      have HV3 := hide (HV.out.below hbk)
      have HX3 := hide (heap_b HX.out hbk)
      clear HA HV HX HB2 hways hbk hm hr hok
      have hdk : decide ((k : Int) < 4) = false := by simp; omega
      clear ek
      go_wp2
      clear c1 d1 k3 d3 hmod hdk hlt hk hq0 hq1 hq2 hqf
      go_loopw [7] (fun i wr => ∃ (j G' c' : Nat), j ≤ 4 ∧ i = .int .i64 j ∧ wr.heap[w1.heap.size]? = some (.cells #[sl G' 2 c'] 26 (0, 0)) ∧ Hid (Cv wr (sl G' 2 c') 2 (fun _ => 4) (two (Ca.rn s t (fun i => f + 2 * (i : Int)) j).1 (Ca.rn s t (fun i => f + 2 * (i : Int)) j).2)) ∧ Hid (Below w.heap.size w wr)) (fun i _ => 4 - (intOf i).toNat)
      case atStart => exact ⟨0, G, c, by omega, rfl, HX3.out, HV3, HB3⟩
      case round =>
        clear HX3 HV3 HB3
        obtain ⟨j, G', c', hj, rfl, hx, HV, HB⟩ := hrel
        have d3 : wr.cell? ⟨w1.heap.size, 0, none⟩ = some (sl G' 2 c') := cell_of_row _ _ 0 _ _ _ hx
        by_cases hlt : j < 4
        · have hdj : decide ((j : Int) < 4) = true := by simp; omega
          have hw2 : wrap64 (2 * (j : Int)) = 2 * (j : Int) := Go.IntWalk.wrap64_in _ (by omega)
          have hw3 : wrap64 (f + 2 * (j : Int)) = f + 2 * (j : Int) := Go.IntWalk.wrap64_in _ (by omega)
          have hxr : inR (f + 2 * (j : Int)) 1000 = true := decide_eq_true ⟨by omega, by omega⟩
          go_wp2_with fail
          refine (implLooked_any (sl G' 2 c') 2 (fun _ => 4) _ (f + 2 * (j : Int)) _ HV.out).mono ?_
          rintro e w6 hp
          obtain ⟨G6, c6, ib6, rfl, hc6, hb6⟩ := hp.get (HO.out j (by omega)) hxr
          have hx6 := heap_b hx hb6
          have hB6 := HB.out.trans (hb6.mono HB.out.size)
          have hlo := hc6.lo
          have hxl := lt_of_block hx
          have hgs := grown_set w6 w1.heap.size 0 (sl G6 2 c6)
          have HC7 := hide (hc6.grown hgs (by simp; omega) (fun z hz => by have := hlo.2 z hz; simp; omega)).cv
          have HX7 : Hid ((w6.setCell ⟨w1.heap.size, 0, none⟩ (sl G6 2 c6)).heap[w1.heap.size]? = some (.cells #[sl G6 2 c6] 26 (0, 0))) := hide (by rw [heap_setCell_same _ _ 0 _ _ _ hx6]; rfl)
          have HB7 := hide (hB6.setCell (p := ⟨w1.heap.size, 0, none⟩) hle (sl G6 2 c6))
          have f6 : w6.frozen? ⟨w1.heap.size, 0, none⟩ = false := frozen_of_row _ _ 0 _ _ hx6
          have g6 : w6.cell? ⟨w1.heap.size, 0, none⟩ = some (sl G' 2 c') := cell_of_row _ _ 0 _ _ _ hx6
          clear hp hb6 hc6 hx6 hB6 hlo hxl hgs HV HB hx d3
          go_wp2
          go_roundw
          case rel => exact ⟨j + 1, G6, c6, by omega, by go_num, HX7.out, HC7, HB7⟩
          case measure => simp [intOf]; omega
        · have ej : j = 4 := by omega
          have hdj : decide ((j : Int) < 4) = false := by simp; omega
          rw [ej] at HV
          clear ej
          have h4 := fun w h => implCacheOk_any (sl G' 2 c') 2 (fun _ => 4) (two (Ca.rn s t (fun i => f + 2 * (i : Int)) 4).1 (Ca.rn s t (fun i => f + 2 * (i : Int)) 4).2) w h
          rw [HQ.out.1] at h4
          obtain ⟨D, hD⟩ : ∃ D, two (Ca.rn s t (fun i => f + 2 * (i : Int)) 4).1 (Ca.rn s t (fun i => f + 2 * (i : Int)) 4).2 = D := ⟨_, rfl⟩
          have HV' : Hid (Cv wr (sl G' 2 c') 2 (fun _ => 4) D) := hide (by rw [← hD]; exact HV.out)
          have HQ' : Hid (∀ i : Nat, i < 4 → Ca.hldB 2 (fun _ => 4) D (f + 2 * (i : Int)) = true) := hide (by rw [← hD]; exact HQ.out.2)
          rw [hD] at h4
          clear HV HQ HO hD hj hlt
          go_wp2
          go_loopw [8] (fun i wr => ∃ j : Nat, j ≤ 4 ∧ i = .int .i64 j ∧ wr.cell? ⟨w1.heap.size, 0, none⟩ = some (sl G' 2 c') ∧ Hid (Cv wr (sl G' 2 c') 2 (fun _ => 4) D) ∧ Hid (Below w.heap.size w wr)) (fun i _ => 4 - (intOf i).toNat)
          case atStart => exact ⟨0, by omega, rfl, d3, HV', HB⟩
          case round =>
            clear HV' HB d3 hx
            obtain ⟨j, hj, rfl, d3, HV, HB⟩ := hrel
            by_cases hlt : j < 4
            · have hdj : decide ((j : Int) < 4) = true := by simp; omega
              have hw2 : wrap64 (2 * (j : Int)) = 2 * (j : Int) := Go.IntWalk.wrap64_in _ (by omega)
              have hw3 : wrap64 (f + 2 * (j : Int)) = f + 2 * (j : Int) := Go.IntWalk.wrap64_in _ (by omega)
              have h5 := fun w h => implHolds_any (sl G' 2 c') 2 (fun _ => 4) D (f + 2 * (j : Int)) w h
              rw [HQ'.out j hlt] at h5
              go_wp2_with fail
              refine (h5 _ HV.out).mono ?_
              rintro e w8 ⟨rfl, hb8⟩
              have HF := hide (And.intro (keepc hb8 d3) (And.intro (HV.out.below hb8) (HB.out.trans (hb8.mono HB.out.size))))
              clear hb8 HV HB d3 h5
              go_wp2
              go_roundw
              case rel => exact ⟨j + 1, by omega, by go_num, HF.out.1, hide HF.out.2.1, hide HF.out.2.2⟩
              case measure => simp [intOf]; omega
            · have hdj : decide ((j : Int) < 4) = false := by simp; omega
              go_wp2_with fail
              refine (h4 _ HV.out).mono ?_
              rintro e w8 ⟨rfl, hb8⟩
              have HF := hide (HB.out.trans (hb8.mono HB.out.size))
              clear hb8 HV HB d3 h4
              go_wp2
              go_ret
              exact ⟨rfl, HF.out⟩

set_option maxRecDepth 100000 in
theorem lifted (os : Os) (started : os.Started) (H : Type) (enc : TypeId × Value → H) :
    ReturnsInHanded {} Try.checked os 5 .any (Rows.fnFourSpec.pre6 enc Try.prog Try.f5 Rows.fnFourRow.domain false) (Rows.fnFourSpec.post enc Try.prog Try.f5 false true false false) := by
  refine returnsInHanded_of_change (C := Try.checked) own started (by kernel_rfl) Try.func5
    (ChangeSpec.witness6 (enc := enc) (C := Try.checked) false ⟨#[], #[.slice none 0 0], []⟩ 8 (by kernel_rfl) (by kernel_rfl) (by kernel_rfl) (by kernel_rfl)) ?_
  intro W base args ds gs before hval0 hW hcnd _
  have hval : ∀ (j : Nat) t v, Try.f5.params[j]? = some t → args[j]? = some v → Value.okWide Try.prog W .any base t v := hval0
  have hW' := hW
  obtain ⟨p, q, hA0, hV, rfl, hfz, hnd⟩ := hW
  have hA : DataW.TrodAll enc Try.prog W 0 (fun _ => true) true Try.f5.params.toList args.toList ds p := hA0
  rw [Try.params5] at hA hval
  obtain ⟨v0, vs0, d0, ds0, p0, q0, hargs, rfl, rfl, h0, r0⟩ := trodAll_cons hA
  obtain ⟨rfl, rfl, rfl⟩ := trodAll_nil r0
  obtain rfl : args = #[v0] := by cases args; simp_all
  obtain ⟨rfl, rfl⟩ := trodVars_none hV
  obtain ⟨a0, len0, cap0, rfl⟩ := okWide_slice Try.underlying22 (hval 0 22 v0 rfl rfl)
  have k0 := h0
  have lt0 : ∀ x ∈ p0, x.block < W.heap.size := by obtain ⟨m, hm⟩ := k0; exact DataW.trod_lt m _ _ _ hm
  obtain ⟨z0, w0⟩ : ∃ zs, IsRow .u8 W a0 len0 cap0 zs := by
    obtain ⟨fuel, hf⟩ := h0
    rcases open_ints Try.underlying22 Try.underlying5 (by kernel_rfl) hf with ⟨hcs, _⟩ | ⟨x, l, c, zs, hcs, _, hl, hm, hz, _, hcell, hwz⟩
    · simp [Value.cells] at hcs
      obtain ⟨rfl, rfl, rfl⟩ := hcs
      exact ⟨[], .inl ⟨rfl, rfl, rfl, rfl⟩⟩
    · simp [Value.cells] at hcs
      obtain ⟨rfl, rfl, rfl⟩ := hcs
      exact ⟨zs, .inr ⟨_, rfl, hl, hm, by simpa using hz, hcell, hwz⟩⟩
  clear hA0 hval0
  refine (walk a0 len0 cap0 W (row_bt w0)).mono fun e W' ⟨he, bel⟩ => ?_
  subst he
  exact ⟨_, rfl, _, _, _, [], _, [], hW', trodAll_mk1 (shut_bool Try.underlying4 _), (trodAll_cons_mk (Below.trod laidOut (by kernel_rfl) (of_decide_eq_true (by kernel_rfl)) k0 bel lt0) trodAll_mk0), rfl, bel.frame _, fun h => by cases h⟩

theorem over : Rows.fnFourRow.holds Try.pinned (OpenSpec.ofChange Rows.fnFourSpec) :=
  OpenClaim.holds_of_wide 5 Try.f5 rfl rfl rfl rfl rfl rfl rfl ⟨rfl, rfl, rfl, rfl, rfl⟩ rfl rfl rfl rfl rfl (by kernel_rfl) Try.func5 (by kernel_rfl)
    (of_decide_eq_true (by kernel_rfl)) (by unfold Func.isWrapper; first | (rw [if_pos (by decide +kernel)]; kernel_rfl) | (rw [if_neg (by decide +kernel)]; exact ⟨rfl, rfl⟩))
    (fun os started H enc _ => lifted os started H enc)

theorem proved : Rows.FnFourSaid := over
end Go.Proofs.Ytofnkbpkjgapbaa.fnFour

namespace Go.Proofs.Ytofnkbpkjgapbaa
theorem fnFour_holds : Rows.FnFourSaid := fnFour.proved
end Go.Proofs.Ytofnkbpkjgapbaa
