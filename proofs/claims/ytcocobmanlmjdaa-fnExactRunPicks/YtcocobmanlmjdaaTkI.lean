/- impl: loadSeen, fencePassed, firstDrained (written by mkTkI.py) -/
import Derived.Test.YtcocobmanlmjdaaTkH
namespace Go.Proofs.Ytcocobmanlmjdaa
open Go.RowKit
set_option linter.unusedVariables false
set_option linter.unusedSimpArgs false

theorem own_cap {w : World} {base : Nat} {T : TypeId} {m n : Nat} {v : Value} {xs : List Value} (h : w.ownsRow base T m v n xs) : ∀ a n' cap, v = .slice a n' cap → n' ≤ cap := by
  intro a n' cap e
  rcases h.2 with ⟨h', hn⟩ | ⟨g, cap', cur, h', hb, hg, hnc, r⟩
  · rw [h'] at e
    simp only [Value.slice.injEq] at e
    omega
  · rw [h'] at e
    simp only [Value.slice.injEq] at e
    omega
theorem Sr.shift {w : World} {g off n cap cap' : Nat} {f : Nat → Nat → Int} (h : Sr w (.slice (some ⟨g, off, none⟩) n cap) 2 n f) (hp : 0 < n) : Sr w (.slice (some ⟨g, off + 2, none⟩) (n - 1) cap') 2 (n - 1) (fun j => f (j + 1)) := by
  obtain ⟨ad, c, e, hc⟩ := h
  obtain ⟨b, o, e2, hc⟩ := hc hp
  simp only [Value.slice.injEq] at e
  obtain ⟨e1, _, _⟩ := e
  rw [e2] at e1
  simp only [Option.some.injEq, Addr.mk.injEq] at e1
  obtain ⟨rfl, rfl, _⟩ := e1
  refine ⟨_, cap', rfl, fun _ => ⟨g, off + 2, rfl, fun j hj i hi => ?_⟩⟩
  have := hc (j + 1) (by omega) i hi
  rw [← this]
  congr 2
  omega
theorem below_base {base : Nat} {w W : World} (h : Below w.heap.size w W) (hb : base ≤ w.heap.size) : Below base w W := h.mono hb

set_option maxHeartbeats 4000000 in
set_option maxRecDepth 20000 in
theorem loadSeen_any (mv bv rv : Value) (zs : List Int) (C : Nat) (L : Nat → Nat) (F : Nat → Nat → Nat → Int) (R : Nat) (Z : Nat → List Int) (vb vr : Nat → Value) (tag : Nat → Nat) (base c v i : Nat) (k vl : Int) (w : World) (h : Ta w base mv bv rv zs C L F R Z vb vr tag) (hc : c < C) (hcR : c < R) (hv : v < zs.length) (hi : i < (Z c).length) (hL : L c ≤ 1000) (hb : base ≤ w.heap.size) (hC : c ≤ 30) :
    Calls Try.prog 65 #[.agg #[mv, bv, rv], .agg (five k c v vl i)] w fun e w' => e = .returned (.int .i64 0) ∧ Ta w' base mv bv rv zs C L F R (upd Z c ((Z c).set i (sn zs (F c) v (L c)))) vb vr tag ∧ Below base w w' ∧ Kp tag w w' := by
  have bx := bx_made w mv bv rv k c v vl i
  obtain ⟨W, hW⟩ : ∃ W, (w.alloc (.cells #[mv, bv, rv] 37)).alloc (.cells (five k c v vl i) 51) = W := ⟨_, rfl⟩
  rw [hW] at bx
  have hT := h.below bx.bel
  have hse := fun W h => implSeen_any mv bv rv zs C L F R Z c v W h hc hv (by omega)
  generalize sn zs (F c) v (L c) = sv at hse ⊢
  obtain ⟨rb, ro, rc, rfl, r1, r2, r3, rcell⟩ := hT.regAt (by omega)
  have q0 := rcell c hcR
  obtain ⟨ja, jc, ev, hs⟩ := hT.ri c hcR
  obtain ⟨g, off, rfl, hcell⟩ := hs (by omega)
  rw [ev] at q0
  obtain ⟨g1, g2, g3⟩ := hT.rI c hcR g off _ jc ev (by omega)
  have q1 := hcell i hi
  have fr := g2.facts.1 (off + i)
  have t0 := bx.t0
  have t1 := bx.t1
  have t2 := bx.t2
  have a1 := bx.a1
  have a2 := bx.a2
  have a4 := bx.a4
  have hc0 : (0 : Int) ≤ (c : Int) := by omega
  have hc1 : (c : Int) < (R : Int) := by omega
  have hi0 : (0 : Int) ≤ (i : Int) := by omega
  have hi1 : (i : Int) < ((Z c).length : Int) := by omega
  have HT := hide hT
  clear hs hcell rcell hT
  go_enter Try.func65, Try.ntmps65
  go_wp2
  refine wp_region_but (z := 15) (S := fun W' => Below W.heap.size W W') (by kernel_rfl) ((Below.refl _ _).drew) (fun hHeld => ?_)
  refine wpAnyK_take (i := 0) (v := .pointer (some ⟨w.heap.size, 2, none⟩)) rfl (by kernel_rfl) (by kernel_rfl) (by kernel_rfl) (by kernel_rfl) (fun _ _ _ h => h) (Or.inl ⟨by rfl, fun w' hSw => ?_⟩) (by assumption) ?_
  · (try dsimp only at hSw); have z0 := keepc hSw t0; have z1 := keepc hSw t1; have z2 := keepc hSw t2; have z3 := keepc hSw a1; have z4 := keepc hSw a2; have z5 := keepc hSw a4; have z6 := keepc hSw q0; go_simp
  try simp only [Act.put, List.getElem_toArray, List.getElem_cons_zero, List.getElem_cons_succ, List.setIfInBounds_toArray, List.set_cons_zero, List.set_cons_succ]
  refine wpAnyK_take (i := 1) (v := .slice (some ⟨rb, ro, none⟩) R rc) rfl (by kernel_rfl) (by kernel_rfl) (by kernel_rfl) (by kernel_rfl) (fun _ _ _ h => h) (Or.inl ⟨by rfl, fun w' hSw => ?_⟩) (by assumption) ?_
  · (try dsimp only at hSw); have z0 := keepc hSw t0; have z1 := keepc hSw t1; have z2 := keepc hSw t2; have z3 := keepc hSw a1; have z4 := keepc hSw a2; have z5 := keepc hSw a4; have z6 := keepc hSw q0; go_simp
  try simp only [Act.put, List.getElem_toArray, List.getElem_cons_zero, List.getElem_cons_succ, List.setIfInBounds_toArray, List.set_cons_zero, List.set_cons_succ]
  refine wpAnyK_take (i := 2) (v := .pointer (some ⟨w.heap.size + 1, 1, none⟩)) rfl (by kernel_rfl) (by kernel_rfl) (by kernel_rfl) (by kernel_rfl) (fun _ _ _ h => h) (Or.inl ⟨by rfl, fun w' hSw => ?_⟩) (by assumption) ?_
  · (try dsimp only at hSw); have z0 := keepc hSw t0; have z1 := keepc hSw t1; have z2 := keepc hSw t2; have z3 := keepc hSw a1; have z4 := keepc hSw a2; have z5 := keepc hSw a4; have z6 := keepc hSw q0; go_simp
  try simp only [Act.put, List.getElem_toArray, List.getElem_cons_zero, List.getElem_cons_succ, List.setIfInBounds_toArray, List.set_cons_zero, List.set_cons_succ]
  refine wpAnyK_take (i := 3) (v := .int .i64 c) rfl (by kernel_rfl) (by kernel_rfl) (by kernel_rfl) (by kernel_rfl) (fun _ _ _ h => h) (Or.inl ⟨by rfl, fun w' hSw => ?_⟩) (by assumption) ?_
  · (try dsimp only at hSw); have z0 := keepc hSw t0; have z1 := keepc hSw t1; have z2 := keepc hSw t2; have z3 := keepc hSw a1; have z4 := keepc hSw a2; have z5 := keepc hSw a4; have z6 := keepc hSw q0; go_simp
  try simp only [Act.put, List.getElem_toArray, List.getElem_cons_zero, List.getElem_cons_succ, List.setIfInBounds_toArray, List.set_cons_zero, List.set_cons_succ]
  refine wpAnyK_take (i := 4) (v := .pointer (some ⟨rb, ro + c, none⟩)) rfl (by kernel_rfl) (by kernel_rfl) (by kernel_rfl) (by kernel_rfl) (fun _ _ _ h => h) (Or.inl ⟨by rfl, fun w' hSw => ?_⟩) (by assumption) ?_
  · (try dsimp only at hSw); have z0 := keepc hSw t0; have z1 := keepc hSw t1; have z2 := keepc hSw t2; have z3 := keepc hSw a1; have z4 := keepc hSw a2; have z5 := keepc hSw a4; have z6 := keepc hSw q0; go_simp
  try simp only [Act.put, List.getElem_toArray, List.getElem_cons_zero, List.getElem_cons_succ, List.setIfInBounds_toArray, List.set_cons_zero, List.set_cons_succ]
  refine wpAnyK_take (i := 5) (v := .slice (some ⟨g, off, none⟩) (Z c).length jc) rfl (by kernel_rfl) (by kernel_rfl) (by kernel_rfl) (by kernel_rfl) (fun _ _ _ h => h) (Or.inl ⟨by rfl, fun w' hSw => ?_⟩) (by assumption) ?_
  · (try dsimp only at hSw); have z0 := keepc hSw t0; have z1 := keepc hSw t1; have z2 := keepc hSw t2; have z3 := keepc hSw a1; have z4 := keepc hSw a2; have z5 := keepc hSw a4; have z6 := keepc hSw q0; go_simp
  try simp only [Act.put, List.getElem_toArray, List.getElem_cons_zero, List.getElem_cons_succ, List.setIfInBounds_toArray, List.set_cons_zero, List.set_cons_succ]
  refine wpAnyK_take (i := 6) (v := .pointer (some ⟨w.heap.size + 1, 4, none⟩)) rfl (by kernel_rfl) (by kernel_rfl) (by kernel_rfl) (by kernel_rfl) (fun _ _ _ h => h) (Or.inl ⟨by rfl, fun w' hSw => ?_⟩) (by assumption) ?_
  · (try dsimp only at hSw); have z0 := keepc hSw t0; have z1 := keepc hSw t1; have z2 := keepc hSw t2; have z3 := keepc hSw a1; have z4 := keepc hSw a2; have z5 := keepc hSw a4; have z6 := keepc hSw q0; go_simp
  try simp only [Act.put, List.getElem_toArray, List.getElem_cons_zero, List.getElem_cons_succ, List.setIfInBounds_toArray, List.set_cons_zero, List.set_cons_succ]
  refine wpAnyK_take (i := 7) (v := .int .i64 i) rfl (by kernel_rfl) (by kernel_rfl) (by kernel_rfl) (by kernel_rfl) (fun _ _ _ h => h) (Or.inl ⟨by rfl, fun w' hSw => ?_⟩) (by assumption) ?_
  · (try dsimp only at hSw); have z0 := keepc hSw t0; have z1 := keepc hSw t1; have z2 := keepc hSw t2; have z3 := keepc hSw a1; have z4 := keepc hSw a2; have z5 := keepc hSw a4; have z6 := keepc hSw q0; go_simp
  try simp only [Act.put, List.getElem_toArray, List.getElem_cons_zero, List.getElem_cons_succ, List.setIfInBounds_toArray, List.set_cons_zero, List.set_cons_succ]
  refine wpAnyK_take (i := 8) (v := .agg #[mv, bv, .slice (some ⟨rb, ro, none⟩) R rc]) rfl (by kernel_rfl) (by kernel_rfl) (by kernel_rfl) (by kernel_rfl) (fun _ _ _ h => h) (Or.inl ⟨by rfl, fun w' hSw => ?_⟩) (by assumption) ?_
  · (try dsimp only at hSw); have z0 := keepc hSw t0; have z1 := keepc hSw t1; have z2 := keepc hSw t2; have z3 := keepc hSw a1; have z4 := keepc hSw a2; have z5 := keepc hSw a4; have z6 := keepc hSw q0; go_simp
  try simp only [Act.put, List.getElem_toArray, List.getElem_cons_zero, List.getElem_cons_succ, List.setIfInBounds_toArray, List.set_cons_zero, List.set_cons_succ]
  refine wpAnyK_take (i := 9) (v := .pointer (some ⟨w.heap.size + 1, 1, none⟩)) rfl (by kernel_rfl) (by kernel_rfl) (by kernel_rfl) (by kernel_rfl) (fun _ _ _ h => h) (Or.inl ⟨by rfl, fun w' hSw => ?_⟩) (by assumption) ?_
  · (try dsimp only at hSw); have z0 := keepc hSw t0; have z1 := keepc hSw t1; have z2 := keepc hSw t2; have z3 := keepc hSw a1; have z4 := keepc hSw a2; have z5 := keepc hSw a4; have z6 := keepc hSw q0; go_simp
  try simp only [Act.put, List.getElem_toArray, List.getElem_cons_zero, List.getElem_cons_succ, List.setIfInBounds_toArray, List.set_cons_zero, List.set_cons_succ]
  refine wpAnyK_take (i := 10) (v := .int .i64 c) rfl (by kernel_rfl) (by kernel_rfl) (by kernel_rfl) (by kernel_rfl) (fun _ _ _ h => h) (Or.inl ⟨by rfl, fun w' hSw => ?_⟩) (by assumption) ?_
  · (try dsimp only at hSw); have z0 := keepc hSw t0; have z1 := keepc hSw t1; have z2 := keepc hSw t2; have z3 := keepc hSw a1; have z4 := keepc hSw a2; have z5 := keepc hSw a4; have z6 := keepc hSw q0; go_simp
  try simp only [Act.put, List.getElem_toArray, List.getElem_cons_zero, List.getElem_cons_succ, List.setIfInBounds_toArray, List.set_cons_zero, List.set_cons_succ]
  refine wpAnyK_take (i := 11) (v := .pointer (some ⟨w.heap.size + 1, 2, none⟩)) rfl (by kernel_rfl) (by kernel_rfl) (by kernel_rfl) (by kernel_rfl) (fun _ _ _ h => h) (Or.inl ⟨by rfl, fun w' hSw => ?_⟩) (by assumption) ?_
  · (try dsimp only at hSw); have z0 := keepc hSw t0; have z1 := keepc hSw t1; have z2 := keepc hSw t2; have z3 := keepc hSw a1; have z4 := keepc hSw a2; have z5 := keepc hSw a4; have z6 := keepc hSw q0; go_simp
  try simp only [Act.put, List.getElem_toArray, List.getElem_cons_zero, List.getElem_cons_succ, List.setIfInBounds_toArray, List.set_cons_zero, List.set_cons_succ]
  refine wpAnyK_take (i := 12) (v := .int .i64 v) rfl (by kernel_rfl) (by kernel_rfl) (by kernel_rfl) (by kernel_rfl) (fun _ _ _ h => h) (Or.inl ⟨by rfl, fun w' hSw => ?_⟩) (by assumption) ?_
  · (try dsimp only at hSw); have z0 := keepc hSw t0; have z1 := keepc hSw t1; have z2 := keepc hSw t2; have z3 := keepc hSw a1; have z4 := keepc hSw a2; have z5 := keepc hSw a4; have z6 := keepc hSw q0; go_simp
  try simp only [Act.put, List.getElem_toArray, List.getElem_cons_zero, List.getElem_cons_succ, List.setIfInBounds_toArray, List.set_cons_zero, List.set_cons_succ]
  refine wpAnyK_one (i := 13) (by kernel_rfl) rfl (fun K hK => ?_)
  go_simp
  refine (hse _ (HT.out.tv.below ((Below.refl _ _).drew))).mono ?_
  rintro e w1 ⟨rfl, hb1⟩
  have hb1' : Below W.heap.size W w1 := ((Below.refl _ _).drew).trans (hb1.mono (Nat.le_refl _))
  refine hK.out _ _ (fun _ => hb1') (fun hH => ?_)
  clear hK K hHeld
  have hHeld := hH (by decide)
  clear hH
  try simp only [Act.put, List.getElem_toArray, List.getElem_cons_zero, List.getElem_cons_succ, List.setIfInBounds_toArray, List.set_cons_zero, List.set_cons_succ]
  refine wpAnyK_take (i := 14) (v := .pointer (some ⟨g, off + i, none⟩)) rfl (by kernel_rfl) (by kernel_rfl) (by kernel_rfl) (by kernel_rfl) (fun _ _ _ h => h) (Or.inl ⟨by rfl, fun w' hSw => ?_⟩) (by assumption) ?_
  · (try dsimp only at hSw); have z0 := keepc hSw t0; have z1 := keepc hSw t1; have z2 := keepc hSw t2; have z3 := keepc hSw a1; have z4 := keepc hSw a2; have z5 := keepc hSw a4; have z6 := keepc hSw q0; go_simp
  try simp only [Act.put, List.getElem_toArray, List.getElem_cons_zero, List.getElem_cons_succ, List.setIfInBounds_toArray, List.set_cons_zero, List.set_cons_succ]
  have ta3 := (HT.out.below hb1').setR (x := sv) hcR ev hi
  have q3 := keepc hb1' q1
  have f3 : w1.frozen? ⟨g, off + i, none⟩ = false := (g2.below hb1').facts.1 _
  have HF := hide (And.intro ta3 (And.intro (((bx.bel.trans (hb1'.mono bx.bel.size)).mono hb).setCell (p := ⟨g, off + i, none⟩) g1 (.int .i64 sv)) ((Kp.below (tag := tag) (bx.bel.trans (hb1'.mono bx.bel.size))).set (B := g) (i := off + i) (v := .int .i64 sv) (by omega))))
  clear ta3 hb1 hb1' HT
  refine wpAnyK_one (i := 15) (by kernel_rfl) rfl (fun K hK => ?_)
  go_simp
  refine hK.out _ _ (fun h => absurd rfl h) (fun _ => ?_)
  clear hK K q3 f3
  try simp only [Act.put, List.getElem_toArray, List.getElem_cons_zero, List.getElem_cons_succ, List.setIfInBounds_toArray, List.set_cons_zero, List.set_cons_succ]
  refine wpAnyK_done (by kernel_rfl) ?_
  go_wp2
  go_ret
  exact ⟨rfl, HF.out.1, HF.out.2.1, HF.out.2.2⟩

set_option maxHeartbeats 1000000 in
theorem fencePassed_any (mv bv rv : Value) (zs : List Int) (C : Nat) (L : Nat → Nat) (F : Nat → Nat → Nat → Int) (R : Nat) (Z : Nat → List Int) (vb vr : Nat → Value) (tag : Nat → Nat) (base c : Nat) (k va vl rg : Int) (w : World) (h : Ta w base mv bv rv zs C L F R Z vb vr tag) (hc : c < C) :
    Calls Try.prog 66 #[.agg #[mv, bv, rv], .agg (five k c va vl rg)] w fun e w' => e = .returned (.int .i64 (if 0 < L c then 4 else 0)) ∧ Below w.heap.size w w' := by
  have bx := bx_made w mv bv rv k c va vl rg
  obtain ⟨bb, bo, bc, rfl, b1, b2, b3, bcell⟩ := h.bufAt (by omega)
  have q0 := keepc bx.bel (bcell c hc)
  obtain ⟨ia, ic, ev, _⟩ := h.bi c hc
  rw [ev] at q0
  have hc0 : (0 : Int) ≤ (c : Int) := by omega
  have hc1 : (c : Int) < (C : Int) := by omega
  obtain ⟨W, hW⟩ : ∃ W, (w.alloc (.cells #[mv, .slice (some ⟨bb, bo, none⟩) C bc, rv] 37)).alloc (.cells (five k c va vl rg) 51) = W := ⟨_, rfl⟩
  rw [hW] at bx q0
  have t1 := bx.t1
  have a1 := bx.a1
  have HB := hide bx.bel
  clear bcell h bx
  by_cases hl : 0 < L c
  · rw [if_pos hl]
    have hd : decide ((0 : Int) < (L c : Int)) = true := by simp; omega
    go_enter Try.func66, Try.ntmps66
    go_wp2
    go_ret
    exact ⟨rfl, HB.out⟩
  · rw [if_neg hl]
    have hd : decide ((0 : Int) < (L c : Int)) = false := by simp; omega
    go_enter Try.func66, Try.ntmps66
    go_wp2
    go_ret
    exact ⟨rfl, HB.out⟩

set_option maxHeartbeats 4000000 in
set_option maxRecDepth 20000 in
theorem firstDrained_all (mv bv rv : Value) (zs : List Int) (C : Nat) (L : Nat → Nat) (F : Nat → Nat → Nat → Int) (R : Nat) (Z : Nat → List Int) (vb vr : Nat → Value) (tag : Nat → Nat) (base c : Nat) (k va vl rg : Int) (w : World) (h : Ta w base mv bv rv zs C L F R Z vb vr tag) (hc : c < C) (hL : L c ≤ 1000) (hcap : ∀ a n' cap, vb c = .slice a n' cap → n' ≤ cap) (hv : 0 < L c → 0 ≤ F c 0 0 ∧ F c 0 0 < zs.length) (hb : base ≤ w.heap.size) :
    Calls Try.prog 58 #[.agg #[mv, bv, rv], .agg (five k c va vl rg)] w fun e w' => (L c = 0 ∧ e = .returned (.int .i64 5) ∧ Below w.heap.size w w') ∨ (0 < L c ∧ e = .returned (.int .i64 0) ∧ (∃ u, Ta w' base mv bv rv (zs.set (F c 0 0).toNat (F c 0 1)) C (upd L c (L c - 1)) (upd F c (fun j => F c (j + 1))) R Z (upd vb c u) vr tag ∧ ∀ a n' cap, u = .slice a n' cap → n' ≤ cap) ∧ Below base w w' ∧ Kp tag w w') := by
  have bx := bx_made w mv bv rv k c va vl rg
  obtain ⟨bb, bo, bc, rfl, b1, b2, b3, bcell⟩ := h.bufAt (by omega)
  have q0 := keepc bx.bel (bcell c hc)
  obtain ⟨ia, ic, ev, hs⟩ := h.bi c hc
  have hcp := hcap ia (L c) ic ev
  rw [ev] at q0
  have hc0 : (0 : Int) ≤ (c : Int) := by omega
  have hc1 : (c : Int) < (C : Int) := by omega
  obtain ⟨W, hW⟩ : ∃ W, (w.alloc (.cells #[mv, .slice (some ⟨bb, bo, none⟩) C bc, rv] 37)).alloc (.cells (five k c va vl rg) 51) = W := ⟨_, rfl⟩
  rw [hW] at bx q0
  have t0 := bx.t0
  have t1 := bx.t1
  have a1 := bx.a1
  by_cases hl : L c = 0
  · have hd : ((L c : Int) == 0) = true := by simp; omega
    clear hv hs
    go_enter Try.func58, Try.ntmps58
    go_wp2
    go_ret
    first | exact .inl ⟨hl, rfl, bx.bel⟩ | exact ⟨hl, rfl, bx.bel⟩ | exact ⟨rfl, bx.bel⟩
  · have hd : ((L c : Int) == 0) = false := by simp; omega
    have hpos : 0 < L c := by omega
    obtain ⟨hv0, hv1⟩ := hv hpos
    obtain ⟨v, hvv⟩ : ∃ v : Nat, F c 0 0 = v := ⟨(F c 0 0).toNat, by omega⟩
    have hT := h.below bx.bel
    obtain ⟨mb, mo, mc, rfl, m1, m2', m3, mcell⟩ := h.memAt (by omega)
    have hmbl := m2'.lt
    have m2 := m2'.below bx.bel
    have hbbl := b2.lt
    obtain ⟨g, off, rfl, hcell⟩ := hs hpos
    have p0 := keepc bx.bel (hcell 0 hpos 0 (by decide))
    have p1 := keepc bx.bel (hcell 0 hpos 1 (by decide))
    simp only [Nat.zero_mul, Nat.add_zero] at p0 p1
    rw [hvv] at p0 hv1
    have hm0 : (0 : Int) ≤ (v : Int) := by omega
    have hm1 : (v : Int) < (zs.length : Int) := by omega
    have hn0 : (0 : Int) < (L c : Int) := by omega
    have hn1 : (1 : Int) ≤ (L c : Int) := by omega
    have hn2 : (L c : Int) ≤ (ic : Int) := by omega
    have y0 := keepc bx.bel (mcell v (by omega))
    have fy := m2.facts.1 (mo + v)
    have HT := hide hT
    have hvt : (F c 0 0).toNat = v := by omega
    rw [hvt]
    have HCELL := hide hcell
    generalize hx1 : F c 0 1 = x1 at p1 ⊢
    clear mcell hT hv hs
    go_enter Try.func58, Try.ntmps58
    go_wp2
    refine wp_region_but (z := 11) (S := fun W' => Below W.heap.size W W') (by kernel_rfl) ((Below.refl _ _).drew) (fun hHeld => ?_)
    refine wpAnyK_take (i := 0) (v := .pointer (some ⟨w.heap.size, 0, none⟩)) rfl (by kernel_rfl) (by kernel_rfl) (by kernel_rfl) (by kernel_rfl) (fun _ _ _ h => h) (Or.inl ⟨by rfl, fun w' hSw => ?_⟩) (by assumption) ?_
    · (try dsimp only at hSw); have z0 := keepc hSw t0; have z1 := keepc hSw t1; have z2 := keepc hSw a1; have z3 := keepc hSw p0; have z4 := keepc hSw p1; have z5 := keepc hSw q0; go_simp
    try simp only [Act.put, List.getElem_toArray, List.getElem_cons_zero, List.getElem_cons_succ, List.setIfInBounds_toArray, List.set_cons_zero, List.set_cons_succ]
    refine wpAnyK_take (i := 1) (v := .slice (some ⟨mb, mo, none⟩) zs.length mc) rfl (by kernel_rfl) (by kernel_rfl) (by kernel_rfl) (by kernel_rfl) (fun _ _ _ h => h) (Or.inl ⟨by rfl, fun w' hSw => ?_⟩) (by assumption) ?_
    · (try dsimp only at hSw); have z0 := keepc hSw t0; have z1 := keepc hSw t1; have z2 := keepc hSw a1; have z3 := keepc hSw p0; have z4 := keepc hSw p1; have z5 := keepc hSw q0; go_simp
    try simp only [Act.put, List.getElem_toArray, List.getElem_cons_zero, List.getElem_cons_succ, List.setIfInBounds_toArray, List.set_cons_zero, List.set_cons_succ]
    refine wpAnyK_take (i := 2) (v := .slice (some ⟨g, off, none⟩) (L c) ic) rfl (by kernel_rfl) (by kernel_rfl) (by kernel_rfl) (by kernel_rfl) (fun _ _ _ h => h) (Or.inl ⟨by rfl, fun w' hSw => ?_⟩) (by assumption) ?_
    · (try dsimp only at hSw); have z0 := keepc hSw t0; have z1 := keepc hSw t1; have z2 := keepc hSw a1; have z3 := keepc hSw p0; have z4 := keepc hSw p1; have z5 := keepc hSw q0; go_simp
    try simp only [Act.put, List.getElem_toArray, List.getElem_cons_zero, List.getElem_cons_succ, List.setIfInBounds_toArray, List.set_cons_zero, List.set_cons_succ]
    refine wpAnyK_take (i := 3) (v := .pointer (some ⟨g, off, none⟩)) rfl (by kernel_rfl) (by kernel_rfl) (by kernel_rfl) (by kernel_rfl) (fun _ _ _ h => h) (Or.inl ⟨by rfl, fun w' hSw => ?_⟩) (by assumption) ?_
    · (try dsimp only at hSw); have z0 := keepc hSw t0; have z1 := keepc hSw t1; have z2 := keepc hSw a1; have z3 := keepc hSw p0; have z4 := keepc hSw p1; have z5 := keepc hSw q0; go_simp
    try simp only [Act.put, List.getElem_toArray, List.getElem_cons_zero, List.getElem_cons_succ, List.setIfInBounds_toArray, List.set_cons_zero, List.set_cons_succ]
    refine wpAnyK_take (i := 4) (v := .pointer (some ⟨g, off, none⟩)) rfl (by kernel_rfl) (by kernel_rfl) (by kernel_rfl) (by kernel_rfl) (fun _ _ _ h => h) (Or.inl ⟨by rfl, fun w' hSw => ?_⟩) (by assumption) ?_
    · (try dsimp only at hSw); have z0 := keepc hSw t0; have z1 := keepc hSw t1; have z2 := keepc hSw a1; have z3 := keepc hSw p0; have z4 := keepc hSw p1; have z5 := keepc hSw q0; go_simp
    try simp only [Act.put, List.getElem_toArray, List.getElem_cons_zero, List.getElem_cons_succ, List.setIfInBounds_toArray, List.set_cons_zero, List.set_cons_succ]
    refine wpAnyK_take (i := 5) (v := .int .i64 v) rfl (by kernel_rfl) (by kernel_rfl) (by kernel_rfl) (by kernel_rfl) (fun _ _ _ h => h) (Or.inl ⟨by rfl, fun w' hSw => ?_⟩) (by assumption) ?_
    · (try dsimp only at hSw); have z0 := keepc hSw t0; have z1 := keepc hSw t1; have z2 := keepc hSw a1; have z3 := keepc hSw p0; have z4 := keepc hSw p1; have z5 := keepc hSw q0; go_simp
    try simp only [Act.put, List.getElem_toArray, List.getElem_cons_zero, List.getElem_cons_succ, List.setIfInBounds_toArray, List.set_cons_zero, List.set_cons_succ]
    refine wpAnyK_take (i := 6) (v := .slice (some ⟨g, off, none⟩) (L c) ic) rfl (by kernel_rfl) (by kernel_rfl) (by kernel_rfl) (by kernel_rfl) (fun _ _ _ h => h) (Or.inl ⟨by rfl, fun w' hSw => ?_⟩) (by assumption) ?_
    · (try dsimp only at hSw); have z0 := keepc hSw t0; have z1 := keepc hSw t1; have z2 := keepc hSw a1; have z3 := keepc hSw p0; have z4 := keepc hSw p1; have z5 := keepc hSw q0; go_simp
    try simp only [Act.put, List.getElem_toArray, List.getElem_cons_zero, List.getElem_cons_succ, List.setIfInBounds_toArray, List.set_cons_zero, List.set_cons_succ]
    refine wpAnyK_take (i := 7) (v := .pointer (some ⟨g, off, none⟩)) rfl (by kernel_rfl) (by kernel_rfl) (by kernel_rfl) (by kernel_rfl) (fun _ _ _ h => h) (Or.inl ⟨by rfl, fun w' hSw => ?_⟩) (by assumption) ?_
    · (try dsimp only at hSw); have z0 := keepc hSw t0; have z1 := keepc hSw t1; have z2 := keepc hSw a1; have z3 := keepc hSw p0; have z4 := keepc hSw p1; have z5 := keepc hSw q0; go_simp
    try simp only [Act.put, List.getElem_toArray, List.getElem_cons_zero, List.getElem_cons_succ, List.setIfInBounds_toArray, List.set_cons_zero, List.set_cons_succ]
    refine wpAnyK_take (i := 8) (v := .pointer (some ⟨g, off + 1, none⟩)) rfl (by kernel_rfl) (by kernel_rfl) (by kernel_rfl) (by kernel_rfl) (fun _ _ _ h => h) (Or.inl ⟨by rfl, fun w' hSw => ?_⟩) (by assumption) ?_
    · (try dsimp only at hSw); have z0 := keepc hSw t0; have z1 := keepc hSw t1; have z2 := keepc hSw a1; have z3 := keepc hSw p0; have z4 := keepc hSw p1; have z5 := keepc hSw q0; go_simp
    try simp only [Act.put, List.getElem_toArray, List.getElem_cons_zero, List.getElem_cons_succ, List.setIfInBounds_toArray, List.set_cons_zero, List.set_cons_succ]
    refine wpAnyK_take (i := 9) (v := .int .i64 x1) rfl (by kernel_rfl) (by kernel_rfl) (by kernel_rfl) (by kernel_rfl) (fun _ _ _ h => h) (Or.inl ⟨by rfl, fun w' hSw => ?_⟩) (by assumption) ?_
    · (try dsimp only at hSw); have z0 := keepc hSw t0; have z1 := keepc hSw t1; have z2 := keepc hSw a1; have z3 := keepc hSw p0; have z4 := keepc hSw p1; have z5 := keepc hSw q0; go_simp
    try simp only [Act.put, List.getElem_toArray, List.getElem_cons_zero, List.getElem_cons_succ, List.setIfInBounds_toArray, List.set_cons_zero, List.set_cons_succ]
    refine wpAnyK_take (i := 10) (v := .pointer (some ⟨mb, mo + v, none⟩)) rfl (by kernel_rfl) (by kernel_rfl) (by kernel_rfl) (by kernel_rfl) (fun _ _ _ h => h) (Or.inl ⟨by rfl, fun w' hSw => ?_⟩) (by assumption) ?_
    · (try dsimp only at hSw); have z0 := keepc hSw t0; have z1 := keepc hSw t1; have z2 := keepc hSw a1; have z3 := keepc hSw p0; have z4 := keepc hSw p1; have z5 := keepc hSw q0; go_simp
    try simp only [Act.put, List.getElem_toArray, List.getElem_cons_zero, List.getElem_cons_succ, List.setIfInBounds_toArray, List.set_cons_zero, List.set_cons_succ]
    refine wpAnyK_one (i := 11) (by kernel_rfl) rfl (fun K hK => ?_)
    go_simp
    refine hK.out _ _ (fun h => absurd rfl h) (fun _ => ?_)
    clear hK K hHeld
    try simp only [Act.put, List.getElem_toArray, List.getElem_cons_zero, List.getElem_cons_succ, List.setIfInBounds_toArray, List.set_cons_zero, List.set_cons_succ]
    refine wpAnyK_done (by kernel_rfl) ?_
    have ta2 : Ta (W.setCell ⟨mb, mo + v, none⟩ (.int .i64 x1)).drew base (.slice (some ⟨mb, mo, none⟩) zs.length mc) (.slice (some ⟨bb, bo, none⟩) C bc) rv (zs.set v x1) C L F R Z vb vr tag := (HT.out.setM (x := x1) (by omega)).below ((Below.refl _ _).drew)
    have hB2 : Below base w (W.setCell ⟨mb, mo + v, none⟩ (.int .i64 x1)).drew := ((bx.bel.mono hb).setCell (p := ⟨mb, mo + v, none⟩) m1 _).drew
    have hsz := bx.size
    have hK2 : Kp tag w (W.setCell ⟨mb, mo + v, none⟩ (.int .i64 x1)).drew := (Kp.below (tag := tag) bx.bel).set (B := mb) (i := mo + v) (v := .int .i64 x1) (by omega)
    have u1 : (W.setCell ⟨mb, mo + v, none⟩ (.int .i64 x1)).drew.cell? ⟨w.heap.size, 1, none⟩ = some (.slice (some ⟨bb, bo, none⟩) C bc) := by show (W.setCell _ _).cell? _ = _; rw [other_set (by omega)]; exact t1
    have u2 : (W.setCell ⟨mb, mo + v, none⟩ (.int .i64 x1)).drew.cell? ⟨w.heap.size + 1, 1, none⟩ = some (.int .i64 c) := by show (W.setCell _ _).cell? _ = _; rw [other_set (by omega)]; exact a1
    have hsr := ta2.bi c hc
    have hbk := ta2.bI c hc
    rw [ev] at hsr hbk
    obtain ⟨k1, k2, k3⟩ := hbk g off _ ic rfl (by omega)
    obtain ⟨bz1, bz2, bz3⟩ := ta2.bb bb bo _ bc rfl (by omega)
    have bz4 := bz2.facts.1 (bo + c)
    obtain ⟨bz5, bz6⟩ := bz2.facts.2 (bo + c) (by omega)
    have hsl : (0 : Int) ≤ (1 : Int) := by decide
    generalize hV : (W.setCell ⟨mb, mo + v, none⟩ (.int .i64 x1)).drew = V at *
    clear hV t0 t1 a1 p0 p1 q0 y0 fy HT HCELL
    go_wp2
    by_cases hic : ic = 1
    · subst hic
      refine wp_region_but (z := 7) (S := fun W' => Below V.heap.size V W') (by kernel_rfl) ((Below.refl _ _).drew) (fun hHeld => ?_)
      refine wpAnyK_take (i := 0) (v := .pointer (some ⟨w.heap.size, 1, none⟩)) rfl (by kernel_rfl) (by kernel_rfl) (by kernel_rfl) (by kernel_rfl) (fun _ _ _ h => h) (Or.inl ⟨by rfl, fun w' hSw => ?_⟩) (by assumption) ?_
      · (try dsimp only at hSw); have z0 := keepc hSw u1; have z1 := keepc hSw u2; go_simp
      try simp only [Act.put, List.getElem_toArray, List.getElem_cons_zero, List.getElem_cons_succ, List.setIfInBounds_toArray, List.set_cons_zero, List.set_cons_succ]
      refine wpAnyK_take (i := 1) (v := .slice (some ⟨bb, bo, none⟩) C bc) rfl (by kernel_rfl) (by kernel_rfl) (by kernel_rfl) (by kernel_rfl) (fun _ _ _ h => h) (Or.inl ⟨by rfl, fun w' hSw => ?_⟩) (by assumption) ?_
      · (try dsimp only at hSw); have z0 := keepc hSw u1; have z1 := keepc hSw u2; go_simp
      try simp only [Act.put, List.getElem_toArray, List.getElem_cons_zero, List.getElem_cons_succ, List.setIfInBounds_toArray, List.set_cons_zero, List.set_cons_succ]
      refine wpAnyK_take (i := 2) (v := .pointer (some ⟨w.heap.size + 1, 1, none⟩)) rfl (by kernel_rfl) (by kernel_rfl) (by kernel_rfl) (by kernel_rfl) (fun _ _ _ h => h) (Or.inl ⟨by rfl, fun w' hSw => ?_⟩) (by assumption) ?_
      · (try dsimp only at hSw); have z0 := keepc hSw u1; have z1 := keepc hSw u2; go_simp
      try simp only [Act.put, List.getElem_toArray, List.getElem_cons_zero, List.getElem_cons_succ, List.setIfInBounds_toArray, List.set_cons_zero, List.set_cons_succ]
      refine wpAnyK_take (i := 3) (v := .int .i64 c) rfl (by kernel_rfl) (by kernel_rfl) (by kernel_rfl) (by kernel_rfl) (fun _ _ _ h => h) (Or.inl ⟨by rfl, fun w' hSw => ?_⟩) (by assumption) ?_
      · (try dsimp only at hSw); have z0 := keepc hSw u1; have z1 := keepc hSw u2; go_simp
      try simp only [Act.put, List.getElem_toArray, List.getElem_cons_zero, List.getElem_cons_succ, List.setIfInBounds_toArray, List.set_cons_zero, List.set_cons_succ]
      refine wpAnyK_take (i := 4) (v := .slice (some ⟨g, off, none⟩) (L c) 1) rfl (by kernel_rfl) (by kernel_rfl) (by kernel_rfl) (by kernel_rfl) (fun _ _ _ h => h) (Or.inl ⟨by rfl, fun w' hSw => ?_⟩) (by assumption) ?_
      · (try dsimp only at hSw); have z0 := keepc hSw u1; have z1 := keepc hSw u2; go_simp
      try simp only [Act.put, List.getElem_toArray, List.getElem_cons_zero, List.getElem_cons_succ, List.setIfInBounds_toArray, List.set_cons_zero, List.set_cons_succ]
      refine wpAnyK_take (i := 5) (v := .slice (some ⟨g, off, none⟩) 0 0) rfl (by kernel_rfl) (by kernel_rfl) (by kernel_rfl) (by kernel_rfl) (fun _ _ _ h => h) (Or.inl ⟨by rfl, fun w' hSw => ?_⟩) (by assumption) ?_
      · (try dsimp only at hSw); have z0 := keepc hSw u1; have z1 := keepc hSw u2; go_simp
      try simp only [Act.put, List.getElem_toArray, List.getElem_cons_zero, List.getElem_cons_succ, List.setIfInBounds_toArray, List.set_cons_zero, List.set_cons_succ]
      refine wpAnyK_take (i := 6) (v := .pointer (some ⟨bb, bo + c, none⟩)) rfl (by kernel_rfl) (by kernel_rfl) (by kernel_rfl) (by kernel_rfl) (fun _ _ _ h => h) (Or.inl ⟨by rfl, fun w' hSw => ?_⟩) (by assumption) ?_
      · (try dsimp only at hSw); have z0 := keepc hSw u1; have z1 := keepc hSw u2; go_simp
      try simp only [Act.put, List.getElem_toArray, List.getElem_cons_zero, List.getElem_cons_succ, List.setIfInBounds_toArray, List.set_cons_zero, List.set_cons_succ]
      obtain ⟨tag3, ta3, ht3⟩ := (ta2.below ((Below.refl _ _).drew)).putB2 (c := c) (w1 := V.drew) (row := none) (u := .slice (some ⟨g, off, none⟩) 0 0) (n' := L c - 1) (f' := fun j => F c (j + 1)) hc ⟨rfl, rfl, rfl, Nat.le_refl _, fun _ _ _ => rfl⟩ (fun x e => by cases e) (by rw [show L c - 1 = 0 by omega]; exact ⟨_, 0, rfl, fun hp => absurd hp (by omega)⟩) (fun x off' n' cap' e hh => by
        exact absurd hh (by omega)) (by have := hB2.size; show base ≤ V.heap.size; omega)
      have et3 : tag3 = tag := by
        funext x
        rw [ht3 x]
        exact if_neg (fun q => absurd q.2 (by omega))
      rw [et3] at ta3
      clear ht3 et3 tag3
      have HF := hide (And.intro ta3 (And.intro ((hB2.drew).setCell (p := ⟨bb, bo + c, none⟩) b1 (.slice (some ⟨g, off, none⟩) 0 0)) (Kp.set (w1 := V.drew) (B := bb) (i := bo + c) (v := .slice (some ⟨g, off, none⟩) 0 0) (fun j hj ht => hK2 j hj ht) (by omega))))
      clear ta3 ta2 hsr hbk k2 bz2 hK2
      refine wpAnyK_one (i := 7) (by kernel_rfl) rfl (fun K hK => ?_)
      go_simp
      refine hK.out _ _ (fun h => absurd rfl h) (fun _ => ?_)
      clear hK K hHeld u1 u2
      try simp only [Act.put, List.getElem_toArray, List.getElem_cons_zero, List.getElem_cons_succ, List.setIfInBounds_toArray, List.set_cons_zero, List.set_cons_succ]
      refine wpAnyK_done (by kernel_rfl) ?_
      go_wp2
      go_ret
      first | exact .inr ⟨hpos, rfl, ⟨_, HF.out.1, fun a n' cap' e => by simp only [Value.slice.injEq] at e; omega⟩, HF.out.2.1, HF.out.2.2⟩ | exact ⟨hpos, rfl, ⟨_, HF.out.1, fun a n' cap' e => by simp only [Value.slice.injEq] at e; omega⟩, HF.out.2.1, HF.out.2.2⟩ | exact ⟨rfl, ⟨_, HF.out.1, fun a n' cap' e => by simp only [Value.slice.injEq] at e; omega⟩, HF.out.2.1, HF.out.2.2⟩
    · refine wp_region_but (z := 7) (S := fun W' => Below V.heap.size V W') (by kernel_rfl) ((Below.refl _ _).drew) (fun hHeld => ?_)
      refine wpAnyK_take (i := 0) (v := .pointer (some ⟨w.heap.size, 1, none⟩)) rfl (by kernel_rfl) (by kernel_rfl) (by kernel_rfl) (by kernel_rfl) (fun _ _ _ h => h) (Or.inl ⟨by rfl, fun w' hSw => ?_⟩) (by assumption) ?_
      · (try dsimp only at hSw); have z0 := keepc hSw u1; have z1 := keepc hSw u2; go_simp
      try simp only [Act.put, List.getElem_toArray, List.getElem_cons_zero, List.getElem_cons_succ, List.setIfInBounds_toArray, List.set_cons_zero, List.set_cons_succ]
      refine wpAnyK_take (i := 1) (v := .slice (some ⟨bb, bo, none⟩) C bc) rfl (by kernel_rfl) (by kernel_rfl) (by kernel_rfl) (by kernel_rfl) (fun _ _ _ h => h) (Or.inl ⟨by rfl, fun w' hSw => ?_⟩) (by assumption) ?_
      · (try dsimp only at hSw); have z0 := keepc hSw u1; have z1 := keepc hSw u2; go_simp
      try simp only [Act.put, List.getElem_toArray, List.getElem_cons_zero, List.getElem_cons_succ, List.setIfInBounds_toArray, List.set_cons_zero, List.set_cons_succ]
      refine wpAnyK_take (i := 2) (v := .pointer (some ⟨w.heap.size + 1, 1, none⟩)) rfl (by kernel_rfl) (by kernel_rfl) (by kernel_rfl) (by kernel_rfl) (fun _ _ _ h => h) (Or.inl ⟨by rfl, fun w' hSw => ?_⟩) (by assumption) ?_
      · (try dsimp only at hSw); have z0 := keepc hSw u1; have z1 := keepc hSw u2; go_simp
      try simp only [Act.put, List.getElem_toArray, List.getElem_cons_zero, List.getElem_cons_succ, List.setIfInBounds_toArray, List.set_cons_zero, List.set_cons_succ]
      refine wpAnyK_take (i := 3) (v := .int .i64 c) rfl (by kernel_rfl) (by kernel_rfl) (by kernel_rfl) (by kernel_rfl) (fun _ _ _ h => h) (Or.inl ⟨by rfl, fun w' hSw => ?_⟩) (by assumption) ?_
      · (try dsimp only at hSw); have z0 := keepc hSw u1; have z1 := keepc hSw u2; go_simp
      try simp only [Act.put, List.getElem_toArray, List.getElem_cons_zero, List.getElem_cons_succ, List.setIfInBounds_toArray, List.set_cons_zero, List.set_cons_succ]
      refine wpAnyK_take (i := 4) (v := .slice (some ⟨g, off, none⟩) (L c) ic) rfl (by kernel_rfl) (by kernel_rfl) (by kernel_rfl) (by kernel_rfl) (fun _ _ _ h => h) (Or.inl ⟨by rfl, fun w' hSw => ?_⟩) (by assumption) ?_
      · (try dsimp only at hSw); have z0 := keepc hSw u1; have z1 := keepc hSw u2; go_simp
      try simp only [Act.put, List.getElem_toArray, List.getElem_cons_zero, List.getElem_cons_succ, List.setIfInBounds_toArray, List.set_cons_zero, List.set_cons_succ]
      refine wpAnyK_take (i := 5) (v := .slice (some ⟨g, off + 2, none⟩) (L c - 1) (ic - 1)) rfl (by kernel_rfl) (by kernel_rfl) (by kernel_rfl) (by kernel_rfl) (fun _ _ _ h => h) (Or.inl ⟨by rfl, fun w' hSw => ?_⟩) (by assumption) ?_
      · (try dsimp only at hSw); have z0 := keepc hSw u1; have z1 := keepc hSw u2; go_simp
      try simp only [Act.put, List.getElem_toArray, List.getElem_cons_zero, List.getElem_cons_succ, List.setIfInBounds_toArray, List.set_cons_zero, List.set_cons_succ]
      refine wpAnyK_take (i := 6) (v := .pointer (some ⟨bb, bo + c, none⟩)) rfl (by kernel_rfl) (by kernel_rfl) (by kernel_rfl) (by kernel_rfl) (fun _ _ _ h => h) (Or.inl ⟨by rfl, fun w' hSw => ?_⟩) (by assumption) ?_
      · (try dsimp only at hSw); have z0 := keepc hSw u1; have z1 := keepc hSw u2; go_simp
      try simp only [Act.put, List.getElem_toArray, List.getElem_cons_zero, List.getElem_cons_succ, List.setIfInBounds_toArray, List.set_cons_zero, List.set_cons_succ]
      obtain ⟨tag3, ta3, ht3⟩ := (ta2.below ((Below.refl _ _).drew)).putB2 (c := c) (w1 := V.drew) (row := none) (u := .slice (some ⟨g, off + 2, none⟩) (L c - 1) (ic - 1)) (n' := L c - 1) (f' := fun j => F c (j + 1)) hc ⟨rfl, rfl, rfl, Nat.le_refl _, fun _ _ _ => rfl⟩ (fun x e => by cases e) (Sr.below (Sr.shift hsr hpos) ((Below.refl _ _).drew)) (fun x off' n' cap' e hh => by
        simp only [Value.slice.injEq, Option.some.injEq, Addr.mk.injEq] at e
        obtain ⟨⟨rfl, rfl, _⟩, _, _⟩ := e
        refine ⟨k1, ?_, .inl k3⟩
        have e2 : off + 2 + (L c - 1) * 2 = off + L c * 2 := by omega
        rw [e2]
        exact k2) (by have := hB2.size; show base ≤ V.heap.size; omega)
      have et3 : tag3 = tag := by
        funext x
        rw [ht3 x]
        split
        · rename_i q; have q1 := q.1; simp only [Value.ownBlock, Option.some.injEq] at q1; rw [← q1]; exact k3.symm
        · rfl
      rw [et3] at ta3
      clear ht3 et3 tag3
      have HF := hide (And.intro ta3 (And.intro ((hB2.drew).setCell (p := ⟨bb, bo + c, none⟩) b1 (.slice (some ⟨g, off + 2, none⟩) (L c - 1) (ic - 1))) (Kp.set (w1 := V.drew) (B := bb) (i := bo + c) (v := .slice (some ⟨g, off + 2, none⟩) (L c - 1) (ic - 1)) (fun j hj ht => hK2 j hj ht) (by omega))))
      clear ta3 ta2 hsr hbk k2 bz2 hK2
      refine wpAnyK_one (i := 7) (by kernel_rfl) rfl (fun K hK => ?_)
      go_simp
      refine hK.out _ _ (fun h => absurd rfl h) (fun _ => ?_)
      clear hK K hHeld u1 u2
      try simp only [Act.put, List.getElem_toArray, List.getElem_cons_zero, List.getElem_cons_succ, List.setIfInBounds_toArray, List.set_cons_zero, List.set_cons_succ]
      refine wpAnyK_done (by kernel_rfl) ?_
      go_wp2
      go_ret
      first | exact .inr ⟨hpos, rfl, ⟨_, HF.out.1, fun a n' cap' e => by simp only [Value.slice.injEq] at e; omega⟩, HF.out.2.1, HF.out.2.2⟩ | exact ⟨hpos, rfl, ⟨_, HF.out.1, fun a n' cap' e => by simp only [Value.slice.injEq] at e; omega⟩, HF.out.2.1, HF.out.2.2⟩ | exact ⟨rfl, ⟨_, HF.out.1, fun a n' cap' e => by simp only [Value.slice.injEq] at e; omega⟩, HF.out.2.1, HF.out.2.2⟩

theorem firstDrained_any (mv bv rv : Value) (zs : List Int) (C : Nat) (L : Nat → Nat) (F : Nat → Nat → Nat → Int) (R : Nat) (Z : Nat → List Int) (vb vr : Nat → Value) (tag : Nat → Nat) (base c : Nat) (k va vl rg : Int) (w : World) (h : Ta w base mv bv rv zs C L F R Z vb vr tag) (hc : c < C) (hL : L c ≤ 1000) (hcap : ∀ a n' cap, vb c = .slice a n' cap → n' ≤ cap) (hv : 0 < L c → 0 ≤ F c 0 0 ∧ F c 0 0 < zs.length) (hb : base ≤ w.heap.size) :
    Calls Try.prog 58 #[.agg #[mv, bv, rv], .agg (five k c va vl rg)] w fun e w' => (L c = 0 ∧ e = .returned (.int .i64 5) ∧ Below w.heap.size w w') ∨ (0 < L c ∧ e = .returned (.int .i64 0) ∧ (∃ u tag', Ta w' base mv bv rv (zs.set (F c 0 0).toNat (F c 0 1)) C (upd L c (L c - 1)) (upd F c (fun j => F c (j + 1))) R Z (upd vb c u) vr tag' ∧ ∀ a n' cap, u = .slice a n' cap → n' ≤ cap) ∧ Below base w w' ∧ Kp tag w w') := by
  refine (firstDrained_all mv bv rv zs C L F R Z vb vr tag base c k va vl rg w h hc hL hcap hv hb).mono ?_
  rintro e w' (q | ⟨q1, q2, ⟨u, q3, q4⟩, q5⟩)
  · exact .inl q
  · exact .inr ⟨q1, q2, ⟨u, tag, q3, q4⟩, q5⟩

end Go.Proofs.Ytcocobmanlmjdaa
