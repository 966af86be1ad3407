/- Proved: for every Tso, of whatever lengths, laws.FnExactDrained returns true and leaves its argument as it read. No condition. -/
import Derived.Test.YtnodnclpeldpdaaRows
import Derived.Test.YtnodnclpeldpdaaTsG
import Derived.Test.YtnodnclpeldpdaaDrC
import Derived.WalkKit
import Derived.ProofKit
import Derived.OpenShut
import Derived.ShutString
import Derived.ChangeOld
import Derived.Below
import Derived.OpenVars
namespace Go.Proofs.Ytnodnclpeldpdaa.fnExactDrained
open Go.ChangeShapes Go.WideShapes Go.ChangeAt Go.WideMaps Go.WideElems Go.RowKit
set_option linter.unusedVariables false
set_option linter.unusedSimpArgs false

theorem own : ownKnob Try.prog.godebug = none := by kernel_rfl
theorem laidOut : laidOutB Try.prog = true := by kernel_rfl

set_option maxHeartbeats 16000000 in
set_option maxRecDepth 20000 in
theorem walk (mv bv rv : Value) (zs : List Int) (C : Nat) (L : Nat → Nat) (F : Nat → Nat → Nat → Int) (R : Nat) (Z : Nat → List Int) (w : World) (hv : Tv w mv bv rv zs C L F R Z) (hm : (zs.length : Int) ≤ 9223372036854775807) (hC : (C : Int) ≤ 9223372036854775807) (hL : ∀ c, c < C → (L c : Int) ≤ 9223372036854775807) (hR : (R : Int) ≤ 9223372036854775807) (hZ : ∀ c, c < R → ((Z c).length : Int) ≤ 9223372036854775807) :
    Calls Try.prog 7 #[.agg #[mv, bv, rv]] w fun e w' => e = .returned (.bool true) ∧ Below w.heap.size w w' := by
  have hB0 : Below w.heap.size w (w.alloc (.cells #[mv, bv, rv] 34)) := (Below.refl _ _).alloc (Nat.le_refl _) _
  have qX : (w.alloc (.cells #[mv, bv, rv] 34)).heap[w.heap.size]? = some (.cells #[mv, bv, rv] 34 (0, 0)) := heap_alloc_new _ _
  obtain ⟨⟨ma, mc, rfl⟩, ⟨ba, bc, rfl⟩, ⟨ra, rc, rfl⟩⟩ := three_of hv
  have HV := hide hv
  clear hv
  have hto := fun W m b r (h : Tv W m b r zs C L F R Z) (hl : Tl zs C L R Z) => toTso_um m b r zs C L F R Z W h hl
  have hsp := fun W m b r (h : Tv W m b r zs C L F R Z) => (specDrained_any m b r ⟨zs, L, F, Z⟩ C R W h).mono (fun e W' h => dr_all h)
  have him := fun W m b r (h : Tv W m b r zs C L F R Z) => (implDrained_any m b r ⟨zs, L, F, Z⟩ C R W h).mono (fun e W' h => dr_all h)
  have hsm := eD_small ⟨zs, L, F, Z⟩ C R
  generalize eD ⟨zs, L, F, Z⟩ C R = d at hsp him hsm
  generalize aC ⟨zs, L, F, Z⟩ C R = D at hsp him hsm
  generalize tokB zs C L F R Z = K0 at hsp him
  have hmk := fun W base m b r vb vr tag (t : Ta W base m b r d.zs D d.L d.F D d.Z vb vr tag) (hq : ∀ g, W.heap.size ≤ g → tag g = 100000) => markTso_tb (k := 1) t hq (by decide) (by decide) hsm.zs hsm.c hsm.l hsm.c hsm.z
  have hhd := fun W base m b r vb vr tag (t : Ta W base m b r (marks 1 d.zs.length) D d.L (mkF (1 + d.zs.length) d.L d.F D) D (mkZ (sm2 (1 + d.zs.length) d.L D) d.Z D) vb vr tag) => heldTso_ta (k := 1) (n := d.zs.length) t (by decide) (by decide) hsm.zs hsm.c hsm.l hsm.c hsm.z
  have hkk : 0 ≤ mkK 1 d.zs.length D d.L D d.Z := by have := mkK_ge 1 d.zs.length D d.L D d.Z; omega
  generalize mkK 1 d.zs.length D d.L D d.Z = kk at hmk hhd hkk
  generalize mkZ (sm2 (1 + d.zs.length) d.L D) d.Z D = ZM at hmk hhd
  generalize mkF (1 + d.zs.length) d.L d.F D = FM at hmk hhd
  generalize marks 1 d.zs.length = zsM at hmk hhd
  have HTL := hide hsm.tl
  clear hsm
  obtain ⟨_, x0, x1, x2⟩ := row3_facts qX
  go_enter Try.func7, Try.ntmps7
  go_wp2_with fail
  refine (szTso_any _ _ _ zs C L F R Z _ (HV.out.below hB0) hm hC hL hR hZ).mono ?_
  rintro e w1 ⟨r, rfl, hp, hb1'⟩
  have hb1 := hB0.trans (hb1'.mono hB0.size)
  have qX1 := heap_b qX hb1'
  clear hb1' hB0 qX x0 x1 x2
  by_cases hx : r < 0
  · clear hp
    go_wp2
    go_ret
    exact ⟨rfl, hb1⟩
  have hl := hp (by omega)
  clear hp hm hC hL hR hZ
  obtain ⟨_, x0, x1, x2⟩ := row3_facts qX1
  go_wp2_with fail
  refine (hto _ _ _ _ (HV.out.below hb1) hl).mono ?_
  rintro e w2 ⟨m2, b2, r2, vb2, vr2, tag2, rfl, tv2, um2, hq2, hcap2, hb2⟩
  clear um2 hq2 hcap2 x0 x1 x2
  go_wp2_with fail
  refine (hsp _ _ _ _ tv2).mono ?_
  rintro e w3 ⟨m6, b6, r6, vb6, vr6, tag6, rfl, ta6, hb3⟩
  obtain ⟨⟨xm6, ym6, rfl⟩, ⟨xb6, yb6, rfl⟩, ⟨xr6, yr6, rfl⟩⟩ := three_of (Ta.tv ta6)
  have hA6 : Below w3.heap.size w3 (w3.alloc (.cells #[.slice xm6 d.zs.length ym6, .slice xb6 D yb6, .slice xr6 D yr6] 26)) := (Below.refl _ _).alloc (Nat.le_refl _) _
  have q6 : (w3.alloc (.cells #[.slice xm6 d.zs.length ym6, .slice xb6 D yb6, .slice xr6 D yr6] 26)).heap[w3.heap.size]? = some (.cells #[.slice xm6 d.zs.length ym6, .slice xb6 D yb6, .slice xr6 D yr6] 26 (0, 0)) := heap_alloc_new _ _
  have T6 := (Ta.tv ta6).below hA6
  have hb23 := hb2.trans (hb3.mono hb2.size)
  have hQ0 := hb23.trans (hA6.mono hb23.size)
  have hB6 := hb1.trans (hQ0.mono hb1.size)
  have l6 := lt_of_block q6
  have qX6 := heap_b qX1 hQ0
  have V6 := HV.out.below hB6
  have H6 := hide (And.intro qX6 (And.intro q6 (And.intro V6 (And.intro T6 hB6))))
  clear hQ0 qX1 hb1 q6 T6 hB6 HV tv2 hb2 hb3 hb23 hA6 ta6
  obtain ⟨_, x0, x1, x2⟩ := row3_facts qX6
  go_wp2_with fail
  obtain ⟨W6, hW⟩ : ∃ W6, w3.alloc (.cells #[.slice xm6 d.zs.length ym6, .slice xb6 D yb6, .slice xr6 D yr6] 26) = W6 := ⟨_, rfl⟩
  rw [hW] at qX6 V6 H6 l6 x0 x1 x2 ⊢
  clear hW
  refine (hto _ _ _ _ V6 hl).mono ?_
  rintro e w7 ⟨m8, b8, r8, vb8, vr8, tag8, rfl, tv8, um8, hq8, hcap8, hb7⟩
  obtain ⟨⟨xm8, ym8, rfl⟩, ⟨xb8, yb8, rfl⟩, ⟨xr8, yr8, rfl⟩⟩ := three_of tv8
  clear hcap8
  have hA8 : Below w7.heap.size w7 (w7.alloc (.cells #[.slice xm8 zs.length ym8, .slice xb8 C yb8, .slice xr8 R yr8] 26)) := (Below.refl _ _).alloc (Nat.le_refl _) _
  have q8 : (w7.alloc (.cells #[.slice xm8 zs.length ym8, .slice xb8 C yb8, .slice xr8 R yr8] 26)).heap[w7.heap.size]? = some (.cells #[.slice xm8 zs.length ym8, .slice xb8 C yb8, .slice xr8 R yr8] 26 (0, 0)) := heap_alloc_new _ _
  have hQ8 := hb7.trans (hA8.mono hb7.size)
  have tv8b := tv8.below hA8
  have um8b := um8.below hA8
  have s67 := hb7.size
  obtain ⟨_, c0, c1, c2⟩ := row3_facts q8
  clear hb7 hA8 tv8 um8 x0 x1 x2 qX6 V6
  go_wp2_with fail
  obtain ⟨W8, hW⟩ : ∃ W8, w7.alloc (.cells #[.slice xm8 zs.length ym8, .slice xb8 C yb8, .slice xr8 R yr8] 26) = W8 := ⟨_, rfl⟩
  rw [hW] at q8 hQ8 tv8b um8b c0 c1 c2 ⊢
  clear hW
  have l8 := lt_of_block q8
  refine (him _ _ _ _ tv8b).mono ?_
  rintro e v9 ⟨m9, b9, r9, vb9, vr9, tag9o, rfl, ta9, hb9⟩
  obtain ⟨⟨xm9, ym9, rfl⟩, ⟨xb9, yb9, rfl⟩, ⟨xr9, yr9, rfl⟩⟩ := three_of (Ta.tv ta9)
  obtain ⟨tag9, hX9⟩ := Bxd.after ta9 (Nat.le_refl _) hb9
  clear ta9 hb9 c0 c1 c2
  obtain ⟨q9, t9, lo9, off9, hq9, hR, lb9⟩ := hX9
  have hQ9 := hQ8.trans (hR.mono hQ8.size)
  have tv8c := tv8b.below hR
  have um8c := um8b.below hR
  have q8c := heap_b q8 hR
  have l9 := lt_of_block q9
  have s9 := hR.size
  clear hR hQ8 tv8b um8b q8
  have hQa := hQ9
  have t9a := t9
  have tv8a := tv8c
  have um8a := um8c
  have q8a := q8c
  have q9a := q9
  have q6a := heap_b H6.out.2.1 hQ9
  have qXa := heap_b H6.out.1 hQ9
  clear hQ9 t9 tv8c um8c q8c q9
  obtain ⟨_, c0, c1, c2⟩ := row3_facts q9a
  obtain ⟨_, f0, f1, f2⟩ := row3_facts q6a
  go_wp2_with fail
  refine (eqTso_same _ _ _ _ _ _ d.zs D d.L d.F D d.Z _ (Ta.tv t9a) (H6.out.2.2.2.1.below hQa) HTL.out).mono ?_
  rintro e w11 ⟨rfl, hb11⟩
  have s1 := hb11.size
  have hQb := hQa.trans (hb11.mono hQa.size)
  have t9b := t9a.below hb11
  have tv8b := tv8a.below hb11
  have um8b := um8a.below hb11
  have q8b := heap_b q8a hb11
  have q9b := heap_b q9a hb11
  have q6b := heap_b q6a hb11
  have qXb := heap_b qXa hb11
  clear hQa t9a tv8a um8a q8a q9a q6a qXa hb11
  clear c0 c1 c2 f0 f1 f2
  go_wp2
  have z8 := q8b
  have zX := qXb
  refine wp_region_held_drew (S := fun w' => Below w11.heap.size w11 w') (by kernel_rfl) ((Below.refl _ _).drew) (fun hHeld => ?_)
  refine wpAnyH_take (i := 0) (v := .agg #[.slice xm8 zs.length ym8, .slice xb8 C yb8, .slice xr8 R yr8]) rfl (by kernel_rfl) (by kernel_rfl) (by kernel_rfl) (fun _ _ _ h => h) (Or.inl ⟨by rfl, fun w' hSw => ?_⟩) (by assumption) ?_
  · (try dsimp only at hSw); obtain ⟨_, z0, z1, z2⟩ := row3_facts (heap_b z8 hSw); obtain ⟨_, z3, z4, z5⟩ := row3_facts (heap_b zX hSw); go_simp
  try simp only [Act.put, List.getElem_toArray, List.getElem_cons_zero, List.getElem_cons_succ, List.setIfInBounds_toArray, List.set_cons_zero, List.set_cons_succ]
  refine wpAnyH_take (i := 1) (v := .agg #[.slice ma zs.length mc, .slice ba C bc, .slice ra R rc]) rfl (by kernel_rfl) (by kernel_rfl) (by kernel_rfl) (fun _ _ _ h => h) (Or.inl ⟨by rfl, fun w' hSw => ?_⟩) (by assumption) ?_
  · (try dsimp only at hSw); obtain ⟨_, z0, z1, z2⟩ := row3_facts (heap_b z8 hSw); obtain ⟨_, z3, z4, z5⟩ := row3_facts (heap_b zX hSw); go_simp
  try simp only [Act.put, List.getElem_toArray, List.getElem_cons_zero, List.getElem_cons_succ, List.setIfInBounds_toArray, List.set_cons_zero, List.set_cons_succ]
  refine wpAnyH_ready (rs := [2]) (by kernel_rfl) (by simp) ?_
  refine AllReadyH.cons rfl (fun K hK => ?_) AllReadyH.nil
  go_simp
  refine (hto _ _ _ _ (H6.out.2.2.1.below (hQb.trans (hHeld.mono hQb.size))) hl).mono ?_
  rintro e w12 ⟨m3, b3, r3, vb3, vr3, tag3, rfl, tv3, um3, hq3, hcap3, hb12⟩
  obtain ⟨⟨xm3, ym3, rfl⟩, ⟨xb3, yb3, rfl⟩, ⟨xr3, yr3, rfl⟩⟩ := three_of tv3
  clear um3 hq3 hcap3
  refine hK.out _ _ (hHeld.trans (hb12.mono hHeld.size)) (fun hHeld => ?_)
  clear hK K hb12
  try simp only [Act.put, List.getElem_toArray, List.getElem_cons_zero, List.getElem_cons_succ, List.setIfInBounds_toArray, List.set_cons_zero, List.set_cons_succ]
  refine wpAnyH_ready (rs := [3]) (by kernel_rfl) (by simp) ?_
  refine AllReadyH.cons rfl (fun K hK => ?_) AllReadyH.nil
  go_simp
  refine (eqTso_same _ _ _ _ _ _ zs C L F R Z _ (tv8b.below hHeld) tv3 hl).mono ?_
  rintro e w13 ⟨rfl, hb13⟩
  refine hK.out _ _ (hHeld.trans (hb13.mono hHeld.size)) (fun hHeld => ?_)
  clear hK K hb13
  try simp only [Act.put, List.getElem_toArray, List.getElem_cons_zero, List.getElem_cons_succ, List.setIfInBounds_toArray, List.set_cons_zero, List.set_cons_succ]
  refine wpAnyH_take (i := 4) (v := .bool false) rfl (by kernel_rfl) (by kernel_rfl) (by kernel_rfl) (fun _ _ _ h => h) (Or.inl ⟨by rfl, fun w' hSw => ?_⟩) (by assumption) ?_
  · (try dsimp only at hSw); skip; go_simp
  try simp only [Act.put, List.getElem_toArray, List.getElem_cons_zero, List.getElem_cons_succ, List.setIfInBounds_toArray, List.set_cons_zero, List.set_cons_succ]
  refine wpAnyH_done (by kernel_rfl) ?_ _
  clear z8 zX tv3
  have hs13 := hHeld
  have s2 := hs13.size
  have hQc := hQb.trans (hs13.mono hQb.size)
  have t9c := t9b.below hs13
  have tv8c := tv8b.below hs13
  have um8c := um8b.below hs13
  have q8c := heap_b q8b hs13
  have q9c := heap_b q9b hs13
  have q6c := heap_b q6b hs13
  have qXc := heap_b qXb hs13
  clear hQb t9b tv8b um8b q8b q9b q6b qXb hs13
  obtain ⟨_, c0, c1, c2⟩ := row3_facts q8c
  go_wp2_with fail
  refine (markTso_um um8c (fun g hg => hq8 g (by omega)) (by decide) (by decide) hl.mem hl.buf.1 hl.buf.2 hl.reg.1 hl.reg.2).mono ?_
  rintro e w14 ⟨⟨k8, hk8, rfl⟩, hc14⟩
  have hQd := below_chg hQc hc14 (fun j hj => hj.1) hQc.size
  have nS : ∀ g, w7.heap.size ≤ g → ¬ Tg W6.heap.size tag8 0 g := fun g hg hs => by have := hs.2; rw [hq8 g hg] at this; omega
  have q9d := (hc14.block _ (lt_of_block q9c) (nS _ (by omega))).trans q9c
  have t9d := Ta.chg0 t9c hc14 (fun b hb => Nat.lt_of_lt_of_le (Nat.lt_of_not_le (fun q => nS b q hb)) (by omega))
  have q6d := heap_b H6.out.2.1 hQd
  have qXd := heap_b H6.out.1 hQd
  have s3 := hc14.size
  clear hc14 nS hQc t9c tv8c um8c q8c q9c q6c qXc hq8 c0 c1 c2
  obtain ⟨_, c0, c1, c2⟩ := row3_facts q9d
  obtain ⟨_, f0, f1, f2⟩ := row3_facts q6d
  go_wp2_with fail
  refine (eqTso_same _ _ _ _ _ _ d.zs D d.L d.F D d.Z _ (Ta.tv t9d) (H6.out.2.2.2.1.below hQd) HTL.out).mono ?_
  rintro e w15 ⟨rfl, hb15⟩
  have s4 := hb15.size
  have hQe := hQd.trans (hb15.mono hQd.size)
  have t9e := t9d.below hb15
  have q9e := heap_b q9d hb15
  have q6e := heap_b q6d hb15
  have qXe := heap_b qXd hb15
  clear hQd t9d q9d q6d qXd hb15
  clear c0 c1 c2 f0 f1 f2
  obtain ⟨_, c0, c1, c2⟩ := row3_facts q9e
  go_wp2_with fail
  refine (hmk _ _ _ _ _ _ _ _ t9e (fun g hg => hq9 g (by omega))).mono ?_
  rintro e w16 ⟨rfl, t9f, hc16⟩
  have hQf := below_chg hQe hc16 (fun j hj => by have := hj.1; omega) hQe.size
  have q9f := (hc16.block _ (lt_of_block q9e) (fun hs => by have h1 := hs.1; have h2 := hs.2; rcases off9 with q | q <;> omega)).trans q9e
  have q6f := heap_b H6.out.2.1 hQf
  have qXf := heap_b H6.out.1 hQf
  clear hc16 hQe t9e q9e q6e qXe hq9 c0 c1 c2
  obtain ⟨_, c0, c1, c2⟩ := row3_facts q9f
  go_wp2_with fail
  refine (hhd _ _ _ _ _ _ _ _ t9f).mono ?_
  rintro e w17 ⟨rfl, hb17⟩
  have hQg := hQf.trans (hb17.mono hQf.size)
  have t9g := t9f.below hb17
  have q9g := heap_b q9f hb17
  have q6g := heap_b q6f hb17
  have qXg := heap_b qXf hb17
  clear hQf t9f q9f q6f qXf hb17
  clear c0 c1 c2
  obtain ⟨_, x0, x1, x2⟩ := row3_facts qXg
  go_wp2_with fail
  refine (hto _ _ _ _ (H6.out.2.2.1.below hQg) hl).mono ?_
  rintro e v4 ⟨m4, b4, r4, vb4, vr4, tag4, rfl, tv4, um4, hq4, hcap4, hb4⟩
  clear um4 hq4 hcap4 x0 x1 x2
  go_wp2_with fail
  refine (him _ _ _ _ tv4).mono ?_
  rintro e v5 ⟨m5, b5, r5, vb5, vr5, tag5, rfl, ta5, hb5⟩
  obtain ⟨⟨xm5, ym5, rfl⟩, ⟨xb5, yb5, rfl⟩, ⟨xr5, yr5, rfl⟩⟩ := three_of (Ta.tv ta5)
  have hA5 : Below v5.heap.size v5 (v5.alloc (.cells #[.slice xm5 d.zs.length ym5, .slice xb5 D yb5, .slice xr5 D yr5] 26)) := (Below.refl _ _).alloc (Nat.le_refl _) _
  have q5 : (v5.alloc (.cells #[.slice xm5 d.zs.length ym5, .slice xb5 D yb5, .slice xr5 D yr5] 26)).heap[v5.heap.size]? = some (.cells #[.slice xm5 d.zs.length ym5, .slice xb5 D yb5, .slice xr5 D yr5] 26 (0, 0)) := heap_alloc_new _ _
  have T5 := (Ta.tv ta5).below hA5
  have hb45 := hb4.trans (hb5.mono hb4.size)
  have hR := hb45.trans (hA5.mono hb45.size)
  clear tv4 hb4 hb5 hb45 hA5 ta5
  have hQh := hQg.trans (hR.mono hQg.size)
  have t9h := t9g.below hR
  have q9h := heap_b q9g hR
  have q6h := heap_b q6g hR
  have qXh := heap_b qXg hR
  clear hQg t9g q9g q6g qXg hR
  obtain ⟨_, c0, c1, c2⟩ := row3_facts q5
  obtain ⟨_, f0, f1, f2⟩ := row3_facts q6h
  go_wp2_with fail
  refine (eqTso_same _ _ _ _ _ _ d.zs D d.L d.F D d.Z _ T5 (H6.out.2.2.2.1.below hQh) HTL.out).mono ?_
  rintro e w21 ⟨rfl, hb21⟩
  have hQi := hQh.trans (hb21.mono hQh.size)
  have t9i := t9h.below hb21
  have q9i := heap_b q9h hb21
  have q6i := heap_b q6h hb21
  have qXi := heap_b qXh hb21
  clear hQh t9h q9h q6h qXh hb21
  clear c0 c1 c2 f0 f1 f2 T5 q5
  obtain ⟨_, c0, c1, c2⟩ := row3_facts q9i
  go_wp2_with fail
  refine (hhd _ _ _ _ _ _ _ _ t9i).mono ?_
  rintro e w22 ⟨rfl, hb22⟩
  have hE := H6.out.2.2.2.2.trans ((hQi.trans (hb22.mono hQi.size)).mono H6.out.2.2.2.2.size)
  clear hb22 hQi t9i q9i q6i qXi c0 c1 c2
  go_wp2
  go_ret
  exact ⟨rfl, hE⟩

set_option maxRecDepth 100000 in
theorem lifted (os : Os) (started : os.Started) (H : Type) (enc : TypeId × Value → H) :
    ReturnsInHanded {} Try.checked os 7 .any (Rows.fnExactDrainedSpec.pre6 enc Try.prog Try.f7 Rows.fnExactDrainedRow.domain false) (Rows.fnExactDrainedSpec.post enc Try.prog Try.f7 false true false false) := by
  refine returnsInHanded_of_change (C := Try.checked) own started (by kernel_rfl) Try.func7
    (ChangeSpec.witness6 (enc := enc) (C := Try.checked) false ⟨#[], #[.agg #[.slice none 0 0, .slice none 0 0, .slice none 0 0]], []⟩ 8 (by kernel_rfl) (by kernel_rfl) (by kernel_rfl) (by kernel_rfl)) ?_
  intro W base args ds gs before hval0 hW hcnd _
  have hval : ∀ (j : Nat) t v, Try.f7.params[j]? = some t → args[j]? = some v → Value.okWide Try.prog W .any base t v := hval0
  have hW' := hW
  obtain ⟨p, q, hA0, hV, rfl, hfz, hnd⟩ := hW
  have hA : DataW.TrodAll enc Try.prog W 0 (fun _ => true) true Try.f7.params.toList args.toList ds p := hA0
  rw [Try.params7] at hA hval
  obtain ⟨v0, vs0, d0, ds0, p0, q0, hargs, rfl, rfl, h0, r0⟩ := trodAll_cons hA
  obtain ⟨rfl, rfl, rfl⟩ := trodAll_nil r0
  obtain rfl : args = #[v0] := by cases args; simp_all
  obtain ⟨rfl, rfl⟩ := trodVars_none hV
  have k0 := h0
  have lt0 : ∀ x ∈ p0, x.block < W.heap.size := by obtain ⟨m, hm⟩ := k0; exact DataW.trod_lt m _ _ _ hm
  obtain ⟨mv0, bv0, rv0, zs0, C0, L0, F0, R0, Z0, rfl, ht0, hm0, ⟨hC0, hl0⟩, hr0, hz0⟩ := open_tso (hval 0 34 v0 rfl rfl) h0
  clear hA0 hval0
  refine (walk mv0 bv0 rv0 zs0 C0 L0 F0 R0 Z0 W ht0 (by unfold maxLen at hm0; omega) (by unfold maxLen at hC0; omega) (fun c hc => by have := hl0 c hc; unfold maxLen at this; omega) (by unfold maxLen at hr0; omega) (fun c hc => by have := hz0 c hc; unfold maxLen at this; omega)).mono fun e W' ⟨he, bel⟩ => ?_
  subst he
  exact ⟨_, rfl, _, _, _, [], _, [], hW', trodAll_mk1 (shut_bool Try.underlying4 _), (trodAll_cons_mk (Below.trod laidOut (by kernel_rfl) (of_decide_eq_true (by kernel_rfl)) k0 bel lt0) trodAll_mk0), rfl, bel.frame _, fun h => by cases h⟩

theorem over : Rows.fnExactDrainedRow.holds Try.pinned (OpenSpec.ofChange Rows.fnExactDrainedSpec) :=
  OpenClaim.holds_of_wide 7 Try.f7 rfl rfl rfl rfl rfl rfl rfl ⟨rfl, rfl, rfl, rfl, rfl⟩ rfl rfl rfl rfl rfl (by kernel_rfl) Try.func7 (by kernel_rfl)
    (of_decide_eq_true (by kernel_rfl)) (by unfold Func.isWrapper; first | (rw [if_pos (by decide +kernel)]; kernel_rfl) | (rw [if_neg (by decide +kernel)]; exact ⟨rfl, rfl⟩))
    (fun os started H enc _ => lifted os started H enc)

theorem proved : Rows.FnExactDrainedSaid := over
end Go.Proofs.Ytnodnclpeldpdaa.fnExactDrained

namespace Go.Proofs.Ytnodnclpeldpdaa
theorem fnExactDrained_holds : Rows.FnExactDrainedSaid := fnExactDrained.proved
end Go.Proofs.Ytnodnclpeldpdaa
