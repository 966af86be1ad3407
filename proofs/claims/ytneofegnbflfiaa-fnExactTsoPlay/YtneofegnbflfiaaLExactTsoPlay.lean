/- Proved: for every argument, laws.FnExactTsoPlay returns true. No condition. -/
import Derived.Test.YtneofegnbflfiaaRows
import Derived.Test.YtneofegnbflfiaaRxX
import Derived.WalkKit
import Derived.ProofKit
import Derived.OpenShut
import Derived.ShutString
import Derived.ChangeOld
import Derived.Below
import Derived.OpenVars
namespace Go.Proofs.Ytneofegnbflfiaa.fnExactTsoPlay
open Go.ChangeShapes Go.WideShapes Go.ChangeAt Go.WideMaps Go.WideElems Go.RowKit
set_option linter.unusedVariables false
set_option linter.unusedSimpArgs false

theorem own : ownKnob Try.prog.godebug = none := by kernel_rfl
theorem laidOut : laidOutB Try.prog = true := by kernel_rfl

set_option maxHeartbeats 16000000 in
set_option maxRecDepth 20000 in
theorem walk (mv bv rv : Value) (zs : List Int) (C : Nat) (L : Nat → Nat) (F : Nat → Nat → Nat → Int) (R : Nat) (Z : Nat → List Int) (la : Option Addr) (ln lc : Nat) (f : Nat → Nat → Int) (w : World) (hv : Tv w mv bv rv zs C L F R Z) (hm : (zs.length : Int) ≤ 9223372036854775807) (hC : (C : Int) ≤ 9223372036854775807) (hL : ∀ c, c < C → (L c : Int) ≤ 9223372036854775807) (hR : (R : Int) ≤ 9223372036854775807) (hZ : ∀ c, c < R → ((Z c).length : Int) ≤ 9223372036854775807) (hsr : Sr w (.slice la ln lc) 5 ln f) (hln : (ln : Int) ≤ 9223372036854775807) :
    Calls Try.prog 11 #[.agg #[mv, bv, rv], .slice la ln lc] w fun e w' => e = .returned (.bool true) ∧ Below w.heap.size w w' := by
  have hB0 : Below w.heap.size w (w.alloc (.cells #[mv, bv, rv] 55)) := (Below.refl _ _).alloc (Nat.le_refl _) _
  have qX : (w.alloc (.cells #[mv, bv, rv] 55)).heap[w.heap.size]? = some (.cells #[mv, bv, rv] 55 (0, 0)) := heap_alloc_new _ _
  obtain ⟨⟨ma, mc, rfl⟩, ⟨ba, bc, rfl⟩, ⟨ra, rc, rfl⟩⟩ := three_of hv
  have HV := hide hv
  have HA := hide hsr
  clear hv hsr
  obtain ⟨_, x0, x1, x2⟩ := row3_facts qX
  go_enter Try.func11, Try.ntmps11
  go_wp2_with fail
  refine (szTso_le _ _ _ zs C L F R Z _ (HV.out.below hB0) hm hC hL hR hZ).mono ?_
  rintro e w1 ⟨r, rfl, hp, hb1'⟩
  have hb1 := hB0.trans (hb1'.mono hB0.size)
  have qX1 := heap_b qX hb1'
  clear hb1' hB0 qX x0 x1 x2
  by_cases hx : r < 0
  · clear hp
    go_wp2
    go_ret
    exact ⟨rfl, hb1⟩
  obtain ⟨hl, hr1⟩ := hp (by omega)
  clear hp hm hC hL hR hZ
  go_wp2_with fail
  refine (szBActS_any la ln lc r _ (by omega) hr1 hln).mono ?_
  rintro e wz ⟨r2, rfl, hr2, hp2, rfl⟩
  by_cases hx2 : r2 < 0
  · clear hp2
    go_wp2
    go_ret
    exact ⟨rfl, hb1⟩
  have hln2 := hp2 (by omega)
  clear hp2 hr2 hr1 hx hln
  have hto := fun W m b r (h : Tv W m b r zs C L F R Z) (hl : Tl zs C L R Z) => toTso_um m b r zs C L F R Z W h hl
  have hta := fun W (h : Sr W (.slice la ln lc) 5 ln f) => toBActS_any (.slice la ln lc) ln f W h hln2
  have hsp := fun W m b r la' lc' (h : Tv W m b r zs C L F R Z) (hs : Sr W (.slice la' ln lc') 5 ln f) => (specTsoPlay_any m b r ⟨zs, L, F, Z⟩ C R la' ln lc' f W h hs hln2).mono (fun e W' h => sp_all h)
  have him := fun W m b r la' lc' (h : Tv W m b r zs C L F R Z) (hs : Sr W (.slice la' ln lc') 5 ln f) => (implTsoPlay_any m b r ⟨zs, L, F, Z⟩ C R la' ln lc' f W h hs hln2).mono (fun e W' h => pl_all h)
  obtain ⟨hsm, hcl⟩ := pD_small ⟨zs, L, F, Z⟩ C R ln f
  generalize pD ⟨zs, L, F, Z⟩ C R ln f = d at hsp him hsm
  generalize pC ⟨zs, L, F, Z⟩ C R ln = D at hsp him hsm
  generalize pK ⟨zs, L, F, Z⟩ C R ln f = cs at hsp him hcl
  have hmk := fun W base m b r vb vr tag (t : Ta W base m b r d.zs D d.L d.F D d.Z vb vr tag) (hq : ∀ g, W.heap.size ≤ g → tag g = 100000) => markTso_tb (k := 1) t hq (by decide) (by decide) hsm.zs hsm.c hsm.l hsm.c hsm.z
  have hhd := fun W base m b r vb vr tag (t : Ta W base m b r (marks 1 d.zs.length) D d.L (mkF (1 + d.zs.length) d.L d.F D) D (mkZ (sm2 (1 + d.zs.length) d.L D) d.Z D) vb vr tag) => heldTso_ta (k := 1) (n := d.zs.length) t (by decide) (by decide) hsm.zs hsm.c hsm.l hsm.c hsm.z
  have hkk : 0 ≤ mkK 1 d.zs.length D d.L D d.Z := by have := mkK_ge 1 d.zs.length D d.L D d.Z; omega
  have hkl := mkK_le hsm
  generalize mkK 1 d.zs.length D d.L D d.Z = kk at hmk hhd hkk hkl
  generalize mkZ (sm2 (1 + d.zs.length) d.L D) d.Z D = ZM at hmk hhd
  generalize mkF (1 + d.zs.length) d.L d.F D = FM at hmk hhd
  generalize marks 1 d.zs.length = zsM at hmk hhd
  have HTL := hide hsm.tl
  have HD := hide hsm.c
  clear hsm
  obtain ⟨_, x0, x1, x2⟩ := row3_facts qX1
  go_wp2_with fail
  refine (hto _ _ _ _ (HV.out.below hb1) hl).mono ?_
  rintro e w2 ⟨m2, b2, r2, vb2, vr2, tag2, rfl, tv2, um2, hq2, hcap2, hb2⟩
  clear um2 hq2 hcap2 x0 x1 x2
  go_wp2_with fail
  refine (hta _ (Sr.below HA.out (hb1.trans (hb2.mono hb1.size)))).mono ?_
  rintro e w3 ⟨g3, rfl, or3, hb3⟩
  go_wp2_with fail
  refine (hsp _ _ _ _ _ _ (tv2.below hb3) (Orow.sr or3)).mono ?_
  rintro e w4 ⟨m6, b6, r6, cv6, rfl, tv6, sl6, hb4⟩
  obtain ⟨⟨xm6, ym6, rfl⟩, ⟨xb6, yb6, rfl⟩, ⟨xr6, yr6, rfl⟩⟩ := three_of tv6
  have hA6 : Below w4.heap.size w4 (w4.alloc (.cells #[.slice xm6 d.zs.length ym6, .slice xb6 D yb6, .slice xr6 D yr6] 28)) := (Below.refl _ _).alloc (Nat.le_refl _) _
  have q6 : (w4.alloc (.cells #[.slice xm6 d.zs.length ym6, .slice xb6 D yb6, .slice xr6 D yr6] 28)).heap[w4.heap.size]? = some (.cells #[.slice xm6 d.zs.length ym6, .slice xb6 D yb6, .slice xr6 D yr6] 28 (0, 0)) := heap_alloc_new _ _
  have T6 := tv6.below hA6
  have S6 := sl6.below hA6
  have hb23 := hb2.trans (hb3.mono hb2.size)
  have hb24 := hb23.trans (hb4.mono hb23.size)
  have hQ0 := hb24.trans (hA6.mono hb24.size)
  have hB6 := hb1.trans (hQ0.mono hb1.size)
  have l6 := lt_of_block q6
  have qX6 := heap_b qX1 hQ0
  have V6 := HV.out.below hB6
  have A6 := Sr.below HA.out hB6
  have H6 := hide (And.intro qX6 (And.intro q6 (And.intro V6 (And.intro T6 (And.intro S6 (And.intro A6 hB6))))))
  clear hQ0 qX1 hb1 q6 T6 S6 A6 hB6 HV HA tv2 hb2 hb3 hb4 hb23 hb24 hA6 tv6 sl6 or3
  obtain ⟨_, x0, x1, x2⟩ := row3_facts qX6
  go_wp2_with fail
  obtain ⟨W6, hW⟩ : ∃ W6, w4.alloc (.cells #[.slice xm6 d.zs.length ym6, .slice xb6 D yb6, .slice xr6 D yr6] 28) = W6 := ⟨_, rfl⟩
  rw [hW] at qX6 V6 H6 l6 x0 x1 x2 ⊢
  clear hW
  refine (hto _ _ _ _ V6 hl).mono ?_
  rintro e w7 ⟨m8, b8, r8, vb8, vr8, tag8, rfl, tv8, um8, hq8, hcap8, hb7⟩
  obtain ⟨⟨xm8, ym8, rfl⟩, ⟨xb8, yb8, rfl⟩, ⟨xr8, yr8, rfl⟩⟩ := three_of tv8
  clear hcap8
  have hA8 : Below w7.heap.size w7 (w7.alloc (.cells #[.slice xm8 zs.length ym8, .slice xb8 C yb8, .slice xr8 R yr8] 28)) := (Below.refl _ _).alloc (Nat.le_refl _) _
  have q8 : (w7.alloc (.cells #[.slice xm8 zs.length ym8, .slice xb8 C yb8, .slice xr8 R yr8] 28)).heap[w7.heap.size]? = some (.cells #[.slice xm8 zs.length ym8, .slice xb8 C yb8, .slice xr8 R yr8] 28 (0, 0)) := heap_alloc_new _ _
  have hQ8 := hb7.trans (hA8.mono hb7.size)
  have tv8b := tv8.below hA8
  have um8b := um8.below hA8
  have s67 := hb7.size
  have s78 := hA8.size
  clear hb7 hA8 tv8 um8 x0 x1 x2 qX6 V6
  go_wp2_with fail
  obtain ⟨W8, hW⟩ : ∃ W8, w7.alloc (.cells #[.slice xm8 zs.length ym8, .slice xb8 C yb8, .slice xr8 R yr8] 28) = W8 := ⟨_, rfl⟩
  rw [hW] at q8 hQ8 tv8b um8b s78 ⊢
  clear hW
  have l8 := lt_of_block q8
  refine (hta _ (Sr.below H6.out.2.2.2.2.2.1 hQ8)).mono ?_
  rintro e wx ⟨g1, rfl, or1, hbx⟩
  have sx := hbx.size
  have hg1 := own_at or1 rfl
  have hQx := hQ8.trans (hbx.mono hQ8.size)
  have tv8x := tv8b.below hbx
  have um8x := um8b.below hbx
  have q8x := heap_b q8 hbx
  clear hbx hQ8 tv8b um8b q8
  obtain ⟨_, c0, c1, c2⟩ := row3_facts q8x
  go_wp2_with fail
  refine (him _ _ _ _ _ _ tv8x (Orow.sr or1)).mono ?_
  rintro e v9 ⟨m9, b9, r9, vb9, vr9, tag9, cv9, rfl, ta9, ow9, ot9, hi9, hb9⟩
  obtain ⟨⟨xm9, ym9, rfl⟩, ⟨xb9, yb9, rfl⟩, ⟨xr9, yr9, rfl⟩⟩ := three_of (Ta.tv ta9)
  have hA9 : Below v9.heap.size v9 (v9.alloc (.cells #[.slice xm9 d.zs.length ym9, .slice xb9 D yb9, .slice xr9 D yr9] 28)) := (Below.refl _ _).alloc (Nat.le_refl _) _
  have hX9 := Bxd.same (W0 := wx) ta9 hi9 (Nat.le_refl _) hb9
  have o9 : Ow (v9.alloc (.cells #[.slice xm9 d.zs.length ym9, .slice xb9 D yb9, .slice xr9 D yr9] 28)) wx.heap.size cv9 cs := own_keep ow9 (fun g _ hg => hA9.block g hg)
  have hcv : ∀ g, cv9.ownBlock = some g → wx.heap.size ≤ g ∧ g < v9.heap.size := fun g e => own_at ow9 e
  have s9v := hb9.size
  clear ta9 hb9 c0 c1 c2 ow9 hA9 hi9
  obtain ⟨q9, t9, lo9, off9, hq9, hR, lb9⟩ := hX9
  have hQ9 := hQx.trans (hR.mono hQx.size)
  have tv8c := tv8x.below hR
  have um8c := um8x.below hR
  have q8c := heap_b q8x hR
  have r1 := own_keep or1 (fun g _ hg => hR.block g hg)
  have l9 := lt_of_block q9
  have s9 := hR.size
  clear hR hQx tv8x um8x q8x or1
  have hQa := hQ9
  have t9a := t9
  have tv8a := tv8c
  have um8a := um8c
  have q8a := q8c
  have q9a := q9
  have o9a := o9
  have r1a := r1
  have q6a := heap_b H6.out.2.1 hQ9
  have qXa := heap_b H6.out.1 hQ9
  clear hQ9 t9 tv8c um8c q8c q9 o9 r1
  obtain ⟨_, c0, c1, c2⟩ := row3_facts q9a
  obtain ⟨_, f0, f1, f2⟩ := row3_facts q6a
  go_wp2_with fail
  refine (eqTso_same _ _ _ _ _ _ d.zs D d.L d.F D d.Z _ (Ta.tv t9a) (H6.out.2.2.2.1.below hQa) HTL.out).mono ?_
  rintro e w11 ⟨rfl, hbq⟩
  have sq11 := hbq.size
  have hQb := hQa.trans (hbq.mono hQa.size)
  have t9b := t9a.below hbq
  have tv8b := tv8a.below hbq
  have um8b := um8a.below hbq
  have q8b := heap_b q8a hbq
  have q9b := heap_b q9a hbq
  have o9b := own_keep o9a (fun g _ hg => hbq.block g hg)
  have r1b := own_keep r1a (fun g _ hg => hbq.block g hg)
  have q6b := heap_b q6a hbq
  have qXb := heap_b qXa hbq
  clear hQa t9a tv8a um8a q8a q9a o9a r1a q6a qXa hbq
  clear c0 c1 c2 f0 f1 f2
  go_wp2_with fail
  refine (eq_same _ _ cs _ (Ow.sl o9b) (H6.out.2.2.2.2.1.below hQb) (by omega)).mono ?_
  rintro e w12 ⟨rfl, hbq⟩
  have sq12 := hbq.size
  have hQc := hQb.trans (hbq.mono hQb.size)
  have t9c := t9b.below hbq
  have tv8c := tv8b.below hbq
  have um8c := um8b.below hbq
  have q8c := heap_b q8b hbq
  have q9c := heap_b q9b hbq
  have o9c := own_keep o9b (fun g _ hg => hbq.block g hg)
  have r1c := own_keep r1b (fun g _ hg => hbq.block g hg)
  have q6c := heap_b q6b hbq
  have qXc := heap_b qXb hbq
  clear hQb t9b tv8b um8b q8b q9b o9b r1b q6b qXb hbq
  go_wp2
  have z8 := q8c
  have zX := qXc
  refine wp_region_held_drew (S := fun w' => Below w12.heap.size w12 w') (by kernel_rfl) ((Below.refl _ _).drew) (fun hHeld => ?_)
  refine wpAnyH_take (i := 0) (v := .agg #[.slice xm8 zs.length ym8, .slice xb8 C yb8, .slice xr8 R yr8]) rfl (by kernel_rfl) (by kernel_rfl) (by kernel_rfl) (fun _ _ _ h => h) (Or.inl ⟨by rfl, fun w' hSw => ?_⟩) (by assumption) ?_
  · (try dsimp only at hSw); obtain ⟨_, z0, z1, z2⟩ := row3_facts (heap_b z8 hSw); obtain ⟨_, z3, z4, z5⟩ := row3_facts (heap_b zX hSw); go_simp
  try simp only [Act.put, List.getElem_toArray, List.getElem_cons_zero, List.getElem_cons_succ, List.setIfInBounds_toArray, List.set_cons_zero, List.set_cons_succ]
  refine wpAnyH_take (i := 1) (v := .agg #[.slice ma zs.length mc, .slice ba C bc, .slice ra R rc]) rfl (by kernel_rfl) (by kernel_rfl) (by kernel_rfl) (fun _ _ _ h => h) (Or.inl ⟨by rfl, fun w' hSw => ?_⟩) (by assumption) ?_
  · (try dsimp only at hSw); obtain ⟨_, z0, z1, z2⟩ := row3_facts (heap_b z8 hSw); obtain ⟨_, z3, z4, z5⟩ := row3_facts (heap_b zX hSw); go_simp
  try simp only [Act.put, List.getElem_toArray, List.getElem_cons_zero, List.getElem_cons_succ, List.setIfInBounds_toArray, List.set_cons_zero, List.set_cons_succ]
  refine wpAnyH_ready (rs := [2]) (by kernel_rfl) (by simp) ?_
  refine AllReadyH.cons rfl (fun K hK => ?_) AllReadyH.nil
  go_simp
  refine (hto _ _ _ _ (H6.out.2.2.1.below (hQc.trans (hHeld.mono hQc.size))) hl).mono ?_
  rintro e w13 ⟨m3, b3, r3, vb3, vr3, tag3, rfl, tv3, um3, hq3, hcap3, hb13⟩
  obtain ⟨⟨xm3, ym3, rfl⟩, ⟨xb3, yb3, rfl⟩, ⟨xr3, yr3, rfl⟩⟩ := three_of tv3
  clear um3 hq3 hcap3
  refine hK.out _ _ (hHeld.trans (hb13.mono hHeld.size)) (fun hHeld => ?_)
  clear hK K hb13
  try simp only [Act.put, List.getElem_toArray, List.getElem_cons_zero, List.getElem_cons_succ, List.setIfInBounds_toArray, List.set_cons_zero, List.set_cons_succ]
  refine wpAnyH_ready (rs := [3]) (by kernel_rfl) (by simp) ?_
  refine AllReadyH.cons rfl (fun K hK => ?_) AllReadyH.nil
  go_simp
  refine (eqTso_same _ _ _ _ _ _ zs C L F R Z _ (tv8c.below hHeld) tv3 hl).mono ?_
  rintro e w14 ⟨rfl, hb14⟩
  refine hK.out _ _ (hHeld.trans (hb14.mono hHeld.size)) (fun hHeld => ?_)
  clear hK K hb14
  try simp only [Act.put, List.getElem_toArray, List.getElem_cons_zero, List.getElem_cons_succ, List.setIfInBounds_toArray, List.set_cons_zero, List.set_cons_succ]
  refine wpAnyH_take (i := 4) (v := .bool false) rfl (by kernel_rfl) (by kernel_rfl) (by kernel_rfl) (fun _ _ _ h => h) (Or.inl ⟨by rfl, fun w' hSw => ?_⟩) (by assumption) ?_
  · (try dsimp only at hSw); skip; go_simp
  try simp only [Act.put, List.getElem_toArray, List.getElem_cons_zero, List.getElem_cons_succ, List.setIfInBounds_toArray, List.set_cons_zero, List.set_cons_succ]
  refine wpAnyH_done (by kernel_rfl) ?_ _
  clear z8 zX tv3
  have hs14 := hHeld
  have sq14 := hs14.size
  have hQd := hQc.trans (hs14.mono hQc.size)
  have t9d := t9c.below hs14
  have tv8d := tv8c.below hs14
  have um8d := um8c.below hs14
  have q8d := heap_b q8c hs14
  have q9d := heap_b q9c hs14
  have o9d := own_keep o9c (fun g _ hg => hs14.block g hg)
  have r1d := own_keep r1c (fun g _ hg => hs14.block g hg)
  have q6d := heap_b q6c hs14
  have qXd := heap_b qXc hs14
  clear hQc t9c tv8c um8c q8c q9c o9c r1c q6c qXc hs14
  go_wp2_with fail
  refine (hta _ (Sr.below H6.out.2.2.2.2.2.1 hQd)).mono ?_
  rintro e w16 ⟨g16, rfl, or16, hb16⟩
  have sq16 := hb16.size
  have hQe := hQd.trans (hb16.mono hQd.size)
  have t9e := t9d.below hb16
  have tv8e := tv8d.below hb16
  have um8e := um8d.below hb16
  have q8e := heap_b q8d hb16
  have q9e := heap_b q9d hb16
  have o9e := own_keep o9d (fun g _ hg => hb16.block g hg)
  have r1e := own_keep r1d (fun g _ hg => hb16.block g hg)
  have q6e := heap_b q6d hb16
  have qXe := heap_b qXd hb16
  clear hQd t9d tv8d um8d q8d q9d o9d r1d q6d qXd hb16
  go_wp2_with fail
  refine (eqBActS_same _ _ ln f _ (Orow.sr r1e) (Orow.sr or16) hln2).mono ?_
  rintro e w17 ⟨rfl, hbq⟩
  have sq13 := hbq.size
  have hQf := hQe.trans (hbq.mono hQe.size)
  have t9f := t9e.below hbq
  have tv8f := tv8e.below hbq
  have um8f := um8e.below hbq
  have q8f := heap_b q8e hbq
  have q9f := heap_b q9e hbq
  have o9f := own_keep o9e (fun g _ hg => hbq.block g hg)
  have r1f := own_keep r1e (fun g _ hg => hbq.block g hg)
  have q6f := heap_b q6e hbq
  have qXf := heap_b qXe hbq
  clear hQe t9e tv8e um8e q8e q9e o9e r1e q6e qXe hbq
  clear or16
  obtain ⟨_, c0, c1, c2⟩ := row3_facts q8f
  go_wp2_with fail
  refine (markTso_uz um8f (fun g hg => hq8 g (by omega)) (by decide) (by decide) hl.mem hl.buf.1 hl.buf.2 hl.reg.1 hl.reg.2).mono ?_
  rintro e w18 ⟨⟨k8, hk8, rfl⟩, hc18⟩
  have hQg := below_chg hQf hc18 (fun j hj => hj.1) hQf.size
  have nS : ∀ g, w7.heap.size ≤ g → ¬ Tg W6.heap.size tag8 0 g := fun g hg hs => by have := hs.2; rw [hq8 g hg] at this; omega
  have q9g := (hc18.block _ (lt_of_block q9f) (nS _ (by omega))).trans q9f
  have t9g := Ta.chg0 t9f hc18 (fun b hb => Nat.lt_of_lt_of_le (Nat.lt_of_not_le (fun q => nS b q hb)) (by omega))
  have o9g := own_chg o9f hc18 (fun b s e => nS b (by have := hcv b e; omega) s)
  have r1g := own_chg r1f hc18 (fun b s e => nS b (by simp only [Value.ownBlock, Option.some.injEq] at e; omega) s)
  have q6g := heap_b H6.out.2.1 hQg
  have qXg := heap_b H6.out.1 hQg
  have sq18 := hc18.size
  clear hc18 nS hQf t9f tv8f um8f q8f q9f o9f r1f q6f qXf hq8 c0 c1 c2
  go_wp2_with fail
  refine (mkA_at g1 0 ln ln k8 _ hk8.1 hk8.2 (own_wc r1g g1 0 ln ln rfl).2 hln2).mono ?_
  rintro e w19 ⟨rfl, hc19⟩
  obtain ⟨k9, hk9e⟩ : ∃ k9, k8 + 5 * (ln : Int) = k9 := ⟨_, rfl⟩
  rw [hk9e]
  have hk9 : ¬ k9 < 0 := by omega
  clear hk9e
  have hQh := below_chg hQg hc19 (fun j hj => by rw [hj]; omega) hQg.size
  have q9h := (hc19.block _ (lt_of_block q9g) (fun q => by omega)).trans q9g
  have t9h := Ta.chg0 t9g hc19 (fun b hb => by rw [hb]; omega)
  have o9h := own_chg o9g hc19 (fun b s e => by have := hcv b e; rw [s] at this; omega)
  have q6h := heap_b H6.out.2.1 hQh
  have qXh := heap_b H6.out.1 hQh
  have sq19 := hc19.size
  clear hc19 hQg t9g q9g o9g r1g q6g qXg hk8
  obtain ⟨_, c0, c1, c2⟩ := row3_facts q9h
  obtain ⟨_, f0, f1, f2⟩ := row3_facts q6h
  go_wp2_with fail
  refine (eqTso_same _ _ _ _ _ _ d.zs D d.L d.F D d.Z _ (Ta.tv t9h) (H6.out.2.2.2.1.below hQh) HTL.out).mono ?_
  rintro e w20 ⟨rfl, hbq⟩
  have sq14 := hbq.size
  have hQi := hQh.trans (hbq.mono hQh.size)
  have t9i := t9h.below hbq
  have q9i := heap_b q9h hbq
  have o9i := own_keep o9h (fun g _ hg => hbq.block g hg)
  have q6i := heap_b q6h hbq
  have qXi := heap_b qXh hbq
  clear hQh t9h q9h o9h q6h qXh hbq
  clear c0 c1 c2 f0 f1 f2
  go_wp2_with fail
  refine (eq_same _ _ cs _ (Ow.sl o9i) (H6.out.2.2.2.2.1.below hQi) (by omega)).mono ?_
  rintro e w21 ⟨rfl, hbq⟩
  have sq15 := hbq.size
  have hQj := hQi.trans (hbq.mono hQi.size)
  have t9j := t9i.below hbq
  have q9j := heap_b q9i hbq
  have o9j := own_keep o9i (fun g _ hg => hbq.block g hg)
  have q6j := heap_b q6i hbq
  have qXj := heap_b qXi hbq
  clear hQi t9i q9i o9i q6i qXi hbq
  obtain ⟨_, c0, c1, c2⟩ := row3_facts q9j
  go_wp2_with fail
  refine (hmk _ _ _ _ _ _ _ _ t9j (fun g hg => hq9 g (by omega))).mono ?_
  rintro e w22 ⟨rfl, t9k, hc22⟩
  have hQk := below_chg hQj hc22 (fun j hj => by have := hj.1; omega) hQj.size
  have q9k := (hc22.block _ (lt_of_block q9j) (fun hs => by have h1 := hs.1; have h2 := hs.2; rcases off9 with q | q <;> omega)).trans q9j
  have o9k := own_chg o9j hc22 (fun b s e => s.2 (ot9 b e))
  have q6k := heap_b H6.out.2.1 hQk
  have qXk := heap_b H6.out.1 hQk
  have sq22 := hc22.size
  clear hc22 hQj t9j q9j o9j q6j qXj hq9 c0 c1 c2
  go_wp2_with fail
  refine (mark_any cv9 cs wx.heap.size kk _ hkk hkl o9k (by omega)).mono ?_
  rintro e w23 ⟨rfl, o9l, hg23⟩
  have t9l := Ta.far t9k hg23 (fun g e => ot9 g e) HD.out HD.out
  have q9l := (hg23.block _ (lt_of_block q9k) (fun q => by have := hcv _ q.symm; omega)).trans q9k
  have hQl := hQk.grown hg23 hQk.size (fun g e => by have := hcv g e; omega)
  have q6l := heap_b H6.out.2.1 hQl
  have qXl := heap_b H6.out.1 hQl
  have sq23 := hg23.size
  clear hg23 hQk t9k q9k o9k q6k qXk
  obtain ⟨_, c0, c1, c2⟩ := row3_facts q9l
  go_wp2_with fail
  refine (hhd _ _ _ _ _ _ _ _ t9l).mono ?_
  rintro e w24 ⟨rfl, hbq⟩
  have sq16 := hbq.size
  have hQm := hQl.trans (hbq.mono hQl.size)
  have t9m := t9l.below hbq
  have q9m := heap_b q9l hbq
  have o9m := own_keep o9l (fun g _ hg => hbq.block g hg)
  have q6m := heap_b q6l hbq
  have qXm := heap_b qXl hbq
  clear hQl t9l q9l o9l q6l qXl hbq
  clear c0 c1 c2
  have hkn : ¬ kk < 0 := by omega
  have hkc : ¬ kk + (cs.length : Int) < 0 := by omega
  go_wp2_with fail
  refine (held_any cv9 cs.length kk _ hkk hkl (Ow.sl o9m) (by omega)).mono ?_
  rintro e w25 ⟨rfl, hw25⟩
  subst hw25
  obtain ⟨_, x0, x1, x2⟩ := row3_facts qXm
  go_wp2_with fail
  refine (hto _ _ _ _ (H6.out.2.2.1.below hQm) hl).mono ?_
  rintro e v4 ⟨m4, b4, r4, vb4, vr4, tag4, rfl, tv4, um4, hq4, hcap4, hb4⟩
  clear um4 hq4 hcap4 x0 x1 x2
  go_wp2_with fail
  refine (hta _ (Sr.below H6.out.2.2.2.2.2.1 (hQm.trans (hb4.mono hQm.size)))).mono ?_
  rintro e u4 ⟨g4, rfl, or4, hbu⟩
  go_wp2_with fail
  refine (him _ _ _ _ _ _ (tv4.below hbu) (Orow.sr or4)).mono ?_
  rintro e v5 ⟨m5, b5, r5, vb5, vr5, tag5, cv5, rfl, ta5, ow5, _, _, hb5⟩
  obtain ⟨⟨xm5, ym5, rfl⟩, ⟨xb5, yb5, rfl⟩, ⟨xr5, yr5, rfl⟩⟩ := three_of (Ta.tv ta5)
  have hA5 : Below v5.heap.size v5 (v5.alloc (.cells #[.slice xm5 d.zs.length ym5, .slice xb5 D yb5, .slice xr5 D yr5] 28)) := (Below.refl _ _).alloc (Nat.le_refl _) _
  have q5 : (v5.alloc (.cells #[.slice xm5 d.zs.length ym5, .slice xb5 D yb5, .slice xr5 D yr5] 28)).heap[v5.heap.size]? = some (.cells #[.slice xm5 d.zs.length ym5, .slice xb5 D yb5, .slice xr5 D yr5] 28 (0, 0)) := heap_alloc_new _ _
  have T5 := (Ta.tv ta5).below hA5
  have S5 := (Ow.sl ow5).below hA5
  have hb4u := hb4.trans (hbu.mono hb4.size)
  have hb45 := hb4u.trans (hb5.mono hb4u.size)
  have hR := hb45.trans (hA5.mono hb45.size)
  clear tv4 hb4 hb5 hbu hb4u hb45 hA5 ta5 ow5 or4
  have hQn := hQm.trans (hR.mono hQm.size)
  have t9n := t9m.below hR
  have q9n := heap_b q9m hR
  have o9n := own_keep o9m (fun g _ hg => hR.block g hg)
  have q6n := heap_b q6m hR
  have qXn := heap_b qXm hR
  clear hQm t9m q9m o9m q6m qXm hR
  obtain ⟨_, c0, c1, c2⟩ := row3_facts q5
  obtain ⟨_, f0, f1, f2⟩ := row3_facts q6n
  go_wp2_with fail
  refine (eqTso_same _ _ _ _ _ _ d.zs D d.L d.F D d.Z _ (T5) (H6.out.2.2.2.1.below hQn) HTL.out).mono ?_
  rintro e w26 ⟨rfl, hbq⟩
  have sq17 := hbq.size
  have S5b := S5.below hbq
  have hQo := hQn.trans (hbq.mono hQn.size)
  have t9o := t9n.below hbq
  have q9o := heap_b q9n hbq
  have o9o := own_keep o9n (fun g _ hg => hbq.block g hg)
  have q6o := heap_b q6n hbq
  have qXo := heap_b qXn hbq
  clear hQn t9n q9n o9n q6n qXn hbq
  clear c0 c1 c2 f0 f1 f2 T5 q5 S5
  go_wp2_with fail
  refine (eq_same _ _ cs _ (S5b) (H6.out.2.2.2.2.1.below hQo) (by omega)).mono ?_
  rintro e w27 ⟨rfl, hbq⟩
  have sq18 := hbq.size
  have hQp := hQo.trans (hbq.mono hQo.size)
  have t9p := t9o.below hbq
  have q9p := heap_b q9o hbq
  have o9p := own_keep o9o (fun g _ hg => hbq.block g hg)
  have q6p := heap_b q6o hbq
  have qXp := heap_b qXo hbq
  clear hQo t9o q9o o9o q6o qXo hbq
  clear S5b
  obtain ⟨_, c0, c1, c2⟩ := row3_facts q9p
  go_wp2_with fail
  refine (hhd _ _ _ _ _ _ _ _ t9p).mono ?_
  rintro e w28 ⟨rfl, hbq⟩
  have sq19 := hbq.size
  have hQq := hQp.trans (hbq.mono hQp.size)
  have t9q := t9p.below hbq
  have q9q := heap_b q9p hbq
  have o9q := own_keep o9p (fun g _ hg => hbq.block g hg)
  have q6q := heap_b q6p hbq
  have qXq := heap_b qXp hbq
  clear hQp t9p q9p o9p q6p qXp hbq
  clear c0 c1 c2
  go_wp2_with fail
  refine (held_any cv9 cs.length kk _ hkk hkl (Ow.sl o9q) (by omega)).mono ?_
  rintro e w29 ⟨rfl, hw29⟩
  subst hw29
  have hE := H6.out.2.2.2.2.2.2.trans (hQq.mono H6.out.2.2.2.2.2.2.size)
  clear hQq t9q q9q o9q q6q qXq
  go_wp2
  go_ret
  exact ⟨rfl, hE⟩

set_option maxRecDepth 100000 in
theorem lifted (os : Os) (started : os.Started) (H : Type) (enc : TypeId × Value → H) :
    ReturnsInHanded {} Try.checked os 11 .any (Rows.fnExactTsoPlaySpec.pre6 enc Try.prog Try.f11 Rows.fnExactTsoPlayRow.domain false) (Rows.fnExactTsoPlaySpec.post enc Try.prog Try.f11 false true false false) := by
  refine returnsInHanded_of_change (C := Try.checked) own started (by kernel_rfl) Try.func11
    (ChangeSpec.witness6 (enc := enc) (C := Try.checked) false ⟨#[], #[.agg #[.slice none 0 0, .slice none 0 0, .slice none 0 0], .slice none 0 0], []⟩ 8 (by kernel_rfl) (by kernel_rfl) (by kernel_rfl) (by kernel_rfl)) ?_
  intro W base args ds gs before hval0 hW hcnd _
  have hval : ∀ (j : Nat) t v, Try.f11.params[j]? = some t → args[j]? = some v → Value.okWide Try.prog W .any base t v := hval0
  have hW' := hW
  obtain ⟨p, q, hA0, hV, rfl, hfz, hnd⟩ := hW
  have hA : DataW.TrodAll enc Try.prog W 0 (fun _ => true) true Try.f11.params.toList args.toList ds p := hA0
  rw [Try.params11] at hA hval
  obtain ⟨v0, vs0, d0, ds0, p0, q0, hargs, rfl, rfl, h0, r0⟩ := trodAll_cons hA
  obtain ⟨v1, vs1, d1, ds1, p1, q1, rfl, rfl, rfl, h1, r1⟩ := trodAll_cons r0
  obtain ⟨rfl, rfl, rfl⟩ := trodAll_nil r1
  obtain rfl : args = #[v0, v1] := by cases args; simp_all
  obtain ⟨rfl, rfl⟩ := trodVars_none hV
  have k0 := h0
  have lt0 : ∀ x ∈ p0, x.block < W.heap.size := by obtain ⟨m, hm⟩ := k0; exact DataW.trod_lt m _ _ _ hm
  obtain ⟨mv0, bv0, rv0, zs0, C0, L0, F0, R0, Z0, rfl, ht0, hm0, ⟨hC0, hl0⟩, hr0, hz0⟩ := open_tso (hval 0 55 v0 rfl rfl) h0
  have k1 := h1
  have lt1 : ∀ x ∈ p1, x.block < W.heap.size := by obtain ⟨m, hm⟩ := k1; exact DataW.trod_lt m _ _ _ hm
  obtain ⟨a1, len1, cap1, rfl⟩ := okWide_slice Try.underlying56 (hval 1 56 v1 rfl rfl)
  obtain ⟨f1, sr1, sn1⟩ : ∃ f, Sr W (.slice a1 len1 cap1) 5 len1 f ∧ len1 ≤ maxLen := by
    obtain ⟨fuel, hf⟩ := h1
    obtain ⟨qa, qn, qc, f, e, hs, hn⟩ := open_acts hf
    simp [Value.cells] at e
    obtain ⟨rfl, rfl, rfl⟩ := e
    exact ⟨f, hs, hn⟩
  clear hA0 hval0
  refine (walk mv0 bv0 rv0 zs0 C0 L0 F0 R0 Z0 a1 len1 cap1 f1 W ht0 (by unfold maxLen at hm0; omega) (by unfold maxLen at hC0; omega) (fun c hc => by have := hl0 c hc; unfold maxLen at this; omega) (by unfold maxLen at hr0; omega) (fun c hc => by have := hz0 c hc; unfold maxLen at this; omega) sr1 (by unfold maxLen at sn1; omega)).mono fun e W' ⟨he, bel⟩ => ?_
  subst he
  exact ⟨_, rfl, _, _, _, [], _, [], hW', trodAll_mk1 (shut_bool Try.underlying4 _), (trodAll_cons_mk (Below.trod laidOut (by kernel_rfl) (of_decide_eq_true (by kernel_rfl)) k0 bel lt0) (trodAll_cons_mk (Below.trod laidOut (by kernel_rfl) (of_decide_eq_true (by kernel_rfl)) k1 bel lt1) trodAll_mk0)), rfl, bel.frame _, fun h => by cases h⟩

theorem over : Rows.fnExactTsoPlayRow.holds Try.pinned (OpenSpec.ofChange Rows.fnExactTsoPlaySpec) :=
  OpenClaim.holds_of_wide 11 Try.f11 rfl rfl rfl rfl rfl rfl rfl ⟨rfl, rfl, rfl, rfl, rfl⟩ rfl rfl rfl rfl rfl (by kernel_rfl) Try.func11 (by kernel_rfl)
    (of_decide_eq_true (by kernel_rfl)) (by unfold Func.isWrapper; first | (rw [if_pos (by decide +kernel)]; kernel_rfl) | (rw [if_neg (by decide +kernel)]; exact ⟨rfl, rfl⟩))
    (fun os started H enc _ => lifted os started H enc)

theorem proved : Rows.FnExactTsoPlaySaid := over
end Go.Proofs.Ytneofegnbflfiaa.fnExactTsoPlay

namespace Go.Proofs.Ytneofegnbflfiaa
theorem fnExactTsoPlay_holds : Rows.FnExactTsoPlaySaid := fnExactTsoPlay.proved
end Go.Proofs.Ytneofegnbflfiaa
