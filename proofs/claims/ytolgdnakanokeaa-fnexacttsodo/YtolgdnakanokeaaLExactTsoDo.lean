/- impl.TsoDo answers as spec.TsoDo does -/
import Derived.Test.YtolgdnakanokeaaRows
import Derived.Test.YtolgdnakanokeaaTmG
import Derived.Test.YtolgdnakanokeaaTsG
import Derived.WalkKit
import Derived.ProofKit
import Derived.OpenShut
import Derived.ShutString
import Derived.ChangeOld
import Derived.Below
import Derived.OpenVars
namespace Go.Proofs.Ytolgdnakanokeaa.fnExactTsoDo
open Go.ChangeShapes Go.WideShapes Go.ChangeAt Go.WideMaps Go.WideElems Go.RowKit
set_option linter.unusedVariables false
set_option linter.unusedSimpArgs false

theorem own : ownKnob Try.prog.godebug = none := by kernel_rfl
theorem laidOut : laidOutB Try.prog = true := by kernel_rfl

set_option maxRecDepth 100000 in
/-- a struct of 5 integers, opened -/
theorem open_a {W : World} {H : Type} {enc : TypeId × Value → H} {base b0 : Nat} {spare : Nat → Bool} {held : Bool} {r : Reach} {v : Value} {d : DataW H} {p : List MemPlace} (hv : Value.okWide Try.prog W r b0 41 v) (h : DataW.Trod enc Try.prog W base spare held 41 v d p) :
    ∃ k0 k1 k2 k3 k4 : Int, v = .agg #[.int .i64 k0, .int .i64 k1, .int .i64 k2, .int .i64 k3, .int .i64 k4] := by
  obtain ⟨cs, rfl, hsz⟩ := okWide_struct Try.underlying41 hv
  obtain ⟨fuel, hf⟩ := h
  obtain ⟨xs, n, _, _, hl, hlen, hg⟩ := DataW.trod_struct Try.underlying41 hf
  have c6 : Try.prog.cellsOf 41 = 5 := by kernel_rfl
  have c1 : Try.prog.cellsOf 2 = 1 := by kernel_rfl
  rw [c6] at hsz
  obtain ⟨l⟩ := cs
  match l, hsz with
  | [a0, a1, a2, a3, a4], _ =>
    match xs, hlen with
    | [x0, x1, x2, x3, x4], _ =>
      have g0 : DataW.trod enc Try.prog W base spare held n 2 (List.take (Try.prog.cellsOf 2) (List.drop 0 [a0, a1, a2, a3, a4])) = some x0 := hg 0 _ rfl
      have g1 : DataW.trod enc Try.prog W base spare held n 2 (List.take (Try.prog.cellsOf 2) (List.drop 1 [a0, a1, a2, a3, a4])) = some x1 := hg 1 _ rfl
      have g2 : DataW.trod enc Try.prog W base spare held n 2 (List.take (Try.prog.cellsOf 2) (List.drop 2 [a0, a1, a2, a3, a4])) = some x2 := hg 2 _ rfl
      have g3 : DataW.trod enc Try.prog W base spare held n 2 (List.take (Try.prog.cellsOf 2) (List.drop 3 [a0, a1, a2, a3, a4])) = some x3 := hg 3 _ rfl
      have g4 : DataW.trod enc Try.prog W base spare held n 2 (List.take (Try.prog.cellsOf 2) (List.drop 4 [a0, a1, a2, a3, a4])) = some x4 := hg 4 _ rfl
      rw [c1] at g0 g1 g2 g3 g4
      obtain ⟨k0, e0, _⟩ := DataW.trod_int Try.underlying2 g0
      obtain ⟨k1, e1, _⟩ := DataW.trod_int Try.underlying2 g1
      obtain ⟨k2, e2, _⟩ := DataW.trod_int Try.underlying2 g2
      obtain ⟨k3, e3, _⟩ := DataW.trod_int Try.underlying2 g3
      obtain ⟨k4, e4, _⟩ := DataW.trod_int Try.underlying2 g4
      simp at e0 e1 e2 e3 e4
      subst e0 e1 e2 e3 e4
      exact ⟨k0, k1, k2, k3, k4, rfl⟩

set_option maxHeartbeats 16000000 in
set_option maxRecDepth 20000 in
theorem walk (mv bv rv : Value) (zs : List Int) (C : Nat) (L : Nat → Nat) (F : Nat → Nat → Nat → Int) (R : Nat) (Z : Nat → List Int) (k co va vl rg : Int) (w : World) (hv : Tv w mv bv rv zs C L F R Z) (hm : (zs.length : Int) ≤ 9223372036854775807) (hC : (C : Int) ≤ 9223372036854775807) (hL : ∀ c, c < C → (L c : Int) ≤ 9223372036854775807) (hR : (R : Int) ≤ 9223372036854775807) (hZ : ∀ c, c < R → ((Z c).length : Int) ≤ 9223372036854775807) :
    Calls Try.prog 5 #[.agg #[mv, bv, rv], .agg #[.int .i64 k, .int .i64 co, .int .i64 va, .int .i64 vl, .int .i64 rg]] w fun e w' => e = .returned (.bool true) ∧ Below w.heap.size w w' := by
  obtain ⟨hB0, qX, qY⟩ := boxes2 w mv bv rv k co va vl rg 34 41
  obtain ⟨⟨ma, mc, rfl⟩, ⟨ba, bc, rfl⟩, ⟨ra, rc, rfl⟩⟩ := three_of hv
  have HV := hide hv
  clear hv
  have hto := fun W m b r (h : Tv W m b r zs C L F R Z) (hl : Tl zs C L R Z) => toTso_um m b r zs C L F R Z W h hl
  have hsp := fun W m b r (h : Tv W m b r zs C L F R Z) (hc : Bcap W b C) => (specTsoDo_any m b r ⟨zs, L, F, Z⟩ C R k co va vl rg W h hc).mono (fun e W' h => do_all h)
  have him := fun W m b r (h : Tv W m b r zs C L F R Z) => (implTsoDo_any m b r ⟨zs, L, F, Z⟩ C R k co va vl rg W h).mono (fun e W' h => do_all h)
  have hsm := aD_small ⟨zs, L, F, Z⟩ C R k co va vl rg
  generalize aD ⟨zs, L, F, Z⟩ C R k co va vl rg = d at hsp him hsm
  generalize aC ⟨zs, L, F, Z⟩ C R = D at hsp him hsm
  generalize aK ⟨zs, L, F, Z⟩ C R k co va vl rg = K0 at hsp him
  have hmk := fun W base m b r vb vr tag (t : Ta W base m b r d.zs D d.L d.F D d.Z vb vr tag) (hq : ∀ g, W.heap.size ≤ g → tag g = 100000) => markTso_tb (k := 1) t hq (by decide) (by decide) hsm.zs hsm.c hsm.l hsm.c hsm.z
  have hhd := fun W base m b r vb vr tag (t : Ta W base m b r (marks 1 d.zs.length) D d.L (mkF (1 + d.zs.length) d.L d.F D) D (mkZ (sm2 (1 + d.zs.length) d.L D) d.Z D) vb vr tag) => heldTso_ta (k := 1) (n := d.zs.length) t (by decide) (by decide) hsm.zs hsm.c hsm.l hsm.c hsm.z
  have hkk : 0 ≤ mkK 1 d.zs.length D d.L D d.Z := by have := mkK_ge 1 d.zs.length D d.L D d.Z; omega
  generalize mkK 1 d.zs.length D d.L D d.Z = kk at hmk hhd hkk
  generalize mkZ (sm2 (1 + d.zs.length) d.L D) d.Z D = ZM at hmk hhd
  generalize mkF (1 + d.zs.length) d.L d.F D = FM at hmk hhd
  generalize marks 1 d.zs.length = zsM at hmk hhd
  have HTL := hide hsm.tl
  have HD := hide hsm.c
  clear hsm
  obtain ⟨_, x0, x1, x2⟩ := row3_facts qX
  obtain ⟨y0, y1, y2, y3, y4⟩ := row5_facts qY
  go_enter Try.func5, Try.ntmps5
  go_wp2_with fail
  refine (szTso_any _ _ _ zs C L F R Z _ (HV.out.below hB0) hm hC hL hR hZ).mono ?_
  rintro e w1 ⟨r, rfl, hp, hb1'⟩
  have hb1 := hB0.trans (hb1'.mono hB0.size)
  have qX1 := heap_b qX hb1'
  have qY1 := heap_b qY hb1'
  clear hb1' hB0 qX qY x0 x1 x2 y0 y1 y2 y3 y4
  by_cases hx : r < 0
  · clear hp
    go_wp2
    go_ret
    exact ⟨rfl, hb1⟩
  have hl := hp (by omega)
  clear hp hm hC hL hR hZ
  go_wp2
  go_cut [6, 7] (fun p c wc => ∃ B base m b r vb vr tag, p = .pointer (some ⟨B, 0, none⟩) ∧ c = .int .i64 K0 ∧ Hid (Bxd w1 wc B base m b r d D vb vr tag))
  case first =>
    refine wp_region_held_drew (S := fun w' => Below w1.heap.size w1 w') (by kernel_rfl) ((Below.refl _ _).drew) (fun hHeld => ?_)
    refine wpAnyH_take (i := 0) (v := .agg #[.slice ma zs.length mc, .slice ba C bc, .slice ra R rc]) rfl (by kernel_rfl) (by kernel_rfl) (by kernel_rfl) (fun _ _ _ h => h) (Or.inl ⟨by rfl, fun w' hSw => ?_⟩) (by assumption) ?_
    · (try dsimp only at hSw); obtain ⟨_, z0, z1, z2⟩ := row3_facts (heap_b qX1 hSw); obtain ⟨z3, z4, z5, z6, z7⟩ := row5_facts (heap_b qY1 hSw); go_simp
    try simp only [Act.put, List.getElem_toArray, List.getElem_cons_zero, List.getElem_cons_succ, List.setIfInBounds_toArray, List.set_cons_zero, List.set_cons_succ]
    refine wpAnyH_take (i := 2) (v := .agg #[.int .i64 k, .int .i64 co, .int .i64 va, .int .i64 vl, .int .i64 rg]) rfl (by kernel_rfl) (by kernel_rfl) (by kernel_rfl) (fun _ _ _ h => h) (Or.inl ⟨by rfl, fun w' hSw => ?_⟩) (by assumption) ?_
    · (try dsimp only at hSw); obtain ⟨_, z0, z1, z2⟩ := row3_facts (heap_b qX1 hSw); obtain ⟨z3, z4, z5, z6, z7⟩ := row5_facts (heap_b qY1 hSw); go_simp
    try simp only [Act.put, List.getElem_toArray, List.getElem_cons_zero, List.getElem_cons_succ, List.setIfInBounds_toArray, List.set_cons_zero, List.set_cons_succ]
    obtain ⟨V0, hV0⟩ : ∃ V, w1.drew = V := ⟨_, rfl⟩
    rw [hV0] at hHeld ⊢
    clear hV0
    have s0 := hHeld.size
    refine wpAnyH_ready (rs := [1, 8]) (by kernel_rfl) (by simp) ?_
    refine AllReadyH.cons rfl (fun K hK => ?_) (AllReadyH.cons rfl (fun K hK => ?_) AllReadyH.nil)
    · go_simp
      refine (hto _ _ _ _ (HV.out.below (hb1.trans (hHeld.mono hb1.size))) hl).mono ?_
      rintro e V1 ⟨m2, b2, r2, vb2, vr2, tag2, rfl, tv2, um2, hq2, hcap2, hbc⟩
      obtain ⟨⟨xm2, ym2, rfl⟩, ⟨xb2, yb2, rfl⟩, ⟨xr2, yr2, rfl⟩⟩ := three_of tv2
      clear um2 hq2
      have sV1 := hbc.size
      refine hK.out _ _ (hHeld.trans (hbc.mono hHeld.size)) (fun hHeld => ?_)
      clear hK K hbc
      try simp only [Act.put, List.getElem_toArray, List.getElem_cons_zero, List.getElem_cons_succ, List.setIfInBounds_toArray, List.set_cons_zero, List.set_cons_succ]
      refine wpAnyH_ready (rs := [3, 8]) (by kernel_rfl) (by simp) ?_
      refine AllReadyH.cons rfl (fun K hK => ?_) (AllReadyH.cons rfl (fun K hK => ?_) AllReadyH.nil)
      · go_simp
        refine (toBAct_any k co va vl rg _).mono ?_
        rintro e V2 ⟨rfl, hbc⟩
        have hcap2 := hcap2.below tv2.buf hbc
        have tv2 := tv2.below hbc
        have sV2 := hbc.size
        refine hK.out _ _ (hHeld.trans (hbc.mono hHeld.size)) (fun hHeld => ?_)
        clear hK K hbc
        try simp only [Act.put, List.getElem_toArray, List.getElem_cons_zero, List.getElem_cons_succ, List.setIfInBounds_toArray, List.set_cons_zero, List.set_cons_succ]
        refine wpAnyH_ready (rs := [4, 8]) (by kernel_rfl) (by simp) ?_
        refine AllReadyH.cons rfl (fun K hK => ?_) (AllReadyH.cons rfl (fun K hK => ?_) AllReadyH.nil)
        · go_simp
          refine (hsp _ _ _ _ tv2 hcap2).mono ?_
          rintro e V3 ⟨m6, b6, r6, vb6, vr6, tag6, rfl, taX, hbc⟩
          obtain ⟨⟨xm6, ym6, rfl⟩, ⟨xb6, yb6, rfl⟩, ⟨xr6, yr6, rfl⟩⟩ := three_of (Ta.tv taX)
          have sV3 := hbc.size
          refine hK.out _ _ (hHeld.trans (hbc.mono hHeld.size)) (fun hHeld => ?_)
          clear hK K hbc
          try simp only [Act.put, List.getElem_toArray, List.getElem_cons_zero, List.getElem_cons_succ, List.setIfInBounds_toArray, List.set_cons_zero, List.set_cons_succ]
          refine wpAnyH_take (i := 5) (v := .tuple #[.agg #[.slice xm6 d.zs.length ym6, .slice xb6 D yb6, .slice xr6 D yr6], .int .i64 K0]) rfl (by kernel_rfl) (by kernel_rfl) (by kernel_rfl) (fun _ _ _ h => h) (Or.inl ⟨by rfl, fun w' hSw => ?_⟩) (by assumption) ?_
          · (try dsimp only at hSw); skip; go_simp
          try simp only [Act.put, List.getElem_toArray, List.getElem_cons_zero, List.getElem_cons_succ, List.setIfInBounds_toArray, List.set_cons_zero, List.set_cons_succ]
          refine wpAnyH_take (i := 6) (v := .agg #[.slice xm6 d.zs.length ym6, .slice xb6 D yb6, .slice xr6 D yr6]) rfl (by kernel_rfl) (by kernel_rfl) (by kernel_rfl) (fun _ _ _ h => h) (Or.inl ⟨by rfl, fun w' hSw => ?_⟩) (by assumption) ?_
          · (try dsimp only at hSw); skip; go_simp
          try simp only [Act.put, List.getElem_toArray, List.getElem_cons_zero, List.getElem_cons_succ, List.setIfInBounds_toArray, List.set_cons_zero, List.set_cons_succ]
          refine wpAnyH_take (i := 7) (v := .int .i64 K0) rfl (by kernel_rfl) (by kernel_rfl) (by kernel_rfl) (fun _ _ _ h => h) (Or.inl ⟨by rfl, fun w' hSw => ?_⟩) (by assumption) ?_
          · (try dsimp only at hSw); skip; go_simp
          try simp only [Act.put, List.getElem_toArray, List.getElem_cons_zero, List.getElem_cons_succ, List.setIfInBounds_toArray, List.set_cons_zero, List.set_cons_succ]
          refine wpAnyH_ready (rs := [8]) (by kernel_rfl) (by simp) ?_
          refine AllReadyH.cons rfl (fun K hK => ?_) AllReadyH.nil
          go_simp
          have hbA : Below V3.heap.size V3 (V3.alloc (.cells #[nil3, nil3, nil3] 26)) := (Below.refl _ _).alloc (Nat.le_refl _) _
          have qB : (V3.alloc (.cells #[nil3, nil3, nil3] 26)).heap[V3.heap.size]? = some (.cells #[nil3, nil3, nil3] 26 (0, 0)) := heap_alloc_new _ _
          have hH0 := hHeld
          refine hK.out _ _ (hHeld.trans (hbA.mono hHeld.size)) (fun hHeld => ?_)
          clear hK K
          try simp only [Act.put, List.getElem_toArray, List.getElem_cons_zero, List.getElem_cons_succ, List.setIfInBounds_toArray, List.set_cons_zero, List.set_cons_succ]
          obtain ⟨VA, hVA⟩ : ∃ VA, V3.alloc (.cells #[nil3, nil3, nil3] 26) = VA := ⟨_, rfl⟩
          rw [hVA] at hbA qB hHeld ⊢
          have lA := lt_of_block qB
          have sA := hH0.size
          obtain ⟨tagX, hX⟩ := Bxd.late hVA taX (by omega) hH0 HD.out
          have HX := hide hX
          clear hX taX
          obtain ⟨fz, c0, c1, c2⟩ := row3_facts qB
          refine wpAnyH_ready (rs := [9]) (by kernel_rfl) (by simp) ?_
          refine AllReadyH.cons rfl (fun K hK => ?_) AllReadyH.nil
          go_simp
          have hsX := HX.out.bel
          refine hK.out _ _ hsX (fun hHeld => ?_)
          clear hK K hsX fz c0 c1 c2
          try simp only [Act.put, List.getElem_toArray, List.getElem_cons_zero, List.getElem_cons_succ, List.setIfInBounds_toArray, List.set_cons_zero, List.set_cons_succ]
          refine wpAnyH_ready (rs := [10]) (by kernel_rfl) (by simp) ?_
          refine AllReadyH.cons rfl (fun K hK => ?_) AllReadyH.nil
          go_simp
          refine hK.out _ _ hHeld (fun hHeld => ?_)
          clear hK K
          try simp only [Act.put, List.getElem_toArray, List.getElem_cons_zero, List.getElem_cons_succ, List.setIfInBounds_toArray, List.set_cons_zero, List.set_cons_succ]
          refine wpAnyH_done (by kernel_rfl) ?_ _
          try go_wp2_with fail
          go_meet
          exact ⟨_, _, _, _, _, _, _, tagX, rfl, rfl, HX⟩
        · go_simp
          have hbA : Below V2.heap.size V2 (V2.alloc (.cells #[nil3, nil3, nil3] 26)) := (Below.refl _ _).alloc (Nat.le_refl _) _
          have qB : (V2.alloc (.cells #[nil3, nil3, nil3] 26)).heap[V2.heap.size]? = some (.cells #[nil3, nil3, nil3] 26 (0, 0)) := heap_alloc_new _ _
          have hH0 := hHeld
          refine hK.out _ _ (hHeld.trans (hbA.mono hHeld.size)) (fun hHeld => ?_)
          clear hK K
          try simp only [Act.put, List.getElem_toArray, List.getElem_cons_zero, List.getElem_cons_succ, List.setIfInBounds_toArray, List.set_cons_zero, List.set_cons_succ]
          obtain ⟨VA, hVA⟩ : ∃ VA, V2.alloc (.cells #[nil3, nil3, nil3] 26) = VA := ⟨_, rfl⟩
          rw [hVA] at hbA qB hHeld ⊢
          have hcap2 := hcap2.below tv2.buf hbA
          have tv2 := tv2.below hbA
          have lA := lt_of_block qB
          have sA := hH0.size
          refine wpAnyH_ready (rs := [4]) (by kernel_rfl) (by simp) ?_
          refine AllReadyH.cons rfl (fun K hK => ?_) AllReadyH.nil
          go_simp
          refine (hsp _ _ _ _ tv2 hcap2).mono ?_
          rintro e V3 ⟨m6, b6, r6, vb6, vr6, tag6, rfl, taX, hbc⟩
          obtain ⟨⟨xm6, ym6, rfl⟩, ⟨xb6, yb6, rfl⟩, ⟨xr6, yr6, rfl⟩⟩ := three_of (Ta.tv taX)
          have qB := heap_b qB hbc
          have sV3 := hbc.size
          refine hK.out _ _ (hHeld.trans (hbc.mono hHeld.size)) (fun hHeld => ?_)
          clear hK K hbc
          try simp only [Act.put, List.getElem_toArray, List.getElem_cons_zero, List.getElem_cons_succ, List.setIfInBounds_toArray, List.set_cons_zero, List.set_cons_succ]
          refine wpAnyH_take (i := 5) (v := .tuple #[.agg #[.slice xm6 d.zs.length ym6, .slice xb6 D yb6, .slice xr6 D yr6], .int .i64 K0]) rfl (by kernel_rfl) (by kernel_rfl) (by kernel_rfl) (fun _ _ _ h => h) (Or.inl ⟨by rfl, fun w' hSw => ?_⟩) (by assumption) ?_
          · (try dsimp only at hSw); skip; go_simp
          try simp only [Act.put, List.getElem_toArray, List.getElem_cons_zero, List.getElem_cons_succ, List.setIfInBounds_toArray, List.set_cons_zero, List.set_cons_succ]
          refine wpAnyH_take (i := 6) (v := .agg #[.slice xm6 d.zs.length ym6, .slice xb6 D yb6, .slice xr6 D yr6]) rfl (by kernel_rfl) (by kernel_rfl) (by kernel_rfl) (fun _ _ _ h => h) (Or.inl ⟨by rfl, fun w' hSw => ?_⟩) (by assumption) ?_
          · (try dsimp only at hSw); skip; go_simp
          try simp only [Act.put, List.getElem_toArray, List.getElem_cons_zero, List.getElem_cons_succ, List.setIfInBounds_toArray, List.set_cons_zero, List.set_cons_succ]
          refine wpAnyH_take (i := 7) (v := .int .i64 K0) rfl (by kernel_rfl) (by kernel_rfl) (by kernel_rfl) (fun _ _ _ h => h) (Or.inl ⟨by rfl, fun w' hSw => ?_⟩) (by assumption) ?_
          · (try dsimp only at hSw); skip; go_simp
          try simp only [Act.put, List.getElem_toArray, List.getElem_cons_zero, List.getElem_cons_succ, List.setIfInBounds_toArray, List.set_cons_zero, List.set_cons_succ]
          obtain ⟨tagX, hX⟩ := Bxd.early qB taX (by omega) (by omega) hHeld (by omega) HD.out
          have HX := hide hX
          clear hX taX
          obtain ⟨fz, c0, c1, c2⟩ := row3_facts qB
          refine wpAnyH_ready (rs := [9]) (by kernel_rfl) (by simp) ?_
          refine AllReadyH.cons rfl (fun K hK => ?_) AllReadyH.nil
          go_simp
          have hsX := HX.out.bel
          refine hK.out _ _ hsX (fun hHeld => ?_)
          clear hK K hsX fz c0 c1 c2
          try simp only [Act.put, List.getElem_toArray, List.getElem_cons_zero, List.getElem_cons_succ, List.setIfInBounds_toArray, List.set_cons_zero, List.set_cons_succ]
          refine wpAnyH_ready (rs := [10]) (by kernel_rfl) (by simp) ?_
          refine AllReadyH.cons rfl (fun K hK => ?_) AllReadyH.nil
          go_simp
          refine hK.out _ _ hHeld (fun hHeld => ?_)
          clear hK K
          try simp only [Act.put, List.getElem_toArray, List.getElem_cons_zero, List.getElem_cons_succ, List.setIfInBounds_toArray, List.set_cons_zero, List.set_cons_succ]
          refine wpAnyH_done (by kernel_rfl) ?_ _
          try go_wp2_with fail
          go_meet
          exact ⟨_, _, _, _, _, _, _, tagX, rfl, rfl, HX⟩
      · go_simp
        have hbA : Below V1.heap.size V1 (V1.alloc (.cells #[nil3, nil3, nil3] 26)) := (Below.refl _ _).alloc (Nat.le_refl _) _
        have qB : (V1.alloc (.cells #[nil3, nil3, nil3] 26)).heap[V1.heap.size]? = some (.cells #[nil3, nil3, nil3] 26 (0, 0)) := heap_alloc_new _ _
        have hH0 := hHeld
        refine hK.out _ _ (hHeld.trans (hbA.mono hHeld.size)) (fun hHeld => ?_)
        clear hK K
        try simp only [Act.put, List.getElem_toArray, List.getElem_cons_zero, List.getElem_cons_succ, List.setIfInBounds_toArray, List.set_cons_zero, List.set_cons_succ]
        obtain ⟨VA, hVA⟩ : ∃ VA, V1.alloc (.cells #[nil3, nil3, nil3] 26) = VA := ⟨_, rfl⟩
        rw [hVA] at hbA qB hHeld ⊢
        have hcap2 := hcap2.below tv2.buf hbA
        have tv2 := tv2.below hbA
        have lA := lt_of_block qB
        have sA := hH0.size
        refine wpAnyH_ready (rs := [3]) (by kernel_rfl) (by simp) ?_
        refine AllReadyH.cons rfl (fun K hK => ?_) AllReadyH.nil
        go_simp
        refine (toBAct_any k co va vl rg _).mono ?_
        rintro e V2 ⟨rfl, hbc⟩
        have hcap2 := hcap2.below tv2.buf hbc
        have tv2 := tv2.below hbc
        have qB := heap_b qB hbc
        have sV2 := hbc.size
        refine hK.out _ _ (hHeld.trans (hbc.mono hHeld.size)) (fun hHeld => ?_)
        clear hK K hbc
        try simp only [Act.put, List.getElem_toArray, List.getElem_cons_zero, List.getElem_cons_succ, List.setIfInBounds_toArray, List.set_cons_zero, List.set_cons_succ]
        refine wpAnyH_ready (rs := [4]) (by kernel_rfl) (by simp) ?_
        refine AllReadyH.cons rfl (fun K hK => ?_) AllReadyH.nil
        go_simp
        refine (hsp _ _ _ _ tv2 hcap2).mono ?_
        rintro e V3 ⟨m6, b6, r6, vb6, vr6, tag6, rfl, taX, hbc⟩
        obtain ⟨⟨xm6, ym6, rfl⟩, ⟨xb6, yb6, rfl⟩, ⟨xr6, yr6, rfl⟩⟩ := three_of (Ta.tv taX)
        have qB := heap_b qB hbc
        have sV3 := hbc.size
        refine hK.out _ _ (hHeld.trans (hbc.mono hHeld.size)) (fun hHeld => ?_)
        clear hK K hbc
        try simp only [Act.put, List.getElem_toArray, List.getElem_cons_zero, List.getElem_cons_succ, List.setIfInBounds_toArray, List.set_cons_zero, List.set_cons_succ]
        refine wpAnyH_take (i := 5) (v := .tuple #[.agg #[.slice xm6 d.zs.length ym6, .slice xb6 D yb6, .slice xr6 D yr6], .int .i64 K0]) rfl (by kernel_rfl) (by kernel_rfl) (by kernel_rfl) (fun _ _ _ h => h) (Or.inl ⟨by rfl, fun w' hSw => ?_⟩) (by assumption) ?_
        · (try dsimp only at hSw); skip; go_simp
        try simp only [Act.put, List.getElem_toArray, List.getElem_cons_zero, List.getElem_cons_succ, List.setIfInBounds_toArray, List.set_cons_zero, List.set_cons_succ]
        refine wpAnyH_take (i := 6) (v := .agg #[.slice xm6 d.zs.length ym6, .slice xb6 D yb6, .slice xr6 D yr6]) rfl (by kernel_rfl) (by kernel_rfl) (by kernel_rfl) (fun _ _ _ h => h) (Or.inl ⟨by rfl, fun w' hSw => ?_⟩) (by assumption) ?_
        · (try dsimp only at hSw); skip; go_simp
        try simp only [Act.put, List.getElem_toArray, List.getElem_cons_zero, List.getElem_cons_succ, List.setIfInBounds_toArray, List.set_cons_zero, List.set_cons_succ]
        refine wpAnyH_take (i := 7) (v := .int .i64 K0) rfl (by kernel_rfl) (by kernel_rfl) (by kernel_rfl) (fun _ _ _ h => h) (Or.inl ⟨by rfl, fun w' hSw => ?_⟩) (by assumption) ?_
        · (try dsimp only at hSw); skip; go_simp
        try simp only [Act.put, List.getElem_toArray, List.getElem_cons_zero, List.getElem_cons_succ, List.setIfInBounds_toArray, List.set_cons_zero, List.set_cons_succ]
        obtain ⟨tagX, hX⟩ := Bxd.early qB taX (by omega) (by omega) hHeld (by omega) HD.out
        have HX := hide hX
        clear hX taX
        obtain ⟨fz, c0, c1, c2⟩ := row3_facts qB
        refine wpAnyH_ready (rs := [9]) (by kernel_rfl) (by simp) ?_
        refine AllReadyH.cons rfl (fun K hK => ?_) AllReadyH.nil
        go_simp
        have hsX := HX.out.bel
        refine hK.out _ _ hsX (fun hHeld => ?_)
        clear hK K hsX fz c0 c1 c2
        try simp only [Act.put, List.getElem_toArray, List.getElem_cons_zero, List.getElem_cons_succ, List.setIfInBounds_toArray, List.set_cons_zero, List.set_cons_succ]
        refine wpAnyH_ready (rs := [10]) (by kernel_rfl) (by simp) ?_
        refine AllReadyH.cons rfl (fun K hK => ?_) AllReadyH.nil
        go_simp
        refine hK.out _ _ hHeld (fun hHeld => ?_)
        clear hK K
        try simp only [Act.put, List.getElem_toArray, List.getElem_cons_zero, List.getElem_cons_succ, List.setIfInBounds_toArray, List.set_cons_zero, List.set_cons_succ]
        refine wpAnyH_done (by kernel_rfl) ?_ _
        try go_wp2_with fail
        go_meet
        exact ⟨_, _, _, _, _, _, _, tagX, rfl, rfl, HX⟩
    · go_simp
      have hbA : Below V0.heap.size V0 (V0.alloc (.cells #[nil3, nil3, nil3] 26)) := (Below.refl _ _).alloc (Nat.le_refl _) _
      have qB : (V0.alloc (.cells #[nil3, nil3, nil3] 26)).heap[V0.heap.size]? = some (.cells #[nil3, nil3, nil3] 26 (0, 0)) := heap_alloc_new _ _
      have hH0 := hHeld
      refine hK.out _ _ (hHeld.trans (hbA.mono hHeld.size)) (fun hHeld => ?_)
      clear hK K
      try simp only [Act.put, List.getElem_toArray, List.getElem_cons_zero, List.getElem_cons_succ, List.setIfInBounds_toArray, List.set_cons_zero, List.set_cons_succ]
      obtain ⟨VA, hVA⟩ : ∃ VA, V0.alloc (.cells #[nil3, nil3, nil3] 26) = VA := ⟨_, rfl⟩
      rw [hVA] at hbA qB hHeld ⊢
      have lA := lt_of_block qB
      have sA := hH0.size
      refine wpAnyH_ready (rs := [1]) (by kernel_rfl) (by simp) ?_
      refine AllReadyH.cons rfl (fun K hK => ?_) AllReadyH.nil
      go_simp
      refine (hto _ _ _ _ (HV.out.below (hb1.trans (hHeld.mono hb1.size))) hl).mono ?_
      rintro e V1 ⟨m2, b2, r2, vb2, vr2, tag2, rfl, tv2, um2, hq2, hcap2, hbc⟩
      obtain ⟨⟨xm2, ym2, rfl⟩, ⟨xb2, yb2, rfl⟩, ⟨xr2, yr2, rfl⟩⟩ := three_of tv2
      clear um2 hq2
      have qB := heap_b qB hbc
      have sV1 := hbc.size
      refine hK.out _ _ (hHeld.trans (hbc.mono hHeld.size)) (fun hHeld => ?_)
      clear hK K hbc
      try simp only [Act.put, List.getElem_toArray, List.getElem_cons_zero, List.getElem_cons_succ, List.setIfInBounds_toArray, List.set_cons_zero, List.set_cons_succ]
      refine wpAnyH_ready (rs := [3]) (by kernel_rfl) (by simp) ?_
      refine AllReadyH.cons rfl (fun K hK => ?_) AllReadyH.nil
      go_simp
      refine (toBAct_any k co va vl rg _).mono ?_
      rintro e V2 ⟨rfl, hbc⟩
      have hcap2 := hcap2.below tv2.buf hbc
      have tv2 := tv2.below hbc
      have qB := heap_b qB hbc
      have sV2 := hbc.size
      refine hK.out _ _ (hHeld.trans (hbc.mono hHeld.size)) (fun hHeld => ?_)
      clear hK K hbc
      try simp only [Act.put, List.getElem_toArray, List.getElem_cons_zero, List.getElem_cons_succ, List.setIfInBounds_toArray, List.set_cons_zero, List.set_cons_succ]
      refine wpAnyH_ready (rs := [4]) (by kernel_rfl) (by simp) ?_
      refine AllReadyH.cons rfl (fun K hK => ?_) AllReadyH.nil
      go_simp
      refine (hsp _ _ _ _ tv2 hcap2).mono ?_
      rintro e V3 ⟨m6, b6, r6, vb6, vr6, tag6, rfl, taX, hbc⟩
      obtain ⟨⟨xm6, ym6, rfl⟩, ⟨xb6, yb6, rfl⟩, ⟨xr6, yr6, rfl⟩⟩ := three_of (Ta.tv taX)
      have qB := heap_b qB hbc
      have sV3 := hbc.size
      refine hK.out _ _ (hHeld.trans (hbc.mono hHeld.size)) (fun hHeld => ?_)
      clear hK K hbc
      try simp only [Act.put, List.getElem_toArray, List.getElem_cons_zero, List.getElem_cons_succ, List.setIfInBounds_toArray, List.set_cons_zero, List.set_cons_succ]
      refine wpAnyH_take (i := 5) (v := .tuple #[.agg #[.slice xm6 d.zs.length ym6, .slice xb6 D yb6, .slice xr6 D yr6], .int .i64 K0]) rfl (by kernel_rfl) (by kernel_rfl) (by kernel_rfl) (fun _ _ _ h => h) (Or.inl ⟨by rfl, fun w' hSw => ?_⟩) (by assumption) ?_
      · (try dsimp only at hSw); skip; go_simp
      try simp only [Act.put, List.getElem_toArray, List.getElem_cons_zero, List.getElem_cons_succ, List.setIfInBounds_toArray, List.set_cons_zero, List.set_cons_succ]
      refine wpAnyH_take (i := 6) (v := .agg #[.slice xm6 d.zs.length ym6, .slice xb6 D yb6, .slice xr6 D yr6]) rfl (by kernel_rfl) (by kernel_rfl) (by kernel_rfl) (fun _ _ _ h => h) (Or.inl ⟨by rfl, fun w' hSw => ?_⟩) (by assumption) ?_
      · (try dsimp only at hSw); skip; go_simp
      try simp only [Act.put, List.getElem_toArray, List.getElem_cons_zero, List.getElem_cons_succ, List.setIfInBounds_toArray, List.set_cons_zero, List.set_cons_succ]
      refine wpAnyH_take (i := 7) (v := .int .i64 K0) rfl (by kernel_rfl) (by kernel_rfl) (by kernel_rfl) (fun _ _ _ h => h) (Or.inl ⟨by rfl, fun w' hSw => ?_⟩) (by assumption) ?_
      · (try dsimp only at hSw); skip; go_simp
      try simp only [Act.put, List.getElem_toArray, List.getElem_cons_zero, List.getElem_cons_succ, List.setIfInBounds_toArray, List.set_cons_zero, List.set_cons_succ]
      obtain ⟨tagX, hX⟩ := Bxd.early qB taX (by omega) (by omega) hHeld (by omega) HD.out
      have HX := hide hX
      clear hX taX
      obtain ⟨fz, c0, c1, c2⟩ := row3_facts qB
      refine wpAnyH_ready (rs := [9]) (by kernel_rfl) (by simp) ?_
      refine AllReadyH.cons rfl (fun K hK => ?_) AllReadyH.nil
      go_simp
      have hsX := HX.out.bel
      refine hK.out _ _ hsX (fun hHeld => ?_)
      clear hK K hsX fz c0 c1 c2
      try simp only [Act.put, List.getElem_toArray, List.getElem_cons_zero, List.getElem_cons_succ, List.setIfInBounds_toArray, List.set_cons_zero, List.set_cons_succ]
      refine wpAnyH_ready (rs := [10]) (by kernel_rfl) (by simp) ?_
      refine AllReadyH.cons rfl (fun K hK => ?_) AllReadyH.nil
      go_simp
      refine hK.out _ _ hHeld (fun hHeld => ?_)
      clear hK K
      try simp only [Act.put, List.getElem_toArray, List.getElem_cons_zero, List.getElem_cons_succ, List.setIfInBounds_toArray, List.set_cons_zero, List.set_cons_succ]
      refine wpAnyH_done (by kernel_rfl) ?_ _
      try go_wp2_with fail
      go_meet
      exact ⟨_, _, _, _, _, _, _, tagX, rfl, rfl, HX⟩
  case rest =>
    obtain ⟨B6, base6, m6, b6, r6, vb6, vr6, tag6, rfl, rfl, HX6⟩ := hcut
    obtain ⟨⟨xm6, ym6, rfl⟩, ⟨xb6, yb6, rfl⟩, ⟨xr6, yr6, rfl⟩⟩ := three_of (Ta.tv HX6.out.ta)
    have hQ0 := HX6.out.bel
    have q6 := HX6.out.row
    have T6 := Ta.tv HX6.out.ta
    obtain ⟨W6, hW⟩ : ∃ W, W = wc := ⟨_, rfl⟩
    subst hW
    have hB6 := hb1.trans (hQ0.mono hb1.size)
    have l6 := lt_of_block q6
    have qX6 := heap_b qX1 hQ0
    have qY6 := heap_b qY1 hQ0
    have V6 := HV.out.below hB6
    have H6 := hide (And.intro qX6 (And.intro qY6 (And.intro q6 (And.intro V6 (And.intro T6 hB6)))))
    clear hQ0 HX6 qX1 qY1 hb1 q6 T6 hB6 HV
    obtain ⟨_, x0, x1, x2⟩ := row3_facts qX6
    go_wp2_with fail
    refine (hto _ _ _ _ V6 hl).mono ?_
    rintro e w7 ⟨m8, b8, r8, vb8, vr8, tag8, rfl, tv8, um8, hq8, hcap8, hb7⟩
    obtain ⟨⟨xm8, ym8, rfl⟩, ⟨xb8, yb8, rfl⟩, ⟨xr8, yr8, rfl⟩⟩ := three_of tv8
    clear hcap8
    have hA8 : Below w7.heap.size w7 (w7.alloc (.cells #[.slice xm8 zs.length ym8, .slice xb8 C yb8, .slice xr8 R yr8] 26)) := (Below.refl _ _).alloc (Nat.le_refl _) _
    have q8 : (w7.alloc (.cells #[.slice xm8 zs.length ym8, .slice xb8 C yb8, .slice xr8 R yr8] 26)).heap[w7.heap.size]? = some (.cells #[.slice xm8 zs.length ym8, .slice xb8 C yb8, .slice xr8 R yr8] 26 (0, 0)) := heap_alloc_new _ _
    have hQ8 := hb7.trans (hA8.mono hb7.size)
    have tv8b := tv8.below hA8
    have um8b := um8.below hA8
    have s67 := hb7.size
    clear hb7 hA8 tv8 um8 x0 x1 x2 qX6 qY6 V6
    go_wp2
    obtain ⟨W8, hW⟩ : ∃ W8, w7.alloc (.cells #[.slice xm8 zs.length ym8, .slice xb8 C yb8, .slice xr8 R yr8] 26) = W8 := ⟨_, rfl⟩
    rw [hW] at q8 hQ8 tv8b um8b ⊢
    clear hW
    have l8 := lt_of_block q8
    have qY8 := heap_b H6.out.2.1 hQ8
    go_cut [9, 10] (fun p c wc => ∃ B base m b r vb vr tag, p = .pointer (some ⟨B, 0, none⟩) ∧ c = .int .i64 K0 ∧ Hid (Bxd W8 wc B base m b r d D vb vr tag))
    case first =>
      refine wp_region_held_drew (S := fun w' => Below W8.heap.size W8 w') (by kernel_rfl) ((Below.refl _ _).drew) (fun hHeld => ?_)
      refine wpAnyH_take (i := 0) (v := .agg #[.slice xm8 zs.length ym8, .slice xb8 C yb8, .slice xr8 R yr8]) rfl (by kernel_rfl) (by kernel_rfl) (by kernel_rfl) (fun _ _ _ h => h) (Or.inl ⟨by rfl, fun w' hSw => ?_⟩) (by assumption) ?_
      · (try dsimp only at hSw); obtain ⟨_, z0, z1, z2⟩ := row3_facts (heap_b q8 hSw); obtain ⟨z3, z4, z5, z6, z7⟩ := row5_facts (heap_b qY8 hSw); go_simp
      try simp only [Act.put, List.getElem_toArray, List.getElem_cons_zero, List.getElem_cons_succ, List.setIfInBounds_toArray, List.set_cons_zero, List.set_cons_succ]
      refine wpAnyH_take (i := 1) (v := .agg #[.int .i64 k, .int .i64 co, .int .i64 va, .int .i64 vl, .int .i64 rg]) rfl (by kernel_rfl) (by kernel_rfl) (by kernel_rfl) (fun _ _ _ h => h) (Or.inl ⟨by rfl, fun w' hSw => ?_⟩) (by assumption) ?_
      · (try dsimp only at hSw); obtain ⟨_, z0, z1, z2⟩ := row3_facts (heap_b q8 hSw); obtain ⟨z3, z4, z5, z6, z7⟩ := row5_facts (heap_b qY8 hSw); go_simp
      try simp only [Act.put, List.getElem_toArray, List.getElem_cons_zero, List.getElem_cons_succ, List.setIfInBounds_toArray, List.set_cons_zero, List.set_cons_succ]
      obtain ⟨V0, hV0⟩ : ∃ V, W8.drew = V := ⟨_, rfl⟩
      rw [hV0] at hHeld ⊢
      clear hV0
      have tv2 := tv8b.below hHeld
      have s0 := hHeld.size
      refine wpAnyH_ready (rs := [2, 7]) (by kernel_rfl) (by simp) ?_
      refine AllReadyH.cons rfl (fun K hK => ?_) (AllReadyH.cons rfl (fun K hK => ?_) AllReadyH.nil)
      · go_simp
        refine (toBAct_any k co va vl rg _).mono ?_
        rintro e V1 ⟨rfl, hbc⟩
        have tv2 := tv2.below hbc
        have sV1 := hbc.size
        refine hK.out _ _ (hHeld.trans (hbc.mono hHeld.size)) (fun hHeld => ?_)
        clear hK K hbc
        try simp only [Act.put, List.getElem_toArray, List.getElem_cons_zero, List.getElem_cons_succ, List.setIfInBounds_toArray, List.set_cons_zero, List.set_cons_succ]
        refine wpAnyH_ready (rs := [3, 7]) (by kernel_rfl) (by simp) ?_
        refine AllReadyH.cons rfl (fun K hK => ?_) (AllReadyH.cons rfl (fun K hK => ?_) AllReadyH.nil)
        · go_simp
          refine (him _ _ _ _ tv2).mono ?_
          rintro e V2 ⟨m7, b7, r7, vb7, vr7, tag7, rfl, taX, hbc⟩
          obtain ⟨⟨xm7, ym7, rfl⟩, ⟨xb7, yb7, rfl⟩, ⟨xr7, yr7, rfl⟩⟩ := three_of (Ta.tv taX)
          have sV2 := hbc.size
          refine hK.out _ _ (hHeld.trans (hbc.mono hHeld.size)) (fun hHeld => ?_)
          clear hK K hbc
          try simp only [Act.put, List.getElem_toArray, List.getElem_cons_zero, List.getElem_cons_succ, List.setIfInBounds_toArray, List.set_cons_zero, List.set_cons_succ]
          refine wpAnyH_take (i := 4) (v := .tuple #[.agg #[.slice xm7 d.zs.length ym7, .slice xb7 D yb7, .slice xr7 D yr7], .int .i64 K0]) rfl (by kernel_rfl) (by kernel_rfl) (by kernel_rfl) (fun _ _ _ h => h) (Or.inl ⟨by rfl, fun w' hSw => ?_⟩) (by assumption) ?_
          · (try dsimp only at hSw); skip; go_simp
          try simp only [Act.put, List.getElem_toArray, List.getElem_cons_zero, List.getElem_cons_succ, List.setIfInBounds_toArray, List.set_cons_zero, List.set_cons_succ]
          refine wpAnyH_take (i := 5) (v := .agg #[.slice xm7 d.zs.length ym7, .slice xb7 D yb7, .slice xr7 D yr7]) rfl (by kernel_rfl) (by kernel_rfl) (by kernel_rfl) (fun _ _ _ h => h) (Or.inl ⟨by rfl, fun w' hSw => ?_⟩) (by assumption) ?_
          · (try dsimp only at hSw); skip; go_simp
          try simp only [Act.put, List.getElem_toArray, List.getElem_cons_zero, List.getElem_cons_succ, List.setIfInBounds_toArray, List.set_cons_zero, List.set_cons_succ]
          refine wpAnyH_take (i := 6) (v := .int .i64 K0) rfl (by kernel_rfl) (by kernel_rfl) (by kernel_rfl) (fun _ _ _ h => h) (Or.inl ⟨by rfl, fun w' hSw => ?_⟩) (by assumption) ?_
          · (try dsimp only at hSw); skip; go_simp
          try simp only [Act.put, List.getElem_toArray, List.getElem_cons_zero, List.getElem_cons_succ, List.setIfInBounds_toArray, List.set_cons_zero, List.set_cons_succ]
          refine wpAnyH_ready (rs := [7]) (by kernel_rfl) (by simp) ?_
          refine AllReadyH.cons rfl (fun K hK => ?_) AllReadyH.nil
          go_simp
          have hbA : Below V2.heap.size V2 (V2.alloc (.cells #[nil3, nil3, nil3] 26)) := (Below.refl _ _).alloc (Nat.le_refl _) _
          have qB : (V2.alloc (.cells #[nil3, nil3, nil3] 26)).heap[V2.heap.size]? = some (.cells #[nil3, nil3, nil3] 26 (0, 0)) := heap_alloc_new _ _
          have hH0 := hHeld
          refine hK.out _ _ (hHeld.trans (hbA.mono hHeld.size)) (fun hHeld => ?_)
          clear hK K
          try simp only [Act.put, List.getElem_toArray, List.getElem_cons_zero, List.getElem_cons_succ, List.setIfInBounds_toArray, List.set_cons_zero, List.set_cons_succ]
          obtain ⟨VA, hVA⟩ : ∃ VA, V2.alloc (.cells #[nil3, nil3, nil3] 26) = VA := ⟨_, rfl⟩
          rw [hVA] at hbA qB hHeld ⊢
          have lA := lt_of_block qB
          have sA := hH0.size
          obtain ⟨tagX, hX⟩ := Bxd.late hVA taX (by omega) hH0 HD.out
          have HX := hide hX
          clear hX taX
          obtain ⟨fz, c0, c1, c2⟩ := row3_facts qB
          refine wpAnyH_ready (rs := [8]) (by kernel_rfl) (by simp) ?_
          refine AllReadyH.cons rfl (fun K hK => ?_) AllReadyH.nil
          go_simp
          have hsX := HX.out.bel
          refine hK.out _ _ hsX (fun hHeld => ?_)
          clear hK K hsX fz c0 c1 c2
          try simp only [Act.put, List.getElem_toArray, List.getElem_cons_zero, List.getElem_cons_succ, List.setIfInBounds_toArray, List.set_cons_zero, List.set_cons_succ]
          refine wpAnyH_ready (rs := [9]) (by kernel_rfl) (by simp) ?_
          refine AllReadyH.cons rfl (fun K hK => ?_) AllReadyH.nil
          go_simp
          refine hK.out _ _ hHeld (fun hHeld => ?_)
          clear hK K
          try simp only [Act.put, List.getElem_toArray, List.getElem_cons_zero, List.getElem_cons_succ, List.setIfInBounds_toArray, List.set_cons_zero, List.set_cons_succ]
          refine wpAnyH_done (by kernel_rfl) ?_ _
          try go_wp2_with fail
          go_meet
          exact ⟨_, _, _, _, _, _, _, tagX, rfl, rfl, HX⟩
        · go_simp
          have hbA : Below V1.heap.size V1 (V1.alloc (.cells #[nil3, nil3, nil3] 26)) := (Below.refl _ _).alloc (Nat.le_refl _) _
          have qB : (V1.alloc (.cells #[nil3, nil3, nil3] 26)).heap[V1.heap.size]? = some (.cells #[nil3, nil3, nil3] 26 (0, 0)) := heap_alloc_new _ _
          have hH0 := hHeld
          refine hK.out _ _ (hHeld.trans (hbA.mono hHeld.size)) (fun hHeld => ?_)
          clear hK K
          try simp only [Act.put, List.getElem_toArray, List.getElem_cons_zero, List.getElem_cons_succ, List.setIfInBounds_toArray, List.set_cons_zero, List.set_cons_succ]
          obtain ⟨VA, hVA⟩ : ∃ VA, V1.alloc (.cells #[nil3, nil3, nil3] 26) = VA := ⟨_, rfl⟩
          rw [hVA] at hbA qB hHeld ⊢
          have tv2 := tv2.below hbA
          have lA := lt_of_block qB
          have sA := hH0.size
          refine wpAnyH_ready (rs := [3]) (by kernel_rfl) (by simp) ?_
          refine AllReadyH.cons rfl (fun K hK => ?_) AllReadyH.nil
          go_simp
          refine (him _ _ _ _ tv2).mono ?_
          rintro e V2 ⟨m7, b7, r7, vb7, vr7, tag7, rfl, taX, hbc⟩
          obtain ⟨⟨xm7, ym7, rfl⟩, ⟨xb7, yb7, rfl⟩, ⟨xr7, yr7, rfl⟩⟩ := three_of (Ta.tv taX)
          have qB := heap_b qB hbc
          have sV2 := hbc.size
          refine hK.out _ _ (hHeld.trans (hbc.mono hHeld.size)) (fun hHeld => ?_)
          clear hK K hbc
          try simp only [Act.put, List.getElem_toArray, List.getElem_cons_zero, List.getElem_cons_succ, List.setIfInBounds_toArray, List.set_cons_zero, List.set_cons_succ]
          refine wpAnyH_take (i := 4) (v := .tuple #[.agg #[.slice xm7 d.zs.length ym7, .slice xb7 D yb7, .slice xr7 D yr7], .int .i64 K0]) rfl (by kernel_rfl) (by kernel_rfl) (by kernel_rfl) (fun _ _ _ h => h) (Or.inl ⟨by rfl, fun w' hSw => ?_⟩) (by assumption) ?_
          · (try dsimp only at hSw); skip; go_simp
          try simp only [Act.put, List.getElem_toArray, List.getElem_cons_zero, List.getElem_cons_succ, List.setIfInBounds_toArray, List.set_cons_zero, List.set_cons_succ]
          refine wpAnyH_take (i := 5) (v := .agg #[.slice xm7 d.zs.length ym7, .slice xb7 D yb7, .slice xr7 D yr7]) rfl (by kernel_rfl) (by kernel_rfl) (by kernel_rfl) (fun _ _ _ h => h) (Or.inl ⟨by rfl, fun w' hSw => ?_⟩) (by assumption) ?_
          · (try dsimp only at hSw); skip; go_simp
          try simp only [Act.put, List.getElem_toArray, List.getElem_cons_zero, List.getElem_cons_succ, List.setIfInBounds_toArray, List.set_cons_zero, List.set_cons_succ]
          refine wpAnyH_take (i := 6) (v := .int .i64 K0) rfl (by kernel_rfl) (by kernel_rfl) (by kernel_rfl) (fun _ _ _ h => h) (Or.inl ⟨by rfl, fun w' hSw => ?_⟩) (by assumption) ?_
          · (try dsimp only at hSw); skip; go_simp
          try simp only [Act.put, List.getElem_toArray, List.getElem_cons_zero, List.getElem_cons_succ, List.setIfInBounds_toArray, List.set_cons_zero, List.set_cons_succ]
          obtain ⟨tagX, hX⟩ := Bxd.early qB taX (by omega) (by omega) hHeld (by omega) HD.out
          have HX := hide hX
          clear hX taX
          obtain ⟨fz, c0, c1, c2⟩ := row3_facts qB
          refine wpAnyH_ready (rs := [8]) (by kernel_rfl) (by simp) ?_
          refine AllReadyH.cons rfl (fun K hK => ?_) AllReadyH.nil
          go_simp
          have hsX := HX.out.bel
          refine hK.out _ _ hsX (fun hHeld => ?_)
          clear hK K hsX fz c0 c1 c2
          try simp only [Act.put, List.getElem_toArray, List.getElem_cons_zero, List.getElem_cons_succ, List.setIfInBounds_toArray, List.set_cons_zero, List.set_cons_succ]
          refine wpAnyH_ready (rs := [9]) (by kernel_rfl) (by simp) ?_
          refine AllReadyH.cons rfl (fun K hK => ?_) AllReadyH.nil
          go_simp
          refine hK.out _ _ hHeld (fun hHeld => ?_)
          clear hK K
          try simp only [Act.put, List.getElem_toArray, List.getElem_cons_zero, List.getElem_cons_succ, List.setIfInBounds_toArray, List.set_cons_zero, List.set_cons_succ]
          refine wpAnyH_done (by kernel_rfl) ?_ _
          try go_wp2_with fail
          go_meet
          exact ⟨_, _, _, _, _, _, _, tagX, rfl, rfl, HX⟩
      · go_simp
        have hbA : Below V0.heap.size V0 (V0.alloc (.cells #[nil3, nil3, nil3] 26)) := (Below.refl _ _).alloc (Nat.le_refl _) _
        have qB : (V0.alloc (.cells #[nil3, nil3, nil3] 26)).heap[V0.heap.size]? = some (.cells #[nil3, nil3, nil3] 26 (0, 0)) := heap_alloc_new _ _
        have hH0 := hHeld
        refine hK.out _ _ (hHeld.trans (hbA.mono hHeld.size)) (fun hHeld => ?_)
        clear hK K
        try simp only [Act.put, List.getElem_toArray, List.getElem_cons_zero, List.getElem_cons_succ, List.setIfInBounds_toArray, List.set_cons_zero, List.set_cons_succ]
        obtain ⟨VA, hVA⟩ : ∃ VA, V0.alloc (.cells #[nil3, nil3, nil3] 26) = VA := ⟨_, rfl⟩
        rw [hVA] at hbA qB hHeld ⊢
        have tv2 := tv2.below hbA
        have lA := lt_of_block qB
        have sA := hH0.size
        refine wpAnyH_ready (rs := [2]) (by kernel_rfl) (by simp) ?_
        refine AllReadyH.cons rfl (fun K hK => ?_) AllReadyH.nil
        go_simp
        refine (toBAct_any k co va vl rg _).mono ?_
        rintro e V1 ⟨rfl, hbc⟩
        have tv2 := tv2.below hbc
        have qB := heap_b qB hbc
        have sV1 := hbc.size
        refine hK.out _ _ (hHeld.trans (hbc.mono hHeld.size)) (fun hHeld => ?_)
        clear hK K hbc
        try simp only [Act.put, List.getElem_toArray, List.getElem_cons_zero, List.getElem_cons_succ, List.setIfInBounds_toArray, List.set_cons_zero, List.set_cons_succ]
        refine wpAnyH_ready (rs := [3]) (by kernel_rfl) (by simp) ?_
        refine AllReadyH.cons rfl (fun K hK => ?_) AllReadyH.nil
        go_simp
        refine (him _ _ _ _ tv2).mono ?_
        rintro e V2 ⟨m7, b7, r7, vb7, vr7, tag7, rfl, taX, hbc⟩
        obtain ⟨⟨xm7, ym7, rfl⟩, ⟨xb7, yb7, rfl⟩, ⟨xr7, yr7, rfl⟩⟩ := three_of (Ta.tv taX)
        have qB := heap_b qB hbc
        have sV2 := hbc.size
        refine hK.out _ _ (hHeld.trans (hbc.mono hHeld.size)) (fun hHeld => ?_)
        clear hK K hbc
        try simp only [Act.put, List.getElem_toArray, List.getElem_cons_zero, List.getElem_cons_succ, List.setIfInBounds_toArray, List.set_cons_zero, List.set_cons_succ]
        refine wpAnyH_take (i := 4) (v := .tuple #[.agg #[.slice xm7 d.zs.length ym7, .slice xb7 D yb7, .slice xr7 D yr7], .int .i64 K0]) rfl (by kernel_rfl) (by kernel_rfl) (by kernel_rfl) (fun _ _ _ h => h) (Or.inl ⟨by rfl, fun w' hSw => ?_⟩) (by assumption) ?_
        · (try dsimp only at hSw); skip; go_simp
        try simp only [Act.put, List.getElem_toArray, List.getElem_cons_zero, List.getElem_cons_succ, List.setIfInBounds_toArray, List.set_cons_zero, List.set_cons_succ]
        refine wpAnyH_take (i := 5) (v := .agg #[.slice xm7 d.zs.length ym7, .slice xb7 D yb7, .slice xr7 D yr7]) rfl (by kernel_rfl) (by kernel_rfl) (by kernel_rfl) (fun _ _ _ h => h) (Or.inl ⟨by rfl, fun w' hSw => ?_⟩) (by assumption) ?_
        · (try dsimp only at hSw); skip; go_simp
        try simp only [Act.put, List.getElem_toArray, List.getElem_cons_zero, List.getElem_cons_succ, List.setIfInBounds_toArray, List.set_cons_zero, List.set_cons_succ]
        refine wpAnyH_take (i := 6) (v := .int .i64 K0) rfl (by kernel_rfl) (by kernel_rfl) (by kernel_rfl) (fun _ _ _ h => h) (Or.inl ⟨by rfl, fun w' hSw => ?_⟩) (by assumption) ?_
        · (try dsimp only at hSw); skip; go_simp
        try simp only [Act.put, List.getElem_toArray, List.getElem_cons_zero, List.getElem_cons_succ, List.setIfInBounds_toArray, List.set_cons_zero, List.set_cons_succ]
        obtain ⟨tagX, hX⟩ := Bxd.early qB taX (by omega) (by omega) hHeld (by omega) HD.out
        have HX := hide hX
        clear hX taX
        obtain ⟨fz, c0, c1, c2⟩ := row3_facts qB
        refine wpAnyH_ready (rs := [8]) (by kernel_rfl) (by simp) ?_
        refine AllReadyH.cons rfl (fun K hK => ?_) AllReadyH.nil
        go_simp
        have hsX := HX.out.bel
        refine hK.out _ _ hsX (fun hHeld => ?_)
        clear hK K hsX fz c0 c1 c2
        try simp only [Act.put, List.getElem_toArray, List.getElem_cons_zero, List.getElem_cons_succ, List.setIfInBounds_toArray, List.set_cons_zero, List.set_cons_succ]
        refine wpAnyH_ready (rs := [9]) (by kernel_rfl) (by simp) ?_
        refine AllReadyH.cons rfl (fun K hK => ?_) AllReadyH.nil
        go_simp
        refine hK.out _ _ hHeld (fun hHeld => ?_)
        clear hK K
        try simp only [Act.put, List.getElem_toArray, List.getElem_cons_zero, List.getElem_cons_succ, List.setIfInBounds_toArray, List.set_cons_zero, List.set_cons_succ]
        refine wpAnyH_done (by kernel_rfl) ?_ _
        try go_wp2_with fail
        go_meet
        exact ⟨_, _, _, _, _, _, _, tagX, rfl, rfl, HX⟩
    case rest =>
      obtain ⟨W9, hW⟩ : ∃ W, W = wc := ⟨_, rfl⟩
      subst hW
      obtain ⟨B9, base9, m9, b9, r9, vb9, vr9, tag9, rfl, rfl, HX9⟩ := hcut
      obtain ⟨⟨xm9, ym9, rfl⟩, ⟨xb9, yb9, rfl⟩, ⟨xr9, yr9, rfl⟩⟩ := three_of (Ta.tv HX9.out.ta)
      obtain ⟨q9, t9, lo9, off9, hq9, hR, lb9⟩ := HX9.out
      have hQ9 := hQ8.trans (hR.mono hQ8.size)
      have tv8c := tv8b.below hR
      have um8c := um8b.below hR
      have q8c := heap_b q8 hR
      have l9 := lt_of_block q9
      have s9 := hR.size
      clear HX9 hR hQ8 tv8b um8b q8 qY8
      have hQa := hQ9
      have t9a := t9
      have tv8a := tv8c
      have um8a := um8c
      have q8a := q8c
      have q9a := q9
      have q6a := heap_b H6.out.2.2.1 hQ9
      have qXa := heap_b H6.out.1 hQ9
      have qYa := heap_b H6.out.2.1 hQ9
      clear hQ9 t9 tv8c um8c q8c q9
      obtain ⟨_, c0, c1, c2⟩ := row3_facts q9a
      obtain ⟨_, f0, f1, f2⟩ := row3_facts q6a
      go_wp2_with fail
      refine (eqTso_same _ _ _ _ _ _ d.zs D d.L d.F D d.Z _ (Ta.tv t9a) (H6.out.2.2.2.2.1.below hQa) HTL.out).mono ?_
      rintro e w11 ⟨rfl, hb11⟩
      have s1 := hb11.size
      have hQb := hQa.trans (hb11.mono hQa.size)
      have t9b := t9a.below hb11
      have tv8b := tv8a.below hb11
      have um8b := um8a.below hb11
      have q8b := heap_b q8a hb11
      have q9b := heap_b q9a hb11
      have q6b := heap_b q6a hb11
      have qXb := heap_b qXa hb11
      have qYb := heap_b qYa hb11
      clear hQa t9a tv8a um8a q8a q9a q6a qXa qYa hb11
      clear c0 c1 c2 f0 f1 f2
      go_wp2
      have z8 := q8b
      have zX := qXb
      refine wp_region_held_drew (S := fun w' => Below w11.heap.size w11 w') (by kernel_rfl) ((Below.refl _ _).drew) (fun hHeld => ?_)
      refine wpAnyH_take (i := 0) (v := .agg #[.slice xm8 zs.length ym8, .slice xb8 C yb8, .slice xr8 R yr8]) rfl (by kernel_rfl) (by kernel_rfl) (by kernel_rfl) (fun _ _ _ h => h) (Or.inl ⟨by rfl, fun w' hSw => ?_⟩) (by assumption) ?_
      · (try dsimp only at hSw); obtain ⟨_, z0, z1, z2⟩ := row3_facts (heap_b z8 hSw); obtain ⟨_, z3, z4, z5⟩ := row3_facts (heap_b zX hSw); go_simp
      try simp only [Act.put, List.getElem_toArray, List.getElem_cons_zero, List.getElem_cons_succ, List.setIfInBounds_toArray, List.set_cons_zero, List.set_cons_succ]
      refine wpAnyH_take (i := 1) (v := .agg #[.slice ma zs.length mc, .slice ba C bc, .slice ra R rc]) rfl (by kernel_rfl) (by kernel_rfl) (by kernel_rfl) (fun _ _ _ h => h) (Or.inl ⟨by rfl, fun w' hSw => ?_⟩) (by assumption) ?_
      · (try dsimp only at hSw); obtain ⟨_, z0, z1, z2⟩ := row3_facts (heap_b z8 hSw); obtain ⟨_, z3, z4, z5⟩ := row3_facts (heap_b zX hSw); go_simp
      try simp only [Act.put, List.getElem_toArray, List.getElem_cons_zero, List.getElem_cons_succ, List.setIfInBounds_toArray, List.set_cons_zero, List.set_cons_succ]
      refine wpAnyH_ready (rs := [2]) (by kernel_rfl) (by simp) ?_
      refine AllReadyH.cons rfl (fun K hK => ?_) AllReadyH.nil
      go_simp
      refine (hto _ _ _ _ (H6.out.2.2.2.1.below (hQb.trans (hHeld.mono hQb.size))) hl).mono ?_
      rintro e w12 ⟨m3, b3, r3, vb3, vr3, tag3, rfl, tv3, um3, hq3, hcap3, hb12⟩
      obtain ⟨⟨xm3, ym3, rfl⟩, ⟨xb3, yb3, rfl⟩, ⟨xr3, yr3, rfl⟩⟩ := three_of tv3
      clear um3 hq3 hcap3
      refine hK.out _ _ (hHeld.trans (hb12.mono hHeld.size)) (fun hHeld => ?_)
      clear hK K hb12
      try simp only [Act.put, List.getElem_toArray, List.getElem_cons_zero, List.getElem_cons_succ, List.setIfInBounds_toArray, List.set_cons_zero, List.set_cons_succ]
      refine wpAnyH_ready (rs := [3]) (by kernel_rfl) (by simp) ?_
      refine AllReadyH.cons rfl (fun K hK => ?_) AllReadyH.nil
      go_simp
      refine (eqTso_same _ _ _ _ _ _ zs C L F R Z _ (tv8b.below hHeld) tv3 hl).mono ?_
      rintro e w13 ⟨rfl, hb13⟩
      refine hK.out _ _ (hHeld.trans (hb13.mono hHeld.size)) (fun hHeld => ?_)
      clear hK K hb13
      try simp only [Act.put, List.getElem_toArray, List.getElem_cons_zero, List.getElem_cons_succ, List.setIfInBounds_toArray, List.set_cons_zero, List.set_cons_succ]
      refine wpAnyH_take (i := 4) (v := .bool false) rfl (by kernel_rfl) (by kernel_rfl) (by kernel_rfl) (fun _ _ _ h => h) (Or.inl ⟨by rfl, fun w' hSw => ?_⟩) (by assumption) ?_
      · (try dsimp only at hSw); skip; go_simp
      try simp only [Act.put, List.getElem_toArray, List.getElem_cons_zero, List.getElem_cons_succ, List.setIfInBounds_toArray, List.set_cons_zero, List.set_cons_succ]
      refine wpAnyH_done (by kernel_rfl) ?_ _
      clear z8 zX tv3
      have hs13 := hHeld
      have s2 := hs13.size
      have hQc := hQb.trans (hs13.mono hQb.size)
      have t9c := t9b.below hs13
      have tv8c := tv8b.below hs13
      have um8c := um8b.below hs13
      have q8c := heap_b q8b hs13
      have q9c := heap_b q9b hs13
      have q6c := heap_b q6b hs13
      have qXc := heap_b qXb hs13
      have qYc := heap_b qYb hs13
      clear hQb t9b tv8b um8b q8b q9b q6b qXb qYb hs13
      obtain ⟨_, c0, c1, c2⟩ := row3_facts q8c
      go_wp2_with fail
      refine (markTso_um um8c (fun g hg => hq8 g (by omega)) (by decide) (by decide) hl.mem hl.buf.1 hl.buf.2 hl.reg.1 hl.reg.2).mono ?_
      rintro e w14 ⟨⟨k8, hk8, rfl⟩, hc14⟩
      have hQd := below_chg hQc hc14 (fun j hj => hj.1) hQc.size
      have nS : ∀ g, w7.heap.size ≤ g → ¬ Tg W6.heap.size tag8 0 g := fun g hg hs => by have := hs.2; rw [hq8 g hg] at this; omega
      have q9d := (hc14.block _ (lt_of_block q9c) (nS _ (by omega))).trans q9c
      have t9d := Ta.chg0 t9c hc14 (fun b hb => Nat.lt_of_lt_of_le (Nat.lt_of_not_le (fun q => nS b q hb)) (by omega))
      have q6d := heap_b H6.out.2.2.1 hQd
      have qXd := heap_b H6.out.1 hQd
      have qYd := heap_b H6.out.2.1 hQd
      have s3 := hc14.size
      clear hc14 nS hQc t9c tv8c um8c q8c q9c q6c qXc qYc hq8 c0 c1 c2
      obtain ⟨_, c0, c1, c2⟩ := row3_facts q9d
      obtain ⟨_, f0, f1, f2⟩ := row3_facts q6d
      go_wp2_with fail
      refine (eqTso_same _ _ _ _ _ _ d.zs D d.L d.F D d.Z _ (Ta.tv t9d) (H6.out.2.2.2.2.1.below hQd) HTL.out).mono ?_
      rintro e w15 ⟨rfl, hb15⟩
      have s4 := hb15.size
      have hQe := hQd.trans (hb15.mono hQd.size)
      have t9e := t9d.below hb15
      have q9e := heap_b q9d hb15
      have q6e := heap_b q6d hb15
      have qXe := heap_b qXd hb15
      have qYe := heap_b qYd hb15
      clear hQd t9d q9d q6d qXd qYd hb15
      clear c0 c1 c2 f0 f1 f2
      obtain ⟨_, c0, c1, c2⟩ := row3_facts q9e
      go_wp2_with fail
      refine (hmk _ _ _ _ _ _ _ _ t9e (fun g hg => hq9 g (by omega))).mono ?_
      rintro e w16 ⟨rfl, t9f, hc16⟩
      have hQf := below_chg hQe hc16 (fun j hj => by have := hj.1; omega) hQe.size
      have q9f := (hc16.block _ (lt_of_block q9e) (fun hs => by have h1 := hs.1; have h2 := hs.2; rcases off9 with q | q <;> omega)).trans q9e
      have q6f := heap_b H6.out.2.2.1 hQf
      have qXf := heap_b H6.out.1 hQf
      have qYf := heap_b H6.out.2.1 hQf
      clear hc16 hQe t9e q9e q6e qXe qYe hq9 c0 c1 c2
      obtain ⟨_, c0, c1, c2⟩ := row3_facts q9f
      go_wp2_with fail
      refine (hhd _ _ _ _ _ _ _ _ t9f).mono ?_
      rintro e w17 ⟨rfl, hb17⟩
      have hQg := hQf.trans (hb17.mono hQf.size)
      have t9g := t9f.below hb17
      have q9g := heap_b q9f hb17
      have q6g := heap_b q6f hb17
      have qXg := heap_b qXf hb17
      have qYg := heap_b qYf hb17
      clear hQf t9f q9f q6f qXf qYf hb17
      clear c0 c1 c2
      go_wp2
      go_cut [14, 15] (fun p c wc => ∃ B base m b r vb vr tag, p = .pointer (some ⟨B, 0, none⟩) ∧ c = .int .i64 K0 ∧ Hid (Bxd w17 wc B base m b r d D vb vr tag))
      case first =>
        refine wp_region_held_drew (S := fun w' => Below w17.heap.size w17 w') (by kernel_rfl) ((Below.refl _ _).drew) (fun hHeld => ?_)
        refine wpAnyH_take (i := 0) (v := .agg #[.slice ma zs.length mc, .slice ba C bc, .slice ra R rc]) rfl (by kernel_rfl) (by kernel_rfl) (by kernel_rfl) (fun _ _ _ h => h) (Or.inl ⟨by rfl, fun w' hSw => ?_⟩) (by assumption) ?_
        · (try dsimp only at hSw); obtain ⟨_, z0, z1, z2⟩ := row3_facts (heap_b qXg hSw); obtain ⟨z3, z4, z5, z6, z7⟩ := row5_facts (heap_b qYg hSw); go_simp
        try simp only [Act.put, List.getElem_toArray, List.getElem_cons_zero, List.getElem_cons_succ, List.setIfInBounds_toArray, List.set_cons_zero, List.set_cons_succ]
        refine wpAnyH_take (i := 2) (v := .agg #[.int .i64 k, .int .i64 co, .int .i64 va, .int .i64 vl, .int .i64 rg]) rfl (by kernel_rfl) (by kernel_rfl) (by kernel_rfl) (fun _ _ _ h => h) (Or.inl ⟨by rfl, fun w' hSw => ?_⟩) (by assumption) ?_
        · (try dsimp only at hSw); obtain ⟨_, z0, z1, z2⟩ := row3_facts (heap_b qXg hSw); obtain ⟨z3, z4, z5, z6, z7⟩ := row5_facts (heap_b qYg hSw); go_simp
        try simp only [Act.put, List.getElem_toArray, List.getElem_cons_zero, List.getElem_cons_succ, List.setIfInBounds_toArray, List.set_cons_zero, List.set_cons_succ]
        obtain ⟨V0, hV0⟩ : ∃ V, w17.drew = V := ⟨_, rfl⟩
        rw [hV0] at hHeld ⊢
        clear hV0
        have s0 := hHeld.size
        refine wpAnyH_ready (rs := [1, 8]) (by kernel_rfl) (by simp) ?_
        refine AllReadyH.cons rfl (fun K hK => ?_) (AllReadyH.cons rfl (fun K hK => ?_) AllReadyH.nil)
        · go_simp
          refine (hto _ _ _ _ (H6.out.2.2.2.1.below (hQg.trans (hHeld.mono hQg.size))) hl).mono ?_
          rintro e V1 ⟨m2, b2, r2, vb2, vr2, tag2, rfl, tv2, um2, hq2, hcap2, hbc⟩
          obtain ⟨⟨xm2, ym2, rfl⟩, ⟨xb2, yb2, rfl⟩, ⟨xr2, yr2, rfl⟩⟩ := three_of tv2
          clear um2 hq2
          have sV1 := hbc.size
          refine hK.out _ _ (hHeld.trans (hbc.mono hHeld.size)) (fun hHeld => ?_)
          clear hK K hbc
          try simp only [Act.put, List.getElem_toArray, List.getElem_cons_zero, List.getElem_cons_succ, List.setIfInBounds_toArray, List.set_cons_zero, List.set_cons_succ]
          refine wpAnyH_ready (rs := [3, 8]) (by kernel_rfl) (by simp) ?_
          refine AllReadyH.cons rfl (fun K hK => ?_) (AllReadyH.cons rfl (fun K hK => ?_) AllReadyH.nil)
          · go_simp
            refine (toBAct_any k co va vl rg _).mono ?_
            rintro e V2 ⟨rfl, hbc⟩
            have hcap2 := hcap2.below tv2.buf hbc
            have tv2 := tv2.below hbc
            have sV2 := hbc.size
            refine hK.out _ _ (hHeld.trans (hbc.mono hHeld.size)) (fun hHeld => ?_)
            clear hK K hbc
            try simp only [Act.put, List.getElem_toArray, List.getElem_cons_zero, List.getElem_cons_succ, List.setIfInBounds_toArray, List.set_cons_zero, List.set_cons_succ]
            refine wpAnyH_ready (rs := [4, 8]) (by kernel_rfl) (by simp) ?_
            refine AllReadyH.cons rfl (fun K hK => ?_) (AllReadyH.cons rfl (fun K hK => ?_) AllReadyH.nil)
            · go_simp
              refine (him _ _ _ _ tv2).mono ?_
              rintro e V3 ⟨m7, b7, r7, vb7, vr7, tag7, rfl, taX, hbc⟩
              obtain ⟨⟨xm7, ym7, rfl⟩, ⟨xb7, yb7, rfl⟩, ⟨xr7, yr7, rfl⟩⟩ := three_of (Ta.tv taX)
              have sV3 := hbc.size
              refine hK.out _ _ (hHeld.trans (hbc.mono hHeld.size)) (fun hHeld => ?_)
              clear hK K hbc
              try simp only [Act.put, List.getElem_toArray, List.getElem_cons_zero, List.getElem_cons_succ, List.setIfInBounds_toArray, List.set_cons_zero, List.set_cons_succ]
              refine wpAnyH_take (i := 5) (v := .tuple #[.agg #[.slice xm7 d.zs.length ym7, .slice xb7 D yb7, .slice xr7 D yr7], .int .i64 K0]) rfl (by kernel_rfl) (by kernel_rfl) (by kernel_rfl) (fun _ _ _ h => h) (Or.inl ⟨by rfl, fun w' hSw => ?_⟩) (by assumption) ?_
              · (try dsimp only at hSw); skip; go_simp
              try simp only [Act.put, List.getElem_toArray, List.getElem_cons_zero, List.getElem_cons_succ, List.setIfInBounds_toArray, List.set_cons_zero, List.set_cons_succ]
              refine wpAnyH_take (i := 6) (v := .agg #[.slice xm7 d.zs.length ym7, .slice xb7 D yb7, .slice xr7 D yr7]) rfl (by kernel_rfl) (by kernel_rfl) (by kernel_rfl) (fun _ _ _ h => h) (Or.inl ⟨by rfl, fun w' hSw => ?_⟩) (by assumption) ?_
              · (try dsimp only at hSw); skip; go_simp
              try simp only [Act.put, List.getElem_toArray, List.getElem_cons_zero, List.getElem_cons_succ, List.setIfInBounds_toArray, List.set_cons_zero, List.set_cons_succ]
              refine wpAnyH_take (i := 7) (v := .int .i64 K0) rfl (by kernel_rfl) (by kernel_rfl) (by kernel_rfl) (fun _ _ _ h => h) (Or.inl ⟨by rfl, fun w' hSw => ?_⟩) (by assumption) ?_
              · (try dsimp only at hSw); skip; go_simp
              try simp only [Act.put, List.getElem_toArray, List.getElem_cons_zero, List.getElem_cons_succ, List.setIfInBounds_toArray, List.set_cons_zero, List.set_cons_succ]
              refine wpAnyH_ready (rs := [8]) (by kernel_rfl) (by simp) ?_
              refine AllReadyH.cons rfl (fun K hK => ?_) AllReadyH.nil
              go_simp
              have hbA : Below V3.heap.size V3 (V3.alloc (.cells #[nil3, nil3, nil3] 26)) := (Below.refl _ _).alloc (Nat.le_refl _) _
              have qB : (V3.alloc (.cells #[nil3, nil3, nil3] 26)).heap[V3.heap.size]? = some (.cells #[nil3, nil3, nil3] 26 (0, 0)) := heap_alloc_new _ _
              have hH0 := hHeld
              refine hK.out _ _ (hHeld.trans (hbA.mono hHeld.size)) (fun hHeld => ?_)
              clear hK K
              try simp only [Act.put, List.getElem_toArray, List.getElem_cons_zero, List.getElem_cons_succ, List.setIfInBounds_toArray, List.set_cons_zero, List.set_cons_succ]
              obtain ⟨VA, hVA⟩ : ∃ VA, V3.alloc (.cells #[nil3, nil3, nil3] 26) = VA := ⟨_, rfl⟩
              rw [hVA] at hbA qB hHeld ⊢
              have lA := lt_of_block qB
              have sA := hH0.size
              obtain ⟨tagX, hX⟩ := Bxd.late hVA taX (by omega) hH0 HD.out
              have HX := hide hX
              clear hX taX
              obtain ⟨fz, c0, c1, c2⟩ := row3_facts qB
              refine wpAnyH_ready (rs := [9]) (by kernel_rfl) (by simp) ?_
              refine AllReadyH.cons rfl (fun K hK => ?_) AllReadyH.nil
              go_simp
              have hsX := HX.out.bel
              refine hK.out _ _ hsX (fun hHeld => ?_)
              clear hK K hsX fz c0 c1 c2
              try simp only [Act.put, List.getElem_toArray, List.getElem_cons_zero, List.getElem_cons_succ, List.setIfInBounds_toArray, List.set_cons_zero, List.set_cons_succ]
              refine wpAnyH_ready (rs := [10]) (by kernel_rfl) (by simp) ?_
              refine AllReadyH.cons rfl (fun K hK => ?_) AllReadyH.nil
              go_simp
              refine hK.out _ _ hHeld (fun hHeld => ?_)
              clear hK K
              try simp only [Act.put, List.getElem_toArray, List.getElem_cons_zero, List.getElem_cons_succ, List.setIfInBounds_toArray, List.set_cons_zero, List.set_cons_succ]
              refine wpAnyH_done (by kernel_rfl) ?_ _
              try go_wp2_with fail
              go_meet
              exact ⟨_, _, _, _, _, _, _, tagX, rfl, rfl, HX⟩
            · go_simp
              have hbA : Below V2.heap.size V2 (V2.alloc (.cells #[nil3, nil3, nil3] 26)) := (Below.refl _ _).alloc (Nat.le_refl _) _
              have qB : (V2.alloc (.cells #[nil3, nil3, nil3] 26)).heap[V2.heap.size]? = some (.cells #[nil3, nil3, nil3] 26 (0, 0)) := heap_alloc_new _ _
              have hH0 := hHeld
              refine hK.out _ _ (hHeld.trans (hbA.mono hHeld.size)) (fun hHeld => ?_)
              clear hK K
              try simp only [Act.put, List.getElem_toArray, List.getElem_cons_zero, List.getElem_cons_succ, List.setIfInBounds_toArray, List.set_cons_zero, List.set_cons_succ]
              obtain ⟨VA, hVA⟩ : ∃ VA, V2.alloc (.cells #[nil3, nil3, nil3] 26) = VA := ⟨_, rfl⟩
              rw [hVA] at hbA qB hHeld ⊢
              have hcap2 := hcap2.below tv2.buf hbA
              have tv2 := tv2.below hbA
              have lA := lt_of_block qB
              have sA := hH0.size
              refine wpAnyH_ready (rs := [4]) (by kernel_rfl) (by simp) ?_
              refine AllReadyH.cons rfl (fun K hK => ?_) AllReadyH.nil
              go_simp
              refine (him _ _ _ _ tv2).mono ?_
              rintro e V3 ⟨m7, b7, r7, vb7, vr7, tag7, rfl, taX, hbc⟩
              obtain ⟨⟨xm7, ym7, rfl⟩, ⟨xb7, yb7, rfl⟩, ⟨xr7, yr7, rfl⟩⟩ := three_of (Ta.tv taX)
              have qB := heap_b qB hbc
              have sV3 := hbc.size
              refine hK.out _ _ (hHeld.trans (hbc.mono hHeld.size)) (fun hHeld => ?_)
              clear hK K hbc
              try simp only [Act.put, List.getElem_toArray, List.getElem_cons_zero, List.getElem_cons_succ, List.setIfInBounds_toArray, List.set_cons_zero, List.set_cons_succ]
              refine wpAnyH_take (i := 5) (v := .tuple #[.agg #[.slice xm7 d.zs.length ym7, .slice xb7 D yb7, .slice xr7 D yr7], .int .i64 K0]) rfl (by kernel_rfl) (by kernel_rfl) (by kernel_rfl) (fun _ _ _ h => h) (Or.inl ⟨by rfl, fun w' hSw => ?_⟩) (by assumption) ?_
              · (try dsimp only at hSw); skip; go_simp
              try simp only [Act.put, List.getElem_toArray, List.getElem_cons_zero, List.getElem_cons_succ, List.setIfInBounds_toArray, List.set_cons_zero, List.set_cons_succ]
              refine wpAnyH_take (i := 6) (v := .agg #[.slice xm7 d.zs.length ym7, .slice xb7 D yb7, .slice xr7 D yr7]) rfl (by kernel_rfl) (by kernel_rfl) (by kernel_rfl) (fun _ _ _ h => h) (Or.inl ⟨by rfl, fun w' hSw => ?_⟩) (by assumption) ?_
              · (try dsimp only at hSw); skip; go_simp
              try simp only [Act.put, List.getElem_toArray, List.getElem_cons_zero, List.getElem_cons_succ, List.setIfInBounds_toArray, List.set_cons_zero, List.set_cons_succ]
              refine wpAnyH_take (i := 7) (v := .int .i64 K0) rfl (by kernel_rfl) (by kernel_rfl) (by kernel_rfl) (fun _ _ _ h => h) (Or.inl ⟨by rfl, fun w' hSw => ?_⟩) (by assumption) ?_
              · (try dsimp only at hSw); skip; go_simp
              try simp only [Act.put, List.getElem_toArray, List.getElem_cons_zero, List.getElem_cons_succ, List.setIfInBounds_toArray, List.set_cons_zero, List.set_cons_succ]
              obtain ⟨tagX, hX⟩ := Bxd.early qB taX (by omega) (by omega) hHeld (by omega) HD.out
              have HX := hide hX
              clear hX taX
              obtain ⟨fz, c0, c1, c2⟩ := row3_facts qB
              refine wpAnyH_ready (rs := [9]) (by kernel_rfl) (by simp) ?_
              refine AllReadyH.cons rfl (fun K hK => ?_) AllReadyH.nil
              go_simp
              have hsX := HX.out.bel
              refine hK.out _ _ hsX (fun hHeld => ?_)
              clear hK K hsX fz c0 c1 c2
              try simp only [Act.put, List.getElem_toArray, List.getElem_cons_zero, List.getElem_cons_succ, List.setIfInBounds_toArray, List.set_cons_zero, List.set_cons_succ]
              refine wpAnyH_ready (rs := [10]) (by kernel_rfl) (by simp) ?_
              refine AllReadyH.cons rfl (fun K hK => ?_) AllReadyH.nil
              go_simp
              refine hK.out _ _ hHeld (fun hHeld => ?_)
              clear hK K
              try simp only [Act.put, List.getElem_toArray, List.getElem_cons_zero, List.getElem_cons_succ, List.setIfInBounds_toArray, List.set_cons_zero, List.set_cons_succ]
              refine wpAnyH_done (by kernel_rfl) ?_ _
              try go_wp2_with fail
              go_meet
              exact ⟨_, _, _, _, _, _, _, tagX, rfl, rfl, HX⟩
          · go_simp
            have hbA : Below V1.heap.size V1 (V1.alloc (.cells #[nil3, nil3, nil3] 26)) := (Below.refl _ _).alloc (Nat.le_refl _) _
            have qB : (V1.alloc (.cells #[nil3, nil3, nil3] 26)).heap[V1.heap.size]? = some (.cells #[nil3, nil3, nil3] 26 (0, 0)) := heap_alloc_new _ _
            have hH0 := hHeld
            refine hK.out _ _ (hHeld.trans (hbA.mono hHeld.size)) (fun hHeld => ?_)
            clear hK K
            try simp only [Act.put, List.getElem_toArray, List.getElem_cons_zero, List.getElem_cons_succ, List.setIfInBounds_toArray, List.set_cons_zero, List.set_cons_succ]
            obtain ⟨VA, hVA⟩ : ∃ VA, V1.alloc (.cells #[nil3, nil3, nil3] 26) = VA := ⟨_, rfl⟩
            rw [hVA] at hbA qB hHeld ⊢
            have hcap2 := hcap2.below tv2.buf hbA
            have tv2 := tv2.below hbA
            have lA := lt_of_block qB
            have sA := hH0.size
            refine wpAnyH_ready (rs := [3]) (by kernel_rfl) (by simp) ?_
            refine AllReadyH.cons rfl (fun K hK => ?_) AllReadyH.nil
            go_simp
            refine (toBAct_any k co va vl rg _).mono ?_
            rintro e V2 ⟨rfl, hbc⟩
            have hcap2 := hcap2.below tv2.buf hbc
            have tv2 := tv2.below hbc
            have qB := heap_b qB hbc
            have sV2 := hbc.size
            refine hK.out _ _ (hHeld.trans (hbc.mono hHeld.size)) (fun hHeld => ?_)
            clear hK K hbc
            try simp only [Act.put, List.getElem_toArray, List.getElem_cons_zero, List.getElem_cons_succ, List.setIfInBounds_toArray, List.set_cons_zero, List.set_cons_succ]
            refine wpAnyH_ready (rs := [4]) (by kernel_rfl) (by simp) ?_
            refine AllReadyH.cons rfl (fun K hK => ?_) AllReadyH.nil
            go_simp
            refine (him _ _ _ _ tv2).mono ?_
            rintro e V3 ⟨m7, b7, r7, vb7, vr7, tag7, rfl, taX, hbc⟩
            obtain ⟨⟨xm7, ym7, rfl⟩, ⟨xb7, yb7, rfl⟩, ⟨xr7, yr7, rfl⟩⟩ := three_of (Ta.tv taX)
            have qB := heap_b qB hbc
            have sV3 := hbc.size
            refine hK.out _ _ (hHeld.trans (hbc.mono hHeld.size)) (fun hHeld => ?_)
            clear hK K hbc
            try simp only [Act.put, List.getElem_toArray, List.getElem_cons_zero, List.getElem_cons_succ, List.setIfInBounds_toArray, List.set_cons_zero, List.set_cons_succ]
            refine wpAnyH_take (i := 5) (v := .tuple #[.agg #[.slice xm7 d.zs.length ym7, .slice xb7 D yb7, .slice xr7 D yr7], .int .i64 K0]) rfl (by kernel_rfl) (by kernel_rfl) (by kernel_rfl) (fun _ _ _ h => h) (Or.inl ⟨by rfl, fun w' hSw => ?_⟩) (by assumption) ?_
            · (try dsimp only at hSw); skip; go_simp
            try simp only [Act.put, List.getElem_toArray, List.getElem_cons_zero, List.getElem_cons_succ, List.setIfInBounds_toArray, List.set_cons_zero, List.set_cons_succ]
            refine wpAnyH_take (i := 6) (v := .agg #[.slice xm7 d.zs.length ym7, .slice xb7 D yb7, .slice xr7 D yr7]) rfl (by kernel_rfl) (by kernel_rfl) (by kernel_rfl) (fun _ _ _ h => h) (Or.inl ⟨by rfl, fun w' hSw => ?_⟩) (by assumption) ?_
            · (try dsimp only at hSw); skip; go_simp
            try simp only [Act.put, List.getElem_toArray, List.getElem_cons_zero, List.getElem_cons_succ, List.setIfInBounds_toArray, List.set_cons_zero, List.set_cons_succ]
            refine wpAnyH_take (i := 7) (v := .int .i64 K0) rfl (by kernel_rfl) (by kernel_rfl) (by kernel_rfl) (fun _ _ _ h => h) (Or.inl ⟨by rfl, fun w' hSw => ?_⟩) (by assumption) ?_
            · (try dsimp only at hSw); skip; go_simp
            try simp only [Act.put, List.getElem_toArray, List.getElem_cons_zero, List.getElem_cons_succ, List.setIfInBounds_toArray, List.set_cons_zero, List.set_cons_succ]
            obtain ⟨tagX, hX⟩ := Bxd.early qB taX (by omega) (by omega) hHeld (by omega) HD.out
            have HX := hide hX
            clear hX taX
            obtain ⟨fz, c0, c1, c2⟩ := row3_facts qB
            refine wpAnyH_ready (rs := [9]) (by kernel_rfl) (by simp) ?_
            refine AllReadyH.cons rfl (fun K hK => ?_) AllReadyH.nil
            go_simp
            have hsX := HX.out.bel
            refine hK.out _ _ hsX (fun hHeld => ?_)
            clear hK K hsX fz c0 c1 c2
            try simp only [Act.put, List.getElem_toArray, List.getElem_cons_zero, List.getElem_cons_succ, List.setIfInBounds_toArray, List.set_cons_zero, List.set_cons_succ]
            refine wpAnyH_ready (rs := [10]) (by kernel_rfl) (by simp) ?_
            refine AllReadyH.cons rfl (fun K hK => ?_) AllReadyH.nil
            go_simp
            refine hK.out _ _ hHeld (fun hHeld => ?_)
            clear hK K
            try simp only [Act.put, List.getElem_toArray, List.getElem_cons_zero, List.getElem_cons_succ, List.setIfInBounds_toArray, List.set_cons_zero, List.set_cons_succ]
            refine wpAnyH_done (by kernel_rfl) ?_ _
            try go_wp2_with fail
            go_meet
            exact ⟨_, _, _, _, _, _, _, tagX, rfl, rfl, HX⟩
        · go_simp
          have hbA : Below V0.heap.size V0 (V0.alloc (.cells #[nil3, nil3, nil3] 26)) := (Below.refl _ _).alloc (Nat.le_refl _) _
          have qB : (V0.alloc (.cells #[nil3, nil3, nil3] 26)).heap[V0.heap.size]? = some (.cells #[nil3, nil3, nil3] 26 (0, 0)) := heap_alloc_new _ _
          have hH0 := hHeld
          refine hK.out _ _ (hHeld.trans (hbA.mono hHeld.size)) (fun hHeld => ?_)
          clear hK K
          try simp only [Act.put, List.getElem_toArray, List.getElem_cons_zero, List.getElem_cons_succ, List.setIfInBounds_toArray, List.set_cons_zero, List.set_cons_succ]
          obtain ⟨VA, hVA⟩ : ∃ VA, V0.alloc (.cells #[nil3, nil3, nil3] 26) = VA := ⟨_, rfl⟩
          rw [hVA] at hbA qB hHeld ⊢
          have lA := lt_of_block qB
          have sA := hH0.size
          refine wpAnyH_ready (rs := [1]) (by kernel_rfl) (by simp) ?_
          refine AllReadyH.cons rfl (fun K hK => ?_) AllReadyH.nil
          go_simp
          refine (hto _ _ _ _ (H6.out.2.2.2.1.below (hQg.trans (hHeld.mono hQg.size))) hl).mono ?_
          rintro e V1 ⟨m2, b2, r2, vb2, vr2, tag2, rfl, tv2, um2, hq2, hcap2, hbc⟩
          obtain ⟨⟨xm2, ym2, rfl⟩, ⟨xb2, yb2, rfl⟩, ⟨xr2, yr2, rfl⟩⟩ := three_of tv2
          clear um2 hq2
          have qB := heap_b qB hbc
          have sV1 := hbc.size
          refine hK.out _ _ (hHeld.trans (hbc.mono hHeld.size)) (fun hHeld => ?_)
          clear hK K hbc
          try simp only [Act.put, List.getElem_toArray, List.getElem_cons_zero, List.getElem_cons_succ, List.setIfInBounds_toArray, List.set_cons_zero, List.set_cons_succ]
          refine wpAnyH_ready (rs := [3]) (by kernel_rfl) (by simp) ?_
          refine AllReadyH.cons rfl (fun K hK => ?_) AllReadyH.nil
          go_simp
          refine (toBAct_any k co va vl rg _).mono ?_
          rintro e V2 ⟨rfl, hbc⟩
          have hcap2 := hcap2.below tv2.buf hbc
          have tv2 := tv2.below hbc
          have qB := heap_b qB hbc
          have sV2 := hbc.size
          refine hK.out _ _ (hHeld.trans (hbc.mono hHeld.size)) (fun hHeld => ?_)
          clear hK K hbc
          try simp only [Act.put, List.getElem_toArray, List.getElem_cons_zero, List.getElem_cons_succ, List.setIfInBounds_toArray, List.set_cons_zero, List.set_cons_succ]
          refine wpAnyH_ready (rs := [4]) (by kernel_rfl) (by simp) ?_
          refine AllReadyH.cons rfl (fun K hK => ?_) AllReadyH.nil
          go_simp
          refine (him _ _ _ _ tv2).mono ?_
          rintro e V3 ⟨m7, b7, r7, vb7, vr7, tag7, rfl, taX, hbc⟩
          obtain ⟨⟨xm7, ym7, rfl⟩, ⟨xb7, yb7, rfl⟩, ⟨xr7, yr7, rfl⟩⟩ := three_of (Ta.tv taX)
          have qB := heap_b qB hbc
          have sV3 := hbc.size
          refine hK.out _ _ (hHeld.trans (hbc.mono hHeld.size)) (fun hHeld => ?_)
          clear hK K hbc
          try simp only [Act.put, List.getElem_toArray, List.getElem_cons_zero, List.getElem_cons_succ, List.setIfInBounds_toArray, List.set_cons_zero, List.set_cons_succ]
          refine wpAnyH_take (i := 5) (v := .tuple #[.agg #[.slice xm7 d.zs.length ym7, .slice xb7 D yb7, .slice xr7 D yr7], .int .i64 K0]) rfl (by kernel_rfl) (by kernel_rfl) (by kernel_rfl) (fun _ _ _ h => h) (Or.inl ⟨by rfl, fun w' hSw => ?_⟩) (by assumption) ?_
          · (try dsimp only at hSw); skip; go_simp
          try simp only [Act.put, List.getElem_toArray, List.getElem_cons_zero, List.getElem_cons_succ, List.setIfInBounds_toArray, List.set_cons_zero, List.set_cons_succ]
          refine wpAnyH_take (i := 6) (v := .agg #[.slice xm7 d.zs.length ym7, .slice xb7 D yb7, .slice xr7 D yr7]) rfl (by kernel_rfl) (by kernel_rfl) (by kernel_rfl) (fun _ _ _ h => h) (Or.inl ⟨by rfl, fun w' hSw => ?_⟩) (by assumption) ?_
          · (try dsimp only at hSw); skip; go_simp
          try simp only [Act.put, List.getElem_toArray, List.getElem_cons_zero, List.getElem_cons_succ, List.setIfInBounds_toArray, List.set_cons_zero, List.set_cons_succ]
          refine wpAnyH_take (i := 7) (v := .int .i64 K0) rfl (by kernel_rfl) (by kernel_rfl) (by kernel_rfl) (fun _ _ _ h => h) (Or.inl ⟨by rfl, fun w' hSw => ?_⟩) (by assumption) ?_
          · (try dsimp only at hSw); skip; go_simp
          try simp only [Act.put, List.getElem_toArray, List.getElem_cons_zero, List.getElem_cons_succ, List.setIfInBounds_toArray, List.set_cons_zero, List.set_cons_succ]
          obtain ⟨tagX, hX⟩ := Bxd.early qB taX (by omega) (by omega) hHeld (by omega) HD.out
          have HX := hide hX
          clear hX taX
          obtain ⟨fz, c0, c1, c2⟩ := row3_facts qB
          refine wpAnyH_ready (rs := [9]) (by kernel_rfl) (by simp) ?_
          refine AllReadyH.cons rfl (fun K hK => ?_) AllReadyH.nil
          go_simp
          have hsX := HX.out.bel
          refine hK.out _ _ hsX (fun hHeld => ?_)
          clear hK K hsX fz c0 c1 c2
          try simp only [Act.put, List.getElem_toArray, List.getElem_cons_zero, List.getElem_cons_succ, List.setIfInBounds_toArray, List.set_cons_zero, List.set_cons_succ]
          refine wpAnyH_ready (rs := [10]) (by kernel_rfl) (by simp) ?_
          refine AllReadyH.cons rfl (fun K hK => ?_) AllReadyH.nil
          go_simp
          refine hK.out _ _ hHeld (fun hHeld => ?_)
          clear hK K
          try simp only [Act.put, List.getElem_toArray, List.getElem_cons_zero, List.getElem_cons_succ, List.setIfInBounds_toArray, List.set_cons_zero, List.set_cons_succ]
          refine wpAnyH_done (by kernel_rfl) ?_ _
          try go_wp2_with fail
          go_meet
          exact ⟨_, _, _, _, _, _, _, tagX, rfl, rfl, HX⟩
      case rest =>
        obtain ⟨W5, hW⟩ : ∃ W, W = wc := ⟨_, rfl⟩
        subst hW
        obtain ⟨B5, base5, m5, b5, r5, vb5, vr5, tag5, rfl, rfl, HX5⟩ := hcut
        obtain ⟨⟨xm5, ym5, rfl⟩, ⟨xb5, yb5, rfl⟩, ⟨xr5, yr5, rfl⟩⟩ := three_of (Ta.tv HX5.out.ta)
        obtain ⟨q5, t5, _, _, _, hR, _⟩ := HX5.out
        have T5 := Ta.tv t5
        clear HX5 t5
        have hQh := hQg.trans (hR.mono hQg.size)
        have t9h := t9g.below hR
        have q9h := heap_b q9g hR
        have q6h := heap_b q6g hR
        have qXh := heap_b qXg hR
        have qYh := heap_b qYg hR
        clear hQg t9g q9g q6g qXg qYg hR
        obtain ⟨_, c0, c1, c2⟩ := row3_facts q5
        obtain ⟨_, f0, f1, f2⟩ := row3_facts q6h
        go_wp2_with fail
        refine (eqTso_same _ _ _ _ _ _ d.zs D d.L d.F D d.Z _ T5 (H6.out.2.2.2.2.1.below hQh) HTL.out).mono ?_
        rintro e w21 ⟨rfl, hb21⟩
        have hQi := hQh.trans (hb21.mono hQh.size)
        have t9i := t9h.below hb21
        have q9i := heap_b q9h hb21
        have q6i := heap_b q6h hb21
        have qXi := heap_b qXh hb21
        have qYi := heap_b qYh hb21
        clear hQh t9h q9h q6h qXh qYh hb21
        clear c0 c1 c2 f0 f1 f2 T5 q5
        obtain ⟨_, c0, c1, c2⟩ := row3_facts q9i
        go_wp2_with fail
        refine (hhd _ _ _ _ _ _ _ _ t9i).mono ?_
        rintro e w22 ⟨rfl, hb22⟩
        have hE := H6.out.2.2.2.2.2.trans ((hQi.trans (hb22.mono hQi.size)).mono H6.out.2.2.2.2.2.size)
        clear hb22 hQi t9i q9i q6i qXi qYi c0 c1 c2
        go_wp2
        go_ret
        exact ⟨rfl, hE⟩

set_option maxRecDepth 100000 in
theorem lifted (os : Os) (started : os.Started) (H : Type) (enc : TypeId × Value → H) :
    ReturnsInHanded {} Try.checked os 5 .any (Rows.fnExactTsoDoSpec.pre6 enc Try.prog Try.f5 Rows.fnExactTsoDoRow.domain false) (Rows.fnExactTsoDoSpec.post enc Try.prog Try.f5 false true false false) := by
  refine returnsInHanded_of_change (C := Try.checked) own started (by kernel_rfl) Try.func5
    (ChangeSpec.witness6 (enc := enc) (C := Try.checked) false ⟨#[], #[.agg #[.slice none 0 0, .slice none 0 0, .slice none 0 0], .agg #[.int .i64 0, .int .i64 0, .int .i64 0, .int .i64 0, .int .i64 0]], []⟩ 8 (by kernel_rfl) (by kernel_rfl) (by kernel_rfl) (by kernel_rfl)) ?_
  intro W base args ds gs before hval0 hW hcnd _
  have hval : ∀ (j : Nat) t v, Try.f5.params[j]? = some t → args[j]? = some v → Value.okWide Try.prog W .any base t v := hval0
  have hW' := hW
  obtain ⟨p, q, hA0, hV, rfl, hfz, hnd⟩ := hW
  have hA : DataW.TrodAll enc Try.prog W 0 (fun _ => true) true Try.f5.params.toList args.toList ds p := hA0
  rw [Try.params5] at hA hval
  obtain ⟨v0, vs0, d0, ds0, p0, q0, hargs, rfl, rfl, h0, r0⟩ := trodAll_cons hA
  obtain ⟨v1, vs1, d1, ds1, p1, q1, rfl, rfl, rfl, h1, r1⟩ := trodAll_cons r0
  obtain ⟨rfl, rfl, rfl⟩ := trodAll_nil r1
  obtain rfl : args = #[v0, v1] := by cases args; simp_all
  obtain ⟨rfl, rfl⟩ := trodVars_none hV
  have k0 := h0
  have lt0 : ∀ x ∈ p0, x.block < W.heap.size := by obtain ⟨m, hm⟩ := k0; exact DataW.trod_lt m _ _ _ hm
  obtain ⟨mv0, bv0, rv0, zs0, C0, L0, F0, R0, Z0, rfl, ht0, hm0, ⟨hC0, hl0⟩, hr0, hz0⟩ := open_tso (hval 0 34 v0 rfl rfl) h0
  have k1 := h1
  have lt1 : ∀ x ∈ p1, x.block < W.heap.size := by obtain ⟨m, hm⟩ := k1; exact DataW.trod_lt m _ _ _ hm
  obtain ⟨a1_0, a1_1, a1_2, a1_3, a1_4, rfl⟩ := open_a (hval 1 41 v1 rfl rfl) h1
  clear hA0 hval0
  refine (walk mv0 bv0 rv0 zs0 C0 L0 F0 R0 Z0 a1_0 a1_1 a1_2 a1_3 a1_4 W ht0 (by unfold maxLen at hm0; omega) (by unfold maxLen at hC0; omega) (fun c hc => by have := hl0 c hc; unfold maxLen at this; omega) (by unfold maxLen at hr0; omega) (fun c hc => by have := hz0 c hc; unfold maxLen at this; omega)).mono fun e W' ⟨he, bel⟩ => ?_
  subst he
  exact ⟨_, rfl, _, _, _, [], _, [], hW', trodAll_mk1 (shut_bool Try.underlying4 _), (trodAll_cons_mk (Below.trod laidOut (by kernel_rfl) (of_decide_eq_true (by kernel_rfl)) k0 bel lt0) (trodAll_cons_mk (Below.trod laidOut (by kernel_rfl) (of_decide_eq_true (by kernel_rfl)) k1 bel lt1) trodAll_mk0)), rfl, bel.frame _, fun h => by cases h⟩

theorem over : Rows.fnExactTsoDoRow.holds Try.pinned (OpenSpec.ofChange Rows.fnExactTsoDoSpec) :=
  OpenClaim.holds_of_wide 5 Try.f5 rfl rfl rfl rfl rfl rfl rfl ⟨rfl, rfl, rfl, rfl, rfl⟩ rfl rfl rfl rfl rfl (by kernel_rfl) Try.func5 (by kernel_rfl)
    (of_decide_eq_true (by kernel_rfl)) (by unfold Func.isWrapper; first | (rw [if_pos (by decide +kernel)]; kernel_rfl) | (rw [if_neg (by decide +kernel)]; exact ⟨rfl, rfl⟩))
    (fun os started H enc _ => lifted os started H enc)

theorem proved : Rows.FnExactTsoDoSaid := over
end Go.Proofs.Ytolgdnakanokeaa.fnExactTsoDo

namespace Go.Proofs.Ytolgdnakanokeaa
theorem fnExactTsoDo_holds : Rows.FnExactTsoDoSaid := fnExactTsoDo.proved
end Go.Proofs.Ytolgdnakanokeaa
