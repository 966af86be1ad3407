/- the reader's Tso (written by mkDtC.py) -/
import Derived.Test.YtneofegnbflfiaaDtB
namespace Go.Proofs.Ytneofegnbflfiaa
open Go.RowKit
set_option linter.unusedVariables false
set_option linter.unusedSimpArgs false

/-- a Tso in a variable B, the answer's variable ahead of it (the world's first block), beside an elder reader g -/
structure Dt (w V : World) (g B base : Nat) (m b r : Value) (d : Td) (C : Nat) (vb vr : Nat → Value) (tag : Nat → Nat) : Prop where
  rd : Rdr V g
  gr : w.grownBy V (some g)
  res : V.heap[w.heap.size]? = some (.cells #[nil3, nil3, nil3] 28 (0, 0))
  box : V.heap[B]? = some (.cells #[m, b, r] 28 (0, 0))
  ta : TaD V base m b r d C vb vr tag
  cp : Cpd vb C
  off : B < base ∨ tag B = 100000
  lo : g < w.heap.size ∧ w.heap.size < B ∧ w.heap.size < base
theorem Dt.below {w V : World} {g B base : Nat} {m b r : Value} {d : Td} {C : Nat} {vb vr : Nat → Value} {tag : Nat → Nat} {V' : World} (h : Dt w V g B base m b r d C vb vr tag) (hb : Below V.heap.size V V') : Dt w V' g B base m b r d C vb vr tag :=
  ⟨h.rd.below hb, gr_young h.gr (grown_any (row := none) hb) (fun k hk => by cases hk), heap_b h.res hb, heap_b h.box hb, Ta.below h.ta hb, h.cp, h.off, h.lo⟩
theorem Dt.read {w V : World} {g B base : Nat} {m b r : Value} {d : Td} {C : Nat} {vb vr : Nat → Value} {tag : Nat → Nat} {V' : World} (h : Dt w V g B base m b r d C vb vr tag) (hr : Rdr V' g) (hg : V.grownBy V' (some g)) : Dt w V' g B base m b r d C vb vr tag := by
  obtain ⟨l1, l2, l3⟩ := h.lo
  exact ⟨hr, grown_trans h.gr hg, (hg.block _ (lt_of_block h.res) (by simp; omega)).trans h.res, (hg.block _ (lt_of_block h.box) (by simp; omega)).trans h.box, Ta.grown h.ta hg (fun k hk => by simp only [Option.some.injEq] at hk; omega), h.cp, h.off, h.lo⟩
/-- another Tso put into the variable -/
theorem Dt.put {w V : World} {g B base : Nat} {m b r : Value} {d : Td} {C : Nat} {vb vr : Nat → Value} {tag : Nat → Nat} {V' : World} {m' b' r' : Value} {d' : Td} {vb' vr' : Nat → Value} {tag' : Nat → Nat} (h : Dt w V g B base m b r d C vb vr tag) (ta : TaD V' V.heap.size m' b' r' d' C vb' vr' tag') (hb : Below V.heap.size V V') (hc : Cpd vb' C) :
    Dt w (((V'.setCell ⟨B, 0, none⟩ m').setCell ⟨B, 1, none⟩ b').setCell ⟨B, 2, none⟩ r') g B V.heap.size m' b' r' d' C vb' vr' tag' := by
  obtain ⟨l1, l2, l3⟩ := h.lo
  have h' := h.below hb
  have hlt := lt_of_block h.box
  have hlr := lt_of_block h.res
  have hgr : V'.grownBy (((V'.setCell ⟨B, 0, none⟩ m').setCell ⟨B, 1, none⟩ b').setCell ⟨B, 2, none⟩ r') (some B) := grown_trans (grown_trans (grown_set _ _ _ _) (grown_set _ _ _ _)) (grown_set _ _ _ _)
  refine ⟨h'.rd.grown hgr (fun k hk => by simp only [Option.some.injEq] at hk; omega), gr_young h'.gr hgr (fun k hk => by simp only [Option.some.injEq] at hk; omega), (hgr.block _ (lt_of_block h'.res) (by simp; omega)).trans h'.res, ?_, Ta.grown ta hgr (fun k hk => by simp only [Option.some.injEq] at hk; omega), hc, .inl hlt, ⟨l1, l2, by omega⟩⟩
  rw [heap_setCell_same _ _ 2 _ _ _ (heap_setCell_same _ _ 1 _ _ _ (heap_setCell_same _ _ 0 _ _ _ h'.box))]; rfl
/-- a cell of memory is another number -/
theorem Dt.poke {w V : World} {g B base : Nat} {b r : Value} {d : Td} {C : Nat} {vb vr : Nat → Value} {tag : Nat → Nat} {p o cap : Nat} (h : Dt w V g B base (.slice (some ⟨p, o, none⟩) d.zs.length cap) b r d C vb vr tag) (hz : 0 < d.zs.length) (z : Int) :
    Dt w (V.setCell ⟨p, o, none⟩ (.int .i64 z)) g B base (.slice (some ⟨p, o, none⟩) d.zs.length cap) b r ⟨d.zs.set 0 z, d.L, d.F, d.Z⟩ C vb vr tag := by
  obtain ⟨l1, l2, l3⟩ := h.lo
  obtain ⟨k1, k2, k3⟩ := h.ta.mb p o _ cap rfl hz
  have hgs := grown_set V p o (.int .i64 z)
  have hpB : B ≠ p := fun e => by rcases h.off with q | q
                                  · omega
                                  · rw [e, k3] at q; omega
  exact ⟨h.rd.grown hgs (fun k hk => by simp only [Option.some.injEq] at hk; omega), gr_young h.gr hgs (fun k hk => by simp only [Option.some.injEq] at hk; omega), (hgs.block _ (lt_of_block h.res) (by simp; omega)).trans h.res, (hgs.block _ (lt_of_block h.box) (by simpa using hpB)).trans h.box, Ta.setM (v := 0) h.ta hz, h.cp, h.off, h.lo⟩
theorem Dt.start {w w1 w2 : World} {g : Nat} {m b r : Value} {C : Nat} {vr : Nat → Value} {tag : Nat → Nat} (hr : Rdr w1 g) (hgl : g < w.heap.size) (hg : (w.alloc (.cells #[nil3, nil3, nil3] 28)).grownBy w1 (some g)) (ta : Ta w2 w1.heap.size m b r [0, 0, 0] C z0L z0F C z0Z z0V vr tag) (hb : Below w1.heap.size w1 w2) :
    ∃ tag', Dt w (w2.alloc (.cells #[m, b, r] 28)) g w2.heap.size w1.heap.size m b r nD C z0V vr tag' := by
  have hz := hg.size
  simp only [World.size_alloc] at hz
  have hA : Below w2.heap.size w2 (w2.alloc (.cells #[m, b, r] 28)) := (Below.refl _ _).alloc (Nat.le_refl _) _
  have hbA := hb.trans (hA.mono hb.size)
  have hs := hb.size
  have hres : w1.heap[w.heap.size]? = some (.cells #[nil3, nil3, nil3] 28 (0, 0)) := by
    rw [hg.block _ (by simp) (fun e => by simp at e; omega)]
    exact heap_alloc_new _ _
  refine ⟨fun g => if g < w2.heap.size then tag g else 100000, hr.below hbA, gr_young (grown_trans (grown_alloc _ _ _) hg) (grown_any (row := none) hbA) (fun k hk => by cases hk), heap_b hres hbA, heap_alloc_new _ _, (Ta.retag ta (fun g hg => if_pos hg)).below hA, fun c hc a n k e => ?_, .inr (if_neg (by omega)), ⟨hgl, by omega, by omega⟩⟩
  simp only [z0V, Value.slice.injEq] at e
  omega
theorem Dt.fin {w V : World} {g B base : Nat} {m b r : Value} {d : Td} {C : Nat} {vb vr : Nat → Value} {tag : Nat → Nat} (h : Dt w V g B base m b r d C vb vr tag) : TaD (((V.setCell ⟨w.heap.size, 0, none⟩ m).setCell ⟨w.heap.size, 1, none⟩ b).setCell ⟨w.heap.size, 2, none⟩ r) w.heap.size m b r d C vb vr tag ∧ Cpd vb C ∧ Rdr (((V.setCell ⟨w.heap.size, 0, none⟩ m).setCell ⟨w.heap.size, 1, none⟩ b).setCell ⟨w.heap.size, 2, none⟩ r) g ∧ w.grownBy (((V.setCell ⟨w.heap.size, 0, none⟩ m).setCell ⟨w.heap.size, 1, none⟩ b).setCell ⟨w.heap.size, 2, none⟩ r) (some g) := by
  obtain ⟨l1, l2, l3⟩ := h.lo
  have hgr : V.grownBy (((V.setCell ⟨w.heap.size, 0, none⟩ m).setCell ⟨w.heap.size, 1, none⟩ b).setCell ⟨w.heap.size, 2, none⟩ r) (some w.heap.size) := grown_trans (grown_trans (grown_set _ _ _ _) (grown_set _ _ _ _)) (grown_set _ _ _ _)
  exact ⟨(Ta.grown h.ta hgr (fun k hk => by simp only [Option.some.injEq] at hk; omega)).mono (by omega), h.cp, h.rd.grown hgr (fun k hk => by simp only [Option.some.injEq] at hk; omega), gr_young h.gr hgr (fun k hk => by simp only [Option.some.injEq] at hk; omega)⟩
theorem tok_small {d : Td} {C : Nat} (h : tokD d C = true) : Sml d C := by
  obtain ⟨h1, h2, h3, _, h5⟩ := tok_parts h
  exact ⟨by omega, by omega, fun c hc => by have := (h5 c hc).1; omega, fun c hc => by have := (h5 c hc).2.2.1; omega⟩
theorem Sml.poke {d : Td} {C : Nat} (h : Sml d C) (z : Int) : Sml ⟨d.zs.set 0 z, d.L, d.F, d.Z⟩ C := ⟨by show (d.zs.set 0 z).length ≤ _; rw [List.length_set]; exact h.zs, h.c, h.l, h.z⟩

set_option maxHeartbeats 8000000 in
set_option maxRecDepth 20000 in
theorem tso_any (g : Nat) (most : Int) (w : World) (h : Rdr w g) (hm0 : 0 ≤ most) (hm1 : most ≤ 1000) : Calls Try.prog 46 #[.pointer (some ⟨g, 0, none⟩), .int .i64 most] w fun e w' => ∃ m b r d C vb vr tag, e = .returned (.agg #[m, b, r]) ∧ TaD w' w.heap.size m b r d C vb vr tag ∧ Cpd vb C ∧ Sml d C ∧ Rdr w' g ∧ w.grownBy w' (some g) := by
  have hgl := h.lt
  have hmw : wrap64 (most + 1) = most + 1 := Go.IntWalk.wrap64_in _ (by omega)
  go_enter Try.func46, Try.ntmps46
  go_wp2_with fail
  refine (below_any g 2 _ (h.grown (grown_alloc _ _ none) (fun k hk => by cases hk)) (by decide) (by decide)).mono ?_
  rintro e w1 ⟨c, rfl, hc0, hc1, hr1, hg1⟩
  have hwc : wrap64 (2 + c) = 2 + c := Go.IntWalk.wrap64_in _ (by omega)
  obtain ⟨C, hC⟩ : ∃ C : Nat, 2 + c = C := ⟨(2 + c).toNat, by omega⟩
  have hnew : ∀ W, Calls Try.prog 44 #[.int .i64 C] W (NPost W [0, 0, 0] C true) := fun W => specNewT_yes C (by omega) (by omega) W
  have HT0 := hide (nD_tok C (by omega) (by omega))
  go_wp2_with fail
  refine (hnew _).mono ?_
  rintro e w2 ⟨m, b, r, vr, tag, rfl, ta, hb2⟩
  obtain ⟨xm, ym, xb, yb, xr, yr, rfl, rfl, rfl⟩ := Ta.three (n := 3) ta rfl
  obtain ⟨tag1, hD⟩ := Dt.start hr1 hgl hg1 ta hb2
  clear ta hb2 hr1 hg1 hnew h hwc hc0 hc1
  go_wp2_with fail
  refine (below_any g (most + 1) _ hD.rd (by omega) (by omega)).mono ?_
  rintro e w3 ⟨i, rfl, hi0, hi1, hr3, hg3⟩
  have HD : Hid (Dt w w3 g w2.heap.size w1.heap.size (.slice xm 3 ym) (.slice xb C yb) (.slice xr C yr) nD C z0V vr tag1 ∧ tokD nD C = true) := hide ⟨hD.read hr3 hg3, HT0.out⟩
  obtain ⟨n, rfl⟩ : ∃ n : Nat, i = n := ⟨i.toNat, by omega⟩
  generalize w2.heap.size = B at *
  clear hD hr3 hg3 hmw hi0
  go_wp2
  go_loopw [7] (fun i wr => ∃ (n : Nat) (m b r : Value) (d : Td) (vb vr : Nat → Value) (tag : Nat → Nat) (base : Nat), n ≤ 1000 ∧ i = .int .i64 n ∧ Hid (Dt w wr g B base m b r d C vb vr tag ∧ tokD d C = true)) (fun i _ => (intOf i).toNat)
  case atStart => exact ⟨n, _, _, _, _, _, _, _, _, by omega, rfl, HD⟩
  case round =>
    clear HD
    obtain ⟨n, m, b, r, d, vb, vr, tag, base, hn, rfl, HD⟩ := hrel
    have hz3 : d.zs.length = 3 := (tok_parts HD.out.2).2.2.1
    obtain ⟨ma, mc, ba, bc, ra, rc, rfl, rfl, rfl⟩ := Ta.three (n := 3) HD.out.1.ta hz3
    by_cases hlt : 0 < n
    · have hpos : (0 : Int) < (n : Int) := by omega
      have hkw : wrap64 ((n : Int) - 1) = ((n - 1 : Nat) : Int) := by rw [Go.IntWalk.wrap64_in _ (by omega)]; omega
      have D1 := HD.out.1.below ((Below.refl _ _).drew)
      have hbx := D1.box
      go_wp2
      refine wp_region_held_drew (S := fun _ => True) (by kernel_rfl) trivial (fun hHeld => ?_)
      refine wpAnyH_take (i := 1) (v := .pointer (some ⟨g, 0, none⟩)) rfl (by kernel_rfl) (by kernel_rfl) (by kernel_rfl) (fun _ _ _ h => h) (Or.inl ⟨by rfl, fun w' hSw => ?_⟩) (by assumption) ?_
      · (try dsimp only at hSw); skip; go_simp
      try simp only [Act.put, List.getElem_toArray, List.getElem_cons_zero, List.getElem_cons_succ, List.setIfInBounds_toArray, List.set_cons_zero, List.set_cons_succ]
      refine wpAnyH_ready (rs := [0, 2]) (by kernel_rfl) (by simp) ?_
      refine AllReadyH.cons rfl (fun K hK => ?_) (AllReadyH.cons rfl (fun K hK => ?_) AllReadyH.nil)
      · obtain ⟨_, z0, z1, z2⟩ := row3_facts D1.box
        go_simp
        refine hK.out _ _ trivial (fun hHeld => ?_)
        clear hK K z0 z1 z2
        try simp only [Act.put, List.getElem_toArray, List.getElem_cons_zero, List.getElem_cons_succ, List.setIfInBounds_toArray, List.set_cons_zero, List.set_cons_succ]
        refine wpAnyH_ready (rs := [2]) (by kernel_rfl) (by simp) ?_
        refine AllReadyH.cons rfl (fun K hK => ?_) AllReadyH.nil
        go_simp
        refine (bact_any g _ D1.rd).mono ?_
        rintro e V2 ⟨a1, a2, a3, a4, a5, rfl, hr2, hg2⟩
        have D2 := D1.read hr2 hg2
        clear hr2 hg2 D1 hbx
        refine hK.out _ _ trivial (fun hHeld => ?_)
        clear hK K
        try simp only [Act.put, List.getElem_toArray, List.getElem_cons_zero, List.getElem_cons_succ, List.setIfInBounds_toArray, List.set_cons_zero, List.set_cons_succ]
        refine wpAnyH_ready (rs := [3]) (by kernel_rfl) (by simp) ?_
        refine AllReadyH.cons rfl (fun K hK => ?_) AllReadyH.nil
        go_simp
        refine (specTsoDo_cap _ _ _ d C a1 a2 a3 a4 a5 _ (Ta.tv D2.ta) HD.out.2 (Bcap.of D2.ta.bs D2.cp)).mono ?_
        rintro e V3 ⟨m2, b2, r2, vb2, vr2, tag2, rfl, ta3, hb3, hcp3⟩
        have HK3 := hide (nxt_tok (k := a1) (co := a2) (va := a3) (vl := a4) (rg := a5) HD.out.2)
        obtain ⟨ma2, mc2, ba2, bc2, ra2, rc2, rfl, rfl, rfl⟩ := Ta.three (n := 3) ta3 ((tok_parts HK3.out).2.2.1)
        have D3 := D2.below hb3
        have hbx3 := D3.box
        have HP := hide (And.intro (D2.put ta3 hb3 hcp3) HK3.out)
        generalize hco : okc d C a1 a2 a3 a4 a5 = code
        clear hco ta3 hb3 hcp3 D2 D3 HK3 HD
        refine hK.out _ _ trivial (fun hHeld => ?_)
        clear hK K
        try simp only [Act.put, List.getElem_toArray, List.getElem_cons_zero, List.getElem_cons_succ, List.setIfInBounds_toArray, List.set_cons_zero, List.set_cons_succ]
        refine wpAnyH_take (i := 4) (v := .tuple #[.agg #[.slice ma2 3 mc2, .slice ba2 C bc2, .slice ra2 C rc2], .int .i64 code]) rfl (by kernel_rfl) (by kernel_rfl) (by kernel_rfl) (fun _ _ _ h => h) (Or.inl ⟨by rfl, fun w' hSw => ?_⟩) (by assumption) ?_
        · (try dsimp only at hSw); skip; go_simp
        try simp only [Act.put, List.getElem_toArray, List.getElem_cons_zero, List.getElem_cons_succ, List.setIfInBounds_toArray, List.set_cons_zero, List.set_cons_succ]
        refine wpAnyH_take (i := 5) (v := .agg #[.slice ma2 3 mc2, .slice ba2 C bc2, .slice ra2 C rc2]) rfl (by kernel_rfl) (by kernel_rfl) (by kernel_rfl) (fun _ _ _ h => h) (Or.inl ⟨by rfl, fun w' hSw => ?_⟩) (by assumption) ?_
        · (try dsimp only at hSw); skip; go_simp
        try simp only [Act.put, List.getElem_toArray, List.getElem_cons_zero, List.getElem_cons_succ, List.setIfInBounds_toArray, List.set_cons_zero, List.set_cons_succ]
        refine wpAnyH_take (i := 6) (v := .int .i64 code) rfl (by kernel_rfl) (by kernel_rfl) (by kernel_rfl) (fun _ _ _ h => h) (Or.inl ⟨by rfl, fun w' hSw => ?_⟩) (by assumption) ?_
        · (try dsimp only at hSw); skip; go_simp
        try simp only [Act.put, List.getElem_toArray, List.getElem_cons_zero, List.getElem_cons_succ, List.setIfInBounds_toArray, List.set_cons_zero, List.set_cons_succ]
        obtain ⟨fz, z0, z1, z2⟩ := row3_facts hbx3
        refine wpAnyH_ready (rs := [7]) (by kernel_rfl) (by simp) ?_
        refine AllReadyH.cons rfl (fun K hK => ?_) AllReadyH.nil
        go_simp
        refine hK.out _ _ trivial (fun hHeld => ?_)
        clear hK K hHeld hbx3 fz z0 z1 z2
        try simp only [Act.put, List.getElem_toArray, List.getElem_cons_zero, List.getElem_cons_succ, List.setIfInBounds_toArray, List.set_cons_zero, List.set_cons_succ]
        refine wpAnyH_done (by kernel_rfl) ?_ _
        go_wp2
        go_roundw
        case rel => exact ⟨n - 1, _, _, _, _, _, _, _, _, by omega, by first | rfl | go_num | (rw [hkw]), HP⟩
        case measure =>
          (try simp only [hkw])
          simp [intOf]
          omega
      · go_simp
        refine (bact_any g _ D1.rd).mono ?_
        rintro e V2 ⟨a1, a2, a3, a4, a5, rfl, hr2, hg2⟩
        have D2 := D1.read hr2 hg2
        clear hr2 hg2 D1 hbx
        refine hK.out _ _ trivial (fun hHeld => ?_)
        clear hK K
        try simp only [Act.put, List.getElem_toArray, List.getElem_cons_zero, List.getElem_cons_succ, List.setIfInBounds_toArray, List.set_cons_zero, List.set_cons_succ]
        refine wpAnyH_ready (rs := [0]) (by kernel_rfl) (by simp) ?_
        refine AllReadyH.cons rfl (fun K hK => ?_) AllReadyH.nil
        obtain ⟨_, z0, z1, z2⟩ := row3_facts D2.box
        go_simp
        refine hK.out _ _ trivial (fun hHeld => ?_)
        clear hK K z0 z1 z2
        try simp only [Act.put, List.getElem_toArray, List.getElem_cons_zero, List.getElem_cons_succ, List.setIfInBounds_toArray, List.set_cons_zero, List.set_cons_succ]
        refine wpAnyH_ready (rs := [3]) (by kernel_rfl) (by simp) ?_
        refine AllReadyH.cons rfl (fun K hK => ?_) AllReadyH.nil
        go_simp
        refine (specTsoDo_cap _ _ _ d C a1 a2 a3 a4 a5 _ (Ta.tv D2.ta) HD.out.2 (Bcap.of D2.ta.bs D2.cp)).mono ?_
        rintro e V3 ⟨m2, b2, r2, vb2, vr2, tag2, rfl, ta3, hb3, hcp3⟩
        have HK3 := hide (nxt_tok (k := a1) (co := a2) (va := a3) (vl := a4) (rg := a5) HD.out.2)
        obtain ⟨ma2, mc2, ba2, bc2, ra2, rc2, rfl, rfl, rfl⟩ := Ta.three (n := 3) ta3 ((tok_parts HK3.out).2.2.1)
        have D3 := D2.below hb3
        have hbx3 := D3.box
        have HP := hide (And.intro (D2.put ta3 hb3 hcp3) HK3.out)
        generalize hco : okc d C a1 a2 a3 a4 a5 = code
        clear hco ta3 hb3 hcp3 D2 D3 HK3 HD
        refine hK.out _ _ trivial (fun hHeld => ?_)
        clear hK K
        try simp only [Act.put, List.getElem_toArray, List.getElem_cons_zero, List.getElem_cons_succ, List.setIfInBounds_toArray, List.set_cons_zero, List.set_cons_succ]
        refine wpAnyH_take (i := 4) (v := .tuple #[.agg #[.slice ma2 3 mc2, .slice ba2 C bc2, .slice ra2 C rc2], .int .i64 code]) rfl (by kernel_rfl) (by kernel_rfl) (by kernel_rfl) (fun _ _ _ h => h) (Or.inl ⟨by rfl, fun w' hSw => ?_⟩) (by assumption) ?_
        · (try dsimp only at hSw); skip; go_simp
        try simp only [Act.put, List.getElem_toArray, List.getElem_cons_zero, List.getElem_cons_succ, List.setIfInBounds_toArray, List.set_cons_zero, List.set_cons_succ]
        refine wpAnyH_take (i := 5) (v := .agg #[.slice ma2 3 mc2, .slice ba2 C bc2, .slice ra2 C rc2]) rfl (by kernel_rfl) (by kernel_rfl) (by kernel_rfl) (fun _ _ _ h => h) (Or.inl ⟨by rfl, fun w' hSw => ?_⟩) (by assumption) ?_
        · (try dsimp only at hSw); skip; go_simp
        try simp only [Act.put, List.getElem_toArray, List.getElem_cons_zero, List.getElem_cons_succ, List.setIfInBounds_toArray, List.set_cons_zero, List.set_cons_succ]
        refine wpAnyH_take (i := 6) (v := .int .i64 code) rfl (by kernel_rfl) (by kernel_rfl) (by kernel_rfl) (fun _ _ _ h => h) (Or.inl ⟨by rfl, fun w' hSw => ?_⟩) (by assumption) ?_
        · (try dsimp only at hSw); skip; go_simp
        try simp only [Act.put, List.getElem_toArray, List.getElem_cons_zero, List.getElem_cons_succ, List.setIfInBounds_toArray, List.set_cons_zero, List.set_cons_succ]
        obtain ⟨fz, z0, z1, z2⟩ := row3_facts hbx3
        refine wpAnyH_ready (rs := [7]) (by kernel_rfl) (by simp) ?_
        refine AllReadyH.cons rfl (fun K hK => ?_) AllReadyH.nil
        go_simp
        refine hK.out _ _ trivial (fun hHeld => ?_)
        clear hK K hHeld hbx3 fz z0 z1 z2
        try simp only [Act.put, List.getElem_toArray, List.getElem_cons_zero, List.getElem_cons_succ, List.setIfInBounds_toArray, List.set_cons_zero, List.set_cons_succ]
        refine wpAnyH_done (by kernel_rfl) ?_ _
        go_wp2
        go_roundw
        case rel => exact ⟨n - 1, _, _, _, _, _, _, _, _, by omega, by first | rfl | go_num | (rw [hkw]), HP⟩
        case measure =>
          (try simp only [hkw])
          simp [intOf]
          omega
    · have e : n = 0 := by omega
      subst e
      go_wp2_with fail
      refine (once_any g 30 _ HD.out.1.rd (by decide) (by decide)).mono ?_
      rintro e V2 ⟨t, rfl, hr2, hg2⟩
      have D2 := HD.out.1.read hr2 hg2
      have HS := hide (tok_small HD.out.2)
      clear hr2 hg2 HD
      cases t with
      | false =>
        obtain ⟨_, x0, x1, x2⟩ := row3_facts D2.box
        obtain ⟨fr, r0, r1, r2⟩ := row3_facts D2.res
        have hne : ¬ w.heap.size = B := by have := D2.lo; omega
        have HF := hide D2.fin
        clear D2
        go_wp2
        refine bodyPost_ret (v := .agg #[.slice ma 3 mc, .slice ba C bc, .slice ra C rc]) (by simp [results, Try.results46, go_sem, r0, r1, r2]) rfl ⟨_, _, _, d, C, vb, vr, tag, rfl, HF.out.1, HF.out.2.1, HS.out, HF.out.2.2.1, HF.out.2.2.2⟩
      | true =>
        obtain ⟨p, po, pc, em, k1, k2, k3, hcell⟩ := D2.ta.memAt (by omega)
        rw [hz3] at em
        simp only [Value.slice.injEq, true_and] at em
        obtain ⟨rfl, rfl⟩ := em
        have D3 := D2.below ((Below.refl _ _).drew)
        have hbx := D3.box
        clear hcell k2
        go_wp2
        refine wp_region_held_drew (S := fun W' => W'.heap[B]? = some (.cells #[.slice (some ⟨p, po, none⟩) 3 mc, .slice ba C bc, .slice ra C rc] 28 (0, 0))) (by kernel_rfl) hbx (fun hHeld => ?_)
        refine wpAnyH_take (i := 0) (v := .pointer (some ⟨B, 0, none⟩)) rfl (by kernel_rfl) (by kernel_rfl) (by kernel_rfl) (fun _ _ _ h => h) (Or.inl ⟨by rfl, fun w' hSw => ?_⟩) (by assumption) ?_
        · (try dsimp only at hSw); obtain ⟨_, z0, z1, z2⟩ := row3_facts hSw; go_simp
        try simp only [Act.put, List.getElem_toArray, List.getElem_cons_zero, List.getElem_cons_succ, List.setIfInBounds_toArray, List.set_cons_zero, List.set_cons_succ]
        refine wpAnyH_take (i := 1) (v := .slice (some ⟨p, po, none⟩) 3 mc) rfl (by kernel_rfl) (by kernel_rfl) (by kernel_rfl) (fun _ _ _ h => h) (Or.inl ⟨by rfl, fun w' hSw => ?_⟩) (by assumption) ?_
        · (try dsimp only at hSw); obtain ⟨_, z0, z1, z2⟩ := row3_facts hSw; go_simp
        try simp only [Act.put, List.getElem_toArray, List.getElem_cons_zero, List.getElem_cons_succ, List.setIfInBounds_toArray, List.set_cons_zero, List.set_cons_succ]
        refine wpAnyH_take (i := 2) (v := .pointer (some ⟨g, 0, none⟩)) rfl (by kernel_rfl) (by kernel_rfl) (by kernel_rfl) (fun _ _ _ h => h) (Or.inl ⟨by rfl, fun w' hSw => ?_⟩) (by assumption) ?_
        · (try dsimp only at hSw); skip; go_simp
        try simp only [Act.put, List.getElem_toArray, List.getElem_cons_zero, List.getElem_cons_succ, List.setIfInBounds_toArray, List.set_cons_zero, List.set_cons_succ]
        refine wpAnyH_ready (rs := [3]) (by kernel_rfl) (by simp) ?_
        refine AllReadyH.cons rfl (fun K hK => ?_) AllReadyH.nil
        go_simp
        refine (off_any g 0 9 _ D3.rd (by decide) (by decide) (by decide)).mono ?_
        rintro e V4 ⟨z, rfl, hr4, hg4⟩
        have D4 := D3.read hr4 hg4
        clear hr4 hg4 D3 hbx
        refine hK.out _ _ D4.box (fun hHeld => ?_)
        clear hK K
        try simp only [Act.put, List.getElem_toArray, List.getElem_cons_zero, List.getElem_cons_succ, List.setIfInBounds_toArray, List.set_cons_zero, List.set_cons_succ]
        refine wpAnyH_take (i := 4) (v := .pointer (some ⟨p, po, none⟩)) rfl (by kernel_rfl) (by kernel_rfl) (by kernel_rfl) (fun _ _ _ h => h) (Or.inl ⟨by rfl, fun w' hSw => ?_⟩) (by assumption) ?_
        · (try dsimp only at hSw); obtain ⟨_, z0, z1, z2⟩ := row3_facts hSw; go_simp
        try simp only [Act.put, List.getElem_toArray, List.getElem_cons_zero, List.getElem_cons_succ, List.setIfInBounds_toArray, List.set_cons_zero, List.set_cons_succ]
        have D4z : Dt w V4 g B base (.slice (some ⟨p, po, none⟩) d.zs.length mc) (.slice ba C bc) (.slice ra C rc) d C vb vr tag := by rw [hz3]; exact D4
        have D5 := D4z.poke (by omega) z
        rw [hz3] at D5
        obtain ⟨_, k2, _⟩ := D4.ta.mb p po _ mc rfl (by omega)
        have fz := k2.facts.1 po
        obtain ⟨ov, hov⟩ := k2.facts.2 po (by omega)
        have HS5 := hide (HS.out.poke z)
        have hb5 := D5.box
        refine wpAnyH_ready (rs := [5]) (by kernel_rfl) (by simp) ?_
        refine AllReadyH.cons rfl (fun K hK => ?_) AllReadyH.nil
        go_simp
        refine hK.out _ _ hb5 (fun hHeld => ?_)
        clear hK K
        try simp only [Act.put, List.getElem_toArray, List.getElem_cons_zero, List.getElem_cons_succ, List.setIfInBounds_toArray, List.set_cons_zero, List.set_cons_succ]
        refine wpAnyH_done (by kernel_rfl) ?_ _
        obtain ⟨_, x0, x1, x2⟩ := row3_facts D5.box
        obtain ⟨fr, r0, r1, r2⟩ := row3_facts D5.res
        have hne : ¬ w.heap.size = B := by have := D5.lo; omega
        have HF := hide D5.fin
        clear D5 D4 D4z D2 fz hov hb5 k2
        generalize hV5 : V4.setCell ⟨p, po, none⟩ (.int .i64 z) = V5 at *
        go_wp2
        refine bodyPost_ret (v := .agg #[.slice (some ⟨p, po, none⟩) 3 mc, .slice ba C bc, .slice ra C rc]) (by simp [results, Try.results46, go_sem, r0, r1, r2]) rfl ⟨_, _, _, _, C, vb, vr, tag, rfl, HF.out.1, HF.out.2.1, HS5.out, HF.out.2.2.1, HF.out.2.2.2⟩

end Go.Proofs.Ytneofegnbflfiaa
