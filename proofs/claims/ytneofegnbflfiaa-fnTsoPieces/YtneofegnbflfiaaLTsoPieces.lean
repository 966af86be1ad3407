/- Proved: for every code, laws.FnTsoPieces returns true. No condition. -/
import Derived.Test.YtneofegnbflfiaaRows
import Derived.Test.YtneofegnbflfiaaPyX
import Derived.WalkKit
import Derived.ProofKit
import Derived.OpenShut
import Derived.ShutString
import Derived.ChangeOld
import Derived.Below
import Derived.OpenVars
namespace Go.Proofs.Ytneofegnbflfiaa.fnTsoPieces
open Go.ChangeShapes Go.WideShapes Go.ChangeAt Go.WideMaps Go.WideElems Go.RowKit
set_option linter.unusedVariables false
set_option linter.unusedSimpArgs false

theorem own : ownKnob Try.prog.godebug = none := by kernel_rfl
theorem laidOut : laidOutB Try.prog = true := by kernel_rfl

def IsRow (k : IntKind) (w : World) (a : Option Addr) (len cap : Nat) (zs : List Int) : Prop :=
  (a = none ∧ len = 0 ∧ cap = 0 ∧ zs = []) ∨
  ∃ x, a = some x ∧ len ≤ cap ∧ cap ≤ maxLen ∧ zs.length = cap ∧ (∀ i, i < zs.length → w.cell? (x.add i) = some (.int k (zs.getD i 0))) ∧ ∀ n ∈ zs, (Lit.int k n).wf = true

theorem row_bt {w : World} {a : Option Addr} {len cap : Nat} {z : List Int} (h : IsRow .u8 w a len cap z) : Bt w a len := by
  intro h0
  rcases h with ⟨rfl, rfl, rfl, rfl⟩ | ⟨x, rfl, hl, hm, hz, hcell, hwf⟩
  · exact absurd h0 (by simp)
  · obtain ⟨b, off, spot⟩ := x
    have hc := hcell 0 (by omega)
    have hspot : spot = none := by simpa [Addr.add] using World.cell?_spot hc
    subst hspot
    refine ⟨b, off, rfl, fun j hj => ?_⟩
    have hcj := hcell j (by omega)
    rw [addr_add] at hcj
    have hj' : j < z.length := by omega
    have e : z.getD j 0 = z[j] := by simp [hj']
    have hw := bounds_u8 (hwf z[j] (List.getElem_mem hj'))
    exact ⟨z.getD j 0, by rw [e]; exact hw.1, by rw [e]; exact hw.2, hcj⟩

set_option maxHeartbeats 16000000 in
set_option maxRecDepth 20000 in
theorem walk (a0 : Option Addr) (len0 cap0 : Nat) (w : World) (hs : Bt w a0 len0) :
    Calls Try.prog 10 #[.slice a0 len0 cap0] w fun e w' => e = .returned (.bool true) ∧ Below w.heap.size w w' := by
  by_cases hbig : (1048576 : Int) < (len0 : Int)
  · go_enter Try.func10, Try.ntmps10
    go_wp2
    go_ret
    exact ⟨rfl, Below.refl _ _⟩
  have hb : len0 ≤ 1048576 := by omega
  go_enter Try.func10, Try.ntmps10
  go_wp2_with (first | (go_at_call 13; go_in) | fail)
  refine (drawTsoPlay_any a0 len0 cap0 _ hs hb).mono ?_
  rintro e w1 ⟨m, b, r, d, C, vb, vr, tag, lp, ln, lc, f, rfl, ta, hcp, hsm, hsr, hln, hb1⟩
  obtain ⟨xm, ym, xb, yb, xr, yr, rfl, rfl, rfl⟩ := Ta.three (n := d.zs.length) ta rfl
  obtain ⟨X1, hA1⟩ := Bq.new (d := d) (Ta.tv ta)
  have HB1 := hide (hb1.trans (hA1.mono hb1.size))
  have SR1 := Sr.below hsr hA1
  clear hs hb1 hA1 ta hcp hb hsr
  cases ht : tokD d C
  · have hI := fun W h hl => implPlay_no (.slice xm d.zs.length ym) (.slice xb C yb) (.slice xr C yr) d C (some ⟨lp, 0, none⟩) ln lc f W ht (by omega) h hl
    have hS := fun W h hl => specPlay_no (.slice xm d.zs.length ym) (.slice xb C yb) (.slice xr C yr) d C (some ⟨lp, 0, none⟩) ln lc f W ht (by omega) h hl
    obtain ⟨_, x0, x1, x2⟩ := row3_facts X1.box
    go_wp2_with fail
    refine (hI _ X1.tv SR1).mono ?_
    rintro e w2 ⟨rfl, hb2⟩
    obtain ⟨N2, hA2⟩ := Bq.new (d := zD) (C := 0) (Ta.tv (nil_ta w2 0))
    have hc2 := hb2.trans (hA2.mono hb2.size)
    have X2 := X1.below hc2
    have SR2 := Sr.below SR1 hc2
    have HB2 := hide (HB1.out.trans (hc2.mono HB1.out.size))
    clear hb2 hA2 hc2 X1 HB1 x0 x1 x2 SR1 hI
    obtain ⟨_, x0, x1, x2⟩ := row3_facts X2.box
    go_wp2_with fail
    refine (hS _ X2.tv SR2).mono ?_
    rintro e w3 ⟨rfl, hb3⟩
    obtain ⟨P3, hA3⟩ := Bq.new (d := zD) (C := 0) (Ta.tv (nil_ta w3 0))
    have hc3 := hb3.trans (hA3.mono hb3.size)
    have X3 := X2.below hc3
    have N3 := N2.below hc3
    have HB3 := hide (HB2.out.trans (hc3.mono HB2.out.size))
    clear hb3 hA3 hc3 X2 N2 HB2 x0 x1 x2 SR2 hS
    go_wp2_with fail
    refine (sameInts_same _ _ [] _ (sl_nil _) (sl_nil _) (by decide)).mono ?_
    rintro e w4 ⟨rfl, hbb⟩
    have X4 := X3.below hbb
    have N4 := N3.below hbb
    have P4 := P3.below hbb
    have HB4 := hide (HB3.out.trans (hbb.mono HB3.out.size))
    clear hbb X3 N3 P3 HB3
    obtain ⟨_, x0, x1, x2⟩ := row3_facts N4.box
    obtain ⟨_, z0, z1, z2⟩ := row3_facts P4.box
    go_wp2_with fail
    refine (sameTso_same _ _ _ _ _ _ zD.zs 0 zD.L zD.F 0 zD.Z _ N4.tv P4.tv tl_zD).mono ?_
    rintro e w5 ⟨rfl, hbb⟩
    have X5 := X4.below hbb
    have N5 := N4.below hbb
    have P5 := P4.below hbb
    have HB5 := hide (HB4.out.trans (hbb.mono HB4.out.size))
    clear hbb X4 N4 P4 HB4 x0 x1 x2 z0 z1 z2
    have hok := fun W h => specTsoOk_any (.slice xm d.zs.length ym) (.slice xb C yb) (.slice xr C yr) d.zs C d.L d.F C d.Z W h
    rw [show tokB d.zs C d.L d.F C d.Z = false from ht] at hok
    obtain ⟨_, x0, x1, x2⟩ := row3_facts X5.box
    go_wp2_with fail
    refine (hok _ X5.tv).mono ?_
    rintro e w6 ⟨rfl, hbb⟩
    have N6 := N5.below hbb
    have P6 := P5.below hbb
    have HB6 := hide (HB5.out.trans (hbb.mono HB5.out.size))
    clear hbb X5 N5 P5 HB5 x0 x1 x2 hok
    go_wp2_with fail
    refine (sameInts_same _ _ [] _ (sl_nil _) (sl_nil _) (by decide)).mono ?_
    rintro e w7 ⟨rfl, hbb⟩
    have N7 := N6.below hbb
    have P7 := P6.below hbb
    have HB7 := hide (HB6.out.trans (hbb.mono HB6.out.size))
    clear hbb N6 P6 HB6
    obtain ⟨_, x0, x1, x2⟩ := row3_facts N7.box
    obtain ⟨_, z0, z1, z2⟩ := row3_facts P7.box
    go_wp2_with fail
    refine (sameTso_same _ _ _ _ _ _ zD.zs 0 zD.L zD.F 0 zD.Z _ N7.tv P7.tv tl_zD).mono ?_
    rintro e w8 ⟨rfl, hbb⟩
    have HB8 := hide (HB7.out.trans (hbb.mono HB7.out.size))
    clear hbb HB7 x0 x1 x2 z0 z1 z2
    go_wp2
    go_ret
    exact ⟨rfl, HB8.out⟩
  · have hI := fun W h hl => implPlay_yes (.slice xm d.zs.length ym) (.slice xb C yb) (.slice xr C yr) d C (some ⟨lp, 0, none⟩) ln lc f W ht (by omega) h hl
    have hS := fun W h hl => specPlay_yes (.slice xm d.zs.length ym) (.slice xb C yb) (.slice xr C yr) d C (some ⟨lp, 0, none⟩) ln lc f W ht (by omega) h hl
    have HTL := hide (pl_small (pl_tok (f := f) ht ln))
    have HPL := hide (pcs_len d C f ln)
    obtain ⟨_, x0, x1, x2⟩ := row3_facts X1.box
    go_wp2_with fail
    refine (hI _ X1.tv SR1).mono ?_
    rintro e w2 ⟨m2, b2, r2, vb2, vr2, tag2, cv2, rfl, ta2, ow2, hb2⟩
    obtain ⟨xm2, ym2, xb2, yb2, xr2, yr2, rfl, rfl, rfl⟩ := Ta.three (n := (pl d C f ln).zs.length) ta2 rfl
    obtain ⟨N2, hA2⟩ := Bq.new (d := pl d C f ln) (C := C) (Ta.tv ta2)
    have S2 := (Ow.sl ow2).below hA2
    have hc2 := hb2.trans (hA2.mono hb2.size)
    have X2 := X1.below hc2
    have SR2 := Sr.below SR1 hc2
    have HB2 := hide (HB1.out.trans (hc2.mono HB1.out.size))
    clear ta2 ow2 hb2 hA2 hc2 X1 HB1 x0 x1 x2 SR1 hI
    obtain ⟨_, x0, x1, x2⟩ := row3_facts X2.box
    go_wp2_with fail
    refine (hS _ X2.tv SR2).mono ?_
    rintro e w3 ⟨m3, b3, r3, cv3, rfl, tv3, sl3, hb3⟩
    obtain ⟨⟨xm3, ym3, rfl⟩, ⟨xb3, yb3, rfl⟩, ⟨xr3, yr3, rfl⟩⟩ := three_of tv3
    obtain ⟨P3, hA3⟩ := Bq.new (d := pl d C f ln) (C := C) tv3
    have T3 := sl3.below hA3
    have hc3 := hb3.trans (hA3.mono hb3.size)
    have X3 := X2.below hc3
    have N3 := N2.below hc3
    have S3 := S2.below hc3
    have SR3 := Sr.below SR2 hc3
    have HB3 := hide (HB2.out.trans (hc3.mono HB2.out.size))
    clear tv3 sl3 hb3 hA3 hc3 X2 N2 S2 HB2 x0 x1 x2 SR2 hS
    generalize w2.heap.size = B2 at N3 ⊢
    generalize w1.heap.size = B1 at X3 ⊢
    go_wp2_with fail
    refine (sameInts_same _ _ (pcs d C f ln) _ S3 T3 (by have := HPL.out; omega)).mono ?_
    rintro e w4 ⟨rfl, hbb⟩
    have X4 := X3.below hbb
    have N4 := N3.below hbb
    have P4 := P3.below hbb
    have S4 := S3.below hbb
    have SR4 := Sr.below SR3 hbb
    have HB4 := hide (HB3.out.trans (hbb.mono HB3.out.size))
    clear hbb X3 N3 P3 S3 T3 SR3 HB3
    generalize hnk : (pl d C f ln).zs.length = nk at N4 P4
    obtain ⟨_, x0, x1, x2⟩ := row3_facts N4.box
    obtain ⟨_, z0, z1, z2⟩ := row3_facts P4.box
    go_wp2_with fail
    refine (sameTso_same _ _ _ _ _ _ (pl d C f ln).zs C (pl d C f ln).L (pl d C f ln).F C (pl d C f ln).Z _ N4.tv P4.tv HTL.out).mono ?_
    rintro e w5 ⟨rfl, hbb⟩
    have X5 := X4.below hbb
    have N5 := N4.below hbb
    have S5 := S4.below hbb
    have SR5 := Sr.below SR4 hbb
    have HB5 := hide (HB4.out.trans (hbb.mono HB4.out.size))
    clear hbb X4 N4 P4 S4 SR4 HB4 x0 x1 x2 z0 z1 z2
    have hok := fun W h => specTsoOk_any (.slice xm d.zs.length ym) (.slice xb C yb) (.slice xr C yr) d.zs C d.L d.F C d.Z W h
    rw [show tokB d.zs C d.L d.F C d.Z = true from ht] at hok
    obtain ⟨_, x0, x1, x2⟩ := row3_facts X5.box
    go_wp2_with fail
    refine (hok _ X5.tv).mono ?_
    rintro e w6 ⟨rfl, hbb⟩
    have X6 := X5.below hbb
    have N6 := N5.below hbb
    have S6 := S5.below hbb
    have SR6 := Sr.below SR5 hbb
    have HB6 := hide (HB5.out.trans (hbb.mono HB5.out.size))
    clear hbb X5 N5 S5 SR5 HB5 x0 x1 x2 hok
    obtain ⟨_, n0, n1, n2⟩ := row3_facts X6.box
    have hKr : ((len0 : Int) % ((ln : Int) + 1)) = ((len0 % (ln + 1) : Nat) : Int) := by simp
    have hKl : len0 % (ln + 1) < ln + 1 := Nat.mod_lt _ (by omega)
    generalize len0 % (ln + 1) = kp at hKr hKl
    have HPA := hide (And.intro (pl_add d C f kp (ln - kp)) (pcs_add d C f kp (ln - kp)))
    have HKK := hide (show kp + (ln - kp) = ln by omega)
    rw [HKK.out] at HPA
    have HPK := hide (And.intro (pcs_len d C f kp) (pcs_len (pl d C f kp) C (fun j => f (kp + j)) (ln - kp)))
    have htK := pl_tok (f := f) ht kp
    clear HKK
    go_wp2
    rw [hKr]
    clear hKr
    have SRK := SR6.upto (k := kp) (by omega)
    have hk0 : (0 : Int) ≤ (kp : Int) := by omega
    have hk1 : (kp : Int) ≤ (ln : Int) := by omega
    have hk2 : (ln : Int) ≤ (lc : Int) := by omega
    have hk3 : (kp : Int) ≤ (lc : Int) := by omega
    go_cut [10, 11] (fun p c wc => ∃ (B : Nat) (m b r cv : Value), p = .pointer (some ⟨B, 0, none⟩) ∧ c = cv ∧ Hid (Bq wc B m b r (pl d C f kp) C ∧ Sl wc cv (pcs d C f kp) ∧ Below w6.heap.size w6 wc))
    case first =>
      refine wp_region_held_drew (S := fun w' => Below w6.heap.size w6 w') (by kernel_rfl) ((Below.refl _ _).drew) (fun hHeld => ?_)
      refine wpAnyH_take (i := 0) (v := .agg #[.slice xm d.zs.length ym, .slice xb C yb, .slice xr C yr]) rfl (by kernel_rfl) (by kernel_rfl) (by kernel_rfl) (fun _ _ _ h => h) (Or.inl ⟨by rfl, fun w' hSw => ?_⟩) (by assumption) ?_
      · (try dsimp only at hSw); have z0 := keepc hSw n0; have z1 := keepc hSw n1; have z2 := keepc hSw n2; go_simp
      try simp only [Act.put, List.getElem_toArray, List.getElem_cons_zero, List.getElem_cons_succ, List.setIfInBounds_toArray, List.set_cons_zero, List.set_cons_succ]
      refine wpAnyH_take (i := 1) (v := .slice (some ⟨lp, 0, none⟩) ln lc) rfl (by kernel_rfl) (by kernel_rfl) (by kernel_rfl) (fun _ _ _ h => h) (Or.inl ⟨by rfl, fun w' hSw => ?_⟩) (by assumption) ?_
      · (try dsimp only at hSw); skip; go_simp
      try simp only [Act.put, List.getElem_toArray, List.getElem_cons_zero, List.getElem_cons_succ, List.setIfInBounds_toArray, List.set_cons_zero, List.set_cons_succ]
      refine wpAnyH_take (i := 2) (v := .int .i64 kp) rfl (by kernel_rfl) (by kernel_rfl) (by kernel_rfl) (fun _ _ _ h => h) (Or.inl ⟨by rfl, fun w' hSw => ?_⟩) (by assumption) ?_
      · (try dsimp only at hSw); skip; go_simp
      try simp only [Act.put, List.getElem_toArray, List.getElem_cons_zero, List.getElem_cons_succ, List.setIfInBounds_toArray, List.set_cons_zero, List.set_cons_succ]
      refine wpAnyH_take (i := 3) (v := .slice (some ⟨lp, 0, none⟩) kp lc) rfl (by kernel_rfl) (by kernel_rfl) (by kernel_rfl) (fun _ _ _ h => h) (Or.inl ⟨by rfl, fun w' hSw => ?_⟩) (by assumption) ?_
      · (try dsimp only at hSw); skip; go_simp
      try simp only [Act.put, List.getElem_toArray, List.getElem_cons_zero, List.getElem_cons_succ, List.setIfInBounds_toArray, List.set_cons_zero, List.set_cons_succ]
      obtain ⟨V0, hV0⟩ : ∃ V, w6.drew = V := ⟨_, rfl⟩
      rw [hV0] at hHeld ⊢
      clear hV0
      have hHe0 := hHeld
      refine wpAnyH_ready (rs := [4, 8]) (by kernel_rfl) (by simp) ?_
      refine AllReadyH.cons rfl (fun K hK => ?_) (AllReadyH.cons rfl (fun K hK => ?_) AllReadyH.nil)
      · go_simp
        refine (implPlay_yes _ _ _ d C (some ⟨lp, 0, none⟩) kp lc f _ ht (by omega) (X6.tv.below hHeld) (Sr.below SRK hHeld)).mono ?_
        rintro e w5 ⟨m9, b9, r9, vb9, vr9, tag9, cv9, rfl, ta9, ow9, hb9⟩
        obtain ⟨⟨xm9, ym9, rfl⟩, ⟨xb9, yb9, rfl⟩, ⟨xr9, yr9, rfl⟩⟩ := three_of (Ta.tv ta9)
        generalize hnk9 : (pl d C f kp).zs.length = nk9 at ta9
        have hHe2 := hHeld.trans (hb9.mono hHeld.size)
        refine hK.out _ _ hHe2 (fun hHeld => ?_)
        clear hK K
        try simp only [Act.put, List.getElem_toArray, List.getElem_cons_zero, List.getElem_cons_succ, List.setIfInBounds_toArray, List.set_cons_zero, List.set_cons_succ]
        refine wpAnyH_take (i := 5) (v := .tuple #[.agg #[.slice xm9 nk9 ym9, .slice xb9 C yb9, .slice xr9 C yr9], cv9]) rfl (by kernel_rfl) (by kernel_rfl) (by kernel_rfl) (fun _ _ _ h => h) (Or.inl ⟨by rfl, fun w' hSw => ?_⟩) (by assumption) ?_
        · (try dsimp only at hSw); skip; go_simp
        try simp only [Act.put, List.getElem_toArray, List.getElem_cons_zero, List.getElem_cons_succ, List.setIfInBounds_toArray, List.set_cons_zero, List.set_cons_succ]
        refine wpAnyH_take (i := 6) (v := .agg #[.slice xm9 nk9 ym9, .slice xb9 C yb9, .slice xr9 C yr9]) rfl (by kernel_rfl) (by kernel_rfl) (by kernel_rfl) (fun _ _ _ h => h) (Or.inl ⟨by rfl, fun w' hSw => ?_⟩) (by assumption) ?_
        · (try dsimp only at hSw); skip; go_simp
        try simp only [Act.put, List.getElem_toArray, List.getElem_cons_zero, List.getElem_cons_succ, List.setIfInBounds_toArray, List.set_cons_zero, List.set_cons_succ]
        refine wpAnyH_take (i := 7) (v := cv9) rfl (by kernel_rfl) (by kernel_rfl) (by kernel_rfl) (fun _ _ _ h => h) (Or.inl ⟨by rfl, fun w' hSw => ?_⟩) (by assumption) ?_
        · (try dsimp only at hSw); skip; go_simp
        try simp only [Act.put, List.getElem_toArray, List.getElem_cons_zero, List.getElem_cons_succ, List.setIfInBounds_toArray, List.set_cons_zero, List.set_cons_succ]
        refine wpAnyH_ready (rs := [8]) (by kernel_rfl) (by simp) ?_
        refine AllReadyH.cons rfl (fun K hK => ?_) AllReadyH.nil
        go_simp
        have hA9 : Below w5.heap.size w5 (w5.alloc (.cells #[nil3, nil3, nil3] 28)) := (Below.refl _ _).alloc (Nat.le_refl _) _
        refine hK.out _ _ (hHeld.trans (hA9.mono hHeld.size)) (fun hHeld => ?_)
        clear hK K
        try simp only [Act.put, List.getElem_toArray, List.getElem_cons_zero, List.getElem_cons_succ, List.setIfInBounds_toArray, List.set_cons_zero, List.set_cons_succ]
        have hA6 : Below w5.heap.size w5 (w5.alloc (.cells #[.slice xm9 nk9 ym9, .slice xb9 C yb9, .slice xr9 C yr9] 28)) := (Below.refl _ _).alloc (Nat.le_refl _) _
        have hb6 := hHe2.trans (hA6.mono hHe2.size)
        have HX := hide (And.intro (show Bq (w5.alloc (.cells #[.slice xm9 nk9 ym9, .slice xb9 C yb9, .slice xr9 C yr9] 28)) w5.heap.size _ _ _ (pl d C f kp) C from ⟨heap_alloc_new _ _, (Ta.tv ta9).below hA6⟩) (And.intro ((Ow.sl ow9).below hA6) hb6))
        clear ta9 ow9 hb9 hA6 hHe2 hA9
        refine wpAnyH_ready (rs := [9]) (by kernel_rfl) (by simp) ?_
        refine AllReadyH.cons rfl (fun K hK => ?_) AllReadyH.nil
        go_simp
        refine hK.out _ _ hb6 (fun hHeld => ?_)
        clear hK K
        try simp only [Act.put, List.getElem_toArray, List.getElem_cons_zero, List.getElem_cons_succ, List.setIfInBounds_toArray, List.set_cons_zero, List.set_cons_succ]
        refine wpAnyH_ready (rs := [10]) (by kernel_rfl) (by simp) ?_
        refine AllReadyH.cons rfl (fun K hK => ?_) AllReadyH.nil
        go_simp
        refine hK.out _ _ hHeld (fun hHeld => ?_)
        clear hK K hHeld
        try simp only [Act.put, List.getElem_toArray, List.getElem_cons_zero, List.getElem_cons_succ, List.setIfInBounds_toArray, List.set_cons_zero, List.set_cons_succ]
        refine wpAnyH_done (by kernel_rfl) ?_ _
        try go_wp2_with fail
        go_meet
        exact ⟨_, _, _, _, _, rfl, rfl, HX⟩
      · go_simp
        have hA9 : Below V0.heap.size V0 (V0.alloc (.cells #[nil3, nil3, nil3] 28)) := (Below.refl _ _).alloc (Nat.le_refl _) _
        have qB9 : (V0.alloc (.cells #[nil3, nil3, nil3] 28)).heap[V0.heap.size]? = some (.cells #[nil3, nil3, nil3] 28 (0, 0)) := heap_alloc_new _ _
        have sz0 := hHeld.size
        refine hK.out _ _ (hHeld.trans (hA9.mono hHeld.size)) (fun hHeld => ?_)
        clear hK K
        try simp only [Act.put, List.getElem_toArray, List.getElem_cons_zero, List.getElem_cons_succ, List.setIfInBounds_toArray, List.set_cons_zero, List.set_cons_succ]
        refine wpAnyH_ready (rs := [4]) (by kernel_rfl) (by simp) ?_
        refine AllReadyH.cons rfl (fun K hK => ?_) AllReadyH.nil
        go_simp
        refine (implPlay_yes _ _ _ d C (some ⟨lp, 0, none⟩) kp lc f _ ht (by omega) (X6.tv.below hHeld) (Sr.below SRK hHeld)).mono ?_
        rintro e w5 ⟨m9, b9, r9, vb9, vr9, tag9, cv9, rfl, ta9, ow9, hb9⟩
        obtain ⟨⟨xm9, ym9, rfl⟩, ⟨xb9, yb9, rfl⟩, ⟨xr9, yr9, rfl⟩⟩ := three_of (Ta.tv ta9)
        generalize hnk9 : (pl d C f kp).zs.length = nk9 at ta9
        have hHe2 := hHeld.trans (hb9.mono hHeld.size)
        have qB5 := heap_b qB9 hb9
        obtain ⟨fz9, c90, c91, c92⟩ := row3_facts qB5
        refine hK.out _ _ hHe2 (fun hHeld => ?_)
        clear hK K
        try simp only [Act.put, List.getElem_toArray, List.getElem_cons_zero, List.getElem_cons_succ, List.setIfInBounds_toArray, List.set_cons_zero, List.set_cons_succ]
        refine wpAnyH_take (i := 5) (v := .tuple #[.agg #[.slice xm9 nk9 ym9, .slice xb9 C yb9, .slice xr9 C yr9], cv9]) rfl (by kernel_rfl) (by kernel_rfl) (by kernel_rfl) (fun _ _ _ h => h) (Or.inl ⟨by rfl, fun w' hSw => ?_⟩) (by assumption) ?_
        · (try dsimp only at hSw); skip; go_simp
        try simp only [Act.put, List.getElem_toArray, List.getElem_cons_zero, List.getElem_cons_succ, List.setIfInBounds_toArray, List.set_cons_zero, List.set_cons_succ]
        refine wpAnyH_take (i := 6) (v := .agg #[.slice xm9 nk9 ym9, .slice xb9 C yb9, .slice xr9 C yr9]) rfl (by kernel_rfl) (by kernel_rfl) (by kernel_rfl) (fun _ _ _ h => h) (Or.inl ⟨by rfl, fun w' hSw => ?_⟩) (by assumption) ?_
        · (try dsimp only at hSw); skip; go_simp
        try simp only [Act.put, List.getElem_toArray, List.getElem_cons_zero, List.getElem_cons_succ, List.setIfInBounds_toArray, List.set_cons_zero, List.set_cons_succ]
        refine wpAnyH_take (i := 7) (v := cv9) rfl (by kernel_rfl) (by kernel_rfl) (by kernel_rfl) (fun _ _ _ h => h) (Or.inl ⟨by rfl, fun w' hSw => ?_⟩) (by assumption) ?_
        · (try dsimp only at hSw); skip; go_simp
        try simp only [Act.put, List.getElem_toArray, List.getElem_cons_zero, List.getElem_cons_succ, List.setIfInBounds_toArray, List.set_cons_zero, List.set_cons_succ]
        have hgr9 : w5.grownBy (((w5.setCell ⟨V0.heap.size, 0, none⟩ (.slice xm9 nk9 ym9)).setCell ⟨V0.heap.size, 1, none⟩ (.slice xb9 C yb9)).setCell ⟨V0.heap.size, 2, none⟩ (.slice xr9 C yr9)) (some V0.heap.size) := grown_trans (grown_trans (grown_set _ _ _ _) (grown_set _ _ _ _)) (grown_set _ _ _ _)
        have ta6 := Ta.grown ta9 hgr9 (fun g e => by simp only [Option.some.injEq] at e; simp; omega)
        have hb6 : Below w6.heap.size w6 (((w5.setCell ⟨V0.heap.size, 0, none⟩ (.slice xm9 nk9 ym9)).setCell ⟨V0.heap.size, 1, none⟩ (.slice xb9 C yb9)).setCell ⟨V0.heap.size, 2, none⟩ (.slice xr9 C yr9)) := hHe2.grown hgr9 hHe2.size (fun g e => by simp only [Option.some.injEq] at e; omega)
        have ow6 := own_keep ow9 (w' := (((w5.setCell ⟨V0.heap.size, 0, none⟩ (.slice xm9 nk9 ym9)).setCell ⟨V0.heap.size, 1, none⟩ (.slice xb9 C yb9)).setCell ⟨V0.heap.size, 2, none⟩ (.slice xr9 C yr9))) (fun g e hg => hgr9.block g hg (by have := own_at ow9 e; simp at this ⊢; omega))
        have qB : (((w5.setCell ⟨V0.heap.size, 0, none⟩ (.slice xm9 nk9 ym9)).setCell ⟨V0.heap.size, 1, none⟩ (.slice xb9 C yb9)).setCell ⟨V0.heap.size, 2, none⟩ (.slice xr9 C yr9)).heap[V0.heap.size]? = some (.cells #[.slice xm9 nk9 ym9, .slice xb9 C yb9, .slice xr9 C yr9] 28 (0, 0)) := by rw [heap_setCell_same _ _ 2 _ _ _ (heap_setCell_same _ _ 1 _ _ _ (heap_setCell_same _ _ 0 _ _ _ qB5))]; rfl
        have HX := hide (And.intro (show Bq (((w5.setCell ⟨V0.heap.size, 0, none⟩ (.slice xm9 nk9 ym9)).setCell ⟨V0.heap.size, 1, none⟩ (.slice xb9 C yb9)).setCell ⟨V0.heap.size, 2, none⟩ (.slice xr9 C yr9)) V0.heap.size _ _ _ (pl d C f kp) C from ⟨qB, Ta.tv ta6⟩) (And.intro (show Sl _ cv9 (pcs d C f kp) from Ow.sl ow6) hb6))
        clear ta9 ta6 ow9 ow6 hb9 hgr9 hHe2 hA9 qB9 qB5 qB
        refine wpAnyH_ready (rs := [9]) (by kernel_rfl) (by simp) ?_
        refine AllReadyH.cons rfl (fun K hK => ?_) AllReadyH.nil
        go_simp
        refine hK.out _ _ hb6 (fun hHeld => ?_)
        clear hK K
        try simp only [Act.put, List.getElem_toArray, List.getElem_cons_zero, List.getElem_cons_succ, List.setIfInBounds_toArray, List.set_cons_zero, List.set_cons_succ]
        refine wpAnyH_ready (rs := [10]) (by kernel_rfl) (by simp) ?_
        refine AllReadyH.cons rfl (fun K hK => ?_) AllReadyH.nil
        go_simp
        refine hK.out _ _ hHeld (fun hHeld => ?_)
        clear hK K hHeld
        try simp only [Act.put, List.getElem_toArray, List.getElem_cons_zero, List.getElem_cons_succ, List.setIfInBounds_toArray, List.set_cons_zero, List.set_cons_succ]
        refine wpAnyH_done (by kernel_rfl) ?_ _
        try go_wp2_with fail
        go_meet
        exact ⟨_, _, _, _, _, rfl, rfl, HX⟩
    case rest =>
      obtain ⟨W9, hW⟩ : ∃ W, W = wc := ⟨_, rfl⟩
      subst hW
      obtain ⟨B9, m9, b9, r9, cv9, rfl, rfl, HC9⟩ := hcut
      obtain ⟨⟨xa, ya, rfl⟩, ⟨xe, ye, rfl⟩, ⟨xf, yf, rfl⟩⟩ := three_of HC9.out.1.tv
      obtain ⟨A9, S9, hb9⟩ := HC9.out
      generalize hnka : (pl d C f kp).zs.length = nka at A9
      have X9 := X6.below hb9
      have N9 := N6.below hb9
      have S69 := S6.below hb9
      have SR9 := Sr.below SR6 hb9
      have HB9 := hide (HB6.out.trans (hb9.mono HB6.out.size))
      clear HC9 hb9 X6 N6 S6 SR6 HB6 SRK n0 n1 n2 hnka
      obtain ⟨_, n0, n1, n2⟩ := row3_facts A9.box
      by_cases hz : lc = kp
      · have HZL := hide hz
        clear hz
        have SRT : Sr W9 (.slice (some ⟨lp, 0, none⟩) 0 0) 5 0 (fun j => f (kp + j)) := ⟨_, 0, rfl, fun h => absurd h (by omega)⟩
        go_wp2
        go_cut [12, 13] (fun p c wc => ∃ (B : Nat) (m b r cv : Value), p = .pointer (some ⟨B, 0, none⟩) ∧ c = cv ∧ Hid (Bq wc B m b r (pl d C f ln) C ∧ Sl wc cv (pcs (pl d C f kp) C (fun j => f (kp + j)) (ln - kp)) ∧ Below W9.heap.size W9 wc))
        case first =>
          refine wp_region_held_drew (S := fun w' => Below W9.heap.size W9 w') (by kernel_rfl) ((Below.refl _ _).drew) (fun hHeld => ?_)
          refine wpAnyH_take (i := 0) (v := .agg #[.slice xa nka ya, .slice xe C ye, .slice xf C yf]) rfl (by kernel_rfl) (by kernel_rfl) (by kernel_rfl) (fun _ _ _ h => h) (Or.inl ⟨by rfl, fun w' hSw => ?_⟩) (by assumption) ?_
          · (try dsimp only at hSw); have z0 := keepc hSw n0; have z1 := keepc hSw n1; have z2 := keepc hSw n2; go_simp
          try simp only [Act.put, List.getElem_toArray, List.getElem_cons_zero, List.getElem_cons_succ, List.setIfInBounds_toArray, List.set_cons_zero, List.set_cons_succ]
          refine wpAnyH_take (i := 1) (v := .slice (some ⟨lp, 0, none⟩) ln lc) rfl (by kernel_rfl) (by kernel_rfl) (by kernel_rfl) (fun _ _ _ h => h) (Or.inl ⟨by rfl, fun w' hSw => ?_⟩) (by assumption) ?_
          · (try dsimp only at hSw); skip; go_simp
          try simp only [Act.put, List.getElem_toArray, List.getElem_cons_zero, List.getElem_cons_succ, List.setIfInBounds_toArray, List.set_cons_zero, List.set_cons_succ]
          refine wpAnyH_take (i := 2) (v := .int .i64 kp) rfl (by kernel_rfl) (by kernel_rfl) (by kernel_rfl) (fun _ _ _ h => h) (Or.inl ⟨by rfl, fun w' hSw => ?_⟩) (by assumption) ?_
          · (try dsimp only at hSw); skip; go_simp
          try simp only [Act.put, List.getElem_toArray, List.getElem_cons_zero, List.getElem_cons_succ, List.setIfInBounds_toArray, List.set_cons_zero, List.set_cons_succ]
          refine wpAnyH_take (i := 3) (v := .slice (some ⟨lp, 0, none⟩) 0 0) rfl (by kernel_rfl) (by kernel_rfl) (by kernel_rfl) (fun _ _ _ h => h) (Or.inl ⟨by rfl, fun w' hSw => ?_⟩) (by assumption) ?_
          · (try dsimp only at hSw); have he1 : ln - kp = 0 := (by (have hz := HZL.out; omega)); have he2 : lc - kp = 0 := (by (have hz := HZL.out; omega)); have he3 := HZL.out; go_simp
          try simp only [Act.put, List.getElem_toArray, List.getElem_cons_zero, List.getElem_cons_succ, List.setIfInBounds_toArray, List.set_cons_zero, List.set_cons_succ]
          obtain ⟨V0, hV0⟩ : ∃ V, W9.drew = V := ⟨_, rfl⟩
          rw [hV0] at hHeld ⊢
          clear hV0
          have hHe0 := hHeld
          refine wpAnyH_ready (rs := [4, 8]) (by kernel_rfl) (by simp) ?_
          refine AllReadyH.cons rfl (fun K hK => ?_) (AllReadyH.cons rfl (fun K hK => ?_) AllReadyH.nil)
          · go_simp
            refine (implPlay_yes _ _ _ (pl d C f kp) C (some ⟨lp, 0, none⟩) 0 0 (fun j => f (kp + j)) _ htK (by omega) (A9.tv.below hHeld) (Sr.below SRT hHeld)).mono ?_
            rintro e w5 ⟨m9, b9, r9, vb9, vr9, tag9, cv9, rfl, ta9, ow9, hb9⟩
            have eLx : kp = ln := by (have hz := HZL.out; omega)
            have ep : pl (pl d C f kp) C (fun j => f (kp + j)) 0 = pl d C f ln := (show pl d C f kp = pl d C f ln by rw [eLx])
            clear eLx
            rw [ep] at ta9
            have ec : pcs (pl d C f kp) C (fun j => f (kp + j)) 0 = pcs (pl d C f kp) C (fun j => f (kp + j)) (ln - kp) := by have hz := HZL.out; rw [show ln - kp = 0 by omega]
            rw [ec] at ow9
            obtain ⟨⟨xm9, ym9, rfl⟩, ⟨xb9, yb9, rfl⟩, ⟨xr9, yr9, rfl⟩⟩ := three_of (Ta.tv ta9)
            generalize hnk9 : (pl d C f ln).zs.length = nk9 at ta9
            have hHe2 := hHeld.trans (hb9.mono hHeld.size)
            refine hK.out _ _ hHe2 (fun hHeld => ?_)
            clear hK K
            try simp only [Act.put, List.getElem_toArray, List.getElem_cons_zero, List.getElem_cons_succ, List.setIfInBounds_toArray, List.set_cons_zero, List.set_cons_succ]
            refine wpAnyH_take (i := 5) (v := .tuple #[.agg #[.slice xm9 nk9 ym9, .slice xb9 C yb9, .slice xr9 C yr9], cv9]) rfl (by kernel_rfl) (by kernel_rfl) (by kernel_rfl) (fun _ _ _ h => h) (Or.inl ⟨by rfl, fun w' hSw => ?_⟩) (by assumption) ?_
            · (try dsimp only at hSw); skip; go_simp
            try simp only [Act.put, List.getElem_toArray, List.getElem_cons_zero, List.getElem_cons_succ, List.setIfInBounds_toArray, List.set_cons_zero, List.set_cons_succ]
            refine wpAnyH_take (i := 6) (v := .agg #[.slice xm9 nk9 ym9, .slice xb9 C yb9, .slice xr9 C yr9]) rfl (by kernel_rfl) (by kernel_rfl) (by kernel_rfl) (fun _ _ _ h => h) (Or.inl ⟨by rfl, fun w' hSw => ?_⟩) (by assumption) ?_
            · (try dsimp only at hSw); skip; go_simp
            try simp only [Act.put, List.getElem_toArray, List.getElem_cons_zero, List.getElem_cons_succ, List.setIfInBounds_toArray, List.set_cons_zero, List.set_cons_succ]
            refine wpAnyH_take (i := 7) (v := cv9) rfl (by kernel_rfl) (by kernel_rfl) (by kernel_rfl) (fun _ _ _ h => h) (Or.inl ⟨by rfl, fun w' hSw => ?_⟩) (by assumption) ?_
            · (try dsimp only at hSw); skip; go_simp
            try simp only [Act.put, List.getElem_toArray, List.getElem_cons_zero, List.getElem_cons_succ, List.setIfInBounds_toArray, List.set_cons_zero, List.set_cons_succ]
            refine wpAnyH_ready (rs := [8]) (by kernel_rfl) (by simp) ?_
            refine AllReadyH.cons rfl (fun K hK => ?_) AllReadyH.nil
            go_simp
            have hA9 : Below w5.heap.size w5 (w5.alloc (.cells #[nil3, nil3, nil3] 28)) := (Below.refl _ _).alloc (Nat.le_refl _) _
            refine hK.out _ _ (hHeld.trans (hA9.mono hHeld.size)) (fun hHeld => ?_)
            clear hK K
            try simp only [Act.put, List.getElem_toArray, List.getElem_cons_zero, List.getElem_cons_succ, List.setIfInBounds_toArray, List.set_cons_zero, List.set_cons_succ]
            have hA6 : Below w5.heap.size w5 (w5.alloc (.cells #[.slice xm9 nk9 ym9, .slice xb9 C yb9, .slice xr9 C yr9] 28)) := (Below.refl _ _).alloc (Nat.le_refl _) _
            have hb6 := hHe2.trans (hA6.mono hHe2.size)
            have HX := hide (And.intro (show Bq (w5.alloc (.cells #[.slice xm9 nk9 ym9, .slice xb9 C yb9, .slice xr9 C yr9] 28)) w5.heap.size _ _ _ (pl d C f ln) C from ⟨heap_alloc_new _ _, (Ta.tv ta9).below hA6⟩) (And.intro ((Ow.sl ow9).below hA6) hb6))
            clear ta9 ow9 hb9 hA6 hHe2 hA9
            refine wpAnyH_ready (rs := [9]) (by kernel_rfl) (by simp) ?_
            refine AllReadyH.cons rfl (fun K hK => ?_) AllReadyH.nil
            go_simp
            refine hK.out _ _ hb6 (fun hHeld => ?_)
            clear hK K
            try simp only [Act.put, List.getElem_toArray, List.getElem_cons_zero, List.getElem_cons_succ, List.setIfInBounds_toArray, List.set_cons_zero, List.set_cons_succ]
            refine wpAnyH_ready (rs := [10]) (by kernel_rfl) (by simp) ?_
            refine AllReadyH.cons rfl (fun K hK => ?_) AllReadyH.nil
            go_simp
            refine hK.out _ _ hHeld (fun hHeld => ?_)
            clear hK K hHeld
            try simp only [Act.put, List.getElem_toArray, List.getElem_cons_zero, List.getElem_cons_succ, List.setIfInBounds_toArray, List.set_cons_zero, List.set_cons_succ]
            refine wpAnyH_done (by kernel_rfl) ?_ _
            try go_wp2_with fail
            go_meet
            exact ⟨_, _, _, _, _, rfl, rfl, HX⟩
          · go_simp
            have hA9 : Below V0.heap.size V0 (V0.alloc (.cells #[nil3, nil3, nil3] 28)) := (Below.refl _ _).alloc (Nat.le_refl _) _
            have qB9 : (V0.alloc (.cells #[nil3, nil3, nil3] 28)).heap[V0.heap.size]? = some (.cells #[nil3, nil3, nil3] 28 (0, 0)) := heap_alloc_new _ _
            have sz0 := hHeld.size
            refine hK.out _ _ (hHeld.trans (hA9.mono hHeld.size)) (fun hHeld => ?_)
            clear hK K
            try simp only [Act.put, List.getElem_toArray, List.getElem_cons_zero, List.getElem_cons_succ, List.setIfInBounds_toArray, List.set_cons_zero, List.set_cons_succ]
            refine wpAnyH_ready (rs := [4]) (by kernel_rfl) (by simp) ?_
            refine AllReadyH.cons rfl (fun K hK => ?_) AllReadyH.nil
            go_simp
            refine (implPlay_yes _ _ _ (pl d C f kp) C (some ⟨lp, 0, none⟩) 0 0 (fun j => f (kp + j)) _ htK (by omega) (A9.tv.below hHeld) (Sr.below SRT hHeld)).mono ?_
            rintro e w5 ⟨m9, b9, r9, vb9, vr9, tag9, cv9, rfl, ta9, ow9, hb9⟩
            have eLx : kp = ln := by (have hz := HZL.out; omega)
            have ep : pl (pl d C f kp) C (fun j => f (kp + j)) 0 = pl d C f ln := (show pl d C f kp = pl d C f ln by rw [eLx])
            clear eLx
            rw [ep] at ta9
            have ec : pcs (pl d C f kp) C (fun j => f (kp + j)) 0 = pcs (pl d C f kp) C (fun j => f (kp + j)) (ln - kp) := by have hz := HZL.out; rw [show ln - kp = 0 by omega]
            rw [ec] at ow9
            obtain ⟨⟨xm9, ym9, rfl⟩, ⟨xb9, yb9, rfl⟩, ⟨xr9, yr9, rfl⟩⟩ := three_of (Ta.tv ta9)
            generalize hnk9 : (pl d C f ln).zs.length = nk9 at ta9
            have hHe2 := hHeld.trans (hb9.mono hHeld.size)
            have qB5 := heap_b qB9 hb9
            obtain ⟨fz9, c90, c91, c92⟩ := row3_facts qB5
            refine hK.out _ _ hHe2 (fun hHeld => ?_)
            clear hK K
            try simp only [Act.put, List.getElem_toArray, List.getElem_cons_zero, List.getElem_cons_succ, List.setIfInBounds_toArray, List.set_cons_zero, List.set_cons_succ]
            refine wpAnyH_take (i := 5) (v := .tuple #[.agg #[.slice xm9 nk9 ym9, .slice xb9 C yb9, .slice xr9 C yr9], cv9]) rfl (by kernel_rfl) (by kernel_rfl) (by kernel_rfl) (fun _ _ _ h => h) (Or.inl ⟨by rfl, fun w' hSw => ?_⟩) (by assumption) ?_
            · (try dsimp only at hSw); skip; go_simp
            try simp only [Act.put, List.getElem_toArray, List.getElem_cons_zero, List.getElem_cons_succ, List.setIfInBounds_toArray, List.set_cons_zero, List.set_cons_succ]
            refine wpAnyH_take (i := 6) (v := .agg #[.slice xm9 nk9 ym9, .slice xb9 C yb9, .slice xr9 C yr9]) rfl (by kernel_rfl) (by kernel_rfl) (by kernel_rfl) (fun _ _ _ h => h) (Or.inl ⟨by rfl, fun w' hSw => ?_⟩) (by assumption) ?_
            · (try dsimp only at hSw); skip; go_simp
            try simp only [Act.put, List.getElem_toArray, List.getElem_cons_zero, List.getElem_cons_succ, List.setIfInBounds_toArray, List.set_cons_zero, List.set_cons_succ]
            refine wpAnyH_take (i := 7) (v := cv9) rfl (by kernel_rfl) (by kernel_rfl) (by kernel_rfl) (fun _ _ _ h => h) (Or.inl ⟨by rfl, fun w' hSw => ?_⟩) (by assumption) ?_
            · (try dsimp only at hSw); skip; go_simp
            try simp only [Act.put, List.getElem_toArray, List.getElem_cons_zero, List.getElem_cons_succ, List.setIfInBounds_toArray, List.set_cons_zero, List.set_cons_succ]
            have hgr9 : w5.grownBy (((w5.setCell ⟨V0.heap.size, 0, none⟩ (.slice xm9 nk9 ym9)).setCell ⟨V0.heap.size, 1, none⟩ (.slice xb9 C yb9)).setCell ⟨V0.heap.size, 2, none⟩ (.slice xr9 C yr9)) (some V0.heap.size) := grown_trans (grown_trans (grown_set _ _ _ _) (grown_set _ _ _ _)) (grown_set _ _ _ _)
            have ta6 := Ta.grown ta9 hgr9 (fun g e => by simp only [Option.some.injEq] at e; simp; omega)
            have hb6 : Below W9.heap.size W9 (((w5.setCell ⟨V0.heap.size, 0, none⟩ (.slice xm9 nk9 ym9)).setCell ⟨V0.heap.size, 1, none⟩ (.slice xb9 C yb9)).setCell ⟨V0.heap.size, 2, none⟩ (.slice xr9 C yr9)) := hHe2.grown hgr9 hHe2.size (fun g e => by simp only [Option.some.injEq] at e; omega)
            have ow6 := own_keep ow9 (w' := (((w5.setCell ⟨V0.heap.size, 0, none⟩ (.slice xm9 nk9 ym9)).setCell ⟨V0.heap.size, 1, none⟩ (.slice xb9 C yb9)).setCell ⟨V0.heap.size, 2, none⟩ (.slice xr9 C yr9))) (fun g e hg => hgr9.block g hg (by have := own_at ow9 e; simp at this ⊢; omega))
            have qB : (((w5.setCell ⟨V0.heap.size, 0, none⟩ (.slice xm9 nk9 ym9)).setCell ⟨V0.heap.size, 1, none⟩ (.slice xb9 C yb9)).setCell ⟨V0.heap.size, 2, none⟩ (.slice xr9 C yr9)).heap[V0.heap.size]? = some (.cells #[.slice xm9 nk9 ym9, .slice xb9 C yb9, .slice xr9 C yr9] 28 (0, 0)) := by rw [heap_setCell_same _ _ 2 _ _ _ (heap_setCell_same _ _ 1 _ _ _ (heap_setCell_same _ _ 0 _ _ _ qB5))]; rfl
            have HX := hide (And.intro (show Bq (((w5.setCell ⟨V0.heap.size, 0, none⟩ (.slice xm9 nk9 ym9)).setCell ⟨V0.heap.size, 1, none⟩ (.slice xb9 C yb9)).setCell ⟨V0.heap.size, 2, none⟩ (.slice xr9 C yr9)) V0.heap.size _ _ _ (pl d C f ln) C from ⟨qB, Ta.tv ta6⟩) (And.intro (show Sl _ cv9 (pcs (pl d C f kp) C (fun j => f (kp + j)) (ln - kp)) from Ow.sl ow6) hb6))
            clear ta9 ta6 ow9 ow6 hb9 hgr9 hHe2 hA9 qB9 qB5 qB
            refine wpAnyH_ready (rs := [9]) (by kernel_rfl) (by simp) ?_
            refine AllReadyH.cons rfl (fun K hK => ?_) AllReadyH.nil
            go_simp
            refine hK.out _ _ hb6 (fun hHeld => ?_)
            clear hK K
            try simp only [Act.put, List.getElem_toArray, List.getElem_cons_zero, List.getElem_cons_succ, List.setIfInBounds_toArray, List.set_cons_zero, List.set_cons_succ]
            refine wpAnyH_ready (rs := [10]) (by kernel_rfl) (by simp) ?_
            refine AllReadyH.cons rfl (fun K hK => ?_) AllReadyH.nil
            go_simp
            refine hK.out _ _ hHeld (fun hHeld => ?_)
            clear hK K hHeld
            try simp only [Act.put, List.getElem_toArray, List.getElem_cons_zero, List.getElem_cons_succ, List.setIfInBounds_toArray, List.set_cons_zero, List.set_cons_succ]
            refine wpAnyH_done (by kernel_rfl) ?_ _
            try go_wp2_with fail
            go_meet
            exact ⟨_, _, _, _, _, rfl, rfl, HX⟩
        case rest =>
          obtain ⟨Wt, hW⟩ : ∃ W, W = wc := ⟨_, rfl⟩
          subst hW
          obtain ⟨Bt, mt, bt, rt, cvt, rfl, rfl, HCt⟩ := hcut
          obtain ⟨⟨xa2, ya2, rfl⟩, ⟨xe2, ye2, rfl⟩, ⟨xf2, yf2, rfl⟩⟩ := three_of HCt.out.1.tv
          obtain ⟨At, St, hbt⟩ := HCt.out
          generalize hnkt : (pl d C f ln).zs.length = nkt at At
          have Nt := N9.below hbt
          have S9t := S9.below hbt
          have S6t := S69.below hbt
          have HBt := hide (HB9.out.trans (hbt.mono HB9.out.size))
          clear HCt hbt X9 N9 S69 S9 SR9 HB9 SRT A9 n0 n1 n2 hnkt
          obtain ⟨_, x0, x1, x2⟩ := row3_facts At.box
          obtain ⟨_, z0, z1, z2⟩ := row3_facts Nt.box
          go_wp2_with fail
          refine (sameTso_same _ _ _ _ _ _ (pl d C f ln).zs C (pl d C f ln).L (pl d C f ln).F C (pl d C f ln).Z _ At.tv Nt.tv HTL.out).mono ?_
          rintro e wu ⟨rfl, hbu⟩
          have hAu : Below wu.heap.size wu (wu.alloc (.cells #[] 2)) := (Below.refl _ _).alloc (Nat.le_refl _) _
          obtain ⟨v1, wA, hr1, ow1, hg1⟩ := append_ints (wu.alloc (.cells #[] 2)) wu.heap.size (.slice (some ⟨wu.heap.size, 0, none⟩) 0 0) u11 [] (pcs d C f kp) 24 (empty_own wu 2 1) ((S9t.below hbu).below hAu) (by simp) (by have := HPK.out.1; omega) (by simp)
          rw [List.nil_append] at ow1
          have hB1 : Below wu.heap.size wu wA := hAu.grown hg1 hAu.size (fun g e => by simp only [Value.ownBlock, Option.some.injEq] at e; omega)
          obtain ⟨v2, wB, hr2, ow2, hg2⟩ := append_ints wA wu.heap.size v1 u13 (pcs d C f kp) (pcs (pl d C f kp) C (fun j => f (kp + j)) (ln - kp)) 24 ow1 ((St.below hbu).below hB1) (by have := HPK.out.1; omega) (by have := HPK.out.2; omega) hB1.size
          rw [HPA.out.2] at ow2
          have hB2 : Below wu.heap.size wu wB := hB1.grown hg2 hB1.size (fun g e => (own_at ow1 e).1)
          have S6u := (S6t.below hbu).below hB2
          have HBu := hide ((HBt.out.trans (hbu.mono HBt.out.size)).trans (hB2.mono (HBt.out.trans (hbu.mono HBt.out.size)).size))
          have SV := Ow.sl ow2
          clear hbu hAu ow1 hg1 hB1 ow2 hg2 hB2 St S9t S6t HBt At Nt x0 x1 x2 z0 z1 z2
          go_wp2_with (first | (at_builtin; refine wpList_append_ok (by rfl) _ _ 24 (by rfl) (by rfl) (by rfl) hr1 ?_) | (at_builtin; refine wpList_append_ok (by rfl) _ _ 24 (by rfl) (by rfl) (by rfl) hr2 ?_) | fail)
          refine (sameInts_same _ _ (pcs d C f ln) _ SV S6u (by have := HPL.out; omega)).mono ?_
          rintro e wz ⟨rfl, hbz⟩
          have HBz := hide (HBu.out.trans (hbz.mono HBu.out.size))
          clear hbz HBu SV S6u
          go_wp2
          go_ret
          exact ⟨rfl, HBz.out⟩
      · have SRT : Sr W9 (.slice (some ⟨lp, kp * 5, none⟩) (ln - kp) (lc - kp)) 5 (ln - kp) (fun j => f (kp + j)) := SR9.from_ (by omega)
        go_wp2
        go_cut [12, 13] (fun p c wc => ∃ (B : Nat) (m b r cv : Value), p = .pointer (some ⟨B, 0, none⟩) ∧ c = cv ∧ Hid (Bq wc B m b r (pl d C f ln) C ∧ Sl wc cv (pcs (pl d C f kp) C (fun j => f (kp + j)) (ln - kp)) ∧ Below W9.heap.size W9 wc))
        case first =>
          refine wp_region_held_drew (S := fun w' => Below W9.heap.size W9 w') (by kernel_rfl) ((Below.refl _ _).drew) (fun hHeld => ?_)
          refine wpAnyH_take (i := 0) (v := .agg #[.slice xa nka ya, .slice xe C ye, .slice xf C yf]) rfl (by kernel_rfl) (by kernel_rfl) (by kernel_rfl) (fun _ _ _ h => h) (Or.inl ⟨by rfl, fun w' hSw => ?_⟩) (by assumption) ?_
          · (try dsimp only at hSw); have z0 := keepc hSw n0; have z1 := keepc hSw n1; have z2 := keepc hSw n2; go_simp
          try simp only [Act.put, List.getElem_toArray, List.getElem_cons_zero, List.getElem_cons_succ, List.setIfInBounds_toArray, List.set_cons_zero, List.set_cons_succ]
          refine wpAnyH_take (i := 1) (v := .slice (some ⟨lp, 0, none⟩) ln lc) rfl (by kernel_rfl) (by kernel_rfl) (by kernel_rfl) (fun _ _ _ h => h) (Or.inl ⟨by rfl, fun w' hSw => ?_⟩) (by assumption) ?_
          · (try dsimp only at hSw); skip; go_simp
          try simp only [Act.put, List.getElem_toArray, List.getElem_cons_zero, List.getElem_cons_succ, List.setIfInBounds_toArray, List.set_cons_zero, List.set_cons_succ]
          refine wpAnyH_take (i := 2) (v := .int .i64 kp) rfl (by kernel_rfl) (by kernel_rfl) (by kernel_rfl) (fun _ _ _ h => h) (Or.inl ⟨by rfl, fun w' hSw => ?_⟩) (by assumption) ?_
          · (try dsimp only at hSw); skip; go_simp
          try simp only [Act.put, List.getElem_toArray, List.getElem_cons_zero, List.getElem_cons_succ, List.setIfInBounds_toArray, List.set_cons_zero, List.set_cons_succ]
          refine wpAnyH_take (i := 3) (v := .slice (some ⟨lp, kp * 5, none⟩) (ln - kp) (lc - kp)) rfl (by kernel_rfl) (by kernel_rfl) (by kernel_rfl) (fun _ _ _ h => h) (Or.inl ⟨by rfl, fun w' hSw => ?_⟩) (by assumption) ?_
          · (try dsimp only at hSw); have he2 : ¬ (lc - kp = 0) := (by omega); go_simp
          try simp only [Act.put, List.getElem_toArray, List.getElem_cons_zero, List.getElem_cons_succ, List.setIfInBounds_toArray, List.set_cons_zero, List.set_cons_succ]
          obtain ⟨V0, hV0⟩ : ∃ V, W9.drew = V := ⟨_, rfl⟩
          rw [hV0] at hHeld ⊢
          clear hV0
          have hHe0 := hHeld
          refine wpAnyH_ready (rs := [4, 8]) (by kernel_rfl) (by simp) ?_
          refine AllReadyH.cons rfl (fun K hK => ?_) (AllReadyH.cons rfl (fun K hK => ?_) AllReadyH.nil)
          · go_simp
            refine (implPlay_yes _ _ _ (pl d C f kp) C (some ⟨lp, kp * 5, none⟩) (ln - kp) (lc - kp) (fun j => f (kp + j)) _ htK (by omega) (A9.tv.below hHeld) (Sr.below SRT hHeld)).mono ?_
            rintro e w5 ⟨m9, b9, r9, vb9, vr9, tag9, cv9, rfl, ta9, ow9, hb9⟩
            rw [HPA.out.1] at ta9
            obtain ⟨⟨xm9, ym9, rfl⟩, ⟨xb9, yb9, rfl⟩, ⟨xr9, yr9, rfl⟩⟩ := three_of (Ta.tv ta9)
            generalize hnk9 : (pl d C f ln).zs.length = nk9 at ta9
            have hHe2 := hHeld.trans (hb9.mono hHeld.size)
            refine hK.out _ _ hHe2 (fun hHeld => ?_)
            clear hK K
            try simp only [Act.put, List.getElem_toArray, List.getElem_cons_zero, List.getElem_cons_succ, List.setIfInBounds_toArray, List.set_cons_zero, List.set_cons_succ]
            refine wpAnyH_take (i := 5) (v := .tuple #[.agg #[.slice xm9 nk9 ym9, .slice xb9 C yb9, .slice xr9 C yr9], cv9]) rfl (by kernel_rfl) (by kernel_rfl) (by kernel_rfl) (fun _ _ _ h => h) (Or.inl ⟨by rfl, fun w' hSw => ?_⟩) (by assumption) ?_
            · (try dsimp only at hSw); skip; go_simp
            try simp only [Act.put, List.getElem_toArray, List.getElem_cons_zero, List.getElem_cons_succ, List.setIfInBounds_toArray, List.set_cons_zero, List.set_cons_succ]
            refine wpAnyH_take (i := 6) (v := .agg #[.slice xm9 nk9 ym9, .slice xb9 C yb9, .slice xr9 C yr9]) rfl (by kernel_rfl) (by kernel_rfl) (by kernel_rfl) (fun _ _ _ h => h) (Or.inl ⟨by rfl, fun w' hSw => ?_⟩) (by assumption) ?_
            · (try dsimp only at hSw); skip; go_simp
            try simp only [Act.put, List.getElem_toArray, List.getElem_cons_zero, List.getElem_cons_succ, List.setIfInBounds_toArray, List.set_cons_zero, List.set_cons_succ]
            refine wpAnyH_take (i := 7) (v := cv9) rfl (by kernel_rfl) (by kernel_rfl) (by kernel_rfl) (fun _ _ _ h => h) (Or.inl ⟨by rfl, fun w' hSw => ?_⟩) (by assumption) ?_
            · (try dsimp only at hSw); skip; go_simp
            try simp only [Act.put, List.getElem_toArray, List.getElem_cons_zero, List.getElem_cons_succ, List.setIfInBounds_toArray, List.set_cons_zero, List.set_cons_succ]
            refine wpAnyH_ready (rs := [8]) (by kernel_rfl) (by simp) ?_
            refine AllReadyH.cons rfl (fun K hK => ?_) AllReadyH.nil
            go_simp
            have hA9 : Below w5.heap.size w5 (w5.alloc (.cells #[nil3, nil3, nil3] 28)) := (Below.refl _ _).alloc (Nat.le_refl _) _
            refine hK.out _ _ (hHeld.trans (hA9.mono hHeld.size)) (fun hHeld => ?_)
            clear hK K
            try simp only [Act.put, List.getElem_toArray, List.getElem_cons_zero, List.getElem_cons_succ, List.setIfInBounds_toArray, List.set_cons_zero, List.set_cons_succ]
            have hA6 : Below w5.heap.size w5 (w5.alloc (.cells #[.slice xm9 nk9 ym9, .slice xb9 C yb9, .slice xr9 C yr9] 28)) := (Below.refl _ _).alloc (Nat.le_refl _) _
            have hb6 := hHe2.trans (hA6.mono hHe2.size)
            have HX := hide (And.intro (show Bq (w5.alloc (.cells #[.slice xm9 nk9 ym9, .slice xb9 C yb9, .slice xr9 C yr9] 28)) w5.heap.size _ _ _ (pl d C f ln) C from ⟨heap_alloc_new _ _, (Ta.tv ta9).below hA6⟩) (And.intro ((Ow.sl ow9).below hA6) hb6))
            clear ta9 ow9 hb9 hA6 hHe2 hA9
            refine wpAnyH_ready (rs := [9]) (by kernel_rfl) (by simp) ?_
            refine AllReadyH.cons rfl (fun K hK => ?_) AllReadyH.nil
            go_simp
            refine hK.out _ _ hb6 (fun hHeld => ?_)
            clear hK K
            try simp only [Act.put, List.getElem_toArray, List.getElem_cons_zero, List.getElem_cons_succ, List.setIfInBounds_toArray, List.set_cons_zero, List.set_cons_succ]
            refine wpAnyH_ready (rs := [10]) (by kernel_rfl) (by simp) ?_
            refine AllReadyH.cons rfl (fun K hK => ?_) AllReadyH.nil
            go_simp
            refine hK.out _ _ hHeld (fun hHeld => ?_)
            clear hK K hHeld
            try simp only [Act.put, List.getElem_toArray, List.getElem_cons_zero, List.getElem_cons_succ, List.setIfInBounds_toArray, List.set_cons_zero, List.set_cons_succ]
            refine wpAnyH_done (by kernel_rfl) ?_ _
            try go_wp2_with fail
            go_meet
            exact ⟨_, _, _, _, _, rfl, rfl, HX⟩
          · go_simp
            have hA9 : Below V0.heap.size V0 (V0.alloc (.cells #[nil3, nil3, nil3] 28)) := (Below.refl _ _).alloc (Nat.le_refl _) _
            have qB9 : (V0.alloc (.cells #[nil3, nil3, nil3] 28)).heap[V0.heap.size]? = some (.cells #[nil3, nil3, nil3] 28 (0, 0)) := heap_alloc_new _ _
            have sz0 := hHeld.size
            refine hK.out _ _ (hHeld.trans (hA9.mono hHeld.size)) (fun hHeld => ?_)
            clear hK K
            try simp only [Act.put, List.getElem_toArray, List.getElem_cons_zero, List.getElem_cons_succ, List.setIfInBounds_toArray, List.set_cons_zero, List.set_cons_succ]
            refine wpAnyH_ready (rs := [4]) (by kernel_rfl) (by simp) ?_
            refine AllReadyH.cons rfl (fun K hK => ?_) AllReadyH.nil
            go_simp
            refine (implPlay_yes _ _ _ (pl d C f kp) C (some ⟨lp, kp * 5, none⟩) (ln - kp) (lc - kp) (fun j => f (kp + j)) _ htK (by omega) (A9.tv.below hHeld) (Sr.below SRT hHeld)).mono ?_
            rintro e w5 ⟨m9, b9, r9, vb9, vr9, tag9, cv9, rfl, ta9, ow9, hb9⟩
            rw [HPA.out.1] at ta9
            obtain ⟨⟨xm9, ym9, rfl⟩, ⟨xb9, yb9, rfl⟩, ⟨xr9, yr9, rfl⟩⟩ := three_of (Ta.tv ta9)
            generalize hnk9 : (pl d C f ln).zs.length = nk9 at ta9
            have hHe2 := hHeld.trans (hb9.mono hHeld.size)
            have qB5 := heap_b qB9 hb9
            obtain ⟨fz9, c90, c91, c92⟩ := row3_facts qB5
            refine hK.out _ _ hHe2 (fun hHeld => ?_)
            clear hK K
            try simp only [Act.put, List.getElem_toArray, List.getElem_cons_zero, List.getElem_cons_succ, List.setIfInBounds_toArray, List.set_cons_zero, List.set_cons_succ]
            refine wpAnyH_take (i := 5) (v := .tuple #[.agg #[.slice xm9 nk9 ym9, .slice xb9 C yb9, .slice xr9 C yr9], cv9]) rfl (by kernel_rfl) (by kernel_rfl) (by kernel_rfl) (fun _ _ _ h => h) (Or.inl ⟨by rfl, fun w' hSw => ?_⟩) (by assumption) ?_
            · (try dsimp only at hSw); skip; go_simp
            try simp only [Act.put, List.getElem_toArray, List.getElem_cons_zero, List.getElem_cons_succ, List.setIfInBounds_toArray, List.set_cons_zero, List.set_cons_succ]
            refine wpAnyH_take (i := 6) (v := .agg #[.slice xm9 nk9 ym9, .slice xb9 C yb9, .slice xr9 C yr9]) rfl (by kernel_rfl) (by kernel_rfl) (by kernel_rfl) (fun _ _ _ h => h) (Or.inl ⟨by rfl, fun w' hSw => ?_⟩) (by assumption) ?_
            · (try dsimp only at hSw); skip; go_simp
            try simp only [Act.put, List.getElem_toArray, List.getElem_cons_zero, List.getElem_cons_succ, List.setIfInBounds_toArray, List.set_cons_zero, List.set_cons_succ]
            refine wpAnyH_take (i := 7) (v := cv9) rfl (by kernel_rfl) (by kernel_rfl) (by kernel_rfl) (fun _ _ _ h => h) (Or.inl ⟨by rfl, fun w' hSw => ?_⟩) (by assumption) ?_
            · (try dsimp only at hSw); skip; go_simp
            try simp only [Act.put, List.getElem_toArray, List.getElem_cons_zero, List.getElem_cons_succ, List.setIfInBounds_toArray, List.set_cons_zero, List.set_cons_succ]
            have hgr9 : w5.grownBy (((w5.setCell ⟨V0.heap.size, 0, none⟩ (.slice xm9 nk9 ym9)).setCell ⟨V0.heap.size, 1, none⟩ (.slice xb9 C yb9)).setCell ⟨V0.heap.size, 2, none⟩ (.slice xr9 C yr9)) (some V0.heap.size) := grown_trans (grown_trans (grown_set _ _ _ _) (grown_set _ _ _ _)) (grown_set _ _ _ _)
            have ta6 := Ta.grown ta9 hgr9 (fun g e => by simp only [Option.some.injEq] at e; simp; omega)
            have hb6 : Below W9.heap.size W9 (((w5.setCell ⟨V0.heap.size, 0, none⟩ (.slice xm9 nk9 ym9)).setCell ⟨V0.heap.size, 1, none⟩ (.slice xb9 C yb9)).setCell ⟨V0.heap.size, 2, none⟩ (.slice xr9 C yr9)) := hHe2.grown hgr9 hHe2.size (fun g e => by simp only [Option.some.injEq] at e; omega)
            have ow6 := own_keep ow9 (w' := (((w5.setCell ⟨V0.heap.size, 0, none⟩ (.slice xm9 nk9 ym9)).setCell ⟨V0.heap.size, 1, none⟩ (.slice xb9 C yb9)).setCell ⟨V0.heap.size, 2, none⟩ (.slice xr9 C yr9))) (fun g e hg => hgr9.block g hg (by have := own_at ow9 e; simp at this ⊢; omega))
            have qB : (((w5.setCell ⟨V0.heap.size, 0, none⟩ (.slice xm9 nk9 ym9)).setCell ⟨V0.heap.size, 1, none⟩ (.slice xb9 C yb9)).setCell ⟨V0.heap.size, 2, none⟩ (.slice xr9 C yr9)).heap[V0.heap.size]? = some (.cells #[.slice xm9 nk9 ym9, .slice xb9 C yb9, .slice xr9 C yr9] 28 (0, 0)) := by rw [heap_setCell_same _ _ 2 _ _ _ (heap_setCell_same _ _ 1 _ _ _ (heap_setCell_same _ _ 0 _ _ _ qB5))]; rfl
            have HX := hide (And.intro (show Bq (((w5.setCell ⟨V0.heap.size, 0, none⟩ (.slice xm9 nk9 ym9)).setCell ⟨V0.heap.size, 1, none⟩ (.slice xb9 C yb9)).setCell ⟨V0.heap.size, 2, none⟩ (.slice xr9 C yr9)) V0.heap.size _ _ _ (pl d C f ln) C from ⟨qB, Ta.tv ta6⟩) (And.intro (show Sl _ cv9 (pcs (pl d C f kp) C (fun j => f (kp + j)) (ln - kp)) from Ow.sl ow6) hb6))
            clear ta9 ta6 ow9 ow6 hb9 hgr9 hHe2 hA9 qB9 qB5 qB
            refine wpAnyH_ready (rs := [9]) (by kernel_rfl) (by simp) ?_
            refine AllReadyH.cons rfl (fun K hK => ?_) AllReadyH.nil
            go_simp
            refine hK.out _ _ hb6 (fun hHeld => ?_)
            clear hK K
            try simp only [Act.put, List.getElem_toArray, List.getElem_cons_zero, List.getElem_cons_succ, List.setIfInBounds_toArray, List.set_cons_zero, List.set_cons_succ]
            refine wpAnyH_ready (rs := [10]) (by kernel_rfl) (by simp) ?_
            refine AllReadyH.cons rfl (fun K hK => ?_) AllReadyH.nil
            go_simp
            refine hK.out _ _ hHeld (fun hHeld => ?_)
            clear hK K hHeld
            try simp only [Act.put, List.getElem_toArray, List.getElem_cons_zero, List.getElem_cons_succ, List.setIfInBounds_toArray, List.set_cons_zero, List.set_cons_succ]
            refine wpAnyH_done (by kernel_rfl) ?_ _
            try go_wp2_with fail
            go_meet
            exact ⟨_, _, _, _, _, rfl, rfl, HX⟩
        case rest =>
          obtain ⟨Wt, hW⟩ : ∃ W, W = wc := ⟨_, rfl⟩
          subst hW
          obtain ⟨Bt, mt, bt, rt, cvt, rfl, rfl, HCt⟩ := hcut
          obtain ⟨⟨xa2, ya2, rfl⟩, ⟨xe2, ye2, rfl⟩, ⟨xf2, yf2, rfl⟩⟩ := three_of HCt.out.1.tv
          obtain ⟨At, St, hbt⟩ := HCt.out
          generalize hnkt : (pl d C f ln).zs.length = nkt at At
          have Nt := N9.below hbt
          have S9t := S9.below hbt
          have S6t := S69.below hbt
          have HBt := hide (HB9.out.trans (hbt.mono HB9.out.size))
          clear HCt hbt X9 N9 S69 S9 SR9 HB9 SRT A9 n0 n1 n2 hnkt
          obtain ⟨_, x0, x1, x2⟩ := row3_facts At.box
          obtain ⟨_, z0, z1, z2⟩ := row3_facts Nt.box
          go_wp2_with fail
          refine (sameTso_same _ _ _ _ _ _ (pl d C f ln).zs C (pl d C f ln).L (pl d C f ln).F C (pl d C f ln).Z _ At.tv Nt.tv HTL.out).mono ?_
          rintro e wu ⟨rfl, hbu⟩
          have hAu : Below wu.heap.size wu (wu.alloc (.cells #[] 2)) := (Below.refl _ _).alloc (Nat.le_refl _) _
          obtain ⟨v1, wA, hr1, ow1, hg1⟩ := append_ints (wu.alloc (.cells #[] 2)) wu.heap.size (.slice (some ⟨wu.heap.size, 0, none⟩) 0 0) u11 [] (pcs d C f kp) 24 (empty_own wu 2 1) ((S9t.below hbu).below hAu) (by simp) (by have := HPK.out.1; omega) (by simp)
          rw [List.nil_append] at ow1
          have hB1 : Below wu.heap.size wu wA := hAu.grown hg1 hAu.size (fun g e => by simp only [Value.ownBlock, Option.some.injEq] at e; omega)
          obtain ⟨v2, wB, hr2, ow2, hg2⟩ := append_ints wA wu.heap.size v1 u13 (pcs d C f kp) (pcs (pl d C f kp) C (fun j => f (kp + j)) (ln - kp)) 24 ow1 ((St.below hbu).below hB1) (by have := HPK.out.1; omega) (by have := HPK.out.2; omega) hB1.size
          rw [HPA.out.2] at ow2
          have hB2 : Below wu.heap.size wu wB := hB1.grown hg2 hB1.size (fun g e => (own_at ow1 e).1)
          have S6u := (S6t.below hbu).below hB2
          have HBu := hide ((HBt.out.trans (hbu.mono HBt.out.size)).trans (hB2.mono (HBt.out.trans (hbu.mono HBt.out.size)).size))
          have SV := Ow.sl ow2
          clear hbu hAu ow1 hg1 hB1 ow2 hg2 hB2 St S9t S6t HBt At Nt x0 x1 x2 z0 z1 z2
          go_wp2_with (first | (at_builtin; refine wpList_append_ok (by rfl) _ _ 24 (by rfl) (by rfl) (by rfl) hr1 ?_) | (at_builtin; refine wpList_append_ok (by rfl) _ _ 24 (by rfl) (by rfl) (by rfl) hr2 ?_) | fail)
          refine (sameInts_same _ _ (pcs d C f ln) _ SV S6u (by have := HPL.out; omega)).mono ?_
          rintro e wz ⟨rfl, hbz⟩
          have HBz := hide (HBu.out.trans (hbz.mono HBu.out.size))
          clear hbz HBu SV S6u
          go_wp2
          go_ret
          exact ⟨rfl, HBz.out⟩

set_option maxRecDepth 100000 in
theorem lifted (os : Os) (started : os.Started) (H : Type) (enc : TypeId × Value → H) :
    ReturnsInHanded {} Try.checked os 10 .any (Rows.fnTsoPiecesSpec.pre6 enc Try.prog Try.f10 Rows.fnTsoPiecesRow.domain false) (Rows.fnTsoPiecesSpec.post enc Try.prog Try.f10 false true false false) := by
  refine returnsInHanded_of_change (C := Try.checked) own started (by kernel_rfl) Try.func10
    (ChangeSpec.witness6 (enc := enc) (C := Try.checked) false ⟨#[], #[.slice none 0 0], []⟩ 8 (by kernel_rfl) (by kernel_rfl) (by kernel_rfl) (by kernel_rfl)) ?_
  intro W base args ds gs before hval0 hW hcnd _
  have hval : ∀ (j : Nat) t v, Try.f10.params[j]? = some t → args[j]? = some v → Value.okWide Try.prog W .any base t v := hval0
  have hW' := hW
  obtain ⟨p, q, hA0, hV, rfl, hfz, hnd⟩ := hW
  have hA : DataW.TrodAll enc Try.prog W 0 (fun _ => true) true Try.f10.params.toList args.toList ds p := hA0
  rw [Try.params10] at hA hval
  obtain ⟨v0, vs0, d0, ds0, p0, q0, hargs, rfl, rfl, h0, r0⟩ := trodAll_cons hA
  obtain ⟨rfl, rfl, rfl⟩ := trodAll_nil r0
  obtain rfl : args = #[v0] := by cases args; simp_all
  obtain ⟨rfl, rfl⟩ := trodVars_none hV
  obtain ⟨a0, len0, cap0, rfl⟩ := okWide_slice Try.underlying22 (hval 0 22 v0 rfl rfl)
  have k0 := h0
  have lt0 : ∀ x ∈ p0, x.block < W.heap.size := by obtain ⟨m, hm⟩ := k0; exact DataW.trod_lt m _ _ _ hm
  obtain ⟨z0, w0⟩ : ∃ zs, IsRow .u8 W a0 len0 cap0 zs := by
    obtain ⟨fuel, hf⟩ := h0
    rcases open_ints Try.underlying22 Try.underlying5 (by kernel_rfl) hf with ⟨hcs, _⟩ | ⟨x, l, c, zs, hcs, _, hl, hm, hz, _, hcell, hwz⟩
    · simp [Value.cells] at hcs
      obtain ⟨rfl, rfl, rfl⟩ := hcs
      exact ⟨[], .inl ⟨rfl, rfl, rfl, rfl⟩⟩
    · simp [Value.cells] at hcs
      obtain ⟨rfl, rfl, rfl⟩ := hcs
      exact ⟨zs, .inr ⟨_, rfl, hl, hm, by simpa using hz, hcell, hwz⟩⟩
  clear hA0 hval0
  refine (walk a0 len0 cap0 W (row_bt w0)).mono fun e W' ⟨he, bel⟩ => ?_
  subst he
  exact ⟨_, rfl, _, _, _, [], _, [], hW', trodAll_mk1 (shut_bool Try.underlying4 _), (trodAll_cons_mk (Below.trod laidOut (by kernel_rfl) (of_decide_eq_true (by kernel_rfl)) k0 bel lt0) trodAll_mk0), rfl, bel.frame _, fun h => by cases h⟩

theorem over : Rows.fnTsoPiecesRow.holds Try.pinned (OpenSpec.ofChange Rows.fnTsoPiecesSpec) :=
  OpenClaim.holds_of_wide 10 Try.f10 rfl rfl rfl rfl rfl rfl rfl ⟨rfl, rfl, rfl, rfl, rfl⟩ rfl rfl rfl rfl rfl (by kernel_rfl) Try.func10 (by kernel_rfl)
    (of_decide_eq_true (by kernel_rfl)) (by unfold Func.isWrapper; first | (rw [if_pos (by decide +kernel)]; kernel_rfl) | (rw [if_neg (by decide +kernel)]; exact ⟨rfl, rfl⟩))
    (fun os started H enc _ => lifted os started H enc)

theorem proved : Rows.FnTsoPiecesSaid := over
end Go.Proofs.Ytneofegnbflfiaa.fnTsoPieces

namespace Go.Proofs.Ytneofegnbflfiaa
theorem fnTsoPieces_holds : Rows.FnTsoPiecesSaid := fnTsoPieces.proved
end Go.Proofs.Ytneofegnbflfiaa
