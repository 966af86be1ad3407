/- spec.TsoOk -/
import Derived.Test.YtfnnjgbodlngdaaDoorTsE
namespace Go.Proofs.YtfnnjgbodlngdaaDoor
open Go.RowKit
set_option linter.unusedVariables false
set_option linter.unusedSimpArgs false

set_option maxHeartbeats 1000000 in
theorem l1InB (n lo hi : Int) (w : World) : Calls Tryd.prog 48 #[.int .i64 n, .int .i64 lo, .int .i64 hi] w fun e w' => e = .returned (.bool (inB n lo (hi + 1))) ∧ w' = w := by
  by_cases h0 : lo ≤ n
  · by_cases h1 : n ≤ hi
    · have HO : Hid (true = inB n lo (hi + 1)) := hide (by simp [inB, h0]; omega)
      go_enter Tryd.func48, Tryd.ntmps48
      go_wp2
      go_ret
      exact ⟨ret_b HO.out, rfl⟩
    · have HO : Hid (false = inB n lo (hi + 1)) := hide (by simp [inB]; omega)
      go_enter Tryd.func48, Tryd.ntmps48
      go_wp2
      go_ret
      exact ⟨ret_b HO.out, rfl⟩
  · have HO : Hid (false = inB n lo (hi + 1)) := hide (by simp [inB]; omega)
    go_enter Tryd.func48, Tryd.ntmps48
    go_wp2
    go_ret
    exact ⟨ret_b HO.out, rfl⟩

theorem digB_no {zs : List Int} {c k : Nat} (hl : zs.length = c) (hk : k < c) (h : inB (zs.getD k 0) 0 10 = false) : digB zs c = false := by
  rw [digB, all_no (p := fun j => inB (zs.getD j 0) 0 10) (n := zs.length) (by omega) h, Bool.and_false]
theorem digB_yes {zs : List Int} {c : Nat} (hl : zs.length = c) (h : ∀ j, j < c → inB (zs.getD j 0) 0 10 = true) : digB zs c = true := by
  rw [digB, decide_eq_true hl, decide_eq_true (fun j hj => h j (by omega))]; rfl
theorem stB_no {n k : Nat} {f : Nat → Nat → Int} (hk : k < n) (h : (inB (f k 0) 0 3 && inB (f k 1) 0 10) = false) : stB n f = false := by
  rw [stB, all_no (p := fun j => inB (f j 0) 0 3 && inB (f j 1) 0 10) hk h, Bool.and_false]
theorem stB_yes {n : Nat} {f : Nat → Nat → Int} (hn : n ≤ 4) (h : ∀ j, j < n → (inB (f j 0) 0 3 && inB (f j 1) 0 10) = true) : stB n f = true := by
  rw [stB, decide_eq_true hn, decide_eq_true h]; rfl

set_option maxHeartbeats 8000000 in
set_option maxRecDepth 20000 in
theorem specTsoOk_any (mv bv rv : Value) (zs : List Int) (C : Nat) (L : Nat → Nat) (F : Nat → Nat → Nat → Int) (R : Nat) (Z : Nat → List Int) (w : World) (h : Tv w mv bv rv zs C L F R Z) :
    Calls Tryd.prog 31 #[.agg #[mv, bv, rv]] w fun e w' => e = .returned (.bool (tokB zs C L F R Z)) ∧ Below w.heap.size w w' := by
  have hB0 : Below w.heap.size w (w.alloc (.cells #[mv, bv, rv] 42)) := (Below.refl _ _).alloc (Nat.le_refl _) _
  obtain ⟨a0, a1, a2⟩ := box3 w mv bv rv 42
  obtain ⟨⟨ma, mc, rfl, hmem⟩, ⟨ba, bc, rfl, hbuf⟩, ⟨ra, rc, rfl, hreg⟩⟩ := h
  have hbo := fun W => l1InB (C : Int) 1 3 W
  by_cases hm : zs.length = 3
  case neg =>
    have HO : Hid (false = tokB zs C L F R Z) := hide (by simp [tokB, digB, hm])
    have hne : ¬ (zs.length : Int) = 3 := by omega
    clear hmem hbuf hreg hbo
    go_enter Tryd.func31, Tryd.ntmps31
    go_wp2
    go_ret
    exact ⟨ret_b HO.out, hB0⟩
  obtain ⟨z, hzf⟩ : ∃ z : Nat → Int, z = fun j => zs.getD j 0 := ⟨_, rfl⟩
  have HD : Hid ((∀ k, k < 3 → inB (z k) 0 10 = false → digB zs 3 = false) ∧ ((∀ j, j < 3 → inB (z j) 0 10 = true) → digB zs 3 = true)) := hide (by subst hzf; exact ⟨fun k hk h => digB_no hm hk h, fun h => digB_yes hm h⟩)
  rw [hm] at hmem a0
  have hmz : ∃ b off, ma = some ⟨b, off, none⟩ ∧ ∀ j, j < 3 → w.cell? ⟨b, off + j, none⟩ = some (.int .i64 (z j)) := by subst hzf; exact hmem (by omega)
  obtain ⟨bm, om, rfl, hmz⟩ := hmz
  rw [hm]
  clear hmem hm hzf
  obtain ⟨W, hW⟩ : ∃ W, w.alloc (.cells #[.slice (some ⟨bm, om, none⟩) 3 mc, .slice ba C bc, .slice ra R rc] 42) = W := ⟨_, rfl⟩
  have a0 : W.cell? ⟨w.heap.size, 0, none⟩ = some (.slice (some ⟨bm, om, none⟩) 3 mc) := by rw [← hW]; exact (box3 w _ _ _ _).1
  have a1 : W.cell? ⟨w.heap.size, 1, none⟩ = some (.slice ba C bc) := by rw [← hW]; exact (box3 w _ _ _ _).2.1
  have a2 : W.cell? ⟨w.heap.size, 2, none⟩ = some (.slice ra R rc) := by rw [← hW]; exact (box3 w _ _ _ _).2.2
  have hB : Below w.heap.size w W := by rw [← hW]; exact (Below.refl _ _).alloc (Nat.le_refl _) _
  clear hB0
  cases hx : inB C 1 4
  · have HO : Hid (false = tokB zs C L F R Z) := hide (by simp [tokB, hx])
    have hbo : ∀ W, _ := fun W => (hbo W).mono (fun e w' h => by rw [show ((3 : Int) + 1) = 4 from rfl, hx] at h; exact h)
    clear hx hbuf hreg
    go_enter Tryd.func31, Tryd.ntmps31
    go_wp2_with fail
    refine (hbo _).mono ?_
    rintro e w2 ⟨rfl, rfl⟩
    clear hbo
    go_wp2
    go_ret
    exact ⟨ret_b HO.out, hB⟩
  have hbo : ∀ W, _ := fun W => (hbo W).mono (fun e w' h => by rw [show ((3 : Int) + 1) = 4 from rfl, hx] at h; exact h)
  go_enter Tryd.func31, Tryd.ntmps31
  go_wp2_with fail
  refine (hbo _).mono ?_
  rintro e w2 ⟨rfl, rfl⟩
  clear hbo
  by_cases hR : R = C
  case neg =>
    have HO : Hid (false = tokB zs C L F R Z) := hide (by simp [tokB, hR])
    have hne : ¬ (R : Int) = (C : Int) := by omega
    clear hx hbuf hreg
    go_wp2
    go_ret
    exact ⟨ret_b HO.out, hB⟩
  subst hR
  have hR3 : R ≤ 3 := by simp [inB] at hx; omega
  have HX := hide hx
  have HN : Hid (digB zs 3 = false → false = tokB zs R L F R Z) := hide (fun h => by simp [tokB, h])
  clear hx hW
  go_wp2
  go_loopw [3] (fun i wr => ∃ k : Nat, k ≤ 3 ∧ i = .int .i64 k ∧ wr = w2 ∧ Hid (∀ j, j < k → inB (z j) 0 10 = true)) (fun i _ => 3 - (intOf i).toNat)
  case atStart => exact ⟨0, Nat.zero_le _, rfl, rfl, hide (fun j hj => by omega)⟩
  case round =>
    obtain ⟨k, hk, rfl, rfl, HA⟩ := hrel
    by_cases hlt : k < 3
    · have hck : wr.cell? ⟨bm, om + k, none⟩ = some (.int .i64 (z k)) := Below.keep hB _ _ (hmz k hlt)
      have hA := fun w => l1InB (z k) 0 9 w
      have hk1 : (k : Int) < 3 := by omega
      cases hx : inB (z k) 0 10
      · have HO : Hid (false = tokB zs R L F R Z) := hide (HN.out (HD.out.1 k hlt hx))
        have hA : ∀ W, _ := fun W => (hA W).mono (fun e w' h => by rw [show ((9 : Int) + 1) = 10 from rfl, hx] at h; exact h)
        clear hx hbuf hreg hmz
        generalize z k = zk at hck hA
        go_wp2_with fail
        refine (hA _).mono ?_
        rintro e w2 ⟨rfl, rfl⟩
        clear hA
        go_wp2
        go_ret
        exact ⟨ret_b HO.out, hB⟩
      · have HA2 : Hid (∀ j, j < k + 1 → inB (z j) 0 10 = true) := hide (fun j hj => by
          by_cases e : j = k
          · rw [e]; exact hx
          · exact HA.out j (by omega))
        have hA : ∀ W, _ := fun W => (hA W).mono (fun e w' h => by rw [show ((9 : Int) + 1) = 10 from rfl, hx] at h; exact h)
        clear hx HA hbuf hreg hmz
        generalize z k = zk at hck hA
        go_wp2_with fail
        refine (hA _).mono ?_
        rintro e w2 ⟨rfl, rfl⟩
        clear hA
        go_wp2
        go_roundw
        case rel => exact ⟨k + 1, by omega, by go_num, by first | rfl | trivial, HA2⟩
        case measure => simp [intOf]; omega
    · have HXY : Hid (inB R 1 4 = true ∧ digB zs 3 = true) := hide ⟨HX.out, HD.out.2 (fun j hj => HA.out j (by omega))⟩
      clear HA hmz HD HX
      go_wp2
      go_loopw [4] (fun i wr' => ∃ k : Nat, k ≤ R ∧ i = .int .i64 k ∧ wr' = wr ∧ Hid (∀ c, c < k → (stB (L c) (F c) && digB (Z c) 2) = true)) (fun i _ => R - (intOf i).toNat)
      case atStart => exact ⟨0, Nat.zero_le _, rfl, rfl, hide (fun j hj => by omega)⟩
      case round =>
        obtain ⟨k, hk, rfl, rfl, HA⟩ := hrel
        by_cases hlt : k < R
        · obtain ⟨p, off, rfl, hc⟩ := hbuf (by omega)
          obtain ⟨q, off', rfl, hd⟩ := hreg (by omega)
          obtain ⟨ia, ic, p0', hp⟩ := hc k hlt
          obtain ⟨ja, jc, p1', hq⟩ := hd k hlt
          have p0 := Below.keep hB _ _ p0'
          have p1 := Below.keep hB _ _ p1'
          obtain ⟨ia', ic', ei, hps⟩ := hp
          obtain ⟨ja', jc', ej, hqs⟩ := hq
          simp only [Value.slice.injEq, true_and] at ei ej
          obtain ⟨rfl, rfl⟩ := ei
          obtain ⟨rfl, rfl⟩ := ej
          have hk1 : (k : Int) < (R : Int) := by omega
          have HF : Hid ((stB (L k) (F k) && digB (Z k) 2) = false → false = tokB zs R L F R Z) := hide (fun h => by rw [tokB, all_no (p := fun c => stB (L c) (F c) && digB (Z c) 2) hlt h]; simp)
          clear hc hd hbuf hreg p0' p1'
          by_cases h4 : L k ≤ 4
          case neg =>
            have HO := hide (HF.out (by simp [stB, h4]))
            have h4' : ¬ (L k : Int) ≤ 4 := by omega
            clear hps hqs HA
            generalize L k = n at *
            go_wp2
            go_ret
            exact ⟨ret_b HO.out, hB⟩
          have h4i : (L k : Int) ≤ 4 := by omega
          by_cases h2 : (Z k).length = 2
          case neg =>
            have HO := hide (HF.out (by simp [digB, h2]))
            have h2' : ¬ ((Z k).length : Int) = 2 := by omega
            clear hps hqs HA
            generalize (Z k).length = nz at *
            have hb2 : ((nz : Int) != 2) = true := by simp; omega
            go_wp2
            go_ret
            exact ⟨ret_b HO.out, hB⟩
          generalize hn : L k = n at p0 hps h4 h4i HF
          generalize hf : F k = f at hps HF
          generalize hzk : Z k = zl at p1 hqs HF h2
          have HE := hide (And.intro hn (And.intro hf hzk))
          clear hn hf hzk
          obtain ⟨z2, hz2⟩ : ∃ z2 : Nat → Int, z2 = fun j => zl.getD j 0 := ⟨_, rfl⟩
          have HD2 : Hid ((∀ k, k < 2 → inB (z2 k) 0 10 = false → digB zl 2 = false) ∧ ((∀ j, j < 2 → inB (z2 j) 0 10 = true) → digB zl 2 = true)) := hide (by subst hz2; exact ⟨fun k hk h => digB_no h2 hk h, fun h => digB_yes h2 h⟩)
          rw [h2] at p1 hqs
          have hqz : ∃ b off, ja = some ⟨b, off, none⟩ ∧ ∀ j, j < 2 → w.cell? ⟨b, off + j, none⟩ = some (.int .i64 (z2 j)) := by subst hz2; exact hqs (by omega)
          obtain ⟨b4, o4, rfl, hqz⟩ := hqz
          clear hqs h2 hz2
          go_wp2
          go_loopw [5] (fun i wr' => ∃ j : Nat, j ≤ n ∧ i = .int .i64 j ∧ wr' = wr ∧ Hid (∀ i, i < j → (inB (f i 0) 0 3 && inB (f i 1) 0 10) = true)) (fun i _ => n - (intOf i).toNat)
          case atStart => exact ⟨0, Nat.zero_le _, rfl, rfl, hide (fun j hj => by omega)⟩
          case round =>
            obtain ⟨j, hj, rfl, rfl, HS⟩ := hrel
            by_cases hlj : j < n
            · obtain ⟨b3, o3, rfl, h3⟩ := hps (by omega)
              have q0 : wr.cell? ⟨b3, o3 + j * 2, none⟩ = some (.int .i64 (f j 0)) := Below.keep hB _ _ (h3 j hlj 0 (by decide))
              have q1 : wr.cell? ⟨b3, o3 + j * 2 + 1, none⟩ = some (.int .i64 (f j 1)) := Below.keep hB _ _ (h3 j hlj 1 (by decide))
              have hj1 : (j : Int) < (n : Int) := by omega
              have hA := fun w => l1InB (f j 0) 0 2 w
              have hA' := fun w => l1InB (f j 1) 0 9 w
              clear hps h3
              cases hx : inB (f j 0) 0 3
              · have HO := hide (HF.out (by rw [stB_no hlj (by simp [hx])]; rfl))
                have hA : ∀ W, _ := fun W => (hA W).mono (fun e w' h => by rw [show ((2 : Int) + 1) = 3 from rfl, hx] at h; exact h)
                clear hx hA'
                generalize f j 0 = x0 at q0 hA
                go_wp2_with fail
                refine (hA _).mono ?_
                rintro e w5 ⟨rfl, rfl⟩
                clear hA
                go_wp2
                go_ret
                exact ⟨ret_b HO.out, hB⟩
              cases hy : inB (f j 1) 0 10
              · have HO := hide (HF.out (by rw [stB_no hlj (by simp [hy])]; rfl))
                have hA : ∀ W, _ := fun W => (hA W).mono (fun e w' h => by rw [show ((2 : Int) + 1) = 3 from rfl, hx] at h; exact h)
                have hA' : ∀ W, _ := fun W => (hA' W).mono (fun e w' h => by rw [show ((9 : Int) + 1) = 10 from rfl, hy] at h; exact h)
                clear hx hy
                generalize f j 0 = x0 at q0 hA
                generalize f j 1 = x1 at q1 hA'
                go_wp2_with fail
                refine (hA _).mono ?_
                rintro e w5 ⟨rfl, rfl⟩
                clear hA
                go_wp2_with fail
                refine (hA' _).mono ?_
                rintro e w5 ⟨rfl, rfl⟩
                clear hA'
                go_wp2
                go_ret
                exact ⟨ret_b HO.out, hB⟩
              have HS2 : Hid (∀ i, i < j + 1 → (inB (f i 0) 0 3 && inB (f i 1) 0 10) = true) := hide (fun i hi => by
                by_cases e : i = j
                · rw [e, hx, hy]; rfl
                · exact HS.out i (by omega))
              have hA : ∀ W, _ := fun W => (hA W).mono (fun e w' h => by rw [show ((2 : Int) + 1) = 3 from rfl, hx] at h; exact h)
              have hA' : ∀ W, _ := fun W => (hA' W).mono (fun e w' h => by rw [show ((9 : Int) + 1) = 10 from rfl, hy] at h; exact h)
              clear hx hy HS
              generalize f j 0 = x0 at q0 hA
              generalize f j 1 = x1 at q1 hA'
              go_wp2_with fail
              refine (hA _).mono ?_
              rintro e w5 ⟨rfl, rfl⟩
              clear hA
              go_wp2_with fail
              refine (hA' _).mono ?_
              rintro e w5 ⟨rfl, rfl⟩
              clear hA'
              go_wp2
              go_roundw
              case rel => exact ⟨j + 1, by omega, by go_num, by first | rfl | trivial, HS2⟩
              case measure => simp [intOf]; omega
            · have e : j = n := by omega
              subst e
              have HS3 := hide (stB_yes h4 HS.out)
              clear hps HS hlj hj
              go_wp2
              go_loopw [6] (fun i wr' => ∃ i6 : Nat, i6 ≤ 2 ∧ i = .int .i64 i6 ∧ wr' = wr ∧ Hid (∀ i, i < i6 → inB (z2 i) 0 10 = true)) (fun i _ => 2 - (intOf i).toNat)
              case atStart => exact ⟨0, Nat.zero_le _, rfl, rfl, hide (fun j hj => by omega)⟩
              case round =>
                obtain ⟨i6, hi6, rfl, rfl, HT⟩ := hrel
                by_cases hl6 : i6 < 2
                · have hck : wr.cell? ⟨b4, o4 + i6, none⟩ = some (.int .i64 (z2 i6)) := Below.keep hB _ _ (hqz i6 hl6)
                  have hA := fun w => l1InB (z2 i6) 0 9 w
                  have hi1 : (i6 : Int) < 2 := by omega
                  clear hqz
                  cases hx : inB (z2 i6) 0 10
                  · have HO := hide (HF.out (by rw [HD2.out.1 i6 hl6 hx, Bool.and_false]))
                    have hA : ∀ W, _ := fun W => (hA W).mono (fun e w' h => by rw [show ((9 : Int) + 1) = 10 from rfl, hx] at h; exact h)
                    clear hx
                    generalize z2 i6 = x6 at hck hA
                    go_wp2_with fail
                    refine (hA _).mono ?_
                    rintro e w5 ⟨rfl, rfl⟩
                    clear hA
                    go_wp2
                    go_ret
                    exact ⟨ret_b HO.out, hB⟩
                  have HT2 : Hid (∀ i, i < i6 + 1 → inB (z2 i) 0 10 = true) := hide (fun i hi => by
                    by_cases e : i = i6
                    · rw [e]; exact hx
                    · exact HT.out i (by omega))
                  have hA : ∀ W, _ := fun W => (hA W).mono (fun e w' h => by rw [show ((9 : Int) + 1) = 10 from rfl, hx] at h; exact h)
                  clear hx HT
                  generalize z2 i6 = x6 at hck hA
                  go_wp2_with fail
                  refine (hA _).mono ?_
                  rintro e w5 ⟨rfl, rfl⟩
                  clear hA
                  go_wp2
                  go_roundw
                  case rel => exact ⟨i6 + 1, by omega, by go_num, by first | rfl | trivial, HT2⟩
                  case measure => simp [intOf]; omega
                · have HA2 : Hid (∀ c, c < k + 1 → (stB (L c) (F c) && digB (Z c) 2) = true) := hide (fun c hc => by
                    by_cases e : c = k
                    · rw [e, HE.out.1, HE.out.2.1, HE.out.2.2, HS3.out, HD2.out.2 (fun j hj => HT.out j (by omega))]; rfl
                    · exact HA.out c (by omega))
                  clear HA hqz HT
                  go_wp2
                  go_roundw
                  case rel => exact ⟨k + 1, by omega, by go_num, by first | rfl | trivial, HA2⟩
                  case measure => simp [intOf]; omega
        · have e : k = R := by omega
          subst e
          have HO : Hid (true = tokB zs k L F k Z) := hide (by rw [tokB, HXY.out.1, HXY.out.2, decide_eq_true HA.out]; simp)
          clear hbuf hreg
          go_wp2
          go_ret
          exact ⟨ret_b HO.out, hB⟩

end Go.Proofs.YtfnnjgbodlngdaaDoor
