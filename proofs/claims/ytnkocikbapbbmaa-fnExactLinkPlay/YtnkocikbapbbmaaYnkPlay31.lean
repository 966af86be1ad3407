/- LdW -/
import Derived.Test.YtnkocikbapbbmaaYnkPlay28
/- spec.LinkOk of a link whose rows lie anywhere, or are nil -/
namespace Go.Proofs.Ytnkocikbapbbmaa
open Go.RowKit
set_option linter.unusedVariables false
set_option linter.unusedSimpArgs false

theorem app_texts_o (W : World) (base : Nat) (v : Value) (n : Nat) (xs : List Value) (ad : Option Addr) (m c : Nat) (s : Nat → ByteArray) (ty : TypeId) (ho : W.ownsRow base 9 1 v n xs) (hs : Sg W (.slice ad m c) 1 m (tF s)) (hb : base ≤ W.heap.size) (hl : n + m ≤ 4194304) :
    ∃ v' w', (Builtin.append_ #[22, 22] ty #[v, .slice ad m c]).run Try.prog W = .ok v' w' ∧ w'.ownsRow base 9 1 v' (n + m) (xs ++ tl m s) ∧ W.grownBy w' v.ownBlock := by
  by_cases h0 : m = 0
  · subst h0
    obtain ⟨i0, hi, hz0, hz1, hz2⟩ := info_parts infoStr
    obtain ⟨a, k, rfl⟩ := own_form ho
    refine ⟨_, W, append_zero W _ ty 9 i0 Try.underlying22 hi a ad n k c (own_cap ho a n k rfl), ?_, World.grownBy.refl _ _⟩
    simpa [tl] using ho
  · obtain ⟨b, off, rfl, _⟩ := hs.at1 (by omega) rfl
    exact app_texts W base v n xs b off m c s ty ho hs hb hl


set_option maxRecDepth 20000 in
set_option maxHeartbeats 8000000 in
theorem specLinkOk_o (p : Lk) (wa ga da ua : Option Addr) (wc gc dc uc : Nat) (w : World) (hv : Lv w (.slice wa p.nw wc) (.slice ga p.ng gc) (.slice da p.nd dc) (.slice ua p.nu uc) p) (hs : Lsm 1048576 p) :
    Calls Try.prog 8 #[.agg (l6 p.base (.slice wa p.nw wc) p.want (.slice ga p.ng gc) (.slice da p.nd dc) (.slice ua p.nu uc))] w fun e w' => e = .returned (.bool (lkB p)) ∧ Below w.heap.size w w' := by
  have hB0 : Below w.heap.size w (w.alloc (.cells (l6 p.base (.slice wa p.nw wc) p.want (.slice ga p.ng gc) (.slice da p.nd dc) (.slice ua p.nu uc)) 30)) := (Below.refl _ _).alloc (Nat.le_refl _) _
  have qa := heap_alloc_new w (.cells (l6 p.base (.slice wa p.nw wc) p.want (.slice ga p.ng gc) (.slice da p.nd dc) (.slice ua p.nu uc)) 30)
  obtain ⟨w5, hE⟩ : ∃ W, w.alloc (.cells (l6 p.base (.slice wa p.nw wc) p.want (.slice ga p.ng gc) (.slice da p.nd dc) (.slice ua p.nu uc)) 30) = W := ⟨_, rfl⟩
  rw [hE] at hB0 qa
  have HV := hide (hv.below hB0)
  obtain ⟨_, x0, x1, x2, x3, x4, x5⟩ := box6 qa
  have HLK := hide (lk_eq p)
  obtain ⟨⟨s1, _⟩, ⟨s2, _⟩, ⟨s3, _⟩, ⟨s4, _⟩⟩ := hs
  have HNBF : Hid (¬ nbP p.base p.want p.nw p.ng → false = lkB p) := hide (fun h => by rw [HLK.out, show nbB p.base p.want p.nw p.ng = false from decide_eq_false h]; rfl)
  have HDN := hide (specWires_any _ p.nd p.dt p.dh w5 HV.out.dn s3)
  have HUP := hide (specWires_any _ p.nu p.ut p.uh w5 HV.out.up s4)
  clear hv
  have HI1 := hide (l1InD p.base 0 999900 w5)
  by_cases n1 : ¬ (0 ≤ p.base ∧ p.base ≤ 999900)
  · have HO := hide (HNBF.out (fun h => n1 ⟨h.1, h.2.1⟩))
    rw [show decide (0 ≤ p.base ∧ p.base ≤ 999900) = false from decide_eq_false n1] at HI1
    generalize lkB p = res at HO ⊢
    clear HNBF HLK n1
    go_enter Try.func8, Try.ntmps8
    go_wp2_with fail
    refine HI1.out.mono ?_
    rintro e w1 ⟨rfl, rfl⟩
    go_wp2
    go_ret
    exact ⟨retb HO.out, hB0⟩
  replace n1 := Decidable.of_not_not n1
  rw [show decide (0 ≤ p.base ∧ p.base ≤ 999900) = true from decide_eq_true n1] at HI1
  by_cases n3 : 8 < p.nw
  · have HO := hide (HNBF.out (fun h => by have := h.2.2.1; omega))
    have d3 : decide ((8 : Int) < (p.nw : Int)) = true := by simp; omega
    generalize lkB p = res at HO ⊢
    clear HNBF HLK
    go_enter Try.func8, Try.ntmps8
    go_wp2_with fail
    refine HI1.out.mono ?_
    rintro e w1 ⟨rfl, rfl⟩
    go_wp2
    go_ret
    exact ⟨retb HO.out, hB0⟩
  have d3 : decide ((8 : Int) < (p.nw : Int)) = false := by simp; omega
  have hwr : wrap64 (p.base + (p.nw : Int)) = p.base + p.nw := Go.IntWalk.wrap64_in _ (by omega)
  have HI2 := hide (l1InD p.want p.base (p.base + p.nw) w5)
  by_cases n4 : ¬ (p.base ≤ p.want ∧ p.want ≤ p.base + p.nw)
  · have HO := hide (HNBF.out (fun h => n4 ⟨h.2.2.2.1, h.2.2.2.2.1⟩))
    rw [show decide (p.base ≤ p.want ∧ p.want ≤ p.base + p.nw) = false from decide_eq_false n4] at HI2
    generalize lkB p = res at HO ⊢
    clear HNBF HLK n4
    go_enter Try.func8, Try.ntmps8
    go_wp2_with fail
    refine HI1.out.mono ?_
    rintro e w1 ⟨rfl, rfl⟩
    go_wp2_with fail
    refine HI2.out.mono ?_
    rintro e w1 ⟨rfl, rfl⟩
    go_wp2
    go_ret
    exact ⟨retb HO.out, hB0⟩
  replace n4 := Decidable.of_not_not n4
  rw [show decide (p.base ≤ p.want ∧ p.want ≤ p.base + p.nw) = true from decide_eq_true n4] at HI2
  by_cases n6 : ¬ p.want = (p.ng : Int)
  · have HO := hide (HNBF.out (fun h => n6 h.2.2.2.2.2))
    have d6 : ((p.ng : Int) == p.want) = false := by rw [beq_eq_false_iff_ne]; exact fun e => n6 e.symm
    have d7 : ((p.ng : Int) != p.want) = true := by simpa using fun e => n6 e.symm
    have d8 : ¬ (p.ng : Int) = p.want := fun e => n6 e.symm
    generalize lkB p = res at HO ⊢
    clear HNBF HLK n6
    go_enter Try.func8, Try.ntmps8
    go_wp2_with fail
    refine HI1.out.mono ?_
    rintro e w1 ⟨rfl, rfl⟩
    go_wp2_with fail
    refine HI2.out.mono ?_
    rintro e w1 ⟨rfl, rfl⟩
    go_wp2
    go_ret
    exact ⟨retb HO.out, hB0⟩
  replace n6 := Decidable.of_not_not n6
  obtain ⟨bn, hbn⟩ := Int.eq_ofNat_of_zero_le n1.1
  have HLK2 : Hid (lkB p = (boB bn p.nw p.ng p.ws p.gs && wiB p.nd p.dt && wiB p.nu p.ut)) := hide (by
    rw [HLK.out, show nbB p.base p.want p.nw p.ng = true from decide_eq_true ⟨n1.1, n1.2, by omega, n4.1, n4.2, n6⟩, hbn, Int.toNat_natCast, Bool.true_and])
  have d6 : ((p.ng : Int) == p.want) = true := by rw [n6]; simp
  have hbg : bn ≤ p.ng := by omega
  have hgw : p.ng - bn ≤ p.nw := by omega
  clear HNBF HLK
  rw [hbn, n6] at HI2
  rw [hbn] at HI1 hwr
  rw [hbn] at x0
  rw [n6] at x2 d6
  have hwr2 : (bn : Int) ≤ 999900 := by omega
  rw [hbn, n6] at hE ⊢
  have n6x := n6
  have hbx := hbn
  clear n1 n4 n6 hbn
  generalize lkB p = res at HLK2 ⊢
  generalize wiB p.nd p.dt = wd at HDN HLK2
  generalize wiB p.nu p.ut = wu at HUP HLK2
  go_enter Try.func8, Try.ntmps8
  go_wp2_with fail
  refine HI1.out.mono ?_
  rintro e w1 ⟨rfl, hw1⟩
  rw [hw1]
  clear hw1 w1
  go_wp2_with fail
  refine HI2.out.mono ?_
  rintro e w1 ⟨rfl, hw1⟩
  rw [hw1]
  clear hw1 w1
  go_wp2_with fail
  refine HDN.out.mono ?_
  rintro e w1 ⟨rfl, hw1⟩
  rw [hw1]
  clear hw1 w1
  cases wd with
  | false =>
    have HO : Hid (false = res) := hide (by rw [HLK2.out]; simp)
    go_wp2
    go_ret
    exact ⟨retb HO.out, hB0⟩
  | true =>
    go_wp2_with fail
    refine HUP.out.mono ?_
    rintro e w1 ⟨rfl, hw1⟩
    rw [hw1]
    clear hw1 w1
    cases wu with
    | false =>
      have HO : Hid (false = res) := hide (by rw [HLK2.out]; simp)
      go_wp2
      go_ret
      exact ⟨retb HO.out, hB0⟩
    | true =>
      have hA6 : Below w5.heap.size w5 (w5.drew.alloc (.cells #[] 9)) := ((Below.refl _ _).drew).alloc (Nat.le_refl _) _
      obtain ⟨v7, w7, hrun1, ho7, hg7⟩ := app_texts_o (w5.drew.alloc (.cells #[] 9)) w5.heap.size (.slice (some ⟨w5.heap.size, 0, none⟩) 0 0) 0 [] wa p.nw wc p.ws 22 ⟨rfl, .inr ⟨w5.heap.size, 0, #[], rfl, Nat.le_refl _, heap_alloc_new w5.drew _, Nat.le_refl _, by decide, rfl, rfl⟩⟩ (HV.out.wa.below hA6) hA6.size (by omega)
      have hB7 : Below w5.heap.size w5 w7 := hA6.grown hg7 hA6.size (fun k hk => by simp [Value.ownBlock] at hk; omega)
      obtain ⟨v8, w8, hrun2, ho8, hg8⟩ := app_texts_o w7 w5.heap.size v7 (0 + p.nw) ([] ++ tl p.nw p.ws) ga p.ng gc p.gs 22 ho7 (HV.out.go.below hB7) hB7.size (by omega)
      have hB8 : Below w5.heap.size w5 w8 := hB7.grown hg8 hB7.size (fun k hk => (World.ownsRow.lt ho7 k hk).1)
      simp only [List.nil_append, Nat.zero_add] at ho8
      obtain ⟨hsg, va8, vc8, rfl⟩ := all_sg ho8
      clear ho7 ho8 hg7 hg8
      go_wp2
      refine wp_region_held_drew (S := fun w' => Below w5.heap.size w5 w') (by kernel_rfl) ((Below.refl _ _).drew) (fun hHeld => ?_)
      refine wpAnyH_take (i := 1) (v := .pointer (some ⟨w.heap.size, 1, none⟩)) rfl (by kernel_rfl) (by kernel_rfl) (by kernel_rfl) (fun _ _ _ h => h) (Or.inl ⟨by rfl, fun w' hSw => ?_⟩) (by assumption) ?_
      · (try dsimp only at hSw); skip; go_simp
      try simp only [Act.put, List.getElem_toArray, List.getElem_cons_zero, List.getElem_cons_succ, List.setIfInBounds_toArray, List.set_cons_zero, List.set_cons_succ]
      refine wpAnyH_take (i := 2) (v := .slice wa p.nw wc) rfl (by kernel_rfl) (by kernel_rfl) (by kernel_rfl) (fun _ _ _ h => h) (Or.inl ⟨by rfl, fun w' hSw => ?_⟩) (by assumption) ?_
      · (try dsimp only at hSw); have z1 := keepc hSw x1; have z3 := keepc hSw x3; go_simp
      try simp only [Act.put, List.getElem_toArray, List.getElem_cons_zero, List.getElem_cons_succ, List.setIfInBounds_toArray, List.set_cons_zero, List.set_cons_succ]
      refine wpAnyH_take (i := 4) (v := .pointer (some ⟨w.heap.size, 3, none⟩)) rfl (by kernel_rfl) (by kernel_rfl) (by kernel_rfl) (fun _ _ _ h => h) (Or.inl ⟨by rfl, fun w' hSw => ?_⟩) (by assumption) ?_
      · (try dsimp only at hSw); skip; go_simp
      try simp only [Act.put, List.getElem_toArray, List.getElem_cons_zero, List.getElem_cons_succ, List.setIfInBounds_toArray, List.set_cons_zero, List.set_cons_succ]
      refine wpAnyH_take (i := 5) (v := .slice ga p.ng gc) rfl (by kernel_rfl) (by kernel_rfl) (by kernel_rfl) (fun _ _ _ h => h) (Or.inl ⟨by rfl, fun w' hSw => ?_⟩) (by assumption) ?_
      · (try dsimp only at hSw); have z1 := keepc hSw x1; have z3 := keepc hSw x3; go_simp
      try simp only [Act.put, List.getElem_toArray, List.getElem_cons_zero, List.getElem_cons_succ, List.setIfInBounds_toArray, List.set_cons_zero, List.set_cons_succ]
      refine wpAnyH_ready (rs := [0]) (by kernel_rfl) (by simp) ?_
      refine AllReadyH.cons rfl (fun K hK => ?_) AllReadyH.nil
      go_simp
      refine hK.out _ _ hA6 (fun hHeld => ?_)
      clear hK K
      try simp only [Act.put, List.getElem_toArray, List.getElem_cons_zero, List.getElem_cons_succ, List.setIfInBounds_toArray, List.set_cons_zero, List.set_cons_succ]
      refine wpAnyH_ready (rs := [3]) (by kernel_rfl) (by simp) ?_
      refine AllReadyH.cons rfl (fun K hK => ?_) AllReadyH.nil
      refine step_append_run (by rfl) _ _ 22 (by rfl) (by rfl) (by rfl) hrun1 ?_
      refine hK.out _ _ hB7 (fun hHeld => ?_)
      clear hK K
      try simp only [Act.put, List.getElem_toArray, List.getElem_cons_zero, List.getElem_cons_succ, List.setIfInBounds_toArray, List.set_cons_zero, List.set_cons_succ]
      refine wpAnyH_ready (rs := [6]) (by kernel_rfl) (by simp) ?_
      refine AllReadyH.cons rfl (fun K hK => ?_) AllReadyH.nil
      refine step_append_run (by rfl) _ _ 22 (by rfl) (by rfl) (by rfl) hrun2 ?_
      refine hK.out _ _ hB8 (fun hHeld => ?_)
      clear hK K
      try simp only [Act.put, List.getElem_toArray, List.getElem_cons_zero, List.getElem_cons_succ, List.setIfInBounds_toArray, List.set_cons_zero, List.set_cons_succ]
      refine wpAnyH_take (i := 7) (v := .slice va8 (p.nw + p.ng) vc8) rfl (by kernel_rfl) (by kernel_rfl) (by kernel_rfl) (fun _ _ _ h => h) (Or.inl ⟨by rfl, fun w' hSw => ?_⟩) (by assumption) ?_
      · (try dsimp only at hSw); skip; go_simp
      try simp only [Act.put, List.getElem_toArray, List.getElem_cons_zero, List.getElem_cons_succ, List.setIfInBounds_toArray, List.set_cons_zero, List.set_cons_succ]
      refine wpAnyH_done (by kernel_rfl) ?_ _
      clear hHeld
      have HB8 := hide (hB0.trans (hB8.mono hB0.size))
      have HV8 := hide (HV.out.below hB8)
      have qa8 := heap_bl qa hB8
      have HSG := hide hsg
      clear hrun1 hrun2 hA6 hB7 hB8 hsg x0 x1 x2 x3 x4 x5 hE HV hB0
      rw [n6x, hbx] at qa8
      clear n6x hbx
      obtain ⟨_, x0, x1, x2, x3, x4, x5⟩ := box6 qa8
      obtain ⟨N, hN⟩ : ∃ N, p.nw + p.ng = N := ⟨_, rfl⟩
      have HTB : Hid ((∀ j, j < N → (al p.nw p.ws p.gs j).size ≤ 8) ↔ (tbB p.nw p.ws = true ∧ tbB p.ng p.gs = true)) := hide (by rw [← hN]; exact tb_all)
      rw [hN] at HSG ⊢
      have hNb : N ≤ 2097152 := by omega
      have HTF : Hid (¬ (tbB p.nw p.ws = true ∧ tbB p.ng p.gs = true) → false = res) := hide (fun h => by
        rw [HLK2.out]
        unfold boB
        cases h1 : tbB p.nw p.ws <;> cases h2 : tbB p.ng p.gs <;> simp_all)
      have HTT : Hid ((tbB p.nw p.ws = true ∧ tbB p.ng p.gs = true) → res = maB bn p.ng p.ws p.gs) := hide (fun h => by
        rw [HLK2.out]
        unfold boB
        rw [h.1, h.2]
        simp)
      clear hN HLK2
      go_wp2
      go_loopw [4] (fun i wr => ∃ k : Nat, k ≤ N ∧ i = .int .i64 k ∧ wr = w8 ∧ Hid (∀ j, j < k → (al p.nw p.ws p.gs j).size ≤ 8)) (fun i _ => N - (intOf i).toNat)
      case atStart => exact ⟨0, Nat.zero_le _, rfl, rfl, hide (fun j hj => absurd hj (by omega))⟩
      case round =>
        obtain ⟨k, hk, rfl, hwr8, HK⟩ := hrel
        by_cases hlt : k < N
        · obtain ⟨ab, ao, rfl, hca⟩ := HSG.out.at1 (by omega) rfl
          have ca := hca k hlt
          rw [← hwr8] at ca
          have hk0 : (0 : Int) ≤ (k : Int) := by omega
          have hk1 : (k : Int) < (N : Int) := by omega
          have HK2 : Hid ((al p.nw p.ws p.gs k).size ≤ 8 → ∀ j, j < k + 1 → (al p.nw p.ws p.gs j).size ≤ 8) := hide (fun h j hj => by
            by_cases e : j = k
            · subst e; exact h
            · exact HK.out j (by omega))
          have HNO : Hid (¬ (al p.nw p.ws p.gs k).size ≤ 8 → false = res) := hide (fun h => HTF.out (fun h2 => h (HTB.out.2 h2 k hlt)))
          have HW8 := hide hwr8
          clear hca hwr8
          generalize al p.nw p.ws p.gs k = ak at ca HK2 HNO
          by_cases c1 : 8 < ak.size
          · have d1 : decide ((8 : Int) < (ak.size : Int)) = true := by simp; omega
            have HO := hide (HNO.out (by omega))
            go_wp2
            go_ret
            exact ⟨retb HO.out, by rw [HW8.out]; exact HB8.out⟩
          · have d1 : decide ((8 : Int) < (ak.size : Int)) = false := by simp; omega
            have HK3 := hide (HK2.out (by omega))
            go_wp2
            go_roundw
            case rel => exact ⟨k + 1, by omega, by go_num, HW8.out, HK3⟩
            case measure => simp [intOf]; omega
        · have HRES := hide (HTT.out (HTB.out.1 (fun j hj => HK.out j (by omega))))
          rw [hwr8]
          clear hwr8 HTT HTF HTB HSG HK
          obtain ⟨n, hn⟩ : ∃ n, p.ng - bn = n := ⟨_, rfl⟩
          have HMY : Hid ((∀ j, j < n → p.ws j = p.gs (bn + j)) → true = res) := hide (fun h => by rw [HRES.out]; exact (decide_eq_true (fun j hj => h j (by omega))).symm)
          have HMN : Hid (∀ k, k < n → ¬ p.ws k = p.gs (bn + k) → false = res) := hide (fun k hk h => by rw [HRES.out]; exact (decide_eq_false (fun hh => h (hh k (by omega)))).symm)
          clear HRES
          go_wp2
          go_loopw [5] (fun i wr => ∃ k : Nat, k ≤ n ∧ i = .int .i64 ((bn + k : Nat) : Int) ∧ Hid (Below w8.heap.size w8 wr) ∧ Hid (∀ j, j < k → p.ws j = p.gs (bn + j))) (fun i _ => bn + n - (intOf i).toNat)
          case atStart => exact ⟨0, Nat.zero_le _, by simp, hide (Below.refl _ _), hide (fun j hj => absurd hj (by omega))⟩
          case round =>
            obtain ⟨k, hk, rfl, HBR, HK⟩ := hrel
            have y0 := keepc HBR.out x0
            have y1 := keepc HBR.out x1
            have y2 := keepc HBR.out x2
            have y3 := keepc HBR.out x3
            have HBE := hide (HB8.out.trans (HBR.out.mono HB8.out.size))
            by_cases hlt : k < n
            · obtain ⟨wb', wo', ew, hcw⟩ := HV8.out.wa.at1 (by omega) rfl
              subst ew
              obtain ⟨gb', go', eg, hcg⟩ := HV8.out.go.at1 (by omega) rfl
              subst eg
              have cw := keepc HBR.out (hcw k (by omega))
              have cg := keepc HBR.out (hcg (bn + k) (by omega))
              have hlti : ((bn + k : Nat) : Int) < (p.ng : Int) := by omega
              have hi0 : (0 : Int) ≤ ((bn + k : Nat) : Int) := by omega
              have hsub : wrap64 (((bn + k : Nat) : Int) - (bn : Int)) = (k : Int) := by rw [Go.IntWalk.wrap64_in _ (by omega)]; omega
              have hsub3 : ((bn + k : Nat) : Int) - (bn : Int) = (k : Int) := by omega
              have hk0 : (0 : Int) ≤ (k : Int) := by omega
              have hkw : (k : Int) < (p.nw : Int) := by omega
              clear hcw hcg
              obtain ⟨ix, hix⟩ : ∃ ix, bn + k = ix := ⟨_, rfl⟩
              have HIX := hide hix
              rw [hix] at cg hlti hi0 hsub hsub3 ⊢
              by_cases he : p.ws k = p.gs ix
              · have HK2 : Hid (∀ j, j < k + 1 → p.ws j = p.gs (bn + j)) := hide (fun j hj => by
                  by_cases e : j = k
                  · subst e; rw [HIX.out]; exact he
                  · exact HK.out j (by omega))
                have hself := str_self (p.gs ix)
                rw [he] at cw
                clear he hix
                generalize p.gs ix = gk at cw cg hself
                go_wp2
                go_quiet (fail)
                all_goals go_wp2
                all_goals go_roundw
                case rel => exact ⟨k + 1, by omega, by have hh := HIX.out; rw [show ((bn + (k + 1) : Nat) : Int) = (ix : Int) + 1 by omega], hide (below_drewN HBR.out _), HK2⟩
                case measure => have hh := HIX.out; simp [intOf]; omega
              · have HO := hide (HMN.out k hlt (by rw [HIX.out]; exact he))
                have hq := byt_ne (fun e => he e.symm)
                clear he hix
                generalize p.gs ix = gk at cg hq
                generalize p.ws k = wk at cw hq
                go_wp2
                go_quiet (fail)
                all_goals go_wp2
                all_goals go_ret
                all_goals exact ⟨retb HO.out, below_drewN HBE.out _⟩
            · have hlti : ¬ ((bn + k : Nat) : Int) < (p.ng : Int) := by omega
              have HO := hide (HMY.out (fun j hj => HK.out j (by omega)))
              go_wp2
              go_ret
              exact ⟨retb HO.out, HBE.out⟩


theorem specLinkOk_la (b : Bool) (p : Lk) (wv gv dv uv : Value) (w : World) (hb : lkB p = b) (hr : La w wv gv dv uv p) (hs : Lsm 1048576 p) :
    Calls Try.prog 8 #[.agg (l6 p.base wv p.want gv dv uv)] w fun e w' => e = .returned (.bool b) ∧ Below w.heap.size w w' := by
  subst hb
  obtain ⟨wa, ga, da, ua, wc, gc, dc, uc, rfl, rfl, rfl, rfl⟩ := hr.slices
  exact specLinkOk_o p wa ga da ua wc gc dc uc w hr.lv hs

end Go.Proofs.Ytnkocikbapbbmaa
