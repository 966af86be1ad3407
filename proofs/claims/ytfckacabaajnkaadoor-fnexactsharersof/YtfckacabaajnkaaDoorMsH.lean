/- spec.MachineOk -/
import Derived.Test.YtfckacabaajnkaaDoorMsG
import Derived.Test.YtfckacabaajnkaaDoorLqD
import Derived.Test.YtfckacabaajnkaaDoorSlB
import Derived.Test.YtfckacabaajnkaaDoorMsgB
namespace Go.Proofs.YtfckacabaajnkaaDoor
open Go.RowKit
set_option linter.unusedVariables false
set_option linter.unusedSimpArgs false

def machP (C : Nat) (L : Nat → Nat) (F : Nat → Nat → Nat → Int) (N : Nat) (G : Nat → LnD) (n : Nat) (f : Nat → Nat → Int) : Prop := sizeB C N = true ∧ slotsP C L F N ∧ linesP C N G ∧ mailP C N n f
theorem machB_yes {C : Nat} {L : Nat → Nat} {F : Nat → Nat → Nat → Int} {N : Nat} {G : Nat → LnD} {n : Nat} {f : Nat → Nat → Int} (h : machP C L F N G n f) : true = machB C L F N G n f := by
  obtain ⟨h1, h2, h3, h4⟩ := h
  rw [machB, h1, ← slotsB_yes h2, ← linesB_yes h3, ← mailB_yes h4]; rfl
theorem machB_no {C : Nat} {L : Nat → Nat} {F : Nat → Nat → Nat → Int} {N : Nat} {G : Nat → LnD} {n : Nat} {f : Nat → Nat → Int} (h : ¬ machP C L F N G n f) : false = machB C L F N G n f := by
  symm
  rw [Bool.eq_false_iff]
  intro e
  refine h ?_
  simp only [machB, Bool.and_eq_true, slotsB, linesB, mailB, decide_eq_true_eq] at e
  exact ⟨e.1.1.1, e.1.1.2, e.1.2, e.2⟩
theorem within_of {ow bu : Int} {zs : List Int} {n : Nat} {f : Nat → Nat → Int} {c : Int} (h : withinB ow bu zs n f c = true) : withinP ow bu zs n f c := by simpa [withinB] using h
/-- a right message names one core and lies at no line below 0 -/
theorem ok_ends {k f t l wt d : Int} (h : okB k f t l wt d = true) : (0 ≤ l ∧ l ≤ 3) ∧ 0 ≤ f ∧ f ≤ 5 ∧ 0 ≤ t ∧ t ≤ 5 ∧ (f = 0 ∨ t = 0) := by
  simp only [okB, inB, endsB, eqB, Bool.and_eq_true, decide_eq_true_eq] at h
  obtain ⟨⟨⟨⟨_, hl⟩, he⟩, _⟩, _⟩ := h
  refine ⟨hl, ?_⟩
  split at he <;> simp only [Bool.and_eq_true, decide_eq_true_eq, beq_iff_eq] at he <;> omega
theorem hl_of {i : Int} {N : Nat} : hlB i N = true ↔ 0 ≤ i ∧ i < (N : Int) := by simp [hlB]

set_option maxRecDepth 20000 in
set_option maxHeartbeats 8000000 in
theorem specMachineOk_any (sa : Option Addr) (C sc : Nat) (la : Option Addr) (N lc : Nat) (qa : Option Addr) (n qc : Nat) (L : Nat → Nat) (F : Nat → Nat → Nat → Int) (G : Nat → LnD) (f : Nat → Nat → Int) (w : World) (hs : Ss w (.slice sa C sc) C L F) (hl : Ls w (.slice la N lc) N G) (hq : Sr w (.slice qa n qc) 6 n f)
    (hC : C ≤ 1048576) (hL : ∀ c, c < C → L c ≤ 1048576) (hN : N ≤ 1048576) (hG : ∀ c, c < N → (G c).zs.length ≤ 1048576 ∧ (G c).qn ≤ 1048576) (hn : n ≤ 1048576) :
    Calls Tryd.prog 44 #[.agg (mc3 (.slice sa C sc) (.slice la N lc) (.slice qa n qc))] w fun e w' => e = .returned (.bool (machB C L F N G n f)) ∧ Below w.heap.size w w' := by
  have mb := mb_box w (.slice sa C sc) (.slice la N lc) (.slice qa n qc) 34
  by_cases h1 : 2 ≤ (C : Int) ∧ (C : Int) ≤ 5
  · have e1 := inB_yes h1.1 h1.2
    by_cases h2 : 1 ≤ (N : Int) ∧ (N : Int) ≤ 4
    · have e2 := inB_yes h2.1 h2.2
      by_cases h3 : n ≤ 60
      · have hd : decide ((60 : Int) < (n : Int)) = false := by simp; omega
        have HY : Hid (slotsP C L F N → linesP C N G → mailP C N n f → machP C L F N G n f) := hide (fun a b c => ⟨by rw [sizeB, e1, e2]; rfl, a, b, c⟩)
        obtain ⟨ad, cap, hv, hs⟩ := hs
        simp only [Value.slice.injEq, true_and] at hv
        obtain ⟨rfl, rfl⟩ := hv
        have HL := hide hl
        have HQ := hide hq
        clear h1 h2 hl hq
        go_enter Tryd.func44, Tryd.ntmps44
        go_wp2_with fail
        refine (in_any _ _ _ _).mono ?_
        rintro e w1 ⟨rfl, rfl⟩
        rw [e1]
        go_wp2_with fail
        refine (in_any _ _ _ _).mono ?_
        rintro e w1 ⟨rfl, rfl⟩
        rw [e2]
        go_wp2
        go_loopw [5] (fun i wr => ∃ k : Nat, k ≤ C ∧ i = .int .i64 k ∧ MB w w.heap.size (.slice sa C sc) (.slice la N lc) (.slice qa n qc) wr ∧ Hid (∀ c, c < k → L c = N ∧ ∀ j, j < L c → slB (F c j 0) (F c j 1) (F c j 2) (F c j 3) = true)) (fun i _ => C - (intOf i).toNat)
        case atStart => exact ⟨0, Nat.zero_le _, rfl, mb, hide fun c hc => by omega⟩
        case round =>
          obtain ⟨k, hk, rfl, mk, HK⟩ := hrel
          clear mb
          obtain ⟨_, c0, c1, c2⟩ := id mk
          by_cases hlt : k < C
          · obtain ⟨p, off, rfl, hc⟩ := hs (by omega)
            obtain ⟨ia, ic, q0', hr⟩ := hc k hlt
            have q0 : wr.cell? ⟨p, off + k, none⟩ = some (.slice ia (L k) ic) := Below.keep mk.1 _ _ q0'
            have HQ0 := hide q0'
            obtain ⟨iad, icap, hiv, hr⟩ := hr
            simp only [Value.slice.injEq, true_and] at hiv
            obtain ⟨rfl, rfl⟩ := hiv
            have hLk := hL k hlt
            clear hs hc q0'
            by_cases he : L k = N
            · have hne : ((L k : Int) != (N : Int)) = false := by simp [he]
              go_wp2
              go_loopw [6] (fun i wr => ∃ m : Nat, m ≤ L k ∧ i = .int .i64 m ∧ MB w w.heap.size (.slice (some ⟨p, off, none⟩) C sc) (.slice la N lc) (.slice qa n qc) wr ∧ Hid (∀ j, j < m → slB (F k j 0) (F k j 1) (F k j 2) (F k j 3) = true)) (fun i _ => L k - (intOf i).toNat)
              case atStart => exact ⟨0, Nat.zero_le _, rfl, mk, hide fun c hc => by omega⟩
              case round =>
                obtain ⟨m, hm, rfl, mm, HM⟩ := hrel
                clear mk c0 c1 c2 q0
                obtain ⟨_, c0, c1, c2⟩ := id mm
                have q0 : wr.cell? ⟨p, off + k, none⟩ = some (.slice ia (L k) ic) := Below.keep mm.1 _ _ HQ0.out
                by_cases hlm : m < L k
                · obtain ⟨pi, oi, rfl, hx⟩ := hr (by omega)
                  have x0 : wr.cell? ⟨pi, oi + m * 4, none⟩ = some (.int .i64 (F k m 0)) := Below.keep mm.1 _ _ (hx m hlm 0 (by decide))
                  have x1 : wr.cell? ⟨pi, oi + m * 4 + 1, none⟩ = some (.int .i64 (F k m 1)) := Below.keep mm.1 _ _ (hx m hlm 1 (by decide))
                  have x2 : wr.cell? ⟨pi, oi + m * 4 + 2, none⟩ = some (.int .i64 (F k m 2)) := Below.keep mm.1 _ _ (hx m hlm 2 (by decide))
                  have x3 : wr.cell? ⟨pi, oi + m * 4 + 3, none⟩ = some (.int .i64 (F k m 3)) := Below.keep mm.1 _ _ (hx m hlm 3 (by decide))
                  clear hx hr
                  cases hb : slB (F k m 0) (F k m 1) (F k m 2) (F k m 3) with
                  | false =>
                    have HR : Hid (false = machB C L F N G n f) := hide (machB_no fun h => by have := (h.2.1 k hlt).2 m hlm; rw [hb] at this; cases this)
                    go_wp2_with fail
                    refine (specSlotOk_any _ _ _ _ _).mono ?_
                    rintro e w2 ⟨rfl, hb2⟩
                    rw [hb]
                    have my := mm.next hb2
                    clear hb2 mm
                    go_wp2
                    go_ret
                    exact ⟨ret_bool HR.out, my.1⟩
                  | true =>
                    have HM2 : Hid (∀ j, j < m + 1 → slB (F k j 0) (F k j 1) (F k j 2) (F k j 3) = true) := hide (fun j hj => by
                      by_cases e : j = m
                      · subst e; exact hb
                      · exact HM.out j (by omega))
                    go_wp2_with fail
                    refine (specSlotOk_any _ _ _ _ _).mono ?_
                    rintro e w2 ⟨rfl, hb2⟩
                    rw [hb]
                    have my := mm.next hb2
                    clear hb2 mm hb
                    go_wp2
                    go_roundw
                    case rel => exact ⟨m + 1, by omega, by go_num, my, HM2⟩
                    case measure => simp [intOf]; omega
                · have e : m = L k := by omega
                  have HK2 : Hid (∀ c, c < k + 1 → L c = N ∧ ∀ j, j < L c → slB (F c j 0) (F c j 1) (F c j 2) (F c j 3) = true) := hide (fun c hc => by
                    by_cases ec : c = k
                    · subst ec; exact ⟨he, fun j hj => HM.out j (by omega)⟩
                    · exact HK.out c (by omega))
                  clear hr e he hne
                  go_wp2
                  go_roundw
                  case rel => exact ⟨k + 1, by omega, by go_num, mm, HK2⟩
                  case measure => simp [intOf]; omega
            · have HR : Hid (false = machB C L F N G n f) := hide (machB_no fun h => he (h.2.1 k hlt).1)
              have hne : ((L k : Int) != (N : Int)) = true := by simp; omega
              go_wp2
              go_ret
              exact ⟨ret_bool HR.out, mk.1⟩
          · have HS : Hid (slotsP C L F N) := hide (fun c hc => HK.out c (by omega))
            have ek : C = k := by omega
            subst ek
            clear hs HK
            obtain ⟨lad, lcap, hv, hl⟩ := HL.out
            simp only [Value.slice.injEq, true_and] at hv
            obtain ⟨rfl, rfl⟩ := hv
            go_wp2
            go_loopw [7] (fun i wr => ∃ k : Nat, k ≤ N ∧ i = .int .i64 k ∧ MB w w.heap.size (.slice sa C sc) (.slice la N lc) (.slice qa n qc) wr ∧ Hid (∀ j, j < k → lineB (G j).mem (G j).ow (G j).zs (G j).bu (G j).wt (G j).ac (G j).qn (G j).f = true ∧ withinB (G j).ow (G j).bu (G j).zs (G j).qn (G j).f (C : Int) = true)) (fun i _ => N - (intOf i).toNat)
            case atStart => exact ⟨0, Nat.zero_le _, rfl, mk, hide fun c hc => by omega⟩
            case round =>
              obtain ⟨t, hk2, rfl, mt, HT⟩ := hrel
              clear mk c0 c1 c2
              obtain ⟨w0, hw0⟩ : ∃ w0, w0 = wr := ⟨wr, rfl⟩
              subst hw0
              obtain ⟨_, c0, c1, c2⟩ := id mt
              by_cases hltn : t < N
              · obtain ⟨p, off, rfl, hc⟩ := hl (by omega)
                obtain ⟨ta, tc, ra, rc, ⟨d0, d1, d2, d3, d4, d5, d6⟩, s1, t1⟩ := hc t hltn
                have g0 := Below.keep mt.1 _ _ d0
                have g1 := Below.keep mt.1 _ _ d1
                have g2 := Below.keep mt.1 _ _ d2
                have g3 := Below.keep mt.1 _ _ d3
                have g4 := Below.keep mt.1 _ _ d4
                have g5 := Below.keep mt.1 _ _ d5
                have g6 := Below.keep mt.1 _ _ d6
                clear d0 d1 d2 d3 d4 d5 d6
                obtain ⟨hL1, hL2⟩ := hG t hltn
                have hk0 : (0 : Int) ≤ (t : Int) := by omega
                have hk1 : (t : Int) < (N : Int) := by omega
                have lx := lb_here mt.1 (G t).mem (G t).ow (.slice ta (G t).zs.length tc) (G t).bu (G t).wt (G t).ac (.slice ra (G t).qn rc) 66
                have mx := mt.next ((Below.refl _ _).alloc (Nat.le_refl _) (.cells (ln7 (G t).mem (G t).ow (.slice ta (G t).zs.length tc) (G t).bu (G t).wt (G t).ac (.slice ra (G t).qn rc)) 66))
                have HS1 : Hid (Sl w (.slice ta (G t).zs.length tc) (G t).zs ∧ Sr w (.slice ra (G t).qn rc) 2 (G t).qn (G t).f) := hide ⟨s1, t1⟩
                clear s1 t1 hc hl mt
                cases hok : lineB (G t).mem (G t).ow (G t).zs (G t).bu (G t).wt (G t).ac (G t).qn (G t).f with
                | false =>
                  have HR : Hid (false = machB C L F N G n f) := hide (machB_no fun h => by have := (h.2.2.1 t hltn).1; rw [hok] at this; cases this)
                  go_wp2_with fail
                  refine (specLineOk_any (G t).mem (G t).ow _ (G t).zs (G t).bu (G t).wt (G t).ac _ _ (G t).qn (G t).f _ (HS1.out.1.below lx.1) hL1 (HS1.out.2.below lx.1) hL2).mono ?_
                  rintro e w2 ⟨rfl, hb2⟩
                  rw [hok]
                  have my := mx.next hb2
                  clear hb2 mx
                  go_wp2
                  go_ret
                  exact ⟨ret_bool HR.out, my.1⟩
                | true =>
                  by_cases how : (C : Int) < (G t).ow
                  · have HR : Hid (false = machB C L F N G n f) := hide (machB_no fun h => by have := (within_of (h.2.2.1 t hltn).2).1; omega)
                    go_wp2_with fail
                    refine (specLineOk_any (G t).mem (G t).ow _ (G t).zs (G t).bu (G t).wt (G t).ac _ _ (G t).qn (G t).f _ (HS1.out.1.below lx.1) hL1 (HS1.out.2.below lx.1) hL2).mono ?_
                    rintro e w2 ⟨rfl, hb2⟩
                    rw [hok]
                    have my := mx.next hb2
                    have ly := lx.next hb2
                    obtain ⟨_, l0, l1, l2, l3, l4, l5, l6⟩ := id ly
                    clear hb2 mx lx
                    go_wp2
                    go_ret
                    exact ⟨ret_bool HR.out, my.1⟩
                  · by_cases hbu : (C : Int) < (G t).bu
                    · have HR : Hid (false = machB C L F N G n f) := hide (machB_no fun h => by have := (within_of (h.2.2.1 t hltn).2).2.1; omega)
                      go_wp2_with fail
                      refine (specLineOk_any (G t).mem (G t).ow _ (G t).zs (G t).bu (G t).wt (G t).ac _ _ (G t).qn (G t).f _ (HS1.out.1.below lx.1) hL1 (HS1.out.2.below lx.1) hL2).mono ?_
                      rintro e w2 ⟨rfl, hb2⟩
                      rw [hok]
                      have my := mx.next hb2
                      have ly := lx.next hb2
                      obtain ⟨_, l0, l1, l2, l3, l4, l5, l6⟩ := id ly
                      clear hb2 mx lx
                      go_wp2
                      go_ret
                      exact ⟨ret_bool HR.out, my.1⟩
                    · have HW : Hid ((∀ j, j < (G t).zs.length → (G t).zs.getD j 0 ≤ (C : Int)) → (∀ j, j < (G t).qn → (G t).f j 0 ≤ (C : Int)) → withinB (G t).ow (G t).bu (G t).zs (G t).qn (G t).f (C : Int) = true) := hide (fun a b => (withinB_yes ⟨by omega, by omega, a, b⟩).symm)
                      go_wp2_with fail
                      refine (specLineOk_any (G t).mem (G t).ow _ (G t).zs (G t).bu (G t).wt (G t).ac _ _ (G t).qn (G t).f _ (HS1.out.1.below lx.1) hL1 (HS1.out.2.below lx.1) hL2).mono ?_
                      rintro e w2 ⟨rfl, hb2⟩
                      rw [hok]
                      have my := mx.next hb2
                      have ly := lx.next hb2
                      obtain ⟨_, c0, c1, c2⟩ := id my
                      obtain ⟨_, l0, l1, l2, l3, l4, l5, l6⟩ := id ly
                      have HOK := hide hok
                      clear hb2 mx lx hok g0 g1 g2 g3 g4 g5 g6
                      obtain ⟨sad, scap, hv, hz⟩ := HS1.out.1
                      simp only [Value.slice.injEq, true_and] at hv
                      obtain ⟨rfl, rfl⟩ := hv
                      obtain ⟨rad, rcap, hv, hr⟩ := HS1.out.2
                      simp only [Value.slice.injEq, true_and] at hv
                      obtain ⟨rfl, rfl⟩ := hv
                      go_wp2
                      go_loopw [9] (fun i wr => ∃ x : Nat, x ≤ (G t).zs.length ∧ i = .int .i64 x ∧ MB w w.heap.size (.slice sa C sc) (.slice (some ⟨p, off, none⟩) N lc) (.slice qa n qc) wr ∧ LB w w0.heap.size (G t).mem (G t).ow (.slice ta (G t).zs.length tc) (G t).bu (G t).wt (G t).ac (.slice ra (G t).qn rc) wr ∧ Hid (∀ j, j < x → (G t).zs.getD j 0 ≤ (C : Int))) (fun i _ => (G t).zs.length - (intOf i).toNat)
                      case atStart => exact ⟨0, Nat.zero_le _, rfl, my, ly, hide fun c hc => by omega⟩
                      case round =>
                        obtain ⟨x, hx, rfl, mx, lx, HX⟩ := hrel
                        clear my ly c0 c1 c2 l0 l1 l2 l3 l4 l5 l6
                        obtain ⟨_, c0, c1, c2⟩ := id mx
                        obtain ⟨_, l0, l1, l2, l3, l4, l5, l6⟩ := id lx
                        by_cases hlx : x < (G t).zs.length
                        · obtain ⟨pz, oz, rfl, hy⟩ := hz (by omega)
                          have q0 : wr.cell? ⟨pz, oz + x, none⟩ = some (.int .i64 ((G t).zs.getD x 0)) := Below.keep mx.1 _ _ (hy x hlx)
                          obtain ⟨z, hz2⟩ : ∃ z, (G t).zs.getD x 0 = z := ⟨_, rfl⟩
                          rw [hz2] at q0
                          have HZ := hide hz2
                          clear hz2 hy hz
                          by_cases hzc : (C : Int) < z
                          · have HR : Hid (false = machB C L F N G n f) := hide (machB_no fun h => by have := (within_of (h.2.2.1 t hltn).2).2.2.1 x hlx; rw [HZ.out] at this; omega)
                            go_wp2
                            go_ret
                            exact ⟨ret_bool HR.out, mx.1⟩
                          · have HX2 : Hid (∀ j, j < x + 1 → (G t).zs.getD j 0 ≤ (C : Int)) := hide (fun j hj => by
                              by_cases e : j = x
                              · subst e; rw [HZ.out]; omega
                              · exact HX.out j (by omega))
                            go_wp2
                            go_roundw
                            case rel => exact ⟨x + 1, by omega, by go_num, mx, lx, HX2⟩
                            case measure => simp [intOf]; omega
                        · have HX2 : Hid (∀ j, j < (G t).zs.length → (G t).zs.getD j 0 ≤ (C : Int)) := hide (fun j hj => HX.out j (by omega))
                          clear hz HX
                          go_wp2
                          go_loopw [10] (fun i wr => ∃ y : Nat, y ≤ (G t).qn ∧ i = .int .i64 y ∧ MB w w.heap.size (.slice sa C sc) (.slice (some ⟨p, off, none⟩) N lc) (.slice qa n qc) wr ∧ LB w w0.heap.size (G t).mem (G t).ow (.slice ta (G t).zs.length tc) (G t).bu (G t).wt (G t).ac (.slice ra (G t).qn rc) wr ∧ Hid (∀ j, j < y → (G t).f j 0 ≤ (C : Int))) (fun i _ => (G t).qn - (intOf i).toNat)
                          case atStart => exact ⟨0, Nat.zero_le _, rfl, mx, lx, hide fun c hc => by omega⟩
                          case round =>
                            obtain ⟨y, hy, rfl, my, ly, HYY⟩ := hrel
                            clear mx lx c0 c1 c2 l0 l1 l2 l3 l4 l5 l6
                            obtain ⟨_, c0, c1, c2⟩ := id my
                            obtain ⟨_, l0, l1, l2, l3, l4, l5, l6⟩ := id ly
                            by_cases hly : y < (G t).qn
                            · obtain ⟨pz, oz, rfl, hyy⟩ := hr (by omega)
                              have q0 : wr.cell? ⟨pz, oz + y * 2, none⟩ = some (.int .i64 ((G t).f y 0)) := Below.keep my.1 _ _ (hyy y hly 0 (by decide))
                              clear hyy hr
                              by_cases hzc : (C : Int) < (G t).f y 0
                              · have HR : Hid (false = machB C L F N G n f) := hide (machB_no fun h => by have := (within_of (h.2.2.1 t hltn).2).2.2.2 y hly; omega)
                                go_wp2
                                go_ret
                                exact ⟨ret_bool HR.out, my.1⟩
                              · have HY2 : Hid (∀ j, j < y + 1 → (G t).f j 0 ≤ (C : Int)) := hide (fun j hj => by
                                  by_cases e : j = y
                                  · subst e; omega
                                  · exact HYY.out j (by omega))
                                go_wp2
                                go_roundw
                                case rel => exact ⟨y + 1, by omega, by go_num, my, ly, HY2⟩
                                case measure => simp [intOf]; omega
                            · have HT2 : Hid (∀ j, j < t + 1 → lineB (G j).mem (G j).ow (G j).zs (G j).bu (G j).wt (G j).ac (G j).qn (G j).f = true ∧ withinB (G j).ow (G j).bu (G j).zs (G j).qn (G j).f (C : Int) = true) := hide (fun j hj => by
                                by_cases e : j = t
                                · subst e; exact ⟨HOK.out, HW.out HX2.out (fun i hi => HYY.out i (by omega))⟩
                                · exact HT.out j (by omega))
                              clear hr
                              go_wp2
                              go_roundw
                              case rel => exact ⟨t + 1, by omega, by go_num, my, HT2⟩
                              case measure => simp [intOf]; omega
              · have HLN : Hid (linesP C N G) := hide (fun c hc => HT.out c (by omega))
                have et : N = t := by omega
                subst et
                clear hl HT
                obtain ⟨qad, qcap, hv, hq⟩ := HQ.out
                simp only [Value.slice.injEq, true_and] at hv
                obtain ⟨rfl, rfl⟩ := hv
                go_wp2
                go_loopw [11] (fun i wr => ∃ k : Nat, k ≤ n ∧ i = .int .i64 k ∧ MB w w.heap.size (.slice sa C sc) (.slice la N lc) (.slice qa n qc) wr ∧ Hid (∀ j, j < k → okB (f j 0) (f j 1) (f j 2) (f j 3) (f j 4) (f j 5) = true ∧ max (f j 1) (f j 2) ≤ (C : Int) ∧ hlB (f j 3) N = true)) (fun i _ => n - (intOf i).toNat)
                case atStart => exact ⟨0, Nat.zero_le _, rfl, mt, hide fun c hc => by omega⟩
                case round =>
                  obtain ⟨x, hx, rfl, mx, HX⟩ := hrel
                  clear mt c0 c1 c2
                  obtain ⟨_, c0, c1, c2⟩ := id mx
                  by_cases hlx : x < n
                  · obtain ⟨p, off, rfl, hc⟩ := hq (by omega)
                    have g0 : wr.cell? ⟨p, off + x * 6, none⟩ = some (.int .i64 (f x 0)) := Below.keep mx.1 _ _ (hc x hlx 0 (by decide))
                    have g1 : wr.cell? ⟨p, off + x * 6 + 1, none⟩ = some (.int .i64 (f x 1)) := Below.keep mx.1 _ _ (hc x hlx 1 (by decide))
                    have g2 : wr.cell? ⟨p, off + x * 6 + 2, none⟩ = some (.int .i64 (f x 2)) := Below.keep mx.1 _ _ (hc x hlx 2 (by decide))
                    have g3 : wr.cell? ⟨p, off + x * 6 + 3, none⟩ = some (.int .i64 (f x 3)) := Below.keep mx.1 _ _ (hc x hlx 3 (by decide))
                    have g4 : wr.cell? ⟨p, off + x * 6 + 4, none⟩ = some (.int .i64 (f x 4)) := Below.keep mx.1 _ _ (hc x hlx 4 (by decide))
                    have g5 : wr.cell? ⟨p, off + x * 6 + 5, none⟩ = some (.int .i64 (f x 5)) := Below.keep mx.1 _ _ (hc x hlx 5 (by decide))
                    have my := mx.next ((Below.refl _ _).alloc (Nat.le_refl _) (.cells #[.int .i64 (f x 0), .int .i64 (f x 1), .int .i64 (f x 2), .int .i64 (f x 3), .int .i64 (f x 4), .int .i64 (f x 5)] 63))
                    have e6 := heap_alloc_new wr (.cells #[.int .i64 (f x 0), .int .i64 (f x 1), .int .i64 (f x 2), .int .i64 (f x 3), .int .i64 (f x 4), .int .i64 (f x 5)] 63)
                    have r1 : (wr.alloc (.cells #[.int .i64 (f x 0), .int .i64 (f x 1), .int .i64 (f x 2), .int .i64 (f x 3), .int .i64 (f x 4), .int .i64 (f x 5)] 63)).cell? ⟨wr.heap.size, 1, none⟩ = some (.int .i64 (f x 1)) := (cell_of_row _ _ _ _ _ _ e6).trans rfl
                    have r2 : (wr.alloc (.cells #[.int .i64 (f x 0), .int .i64 (f x 1), .int .i64 (f x 2), .int .i64 (f x 3), .int .i64 (f x 4), .int .i64 (f x 5)] 63)).cell? ⟨wr.heap.size, 2, none⟩ = some (.int .i64 (f x 2)) := (cell_of_row _ _ _ _ _ _ e6).trans rfl
                    have r3 : (wr.alloc (.cells #[.int .i64 (f x 0), .int .i64 (f x 1), .int .i64 (f x 2), .int .i64 (f x 3), .int .i64 (f x 4), .int .i64 (f x 5)] 63)).cell? ⟨wr.heap.size, 3, none⟩ = some (.int .i64 (f x 3)) := (cell_of_row _ _ _ _ _ _ e6).trans rfl
                    clear hc hq e6 mx
                    cases hok : okB (f x 0) (f x 1) (f x 2) (f x 3) (f x 4) (f x 5) with
                    | false =>
                      have HR : Hid (false = machB C L F N G n f) := hide (machB_no fun h => by have := (h.2.2.2.2 x hlx).1; rw [hok] at this; cases this)
                      go_wp2_with fail
                      refine (specOk_any _ _ _ _ _ _ _).mono ?_
                      rintro e w2 ⟨rfl, hb2⟩
                      rw [hok]
                      have mz := my.next hb2
                      clear hb2 my
                      go_wp2
                      go_ret
                      exact ⟨ret_bool HR.out, mz.1⟩
                    | true =>
                      obtain ⟨hl3, hf0, hf5, ht0, ht5, hft⟩ := ok_ends hok
                      have hwrap : IntKind.i64.wrap (f x 1 + f x 2) = f x 1 + f x 2 := by rw [IntKind.wrap_i64]; omega
                      by_cases hln : (N : Int) ≤ f x 3
                      · have HR : Hid (false = machB C L F N G n f) := hide (machB_no fun h => by have := (hl_of.1 (h.2.2.2.2 x hlx).2.2).2; omega)
                        go_wp2_with fail
                        refine (specOk_any _ _ _ _ _ _ _).mono ?_
                        rintro e w2 ⟨rfl, hb2⟩
                        rw [hok]
                        have k1 := keepc hb2 r1
                        have k2 := keepc hb2 r2
                        have k3 := keepc hb2 r3
                        have mz := my.next hb2
                        clear hb2 my r1 r2 r3
                        go_wp2
                        go_ret
                        exact ⟨ret_bool HR.out, mz.1⟩
                      · by_cases hsum : (C : Int) < f x 1 + f x 2
                        · have HR : Hid (false = machB C L F N G n f) := hide (machB_no fun h => by have := (h.2.2.2.2 x hlx).2.1; omega)
                          go_wp2_with fail
                          refine (specOk_any _ _ _ _ _ _ _).mono ?_
                          rintro e w2 ⟨rfl, hb2⟩
                          rw [hok]
                          have k1 := keepc hb2 r1
                          have k2 := keepc hb2 r2
                          have k3 := keepc hb2 r3
                          have mz := my.next hb2
                          clear hb2 my r1 r2 r3 hft
                          go_wp2
                          go_ret
                          exact ⟨ret_bool HR.out, mz.1⟩
                        · have HX2 : Hid (∀ j, j < x + 1 → okB (f j 0) (f j 1) (f j 2) (f j 3) (f j 4) (f j 5) = true ∧ max (f j 1) (f j 2) ≤ (C : Int) ∧ hlB (f j 3) N = true) := hide (fun j hj => by
                            by_cases e : j = x
                            · subst e; exact ⟨hok, by omega, hl_of.2 ⟨hl3.1, by omega⟩⟩
                            · exact HX.out j (by omega))
                          go_wp2_with fail
                          refine (specOk_any _ _ _ _ _ _ _).mono ?_
                          rintro e w2 ⟨rfl, hb2⟩
                          rw [hok]
                          have k1 := keepc hb2 r1
                          have k2 := keepc hb2 r2
                          have k3 := keepc hb2 r3
                          have mz := my.next hb2
                          clear hb2 my r1 r2 r3 hft
                          go_wp2
                          go_roundw
                          case rel => exact ⟨x + 1, by omega, by go_num, mz, HX2⟩
                          case measure => simp [intOf]; omega
                  · have HR : Hid (true = machB C L F N G n f) := hide (machB_yes (HY.out HS.out HLN.out ⟨h3, fun j hj => HX.out j (by omega)⟩))
                    clear hq
                    go_wp2
                    go_ret
                    exact ⟨ret_bool HR.out, mx.1⟩
      · have HR : Hid (false = machB C L F N G n f) := hide (machB_no fun h => h3 h.2.2.2.1)
        have hd : decide ((60 : Int) < (n : Int)) = true := by simp; omega
        clear h1 h2 hs hl hq
        go_enter Tryd.func44, Tryd.ntmps44
        go_wp2_with fail
        refine (in_any _ _ _ _).mono ?_
        rintro e w1 ⟨rfl, rfl⟩
        rw [e1]
        go_wp2_with fail
        refine (in_any _ _ _ _).mono ?_
        rintro e w1 ⟨rfl, rfl⟩
        rw [e2]
        go_wp2
        go_ret
        exact ⟨ret_bool HR.out, mb.1⟩
    · have e2 := inB_no h2
      have HR : Hid (false = machB C L F N G n f) := hide (machB_no fun h => by have := h.1; rw [sizeB, e2, Bool.and_false] at this; cases this)
      clear h1 h2 hs hl hq
      go_enter Tryd.func44, Tryd.ntmps44
      go_wp2_with fail
      refine (in_any _ _ _ _).mono ?_
      rintro e w1 ⟨rfl, rfl⟩
      rw [e1]
      go_wp2_with fail
      refine (in_any _ _ _ _).mono ?_
      rintro e w1 ⟨rfl, rfl⟩
      rw [e2]
      go_wp2
      go_ret
      exact ⟨ret_bool HR.out, mb.1⟩
  · have e1 := inB_no h1
    have HR : Hid (false = machB C L F N G n f) := hide (machB_no fun h => by have := h.1; rw [sizeB, e1, Bool.false_and] at this; cases this)
    clear h1 hs hl hq
    go_enter Tryd.func44, Tryd.ntmps44
    go_wp2_with fail
    refine (in_any _ _ _ _).mono ?_
    rintro e w1 ⟨rfl, rfl⟩
    rw [e1]
    go_wp2
    go_ret
    exact ⟨ret_bool HR.out, mb.1⟩

end Go.Proofs.YtfckacabaajnkaaDoor
