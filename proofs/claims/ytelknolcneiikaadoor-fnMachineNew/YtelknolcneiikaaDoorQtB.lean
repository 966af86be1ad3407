/- impl.Quiet -/
import Derived.Test.YtelknolcneiikaaDoorQtA
import Derived.Test.YtelknolcneiikaaDoorMsG
namespace Go.Proofs.YtelknolcneiikaaDoor
open Go.RowKit
set_option linter.unusedVariables false
set_option linter.unusedSimpArgs false

def noBusy (G : Nat → LnD) (k : Nat) : Bool := decide (∀ j, j < k → (G j).bu = 0)
theorem noBusy_zero (G : Nat → LnD) : noBusy G 0 = true := decide_eq_true (fun j hj => by omega)
theorem noBusy_yes {G : Nat → LnD} {k : Nat} (h : (G k).bu = 0) : noBusy G (k + 1) = noBusy G k := by
  unfold noBusy
  refine decide_eq_decide.mpr ⟨fun h2 j hj => h2 j (by omega), fun h2 j hj => ?_⟩
  by_cases e : j = k
  · subst e; exact h
  · exact h2 j (by omega)
theorem noBusy_no {G : Nat → LnD} {k : Nat} (h : ¬ (G k).bu = 0) : noBusy G (k + 1) = false := decide_eq_false (fun h2 => h (h2 k (by omega)))
noncomputable def quietB (C : Nat) (L : Nat → Nat) (F : Nat → Nat → Nat → Int) (N : Nat) (G : Nat → LnD) (n : Nat) (f : Nat → Nat → Int) : Bool := machB C L F N G n f && (decide (n = 0) && (allB L F C 0 && noBusy G N))
theorem quietB_no {C : Nat} {L : Nat → Nat} {F : Nat → Nat → Nat → Int} {N : Nat} {G : Nat → LnD} {n : Nat} {f : Nat → Nat → Int} (h : machB C L F N G n f = false) : quietB C L F N G n f = false := by unfold quietB; rw [h]; rfl
theorem quietB_mail {C : Nat} {L : Nat → Nat} {F : Nat → Nat → Nat → Int} {N : Nat} {G : Nat → LnD} {n : Nat} {f : Nat → Nat → Int} (h : ¬ n = 0) : quietB C L F N G n f = false := by unfold quietB; rw [decide_eq_false h]; simp
theorem quietB_yes {C : Nat} {L : Nat → Nat} {F : Nat → Nat → Nat → Int} {N : Nat} {G : Nat → LnD} {f : Nat → Nat → Int} (h : machB C L F N G 0 f = true) : quietB C L F N G 0 f = (allB L F C 0 && noBusy G N) := by unfold quietB; rw [h]; simp

set_option maxHeartbeats 8000000 in
theorem implQuiet_any (sa : Option Addr) (C sc : Nat) (la : Option Addr) (N lc : Nat) (qa : Option Addr) (n qc : Nat) (L : Nat → Nat) (F : Nat → Nat → Nat → Int) (G : Nat → LnD) (f : Nat → Nat → Int) (w : World) (ht : Tab w) (hs : Ss w (.slice sa C sc) C L F) (hl : Ls w (.slice la N lc) N G) (hq : Sr w (.slice qa n qc) 6 n f)
    (hC : C ≤ 1048576) (hL : ∀ c, c < C → L c ≤ 1048576) (hN : N ≤ 1048576) (hG : ∀ c, c < N → (G c).zs.length ≤ 1048576 ∧ (G c).qn ≤ 1048576) (hn : n ≤ 1048576) :
    Calls Tryd.prog 13 #[.agg (mc3 (.slice sa C sc) (.slice la N lc) (.slice qa n qc))] w fun e w' => e = .returned (.bool (quietB C L F N G n f)) ∧ Below w.heap.size w w' := by
  have mb := mb_box w (.slice sa C sc) (.slice la N lc) (.slice qa n qc) 30
  have hmf : ∀ (fn : Fn) (first cap : Array Value) (w : World), (Instr.makeFunc fn first cap).run Tryd.prog w = .ok (.func fn first cap) w := fun _ _ _ _ => rfl
  have hb0 : Below w.heap.size w (w.alloc (.cells (mc3 (.slice sa C sc) (.slice la N lc) (.slice qa n qc)) 30)) := (Below.refl _ _).alloc (Nat.le_refl _) _
  have hmo := implMachineOk_any sa C sc la N lc qa n qc L F G f (w.alloc (.cells (mc3 (.slice sa C sc) (.slice la N lc) (.slice qa n qc)) 30)) (ht.below hb0) (hs.below hb0) (hl.below hb0) (hq.below hb0) hC hL hN hG hn
  clear hb0
  cases hm : machB C L F N G n f
  · rw [quietB_no hm]
    rw [hm] at hmo
    clear hm
    go_enter Tryd.func13, Tryd.ntmps13
    go_wp2_with fail
    refine hmo.mono ?_
    rintro e w1 ⟨rfl, hb1⟩
    have m1 := mb.next hb1
    clear mb hb1 hmo
    go_wp2
    go_ret
    exact ⟨rfl, m1.1⟩
  · rw [hm] at hmo
    by_cases hn0 : n = 0
    · subst hn0
      rw [quietB_yes hm]
      clear hm
      go_enter Tryd.func13, Tryd.ntmps13
      go_wp2_with fail
      refine hmo.mono ?_
      rintro e w1 ⟨rfl, hb1⟩
      have hsz := hb1.size
      rw [World.size_alloc] at hsz
      have m1 := mb.next hb1
      have m2 := m1.next ((Below.refl _ _).alloc (Nat.le_refl _) (.cells #[.bool true] 4))
      have hV : Var (w1.alloc (.cells #[.bool true] 4)) w1.heap.size true := heap_alloc_new _ _
      have hQw : w.heap.size ≤ w1.heap.size := by omega
      have hlk := lookQ_any sa C sc (.slice la N lc) (.slice qa 0 qc) L F w1.heap.size w (w1.alloc (.cells #[.bool true] 4)) hs m2.1 hV hQw hC hL
      have HLW : Hid (LW w (w1.alloc (.cells #[.bool true] 4)) w.heap.size w1.heap.size (.slice sa C sc) (.slice la N lc) (.slice qa 0 qc) true) := hide ⟨m2.1, ⟨m2.2.1, m2.2.2.1, m2.2.2.2⟩, hV, hQw, by omega⟩
      obtain ⟨_, c0, c1, c2⟩ := id m1
      obtain ⟨_, d0, d1, d2⟩ := id m2
      clear mb hb1 hmo hsz hV
      go_wp2_with fail
      refine hlk.mono ?_
      rintro e w2 ⟨rfl, hv2, hg2⟩
      have lw := HLW.out.call hv2 hg2
      have h1 : (allB L F C 0 && noBusy G 0) = allB L F C 0 := by rw [noBusy_zero, Bool.and_true]
      rw [← h1] at lw
      clear hlk hv2 hg2 HLW c0 c1 c2 d0 d1 d2 h1 m1 m2
      obtain ⟨ad, cap, hv, hl⟩ := hl
      simp only [Value.slice.injEq, true_and] at hv
      obtain ⟨rfl, rfl⟩ := hv
      generalize w1.heap.size = Q at lw
      obtain ⟨c0, c1, c2⟩ := lw.box
      go_wp2
      clear c0 c1 c2
      go_loopw [21] (fun i wr => ∃ k : Nat, k ≤ N ∧ i = .int .i64 k ∧ LW w wr w.heap.size Q (.slice sa C sc) (.slice la N lc) (.slice qa 0 qc) (allB L F C 0 && noBusy G k)) (fun i _ => N - (intOf i).toNat)
      case atStart => exact ⟨0, Nat.zero_le _, rfl, lw⟩
      case round =>
        obtain ⟨k, hk, rfl, lk⟩ := hrel
        clear lw
        by_cases hlt : k < N
        · obtain ⟨p, off, rfl, hc⟩ := hl (by omega)
          obtain ⟨sb, sd, qb, qd, ⟨d0, d1, d2, d3, d4, d5, d6⟩, s1, t1⟩ := hc k hlt
          have c0 := Below.keep lk.bel _ _ d0
          have c1 := Below.keep lk.bel _ _ d1
          have c2 := Below.keep lk.bel _ _ d2
          have c3 := Below.keep lk.bel _ _ d3
          have c4 := Below.keep lk.bel _ _ d4
          have c5 := Below.keep lk.bel _ _ d5
          have c6 := Below.keep lk.bel _ _ d6
          clear d0 d1 d2 d3 d4 d5 d6 s1 t1 hc hl
          have lx := lk.alloc (.cells (ln7 (G k).mem (G k).ow (.slice sb (G k).zs.length sd) (G k).bu (G k).wt (G k).ac (.slice qb (G k).qn qd)) 51)
          clear lk
          go_wp2_with fail
          refine (isBusy_any _ _ _ _ _ _ _ _).mono ?_
          rintro e w3 ⟨rfl, hb3⟩
          have ly := lx.next hb3
          clear lx hb3
          by_cases hbu : (G k).bu = 0
          · have hq0 : ((G k).bu != 0) = false := by simp [hbu]
            rw [← noBusy_yes hbu] at ly
            clear hbu
            go_wp2
            go_roundw
            case rel => exact ⟨k + 1, by omega, by go_num, ly⟩
            case measure => simp [intOf]; omega
          · have hq0 : ((G k).bu != 0) = true := by simp [hbu]
            have lz := ly.put false
            have h1 : (allB L F C 0 && noBusy G (k + 1)) = false := by rw [noBusy_no hbu, Bool.and_false]
            have HL1 := hide h1
            obtain ⟨f0, f1⟩ := ly.var.facts
            clear hbu h1 ly
            go_wp2
            go_roundw
            case rel => exact ⟨k + 1, by omega, by go_num, by rw [HL1.out]; exact lz⟩
            case measure => simp [intOf]; omega
        · have e : k = N := by omega
          subst e
          obtain ⟨f0, f1⟩ := lk.var.facts
          go_wp2
          go_ret
          exact ⟨rfl, lk.bel⟩
    · rw [quietB_mail hn0]
      clear hm
      go_enter Tryd.func13, Tryd.ntmps13
      go_wp2_with fail
      refine hmo.mono ?_
      rintro e w1 ⟨rfl, hb1⟩
      have m1 := mb.next hb1
      clear mb hb1 hmo
      obtain ⟨_, c0, c1, c2⟩ := id m1
      have hpos : 0 < (n : Int) := by omega
      go_wp2
      go_ret
      exact ⟨rfl, m1.1⟩
end Go.Proofs.YtelknolcneiikaaDoor
