/- two machines held against one another: the same slots, new lines, no mail (written by mkMwA.py) -/
import Derived.Test.YtelknolcneiikaaDoorMnD
import Derived.Deep.QuietTactic
import Derived.BigQuiet
namespace Go.Proofs.YtelknolcneiikaaDoor
open Go.RowKit
set_option linter.unusedVariables false
set_option linter.unusedSimpArgs false

theorem heap_bel {w w' : World} {B : Nat} {o : Obj} (h : w.heap[B]? = some o) (hb : Below w.heap.size w w') : w'.heap[B]? = some o := by
  rw [hb.block B (lt_of_block' h)]; exact h

set_option maxHeartbeats 400000 in
theorem sameInts_nil (sa sb : Option Addr) (sc sd : Nat) (w : World) : Calls Tryd.prog 36 #[.slice sa 0 sc, .slice sb 0 sd] w fun e w' => e = .returned (.bool true) ∧ w' = w := by
  go_enter Tryd.func36, Tryd.ntmps36
  go_wp2
  go_loop [5] (fun i => i = .int .i64 0) (fun _ => 0)
  case atStart => rfl
  case round =>
    subst hrel
    go_wp2
    go_ret
    exact ⟨rfl, rfl⟩

/-- a new line's seven cells -/
abbrev nlC (sa : Option Addr) (sc : Nat) (qa : Option Addr) (qc : Nat) : Array Value := #[.int .i64 0, .int .i64 0, .slice sa 0 sc, .int .i64 0, .int .i64 0, .int .i64 0, .slice qa 0 qc]

set_option maxHeartbeats 1000000 in
theorem sameLine_new (sa sb : Option Addr) (sc sd : Nat) (qa qb : Option Addr) (qc qd : Nat) (w : World) : Calls Tryd.prog 19 #[.agg (nlC sa sc qa qc), .agg (nlC sb sd qb qd)] w fun e w' => e = .returned (.bool true) ∧ Below w.heap.size w w' := by
  go_enter Tryd.func19, Tryd.ntmps19
  go_wp2_with fail
  refine (sameInts_nil _ _ _ _ _).mono ?_
  rintro e w1 ⟨rfl, rfl⟩
  go_wp2
  go_loop [5] (fun i => i = .int .i64 0) (fun _ => 0)
  case atStart => rfl
  case round =>
    subst hrel
    go_wp2
    go_ret
    exact ⟨rfl, ((Below.refl _ _).alloc (Nat.le_refl _) _).alloc (by simp) _⟩

set_option maxHeartbeats 1000000 in
theorem sameMail_none (w : World) : Calls Tryd.prog 18 #[.slice none 0 0, .slice none 0 0] w fun e w' => e = .returned (.bool true) ∧ Below w.heap.size w w' := by
  go_enter Tryd.func18, Tryd.ntmps18
  go_wp2
  go_loop [5] (fun i => i = .int .i64 0) (fun _ => 0)
  case atStart => rfl
  case round =>
    subst hrel
    go_wp2
    go_ret
    exact ⟨rfl, Below.refl _ _⟩

/-- both boxes -/
structure Sb (w : World) (a b : Array Value) (wr : World) : Prop where
  qa : wr.heap[w.heap.size]? = some (.cells a 30 (0, 0))
  qb : wr.heap[w.heap.size + 1]? = some (.cells b 30 (0, 0))
  be : Below w.heap.size w wr
theorem Sb.made (w : World) (a b : Array Value) : Sb w a b ((w.alloc (.cells a 30)).alloc (.cells b 30)) := by
  refine ⟨?_, ?_, ((Below.refl _ _).alloc (Nat.le_refl _) _).alloc (by simp) _⟩
  · rw [Below.heap_alloc _ _ _ (by simp)]; exact heap_alloc_new _ _
  · have := heap_alloc_new (w.alloc (.cells a 30)) (.cells b 30)
    simpa only [World.size_alloc] using this
theorem Sb.below {w : World} {a b : Array Value} {wr w' : World} (h : Sb w a b wr) (hb : Below wr.heap.size wr w') : Sb w a b w' := ⟨heap_bel h.qa hb, heap_bel h.qb hb, h.be.trans (hb.mono h.be.size)⟩

set_option maxHeartbeats 8000000 in
set_option maxRecDepth 20000 in
theorem sameMachine_same (ba ba' ra ra' : Option Addr) (bc bc' rc rc' : Nat) (C : Nat) (L : Nat → Nat) (F : Nat → Nat → Nat → Int) (R : Nat) (w : World) (h : Ss w (.slice ba C bc) C L F) (h' : Ss w (.slice ba' C bc') C L F) (k : Ls w (.slice ra R rc) R (fun _ => zLn)) (k' : Ls w (.slice ra' R rc') R (fun _ => zLn)) (hC : C ≤ 1048576) (hLL : ∀ c, c < C → L c ≤ 1048576) (hR : R ≤ 1048576) :
    Calls Tryd.prog 8 #[.agg #[.slice ba C bc, .slice ra R rc, .slice none 0 0], .agg #[.slice ba' C bc', .slice ra' R rc', .slice none 0 0]] w fun e w' => e = .returned (.bool true) ∧ Below w.heap.size w w' := by
  have H1 := hide h
  have H2 := hide h'
  have H3 := hide k
  have H4 := hide k'
  have HS := hide (Sb.made w #[.slice ba C bc, .slice ra R rc, .slice none 0 0] #[.slice ba' C bc', .slice ra' R rc', .slice none 0 0])
  obtain ⟨_, x0, x1, x2⟩ := row3_facts HS.out.qa
  obtain ⟨_, y0, y1, y2⟩ := row3_facts HS.out.qb
  have HL := hide hLL
  clear h h' k k' hLL
  go_enter Tryd.func8, Tryd.ntmps8
  go_wp2_with fail
  refine (sameMail_none _).mono ?_
  rintro e w1 ⟨rfl, hb1⟩
  have HS1 := hide (HS.out.below hb1)
  clear x0 x1 x2 y0 y1 y2 HS hb1
  obtain ⟨_, x0, x1, x2⟩ := row3_facts HS1.out.qa
  obtain ⟨_, y0, y1, y2⟩ := row3_facts HS1.out.qb
  go_wp2
  clear x0 x1 x2 y0 y1 y2
  go_loopw [5] (fun i wr => ∃ k : Nat, k ≤ C ∧ i = .int .i64 k ∧ Hid (Sb w #[.slice ba C bc, .slice ra R rc, .slice none 0 0] #[.slice ba' C bc', .slice ra' R rc', .slice none 0 0] wr)) (fun i _ => C - (intOf i).toNat)
  case atStart => exact ⟨0, Nat.zero_le _, rfl, HS1⟩
  case round =>
    clear HS1
    obtain ⟨k, hk, rfl, HS⟩ := hrel
    obtain ⟨_, x0, x1, x2⟩ := row3_facts HS.out.qa
    obtain ⟨_, y0, y1, y2⟩ := row3_facts HS.out.qb
    by_cases hlt : k < C
    · obtain ⟨ad, cap, e, hs⟩ := H1.out
      obtain ⟨bd, cbp, e2, hs'⟩ := H2.out
      simp only [Value.slice.injEq, true_and] at e e2
      obtain ⟨rfl, rfl⟩ := e
      obtain ⟨rfl, rfl⟩ := e2
      obtain ⟨p, off, rfl, hc⟩ := hs (by omega)
      obtain ⟨q, off', rfl, hd⟩ := hs' (by omega)
      obtain ⟨ia, ic, c0', ra1⟩ := hc k hlt
      obtain ⟨ja, jc, d0', rb1⟩ := hd k hlt
      have HC := hide (And.intro c0' d0')
      have c0 : wr.cell? ⟨p, off + k, none⟩ = some (.slice ia (L k) ic) := Below.keep HS.out.be _ _ c0'
      have d0 : wr.cell? ⟨q, off' + k, none⟩ = some (.slice ja (L k) jc) := Below.keep HS.out.be _ _ d0'
      have hk0 : (0 : Int) ≤ (k : Int) := by omega
      have hk1 : (k : Int) < (C : Int) := by omega
      have hLk := HL.out k hlt
      have RA := hide ra1
      have RB := hide rb1
      clear hs hs' hc hd c0' d0' ra1 rb1
      go_wp2
      go_quiet (fail)
      all_goals go_wp2
      clear c0 d0 x0 x1 x2 y0 y1 y2
      go_loopw [6] (fun i wr2 => ∃ j : Nat, j ≤ L k ∧ i = .int .i64 j ∧ Hid (Sb w #[.slice (some ⟨p, off, none⟩) C bc, .slice ra R rc, .slice none 0 0] #[.slice (some ⟨q, off', none⟩) C bc', .slice ra' R rc', .slice none 0 0] wr2)) (fun i _ => L k - (intOf i).toNat)
      case atStart => exact ⟨0, Nat.zero_le _, rfl, hide (HS.out.below (below_drewN (Below.refl _ _) _))⟩
      case round =>
        clear HS
        obtain ⟨j, hj, rfl, HS⟩ := hrel
        have c1 : wr.cell? ⟨p, off + k, none⟩ = some (.slice ia (L k) ic) := Below.keep HS.out.be _ _ HC.out.1
        have d1 : wr.cell? ⟨q, off' + k, none⟩ = some (.slice ja (L k) jc) := Below.keep HS.out.be _ _ HC.out.2
        obtain ⟨_, x0, x1, x2⟩ := row3_facts HS.out.qa
        obtain ⟨_, y0, y1, y2⟩ := row3_facts HS.out.qb
        by_cases hjl : j < L k
        · obtain ⟨ia', ic', hvx, hw⟩ := RA.out
          simp only [Value.slice.injEq, true_and] at hvx
          obtain ⟨rfl, rfl⟩ := hvx
          obtain ⟨ja', jc', hvy, hz⟩ := RB.out
          simp only [Value.slice.injEq, true_and] at hvy
          obtain ⟨rfl, rfl⟩ := hvy
          obtain ⟨pp, po, rfl, hw2⟩ := hw (by omega)
          obtain ⟨qq, qo, rfl, hz2⟩ := hz (by omega)
          have e0 : wr.cell? ⟨pp, po + j * 4, none⟩ = some (.int .i64 (F k j 0)) := Below.keep HS.out.be _ _ (hw2 j hjl 0 (by decide))
          have f0 : wr.cell? ⟨qq, qo + j * 4, none⟩ = some (.int .i64 (F k j 0)) := Below.keep HS.out.be _ _ (hz2 j hjl 0 (by decide))
          have e1 : wr.cell? ⟨pp, po + j * 4 + 1, none⟩ = some (.int .i64 (F k j 1)) := Below.keep HS.out.be _ _ (hw2 j hjl 1 (by decide))
          have f1 : wr.cell? ⟨qq, qo + j * 4 + 1, none⟩ = some (.int .i64 (F k j 1)) := Below.keep HS.out.be _ _ (hz2 j hjl 1 (by decide))
          have e2 : wr.cell? ⟨pp, po + j * 4 + 2, none⟩ = some (.int .i64 (F k j 2)) := Below.keep HS.out.be _ _ (hw2 j hjl 2 (by decide))
          have f2 : wr.cell? ⟨qq, qo + j * 4 + 2, none⟩ = some (.int .i64 (F k j 2)) := Below.keep HS.out.be _ _ (hz2 j hjl 2 (by decide))
          have e3 : wr.cell? ⟨pp, po + j * 4 + 3, none⟩ = some (.int .i64 (F k j 3)) := Below.keep HS.out.be _ _ (hw2 j hjl 3 (by decide))
          have f3 : wr.cell? ⟨qq, qo + j * 4 + 3, none⟩ = some (.int .i64 (F k j 3)) := Below.keep HS.out.be _ _ (hz2 j hjl 3 (by decide))
          have hj0 : (0 : Int) ≤ (j : Int) := by omega
          have hj1 : (j : Int) < (L k : Int) := by omega
          clear hw hw2 hz hz2 RA RB HC
          generalize F k j 0 = u0 at e0 f0
          generalize F k j 1 = u1 at e1 f1
          generalize F k j 2 = u2 at e2 f2
          generalize F k j 3 = u3 at e3 f3
          generalize hll : L k = ll at *
          clear hll
          go_wp2
          go_quiet (fail)
          all_goals go_wp2
          exact ⟨⟨j + 1, by omega, by go_num, hide (HS.out.below (below_drewN (Below.refl _ _) _))⟩, by simp [intOf]; omega⟩
        · have e : j = L k := by omega
          clear RA RB HC
          generalize hll : L k = ll at *
          clear hll
          subst e
          go_wp2
          exact ⟨⟨k + 1, by omega, by go_num, HS⟩, by simp [intOf]; omega⟩
    · have e : k = C := by omega
      subst e
      go_wp2
      clear x0 x1 x2 y0 y1 y2
      go_loopw [7] (fun i wr => ∃ k2 : Nat, k2 ≤ R ∧ i = .int .i64 k2 ∧ Hid (Sb w #[.slice ba k bc, .slice ra R rc, .slice none 0 0] #[.slice ba' k bc', .slice ra' R rc', .slice none 0 0] wr)) (fun i _ => R - (intOf i).toNat)
      case atStart => exact ⟨0, Nat.zero_le _, rfl, HS⟩
      case round =>
        clear HS
        obtain ⟨c, hc, rfl, HS⟩ := hrel
        obtain ⟨_, x0, x1, x2⟩ := row3_facts HS.out.qa
        obtain ⟨_, y0, y1, y2⟩ := row3_facts HS.out.qb
        by_cases hlc : c < R
        · obtain ⟨ad, cap, e, hs⟩ := H3.out
          obtain ⟨bd, cbp, e2, hs'⟩ := H4.out
          simp only [Value.slice.injEq, true_and] at e e2
          obtain ⟨rfl, rfl⟩ := e
          obtain ⟨rfl, rfl⟩ := e2
          obtain ⟨p, off, rfl, hcc⟩ := hs (by omega)
          obtain ⟨q, off', rfl, hd⟩ := hs' (by omega)
          obtain ⟨sa, sc, qa, qc, ⟨c0, c1, c2, c3, c4, c5, c6⟩, _, _⟩ := (hcc c hlc).below HS.out.be
          obtain ⟨sb, sd, qb, qd, ⟨d0, d1, d2, d3, d4, d5, d6⟩, _, _⟩ := (hd c hlc).below HS.out.be
          simp only [zLn, List.length_nil] at c0 c1 c2 c3 c4 c5 c6 d0 d1 d2 d3 d4 d5 d6
          have hk0 : (0 : Int) ≤ (c : Int) := by omega
          have hk1 : (c : Int) < (R : Int) := by omega
          have HSX := hide HS.out
          clear hs hs' hcc hd
          go_wp2
          refine wp_region_held_drew (S := fun w' => Below wr.heap.size wr w') (by kernel_rfl) ((Below.refl _ _).drew) (fun hHeld => ?_)
          refine wpAnyH_take (i := 0) (v := .pointer (some ⟨w.heap.size, 1, none⟩)) rfl (by kernel_rfl) (by kernel_rfl) (by kernel_rfl) (fun _ _ _ h => h) (Or.inl ⟨by rfl, fun w' hSw => ?_⟩) (by assumption) ?_
          · (try dsimp only at hSw); have zx1 := keepc hSw x1; have zy1 := keepc hSw y1; have zc0 := keepc hSw c0; have zc1 := keepc hSw c1; have zc2 := keepc hSw c2; have zc3 := keepc hSw c3; have zc4 := keepc hSw c4; have zc5 := keepc hSw c5; have zc6 := keepc hSw c6; have zd0 := keepc hSw d0; have zd1 := keepc hSw d1; have zd2 := keepc hSw d2; have zd3 := keepc hSw d3; have zd4 := keepc hSw d4; have zd5 := keepc hSw d5; have zd6 := keepc hSw d6; go_simp
          try simp only [Act.put, List.getElem_toArray, List.getElem_cons_zero, List.getElem_cons_succ, List.setIfInBounds_toArray, List.set_cons_zero, List.set_cons_succ]
          refine wpAnyH_take (i := 1) (v := .slice (some ⟨p, off, none⟩) R rc) rfl (by kernel_rfl) (by kernel_rfl) (by kernel_rfl) (fun _ _ _ h => h) (Or.inl ⟨by rfl, fun w' hSw => ?_⟩) (by assumption) ?_
          · (try dsimp only at hSw); have zx1 := keepc hSw x1; have zy1 := keepc hSw y1; have zc0 := keepc hSw c0; have zc1 := keepc hSw c1; have zc2 := keepc hSw c2; have zc3 := keepc hSw c3; have zc4 := keepc hSw c4; have zc5 := keepc hSw c5; have zc6 := keepc hSw c6; have zd0 := keepc hSw d0; have zd1 := keepc hSw d1; have zd2 := keepc hSw d2; have zd3 := keepc hSw d3; have zd4 := keepc hSw d4; have zd5 := keepc hSw d5; have zd6 := keepc hSw d6; go_simp
          try simp only [Act.put, List.getElem_toArray, List.getElem_cons_zero, List.getElem_cons_succ, List.setIfInBounds_toArray, List.set_cons_zero, List.set_cons_succ]
          refine wpAnyH_take (i := 2) (v := .int .i64 c) rfl (by kernel_rfl) (by kernel_rfl) (by kernel_rfl) (fun _ _ _ h => h) (Or.inl ⟨by rfl, fun w' hSw => ?_⟩) (by assumption) ?_
          · (try dsimp only at hSw); have zx1 := keepc hSw x1; have zy1 := keepc hSw y1; have zc0 := keepc hSw c0; have zc1 := keepc hSw c1; have zc2 := keepc hSw c2; have zc3 := keepc hSw c3; have zc4 := keepc hSw c4; have zc5 := keepc hSw c5; have zc6 := keepc hSw c6; have zd0 := keepc hSw d0; have zd1 := keepc hSw d1; have zd2 := keepc hSw d2; have zd3 := keepc hSw d3; have zd4 := keepc hSw d4; have zd5 := keepc hSw d5; have zd6 := keepc hSw d6; go_simp
          try simp only [Act.put, List.getElem_toArray, List.getElem_cons_zero, List.getElem_cons_succ, List.setIfInBounds_toArray, List.set_cons_zero, List.set_cons_succ]
          refine wpAnyH_take (i := 3) (v := .pointer (some ⟨p, off + c * 7, none⟩)) rfl (by kernel_rfl) (by kernel_rfl) (by kernel_rfl) (fun _ _ _ h => h) (Or.inl ⟨by rfl, fun w' hSw => ?_⟩) (by assumption) ?_
          · (try dsimp only at hSw); have zx1 := keepc hSw x1; have zy1 := keepc hSw y1; have zc0 := keepc hSw c0; have zc1 := keepc hSw c1; have zc2 := keepc hSw c2; have zc3 := keepc hSw c3; have zc4 := keepc hSw c4; have zc5 := keepc hSw c5; have zc6 := keepc hSw c6; have zd0 := keepc hSw d0; have zd1 := keepc hSw d1; have zd2 := keepc hSw d2; have zd3 := keepc hSw d3; have zd4 := keepc hSw d4; have zd5 := keepc hSw d5; have zd6 := keepc hSw d6; go_simp
          try simp only [Act.put, List.getElem_toArray, List.getElem_cons_zero, List.getElem_cons_succ, List.setIfInBounds_toArray, List.set_cons_zero, List.set_cons_succ]
          refine wpAnyH_take (i := 4) (v := .agg (nlC sa sc qa qc)) rfl (by kernel_rfl) (by kernel_rfl) (by kernel_rfl) (fun _ _ _ h => h) (Or.inl ⟨by rfl, fun w' hSw => ?_⟩) (by assumption) ?_
          · (try dsimp only at hSw); have zx1 := keepc hSw x1; have zy1 := keepc hSw y1; have zc0 := keepc hSw c0; have zc1 := keepc hSw c1; have zc2 := keepc hSw c2; have zc3 := keepc hSw c3; have zc4 := keepc hSw c4; have zc5 := keepc hSw c5; have zc6 := keepc hSw c6; have zd0 := keepc hSw d0; have zd1 := keepc hSw d1; have zd2 := keepc hSw d2; have zd3 := keepc hSw d3; have zd4 := keepc hSw d4; have zd5 := keepc hSw d5; have zd6 := keepc hSw d6; go_simp
          try simp only [Act.put, List.getElem_toArray, List.getElem_cons_zero, List.getElem_cons_succ, List.setIfInBounds_toArray, List.set_cons_zero, List.set_cons_succ]
          refine wpAnyH_take (i := 5) (v := .pointer (some ⟨w.heap.size + 1, 1, none⟩)) rfl (by kernel_rfl) (by kernel_rfl) (by kernel_rfl) (fun _ _ _ h => h) (Or.inl ⟨by rfl, fun w' hSw => ?_⟩) (by assumption) ?_
          · (try dsimp only at hSw); have zx1 := keepc hSw x1; have zy1 := keepc hSw y1; have zc0 := keepc hSw c0; have zc1 := keepc hSw c1; have zc2 := keepc hSw c2; have zc3 := keepc hSw c3; have zc4 := keepc hSw c4; have zc5 := keepc hSw c5; have zc6 := keepc hSw c6; have zd0 := keepc hSw d0; have zd1 := keepc hSw d1; have zd2 := keepc hSw d2; have zd3 := keepc hSw d3; have zd4 := keepc hSw d4; have zd5 := keepc hSw d5; have zd6 := keepc hSw d6; go_simp
          try simp only [Act.put, List.getElem_toArray, List.getElem_cons_zero, List.getElem_cons_succ, List.setIfInBounds_toArray, List.set_cons_zero, List.set_cons_succ]
          refine wpAnyH_take (i := 6) (v := .slice (some ⟨q, off', none⟩) R rc') rfl (by kernel_rfl) (by kernel_rfl) (by kernel_rfl) (fun _ _ _ h => h) (Or.inl ⟨by rfl, fun w' hSw => ?_⟩) (by assumption) ?_
          · (try dsimp only at hSw); have zx1 := keepc hSw x1; have zy1 := keepc hSw y1; have zc0 := keepc hSw c0; have zc1 := keepc hSw c1; have zc2 := keepc hSw c2; have zc3 := keepc hSw c3; have zc4 := keepc hSw c4; have zc5 := keepc hSw c5; have zc6 := keepc hSw c6; have zd0 := keepc hSw d0; have zd1 := keepc hSw d1; have zd2 := keepc hSw d2; have zd3 := keepc hSw d3; have zd4 := keepc hSw d4; have zd5 := keepc hSw d5; have zd6 := keepc hSw d6; go_simp
          try simp only [Act.put, List.getElem_toArray, List.getElem_cons_zero, List.getElem_cons_succ, List.setIfInBounds_toArray, List.set_cons_zero, List.set_cons_succ]
          refine wpAnyH_take (i := 7) (v := .int .i64 c) rfl (by kernel_rfl) (by kernel_rfl) (by kernel_rfl) (fun _ _ _ h => h) (Or.inl ⟨by rfl, fun w' hSw => ?_⟩) (by assumption) ?_
          · (try dsimp only at hSw); have zx1 := keepc hSw x1; have zy1 := keepc hSw y1; have zc0 := keepc hSw c0; have zc1 := keepc hSw c1; have zc2 := keepc hSw c2; have zc3 := keepc hSw c3; have zc4 := keepc hSw c4; have zc5 := keepc hSw c5; have zc6 := keepc hSw c6; have zd0 := keepc hSw d0; have zd1 := keepc hSw d1; have zd2 := keepc hSw d2; have zd3 := keepc hSw d3; have zd4 := keepc hSw d4; have zd5 := keepc hSw d5; have zd6 := keepc hSw d6; go_simp
          try simp only [Act.put, List.getElem_toArray, List.getElem_cons_zero, List.getElem_cons_succ, List.setIfInBounds_toArray, List.set_cons_zero, List.set_cons_succ]
          refine wpAnyH_take (i := 8) (v := .pointer (some ⟨q, off' + c * 7, none⟩)) rfl (by kernel_rfl) (by kernel_rfl) (by kernel_rfl) (fun _ _ _ h => h) (Or.inl ⟨by rfl, fun w' hSw => ?_⟩) (by assumption) ?_
          · (try dsimp only at hSw); have zx1 := keepc hSw x1; have zy1 := keepc hSw y1; have zc0 := keepc hSw c0; have zc1 := keepc hSw c1; have zc2 := keepc hSw c2; have zc3 := keepc hSw c3; have zc4 := keepc hSw c4; have zc5 := keepc hSw c5; have zc6 := keepc hSw c6; have zd0 := keepc hSw d0; have zd1 := keepc hSw d1; have zd2 := keepc hSw d2; have zd3 := keepc hSw d3; have zd4 := keepc hSw d4; have zd5 := keepc hSw d5; have zd6 := keepc hSw d6; go_simp
          try simp only [Act.put, List.getElem_toArray, List.getElem_cons_zero, List.getElem_cons_succ, List.setIfInBounds_toArray, List.set_cons_zero, List.set_cons_succ]
          refine wpAnyH_take (i := 9) (v := .agg (nlC sb sd qb qd)) rfl (by kernel_rfl) (by kernel_rfl) (by kernel_rfl) (fun _ _ _ h => h) (Or.inl ⟨by rfl, fun w' hSw => ?_⟩) (by assumption) ?_
          · (try dsimp only at hSw); have zx1 := keepc hSw x1; have zy1 := keepc hSw y1; have zc0 := keepc hSw c0; have zc1 := keepc hSw c1; have zc2 := keepc hSw c2; have zc3 := keepc hSw c3; have zc4 := keepc hSw c4; have zc5 := keepc hSw c5; have zc6 := keepc hSw c6; have zd0 := keepc hSw d0; have zd1 := keepc hSw d1; have zd2 := keepc hSw d2; have zd3 := keepc hSw d3; have zd4 := keepc hSw d4; have zd5 := keepc hSw d5; have zd6 := keepc hSw d6; go_simp
          try simp only [Act.put, List.getElem_toArray, List.getElem_cons_zero, List.getElem_cons_succ, List.setIfInBounds_toArray, List.set_cons_zero, List.set_cons_succ]
          refine wpAnyH_ready (rs := [10]) (by kernel_rfl) (by simp) ?_
          refine AllReadyH.cons rfl (fun K hK => ?_) AllReadyH.nil
          go_simp
          refine (sameLine_new _ _ _ _ _ _ _ _ _).mono ?_
          rintro e w5 ⟨rfl, hb5⟩
          refine hK.out _ _ (hHeld.trans (hb5.mono hHeld.size)) (fun hHeld => ?_)
          clear hK K hb5
          try simp only [Act.put, List.getElem_toArray, List.getElem_cons_zero, List.getElem_cons_succ, List.setIfInBounds_toArray, List.set_cons_zero, List.set_cons_succ]
          refine wpAnyH_take (i := 11) (v := .bool false) rfl (by kernel_rfl) (by kernel_rfl) (by kernel_rfl) (fun _ _ _ h => h) (Or.inl ⟨by rfl, fun w' hSw => ?_⟩) (by assumption) ?_
          · (try dsimp only at hSw); skip; go_simp
          try simp only [Act.put, List.getElem_toArray, List.getElem_cons_zero, List.getElem_cons_succ, List.setIfInBounds_toArray, List.set_cons_zero, List.set_cons_succ]
          refine wpAnyH_done (by kernel_rfl) ?_ _
          have HS5 := hide (HSX.out.below hHeld)
          clear HSX HS c0 c1 c2 c3 c4 c5 c6 d0 d1 d2 d3 d4 d5 d6 x0 x1 x2 y0 y1 y2 hHeld
          go_wp2
          exact ⟨⟨c + 1, by omega, by go_num, HS5⟩, by simp [intOf]; omega⟩
        · go_wp2
          go_ret
          exact ⟨rfl, HS.out.be⟩

end Go.Proofs.YtelknolcneiikaaDoor
