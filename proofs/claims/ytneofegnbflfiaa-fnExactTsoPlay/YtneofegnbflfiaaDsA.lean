/- two Tsos held against one another (written by mkDsA.py) -/
import Derived.Test.YtneofegnbflfiaaDrC
import Derived.Deep.QuietTactic
import Derived.BigQuiet
namespace Go.Proofs.Ytneofegnbflfiaa
open Go.RowKit
set_option linter.unusedVariables false
set_option linter.unusedSimpArgs false

set_option maxHeartbeats 1000000 in
theorem sameInts_same (a b : Value) (zs : List Int) (w : World) (ha : Sl w a zs) (hb : Sl w b zs) (hl : zs.length ≤ 1048576) :
    Calls Try.prog 23 #[a, b] w fun e w' => e = .returned (.bool true) ∧ Below w.heap.size w w' := by
  obtain ⟨ad, cap, rfl, ha⟩ := ha
  obtain ⟨bd, cbp, rfl, hb⟩ := hb
  obtain ⟨n, hn⟩ : ∃ n, zs.length = n := ⟨_, rfl⟩
  rw [hn] at ha hb hl ⊢
  clear hn
  go_enter Try.func23, Try.ntmps23
  go_wp2
  go_loopw [5] (fun i wr => ∃ k : Nat, k ≤ n ∧ i = .int .i64 k ∧ Below w.heap.size w wr) (fun i _ => n - (intOf i).toNat)
  case atStart => exact ⟨0, Nat.zero_le _, rfl, Below.refl _ _⟩
  case round =>
    obtain ⟨k, hk, rfl, hbk⟩ := hrel
    by_cases hlt : k < n
    · obtain ⟨p, off, rfl, hc⟩ := ha (by omega)
      obtain ⟨q, off', rfl, hd⟩ := hb (by omega)
      have hck : wr.cell? ⟨p, off + k, none⟩ = some (.int .i64 (zs.getD k 0)) := Below.keep hbk _ _ (hc k hlt)
      have hdk : wr.cell? ⟨q, off' + k, none⟩ = some (.int .i64 (zs.getD k 0)) := Below.keep hbk _ _ (hd k hlt)
      generalize zs.getD k 0 = z at hck hdk
      clear hc hd ha hb
      go_wp2
      go_quiet (fail)
      all_goals go_wp2
      all_goals go_roundw
      case rel => exact ⟨k + 1, by omega, by go_num, below_drewN hbk _⟩
      case measure => simp [intOf]; omega
    · go_wp2
      go_ret
      exact ⟨rfl, hbk⟩


/-- both boxes -/
structure Sb (w : World) (a b : Array Value) (wr : World) : Prop where
  qa : wr.heap[w.heap.size]? = some (.cells a 28 (0, 0))
  qb : wr.heap[w.heap.size + 1]? = some (.cells b 28 (0, 0))
  be : Below w.heap.size w wr
theorem Sb.made (w : World) (a b : Array Value) : Sb w a b ((w.alloc (.cells a 28)).alloc (.cells b 28)) := by
  refine ⟨?_, ?_, ((Below.refl _ _).alloc (Nat.le_refl _) _).alloc (by simp) _⟩
  · rw [Below.heap_alloc _ _ _ (by simp)]; exact heap_alloc_new _ _
  · have := heap_alloc_new (w.alloc (.cells a 28)) (.cells b 28)
    simpa only [World.size_alloc] using this
theorem Sb.below {w : World} {a b : Array Value} {wr w' : World} (h : Sb w a b wr) (hb : Below wr.heap.size wr w') : Sb w a b w' := ⟨heap_b h.qa hb, heap_b h.qb hb, h.be.trans (hb.mono h.be.size)⟩
theorem Sb.drewN {w : World} {a b : Array Value} {wr : World} (h : Sb w a b wr) (w' : World) (e : ∃ n, w' = wr.drewN n) : Sb w a b w' := by
  obtain ⟨n, rfl⟩ := e
  exact h.below (below_drewN (Below.refl _ _) n)

set_option maxHeartbeats 8000000 in
set_option maxRecDepth 20000 in
theorem sameTso_same (mv bv rv mv' bv' rv' : Value) (zs : List Int) (C : Nat) (L : Nat → Nat) (F : Nat → Nat → Nat → Int) (R : Nat) (Z : Nat → List Int) (w : World) (h : Tv w mv bv rv zs C L F R Z) (h' : Tv w mv' bv' rv' zs C L F R Z) (hl : Tl zs C L R Z) :
    Calls Try.prog 20 #[.agg #[mv, bv, rv], .agg #[mv', bv', rv']] w fun e w' => e = .returned (.bool true) ∧ Below w.heap.size w w' := by
  obtain ⟨⟨ma, mc, rfl⟩, ⟨ba, bc, rfl⟩, ⟨ra, rc, rfl⟩⟩ := three_of h
  obtain ⟨⟨ma', mc', rfl⟩, ⟨ba', bc', rfl⟩, ⟨ra', rc', rfl⟩⟩ := three_of h'
  have H1 := hide h
  have H2 := hide h'
  have HS := hide (Sb.made w #[.slice ma zs.length mc, .slice ba C bc, .slice ra R rc] #[.slice ma' zs.length mc', .slice ba' C bc', .slice ra' R rc'])
  obtain ⟨_, x0, x1, x2⟩ := row3_facts HS.out.qa
  obtain ⟨_, y0, y1, y2⟩ := row3_facts HS.out.qb
  have HL := hide hl
  have hC := hl.buf.1
  have hR := hl.reg.1
  clear h h' hl
  go_enter Try.func20, Try.ntmps20
  go_wp2_with fail
  refine (sameInts_same _ _ zs _ (H1.out.mem.below HS.out.be) (H2.out.mem.below HS.out.be) HL.out.mem).mono ?_
  rintro e w1 ⟨rfl, hb1⟩
  have HS1 := hide (HS.out.below hb1)
  clear x0 x1 x2 y0 y1 y2 HS hb1
  obtain ⟨_, x0, x1, x2⟩ := row3_facts HS1.out.qa
  obtain ⟨_, y0, y1, y2⟩ := row3_facts HS1.out.qb
  go_wp2
  clear x0 x1 x2 y0 y1 y2
  go_loopw [5] (fun i wr => ∃ k : Nat, k ≤ C ∧ i = .int .i64 k ∧ Hid (Sb w #[.slice ma zs.length mc, .slice ba C bc, .slice ra R rc] #[.slice ma' zs.length mc', .slice ba' C bc', .slice ra' R rc'] wr)) (fun i _ => C - (intOf i).toNat)
  case atStart => exact ⟨0, Nat.zero_le _, rfl, HS1⟩
  case round =>
    clear HS1
    obtain ⟨k, hk, rfl, HS⟩ := hrel
    obtain ⟨_, x0, x1, x2⟩ := row3_facts HS.out.qa
    obtain ⟨_, y0, y1, y2⟩ := row3_facts HS.out.qb
    by_cases hlt : k < C
    · obtain ⟨ad, cap, e, hs⟩ := H1.out.buf
      obtain ⟨bd, cbp, e2, hs'⟩ := H2.out.buf
      simp only [Value.slice.injEq, true_and] at e e2
      obtain ⟨rfl, rfl⟩ := e
      obtain ⟨rfl, rfl⟩ := e2
      obtain ⟨p, off, rfl, hc⟩ := hs (by omega)
      obtain ⟨q, off', rfl, hd⟩ := hs' (by omega)
      obtain ⟨ia, ic, c0', ra1⟩ := hc k hlt
      obtain ⟨ja, jc, d0', rb1⟩ := hd k hlt
      have HC := hide (And.intro c0' d0')
      have c0 : wr.cell? ⟨p, off + k, none⟩ = some (.slice ia (L k) ic) := Below.keep HS.out.be _ _ c0'
      have d0 : wr.cell? ⟨q, off' + k, none⟩ = some (.slice ja (L k) jc) := Below.keep HS.out.be _ _ d0'
      have hk0 : (0 : Int) ≤ (k : Int) := by omega
      have hk1 : (k : Int) < (C : Int) := by omega
      have hLk := HL.out.buf.2 k hlt
      have RA := hide ra1
      have RB := hide rb1
      clear hs hs' hc hd c0' d0' ra1 rb1
      go_wp2
      go_quiet (fail)
      all_goals go_wp2
      clear c0 d0 x0 x1 x2 y0 y1 y2
      go_loopw [6] (fun i wr2 => ∃ j : Nat, j ≤ L k ∧ i = .int .i64 j ∧ Hid (Sb w #[.slice ma zs.length mc, .slice (some ⟨p, off, none⟩) C bc, .slice ra R rc] #[.slice ma' zs.length mc', .slice (some ⟨q, off', none⟩) C bc', .slice ra' R rc'] wr2)) (fun i _ => L k - (intOf i).toNat)
      case atStart => exact ⟨0, Nat.zero_le _, rfl, hide (HS.out.below (below_drewN (Below.refl _ _) _))⟩
      case round =>
        clear HS
        obtain ⟨j, hj, rfl, HS⟩ := hrel
        have c1 : wr.cell? ⟨p, off + k, none⟩ = some (.slice ia (L k) ic) := Below.keep HS.out.be _ _ HC.out.1
        have d1 : wr.cell? ⟨q, off' + k, none⟩ = some (.slice ja (L k) jc) := Below.keep HS.out.be _ _ HC.out.2
        obtain ⟨_, x0, x1, x2⟩ := row3_facts HS.out.qa
        obtain ⟨_, y0, y1, y2⟩ := row3_facts HS.out.qb
        by_cases hjl : j < L k
        · obtain ⟨ia', ic', hvx, hw⟩ := RA.out
          simp only [Value.slice.injEq, true_and] at hvx
          obtain ⟨rfl, rfl⟩ := hvx
          obtain ⟨ja', jc', hvy, hz⟩ := RB.out
          simp only [Value.slice.injEq, true_and] at hvy
          obtain ⟨rfl, rfl⟩ := hvy
          obtain ⟨pp, po, rfl, hw2⟩ := hw (by omega)
          obtain ⟨qq, qo, rfl, hz2⟩ := hz (by omega)
          have e0 : wr.cell? ⟨pp, po + j * 2, none⟩ = some (.int .i64 (F k j 0)) := Below.keep HS.out.be _ _ (hw2 j hjl 0 (by decide))
          have e1 : wr.cell? ⟨pp, po + j * 2 + 1, none⟩ = some (.int .i64 (F k j 1)) := Below.keep HS.out.be _ _ (hw2 j hjl 1 (by decide))
          have f0 : wr.cell? ⟨qq, qo + j * 2, none⟩ = some (.int .i64 (F k j 0)) := Below.keep HS.out.be _ _ (hz2 j hjl 0 (by decide))
          have f1 : wr.cell? ⟨qq, qo + j * 2 + 1, none⟩ = some (.int .i64 (F k j 1)) := Below.keep HS.out.be _ _ (hz2 j hjl 1 (by decide))
          have hj0 : (0 : Int) ≤ (j : Int) := by omega
          have hj1 : (j : Int) < (L k : Int) := by omega
          clear hw hw2 hz hz2 RA RB HC
          generalize F k j 0 = uu at e0 f0
          generalize F k j 1 = aa at e1 f1
          generalize hll : L k = ll at *
          clear hll
          go_wp2
          go_quiet (fail)
          all_goals go_wp2
          exact ⟨⟨j + 1, by omega, by go_num, hide (HS.out.below (below_drewN (Below.refl _ _) _))⟩, by simp [intOf]; omega⟩
        · have e : j = L k := by omega
          clear RA RB HC
          generalize hll : L k = ll at *
          clear hll
          subst e
          go_wp2
          exact ⟨⟨k + 1, by omega, by go_num, HS⟩, by simp [intOf]; omega⟩
    · have e : k = C := by omega
      subst e
      go_wp2
      clear x0 x1 x2 y0 y1 y2
      go_loopw [7] (fun i wr => ∃ k2 : Nat, k2 ≤ R ∧ i = .int .i64 k2 ∧ Hid (Sb w #[.slice ma zs.length mc, .slice ba k bc, .slice ra R rc] #[.slice ma' zs.length mc', .slice ba' k bc', .slice ra' R rc'] wr)) (fun i _ => R - (intOf i).toNat)
      case atStart => exact ⟨0, Nat.zero_le _, rfl, HS⟩
      case round =>
        clear HS
        obtain ⟨c, hc, rfl, HS⟩ := hrel
        obtain ⟨_, x0, x1, x2⟩ := row3_facts HS.out.qa
        obtain ⟨_, y0, y1, y2⟩ := row3_facts HS.out.qb
        by_cases hlc : c < R
        · obtain ⟨ad, cap, e, hs⟩ := H1.out.reg
          obtain ⟨bd, cbp, e2, hs'⟩ := H2.out.reg
          simp only [Value.slice.injEq, true_and] at e e2
          obtain ⟨rfl, rfl⟩ := e
          obtain ⟨rfl, rfl⟩ := e2
          obtain ⟨p, off, rfl, hcc⟩ := hs (by omega)
          obtain ⟨q, off', rfl, hd⟩ := hs' (by omega)
          obtain ⟨ia, ic, c0', ra1⟩ := hcc c hlc
          obtain ⟨ja, jc, d0', rb1⟩ := hd c hlc
          have c0 : wr.cell? ⟨p, off + c, none⟩ = some (.slice ia (Z c).length ic) := Below.keep HS.out.be _ _ c0'
          have d0 : wr.cell? ⟨q, off' + c, none⟩ = some (.slice ja (Z c).length jc) := Below.keep HS.out.be _ _ d0'
          have hk0 : (0 : Int) ≤ (c : Int) := by omega
          have hk1 : (c : Int) < (R : Int) := by omega
          have hLk := HL.out.reg.2 c hlc
          have RA := hide ra1
          have RB := hide rb1
          have HSX := hide HS.out
          clear hs hs' hcc hd c0' d0' ra1 rb1
          go_wp2
          refine wp_region_held_drew (S := fun w' => Below wr.heap.size wr w') (by kernel_rfl) ((Below.refl _ _).drew) (fun hHeld => ?_)
          refine wpAnyH_take (i := 0) (v := .pointer (some ⟨w.heap.size, 2, none⟩)) rfl (by kernel_rfl) (by kernel_rfl) (by kernel_rfl) (fun _ _ _ h => h) (Or.inl ⟨by rfl, fun w' hSw => ?_⟩) (by assumption) ?_
          · (try dsimp only at hSw); have z0 := keepc hSw x2; have z1 := keepc hSw y2; have z2 := keepc hSw c0; have z3 := keepc hSw d0; go_simp
          try simp only [Act.put, List.getElem_toArray, List.getElem_cons_zero, List.getElem_cons_succ, List.setIfInBounds_toArray, List.set_cons_zero, List.set_cons_succ]
          refine wpAnyH_take (i := 1) (v := .slice (some ⟨p, off, none⟩) R rc) rfl (by kernel_rfl) (by kernel_rfl) (by kernel_rfl) (fun _ _ _ h => h) (Or.inl ⟨by rfl, fun w' hSw => ?_⟩) (by assumption) ?_
          · (try dsimp only at hSw); have z0 := keepc hSw x2; have z1 := keepc hSw y2; have z2 := keepc hSw c0; have z3 := keepc hSw d0; go_simp
          try simp only [Act.put, List.getElem_toArray, List.getElem_cons_zero, List.getElem_cons_succ, List.setIfInBounds_toArray, List.set_cons_zero, List.set_cons_succ]
          refine wpAnyH_take (i := 2) (v := .int .i64 c) rfl (by kernel_rfl) (by kernel_rfl) (by kernel_rfl) (fun _ _ _ h => h) (Or.inl ⟨by rfl, fun w' hSw => ?_⟩) (by assumption) ?_
          · (try dsimp only at hSw); have z0 := keepc hSw x2; have z1 := keepc hSw y2; have z2 := keepc hSw c0; have z3 := keepc hSw d0; go_simp
          try simp only [Act.put, List.getElem_toArray, List.getElem_cons_zero, List.getElem_cons_succ, List.setIfInBounds_toArray, List.set_cons_zero, List.set_cons_succ]
          refine wpAnyH_take (i := 3) (v := .pointer (some ⟨p, off + c, none⟩)) rfl (by kernel_rfl) (by kernel_rfl) (by kernel_rfl) (fun _ _ _ h => h) (Or.inl ⟨by rfl, fun w' hSw => ?_⟩) (by assumption) ?_
          · (try dsimp only at hSw); have z0 := keepc hSw x2; have z1 := keepc hSw y2; have z2 := keepc hSw c0; have z3 := keepc hSw d0; go_simp
          try simp only [Act.put, List.getElem_toArray, List.getElem_cons_zero, List.getElem_cons_succ, List.setIfInBounds_toArray, List.set_cons_zero, List.set_cons_succ]
          refine wpAnyH_take (i := 4) (v := .slice ia (Z c).length ic) rfl (by kernel_rfl) (by kernel_rfl) (by kernel_rfl) (fun _ _ _ h => h) (Or.inl ⟨by rfl, fun w' hSw => ?_⟩) (by assumption) ?_
          · (try dsimp only at hSw); have z0 := keepc hSw x2; have z1 := keepc hSw y2; have z2 := keepc hSw c0; have z3 := keepc hSw d0; go_simp
          try simp only [Act.put, List.getElem_toArray, List.getElem_cons_zero, List.getElem_cons_succ, List.setIfInBounds_toArray, List.set_cons_zero, List.set_cons_succ]
          refine wpAnyH_take (i := 5) (v := .pointer (some ⟨w.heap.size + 1, 2, none⟩)) rfl (by kernel_rfl) (by kernel_rfl) (by kernel_rfl) (fun _ _ _ h => h) (Or.inl ⟨by rfl, fun w' hSw => ?_⟩) (by assumption) ?_
          · (try dsimp only at hSw); have z0 := keepc hSw x2; have z1 := keepc hSw y2; have z2 := keepc hSw c0; have z3 := keepc hSw d0; go_simp
          try simp only [Act.put, List.getElem_toArray, List.getElem_cons_zero, List.getElem_cons_succ, List.setIfInBounds_toArray, List.set_cons_zero, List.set_cons_succ]
          refine wpAnyH_take (i := 6) (v := .slice (some ⟨q, off', none⟩) R rc') rfl (by kernel_rfl) (by kernel_rfl) (by kernel_rfl) (fun _ _ _ h => h) (Or.inl ⟨by rfl, fun w' hSw => ?_⟩) (by assumption) ?_
          · (try dsimp only at hSw); have z0 := keepc hSw x2; have z1 := keepc hSw y2; have z2 := keepc hSw c0; have z3 := keepc hSw d0; go_simp
          try simp only [Act.put, List.getElem_toArray, List.getElem_cons_zero, List.getElem_cons_succ, List.setIfInBounds_toArray, List.set_cons_zero, List.set_cons_succ]
          refine wpAnyH_take (i := 7) (v := .int .i64 c) rfl (by kernel_rfl) (by kernel_rfl) (by kernel_rfl) (fun _ _ _ h => h) (Or.inl ⟨by rfl, fun w' hSw => ?_⟩) (by assumption) ?_
          · (try dsimp only at hSw); have z0 := keepc hSw x2; have z1 := keepc hSw y2; have z2 := keepc hSw c0; have z3 := keepc hSw d0; go_simp
          try simp only [Act.put, List.getElem_toArray, List.getElem_cons_zero, List.getElem_cons_succ, List.setIfInBounds_toArray, List.set_cons_zero, List.set_cons_succ]
          refine wpAnyH_take (i := 8) (v := .pointer (some ⟨q, off' + c, none⟩)) rfl (by kernel_rfl) (by kernel_rfl) (by kernel_rfl) (fun _ _ _ h => h) (Or.inl ⟨by rfl, fun w' hSw => ?_⟩) (by assumption) ?_
          · (try dsimp only at hSw); have z0 := keepc hSw x2; have z1 := keepc hSw y2; have z2 := keepc hSw c0; have z3 := keepc hSw d0; go_simp
          try simp only [Act.put, List.getElem_toArray, List.getElem_cons_zero, List.getElem_cons_succ, List.setIfInBounds_toArray, List.set_cons_zero, List.set_cons_succ]
          refine wpAnyH_take (i := 9) (v := .slice ja (Z c).length jc) rfl (by kernel_rfl) (by kernel_rfl) (by kernel_rfl) (fun _ _ _ h => h) (Or.inl ⟨by rfl, fun w' hSw => ?_⟩) (by assumption) ?_
          · (try dsimp only at hSw); have z0 := keepc hSw x2; have z1 := keepc hSw y2; have z2 := keepc hSw c0; have z3 := keepc hSw d0; go_simp
          try simp only [Act.put, List.getElem_toArray, List.getElem_cons_zero, List.getElem_cons_succ, List.setIfInBounds_toArray, List.set_cons_zero, List.set_cons_succ]
          refine wpAnyH_ready (rs := [10]) (by kernel_rfl) (by simp) ?_
          refine AllReadyH.cons rfl (fun K hK => ?_) AllReadyH.nil
          go_simp
          have hH2 := HS.out.be.trans (hHeld.mono HS.out.be.size)
          refine (sameInts_same _ _ (Z c) _ (RA.out.below hH2) (RB.out.below hH2) hLk).mono ?_
          rintro e w5 ⟨rfl, hb5⟩
          refine hK.out _ _ (hHeld.trans (hb5.mono hHeld.size)) (fun hHeld => ?_)
          clear hK K hb5
          try simp only [Act.put, List.getElem_toArray, List.getElem_cons_zero, List.getElem_cons_succ, List.setIfInBounds_toArray, List.set_cons_zero, List.set_cons_succ]
          refine wpAnyH_take (i := 11) (v := .bool false) rfl (by kernel_rfl) (by kernel_rfl) (by kernel_rfl) (fun _ _ _ h => h) (Or.inl ⟨by rfl, fun w' hSw => ?_⟩) (by assumption) ?_
          · (try dsimp only at hSw); skip; go_simp
          try simp only [Act.put, List.getElem_toArray, List.getElem_cons_zero, List.getElem_cons_succ, List.setIfInBounds_toArray, List.set_cons_zero, List.set_cons_succ]
          refine wpAnyH_done (by kernel_rfl) ?_ _
          have HS5 := hide (HSX.out.below hHeld)
          clear RA RB HSX HS c0 d0 x0 x1 x2 y0 y1 y2 hHeld
          go_wp2
          exact ⟨⟨c + 1, by omega, by go_num, HS5⟩, by simp [intOf]; omega⟩
        · go_wp2
          go_ret
          exact ⟨rfl, HS.out.be⟩

end Go.Proofs.Ytneofegnbflfiaa
