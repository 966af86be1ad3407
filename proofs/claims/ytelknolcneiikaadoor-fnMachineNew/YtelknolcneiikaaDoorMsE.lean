/- machines: linesOk (written by mkMsE.py) -/
import Derived.Test.YtelknolcneiikaaDoorMsD
import Derived.Deep.RegionHeld3
namespace Go.Proofs.YtelknolcneiikaaDoor
open Go.RowKit
set_option linter.unusedVariables false
set_option linter.unusedSimpArgs false

theorem keepE10 {w W W' : World} {p0 p1 p2 p3 p4 p5 p6 p7 p8 p9 : Addr} {x0 x1 x2 x3 x4 x5 x6 x7 x8 x9 : Value} (h : Below w.heap.size w W ∧ W.cell? p0 = some x0 ∧ W.cell? p1 = some x1 ∧ W.cell? p2 = some x2 ∧ W.cell? p3 = some x3 ∧ W.cell? p4 = some x4 ∧ W.cell? p5 = some x5 ∧ W.cell? p6 = some x6 ∧ W.cell? p7 = some x7 ∧ W.cell? p8 = some x8 ∧ W.cell? p9 = some x9) (hb : Below W.heap.size W W') : Below w.heap.size w W' ∧ W'.cell? p0 = some x0 ∧ W'.cell? p1 = some x1 ∧ W'.cell? p2 = some x2 ∧ W'.cell? p3 = some x3 ∧ W'.cell? p4 = some x4 ∧ W'.cell? p5 = some x5 ∧ W'.cell? p6 = some x6 ∧ W'.cell? p7 = some x7 ∧ W'.cell? p8 = some x8 ∧ W'.cell? p9 = some x9 := ⟨h.1.trans (hb.mono h.1.size), keepc hb h.2.1, keepc hb h.2.2.1, keepc hb h.2.2.2.1, keepc hb h.2.2.2.2.1, keepc hb h.2.2.2.2.2.1, keepc hb h.2.2.2.2.2.2.1, keepc hb h.2.2.2.2.2.2.2.1, keepc hb h.2.2.2.2.2.2.2.2.1, keepc hb h.2.2.2.2.2.2.2.2.2.1, keepc hb h.2.2.2.2.2.2.2.2.2.2⟩

/-- all lines are right and name none but the machine's cores -/
def linesP (C N : Nat) (G : Nat → LnD) : Prop := ∀ j, j < N → lineB (G j).mem (G j).ow (G j).zs (G j).bu (G j).wt (G j).ac (G j).qn (G j).f = true ∧ withinB (G j).ow (G j).bu (G j).zs (G j).qn (G j).f (C : Int) = true
open Classical in
noncomputable def linesB (C N : Nat) (G : Nat → LnD) : Bool := decide (linesP C N G)
theorem linesB_yes {C N : Nat} {G : Nat → LnD} (h : linesP C N G) : true = linesB C N G := by simp [linesB, h]
theorem linesB_no {C N : Nat} {G : Nat → LnD} (h : ¬ linesP C N G) : false = linesB C N G := by simp [linesB, h]

set_option maxHeartbeats 4000000 in
theorem linesOk_any (ma : Option Addr) (C mc : Nat) (la : Option Addr) (N lc : Nat) (mv : Value) (G : Nat → LnD) (w : World) (hs : Ls w (.slice la N lc) N G) (hC : C ≤ 1048576) (hN : N ≤ 1048576) (hL : ∀ c, c < N → (G c).zs.length ≤ 1048576 ∧ (G c).qn ≤ 1048576) :
    Calls Tryd.prog 28 #[.agg (mc3 (.slice ma C mc) (.slice la N lc) mv)] w fun e w' => e = .returned (.bool (linesB C N G)) ∧ Below w.heap.size w w' := by
  have mb := mb_box w (.slice ma C mc) (.slice la N lc) mv 30
  obtain ⟨ad, cap, hv, hs⟩ := hs
  simp only [Value.slice.injEq, true_and] at hv
  obtain ⟨rfl, rfl⟩ := hv
  go_enter Tryd.func28, Tryd.ntmps28
  go_wp2
  go_loopw [8] (fun i wr => ∃ k : Nat, k ≤ N ∧ i = .int .i64 k ∧ MB w w.heap.size (.slice ma C mc) (.slice la N lc) mv wr ∧ Hid (∀ j, j < k → lineB (G j).mem (G j).ow (G j).zs (G j).bu (G j).wt (G j).ac (G j).qn (G j).f = true ∧ withinB (G j).ow (G j).bu (G j).zs (G j).qn (G j).f (C : Int) = true)) (fun i _ => N - (intOf i).toNat)
  case atStart => exact ⟨0, Nat.zero_le _, rfl, mb, hide fun c hc => by omega⟩
  case round =>
    obtain ⟨k, hk, rfl, mk, HK⟩ := hrel
    clear mb
    by_cases hlt : k < N
    · obtain ⟨p, off, rfl, hc⟩ := hs (by omega)
      obtain ⟨sa, sc, qa, qc, ⟨d0, d1, d2, d3, d4, d5, d6⟩, s1, t1⟩ := hc k hlt
      have c0 := Below.keep mk.1 _ _ d0
      have c1 := Below.keep mk.1 _ _ d1
      have c2 := Below.keep mk.1 _ _ d2
      have c3 := Below.keep mk.1 _ _ d3
      have c4 := Below.keep mk.1 _ _ d4
      have c5 := Below.keep mk.1 _ _ d5
      have c6 := Below.keep mk.1 _ _ d6
      clear d0 d1 d2 d3 d4 d5 d6
      obtain ⟨hL1, hL2⟩ := hL k hlt
      have hk0 : (0 : Int) ≤ (k : Int) := by omega
      have hk1 : (k : Int) < (N : Int) := by omega
      have lx := lb_here mk.1 (G k).mem (G k).ow (.slice sa (G k).zs.length sc) (G k).bu (G k).wt (G k).ac (.slice qa (G k).qn qc) 51
      have mx := mk.next ((Below.refl _ _).alloc (Nat.le_refl _) (.cells (ln7 (G k).mem (G k).ow (.slice sa (G k).zs.length sc) (G k).bu (G k).wt (G k).ac (.slice qa (G k).qn qc)) 51))
      have HS : Hid (Sl w (.slice sa (G k).zs.length sc) (G k).zs ∧ Sr w (.slice qa (G k).qn qc) 2 (G k).qn (G k).f) := hide ⟨s1, t1⟩
      clear s1 t1 hc hs hL
      obtain ⟨_, m0, m1, m2⟩ := id mx
      obtain ⟨_, l0, l1, l2, l3, l4, l5, l6⟩ := id lx
      cases hok : lineB (G k).mem (G k).ow (G k).zs (G k).bu (G k).wt (G k).ac (G k).qn (G k).f with
      | false =>
        have HR : Hid (false = linesB C N G) := hide (linesB_no fun h => by have := (h k hlt).1; rw [hok] at this; cases this)
        go_wp2
        refine wp_region_any (by kernel_rfl) ?_
        change wpAny _ _ _ _ _ _ _ (World.drew _)
        refine wpAny_ready (rs := [0]) (by kernel_rfl) (by simp) ?_
        refine AllReady.cons rfl (fun K hK => ?_) AllReady.nil
        go_simp
        refine hK _ _ ?_
        clear hK K
        try simp only [Act.put, List.getElem_toArray, List.getElem_cons_zero, List.getElem_cons_succ, List.setIfInBounds_toArray, List.set_cons_zero, List.set_cons_succ]
        refine wpAny_ready (rs := [1]) (by kernel_rfl) (by simp) ?_
        refine AllReady.cons rfl (fun K hK => ?_) AllReady.nil
        go_simp
        refine (implLineOk_any (G k).mem (G k).ow _ (G k).zs (G k).bu (G k).wt (G k).ac _ _ (G k).qn (G k).f _ (HS.out.1.below lx.1.drew) hL1 (HS.out.2.below lx.1.drew) hL2).mono ?_
        rintro e w2 ⟨rfl, hbc⟩
        rw [hok]
        have bw := lx.1.drew.trans (hbc.mono lx.1.drew.size)
        clear hbc
        refine hK _ _ ?_
        clear hK K
        try simp only [Act.put, List.getElem_toArray, List.getElem_cons_zero, List.getElem_cons_succ, List.setIfInBounds_toArray, List.set_cons_zero, List.set_cons_succ]
        refine wpAny_take (i := 2) (v := .bool true) rfl (by kernel_rfl) (by kernel_rfl) (by kernel_rfl) (fun _ _ _ h => h) (Or.inl ⟨by rfl, fun w => by go_simp⟩) ?_
        try simp only [Act.put, List.getElem_toArray, List.getElem_cons_zero, List.getElem_cons_succ, List.setIfInBounds_toArray, List.set_cons_zero, List.set_cons_succ]
        refine wpAny_take (i := 3) (v := .bool true) rfl (by kernel_rfl) (by kernel_rfl) (by kernel_rfl) (fun _ _ _ h => h) (Or.inl ⟨by rfl, fun w => by go_simp⟩) ?_
        try simp only [Act.put, List.getElem_toArray, List.getElem_cons_zero, List.getElem_cons_succ, List.setIfInBounds_toArray, List.set_cons_zero, List.set_cons_succ]
        refine wpAny_take (i := 4) (v := undef) rfl (by kernel_rfl) (by kernel_rfl) (by kernel_rfl) (fun _ _ _ h => h) (Or.inr ⟨by rfl, rfl⟩) ?_
        try simp only [Act.put, List.getElem_toArray, List.getElem_cons_zero, List.getElem_cons_succ, List.setIfInBounds_toArray, List.set_cons_zero, List.set_cons_succ]
        refine wpAny_take (i := 5) (v := undef) rfl (by kernel_rfl) (by kernel_rfl) (by kernel_rfl) (fun _ _ _ h => h) (Or.inr ⟨by rfl, rfl⟩) ?_
        try simp only [Act.put, List.getElem_toArray, List.getElem_cons_zero, List.getElem_cons_succ, List.setIfInBounds_toArray, List.set_cons_zero, List.set_cons_succ]
        refine wpAny_take (i := 6) (v := undef) rfl (by kernel_rfl) (by kernel_rfl) (by kernel_rfl) (fun _ _ _ h => h) (Or.inr ⟨by rfl, rfl⟩) ?_
        try simp only [Act.put, List.getElem_toArray, List.getElem_cons_zero, List.getElem_cons_succ, List.setIfInBounds_toArray, List.set_cons_zero, List.set_cons_succ]
        refine wpAny_take (i := 7) (v := undef) rfl (by kernel_rfl) (by kernel_rfl) (by kernel_rfl) (fun _ _ _ h => h) (Or.inr ⟨by rfl, rfl⟩) ?_
        try simp only [Act.put, List.getElem_toArray, List.getElem_cons_zero, List.getElem_cons_succ, List.setIfInBounds_toArray, List.set_cons_zero, List.set_cons_succ]
        refine wpAny_take (i := 8) (v := undef) rfl (by kernel_rfl) (by kernel_rfl) (by kernel_rfl) (fun _ _ _ h => h) (Or.inr ⟨by rfl, rfl⟩) ?_
        try simp only [Act.put, List.getElem_toArray, List.getElem_cons_zero, List.getElem_cons_succ, List.setIfInBounds_toArray, List.set_cons_zero, List.set_cons_succ]
        refine wpAny_take (i := 9) (v := .bool true) rfl (by kernel_rfl) (by kernel_rfl) (by kernel_rfl) (fun _ _ _ h => h) (Or.inl ⟨by rfl, fun w => by go_simp⟩) ?_
        try simp only [Act.put, List.getElem_toArray, List.getElem_cons_zero, List.getElem_cons_succ, List.setIfInBounds_toArray, List.set_cons_zero, List.set_cons_succ]
        refine wpAny_done (by kernel_rfl) ?_ _
        go_wp2
        go_ret
        exact ⟨ret_bool HR.out, bw⟩
      | true =>
        cases hwi : withinB (G k).ow (G k).bu (G k).zs (G k).qn (G k).f (C : Int) with
        | false =>
          have HR : Hid (false = linesB C N G) := hide (linesB_no fun h => by have := (h k hlt).2; rw [hwi] at this; cases this)
          go_wp2
          go_region_held3 (fun w' => Below w.heap.size w w' ∧ w'.cell? ⟨w.heap.size, 0, none⟩ = some (.slice ma C mc) ∧ w'.cell? ⟨w.heap.size, 1, none⟩ = some (.slice (some ⟨p, off, none⟩) N lc) ∧ w'.cell? ⟨w.heap.size, 2, none⟩ = some (mv) ∧ w'.cell? ⟨wr.heap.size, 0, none⟩ = some (.int .i64 (G k).mem) ∧ w'.cell? ⟨wr.heap.size, 1, none⟩ = some (.int .i64 (G k).ow) ∧ w'.cell? ⟨wr.heap.size, 2, none⟩ = some (.slice sa (G k).zs.length sc) ∧ w'.cell? ⟨wr.heap.size, 3, none⟩ = some (.int .i64 (G k).bu) ∧ w'.cell? ⟨wr.heap.size, 4, none⟩ = some (.int .i64 (G k).wt) ∧ w'.cell? ⟨wr.heap.size, 5, none⟩ = some (.int .i64 (G k).ac) ∧ w'.cell? ⟨wr.heap.size, 6, none⟩ = some (.slice qa (G k).qn qc)) (first | exact ⟨lx.1.drew, m0, m1, m2, l0, l1, l2, l3, l4, l5, l6⟩ | exact keepE10 (by assumption) hbc) (first | (go_at_call 40; refine (implLineOk_any (G k).mem (G k).ow _ (G k).zs (G k).bu (G k).wt (G k).ac _ _ (G k).qn (G k).f _ ?_ hL1 ?_ hL2).mono ?_; exact HS.out.1.below (And.left (by assumption)); exact HS.out.2.below (And.left (by assumption)); rintro e w2 ⟨rfl, hbc⟩; rw [hok]) | (go_at_call 25; refine (cores_any _ _ _ _ _ _).mono ?_; rintro e w3 ⟨rfl, hbc⟩) | (go_at_call 41; refine (lineWithin_any (G k).mem (G k).ow _ _ (G k).zs (G k).bu (G k).wt (G k).ac _ _ (G k).qn (G k).f (C : Int) _ ?_ hL1 ?_ hL2).mono ?_; exact HS.out.1.below (And.left (by assumption)); exact HS.out.2.below (And.left (by assumption)); rintro e w4 ⟨rfl, hbc⟩; rw [hwi]))
          all_goals go_wp2
          all_goals rename_i hS
          all_goals go_ret
          all_goals exact ⟨ret_bool HR.out, hS.1⟩
        | true =>
          have HK2 : Hid (∀ j, j < k + 1 → lineB (G j).mem (G j).ow (G j).zs (G j).bu (G j).wt (G j).ac (G j).qn (G j).f = true ∧ withinB (G j).ow (G j).bu (G j).zs (G j).qn (G j).f (C : Int) = true) := hide (fun j hj => by
            by_cases e : j = k
            · subst e; exact ⟨hok, hwi⟩
            · exact HK.out j (by omega))
          go_wp2
          go_region_held3 (fun w' => Below w.heap.size w w' ∧ w'.cell? ⟨w.heap.size, 0, none⟩ = some (.slice ma C mc) ∧ w'.cell? ⟨w.heap.size, 1, none⟩ = some (.slice (some ⟨p, off, none⟩) N lc) ∧ w'.cell? ⟨w.heap.size, 2, none⟩ = some (mv) ∧ w'.cell? ⟨wr.heap.size, 0, none⟩ = some (.int .i64 (G k).mem) ∧ w'.cell? ⟨wr.heap.size, 1, none⟩ = some (.int .i64 (G k).ow) ∧ w'.cell? ⟨wr.heap.size, 2, none⟩ = some (.slice sa (G k).zs.length sc) ∧ w'.cell? ⟨wr.heap.size, 3, none⟩ = some (.int .i64 (G k).bu) ∧ w'.cell? ⟨wr.heap.size, 4, none⟩ = some (.int .i64 (G k).wt) ∧ w'.cell? ⟨wr.heap.size, 5, none⟩ = some (.int .i64 (G k).ac) ∧ w'.cell? ⟨wr.heap.size, 6, none⟩ = some (.slice qa (G k).qn qc)) (first | exact ⟨lx.1.drew, m0, m1, m2, l0, l1, l2, l3, l4, l5, l6⟩ | exact keepE10 (by assumption) hbc) (first | (go_at_call 40; refine (implLineOk_any (G k).mem (G k).ow _ (G k).zs (G k).bu (G k).wt (G k).ac _ _ (G k).qn (G k).f _ ?_ hL1 ?_ hL2).mono ?_; exact HS.out.1.below (And.left (by assumption)); exact HS.out.2.below (And.left (by assumption)); rintro e w2 ⟨rfl, hbc⟩; rw [hok]) | (go_at_call 25; refine (cores_any _ _ _ _ _ _).mono ?_; rintro e w3 ⟨rfl, hbc⟩) | (go_at_call 41; refine (lineWithin_any (G k).mem (G k).ow _ _ (G k).zs (G k).bu (G k).wt (G k).ac _ _ (G k).qn (G k).f (C : Int) _ ?_ hL1 ?_ hL2).mono ?_; exact HS.out.1.below (And.left (by assumption)); exact HS.out.2.below (And.left (by assumption)); rintro e w4 ⟨rfl, hbc⟩; rw [hwi]))
          all_goals go_wp2
          all_goals rename_i hS
          all_goals go_roundw
          case rel => exact ⟨k + 1, by omega, by go_num, ⟨hS.1, hS.2.1, hS.2.2.1, hS.2.2.2.1⟩, HK2⟩
          case measure => simp [intOf]; omega
    · have e : k = N := by omega
      have HR : Hid (true = linesB C N G) := hide (linesB_yes fun c hc => HK.out c (by omega))
      clear hs
      go_wp2
      go_ret
      exact ⟨ret_bool HR.out, mk.1⟩

end Go.Proofs.YtelknolcneiikaaDoor
