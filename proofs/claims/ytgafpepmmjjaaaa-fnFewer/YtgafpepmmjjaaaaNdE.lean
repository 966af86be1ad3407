/- nets drawn, with a link of theirs (written by mkNdE.py) -/
import Derived.Test.YtgafpepmmjjaaaaNdD
import Derived.Test.YtgafpepmmjjaaaaNtX
import Derived.Deep.DeepCutAuto
namespace Go.Proofs.Ytgafpepmmjjaaaa
open Go.RowKit
set_option linter.unusedVariables false
set_option linter.unusedSimpArgs false

theorem Ne.next {w V V' : World} {g B : Nat} {N : Int} {u : Value} {n : Nat} {f : Nat → Nat → Int} (h : Ne w V g B N u n f) (hb : Below V.heap.size V V') : Ne w V' g B N u n f :=
  ⟨h.bl.trans (hb.mono h.bl.size), h.rd.below hb, heap_b h.res hb, heap_b h.box hb, h.row.below hb, h.lo⟩
theorem Ne.row_lt {w V : World} {g B : Nat} {N : Int} {u : Value} {n : Nat} {f : Nat → Nat → Int} (h : Ne w V g B N u n f) : ∀ j, u.ownBlock = some j → g + 1 ≤ j ∧ j < V.heap.size := fun j hj => World.ownsRow.lt h.row j hj
theorem Ne.at {w V : World} {g B gl uc : Nat} {N : Int} {n : Nat} {f : Nat → Nat → Int} (h : Ne w V g B N (.slice (some ⟨gl, 0, none⟩) n uc) n f) {q : Nat} (hq : q < n) : V.cell? ⟨gl, q * 2, none⟩ = some (.int .i64 (f q 0)) ∧ V.cell? ⟨gl, q * 2 + 1, none⟩ = some (.int .i64 (f q 1)) := by
  have hx : q * 2 < n * 2 := by omega
  have hy : q * 2 + 1 < n * 2 := by omega
  constructor
  · have := World.ownsRow.cellAt h.row (q * 2) hx
    rw [this, rowC_get hx, if_pos (by omega), show q * 2 / 2 = q by omega, show q * 2 % 2 = 0 by omega]
  · have := World.ownsRow.cellAt h.row (q * 2 + 1) hy
    rw [this, rowC_get hy, if_pos (by omega), show (q * 2 + 1) / 2 = q by omega, show (q * 2 + 1) % 2 = 1 by omega]
/-- a new variable filled -/
theorem Ne.put {w V : World} {g B gl uc b7 : Nat} {N z0 z1 : Int} {n : Nat} {f : Nat → Nat → Int} (h : Ne w V g B N (.slice (some ⟨gl, 0, none⟩) n uc) n f) (h1 : g < b7) (h2 : B < b7) (h3 : gl ≠ b7) (hn : V.heap[b7]? = some (.cells (pr 0 0) 31 (0, 0))) :
    Ne w ((V.setCell ⟨b7, 0, none⟩ (.int .i64 z0)).setCell ⟨b7, 1, none⟩ (.int .i64 z1)) g B N (.slice (some ⟨gl, 0, none⟩) n uc) n f ∧ ((V.setCell ⟨b7, 0, none⟩ (.int .i64 z0)).setCell ⟨b7, 1, none⟩ (.int .i64 z1)).heap[b7]? = some (.cells (pr z0 z1) 31 (0, 0)) := by
  obtain ⟨l1, l2⟩ := h.lo
  have hs : V.grownBy ((V.setCell ⟨b7, 0, none⟩ (.int .i64 z0)).setCell ⟨b7, 1, none⟩ (.int .i64 z1)) (some b7) := grown_trans (grown_set _ _ _ _) (grown_set _ _ _ _)
  refine ⟨⟨h.bl.grown hs h.bl.size (fun k hk => by simp at hk; omega), h.rd.grown hs (fun k hk => by simp at hk; omega), (hs.block _ (lt_of_block h.res) (by simp; omega)).trans h.res, (hs.block _ (lt_of_block h.box) (by simp; omega)).trans h.box, ?_, h.lo⟩, ?_⟩
  · refine World.ownsRow.kept h.row hs (.inr (fun e => ?_))
    have e2 : some gl = some b7 := e
    simp at e2
    exact h3 e2
  · rw [heap_setCell_same _ _ 1 _ _ _ (heap_setCell_same _ _ 0 _ _ _ hn)]; rfl

set_option maxHeartbeats 8000000 in
set_option maxRecDepth 20000 in
theorem drawWithout_any (ad : Option Addr) (len cap : Nat) (w : World) (hb : Bt w ad len) (hn : len ≤ 1048576) :
    Calls Try.prog 21 #[.slice ad len cap] w fun e w' => ∃ (N : Int) (ua : Option Addr) (n uc : Nat) (f : Nat → Nat → Int) (a b : Int), e = .returned (.tuple #[.agg (nt N (.slice ua n uc)), .int .i64 a, .int .i64 b]) ∧ 1 ≤ N ∧ N ≤ 6 ∧ n ≤ 100 ∧ (n ≤ uc ∧ uc ≤ maxLen) ∧ Sr w' (.slice ua n uc) 2 n f ∧ Below w.heap.size w w' := by
  have hA : Below w.heap.size w (w.alloc (.cells (nt 0 nilS) 26)) := (Below.refl _ _).alloc (Nat.le_refl _) _
  have hres := heap_alloc_new w (.cells (nt 0 nilS) 26)
  have hb1 : Bt (w.alloc (.cells (nt 0 nilS) 26)) ad len := by
    intro h0
    obtain ⟨b, off, e, hc⟩ := hb h0
    exact ⟨b, off, e, fun j hj => by obtain ⟨c, h1, h2, h3⟩ := hc j hj; exact ⟨c, h1, h2, keepc hA h3⟩⟩
  go_enter Try.func21, Try.ntmps21
  go_wp2_with fail
  refine (open_any ad len cap _ hb1 hn).mono ?_
  rintro e w1 ⟨g, rfl, hgs, hr1, hB1⟩
  rw [World.size_alloc] at hgs
  have hres1 := heap_b hres hB1
  have hbl1 := hA.trans (hB1.mono hA.size)
  clear hb hb1 hA hres hB1
  go_wp2_with fail
  refine (net_any g _ hr1).mono ?_
  rintro e w2 ⟨N, u, n, f, rfl, hN1, hN6, hn1, ho2, hr2, hg2⟩
  obtain ⟨ua, uc, rfl⟩ := orow_form ho2
  have hgl := hr1.lt
  have hA2 : Below w2.heap.size w2 (w2.alloc (.cells (nt N (.slice ua n uc)) 26)) := (Below.refl _ _).alloc (Nat.le_refl _) _
  have HD : Hid (Ne w (w2.alloc (.cells (nt N (.slice ua n uc)) 26)) g w2.heap.size N (.slice ua n uc) n f) := by
    have hres2 : w2.heap[w.heap.size]? = some (.cells (nt 0 nilS) 26 (0, 0)) := (hg2.block _ (lt_of_block hres1) (by simp; omega)).trans hres1
    have hbl2 : Below w.heap.size w w2 := hbl1.grown hg2 hbl1.size (fun k hk => by simp at hk; omega)
    have hz := hg2.size
    exact hide ⟨hbl2.trans (hA2.mono hbl2.size), hr2.below hA2, heap_b hres2 hA2, heap_alloc_new _ _, (ho2.lower (by omega)).below hA2, by omega, by omega⟩
  generalize hBB : w2.heap.size = B at HD
  clear hA2 ho2 hr2 hg2 hr1 hres1 hbl1 hgl hgs
  have HCP : Hid (n ≤ uc ∧ uc ≤ maxLen) := hide (by
    rcases HD.out.row.2 with ⟨e, e2⟩ | ⟨g', cap', cur, e, _, _, h8, h9, _⟩
    · simp only [Value.slice.injEq] at e; unfold maxLen; omega
    · simp only [Value.slice.injEq] at e; omega)
  by_cases hn0 : n = 0
  · have hnd : decide ((0 : Int) < (n : Int)) = false := by simp; omega
    subst hn0
    have HD2 := HD
    obtain ⟨_, a0, a1⟩ := row2_facts HD.out.box
    clear HD
    have hrd := hide (HD2.out.rd.below ((Below.refl _ _).drew))
    obtain ⟨_, k0, k1⟩ := row2_facts HD2.out.box
    have hgd : (w2.alloc (.cells (nt N (.slice ua 0 uc)) 26)).grownBy (w2.alloc (.cells (nt N (.slice ua 0 uc)) 26)).drew (some g) := grown_any ((Below.refl _ _).drew)
    have hne : ¬ w.heap.size = B := by have := HD2.out.lo; omega
    go_wp2
    (try simp only [hBB])
    (try clear hBB)
    go_region_held3 (fun w' => w'.cell? ⟨B, 0, none⟩ = some (.int .i64 N) ∧ w'.cell? ⟨B, 1, none⟩ = some (.slice ua 0 uc)) (first | exact ⟨k0, k1⟩ | exact ⟨m0, m1⟩ | exact ⟨l0, l1⟩ | exact ⟨(other_set hne).trans ((other_set hne).trans m0), (other_set hne).trans ((other_set hne).trans m1)⟩) (first | (go_at_call 30; refine (off_any g 0 5 _ HD3.out.rd (by decide) (by decide) (by decide)).mono ?_; rintro e V4 ⟨b, rfl, hr4, hg4⟩; have HD4 := hide (HD3.out.read hr4 hg4); obtain ⟨_, m0, m1⟩ := row2_facts HD4.out.box; obtain ⟨fr, r0, r1⟩ := row2_facts HD4.out.res) | (go_at_call 30; refine (off_any g 0 5 _ hrd.out (by decide) (by decide) (by decide)).mono ?_; rintro e V3 ⟨a, rfl, hr3, hg3⟩; have HD3 := hide (HD2.out.read hr3 (grown_trans hgd hg3)); obtain ⟨_, l0, l1⟩ := row2_facts HD3.out.box))
    have HF := hide HD4.out.fin
    clear HD4 HD3 HD2 hr3 hr4 hg3 hg4 hgd hrd k0 k1 l0 l1 m0 m1
    go_wp2
    refine bodyPost_ret (v := .tuple #[.agg (nt N (.slice ua 0 uc)), .int .i64 a, .int .i64 b]) (by simp [results, Try.results21, go_sem, r0, r1]) rfl ⟨N, ua, 0, uc, f, a, b, rfl, hN1, hN6, hn1, HCP.out, HF.out.1, HF.out.2⟩
  · have hnp : 0 < n := by omega
    have hnd : decide ((0 : Int) < (n : Int)) = true := by simp; omega
    obtain ⟨gl, rfl⟩ : ∃ gl, ua = some ⟨gl, 0, none⟩ := by
      rcases HD.out.row.2 with ⟨_, e2⟩ | ⟨g', cap', cur, e, _⟩
      · omega
      · simp only [Value.slice.injEq] at e; exact ⟨g', e.1⟩
    obtain ⟨_, a0, a1⟩ := row2_facts HD.out.box
    go_wp2_with fail
    clear hBB
    refine (once_any g 4 _ HD.out.rd (by decide) (by decide)).mono ?_
    rintro e V ⟨t, rfl, hr3, hg3⟩
    have HD2 := hide (HD.out.read hr3 hg3)
    clear hr3 hg3 HD a0 a1
    cases t with
    | true =>
      have hrd := hide (HD2.out.rd.below ((Below.refl _ _).drew))
      obtain ⟨_, k0, k1⟩ := row2_facts HD2.out.box
      have hgd : V.grownBy V.drew (some g) := grown_any ((Below.refl _ _).drew)
      have hne : ¬ w.heap.size = B := by have := HD2.out.lo; omega
      go_wp2
      go_region_held3 (fun w' => w'.cell? ⟨B, 0, none⟩ = some (.int .i64 N) ∧ w'.cell? ⟨B, 1, none⟩ = some (.slice (some ⟨gl, 0, none⟩) n uc)) (first | exact ⟨k0, k1⟩ | exact ⟨m0, m1⟩ | exact ⟨l0, l1⟩ | exact ⟨(other_set hne).trans ((other_set hne).trans m0), (other_set hne).trans ((other_set hne).trans m1)⟩) (first | (go_at_call 30; refine (off_any g 0 5 _ HD3.out.rd (by decide) (by decide) (by decide)).mono ?_; rintro e V4 ⟨b, rfl, hr4, hg4⟩; have HD4 := hide (HD3.out.read hr4 hg4); obtain ⟨_, m0, m1⟩ := row2_facts HD4.out.box; obtain ⟨fr, r0, r1⟩ := row2_facts HD4.out.res) | (go_at_call 30; refine (off_any g 0 5 _ hrd.out (by decide) (by decide) (by decide)).mono ?_; rintro e V3 ⟨a, rfl, hr3, hg3⟩; have HD3 := hide (HD2.out.read hr3 (grown_trans hgd hg3)); obtain ⟨_, l0, l1⟩ := row2_facts HD3.out.box))
      have HF := hide HD4.out.fin
      clear HD4 HD3 HD2 hr3 hr4 hg3 hg4 hgd hrd k0 k1 l0 l1 m0 m1
      go_wp2
      refine bodyPost_ret (v := .tuple #[.agg (nt N (.slice (some ⟨gl, 0, none⟩) n uc)), .int .i64 a, .int .i64 b]) (by simp [results, Try.results21, go_sem, r0, r1]) rfl ⟨N, some ⟨gl, 0, none⟩, n, uc, f, a, b, rfl, hN1, hN6, hn1, HCP.out, HF.out.1, HF.out.2⟩
    | false =>
      have D1 := HD2.out.next ((Below.refl _ V).drew)
      go_wp2
      go_cut [7] (fun p wc => ∃ b7 s0 s1, p = .pointer (some ⟨b7, 0, none⟩) ∧ Hid (Ne w wc g B N (.slice (some ⟨gl, 0, none⟩) n uc) n f ∧ wc.heap[b7]? = some (.cells (pr s0 s1) 31 (0, 0)) ∧ ¬ b7 = B ∧ ¬ b7 = w.heap.size))
      case first =>
        refine wp_region_held_drew (S := fun w' => Ne w w' g B N (.slice (some ⟨gl, 0, none⟩) n uc) n f) (by kernel_rfl) D1 (fun hHeld => ?_)
        refine wpAnyH_take (i := 0) (v := .pointer (some ⟨B, 1, none⟩)) rfl (by kernel_rfl) (by kernel_rfl) (by kernel_rfl) (fun _ _ _ h => h) (Or.inl ⟨by rfl, fun w' hSw => ?_⟩) (by assumption) ?_
        · (try dsimp only at hSw); go_simp
        try simp only [Act.put, List.getElem_toArray, List.getElem_cons_zero, List.getElem_cons_succ, List.setIfInBounds_toArray, List.set_cons_zero, List.set_cons_succ]
        refine wpAnyH_take (i := 1) (v := .slice (some ⟨gl, 0, none⟩) n uc) rfl (by kernel_rfl) (by kernel_rfl) (by kernel_rfl) (fun _ _ _ h => h) (Or.inl ⟨by rfl, fun w' hSw => ?_⟩) (by assumption) ?_
        · (try dsimp only at hSw); obtain ⟨_, z0, z1⟩ := row2_facts hSw.box; go_simp
        try simp only [Act.put, List.getElem_toArray, List.getElem_cons_zero, List.getElem_cons_succ, List.setIfInBounds_toArray, List.set_cons_zero, List.set_cons_succ]
        refine wpAnyH_take (i := 2) (v := .pointer (some ⟨g, 0, none⟩)) rfl (by kernel_rfl) (by kernel_rfl) (by kernel_rfl) (fun _ _ _ h => h) (Or.inl ⟨by rfl, fun w' hSw => ?_⟩) (by assumption) ?_
        · (try dsimp only at hSw); go_simp
        try simp only [Act.put, List.getElem_toArray, List.getElem_cons_zero, List.getElem_cons_succ, List.setIfInBounds_toArray, List.set_cons_zero, List.set_cons_succ]
        refine wpAnyH_take (i := 3) (v := .pointer (some ⟨B, 1, none⟩)) rfl (by kernel_rfl) (by kernel_rfl) (by kernel_rfl) (fun _ _ _ h => h) (Or.inl ⟨by rfl, fun w' hSw => ?_⟩) (by assumption) ?_
        · (try dsimp only at hSw); go_simp
        try simp only [Act.put, List.getElem_toArray, List.getElem_cons_zero, List.getElem_cons_succ, List.setIfInBounds_toArray, List.set_cons_zero, List.set_cons_succ]
        refine wpAnyH_take (i := 4) (v := .slice (some ⟨gl, 0, none⟩) n uc) rfl (by kernel_rfl) (by kernel_rfl) (by kernel_rfl) (fun _ _ _ h => h) (Or.inl ⟨by rfl, fun w' hSw => ?_⟩) (by assumption) ?_
        · (try dsimp only at hSw); obtain ⟨_, z0, z1⟩ := row2_facts hSw.box; go_simp
        try simp only [Act.put, List.getElem_toArray, List.getElem_cons_zero, List.getElem_cons_succ, List.setIfInBounds_toArray, List.set_cons_zero, List.set_cons_succ]
        refine wpAnyH_take (i := 5) (v := .int .i64 n) rfl (by kernel_rfl) (by kernel_rfl) (by kernel_rfl) (fun _ _ _ h => h) (Or.inl ⟨by rfl, fun w' hSw => ?_⟩) (by assumption) ?_
        · (try dsimp only at hSw); go_simp
        try simp only [Act.put, List.getElem_toArray, List.getElem_cons_zero, List.getElem_cons_succ, List.setIfInBounds_toArray, List.set_cons_zero, List.set_cons_succ]
        refine wpAnyH_ready (rs := [6, 9]) (by kernel_rfl) (by simp) ?_
        refine AllReadyH.cons rfl (fun K hK => ?_) (AllReadyH.cons rfl (fun K hK => ?_) AllReadyH.nil)
        · go_simp
          refine (below_any g n _ D1.rd (by omega) (by omega)).mono ?_
          rintro e V3 ⟨c, rfl, hc0, hc1, hr3, hg3⟩
          have D3 := D1.read hr3 hg3
          obtain ⟨q, rfl⟩ : ∃ q : Nat, c = q := ⟨c.toNat, by omega⟩
          have hqn : q < n := by omega
          refine hK.out _ _ D3 (fun hHeld => ?_)
          clear hK K hr3 hg3
          try simp only [Act.put, List.getElem_toArray, List.getElem_cons_zero, List.getElem_cons_succ, List.setIfInBounds_toArray, List.set_cons_zero, List.set_cons_succ]
          refine wpAnyH_take (i := 7) (v := .pointer (some ⟨gl, q * 2, none⟩)) rfl (by kernel_rfl) (by kernel_rfl) (by kernel_rfl) (fun _ _ _ h => h) (Or.inl ⟨by rfl, fun w' hSw => ?_⟩) (by assumption) ?_
          · (try dsimp only at hSw); go_simp
          try simp only [Act.put, List.getElem_toArray, List.getElem_cons_zero, List.getElem_cons_succ, List.setIfInBounds_toArray, List.set_cons_zero, List.set_cons_succ]
          refine wpAnyH_take (i := 8) (v := .agg #[.int .i64 (f q 0), .int .i64 (f q 1)]) rfl (by kernel_rfl) (by kernel_rfl) (by kernel_rfl) (fun _ _ _ h => h) (Or.inl ⟨by rfl, fun w' hSw => ?_⟩) (by assumption) ?_
          · (try dsimp only at hSw); obtain ⟨c0, c1⟩ := hSw.at hqn; go_simp
          try simp only [Act.put, List.getElem_toArray, List.getElem_cons_zero, List.getElem_cons_succ, List.setIfInBounds_toArray, List.set_cons_zero, List.set_cons_succ]
          refine wpAnyH_ready (rs := [9]) (by kernel_rfl) (by simp) ?_
          refine AllReadyH.cons rfl (fun K hK => ?_) AllReadyH.nil
          go_simp
          have D4 := D3.next ((Below.refl _ V3).alloc (Nat.le_refl _) (.cells (pr 0 0) 31))
          have hn4 := heap_alloc_new V3 (.cells (pr 0 0) 31)
          refine hK.out _ _ D4 (fun hHeld => ?_)
          clear hK K
          try simp only [Act.put, List.getElem_toArray, List.getElem_cons_zero, List.getElem_cons_succ, List.setIfInBounds_toArray, List.set_cons_zero, List.set_cons_succ]
          obtain ⟨f7, y0, y1⟩ := row2_facts hn4
          refine wpAnyH_ready (rs := [10]) (by kernel_rfl) (by simp) ?_
          refine AllReadyH.cons rfl (fun K hK => ?_) AllReadyH.nil
          go_simp
          have D5 := And.intro (D3.next ((Below.refl _ V3).alloc (Nat.le_refl _) (.cells (pr (f q 0) (f q 1)) 31))) (heap_alloc_new V3 (.cells (pr (f q 0) (f q 1)) 31))
          refine hK.out _ _ D5.1 (fun hHeld => ?_)
          clear hK K f7 y0 y1
          try simp only [Act.put, List.getElem_toArray, List.getElem_cons_zero, List.getElem_cons_succ, List.setIfInBounds_toArray, List.set_cons_zero, List.set_cons_succ]
          refine wpAnyH_done (by kernel_rfl) ?_ _
          (try go_wp2_with fail)
          go_meet
          exact ⟨_, _, _, rfl, hide ⟨D5.1, D5.2, by have := lt_of_block D3.box; omega, by have := lt_of_block D3.res; omega⟩⟩
        · go_simp
          have D2 := D1.next ((Below.refl _ V.drew).alloc (Nat.le_refl _) (.cells (pr 0 0) 31))
          have hn2 := heap_alloc_new V.drew (.cells (pr 0 0) 31)
          refine hK.out _ _ D2 (fun hHeld => ?_)
          clear hK K
          try simp only [Act.put, List.getElem_toArray, List.getElem_cons_zero, List.getElem_cons_succ, List.setIfInBounds_toArray, List.set_cons_zero, List.set_cons_succ]
          refine wpAnyH_ready (rs := [6]) (by kernel_rfl) (by simp) ?_
          refine AllReadyH.cons rfl (fun K hK => ?_) AllReadyH.nil
          go_simp
          refine (below_any g n _ D2.rd (by omega) (by omega)).mono ?_
          rintro e V3 ⟨c, rfl, hc0, hc1, hr3, hg3⟩
          have D3 := D2.read hr3 hg3
          obtain ⟨q, rfl⟩ : ∃ q : Nat, c = q := ⟨c.toNat, by omega⟩
          have hqn : q < n := by omega
          have hn3 : V3.heap[V.heap.size]? = some (.cells (pr 0 0) 31 (0, 0)) := (hg3.block _ (lt_of_block hn2) (by have := D1.lo; have := lt_of_block D1.box; intro e; simp at e; have h9 : V.drew.heap.size = V.heap.size := rfl; omega)).trans hn2
          refine hK.out _ _ D3 (fun hHeld => ?_)
          clear hK K hr3 hg3
          try simp only [Act.put, List.getElem_toArray, List.getElem_cons_zero, List.getElem_cons_succ, List.setIfInBounds_toArray, List.set_cons_zero, List.set_cons_succ]
          refine wpAnyH_take (i := 7) (v := .pointer (some ⟨gl, q * 2, none⟩)) rfl (by kernel_rfl) (by kernel_rfl) (by kernel_rfl) (fun _ _ _ h => h) (Or.inl ⟨by rfl, fun w' hSw => ?_⟩) (by assumption) ?_
          · (try dsimp only at hSw); go_simp
          try simp only [Act.put, List.getElem_toArray, List.getElem_cons_zero, List.getElem_cons_succ, List.setIfInBounds_toArray, List.set_cons_zero, List.set_cons_succ]
          refine wpAnyH_take (i := 8) (v := .agg #[.int .i64 (f q 0), .int .i64 (f q 1)]) rfl (by kernel_rfl) (by kernel_rfl) (by kernel_rfl) (fun _ _ _ h => h) (Or.inl ⟨by rfl, fun w' hSw => ?_⟩) (by assumption) ?_
          · (try dsimp only at hSw); obtain ⟨c0, c1⟩ := hSw.at hqn; go_simp
          try simp only [Act.put, List.getElem_toArray, List.getElem_cons_zero, List.getElem_cons_succ, List.setIfInBounds_toArray, List.set_cons_zero, List.set_cons_succ]
          obtain ⟨f7, y0, y1⟩ := row2_facts hn3
          refine wpAnyH_ready (rs := [10]) (by kernel_rfl) (by simp) ?_
          refine AllReadyH.cons rfl (fun K hK => ?_) AllReadyH.nil
          go_simp
          have h9 : V.drew.heap.size = V.heap.size := rfl
          have D5 := D3.put (b7 := V.heap.size) (z0 := f q 0) (z1 := f q 1) (by have := D1.lo; have := lt_of_block D1.box; omega) (by have := lt_of_block D1.box; omega) (by intro e; have := D1.row_lt gl rfl; omega) hn3
          refine hK.out _ _ D5.1 (fun hHeld => ?_)
          clear hK K f7 y0 y1
          try simp only [Act.put, List.getElem_toArray, List.getElem_cons_zero, List.getElem_cons_succ, List.setIfInBounds_toArray, List.set_cons_zero, List.set_cons_succ]
          refine wpAnyH_done (by kernel_rfl) ?_ _
          (try go_wp2_with fail)
          go_meet
          exact ⟨_, _, _, rfl, hide ⟨D5.1, D5.2, by have := lt_of_block D1.box; omega, by have := lt_of_block D1.res; omega⟩⟩
      case rest =>
        obtain ⟨b7, s0, s1, rfl, HP⟩ := hcut
        obtain ⟨_, k0, k1⟩ := row2_facts HP.out.1.box
        obtain ⟨_, y0, y1⟩ := row2_facts HP.out.2.1
        obtain ⟨fr, r0, r1⟩ := row2_facts HP.out.1.res
        have hne : ¬ w.heap.size = B := by have := HP.out.1.lo; omega
        have hne7 : ¬ w.heap.size = b7 := fun e => HP.out.2.2.2 e.symm
        have HF := hide HP.out.1.fin
        clear HP D1 HD2
        go_wp2
        go_region_held3 (fun w' => (w'.cell? ⟨B, 0, none⟩ = some (.int .i64 N) ∧ w'.cell? ⟨B, 1, none⟩ = some (.slice (some ⟨gl, 0, none⟩) n uc)) ∧ w'.cell? ⟨b7, 0, none⟩ = some (.int .i64 s0) ∧ w'.cell? ⟨b7, 1, none⟩ = some (.int .i64 s1)) (first | exact ⟨⟨k0, k1⟩, y0, y1⟩ | exact ⟨⟨(other_set hne).trans ((other_set hne).trans k0), (other_set hne).trans ((other_set hne).trans k1)⟩, (other_set hne7).trans ((other_set hne7).trans y0), (other_set hne7).trans ((other_set hne7).trans y1)⟩) (fail)
        go_wp2
        refine bodyPost_ret (v := .tuple #[.agg (nt N (.slice (some ⟨gl, 0, none⟩) n uc)), .int .i64 s1, .int .i64 s0]) (by simp [results, Try.results21, go_sem, r0, r1]) rfl ⟨N, some ⟨gl, 0, none⟩, n, uc, f, s1, s0, rfl, hN1, hN6, hn1, HCP.out, HF.out.1.below ((Below.refl _ _).drew), HF.out.2.drew⟩

end Go.Proofs.Ytgafpepmmjjaaaa
