/- nets drawn, with two nodes -/
import Derived.Test.YtgafpepmmjjaaaaNdA
namespace Go.Proofs.Ytgafpepmmjjaaaa
open Go.RowKit
set_option linter.unusedVariables false
set_option linter.unusedSimpArgs false

/-- a net in a variable B beside the reader g, the answer's variable the world's first block -/
structure Ne (w V : World) (g B : Nat) (N : Int) (u : Value) (n : Nat) (f : Nat → Nat → Int) : Prop where
  bl : Below w.heap.size w V
  rd : Rdr V g
  res : V.heap[w.heap.size]? = some (.cells (nt 0 nilS) 26 (0, 0))
  box : V.heap[B]? = some (.cells (nt N u) 26 (0, 0))
  row : Orow V (g + 1) 31 2 u n n f
  lo : w.heap.size < g ∧ g < B
theorem Ne.read {w V V' : World} {g B : Nat} {N : Int} {u : Value} {n : Nat} {f : Nat → Nat → Int} (h : Ne w V g B N u n f) (hr : Rdr V' g) (hg : V.grownBy V' (some g)) : Ne w V' g B N u n f := by
  obtain ⟨l1, l2⟩ := h.lo
  refine ⟨h.bl.grown hg h.bl.size (fun k hk => by simp at hk; omega), hr, (hg.block _ (lt_of_block h.res) (by simp; omega)).trans h.res, (hg.block _ (lt_of_block h.box) (by simp; omega)).trans h.box, ?_, h.lo⟩
  refine World.ownsRow.kept h.row hg ?_
  cases hv : u.ownBlock with
  | none => exact .inl rfl
  | some k => exact .inr (fun e => by have := (World.ownsRow.lt h.row k hv).1; simp at e; omega)
theorem Ne.fin {w V : World} {g B : Nat} {N : Int} {u : Value} {n : Nat} {f : Nat → Nat → Int} (h : Ne w V g B N u n f) : Sr ((V.setCell ⟨w.heap.size, 0, none⟩ (.int .i64 N)).setCell ⟨w.heap.size, 1, none⟩ u) u 2 n f ∧ Below w.heap.size w ((V.setCell ⟨w.heap.size, 0, none⟩ (.int .i64 N)).setCell ⟨w.heap.size, 1, none⟩ u) := by
  obtain ⟨l1, l2⟩ := h.lo
  have hs : V.grownBy ((V.setCell ⟨w.heap.size, 0, none⟩ (.int .i64 N)).setCell ⟨w.heap.size, 1, none⟩ u) (some w.heap.size) := grown_trans (grown_set _ _ _ _) (grown_set _ _ _ _)
  refine ⟨?_, h.bl.grown hs h.bl.size (fun k hk => by simp at hk; omega)⟩
  have h2 : Orow ((V.setCell ⟨w.heap.size, 0, none⟩ (.int .i64 N)).setCell ⟨w.heap.size, 1, none⟩ u) (g + 1) 31 2 u n n f := by
    refine World.ownsRow.kept h.row hs ?_
    cases hv : u.ownBlock with
    | none => exact .inl rfl
    | some k => exact .inr (fun e => by have := (World.ownsRow.lt h.row k hv).1; simp at e; omega)
  exact h2.sr
theorem orow_form {w : World} {base : Nat} {T : TypeId} {m : Nat} {u : Value} {n : Nat} {f : Nat → Nat → Int} (h : Orow w base T m u n n f) : ∃ ua uc, u = .slice ua n uc := by
  rcases h.2 with ⟨e, e2⟩ | ⟨g', cap', cur, e, _⟩
  · exact ⟨none, 0, by rw [e2]; exact e⟩
  · exact ⟨_, cap', e⟩

set_option maxHeartbeats 8000000 in
set_option maxRecDepth 20000 in
theorem drawDist_any (ad : Option Addr) (len cap : Nat) (w : World) (hb : Bt w ad len) (hn : len ≤ 1048576) :
    Calls Try.prog 9 #[.slice ad len cap] w fun e w' => ∃ (N : Int) (ua : Option Addr) (n uc : Nat) (f : Nat → Nat → Int) (a b : Int), e = .returned (.tuple #[.agg (nt N (.slice ua n uc)), .int .i64 a, .int .i64 b]) ∧ 1 ≤ N ∧ N ≤ 6 ∧ n ≤ 100 ∧ Sr w' (.slice ua n uc) 2 n f ∧ Below w.heap.size w w' := by
  have hA : Below w.heap.size w (w.alloc (.cells (nt 0 nilS) 26)) := (Below.refl _ _).alloc (Nat.le_refl _) _
  have hres := heap_alloc_new w (.cells (nt 0 nilS) 26)
  have hb1 : Bt (w.alloc (.cells (nt 0 nilS) 26)) ad len := by
    intro h0
    obtain ⟨b, off, e, hc⟩ := hb h0
    exact ⟨b, off, e, fun j hj => by obtain ⟨c, h1, h2, h3⟩ := hc j hj; exact ⟨c, h1, h2, keepc hA h3⟩⟩
  go_enter Try.func9, Try.ntmps9
  go_wp2_with fail
  refine (open_any ad len cap _ hb1 hn).mono ?_
  rintro e w1 ⟨g, rfl, hgs, hr1, hB1⟩
  rw [World.size_alloc] at hgs
  have hres1 := heap_b hres hB1
  have hbl1 := hA.trans (hB1.mono hA.size)
  clear hb hb1 hA hres hB1
  go_wp2_with fail
  refine (net_any g _ hr1).mono ?_
  rintro e w2 ⟨N, u, n, f, rfl, hN1, hN6, hn1, ho2, hr2, hg2⟩
  obtain ⟨ua, uc, rfl⟩ := orow_form ho2
  have hgl := hr1.lt
  have hA2 : Below w2.heap.size w2 (w2.alloc (.cells (nt N (.slice ua n uc)) 26)) := (Below.refl _ _).alloc (Nat.le_refl _) _
  have HD : Hid (Ne w (w2.alloc (.cells (nt N (.slice ua n uc)) 26)) g w2.heap.size N (.slice ua n uc) n f) := by
    have hres2 : w2.heap[w.heap.size]? = some (.cells (nt 0 nilS) 26 (0, 0)) := (hg2.block _ (lt_of_block hres1) (by simp; omega)).trans hres1
    have hbl2 : Below w.heap.size w w2 := hbl1.grown hg2 hbl1.size (fun k hk => by simp at hk; omega)
    have hz := hg2.size
    exact hide ⟨hbl2.trans (hA2.mono hbl2.size), hr2.below hA2, heap_b hres2 hA2, heap_alloc_new _ _, (ho2.lower (by omega)).below hA2, by omega, by omega⟩
  generalize hBB : w2.heap.size = B at HD
  clear hA2 ho2 hr2 hg2 hr1 hres1 hbl1 hgl hgs
  go_wp2_with fail
  clear hBB
  refine (once_any g 12 _ HD.out.rd (by decide) (by decide)).mono ?_
  rintro e V ⟨t, rfl, hr3, hg3⟩
  have HD2 := hide (HD.out.read hr3 hg3)
  clear hr3 hg3 HD
  have hrd := hide (HD2.out.rd.below ((Below.refl _ _).drew))
  obtain ⟨_, k0, k1⟩ := row2_facts HD2.out.box
  have hgd : V.grownBy V.drew (some g) := grown_any ((Below.refl _ _).drew)
  have hne : ¬ w.heap.size = B := by have := HD2.out.lo; omega
  cases t with
  | true =>
    go_wp2
    go_region_held3 (fun w' => w'.cell? ⟨B, 0, none⟩ = some (.int .i64 N) ∧ w'.cell? ⟨B, 1, none⟩ = some (.slice ua n uc)) (first | exact ⟨k0, k1⟩ | exact ⟨m0, m1⟩ | exact ⟨l0, l1⟩ | exact ⟨(other_set hne).trans ((other_set hne).trans m0), (other_set hne).trans ((other_set hne).trans m1)⟩) (first | (go_at_call 30; refine (off_any g 0 5 _ HD3.out.rd (by decide) (by decide) (by decide)).mono ?_; rintro e V4 ⟨b, rfl, hr4, hg4⟩; have HD4 := hide (HD3.out.read hr4 hg4); obtain ⟨_, m0, m1⟩ := row2_facts HD4.out.box; obtain ⟨fr, r0, r1⟩ := row2_facts HD4.out.res) | (go_at_call 30; refine (off_any g 0 5 _ hrd.out (by decide) (by decide) (by decide)).mono ?_; rintro e V3 ⟨a, rfl, hr3, hg3⟩; have HD3 := hide (HD2.out.read hr3 (grown_trans hgd hg3)); obtain ⟨_, l0, l1⟩ := row2_facts HD3.out.box))
    have HF := hide HD4.out.fin
    clear HD4 HD3 HD2 hr3 hr4 hg3 hg4 hgd hrd k0 k1 l0 l1 m0 m1
    go_wp2
    refine bodyPost_ret (v := .tuple #[.agg (nt N (.slice ua n uc)), .int .i64 a, .int .i64 b]) (by simp [results, Try.results9, go_sem, r0, r1]) rfl ⟨N, ua, n, uc, f, a, b, rfl, hN1, hN6, hn1, HF.out.1, HF.out.2⟩
  | false =>
    go_wp2
    go_region_held3 (fun w' => w'.cell? ⟨B, 0, none⟩ = some (.int .i64 N) ∧ w'.cell? ⟨B, 1, none⟩ = some (.slice ua n uc)) (first | exact ⟨k0, k1⟩ | exact ⟨m0, m1⟩ | exact ⟨l0, l1⟩ | exact ⟨(other_set hne).trans ((other_set hne).trans m0), (other_set hne).trans ((other_set hne).trans m1)⟩) (first | (go_at_call 31; refine (below_any g N _ HD3.out.rd hN1 (by omega)).mono ?_; rintro e V4 ⟨b, rfl, _, _, hr4, hg4⟩; have HD4 := hide (HD3.out.read hr4 hg4); obtain ⟨_, m0, m1⟩ := row2_facts HD4.out.box; obtain ⟨fr, r0, r1⟩ := row2_facts HD4.out.res) | (go_at_call 31; refine (below_any g N _ hrd.out hN1 (by omega)).mono ?_; rintro e V3 ⟨a, rfl, _, _, hr3, hg3⟩; have HD3 := hide (HD2.out.read hr3 (grown_trans hgd hg3)); obtain ⟨_, l0, l1⟩ := row2_facts HD3.out.box))
    have HF := hide HD4.out.fin
    clear HD4 HD3 HD2 hr3 hr4 hg3 hg4 hgd hrd k0 k1 l0 l1 m0 m1
    go_wp2
    refine bodyPost_ret (v := .tuple #[.agg (nt N (.slice ua n uc)), .int .i64 a, .int .i64 b]) (by simp [results, Try.results9, go_sem, r0, r1]) rfl ⟨N, ua, n, uc, f, a, b, rfl, hN1, hN6, hn1, HF.out.1, HF.out.2⟩

/-- the same, under another name -/
theorem drawBy_tail (ad : Option Addr) (len cap : Nat) (w : World) (F : Nat) (hb : Bt w ad len) (hn : len ≤ 1048576) : Bt (w.alloc (.cells (nt 0 nilS) 26)) ad len := by
  have hA : Below w.heap.size w (w.alloc (.cells (nt 0 nilS) 26)) := (Below.refl _ _).alloc (Nat.le_refl _) _
  intro h0
  obtain ⟨b, off, e, hc⟩ := hb h0
  exact ⟨b, off, e, fun j hj => by obtain ⟨c, h1, h2, h3⟩ := hc j hj; exact ⟨c, h1, h2, keepc hA h3⟩⟩

set_option maxHeartbeats 2000000 in
theorem drawNextHop_any (ad : Option Addr) (len cap : Nat) (w : World) (hb : Bt w ad len) (hn : len ≤ 1048576) :
    Calls Try.prog 19 #[.slice ad len cap] w fun e w' => ∃ (N : Int) (ua : Option Addr) (n uc : Nat) (f : Nat → Nat → Int) (a b : Int), e = .returned (.tuple #[.agg (nt N (.slice ua n uc)), .int .i64 a, .int .i64 b]) ∧ 1 ≤ N ∧ N ≤ 6 ∧ n ≤ 100 ∧ Sr w' (.slice ua n uc) 2 n f ∧ Below w.heap.size w w' := by
  have hA : Below w.heap.size w (w.alloc (.cells (nt 0 nilS) 26)) := (Below.refl _ _).alloc (Nat.le_refl _) _
  have hres := heap_alloc_new w (.cells (nt 0 nilS) 26)
  have hD := drawDist_any ad len cap _ (drawBy_tail ad len cap w 0 hb hn) hn
  clear hb
  go_enter Try.func19, Try.ntmps19
  go_wp2_with fail
  refine hD.mono ?_
  rintro e w1 ⟨N, ua, n, uc, f, a, b, rfl, hN1, hN6, hn1, hs1, hB1⟩
  have hres1 := heap_b hres hB1
  have hbl := hA.trans (hB1.mono hA.size)
  obtain ⟨fr, r0, r1⟩ := row2_facts hres1
  have HB : Hid (Below w.heap.size w ((w1.setCell ⟨w.heap.size, 0, none⟩ (.int .i64 N)).setCell ⟨w.heap.size, 1, none⟩ (.slice ua n uc))) := hide ((hbl.setCell (p := ⟨w.heap.size, 0, none⟩) (Nat.le_refl _) _).setCell (p := ⟨w.heap.size, 1, none⟩) (Nat.le_refl _) _)
  have HS : Hid (Sr ((w1.setCell ⟨w.heap.size, 0, none⟩ (.int .i64 N)).setCell ⟨w.heap.size, 1, none⟩ (.slice ua n uc)) (.slice ua n uc) 2 n f) := hide (by
    obtain ⟨ad', cap', e, hh⟩ := hs1
    refine ⟨ad', cap', e, fun hp => ?_⟩
    obtain ⟨b', off, e', hc⟩ := hh hp
    refine ⟨b', off, e', fun j hj i hi => ?_⟩
    have hcc := hc j hj i hi
    have hne : w.heap.size ≠ b' := fun e2 => by
      have hc0 := hc 0 hp 0 (by decide)
      have hc1 := hc 0 hp 1 (by decide)
      rw [← e2] at hc1
      have := r1.symm
      have h9 := cell_of_row _ _ (off + 0 * 2 + 1) _ _ _ hres1
      rw [h9] at hc1
      match off, hc1 with
      | 0, hc1 => simp at hc1
      | off + 1, hc1 => simp at hc1
    rw [other_set hne, other_set hne]
    exact hcc)
  clear hD hres hA hB1 hres1 hbl hs1
  go_wp2
  refine bodyPost_ret (v := .tuple #[.agg (nt N (.slice ua n uc)), .int .i64 a, .int .i64 b]) (by simp [results, Try.results19, go_sem, r0, r1]) rfl ⟨N, ua, n, uc, f, a, b, rfl, hN1, hN6, hn1, HS.out, HB.out⟩

set_option maxHeartbeats 2000000 in
theorem drawPathBy_any (ad : Option Addr) (len cap : Nat) (w : World) (hb : Bt w ad len) (hn : len ≤ 1048576) :
    Calls Try.prog 14 #[.slice ad len cap] w fun e w' => ∃ (N : Int) (ua : Option Addr) (n uc : Nat) (f : Nat → Nat → Int) (a b : Int), e = .returned (.tuple #[.agg (nt N (.slice ua n uc)), .int .i64 a, .int .i64 b]) ∧ 1 ≤ N ∧ N ≤ 6 ∧ n ≤ 100 ∧ Sr w' (.slice ua n uc) 2 n f ∧ Below w.heap.size w w' := by
  have hA : Below w.heap.size w (w.alloc (.cells (nt 0 nilS) 26)) := (Below.refl _ _).alloc (Nat.le_refl _) _
  have hres := heap_alloc_new w (.cells (nt 0 nilS) 26)
  have hD := drawDist_any ad len cap _ (drawBy_tail ad len cap w 0 hb hn) hn
  clear hb
  go_enter Try.func14, Try.ntmps14
  go_wp2_with fail
  refine hD.mono ?_
  rintro e w1 ⟨N, ua, n, uc, f, a, b, rfl, hN1, hN6, hn1, hs1, hB1⟩
  have hres1 := heap_b hres hB1
  have hbl := hA.trans (hB1.mono hA.size)
  obtain ⟨fr, r0, r1⟩ := row2_facts hres1
  have HB : Hid (Below w.heap.size w ((w1.setCell ⟨w.heap.size, 0, none⟩ (.int .i64 N)).setCell ⟨w.heap.size, 1, none⟩ (.slice ua n uc))) := hide ((hbl.setCell (p := ⟨w.heap.size, 0, none⟩) (Nat.le_refl _) _).setCell (p := ⟨w.heap.size, 1, none⟩) (Nat.le_refl _) _)
  have HS : Hid (Sr ((w1.setCell ⟨w.heap.size, 0, none⟩ (.int .i64 N)).setCell ⟨w.heap.size, 1, none⟩ (.slice ua n uc)) (.slice ua n uc) 2 n f) := hide (by
    obtain ⟨ad', cap', e, hh⟩ := hs1
    refine ⟨ad', cap', e, fun hp => ?_⟩
    obtain ⟨b', off, e', hc⟩ := hh hp
    refine ⟨b', off, e', fun j hj i hi => ?_⟩
    have hcc := hc j hj i hi
    have hne : w.heap.size ≠ b' := fun e2 => by
      have hc0 := hc 0 hp 0 (by decide)
      have hc1 := hc 0 hp 1 (by decide)
      rw [← e2] at hc1
      have := r1.symm
      have h9 := cell_of_row _ _ (off + 0 * 2 + 1) _ _ _ hres1
      rw [h9] at hc1
      match off, hc1 with
      | 0, hc1 => simp at hc1
      | off + 1, hc1 => simp at hc1
    rw [other_set hne, other_set hne]
    exact hcc)
  clear hD hres hA hB1 hres1 hbl hs1
  go_wp2
  refine bodyPost_ret (v := .tuple #[.agg (nt N (.slice ua n uc)), .int .i64 a, .int .i64 b]) (by simp [results, Try.results14, go_sem, r0, r1]) rfl ⟨N, ua, n, uc, f, a, b, rfl, hN1, hN6, hn1, HS.out, HB.out⟩

set_option maxHeartbeats 2000000 in
theorem drawWhole_any (ad : Option Addr) (len cap : Nat) (w : World) (hb : Bt w ad len) (hn : len ≤ 1048576) :
    Calls Try.prog 24 #[.slice ad len cap] w fun e w' => ∃ (N : Int) (ua : Option Addr) (n uc : Nat) (f : Nat → Nat → Int), e = .returned (.agg (nt N (.slice ua n uc))) ∧ 1 ≤ N ∧ N ≤ 6 ∧ n ≤ 100 ∧ Sr w' (.slice ua n uc) 2 n f ∧ Below w.heap.size w w' := by
  have hA : Below w.heap.size w (w.alloc (.cells (nt 0 nilS) 26)) := (Below.refl _ _).alloc (Nat.le_refl _) _
  have hres := heap_alloc_new w (.cells (nt 0 nilS) 26)
  have hD := open_any ad len cap _ (drawBy_tail ad len cap w 0 hb hn) hn
  clear hb
  go_enter Try.func24, Try.ntmps24
  go_wp2_with fail
  refine hD.mono ?_
  rintro e w1 ⟨g, rfl, hgs, hr1, hB1⟩
  rw [World.size_alloc] at hgs
  have hres1 := heap_b hres hB1
  have hbl1 := hA.trans (hB1.mono hA.size)
  clear hD hA hres hB1
  go_wp2_with fail
  refine (net_any g _ hr1).mono ?_
  rintro e w2 ⟨N, u, n, f, rfl, hN1, hN6, hn1, ho2, hr2, hg2⟩
  obtain ⟨ua, uc, rfl⟩ := orow_form ho2
  have hres2 : w2.heap[w.heap.size]? = some (.cells (nt 0 nilS) 26 (0, 0)) := (hg2.block _ (lt_of_block hres1) (by simp; omega)).trans hres1
  have hbl2 : Below w.heap.size w w2 := hbl1.grown hg2 hbl1.size (fun k hk => by simp at hk; omega)
  have hz1 := lt_of_block hres1
  obtain ⟨fr, r0, r1⟩ := row2_facts hres2
  have HB : Hid (Below w.heap.size w ((w2.setCell ⟨w.heap.size, 0, none⟩ (.int .i64 N)).setCell ⟨w.heap.size, 1, none⟩ (.slice ua n uc))) := hide ((hbl2.setCell (p := ⟨w.heap.size, 0, none⟩) (Nat.le_refl _) _).setCell (p := ⟨w.heap.size, 1, none⟩) (Nat.le_refl _) _)
  have HS : Hid (Sr ((w2.setCell ⟨w.heap.size, 0, none⟩ (.int .i64 N)).setCell ⟨w.heap.size, 1, none⟩ (.slice ua n uc)) (.slice ua n uc) 2 n f) := hide (by
    have hs : w2.grownBy ((w2.setCell ⟨w.heap.size, 0, none⟩ (.int .i64 N)).setCell ⟨w.heap.size, 1, none⟩ (.slice ua n uc)) (some w.heap.size) := grown_trans (grown_set _ _ _ _) (grown_set _ _ _ _)
    have h2 : Orow ((w2.setCell ⟨w.heap.size, 0, none⟩ (.int .i64 N)).setCell ⟨w.heap.size, 1, none⟩ (.slice ua n uc)) w1.heap.size 31 2 (.slice ua n uc) n n f := by
      refine World.ownsRow.kept ho2 hs ?_
      cases hv : (Value.slice ua n uc).ownBlock with
      | none => exact .inl rfl
      | some k => exact .inr (fun e => by have := (World.ownsRow.lt ho2 k hv).1; simp at e; omega)
    exact h2.sr)
  clear hr2 hg2 hr1 hres1 hres2 hbl1 hbl2 ho2
  go_wp2
  refine bodyPost_ret (v := .agg (nt N (.slice ua n uc))) (by simp [results, Try.results24, go_sem, r0, r1]) rfl ⟨N, ua, n, uc, f, rfl, hN1, hN6, hn1, HS.out, HB.out⟩

end Go.Proofs.Ytgafpepmmjjaaaa
