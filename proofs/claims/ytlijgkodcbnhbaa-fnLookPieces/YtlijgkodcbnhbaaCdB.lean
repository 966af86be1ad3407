/- the reader's cache (written by mkCdB.py) -/
import Derived.Test.YtlijgkodcbnhbaaCdA
import Derived.Test.YtlijgkodcbnhbaaCaB3
import Derived.Test.YtlijgkodcbnhbaaCaU
namespace Go.Proofs.Ytlijgkodcbnhbaa
open Go.RowKit
set_option linter.unusedVariables false
set_option linter.unusedSimpArgs false

theorem grown_any {w w' : World} {row : Option Nat} (hb : Below w.heap.size w w') : w.grownBy w' row := ⟨hb.os, hb.tape, hb.output, hb.size, fun k hk _ => hb.block k hk⟩
theorem grown_set (w : World) (B i : Nat) (v : Value) : w.grownBy (w.setCell ⟨B, i, none⟩ v) (some B) := by
  have hb : Below 0 w (w.setCell ⟨B, i, none⟩ v) := (Below.refl 0 w).setCell (Nat.zero_le _) v
  exact ⟨hb.os, hb.tape, hb.output, hb.size, fun j hj hne => heap_setCell_other _ _ _ _ (fun e => hne (by rw [e]))⟩

/-- a cache in a variable b of its own, the answer's variable ahead of it, beside a reader g -/
structure Dc (w V : World) (g b G c : Nat) (ib : Nat → Nat) (s t : Sm) : Prop where
  res : V.heap[w.heap.size]? = some (.cells #[.slice none 0 0] 26 (0, 0))
  box : V.heap[b]? = some (.cells #[sl G 2 c] 26 (0, 0))
  cg : Cg V (w.heap.size + 1) (sl G 2 c) 2 (fun _ => 4) (two s t) G ib
  rd : Rdr V g
  gr : w.grownBy V (some g)
  lo : g < w.heap.size ∧ w.heap.size < b ∧ b ≠ G ∧ ∀ k, k < 2 → b ≠ ib k
theorem Dc.drew {w V : World} {g b G c : Nat} {ib : Nat → Nat} {s t : Sm} (h : Dc w V g b G c ib s t) : Dc w V.drew g b G c ib s t :=
  ⟨h.res, h.box, h.cg.below ((Below.refl _ _).drew), h.rd.below ((Below.refl _ _).drew), grown_trans h.gr (grown_drewN V 1 _), h.lo⟩
theorem Dc.read {w V V' : World} {g b G c : Nat} {ib : Nat → Nat} {s t : Sm} (h : Dc w V g b G c ib s t) (hr : Rdr V' g) (hg : V.grownBy V' (some g)) : Dc w V' g b G c ib s t := by
  obtain ⟨l1, l2, l3, l4⟩ := h.lo
  have hlo := h.cg.lo
  refine ⟨(hg.block _ (lt_of_block h.res) (by simp; omega)).trans h.res, (hg.block _ (lt_of_block h.box) (by simp; omega)).trans h.box, h.cg.grown hg (by simp; omega) (fun k hk => by have := hlo.2 k hk; simp; omega), hr, grown_trans h.gr hg, h.lo⟩
theorem Dc.read1 {w V V' : World} {g b G c : Nat} {ib : Nat → Nat} {s t : Sm} (h : Dc w V g b G c ib s t) (hr : Rdr V' g) (hg : V.drew.grownBy V' (some g)) {i : Nat} {u : Value} (hc : V.cell? ⟨G, i, none⟩ = some u) : V'.cell? ⟨G, i, none⟩ = some u := by
  have hlo := h.cg.lo.1
  have hl := h.lo.1
  exact (hg.cell_far ⟨G, i, none⟩ h.cg.wcG.lt (by simp; omega)).trans hc
theorem Dc.g0 {w V : World} {g b G c : Nat} {ib : Nat → Nat} {s t : Sm} (h : Dc w V g b G c ib s t) : (∀ i, V.frozen? ⟨G, i, none⟩ = false) ∧ ∃ o, V.cell? ⟨G, 0, none⟩ = some o := ⟨h.cg.wcG.facts.1, h.cg.wcG.facts.2 0 (by decide)⟩
theorem Dc.g1 {w V : World} {g b G c : Nat} {ib : Nat → Nat} {s t : Sm} (h : Dc w V g b G c ib s t) : ∃ ic, V.cell? ⟨G, 1, none⟩ = some (.slice (some ⟨ib 0, 0, none⟩) 4 ic) := (h.cg.at_ 0 (by decide)).2
theorem Dc.w1 {w V : World} {g b G c : Nat} {ib : Nat → Nat} {s t : Sm} (h : Dc w V g b G c ib s t) : (∀ i, V.frozen? ⟨ib 0, i, none⟩ = false) ∧ ∃ o, V.cell? ⟨ib 0, 1, none⟩ = some o := ⟨(h.cg.wcI 0 (by decide)).facts.1, (h.cg.wcI 0 (by decide)).facts.2 1 (by decide)⟩
theorem Dc.res0 {w V : World} {g b G c : Nat} {ib : Nat → Nat} {s t : Sm} (h : Dc w V g b G c ib s t) : V.frozen? ⟨w.heap.size, 0, none⟩ = false ∧ V.cell? ⟨w.heap.size, 0, none⟩ = some (.slice none 0 0) := ⟨frozen_of_row _ _ 0 _ _ h.res, cell_of_row _ _ 0 _ _ _ h.res⟩
theorem Dc.bits {w V : World} {g b G c : Nat} {ib : Nat → Nat} {s t : Sm} (h : Dc w V g b G c ib s t) (z : Int) : Dc w (V.setCell ⟨G, 0, none⟩ (.int .i64 z)) g b G c ib ⟨z, s.u, s.a⟩ t := by
  obtain ⟨l1, l2, l3, l4⟩ := h.lo
  have hlo := h.cg.lo
  have hgs := grown_set V G 0 (.int .i64 z)
  refine ⟨(hgs.block _ (lt_of_block h.res) (by simp; omega)).trans h.res, (hgs.block _ (lt_of_block h.box) (by simp; omega)).trans h.box, ?_, h.rd.grown hgs (fun k hk => by simp only [Option.some.injEq] at hk; omega), grown_young h.gr hgs (fun k hk => by simp only [Option.some.injEq] at hk; omega), h.lo⟩
  refine ⟨h.cg.val, h.cg.lo, h.cg.wcG.set _, fun k hk => (h.cg.wcI k hk).set _, h.cg.ne, h.cg.inj, fun k hk => ?_, fun k hk j hj => ?_⟩
  · by_cases e : k = 0
    · subst e
      obtain ⟨u, hu⟩ := h.cg.wcG.facts.2 0 (by decide)
      refine ⟨?_, ?_⟩
      · show (V.setCell ⟨G, 0, none⟩ (.int .i64 z)).cell? ⟨G, 0, none⟩ = _
        rw [World.cell?_setCell_same (h := hu)]; rfl
      · obtain ⟨ic, h2⟩ := (h.cg.at_ 0 hk).2
        exact ⟨ic, by rw [far_set (by decide)]; exact h2⟩
    · have e1 : k = 1 := by omega
      subst e1
      rw [far_set (by decide), far_set (by decide)]
      exact h.cg.at_ 1 hk
  · have hne : G ≠ ib k := fun q => h.cg.ne k hk q.symm
    rw [other_set hne, other_set hne]
    have hw := h.cg.way k hk j hj
    by_cases e : k = 0
    · subst e; exact hw
    · have e1 : k = 1 := by omega
      subst e1; exact hw
theorem Dc.addr {w V : World} {g b G c : Nat} {ib : Nat → Nat} {s t : Sm} (h : Dc w V g b G c ib s t) (z : Int) : Dc w (V.setCell ⟨ib 0, 1, none⟩ (.int .i64 z)) g b G c ib ⟨s.b, s.u, fun j => if j = 0 then z else s.a j⟩ t := by
  obtain ⟨l1, l2, l3, l4⟩ := h.lo
  have hlo := h.cg.lo
  have hl0 := hlo.2 0 (by decide)
  have hl4 := l4 0 (by decide)
  have hgs := grown_set V (ib 0) 1 (.int .i64 z)
  refine ⟨(hgs.block _ (lt_of_block h.res) (by simp; omega)).trans h.res, (hgs.block _ (lt_of_block h.box) (by simp; omega)).trans h.box, ?_, h.rd.grown hgs (fun k hk => by simp only [Option.some.injEq] at hk; omega), grown_young h.gr hgs (fun k hk => by simp only [Option.some.injEq] at hk; omega), h.lo⟩
  have hne0 := h.cg.ne 0 (by decide)
  refine ⟨h.cg.val, h.cg.lo, h.cg.wcG.set _, fun k hk => (h.cg.wcI k hk).set _, h.cg.ne, h.cg.inj, fun k hk => ?_, fun k hk j hj => ?_⟩
  · rw [other_set hne0, other_set hne0]
    by_cases e : k = 0
    · subst e; exact h.cg.at_ 0 hk
    · have e1 : k = 1 := by omega
      subst e1; exact h.cg.at_ 1 hk
  · have hw := h.cg.way k hk j hj
    by_cases e : k = 0
    · subst e
      by_cases ej : j = 0
      · subst ej
        obtain ⟨u, hu⟩ := (h.cg.wcI 0 hk).facts.2 1 (by decide)
        refine ⟨by rw [far_set (by decide)]; exact hw.1, ?_⟩
        show (V.setCell ⟨ib 0, 1, none⟩ (.int .i64 z)).cell? ⟨ib 0, 1, none⟩ = _
        rw [World.cell?_setCell_same (h := hu)]; rfl
      · refine ⟨by rw [far_set (by omega)]; exact hw.1, ?_⟩
        rw [far_set (by omega), hw.2]
        show some (Value.int .i64 (s.a j)) = some (.int .i64 (if j = 0 then z else s.a j))
        rw [if_neg ej]
    · have e1 : k = 1 := by omega
      subst e1
      have hq : ib 0 ≠ ib 1 := fun q => by have := h.cg.inj 0 1 (by decide) hk q; omega
      rw [other_set hq, other_set hq]; exact hw
theorem Dc.fin {w V : World} {g b G c : Nat} {ib : Nat → Nat} {s t : Sm} (h : Dc w V g b G c ib s t) : Cg (V.setCell ⟨w.heap.size, 0, none⟩ (sl G 2 c)) w.heap.size (sl G 2 c) 2 (fun _ => 4) (two s t) G ib ∧ Rdr (V.setCell ⟨w.heap.size, 0, none⟩ (sl G 2 c)) g ∧ w.grownBy (V.setCell ⟨w.heap.size, 0, none⟩ (sl G 2 c)) (some g) := by
  obtain ⟨l1, l2, l3, l4⟩ := h.lo
  have hlo := h.cg.lo
  have hgs := grown_set V w.heap.size 0 (sl G 2 c)
  exact ⟨(h.cg.grown hgs (by simp; omega) (fun k hk => by have := hlo.2 k hk; simp; omega)).mono (by omega), h.rd.grown hgs (fun k hk => by simp only [Option.some.injEq] at hk; omega), grown_young h.gr hgs (fun k hk => by simp only [Option.some.injEq] at hk; omega)⟩

/-- the variable b holds whatever it holds; the rest as above -/
structure Dp (w V : World) (g b : Nat) (o : Value) : Prop where
  res : V.heap[w.heap.size]? = some (.cells #[.slice none 0 0] 26 (0, 0))
  box : V.heap[b]? = some (.cells #[o] 26 (0, 0))
  rd : Rdr V g
  gr : w.grownBy V (some g)
  lo : g < w.heap.size ∧ w.heap.size < b
theorem Dp.below {w V V' : World} {g b : Nat} {o : Value} (h : Dp w V g b o) (hb : Below V.heap.size V V') : Dp w V' g b o :=
  ⟨heap_b h.res hb, heap_b h.box hb, h.rd.below hb, grown_trans h.gr (grown_any hb), h.lo⟩
theorem Dp.put {w V : World} {g b G c : Nat} {ib : Nat → Nat} {o : Value} {s t : Sm} (h : Dp w V g b o) (hc : Cg V (b + 1) (sl G 2 c) 2 (fun _ => 4) (two s t) G ib) : Dc w (V.setCell ⟨b, 0, none⟩ (sl G 2 c)) g b G c ib s t := by
  obtain ⟨l1, l2⟩ := h.lo
  have hlo := hc.lo
  have hgs := grown_set V b 0 (sl G 2 c)
  refine ⟨(hgs.block _ (lt_of_block h.res) (by simp; omega)).trans h.res, ?_, (hc.grown hgs (by simp; omega) (fun k hk => by have := hlo.2 k hk; simp; omega)).mono (by omega), h.rd.grown hgs (fun k hk => by simp only [Option.some.injEq] at hk; omega), grown_young h.gr hgs (fun k hk => by simp only [Option.some.injEq] at hk; omega), l1, l2, by omega, fun k hk => by have := hlo.2 k hk; omega⟩
  rw [heap_setCell_same _ _ 0 _ _ _ h.box]; rfl

set_option maxHeartbeats 4000000 in
set_option maxRecDepth 20000 in
theorem rcache_any (g : Nat) (w : World) (h : Rdr w g) : Calls Try.prog 11 #[.pointer (some ⟨g, 0, none⟩)] w fun e w' => ∃ G c ib s t, e = .returned (.agg #[sl G 2 c]) ∧ Cg w' w.heap.size (sl G 2 c) 2 (fun _ => 4) (two s t) G ib ∧ Rdr w' g ∧ w.grownBy w' (some g) := by
  have hgl := h.lt
  have hA : Below w.heap.size w (w.alloc (.cells #[.slice none 0 0] 26)) := (Below.refl _ _).alloc (Nat.le_refl _) _
  have hres : (w.alloc (.cells #[.slice none 0 0] 26)).heap[w.heap.size]? = some (.cells #[.slice none 0 0] 26 (0, 0)) := heap_alloc_new _ _
  have HR := hide h
  clear h
  go_enter Try.func11, Try.ntmps11
  go_wp2_with fail
  refine (specNew _).mono ?_
  rintro e w2 ⟨G0, c0, ib0, rfl, hc2, hb2⟩
  have hB2 := hA.trans (hb2.mono hA.size)
  have hres2 := heap_b hres hb2
  clear hres
  go_wp2_with fail
  refine (addrs_any g 16 _ (HR.out.below hB2) (by decide)).mono ?_
  rintro e w3 ⟨u, zs, rfl, ho3, hl3, hr3, hg3⟩
  have hc2lo := hc2.lo
  simp only [World.size_alloc] at hc2lo
  have hc3 := hc2.grown hg3 (by simp; omega) (fun k hk => by have := hc2lo.2 k hk; simp; omega)
  have hres3 := (hg3.block _ (lt_of_block hres2) (by simp; omega)).trans hres2
  have hgr3 : w.grownBy w3 (some g) := grown_trans (grown_any hB2) hg3
  clear hc2 hres2 hA hb2 hB2 hg3 hc2lo
  go_wp2_with fail
  refine (specAll_any (sl G0 2 c0) u 2 (fun _ => 4) (two zS zS) zs _ hc3.cv ho3.sl).mono ?_
  rintro e w4 hp
  rcases hp with ⟨_, G, c, ib, vb, rfl, hc4, hrb, hap, hb4⟩ | ⟨_, rfl, hb4⟩
  · have hs4 := hb4.size
    have hsz : w.heap.size < w3.heap.size := lt_of_block hres3
    have hA4 : Below w4.heap.size w4 (w4.alloc (.cells #[sl G 2 c] 26)) := (Below.refl _ _).alloc (Nat.le_refl _) _
    have hlo4 := hc4.lo
    have hGl := hc4.wcG.lt
    have hIl := fun k hk => (hc4.wcI k hk).lt
    have dc : Dc w (w4.alloc (.cells #[sl G 2 c] 26)) g w4.heap.size G c ib _ _ := ⟨heap_a (heap_b hres3 hb4) _, heap_alloc_new _ _, (hc4.below hA4).mono (by omega), (hr3.below hb4).below hA4, grown_trans (grown_trans hgr3 (grown_any hb4)) (grown_any hA4), hgl, by omega, by omega, fun k hk => by have := hIl k hk; omega⟩
    obtain ⟨r1, r2, h1, h2⟩ : ∃ r1 r2, r1 = (Ca.rn (two zS zS 0) (two zS zS 1) (zf zs) zs.length).1 ∧ r2 = (Ca.rn (two zS zS 0) (two zS zS 1) (zf zs) zs.length).2 := ⟨_, _, rfl, rfl⟩
    rw [← h1, ← h2] at dc
    clear h1 h2 hc4 hrb hap hb4 hs4 hsz hA4 hlo4 hGl hIl hres3 hgr3 hr3 hc3 ho3 hl3
    obtain ⟨W, hW⟩ : ∃ W, w4.alloc (.cells #[sl G 2 c] 26) = W := ⟨_, rfl⟩
    rw [hW] at dc
    have hbc : W.cell? ⟨w4.heap.size, 0, none⟩ = some (sl G 2 c) := cell_of_row _ _ 0 _ _ _ dc.box
    obtain ⟨b, hb⟩ : ∃ b, w4.heap.size = b := ⟨_, rfl⟩
    rw [hb] at dc hbc
    cases hok : Ca.cokB 2 (fun _ => 4) (two r1 r2)
    · go_wp2_with fail
      refine (specCacheOk_any _ 2 (fun _ => 4) (two r1 r2) _ dc.cg.cv).mono ?_
      rintro e w5 ⟨rfl, hb5⟩
      rw [hok]
      have dp : Dp w w5 g b (sl G 2 c) := Dp.below ⟨dc.res, dc.box, dc.rd, dc.gr, dc.lo.1, dc.lo.2.1⟩ hb5
      clear dc hb5 hok hbc hW
      clear hb
      go_wp2_with fail
      refine (specNew _).mono ?_
      rintro e w6 ⟨G, c, ib, rfl, hc6, hb6⟩
      have dp6 := dp.below hb6
      have d := dp6.put (hc6.mono (Nat.succ_le_of_lt (lt_of_block dp.box)))
      obtain ⟨fb, cb0⟩ : (∀ i, w6.frozen? ⟨b, i, none⟩ = false) ∧ w6.cell? ⟨b, 0, none⟩ = some _ := ⟨fun i => frozen_of_row _ _ i _ _ dp6.box, cell_of_row _ _ 0 _ _ _ dp6.box⟩
      clear dp dp6 hc6 hb6
      clear HR
      go_wp2_with fail
      refine (below_any g 30 _ d.rd (by decide) (by decide)).mono ?_
      rintro e V2 ⟨x, rfl, hx0, hx1, hr2, hg2⟩
      replace d := d.read hr2 hg2
      have hc3 : V2.cell? ⟨b, 0, none⟩ = some (sl G 2 c) := cell_of_row _ _ 0 _ _ _ d.box
      clear hr2 hg2
      by_cases e28 : x = 28
      · subst e28
        clear hx0 hx1
        go_wp2
        go_region_held3 (fun w' => w'.cell? ⟨b, 0, none⟩ = some (sl G 2 c)) (first | exact hc3 | exact hc4 | exact hc5) (first | (go_at_call 23; refine (off_any g 0 7 _ d.drew.rd (by decide) (by decide) (by decide)).mono ?_; rintro e V3 ⟨z, rfl, hr3, hg3⟩; have d3 := d.drew.read hr3 hg3; have hc4 : V3.cell? ⟨b, 0, none⟩ = some (sl G 2 c) := cell_of_row _ _ 0 _ _ _ d3.box; obtain ⟨fG, o0, c0⟩ := d3.g0; have d4 := d3.bits z; have hc5 : (V3.setCell ⟨G, 0, none⟩ (.int .i64 z)).cell? ⟨b, 0, none⟩ = some (sl G 2 c) := cell_of_row _ _ 0 _ _ _ d4.box))
        have f6 := d4.fin
        obtain ⟨fr, r0⟩ := d4.res0
        have HF := hide f6
        clear f6 d d3 d4 hr3 hg3
        go_wp2
        refine bodyPost_ret (v := .agg #[sl G 2 c]) (by simp [results, Try.results11, go_sem, r0]) rfl ⟨G, c, ib, _, _, rfl, HF.out.1, HF.out.2.1, HF.out.2.2⟩
      have e28' : (x == 28) = false := by simpa using e28
      by_cases e29 : x = 29
      · subst e29
        clear hx0 hx1 e28
        obtain ⟨ic, hs1⟩ := d.g1
        go_wp2
        go_region_held3 (fun w' => w'.cell? ⟨b, 0, none⟩ = some (sl G 2 c) ∧ w'.cell? ⟨G, 1, none⟩ = some (.slice (some ⟨ib 0, 0, none⟩) 4 ic)) (first | exact ⟨hc3, hs1⟩ | exact hc4 | exact hc5) (first | (go_at_call 23; refine (off_any g 0 6 _ d.drew.rd (by decide) (by decide) (by decide)).mono ?_; rintro e V3 ⟨z, rfl, hr3, hg3⟩; have d3 := d.drew.read hr3 hg3; have hc4 : V3.cell? ⟨b, 0, none⟩ = some (sl G 2 c) ∧ V3.cell? ⟨G, 1, none⟩ = some (.slice (some ⟨ib 0, 0, none⟩) 4 ic) := ⟨cell_of_row _ _ 0 _ _ _ d3.box, d.read1 hr3 hg3 hs1⟩; obtain ⟨fG, o0, c0⟩ := d3.w1; have d4 := d3.addr z; have hc5 : (V3.setCell ⟨ib 0, 1, none⟩ (.int .i64 z)).cell? ⟨b, 0, none⟩ = some (sl G 2 c) ∧ (V3.setCell ⟨ib 0, 1, none⟩ (.int .i64 z)).cell? ⟨G, 1, none⟩ = some (.slice (some ⟨ib 0, 0, none⟩) 4 ic) := ⟨cell_of_row _ _ 0 _ _ _ d4.box, by rw [other_set (d3.cg.ne 0 (by decide))]; exact hc4.2⟩))
        have f6 := d4.fin
        obtain ⟨fr, r0⟩ := d4.res0
        have HF := hide f6
        clear f6 d d3 d4 hr3 hg3
        go_wp2
        refine bodyPost_ret (v := .agg #[sl G 2 c]) (by simp [results, Try.results11, go_sem, r0]) rfl ⟨G, c, ib, _, _, rfl, HF.out.1, HF.out.2.1, HF.out.2.2⟩
      have e29' : (x == 29) = false := by simpa using e29
      have f6 := d.fin
      obtain ⟨fr, r0⟩ := d.res0
      have HF := hide f6
      clear f6 d hx0 hx1
      go_wp2
      refine bodyPost_ret (v := .agg #[sl G 2 c]) (by simp [results, Try.results11, go_sem, r0]) rfl ⟨G, c, ib, _, _, rfl, HF.out.1, HF.out.2.1, HF.out.2.2⟩
    · go_wp2_with fail
      refine (specCacheOk_any _ 2 (fun _ => 4) (two r1 r2) _ dc.cg.cv).mono ?_
      rintro e w5 ⟨rfl, hb5⟩
      rw [hok]
      have d : Dc w w5 g b G c ib r1 r2 := ⟨heap_b dc.res hb5, heap_b dc.box hb5, dc.cg.below hb5, dc.rd.below hb5, grown_trans dc.gr (grown_any hb5), dc.lo⟩
      clear dc hb5 hok hbc hW hb
      clear HR
      go_wp2_with fail
      refine (below_any g 30 _ d.rd (by decide) (by decide)).mono ?_
      rintro e V2 ⟨x, rfl, hx0, hx1, hr2, hg2⟩
      replace d := d.read hr2 hg2
      have hc3 : V2.cell? ⟨b, 0, none⟩ = some (sl G 2 c) := cell_of_row _ _ 0 _ _ _ d.box
      clear hr2 hg2
      by_cases e28 : x = 28
      · subst e28
        clear hx0 hx1
        go_wp2
        go_region_held3 (fun w' => w'.cell? ⟨b, 0, none⟩ = some (sl G 2 c)) (first | exact hc3 | exact hc4 | exact hc5) (first | (go_at_call 23; refine (off_any g 0 7 _ d.drew.rd (by decide) (by decide) (by decide)).mono ?_; rintro e V3 ⟨z, rfl, hr3, hg3⟩; have d3 := d.drew.read hr3 hg3; have hc4 : V3.cell? ⟨b, 0, none⟩ = some (sl G 2 c) := cell_of_row _ _ 0 _ _ _ d3.box; obtain ⟨fG, o0, c0⟩ := d3.g0; have d4 := d3.bits z; have hc5 : (V3.setCell ⟨G, 0, none⟩ (.int .i64 z)).cell? ⟨b, 0, none⟩ = some (sl G 2 c) := cell_of_row _ _ 0 _ _ _ d4.box))
        have f6 := d4.fin
        obtain ⟨fr, r0⟩ := d4.res0
        have HF := hide f6
        clear f6 d d3 d4 hr3 hg3
        go_wp2
        refine bodyPost_ret (v := .agg #[sl G 2 c]) (by simp [results, Try.results11, go_sem, r0]) rfl ⟨G, c, ib, _, _, rfl, HF.out.1, HF.out.2.1, HF.out.2.2⟩
      have e28' : (x == 28) = false := by simpa using e28
      by_cases e29 : x = 29
      · subst e29
        clear hx0 hx1 e28
        obtain ⟨ic, hs1⟩ := d.g1
        go_wp2
        go_region_held3 (fun w' => w'.cell? ⟨b, 0, none⟩ = some (sl G 2 c) ∧ w'.cell? ⟨G, 1, none⟩ = some (.slice (some ⟨ib 0, 0, none⟩) 4 ic)) (first | exact ⟨hc3, hs1⟩ | exact hc4 | exact hc5) (first | (go_at_call 23; refine (off_any g 0 6 _ d.drew.rd (by decide) (by decide) (by decide)).mono ?_; rintro e V3 ⟨z, rfl, hr3, hg3⟩; have d3 := d.drew.read hr3 hg3; have hc4 : V3.cell? ⟨b, 0, none⟩ = some (sl G 2 c) ∧ V3.cell? ⟨G, 1, none⟩ = some (.slice (some ⟨ib 0, 0, none⟩) 4 ic) := ⟨cell_of_row _ _ 0 _ _ _ d3.box, d.read1 hr3 hg3 hs1⟩; obtain ⟨fG, o0, c0⟩ := d3.w1; have d4 := d3.addr z; have hc5 : (V3.setCell ⟨ib 0, 1, none⟩ (.int .i64 z)).cell? ⟨b, 0, none⟩ = some (sl G 2 c) ∧ (V3.setCell ⟨ib 0, 1, none⟩ (.int .i64 z)).cell? ⟨G, 1, none⟩ = some (.slice (some ⟨ib 0, 0, none⟩) 4 ic) := ⟨cell_of_row _ _ 0 _ _ _ d4.box, by rw [other_set (d3.cg.ne 0 (by decide))]; exact hc4.2⟩))
        have f6 := d4.fin
        obtain ⟨fr, r0⟩ := d4.res0
        have HF := hide f6
        clear f6 d d3 d4 hr3 hg3
        go_wp2
        refine bodyPost_ret (v := .agg #[sl G 2 c]) (by simp [results, Try.results11, go_sem, r0]) rfl ⟨G, c, ib, _, _, rfl, HF.out.1, HF.out.2.1, HF.out.2.2⟩
      have e29' : (x == 29) = false := by simpa using e29
      have f6 := d.fin
      obtain ⟨fr, r0⟩ := d.res0
      have HF := hide f6
      clear f6 d hx0 hx1
      go_wp2
      refine bodyPost_ret (v := .agg #[sl G 2 c]) (by simp [results, Try.results11, go_sem, r0]) rfl ⟨G, c, ib, _, _, rfl, HF.out.1, HF.out.2.1, HF.out.2.2⟩
  · have hsz : w.heap.size < w3.heap.size := lt_of_block hres3
    have hs4 := hb4.size
    have hA4 : Below w4.heap.size w4 (w4.alloc (.cells #[.slice none 0 0] 26)) := (Below.refl _ _).alloc (Nat.le_refl _) _
    have dp0 : Dp w (w4.alloc (.cells #[.slice none 0 0] 26)) g w4.heap.size (.slice none 0 0) := Dp.below ⟨heap_a (heap_b hres3 hb4) _, heap_alloc_new _ _, (hr3.below hb4).below hA4, grown_trans (grown_trans hgr3 (grown_any hb4)) (grown_any hA4), hgl, by omega⟩ (Below.refl _ _)
    clear hb4 hs4 hsz hA4 hres3 hgr3 hr3 hc3 ho3 hl3
    go_wp2_with fail
    refine (specCacheOk_any _ 0 (fun _ => 4) (two zS zS) _ (Cv.nil _ _ _)).mono ?_
    rintro e w5 ⟨rfl, hb5⟩
    have dp : Dp w w5 g w4.heap.size (.slice none 0 0) := dp0.below hb5
    obtain ⟨b, hb⟩ : ∃ b, w4.heap.size = b := ⟨_, rfl⟩
    rw [hb] at dp ⊢
    clear dp0 hb5
    rw [show Ca.cokB 0 (fun _ => 4) (two zS zS) = false from rfl]
    clear hb
    go_wp2_with fail
    refine (specNew _).mono ?_
    rintro e w6 ⟨G, c, ib, rfl, hc6, hb6⟩
    have dp6 := dp.below hb6
    have d := dp6.put (hc6.mono (Nat.succ_le_of_lt (lt_of_block dp.box)))
    obtain ⟨fb, cb0⟩ : (∀ i, w6.frozen? ⟨b, i, none⟩ = false) ∧ w6.cell? ⟨b, 0, none⟩ = some _ := ⟨fun i => frozen_of_row _ _ i _ _ dp6.box, cell_of_row _ _ 0 _ _ _ dp6.box⟩
    clear dp dp6 hc6 hb6
    clear HR
    go_wp2_with fail
    refine (below_any g 30 _ d.rd (by decide) (by decide)).mono ?_
    rintro e V2 ⟨x, rfl, hx0, hx1, hr2, hg2⟩
    replace d := d.read hr2 hg2
    have hc3 : V2.cell? ⟨b, 0, none⟩ = some (sl G 2 c) := cell_of_row _ _ 0 _ _ _ d.box
    clear hr2 hg2
    by_cases e28 : x = 28
    · subst e28
      clear hx0 hx1
      go_wp2
      go_region_held3 (fun w' => w'.cell? ⟨b, 0, none⟩ = some (sl G 2 c)) (first | exact hc3 | exact hc4 | exact hc5) (first | (go_at_call 23; refine (off_any g 0 7 _ d.drew.rd (by decide) (by decide) (by decide)).mono ?_; rintro e V3 ⟨z, rfl, hr3, hg3⟩; have d3 := d.drew.read hr3 hg3; have hc4 : V3.cell? ⟨b, 0, none⟩ = some (sl G 2 c) := cell_of_row _ _ 0 _ _ _ d3.box; obtain ⟨fG, o0, c0⟩ := d3.g0; have d4 := d3.bits z; have hc5 : (V3.setCell ⟨G, 0, none⟩ (.int .i64 z)).cell? ⟨b, 0, none⟩ = some (sl G 2 c) := cell_of_row _ _ 0 _ _ _ d4.box))
      have f6 := d4.fin
      obtain ⟨fr, r0⟩ := d4.res0
      have HF := hide f6
      clear f6 d d3 d4 hr3 hg3
      go_wp2
      refine bodyPost_ret (v := .agg #[sl G 2 c]) (by simp [results, Try.results11, go_sem, r0]) rfl ⟨G, c, ib, _, _, rfl, HF.out.1, HF.out.2.1, HF.out.2.2⟩
    have e28' : (x == 28) = false := by simpa using e28
    by_cases e29 : x = 29
    · subst e29
      clear hx0 hx1 e28
      obtain ⟨ic, hs1⟩ := d.g1
      go_wp2
      go_region_held3 (fun w' => w'.cell? ⟨b, 0, none⟩ = some (sl G 2 c) ∧ w'.cell? ⟨G, 1, none⟩ = some (.slice (some ⟨ib 0, 0, none⟩) 4 ic)) (first | exact ⟨hc3, hs1⟩ | exact hc4 | exact hc5) (first | (go_at_call 23; refine (off_any g 0 6 _ d.drew.rd (by decide) (by decide) (by decide)).mono ?_; rintro e V3 ⟨z, rfl, hr3, hg3⟩; have d3 := d.drew.read hr3 hg3; have hc4 : V3.cell? ⟨b, 0, none⟩ = some (sl G 2 c) ∧ V3.cell? ⟨G, 1, none⟩ = some (.slice (some ⟨ib 0, 0, none⟩) 4 ic) := ⟨cell_of_row _ _ 0 _ _ _ d3.box, d.read1 hr3 hg3 hs1⟩; obtain ⟨fG, o0, c0⟩ := d3.w1; have d4 := d3.addr z; have hc5 : (V3.setCell ⟨ib 0, 1, none⟩ (.int .i64 z)).cell? ⟨b, 0, none⟩ = some (sl G 2 c) ∧ (V3.setCell ⟨ib 0, 1, none⟩ (.int .i64 z)).cell? ⟨G, 1, none⟩ = some (.slice (some ⟨ib 0, 0, none⟩) 4 ic) := ⟨cell_of_row _ _ 0 _ _ _ d4.box, by rw [other_set (d3.cg.ne 0 (by decide))]; exact hc4.2⟩))
      have f6 := d4.fin
      obtain ⟨fr, r0⟩ := d4.res0
      have HF := hide f6
      clear f6 d d3 d4 hr3 hg3
      go_wp2
      refine bodyPost_ret (v := .agg #[sl G 2 c]) (by simp [results, Try.results11, go_sem, r0]) rfl ⟨G, c, ib, _, _, rfl, HF.out.1, HF.out.2.1, HF.out.2.2⟩
    have e29' : (x == 29) = false := by simpa using e29
    have f6 := d.fin
    obtain ⟨fr, r0⟩ := d.res0
    have HF := hide f6
    clear f6 d hx0 hx1
    go_wp2
    refine bodyPost_ret (v := .agg #[sl G 2 c]) (by simp [results, Try.results11, go_sem, r0]) rfl ⟨G, c, ib, _, _, rfl, HF.out.1, HF.out.2.1, HF.out.2.2⟩
end Go.Proofs.Ytlijgkodcbnhbaa
