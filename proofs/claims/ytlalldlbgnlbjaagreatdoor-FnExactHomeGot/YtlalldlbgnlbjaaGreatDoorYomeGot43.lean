/- HnA -/
import Derived.Shelf.Abstract
import Derived.Test.YtlalldlbgnlbjaaGreatDoorYomeGot42
/- a home goes on: what is busy is granted, what waits is begun (written by mkHnA.py) -/
namespace Go.Proofs.YtlalldlbgnlbjaaGreatDoor
open Go.RowKit Go.Shelf
attribute [local go_sem] Oper.semAt_some
set_option linter.unusedVariables false
set_option linter.unusedSimpArgs false

theorem rg_cells {w : World} {base : Nat} {v : Value} {m n : Nat} {f : Nat → Nat → Value} (h : Rg w base v m n f) : ∀ g, rb v = some g → ∃ c T, w.heap[g]? = some (.cells c T (0, 0)) := by
  intro g hg
  rcases h with ⟨⟨ad, rfl⟩, _⟩ | ⟨g2, off, k, rfl, h1, hp, h0, h2, ⟨cur, T, h3, _⟩, _⟩
  · rw [rb_zero] at hg; cases hg
  · rw [rb_some hp] at hg; cases hg; exact ⟨_, _, h3⟩
theorem Ha.nob {E : Nat → Addr} {base hb : Nat} {line : Int} {w V V' : World} {S : Nat → Prop} {L : Hm.Ln} {ms : List Hm.Mg} (h : Ha E base hb line w S L ms V) (m : Mv nob V V') : Ha E base hb line w S L ms V' := by
  obtain ⟨sa, sc, qa, qc, ta, tc, h0, fr, hm⟩ := h
  exact ⟨sa, sc, qa, qc, ta, tc, h0.mv m (fun _ _ h => h) (fun _ _ h => h), fr, hm.step m (fun _ _ h => h.elim)⟩
/-- what is no cells of a home's is changed -/
theorem Ha.put {E : Nat → Addr} {base hb : Nat} {line : Int} {w V : World} {S : Nat → Prop} {L : Hm.Ln} {ms : List Hm.Mg} (h : Ha E base hb line w S L ms V) {l : Nat} {r : Obj} (o : Obj) (hl : V.heap[l]? = some r) (hc : r.isCells = false) (hw : w.heap.size ≤ l) (hlt : hb < w.heap.size) : Ha E base hb line w S L ms (V.putObj l o) := by
  obtain ⟨sa, sc, qa, qc, ta, tc, h0, fr, hm⟩ := h
  have hne : ∀ g, (∃ c T, V.heap[g]? = some (.cells c T (0, 0))) → ¬ g = l := by
    rintro g ⟨c, T, hg⟩ rfl
    rw [hl] at hg; cases hg; cases hc
  refine ⟨sa, sc, qa, qc, ta, tc, h0.mv (mv_putObj V l o) (fun g hg => hne g ?_) (fun g hg => ?_), fr, hm.step (mv_putObj V l o) (fun g hg e => by have e : g = l := e; omega)⟩
  · rcases hg with e | e | e | e
    · exact e ▸ ⟨_, _, h0.bx⟩
    · exact rg_cells h0.rs g e
    · exact rg_cells h0.rq g e
    · exact rg_cells h0.rt g e
  · have h1 := h0.b4; have h2 := h0.lo
    show ¬ g = l
    omega
theorem hr_cells {E : Nat → Addr} {w : World} {base hb : Nat} {L : Hm.Ln} {line : Int} {ms : List Hm.Mg} {sa : Option Addr} {sc : Nat} {qa : Option Addr} {qc : Nat} {ta : Option Addr} {tc : Nat} (h0 : Hr E w base hb L line ms sa sc qa qc ta tc) : ∀ g, Hb hb (.slice sa L.sh.length sc) (.slice qa L.q.length qc) (.slice ta ms.length tc) g → ∃ c T, w.heap[g]? = some (.cells c T (0, 0)) := by
  intro g hg
  rcases hg with e | e | e | e
  · exact e ▸ ⟨_, _, h0.bx⟩
  · exact rg_cells h0.rs g e
  · exact rg_cells h0.rq g e
  · exact rg_cells h0.rt g e
/-- a box beside the home is written, and what was since V0 is since w -/
theorem Ha.out {E : Nat → Addr} {base hb : Nat} {line : Int} {w V0 V V' : World} {S S0 : Nat → Prop} {L : Hm.Ln} {ms : List Hm.Mg} (h : Ha E base hb line V0 S0 L ms V) (fr0 : ∀ g, S0 g → S g ∨ w.heap.size ≤ g) (hm0 : Mv S w V0) {b : Nat} (hs : Mv (fun g => g = b) V V') (hb2 : ¬ S0 b) (hlt : b < V0.heap.size) (hge : w.heap.size ≤ b) (h4 : 7 ≤ b) : Ha E base hb line w S L ms V' := by
  obtain ⟨sa, sc, qa, qc, ta, tc, h0, fr, hm⟩ := h
  refine ⟨sa, sc, qa, qc, ta, tc, h0.mv hs (fun g hg e => ?_) (fun g hg e => ?_), fun g hg => (fr g hg).elim (fr0 g) (fun q => .inr (Nat.le_trans hm0.size q)), ?_⟩
  · have e : g = b := e
    subst e
    exact (fr g hg).elim hb2 (fun q => by omega)
  · have e : g = b := e
    omega
  · exact (hm0.step hm (fun g hg hs => (fr0 g hs).resolve_right (by omega))).step hs (fun g hg e => by have e : g = b := e; omega)
/-- what is not the home's lies on -/
theorem ha_keeps {E : Nat → Addr} {base hb : Nat} {line : Int} {V0 V V' : World} {S0 : Nat → Prop} {L : Hm.Ln} {ms : List Hm.Mg} {sa : Option Addr} {sc : Nat} {qa : Option Addr} {qc : Nat} {ta : Option Addr} {tc : Nat} (h0 : Hr E V base hb L line ms sa sc qa qc ta tc) (fr : ∀ g, Hb hb (.slice sa L.sh.length sc) (.slice qa L.q.length qc) (.slice ta ms.length tc) g → S0 g ∨ V0.heap.size ≤ g) (m : Mv (Hb hb (.slice sa L.sh.length sc) (.slice qa L.q.length qc) (.slice ta ms.length tc)) V V') {b : Nat} {o : Obj} (h : V.heap[b]? = some o) (hn : (¬ S0 b ∧ b < V0.heap.size) ∨ o.isCells = false) : V'.heap[b]? = some o := by
  refine m.box h (fun hg => ?_)
  rcases hn with ⟨h1, h2⟩ | h1
  · exact (fr b hg).elim h1 (fun q => by omega)
  · obtain ⟨c, T, e⟩ := hr_cells h0 b hg
    rw [h] at e; cases e; cases h1
theorem Ha.post {E : Nat → Addr} {base hb : Nat} {line : Int} {w V : World} {sv qv tv : Value} {L : Hm.Ln} {ms : List Hm.Mg} (h : Ha E base hb line w (Hb hb sv qv tv) L ms V) (r : Value) : HPost E w base hb sv qv tv L line ms r (.returned r) V := by
  obtain ⟨sa, sc, qa, qc, ta, tc, h0, fr, hm⟩ := h
  exact ⟨sa, sc, qa, qc, ta, tc, rfl, h0, fr, hm⟩
theorem Ha.home {E : Nat → Addr} {base hb : Nat} {line : Int} {w V V' : World} {S : Nat → Prop} {L L' : Hm.Ln} {ms ms' : List Hm.Mg} {sa : Option Addr} {sc : Nat} {qa : Option Addr} {qc : Nat} {ta : Option Addr} {tc : Nat} {r : Value} {e : Ending} (fr : ∀ g, Hb hb (.slice sa L.sh.length sc) (.slice qa L.q.length qc) (.slice ta ms.length tc) g → S g ∨ w.heap.size ≤ g) (hm : Mv S w V) (h : HPost E V base hb (.slice sa L.sh.length sc) (.slice qa L.q.length qc) (.slice ta ms.length tc) L' line ms' r e V') : e = .returned r ∧ Ha E base hb line w S L' ms' V' := by
  obtain ⟨sa', sc', qa', qc', ta', tc', rfl, h0, fr', hm'⟩ := h
  exact ⟨rfl, sa', sc', qa', qc', ta', tc', h0, fun g hg => (fr' g hg).elim (fr g) (fun q => .inr (Nat.le_trans hm.size q)), hm.step hm' (fun g hg hs => (fr g hs).resolve_right (by omega))⟩
theorem region_states {P : Program} {ops : Array Oper} {Q : Exit → Act → World → Prop} {md : Region.Mode} {R : Nat → World → Prop} {n : Nat} {done : Array Bool} {a : Act} {w : World} (h : ∀ G : Nat → Array Bool → Array Value → World → Prop, (∀ n done tm V, G n done tm V = wpAnyK P md ops Q R n done ⟨tm, a.defers⟩ V) → G n done a.tmps w) : wpAnyK P md ops Q R n done a w := by
  have := h (fun n done tm V => wpAnyK P md ops Q R n done ⟨tm, a.defers⟩ V) (fun _ _ _ _ => rfl)
  cases a; exact this
/-- a walk that never panics -/
def NoP (Q : Exit → Act → World → Prop) : Exit → Act → World → Prop
  | .normal, a, w => Q .normal a w
  | .ret, a, w => Q .ret a w
  | _, _, _ => False
theorem wp_nop {P : Program} {c : Code} {Q : Exit → Act → World → Prop} {a : Act} {w : World} (h : c.wp P (NoP Q) a w) : c.wp P Q a w :=
  Go.wp_mono h fun e a w hq => by
    cases e with
    | normal => exact hq
    | ret => exact hq
    | _ => exact hq.elim
set_option maxRecDepth 20000 in
set_option maxHeartbeats 2000000 in
theorem goOn_any (E : Nat → Addr) (base hb : Nat) (L : Hm.Ln) (line : Int) (ms : List Hm.Mg) (sa : Option Addr) (sc : Nat) (qa : Option Addr) (qc : Nat) (ta : Option Addr) (tc : Nat) (w : World) (h : Hr E w base hb L line ms sa sc qa qc ta tc) (hgd : Gd L) (hb1 : 1 ≤ L.bu) (hb5 : L.bu ≤ 5) (hn : ms.length ≤ 1000) (R : Bool × Hm.Ln × List Hm.Mg) (hR : Hm.nextR line (Hm.grantL L L.bu L.wt).q (Hm.grantL L L.bu L.wt) (ms ++ [Hm.mGrant L.bu line L.wt L.mem]) = R) :
    Calls Tryz.prog 90 #[.pointer (some ⟨hb, 0, none⟩)] w (fun e w' => (R.1 = true ∧ HPost E w base hb (.slice sa L.sh.length sc) (.slice qa L.q.length qc) (.slice ta ms.length tc) R.2.1 line R.2.2 .nilIface e w') ∨ (R.1 = false ∧ HPost E w base hb (.slice sa L.sh.length sc) (.slice qa L.q.length qc) (.slice ta ms.length tc) R.2.1 line R.2.2 (rfV R.2.1.own (E 1)) e w')) := by
  have HB : Hid (Mv (Hb hb (.slice sa L.sh.length sc) (.slice qa L.q.length qc) (.slice ta ms.length tc)) w w) := hide (Mv.refl _ _)
  have hlo := h.lo
  have hb4 := h.b4
  have hlt := lt_of_block h.bx
  have AP := h.ap
  have FR : ∀ g, Hb hb (.slice sa L.sh.length sc) (.slice qa L.q.length qc) (.slice ta ms.length tc) g → Hb hb (.slice sa L.sh.length sc) (.slice qa L.q.length qc) (.slice ta ms.length tc) g ∨ w.heap.size ≤ g := fun g h => .inl h
  have bx0 := hide h.bx; have RS := hide h.rs; have RQ := hide h.rq; have RT := hide h.rt; have GL := hide h.gl; clear h
  have NB : Hid (∀ g, (rb (.slice sa L.sh.length sc) = some g ∨ rb (.slice qa L.q.length qc) = some g ∨ rb (.slice ta ms.length tc) = some g) → g ≠ hb) := hide (fun g h => HAp.ne AP h)
  refine (callsIn_wide (n := 0)).1 ?_
  refine callsIn_of_wp_marks Tryz.func90 rfl trivial ?_ rfl
  simp only [Tryz.ntmps90, List.size_toArray, List.length_cons, List.length_nil, Nat.reduceAdd, Nat.reduceSub, Array.replicate_succ, Array.replicate_zero, List.push_toArray, List.append_toArray, List.nil_append, List.cons_append]
  refine (wpIn_wide (n := 0)).2 (wp_nop ?_)
  refine sk fun K1 h1 => rl ?_
  refine sbp #[.pointer (some ⟨hb, 0, none⟩)] 55 fun V1 b1 hb1 m1 bx1 => ?_
  have o0_1 := Xlo bx0 hb1
  have og_1 : w.heap.size ≤ b1 := Xhs HB hb1
  replace NB : Hid (∀ g, (rb (.slice sa L.sh.length sc) = some g ∨ rb (.slice qa L.q.length qc) = some g ∨ rb (.slice ta ms.length tc) = some g) → g ≠ hb ∧ g ≠ b1) := hide (fun g h => by have h1 := NB.out g h; have h2 := rows_lt RS.out RQ.out RT.out g h; exact (by omega))
  replace RS := hide (RS.out.mv m1 (fun _ _ h => h))
  replace RQ := hide (RQ.out.mv m1 (fun _ _ h => h))
  replace RT := hide (RT.out.mv m1 (fun _ _ h => h))
  replace GL := hide (GL.out.mv m1 (fun _ _ h => h))
  clear hb1
  replace HB := Xhn HB m1; replace bx0 := Xbn bx0 m1
  refine sbp #[.nilIface] 59 fun V2 b2 hb2 m2 bx2 => ?_
  have o1_2 := Xlo bx1 hb2
  have og_2 : w.heap.size ≤ b2 := Xhs HB hb2
  replace NB : Hid (∀ g, (rb (.slice sa L.sh.length sc) = some g ∨ rb (.slice qa L.q.length qc) = some g ∨ rb (.slice ta ms.length tc) = some g) → g ≠ hb ∧ g ≠ b1 ∧ g ≠ b2) := hide (fun g h => by have h1 := NB.out g h; have h2 := rows_lt RS.out RQ.out RT.out g h; exact (by omega))
  replace RS := hide (RS.out.mv m2 (fun _ _ h => h))
  replace RQ := hide (RQ.out.mv m2 (fun _ _ h => h))
  replace RT := hide (RT.out.mv m2 (fun _ _ h => h))
  replace GL := hide (GL.out.mv m2 (fun _ _ h => h))
  clear hb2
  refine nt (h1 _ _ (sk fun K2 h2 => ?_)); clear h1 K1
  replace HB := Xhn HB m2; replace bx0 := Xbn bx0 m2; replace bx1 := Xbn bx1 m2
  have SF : ∀ g, Hb hb (.slice sa L.sh.length sc) (.slice qa L.q.length qc) (.slice ta ms.length tc) g → g ≠ b1 ∧ g ≠ b2 := fun g h => h.elim (fun e => by omega) (fun q => by have := NB.out g q; omega)
  refine wp_region_but (z := 999) (S := fun w' => Mv (Hb hb (.slice sa L.sh.length sc) (.slice qa L.q.length qc) (.slice ta ms.length tc)) V2.drew w') (by kernel_rfl) (Mv.refl _ _) (fun hS => ?_)
  have m3 : Mv nob V2 V2.drew := Mv.drew _
  obtain ⟨V3, hN⟩ : ∃ V, V2.drew = V := ⟨_, rfl⟩
  rw [hN] at hS m3 ⊢
  clear hN
  replace RS := hide (RS.out.mv m3 (fun _ _ h => h))
  replace RQ := hide (RQ.out.mv m3 (fun _ _ h => h))
  replace RT := hide (RT.out.mv m3 (fun _ _ h => h))
  replace GL := hide (GL.out.mv m3 (fun _ _ h => h))
  replace bx1 := Xbn bx1 m3
  have rbx1 := bx1
  refine tk 0 (.pointer (some ⟨hb, 0, none⟩)) rfl (fun w' hSw => by (try dsimp only at hSw); have z0 := cell_box 0 (hSw.box rbx1.out (fun h => by have := SF _ h; omega)) rfl; go_simp) ?_
  refine tk 1 (.pointer (some ⟨hb, 0, none⟩)) rfl (fun w' hSw => by (try dsimp only at hSw); have z0 := cell_box 0 (hSw.box rbx1.out (fun h => by have := SF _ h; omega)) rfl; go_simp) ?_
  refine tk0 2 (.pointer (some ⟨hb, 0, none⟩)) rfl ?_
  refine tk0 3 (.pointer (some ⟨hb, 0, none⟩)) rfl ?_
  refine tk0 4 (.pointer (some ⟨hb, 3, none⟩)) rfl ?_
  refine tk 6 (.pointer (some ⟨hb, 0, none⟩)) rfl (fun w' hSw => by (try dsimp only at hSw); have z0 := cell_box 0 (hSw.box rbx1.out (fun h => by have := SF _ h; omega)) rfl; go_simp) ?_
  refine tk0 7 (.pointer (some ⟨hb, 0, none⟩)) rfl ?_
  refine tk0 8 (.pointer (some ⟨hb, 0, none⟩)) rfl ?_
  refine tk0 9 (.pointer (some ⟨hb, 4, none⟩)) rfl ?_
  replace HB := Xhn HB m3; replace bx0 := Xbn bx0 m3; replace bx2 := Xbn bx2 m3
  refine region_states (fun G hG => ?_)
  try dsimp only
  replace hG := hide hG
  suffices hM1 : Hid (Mv (Hb hb (.slice sa L.sh.length sc) (.slice qa L.q.length qc) (.slice ta ms.length tc)) V3 V3 → G 1 #[true, true, true, true, true, true, true, true, true, true, true, true, false] #[.pointer (some ⟨hb, 0, none⟩), .pointer (some ⟨b1, 0, none⟩), .pointer (some ⟨b2, 0, none⟩), undef, undef, .pointer (some ⟨hb, 0, none⟩), .pointer (some ⟨hb, 0, none⟩), .pointer (some ⟨hb, 0, none⟩), .pointer (some ⟨hb, 0, none⟩), .pointer (some ⟨hb, 3, none⟩), .int .i64 L.bu, .pointer (some ⟨hb, 0, none⟩), .pointer (some ⟨hb, 0, none⟩), .pointer (some ⟨hb, 0, none⟩), .pointer (some ⟨hb, 4, none⟩), .int .i64 L.wt, .agg #[.int .i64 L.bu, .int .i64 L.wt], undef, undef, undef, undef, undef, undef, undef, undef, undef, undef] V3) by
    rw [hG.out]
    refine kd_each2 (l := [5, 10]) (by kernel_rfl) rfl ⟨?_, ?_, trivial⟩
    · refine .inl ?_
      refine ⟨_, rfl, by rfl, .inl ⟨.int .i64 L.bu, _, (by have z0 := cell_box 3 (bx0.out) rfl; go_simp), fun _ => hS, ?_⟩⟩
      refine ptk ?_
      refine kd_val (i := 10) (v := .int .i64 L.wt) (by kernel_rfl) rfl (by rfl) (by have z0 := cell_box 4 (bx0.out) rfl; go_simp) hS ?_
      refine ptk ?_
      refine tk0 11 (.agg #[.int .i64 L.bu, .int .i64 L.wt]) rfl ?_
      have hMx := hM1.out hS
      rw [hG.out] at hMx
      exact hMx
    · refine .inl ?_
      refine ⟨_, rfl, by rfl, .inl ⟨.int .i64 L.wt, _, (by have z0 := cell_box 4 (bx0.out) rfl; go_simp), fun _ => hS, ?_⟩⟩
      refine ptk ?_
      refine kd_val (i := 5) (v := .int .i64 L.bu) (by kernel_rfl) rfl (by rfl) (by have z0 := cell_box 3 (bx0.out) rfl; go_simp) hS ?_
      refine ptk ?_
      refine tk0 11 (.agg #[.int .i64 L.bu, .int .i64 L.wt]) rfl ?_
      have hMx := hM1.out hS
      rw [hG.out] at hMx
      exact hMx
  refine hide ?_
  intro   hS
  rw [hG.out]; clear hG
  have hsz := HB.out.size
  have h4b : ∀ g, Hb hb (.slice sa L.sh.length sc) (.slice qa L.q.length qc) (.slice ta ms.length tc) g → 7 ≤ g := fun g h => Nat.le_trans hb4 (h.elim (fun e => e ▸ hlo) (fun q => (rows_lt RS.out RQ.out RT.out g q).1))
  have hsb1 := lt_of_block bx1.out
  have hsb2 := lt_of_block bx2.out
  refine kd_call (i := 12) (by kernel_rfl) rfl (by rfl) (by first | rfl | (go_simp; done)) (grant_any E base hb L line ms _ _ _ _ _ _ V3 L.bu L.wt ⟨bx0.out, RS.out, RQ.out, RT.out, AP, hlo, GL.out, hb4⟩ hgd.sh hb1 hb5 (by omega)) ?_
  rintro e V4 ⟨sa1, sc1, qa1, qc1, ta1, tc1, rfl, HR1, hfr, hmv⟩
  have m4 : Mv (Hb hb (.slice sa L.sh.length sc) (.slice qa L.q.length qc) (.slice ta ms.length tc)) V3 V4 := hmv
  replace hS := hS.step m4 (fun _ _ h => h)
  refine ⟨_, rfl, fun _ => hS, ?_⟩
  refine ptk ?_
  replace HB := hide (HB.out.step m4 (fun g hg e => (FR g e).resolve_right (by omega)))
  replace bx1 := hide (m4.box bx1.out (fun h => by have := SF _ h; omega))
  replace bx2 := hide (m4.box bx2.out (fun h => by have := SF _ h; omega))
  replace bx0 := hide HR1.bx; have RS := hide HR1.rs; have RQ := hide HR1.rq; have RT := hide HR1.rt; replace GL := hide HR1.gl; replace AP := HR1.ap
  replace NB : Hid (∀ g, (rb (.slice sa1 ((Hm.grantL L L.bu L.wt)).sh.length sc1) = some g ∨ rb (.slice qa1 ((Hm.grantL L L.bu L.wt)).q.length qc1) = some g ∨ rb (.slice ta1 (ms ++ [Hm.mGrant L.bu line L.wt L.mem]).length tc1) = some g) → g ≠ hb ∧ g ≠ b1 ∧ g ≠ b2) := hide (fun g h => by have q1 := HAp.ne AP h; exact (hfr g (.inr h)).elim (fun q => q.elim (fun q => absurd q q1) (fun q => by have := NB.out g q; omega)) (fun q => by omega))
  replace FR := fun g h => (hfr g h).elim (FR g) (fun q => .inr (Nat.le_trans hsz q))
  clear HR1 hfr hmv hsz h4b SF hsb1 hsb2
  refine wpAnyK_done (by kernel_rfl) ?_
  clear hS rbx1
  refine then_normal (h2 _ _ (sk fun K3 h3 => sk fun K4 h4 => rl ?_)); clear h2 K2
  refine sl 0 bx1 ?_
  refine sg (.func (.func 102) #[.pointer (some ⟨hb, 0, none⟩)] #[]) ?_
  refine nt (h4 _ _ (wp_block ?_)); clear h4 K4
  have HA0 : Hid (Ha E base hb line V4 (Hb hb (.slice sa1 ((Hm.grantL L L.bu L.wt)).sh.length sc1) (.slice qa1 ((Hm.grantL L L.bu L.wt)).q.length qc1) (.slice ta1 (ms ++ [Hm.mGrant L.bu line L.wt L.mem]).length tc1)) (Hm.grantL L L.bu L.wt) (ms ++ [Hm.mGrant L.bu line L.wt L.mem]) V4) := hide ⟨_, _, _, _, _, _, ⟨bx0.out, RS.out, RQ.out, RT.out, AP, hlo, GL.out, hb4⟩, fun g h => .inl h, Mv.refl _ _⟩
  have HGD : Hid (Gd (Hm.grantL L L.bu L.wt)) := hide (hgd.grant hb1 hb5)
  have SF : ∀ g, Hb hb (.slice sa1 ((Hm.grantL L L.bu L.wt)).sh.length sc1) (.slice qa1 ((Hm.grantL L L.bu L.wt)).q.length qc1) (.slice ta1 (ms ++ [Hm.mGrant L.bu line L.wt L.mem]).length tc1) g → g ≠ b1 ∧ g ≠ b2 := fun g h => h.elim (fun e => by omega) (fun q => by have := NB.out g q; omega)
  have hlt0 : hb < V4.heap.size := Nat.lt_of_lt_of_le hlt HB.out.size
  refine range_stmt (gf := 102) (pre := #[.pointer (some ⟨hb, 0, none⟩)]) rfl (enters_of Tryz.func102 (by kernel_rfl) rfl) (fun fn l D W LO hLO hD hl hL hDf hBl => ?_)
  have hDs : w.heap.size ≤ D := Nat.le_trans HB.out.size hD
  have hls : w.heap.size ≤ l := by omega
  have hl0 : V4.heap.size ≤ l := by omega
  have y1 := (Mv.of_below hBl).box bx1.out (fun h => h)
  have y2 := (Mv.of_below hBl).box bx2.out (fun h => h)
  have hz1 := lt_of_block bx1.out
  have hz2 := lt_of_block bx2.out
  have hne1 : b1 ≠ hb := by omega
  have hne2 : b2 ≠ hb := by omega
  have hs1 : ¬ (Hb hb (.slice sa1 ((Hm.grantL L L.bu L.wt)).sh.length sc1) (.slice qa1 ((Hm.grantL L L.bu L.wt)).q.length qc1) (.slice ta1 (ms ++ [Hm.mGrant L.bu line L.wt L.mem]).length tc1)) b1 := fun h => (SF _ h).1 rfl
  have hs2 : ¬ (Hb hb (.slice sa1 ((Hm.grantL L L.bu L.wt)).sh.length sc1) (.slice qa1 ((Hm.grantL L L.bu L.wt)).q.length qc1) (.slice ta1 (ms ++ [Hm.mGrant L.bu line L.wt L.mem]).length tc1)) b2 := fun h => (SF _ h).2 rfl
  have h42 : 7 ≤ b2 := by omega
  refine (freed_any E base hb line V4 (Hb hb (.slice sa1 ((Hm.grantL L L.bu L.wt)).sh.length sc1) (.slice qa1 ((Hm.grantL L L.bu L.wt)).q.length qc1) (.slice ta1 (ms ++ [Hm.mGrant L.bu line L.wt L.mem]).length tc1)) l [(l, LO .ready none), (D, .deferred (some [])), (b1, .cells #[.pointer (some ⟨hb, 0, none⟩)] 55), (b2, .cells #[.nilIface] 59)] R (fun L2 ms2 V2 => Ha E base hb line w (Hb hb (.slice sa L.sh.length sc) (.slice qa L.q.length qc) (.slice ta ms.length tc)) L2 ms2 V2 ∧ V2.heap[l]? = some (LO .done (some .ret)) ∧ V2.heap[D]? = some (.deferred (some [])) ∧ V2.heap[b2]? = some (.cells #[rfV L2.own (E 1)] 59)) (Hm.grantL L L.bu L.wt) (ms ++ [Hm.mGrant L.bu line L.wt L.mem]) W hlt0 ?_ ?_ (HA0.out.nob (Mv.of_below hBl)) ?_ HGD.out ?_ hR).mono ?_
  · intro p hp; simp only [List.mem_cons, List.not_mem_nil, or_false] at hp; rcases hp with rfl | rfl | rfl | rfl; all_goals (show _ ≠ hb; omega)
  · intro L2 ms2 c t V hA hB hbu2 hgd2 hc1 hc5 hn2
    have q1 := hB (l, LO .ready none) (by simp)
    have q2 := hB (D, .deferred (some [])) (by simp)
    have q3 := hB (b1, .cells #[.pointer (some ⟨hb, 0, none⟩)] 55) (by simp)
    have q4 := hB (b2, .cells #[.nilIface] 59) (by simp)
    clear hB
    rw [hLO] at q1
    suffices hsuf : ∀ K : Ending → World → Prop, (∀ V', ¬ L2.own = c → Ha E base hb line V4 (Hb hb (.slice sa1 ((Hm.grantL L L.bu L.wt)).sh.length sc1) (.slice qa1 ((Hm.grantL L L.bu L.wt)).q.length qc1) (.slice ta1 (ms ++ [Hm.mGrant L.bu line L.wt L.mem]).length tc1)) (Hm.begL L2 line c t) (ms2 ++ Hm.begM L2 line c t) V' → Bk [(l, LO .ready none), (D, .deferred (some [])), (b1, .cells #[.pointer (some ⟨hb, 0, none⟩)] 55), (b2, .cells #[.nilIface] 59)] V' → K (.returned (.bool true)) V') → (∀ V', L2.own = c → Ha E base hb line w (Hb hb (.slice sa L.sh.length sc) (.slice qa L.q.length qc) (.slice ta ms.length tc)) L2 ms2 V' → V'.heap[l]? = some (LO .done (some .ret)) → V'.heap[D]? = some (.deferred (some [])) → V'.heap[b2]? = some (.cells #[rfV L2.own (E 1)] 59) → K (.returned (.bool false)) V') → YieldAt Fence.wide 0 Tryz.prog l #[.agg #[.int .i64 c, .int .i64 t]] V K from hsuf _ (fun V' h1 h2 h3 => .inl ⟨h1, rfl, h2, h3⟩) (fun V' h1 h2 h3 h4 h5 => .inr ⟨h1, rfl, h2, h3, h4, h5⟩)
    intro K hK1 hK2
    replace hK1 := hide hK1; replace hK2 := hide hK2
    refine range_yield q1 rfl ?_
    replace hbu2 := hide hbu2; have HA2 := hide hA; have hLO2 := hide hLO; clear hA hLO
    have Q1 := hide q1; have Q2 := hide q2; have Q3 := hide q3; have Q4 := hide q4; clear q1 q2 q3 q4
    have HB0 := hide HB.out; have FR0 := hide FR
    clear HA0 HB FR bx0 bx1 bx2 RS RQ RT GL hL hDf y1 y2 hBl
    gi_wp2
    obtain ⟨W1, hW1⟩ : ∃ W1, V.alloc (.cells #[.int .i64 c, .int .i64 t] 71) = W1 := ⟨_, rfl⟩
    have mA : Mv nob V W1 := by rw [← hW1]; exact Mv.alloc _ _
    have n3 : W1.heap[V.heap.size]? = some (.cells #[.int .i64 c, .int .i64 t] 71 (0, 0)) := by rw [← hW1]; exact heap_alloc_new _ _
    rw [hW1]
    clear hW1
    have hlV := lt_of_block Q1.out
    refine ⟨mA.box Q1.out (fun h => h), ?_⟩
    generalize hW2 : World.putObj W1 l _ = W2
    have mB : Mv (fun g => g = l) W1 W2 := by rw [← hW2]; exact mv_putObj _ _ _
    have HA3 : Ha E base hb line V4 (Hb hb (.slice sa1 ((Hm.grantL L L.bu L.wt)).sh.length sc1) (.slice qa1 ((Hm.grantL L L.bu L.wt)).q.length qc1) (.slice ta1 (ms ++ [Hm.mGrant L.bu line L.wt L.mem]).length tc1)) L2 ms2 W2 := by rw [← hW2]; exact (HA2.out.nob mA).put _ (mA.box Q1.out (fun h => h)) rfl hl0 hlt0
    have L3 : W2.heap[l]? = some (LO .busy none) := by rw [← hW2, hLO2.out]; exact World.putObj_heap_same (lt_of_block (mA.box Q1.out (fun h => h)))
    have D3 := mB.box (mA.box Q2.out (fun h => h)) (show ¬ D = l by omega)
    have P1 := mB.box (mA.box Q3.out (fun h => h)) (show ¬ b1 = l by omega)
    have P2 := mB.box (mA.box Q4.out (fun h => h)) (show ¬ b2 = l by omega)
    have P3 := mB.box n3 (show ¬ V.heap.size = l by omega)
    have z1 := cell_box 0 P1 rfl; have z30 := cell_box 0 P3 rfl; have z31 := cell_box 1 P3 rfl
    obtain ⟨sa2, sc2, qa2, qc2, ta2, tc2, h2, fr2, hm2⟩ := HA3
    have H2 := hide h2; have FR2 := hide fr2; have HM2 := hide hm2; have HL3 := hide L3; have HD3 := hide D3; have HP1 := hide P1; have HP2 := hide P2
    clear h2 fr2 hm2 L3 D3 P1 P2 P3 mA mB n3 hW2 Q1 Q2 Q3 Q4
    by_cases ho : L2.own = c
    · have HO := hide ho; clear ho
      have post : ∀ e W4, HPost E W2 base hb (.slice sa2 L2.sh.length sc2) (.slice qa2 L2.q.length qc2) (.slice ta2 ms2.length tc2) (L2) line (ms2) (rfV c (E 1)) e W4 → e = .returned (rfV c (E 1)) ∧ Hid (Ha E base hb line V4 (Hb hb (.slice sa1 ((Hm.grantL L L.bu L.wt)).sh.length sc1) (.slice qa1 ((Hm.grantL L L.bu L.wt)).q.length qc1) (.slice ta1 (ms ++ [Hm.mGrant L.bu line L.wt L.mem]).length tc1)) (L2) (ms2) W4) ∧ Hid (W4.heap[l]? = some (LO .busy none) ∧ W4.heap[D]? = some (.deferred (some [])) ∧ W4.heap[b1]? = some (.cells #[.pointer (some ⟨hb, 0, none⟩)] 55)) ∧ W4.heap[b2]? = some (.cells #[.nilIface] 59) := fun e W4 hp => by
        obtain ⟨he, HA4⟩ := Ha.home FR2.out HM2.out hp
        obtain ⟨_, _, _, _, _, _, _, _, _, hmv⟩ := hp
        have keep : ∀ (b : Nat) (o : Obj), W2.heap[b]? = some o → ((¬ (Hb hb (.slice sa1 ((Hm.grantL L L.bu L.wt)).sh.length sc1) (.slice qa1 ((Hm.grantL L L.bu L.wt)).q.length qc1) (.slice ta1 (ms ++ [Hm.mGrant L.bu line L.wt L.mem]).length tc1)) b ∧ b < V4.heap.size) ∨ o.isCells = false) → W4.heap[b]? = some o := fun b o h hn => ha_keeps H2.out FR2.out hmv h hn
        exact ⟨he, HA4, ⟨keep _ _ HL3.out (.inr (by rw [hLO2.out]; rfl)), keep _ _ HD3.out (.inr rfl), keep _ _ HP1.out (.inl ⟨hs1, hz1⟩)⟩, keep _ _ HP2.out (.inl ⟨hs2, hz2⟩)⟩
      gi_wp2_with (refine ⟨trivial, rfl, ?_⟩; gi_at_call 86; refine (CallsIn.inRound l (callsIn_wide.2 (begin_o E base hb L2 line ms2 _ _ _ _ _ _ W2 c t H2.out hbu2.out HO.out))).mono ?_; rintro e W4 hp4; obtain ⟨rfl, HA4, HK4, p4⟩ := post _ _ hp4; clear hp4; have zb := cell_box 0 p4 rfl; have fb := frozen_of_row _ _ 0 _ _ p4; replace p4 := hide p4)
      have mb : Mv (fun g => g = b2) W4 (W4.setCell ⟨b2, 0, none⟩ (rfV c (E 1))) := Mv.set (Mv.refl _ _) _ _
      have l5 := mb.box HK4.out.1 (show ¬ l = b2 by omega)
      have d5 := mb.box HK4.out.2.1 (show ¬ D = b2 by omega)
      have p5 : (W4.setCell ⟨b2, 0, none⟩ (rfV c (E 1))).heap[b2]? = some (.cells #[rfV c (E 1)] 59) := (heap_setCell_same _ _ 0 _ _ _ p4.out).trans rfl
      have hW5 := HA4.out.out FR0.out HB0.out mb hs2 hz2 (by omega) h42
      have hlc : (LO .busy none).isCells = false := by rw [hLO2.out]; rfl
      have hKK := hK2.out _ HO.out (hW5.put (LO .done (some .ret)) l5 hlc hls hlt) (World.putObj_heap_same (lt_of_block l5)) ((World.putObj_heap_other (by omega)).trans d5) (by rw [HO.out]; exact (World.putObj_heap_other (by omega)).trans p5)
      rw [hLO2.out] at l5 hKK
      refine ⟨l5, ?_⟩
      first | exact .inr ⟨rfl, hKK⟩ | exact .inr ⟨trivial, hKK⟩ | exact .inr hKK | exact hKK
    · have HO := hide ho; clear ho
      have post : ∀ e W4, HPost E W2 base hb (.slice sa2 L2.sh.length sc2) (.slice qa2 L2.q.length qc2) (.slice ta2 ms2.length tc2) (Hm.begL L2 line c t) line (ms2 ++ Hm.begM L2 line c t) (.nilIface) e W4 → e = .returned (.nilIface) ∧ Hid (Ha E base hb line V4 (Hb hb (.slice sa1 ((Hm.grantL L L.bu L.wt)).sh.length sc1) (.slice qa1 ((Hm.grantL L L.bu L.wt)).q.length qc1) (.slice ta1 (ms ++ [Hm.mGrant L.bu line L.wt L.mem]).length tc1)) (Hm.begL L2 line c t) (ms2 ++ Hm.begM L2 line c t) W4) ∧ Hid (W4.heap[l]? = some (LO .busy none) ∧ W4.heap[D]? = some (.deferred (some [])) ∧ W4.heap[b1]? = some (.cells #[.pointer (some ⟨hb, 0, none⟩)] 55)) ∧ W4.heap[b2]? = some (.cells #[.nilIface] 59) := fun e W4 hp => by
        obtain ⟨he, HA4⟩ := Ha.home FR2.out HM2.out hp
        obtain ⟨_, _, _, _, _, _, _, _, _, hmv⟩ := hp
        have keep : ∀ (b : Nat) (o : Obj), W2.heap[b]? = some o → ((¬ (Hb hb (.slice sa1 ((Hm.grantL L L.bu L.wt)).sh.length sc1) (.slice qa1 ((Hm.grantL L L.bu L.wt)).q.length qc1) (.slice ta1 (ms ++ [Hm.mGrant L.bu line L.wt L.mem]).length tc1)) b ∧ b < V4.heap.size) ∨ o.isCells = false) → W4.heap[b]? = some o := fun b o h hn => ha_keeps H2.out FR2.out hmv h hn
        exact ⟨he, HA4, ⟨keep _ _ HL3.out (.inr (by rw [hLO2.out]; rfl)), keep _ _ HD3.out (.inr rfl), keep _ _ HP1.out (.inl ⟨hs1, hz1⟩)⟩, keep _ _ HP2.out (.inl ⟨hs2, hz2⟩)⟩
      gi_wp2_with (refine ⟨trivial, rfl, ?_⟩; gi_at_call 86; refine (CallsIn.inRound l (callsIn_wide.2 (begin_any E base hb L2 line ms2 _ _ _ _ _ _ W2 c t H2.out hgd2.sh hc1 hc5 (by omega) hbu2.out HO.out))).mono ?_; rintro e W4 hp4; obtain ⟨rfl, HA4, HK4, p4⟩ := post _ _ hp4; clear hp4; have zb := cell_box 0 p4 rfl; have fb := frozen_of_row _ _ 0 _ _ p4; replace p4 := hide p4)
      have l5 := HK4.out.1
      have hlc : (LO .busy none).isCells = false := by rw [hLO2.out]; rfl
      have hKK := hK1.out _ HO.out (HA4.out.put (LO .ready none) l5 hlc hl0 hlt0) (by intro p hp; simp only [List.mem_cons, List.not_mem_nil, or_false] at hp; rcases hp with rfl | rfl | rfl | rfl; exact World.putObj_heap_same (lt_of_block l5); exact (World.putObj_heap_other (by omega)).trans HK4.out.2.1; exact (World.putObj_heap_other (by omega)).trans HK4.out.2.2; exact (World.putObj_heap_other (by omega)).trans p4.out)
      rw [show LO .ready none = LR fn _ _ _ _ D .ready none from by rw [hLO2.out]] at hKK
      rw [hLO2.out] at l5
      refine ⟨l5, ?_⟩
      first | exact .inl ⟨rfl, hKK⟩ | exact .inl ⟨trivial, hKK⟩ | exact .inl hKK | exact hKK
  · intro p hp; simp only [List.mem_cons, List.not_mem_nil, or_false] at hp; rcases hp with rfl | rfl | rfl | rfl
    · exact hL
    · exact hDf
    · exact y1
    · exact y2
  · rw [grantL_q, List.length_append]; have := hgd.n; show ms.length + 1 + _ ≤ _; omega
  · rintro e W2 ⟨hv, (⟨hr1, HA2, BK2⟩ | ⟨hr0, HA2, hl2, hd2, P2⟩)⟩
    · refine ⟨hv, .inl ⟨BK2 (l, LO .ready none) (by simp), ?_⟩⟩
      have hl2 := BK2 (l, LO .ready none) (by simp)
      have hd2 := BK2 (D, .deferred (some [])) (by simp)
      have P2 := BK2 (b2, .cells #[.nilIface] 59) (by simp)
      have hlc : (LO .ready none).isCells = false := by rw [hLO]; rfl
      obtain ⟨W3, hW3⟩ : ∃ W3, W2.putObj l (LO .exhausted none) = W3 := ⟨_, rfl⟩
      have HA3 := hide (HA2.put (LO .exhausted none) hl2 hlc hl0 hlt0)
      have D3 := (World.putObj_heap_other (o := LO .exhausted none) (w := W2) (by omega : D ≠ l)).trans hd2
      have P3 := (World.putObj_heap_other (o := LO .exhausted none) (w := W2) (by omega : b2 ≠ l)).trans P2
      rw [hW3] at HA3 D3 P3 ⊢
      replace D3 := hide D3
      clear HA0 HA2 hl2 hd2 P2 hW3 BK2
      have HBx := hide HB.out; have FRx := hide FR
      clear HB FR bx0 bx1 bx2 RS RQ RT GL NB
      have bx2 := hide P3
      clear P3
      refine inb_norm (then_normal (h3 _ _ (sk fun K5 h5 => rl ?_))); clear h3 K3
      refine ss 0 .nilIface bx2 fun V5 m5 bx2 => ?_
      replace D3 := hide (m5.box D3.out (show ¬ D = b2 by omega))
      refine nt (h5 _ _ (wp_ret ?_)); clear h5 K5
      have HA4 := HA3.out.out FRx.out HBx.out m5 hs2 hz2 (by omega) h42
      have HA5 := hide (HA4.put (.deferred none) D3.out rfl hDs hlt)
      have q0 : (V5.putObj D (.deferred none)).cell? ⟨b2, 0, none⟩ = some (.nilIface) := cell_box 0 ((World.putObj_heap_other (by omega : b2 ≠ D)).trans bx2.out) rfl
      clear HA4
      exact leaves_mark rfl D3.out ⟨.nilIface, by simp [results, Tryz.results90, go_sem, q0], .inl ⟨hr1, HA5.out.post _⟩⟩
    · refine ⟨hv, .inr ⟨hl2, ?_⟩⟩
      have hlc : (LO .done (some .ret)).isCells = false := by rw [hLO]; rfl
      obtain ⟨W3, hW3⟩ : ∃ W3, W2.putObj l (LO .exhausted (some .ret)) = W3 := ⟨_, rfl⟩
      have HA3 := hide (HA2.put (LO .exhausted (some .ret)) hl2 hlc hls hlt)
      have D3 := (World.putObj_heap_other (o := LO .exhausted (some .ret)) (w := W2) (by omega : D ≠ l)).trans hd2
      have P3 := (World.putObj_heap_other (o := LO .exhausted (some .ret)) (w := W2) (by omega : b2 ≠ l)).trans P2
      rw [hW3] at HA3 D3 P3 ⊢
      replace D3 := hide D3
      clear HA0 HA2 hl2 hd2 P2 hW3
      have HBx := hide HB.out; have FRx := hide FR
      clear HB FR bx0 bx1 bx2 RS RQ RT GL NB
      have bx2 := hide P3
      clear P3
      refine wp_ret (inb_ret (then_ret ?_)); clear h3 K3
      have HA4 := HA3.out
      have HA5 := hide (HA4.put (.deferred none) D3.out rfl hDs hlt)
      have q0 : (W3.putObj D (.deferred none)).cell? ⟨b2, 0, none⟩ = some (rfV R.2.1.own (E 1)) := cell_box 0 ((World.putObj_heap_other (by omega : b2 ≠ D)).trans bx2.out) rfl
      clear HA4
      exact leaves_mark rfl D3.out ⟨rfV R.2.1.own (E 1), by simp [results, Tryz.results90, go_sem, q0], .inr ⟨hr0, HA5.out.post _⟩⟩

end Go.Proofs.YtlalldlbgnlbjaaGreatDoor
