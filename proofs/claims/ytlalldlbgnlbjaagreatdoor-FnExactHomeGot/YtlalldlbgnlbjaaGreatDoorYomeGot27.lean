/- HmG -/
import Derived.Test.YtlalldlbgnlbjaaGreatDoorYomeGot25
import Derived.Test.YtlalldlbgnlbjaaGreatDoorYomeGot26
/- a home answers; impl.Begun (written by mkHmG.py) -/
namespace Go.Proofs.YtlalldlbgnlbjaaGreatDoor
open Go.RowKit
set_option linter.unusedVariables false
set_option linter.unusedSimpArgs false

theorem as_nil2 (t : Value) (w : World) : Calls Tryz.prog 66 #[.nilIface, t] w fun e w' => e = .returned (.bool false) ∧ Below w.heap.size w w' :=
  (as_nil t w).mono fun e w' h => ⟨h.1, by rw [h.2]; exact Below.refl _ _⟩
theorem sg_sl {w : World} {v : Value} {zs : List Int} (h : Sg w v 1 zs.length (gF (f1 zs))) : Sl w v zs := by
  obtain ⟨ad, cap, rfl, hc⟩ := h
  refine ⟨ad, cap, rfl, fun hp => ?_⟩
  obtain ⟨b, off, rfl, hd⟩ := hc hp
  refine ⟨b, off, rfl, fun j hj => ?_⟩
  have := hd j hj 0 (by decide)
  rwa [Nat.mul_one, Nat.add_zero] at this
theorem sg_sr {w : World} {v : Value} {m n : Nat} {f : Nat → Nat → Int} (h : Sg w v m n (gF f)) : Sr w v m n f := h
theorem Sg.congr {w : World} {v : Value} {m n : Nat} {f f' : Nat → Nat → Value} (h : Sg w v m n f) (he : ∀ j, j < n → ∀ i, i < m → f j i = f' j i) : Sg w v m n f' := by
  obtain ⟨ad, cap, rfl, hc⟩ := h
  refine ⟨ad, cap, rfl, fun hp => ?_⟩
  obtain ⟨b, off, rfl, hd⟩ := hc hp
  exact ⟨b, off, rfl, fun j hj i hi => by rw [← he j hj i hi]; exact hd j hj i hi⟩
/-- requests as a list -/
def qL (n : Nat) (f : Nat → Nat → Int) : List (Int × Int) := (List.range n).map fun j => (f j 0, f j 1)
theorem qL_len (n : Nat) (f : Nat → Nat → Int) : (qL n f).length = n := by simp [qL]
theorem qL_get (n : Nat) (f : Nat → Nat → Int) (j i : Nat) (hj : j < n) (hi : i < 2) : f2 (qL n f) j i = f j i := by
  unfold f2 qL
  match i, hi with
  | 0, _ => simp [List.getD_eq_getElem?_getD, hj]
  | 1, _ => simp [List.getD_eq_getElem?_getD, hj]
noncomputable def lok (L : Hm.Ln) : Bool := lineB L.mem L.own L.sh L.bu L.wt L.ac L.q.length (f2 L.q)
abbrev Apt (sv qv tv : Value) : Prop := (∀ g, rb sv = some g → rb qv ≠ some g ∧ rb tv ≠ some g) ∧ ∀ g, rb qv = some g → rb tv ≠ some g
/-- a line and messages that are the call's own -/
abbrev LnP (w : World) (X : Hm.Ln) (M : List Hm.Mg) (B : Bool) : Ending → World → Prop := fun e w' => ∃ sa sc qa qc ta tc, e = .returned (.tuple #[.agg #[.int .i64 X.mem, .int .i64 X.own, .slice sa X.sh.length sc, .int .i64 X.bu, .int .i64 X.wt, .int .i64 X.ac, .slice qa X.q.length qc], .slice ta M.length tc, .bool B]) ∧
  Rg w' w.heap.size (.slice sa X.sh.length sc) 1 X.sh.length (gF (f1 X.sh)) ∧ Rg w' w.heap.size (.slice qa X.q.length qc) 2 X.q.length (gF (f2 X.q)) ∧ Rg w' w.heap.size (.slice ta M.length tc) 6 M.length (gF (f6 M)) ∧ Apt (.slice sa X.sh.length sc) (.slice qa X.q.length qc) (.slice ta M.length tc) ∧ Below w.heap.size w w'
def zL : Hm.Ln := ⟨0, 0, [], 0, 0, 0, []⟩
theorem zl_apt : Apt (.slice none 0 0) (.slice none 0 0) (.slice none 0 0) := ⟨fun g e => absurd e (by simp [rb]), fun g e => absurd e (by simp [rb])⟩

set_option maxRecDepth 20000 in
set_option maxHeartbeats 2000000 in
theorem answer_nil (E : Nat → Addr) (base hb : Nat) (L : Hm.Ln) (line : Int) (ms : List Hm.Mg) (sa : Option Addr) (sc : Nat) (qa : Option Addr) (qc : Nat) (ta : Option Addr) (tc : Nat) (w : World) (h : Hr E w base hb L line ms sa sc qa qc ta tc) :
    Calls Tryz.prog 32 #[.pointer (some ⟨hb, 0, none⟩), .nilIface] w (fun e w' => e = .returned (.tuple #[.agg #[.int .i64 L.mem, .int .i64 L.own, .slice sa L.sh.length sc, .int .i64 L.bu, .int .i64 L.wt, .int .i64 L.ac, .slice qa L.q.length qc], .slice ta ms.length tc, .bool true]) ∧ Hr E w' base hb L line ms sa sc qa qc ta tc ∧ Mv nob w w') := by
  have HB : Hid (Mv (Hb hb (.slice sa L.sh.length sc) (.slice qa L.q.length qc) (.slice ta ms.length tc)) w w) := hide (Mv.refl _ _)
  have hlo := h.lo
  have hb4 := h.b4
  have hlt := lt_of_block h.bx
  have AP := h.ap
  have FR : ∀ g, Hb hb (.slice sa L.sh.length sc) (.slice qa L.q.length qc) (.slice ta ms.length tc) g → Hb hb (.slice sa L.sh.length sc) (.slice qa L.q.length qc) (.slice ta ms.length tc) g ∨ w.heap.size ≤ g := fun g h => .inl h
  have bx0 := hide h.bx; have RS := hide h.rs; have RQ := hide h.rq; have RT := hide h.rt; have GL := hide h.gl; clear h
  have NB : Hid (∀ g, (rb (.slice sa L.sh.length sc) = some g ∨ rb (.slice qa L.q.length qc) = some g ∨ rb (.slice ta ms.length tc) = some g) → g ≠ hb) := hide (fun g h => HAp.ne AP h)
  have HB2 : Hid (Mv nob w w) := hide (Mv.refl _ _)
  go_enter Tryz.func32, Tryz.ntmps32
  refine sk fun K1 h1 => rl ?_
  refine sbp #[.int .i64 0, .int .i64 0, .slice none 0 0, .int .i64 0, .int .i64 0, .int .i64 0, .slice none 0 0] 31 fun V1 b1 hb1 m1 bx1 => ?_
  have o0_1 := Xlo bx0 hb1
  have og_1 : w.heap.size ≤ b1 := Xhs HB hb1
  replace NB : Hid (∀ g, (rb (.slice sa L.sh.length sc) = some g ∨ rb (.slice qa L.q.length qc) = some g ∨ rb (.slice ta ms.length tc) = some g) → g ≠ hb ∧ g ≠ b1) := hide (fun g h => by have h1 := NB.out g h; have h2 := rows_lt RS.out RQ.out RT.out g h; exact (by omega))
  replace RS := hide (RS.out.mv m1 (fun _ _ h => h))
  replace RQ := hide (RQ.out.mv m1 (fun _ _ h => h))
  replace RT := hide (RT.out.mv m1 (fun _ _ h => h))
  replace GL := hide (GL.out.mv m1 (fun _ _ h => h))
  clear hb1
  refine sv (.slice none 0 0) ?_
  refine sv (.bool false) ?_
  refine nt (h1 _ _ (sk fun K2 h2 => rl ?_)); clear h1 K1
  replace HB := Xhn HB m1; replace bx0 := Xbn bx0 m1; replace HB2 := Xhn HB2 m1
  refine sbp #[.int .i64 0, .nilIface] 89 fun V2 b2 hb2 m2 bx2 => ?_
  have o1_2 := Xlo bx1 hb2
  have og_2 : w.heap.size ≤ b2 := Xhs HB hb2
  replace NB : Hid (∀ g, (rb (.slice sa L.sh.length sc) = some g ∨ rb (.slice qa L.q.length qc) = some g ∨ rb (.slice ta ms.length tc) = some g) → g ≠ hb ∧ g ≠ b1 ∧ g ≠ b2) := hide (fun g h => by have h1 := NB.out g h; have h2 := rows_lt RS.out RQ.out RT.out g h; exact (by omega))
  replace RS := hide (RS.out.mv m2 (fun _ _ h => h))
  replace RQ := hide (RQ.out.mv m2 (fun _ _ h => h))
  replace RT := hide (RT.out.mv m2 (fun _ _ h => h))
  replace GL := hide (GL.out.mv m2 (fun _ _ h => h))
  clear hb2
  refine nt (h2 _ _ (sk fun K3 h3 => sk fun K4 h4 => rl ?_)); clear h2 K2
  refine sv (.nilIface) ?_
  refine sg (.iface 91 (.pointer (some ⟨b2, 0, none⟩))) ?_
  refine sw_call (by rfl) (by first | rfl | (go_simp; done)) (as_nil2 (.iface 91 (.pointer (some ⟨b2, 0, none⟩))) V2) ?_
  rintro e V3 ⟨rfl, hbl⟩
  have m3 : Mv (nob) V2 V3 := Mv.of_below hbl
  refine ⟨_, rfl, ?_⟩
  refine pt ?_
  replace RS := hide (RS.out.mv m3 (fun _ _ h => h))
  replace RQ := hide (RQ.out.mv m3 (fun _ _ h => h))
  replace RT := hide (RT.out.mv m3 (fun _ _ h => h))
  replace GL := hide (GL.out.mv m3 (fun _ _ h => h))
  clear hbl
  refine nt (h4 _ _ (cf (wp_skip (then_normal (h3 _ _ (sk fun K5 h5 => ?_)))))); clear h4 K4; clear h3 K3
  refine wp_region_but (z := 999) (S := fun w' => Mv (fun x => x = b1) V3.drew w') (by kernel_rfl) (Mv.refl _ _) (fun hS => ?_)
  have m4 : Mv nob V3 V3.drew := Mv.drew _
  obtain ⟨V4, hN⟩ : ∃ V, V3.drew = V := ⟨_, rfl⟩
  rw [hN] at hS m4 ⊢
  clear hN
  replace RS := hide (RS.out.mv m4 (fun _ _ h => h))
  replace RQ := hide (RQ.out.mv m4 (fun _ _ h => h))
  replace RT := hide (RT.out.mv m4 (fun _ _ h => h))
  replace GL := hide (GL.out.mv m4 (fun _ _ h => h))
  replace bx0 := Xbn (Xbn (Xbn bx0 m2) m3) m4
  have rbx0 := bx0
  refine tk0 0 (.pointer (some ⟨hb, 0, none⟩)) rfl ?_
  refine tk0 1 (.pointer (some ⟨hb, 0, none⟩)) rfl ?_
  refine tk0 2 (.pointer (some ⟨hb, 0, none⟩)) rfl ?_
  refine tk 3 (.agg #[.int .i64 L.mem, .int .i64 L.own, .slice sa L.sh.length sc, .int .i64 L.bu, .int .i64 L.wt, .int .i64 L.ac, .slice qa L.q.length qc]) rfl (fun w' hSw => by (try dsimp only at hSw); have z0 := cell_box 0 (hSw.box rbx0.out (show ¬ (hb = b1) by omega)) rfl; have z1 := cell_box 1 (hSw.box rbx0.out (show ¬ (hb = b1) by omega)) rfl; have z2 := cell_box 2 (hSw.box rbx0.out (show ¬ (hb = b1) by omega)) rfl; have z3 := cell_box 3 (hSw.box rbx0.out (show ¬ (hb = b1) by omega)) rfl; have z4 := cell_box 4 (hSw.box rbx0.out (show ¬ (hb = b1) by omega)) rfl; have z5 := cell_box 5 (hSw.box rbx0.out (show ¬ (hb = b1) by omega)) rfl; have z6 := cell_box 6 (hSw.box rbx0.out (show ¬ (hb = b1) by omega)) rfl; go_simp) ?_
  refine tk0 4 (.pointer (some ⟨hb, 0, none⟩)) rfl ?_
  refine tk0 5 (.pointer (some ⟨hb, 0, none⟩)) rfl ?_
  refine tk0 6 (.pointer (some ⟨hb, 8, none⟩)) rfl ?_
  refine tk 7 (.slice ta ms.length tc) rfl (fun w' hSw => by (try dsimp only at hSw); have z0 := cell_box 8 (hSw.box rbx0.out (show ¬ (hb = b1) by omega)) rfl; go_simp) ?_
  replace bx1 := Xbn (Xbn (Xbn bx1 m2) m3) m4
  refine kd_skipI (i := 8) (w' := ((((((V4.setCell ⟨b1, 0, none⟩ (.int .i64 L.mem)).setCell ⟨b1, 1, none⟩ (.int .i64 L.own)).setCell ⟨b1, 2, none⟩ (.slice sa L.sh.length sc)).setCell ⟨b1, 3, none⟩ (.int .i64 L.bu)).setCell ⟨b1, 4, none⟩ (.int .i64 L.wt)).setCell ⟨b1, 5, none⟩ (.int .i64 L.ac)).setCell ⟨b1, 6, none⟩ (.slice qa L.q.length qc)) (fun V => Mv (fun g => g = b1) V4 V ∧ V.heap[b1]? = some (.cells #[.int .i64 L.mem, .int .i64 L.own, .slice sa L.sh.length sc, .int .i64 L.bu, .int .i64 L.wt, .int .i64 L.ac, .slice qa L.q.length qc] 31 (0, 0))) (by kernel_rfl) rfl (by rfl) (by have fr := fun i => frozen_of_row _ _ i _ _ bx1.out; have z0 := cell_box 0 bx1.out rfl; have z1 := cell_box 1 bx1.out rfl; have z2 := cell_box 2 bx1.out rfl; have z3 := cell_box 3 bx1.out rfl; have z4 := cell_box 4 bx1.out rfl; have z5 := cell_box 5 bx1.out rfl; have z6 := cell_box 6 bx1.out rfl; go_simp) ⟨Mv.set (Mv.set (Mv.set (Mv.set (Mv.set (Mv.set (Mv.set (Mv.refl _ _) _ _) _ _) _ _) _ _) _ _) _ _) _ _, (heap_setCell_same _ _ 6 _ _ _ (heap_setCell_same _ _ 5 _ _ _ (heap_setCell_same _ _ 4 _ _ _ (heap_setCell_same _ _ 3 _ _ _ (heap_setCell_same _ _ 2 _ _ _ (heap_setCell_same _ _ 1 _ _ _ (heap_setCell_same _ _ 0 _ _ _ (bx1.out)))))))).trans rfl⟩ (fun V hI _ => hS.step hI.1 (fun _ _ h => h)) ?_
  rintro V5 ⟨m5, nxV5⟩
  refine ptk ?_
  replace RS := hide (RS.out.mv m5 (fun g e h => by have h : g = b1 := h; have := NB.out g (.inl e); omega))
  replace RQ := hide (RQ.out.mv m5 (fun g e h => by have h : g = b1 := h; have := NB.out g (.inr (.inl e)); omega))
  replace RT := hide (RT.out.mv m5 (fun g e h => by have h : g = b1 := h; have := NB.out g (.inr (.inr e)); omega))
  replace GL := hide (GL.out.mv m5 (fun g hg h => by have h : g = b1 := h; omega))
  replace bx1 := hide nxV5
  clear nxV5
  replace hS := hS.step m5 (fun _ _ h => h)
  refine tk0 9 (.slice ta ms.length tc) rfl ?_
  refine tk0 10 (.bool true) rfl ?_
  refine wpAnyK_done (by kernel_rfl) ?_
  clear hS rbx0
  refine then_normal (h5 _ _ (wp_ret ?_)); clear h5 K5
  replace HB := Xhb (Xhn (Xhn (Xhn HB m2) m3) m4) m5; replace HB2 := Xhb (Xhn (Xhn (Xhn HB2 m2) m3) m4) m5; replace bx2 := Xbb (Xbn (Xbn bx2 m3) m4) m5; replace bx0 := Xbb bx0 m5
  have q1_0 := cell_box 0 bx1.out rfl
  have q1_1 := cell_box 1 bx1.out rfl
  have q1_2 := cell_box 2 bx1.out rfl
  have q1_3 := cell_box 3 bx1.out rfl
  have q1_4 := cell_box 4 bx1.out rfl
  have q1_5 := cell_box 5 bx1.out rfl
  have q1_6 := cell_box 6 bx1.out rfl
  exact bodyPost_ret (v := .tuple #[.agg #[.int .i64 L.mem, .int .i64 L.own, .slice sa L.sh.length sc, .int .i64 L.bu, .int .i64 L.wt, .int .i64 L.ac, .slice qa L.q.length qc], .slice ta ms.length tc, .bool true]) (by simp [results, Tryz.results32, go_sem, q1_0, q1_1, q1_2, q1_3, q1_4, q1_5, q1_6]) rfl ⟨rfl, ⟨bx0.out, RS.out, RQ.out, RT.out, AP, hlo, GL.out, hb4⟩, HB2.out⟩

set_option maxRecDepth 20000 in
set_option maxHeartbeats 2000000 in
theorem answer_no (E : Nat → Addr) (base hb : Nat) (L : Hm.Ln) (line : Int) (ms : List Hm.Mg) (sa : Option Addr) (sc : Nat) (qa : Option Addr) (qc : Nat) (ta : Option Addr) (tc : Nat) (w : World) (c : Int) (p : Addr) (h : Hr E w base hb L line ms sa sc qa qc ta tc) :
    Calls Tryz.prog 32 #[.pointer (some ⟨hb, 0, none⟩), rfV c p] w (fun e w' => e = .returned (.tuple #[.agg #[.int .i64 0, .int .i64 0, .slice none 0 0, .int .i64 0, .int .i64 0, .int .i64 0, .slice none 0 0], .slice none 0 0, .bool false]) ∧ Mv nob w w') := by
  have HB : Hid (Mv (Hb hb (.slice sa L.sh.length sc) (.slice qa L.q.length qc) (.slice ta ms.length tc)) w w) := hide (Mv.refl _ _)
  have hlo := h.lo
  have hb4 := h.b4
  have hlt := lt_of_block h.bx
  have AP := h.ap
  have FR : ∀ g, Hb hb (.slice sa L.sh.length sc) (.slice qa L.q.length qc) (.slice ta ms.length tc) g → Hb hb (.slice sa L.sh.length sc) (.slice qa L.q.length qc) (.slice ta ms.length tc) g ∨ w.heap.size ≤ g := fun g h => .inl h
  have bx0 := hide h.bx; have RS := hide h.rs; have RQ := hide h.rq; have RT := hide h.rt; have GL := hide h.gl; clear h
  have NB : Hid (∀ g, (rb (.slice sa L.sh.length sc) = some g ∨ rb (.slice qa L.q.length qc) = some g ∨ rb (.slice ta ms.length tc) = some g) → g ≠ hb) := hide (fun g h => HAp.ne AP h)
  have HB2 : Hid (Mv nob w w) := hide (Mv.refl _ _)
  go_enter Tryz.func32, Tryz.ntmps32
  refine sk fun K1 h1 => rl ?_
  refine sbp #[.int .i64 0, .int .i64 0, .slice none 0 0, .int .i64 0, .int .i64 0, .int .i64 0, .slice none 0 0] 31 fun V1 b1 hb1 m1 bx1 => ?_
  have o0_1 := Xlo bx0 hb1
  have og_1 : w.heap.size ≤ b1 := Xhs HB hb1
  replace NB : Hid (∀ g, (rb (.slice sa L.sh.length sc) = some g ∨ rb (.slice qa L.q.length qc) = some g ∨ rb (.slice ta ms.length tc) = some g) → g ≠ hb ∧ g ≠ b1) := hide (fun g h => by have h1 := NB.out g h; have h2 := rows_lt RS.out RQ.out RT.out g h; exact (by omega))
  replace RS := hide (RS.out.mv m1 (fun _ _ h => h))
  replace RQ := hide (RQ.out.mv m1 (fun _ _ h => h))
  replace RT := hide (RT.out.mv m1 (fun _ _ h => h))
  replace GL := hide (GL.out.mv m1 (fun _ _ h => h))
  clear hb1
  refine sv (.slice none 0 0) ?_
  refine sv (.bool false) ?_
  refine nt (h1 _ _ (sk fun K2 h2 => rl ?_)); clear h1 K1
  replace HB := Xhn HB m1; replace bx0 := Xbn bx0 m1; replace HB2 := Xhn HB2 m1
  refine sbp #[.int .i64 0, .nilIface] 89 fun V2 b2 hb2 m2 bx2 => ?_
  have o1_2 := Xlo bx1 hb2
  have og_2 : w.heap.size ≤ b2 := Xhs HB hb2
  replace NB : Hid (∀ g, (rb (.slice sa L.sh.length sc) = some g ∨ rb (.slice qa L.q.length qc) = some g ∨ rb (.slice ta ms.length tc) = some g) → g ≠ hb ∧ g ≠ b1 ∧ g ≠ b2) := hide (fun g h => by have h1 := NB.out g h; have h2 := rows_lt RS.out RQ.out RT.out g h; exact (by omega))
  replace RS := hide (RS.out.mv m2 (fun _ _ h => h))
  replace RQ := hide (RQ.out.mv m2 (fun _ _ h => h))
  replace RT := hide (RT.out.mv m2 (fun _ _ h => h))
  replace GL := hide (GL.out.mv m2 (fun _ _ h => h))
  clear hb2
  refine nt (h2 _ _ (sk fun K3 h3 => sk fun K4 h4 => rl ?_)); clear h2 K2
  refine sv (rfV c p) ?_
  refine sg (.iface 91 (.pointer (some ⟨b2, 0, none⟩))) ?_
  refine sw_call (by rfl) (by first | rfl | (go_simp; done)) (as_hit c p b2 _ _ V2 GL.out.typ bx2.out) ?_
  rintro e V3 ⟨rfl, hmv⟩
  have m3 : Mv (fun g => g = b2) V2 V3 := hmv
  refine ⟨_, rfl, ?_⟩
  refine pt ?_
  replace RS := hide (RS.out.mv m3 (fun g e h => by have h : g = b2 := h; have := NB.out g (.inl e); omega))
  replace RQ := hide (RQ.out.mv m3 (fun g e h => by have h : g = b2 := h; have := NB.out g (.inr (.inl e)); omega))
  replace RT := hide (RT.out.mv m3 (fun g e h => by have h : g = b2 := h; have := NB.out g (.inr (.inr e)); omega))
  replace GL := hide (GL.out.mv m3 (fun g hg h => by have h : g = b2 := h; omega))
  clear hmv bx2
  refine nt (h4 _ _ (ct (sk fun K5 h5 => rl ?_))); clear h4 K4
  refine sv (.agg #[.int .i64 0, .int .i64 0, .slice none 0 0, .int .i64 0, .int .i64 0, .int .i64 0, .slice none 0 0]) ?_
  replace bx1 := Xbb (Xbn bx1 m2) m3
  refine ss7 (.int .i64 0) (.int .i64 0) (.slice none 0 0) (.int .i64 0) (.int .i64 0) (.int .i64 0) (.slice none 0 0) bx1 fun V4 m4 bx1 => ?_
  replace RS := hide (RS.out.mv m4 (fun g e h => by have h : g = b1 := h; have := NB.out g (.inl e); omega))
  replace RQ := hide (RQ.out.mv m4 (fun g e h => by have h : g = b1 := h; have := NB.out g (.inr (.inl e)); omega))
  replace RT := hide (RT.out.mv m4 (fun g e h => by have h : g = b1 := h; have := NB.out g (.inr (.inr e)); omega))
  replace GL := hide (GL.out.mv m4 (fun g hg h => by have h : g = b1 := h; omega))
  refine sv (.slice none 0 0) ?_
  refine sv (.bool false) ?_
  refine nt (h5 _ _ (wp_ret (then_ret ?_))); clear h5 K5; clear h3 K3
  replace HB := Xhb (Xhb (Xhn HB m2) m3) m4; replace bx0 := Xbb (Xbb (Xbn bx0 m2) m3) m4; replace HB2 := Xhb (Xhb (Xhn HB2 m2) m3) m4
  have q1_0 := cell_box 0 bx1.out rfl
  have q1_1 := cell_box 1 bx1.out rfl
  have q1_2 := cell_box 2 bx1.out rfl
  have q1_3 := cell_box 3 bx1.out rfl
  have q1_4 := cell_box 4 bx1.out rfl
  have q1_5 := cell_box 5 bx1.out rfl
  have q1_6 := cell_box 6 bx1.out rfl
  exact bodyPost_ret (v := .tuple #[.agg #[.int .i64 0, .int .i64 0, .slice none 0 0, .int .i64 0, .int .i64 0, .int .i64 0, .slice none 0 0], .slice none 0 0, .bool false]) (by simp [results, Tryz.results32, go_sem, q1_0, q1_1, q1_2, q1_3, q1_4, q1_5, q1_6]) rfl ⟨rfl, HB2.out⟩

end Go.Proofs.YtlalldlbgnlbjaaGreatDoor
