/- FnExactRunPicks: for every test and every row of picks RunPicks answers as its model, writes into no argument, and its answer owns its memory; no condition -/
import Derived.Test.YtcocobmanlmjdaaRows
import Derived.Test.YtcocobmanlmjdaaZc
import Derived.Test.YtcocobmanlmjdaaZa
import Derived.WalkKit
import Derived.ProofKit
import Derived.OpenShut
import Derived.ShutString
import Derived.ChangeOld
import Derived.Below
import Derived.OpenVars
namespace Go.Proofs.Ytcocobmanlmjdaa.fnExactRunPicks
open Go.ChangeShapes Go.WideShapes Go.ChangeAt Go.WideMaps Go.WideElems Go.RowKit
set_option linter.unusedVariables false
set_option linter.unusedSimpArgs false

theorem own : ownKnob Try.prog.godebug = none := by kernel_rfl
theorem laidOut : laidOutB Try.prog = true := by kernel_rfl

def IsRow (k : IntKind) (w : World) (a : Option Addr) (len cap : Nat) (zs : List Int) : Prop :=
  (a = none ∧ len = 0 ∧ cap = 0 ∧ zs = []) ∨
  ∃ x, a = some x ∧ len ≤ cap ∧ cap ≤ maxLen ∧ zs.length = cap ∧ (∀ i, i < zs.length → w.cell? (x.add i) = some (.int k (zs.getD i 0))) ∧ ∀ n ∈ zs, (Lit.int k n).wf = true

theorem row_sl {w : World} {a : Option Addr} {len cap : Nat} {z : List Int} (h : IsRow .i64 w a len cap z) : ∃ zs : List Int, zs.length = len ∧ Sl w (.slice a len cap) zs := by
  rcases h with ⟨rfl, rfl, rfl, rfl⟩ | ⟨x, rfl, hl, hm, hz, hcell, _⟩
  · exact ⟨[], rfl, none, 0, rfl, fun h => absurd h (by simp)⟩
  · obtain ⟨h1, h2⟩ := sl_of_row (len := len) (cap := cap) (by omega) hcell
    exact ⟨_, h1, h2⟩

set_option maxHeartbeats 16000000 in
set_option maxRecDepth 20000 in
theorem walk (v : Value) (N : Nat) (L : Nat → Nat) (F : Nat → Nat → Nat → Int) (a1 : Option Addr) (ln cap1 : Nat) (w : World) (hv : Sa w v N L F) (hN : (N : Int) ≤ 9223372036854775807) (hG : ∀ c, c < N → (L c : Int) ≤ 9223372036854775807) (w1 : ∃ zs : List Int, zs.length = ln ∧ Sl w (.slice a1 ln cap1) zs) :
    Calls Try.prog 4 #[.agg #[v], .slice a1 ln cap1] w fun e w' => e = .returned (.bool true) ∧ Below w.heap.size w w' := by
  obtain ⟨zs, hzl, hsl⟩ := w1
  have hB0 : Below w.heap.size w (w.alloc (.cells #[v] 24)) := (Below.refl _ _).alloc (Nat.le_refl _) _
  have qX : (w.alloc (.cells #[v] 24)).heap[w.heap.size]? = some (.cells #[v] 24 (0, 0)) := heap_alloc_new _ _
  have HV := hide hv
  have HA := hide hsl
  obtain ⟨ad, cap, rfl, _⟩ := hv
  clear hsl
  by_cases hbig : (1048576 : Int) < (ln : Int)
  · have hbd : decide ((1048576 : Int) < (ln : Int)) = true := by simp; omega
    go_enter Try.func4, Try.ntmps4
    go_wp2
    go_ret
    exact ⟨rfl, hB0⟩
  have hln : ln ≤ 1048576 := by omega
  have x0 := (cell_of_row _ _ 0 _ _ _ qX).trans rfl
  have hbd : decide ((1048576 : Int) < (ln : Int)) = false := by simp; omega
  go_enter Try.func4, Try.ntmps4
  go_wp2_with fail
  refine (szLitmus_any _ N L F _ (HV.out.below hB0) hN hG).mono ?_
  rintro e w1 ⟨r, rfl, hp, hb1'⟩
  have hb1 := hB0.trans (hb1'.mono hB0.size)
  have qX1 := heap_b qX hb1'
  clear hb1' hB0 qX x0 hbd hbig
  by_cases hx : r < 0
  · clear hp
    go_wp2
    go_ret
    exact ⟨rfl, hb1⟩
  obtain ⟨⟨hn, hl⟩, _⟩ := hp (by omega)
  clear hp hN hG
  have hto := fun W (h : Sa W (.slice ad N cap) N L F) => toLitmus_w (.slice ad N cap) N L F W h hn hl
  have hti := fun W (h : Sl W (.slice a1 ln cap1) zs) => copy_any (.slice a1 ln cap1) zs W h (by omega)
  have hsp := fun W u u1 (h : Sa W u N L F) (h1 : Sl W u1 zs) => (specRun_any u u1 N L F zs W h h1 hn hl).mono (fun e W' h => rp_all h)
  have him := fun W u u1 (h : Sa W u N L F) (h1 : Sl W u1 zs) => (implRun_any u u1 N L F zs W h h1).mono (fun e W' h => rp_all h)
  have hsm := rD_small N L F zs
  generalize rD N L F zs = d at hsp him hsm
  generalize rC N L F zs = D at hsp him hsm
  generalize rpB N L F zs = K0 at hsp him
  have hmk := fun W base m b r vb vr tag (t : Ta W base m b r d.zs D d.L d.F D d.Z vb vr tag) (hq : ∀ g, W.heap.size ≤ g → tag g = 100000) => markTso_tb (k := 1) t hq (by decide) (by decide) hsm.zs hsm.c hsm.l hsm.c hsm.z
  have hhd := fun W base m b r vb vr tag (t : Ta W base m b r (marks 1 d.zs.length) D d.L (mkF (1 + d.zs.length) d.L d.F D) D (mkZ (sm2 (1 + d.zs.length) d.L D) d.Z D) vb vr tag) => heldTso_ta (k := 1) (n := d.zs.length) t (by decide) (by decide) hsm.zs hsm.c hsm.l hsm.c hsm.z
  have hkk : 0 ≤ mkK 1 d.zs.length D d.L D d.Z := by have := mkK_ge 1 d.zs.length D d.L D d.Z; omega
  generalize mkK 1 d.zs.length D d.L D d.Z = kk at hmk hhd hkk
  generalize mkZ (sm2 (1 + d.zs.length) d.L D) d.Z D = ZM at hmk hhd
  generalize mkF (1 + d.zs.length) d.L d.F D = FM at hmk hhd
  generalize marks 1 d.zs.length = zsM at hmk hhd
  have HTL := hide hsm.tl
  have HZL := hide hzl
  clear hsm hzl
  have x0 := (cell_of_row _ _ 0 _ _ _ qX1).trans rfl
  go_wp2_with fail
  refine (hto _ (HV.out.below hb1)).mono ?_
  rintro e w2 ⟨g2, rfl, oa2, _, _, hb2⟩
  go_wp2_with fail
  refine (hti _ (HA.out.below (hb1.trans (hb2.mono hb1.size)))).mono ?_
  rintro e w3 ⟨u3, rfl, ow3, hb3, _⟩
  go_wp2_with fail
  refine (hsp _ _ _ (oa2.ss.below hb3) (Ow.sl ow3)).mono ?_
  rintro e w4 ⟨m6, b6, r6, vb6, vr6, tag6, rfl, ta6, hb4⟩
  obtain ⟨⟨xm6, ym6, rfl⟩, ⟨xb6, yb6, rfl⟩, ⟨xr6, yr6, rfl⟩⟩ := three_of (Ta.tv ta6)
  have hA6 : Below w4.heap.size w4 (w4.alloc (.cells #[.slice xm6 d.zs.length ym6, .slice xb6 D yb6, .slice xr6 D yr6] 37)) := (Below.refl _ _).alloc (Nat.le_refl _) _
  have q6 : (w4.alloc (.cells #[.slice xm6 d.zs.length ym6, .slice xb6 D yb6, .slice xr6 D yr6] 37)).heap[w4.heap.size]? = some (.cells #[.slice xm6 d.zs.length ym6, .slice xb6 D yb6, .slice xr6 D yr6] 37 (0, 0)) := heap_alloc_new _ _
  have T6 := (Ta.tv ta6).below hA6
  have hb23 := hb2.trans (hb3.mono hb2.size)
  have hb24 := hb23.trans (hb4.mono hb23.size)
  have hQ0 := hb24.trans (hA6.mono hb24.size)
  have hB6 := hb1.trans (hQ0.mono hb1.size)
  have l6 := lt_of_block q6
  have qX6 := heap_b qX1 hQ0
  have V6 := HV.out.below hB6
  have A6 := HA.out.below hB6
  have H6 := hide (And.intro qX6 (And.intro q6 (And.intro V6 (And.intro T6 (And.intro A6 hB6)))))
  clear hQ0 qX1 hb1 q6 T6 A6 hB6 HV HA oa2 ow3 hb2 hb3 hb4 hb23 hb24 hA6 ta6 x0
  have x0 := (cell_of_row _ _ 0 _ _ _ qX6).trans rfl
  go_wp2_with fail
  obtain ⟨W6, hW⟩ : ∃ W6, w4.alloc (.cells #[.slice xm6 d.zs.length ym6, .slice xb6 D yb6, .slice xr6 D yr6] 37) = W6 := ⟨_, rfl⟩
  rw [hW] at qX6 V6 H6 l6 x0 ⊢
  clear hW
  refine (hto _ V6).mono ?_
  rintro e w7 ⟨g8, rfl, oa8, ow8, hg8, hb7⟩
  have hA8 : Below w7.heap.size w7 (w7.alloc (.cells #[.slice (some ⟨g8, 0, none⟩) N N] 29)) := (Below.refl _ _).alloc (Nat.le_refl _) _
  have q8 : (w7.alloc (.cells #[.slice (some ⟨g8, 0, none⟩) N N] 29)).heap[w7.heap.size]? = some (.cells #[.slice (some ⟨g8, 0, none⟩) N N] 29 (0, 0)) := heap_alloc_new _ _
  have hQ8 := hb7.trans (hA8.mono hb7.size)
  have tv8b := oa8.ss.below hA8
  have um8b := ow8.e.below hA8
  have s67 := hb7.size
  have s78 := hA8.size
  clear hb7 hA8 oa8 ow8 x0 qX6 V6
  go_wp2_with fail
  obtain ⟨W8, hW⟩ : ∃ W8, w7.alloc (.cells #[.slice (some ⟨g8, 0, none⟩) N N] 29) = W8 := ⟨_, rfl⟩
  rw [hW] at q8 hQ8 tv8b um8b s78 ⊢
  clear hW
  have l8 := lt_of_block q8
  refine (hti _ (Sl.below H6.out.2.2.2.2.1 hQ8)).mono ?_
  rintro e wx ⟨u1, rfl, or1, hbx, gi, e1⟩
  rw [HZL.out] at e1
  subst e1
  have sx := hbx.size
  have hwc0 := own_wc or1 gi 0 ln ln rfl
  have hgx := World.ownsRow.lt or1 gi rfl
  have wc1 : Wc wx gi ln := by have h2 := hwc0.2; rw [HZL.out] at h2; simpa using h2
  have r1x := Ow.sl or1
  have hQx := hQ8.trans (hbx.mono hQ8.size)
  have tv8x := tv8b.below hbx
  have um8x := um8b.below hbx
  have q8x := heap_b q8 hbx
  clear hbx hQ8 tv8b um8b q8 hwc0 or1
  have c0 := (cell_of_row _ _ 0 _ _ _ q8x).trans rfl
  go_wp2_with fail
  refine (him _ _ _ tv8x r1x).mono ?_
  rintro e v9 ⟨m9, b9, r9, vb9, vr9, tag9o, rfl, ta9, hb9⟩
  obtain ⟨⟨xm9, ym9, rfl⟩, ⟨xb9, yb9, rfl⟩, ⟨xr9, yr9, rfl⟩⟩ := three_of (Ta.tv ta9)
  obtain ⟨tag9, hX9⟩ := Bxd.after ta9 (Nat.le_refl _) hb9
  clear ta9 hb9 c0
  obtain ⟨q9, t9, lo9, off9, hq9, hR, lb9⟩ := hX9
  have hQ9 := hQx.trans (hR.mono hQx.size)
  have tv8c := tv8x.below hR
  have um8c := um8x.below hR
  have q8c := heap_b q8x hR
  have r1c := r1x.below hR
  have wc1c := wc1.below hR
  have l9 := lt_of_block q9
  have s9 := hR.size
  clear hR hQx tv8x um8x q8x r1x wc1
  have hQa := hQ9
  have t9a := t9
  have tv8a := tv8c
  have um8a := um8c
  have q8a := q8c
  have q9a := q9
  have r1a := r1c
  have wc1a := wc1c
  have q6a := heap_b H6.out.2.1 hQ9
  have qXa := heap_b H6.out.1 hQ9
  clear hQ9 t9 tv8c um8c q8c q9 r1c wc1c
  obtain ⟨_, c0, c1, c2⟩ := row3_facts q9a
  obtain ⟨_, f0, f1, f2⟩ := row3_facts q6a
  go_wp2_with fail
  refine (eqTso_same _ _ _ _ _ _ d.zs D d.L d.F D d.Z _ (Ta.tv t9a) (H6.out.2.2.2.1.below hQa) HTL.out).mono ?_
  rintro e w11 ⟨rfl, hbq⟩
  have sq11 := hbq.size
  have hQb := hQa.trans (hbq.mono hQa.size)
  have t9b := t9a.below hbq
  have tv8b := tv8a.below hbq
  have um8b := um8a.below hbq
  have q8b := heap_b q8a hbq
  have q9b := heap_b q9a hbq
  have r1b := r1a.below hbq
  have wc1b := wc1a.below hbq
  have q6b := heap_b q6a hbq
  have qXb := heap_b qXa hbq
  clear hQa t9a tv8a um8a q8a q9a r1a wc1a q6a qXa hbq
  clear c0 c1 c2 f0 f1 f2
  go_wp2
  have z8 := (cell_of_row _ _ 0 _ _ _ q8b).trans rfl
  have zX := (cell_of_row _ _ 0 _ _ _ qXb).trans rfl
  refine wp_region_held_drew (S := fun w' => Below w11.heap.size w11 w') (by kernel_rfl) ((Below.refl _ _).drew) (fun hHeld => ?_)
  refine wpAnyH_take (i := 0) (v := .agg #[.slice (some ⟨g8, 0, none⟩) N N]) rfl (by kernel_rfl) (by kernel_rfl) (by kernel_rfl) (fun _ _ _ h => h) (Or.inl ⟨by rfl, fun w' hSw => ?_⟩) (by assumption) ?_
  · (try dsimp only at hSw); have z0 := keepc hSw z8; have z1 := keepc hSw zX; go_simp
  try simp only [Act.put, List.getElem_toArray, List.getElem_cons_zero, List.getElem_cons_succ, List.setIfInBounds_toArray, List.set_cons_zero, List.set_cons_succ]
  refine wpAnyH_take (i := 1) (v := .agg #[.slice ad N cap]) rfl (by kernel_rfl) (by kernel_rfl) (by kernel_rfl) (fun _ _ _ h => h) (Or.inl ⟨by rfl, fun w' hSw => ?_⟩) (by assumption) ?_
  · (try dsimp only at hSw); have z0 := keepc hSw z8; have z1 := keepc hSw zX; go_simp
  try simp only [Act.put, List.getElem_toArray, List.getElem_cons_zero, List.getElem_cons_succ, List.setIfInBounds_toArray, List.set_cons_zero, List.set_cons_succ]
  refine wpAnyH_ready (rs := [2]) (by kernel_rfl) (by simp) ?_
  refine AllReadyH.cons rfl (fun K hK => ?_) AllReadyH.nil
  go_simp
  refine (hto _ (H6.out.2.2.1.below (hQb.trans (hHeld.mono hQb.size)))).mono ?_
  rintro e w13 ⟨g13, rfl, oa13, _, _, hb13⟩
  refine hK.out _ _ (hHeld.trans (hb13.mono hHeld.size)) (fun hHeld => ?_)
  clear hK K hb13
  try simp only [Act.put, List.getElem_toArray, List.getElem_cons_zero, List.getElem_cons_succ, List.setIfInBounds_toArray, List.set_cons_zero, List.set_cons_succ]
  refine wpAnyH_ready (rs := [3]) (by kernel_rfl) (by simp) ?_
  refine AllReadyH.cons rfl (fun K hK => ?_) AllReadyH.nil
  go_simp
  refine (eqLitmus_same _ _ N L F _ (tv8b.below hHeld) oa13.ss hn hl).mono ?_
  rintro e w14 ⟨rfl, hb14⟩
  refine hK.out _ _ (hHeld.trans (hb14.mono hHeld.size)) (fun hHeld => ?_)
  clear hK K hb14
  try simp only [Act.put, List.getElem_toArray, List.getElem_cons_zero, List.getElem_cons_succ, List.setIfInBounds_toArray, List.set_cons_zero, List.set_cons_succ]
  refine wpAnyH_take (i := 4) (v := .bool false) rfl (by kernel_rfl) (by kernel_rfl) (by kernel_rfl) (fun _ _ _ h => h) (Or.inl ⟨by rfl, fun w' hSw => ?_⟩) (by assumption) ?_
  · (try dsimp only at hSw); skip; go_simp
  try simp only [Act.put, List.getElem_toArray, List.getElem_cons_zero, List.getElem_cons_succ, List.setIfInBounds_toArray, List.set_cons_zero, List.set_cons_succ]
  refine wpAnyH_done (by kernel_rfl) ?_ _
  clear z8 zX oa13
  have hs14 := hHeld
  have sq14 := hs14.size
  have hQd := hQb.trans (hs14.mono hQb.size)
  have t9d := t9b.below hs14
  have tv8d := tv8b.below hs14
  have um8d := um8b.below hs14
  have q8d := heap_b q8b hs14
  have q9d := heap_b q9b hs14
  have r1d := r1b.below hs14
  have wc1d := wc1b.below hs14
  have q6d := heap_b q6b hs14
  have qXd := heap_b qXb hs14
  clear hQb t9b tv8b um8b q8b q9b r1b wc1b q6b qXb hs14
  go_wp2_with fail
  refine (hti _ (Sl.below H6.out.2.2.2.2.1 hQd)).mono ?_
  rintro e w16 ⟨u16, rfl, or16, hb16, _⟩
  have sq16 := hb16.size
  have hQe := hQd.trans (hb16.mono hQd.size)
  have t9e := t9d.below hb16
  have tv8e := tv8d.below hb16
  have um8e := um8d.below hb16
  have q8e := heap_b q8d hb16
  have q9e := heap_b q9d hb16
  have r1e := r1d.below hb16
  have wc1e := wc1d.below hb16
  have q6e := heap_b q6d hb16
  have qXe := heap_b qXd hb16
  clear hQd t9d tv8d um8d q8d q9d r1d wc1d q6d qXd hb16
  go_wp2_with fail
  refine (eq_same _ _ zs _ r1e (Ow.sl or16) (by rw [HZL.out]; exact hln)).mono ?_
  rintro e w17 ⟨rfl, hbq⟩
  have sq12 := hbq.size
  have hQf := hQe.trans (hbq.mono hQe.size)
  have t9f := t9e.below hbq
  have tv8f := tv8e.below hbq
  have um8f := um8e.below hbq
  have q8f := heap_b q8e hbq
  have q9f := heap_b q9e hbq
  have r1f := r1e.below hbq
  have wc1f := wc1e.below hbq
  have q6f := heap_b q6e hbq
  have qXf := heap_b qXe hbq
  clear hQe t9e tv8e um8e q8e q9e r1e wc1e q6e qXe hbq
  clear or16
  have c0 := (cell_of_row _ _ 0 _ _ _ q8f).trans rfl
  go_wp2_with fail
  refine (markLitmus_any g8 N w7.heap.size L _ um8f hn hl).mono ?_
  rintro e w18 ⟨⟨k8, hk8, rfl⟩, hc18⟩
  have hQg := below_chg hQf hc18 (fun j hj => by have := hj.1; omega) hQf.size
  have q9g := (hc18.block _ (lt_of_block q9f) (fun hs => by have := hs.2; omega)).trans q9f
  have t9g := Ta.chg0 t9f hc18 (fun b hb => by have := hb.2; omega)
  have wc1g := hc18.keep _ _ wc1f
  have q6g := heap_b H6.out.2.1 hQg
  have qXg := heap_b H6.out.1 hQg
  have sq18 := hc18.size
  clear hc18 hQf t9f tv8f um8f q8f q9f r1f wc1f q6f qXf c0
  go_wp2_with fail
  refine (markI_any gi ln ln k8 _ hk8.1 hk8.2 wc1g hln).mono ?_
  rintro e w19 ⟨rfl, hc19⟩
  obtain ⟨k9, hk9e⟩ : ∃ k9, k8 + (ln : Int) = k9 := ⟨_, rfl⟩
  rw [hk9e]
  have hk9 : ¬ k9 < 0 := by omega
  clear hk9e
  have hQh := below_chg hQg hc19 (fun j hj => by rw [hj]; omega) hQg.size
  have q9h := (hc19.block _ (lt_of_block q9g) (fun q => by omega)).trans q9g
  have t9h := Ta.chg0 t9g hc19 (fun b hb => by rw [hb]; omega)
  have q6h := heap_b H6.out.2.1 hQh
  have qXh := heap_b H6.out.1 hQh
  have sq19 := hc19.size
  clear hc19 hQg t9g q9g wc1g q6g qXg hk8
  obtain ⟨_, c0, c1, c2⟩ := row3_facts q9h
  obtain ⟨_, f0, f1, f2⟩ := row3_facts q6h
  go_wp2_with fail
  refine (eqTso_same _ _ _ _ _ _ d.zs D d.L d.F D d.Z _ (Ta.tv t9h) (H6.out.2.2.2.1.below hQh) HTL.out).mono ?_
  rintro e w20 ⟨rfl, hbq⟩
  have sq13 := hbq.size
  have hQj := hQh.trans (hbq.mono hQh.size)
  have t9j := t9h.below hbq
  have q9j := heap_b q9h hbq
  have q6j := heap_b q6h hbq
  have qXj := heap_b qXh hbq
  clear hQh t9h q9h q6h qXh hbq
  clear c0 c1 c2 f0 f1 f2
  obtain ⟨_, c0, c1, c2⟩ := row3_facts q9j
  go_wp2_with fail
  refine (hmk _ _ _ _ _ _ _ _ t9j (fun g hg => hq9 g (by omega))).mono ?_
  rintro e w22 ⟨rfl, t9k, hc22⟩
  have hQk := below_chg hQj hc22 (fun j hj => by have := hj.1; omega) hQj.size
  have q9k := (hc22.block _ (lt_of_block q9j) (fun hs => by have h1 := hs.1; have h2 := hs.2; rcases off9 with q | q <;> omega)).trans q9j
  have q6k := heap_b H6.out.2.1 hQk
  have qXk := heap_b H6.out.1 hQk
  clear hc22 hQj t9j q9j q6j qXj hq9 c0 c1 c2
  obtain ⟨_, c0, c1, c2⟩ := row3_facts q9k
  go_wp2_with fail
  refine (hhd _ _ _ _ _ _ _ _ t9k).mono ?_
  rintro e w24 ⟨rfl, hbq⟩
  have sq14 := hbq.size
  have hQm := hQk.trans (hbq.mono hQk.size)
  have t9m := t9k.below hbq
  have q9m := heap_b q9k hbq
  have q6m := heap_b q6k hbq
  have qXm := heap_b qXk hbq
  clear hQk t9k q9k q6k qXk hbq
  clear c0 c1 c2
  have hkn : ¬ kk < 0 := by omega
  have x0 := (cell_of_row _ _ 0 _ _ _ qXm).trans rfl
  go_wp2_with fail
  refine (hto _ (H6.out.2.2.1.below hQm)).mono ?_
  rintro e v4 ⟨g4, rfl, oa4, _, _, hb4⟩
  clear x0
  go_wp2_with fail
  refine (hti _ (Sl.below H6.out.2.2.2.2.1 (hQm.trans (hb4.mono hQm.size)))).mono ?_
  rintro e u4 ⟨uu4, rfl, or4, hbu, _⟩
  go_wp2_with fail
  refine (him _ _ _ (oa4.ss.below hbu) (Ow.sl or4)).mono ?_
  rintro e v5 ⟨m5, b5, r5, vb5, vr5, tag5, rfl, ta5, hb5⟩
  obtain ⟨⟨xm5, ym5, rfl⟩, ⟨xb5, yb5, rfl⟩, ⟨xr5, yr5, rfl⟩⟩ := three_of (Ta.tv ta5)
  have hA5 : Below v5.heap.size v5 (v5.alloc (.cells #[.slice xm5 d.zs.length ym5, .slice xb5 D yb5, .slice xr5 D yr5] 37)) := (Below.refl _ _).alloc (Nat.le_refl _) _
  have q5 : (v5.alloc (.cells #[.slice xm5 d.zs.length ym5, .slice xb5 D yb5, .slice xr5 D yr5] 37)).heap[v5.heap.size]? = some (.cells #[.slice xm5 d.zs.length ym5, .slice xb5 D yb5, .slice xr5 D yr5] 37 (0, 0)) := heap_alloc_new _ _
  have T5 := (Ta.tv ta5).below hA5
  have hb4u := hb4.trans (hbu.mono hb4.size)
  have hb45 := hb4u.trans (hb5.mono hb4u.size)
  have hR := hb45.trans (hA5.mono hb45.size)
  clear oa4 or4 hb4 hb5 hbu hb4u hb45 hA5 ta5
  have hQn := hQm.trans (hR.mono hQm.size)
  have t9n := t9m.below hR
  have q9n := heap_b q9m hR
  have q6n := heap_b q6m hR
  have qXn := heap_b qXm hR
  clear hQm t9m q9m q6m qXm hR
  obtain ⟨_, c0, c1, c2⟩ := row3_facts q5
  obtain ⟨_, f0, f1, f2⟩ := row3_facts q6n
  go_wp2_with fail
  refine (eqTso_same _ _ _ _ _ _ d.zs D d.L d.F D d.Z _ (T5) (H6.out.2.2.2.1.below hQn) HTL.out).mono ?_
  rintro e w26 ⟨rfl, hbq⟩
  have sq15 := hbq.size
  have hQp := hQn.trans (hbq.mono hQn.size)
  have t9p := t9n.below hbq
  have q9p := heap_b q9n hbq
  have q6p := heap_b q6n hbq
  have qXp := heap_b qXn hbq
  clear hQn t9n q9n q6n qXn hbq
  clear c0 c1 c2 f0 f1 f2 T5 q5
  obtain ⟨_, c0, c1, c2⟩ := row3_facts q9p
  go_wp2_with fail
  refine (hhd _ _ _ _ _ _ _ _ t9p).mono ?_
  rintro e w28 ⟨rfl, hbq⟩
  have sq16 := hbq.size
  have hQq := hQp.trans (hbq.mono hQp.size)
  have t9q := t9p.below hbq
  have q9q := heap_b q9p hbq
  have q6q := heap_b q6p hbq
  have qXq := heap_b qXp hbq
  clear hQp t9p q9p q6p qXp hbq
  clear c0 c1 c2
  have hE := H6.out.2.2.2.2.2.trans (hQq.mono H6.out.2.2.2.2.2.size)
  clear hQq t9q q9q q6q qXq
  go_wp2
  go_ret
  exact ⟨rfl, hE⟩

set_option maxRecDepth 100000 in
theorem lifted (os : Os) (started : os.Started) (H : Type) (enc : TypeId × Value → H) :
    ReturnsInHanded {} Try.checked os 4 .any (Rows.fnExactRunPicksSpec.pre6 enc Try.prog Try.f4 Rows.fnExactRunPicksRow.domain false) (Rows.fnExactRunPicksSpec.post enc Try.prog Try.f4 false true false false) := by
  refine returnsInHanded_of_change (C := Try.checked) own started (by kernel_rfl) Try.func4
    (ChangeSpec.witness6 (enc := enc) (C := Try.checked) false ⟨#[], #[.agg #[.slice none 0 0], .slice none 0 0], []⟩ 8 (by kernel_rfl) (by kernel_rfl) (by kernel_rfl) (by kernel_rfl)) ?_
  intro W base args ds gs before hval0 hW hcnd _
  have hval : ∀ (j : Nat) t v, Try.f4.params[j]? = some t → args[j]? = some v → Value.okWide Try.prog W .any base t v := hval0
  have hW' := hW
  obtain ⟨p, q, hA0, hV, rfl, hfz, hnd⟩ := hW
  have hA : DataW.TrodAll enc Try.prog W 0 (fun _ => true) true Try.f4.params.toList args.toList ds p := hA0
  rw [Try.params4] at hA hval
  obtain ⟨v0, vs0, d0, ds0, p0, q0, hargs, rfl, rfl, h0, r0⟩ := trodAll_cons hA
  obtain ⟨v1, vs1, d1, ds1, p1, q1, rfl, rfl, rfl, h1, r1⟩ := trodAll_cons r0
  obtain ⟨rfl, rfl, rfl⟩ := trodAll_nil r1
  obtain rfl : args = #[v0, v1] := by cases args; simp_all
  obtain ⟨rfl, rfl⟩ := trodVars_none hV
  have k0 := h0
  have lt0 : ∀ x ∈ p0, x.block < W.heap.size := by obtain ⟨m, hm⟩ := k0; exact DataW.trod_lt m _ _ _ hm
  obtain ⟨u0, n0, L0, F0, rfl, hc0, hn0, hl0⟩ := open_litmus (hval 0 24 v0 rfl rfl) h0
  obtain ⟨a1, len1, cap1, rfl⟩ := okWide_slice Try.underlying33 (hval 1 33 v1 rfl rfl)
  have k1 := h1
  have lt1 : ∀ x ∈ p1, x.block < W.heap.size := by obtain ⟨m, hm⟩ := k1; exact DataW.trod_lt m _ _ _ hm
  obtain ⟨z1, w1⟩ : ∃ zs, IsRow .i64 W a1 len1 cap1 zs := by
    obtain ⟨fuel, hf⟩ := h1
    rcases open_ints Try.underlying33 Try.underlying2 (by kernel_rfl) hf with ⟨hcs, _⟩ | ⟨x, l, c, zs, hcs, _, hl, hm, hz, _, hcell, hwz⟩
    · simp [Value.cells] at hcs
      obtain ⟨rfl, rfl, rfl⟩ := hcs
      exact ⟨[], .inl ⟨rfl, rfl, rfl, rfl⟩⟩
    · simp [Value.cells] at hcs
      obtain ⟨rfl, rfl, rfl⟩ := hcs
      exact ⟨zs, .inr ⟨_, rfl, hl, hm, by simpa using hz, hcell, hwz⟩⟩
  clear hA0 hval0
  refine (walk u0 n0 L0 F0 a1 len1 cap1 W hc0 (by unfold maxLen at hn0; omega) (fun c hc => by have := hl0 c hc; unfold maxLen at this; omega) (row_sl w1)).mono fun e W' ⟨he, bel⟩ => ?_
  subst he
  exact ⟨_, rfl, _, _, _, [], _, [], hW', trodAll_mk1 (shut_bool Try.underlying4 _), (trodAll_cons_mk (Below.trod laidOut (by kernel_rfl) (of_decide_eq_true (by kernel_rfl)) k0 bel lt0) (trodAll_cons_mk (Below.trod laidOut (by kernel_rfl) (of_decide_eq_true (by kernel_rfl)) k1 bel lt1) trodAll_mk0)), rfl, bel.frame _, fun h => by cases h⟩

theorem over : Rows.fnExactRunPicksRow.holds Try.pinned (OpenSpec.ofChange Rows.fnExactRunPicksSpec) :=
  OpenClaim.holds_of_wide 4 Try.f4 rfl rfl rfl rfl rfl rfl rfl ⟨rfl, rfl, rfl, rfl, rfl⟩ rfl rfl rfl rfl rfl (by kernel_rfl) Try.func4 (by kernel_rfl)
    (of_decide_eq_true (by kernel_rfl)) (by unfold Func.isWrapper; first | (rw [if_pos (by decide +kernel)]; kernel_rfl) | (rw [if_neg (by decide +kernel)]; exact ⟨rfl, rfl⟩))
    (fun os started H enc _ => lifted os started H enc)

theorem proved : Rows.FnExactRunPicksSaid := over
end Go.Proofs.Ytcocobmanlmjdaa.fnExactRunPicks

namespace Go.Proofs.Ytcocobmanlmjdaa
theorem fnExactRunPicks_holds : Rows.FnExactRunPicksSaid := fnExactRunPicks.proved
end Go.Proofs.Ytcocobmanlmjdaa
