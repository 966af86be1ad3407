/- (impl.Tso).do (written by mkTkJ.py) -/
import Derived.Test.YtcocobmanlmjdaaTkI
namespace Go.Proofs.Ytcocobmanlmjdaa
open Go.RowKit
set_option linter.unusedVariables false
set_option linter.unusedSimpArgs false

/-- what a Tso reads as -/
structure Td where
  zs : List Int
  L : Nat → Nat
  F : Nat → Nat → Nat → Int
  Z : Nat → List Int
def okc (d : Td) (C : Nat) (k co va vl rg : Int) : Int :=
  if fmB C k co va vl rg = false then 2 else if k = 1 then (if 4 ≤ d.L co.toNat then 3 else 0) else if k = 2 then 0 else if k = 3 then (if 0 < d.L co.toNat then 4 else 0) else (if d.L co.toNat = 0 then 5 else 0)
def nxt (d : Td) (C : Nat) (k co va vl rg : Int) : Td :=
  if okc d C k co va vl rg ≠ 0 then d
  else if k = 1 then ⟨d.zs, upd d.L co.toNat (d.L co.toNat + 1), upd d.F co.toNat (snocF (d.F co.toNat) (d.L co.toNat) va vl), d.Z⟩
  else if k = 2 then ⟨d.zs, d.L, d.F, upd d.Z co.toNat ((d.Z co.toNat).set rg.toNat (sn d.zs (d.F co.toNat) va.toNat (d.L co.toNat)))⟩
  else if k = 3 then d
  else ⟨d.zs.set (d.F co.toNat 0 0).toNat (d.F co.toNat 0 1), upd d.L co.toNat (d.L co.toNat - 1), upd d.F co.toNat (fun j => d.F co.toNat (j + 1)), d.Z⟩
abbrev TaD (w : World) (base : Nat) (mv bv rv : Value) (d : Td) (C : Nat) (vb vr : Nat → Value) (tag : Nat → Nat) : Prop := Ta w base mv bv rv d.zs C d.L d.F C d.Z vb vr tag
abbrev tokD (d : Td) (C : Nat) : Bool := tokB d.zs C d.L d.F C d.Z

theorem ok_form {d : Td} {C : Nat} {k co va vl rg : Int} (h : fmB C k co va vl rg = false) : okc d C k co va vl rg = 2 ∧ nxt d C k co va vl rg = d := by
  have e : okc d C k co va vl rg = 2 := by unfold okc; rw [if_pos h]
  exact ⟨e, by unfold nxt; rw [if_pos (by rw [e]; decide)]⟩
theorem fm_core {C k co va vl rg : Int} (h : fmB C k co va vl rg = true) : 0 ≤ co ∧ co < C := by
  unfold fmB at h
  simp only [Bool.and_eq_true] at h
  simpa [inB] using h.1
theorem ok1 {d : Td} {C : Nat} {co va vl rg : Int} (h : fmB C 1 co va vl rg = true) : (4 ≤ d.L co.toNat → okc d C 1 co va vl rg = 3 ∧ nxt d C 1 co va vl rg = d) ∧ (¬ 4 ≤ d.L co.toNat → okc d C 1 co va vl rg = 0 ∧ nxt d C 1 co va vl rg = ⟨d.zs, upd d.L co.toNat (d.L co.toNat + 1), upd d.F co.toNat (snocF (d.F co.toNat) (d.L co.toNat) va vl), d.Z⟩) := by
  refine ⟨fun h4 => ?_, fun h4 => ?_⟩
  · have e : okc d C 1 co va vl rg = 3 := by unfold okc; rw [if_neg (by rw [h]; decide), if_pos rfl, if_pos h4]
    exact ⟨e, by unfold nxt; rw [if_pos (by rw [e]; decide)]⟩
  · have e : okc d C 1 co va vl rg = 0 := by unfold okc; rw [if_neg (by rw [h]; decide), if_pos rfl, if_neg h4]
    exact ⟨e, by unfold nxt; rw [if_neg (by rw [e]; decide), if_pos rfl]⟩
theorem ok2 {d : Td} {C : Nat} {co va vl rg : Int} (h : fmB C 2 co va vl rg = true) : (okc d C 2 co va vl rg = 0 ∧ nxt d C 2 co va vl rg = ⟨d.zs, d.L, d.F, upd d.Z co.toNat ((d.Z co.toNat).set rg.toNat (sn d.zs (d.F co.toNat) va.toNat (d.L co.toNat)))⟩) ∧ (0 ≤ va ∧ va < 3) ∧ 0 ≤ rg ∧ rg < 2 := by
  have e : okc d C 2 co va vl rg = 0 := by unfold okc; rw [if_neg (by rw [h]; decide), if_neg (by decide), if_pos rfl]
  refine ⟨⟨e, by unfold nxt; rw [if_neg (by rw [e]; decide), if_neg (by decide), if_pos rfl]⟩, ?_⟩
  unfold fmB at h
  rw [if_neg (by decide), if_pos rfl] at h
  simp only [Bool.and_eq_true, inB, decide_eq_true_eq] at h
  omega
theorem ok3 {d : Td} {C : Nat} {co va vl rg : Int} (h : fmB C 3 co va vl rg = true) : okc d C 3 co va vl rg = (if 0 < d.L co.toNat then 4 else 0) ∧ nxt d C 3 co va vl rg = d := by
  have e : okc d C 3 co va vl rg = (if 0 < d.L co.toNat then 4 else 0) := by unfold okc; rw [if_neg (by rw [h]; decide), if_neg (by decide), if_neg (by decide), if_pos rfl]
  refine ⟨e, ?_⟩
  unfold nxt
  split
  · rfl
  · rw [if_neg (by decide), if_neg (by decide), if_pos rfl]
theorem ok4 {d : Td} {C : Nat} {co va vl rg : Int} (h : fmB C 4 co va vl rg = true) : (d.L co.toNat = 0 → okc d C 4 co va vl rg = 5 ∧ nxt d C 4 co va vl rg = d) ∧ (0 < d.L co.toNat → okc d C 4 co va vl rg = 0 ∧ nxt d C 4 co va vl rg = ⟨d.zs.set (d.F co.toNat 0 0).toNat (d.F co.toNat 0 1), upd d.L co.toNat (d.L co.toNat - 1), upd d.F co.toNat (fun j => d.F co.toNat (j + 1)), d.Z⟩) := by
  refine ⟨fun h4 => ?_, fun h4 => ?_⟩
  · have e : okc d C 4 co va vl rg = 5 := by unfold okc; rw [if_neg (by rw [h]; decide), if_neg (by decide), if_neg (by decide), if_neg (by decide), if_pos h4]
    exact ⟨e, by unfold nxt; rw [if_pos (by rw [e]; decide)]⟩
  · have e : okc d C 4 co va vl rg = 0 := by unfold okc; rw [if_neg (by rw [h]; decide), if_neg (by decide), if_neg (by decide), if_neg (by decide), if_neg (by omega)]
    exact ⟨e, by unfold nxt; rw [if_neg (by rw [e]; decide), if_neg (by decide), if_neg (by decide), if_neg (by decide)]⟩

set_option maxHeartbeats 8000000 in
set_option maxRecDepth 20000 in
theorem do_any (mv bv rv : Value) (d : Td) (C : Nat) (vb vr : Nat → Value) (tag : Nat → Nat) (base : Nat) (k co va vl rg : Int) (w : World) (h : Tc w base mv bv rv d.zs C d.L d.F C d.Z vb vr tag) (hok : tokD d C = true) (hb : base ≤ w.heap.size) :
    Calls Try.prog 79 #[.agg #[mv, bv, rv], .agg (five k co va vl rg)] w fun e w' => e = .returned (.int .i64 (okc d C k co va vl rg)) ∧ (∃ vb' tag', TaD w' base mv bv rv (nxt d C k co va vl rg) C vb' vr tag') ∧ Below base w w' ∧ Kp tag w w' := by
  obtain ⟨hC, _, hz3, hzr, hpa⟩ := tok_parts hok
  have HZ3 := hide hz3
  have HPA := hide hpa
  clear hz3 hpa hzr
  have hT := h.ta.tv
  obtain ⟨⟨ma, mc, rfl, _⟩, ⟨ba, bc, rfl, _⟩, ⟨ra, rc, rfl, _⟩⟩ := hT
  have HH := hide h
  have hbA : Below w.heap.size w ((w.alloc (.cells #[.slice ma d.zs.length mc, .slice ba C bc, .slice ra C rc] 37)).alloc (.cells (five k co va vl rg) 51)) := ((Below.refl _ _).alloc (Nat.le_refl _) _).alloc (by simp) _
  have hA1 : ((w.alloc (.cells #[.slice ma d.zs.length mc, .slice ba C bc, .slice ra C rc] 37)).alloc (.cells (five k co va vl rg) 51)).heap[w.heap.size]? = some (.cells #[.slice ma d.zs.length mc, .slice ba C bc, .slice ra C rc] 37 (0, 0)) := by rw [Below.heap_alloc _ _ _ (by simp)]; exact heap_alloc_new _ _
  have hA2 : ((w.alloc (.cells #[.slice ma d.zs.length mc, .slice ba C bc, .slice ra C rc] 37)).alloc (.cells (five k co va vl rg) 51)).heap[w.heap.size + 1]? = some (.cells (five k co va vl rg) 51 (0, 0)) := by
    have := heap_alloc_new (w.alloc (.cells #[.slice ma d.zs.length mc, .slice ba C bc, .slice ra C rc] 37)) (.cells (five k co va vl rg) 51)
    simpa only [World.size_alloc] using this
  have hco := fun W => cores_any (.slice none 0 0) ba C bc ra C rc ma d.zs.length mc W
  clear h
  by_cases e1 : k = 1
  · subst e1
    have hfo := fun W => formOk_any true true false true (fnV 64) 1 co va vl rg C W (notNil _) (notNilG _)
    rw [fm1 (C : Int) co va vl rg] at hfo
    go_enter Try.func79, Try.ntmps79
    go_wp2_with fail
    refine (kind1 _).mono ?_
    rintro e w1 ⟨rfl, hb1⟩
    have hA3 : Below w1.heap.size w1 (w1.alloc (.cells (kd true true false (fnV 64)) 84)) := (Below.refl _ _).alloc (Nat.le_refl _) _
    have hb3 := hb1.trans (hA3.mono hb1.size)
    have g1 := heap_b hA1 hb3
    have g2 := heap_b hA2 hb3
    have g3 : (w1.alloc (.cells (kd true true false (fnV 64)) 84)).heap[w1.heap.size]? = some (.cells (kd true true false (fnV 64)) 84 (0, 0)) := heap_alloc_new _ _
    have hB3 := hbA.trans (hb3.mono hbA.size)
    clear hb1 hA3 hb3 hA1 hA2 hbA
    have x0 := (cell_of_row _ _ 0 _ _ _ g1).trans rfl
    have x1 := (cell_of_row _ _ 1 _ _ _ g1).trans rfl
    have x2 := (cell_of_row _ _ 2 _ _ _ g1).trans rfl
    have y0 := (cell_of_row _ _ 0 _ _ _ g2).trans rfl
    have y1 := (cell_of_row _ _ 1 _ _ _ g2).trans rfl
    have y2 := (cell_of_row _ _ 2 _ _ _ g2).trans rfl
    have y3 := (cell_of_row _ _ 3 _ _ _ g2).trans rfl
    have y4 := (cell_of_row _ _ 4 _ _ _ g2).trans rfl
    have v0 := (cell_of_row _ _ 0 _ _ _ g3).trans rfl
    have v1 := (cell_of_row _ _ 1 _ _ _ g3).trans rfl
    have v2 := (cell_of_row _ _ 2 _ _ _ g3).trans rfl
    have v3 := (cell_of_row _ _ 3 _ _ _ g3).trans rfl
    clear g1 g2 g3
    cases hf : fmB (C : Int) 1 co va vl rg
    · go_wp2
      refine wp_region_held_drew (S := fun w' => Below (w1.alloc (.cells (kd true true false (fnV 64)) 84)).heap.size (w1.alloc (.cells (kd true true false (fnV 64)) 84)) w') (by kernel_rfl) ((Below.refl _ _).drew) (fun hHeld => ?_)
      refine wpAnyH_take (i := 0) (v := .agg (kd true true false (fnV 64))) rfl (by kernel_rfl) (by kernel_rfl) (by kernel_rfl) (fun _ _ _ h => h) (Or.inl ⟨by rfl, fun w' hSw => ?_⟩) (by assumption) ?_
      · (try dsimp only at hSw); have z0 := keepc hSw x0; have z1 := keepc hSw x1; have z2 := keepc hSw x2; have z3 := keepc hSw y0; have z4 := keepc hSw y1; have z5 := keepc hSw y2; have z6 := keepc hSw y3; have z7 := keepc hSw y4; have z8 := keepc hSw v0; have z9 := keepc hSw v1; have z10 := keepc hSw v2; have z11 := keepc hSw v3; go_simp
      try simp only [Act.put, List.getElem_toArray, List.getElem_cons_zero, List.getElem_cons_succ, List.setIfInBounds_toArray, List.set_cons_zero, List.set_cons_succ]
      refine wpAnyH_take (i := 1) (v := .agg (five 1 co va vl rg)) rfl (by kernel_rfl) (by kernel_rfl) (by kernel_rfl) (fun _ _ _ h => h) (Or.inl ⟨by rfl, fun w' hSw => ?_⟩) (by assumption) ?_
      · (try dsimp only at hSw); have z0 := keepc hSw x0; have z1 := keepc hSw x1; have z2 := keepc hSw x2; have z3 := keepc hSw y0; have z4 := keepc hSw y1; have z5 := keepc hSw y2; have z6 := keepc hSw y3; have z7 := keepc hSw y4; have z8 := keepc hSw v0; have z9 := keepc hSw v1; have z10 := keepc hSw v2; have z11 := keepc hSw v3; go_simp
      try simp only [Act.put, List.getElem_toArray, List.getElem_cons_zero, List.getElem_cons_succ, List.setIfInBounds_toArray, List.set_cons_zero, List.set_cons_succ]
      refine wpAnyH_take (i := 2) (v := .agg #[.slice ma d.zs.length mc, .slice ba C bc, .slice ra C rc]) rfl (by kernel_rfl) (by kernel_rfl) (by kernel_rfl) (fun _ _ _ h => h) (Or.inl ⟨by rfl, fun w' hSw => ?_⟩) (by assumption) ?_
      · (try dsimp only at hSw); have z0 := keepc hSw x0; have z1 := keepc hSw x1; have z2 := keepc hSw x2; have z3 := keepc hSw y0; have z4 := keepc hSw y1; have z5 := keepc hSw y2; have z6 := keepc hSw y3; have z7 := keepc hSw y4; have z8 := keepc hSw v0; have z9 := keepc hSw v1; have z10 := keepc hSw v2; have z11 := keepc hSw v3; go_simp
      try simp only [Act.put, List.getElem_toArray, List.getElem_cons_zero, List.getElem_cons_succ, List.setIfInBounds_toArray, List.set_cons_zero, List.set_cons_succ]
      refine wpAnyH_ready (rs := [3]) (by kernel_rfl) (by simp) ?_
      refine AllReadyH.cons rfl (fun K hK => ?_) AllReadyH.nil
      go_simp
      refine (hco _).mono ?_
      rintro e wc3 ⟨rfl, hbc⟩
      refine hK.out _ _ (hHeld.trans (hbc.mono hHeld.size)) (fun hHeld => ?_)
      clear hK K hbc
      try simp only [Act.put, List.getElem_toArray, List.getElem_cons_zero, List.getElem_cons_succ, List.setIfInBounds_toArray, List.set_cons_zero, List.set_cons_succ]
      refine wpAnyH_ready (rs := [4]) (by kernel_rfl) (by simp) ?_
      refine AllReadyH.cons rfl (fun K hK => ?_) AllReadyH.nil
      go_simp
      refine (hfo _).mono ?_
      rintro e wc4 ⟨rfl, hbc⟩
      rw [hf]
      refine hK.out _ _ (hHeld.trans (hbc.mono hHeld.size)) (fun hHeld => ?_)
      clear hK K hbc
      try simp only [Act.put, List.getElem_toArray, List.getElem_cons_zero, List.getElem_cons_succ, List.setIfInBounds_toArray, List.set_cons_zero, List.set_cons_succ]
      refine wpAnyH_take (i := 5) (v := .bool true) rfl (by kernel_rfl) (by kernel_rfl) (by kernel_rfl) (fun _ _ _ h => h) (Or.inl ⟨by rfl, fun w' hSw => ?_⟩) (by assumption) ?_
      · (try dsimp only at hSw); have z0 := keepc hSw x0; have z1 := keepc hSw x1; have z2 := keepc hSw x2; have z3 := keepc hSw y0; have z4 := keepc hSw y1; have z5 := keepc hSw y2; have z6 := keepc hSw y3; have z7 := keepc hSw y4; have z8 := keepc hSw v0; have z9 := keepc hSw v1; have z10 := keepc hSw v2; have z11 := keepc hSw v3; go_simp
      try simp only [Act.put, List.getElem_toArray, List.getElem_cons_zero, List.getElem_cons_succ, List.setIfInBounds_toArray, List.set_cons_zero, List.set_cons_succ]
      refine wpAnyH_done (by kernel_rfl) ?_ _
      have hB4 := hB3.trans (hHeld.mono hB3.size)
      replace x0 := keepc hHeld x0
      replace x1 := keepc hHeld x1
      replace x2 := keepc hHeld x2
      replace y0 := keepc hHeld y0
      replace y1 := keepc hHeld y1
      replace y2 := keepc hHeld y2
      replace y3 := keepc hHeld y3
      replace y4 := keepc hHeld y4
      replace v0 := keepc hHeld v0
      replace v1 := keepc hHeld v1
      replace v2 := keepc hHeld v2
      replace v3 := keepc hHeld v3
      clear hHeld hB3 hco hfo
      have HF := hide (And.intro (HH.out.ta.below hB4) (And.intro (hB4.mono hb) (Kp.below (tag := tag) hB4)))
      have HZ := hide (ok_form (d := d) hf)
      clear x0 x1 x2 y0 y1 y2 y3 y4 v0 v1 v2 v3 hB4
      go_wp2
      go_ret
      exact ⟨ret_i HZ.out.1.symm, by rw [HZ.out.2]; exact ⟨_, _, HF.out.1⟩, HF.out.2.1, HF.out.2.2⟩
    · go_wp2
      refine wp_region_held_drew (S := fun w' => Below (w1.alloc (.cells (kd true true false (fnV 64)) 84)).heap.size (w1.alloc (.cells (kd true true false (fnV 64)) 84)) w') (by kernel_rfl) ((Below.refl _ _).drew) (fun hHeld => ?_)
      refine wpAnyH_take (i := 0) (v := .agg (kd true true false (fnV 64))) rfl (by kernel_rfl) (by kernel_rfl) (by kernel_rfl) (fun _ _ _ h => h) (Or.inl ⟨by rfl, fun w' hSw => ?_⟩) (by assumption) ?_
      · (try dsimp only at hSw); have z0 := keepc hSw x0; have z1 := keepc hSw x1; have z2 := keepc hSw x2; have z3 := keepc hSw y0; have z4 := keepc hSw y1; have z5 := keepc hSw y2; have z6 := keepc hSw y3; have z7 := keepc hSw y4; have z8 := keepc hSw v0; have z9 := keepc hSw v1; have z10 := keepc hSw v2; have z11 := keepc hSw v3; go_simp
      try simp only [Act.put, List.getElem_toArray, List.getElem_cons_zero, List.getElem_cons_succ, List.setIfInBounds_toArray, List.set_cons_zero, List.set_cons_succ]
      refine wpAnyH_take (i := 1) (v := .agg (five 1 co va vl rg)) rfl (by kernel_rfl) (by kernel_rfl) (by kernel_rfl) (fun _ _ _ h => h) (Or.inl ⟨by rfl, fun w' hSw => ?_⟩) (by assumption) ?_
      · (try dsimp only at hSw); have z0 := keepc hSw x0; have z1 := keepc hSw x1; have z2 := keepc hSw x2; have z3 := keepc hSw y0; have z4 := keepc hSw y1; have z5 := keepc hSw y2; have z6 := keepc hSw y3; have z7 := keepc hSw y4; have z8 := keepc hSw v0; have z9 := keepc hSw v1; have z10 := keepc hSw v2; have z11 := keepc hSw v3; go_simp
      try simp only [Act.put, List.getElem_toArray, List.getElem_cons_zero, List.getElem_cons_succ, List.setIfInBounds_toArray, List.set_cons_zero, List.set_cons_succ]
      refine wpAnyH_take (i := 2) (v := .agg #[.slice ma d.zs.length mc, .slice ba C bc, .slice ra C rc]) rfl (by kernel_rfl) (by kernel_rfl) (by kernel_rfl) (fun _ _ _ h => h) (Or.inl ⟨by rfl, fun w' hSw => ?_⟩) (by assumption) ?_
      · (try dsimp only at hSw); have z0 := keepc hSw x0; have z1 := keepc hSw x1; have z2 := keepc hSw x2; have z3 := keepc hSw y0; have z4 := keepc hSw y1; have z5 := keepc hSw y2; have z6 := keepc hSw y3; have z7 := keepc hSw y4; have z8 := keepc hSw v0; have z9 := keepc hSw v1; have z10 := keepc hSw v2; have z11 := keepc hSw v3; go_simp
      try simp only [Act.put, List.getElem_toArray, List.getElem_cons_zero, List.getElem_cons_succ, List.setIfInBounds_toArray, List.set_cons_zero, List.set_cons_succ]
      refine wpAnyH_ready (rs := [3]) (by kernel_rfl) (by simp) ?_
      refine AllReadyH.cons rfl (fun K hK => ?_) AllReadyH.nil
      go_simp
      refine (hco _).mono ?_
      rintro e wc3 ⟨rfl, hbc⟩
      refine hK.out _ _ (hHeld.trans (hbc.mono hHeld.size)) (fun hHeld => ?_)
      clear hK K hbc
      try simp only [Act.put, List.getElem_toArray, List.getElem_cons_zero, List.getElem_cons_succ, List.setIfInBounds_toArray, List.set_cons_zero, List.set_cons_succ]
      refine wpAnyH_ready (rs := [4]) (by kernel_rfl) (by simp) ?_
      refine AllReadyH.cons rfl (fun K hK => ?_) AllReadyH.nil
      go_simp
      refine (hfo _).mono ?_
      rintro e wc4 ⟨rfl, hbc⟩
      rw [hf]
      refine hK.out _ _ (hHeld.trans (hbc.mono hHeld.size)) (fun hHeld => ?_)
      clear hK K hbc
      try simp only [Act.put, List.getElem_toArray, List.getElem_cons_zero, List.getElem_cons_succ, List.setIfInBounds_toArray, List.set_cons_zero, List.set_cons_succ]
      refine wpAnyH_take (i := 5) (v := .bool false) rfl (by kernel_rfl) (by kernel_rfl) (by kernel_rfl) (fun _ _ _ h => h) (Or.inl ⟨by rfl, fun w' hSw => ?_⟩) (by assumption) ?_
      · (try dsimp only at hSw); have z0 := keepc hSw x0; have z1 := keepc hSw x1; have z2 := keepc hSw x2; have z3 := keepc hSw y0; have z4 := keepc hSw y1; have z5 := keepc hSw y2; have z6 := keepc hSw y3; have z7 := keepc hSw y4; have z8 := keepc hSw v0; have z9 := keepc hSw v1; have z10 := keepc hSw v2; have z11 := keepc hSw v3; go_simp
      try simp only [Act.put, List.getElem_toArray, List.getElem_cons_zero, List.getElem_cons_succ, List.setIfInBounds_toArray, List.set_cons_zero, List.set_cons_succ]
      refine wpAnyH_done (by kernel_rfl) ?_ _
      have hB4 := hB3.trans (hHeld.mono hB3.size)
      replace x0 := keepc hHeld x0
      replace x1 := keepc hHeld x1
      replace x2 := keepc hHeld x2
      replace y0 := keepc hHeld y0
      replace y1 := keepc hHeld y1
      replace y2 := keepc hHeld y2
      replace y3 := keepc hHeld y3
      replace y4 := keepc hHeld y4
      replace v0 := keepc hHeld v0
      replace v1 := keepc hHeld v1
      replace v2 := keepc hHeld v2
      replace v3 := keepc hHeld v3
      clear hHeld hB3 hco hfo
      obtain ⟨p1, p2⟩ := fm_core hf
      obtain ⟨c, rfl⟩ : ∃ c : Nat, co = c := ⟨co.toNat, by omega⟩
      have hcl : c < C := by omega
      have HPC := hide (HPA.out c hcl)
      have hTc := HH.out.below hB4
      obtain ⟨o1, o2⟩ := ok1 (d := d) hf
      simp only [Int.toNat_natCast] at o1 o2
      go_wp2_with fail
      refine (storeWaits_any (.slice ma d.zs.length mc) (.slice ba C bc) (.slice ra C rc) d.zs C d.L d.F C d.Z vb vr tag base c 1 va vl rg _ hTc hcl (by omega) (by have := HPC.out.1; omega) (by have := hB4.size; omega)).mono ?_
      rintro e w5 (⟨h4, rfl, hb5⟩ | ⟨h4, rfl, ⟨u, tag2, ta5⟩, hb5, hk5⟩)
      · have HZ := hide (o1 h4)
        have HF := hide (And.intro (hTc.ta.below hb5) (And.intro ((hB4.trans (hb5.mono hB4.size)).mono hb) (Kp.below (tag := tag) (hB4.trans (hb5.mono hB4.size)))))
        clear x0 x1 x2 y0 y1 y2 y3 y4 v0 v1 v2 v3 hB4 hb5 hTc o1 o2
        go_wp2
        go_ret
        exact ⟨ret_i HZ.out.1.symm, by rw [HZ.out.2]; exact ⟨_, _, HF.out.1⟩, HF.out.2.1, HF.out.2.2⟩
      · have HZ := hide (o2 h4)
        have HF := hide (And.intro ta5 (And.intro ((hB4.mono hb).trans hb5) ((Kp.below (tag := tag) hB4).trans hB4.size hk5)))
        clear x0 x1 x2 y0 y1 y2 y3 y4 v0 v1 v2 v3 hB4 hb5 hk5 hTc ta5 o1 o2
        go_wp2
        go_ret
        exact ⟨ret_i HZ.out.1.symm, by rw [HZ.out.2]; exact ⟨_, _, HF.out.1⟩, HF.out.2.1, HF.out.2.2⟩
  by_cases e2 : k = 2
  · subst e2
    have hfo := fun W => formOk_any true false true true (fnV 65) 2 co va vl rg C W (notNil _) (notNilG _)
    rw [fm2 (C : Int) co va vl rg] at hfo
    go_enter Try.func79, Try.ntmps79
    go_wp2_with fail
    refine (kind2 _).mono ?_
    rintro e w1 ⟨rfl, hb1⟩
    have hA3 : Below w1.heap.size w1 (w1.alloc (.cells (kd true false true (fnV 65)) 84)) := (Below.refl _ _).alloc (Nat.le_refl _) _
    have hb3 := hb1.trans (hA3.mono hb1.size)
    have g1 := heap_b hA1 hb3
    have g2 := heap_b hA2 hb3
    have g3 : (w1.alloc (.cells (kd true false true (fnV 65)) 84)).heap[w1.heap.size]? = some (.cells (kd true false true (fnV 65)) 84 (0, 0)) := heap_alloc_new _ _
    have hB3 := hbA.trans (hb3.mono hbA.size)
    clear hb1 hA3 hb3 hA1 hA2 hbA
    have x0 := (cell_of_row _ _ 0 _ _ _ g1).trans rfl
    have x1 := (cell_of_row _ _ 1 _ _ _ g1).trans rfl
    have x2 := (cell_of_row _ _ 2 _ _ _ g1).trans rfl
    have y0 := (cell_of_row _ _ 0 _ _ _ g2).trans rfl
    have y1 := (cell_of_row _ _ 1 _ _ _ g2).trans rfl
    have y2 := (cell_of_row _ _ 2 _ _ _ g2).trans rfl
    have y3 := (cell_of_row _ _ 3 _ _ _ g2).trans rfl
    have y4 := (cell_of_row _ _ 4 _ _ _ g2).trans rfl
    have v0 := (cell_of_row _ _ 0 _ _ _ g3).trans rfl
    have v1 := (cell_of_row _ _ 1 _ _ _ g3).trans rfl
    have v2 := (cell_of_row _ _ 2 _ _ _ g3).trans rfl
    have v3 := (cell_of_row _ _ 3 _ _ _ g3).trans rfl
    clear g1 g2 g3
    cases hf : fmB (C : Int) 2 co va vl rg
    · go_wp2
      refine wp_region_held_drew (S := fun w' => Below (w1.alloc (.cells (kd true false true (fnV 65)) 84)).heap.size (w1.alloc (.cells (kd true false true (fnV 65)) 84)) w') (by kernel_rfl) ((Below.refl _ _).drew) (fun hHeld => ?_)
      refine wpAnyH_take (i := 0) (v := .agg (kd true false true (fnV 65))) rfl (by kernel_rfl) (by kernel_rfl) (by kernel_rfl) (fun _ _ _ h => h) (Or.inl ⟨by rfl, fun w' hSw => ?_⟩) (by assumption) ?_
      · (try dsimp only at hSw); have z0 := keepc hSw x0; have z1 := keepc hSw x1; have z2 := keepc hSw x2; have z3 := keepc hSw y0; have z4 := keepc hSw y1; have z5 := keepc hSw y2; have z6 := keepc hSw y3; have z7 := keepc hSw y4; have z8 := keepc hSw v0; have z9 := keepc hSw v1; have z10 := keepc hSw v2; have z11 := keepc hSw v3; go_simp
      try simp only [Act.put, List.getElem_toArray, List.getElem_cons_zero, List.getElem_cons_succ, List.setIfInBounds_toArray, List.set_cons_zero, List.set_cons_succ]
      refine wpAnyH_take (i := 1) (v := .agg (five 2 co va vl rg)) rfl (by kernel_rfl) (by kernel_rfl) (by kernel_rfl) (fun _ _ _ h => h) (Or.inl ⟨by rfl, fun w' hSw => ?_⟩) (by assumption) ?_
      · (try dsimp only at hSw); have z0 := keepc hSw x0; have z1 := keepc hSw x1; have z2 := keepc hSw x2; have z3 := keepc hSw y0; have z4 := keepc hSw y1; have z5 := keepc hSw y2; have z6 := keepc hSw y3; have z7 := keepc hSw y4; have z8 := keepc hSw v0; have z9 := keepc hSw v1; have z10 := keepc hSw v2; have z11 := keepc hSw v3; go_simp
      try simp only [Act.put, List.getElem_toArray, List.getElem_cons_zero, List.getElem_cons_succ, List.setIfInBounds_toArray, List.set_cons_zero, List.set_cons_succ]
      refine wpAnyH_take (i := 2) (v := .agg #[.slice ma d.zs.length mc, .slice ba C bc, .slice ra C rc]) rfl (by kernel_rfl) (by kernel_rfl) (by kernel_rfl) (fun _ _ _ h => h) (Or.inl ⟨by rfl, fun w' hSw => ?_⟩) (by assumption) ?_
      · (try dsimp only at hSw); have z0 := keepc hSw x0; have z1 := keepc hSw x1; have z2 := keepc hSw x2; have z3 := keepc hSw y0; have z4 := keepc hSw y1; have z5 := keepc hSw y2; have z6 := keepc hSw y3; have z7 := keepc hSw y4; have z8 := keepc hSw v0; have z9 := keepc hSw v1; have z10 := keepc hSw v2; have z11 := keepc hSw v3; go_simp
      try simp only [Act.put, List.getElem_toArray, List.getElem_cons_zero, List.getElem_cons_succ, List.setIfInBounds_toArray, List.set_cons_zero, List.set_cons_succ]
      refine wpAnyH_ready (rs := [3]) (by kernel_rfl) (by simp) ?_
      refine AllReadyH.cons rfl (fun K hK => ?_) AllReadyH.nil
      go_simp
      refine (hco _).mono ?_
      rintro e wc3 ⟨rfl, hbc⟩
      refine hK.out _ _ (hHeld.trans (hbc.mono hHeld.size)) (fun hHeld => ?_)
      clear hK K hbc
      try simp only [Act.put, List.getElem_toArray, List.getElem_cons_zero, List.getElem_cons_succ, List.setIfInBounds_toArray, List.set_cons_zero, List.set_cons_succ]
      refine wpAnyH_ready (rs := [4]) (by kernel_rfl) (by simp) ?_
      refine AllReadyH.cons rfl (fun K hK => ?_) AllReadyH.nil
      go_simp
      refine (hfo _).mono ?_
      rintro e wc4 ⟨rfl, hbc⟩
      rw [hf]
      refine hK.out _ _ (hHeld.trans (hbc.mono hHeld.size)) (fun hHeld => ?_)
      clear hK K hbc
      try simp only [Act.put, List.getElem_toArray, List.getElem_cons_zero, List.getElem_cons_succ, List.setIfInBounds_toArray, List.set_cons_zero, List.set_cons_succ]
      refine wpAnyH_take (i := 5) (v := .bool true) rfl (by kernel_rfl) (by kernel_rfl) (by kernel_rfl) (fun _ _ _ h => h) (Or.inl ⟨by rfl, fun w' hSw => ?_⟩) (by assumption) ?_
      · (try dsimp only at hSw); have z0 := keepc hSw x0; have z1 := keepc hSw x1; have z2 := keepc hSw x2; have z3 := keepc hSw y0; have z4 := keepc hSw y1; have z5 := keepc hSw y2; have z6 := keepc hSw y3; have z7 := keepc hSw y4; have z8 := keepc hSw v0; have z9 := keepc hSw v1; have z10 := keepc hSw v2; have z11 := keepc hSw v3; go_simp
      try simp only [Act.put, List.getElem_toArray, List.getElem_cons_zero, List.getElem_cons_succ, List.setIfInBounds_toArray, List.set_cons_zero, List.set_cons_succ]
      refine wpAnyH_done (by kernel_rfl) ?_ _
      have hB4 := hB3.trans (hHeld.mono hB3.size)
      replace x0 := keepc hHeld x0
      replace x1 := keepc hHeld x1
      replace x2 := keepc hHeld x2
      replace y0 := keepc hHeld y0
      replace y1 := keepc hHeld y1
      replace y2 := keepc hHeld y2
      replace y3 := keepc hHeld y3
      replace y4 := keepc hHeld y4
      replace v0 := keepc hHeld v0
      replace v1 := keepc hHeld v1
      replace v2 := keepc hHeld v2
      replace v3 := keepc hHeld v3
      clear hHeld hB3 hco hfo
      have HF := hide (And.intro (HH.out.ta.below hB4) (And.intro (hB4.mono hb) (Kp.below (tag := tag) hB4)))
      have HZ := hide (ok_form (d := d) hf)
      clear x0 x1 x2 y0 y1 y2 y3 y4 v0 v1 v2 v3 hB4
      go_wp2
      go_ret
      exact ⟨ret_i HZ.out.1.symm, by rw [HZ.out.2]; exact ⟨_, _, HF.out.1⟩, HF.out.2.1, HF.out.2.2⟩
    · go_wp2
      refine wp_region_held_drew (S := fun w' => Below (w1.alloc (.cells (kd true false true (fnV 65)) 84)).heap.size (w1.alloc (.cells (kd true false true (fnV 65)) 84)) w') (by kernel_rfl) ((Below.refl _ _).drew) (fun hHeld => ?_)
      refine wpAnyH_take (i := 0) (v := .agg (kd true false true (fnV 65))) rfl (by kernel_rfl) (by kernel_rfl) (by kernel_rfl) (fun _ _ _ h => h) (Or.inl ⟨by rfl, fun w' hSw => ?_⟩) (by assumption) ?_
      · (try dsimp only at hSw); have z0 := keepc hSw x0; have z1 := keepc hSw x1; have z2 := keepc hSw x2; have z3 := keepc hSw y0; have z4 := keepc hSw y1; have z5 := keepc hSw y2; have z6 := keepc hSw y3; have z7 := keepc hSw y4; have z8 := keepc hSw v0; have z9 := keepc hSw v1; have z10 := keepc hSw v2; have z11 := keepc hSw v3; go_simp
      try simp only [Act.put, List.getElem_toArray, List.getElem_cons_zero, List.getElem_cons_succ, List.setIfInBounds_toArray, List.set_cons_zero, List.set_cons_succ]
      refine wpAnyH_take (i := 1) (v := .agg (five 2 co va vl rg)) rfl (by kernel_rfl) (by kernel_rfl) (by kernel_rfl) (fun _ _ _ h => h) (Or.inl ⟨by rfl, fun w' hSw => ?_⟩) (by assumption) ?_
      · (try dsimp only at hSw); have z0 := keepc hSw x0; have z1 := keepc hSw x1; have z2 := keepc hSw x2; have z3 := keepc hSw y0; have z4 := keepc hSw y1; have z5 := keepc hSw y2; have z6 := keepc hSw y3; have z7 := keepc hSw y4; have z8 := keepc hSw v0; have z9 := keepc hSw v1; have z10 := keepc hSw v2; have z11 := keepc hSw v3; go_simp
      try simp only [Act.put, List.getElem_toArray, List.getElem_cons_zero, List.getElem_cons_succ, List.setIfInBounds_toArray, List.set_cons_zero, List.set_cons_succ]
      refine wpAnyH_take (i := 2) (v := .agg #[.slice ma d.zs.length mc, .slice ba C bc, .slice ra C rc]) rfl (by kernel_rfl) (by kernel_rfl) (by kernel_rfl) (fun _ _ _ h => h) (Or.inl ⟨by rfl, fun w' hSw => ?_⟩) (by assumption) ?_
      · (try dsimp only at hSw); have z0 := keepc hSw x0; have z1 := keepc hSw x1; have z2 := keepc hSw x2; have z3 := keepc hSw y0; have z4 := keepc hSw y1; have z5 := keepc hSw y2; have z6 := keepc hSw y3; have z7 := keepc hSw y4; have z8 := keepc hSw v0; have z9 := keepc hSw v1; have z10 := keepc hSw v2; have z11 := keepc hSw v3; go_simp
      try simp only [Act.put, List.getElem_toArray, List.getElem_cons_zero, List.getElem_cons_succ, List.setIfInBounds_toArray, List.set_cons_zero, List.set_cons_succ]
      refine wpAnyH_ready (rs := [3]) (by kernel_rfl) (by simp) ?_
      refine AllReadyH.cons rfl (fun K hK => ?_) AllReadyH.nil
      go_simp
      refine (hco _).mono ?_
      rintro e wc3 ⟨rfl, hbc⟩
      refine hK.out _ _ (hHeld.trans (hbc.mono hHeld.size)) (fun hHeld => ?_)
      clear hK K hbc
      try simp only [Act.put, List.getElem_toArray, List.getElem_cons_zero, List.getElem_cons_succ, List.setIfInBounds_toArray, List.set_cons_zero, List.set_cons_succ]
      refine wpAnyH_ready (rs := [4]) (by kernel_rfl) (by simp) ?_
      refine AllReadyH.cons rfl (fun K hK => ?_) AllReadyH.nil
      go_simp
      refine (hfo _).mono ?_
      rintro e wc4 ⟨rfl, hbc⟩
      rw [hf]
      refine hK.out _ _ (hHeld.trans (hbc.mono hHeld.size)) (fun hHeld => ?_)
      clear hK K hbc
      try simp only [Act.put, List.getElem_toArray, List.getElem_cons_zero, List.getElem_cons_succ, List.setIfInBounds_toArray, List.set_cons_zero, List.set_cons_succ]
      refine wpAnyH_take (i := 5) (v := .bool false) rfl (by kernel_rfl) (by kernel_rfl) (by kernel_rfl) (fun _ _ _ h => h) (Or.inl ⟨by rfl, fun w' hSw => ?_⟩) (by assumption) ?_
      · (try dsimp only at hSw); have z0 := keepc hSw x0; have z1 := keepc hSw x1; have z2 := keepc hSw x2; have z3 := keepc hSw y0; have z4 := keepc hSw y1; have z5 := keepc hSw y2; have z6 := keepc hSw y3; have z7 := keepc hSw y4; have z8 := keepc hSw v0; have z9 := keepc hSw v1; have z10 := keepc hSw v2; have z11 := keepc hSw v3; go_simp
      try simp only [Act.put, List.getElem_toArray, List.getElem_cons_zero, List.getElem_cons_succ, List.setIfInBounds_toArray, List.set_cons_zero, List.set_cons_succ]
      refine wpAnyH_done (by kernel_rfl) ?_ _
      have hB4 := hB3.trans (hHeld.mono hB3.size)
      replace x0 := keepc hHeld x0
      replace x1 := keepc hHeld x1
      replace x2 := keepc hHeld x2
      replace y0 := keepc hHeld y0
      replace y1 := keepc hHeld y1
      replace y2 := keepc hHeld y2
      replace y3 := keepc hHeld y3
      replace y4 := keepc hHeld y4
      replace v0 := keepc hHeld v0
      replace v1 := keepc hHeld v1
      replace v2 := keepc hHeld v2
      replace v3 := keepc hHeld v3
      clear hHeld hB3 hco hfo
      obtain ⟨p1, p2⟩ := fm_core hf
      obtain ⟨c, rfl⟩ : ∃ c : Nat, co = c := ⟨co.toNat, by omega⟩
      have hcl : c < C := by omega
      have HPC := hide (HPA.out c hcl)
      have hTc := HH.out.below hB4
      obtain ⟨⟨z1, z2⟩, ⟨v5, v6⟩, r5, r6⟩ := ok2 (d := d) hf
      obtain ⟨v, rfl⟩ : ∃ v : Nat, va = v := ⟨va.toNat, by omega⟩
      obtain ⟨i, rfl⟩ : ∃ i : Nat, rg = i := ⟨rg.toNat, by omega⟩
      simp only [Int.toNat_natCast] at z2
      go_wp2_with fail
      refine (loadSeen_any (.slice ma d.zs.length mc) (.slice ba C bc) (.slice ra C rc) d.zs C d.L d.F C d.Z vb vr tag base c v i 2 vl _ hTc.ta hcl hcl (by have := HZ3.out; omega) (by have := HPC.out.2.2.1; omega) (by have := HPC.out.1; omega) (by have := hB4.size; omega) (by omega)).mono ?_
      rintro e w5 ⟨rfl, ta5, hb5, hk5⟩
      have HZ := hide (And.intro z1 z2)
      have HF := hide (And.intro ta5 (And.intro ((hB4.mono hb).trans hb5) ((Kp.below (tag := tag) hB4).trans hB4.size hk5)))
      clear x0 x1 x2 y0 y1 y2 y3 y4 v0 v1 v2 v3 hB4 hb5 hk5 hTc ta5 z1 z2
      go_wp2
      go_ret
      exact ⟨ret_i HZ.out.1.symm, by rw [HZ.out.2]; exact ⟨_, _, HF.out.1⟩, HF.out.2.1, HF.out.2.2⟩
  by_cases e3 : k = 3
  · subst e3
    have hfo := fun W => formOk_any false false false true (fnV 66) 3 co va vl rg C W (notNil _) (notNilG _)
    rw [fm3 (C : Int) co va vl rg] at hfo
    go_enter Try.func79, Try.ntmps79
    go_wp2_with fail
    refine (kind3 _).mono ?_
    rintro e w1 ⟨rfl, hb1⟩
    have hA3 : Below w1.heap.size w1 (w1.alloc (.cells (kd false false false (fnV 66)) 84)) := (Below.refl _ _).alloc (Nat.le_refl _) _
    have hb3 := hb1.trans (hA3.mono hb1.size)
    have g1 := heap_b hA1 hb3
    have g2 := heap_b hA2 hb3
    have g3 : (w1.alloc (.cells (kd false false false (fnV 66)) 84)).heap[w1.heap.size]? = some (.cells (kd false false false (fnV 66)) 84 (0, 0)) := heap_alloc_new _ _
    have hB3 := hbA.trans (hb3.mono hbA.size)
    clear hb1 hA3 hb3 hA1 hA2 hbA
    have x0 := (cell_of_row _ _ 0 _ _ _ g1).trans rfl
    have x1 := (cell_of_row _ _ 1 _ _ _ g1).trans rfl
    have x2 := (cell_of_row _ _ 2 _ _ _ g1).trans rfl
    have y0 := (cell_of_row _ _ 0 _ _ _ g2).trans rfl
    have y1 := (cell_of_row _ _ 1 _ _ _ g2).trans rfl
    have y2 := (cell_of_row _ _ 2 _ _ _ g2).trans rfl
    have y3 := (cell_of_row _ _ 3 _ _ _ g2).trans rfl
    have y4 := (cell_of_row _ _ 4 _ _ _ g2).trans rfl
    have v0 := (cell_of_row _ _ 0 _ _ _ g3).trans rfl
    have v1 := (cell_of_row _ _ 1 _ _ _ g3).trans rfl
    have v2 := (cell_of_row _ _ 2 _ _ _ g3).trans rfl
    have v3 := (cell_of_row _ _ 3 _ _ _ g3).trans rfl
    clear g1 g2 g3
    cases hf : fmB (C : Int) 3 co va vl rg
    · go_wp2
      refine wp_region_held_drew (S := fun w' => Below (w1.alloc (.cells (kd false false false (fnV 66)) 84)).heap.size (w1.alloc (.cells (kd false false false (fnV 66)) 84)) w') (by kernel_rfl) ((Below.refl _ _).drew) (fun hHeld => ?_)
      refine wpAnyH_take (i := 0) (v := .agg (kd false false false (fnV 66))) rfl (by kernel_rfl) (by kernel_rfl) (by kernel_rfl) (fun _ _ _ h => h) (Or.inl ⟨by rfl, fun w' hSw => ?_⟩) (by assumption) ?_
      · (try dsimp only at hSw); have z0 := keepc hSw x0; have z1 := keepc hSw x1; have z2 := keepc hSw x2; have z3 := keepc hSw y0; have z4 := keepc hSw y1; have z5 := keepc hSw y2; have z6 := keepc hSw y3; have z7 := keepc hSw y4; have z8 := keepc hSw v0; have z9 := keepc hSw v1; have z10 := keepc hSw v2; have z11 := keepc hSw v3; go_simp
      try simp only [Act.put, List.getElem_toArray, List.getElem_cons_zero, List.getElem_cons_succ, List.setIfInBounds_toArray, List.set_cons_zero, List.set_cons_succ]
      refine wpAnyH_take (i := 1) (v := .agg (five 3 co va vl rg)) rfl (by kernel_rfl) (by kernel_rfl) (by kernel_rfl) (fun _ _ _ h => h) (Or.inl ⟨by rfl, fun w' hSw => ?_⟩) (by assumption) ?_
      · (try dsimp only at hSw); have z0 := keepc hSw x0; have z1 := keepc hSw x1; have z2 := keepc hSw x2; have z3 := keepc hSw y0; have z4 := keepc hSw y1; have z5 := keepc hSw y2; have z6 := keepc hSw y3; have z7 := keepc hSw y4; have z8 := keepc hSw v0; have z9 := keepc hSw v1; have z10 := keepc hSw v2; have z11 := keepc hSw v3; go_simp
      try simp only [Act.put, List.getElem_toArray, List.getElem_cons_zero, List.getElem_cons_succ, List.setIfInBounds_toArray, List.set_cons_zero, List.set_cons_succ]
      refine wpAnyH_take (i := 2) (v := .agg #[.slice ma d.zs.length mc, .slice ba C bc, .slice ra C rc]) rfl (by kernel_rfl) (by kernel_rfl) (by kernel_rfl) (fun _ _ _ h => h) (Or.inl ⟨by rfl, fun w' hSw => ?_⟩) (by assumption) ?_
      · (try dsimp only at hSw); have z0 := keepc hSw x0; have z1 := keepc hSw x1; have z2 := keepc hSw x2; have z3 := keepc hSw y0; have z4 := keepc hSw y1; have z5 := keepc hSw y2; have z6 := keepc hSw y3; have z7 := keepc hSw y4; have z8 := keepc hSw v0; have z9 := keepc hSw v1; have z10 := keepc hSw v2; have z11 := keepc hSw v3; go_simp
      try simp only [Act.put, List.getElem_toArray, List.getElem_cons_zero, List.getElem_cons_succ, List.setIfInBounds_toArray, List.set_cons_zero, List.set_cons_succ]
      refine wpAnyH_ready (rs := [3]) (by kernel_rfl) (by simp) ?_
      refine AllReadyH.cons rfl (fun K hK => ?_) AllReadyH.nil
      go_simp
      refine (hco _).mono ?_
      rintro e wc3 ⟨rfl, hbc⟩
      refine hK.out _ _ (hHeld.trans (hbc.mono hHeld.size)) (fun hHeld => ?_)
      clear hK K hbc
      try simp only [Act.put, List.getElem_toArray, List.getElem_cons_zero, List.getElem_cons_succ, List.setIfInBounds_toArray, List.set_cons_zero, List.set_cons_succ]
      refine wpAnyH_ready (rs := [4]) (by kernel_rfl) (by simp) ?_
      refine AllReadyH.cons rfl (fun K hK => ?_) AllReadyH.nil
      go_simp
      refine (hfo _).mono ?_
      rintro e wc4 ⟨rfl, hbc⟩
      rw [hf]
      refine hK.out _ _ (hHeld.trans (hbc.mono hHeld.size)) (fun hHeld => ?_)
      clear hK K hbc
      try simp only [Act.put, List.getElem_toArray, List.getElem_cons_zero, List.getElem_cons_succ, List.setIfInBounds_toArray, List.set_cons_zero, List.set_cons_succ]
      refine wpAnyH_take (i := 5) (v := .bool true) rfl (by kernel_rfl) (by kernel_rfl) (by kernel_rfl) (fun _ _ _ h => h) (Or.inl ⟨by rfl, fun w' hSw => ?_⟩) (by assumption) ?_
      · (try dsimp only at hSw); have z0 := keepc hSw x0; have z1 := keepc hSw x1; have z2 := keepc hSw x2; have z3 := keepc hSw y0; have z4 := keepc hSw y1; have z5 := keepc hSw y2; have z6 := keepc hSw y3; have z7 := keepc hSw y4; have z8 := keepc hSw v0; have z9 := keepc hSw v1; have z10 := keepc hSw v2; have z11 := keepc hSw v3; go_simp
      try simp only [Act.put, List.getElem_toArray, List.getElem_cons_zero, List.getElem_cons_succ, List.setIfInBounds_toArray, List.set_cons_zero, List.set_cons_succ]
      refine wpAnyH_done (by kernel_rfl) ?_ _
      have hB4 := hB3.trans (hHeld.mono hB3.size)
      replace x0 := keepc hHeld x0
      replace x1 := keepc hHeld x1
      replace x2 := keepc hHeld x2
      replace y0 := keepc hHeld y0
      replace y1 := keepc hHeld y1
      replace y2 := keepc hHeld y2
      replace y3 := keepc hHeld y3
      replace y4 := keepc hHeld y4
      replace v0 := keepc hHeld v0
      replace v1 := keepc hHeld v1
      replace v2 := keepc hHeld v2
      replace v3 := keepc hHeld v3
      clear hHeld hB3 hco hfo
      have HF := hide (And.intro (HH.out.ta.below hB4) (And.intro (hB4.mono hb) (Kp.below (tag := tag) hB4)))
      have HZ := hide (ok_form (d := d) hf)
      clear x0 x1 x2 y0 y1 y2 y3 y4 v0 v1 v2 v3 hB4
      go_wp2
      go_ret
      exact ⟨ret_i HZ.out.1.symm, by rw [HZ.out.2]; exact ⟨_, _, HF.out.1⟩, HF.out.2.1, HF.out.2.2⟩
    · go_wp2
      refine wp_region_held_drew (S := fun w' => Below (w1.alloc (.cells (kd false false false (fnV 66)) 84)).heap.size (w1.alloc (.cells (kd false false false (fnV 66)) 84)) w') (by kernel_rfl) ((Below.refl _ _).drew) (fun hHeld => ?_)
      refine wpAnyH_take (i := 0) (v := .agg (kd false false false (fnV 66))) rfl (by kernel_rfl) (by kernel_rfl) (by kernel_rfl) (fun _ _ _ h => h) (Or.inl ⟨by rfl, fun w' hSw => ?_⟩) (by assumption) ?_
      · (try dsimp only at hSw); have z0 := keepc hSw x0; have z1 := keepc hSw x1; have z2 := keepc hSw x2; have z3 := keepc hSw y0; have z4 := keepc hSw y1; have z5 := keepc hSw y2; have z6 := keepc hSw y3; have z7 := keepc hSw y4; have z8 := keepc hSw v0; have z9 := keepc hSw v1; have z10 := keepc hSw v2; have z11 := keepc hSw v3; go_simp
      try simp only [Act.put, List.getElem_toArray, List.getElem_cons_zero, List.getElem_cons_succ, List.setIfInBounds_toArray, List.set_cons_zero, List.set_cons_succ]
      refine wpAnyH_take (i := 1) (v := .agg (five 3 co va vl rg)) rfl (by kernel_rfl) (by kernel_rfl) (by kernel_rfl) (fun _ _ _ h => h) (Or.inl ⟨by rfl, fun w' hSw => ?_⟩) (by assumption) ?_
      · (try dsimp only at hSw); have z0 := keepc hSw x0; have z1 := keepc hSw x1; have z2 := keepc hSw x2; have z3 := keepc hSw y0; have z4 := keepc hSw y1; have z5 := keepc hSw y2; have z6 := keepc hSw y3; have z7 := keepc hSw y4; have z8 := keepc hSw v0; have z9 := keepc hSw v1; have z10 := keepc hSw v2; have z11 := keepc hSw v3; go_simp
      try simp only [Act.put, List.getElem_toArray, List.getElem_cons_zero, List.getElem_cons_succ, List.setIfInBounds_toArray, List.set_cons_zero, List.set_cons_succ]
      refine wpAnyH_take (i := 2) (v := .agg #[.slice ma d.zs.length mc, .slice ba C bc, .slice ra C rc]) rfl (by kernel_rfl) (by kernel_rfl) (by kernel_rfl) (fun _ _ _ h => h) (Or.inl ⟨by rfl, fun w' hSw => ?_⟩) (by assumption) ?_
      · (try dsimp only at hSw); have z0 := keepc hSw x0; have z1 := keepc hSw x1; have z2 := keepc hSw x2; have z3 := keepc hSw y0; have z4 := keepc hSw y1; have z5 := keepc hSw y2; have z6 := keepc hSw y3; have z7 := keepc hSw y4; have z8 := keepc hSw v0; have z9 := keepc hSw v1; have z10 := keepc hSw v2; have z11 := keepc hSw v3; go_simp
      try simp only [Act.put, List.getElem_toArray, List.getElem_cons_zero, List.getElem_cons_succ, List.setIfInBounds_toArray, List.set_cons_zero, List.set_cons_succ]
      refine wpAnyH_ready (rs := [3]) (by kernel_rfl) (by simp) ?_
      refine AllReadyH.cons rfl (fun K hK => ?_) AllReadyH.nil
      go_simp
      refine (hco _).mono ?_
      rintro e wc3 ⟨rfl, hbc⟩
      refine hK.out _ _ (hHeld.trans (hbc.mono hHeld.size)) (fun hHeld => ?_)
      clear hK K hbc
      try simp only [Act.put, List.getElem_toArray, List.getElem_cons_zero, List.getElem_cons_succ, List.setIfInBounds_toArray, List.set_cons_zero, List.set_cons_succ]
      refine wpAnyH_ready (rs := [4]) (by kernel_rfl) (by simp) ?_
      refine AllReadyH.cons rfl (fun K hK => ?_) AllReadyH.nil
      go_simp
      refine (hfo _).mono ?_
      rintro e wc4 ⟨rfl, hbc⟩
      rw [hf]
      refine hK.out _ _ (hHeld.trans (hbc.mono hHeld.size)) (fun hHeld => ?_)
      clear hK K hbc
      try simp only [Act.put, List.getElem_toArray, List.getElem_cons_zero, List.getElem_cons_succ, List.setIfInBounds_toArray, List.set_cons_zero, List.set_cons_succ]
      refine wpAnyH_take (i := 5) (v := .bool false) rfl (by kernel_rfl) (by kernel_rfl) (by kernel_rfl) (fun _ _ _ h => h) (Or.inl ⟨by rfl, fun w' hSw => ?_⟩) (by assumption) ?_
      · (try dsimp only at hSw); have z0 := keepc hSw x0; have z1 := keepc hSw x1; have z2 := keepc hSw x2; have z3 := keepc hSw y0; have z4 := keepc hSw y1; have z5 := keepc hSw y2; have z6 := keepc hSw y3; have z7 := keepc hSw y4; have z8 := keepc hSw v0; have z9 := keepc hSw v1; have z10 := keepc hSw v2; have z11 := keepc hSw v3; go_simp
      try simp only [Act.put, List.getElem_toArray, List.getElem_cons_zero, List.getElem_cons_succ, List.setIfInBounds_toArray, List.set_cons_zero, List.set_cons_succ]
      refine wpAnyH_done (by kernel_rfl) ?_ _
      have hB4 := hB3.trans (hHeld.mono hB3.size)
      replace x0 := keepc hHeld x0
      replace x1 := keepc hHeld x1
      replace x2 := keepc hHeld x2
      replace y0 := keepc hHeld y0
      replace y1 := keepc hHeld y1
      replace y2 := keepc hHeld y2
      replace y3 := keepc hHeld y3
      replace y4 := keepc hHeld y4
      replace v0 := keepc hHeld v0
      replace v1 := keepc hHeld v1
      replace v2 := keepc hHeld v2
      replace v3 := keepc hHeld v3
      clear hHeld hB3 hco hfo
      obtain ⟨p1, p2⟩ := fm_core hf
      obtain ⟨c, rfl⟩ : ∃ c : Nat, co = c := ⟨co.toNat, by omega⟩
      have hcl : c < C := by omega
      have HPC := hide (HPA.out c hcl)
      have hTc := HH.out.below hB4
      obtain ⟨z1, z2⟩ := ok3 (d := d) hf
      simp only [Int.toNat_natCast] at z1
      go_wp2_with fail
      refine (fencePassed_any (.slice ma d.zs.length mc) (.slice ba C bc) (.slice ra C rc) d.zs C d.L d.F C d.Z vb vr tag base c 3 va vl rg _ hTc.ta hcl).mono ?_
      rintro e w5 ⟨rfl, hb5⟩
      have HZ := hide (And.intro z1 z2)
      generalize (if 0 < d.L c then (4 : Int) else 0) = code at HZ ⊢
      have HF := hide (And.intro (hTc.ta.below hb5) (And.intro ((hB4.trans (hb5.mono hB4.size)).mono hb) (Kp.below (tag := tag) (hB4.trans (hb5.mono hB4.size)))))
      clear x0 x1 x2 y0 y1 y2 y3 y4 v0 v1 v2 v3 hB4 hb5 hTc z1 z2
      go_wp2
      go_ret
      exact ⟨ret_i HZ.out.1.symm, by rw [HZ.out.2]; exact ⟨_, _, HF.out.1⟩, HF.out.2.1, HF.out.2.2⟩
  by_cases e4 : k = 4
  · subst e4
    have hfo := fun W => formOk_any false false false true (fnV 58) 4 co va vl rg C W (notNil _) (notNilG _)
    rw [fm4 (C : Int) co va vl rg] at hfo
    go_enter Try.func79, Try.ntmps79
    go_wp2_with fail
    refine (kind4 _).mono ?_
    rintro e w1 ⟨rfl, hb1⟩
    have hA3 : Below w1.heap.size w1 (w1.alloc (.cells (kd false false false (fnV 58)) 84)) := (Below.refl _ _).alloc (Nat.le_refl _) _
    have hb3 := hb1.trans (hA3.mono hb1.size)
    have g1 := heap_b hA1 hb3
    have g2 := heap_b hA2 hb3
    have g3 : (w1.alloc (.cells (kd false false false (fnV 58)) 84)).heap[w1.heap.size]? = some (.cells (kd false false false (fnV 58)) 84 (0, 0)) := heap_alloc_new _ _
    have hB3 := hbA.trans (hb3.mono hbA.size)
    clear hb1 hA3 hb3 hA1 hA2 hbA
    have x0 := (cell_of_row _ _ 0 _ _ _ g1).trans rfl
    have x1 := (cell_of_row _ _ 1 _ _ _ g1).trans rfl
    have x2 := (cell_of_row _ _ 2 _ _ _ g1).trans rfl
    have y0 := (cell_of_row _ _ 0 _ _ _ g2).trans rfl
    have y1 := (cell_of_row _ _ 1 _ _ _ g2).trans rfl
    have y2 := (cell_of_row _ _ 2 _ _ _ g2).trans rfl
    have y3 := (cell_of_row _ _ 3 _ _ _ g2).trans rfl
    have y4 := (cell_of_row _ _ 4 _ _ _ g2).trans rfl
    have v0 := (cell_of_row _ _ 0 _ _ _ g3).trans rfl
    have v1 := (cell_of_row _ _ 1 _ _ _ g3).trans rfl
    have v2 := (cell_of_row _ _ 2 _ _ _ g3).trans rfl
    have v3 := (cell_of_row _ _ 3 _ _ _ g3).trans rfl
    clear g1 g2 g3
    cases hf : fmB (C : Int) 4 co va vl rg
    · go_wp2
      refine wp_region_held_drew (S := fun w' => Below (w1.alloc (.cells (kd false false false (fnV 58)) 84)).heap.size (w1.alloc (.cells (kd false false false (fnV 58)) 84)) w') (by kernel_rfl) ((Below.refl _ _).drew) (fun hHeld => ?_)
      refine wpAnyH_take (i := 0) (v := .agg (kd false false false (fnV 58))) rfl (by kernel_rfl) (by kernel_rfl) (by kernel_rfl) (fun _ _ _ h => h) (Or.inl ⟨by rfl, fun w' hSw => ?_⟩) (by assumption) ?_
      · (try dsimp only at hSw); have z0 := keepc hSw x0; have z1 := keepc hSw x1; have z2 := keepc hSw x2; have z3 := keepc hSw y0; have z4 := keepc hSw y1; have z5 := keepc hSw y2; have z6 := keepc hSw y3; have z7 := keepc hSw y4; have z8 := keepc hSw v0; have z9 := keepc hSw v1; have z10 := keepc hSw v2; have z11 := keepc hSw v3; go_simp
      try simp only [Act.put, List.getElem_toArray, List.getElem_cons_zero, List.getElem_cons_succ, List.setIfInBounds_toArray, List.set_cons_zero, List.set_cons_succ]
      refine wpAnyH_take (i := 1) (v := .agg (five 4 co va vl rg)) rfl (by kernel_rfl) (by kernel_rfl) (by kernel_rfl) (fun _ _ _ h => h) (Or.inl ⟨by rfl, fun w' hSw => ?_⟩) (by assumption) ?_
      · (try dsimp only at hSw); have z0 := keepc hSw x0; have z1 := keepc hSw x1; have z2 := keepc hSw x2; have z3 := keepc hSw y0; have z4 := keepc hSw y1; have z5 := keepc hSw y2; have z6 := keepc hSw y3; have z7 := keepc hSw y4; have z8 := keepc hSw v0; have z9 := keepc hSw v1; have z10 := keepc hSw v2; have z11 := keepc hSw v3; go_simp
      try simp only [Act.put, List.getElem_toArray, List.getElem_cons_zero, List.getElem_cons_succ, List.setIfInBounds_toArray, List.set_cons_zero, List.set_cons_succ]
      refine wpAnyH_take (i := 2) (v := .agg #[.slice ma d.zs.length mc, .slice ba C bc, .slice ra C rc]) rfl (by kernel_rfl) (by kernel_rfl) (by kernel_rfl) (fun _ _ _ h => h) (Or.inl ⟨by rfl, fun w' hSw => ?_⟩) (by assumption) ?_
      · (try dsimp only at hSw); have z0 := keepc hSw x0; have z1 := keepc hSw x1; have z2 := keepc hSw x2; have z3 := keepc hSw y0; have z4 := keepc hSw y1; have z5 := keepc hSw y2; have z6 := keepc hSw y3; have z7 := keepc hSw y4; have z8 := keepc hSw v0; have z9 := keepc hSw v1; have z10 := keepc hSw v2; have z11 := keepc hSw v3; go_simp
      try simp only [Act.put, List.getElem_toArray, List.getElem_cons_zero, List.getElem_cons_succ, List.setIfInBounds_toArray, List.set_cons_zero, List.set_cons_succ]
      refine wpAnyH_ready (rs := [3]) (by kernel_rfl) (by simp) ?_
      refine AllReadyH.cons rfl (fun K hK => ?_) AllReadyH.nil
      go_simp
      refine (hco _).mono ?_
      rintro e wc3 ⟨rfl, hbc⟩
      refine hK.out _ _ (hHeld.trans (hbc.mono hHeld.size)) (fun hHeld => ?_)
      clear hK K hbc
      try simp only [Act.put, List.getElem_toArray, List.getElem_cons_zero, List.getElem_cons_succ, List.setIfInBounds_toArray, List.set_cons_zero, List.set_cons_succ]
      refine wpAnyH_ready (rs := [4]) (by kernel_rfl) (by simp) ?_
      refine AllReadyH.cons rfl (fun K hK => ?_) AllReadyH.nil
      go_simp
      refine (hfo _).mono ?_
      rintro e wc4 ⟨rfl, hbc⟩
      rw [hf]
      refine hK.out _ _ (hHeld.trans (hbc.mono hHeld.size)) (fun hHeld => ?_)
      clear hK K hbc
      try simp only [Act.put, List.getElem_toArray, List.getElem_cons_zero, List.getElem_cons_succ, List.setIfInBounds_toArray, List.set_cons_zero, List.set_cons_succ]
      refine wpAnyH_take (i := 5) (v := .bool true) rfl (by kernel_rfl) (by kernel_rfl) (by kernel_rfl) (fun _ _ _ h => h) (Or.inl ⟨by rfl, fun w' hSw => ?_⟩) (by assumption) ?_
      · (try dsimp only at hSw); have z0 := keepc hSw x0; have z1 := keepc hSw x1; have z2 := keepc hSw x2; have z3 := keepc hSw y0; have z4 := keepc hSw y1; have z5 := keepc hSw y2; have z6 := keepc hSw y3; have z7 := keepc hSw y4; have z8 := keepc hSw v0; have z9 := keepc hSw v1; have z10 := keepc hSw v2; have z11 := keepc hSw v3; go_simp
      try simp only [Act.put, List.getElem_toArray, List.getElem_cons_zero, List.getElem_cons_succ, List.setIfInBounds_toArray, List.set_cons_zero, List.set_cons_succ]
      refine wpAnyH_done (by kernel_rfl) ?_ _
      have hB4 := hB3.trans (hHeld.mono hB3.size)
      replace x0 := keepc hHeld x0
      replace x1 := keepc hHeld x1
      replace x2 := keepc hHeld x2
      replace y0 := keepc hHeld y0
      replace y1 := keepc hHeld y1
      replace y2 := keepc hHeld y2
      replace y3 := keepc hHeld y3
      replace y4 := keepc hHeld y4
      replace v0 := keepc hHeld v0
      replace v1 := keepc hHeld v1
      replace v2 := keepc hHeld v2
      replace v3 := keepc hHeld v3
      clear hHeld hB3 hco hfo
      have HF := hide (And.intro (HH.out.ta.below hB4) (And.intro (hB4.mono hb) (Kp.below (tag := tag) hB4)))
      have HZ := hide (ok_form (d := d) hf)
      clear x0 x1 x2 y0 y1 y2 y3 y4 v0 v1 v2 v3 hB4
      go_wp2
      go_ret
      exact ⟨ret_i HZ.out.1.symm, by rw [HZ.out.2]; exact ⟨_, _, HF.out.1⟩, HF.out.2.1, HF.out.2.2⟩
    · go_wp2
      refine wp_region_held_drew (S := fun w' => Below (w1.alloc (.cells (kd false false false (fnV 58)) 84)).heap.size (w1.alloc (.cells (kd false false false (fnV 58)) 84)) w') (by kernel_rfl) ((Below.refl _ _).drew) (fun hHeld => ?_)
      refine wpAnyH_take (i := 0) (v := .agg (kd false false false (fnV 58))) rfl (by kernel_rfl) (by kernel_rfl) (by kernel_rfl) (fun _ _ _ h => h) (Or.inl ⟨by rfl, fun w' hSw => ?_⟩) (by assumption) ?_
      · (try dsimp only at hSw); have z0 := keepc hSw x0; have z1 := keepc hSw x1; have z2 := keepc hSw x2; have z3 := keepc hSw y0; have z4 := keepc hSw y1; have z5 := keepc hSw y2; have z6 := keepc hSw y3; have z7 := keepc hSw y4; have z8 := keepc hSw v0; have z9 := keepc hSw v1; have z10 := keepc hSw v2; have z11 := keepc hSw v3; go_simp
      try simp only [Act.put, List.getElem_toArray, List.getElem_cons_zero, List.getElem_cons_succ, List.setIfInBounds_toArray, List.set_cons_zero, List.set_cons_succ]
      refine wpAnyH_take (i := 1) (v := .agg (five 4 co va vl rg)) rfl (by kernel_rfl) (by kernel_rfl) (by kernel_rfl) (fun _ _ _ h => h) (Or.inl ⟨by rfl, fun w' hSw => ?_⟩) (by assumption) ?_
      · (try dsimp only at hSw); have z0 := keepc hSw x0; have z1 := keepc hSw x1; have z2 := keepc hSw x2; have z3 := keepc hSw y0; have z4 := keepc hSw y1; have z5 := keepc hSw y2; have z6 := keepc hSw y3; have z7 := keepc hSw y4; have z8 := keepc hSw v0; have z9 := keepc hSw v1; have z10 := keepc hSw v2; have z11 := keepc hSw v3; go_simp
      try simp only [Act.put, List.getElem_toArray, List.getElem_cons_zero, List.getElem_cons_succ, List.setIfInBounds_toArray, List.set_cons_zero, List.set_cons_succ]
      refine wpAnyH_take (i := 2) (v := .agg #[.slice ma d.zs.length mc, .slice ba C bc, .slice ra C rc]) rfl (by kernel_rfl) (by kernel_rfl) (by kernel_rfl) (fun _ _ _ h => h) (Or.inl ⟨by rfl, fun w' hSw => ?_⟩) (by assumption) ?_
      · (try dsimp only at hSw); have z0 := keepc hSw x0; have z1 := keepc hSw x1; have z2 := keepc hSw x2; have z3 := keepc hSw y0; have z4 := keepc hSw y1; have z5 := keepc hSw y2; have z6 := keepc hSw y3; have z7 := keepc hSw y4; have z8 := keepc hSw v0; have z9 := keepc hSw v1; have z10 := keepc hSw v2; have z11 := keepc hSw v3; go_simp
      try simp only [Act.put, List.getElem_toArray, List.getElem_cons_zero, List.getElem_cons_succ, List.setIfInBounds_toArray, List.set_cons_zero, List.set_cons_succ]
      refine wpAnyH_ready (rs := [3]) (by kernel_rfl) (by simp) ?_
      refine AllReadyH.cons rfl (fun K hK => ?_) AllReadyH.nil
      go_simp
      refine (hco _).mono ?_
      rintro e wc3 ⟨rfl, hbc⟩
      refine hK.out _ _ (hHeld.trans (hbc.mono hHeld.size)) (fun hHeld => ?_)
      clear hK K hbc
      try simp only [Act.put, List.getElem_toArray, List.getElem_cons_zero, List.getElem_cons_succ, List.setIfInBounds_toArray, List.set_cons_zero, List.set_cons_succ]
      refine wpAnyH_ready (rs := [4]) (by kernel_rfl) (by simp) ?_
      refine AllReadyH.cons rfl (fun K hK => ?_) AllReadyH.nil
      go_simp
      refine (hfo _).mono ?_
      rintro e wc4 ⟨rfl, hbc⟩
      rw [hf]
      refine hK.out _ _ (hHeld.trans (hbc.mono hHeld.size)) (fun hHeld => ?_)
      clear hK K hbc
      try simp only [Act.put, List.getElem_toArray, List.getElem_cons_zero, List.getElem_cons_succ, List.setIfInBounds_toArray, List.set_cons_zero, List.set_cons_succ]
      refine wpAnyH_take (i := 5) (v := .bool false) rfl (by kernel_rfl) (by kernel_rfl) (by kernel_rfl) (fun _ _ _ h => h) (Or.inl ⟨by rfl, fun w' hSw => ?_⟩) (by assumption) ?_
      · (try dsimp only at hSw); have z0 := keepc hSw x0; have z1 := keepc hSw x1; have z2 := keepc hSw x2; have z3 := keepc hSw y0; have z4 := keepc hSw y1; have z5 := keepc hSw y2; have z6 := keepc hSw y3; have z7 := keepc hSw y4; have z8 := keepc hSw v0; have z9 := keepc hSw v1; have z10 := keepc hSw v2; have z11 := keepc hSw v3; go_simp
      try simp only [Act.put, List.getElem_toArray, List.getElem_cons_zero, List.getElem_cons_succ, List.setIfInBounds_toArray, List.set_cons_zero, List.set_cons_succ]
      refine wpAnyH_done (by kernel_rfl) ?_ _
      have hB4 := hB3.trans (hHeld.mono hB3.size)
      replace x0 := keepc hHeld x0
      replace x1 := keepc hHeld x1
      replace x2 := keepc hHeld x2
      replace y0 := keepc hHeld y0
      replace y1 := keepc hHeld y1
      replace y2 := keepc hHeld y2
      replace y3 := keepc hHeld y3
      replace y4 := keepc hHeld y4
      replace v0 := keepc hHeld v0
      replace v1 := keepc hHeld v1
      replace v2 := keepc hHeld v2
      replace v3 := keepc hHeld v3
      clear hHeld hB3 hco hfo
      obtain ⟨p1, p2⟩ := fm_core hf
      obtain ⟨c, rfl⟩ : ∃ c : Nat, co = c := ⟨co.toNat, by omega⟩
      have hcl : c < C := by omega
      have HPC := hide (HPA.out c hcl)
      have hTc := HH.out.below hB4
      obtain ⟨o1, o2⟩ := ok4 (d := d) hf
      simp only [Int.toNat_natCast] at o1 o2
      go_wp2_with fail
      refine (firstDrained_any (.slice ma d.zs.length mc) (.slice ba C bc) (.slice ra C rc) d.zs C d.L d.F C d.Z vb vr tag base c 4 va vl rg _ hTc.ta hcl (by have := HPC.out.1; omega) (own_cap (hTc.bo c hcl)) (fun hp => by have := (HPC.out.2.1 0 hp).1; have := HZ3.out; omega) (by have := hB4.size; omega)).mono ?_
      rintro e w5 (⟨h4, rfl, hb5⟩ | ⟨h4, rfl, ⟨u, tag2, ta5, _⟩, hb5, hk5⟩)
      · have HZ := hide (o1 h4)
        have HF := hide (And.intro (hTc.ta.below hb5) (And.intro ((hB4.trans (hb5.mono hB4.size)).mono hb) (Kp.below (tag := tag) (hB4.trans (hb5.mono hB4.size)))))
        clear x0 x1 x2 y0 y1 y2 y3 y4 v0 v1 v2 v3 hB4 hb5 hTc o1 o2
        go_wp2
        go_ret
        exact ⟨ret_i HZ.out.1.symm, by rw [HZ.out.2]; exact ⟨_, _, HF.out.1⟩, HF.out.2.1, HF.out.2.2⟩
      · have HZ := hide (o2 h4)
        have HF := hide (And.intro ta5 (And.intro ((hB4.mono hb).trans hb5) ((Kp.below (tag := tag) hB4).trans hB4.size hk5)))
        clear x0 x1 x2 y0 y1 y2 y3 y4 v0 v1 v2 v3 hB4 hb5 hk5 hTc ta5 o1 o2
        go_wp2
        go_ret
        exact ⟨ret_i HZ.out.1.symm, by rw [HZ.out.2]; exact ⟨_, _, HF.out.1⟩, HF.out.2.1, HF.out.2.2⟩
  have hfo := fun W => formOk_any false false false false .nilFunc k co va vl rg C W isNil isNilG
  rw [fmNo (C : Int) co va vl rg e1 e2 e3 e4] at hfo
  go_enter Try.func79, Try.ntmps79
  go_wp2_with fail
  refine (kindNo k _ e1 e2 e3 e4).mono ?_
  rintro e w1 ⟨rfl, hb1⟩
  have hA3 : Below w1.heap.size w1 (w1.alloc (.cells (kd false false false .nilFunc) 84)) := (Below.refl _ _).alloc (Nat.le_refl _) _
  have hb3 := hb1.trans (hA3.mono hb1.size)
  have g1 := heap_b hA1 hb3
  have g2 := heap_b hA2 hb3
  have g3 : (w1.alloc (.cells (kd false false false .nilFunc) 84)).heap[w1.heap.size]? = some (.cells (kd false false false .nilFunc) 84 (0, 0)) := heap_alloc_new _ _
  have hB3 := hbA.trans (hb3.mono hbA.size)
  clear hb1 hA3 hb3 hA1 hA2 hbA
  have x0 := (cell_of_row _ _ 0 _ _ _ g1).trans rfl
  have x1 := (cell_of_row _ _ 1 _ _ _ g1).trans rfl
  have x2 := (cell_of_row _ _ 2 _ _ _ g1).trans rfl
  have y0 := (cell_of_row _ _ 0 _ _ _ g2).trans rfl
  have y1 := (cell_of_row _ _ 1 _ _ _ g2).trans rfl
  have y2 := (cell_of_row _ _ 2 _ _ _ g2).trans rfl
  have y3 := (cell_of_row _ _ 3 _ _ _ g2).trans rfl
  have y4 := (cell_of_row _ _ 4 _ _ _ g2).trans rfl
  have v0 := (cell_of_row _ _ 0 _ _ _ g3).trans rfl
  have v1 := (cell_of_row _ _ 1 _ _ _ g3).trans rfl
  have v2 := (cell_of_row _ _ 2 _ _ _ g3).trans rfl
  have v3 := (cell_of_row _ _ 3 _ _ _ g3).trans rfl
  clear g1 g2 g3
  have hf : fmB (C : Int) k co va vl rg = false := by rw [← fmNo (C : Int) co va vl rg e1 e2 e3 e4]; rfl
  go_wp2
  refine wp_region_held_drew (S := fun w' => Below (w1.alloc (.cells (kd false false false .nilFunc) 84)).heap.size (w1.alloc (.cells (kd false false false .nilFunc) 84)) w') (by kernel_rfl) ((Below.refl _ _).drew) (fun hHeld => ?_)
  refine wpAnyH_take (i := 0) (v := .agg (kd false false false .nilFunc)) rfl (by kernel_rfl) (by kernel_rfl) (by kernel_rfl) (fun _ _ _ h => h) (Or.inl ⟨by rfl, fun w' hSw => ?_⟩) (by assumption) ?_
  · (try dsimp only at hSw); have z0 := keepc hSw x0; have z1 := keepc hSw x1; have z2 := keepc hSw x2; have z3 := keepc hSw y0; have z4 := keepc hSw y1; have z5 := keepc hSw y2; have z6 := keepc hSw y3; have z7 := keepc hSw y4; have z8 := keepc hSw v0; have z9 := keepc hSw v1; have z10 := keepc hSw v2; have z11 := keepc hSw v3; go_simp
  try simp only [Act.put, List.getElem_toArray, List.getElem_cons_zero, List.getElem_cons_succ, List.setIfInBounds_toArray, List.set_cons_zero, List.set_cons_succ]
  refine wpAnyH_take (i := 1) (v := .agg (five k co va vl rg)) rfl (by kernel_rfl) (by kernel_rfl) (by kernel_rfl) (fun _ _ _ h => h) (Or.inl ⟨by rfl, fun w' hSw => ?_⟩) (by assumption) ?_
  · (try dsimp only at hSw); have z0 := keepc hSw x0; have z1 := keepc hSw x1; have z2 := keepc hSw x2; have z3 := keepc hSw y0; have z4 := keepc hSw y1; have z5 := keepc hSw y2; have z6 := keepc hSw y3; have z7 := keepc hSw y4; have z8 := keepc hSw v0; have z9 := keepc hSw v1; have z10 := keepc hSw v2; have z11 := keepc hSw v3; go_simp
  try simp only [Act.put, List.getElem_toArray, List.getElem_cons_zero, List.getElem_cons_succ, List.setIfInBounds_toArray, List.set_cons_zero, List.set_cons_succ]
  refine wpAnyH_take (i := 2) (v := .agg #[.slice ma d.zs.length mc, .slice ba C bc, .slice ra C rc]) rfl (by kernel_rfl) (by kernel_rfl) (by kernel_rfl) (fun _ _ _ h => h) (Or.inl ⟨by rfl, fun w' hSw => ?_⟩) (by assumption) ?_
  · (try dsimp only at hSw); have z0 := keepc hSw x0; have z1 := keepc hSw x1; have z2 := keepc hSw x2; have z3 := keepc hSw y0; have z4 := keepc hSw y1; have z5 := keepc hSw y2; have z6 := keepc hSw y3; have z7 := keepc hSw y4; have z8 := keepc hSw v0; have z9 := keepc hSw v1; have z10 := keepc hSw v2; have z11 := keepc hSw v3; go_simp
  try simp only [Act.put, List.getElem_toArray, List.getElem_cons_zero, List.getElem_cons_succ, List.setIfInBounds_toArray, List.set_cons_zero, List.set_cons_succ]
  refine wpAnyH_ready (rs := [3]) (by kernel_rfl) (by simp) ?_
  refine AllReadyH.cons rfl (fun K hK => ?_) AllReadyH.nil
  go_simp
  refine (hco _).mono ?_
  rintro e wc3 ⟨rfl, hbc⟩
  refine hK.out _ _ (hHeld.trans (hbc.mono hHeld.size)) (fun hHeld => ?_)
  clear hK K hbc
  try simp only [Act.put, List.getElem_toArray, List.getElem_cons_zero, List.getElem_cons_succ, List.setIfInBounds_toArray, List.set_cons_zero, List.set_cons_succ]
  refine wpAnyH_ready (rs := [4]) (by kernel_rfl) (by simp) ?_
  refine AllReadyH.cons rfl (fun K hK => ?_) AllReadyH.nil
  go_simp
  refine (hfo _).mono ?_
  rintro e wc4 ⟨rfl, hbc⟩
  rw [hf]
  refine hK.out _ _ (hHeld.trans (hbc.mono hHeld.size)) (fun hHeld => ?_)
  clear hK K hbc
  try simp only [Act.put, List.getElem_toArray, List.getElem_cons_zero, List.getElem_cons_succ, List.setIfInBounds_toArray, List.set_cons_zero, List.set_cons_succ]
  refine wpAnyH_take (i := 5) (v := .bool true) rfl (by kernel_rfl) (by kernel_rfl) (by kernel_rfl) (fun _ _ _ h => h) (Or.inl ⟨by rfl, fun w' hSw => ?_⟩) (by assumption) ?_
  · (try dsimp only at hSw); have z0 := keepc hSw x0; have z1 := keepc hSw x1; have z2 := keepc hSw x2; have z3 := keepc hSw y0; have z4 := keepc hSw y1; have z5 := keepc hSw y2; have z6 := keepc hSw y3; have z7 := keepc hSw y4; have z8 := keepc hSw v0; have z9 := keepc hSw v1; have z10 := keepc hSw v2; have z11 := keepc hSw v3; go_simp
  try simp only [Act.put, List.getElem_toArray, List.getElem_cons_zero, List.getElem_cons_succ, List.setIfInBounds_toArray, List.set_cons_zero, List.set_cons_succ]
  refine wpAnyH_done (by kernel_rfl) ?_ _
  have hB4 := hB3.trans (hHeld.mono hB3.size)
  replace x0 := keepc hHeld x0
  replace x1 := keepc hHeld x1
  replace x2 := keepc hHeld x2
  replace y0 := keepc hHeld y0
  replace y1 := keepc hHeld y1
  replace y2 := keepc hHeld y2
  replace y3 := keepc hHeld y3
  replace y4 := keepc hHeld y4
  replace v0 := keepc hHeld v0
  replace v1 := keepc hHeld v1
  replace v2 := keepc hHeld v2
  replace v3 := keepc hHeld v3
  clear hHeld hB3 hco hfo
  have HF := hide (And.intro (HH.out.ta.below hB4) (And.intro (hB4.mono hb) (Kp.below (tag := tag) hB4)))
  have HZ := hide (ok_form (d := d) hf)
  clear x0 x1 x2 y0 y1 y2 y3 y4 v0 v1 v2 v3 hB4
  go_wp2
  go_ret
  exact ⟨ret_i HZ.out.1.symm, by rw [HZ.out.2]; exact ⟨_, _, HF.out.1⟩, HF.out.2.1, HF.out.2.2⟩

end Go.Proofs.Ytcocobmanlmjdaa
