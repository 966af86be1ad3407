/- nets: spec.WithoutLink (written by mkNtX.py) -/
import Derived.Test.YtgafpepmmjjaaaaOzA
namespace Go.Proofs.Ytgafpepmmjjaaaa
open Go.RowKit
set_option linter.unusedVariables false
set_option linter.unusedSimpArgs false

theorem implWithout_any (N : Int) (ad : Option Addr) (n cap : Nat) (f : Nat → Nat → Int) (a b : Int) (w : World) (hs : Sr w (.slice ad n cap) 2 n f) (hnc : n ≤ cap) (hcm : cap ≤ maxLen) (hl : n ≤ 1048576) :
    Calls Try.prog 22 #[.agg (nt N (.slice ad n cap)), .int .i64 a, .int .i64 b] w (WPost w N n f a b) :=
  implWithout_lt N ad n cap f a b (min a b) (max a b) w hs hnc hcm hl (by omega) (hide ⟨rfl, rfl⟩)

theorem step_append_run {P : Program} {ops : Array Oper} {o : Oper} {a : Act} {w : World} {K : Act → World → Prop} {Q : Exit → Act → World → Prop} {E : Prop} (hgd : o.guard = none) (s x : Operand) (t : TypeId)
    (ho : o.op = .call { callee := .builtin .append, args := #[s, x], argTypes := #[t, t] }) {v u v' : Value} {w' : World} (hs : a.eval s = v) (hx : a.eval x = u) (hr : (Builtin.append_ #[t, t] o.type #[v, u]).run P w = .ok v' w') (h : K (a.put o.dst v') w') :
    if Region.wanted o (yielded ops a.tmps) = true then Oper.wp P o a w K Q else E := by
  have hw : Region.wanted o (yielded ops a.tmps) = true := by simp [Region.wanted, hgd]
  rw [if_pos hw]
  unfold Oper.wp execOp
  simp only [ho, resolve, invoke, builtin, Sem.run_bind, Sem.run_pure, Result.andThen_ok, List.map_toArray, List.map_cons, List.map_nil, hs, hx, hr]
  exact h

/-- the net being made, in a variable B -/
structure Ws (w V : World) (B : Nat) (N : Int) (v u : Value) (m : Nat) (g : Nat → Nat → Int) : Prop where
  wb : Wb w V N v
  box : V.heap[B]? = some (.cells (nt N u) 26 (0, 0))
  row : Orow V (B + 1) 31 2 u m m g
  lo : w.heap.size + 1 < B
theorem Ws.put {w V V' : World} {B : Nat} {N : Int} {v u u' : Value} {m : Nat} {g : Nat → Nat → Int} (h : Ws w V B N v u m g) {o : Obj} (ho : Orow V' (B + 1) 31 2 u' (m + 1) (m + 1) g) (hg : (V.drew.alloc o).grownBy V' u.ownBlock) :
    (V'.heap[B]? = some (.cells (nt N u) 26 (0, 0)) ∧ Below (B + 1) V V') ∧ Ws w (V'.setCell ⟨B, 1, none⟩ u') B N v u' (m + 1) g := by
  have hzb := lt_of_block h.box
  have hlo := h.lo
  have hlt : ∀ j, u.ownBlock = some j → B + 1 ≤ j := fun j hj => (World.ownsRow.lt h.row j hj).1
  have hb : Below (B + 1) V V' := (((Below.refl (B + 1) V).drew).alloc (by show B + 1 ≤ V.heap.size; omega) o).grown hg (by simp; omega) (fun k hk => hlt k hk)
  have hbox := (hb.block B (by omega)).trans h.box
  refine ⟨⟨hbox, hb⟩, ⟨⟨?_, ?_, ?_⟩, ?_, ?_, h.lo⟩⟩
  · exact (h.wb.bl.trans (hb.mono (by omega))).setCell (p := ⟨B, 1, none⟩) (by show w.heap.size ≤ B; omega) _
  · rw [heap_setCell_other _ _ _ _ (by simp; omega)]; exact (hb.block _ (by omega)).trans h.wb.box
  · rw [heap_setCell_other _ _ _ _ (by simp; omega)]; exact (hb.block _ (by omega)).trans h.wb.res
  · rw [heap_setCell_same _ _ 1 _ _ _ hbox]; rfl
  · exact ho.far (by omega)

set_option maxHeartbeats 8000000 in
set_option maxRecDepth 20000 in
theorem specWithout_lt (N : Int) (ad : Option Addr) (n cap : Nat) (f : Nat → Nat → Int) (a b lo hi : Int) (w : World) (hs : Sr w (.slice ad n cap) 2 n f) (hl : n ≤ 1048576)
    (hc : (a < b ∧ lo = a ∧ hi = b) ∨ (b < a ∧ lo = b ∧ hi = a) ∨ (a = b ∧ lo = a ∧ hi = a)) (HJ : Hid (min a b = lo ∧ max a b = hi)) :
    Calls Try.prog 23 #[.agg (nt N (.slice ad n cap)), .int .i64 a, .int .i64 b] w (WPost w N n f a b) := by
  have HS := hide hs
  have h1 := fun W h => specNetOk_any N (.slice ad n cap) n f W h hl
  have h2 := fun W h => specJoined_any N (.slice ad n cap) n f a b W h hl
  go_enter Try.func23, Try.ntmps23
  go_wp2_with fail
  generalize hW : (World.alloc (World.alloc _ _) _) = W
  have hwb := Wb.ofW hW
  clear hW
  refine (h1 _ (HS.out.below hwb.bl)).mono ?_
  rintro e w1 ⟨rfl, hb1⟩
  have HB1 := hide (hwb.next hb1)
  clear h1 hwb hb1 hs
  cases hN : netB N n f
  · have HN := hide hN
    obtain ⟨fr, r0, r1⟩ := row2_facts HB1.out.res
    have HF := hide (HB1.out.fin (.int .i64 0) nilS)
    clear HB1 hN
    go_wp2
    refine bodyPost_ret (v := .tuple #[.agg (nt 0 nilS), .bool false]) (by simp [results, Try.results23, go_sem, r0, r1]) rfl ⟨.inr ⟨.inl HN.out, rfl⟩, HF.out⟩
  obtain ⟨_, x0, x1⟩ := row2_facts HB1.out.box
  have HN := hide hN
  have HNT := hide (nt_of hN)
  clear hN
  go_wp2_with fail
  refine (h2 _ (HS.out.below HB1.out.bl)).mono ?_
  rintro e w2 ⟨rfl, hb2⟩
  have HB2 := hide (HB1.out.next hb2)
  clear h2 HB1 hb2 x0 x1
  cases hj : jn n f a b
  · have HNO := hide hj
    obtain ⟨fr, r0, r1⟩ := row2_facts HB2.out.res
    have HF := hide (HB2.out.fin (.int .i64 0) nilS)
    clear HB2 hj
    go_wp2
    refine bodyPost_ret (v := .tuple #[.agg (nt 0 nilS), .bool false]) (by simp [results, Try.results23, go_sem, r0, r1]) rfl ⟨.inr ⟨.inr HNO.out, rfl⟩, HF.out⟩
  obtain ⟨k0, hk0, hk1, hk2⟩ := jn_iff.1 hj
  rw [HJ.out.1] at hk1
  rw [HJ.out.2] at hk2
  have HK := hide (And.intro hk1 hk2)
  have HU : Hid (∀ k, k < n → ((f k 0 == lo && f k 1 == hi) = true ↔ k = k0)) := hide (fun k hk => by
    constructor
    · intro h
      simp only [Bool.and_eq_true, beq_iff_eq] at h
      exact link_one HNT.out hk hk0 (h.1.trans HK.out.1.symm) (h.2.trans HK.out.2.symm)
    · intro h; subst h; rw [HK.out.1, HK.out.2]; simp)
  obtain ⟨p, off, rfl, HC⟩ : ∃ p off, ad = some ⟨p, off, none⟩ ∧ Hid (∀ j, j < n → ∀ i, i < 2 → w.cell? ⟨p, off + j * 2 + i, none⟩ = some (.int .i64 (f j i))) := by
    obtain ⟨ad', cap', e', hcc⟩ := HS.out
    obtain ⟨p, off, e'', hcell⟩ := hcc (by omega)
    simp only [Value.slice.injEq] at e'
    exact ⟨p, off, e'.1.trans e'', hide hcell⟩
  have HPW : Hid (p < w.heap.size) := hide (World.block_lt_of_cell? _ _ (HC.out 0 (by omega) 0 (by decide)))
  clear hj hk1 hk2
  obtain ⟨_, x0, x1⟩ := row2_facts HB2.out.box
  have HW0 : Hid (Ws w (w2.alloc (.cells (nt N nilS) 26)) w2.heap.size N (.slice (some ⟨p, off, none⟩) n cap) nilS 0 (fk f k0)) := by
    have hA : Below w2.heap.size w2 (w2.alloc (.cells (nt N nilS) 26)) := (Below.refl _ _).alloc (Nat.le_refl _) _
    have hz := lt_of_block HB2.out.res
    refine hide ⟨HB2.out.next hA, heap_alloc_new _ _, ?_, by omega⟩
    unfold Orow
    have : rowC 2 0 0 (fk f k0) = [] := by simp [rowC]
    rw [this]
    exact World.ownsRow_nil _ _ _ _
  generalize hBB : w2.heap.size = B at HW0
  go_wp2
  clear hBB HB2 x0 x1
  go_loopw [9] (fun i wr => ∃ (k : Nat) (u : Value) (m : Nat), k ≤ n ∧ i = .int .i64 k ∧ m = (if k ≤ k0 then k else k - 1) ∧ Hid (Ws w wr B N (.slice (some ⟨p, off, none⟩) n cap) u m (fk f k0))) (fun i _ => n - (intOf i).toNat)
  case atStart => exact ⟨0, _, 0, Nat.zero_le _, rfl, rfl, HW0⟩
  case round =>
    clear HW0
    obtain ⟨k, u, m, hk, rfl, hm, HW⟩ := hrel
    obtain ⟨_, x0, x1⟩ := row2_facts HW.out.wb.box
    obtain ⟨_, b0, b1⟩ := row2_facts HW.out.box
    obtain ⟨ua, uc, rfl⟩ := own_form HW.out.row
    by_cases hlt : k < n
    · have q0 : wr.cell? ⟨p, off + k * 2, none⟩ = some (.int .i64 (f k 0)) := Below.keep HW.out.wb.bl _ _ (HC.out k hlt 0 (by decide))
      have q1 : wr.cell? ⟨p, off + k * 2 + 1, none⟩ = some (.int .i64 (f k 1)) := Below.keep HW.out.wb.bl _ _ (HC.out k hlt 1 (by decide))
      have heq := eqA2e (f k 0) (f k 1) lo hi wr
      by_cases hkk : k = k0
      · have hx := (HU.out k hlt).2 hkk
        rw [hx] at heq
        have HM : Hid (m = (if k + 1 ≤ k0 then k + 1 else k + 1 - 1)) := hide (by rw [hm, if_pos (by omega), if_neg (by omega)]; omega)
        clear hx hkk hm
        rcases hc with ⟨c1, rfl, rfl⟩ | ⟨c1, rfl, rfl⟩ | ⟨rfl, rfl, rfl⟩
        all_goals (try have c2 : lo ≤ hi := by omega)
        all_goals (try have c3 : ¬ hi ≤ lo := by omega)
        all_goals go_wp2
        all_goals go_roundw
        all_goals (first | exact ⟨k + 1, _, m, by omega, by go_num, HM.out, HW⟩ | (simp [intOf]; omega))
      · have hx : (f k 0 == lo && f k 1 == hi) = false := by
          cases e : (f k 0 == lo && f k 1 == hi)
          · rfl
          · exact absurd ((HU.out k hlt).1 e) hkk
        rw [hx] at heq
        have hA : Below wr.heap.size wr (wr.drew.alloc (.cells (pr (f k 0) (f k 1)) 31)) := ((Below.refl _ _).drew).alloc (Nat.le_refl _) _
        have hsr : Sr (wr.drew.alloc (.cells (pr (f k 0) (f k 1)) 31)) (.slice (some ⟨wr.heap.size, 0, none⟩) 1 1) 2 1 (fun _ => f k) := by
          have hh := heap_alloc_new wr.drew (.cells (pr (f k 0) (f k 1)) 31)
          refine ⟨_, _, rfl, fun _ => ⟨_, _, rfl, fun j hj i hi2 => ?_⟩⟩
          have ej : j = 0 := by omega
          subst ej
          match i, hi2 with
          | 0, _ => exact (cell_of_row _ _ 0 _ _ _ hh).trans rfl
          | 1, _ => exact (cell_of_row _ _ 1 _ _ _ hh).trans rfl
        have hmf : ∀ j, j < 1 → ∀ i, i < 2 → (fun _ => f k) j i = fk f k0 (m + j) i := fun j hj i hi2 => by
          have ej : j = 0 := by omega
          subst ej
          show f k i = fk f k0 (m + 0) i
          rw [Nat.add_zero, fk, hm]
          by_cases hle : k ≤ k0
          · rw [if_pos hle, if_pos (by omega)]
          · rw [if_neg hle, if_neg (by omega), show k - 1 + 1 = k by omega]
        have hm9 : m ≤ 1048576 := by rw [hm]; split <;> omega
        obtain ⟨u', w3, hrun, ho3, hg3⟩ := append_pairs (wr.drew.alloc (.cells (pr (f k 0) (f k 1)) 31)) (B + 1) (.slice ua m uc) _ m 1 (fk f k0) (fun _ => f k) 24 (HW.out.row.below hA) hsr hmf hm9 (by omega) (by have := lt_of_block HW.out.box; simp; omega)
        obtain ⟨⟨hbx3, hB3⟩, hws⟩ := HW.out.put ho3 hg3
        obtain ⟨va, vc, rfl⟩ := own_form ho3
        have HR : Hid ((w3.heap[B]? = some (.cells (nt N (.slice ua m uc)) 26 (0, 0)) ∧ True) ∧ (w3.cell? ⟨B, 1, none⟩ = some (.slice ua m uc) ∧ w3.cell? ⟨w.heap.size, 1, none⟩ = some (.slice (some ⟨p, off, none⟩) n cap) ∧ w3.cell? ⟨p, off + k * 2, none⟩ = some (.int .i64 (f k 0)) ∧ w3.cell? ⟨p, off + k * 2 + 1, none⟩ = some (.int .i64 (f k 1)))) := by
          have hlo := HW.out.lo
          have hpw := HPW.out
          refine hide ⟨⟨hbx3, trivial⟩, (row2_facts hbx3).2.2, (hB3.cell (p := ⟨w.heap.size, 1, none⟩) (by show w.heap.size < B + 1; omega)).trans x1, (hB3.cell (p := ⟨p, off + k * 2, none⟩) (by show p < B + 1; omega)).trans q0, (hB3.cell (p := ⟨p, off + k * 2 + 1, none⟩) (by show p < B + 1; omega)).trans q1⟩
        have HW2 := hide hws
        have HM : Hid (m + 1 = (if k + 1 ≤ k0 then k + 1 else k + 1 - 1)) := hide (by
          rw [hm]
          by_cases hle : k ≤ k0
          · rw [if_pos hle, if_pos (by omega)]
          · rw [if_neg hle, if_neg (by omega)]; omega)
        have hk00 : (0 : Int) ≤ (k : Int) := by omega
        have hk01 : (k : Int) < (n : Int) := by omega
        clear hx hkk hm hws hbx3 hB3 ho3 hg3 hsr hmf HW
        rcases hc with ⟨c1, rfl, rfl⟩ | ⟨c1, rfl, rfl⟩ | ⟨rfl, rfl, rfl⟩
        · have c2 : lo ≤ hi := by omega
          have c3 : ¬ hi ≤ lo := by omega
          go_wp2
          refine wp_region_but (z := 10) (S := fun W => W.cell? ⟨B, 1, none⟩ = some (.slice ua m uc) ∧ W.cell? ⟨w.heap.size, 1, none⟩ = some (.slice (some ⟨p, off, none⟩) n cap) ∧ W.cell? ⟨p, off + k * 2, none⟩ = some (.int .i64 (f k 0)) ∧ W.cell? ⟨p, off + k * 2 + 1, none⟩ = some (.int .i64 (f k 1))) (by kernel_rfl) ⟨b1, x1, q0, q1⟩ (fun hHeld => ?_)
          refine wpAnyK_take (i := 0) (v := .pointer (some ⟨B, 1, none⟩)) rfl (by kernel_rfl) (by kernel_rfl) (by kernel_rfl) (by kernel_rfl) (fun _ _ _ h => h) (Or.inl ⟨by rfl, fun w' hSw => ?_⟩) (by assumption) ?_
          · (try dsimp only at hSw); (try obtain ⟨hS1, hS2, hS3, hS4⟩ := hSw); go_simp
          try simp only [Act.put, List.getElem_toArray, List.getElem_cons_zero, List.getElem_cons_succ, List.setIfInBounds_toArray, List.set_cons_zero, List.set_cons_succ]
          refine wpAnyK_take (i := 1) (v := .slice ua m uc) rfl (by kernel_rfl) (by kernel_rfl) (by kernel_rfl) (by kernel_rfl) (fun _ _ _ h => h) (Or.inl ⟨by rfl, fun w' hSw => ?_⟩) (by assumption) ?_
          · (try dsimp only at hSw); (try obtain ⟨hS1, hS2, hS3, hS4⟩ := hSw); go_simp
          try simp only [Act.put, List.getElem_toArray, List.getElem_cons_zero, List.getElem_cons_succ, List.setIfInBounds_toArray, List.set_cons_zero, List.set_cons_succ]
          refine wpAnyK_take (i := 2) (v := .pointer (some ⟨w.heap.size, 1, none⟩)) rfl (by kernel_rfl) (by kernel_rfl) (by kernel_rfl) (by kernel_rfl) (fun _ _ _ h => h) (Or.inl ⟨by rfl, fun w' hSw => ?_⟩) (by assumption) ?_
          · (try dsimp only at hSw); (try obtain ⟨hS1, hS2, hS3, hS4⟩ := hSw); go_simp
          try simp only [Act.put, List.getElem_toArray, List.getElem_cons_zero, List.getElem_cons_succ, List.setIfInBounds_toArray, List.set_cons_zero, List.set_cons_succ]
          refine wpAnyK_take (i := 3) (v := .slice (some ⟨p, off, none⟩) n cap) rfl (by kernel_rfl) (by kernel_rfl) (by kernel_rfl) (by kernel_rfl) (fun _ _ _ h => h) (Or.inl ⟨by rfl, fun w' hSw => ?_⟩) (by assumption) ?_
          · (try dsimp only at hSw); (try obtain ⟨hS1, hS2, hS3, hS4⟩ := hSw); go_simp
          try simp only [Act.put, List.getElem_toArray, List.getElem_cons_zero, List.getElem_cons_succ, List.setIfInBounds_toArray, List.set_cons_zero, List.set_cons_succ]
          refine wpAnyK_take (i := 4) (v := .int .i64 k) rfl (by kernel_rfl) (by kernel_rfl) (by kernel_rfl) (by kernel_rfl) (fun _ _ _ h => h) (Or.inl ⟨by rfl, fun w' hSw => ?_⟩) (by assumption) ?_
          · (try dsimp only at hSw); (try obtain ⟨hS1, hS2, hS3, hS4⟩ := hSw); go_simp
          try simp only [Act.put, List.getElem_toArray, List.getElem_cons_zero, List.getElem_cons_succ, List.setIfInBounds_toArray, List.set_cons_zero, List.set_cons_succ]
          refine wpAnyK_take (i := 5) (v := .pointer (some ⟨p, off + k * 2, none⟩)) rfl (by kernel_rfl) (by kernel_rfl) (by kernel_rfl) (by kernel_rfl) (fun _ _ _ h => h) (Or.inl ⟨by rfl, fun w' hSw => ?_⟩) (by assumption) ?_
          · (try dsimp only at hSw); (try obtain ⟨hS1, hS2, hS3, hS4⟩ := hSw); go_simp
          try simp only [Act.put, List.getElem_toArray, List.getElem_cons_zero, List.getElem_cons_succ, List.setIfInBounds_toArray, List.set_cons_zero, List.set_cons_succ]
          refine wpAnyK_take (i := 6) (v := .agg #[.int .i64 (f k 0), .int .i64 (f k 1)]) rfl (by kernel_rfl) (by kernel_rfl) (by kernel_rfl) (by kernel_rfl) (fun _ _ _ h => h) (Or.inl ⟨by rfl, fun w' hSw => ?_⟩) (by assumption) ?_
          · (try dsimp only at hSw); (try obtain ⟨hS1, hS2, hS3, hS4⟩ := hSw); go_simp
          try simp only [Act.put, List.getElem_toArray, List.getElem_cons_zero, List.getElem_cons_succ, List.setIfInBounds_toArray, List.set_cons_zero, List.set_cons_succ]
          refine wpAnyK_one (i := 7) (by kernel_rfl) rfl (fun K hK => ?_)
          go_simp
          refine hK.out _ _ (fun _ => ⟨keepc hA b1, keepc hA x1, keepc hA q0, keepc hA q1⟩) (fun hH => ?_)
          clear hK K hHeld
          have hHeld := hH (by decide)
          clear hH
          try simp only [Act.put, List.getElem_toArray, List.getElem_cons_zero, List.getElem_cons_succ, List.setIfInBounds_toArray, List.set_cons_zero, List.set_cons_succ]
          refine wpAnyK_one (i := 8) (by kernel_rfl) rfl (fun K hK => ?_)
          refine step_append_run (by rfl) _ _ 24 (by rfl) (by rfl) (by rfl) hrun ?_
          refine hK.out _ _ (fun _ => HR.out.2) (fun hH => ?_)
          clear hK K hHeld
          have hHeld := hH (by decide)
          clear hH
          try simp only [Act.put, List.getElem_toArray, List.getElem_cons_zero, List.getElem_cons_succ, List.setIfInBounds_toArray, List.set_cons_zero, List.set_cons_succ]
          refine wpAnyK_take (i := 9) (v := .pointer (some ⟨B, 1, none⟩)) rfl (by kernel_rfl) (by kernel_rfl) (by kernel_rfl) (by kernel_rfl) (fun _ _ _ h => h) (Or.inl ⟨by rfl, fun w' hSw => ?_⟩) (by assumption) ?_
          · (try dsimp only at hSw); (try obtain ⟨hS1, hS2, hS3, hS4⟩ := hSw); go_simp
          try simp only [Act.put, List.getElem_toArray, List.getElem_cons_zero, List.getElem_cons_succ, List.setIfInBounds_toArray, List.set_cons_zero, List.set_cons_succ]
          obtain ⟨fb, j0, j1⟩ := row2_facts HR.out.1.1
          refine wpAnyK_one (i := 10) (by kernel_rfl) rfl (fun K hK => ?_)
          go_simp
          refine hK.out _ _ (fun h => absurd rfl h) (fun _ => ?_)
          clear hK K
          try simp only [Act.put, List.getElem_toArray, List.getElem_cons_zero, List.getElem_cons_succ, List.setIfInBounds_toArray, List.set_cons_zero, List.set_cons_succ]
          refine wpAnyK_done (by kernel_rfl) ?_
          have HW3 := hide HW2.out
          clear HW2 HR hrun hA fb j0 j1 x0 x1 b0 b1 q0 q1 heq
          go_wp2
          go_roundw
          case rel => exact ⟨k + 1, _, m + 1, by omega, by go_num, HM.out, HW3⟩
          case measure => simp [intOf]; omega
        · have c2 : lo ≤ hi := by omega
          have c3 : ¬ hi ≤ lo := by omega
          go_wp2
          refine wp_region_but (z := 10) (S := fun W => W.cell? ⟨B, 1, none⟩ = some (.slice ua m uc) ∧ W.cell? ⟨w.heap.size, 1, none⟩ = some (.slice (some ⟨p, off, none⟩) n cap) ∧ W.cell? ⟨p, off + k * 2, none⟩ = some (.int .i64 (f k 0)) ∧ W.cell? ⟨p, off + k * 2 + 1, none⟩ = some (.int .i64 (f k 1))) (by kernel_rfl) ⟨b1, x1, q0, q1⟩ (fun hHeld => ?_)
          refine wpAnyK_take (i := 0) (v := .pointer (some ⟨B, 1, none⟩)) rfl (by kernel_rfl) (by kernel_rfl) (by kernel_rfl) (by kernel_rfl) (fun _ _ _ h => h) (Or.inl ⟨by rfl, fun w' hSw => ?_⟩) (by assumption) ?_
          · (try dsimp only at hSw); (try obtain ⟨hS1, hS2, hS3, hS4⟩ := hSw); go_simp
          try simp only [Act.put, List.getElem_toArray, List.getElem_cons_zero, List.getElem_cons_succ, List.setIfInBounds_toArray, List.set_cons_zero, List.set_cons_succ]
          refine wpAnyK_take (i := 1) (v := .slice ua m uc) rfl (by kernel_rfl) (by kernel_rfl) (by kernel_rfl) (by kernel_rfl) (fun _ _ _ h => h) (Or.inl ⟨by rfl, fun w' hSw => ?_⟩) (by assumption) ?_
          · (try dsimp only at hSw); (try obtain ⟨hS1, hS2, hS3, hS4⟩ := hSw); go_simp
          try simp only [Act.put, List.getElem_toArray, List.getElem_cons_zero, List.getElem_cons_succ, List.setIfInBounds_toArray, List.set_cons_zero, List.set_cons_succ]
          refine wpAnyK_take (i := 2) (v := .pointer (some ⟨w.heap.size, 1, none⟩)) rfl (by kernel_rfl) (by kernel_rfl) (by kernel_rfl) (by kernel_rfl) (fun _ _ _ h => h) (Or.inl ⟨by rfl, fun w' hSw => ?_⟩) (by assumption) ?_
          · (try dsimp only at hSw); (try obtain ⟨hS1, hS2, hS3, hS4⟩ := hSw); go_simp
          try simp only [Act.put, List.getElem_toArray, List.getElem_cons_zero, List.getElem_cons_succ, List.setIfInBounds_toArray, List.set_cons_zero, List.set_cons_succ]
          refine wpAnyK_take (i := 3) (v := .slice (some ⟨p, off, none⟩) n cap) rfl (by kernel_rfl) (by kernel_rfl) (by kernel_rfl) (by kernel_rfl) (fun _ _ _ h => h) (Or.inl ⟨by rfl, fun w' hSw => ?_⟩) (by assumption) ?_
          · (try dsimp only at hSw); (try obtain ⟨hS1, hS2, hS3, hS4⟩ := hSw); go_simp
          try simp only [Act.put, List.getElem_toArray, List.getElem_cons_zero, List.getElem_cons_succ, List.setIfInBounds_toArray, List.set_cons_zero, List.set_cons_succ]
          refine wpAnyK_take (i := 4) (v := .int .i64 k) rfl (by kernel_rfl) (by kernel_rfl) (by kernel_rfl) (by kernel_rfl) (fun _ _ _ h => h) (Or.inl ⟨by rfl, fun w' hSw => ?_⟩) (by assumption) ?_
          · (try dsimp only at hSw); (try obtain ⟨hS1, hS2, hS3, hS4⟩ := hSw); go_simp
          try simp only [Act.put, List.getElem_toArray, List.getElem_cons_zero, List.getElem_cons_succ, List.setIfInBounds_toArray, List.set_cons_zero, List.set_cons_succ]
          refine wpAnyK_take (i := 5) (v := .pointer (some ⟨p, off + k * 2, none⟩)) rfl (by kernel_rfl) (by kernel_rfl) (by kernel_rfl) (by kernel_rfl) (fun _ _ _ h => h) (Or.inl ⟨by rfl, fun w' hSw => ?_⟩) (by assumption) ?_
          · (try dsimp only at hSw); (try obtain ⟨hS1, hS2, hS3, hS4⟩ := hSw); go_simp
          try simp only [Act.put, List.getElem_toArray, List.getElem_cons_zero, List.getElem_cons_succ, List.setIfInBounds_toArray, List.set_cons_zero, List.set_cons_succ]
          refine wpAnyK_take (i := 6) (v := .agg #[.int .i64 (f k 0), .int .i64 (f k 1)]) rfl (by kernel_rfl) (by kernel_rfl) (by kernel_rfl) (by kernel_rfl) (fun _ _ _ h => h) (Or.inl ⟨by rfl, fun w' hSw => ?_⟩) (by assumption) ?_
          · (try dsimp only at hSw); (try obtain ⟨hS1, hS2, hS3, hS4⟩ := hSw); go_simp
          try simp only [Act.put, List.getElem_toArray, List.getElem_cons_zero, List.getElem_cons_succ, List.setIfInBounds_toArray, List.set_cons_zero, List.set_cons_succ]
          refine wpAnyK_one (i := 7) (by kernel_rfl) rfl (fun K hK => ?_)
          go_simp
          refine hK.out _ _ (fun _ => ⟨keepc hA b1, keepc hA x1, keepc hA q0, keepc hA q1⟩) (fun hH => ?_)
          clear hK K hHeld
          have hHeld := hH (by decide)
          clear hH
          try simp only [Act.put, List.getElem_toArray, List.getElem_cons_zero, List.getElem_cons_succ, List.setIfInBounds_toArray, List.set_cons_zero, List.set_cons_succ]
          refine wpAnyK_one (i := 8) (by kernel_rfl) rfl (fun K hK => ?_)
          refine step_append_run (by rfl) _ _ 24 (by rfl) (by rfl) (by rfl) hrun ?_
          refine hK.out _ _ (fun _ => HR.out.2) (fun hH => ?_)
          clear hK K hHeld
          have hHeld := hH (by decide)
          clear hH
          try simp only [Act.put, List.getElem_toArray, List.getElem_cons_zero, List.getElem_cons_succ, List.setIfInBounds_toArray, List.set_cons_zero, List.set_cons_succ]
          refine wpAnyK_take (i := 9) (v := .pointer (some ⟨B, 1, none⟩)) rfl (by kernel_rfl) (by kernel_rfl) (by kernel_rfl) (by kernel_rfl) (fun _ _ _ h => h) (Or.inl ⟨by rfl, fun w' hSw => ?_⟩) (by assumption) ?_
          · (try dsimp only at hSw); (try obtain ⟨hS1, hS2, hS3, hS4⟩ := hSw); go_simp
          try simp only [Act.put, List.getElem_toArray, List.getElem_cons_zero, List.getElem_cons_succ, List.setIfInBounds_toArray, List.set_cons_zero, List.set_cons_succ]
          obtain ⟨fb, j0, j1⟩ := row2_facts HR.out.1.1
          refine wpAnyK_one (i := 10) (by kernel_rfl) rfl (fun K hK => ?_)
          go_simp
          refine hK.out _ _ (fun h => absurd rfl h) (fun _ => ?_)
          clear hK K
          try simp only [Act.put, List.getElem_toArray, List.getElem_cons_zero, List.getElem_cons_succ, List.setIfInBounds_toArray, List.set_cons_zero, List.set_cons_succ]
          refine wpAnyK_done (by kernel_rfl) ?_
          have HW3 := hide HW2.out
          clear HW2 HR hrun hA fb j0 j1 x0 x1 b0 b1 q0 q1 heq
          go_wp2
          go_roundw
          case rel => exact ⟨k + 1, _, m + 1, by omega, by go_num, HM.out, HW3⟩
          case measure => simp [intOf]; omega
        · go_wp2
          refine wp_region_but (z := 10) (S := fun W => W.cell? ⟨B, 1, none⟩ = some (.slice ua m uc) ∧ W.cell? ⟨w.heap.size, 1, none⟩ = some (.slice (some ⟨p, off, none⟩) n cap) ∧ W.cell? ⟨p, off + k * 2, none⟩ = some (.int .i64 (f k 0)) ∧ W.cell? ⟨p, off + k * 2 + 1, none⟩ = some (.int .i64 (f k 1))) (by kernel_rfl) ⟨b1, x1, q0, q1⟩ (fun hHeld => ?_)
          refine wpAnyK_take (i := 0) (v := .pointer (some ⟨B, 1, none⟩)) rfl (by kernel_rfl) (by kernel_rfl) (by kernel_rfl) (by kernel_rfl) (fun _ _ _ h => h) (Or.inl ⟨by rfl, fun w' hSw => ?_⟩) (by assumption) ?_
          · (try dsimp only at hSw); (try obtain ⟨hS1, hS2, hS3, hS4⟩ := hSw); go_simp
          try simp only [Act.put, List.getElem_toArray, List.getElem_cons_zero, List.getElem_cons_succ, List.setIfInBounds_toArray, List.set_cons_zero, List.set_cons_succ]
          refine wpAnyK_take (i := 1) (v := .slice ua m uc) rfl (by kernel_rfl) (by kernel_rfl) (by kernel_rfl) (by kernel_rfl) (fun _ _ _ h => h) (Or.inl ⟨by rfl, fun w' hSw => ?_⟩) (by assumption) ?_
          · (try dsimp only at hSw); (try obtain ⟨hS1, hS2, hS3, hS4⟩ := hSw); go_simp
          try simp only [Act.put, List.getElem_toArray, List.getElem_cons_zero, List.getElem_cons_succ, List.setIfInBounds_toArray, List.set_cons_zero, List.set_cons_succ]
          refine wpAnyK_take (i := 2) (v := .pointer (some ⟨w.heap.size, 1, none⟩)) rfl (by kernel_rfl) (by kernel_rfl) (by kernel_rfl) (by kernel_rfl) (fun _ _ _ h => h) (Or.inl ⟨by rfl, fun w' hSw => ?_⟩) (by assumption) ?_
          · (try dsimp only at hSw); (try obtain ⟨hS1, hS2, hS3, hS4⟩ := hSw); go_simp
          try simp only [Act.put, List.getElem_toArray, List.getElem_cons_zero, List.getElem_cons_succ, List.setIfInBounds_toArray, List.set_cons_zero, List.set_cons_succ]
          refine wpAnyK_take (i := 3) (v := .slice (some ⟨p, off, none⟩) n cap) rfl (by kernel_rfl) (by kernel_rfl) (by kernel_rfl) (by kernel_rfl) (fun _ _ _ h => h) (Or.inl ⟨by rfl, fun w' hSw => ?_⟩) (by assumption) ?_
          · (try dsimp only at hSw); (try obtain ⟨hS1, hS2, hS3, hS4⟩ := hSw); go_simp
          try simp only [Act.put, List.getElem_toArray, List.getElem_cons_zero, List.getElem_cons_succ, List.setIfInBounds_toArray, List.set_cons_zero, List.set_cons_succ]
          refine wpAnyK_take (i := 4) (v := .int .i64 k) rfl (by kernel_rfl) (by kernel_rfl) (by kernel_rfl) (by kernel_rfl) (fun _ _ _ h => h) (Or.inl ⟨by rfl, fun w' hSw => ?_⟩) (by assumption) ?_
          · (try dsimp only at hSw); (try obtain ⟨hS1, hS2, hS3, hS4⟩ := hSw); go_simp
          try simp only [Act.put, List.getElem_toArray, List.getElem_cons_zero, List.getElem_cons_succ, List.setIfInBounds_toArray, List.set_cons_zero, List.set_cons_succ]
          refine wpAnyK_take (i := 5) (v := .pointer (some ⟨p, off + k * 2, none⟩)) rfl (by kernel_rfl) (by kernel_rfl) (by kernel_rfl) (by kernel_rfl) (fun _ _ _ h => h) (Or.inl ⟨by rfl, fun w' hSw => ?_⟩) (by assumption) ?_
          · (try dsimp only at hSw); (try obtain ⟨hS1, hS2, hS3, hS4⟩ := hSw); go_simp
          try simp only [Act.put, List.getElem_toArray, List.getElem_cons_zero, List.getElem_cons_succ, List.setIfInBounds_toArray, List.set_cons_zero, List.set_cons_succ]
          refine wpAnyK_take (i := 6) (v := .agg #[.int .i64 (f k 0), .int .i64 (f k 1)]) rfl (by kernel_rfl) (by kernel_rfl) (by kernel_rfl) (by kernel_rfl) (fun _ _ _ h => h) (Or.inl ⟨by rfl, fun w' hSw => ?_⟩) (by assumption) ?_
          · (try dsimp only at hSw); (try obtain ⟨hS1, hS2, hS3, hS4⟩ := hSw); go_simp
          try simp only [Act.put, List.getElem_toArray, List.getElem_cons_zero, List.getElem_cons_succ, List.setIfInBounds_toArray, List.set_cons_zero, List.set_cons_succ]
          refine wpAnyK_one (i := 7) (by kernel_rfl) rfl (fun K hK => ?_)
          go_simp
          refine hK.out _ _ (fun _ => ⟨keepc hA b1, keepc hA x1, keepc hA q0, keepc hA q1⟩) (fun hH => ?_)
          clear hK K hHeld
          have hHeld := hH (by decide)
          clear hH
          try simp only [Act.put, List.getElem_toArray, List.getElem_cons_zero, List.getElem_cons_succ, List.setIfInBounds_toArray, List.set_cons_zero, List.set_cons_succ]
          refine wpAnyK_one (i := 8) (by kernel_rfl) rfl (fun K hK => ?_)
          refine step_append_run (by rfl) _ _ 24 (by rfl) (by rfl) (by rfl) hrun ?_
          refine hK.out _ _ (fun _ => HR.out.2) (fun hH => ?_)
          clear hK K hHeld
          have hHeld := hH (by decide)
          clear hH
          try simp only [Act.put, List.getElem_toArray, List.getElem_cons_zero, List.getElem_cons_succ, List.setIfInBounds_toArray, List.set_cons_zero, List.set_cons_succ]
          refine wpAnyK_take (i := 9) (v := .pointer (some ⟨B, 1, none⟩)) rfl (by kernel_rfl) (by kernel_rfl) (by kernel_rfl) (by kernel_rfl) (fun _ _ _ h => h) (Or.inl ⟨by rfl, fun w' hSw => ?_⟩) (by assumption) ?_
          · (try dsimp only at hSw); (try obtain ⟨hS1, hS2, hS3, hS4⟩ := hSw); go_simp
          try simp only [Act.put, List.getElem_toArray, List.getElem_cons_zero, List.getElem_cons_succ, List.setIfInBounds_toArray, List.set_cons_zero, List.set_cons_succ]
          obtain ⟨fb, j0, j1⟩ := row2_facts HR.out.1.1
          refine wpAnyK_one (i := 10) (by kernel_rfl) rfl (fun K hK => ?_)
          go_simp
          refine hK.out _ _ (fun h => absurd rfl h) (fun _ => ?_)
          clear hK K
          try simp only [Act.put, List.getElem_toArray, List.getElem_cons_zero, List.getElem_cons_succ, List.setIfInBounds_toArray, List.set_cons_zero, List.set_cons_succ]
          refine wpAnyK_done (by kernel_rfl) ?_
          have HW3 := hide HW2.out
          clear HW2 HR hrun hA fb j0 j1 x0 x1 b0 b1 q0 q1 heq
          go_wp2
          go_roundw
          case rel => exact ⟨k + 1, _, m + 1, by omega, by go_num, HM.out, HW3⟩
          case measure => simp [intOf]; omega
    · have HFm : Hid (m = n - 1) := hide (by rw [hm, if_neg (by omega)]; omega)
      obtain ⟨fr, r0, r1⟩ := row2_facts HW.out.wb.res
      have hne : ¬ w.heap.size + 1 = B := by have := HW.out.lo; omega
      have HF : Hid (Orow ((wr.setCell ⟨w.heap.size + 1, 0, none⟩ (.int .i64 N)).setCell ⟨w.heap.size + 1, 1, none⟩ (.slice ua m uc)) (w.heap.size + 1) 31 2 (.slice ua m uc) (n - 1) (n - 1) (fk f k0) ∧ Below w.heap.size w ((wr.setCell ⟨w.heap.size + 1, 0, none⟩ (.int .i64 N)).setCell ⟨w.heap.size + 1, 1, none⟩ (.slice ua m uc))) := by
        refine hide ⟨?_, HW.out.wb.fin _ _⟩
        have hlo := HW.out.lo
        have h9 := HW.out.row
        rw [HFm.out] at h9 ⊢
        exact ((h9.far (by omega)).far (by omega)).lower (by omega)
      clear HW hm
      go_wp2
      refine bodyPost_ret (v := .tuple #[.agg (nt N (.slice ua m uc)), .bool true]) (by simp [results, Try.results23, go_sem, r0, r1]) rfl ⟨.inl ⟨HN.out, k0, _, hk0, HK.out.1.trans HJ.out.1.symm, HK.out.2.trans HJ.out.2.symm, rfl, HF.out.1⟩, HF.out.2⟩

theorem specWithout_any (N : Int) (ad : Option Addr) (n cap : Nat) (f : Nat → Nat → Int) (a b : Int) (w : World) (hs : Sr w (.slice ad n cap) 2 n f) (hl : n ≤ 1048576) :
    Calls Try.prog 23 #[.agg (nt N (.slice ad n cap)), .int .i64 a, .int .i64 b] w (WPost w N n f a b) :=
  specWithout_lt N ad n cap f a b (min a b) (max a b) w hs hl (by omega) (hide ⟨rfl, rfl⟩)

end Go.Proofs.Ytgafpepmmjjaaaa
