/- LdG -/
import Derived.Test.YtnkocikbapbbmaaYnkPlay16
/- impl.taken: a text taken off its row (written by mkLdG.py) -/
namespace Go.Proofs.Ytnkocikbapbbmaa
open Go.RowKit
set_option linter.unusedVariables false
set_option linter.unusedSimpArgs false

/-- a row without one of its elements -/
def dlt {α : Type} (t : Nat → α) (z : Nat) : Nat → α := fun j => if j < z then t j else t (j + 1)
theorem wF_one (t : Nat → ByteArray) (h : Nat → Bool) (j i : Nat) : (wF t h j i).oneCell' = true := by
  unfold wF
  split <;> rfl
theorem wF_low {t : Nat → ByteArray} {h : Nat → Bool} {z j i : Nat} (hj : j < z) : wF (dlt t z) (dlt h z) j i = wF t h j i := by
  simp [wF, dlt, hj]
theorem wF_high {t : Nat → ByteArray} {h : Nat → Bool} {z j i : Nat} : wF (dlt t z) (dlt h z) (z + j) i = wF t h (j + (z + 1)) i := by
  have h1 : ¬ z + j < z := by omega
  have h2 : z + j + 1 = j + (z + 1) := by omega
  simp [wF, dlt, h1, h2]
/-- the three boxes of impl.taken -/
structure Tk (w W : World) (l p r : Array Value) : Prop where
  bel : Below w.heap.size w W
  lk : W.heap[w.heap.size]? = some (.cells l 30 (0, 0))
  pl : W.heap[w.heap.size + 1]? = some (.cells p 100 (0, 0))
  rs : W.heap[w.heap.size + 1 + 1]? = some (.cells r 30 (0, 0))
theorem Tk.step {w W V : World} {l p r : Array Value} (h : Tk w W l p r) (hb : Below W.heap.size W V) : Tk w V l p r := ⟨h.bel.trans (hb.mono h.bel.size), heap_bl h.lk hb, heap_bl h.pl hb, heap_bl h.rs hb⟩
theorem Tk.drew {w W : World} {l p r : Array Value} (h : Tk w W l p r) : Tk w W.drew l p r := ⟨h.bel.drew, h.lk, h.pl, h.rs⟩
theorem tk_start (w : World) (l p r : Array Value) : Tk w (((w.alloc (.cells l 30)).alloc (.cells p 100)).alloc (.cells r 30)) l p r := by
  refine ⟨(((Below.refl _ _).alloc (Nat.le_refl _) _).alloc (by simp) _).alloc (by simp; omega) _, ?_, ?_, ?_⟩
  · rw [Below.heap_alloc _ _ _ (by simp; omega), Below.heap_alloc _ _ _ (by simp)]; exact heap_alloc_new _ _
  · rw [Below.heap_alloc _ _ _ (by simp)]
    have := heap_alloc_new (w.alloc (.cells l 30)) (.cells p 100)
    simpa only [World.size_alloc] using this
  · have := heap_alloc_new ((w.alloc (.cells l 30)).alloc (.cells p 100)) (.cells r 30)
    simpa only [World.size_alloc] using this
theorem Tk.cells {w W : World} {x0 x1 x2 x3 x4 x5 a b : Value} {r : Array Value} (h : Tk w W #[x0, x1, x2, x3, x4, x5] #[a, b] r) : W.cell? ⟨w.heap.size, 0, none⟩ = some x0 ∧ W.cell? ⟨w.heap.size, 1, none⟩ = some x1 ∧ W.cell? ⟨w.heap.size, 2, none⟩ = some x2 ∧ W.cell? ⟨w.heap.size, 3, none⟩ = some x3 ∧ W.cell? ⟨w.heap.size, 4, none⟩ = some x4 ∧ W.cell? ⟨w.heap.size, 5, none⟩ = some x5 ∧ W.cell? ⟨w.heap.size + 1, 0, none⟩ = some a ∧ W.cell? ⟨w.heap.size + 1, 1, none⟩ = some b :=
  ⟨(box6 h.lk).2.1, (box6 h.lk).2.2.1, (box6 h.lk).2.2.2.1, (box6 h.lk).2.2.2.2.1, (box6 h.lk).2.2.2.2.2.1, (box6 h.lk).2.2.2.2.2.2, (cell_of_row _ _ 0 _ _ _ h.pl).trans rfl, (cell_of_row _ _ 1 _ _ _ h.pl).trans rfl⟩

set_option maxHeartbeats 4000000 in
set_option maxRecDepth 20000 in
theorem taken_dn (pb pk : Int) (wa ga da ua : Option Addr) (nw ng nd nu wc gc dc uc : Nat) (base z : Nat) (t : Nat → ByteArray) (h : Nat → Bool) (w : World) (hv : Rg w base (.slice da nd dc) 2 nd (wF t h)) (hz : z < nd) (hn : nd ≤ 1048576) :
    Calls Try.prog 72 #[.agg (l6 pb (.slice wa nw wc) pk (.slice ga ng gc) (.slice da nd dc) (.slice ua nu uc)), .agg #[.bool false, .int .i64 (z : Int)]] w fun e w' => ∃ ux kx, e = .returned (.tuple #[.string (t z), .agg (l6 pb (.slice wa nw wc) pk (.slice ga ng gc) (.slice ux (nd - 1) kx) (.slice ua nu uc)), .int .i64 0]) ∧ Rg w' w.heap.size (.slice ux (nd - 1) kx) 2 (nd - 1) (wF (dlt t z) (dlt h z)) ∧ Below w.heap.size w w' := by
  obtain ⟨g, off, G, hae, hcap, hc0, hG1, hG2, HH, HL⟩ : ∃ (g off : Nat) (G : Nat → Nat → Value), da = some ⟨g, off, none⟩ ∧ nd ≤ dc ∧ w.cell? ⟨g, off + z * 2, none⟩ = some (.string (t z)) ∧ (∀ j i, (G j i).oneCell' = true) ∧ (∀ j i, G j i = wF (dlt t z) (dlt h z) (z + j) i) ∧ Hid (∀ V, Below w.heap.size w V → Sg V (.slice (some ⟨g, off, none⟩) z dc) 2 z (wF (dlt t z) (dlt h z))) ∧ Hid (∀ V, Below w.heap.size w V → Sg V (.slice (if dc = z + 1 then some ⟨g, off, none⟩ else some ⟨g, off + (z + 1) * 2, none⟩) (nd - (z + 1)) (dc - (z + 1))) 2 (nd - (z + 1)) G) := by
    rcases hv with ⟨_, h0⟩ | ⟨g, off, k, e, h1, hp, h0, h2, h3, h4⟩
    · omega
    · simp only [Value.slice.injEq] at e
      obtain ⟨rfl, _, rfl⟩ := e
      refine ⟨g, off, fun j i => wF t h (j + (z + 1)) i, rfl, h1, ?_, fun j i => wF_one t h (j + (z + 1)) i, fun j i => (wF_high (t := t) (h := h) (z := z) (j := j) (i := i)).symm, hide (fun V hb => ⟨_, _, rfl, fun _ => ⟨g, off, rfl, fun j hj i hi => ?_⟩⟩), hide (fun V hb => ⟨_, _, rfl, fun hp => ⟨g, off + (z + 1) * 2, by rw [if_neg (by omega)], fun j hj i hi => ?_⟩⟩)⟩
      · have := h4 (z * 2) (by omega)
        rw [this]
        have e1 : z * 2 / 2 = z := by omega
        have e2 : z * 2 % 2 = 0 := by omega
        rw [e1, e2]; rfl
      · have := h4 (j * 2 + i) (by omega)
        rw [show (j * 2 + i) / 2 = j by omega, show (j * 2 + i) % 2 = i by omega, ← Nat.add_assoc] at this
        rw [wF_low hj]
        exact keepc hb this
      · have := h4 ((z + 1) * 2 + (j * 2 + i)) (by omega)
        rw [show ((z + 1) * 2 + (j * 2 + i)) / 2 = j + (z + 1) by omega, show ((z + 1) * 2 + (j * 2 + i)) % 2 = i by omega] at this
        have e : off + (z + 1) * 2 + j * 2 + i = off + ((z + 1) * 2 + (j * 2 + i)) := by omega
        rw [e]
        exact keepc hb this
  subst hae
  have hF1 := wF_one (dlt t z) (dlt h z)
  clear hv
  have hzi : (z : Int) < (nd : Int) := by omega
  have hw1 : wrap64 ((z : Int) + 1) = (z : Int) + 1 := Go.IntWalk.wrap64_in _ (by omega)
  have hw2 : IntKind.i64.wrap ((z : Int) + 1) = (z : Int) + 1 := by simp [IntKind.wrap, IntKind.signed, IntKind.bits] <;> omega
  have sh := fun W => sl_head g off nd dc z (by omega) W
  have st := fun W => sl_tail g off nd dc z (by omega) W
  obtain ⟨ta, hta⟩ : ∃ ta, (if dc = z + 1 then some (⟨g, off, none⟩ : Addr) else some ⟨g, off + (z + 1) * 2, none⟩) = ta := ⟨_, rfl⟩
  rw [hta] at HL
  simp only [hta] at st
  clear hta
  have hth : thB nd (z : Int) = true := by simp [thB]; omega
  have tk0 := tk_start w (l6 pb (.slice wa nw wc) pk (.slice ga ng gc) (.slice (some ⟨g, off, none⟩) nd dc) (.slice ua nu uc)) #[.bool false, .int .i64 (z : Int)] #[.int .i64 0, .slice none 0 0, .int .i64 0, .slice none 0 0, .slice none 0 0, .slice none 0 0]
  obtain ⟨W, hE⟩ : ∃ W, (((w.alloc (.cells (l6 pb (.slice wa nw wc) pk (.slice ga ng gc) (.slice (some ⟨g, off, none⟩) nd dc) (.slice ua nu uc)) 30)).alloc (.cells #[.bool false, .int .i64 (z : Int)] 100)).alloc (.cells #[.int .i64 0, .slice none 0 0, .int .i64 0, .slice none 0 0, .slice none 0 0, .slice none 0 0] 30)) = W := ⟨_, rfl⟩
  rw [hE] at tk0
  obtain ⟨z0, z1, z2, z3, z4, z5, p0, p1⟩ := tk0.cells
  go_enter Try.func72, Try.ntmps72
  go_wp2_with fail
  clear hE
  refine (there_dn pb pk wa ga (some ⟨g, off, none⟩) ua nw ng nd nu wc gc dc uc (z : Int) _).mono ?_
  rintro e w1 ⟨rfl, hb1⟩
  rw [hth]
  have tk1 := tk0.step hb1
  clear z0 z1 z2 z3 z4 z5 p0 p1 tk0 hb1
  obtain ⟨z0, z1, z2, z3, z4, z5, p0, p1⟩ := tk1.cells
  go_wp2_with fail
  refine (wires_dn pb pk wa ga (some ⟨g, off, none⟩) ua nw ng nd nu wc gc dc uc _).mono ?_
  rintro e w2 ⟨rfl, hb2⟩
  have tk2 := tk1.step hb2
  clear z0 z1 z2 z3 z4 z5 p0 p1 tk1 hb2
  go_wp2
  refine wp_region_held_drew (S := fun w' => Tk w w' (l6 pb (.slice wa nw wc) pk (.slice ga ng gc) (.slice (some ⟨g, off, none⟩) nd dc) (.slice ua nu uc)) #[.bool false, .int .i64 (z : Int)] #[.int .i64 0, .slice none 0 0, .int .i64 0, .slice none 0 0, .slice none 0 0, .slice none 0 0]) (by kernel_rfl) tk2.drew (fun hHeld => ?_)
  refine th0 0 (.slice (some ⟨g, off, none⟩) nd dc) rfl fun _ => ?_
  refine th0 1 (.pointer (some ⟨w.heap.size + 1, 1, none⟩)) rfl fun _ => ?_
  refine th 2 (.int .i64 (z : Int)) rfl (fun w' hSw => by (try dsimp only at hSw); obtain ⟨z0, z1, z2, z3, z4, z5, p0, p1⟩ := hSw.cells; go_simp) fun _ => ?_
  refine th0 3 (.slice (some ⟨g, off, none⟩) z dc) rfl fun _ => ?_
  refine th0 4 (.slice (some ⟨g, off, none⟩) nd dc) rfl fun _ => ?_
  refine th0 5 (.pointer (some ⟨w.heap.size + 1, 1, none⟩)) rfl fun _ => ?_
  refine th 6 (.int .i64 (z : Int)) rfl (fun w' hSw => by (try dsimp only at hSw); obtain ⟨z0, z1, z2, z3, z4, z5, p0, p1⟩ := hSw.cells; go_simp) fun _ => ?_
  refine th0 7 (.int .i64 ((z : Int) + 1)) rfl fun _ => ?_
  refine th0 8 (.slice ta (nd - (z + 1)) (dc - (z + 1))) rfl fun _ => ?_
  refine wpAnyH_ready (rs := [9]) (by kernel_rfl) (by simp) ?_
  refine AllReadyH.cons rfl (fun K hK => ?_) AllReadyH.nil
  go_simp
  have hA : Below w2.heap.size w2 (w2.alloc (.cells #[.slice (some ⟨g, off, none⟩) z dc, .slice ta (nd - (z + 1)) (dc - (z + 1))] 28)).drew := ((Below.refl _ _).alloc (Nat.le_refl _) _).drew
  have kk : (w2.alloc (.cells #[.slice (some ⟨g, off, none⟩) z dc, .slice ta (nd - (z + 1)) (dc - (z + 1))] 28)).drew.heap[w2.heap.size]? = _ := heap_alloc_new w2 (.cells #[.slice (some ⟨g, off, none⟩) z dc, .slice ta (nd - (z + 1)) (dc - (z + 1))] 28)
  have tk3 := tk2.step hA
  refine hK.out _ _ tk3 (fun hHeld => ?_)
  clear hK K
  try simp only [Act.put, List.getElem_toArray, List.getElem_cons_zero, List.getElem_cons_succ, List.setIfInBounds_toArray, List.set_cons_zero, List.set_cons_succ]
  obtain ⟨w3, hw3⟩ : ∃ w3, (w2.alloc (.cells #[.slice (some ⟨g, off, none⟩) z dc, .slice ta (nd - (z + 1)) (dc - (z + 1))] 28)).drew = w3 := ⟨_, rfl⟩
  rw [hw3] at hHeld kk tk3 hA ⊢
  clear hw3
  have kk0 := (cell_of_row _ _ 0 _ _ _ kk).trans rfl
  have kk1 := (cell_of_row _ _ 1 _ _ _ kk).trans rfl
  refine wpAnyH_ready (rs := [10]) (by kernel_rfl) (by simp) ?_
  refine AllReadyH.cons rfl (fun K hK => ?_) AllReadyH.nil
  go_simp
  refine (concat_any w2.heap.size _ _ z (nd - (z + 1)) _ _ (wF (dlt t z) (dlt h z)) G hF1 hG1 _ kk0 kk1 (HH.out _ tk3.bel) (HL.out _ tk3.bel) (fun j hj i hi => hG2 j i) (by omega)).mono ?_
  rintro e w4 ⟨u, rfl, ho4, hb4⟩
  have tk4 := tk3.step hb4
  have hsz3 := lt_of_block tk3.rs
  have rg4 : Rg w4 (w.heap.size + 1 + 1 + 1) u 2 (nd - 1) (wF (dlt t z) (dlt h z)) := by
    have e : z + (nd - (z + 1)) = nd - 1 := by omega
    rw [e] at ho4
    exact (own_rg ho4 (fun x hx => rowG_get hx)).base (by omega)
  clear ho4
  skip
  obtain ⟨ux, kx, rfl, _⟩ := rg4.form
  refine hK.out _ _ tk4 (fun hHeld => ?_)
  clear hK K hsz3 kk kk0 kk1 hA tk3 hb4 HH HL
  try simp only [Act.put, List.getElem_toArray, List.getElem_cons_zero, List.getElem_cons_succ, List.setIfInBounds_toArray, List.set_cons_zero, List.set_cons_succ]
  refine th0 11 (.slice ux (nd - 1) kx) rfl fun _ => ?_
  refine wpAnyH_done (by kernel_rfl) ?_ _
  clear hHeld
  go_wp2
  refine wp_region_held_drew (S := fun w' => ∃ r, Tk w w' (l6 pb (.slice wa nw wc) pk (.slice ga ng gc) (.slice (some ⟨g, off, none⟩) nd dc) (.slice ua nu uc)) #[.bool false, .int .i64 (z : Int)] r) (by kernel_rfl) ⟨_, tk4.drew⟩ (fun hHeld => ?_)
  refine th0 0 (.slice (some ⟨g, off, none⟩) nd dc) rfl fun _ => ?_
  refine th0 1 (.pointer (some ⟨w.heap.size + 1, 1, none⟩)) rfl fun _ => ?_
  refine th 2 (.int .i64 (z : Int)) rfl (fun w' hSw => by (try dsimp only at hSw); obtain ⟨rr, hSw⟩ := hSw; obtain ⟨z0, z1, z2, z3, z4, z5, p0, p1⟩ := hSw.cells; go_simp) fun _ => ?_
  refine th 3 (.pointer (some ⟨g, off + z * 2, none⟩)) rfl (fun w' hSw => by (try dsimp only at hSw); (try simp only [addr_add]); go_simp) fun _ => ?_
  refine th0 4 (.pointer (some ⟨g, off + z * 2, none⟩)) rfl fun _ => ?_
  refine th 5 (.string (t z)) rfl (fun w' hSw => by (try dsimp only at hSw); obtain ⟨rr, hSw⟩ := hSw; obtain ⟨z0, z1, z2, z3, z4, z5, p0, p1⟩ := hSw.cells; have c0 := keepc hSw.bel hc0; go_simp) fun _ => ?_
  refine th 6 (.agg (l6 pb (.slice wa nw wc) pk (.slice ga ng gc) (.slice (some ⟨g, off, none⟩) nd dc) (.slice ua nu uc))) rfl (fun w' hSw => by (try dsimp only at hSw); obtain ⟨rr, hSw⟩ := hSw; obtain ⟨z0, z1, z2, z3, z4, z5, p0, p1⟩ := hSw.cells; go_simp) fun _ => ?_
  refine th0 7 (.pointer (some ⟨w.heap.size + 1, 0, none⟩)) rfl fun _ => ?_
  refine th 8 (.bool false) rfl (fun w' hSw => by (try dsimp only at hSw); obtain ⟨rr, hSw⟩ := hSw; obtain ⟨z0, z1, z2, z3, z4, z5, p0, p1⟩ := hSw.cells; go_simp) fun _ => ?_
  refine th0 9 (.slice ux (nd - 1) kx) rfl fun _ => ?_
  refine wpAnyH_ready (rs := [10]) (by kernel_rfl) (by simp) ?_
  refine AllReadyH.cons rfl (fun K hK => ?_) AllReadyH.nil
  go_simp
  refine (with_dn pb pk wa ga (some ⟨g, off, none⟩) ua nw ng nd nu wc gc dc uc ux (nd - 1) kx _).mono ?_
  rintro e w5 ⟨rfl, hb5⟩
  have hb5' : Below w4.heap.size w4 w5 := ((Below.refl _ _).drew).trans hb5
  have tk5 := tk4.step hb5'
  have rg5 := rg4.below hb5'
  refine hK.out _ _ ⟨_, tk5⟩ (fun hHeld => ?_)
  clear hK K hb5 hb5' tk4 rg4
  try simp only [Act.put, List.getElem_toArray, List.getElem_cons_zero, List.getElem_cons_succ, List.setIfInBounds_toArray, List.set_cons_zero, List.set_cons_succ]
  refine th0 11 (.string (t z)) rfl fun _ => ?_
  clear hHeld
  refine wpAnyH_ready (rs := [12]) (by kernel_rfl) (by simp) ?_
  refine AllReadyH.cons rfl (fun K hK => ?_) AllReadyH.nil
  obtain ⟨fr, y0, y1, y2, y3, y4, y5⟩ := box6 tk5.rs
  go_simp
  have hbs : Below (w.heap.size + 1 + 1) w5 ((((((w5.setCell ⟨w.heap.size + 1 + 1, 0, none⟩ (.int .i64 pb)).setCell ⟨w.heap.size + 1 + 1, 1, none⟩ (.slice wa nw wc)).setCell ⟨w.heap.size + 1 + 1, 2, none⟩ (.int .i64 pk)).setCell ⟨w.heap.size + 1 + 1, 3, none⟩ (.slice ga ng gc)).setCell ⟨w.heap.size + 1 + 1, 4, none⟩ (.slice ux (nd - 1) kx)).setCell ⟨w.heap.size + 1 + 1, 5, none⟩ (.slice ua nu uc)) := by
    have hle : w.heap.size + 1 + 1 ≤ w.heap.size + 1 + 1 := Nat.le_refl _
    iterate 6 (refine Below.setCell ?_ hle _)
    exact Below.refl _ _
  have hrow : ((((((w5.setCell ⟨w.heap.size + 1 + 1, 0, none⟩ (.int .i64 pb)).setCell ⟨w.heap.size + 1 + 1, 1, none⟩ (.slice wa nw wc)).setCell ⟨w.heap.size + 1 + 1, 2, none⟩ (.int .i64 pk)).setCell ⟨w.heap.size + 1 + 1, 3, none⟩ (.slice ga ng gc)).setCell ⟨w.heap.size + 1 + 1, 4, none⟩ (.slice ux (nd - 1) kx)).setCell ⟨w.heap.size + 1 + 1, 5, none⟩ (.slice ua nu uc)).heap[w.heap.size + 1 + 1]? = some (.cells (l6 pb (.slice wa nw wc) pk (.slice ga ng gc) (.slice ux (nd - 1) kx) (.slice ua nu uc)) 30 (0, 0)) := by
    rw [heap_setCell_same _ _ 5 _ _ _ (heap_setCell_same _ _ 4 _ _ _ (heap_setCell_same _ _ 3 _ _ _ (heap_setCell_same _ _ 2 _ _ _ (heap_setCell_same _ _ 1 _ _ _ (heap_setCell_same _ _ 0 _ _ _ tk5.rs)))))]; rfl
  have hRG : Rg ((((((w5.setCell ⟨w.heap.size + 1 + 1, 0, none⟩ (.int .i64 pb)).setCell ⟨w.heap.size + 1 + 1, 1, none⟩ (.slice wa nw wc)).setCell ⟨w.heap.size + 1 + 1, 2, none⟩ (.int .i64 pk)).setCell ⟨w.heap.size + 1 + 1, 3, none⟩ (.slice ga ng gc)).setCell ⟨w.heap.size + 1 + 1, 4, none⟩ (.slice ux (nd - 1) kx)).setCell ⟨w.heap.size + 1 + 1, 5, none⟩ (.slice ua nu uc)) w.heap.size (.slice ux (nd - 1) kx) 2 (nd - 1) (wF (dlt t z) (dlt h z)) := by
    refine Rg.base ?_ (show w.heap.size ≤ w.heap.size + 1 + 1 + 1 by omega)
    iterate 6 (refine Rg.other ?_ (Nat.lt_succ_self _))
    exact rg5
  have hBB : Below w.heap.size w ((((((w5.setCell ⟨w.heap.size + 1 + 1, 0, none⟩ (.int .i64 pb)).setCell ⟨w.heap.size + 1 + 1, 1, none⟩ (.slice wa nw wc)).setCell ⟨w.heap.size + 1 + 1, 2, none⟩ (.int .i64 pk)).setCell ⟨w.heap.size + 1 + 1, 3, none⟩ (.slice ga ng gc)).setCell ⟨w.heap.size + 1 + 1, 4, none⟩ (.slice ux (nd - 1) kx)).setCell ⟨w.heap.size + 1 + 1, 5, none⟩ (.slice ua nu uc)) := tk5.bel.trans (hbs.mono (by omega))
  have tk6 : Tk w ((((((w5.setCell ⟨w.heap.size + 1 + 1, 0, none⟩ (.int .i64 pb)).setCell ⟨w.heap.size + 1 + 1, 1, none⟩ (.slice wa nw wc)).setCell ⟨w.heap.size + 1 + 1, 2, none⟩ (.int .i64 pk)).setCell ⟨w.heap.size + 1 + 1, 3, none⟩ (.slice ga ng gc)).setCell ⟨w.heap.size + 1 + 1, 4, none⟩ (.slice ux (nd - 1) kx)).setCell ⟨w.heap.size + 1 + 1, 5, none⟩ (.slice ua nu uc)) (l6 pb (.slice wa nw wc) pk (.slice ga ng gc) (.slice (some ⟨g, off, none⟩) nd dc) (.slice ua nu uc)) #[.bool false, .int .i64 (z : Int)] (l6 pb (.slice wa nw wc) pk (.slice ga ng gc) (.slice ux (nd - 1) kx) (.slice ua nu uc)) := ⟨hBB, (hbs.block _ (by omega)).trans tk5.lk, (hbs.block _ (by omega)).trans tk5.pl, hrow⟩
  refine hK.out _ _ ⟨_, tk6⟩ (fun hHeld => ?_)
  clear hK K fr y0 y1 y2 y3 y4 y5 rg5 tk5 hbs tk6
  try simp only [Act.put, List.getElem_toArray, List.getElem_cons_zero, List.getElem_cons_succ, List.setIfInBounds_toArray, List.set_cons_zero, List.set_cons_succ]
  refine th0 13 (.int .i64 0) rfl fun _ => ?_
  refine wpAnyH_done (by kernel_rfl) ?_ _
  clear hHeld
  obtain ⟨_, q0, q1, q2, q3, q4, q5⟩ := box6 hrow
  have HF := hide (And.intro hRG hBB)
  clear hrow hRG hBB
  generalize (World.setCell _ _ _) = Y at q0 q1 q2 q3 q4 q5 HF ⊢
  go_wp2
  exact bodyPost_ret (v := .tuple #[.string (t z), .agg (l6 pb (.slice wa nw wc) pk (.slice ga ng gc) (.slice ux (nd - 1) kx) (.slice ua nu uc)), .int .i64 0]) (by simp [results, Try.results72, go_sem, q0, q1, q2, q3, q4, q5, l6]) rfl ⟨_, _, rfl, HF.out.1, HF.out.2⟩

set_option maxHeartbeats 4000000 in
set_option maxRecDepth 20000 in
theorem taken_up (pb pk : Int) (wa ga da ua : Option Addr) (nw ng nd nu wc gc dc uc : Nat) (base z : Nat) (t : Nat → ByteArray) (h : Nat → Bool) (w : World) (hv : Rg w base (.slice ua nu uc) 2 nu (wF t h)) (hz : z < nu) (hn : nu ≤ 1048576) :
    Calls Try.prog 72 #[.agg (l6 pb (.slice wa nw wc) pk (.slice ga ng gc) (.slice da nd dc) (.slice ua nu uc)), .agg #[.bool true, .int .i64 (z : Int)]] w fun e w' => ∃ ux kx, e = .returned (.tuple #[.string (t z), .agg (l6 pb (.slice wa nw wc) pk (.slice ga ng gc) (.slice da nd dc) (.slice ux (nu - 1) kx)), .int .i64 0]) ∧ Rg w' w.heap.size (.slice ux (nu - 1) kx) 2 (nu - 1) (wF (dlt t z) (dlt h z)) ∧ Below w.heap.size w w' := by
  obtain ⟨g, off, G, hae, hcap, hc0, hG1, hG2, HH, HL⟩ : ∃ (g off : Nat) (G : Nat → Nat → Value), ua = some ⟨g, off, none⟩ ∧ nu ≤ uc ∧ w.cell? ⟨g, off + z * 2, none⟩ = some (.string (t z)) ∧ (∀ j i, (G j i).oneCell' = true) ∧ (∀ j i, G j i = wF (dlt t z) (dlt h z) (z + j) i) ∧ Hid (∀ V, Below w.heap.size w V → Sg V (.slice (some ⟨g, off, none⟩) z uc) 2 z (wF (dlt t z) (dlt h z))) ∧ Hid (∀ V, Below w.heap.size w V → Sg V (.slice (if uc = z + 1 then some ⟨g, off, none⟩ else some ⟨g, off + (z + 1) * 2, none⟩) (nu - (z + 1)) (uc - (z + 1))) 2 (nu - (z + 1)) G) := by
    rcases hv with ⟨_, h0⟩ | ⟨g, off, k, e, h1, hp, h0, h2, h3, h4⟩
    · omega
    · simp only [Value.slice.injEq] at e
      obtain ⟨rfl, _, rfl⟩ := e
      refine ⟨g, off, fun j i => wF t h (j + (z + 1)) i, rfl, h1, ?_, fun j i => wF_one t h (j + (z + 1)) i, fun j i => (wF_high (t := t) (h := h) (z := z) (j := j) (i := i)).symm, hide (fun V hb => ⟨_, _, rfl, fun _ => ⟨g, off, rfl, fun j hj i hi => ?_⟩⟩), hide (fun V hb => ⟨_, _, rfl, fun hp => ⟨g, off + (z + 1) * 2, by rw [if_neg (by omega)], fun j hj i hi => ?_⟩⟩)⟩
      · have := h4 (z * 2) (by omega)
        rw [this]
        have e1 : z * 2 / 2 = z := by omega
        have e2 : z * 2 % 2 = 0 := by omega
        rw [e1, e2]; rfl
      · have := h4 (j * 2 + i) (by omega)
        rw [show (j * 2 + i) / 2 = j by omega, show (j * 2 + i) % 2 = i by omega, ← Nat.add_assoc] at this
        rw [wF_low hj]
        exact keepc hb this
      · have := h4 ((z + 1) * 2 + (j * 2 + i)) (by omega)
        rw [show ((z + 1) * 2 + (j * 2 + i)) / 2 = j + (z + 1) by omega, show ((z + 1) * 2 + (j * 2 + i)) % 2 = i by omega] at this
        have e : off + (z + 1) * 2 + j * 2 + i = off + ((z + 1) * 2 + (j * 2 + i)) := by omega
        rw [e]
        exact keepc hb this
  subst hae
  have hF1 := wF_one (dlt t z) (dlt h z)
  clear hv
  have hzi : (z : Int) < (nu : Int) := by omega
  have hw1 : wrap64 ((z : Int) + 1) = (z : Int) + 1 := Go.IntWalk.wrap64_in _ (by omega)
  have hw2 : IntKind.i64.wrap ((z : Int) + 1) = (z : Int) + 1 := by simp [IntKind.wrap, IntKind.signed, IntKind.bits] <;> omega
  have sh := fun W => sl_head g off nu uc z (by omega) W
  have st := fun W => sl_tail g off nu uc z (by omega) W
  obtain ⟨ta, hta⟩ : ∃ ta, (if uc = z + 1 then some (⟨g, off, none⟩ : Addr) else some ⟨g, off + (z + 1) * 2, none⟩) = ta := ⟨_, rfl⟩
  rw [hta] at HL
  simp only [hta] at st
  clear hta
  have hth : thB nu (z : Int) = true := by simp [thB]; omega
  have tk0 := tk_start w (l6 pb (.slice wa nw wc) pk (.slice ga ng gc) (.slice da nd dc) (.slice (some ⟨g, off, none⟩) nu uc)) #[.bool true, .int .i64 (z : Int)] #[.int .i64 0, .slice none 0 0, .int .i64 0, .slice none 0 0, .slice none 0 0, .slice none 0 0]
  obtain ⟨W, hE⟩ : ∃ W, (((w.alloc (.cells (l6 pb (.slice wa nw wc) pk (.slice ga ng gc) (.slice da nd dc) (.slice (some ⟨g, off, none⟩) nu uc)) 30)).alloc (.cells #[.bool true, .int .i64 (z : Int)] 100)).alloc (.cells #[.int .i64 0, .slice none 0 0, .int .i64 0, .slice none 0 0, .slice none 0 0, .slice none 0 0] 30)) = W := ⟨_, rfl⟩
  rw [hE] at tk0
  obtain ⟨z0, z1, z2, z3, z4, z5, p0, p1⟩ := tk0.cells
  go_enter Try.func72, Try.ntmps72
  go_wp2_with fail
  clear hE
  refine (there_up pb pk wa ga da (some ⟨g, off, none⟩) nw ng nd nu wc gc dc uc (z : Int) _).mono ?_
  rintro e w1 ⟨rfl, hb1⟩
  rw [hth]
  have tk1 := tk0.step hb1
  clear z0 z1 z2 z3 z4 z5 p0 p1 tk0 hb1
  obtain ⟨z0, z1, z2, z3, z4, z5, p0, p1⟩ := tk1.cells
  go_wp2_with fail
  refine (wires_up pb pk wa ga da (some ⟨g, off, none⟩) nw ng nd nu wc gc dc uc _).mono ?_
  rintro e w2 ⟨rfl, hb2⟩
  have tk2 := tk1.step hb2
  clear z0 z1 z2 z3 z4 z5 p0 p1 tk1 hb2
  go_wp2
  refine wp_region_held_drew (S := fun w' => Tk w w' (l6 pb (.slice wa nw wc) pk (.slice ga ng gc) (.slice da nd dc) (.slice (some ⟨g, off, none⟩) nu uc)) #[.bool true, .int .i64 (z : Int)] #[.int .i64 0, .slice none 0 0, .int .i64 0, .slice none 0 0, .slice none 0 0, .slice none 0 0]) (by kernel_rfl) tk2.drew (fun hHeld => ?_)
  refine th0 0 (.slice (some ⟨g, off, none⟩) nu uc) rfl fun _ => ?_
  refine th0 1 (.pointer (some ⟨w.heap.size + 1, 1, none⟩)) rfl fun _ => ?_
  refine th 2 (.int .i64 (z : Int)) rfl (fun w' hSw => by (try dsimp only at hSw); obtain ⟨z0, z1, z2, z3, z4, z5, p0, p1⟩ := hSw.cells; go_simp) fun _ => ?_
  refine th0 3 (.slice (some ⟨g, off, none⟩) z uc) rfl fun _ => ?_
  refine th0 4 (.slice (some ⟨g, off, none⟩) nu uc) rfl fun _ => ?_
  refine th0 5 (.pointer (some ⟨w.heap.size + 1, 1, none⟩)) rfl fun _ => ?_
  refine th 6 (.int .i64 (z : Int)) rfl (fun w' hSw => by (try dsimp only at hSw); obtain ⟨z0, z1, z2, z3, z4, z5, p0, p1⟩ := hSw.cells; go_simp) fun _ => ?_
  refine th0 7 (.int .i64 ((z : Int) + 1)) rfl fun _ => ?_
  refine th0 8 (.slice ta (nu - (z + 1)) (uc - (z + 1))) rfl fun _ => ?_
  refine wpAnyH_ready (rs := [9]) (by kernel_rfl) (by simp) ?_
  refine AllReadyH.cons rfl (fun K hK => ?_) AllReadyH.nil
  go_simp
  have hA : Below w2.heap.size w2 (w2.alloc (.cells #[.slice (some ⟨g, off, none⟩) z uc, .slice ta (nu - (z + 1)) (uc - (z + 1))] 28)).drew := ((Below.refl _ _).alloc (Nat.le_refl _) _).drew
  have kk : (w2.alloc (.cells #[.slice (some ⟨g, off, none⟩) z uc, .slice ta (nu - (z + 1)) (uc - (z + 1))] 28)).drew.heap[w2.heap.size]? = _ := heap_alloc_new w2 (.cells #[.slice (some ⟨g, off, none⟩) z uc, .slice ta (nu - (z + 1)) (uc - (z + 1))] 28)
  have tk3 := tk2.step hA
  refine hK.out _ _ tk3 (fun hHeld => ?_)
  clear hK K
  try simp only [Act.put, List.getElem_toArray, List.getElem_cons_zero, List.getElem_cons_succ, List.setIfInBounds_toArray, List.set_cons_zero, List.set_cons_succ]
  obtain ⟨w3, hw3⟩ : ∃ w3, (w2.alloc (.cells #[.slice (some ⟨g, off, none⟩) z uc, .slice ta (nu - (z + 1)) (uc - (z + 1))] 28)).drew = w3 := ⟨_, rfl⟩
  rw [hw3] at hHeld kk tk3 hA ⊢
  clear hw3
  have kk0 := (cell_of_row _ _ 0 _ _ _ kk).trans rfl
  have kk1 := (cell_of_row _ _ 1 _ _ _ kk).trans rfl
  refine wpAnyH_ready (rs := [10]) (by kernel_rfl) (by simp) ?_
  refine AllReadyH.cons rfl (fun K hK => ?_) AllReadyH.nil
  go_simp
  refine (concat_any w2.heap.size _ _ z (nu - (z + 1)) _ _ (wF (dlt t z) (dlt h z)) G hF1 hG1 _ kk0 kk1 (HH.out _ tk3.bel) (HL.out _ tk3.bel) (fun j hj i hi => hG2 j i) (by omega)).mono ?_
  rintro e w4 ⟨u, rfl, ho4, hb4⟩
  have tk4 := tk3.step hb4
  have hsz3 := lt_of_block tk3.rs
  have rg4 : Rg w4 (w.heap.size + 1 + 1 + 1) u 2 (nu - 1) (wF (dlt t z) (dlt h z)) := by
    have e : z + (nu - (z + 1)) = nu - 1 := by omega
    rw [e] at ho4
    exact (own_rg ho4 (fun x hx => rowG_get hx)).base (by omega)
  clear ho4
  skip
  obtain ⟨ux, kx, rfl, _⟩ := rg4.form
  refine hK.out _ _ tk4 (fun hHeld => ?_)
  clear hK K hsz3 kk kk0 kk1 hA tk3 hb4 HH HL
  try simp only [Act.put, List.getElem_toArray, List.getElem_cons_zero, List.getElem_cons_succ, List.setIfInBounds_toArray, List.set_cons_zero, List.set_cons_succ]
  refine th0 11 (.slice ux (nu - 1) kx) rfl fun _ => ?_
  refine wpAnyH_done (by kernel_rfl) ?_ _
  clear hHeld
  go_wp2
  refine wp_region_held_drew (S := fun w' => ∃ r, Tk w w' (l6 pb (.slice wa nw wc) pk (.slice ga ng gc) (.slice da nd dc) (.slice (some ⟨g, off, none⟩) nu uc)) #[.bool true, .int .i64 (z : Int)] r) (by kernel_rfl) ⟨_, tk4.drew⟩ (fun hHeld => ?_)
  refine th0 0 (.slice (some ⟨g, off, none⟩) nu uc) rfl fun _ => ?_
  refine th0 1 (.pointer (some ⟨w.heap.size + 1, 1, none⟩)) rfl fun _ => ?_
  refine th 2 (.int .i64 (z : Int)) rfl (fun w' hSw => by (try dsimp only at hSw); obtain ⟨rr, hSw⟩ := hSw; obtain ⟨z0, z1, z2, z3, z4, z5, p0, p1⟩ := hSw.cells; go_simp) fun _ => ?_
  refine th 3 (.pointer (some ⟨g, off + z * 2, none⟩)) rfl (fun w' hSw => by (try dsimp only at hSw); (try simp only [addr_add]); go_simp) fun _ => ?_
  refine th0 4 (.pointer (some ⟨g, off + z * 2, none⟩)) rfl fun _ => ?_
  refine th 5 (.string (t z)) rfl (fun w' hSw => by (try dsimp only at hSw); obtain ⟨rr, hSw⟩ := hSw; obtain ⟨z0, z1, z2, z3, z4, z5, p0, p1⟩ := hSw.cells; have c0 := keepc hSw.bel hc0; go_simp) fun _ => ?_
  refine th 6 (.agg (l6 pb (.slice wa nw wc) pk (.slice ga ng gc) (.slice da nd dc) (.slice (some ⟨g, off, none⟩) nu uc))) rfl (fun w' hSw => by (try dsimp only at hSw); obtain ⟨rr, hSw⟩ := hSw; obtain ⟨z0, z1, z2, z3, z4, z5, p0, p1⟩ := hSw.cells; go_simp) fun _ => ?_
  refine th0 7 (.pointer (some ⟨w.heap.size + 1, 0, none⟩)) rfl fun _ => ?_
  refine th 8 (.bool true) rfl (fun w' hSw => by (try dsimp only at hSw); obtain ⟨rr, hSw⟩ := hSw; obtain ⟨z0, z1, z2, z3, z4, z5, p0, p1⟩ := hSw.cells; go_simp) fun _ => ?_
  refine th0 9 (.slice ux (nu - 1) kx) rfl fun _ => ?_
  refine wpAnyH_ready (rs := [10]) (by kernel_rfl) (by simp) ?_
  refine AllReadyH.cons rfl (fun K hK => ?_) AllReadyH.nil
  go_simp
  refine (with_up pb pk wa ga da (some ⟨g, off, none⟩) nw ng nd nu wc gc dc uc ux (nu - 1) kx _).mono ?_
  rintro e w5 ⟨rfl, hb5⟩
  have hb5' : Below w4.heap.size w4 w5 := ((Below.refl _ _).drew).trans hb5
  have tk5 := tk4.step hb5'
  have rg5 := rg4.below hb5'
  refine hK.out _ _ ⟨_, tk5⟩ (fun hHeld => ?_)
  clear hK K hb5 hb5' tk4 rg4
  try simp only [Act.put, List.getElem_toArray, List.getElem_cons_zero, List.getElem_cons_succ, List.setIfInBounds_toArray, List.set_cons_zero, List.set_cons_succ]
  refine th0 11 (.string (t z)) rfl fun _ => ?_
  clear hHeld
  refine wpAnyH_ready (rs := [12]) (by kernel_rfl) (by simp) ?_
  refine AllReadyH.cons rfl (fun K hK => ?_) AllReadyH.nil
  obtain ⟨fr, y0, y1, y2, y3, y4, y5⟩ := box6 tk5.rs
  go_simp
  have hbs : Below (w.heap.size + 1 + 1) w5 ((((((w5.setCell ⟨w.heap.size + 1 + 1, 0, none⟩ (.int .i64 pb)).setCell ⟨w.heap.size + 1 + 1, 1, none⟩ (.slice wa nw wc)).setCell ⟨w.heap.size + 1 + 1, 2, none⟩ (.int .i64 pk)).setCell ⟨w.heap.size + 1 + 1, 3, none⟩ (.slice ga ng gc)).setCell ⟨w.heap.size + 1 + 1, 4, none⟩ (.slice (da) nd dc)).setCell ⟨w.heap.size + 1 + 1, 5, none⟩ (.slice ux (nu - 1) kx)) := by
    have hle : w.heap.size + 1 + 1 ≤ w.heap.size + 1 + 1 := Nat.le_refl _
    iterate 6 (refine Below.setCell ?_ hle _)
    exact Below.refl _ _
  have hrow : ((((((w5.setCell ⟨w.heap.size + 1 + 1, 0, none⟩ (.int .i64 pb)).setCell ⟨w.heap.size + 1 + 1, 1, none⟩ (.slice wa nw wc)).setCell ⟨w.heap.size + 1 + 1, 2, none⟩ (.int .i64 pk)).setCell ⟨w.heap.size + 1 + 1, 3, none⟩ (.slice ga ng gc)).setCell ⟨w.heap.size + 1 + 1, 4, none⟩ (.slice (da) nd dc)).setCell ⟨w.heap.size + 1 + 1, 5, none⟩ (.slice ux (nu - 1) kx)).heap[w.heap.size + 1 + 1]? = some (.cells (l6 pb (.slice wa nw wc) pk (.slice ga ng gc) (.slice da nd dc) (.slice ux (nu - 1) kx)) 30 (0, 0)) := by
    rw [heap_setCell_same _ _ 5 _ _ _ (heap_setCell_same _ _ 4 _ _ _ (heap_setCell_same _ _ 3 _ _ _ (heap_setCell_same _ _ 2 _ _ _ (heap_setCell_same _ _ 1 _ _ _ (heap_setCell_same _ _ 0 _ _ _ tk5.rs)))))]; rfl
  have hRG : Rg ((((((w5.setCell ⟨w.heap.size + 1 + 1, 0, none⟩ (.int .i64 pb)).setCell ⟨w.heap.size + 1 + 1, 1, none⟩ (.slice wa nw wc)).setCell ⟨w.heap.size + 1 + 1, 2, none⟩ (.int .i64 pk)).setCell ⟨w.heap.size + 1 + 1, 3, none⟩ (.slice ga ng gc)).setCell ⟨w.heap.size + 1 + 1, 4, none⟩ (.slice (da) nd dc)).setCell ⟨w.heap.size + 1 + 1, 5, none⟩ (.slice ux (nu - 1) kx)) w.heap.size (.slice ux (nu - 1) kx) 2 (nu - 1) (wF (dlt t z) (dlt h z)) := by
    refine Rg.base ?_ (show w.heap.size ≤ w.heap.size + 1 + 1 + 1 by omega)
    iterate 6 (refine Rg.other ?_ (Nat.lt_succ_self _))
    exact rg5
  have hBB : Below w.heap.size w ((((((w5.setCell ⟨w.heap.size + 1 + 1, 0, none⟩ (.int .i64 pb)).setCell ⟨w.heap.size + 1 + 1, 1, none⟩ (.slice wa nw wc)).setCell ⟨w.heap.size + 1 + 1, 2, none⟩ (.int .i64 pk)).setCell ⟨w.heap.size + 1 + 1, 3, none⟩ (.slice ga ng gc)).setCell ⟨w.heap.size + 1 + 1, 4, none⟩ (.slice (da) nd dc)).setCell ⟨w.heap.size + 1 + 1, 5, none⟩ (.slice ux (nu - 1) kx)) := tk5.bel.trans (hbs.mono (by omega))
  have tk6 : Tk w ((((((w5.setCell ⟨w.heap.size + 1 + 1, 0, none⟩ (.int .i64 pb)).setCell ⟨w.heap.size + 1 + 1, 1, none⟩ (.slice wa nw wc)).setCell ⟨w.heap.size + 1 + 1, 2, none⟩ (.int .i64 pk)).setCell ⟨w.heap.size + 1 + 1, 3, none⟩ (.slice ga ng gc)).setCell ⟨w.heap.size + 1 + 1, 4, none⟩ (.slice (da) nd dc)).setCell ⟨w.heap.size + 1 + 1, 5, none⟩ (.slice ux (nu - 1) kx)) (l6 pb (.slice wa nw wc) pk (.slice ga ng gc) (.slice da nd dc) (.slice (some ⟨g, off, none⟩) nu uc)) #[.bool true, .int .i64 (z : Int)] (l6 pb (.slice wa nw wc) pk (.slice ga ng gc) (.slice da nd dc) (.slice ux (nu - 1) kx)) := ⟨hBB, (hbs.block _ (by omega)).trans tk5.lk, (hbs.block _ (by omega)).trans tk5.pl, hrow⟩
  refine hK.out _ _ ⟨_, tk6⟩ (fun hHeld => ?_)
  clear hK K fr y0 y1 y2 y3 y4 y5 rg5 tk5 hbs tk6
  try simp only [Act.put, List.getElem_toArray, List.getElem_cons_zero, List.getElem_cons_succ, List.setIfInBounds_toArray, List.set_cons_zero, List.set_cons_succ]
  refine th0 13 (.int .i64 0) rfl fun _ => ?_
  refine wpAnyH_done (by kernel_rfl) ?_ _
  clear hHeld
  obtain ⟨_, q0, q1, q2, q3, q4, q5⟩ := box6 hrow
  have HF := hide (And.intro hRG hBB)
  clear hrow hRG hBB
  generalize (World.setCell _ _ _) = Y at q0 q1 q2 q3 q4 q5 HF ⊢
  go_wp2
  exact bodyPost_ret (v := .tuple #[.string (t z), .agg (l6 pb (.slice wa nw wc) pk (.slice ga ng gc) (.slice da nd dc) (.slice ux (nu - 1) kx)), .int .i64 0]) (by simp [results, Try.results72, go_sem, q0, q1, q2, q3, q4, q5, l6]) rfl ⟨_, _, rfl, HF.out.1, HF.out.2⟩

set_option maxHeartbeats 4000000 in
set_option maxRecDepth 20000 in
theorem taken_no_dn (pb pk : Int) (wa ga da ua : Option Addr) (nw ng nd nu wc gc dc uc : Nat) (z : Int) (w : World) (hth : thB nd z = false) :
    Calls Try.prog 72 #[.agg (l6 pb (.slice wa nw wc) pk (.slice ga ng gc) (.slice da nd dc) (.slice ua nu uc)), .agg #[.bool false, .int .i64 z]] w fun e w' => e = .returned (.tuple #[.string ⟨#[]⟩, .agg (l6 pb (.slice wa nw wc) pk (.slice ga ng gc) (.slice da nd dc) (.slice ua nu uc)), .int .i64 3]) ∧ Below w.heap.size w w' := by
  have tk0 := tk_start w (l6 pb (.slice wa nw wc) pk (.slice ga ng gc) (.slice da nd dc) (.slice ua nu uc)) #[.bool false, .int .i64 z] #[.int .i64 0, .slice none 0 0, .int .i64 0, .slice none 0 0, .slice none 0 0, .slice none 0 0]
  obtain ⟨W, hE⟩ : ∃ W, (((w.alloc (.cells (l6 pb (.slice wa nw wc) pk (.slice ga ng gc) (.slice da nd dc) (.slice ua nu uc)) 30)).alloc (.cells #[.bool false, .int .i64 z] 100)).alloc (.cells #[.int .i64 0, .slice none 0 0, .int .i64 0, .slice none 0 0, .slice none 0 0, .slice none 0 0] 30)) = W := ⟨_, rfl⟩
  rw [hE] at tk0
  obtain ⟨z0, z1, z2, z3, z4, z5, p0, p1⟩ := tk0.cells
  go_enter Try.func72, Try.ntmps72
  go_wp2_with fail
  clear hE
  refine (there_dn pb pk wa ga da ua nw ng nd nu wc gc dc uc z _).mono ?_
  rintro e w1 ⟨rfl, hb1⟩
  rw [hth]
  have tk1 := tk0.step hb1
  clear z0 z1 z2 z3 z4 z5 p0 p1 tk0 hb1
  go_wp2
  refine wp_region_held_drew (S := fun w' => ∃ r, Tk w w' (l6 pb (.slice wa nw wc) pk (.slice ga ng gc) (.slice da nd dc) (.slice ua nu uc)) #[.bool false, .int .i64 z] r) (by kernel_rfl) ⟨_, tk1.drew⟩ (fun hHeld => ?_)
  refine th 0 (.agg (l6 pb (.slice wa nw wc) pk (.slice ga ng gc) (.slice da nd dc) (.slice ua nu uc))) rfl (fun w' hSw => by (try dsimp only at hSw); obtain ⟨rr, hSw⟩ := hSw; obtain ⟨z0, z1, z2, z3, z4, z5, p0, p1⟩ := hSw.cells; go_simp) fun _ => ?_
  refine th0 1 (.string ⟨#[]⟩) rfl fun _ => ?_
  have tk5 := tk1.drew
  obtain ⟨VV, hVV⟩ : ∃ VV, w1.drew = VV := ⟨_, rfl⟩
  rw [hVV] at tk5 hHeld ⊢
  clear hVV hHeld
  refine wpAnyH_ready (rs := [2]) (by kernel_rfl) (by simp) ?_
  refine AllReadyH.cons rfl (fun K hK => ?_) AllReadyH.nil
  obtain ⟨fr, y0, y1, y2, y3, y4, y5⟩ := box6 tk5.rs
  go_simp
  have hbs : Below (w.heap.size + 1 + 1) VV ((((((VV.setCell ⟨w.heap.size + 1 + 1, 0, none⟩ (.int .i64 pb)).setCell ⟨w.heap.size + 1 + 1, 1, none⟩ (.slice wa nw wc)).setCell ⟨w.heap.size + 1 + 1, 2, none⟩ (.int .i64 pk)).setCell ⟨w.heap.size + 1 + 1, 3, none⟩ (.slice ga ng gc)).setCell ⟨w.heap.size + 1 + 1, 4, none⟩ (.slice da nd dc)).setCell ⟨w.heap.size + 1 + 1, 5, none⟩ (.slice ua nu uc)) := by
    have hle : w.heap.size + 1 + 1 ≤ w.heap.size + 1 + 1 := Nat.le_refl _
    iterate 6 (refine Below.setCell ?_ hle _)
    exact Below.refl _ _
  have hrow : ((((((VV.setCell ⟨w.heap.size + 1 + 1, 0, none⟩ (.int .i64 pb)).setCell ⟨w.heap.size + 1 + 1, 1, none⟩ (.slice wa nw wc)).setCell ⟨w.heap.size + 1 + 1, 2, none⟩ (.int .i64 pk)).setCell ⟨w.heap.size + 1 + 1, 3, none⟩ (.slice ga ng gc)).setCell ⟨w.heap.size + 1 + 1, 4, none⟩ (.slice da nd dc)).setCell ⟨w.heap.size + 1 + 1, 5, none⟩ (.slice ua nu uc)).heap[w.heap.size + 1 + 1]? = some (.cells (l6 pb (.slice wa nw wc) pk (.slice ga ng gc) (.slice da nd dc) (.slice ua nu uc)) 30 (0, 0)) := by
    rw [heap_setCell_same _ _ 5 _ _ _ (heap_setCell_same _ _ 4 _ _ _ (heap_setCell_same _ _ 3 _ _ _ (heap_setCell_same _ _ 2 _ _ _ (heap_setCell_same _ _ 1 _ _ _ (heap_setCell_same _ _ 0 _ _ _ tk5.rs)))))]; rfl
  have hBB : Below w.heap.size w ((((((VV.setCell ⟨w.heap.size + 1 + 1, 0, none⟩ (.int .i64 pb)).setCell ⟨w.heap.size + 1 + 1, 1, none⟩ (.slice wa nw wc)).setCell ⟨w.heap.size + 1 + 1, 2, none⟩ (.int .i64 pk)).setCell ⟨w.heap.size + 1 + 1, 3, none⟩ (.slice ga ng gc)).setCell ⟨w.heap.size + 1 + 1, 4, none⟩ (.slice da nd dc)).setCell ⟨w.heap.size + 1 + 1, 5, none⟩ (.slice ua nu uc)) := tk5.bel.trans (hbs.mono (by omega))
  have tk6 : Tk w ((((((VV.setCell ⟨w.heap.size + 1 + 1, 0, none⟩ (.int .i64 pb)).setCell ⟨w.heap.size + 1 + 1, 1, none⟩ (.slice wa nw wc)).setCell ⟨w.heap.size + 1 + 1, 2, none⟩ (.int .i64 pk)).setCell ⟨w.heap.size + 1 + 1, 3, none⟩ (.slice ga ng gc)).setCell ⟨w.heap.size + 1 + 1, 4, none⟩ (.slice da nd dc)).setCell ⟨w.heap.size + 1 + 1, 5, none⟩ (.slice ua nu uc)) (l6 pb (.slice wa nw wc) pk (.slice ga ng gc) (.slice da nd dc) (.slice ua nu uc)) #[.bool false, .int .i64 z] (l6 pb (.slice wa nw wc) pk (.slice ga ng gc) (.slice da nd dc) (.slice ua nu uc)) := ⟨hBB, (hbs.block _ (by omega)).trans tk5.lk, (hbs.block _ (by omega)).trans tk5.pl, hrow⟩
  refine hK.out _ _ ⟨_, tk6⟩ (fun hHeld => ?_)
  clear hK K fr y0 y1 y2 y3 y4 y5 tk5 hbs tk6
  try simp only [Act.put, List.getElem_toArray, List.getElem_cons_zero, List.getElem_cons_succ, List.setIfInBounds_toArray, List.set_cons_zero, List.set_cons_succ]
  refine th0 3 (.int .i64 3) rfl fun _ => ?_
  refine wpAnyH_done (by kernel_rfl) ?_ _
  clear hHeld tk1
  obtain ⟨_, q0, q1, q2, q3, q4, q5⟩ := box6 hrow
  have HF := hide hBB
  clear hrow hBB
  generalize (World.setCell _ _ _) = Y at q0 q1 q2 q3 q4 q5 HF ⊢
  go_wp2
  exact bodyPost_ret (v := .tuple #[.string ⟨#[]⟩, .agg (l6 pb (.slice wa nw wc) pk (.slice ga ng gc) (.slice da nd dc) (.slice ua nu uc)), .int .i64 3]) (by simp [results, Try.results72, go_sem, q0, q1, q2, q3, q4, q5, l6]) rfl ⟨rfl, HF.out⟩

set_option maxHeartbeats 4000000 in
set_option maxRecDepth 20000 in
theorem taken_no_up (pb pk : Int) (wa ga da ua : Option Addr) (nw ng nd nu wc gc dc uc : Nat) (z : Int) (w : World) (hth : thB nu z = false) :
    Calls Try.prog 72 #[.agg (l6 pb (.slice wa nw wc) pk (.slice ga ng gc) (.slice da nd dc) (.slice ua nu uc)), .agg #[.bool true, .int .i64 z]] w fun e w' => e = .returned (.tuple #[.string ⟨#[]⟩, .agg (l6 pb (.slice wa nw wc) pk (.slice ga ng gc) (.slice da nd dc) (.slice ua nu uc)), .int .i64 3]) ∧ Below w.heap.size w w' := by
  have tk0 := tk_start w (l6 pb (.slice wa nw wc) pk (.slice ga ng gc) (.slice da nd dc) (.slice ua nu uc)) #[.bool true, .int .i64 z] #[.int .i64 0, .slice none 0 0, .int .i64 0, .slice none 0 0, .slice none 0 0, .slice none 0 0]
  obtain ⟨W, hE⟩ : ∃ W, (((w.alloc (.cells (l6 pb (.slice wa nw wc) pk (.slice ga ng gc) (.slice da nd dc) (.slice ua nu uc)) 30)).alloc (.cells #[.bool true, .int .i64 z] 100)).alloc (.cells #[.int .i64 0, .slice none 0 0, .int .i64 0, .slice none 0 0, .slice none 0 0, .slice none 0 0] 30)) = W := ⟨_, rfl⟩
  rw [hE] at tk0
  obtain ⟨z0, z1, z2, z3, z4, z5, p0, p1⟩ := tk0.cells
  go_enter Try.func72, Try.ntmps72
  go_wp2_with fail
  clear hE
  refine (there_up pb pk wa ga da ua nw ng nd nu wc gc dc uc z _).mono ?_
  rintro e w1 ⟨rfl, hb1⟩
  rw [hth]
  have tk1 := tk0.step hb1
  clear z0 z1 z2 z3 z4 z5 p0 p1 tk0 hb1
  go_wp2
  refine wp_region_held_drew (S := fun w' => ∃ r, Tk w w' (l6 pb (.slice wa nw wc) pk (.slice ga ng gc) (.slice da nd dc) (.slice ua nu uc)) #[.bool true, .int .i64 z] r) (by kernel_rfl) ⟨_, tk1.drew⟩ (fun hHeld => ?_)
  refine th 0 (.agg (l6 pb (.slice wa nw wc) pk (.slice ga ng gc) (.slice da nd dc) (.slice ua nu uc))) rfl (fun w' hSw => by (try dsimp only at hSw); obtain ⟨rr, hSw⟩ := hSw; obtain ⟨z0, z1, z2, z3, z4, z5, p0, p1⟩ := hSw.cells; go_simp) fun _ => ?_
  refine th0 1 (.string ⟨#[]⟩) rfl fun _ => ?_
  have tk5 := tk1.drew
  obtain ⟨VV, hVV⟩ : ∃ VV, w1.drew = VV := ⟨_, rfl⟩
  rw [hVV] at tk5 hHeld ⊢
  clear hVV hHeld
  refine wpAnyH_ready (rs := [2]) (by kernel_rfl) (by simp) ?_
  refine AllReadyH.cons rfl (fun K hK => ?_) AllReadyH.nil
  obtain ⟨fr, y0, y1, y2, y3, y4, y5⟩ := box6 tk5.rs
  go_simp
  have hbs : Below (w.heap.size + 1 + 1) VV ((((((VV.setCell ⟨w.heap.size + 1 + 1, 0, none⟩ (.int .i64 pb)).setCell ⟨w.heap.size + 1 + 1, 1, none⟩ (.slice wa nw wc)).setCell ⟨w.heap.size + 1 + 1, 2, none⟩ (.int .i64 pk)).setCell ⟨w.heap.size + 1 + 1, 3, none⟩ (.slice ga ng gc)).setCell ⟨w.heap.size + 1 + 1, 4, none⟩ (.slice da nd dc)).setCell ⟨w.heap.size + 1 + 1, 5, none⟩ (.slice ua nu uc)) := by
    have hle : w.heap.size + 1 + 1 ≤ w.heap.size + 1 + 1 := Nat.le_refl _
    iterate 6 (refine Below.setCell ?_ hle _)
    exact Below.refl _ _
  have hrow : ((((((VV.setCell ⟨w.heap.size + 1 + 1, 0, none⟩ (.int .i64 pb)).setCell ⟨w.heap.size + 1 + 1, 1, none⟩ (.slice wa nw wc)).setCell ⟨w.heap.size + 1 + 1, 2, none⟩ (.int .i64 pk)).setCell ⟨w.heap.size + 1 + 1, 3, none⟩ (.slice ga ng gc)).setCell ⟨w.heap.size + 1 + 1, 4, none⟩ (.slice da nd dc)).setCell ⟨w.heap.size + 1 + 1, 5, none⟩ (.slice ua nu uc)).heap[w.heap.size + 1 + 1]? = some (.cells (l6 pb (.slice wa nw wc) pk (.slice ga ng gc) (.slice da nd dc) (.slice ua nu uc)) 30 (0, 0)) := by
    rw [heap_setCell_same _ _ 5 _ _ _ (heap_setCell_same _ _ 4 _ _ _ (heap_setCell_same _ _ 3 _ _ _ (heap_setCell_same _ _ 2 _ _ _ (heap_setCell_same _ _ 1 _ _ _ (heap_setCell_same _ _ 0 _ _ _ tk5.rs)))))]; rfl
  have hBB : Below w.heap.size w ((((((VV.setCell ⟨w.heap.size + 1 + 1, 0, none⟩ (.int .i64 pb)).setCell ⟨w.heap.size + 1 + 1, 1, none⟩ (.slice wa nw wc)).setCell ⟨w.heap.size + 1 + 1, 2, none⟩ (.int .i64 pk)).setCell ⟨w.heap.size + 1 + 1, 3, none⟩ (.slice ga ng gc)).setCell ⟨w.heap.size + 1 + 1, 4, none⟩ (.slice da nd dc)).setCell ⟨w.heap.size + 1 + 1, 5, none⟩ (.slice ua nu uc)) := tk5.bel.trans (hbs.mono (by omega))
  have tk6 : Tk w ((((((VV.setCell ⟨w.heap.size + 1 + 1, 0, none⟩ (.int .i64 pb)).setCell ⟨w.heap.size + 1 + 1, 1, none⟩ (.slice wa nw wc)).setCell ⟨w.heap.size + 1 + 1, 2, none⟩ (.int .i64 pk)).setCell ⟨w.heap.size + 1 + 1, 3, none⟩ (.slice ga ng gc)).setCell ⟨w.heap.size + 1 + 1, 4, none⟩ (.slice da nd dc)).setCell ⟨w.heap.size + 1 + 1, 5, none⟩ (.slice ua nu uc)) (l6 pb (.slice wa nw wc) pk (.slice ga ng gc) (.slice da nd dc) (.slice ua nu uc)) #[.bool true, .int .i64 z] (l6 pb (.slice wa nw wc) pk (.slice ga ng gc) (.slice da nd dc) (.slice ua nu uc)) := ⟨hBB, (hbs.block _ (by omega)).trans tk5.lk, (hbs.block _ (by omega)).trans tk5.pl, hrow⟩
  refine hK.out _ _ ⟨_, tk6⟩ (fun hHeld => ?_)
  clear hK K fr y0 y1 y2 y3 y4 y5 tk5 hbs tk6
  try simp only [Act.put, List.getElem_toArray, List.getElem_cons_zero, List.getElem_cons_succ, List.setIfInBounds_toArray, List.set_cons_zero, List.set_cons_succ]
  refine th0 3 (.int .i64 3) rfl fun _ => ?_
  refine wpAnyH_done (by kernel_rfl) ?_ _
  clear hHeld tk1
  obtain ⟨_, q0, q1, q2, q3, q4, q5⟩ := box6 hrow
  have HF := hide hBB
  clear hrow hBB
  generalize (World.setCell _ _ _) = Y at q0 q1 q2 q3 q4 q5 HF ⊢
  go_wp2
  exact bodyPost_ret (v := .tuple #[.string ⟨#[]⟩, .agg (l6 pb (.slice wa nw wc) pk (.slice ga ng gc) (.slice da nd dc) (.slice ua nu uc)), .int .i64 3]) (by simp [results, Try.results72, go_sem, q0, q1, q2, q3, q4, q5, l6]) rfl ⟨rfl, HF.out⟩


end Go.Proofs.Ytnkocikbapbbmaa
