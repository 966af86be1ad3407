/- HbS -/
import Derived.Test.YtlalldlbgnlbjaaGreatDoorYomeGot6
import Derived.Test.YtlalldlbgnlbjaaGreatDoorYomeGot3
/- the steps of a walk, in few words: what each leaves to be shown is shown by itself where it can be. No seat's function is named. -/
namespace Go.Proofs.YtlalldlbgnlbjaaGreatDoor
open Go.RowKit
set_option linter.unusedVariables false
set_option linter.unusedSimpArgs false
theorem Rg.mv {S : Nat → Prop} {w w' : World} {base : Nat} {v : Value} {m n : Nat} {f : Nat → Nat → Value} (h : Rg w base v m n f) (hm : Mv S w w') (hs : ∀ g, rb v = some g → ¬ S g) : Rg w' base v m n f := by
  rcases h with h | ⟨g, off, k, rfl, h1, hp, h0, h2, ⟨cur, T, h3, h5⟩, h4⟩
  · exact .inl h
  · have hb := hm.block g (lt_of_block h3) (hs g (rb_some hp))
    exact .inr ⟨g, off, k, rfl, h1, hp, h0, h2, ⟨cur, T, hb.trans h3, h5⟩, fun x hx => by rw [World.cell?_of_block (a := ⟨g, off + x, none⟩) hb]; exact h4 x hx⟩
theorem blk1 {w : World} {b off : Nat} {C : Array Value} {T : TypeId} (x : Value) (h : w.heap[b]? = some (.cells C T (0, 0))) : (w.setCell ⟨b, off, none⟩ x).heap[b]? = some (.cells (C.setIfInBounds off x) T (0, 0)) := heap_setCell_same _ _ off _ _ _ h
abbrev set2 (w : World) (b : Nat) (x0 x1 : Value) : World := (w.setCell ⟨b, 0, none⟩ x0).setCell ⟨b, 1, none⟩ x1
abbrev set3 (w : World) (b : Nat) (x0 x1 x2 : Value) : World := (set2 w b x0 x1).setCell ⟨b, 2, none⟩ x2
abbrev set6 (w : World) (b : Nat) (x0 x1 x2 x3 x4 x5 : Value) : World := (((set3 w b x0 x1 x2).setCell ⟨b, 3, none⟩ x3).setCell ⟨b, 4, none⟩ x4).setCell ⟨b, 5, none⟩ x5
abbrev set7 (w : World) (b : Nat) (x0 x1 x2 x3 x4 x5 x6 : Value) : World := (set6 w b x0 x1 x2 x3 x4 x5).setCell ⟨b, 6, none⟩ x6
section
variable {P : Program} {ops : Array Oper} {Q : Exit → Act → World → Prop} {a a' : Act} {af : Nat → Act} {w : World} {rest : List Oper} {o : Oper} {b : Nat} {C C' : Array Value} {T : TypeId}
theorem sv (v : Value) (k : wpList P ops Q rest a' w) (hw : Region.wanted o (yielded ops a.tmps) = true := by rfl) (h : (execOp a.eval o).run P w = .ok (.value v) w := by first | rfl | go_simp)
    (hp : a.put o.dst v = a' := by simp only [Act.put, List.getElem_toArray, List.getElem_cons_zero, List.getElem_cons_succ, List.setIfInBounds_toArray, List.set_cons_zero, List.set_cons_succ]; rfl) : wpList P ops Q (o :: rest) a w := by
  subst hp; exact sw_val hw h k
theorem sg (v : Value) (k : wpList P ops Q rest a' w) (hw : Region.wanted o (yielded ops a.tmps) = true := by rfl) (h : (execOp a.eval o).run P w = .ok (.value v) w := by go_simp)
    (hp : a.put o.dst v = a' := by simp only [Act.put, List.getElem_toArray, List.getElem_cons_zero, List.getElem_cons_succ, List.setIfInBounds_toArray, List.set_cons_zero, List.set_cons_succ]; rfl) : wpList P ops Q (o :: rest) a w := by
  subst hp; exact sw_val hw h k
theorem sp (k : wpList P ops Q rest a' w) (hw : Region.wanted o (yielded ops a.tmps) = false := by kernel_rfl)
    (hp : a.put o.dst undef = a' := by simp only [Act.put, List.getElem_toArray, List.getElem_cons_zero, List.getElem_cons_succ, List.setIfInBounds_toArray, List.set_cons_zero, List.set_cons_succ]; rfl) : wpList P ops Q (o :: rest) a w := by
  subst hp; exact sw_pass hw k
/-- a load of one cell -/
theorem sl (i : Nat) {x : Value} (hb : Hid (w.heap[b]? = some (.cells C T (0, 0)))) (k : wpList P ops Q rest a' w) (hx : C[i]? = some x := by rfl) (hw : Region.wanted o (yielded ops a.tmps) = true := by rfl)
    (h : w.cell? ⟨b, i, none⟩ = some x → (execOp a.eval o).run P w = .ok (.value x) w := by intro z0; go_simp)
    (hp : a.put o.dst x = a' := by simp only [Act.put, List.getElem_toArray, List.getElem_cons_zero, List.getElem_cons_succ, List.setIfInBounds_toArray, List.set_cons_zero, List.set_cons_succ]; rfl) : wpList P ops Q (o :: rest) a w := by
  subst hp; exact sw_val hw (h (cell_box i hb.out hx)) k
/-- a load of six cells -/
theorem sl6 {x0 x1 x2 x3 x4 x5 : Value} (hb : Hid (w.heap[b]? = some (.cells #[x0, x1, x2, x3, x4, x5] T (0, 0)))) (k : wpList P ops Q rest a' w) (hw : Region.wanted o (yielded ops a.tmps) = true := by rfl)
    (h : w.cell? ⟨b, 0, none⟩ = some x0 → w.cell? ⟨b, 1, none⟩ = some x1 → w.cell? ⟨b, 2, none⟩ = some x2 → w.cell? ⟨b, 3, none⟩ = some x3 → w.cell? ⟨b, 4, none⟩ = some x4 → w.cell? ⟨b, 5, none⟩ = some x5 → (execOp a.eval o).run P w = .ok (.value (.agg #[x0, x1, x2, x3, x4, x5])) w := by intro z0 z1 z2 z3 z4 z5; go_simp)
    (hp : a.put o.dst (.agg #[x0, x1, x2, x3, x4, x5]) = a' := by simp only [Act.put, List.getElem_toArray, List.getElem_cons_zero, List.getElem_cons_succ, List.setIfInBounds_toArray, List.set_cons_zero, List.set_cons_succ]; rfl) : wpList P ops Q (o :: rest) a w := by
  subst hp; exact sw_val hw (h (cell_box 0 hb.out rfl) (cell_box 1 hb.out rfl) (cell_box 2 hb.out rfl) (cell_box 3 hb.out rfl) (cell_box 4 hb.out rfl) (cell_box 5 hb.out rfl)) k
/-- a new block behind a pointer, behind a slice -/
theorem sbp (C : Array Value) (T : TypeId) (k : ∀ (V : World) (b : Nat), w.heap.size = b → Mv nob w V → Hid (V.heap[b]? = some (.cells C T (0, 0))) → wpList P ops Q rest (af b) V) (hw : Region.wanted o (yielded ops a.tmps) = true := by rfl)
    (h : (execOp a.eval o).run P w = .ok (.value (.pointer (some ⟨w.heap.size, 0, none⟩))) (w.alloc (.cells C T)) := by first | rfl | go_simp)
    (hp : ∀ b : Nat, a.put o.dst (.pointer (some ⟨b, 0, none⟩)) = af b := by intro b; simp only [Act.put, List.getElem_toArray, List.getElem_cons_zero, List.getElem_cons_succ, List.setIfInBounds_toArray, List.set_cons_zero, List.set_cons_succ]; rfl) : wpList P ops Q (o :: rest) a w := by
  refine sw_valW hw h ?_
  rw [hp]; exact k _ _ rfl (Mv.alloc _ _) (hide (heap_alloc_new _ _))
theorem sbs (n : Nat) (C : Array Value) (T : TypeId) (k : ∀ (V : World) (b : Nat), w.heap.size = b → Mv nob w V → Hid (V.heap[b]? = some (.cells C T (0, 0))) → wpList P ops Q rest (af b) V) (hw : Region.wanted o (yielded ops a.tmps) = true := by rfl)
    (h : (execOp a.eval o).run P w = .ok (.value (.slice (some ⟨w.heap.size, 0, none⟩) n n)) (w.alloc (.cells C T)) := by first | rfl | go_simp)
    (hp : ∀ b : Nat, a.put o.dst (.slice (some ⟨b, 0, none⟩) n n) = af b := by intro b; simp only [Act.put, List.getElem_toArray, List.getElem_cons_zero, List.getElem_cons_succ, List.setIfInBounds_toArray, List.set_cons_zero, List.set_cons_succ]; rfl) : wpList P ops Q (o :: rest) a w := by
  refine sw_valW hw h ?_
  rw [hp]; exact k _ _ rfl (Mv.alloc _ _) (hide (heap_alloc_new _ _))
theorem sw_skipW {w' : World} (hw : Region.wanted o (yielded ops a.tmps) = true) (h : (execOp a.eval o).run P w = .ok .skip w') (k : wpList P ops Q rest (a.put o.dst undef) w') : wpList P ops Q (o :: rest) a w :=
  BigFrame.wpList_want hw (fun K hK => by unfold Oper.wp; rw [h]; exact hK _ _ k)
/-- stores: one cell, two, three, six -/
theorem ss (off : Nat) (x : Value) {y : Value} (hb : Hid (w.heap[b]? = some (.cells C T (0, 0)))) (k : ∀ V : World, Mv (fun g => g = b) w V → Hid (V.heap[b]? = some (.cells C' T (0, 0))) → wpList P ops Q rest a' V) (hy : C[off]? = some y := by rfl) (hC : C.setIfInBounds off x = C' := by simp only [List.setIfInBounds_toArray, List.set_cons_zero, List.set_cons_succ]; rfl) (hw : Region.wanted o (yielded ops a.tmps) = true := by rfl)
    (h : (∀ i, w.frozen? ⟨b, i, none⟩ = false) → w.cell? ⟨b, off, none⟩ = some y → (execOp a.eval o).run P w = .ok .skip (w.setCell ⟨b, off, none⟩ x) := by intro fr z0; go_simp)
    (hp : a.put o.dst undef = a' := by simp only [Act.put, List.getElem_toArray, List.getElem_cons_zero, List.getElem_cons_succ, List.setIfInBounds_toArray, List.set_cons_zero, List.set_cons_succ]; rfl) : wpList P ops Q (o :: rest) a w := by
  subst hp hC
  exact sw_skipW hw (h (fun i => frozen_of_row _ _ i _ _ hb.out) (cell_box off hb.out hy)) (k _ ((Mv.refl _ _).set _ _) (hide (blk1 _ hb.out)))
theorem ss2 (x0 x1 : Value) {y0 y1 : Value} (hb : Hid (w.heap[b]? = some (.cells #[y0, y1] T (0, 0)))) (k : ∀ V : World, Mv (fun g => g = b) w V → Hid (V.heap[b]? = some (.cells #[x0, x1] T (0, 0))) → wpList P ops Q rest a' V) (hw : Region.wanted o (yielded ops a.tmps) = true := by rfl)
    (h : (∀ i, w.frozen? ⟨b, i, none⟩ = false) → w.cell? ⟨b, 0, none⟩ = some y0 → w.cell? ⟨b, 1, none⟩ = some y1 → (execOp a.eval o).run P w = .ok .skip (set2 w b x0 x1) := by intro fr z0 z1; go_simp)
    (hp : a.put o.dst undef = a' := by simp only [Act.put, List.getElem_toArray, List.getElem_cons_zero, List.getElem_cons_succ, List.setIfInBounds_toArray, List.set_cons_zero, List.set_cons_succ]; rfl) : wpList P ops Q (o :: rest) a w := by
  subst hp
  exact sw_skipW hw (h (fun i => frozen_of_row _ _ i _ _ hb.out) (cell_box 0 hb.out rfl) (cell_box 1 hb.out rfl)) (k _ (((Mv.refl _ _).set _ _).set _ _) (hide (blk1 _ (blk1 _ hb.out))))
set_option maxHeartbeats 4000000 in
theorem ss7 (x0 x1 x2 x3 x4 x5 x6 : Value) {y0 y1 y2 y3 y4 y5 y6 : Value} (hb : Hid (w.heap[b]? = some (.cells #[y0, y1, y2, y3, y4, y5, y6] T (0, 0)))) (k : ∀ V : World, Mv (fun g => g = b) w V → Hid (V.heap[b]? = some (.cells #[x0, x1, x2, x3, x4, x5, x6] T (0, 0))) → wpList P ops Q rest a' V) (hw : Region.wanted o (yielded ops a.tmps) = true := by rfl)
    (h : (∀ i, w.frozen? ⟨b, i, none⟩ = false) → w.cell? ⟨b, 0, none⟩ = some y0 → w.cell? ⟨b, 1, none⟩ = some y1 → w.cell? ⟨b, 2, none⟩ = some y2 → w.cell? ⟨b, 3, none⟩ = some y3 → w.cell? ⟨b, 4, none⟩ = some y4 → w.cell? ⟨b, 5, none⟩ = some y5 → w.cell? ⟨b, 6, none⟩ = some y6 → (execOp a.eval o).run P w = .ok .skip (set7 w b x0 x1 x2 x3 x4 x5 x6) := by intro fr z0 z1 z2 z3 z4 z5 z6; go_simp)
    (hp : a.put o.dst undef = a' := by simp only [Act.put, List.getElem_toArray, List.getElem_cons_zero, List.getElem_cons_succ, List.setIfInBounds_toArray, List.set_cons_zero, List.set_cons_succ]; rfl) : wpList P ops Q (o :: rest) a w := by
  subst hp
  exact sw_skipW hw (h (fun i => frozen_of_row _ _ i _ _ hb.out) (cell_box 0 hb.out rfl) (cell_box 1 hb.out rfl) (cell_box 2 hb.out rfl) (cell_box 3 hb.out rfl) (cell_box 4 hb.out rfl) (cell_box 5 hb.out rfl) (cell_box 6 hb.out rfl)) (k _ ((((((((Mv.refl _ _).set _ _).set _ _).set _ _).set _ _).set _ _).set _ _).set _ _) (hide (blk1 _ (blk1 _ (blk1 _ (blk1 _ (blk1 _ (blk1 _ (blk1 _ hb.out)))))))))
end
section
variable {P : Program} {ops : Array Oper} {Q : Exit → Act → World → Prop} {md : Region.Mode} {S : World → Prop} {z n : Nat} {o : Oper} {done : Array Bool} {a a' : Act} {w : World}
/-- in a region that draws: an operation that only reads, taken first; one that is passed over -/
theorem tk (i : Nat) (v : Value) (hi : ops[i]? = some o) (h : ∀ w', S w' → (execOp a.eval o).run P w' = .ok (.value v) w') (k : wpAnyK P md ops Q (But S z) n (done.setIfInBounds i true) a' w) (hs : Region.noSelect ops = true := by kernel_rfl) (hf : Region.free md ops done i = true := by kernel_rfl) (hr : (Region.ready md ops done).contains i = true := by kernel_rfl) (hz : waitsFor md ops z i = true := by kernel_rfl) (hQ : ∀ c u w, Q (.panic c) (u.put o.dst v) w → Q (.panic c) u w := by intro _ _ _ h; exact h) (hw : Region.wanted o (yielded ops a.tmps) = true := by rfl) (hS : S w := by assumption)
    (hp : a.put o.dst v = a' := by simp only [Act.put, List.getElem_toArray, List.getElem_cons_zero, List.getElem_cons_succ, List.setIfInBounds_toArray, List.set_cons_zero, List.set_cons_succ]; rfl) : wpAnyK P md ops Q (But S z) (n + 1) done a w := by
  subst hp; exact wpAnyK_take hi hs hf hr hz hQ (.inl ⟨hw, h⟩) hS k
theorem tk0 (i : Nat) (v : Value) (hi : ops[i]? = some o) (k : wpAnyK P md ops Q (But S z) n (done.setIfInBounds i true) a' w) (h : ∀ w', S w' → (execOp a.eval o).run P w' = .ok (.value v) w' := by intro w' hSw; go_simp) (hs : Region.noSelect ops = true := by kernel_rfl) (hf : Region.free md ops done i = true := by kernel_rfl) (hr : (Region.ready md ops done).contains i = true := by kernel_rfl) (hz : waitsFor md ops z i = true := by kernel_rfl) (hQ : ∀ c u w, Q (.panic c) (u.put o.dst v) w → Q (.panic c) u w := by intro _ _ _ h; exact h) (hw : Region.wanted o (yielded ops a.tmps) = true := by rfl) (hS : S w := by assumption)
    (hp : a.put o.dst v = a' := by simp only [Act.put, List.getElem_toArray, List.getElem_cons_zero, List.getElem_cons_succ, List.setIfInBounds_toArray, List.set_cons_zero, List.set_cons_succ]; rfl) : wpAnyK P md ops Q (But S z) (n + 1) done a w := by
  subst hp; exact wpAnyK_take hi hs hf hr hz hQ (.inl ⟨hw, h⟩) hS k
theorem tu (i : Nat) (hi : ops[i]? = some o) (k : wpAnyK P md ops Q (But S z) n (done.setIfInBounds i true) a' w) (hs : Region.noSelect ops = true := by kernel_rfl) (hf : Region.free md ops done i = true := by kernel_rfl) (hr : (Region.ready md ops done).contains i = true := by kernel_rfl) (hz : waitsFor md ops z i = true := by kernel_rfl) (hQ : ∀ c u w, Q (.panic c) (u.put o.dst undef) w → Q (.panic c) u w := by intro _ _ _ h; exact h) (hw : Region.wanted o (yielded ops a.tmps) = false := by kernel_rfl) (hS : S w := by assumption)
    (hp : a.put o.dst undef = a' := by simp only [Act.put, List.getElem_toArray, List.getElem_cons_zero, List.getElem_cons_succ, List.setIfInBounds_toArray, List.set_cons_zero, List.set_cons_succ]; rfl) : wpAnyK P md ops Q (But S z) (n + 1) done a w := by
  subst hp; exact wpAnyK_take hi hs hf hr hz hQ (.inr ⟨hw, rfl⟩) hS k
end
section
variable {P : Program} {ops : Array Oper} {Q : Exit → Act → World → Prop} {md : Region.Mode} {R : Nat → World → Prop} {n : Nat} {rest : List Oper} {done : Array Bool} {a a' : Act} {w : World} {d : Option Nat} {v : Value}
/-- a slot filled: what stands then -/
theorem pt (k : wpList P ops Q rest a' w) (hp : a.put d v = a' := by first | (simp only [Act.put, List.getElem_toArray, List.getElem_cons_zero, List.getElem_cons_succ, List.setIfInBounds_toArray, List.set_cons_zero, List.set_cons_succ]; rfl) | rfl) : wpList P ops Q rest (a.put d v) w := by subst hp; exact k
theorem ptk (k : wpAnyK P md ops Q R n done a' w) (hp : a.put d v = a' := by first | (simp only [Act.put, List.getElem_toArray, List.getElem_cons_zero, List.getElem_cons_succ, List.setIfInBounds_toArray, List.set_cons_zero, List.set_cons_succ]; rfl) | rfl) : wpAnyK P md ops Q R n done (a.put d v) w := by subst hp; exact k
end
/- control steps in few words -/
section
variable {P : Program} {ops : Array Oper} {Q : Exit → Act → World → Prop} {a : Act} {w : World} {next : Act → World → Prop}
theorem nt (h : next a w) : wpList P ops (Exit.then next Q) [] a w := wpList_nil (then_normal h)
theorem ct {c : Operand} {x y : Code} (k : x.wp P Q a w) (h : a.eval c = .bool true := by rfl) : (Code.cond c x y).wp P Q a w := wp_cond_true h k
theorem cf {c : Operand} {x y : Code} (k : y.wp P Q a w) (h : a.eval c = .bool false := by rfl) : (Code.cond c x y).wp P Q a w := wp_cond_false h k
theorem sk {x y : Code} (h : ∀ K : Act → World → Prop, (∀ a w, y.wp P Q a w → K a w) → x.wp P (Exit.then K Q) a w) : (Code.seq x y).wp P Q a w := wp_seq_k h
theorem rl {id : Nat} {l : List Oper} (h : wpList P l.toArray Q l a w) : (Code.region id l.toArray false).wp P Q a w := wp_region_lit h
end
/-- what is carried behind a step -/
theorem Xbn {w w' : World} {b : Nat} {x : Obj} (h : Hid (w.heap[b]? = some x)) (m : Mv nob w w') : Hid (w'.heap[b]? = some x) := hide (m.box h.out (fun h => h))
theorem Xbb {w w' : World} {b B : Nat} {x : Obj} (h : Hid (w.heap[b]? = some x)) (m : Mv (fun g => g = B) w w') (n : ¬ b = B := by omega) : Hid (w'.heap[b]? = some x) := hide (m.box h.out n)
theorem Xhn {S : Nat → Prop} {w v v' : World} (h : Hid (Mv S w v)) (m : Mv nob v v') : Hid (Mv S w v') := hide (h.out.step m (fun _ _ h => h.elim))
theorem Xhb {S : Nat → Prop} {B : Nat} {w v v' : World} (h : Hid (Mv S w v)) (m : Mv (fun g => g = B) v v') (n : w.heap.size ≤ B := by omega) : Hid (Mv S w v') := hide (h.out.step m (fun g hg e => by have e : g = B := e; exfalso; omega))
theorem Xlo {w : World} {b c : Nat} {x : Obj} (h : Hid (w.heap[b]? = some x)) (e : w.heap.size = c) : b < c := e ▸ lt_of_block h.out
theorem Xhs {S : Nat → Prop} {w v : World} {c : Nat} (h : Hid (Mv S w v)) (e : v.heap.size = c) : w.heap.size ≤ c := e ▸ h.out.size
end Go.Proofs.YtlalldlbgnlbjaaGreatDoor
