/- OzA, SwA, SwB -/
import Derived.Test.YtgflipkhhpkidaaYkOrder6
import Derived.LoopN
/- A region whose LAST operation overwrites a cell that its loads read ('x.f = append(x.f, ..)'): what holds behind an operation may differ from operation to operation; a load may be taken first if whatever could come ahead of it keeps the load's condition. Plain: no seat's function is named. -/
namespace Go.Proofs.Ytgflipkhhpkidaa
open Go.RowKit
set_option linter.unusedVariables false
set_option linter.unusedSimpArgs false

section
variable {P : Program} {ops : Array Oper} {Q : Exit → Act → World → Prop} {md : Region.Mode} {S : World → Prop} {R : Nat → World → Prop}

/-- whatever order comes, and behind operation i the world meets 'R i' -/
def wpAnyK (P : Program) (md : Region.Mode) (ops : Array Oper) (Q : Exit → Act → World → Prop) (R : Nat → World → Prop) : Nat → Array Bool → Act → World → Prop
  | 0, done, a, w => Region.ready md ops done = [] ∧ Q .normal a w
  | n + 1, done, a, w => (Region.ready md ops done = [] → Q .normal a w) ∧ ∀ i ∈ Region.ready md ops done, wpOp P ops Q i (fun a' w' => R i w' ∧ wpAnyK P md ops Q R n (done.setIfInBounds i true) a' w') a w

theorem wpAnyK.plain : ∀ (n : Nat) (done : Array Bool) (a : Act) (w : World), wpAnyK P md ops Q R n done a w → wpAny P md ops Q n done a w
  | 0, _, _, _, h => h
  | n + 1, _, _, _, h => ⟨h.1, fun i hi => wpOp_mono (fun a' w' h' => wpAnyK.plain n _ a' w' h'.2) (h.2 i hi)⟩

/-- a ready operation that waits on i cannot be ready while i is not done -/
theorem not_waiting {i j : Nat} {oj : Oper} {done : Array Bool} (hi : i ∈ Region.ready md ops done) (hoj : ops[j]? = some oj) (hj : j ∈ Region.ready md ops done) : ∀ e ∈ oj.after, Region.binds md e = true → e.on ≠ i := by
  intro e he hb heq
  obtain ⟨_, o, ho, hall⟩ := mem_ready.1 hj
  rw [hoj] at ho
  cases ho
  have h1 := hall e he hb
  have h0 := (mem_ready.1 hi).1
  rw [heq] at h1
  rcases Nat.lt_or_ge i done.size with h' | h'
  · simp [h'] at h0 h1
    rw [h0] at h1
    cases h1
  · simp [Array.getElem?_eq_none h'] at h1

theorem wpAnyK_first {i : Nat} {oi : Oper} {v : Value} (hi : ops[i]? = some oi) (hs : Region.noSelect ops = true) (hQ : ∀ c a w, Q (.panic c) (a.put oi.dst v) w → Q (.panic c) a w)
    (hR : ∀ j oj, ops[j]? = some oj → j ≠ i → (∀ e ∈ oj.after, Region.binds md e = true → e.on ≠ i) → ∀ w, R j w → S w) (hRi : ∀ w, S w → R i w) (n : Nat) :
    ∀ (done : Array Bool) (a : Act) (w : World), (∀ j oj, ops[j]? = some oj → j ≠ i → done.getD j true = false → (∀ e ∈ oj.after, Region.binds md e = true → e.on ≠ i) → oi.apart ops oj = true) →
      i ∈ Region.ready md ops done → YieldsIf P ops S oi v a → S w → wpAnyK P md ops Q R n (done.setIfInBounds i true) (a.put oi.dst v) w → wpAnyK P md ops Q R (n + 1) done a w := by
  induction n with
  | zero =>
    intro done a w _ hr hy hS H
    refine ⟨fun h => absurd hr (by rw [h]; simp), fun j hj => ?_⟩
    by_cases hji : j = i
    · subst hji
      exact hy.wpOp hi hS ⟨hRi w hS, H⟩
    · have hm := ready_mono hj hji
      rw [H.1] at hm
      cases hm
  | succ n ih =>
    intro done a w hfree hr hy hS H
    refine ⟨fun h => absurd hr (by rw [h]; simp), fun j hj => ?_⟩
    by_cases hji : j = i
    · subst hji
      exact hy.wpOp hi hS ⟨hRi w hS, H⟩
    · obtain ⟨hjun, oj, hoj, _⟩ := mem_ready.1 hj
      have hnot := not_waiting hr hoj hj
      have h2 := wpOp_putIf hoj (hfree j oj hoj hji hjun hnot) (fun cs b => Region.noSelect_spec hs i oi cs b hi) (fun cs b => Region.noSelect_spec hs j oj cs b hoj) hQ hy (H.2 j (ready_mono hj hji))
      refine wpOp_mono (fun a' w' h3 => ⟨h3.2.1, ih (done.setIfInBounds j true) a' w' (fun k ok hk hki hun hno => hfree k ok hk hki ?_ hno) (ready_mono hr (Ne.symm hji)) h3.1 (hR j oj hoj hji hnot w' h3.2.1) ?_⟩) h2
      · by_cases hjk : j = k
        · subst hjk; exact hjun
        · rw [getD_set_ne true hjk] at hun; exact hun
      · rw [Array.setIfInBounds_comm _ _ hji]
        exact h3.2.2

/-- number z waits for number i itself -/
def waitsFor (md : Region.Mode) (ops : Array Oper) (z i : Nat) : Bool := match ops[z]? with | some o => o.after.any (fun e => Region.binds md e && e.on == i) | none => true

abbrev But (S : World → Prop) (z : Nat) : Nat → World → Prop := fun i w => i ≠ z → S w

theorem wpAnyK_take {z i : Nat} {oi : Oper} {v : Value} {n : Nat} {done : Array Bool} {a : Act} {w : World} (hi : ops[i]? = some oi) (hs : Region.noSelect ops = true) (hf : Region.free md ops done i = true)
    (hr : (Region.ready md ops done).contains i = true) (hz : waitsFor md ops z i = true) (hQ : ∀ c a w, Q (.panic c) (a.put oi.dst v) w → Q (.panic c) a w) (hy : YieldsIf P ops S oi v a) (hS : S w)
    (h : wpAnyK P md ops Q (But S z) n (done.setIfInBounds i true) (a.put oi.dst v) w) : wpAnyK P md ops Q (But S z) (n + 1) done a w := by
  refine wpAnyK_first hi hs hQ (fun j oj hoj hji hno w' hw' => hw' fun e => ?_) (fun w' hw' _ => hw') n done a w (Region.free_spec hi hf) (by simpa using hr) hy hS h
  subst e
  simp only [waitsFor, hoj] at hz
  obtain ⟨e, he, hb⟩ := Array.any_eq_true'.1 hz
  simp only [Bool.and_eq_true, beq_iff_eq] at hb
  exact hno e he hb.1 hb.2

/-- the one operation that may come up -/
theorem wpAnyK_one {i : Nat} {o : Oper} {n : Nat} {done : Array Bool} {a : Act} {w : World} (hr : Region.ready md ops done = [i]) (ho : ops[i]? = some o)
    (h : ∀ K' : Act → World → Prop, Shut (∀ a w, R i w → (R i w → wpAnyK P md ops Q R n (done.setIfInBounds i true) a w) → K' a w) → if Region.wanted o (yielded ops a.tmps) = true then Oper.wp P o a w K' Q else K' (a.put o.dst undef) w) : wpAnyK P md ops Q R (n + 1) done a w := by
  refine ⟨fun h0 => (by rw [hr] at h0; cases h0), fun j hj => ?_⟩
  rw [hr] at hj
  simp only [List.mem_singleton] at hj
  subst hj
  exact wpOp_step ho (fun K' hK => h K' (fun a w hS hW => hK a w ⟨hS, hW hS⟩))

theorem wpAnyK_done {n : Nat} {done : Array Bool} {a : Act} {w : World} (hr : Region.ready md ops done = []) (h : Q .normal a w) : wpAnyK P md ops Q R n done a w := by
  cases n with
  | zero => exact ⟨hr, h⟩
  | succ n => exact ⟨fun _ => h, by rw [hr]; simp⟩

theorem wp_region_but {id z : Nat} {a : Act} {w : World} (hm : P.follows .mixedOrders = true) (hS : S w.drew)
    (h : S w.drew → wpAnyK P .any ops Q (But S z) ops.size (Array.replicate ops.size false) a w.drew) : (Code.region id ops true).wp P Q a w :=
  wp_region_any hm (wpAnyK.plain _ _ _ _ (h hS))
end

end Go.Proofs.Ytgflipkhhpkidaa

/- A walk by single steps: each operation's run as an equation; what stays when memory moves ('Mv'). Plain: no seat's function is named. -/
namespace Go.Proofs.Ytgflipkhhpkidaa
open Go.RowKit
set_option linter.unusedVariables false
set_option linter.unusedSimpArgs false

section
variable {P : Program} {ops : Array Oper} {Q : Exit → Act → World → Prop} {a : Act} {w : World} {rest : List Oper} {o : Oper}
theorem then_normal {next : Act → World → Prop} (h : next a w) : Exit.then next Q .normal a w := h
/-- a linear step that yields a value and leaves memory -/
theorem sw_val {v : Value} (hw : Region.wanted o (yielded ops a.tmps) = true) (h : (execOp a.eval o).run P w = .ok (.value v) w) (k : wpList P ops Q rest (a.put o.dst v) w) : wpList P ops Q (o :: rest) a w :=
  BigFrame.wpList_want hw (fun K hK => by unfold Oper.wp; rw [h]; exact hK _ _ k)
theorem sw_valW {v : Value} {w' : World} (hw : Region.wanted o (yielded ops a.tmps) = true) (h : (execOp a.eval o).run P w = .ok (.value v) w') (k : wpList P ops Q rest (a.put o.dst v) w') : wpList P ops Q (o :: rest) a w :=
  BigFrame.wpList_want hw (fun K hK => by unfold Oper.wp; rw [h]; exact hK _ _ k)
theorem sw_pass (hw : Region.wanted o (yielded ops a.tmps) = false) (k : wpList P ops Q rest (a.put o.dst undef) w) : wpList P ops Q (o :: rest) a w := wpList_skip hw k
theorem sw_call {f : FuncId} {args : Array Value} {R : Ending → World → Prop} (hw : Region.wanted o (yielded ops a.tmps) = true) (h : (execOp a.eval o).run P w = .ok (.enter f args) w) (c : Calls P f args w R) (k : ∀ e V, R e V → ∃ v, e = .returned v ∧ wpList P ops Q rest (a.put o.dst v) V) : wpList P ops Q (o :: rest) a w :=
  BigFrame.wpList_want hw (fun K hK => by
    unfold Oper.wp
    rw [h]
    refine Calls.mono c (fun e V hR => ?_)
    obtain ⟨v, rfl, hk⟩ := k e V hR
    exact hK _ _ hk)
end

section
variable {P : Program} {ops : Array Oper} {Q : Exit → Act → World → Prop} {md : Region.Mode} {S : World → Prop} {z i n : Nat} {o : Oper} {done : Array Bool} {a : Act} {w : World}
/-- the one operation that may come up yields a value and changes memory -/
theorem kd_valI {v : Value} {w' : World} (I : World → Prop) (hr : Region.ready md ops done = [i]) (ho : ops[i]? = some o) (hw : Region.wanted o (yielded ops a.tmps) = true) (h : (execOp a.eval o).run P w = .ok (.value v) w') (hI : I w') (hS : ∀ V, I V → i ≠ z → S V) (k : ∀ V, I V → wpAnyK P md ops Q (But S z) n (done.setIfInBounds i true) (a.put o.dst v) V) : wpAnyK P md ops Q (But S z) (n + 1) done a w :=
  wpAnyK_one hr ho (fun K hK => by rw [if_pos hw]; unfold Oper.wp; rw [h]; exact hK.out _ _ (hS _ hI) (fun _ => k _ hI))
theorem kd_valW {v : Value} {w' : World} (hr : Region.ready md ops done = [i]) (ho : ops[i]? = some o) (hw : Region.wanted o (yielded ops a.tmps) = true) (h : (execOp a.eval o).run P w = .ok (.value v) w') (hS : i ≠ z → S w') (k : wpAnyK P md ops Q (But S z) n (done.setIfInBounds i true) (a.put o.dst v) w') : wpAnyK P md ops Q (But S z) (n + 1) done a w :=
  wpAnyK_one hr ho (fun K hK => by rw [if_pos hw]; unfold Oper.wp; rw [h]; exact hK.out _ _ hS (fun _ => k))
theorem kd_skipI {w' : World} (I : World → Prop) (hr : Region.ready md ops done = [i]) (ho : ops[i]? = some o) (hw : Region.wanted o (yielded ops a.tmps) = true) (h : (execOp a.eval o).run P w = .ok .skip w') (hI : I w') (hS : ∀ V, I V → i ≠ z → S V) (k : ∀ V, I V → wpAnyK P md ops Q (But S z) n (done.setIfInBounds i true) (a.put o.dst undef) V) : wpAnyK P md ops Q (But S z) (n + 1) done a w :=
  wpAnyK_one hr ho (fun K hK => by rw [if_pos hw]; unfold Oper.wp; rw [h]; exact hK.out _ _ (hS _ hI) (fun _ => k _ hI))
theorem kd_val {v : Value} (hr : Region.ready md ops done = [i]) (ho : ops[i]? = some o) (hw : Region.wanted o (yielded ops a.tmps) = true) (h : (execOp a.eval o).run P w = .ok (.value v) w) (hS : S w) (k : wpAnyK P md ops Q (But S z) n (done.setIfInBounds i true) (a.put o.dst v) w) : wpAnyK P md ops Q (But S z) (n + 1) done a w :=
  wpAnyK_one hr ho (fun K hK => by rw [if_pos hw]; unfold Oper.wp; rw [h]; exact hK.out _ _ (fun _ => hS) (fun _ => k))
theorem kd_call {f : FuncId} {args : Array Value} {R : Ending → World → Prop} (hr : Region.ready md ops done = [i]) (ho : ops[i]? = some o) (hw : Region.wanted o (yielded ops a.tmps) = true) (h : (execOp a.eval o).run P w = .ok (.enter f args) w) (c : Calls P f args w R) (k : ∀ e V, R e V → ∃ v, e = .returned v ∧ (i ≠ z → S V) ∧ wpAnyK P md ops Q (But S z) n (done.setIfInBounds i true) (a.put o.dst v) V) : wpAnyK P md ops Q (But S z) (n + 1) done a w :=
  wpAnyK_one hr ho (fun K hK => by
    rw [if_pos hw]
    unfold Oper.wp
    rw [h]
    refine Calls.mono c (fun e V hR => ?_)
    obtain ⟨v, rfl, hS, hk⟩ := k e V hR
    exact hK.out _ _ hS (fun _ => hk))
end

theorem run_append_op {P : Program} {ρ : Operand → Value} {o : Oper} {w w' : World} (s x : Operand) (t : TypeId) (ho : o.op = .call { callee := .builtin .append, args := #[s, x], argTypes := #[t, t] }) {v u v' : Value} (hs : ρ s = v) (hx : ρ x = u) (hr : (Builtin.append_ #[t, t] o.type #[v, u]).run P w = .ok v' w') : (execOp ρ o).run P w = .ok (.value v') w' := by
  unfold execOp
  simp only [ho, resolve, invoke, builtin, Sem.run_bind, Sem.run_pure, Result.andThen_ok, List.map_toArray, List.map_cons, List.map_nil, hs, hx, hr]

theorem i64wrap {x : Int} (h : -9223372036854775808 ≤ x ∧ x ≤ 9223372036854775807) : IntKind.i64.wrap x = x := by
  obtain ⟨h1, h2⟩ := h
  simp [IntKind.wrap, IntKind.signed, IntKind.bits] <;> omega
/-- no block changes but those of S -/
structure Mv (S : Nat → Prop) (w w' : World) : Prop where
  os : w'.os = w.os
  tape : w'.tape = w.tape
  output : w'.output = w.output
  size : w.heap.size ≤ w'.heap.size
  block : ∀ j, j < w.heap.size → ¬ S j → w'.heap[j]? = w.heap[j]?
abbrev nob : Nat → Prop := fun _ => False
theorem Mv.refl (S : Nat → Prop) (w : World) : Mv S w w := ⟨rfl, rfl, rfl, Nat.le_refl _, fun _ _ _ => rfl⟩
theorem Mv.step {S R : Nat → Prop} {w w1 w2 : World} (h : Mv S w w1) (h2 : Mv R w1 w2) (hs : ∀ g, g < w.heap.size → R g → S g) : Mv S w w2 :=
  ⟨h2.os.trans h.os, h2.tape.trans h.tape, h2.output.trans h.output, Nat.le_trans h.size h2.size, fun j hj hn => (h2.block j (Nat.lt_of_lt_of_le hj h.size) (fun r => hn (hs j hj r))).trans (h.block j hj hn)⟩
theorem Mv.mono {S R : Nat → Prop} {w w1 : World} (h : Mv S w w1) (hs : ∀ g, g < w.heap.size → S g → R g) : Mv R w w1 := ⟨h.os, h.tape, h.output, h.size, fun j hj hn => h.block j hj (fun s => hn (hs j hj s))⟩
theorem Mv.of_below {w w' : World} (h : Below w.heap.size w w') : Mv nob w w' := ⟨h.os, h.tape, h.output, h.size, fun j hj _ => h.block j hj⟩
theorem Mv.below {w w' : World} (h : Mv nob w w') : Below w.heap.size w w' := ⟨h.os, h.tape, h.output, h.size, fun j hj => h.block j hj (fun f => f)⟩
theorem Mv.of_grown {w w' : World} {row : Option Nat} (h : w.grownBy w' row) : Mv (fun g => row = some g) w w' := ⟨h.os, h.tape, h.output, h.size, fun j hj hn => h.block j hj (fun e => hn e.symm)⟩
theorem Mv.drew (w : World) : Mv nob w w.drew := Mv.of_below (Below.refl _ _).drew
theorem Mv.alloc (w : World) (x : Obj) : Mv nob w (w.alloc x) := Mv.of_below ((Below.refl _ _).alloc (Nat.le_refl _) x)
theorem Mv.set {w w' : World} {B : Nat} (h : Mv (fun g => g = B) w w') (i : Nat) (v : Value) : Mv (fun g => g = B) w (w'.setCell ⟨B, i, none⟩ v) := by
  have hb : Below 0 w' (w'.setCell ⟨B, i, none⟩ v) := (Below.refl 0 w').setCell (Nat.zero_le _) v
  exact h.step ⟨hb.os, hb.tape, hb.output, hb.size, fun j hj hn => heap_setCell_other _ _ _ _ hn⟩ (fun _ _ e => e)
theorem Mv.box {S : Nat → Prop} {w w' : World} {b : Nat} {x : Obj} (h : Mv S w w') (hb : w.heap[b]? = some x) (hn : ¬ S b) : w'.heap[b]? = some x := (h.block b (lt_of_block hb) hn).trans hb
theorem Mv.cell {S : Nat → Prop} {w w' : World} {b i : Nat} {x : Value} (h : Mv S w w') (hc : w.cell? ⟨b, i, none⟩ = some x) (hn : ¬ S b) : w'.cell? ⟨b, i, none⟩ = some x := by
  have hlt := World.block_lt_of_cell? w _ hc
  rw [World.cell?_of_block (a := ⟨b, i, none⟩) (h.block b hlt hn)]; exact hc
theorem cell_box {w : World} {B : Nat} {c : Array Value} {T : TypeId} {x : Value} (i : Nat) (h : w.heap[B]? = some (.cells c T (0, 0))) (hx : c[i]? = some x) : w.cell? ⟨B, i, none⟩ = some x := (cell_of_row _ _ i _ _ _ h).trans hx

end Go.Proofs.Ytgflipkhhpkidaa

/- control steps of loops and blocks -/
namespace Go.Proofs.Ytgflipkhhpkidaa
open Go.RowKit
set_option linter.unusedVariables false
section
variable {P : Program} {Q : Exit → Act → World → Prop} {a : Act} {w : World} {next : Act → World → Prop}
theorem rounds_step {c : Code} {n : Nat} (h : c.wp P (Exit.then (Code.rounds P c Q n) Q) a w) : Code.rounds P c Q (n + 1) a w := h
theorem then_exit {id : Nat} (h : Q (.exit id) a w) : Exit.then next Q (.exit id) a w := h
theorem then_ret (h : Q .ret a w) : Exit.then next Q .ret a w := h
theorem inb_ret {id : Nat} (h : Q .ret a w) : Exit.inBlock id Q .ret a w := h
theorem inb_norm {id : Nat} (h : Q .normal a w) : Exit.inBlock id Q .normal a w := h
theorem inb_here {id id' : Nat} (e : id' = id) (h : Q .normal a w) : Exit.inBlock id Q (.exit id') a w := by simpa [Exit.inBlock, e] using h
end
end Go.Proofs.Ytgflipkhhpkidaa
