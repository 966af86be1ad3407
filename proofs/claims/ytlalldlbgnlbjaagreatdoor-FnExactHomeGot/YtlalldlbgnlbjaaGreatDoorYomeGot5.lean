/- SwA -/
import Derived.Test.YtlalldlbgnlbjaaGreatDoorYomeGot4
/- A walk by single steps: each operation's run as an equation; what stays when memory moves ('Mv'). Plain: no seat's function is named. -/
namespace Go.Proofs.YtlalldlbgnlbjaaGreatDoor
open Go.RowKit
set_option linter.unusedVariables false
set_option linter.unusedSimpArgs false

section
variable {P : Program} {ops : Array Oper} {Q : Exit → Act → World → Prop} {a : Act} {w : World} {rest : List Oper} {o : Oper}
theorem then_normal {next : Act → World → Prop} (h : next a w) : Exit.then next Q .normal a w := h
/-- a linear step that yields a value and leaves memory -/
theorem sw_val {v : Value} (hw : Region.wanted o (yielded ops a.tmps) = true) (h : (execOp a.eval o).run P w = .ok (.value v) w) (k : wpList P ops Q rest (a.put o.dst v) w) : wpList P ops Q (o :: rest) a w :=
  BigFrame.wpList_want hw (fun K hK => by unfold Oper.wp; rw [h]; exact hK _ _ k)
theorem sw_valW {v : Value} {w' : World} (hw : Region.wanted o (yielded ops a.tmps) = true) (h : (execOp a.eval o).run P w = .ok (.value v) w') (k : wpList P ops Q rest (a.put o.dst v) w') : wpList P ops Q (o :: rest) a w :=
  BigFrame.wpList_want hw (fun K hK => by unfold Oper.wp; rw [h]; exact hK _ _ k)
theorem sw_pass (hw : Region.wanted o (yielded ops a.tmps) = false) (k : wpList P ops Q rest (a.put o.dst undef) w) : wpList P ops Q (o :: rest) a w := wpList_skip hw k
theorem sw_call {f : FuncId} {args : Array Value} {R : Ending → World → Prop} (hw : Region.wanted o (yielded ops a.tmps) = true) (h : (execOp a.eval o).run P w = .ok (.enter f args) w) (c : Calls P f args w R) (k : ∀ e V, R e V → ∃ v, e = .returned v ∧ wpList P ops Q rest (a.put o.dst v) V) : wpList P ops Q (o :: rest) a w :=
  BigFrame.wpList_want hw (fun K hK => by
    unfold Oper.wp
    rw [h]
    refine Calls.mono c (fun e V hR => ?_)
    obtain ⟨v, rfl, hk⟩ := k e V hR
    exact hK _ _ hk)
end

section
variable {P : Program} {ops : Array Oper} {Q : Exit → Act → World → Prop} {md : Region.Mode} {S : World → Prop} {z i n : Nat} {o : Oper} {done : Array Bool} {a : Act} {w : World}
/-- the one operation that may come up yields a value and changes memory -/
theorem kd_valI {v : Value} {w' : World} (I : World → Prop) (hr : Region.ready md ops done = [i]) (ho : ops[i]? = some o) (hw : Region.wanted o (yielded ops a.tmps) = true) (h : (execOp a.eval o).run P w = .ok (.value v) w') (hI : I w') (hS : ∀ V, I V → i ≠ z → S V) (k : ∀ V, I V → wpAnyK P md ops Q (But S z) n (done.setIfInBounds i true) (a.put o.dst v) V) : wpAnyK P md ops Q (But S z) (n + 1) done a w :=
  wpAnyK_one hr ho (fun K hK => by rw [if_pos hw]; unfold Oper.wp; rw [h]; exact hK.out _ _ (hS _ hI) (fun _ => k _ hI))
theorem kd_valW {v : Value} {w' : World} (hr : Region.ready md ops done = [i]) (ho : ops[i]? = some o) (hw : Region.wanted o (yielded ops a.tmps) = true) (h : (execOp a.eval o).run P w = .ok (.value v) w') (hS : i ≠ z → S w') (k : wpAnyK P md ops Q (But S z) n (done.setIfInBounds i true) (a.put o.dst v) w') : wpAnyK P md ops Q (But S z) (n + 1) done a w :=
  wpAnyK_one hr ho (fun K hK => by rw [if_pos hw]; unfold Oper.wp; rw [h]; exact hK.out _ _ hS (fun _ => k))
theorem kd_skipI {w' : World} (I : World → Prop) (hr : Region.ready md ops done = [i]) (ho : ops[i]? = some o) (hw : Region.wanted o (yielded ops a.tmps) = true) (h : (execOp a.eval o).run P w = .ok .skip w') (hI : I w') (hS : ∀ V, I V → i ≠ z → S V) (k : ∀ V, I V → wpAnyK P md ops Q (But S z) n (done.setIfInBounds i true) (a.put o.dst undef) V) : wpAnyK P md ops Q (But S z) (n + 1) done a w :=
  wpAnyK_one hr ho (fun K hK => by rw [if_pos hw]; unfold Oper.wp; rw [h]; exact hK.out _ _ (hS _ hI) (fun _ => k _ hI))
theorem kd_val {v : Value} (hr : Region.ready md ops done = [i]) (ho : ops[i]? = some o) (hw : Region.wanted o (yielded ops a.tmps) = true) (h : (execOp a.eval o).run P w = .ok (.value v) w) (hS : S w) (k : wpAnyK P md ops Q (But S z) n (done.setIfInBounds i true) (a.put o.dst v) w) : wpAnyK P md ops Q (But S z) (n + 1) done a w :=
  wpAnyK_one hr ho (fun K hK => by rw [if_pos hw]; unfold Oper.wp; rw [h]; exact hK.out _ _ (fun _ => hS) (fun _ => k))
theorem kd_call {f : FuncId} {args : Array Value} {R : Ending → World → Prop} (hr : Region.ready md ops done = [i]) (ho : ops[i]? = some o) (hw : Region.wanted o (yielded ops a.tmps) = true) (h : (execOp a.eval o).run P w = .ok (.enter f args) w) (c : Calls P f args w R) (k : ∀ e V, R e V → ∃ v, e = .returned v ∧ (i ≠ z → S V) ∧ wpAnyK P md ops Q (But S z) n (done.setIfInBounds i true) (a.put o.dst v) V) : wpAnyK P md ops Q (But S z) (n + 1) done a w :=
  wpAnyK_one hr ho (fun K hK => by
    rw [if_pos hw]
    unfold Oper.wp
    rw [h]
    refine Calls.mono c (fun e V hR => ?_)
    obtain ⟨v, rfl, hS, hk⟩ := k e V hR
    exact hK.out _ _ hS (fun _ => hk))
end

theorem run_append_op {P : Program} {ρ : Operand → Value} {o : Oper} {w w' : World} (s x : Operand) (t : TypeId) (ho : o.op = .call { callee := .builtin .append, args := #[s, x], argTypes := #[t, t] }) {v u v' : Value} (hs : ρ s = v) (hx : ρ x = u) (hr : (Builtin.append_ #[t, t] o.type #[v, u]).run P w = .ok v' w') : (execOp ρ o).run P w = .ok (.value v') w' := by
  unfold execOp
  simp only [ho, resolve, invoke, builtin, Sem.run_bind, Sem.run_pure, Result.andThen_ok, List.map_toArray, List.map_cons, List.map_nil, hs, hx, hr]

theorem i64wrap {x : Int} (h : -9223372036854775808 ≤ x ∧ x ≤ 9223372036854775807) : IntKind.i64.wrap x = x := by
  obtain ⟨h1, h2⟩ := h
  simp [IntKind.wrap, IntKind.signed, IntKind.bits] <;> omega
/-- no block changes but those of S -/
structure Mv (S : Nat → Prop) (w w' : World) : Prop where
  os : w'.os = w.os
  tape : w'.tape = w.tape
  output : w'.output = w.output
  size : w.heap.size ≤ w'.heap.size
  block : ∀ j, j < w.heap.size → ¬ S j → w'.heap[j]? = w.heap[j]?
abbrev nob : Nat → Prop := fun _ => False
theorem Mv.refl (S : Nat → Prop) (w : World) : Mv S w w := ⟨rfl, rfl, rfl, Nat.le_refl _, fun _ _ _ => rfl⟩
theorem Mv.step {S R : Nat → Prop} {w w1 w2 : World} (h : Mv S w w1) (h2 : Mv R w1 w2) (hs : ∀ g, g < w.heap.size → R g → S g) : Mv S w w2 :=
  ⟨h2.os.trans h.os, h2.tape.trans h.tape, h2.output.trans h.output, Nat.le_trans h.size h2.size, fun j hj hn => (h2.block j (Nat.lt_of_lt_of_le hj h.size) (fun r => hn (hs j hj r))).trans (h.block j hj hn)⟩
theorem Mv.mono {S R : Nat → Prop} {w w1 : World} (h : Mv S w w1) (hs : ∀ g, g < w.heap.size → S g → R g) : Mv R w w1 := ⟨h.os, h.tape, h.output, h.size, fun j hj hn => h.block j hj (fun s => hn (hs j hj s))⟩
theorem Mv.of_below {w w' : World} (h : Below w.heap.size w w') : Mv nob w w' := ⟨h.os, h.tape, h.output, h.size, fun j hj _ => h.block j hj⟩
theorem Mv.below {w w' : World} (h : Mv nob w w') : Below w.heap.size w w' := ⟨h.os, h.tape, h.output, h.size, fun j hj => h.block j hj (fun f => f)⟩
theorem Mv.of_grown {w w' : World} {row : Option Nat} (h : w.grownBy w' row) : Mv (fun g => row = some g) w w' := ⟨h.os, h.tape, h.output, h.size, fun j hj hn => h.block j hj (fun e => hn e.symm)⟩
theorem Mv.drew (w : World) : Mv nob w w.drew := Mv.of_below (Below.refl _ _).drew
theorem Mv.alloc (w : World) (x : Obj) : Mv nob w (w.alloc x) := Mv.of_below ((Below.refl _ _).alloc (Nat.le_refl _) x)
theorem Mv.set {w w' : World} {B : Nat} (h : Mv (fun g => g = B) w w') (i : Nat) (v : Value) : Mv (fun g => g = B) w (w'.setCell ⟨B, i, none⟩ v) := by
  have hb : Below 0 w' (w'.setCell ⟨B, i, none⟩ v) := (Below.refl 0 w').setCell (Nat.zero_le _) v
  exact h.step ⟨hb.os, hb.tape, hb.output, hb.size, fun j hj hn => heap_setCell_other _ _ _ _ hn⟩ (fun _ _ e => e)
theorem Mv.box {S : Nat → Prop} {w w' : World} {b : Nat} {x : Obj} (h : Mv S w w') (hb : w.heap[b]? = some x) (hn : ¬ S b) : w'.heap[b]? = some x := (h.block b (lt_of_block hb) hn).trans hb
theorem Mv.cell {S : Nat → Prop} {w w' : World} {b i : Nat} {x : Value} (h : Mv S w w') (hc : w.cell? ⟨b, i, none⟩ = some x) (hn : ¬ S b) : w'.cell? ⟨b, i, none⟩ = some x := by
  have hlt := World.block_lt_of_cell? w _ hc
  rw [World.cell?_of_block (a := ⟨b, i, none⟩) (h.block b hlt hn)]; exact hc
theorem cell_box {w : World} {B : Nat} {c : Array Value} {T : TypeId} {x : Value} (i : Nat) (h : w.heap[B]? = some (.cells c T (0, 0))) (hx : c[i]? = some x) : w.cell? ⟨B, i, none⟩ = some x := (cell_of_row _ _ i _ _ _ h).trans hx

end Go.Proofs.YtlalldlbgnlbjaaGreatDoor
