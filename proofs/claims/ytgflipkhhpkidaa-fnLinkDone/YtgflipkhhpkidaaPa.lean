/- SwA, SwB, LdJ, SwC, in one text -/
import Derived.Test.YtgflipkhhpkidaaOzA
import Derived.LoopN
import Derived.Test.YtgflipkhhpkidaaLdI
/- A walk by single steps: each operation's run as an equation; what stays when memory moves ('Mv'). Plain: no seat's function is named. -/
namespace Go.Proofs.Ytgflipkhhpkidaa
open Go.RowKit
set_option linter.unusedVariables false
set_option linter.unusedSimpArgs false

section
variable {P : Program} {ops : Array Oper} {Q : Exit → Act → World → Prop} {a : Act} {w : World} {rest : List Oper} {o : Oper}
theorem is_list {l : List Oper} (h : wpList P ops Q l a w) : wpList P ops Q l a w := h
theorem then_normal {next : Act → World → Prop} (h : next a w) : Exit.then next Q .normal a w := h
theorem is_cond {c : Operand} {x y : Code} (h : (Code.cond c x y).wp P Q a w) : (Code.cond c x y).wp P Q a w := h
theorem is_code {c : Code} (h : c.wp P Q a w) : c.wp P Q a w := h
/-- a linear step that yields a value and leaves memory -/
theorem sw_val {v : Value} (hw : Region.wanted o (yielded ops a.tmps) = true) (h : (execOp a.eval o).run P w = .ok (.value v) w) (k : wpList P ops Q rest (a.put o.dst v) w) : wpList P ops Q (o :: rest) a w :=
  BigFrame.wpList_want hw (fun K hK => by unfold Oper.wp; rw [h]; exact hK _ _ k)
/-- one that yields a value and changes memory: what is said of the new world is all that is known of it -/
theorem sw_valI {v : Value} {w' : World} (I : World → Prop) (hw : Region.wanted o (yielded ops a.tmps) = true) (h : (execOp a.eval o).run P w = .ok (.value v) w') (hI : I w') (k : ∀ V, I V → wpList P ops Q rest (a.put o.dst v) V) : wpList P ops Q (o :: rest) a w :=
  BigFrame.wpList_want hw (fun K hK => by unfold Oper.wp; rw [h]; exact hK _ _ (k _ hI))
theorem sw_valW {v : Value} {w' : World} (hw : Region.wanted o (yielded ops a.tmps) = true) (h : (execOp a.eval o).run P w = .ok (.value v) w') (k : wpList P ops Q rest (a.put o.dst v) w') : wpList P ops Q (o :: rest) a w :=
  BigFrame.wpList_want hw (fun K hK => by unfold Oper.wp; rw [h]; exact hK _ _ k)
theorem sw_skipI {w' : World} (I : World → Prop) (hw : Region.wanted o (yielded ops a.tmps) = true) (h : (execOp a.eval o).run P w = .ok .skip w') (hI : I w') (k : ∀ V, I V → wpList P ops Q rest (a.put o.dst undef) V) : wpList P ops Q (o :: rest) a w :=
  BigFrame.wpList_want hw (fun K hK => by unfold Oper.wp; rw [h]; exact hK _ _ (k _ hI))
theorem sw_pass (hw : Region.wanted o (yielded ops a.tmps) = false) (k : wpList P ops Q rest (a.put o.dst undef) w) : wpList P ops Q (o :: rest) a w := wpList_skip hw k
theorem sw_call {f : FuncId} {args : Array Value} {R : Ending → World → Prop} (hw : Region.wanted o (yielded ops a.tmps) = true) (h : (execOp a.eval o).run P w = .ok (.enter f args) w) (c : Calls P f args w R) (k : ∀ e V, R e V → ∃ v, e = .returned v ∧ wpList P ops Q rest (a.put o.dst v) V) : wpList P ops Q (o :: rest) a w :=
  BigFrame.wpList_want hw (fun K hK => by
    unfold Oper.wp
    rw [h]
    refine Calls.mono c (fun e V hR => ?_)
    obtain ⟨v, rfl, hk⟩ := k e V hR
    exact hK _ _ hk)
end

section
variable {P : Program} {ops : Array Oper} {Q : Exit → Act → World → Prop} {md : Region.Mode} {S : World → Prop} {z i n : Nat} {o : Oper} {done : Array Bool} {a : Act} {w : World}
/-- the one operation that may come up yields a value and changes memory -/
theorem kd_valI {v : Value} {w' : World} (I : World → Prop) (hr : Region.ready md ops done = [i]) (ho : ops[i]? = some o) (hw : Region.wanted o (yielded ops a.tmps) = true) (h : (execOp a.eval o).run P w = .ok (.value v) w') (hI : I w') (hS : ∀ V, I V → i ≠ z → S V) (k : ∀ V, I V → wpAnyK P md ops Q (But S z) n (done.setIfInBounds i true) (a.put o.dst v) V) : wpAnyK P md ops Q (But S z) (n + 1) done a w :=
  wpAnyK_one hr ho (fun K hK => by rw [if_pos hw]; unfold Oper.wp; rw [h]; exact hK.out _ _ (hS _ hI) (fun _ => k _ hI))
theorem kd_valW {v : Value} {w' : World} (hr : Region.ready md ops done = [i]) (ho : ops[i]? = some o) (hw : Region.wanted o (yielded ops a.tmps) = true) (h : (execOp a.eval o).run P w = .ok (.value v) w') (hS : i ≠ z → S w') (k : wpAnyK P md ops Q (But S z) n (done.setIfInBounds i true) (a.put o.dst v) w') : wpAnyK P md ops Q (But S z) (n + 1) done a w :=
  wpAnyK_one hr ho (fun K hK => by rw [if_pos hw]; unfold Oper.wp; rw [h]; exact hK.out _ _ hS (fun _ => k))
theorem kd_skipI {w' : World} (I : World → Prop) (hr : Region.ready md ops done = [i]) (ho : ops[i]? = some o) (hw : Region.wanted o (yielded ops a.tmps) = true) (h : (execOp a.eval o).run P w = .ok .skip w') (hI : I w') (hS : ∀ V, I V → i ≠ z → S V) (k : ∀ V, I V → wpAnyK P md ops Q (But S z) n (done.setIfInBounds i true) (a.put o.dst undef) V) : wpAnyK P md ops Q (But S z) (n + 1) done a w :=
  wpAnyK_one hr ho (fun K hK => by rw [if_pos hw]; unfold Oper.wp; rw [h]; exact hK.out _ _ (hS _ hI) (fun _ => k _ hI))
theorem kd_val {v : Value} (hr : Region.ready md ops done = [i]) (ho : ops[i]? = some o) (hw : Region.wanted o (yielded ops a.tmps) = true) (h : (execOp a.eval o).run P w = .ok (.value v) w) (hS : S w) (k : wpAnyK P md ops Q (But S z) n (done.setIfInBounds i true) (a.put o.dst v) w) : wpAnyK P md ops Q (But S z) (n + 1) done a w :=
  wpAnyK_one hr ho (fun K hK => by rw [if_pos hw]; unfold Oper.wp; rw [h]; exact hK.out _ _ (fun _ => hS) (fun _ => k))
theorem kd_pass (hr : Region.ready md ops done = [i]) (ho : ops[i]? = some o) (hw : Region.wanted o (yielded ops a.tmps) = false) (hS : S w) (k : wpAnyK P md ops Q (But S z) n (done.setIfInBounds i true) (a.put o.dst undef) w) : wpAnyK P md ops Q (But S z) (n + 1) done a w :=
  wpAnyK_one hr ho (fun K hK => by rw [if_neg (by rw [hw]; decide)]; exact hK.out _ _ (fun _ => hS) (fun _ => k))
theorem kd_call {f : FuncId} {args : Array Value} {R : Ending → World → Prop} (hr : Region.ready md ops done = [i]) (ho : ops[i]? = some o) (hw : Region.wanted o (yielded ops a.tmps) = true) (h : (execOp a.eval o).run P w = .ok (.enter f args) w) (c : Calls P f args w R) (k : ∀ e V, R e V → ∃ v, e = .returned v ∧ (i ≠ z → S V) ∧ wpAnyK P md ops Q (But S z) n (done.setIfInBounds i true) (a.put o.dst v) V) : wpAnyK P md ops Q (But S z) (n + 1) done a w :=
  wpAnyK_one hr ho (fun K hK => by
    rw [if_pos hw]
    unfold Oper.wp
    rw [h]
    refine Calls.mono c (fun e V hR => ?_)
    obtain ⟨v, rfl, hS, hk⟩ := k e V hR
    exact hK.out _ _ hS (fun _ => hk))
end

theorem run_append_op {P : Program} {ρ : Operand → Value} {o : Oper} {w w' : World} (s x : Operand) (t : TypeId) (ho : o.op = .call { callee := .builtin .append, args := #[s, x], argTypes := #[t, t] }) {v u v' : Value} (hs : ρ s = v) (hx : ρ x = u) (hr : (Builtin.append_ #[t, t] o.type #[v, u]).run P w = .ok v' w') : (execOp ρ o).run P w = .ok (.value v') w' := by
  unfold execOp
  simp only [ho, resolve, invoke, builtin, Sem.run_bind, Sem.run_pure, Result.andThen_ok, List.map_toArray, List.map_cons, List.map_nil, hs, hx, hr]

theorem i64wrap {x : Int} (h : -9223372036854775808 ≤ x ∧ x ≤ 9223372036854775807) : IntKind.i64.wrap x = x := by
  obtain ⟨h1, h2⟩ := h
  simp [IntKind.wrap, IntKind.signed, IntKind.bits] <;> omega
/-- the rules by which a slot is filled, as one -/
theorem PS : (∀ (l : List Value) (i : Nat) (h : i < l.toArray.size), l.toArray[i] = l[i]'(by simpa using h)) ∧ (∀ (x : Value) (l : List Value) (h : 0 < (x :: l).length), (x :: l)[0]'h = x) ∧ (∀ (x : Value) (l : List Value) (i : Nat) (h : i + 1 < (x :: l).length), (x :: l)[i + 1]'h = l[i]'(Nat.lt_of_succ_lt_succ h)) ∧ (∀ (l : List Value) (i : Nat) (x : Value), l.toArray.setIfInBounds i x = (l.set i x).toArray) ∧ (∀ (x y : Value) (l : List Value), (x :: l).set 0 y = y :: l) ∧ (∀ (x y : Value) (l : List Value) (i : Nat), (x :: l).set (i + 1) y = x :: l.set i y) :=
  ⟨fun _ _ _ => by simp, fun _ _ _ => rfl, fun _ _ _ _ => rfl, fun _ _ _ => by simp, fun _ _ _ => rfl, fun _ _ _ _ => rfl⟩
/-- no block changes but those of S -/
structure Mv (S : Nat → Prop) (w w' : World) : Prop where
  os : w'.os = w.os
  tape : w'.tape = w.tape
  output : w'.output = w.output
  size : w.heap.size ≤ w'.heap.size
  block : ∀ j, j < w.heap.size → ¬ S j → w'.heap[j]? = w.heap[j]?
abbrev nob : Nat → Prop := fun _ => False
theorem Mv.refl (S : Nat → Prop) (w : World) : Mv S w w := ⟨rfl, rfl, rfl, Nat.le_refl _, fun _ _ _ => rfl⟩
theorem Mv.step {S R : Nat → Prop} {w w1 w2 : World} (h : Mv S w w1) (h2 : Mv R w1 w2) (hs : ∀ g, g < w.heap.size → R g → S g) : Mv S w w2 :=
  ⟨h2.os.trans h.os, h2.tape.trans h.tape, h2.output.trans h.output, Nat.le_trans h.size h2.size, fun j hj hn => (h2.block j (Nat.lt_of_lt_of_le hj h.size) (fun r => hn (hs j hj r))).trans (h.block j hj hn)⟩
theorem Mv.mono {S R : Nat → Prop} {w w1 : World} (h : Mv S w w1) (hs : ∀ g, g < w.heap.size → S g → R g) : Mv R w w1 := ⟨h.os, h.tape, h.output, h.size, fun j hj hn => h.block j hj (fun s => hn (hs j hj s))⟩
theorem Mv.of_below {w w' : World} (h : Below w.heap.size w w') : Mv nob w w' := ⟨h.os, h.tape, h.output, h.size, fun j hj _ => h.block j hj⟩
theorem Mv.below {w w' : World} (h : Mv nob w w') : Below w.heap.size w w' := ⟨h.os, h.tape, h.output, h.size, fun j hj => h.block j hj (fun f => f)⟩
theorem Mv.of_grown {w w' : World} {row : Option Nat} (h : w.grownBy w' row) : Mv (fun g => row = some g) w w' := ⟨h.os, h.tape, h.output, h.size, fun j hj hn => h.block j hj (fun e => hn e.symm)⟩
theorem Mv.drew (w : World) : Mv nob w w.drew := Mv.of_below (Below.refl _ _).drew
theorem Mv.alloc (w : World) (x : Obj) : Mv nob w (w.alloc x) := Mv.of_below ((Below.refl _ _).alloc (Nat.le_refl _) x)
theorem Mv.set {w w' : World} {B : Nat} (h : Mv (fun g => g = B) w w') (i : Nat) (v : Value) : Mv (fun g => g = B) w (w'.setCell ⟨B, i, none⟩ v) := by
  have hb : Below 0 w' (w'.setCell ⟨B, i, none⟩ v) := (Below.refl 0 w').setCell (Nat.zero_le _) v
  exact h.step ⟨hb.os, hb.tape, hb.output, hb.size, fun j hj hn => heap_setCell_other _ _ _ _ hn⟩ (fun _ _ e => e)
theorem Mv.box {S : Nat → Prop} {w w' : World} {b : Nat} {x : Obj} (h : Mv S w w') (hb : w.heap[b]? = some x) (hn : ¬ S b) : w'.heap[b]? = some x := (h.block b (lt_of_block hb) hn).trans hb
theorem Mv.cell {S : Nat → Prop} {w w' : World} {b i : Nat} {x : Value} (h : Mv S w w') (hc : w.cell? ⟨b, i, none⟩ = some x) (hn : ¬ S b) : w'.cell? ⟨b, i, none⟩ = some x := by
  have hlt := World.block_lt_of_cell? w _ hc
  rw [World.cell?_of_block (a := ⟨b, i, none⟩) (h.block b hlt hn)]; exact hc
theorem below_mv {S : Nat → Prop} {B : Nat} {w w1 w2 : World} (h : Below B w w1) (hm : Mv S w1 w2) (hS : ∀ g, S g → B ≤ g) (hB : B ≤ w1.heap.size) : Below B w w2 :=
  ⟨hm.os.trans h.os, hm.tape.trans h.tape, hm.output.trans h.output, Nat.le_trans h.size hm.size, fun j hj => (hm.block j (Nat.lt_of_lt_of_le hj hB) (fun s => by have := hS j s; omega)).trans (h.block j hj)⟩
theorem cell_box {w : World} {B : Nat} {c : Array Value} {T : TypeId} {x : Value} (i : Nat) (h : w.heap[B]? = some (.cells c T (0, 0))) (hx : c[i]? = some x) : w.cell? ⟨B, i, none⟩ = some x := (cell_of_row _ _ i _ _ _ h).trans hx

end Go.Proofs.Ytgflipkhhpkidaa

/- control steps of loops and blocks -/
namespace Go.Proofs.Ytgflipkhhpkidaa
open Go.RowKit
set_option linter.unusedVariables false
section
variable {P : Program} {Q : Exit → Act → World → Prop} {a : Act} {w : World} {next : Act → World → Prop}
theorem rounds_step {c : Code} {n : Nat} (h : c.wp P (Exit.then (Code.rounds P c Q n) Q) a w) : Code.rounds P c Q (n + 1) a w := h
theorem then_exit {id : Nat} (h : Q (.exit id) a w) : Exit.then next Q (.exit id) a w := h
theorem then_ret (h : Q .ret a w) : Exit.then next Q .ret a w := h
theorem inb_ret {id : Nat} (h : Q .ret a w) : Exit.inBlock id Q .ret a w := h
theorem inb_norm {id : Nat} (h : Q .normal a w) : Exit.inBlock id Q .normal a w := h
theorem inb_here {id id' : Nat} (e : id' = id) (h : Q .normal a w) : Exit.inBlock id Q (.exit id') a w := by simpa [Exit.inBlock, e] using h
theorem inb_on {id id' : Nat} (e : ¬ id' = id) (h : Q (.exit id') a w) : Exit.inBlock id Q (.exit id') a w := by simpa [Exit.inBlock, e] using h
end
end Go.Proofs.Ytgflipkhhpkidaa

/- links while memory moves -/
namespace Go.Proofs.Ytgflipkhhpkidaa
open Go.RowKit
set_option linter.unusedVariables false
set_option linter.unusedSimpArgs false

theorem Rg.mv {S : Nat → Prop} {w w' : World} {base : Nat} {v : Value} {m n : Nat} {f : Nat → Nat → Value} (h : Rg w base v m n f) (hm : Mv S w w') (hs : ∀ g, rb v = some g → ¬ S g) : Rg w' base v m n f := by
  rcases h with h | ⟨g, off, k, rfl, h1, hp, h0, h2, ⟨cur, T, h3, h5⟩, h4⟩
  · exact .inl h
  · have hb := hm.block g (lt_of_block h3) (hs g (rb_some hp))
    exact .inr ⟨g, off, k, rfl, h1, hp, h0, h2, ⟨cur, T, hb.trans h3, h5⟩, fun x hx => by rw [World.cell?_of_block (a := ⟨g, off + x, none⟩) hb]; exact h4 x hx⟩
/-- the blocks of a link's rows -/
def Lrb (wv gv dv uv : Value) (g : Nat) : Prop := rb wv = some g ∨ rb gv = some g ∨ rb dv = some g ∨ rb uv = some g
theorem Lr.mv {S : Nat → Prop} {w w' : World} {base : Nat} {wv gv dv uv : Value} {p : Lk} (h : Lr w base wv gv dv uv p) (hm : Mv S w w') (hs : ∀ g, Lrb wv gv dv uv g → ¬ S g) : Lr w' base wv gv dv uv p :=
  ⟨h.wa.mv hm (fun g e => hs g (.inl e)), h.go.mv hm (fun g e => hs g (.inr (.inl e))), h.dn.mv hm (fun g e => hs g (.inr (.inr (.inl e)))), h.up.mv hm (fun g e => hs g (.inr (.inr (.inr e)))), h.aw, h.ag, h.ad⟩
theorem Lr.lt {w : World} {base : Nat} {wv gv dv uv : Value} {p : Lk} (h : Lr w base wv gv dv uv p) : ∀ g, Lrb wv gv dv uv g → base ≤ g ∧ g < w.heap.size := by
  rintro g (e | e | e | e)
  · exact h.wa.lt g e
  · exact h.go.lt g e
  · exact h.dn.lt g e
  · exact h.up.lt g e

theorem rb_blk {a : Addr} {n k g : Nat} (e : rb (.slice (some a) n k) = some g) : a.block = g := by
  cases k with
  | zero => rw [rb_zero] at e; cases e
  | succ k => simpa [rb] using e

theorem af_wa {A : Nat → Prop} {hi sz gx ox n k : Nat} {wv gv dv uv : Value} (h : ∀ g, Lrb wv gv dv uv g → A g ∨ hi < g) (hb : rb wv = some gx ∨ sz ≤ gx) (hs : hi < sz) : ∀ g, Lrb (.slice (some ⟨gx, ox, none⟩) n k) gv dv uv g → A g ∨ hi < g := by
  rintro g (e | e | e | e)
  · have e2 : gx = g := rb_blk e
    subst e2
    rcases hb with e | e
    · exact h gx (.inl e)
    · right; omega
  · exact h g (.inr (.inl e))
  · exact h g (.inr (.inr (.inl e)))
  · exact h g (.inr (.inr (.inr e)))
theorem af_go {A : Nat → Prop} {hi sz gx ox n k : Nat} {wv gv dv uv : Value} (h : ∀ g, Lrb wv gv dv uv g → A g ∨ hi < g) (hb : rb gv = some gx ∨ sz ≤ gx) (hs : hi < sz) : ∀ g, Lrb wv (.slice (some ⟨gx, ox, none⟩) n k) dv uv g → A g ∨ hi < g := by
  rintro g (e | e | e | e)
  · exact h g (.inl e)
  · have e2 : gx = g := rb_blk e
    subst e2
    rcases hb with e | e
    · exact h gx (.inr (.inl e))
    · right; omega
  · exact h g (.inr (.inr (.inl e)))
  · exact h g (.inr (.inr (.inr e)))
theorem af_dn {A : Nat → Prop} {hi sz gx ox n k : Nat} {wv gv dv uv : Value} (h : ∀ g, Lrb wv gv dv uv g → A g ∨ hi < g) (hb : rb dv = some gx ∨ sz ≤ gx) (hs : hi < sz) : ∀ g, Lrb wv gv (.slice (some ⟨gx, ox, none⟩) n k) uv g → A g ∨ hi < g := by
  rintro g (e | e | e | e)
  · exact h g (.inl e)
  · exact h g (.inr (.inl e))
  · have e2 : gx = g := rb_blk e
    subst e2
    rcases hb with e | e
    · exact h gx (.inr (.inr (.inl e)))
    · right; omega
  · exact h g (.inr (.inr (.inr e)))
theorem af_up {A : Nat → Prop} {hi sz gx ox n k : Nat} {wv gv dv uv : Value} (h : ∀ g, Lrb wv gv dv uv g → A g ∨ hi < g) (hb : rb uv = some gx ∨ sz ≤ gx) (hs : hi < sz) : ∀ g, Lrb wv gv dv (.slice (some ⟨gx, ox, none⟩) n k) g → A g ∨ hi < g := by
  rintro g (e | e | e | e)
  · exact h g (.inl e)
  · exact h g (.inr (.inl e))
  · exact h g (.inr (.inr (.inl e)))
  · have e2 : gx = g := rb_blk e
    subst e2
    rcases hb with e | e
    · exact h gx (.inr (.inr (.inr e)))
    · right; omega

/-- what is new of a link's blocks -/
def Nw (sz : Nat) (wv gv dv uv wv' gv' dv' uv' : Value) : Prop := ∀ g, Lrb wv' gv' dv' uv' g → Lrb wv gv dv uv g ∨ sz ≤ g
theorem nw_wa {sz : Nat} {wv gv dv uv x : Value} (h : ∀ g, rb x = some g → rb wv = some g ∨ sz ≤ g) : Nw sz wv gv dv uv x gv dv uv := by
  rintro g (e | e | e | e)
  · exact (h g e).elim (fun e => .inl (.inl e)) .inr
  · exact .inl (.inr (.inl e))
  · exact .inl (.inr (.inr (.inl e)))
  · exact .inl (.inr (.inr (.inr e)))
theorem nw_go {sz : Nat} {wv gv dv uv x : Value} (h : ∀ g, rb x = some g → rb gv = some g ∨ sz ≤ g) : Nw sz wv gv dv uv wv x dv uv := by
  rintro g (e | e | e | e)
  · exact .inl (.inl e)
  · exact (h g e).elim (fun e => .inl (.inr (.inl e))) .inr
  · exact .inl (.inr (.inr (.inl e)))
  · exact .inl (.inr (.inr (.inr e)))
theorem nw_dn {sz : Nat} {wv gv dv uv x : Value} (h : ∀ g, rb x = some g → rb dv = some g ∨ sz ≤ g) : Nw sz wv gv dv uv wv gv x uv := by
  rintro g (e | e | e | e)
  · exact .inl (.inl e)
  · exact .inl (.inr (.inl e))
  · exact (h g e).elim (fun e => .inl (.inr (.inr (.inl e)))) .inr
  · exact .inl (.inr (.inr (.inr e)))
theorem nw_up {sz : Nat} {wv gv dv uv x : Value} (h : ∀ g, rb x = some g → rb uv = some g ∨ sz ≤ g) : Nw sz wv gv dv uv wv gv dv x := by
  rintro g (e | e | e | e)
  · exact .inl (.inl e)
  · exact .inl (.inr (.inl e))
  · exact .inl (.inr (.inr (.inl e)))
  · exact (h g e).elim (fun e => .inl (.inr (.inr (.inr e)))) .inr
theorem Nw.refl (sz : Nat) (wv gv dv uv : Value) : Nw sz wv gv dv uv wv gv dv uv := fun _ h => .inl h
theorem Below.gb {w w' : World} (h : Below w.heap.size w w') (r : Option Nat) : w.grownBy w' r := ⟨h.os, h.tape, h.output, h.size, fun j hj _ => h.block j hj⟩

end Go.Proofs.Ytgflipkhhpkidaa

/- the steps of a walk, in few words: what each leaves to be shown is shown by itself where it can be. No seat's function is named. -/
namespace Go.Proofs.Ytgflipkhhpkidaa
open Go.RowKit
set_option linter.unusedVariables false
set_option linter.unusedSimpArgs false
theorem blk1 {w : World} {b off : Nat} {C : Array Value} {T : TypeId} (x : Value) (h : w.heap[b]? = some (.cells C T (0, 0))) : (w.setCell ⟨b, off, none⟩ x).heap[b]? = some (.cells (C.setIfInBounds off x) T (0, 0)) := heap_setCell_same _ _ off _ _ _ h
abbrev set2 (w : World) (b : Nat) (x0 x1 : Value) : World := (w.setCell ⟨b, 0, none⟩ x0).setCell ⟨b, 1, none⟩ x1
abbrev set3 (w : World) (b : Nat) (x0 x1 x2 : Value) : World := (set2 w b x0 x1).setCell ⟨b, 2, none⟩ x2
abbrev set6 (w : World) (b : Nat) (x0 x1 x2 x3 x4 x5 : Value) : World := (((set3 w b x0 x1 x2).setCell ⟨b, 3, none⟩ x3).setCell ⟨b, 4, none⟩ x4).setCell ⟨b, 5, none⟩ x5
section
variable {P : Program} {ops : Array Oper} {Q : Exit → Act → World → Prop} {a a' : Act} {af : Nat → Act} {w : World} {rest : List Oper} {o : Oper} {b : Nat} {C C' : Array Value} {T : TypeId}
theorem sv (v : Value) (k : wpList P ops Q rest a' w) (hw : Region.wanted o (yielded ops a.tmps) = true := by rfl) (h : (execOp a.eval o).run P w = .ok (.value v) w := by first | rfl | go_simp)
    (hp : a.put o.dst v = a' := by simp only [Act.put, List.getElem_toArray, List.getElem_cons_zero, List.getElem_cons_succ, List.setIfInBounds_toArray, List.set_cons_zero, List.set_cons_succ]; rfl) : wpList P ops Q (o :: rest) a w := by
  subst hp; exact sw_val hw h k
theorem sg (v : Value) (k : wpList P ops Q rest a' w) (hw : Region.wanted o (yielded ops a.tmps) = true := by rfl) (h : (execOp a.eval o).run P w = .ok (.value v) w := by go_simp)
    (hp : a.put o.dst v = a' := by simp only [Act.put, List.getElem_toArray, List.getElem_cons_zero, List.getElem_cons_succ, List.setIfInBounds_toArray, List.set_cons_zero, List.set_cons_succ]; rfl) : wpList P ops Q (o :: rest) a w := by
  subst hp; exact sw_val hw h k
theorem sp (k : wpList P ops Q rest a' w) (hw : Region.wanted o (yielded ops a.tmps) = false := by kernel_rfl)
    (hp : a.put o.dst undef = a' := by simp only [Act.put, List.getElem_toArray, List.getElem_cons_zero, List.getElem_cons_succ, List.setIfInBounds_toArray, List.set_cons_zero, List.set_cons_succ]; rfl) : wpList P ops Q (o :: rest) a w := by
  subst hp; exact sw_pass hw k
/-- a load of one cell -/
theorem sl (i : Nat) {x : Value} (hb : Hid (w.heap[b]? = some (.cells C T (0, 0)))) (k : wpList P ops Q rest a' w) (hx : C[i]? = some x := by rfl) (hw : Region.wanted o (yielded ops a.tmps) = true := by rfl)
    (h : w.cell? ⟨b, i, none⟩ = some x → (execOp a.eval o).run P w = .ok (.value x) w := by intro z0; go_simp)
    (hp : a.put o.dst x = a' := by simp only [Act.put, List.getElem_toArray, List.getElem_cons_zero, List.getElem_cons_succ, List.setIfInBounds_toArray, List.set_cons_zero, List.set_cons_succ]; rfl) : wpList P ops Q (o :: rest) a w := by
  subst hp; exact sw_val hw (h (cell_box i hb.out hx)) k
/-- a load of six cells -/
theorem sl6 {x0 x1 x2 x3 x4 x5 : Value} (hb : Hid (w.heap[b]? = some (.cells #[x0, x1, x2, x3, x4, x5] T (0, 0)))) (k : wpList P ops Q rest a' w) (hw : Region.wanted o (yielded ops a.tmps) = true := by rfl)
    (h : w.cell? ⟨b, 0, none⟩ = some x0 → w.cell? ⟨b, 1, none⟩ = some x1 → w.cell? ⟨b, 2, none⟩ = some x2 → w.cell? ⟨b, 3, none⟩ = some x3 → w.cell? ⟨b, 4, none⟩ = some x4 → w.cell? ⟨b, 5, none⟩ = some x5 → (execOp a.eval o).run P w = .ok (.value (.agg #[x0, x1, x2, x3, x4, x5])) w := by intro z0 z1 z2 z3 z4 z5; go_simp)
    (hp : a.put o.dst (.agg #[x0, x1, x2, x3, x4, x5]) = a' := by simp only [Act.put, List.getElem_toArray, List.getElem_cons_zero, List.getElem_cons_succ, List.setIfInBounds_toArray, List.set_cons_zero, List.set_cons_succ]; rfl) : wpList P ops Q (o :: rest) a w := by
  subst hp; exact sw_val hw (h (cell_box 0 hb.out rfl) (cell_box 1 hb.out rfl) (cell_box 2 hb.out rfl) (cell_box 3 hb.out rfl) (cell_box 4 hb.out rfl) (cell_box 5 hb.out rfl)) k
/-- a new block behind a pointer, behind a slice -/
theorem sbp (C : Array Value) (T : TypeId) (k : ∀ (V : World) (b : Nat), w.heap.size = b → Mv nob w V → Hid (V.heap[b]? = some (.cells C T (0, 0))) → wpList P ops Q rest (af b) V) (hw : Region.wanted o (yielded ops a.tmps) = true := by rfl)
    (h : (execOp a.eval o).run P w = .ok (.value (.pointer (some ⟨w.heap.size, 0, none⟩))) (w.alloc (.cells C T)) := by first | rfl | go_simp)
    (hp : ∀ b : Nat, a.put o.dst (.pointer (some ⟨b, 0, none⟩)) = af b := by intro b; simp only [Act.put, List.getElem_toArray, List.getElem_cons_zero, List.getElem_cons_succ, List.setIfInBounds_toArray, List.set_cons_zero, List.set_cons_succ]; rfl) : wpList P ops Q (o :: rest) a w := by
  refine sw_valW hw h ?_
  rw [hp]; exact k _ _ rfl (Mv.alloc _ _) (hide (heap_alloc_new _ _))
theorem sbs (n : Nat) (C : Array Value) (T : TypeId) (k : ∀ (V : World) (b : Nat), w.heap.size = b → Mv nob w V → Hid (V.heap[b]? = some (.cells C T (0, 0))) → wpList P ops Q rest (af b) V) (hw : Region.wanted o (yielded ops a.tmps) = true := by rfl)
    (h : (execOp a.eval o).run P w = .ok (.value (.slice (some ⟨w.heap.size, 0, none⟩) n n)) (w.alloc (.cells C T)) := by first | rfl | go_simp)
    (hp : ∀ b : Nat, a.put o.dst (.slice (some ⟨b, 0, none⟩) n n) = af b := by intro b; simp only [Act.put, List.getElem_toArray, List.getElem_cons_zero, List.getElem_cons_succ, List.setIfInBounds_toArray, List.set_cons_zero, List.set_cons_succ]; rfl) : wpList P ops Q (o :: rest) a w := by
  refine sw_valW hw h ?_
  rw [hp]; exact k _ _ rfl (Mv.alloc _ _) (hide (heap_alloc_new _ _))
theorem sw_skipW {w' : World} (hw : Region.wanted o (yielded ops a.tmps) = true) (h : (execOp a.eval o).run P w = .ok .skip w') (k : wpList P ops Q rest (a.put o.dst undef) w') : wpList P ops Q (o :: rest) a w :=
  BigFrame.wpList_want hw (fun K hK => by unfold Oper.wp; rw [h]; exact hK _ _ k)
theorem s0 (k : wpList P ops Q rest a' w) (hw : Region.wanted o (yielded ops a.tmps) = true := by rfl) (h : (execOp a.eval o).run P w = .ok .skip w := by go_simp)
    (hp : a.put o.dst undef = a' := by simp only [Act.put, List.getElem_toArray, List.getElem_cons_zero, List.getElem_cons_succ, List.setIfInBounds_toArray, List.set_cons_zero, List.set_cons_succ]; rfl) : wpList P ops Q (o :: rest) a w := by
  subst hp; exact sw_skipW hw h k
/-- stores: one cell, two, three, six -/
theorem ss (off : Nat) (x : Value) {y : Value} (hb : Hid (w.heap[b]? = some (.cells C T (0, 0)))) (k : ∀ V : World, Mv (fun g => g = b) w V → Hid (V.heap[b]? = some (.cells C' T (0, 0))) → wpList P ops Q rest a' V) (hy : C[off]? = some y := by rfl) (hC : C.setIfInBounds off x = C' := by simp only [List.setIfInBounds_toArray, List.set_cons_zero, List.set_cons_succ]; rfl) (hw : Region.wanted o (yielded ops a.tmps) = true := by rfl)
    (h : (∀ i, w.frozen? ⟨b, i, none⟩ = false) → w.cell? ⟨b, off, none⟩ = some y → (execOp a.eval o).run P w = .ok .skip (w.setCell ⟨b, off, none⟩ x) := by intro fr z0; go_simp)
    (hp : a.put o.dst undef = a' := by simp only [Act.put, List.getElem_toArray, List.getElem_cons_zero, List.getElem_cons_succ, List.setIfInBounds_toArray, List.set_cons_zero, List.set_cons_succ]; rfl) : wpList P ops Q (o :: rest) a w := by
  subst hp hC
  exact sw_skipW hw (h (fun i => frozen_of_row _ _ i _ _ hb.out) (cell_box off hb.out hy)) (k _ ((Mv.refl _ _).set _ _) (hide (blk1 _ hb.out)))
theorem ss2 (x0 x1 : Value) {y0 y1 : Value} (hb : Hid (w.heap[b]? = some (.cells #[y0, y1] T (0, 0)))) (k : ∀ V : World, Mv (fun g => g = b) w V → Hid (V.heap[b]? = some (.cells #[x0, x1] T (0, 0))) → wpList P ops Q rest a' V) (hw : Region.wanted o (yielded ops a.tmps) = true := by rfl)
    (h : (∀ i, w.frozen? ⟨b, i, none⟩ = false) → w.cell? ⟨b, 0, none⟩ = some y0 → w.cell? ⟨b, 1, none⟩ = some y1 → (execOp a.eval o).run P w = .ok .skip (set2 w b x0 x1) := by intro fr z0 z1; go_simp)
    (hp : a.put o.dst undef = a' := by simp only [Act.put, List.getElem_toArray, List.getElem_cons_zero, List.getElem_cons_succ, List.setIfInBounds_toArray, List.set_cons_zero, List.set_cons_succ]; rfl) : wpList P ops Q (o :: rest) a w := by
  subst hp
  exact sw_skipW hw (h (fun i => frozen_of_row _ _ i _ _ hb.out) (cell_box 0 hb.out rfl) (cell_box 1 hb.out rfl)) (k _ (((Mv.refl _ _).set _ _).set _ _) (hide (blk1 _ (blk1 _ hb.out))))
theorem ss3 (x0 x1 x2 : Value) {y0 y1 y2 : Value} (hb : Hid (w.heap[b]? = some (.cells #[y0, y1, y2] T (0, 0)))) (k : ∀ V : World, Mv (fun g => g = b) w V → Hid (V.heap[b]? = some (.cells #[x0, x1, x2] T (0, 0))) → wpList P ops Q rest a' V) (hw : Region.wanted o (yielded ops a.tmps) = true := by rfl)
    (h : (∀ i, w.frozen? ⟨b, i, none⟩ = false) → w.cell? ⟨b, 0, none⟩ = some y0 → w.cell? ⟨b, 1, none⟩ = some y1 → w.cell? ⟨b, 2, none⟩ = some y2 → (execOp a.eval o).run P w = .ok .skip (set3 w b x0 x1 x2) := by intro fr z0 z1 z2; go_simp)
    (hp : a.put o.dst undef = a' := by simp only [Act.put, List.getElem_toArray, List.getElem_cons_zero, List.getElem_cons_succ, List.setIfInBounds_toArray, List.set_cons_zero, List.set_cons_succ]; rfl) : wpList P ops Q (o :: rest) a w := by
  subst hp
  exact sw_skipW hw (h (fun i => frozen_of_row _ _ i _ _ hb.out) (cell_box 0 hb.out rfl) (cell_box 1 hb.out rfl) (cell_box 2 hb.out rfl)) (k _ ((((Mv.refl _ _).set _ _).set _ _).set _ _) (hide (blk1 _ (blk1 _ (blk1 _ hb.out)))))
theorem ss6 (x0 x1 x2 x3 x4 x5 : Value) {y0 y1 y2 y3 y4 y5 : Value} (hb : Hid (w.heap[b]? = some (.cells #[y0, y1, y2, y3, y4, y5] T (0, 0)))) (k : ∀ V : World, Mv (fun g => g = b) w V → Hid (V.heap[b]? = some (.cells #[x0, x1, x2, x3, x4, x5] T (0, 0))) → wpList P ops Q rest a' V) (hw : Region.wanted o (yielded ops a.tmps) = true := by rfl)
    (h : (∀ i, w.frozen? ⟨b, i, none⟩ = false) → w.cell? ⟨b, 0, none⟩ = some y0 → w.cell? ⟨b, 1, none⟩ = some y1 → w.cell? ⟨b, 2, none⟩ = some y2 → w.cell? ⟨b, 3, none⟩ = some y3 → w.cell? ⟨b, 4, none⟩ = some y4 → w.cell? ⟨b, 5, none⟩ = some y5 → (execOp a.eval o).run P w = .ok .skip (set6 w b x0 x1 x2 x3 x4 x5) := by intro fr z0 z1 z2 z3 z4 z5; go_simp)
    (hp : a.put o.dst undef = a' := by simp only [Act.put, List.getElem_toArray, List.getElem_cons_zero, List.getElem_cons_succ, List.setIfInBounds_toArray, List.set_cons_zero, List.set_cons_succ]; rfl) : wpList P ops Q (o :: rest) a w := by
  subst hp
  exact sw_skipW hw (h (fun i => frozen_of_row _ _ i _ _ hb.out) (cell_box 0 hb.out rfl) (cell_box 1 hb.out rfl) (cell_box 2 hb.out rfl) (cell_box 3 hb.out rfl) (cell_box 4 hb.out rfl) (cell_box 5 hb.out rfl)) (k _ (((((((Mv.refl _ _).set _ _).set _ _).set _ _).set _ _).set _ _).set _ _) (hide (blk1 _ (blk1 _ (blk1 _ (blk1 _ (blk1 _ (blk1 _ hb.out))))))))
end
section
variable {P : Program} {ops : Array Oper} {Q : Exit → Act → World → Prop} {md : Region.Mode} {S : World → Prop} {z n : Nat} {o : Oper} {done : Array Bool} {a a' : Act} {w : World}
/-- in a region that draws: an operation that only reads, taken first; one that is passed over -/
theorem tk (i : Nat) (v : Value) (hi : ops[i]? = some o) (h : ∀ w', S w' → (execOp a.eval o).run P w' = .ok (.value v) w') (k : wpAnyK P md ops Q (But S z) n (done.setIfInBounds i true) a' w) (hs : Region.noSelect ops = true := by kernel_rfl) (hf : Region.free md ops done i = true := by kernel_rfl) (hr : (Region.ready md ops done).contains i = true := by kernel_rfl) (hz : waitsFor md ops z i = true := by kernel_rfl) (hQ : ∀ c u w, Q (.panic c) (u.put o.dst v) w → Q (.panic c) u w := by intro _ _ _ h; exact h) (hw : Region.wanted o (yielded ops a.tmps) = true := by rfl) (hS : S w := by assumption)
    (hp : a.put o.dst v = a' := by simp only [Act.put, List.getElem_toArray, List.getElem_cons_zero, List.getElem_cons_succ, List.setIfInBounds_toArray, List.set_cons_zero, List.set_cons_succ]; rfl) : wpAnyK P md ops Q (But S z) (n + 1) done a w := by
  subst hp; exact wpAnyK_take hi hs hf hr hz hQ (.inl ⟨hw, h⟩) hS k
theorem tk0 (i : Nat) (v : Value) (hi : ops[i]? = some o) (k : wpAnyK P md ops Q (But S z) n (done.setIfInBounds i true) a' w) (h : ∀ w', S w' → (execOp a.eval o).run P w' = .ok (.value v) w' := by intro w' hSw; go_simp) (hs : Region.noSelect ops = true := by kernel_rfl) (hf : Region.free md ops done i = true := by kernel_rfl) (hr : (Region.ready md ops done).contains i = true := by kernel_rfl) (hz : waitsFor md ops z i = true := by kernel_rfl) (hQ : ∀ c u w, Q (.panic c) (u.put o.dst v) w → Q (.panic c) u w := by intro _ _ _ h; exact h) (hw : Region.wanted o (yielded ops a.tmps) = true := by rfl) (hS : S w := by assumption)
    (hp : a.put o.dst v = a' := by simp only [Act.put, List.getElem_toArray, List.getElem_cons_zero, List.getElem_cons_succ, List.setIfInBounds_toArray, List.set_cons_zero, List.set_cons_succ]; rfl) : wpAnyK P md ops Q (But S z) (n + 1) done a w := by
  subst hp; exact wpAnyK_take hi hs hf hr hz hQ (.inl ⟨hw, h⟩) hS k
theorem tu (i : Nat) (hi : ops[i]? = some o) (k : wpAnyK P md ops Q (But S z) n (done.setIfInBounds i true) a' w) (hs : Region.noSelect ops = true := by kernel_rfl) (hf : Region.free md ops done i = true := by kernel_rfl) (hr : (Region.ready md ops done).contains i = true := by kernel_rfl) (hz : waitsFor md ops z i = true := by kernel_rfl) (hQ : ∀ c u w, Q (.panic c) (u.put o.dst undef) w → Q (.panic c) u w := by intro _ _ _ h; exact h) (hw : Region.wanted o (yielded ops a.tmps) = false := by kernel_rfl) (hS : S w := by assumption)
    (hp : a.put o.dst undef = a' := by simp only [Act.put, List.getElem_toArray, List.getElem_cons_zero, List.getElem_cons_succ, List.setIfInBounds_toArray, List.set_cons_zero, List.set_cons_succ]; rfl) : wpAnyK P md ops Q (But S z) (n + 1) done a w := by
  subst hp; exact wpAnyK_take hi hs hf hr hz hQ (.inr ⟨hw, rfl⟩) hS k
end
section
variable {P : Program} {ops : Array Oper} {Q : Exit → Act → World → Prop} {md : Region.Mode} {R : Nat → World → Prop} {n : Nat} {rest : List Oper} {done : Array Bool} {a a' : Act} {w : World} {d : Option Nat} {v : Value}
/-- a slot filled: what stands then -/
theorem pt (k : wpList P ops Q rest a' w) (hp : a.put d v = a' := by first | (simp only [Act.put, List.getElem_toArray, List.getElem_cons_zero, List.getElem_cons_succ, List.setIfInBounds_toArray, List.set_cons_zero, List.set_cons_succ]; rfl) | rfl) : wpList P ops Q rest (a.put d v) w := by subst hp; exact k
theorem ptk (k : wpAnyK P md ops Q R n done a' w) (hp : a.put d v = a' := by first | (simp only [Act.put, List.getElem_toArray, List.getElem_cons_zero, List.getElem_cons_succ, List.setIfInBounds_toArray, List.set_cons_zero, List.set_cons_succ]; rfl) | rfl) : wpAnyK P md ops Q R n done (a.put d v) w := by subst hp; exact k
end
/- control steps in few words -/
section
variable {P : Program} {ops : Array Oper} {Q : Exit → Act → World → Prop} {a : Act} {w : World} {next : Act → World → Prop}
theorem nt (h : next a w) : wpList P ops (Exit.then next Q) [] a w := wpList_nil (then_normal h)
theorem ct {c : Operand} {x y : Code} (k : x.wp P Q a w) (h : a.eval c = .bool true := by rfl) : (Code.cond c x y).wp P Q a w := wp_cond_true h k
theorem cf {c : Operand} {x y : Code} (k : y.wp P Q a w) (h : a.eval c = .bool false := by rfl) : (Code.cond c x y).wp P Q a w := wp_cond_false h k
theorem sk {x y : Code} (h : ∀ K : Act → World → Prop, (∀ a w, y.wp P Q a w → K a w) → x.wp P (Exit.then K Q) a w) : (Code.seq x y).wp P Q a w := wp_seq_k h
theorem rl {id : Nat} {l : List Oper} (h : wpList P l.toArray Q l a w) : (Code.region id l.toArray false).wp P Q a w := wp_region_lit h
end
/-- what is carried behind a step -/
theorem Xbn {w w' : World} {b : Nat} {x : Obj} (h : Hid (w.heap[b]? = some x)) (m : Mv nob w w') : Hid (w'.heap[b]? = some x) := hide (m.box h.out (fun h => h))
theorem Xbb {w w' : World} {b B : Nat} {x : Obj} (h : Hid (w.heap[b]? = some x)) (m : Mv (fun g => g = B) w w') (n : ¬ b = B := by omega) : Hid (w'.heap[b]? = some x) := hide (m.box h.out n)
theorem Xhn {S : Nat → Prop} {w v v' : World} (h : Hid (Mv S w v)) (m : Mv nob v v') : Hid (Mv S w v') := hide (h.out.step m (fun _ _ h => h.elim))
theorem Xhb {S : Nat → Prop} {B : Nat} {w v v' : World} (h : Hid (Mv S w v)) (m : Mv (fun g => g = B) v v') (n : w.heap.size ≤ B := by omega) : Hid (Mv S w v') := hide (h.out.step m (fun g hg e => by have e : g = B := e; exfalso; omega))
theorem Xln {w w' : World} {base : Nat} {wv gv dv uv : Value} {p : Lk} (h : Hid (Lr w base wv gv dv uv p)) (m : Mv nob w w') : Hid (Lr w' base wv gv dv uv p) := hide (h.out.mv m (fun _ _ h => h))
theorem Xlb {B N : Nat} {w w' : World} {base : Nat} {wv gv dv uv : Value} {p : Lk} (h : Hid (Lr w base wv gv dv uv p)) (lt : Hid (∀ g, Lrb wv gv dv uv g → g < N)) (m : Mv (fun g => g = B) w w') (n : N ≤ B := by omega) : Hid (Lr w' base wv gv dv uv p) := hide (h.out.mv m (fun g hg e => by have e : g = B := e; have := lt.out g hg; omega))
theorem Xlo {w : World} {b c : Nat} {x : Obj} (h : Hid (w.heap[b]? = some x)) (e : w.heap.size = c) : b < c := e ▸ lt_of_block h.out
theorem Xhs {S : Nat → Prop} {w v : World} {c : Nat} (h : Hid (Mv S w v)) (e : v.heap.size = c) : w.heap.size ≤ c := e ▸ h.out.size
end Go.Proofs.Ytgflipkhhpkidaa
