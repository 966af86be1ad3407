/- LdI, LdJ -/
import Derived.Test.YtnkocikbapbbmaaYnkPlay18
import Derived.Test.YtnkocikbapbbmaaYnkPlay9
/- spec.l8Out: a row without one (written by mkLdI.py) -/
namespace Go.Proofs.Ytnkocikbapbbmaa
open Go.RowKit
set_option linter.unusedVariables false
set_option linter.unusedSimpArgs false

theorem step_append_runL {P : Program} {ops : Array Oper} {o : Oper} {a : Act} {w : World} {K : Act → World → Prop} {Q : Exit → Act → World → Prop} {E : Prop} (hgd : o.guard = none) (s x : Operand) (t : TypeId)
    (ho : o.op = .call { callee := .builtin .append, args := #[s, x], argTypes := #[t, t] }) {v u v' : Value} {w' : World} (hs : a.eval s = v) (hx : a.eval x = u) (hr : (Builtin.append_ #[t, t] o.type #[v, u]).run P w = .ok v' w') (h : K (a.put o.dst v') w') :
    if Region.wanted o (yielded ops a.tmps) = true then Oper.wp P o a w K Q else E := by
  have hw : Region.wanted o (yielded ops a.tmps) = true := by simp [Region.wanted, hgd]
  rw [if_pos hw]
  unfold Oper.wp execOp
  simp only [ho, resolve, invoke, builtin, Sem.run_bind, Sem.run_pure, Result.andThen_ok, List.map_toArray, List.map_cons, List.map_nil, hs, hx, hr]
  exact h

set_option maxHeartbeats 4000000 in
set_option maxRecDepth 20000 in
theorem l8Out_any (a : Option Addr) (n c base z : Nat) (t : Nat → ByteArray) (h : Nat → Bool) (w : World) (hv : Rg w base (.slice a n c) 2 n (wF t h)) (hz : z < n) (hn : n ≤ 1048576) :
    Calls Try.prog 66 #[.slice a n c, .int .i64 (z : Int)] w fun e w' => ∃ ux kx, e = .returned (.slice ux (n - 1) kx) ∧ Rg w' w.heap.size (.slice ux (n - 1) kx) 2 (n - 1) (wF (dlt t z) (dlt h z)) ∧ Below w.heap.size w w' := by
  obtain ⟨g, off, G, hae, hcap, hc0, hG1, hG2, HH, HL⟩ : ∃ (g off : Nat) (G : Nat → Nat → Value), a = some ⟨g, off, none⟩ ∧ n ≤ c ∧ w.cell? ⟨g, off + z * 2, none⟩ = some (.string (t z)) ∧ (∀ j i, (G j i).oneCell' = true) ∧ (∀ j i, G j i = wF (dlt t z) (dlt h z) (z + j) i) ∧ Hid (∀ V, Below w.heap.size w V → Sg V (.slice (some ⟨g, off, none⟩) z c) 2 z (wF (dlt t z) (dlt h z))) ∧ Hid (∀ V, Below w.heap.size w V → Sg V (.slice (if c = z + 1 then some ⟨g, off, none⟩ else some ⟨g, off + (z + 1) * 2, none⟩) (n - (z + 1)) (c - (z + 1))) 2 (n - (z + 1)) G) := by
    rcases hv with ⟨_, h0⟩ | ⟨g, off, k, e, h1, hp, h0, h2, h3, h4⟩
    · omega
    · simp only [Value.slice.injEq] at e
      obtain ⟨rfl, _, rfl⟩ := e
      refine ⟨g, off, fun j i => wF t h (j + (z + 1)) i, rfl, h1, ?_, fun j i => wF_one t h (j + (z + 1)) i, fun j i => (wF_high (t := t) (h := h) (z := z) (j := j) (i := i)).symm, hide (fun V hb => ⟨_, _, rfl, fun _ => ⟨g, off, rfl, fun j hj i hi => ?_⟩⟩), hide (fun V hb => ⟨_, _, rfl, fun hp => ⟨g, off + (z + 1) * 2, by rw [if_neg (by omega)], fun j hj i hi => ?_⟩⟩)⟩
      · have := h4 (z * 2) (by omega)
        rw [this]
        have e1 : z * 2 / 2 = z := by omega
        have e2 : z * 2 % 2 = 0 := by omega
        rw [e1, e2]; rfl
      · have := h4 (j * 2 + i) (by omega)
        rw [show (j * 2 + i) / 2 = j by omega, show (j * 2 + i) % 2 = i by omega, ← Nat.add_assoc] at this
        rw [wF_low hj]
        exact keepc hb this
      · have := h4 ((z + 1) * 2 + (j * 2 + i)) (by omega)
        rw [show ((z + 1) * 2 + (j * 2 + i)) / 2 = j + (z + 1) by omega, show ((z + 1) * 2 + (j * 2 + i)) % 2 = i by omega] at this
        have e : off + (z + 1) * 2 + j * 2 + i = off + ((z + 1) * 2 + (j * 2 + i)) := by omega
        rw [e]
        exact keepc hb this
  subst hae
  have hF1 := wF_one (dlt t z) (dlt h z)
  clear hv
  have hzi : (z : Int) < (n : Int) := by omega
  have hw1 : wrap64 ((z : Int) + 1) = (z : Int) + 1 := Go.IntWalk.wrap64_in _ (by omega)
  have hw2 : IntKind.i64.wrap ((z : Int) + 1) = (z : Int) + 1 := by simp [IntKind.wrap, IntKind.signed, IntKind.bits] <;> omega
  have sh := fun W => sl_head g off n c z (by omega) W
  have st := fun W => sl_tail g off n c z (by omega) W
  obtain ⟨ta, hta⟩ : ∃ ta, (if c = z + 1 then some (⟨g, off, none⟩ : Addr) else some ⟨g, off + (z + 1) * 2, none⟩) = ta := ⟨_, rfl⟩
  rw [hta] at HL
  simp only [hta] at st
  clear hta
  go_enter Try.func66, Try.ntmps66
  go_wp2
  refine wp_region_held_drew (S := fun w' => Below w.heap.size w w') (by kernel_rfl) ((Below.refl _ _).drew) (fun hHeld => ?_)
  refine th0 1 (.slice (some ⟨g, off, none⟩) n c) rfl fun _ => ?_
  refine th0 2 (.int .i64 (z : Int)) rfl fun _ => ?_
  refine th0 3 (.slice (some ⟨g, off, none⟩) z c) rfl fun _ => ?_
  refine th0 5 (.slice (some ⟨g, off, none⟩) n c) rfl fun _ => ?_
  refine th0 6 (.int .i64 (z : Int)) rfl fun _ => ?_
  refine th0 7 (.int .i64 ((z : Int) + 1)) rfl fun _ => ?_
  refine th0 8 (.slice ta (n - (z + 1)) (c - (z + 1))) rfl fun _ => ?_
  refine wpAnyH_ready (rs := [0]) (by kernel_rfl) (by simp) ?_
  refine AllReadyH.cons rfl (fun K hK => ?_) AllReadyH.nil
  go_simp
  have hA : Below w.heap.size w (w.alloc (.cells #[] 73)).drew := ((Below.refl _ _).alloc (Nat.le_refl _) _).drew
  have ow : Owi (w.alloc (.cells #[] 73)).drew w.heap.size (.slice (some ⟨w.heap.size, 0, none⟩) 0 0) 0 (wF (dlt t z) (dlt h z)) := ⟨by simp [rowG], .inr ⟨w.heap.size, 0, #[], rfl, Nat.le_refl _, heap_alloc_new w _, Nat.le_refl _, by unfold maxLen; omega, by simp, by simp [rowG]⟩⟩
  refine hK.out _ _ hA (fun hHeld => ?_)
  clear hK K hHeld
  try simp only [Act.put, List.getElem_toArray, List.getElem_cons_zero, List.getElem_cons_succ, List.setIfInBounds_toArray, List.set_cons_zero, List.set_cons_succ]
  obtain ⟨w1, hw1'⟩ : ∃ w1, (w.alloc (.cells #[] 73)).drew = w1 := ⟨_, rfl⟩
  rw [hw1'] at hA ow ⊢
  clear hw1'
  obtain ⟨v2, w2, hr2, ow2, hg2⟩ := append_wires w1 w.heap.size _ _ 0 z (wF (dlt t z) (dlt h z)) (wF (dlt t z) (dlt h z)) hF1 28 ow (HH.out _ hA) (fun j _ i _ => by rw [Nat.zero_add]) (by omega) (by omega) hA.size
  have hB2 : Below w.heap.size w w2 := hA.grown hg2 hA.size (fun k hk => (World.ownsRow.lt ow k hk).1)
  rw [Nat.zero_add] at ow2
  refine wpAnyH_ready (rs := [4]) (by kernel_rfl) (by simp) ?_
  refine AllReadyH.cons rfl (fun K hK => ?_) AllReadyH.nil
  refine step_append_runL (by rfl) _ _ 28 (by rfl) (by rfl) (by rfl) hr2 ?_
  refine hK.out _ _ hB2 (fun hHeld => ?_)
  clear hK K hHeld hr2 ow hg2 hA
  try simp only [Act.put, List.getElem_toArray, List.getElem_cons_zero, List.getElem_cons_succ, List.setIfInBounds_toArray, List.set_cons_zero, List.set_cons_succ]
  obtain ⟨v3, w3, hr3, ow3, hg3⟩ := append_wires w2 w.heap.size _ _ z (n - (z + 1)) (wF (dlt t z) (dlt h z)) G hG1 28 ow2 (HL.out _ hB2) (fun j hj i hi => hG2 j i) (by omega) (by omega) hB2.size
  have hB3 : Below w.heap.size w w3 := hB2.grown hg3 hB2.size (fun k hk => (World.ownsRow.lt ow2 k hk).1)
  have en : z + (n - (z + 1)) = n - 1 := by omega
  rw [en] at ow3
  have rg3 := own_rg ow3 (fun x hx => rowG_get hx)
  refine wpAnyH_ready (rs := [9]) (by kernel_rfl) (by simp) ?_
  refine AllReadyH.cons rfl (fun K hK => ?_) AllReadyH.nil
  refine step_append_runL (by rfl) _ _ 28 (by rfl) (by rfl) (by rfl) hr3 ?_
  refine hK.out _ _ hB3 (fun hHeld => ?_)
  clear hK K hr3 ow2 ow3 hg3 hB2 HH HL
  try simp only [Act.put, List.getElem_toArray, List.getElem_cons_zero, List.getElem_cons_succ, List.setIfInBounds_toArray, List.set_cons_zero, List.set_cons_succ]
  obtain ⟨ux, kx, rfl, _⟩ := rg3.form
  refine th0 10 (.slice ux (n - 1) kx) rfl fun _ => ?_
  refine wpAnyH_done (by kernel_rfl) ?_ _
  have HF := hide (And.intro rg3 hB3)
  clear hHeld rg3 hB3
  go_wp2
  go_ret
  exact ⟨_, _, rfl, HF.out.1, HF.out.2⟩

end Go.Proofs.Ytnkocikbapbbmaa

/- links while memory moves -/
namespace Go.Proofs.Ytnkocikbapbbmaa
open Go.RowKit
set_option linter.unusedVariables false
set_option linter.unusedSimpArgs false

theorem Rg.mv {S : Nat → Prop} {w w' : World} {base : Nat} {v : Value} {m n : Nat} {f : Nat → Nat → Value} (h : Rg w base v m n f) (hm : Mv S w w') (hs : ∀ g, rb v = some g → ¬ S g) : Rg w' base v m n f := by
  rcases h with h | ⟨g, off, k, rfl, h1, hp, h0, h2, ⟨cur, T, h3, h5⟩, h4⟩
  · exact .inl h
  · have hb := hm.block g (lt_of_block h3) (hs g (rb_some hp))
    exact .inr ⟨g, off, k, rfl, h1, hp, h0, h2, ⟨cur, T, hb.trans h3, h5⟩, fun x hx => by rw [World.cell?_of_block (a := ⟨g, off + x, none⟩) hb]; exact h4 x hx⟩
/-- the blocks of a link's rows -/
def Lrb (wv gv dv uv : Value) (g : Nat) : Prop := rb wv = some g ∨ rb gv = some g ∨ rb dv = some g ∨ rb uv = some g
theorem Lr.mv {S : Nat → Prop} {w w' : World} {base : Nat} {wv gv dv uv : Value} {p : Lk} (h : Lr w base wv gv dv uv p) (hm : Mv S w w') (hs : ∀ g, Lrb wv gv dv uv g → ¬ S g) : Lr w' base wv gv dv uv p :=
  ⟨h.wa.mv hm (fun g e => hs g (.inl e)), h.go.mv hm (fun g e => hs g (.inr (.inl e))), h.dn.mv hm (fun g e => hs g (.inr (.inr (.inl e)))), h.up.mv hm (fun g e => hs g (.inr (.inr (.inr e)))), h.aw, h.ag, h.ad⟩
theorem Lr.lt {w : World} {base : Nat} {wv gv dv uv : Value} {p : Lk} (h : Lr w base wv gv dv uv p) : ∀ g, Lrb wv gv dv uv g → base ≤ g ∧ g < w.heap.size := by
  rintro g (e | e | e | e)
  · exact h.wa.lt g e
  · exact h.go.lt g e
  · exact h.dn.lt g e
  · exact h.up.lt g e

theorem rb_blk {a : Addr} {n k g : Nat} (e : rb (.slice (some a) n k) = some g) : a.block = g := by
  cases k with
  | zero => rw [rb_zero] at e; cases e
  | succ k => simpa [rb] using e

theorem af_go {A : Nat → Prop} {hi sz gx ox n k : Nat} {wv gv dv uv : Value} (h : ∀ g, Lrb wv gv dv uv g → A g ∨ hi < g) (hb : rb gv = some gx ∨ sz ≤ gx) (hs : hi < sz) : ∀ g, Lrb wv (.slice (some ⟨gx, ox, none⟩) n k) dv uv g → A g ∨ hi < g := by
  rintro g (e | e | e | e)
  · exact h g (.inl e)
  · have e2 : gx = g := rb_blk e
    subst e2
    rcases hb with e | e
    · exact h gx (.inr (.inl e))
    · right; omega
  · exact h g (.inr (.inr (.inl e)))
  · exact h g (.inr (.inr (.inr e)))
theorem af_up {A : Nat → Prop} {hi sz gx ox n k : Nat} {wv gv dv uv : Value} (h : ∀ g, Lrb wv gv dv uv g → A g ∨ hi < g) (hb : rb uv = some gx ∨ sz ≤ gx) (hs : hi < sz) : ∀ g, Lrb wv gv dv (.slice (some ⟨gx, ox, none⟩) n k) g → A g ∨ hi < g := by
  rintro g (e | e | e | e)
  · exact h g (.inl e)
  · exact h g (.inr (.inl e))
  · exact h g (.inr (.inr (.inl e)))
  · have e2 : gx = g := rb_blk e
    subst e2
    rcases hb with e | e
    · exact h gx (.inr (.inr (.inr e)))
    · right; omega

/-- what is new of a link's blocks -/
def Nw (sz : Nat) (wv gv dv uv wv' gv' dv' uv' : Value) : Prop := ∀ g, Lrb wv' gv' dv' uv' g → Lrb wv gv dv uv g ∨ sz ≤ g
theorem nw_wa {sz : Nat} {wv gv dv uv x : Value} (h : ∀ g, rb x = some g → rb wv = some g ∨ sz ≤ g) : Nw sz wv gv dv uv x gv dv uv := by
  rintro g (e | e | e | e)
  · exact (h g e).elim (fun e => .inl (.inl e)) .inr
  · exact .inl (.inr (.inl e))
  · exact .inl (.inr (.inr (.inl e)))
  · exact .inl (.inr (.inr (.inr e)))
theorem nw_dn {sz : Nat} {wv gv dv uv x : Value} (h : ∀ g, rb x = some g → rb dv = some g ∨ sz ≤ g) : Nw sz wv gv dv uv wv gv x uv := by
  rintro g (e | e | e | e)
  · exact .inl (.inl e)
  · exact .inl (.inr (.inl e))
  · exact (h g e).elim (fun e => .inl (.inr (.inr (.inl e)))) .inr
  · exact .inl (.inr (.inr (.inr e)))
theorem nw_up {sz : Nat} {wv gv dv uv x : Value} (h : ∀ g, rb x = some g → rb uv = some g ∨ sz ≤ g) : Nw sz wv gv dv uv wv gv dv x := by
  rintro g (e | e | e | e)
  · exact .inl (.inl e)
  · exact .inl (.inr (.inl e))
  · exact .inl (.inr (.inr (.inl e)))
  · exact (h g e).elim (fun e => .inl (.inr (.inr (.inr e)))) .inr
theorem Nw.refl (sz : Nat) (wv gv dv uv : Value) : Nw sz wv gv dv uv wv gv dv uv := fun _ h => .inl h
theorem Below.gb {w w' : World} (h : Below w.heap.size w w') (r : Option Nat) : w.grownBy w' r := ⟨h.os, h.tape, h.output, h.size, fun j hj _ => h.block j hj⟩

end Go.Proofs.Ytnkocikbapbbmaa
