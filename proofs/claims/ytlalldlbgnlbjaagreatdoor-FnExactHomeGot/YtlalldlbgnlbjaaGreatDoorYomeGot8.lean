/- HbD -/
import Derived.Test.YtlalldlbgnlbjaaGreatDoorYomeGot7
/- one of several operations that may come next, calls too. No seat's function is named. -/
namespace Go.Proofs.YtlalldlbgnlbjaaGreatDoor
open Go.RowKit
set_option linter.unusedVariables false
def AllM (F : Nat → Prop) : List Nat → Prop
  | [] => True
  | i :: l => F i ∧ AllM F l
theorem AllM.mem {F : Nat → Prop} : ∀ {l : List Nat}, AllM F l → ∀ i ∈ l, F i
  | [], _, i, h => by cases h
  | j :: l, h, i, hi => by
    rcases List.mem_cons.1 hi with rfl | hi
    · exact h.1
    · exact AllM.mem h.2 i hi
section
variable {P : Program} {ops : Array Oper} {Q : Exit → Act → World → Prop} {md : Region.Mode} {S : World → Prop} {z n : Nat} {done : Array Bool} {a : Act} {w : World}
/-- one of several operations that may come next -/
def KE (P : Program) (md : Region.Mode) (ops : Array Oper) (Q : Exit → Act → World → Prop) (S : World → Prop) (z n : Nat) (done : Array Bool) (a : Act) (w : World) (i : Nat) : Prop :=
  ∃ o, ops[i]? = some o ∧ Region.wanted o (yielded ops a.tmps) = true ∧ ((∃ v w', (execOp a.eval o).run P w = .ok (.value v) w' ∧ (i ≠ z → S w') ∧ wpAnyK P md ops Q (But S z) n (done.setIfInBounds i true) (a.put o.dst v) w') ∨
    (∃ f args R, (execOp a.eval o).run P w = .ok (.enter f args) w ∧ Calls P f args w R ∧ ∀ e V, R e V → ∃ v, e = .returned v ∧ (i ≠ z → S V) ∧ wpAnyK P md ops Q (But S z) n (done.setIfInBounds i true) (a.put o.dst v) V))
/-- the same, an operation that only stores too -/
def KS (P : Program) (md : Region.Mode) (ops : Array Oper) (Q : Exit → Act → World → Prop) (S : World → Prop) (z n : Nat) (done : Array Bool) (a : Act) (w : World) (i : Nat) : Prop :=
  ∃ o, ops[i]? = some o ∧ Region.wanted o (yielded ops a.tmps) = true ∧ ∃ w', (execOp a.eval o).run P w = .ok .skip w' ∧ (i ≠ z → S w') ∧ wpAnyK P md ops Q (But S z) n (done.setIfInBounds i true) (a.put o.dst undef) w'
theorem kd_each2 {l : List Nat} (hr : Region.ready md ops done = l) (hl : l.isEmpty = false) (h : AllM (fun i => KE P md ops Q S z n done a w i ∨ KS P md ops Q S z n done a w i) l) : wpAnyK P md ops Q (But S z) (n + 1) done a w := by
  refine ⟨fun h0 => (by rw [hr] at h0; rw [h0] at hl; cases hl), fun j hj => ?_⟩
  rw [hr] at hj
  rcases h.mem j hj with h | ⟨o, ho, hw, w', hrn, hS, hk⟩
  · obtain ⟨o, ho, hw, h | h⟩ := h
    · obtain ⟨v, w', hrn, hS, hk⟩ := h
      refine wpOp_step ho (fun K' hK => ?_)
      rw [if_pos hw]
      unfold Oper.wp
      rw [hrn]
      exact hK _ _ ⟨hS, hk⟩
    · obtain ⟨f, args, R, hrn, hc, hk⟩ := h
      refine wpOp_step ho (fun K' hK => ?_)
      rw [if_pos hw]
      unfold Oper.wp
      rw [hrn]
      refine Calls.mono hc (fun e V hR => ?_)
      obtain ⟨v, rfl, hS, hk2⟩ := hk e V hR
      exact hK _ _ ⟨hS, hk2⟩
  · refine wpOp_step ho (fun K' hK => ?_)
    rw [if_pos hw]
    unfold Oper.wp
    rw [hrn]
    exact hK _ _ ⟨hS, hk⟩
end
theorem wpAnyK_re {P : Program} {ops : Array Oper} {Q : Exit → Act → World → Prop} {md : Region.Mode} {S S' : World → Prop} {z : Nat} (h : ∀ w, S' w → S w) : ∀ {n : Nat} {done : Array Bool} {a : Act} {w : World}, wpAnyK P md ops Q (But S' z) n done a w → wpAnyK P md ops Q (But S z) n done a w
  | 0, _, _, _, k => k
  | _ + 1, _, _, _, k => ⟨k.1, fun i hi => wpOp_mono (fun a' w' k' => ⟨fun e => h _ (k'.1 e), wpAnyK_re h k'.2⟩) (k.2 i hi)⟩
end Go.Proofs.YtlalldlbgnlbjaaGreatDoor
