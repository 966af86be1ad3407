/- LeA, SwD -/
import Derived.Test.YtgflipkhhpkidaaYkOrder34
import Derived.Test.YtgflipkhhpkidaaYkOrder35
import Derived.Test.YtgflipkhhpkidaaYkOrder37
import Derived.Test.YtgflipkhhpkidaaYkOrder38
import Derived.Test.YtgflipkhhpkidaaYkOrder39
import Derived.Test.YtgflipkhhpkidaaYkOrder40
import Derived.Test.YtgflipkhhpkidaaYkOrder41
import Derived.Test.YtgflipkhhpkidaaYkOrder42
import Derived.Test.YtgflipkhhpkidaaYkOrder26
/- spec.l8Act of any act (written by mkLdZ.py) -/
namespace Go.Proofs.Ytgflipkhhpkidaa
open Go.RowKit
set_option linter.unusedVariables false
set_option linter.unusedSimpArgs false

theorem l8Act_any (p : Lk) (wv gv dv uv : Value) (base : Nat) (w : World) (hr : Lr w base wv gv dv uv p) (hle : base ≤ w.heap.size) (k z bit : Int) (body : ByteArray) (hf : Lf p) :
    Calls Try.prog 45 #[.agg (l6 p.base wv p.want gv dv uv), .agg (a4 k z bit body)] w (SaP wv gv dv uv base w p (saC p k z bit body) (actL p k z bit body)) := by
  obtain ⟨wa, wc, rfl, _⟩ := hr.wa.form
  obtain ⟨ga, gc, rfl, _⟩ := hr.go.form
  obtain ⟨da, dc, rfl, _⟩ := hr.dn.form
  obtain ⟨ua, uc, rfl, _⟩ := hr.up.form
  by_cases hk : 1 ≤ k ∧ k ≤ 8
  · rcases (show k = 1 ∨ k = 2 ∨ k = 3 ∨ k = 4 ∨ k = 5 ∨ k = 6 ∨ k = 7 ∨ k = 8 by omega) with rfl | rfl | rfl | rfl | rfl | rfl | rfl | rfl
    · exact sb_1 p wa ga da ua wc gc dc uc base w hr hle z bit body hf
    · exact sb_2 p wa ga da ua wc gc dc uc base w hr hle z bit body hf
    · exact sb_3 p wa ga da ua wc gc dc uc base w hr hle z bit body hf
    · exact sb_4 p wa ga da ua wc gc dc uc base w hr hle z bit body hf
    · exact sb_5 p wa ga da ua wc gc dc uc base w hr hle z bit body hf
    · exact sb_6 p wa ga da ua wc gc dc uc base w hr hle z bit body hf
    · exact sb_7 p wa ga da ua wc gc dc uc base w hr hle z bit body hf
    · exact sb_8 p wa ga da ua wc gc dc uc base w hr hle z bit body hf
  · refine sb_k p wa ga da ua wc gc dc uc base w hr hle k (by omega) (by omega) (by omega) (by omega) (by omega) (by omega) (decide_eq_false (by omega)) z bit body hf ?_
    have hl : laB k z bit body = false := by
      cases hx : laB k z bit body with
      | false => rfl
      | true => exact absurd (laB_kind hx) hk
    simp [saC, hl]

end Go.Proofs.Ytgflipkhhpkidaa

/- one of several operations that may come next, calls too. No seat's function is named. -/
namespace Go.Proofs.Ytgflipkhhpkidaa
open Go.RowKit
set_option linter.unusedVariables false
section
variable {P : Program} {ops : Array Oper} {Q : Exit → Act → World → Prop} {md : Region.Mode} {S : World → Prop} {z n : Nat} {done : Array Bool} {a : Act} {w : World}
/-- one of several operations that may come next -/
def KE (P : Program) (md : Region.Mode) (ops : Array Oper) (Q : Exit → Act → World → Prop) (S : World → Prop) (z n : Nat) (done : Array Bool) (a : Act) (w : World) (i : Nat) : Prop :=
  ∃ o, ops[i]? = some o ∧ Region.wanted o (yielded ops a.tmps) = true ∧ ((∃ v w', (execOp a.eval o).run P w = .ok (.value v) w' ∧ (i ≠ z → S w') ∧ wpAnyK P md ops Q (But S z) n (done.setIfInBounds i true) (a.put o.dst v) w') ∨
    (∃ f args R, (execOp a.eval o).run P w = .ok (.enter f args) w ∧ Calls P f args w R ∧ ∀ e V, R e V → ∃ v, e = .returned v ∧ (i ≠ z → S V) ∧ wpAnyK P md ops Q (But S z) n (done.setIfInBounds i true) (a.put o.dst v) V))
theorem kd_each {l : List Nat} (hr : Region.ready md ops done = l) (hl : l.isEmpty = false) (h : AllM (KE P md ops Q S z n done a w) l) : wpAnyK P md ops Q (But S z) (n + 1) done a w := by
  refine ⟨fun h0 => (by rw [hr] at h0; rw [h0] at hl; cases hl), fun j hj => ?_⟩
  rw [hr] at hj
  obtain ⟨o, ho, hw, h | h⟩ := h.mem j hj
  · obtain ⟨v, w', hrn, hS, hk⟩ := h
    refine wpOp_step ho (fun K' hK => ?_)
    rw [if_pos hw]
    unfold Oper.wp
    rw [hrn]
    exact hK _ _ ⟨hS, hk⟩
  · obtain ⟨f, args, R, hrn, hc, hk⟩ := h
    refine wpOp_step ho (fun K' hK => ?_)
    rw [if_pos hw]
    unfold Oper.wp
    rw [hrn]
    refine Calls.mono hc (fun e V hR => ?_)
    obtain ⟨v, rfl, hS, hk2⟩ := hk e V hR
    exact hK _ _ ⟨hS, hk2⟩
end
theorem Lr.lower {w : World} {base base' : Nat} {wv gv dv uv : Value} {p : Lk} (h : Lr w base wv gv dv uv p) (hb : base' ≤ base) : Lr w base' wv gv dv uv p :=
  ⟨h.wa.base hb, h.go.base hb, h.dn.base hb, h.up.base hb, h.aw, h.ag, h.ad⟩
end Go.Proofs.Ytgflipkhhpkidaa
