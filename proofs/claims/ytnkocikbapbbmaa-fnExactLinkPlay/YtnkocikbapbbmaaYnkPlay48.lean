/- LeA -/
import Derived.Test.YtnkocikbapbbmaaYnkPlay39
import Derived.Test.YtnkocikbapbbmaaYnkPlay40
import Derived.Test.YtnkocikbapbbmaaYnkPlay42
import Derived.Test.YtnkocikbapbbmaaYnkPlay43
import Derived.Test.YtnkocikbapbbmaaYnkPlay44
import Derived.Test.YtnkocikbapbbmaaYnkPlay45
import Derived.Test.YtnkocikbapbbmaaYnkPlay46
import Derived.Test.YtnkocikbapbbmaaYnkPlay47
/- spec.l8Act of any act (written by mkLdZ.py) -/
namespace Go.Proofs.Ytnkocikbapbbmaa
open Go.RowKit
set_option linter.unusedVariables false
set_option linter.unusedSimpArgs false

theorem l8Act_any (p : Lk) (wv gv dv uv : Value) (base : Nat) (w : World) (hr : Lr w base wv gv dv uv p) (hle : base ≤ w.heap.size) (k z bit : Int) (body : ByteArray) (hf : Lf p) :
    Calls Try.prog 57 #[.agg (l6 p.base wv p.want gv dv uv), .agg (a4 k z bit body)] w (SaP wv gv dv uv base w p (saC p k z bit body) (actL p k z bit body)) := by
  obtain ⟨wa, wc, rfl, _⟩ := hr.wa.form
  obtain ⟨ga, gc, rfl, _⟩ := hr.go.form
  obtain ⟨da, dc, rfl, _⟩ := hr.dn.form
  obtain ⟨ua, uc, rfl, _⟩ := hr.up.form
  by_cases hk : 1 ≤ k ∧ k ≤ 8
  · rcases (show k = 1 ∨ k = 2 ∨ k = 3 ∨ k = 4 ∨ k = 5 ∨ k = 6 ∨ k = 7 ∨ k = 8 by omega) with rfl | rfl | rfl | rfl | rfl | rfl | rfl | rfl
    · exact sb_1 p wa ga da ua wc gc dc uc base w hr hle z bit body hf
    · exact sb_2 p wa ga da ua wc gc dc uc base w hr hle z bit body hf
    · exact sb_3 p wa ga da ua wc gc dc uc base w hr hle z bit body hf
    · exact sb_4 p wa ga da ua wc gc dc uc base w hr hle z bit body hf
    · exact sb_5 p wa ga da ua wc gc dc uc base w hr hle z bit body hf
    · exact sb_6 p wa ga da ua wc gc dc uc base w hr hle z bit body hf
    · exact sb_7 p wa ga da ua wc gc dc uc base w hr hle z bit body hf
    · exact sb_8 p wa ga da ua wc gc dc uc base w hr hle z bit body hf
  · refine sb_k p wa ga da ua wc gc dc uc base w hr hle k (by omega) (by omega) (by omega) (by omega) (by omega) (by omega) (decide_eq_false (by omega)) z bit body hf ?_
    have hl : laB k z bit body = false := by
      cases hx : laB k z bit body with
      | false => rfl
      | true => exact absurd (laB_kind hx) hk
    simp [saC, hl]

end Go.Proofs.Ytnkocikbapbbmaa
