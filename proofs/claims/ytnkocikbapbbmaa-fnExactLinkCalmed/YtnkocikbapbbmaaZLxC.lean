/- LinkCalmed of both sides, as the law wants them (written by mkLxCal.py) -/
import Derived.Test.YtnkocikbapbbmaaPq
import Derived.Test.YtnkocikbapbbmaaZLxA
namespace Go.Proofs.Ytnkocikbapbbmaa
open Go.RowKit
set_option linter.unusedVariables false

theorem implCalmed_at (p L : Lk) (bb : Bool) (wv0 gv0 dv0 uv0 : Value) (w : World) (hA : cmL p = (L, bb)) (ha : La w wv0 gv0 dv0 uv0 p) (hsm : Lsm 1048576 p) :
    Calls Try.prog 28 #[.agg (l6 p.base wv0 p.want gv0 dv0 uv0)] w fun e w' => ∃ wv gv dv uv, e = .returned (.tuple #[.agg (l6 L.base wv L.want gv dv uv), .bool bb]) ∧ Lr w' w.heap.size wv gv dv uv L ∧ Below w.heap.size w w' := by
  have h := implCalmed_any p wv0 gv0 dv0 uv0 w ha hsm
  rw [hA] at h
  exact h
theorem specCalmed_at (p L : Lk) (bb : Bool) (wv0 gv0 dv0 uv0 : Value) (w : World) (hA : cmL p = (L, bb)) (ha : La w wv0 gv0 dv0 uv0 p) (hsm : Lsm 1048576 p) :
    Calls Try.prog 27 #[.agg (l6 p.base wv0 p.want gv0 dv0 uv0)] w fun e w' => ∃ wv gv dv uv, e = .returned (.tuple #[.agg (l6 L.base wv L.want gv dv uv), .bool bb]) ∧ Lr w' w.heap.size wv gv dv uv L ∧ Below w.heap.size w w' := by
  have h := specCalmed_any p wv0 gv0 dv0 uv0 w ha hsm
  rw [hA] at h
  exact h

end Go.Proofs.Ytnkocikbapbbmaa
