/- LcM -/
import Derived.Test.YtgflipkhhpkidaaYPieces45
/- a link calmed, plainly: all that comes, a round, rounds -/
namespace Go.Proofs.Ytgflipkhhpkidaa
open Go.RowKit
set_option linter.unusedVariables false
set_option linter.unusedSimpArgs false

theorem ldL_ok {p : Lk} {k z bit : Int} {body : ByteArray} (h : ldC p k z bit body = 0) : ldL p k z bit body = actL p k z bit body := by unfold ldL; rw [if_pos h]
theorem ldL_no {p : Lk} {k z bit : Int} {body : ByteArray} (h : ldC p k z bit body ≠ 0) : ldL p k z bit body = p := by unfold ldL; rw [if_neg h]
theorem ld_lf {p : Lk} (hf : Lf p) (k z bit : Int) (body : ByteArray) : Lf (ldL p k z bit body) := by
  by_cases h : ldC p k z bit body = 0
  · rw [ldL_ok h]
    unfold ldC at h
    split at h
    · split at h
      · split at h
        · rename_i hl
          exact lk_iff.1 hl
        · exact absurd h (by decide)
      · rename_i h0
        exact absurd h h0
    · exact absurd h (by decide)
  · rw [ldL_no h]; exact hf
end Go.Proofs.Ytgflipkhhpkidaa
