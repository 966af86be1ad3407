/- LsE -/
import Derived.Test.YtgflipkhhpkidaaYPieces48
/- DrawLinkDo, DrawLinkCalmed (written by mkLsE.py) -/
namespace Go.Proofs.Ytgflipkhhpkidaa
open Go.RowKit
set_option linter.unusedVariables false
set_option linter.unusedSimpArgs false

theorem Xtn {w w' : World} {ad : Option Addr} {n : Nat} (h : Hid (Bt w ad n)) (m : Mv nob w w') : Hid (Bt w' ad n) := hide (fun h0 => by
  obtain ⟨b, off, e, hc⟩ := h.out h0
  exact ⟨b, off, e, fun j hj => by
    obtain ⟨c, h1, h2, h3⟩ := hc j hj
    exact ⟨c, h1, h2, m.cell h3 (fun f => f)⟩⟩)
theorem Xqb {B : Nat} {w w' : World} {base : Nat} {wv gv dv uv : Value} {p : Lk} (h : Hid (Lr w base wv gv dv uv p)) (m : Mv (fun x => x = B) w w') (n : ∀ x, Lrb wv gv dv uv x → x ≠ B) : Hid (Lr w' base wv gv dv uv p) := hide (h.out.mv m (fun x hx e => n x hx e))
theorem big_no (ad : Option Addr) (n cap : Nat) (w : World) (h : n ≤ 1048576) : Calls Try.prog 7 #[.slice ad n cap] w fun e w' => e = .returned (.bool false) ∧ w' = w := by
  have hd : decide ((1048576 : Int) < (n : Int)) = false := by simp; omega
  go_enter Try.func7, Try.ntmps7
  go_wp2
  go_ret
  exact ⟨rfl, rfl⟩

end Go.Proofs.Ytgflipkhhpkidaa
