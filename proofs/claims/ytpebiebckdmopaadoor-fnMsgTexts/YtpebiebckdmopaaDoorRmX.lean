/- spec.ReadMsg, all of it -/
import Derived.Test.YtpebiebckdmopaaDoorRmWfff
import Derived.Test.YtpebiebckdmopaaDoorRmWfft
import Derived.Test.YtpebiebckdmopaaDoorRmWftf
import Derived.Test.YtpebiebckdmopaaDoorRmWftt
import Derived.Test.YtpebiebckdmopaaDoorRmWtff
import Derived.Test.YtpebiebckdmopaaDoorRmWtft
import Derived.Test.YtpebiebckdmopaaDoorRmWttf
import Derived.Test.YtpebiebckdmopaaDoorRmWttt
namespace Go.Proofs.YtpebiebckdmopaaDoor
open Go.RowKit
set_option linter.unusedSimpArgs false

theorem specRead_any (s : ByteArray) (w : World) (hs : s.size ≤ 1048576) :
    Calls Tryd.prog 11 #[.string s] w fun e w' => e = ans (sans s.data.toList (Rdm.nz (Rdm.sp s.data.toList))) ∧ Below w.heap.size w w' := by
  obtain ⟨ws, hws⟩ : ∃ ws, Rdm.nz (Rdm.sp s.data.toList) = ws := ⟨_, rfl⟩
  rw [hws]
  cases ha : shapeHome (kOf ws) <;> cases hb : shapeWant (kOf ws) <;> cases hd : shapeData (kOf ws)
  · exact sread_fff s w hs ws hws ha hb hd
  · exact sread_fft s w hs ws hws ha hb hd
  · exact sread_ftf s w hs ws hws ha hb hd
  · exact sread_ftt s w hs ws hws ha hb hd
  · exact sread_tff s w hs ws hws ha hb hd
  · exact sread_tft s w hs ws hws ha hb hd
  · exact sread_ttf s w hs ws hws ha hb hd
  · exact sread_ttt s w hs ws hws ha hb hd

end Go.Proofs.YtpebiebckdmopaaDoor
