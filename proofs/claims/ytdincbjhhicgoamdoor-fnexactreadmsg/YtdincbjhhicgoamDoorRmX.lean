/- spec.ReadMsg, all of it -/
import Derived.Test.YtdincbjhhicgoamDoorRmWfff
import Derived.Test.YtdincbjhhicgoamDoorRmWfft
import Derived.Test.YtdincbjhhicgoamDoorRmWftf
import Derived.Test.YtdincbjhhicgoamDoorRmWftt
import Derived.Test.YtdincbjhhicgoamDoorRmWtff
import Derived.Test.YtdincbjhhicgoamDoorRmWtft
import Derived.Test.YtdincbjhhicgoamDoorRmWttf
import Derived.Test.YtdincbjhhicgoamDoorRmWttt
namespace Go.Proofs.YtdincbjhhicgoamDoor
open Go.RowKit
set_option linter.unusedSimpArgs false

theorem specRead_any (s : ByteArray) (w : World) (hs : s.size ≤ 1048576) :
    Calls Tryd.prog 8 #[.string s] w fun e w' => e = ans (sans s.data.toList (Rdm.nz (Rdm.sp s.data.toList))) ∧ Below w.heap.size w w' := by
  obtain ⟨ws, hws⟩ : ∃ ws, Rdm.nz (Rdm.sp s.data.toList) = ws := ⟨_, rfl⟩
  rw [hws]
  cases ha : shapeHome (kOf ws) <;> cases hb : shapeWant (kOf ws) <;> cases hd : shapeData (kOf ws)
  · exact sread_fff s w hs ws hws ha hb hd
  · exact sread_fft s w hs ws hws ha hb hd
  · exact sread_ftf s w hs ws hws ha hb hd
  · exact sread_ftt s w hs ws hws ha hb hd
  · exact sread_tff s w hs ws hws ha hb hd
  · exact sread_tft s w hs ws hws ha hb hd
  · exact sread_ttf s w hs ws hws ha hb hd
  · exact sread_ttt s w hs ws hws ha hb hd

end Go.Proofs.YtdincbjhhicgoamDoor
