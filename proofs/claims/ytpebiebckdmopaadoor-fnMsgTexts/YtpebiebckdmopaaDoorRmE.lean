/- impl.msgReader: message, all of it -/
import Derived.Test.YtpebiebckdmopaaDoorRmDfff
import Derived.Test.YtpebiebckdmopaaDoorRmDfft
import Derived.Test.YtpebiebckdmopaaDoorRmDftf
import Derived.Test.YtpebiebckdmopaaDoorRmDftt
import Derived.Test.YtpebiebckdmopaaDoorRmDtff
import Derived.Test.YtpebiebckdmopaaDoorRmDtft
import Derived.Test.YtpebiebckdmopaaDoorRmDttf
import Derived.Test.YtpebiebckdmopaaDoorRmDttt
namespace Go.Proofs.YtpebiebckdmopaaDoor
open Go.RowKit
set_option linter.unusedSimpArgs false

set_option maxRecDepth 20000 in
set_option maxHeartbeats 1000000 in
theorem message_none (g : Nat) (w : World) (ws : List (List UInt8)) (h : Rs w g ws) (ht : Tab w) (hg : 0 < g) (hn : kd1 ws = none) :
    Calls Tryd.prog 18 #[.pointer (some ⟨g, 0, none⟩)] w fun e w' => ((parse ws = none ∧ e = .panicked gaveUp) ∨ (∃ m, parse ws = some m ∧ e = .returned (aggOf m))) ∧ w.grownBy w' (some g) := by
  have hgl := h.lt
  have hb0 : Below w.heap.size w (w.alloc (.cells #[.int .i64 0, .int .i64 0, .int .i64 0, .int .i64 0, .int .i64 0, .int .i64 0] 25)) := (Below.refl _ _).alloc (Nat.le_refl _) _
  have g0 := rgrown_of_below hb0
  have g0' : w.grownBy (w.alloc (.cells #[.int .i64 0, .int .i64 0, .int .i64 0, .int .i64 0, .int .i64 0, .int .i64 0] 25)) (some g) := ⟨g0.os, g0.tape, g0.output, g0.size, fun k hk _ => g0.block k hk (by simp)⟩
  go_enter Tryd.func18, Tryd.ntmps18
  go_wp2_with fail
  refine (kind_any g _ ws (h.below hb0) (ht.below hb0) hg).mono ?_
  rintro e w1 (⟨hn', rfl, g1⟩ | ⟨k', r', hn', rfl, h1, g1⟩)
  · go_wp2
    exact ⟨rfl, .inl ⟨by simp [parse, hn], rfl⟩, rgrown_trans g0' g1⟩
  · rw [hn] at hn'; cases hn'

theorem message_any (g : Nat) (w : World) (ws : List (List UInt8)) (h : Rs w g ws) (ht : Tab w) (hg : 0 < g) :
    Calls Tryd.prog 18 #[.pointer (some ⟨g, 0, none⟩)] w fun e w' => ((parse ws = none ∧ e = .panicked gaveUp) ∨ (∃ m, parse ws = some m ∧ e = .returned (aggOf m))) ∧ w.grownBy w' (some g) := by
  cases hn : kd1 ws with
  | none => exact message_none g w ws h ht hg hn
  | some p =>
    obtain ⟨k, r⟩ := p
    cases ha : shapeHome k <;> cases hb : shapeWant k <;> cases hd : shapeData k
    · exact message_fff g w ws h ht hg k r hn ha hb hd
    · exact message_fft g w ws h ht hg k r hn ha hb hd
    · exact message_ftf g w ws h ht hg k r hn ha hb hd
    · exact message_ftt g w ws h ht hg k r hn ha hb hd
    · exact message_tff g w ws h ht hg k r hn ha hb hd
    · exact message_tft g w ws h ht hg k r hn ha hb hd
    · exact message_ttf g w ws h ht hg k r hn ha hb hd
    · exact message_ttt g w ws h ht hg k r hn ha hb hd

end Go.Proofs.YtpebiebckdmopaaDoor
