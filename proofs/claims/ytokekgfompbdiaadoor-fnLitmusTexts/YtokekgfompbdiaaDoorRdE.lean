/- the reader opened -/
import Derived.Test.YtokekgfompbdiaaDoorRdC
namespace Go.Proofs.YtokekgfompbdiaaDoor
open Go.RowKit

/-- the bytes of a code -/
def Bt (w : World) (ad : Option Addr) (n : Nat) : Prop :=
  0 < n → ∃ b off, ad = some ⟨b, off, none⟩ ∧ ∀ j, j < n → ∃ c : Int, 0 ≤ c ∧ c ≤ 255 ∧ w.cell? ⟨b, off + j, none⟩ = some (.int .u8 c)

theorem open_rd {w : World} {ad : Option Addr} {n cap : Nat} (hb : Bt w ad n) (hn : n ≤ 1048576) : Rdr (w.alloc (.cells #[.slice ad n cap, .int .i64 0] 76)) w.heap.size := by
  refine ⟨ad, n, cap, 0, heap_alloc_new w _, Nat.zero_le _, hn, fun h0 => ?_⟩
  obtain ⟨b, off, rfl, hc⟩ := hb h0
  have hb0 : b < w.heap.size := by
    obtain ⟨c, _, _, h⟩ := hc 0 h0
    exact World.block_lt_of_cell? w _ h
  refine ⟨b, off, rfl, hb0, fun j hj => ?_⟩
  obtain ⟨c, h1, h2, h3⟩ := hc j hj
  exact ⟨c, h1, h2, Below.keep ((Below.refl _ w).alloc (Nat.le_refl _) _) _ _ h3⟩

set_option maxHeartbeats 1000000 in
theorem open_any (ad : Option Addr) (n cap : Nat) (w : World) (hb : Bt w ad n) (hn : n ≤ 1048576) :
    Calls Tryd.prog 23 #[.slice ad n cap] w fun e w' => ∃ g, e = .returned (.pointer (some ⟨g, 0, none⟩)) ∧ w.heap.size ≤ g ∧ Rdr w' g ∧ Below w.heap.size w w' := by
  have HR := hide (open_rd (cap := cap) hb hn)
  clear hb
  go_enter Tryd.func23, Tryd.ntmps23
  go_wp2
  go_ret
  exact ⟨_, rfl, Nat.le_refl _, HR.out, (Below.refl _ _).alloc (Nat.le_refl _) _⟩

theorem below_read {B g : Nat} {w w' w2 : World} (h : Below B w w') (hg : w'.grownBy w2 (some g)) (hB : B ≤ g) (hs : B ≤ w'.heap.size) : Below B w w2 :=
  h.grown hg hs (fun k hk => by simp only [Option.some.injEq] at hk; omega)

end Go.Proofs.YtokekgfompbdiaaDoor
