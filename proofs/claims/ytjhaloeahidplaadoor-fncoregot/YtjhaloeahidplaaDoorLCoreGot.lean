/- Proved: for every slice of bytes, of whatever length, laws.FnCoreGot returns true and leaves its argument as it read; the listed table reads as the program's text lays it (the card ties it). No other condition. -/
import Derived.Test.YtjhaloeahidplaaDoorRows
import Derived.Test.YtjhaloeahidplaaDoorCards
import Derived.Test.YtjhaloeahidplaaDoorTie
import Derived.Test.YtjhaloeahidplaaDoorRdO
import Derived.OpenVars
import Derived.Stop.Joined
import Derived.SevenTiedAt
import Derived.ShutString
import Derived.ChangeOld
namespace Go.Proofs.YtjhaloeahidplaaDoor.fnCoreGot
open Go.ChangeShapes Go.WideShapes Go.ChangeAt Go.WideMaps Go.WideElems Go.RowKit
set_option linter.unusedVariables false
set_option linter.unusedSimpArgs false

theorem own : ownKnob Tryd.prog.godebug = none := by kernel_rfl
theorem laidOut : laidOutB Tryd.prog = true := by kernel_rfl

def IsRow (k : IntKind) (w : World) (a : Option Addr) (len cap : Nat) (zs : List Int) : Prop :=
  (a = none ∧ len = 0 ∧ cap = 0 ∧ zs = []) ∨
  ∃ x, a = some x ∧ len ≤ cap ∧ cap ≤ maxLen ∧ zs.length = cap ∧ (∀ i, i < zs.length → w.cell? (x.add i) = some (.int k (zs.getD i 0))) ∧ ∀ n ∈ zs, (Lit.int k n).wf = true

theorem row_bt {w : World} {a : Option Addr} {len cap : Nat} {z : List Int} (h : IsRow .u8 w a len cap z) : Bt w a len := by
  intro h0
  rcases h with ⟨rfl, rfl, rfl, rfl⟩ | ⟨x, rfl, hl, hm, hz, hcell, hwf⟩
  · exact absurd h0 (by simp)
  · obtain ⟨b, off, spot⟩ := x
    have hc := hcell 0 (by omega)
    have hspot : spot = none := by simpa [Addr.add] using World.cell?_spot hc
    subst hspot
    refine ⟨b, off, rfl, fun j hj => ?_⟩
    have hcj := hcell j (by omega)
    rw [addr_add] at hcj
    have hj' : j < z.length := by omega
    have e : z.getD j 0 = z[j] := by simp [hj']
    have hw := bounds_u8 (hwf z[j] (List.getElem_mem hj'))
    exact ⟨z.getD j 0, by rw [e]; exact hw.1, by rw [e]; exact hw.2, hcj⟩

set_option maxRecDepth 100000 in
set_option maxHeartbeats 16000000 in
theorem walk (a0 : Option Addr) (len0 cap0 : Nat) (w : World) (hs0 : Bt w a0 len0) (htab : Tab w) :
    Calls Tryd.prog 6 #[.slice a0 len0 cap0] w fun e w' => e = .returned (.bool true) ∧ Below w.heap.size w w' := by
  by_cases hbig : (1048576 : Int) < (len0 : Int)
  · go_enter Tryd.func6, Tryd.ntmps6
    go_wp2
    go_ret
    exact ⟨rfl, Below.refl _ _⟩
  have hb : len0 ≤ 1048576 := by omega
  go_enter Tryd.func6, Tryd.ntmps6
  go_wp2_with (first | (go_at_call 15; go_in) | fail)
  refine (drawCoreGot_any a0 len0 cap0 _ hs0 hb).mono ?_
  rintro e w1 ⟨st, d, wt, v, mk, mf, mt, ml, mw, md, rfl, hb1⟩
  clear hs0 hb hbig
  have hsp := fun w => specCoreGot_any (st, d, wt, v) mk mf mt ml mw md w
  have him := fun w h => implCoreGot_any (st, d, wt, v) mk mf mt ml mw md w h
  obtain ⟨sx, bx⟩ := two_here hb1 st d wt v mk mf mt ml mw md
  clear hb1
  rcases got_cases st d wt v mk mf mt ml mw md with hm | ⟨c, h0, h1, hm⟩ | ⟨hk, n0, n1, n2, n3, hn, hok, hm⟩ | ⟨hk, n0, n1, n2, n3, hn, hok, hm⟩ | ⟨h4, h5, n0, n1, n3, hok, hm⟩
  · rw [hm] at hsp him
    clear hm
    obtain ⟨_, c0, c1, c2, c3⟩ := id sx
    obtain ⟨x0, x1, x2, x3, x4, x5⟩ := id bx
    go_wp2_with fail
    refine (him _ (htab.below sx.1)).mono ?_
    rintro e w2 ⟨tv, rfl, hb, ht⟩
    obtain rfl := told_none ht
    clear ht
    clear c0 c1 c2 c3
    clear x0 x1 x2 x3 x4 x5
    replace sx := sc_next sx hb
    replace bx := bx.next hb
    have nx := sc_here sx.1 0 0 0 0 33
    replace sx := sc_alloc sx (.cells #[.int .i64 0, .int .i64 0, .int .i64 0, .int .i64 0] 33)
    replace bx := bx.next ((Below.refl _ _).alloc (Nat.le_refl _) (.cells #[.int .i64 0, .int .i64 0, .int .i64 0, .int .i64 0] 33))
    clear hb
    obtain ⟨_, c0, c1, c2, c3⟩ := id sx
    obtain ⟨x0, x1, x2, x3, x4, x5⟩ := id bx
    go_wp2_with fail
    refine (hsp _).mono ?_
    rintro e w3 ⟨tv, rfl, hb, ht⟩
    obtain rfl := told_none ht
    clear ht
    clear c0 c1 c2 c3
    clear x0 x1 x2 x3 x4 x5
    replace sx := sc_next sx hb
    replace bx := bx.next hb
    replace nx := sc_next nx hb
    have wx := sc_here sx.1 0 0 0 0 33
    replace sx := sc_alloc sx (.cells #[.int .i64 0, .int .i64 0, .int .i64 0, .int .i64 0] 33)
    replace nx := sc_alloc nx (.cells #[.int .i64 0, .int .i64 0, .int .i64 0, .int .i64 0] 33)
    replace bx := bx.next ((Below.refl _ _).alloc (Nat.le_refl _) (.cells #[.int .i64 0, .int .i64 0, .int .i64 0, .int .i64 0] 33))
    clear hb hsp him
    obtain ⟨_, g0, g1, g2, g3⟩ := id nx
    obtain ⟨_, e0, e1, e2, e3⟩ := id wx
    go_wp2_with fail
    refine (sameMail_none _).mono ?_
    rintro e w4 ⟨rfl, hb⟩
    clear g0 g1 g2 g3
    clear e0 e1 e2 e3
    replace sx := sc_next sx hb
    replace nx := sc_next nx hb
    replace wx := sc_next wx hb
    replace bx := bx.next hb
    clear hb
    obtain ⟨_, g0, g1, g2, g3⟩ := id nx
    obtain ⟨_, e0, e1, e2, e3⟩ := id wx
    go_wp2_with fail
    refine (sameMail_none _).mono ?_
    rintro e w5 ⟨rfl, hb⟩
    have s5 := sc_next sx hb
    clear hb
    go_wp2
    go_ret
    exact ⟨rfl, s5.1⟩
  · rw [hm] at hsp him
    clear hm
    obtain ⟨_, c0, c1, c2, c3⟩ := id sx
    obtain ⟨x0, x1, x2, x3, x4, x5⟩ := id bx
    go_wp2_with fail
    refine (him _ (htab.below sx.1)).mono ?_
    rintro e w2 ⟨tv, rfl, hb, ht⟩
    obtain rfl := told_none ht
    clear ht
    clear c0 c1 c2 c3
    clear x0 x1 x2 x3 x4 x5
    replace sx := sc_next sx hb
    replace bx := bx.next hb
    have nx := sc_here sx.1 st d wt v 33
    replace sx := sc_alloc sx (.cells #[.int .i64 st, .int .i64 d, .int .i64 wt, .int .i64 v] 33)
    replace bx := bx.next ((Below.refl _ _).alloc (Nat.le_refl _) (.cells #[.int .i64 st, .int .i64 d, .int .i64 wt, .int .i64 v] 33))
    clear hb
    obtain ⟨_, c0, c1, c2, c3⟩ := id sx
    obtain ⟨x0, x1, x2, x3, x4, x5⟩ := id bx
    go_wp2_with fail
    refine (hsp _).mono ?_
    rintro e w3 ⟨tv, rfl, hb, ht⟩
    obtain rfl := told_none ht
    clear ht
    clear c0 c1 c2 c3
    clear x0 x1 x2 x3 x4 x5
    replace sx := sc_next sx hb
    replace bx := bx.next hb
    replace nx := sc_next nx hb
    have wx := sc_here sx.1 st d wt v 33
    replace sx := sc_alloc sx (.cells #[.int .i64 st, .int .i64 d, .int .i64 wt, .int .i64 v] 33)
    replace nx := sc_alloc nx (.cells #[.int .i64 st, .int .i64 d, .int .i64 wt, .int .i64 v] 33)
    replace bx := bx.next ((Below.refl _ _).alloc (Nat.le_refl _) (.cells #[.int .i64 st, .int .i64 d, .int .i64 wt, .int .i64 v] 33))
    clear hb hsp him
    obtain ⟨_, g0, g1, g2, g3⟩ := id nx
    obtain ⟨_, e0, e1, e2, e3⟩ := id wx
    go_wp2_with fail
    refine (sameMail_none _).mono ?_
    rintro e w4 ⟨rfl, hb⟩
    clear g0 g1 g2 g3
    clear e0 e1 e2 e3
    replace sx := sc_next sx hb
    replace nx := sc_next nx hb
    replace wx := sc_next wx hb
    replace bx := bx.next hb
    clear hb
    obtain ⟨_, g0, g1, g2, g3⟩ := id nx
    obtain ⟨_, c0, c1, c2, c3⟩ := id sx
    go_wp2
    go_ret
    exact ⟨rfl, sx.1⟩
  · subst hk
    rw [hm] at hsp him
    clear hm
    obtain ⟨_, c0, c1, c2, c3⟩ := id sx
    obtain ⟨x0, x1, x2, x3, x4, x5⟩ := id bx
    go_wp2_with fail
    refine (him _ (htab.below sx.1)).mono ?_
    rintro e w2 ⟨tv, rfl, hb, ht⟩
    obtain ⟨A, hlA, rfl, a2⟩ := told_one ht (by intro h; cases h)
    clear ht
    clear c0 c1 c2 c3
    clear x0 x1 x2 x3 x4 x5
    replace sx := sc_next sx hb
    replace bx := bx.next hb
    have nx := sc_here sx.1 n0 n1 n2 n3 33
    replace sx := sc_alloc sx (.cells #[.int .i64 n0, .int .i64 n1, .int .i64 n2, .int .i64 n3] 33)
    replace bx := bx.next ((Below.refl _ _).alloc (Nat.le_refl _) (.cells #[.int .i64 n0, .int .i64 n1, .int .i64 n2, .int .i64 n3] 33))
    replace a2 := holds_alloc a2 (.cells #[.int .i64 n0, .int .i64 n1, .int .i64 n2, .int .i64 n3] 33)
    clear hb
    obtain ⟨_, c0, c1, c2, c3⟩ := id sx
    obtain ⟨x0, x1, x2, x3, x4, x5⟩ := id bx
    go_wp2_with fail
    refine (hsp _).mono ?_
    rintro e w3 ⟨tv, rfl, hb, ht⟩
    obtain ⟨B, hlB, rfl, b3⟩ := told_one ht (by intro h; cases h)
    clear ht
    clear c0 c1 c2 c3
    clear x0 x1 x2 x3 x4 x5
    replace sx := sc_next sx hb
    replace bx := bx.next hb
    replace nx := sc_next nx hb
    have wx := sc_here sx.1 n0 n1 n2 n3 33
    replace sx := sc_alloc sx (.cells #[.int .i64 n0, .int .i64 n1, .int .i64 n2, .int .i64 n3] 33)
    replace nx := sc_alloc nx (.cells #[.int .i64 n0, .int .i64 n1, .int .i64 n2, .int .i64 n3] 33)
    replace bx := bx.next ((Below.refl _ _).alloc (Nat.le_refl _) (.cells #[.int .i64 n0, .int .i64 n1, .int .i64 n2, .int .i64 n3] 33))
    replace a2 := holds_alloc (a2.next hb) (.cells #[.int .i64 n0, .int .i64 n1, .int .i64 n2, .int .i64 n3] 33)
    replace b3 := holds_alloc b3 (.cells #[.int .i64 n0, .int .i64 n1, .int .i64 n2, .int .i64 n3] 33)
    clear hb hsp him
    obtain ⟨_, g0, g1, g2, g3⟩ := id nx
    obtain ⟨_, e0, e1, e2, e3⟩ := id wx
    go_wp2_with fail
    refine (sameMail_one A B _ _ _ _ _ _ _ a2 b3).mono ?_
    rintro e w4 ⟨rfl, hb⟩
    clear g0 g1 g2 g3
    clear e0 e1 e2 e3
    replace sx := sc_next sx hb
    replace nx := sc_next nx hb
    replace wx := sc_next wx hb
    replace bx := bx.next hb
    replace a2 := a2.next hb
    clear b3
    clear hb
    clear wx
    obtain ⟨_, g0, g1, g2, g3⟩ := id nx
    obtain ⟨x0, x1, x2, x3, x4, x5⟩ := id bx
    go_wp2_with fail
    refine (implSlotOk_any _ _ _ _ _).mono ?_
    rintro e w5 ⟨rfl, hb⟩
    rw [hok]
    clear g0 g1 g2 g3
    clear x0 x1 x2 x3 x4 x5
    replace nx := sc_next nx hb
    replace a2 := a2.next hb
    clear hb sx bx
    obtain ⟨_, g0, g1, g2, g3⟩ := id nx
    obtain ⟨_, q0, q1, q2, q3, q4, q5⟩ := a2.facts
    go_wp2
    go_ret
    exact ⟨rfl, nx.1⟩
  · subst hk
    rw [hm] at hsp him
    clear hm
    obtain ⟨_, c0, c1, c2, c3⟩ := id sx
    obtain ⟨x0, x1, x2, x3, x4, x5⟩ := id bx
    go_wp2_with fail
    refine (him _ (htab.below sx.1)).mono ?_
    rintro e w2 ⟨tv, rfl, hb, ht⟩
    obtain ⟨A, hlA, rfl, a2⟩ := told_one ht (by intro h; cases h)
    clear ht
    clear c0 c1 c2 c3
    clear x0 x1 x2 x3 x4 x5
    replace sx := sc_next sx hb
    replace bx := bx.next hb
    have nx := sc_here sx.1 n0 n1 n2 n3 33
    replace sx := sc_alloc sx (.cells #[.int .i64 n0, .int .i64 n1, .int .i64 n2, .int .i64 n3] 33)
    replace bx := bx.next ((Below.refl _ _).alloc (Nat.le_refl _) (.cells #[.int .i64 n0, .int .i64 n1, .int .i64 n2, .int .i64 n3] 33))
    replace a2 := holds_alloc a2 (.cells #[.int .i64 n0, .int .i64 n1, .int .i64 n2, .int .i64 n3] 33)
    clear hb
    obtain ⟨_, c0, c1, c2, c3⟩ := id sx
    obtain ⟨x0, x1, x2, x3, x4, x5⟩ := id bx
    go_wp2_with fail
    refine (hsp _).mono ?_
    rintro e w3 ⟨tv, rfl, hb, ht⟩
    obtain ⟨B, hlB, rfl, b3⟩ := told_one ht (by intro h; cases h)
    clear ht
    clear c0 c1 c2 c3
    clear x0 x1 x2 x3 x4 x5
    replace sx := sc_next sx hb
    replace bx := bx.next hb
    replace nx := sc_next nx hb
    have wx := sc_here sx.1 n0 n1 n2 n3 33
    replace sx := sc_alloc sx (.cells #[.int .i64 n0, .int .i64 n1, .int .i64 n2, .int .i64 n3] 33)
    replace nx := sc_alloc nx (.cells #[.int .i64 n0, .int .i64 n1, .int .i64 n2, .int .i64 n3] 33)
    replace bx := bx.next ((Below.refl _ _).alloc (Nat.le_refl _) (.cells #[.int .i64 n0, .int .i64 n1, .int .i64 n2, .int .i64 n3] 33))
    replace a2 := holds_alloc (a2.next hb) (.cells #[.int .i64 n0, .int .i64 n1, .int .i64 n2, .int .i64 n3] 33)
    replace b3 := holds_alloc b3 (.cells #[.int .i64 n0, .int .i64 n1, .int .i64 n2, .int .i64 n3] 33)
    clear hb hsp him
    obtain ⟨_, g0, g1, g2, g3⟩ := id nx
    obtain ⟨_, e0, e1, e2, e3⟩ := id wx
    go_wp2_with fail
    refine (sameMail_one A B _ _ _ _ _ _ _ a2 b3).mono ?_
    rintro e w4 ⟨rfl, hb⟩
    clear g0 g1 g2 g3
    clear e0 e1 e2 e3
    replace sx := sc_next sx hb
    replace nx := sc_next nx hb
    replace wx := sc_next wx hb
    replace bx := bx.next hb
    replace a2 := a2.next hb
    clear b3
    clear hb
    clear wx
    obtain ⟨_, g0, g1, g2, g3⟩ := id nx
    obtain ⟨_, c0, c1, c2, c3⟩ := id sx
    obtain ⟨x0, x1, x2, x3, x4, x5⟩ := id bx
    obtain ⟨_, q0, q1, q2, q3, q4, q5⟩ := a2.facts
    go_wp2
    go_region_held3 (fun w' => Below w.heap.size w w' ∧ w'.cell? ⟨w2.heap.size, 0, none⟩ = some (.int .i64 n0) ∧ w'.cell? ⟨w2.heap.size, 1, none⟩ = some (.int .i64 n1) ∧ w'.cell? ⟨w2.heap.size, 2, none⟩ = some (.int .i64 n2) ∧ w'.cell? ⟨w2.heap.size, 3, none⟩ = some (.int .i64 n3) ∧ w'.cell? ⟨w1.heap.size, 1, none⟩ = some (.int .i64 d) ∧ w'.cell? ⟨A, 0, none⟩ = some (.int .i64 7) ∧ w'.cell? ⟨A, 5, none⟩ = some (.int .i64 d)) (first | exact ⟨nx.1.drew, g0, g1, g2, g3, c1, q0, q5⟩ | exact keep7 (by assumption) hbk) (first | (go_at_call 27; refine (implSlotOk_any _ _ _ _ _).mono ?_; rintro e w7 ⟨rfl, hbk⟩; rw [hok]))
    all_goals go_wp2
    all_goals go_ret
    rename_i hH
    exact ⟨rfl, hH.1⟩
  · rw [hm] at hsp him
    clear hm
    obtain ⟨_, c0, c1, c2, c3⟩ := id sx
    obtain ⟨x0, x1, x2, x3, x4, x5⟩ := id bx
    go_wp2_with fail
    refine (him _ (htab.below sx.1)).mono ?_
    rintro e w2 ⟨tv, rfl, hb, ht⟩
    obtain rfl := told_none ht
    clear ht
    clear c0 c1 c2 c3
    clear x0 x1 x2 x3 x4 x5
    replace sx := sc_next sx hb
    replace bx := bx.next hb
    have nx := sc_here sx.1 n0 n1 0 n3 33
    replace sx := sc_alloc sx (.cells #[.int .i64 n0, .int .i64 n1, .int .i64 0, .int .i64 n3] 33)
    replace bx := bx.next ((Below.refl _ _).alloc (Nat.le_refl _) (.cells #[.int .i64 n0, .int .i64 n1, .int .i64 0, .int .i64 n3] 33))
    clear hb
    obtain ⟨_, c0, c1, c2, c3⟩ := id sx
    obtain ⟨x0, x1, x2, x3, x4, x5⟩ := id bx
    go_wp2_with fail
    refine (hsp _).mono ?_
    rintro e w3 ⟨tv, rfl, hb, ht⟩
    obtain rfl := told_none ht
    clear ht
    clear c0 c1 c2 c3
    clear x0 x1 x2 x3 x4 x5
    replace sx := sc_next sx hb
    replace bx := bx.next hb
    replace nx := sc_next nx hb
    have wx := sc_here sx.1 n0 n1 0 n3 33
    replace sx := sc_alloc sx (.cells #[.int .i64 n0, .int .i64 n1, .int .i64 0, .int .i64 n3] 33)
    replace nx := sc_alloc nx (.cells #[.int .i64 n0, .int .i64 n1, .int .i64 0, .int .i64 n3] 33)
    replace bx := bx.next ((Below.refl _ _).alloc (Nat.le_refl _) (.cells #[.int .i64 n0, .int .i64 n1, .int .i64 0, .int .i64 n3] 33))
    clear hb hsp him
    obtain ⟨_, g0, g1, g2, g3⟩ := id nx
    obtain ⟨_, e0, e1, e2, e3⟩ := id wx
    go_wp2_with fail
    refine (sameMail_none _).mono ?_
    rintro e w4 ⟨rfl, hb⟩
    clear g0 g1 g2 g3
    clear e0 e1 e2 e3
    replace sx := sc_next sx hb
    replace nx := sc_next nx hb
    replace wx := sc_next wx hb
    replace bx := bx.next hb
    clear hb
    clear wx
    obtain ⟨_, g0, g1, g2, g3⟩ := id nx
    obtain ⟨x0, x1, x2, x3, x4, x5⟩ := id bx
    go_wp2_with fail
    refine (implSlotOk_any _ _ _ _ _).mono ?_
    rintro e w5 ⟨rfl, hb⟩
    rw [hok]
    clear g0 g1 g2 g3
    clear x0 x1 x2 x3 x4 x5
    replace nx := sc_next nx hb
    clear hb sx bx
    obtain ⟨_, g0, g1, g2, g3⟩ := id nx
    go_wp2
    go_ret
    exact ⟨rfl, nx.1⟩

/-- the door's own heap meets the condition -/
theorem door_met (os : Os) (args : Array Value) : laidMetH Tryd.prog Rows.fnCoreGotRow.laid ((World.doorLaid Tryd.prog 400 os).forCall (fun _ _ => 0) ⟨#[], args, []⟩).memory :=
  laidMetH_of_parts3 (fuel := 8) (laidMet_of_run' 8 (by kernel_rfl) (by kernel_rfl)) (by kernel_rfl) (by kernel_rfl)

set_option maxRecDepth 100000 in
theorem lifted (os : Os) (started : os.Started) (H : Type) (enc : TypeId × Value → H) :
    ReturnsInHanded {} Tryd.checked os 6 .any (fun w args => (Rows.fnCoreGotSpec.pre enc Tryd.prog Tryd.f6 [] false w args ∧ laidMetH Tryd.prog Rows.fnCoreGotRow.laid w) ∧ sizedMet enc Tryd.prog Tryd.f6 (OpenSpec.ofChange Rows.fnCoreGotSpec) false w args)
      (Rows.fnCoreGotSpec.post enc Tryd.prog Tryd.f6 false true false false) := by
  refine returnsInHanded_of_change_and (C := Tryd.checked) (X := fun w _ => laidMetH Tryd.prog Rows.fnCoreGotRow.laid w) (fun _ _ _ hh h => h.of_heap hh) own started (by kernel_rfl) Tryd.func6
    (ChangeSpec.witness_shaped (enc := enc) (C := Tryd.checked) (os := os) (X := fun w _ => laidMetH Tryd.prog Rows.fnCoreGotRow.laid w) false (World.doorLaid Tryd.prog 400 os) #[.slice none 0 0] 8 rfl (World.shaped_of_RefB (by kernel_rfl) (by kernel_rfl)) (by kernel_rfl) (by kernel_rfl) (by kernel_rfl) (door_met os _)) ?_
  intro W base args ds gs before hval0 hW _ _ hL _
  have hval : ∀ (j : Nat) t v, Tryd.f6.params[j]? = some t → args[j]? = some v → Value.okWide Tryd.prog W .any base t v := hval0
  have hW' := hW
  obtain ⟨p, q, hA0, hV, rfl, hfz, hnd⟩ := hW
  have hA : DataW.TrodAll enc Tryd.prog W 0 (fun _ => true) true Tryd.f6.params.toList args.toList ds p := hA0
  rw [Tryd.params6] at hA hval
  obtain ⟨v0, vs0, d0, ds0, p0, q0, hargs, rfl, rfl, h0, r0⟩ := trodAll_cons hA
  obtain ⟨rfl, rfl, rfl⟩ := trodAll_nil r0
  obtain rfl : args = #[v0] := by cases args; simp_all
  obtain ⟨a0, len0, cap0, rfl⟩ := okWide_slice Tryd.underlying22 (hval 0 22 v0 rfl rfl)
  have k0 := h0
  have lt0 : ∀ x ∈ p0, x.block < W.heap.size := by obtain ⟨m, hm⟩ := k0; exact DataW.trod_lt m _ _ _ hm
  obtain ⟨z0, w0⟩ : ∃ zs, IsRow .u8 W a0 len0 cap0 zs := by
    obtain ⟨fuel, hf⟩ := h0
    rcases open_ints Tryd.underlying22 Tryd.underlying5 (by kernel_rfl) hf with ⟨hcs, _⟩ | ⟨x, l, c, zs, hcs, _, hl, hm, hz, _, hcell, hwz⟩
    · simp [Value.cells] at hcs
      obtain ⟨rfl, rfl, rfl⟩ := hcs
      exact ⟨[], .inl ⟨rfl, rfl, rfl, rfl⟩⟩
    · simp [Value.cells] at hcs
      obtain ⟨rfl, rfl, rfl⟩ := hcs
      exact ⟨zs, .inr ⟨_, rfl, hl, hm, by simpa using hz, hcell, hwz⟩⟩
  obtain ⟨g, tt, cs, fuel, dv, pv, rfl, hg, htt, hvar, hd, rfl⟩ := trodVars_one hV
  clear hA0 hval0
  refine (walk a0 len0 cap0 W (row_bt w0) (tab_of_laid hL)).mono fun e W' ⟨he, bel⟩ => ?_
  subst he
  exact ⟨_, rfl, _, _, _, [], _, _, hW', trodAll_mk1 (shut_bool Tryd.underlying4 _), (trodAll_cons_mk (Below.trod laidOut (by kernel_rfl) (of_decide_eq_true (by kernel_rfl)) k0 bel lt0) trodAll_mk0), bel.trodVars laidOut (by kernel_rfl) hV, bel.frame _, fun h => by cases h⟩

theorem row_holds : Rows.FnCoreGotSaid :=
  OpenClaim.holds_of_wide 6 Tryd.f6 rfl rfl rfl rfl rfl rfl rfl ⟨rfl, rfl, rfl, rfl, rfl⟩ rfl rfl rfl rfl rfl (by kernel_rfl) Tryd.func6 (by kernel_rfl)
    (of_decide_eq_true (by kernel_rfl)) (by unfold Func.isWrapper; first | (rw [if_pos (by decide +kernel)]; kernel_rfl) | (rw [if_neg (by decide +kernel)]; exact ⟨rfl, rfl⟩))
    (fun os started H enc _ => lifted os started H enc)
end Go.Proofs.YtjhaloeahidplaaDoor.fnCoreGot

namespace Go.Proofs.YtjhaloeahidplaaDoor
theorem fnCoreGot_holds : Rows.FnCoreGotCardSaid :=
  Claim7.holds_tied_plain_at .later [] [.data] true Rows.fnCoreGotCard.stood.harness true
    fnCoreGot.row_holds (fun _ h => by cases h) (by kernel_rfl) (fun _ h => by cases h) fnCoreGot_row_tie rfl ⟨rfl, rfl⟩ (by kernel_rfl) rfl
    (fun f fn hf hfn => by
      obtain rfl : f = 6 := Option.some.inj ((show Tryd.prog.funcNamed "loop.example/g00384/laws.FnCoreGot" = some 6 by kernel_rfl).symm.trans hf) |>.symm
      obtain rfl : fn = Tryd.f6 := (Option.some.inj (Tryd.func6.symm.trans hfn)).symm
      exact ⟨by kernel_rfl, fun j t ht => by
        rw [Tryd.params6] at ht
        have hm : t ∈ [22] := by simpa using Array.mem_of_getElem? ht
        have hall : ([22].all fun u => !Tryd.prog.wantsStandIn u) = true := by kernel_rfl
        exact (show Tryd.prog.wantsStandIn t = false by simpa using List.all_eq_true.1 hall t hm)⟩)
    (by kernel_rfl)
end Go.Proofs.YtjhaloeahidplaaDoor
