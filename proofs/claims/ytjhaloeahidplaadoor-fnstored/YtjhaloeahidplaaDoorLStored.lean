/- Proved: for every slice of bytes, of whatever length, laws.FnStored returns true and leaves its argument as it read; the listed table reads as the program's text lays it (the card ties it). No other condition. -/
import Derived.Test.YtjhaloeahidplaaDoorRows
import Derived.Test.YtjhaloeahidplaaDoorCards
import Derived.Test.YtjhaloeahidplaaDoorTie
import Derived.Test.YtjhaloeahidplaaDoorRdW
import Derived.Test.YtjhaloeahidplaaDoorRdX
import Derived.Test.YtjhaloeahidplaaDoorMsgT
import Derived.OpenVars
import Derived.Stop.Joined
import Derived.SevenTiedAt
import Derived.ShutString
import Derived.ChangeOld
namespace Go.Proofs.YtjhaloeahidplaaDoor.fnStored
open Go.ChangeShapes Go.WideShapes Go.ChangeAt Go.WideMaps Go.WideElems Go.RowKit
set_option linter.unusedVariables false
set_option linter.unusedSimpArgs false

theorem own : ownKnob Tryd.prog.godebug = none := by kernel_rfl
theorem laidOut : laidOutB Tryd.prog = true := by kernel_rfl

def IsRow (k : IntKind) (w : World) (a : Option Addr) (len cap : Nat) (zs : List Int) : Prop :=
  (a = none ∧ len = 0 ∧ cap = 0 ∧ zs = []) ∨
  ∃ x, a = some x ∧ len ≤ cap ∧ cap ≤ maxLen ∧ zs.length = cap ∧ (∀ i, i < zs.length → w.cell? (x.add i) = some (.int k (zs.getD i 0))) ∧ ∀ n ∈ zs, (Lit.int k n).wf = true

theorem row_bt {w : World} {a : Option Addr} {len cap : Nat} {z : List Int} (h : IsRow .u8 w a len cap z) : Bt w a len := by
  intro h0
  rcases h with ⟨rfl, rfl, rfl, rfl⟩ | ⟨x, rfl, hl, hm, hz, hcell, hwf⟩
  · exact absurd h0 (by simp)
  · obtain ⟨b, off, spot⟩ := x
    have hc := hcell 0 (by omega)
    have hspot : spot = none := by simpa [Addr.add] using World.cell?_spot hc
    subst hspot
    refine ⟨b, off, rfl, fun j hj => ?_⟩
    have hcj := hcell j (by omega)
    rw [addr_add] at hcj
    have hj' : j < z.length := by omega
    have e : z.getD j 0 = z[j] := by simp [hj']
    have hw := bounds_u8 (hwf z[j] (List.getElem_mem hj'))
    exact ⟨z.getD j 0, by rw [e]; exact hw.1, by rw [e]; exact hw.2, hcj⟩

theorem stor_cases (st d wt v core line x : Int) : (mvd (st, d, wt, v) (frm3 core line x) (storM x (st, d, wt, v)) = ((0, 0, 0, 0), 0, 0, 1)) ∨
    (∃ c, (c == 0) = false ∧ (c == 1) = false ∧ (c == 3) = false ∧ mvd (st, d, wt, v) (frm3 core line x) (storM x (st, d, wt, v)) = ((st, d, wt, v), 0, 0, c)) ∨
    ((st = 2 ∧ wt = 0 ∧ v = 0) ∧ frm core line = true ∧ okS (2, x, 0, 0) ∧ mvd (st, d, wt, v) (frm3 core line x) (storM x (st, d, wt, v)) = ((2, x, 0, 0), 0, 0, 0)) ∨
    ((wt = 0 ∧ v = 0) ∧ frm core line = true ∧ frm3 core line x = true ∧ okS (st, d, 2, x) ∧ storM x (st, d, 2, x) = ((st, d, 2, x), 0, 0, 4) ∧ mvd (st, d, wt, v) (frm3 core line x) (storM x (st, d, wt, v)) = ((st, d, 2, x), 2, 0, 3)) := by
  cases h : slB st d wt v with
  | false => exact .inl (mvd_no h)
  | true =>
    cases hf : frm3 core line x with
    | false => exact .inr (.inl ⟨2, rfl, rfl, rfl, mvd_fm h⟩)
    | true =>
      rw [mvd_do h]
      have hf2 : frm core line = true ∧ inB x 0 1000000 = true := by unfold frm3 at hf; rwa [Bool.and_eq_true] at hf
      have hso := stor_ok (s := (st, d, wt, v)) h hf2.2
      obtain ⟨h0, hs⟩ := slB_cases h
      rcases hs with ⟨rfl, rfl, rfl, rfl⟩ | ⟨rfl, rfl, rfl, rfl⟩ | ⟨rfl, rfl, rfl⟩ | ⟨rfl, rfl, rfl⟩ | ⟨rfl, rfl⟩ | ⟨rfl, rfl, rfl⟩ | ⟨rfl, rfl, rfl⟩
      · exact .inr (.inr (.inr ⟨⟨rfl, rfl⟩, hf2.1, rfl, hso, rfl, rfl⟩))
      · exact .inr (.inl ⟨4, rfl, rfl, rfl, rfl⟩)
      · exact .inr (.inl ⟨4, rfl, rfl, rfl, rfl⟩)
      · exact .inr (.inr (.inr ⟨⟨rfl, rfl⟩, hf2.1, rfl, hso, rfl, rfl⟩))
      · exact .inr (.inl ⟨4, rfl, rfl, rfl, rfl⟩)
      · exact .inr (.inr (.inl ⟨⟨rfl, rfl, rfl⟩, hf2.1, hso, rfl⟩))
      · exact .inr (.inl ⟨4, rfl, rfl, rfl, rfl⟩)

set_option maxRecDepth 100000 in
set_option maxHeartbeats 8000000 in
theorem walk (a0 : Option Addr) (len0 cap0 : Nat) (w : World) (hs0 : Bt w a0 len0) (htab : Tab w) :
    Calls Tryd.prog 5 #[.slice a0 len0 cap0] w fun e w' => e = .returned (.bool true) ∧ Below w.heap.size w w' := by
  by_cases hbig : (1048576 : Int) < (len0 : Int)
  · go_enter Tryd.func5, Tryd.ntmps5
    go_wp2
    go_ret
    exact ⟨rfl, Below.refl _ _⟩
  have hb : len0 ≤ 1048576 := by omega
  go_enter Tryd.func5, Tryd.ntmps5
  go_wp2_with (first | (go_at_call 15; go_in) | fail)
  refine (drawStored_any a0 len0 cap0 _ hs0 hb).mono ?_
  rintro e w1 ⟨st, d, wt, v, core, line, x, rfl, hb1⟩
  clear hs0 hb hbig
  have hsp := fun w => specStored_any (st, d, wt, v) core line x w
  have him := fun w => implStored_any (st, d, wt, v) core line x w
  rcases stor_cases st d wt v core line x with hm | ⟨c, h00, h1, h3, hm⟩ | ⟨hs, hf, hok, hm⟩ | ⟨hs, hf, hf3, hok, hag, hm⟩
  · rw [hm] at hsp him
    clear hm
    have sx := sc_here hb1 st d wt v 33
    clear hb1
    obtain ⟨_, c0, c1, c2, c3⟩ := id sx
    go_wp2_with fail
    refine (him _).mono ?_
    rintro e w2 ⟨tv, rfl, hb, ht⟩
    obtain rfl := told_none ht
    clear ht
    clear c0 c1 c2 c3
    have s2 := sc_next sx hb
    have nx := sc_here s2.1 0 0 0 0 33
    have sy := sc_alloc s2 (.cells #[.int .i64 0, .int .i64 0, .int .i64 0, .int .i64 0] 33)
    clear hb sx s2
    obtain ⟨_, c0, c1, c2, c3⟩ := id sy
    go_wp2_with fail
    refine (hsp _).mono ?_
    rintro e w3 ⟨tv, rfl, hb, ht⟩
    obtain rfl := told_none ht
    clear ht
    clear c0 c1 c2 c3
    have s3 := sc_next sy hb
    have n3 := sc_next nx hb
    have wx := sc_here s3.1 0 0 0 0 33
    have sz := sc_alloc s3 (.cells #[.int .i64 0, .int .i64 0, .int .i64 0, .int .i64 0] 33)
    have ny := sc_alloc n3 (.cells #[.int .i64 0, .int .i64 0, .int .i64 0, .int .i64 0] 33)
    clear hb sy nx s3 n3 hsp him
    obtain ⟨_, g0, g1, g2, g3⟩ := id ny
    obtain ⟨_, e0, e1, e2, e3⟩ := id wx
    go_wp2_with fail
    refine (sameMail_none _).mono ?_
    rintro e w4 ⟨rfl, hb⟩
    clear g0 g1 g2 g3
    clear e0 e1 e2 e3
    have s4 := sc_next sz hb
    have n4 := sc_next ny hb
    have w4x := sc_next wx hb
    clear hb sz ny wx
    obtain ⟨_, g0, g1, g2, g3⟩ := id n4
    obtain ⟨_, e0, e1, e2, e3⟩ := id w4x
    go_wp2_with fail
    refine (sameMail_none _).mono ?_
    rintro e w5 ⟨rfl, hb⟩
    have s5 := sc_next s4 hb
    clear hb
    go_wp2
    go_ret
    exact ⟨rfl, s5.1⟩
  · rw [hm] at hsp him
    clear hm
    have sx := sc_here hb1 st d wt v 33
    clear hb1
    obtain ⟨_, c0, c1, c2, c3⟩ := id sx
    go_wp2_with fail
    refine (him _).mono ?_
    rintro e w2 ⟨tv, rfl, hb, ht⟩
    obtain rfl := told_none ht
    clear ht
    clear c0 c1 c2 c3
    have s2 := sc_next sx hb
    have nx := sc_here s2.1 st d wt v 33
    have sy := sc_alloc s2 (.cells #[.int .i64 st, .int .i64 d, .int .i64 wt, .int .i64 v] 33)
    clear hb sx s2
    obtain ⟨_, c0, c1, c2, c3⟩ := id sy
    go_wp2_with fail
    refine (hsp _).mono ?_
    rintro e w3 ⟨tv, rfl, hb, ht⟩
    obtain rfl := told_none ht
    clear ht
    clear c0 c1 c2 c3
    have s3 := sc_next sy hb
    have n3 := sc_next nx hb
    have wx := sc_here s3.1 st d wt v 33
    have sz := sc_alloc s3 (.cells #[.int .i64 st, .int .i64 d, .int .i64 wt, .int .i64 v] 33)
    have ny := sc_alloc n3 (.cells #[.int .i64 st, .int .i64 d, .int .i64 wt, .int .i64 v] 33)
    clear hb sy nx s3 n3 hsp him
    obtain ⟨_, g0, g1, g2, g3⟩ := id ny
    obtain ⟨_, e0, e1, e2, e3⟩ := id wx
    go_wp2_with fail
    refine (sameMail_none _).mono ?_
    rintro e w4 ⟨rfl, hb⟩
    clear g0 g1 g2 g3
    clear e0 e1 e2 e3
    have s4 := sc_next sz hb
    have n4 := sc_next ny hb
    have w4x := sc_next wx hb
    clear hb sz ny wx
    obtain ⟨_, g0, g1, g2, g3⟩ := id n4
    obtain ⟨_, c0, c1, c2, c3⟩ := id s4
    go_wp2
    go_ret
    exact ⟨rfl, s4.1⟩
  · obtain ⟨rfl, rfl, rfl⟩ := hs
    rw [hm] at hsp him
    clear hm
    have sx := sc_here hb1 2 d 0 0 33
    clear hb1
    obtain ⟨_, c0, c1, c2, c3⟩ := id sx
    go_wp2_with fail
    refine (him _).mono ?_
    rintro e w2 ⟨tv, rfl, hb, ht⟩
    obtain rfl := told_none ht
    clear ht
    clear c0 c1 c2 c3
    have s2 := sc_next sx hb
    have nx := sc_here s2.1 2 x 0 0 33
    have sy := sc_alloc s2 (.cells #[.int .i64 2, .int .i64 x, .int .i64 0, .int .i64 0] 33)
    clear hb sx s2
    obtain ⟨_, c0, c1, c2, c3⟩ := id sy
    go_wp2_with fail
    refine (hsp _).mono ?_
    rintro e w3 ⟨tv, rfl, hb, ht⟩
    obtain rfl := told_none ht
    clear ht
    clear c0 c1 c2 c3
    have s3 := sc_next sy hb
    have n3 := sc_next nx hb
    have wx := sc_here s3.1 2 x 0 0 33
    have sz := sc_alloc s3 (.cells #[.int .i64 2, .int .i64 x, .int .i64 0, .int .i64 0] 33)
    have ny := sc_alloc n3 (.cells #[.int .i64 2, .int .i64 x, .int .i64 0, .int .i64 0] 33)
    clear hb sy nx s3 n3 hsp him
    obtain ⟨_, g0, g1, g2, g3⟩ := id ny
    obtain ⟨_, e0, e1, e2, e3⟩ := id wx
    go_wp2_with fail
    refine (sameMail_none _).mono ?_
    rintro e w4 ⟨rfl, hb⟩
    clear g0 g1 g2 g3
    clear e0 e1 e2 e3
    have s4 := sc_next sz hb
    have n4 := sc_next ny hb
    have w4x := sc_next wx hb
    clear hb sz ny wx
    obtain ⟨_, g0, g1, g2, g3⟩ := id n4
    have has := fun w => implAsked_any (2, x, 0, 0) core line w
    rw [show mvd (2, x, 0, 0) (frm core line) (askM (2, x, 0, 0)) = ((2, x, 0, 0), 0, 0, 0) by rw [hf, mvd_do hok]; rfl] at has
    go_wp2_with fail
    refine (has _).mono ?_
    rintro e w5 ⟨tv, rfl, hb, ht⟩
    obtain rfl := told_none ht
    clear g0 g1 g2 g3
    have s5 := sc_next s4 hb
    have hvx : valOf ((2, x, 0, 0), (0 : Int), (0 : Int), (0 : Int)) = x := rfl
    rw [hvx]
    clear ht hb has s4 n4 w4x hvx
    have s6 := sc_alloc s5 (.cells #[.int .i64 2, .int .i64 x, .int .i64 0, .int .i64 0] 33)
    clear s5
    go_wp2
    go_ret
    exact ⟨rfl, s6.1⟩
  · obtain ⟨rfl, rfl⟩ := hs
    rw [hm] at hsp him
    clear hm
    have sx := sc_here hb1 st d 0 0 33
    clear hb1
    obtain ⟨_, c0, c1, c2, c3⟩ := id sx
    go_wp2_with fail
    refine (him _).mono ?_
    rintro e w2 ⟨tv, rfl, hb, ht⟩
    obtain ⟨A, hlA, rfl, a2⟩ := told_one ht (by intro h; cases h)
    clear ht
    clear c0 c1 c2 c3
    have s2 := sc_next sx hb
    have nx := sc_here s2.1 st d 2 x 33
    have sy := sc_alloc s2 (.cells #[.int .i64 st, .int .i64 d, .int .i64 2, .int .i64 x] 33)
    have ax := holds_alloc a2 (.cells #[.int .i64 st, .int .i64 d, .int .i64 2, .int .i64 x] 33)
    clear hb sx s2 a2
    obtain ⟨_, c0, c1, c2, c3⟩ := id sy
    go_wp2_with fail
    refine (hsp _).mono ?_
    rintro e w3 ⟨tv, rfl, hb, ht⟩
    obtain ⟨B, hlB, rfl, b3⟩ := told_one ht (by intro h; cases h)
    clear ht
    clear c0 c1 c2 c3
    have s3 := sc_next sy hb
    have n3 := sc_next nx hb
    have wx := sc_here s3.1 st d 2 x 33
    have sz := sc_alloc s3 (.cells #[.int .i64 st, .int .i64 d, .int .i64 2, .int .i64 x] 33)
    have ny := sc_alloc n3 (.cells #[.int .i64 st, .int .i64 d, .int .i64 2, .int .i64 x] 33)
    have a3 := ax.next hb
    have ay := holds_alloc a3 (.cells #[.int .i64 st, .int .i64 d, .int .i64 2, .int .i64 x] 33)
    have by_ := holds_alloc b3 (.cells #[.int .i64 st, .int .i64 d, .int .i64 2, .int .i64 x] 33)
    clear hb sy nx s3 n3 ax a3 b3 hsp him
    obtain ⟨_, g0, g1, g2, g3⟩ := id ny
    obtain ⟨_, e0, e1, e2, e3⟩ := id wx
    go_wp2_with fail
    refine (sameMail_one A B _ _ _ _ _ _ _ ay by_).mono ?_
    rintro e w4 ⟨rfl, hb⟩
    clear g0 g1 g2 g3
    clear e0 e1 e2 e3
    have s4 := sc_next sz hb
    have n4 := sc_next ny hb
    have w4x := sc_next wx hb
    have a4 := ay.next hb
    clear hb sz ny wx ay by_
    obtain ⟨_, g0, g1, g2, g3⟩ := id n4
    have has := fun w => implStored_any (st, d, 2, x) core line x w
    rw [show mvd (st, d, 2, x) (frm3 core line x) (storM x (st, d, 2, x)) = ((st, d, 2, x), 0, 0, 4) by rw [hf3, mvd_do hok, hag]] at has
    go_wp2_with fail
    refine (has _).mono ?_
    rintro e w5 ⟨tv, rfl, hb, ht⟩
    obtain rfl := told_none ht
    clear g0 g1 g2 g3
    have s5 := sc_next s4 hb
    have n5 := sc_next n4 hb
    have a5 := a4.next hb
    clear ht hb has s4 n4 w4x a4
    have s6 := sc_alloc s5 (.cells #[.int .i64 st, .int .i64 d, .int .i64 2, .int .i64 x] 33)
    have n6 := sc_alloc n5 (.cells #[.int .i64 st, .int .i64 d, .int .i64 2, .int .i64 x] 33)
    have a6 := holds_alloc a5 (.cells #[.int .i64 st, .int .i64 d, .int .i64 2, .int .i64 x] 33)
    clear s5 n5 a5
    obtain ⟨_, g0, g1, g2, g3⟩ := id n6
    go_wp2_with fail
    refine (implSlotOk_any _ _ _ _ _).mono ?_
    rintro e w7 ⟨rfl, hb⟩
    rw [show slB st d 2 x = true from hok]
    clear g0 g1 g2 g3
    have s7 := sc_next s6 hb
    have n7 := sc_next n6 hb
    have a7 := a6.next hb
    have hT := htab.below n7.1
    clear hb s6 n6 a6
    obtain ⟨_, g0, g1, g2, g3⟩ := id n7
    obtain ⟨_, c0, c1, c2, c3⟩ := id s7
    obtain ⟨_, q0, q1, q2, q3, q4, q5⟩ := a7.facts
    go_wp2_with fail
    refine (implOk_any _ _ _ _ _ _ _ hT).mono ?_
    rintro e w8 ⟨rfl, hb⟩
    rw [ask_right 2 (.inr rfl) hf]
    have n8 := sc_next n7 hb
    clear hb n7 hT q0 q1 q2 q3 q4 q5
    clear g0 g1 g2 g3
    clear c0 c1 c2 c3
    go_wp2
    go_ret
    exact ⟨rfl, n8.1⟩

/-- the door's own heap meets the condition -/
theorem door_met (os : Os) (args : Array Value) : laidMetH Tryd.prog Rows.fnStoredRow.laid ((World.doorLaid Tryd.prog 400 os).forCall (fun _ _ => 0) ⟨#[], args, []⟩).memory :=
  laidMetH_of_parts3 (fuel := 8) (laidMet_of_run' 8 (by kernel_rfl) (by kernel_rfl)) (by kernel_rfl) (by kernel_rfl)

set_option maxRecDepth 100000 in
theorem lifted (os : Os) (started : os.Started) (H : Type) (enc : TypeId × Value → H) :
    ReturnsInHanded {} Tryd.checked os 5 .any (fun w args => (Rows.fnStoredSpec.pre enc Tryd.prog Tryd.f5 [] false w args ∧ laidMetH Tryd.prog Rows.fnStoredRow.laid w) ∧ sizedMet enc Tryd.prog Tryd.f5 (OpenSpec.ofChange Rows.fnStoredSpec) false w args)
      (Rows.fnStoredSpec.post enc Tryd.prog Tryd.f5 false true false false) := by
  refine returnsInHanded_of_change_and (C := Tryd.checked) (X := fun w _ => laidMetH Tryd.prog Rows.fnStoredRow.laid w) (fun _ _ _ hh h => h.of_heap hh) own started (by kernel_rfl) Tryd.func5
    (ChangeSpec.witness_shaped (enc := enc) (C := Tryd.checked) (os := os) (X := fun w _ => laidMetH Tryd.prog Rows.fnStoredRow.laid w) false (World.doorLaid Tryd.prog 400 os) #[.slice none 0 0] 8 rfl (World.shaped_of_RefB (by kernel_rfl) (by kernel_rfl)) (by kernel_rfl) (by kernel_rfl) (by kernel_rfl) (door_met os _)) ?_
  intro W base args ds gs before hval0 hW _ _ hL _
  have hval : ∀ (j : Nat) t v, Tryd.f5.params[j]? = some t → args[j]? = some v → Value.okWide Tryd.prog W .any base t v := hval0
  have hW' := hW
  obtain ⟨p, q, hA0, hV, rfl, hfz, hnd⟩ := hW
  have hA : DataW.TrodAll enc Tryd.prog W 0 (fun _ => true) true Tryd.f5.params.toList args.toList ds p := hA0
  rw [Tryd.params5] at hA hval
  obtain ⟨v0, vs0, d0, ds0, p0, q0, hargs, rfl, rfl, h0, r0⟩ := trodAll_cons hA
  obtain ⟨rfl, rfl, rfl⟩ := trodAll_nil r0
  obtain rfl : args = #[v0] := by cases args; simp_all
  obtain ⟨a0, len0, cap0, rfl⟩ := okWide_slice Tryd.underlying22 (hval 0 22 v0 rfl rfl)
  have k0 := h0
  have lt0 : ∀ x ∈ p0, x.block < W.heap.size := by obtain ⟨m, hm⟩ := k0; exact DataW.trod_lt m _ _ _ hm
  obtain ⟨z0, w0⟩ : ∃ zs, IsRow .u8 W a0 len0 cap0 zs := by
    obtain ⟨fuel, hf⟩ := h0
    rcases open_ints Tryd.underlying22 Tryd.underlying5 (by kernel_rfl) hf with ⟨hcs, _⟩ | ⟨x, l, c, zs, hcs, _, hl, hm, hz, _, hcell, hwz⟩
    · simp [Value.cells] at hcs
      obtain ⟨rfl, rfl, rfl⟩ := hcs
      exact ⟨[], .inl ⟨rfl, rfl, rfl, rfl⟩⟩
    · simp [Value.cells] at hcs
      obtain ⟨rfl, rfl, rfl⟩ := hcs
      exact ⟨zs, .inr ⟨_, rfl, hl, hm, by simpa using hz, hcell, hwz⟩⟩
  obtain ⟨g, tt, cs, fuel, dv, pv, rfl, hg, htt, hvar, hd, rfl⟩ := trodVars_one hV
  clear hA0 hval0
  refine (walk a0 len0 cap0 W (row_bt w0) (tab_of_laid hL)).mono fun e W' ⟨he, bel⟩ => ?_
  subst he
  exact ⟨_, rfl, _, _, _, [], _, _, hW', trodAll_mk1 (shut_bool Tryd.underlying4 _), (trodAll_cons_mk (Below.trod laidOut (by kernel_rfl) (of_decide_eq_true (by kernel_rfl)) k0 bel lt0) trodAll_mk0), bel.trodVars laidOut (by kernel_rfl) hV, bel.frame _, fun h => by cases h⟩

theorem row_holds : Rows.FnStoredSaid :=
  OpenClaim.holds_of_wide 5 Tryd.f5 rfl rfl rfl rfl rfl rfl rfl ⟨rfl, rfl, rfl, rfl, rfl⟩ rfl rfl rfl rfl rfl (by kernel_rfl) Tryd.func5 (by kernel_rfl)
    (of_decide_eq_true (by kernel_rfl)) (by unfold Func.isWrapper; first | (rw [if_pos (by decide +kernel)]; kernel_rfl) | (rw [if_neg (by decide +kernel)]; exact ⟨rfl, rfl⟩))
    (fun os started H enc _ => lifted os started H enc)
end Go.Proofs.YtjhaloeahidplaaDoor.fnStored

namespace Go.Proofs.YtjhaloeahidplaaDoor
theorem fnStored_holds : Rows.FnStoredCardSaid :=
  Claim7.holds_tied_plain_at .later [] [.data] true Rows.fnStoredCard.stood.harness true
    fnStored.row_holds (fun _ h => by cases h) (by kernel_rfl) (fun _ h => by cases h) fnStored_row_tie rfl ⟨rfl, rfl⟩ (by kernel_rfl) rfl
    (fun f fn hf hfn => by
      obtain rfl : f = 5 := Option.some.inj ((show Tryd.prog.funcNamed "loop.example/g00384/laws.FnStored" = some 5 by kernel_rfl).symm.trans hf) |>.symm
      obtain rfl : fn = Tryd.f5 := (Option.some.inj (Tryd.func5.symm.trans hfn)).symm
      exact ⟨by kernel_rfl, fun j t ht => by
        rw [Tryd.params5] at ht
        have hm : t ∈ [22] := by simpa using Array.mem_of_getElem? ht
        have hall : ([22].all fun u => !Tryd.prog.wantsStandIn u) = true := by kernel_rfl
        exact (show Tryd.prog.wantsStandIn t = false by simpa using List.all_eq_true.1 hall t hm)⟩)
    (by kernel_rfl)
end Go.Proofs.YtjhaloeahidplaaDoor
