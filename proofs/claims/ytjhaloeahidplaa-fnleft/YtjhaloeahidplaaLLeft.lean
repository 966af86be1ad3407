/- Proved: for every slice of bytes, of whatever length, laws.FnLeft returns true and leaves its argument as it read. No condition. -/
import Derived.Test.YtjhaloeahidplaaRows
import Derived.Test.YtjhaloeahidplaaRdU
import Derived.WalkKit
import Derived.ProofKit
import Derived.OpenShut
import Derived.ShutString
import Derived.ChangeOld
import Derived.Below
import Derived.OpenVars
namespace Go.Proofs.Ytjhaloeahidplaa.fnLeft
open Go.ChangeShapes Go.WideShapes Go.ChangeAt Go.WideMaps Go.WideElems Go.RowKit
set_option linter.unusedVariables false
set_option linter.unusedSimpArgs false

theorem own : ownKnob Try.prog.godebug = none := by kernel_rfl
theorem laidOut : laidOutB Try.prog = true := by kernel_rfl

def IsRow (k : IntKind) (w : World) (a : Option Addr) (len cap : Nat) (zs : List Int) : Prop :=
  (a = none ∧ len = 0 ∧ cap = 0 ∧ zs = []) ∨
  ∃ x, a = some x ∧ len ≤ cap ∧ cap ≤ maxLen ∧ zs.length = cap ∧ (∀ i, i < zs.length → w.cell? (x.add i) = some (.int k (zs.getD i 0))) ∧ ∀ n ∈ zs, (Lit.int k n).wf = true

theorem row_bt {w : World} {a : Option Addr} {len cap : Nat} {z : List Int} (h : IsRow .u8 w a len cap z) : Bt w a len := by
  intro h0
  rcases h with ⟨rfl, rfl, rfl, rfl⟩ | ⟨x, rfl, hl, hm, hz, hcell, hwf⟩
  · exact absurd h0 (by simp)
  · obtain ⟨b, off, spot⟩ := x
    have hc := hcell 0 (by omega)
    have hspot : spot = none := by simpa [Addr.add] using World.cell?_spot hc
    subst hspot
    refine ⟨b, off, rfl, fun j hj => ?_⟩
    have hcj := hcell j (by omega)
    rw [addr_add] at hcj
    have hj' : j < z.length := by omega
    have e : z.getD j 0 = z[j] := by simp [hj']
    have hw := bounds_u8 (hwf z[j] (List.getElem_mem hj'))
    exact ⟨z.getD j 0, by rw [e]; exact hw.1, by rw [e]; exact hw.2, hcj⟩

theorem left_cases (st d wt v core line : Int) : (mvd (st, d, wt, v) (frm core line) (leftM (st, d, wt, v)) = ((0, 0, 0, 0), 0, 0, 1)) ∨
    (∃ c, (c != 0) = true ∧ (c == 1) = false ∧ mvd (st, d, wt, v) (frm core line) (leftM (st, d, wt, v)) = ((st, d, wt, v), 0, 0, c)) ∨
    ((st = 1 ∧ wt = 0 ∧ v = 0) ∧ frm core line = true ∧ mvd (st, d, wt, v) (frm core line) (leftM (st, d, wt, v)) = ((0, 0, 0, 0), 0, 0, 0)) ∨
    ((st = 2 ∧ wt = 0 ∧ v = 0) ∧ frm core line = true ∧ okS (3, d, 0, 0) ∧ mvd (st, d, wt, v) (frm core line) (leftM (st, d, wt, v)) = ((3, d, 0, 0), 3, d, 0)) := by
  cases h : slB st d wt v with
  | false => exact .inl (mvd_no h)
  | true =>
    cases hf : frm core line with
    | false => exact .inr (.inl ⟨2, rfl, rfl, mvd_fm h⟩)
    | true =>
      rw [mvd_do h]
      obtain ⟨h0, hs⟩ := slB_cases h
      rcases hs with ⟨rfl, rfl, rfl, rfl⟩ | ⟨rfl, rfl, rfl, rfl⟩ | ⟨rfl, rfl, rfl⟩ | ⟨rfl, rfl, rfl⟩ | ⟨rfl, rfl⟩ | ⟨rfl, rfl, rfl⟩ | ⟨rfl, rfl, rfl⟩
      · exact .inr (.inl ⟨4, rfl, rfl, rfl⟩)
      · exact .inr (.inl ⟨4, rfl, rfl, rfl⟩)
      · exact .inr (.inl ⟨4, rfl, rfl, rfl⟩)
      · exact .inr (.inr (.inl ⟨⟨rfl, rfl, rfl⟩, rfl, rfl⟩))
      · exact .inr (.inl ⟨4, rfl, rfl, rfl⟩)
      · exact .inr (.inr (.inr ⟨⟨rfl, rfl, rfl⟩, rfl, slB_of h0 (by simp), rfl⟩))
      · exact .inr (.inl ⟨4, rfl, rfl, rfl⟩)

set_option maxHeartbeats 8000000 in
theorem walk (a0 : Option Addr) (len0 cap0 : Nat) (w : World) (hs0 : Bt w a0 len0) :
    Calls Try.prog 3 #[.slice a0 len0 cap0] w fun e w' => e = .returned (.bool true) ∧ Below w.heap.size w w' := by
  by_cases hbig : (1048576 : Int) < (len0 : Int)
  · go_enter Try.func3, Try.ntmps3
    go_wp2
    go_ret
    exact ⟨rfl, Below.refl _ _⟩
  have hb : len0 ≤ 1048576 := by omega
  go_enter Try.func3, Try.ntmps3
  go_wp2_with (first | (go_at_call 6; go_in) | fail)
  refine (drawLeft_any a0 len0 cap0 _ hs0 hb).mono ?_
  rintro e w1 ⟨st, d, wt, v, core, line, rfl, hb1⟩
  clear hs0 hb hbig
  have hsp := fun w => specLeft_any (st, d, wt, v) core line w
  have him := fun w => implLeft_any (st, d, wt, v) core line w
  rcases left_cases st d wt v core line with hm | ⟨c, h0, h1, hm⟩ | ⟨hs, hf, hm⟩ | ⟨hs, hf, hok, hm⟩
  · rw [hm] at hsp him
    have sx := sc_here hb1 st d wt v 25
    clear hb1
    obtain ⟨_, c0, c1, c2, c3⟩ := id sx
    go_wp2_with fail
    refine (him _).mono ?_
    rintro e w2 ⟨tv, rfl, hb, ht⟩
    obtain rfl := told_none ht
    clear ht
    clear c0 c1 c2 c3
    have s2 := sc_next sx hb
    have nx := sc_here s2.1 0 0 0 0 25
    have sy := sc_alloc s2 (.cells #[.int .i64 0, .int .i64 0, .int .i64 0, .int .i64 0] 25)
    clear hb sx s2
    obtain ⟨_, c0, c1, c2, c3⟩ := id sy
    go_wp2_with fail
    refine (hsp _).mono ?_
    rintro e w3 ⟨tv, rfl, hb, ht⟩
    obtain rfl := told_none ht
    clear ht
    clear c0 c1 c2 c3
    have s3 := sc_next sy hb
    have n3 := sc_next nx hb
    have wx := sc_here s3.1 0 0 0 0 25
    have sz := sc_alloc s3 (.cells #[.int .i64 0, .int .i64 0, .int .i64 0, .int .i64 0] 25)
    have ny := sc_alloc n3 (.cells #[.int .i64 0, .int .i64 0, .int .i64 0, .int .i64 0] 25)
    clear hb sy nx s3 n3 hsp him
    obtain ⟨_, g0, g1, g2, g3⟩ := id ny
    obtain ⟨_, e0, e1, e2, e3⟩ := id wx
    go_wp2_with fail
    refine (sameMail_none _).mono ?_
    rintro e w4 ⟨rfl, hb⟩
    clear g0 g1 g2 g3
    clear e0 e1 e2 e3
    have s4 := sc_next sz hb
    have n4 := sc_next ny hb
    have w4x := sc_next wx hb
    clear hb sz ny wx
    obtain ⟨_, g0, g1, g2, g3⟩ := id n4
    obtain ⟨_, e0, e1, e2, e3⟩ := id w4x
    go_wp2_with fail
    refine (sameMail_none _).mono ?_
    rintro e w5 ⟨rfl, hb⟩
    have s5 := sc_next s4 hb
    clear hb
    go_wp2
    go_ret
    exact ⟨rfl, s5.1⟩
  · rw [hm] at hsp him
    have sx := sc_here hb1 st d wt v 25
    clear hb1
    obtain ⟨_, c0, c1, c2, c3⟩ := id sx
    go_wp2_with fail
    refine (him _).mono ?_
    rintro e w2 ⟨tv, rfl, hb, ht⟩
    obtain rfl := told_none ht
    clear ht
    clear c0 c1 c2 c3
    have s2 := sc_next sx hb
    have nx := sc_here s2.1 st d wt v 25
    have sy := sc_alloc s2 (.cells #[.int .i64 st, .int .i64 d, .int .i64 wt, .int .i64 v] 25)
    clear hb sx s2
    obtain ⟨_, c0, c1, c2, c3⟩ := id sy
    go_wp2_with fail
    refine (hsp _).mono ?_
    rintro e w3 ⟨tv, rfl, hb, ht⟩
    obtain rfl := told_none ht
    clear ht
    clear c0 c1 c2 c3
    have s3 := sc_next sy hb
    have n3 := sc_next nx hb
    have wx := sc_here s3.1 st d wt v 25
    have sz := sc_alloc s3 (.cells #[.int .i64 st, .int .i64 d, .int .i64 wt, .int .i64 v] 25)
    have ny := sc_alloc n3 (.cells #[.int .i64 st, .int .i64 d, .int .i64 wt, .int .i64 v] 25)
    clear hb sy nx s3 n3 hsp him
    obtain ⟨_, g0, g1, g2, g3⟩ := id ny
    obtain ⟨_, e0, e1, e2, e3⟩ := id wx
    go_wp2_with fail
    refine (sameMail_none _).mono ?_
    rintro e w4 ⟨rfl, hb⟩
    clear g0 g1 g2 g3
    clear e0 e1 e2 e3
    have s4 := sc_next sz hb
    have n4 := sc_next ny hb
    have w4x := sc_next wx hb
    clear hb sz ny wx
    obtain ⟨_, g0, g1, g2, g3⟩ := id n4
    obtain ⟨_, c0, c1, c2, c3⟩ := id s4
    go_wp2
    go_ret
    exact ⟨rfl, s4.1⟩
  · obtain ⟨rfl, rfl, rfl⟩ := hs
    rw [hm] at hsp him
    have sx := sc_here hb1 1 d 0 0 25
    clear hb1
    obtain ⟨_, c0, c1, c2, c3⟩ := id sx
    go_wp2_with fail
    refine (him _).mono ?_
    rintro e w2 ⟨tv, rfl, hb, ht⟩
    obtain rfl := told_none ht
    clear ht
    clear c0 c1 c2 c3
    have s2 := sc_next sx hb
    have nx := sc_here s2.1 0 0 0 0 25
    have sy := sc_alloc s2 (.cells #[.int .i64 0, .int .i64 0, .int .i64 0, .int .i64 0] 25)
    clear hb sx s2
    obtain ⟨_, c0, c1, c2, c3⟩ := id sy
    go_wp2_with fail
    refine (hsp _).mono ?_
    rintro e w3 ⟨tv, rfl, hb, ht⟩
    obtain rfl := told_none ht
    clear ht
    clear c0 c1 c2 c3
    have s3 := sc_next sy hb
    have n3 := sc_next nx hb
    have wx := sc_here s3.1 0 0 0 0 25
    have sz := sc_alloc s3 (.cells #[.int .i64 0, .int .i64 0, .int .i64 0, .int .i64 0] 25)
    have ny := sc_alloc n3 (.cells #[.int .i64 0, .int .i64 0, .int .i64 0, .int .i64 0] 25)
    clear hb sy nx s3 n3 hsp him
    obtain ⟨_, g0, g1, g2, g3⟩ := id ny
    obtain ⟨_, e0, e1, e2, e3⟩ := id wx
    go_wp2_with fail
    refine (sameMail_none _).mono ?_
    rintro e w4 ⟨rfl, hb⟩
    clear g0 g1 g2 g3
    clear e0 e1 e2 e3
    have s4 := sc_next sz hb
    have n4 := sc_next ny hb
    have w4x := sc_next wx hb
    clear hb sz ny wx
    obtain ⟨_, g0, g1, g2, g3⟩ := id n4
    have has := fun w => implAsked_any (0, 0, 0, 0) core line w
    rw [show mvd (0, 0, 0, 0) (frm core line) (askM (0, 0, 0, 0)) = ((0, 0, 1, 0), 1, 0, 3) by rw [hf, mvd_do ok0]; rfl] at has
    go_wp2_with fail
    refine (has _).mono ?_
    rintro e w5 ⟨tv, rfl, hb, ht⟩
    clear g0 g1 g2 g3
    have s5 := sc_next s4 hb
    have n5 := sc_next n4 hb
    obtain ⟨Q, hlQ, rfl, q5⟩ := told_one ht (by decide)
    clear q5
    clear ht hb has s4 n4 w4x
    have s6 := sc_alloc s5 (.cells #[.int .i64 0, .int .i64 0, .int .i64 1, .int .i64 0] 25)
    have n6 := sc_alloc n5 (.cells #[.int .i64 0, .int .i64 0, .int .i64 1, .int .i64 0] 25)
    clear s5 n5
    obtain ⟨_, c0, c1, c2, c3⟩ := id s6
    obtain ⟨_, g0, g1, g2, g3⟩ := id n6
    have hx : slB 0 0 0 0 = true := ok0
    go_wp2
    refine wp_region_any (by kernel_rfl) ?_
    change wpAny _ _ _ _ _ _ _ (World.drew _)
    refine wpAny_ready (rs := [0]) (by kernel_rfl) (by simp) ?_
    refine AllReady.cons rfl (fun K hK => ?_) AllReady.nil
    go_simp
    refine hK _ _ ?_
    clear hK K
    try simp only [Act.put, List.getElem_toArray, List.getElem_cons_zero, List.getElem_cons_succ, List.setIfInBounds_toArray, List.set_cons_zero, List.set_cons_succ]
    refine wpAny_ready (rs := [1]) (by kernel_rfl) (by simp) ?_
    refine AllReady.cons rfl (fun K hK => ?_) AllReady.nil
    go_simp
    refine (implSlotOk_any _ _ _ _ _).mono ?_
    rintro e w7 ⟨rfl, hb7⟩
    rw [hx]
    have s7 := sc_next (sc_drew s6) hb7
    clear hb7
    refine hK _ _ ?_
    clear hK K
    try simp only [Act.put, List.getElem_toArray, List.getElem_cons_zero, List.getElem_cons_succ, List.setIfInBounds_toArray, List.set_cons_zero, List.set_cons_succ]
    refine wpAny_take (i := 2) (v := .bool true) rfl (by kernel_rfl) (by kernel_rfl) (by kernel_rfl) (fun _ _ _ h => h) (Or.inl ⟨by rfl, fun w => by go_simp⟩) ?_
    try simp only [Act.put, List.getElem_toArray, List.getElem_cons_zero, List.getElem_cons_succ, List.setIfInBounds_toArray, List.set_cons_zero, List.set_cons_succ]
    refine wpAny_take (i := 3) (v := .int .i64 3) rfl (by kernel_rfl) (by kernel_rfl) (by kernel_rfl) (fun _ _ _ h => h) (Or.inl ⟨by rfl, fun w => by go_simp⟩) ?_
    try simp only [Act.put, List.getElem_toArray, List.getElem_cons_zero, List.getElem_cons_succ, List.setIfInBounds_toArray, List.set_cons_zero, List.set_cons_succ]
    refine wpAny_take (i := 4) (v := .bool true) rfl (by kernel_rfl) (by kernel_rfl) (by kernel_rfl) (fun _ _ _ h => h) (Or.inl ⟨by rfl, fun w => by go_simp⟩) ?_
    try simp only [Act.put, List.getElem_toArray, List.getElem_cons_zero, List.getElem_cons_succ, List.setIfInBounds_toArray, List.set_cons_zero, List.set_cons_succ]
    refine wpAny_take (i := 5) (v := .bool true) rfl (by kernel_rfl) (by kernel_rfl) (by kernel_rfl) (fun _ _ _ h => h) (Or.inl ⟨by rfl, fun w => by go_simp⟩) ?_
    try simp only [Act.put, List.getElem_toArray, List.getElem_cons_zero, List.getElem_cons_succ, List.setIfInBounds_toArray, List.set_cons_zero, List.set_cons_succ]
    refine wpAny_take (i := 6) (v := .bool true) rfl (by kernel_rfl) (by kernel_rfl) (by kernel_rfl) (fun _ _ _ h => h) (Or.inl ⟨by rfl, fun w => by go_simp⟩) ?_
    try simp only [Act.put, List.getElem_toArray, List.getElem_cons_zero, List.getElem_cons_succ, List.setIfInBounds_toArray, List.set_cons_zero, List.set_cons_succ]
    refine wpAny_take (i := 7) (v := .bool false) rfl (by kernel_rfl) (by kernel_rfl) (by kernel_rfl) (fun _ _ _ h => h) (Or.inl ⟨by rfl, fun w => by go_simp⟩) ?_
    try simp only [Act.put, List.getElem_toArray, List.getElem_cons_zero, List.getElem_cons_succ, List.setIfInBounds_toArray, List.set_cons_zero, List.set_cons_succ]
    refine wpAny_take (i := 8) (v := .slice none 0 0) rfl (by kernel_rfl) (by kernel_rfl) (by kernel_rfl) (fun _ _ _ h => h) (Or.inl ⟨by rfl, fun w => by go_simp⟩) ?_
    try simp only [Act.put, List.getElem_toArray, List.getElem_cons_zero, List.getElem_cons_succ, List.setIfInBounds_toArray, List.set_cons_zero, List.set_cons_succ]
    refine wpAny_take (i := 9) (v := .int .i64 0) rfl (by kernel_rfl) (by kernel_rfl) (by kernel_rfl) (fun _ _ _ h => h) (Or.inl ⟨by rfl, fun w => by go_simp⟩) ?_
    try simp only [Act.put, List.getElem_toArray, List.getElem_cons_zero, List.getElem_cons_succ, List.setIfInBounds_toArray, List.set_cons_zero, List.set_cons_succ]
    refine wpAny_take (i := 10) (v := .bool false) rfl (by kernel_rfl) (by kernel_rfl) (by kernel_rfl) (fun _ _ _ h => h) (Or.inl ⟨by rfl, fun w => by go_simp⟩) ?_
    try simp only [Act.put, List.getElem_toArray, List.getElem_cons_zero, List.getElem_cons_succ, List.setIfInBounds_toArray, List.set_cons_zero, List.set_cons_succ]
    refine wpAny_take (i := 11) (v := .bool true) rfl (by kernel_rfl) (by kernel_rfl) (by kernel_rfl) (fun _ _ _ h => h) (Or.inl ⟨by rfl, fun w => by go_simp⟩) ?_
    try simp only [Act.put, List.getElem_toArray, List.getElem_cons_zero, List.getElem_cons_succ, List.setIfInBounds_toArray, List.set_cons_zero, List.set_cons_succ]
    refine wpAny_take (i := 12) (v := .bool true) rfl (by kernel_rfl) (by kernel_rfl) (by kernel_rfl) (fun _ _ _ h => h) (Or.inl ⟨by rfl, fun w => by go_simp⟩) ?_
    try simp only [Act.put, List.getElem_toArray, List.getElem_cons_zero, List.getElem_cons_succ, List.setIfInBounds_toArray, List.set_cons_zero, List.set_cons_succ]
    refine wpAny_take (i := 13) (v := .bool true) rfl (by kernel_rfl) (by kernel_rfl) (by kernel_rfl) (fun _ _ _ h => h) (Or.inl ⟨by rfl, fun w => by go_simp⟩) ?_
    try simp only [Act.put, List.getElem_toArray, List.getElem_cons_zero, List.getElem_cons_succ, List.setIfInBounds_toArray, List.set_cons_zero, List.set_cons_succ]
    refine wpAny_take (i := 14) (v := .bool false) rfl (by kernel_rfl) (by kernel_rfl) (by kernel_rfl) (fun _ _ _ h => h) (Or.inl ⟨by rfl, fun w => by go_simp⟩) ?_
    try simp only [Act.put, List.getElem_toArray, List.getElem_cons_zero, List.getElem_cons_succ, List.setIfInBounds_toArray, List.set_cons_zero, List.set_cons_succ]
    refine wpAny_take (i := 15) (v := .bool true) rfl (by kernel_rfl) (by kernel_rfl) (by kernel_rfl) (fun _ _ _ h => h) (Or.inl ⟨by rfl, fun w => by go_simp⟩) ?_
    try simp only [Act.put, List.getElem_toArray, List.getElem_cons_zero, List.getElem_cons_succ, List.setIfInBounds_toArray, List.set_cons_zero, List.set_cons_succ]
    refine wpAny_take (i := 16) (v := .bool true) rfl (by kernel_rfl) (by kernel_rfl) (by kernel_rfl) (fun _ _ _ h => h) (Or.inl ⟨by rfl, fun w => by go_simp⟩) ?_
    try simp only [Act.put, List.getElem_toArray, List.getElem_cons_zero, List.getElem_cons_succ, List.setIfInBounds_toArray, List.set_cons_zero, List.set_cons_succ]
    refine wpAny_take (i := 17) (v := undef) rfl (by kernel_rfl) (by kernel_rfl) (by kernel_rfl) (fun _ _ _ h => h) (Or.inr ⟨by rfl, rfl⟩) ?_
    try simp only [Act.put, List.getElem_toArray, List.getElem_cons_zero, List.getElem_cons_succ, List.setIfInBounds_toArray, List.set_cons_zero, List.set_cons_succ]
    refine wpAny_take (i := 18) (v := undef) rfl (by kernel_rfl) (by kernel_rfl) (by kernel_rfl) (fun _ _ _ h => h) (Or.inr ⟨by rfl, rfl⟩) ?_
    try simp only [Act.put, List.getElem_toArray, List.getElem_cons_zero, List.getElem_cons_succ, List.setIfInBounds_toArray, List.set_cons_zero, List.set_cons_succ]
    refine wpAny_take (i := 19) (v := undef) rfl (by kernel_rfl) (by kernel_rfl) (by kernel_rfl) (fun _ _ _ h => h) (Or.inr ⟨by rfl, rfl⟩) ?_
    try simp only [Act.put, List.getElem_toArray, List.getElem_cons_zero, List.getElem_cons_succ, List.setIfInBounds_toArray, List.set_cons_zero, List.set_cons_succ]
    refine wpAny_take (i := 20) (v := undef) rfl (by kernel_rfl) (by kernel_rfl) (by kernel_rfl) (fun _ _ _ h => h) (Or.inr ⟨by rfl, rfl⟩) ?_
    try simp only [Act.put, List.getElem_toArray, List.getElem_cons_zero, List.getElem_cons_succ, List.setIfInBounds_toArray, List.set_cons_zero, List.set_cons_succ]
    refine wpAny_take (i := 21) (v := undef) rfl (by kernel_rfl) (by kernel_rfl) (by kernel_rfl) (fun _ _ _ h => h) (Or.inr ⟨by rfl, rfl⟩) ?_
    try simp only [Act.put, List.getElem_toArray, List.getElem_cons_zero, List.getElem_cons_succ, List.setIfInBounds_toArray, List.set_cons_zero, List.set_cons_succ]
    refine wpAny_take (i := 22) (v := undef) rfl (by kernel_rfl) (by kernel_rfl) (by kernel_rfl) (fun _ _ _ h => h) (Or.inr ⟨by rfl, rfl⟩) ?_
    try simp only [Act.put, List.getElem_toArray, List.getElem_cons_zero, List.getElem_cons_succ, List.setIfInBounds_toArray, List.set_cons_zero, List.set_cons_succ]
    refine wpAny_take (i := 23) (v := undef) rfl (by kernel_rfl) (by kernel_rfl) (by kernel_rfl) (fun _ _ _ h => h) (Or.inr ⟨by rfl, rfl⟩) ?_
    try simp only [Act.put, List.getElem_toArray, List.getElem_cons_zero, List.getElem_cons_succ, List.setIfInBounds_toArray, List.set_cons_zero, List.set_cons_succ]
    refine wpAny_take (i := 24) (v := undef) rfl (by kernel_rfl) (by kernel_rfl) (by kernel_rfl) (fun _ _ _ h => h) (Or.inr ⟨by rfl, rfl⟩) ?_
    try simp only [Act.put, List.getElem_toArray, List.getElem_cons_zero, List.getElem_cons_succ, List.setIfInBounds_toArray, List.set_cons_zero, List.set_cons_succ]
    refine wpAny_take (i := 25) (v := undef) rfl (by kernel_rfl) (by kernel_rfl) (by kernel_rfl) (fun _ _ _ h => h) (Or.inr ⟨by rfl, rfl⟩) ?_
    try simp only [Act.put, List.getElem_toArray, List.getElem_cons_zero, List.getElem_cons_succ, List.setIfInBounds_toArray, List.set_cons_zero, List.set_cons_succ]
    refine wpAny_take (i := 26) (v := undef) rfl (by kernel_rfl) (by kernel_rfl) (by kernel_rfl) (fun _ _ _ h => h) (Or.inr ⟨by rfl, rfl⟩) ?_
    try simp only [Act.put, List.getElem_toArray, List.getElem_cons_zero, List.getElem_cons_succ, List.setIfInBounds_toArray, List.set_cons_zero, List.set_cons_succ]
    refine wpAny_take (i := 27) (v := undef) rfl (by kernel_rfl) (by kernel_rfl) (by kernel_rfl) (fun _ _ _ h => h) (Or.inr ⟨by rfl, rfl⟩) ?_
    try simp only [Act.put, List.getElem_toArray, List.getElem_cons_zero, List.getElem_cons_succ, List.setIfInBounds_toArray, List.set_cons_zero, List.set_cons_succ]
    refine wpAny_take (i := 28) (v := undef) rfl (by kernel_rfl) (by kernel_rfl) (by kernel_rfl) (fun _ _ _ h => h) (Or.inr ⟨by rfl, rfl⟩) ?_
    try simp only [Act.put, List.getElem_toArray, List.getElem_cons_zero, List.getElem_cons_succ, List.setIfInBounds_toArray, List.set_cons_zero, List.set_cons_succ]
    refine wpAny_take (i := 29) (v := undef) rfl (by kernel_rfl) (by kernel_rfl) (by kernel_rfl) (fun _ _ _ h => h) (Or.inr ⟨by rfl, rfl⟩) ?_
    try simp only [Act.put, List.getElem_toArray, List.getElem_cons_zero, List.getElem_cons_succ, List.setIfInBounds_toArray, List.set_cons_zero, List.set_cons_succ]
    refine wpAny_take (i := 30) (v := undef) rfl (by kernel_rfl) (by kernel_rfl) (by kernel_rfl) (fun _ _ _ h => h) (Or.inr ⟨by rfl, rfl⟩) ?_
    try simp only [Act.put, List.getElem_toArray, List.getElem_cons_zero, List.getElem_cons_succ, List.setIfInBounds_toArray, List.set_cons_zero, List.set_cons_succ]
    refine wpAny_take (i := 31) (v := .bool true) rfl (by kernel_rfl) (by kernel_rfl) (by kernel_rfl) (fun _ _ _ h => h) (Or.inl ⟨by rfl, fun w => by go_simp⟩) ?_
    try simp only [Act.put, List.getElem_toArray, List.getElem_cons_zero, List.getElem_cons_succ, List.setIfInBounds_toArray, List.set_cons_zero, List.set_cons_succ]
    refine wpAny_take (i := 32) (v := .bool true) rfl (by kernel_rfl) (by kernel_rfl) (by kernel_rfl) (fun _ _ _ h => h) (Or.inl ⟨by rfl, fun w => by go_simp⟩) ?_
    try simp only [Act.put, List.getElem_toArray, List.getElem_cons_zero, List.getElem_cons_succ, List.setIfInBounds_toArray, List.set_cons_zero, List.set_cons_succ]
    refine wpAny_take (i := 33) (v := .bool true) rfl (by kernel_rfl) (by kernel_rfl) (by kernel_rfl) (fun _ _ _ h => h) (Or.inl ⟨by rfl, fun w => by go_simp⟩) ?_
    try simp only [Act.put, List.getElem_toArray, List.getElem_cons_zero, List.getElem_cons_succ, List.setIfInBounds_toArray, List.set_cons_zero, List.set_cons_succ]
    refine wpAny_done (by kernel_rfl) ?_ _
    all_goals go_wp2
    all_goals go_ret
    exact ⟨rfl, s7.1⟩
  · obtain ⟨rfl, rfl, rfl⟩ := hs
    rw [hm] at hsp him
    have sx := sc_here hb1 2 d 0 0 25
    clear hb1
    obtain ⟨_, c0, c1, c2, c3⟩ := id sx
    go_wp2_with fail
    refine (him _).mono ?_
    rintro e w2 ⟨tv, rfl, hb, ht⟩
    obtain ⟨A, hlA, rfl, a2⟩ := told_one ht (by intro h; cases h)
    clear ht
    clear c0 c1 c2 c3
    have s2 := sc_next sx hb
    have nx := sc_here s2.1 3 d 0 0 25
    have sy := sc_alloc s2 (.cells #[.int .i64 3, .int .i64 d, .int .i64 0, .int .i64 0] 25)
    have ax := holds_alloc a2 (.cells #[.int .i64 3, .int .i64 d, .int .i64 0, .int .i64 0] 25)
    clear hb sx s2 a2
    obtain ⟨_, c0, c1, c2, c3⟩ := id sy
    go_wp2_with fail
    refine (hsp _).mono ?_
    rintro e w3 ⟨tv, rfl, hb, ht⟩
    obtain ⟨B, hlB, rfl, b3⟩ := told_one ht (by intro h; cases h)
    clear ht
    clear c0 c1 c2 c3
    have s3 := sc_next sy hb
    have n3 := sc_next nx hb
    have wx := sc_here s3.1 3 d 0 0 25
    have sz := sc_alloc s3 (.cells #[.int .i64 3, .int .i64 d, .int .i64 0, .int .i64 0] 25)
    have ny := sc_alloc n3 (.cells #[.int .i64 3, .int .i64 d, .int .i64 0, .int .i64 0] 25)
    have a3 := ax.next hb
    have ay := holds_alloc a3 (.cells #[.int .i64 3, .int .i64 d, .int .i64 0, .int .i64 0] 25)
    have by_ := holds_alloc b3 (.cells #[.int .i64 3, .int .i64 d, .int .i64 0, .int .i64 0] 25)
    clear hb sy nx s3 n3 ax a3 b3 hsp him
    obtain ⟨_, g0, g1, g2, g3⟩ := id ny
    obtain ⟨_, e0, e1, e2, e3⟩ := id wx
    go_wp2_with fail
    refine (sameMail_one A B _ _ _ _ _ _ _ ay by_).mono ?_
    rintro e w4 ⟨rfl, hb⟩
    clear g0 g1 g2 g3
    clear e0 e1 e2 e3
    have s4 := sc_next sz hb
    have n4 := sc_next ny hb
    have w4x := sc_next wx hb
    have a4 := ay.next hb
    clear hb sz ny wx ay by_
    obtain ⟨_, g0, g1, g2, g3⟩ := id n4
    have has := fun w => implAsked_any (3, d, 0, 0) core line w
    rw [show mvd (3, d, 0, 0) (frm core line) (askM (3, d, 0, 0)) = ((3, d, 0, 0), 0, 0, 4) by rw [hf, mvd_do hok]; rfl] at has
    go_wp2_with fail
    refine (has _).mono ?_
    rintro e w5 ⟨tv, rfl, hb, ht⟩
    clear g0 g1 g2 g3
    have s5 := sc_next s4 hb
    have n5 := sc_next n4 hb
    have a5 := a4.next hb
    obtain rfl := told_none ht
    clear ht hb has s4 n4 w4x a4
    have s6 := sc_alloc s5 (.cells #[.int .i64 3, .int .i64 d, .int .i64 0, .int .i64 0] 25)
    have n6 := sc_alloc n5 (.cells #[.int .i64 3, .int .i64 d, .int .i64 0, .int .i64 0] 25)
    have a6 := holds_alloc a5 (.cells #[.int .i64 3, .int .i64 d, .int .i64 0, .int .i64 0] 25)
    clear s5 n5 a5
    obtain ⟨_, c0, c1, c2, c3⟩ := id s6
    obtain ⟨_, g0, g1, g2, g3⟩ := id n6
    obtain ⟨_, h0, h1, h2, h3, h4, h5⟩ := a6.facts
    have hx : slB 3 d 0 0 = true := hok
    go_wp2
    go_region_held3 (fun w' => Below w.heap.size w w' ∧ w'.cell? ⟨w2.heap.size, 0, none⟩ = some (.int .i64 3) ∧ w'.cell? ⟨w2.heap.size, 1, none⟩ = some (.int .i64 d) ∧ w'.cell? ⟨w2.heap.size, 2, none⟩ = some (.int .i64 0) ∧ w'.cell? ⟨w2.heap.size, 3, none⟩ = some (.int .i64 0) ∧ w'.cell? ⟨w1.heap.size, 1, none⟩ = some (.int .i64 d) ∧ w'.cell? ⟨A, 0, none⟩ = some (.int .i64 3) ∧ w'.cell? ⟨A, 5, none⟩ = some (.int .i64 d)) (first | exact ⟨s6.1.drew, g0, g1, g2, g3, c1, h0, h5⟩ | exact keep7 (by assumption) (by assumption)) (first | (go_at_call 12; refine (implSlotOk_any _ _ _ _ _).mono ?_; rintro e w7 ⟨rfl, hb7⟩; rw [hx]))
    all_goals go_wp2
    all_goals go_ret
    rename_i hH
    exact ⟨rfl, hH.1⟩

set_option maxRecDepth 100000 in
theorem lifted (os : Os) (started : os.Started) (H : Type) (enc : TypeId × Value → H) :
    ReturnsInHanded {} Try.checked os 3 .any (Rows.fnLeftSpec.pre6 enc Try.prog Try.f3 Rows.fnLeftRow.domain false) (Rows.fnLeftSpec.post enc Try.prog Try.f3 false true false false) := by
  refine returnsInHanded_of_change (C := Try.checked) own started (by kernel_rfl) Try.func3
    (ChangeSpec.witness6 (enc := enc) (C := Try.checked) false ⟨#[], #[.slice none 0 0], []⟩ 8 (by kernel_rfl) (by kernel_rfl) (by kernel_rfl) (by kernel_rfl)) ?_
  intro W base args ds gs before hval0 hW hcnd _
  have hval : ∀ (j : Nat) t v, Try.f3.params[j]? = some t → args[j]? = some v → Value.okWide Try.prog W .any base t v := hval0
  have hW' := hW
  obtain ⟨p, q, hA0, hV, rfl, hfz, hnd⟩ := hW
  have hA : DataW.TrodAll enc Try.prog W 0 (fun _ => true) true Try.f3.params.toList args.toList ds p := hA0
  rw [Try.params3] at hA hval
  obtain ⟨v0, vs0, d0, ds0, p0, q0, hargs, rfl, rfl, h0, r0⟩ := trodAll_cons hA
  obtain ⟨rfl, rfl, rfl⟩ := trodAll_nil r0
  obtain rfl : args = #[v0] := by cases args; simp_all
  obtain ⟨rfl, rfl⟩ := trodVars_none hV
  obtain ⟨a0, len0, cap0, rfl⟩ := okWide_slice Try.underlying22 (hval 0 22 v0 rfl rfl)
  have k0 := h0
  have lt0 : ∀ x ∈ p0, x.block < W.heap.size := by obtain ⟨m, hm⟩ := k0; exact DataW.trod_lt m _ _ _ hm
  obtain ⟨z0, w0⟩ : ∃ zs, IsRow .u8 W a0 len0 cap0 zs := by
    obtain ⟨fuel, hf⟩ := h0
    rcases open_ints Try.underlying22 Try.underlying5 (by kernel_rfl) hf with ⟨hcs, _⟩ | ⟨x, l, c, zs, hcs, _, hl, hm, hz, _, hcell, hwz⟩
    · simp [Value.cells] at hcs
      obtain ⟨rfl, rfl, rfl⟩ := hcs
      exact ⟨[], .inl ⟨rfl, rfl, rfl, rfl⟩⟩
    · simp [Value.cells] at hcs
      obtain ⟨rfl, rfl, rfl⟩ := hcs
      exact ⟨zs, .inr ⟨_, rfl, hl, hm, by simpa using hz, hcell, hwz⟩⟩
  clear hA0 hval0
  refine (walk a0 len0 cap0 W (row_bt w0)).mono fun e W' ⟨he, bel⟩ => ?_
  subst he
  exact ⟨_, rfl, _, _, _, [], _, [], hW', trodAll_mk1 (shut_bool Try.underlying4 _), (trodAll_cons_mk (Below.trod laidOut (by kernel_rfl) (of_decide_eq_true (by kernel_rfl)) k0 bel lt0) trodAll_mk0), rfl, bel.frame _, fun h => by cases h⟩

theorem over : Rows.fnLeftRow.holds Try.pinned (OpenSpec.ofChange Rows.fnLeftSpec) :=
  OpenClaim.holds_of_wide 3 Try.f3 rfl rfl rfl rfl rfl rfl rfl ⟨rfl, rfl, rfl, rfl, rfl⟩ rfl rfl rfl rfl rfl (by kernel_rfl) Try.func3 (by kernel_rfl)
    (of_decide_eq_true (by kernel_rfl)) (by unfold Func.isWrapper; first | (rw [if_pos (by decide +kernel)]; kernel_rfl) | (rw [if_neg (by decide +kernel)]; exact ⟨rfl, rfl⟩))
    (fun os started H enc _ => lifted os started H enc)

theorem proved : Rows.FnLeftSaid := over
end Go.Proofs.Ytjhaloeahidplaa.fnLeft

namespace Go.Proofs.Ytjhaloeahidplaa
theorem fnLeft_holds : Rows.FnLeftSaid := fnLeft.proved
end Go.Proofs.Ytjhaloeahidplaa
