/- Proved: for every line and message laws.FnExactHomeGot returns true and leaves its arguments as they read; the listed variables (errors.errorType, impl.msgShapes, impl.errBusy, impl.errOwns, impl.errFull, impl.errTwice, impl.errUnasked) read as the program's text lays them (the card ties them). No other condition. -/
import Derived.Test.YtlalldlbgnlbjaaGreatDoorRows
import Derived.Test.YtlalldlbgnlbjaaGreatDoorCards
import Derived.Test.YtlalldlbgnlbjaaGreatDoorTie
import Derived.Test.YtlalldlbgnlbjaaGreatDoorYomeGot52
import Derived.OpenVars
import Derived.Stop.Joined
import Derived.SevenTiedAt
import Derived.ShutString
import Derived.ChangeOld
import Derived.OpenShut
import Derived.ProofKit
import Derived.LaidHandle
import Derived.LaidLaws
import Derived.LaidMore
import Derived.Deep.SlicePairs
namespace Go.Proofs.YtlalldlbgnlbjaaGreatDoor.fnExactHomeGot
open Go.ChangeShapes Go.WideShapes Go.ChangeAt Go.WideMaps Go.WideElems Go.RowKit
set_option linter.unusedVariables false
set_option linter.unusedSimpArgs false

theorem own : ownKnob Tryz.prog.godebug = none := by kernel_rfl
theorem laidOut : laidOutB Tryz.prog = true := by kernel_rfl
theorem gBusy : Tryz.prog.globalNamed "loop.example/g00384/impl.errBusy" = some 2 := by kernel_rfl
theorem gOwns : Tryz.prog.globalNamed "loop.example/g00384/impl.errOwns" = some 4 := by kernel_rfl
theorem gFull : Tryz.prog.globalNamed "loop.example/g00384/impl.errFull" = some 5 := by kernel_rfl
theorem gTwice : Tryz.prog.globalNamed "loop.example/g00384/impl.errTwice" = some 6 := by kernel_rfl
theorem gUnasked : Tryz.prog.globalNamed "loop.example/g00384/impl.errUnasked" = some 3 := by kernel_rfl
theorem gTyp : Tryz.prog.globalNamed "errors.errorType" = some 1 := by kernel_rfl
theorem tBusy : (Tryz.prog.globals[2]?).map (·.type) = some 59 := by kernel_rfl
theorem tOwns : (Tryz.prog.globals[4]?).map (·.type) = some 59 := by kernel_rfl
theorem tFull : (Tryz.prog.globals[5]?).map (·.type) = some 59 := by kernel_rfl
theorem tTwice : (Tryz.prog.globals[6]?).map (·.type) = some 59 := by kernel_rfl
theorem tUnasked : (Tryz.prog.globals[3]?).map (·.type) = some 59 := by kernel_rfl
theorem cellsE : Tryz.prog.cellsOf 169 = 1 := by kernel_rfl
theorem cellsS : Tryz.prog.cellsOf 9 = 1 := by kernel_rfl
theorem star : "*" ++ "errors.errorString" = "*errors.errorString" := by decide
theorem rowE (u : TypeId) (h : Tryz.prog.typeName? 3 u = some "*errors.errorString") : u = 148 :=
  typeName_ptr_named (nm := "errors.errorString") (by rw [star]; kernel_rfl) (by kernel_rfl) (by decide) u (by rw [star]; exact h)
theorem rt : (Tryz.prog.cutTypes.find? (·.1 == "internal/reflectlite.rtype")).map (·.2) = some 124 := by kernel_rfl
theorem oneRow : ((List.range (281 - 100)).filter fun t => Tryz.prog.rowNamed t [101, 114, 114, 111, 114]) = [59] := by kernel_rfl
theorem typesN : Tryz.prog.types.size = 281 - 100 := by kernel_rfl

set_option maxRecDepth 100000 in
/-- what the condition gives the walk -/
theorem gl_of_laid {W : World} (h : laidMetH Tryz.prog Rows.fnExactHomeGotRow.laid W) : (∃ E, Gl E W ∧ Er E W W.heap.size) ∧ Tab W := by
  have h' : laidMet Tryz.prog [("loop.example/g00384/impl.msgShapes", Rows.laid_loop_example_g00384_impl_msgShapes), ("loop.example/g00384/impl.errBusy", Rows.laid_loop_example_g00384_impl_errBusy), ("loop.example/g00384/impl.errOwns", Rows.laid_loop_example_g00384_impl_errOwns), ("loop.example/g00384/impl.errFull", Rows.laid_loop_example_g00384_impl_errFull), ("loop.example/g00384/impl.errTwice", Rows.laid_loop_example_g00384_impl_errTwice), ("loop.example/g00384/impl.errUnasked", Rows.laid_loop_example_g00384_impl_errUnasked)] W ∧ handlesMet Tryz.prog [("errors.errorType", Rows.laid_errors_errorType)] W := h
  refine ⟨?_, tab_of_met h'.1⟩
  obtain ⟨⟨ps, ⟨g0, t0, cs0, f0, p0, q0, hg0, ht0, hv0, hd0, ⟨g1, t1, cs1, f1, p1, q1, hg1, ht1, hv1, hd1, ⟨g2, t2, cs2, f2, p2, q2, hg2, ht2, hv2, hd2, ⟨g3, t3, cs3, f3, p3, q3, hg3, ht3, hv3, hd3, ⟨g4, t4, cs4, f4, p4, q4, hg4, ht4, hv4, hd4, ⟨g5, t5, cs5, f5, p5, q5, hg5, ht5, hv5, hd5, hq5, e5⟩, e4⟩, e3⟩, e2⟩, e1⟩, e0⟩, hnd, hrows⟩, h2⟩ := h'
  obtain rfl := Option.some.inj (gBusy.symm.trans hg1)
  obtain rfl := Option.some.inj (tBusy.symm.trans ht1)
  obtain rfl := Option.some.inj (gOwns.symm.trans hg2)
  obtain rfl := Option.some.inj (tOwns.symm.trans ht2)
  obtain rfl := Option.some.inj (gFull.symm.trans hg3)
  obtain rfl := Option.some.inj (tFull.symm.trans ht3)
  obtain rfl := Option.some.inj (gTwice.symm.trans hg4)
  obtain rfl := Option.some.inj (tTwice.symm.trans ht4)
  obtain rfl := Option.some.inj (gUnasked.symm.trans hg5)
  obtain rfl := Option.some.inj (tUnasked.symm.trans ht5)
  have hq5p : q5 = [] := hq5
  subst hq5p
  subst e5
  subst e4
  subst e3
  subst e2
  subst e1
  subst e0
  obtain ⟨l1⟩ := cs1
  obtain ⟨l2⟩ := cs2
  obtain ⟨l3⟩ := cs3
  obtain ⟨l4⟩ := cs4
  obtain ⟨l5⟩ := cs5
  have ok1 : ∀ u v, l1 = [.iface u v] → Value.okWide Tryz.prog W .any 0 u v := fun u v e => by
    subst e
    exact (hrows 2 0 (by simp [MemPlace.row])).2 u v (by simpa using World.var?_cell hg1 hv1 0)
  have ok2 : ∀ u v, l2 = [.iface u v] → Value.okWide Tryz.prog W .any 0 u v := fun u v e => by
    subst e
    exact (hrows 4 0 (by simp [MemPlace.row])).2 u v (by simpa using World.var?_cell hg2 hv2 0)
  have ok3 : ∀ u v, l3 = [.iface u v] → Value.okWide Tryz.prog W .any 0 u v := fun u v e => by
    subst e
    exact (hrows 5 0 (by simp [MemPlace.row])).2 u v (by simpa using World.var?_cell hg3 hv3 0)
  have ok4 : ∀ u v, l4 = [.iface u v] → Value.okWide Tryz.prog W .any 0 u v := fun u v e => by
    subst e
    exact (hrows 6 0 (by simp [MemPlace.row])).2 u v (by simpa using World.var?_cell hg4 hv4 0)
  have ok5 : ∀ u v, l5 = [.iface u v] → Value.okWide Tryz.prog W .any 0 u v := fun u v e => by
    subst e
    exact (hrows 3 0 (by simp [MemPlace.row])).2 u v (by simpa using World.var?_cell hg5 hv5 0)
  obtain ⟨a1, s1, rfl, hc1, hs1, _, rfl⟩ := errorString_of_trod Tryz.underlying59 rowE Tryz.underlying148 Tryz.underlying169 rfl rfl Tryz.underlying9 cellsE cellsS hd1 ok1
  obtain ⟨a2, s2, rfl, hc2, hs2, _, rfl⟩ := errorString_of_trod Tryz.underlying59 rowE Tryz.underlying148 Tryz.underlying169 rfl rfl Tryz.underlying9 cellsE cellsS hd2 ok2
  obtain ⟨a3, s3, rfl, hc3, hs3, _, rfl⟩ := errorString_of_trod Tryz.underlying59 rowE Tryz.underlying148 Tryz.underlying169 rfl rfl Tryz.underlying9 cellsE cellsS hd3 ok3
  obtain ⟨a4, s4, rfl, hc4, hs4, _, rfl⟩ := errorString_of_trod Tryz.underlying59 rowE Tryz.underlying148 Tryz.underlying169 rfl rfl Tryz.underlying9 cellsE cellsS hd4 ok4
  obtain ⟨a5, s5, rfl, hc5, hs5, _, rfl⟩ := errorString_of_trod Tryz.underlying59 rowE Tryz.underlying148 Tryz.underlying169 rfl rfl Tryz.underlying9 cellsE cellsS hd5 ok5
  obtain ⟨c1, u1, hb1⟩ := (hrows a1.block a1.off (by simp [MemPlace.row])).1
  obtain ⟨c2, u2, hb2⟩ := (hrows a2.block a2.off (by simp [MemPlace.row])).1
  have hne : a1 ≠ a2 := by
    rintro rfl
    have e := Option.some.inj (hc1.symm.trans hc2)
    simp only [Value.string.injEq] at e
    subst e
    rw [hs1] at hs2
    exact absurd hs2 (by decide)
  obtain ⟨name, u, ty, k1, k2, k3, k4, k5⟩ := h2 _ (List.mem_singleton.2 rfl)
  have en : name = [101, 114, 114, 111, 114] := (Option.some.inj k1).symm
  subst en
  obtain rfl := Option.some.inj (rt.symm.trans k2)
  have hm : ty ∈ (List.range (281 - 100)).filter fun t => Tryz.prog.rowNamed t [101, 114, 114, 111, 114] := List.mem_filter.2 ⟨List.mem_range.2 (by rw [← typesN]; exact k3), k4⟩
  rw [oneRow] at hm
  obtain rfl := List.mem_singleton.1 hm
  have hh : typeHandle Tryz.prog 59 = .pointer (some ⟨7, 59, none⟩) := by kernel_rfl
  rw [hh] at k5
  have ct := World.var?_cell gTyp k5 0
  have cc1 := World.var?_cell hg1 hv1 0
  have cc2 := World.var?_cell hg2 hv2 0
  have cc3 := World.var?_cell hg3 hv3 0
  have cc4 := World.var?_cell hg4 hv4 0
  have cc5 := World.var?_cell hg5 hv5 0
  have hlt : 6 < W.heap.size := World.block_lt_of_cell? W ⟨6, 0, none⟩ (by simpa using cc4)
  have hl1 : a1.block < W.heap.size := lt_of_block hb1
  have hl2 : a2.block < W.heap.size := lt_of_block hb2
  exact ⟨fun n => if n = 0 then a1 else if n = 1 then a2 else if n = 2 then a3 else if n = 3 then a4 else a5, ⟨by simpa using cc1, by simpa using cc2, by simpa using cc3, by simpa using cc4, by simpa using cc5, by simpa using ct, by omega⟩, by simpa using hne, ⟨c1, u1, by simpa using hb1⟩, ⟨c2, u2, by simpa using hb2⟩, by simpa using hl1, by simpa using hl2⟩

/-- as many as are listed -/
theorem vars_len {H : Type} {enc : TypeId × Value → H} {P : Program} {w : World} {spare : Nat → Bool} : ∀ {ns : List String} {gs : List (DataW H)} {ps : List MemPlace}, DataW.TrodVars enc P w spare ns gs ps → gs.length = ns.length
  | [], gs, ps, h => by
    cases gs with
    | nil => rfl
    | cons d ds => simp [DataW.TrodVars] at h
  | n :: ns, gs, ps, h => by
    cases gs with
    | nil => simp [DataW.TrodVars] at h
    | cons d ds =>
      obtain ⟨g, t, cs, fuel, p, q, _, _, _, _, hs, _⟩ := h
      simp [vars_len hs]

set_option maxRecDepth 100000 in
/-- a line, opened -/
theorem open_line {W : World} {H : Type} {enc : TypeId × Value → H} {base b0 : Nat} {spare : Nat → Bool} {held : Bool} {r : Reach} {v : Value} {d : DataW H} {p : List MemPlace} (hv : Value.okWide Tryz.prog W r b0 25 v) (h : DataW.Trod enc Tryz.prog W base spare held 25 v d p) :
    ∃ (mem ow : Int) (sa : Option Addr) (sn sc : Nat) (zs : List Int) (bu wt ac : Int) (qa : Option Addr) (qn qc : Nat) (f : Nat → Nat → Int), v = .agg (ln7 mem ow (.slice sa sn sc) bu wt ac (.slice qa qn qc)) ∧ Sl W (.slice sa sn sc) zs ∧ zs.length = sn ∧ Sr W (.slice qa qn qc) 2 qn f ∧ sn ≤ maxLen ∧ qn ≤ maxLen := by
  obtain ⟨cs, rfl, hsz⟩ := okWide_struct Tryz.underlying25 hv
  obtain ⟨fuel, hf⟩ := h
  obtain ⟨xs, n, _, _, hl, hlen, hg⟩ := DataW.trod_struct Tryz.underlying25 hf
  have c7 : Tryz.prog.cellsOf 25 = 7 := by kernel_rfl
  have c1 : Tryz.prog.cellsOf 2 = 1 := by kernel_rfl
  have cS : Tryz.prog.cellsOf 22 = 1 := by kernel_rfl
  have cQ : Tryz.prog.cellsOf 23 = 1 := by kernel_rfl
  rw [c7] at hsz
  obtain ⟨l⟩ := cs
  match l, hsz with
  | [b0, b1, b2, b3, b4, b5, b6], _ =>
    match xs, hlen with
    | [x0, x1, x2, x3, x4, x5, x6], _ =>
      have g0 : DataW.trod enc Tryz.prog W base spare held n 2 (List.take (Tryz.prog.cellsOf 2) (List.drop 0 [b0, b1, b2, b3, b4, b5, b6])) = some x0 := hg 0 _ rfl
      have g1 : DataW.trod enc Tryz.prog W base spare held n 2 (List.take (Tryz.prog.cellsOf 2) (List.drop 1 [b0, b1, b2, b3, b4, b5, b6])) = some x1 := hg 1 _ rfl
      have g2 : DataW.trod enc Tryz.prog W base spare held n 22 (List.take (Tryz.prog.cellsOf 22) (List.drop 2 [b0, b1, b2, b3, b4, b5, b6])) = some x2 := hg 2 _ rfl
      have g3 : DataW.trod enc Tryz.prog W base spare held n 2 (List.take (Tryz.prog.cellsOf 2) (List.drop 3 [b0, b1, b2, b3, b4, b5, b6])) = some x3 := hg 3 _ rfl
      have g4 : DataW.trod enc Tryz.prog W base spare held n 2 (List.take (Tryz.prog.cellsOf 2) (List.drop 4 [b0, b1, b2, b3, b4, b5, b6])) = some x4 := hg 4 _ rfl
      have g5 : DataW.trod enc Tryz.prog W base spare held n 2 (List.take (Tryz.prog.cellsOf 2) (List.drop 5 [b0, b1, b2, b3, b4, b5, b6])) = some x5 := hg 5 _ rfl
      have g6 : DataW.trod enc Tryz.prog W base spare held n 23 (List.take (Tryz.prog.cellsOf 23) (List.drop 6 [b0, b1, b2, b3, b4, b5, b6])) = some x6 := hg 6 _ rfl
      rw [c1] at g0 g1 g3 g4 g5
      rw [cS] at g2
      rw [cQ] at g6
      obtain ⟨k0, e0, _⟩ := DataW.trod_int Tryz.underlying2 g0
      obtain ⟨k1, e1, _⟩ := DataW.trod_int Tryz.underlying2 g1
      obtain ⟨k3, e3, _⟩ := DataW.trod_int Tryz.underlying2 g3
      obtain ⟨k4, e4, _⟩ := DataW.trod_int Tryz.underlying2 g4
      obtain ⟨k5, e5, _⟩ := DataW.trod_int Tryz.underlying2 g5
      simp at e0 e1 e3 e4 e5
      subst e0 e1 e3 e4 e5
      obtain ⟨sa, sn, sc, zs, rfl, hS, hz, hm⟩ : ∃ (sa : Option Addr) (sn sc : Nat) (zs : List Int), b2 = .slice sa sn sc ∧ Sl W (.slice sa sn sc) zs ∧ zs.length = sn ∧ sn ≤ maxLen := by
        rcases open_ints Tryz.underlying22 Tryz.underlying2 (by kernel_rfl) g2 with ⟨hcs, _⟩ | ⟨x, l, c, zs, hcs, _, hl, hm, hz, _, hcell, hwz⟩
        · simp at hcs
          exact ⟨none, 0, 0, [], hcs, ⟨none, 0, rfl, fun hp => absurd hp (by simp)⟩, rfl, Nat.zero_le _⟩
        · simp at hcs
          have hz' : l ≤ zs.length := by rw [hz]; split <;> omega
          obtain ⟨h1, h2⟩ := sl_of_row (w := W) (x := x) (len := l) (cap := c) (z := zs) (by omega) hcell
          exact ⟨some x, l, c, zs.take l, hcs, h2, h1, by omega⟩
      obtain ⟨qa, qn, qc, f, rfl, hR, hm2⟩ : ∃ (qa : Option Addr) (qn qc : Nat) (f : Nat → Nat → Int), b6 = .slice qa qn qc ∧ Sr W (.slice qa qn qc) 2 qn f ∧ qn ≤ maxLen := by
        rcases Go.Deep.open_slice_pairs Tryz.underlying23 Tryz.underlying85 (by kernel_rfl) rfl rfl (by kernel_rfl) (by kernel_rfl) g6 with ⟨hcs, _⟩ | ⟨a, len, cap, m, n', V0, V1, D0, D1, P0, P1, hcs, _, hlc, hcm, hmm, _, hx⟩
        · simp at hcs
          exact ⟨none, 0, 0, fun _ _ => 0, hcs, ⟨none, 0, rfl, fun hp => absurd hp (by simp)⟩, Nat.zero_le _⟩
        · simp at hcs
          have hlm : len ≤ m := by rw [hmm]; split <;> omega
          refine ⟨some a, len, cap, fun i j => if j = 0 then intOf (V0 i) else intOf (V1 i), hcs, ⟨some a, cap, rfl, fun hp => ?_⟩, by omega⟩
          obtain ⟨ab, ao, spot⟩ := a
          have h0 := (hx 0 (by omega)).1
          have hspot : spot = none := by simpa [Addr.add] using World.cell?_spot h0
          subst hspot
          refine ⟨ab, ao, rfl, fun j hj i hi => ?_⟩
          obtain ⟨t0, t1, u0, u1⟩ := hx j (by omega)
          rw [addr_add] at t0 t1
          obtain ⟨k0, f0, _⟩ := DataW.trod_int Tryz.underlying2 u0
          obtain ⟨k1, f1, _⟩ := DataW.trod_int Tryz.underlying2 u1
          simp at f0 f1
          match i, hi with
          | 0, _ => dsimp only; rw [Nat.add_zero, t0, f0]; simp [intOf]
          | 1, _ => dsimp only; rw [show ao + j * 2 + 1 = ao + (j * 2 + 1) by omega, t1, f1]; simp [intOf]
      exact ⟨_, _, _, _, _, zs, _, _, _, _, _, _, f, rfl, hS, hz, hR, hm, hm2⟩

set_option maxRecDepth 100000 in
/-- a struct of 6 integers, opened -/
theorem open_m {W : World} {H : Type} {enc : TypeId × Value → H} {base b0 : Nat} {spare : Nat → Bool} {held : Bool} {r : Reach} {v : Value} {d : DataW H} {p : List MemPlace} (hv : Value.okWide Tryz.prog W r b0 27 v) (h : DataW.Trod enc Tryz.prog W base spare held 27 v d p) :
    ∃ k0 k1 k2 k3 k4 k5 : Int, v = .agg #[.int .i64 k0, .int .i64 k1, .int .i64 k2, .int .i64 k3, .int .i64 k4, .int .i64 k5] := by
  obtain ⟨cs, rfl, hsz⟩ := okWide_struct Tryz.underlying27 hv
  obtain ⟨fuel, hf⟩ := h
  obtain ⟨xs, n, _, _, hl, hlen, hg⟩ := DataW.trod_struct Tryz.underlying27 hf
  have c6 : Tryz.prog.cellsOf 27 = 6 := by kernel_rfl
  have c1 : Tryz.prog.cellsOf 2 = 1 := by kernel_rfl
  rw [c6] at hsz
  obtain ⟨l⟩ := cs
  match l, hsz with
  | [a0, a1, a2, a3, a4, a5], _ =>
    match xs, hlen with
    | [x0, x1, x2, x3, x4, x5], _ =>
      have g0 : DataW.trod enc Tryz.prog W base spare held n 2 (List.take (Tryz.prog.cellsOf 2) (List.drop 0 [a0, a1, a2, a3, a4, a5])) = some x0 := hg 0 _ rfl
      have g1 : DataW.trod enc Tryz.prog W base spare held n 2 (List.take (Tryz.prog.cellsOf 2) (List.drop 1 [a0, a1, a2, a3, a4, a5])) = some x1 := hg 1 _ rfl
      have g2 : DataW.trod enc Tryz.prog W base spare held n 2 (List.take (Tryz.prog.cellsOf 2) (List.drop 2 [a0, a1, a2, a3, a4, a5])) = some x2 := hg 2 _ rfl
      have g3 : DataW.trod enc Tryz.prog W base spare held n 2 (List.take (Tryz.prog.cellsOf 2) (List.drop 3 [a0, a1, a2, a3, a4, a5])) = some x3 := hg 3 _ rfl
      have g4 : DataW.trod enc Tryz.prog W base spare held n 2 (List.take (Tryz.prog.cellsOf 2) (List.drop 4 [a0, a1, a2, a3, a4, a5])) = some x4 := hg 4 _ rfl
      have g5 : DataW.trod enc Tryz.prog W base spare held n 2 (List.take (Tryz.prog.cellsOf 2) (List.drop 5 [a0, a1, a2, a3, a4, a5])) = some x5 := hg 5 _ rfl
      rw [c1] at g0 g1 g2 g3 g4 g5
      obtain ⟨k0, e0, _⟩ := DataW.trod_int Tryz.underlying2 g0
      obtain ⟨k1, e1, _⟩ := DataW.trod_int Tryz.underlying2 g1
      obtain ⟨k2, e2, _⟩ := DataW.trod_int Tryz.underlying2 g2
      obtain ⟨k3, e3, _⟩ := DataW.trod_int Tryz.underlying2 g3
      obtain ⟨k4, e4, _⟩ := DataW.trod_int Tryz.underlying2 g4
      obtain ⟨k5, e5, _⟩ := DataW.trod_int Tryz.underlying2 g5
      simp at e0 e1 e2 e3 e4 e5
      subst e0 e1 e2 e3 e4 e5
      exact ⟨k0, k1, k2, k3, k4, k5, rfl⟩

/-- the door's own heap meets the condition -/
theorem door_met (os : Os) (args : Array Value) : laidMetH Tryz.prog Rows.fnExactHomeGotRow.laid ((World.doorLaid Tryz.prog 400 os).forCall (fun _ _ => 0) ⟨#[], args, []⟩).memory :=
  laidMetH_of_parts3 (fuel := 8) (laidMet_of_run' 8 (by kernel_rfl) (by kernel_rfl)) (by kernel_rfl) (by kernel_rfl)

set_option maxRecDepth 100000 in
theorem lifted (os : Os) (started : os.Started) (H : Type) (enc : TypeId × Value → H) :
    ReturnsInHanded {} Tryz.checked os 3 .any (fun w args => (Rows.fnExactHomeGotSpec.pre enc Tryz.prog Tryz.f3 [] false w args ∧ laidMetH Tryz.prog Rows.fnExactHomeGotRow.laid w) ∧ sizedMet enc Tryz.prog Tryz.f3 (OpenSpec.ofChange Rows.fnExactHomeGotSpec) false w args)
      (Rows.fnExactHomeGotSpec.post enc Tryz.prog Tryz.f3 false true false false) := by
  refine returnsInHanded_of_change_and (C := Tryz.checked) (X := fun w _ => laidMetH Tryz.prog Rows.fnExactHomeGotRow.laid w) (fun _ _ _ hh h => h.of_heap hh) own started (by kernel_rfl) Tryz.func3
    (ChangeSpec.witness_shaped (enc := enc) (C := Tryz.checked) (os := os) (X := fun w _ => laidMetH Tryz.prog Rows.fnExactHomeGotRow.laid w) false (World.doorLaid Tryz.prog 400 os) #[.agg (ln7 0 0 (.slice none 0 0) 0 0 0 (.slice none 0 0)), .agg #[.int .i64 0, .int .i64 0, .int .i64 0, .int .i64 0, .int .i64 0, .int .i64 0]] 8 rfl (World.shaped_of_RefB (by kernel_rfl) (by kernel_rfl)) (by kernel_rfl) (by kernel_rfl) (by kernel_rfl) (door_met os _)) ?_
  intro W base args ds gs before hval0 hW _ _ hL _
  have hval : ∀ (j : Nat) t v, Tryz.f3.params[j]? = some t → args[j]? = some v → Value.okWide Tryz.prog W .any base t v := hval0
  have hW' := hW
  obtain ⟨p, q, hA0, hV, rfl, hfz, hnd⟩ := hW
  have hA : DataW.TrodAll enc Tryz.prog W 0 (fun _ => true) true Tryz.f3.params.toList args.toList ds p := hA0
  rw [Tryz.params3] at hA hval
  obtain ⟨v0, vs0, d0, ds0, p0, q0, hargs, rfl, rfl, h0, r0⟩ := trodAll_cons hA
  obtain ⟨v1, vs1, d1, ds1, p1, q1, rfl, rfl, rfl, h1, r1⟩ := trodAll_cons r0
  obtain ⟨rfl, rfl, rfl⟩ := trodAll_nil r1
  obtain rfl : args = #[v0, v1] := by cases args; simp_all
  have k0 := h0
  have lt0 : ∀ x ∈ p0, x.block < W.heap.size := by obtain ⟨m, hm⟩ := k0; exact DataW.trod_lt m _ _ _ hm
  have k1 := h1
  have lt1 : ∀ x ∈ p1, x.block < W.heap.size := by obtain ⟨m, hm⟩ := k1; exact DataW.trod_lt m _ _ _ hm
  obtain ⟨mem, ow, sa, sn, sc, zs, bu, wt, ac, qa, qn, qc, f, rfl, hS, hz, hQ, hm, hn⟩ := open_line (hval 0 25 v0 rfl rfl) h0
  obtain ⟨k, c, to, l, t, d, rfl⟩ := open_m (hval 1 27 v1 rfl rfl) h1
  subst hz
  obtain ⟨⟨E, hg, her⟩, htab⟩ := gl_of_laid hL
  have hl6 : gs.length = 6 := vars_len hV
  obtain ⟨dv0, dv1, dv2, dv3, dv4, dv5, rfl⟩ : ∃ a b c d e f, gs = [a, b, c, d, e, f] := by
    match gs, hl6 with
    | [a, b, c, d, e, f], _ => exact ⟨a, b, c, d, e, f, rfl⟩
  clear hA0 hval0
  have big : ∀ k : Nat, k ≤ maxLen → (k : Int) ≤ 9223372036854775807 := fun k hk => by unfold maxLen at hk; omega
  have hq : qn = (qL qn f).length := (qL_len qn f).symm
  have hQ2 : Sr W (.slice qa (qL qn f).length qc) 2 (qL qn f).length (f2 (qL qn f)) := by
    have := Sg.congr (show Sg W (.slice qa qn qc) 2 qn (gF f) from hQ) (f' := gF (f2 (qL qn f))) (fun j hj i hi => by simp only [gF]; rw [qL_get qn f j i hj hi])
    rw [← hq]; exact this
  have hw := walkExactHomeGot E k c to l t d ⟨mem, ow, zs, bu, wt, ac, qL qn f⟩ sa sc qa qc W hS hQ2 (big _ hm) (by rw [qL_len]; exact big _ hn) hg htab her
  simp only [qL_len] at hw
  refine hw.mono fun e W' ⟨he, bel⟩ => ?_
  subst he
  exact ⟨_, rfl, _, _, _, [], _, _, hW', trodAll_mk1 (shut_bool Tryz.underlying4 _), (trodAll_cons_mk (Below.trod laidOut (by kernel_rfl) (of_decide_eq_true (by kernel_rfl)) k0 bel lt0) (trodAll_cons_mk (Below.trod laidOut (by kernel_rfl) (of_decide_eq_true (by kernel_rfl)) k1 bel lt1) trodAll_mk0)), bel.trodVars laidOut (by kernel_rfl) hV, bel.frame _, fun h => by cases h⟩

theorem row_holds : Rows.FnExactHomeGotSaid :=
  OpenClaim.holds_of_wide 3 Tryz.f3 rfl rfl rfl rfl rfl rfl rfl ⟨rfl, rfl, rfl, rfl, rfl⟩ rfl rfl rfl rfl rfl (by kernel_rfl) Tryz.func3 (by kernel_rfl)
    (of_decide_eq_true (by kernel_rfl)) (by unfold Func.isWrapper; first | (rw [if_pos (by decide +kernel)]; kernel_rfl) | (rw [if_neg (by decide +kernel)]; exact ⟨rfl, rfl⟩))
    (fun os started H enc _ => lifted os started H enc)
end Go.Proofs.YtlalldlbgnlbjaaGreatDoor.fnExactHomeGot

namespace Go.Proofs.YtlalldlbgnlbjaaGreatDoor
theorem fnExactHomeGot_holds : Rows.FnExactHomeGotCardSaid :=
  Claim7.holds_tied_plain_at .later [] [.handle, .data, .sentinel, .sentinel, .sentinel, .sentinel, .sentinel] true Rows.fnExactHomeGotCard.stood.harness true
    fnExactHomeGot.row_holds (fun _ h => by cases h) (by kernel_rfl) (fun _ h => by cases h) fnExactHomeGot_row_tie rfl ⟨rfl, rfl⟩ (by kernel_rfl) rfl
    (fun f fn hf hfn => by
      obtain rfl : f = 3 := Option.some.inj ((show Tryz.prog.funcNamed "loop.example/g00384/laws.FnExactHomeGot" = some 3 by kernel_rfl).symm.trans hf) |>.symm
      obtain rfl : fn = Tryz.f3 := (Option.some.inj (Tryz.func3.symm.trans hfn)).symm
      exact ⟨by kernel_rfl, fun j t ht => by
        rw [Tryz.params3] at ht
        have hm : t ∈ [25, 27] := by simpa using Array.mem_of_getElem? ht
        have hall : ([25, 27].all fun u => !Tryz.prog.wantsStandIn u) = true := by kernel_rfl
        exact (show Tryz.prog.wantsStandIn t = false by simpa using List.all_eq_true.1 hall t hm)⟩)
    (by kernel_rfl)
end Go.Proofs.YtlalldlbgnlbjaaGreatDoor
