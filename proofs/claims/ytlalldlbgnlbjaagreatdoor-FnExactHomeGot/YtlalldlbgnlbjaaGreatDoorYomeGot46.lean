/- MsgB, MsgT -/
import Derived.Test.YtlalldlbgnlbjaaGreatDoorYomeGot0
import Derived.Test.YtlalldlbgnlbjaaGreatDoorRows
import Derived.WalkKit
import Derived.WalkSpells
import Derived.WalkLawsBesides
import Derived.ProofKit
import Derived.OpenShut
import Derived.LaidMore
import Derived.Lib.SmallJoins
/- spec.MsgOk -/
namespace Go.Proofs.YtlalldlbgnlbjaaGreatDoor
open Go.RowKit

set_option maxHeartbeats 4000000 in
theorem specOk_any (k f t l wt d : Int) (w : World) :
    Calls Tryz.prog 25 #[.agg #[.int .i64 k, .int .i64 f, .int .i64 t, .int .i64 l, .int .i64 wt, .int .i64 d]] w fun e w' => e = .returned (.bool (okB k f t l wt d)) ∧ Below w.heap.size w w' := by
  by_cases hk : 1 ≤ k ∧ k ≤ 9
  · obtain ⟨h1, h9⟩ := hk
    have hin : inB k 1 9 = true := inB_yes h1 h9
    rcases Bool.eq_false_or_eq_true (homeB k) with hh | hh
    all_goals
      go_enter Tryz.func25, Tryz.ntmps25
      go_wp2_with (first | (go_at_call 55; refine (in_any _ _ _ _).mono ?_; rintro e w' ⟨rfl, rfl⟩) | (go_at_call 26; refine (l2Core_any _ _ h1 h9).mono ?_; rintro e w' ⟨rfl, rfl⟩) | (go_at_call 58; refine (l2Wants_any _ _ h1 h9).mono ?_; rintro e w' ⟨rfl, rfl⟩) | (go_at_call 59; refine (l2Holds_any _ _ h1 h9).mono ?_; rintro e w' ⟨rfl, rfl⟩))
      all_goals go_ret
      all_goals refine ⟨ret_bool ?_, (Below.refl _ _).alloc (Nat.le_refl _) _⟩
      all_goals go_light
      all_goals simp_all [okB, endsB, wantOkB, dataOkB, eqB]
  · have hin : inB k 1 9 = false := inB_no hk
    clear hk
    have HR : Hid (okB k f t l wt d = false) := hide (by unfold okB; rw [hin]; rfl)
    go_enter Tryz.func25, Tryz.ntmps25
    go_wp2_with (go_at_call 55; refine (in_any _ _ _ _).mono ?_; rintro e w' ⟨rfl, rfl⟩)
    go_ret
    exact ⟨ret_bool HR.out.symm, (Below.refl _ _).alloc (Nat.le_refl _) _⟩

end Go.Proofs.YtlalldlbgnlbjaaGreatDoor

/- the table of the kinds: what the listed variable's cells hold -/
namespace Go.Proofs.YtlalldlbgnlbjaaGreatDoor
open Go.ChangeShapes Go.WideShapes Go.ChangeAt Go.RowKit Go.Joins

def shapeWord : Nat → List UInt8
  | 1 => [114, 101, 97, 100] | 2 => [119, 114, 105, 116, 101] | 3 => [112, 117, 116] | 4 => [105, 110, 118] | 5 => [102, 101, 116, 99, 104]
  | 6 => [97, 99, 107] | 7 => [100, 97, 116, 97] | 8 => [103, 114, 97, 110, 116] | 9 => [100, 111, 110, 101] | _ => []
def shapeHome (k : Nat) : Bool := k == 1 || k == 2 || k == 3 || k == 6 || k == 7
def shapeWant (k : Nat) : Bool := k == 5 || k == 8
def shapeData (k : Nat) : Bool := k == 3 || k == 7 || k == 8

/-- the four cells of each kind -/
def Tab (w : World) : Prop := ∀ k, k < 10 → ∃ s : ByteArray, s.data.toList = shapeWord k ∧ w.cell? ⟨0, 4 * k, none⟩ = some (.string s) ∧ w.cell? ⟨0, 4 * k + 1, none⟩ = some (.bool (shapeHome k)) ∧
  w.cell? ⟨0, 4 * k + 2, none⟩ = some (.bool (shapeWant k)) ∧ w.cell? ⟨0, 4 * k + 3, none⟩ = some (.bool (shapeData k))

theorem Tab.below {w w' : World} (h : Tab w) (hb : Below w.heap.size w w') : Tab w' := by
  intro k hk
  have keep : ∀ a : Addr, ∀ u, w.cell? a = some u → w'.cell? a = some u := by
    intro a u h
    rw [hb.cell (World.block_lt_of_cell? w a h)]; exact h
  obtain ⟨s, h0, h1, h2, h3, h4⟩ := h k hk
  exact ⟨s, h0, keep _ _ h1, keep _ _ h2, keep _ _ h3, keep _ _ h4⟩

def shapeDatum (k : Nat) : DataW Unit := .agg [.lit (.string (shapeWord k)), .lit (.bool (shapeHome k)), .lit (.bool (shapeWant k)), .lit (.bool (shapeData k))]

theorem c9 : Tryz.prog.cellsOf 9 = 1 := by kernel_rfl
theorem c4 : Tryz.prog.cellsOf 4 = 1 := by kernel_rfl
theorem c73 : Tryz.prog.cellsOf 73 = 4 := by kernel_rfl
theorem c74 : Tryz.prog.cellsOf 74 = 40 := by kernel_rfl

/-- one row of the table -/
theorem shape_cells {w : World} {enc : TypeId × Value → Unit} {base : Nat} {spare : Nat → Bool} {held : Bool} {m : Nat} {cs : List Value} {x : DataW Unit × List MemPlace} {l : List UInt8} {a b c : Bool} (h : DataW.trod enc Tryz.prog w base spare held m 73 cs = some x) (hx : x.1 = .agg [.lit (.string l), .lit (.bool a), .lit (.bool b), .lit (.bool c)]) :
    ∃ s : ByteArray, s.data.toList = l ∧ cs = [.string s, .bool a, .bool b, .bool c] := by
  obtain ⟨y0, y1, y2, y3, n, e, hl, h0, h1, h2, h3⟩ := trod_struct4 Tryz.underlying73 h
  rw [c73] at hl
  simp only [c9, c4] at h0 h1 h2 h3
  match cs, hl with
  | [v0, v1, v2, v3], _ =>
    obtain ⟨s, e0, f0, _⟩ := DataW.trod_string Tryz.underlying9 h0
    obtain ⟨b1, e1, f1⟩ := DataW.trod_bool Tryz.underlying4 h1
    obtain ⟨b2, e2, f2⟩ := DataW.trod_bool Tryz.underlying4 h2
    obtain ⟨b3, e3, f3⟩ := DataW.trod_bool Tryz.underlying4 h3
    simp at e0 e1 e2 e3
    subst e f0 f1 f2 f3 e0 e1 e2 e3
    simp at hx
    obtain ⟨x0, x1, x2, x3⟩ := hx
    exact ⟨s, x0, by rw [x1, x2, x3]⟩

theorem gTab : Tryz.prog.globalNamed "loop.example/g00384/impl.msgShapes" = some 0 := by kernel_rfl
theorem tTab : (Tryz.prog.globals[0]?).map (·.type) = some 74 := by kernel_rfl

theorem datum_rows : (Rows.laid_loop_example_g00384_impl_msgShapes : DataW Unit) = .agg ((List.range 10).map shapeDatum) := by rfl

/-- what the condition gives the walks: the table at the head of what is listed -/
theorem tab_of_met {W : World} {rest : List (String × DataW Unit)} (h : laidMet Tryz.prog (("loop.example/g00384/impl.msgShapes", Rows.laid_loop_example_g00384_impl_msgShapes) :: rest) W) : Tab W := by
  obtain ⟨ps, ⟨g, t, cs, fuel, p, q, hg, ht, hv, hd, _, _⟩, _, _⟩ := h
  obtain rfl := Option.some.inj (gTab.symm.trans hg)
  obtain rfl := Option.some.inj (tTab.symm.trans ht)
  obtain ⟨xs, m, _, ex, hlen, hl, hel⟩ := DataW.trod_array Tryz.underlying74 hd
  rw [c74] at hlen
  simp only [c73] at hel
  rw [datum_rows] at ex
  have e3 := DataW.agg.inj (Prod.mk.inj ex).1
  intro k hk
  have hx := hel k hk
  have hk' : k < xs.length := by omega
  rw [List.getElem?_eq_getElem hk'] at hx
  have hd : xs[k].1 = shapeDatum k := by
    have h1 : (xs.map (·.1))[k]? = ((List.range 10).map shapeDatum)[k]? := by rw [e3]
    simpa [hk', hk] using h1
  obtain ⟨s, h1, h2⟩ := shape_cells hx hd
  have hc : ∀ i j, i < 4 → j = 4 * k + i → W.cell? ⟨0, j, none⟩ = ((cs.toList.drop (k * 4)).take 4)[i]? := by
    intro i j hi hj
    rw [World.var?_cell hg hv j, List.getElem?_take, if_pos hi, List.getElem?_drop, hj, Array.getElem?_toList]
    congr 1
    omega
  rw [h2] at hc
  exact ⟨s, h1, hc 0 _ (by decide) rfl, hc 1 _ (by decide) rfl, hc 2 _ (by decide) rfl, hc 3 _ (by decide) rfl⟩

end Go.Proofs.YtlalldlbgnlbjaaGreatDoor
