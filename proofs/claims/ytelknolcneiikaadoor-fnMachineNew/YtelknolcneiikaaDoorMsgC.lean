/- impl's three tests of a message against a row of the table; toMsg -/
import Derived.Test.YtelknolcneiikaaDoorMsgA
namespace Go.Proofs.YtelknolcneiikaaDoor
open Go.RowKit

theorem bcell {W w1 : World} (hb : Below W.heap.size W w1) : (∀ b o, b < W.heap.size → w1.cell? ⟨b, o, none⟩ = W.cell? ⟨b, o, none⟩) ∧ (∀ b o, b < W.heap.size → w1.frozen? ⟨b, o, none⟩ = W.frozen? ⟨b, o, none⟩) :=
  ⟨fun b o h => hb.cell (p := ⟨b, o, none⟩) h, fun b o h => hb.frozen (p := ⟨b, o, none⟩) h⟩

def endsH (h : Bool) (f t : Int) : Bool := if h then inB f 1 5 && eqB t 0 else inB t 1 5 && eqB f 0
def wantH (h : Bool) (w : Int) : Bool := if h then inB w 1 2 else eqB w 0
def dataH (h : Bool) (d : Int) : Bool := if h then inB d 0 1000000 else eqB d 0

set_option maxHeartbeats 1000000 in
theorem ends_any (k f t l wt d : Int) (s : ByteArray) (a b c : Bool) (w : World) :
    Calls Tryd.prog 51 #[.agg #[.int .i64 k, .int .i64 f, .int .i64 t, .int .i64 l, .int .i64 wt, .int .i64 d], .agg #[.string s, .bool a, .bool b, .bool c]] w fun e w' => e = .returned (.bool (endsH a f t)) ∧ Below w.heap.size w w' := by
  cases a
  all_goals
    go_enter Tryd.func51, Tryd.ntmps51
    go_wp2_with (go_at_call 48; refine (isCore_any _ _).mono ?_; rintro e w' ⟨rfl, rfl⟩)
    all_goals go_ret
    all_goals refine ⟨ret_bool ?_, ((Below.refl _ _).alloc (Nat.le_refl _) _).alloc (by simp) _⟩
    all_goals go_light
    all_goals simp_all [endsH, eqB]

set_option maxHeartbeats 1000000 in
theorem want_any (k f t l wt d : Int) (s : ByteArray) (a b c : Bool) (w : World) :
    Calls Tryd.prog 53 #[.agg #[.int .i64 k, .int .i64 f, .int .i64 t, .int .i64 l, .int .i64 wt, .int .i64 d], .agg #[.string s, .bool a, .bool b, .bool c]] w fun e w' => e = .returned (.bool (wantH b wt)) ∧ Below w.heap.size w w' := by
  cases b
  all_goals
    go_enter Tryd.func53, Tryd.ntmps53
    go_wp2
    all_goals go_ret
    all_goals refine ⟨ret_bool ?_, ((Below.refl _ _).alloc (Nat.le_refl _) _).alloc (by simp) _⟩
    all_goals go_light
    all_goals simp_all [wantH, eqB, inB]
  all_goals
    rw [Bool.eq_iff_iff]; simp; omega

set_option maxHeartbeats 1000000 in
theorem data_any (k f t l wt d : Int) (s : ByteArray) (a b c : Bool) (w : World) :
    Calls Tryd.prog 54 #[.agg #[.int .i64 k, .int .i64 f, .int .i64 t, .int .i64 l, .int .i64 wt, .int .i64 d], .agg #[.string s, .bool a, .bool b, .bool c]] w fun e w' => e = .returned (.bool (dataH c d)) ∧ Below w.heap.size w w' := by
  cases c
  all_goals
    go_enter Tryd.func54, Tryd.ntmps54
    go_wp2_with (go_at_call 47; refine (isValue_any _ _).mono ?_; rintro e w' ⟨rfl, rfl⟩)
    all_goals go_ret
    all_goals refine ⟨ret_bool ?_, ((Below.refl _ _).alloc (Nat.le_refl _) _).alloc (by simp) _⟩
    all_goals go_light
    all_goals simp_all [dataH, eqB]

end Go.Proofs.YtelknolcneiikaaDoor
