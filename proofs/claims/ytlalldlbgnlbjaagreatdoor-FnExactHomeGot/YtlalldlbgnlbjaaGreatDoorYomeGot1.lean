/- MsgC, SlA -/
import Derived.Test.YtlalldlbgnlbjaaGreatDoorYomeGot0
import Derived.WalkKit
import Derived.WalkSpells
import Derived.WalkLawsBesides
import Derived.Deep.Light
/- impl's three tests of a message against a row of the table; toMsg -/
namespace Go.Proofs.YtlalldlbgnlbjaaGreatDoor
open Go.RowKit

theorem bcell {W w1 : World} (hb : Below W.heap.size W w1) : (∀ b o, b < W.heap.size → w1.cell? ⟨b, o, none⟩ = W.cell? ⟨b, o, none⟩) ∧ (∀ b o, b < W.heap.size → w1.frozen? ⟨b, o, none⟩ = W.frozen? ⟨b, o, none⟩) :=
  ⟨fun b o h => hb.cell (p := ⟨b, o, none⟩) h, fun b o h => hb.frozen (p := ⟨b, o, none⟩) h⟩

def endsH (h : Bool) (f t : Int) : Bool := if h then inB f 1 5 && eqB t 0 else inB t 1 5 && eqB f 0
def wantH (h : Bool) (w : Int) : Bool := if h then inB w 1 2 else eqB w 0
def dataH (h : Bool) (d : Int) : Bool := if h then inB d 0 1000000 else eqB d 0

set_option maxHeartbeats 1000000 in
theorem ends_any (k f t l wt d : Int) (s : ByteArray) (a b c : Bool) (w : World) :
    Calls Tryz.prog 46 #[.agg #[.int .i64 k, .int .i64 f, .int .i64 t, .int .i64 l, .int .i64 wt, .int .i64 d], .agg #[.string s, .bool a, .bool b, .bool c]] w fun e w' => e = .returned (.bool (endsH a f t)) ∧ Below w.heap.size w w' := by
  cases a
  all_goals
    go_enter Tryz.func46, Tryz.ntmps46
    go_wp2_with (go_at_call 51; refine (isCore_any _ _).mono ?_; rintro e w' ⟨rfl, rfl⟩)
    all_goals go_ret
    all_goals refine ⟨ret_bool ?_, ((Below.refl _ _).alloc (Nat.le_refl _) _).alloc (by simp) _⟩
    all_goals go_light
    all_goals simp_all [endsH, eqB]

set_option maxHeartbeats 1000000 in
theorem want_any (k f t l wt d : Int) (s : ByteArray) (a b c : Bool) (w : World) :
    Calls Tryz.prog 48 #[.agg #[.int .i64 k, .int .i64 f, .int .i64 t, .int .i64 l, .int .i64 wt, .int .i64 d], .agg #[.string s, .bool a, .bool b, .bool c]] w fun e w' => e = .returned (.bool (wantH b wt)) ∧ Below w.heap.size w w' := by
  cases b
  all_goals
    go_enter Tryz.func48, Tryz.ntmps48
    go_wp2
    all_goals go_ret
    all_goals refine ⟨ret_bool ?_, ((Below.refl _ _).alloc (Nat.le_refl _) _).alloc (by simp) _⟩
    all_goals go_light
    all_goals simp_all [wantH, eqB, inB]
  all_goals
    rw [Bool.eq_iff_iff]; simp; omega

set_option maxHeartbeats 1000000 in
theorem data_any (k f t l wt d : Int) (s : ByteArray) (a b c : Bool) (w : World) :
    Calls Tryz.prog 49 #[.agg #[.int .i64 k, .int .i64 f, .int .i64 t, .int .i64 l, .int .i64 wt, .int .i64 d], .agg #[.string s, .bool a, .bool b, .bool c]] w fun e w' => e = .returned (.bool (dataH c d)) ∧ Below w.heap.size w w' := by
  cases c
  all_goals
    go_enter Tryz.func49, Tryz.ntmps49
    go_wp2_with (go_at_call 50; refine (isValue_any _ _).mono ?_; rintro e w' ⟨rfl, rfl⟩)
    all_goals go_ret
    all_goals refine ⟨ret_bool ?_, ((Below.refl _ _).alloc (Nat.le_refl _) _).alloc (by simp) _⟩
    all_goals go_light
    all_goals simp_all [dataH, eqB]

set_option maxHeartbeats 1000000 in
theorem toMsg_any (k f t l wt d : Int) (w : World) :
    Calls Tryz.prog 8 #[.agg #[.int .i64 k, .int .i64 f, .int .i64 t, .int .i64 l, .int .i64 wt, .int .i64 d]] w fun e w' => e = .returned (.agg #[.int .i64 k, .int .i64 f, .int .i64 t, .int .i64 l, .int .i64 wt, .int .i64 d]) ∧ Below w.heap.size w w' := by
  go_enter Tryz.func8, Tryz.ntmps8
  go_wp2
  refine bodyPost_ret (v := .agg #[.int .i64 k, .int .i64 f, .int .i64 t, .int .i64 l, .int .i64 wt, .int .i64 d]) (by simp [results, Tryz.results8, go_sem]) rfl ⟨rfl, ?_⟩
  exact (((Below.refl _ _).alloc (Nat.le_refl _) _).alloc (by simp) _).alloc (by simp; omega) _

end Go.Proofs.YtlalldlbgnlbjaaGreatDoor

/- slots: the small tests; SlotOk of both sides by one Bool function; toSlot, eqSlot -/
namespace Go.Proofs.YtlalldlbgnlbjaaGreatDoor
open Go.RowKit

theorem inB_iff {n a b : Int} : inB n a b = true ↔ a ≤ n ∧ n ≤ b := by simp [inB]

theorem keepc {w w' : World} (hb : Below w.heap.size w w') {a : Addr} {u : Value} (h : w.cell? a = some u) : w'.cell? a = some u := by
  rw [hb.cell (World.block_lt_of_cell? w a h)]; exact h

end Go.Proofs.YtlalldlbgnlbjaaGreatDoor
