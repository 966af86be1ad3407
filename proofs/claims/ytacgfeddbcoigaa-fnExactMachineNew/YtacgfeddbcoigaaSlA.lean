/- slots: the small tests; SlotOk of both sides by one Bool function; toSlot, eqSlot -/
import Derived.Test.YtacgfeddbcoigaaChecked
import Derived.WalkKit
import Derived.WalkSpells
import Derived.WalkLawsBesides
import Derived.Deep.Light
namespace Go.Proofs.Ytacgfeddbcoigaa
open Go.RowKit

def inB (n a b : Int) : Bool := decide (a ≤ n) && decide (n ≤ b)
theorem inB_yes {n a b : Int} (h1 : a ≤ n) (h2 : n ≤ b) : inB n a b = true := by simp [inB, h1, h2]
theorem inB_no {n a b : Int} (h : ¬ (a ≤ n ∧ n ≤ b)) : inB n a b = false := by
  rw [Bool.eq_false_iff]; intro e; simp [inB] at e; exact h e
theorem inB_iff {n a b : Int} : inB n a b = true ↔ a ≤ n ∧ n ≤ b := by simp [inB]
def eqB (n m : Int) : Bool := n == m

theorem ret_bool {a b : Bool} (h : a = b) : Ending.returned (.bool a) = .returned (.bool b) := by rw [h]
theorem ret_int {k : IntKind} {a b : Int} (h : a = b) : Ending.returned (.int k a) = .returned (.int k b) := by rw [h]
theorem hide {p : Prop} (h : p) : Hid p := h

set_option maxHeartbeats 400000 in
theorem in_any (n a b : Int) (w : World) : Calls Try.prog 9 #[.int .i64 n, .int .i64 a, .int .i64 b] w fun e w' => e = .returned (.bool (inB n a b)) ∧ w' = w := by
  by_cases h1 : a ≤ n
  · by_cases h2 : n ≤ b
    · have HR := hide (inB_yes h1 h2)
      go_enter Try.func9, Try.ntmps9
      go_wp2
      go_ret
      exact ⟨ret_bool HR.out.symm, rfl⟩
    · have HR : Hid (inB n a b = false) := hide (inB_no (by omega))
      go_enter Try.func9, Try.ntmps9
      go_wp2
      go_ret
      exact ⟨ret_bool HR.out.symm, rfl⟩
  · have HR : Hid (inB n a b = false) := hide (inB_no (by omega))
    go_enter Try.func9, Try.ntmps9
    go_wp2
    go_ret
    exact ⟨ret_bool HR.out.symm, rfl⟩

/-- hasOk's answer -/
def hasB (st d : Int) : Bool := if st = 0 then d == 0 else inB st 1 3 && inB d 0 1000000
/-- wishOk's answer -/
def wishB (st wt v : Int) : Bool := if wt = 0 then v == 0 else if wt = 1 then v == 0 && st == 0 else if wt = 2 then inB v 0 1000000 && (st == 0 || st == 1) else false
/-- a right slot -/
def slB (st d wt v : Int) : Bool := hasB st d && wishB st wt v

theorem hasB_iff {st d : Int} : hasB st d = true ↔ (st = 0 ∧ d = 0) ∨ ((st = 1 ∨ st = 2 ∨ st = 3) ∧ 0 ≤ d ∧ d ≤ 1000000) := by
  unfold hasB
  by_cases h : st = 0
  · subst h; simp
  · rw [if_neg h, Bool.and_eq_true, inB_iff, inB_iff]; omega

theorem wishB_iff {st wt v : Int} : wishB st wt v = true ↔ (wt = 0 ∧ v = 0) ∨ (wt = 1 ∧ v = 0 ∧ st = 0) ∨ (wt = 2 ∧ 0 ≤ v ∧ v ≤ 1000000 ∧ (st = 0 ∨ st = 1)) := by
  unfold wishB
  by_cases h : wt = 0
  · subst h; simp
  · rw [if_neg h]
    by_cases h1 : wt = 1
    · subst h1; simp
    · rw [if_neg h1]
      by_cases h2 : wt = 2
      · subst h2; simp [inB]; constructor
        · rintro ⟨⟨a, b⟩, c⟩; exact ⟨a, b, c⟩
        · rintro ⟨a, b, c⟩; exact ⟨⟨a, b⟩, c⟩
      · simp [h, h1, h2]

/-- what a right slot is, case by case -/
theorem slB_cases {st d wt v : Int} (h : slB st d wt v = true) : (0 ≤ d ∧ d ≤ 1000000 ∧ 0 ≤ v ∧ v ≤ 1000000) ∧
    ((st = 0 ∧ d = 0 ∧ wt = 0 ∧ v = 0) ∨ (st = 0 ∧ d = 0 ∧ wt = 1 ∧ v = 0) ∨ (st = 0 ∧ d = 0 ∧ wt = 2) ∨ (st = 1 ∧ wt = 0 ∧ v = 0) ∨ (st = 1 ∧ wt = 2) ∨ (st = 2 ∧ wt = 0 ∧ v = 0) ∨ (st = 3 ∧ wt = 0 ∧ v = 0)) := by
  unfold slB at h
  rw [Bool.and_eq_true, hasB_iff, wishB_iff] at h
  obtain ⟨h1, h2⟩ := h
  rcases h1 with ⟨rfl, rfl⟩ | ⟨rfl | rfl | rfl, hd⟩ <;> rcases h2 with ⟨rfl, rfl⟩ | ⟨rfl, rfl, hs⟩ | ⟨rfl, hv1, hv2, hs⟩ <;> simp_all

theorem slB_of {st d wt v : Int} (h0 : 0 ≤ d ∧ d ≤ 1000000 ∧ 0 ≤ v ∧ v ≤ 1000000)
    (h : (st = 0 ∧ d = 0 ∧ wt = 0 ∧ v = 0) ∨ (st = 0 ∧ d = 0 ∧ wt = 1 ∧ v = 0) ∨ (st = 0 ∧ d = 0 ∧ wt = 2) ∨ (st = 1 ∧ wt = 0 ∧ v = 0) ∨ (st = 1 ∧ wt = 2) ∨ (st = 2 ∧ wt = 0 ∧ v = 0) ∨ (st = 3 ∧ wt = 0 ∧ v = 0)) : slB st d wt v = true := by
  unfold slB
  rw [Bool.and_eq_true, hasB_iff, wishB_iff]
  rcases h with ⟨rfl, rfl, rfl, rfl⟩ | ⟨rfl, rfl, rfl, rfl⟩ | ⟨rfl, rfl, rfl⟩ | ⟨rfl, rfl, rfl⟩ | ⟨rfl, rfl⟩ | ⟨rfl, rfl, rfl⟩ | ⟨rfl, rfl, rfl⟩ <;> simp_all

theorem slB_not {st d wt v : Int} (h : slB st d wt v = true → False) : slB st d wt v = false := by
  rw [Bool.eq_false_iff]; exact h

theorem bcell {W w1 : World} (hb : Below W.heap.size W w1) : (∀ b o, b < W.heap.size → w1.cell? ⟨b, o, none⟩ = W.cell? ⟨b, o, none⟩) ∧ (∀ b o, b < W.heap.size → w1.frozen? ⟨b, o, none⟩ = W.frozen? ⟨b, o, none⟩) :=
  ⟨fun b o h => hb.cell (p := ⟨b, o, none⟩) h, fun b o h => hb.frozen (p := ⟨b, o, none⟩) h⟩
theorem keepc {w w' : World} (hb : Below w.heap.size w w') {a : Addr} {u : Value} (h : w.cell? a = some u) : w'.cell? a = some u := by
  rw [hb.cell (World.block_lt_of_cell? w a h)]; exact h

/-- four cells of a box, kept -/
def SC (w : World) (B : Nat) (a b c d : Int) (wx : World) : Prop :=
  Below w.heap.size w wx ∧ wx.cell? ⟨B, 0, none⟩ = some (.int .i64 a) ∧ wx.cell? ⟨B, 1, none⟩ = some (.int .i64 b) ∧ wx.cell? ⟨B, 2, none⟩ = some (.int .i64 c) ∧ wx.cell? ⟨B, 3, none⟩ = some (.int .i64 d)
theorem sc_next {w wx wy : World} {B : Nat} {a b c d : Int} (h : SC w B a b c d wx) (hb : Below wx.heap.size wx wy) : SC w B a b c d wy :=
  ⟨h.1.trans (hb.mono h.1.size), keepc hb h.2.1, keepc hb h.2.2.1, keepc hb h.2.2.2.1, keepc hb h.2.2.2.2⟩
theorem sc_box (w : World) (a b c d : Int) (T : TypeId) : SC w w.heap.size a b c d (w.alloc (.cells #[.int .i64 a, .int .i64 b, .int .i64 c, .int .i64 d] T)) :=
  ⟨(Below.refl _ _).alloc (Nat.le_refl _) _, by simp, by simp, by simp, by simp⟩

end Go.Proofs.Ytacgfeddbcoigaa
