/- the text of a message: spec.MsgText -/
import Derived.Test.YtpebiebckdmopaaDoorMsgB
import Derived.Test.YtpebiebckdmopaaDoorMsgD
import Derived.Test.YtpebiebckdmopaaDoorDecA
import Derived.Deep.RegionHeld3
import Derived.Deep.CutRange
namespace Go.Proofs.YtpebiebckdmopaaDoor
open Go.RowKit

theorem keepc {w w' : World} (hb : Below w.heap.size w w') {a : Addr} {u : Value} (h : w.cell? a = some u) : w'.cell? a = some u := by
  rw [hb.cell (World.block_lt_of_cell? w a h)]; exact h

/-- a string of these bytes -/
def bstr (l : List UInt8) : ByteArray := ⟨l.toArray⟩
theorem bstr_size (l : List UInt8) : (bstr l).size = l.length := by simp [bstr, ByteArray.size]
theorem bstr_app (a b : List UInt8) : bstr a ++ bstr b = bstr (a ++ b) := by
  apply ByteArray.ext
  rw [ByteArray.data_append]
  simp [bstr]
theorem bstr_list (l : List UInt8) : (bstr l).data.toList = l := by simp [bstr]

/-- '+' on short strings -/
theorem add_ok {a b : List UInt8} (h : a.length + b.length ≤ 1000) (W : World) : (Op.stringOp .add (bstr a) (bstr b)).run Tryd.prog W = .ok (.string (bstr (a ++ b))) W := by
  rw [← bstr_app]
  exact run_string_add_sum (w := W) _ _ (by rw [bstr_size, bstr_size]; omega)

theorem dec_short (z : Int) (h1 : z ≤ 1000000) : (Lib.decDigits z.toNat).length ≤ 7 := by
  rw [Lib.decDigits_length]
  have step : ∀ (k u : Nat), u < 10 ^ (k + 1) → Lib.nDigits u ≤ k + 1 := by
    intro k
    induction k with
    | zero => intro u hu; rw [Lib.nDigits_small (by simpa using hu)]; omega
    | succ k ih =>
      intro u hu
      by_cases h : u < 10
      · rw [Lib.nDigits_small h]; omega
      · rw [Lib.nDigits_big h]
        have h2 : u / 10 < 10 ^ (k + 1) := by
          rw [Nat.div_lt_iff_lt_mul (by decide)]
          rw [Nat.pow_succ] at hu
          exact hu
        have := ih _ h2
        omega
  exact step 6 z.toNat (by have h2 : (10 : Nat) ^ (6 + 1) = 10000000 := by decide
                           omega)

theorem word_short : ∀ n, n < 10 → (shapeWord n).length ≤ 5 := by
  intro n hn
  have : n = 0 ∨ n = 1 ∨ n = 2 ∨ n = 3 ∨ n = 4 ∨ n = 5 ∨ n = 6 ∨ n = 7 ∨ n = 8 ∨ n = 9 := by omega
  rcases this with rfl | rfl | rfl | rfl | rfl | rfl | rfl | rfl | rfl | rfl <;> decide

set_option maxHeartbeats 1000000 in
theorem l2Words_any (n : Nat) (hn : n < 10) (w : World) :
    Calls Tryd.prog 20 #[] w fun e w' => ∃ g, e = .returned (.slice (some ⟨g, 0, none⟩) 10 10) ∧ w'.cell? ⟨g, n, none⟩ = some (.string (bstr (shapeWord n))) ∧ Below w.heap.size w w' := by
  go_enter Tryd.func20, Tryd.ntmps20
  go_wp2
  go_ret
  refine ⟨_, rfl, ?_, (Below.refl _ _).alloc (Nat.le_refl _) _⟩
  have : n = 0 ∨ n = 1 ∨ n = 2 ∨ n = 3 ∨ n = 4 ∨ n = 5 ∨ n = 6 ∨ n = 7 ∨ n = 8 ∨ n = 9 := by omega
  rw [World.cell?_alloc_mark]
  rcases this with rfl | rfl | rfl | rfl | rfl | rfl | rfl | rfl | rfl | rfl <;> rfl

/-- the digits of a number from 0 to a million -/
def dec (z : Int) : List UInt8 := Lib.decDigits z.toNat
theorem dec_len {z : Int} (h1 : z ≤ 1000000) : (dec z).length ≤ 7 := dec_short z h1
theorem dec_any (z : Int) (w : World) (h0 : 0 ≤ z) (h1 : z ≤ 1000000) :
    Calls Tryd.prog 21 #[.int .i64 z] w fun e w' => e = .returned (.string (bstr (dec z))) ∧ Below w.heap.size w w' := l1Dec_any z w h0 h1

/-- the text -/
def body (n : Nat) (c l : Int) : List UInt8 := shapeWord n ++ [32] ++ dec c ++ [32] ++ dec l
def text (n : Nat) (c l wt d : Int) : List UInt8 := body n c l ++ (if shapeWant n then [32] ++ dec wt else []) ++ (if shapeData n then [32] ++ dec d else [])

end Go.Proofs.YtpebiebckdmopaaDoor
