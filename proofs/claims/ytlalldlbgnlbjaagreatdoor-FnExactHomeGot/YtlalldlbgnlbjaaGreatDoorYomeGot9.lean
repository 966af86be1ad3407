/- Math -/
/-
  Plain facts on short rising lists of numbers 1 .. 5 and their bits: nothing of the program.
-/
namespace Ids

/-- rising, from m on, up to 5 -/
def rise : Int → List Int → Bool
  | _, [] => true
  | m, x :: t => decide (m ≤ x) && decide (x ≤ 5) && rise (x + 1) t

def ok (zs : List Int) : Bool := rise 1 zs

/-- the least that the k-th may be -/
def lo (zs : List Int) : Nat → Int
  | 0 => 1
  | k + 1 => zs.getD k 0 + 1

def rest (zs : List Int) (k : Nat) : Bool := rise (lo zs k) (zs.drop k)

theorem rest_zero (zs : List Int) : rest zs 0 = ok zs := rfl

theorem rest_end (zs : List Int) : rest zs zs.length = true := by
  simp [rest, List.drop_length, rise]

theorem drop_get (zs : List Int) (k : Nat) (h : k < zs.length) : zs.drop k = zs.getD k 0 :: zs.drop (k + 1) := by
  rw [List.drop_eq_getElem_cons h]; simp [h]

theorem rest_step (zs : List Int) (k : Nat) (h : k < zs.length) (h1 : lo zs k ≤ zs.getD k 0) (h2 : zs.getD k 0 ≤ 5) : rest zs k = rest zs (k + 1) := by
  unfold rest
  rw [drop_get zs k h, rise]
  simp only [h1, h2, decide_true, Bool.true_and]
  rfl

theorem rest_low (zs : List Int) (k : Nat) (h : k < zs.length) (h1 : zs.getD k 0 < lo zs k) : rest zs k = false := by
  unfold rest
  rw [drop_get zs k h, rise]
  have : decide (lo zs k ≤ zs.getD k 0) = false := decide_eq_false (by omega)
  rw [this]; rfl

theorem rest_high (zs : List Int) (k : Nat) (h : k < zs.length) (h1 : 5 < zs.getD k 0) : rest zs k = false := by
  unfold rest
  rw [drop_get zs k h, rise]
  have : decide (zs.getD k 0 ≤ 5) = false := decide_eq_false (by omega)
  rw [this]; simp

/-- the sum of the bits -/
def bs : List Int → Int
  | [] => 0
  | x :: t => 2 ^ x.toNat + bs t

theorem bs_append (a b : List Int) : bs (a ++ b) = bs a + bs b := by
  induction a with
  | nil => simp [bs]
  | cons x t ih => simp only [List.cons_append, bs, ih]; omega

theorem take_succ_get (zs : List Int) (k : Nat) (h : k < zs.length) : zs.take (k + 1) = zs.take k ++ [zs.getD k 0] := by
  rw [List.take_succ_eq_append_getElem h]; simp [h]

theorem bs_take (zs : List Int) (k : Nat) (h : k < zs.length) : bs (zs.take (k + 1)) = bs (zs.take k) + 2 ^ (zs.getD k 0).toNat := by
  rw [take_succ_get zs k h, bs_append]; simp [bs]

def opt (b : Bool) (n : Int) : List Int := if b then [n] else []

/-- what rises from m on begins with m, or rises from m + 1 on -/
theorem rise_split (m : Int) (zs : List Int) (h : rise m zs = true) : ∃ b t, zs = opt b m ++ t ∧ rise (m + 1) t = true := by
  cases zs with
  | nil => exact ⟨false, [], rfl, rfl⟩
  | cons x t =>
    simp only [rise, Bool.and_eq_true, decide_eq_true_eq] at h
    obtain ⟨⟨h1, h2⟩, h3⟩ := h
    by_cases e : x = m
    · subst e; exact ⟨true, t, rfl, h3⟩
    · refine ⟨false, x :: t, rfl, ?_⟩
      simp only [rise, Bool.and_eq_true, decide_eq_true_eq]
      exact ⟨⟨by omega, h2⟩, h3⟩

theorem rise_six (zs : List Int) (h : rise 6 zs = true) : zs = [] := by
  cases zs with
  | nil => rfl
  | cons x t =>
    simp only [rise, Bool.and_eq_true, decide_eq_true_eq] at h
    omega

def five (a b c d e : Bool) : List Int := opt a 1 ++ (opt b 2 ++ (opt c 3 ++ (opt d 4 ++ opt e 5)))

theorem ok_five (zs : List Int) (h : ok zs = true) : ∃ a b c d e, zs = five a b c d e := by
  obtain ⟨a, t1, h1, r1⟩ := rise_split 1 zs h
  obtain ⟨b, t2, h2, r2⟩ := rise_split 2 t1 r1
  obtain ⟨c, t3, h3, r3⟩ := rise_split 3 t2 r2
  obtain ⟨d, t4, h4, r4⟩ := rise_split 4 t3 r3
  obtain ⟨e, t5, h5, r5⟩ := rise_split 5 t4 r4
  have h6 := rise_six t5 r5
  refine ⟨a, b, c, d, e, ?_⟩
  rw [h1, h2, h3, h4, h5, h6]
  simp [five]

/-- the cores whose bit is set -/
def inSet (s : Int) : List Int := [1, 2, 3, 4, 5].filter fun n => s / 2 ^ n.toNat % 2 == 1
def withId (zs : List Int) (id : Int) : List Int := [1, 2, 3, 4, 5].filter fun n => n == id || zs.contains n
def withoutId (zs : List Int) (id : Int) : List Int := zs.filter fun n => !(n == id)

theorem bs_five (a b c d e : Bool) : 0 ≤ bs (five a b c d e) ∧ bs (five a b c d e) < 64 := by
  cases a <;> cases b <;> cases c <;> cases d <;> cases e <;> decide

theorem bs_lt (zs : List Int) (h : ok zs = true) : 0 ≤ bs zs ∧ bs zs < 64 := by
  obtain ⟨a, b, c, d, e, rfl⟩ := ok_five zs h
  exact bs_five a b c d e

/-- what a sum of bits that is below its next power has -/
theorem bits_bound (l s z : Int) (hl : 1 ≤ l) (hl6 : l ≤ 6) (h0 : 0 ≤ s) (hs : s < 2 ^ l.toNat) (hz : l ≤ z) (hz5 : z ≤ 5) : s < 2 ^ z.toNat ∧ 2 ^ z.toNat ≤ s + 2 ^ z.toNat ∧ s + 2 ^ z.toNat < 2 ^ (z + 1).toNat := by
  have e : l = 1 ∨ l = 2 ∨ l = 3 ∨ l = 4 ∨ l = 5 := by omega
  have e' : z = 1 ∨ z = 2 ∨ z = 3 ∨ z = 4 ∨ z = 5 := by omega
  rcases e with rfl | rfl | rfl | rfl | rfl <;> rcases e' with rfl | rfl | rfl | rfl | rfl <;> simp at * <;> omega

theorem bits_high (l s z : Int) (hl6 : l ≤ 6) (hs : 2 ^ (l - 1).toNat ≤ s) (hz : z < l) (hz1 : 1 ≤ z) : 2 ^ z.toNat ≤ s := by
  have e : l = 2 ∨ l = 3 ∨ l = 4 ∨ l = 5 ∨ l = 6 := by omega
  have e' : z = 1 ∨ z = 2 ∨ z = 3 ∨ z = 4 ∨ z = 5 := by omega
  rcases e with rfl | rfl | rfl | rfl | rfl <;> rcases e' with rfl | rfl | rfl | rfl | rfl <;> simp at * <;> omega

end Ids
