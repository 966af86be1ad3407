/- splitting at blanks, reading numerals: nothing of the program -/
import Derived.Lib.SplitLaws
import Derived.Lib.ItoaNum
namespace Rdm
open Go

/-- cut at each blank -/
def sp : List UInt8 → List (List UInt8)
  | [] => [[]]
  | c :: r => if c = 32 then [] :: sp r else match sp r with
    | [] => [[c]]
    | x :: xs => (c :: x) :: xs

def onHead (c : UInt8) : List (List UInt8) → List (List UInt8)
  | [] => [[c]]
  | x :: xs => (c :: x) :: xs

theorem sp_blank (r : List UInt8) : sp (32 :: r) = [] :: sp r := by simp [sp]
theorem sp_other (c : UInt8) (r : List UInt8) (h : c ≠ 32) : sp (c :: r) = onHead c (sp r) := by
  rw [sp, if_neg h]; rfl
theorem sp_ne (s : List UInt8) : sp s ≠ [] := by
  cases s with
  | nil => simp [sp]
  | cons c r =>
    by_cases h : c = 32
    · subst h; rw [sp_blank]; simp
    · rw [sp_other c r h]; cases sp r <;> simp [onHead]

theorem sp_word (x : List UInt8) (hx : (32 : UInt8) ∉ x) : sp x = [x] := by
  induction x with
  | nil => rfl
  | cons c r ih =>
    simp only [List.mem_cons, not_or] at hx
    rw [sp_other c r (fun e => hx.1 e.symm), ih hx.2]; rfl

theorem sp_join (x r : List UInt8) (hx : (32 : UInt8) ∉ x) : sp (x ++ 32 :: r) = x :: sp r := by
  induction x with
  | nil => exact sp_blank r
  | cons c t ih =>
    simp only [List.mem_cons, not_or] at hx
    rw [List.cons_append, sp_other c _ (fun e => hx.1 e.symm), ih hx.2]; rfl

/-- the pieces joined again -/
def jn : List (List UInt8) → List UInt8
  | [] => []
  | [x] => x
  | x :: y :: r => x ++ 32 :: jn (y :: r)

theorem jn_sp (s : List UInt8) : jn (sp s) = s := by
  induction s with
  | nil => rfl
  | cons c r ih =>
    by_cases h : c = 32
    · subst h
      rw [sp_blank]
      cases hr : sp r with
      | nil => exact absurd hr (sp_ne r)
      | cons x xs => rw [hr] at ih; show [] ++ 32 :: jn (x :: xs) = _; rw [ih]; rfl
    · rw [sp_other c r h]
      cases hr : sp r with
      | nil => exact absurd hr (sp_ne r)
      | cons x xs =>
        rw [hr] at ih
        cases xs with
        | nil => show c :: x = _; rw [← ih]; rfl
        | cons y ys => show (c :: x) ++ 32 :: jn (y :: ys) = _; rw [← ih]; rfl

theorem sp_jn : ∀ (ws : List (List UInt8)), ws ≠ [] → (∀ x ∈ ws, (32 : UInt8) ∉ x) → sp (jn ws) = ws
  | [], h, _ => absurd rfl h
  | [x], _, hx => sp_word x (hx x (by simp))
  | x :: y :: r, _, hx => by
    show sp (x ++ 32 :: jn (y :: r)) = _
    rw [sp_join x _ (hx x (by simp)), sp_jn (y :: r) (by simp) (fun z hz => hx z (by simp at hz ⊢; exact .inr hz))]

theorem index_blank (l : List UInt8) : Lib.index (32 :: l) [32] = 0 := by simp [Lib.index]
theorem index_cons (c : UInt8) (l : List UInt8) (h : c ≠ 32) : Lib.index (c :: l) [32] = if Lib.index l [32] == -1 then -1 else Lib.index l [32] + 1 := by
  rw [Lib.index]
  have : ([32] : List UInt8).isPrefixOf (c :: l) = false := by simp [List.isPrefixOf]; exact fun e => h e.symm
  rw [this]; rfl

theorem splitK_cons (c : UInt8) (h : c ≠ 32) (k : Nat) (l : List UInt8) : Lib.splitK [32] 0 k (c :: l) = onHead c (Lib.splitK [32] 0 k l) := by
  cases k with
  | zero => rfl
  | succ k =>
    unfold Lib.splitK
    rw [index_cons c l h]
    rcases Lib.index_spec l [32] with ⟨hm, _⟩ | ⟨i, hi, _⟩
    · rw [hm]; rfl
    · rw [hi]
      have e1 : ((i : Int) == -1) = false := by
        rw [beq_eq_false_iff_ne]; omega
      have e2 : (((i : Int) + 1) == -1) = false := by
        rw [beq_eq_false_iff_ne]; omega
      simp only [e1, e2, Bool.false_eq_true, if_false]
      have e3 : ((i : Int) + 1).toNat = i + 1 := by omega
      have e4 : ((i : Int)).toNat = i := by omega
      rw [e3, e4]
      rfl

theorem split_sp (s : List UInt8) : Lib.splitK [32] 0 (Lib.count s [32]) s = sp s := by
  induction s with
  | nil => rfl
  | cons c l ih =>
    by_cases h : c = 32
    · subst h
      rw [Lib.count_cons_eq, Nat.add_comm, sp_blank, ← ih]
      rw [Lib.splitK, index_blank]
      rfl
    · rw [Lib.count_cons_ne c 32 l h, splitK_cons c h, ih, sp_other c l h]

/-- what the digits say -/
def dv : List UInt8 → Nat → Option Nat
  | [], n => some n
  | c :: r, n => if 48 ≤ c.toNat ∧ c.toNat ≤ 57 then dv r (n * 10 + (c.toNat - 48)) else none

theorem dv_snoc (a : List UInt8) (c : UInt8) (n : Nat) : dv (a ++ [c]) n = (dv a n).bind fun m => if 48 ≤ c.toNat ∧ c.toNat ≤ 57 then some (m * 10 + (c.toNat - 48)) else none := by
  induction a generalizing n with
  | nil => simp [dv]
  | cons x r ih =>
    rw [List.cons_append, dv, dv]
    split
    · exact ih _
    · rfl

def lead (w : List UInt8) : Prop := w ≠ [] ∧ (w.head? = some 48 → w = [48])

theorem byte_of (u : Nat) (h : u < 10) : (UInt8.ofNat (48 + u)).toNat = 48 + u := by simp [UInt8.toNat_ofNat']; omega

theorem dv_dec (v : Nat) : dv (Lib.decDigits v) 0 = some v := by
  induction v using Nat.strongRecOn with
  | _ v ih =>
    rw [Lib.decDigits]
    by_cases h : v < 10
    · rw [dif_pos h, dv, byte_of v h, if_pos (by omega), dv]
      congr 1
      omega
    · rw [dif_neg h, dv_snoc, ih (v / 10) (by omega), Option.bind_some, byte_of (v % 10) (by omega), if_pos (by omega)]
      congr 1
      omega

theorem dec_ne (v : Nat) : Lib.decDigits v ≠ [] := by
  rw [Lib.decDigits]; split <;> simp

theorem dec_head (v : Nat) (h : (Lib.decDigits v).head? = some 48) : v = 0 := by
  induction v using Nat.strongRecOn with
  | _ v ih =>
    rw [Lib.decDigits] at h
    by_cases hv : v < 10
    · rw [dif_pos hv] at h
      have h1 : UInt8.ofNat (48 + v) = 48 := Option.some.inj h
      have := congrArg UInt8.toNat h1
      rw [byte_of v hv] at this
      have e : (48 : UInt8).toNat = 48 := rfl
      omega
    · rw [dif_neg hv] at h
      have h2 : (Lib.decDigits (v / 10)).head? = some 48 := by
        cases hd : Lib.decDigits (v / 10) with
        | nil => exact absurd hd (dec_ne _)
        | cons x r => rw [hd] at h; simpa using h
      have := ih (v / 10) (by omega) h2
      omega

theorem dec_lead (v : Nat) : lead (Lib.decDigits v) := by
  refine ⟨dec_ne v, fun h => ?_⟩
  rw [dec_head v h, Lib.decDigits, dif_pos (by decide)]
  rfl

theorem dec_digits (v : Nat) : ∀ c ∈ Lib.decDigits v, 48 ≤ c.toNat ∧ c.toNat ≤ 57 := by
  induction v using Nat.strongRecOn with
  | _ v ih =>
    rw [Lib.decDigits]
    by_cases h : v < 10
    · rw [dif_pos h]
      intro c hc
      have hc : c = UInt8.ofNat (48 + v) := List.mem_singleton.1 hc
      subst hc
      rw [byte_of v h]; omega
    · rw [dif_neg h]
      intro c hc
      rw [List.mem_append] at hc
      rcases hc with hc | hc
      · exact ih (v / 10) (by omega) c hc
      · have hc : c = UInt8.ofNat (48 + v % 10) := List.mem_singleton.1 hc
        subst hc
        rw [byte_of (v % 10) (by omega)]; omega

theorem dec_blank (v : Nat) : (32 : UInt8) ∉ Lib.decDigits v := fun h => by
  have := dec_digits v 32 h
  simp at this

/-- a numeral without a nought ahead is the digits of its number -/
theorem dv_inv : ∀ (k : Nat) (w : List UInt8) (v : Nat), w.length = k → lead w → dv w 0 = some v → w = Lib.decDigits v ∧ (w ≠ [48] → 1 ≤ v)
  | 0, w, v, hk, hl, _ => absurd (List.eq_nil_of_length_eq_zero hk) hl.1
  | k + 1, w, v, hk, hl, hv => by
    have hw : w = w.dropLast ++ [w.getLast hl.1] := (List.dropLast_concat_getLast hl.1).symm
    generalize hc : w.getLast hl.1 = c at hw
    generalize ha : w.dropLast = a at hw
    rw [hw, dv_snoc] at hv
    cases hd : dv a 0 with
    | none => rw [hd] at hv; simp at hv
    | some m =>
      rw [hd, Option.bind_some] at hv
      by_cases hcd : 48 ≤ c.toNat ∧ c.toNat ≤ 57
      · rw [if_pos hcd] at hv
        have hvm : v = m * 10 + (c.toNat - 48) := (Option.some.inj hv).symm
        have hcb : c = UInt8.ofNat (48 + (c.toNat - 48)) := by
          have e : 48 + (c.toNat - 48) = c.toNat := by omega
          rw [e, UInt8.ofNat_toNat]
        cases a with
        | nil =>
          rw [dv] at hd
          have hm : m = 0 := (Option.some.inj hd).symm
          have hv10 : v < 10 := by omega
          have hwc : w = [c] := by rw [hw]; rfl
          refine ⟨?_, fun hne => ?_⟩
          · rw [hwc, Lib.decDigits, dif_pos hv10, hcb]
            have : v = c.toNat - 48 := by omega
            rw [this]
          · have : c ≠ 48 := fun e => hne (by rw [hwc, e])
            have h2 : c.toNat ≠ 48 := fun e => this (by rw [hcb, e]; rfl)
            omega
        | cons x r =>
          have hla : lead (x :: r) := by
            refine ⟨by simp, fun hh => ?_⟩
            have : w.head? = some 48 := by rw [hw]; simpa using hh
            have := hl.2 this
            rw [this] at hw
            simp at hw
          have hne : x :: r ≠ [48] := fun e => by
            have : w.head? = some 48 := by rw [hw, e]; rfl
            have := hl.2 this
            rw [this, e] at hw
            simp at hw
          have hlen : (x :: r).length = k := by
            have := congrArg List.length hw
            rw [hk] at this
            simp at this ⊢
            omega
          obtain ⟨h1, h2⟩ := dv_inv k (x :: r) m hlen hla hd
          have hm1 := h2 hne
          refine ⟨?_, fun _ => by omega⟩
          rw [Lib.decDigits, dif_neg (by omega)]
          have e1 : v / 10 = m := by omega
          have e2 : v % 10 = c.toNat - 48 := by omega
          rw [e1, e2, ← h1, ← hcb]
          exact hw
      · rw [if_neg hcd] at hv; simp at hv

/-- a number in decimal of at most nine digits, without noughts ahead -/
def rd (w : List UInt8) : Option Nat := if w = [] ∨ 9 < w.length ∨ (w.head? = some 48 ∧ w ≠ [48]) then none else dv w 0

theorem rd_inv {w : List UInt8} {v : Nat} (h : rd w = some v) : w = Lib.decDigits v := by
  unfold rd at h
  split at h
  · cases h
  · rename_i hn
    simp only [not_or, not_and, Classical.not_not] at hn
    exact (dv_inv w.length w v rfl ⟨hn.1, hn.2.2⟩ h).1

theorem rd_dec (v : Nat) (hl : (Lib.decDigits v).length ≤ 9) : rd (Lib.decDigits v) = some v := by
  unfold rd
  rw [if_neg]
  · exact dv_dec v
  · rintro (h | h | ⟨h1, h2⟩)
    · exact dec_ne v h
    · omega
    · exact h2 ((dec_lead v).2 h1)

/-- the pieces that are not empty -/
def nz (ws : List (List UInt8)) : List (List UInt8) := ws.filter fun x => !x.isEmpty
theorem nz_all (ws : List (List UInt8)) (h : ∀ x ∈ ws, x ≠ []) : nz ws = ws := by
  unfold nz
  rw [List.filter_eq_self]
  intro x hx
  have := h x hx
  cases x with
  | nil => exact absurd rfl this
  | cons => rfl

end Rdm
