/- both readings are one: nothing of the program's walks -/
import Derived.Test.YtpebiebckdmopaaDoorRmW0
namespace Go.Proofs.YtpebiebckdmopaaDoor
open Go.RowKit

/-- the words of a right message -/
def wordsOf (n : Nat) (c l wt d : Int) : List (List UInt8) := [shapeWord n, dec c, dec l] ++ (if shapeWant n then [dec wt] else []) ++ (if shapeData n then [dec d] else [])

theorem text_words (n : Nat) (c l wt d : Int) : text n c l wt d = Rdm.jn (wordsOf n c l wt d) := by
  unfold text body wordsOf
  cases shapeWant n <;> cases shapeData n <;> simp [Rdm.jn]

theorem word_blank : ∀ n ∈ [1, 2, 3, 4, 5, 6, 7, 8, 9], (32 : UInt8) ∉ shapeWord n ∧ shapeWord n ≠ [] := by decide

theorem words_ok (n : Nat) (h1 : 1 ≤ n) (h9 : n ≤ 9) (c l wt d : Int) : ∀ x ∈ wordsOf n c l wt d, (32 : UInt8) ∉ x ∧ x ≠ [] := by
  have hd : ∀ z : Int, (32 : UInt8) ∉ dec z ∧ dec z ≠ [] := fun z => ⟨Rdm.dec_blank _, Rdm.dec_ne _⟩
  have hn := word_blank n (kind_mem n h1 h9)
  intro x hx
  unfold wordsOf at hx
  simp only [List.mem_append, List.mem_cons, List.not_mem_nil, or_false] at hx
  rcases hx with ((rfl | rfl | rfl) | hx) | hx
  · exact hn
  · exact hd _
  · exact hd _
  · split at hx
    · simp at hx; subst hx; exact hd _
    · simp at hx
  · split at hx
    · simp at hx; subst hx; exact hd _
    · simp at hx

theorem sp_text (n : Nat) (h1 : 1 ≤ n) (h9 : n ≤ 9) (c l wt d : Int) : Rdm.sp (text n c l wt d) = wordsOf n c l wt d := by
  rw [text_words]
  exact Rdm.sp_jn _ (by simp [wordsOf]) (fun x hx => (words_ok n h1 h9 c l wt d x hx).1)

theorem rd_of_dec {z : Int} (_ : 0 ≤ z) (h1 : z ≤ 1000000) : Rdm.rd (dec z) = some z.toNat := by
  have := dec_len h1
  exact Rdm.rd_dec _ (by unfold dec at this; omega)

theorem kd_word : ∀ n ∈ [1, 2, 3, 4, 5, 6, 7, 8, 9], kd (shapeWord n) = some n := by decide

/-- a right message in its parts -/
theorem ok_parts {n : Nat} {f t l wt d : Int} (h1 : 1 ≤ n) (h9 : n ≤ 9) (h : okB (n : Int) f t l wt d = true) :
    (if shapeHome n then t = 0 else f = 0) ∧ (0 ≤ f + t ∧ f + t ≤ 1000000) ∧ (0 ≤ l ∧ l ≤ 1000000) ∧ (0 ≤ wt ∧ wt ≤ 1000000) ∧ (0 ≤ d ∧ d ≤ 1000000) ∧ (shapeWant n = false → wt = 0) ∧ (shapeData n = false → d = 0) := by
  rw [okB_split n h1 h9] at h
  simp only [Bool.and_eq_true, endsH, wantH, dataH] at h
  obtain ⟨⟨⟨he, hl⟩, hw⟩, hd⟩ := h
  simp only [inB, Bool.and_eq_true, decide_eq_true_eq] at hl
  cases hh : shapeHome n <;> cases hw' : shapeWant n <;> cases hd' : shapeData n <;> simp [hh, hw', hd', inB, eqB] at he hw hd ⊢ <;> omega

/-- complete: the words of a right message are read as it -/
theorem parse_words {n : Nat} {f t l wt d : Int} (h1 : 1 ≤ n) (h9 : n ≤ 9) (h : okB (n : Int) f t l wt d = true) : parse (wordsOf n (f + t) l wt d) = some ((n : Int), f, t, l, wt, d) := by
  obtain ⟨pe, ⟨c0, c1⟩, ⟨l0, l1⟩, ⟨w0, w1⟩, ⟨d0, d1⟩, pw, pd⟩ := ok_parts h1 h9 h
  have ec : (((f + t).toNat : Nat) : Int) = f + t := Int.toNat_of_nonneg c0
  have el : ((l.toNat : Nat) : Int) = l := Int.toNat_of_nonneg l0
  have ew : ((wt.toNat : Nat) : Int) = wt := Int.toNat_of_nonneg w0
  have ed : ((d.toNat : Nat) : Int) = d := Int.toNat_of_nonneg d0
  have kk := kd_word n (kind_mem n h1 h9)
  have rc := rd_of_dec c0 c1
  have rl := rd_of_dec l0 l1
  have rw' := rd_of_dec w0 w1
  have rd' := rd_of_dec d0 d1
  cases hh : shapeHome n <;> cases hw : shapeWant n <;> cases hd : shapeData n
  all_goals
    simp only [hh, Bool.false_eq_true, if_false, if_true] at pe
    subst pe
    first | (have e1 := pw hw; subst e1) | skip
    first | (have e2 := pd hd; subst e2) | skip
    simp only [Int.zero_add, Int.add_zero] at *
    simp [parse, wordsOf, hh, hw, hd, kd1, kk, num1, rc, rl, rw', rd', numIf, lastly, ec, el, ew, ed, ok6, h]

theorem sread_words {n : Nat} {f t l wt d : Int} (h1 : 1 ≤ n) (h9 : n ≤ 9) (h : okB (n : Int) f t l wt d = true) : sread (wordsOf n (f + t) l wt d) = ((n : Int), f, t, l, wt, d) := by
  obtain ⟨pe, ⟨c0, c1⟩, ⟨l0, l1⟩, ⟨w0, w1⟩, ⟨d0, d1⟩, pw, pd⟩ := ok_parts h1 h9 h
  have ec : (((f + t).toNat : Nat) : Int) = f + t := Int.toNat_of_nonneg c0
  have el : ((l.toNat : Nat) : Int) = l := Int.toNat_of_nonneg l0
  have ew : ((wt.toNat : Nat) : Int) = wt := Int.toNat_of_nonneg w0
  have ed : ((d.toNat : Nat) : Int) = d := Int.toNat_of_nonneg d0
  have kk : kOf (wordsOf n (f + t) l wt d) = n := by
    have := kUp_word n (kind_mem n h1 h9)
    simpa [wordsOf, kOf] using this
  have rc := rd_of_dec c0 c1
  have rl := rd_of_dec l0 l1
  have rw' := rd_of_dec w0 w1
  have rd' := rd_of_dec d0 d1
  unfold sread
  rw [kk]
  clear kk
  cases hh : shapeHome n <;> cases hw : shapeWant n <;> cases hd : shapeData n
  all_goals
    simp only [hh, Bool.false_eq_true, if_false, if_true] at pe
    subst pe
    first | (have e1 := pw hw; subst e1) | skip
    first | (have e2 := pd hd; subst e2) | skip
    simp only [Int.zero_add, Int.add_zero] at *
    simp [wordsOf, hw, hd, numAt, rc, rl, rw', rd', ec, el, ew, ed]

/-- sound: what is read is a right message, and these are its words -/
theorem parse_sound {ws : List (List UInt8)} {m : Msg6} (h : parse ws = some m) : ∃ n : Nat, 1 ≤ n ∧ n ≤ 9 ∧ m.1 = (n : Int) ∧ ok6 m = true ∧ ws = wordsOf n (m.2.1 + m.2.2.1) m.2.2.2.1 m.2.2.2.2.1 m.2.2.2.2.2 := by
  have num : ∀ {a : List (List UInt8)} {v : Nat} {r : List (List UInt8)}, num1 a = some (v, r) → a = dec (v : Int) :: r := by
    intro a v r hh
    cases a with
    | nil => cases hh
    | cons x y =>
      simp only [num1, Option.map_eq_some_iff] at hh
      obtain ⟨u, hu, e⟩ := hh
      cases e
      rw [Rdm.rd_inv hu]
      simp [dec]
  unfold parse at h
  simp only [Option.bind_eq_some_iff] at h
  obtain ⟨⟨k, r0⟩, hk, ⟨c, r1⟩, hc, ⟨l, r2⟩, hl, ⟨wt, r3⟩, hw, ⟨d, r4⟩, hd, hm⟩ := h
  have hkr := kd1_range hk
  have hws : ws = shapeWord k :: r0 := by
    cases ws with
    | nil => cases hk
    | cons x y =>
      simp only [kd1, Option.map_eq_some_iff] at hk
      obtain ⟨u, hu, e⟩ := hk
      cases e
      have := List.find?_some hu
      simp at this
      rw [this]
  have h0 := num hc
  have h1 := num hl
  simp only at h0 h1 hw hd hm
  unfold lastly at hm
  rw [Option.ite_none_right_eq_some] at hm
  obtain ⟨⟨e4, hok⟩, e⟩ := hm
  injection e with e
  subst e
  subst e4
  refine ⟨k, hkr.1, hkr.2, ?_, hok, ?_⟩
  · split <;> rfl
  · clear hok
    rw [hws, h0, h1]
    cases hh : shapeHome k <;> cases hw' : shapeWant k <;> cases hd' : shapeData k
    all_goals
      simp only [numIf, hw', hd', Bool.false_eq_true, if_false, if_true] at hw hd
      first | (have hw2 := num hw) | (cases hw)
      first | (have hd2 := num hd) | (cases hd)
      simp_all [wordsOf]

/-- both sides give one answer -/
theorem same_answer (l : List UInt8) : parse (Rdm.sp l) = sans l (Rdm.nz (Rdm.sp l)) := by
  cases hp : parse (Rdm.sp l) with
  | some m =>
    obtain ⟨n, h1, h9, e1, hok, hw⟩ := parse_sound hp
    obtain ⟨k, f, t, ln, wt, d⟩ := m
    simp only at e1 hw
    subst e1
    have hnz : Rdm.nz (Rdm.sp l) = wordsOf n (f + t) ln wt d := by
      rw [hw]; exact Rdm.nz_all _ (fun x hx => (words_ok n h1 h9 _ _ _ _ x hx).2)
    have hl : text n (f + t) ln wt d = l := by rw [text_words, ← hw, Rdm.jn_sp]
    have hne : l ≠ [] := by
      intro e
      have hh := hw
      rw [e] at hh
      have := (word_blank n (kind_mem n h1 h9)).2
      simp [Rdm.sp, wordsOf] at hh
    have hs := sread_words h1 h9 hok
    unfold sans
    rw [hnz, hs, if_pos]
    refine ⟨hne, ?_⟩
    show textB _ _ _ _ _ _ = l
    unfold textB
    rw [if_pos hok]
    exact hl
  | none =>
    unfold sans
    rw [if_neg]
    rintro ⟨hne, ht⟩
    generalize hm : sread (Rdm.nz (Rdm.sp l)) = m at ht
    obtain ⟨k, f, t, ln, wt, d⟩ := m
    change textB k f t ln wt d = l at ht
    unfold textB at ht
    split at ht
    · rename_i hok
      have hk := ok_kind hok
      obtain ⟨n, rfl⟩ := Int.eq_ofNat_of_zero_le (by omega : 0 ≤ k)
      have hsp : Rdm.sp l = wordsOf n (f + t) ln wt d := by
        rw [← ht]; exact sp_text n (by omega) (by omega) _ _ _ _
      rw [hsp, parse_words (by omega) (by omega) hok] at hp
      cases hp
    · exact hne ht.symm

end Go.Proofs.YtpebiebckdmopaaDoor
