/- pairs: plain facts of what is mended, lost, written -/
import Derived.Test.YtplnfddleaoimaaPdC
namespace Go.Proofs.Ytplnfddleaoimaa
open Go.RowKit
set_option linter.unusedVariables false
set_option linter.unusedSimpArgs false

theorem pair_left {zl zr : List Int} {ru : Bool} (h : pairB zl zr true ru = true) : (inB zl.length 1 5 && allV zl) = true := by
  cases ru
  · rw [pairB_tf, Bool.and_eq_true] at h; exact h.1
  · rw [pairB_tt, Bool.and_eq_true, Bool.and_eq_true] at h; exact h.1.1
theorem pair_right {zl zr : List Int} {lu : Bool} (h : pairB zl zr lu true = true) : (inB zr.length 1 5 && allV zr) = true := by
  cases lu
  · rw [pairB_ft, Bool.and_eq_true] at h; exact h.2
  · rw [pairB_tt, Bool.and_eq_true, Bool.and_eq_true] at h; exact h.1.2
theorem pair_twice {z : List Int} (h : (inB z.length 1 5 && allV z) = true) : pairB z z true true = true := by rw [pairB_tt, h]; simp
theorem read_of {zl zr : List Int} {lu ru : Bool} (h : pairB zl zr lu ru = true) (i : Int) : rRead zl zr lu ru i = .tuple #[.int .i64 (if inB i 0 (max zl.length zr.length : Nat) then vRead zl zr lu i else 0), .bool (inB i 0 (max zl.length zr.length : Nat))] := by
  unfold rRead kRead
  rw [h, Bool.true_and]
/-- the list that is read -/
def zOf (zl zr : List Int) (lu : Bool) : List Int := if lu then zl else zr
theorem mend_facts {zl zr : List Int} {lu ru : Bool} (h : pairB zl zr lu ru = true) (hu : (lu || ru) = true) :
    aMend zl zr lu ru = ⟨zOf zl zr lu, zOf zl zr lu, true, true, true⟩ ∧ (∀ i, rRead (zOf zl zr lu) (zOf zl zr lu) true true i = rRead zl zr lu ru i) ∧ aMend (zOf zl zr lu) (zOf zl zr lu) true true = ⟨zOf zl zr lu, zOf zl zr lu, true, true, true⟩ ∧ (zOf zl zr lu).length ≤ 4 ∧ pairB (zOf zl zr lu) (zOf zl zr lu) true true = true := by
  have hz : (inB (zOf zl zr lu).length 1 5 && allV (zOf zl zr lu)) = true := by
    cases lu
    · have hru : ru = true := by simpa using hu
      subst hru
      exact pair_right h
    · exact pair_left h
  have h2 := pair_twice hz
  have hn := pairB_n h
  have hmx : max zl.length zr.length = (zOf zl zr lu).length := by
    cases lu
    · have hru : ru = true := by simpa using hu
      exact (hn.2.1 hru).symm
    · exact (hn.1 rfl).symm
  refine ⟨?_, fun i => ?_, ?_, (pairB_len h2).1, h2⟩
  · unfold aMend
    rw [h, hu]
    cases lu <;> rfl
  · rw [read_of h2, read_of h, hmx, Nat.max_self]
    rfl
  · unfold aMend
    rw [h2]
    rfl
theorem mend_no {zl zr : List Int} {lu ru : Bool} (h : ¬ (pairB zl zr lu ru = true ∧ (lu || ru) = true)) : aMend zl zr lu ru = PA.no := by
  apply aMend_no
  cases h1 : pairB zl zr lu ru
  · rfl
  · cases h2 : (lu || ru)
    · rfl
    · exact absurd ⟨h1, h2⟩ h
theorem read_form (zl zr : List Int) (lu ru : Bool) (i : Int) : ∃ (x : Int) (o : Bool), rRead zl zr lu ru i = .tuple #[.int .i64 x, .bool o] := ⟨_, _, rfl⟩

/-- what is left when a side of two is lost; when the last one is -/
theorem fail_both {zl zr : List Int} {lf : Bool} (h : pairB zl zr true true = true) : ∃ (nl nr : List Int) (xu yu : Bool), aFail zl zr true true lf = ⟨nl, nr, xu, yu, true⟩ ∧ nl.length ≤ 4 ∧ nr.length ≤ 4 ∧ pairB nl nr xu yu = true ∧ (∀ i, rRead nl nr xu yu i = rRead zl zr true true i) ∧
    aMend nl nr xu yu = ⟨zl, zl, true, true, true⟩ ∧ (∀ i, rRead zl zl true true i = rRead zl zr true true i) ∧ pairB zl zl true true = true ∧ zl.length ≤ 4 := by
  have hs := pairB_same' h
  subst hs
  have hz := pair_left h
  have hl := pairB_len h
  cases lf
  · have h2 : pairB zl [] true false = true := by rw [pairB_tf, hz]; rfl
    have hm := mend_facts h2 rfl
    refine ⟨zl, [], true, false, ?_, hl.1, Nat.zero_le _, h2, fun i => (hm.2.1 i).symm, hm.1, fun i => rfl, h, hl.1⟩
    unfold aFail; rw [h]; rfl
  · have h2 : pairB [] zl false true = true := by rw [pairB_ft, hz]; rfl
    have hm := mend_facts h2 rfl
    refine ⟨[], zl, false, true, ?_, Nat.zero_le _, hl.1, h2, fun i => (hm.2.1 i).symm, hm.1, fun i => rfl, h, hl.1⟩
    unfold aFail; rw [h]; rfl
theorem none_ok : pairB [] [] false false = true := rfl
theorem none_read (i : Int) : rRead [] [] false false i = .tuple #[.int .i64 0, .bool false] := by
  rw [read_of none_ok]
  have : inB i 0 ((max ([] : List Int).length ([] : List Int).length : Nat) : Int) = false := by simp [inB]
  rw [this]; rfl
theorem none_mend : aMend [] [] false false = PA.no := rfl
theorem fail_last {zl zr : List Int} {lu ru lf : Bool} (h : pairB zl zr lu ru = true) (hs : (if lf then lu else ru) = true) (hb : (lu && ru) = false) : aFail zl zr lu ru lf = ⟨[], [], false, false, true⟩ := by
  cases lf
  · have hru : ru = true := hs
    have hlu : lu = false := by subst hru; simpa using hb
    subst hru hlu
    have h0 : zl = [] := by rw [pairB_ft, Bool.and_eq_true] at h; exact List.eq_nil_of_length_eq_zero (of_decide_eq_true h.1)
    subst h0
    unfold aFail; rw [h]; rfl
  · have hlu : lu = true := hs
    have hru : ru = false := by subst hlu; simpa using hb
    subst hru hlu
    have h0 : zr = [] := by rw [pairB_tf, Bool.and_eq_true] at h; exact List.eq_nil_of_length_eq_zero (of_decide_eq_true h.2)
    subst h0
    unfold aFail; rw [h]; rfl

/-- what is written -/
theorem allV_set {z : List Int} {j : Nat} {v : Int} (h : allV z = true) (hv : inB v 0 1000001 = true) : allV (z.set j v) = true := by
  apply decide_eq_true
  intro k hk
  have h2 := of_decide_eq_true h
  rw [List.length_set] at hk
  by_cases e : j = k
  · subst e
    rw [List.getD_eq_getElem?_getD, List.getElem?_set_self hk]; exact hv
  · rw [List.getD_eq_getElem?_getD, List.getElem?_set_ne e, ← List.getD_eq_getElem?_getD]; exact h2 k hk
theorem write_facts {zl zr : List Int} {lu ru : Bool} {line value : Int} (h : kWrite zl zr lu ru line value = true) :
    ∃ (nl nr : List Int), aWrite zl zr lu ru line value = ⟨nl, nr, lu, ru, true⟩ ∧ nl.length ≤ 4 ∧ nr.length ≤ 4 ∧ pairB nl nr lu ru = true ∧
      (∀ i, ∃ (x y : Int) (o : Bool), rRead zl zr lu ru i = .tuple #[.int .i64 x, .bool o] ∧ rRead nl nr lu ru i = .tuple #[.int .i64 y, .bool o] ∧ (o = true → i = line → value = y) ∧ (o = true → i ≠ line → x = y)) := by
  have hk := h
  unfold kWrite at hk
  simp only [Bool.and_eq_true] at hk
  obtain ⟨⟨h1, h2⟩, h3⟩ := hk
  have hn := pairB_n h1
  have hl := pairB_len h1
  have hi : 0 ≤ line ∧ line < (max zl.length zr.length : Nat) := by simpa [inB] using h2
  obtain ⟨j, rfl⟩ : ∃ j : Nat, line = j := ⟨line.toNat, by omega⟩
  have hjt : ((j : Int)).toNat = j := by simp
  have hlen1 : (if lu then zl.set j value else zl).length = zl.length := by cases lu <;> simp
  have hlen2 : (if ru then zr.set j value else zr).length = zr.length := by cases ru <;> simp
  have hp : pairB (if lu then zl.set j value else zl) (if ru then zr.set j value else zr) lu ru = true := by
    have hs1 : sideB (if lu then zl.set j value else zl) lu = sideB zl lu := by
      cases lu
      · rfl
      · have := pair_left h1
        rw [Bool.and_eq_true] at this
        simp only [sideB, if_true, List.length_set]
        rw [allV_set this.2 h3, this.2]
    have hs2 : sideB (if ru then zr.set j value else zr) ru = sideB zr ru := by
      cases ru
      · rfl
      · have := pair_right h1
        rw [Bool.and_eq_true] at this
        simp only [sideB, if_true, List.length_set]
        rw [allV_set this.2 h3, this.2]
    have h1' := h1
    unfold pairB at h1' ⊢
    rw [hs1, hs2]
    cases lu
    · simpa using h1'
    · cases ru
      · simpa using h1'
      · have := pairB_same' h1
        subst this
        simpa using h1'
  refine ⟨if lu then zl.set j value else zl, if ru then zr.set j value else zr, ?_, by rw [hlen1]; exact hl.1, by rw [hlen2]; exact hl.2, hp, fun i => ?_⟩
  · unfold aWrite
    rw [h, hjt]
    rfl
  · rw [read_of h1, read_of hp, hlen1, hlen2]
    refine ⟨_, _, _, rfl, rfl, fun ho he => ?_, fun ho he => ?_⟩
    · subst he
      rw [if_pos ho]
      unfold vRead
      rw [hjt]
      cases lu
      · cases ru
        · have := hn.2.2 rfl rfl; omega
        · have hj : j < zr.length := by rw [hn.2.1 rfl]; omega
          simp [List.getD_eq_getElem?_getD, hj]
      · have hj : j < zl.length := by rw [hn.1 rfl]; omega
        simp [List.getD_eq_getElem?_getD, hj]
    · rw [if_pos ho, if_pos ho]
      have hii : 0 ≤ i ∧ i < (max zl.length zr.length : Nat) := by simpa [inB] using ho
      have hne : j ≠ i.toNat := by omega
      unfold vRead
      cases lu
      · cases ru
        · have := hn.2.2 rfl rfl; omega
        · simp [List.getD_eq_getElem?_getD, List.getElem?_set_ne hne]
      · simp [List.getD_eq_getElem?_getD, List.getElem?_set_ne hne]
theorem write_no {zl zr : List Int} {lu ru : Bool} {line value : Int} (h : ¬ kWrite zl zr lu ru line value = true) : aWrite zl zr lu ru line value = PA.no := aWrite_no (by simpa using h)
theorem fail_no {zl zr : List Int} {lu ru lf : Bool} (h : ¬ (pairB zl zr lu ru = true ∧ (if lf then lu else ru) = true)) : aFail zl zr lu ru lf = PA.no := by
  apply aFail_no
  cases h1 : pairB zl zr lu ru
  · rfl
  · cases h2 : (if lf then lu else ru)
    · rfl
    · exact absurd ⟨h1, h2⟩ h

end Go.Proofs.Ytplnfddleaoimaa
