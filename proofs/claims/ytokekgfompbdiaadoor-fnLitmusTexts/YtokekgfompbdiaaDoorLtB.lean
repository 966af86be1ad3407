/- impl.actWords, threadText, LitmusText; spec.LitmusText (written by mkLtB.py) -/
import Derived.Test.YtokekgfompbdiaaDoorLtA
namespace Go.Proofs.YtokekgfompbdiaaDoor
open Go.RowKit
set_option linter.unusedVariables false
set_option linter.unusedSimpArgs false

theorem iB_any (z : Int) (w : World) (h : Num z) (hp : Pow w) : Calls Tryd.prog 44 #[.int .i64 z] w fun e w' => e = .returned (.string (dB z)) ∧ Below w.heap.size w w' := decimal_any z w hp h.1 h.2
theorem S3.pow {w W : World} {B i j : Nat} {x y : Int} (h : S3 w B i j x y W) : Pow W := h.2.1
theorem os_lit {w : World} {base : Nat} {a b c : List UInt8} (hb : base ≤ w.heap.size) : OwS (w.alloc (.cells #[.string (bstr a), .string (bstr b), .string (bstr c)] 9)) base (.slice (some ⟨w.heap.size, 0, none⟩) 3 3) [a, b, c] :=
  World.ownsRow_lit w #[.string (bstr a), .string (bstr b), .string (bstr c)] 3 hb (by decide) rfl
theorem os_lit1 {w : World} {base : Nat} {a : List UInt8} (hb : base ≤ w.heap.size) : OwS (w.alloc (.cells #[.string (bstr a)] 9)) base (.slice (some ⟨w.heap.size, 0, none⟩) 1 1) [a] :=
  World.ownsRow_lit w #[.string (bstr a)] 1 hb (by decide) rfl

set_option maxRecDepth 20000 in
set_option maxHeartbeats 2000000 in
theorem actWords_any (k co va vl rg : Int) (w : World) (hn : Num va ∧ Num vl ∧ Num rg) (hp : Pow w) :
    Calls Tryd.prog 30 #[.agg (five k co va vl rg)] w fun e w' => ∃ v xs, e = .returned v ∧ OwS w' w.heap.size v xs ∧ Lib.join xs [32] = actT k va vl rg ∧ 0 < xs.length ∧ xs.length ≤ 3 ∧ Below w.heap.size w w' := by
  obtain ⟨x0, _, x2, x3, x4⟩ := box5 w k co va vl rg 42
  have hA : Below w.heap.size w (w.alloc (.cells (five k co va vl rg) 42)) := (Below.refl _ _).alloc (Nat.le_refl _) _
  obtain ⟨W, hW⟩ : ∃ W, w.alloc (.cells (five k co va vl rg) 42) = W := ⟨_, rfl⟩
  rw [hW] at x0 x2 x3 x4 hA
  have hws : w.heap.size < W.heap.size := World.block_lt_of_cell? W _ x0
  by_cases k1 : k = 1
  · subst k1
    have HE : Hid (Lib.join [[115, 116], dec va, dec vl] [32] = actT 1 va vl rg) := hide (by simp [actT, Lib.join, List.intercalate, List.intersperse])
    go_enter Tryd.func30, Tryd.ntmps30
    go_wp2
    clear hW
    have q0 : S3 w w.heap.size 2 3 va vl W.drew := ⟨⟨hA.drew, x2, x3⟩, hp.below hA.drew, hws⟩
    go_region_held3 (fun w' => S3 w w.heap.size 2 3 va vl w') (first | exact q0 | exact S3.next (by assumption) (by assumption) | exact S3.next (by assumption) ((Below.refl _ _).alloc (Nat.le_refl _) _)) (first | (go_at_call 44; refine (iB_any _ _ ?_ ?_).mono ?_; (first | exact hn.1 | exact hn.2.1); (exact S3.pow (by assumption)); rintro e w1 ⟨rfl, hb1⟩))
    rename_i hz
    have HB := hide hz.1.1
    have HO : Hid (OwS (w1.alloc (.cells #[.string ⟨#[115, 116]⟩, .string (dB va), .string (dB vl)] 9)) w.heap.size (.slice (some ⟨w1.heap.size, 0, none⟩) 3 3) [[115, 116], dec va, dec vl]) := hide (os_lit (a := [115, 116]) (by have h2 := hz.2.2; simp at h2; omega))
    clear hz
    go_wp2
    go_ret
    exact ⟨_, _, rfl, HO.out, HE.out, by simp, by simp, HB.out⟩
  by_cases k2 : k = 2
  · subst k2
    have HE : Hid (Lib.join [[108, 100], dec va, dec rg] [32] = actT 2 va vl rg) := hide (by simp [actT, Lib.join, List.intercalate, List.intersperse])
    go_enter Tryd.func30, Tryd.ntmps30
    go_wp2
    clear hW
    have q0 : S3 w w.heap.size 2 4 va rg W.drew := ⟨⟨hA.drew, x2, x4⟩, hp.below hA.drew, hws⟩
    go_region_held3 (fun w' => S3 w w.heap.size 2 4 va rg w') (first | exact q0 | exact S3.next (by assumption) (by assumption) | exact S3.next (by assumption) ((Below.refl _ _).alloc (Nat.le_refl _) _)) (first | (go_at_call 44; refine (iB_any _ _ ?_ ?_).mono ?_; (first | exact hn.1 | exact hn.2.2); (exact S3.pow (by assumption)); rintro e w1 ⟨rfl, hb1⟩))
    rename_i hz
    have HB := hide hz.1.1
    have HO : Hid (OwS (w1.alloc (.cells #[.string ⟨#[108, 100]⟩, .string (dB va), .string (dB rg)] 9)) w.heap.size (.slice (some ⟨w1.heap.size, 0, none⟩) 3 3) [[108, 100], dec va, dec rg]) := hide (os_lit (a := [108, 100]) (by have h2 := hz.2.2; simp at h2; omega))
    clear hz
    go_wp2
    go_ret
    exact ⟨_, _, rfl, HO.out, HE.out, by simp, by simp, HB.out⟩
  have HE : Hid (Lib.join [[102, 101, 110, 99, 101]] [32] = actT k va vl rg) := hide (by simp [actT, k1, k2, Lib.join, List.intercalate, List.intersperse])
  have d1 : (k == 1) = false := by simpa using k1
  have d2 : (k == 2) = false := by simpa using k2
  go_enter Tryd.func30, Tryd.ntmps30
  go_wp2
  go_ret
  exact ⟨_, [[102, 101, 110, 99, 101]], rfl, os_lit1 (a := [102, 101, 110, 99, 101]) (by omega), HE.out, by simp, by simp, hA.alloc hA.size _⟩

theorem act3_at {n : Nat} {f : Nat → Nat → Int} (h : Act3 n f) {j : Nat} (hj : j < n) : Num (f j 2) ∧ Num (f j 3) ∧ Num (f j 4) := h.2 j hj

set_option maxRecDepth 20000 in
set_option maxHeartbeats 4000000 in
theorem threadText_any (v : Value) (n : Nat) (f : Nat → Nat → Int) (w : World) (hs : Sr w v 5 n f) (hf : Act3 n f) (hp : Pow w) :
    Calls Tryd.prog 14 #[v] w fun e w' => e = .returned (.string (bstr (thT f n))) ∧ Below w.heap.size w w' := by
  obtain ⟨ad, cap, rfl, hs⟩ := hs
  have HF := hide hf
  have hn3 : n ≤ 3 := hf.1
  have HP := hide hp
  obtain ⟨i0, hi, hz0, hz1, hz2⟩ := info_parts info9
  have HS0 : Hid (OwS (w.alloc (.cells #[.string ⟨#[100, 111]⟩] 9)) w.heap.size (.slice (some ⟨w.heap.size, 0, none⟩) 1 1) (tr f 0)) := hide (os_lit1 (a := [100, 111]) (Nat.le_refl _))
  have HB0 : Hid (Below w.heap.size w (w.alloc (.cells #[.string ⟨#[100, 111]⟩] 9))) := hide ((Below.refl _ _).alloc (Nat.le_refl _) _)
  clear hf hp
  go_enter Tryd.func14, Tryd.ntmps14
  go_wp2
  go_loopw [3, 9] (fun v i wr => ∃ k : Nat, k ≤ n ∧ i = .int .i64 k ∧ OwS wr w.heap.size v (tr f k) ∧ Below w.heap.size w wr) (fun _ i _ => n - (intOf i).toNat)
  case atStart => exact ⟨0, Nat.zero_le _, rfl, HS0.out, HB0.out⟩
  case round =>
    clear HS0 HB0
    obtain ⟨k, hk, rfl, hos, hb⟩ := hrel
    have HL : Hid ((tr f k).length = k + 1) := hide (tr_len f k)
    by_cases hlt : k < n
    · obtain ⟨b, off, rfl, hc⟩ := hs (by omega)
      have c0 := Below.keep hb _ _ (hc k hlt 0 (by omega))
      rw [Nat.add_zero] at c0
      have c1 := Below.keep hb _ _ (hc k hlt 1 (by omega))
      have c2 := Below.keep hb _ _ (hc k hlt 2 (by omega))
      have c3 := Below.keep hb _ _ (hc k hlt 3 (by omega))
      have c4 := Below.keep hb _ _ (hc k hlt 4 (by omega))
      have hnum := act3_at HF.out hlt
      have HAL := hide (actT_len (k := f k 0) hnum)
      have HE : Hid (tr f (k + 1) = tr f k ++ [actT (f k 0) (f k 2) (f k 3) (f k 4)]) := hide (tr_succ f k)
      generalize f k 0 = z0 at c0 HE HAL
      generalize f k 1 = z1 at c1
      generalize f k 2 = z2 at c2 HE hnum HAL
      generalize f k 3 = z3 at c3 HE hnum HAL
      generalize f k 4 = z4 at c4 HE hnum HAL
      have hA : Below wr.heap.size wr (wr.alloc (.cells (five z0 z1 z2 z3 z4) 42)) := (Below.refl _ _).alloc (Nat.le_refl _) _
      have hBA := hb.trans (hA.mono hb.size)
      have hosA := hos.below hA
      have HN := hide hnum
      clear hs hc hos hb hA hnum
      go_wp2_with fail
      refine (actWords_any z0 z1 z2 z3 z4 _ HN.out (HP.out.below hBA)).mono ?_
      rintro e w2 ⟨v2, xs, rfl, hx, hj, hx0, hx3, hb2⟩
      have os2 := hosA.below hb2
      have hb3 := hBA.trans (hb2.mono hBA.size)
      clear c0 c1 c2 c3 c4 hosA hBA hb2
      go_wp2_with fail
      refine (join_any v2 _ xs [32] _ hx hx0 (by rw [hj]; have := HAL.out; omega) (by omega)).mono ?_
      rintro e w4 ⟨rfl, hb4⟩
      rw [hj]
      have os4 := os2.below hb4
      have hb5 := hb3.trans (hb4.mono hb3.size)
      have hz5 : w.heap.size ≤ w4.heap.size := hb5.size
      clear os2 hb3 hb4 hx hj hx0 hx3
      generalize actT z0 z2 z3 z4 = x at HE
      go_wp2_with (at_builtin; refine wpList_append_own _ rfl _ _ 33 rfl w.heap.size 9 i0 (.string ⟨#[]⟩) 1 16 Tryd.underlying33 hi hz0 hz1 hz2 rfl (by decide) _ _ _ rfl (World.ownsRow.alloc os4 _) _ 1 1 [.string (bstr x)] rfl rfl (cell_one_new _ _ _) (by intro u hu; simp at hu; subst hu; rfl) (by unfold maxLen; have := HL.out; omega) (by have := HL.out; omega) (by simp; omega) ?_)
      intro v' w8 hown' hgrow _
      have HM := hide (OwS.more hb5 hz5 os4 hown' hgrow)
      clear hown' hgrow os4 hb5
      go_wp2
      go_roundw
      case rel => exact ⟨k + 1, by omega, by go_num, by rw [HE.out]; exact HM.out.1, HM.out.2⟩
      case measure => simp [intOf]; omega
    · have ek : k = n := by omega
      have HE : Hid (Lib.join (tr f k) [44, 32] = thT f n) := hide (by rw [join_tr, ek])
      have hjl : (Lib.join (tr f k) [44, 32]).length ≤ 1000 := by
        rw [HE.out]
        have := thT_len HF.out n (Nat.le_refl _)
        omega
      have HJ := hide hjl
      clear hjl ek hs
      generalize tr f k = xs at hos HE HJ HL
      go_wp2_with fail
      refine (join_any _ _ xs [44, 32] _ hos (by have := HL.out; omega) HJ.out (by have := HL.out; omega)).mono ?_
      rintro e w9 ⟨rfl, hb9⟩
      have HB := hide (hb.trans (hb9.mono hb.size))
      clear hb9 hb hos
      go_wp2
      go_ret
      exact ⟨ret_str (congrArg bstr HE.out), HB.out⟩

/-- the text of a test; of a wrong one: nothing -/
def tsT (C : Nat) (L : Nat → Nat) (F : Nat → Nat → Nat → Int) : List UInt8 := if litB C L F = true then ltT L F C else []

set_option maxRecDepth 20000 in
set_option maxHeartbeats 4000000 in
theorem implText_any (v : Value) (C : Nat) (L : Nat → Nat) (F : Nat → Nat → Nat → Int) (w : World) (hs : Sa w v C L F) (hp : Pow w) :
    Calls Tryd.prog 6 #[.agg #[v]] w fun e w' => e = .returned (.string (bstr (tsT C L F))) ∧ Below w.heap.size w w' := by
  have hA : Below w.heap.size w (w.alloc (.cells #[v] 26)) := (Below.refl _ _).alloc (Nat.le_refl _) _
  have x0 : (w.alloc (.cells #[v] 26)).cell? ⟨w.heap.size, 0, none⟩ = some v := (cell_of_row _ _ 0 _ _ _ (heap_alloc_new _ _)).trans rfl
  have HT := hide (hs.below hA)
  obtain ⟨ad, cap, rfl, _⟩ := hs
  have hok := fun W h => implLitmusOk_any (.slice ad C cap) C L F W h
  cases ht : litB C L F
  · rw [ht] at hok
    have HE : Hid (tsT C L F = []) := hide (by unfold tsT; rw [if_neg (by rw [ht]; decide)])
    go_enter Tryd.func6, Tryd.ntmps6
    go_wp2_with fail
    refine (hok _ HT.out).mono ?_
    rintro e w1 ⟨rfl, hb1⟩
    have HB := hide (hA.trans (hb1.mono hA.size))
    clear hb1 hA x0
    go_wp2
    go_ret
    exact ⟨by rw [HE.out]; rfl, HB.out⟩
  rw [ht] at hok
  have HE : Hid (tsT C L F = Lib.join (lr L F C) [32, 124, 32]) := hide (by unfold tsT; rw [if_pos ht, join_lr])
  have HDD := hide (lit_acts ht)
  have hC1 : 1 ≤ C := by
    unfold litB at ht
    simp only [Bool.and_eq_true, decide_eq_true_eq] at ht
    exact ht.1.1
  have hC2 : C ≤ 2 := HDD.out.1
  clear ht
  go_enter Tryd.func6, Tryd.ntmps6
  go_wp2_with fail
  refine (hok _ HT.out).mono ?_
  rintro e w1 ⟨rfl, hb1⟩
  have HT1 := hide (HT.out.below hb1)
  have y0 := keepc hb1 x0
  have HB := hide (hA.trans (hb1.mono hA.size))
  have HP := hide (hp.below HB.out)
  obtain ⟨i0, hi, hz0, hz1, hz2⟩ := info_parts info9
  clear hb1 hA x0 hp hok
  go_wp2
  go_loopw [3, 12] (fun v i wr => ∃ k : Nat, k ≤ C ∧ i = .int .i64 k ∧ OwS wr w1.heap.size v (lr L F k) ∧ Below w1.heap.size w1 wr) (fun _ i _ => C - (intOf i).toNat)
  case atStart => exact ⟨0, Nat.zero_le _, rfl, OwS.nil _ _, Below.refl _ _⟩
  case round =>
    obtain ⟨k, hk, rfl, hos, hb⟩ := hrel
    have HL : Hid ((lr L F k).length = k) := hide (lr_len L F k)
    by_cases hlt : k < C
    · obtain ⟨ad', cap', e0, hreg⟩ := HT1.out.below hb
      obtain ⟨b, off, rfl, hreg2⟩ := hreg (by omega)
      obtain ⟨ia, ic, c1, hrow⟩ := hreg2 k hlt
      obtain ⟨rfl, rfl⟩ : ad = some ⟨b, off, none⟩ ∧ cap = cap' := by simp only [Value.slice.injEq] at e0; exact ⟨e0.1, e0.2.2⟩
      have hdk := HDD.out.2 k hlt
      have HEK : Hid (lr L F (k + 1) = lr L F k ++ [thT (F k) (L k)]) := hide (lr_succ L F k)
      have hth := fun W h1 h2 => threadText_any (.slice ia (L k) ic) (L k) (F k) W h1 hdk h2
      have HRW := hide hrow
      have HPk := hide (HP.out.below hb)
      clear hdk hreg hreg2 e0 hrow
      generalize L k = n at c1 hth HEK HRW
      go_wp2_with fail
      refine (hth _ HRW.out HPk.out).mono ?_
      rintro e w2 ⟨rfl, hb2⟩
      have os2 := hos.below hb2
      have hb3 := hb.trans (hb2.mono hb.size)
      have hz3 : w1.heap.size ≤ w2.heap.size := hb3.size
      clear hos hb hb2 HPk HRW hth c1
      generalize thT (F k) n = x at HEK
      go_wp2_with (at_builtin; refine wpList_append_own _ rfl _ _ 33 rfl w1.heap.size 9 i0 (.string ⟨#[]⟩) 1 16 Tryd.underlying33 hi hz0 hz1 hz2 rfl (by decide) _ _ _ rfl (World.ownsRow.alloc os2 _) _ 1 1 [.string (bstr x)] rfl rfl (cell_one_new _ _ _) (by intro u hu; simp at hu; subst hu; rfl) (by unfold maxLen; have := HL.out; omega) (by have := HL.out; omega) (by simp; omega) ?_)
      intro v' w8 hown' hgrow _
      have HM := hide (OwS.more hb3 hz3 os2 hown' hgrow)
      clear hown' hgrow os2 hb3
      go_wp2
      go_roundw
      case rel => exact ⟨k + 1, by omega, by go_num, by rw [HEK.out]; exact HM.out.1, HM.out.2⟩
      case measure => simp [intOf]; omega
    · have ek : k = C := by omega
      have HEK : Hid (Lib.join (lr L F k) [32, 124, 32] = tsT C L F) := hide (by rw [HE.out, ek])
      have HJ : Hid ((Lib.join (lr L F k) [32, 124, 32]).length ≤ 1000) := hide (by
        rw [join_lr]
        have := ltT_len HDD.out.2 k hk
        omega)
      have hk1 : 1 ≤ k := by omega
      clear ek
      generalize lr L F k = xs at hos HEK HJ HL
      go_wp2_with fail
      refine (join_any _ _ xs [32, 124, 32] _ hos (by have := HL.out; omega) HJ.out (by have := HL.out; omega)).mono ?_
      rintro e w9 ⟨rfl, hb9⟩
      have HB9 := hide (HB.out.trans ((hb.trans (hb9.mono hb.size)).mono HB.out.size))
      clear hb9 hb hos
      go_wp2
      go_ret
      exact ⟨ret_str (congrArg bstr HEK.out), HB9.out⟩

set_option maxRecDepth 20000 in
set_option maxHeartbeats 4000000 in
theorem specText_any (v : Value) (C : Nat) (L : Nat → Nat) (F : Nat → Nat → Nat → Int) (w : World) (hs : Sa w v C L F) (hbC : C ≤ 1048576) (hbL : ∀ c, c < C → L c ≤ 1048576) :
    Calls Tryd.prog 8 #[.agg #[v]] w fun e w' => e = .returned (.string (bstr (tsT C L F))) ∧ Below w.heap.size w w' := by
  have hA : Below w.heap.size w (w.alloc (.cells #[v] 26)) := (Below.refl _ _).alloc (Nat.le_refl _) _
  have x0 : (w.alloc (.cells #[v] 26)).cell? ⟨w.heap.size, 0, none⟩ = some v := (cell_of_row _ _ 0 _ _ _ (heap_alloc_new _ _)).trans rfl
  have HT := hide (hs.below hA)
  obtain ⟨ad, cap, rfl, _⟩ := hs
  have hok := fun W h => specLitmusOk_any (.slice ad C cap) C L F W h hbC hbL
  cases ht : litB C L F
  · rw [ht] at hok
    have HE : Hid (tsT C L F = []) := hide (by unfold tsT; rw [if_neg (by rw [ht]; decide)])
    go_enter Tryd.func8, Tryd.ntmps8
    go_wp2_with fail
    refine (hok _ HT.out).mono ?_
    rintro e w1 ⟨rfl, hb1⟩
    have HB := hide (hA.trans (hb1.mono hA.size))
    clear hb1 hA x0
    go_wp2
    go_ret
    exact ⟨by rw [HE.out]; rfl, HB.out⟩
  rw [ht] at hok
  have HE : Hid (tsT C L F = ltT L F C) := hide (by unfold tsT; rw [if_pos ht])
  have HDD := hide (lit_acts ht)
  have hC2 : C ≤ 2 := HDD.out.1
  clear ht hbC hbL
  go_enter Tryd.func8, Tryd.ntmps8
  go_wp2_with fail
  refine (hok _ HT.out).mono ?_
  rintro e w1 ⟨rfl, hb1⟩
  have HT1 := hide (HT.out.below hb1)
  have y0 := keepc hb1 x0
  have HB := hide (hA.trans (hb1.mono hA.size))
  clear hb1 hA x0 hok
  go_wp2
  go_loopw [3, 4] (fun s i wr => ∃ k : Nat, k ≤ C ∧ i = .int .i64 k ∧ s = .string (bstr (ltT L F k)) ∧ Below w1.heap.size w1 wr) (fun _ i _ => C - (intOf i).toNat)
  case atStart => exact ⟨0, Nat.zero_le _, rfl, rfl, Below.refl _ _⟩
  case round =>
    obtain ⟨k, hk, rfl, rfl, hb⟩ := hrel
    obtain ⟨wo, hwo⟩ : ∃ wo, wo = wr := ⟨_, rfl⟩
    subst hwo
    have z0 := keepc hb y0
    have hol := ltT_len HDD.out.2 k hk
    by_cases hlt : k < C
    · obtain ⟨ad', cap', e0, hreg⟩ := HT1.out.below hb
      obtain ⟨b, off, rfl, hreg2⟩ := hreg (by omega)
      obtain ⟨ia, ic, c1, hrow⟩ := hreg2 k hlt
      obtain ⟨rfl, rfl⟩ : ad = some ⟨b, off, none⟩ ∧ cap = cap' := by simp only [Value.slice.injEq] at e0; exact ⟨e0.1, e0.2.2⟩
      have HDK := hide (HDD.out.2 k hlt)
      have hn3 : L k ≤ 3 := HDK.out.1
      have HEK : Hid (ltT L F (k + 1) = ltT L F k ++ (if k = 0 then [] else [32, 124, 32]) ++ thT (F k) (L k)) := hide rfl
      have HRW := hide hrow
      have HBk := hide hb
      clear hreg hreg2 e0 hrow hb
      generalize L k = n at c1 hn3 HEK HRW HDK
      obtain ⟨t0, ht0⟩ : ∃ t0, ltT L F k ++ (if k = 0 then [] else [32, 124, 32]) = t0 := ⟨_, rfl⟩
      have ht0l : t0.length ≤ 65 * k + 3 := by
        rw [← ht0, List.length_append]
        have : (if k = 0 then ([] : List UInt8) else [32, 124, 32]).length ≤ 3 := by split <;> simp
        omega
      rw [ht0] at HEK
      have hadd1 : ∀ W : World, (Op.stringOp .add (bstr (ltT L F k)) ⟨#[32, 124, 32]⟩).run Tryd.prog W = .ok (.string (bstr (ltT L F k ++ [32, 124, 32]))) W := fun W => add_ok (b := [32, 124, 32]) (by simp; omega) W
      have hadd2 : ∀ W : World, (Op.stringOp .add (bstr t0) ⟨#[100, 111]⟩).run Tryd.prog W = .ok (.string (bstr (t0 ++ thT (F k) 0))) W := fun W => add_ok (b := [100, 111]) (by simp; omega) W
      have hd0 : Hid (k = 0 → ltT L F k = t0) := hide (fun h => by rw [← ht0, if_pos h, List.append_nil])
      have hd1 : Hid (¬ k = 0 → ltT L F k ++ [32, 124, 32] = t0) := hide (fun h => by rw [← ht0, if_neg h])
      clear ht0
      have HR : ∀ (K : Prop), (∀ wr : World, K) → K := fun K h => h wo
      clear HR
      by_cases hk0 : k = 0
      · have hdk : decide ((0 : Int) < (k : Int)) = false := by simp; omega
        have hdi : ¬ ((0 : Int) < (k : Int)) := by omega
        have hdn : decide (0 < k) = false := by simp; omega
        have hdm : True := trivial
        rw [hd0.out hk0]
        obtain ⟨b1, hb1e⟩ : ∃ b, b = bstr (t0 ++ thT (F k) 0) := ⟨_, rfl⟩
        rw [← hb1e] at hadd2
        have HB1 := hide hb1e
        clear hb1e
        generalize bstr t0 = b0 at hadd2 ⊢
        have HK0 := hide hk0
        clear hk0
        clear hd0 hd1 hol
        go_wp2
        clear hadd1 hadd2 hdk hdi hdn hdm
        go_loopw [3, 5] (fun s i wq => ∃ j : Nat, j ≤ n ∧ i = .int .i64 j ∧ s = .string (bstr (t0 ++ thT (F k) j)) ∧ Below wo.heap.size wo wq) (fun _ i _ => n - (intOf i).toNat)
        case atStart => exact ⟨0, Nat.zero_le _, rfl, by rw [HB1.out], Below.refl _ _⟩
        case round =>
          obtain ⟨j, hj, rfl, rfl, hbq⟩ := hrel
          have y2 := keepc hbq z0
          have y1 := keepc hbq c1
          have hdl := thT_len HDK.out j hj
          by_cases hjl : j < n
          · obtain ⟨ia', ic', e1, hc⟩ := HRW.out
            obtain ⟨p, po, rfl, hc2⟩ := hc (by omega)
            obtain ⟨rfl, rfl⟩ : ia = some ⟨p, po, none⟩ ∧ ic = ic' := by simp only [Value.slice.injEq] at e1; exact ⟨e1.1, e1.2.2⟩
            have g0 := keepc hbq (hc2 j hjl 0 (by omega))
            rw [Nat.add_zero] at g0
            have g1 := keepc hbq (hc2 j hjl 1 (by omega))
            have g2 := keepc hbq (hc2 j hjl 2 (by omega))
            have g3 := keepc hbq (hc2 j hjl 3 (by omega))
            have g4 := keepc hbq (hc2 j hjl 4 (by omega))
            have hnum := act3_at HDK.out hjl
            have hal := actT_len (k := F k j 0) hnum
            have HEJ : Hid (t0 ++ thT (F k) (j + 1) = t0 ++ (thT (F k) j ++ ([44, 32] ++ actT (F k j 0) (F k j 2) (F k j 3) (F k j 4)))) := hide (by simp [thT])
            clear hc hc2 e1
            generalize F k j 0 = z0' at g0 HEJ hal
            generalize F k j 1 = z1 at g1
            generalize F k j 2 = z2 at g2 HEJ hnum hal
            generalize F k j 3 = z3 at g3 HEJ hnum hal
            generalize F k j 4 = z4 at g4 HEJ hnum hal
            have hb1 : ∀ W : World, (Op.stringOp .add (bstr (t0 ++ thT (F k) j)) ⟨#[44, 32]⟩).run Tryd.prog W = .ok (.string (bstr (t0 ++ thT (F k) j ++ [44, 32]))) W := fun W => add_ok (b := [44, 32]) (by simp; omega) W
            have hb2 : ∀ W : World, (Op.stringOp .add (bstr (t0 ++ thT (F k) j ++ [44, 32])) (bstr (actT z0' z2 z3 z4))).run Tryd.prog W = .ok (.string (bstr (t0 ++ thT (F k) j ++ [44, 32] ++ actT z0' z2 z3 z4))) W := fun W => add_ok (by simp; omega) W
            have HEJ2 : Hid (bstr (t0 ++ thT (F k) j ++ [44, 32] ++ actT z0' z2 z3 z4) = bstr (t0 ++ thT (F k) (j + 1))) := hide (by rw [HEJ.out]; simp)
            rw [HEJ2.out] at hb2
            generalize bstr (t0 ++ thT (F k) j ++ [44, 32]) = q1 at hb1 hb2
            generalize hq2 : bstr (t0 ++ thT (F k) (j + 1)) = q2 at hb2
            have HQ2 := hide hq2
            have HNM := hide hnum
            clear hq2 HEJ2 HEJ hnum hal
            go_wp2_with fail
            refine (l11Act_any z0' z1 z2 z3 z4 _ HNM.out).mono ?_
            rintro e w3 ⟨rfl, hb3⟩
            have HB3 := hide (hbq.trans (hb3.mono hbq.size))
            clear hb3 hbq g0 g1 g2 g3 g4 y1 y2
            generalize bstr (actT z0' z2 z3 z4) = q3 at hb2
            go_wp2
            go_roundw
            case rel => exact ⟨j + 1, by omega, by go_num, by rw [HQ2.out], HB3.out⟩
            case measure => simp [intOf]; omega
          · have ej : j = n := by omega
            have HE2 : Hid (ltT L F (k + 1) = t0 ++ thT (F k) j) := hide (by rw [HEK.out, ej])
            have HB3 := hide (HBk.out.trans (hbq.mono HBk.out.size))
            clear hbq ej
            go_wp2
            go_roundw
            case rel => exact ⟨k + 1, by omega, by go_num, by rw [HE2.out], HB3.out⟩
            case measure => simp [intOf]; omega
      · have hdk : decide ((0 : Int) < (k : Int)) = true := by simp; omega
        have hdi : (0 : Int) < (k : Int) := by omega
        have hdn : decide (0 < k) = true := by simp; omega
        have hdm : 0 < k := by omega
        rw [hd1.out hk0] at hadd1
        obtain ⟨b1, hb1e⟩ : ∃ b, b = bstr (t0 ++ thT (F k) 0) := ⟨_, rfl⟩
        rw [← hb1e] at hadd2
        have HB1 := hide hb1e
        clear hb1e
        generalize bstr t0 = b0 at hadd1 hadd2
        generalize bstr (ltT L F k) = bk at hadd1 ⊢
        have HK0 := hide hk0
        clear hk0
        clear hd0 hd1 hol
        go_wp2
        clear hadd1 hadd2 hdk hdi hdn hdm
        go_loopw [3, 5] (fun s i wq => ∃ j : Nat, j ≤ n ∧ i = .int .i64 j ∧ s = .string (bstr (t0 ++ thT (F k) j)) ∧ Below wo.heap.size wo wq) (fun _ i _ => n - (intOf i).toNat)
        case atStart => exact ⟨0, Nat.zero_le _, rfl, by rw [HB1.out], Below.refl _ _⟩
        case round =>
          obtain ⟨j, hj, rfl, rfl, hbq⟩ := hrel
          have y2 := keepc hbq z0
          have y1 := keepc hbq c1
          have hdl := thT_len HDK.out j hj
          by_cases hjl : j < n
          · obtain ⟨ia', ic', e1, hc⟩ := HRW.out
            obtain ⟨p, po, rfl, hc2⟩ := hc (by omega)
            obtain ⟨rfl, rfl⟩ : ia = some ⟨p, po, none⟩ ∧ ic = ic' := by simp only [Value.slice.injEq] at e1; exact ⟨e1.1, e1.2.2⟩
            have g0 := keepc hbq (hc2 j hjl 0 (by omega))
            rw [Nat.add_zero] at g0
            have g1 := keepc hbq (hc2 j hjl 1 (by omega))
            have g2 := keepc hbq (hc2 j hjl 2 (by omega))
            have g3 := keepc hbq (hc2 j hjl 3 (by omega))
            have g4 := keepc hbq (hc2 j hjl 4 (by omega))
            have hnum := act3_at HDK.out hjl
            have hal := actT_len (k := F k j 0) hnum
            have HEJ : Hid (t0 ++ thT (F k) (j + 1) = t0 ++ (thT (F k) j ++ ([44, 32] ++ actT (F k j 0) (F k j 2) (F k j 3) (F k j 4)))) := hide (by simp [thT])
            clear hc hc2 e1
            generalize F k j 0 = z0' at g0 HEJ hal
            generalize F k j 1 = z1 at g1
            generalize F k j 2 = z2 at g2 HEJ hnum hal
            generalize F k j 3 = z3 at g3 HEJ hnum hal
            generalize F k j 4 = z4 at g4 HEJ hnum hal
            have hb1 : ∀ W : World, (Op.stringOp .add (bstr (t0 ++ thT (F k) j)) ⟨#[44, 32]⟩).run Tryd.prog W = .ok (.string (bstr (t0 ++ thT (F k) j ++ [44, 32]))) W := fun W => add_ok (b := [44, 32]) (by simp; omega) W
            have hb2 : ∀ W : World, (Op.stringOp .add (bstr (t0 ++ thT (F k) j ++ [44, 32])) (bstr (actT z0' z2 z3 z4))).run Tryd.prog W = .ok (.string (bstr (t0 ++ thT (F k) j ++ [44, 32] ++ actT z0' z2 z3 z4))) W := fun W => add_ok (by simp; omega) W
            have HEJ2 : Hid (bstr (t0 ++ thT (F k) j ++ [44, 32] ++ actT z0' z2 z3 z4) = bstr (t0 ++ thT (F k) (j + 1))) := hide (by rw [HEJ.out]; simp)
            rw [HEJ2.out] at hb2
            generalize bstr (t0 ++ thT (F k) j ++ [44, 32]) = q1 at hb1 hb2
            generalize hq2 : bstr (t0 ++ thT (F k) (j + 1)) = q2 at hb2
            have HQ2 := hide hq2
            have HNM := hide hnum
            clear hq2 HEJ2 HEJ hnum hal
            go_wp2_with fail
            refine (l11Act_any z0' z1 z2 z3 z4 _ HNM.out).mono ?_
            rintro e w3 ⟨rfl, hb3⟩
            have HB3 := hide (hbq.trans (hb3.mono hbq.size))
            clear hb3 hbq g0 g1 g2 g3 g4 y1 y2
            generalize bstr (actT z0' z2 z3 z4) = q3 at hb2
            go_wp2
            go_roundw
            case rel => exact ⟨j + 1, by omega, by go_num, by rw [HQ2.out], HB3.out⟩
            case measure => simp [intOf]; omega
          · have ej : j = n := by omega
            have HE2 : Hid (ltT L F (k + 1) = t0 ++ thT (F k) j) := hide (by rw [HEK.out, ej])
            have HB3 := hide (HBk.out.trans (hbq.mono HBk.out.size))
            clear hbq ej
            go_wp2
            go_roundw
            case rel => exact ⟨k + 1, by omega, by go_num, by rw [HE2.out], HB3.out⟩
            case measure => simp [intOf]; omega
    · have ek : k = C := by omega
      have HEK : Hid (ltT L F k = tsT C L F) := hide (by rw [HE.out, ek])
      have HB2 := hide (HB.out.trans (hb.mono HB.out.size))
      clear ek hb
      go_wp2
      go_ret
      exact ⟨ret_str (congrArg bstr HEK.out), HB2.out⟩

end Go.Proofs.YtokekgfompbdiaaDoor
