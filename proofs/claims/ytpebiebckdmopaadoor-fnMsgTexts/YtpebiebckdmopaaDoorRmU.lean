/- spec.l2Split -/
import Derived.Test.YtpebiebckdmopaaDoorRmS
import Derived.Test.YtpebiebckdmopaaDoorRmT
import Derived.Test.YtpebiebckdmopaaDoorMsgH
namespace Go.Proofs.YtpebiebckdmopaaDoor
open Go.RowKit

theorem byte_list (s : ByteArray) (k : Nat) (h : k < s.size) : s.data.toList[k]? = some s[k] := by
  have h' : k < s.data.toList.length := by rw [len_list]; exact h
  rw [List.getElem?_eq_getElem h']
  rfl

theorem piece_list (s : ByteArray) (k : Nat) (h : k < s.size) : (s.extract k (k + 1)).data.toList = [s[k]] := by
  have h' : k < s.data.toList.length := by rw [len_list]; exact h
  rw [ByteArray.data_extract, Array.toList_extract]
  simp only [List.extract_eq_take_drop]
  rw [show k + 1 - k = 1 by omega, List.drop_eq_getElem_cons h', List.take_succ_cons, List.take_zero]
  rfl

theorem byte_ne {c : UInt8} (h : ((c.toNat : Int) == 32) = false) : c ≠ 32 := by
  rintro rfl
  exact absurd h (by decide)
theorem byte_eq {c : UInt8} (h : ((c.toNat : Int) == 32) = true) : c = 32 := by
  have h1 : (c.toNat : Int) = 32 := by simpa using h
  apply UInt8.toNat.inj
  have : c.toNat = 32 := by omega
  rw [this]; rfl

/-- one word appended -/
theorem grow_str {B : Nat} {w wr w1 : World} {v v' : Value} {xs : List (List UInt8)} {x : List UInt8} (hB : B = w.heap.size) (hbk : Below B w wr) (hown : OwS wr B v xs)
    (hown' : w1.ownsRow B 9 1 v' (xs.length + 1) ((xs.map fun x => Value.string (bstr x)) ++ [.string (bstr x)])) (hg : (wr.alloc (.cells #[.string (bstr x)] 9)).grownBy w1 v.ownBlock) : OwS w1 B v' (xs ++ [x]) ∧ Below B w w1 := by
  refine ⟨OwS.snoc hown', ?_⟩
  have hs : B ≤ wr.heap.size := by rw [hB]; exact hbk.size
  exact (hbk.alloc hs _).grown hg (by simp; omega) (fun k hk => (World.ownsRow.lt hown k hk).1)

set_option maxRecDepth 20000 in
set_option maxHeartbeats 2000000 in
theorem l2Split_any (s : ByteArray) (w : World) (hs : s.size ≤ 1048576) :
    Calls Tryd.prog 29 #[.string s] w fun e w' => ∃ v, e = .returned v ∧ OwS w' w.heap.size v (Rdm.nz (Rdm.sp s.data.toList)) ∧ Below w.heap.size w w' := by
  obtain ⟨i0, hi, hz0, hz1, hz2⟩ := info_parts info9
  go_enter Tryd.func29, Tryd.ntmps29
  go_wp2
  go_loopw [3, 4, 5] (fun v c i wr => ∃ (k : Nat) (xs : List (List UInt8)) (cb : ByteArray), k ≤ s.size + 1 ∧ i = .int .i64 k ∧ c = .string cb ∧ cb.size ≤ 1048577 ∧ xs.length ≤ 1048577 ∧ OwS wr w.heap.size v xs ∧ Below w.heap.size w wr ∧ Hid (Rdm.SInv s.data.toList k xs cb.data.toList)) (fun _ _ i _ => s.size + 1 - (intOf i).toNat)
  case atStart => exact ⟨0, [], ⟨#[]⟩, by omega, rfl, rfl, by simp [ByteArray.size], by simp, ⟨rfl, .inr ⟨w.heap.size, 0, #[], rfl, Nat.le_refl _, heap_alloc_new _ _, Nat.le_refl _, by decide, rfl, rfl⟩⟩, (Below.refl _ _).alloc (Nat.le_refl _) _, hide (Rdm.SInv.start _)⟩
  case round =>
    obtain ⟨k, xs, cb, hk, rfl, rfl, hcb, hxs, hok, hbk, HI⟩ := hrel
    by_cases hlt : k < s.size
    · have hlti : (k : Int) < (s.size : Int) := by omega
      have hle : (k : Int) ≤ (s.size : Int) := by omega
      cases hc : ((s[k].toNat : Int) == 32) with
      | false =>
        have HS := hide (HI.out.letter (by rw [len_list]; exact hlt) (byte_list s k hlt) (byte_ne hc))
        have hes : (s.extract k (k + 1)).size = 1 := by rw [← len_list, piece_list s k hlt]; rfl
        have HL : Hid ((cb ++ s.extract k (k + 1)).data.toList = cb.data.toList ++ [s[k]]) := hide (by rw [ByteArray.data_append, Array.toList_append, piece_list s k hlt])
        have hadd : ∀ W, (Op.stringOp .add cb (s.extract k (k + 1))).run Tryd.prog W = .ok (.string (cb ++ s.extract k (k + 1))) W := fun W => run_string_add_sum (w := W) _ _ (by omega)
        go_wp2
        refine ⟨⟨k + 1, xs, _, by omega, by go_num, rfl, ?_, hxs, hok, hbk, hide ?_⟩, by simp [intOf]; omega⟩
        · have := HS.out.1
          rw [← len_list, HL.out]
          omega
        · rw [HL.out]; exact HS.out
      | true =>
        have HS := hide (HI.out.cut (by rw [len_list]; omega) (fun _ => by rw [byte_list s k hlt, byte_eq hc]))
        by_cases hcur : cb.data.toList = []
        · have hce : (cb.toList == []) = true := by rw [ByteArray.toList_eq, hcur]; rfl
          rw [if_pos hcur, List.append_nil] at HS
          clear hcur
          go_wp2
          refine ⟨⟨k + 1, xs, _, by omega, by go_num, rfl, by simp [ByteArray.size], hxs, hok, hbk, HS⟩, by simp [intOf]; omega⟩
        · have hce : (cb.toList == []) = false := by rw [ByteArray.toList_eq, beq_eq_false_iff_ne]; exact hcur
          rw [if_neg hcur] at HS
          clear hcur
          have hxk : xs.length ≤ 1048576 := by have h1 := HI.out.2.1; omega
          obtain ⟨x, hx⟩ : ∃ x, cb = bstr x := ⟨cb.data.toList, (by simp [bstr])⟩
          subst hx
          rw [bstr_list] at HS
          have hsz : w.heap.size ≤ wr.heap.size := hbk.size
          go_wp2_with (first | (at_builtin; refine wpList_append_own _ rfl _ _ 39 rfl w.heap.size 9 i0 (.string ⟨#[]⟩) 1 16 Tryd.underlying39 hi hz0 hz1 hz2 rfl (by decide) _ _ _ rfl (World.ownsRow.alloc hok _) ⟨wr.heap.size, 0, none⟩ 1 1 [.string (bstr x)] rfl rfl (cell_one_new _ _ _) (by intro u hu; simp at hu; subst hu; rfl) (by unfold maxLen; omega) (by omega) (by simp; omega) ?_) | go_in)
          intro v' w1 hown' hgrow _
          have HR := hide (grow_str rfl hbk hok hown' hgrow)
          clear hown' hgrow hok hbk
          go_wp2
          refine ⟨⟨k + 1, _, _, by omega, by go_num, rfl, by simp [ByteArray.size], ?_, HR.out.1, HR.out.2, HS⟩, by simp [intOf]; omega⟩
          simp; omega
    · by_cases hks : k = s.size
      · have hlti : ¬ (k : Int) < (s.size : Int) := by omega
        have hle : (k : Int) ≤ (s.size : Int) := by omega
        have HS := hide (HI.out.cut (by rw [len_list]; omega) (fun h => by rw [len_list] at h; omega))
        by_cases hcur : cb.data.toList = []
        · have hce : (cb.toList == []) = true := by rw [ByteArray.toList_eq, hcur]; rfl
          rw [if_pos hcur, List.append_nil] at HS
          clear hcur
          go_wp2
          refine ⟨⟨k + 1, xs, _, by omega, by go_num, rfl, by simp [ByteArray.size], hxs, hok, hbk, HS⟩, by simp [intOf]; omega⟩
        · have hce : (cb.toList == []) = false := by rw [ByteArray.toList_eq, beq_eq_false_iff_ne]; exact hcur
          rw [if_neg hcur] at HS
          clear hcur
          have hxk : xs.length ≤ 1048576 := by have h1 := HI.out.2.1; omega
          obtain ⟨x, hx⟩ : ∃ x, cb = bstr x := ⟨cb.data.toList, (by simp [bstr])⟩
          subst hx
          rw [bstr_list] at HS
          have hsz : w.heap.size ≤ wr.heap.size := hbk.size
          go_wp2_with (first | (at_builtin; refine wpList_append_own _ rfl _ _ 39 rfl w.heap.size 9 i0 (.string ⟨#[]⟩) 1 16 Tryd.underlying39 hi hz0 hz1 hz2 rfl (by decide) _ _ _ rfl (World.ownsRow.alloc hok _) ⟨wr.heap.size, 0, none⟩ 1 1 [.string (bstr x)] rfl rfl (cell_one_new _ _ _) (by intro u hu; simp at hu; subst hu; rfl) (by unfold maxLen; omega) (by omega) (by simp; omega) ?_) | go_in)
          intro v' w1 hown' hgrow _
          have HR := hide (grow_str rfl hbk hok hown' hgrow)
          clear hown' hgrow hok hbk
          go_wp2
          refine ⟨⟨k + 1, _, _, by omega, by go_num, rfl, by simp [ByteArray.size], ?_, HR.out.1, HR.out.2, HS⟩, by simp [intOf]; omega⟩
          simp; omega
      · have hgt : ¬ (k : Int) ≤ (s.size : Int) := by omega
        have HE := hide (HI.out.2.2.2.2 (by rw [len_list]; omega))
        go_wp2
        go_ret
        exact ⟨_, rfl, by rw [HE.out]; exact hok, hbk⟩

end Go.Proofs.YtpebiebckdmopaaDoor
