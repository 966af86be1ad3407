/- spec: l1Cut, l2Split, l2Num, l11Read -/
import Derived.Test.YtokekgfompbdiaaDoorRlC
import Derived.Test.YtokekgfompbdiaaDoorRmT
namespace Go.Proofs.YtokekgfompbdiaaDoor
open Go.RowKit
set_option linter.unusedVariables false
set_option linter.unusedSimpArgs false

theorem cell_one_newS (w : World) (v : Value) (T : TypeId) : ∀ j x, ([v] : List Value)[j]? = some x → (w.alloc (.cells #[v] T)).cell? ((⟨w.heap.size, 0, none⟩ : Addr).add j) = some x := news1 w v T
theorem byte_list (s : ByteArray) (k : Nat) (h : k < s.size) : s.data.toList[k]? = some s[k] := by
  have h' : k < s.data.toList.length := by rw [len_list]; exact h
  rw [List.getElem?_eq_getElem h']
  rfl

theorem piece_list (s : ByteArray) (k : Nat) (h : k < s.size) : (s.extract k (k + 1)).data.toList = [s[k]] := by
  have h' : k < s.data.toList.length := by rw [len_list]; exact h
  rw [ByteArray.data_extract, Array.toList_extract]
  simp only [List.extract_eq_take_drop]
  rw [show k + 1 - k = 1 by omega, List.drop_eq_getElem_cons h', List.take_succ_cons, List.take_zero]
  rfl

theorem byte_ne {c : UInt8} (h : ((c.toNat : Int) == 32) = false) : c ≠ 32 := by
  rintro rfl
  exact absurd h (by decide)
theorem byte_eq {c : UInt8} (h : ((c.toNat : Int) == 32) = true) : c = 32 := by
  have h1 : (c.toNat : Int) = 32 := by simpa using h
  apply UInt8.toNat.inj
  have : c.toNat = 32 := by omega
  rw [this]; rfl

/-- one word appended -/
theorem grow_str {B : Nat} {w wr w1 : World} {v v' : Value} {xs : List (List UInt8)} {x : List UInt8} (hB : B = w.heap.size) (hbk : Below B w wr) (hown : OwS wr B v xs)
    (hown' : w1.ownsRow B 9 1 v' (xs.length + 1) ((xs.map fun x => Value.string (bstr x)) ++ [.string (bstr x)])) (hg : (wr.alloc (.cells #[.string (bstr x)] 9)).grownBy w1 v.ownBlock) : OwS w1 B v' (xs ++ [x]) ∧ Below B w w1 := by
  refine ⟨OwS.snoc hown', ?_⟩
  have hs : B ≤ wr.heap.size := by rw [hB]; exact hbk.size
  exact (hbk.alloc hs _).grown hg (by simp; omega) (fun k hk => (World.ownsRow.lt hown k hk).1)

set_option maxRecDepth 20000 in
set_option maxHeartbeats 2000000 in
theorem l2Split_any (s : ByteArray) (w : World) (hs : s.size ≤ 1048576) :
    Calls Tryd.prog 41 #[.string s] w fun e w' => ∃ v, e = .returned v ∧ OwS w' w.heap.size v (Rdm.nz (Rdm.sp s.data.toList)) ∧ Below w.heap.size w w' := by
  obtain ⟨i0, hi, hz0, hz1, hz2⟩ := info_parts info9
  go_enter Tryd.func41, Tryd.ntmps41
  go_wp2
  go_loopw [3, 4, 5] (fun v c i wr => ∃ (k : Nat) (xs : List (List UInt8)) (cb : ByteArray), k ≤ s.size + 1 ∧ i = .int .i64 k ∧ c = .string cb ∧ cb.size ≤ 1048577 ∧ xs.length ≤ 1048577 ∧ OwS wr w.heap.size v xs ∧ Below w.heap.size w wr ∧ Hid (Rdm.SInv s.data.toList k xs cb.data.toList)) (fun _ _ i _ => s.size + 1 - (intOf i).toNat)
  case atStart => exact ⟨0, [], ⟨#[]⟩, by omega, rfl, rfl, by simp [ByteArray.size], by simp, ⟨rfl, .inr ⟨w.heap.size, 0, #[], rfl, Nat.le_refl _, heap_alloc_new _ _, Nat.le_refl _, by decide, rfl, rfl⟩⟩, (Below.refl _ _).alloc (Nat.le_refl _) _, hide (Rdm.SInv.start _)⟩
  case round =>
    obtain ⟨k, xs, cb, hk, rfl, rfl, hcb, hxs, hok, hbk, HI⟩ := hrel
    by_cases hlt : k < s.size
    · have hlti : (k : Int) < (s.size : Int) := by omega
      have hle : (k : Int) ≤ (s.size : Int) := by omega
      cases hc : ((s[k].toNat : Int) == 32) with
      | false =>
        have HS := hide (HI.out.letter (by rw [len_list]; exact hlt) (byte_list s k hlt) (byte_ne hc))
        have hes : (s.extract k (k + 1)).size = 1 := by rw [← len_list, piece_list s k hlt]; rfl
        have HL : Hid ((cb ++ s.extract k (k + 1)).data.toList = cb.data.toList ++ [s[k]]) := hide (by rw [ByteArray.data_append, Array.toList_append, piece_list s k hlt])
        have hadd : ∀ W, (Op.stringOp .add cb (s.extract k (k + 1))).run Tryd.prog W = .ok (.string (cb ++ s.extract k (k + 1))) W := fun W => run_string_add_sum (w := W) _ _ (by omega)
        go_wp2
        refine ⟨⟨k + 1, xs, _, by omega, by go_num, rfl, ?_, hxs, hok, hbk, hide ?_⟩, by simp [intOf]; omega⟩
        · have := HS.out.1
          rw [← len_list, HL.out]
          omega
        · rw [HL.out]; exact HS.out
      | true =>
        have HS := hide (HI.out.cut (by rw [len_list]; omega) (fun _ => by rw [byte_list s k hlt, byte_eq hc]))
        by_cases hcur : cb.data.toList = []
        · have hce : (cb.toList == []) = true := by rw [ByteArray.toList_eq, hcur]; rfl
          rw [if_pos hcur, List.append_nil] at HS
          clear hcur
          go_wp2
          refine ⟨⟨k + 1, xs, _, by omega, by go_num, rfl, by simp [ByteArray.size], hxs, hok, hbk, HS⟩, by simp [intOf]; omega⟩
        · have hce : (cb.toList == []) = false := by rw [ByteArray.toList_eq, beq_eq_false_iff_ne]; exact hcur
          rw [if_neg hcur] at HS
          clear hcur
          have hxk : xs.length ≤ 1048576 := by have h1 := HI.out.2.1; omega
          obtain ⟨x, hx⟩ : ∃ x, cb = bstr x := ⟨cb.data.toList, (by simp [bstr])⟩
          subst hx
          rw [bstr_list] at HS
          have hsz : w.heap.size ≤ wr.heap.size := hbk.size
          go_wp2_with (first | (at_builtin; refine wpList_append_own _ rfl _ _ 33 rfl w.heap.size 9 i0 (.string ⟨#[]⟩) 1 16 Tryd.underlying33 hi hz0 hz1 hz2 rfl (by decide) _ _ _ rfl (World.ownsRow.alloc hok _) ⟨wr.heap.size, 0, none⟩ 1 1 [.string (bstr x)] rfl rfl (cell_one_newS _ _ _) (by intro u hu; simp at hu; subst hu; rfl) (by unfold maxLen; omega) (by omega) (by simp; omega) ?_) | go_in)
          intro v' w1 hown' hgrow _
          have HR := hide (grow_str rfl hbk hok hown' hgrow)
          clear hown' hgrow hok hbk
          go_wp2
          refine ⟨⟨k + 1, _, _, by omega, by go_num, rfl, by simp [ByteArray.size], ?_, HR.out.1, HR.out.2, HS⟩, by simp [intOf]; omega⟩
          simp; omega
    · by_cases hks : k = s.size
      · have hlti : ¬ (k : Int) < (s.size : Int) := by omega
        have hle : (k : Int) ≤ (s.size : Int) := by omega
        have HS := hide (HI.out.cut (by rw [len_list]; omega) (fun h => by rw [len_list] at h; omega))
        by_cases hcur : cb.data.toList = []
        · have hce : (cb.toList == []) = true := by rw [ByteArray.toList_eq, hcur]; rfl
          rw [if_pos hcur, List.append_nil] at HS
          clear hcur
          go_wp2
          refine ⟨⟨k + 1, xs, _, by omega, by go_num, rfl, by simp [ByteArray.size], hxs, hok, hbk, HS⟩, by simp [intOf]; omega⟩
        · have hce : (cb.toList == []) = false := by rw [ByteArray.toList_eq, beq_eq_false_iff_ne]; exact hcur
          rw [if_neg hcur] at HS
          clear hcur
          have hxk : xs.length ≤ 1048576 := by have h1 := HI.out.2.1; omega
          obtain ⟨x, hx⟩ : ∃ x, cb = bstr x := ⟨cb.data.toList, (by simp [bstr])⟩
          subst hx
          rw [bstr_list] at HS
          have hsz : w.heap.size ≤ wr.heap.size := hbk.size
          go_wp2_with (first | (at_builtin; refine wpList_append_own _ rfl _ _ 33 rfl w.heap.size 9 i0 (.string ⟨#[]⟩) 1 16 Tryd.underlying33 hi hz0 hz1 hz2 rfl (by decide) _ _ _ rfl (World.ownsRow.alloc hok _) ⟨wr.heap.size, 0, none⟩ 1 1 [.string (bstr x)] rfl rfl (cell_one_newS _ _ _) (by intro u hu; simp at hu; subst hu; rfl) (by unfold maxLen; omega) (by omega) (by simp; omega) ?_) | go_in)
          intro v' w1 hown' hgrow _
          have HR := hide (grow_str rfl hbk hok hown' hgrow)
          clear hown' hgrow hok hbk
          go_wp2
          refine ⟨⟨k + 1, _, _, by omega, by go_num, rfl, by simp [ByteArray.size], ?_, HR.out.1, HR.out.2, HS⟩, by simp [intOf]; omega⟩
          simp; omega
      · have hgt : ¬ (k : Int) ≤ (s.size : Int) := by omega
        have HE := hide (HI.out.2.2.2.2 (by rw [len_list]; omega))
        go_wp2
        go_ret
        exact ⟨_, rfl, by rw [HE.out]; exact hok, hbk⟩


set_option maxRecDepth 20000 in
set_option maxHeartbeats 1000000 in
theorem l2NumA_any (w : World) (v : Value) (ws : List By) (h : Wd w v ws) (i : Nat) (hlt : i < ws.length) :
    Calls Tryd.prog 42 #[v, .int .i64 (i : Int)] w fun e w' => e = .returned (.int .i64 (numA ws i)) ∧ w' = w := by
  obtain ⟨ad, cap, rfl, hc1, hb, hx⟩ := h
  obtain ⟨b, off, rfl, hc⟩ := hb (by omega)
  have hci := hc i hlt
  have hxi := hx (ws.getD i []) (by simp [List.getElem?_eq_getElem hlt])
  have HN : Hid (numA ws i = match Rdm.rd (ws.getD i []) with | none => -1 | some v => (v : Int)) := hide rfl
  generalize ws.getD i [] = x at hci hxi HN
  obtain ⟨n, hn⟩ : ∃ n, ws.length = n := ⟨_, rfl⟩
  rw [hn] at hlt hc1 ⊢
  have hl : (i : Int) < (n : Int) := by omega
  have hl0 : (0 : Int) ≤ (i : Int) := by omega
  have hd : decide ((n : Int) ≤ (i : Int)) = false := by simp; omega
  generalize numA ws i = z at HN
  clear hc hx hb hn
  go_enter Tryd.func42, Tryd.ntmps42
  go_wp2_with fail
  refine (l1Int_any (bstr x) w (by rw [bstr_size]; exact hxi)).mono ?_
  rintro e w2 ⟨rfl, rfl⟩
  rw [bstr_list]
  cases hr : Rdm.rd x with
  | none =>
    rw [(rd_bad hr).1, (rd_bad hr).2]
    have HN2 := hide (HN.out.trans (by rw [hr]))
    go_wp2
    go_ret
    exact ⟨by rw [HN2.out]; rfl, rfl⟩
  | some v =>
    rw [(rd_good hr).1, (rd_good hr).2]
    have HN2 := hide (HN.out.trans (by rw [hr]))
    go_wp2
    go_ret
    exact ⟨by rw [HN2.out]; rfl, rfl⟩

/-- a text cut at the first such byte -/
def cutH (p : UInt8) (s : By) : By := (Spg.sp p s).headD []
def cutR (p : UInt8) (s : By) : By := Spg.jn p ((Spg.sp p s).drop 1)
def cutM (p : UInt8) (s : By) : Bool := decide ((Spg.sp p s).drop 1 ≠ [])
theorem cut_at {p : UInt8} {s : By} {k : Nat} (hk : k < s.length) (hp : s[k]? = some p) (hn : ∀ j, j < k → s[j]? ≠ some p) : cutH p s = s.take k ∧ cutR p s = s.drop (k + 1) ∧ cutM p s = true := by
  have e : s = s.take k ++ p :: s.drop (k + 1) := by
    have : p :: s.drop (k + 1) = s.drop k := by
      rw [List.drop_eq_getElem_cons hk]
      rw [List.getElem?_eq_getElem hk] at hp
      rw [Option.some.inj hp]
    rw [this, List.take_append_drop]
  have hx : p ∉ s.take k := fun h => by
    obtain ⟨j, hj, he⟩ := List.mem_iff_getElem.1 h
    have hj2 : j < k := by simp at hj; omega
    refine hn j hj2 ?_
    rw [List.getElem?_eq_getElem (by omega)]
    rw [List.getElem_take] at he
    rw [he]
  have hs : Spg.sp p s = s.take k :: Spg.sp p (s.drop (k + 1)) := by
    have := Spg.sp_join p (s.take k) (s.drop (k + 1)) hx
    rw [← e] at this
    exact this
  refine ⟨by unfold cutH; rw [hs]; rfl, ?_, ?_⟩
  · unfold cutR; rw [hs, List.drop_one, List.tail_cons, Spg.jn_sp]
  · unfold cutM; rw [hs, List.drop_one, List.tail_cons]; simp [Spg.sp_ne]
theorem cut_no {p : UInt8} {s : By} (hn : ∀ j, j < s.length → s[j]? ≠ some p) : cutH p s = s ∧ cutR p s = [] ∧ cutM p s = false := by
  have hx : p ∉ s := fun h => by
    obtain ⟨j, hj, he⟩ := List.mem_iff_getElem.1 h
    exact hn j hj (by rw [List.getElem?_eq_getElem hj, he])
  have hs := Spg.sp_word p s hx
  refine ⟨by unfold cutH; rw [hs]; rfl, by unfold cutR; rw [hs]; rfl, by unfold cutM; rw [hs]; simp⟩
theorem bs_get {s : By} {k : Nat} (h : k < (bstr s).size) : s[k]? = some (bstr s)[k] := by
  have := byte_list (bstr s) k h
  rwa [bstr_list] at this
theorem ret3 {a b : ByteArray} {t : Bool} {a' b' : ByteArray} {t' : Bool} (h1 : a = a') (h2 : b = b') (h3 : t = t') : Ending.returned (.tuple #[.string a, .string b, .bool t]) = .returned (.tuple #[.string a', .string b', .bool t']) := by rw [h1, h2, h3]
theorem ex_take (s : By) (k : Nat) : (bstr s).extract 0 k = bstr (s.take k) := by
  apply ByteArray.ext
  simp [bstr]
theorem ex_drop (s : By) (k n : Nat) (h : n = s.length) : (bstr s).extract k n = bstr (s.drop k) := by
  apply ByteArray.ext
  subst h
  simp [bstr, List.take_of_length_le]

set_option maxRecDepth 20000 in
set_option maxHeartbeats 2000000 in
theorem l1Cut_any (s : By) (p : UInt8) (w : World) (hs : s.length ≤ 1048576) :
    Calls Tryd.prog 27 #[.string (bstr s), .int .u8 (p.toNat : Int)] w fun e w' => e = .returned (.tuple #[.string (bstr (cutH p s)), .string (bstr (cutR p s)), .bool (cutM p s)]) ∧ Below w.heap.size w w' := by
  have hsz : (bstr s).size ≤ 1048576 := by rw [bstr_size]; exact hs
  have HA := hide (fun k h1 h2 h3 => cut_at (p := p) (s := s) (k := k) h1 h2 h3)
  have HN := hide (fun h => cut_no (p := p) (s := s) h)
  have HSZ : Hid ((bstr s).size = s.length) := hide (bstr_size s)
  go_enter Tryd.func27, Tryd.ntmps27
  go_wp2
  go_loopw [7] (fun i wr => ∃ k : Nat, k ≤ (bstr s).size ∧ i = .int .i64 k ∧ wr = w ∧ Hid (∀ j, j < k → s[j]? ≠ some p)) (fun i _ => (bstr s).size - (intOf i).toNat)
  case atStart => exact ⟨0, Nat.zero_le _, rfl, rfl, hide (fun j hj => absurd hj (by omega))⟩
  case round =>
    obtain ⟨k, hk, rfl, rfl, HK⟩ := hrel
    by_cases hlt : k < (bstr s).size
    · have hlti : (k : Int) < ((bstr s).size : Int) := by omega
      have hk0 : (0 : Int) ≤ (k : Int) := by omega
      have HG := hide (bs_get hlt)
      by_cases ep : (bstr s)[k] = p
      · have hd : (((bstr s)[k].toNat : Int) == (p.toNat : Int)) = true := by rw [ep]; simp
        have HE := hide (HA.out k (by rw [← HSZ.out]; exact hlt) (by rw [HG.out, ep]) HK.out)
        have hk1 : (k : Int) + 1 ≤ ((bstr s).size : Int) := by omega
        have hk2 : (k : Int) ≤ ((bstr s).size : Int) := by omega
        clear ep
        go_wp2
        go_region
        all_goals go_wp2
        all_goals go_ret3
        all_goals exact ⟨ret3 (by rw [HE.out.1, ← ex_take]) (by rw [HE.out.2.1, ← ex_drop s (k + 1) (bstr s).size HSZ.out]) HE.out.2.2.symm, by first | exact (Below.refl _ _).drew | exact Below.refl _ _⟩
      · have hd : (((bstr s)[k].toNat : Int) == (p.toNat : Int)) = false := by
          rw [beq_eq_false_iff_ne]
          intro e
          exact ep (UInt8.toNat_inj.1 (by omega))
        have HK2 : Hid (∀ j, j < k + 1 → s[j]? ≠ some p) := hide (fun j hj => by
          by_cases e : j = k
          · subst e
            rw [HG.out]
            exact fun h => ep (Option.some.inj h)
          · exact HK.out j (by omega))
        clear ep
        go_wp2
        go_roundw
        case rel => exact ⟨k + 1, by omega, by go_num, by first | rfl | trivial, HK2⟩
        case measure => simp [intOf]; omega
    · have HE := hide (HN.out (fun j hj => HK.out j (by have := HSZ.out; omega)))
      go_wp2
      go_ret3
      exact ⟨ret3 (by rw [HE.out.1]) (by rw [HE.out.2.1]; rfl) HE.out.2.2.symm, Below.refl _ _⟩

end Go.Proofs.YtokekgfompbdiaaDoor
