/- spec.ReadLitmus (written by mkRlG.py) -/
import Derived.Test.YtokekgfompbdiaaDoorRlD
import Derived.Test.YtokekgfompbdiaaDoorRlF
namespace Go.Proofs.YtokekgfompbdiaaDoor
open Go.RowKit
set_option linter.unusedVariables false
set_option linter.unusedSimpArgs false

theorem onHead_no {p c : UInt8} (hc : c ≠ p) {l : List By} (h : ∀ x ∈ l, p ∉ x) : ∀ x ∈ Spg.onHead c l, p ∉ x := by
  cases l with
  | nil => intro x hx; simp [Spg.onHead] at hx; subst hx; simpa using fun e => hc e.symm
  | cons y r =>
    intro x hx
    simp only [Spg.onHead, List.mem_cons] at hx
    rcases hx with rfl | hx
    · simp only [List.mem_cons, not_or]; exact ⟨fun e => hc e.symm, h y (by simp)⟩
    · exact h x (by simp [hx])
theorem sp_none (p : UInt8) (s : By) : ∀ x ∈ Spg.sp p s, p ∉ x := by
  induction s with
  | nil => intro x hx; simp [Spg.sp] at hx; subst hx; simp
  | cons c r ih =>
    by_cases h : c = p
    · subst h
      rw [Spg.sp_blank]
      intro x hx
      rcases List.mem_cons.1 hx with rfl | hx
      · simp
      · exact ih x hx
    · rw [Spg.sp_other p c r h]
      exact onHead_no h ih
def nE (l : List By) : Bool := decide (l ≠ [])
theorem cut_jn {p : UInt8} {z : By} {zr : List By} (h : ∀ x ∈ z :: zr, p ∉ x) : cutH p (Spg.jn p (z :: zr)) = z ∧ cutR p (Spg.jn p (z :: zr)) = Spg.jn p zr ∧ cutM p (Spg.jn p (z :: zr)) = nE zr := by
  have e := Spg.sp_jn p (z :: zr) (by simp) h
  exact ⟨by unfold cutH; rw [e]; rfl, by unfold cutR; rw [e]; rfl, by unfold cutM nE; rw [e]; rfl⟩
theorem jn_len {p : UInt8} (z : By) (zr : List By) : z.length ≤ (Spg.jn p (z :: zr)).length ∧ (Spg.jn p zr).length ≤ (Spg.jn p (z :: zr)).length ∧ (zr ≠ [] → (Spg.jn p zr).length < (Spg.jn p (z :: zr)).length) := by
  cases zr with
  | nil => exact ⟨Nat.le_refl _, by simp [Spg.jn], fun h => absurd rfl h⟩
  | cons y r =>
    have e : (Spg.jn p (z :: y :: r)).length = z.length + ((Spg.jn p (y :: r)).length + 1) := by rw [Spg.jn]; simp
    exact ⟨by omega, by omega, fun _ => by omega⟩

/-- acts read, acts to be read -/
def goA (i : Int) (xa : List Ac) (rm : List By) : Option (List Ac) := match srAs i (rm.take (4 - xa.length)) with
  | some b => some (xa ++ b)
  | none => none
theorem goA_end {i : Int} {xa : List Ac} {rm : List By} (h : rm = [] ∨ 4 ≤ xa.length) : goA i xa rm = some xa := by
  have e : rm.take (4 - xa.length) = [] := by
    rcases h with rfl | h
    · simp
    · rw [show 4 - xa.length = 0 by omega, List.take_zero]
  unfold goA
  rw [e]
  simp [srAs]
theorem goA_no {i : Int} {xa : List Ac} {y : By} {rm : List By} (h : xa.length < 4) (hr : srA i y = none) : goA i xa (y :: rm) = none := by
  unfold goA
  rw [show 4 - xa.length = (3 - xa.length) + 1 by omega, List.take_succ_cons, srAs, hr]
theorem goA_yes {i : Int} {xa : List Ac} {y : By} {rm : List By} {b : Ac} (h : xa.length < 4) (hr : srA i y = some b) : goA i xa (y :: rm) = goA i (xa ++ [b]) rm := by
  unfold goA
  rw [show 4 - xa.length = (3 - xa.length) + 1 by omega, List.take_succ_cons, srAs, hr, show 4 - (xa ++ [b]).length = 3 - xa.length by simp]
  cases srAs i (rm.take (3 - xa.length)) with
  | none => rfl
  | some q => simp
/-- threads read, threads to be read -/
def goT (ts : List (List Ac)) (rm : List By) : Option (List (List Ac)) := match srTs ts.length (rm.take (3 - ts.length)) with
  | some b => some (ts ++ b)
  | none => none
theorem goT_end {ts : List (List Ac)} {rm : List By} (h : rm = [] ∨ 3 ≤ ts.length) : goT ts rm = some ts := by
  have e : rm.take (3 - ts.length) = [] := by
    rcases h with rfl | h
    · simp
    · rw [show 3 - ts.length = 0 by omega, List.take_zero]
  unfold goT
  rw [e]
  simp [srTs]
theorem goT_no {ts : List (List Ac)} {y : By} {rm : List By} (h : ts.length < 3) (hr : srT ts.length y = none) : goT ts (y :: rm) = none := by
  unfold goT
  rw [show 3 - ts.length = (2 - ts.length) + 1 by omega, List.take_succ_cons, srTs, hr]
theorem goT_yes {ts : List (List Ac)} {y : By} {rm : List By} {b : List Ac} (h : ts.length < 3) (hr : srT ts.length y = some b) : goT ts (y :: rm) = goT (ts ++ [b]) rm := by
  unfold goT
  rw [show 3 - ts.length = (2 - ts.length) + 1 by omega, List.take_succ_cons, srTs, hr, show 3 - (ts ++ [b]).length = 2 - ts.length by simp, show (ts ++ [b]).length = ts.length + 1 by simp]
  cases srTs (ts.length + 1) (rm.take (2 - ts.length)) with
  | none => rfl
  | some q => simp
theorem goT_start (s : By) : goT [] (Spg.sp 124 s) = srL s := by
  unfold goT srL
  simp only [List.length_nil, Nat.sub_zero, List.nil_append]
  cases srTs 0 ((Spg.sp 124 s).take 3) <;> rfl
theorem goA_start (i : Int) (z : By) : goA i [] ((Spg.sp 44 z).drop 1) = srT i z := by
  unfold goA srT
  simp only [List.length_nil, Nat.sub_zero, List.nil_append]
  cases srAs i (((Spg.sp 44 z).drop 1).take 4) <;> rfl

/-- how much of a text is left -/
def msz (r m : Value) : Nat := match r, m with
  | .string b, .bool true => b.size + 1
  | _, _ => 0
theorem msz_less {p : UInt8} (z : By) (zr : List By) : msz (.string (bstr (Spg.jn p zr))) (.bool (nE zr)) < msz (.string (bstr (Spg.jn p (z :: zr)))) (.bool true) := by
  have h := jn_len (p := p) z zr
  by_cases e : zr = []
  · subst e
    simp [msz, nE]
  · rw [show nE zr = true by unfold nE; simpa using e]
    simp only [msz, bstr_size]
    have := h.2.2 e
    omega

/-- the texts left of a thread: what is known of them -/
def Lft (p : UInt8) (rm : List By) : Prop := (∀ x ∈ rm, p ∉ x) ∧ (Spg.jn p rm).length ≤ 1048576
theorem Lft.tail {p : UInt8} {z : By} {zr : List By} (h : Lft p (z :: zr)) : Lft p zr := ⟨fun x hx => h.1 x (by simp [hx]), Nat.le_trans (jn_len z zr).2.1 h.2⟩
theorem Lft.head {p : UInt8} {z : By} {zr : List By} (h : Lft p (z :: zr)) : z.length ≤ 1048576 := Nat.le_trans (jn_len z zr).1 h.2
theorem lft_start {p : UInt8} {s : By} (h : s.length ≤ 1048576) : Lft p (Spg.sp p s) := ⟨sp_none p s, by rw [Spg.jn_sp]; exact h⟩

theorem own0 (w : World) : OwA (w.alloc (.cells #[] 42)) w.heap.size (.slice (some ⟨w.heap.size, 0, none⟩) 0 0) [] := ⟨rfl, .inr ⟨w.heap.size, 0, #[], rfl, Nat.le_refl _, heap_alloc_new _ _, Nat.le_refl _, by decide, rfl, rfl⟩⟩

set_option maxRecDepth 20000 in
set_option maxHeartbeats 4000000 in
theorem specReadLit_any (s : By) (w : World) (hm : 0 < w.heap.size) (hs : s.length ≤ 1048576) : Calls Tryd.prog 12 #[.string (bstr s)] w (RlPost (rlS s) w) := by
  obtain ⟨i0, hi, hz0, hz1, hz2⟩ := info_parts infoTh
  obtain ⟨j0, hj, hy0, hy1, hy2⟩ := info_parts infoBAct
  have hB0 : Below w.heap.size w ((w.alloc (.cells #[.slice none 0 0] 26)).alloc (.cells #[.slice none 0 0] 26)) := ((Below.refl _ _).alloc (Nat.le_refl _) _).alloc (by simp) _
  have k0 : ((w.alloc (.cells #[.slice none 0 0] 26)).alloc (.cells #[.slice none 0 0] 26)).heap[w.heap.size]? = some (.cells #[.slice none 0 0] 26 (0, 0)) := by
    rw [Below.heap_alloc _ _ _ (by simp)]
    exact heap_alloc_new _ _
  have k1 : ((w.alloc (.cells #[.slice none 0 0] 26)).alloc (.cells #[.slice none 0 0] 26)).heap[w.heap.size + 1]? = some (.cells #[.slice none 0 0] 26 (0, 0)) := by
    have := heap_alloc_new (w.alloc (.cells #[.slice none 0 0] 26)) (.cells #[.slice none 0 0] 26)
    simpa only [World.size_alloc] using this
  have hz : ((w.alloc (.cells #[.slice none 0 0] 26)).alloc (.cells #[.slice none 0 0] 26)).heap.size = w.heap.size + 1 + 1 := by simp
  have HR : Hid (∀ ts, srL s = some ts → rlS s = if s ≠ [] ∧ tsL ts = s then some ts else none) := hide (fun ts h => by unfold rlS; rw [h])
  have HN : Hid (srL s = none → rlS s = none) := hide (fun h => by unfold rlS; rw [h])
  have hst0 : Spg.jn 124 (Spg.sp 124 s) = s := Spg.jn_sp 124 s
  have HL0 := hide (lft_start (p := 124) hs)
  have HG0 := hide (goT_start s)
  have hne0 : nE (Spg.sp 124 s) = true := by simp [nE, Spg.sp_ne]
  generalize Spg.sp 124 s = zs at hst0 HL0 HG0 hne0
  go_enter Tryd.func12, Tryd.ntmps12
  go_wp2
  generalize hW : World.alloc (World.alloc w _) _ = w1 at *
  clear hW
  have HB1 := hide hB0
  have HD0 := hide k0
  have hsz1 : w.heap.size + 1 + 1 ≤ w1.heap.size := by omega
  have HRW0 : Hid (Rw w1 w1 (w.heap.size + 1) (.slice none 0 0) [] (fun _ => .slice none 0 0)) := hide ⟨⟨rfl, rfl, rfl, Nat.le_refl _, fun _ _ _ => rfl⟩, k1, OwT.nil _ _, by omega⟩
  clear k0 k1 hz hB0
  go_loopw [5, 6] (fun r m wr => ∃ (rm : List By) (ts : List (List Ac)) (v : Value) (vs : Nat → Value), r = .string (bstr (Spg.jn 124 rm)) ∧ m = .bool (nE rm) ∧ ts.length ≤ 3 ∧ Hid (Rw w1 wr (w.heap.size + 1) v ts vs) ∧ Hid (Lft 124 rm) ∧ Hid (goT ts rm = srL s) ∧ Hid (∀ xa ∈ ts, xa.length ≤ 4)) (fun r m _ => msz r m)
  case atStart => exact ⟨zs, [], _, _, by rw [hst0], by rw [hne0], by simp, HRW0, HL0, HG0, hide (fun xa h => by simp at h)⟩
  case round =>
    clear HRW0 HL0 HG0 hst0 hne0
    obtain ⟨rm, ts, v, vs, rfl, rfl, hts, HW, HLF, HGT, HX4⟩ := hrel
    obtain ⟨cb, fb⟩ := HW.out.cells
    obtain ⟨va, vc, ev⟩ : ∃ va vc, v = .slice va ts.length vc := by
      obtain ⟨va, vc, e, _⟩ := HW.out.ot.sa
      exact ⟨va, vc, e⟩
    subst ev
    by_cases hrm : rm = []
    · subst hrm
      have hd0 : nE ([] : List By) = false := rfl
      rw [hd0]
      have HSL : Hid (srL s = some ts) := hide (HGT.out.symm.trans (goT_end (.inl rfl)))
      by_cases hse : s = []
      · have HO : Hid (rlS s = none) := hide (by rw [HR.out ts HSL.out, if_neg (fun h => h.1 hse)])
        have he := str_eq hse
        have q0 : wr.heap[w.heap.size]? = some (.cells #[.slice none 0 0] 26 (0, 0)) := (HW.out.gr.block w.heap.size (by omega) (fun e => by have := Option.some.inj e; omega)).trans HD0.out
        have f0 := fun i => frozen_of_row _ _ i _ _ q0
        have c0 := (cell_of_row _ _ 0 _ _ _ q0).trans rfl
        have HBB : Hid (Below w.heap.size w (wr.setCell ⟨w.heap.size, 0, none⟩ (.slice none 0 0))) := hide ((HB1.out.grown HW.out.gr HB1.out.size (fun k hk => by have := Option.some.inj hk; omega)).setCell (Nat.le_refl _) _)
        clear hse q0
        go_wp2
        refine bodyPost_ret (v := .tuple #[.agg #[.slice none 0 0], .bool false]) (by simp [results, Tryd.results12, go_sem, Act.put, c0]) rfl ⟨HBB.out, .inl ⟨HO.out, rfl⟩⟩
      have he := str_ne hse
      have HSA := hide HW.out.ot.sa
      have HX6 : Hid (∀ c, c < ts.length → Lf ts c ≤ 1048576) := hide (fun c hc => by
        have : ts.getD c [] ∈ ts := by simp [List.getElem?_eq_getElem hc]
        have := HX4.out _ this
        unfold Lf
        omega)
      go_wp2_with fail
      refine (specText_any _ ts.length (Lf ts) (Ff ts) _ HSA.out (by omega) HX6.out).mono ?_
      rintro e w2 ⟨rfl, hb2⟩
      have HTE : Hid (tsL ts = tsT ts.length (Lf ts) (Ff ts)) := hide rfl
      rw [← HTE.out]
      have HRx := hide (HW.out.call hb2)
      obtain ⟨c2, f2⟩ := HRx.out.cells
      have q0 : w2.heap[w.heap.size]? = some (.cells #[.slice none 0 0] 26 (0, 0)) := (HRx.out.gr.block w.heap.size (by omega) (fun e => by have := Option.some.inj e; omega)).trans HD0.out
      have f0 := fun i => frozen_of_row _ _ i _ _ q0
      have c0 := (cell_of_row _ _ 0 _ _ _ q0).trans rfl
      have HBB : Hid (∀ u, Below w.heap.size w (w2.setCell ⟨w.heap.size, 0, none⟩ u)) := hide (fun u => (HB1.out.grown HRx.out.gr HB1.out.size (fun k hk => by have := Option.some.inj hk; omega)).setCell (Nat.le_refl _) _)
      by_cases hte : tsL ts = s
      · have HO : Hid (rlS s = some ts) := hide (by rw [HR.out ts HSL.out, if_pos ⟨hse, hte⟩])
        rw [hte]
        clear hb2 q0 hte hse cb fb
        go_wp2
        refine bodyPost_ret (v := .tuple #[.agg #[.slice va ts.length vc], .bool true]) (by simp [results, Tryd.results12, go_sem, Act.put, c0]) rfl ⟨HBB.out _, .inr ⟨ts, _, vs, HO.out, rfl, (HRx.out.ot.set (by omega)).mono (by omega)⟩⟩
      · have HO : Hid (rlS s = none) := hide (by rw [HR.out ts HSL.out, if_neg (fun h => hte h.2)])
        have hq : ((bstr (tsL ts)).toList == (bstr s).toList) = false := by rw [ByteArray.toList_eq, ByteArray.toList_eq, bstr_list, bstr_list, beq_eq_false_iff_ne]; exact hte
        clear hb2 q0 hte hse cb fb
        go_wp2
        refine bodyPost_ret (v := .tuple #[.agg #[.slice none 0 0], .bool false]) (by simp [results, Tryd.results12, go_sem, Act.put, c0]) rfl ⟨HBB.out _, .inl ⟨HO.out, rfl⟩⟩
    obtain ⟨z, zr, rfl⟩ : ∃ z zr, rm = z :: zr := by
      cases rm with
      | nil => exact absurd rfl hrm
      | cons z zr => exact ⟨z, zr, rfl⟩
    have hd1 : nE (z :: zr) = true := rfl
    rw [hd1]
    have HMS := hide (msz_less (p := 124) z zr)
    clear hrm hd1
    by_cases ht3 : 3 ≤ ts.length
    · have hd3 : decide ((ts.length : Int) < 3) = false := by simp; omega
      have hd4 : ¬ (ts.length : Int) < 3 := by omega
      have HSL : Hid (srL s = some ts) := hide (HGT.out.symm.trans (goT_end (.inr ht3)))
      by_cases hse : s = []
      · have HO : Hid (rlS s = none) := hide (by rw [HR.out ts HSL.out, if_neg (fun h => h.1 hse)])
        have he := str_eq hse
        have q0 : wr.heap[w.heap.size]? = some (.cells #[.slice none 0 0] 26 (0, 0)) := (HW.out.gr.block w.heap.size (by omega) (fun e => by have := Option.some.inj e; omega)).trans HD0.out
        have f0 := fun i => frozen_of_row _ _ i _ _ q0
        have c0 := (cell_of_row _ _ 0 _ _ _ q0).trans rfl
        have HBB : Hid (Below w.heap.size w (wr.setCell ⟨w.heap.size, 0, none⟩ (.slice none 0 0))) := hide ((HB1.out.grown HW.out.gr HB1.out.size (fun k hk => by have := Option.some.inj hk; omega)).setCell (Nat.le_refl _) _)
        clear hse q0
        go_wp2
        refine bodyPost_ret (v := .tuple #[.agg #[.slice none 0 0], .bool false]) (by simp [results, Tryd.results12, go_sem, Act.put, c0]) rfl ⟨HBB.out, .inl ⟨HO.out, rfl⟩⟩
      have he := str_ne hse
      have HSA := hide HW.out.ot.sa
      have HX6 : Hid (∀ c, c < ts.length → Lf ts c ≤ 1048576) := hide (fun c hc => by
        have : ts.getD c [] ∈ ts := by simp [List.getElem?_eq_getElem hc]
        have := HX4.out _ this
        unfold Lf
        omega)
      go_wp2_with fail
      refine (specText_any _ ts.length (Lf ts) (Ff ts) _ HSA.out (by omega) HX6.out).mono ?_
      rintro e w2 ⟨rfl, hb2⟩
      have HTE : Hid (tsL ts = tsT ts.length (Lf ts) (Ff ts)) := hide rfl
      rw [← HTE.out]
      have HRx := hide (HW.out.call hb2)
      obtain ⟨c2, f2⟩ := HRx.out.cells
      have q0 : w2.heap[w.heap.size]? = some (.cells #[.slice none 0 0] 26 (0, 0)) := (HRx.out.gr.block w.heap.size (by omega) (fun e => by have := Option.some.inj e; omega)).trans HD0.out
      have f0 := fun i => frozen_of_row _ _ i _ _ q0
      have c0 := (cell_of_row _ _ 0 _ _ _ q0).trans rfl
      have HBB : Hid (∀ u, Below w.heap.size w (w2.setCell ⟨w.heap.size, 0, none⟩ u)) := hide (fun u => (HB1.out.grown HRx.out.gr HB1.out.size (fun k hk => by have := Option.some.inj hk; omega)).setCell (Nat.le_refl _) _)
      by_cases hte : tsL ts = s
      · have HO : Hid (rlS s = some ts) := hide (by rw [HR.out ts HSL.out, if_pos ⟨hse, hte⟩])
        rw [hte]
        clear hb2 q0 hte hse cb fb
        go_wp2
        refine bodyPost_ret (v := .tuple #[.agg #[.slice va ts.length vc], .bool true]) (by simp [results, Tryd.results12, go_sem, Act.put, c0]) rfl ⟨HBB.out _, .inr ⟨ts, _, vs, HO.out, rfl, (HRx.out.ot.set (by omega)).mono (by omega)⟩⟩
      · have HO : Hid (rlS s = none) := hide (by rw [HR.out ts HSL.out, if_neg (fun h => hte h.2)])
        have hq : ((bstr (tsL ts)).toList == (bstr s).toList) = false := by rw [ByteArray.toList_eq, ByteArray.toList_eq, bstr_list, bstr_list, beq_eq_false_iff_ne]; exact hte
        clear hb2 q0 hte hse cb fb
        go_wp2
        refine bodyPost_ret (v := .tuple #[.agg #[.slice none 0 0], .bool false]) (by simp [results, Tryd.results12, go_sem, Act.put, c0]) rfl ⟨HBB.out _, .inl ⟨HO.out, rfl⟩⟩
    have hd3 : (ts.length : Int) < 3 := by omega
    replace ht3 : ts.length < 3 := by omega
    have HC1 : Hid (∀ W, Calls Tryd.prog 27 #[.string (bstr (Spg.jn 124 (z :: zr))), .int .u8 124] W fun e w' => e = .returned (.tuple #[.string (bstr z), .string (bstr (Spg.jn 124 zr)), .bool (nE zr)]) ∧ Below W.heap.size W w') := hide (fun W => by
      obtain ⟨q1, q2, q3⟩ := cut_jn HLF.out.1
      have := l1Cut_any (Spg.jn 124 (z :: zr)) 124 W HLF.out.2
      rw [q1, q2, q3] at this
      exact this)
    have HC2 : Hid (∀ W, Calls Tryd.prog 27 #[.string (bstr z), .int .u8 44] W fun e w' => e = .returned (.tuple #[.string (bstr (cutH 44 z)), .string (bstr (Spg.jn 44 ((Spg.sp 44 z).drop 1))), .bool (nE ((Spg.sp 44 z).drop 1))]) ∧ Below W.heap.size W w') := hide (fun W => l1Cut_any z 44 W HLF.out.head)
    have HGA0 := hide (goA_start ts.length z)
    have HLF0 : Hid (Lft 44 ((Spg.sp 44 z).drop 1)) := hide (by
      have h := lft_start (p := 44) HLF.out.head
      cases hsp : Spg.sp 44 z with
      | nil => exact absurd hsp (Spg.sp_ne 44 z)
      | cons y r => rw [hsp] at h; exact h.tail)
    generalize (Spg.sp 44 z).drop 1 = ys at HC2 HGA0 HLF0
    generalize cutH 44 z = uu at HC2
    generalize Spg.jn 124 (z :: zr) = rs at HC1 HMS ⊢
    go_wp2_with fail
    refine (HC1.out _).mono ?_
    rintro e w2 ⟨rfl, hb2⟩
    go_wp2_with fail
    refine (HC2.out _).mono ?_
    rintro e w3 ⟨rfl, hb3⟩
    have HW3 := hide (HW.out.call (hb2.trans (hb3.mono hb2.size)))
    have HB3 : Hid (OwA (w3.alloc (.cells #[] 42)) w3.heap.size (.slice (some ⟨w3.heap.size, 0, none⟩) 0 0) [] ∧ Below w3.heap.size w3 (w3.alloc (.cells #[] 42))) := hide ⟨own0 w3, (Below.refl _ _).alloc (Nat.le_refl _) _⟩
    clear hb2 hb3 HW HC1 HC2 cb fb
    go_wp2
    go_loopw [9, 10, 11] (fun a m t wr' => ∃ (rm' : List By) (xa : List Ac), a = .string (bstr (Spg.jn 44 rm')) ∧ m = .bool (nE rm') ∧ xa.length ≤ 4 ∧ Hid (OwA wr' w3.heap.size t xa ∧ Below w3.heap.size w3 wr') ∧ Hid (Lft 44 rm') ∧ Hid (goA ts.length xa rm' = srT ts.length z)) (fun a m _ _ => msz a m)
    case atStart => exact ⟨ys, [], rfl, rfl, by simp, HB3, HLF0, HGA0⟩
    case round =>
      clear HB3 HLF0 HGA0
      obtain ⟨rm', xa, rfl, rfl, hxl, HOW, HLR, HGA⟩ := hrel
      obtain ⟨ta, tc, et⟩ := HOW.out.1.form
      subst et
      by_cases hrm : rm' = []
      · subst hrm
        have hd0 : nE ([] : List By) = false := rfl
        rw [hd0]
        have HST : Hid (srT ts.length z = some xa) := hide (HGA.out.symm.trans (goA_end (.inl rfl)))
        have HGT2 := hide ((goT_yes (rm := zr) ht3 HST.out).symm.trans HGT.out)
        obtain ⟨how, hbw⟩ := HOW.out
        have HRx := hide (HW3.out.call hbw)
        obtain ⟨c0, f0⟩ := HRx.out.cells
        have HP := hide (fun (v' : Value) (wy : World) (o : Obj) ho hg hat => HW3.out.push (v' := v') (wy := wy) (o := o) hbw how ho hg hat)
        have hrow := HRx.out.ot.row
        have hnew := news1 wr (.slice ta xa.length tc) 34
        have hsz2 : w1.heap.size ≤ wr.heap.size := HRx.out.gr.size
        have HX5 : Hid (∀ ya ∈ ts ++ [xa], ya.length ≤ 4) := hide (fun ya hy => by
          rcases List.mem_append.1 hy with hy | hy
          · exact HX4.out ya hy
          · simp at hy; subst hy; exact hxl)
        clear how hbw
        go_wp2_with (first | (at_builtin; refine wpList_append_own_at _ rfl _ _ 24 rfl w1.heap.size 34 i0 (.slice none 0 0) 1 24 Tryd.underlying24 hi hz0 hz1 hz2 rfl (by decide) _ _ _ rfl (World.ownsRow.alloc hrow _) ⟨wr.heap.size, 0, none⟩ 1 1 [.slice ta xa.length tc] rfl rfl hnew (by intro u hu; simp at hu; subst hu; rfl) (by unfold maxLen; omega) (by omega) (by simp; omega) ?_) | go_in)
        intro v' wy hown' hgrow _ hat
        obtain ⟨g', cp, rfl, _⟩ := World.ownsRow.form hown' (by omega)
        obtain ⟨hp1, hp2, hp3⟩ := HP.out _ wy _ hown' hgrow (by rw [World.size_alloc]; exact hat)
        have HP1 := hide hp1
        clear hp1 hown' hgrow hat HP hrow hnew c0 f0
        go_wp2
        go_roundw
        case rel => exact ⟨zr, ts ++ [xa], _, _, rfl, rfl, by simp; omega, HP1, hide HLF.out.tail, HGT2, HX5⟩
        case measure => exact HMS.out
      obtain ⟨y, yr, rfl⟩ : ∃ y yr, rm' = y :: yr := by
        cases rm' with
        | nil => exact absurd rfl hrm
        | cons z zr => exact ⟨z, zr, rfl⟩
      have hd1 : nE (y :: yr) = true := rfl
      rw [hd1]
      clear hrm hd1
      by_cases hx4 : 4 ≤ xa.length
      · have hd5 : decide ((xa.length : Int) ≤ 3) = false := by simp; omega
        have hd6 : ¬ (xa.length : Int) ≤ 3 := by omega
        have HST : Hid (srT ts.length z = some xa) := hide (HGA.out.symm.trans (goA_end (.inr hx4)))
        have HGT2 := hide ((goT_yes (rm := zr) ht3 HST.out).symm.trans HGT.out)
        obtain ⟨how, hbw⟩ := HOW.out
        have HRx := hide (HW3.out.call hbw)
        obtain ⟨c0, f0⟩ := HRx.out.cells
        have HP := hide (fun (v' : Value) (wy : World) (o : Obj) ho hg hat => HW3.out.push (v' := v') (wy := wy) (o := o) hbw how ho hg hat)
        have hrow := HRx.out.ot.row
        have hnew := news1 wr (.slice ta xa.length tc) 34
        have hsz2 : w1.heap.size ≤ wr.heap.size := HRx.out.gr.size
        have HX5 : Hid (∀ ya ∈ ts ++ [xa], ya.length ≤ 4) := hide (fun ya hy => by
          rcases List.mem_append.1 hy with hy | hy
          · exact HX4.out ya hy
          · simp at hy; subst hy; exact hxl)
        clear how hbw
        go_wp2_with (first | (at_builtin; refine wpList_append_own_at _ rfl _ _ 24 rfl w1.heap.size 34 i0 (.slice none 0 0) 1 24 Tryd.underlying24 hi hz0 hz1 hz2 rfl (by decide) _ _ _ rfl (World.ownsRow.alloc hrow _) ⟨wr.heap.size, 0, none⟩ 1 1 [.slice ta xa.length tc] rfl rfl hnew (by intro u hu; simp at hu; subst hu; rfl) (by unfold maxLen; omega) (by omega) (by simp; omega) ?_) | go_in)
        intro v' wy hown' hgrow _ hat
        obtain ⟨g', cp, rfl, _⟩ := World.ownsRow.form hown' (by omega)
        obtain ⟨hp1, hp2, hp3⟩ := HP.out _ wy _ hown' hgrow (by rw [World.size_alloc]; exact hat)
        have HP1 := hide hp1
        clear hp1 hown' hgrow hat HP hrow hnew c0 f0
        go_wp2
        go_roundw
        case rel => exact ⟨zr, ts ++ [xa], _, _, rfl, rfl, by simp; omega, HP1, hide HLF.out.tail, HGT2, HX5⟩
        case measure => exact HMS.out
      have hd5 : (xa.length : Int) ≤ 3 := by omega
      replace hx4 : xa.length < 4 := by omega
      have HMT := hide (msz_less (p := 44) y yr)
      have HC3 : Hid (∀ W, Calls Tryd.prog 27 #[.string (bstr (Spg.jn 44 (y :: yr))), .int .u8 44] W fun e w' => e = .returned (.tuple #[.string (bstr y), .string (bstr (Spg.jn 44 yr)), .bool (nE yr)]) ∧ Below W.heap.size W w') := hide (fun W => by
        obtain ⟨q1, q2, q3⟩ := cut_jn HLR.out.1
        have := l1Cut_any (Spg.jn 44 (y :: yr)) 44 W HLR.out.2
        rw [q1, q2, q3] at this
        exact this)
      generalize Spg.jn 44 (y :: yr) = rs2 at HC3 HMT ⊢
      go_wp2_with fail
      refine (HC3.out _).mono ?_
      rintro e w4 ⟨rfl, hb4⟩
      have hb34 := HOW.out.2.trans (hb4.mono HOW.out.2.size)
      have HR4 := hide (HW3.out.call hb34)
      obtain ⟨c4, f4⟩ := HR4.out.cells
      have how4 := HOW.out.1.below hb4
      clear hb4 HC3
      go_wp2_with fail
      refine (l11Read_any y ts.length _ HLR.out.head).mono ?_
      rintro e w5 ⟨q0, q1, q2, q3, q4, rfl, hval, hb5⟩
      have hb35 := hb34.trans (hb5.mono hb34.size)
      have hok5 := how4.below hb5
      have HR5 := hide (HW3.out.call hb35)
      clear hb34 hb5 how4 HR4 c4 f4 HOW
      cases hr : srA ts.length y with
      | none =>
        have HO := hide (HN.out (HGT.out.symm.trans (goT_no (rm := zr) ht3 (HGA.out.symm.trans (goA_no (rm := yr) hx4 hr)))))
        simp only [Option.isSome]
        have HBx := hide (HR5.out.call ((Below.refl _ w5).alloc (Nat.le_refl _) (.cells (five q0 q1 q2 q3 q4) 42)))
        have HBB : Hid (Below w.heap.size w ((w5.alloc (.cells (five q0 q1 q2 q3 q4) 42)).setCell ⟨w.heap.size, 0, none⟩ (.slice none 0 0))) := hide ((HB1.out.grown HBx.out.gr HB1.out.size (fun k hk => by have := Option.some.inj hk; omega)).setCell (Nat.le_refl _) _)
        have p0 : (w5.alloc (.cells (five q0 q1 q2 q3 q4) 42)).heap[w.heap.size]? = some (.cells #[.slice none 0 0] 26 (0, 0)) := (HBx.out.gr.block w.heap.size (by omega) (fun e => by have := Option.some.inj e; omega)).trans HD0.out
        have f0 := fun i => frozen_of_row _ _ i _ _ p0
        have c0 := (cell_of_row _ _ 0 _ _ _ p0).trans rfl
        clear hr hval hok5 hb35 p0
        go_wp2
        refine bodyPost_ret (v := .tuple #[.agg #[.slice none 0 0], .bool false]) (by simp [results, Tryd.results12, go_sem, Act.put, c0]) rfl ⟨HBB.out, .inl ⟨HO.out, rfl⟩⟩
      | some b =>
        obtain rfl := hval b hr
        have HG2 := hide ((goA_yes (rm := yr) hx4 hr).symm.trans HGA.out)
        simp only [Option.isSome]
        have hsz := hb35.size
        have hB4 := hb35.alloc hsz (.cells (five q0 q1 q2 q3 q4) 42)
        have hok4 : OwA (w5.alloc (.cells (five q0 q1 q2 q3 q4) 42)) w3.heap.size (.slice ta xa.length tc) xa := World.ownsRow.alloc hok5 _
        have hnew := news5 (w5.alloc (.cells (five q0 q1 q2 q3 q4) 42)) ⟨q0, q1, q2, q3, q4⟩
        have hone := one5 ⟨q0, q1, q2, q3, q4⟩
        simp only [World.size_alloc] at hnew
        have HF : Hid (∀ v' wy, wy.ownsRow w3.heap.size 42 5 v' (xa.length + 1) (cAs xa ++ cA ⟨q0, q1, q2, q3, q4⟩) → ((w5.alloc (.cells (five q0 q1 q2 q3 q4) 42)).alloc (.cells (five q0 q1 q2 q3 q4) 42)).grownBy wy (Value.slice ta xa.length tc).ownBlock → OwA wy w3.heap.size v' (xa ++ [⟨q0, q1, q2, q3, q4⟩]) ∧ Below w3.heap.size w3 wy) := hide (fun v' wy h1 h2 => OwA.more hB4 (by simp; omega) hok4 h1 h2)
        unfold OwA at hok4
        clear hok5 hb35 hB4 hr hval
        go_wp2_with (first | (at_builtin; refine wpList_append_own _ rfl _ _ 34 rfl w3.heap.size 42 j0 (.agg #[.int .i64 0, .int .i64 0, .int .i64 0, .int .i64 0, .int .i64 0]) 5 40 Tryd.underlying34 hj hy0 hy1 hy2 rfl (by decide) _ _ _ rfl (World.ownsRow.alloc hok4 _) ⟨w5.heap.size + 1, 0, none⟩ 1 1 (cA ⟨q0, q1, q2, q3, q4⟩) rfl rfl hnew hone (by unfold maxLen; omega) (by omega) (by simp; omega) ?_) | go_in)
        intro v' w6 hown' hgrow _
        have HF2 := hide (HF.out v' w6 hown' hgrow)
        clear hown' hgrow HF hok4 hnew hone
        go_wp2
        go_roundw
        case rel => exact ⟨yr, xa ++ [⟨q0, q1, q2, q3, q4⟩], rfl, rfl, by simp; omega, HF2, hide HLR.out.tail, HG2⟩
        case measure => exact HMT.out

end Go.Proofs.YtokekgfompbdiaaDoor
