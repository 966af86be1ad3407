/- impl.ReadLitmus -/
import Derived.Test.YtokekgfompbdiaaDoorRlC
namespace Go.Proofs.YtokekgfompbdiaaDoor
open Go.RowKit
set_option linter.unusedVariables false
set_option linter.unusedSimpArgs false

theorem infoTh : (Tryd.prog.info? 34).map (fun i => (i.zero, i.size, i.bytes)) = some (some (.slice none 0 0), 1, 24) := infoActs
theorem Mx.ne {w w' : World} {row : Option Nat} (h : Mx w) (hg : w.grownBy w' row) (hr : ∀ k, row = some k → k ≠ 0) : Mx w' := by
  obtain ⟨m, h⟩ := h
  exact ⟨m, by rw [World.cell?_of_block (hg.block 0 (World.block_lt_of_cell? w _ h) (fun e => hr _ e.symm rfl))]; exact h⟩
theorem Mx.lt {w : World} (h : Mx w) : 0 < w.heap.size := by
  obtain ⟨m, h⟩ := h
  exact World.block_lt_of_cell? w _ h

set_option maxRecDepth 20000 in
set_option maxHeartbeats 4000000 in
theorem implReadLit_any (s : By) (w : World) (hm : Mx w) (hs : s.length ≤ 1048576) : Calls Tryd.prog 7 #[.string (bstr s)] w (RlPost (rlI s) w) := by
  obtain ⟨i0, hi, hz0, hz1, hz2⟩ := info_parts infoTh
  have hB0 : Below w.heap.size w ((w.alloc (.cells #[.slice none 0 0] 26)).alloc (.cells #[.slice none 0 0] 26)) := ((Below.refl _ _).alloc (Nat.le_refl _) _).alloc (by simp) _
  have k0 : ((w.alloc (.cells #[.slice none 0 0] 26)).alloc (.cells #[.slice none 0 0] 26)).heap[w.heap.size]? = some (.cells #[.slice none 0 0] 26 (0, 0)) := by
    rw [Below.heap_alloc _ _ _ (by simp)]
    exact heap_alloc_new _ _
  have k1 : ((w.alloc (.cells #[.slice none 0 0] 26)).alloc (.cells #[.slice none 0 0] 26)).heap[w.heap.size + 1]? = some (.cells #[.slice none 0 0] 26 (0, 0)) := by
    have := heap_alloc_new (w.alloc (.cells #[.slice none 0 0] 26)) (.cells #[.slice none 0 0] 26)
    simpa only [World.size_alloc] using this
  have hz : ((w.alloc (.cells #[.slice none 0 0] 26)).alloc (.cells #[.slice none 0 0] 26)).heap.size = w.heap.size + 1 + 1 := by simp
  have hcount := sK_count [32, 124, 32] s (by decide)
  have hmw := hm.lt
  have HR : Hid (∀ ts, rdL s = some ts → rlI s = if litT ts = true then some ts else none) := hide (fun ts h => by unfold rlI; rw [h])
  have HN : Hid (rdL s = none → rlI s = none) := hide (fun h => by unfold rlI; rw [h])
  have HL : Hid (rdL s = rdTs 0 (sK [32, 124, 32] s)) := hide rfl
  go_enter Tryd.func7, Tryd.ntmps7
  go_wp2_with fail
  generalize hW : World.alloc (World.alloc w _) _ = W at *
  have HM0 := hide (hm.below hB0)
  clear hW
  refine (split_any s [32, 124, 32] _ HM0.out hs (by decide)).mono ?_
  rintro e w1 ⟨g, rfl, hwd, hb1⟩
  generalize hk : sK [32, 124, 32] s = xs at *
  have HM1 := hide (HM0.out.below hb1)
  have hsz1 : w.heap.size + 1 + 1 ≤ w1.heap.size := by have := hb1.size; omega
  have d0 := (hb1.block w.heap.size (by omega)).trans k0
  have d1 := (hb1.block (w.heap.size + 1) (by omega)).trans k1
  have HB1 := hide (hB0.trans (hb1.mono (by omega)))
  obtain ⟨ad, cap, e1, _, hc, hx⟩ := hwd
  obtain ⟨rfl, rfl⟩ : some ⟨g, 0, none⟩ = ad ∧ xs.length = cap := by simp only [Value.slice.injEq] at e1; exact ⟨e1.1, e1.2.2⟩
  have HC : Hid (∀ j, j < xs.length → w1.cell? ⟨g, j, none⟩ = some (.string (bstr (xs.getD j []))) ∧ g ≠ w.heap.size + 1 ∧ g ≠ w.heap.size) := hide (fun j hj => by
    obtain ⟨b, off, e2, hd⟩ := hc (by omega)
    simp only [Option.some.injEq, Addr.mk.injEq] at e2
    obtain ⟨rfl, rfl, _⟩ := e2
    have := hd j hj
    rw [Nat.zero_add] at this
    refine ⟨this, fun e => ?_, fun e => ?_⟩
    · subst e
      rw [cell_of_row _ _ _ _ _ _ d1] at this
      match j with
      | 0 => simp at this
      | j + 1 => simp at this
    · subst e
      rw [cell_of_row _ _ _ _ _ _ d0] at this
      match j with
      | 0 => simp at this
      | j + 1 => simp at this)
  have HX := hide hx
  have HK := hide hk
  have HRW0 : Hid (Rw w1 w1 (w.heap.size + 1) (.slice none 0 0) [] (fun _ => .slice none 0 0)) := hide ⟨⟨rfl, rfl, rfl, Nat.le_refl _, fun _ _ _ => rfl⟩, d1, OwT.nil _ _, by omega⟩
  have HD0 := hide d0
  obtain ⟨n, hn⟩ : ∃ n, xs.length = n := ⟨_, rfl⟩
  rw [hn] at hcount ⊢
  have HNN := hide hn
  clear hc hx hk e1 hb1 d0 d1 k0 k1 hz hB0 HM0 hn
  go_wp2
  go_loopw [12] (fun j wr => ∃ (k : Nat) (ts : List (List Ac)) (v : Value) (vs : Nat → Value), k ≤ n ∧ j = .int .i64 k ∧ ts.length = k ∧ Hid (Rw w1 wr (w.heap.size + 1) v ts vs) ∧ Hid (rdTs 0 (xs.take k) = some ts)) (fun j _ => n - (intOf j).toNat)
  case atStart => exact ⟨0, [], _, _, by omega, rfl, rfl, HRW0, hide rfl⟩
  case round =>
    clear HRW0
    obtain ⟨k, ts, v, vs, hkn, rfl, hlen, HW, HKT⟩ := hrel
    have hbl : ts.length ≤ 1048577 := by omega
    have HLEN := hide hlen
    clear hlen
    by_cases hlt : k < n
    · have hkx : k < xs.length := by rw [HNN.out]; exact hlt
      have ck : wr.cell? ⟨g, k, none⟩ = some (.string (bstr (xs.getD k []))) := HW.out.keep (HC.out k hkx).1 (HC.out k hkx).2.1
      have hkl := HX.out (xs.getD k []) (by simp [List.getElem?_eq_getElem hkx])
      have HMk : Hid (Mx wr) := hide (HM1.out.ne HW.out.gr (fun j hj => by have := Option.some.inj hj; omega))
      have HST := hide (fun xa => rdTs_step (xa := xa) hkx HKT.out)
      have HSN := hide (fun h => HN.out (HL.out.trans (rdTs_stop (xs := xs) (k := k) hkx h)))
      generalize xs.getD k [] = t at ck hkl HST HSN
      go_wp2_with fail
      refine (readThread_any t k _ HMk.out hkl).mono ?_
      rintro e w2 ⟨hb2, ⟨hr, rfl⟩ | ⟨xa, v2, hr, rfl, ha⟩⟩
      · have HO := hide (HSN.out hr)
        have HBx := hide (HW.out.call hb2)
        have q0 : w2.heap[w.heap.size]? = some (.cells #[.slice none 0 0] 26 (0, 0)) := (HBx.out.gr.block w.heap.size (by omega) (fun e => by have := Option.some.inj e; omega)).trans HD0.out
        have f0 := fun i => frozen_of_row _ _ i _ _ q0
        have c0 := (cell_of_row _ _ 0 _ _ _ q0).trans rfl
        have HBB : Hid (Below w.heap.size w (w2.setCell ⟨w.heap.size, 0, none⟩ (.slice none 0 0))) := hide ((HB1.out.grown HBx.out.gr HB1.out.size (fun k hk => by have := Option.some.inj hk; omega)).setCell (Nat.le_refl _) _)
        clear hr hb2 HST HSN HMk ck q0
        go_wp2
        refine bodyPost_ret (v := .tuple #[.agg #[.slice none 0 0], .bool false]) (by simp [results, Tryd.results7, go_sem, Act.put, c0]) rfl ⟨HBB.out, .inl ⟨HO.out, rfl⟩⟩
      · have HK2 := hide (HST.out xa hr)
        obtain ⟨va, vc, rfl⟩ := ha.form
        have HRx := hide (HW.out.call hb2)
        obtain ⟨c0, f0⟩ := HRx.out.cells
        have HP := hide (fun (v' : Value) (wy : World) (o : Obj) ho hg hat => HW.out.push (v' := v') (wy := wy) (o := o) hb2 ha ho hg hat)
        have hrow := HRx.out.ot.row
        have hnew := news1 w2 (.slice va xa.length vc) 34
        have hsz2 : w1.heap.size ≤ w2.heap.size := HRx.out.gr.size
        clear hr hb2 HST HSN HMk ck ha
        go_wp2_with (first | (at_builtin; refine wpList_append_own_at _ rfl _ _ 24 rfl w1.heap.size 34 i0 (.slice none 0 0) 1 24 Tryd.underlying24 hi hz0 hz1 hz2 rfl (by decide) _ _ _ rfl (World.ownsRow.alloc hrow _) ⟨w2.heap.size, 0, none⟩ 1 1 [.slice va xa.length vc] rfl rfl hnew (by intro u hu; simp at hu; subst hu; rfl) (by unfold maxLen; omega) (by omega) (by simp; omega) ?_) | go_in)
        intro v' wy hown' hgrow _ hat
        obtain ⟨g', cp, rfl, _⟩ := World.ownsRow.form hown' (by omega)
        obtain ⟨hp1, hp2, hp3⟩ := HP.out _ wy _ hown' hgrow (by rw [World.size_alloc]; exact hat)
        have HP1 := hide hp1
        clear hp1 hown' hgrow hat HP hrow hnew c0 f0
        go_wp2
        go_roundw
        case rel => exact ⟨k + 1, ts ++ [xa], _, _, by omega, by go_num, by simp [HLEN.out], HP1, HK2⟩
        case measure => simp [intOf]; omega
    · have hall : rdL s = some ts := by rw [HL.out, ← HKT.out, List.take_of_length_le (by rw [HNN.out]; omega)]
      have HO := hide (HR.out ts hall)
      obtain ⟨c1, f1⟩ := HW.out.cells
      have HSA := hide HW.out.ot.sa
      have q0 : wr.heap[w.heap.size]? = some (.cells #[.slice none 0 0] 26 (0, 0)) := (HW.out.gr.block w.heap.size (by omega) (fun e => by have := Option.some.inj e; omega)).trans HD0.out
      clear hall
      obtain ⟨va, vc, ev⟩ : ∃ va vc, v = .slice va ts.length vc := by
        obtain ⟨va, vc, e, _⟩ := HSA.out
        exact ⟨va, vc, e⟩
      subst ev
      go_wp2_with fail
      refine (implLitmusOk_any _ ts.length (Lf ts) (Ff ts) _ HSA.out).mono ?_
      rintro e w2 ⟨rfl, hb2⟩
      have HRx := hide (HW.out.call hb2)
      obtain ⟨c2, f2⟩ := HRx.out.cells
      have q2 := (hb2.block w.heap.size (lt_of_block q0)).trans q0
      have f0 := fun i => frozen_of_row _ _ i _ _ q2
      have c0 := (cell_of_row _ _ 0 _ _ _ q2).trans rfl
      have HBB : Hid (∀ u, Below w.heap.size w (w2.setCell ⟨w.heap.size, 0, none⟩ u)) := hide (fun u => (HB1.out.grown HRx.out.gr HB1.out.size (fun k hk => by have := Option.some.inj hk; omega)).setCell (Nat.le_refl _) _)
      have HLT : Hid (litT ts = litB ts.length (Lf ts) (Ff ts)) := hide rfl
      cases ht : litB ts.length (Lf ts) (Ff ts) with
      | false =>
        have HO2 : Hid (rlI s = none) := hide (by rw [HO.out, HLT.out, ht]; rfl)
        clear hb2 q0 q2 c1 f1 ht
        go_wp2
        refine bodyPost_ret (v := .tuple #[.agg #[.slice none 0 0], .bool false]) (by simp [results, Tryd.results7, go_sem, Act.put, c0]) rfl ⟨HBB.out _, .inl ⟨HO2.out, rfl⟩⟩
      | true =>
        have HO2 : Hid (rlI s = some ts) := hide (by rw [HO.out, HLT.out, ht]; rfl)
        clear hb2 q0 q2 c1 f1 ht
        go_wp2
        refine bodyPost_ret (v := .tuple #[.agg #[.slice va ts.length vc], .bool true]) (by simp [results, Tryd.results7, go_sem, Act.put, c0]) rfl ⟨HBB.out _, .inr ⟨ts, _, vs, HO2.out, rfl, (HRx.out.ot.set (by omega)).mono (by omega)⟩⟩

end Go.Proofs.YtokekgfompbdiaaDoor
