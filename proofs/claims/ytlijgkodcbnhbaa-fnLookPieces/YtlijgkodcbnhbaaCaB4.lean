/- impl.allAddrs, impl.LookedAll -/
import Derived.Test.YtlijgkodcbnhbaaCaB3
namespace Go.Proofs.Ytlijgkodcbnhbaa
open Go.RowKit
set_option linter.unusedVariables false
set_option linter.unusedSimpArgs false

set_option maxHeartbeats 1000000 in
theorem allAddrs_any (va : Value) (zs : List Int) (w : World) (hz : Sl w va zs) (hl : zs.length ≤ 100) :
    Calls Try.prog 14 #[va] w fun e w' => e = .returned (.bool (decide (∀ j, j < zs.length → inR (zf zs j) 1000 = true))) ∧ w' = w := by
  obtain ⟨az, cz, rfl, hzz⟩ := hz
  obtain ⟨N, hN⟩ : ∃ N, zs.length = N := ⟨_, rfl⟩
  rw [hN] at hzz hl ⊢
  clear hN
  go_enter Try.func14, Try.ntmps14
  go_wp2
  go_loopw [7] (fun i wr => ∃ k : Nat, k ≤ N ∧ i = .int .i64 k ∧ wr = w ∧ Hid (∀ j, j < k → inR (zf zs j) 1000 = true)) (fun i _ => N - (intOf i).toNat)
  case atStart => exact ⟨0, Nat.zero_le _, rfl, rfl, hide (fun j hj => by omega)⟩
  case round =>
    obtain ⟨k, hk, rfl, rfl, HA⟩ := hrel
    by_cases hlt : k < N
    · obtain ⟨bz, oz, rfl, hc⟩ := hzz (by omega)
      have hcz : wr.cell? ⟨bz, oz + k, none⟩ = some (.int .i64 (zf zs k)) := hc k hlt
      have hA := fun w => isAddr_any (zf zs k) w
      cases hx : inR (zf zs k) 1000
      · have HO : Hid (false = decide (∀ j, j < N → inR (zf zs j) 1000 = true)) := hide (by rw [decide_eq_false]; intro hh; rw [hh k hlt] at hx; cases hx)
        rw [hx] at hA
        clear hx hc hzz
        generalize zf zs k = zk at hcz hA
        go_wp2_with fail
        refine (hA _).mono ?_
        rintro e w2 ⟨rfl, rfl⟩
        go_wp2
        go_ret
        exact ⟨ret_b HO.out, rfl⟩
      · have HA2 : Hid (∀ j, j < k + 1 → inR (zf zs j) 1000 = true) := hide (fun j hj => by
          by_cases e : j = k
          · rw [e]; exact hx
          · exact HA.out j (by omega))
        rw [hx] at hA
        clear hx hc hzz HA
        generalize zf zs k = zk at hcz hA
        go_wp2_with fail
        refine (hA _).mono ?_
        rintro e w2 ⟨rfl, rfl⟩
        go_wp2
        go_roundw
        case rel => exact ⟨k + 1, by omega, by go_num, by first | rfl | trivial, HA2⟩
        case measure => simp [intOf]; omega
    · have e : k = N := by omega
      subst e
      have HO : Hid (true = decide (∀ j, j < k → inR (zf zs j) 1000 = true)) := hide (decide_eq_true HA.out).symm
      clear hzz
      go_wp2
      go_ret
      exact ⟨ret_b HO.out, rfl⟩

theorem heap73 {W : World} {g : Nat} {s t s' t' : Sm} (h : W.heap[g]? = some (.cells (c18 s t) 45 (0, 0))) : (W.setCells g 0 (c18 s' t').toList).heap[g]? = some (.cells (c18 s' t') 45 (0, 0)) := by
  have e : W.setCells g 0 (c18 s' t').toList = (W.setCells g 0 (c9 s').toList).setCells g 9 (c9 t').toList := by kernel_rfl
  rw [e]
  exact heap9_1 (heap9_0 h)

theorem Rb.heap {w w' : World} {B : Nat} {v : Value} {n : Nat} {h : Nat → Bool} (r : Rb w B v n h) (he : ∀ g, v.ownBlock = some g → w'.heap[g]? = w.heap[g]?) : Rb w' B v n h := by
  refine ⟨r.1, ?_⟩
  rcases r.2 with h' | ⟨g', cap, cur, h', hbb, hg, q⟩
  · exact .inl h'
  · exact .inr ⟨g', cap, cur, h', hbb, (he g' (by rw [h']; rfl)).trans hg, q⟩

structure Lw (w wr : World) (rb b6 B8 : Nat) (v : Value) (k : Nat) (s t : Sm) (h : Nat → Bool) : Prop where
  bel : Below w.heap.size w wr
  res : wr.heap[rb]? = some (.cells #[.slice none 0 0] 26 (0, 0))
  var : wr.heap[b6]? = some (.cells (c18 s t) 45 (0, 0))
  row : Rb wr B8 v k h
  lo : w.heap.size ≤ rb ∧ rb < b6 ∧ b6 < B8 ∧ B8 ≤ wr.heap.size
theorem Lw.mid {w wr w2 : World} {rb b6 B8 : Nat} {v : Value} {k : Nat} {s t s' t' : Sm} {h : Nat → Bool} (l : Lw w wr rb b6 B8 v k s t h) (hb : Below wr.heap.size wr w2) (O : Obj) : Lw w ((w2.alloc O).setCells b6 0 (c18 s' t').toList) rb b6 B8 v k s' t' h := by
  obtain ⟨l1, l2, l3, l4⟩ := l.lo
  have hA : Below w2.heap.size w2 (w2.alloc O) := (Below.refl _ _).alloc (Nat.le_refl _) _
  have hX := hb.trans (hA.mono hb.size)
  have hbl := l.row.lt
  have hs := (below_setCells (Below.refl 0 (w2.alloc O)) (Nat.zero_le b6) (c18 s' t').toList 0).size
  have hs2 := hX.size
  refine ⟨below_setCells (l.bel.trans (hX.mono l.bel.size)) (by omega) _ _, ?_, heap73 (heap_b l.var hX), Rb.heap (Rb.below l.row hX) (fun g hg => setCells_far (W := w2) (by have := (hbl g hg).1; omega) _ _ _), l1, l2, l3, by omega⟩
  rw [setCells_far (W := w2) (show rb ≠ b6 by omega)]
  exact heap_b l.res hX
theorem Lw.app {w V w3 : World} {rb b6 B8 : Nat} {v : Value} {k : Nat} {s t : Sm} {h : Nat → Bool} {g cap : Nat} {O : Obj} (l : Lw w V rb b6 B8 v k s t h)
    (ho : w3.ownsRow B8 4 1 (sl g (k + 1) cap) (k + 1) (bl h k ++ [.bool (h k)])) (hg : (V.alloc O).grownBy w3 v.ownBlock) : Lw w w3 rb b6 B8 (sl g (k + 1) cap) (k + 1) s t h := by
  obtain ⟨l1, l2, l3, l4⟩ := l.lo
  have hs2 := hg.size
  simp only [World.size_alloc] at hs2
  have hbl := l.row.lt
  have hWb : Below w.heap.size w (V.alloc O) := l.bel.alloc l.bel.size _
  refine ⟨hWb.grown hg (by simp; have := l.bel.size; omega) (fun j hj => by have := (hbl j hj).1; omega), ?_, ?_, by rw [Rb, bl_succ]; exact ho, l1, l2, l3, by omega⟩
  · exact (hg.block rb (by simp; omega) (fun e => by have := (hbl rb e.symm).1; omega)).trans (heap_a l.res _)
  · exact (hg.block b6 (by simp; omega) (fun e => by have := (hbl b6 e.symm).1; omega)).trans (heap_a l.var _)

set_option maxHeartbeats 4000000 in
set_option maxRecDepth 20000 in
theorem implAll_any (v va : Value) (n : Nat) (L : Nat → Nat) (D : Nat → Sm) (zs : List Int) (w : World) (hv : Cv w v n L D) (hz : Sl w va zs) :
    Calls Try.prog 6 #[.agg #[v], va] w fun e w' => AllPost n L D zs w e w' := by
  obtain ⟨W, hW⟩ : ∃ W, (w.alloc (.cells #[v] 26)).alloc (.cells #[.slice none 0 0] 26) = W := ⟨_, rfl⟩
  have hB : Below w.heap.size w W := by rw [← hW]; exact ((Below.refl _ _).alloc (Nat.le_refl _) _).alloc (by simp) _
  have hr : W.heap[w.heap.size + 1]? = some (.cells #[.slice none 0 0] 26 (0, 0)) := by
    rw [← hW]
    have := heap_alloc_new (w.alloc (.cells #[v] 26)) (.cells #[.slice none 0 0] 26)
    simpa only [World.size_alloc] using this
  have hc0 : W.cell? ⟨w.heap.size, 0, none⟩ = some v := by
    rw [← hW]
    have h0 : (w.alloc (.cells #[v] 26)).cell? ⟨w.heap.size, 0, none⟩ = some v := cell_of_row _ _ 0 _ _ _ (heap_alloc_new _ _)
    exact allocc h0 _
  have hws : W.heap.size = w.heap.size + 1 + 1 := by rw [← hW]; simp
  have HV := hide (hv.below hB)
  obtain ⟨ad, cap, rfl, _⟩ := hv
  have HZ0 := hide hz
  obtain ⟨az, cz, rfl, hzz⟩ := hz
  obtain ⟨N, hN⟩ : ∃ N, zs.length = N := ⟨_, rfl⟩
  have HN := hide hN
  rw [hN] at hzz HZ0
  rw [hN]
  go_enter Try.func6, Try.ntmps6
  go_wp2_with fail
  refine (setsOf_all _ n L D _ HV.out).mono ?_
  rintro e w1 ⟨s, t, rfl, hst1, hb1⟩
  have hst := stored73 w1 s t
  have hz18 : (c18 s t).size = 18 := rfl
  have hB1 := hB.trans (hb1.mono hB.size)
  have hr1 := heap_b hr hb1
  have hw1 := hb1.size
  clear hb1 hB HV hW hc0 hr
  obtain ⟨W2, hW2⟩ : ∃ W2, w1.alloc (.cells (c18 s t) 45) = W2 := ⟨_, rfl⟩
  have hg2 : W2.heap[w1.heap.size]? = some (.cells (c18 s t) 45 (0, 0)) := by rw [← hW2]; exact heap_alloc_new _ _
  have hr2 : W2.heap[w.heap.size + 1]? = some (.cells #[.slice none 0 0] 26 (0, 0)) := by rw [← hW2]; exact heap_a hr1 _
  have hB2 : Below w.heap.size w W2 := by rw [← hW2]; exact below_a hB1 (Nat.le_refl _) _
  have hw2 : W2.heap.size = w1.heap.size + 1 := by rw [← hW2]; simp
  rw [hW2] at hst
  have r0 := cell_of_row _ _ 0 _ _ _ hr2
  have rf := frozen_of_row _ _ 0 _ _ hr2
  simp at r0
  clear hW2 hB1 hr1
  obtain ⟨C, hC⟩ : ∃ C, c18 s t = C := ⟨_, rfl⟩
  have HCC := hide hC
  rw [hC] at hst hz18
  rw [hC]
  clear hC
  cases hc : Ca.cokB n L D
  · have HO : Hid (aok n L D zs = false) := hide (aok_cok hc)
    have HB := hide hB2
    clear hst1 hc hg2 hr2 hB2 hzz HZ0 hN
    go_wp2
    refine bodyPost_ret (v := .tuple #[.agg #[.slice none 0 0], .slice none 0 0]) (by simp [results, Try.results6, go_sem, r0]) rfl (.inr ⟨HO.out, rfl, HB.out.setCell (by simp) _⟩)
  by_cases hlen : N ≤ 100
  case neg =>
    have HO : Hid (aok n L D zs = false) := hide (aok_len (by rw [hN]; exact hlen))
    have HB := hide hB2
    clear hst1 hc hg2 hr2 hB2 hzz HZ0 hN
    go_wp2
    refine bodyPost_ret (v := .tuple #[.agg #[.slice none 0 0], .slice none 0 0]) (by simp [results, Try.results6, go_sem, r0]) rfl (.inr ⟨HO.out, rfl, HB.out.setCell (by simp) _⟩)
  have HSL : Hid (Sl W2 (.slice az N cz) zs) := hide (HZ0.out.carry (Below.keep hB2))
  have hall := fun W h => allAddrs_any (.slice az N cz) zs W h (by rw [hN]; exact hlen)
  by_cases hok : ∀ j, j < zs.length → inR (zf zs j) 1000 = true
  case neg =>
    have HO : Hid (aok n L D zs = false) := hide (by simp only [aok, decide_eq_false hok, Bool.and_false])
    have HB := hide hB2
    rw [decide_eq_false hok] at hall
    clear hst1 hc hg2 hr2 hB2 hzz HZ0 hN hok
    go_wp2_with fail
    refine (hall _ HSL.out).mono ?_
    rintro e w3 ⟨rfl, rfl⟩
    clear hall
    go_wp2
    refine bodyPost_ret (v := .tuple #[.agg #[.slice none 0 0], .slice none 0 0]) (by simp [results, Try.results6, go_sem, r0]) rfl (.inr ⟨HO.out, rfl, HB.out.setCell (by simp) _⟩)
  have HY : Hid (aok n L D zs = true) := hide (aok_yes hc (by rw [hN]; exact hlen) hok)
  obtain ⟨rfl, rfl⟩ := hst1 hc
  obtain ⟨rfl, _, _, hrs, hrt⟩ := cok_two hc
  rw [decide_eq_true hok] at hall
  rw [hN] at hok
  have HRR := hide (fun j (hj : j ≤ N) => Ca.rn_right (z := zf zs) hrs hrt j (fun i hi => hok i (by omega)))
  have HALL := hide hok
  have hzc : ∀ wr, Below w.heap.size w wr → ∀ k, k < N → ∃ bz oz, az = some ⟨bz, oz, none⟩ ∧ wr.cell? ⟨bz, oz + k, none⟩ = some (.int .i64 (zf zs k)) := fun wr hb k hk => by
    obtain ⟨bz, oz, e, h⟩ := hzz (by omega)
    exact ⟨bz, oz, e, Below.keep hb _ _ (h k hk)⟩
  have HS : Hid (Lw w W2 (w.heap.size + 1) w1.heap.size (w1.heap.size + 1) (.slice none 0 0) 0 (Ca.rn (D 0) (D 1) (zf zs) 0).1 (Ca.rn (D 0) (D 1) (zf zs) 0).2 (Ca.ht (D 0) (D 1) (zf zs))) := hide ⟨hB2, hr2, hg2, World.ownsRow_nil _ _ _ _, by omega, by omega, by omega, by omega⟩
  obtain ⟨i0, hi, hz0, hz1, hz2⟩ := info_parts infoB
  clear hst1 hc hg2 hr2 hB2 hzz HZ0 hN hok hrs hrt
  go_wp2_with fail
  refine (hall _ HSL.out).mono ?_
  rintro e w3 ⟨rfl, rfl⟩
  clear hall HSL r0 rf hst HCC
  go_wp2
  go_loopw [8, 34] (fun v i wr => ∃ (j : Nat), j ≤ N ∧ i = .int .i64 j ∧ Hid (Lw w wr (w.heap.size + 1) w1.heap.size (w1.heap.size + 1) v j (Ca.rn (D 0) (D 1) (zf zs) j).1 (Ca.rn (D 0) (D 1) (zf zs) j).2 (Ca.ht (D 0) (D 1) (zf zs)))) (fun _ i _ => N - (intOf i).toNat)
  case atStart => exact ⟨0, Nat.zero_le _, rfl, HS⟩
  case round =>
    clear HS
    obtain ⟨j, hj, rfl, HL⟩ := hrel
    by_cases hlt : j < N
    · obtain ⟨bz, oz, rfl, hcz⟩ := hzc _ HL.out.bel j hlt
      have hx := HALL.out j hlt
      have hx0 := ((inR_cases hx).1 rfl).1
      obtain ⟨hrs, hrt⟩ := HRR.out j (by omega)
      have hl : ∀ W, Calls Try.prog 15 #[.agg (c18 (Ca.rn (D 0) (D 1) (zf zs) j).1 (Ca.rn (D 0) (D 1) (zf zs) j).2), .int .i64 (zf zs j)] W fun e w' => e = .returned (.tuple #[.agg (c18 (Ca.rn (D 0) (D 1) (zf zs) (j + 1)).1 (Ca.rn (D 0) (D 1) (zf zs) (j + 1)).2), .bool (Ca.ht (D 0) (D 1) (zf zs) j), .int .i64 (Ca.gn (Ca.at2 (Ca.rn (D 0) (D 1) (zf zs) j).1 (Ca.rn (D 0) (D 1) (zf zs) j).2 (zf zs j)) (zf zs j))]) ∧ Below W.heap.size W w' := fun W => lookedW_any _ _ _ W hx0 (Ca.right_bits hrs) (Ca.right_bits hrt)
      clear hx hx0 hrs hrt hzc
      generalize hs' : (Ca.rn (D 0) (D 1) (zf zs) (j + 1)).1 = s' at hl
      generalize ht' : (Ca.rn (D 0) (D 1) (zf zs) (j + 1)).2 = t' at hl
      have HE := hide (And.intro hs' ht')
      clear hs' ht'
      generalize (Ca.gn (Ca.at2 (Ca.rn (D 0) (D 1) (zf zs) j).1 (Ca.rn (D 0) (D 1) (zf zs) j).2 (zf zs j)) (zf zs j)) = gg at hl
      generalize (Ca.rn (D 0) (D 1) (zf zs) j).1 = s at hl HL
      generalize (Ca.rn (D 0) (D 1) (zf zs) j).2 = t at hl HL
      generalize hhk : Ca.ht (D 0) (D 1) (zf zs) j = hh at hl
      have HH := hide hhk
      clear hhk
      generalize zf zs j = zk at hl hcz
      have HR0 : Hid (wr.rangeAt w1.heap.size 0 (c18 s t).toList) := hide (range73 HL.out.var)
      have hsz0 : (c18 s t).toList.length = 18 := rfl
      obtain ⟨C0, hC0⟩ : ∃ C0, c18 s t = C0 := ⟨_, rfl⟩
      rw [hC0] at hl HR0 hsz0
      clear hC0
      go_wp2_with (first | ((with_reducible refine wpList_load_mid (op := { dst := some 39, op := Op.load 45 (Operand.tmp 6), type := 45, pos := _, after := _, guard := none }) ?_ 45 (Operand.tmp 6) ?_ w1.heap.size 0 ?_ C0.toList _ HR0.out Try.underlying45 ?_ ?_ ?_); (· rfl); (· rfl); (· rfl); (· rfl); (· rw [info73, hsz0])) | fail)
      refine (hl _).mono ?_
      rintro e w2 ⟨rfl, hb2⟩
      have hst4 := stored73 w2 s' t'
      have hz4 : (c18 s' t').size = 18 := rfl
      have hsz4 : (c18 s' t').toList.length = 18 := rfl
      have hbz := hb2.size
      have HM : Hid (Lw w ((w2.alloc (.cells (c18 s' t') 45)).setCells w1.heap.size 0 (c18 s' t').toList) (w.heap.size + 1) w1.heap.size (w1.heap.size + 1) u8 j s' t' (Ca.ht (D 0) (D 1) (zf zs))) := hide (Lw.mid HL.out hb2 _)
      have hput : (storeCells ⟨w1.heap.size, 0, none⟩ (c18 s' t').toList).run Try.prog (w2.alloc (.cells (c18 s' t') 45)) = .ok () ((w2.alloc (.cells (c18 s' t') 45)).setCells w1.heap.size 0 (c18 s' t').toList) := put73 (s' := s) (t' := t) (heap_a (heap_b HL.out.var hb2) _)
      obtain ⟨W5, hW5⟩ : ∃ W5, w2.alloc (.cells (c18 s' t') 45) = W5 := ⟨_, rfl⟩
      have HL5 : Hid (W5.rangeAt w2.heap.size 0 (c18 s' t').toList) := hide (by rw [← hW5]; exact range73 (heap_alloc_new _ _))
      rw [hW5] at hst4 hput HM
      obtain ⟨V, hV⟩ : ∃ V, W5.setCells w1.heap.size 0 (c18 s' t').toList = V := ⟨_, rfl⟩
      rw [hV] at hput HM
      have hrow := HM.out.row
      have hVs := HM.out.lo.2.2.2
      clear hV hW5 hb2 hl HL HR0
      obtain ⟨C4, hC4⟩ : ∃ C4, c18 s' t' = C4 := ⟨_, rfl⟩
      rw [hC4] at hst4 hz4 hsz4 HL5 hput ⊢
      clear hC4
      go_wp2_with (first | ((with_reducible refine wpList_load_mid (op := { dst := some 45, op := Op.load 45 (Operand.tmp 11), type := 45, pos := _, after := _, guard := none }) ?_ 45 (Operand.tmp 11) ?_ w2.heap.size 0 ?_ C4.toList _ HL5.out Try.underlying45 ?_ ?_ ?_); (· rfl); (· rfl); (· rfl); (· rfl); (· rw [info73, hsz4])) | (refine wpList_append_lies _ (by rfl) _ _ 30 (by rfl) (w1.heap.size + 1) 4 i0 _ 1 1 Try.underlying30 hi hz0 hz1 hz2 rfl (by omega) u8 j (bl (Ca.ht (D 0) (D 1) (zf zs)) j) (by rfl) (Rb.below hrow ((Below.refl _ _).alloc (Nat.le_refl _) (.cells #[.bool hh] 4))) ⟨V.heap.size, 0, none⟩ 1 1 [.bool hh] (by rfl) (by rfl) (World.news_of_block (cs := #[.bool hh]) (t := 4) (fr := (0, 0)) (heap_alloc_new V _)) (by simp [Value.oneCell']) (by omega) (by unfold maxLen; omega) (by omega) (by simp; omega) _ rfl ?_; intro g4 cap4 w4 hown hgrow hat hlt4) | fail)
      have HZ : Hid (Lw w w4 (w.heap.size + 1) w1.heap.size (w1.heap.size + 1) (sl g4 (j + 1) cap4) (j + 1) s' t' (Ca.ht (D 0) (D 1) (zf zs))) := hide (by
        refine Lw.app HM.out ?_ hgrow
        rw [HH.out]
        exact hown)
      clear hown hgrow hat HM hrow HL5 hput hst4
      go_wp2
      go_roundw
      case rel => exact ⟨j + 1, by omega, by go_num, hide (by rw [HE.out.1, HE.out.2]; exact HZ.out)⟩
      case measure => simp [intOf]; omega
    · have e : j = N := by omega
      subst e
      have hcache := fun w => cache_any (Ca.rn (D 0) (D 1) (zf zs) j).1 (Ca.rn (D 0) (D 1) (zf zs) j).2 w
      have HR0 := hide (range73 HL.out.var)
      have hsz0 : (c18 (Ca.rn (D 0) (D 1) (zf zs) j).1 (Ca.rn (D 0) (D 1) (zf zs) j).2).toList.length = 18 := rfl
      obtain ⟨C0, hC0⟩ : ∃ C0, c18 (Ca.rn (D 0) (D 1) (zf zs) j).1 (Ca.rn (D 0) (D 1) (zf zs) j).2 = C0 := ⟨_, rfl⟩
      rw [hC0] at hcache HR0 hsz0
      clear hC0 hzc HALL HRR
      go_wp2_with (first | ((with_reducible refine wpList_load_mid (op := { dst := some 51, op := Op.load 45 (Operand.tmp 6), type := 45, pos := _, after := _, guard := none }) ?_ 45 (Operand.tmp 6) ?_ w1.heap.size 0 ?_ C0.toList _ HR0.out Try.underlying45 ?_ ?_ ?_); (· rfl); (· rfl); (· rfl); (· rfl); (· rw [info73, hsz0])) | fail)
      refine (hcache _).mono ?_
      rintro e w6 ⟨G, c, ib, rfl, hcg, hb6⟩
      have hr6 := heap_b HL.out.res hb6
      have r0 := cell_of_row _ _ 0 _ _ _ hr6
      have rf := frozen_of_row _ _ 0 _ _ hr6
      simp at r0
      have HCg := hide hcg
      have hlo := hcg.lo
      have hll := HL.out.lo
      have HB6 := hide (HL.out.bel.trans (hb6.mono HL.out.bel.size))
      have HRow := hide (Rb.below HL.out.row hb6)
      have HAp : Hid (Apart u8 G ib) := hide (fun g hg => by
        have := (HL.out.row.lt g hg).2
        exact ⟨by omega, fun x hx => by have := hlo.2 x hx; omega⟩)
      clear hcg hb6 hr6 hcache HR0
      go_wp2
      refine bodyPost_ret (v := .tuple #[.agg #[sl G 2 c], u8]) (by simp [results, Try.results6, go_sem, r0]) rfl (.inl ⟨HY.out, G, c, ib, u8, rfl, ?_, ?_, HAp.out, HB6.out.setCell (by simp) _⟩)
      · rw [HN.out]
        exact (HCg.out.chg (S := fun x => x = w.heap.size + 1) ((Chg.refl (fun x => x = w.heap.size + 1) _).set rfl _) (by omega) (fun x hx => by have := hlo.2 x hx; omega)).mono (by omega)
      · rw [HN.out]
        exact (Rb.set HRow.out (by omega)).mono (by omega)

end Go.Proofs.Ytlijgkodcbnhbaa
