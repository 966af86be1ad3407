/- spec.LookedAll -/
import Derived.Test.YtlijgkodcbnhbaaCaB2
namespace Go.Proofs.Ytlijgkodcbnhbaa
open Go.RowKit
set_option linter.unusedVariables false
set_option linter.unusedSimpArgs false

theorem aok_cok {n : Nat} {L : Nat → Nat} {D : Nat → Sm} {zs : List Int} (h : Ca.cokB n L D = false) : aok n L D zs = false := by simp [aok, h]
theorem aok_len {n : Nat} {L : Nat → Nat} {D : Nat → Sm} {zs : List Int} (h : ¬ zs.length ≤ 100) : aok n L D zs = false := by simp [aok, h]
theorem aok_at {n : Nat} {L : Nat → Nat} {D : Nat → Sm} {zs : List Int} {k : Nat} (hk : k < zs.length) (h : inR (zf zs k) 1000 = false) : aok n L D zs = false := by
  have : ¬ ∀ j, j < zs.length → inR (zf zs j) 1000 = true := fun hh => by rw [hh k hk] at h; cases h
  simp only [aok, decide_eq_false this, Bool.and_false]
theorem aok_yes {n : Nat} {L : Nat → Nat} {D : Nat → Sm} {zs : List Int} (h : Ca.cokB n L D = true) (hl : zs.length ≤ 100) (ha : ∀ j, j < zs.length → inR (zf zs j) 1000 = true) : aok n L D zs = true := by
  simp only [aok, h, decide_eq_true hl, decide_eq_true ha, Bool.and_self]

theorem Sz3.keep {w W W' : World} {b7 bz oz : Nat} {o z : Value} (h : Below w.heap.size w W ∧ W.cell? ⟨b7, 0, none⟩ = some o ∧ W.cell? ⟨bz, oz, none⟩ = some z) (hb : Below W.heap.size W W') : Below w.heap.size w W' ∧ W'.cell? ⟨b7, 0, none⟩ = some o ∧ W'.cell? ⟨bz, oz, none⟩ = some z := ⟨h.1.trans (hb.mono h.1.size), keepc hb h.2.1, keepc hb h.2.2⟩
theorem Sz3.put {w W : World} {b7 bz oz q : Nat} {o z x : Value} (h : Below w.heap.size w W ∧ W.cell? ⟨b7, 0, none⟩ = some o ∧ W.cell? ⟨bz, oz, none⟩ = some z) (hq : w.heap.size ≤ q) (hne : q ≠ b7) (hz : bz < w.heap.size) : Below w.heap.size w (W.setCell ⟨q, 0, none⟩ x) ∧ (W.setCell ⟨q, 0, none⟩ x).cell? ⟨b7, 0, none⟩ = some o ∧ (W.setCell ⟨q, 0, none⟩ x).cell? ⟨bz, oz, none⟩ = some z := ⟨h.1.setCell hq _, by rw [other_set hne]; exact h.2.1, by rw [other_set (by omega)]; exact h.2.2⟩
theorem Lp.drew {w wr : World} {rb b7 B8 : Nat} {v : Value} {k : Nat} {s t : Sm} {h : Nat → Bool} {G c : Nat} {ib : Nat → Nat} (l : Lp w wr rb b7 B8 v k s t h G c ib) : Lp w wr.drew rb b7 B8 v k s t h G c ib := ⟨l.bel.drew, l.res, l.var, l.cg.below ((Below.refl _ _).drew), Rb.below l.row ((Below.refl _ _).drew), l.apart, l.lo⟩
theorem Rb.mono {w : World} {B B' : Nat} {v : Value} {n : Nat} {h : Nat → Bool} (r : Rb w B v n h) (hB : B' ≤ B) : Rb w B' v n h := by
  refine ⟨r.1, ?_⟩
  rcases r.2 with h' | ⟨g', cap, cur, h', hbb, hg⟩
  · exact .inl h'
  · exact .inr ⟨g', cap, cur, h', by omega, hg⟩

theorem Lp.start {w w2 : World} {rb G c : Nat} {ib : Nat → Nat} {s t : Sm} {h : Nat → Bool} {B : Nat} (hb : Below w.heap.size w w2) (hr : w2.heap[rb]? = some (.cells #[.slice none 0 0] 26 (0, 0))) (hg : Cg w2 B (sl G 2 c) 2 (fun _ => 4) (two s t) G ib) (hB : rb + 1 ≤ B) (h1 : w.heap.size ≤ rb) :
    Lp w ((w2.alloc (.cells #[sl G 2 c] 26)).alloc (.cells #[] 4)) rb w2.heap.size (w2.heap.size + 1) (.slice (some ⟨w2.heap.size + 1, 0, none⟩) 0 0) 0 s t h G c ib := by
  have hl := lt_of_block hr
  have lG := hg.wcG.lt
  have lI := fun x hx => (hg.wcI x hx).lt
  have hA : Below w2.heap.size w2 (w2.alloc (.cells #[sl G 2 c] 26)) := (Below.refl _ _).alloc (Nat.le_refl _) _
  have hA2 : Below (w2.alloc (.cells #[sl G 2 c] 26)).heap.size (w2.alloc (.cells #[sl G 2 c] 26)) ((w2.alloc (.cells #[sl G 2 c] 26)).alloc (.cells #[] 4)) := (Below.refl _ _).alloc (Nat.le_refl _) _
  have he := empty_own (w2.alloc (.cells #[sl G 2 c] 26)) 4 1
  simp only [World.size_alloc] at he
  refine ⟨(hb.alloc hb.size _).alloc (by simp; have := hb.size; omega) _, heap_a (heap_a hr _) _, heap_a (heap_alloc_new _ _) _, ((hg.below hA).below hA2).mono hB, he, fun g hv => ?_, h1, hl, by omega, by simp, by omega, fun x hx => by have := lI x hx; omega⟩
  have : w2.heap.size + 1 = g := by simpa [Value.ownBlock] using hv
  exact ⟨by omega, fun x hx => by have := lI x hx; omega⟩

set_option maxHeartbeats 4000000 in
set_option maxRecDepth 20000 in
theorem specAll_any (v va : Value) (n : Nat) (L : Nat → Nat) (D : Nat → Sm) (zs : List Int) (w : World) (hv : Cv w v n L D) (hz : Sl w va zs) :
    Calls Try.prog 7 #[.agg #[v], va] w fun e w' => AllPost n L D zs w e w' := by
  obtain ⟨W, hW⟩ : ∃ W, (w.alloc (.cells #[v] 26)).alloc (.cells #[.slice none 0 0] 26) = W := ⟨_, rfl⟩
  have hB : Below w.heap.size w W := by rw [← hW]; exact ((Below.refl _ _).alloc (Nat.le_refl _) _).alloc (by simp) _
  have hr : W.heap[w.heap.size + 1]? = some (.cells #[.slice none 0 0] 26 (0, 0)) := by
    rw [← hW]
    have := heap_alloc_new (w.alloc (.cells #[v] 26)) (.cells #[.slice none 0 0] 26)
    simpa only [World.size_alloc] using this
  have hc0 : W.cell? ⟨w.heap.size, 0, none⟩ = some v := by
    rw [← hW]
    have h0 : (w.alloc (.cells #[v] 26)).cell? ⟨w.heap.size, 0, none⟩ = some v := cell_of_row _ _ 0 _ _ _ (heap_alloc_new _ _)
    exact allocc h0 _
  have hws : W.heap.size = w.heap.size + 1 + 1 := by rw [← hW]; simp
  have HV := hide (hv.below hB)
  have hk := fun w h => specCacheOk_any v n L D w h
  obtain ⟨ad, cap, rfl, _⟩ := hv
  obtain ⟨az, cz, rfl, hzz⟩ := hz
  obtain ⟨N, hN⟩ : ∃ N, zs.length = N := ⟨_, rfl⟩
  rw [hN] at hzz
  rw [hN]
  have HN := hide hN
  clear hN
  cases hc : Ca.cokB n L D
  · have HO : Hid (aok n L D zs = false) := hide (aok_cok hc)
    rw [hc] at hk
    clear hc hzz
    go_enter Try.func7, Try.ntmps7
    go_wp2_with fail
    refine (hk _ HV.out).mono ?_
    rintro e w1 ⟨rfl, hb1⟩
    have hr1 := heap_b hr hb1
    have r0 := cell_of_row _ _ 0 _ _ _ hr1
    have rf := frozen_of_row _ _ 0 _ _ hr1
    simp at r0
    have HB := hide (hB.trans (hb1.mono hB.size))
    clear hb1 hB HV hc0 hk hr1 hr hW
    go_wp2
    refine bodyPost_ret (v := .tuple #[.agg #[.slice none 0 0], .slice none 0 0]) (by simp [results, Try.results7, go_sem, r0]) rfl (.inr ⟨HO.out, rfl, HB.out.setCell (by simp) _⟩)
  rw [hc] at hk
  go_enter Try.func7, Try.ntmps7
  go_wp2_with fail
  refine (hk _ HV.out).mono ?_
  rintro e w1 ⟨rfl, hb1⟩
  have hr1 := heap_b hr hb1
  have r0 := cell_of_row _ _ 0 _ _ _ hr1
  have rf := frozen_of_row _ _ 0 _ _ hr1
  simp at r0
  have hB1 := hB.trans (hb1.mono hB.size)
  have hc1 := keepc hb1 hc0
  have HV1 := hide (HV.out.below hb1)
  have hs1 := hb1.size
  clear hb1 hB HV hc0 hk hr hW
  by_cases hlen : N ≤ 100
  case neg =>
    have HO : Hid (aok n L D zs = false) := hide (aok_len (by rw [HN.out]; exact hlen))
    have HB := hide hB1
    clear hc hzz hB1 hr1 hc1
    go_wp2
    refine bodyPost_ret (v := .tuple #[.agg #[.slice none 0 0], .slice none 0 0]) (by simp [results, Try.results7, go_sem, r0]) rfl (.inr ⟨HO.out, rfl, HB.out.setCell (by simp) _⟩)
  have HC := hide hc
  clear hc
  have hzc : ∀ wr, Below w.heap.size w wr → ∀ k, k < N → ∃ bz oz, az = some ⟨bz, oz, none⟩ ∧ wr.cell? ⟨bz, oz + k, none⟩ = some (.int .i64 (zf zs k)) ∧ bz < w.heap.size := fun wr hb k hk => by
    obtain ⟨bz, oz, e, h⟩ := hzz (by omega)
    exact ⟨bz, oz, e, Below.keep hb _ _ (h k hk), World.block_lt_of_cell? w _ (h k hk)⟩
  clear hzz
  go_wp2
  go_loopw [6] (fun i wr => ∃ k : Nat, k ≤ N ∧ i = .int .i64 k ∧ wr = w1 ∧ Hid (∀ j, j < k → inR (zf zs j) 1000 = true)) (fun i _ => N - (intOf i).toNat)
  case atStart => exact ⟨0, Nat.zero_le _, rfl, rfl, hide (fun j hj => by omega)⟩
  case round =>
    obtain ⟨k, hk, rfl, rfl, HA⟩ := hrel
    by_cases hlt : k < N
    · obtain ⟨bz, oz, rfl, hcz, hbzl⟩ := hzc _ hB1 k hlt
      have hA := fun w => l1In_any (zf zs k) 1000 w
      cases hx : inR (zf zs k) 1000
      · have HO : Hid (aok n L D zs = false) := hide (aok_at (by rw [HN.out]; exact hlt) hx)
        have HB := hide hB1
        rw [hx] at hA
        clear hx hzc hB1 hr1 hc1
        generalize zf zs k = zk at hcz hA
        go_wp2_with fail
        refine (hA _).mono ?_
        rintro e w2 ⟨rfl, rfl⟩
        go_wp2
        refine bodyPost_ret (v := .tuple #[.agg #[.slice none 0 0], .slice none 0 0]) (by simp [results, Try.results7, go_sem, r0]) rfl (.inr ⟨HO.out, rfl, HB.out.setCell (by simp) _⟩)
      · have HA2 : Hid (∀ j, j < k + 1 → inR (zf zs j) 1000 = true) := hide (fun j hj => by
          by_cases e : j = k
          · rw [e]; exact hx
          · exact HA.out j (by omega))
        rw [hx] at hA
        clear hx hzc HA
        generalize zf zs k = zk at hcz hA
        go_wp2_with fail
        refine (hA _).mono ?_
        rintro e w2 ⟨rfl, rfl⟩
        go_wp2
        go_roundw
        case rel => exact ⟨k + 1, by omega, by go_num, by first | rfl | trivial, HA2⟩
        case measure => simp [intOf]; omega
    · have e : k = N := by omega
      subst e
      have hall := HA.out
      obtain ⟨rfl, l0, l1, hrs, hrt⟩ := cok_two HC.out
      have HY : Hid (aok 2 L D zs = true) := hide (aok_yes HC.out (by rw [HN.out]; exact hlen) (by rw [HN.out]; exact hall))
      have two_c : ∀ c, c < 2 → c = 0 ∨ c = 1 := fun c hc => by omega
      have HCV := hide (HV1.out.congr (L' := fun _ => 4) (D' := two (D 0) (D 1)) (fun c hc => by rcases two_c c hc with rfl | rfl; (· exact l0); (· exact l1)) (fun c hc => by rcases two_c c hc with rfl | rfl <;> rfl))
      have hrr := fun j (hj : j ≤ k) => Ca.rn_right (z := zf zs) hrs hrt j (fun i hi => hall i (by omega))
      have HRR := hide hrr
      have HALL := hide hall
      clear HV1 two_c l0 l1 hrs hrt HC hall HA hrr r0 rf
      go_wp2_with fail
      refine (copy9_any _ (D 0) (D 1) _ HCV.out).mono ?_
      rintro e w2 ⟨G0, c0, ib0, rfl, hcg0, hb2⟩
      have hs2 := hb2.size
      have hB2 := hB1.trans (hb2.mono hB1.size)
      have HS : Hid (Lp w ((w2.alloc (.cells #[sl G0 2 c0] 26)).alloc (.cells #[] 4)) (w.heap.size + 1) w2.heap.size (w2.heap.size + 1) (.slice (some ⟨w2.heap.size + 1, 0, none⟩) 0 0) 0 (Ca.rn (D 0) (D 1) (zf zs) 0).1 (Ca.rn (D 0) (D 1) (zf zs) 0).2 (Ca.ht (D 0) (D 1) (zf zs)) G0 c0 ib0) := hide (Lp.start hB2 (heap_b hr1 hb2) hcg0 (by omega) (by omega))
      clear hcg0 hb2 hB2 hB1 hr1 HCV hc1
      obtain ⟨i0, hi, hz0, hz1, hz2⟩ := info_parts infoB
      go_wp2
      go_loopw [8, 9] (fun v i wr => ∃ (j G c : Nat) (ib : Nat → Nat), j ≤ k ∧ i = .int .i64 j ∧ Hid (Lp w wr (w.heap.size + 1) w2.heap.size (w2.heap.size + 1) v j (Ca.rn (D 0) (D 1) (zf zs) j).1 (Ca.rn (D 0) (D 1) (zf zs) j).2 (Ca.ht (D 0) (D 1) (zf zs)) G c ib)) (fun _ i _ => k - (intOf i).toNat)
      case atStart => exact ⟨0, G0, c0, ib0, Nat.zero_le _, rfl, HS⟩
      case round =>
        clear HS
        obtain ⟨j, G, c, ib, hj, rfl, HL⟩ := hrel
        by_cases hlt2 : j < k
        · obtain ⟨bz, oz, rfl, hcz, hbzl⟩ := hzc _ HL.out.bel j hlt2
          have hx := HALL.out j hlt2
          obtain ⟨hx0, hx1⟩ := (inR_cases hx).1 rfl
          obtain ⟨hrs, hrt⟩ := HRR.out j (by omega)
          have hl : ∀ W, Cv W (sl G 2 c) 2 (fun _ => 4) (two (Ca.rn (D 0) (D 1) (zf zs) j).1 (Ca.rn (D 0) (D 1) (zf zs) j).2) → Calls Try.prog 20 #[.agg #[sl G 2 c], .int .i64 (zf zs j)] W fun e w' => ∃ G' c' ib', e = .returned (.tuple #[.agg #[sl G' 2 c'], .bool (Ca.ht (D 0) (D 1) (zf zs) j), .int .i64 (Ca.gn (Ca.at2 (Ca.rn (D 0) (D 1) (zf zs) j).1 (Ca.rn (D 0) (D 1) (zf zs) j).2 (zf zs j)) (zf zs j))]) ∧ Cg w' W.heap.size (sl G' 2 c') 2 (fun _ => 4) (two (Ca.rn (D 0) (D 1) (zf zs) (j + 1)).1 (Ca.rn (D 0) (D 1) (zf zs) (j + 1)).2) G' ib' ∧ Below W.heap.size W w' := fun W h => l9Looked_any _ _ _ _ W h hx0 hx1 hrs hrt
          have c7 : wr.cell? ⟨w2.heap.size, 0, none⟩ = some (sl G 2 c) := cell_of_row _ _ 0 _ _ _ HL.out.var
          have hbel := HL.out.bel
          have hlo := HL.out.lo
          clear hx hx0 hx1 hrs hrt hzc
          generalize hs' : (Ca.rn (D 0) (D 1) (zf zs) (j + 1)).1 = s' at hl
          generalize ht' : (Ca.rn (D 0) (D 1) (zf zs) (j + 1)).2 = t' at hl
          have HE := hide (And.intro hs' ht')
          clear hs' ht'
          generalize (Ca.gn (Ca.at2 (Ca.rn (D 0) (D 1) (zf zs) j).1 (Ca.rn (D 0) (D 1) (zf zs) j).2 (zf zs j)) (zf zs j)) = gg at hl
          generalize hst : (Ca.rn (D 0) (D 1) (zf zs) j).1 = s at hl HL
          generalize (Ca.rn (D 0) (D 1) (zf zs) j).2 = t at hl HL
          clear hst
          generalize hhk : Ca.ht (D 0) (D 1) (zf zs) j = hh at hl
          have HH := hide hhk
          clear hhk
          generalize zf zs j = zk at hl hcz
          have hD0 : Below wr.heap.size wr wr.drew := (Below.refl _ _).drew
          have hD1 : Below wr.heap.size wr (wr.drew.alloc (.cells #[.slice none 0 0] 26)) := hD0.alloc (Nat.le_refl _) _
          have hrow10 : (wr.drew.alloc (.cells #[.slice none 0 0] 26)).heap[wr.heap.size]? = some (.cells #[.slice none 0 0] 26 (0, 0)) := heap_alloc_new _ _
          go_wp2
          go_cut [10, 11] (fun p hb wc => ∃ b10 G' c' ib', p = .pointer (some ⟨b10, 0, none⟩) ∧ hb = .bool hh ∧ Hid (Lp2 w wc (w.heap.size + 1) w2.heap.size (w2.heap.size + 1) u8 j s' t' (Ca.ht (D 0) (D 1) (zf zs)) (sl G 2 c) b10 G' c' ib'))
          case first =>
            go_region_held3 (fun w' => Below w.heap.size w w' ∧ w'.cell? ⟨w2.heap.size, 0, none⟩ = some (sl G 2 c) ∧ w'.cell? ⟨bz, oz + j, none⟩ = some (.int .i64 zk)) (first | exact ⟨hbel.drew, c7, hcz⟩ | exact Sz3.keep (by assumption) hb3 | exact Sz3.keep (by assumption) ((Below.refl _ _).alloc (Nat.le_refl _) _) | exact Sz3.keep hS3 ((Below.refl _ _).alloc (Nat.le_refl _) _) | exact Sz3.put (by assumption) (by first | omega | (simp; omega)) (by first | omega | (simp; omega)) hbzl) (first | (go_at_call 20; refine (hl _ (HL.out.cg.below (by first | exact hD0 | exact hD1)).cv).mono ?_; rintro e w3 ⟨G', c', ib', rfl, hcg3, hb3⟩; have hS3 : Below w.heap.size w w3 ∧ w3.cell? ⟨w2.heap.size, 0, none⟩ = some (sl G 2 c) ∧ w3.cell? ⟨bz, oz + j, none⟩ = some (.int .i64 zk) := Sz3.keep (by assumption) hb3; first | (have e10 := heap_b hrow10 hb3; have d10 := cell_of_row _ _ 0 _ _ _ e10; have f10 := frozen_of_row _ _ 0 _ _ e10; simp at d10) | skip) | fail)
            all_goals (try go_wp2_with fail)
            all_goals go_meet
            all_goals first
              | exact ⟨_, G', c', ib', rfl, rfl, hide (Lp.lookA (wr := wr.drew) HL.out.drew hcg3 hb3)⟩
              | exact ⟨_, G', c', ib', rfl, rfl, hide (Lp.lookB (wr := wr.drew) HL.out.drew hcg3 hb3)⟩
          case rest =>
            obtain ⟨b10, G', c', ib', rfl, rfl, HP⟩ := hcut
            have d10 : wc.cell? ⟨b10, 0, none⟩ = some (sl G' 2 c') := cell_of_row _ _ 0 _ _ _ HP.out.nw
            have d7 : wc.cell? ⟨w2.heap.size, 0, none⟩ = some (sl G 2 c) := cell_of_row _ _ 0 _ _ _ HP.out.var
            have f7 : wc.frozen? ⟨w2.heap.size, 0, none⟩ = false := frozen_of_row _ _ 0 _ _ HP.out.var
            have hrow : Rb (wc.setCell ⟨w2.heap.size, 0, none⟩ (sl G' 2 c')) (w2.heap.size + 1) u8 j (Ca.ht (D 0) (D 1) (zf zs)) := HP.out.row.set (by omega)
            have hszW : w2.heap.size + 1 ≤ (wc.setCell ⟨w2.heap.size, 0, none⟩ (sl G' 2 c')).heap.size := by
              have h1 := ((Below.refl 0 wc).setCell (p := ⟨w2.heap.size, 0, none⟩) (Nat.zero_le _) (sl G' 2 c')).size
              have h2 := HP.out.lo.2.2.2.1
              omega
            obtain ⟨V, hV⟩ : ∃ V, wc.setCell ⟨w2.heap.size, 0, none⟩ (sl G' 2 c') = V := ⟨_, rfl⟩
            rw [hV] at hrow hszW
            have HPV : Hid (Lp2 w wc (w.heap.size + 1) w2.heap.size (w2.heap.size + 1) u8 j s' t' (Ca.ht (D 0) (D 1) (zf zs)) (sl G 2 c) b10 G' c' ib' ∧ wc.setCell ⟨w2.heap.size, 0, none⟩ (sl G' 2 c') = V) := hide ⟨HP.out, hV⟩
            clear HP hl HL hD0 hD1 hrow10 c7 hcz hbel
            go_wp2_with (first | (refine wpList_append_lies _ (by rfl) _ _ 30 (by rfl) (w2.heap.size + 1) 4 i0 _ 1 1 Try.underlying30 hi hz0 hz1 hz2 rfl (by omega) u8 j (bl (Ca.ht (D 0) (D 1) (zf zs)) j) (by rfl) (Rb.below hrow ((Below.refl _ _).alloc (Nat.le_refl _) (.cells #[.bool hh] 4))) ⟨V.heap.size, 0, none⟩ 1 1 [.bool hh] (by rfl) (by rfl) (World.news_of_block (cs := #[.bool hh]) (t := 4) (fr := (0, 0)) (heap_alloc_new V _)) (by simp [Value.oneCell']) (by omega) (by unfold maxLen; omega) (by omega) (by simp; omega) _ rfl ?_; intro g4 cap4 w4 hown hgrow hat hlt4) | fail)
            have HZ : Hid (Lp w w4 (w.heap.size + 1) w2.heap.size (w2.heap.size + 1) (sl g4 (j + 1) cap4) (j + 1) s' t' (Ca.ht (D 0) (D 1) (zf zs)) G' c' ib') := hide (by
              have hVV := HPV.out.2
              subst hVV
              refine Lp2.app HPV.out.1 ?_ hgrow hat
              rw [HH.out]
              exact hown)
            clear hown hgrow hat HPV hrow
            go_wp2
            go_roundw
            case rel => exact ⟨j + 1, G', c', ib', by omega, by go_num, hide (by rw [HE.out.1, HE.out.2]; exact HZ.out)⟩
            case measure => simp [intOf]; omega
        · have e : j = k := by omega
          subst e
          have hL := HL.out
          obtain ⟨l1, l2, l3, l4, l5, l6⟩ := hL.lo
          have c7 : wr.cell? ⟨w2.heap.size, 0, none⟩ = some (sl G 2 c) := cell_of_row _ _ 0 _ _ _ hL.var
          have r0 := cell_of_row _ _ 0 _ _ _ hL.res
          have rf := frozen_of_row _ _ 0 _ _ hL.res
          simp at r0
          clear hL hzc HALL HRR
          go_wp2
          refine bodyPost_ret (v := .tuple #[.agg #[sl G 2 c], u8]) (by simp [results, Try.results7, go_sem, r0]) rfl (.inl ⟨HY.out, G, c, ib, u8, rfl, ?_, ?_, HL.out.apart, HL.out.bel.setCell (by simp) _⟩)
          · rw [HN.out]
            exact (HL.out.cg.chg (S := fun x => x = w.heap.size + 1) ((Chg.refl (fun x => x = w.heap.size + 1) _).set rfl _) (by have := HL.out.cg.lo.1; omega) (fun x hx => by have := HL.out.cg.lo.2 x hx; omega)).mono (by omega)
          · rw [HN.out]
            exact (HL.out.row.set (by omega)).mono (by omega)

end Go.Proofs.Ytlijgkodcbnhbaa
