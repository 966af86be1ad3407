/- PairWrite of impl: the walk -/
import Derived.Test.YtplnfddleaoimaaPrO
namespace Go.Proofs.Ytplnfddleaoimaa
open Go.RowKit
set_option linter.unusedVariables false
set_option linter.unusedSimpArgs false

set_option maxHeartbeats 8000000 in
theorem implWrite_any (L R : Value) (zl zr : List Int) (lu ru : Bool) (line value : Int) (w : World) (hl : Sl w L zl) (hr : Sl w R zr) (hn : zl.length + zr.length ≤ 1048576) :
    Calls Try.prog 9 #[.agg (pq L R lu ru), .int .i64 line, .int .i64 value] w (Post w (aWrite zl zr lu ru line value)) := by
  have HV := hide (And.intro hl hr)
  obtain ⟨ld, lc, rfl, _⟩ := hl
  obtain ⟨rd, rc, rfl, _⟩ := hr
  have hmo := fun W h k => mirrorsOf_any (.slice ld zl.length lc) (.slice rd zr.length rc) zl zr lu ru W h k hn
  have hva := fun W => isValue_any value W
  have HNN : Hid (pairB zl zr lu ru = true → (lu = true → zl.length = max zl.length zr.length) ∧ (ru = true → zr.length = max zl.length zr.length) ∧ (lu = false → ru = false → max zl.length zr.length = 0)) := hide pairB_n
  have HNo : Hid ((pairB zl zr lu ru && inB line 0 (max zl.length zr.length : Nat) && inB value 0 1000001) = false → aWrite zl zr lu ru line value = PA.no) := hide (fun h => aWrite_no h)
  have HYs : Hid ((pairB zl zr lu ru && inB line 0 (max zl.length zr.length : Nat) && inB value 0 1000001) = true → aWrite zl zr lu ru line value = ⟨if lu then zl.set line.toNat value else zl, if ru then zr.set line.toNat value else zr, lu, ru, true⟩) := hide (fun h => by unfold aWrite; rw [show kWrite zl zr lu ru line value = true from h]; rfl)
  obtain ⟨zl', hz1⟩ : ∃ z, (if lu then zl.set line.toNat value else zl) = z := ⟨_, rfl⟩
  obtain ⟨zr', hz2⟩ : ∃ z, (if ru then zr.set line.toNat value else zr) = z := ⟨_, rfl⟩
  rw [hz1, hz2] at HYs
  have HZ := hide (And.intro hz1 hz2)
  clear hz1 hz2
  have HLen : Hid (pairB zl zr lu ru = true → zl.length ≤ 4 ∧ zr.length ≤ 4) := hide pairB_len
  generalize aWrite zl zr lu ru line value = ans at HNo HYs ⊢
  generalize pairB zl zr lu ru = b at hmo HNo HYs HNN HLen
  generalize inB value 0 1000001 = b2 at hva HNo HYs
  have HE := two_boxes w (pq (.slice ld zl.length lc) (.slice rd zr.length rc) lu ru) (pq nilS nilS false false) 26 26
  clear hn
  go_enter Try.func9, Try.ntmps9
  go_wp2_with fail
  generalize hW : (World.alloc (World.alloc _ _) _) = W
  obtain ⟨p1, p2, hB0, hsz⟩ := HE.out W hW
  clear HE hW
  refine (hmo W (HV.out.1.below hB0) (HV.out.2.below hB0)).mono ?_
  rintro e w1 ⟨hyes, hno, hb1⟩
  have hB1 := hB0.trans (hb1.mono hB0.size)
  have p3 := (hb1.block _ (by omega)).trans p2
  have hs1 := hb1.size
  rw [hsz] at hs1
  clear hmo hB0 p1 p2 HV
  cases b with
  | false =>
    obtain rfl := hno rfl
    obtain rfl := HNo.out rfl
    clear hyes hno HNo HYs HNN HLen hva
    have hA : Below w1.heap.size w1 (w1.alloc (.cells #[.pointer none, .pointer none] 50)) := (Below.refl _ _).alloc (Nat.le_refl _) _
    have hB2 := hB1.trans (hA.mono hB1.size)
    obtain ⟨fr, r0, r1, r2, r3⟩ := row4_facts ((hA.block _ (by omega)).trans p3)
    clear hb1 hA hB1 p3
    go_wp2
    refine bodyPost_ret (v := .tuple #[.agg (pq nilS nilS false false), .bool false]) (by simp [results, Try.results9, go_sem, r0, r1, r2, r3]) rfl (Post.no ?_)
    have hle : w.heap.size ≤ w.heap.size + 1 := by omega
    iterate 4 (refine Below.setCell ?_ hle _)
    exact hB2
  | true =>
    obtain ⟨Bl, Br, ad, ac, bd, bc, rfl, hM⟩ := hyes rfl
    have hNN := HNN.out rfl
    clear hno hyes
    have hA : Below w1.heap.size w1 (w1.alloc (.cells #[pt Bl, pt Br] 50)) := (Below.refl _ _).alloc (Nat.le_refl _) _
    have hq := heap_alloc_new w1 (.cells #[pt Bl, pt Br] 50)
    have hB2 := hB1.trans (hA.mono hB1.size)
    have p4 := (hA.block _ (by omega)).trans p3
    have hM2 := (hM.below hA)
    have hzz : (w1.alloc (.cells #[pt Bl, pt Br] 50)).heap.size = w1.heap.size + 1 := by simp
    have HX := hide (And.intro hM2 (And.intro hB2 (And.intro p4 (And.intro hzz (And.intro hs1 (And.intro hq hNN))))))
    have HSz := hide hsz
    clear hM hM2 hA hB1 hB2 hb1 p3 p4 hzz hs1 hq hNN HNN hsz
    cases b2 with
    | false =>
      obtain rfl := HNo.out (by first | rfl | simp)
      obtain ⟨fr, r0, r1, r2, r3⟩ := row4_facts HX.out.2.2.1
      have hB2 := HX.out.2.1
      clear HNo HYs HLen HX
      go_wp2_with fail
      refine (hva _).mono ?_
      rintro e w2 ⟨rfl, rfl⟩
      clear hva
      go_wp2
      refine bodyPost_ret (v := .tuple #[.agg (pq nilS nilS false false), .bool false]) (by simp [results, Try.results9, go_sem, r0, r1, r2, r3]) rfl (Post.no ?_)
      have hle : w.heap.size ≤ w.heap.size + 1 := by omega
      iterate 4 (refine Below.setCell ?_ hle _)
      exact hB2
    | true =>
      obtain ⟨_, q0, q1⟩ := two_cells HX.out.2.2.2.2.2.1
      go_wp2_with fail
      refine (hva _).mono ?_
      rintro e w2 ⟨rfl, hw2⟩
      subst hw2
      clear hva
      go_wp2_with fail
      refine (with_any _ _ Bl Br _ _ zl zr lu ru line (max zl.length zr.length) _ HX.out.1 HX.out.2.2.2.2.2.2.1 HX.out.2.2.2.2.2.2.2.1).mono ?_
      rintro e w3 ⟨v, rfl, hpr, hb3⟩
      obtain ⟨hM2, hB2, p4, hzz, hs1, hq, hNN⟩ := HX.out
      have hM4 := hM2.below hb3
      have hB4 := hB2.trans (hb3.mono hB2.size)
      have p5 := (hb3.block _ (by omega)).trans p4
      have hq5 := (hb3.block _ (by omega)).trans hq
      have hs3 := hb3.size
      have hprlt := hpr.lt
      have HS := hide (And.intro hzz (And.intro hs1 hs3))
      clear HX hb3 q0 q1 hM2 hB2 p4 hq
      by_cases hin : inB line 0 (max zl.length zr.length : Nat) = true
      · rw [if_pos hin] at hpr
        obtain rfl := HYs.out (by rw [hin]; rfl)
        obtain ⟨j, rfl⟩ : ∃ j : Nat, line = j := ⟨line.toNat, by simp [inB] at hin; omega⟩
        have hj : j < max zl.length zr.length := by simp [inB] at hin; omega
        have hlt3 := hM4.h3
        obtain ⟨ua, uc, e1, hcell⟩ := hpr.form
        subst e1
        have hupos : 0 < (ups lu ru Bl Br).length := by
          cases lu <;> cases ru
          · exact absurd hj (by rw [hNN.2.2 rfl rfl]; omega)
          · exact Nat.succ_pos _
          · exact Nat.succ_pos _
          · exact Nat.succ_pos _
        obtain ⟨g, rfl, hcell2⟩ := hcell hupos
        have hglt := hprlt g rfl
        have hjt : ((j : Int)).toNat = j := by simp
        rw [hjt] at HZ
        have HC : Hid (∀ k, k < (ups lu ru Bl Br).length → w3.cell? ⟨g, k, none⟩ = some (pt ((ups lu ru Bl Br).getD k 0))) := hide hcell2
        have HSt : Hid (∀ (k : Nat) (wr : World), k < (ups lu ru Bl Br).length → Mi wr W.heap.size w1.heap.size Bl Br (.slice ad zl.length ac) (.slice bd zr.length bc) (zlk zl lu j value k) (zrk zr lu ru j value k) lu ru → ∃ p n c, wr.cell? ⟨(ups lu ru Bl Br).getD k 0, 0, none⟩ = some (.slice (some ⟨p, 0, none⟩) n c) ∧ j < n ∧ wr.frozen? ⟨p, j, none⟩ = false ∧ (∃ o, wr.cell? ⟨p, j, none⟩ = some o) ∧ W.heap.size ≤ p ∧ p < w1.heap.size ∧ Mi (wr.setCell ⟨p, j, none⟩ (.int .i64 value)) W.heap.size w1.heap.size Bl Br (.slice ad zl.length ac) (.slice bd zr.length bc) (zlk zl lu j value (k + 1)) (zrk zr lu ru j value (k + 1)) lu ru) := hide (fun k wr hk h => h.step hNN.1 hNN.2.1 hj hk)
        have HMs : Hid (Mi w3 W.heap.size w1.heap.size Bl Br (.slice ad zl.length ac) (.slice bd zr.length bc) (zlk zl lu j value 0) (zrk zr lu ru j value 0) lu ru) := hide (by rw [(zk_zero zl zr lu ru j value).1, (zk_zero zl zr lu ru j value).2]; exact hM4)
        have HEn := hide (zk_end zl zr lu ru j value Bl Br)
        rw [HZ.out.1, HZ.out.2] at HEn
        have HK := hide (And.intro hB4 (And.intro p5 hq5))
        obtain ⟨m, hm⟩ : ∃ m, (ups lu ru Bl Br).length = m := ⟨_, rfl⟩
        rw [hm] at HC HSt HEn hupos ⊢
        have hg2 : w1.heap.size + 1 ≤ g := by have := hglt.1; omega
        have HG := hide (And.intro hg2 (And.intro hglt.2 hlt3))
        have hne : ¬ ((m : Int) = 0) := by omega
        have hnb : ((m : Int) == 0) = false := by simp; omega
        have hml : m ≤ 10 := by rw [← hm]; exact ups_len _ _ _ _
        clear hcell hcell2 hpr hM4 hB4 p5 hq5 hNN hin hj hprlt HNo HYs hzz hs1 hs3 hglt hg2 hlt3 hjt hm
        go_wp2
        go_loopw [35] (fun i wr => ∃ (k : Nat), k ≤ m ∧ i = .int .i64 k ∧ Hid (Mi wr W.heap.size w1.heap.size Bl Br (.slice ad zl.length ac) (.slice bd zr.length bc) (zlk zl lu j value k) (zrk zr lu ru j value k) lu ru ∧ Ci W.heap.size w1.heap.size w3 wr)) (fun i _ => m - (intOf i).toNat)
        case atStart => exact ⟨0, by omega, rfl, hide ⟨HMs.out, Ci.refl _ _ _⟩⟩
        case round =>
          obtain ⟨k, hk, rfl, HR⟩ := hrel
          by_cases hlt : k < m
          · obtain ⟨p, n, c, cv, hjn, hfz, ⟨o, hold⟩, hp1, hp2, hM5⟩ := HSt.out k wr hlt HR.out.1
            have c1 := HR.out.2.cell (by have := HG.out; omega) (HC.out k hlt)
            have HR2 := hide (And.intro hM5 (HR.out.2.set (i := j) hp1 hp2 (.int .i64 value)))
            generalize (ups lu ru Bl Br).getD k 0 = B at c1 cv
            clear hM5 HR hp1 hp2
            go_wp2
            go_roundw
            case rel => exact ⟨k + 1, by omega, by go_num, HR2⟩
            case measure => simp [intOf]; omega
          · have e : k = m := by omega
            subst e
            have hM6 := HR.out.1
            rw [HEn.out.1, HEn.out.2] at hM6
            obtain ⟨hB4, p5, hq5⟩ := HK.out
            have hgo := HG.out
            have hso := HS.out
            have hsz := HSz.out
            have hlo := hM6.h1
            have hq6 := (HR.out.2.block _ (by omega) (.inr (Nat.le_refl _))).trans hq5
            have p6 := (HR.out.2.block _ (by omega) (.inl (by omega))).trans p5
            have hB6 : Below w.heap.size w wr := Ci.below hB4 HR.out.2 (by omega) (by omega)
            obtain ⟨_, q0, q1⟩ := two_cells hq6
            have hsr := HR.out.2.size
            have HF := hide (And.intro hM6 (And.intro hB6 (And.intro p6 (And.intro hso (And.intro hsz (And.intro hgo hsr))))))
            clear HR HMs HSt HC HK HEn HG HS HSz hM6 hB6 p6 hB4 p5 hq5 hq6 hgo hso hsz hlo hsr
            go_wp2_with fail
            refine (pair_any _ _ Bl Br _ _ _ _ _ _ _ HF.out.1).mono ?_
            rintro e w5 ⟨rfl, hb5⟩
            obtain ⟨hM6, hB6, p6, hso, hsz, hgo, hsr⟩ := HF.out
            obtain ⟨fr, r0, r1, r2, r3⟩ := row4_facts ((hb5.block _ (lt_of_block p6)).trans p6)
            have hP := (hM6.below hb5).pw
            have hB7 := hB6.trans (hb5.mono hB6.size)
            have hs5 : w1.heap.size ≤ w5.heap.size := by have := hb5.size; omega
            have HG2 := hide (And.intro hP (And.intro hB7 (And.intro hs5 hsz)))
            have hl1 : zl'.length = zl.length := by rw [← HZ.out.1]; cases lu <;> simp
            have hl2 : zr'.length = zr.length := by rw [← HZ.out.2]; cases ru <;> simp
            have HL1 := hide (And.intro hl1 hl2)
            clear HF hM6 hB6 p6 hso hsz hgo hsr hb5 hP hB7 hs5 q0 q1 hl1 hl2
            go_wp2
            refine bodyPost_ret (v := .tuple #[.agg (pq (.slice ad zl.length ac) (.slice bd zr.length bc) lu ru), .bool true]) (by simp [results, Try.results9, go_sem, r0, r1, r2, r3]) rfl ⟨ad, ac, bd, bc, ?_, ?_, ?_⟩
            · simp only [HL1.out.1, HL1.out.2]
            · simp only [HL1.out.1, HL1.out.2, World.size_setCell]
              have hh := HG2.out
              refine Pw.wide (lo := W.heap.size) (hi := w1.heap.size) ?_ (by omega) HG2.out.2.2.1
              iterate 4 (refine Pw.set ?_ (by omega))
              exact HG2.out.1
            · have hle : w.heap.size ≤ w.heap.size + 1 := by omega
              iterate 4 (refine Below.setCell ?_ hle _)
              exact HG2.out.2.1
      · rw [if_neg hin] at hpr
        obtain rfl := HNo.out (by cases h : inB line 0 (max zl.length zr.length : Nat) <;> simp_all)
        obtain ⟨ua, uc, e1, _⟩ := hpr.form
        subst e1
        have he : ([] : List Nat).length = 0 := rfl
        rw [he]
        obtain ⟨fr, r0, r1, r2, r3⟩ := row4_facts p5
        clear hpr hM4 hNN hin HNo HYs p5 hq5 hzz hs1 hs3
        go_wp2
        refine bodyPost_ret (v := .tuple #[.agg (pq nilS nilS false false), .bool false]) (by simp [results, Try.results9, go_sem, r0, r1, r2, r3]) rfl (Post.no ?_)
        have hle : w.heap.size ≤ w.heap.size + 1 := by omega
        iterate 4 (refine Below.setCell ?_ hle _)
        exact hB4

end Go.Proofs.Ytplnfddleaoimaa
