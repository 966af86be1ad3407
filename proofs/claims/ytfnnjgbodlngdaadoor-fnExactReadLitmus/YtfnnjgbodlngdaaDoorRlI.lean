/- the law's walk -/
import Derived.Test.YtfnnjgbodlngdaaDoorRlH
namespace Go.Proofs.YtfnnjgbodlngdaaDoor
open Go.RowKit
set_option linter.unusedVariables false
set_option linter.unusedSimpArgs false

set_option maxHeartbeats 8000000 in
set_option maxRecDepth 20000 in
theorem walk (sb : ByteArray) (w : World) (hm : Mx w) :
    Calls Tryd.prog 5 #[.string sb] w fun e w' => e = .returned (.bool true) ∧ Below w.heap.size w w' := by
  obtain ⟨s, hsb⟩ : ∃ s : By, sb = bstr s := ⟨sb.data.toList, (bstr_data sb).symm⟩
  subst hsb
  by_cases hbig : 1048576 < (bstr s).size
  · have hbi : (1048576 : Int) < ((bstr s).size : Int) := by omega
    go_enter Tryd.func5, Tryd.ntmps5
    go_wp2
    go_ret
    exact ⟨rfl, Below.refl _ _⟩
  have hbi : ¬ (1048576 : Int) < ((bstr s).size : Int) := by omega
  have hbj : decide ((1048576 : Int) < ((bstr s).size : Int)) = false := by simp; omega
  have hs : s.length ≤ 1048576 := by rw [← bstr_size]; omega
  have HSP := hide (fun W h => specReadLit_any s W h hs)
  have HIM := hide (fun W h => implReadLit_any s W h hs)
  rw [← rl_same s] at HSP
  obtain ⟨hC, hL⟩ := rl_small s
  obtain ⟨t, ht⟩ : ∃ t, (rlI s).isSome = t := ⟨_, rfl⟩
  have HTT := hide ht
  generalize rlI s = r at HSP HIM hC hL HTT
  clear ht
  obtain ⟨T, hT⟩ : ∃ T, r.getD [] = T := ⟨_, rfl⟩
  rw [hT] at hC hL
  have HT := hide hT
  clear hT hbig
  go_enter Tryd.func5, Tryd.ntmps5
  go_wp2_with fail
  refine (HSP.out _ (Nat.lt_of_le_of_lt (Nat.zero_le _) hm.lt)).mono ?_
  intro e w1 hp1
  obtain ⟨v1, vs1, rfl, ho1, hb1⟩ := rl_all hp1
  rw [HTT.out]
  rw [HT.out] at ho1
  have HS1 := hide ho1.sa
  obtain ⟨a1, c1, ev1⟩ : ∃ a c, v1 = .slice a T.length c := by obtain ⟨a, c, e, _⟩ := ho1.sa; exact ⟨a, c, e⟩
  subst ev1
  have hA1 : Below w1.heap.size w1 (w1.alloc (.cells #[.slice a1 T.length c1] 29)) := (Below.refl _ _).alloc (Nat.le_refl _) _
  have qx1 : (w1.alloc (.cells #[.slice a1 T.length c1] 29)).heap[w1.heap.size]? = some (.cells #[.slice a1 T.length c1] 29 (0, 0)) := heap_alloc_new _ _
  have hm2 := (hm.below hb1).below hA1
  clear hp1 ho1
  go_wp2_with fail
  refine (HIM.out _ hm2).mono ?_
  intro e w3 hp3
  obtain ⟨v3, vs3, rfl, ho3, hb3⟩ := rl_all hp3
  rw [HTT.out]
  rw [HT.out] at ho3
  obtain ⟨a3, c3, ev3⟩ : ∃ a c, v3 = .slice a T.length c := by obtain ⟨a, c, e, _⟩ := ho3.sa; exact ⟨a, c, e⟩
  subst ev3
  have hA3 : Below w3.heap.size w3 (w3.alloc (.cells #[.slice a3 T.length c3] 29)) := (Below.refl _ _).alloc (Nat.le_refl _) _
  have qy4 : (w3.alloc (.cells #[.slice a3 T.length c3] 29)).heap[w3.heap.size]? = some (.cells #[.slice a3 T.length c3] 29 (0, 0)) := heap_alloc_new _ _
  have hb34 := hb3.trans (hA3.mono hb3.size)
  have qx4 := heap_bl qx1 hb34
  have hb14 := hA1.trans (hb34.mono hA1.size)
  have ho4 := ho3.below hA3
  have hm4 := hm2.below hb34
  have hz2 : (w1.alloc (.cells #[.slice a1 T.length c1] 29)).heap.size = w1.heap.size + 1 := by simp
  rw [hz2] at ho4
  have HO4 := hide ho4
  have HI3 : Hid (∀ x, Inb T.length (Lf T) (ibk vs3) x → w1.heap.size + 1 ≤ x ∧ x < w3.heap.size) := hide (fun x hx => by
    obtain ⟨_, hw, hi⟩ := ho3.parts
    have h1 := hi x hx
    rw [hz2] at h1
    obtain ⟨c, hc, hl, rfl⟩ := hx
    exact ⟨h1, (hw.wc c hc hl).lt⟩)
  clear hp3 ho3 hb3 hA3 hb34 qx1 hm2 ho4 hm4
  generalize hW4 : w3.alloc (.cells #[.slice a3 T.length c3] 29) = w4 at *
  have hlt1 : w1.heap.size < w4.heap.size := lt_of_block qx4
  have HL6 : Hid (∀ c, c < T.length → Lf T c ≤ 1048576) := hide (fun c hc => by have := hL c hc; omega)
  have HM1 := hide (hm.below hb1)
  have HB1 := hide hb1
  clear hb1 hm hA1 hz2
  have fx := (cell_of_row _ _ 0 _ _ _ qx4).trans rfl
  have fy := (cell_of_row _ _ 0 _ _ _ qy4).trans rfl
  go_wp2_with fail
  refine (eqLitmus_same _ _ T.length (Lf T) (Ff T) _ HO4.out.sa (HS1.out.below hb14) (by omega) HL6.out).mono ?_
  rintro e w5 ⟨rfl, hb5⟩
  clear hW4
  have hb15 := hb14.trans (hb5.mono (by omega))
  have qx5 := heap_bl qx4 hb5
  have qy5 := heap_bl qy4 hb5
  have HO5 := hide (HO4.out.below hb5)
  clear hb14 qx4 qy4 fx fy HO4
  have hsz5 : w4.heap.size ≤ w5.heap.size := hb5.size
  clear hb5
  have fx := (cell_of_row _ _ 0 _ _ _ qx5).trans rfl
  have fy := (cell_of_row _ _ 0 _ _ _ qy5).trans rfl
  have hkb := ks_bound hL T.length (Nat.le_refl _)
  have HPT := hide HO5.out.parts
  go_wp2_with fail
  refine (markLit_v _ T.length (Lf T) (ibk vs3) vs3 _ HPT.out.1 HPT.out.2.1 hC hL).mono ?_
  rintro e w6 ⟨rfl, hcg, hvr, hrt⟩
  have HB16 := hide (below_chg hb15 hcg (fun j hj => by have := (HI3.out j hj).1; omega) (by omega))
  have fx6 := hcg.cell (fun h => by have := (HI3.out _ h).1; omega) fx
  have fy6 := hcg.cell (fun h => by have := (HI3.out _ h).2; omega) fy
  have HV6 := hide hvr
  have HR6 := hide hrt
  clear hcg hvr hrt hb15 fx fy qx5 qy5 HO5 HPT HI3
  have HHD := hide (fun W (h1 : Below w6.heap.size w6 W) => heldLit_v _ T.length (Lf T) (ibk vs3) vs3 W (HR6.out.below h1) (fun c hc => (HV6.out c hc).below h1) hC hL)
  clear HV6 HR6
  generalize ks (Lf T) T.length = kk at hkb HHD ⊢
  have hneg : decide (kk < 0) = false := by simp; omega
  have hneg2 : ¬ kk < 0 := by omega
  go_wp2_with fail
  refine (HHD.out _ (Below.refl _ _)).mono ?_
  rintro e w7 ⟨rfl, hb7⟩
  have HB17 := hide (HB16.out.trans (hb7.mono HB16.out.size))
  have HB67 := hide hb7
  have fx7 := keepc hb7 fx6
  have fy7 := keepc hb7 fy6
  clear hb7 fx6 fy6 HB16
  go_wp2_with fail
  refine (HIM.out _ (HM1.out.below HB17.out)).mono ?_
  intro e w8 hp8
  obtain ⟨v8, vs8, rfl, ho8, hb8⟩ := rl_all hp8
  rw [HTT.out]
  rw [HT.out] at ho8
  obtain ⟨a8, c8, ev8⟩ : ∃ a c, v8 = .slice a T.length c := by obtain ⟨a, c, e, _⟩ := ho8.sa; exact ⟨a, c, e⟩
  subst ev8
  have hA8 : Below w8.heap.size w8 (w8.alloc (.cells #[.slice a8 T.length c8] 29)) := (Below.refl _ _).alloc (Nat.le_refl _) _
  have qz9 : (w8.alloc (.cells #[.slice a8 T.length c8] 29)).heap[w8.heap.size]? = some (.cells #[.slice a8 T.length c8] 29 (0, 0)) := heap_alloc_new _ _
  have hb79 := hb8.trans (hA8.mono hb8.size)
  have fx9 := keepc hb79 fx7
  have fy9 := keepc hb79 fy7
  have HB19 := hide (HB17.out.trans (hb79.mono HB17.out.size))
  have HB69 := hide (HB67.out.trans (hb79.mono HB67.out.size))
  have HO9 := hide (ho8.below hA8).sa
  have fz9 := (cell_of_row _ _ 0 _ _ _ qz9).trans rfl
  clear hp8 ho8 hb8 hA8 hb79 fx7 fy7 HB17 HB67 qz9
  generalize hW9 : w8.alloc (.cells #[.slice a8 T.length c8] 29) = w9 at *
  go_wp2_with fail
  refine (eqLitmus_same _ _ T.length (Lf T) (Ff T) _ HO9.out (HS1.out.below HB19.out) (by omega) HL6.out).mono ?_
  rintro e w10 ⟨rfl, hb10⟩
  clear hW9
  have fy10 := keepc hb10 fy9
  have HB1a := hide (HB19.out.trans (hb10.mono HB19.out.size))
  have HB6a := hide (HB69.out.trans (hb10.mono HB69.out.size))
  clear hb10 fx9 fy9 fz9 HB19 HB69 HO9
  go_wp2_with fail
  refine (HHD.out _ HB6a.out).mono ?_
  rintro e w11 ⟨rfl, hb11⟩
  have HBE := hide (HB1.out.trans ((HB1a.out.trans (hb11.mono HB1a.out.size)).mono HB1.out.size))
  clear hb11 fy10 HHD
  go_wp2
  go_ret
  exact ⟨rfl, HBE.out⟩

end Go.Proofs.YtfnnjgbodlngdaaDoor
