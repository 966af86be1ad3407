/- Proved: for every net, of whatever many links, and every two numbers, laws.FnExactWithoutLink returns true and leaves its argument as it read. No condition. -/
import Derived.Test.YtgjfhaikogobpaaRows
import Derived.Test.YtgjfhaikogobpaaNtF
import Derived.Test.YtgjfhaikogobpaaNtY
import Derived.WalkKit
import Derived.ProofKit
import Derived.OpenShut
import Derived.ShutString
import Derived.ChangeOld
import Derived.Below
import Derived.OpenVars
namespace Go.Proofs.Ytgjfhaikogobpaa.fnExactWithoutLink
open Go.ChangeShapes Go.WideShapes Go.ChangeAt Go.WideMaps Go.WideElems Go.RowKit
set_option linter.unusedVariables false
set_option linter.unusedSimpArgs false

theorem own : ownKnob Try.prog.godebug = none := by kernel_rfl
theorem laidOut : laidOutB Try.prog = true := by kernel_rfl

set_option maxHeartbeats 8000000 in
theorem walk (N : Int) (v : Value) (n : Nat) (f : Nat → Nat → Int) (a : Int) (b : Int) (w : World) (hv : Sr w v 2 n f) (hn : (n : Int) ≤ 9223372036854775807) :
    Calls Try.prog 7 #[.agg (nt N v), .int .i64 a, .int .i64 b] w fun e w' => e = .returned (.bool true) ∧ Below w.heap.size w w' := by
  have HV := hide hv
  obtain ⟨ad, cap, rfl, _⟩ := hv
  have hB0 : Below w.heap.size w (w.alloc (.cells (nt N (.slice ad n cap)) 24)) := (Below.refl _ _).alloc (Nat.le_refl _) _
  have rA := heap_alloc_new w (.cells (nt N (.slice ad n cap)) 24)
  have hto := fun W h hl => toNet_any N (.slice ad n cap) n f W h hl
  obtain ⟨_, x0, x1⟩ := row2_facts rA
  go_enter Try.func7, Try.ntmps7
  go_wp2_with fail
  refine (szNet_any N _ n f _ (HV.out.below hB0) hn).mono ?_
  rintro e w1 ⟨r, rfl, hp, hb1'⟩
  have hb1 := hB0.trans (hb1'.mono hB0.size)
  have rA := heap_bl rA hb1'
  clear hb1' hB0 x0 x1
  by_cases hx : r < 0
  · clear hp
    go_wp2
    go_ret
    exact ⟨rfl, hb1⟩
  have hl := hp (by omega)
  clear hp hn
  obtain ⟨M, m, G, t, hmn, hans⟩ := wpost_ans N n f a b
  have HAN := hide hans
  clear hans
  have hm9 : m ≤ 1048576 := by omega
  have htt : (t != t) = false := by simp
  have him := fun g W h => implWithout_any N (some ⟨g, 0, none⟩) n n f a b W h (Nat.le_refl _) (by unfold maxLen; omega) hl
  obtain ⟨_, x0, x1⟩ := row2_facts rA
  go_wp2_with fail
  refine (hto _ (HV.out.below hb1) hl).mono ?_
  rintro e w2 ⟨g1, rfl, h2, hb2⟩
  have rA := heap_bl rA hb2
  have hB2 := hb1.trans (hb2.mono hb1.size)
  clear hb1 hb2 x0 x1
  go_wp2_with fail
  refine (specWithout_any N (some ⟨g1, 0, none⟩) n n f a b _ h2.sr hl).mono ?_
  rintro e w3 hpost
  obtain ⟨sa, sc, rfl, hus, hb3⟩ := HAN.out _ _ _ hpost
  have rA := heap_bl rA hb3
  have hAz3 := lt_of_block rA
  have hB3 := hB2.trans (hb3.mono hB2.size)
  have hA3 : Below w3.heap.size w3 (w3.alloc (.cells (nt M (.slice sa m sc)) 27)) := (Below.refl _ _).alloc (Nat.le_refl _) _
  have r8 := heap_alloc_new w3 (.cells (nt M (.slice sa m sc)) 27)
  have rA := heap_bl rA hA3
  have HK : Hid (w.heap.size < w3.heap.size ∧ ∀ j, (Value.slice sa m sc).ownBlock = some j → w.heap.size < j ∧ j < w3.heap.size) := by
    have h9 := hB2.size
    exact hide ⟨hAz3, fun j hj => by have := World.ownsRow.lt hus j hj; omega⟩
  have hus := Orow.below hus hA3
  have hB3' := hB3.trans (hA3.mono hB3.size)
  clear hpost hb3 hB2 hB3 hA3 h2 hAz3
  generalize hE8 : w3.heap.size = B8 at r8 HK
  have hz8 : (w3.alloc (.cells (nt M (.slice sa m sc)) 27)).heap.size = B8 + 1 := by rw [World.size_alloc, hE8]
  obtain ⟨_, x0, x1⟩ := row2_facts rA
  go_wp2_with fail
  (try simp only [hE8])
  clear hE8
  refine (hto _ (HV.out.below hB3') hl).mono ?_
  rintro e w4 ⟨k1, rfl, h4, hb4⟩
  have hkb := h4.blk
  rw [hz8] at hkb
  have hA4 : Below w4.heap.size w4 (w4.alloc (.cells (nt N (fl k1 n)) 27)) := (Below.refl _ _).alloc (Nat.le_refl _) _
  have r10 := heap_alloc_new w4 (.cells (nt N (fl k1 n)) 27)
  have rA := heap_bl (heap_bl rA hb4) hA4
  have r8 := heap_bl (heap_bl r8 hb4) hA4
  have hus := (hus.below hb4).below hA4
  have hT := h4.below hA4
  have hB4 := (hB3'.trans (hb4.mono hB3'.size)).trans (hA4.mono (hB3'.trans (hb4.mono hB3'.size)).size)
  clear hb4 hB3' h4 hA4 x0 x1 hz8
  generalize hE10 : w4.heap.size = B10 at r10 hkb
  have hz10 : (w4.alloc (.cells (nt N (fl k1 n)) 27)).heap.size = B10 + 1 := by rw [World.size_alloc, hE10]
  obtain ⟨_, x0, x1⟩ := row2_facts r10
  go_wp2_with fail
  (try simp only [hE10])
  clear hE10
  refine (him k1 _ hT.sr).mono ?_
  rintro e w5 hpost
  obtain ⟨ga, gc, rfl, hug, hb5⟩ := HAN.out _ _ _ hpost
  have hA5 : Below w5.heap.size w5 (w5.alloc (.cells (nt M (.slice ga m gc)) 27)) := (Below.refl _ _).alloc (Nat.le_refl _) _
  have r11 := heap_alloc_new w5 (.cells (nt M (.slice ga m gc)) 27)
  have rA := heap_bl (heap_bl rA hb5) hA5
  have r8 := heap_bl (heap_bl r8 hb5) hA5
  have r10 := heap_bl (heap_bl r10 hb5) hA5
  have hus := (hus.below hb5).below hA5
  have hT := (hT.below hb5).below hA5
  have HG : Hid (∀ j, (Value.slice ga m gc).ownBlock = some j → B10 < j ∧ j < w5.heap.size) := hide (fun j hj => by have := World.ownsRow.lt hug j hj; omega)
  have hug := Orow.below hug hA5
  have hB5 := (hB4.trans (hb5.mono hB4.size)).trans (hA5.mono (hB4.trans (hb5.mono hB4.size)).size)
  have HZ11 : Hid (B10 < w5.heap.size) := hide (by have := hb5.size; omega)
  clear hpost hb5 hB4 hA5 x0 x1 hz10
  generalize hE11 : w5.heap.size = B11 at r11 HG HZ11
  obtain ⟨_, x0, x1⟩ := row2_facts r11
  obtain ⟨_, y0, y1⟩ := row2_facts r8
  go_wp2_with fail
  (try simp only [hE11])
  clear hE11
  refine (eqNet_same M _ _ m G _ hug.sr hus.sr hm9).mono ?_
  rintro e w6 ⟨rfl, hb6⟩
  have rA := heap_bl rA hb6
  have r8 := heap_bl r8 hb6
  have r10 := heap_bl r10 hb6
  have r11 := heap_bl r11 hb6
  have hus := Orow.below hus hb6
  have hT := Orow.below hT hb6
  have hug := Orow.below hug hb6
  have hB6 := hB5.trans (hb6.mono hB5.size)
  clear hb6 hB5 x0 x1 y0 y1
  obtain ⟨_, z0, z1⟩ := row2_facts rA
  obtain ⟨_, t0, t1⟩ := row2_facts r10
  go_wp2
  go_region_held3 (fun w' => (w'.cell? ⟨w.heap.size, 0, none⟩ = some (.int .i64 N) ∧ w'.cell? ⟨w.heap.size, 1, none⟩ = some (.slice ad n cap)) ∧ w'.cell? ⟨B10, 0, none⟩ = some (.int .i64 N) ∧ w'.cell? ⟨B10, 1, none⟩ = some (fl k1 n)) (first | exact ⟨⟨z0, z1⟩, t0, t1⟩ | exact ⟨⟨keepc hb7 z0, keepc hb7 z1⟩, keepc hb7 t0, keepc hb7 t1⟩ | exact ⟨⟨keepc hb8 (keepc hb7 z0), keepc hb8 (keepc hb7 z1)⟩, keepc hb8 (keepc hb7 t0), keepc hb8 (keepc hb7 t1)⟩) (first | (go_at_call 11; refine (hto _ (HV.out.below hB6.drew) hl).mono ?_; rintro e w7 ⟨m1, rfl, h7, hb7⟩) | (go_at_call 13; refine (eqNet_same N _ _ n f _ ((hT.sr.below ((Below.refl _ _).drew)).below hb7) h7.sr hl).mono ?_; rintro e w8 ⟨rfl, hb8⟩))
  have hd7 : Below w6.heap.size w6 w6.drew := (Below.refl _ _).drew
  have hb9 : Below w6.heap.size w6 w8 := (hd7.trans (hb7.mono (Nat.le_refl _))).trans (hb8.mono (hd7.trans (hb7.mono (Nat.le_refl _))).size)
  have rA := heap_bl rA hb9
  have r8 := heap_bl r8 hb9
  have r10 := heap_bl r10 hb9
  have r11 := heap_bl r11 hb9
  have hus := Orow.below hus hb9
  have hT := Orow.below hT hb9
  have hug := Orow.below hug hb9
  have hB8 := hB6.trans (hb9.mono hB6.size)
  clear hb7 hb8 hd7 hB6 z0 z1 t0 t1 h7 hb9
  have hMk := markNet_any N (some ⟨k1, 0, none⟩) k1 n n 1 w8 (by decide) (by decide) hl (fun _ => rfl) (fun hp => Orow.wc hT hp)
  have hz9 : 0 ≤ 1 + ((n * 2 : Nat) : Int) := by omega
  generalize 1 + ((n * 2 : Nat) : Int) = zk at hMk hz9
  have hzk : decide (zk < 0) = false := by simpa using hz9
  obtain ⟨_, t0, t1⟩ := row2_facts r10
  go_wp2_with fail
  refine hMk.mono ?_
  rintro e w9 ⟨rfl, hmg⟩
  have hch := hmg.ch
  have hA8 := HK.out.1
  have rA := heap_chg rA hch (by show ¬ w.heap.size = k1; omega)
  have r8 := heap_chg r8 hch (by show ¬ B8 = k1; omega)
  have r11 := heap_chg r11 hch (by have := HZ11.out; show ¬ B11 = k1; omega)
  have hus := Orow.chg hus hch (fun j hj => by have := HK.out.2 j hj; show ¬ j = k1; omega)
  have hug := Orow.chg hug hch (fun j hj => by have := HG.out j hj; show ¬ j = k1; omega)
  have hB9 : Below w.heap.size w w9 := below_chg hB8 hch (fun j hj => by have : j = k1 := hj; omega) hB8.size
  clear hmg hch hMk hT r10 hB8 t0 t1
  obtain ⟨_, x0, x1⟩ := row2_facts r11
  obtain ⟨_, y0, y1⟩ := row2_facts r8
  go_wp2_with fail
  refine (eqNet_same M _ _ m G _ hug.sr hus.sr hm9).mono ?_
  rintro e w10 ⟨rfl, hb10⟩
  have rA := heap_bl rA hb10
  have r8 := heap_bl r8 hb10
  have r11 := heap_bl r11 hb10
  have hus := Orow.below hus hb10
  have hug := Orow.below hug hb10
  have hB10 := hB9.trans (hb10.mono hB9.size)
  clear hb10 hB9 x0 x1 y0 y1
  obtain ⟨gg, hga, hgb⟩ := hug.addr
  have HGG : Hid ((B10 < gg ∧ gg < B11) ∨ gg = w10.heap.size) := hide (by
    by_cases hp : 0 < m
    · have e := (hga hp).1
      subst e
      exact .inl (HG.out gg rfl)
    · exact .inr (hgb (by omega)))
  have hM2 := markNet_any M ga gg m gc 1 w10 (by decide) (by decide) hm9 (fun hp => (hga hp).1) (fun hp => (hga hp).2)
  have hhd := fun W h => heldNet_any M ga gg m gc 1 W (by decide) (by decide) hm9 (fun hp => (hga hp).1) h
  have hz11 : 0 ≤ 1 + ((m * 2 : Nat) : Int) := by omega
  generalize 1 + ((m * 2 : Nat) : Int) = zm at hM2 hhd hz11
  have hzd : decide (zm < 0) = false := by simpa using hz11
  have hzn : (zm != zm) = false := by simp
  obtain ⟨_, x0, x1⟩ := row2_facts r11
  go_wp2_with fail
  refine hM2.mono ?_
  rintro e w11 ⟨rfl, hmg⟩
  have HMS : Hid (Mk w11 gg 1 (m * 2)) := hide hmg.ms
  have HC11 : Hid (w11.heap[w.heap.size]? = some (.cells (nt N (.slice ad n cap)) 24 (0, 0)) ∧ w11.heap[B8]? = some (.cells (nt M (.slice sa m sc)) 27 (0, 0)) ∧ w11.heap[B11]? = some (.cells (nt M (.slice ga m gc)) 27 (0, 0)) ∧ Sr w11 (.slice sa m sc) 2 m G ∧ Below w.heap.size w w11) := by
    have hA8 := HK.out.1
    have l1 := lt_of_block rA
    have l2 := lt_of_block r8
    have l3 := lt_of_block r11
    have hgr := HGG.out
    refine hide ⟨heap_chg rA hmg.ch (by show ¬ w.heap.size = gg; omega), heap_chg r8 hmg.ch (by show ¬ B8 = gg; omega), heap_chg r11 hmg.ch (by show ¬ B11 = gg; omega), (Orow.chg hus hmg.ch (fun j hj => by have := HK.out.2 j hj; show ¬ j = gg; omega)).sr, below_chg hB10 hmg.ch (fun j hj => by have : j = gg := hj; omega) hB10.size⟩
  obtain ⟨rA2, r82, r112, hs11, hB11⟩ := HC11.out
  clear HC11 hmg hM2 rA r8 r11 hus hug hB10 x0 x1
  obtain ⟨_, x0, x1⟩ := row2_facts r112
  go_wp2_with fail
  refine (hhd _ HMS.out).mono ?_
  rintro e w12 ⟨rfl, hb12⟩
  have rA := heap_bl rA2 hb12
  have r8 := heap_bl r82 hb12
  have r11 := heap_bl r112 hb12
  have hs12 := hs11.below hb12
  have HMS2 : Hid (Mk w12 gg 1 (m * 2)) := hide (fun x hx => keepc hb12 (HMS.out x hx))
  have hB12 := hB11.trans (hb12.mono hB11.size)
  clear rA2 r82 r112 hs11 hB11 HMS hb12 x0 x1
  obtain ⟨_, x0, x1⟩ := row2_facts rA
  go_wp2_with fail
  refine (hto _ (HV.out.below hB12) hl).mono ?_
  rintro e w13 ⟨k3, rfl, h13, hb13⟩
  have rA := heap_bl rA hb13
  have r8 := heap_bl r8 hb13
  have r11 := heap_bl r11 hb13
  have hs13 := hs12.below hb13
  have HMS3 : Hid (Mk w13 gg 1 (m * 2)) := hide (fun x hx => keepc hb13 (HMS2.out x hx))
  have hB13 := hB12.trans (hb13.mono hB12.size)
  clear hb13 hB12 HMS2 hs12 x0 x1
  go_wp2_with fail
  refine (him k3 _ h13.sr).mono ?_
  rintro e w14 hpost
  obtain ⟨ha, hc, rfl, huh, hb14⟩ := HAN.out _ _ _ hpost
  have hA14 : Below w14.heap.size w14 (w14.alloc (.cells (nt M (.slice ha m hc)) 27)) := (Below.refl _ _).alloc (Nat.le_refl _) _
  have r16 := heap_alloc_new w14 (.cells (nt M (.slice ha m hc)) 27)
  have r8 := heap_bl (heap_bl r8 hb14) hA14
  have r11 := heap_bl (heap_bl r11 hb14) hA14
  have hs14 := (hs13.below hb14).below hA14
  have huh := Orow.below huh hA14
  have HMS4 : Hid (Mk (w14.alloc (.cells (nt M (.slice ha m hc)) 27)) gg 1 (m * 2)) := hide (fun x hx => keepc hA14 (keepc hb14 (HMS3.out x hx)))
  have hB14 := (hB13.trans (hb14.mono hB13.size)).trans (hA14.mono (hB13.trans (hb14.mono hB13.size)).size)
  clear hpost hb14 hB13 hA14 HMS3 hs13 rA h13
  generalize hE16 : w14.heap.size = B16 at r16
  obtain ⟨_, x0, x1⟩ := row2_facts r16
  obtain ⟨_, y0, y1⟩ := row2_facts r8
  go_wp2_with fail
  (try simp only [hE16])
  clear hE16
  refine (eqNet_same M _ _ m G _ huh.sr hs14 hm9).mono ?_
  rintro e w15 ⟨rfl, hb15⟩
  have r11 := heap_bl r11 hb15
  have HMS5 : Hid (Mk w15 gg 1 (m * 2)) := hide (fun x hx => keepc hb15 (HMS4.out x hx))
  have hB15 := hB14.trans (hb15.mono hB14.size)
  clear hb15 hB14 HMS4 huh hs14 r8 r16 x0 x1 y0 y1
  obtain ⟨_, x0, x1⟩ := row2_facts r11
  go_wp2_with fail
  refine (hhd _ HMS5.out).mono ?_
  rintro e w16 ⟨rfl, hb16⟩
  have HB := hide (hB15.trans (hb16.mono hB15.size))
  clear hhd hb16 hB15 x0 x1 r11
  go_wp2
  go_ret
  exact ⟨rfl, HB.out⟩

set_option maxRecDepth 100000 in
theorem lifted (os : Os) (started : os.Started) (H : Type) (enc : TypeId × Value → H) :
    ReturnsInHanded {} Try.checked os 7 .any (Rows.fnExactWithoutLinkSpec.pre6 enc Try.prog Try.f7 Rows.fnExactWithoutLinkRow.domain false) (Rows.fnExactWithoutLinkSpec.post enc Try.prog Try.f7 false true false false) := by
  refine returnsInHanded_of_change (C := Try.checked) own started (by kernel_rfl) Try.func7
    (ChangeSpec.witness6 (enc := enc) (C := Try.checked) false ⟨#[], #[.agg #[.int .i64 0, .slice none 0 0], .int .i64 0, .int .i64 0], []⟩ 8 (by kernel_rfl) (by kernel_rfl) (by kernel_rfl) (by kernel_rfl)) ?_
  intro W base args ds gs before hval0 hW hcnd _
  have hval : ∀ (j : Nat) t v, Try.f7.params[j]? = some t → args[j]? = some v → Value.okWide Try.prog W .any base t v := hval0
  have hW' := hW
  obtain ⟨p, q, hA0, hV, rfl, hfz, hnd⟩ := hW
  have hA : DataW.TrodAll enc Try.prog W 0 (fun _ => true) true Try.f7.params.toList args.toList ds p := hA0
  rw [Try.params7] at hA hval
  obtain ⟨v0, vs0, d0, ds0, p0, q0, hargs, rfl, rfl, h0, r0⟩ := trodAll_cons hA
  obtain ⟨v1, vs1, d1, ds1, p1, q1, rfl, rfl, rfl, h1, r1⟩ := trodAll_cons r0
  obtain ⟨v2, vs2, d2, ds2, p2, q2, rfl, rfl, rfl, h2, r2⟩ := trodAll_cons r1
  obtain ⟨rfl, rfl, rfl⟩ := trodAll_nil r2
  obtain rfl : args = #[v0, v1, v2] := by cases args; simp_all
  obtain ⟨rfl, rfl⟩ := trodVars_none hV
  have k0 := h0
  have lt0 : ∀ x ∈ p0, x.block < W.heap.size := by obtain ⟨m, hm⟩ := k0; exact DataW.trod_lt m _ _ _ hm
  obtain ⟨N0, u0, n0, f0, rfl, hc0, hn0⟩ := open_net (hval 0 24 v0 rfl rfl) h0
  obtain ⟨a1, rfl, rfl, rfl, w1⟩ := open_int Try.underlying2 (hval 1 2 v1 rfl rfl) h1
  obtain ⟨a2, rfl, rfl, rfl, w2⟩ := open_int Try.underlying2 (hval 2 2 v2 rfl rfl) h2
  clear hA0 hval0
  refine (walk N0 u0 n0 f0 a1 a2 W hc0 (by unfold maxLen at hn0; omega)).mono fun e W' ⟨he, bel⟩ => ?_
  subst he
  exact ⟨_, rfl, _, _, _, [], _, [], hW', trodAll_mk1 (shut_bool Try.underlying4 _), (trodAll_cons_mk (Below.trod laidOut (by kernel_rfl) (of_decide_eq_true (by kernel_rfl)) k0 bel lt0) (trodAll_cons_mk (shut_int Try.underlying2 w1) (trodAll_cons_mk (shut_int Try.underlying2 w2) trodAll_mk0))), rfl, bel.frame _, fun h => by cases h⟩

theorem over : Rows.fnExactWithoutLinkRow.holds Try.pinned (OpenSpec.ofChange Rows.fnExactWithoutLinkSpec) :=
  OpenClaim.holds_of_wide 7 Try.f7 rfl rfl rfl rfl rfl rfl rfl ⟨rfl, rfl, rfl, rfl, rfl⟩ rfl rfl rfl rfl rfl (by kernel_rfl) Try.func7 (by kernel_rfl)
    (of_decide_eq_true (by kernel_rfl)) (by unfold Func.isWrapper; first | (rw [if_pos (by decide +kernel)]; kernel_rfl) | (rw [if_neg (by decide +kernel)]; exact ⟨rfl, rfl⟩))
    (fun os started H enc _ => lifted os started H enc)

theorem proved : Rows.FnExactWithoutLinkSaid := over
end Go.Proofs.Ytgjfhaikogobpaa.fnExactWithoutLink

namespace Go.Proofs.Ytgjfhaikogobpaa
theorem fnExactWithoutLink_holds : Rows.FnExactWithoutLinkSaid := fnExactWithoutLink.proved
end Go.Proofs.Ytgjfhaikogobpaa
