/- Proved: for every cache, of whatever lengths, and every number laws.FnExactLooked returns true and leaves its argument as it read. No condition. -/
import Derived.Test.YtcbadkljmcpghaaRows
import Derived.Test.YtcbadkljmcpghaaCaE
import Derived.Test.YtcbadkljmcpghaaCaL4
import Derived.Test.YtcbadkljmcpghaaCaL5
import Derived.WalkKit
import Derived.ProofKit
import Derived.OpenShut
import Derived.ShutString
import Derived.ChangeOld
import Derived.Below
import Derived.OpenVars
namespace Go.Proofs.Ytcbadkljmcpghaa.fnExactLooked
open Go.ChangeShapes Go.WideShapes Go.ChangeAt Go.WideMaps Go.WideElems Go.RowKit
set_option linter.unusedVariables false
set_option linter.unusedSimpArgs false

theorem own : ownKnob Try.prog.godebug = none := by kernel_rfl
theorem laidOut : laidOutB Try.prog = true := by kernel_rfl

theorem _root_.Go.Proofs.Ytcbadkljmcpghaa.Cg.drew {w : World} {B : Nat} {v : Value} {n : Nat} {L : Nat → Nat} {D : Nat → Sm} {G : Nat} {ib : Nat → Nat} (h : Cg w B v n L D G ib) : Cg w.drew B v n L D G ib := ⟨h.val, h.lo, h.wcG, h.wcI, h.ne, h.inj, h.at_, h.way⟩

/-- four variables of the law -/
def C4 (W : World) (a2 a6 a9 a10 : Nat) (v2 v6 v9 v10 : Value) : Prop := W.cell? ⟨a2, 0, none⟩ = some v2 ∧ W.cell? ⟨a6, 0, none⟩ = some v6 ∧ W.cell? ⟨a9, 0, none⟩ = some v9 ∧ W.cell? ⟨a10, 0, none⟩ = some v10
theorem C4.keep {W W' : World} {a2 a6 a9 a10 : Nat} {v2 v6 v9 v10 : Value} (h : C4 W a2 a6 a9 a10 v2 v6 v9 v10) (hb : Below W.heap.size W W') : C4 W' a2 a6 a9 a10 v2 v6 v9 v10 := ⟨keepc hb h.1, keepc hb h.2.1, keepc hb h.2.2.1, keepc hb h.2.2.2⟩
theorem C4.chg {S : Nat → Prop} {W W' : World} {a2 a6 a9 a10 : Nat} {v2 v6 v9 v10 : Value} (h : C4 W a2 a6 a9 a10 v2 v6 v9 v10) (hc : Chg S W W') (h2 : ¬ S a2) (h6 : ¬ S a6) (h9 : ¬ S a9) (h10 : ¬ S a10) : C4 W' a2 a6 a9 a10 v2 v6 v9 v10 := ⟨hc.cell h2 h.1, hc.cell h6 h.2.1, hc.cell h9 h.2.2.1, hc.cell h10 h.2.2.2⟩

set_option maxHeartbeats 4000000 in
theorem walk (u0 : Value) (n0 : Nat) (L0 : Nat → Nat) (D0 : Nat → Sm) (a1 : Int) (w : World) (hv : Cv w u0 n0 L0 D0) (hN : (n0 : Int) ≤ 9223372036854775807) (hG : ∀ c, c < n0 → (L0 c : Int) ≤ 9223372036854775807) :
    Calls Try.prog 10 #[.agg #[u0], .int .i64 a1] w fun e w' => e = .returned (.bool true) ∧ Below w.heap.size w w' := by
  have hB0 : Below w.heap.size w (w.alloc (.cells #[u0] 41)) := (Below.refl _ _).alloc (Nat.le_refl _) _
  have HV := hide hv
  obtain ⟨ad, cap, rfl, _⟩ := hv
  have hx0 : (w.alloc (.cells #[.slice ad n0 cap] 41)).cell? ⟨w.heap.size, 0, none⟩ = some (.slice ad n0 cap) := cell_of_row _ _ 0 _ _ _ (heap_alloc_new _ _)
  have hS := fun v W h => (specLooked_any v n0 L0 D0 a1 W h).mono (fun e w' h => h.an)
  have hI := fun v W h => (implLooked_any v n0 L0 D0 a1 W h).mono (fun e w' h => h.an)
  generalize lkM n0 L0 D0 a1 = m at hS hI
  generalize lkH n0 L0 D0 a1 = hh at hS hI
  generalize lkG n0 L0 D0 a1 = gg at hS hI
  generalize two (Ca.lk2 (D0 0) (D0 1) a1).1 (Ca.lk2 (D0 0) (D0 1) a1).2 = D' at hS hI
  have hL4 : ∀ c, c < m → (fun _ : Nat => 4) c ≤ 1048576 := fun c _ => by show 4 ≤ 1048576; decide
  have hsw : (w.alloc (.cells #[.slice ad n0 cap] 41)).heap.size = w.heap.size + 1 := by simp
  go_enter Try.func10, Try.ntmps10
  go_wp2_with fail
  refine (szCache_any _ n0 L0 D0 _ (HV.out.below hB0) hN hG).mono ?_
  rintro e w1 ⟨r, rfl, hp, hb1'⟩
  have hb1 := hB0.trans (hb1'.mono hB0.size)
  have hx1 := keepc hb1' hx0
  have hz1 := hb1'.size
  rw [hsw] at hz1
  clear hb1' hB0 hx0 hsw
  by_cases hx : r < 0
  · clear hp
    go_wp2
    go_ret
    exact ⟨rfl, hb1⟩
  obtain ⟨hn, hL⟩ := hp (by omega)
  clear hp hN hG
  -- the answer that is wanted
  go_wp2_with fail
  refine (toCache_any _ n0 L0 D0 _ (HV.out.below hb1) hn hL).mono ?_
  rintro e w2 ⟨g1, ib1, rfl, hc2, hb2⟩
  have hx2 := keepc hb2 hx1
  have hB2 := hb1.trans (hb2.mono hb1.size)
  have hz2 := hb2.size
  clear hb1 hb2 hx1
  go_wp2_with fail
  refine (hS _ _ hc2.cv).mono ?_
  rintro e w3 ⟨ad3, cap3, rfl, ha3, hb3⟩
  have hA3 : Below w3.heap.size w3 (w3.alloc (.cells #[.slice ad3 m cap3] 32)) := (Below.refl _ _).alloc (Nat.le_refl _) _
  have y3 : (w3.alloc (.cells #[.slice ad3 m cap3] 32)).cell? ⟨w3.heap.size, 0, none⟩ = some (.slice ad3 m cap3) := cell_of_row _ _ 0 _ _ _ (heap_alloc_new _ _)
  have hx3 := keepc hA3 (keepc hb3 hx2)
  have hB3 := (hB2.trans (hb3.mono hB2.size)).trans (hA3.mono (hB2.trans (hb3.mono hB2.size)).size)
  have hz3 := hb3.size
  have ha3a := ha3.below hA3
  have hs3 : (w3.alloc (.cells #[.slice ad3 m cap3] 32)).heap.size = w3.heap.size + 1 := by simp
  have hm := ha3.le
  clear hB2 hb3 hx2 ha3 hA3 hc2 hS
  -- a copy of the input
  go_wp2_with fail
  refine (toCache_any _ n0 L0 D0 _ (HV.out.below hB3) hn hL).mono ?_
  rintro e w4 ⟨g2, ib2, rfl, hc4', hb4⟩
  have hA4 : Below w4.heap.size w4 (w4.alloc (.cells #[.slice (some ⟨g2, 0, none⟩) n0 n0] 32)) := (Below.refl _ _).alloc (Nat.le_refl _) _
  have q4 : (w4.alloc (.cells #[.slice (some ⟨g2, 0, none⟩) n0 n0] 32)).cell? ⟨w4.heap.size, 0, none⟩ = some (.slice (some ⟨g2, 0, none⟩) n0 n0) := cell_of_row _ _ 0 _ _ _ (heap_alloc_new _ _)
  have hx4 := keepc hA4 (keepc hb4 hx3)
  have y4 := keepc hA4 (keepc hb4 y3)
  have hB4 := (hB3.trans (hb4.mono hB3.size)).trans (hA4.mono (hB3.trans (hb4.mono hB3.size)).size)
  have hz4 := hb4.size
  rw [hs3] at hz4
  have ha4 := (ha3a.below hb4).below hA4
  have lt4 : g2 < w4.heap.size ∧ ∀ c, c < n0 → ib2 c < w4.heap.size := ⟨hc4'.wcG.lt, fun c hc => (hc4'.wcI c hc).lt⟩
  have lo4 := hc4'.lo
  rw [hs3] at lo4
  have hc4 := hc4'.below hA4
  have hs4 : (w4.alloc (.cells #[.slice (some ⟨g2, 0, none⟩) n0 n0] 32)).heap.size = w4.heap.size + 1 := by simp
  clear hB3 hb4 hx3 y3 ha3a hA4 hc4' hs3
  -- the program's answer
  go_wp2_with fail
  refine (hI _ _ hc4.cv).mono ?_
  rintro e w5 ⟨ad5, cap5, rfl, ha5', hb5⟩
  have hA5 : Below w5.heap.size w5 (w5.alloc (.cells #[.slice ad5 m cap5] 32)) := (Below.refl _ _).alloc (Nat.le_refl _) _
  have z5 : (w5.alloc (.cells #[.slice ad5 m cap5] 32)).cell? ⟨w5.heap.size, 0, none⟩ = some (.slice ad5 m cap5) := cell_of_row _ _ 0 _ _ _ (heap_alloc_new _ _)
  have h5 : C4 (w5.alloc (.cells #[.slice ad5 m cap5] 32)) w.heap.size w3.heap.size w4.heap.size w5.heap.size (.slice ad n0 cap) (.slice ad3 m cap3) (.slice (some ⟨g2, 0, none⟩) n0 n0) (.slice ad5 m cap5) := ⟨keepc hA5 (keepc hb5 hx4), keepc hA5 (keepc hb5 y4), keepc hA5 (keepc hb5 q4), z5⟩
  have hB5 := (hB4.trans (hb5.mono hB4.size)).trans (hA5.mono (hB4.trans (hb5.mono hB4.size)).size)
  have hz5 := hb5.size
  rw [hs4] at hz5 ha5'
  have ha5 := (ha4.below hb5).below hA5
  have hp5 := ha5'.below hA5
  have hc5 := (hc4.below hb5).below hA5
  clear hB4 hb5 hx4 y4 q4 z5 ha4 hc4 ha5' hA5 hs4
  obtain ⟨x5, y5, q5, z5⟩ := id h5
  go_wp2_with fail
  refine (eqCache_same _ _ m _ _ _ hp5.cv ha5.cv hm hL4).mono ?_
  rintro e w6 ⟨rfl, hb6⟩
  have h6 := h5.keep hb6
  have hB6 := hB5.trans (hb6.mono hB5.size)
  have ha6 := ha5.below hb6
  have hp6 := hp5.below hb6
  have hc6 := hc5.below hb6
  clear h5 hB5 ha5 hp5 hc5 hb6 x5 y5 q5 z5
  obtain ⟨x6, y6, q6, z6⟩ := id h6
  go_wp2
  go_region_held3 (fun w' => w'.cell? ⟨w.heap.size, 0, none⟩ = some (.slice ad n0 cap) ∧ w'.cell? ⟨w4.heap.size, 0, none⟩ = some (.slice (some ⟨g2, 0, none⟩) n0 n0)) (first | exact ⟨x6, q6⟩ | exact ⟨keepc hb7 x6, keepc hb7 q6⟩ | exact ⟨keepc hb8 (keepc hb7 x6), keepc hb8 (keepc hb7 q6)⟩) (first | (go_at_call 28; refine (toCache_any _ n0 L0 D0 _ (HV.out.below hB6.drew) hn hL).mono ?_; rintro e w7 ⟨g3, ib3, rfl, hc7, hb7⟩) | (go_at_call 20; refine (eqCache_same _ _ n0 L0 D0 _ (hc6.drew.below hb7).cv hc7.cv hn hL).mono ?_; rintro e w8 ⟨rfl, hb8⟩))
  have h8 := C4.keep (C4.keep (W := w6.drew) h6 hb7) hb8
  have hB8 := (hB6.drew.trans (hb7.mono hB6.drew.size)).trans (hb8.mono (hB6.drew.trans (hb7.mono hB6.drew.size)).size)
  have ha8 := (ha6.drew.below hb7).below hb8
  have hp8 := (hp6.drew.below hb7).below hb8
  have hc8 := (hc6.drew.below hb7).below hb8
  clear h6 hB6 ha6 hp6 hc6 hb7 hb8 hc7 x6 y6 q6 z6
  obtain ⟨x8, y8, q8, z8⟩ := id h8
  -- the input's copy is marked
  go_wp2_with fail
  refine (markCache_any _ _ n0 L0 D0 g2 ib2 _ hc8 hn hL).mono ?_
  rintro e w9 ⟨rfl, hg9, _⟩
  have hkb := kc_bound 1 L0 n0 hL n0 (Nat.le_refl _)
  generalize kc 1 L0 n0 = kk at hkb ⊢
  have hneg : decide (kk < 0) = false := by simp; omega
  have nS : ∀ j, j < w3.heap.size + 1 ∨ w4.heap.size ≤ j → ¬ SC n0 g2 ib2 j := by
    rintro j hj (h | ⟨c, hc, h⟩)
    · omega
    · have := lo4.2 c hc; have := lt4.2 c hc; omega
  have h9 := h8.chg hg9 (nS _ (by omega)) (nS _ (by omega)) (nS _ (by omega)) (nS _ (by omega))
  have hB9 : Below w.heap.size w w9 := below_chg hB8 hg9 (fun j hj => by rcases hj with h | ⟨c, hc, h⟩; (· omega); (· have := lo4.2 c hc; omega)) hB8.size
  have ha9 := ha8.chg hg9 (fun j h1 h2 => nS _ (by omega))
  have hp9 := hp8.chg hg9 (fun j h1 h2 => nS _ (by omega))
  clear h8 hB8 ha8 hp8 hc8 hg9 x8 y8 q8 z8 nS
  obtain ⟨x9, y9, q9, z9⟩ := id h9
  go_wp2_with fail
  refine (eqCache_same _ _ m _ _ _ hp9.cv ha9.cv hm hL4).mono ?_
  rintro e w10 ⟨rfl, hb10⟩
  have h10 := h9.keep hb10
  have hB10 := hB9.trans (hb10.mono hB9.size)
  have ha10 := ha9.below hb10
  have hp10 := hp9.below hb10
  clear h9 hB9 ha9 hp9 hb10 x9 y9 q9 z9
  obtain ⟨x10, y10, q10, z10⟩ := id h10
  -- the answer is marked
  go_wp2_with fail
  refine (markAn hp10).mono ?_
  rintro e w11 ⟨rfl, hg11, hm11⟩
  have hkm := km_nn m
  have hheld := fun W h => heldAm (w := W) (v := .slice ad5 m cap5) (m := m) h
  generalize km m = k5 at hkm hheld ⊢
  have hneg5 : decide (k5 < 0) = false := by simp; omega
  have h11 := h10.chg hg11 (by omega) (by omega) (by omega) (by omega)
  have hB11 : Below w.heap.size w w11 := below_chg hB10 hg11 (fun j hj => by omega) hB10.size
  have ha11 := ha10.chg hg11 (fun j h1 h2 => by omega)
  clear h10 hB10 ha10 hp10 hg11 x10 y10 q10 z10 hneg
  obtain ⟨x11, y11, q11, z11⟩ := id h11
  go_wp2_with fail
  refine (hheld _ hm11).mono ?_
  rintro e w12 ⟨rfl, hb12⟩
  have h12 := h11.keep hb12
  have hB12 := hB11.trans (hb12.mono hB11.size)
  have ha12 := ha11.below hb12
  have hm12 := hm11.below hb12
  clear h11 hB11 ha11 hm11 hb12 x11 y11 q11 z11
  obtain ⟨x12, y12, q12, z12⟩ := id h12
  -- asked once more
  go_wp2_with fail
  refine (toCache_any _ n0 L0 D0 _ (HV.out.below hB12) hn hL).mono ?_
  rintro e w13 ⟨g4, ib4, rfl, hc13, hb13⟩
  have h13 := h12.keep hb13
  have hB13 := hB12.trans (hb13.mono hB12.size)
  have ha13 := ha12.below hb13
  have hm13 := hm12.below hb13
  clear h12 hB12 ha12 hm12 hb13 x12 y12 q12 z12
  obtain ⟨x13, y13, q13, z13⟩ := id h13
  go_wp2_with fail
  refine (hI _ _ hc13.cv).mono ?_
  rintro e w14 ⟨ad14, cap14, rfl, hp14', hb14⟩
  have hA14 : Below w14.heap.size w14 (w14.alloc (.cells #[.slice ad14 m cap14] 32)) := (Below.refl _ _).alloc (Nat.le_refl _) _
  have t14 : (w14.alloc (.cells #[.slice ad14 m cap14] 32)).cell? ⟨w14.heap.size, 0, none⟩ = some (.slice ad14 m cap14) := cell_of_row _ _ 0 _ _ _ (heap_alloc_new _ _)
  have h14 := (h13.keep hb14).keep hA14
  have hB14 := (hB13.trans (hb14.mono hB13.size)).trans (hA14.mono (hB13.trans (hb14.mono hB13.size)).size)
  have ha14 := (ha13.below hb14).below hA14
  have hp14 := hp14'.below hA14
  have hm14 := (hm13.below hb14).below hA14
  clear h13 hB13 ha13 hm13 hb14 x13 y13 q13 z13 hp14' hA14 hc13 hI
  obtain ⟨x14, y14, q14, z14⟩ := id h14
  go_wp2_with fail
  refine (eqCache_same _ _ m _ _ _ hp14.cv ha14.cv hm hL4).mono ?_
  rintro e w15 ⟨rfl, hb15⟩
  have h15 := h14.keep hb15
  have hB15 := hB14.trans (hb15.mono hB14.size)
  have hm15 := hm14.below hb15
  clear h14 hB14 ha14 hp14 hm14 hb15 x14 y14 q14 z14 t14
  obtain ⟨x15, y15, q15, z15⟩ := id h15
  go_wp2_with fail
  refine (hheld _ hm15).mono ?_
  rintro e w16 ⟨rfl, hb16⟩
  have HB := hide (hB15.trans (hb16.mono hB15.size))
  clear h15 hB15 hm15 hb16 x15 y15 q15 z15 hheld HV
  go_wp2
  go_ret
  exact ⟨rfl, HB.out⟩

set_option maxRecDepth 100000 in
theorem lifted (os : Os) (started : os.Started) (H : Type) (enc : TypeId × Value → H) :
    ReturnsInHanded {} Try.checked os 10 .any (Rows.fnExactLookedSpec.pre6 enc Try.prog Try.f10 Rows.fnExactLookedRow.domain false) (Rows.fnExactLookedSpec.post enc Try.prog Try.f10 false true false false) := by
  refine returnsInHanded_of_change (C := Try.checked) own started (by kernel_rfl) Try.func10
    (ChangeSpec.witness6 (enc := enc) (C := Try.checked) false ⟨#[], #[.agg #[.slice none 0 0], .int .i64 0], []⟩ 8 (by kernel_rfl) (by kernel_rfl) (by kernel_rfl) (by kernel_rfl)) ?_
  intro W base args ds gs before hval0 hW hcnd _
  have hval : ∀ (j : Nat) t v, Try.f10.params[j]? = some t → args[j]? = some v → Value.okWide Try.prog W .any base t v := hval0
  have hW' := hW
  obtain ⟨p, q, hA0, hV, rfl, hfz, hnd⟩ := hW
  have hA : DataW.TrodAll enc Try.prog W 0 (fun _ => true) true Try.f10.params.toList args.toList ds p := hA0
  rw [Try.params10] at hA hval
  obtain ⟨v0, vs0, d0, ds0, p0, q0, hargs, rfl, rfl, h0, r0⟩ := trodAll_cons hA
  obtain ⟨v1, vs1, d1, ds1, p1, q1, rfl, rfl, rfl, h1, r1⟩ := trodAll_cons r0
  obtain ⟨rfl, rfl, rfl⟩ := trodAll_nil r1
  obtain rfl : args = #[v0, v1] := by cases args; simp_all
  obtain ⟨rfl, rfl⟩ := trodVars_none hV
  have k0 := h0
  have lt0 : ∀ x ∈ p0, x.block < W.heap.size := by obtain ⟨m, hm⟩ := k0; exact DataW.trod_lt m _ _ _ hm
  obtain ⟨u0, n0, L0, D0, rfl, hc0, hn0, hl0⟩ := open_cache (hval 0 41 v0 rfl rfl) h0
  obtain ⟨a1, rfl, rfl, rfl, w1⟩ := open_int Try.underlying2 (hval 1 2 v1 rfl rfl) h1
  clear hA0 hval0
  refine (walk u0 n0 L0 D0 a1 W hc0 (by unfold maxLen at hn0; omega) (fun c hc => by have := hl0 c hc; unfold maxLen at this; omega)).mono fun e W' ⟨he, bel⟩ => ?_
  subst he
  exact ⟨_, rfl, _, _, _, [], _, [], hW', trodAll_mk1 (shut_bool Try.underlying4 _), (trodAll_cons_mk (Below.trod laidOut (by kernel_rfl) (of_decide_eq_true (by kernel_rfl)) k0 bel lt0) (trodAll_cons_mk (shut_int Try.underlying2 w1) trodAll_mk0)), rfl, bel.frame _, fun h => by cases h⟩

theorem over : Rows.fnExactLookedRow.holds Try.pinned (OpenSpec.ofChange Rows.fnExactLookedSpec) :=
  OpenClaim.holds_of_wide 10 Try.f10 rfl rfl rfl rfl rfl rfl rfl ⟨rfl, rfl, rfl, rfl, rfl⟩ rfl rfl rfl rfl rfl (by kernel_rfl) Try.func10 (by kernel_rfl)
    (of_decide_eq_true (by kernel_rfl)) (by unfold Func.isWrapper; first | (rw [if_pos (by decide +kernel)]; kernel_rfl) | (rw [if_neg (by decide +kernel)]; exact ⟨rfl, rfl⟩))
    (fun os started H enc _ => lifted os started H enc)

theorem proved : Rows.FnExactLookedSaid := over
end Go.Proofs.Ytcbadkljmcpghaa.fnExactLooked

namespace Go.Proofs.Ytcbadkljmcpghaa
theorem fnExactLooked_holds : Rows.FnExactLookedSaid := fnExactLooked.proved
end Go.Proofs.Ytcbadkljmcpghaa
