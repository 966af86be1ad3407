/- Proved: for every cache, of whatever lengths, and every list of numbers laws.FnExactLookedAll returns true and leaves its arguments as it read. No condition. -/
import Derived.Test.YtcbadkljmcpghaaRows
import Derived.Test.YtcbadkljmcpghaaCaE
import Derived.Test.YtcbadkljmcpghaaCaB5
import Derived.WalkKit
import Derived.ProofKit
import Derived.OpenShut
import Derived.ShutString
import Derived.ChangeOld
import Derived.Below
import Derived.OpenVars
namespace Go.Proofs.Ytcbadkljmcpghaa.fnExactLookedAll
open Go.ChangeShapes Go.WideShapes Go.ChangeAt Go.WideMaps Go.WideElems Go.RowKit
set_option linter.unusedVariables false
set_option linter.unusedSimpArgs false

theorem own : ownKnob Try.prog.godebug = none := by kernel_rfl
theorem laidOut : laidOutB Try.prog = true := by kernel_rfl

def IsRow (k : IntKind) (w : World) (a : Option Addr) (len cap : Nat) (zs : List Int) : Prop :=
  (a = none ∧ len = 0 ∧ cap = 0 ∧ zs = []) ∨
  ∃ x, a = some x ∧ len ≤ cap ∧ cap ≤ maxLen ∧ zs.length = cap ∧ (∀ i, i < zs.length → w.cell? (x.add i) = some (.int k (zs.getD i 0))) ∧ ∀ n ∈ zs, (Lit.int k n).wf = true

theorem row_sl {w : World} {a : Option Addr} {len cap : Nat} {z : List Int} (h : IsRow .i64 w a len cap z) : ∃ zs : List Int, zs.length = len ∧ Sl w (.slice a len cap) zs := by
  rcases h with ⟨rfl, rfl, rfl, rfl⟩ | ⟨x, rfl, hl, hm, hz, hcell, _⟩
  · exact ⟨[], rfl, none, 0, rfl, fun h => absurd h (by simp)⟩
  · obtain ⟨h1, h2⟩ := sl_of_row (len := len) (cap := cap) (by omega) hcell
    exact ⟨_, h1, h2⟩

theorem _root_.Go.Proofs.Ytcbadkljmcpghaa.Cg.drew {w : World} {B : Nat} {v : Value} {n : Nat} {L : Nat → Nat} {D : Nat → Sm} {G : Nat} {ib : Nat → Nat} (h : Cg w B v n L D G ib) : Cg w.drew B v n L D G ib := ⟨h.val, h.lo, h.wcG, h.wcI, h.ne, h.inj, h.at_, h.way⟩

/-- four variables of the law -/
def C4 (W : World) (a2 a6 a9 a10 : Nat) (v2 v6 v9 v10 : Value) : Prop := W.cell? ⟨a2, 0, none⟩ = some v2 ∧ W.cell? ⟨a6, 0, none⟩ = some v6 ∧ W.cell? ⟨a9, 0, none⟩ = some v9 ∧ W.cell? ⟨a10, 0, none⟩ = some v10
theorem C4.keep {W W' : World} {a2 a6 a9 a10 : Nat} {v2 v6 v9 v10 : Value} (h : C4 W a2 a6 a9 a10 v2 v6 v9 v10) (hb : Below W.heap.size W W') : C4 W' a2 a6 a9 a10 v2 v6 v9 v10 := ⟨keepc hb h.1, keepc hb h.2.1, keepc hb h.2.2.1, keepc hb h.2.2.2⟩
theorem C4.chg {S : Nat → Prop} {W W' : World} {a2 a6 a9 a10 : Nat} {v2 v6 v9 v10 : Value} (h : C4 W a2 a6 a9 a10 v2 v6 v9 v10) (hc : Chg S W W') (h2 : ¬ S a2) (h6 : ¬ S a6) (h9 : ¬ S a9) (h10 : ¬ S a10) : C4 W' a2 a6 a9 a10 v2 v6 v9 v10 := ⟨hc.cell h2 h.1, hc.cell h6 h.2.1, hc.cell h9 h.2.2.1, hc.cell h10 h.2.2.2⟩

set_option maxHeartbeats 8000000 in
theorem walk (u0 : Value) (n0 : Nat) (L0 : Nat → Nat) (D0 : Nat → Sm) (a1 : Option Addr) (len1 cap1 : Nat) (w : World) (hv : Cv w u0 n0 L0 D0) (hN : (n0 : Int) ≤ 9223372036854775807) (hG : ∀ c, c < n0 → (L0 c : Int) ≤ 9223372036854775807) (w1 : ∃ zs : List Int, zs.length = len1 ∧ Sl w (.slice a1 len1 cap1) zs) :
    Calls Try.prog 11 #[.agg #[u0], .slice a1 len1 cap1] w fun e w' => e = .returned (.bool true) ∧ Below w.heap.size w w' := by
  obtain ⟨zs, rfl, hz⟩ := w1
  have hB0 : Below w.heap.size w (w.alloc (.cells #[u0] 41)) := (Below.refl _ _).alloc (Nat.le_refl _) _
  have HV := hide hv
  have HZ := hide hz
  clear hz
  obtain ⟨ad, cap, rfl, _⟩ := hv
  have hx0 : (w.alloc (.cells #[.slice ad n0 cap] 41)).cell? ⟨w.heap.size, 0, none⟩ = some (.slice ad n0 cap) := cell_of_row _ _ 0 _ _ _ (heap_alloc_new _ _)
  by_cases hbig : (1048576 : Int) < (zs.length : Int)
  · go_enter Try.func11, Try.ntmps11
    go_wp2
    go_ret
    exact ⟨rfl, hB0⟩
  have hlz : zs.length ≤ 1048576 := by omega
  have hS := fun v va W h hz => (specAll_any v va n0 L0 D0 zs W h hz).mono (fun e w' h => h.an)
  have hI := fun v va W h hz => (implAll_any v va n0 L0 D0 zs W h hz).mono (fun e w' h => h.an)
  have hkb := alK_le n0 L0 D0 zs
  generalize alM n0 L0 D0 zs = m at hS hI
  generalize alK n0 L0 D0 zs = kb at hS hI hkb
  generalize two (Ca.rn (D0 0) (D0 1) (zf zs) zs.length).1 (Ca.rn (D0 0) (D0 1) (zf zs) zs.length).2 = D' at hS hI
  generalize Ca.ht (D0 0) (D0 1) (zf zs) = hf at hS hI
  have hL4 : ∀ c, c < m → (fun _ : Nat => 4) c ≤ 1048576 := fun c _ => by show 4 ≤ 1048576; decide
  have hsw : (w.alloc (.cells #[.slice ad n0 cap] 41)).heap.size = w.heap.size + 1 := by simp
  have hcp := fun v W h => copy_any v zs W h hlz
  go_enter Try.func11, Try.ntmps11
  go_wp2_with fail
  refine (szCache_any _ n0 L0 D0 _ (HV.out.below hB0) hN hG).mono ?_
  rintro e w1 ⟨r, rfl, hp, hb1'⟩
  have hb1 := hB0.trans (hb1'.mono hB0.size)
  have hx1 := keepc hb1' hx0
  have hz1 := hb1'.size
  rw [hsw] at hz1
  clear hb1' hB0 hx0 hsw
  by_cases hx : r < 0
  · clear hp
    go_wp2
    go_ret
    exact ⟨rfl, hb1⟩
  obtain ⟨hn, hL⟩ := hp (by omega)
  clear hp hN hG hbig
  -- the answer that is wanted
  go_wp2_with fail
  refine (toCache_any _ n0 L0 D0 _ (HV.out.below hb1) hn hL).mono ?_
  rintro e w2 ⟨g1, ib1, rfl, hc2, hb2⟩
  have hx2 := keepc hb2 hx1
  have hB2 := hb1.trans (hb2.mono hb1.size)
  have hz2 := hb2.size
  clear hb1 hb2 hx1
  go_wp2_with fail
  refine (hcp _ _ (HZ.out.below hB2)).mono ?_
  rintro e wA ⟨uA, rfl, hoA, hbA, gA, rfl⟩
  have hxA := keepc hbA hx2
  have hBA := hB2.trans (hbA.mono hB2.size)
  have hzA := hbA.size
  have hcA := hc2.below hbA
  clear hB2 hbA hx2 hc2
  go_wp2_with fail
  refine (hS _ _ _ hcA.cv hoA.sl).mono ?_
  rintro e w3 ⟨ad3, cap3, vb3, rfl, ha3, ho3, hb3⟩
  have hA3 : Below w3.heap.size w3 (w3.alloc (.cells #[.slice ad3 m cap3] 32)) := (Below.refl _ _).alloc (Nat.le_refl _) _
  have y3 : (w3.alloc (.cells #[.slice ad3 m cap3] 32)).cell? ⟨w3.heap.size, 0, none⟩ = some (.slice ad3 m cap3) := cell_of_row _ _ 0 _ _ _ (heap_alloc_new _ _)
  have hx3 := keepc hA3 (keepc hb3 hxA)
  have hB3 := (hBA.trans (hb3.mono hBA.size)).trans (hA3.mono (hBA.trans (hb3.mono hBA.size)).size)
  have hz3 := hb3.size
  have ha3a := ha3.below hA3
  have ho3a := ho3.below hA3
  have hs3 : (w3.alloc (.cells #[.slice ad3 m cap3] 32)).heap.size = w3.heap.size + 1 := by simp
  have hm := ha3.an.le
  clear hBA hb3 hxA ha3 ho3 hA3 hcA hoA hS
  -- copies of the input
  go_wp2_with fail
  refine (toCache_any _ n0 L0 D0 _ (HV.out.below hB3) hn hL).mono ?_
  rintro e w4 ⟨g2, ib2, rfl, hc4', hb4⟩
  have hA4 : Below w4.heap.size w4 (w4.alloc (.cells #[.slice (some ⟨g2, 0, none⟩) n0 n0] 32)) := (Below.refl _ _).alloc (Nat.le_refl _) _
  have q4 : (w4.alloc (.cells #[.slice (some ⟨g2, 0, none⟩) n0 n0] 32)).cell? ⟨w4.heap.size, 0, none⟩ = some (.slice (some ⟨g2, 0, none⟩) n0 n0) := cell_of_row _ _ 0 _ _ _ (heap_alloc_new _ _)
  have hx4 := keepc hA4 (keepc hb4 hx3)
  have y4 := keepc hA4 (keepc hb4 y3)
  have hB4 := (hB3.trans (hb4.mono hB3.size)).trans (hA4.mono (hB3.trans (hb4.mono hB3.size)).size)
  have hz4 := hb4.size
  rw [hs3] at hz4
  have ha4 := (ha3a.below hb4).below hA4
  have ho4 := (ho3a.below hb4).below hA4
  have lt4 : g2 < w4.heap.size ∧ ∀ c, c < n0 → ib2 c < w4.heap.size := ⟨hc4'.wcG.lt, fun c hc => (hc4'.wcI c hc).lt⟩
  have lo4 := hc4'.lo
  rw [hs3] at lo4
  have hc4 := hc4'.below hA4
  have hs4 : (w4.alloc (.cells #[.slice (some ⟨g2, 0, none⟩) n0 n0] 32)).heap.size = w4.heap.size + 1 := by simp
  clear hB3 hb4 hx3 y3 ha3a ho3a hA4 hc4' hs3
  go_wp2_with fail
  refine (hcp _ _ (HZ.out.below hB4)).mono ?_
  rintro e w5 ⟨u9, rfl, hz9, hb5, g9, rfl⟩
  obtain ⟨hw9, lo9, lt9⟩ := hz9.wc rfl
  rw [hs4] at lo9
  have hx5 := keepc hb5 hx4
  have y5 := keepc hb5 y4
  have q5 := keepc hb5 q4
  have hB5 := hB4.trans (hb5.mono hB4.size)
  have hz5 := hb5.size
  rw [hs4] at hz5
  have ha5 := ha4.below hb5
  have ho5 := ho4.below hb5
  have hc5 := hc4.below hb5
  clear hB4 hb5 hx4 y4 q4 ha4 ho4 hc4 hs4
  -- the program's answer
  go_wp2_with fail
  refine (hI _ _ _ hc5.cv hz9.sl).mono ?_
  rintro e w6 ⟨ad6, cap6, vb6, rfl, hp6', hq6', hb6⟩
  have hA6 : Below w6.heap.size w6 (w6.alloc (.cells #[.slice ad6 m cap6] 32)) := (Below.refl _ _).alloc (Nat.le_refl _) _
  have z6 : (w6.alloc (.cells #[.slice ad6 m cap6] 32)).cell? ⟨w6.heap.size, 0, none⟩ = some (.slice ad6 m cap6) := cell_of_row _ _ 0 _ _ _ (heap_alloc_new _ _)
  have hz6 := hb6.size
  have H6 : C4 (w6.alloc (.cells #[.slice ad6 m cap6] 32)) w.heap.size w3.heap.size w4.heap.size w6.heap.size (.slice ad n0 cap) (.slice ad3 m cap3) (.slice (some ⟨g2, 0, none⟩) n0 n0) (.slice ad6 m cap6) := ⟨keepc hA6 (keepc hb6 hx5), keepc hA6 (keepc hb6 y5), keepc hA6 (keepc hb6 q5), z6⟩
  have B6 := (hB5.trans (hb6.mono hB5.size)).trans (hA6.mono (hB5.trans (hb6.mono hB5.size)).size)
  have A6 := (ha5.below hb6).below hA6
  have O6 := (ho5.below hb6).below hA6
  have P6 := hp6'.below hA6
  have Q6 := hq6'.below hA6
  have C6 := (hc5.below hb6).below hA6
  have Z6 := (hz9.sl.below hb6).below hA6
  have Y6 := (hw9.below hb6).below hA6
  clear hB5 hb6 hx5 y5 q5 z6 ha5 ho5 hc5 hp6' hq6' hA6 hz9 hw9
  obtain ⟨x6, y6, q6, z6⟩ := id H6
  go_wp2_with fail
  refine (eqCache_same _ _ m _ _ _ P6.an.cv A6.an.cv hm hL4).mono ?_
  rintro e w7 ⟨rfl, hb7⟩
  have H7 := H6.keep hb7
  have B7 := B6.trans (hb7.mono B6.size)
  have A7 := A6.below hb7
  have O7 := O6.below hb7
  have P7 := P6.below hb7
  have Q7 := Q6.below hb7
  have C7 := C6.below hb7
  have Z7 := Z6.below hb7
  have Y7 := Y6.below hb7
  clear H6 B6 A6 O6 P6 Q6 C6 Z6 Y6 hb7 x6 y6 q6 z6
  obtain ⟨x7, y7, q7, z7⟩ := id H7
  go_wp2_with fail
  refine (eqBoolS_same _ _ kb hf _ Q7.sb O7.sb hkb).mono ?_
  rintro e w8 ⟨rfl, hb8⟩
  have H8 := H7.keep hb8
  have B8 := B7.trans (hb8.mono B7.size)
  have A8 := A7.below hb8
  have O8 := O7.below hb8
  have P8 := P7.below hb8
  have Q8 := Q7.below hb8
  have C8 := C7.below hb8
  have Z8 := Z7.below hb8
  have Y8 := Y7.below hb8
  clear H7 B7 A7 O7 P7 Q7 C7 Z7 Y7 hb8 x7 y7 q7 z7
  obtain ⟨x8, y8, q8, z8⟩ := id H8
  go_wp2
  go_region_held3 (fun w' => w'.cell? ⟨w.heap.size, 0, none⟩ = some (.slice ad n0 cap) ∧ w'.cell? ⟨w4.heap.size, 0, none⟩ = some (.slice (some ⟨g2, 0, none⟩) n0 n0)) (first | exact ⟨x8, q8⟩ | exact ⟨keepc hb9 x8, keepc hb9 q8⟩ | exact ⟨keepc hb10 (keepc hb9 x8), keepc hb10 (keepc hb9 q8)⟩) (first | (go_at_call 28; refine (toCache_any _ n0 L0 D0 _ (HV.out.below B8.drew) hn hL).mono ?_; rintro e w9 ⟨g3, ib3, rfl, hc9, hb9⟩) | (go_at_call 20; refine (eqCache_same _ _ n0 L0 D0 _ (C8.drew.below hb9).cv hc9.cv hn hL).mono ?_; rintro e w10 ⟨rfl, hb10⟩))
  have hD := (Below.refl w8.heap.size w8).drew
  have hD9 := hD.trans (hb9.mono hD.size)
  have hbX : Below w8.heap.size w8 w10 := hD9.trans (hb10.mono hD9.size)
  clear hD hD9 hb9 hb10 hc9
  have H10 := H8.keep hbX
  have B10 := B8.trans (hbX.mono B8.size)
  have A10 := A8.below hbX
  have O10 := O8.below hbX
  have P10 := P8.below hbX
  have Q10 := Q8.below hbX
  have C10 := C8.below hbX
  have Z10 := Z8.below hbX
  have Y10 := Y8.below hbX
  clear H8 B8 A8 O8 P8 Q8 C8 Z8 Y8 hbX x8 y8 q8 z8
  obtain ⟨x10, y10, q10, z10⟩ := id H10
  go_wp2_with fail
  refine (hcp _ _ (HZ.out.below B10)).mono ?_
  rintro e w11 ⟨u11, rfl, ho11, hb11, g11, rfl⟩
  have H11 := H10.keep hb11
  have B11 := B10.trans (hb11.mono B10.size)
  have A11 := A10.below hb11
  have O11 := O10.below hb11
  have P11 := P10.below hb11
  have Q11 := Q10.below hb11
  have C11 := C10.below hb11
  have Z11 := Z10.below hb11
  have Y11 := Y10.below hb11
  clear H10 B10 A10 O10 P10 Q10 C10 Z10 Y10 hb11 x10 y10 q10 z10
  obtain ⟨x11, y11, q11, z11⟩ := id H11
  go_wp2_with fail
  refine (eq_same _ _ zs _ Z11 ho11.sl hlz).mono ?_
  rintro e w12 ⟨rfl, hb12⟩
  clear ho11
  have H12 := H11.keep hb12
  have B12 := B11.trans (hb12.mono B11.size)
  have A12 := A11.below hb12
  have O12 := O11.below hb12
  have P12 := P11.below hb12
  have Q12 := Q11.below hb12
  have C12 := C11.below hb12
  have Y12 := Y11.below hb12
  clear H11 B11 A11 O11 P11 Q11 C11 Y11 Z11 hb12 x11 y11 q11 z11
  obtain ⟨x12, y12, q12, z12⟩ := id H12
  go_wp2_with fail
  refine (markCache_any _ _ n0 L0 D0 g2 ib2 _ C12 hn hL).mono ?_
  rintro e w13 ⟨rfl, hg13, _⟩
  have hkk := kc_bound 1 L0 n0 hL n0 (Nat.le_refl _)
  generalize kc 1 L0 n0 = kk at hkk ⊢
  have nS : ∀ j, j < w3.heap.size + 1 ∨ w4.heap.size ≤ j → ¬ SC n0 g2 ib2 j := by
    rintro j hj (h | ⟨c, hc, h⟩)
    · omega
    · have := lo4.2 c hc; have := lt4.2 c hc; omega
  have H13 := H12.chg hg13 (nS _ (by omega)) (nS _ (by omega)) (nS _ (by omega)) (nS _ (by omega))
  have B13 : Below w.heap.size w w13 := below_chg B12 hg13 (fun j hj => by rcases hj with h | ⟨c, hc, h⟩; (· omega); (· have := lo4.2 c hc; omega)) B12.size
  have A13 := A12.chg hg13 (fun j h1 h2 => nS _ (by omega))
  have O13 := O12.chg hg13 (fun j h1 h2 => nS _ (by omega))
  have P13 := P12.chg hg13 (fun j h1 h2 => nS _ (by omega))
  have Q13 := Q12.chg hg13 (fun j h1 h2 => nS _ (by omega))
  have Y13 := hg13.keep _ _ Y12
  clear H12 B12 A12 O12 P12 Q12 C12 Y12 hg13 x12 y12 q12 z12 nS
  obtain ⟨x13, y13, q13, z13⟩ := id H13
  go_wp2_with fail
  refine (markInts_any g9 zs.length zs.length kk _ (by omega) (by omega) Y13 hlz).mono ?_
  rintro e w14 ⟨rfl, hg14⟩
  have h12 : 0 ≤ kk + (zs.length : Int) := by omega
  generalize kk + (zs.length : Int) = k12 at h12 ⊢
  have hneg12 : decide (k12 < 0) = false := by simp; omega
  have H14 := H13.chg hg14 (by omega) (by omega) (by omega) (by omega)
  have B14 : Below w.heap.size w w14 := below_chg B13 hg14 (fun j hj => by omega) B13.size
  have A14 := A13.chg hg14 (fun j h1 h2 => by omega)
  have O14 := O13.chg hg14 (fun j h1 h2 => by omega)
  have P14 := P13.chg hg14 (fun j h1 h2 => by omega)
  have Q14 := Q13.chg hg14 (fun j h1 h2 => by omega)
  clear H13 B13 A13 O13 P13 Q13 Y13 hg14 x13 y13 q13 z13
  obtain ⟨x14, y14, q14, z14⟩ := id H14
  go_wp2_with fail
  refine (eqCache_same _ _ m _ _ _ P14.an.cv A14.an.cv hm hL4).mono ?_
  rintro e w15 ⟨rfl, hb15⟩
  have H15 := H14.keep hb15
  have B15 := B14.trans (hb15.mono B14.size)
  have A15 := A14.below hb15
  have O15 := O14.below hb15
  have P15 := P14.below hb15
  have Q15 := Q14.below hb15
  clear H14 B14 A14 O14 P14 Q14 hb15 x14 y14 q14 z14
  obtain ⟨x15, y15, q15, z15⟩ := id H15
  go_wp2_with fail
  refine (eqBoolS_same _ _ kb hf _ Q15.sb O15.sb hkb).mono ?_
  rintro e w16 ⟨rfl, hb16⟩
  have H16 := H15.keep hb16
  have B16 := B15.trans (hb16.mono B15.size)
  have A16 := A15.below hb16
  have O16 := O15.below hb16
  have P16 := P15.below hb16
  have Q16 := Q15.below hb16
  clear H15 B15 A15 O15 P15 Q15 hb16 x15 y15 q15 z15
  obtain ⟨x16, y16, q16, z16⟩ := id H16
  go_wp2_with fail
  refine (markAnX P16).mono ?_
  rintro e w17 ⟨rfl, hg17, M17⟩
  have hkm := km_nn m
  have hkm2 : km m ≤ 1000 := by unfold km; split <;> decide
  have hheld := fun W h => heldAm (w := W) (v := .slice ad6 m cap6) (m := m) h
  generalize km m = k5 at hkm hkm2 hheld ⊢
  have hneg5 : decide (k5 < 0) = false := by simp; omega
  have hheldB := fun W h => heldBm (w := W) (v := vb6) (n := kb) k5 hkm (by omega) h hkb
  have hmarkB := fun W h => markBw (w := W) (B := w5.heap.size) (E := w6.heap.size) (v := vb6) (n := kb) k5 hkm (by omega) h hkb
  have h13 : 0 ≤ k5 + (kb : Int) := by omega
  generalize k5 + (kb : Int) = k13 at hheldB hmarkB h13
  have hneg13 : decide (k13 < 0) = false := by simp; omega
  have H17 := H16.chg hg17 (by omega) (by omega) (by omega) (by omega)
  have B17 : Below w.heap.size w w17 := below_chg B16 hg17 (fun j hj => by omega) B16.size
  have A17 := A16.chg hg17 (fun j h1 h2 => by omega)
  have O17 := O16.chg hg17 (fun j h1 h2 => by omega)
  have Q17 := Q16.bw.chg hg17
  clear H16 B16 A16 O16 P16 Q16 hg17 x16 y16 q16 z16 hneg12
  obtain ⟨x17, y17, q17, z17⟩ := id H17
  go_wp2_with fail
  refine (hmarkB _ Q17).mono ?_
  rintro e w18 ⟨rfl, hg18, N18⟩
  have H18 := H17.chg hg18 (by omega) (by omega) (by omega) (by omega)
  have B18 : Below w.heap.size w w18 := below_chg B17 hg18 (fun j hj => by omega) B17.size
  have A18 := A17.chg hg18 (fun j h1 h2 => by omega)
  have O18 := O17.chg hg18 (fun j h1 h2 => by omega)
  have M18 := M17.chg hg18 (fun j hj => hj.1)
  clear H17 B17 A17 O17 Q17 M17 hg18 x17 y17 q17 z17 hmarkB
  obtain ⟨x18, y18, q18, z18⟩ := id H18
  go_wp2_with fail
  refine (hheld _ M18.am).mono ?_
  rintro e w19 ⟨rfl, hb19⟩
  have H19 := H18.keep hb19
  have B19 := B18.trans (hb19.mono B18.size)
  have A19 := A18.below hb19
  have O19 := O18.below hb19
  have M19 := M18.below hb19
  have N19 := N18.below hb19
  clear H18 B18 A18 O18 M18 N18 hb19 x18 y18 q18 z18
  obtain ⟨x19, y19, q19, z19⟩ := id H19
  go_wp2_with fail
  refine (hheldB _ N19).mono ?_
  rintro e w20 ⟨rfl, rfl⟩
  go_wp2_with fail
  refine (toCache_any _ n0 L0 D0 _ (HV.out.below B19) hn hL).mono ?_
  rintro e w21 ⟨g4, ib4, rfl, hc21, hb21⟩
  have H21 := H19.keep hb21
  have B21 := B19.trans (hb21.mono B19.size)
  have A21 := A19.below hb21
  have O21 := O19.below hb21
  have M21 := M19.below hb21
  have N21 := N19.below hb21
  clear H19 B19 A19 O19 M19 N19 hb21 x19 y19 q19 z19
  obtain ⟨x21, y21, q21, z21⟩ := id H21
  go_wp2_with fail
  refine (hcp _ _ (HZ.out.below B21)).mono ?_
  rintro e w22 ⟨u22, rfl, ho22, hb22, g22, rfl⟩
  have hc22 := hc21.below hb22
  clear hc21
  have H22 := H21.keep hb22
  have B22 := B21.trans (hb22.mono B21.size)
  have A22 := A21.below hb22
  have O22 := O21.below hb22
  have M22 := M21.below hb22
  have N22 := N21.below hb22
  clear H21 B21 A21 O21 M21 N21 hb22 x21 y21 q21 z21
  obtain ⟨x22, y22, q22, z22⟩ := id H22
  go_wp2_with fail
  refine (hI _ _ _ hc22.cv ho22.sl).mono ?_
  rintro e w23 ⟨ad23, cap23, vb23, rfl, hp23, hq23, hb23⟩
  have hA23 : Below w23.heap.size w23 (w23.alloc (.cells #[.slice ad23 m cap23] 32)) := (Below.refl _ _).alloc (Nat.le_refl _) _
  have t23 : (w23.alloc (.cells #[.slice ad23 m cap23] 32)).cell? ⟨w23.heap.size, 0, none⟩ = some (.slice ad23 m cap23) := cell_of_row _ _ 0 _ _ _ (heap_alloc_new _ _)
  have P24 := hp23.below hA23
  have Q24 := hq23.below hA23
  have hbY := hb23.trans (hA23.mono hb23.size)
  clear hb23 hA23 hp23 hq23 hc22 ho22 hI
  have H24 := H22.keep hbY
  have B24 := B22.trans (hbY.mono B22.size)
  have A24 := A22.below hbY
  have O24 := O22.below hbY
  have M24 := M22.below hbY
  have N24 := N22.below hbY
  clear H22 B22 A22 O22 M22 N22 hbY x22 y22 q22 z22
  obtain ⟨x24, y24, q24, z24⟩ := id H24
  go_wp2_with fail
  refine (eqCache_same _ _ m _ _ _ P24.an.cv A24.an.cv hm hL4).mono ?_
  rintro e w25 ⟨rfl, hb25⟩
  clear t23
  have H25 := H24.keep hb25
  have B25 := B24.trans (hb25.mono B24.size)
  have A25 := A24.below hb25
  have O25 := O24.below hb25
  have M25 := M24.below hb25
  have N25 := N24.below hb25
  have P25 := P24.below hb25
  have Q25 := Q24.below hb25
  clear H24 B24 A24 O24 M24 N24 P24 Q24 hb25 x24 y24 q24 z24
  obtain ⟨x25, y25, q25, z25⟩ := id H25
  go_wp2_with fail
  refine (eqBoolS_same _ _ kb hf _ Q25.sb O25.sb hkb).mono ?_
  rintro e w26 ⟨rfl, hb26⟩
  have H26 := H25.keep hb26
  have B26 := B25.trans (hb26.mono B25.size)
  have A26 := A25.below hb26
  have O26 := O25.below hb26
  have M26 := M25.below hb26
  have N26 := N25.below hb26
  have P26 := P25.below hb26
  have Q26 := Q25.below hb26
  clear H25 B25 A25 O25 M25 N25 P25 Q25 hb26 x25 y25 q25 z25
  obtain ⟨x26, y26, q26, z26⟩ := id H26
  go_wp2_with fail
  refine (hheld _ M26.am).mono ?_
  rintro e w27 ⟨rfl, hb27⟩
  have H27 := H26.keep hb27
  have B27 := B26.trans (hb27.mono B26.size)
  have A27 := A26.below hb27
  have O27 := O26.below hb27
  have M27 := M26.below hb27
  have N27 := N26.below hb27
  have P27 := P26.below hb27
  have Q27 := Q26.below hb27
  clear H26 B26 A26 O26 M26 N26 P26 Q26 hb27 x26 y26 q26 z26
  obtain ⟨x27, y27, q27, z27⟩ := id H27
  go_wp2_with fail
  refine (hheldB _ N27).mono ?_
  rintro e w28 ⟨rfl, rfl⟩
  have HB := hide B27
  clear H27 B27 A27 O27 M27 N27 P27 Q27 x27 y27 q27 z27 hheld hheldB HV HZ hcp
  go_wp2
  go_ret
  exact ⟨rfl, HB.out⟩

set_option maxRecDepth 100000 in
theorem lifted (os : Os) (started : os.Started) (H : Type) (enc : TypeId × Value → H) :
    ReturnsInHanded {} Try.checked os 11 .any (Rows.fnExactLookedAllSpec.pre6 enc Try.prog Try.f11 Rows.fnExactLookedAllRow.domain false) (Rows.fnExactLookedAllSpec.post enc Try.prog Try.f11 false true false false) := by
  refine returnsInHanded_of_change (C := Try.checked) own started (by kernel_rfl) Try.func11
    (ChangeSpec.witness6 (enc := enc) (C := Try.checked) false ⟨#[], #[.agg #[.slice none 0 0], .slice none 0 0], []⟩ 8 (by kernel_rfl) (by kernel_rfl) (by kernel_rfl) (by kernel_rfl)) ?_
  intro W base args ds gs before hval0 hW hcnd _
  have hval : ∀ (j : Nat) t v, Try.f11.params[j]? = some t → args[j]? = some v → Value.okWide Try.prog W .any base t v := hval0
  have hW' := hW
  obtain ⟨p, q, hA0, hV, rfl, hfz, hnd⟩ := hW
  have hA : DataW.TrodAll enc Try.prog W 0 (fun _ => true) true Try.f11.params.toList args.toList ds p := hA0
  rw [Try.params11] at hA hval
  obtain ⟨v0, vs0, d0, ds0, p0, q0, hargs, rfl, rfl, h0, r0⟩ := trodAll_cons hA
  obtain ⟨v1, vs1, d1, ds1, p1, q1, rfl, rfl, rfl, h1, r1⟩ := trodAll_cons r0
  obtain ⟨rfl, rfl, rfl⟩ := trodAll_nil r1
  obtain rfl : args = #[v0, v1] := by cases args; simp_all
  obtain ⟨rfl, rfl⟩ := trodVars_none hV
  have k0 := h0
  have lt0 : ∀ x ∈ p0, x.block < W.heap.size := by obtain ⟨m, hm⟩ := k0; exact DataW.trod_lt m _ _ _ hm
  obtain ⟨u0, n0, L0, D0, rfl, hc0, hn0, hl0⟩ := open_cache (hval 0 41 v0 rfl rfl) h0
  obtain ⟨a1, len1, cap1, rfl⟩ := okWide_slice Try.underlying48 (hval 1 48 v1 rfl rfl)
  have k1 := h1
  have lt1 : ∀ x ∈ p1, x.block < W.heap.size := by obtain ⟨m, hm⟩ := k1; exact DataW.trod_lt m _ _ _ hm
  obtain ⟨z1, w1⟩ : ∃ zs, IsRow .i64 W a1 len1 cap1 zs := by
    obtain ⟨fuel, hf⟩ := h1
    rcases open_ints Try.underlying48 Try.underlying2 (by kernel_rfl) hf with ⟨hcs, _⟩ | ⟨x, l, c, zs, hcs, _, hl, hm, hz, _, hcell, hwz⟩
    · simp [Value.cells] at hcs
      obtain ⟨rfl, rfl, rfl⟩ := hcs
      exact ⟨[], .inl ⟨rfl, rfl, rfl, rfl⟩⟩
    · simp [Value.cells] at hcs
      obtain ⟨rfl, rfl, rfl⟩ := hcs
      exact ⟨zs, .inr ⟨_, rfl, hl, hm, by simpa using hz, hcell, hwz⟩⟩
  clear hA0 hval0
  refine (walk u0 n0 L0 D0 a1 len1 cap1 W hc0 (by unfold maxLen at hn0; omega) (fun c hc => by have := hl0 c hc; unfold maxLen at this; omega) (row_sl w1)).mono fun e W' ⟨he, bel⟩ => ?_
  subst he
  exact ⟨_, rfl, _, _, _, [], _, [], hW', trodAll_mk1 (shut_bool Try.underlying4 _), (trodAll_cons_mk (Below.trod laidOut (by kernel_rfl) (of_decide_eq_true (by kernel_rfl)) k0 bel lt0) (trodAll_cons_mk (Below.trod laidOut (by kernel_rfl) (of_decide_eq_true (by kernel_rfl)) k1 bel lt1) trodAll_mk0)), rfl, bel.frame _, fun h => by cases h⟩

theorem over : Rows.fnExactLookedAllRow.holds Try.pinned (OpenSpec.ofChange Rows.fnExactLookedAllSpec) :=
  OpenClaim.holds_of_wide 11 Try.f11 rfl rfl rfl rfl rfl rfl rfl ⟨rfl, rfl, rfl, rfl, rfl⟩ rfl rfl rfl rfl rfl (by kernel_rfl) Try.func11 (by kernel_rfl)
    (of_decide_eq_true (by kernel_rfl)) (by unfold Func.isWrapper; first | (rw [if_pos (by decide +kernel)]; kernel_rfl) | (rw [if_neg (by decide +kernel)]; exact ⟨rfl, rfl⟩))
    (fun os started H enc _ => lifted os started H enc)

theorem proved : Rows.FnExactLookedAllSaid := over
end Go.Proofs.Ytcbadkljmcpghaa.fnExactLookedAll

namespace Go.Proofs.Ytcbadkljmcpghaa
theorem fnExactLookedAll_holds : Rows.FnExactLookedAllSaid := fnExactLookedAll.proved
end Go.Proofs.Ytcbadkljmcpghaa
