/- a read test marked, its marks found again -/
import Derived.Test.YtfnnjgbodlngdaaDoorRlG
namespace Go.Proofs.YtfnnjgbodlngdaaDoor
open Go.RowKit
set_option linter.unusedVariables false
set_option linter.unusedSimpArgs false

/-- the first len cells of g hold k0, k0 + 1, .. -/
def Vr (w : World) (g len : Nat) (k0 : Int) : Prop := ∀ x, x < len → w.cell? ⟨g, x, none⟩ = some (.int .i64 (k0 + (x : Int)))
theorem Vr.at {w : World} {g len x : Nat} {k0 z : Int} (h : Vr w g len k0) (hx : x < len) (hz : z = k0 + (x : Int)) : w.cell? ⟨g, x, none⟩ = some (.int .i64 z) := by rw [hz]; exact h x hx
theorem Vr.put {w : World} {g x len : Nat} {k0 z : Int} (h : Vr w g x k0) (hw : Wc w g len) (hx : x < len) (hz : z = k0 + (x : Int)) : Vr (w.setCell ⟨g, x, none⟩ (.int .i64 z)) g (x + 1) k0 := by
  intro y hy
  by_cases e : x = y
  · subst e
    obtain ⟨u, hu⟩ := hw.facts.2 x hx
    rw [World.cell?_setCell_same (h := hu), hz]
  · rw [far_set e]; exact h y (by omega)
theorem Vr.chg {S : Nat → Prop} {w w' : World} {g len : Nat} {k0 : Int} (h : Vr w g len k0) (hc : Chg S w w') (hS : ¬ S g) : Vr w' g len k0 := fun x hx => hc.cell hS (h x hx)
theorem Vr.below {w w' : World} {g len : Nat} {k0 : Int} (h : Vr w g len k0) (hb : Below w.heap.size w w') : Vr w' g len k0 := fun x hx => keepc hb (h x hx)

set_option maxHeartbeats 2000000 in
theorem mkv5_any (a : Option Addr) (g n cap : Nat) (k0 : Int) (w : World) (ha : 0 < n → a = some ⟨g, 0, none⟩) (h0 : 0 ≤ k0) (h1 : k0 ≤ 1152921504606846976) (hw : 0 < n → Wc w g (n * 5)) (hl : n ≤ 1048576) :
    Calls Tryd.prog 71 #[.slice a n cap, .int .i64 k0] w fun e w' => e = .returned (.int .i64 (k0 + 5 * n)) ∧ Chg (fun x => 0 < n ∧ x = g) w w' ∧ Vr w' g (n * 5) k0 := by
  go_enter Tryd.func71, Tryd.ntmps71
  go_wp2
  go_loopw [1, 5] (fun t i wr => ∃ j : Nat, j ≤ n ∧ i = .int .i64 j ∧ t = .int .i64 (k0 + 5 * j) ∧ Chg (fun x => 0 < n ∧ x = g) w wr ∧ Hid (Vr wr g (j * 5) k0)) (fun _ i _ => n - (intOf i).toNat)
  case atStart => exact ⟨0, Nat.zero_le _, rfl, by simp, Chg.refl _ _, hide (fun x hx => by omega)⟩
  case round =>
    obtain ⟨j, hj, rfl, rfl, hgj, HV⟩ := hrel
    by_cases hlt : j < n
    · have hn0 : 0 < n := by omega
      obtain rfl := ha hn0
      have HW := hide (hgj.keep _ _ (hw hn0))
      obtain ⟨fr, hc⟩ := HW.out.facts
      obtain ⟨o0, r0⟩ := hc (j * 5) (by omega)
      obtain ⟨o1, r1⟩ := hc (j * 5 + 1) (by omega)
      obtain ⟨o2, r2⟩ := hc (j * 5 + 2) (by omega)
      obtain ⟨o3, r3⟩ := hc (j * 5 + 3) (by omega)
      obtain ⟨o4, r4⟩ := hc (j * 5 + 4) (by omega)
      have HB := hide hgj
      have HP : Hid (Vr (((((wr.setCell ⟨g, j * 5, none⟩ (.int .i64 (k0 + 5 * j))).setCell ⟨g, j * 5 + 1, none⟩ (.int .i64 (k0 + 5 * j + 1))).setCell ⟨g, j * 5 + 2, none⟩ (.int .i64 (k0 + 5 * j + 1 + 1))).setCell ⟨g, j * 5 + 3, none⟩ (.int .i64 (k0 + 5 * j + 1 + 1 + 1))).setCell ⟨g, j * 5 + 4, none⟩ (.int .i64 (k0 + 5 * j + 1 + 1 + 1 + 1))) g ((j + 1) * 5) k0) := by
        have e : (j + 1) * 5 = j * 5 + 4 + 1 := by omega
        rw [e]
        exact hide (((((HV.out.put HW.out (by omega) (by omega)).put (x := j * 5 + 1) (HW.out.set _) (by omega) (by omega)).put (x := j * 5 + 2) ((HW.out.set _).set _) (by omega) (by omega)).put (x := j * 5 + 3) (((HW.out.set _).set _).set _) (by omega) (by omega)).put (x := j * 5 + 4) ((((HW.out.set _).set _).set _).set _) (by omega) (by omega))
      clear hgj hc hw HV HW ha
      go_wp2
      go_roundw
      case rel => exact ⟨j + 1, by omega, by go_num, by go_num, ((((HB.out.set ⟨hn0, rfl⟩ _).set ⟨hn0, rfl⟩ _).set ⟨hn0, rfl⟩ _).set ⟨hn0, rfl⟩ _).set ⟨hn0, rfl⟩ _, HP⟩
      case measure => simp [intOf]; omega
    · have e : j = n := by omega
      subst e
      go_wp2
      go_ret
      exact ⟨rfl, hgj, HV.out⟩

set_option maxHeartbeats 2000000 in
theorem held5_any (a : Option Addr) (g n cap : Nat) (k0 : Int) (w : World) (ha : 0 < n → a = some ⟨g, 0, none⟩) (h0 : 0 ≤ k0) (h1 : k0 ≤ 1152921504606846976) (hv : Vr w g (n * 5) k0) (hl : n ≤ 1048576) :
    Calls Tryd.prog 72 #[.slice a n cap, .int .i64 k0] w fun e w' => e = .returned (.int .i64 (k0 + 5 * n)) ∧ w' = w := by
  go_enter Tryd.func72, Tryd.ntmps72
  go_wp2
  go_loopw [1, 5] (fun t i wr => ∃ j : Nat, j ≤ n ∧ i = .int .i64 j ∧ t = .int .i64 (k0 + 5 * j) ∧ wr = w) (fun _ i _ => n - (intOf i).toNat)
  case atStart => exact ⟨0, Nat.zero_le _, rfl, by simp, rfl⟩
  case round =>
    obtain ⟨j, hj, rfl, rfl, rfl⟩ := hrel
    by_cases hlt : j < n
    · obtain rfl := ha (by omega)
      have x0 := hv.at (x := j * 5) (z := k0 + 5 * j) (by omega) (by omega)
      have x1 := hv.at (x := j * 5 + 1) (z := k0 + 5 * j + 1) (by omega) (by omega)
      have x2 := hv.at (x := j * 5 + 2) (z := k0 + 5 * j + 1 + 1) (by omega) (by omega)
      have x3 := hv.at (x := j * 5 + 3) (z := k0 + 5 * j + 1 + 1 + 1) (by omega) (by omega)
      have x4 := hv.at (x := j * 5 + 4) (z := k0 + 5 * j + 1 + 1 + 1 + 1) (by omega) (by omega)
      clear hv ha
      go_wp2
      go_roundw
      case rel => exact ⟨j + 1, by omega, by go_num, by go_num, by first | rfl | trivial⟩
      case measure => simp [intOf]; omega
    · have e : j = n := by omega
      subst e
      go_wp2
      go_ret
      exact ⟨rfl, rfl⟩

def ks (L : Nat → Nat) : Nat → Int
  | 0 => 1
  | c + 1 => ks L c + 5 * L c
theorem ks_bound {L : Nat → Nat} {C : Nat} (h : ∀ c, c < C → L c ≤ 3) : ∀ c, c ≤ C → 1 ≤ ks L c ∧ ks L c ≤ 1 + 15 * c
  | 0, _ => ⟨Int.le_refl _, by simp [ks]⟩
  | c + 1, hc => by
    have h1 := ks_bound h c (by omega)
    have h2 := h c (by omega)
    have e : ks L (c + 1) = ks L c + 5 * L c := rfl
    rw [e]
    omega
/-- rows of acts, each in a block of its own -/
structure RwT (w : World) (v : Value) (C : Nat) (L : Nat → Nat) (vs : Nat → Value) (ib : Nat → Nat) : Prop where
  out : ∃ ad cap, v = .slice ad C cap ∧ (0 < C → ∃ g, ad = some ⟨g, 0, none⟩ ∧ ∀ c, c < C → w.cell? ⟨g, c, none⟩ = some (vs c) ∧ (0 < L c → ib c ≠ g))
  row : ∀ c, c < C → ∃ a cap, vs c = .slice a (L c) cap ∧ (0 < L c → a = some ⟨ib c, 0, none⟩)
theorem RwT.below {w w' : World} {v : Value} {C : Nat} {L : Nat → Nat} {vs : Nat → Value} {ib : Nat → Nat} (h : RwT w v C L vs ib) (hb : Below w.heap.size w w') : RwT w' v C L vs ib := by
  refine ⟨?_, h.row⟩
  obtain ⟨ad, cap, e, hc⟩ := h.out
  refine ⟨ad, cap, e, fun hp => ?_⟩
  obtain ⟨g, e2, hd⟩ := hc hp
  exact ⟨g, e2, fun c hcc => ⟨keepc hb (hd c hcc).1, (hd c hcc).2⟩⟩
/-- what may be written -/
structure WrT (w : World) (C : Nat) (L : Nat → Nat) (ib : Nat → Nat) : Prop where
  wc : ∀ c, c < C → 0 < L c → Wc w (ib c) (L c * 5)
  inj : ∀ c c', c < C → c' < C → 0 < L c → 0 < L c' → ib c = ib c' → c = c'
theorem WrT.below {w w' : World} {C : Nat} {L ib : Nat → Nat} (h : WrT w C L ib) (hb : Below w.heap.size w w') : WrT w' C L ib := ⟨fun c hc hl => (h.wc c hc hl).below hb, h.inj⟩
def Inb (C : Nat) (L ib : Nat → Nat) (x : Nat) : Prop := ∃ c, c < C ∧ 0 < L c ∧ x = ib c
def ibk (vs : Nat → Value) (c : Nat) : Nat := (vs c).ownBlock.getD 0
theorem OwT.parts {w : World} {base : Nat} {v : Value} {ts : List (List Ac)} {vs : Nat → Value} (h : OwT w base v ts vs) : RwT w v ts.length (Lf ts) vs (ibk vs) ∧ WrT w ts.length (Lf ts) (ibk vs) ∧ ∀ x, Inb ts.length (Lf ts) (ibk vs) x → base ≤ x := by
  have hf : ∀ c, c < ts.length → ∃ a cap, vs c = .slice a (Lf ts c) cap ∧ (0 < Lf ts c → a = some ⟨ibk vs c, 0, none⟩ ∧ (vs c).ownBlock = some (ibk vs c) ∧ Wc w (ibk vs c) (Lf ts c * 5)) := by
    intro c hc
    rcases (h.own c hc).2 with ⟨h', hn⟩ | ⟨g, cap, cur, h', hb, hg, hnc, hcm, hcs, htake⟩
    · exact ⟨none, 0, by rw [h']; unfold Lf; rw [hn], fun hp => by unfold Lf at hp; omega⟩
    · have e : ibk vs c = g := by unfold ibk; rw [h']; rfl
      refine ⟨_, cap, h', fun _ => ⟨by rw [e], by rw [h', e]; rfl, cur, _, by rw [e]; exact hg, ?_⟩⟩
      rw [hcs]
      exact Nat.mul_le_mul_right _ hnc
  refine ⟨⟨?_, fun c hc => ?_⟩, ⟨fun c hc hl => ?_, fun c c' hc hc' hl hl' e => ?_⟩, fun x hx => ?_⟩
  · rcases h.row.2 with ⟨h', hn⟩ | ⟨g, cap, cur, h', hb, hg, hnc, hcm, hcs, htake⟩
    · exact ⟨none, 0, by rw [hn]; exact h', fun hp => by omega⟩
    · have hh : w.ownsRow base 52 1 (.slice (some ⟨g, 0, none⟩) ts.length cap) ts.length ((List.range ts.length).map vs) := h' ▸ h.row
      refine ⟨_, cap, h', fun _ => ⟨g, rfl, fun c hc => ⟨?_, fun hl e => ?_⟩⟩⟩
      · rw [hh.cellAt c (by omega), range_at hc]
      · obtain ⟨a, cap2, _, hq⟩ := hf c hc
        exact h.ap c hc (ibk vs c) (hq hl).2.1 (by rw [h', e]; rfl)
  · obtain ⟨a, cap, e, hq⟩ := hf c hc
    exact ⟨a, cap, e, fun hl => (hq hl).1⟩
  · obtain ⟨a, cap, e, hq⟩ := hf c hc
    exact (hq hl).2.2
  · obtain ⟨_, _, _, hq⟩ := hf c hc
    obtain ⟨_, _, _, hq'⟩ := hf c' hc'
    have b1 := (hq hl).2.1
    have b2 := (hq' hl').2.1
    rcases Nat.lt_trichotomy c c' with hlt | hlt | hlt
    · exact absurd (by rw [b1, e]) (h.inj c' c hc' hlt _ b2)
    · exact hlt
    · exact absurd (by rw [b2, e]) (h.inj c c' hc hlt _ b1)
  · obtain ⟨c, hc, hl, rfl⟩ := hx
    obtain ⟨_, _, _, hq⟩ := hf c hc
    exact (World.ownsRow.lt (h.own c hc) _ (hq hl).2.1).1

set_option maxHeartbeats 2000000 in
theorem markSS_v (v : Value) (C : Nat) (L ib : Nat → Nat) (vs : Nat → Value) (w : World) (hR : RwT w v C L vs ib) (hW : WrT w C L ib) (hC : C ≤ 2) (hL : ∀ c, c < C → L c ≤ 3) :
    Calls Tryd.prog 45 #[v, .int .i64 1] w fun e w' => e = .returned (.int .i64 (ks L C)) ∧ Chg (Inb C L ib) w w' ∧ (∀ c, c < C → Vr w' (ib c) (L c * 5) (ks L c)) ∧ RwT w' v C L vs ib := by
  obtain ⟨⟨ad, cap, rfl, ho⟩, hrow⟩ := hR
  go_enter Tryd.func45, Tryd.ntmps45
  go_wp2
  go_loopw [1, 5] (fun t i wr => ∃ j : Nat, j ≤ C ∧ i = .int .i64 j ∧ t = .int .i64 (ks L j) ∧ Hid (Chg (Inb C L ib) w wr) ∧ Hid (∀ c, c < j → Vr wr (ib c) (L c * 5) (ks L c))) (fun _ i _ => C - (intOf i).toNat)
  case atStart => exact ⟨0, Nat.zero_le _, rfl, rfl, hide (Chg.refl _ _), hide (fun c hc => by omega)⟩
  case round =>
    obtain ⟨j, hj, rfl, rfl, HG, HV⟩ := hrel
    by_cases hlt : j < C
    · obtain ⟨g, rfl, hd⟩ := ho (by omega)
      obtain ⟨a, cp, ev, ha⟩ := hrow j hlt
      have hc := HG.out.cell (fun ⟨c, hc, hl, e⟩ => (hd c hc).2 hl e.symm) (hd j hlt).1
      rw [ev] at hc
      have HWj : Hid (0 < L j → Wc wr (ib j) (L j * 5)) := hide (fun hl => HG.out.keep _ _ (hW.wc j hlt hl))
      have hkb := ks_bound hL j hj
      have hLj := hL j hlt
      have HK : Hid (ks L (j + 1) = ks L j + 5 * L j) := hide rfl
      have HV' : Hid (∀ w2, Chg (fun x => 0 < L j ∧ x = ib j) wr w2 → Vr w2 (ib j) (L j * 5) (ks L j) → ∀ c, c < j + 1 → Vr w2 (ib c) (L c * 5) (ks L c)) := hide (fun w2 hg hv c hcj => by
        by_cases e : c = j
        · subst e; exact hv
        · by_cases hl : 0 < L c
          · exact (HV.out c (by omega)).chg hg (fun h => e (hW.inj c j (by omega) hlt hl h.1 h.2))
          · intro x hx
            omega)
      have HIN : Hid (∀ x, 0 < L j ∧ x = ib j → Inb C L ib x) := hide (fun x hx => ⟨j, hlt, hx.1, hx.2⟩)
      clear HV hd
      generalize ks L j = kk at hkb HK HV' ⊢
      generalize L j = nj at ha hc HWj hLj HK HV' HIN ev
      go_wp2_with fail
      refine (mkv5_any a (ib j) nj cp kk _ ha (by omega) (by omega) HWj.out (by omega)).mono ?_
      rintro e w2 ⟨rfl, hg2, hv2⟩
      have HG2 := hide (HG.out.trans (hg2.mono HIN.out))
      have HX := hide (HV'.out w2 hg2 hv2)
      clear hg2 hv2 hc HV' HG HWj ha ev
      go_wp2
      go_roundw
      case rel => exact ⟨j + 1, by omega, by go_num, by rw [HK.out], HG2, HX⟩
      case measure => simp [intOf]; omega
    · have e : j = C := by omega
      subst e
      have HO : Hid (RwT wr (.slice ad j cap) j L vs ib) := hide ⟨⟨ad, cap, rfl, fun hp => by
        obtain ⟨g, e2, hd⟩ := ho hp
        exact ⟨g, e2, fun c hcc => ⟨HG.out.cell (fun ⟨c', hc', hl, e⟩ => (hd c' hc').2 hl e.symm) (hd c hcc).1, (hd c hcc).2⟩⟩⟩, hrow⟩
      clear ho hrow
      go_wp2
      go_ret
      exact ⟨rfl, HG.out, HV.out, HO.out⟩

set_option maxHeartbeats 2000000 in
theorem heldSS_v (v : Value) (C : Nat) (L ib : Nat → Nat) (vs : Nat → Value) (w : World) (hR : RwT w v C L vs ib) (hV : ∀ c, c < C → Vr w (ib c) (L c * 5) (ks L c)) (hC : C ≤ 2) (hL : ∀ c, c < C → L c ≤ 3) :
    Calls Tryd.prog 46 #[v, .int .i64 1] w fun e w' => e = .returned (.int .i64 (ks L C)) ∧ w' = w := by
  obtain ⟨⟨ad, cap, rfl, ho⟩, hrow⟩ := hR
  go_enter Tryd.func46, Tryd.ntmps46
  go_wp2
  go_loopw [1, 5] (fun t i wr => ∃ j : Nat, j ≤ C ∧ i = .int .i64 j ∧ t = .int .i64 (ks L j) ∧ wr = w) (fun _ i _ => C - (intOf i).toNat)
  case atStart => exact ⟨0, Nat.zero_le _, rfl, rfl, rfl⟩
  case round =>
    obtain ⟨j, hj, rfl, rfl, rfl⟩ := hrel
    by_cases hlt : j < C
    · obtain ⟨g, rfl, hd⟩ := ho (by omega)
      obtain ⟨a, cp, ev, ha⟩ := hrow j hlt
      have hc := (hd j hlt).1
      rw [ev] at hc
      have hv := hV j hlt
      have hkb := ks_bound hL j hj
      have hLj := hL j hlt
      have HK : Hid (ks L (j + 1) = ks L j + 5 * L j) := hide rfl
      have hneg : decide (ks L j + 5 * (L j : Int) < 0) = false := by simp; omega
      clear hd ho hrow
      generalize ks L j = kk at hkb HK hv hneg ⊢
      generalize L j = nj at ha hc hLj HK hv hneg ev
      go_wp2_with fail
      refine (held5_any a (ib j) nj cp kk _ ha (by omega) (by omega) hv (by omega)).mono ?_
      rintro e w2 ⟨rfl, rfl⟩
      clear hc hv ha ev hV
      go_wp2
      go_roundw
      case rel => exact ⟨j + 1, by omega, by go_num, by rw [HK.out], by first | rfl | trivial⟩
      case measure => simp [intOf]; omega
    · have e : j = C := by omega
      subst e
      clear ho hrow
      go_wp2
      go_ret
      exact ⟨rfl, rfl⟩

set_option maxHeartbeats 1000000 in
theorem markLit_v (v : Value) (C : Nat) (L ib : Nat → Nat) (vs : Nat → Value) (w : World) (hR : RwT w v C L vs ib) (hW : WrT w C L ib) (hC : C ≤ 2) (hL : ∀ c, c < C → L c ≤ 3) :
    Calls Tryd.prog 18 #[.agg #[v], .int .i64 1] w fun e w' => e = .returned (.int .i64 (ks L C)) ∧ Chg (Inb C L ib) w w' ∧ (∀ c, c < C → Vr w' (ib c) (L c * 5) (ks L c)) ∧ RwT w' v C L vs ib := by
  have hA : Below w.heap.size w (w.alloc (.cells #[v] 29)) := (Below.refl _ _).alloc (Nat.le_refl _) _
  have x0 : (w.alloc (.cells #[v] 29)).cell? ⟨w.heap.size, 0, none⟩ = some v := (cell_of_row _ _ 0 _ _ _ (heap_alloc_new _ _)).trans rfl
  have HC : Hid (Chg (Inb C L ib) w (w.alloc (.cells #[v] 29))) := hide ((Chg.refl _ _).alloc _)
  have HR := hide (hR.below hA)
  have HW := hide (hW.below hA)
  obtain ⟨⟨ad, cap, rfl, _⟩, _⟩ := hR
  clear hA hW
  go_enter Tryd.func18, Tryd.ntmps18
  go_wp2_with fail
  refine (markSS_v _ C L ib vs _ HR.out HW.out hC hL).mono ?_
  rintro e w2 ⟨rfl, hc2, hv2, hr2⟩
  have HC2 := hide (And.intro (HC.out.trans hc2) (And.intro hv2 hr2))
  clear hc2 hv2 hr2 x0 HC HW HR
  go_wp2
  go_ret
  exact ⟨rfl, HC2.out.1, HC2.out.2.1, HC2.out.2.2⟩

set_option maxHeartbeats 1000000 in
theorem heldLit_v (v : Value) (C : Nat) (L ib : Nat → Nat) (vs : Nat → Value) (w : World) (hR : RwT w v C L vs ib) (hV : ∀ c, c < C → Vr w (ib c) (L c * 5) (ks L c)) (hC : C ≤ 2) (hL : ∀ c, c < C → L c ≤ 3) :
    Calls Tryd.prog 19 #[.agg #[v], .int .i64 1] w fun e w' => e = .returned (.int .i64 (ks L C)) ∧ Below w.heap.size w w' := by
  have hA : Below w.heap.size w (w.alloc (.cells #[v] 29)) := (Below.refl _ _).alloc (Nat.le_refl _) _
  have x0 : (w.alloc (.cells #[v] 29)).cell? ⟨w.heap.size, 0, none⟩ = some v := (cell_of_row _ _ 0 _ _ _ (heap_alloc_new _ _)).trans rfl
  have HR := hide (hR.below hA)
  have HV : Hid (∀ c, c < C → Vr (w.alloc (.cells #[v] 29)) (ib c) (L c * 5) (ks L c)) := hide (fun c hc => (hV c hc).below hA)
  have HA := hide hA
  have hkb := ks_bound hL C (Nat.le_refl _)
  obtain ⟨⟨ad, cap, rfl, _⟩, _⟩ := hR
  clear hA hV
  go_enter Tryd.func19, Tryd.ntmps19
  go_wp2_with fail
  refine (heldSS_v _ C L ib vs _ HR.out HV.out hC hL).mono ?_
  rintro e w2 ⟨rfl, hw2⟩
  have HB : Hid (Below w.heap.size w w2) := hide (by rw [hw2]; exact HA.out)
  have hneg : decide (ks L C < 0) = false := by simp; omega
  obtain ⟨kk, hkk⟩ : ∃ kk, ks L C = kk := ⟨_, rfl⟩
  have HKK := hide hkk
  rw [hkk] at hneg hkb ⊢
  clear hw2 x0 HV HR HA hkk
  go_wp2
  go_ret
  exact ⟨by rw [HKK.out]; rfl, HB.out⟩

/-- a reader's answer, whatever it is -/
theorem rl_all {r : Option (List (List Ac))} {w w' : World} {e : Ending} (h : RlPost r w e w') : ∃ v vs, e = .returned (.tuple #[.agg #[v], .bool r.isSome]) ∧ OwT w' w.heap.size v (r.getD []) vs ∧ Below w.heap.size w w' := by
  obtain ⟨hb, ⟨rfl, rfl⟩ | ⟨ts, v, vs, rfl, rfl, ho⟩⟩ := h
  · exact ⟨_, _, rfl, OwT.nil _ _, hb⟩
  · exact ⟨v, vs, rfl, ho, hb⟩
theorem rl_small (s : By) : ((rlI s).getD []).length ≤ 2 ∧ ∀ c, c < ((rlI s).getD []).length → Lf ((rlI s).getD []) c ≤ 3 := by
  cases h : rlI s with
  | none => exact ⟨by simp, fun c hc => by simp at hc⟩
  | some ts =>
    have hr := rt_of (rl_some.1 h).1
    refine ⟨hr.1.2, fun c hc => ?_⟩
    have hc' : c < ts.length := hc
    have e : ts[c]? = some (ts.getD c []) := by simp [List.getElem?_eq_getElem hc']
    exact (hr.2 c _ e).1

end Go.Proofs.YtfnnjgbodlngdaaDoor
