/- the marks of a cache, and what is read of them -/
import Derived.Test.YtcbadkljmcpghaaCaV
namespace Go.Proofs.Ytcbadkljmcpghaa
open Go.RowKit
set_option linter.unusedVariables false
set_option linter.unusedSimpArgs false

/-- n ways marked from k0 on -/
def Vw (w : World) (g n : Nat) (k0 : Int) : Prop := ∀ j : Nat, j < n → w.cell? ⟨g, j * 2, none⟩ = some (.bool ((k0 + 2 * (j : Int)) % 3 == 0)) ∧ w.cell? ⟨g, j * 2 + 1, none⟩ = some (.int .i64 (k0 + 2 * (j : Int) + 1))
theorem Vw.chg {S : Nat → Prop} {w w' : World} {g n : Nat} {k0 : Int} (h : Vw w g n k0) (hc : Chg S w w') (hS : ¬ S g) : Vw w' g n k0 := fun j hj => ⟨hc.cell hS (h j hj).1, hc.cell hS (h j hj).2⟩
theorem Vw.below {w w' : World} {g n : Nat} {k0 : Int} (h : Vw w g n k0) (hb : Below w.heap.size w w') : Vw w' g n k0 := fun j hj => ⟨keepc hb (h j hj).1, keepc hb (h j hj).2⟩
theorem Vw.put {w : World} {g n len : Nat} {k0 : Int} (h : Vw w g n k0) (hw : Wc w g len) (hn : n * 2 + 1 < len) : Vw ((w.setCell ⟨g, n * 2, none⟩ (.bool ((k0 + 2 * (n : Int)) % 3 == 0))).setCell ⟨g, n * 2 + 1, none⟩ (.int .i64 (k0 + 2 * (n : Int) + 1))) g (n + 1) k0 := by
  intro j hj
  by_cases e : j = n
  · subst e
    refine ⟨?_, ?_⟩
    · obtain ⟨u, hu⟩ := hw.facts.2 (j * 2) (by omega)
      rw [far_set (by omega), World.cell?_setCell_same (h := hu)]
    · obtain ⟨u, hu⟩ := (hw.set (B := g) (i := j * 2) (.bool ((k0 + 2 * (j : Int)) % 3 == 0))).facts.2 (j * 2 + 1) (by omega)
      rw [World.cell?_setCell_same (h := hu)]
  · rw [far_set (by omega), far_set (by omega), far_set (by omega), far_set (by omega)]
    exact h j (by omega)

set_option maxHeartbeats 2000000 in
theorem markWayS_any (g n cap : Nat) (k0 : Int) (w : World) (h0 : 0 ≤ k0) (h1 : k0 ≤ 1152921504606846976) (hw : Wc w g (n * 2)) (hl : n ≤ 1048576) :
    Calls Try.prog 72 #[.slice (some ⟨g, 0, none⟩) n cap, .int .i64 k0] w fun e w' => e = .returned (.int .i64 (k0 + 2 * n)) ∧ Chg (· = g) w w' ∧ Vw w' g n k0 := by
  go_enter Try.func72, Try.ntmps72
  go_wp2
  go_loopw [1, 5] (fun t i wr => ∃ j : Nat, j ≤ n ∧ i = .int .i64 j ∧ t = .int .i64 (k0 + 2 * j) ∧ Chg (· = g) w wr ∧ Hid (Vw wr g j k0)) (fun _ i _ => n - (intOf i).toNat)
  case atStart => exact ⟨0, Nat.zero_le _, rfl, by simp, Chg.refl _ _, hide (fun x hx => by omega)⟩
  case round =>
    obtain ⟨j, hj, rfl, rfl, hgj, HV⟩ := hrel
    by_cases hlt : j < n
    · have HW := hide (hgj.keep _ _ hw)
      obtain ⟨fr, hc⟩ := HW.out.facts
      obtain ⟨o0, r0⟩ := hc (j * 2) (by omega)
      obtain ⟨o1, r1⟩ := hc (j * 2 + 1) (by omega)
      have HB := hide hgj
      have HP := hide (HV.out.put HW.out (by omega))
      clear hgj hc hw HV HW
      go_wp2
      go_roundw
      case rel => exact ⟨j + 1, by omega, by go_num, by go_num, (HB.out.set rfl _).set rfl _, HP⟩
      case measure => simp [intOf]; omega
    · have e : j = n := by omega
      subst e
      go_wp2
      go_ret
      exact ⟨rfl, hgj, HV.out⟩

set_option maxHeartbeats 2000000 in
theorem heldWayS_any (g n cap : Nat) (k0 : Int) (w : World) (h0 : 0 ≤ k0) (h1 : k0 ≤ 1152921504606846976) (hv : Vw w g n k0) (hl : n ≤ 1048576) :
    Calls Try.prog 73 #[.slice (some ⟨g, 0, none⟩) n cap, .int .i64 k0] w fun e w' => e = .returned (.int .i64 (k0 + 2 * n)) ∧ w' = w := by
  go_enter Try.func73, Try.ntmps73
  go_wp2
  go_loopw [1, 5] (fun t i wr => ∃ j : Nat, j ≤ n ∧ i = .int .i64 j ∧ t = .int .i64 (k0 + 2 * j) ∧ wr = w) (fun _ i _ => n - (intOf i).toNat)
  case atStart => exact ⟨0, Nat.zero_le _, rfl, by simp, rfl⟩
  case round =>
    obtain ⟨j, hj, rfl, rfl, rfl⟩ := hrel
    by_cases hlt : j < n
    · obtain ⟨x0, x1⟩ := hv j hlt
      clear hv
      cases hb : ((k0 + 2 * (j : Int)) % 3 == 0)
      all_goals rw [hb] at x0
      all_goals go_wp2
      all_goals go_roundw
      case rel => exact ⟨j + 1, by omega, by go_num, by go_num, by first | rfl | trivial⟩
      case measure => simp [intOf]; omega
      case rel => exact ⟨j + 1, by omega, by go_num, by go_num, by first | rfl | trivial⟩
      case measure => simp [intOf]; omega
    · have e : j = n := by omega
      subst e
      go_wp2
      go_ret
      exact ⟨rfl, rfl⟩

def kc (k0 : Int) (L : Nat → Nat) : Nat → Int
  | 0 => k0
  | c + 1 => kc k0 L c + 1 + 2 * (L c : Int)
theorem kc_bound (k0 : Int) (L : Nat → Nat) (n : Nat) (hL : ∀ c, c < n → L c ≤ 1048576) : ∀ c, c ≤ n → k0 ≤ kc k0 L c ∧ kc k0 L c ≤ k0 + 2097153 * c
  | 0, _ => ⟨Int.le_refl _, by simp [kc]⟩
  | c + 1, h => by
    have h1 := kc_bound k0 L n hL c (by omega)
    have h2 := hL c (by omega)
    have e : kc k0 L (c + 1) = kc k0 L c + 1 + 2 * (L c : Int) := rfl
    rw [e]
    omega

/-- a cache as its marks lie: sets in G, rows in ib -/
structure MV (w : World) (G n : Nat) (L : Nat → Nat) (ib : Nat → Nat) (k0 : Int) : Prop where
  bits : ∀ c, c < n → w.cell? ⟨G, c * 2, none⟩ = some (.int .i64 (kc k0 L c))
  rows : ∀ c, c < n → ∃ ic, w.cell? ⟨G, c * 2 + 1, none⟩ = some (.slice (some ⟨ib c, 0, none⟩) (L c) ic)
  ways : ∀ c, c < n → Vw w (ib c) (L c) (kc k0 L c + 1)
theorem MV.below {w w' : World} {G n : Nat} {L ib : Nat → Nat} {k0 : Int} (h : MV w G n L ib k0) (hb : Below w.heap.size w w') : MV w' G n L ib k0 :=
  ⟨fun c hc => keepc hb (h.bits c hc), fun c hc => by obtain ⟨ic, x⟩ := h.rows c hc; exact ⟨ic, keepc hb x⟩, fun c hc => (h.ways c hc).below hb⟩

abbrev SC (n G : Nat) (ib : Nat → Nat) : Nat → Prop := fun x => x = G ∨ ∃ c, c < n ∧ x = ib c

set_option maxHeartbeats 4000000 in
theorem markCSetS_any (v : Value) (B n : Nat) (L : Nat → Nat) (D : Nat → Sm) (G : Nat) (ib : Nat → Nat) (k0 : Int) (w : World) (h0 : 0 ≤ k0) (h1 : k0 ≤ 1000) (hc : Cg w B v n L D G ib) (hn : n ≤ 1048576) (hL : ∀ c, c < n → L c ≤ 1048576) :
    Calls Try.prog 54 #[v, .int .i64 k0] w fun e w' => e = .returned (.int .i64 (kc k0 L n)) ∧ Chg (SC n G ib) w w' ∧ MV w' G n L ib k0 := by
  obtain ⟨cap, rfl⟩ := hc.val
  have HC := hide hc
  clear hc
  go_enter Try.func54, Try.ntmps54
  go_wp2
  go_loopw [1, 5] (fun t i wr => ∃ j : Nat, j ≤ n ∧ i = .int .i64 j ∧ t = .int .i64 (kc k0 L j) ∧ Hid (Chg (SC n G ib) w wr) ∧ Hid ((∀ c, c < n → ∃ ic, wr.cell? ⟨G, c * 2 + 1, none⟩ = some (.slice (some ⟨ib c, 0, none⟩) (L c) ic)) ∧ (∀ c, c < j → wr.cell? ⟨G, c * 2, none⟩ = some (.int .i64 (kc k0 L c)) ∧ Vw wr (ib c) (L c) (kc k0 L c + 1)))) (fun _ i _ => n - (intOf i).toNat)
  case atStart => exact ⟨0, Nat.zero_le _, rfl, rfl, hide (Chg.refl _ _), hide ⟨fun c hc => (HC.out.at_ c hc).2, fun c hc => by omega⟩⟩
  case round =>
    obtain ⟨j, hj, rfl, rfl, HG, HV⟩ := hrel
    by_cases hlt : j < n
    · obtain ⟨ic, hs0⟩ := HV.out.1 j hlt
      have HWG := hide (HG.out.keep _ _ HC.out.wcG)
      obtain ⟨fr, hcel⟩ := HWG.out.facts
      obtain ⟨o0, r0⟩ := hcel (j * 2) (by omega)
      have hkb := kc_bound k0 L n hL j (by omega)
      have HK : Hid (kc k0 L (j + 1) = kc k0 L j + 1 + 2 * (L j : Int)) := hide rfl
      have hLj := hL j hlt
      obtain ⟨W1, hW1⟩ : ∃ W1, wr.setCell ⟨G, j * 2, none⟩ (.int .i64 (kc k0 L j)) = W1 := ⟨_, rfl⟩
      have hg1 : Chg (SC n G ib) w W1 := by rw [← hW1]; exact HG.out.set (.inl rfl) _
      have hs1 : W1.cell? ⟨G, j * 2 + 1, none⟩ = some (.slice (some ⟨ib j, 0, none⟩) (L j) ic) := by rw [← hW1, far_set (by omega)]; exact hs0
      have hb1 : W1.cell? ⟨G, j * 2, none⟩ = some (.int .i64 (kc k0 L j)) := by rw [← hW1, World.cell?_setCell_same (h := r0)]
      have hrest : (∀ c, c < n → ∃ ic, W1.cell? ⟨G, c * 2 + 1, none⟩ = some (.slice (some ⟨ib c, 0, none⟩) (L c) ic)) ∧ (∀ c, c < j → W1.cell? ⟨G, c * 2, none⟩ = some (.int .i64 (kc k0 L c)) ∧ Vw W1 (ib c) (L c) (kc k0 L c + 1)) := by
        rw [← hW1]
        refine ⟨fun c hc => ?_, fun c hc => ⟨?_, fun x hx => ?_⟩⟩
        · obtain ⟨ic, h⟩ := HV.out.1 c hc; exact ⟨ic, by rw [far_set (by omega)]; exact h⟩
        · rw [far_set (by omega)]; exact (HV.out.2 c hc).1
        · have hne : G ≠ ib c := fun e => HC.out.ne c (by omega) e.symm
          rw [other_set hne, other_set hne]; exact (HV.out.2 c hc).2 x hx
      have hwI := hg1.keep _ _ (HC.out.wcI j hlt)
      have HR := hide (And.intro hg1 (And.intro hb1 hrest))
      clear hg1 hb1 hrest hcel HWG HG HV
      generalize hkk : kc k0 L j = kk at *
      have HKK := hide hkk
      clear hkk
      go_wp2_with fail
      refine (markWayS_any (ib j) (L j) ic (kk + 1) _ (by omega) (by omega) hwI hLj).mono ?_
      rintro e w2 ⟨rfl, hg2, hv2⟩
      have hG2 : ¬ (fun x => x = ib j) G := fun e => HC.out.ne j hlt e.symm
      have HX : Hid (Chg (SC n G ib) w w2 ∧ (∀ c, c < n → ∃ ic, w2.cell? ⟨G, c * 2 + 1, none⟩ = some (.slice (some ⟨ib c, 0, none⟩) (L c) ic)) ∧ (∀ c, c < j + 1 → w2.cell? ⟨G, c * 2, none⟩ = some (.int .i64 (kc k0 L c)) ∧ Vw w2 (ib c) (L c) (kc k0 L c + 1))) := hide (by
        refine ⟨HR.out.1.trans (hg2.mono (fun x hx => .inr ⟨j, hlt, hx⟩)), fun c hc => ?_, fun c hc => ?_⟩
        · obtain ⟨ic, h⟩ := HR.out.2.2.1 c hc; exact ⟨ic, hg2.cell hG2 h⟩
        · by_cases e : c = j
          · subst e; rw [HKK.out]; exact ⟨hg2.cell hG2 HR.out.2.1, hv2⟩
          · exact ⟨hg2.cell hG2 (HR.out.2.2.2 c (by omega)).1, ((HR.out.2.2.2 c (by omega)).2).chg hg2 (fun h => e (HC.out.inj c j (by omega) hlt h))⟩)
      clear hg2 hv2 hwI
      go_wp2
      go_roundw
      case rel => exact ⟨j + 1, by omega, by go_num, by rw [HK.out], hide HX.out.1, hide HX.out.2⟩
      case measure => simp [intOf]; omega
    · have e : j = n := by omega
      subst e
      go_wp2
      go_ret
      exact ⟨rfl, HG.out, fun c hc => (HV.out.2 c hc).1, HV.out.1, fun c hc => (HV.out.2 c hc).2⟩

set_option maxHeartbeats 2000000 in
theorem heldCSetS_any (n cap : Nat) (L : Nat → Nat) (G : Nat) (ib : Nat → Nat) (k0 : Int) (w : World) (h0 : 0 ≤ k0) (h1 : k0 ≤ 1000) (hm : MV w G n L ib k0) (hn : n ≤ 1048576) (hL : ∀ c, c < n → L c ≤ 1048576) :
    Calls Try.prog 55 #[.slice (some ⟨G, 0, none⟩) n cap, .int .i64 k0] w fun e w' => e = .returned (.int .i64 (kc k0 L n)) ∧ w' = w := by
  go_enter Try.func55, Try.ntmps55
  go_wp2
  go_loopw [1, 5] (fun t i wr => ∃ j : Nat, j ≤ n ∧ i = .int .i64 j ∧ t = .int .i64 (kc k0 L j) ∧ wr = w) (fun _ i _ => n - (intOf i).toNat)
  case atStart => exact ⟨0, Nat.zero_le _, rfl, rfl, rfl⟩
  case round =>
    obtain ⟨j, hj, rfl, rfl, rfl⟩ := hrel
    by_cases hlt : j < n
    · have b0 := hm.bits j hlt
      obtain ⟨ic, r0⟩ := hm.rows j hlt
      have v0 := hm.ways j hlt
      have hkb := kc_bound k0 L n hL j (by omega)
      have HK : Hid (kc k0 L (j + 1) = kc k0 L j + 1 + 2 * (L j : Int)) := hide rfl
      have hLj := hL j hlt
      clear hm
      generalize kc k0 L j = kk at *
      have hneg : decide (kk + 1 + 2 * (L j : Int) < 0) = false := by simp; omega
      go_wp2_with fail
      refine (heldWayS_any (ib j) (L j) ic (kk + 1) _ (by omega) (by omega) v0 hLj).mono ?_
      rintro e w2 ⟨rfl, rfl⟩
      clear v0 b0 r0
      go_wp2
      go_roundw
      case rel => exact ⟨j + 1, by omega, by go_num, by rw [HK.out], by first | rfl | trivial⟩
      case measure => simp [intOf]; omega
    · have e : j = n := by omega
      subst e
      go_wp2
      go_ret
      exact ⟨rfl, rfl⟩

set_option maxHeartbeats 1000000 in
theorem markCache_any (v : Value) (B n : Nat) (L : Nat → Nat) (D : Nat → Sm) (G : Nat) (ib : Nat → Nat) (w : World) (hc : Cg w B v n L D G ib) (hn : n ≤ 1048576) (hL : ∀ c, c < n → L c ≤ 1048576) :
    Calls Try.prog 21 #[.agg #[v], .int .i64 1] w fun e w' => e = .returned (.int .i64 (kc 1 L n)) ∧ Chg (SC n G ib) w w' ∧ MV w' G n L ib 1 := by
  have hB : Below w.heap.size w (w.alloc (.cells #[v] 32)) := (Below.refl _ _).alloc (Nat.le_refl _) _
  have HC := hide (hc.below hB)
  obtain ⟨cap, rfl⟩ := hc.val
  have HA : Hid (Chg (SC n G ib) w (w.alloc (.cells #[.slice (some ⟨G, 0, none⟩) n cap] 32))) := hide ((Chg.refl _ _).alloc _)
  clear hc hB
  have hmk := fun W h => markCSetS_any (.slice (some ⟨G, 0, none⟩) n cap) B n L D G ib 1 W (by decide) (by decide) h hn hL
  generalize kc 1 L n = kk at hmk ⊢
  go_enter Try.func21, Try.ntmps21
  go_wp2_with fail
  refine (hmk _ HC.out).mono ?_
  rintro e w1 ⟨rfl, hg, hm⟩
  have HX := hide (And.intro (HA.out.trans hg) hm)
  clear hg hm HC HA hmk
  go_wp2
  go_ret
  exact ⟨rfl, HX.out.1, HX.out.2⟩

set_option maxHeartbeats 1000000 in
theorem heldCache_any (n cap : Nat) (L : Nat → Nat) (G : Nat) (ib : Nat → Nat) (w : World) (hm : MV w G n L ib 1) (hn : n ≤ 1048576) (hL : ∀ c, c < n → L c ≤ 1048576) :
    Calls Try.prog 22 #[.agg #[.slice (some ⟨G, 0, none⟩) n cap], .int .i64 1] w fun e w' => e = .returned (.int .i64 (kc 1 L n)) ∧ Below w.heap.size w w' := by
  have hB : Below w.heap.size w (w.alloc (.cells #[.slice (some ⟨G, 0, none⟩) n cap] 32)) := (Below.refl _ _).alloc (Nat.le_refl _) _
  have HM := hide (hm.below hB)
  have hkb := kc_bound 1 L n hL n (by omega)
  have HB := hide hB
  clear hm hB
  have hmk := fun W h => heldCSetS_any n cap L G ib 1 W (by decide) (by decide) h hn hL
  generalize kc 1 L n = kk at hmk hkb ⊢
  have hneg : decide (kk < 0) = false := by simp; omega
  go_enter Try.func22, Try.ntmps22
  go_wp2_with fail
  refine (hmk _ HM.out).mono ?_
  rintro e w1 ⟨rfl, rfl⟩
  clear HM hmk
  go_wp2
  go_ret
  exact ⟨rfl, HB.out⟩

end Go.Proofs.Ytcbadkljmcpghaa
