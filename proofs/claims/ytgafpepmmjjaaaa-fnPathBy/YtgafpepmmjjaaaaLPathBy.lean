/- Proved: for every code, laws.FnPathBy returns true. No condition. -/
import Derived.Test.YtgafpepmmjjaaaaRows
import Derived.Test.YtgafpepmmjjaaaaNdD
import Derived.WalkKit
import Derived.ProofKit
import Derived.OpenShut
import Derived.ShutString
import Derived.ChangeOld
import Derived.Below
import Derived.OpenVars
namespace Go.Proofs.Ytgafpepmmjjaaaa.fnPathBy
open Go.ChangeShapes Go.WideShapes Go.ChangeAt Go.WideMaps Go.WideElems Go.RowKit
set_option linter.unusedVariables false
set_option linter.unusedSimpArgs false

theorem own : ownKnob Try.prog.godebug = none := by kernel_rfl
theorem laidOut : laidOutB Try.prog = true := by kernel_rfl

def IsRow (k : IntKind) (w : World) (a : Option Addr) (len cap : Nat) (zs : List Int) : Prop :=
  (a = none ∧ len = 0 ∧ cap = 0 ∧ zs = []) ∨
  ∃ x, a = some x ∧ len ≤ cap ∧ cap ≤ maxLen ∧ zs.length = cap ∧ (∀ i, i < zs.length → w.cell? (x.add i) = some (.int k (zs.getD i 0))) ∧ ∀ n ∈ zs, (Lit.int k n).wf = true

theorem row_bt {w : World} {a : Option Addr} {len cap : Nat} {z : List Int} (h : IsRow .u8 w a len cap z) : Bt w a len := by
  intro h0
  rcases h with ⟨rfl, rfl, rfl, rfl⟩ | ⟨x, rfl, hl, hm, hz, hcell, hwf⟩
  · exact absurd h0 (by simp)
  · obtain ⟨b, off, spot⟩ := x
    have hc := hcell 0 (by omega)
    have hspot : spot = none := by simpa [Addr.add] using World.cell?_spot hc
    subst hspot
    refine ⟨b, off, rfl, fun j hj => ?_⟩
    have hcj := hcell j (by omega)
    rw [addr_add] at hcj
    have hj' : j < z.length := by omega
    have e : z.getD j 0 = z[j] := by simp [hj']
    have hw := bounds_u8 (hwf z[j] (List.getElem_mem hj'))
    exact ⟨z.getD j 0, by rw [e]; exact hw.1, by rw [e]; exact hw.2, hcj⟩

set_option maxHeartbeats 16000000 in
set_option maxRecDepth 20000 in
theorem walk (a0 : Option Addr) (len0 cap0 : Nat) (w : World) (hs : Bt w a0 len0) :
    Calls Try.prog 4 #[.slice a0 len0 cap0] w fun e w' => e = .returned (.bool true) ∧ Below w.heap.size w w' := by
  by_cases hbig : (1048576 : Int) < (len0 : Int)
  · go_enter Try.func4, Try.ntmps4
    go_wp2
    go_ret
    exact ⟨rfl, Below.refl _ _⟩
  have hb : len0 ≤ 1048576 := by omega
  go_enter Try.func4, Try.ntmps4
  go_wp2_with (first | (go_at_call 8; go_in) | fail)
  refine (drawPathBy_any a0 len0 cap0 _ hs hb).mono ?_
  rintro e w1 ⟨N, ua, n, uc, f, a, b, rfl, hN1, hN6, hn1, hs1, hB1⟩
  have HL := hide (Lb.new (N := N) hs1 hB1)
  clear hs hB1 hs1 hb hbig
  have hl : n ≤ 1048576 := by omega
  obtain ⟨_, x0, x1⟩ := row2_facts HL.out.box
  have hP := fun W h => implPath_any N (.slice ua n uc) n f a b W h hl
  have hQ := fun W h => specPath_any N (.slice ua n uc) n f a b W h hl
  have hD := fun a b W h => implDist_any N (.slice ua n uc) n f a b W h hl
  have hX := fun a W h => implNext_any N (.slice ua n uc) n f a b W h hl
  have hp6 := pth_le N n f a b
  have HP : Hid ((dstA N n f a b < 0 → pthA N n f a b = []) ∧ ∀ d : Nat, dstA N n f a b = d → pthA N n f a b = rl (d + 1) (ph n f a b)) := hide ⟨pth_no, fun d h => pth_yes h⟩
  obtain ⟨P, hPP⟩ : ∃ P, pthA N n f a b = P := ⟨_, rfl⟩
  rw [hPP] at hP hQ hp6 HP
  clear hPP
  obtain ⟨d, hd⟩ : ∃ d, dstA N n f a b = d := ⟨_, rfl⟩
  have hDab := fun W h => hD a b W h
  have hd6 := dstA_lt (N := N) (n := n) (f := f) (a := a) (b := b)
  rw [hd] at hDab HP hd6
  have HH := hide hd
  clear hd
  generalize hBB : w1.heap.size = B at HL x0 x1
  go_wp2_with fail
  (try simp only [hBB])
  clear hBB
  refine (hP _ HL.out.sr).mono ?_
  rintro e w2 ⟨up, rfl, hup, hb2⟩
  have HL2 := hide (HL.out.next hb2)
  have HU2 := hide hup
  clear HL hb2 x0 x1 hP hup
  obtain ⟨_, x0, x1⟩ := row2_facts HL2.out.box
  go_wp2_with fail
  refine (hDab _ HL2.out.sr).mono ?_
  rintro e w3 ⟨rfl, hb3⟩
  have HL3 := hide (HL2.out.next hb3)
  have HU3 := hide (HU2.out.below hb3)
  clear HL2 hb3 x0 x1 hDab HU2
  obtain ⟨_, x0, x1⟩ := row2_facts HL3.out.box
  go_wp2_with fail
  refine (hQ _ HL3.out.sr).mono ?_
  rintro e w4 ⟨uq, rfl, huq, hb4⟩
  have HL4 := hide (HL3.out.next hb4)
  have HU4 := hide (HU3.out.below hb4)
  have HQ4 := hide huq
  clear HL3 hb4 x0 x1 HU3 huq
  go_wp2_with fail
  refine (sameInts_same up uq P _ HU4.out.sl HQ4.out.sl (by omega)).mono ?_
  rintro e w5 ⟨rfl, hb5⟩
  have HL5 := hide (HL4.out.next hb5)
  have HU5 := hide (HU4.out.below hb5)
  clear HL4 hb5 HU4 HQ4
  obtain ⟨_, x0, x1⟩ := row2_facts HL5.out.box
  by_cases hd0 : d < 0
  · have hdd : decide (d < 0) = true := by simpa using hd0
    have hde : decide (0 ≤ d) = false := by simp; omega
    have HE := hide (HP.out.1 hd0)
    obtain ⟨pa, pc, hpf, _⟩ := HU5.out.form
    rw [HE.out] at hpf
    subst hpf
    clear hd0 HP
    go_wp2_with fail
    refine (hQ _ HL5.out.sr).mono ?_
    rintro e w6 ⟨uq, rfl, huq, hb6⟩
    have HL6 := hide (HL5.out.next hb6)
    have HU6 := hide (HU5.out.below hb6)
    have HQ6 := hide huq
    clear HL5 hb6 x0 x1 HU5 huq
    go_wp2_with fail
    refine (sameInts_same _ uq P _ HU6.out.sl HQ6.out.sl (by omega)).mono ?_
    rintro e w7 ⟨rfl, hb7⟩
    have HL7 := hide (HL6.out.next hb7)
    clear HL6 hb7 HU6 HQ6
    go_wp2
    go_ret
    exact ⟨rfl, HL7.out.bl⟩
  have hdd : decide (d < 0) = false := by simpa using hd0
  obtain ⟨dn, rfl⟩ : ∃ dn : Nat, d = dn := ⟨d.toNat, by omega⟩
  have HE := hide (HP.out.2 dn rfl)
  have ht := th_of HH.out
  have hdst : dst (jn n f) a b = dn := by rw [← dstA_th ht]; exact HH.out
  simp only [thB, Bool.and_eq_true] at ht
  obtain ⟨⟨hN, ha⟩, hb⟩ := ht
  have hnt := nt_of hN
  have hF := ph_facts hnt (a := a) (b := b) (by simpa [inB] using ha) hdst
  have hb' : 0 ≤ b ∧ b < N := by simpa [inB] using hb
  have HF : Hid (∀ i, i < dn → dstA N n f (ph n f a b i) (ph n f a b (i + 1)) = 1 ∧ dstA N n f (ph n f a b (i + 1)) b = (dn : Int) - (i + 1 : Nat) ∧ nxA N n f (ph n f a b i) b = ph n f a b (i + 1)) := hide (fun i hi => by
    have h1 := hF i (by omega)
    have h2 := hF (i + 1) (by omega)
    have hi1 : inB (ph n f a b i) 0 N = true := by simp [inB]; omega
    have hi2 : inB (ph n f a b (i + 1)) 0 N = true := by simp [inB]; omega
    obtain ⟨h3, _⟩ := nx_step hnt (x := ph n f a b i) (b := b) (by omega)
    refine ⟨by rw [dstA_yes hN hi1 hi2]; exact dst_one hnt h3, by rw [dstA_yes hN hi2 hb]; exact h2.2, ?_⟩
    rw [nxA, if_pos (by rw [thB, hN, hi1, hb]; rfl)]
    rfl)
  have HG : Hid (∀ i, i < dn + 1 → gd P i = ph n f a b i) := hide (fun i hi => by rw [HE.out]; simp [gd, rl_get hi])
  have HZ : Hid (ph n f a b 0 = a ∧ ph n f a b dn = b) := hide ⟨rfl, dst_zero (R := jn n f) (by have := (hF dn (Nat.le_refl _)).2; omega)⟩
  have HLen : Hid (P.length = dn + 1) := hide (by rw [HE.out, rl_length])
  obtain ⟨pa, pc, hpf, hpa⟩ := HU5.out.form
  obtain ⟨g, rfl⟩ := hpa (by rw [HLen.out]; omega)
  rw [HLen.out] at hpf
  subst hpf
  have hdn6 : dn < 6 := by omega
  clear hd0 HP hN ha hb hnt hF hdst hp6 hpa hQ hb'
  go_wp2
  go_loopw [8] (fun i wr => ∃ (k : Nat), 1 ≤ k ∧ k ≤ dn + 1 ∧ i = .int .i64 k ∧ Lb w wr B N (.slice ua n uc) n f ∧ Hid (Ow wr 0 (.slice (some ⟨g, 0, none⟩) (dn + 1) pc) P)) (fun i _ => dn + 1 - (intOf i).toNat)
  case atStart => exact ⟨1, Nat.le_refl _, by omega, rfl, HL5.out, hide (HU5.out.mono (Nat.zero_le _))⟩
  case round =>
    obtain ⟨k, hk1, hk, rfl, hlb, HU⟩ := hrel
    clear HL5 x0 x1 HU5
    obtain ⟨_, x0, x1⟩ := row2_facts hlb.box
    have HLb := hide hlb
    clear hlb
    by_cases hlt : k < dn + 1
    · obtain ⟨i, hi⟩ : ∃ i, k = i + 1 := ⟨k - 1, by omega⟩
      obtain ⟨f1, f2', f3⟩ := HF.out i (by omega)
      have c0 := HU.out.at (i := i) (by rw [HLen.out]; omega)
      have c1 := HU.out.at (i := k) (by rw [HLen.out]; omega)
      rw [HG.out i (by omega)] at c0
      rw [HG.out k (by omega)] at c1
      rw [← hi] at f1 f2' f3
      have hD1 := fun W h => hD (ph n f a b i) (ph n f a b k) W h
      have hD2 := fun W h => hD (ph n f a b k) b W h
      have hX1 := fun W h => hX (ph n f a b i) W h
      rw [f1] at hD1
      rw [f2'] at hD2
      rw [f3] at hX1
      obtain ⟨y0, hy0⟩ : ∃ y0, ph n f a b i = y0 := ⟨_, rfl⟩
      obtain ⟨y1, hy1⟩ : ∃ y1, ph n f a b k = y1 := ⟨_, rfl⟩
      obtain ⟨z, hz⟩ : ∃ z, (dn : Int) - (k : Nat) = z := ⟨_, rfl⟩
      rw [hy0] at c0 hD1 hX1
      rw [hy1] at c1 hD1 hD2 hX1
      rw [hz] at hD2
      have hw1 : wrap64 ((k : Int) - 1) = (i : Int) := by rw [Go.IntWalk.wrap64_in _ (by omega)]; omega
      have hw2 : IntKind.i64.wrap ((k : Int) - 1) = (i : Int) := (Go.IntWalk.i64_left _).trans hw1
      have hw3 : wrap64 ((dn : Int) - (k : Int)) = z := by rw [Go.IntWalk.wrap64_in _ (by omega)]; exact hz
      have hw4 : IntKind.i64.wrap ((dn : Int) - (k : Int)) = z := (Go.IntWalk.i64_left _).trans hw3
      have hi4 : i < dn + 1 := by omega
      have hi0 : (0 : Int) ≤ (i : Int) := by omega
      have hi1 : (i : Int) < ((dn + 1 : Nat) : Int) := by omega
      have hk0 : (0 : Int) ≤ (k : Int) := by omega
      have hk9 : (k : Int) < ((dn + 1 : Nat) : Int) := by omega
      have hzz : (z != z) = false := by simp
      have hyy : (y1 != y1) = false := by simp
      clear f1 f2' f3 hy0 hy1 hz
      have HI := hide hi
      clear hi
      go_wp2
      refine wp_region_held_drew (S := fun w' => Below (wr).heap.size (wr) w') (by kernel_rfl) ((Below.refl _ _).drew) (fun hHeld => ?_)
      refine wpAnyH_take (i := 0) (v := .agg #[.int .i64 N, .slice ua n uc]) rfl (by kernel_rfl) (by kernel_rfl) (by kernel_rfl) (fun _ _ _ h => h) (Or.inl ⟨by rfl, fun w' hSw => ?_⟩) (by assumption) ?_
      · (try dsimp only at hSw); have z0 := keepc hSw x0; have z1 := keepc hSw x1; have z2 := keepc hSw c0; have z3 := keepc hSw c1; go_simp <;> (try (intro hbad; exfalso; omega))
      try simp only [Act.put, List.getElem_toArray, List.getElem_cons_zero, List.getElem_cons_succ, List.setIfInBounds_toArray, List.set_cons_zero, List.set_cons_succ]
      refine wpAnyH_take (i := 1) (v := .slice (some ⟨g, 0, none⟩) (dn + 1) pc) rfl (by kernel_rfl) (by kernel_rfl) (by kernel_rfl) (fun _ _ _ h => h) (Or.inl ⟨by rfl, fun w' hSw => ?_⟩) (by assumption) ?_
      · (try dsimp only at hSw); go_simp <;> (try (intro hbad; exfalso; omega))
      try simp only [Act.put, List.getElem_toArray, List.getElem_cons_zero, List.getElem_cons_succ, List.setIfInBounds_toArray, List.set_cons_zero, List.set_cons_succ]
      refine wpAnyH_take (i := 2) (v := .int .i64 k) rfl (by kernel_rfl) (by kernel_rfl) (by kernel_rfl) (fun _ _ _ h => h) (Or.inl ⟨by rfl, fun w' hSw => ?_⟩) (by assumption) ?_
      · (try dsimp only at hSw); go_simp <;> (try (intro hbad; exfalso; omega))
      try simp only [Act.put, List.getElem_toArray, List.getElem_cons_zero, List.getElem_cons_succ, List.setIfInBounds_toArray, List.set_cons_zero, List.set_cons_succ]
      refine wpAnyH_take (i := 3) (v := .int .i64 i) rfl (by kernel_rfl) (by kernel_rfl) (by kernel_rfl) (fun _ _ _ h => h) (Or.inl ⟨by rfl, fun w' hSw => ?_⟩) (by assumption) ?_
      · (try dsimp only at hSw); go_simp <;> (try (intro hbad; exfalso; omega))
      try simp only [Act.put, List.getElem_toArray, List.getElem_cons_zero, List.getElem_cons_succ, List.setIfInBounds_toArray, List.set_cons_zero, List.set_cons_succ]
      refine wpAnyH_take (i := 4) (v := .pointer (some ⟨g, i, none⟩)) rfl (by kernel_rfl) (by kernel_rfl) (by kernel_rfl) (fun _ _ _ h => h) (Or.inl ⟨by rfl, fun w' hSw => ?_⟩) (by assumption) ?_
      · (try dsimp only at hSw); go_simp <;> (try (intro hbad; exfalso; omega))
      try simp only [Act.put, List.getElem_toArray, List.getElem_cons_zero, List.getElem_cons_succ, List.setIfInBounds_toArray, List.set_cons_zero, List.set_cons_succ]
      refine wpAnyH_take (i := 5) (v := .int .i64 y0) rfl (by kernel_rfl) (by kernel_rfl) (by kernel_rfl) (fun _ _ _ h => h) (Or.inl ⟨by rfl, fun w' hSw => ?_⟩) (by assumption) ?_
      · (try dsimp only at hSw); have z0 := keepc hSw x0; have z1 := keepc hSw x1; have z2 := keepc hSw c0; have z3 := keepc hSw c1; go_simp <;> (try (intro hbad; exfalso; omega))
      try simp only [Act.put, List.getElem_toArray, List.getElem_cons_zero, List.getElem_cons_succ, List.setIfInBounds_toArray, List.set_cons_zero, List.set_cons_succ]
      refine wpAnyH_take (i := 6) (v := .slice (some ⟨g, 0, none⟩) (dn + 1) pc) rfl (by kernel_rfl) (by kernel_rfl) (by kernel_rfl) (fun _ _ _ h => h) (Or.inl ⟨by rfl, fun w' hSw => ?_⟩) (by assumption) ?_
      · (try dsimp only at hSw); go_simp <;> (try (intro hbad; exfalso; omega))
      try simp only [Act.put, List.getElem_toArray, List.getElem_cons_zero, List.getElem_cons_succ, List.setIfInBounds_toArray, List.set_cons_zero, List.set_cons_succ]
      refine wpAnyH_take (i := 7) (v := .int .i64 k) rfl (by kernel_rfl) (by kernel_rfl) (by kernel_rfl) (fun _ _ _ h => h) (Or.inl ⟨by rfl, fun w' hSw => ?_⟩) (by assumption) ?_
      · (try dsimp only at hSw); go_simp <;> (try (intro hbad; exfalso; omega))
      try simp only [Act.put, List.getElem_toArray, List.getElem_cons_zero, List.getElem_cons_succ, List.setIfInBounds_toArray, List.set_cons_zero, List.set_cons_succ]
      refine wpAnyH_take (i := 8) (v := .pointer (some ⟨g, k, none⟩)) rfl (by kernel_rfl) (by kernel_rfl) (by kernel_rfl) (fun _ _ _ h => h) (Or.inl ⟨by rfl, fun w' hSw => ?_⟩) (by assumption) ?_
      · (try dsimp only at hSw); go_simp <;> (try (intro hbad; exfalso; omega))
      try simp only [Act.put, List.getElem_toArray, List.getElem_cons_zero, List.getElem_cons_succ, List.setIfInBounds_toArray, List.set_cons_zero, List.set_cons_succ]
      refine wpAnyH_take (i := 9) (v := .int .i64 y1) rfl (by kernel_rfl) (by kernel_rfl) (by kernel_rfl) (fun _ _ _ h => h) (Or.inl ⟨by rfl, fun w' hSw => ?_⟩) (by assumption) ?_
      · (try dsimp only at hSw); have z0 := keepc hSw x0; have z1 := keepc hSw x1; have z2 := keepc hSw c0; have z3 := keepc hSw c1; go_simp <;> (try (intro hbad; exfalso; omega))
      try simp only [Act.put, List.getElem_toArray, List.getElem_cons_zero, List.getElem_cons_succ, List.setIfInBounds_toArray, List.set_cons_zero, List.set_cons_succ]
      refine wpAnyH_ready (rs := [10]) (by kernel_rfl) (by simp) ?_
      refine AllReadyH.cons rfl (fun K hK => ?_) AllReadyH.nil
      go_simp
      refine (hD1 _ (HLb.out.sr.below hHeld)).mono ?_
      rintro e wc10 ⟨rfl, hbc⟩
      refine hK.out _ _ (hHeld.trans (hbc.mono hHeld.size)) (fun hHeld => ?_)
      clear hK K hbc
      try simp only [Act.put, List.getElem_toArray, List.getElem_cons_zero, List.getElem_cons_succ, List.setIfInBounds_toArray, List.set_cons_zero, List.set_cons_succ]
      refine wpAnyH_take (i := 11) (v := .bool false) rfl (by kernel_rfl) (by kernel_rfl) (by kernel_rfl) (fun _ _ _ h => h) (Or.inl ⟨by rfl, fun w' hSw => ?_⟩) (by assumption) ?_
      · (try dsimp only at hSw); go_simp <;> (try (intro hbad; exfalso; omega))
      try simp only [Act.put, List.getElem_toArray, List.getElem_cons_zero, List.getElem_cons_succ, List.setIfInBounds_toArray, List.set_cons_zero, List.set_cons_succ]
      refine wpAnyH_take (i := 12) (v := .bool false) rfl (by kernel_rfl) (by kernel_rfl) (by kernel_rfl) (fun _ _ _ h => h) (Or.inl ⟨by rfl, fun w' hSw => ?_⟩) (by assumption) ?_
      · (try dsimp only at hSw); go_simp <;> (try (intro hbad; exfalso; omega))
      try simp only [Act.put, List.getElem_toArray, List.getElem_cons_zero, List.getElem_cons_succ, List.setIfInBounds_toArray, List.set_cons_zero, List.set_cons_succ]
      refine wpAnyH_take (i := 13) (v := .agg #[.int .i64 N, .slice ua n uc]) rfl (by kernel_rfl) (by kernel_rfl) (by kernel_rfl) (fun _ _ _ h => h) (Or.inl ⟨by rfl, fun w' hSw => ?_⟩) (by assumption) ?_
      · (try dsimp only at hSw); have z0 := keepc hSw x0; have z1 := keepc hSw x1; have z2 := keepc hSw c0; have z3 := keepc hSw c1; go_simp <;> (try (intro hbad; exfalso; omega))
      try simp only [Act.put, List.getElem_toArray, List.getElem_cons_zero, List.getElem_cons_succ, List.setIfInBounds_toArray, List.set_cons_zero, List.set_cons_succ]
      refine wpAnyH_take (i := 14) (v := .slice (some ⟨g, 0, none⟩) (dn + 1) pc) rfl (by kernel_rfl) (by kernel_rfl) (by kernel_rfl) (fun _ _ _ h => h) (Or.inl ⟨by rfl, fun w' hSw => ?_⟩) (by assumption) ?_
      · (try dsimp only at hSw); go_simp <;> (try (intro hbad; exfalso; omega))
      try simp only [Act.put, List.getElem_toArray, List.getElem_cons_zero, List.getElem_cons_succ, List.setIfInBounds_toArray, List.set_cons_zero, List.set_cons_succ]
      refine wpAnyH_take (i := 15) (v := .int .i64 k) rfl (by kernel_rfl) (by kernel_rfl) (by kernel_rfl) (fun _ _ _ h => h) (Or.inl ⟨by rfl, fun w' hSw => ?_⟩) (by assumption) ?_
      · (try dsimp only at hSw); go_simp <;> (try (intro hbad; exfalso; omega))
      try simp only [Act.put, List.getElem_toArray, List.getElem_cons_zero, List.getElem_cons_succ, List.setIfInBounds_toArray, List.set_cons_zero, List.set_cons_succ]
      refine wpAnyH_take (i := 16) (v := .pointer (some ⟨g, k, none⟩)) rfl (by kernel_rfl) (by kernel_rfl) (by kernel_rfl) (fun _ _ _ h => h) (Or.inl ⟨by rfl, fun w' hSw => ?_⟩) (by assumption) ?_
      · (try dsimp only at hSw); go_simp <;> (try (intro hbad; exfalso; omega))
      try simp only [Act.put, List.getElem_toArray, List.getElem_cons_zero, List.getElem_cons_succ, List.setIfInBounds_toArray, List.set_cons_zero, List.set_cons_succ]
      refine wpAnyH_take (i := 17) (v := .int .i64 y1) rfl (by kernel_rfl) (by kernel_rfl) (by kernel_rfl) (fun _ _ _ h => h) (Or.inl ⟨by rfl, fun w' hSw => ?_⟩) (by assumption) ?_
      · (try dsimp only at hSw); have z0 := keepc hSw x0; have z1 := keepc hSw x1; have z2 := keepc hSw c0; have z3 := keepc hSw c1; go_simp <;> (try (intro hbad; exfalso; omega))
      try simp only [Act.put, List.getElem_toArray, List.getElem_cons_zero, List.getElem_cons_succ, List.setIfInBounds_toArray, List.set_cons_zero, List.set_cons_succ]
      refine wpAnyH_take (i := 18) (v := .int .i64 b) rfl (by kernel_rfl) (by kernel_rfl) (by kernel_rfl) (fun _ _ _ h => h) (Or.inl ⟨by rfl, fun w' hSw => ?_⟩) (by assumption) ?_
      · (try dsimp only at hSw); go_simp <;> (try (intro hbad; exfalso; omega))
      try simp only [Act.put, List.getElem_toArray, List.getElem_cons_zero, List.getElem_cons_succ, List.setIfInBounds_toArray, List.set_cons_zero, List.set_cons_succ]
      refine wpAnyH_take (i := 20) (v := .int .i64 dn) rfl (by kernel_rfl) (by kernel_rfl) (by kernel_rfl) (fun _ _ _ h => h) (Or.inl ⟨by rfl, fun w' hSw => ?_⟩) (by assumption) ?_
      · (try dsimp only at hSw); go_simp <;> (try (intro hbad; exfalso; omega))
      try simp only [Act.put, List.getElem_toArray, List.getElem_cons_zero, List.getElem_cons_succ, List.setIfInBounds_toArray, List.set_cons_zero, List.set_cons_succ]
      refine wpAnyH_take (i := 21) (v := .int .i64 k) rfl (by kernel_rfl) (by kernel_rfl) (by kernel_rfl) (fun _ _ _ h => h) (Or.inl ⟨by rfl, fun w' hSw => ?_⟩) (by assumption) ?_
      · (try dsimp only at hSw); go_simp <;> (try (intro hbad; exfalso; omega))
      try simp only [Act.put, List.getElem_toArray, List.getElem_cons_zero, List.getElem_cons_succ, List.setIfInBounds_toArray, List.set_cons_zero, List.set_cons_succ]
      refine wpAnyH_take (i := 22) (v := .int .i64 z) rfl (by kernel_rfl) (by kernel_rfl) (by kernel_rfl) (fun _ _ _ h => h) (Or.inl ⟨by rfl, fun w' hSw => ?_⟩) (by assumption) ?_
      · (try dsimp only at hSw); go_simp <;> (try (intro hbad; exfalso; omega))
      try simp only [Act.put, List.getElem_toArray, List.getElem_cons_zero, List.getElem_cons_succ, List.setIfInBounds_toArray, List.set_cons_zero, List.set_cons_succ]
      refine wpAnyH_ready (rs := [19]) (by kernel_rfl) (by simp) ?_
      refine AllReadyH.cons rfl (fun K hK => ?_) AllReadyH.nil
      go_simp
      refine (hD2 _ (HLb.out.sr.below hHeld)).mono ?_
      rintro e wc19 ⟨rfl, hbc⟩
      refine hK.out _ _ (hHeld.trans (hbc.mono hHeld.size)) (fun hHeld => ?_)
      clear hK K hbc
      try simp only [Act.put, List.getElem_toArray, List.getElem_cons_zero, List.getElem_cons_succ, List.setIfInBounds_toArray, List.set_cons_zero, List.set_cons_succ]
      refine wpAnyH_take (i := 23) (v := .bool false) rfl (by kernel_rfl) (by kernel_rfl) (by kernel_rfl) (fun _ _ _ h => h) (Or.inl ⟨by rfl, fun w' hSw => ?_⟩) (by assumption) ?_
      · (try dsimp only at hSw); go_simp <;> (try (intro hbad; exfalso; omega))
      try simp only [Act.put, List.getElem_toArray, List.getElem_cons_zero, List.getElem_cons_succ, List.setIfInBounds_toArray, List.set_cons_zero, List.set_cons_succ]
      refine wpAnyH_take (i := 24) (v := .bool false) rfl (by kernel_rfl) (by kernel_rfl) (by kernel_rfl) (fun _ _ _ h => h) (Or.inl ⟨by rfl, fun w' hSw => ?_⟩) (by assumption) ?_
      · (try dsimp only at hSw); go_simp <;> (try (intro hbad; exfalso; omega))
      try simp only [Act.put, List.getElem_toArray, List.getElem_cons_zero, List.getElem_cons_succ, List.setIfInBounds_toArray, List.set_cons_zero, List.set_cons_succ]
      refine wpAnyH_take (i := 25) (v := .bool false) rfl (by kernel_rfl) (by kernel_rfl) (by kernel_rfl) (fun _ _ _ h => h) (Or.inl ⟨by rfl, fun w' hSw => ?_⟩) (by assumption) ?_
      · (try dsimp only at hSw); go_simp <;> (try (intro hbad; exfalso; omega))
      try simp only [Act.put, List.getElem_toArray, List.getElem_cons_zero, List.getElem_cons_succ, List.setIfInBounds_toArray, List.set_cons_zero, List.set_cons_succ]
      refine wpAnyH_take (i := 26) (v := .agg #[.int .i64 N, .slice ua n uc]) rfl (by kernel_rfl) (by kernel_rfl) (by kernel_rfl) (fun _ _ _ h => h) (Or.inl ⟨by rfl, fun w' hSw => ?_⟩) (by assumption) ?_
      · (try dsimp only at hSw); have z0 := keepc hSw x0; have z1 := keepc hSw x1; have z2 := keepc hSw c0; have z3 := keepc hSw c1; go_simp <;> (try (intro hbad; exfalso; omega))
      try simp only [Act.put, List.getElem_toArray, List.getElem_cons_zero, List.getElem_cons_succ, List.setIfInBounds_toArray, List.set_cons_zero, List.set_cons_succ]
      refine wpAnyH_take (i := 27) (v := .slice (some ⟨g, 0, none⟩) (dn + 1) pc) rfl (by kernel_rfl) (by kernel_rfl) (by kernel_rfl) (fun _ _ _ h => h) (Or.inl ⟨by rfl, fun w' hSw => ?_⟩) (by assumption) ?_
      · (try dsimp only at hSw); go_simp <;> (try (intro hbad; exfalso; omega))
      try simp only [Act.put, List.getElem_toArray, List.getElem_cons_zero, List.getElem_cons_succ, List.setIfInBounds_toArray, List.set_cons_zero, List.set_cons_succ]
      refine wpAnyH_take (i := 28) (v := .int .i64 k) rfl (by kernel_rfl) (by kernel_rfl) (by kernel_rfl) (fun _ _ _ h => h) (Or.inl ⟨by rfl, fun w' hSw => ?_⟩) (by assumption) ?_
      · (try dsimp only at hSw); go_simp <;> (try (intro hbad; exfalso; omega))
      try simp only [Act.put, List.getElem_toArray, List.getElem_cons_zero, List.getElem_cons_succ, List.setIfInBounds_toArray, List.set_cons_zero, List.set_cons_succ]
      refine wpAnyH_take (i := 29) (v := .int .i64 i) rfl (by kernel_rfl) (by kernel_rfl) (by kernel_rfl) (fun _ _ _ h => h) (Or.inl ⟨by rfl, fun w' hSw => ?_⟩) (by assumption) ?_
      · (try dsimp only at hSw); go_simp <;> (try (intro hbad; exfalso; omega))
      try simp only [Act.put, List.getElem_toArray, List.getElem_cons_zero, List.getElem_cons_succ, List.setIfInBounds_toArray, List.set_cons_zero, List.set_cons_succ]
      refine wpAnyH_take (i := 30) (v := .pointer (some ⟨g, i, none⟩)) rfl (by kernel_rfl) (by kernel_rfl) (by kernel_rfl) (fun _ _ _ h => h) (Or.inl ⟨by rfl, fun w' hSw => ?_⟩) (by assumption) ?_
      · (try dsimp only at hSw); go_simp <;> (try (intro hbad; exfalso; omega))
      try simp only [Act.put, List.getElem_toArray, List.getElem_cons_zero, List.getElem_cons_succ, List.setIfInBounds_toArray, List.set_cons_zero, List.set_cons_succ]
      refine wpAnyH_take (i := 31) (v := .int .i64 y0) rfl (by kernel_rfl) (by kernel_rfl) (by kernel_rfl) (fun _ _ _ h => h) (Or.inl ⟨by rfl, fun w' hSw => ?_⟩) (by assumption) ?_
      · (try dsimp only at hSw); have z0 := keepc hSw x0; have z1 := keepc hSw x1; have z2 := keepc hSw c0; have z3 := keepc hSw c1; go_simp <;> (try (intro hbad; exfalso; omega))
      try simp only [Act.put, List.getElem_toArray, List.getElem_cons_zero, List.getElem_cons_succ, List.setIfInBounds_toArray, List.set_cons_zero, List.set_cons_succ]
      refine wpAnyH_take (i := 32) (v := .int .i64 b) rfl (by kernel_rfl) (by kernel_rfl) (by kernel_rfl) (fun _ _ _ h => h) (Or.inl ⟨by rfl, fun w' hSw => ?_⟩) (by assumption) ?_
      · (try dsimp only at hSw); go_simp <;> (try (intro hbad; exfalso; omega))
      try simp only [Act.put, List.getElem_toArray, List.getElem_cons_zero, List.getElem_cons_succ, List.setIfInBounds_toArray, List.set_cons_zero, List.set_cons_succ]
      refine wpAnyH_take (i := 34) (v := .slice (some ⟨g, 0, none⟩) (dn + 1) pc) rfl (by kernel_rfl) (by kernel_rfl) (by kernel_rfl) (fun _ _ _ h => h) (Or.inl ⟨by rfl, fun w' hSw => ?_⟩) (by assumption) ?_
      · (try dsimp only at hSw); go_simp <;> (try (intro hbad; exfalso; omega))
      try simp only [Act.put, List.getElem_toArray, List.getElem_cons_zero, List.getElem_cons_succ, List.setIfInBounds_toArray, List.set_cons_zero, List.set_cons_succ]
      refine wpAnyH_take (i := 35) (v := .int .i64 k) rfl (by kernel_rfl) (by kernel_rfl) (by kernel_rfl) (fun _ _ _ h => h) (Or.inl ⟨by rfl, fun w' hSw => ?_⟩) (by assumption) ?_
      · (try dsimp only at hSw); go_simp <;> (try (intro hbad; exfalso; omega))
      try simp only [Act.put, List.getElem_toArray, List.getElem_cons_zero, List.getElem_cons_succ, List.setIfInBounds_toArray, List.set_cons_zero, List.set_cons_succ]
      refine wpAnyH_take (i := 36) (v := .pointer (some ⟨g, k, none⟩)) rfl (by kernel_rfl) (by kernel_rfl) (by kernel_rfl) (fun _ _ _ h => h) (Or.inl ⟨by rfl, fun w' hSw => ?_⟩) (by assumption) ?_
      · (try dsimp only at hSw); go_simp <;> (try (intro hbad; exfalso; omega))
      try simp only [Act.put, List.getElem_toArray, List.getElem_cons_zero, List.getElem_cons_succ, List.setIfInBounds_toArray, List.set_cons_zero, List.set_cons_succ]
      refine wpAnyH_take (i := 37) (v := .int .i64 y1) rfl (by kernel_rfl) (by kernel_rfl) (by kernel_rfl) (fun _ _ _ h => h) (Or.inl ⟨by rfl, fun w' hSw => ?_⟩) (by assumption) ?_
      · (try dsimp only at hSw); have z0 := keepc hSw x0; have z1 := keepc hSw x1; have z2 := keepc hSw c0; have z3 := keepc hSw c1; go_simp <;> (try (intro hbad; exfalso; omega))
      try simp only [Act.put, List.getElem_toArray, List.getElem_cons_zero, List.getElem_cons_succ, List.setIfInBounds_toArray, List.set_cons_zero, List.set_cons_succ]
      refine wpAnyH_ready (rs := [33]) (by kernel_rfl) (by simp) ?_
      refine AllReadyH.cons rfl (fun K hK => ?_) AllReadyH.nil
      go_simp
      refine (hX1 _ (HLb.out.sr.below hHeld)).mono ?_
      rintro e wc33 ⟨rfl, hbc⟩
      refine hK.out _ _ (hHeld.trans (hbc.mono hHeld.size)) (fun hHeld => ?_)
      clear hK K hbc
      try simp only [Act.put, List.getElem_toArray, List.getElem_cons_zero, List.getElem_cons_succ, List.setIfInBounds_toArray, List.set_cons_zero, List.set_cons_succ]
      refine wpAnyH_take (i := 38) (v := .bool false) rfl (by kernel_rfl) (by kernel_rfl) (by kernel_rfl) (fun _ _ _ h => h) (Or.inl ⟨by rfl, fun w' hSw => ?_⟩) (by assumption) ?_
      · (try dsimp only at hSw); go_simp <;> (try (intro hbad; exfalso; omega))
      try simp only [Act.put, List.getElem_toArray, List.getElem_cons_zero, List.getElem_cons_succ, List.setIfInBounds_toArray, List.set_cons_zero, List.set_cons_succ]
      refine wpAnyH_take (i := 39) (v := .bool false) rfl (by kernel_rfl) (by kernel_rfl) (by kernel_rfl) (fun _ _ _ h => h) (Or.inl ⟨by rfl, fun w' hSw => ?_⟩) (by assumption) ?_
      · (try dsimp only at hSw); go_simp <;> (try (intro hbad; exfalso; omega))
      try simp only [Act.put, List.getElem_toArray, List.getElem_cons_zero, List.getElem_cons_succ, List.setIfInBounds_toArray, List.set_cons_zero, List.set_cons_succ]
      refine wpAnyH_done (by kernel_rfl) ?_ _
      have HL7 := hide (HLb.out.next hHeld)
      have HU7 := hide (HU.out.below hHeld)
      clear hHeld HLb x0 x1 c0 c1 hD1 hD2 hX1 HU
      go_wp2
      go_roundw
      case rel => exact ⟨k + 1, by omega, by omega, by go_num, HL7.out, HU7⟩
      case measure => simp [intOf]; omega
    · have c0 := HU.out.at (i := 0) (by rw [HLen.out]; omega)
      have c1 := HU.out.at (i := dn) (by rw [HLen.out]; omega)
      rw [HG.out 0 (by omega), HZ.out.1] at c0
      rw [HG.out dn (by omega), HZ.out.2] at c1
      have hwd : wrap64 (((dn + 1 : Nat) : Int) - 1) = (dn : Int) := by rw [Go.IntWalk.wrap64_in _ (by omega)]; omega
      have haa : (a == a) = true := by simp
      have hbb : (b == b) = true := by simp
      clear HU
      go_wp2
      go_ret
      exact ⟨rfl, HLb.out.bl⟩

set_option maxRecDepth 100000 in
theorem lifted (os : Os) (started : os.Started) (H : Type) (enc : TypeId × Value → H) :
    ReturnsInHanded {} Try.checked os 4 .any (Rows.fnPathBySpec.pre6 enc Try.prog Try.f4 Rows.fnPathByRow.domain false) (Rows.fnPathBySpec.post enc Try.prog Try.f4 false true false false) := by
  refine returnsInHanded_of_change (C := Try.checked) own started (by kernel_rfl) Try.func4
    (ChangeSpec.witness6 (enc := enc) (C := Try.checked) false ⟨#[], #[.slice none 0 0], []⟩ 8 (by kernel_rfl) (by kernel_rfl) (by kernel_rfl) (by kernel_rfl)) ?_
  intro W base args ds gs before hval0 hW hcnd _
  have hval : ∀ (j : Nat) t v, Try.f4.params[j]? = some t → args[j]? = some v → Value.okWide Try.prog W .any base t v := hval0
  have hW' := hW
  obtain ⟨p, q, hA0, hV, rfl, hfz, hnd⟩ := hW
  have hA : DataW.TrodAll enc Try.prog W 0 (fun _ => true) true Try.f4.params.toList args.toList ds p := hA0
  rw [Try.params4] at hA hval
  obtain ⟨v0, vs0, d0, ds0, p0, q0, hargs, rfl, rfl, h0, r0⟩ := trodAll_cons hA
  obtain ⟨rfl, rfl, rfl⟩ := trodAll_nil r0
  obtain rfl : args = #[v0] := by cases args; simp_all
  obtain ⟨rfl, rfl⟩ := trodVars_none hV
  obtain ⟨a0, len0, cap0, rfl⟩ := okWide_slice Try.underlying22 (hval 0 22 v0 rfl rfl)
  have k0 := h0
  have lt0 : ∀ x ∈ p0, x.block < W.heap.size := by obtain ⟨m, hm⟩ := k0; exact DataW.trod_lt m _ _ _ hm
  obtain ⟨z0, w0⟩ : ∃ zs, IsRow .u8 W a0 len0 cap0 zs := by
    obtain ⟨fuel, hf⟩ := h0
    rcases open_ints Try.underlying22 Try.underlying5 (by kernel_rfl) hf with ⟨hcs, _⟩ | ⟨x, l, c, zs, hcs, _, hl, hm, hz, _, hcell, hwz⟩
    · simp [Value.cells] at hcs
      obtain ⟨rfl, rfl, rfl⟩ := hcs
      exact ⟨[], .inl ⟨rfl, rfl, rfl, rfl⟩⟩
    · simp [Value.cells] at hcs
      obtain ⟨rfl, rfl, rfl⟩ := hcs
      exact ⟨zs, .inr ⟨_, rfl, hl, hm, by simpa using hz, hcell, hwz⟩⟩
  clear hA0 hval0
  refine (walk a0 len0 cap0 W (row_bt w0)).mono fun e W' ⟨he, bel⟩ => ?_
  subst he
  exact ⟨_, rfl, _, _, _, [], _, [], hW', trodAll_mk1 (shut_bool Try.underlying4 _), (trodAll_cons_mk (Below.trod laidOut (by kernel_rfl) (of_decide_eq_true (by kernel_rfl)) k0 bel lt0) trodAll_mk0), rfl, bel.frame _, fun h => by cases h⟩

theorem over : Rows.fnPathByRow.holds Try.pinned (OpenSpec.ofChange Rows.fnPathBySpec) :=
  OpenClaim.holds_of_wide 4 Try.f4 rfl rfl rfl rfl rfl rfl rfl ⟨rfl, rfl, rfl, rfl, rfl⟩ rfl rfl rfl rfl rfl (by kernel_rfl) Try.func4 (by kernel_rfl)
    (of_decide_eq_true (by kernel_rfl)) (by unfold Func.isWrapper; first | (rw [if_pos (by decide +kernel)]; kernel_rfl) | (rw [if_neg (by decide +kernel)]; exact ⟨rfl, rfl⟩))
    (fun os started H enc _ => lifted os started H enc)

theorem proved : Rows.FnPathBySaid := over
end Go.Proofs.Ytgafpepmmjjaaaa.fnPathBy

namespace Go.Proofs.Ytgafpepmmjjaaaa
theorem fnPathBy_holds : Rows.FnPathBySaid := fnPathBy.proved
end Go.Proofs.Ytgafpepmmjjaaaa
