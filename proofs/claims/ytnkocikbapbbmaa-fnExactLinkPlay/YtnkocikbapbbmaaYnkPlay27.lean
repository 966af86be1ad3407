/- LdR -/
import Derived.Test.YtnkocikbapbbmaaYnkPlay25
import Derived.Test.YtnkocikbapbbmaaYnkPlay26
/- impl.LinkOk of a link with room; what an act comes to, plainly -/
namespace Go.Proofs.Ytnkocikbapbbmaa
open Go.RowKit
set_option linter.unusedVariables false
set_option linter.unusedSimpArgs false

set_option maxRecDepth 20000 in
set_option maxHeartbeats 4000000 in
theorem bodies_zero (pk : Int) (wa ga da ua : Option Addr) (nw nd nu wc dc uc : Nat) (ws gs : Nat → ByteArray) (w : World) (hw : Sg w (.slice wa nw wc) 1 nw (tF ws)) (h5 : nw ≤ 1048576) :
    Calls Try.prog 36 #[.agg (l6 (0 : Int) (.slice wa nw wc) pk (.slice ga 0 0) (.slice da nd dc) (.slice ua nu uc))] w fun e w' => e = .returned (.bool (boB 0 nw 0 ws gs)) ∧ Below w.heap.size w w' := by
  have hg : Sg w (.slice ga 0 0) 1 0 (tF gs) := ⟨ga, 0, rfl, fun h => absurd h (by decide)⟩
  have h4 : 0 ≤ 1048576 := by decide
  have hsl : ∀ W : World, (Instr.slice 22 (.slice ga 0 0) (some (.int .i64 0)) none none).run Try.prog W = .ok (.slice ga 0 0) W := by
    intro W; cases ga <;> simp [go_sem, Try.underlying22, Instr.slice, Instr.sliceBounds, Instr.sliceBound, asIntOf, Addr.add]
  have hB0 : Below w.heap.size w (w.alloc (.cells (l6 (0 : Int) (.slice wa nw wc) pk (.slice ga 0 0) (.slice da nd dc) (.slice ua nu uc)) 30)) := (Below.refl _ _).alloc (Nat.le_refl _) _
  obtain ⟨_, x0, x1, x2, x3, x4, x5⟩ := box6 (heap_alloc_new w (.cells (l6 (0 : Int) (.slice wa nw wc) pk (.slice ga 0 0) (.slice da nd dc) (.slice ua nu uc)) 30))
  obtain ⟨W, hE⟩ : ∃ W, w.alloc (.cells (l6 (0 : Int) (.slice wa nw wc) pk (.slice ga 0 0) (.slice da nd dc) (.slice ua nu uc)) 30) = W := ⟨_, rfl⟩
  rw [hE] at hB0 x0 x1 x2 x3 x4 x5
  have HW := hide (hw.below hB0)
  have HG := hide (hg.below hB0)
  have HTW := hide (implTexts_any _ nw ws W HW.out h5)
  have HTG := hide (implTexts_any _ 0 gs W HG.out h4)
  clear hw hg
  -- the end: all that was got is there
  have fin : Hid (∀ (tw tg : Bool), tbB nw ws = tw → tbB 0 gs = tg → (∀ j, j < 0 - 0 → ws j = gs (0 + j)) → (tw && tg) = boB 0 nw 0 ws gs) := hide (fun tw tg e1 e2 h => by
    unfold boB
    rw [show maB 0 0 ws gs = true from decide_eq_true h, e1, e2, Bool.true_and])
  obtain ⟨tw, htw⟩ : ∃ tw, tbB nw ws = tw := ⟨_, rfl⟩
  obtain ⟨tg, htg⟩ : ∃ tg, tbB 0 gs = tg := ⟨_, rfl⟩
  rw [htw] at HTW
  rw [htg] at HTG
  have FIN := hide (fin.out tw tg htw htg)
  clear fin htw htg
  have HF := hide (FIN.out (fun j hj => absurd hj (by omega)))
  go_enter Try.func36, Try.ntmps36
  go_wp2
  go_loopw [11] (fun j wr => j = .int .i64 0 ∧ wr = W) (fun _ _ => 0)
  case atStart => exact ⟨rfl, rfl⟩
  case round =>
    obtain ⟨rfl, rfl⟩ := hrel
    go_wp2_with fail
    refine HTW.out.mono ?_
    rintro e w2 ⟨rfl, rfl⟩
    cases tw with
    | false =>
      go_wp2
      go_ret
      exact ⟨retb HF.out, hB0⟩
    | true =>
      go_wp2_with fail
      refine HTG.out.mono ?_
      rintro e w2 ⟨rfl, rfl⟩
      go_wp2
      go_ret
      exact ⟨retb HF.out, hB0⟩

set_option maxRecDepth 20000 in
set_option maxHeartbeats 4000000 in
theorem implLinkOk_ga (p : Lk) (wa ga da ua : Option Addr) (wc gc dc uc : Nat) (w : World) (hv : Lv w (.slice wa p.nw wc) (.slice ga p.ng gc) (.slice da p.nd dc) (.slice ua p.nu uc) p) (hs : Lsm 1048576 p) (hbo : ∀ (bn : Nat) (W' : World), Sg W' (.slice wa p.nw wc) 1 p.nw (tF p.ws) → Sg W' (.slice ga p.ng gc) 1 p.ng (tF p.gs) → bn ≤ p.ng → p.ng - bn ≤ p.nw → Calls Try.prog 36 #[.agg (l6 (bn : Int) (.slice wa p.nw wc) p.want (.slice ga p.ng gc) (.slice da p.nd dc) (.slice ua p.nu uc))] W' fun e w' => e = .returned (.bool (boB bn p.nw p.ng p.ws p.gs)) ∧ Below W'.heap.size W' w') :
    Calls Try.prog 10 #[.agg (l6 p.base (.slice wa p.nw wc) p.want (.slice ga p.ng gc) (.slice da p.nd dc) (.slice ua p.nu uc))] w fun e w' => e = .returned (.bool (lkB p)) ∧ Below w.heap.size w w' := by
  have hB0 : Below w.heap.size w (w.alloc (.cells (l6 p.base (.slice wa p.nw wc) p.want (.slice ga p.ng gc) (.slice da p.nd dc) (.slice ua p.nu uc)) 30)) := (Below.refl _ _).alloc (Nat.le_refl _) _
  have qa := heap_alloc_new w (.cells (l6 p.base (.slice wa p.nw wc) p.want (.slice ga p.ng gc) (.slice da p.nd dc) (.slice ua p.nu uc)) 30)
  obtain ⟨W, hE⟩ : ∃ W, w.alloc (.cells (l6 p.base (.slice wa p.nw wc) p.want (.slice ga p.ng gc) (.slice da p.nd dc) (.slice ua p.nu uc)) 30) = W := ⟨_, rfl⟩
  rw [hE] at hB0 qa
  have HV := hide (hv.below hB0)
  obtain ⟨_, x0, x1, x2, x3, x4, x5⟩ := box6 qa
  have HLK := hide (lk_eq p)
  have HNB : Hid (nbB p.base p.want p.nw p.ng = true → nbP p.base p.want p.nw p.ng) := hide (fun h => of_decide_eq_true h)
  obtain ⟨⟨s1, _⟩, ⟨s2, _⟩, ⟨s3, _⟩, ⟨s4, _⟩⟩ := hs
  have HN := hide (fun W' => numbers_any p.base p.want wa ga da ua p.nw p.ng p.nd p.nu wc gc dc uc W')
  have HBO := hide hbo
  have HDN := hide (fun W' (h : Sg W' (.slice da p.nd dc) 2 p.nd (wF p.dt p.dh)) => implWires_any _ p.nd p.dt p.dh W' h s3)
  have HUP := hide (fun W' (h : Sg W' (.slice ua p.nu uc) 2 p.nu (wF p.ut p.uh)) => implWires_any _ p.nu p.ut p.uh W' h s4)
  generalize lkB p = res at HLK ⊢
  generalize nbB p.base p.want p.nw p.ng = nb at HN HLK HNB
  generalize wiB p.nd p.dt = wd at HDN HLK
  generalize wiB p.nu p.ut = wu at HUP HLK
  clear hv hbo
  go_enter Try.func10, Try.ntmps10
  go_wp2_with fail
  refine (HN.out _).mono ?_
  rintro e w1 ⟨rfl, hb1⟩
  have hB1 := hB0.trans (hb1.mono hB0.size)
  have qa1 := heap_bl qa hb1
  have HV1 := hide (HV.out.below hb1)
  clear hb1 hB0 qa HV x0 x1 x2 x3 x4 x5 hE
  obtain ⟨_, x0, x1, x2, x3, x4, x5⟩ := box6 qa1
  cases nb with
  | false =>
    have HO : Hid (false = res) := hide (by rw [HLK.out]; rfl)
    go_wp2
    go_ret
    exact ⟨retb HO.out, hB1⟩
  | true =>
    obtain ⟨n1, n2, n3, n4, n5, n6⟩ := HNB.out rfl
    obtain ⟨bn, hbn⟩ := Int.eq_ofNat_of_zero_le n1
    have HBO2 := hide (fun W' h1 h2 => HBO.out bn W' h1 h2 (by omega) (by omega))
    rw [hbn] at HLK x0
    simp only [Int.toNat_natCast] at HLK
    generalize boB bn p.nw p.ng p.ws p.gs = bo at HBO2 HLK
    clear HBO HNB n1 n2 n3 n4 n5 n6 hbn HN
    go_wp2_with fail
    refine (HBO2.out _ HV1.out.wa HV1.out.go).mono ?_
    rintro e w2 ⟨rfl, hb2⟩
    have hB2 := hB1.trans (hb2.mono hB1.size)
    have qa2 := heap_bl qa1 hb2
    have HV2 := hide (HV1.out.below hb2)
    clear hb2 hB1 HV1 x0 x1 x2 x3 x4 x5
    obtain ⟨_, x0, x1, x2, x3, x4, x5⟩ := box6 qa2
    cases bo with
    | false =>
      have HO : Hid (false = res) := hide (by rw [HLK.out]; rfl)
      go_wp2
      go_ret
      exact ⟨retb HO.out, hB2⟩
    | true =>
      go_wp2_with fail
      refine (HDN.out _ HV2.out.dn).mono ?_
      rintro e w3 ⟨rfl, hb3⟩
      have hB3 := hB2.trans (hb3.mono hB2.size)
      have qa3 := heap_bl qa2 hb3
      have HV3 := hide (HV2.out.below hb3)
      clear hb3 hB2 HV2 x0 x1 x2 x3 x4 x5
      obtain ⟨_, x0, x1, x2, x3, x4, x5⟩ := box6 qa3
      cases wd with
      | false =>
        have HO : Hid (false = res) := hide (by rw [HLK.out]; rfl)
        go_wp2
        go_ret
        exact ⟨retb HO.out, hB3⟩
      | true =>
        go_wp2_with fail
        refine (HUP.out _ HV3.out.up).mono ?_
        rintro e w4 ⟨rfl, hb4⟩
        have hB4 := hB3.trans (hb4.mono hB3.size)
        have HO : Hid (wu = res) := hide (by rw [HLK.out]; cases wu <;> rfl)
        clear hb4 hB3 HV3 x0 x1 x2 x3 x4 x5
        cases wu
        all_goals
          go_wp2
          go_ret
          exact ⟨retb HO.out, hB4⟩

theorem implLinkOk_lr (p : Lk) (wa ga da ua : Option Addr) (wc gc dc uc base : Nat) (w : World) (hr : Lr w base (.slice wa p.nw wc) (.slice ga p.ng gc) (.slice da p.nd dc) (.slice ua p.nu uc) p) (hs : Lsm 1048576 p) :
    Calls Try.prog 10 #[.agg (l6 p.base (.slice wa p.nw wc) p.want (.slice ga p.ng gc) (.slice da p.nd dc) (.slice ua p.nu uc))] w fun e w' => e = .returned (.bool (lkB p)) ∧ Below w.heap.size w w' := by
  refine implLinkOk_ga p wa ga da ua wc gc dc uc w hr.lv hs (fun bn W' h1 h2 h3 h4 => ?_)
  rcases hr.go with ⟨⟨ad, e⟩, hz⟩ | ⟨g, off, k, e, q1, q2, q3, _⟩
  · simp only [Value.slice.injEq] at e
    obtain ⟨rfl, _, rfl⟩ := e
    have hb0 : bn = 0 := by omega
    subst hb0
    rw [hz]
    exact bodies_zero p.want wa ga da ua p.nw p.nd p.nu wc dc uc p.ws p.gs W' h1 hs.1.1
  · simp only [Value.slice.injEq, true_and] at e
    obtain ⟨rfl, rfl⟩ := e
    exact bodies_any p.want bn wa da ua g off p.nw p.ng p.nd p.nu wc gc dc uc p.ws p.gs W' h1 h2 h3 h4 q1 hs.2.1.1 hs.1.1

/-- a right link, plainly -/
structure Lf (p : Lk) : Prop where
  b0 : 0 ≤ p.base
  b1 : p.base ≤ 999900
  w8 : p.nw ≤ 8
  k0 : p.base ≤ p.want
  k1 : p.want ≤ p.base + p.nw
  kg : p.want = (p.ng : Int)
  ma : ∀ j, j < p.ng - p.base.toNat → p.ws j = p.gs (p.base.toNat + j)
  tw : ∀ j, j < p.nw → (p.ws j).size ≤ 8
  tg : ∀ j, j < p.ng → (p.gs j).size ≤ 8
  wd : ∀ j, j < p.nd → 7 ≤ (p.dt j).size ∧ (p.dt j).size ≤ 15
  nd : p.nd ≤ 12
  wu : ∀ j, j < p.nu → 7 ≤ (p.ut j).size ∧ (p.ut j).size ≤ 15
  nu : p.nu ≤ 12
theorem lk_iff {p : Lk} : lkB p = true ↔ Lf p := by
  unfold lkB
  simp only [Bool.and_eq_true, nbB, maB, tbB, wiB, decide_eq_true_eq]
  constructor
  · rintro ⟨⟨⟨h1, h2, h3, h4⟩, h5⟩, h6⟩
    obtain ⟨a, b, c, d, e, f⟩ := h1
    exact ⟨a, b, c, d, e, f, h2, h3, h4, h5.1, h5.2, h6.1, h6.2⟩
  · intro h
    exact ⟨⟨⟨⟨h.b0, h.b1, h.w8, h.k0, h.k1, h.kg⟩, h.ma, h.tw, h.tg⟩, h.wd, h.nd⟩, h.wu, h.nu⟩
theorem txt_le (k s : Int) (b : ByteArray) : (Flit.txt k s b).size ≤ 7 + b.size := by
  unfold Flit.txt
  split
  · rw [Flit.text_size]; exact Nat.le_refl _
  · exact Nat.zero_le _
theorem rB_le (s : ByteArray) (h : s.size ≤ 15) : (Flit.rB s).size ≤ 8 := by
  unfold Flit.rB
  split
  · rename_i hr
    have h7 : 7 ≤ s.size := (of_decide_eq_true hr).1
    rw [Flit.bd_size s h7]; omega
  · exact Nat.zero_le _

/-- the code of a bit turned -/
def flC (n : Nat) (t : Nat → ByteArray) (h : Nat → Bool) (z bit : Int) : Int := if thB n z then (if bit < 0 ∨ 8 * ((t z.toNat).size : Int) ≤ bit then 2 else if h z.toNat then 5 else 0) else 3
/-- the code of an act of a right form -/
def actC (p : Lk) (k z bit : Int) : Int :=
  if k = 1 ∨ k = 2 then 0
  else if k = 3 ∨ k = 5 then (if thB p.nd z then 0 else 3)
  else if k = 4 ∨ k = 6 then (if thB p.nu z then 0 else 3)
  else if k = 7 then flC p.nd p.dt p.dh z bit
  else flC p.nu p.ut p.uh z bit
/-- the link behind it -/
def actL (p : Lk) (k z bit : Int) (body : ByteArray) : Lk :=
  if k = 1 then offL p body
  else if k = 2 then sndL p
  else if k = 3 then comeD p z.toNat
  else if k = 4 then comeU p z.toNat
  else if k = 5 then outD p z.toNat
  else if k = 6 then outU p z.toNat
  else if k = 7 then flipD p z.toNat bit.toNat
  else flipU p z.toNat bit.toNat
theorem thB_yes {n : Nat} {z : Int} (h : thB n z = true) : ∃ m : Nat, z = (m : Int) ∧ m < n := by
  have : 0 ≤ z ∧ z < (n : Int) := by simpa [thB] using h
  exact ⟨z.toNat, by omega, by omega⟩
theorem flC_zero {n : Nat} {t : Nat → ByteArray} {h : Nat → Bool} {z bit : Int} (hc : flC n t h z bit = 0) : ∃ m b : Nat, z = (m : Int) ∧ m < n ∧ bit = (b : Int) ∧ b < 8 * (t m).size ∧ h m = false := by
  unfold flC at hc
  split at hc
  · rename_i ht
    obtain ⟨m, rfl, hm⟩ := thB_yes ht
    split at hc
    · omega
    · rename_i hb
      rw [Int.toNat_natCast] at hb hc
      split at hc
      · omega
      · rename_i hh
        exact ⟨m, bit.toNat, rfl, hm, by omega, by omega, by simpa using hh⟩
  · omega

theorem Lsm.mono {a b : Nat} {p : Lk} (h : Lsm a p) (hab : a ≤ b) : Lsm b p := by
  obtain ⟨⟨a1, a2⟩, ⟨b1, b2⟩, ⟨c1, c2⟩, ⟨d1, d2⟩⟩ := h
  exact ⟨⟨by omega, fun j hj => Nat.le_trans (a2 j hj) hab⟩, ⟨by omega, fun j hj => Nat.le_trans (b2 j hj) hab⟩, ⟨by omega, fun j hj => Nat.le_trans (c2 j hj) hab⟩, ⟨by omega, fun j hj => Nat.le_trans (d2 j hj) hab⟩⟩
theorem Lf.sm {p : Lk} (h : Lf p) : Lsm 1048576 p := by
  have := h.w8; have := h.nd; have := h.nu; have := h.kg; have := h.k1; have := h.b1
  exact ⟨⟨by omega, fun j hj => by have := h.tw j hj; omega⟩, ⟨by omega, fun j hj => by have := h.tg j hj; omega⟩, ⟨by omega, fun j hj => by have := h.wd j hj; omega⟩, ⟨by omega, fun j hj => by have := h.wu j hj; omega⟩⟩
theorem dlt_le {n b z : Nat} {t : Nat → ByteArray} (h : ∀ j, j < n → (t j).size ≤ b) : ∀ j, j < n - 1 → (dlt t z j).size ≤ b := by
  intro j hj
  unfold dlt
  split
  · exact h j (by omega)
  · exact h (j + 1) (by omega)
theorem snc_le {n b : Nat} {t : Nat → ByteArray} {x : ByteArray} (h : ∀ j, j < n → (t j).size ≤ b) (hx : x.size ≤ b) : ∀ j, j < n + 1 → (snc t n x j).size ≤ b := by
  intro j hj
  unfold snc
  split
  · exact h j (by assumption)
  · exact hx
theorem upd_le {n b z : Nat} {t : Nat → ByteArray} {x : ByteArray} (h : ∀ j, j < n → (t j).size ≤ b) (hx : x.size ≤ b) : ∀ j, j < n → (upd t z x j).size ≤ b := by
  intro j hj
  unfold upd
  split
  · exact hx
  · exact h j hj
theorem off_sm {p : Lk} {body : ByteArray} (h : Lsm 1048000 p) (hb : body.size ≤ 8) : Lsm 1048576 (offL p body) := by
  have h' := h.mono (b := 1048576) (by decide)
  refine ⟨⟨?_, snc_le h'.1.2 (by omega)⟩, h'.2⟩
  have := h.1.1
  show p.nw + 1 ≤ _
  omega
theorem snd_sm {p : Lk} (h : Lsm 1048000 p) (hw : ∀ j, j < p.nw → (p.ws j).size ≤ 8) : Lsm 1048576 (sndL p) := by
  have h' := h.mono (b := 1048576) (by decide)
  refine ⟨h'.1, h'.2.1, ⟨?_, fun j hj => ?_⟩, h'.2.2.2⟩
  · have := h.2.2.1.1
    show p.nd + min 3 p.nw ≤ _
    omega
  · have hj : j < p.nd + min 3 p.nw := hj
    show (if j < p.nd then p.dt j else fdT p (j - p.nd)).size ≤ _
    split
    · exact h'.2.2.1.2 j (by assumption)
    · have h1 := hw (j - p.nd) (by omega)
      have h2 := txt_le 1 (p.base + ((j - p.nd : Nat) : Int)) (p.ws (j - p.nd))
      unfold fdT
      omega
theorem outD_sm {b : Nat} {p : Lk} {z : Nat} (h : Lsm b p) : Lsm b (outD p z) := ⟨h.1, h.2.1, ⟨by have := h.2.2.1.1; show p.nd - 1 ≤ b; omega, dlt_le h.2.2.1.2⟩, h.2.2.2⟩
theorem outU_sm {b : Nat} {p : Lk} {z : Nat} (h : Lsm b p) : Lsm b (outU p z) := ⟨h.1, h.2.1, h.2.2.1, ⟨by have := h.2.2.2.1; show p.nu - 1 ≤ b; omega, dlt_le h.2.2.2.2⟩⟩
theorem comeD_sm {p : Lk} {z : Nat} (h : Lsm 1048000 p) (hz : (p.dt z).size ≤ 15) : Lsm 1048576 (comeD p z) := by
  unfold comeD
  split
  · have h1 : Lsm 1048000 (outD p z) := outD_sm h
    have h' := h1.mono (b := 1048576) (by decide)
    have hg : Lsm 1048576 (if dgB (outD p z) (Flit.rS (p.dt z)) then gotL (outD p z) (Flit.rB (p.dt z)) else outD p z) ∧ (if dgB (outD p z) (Flit.rS (p.dt z)) then gotL (outD p z) (Flit.rB (p.dt z)) else outD p z).nu = p.nu := by
      split
      · refine ⟨⟨h'.1, ⟨?_, snc_le h'.2.1.2 (by have := rB_le _ hz; omega)⟩, h'.2.2⟩, rfl⟩
        have := h1.2.1.1
        show (outD p z).ng + 1 ≤ _
        omega
      · exact ⟨h', rfl⟩
    unfold dgL
    generalize (if dgB (outD p z) (Flit.rS (p.dt z)) then gotL (outD p z) (Flit.rB (p.dt z)) else outD p z) = q at hg
    obtain ⟨hg, hn⟩ := hg
    refine ⟨hg.1, hg.2.1, hg.2.2.1, ⟨?_, snc_le hg.2.2.2.2 ?_⟩⟩
    · have := h.2.2.2.1
      show q.nu + 1 ≤ _
      omega
    · have := txt_le 2 q.want ⟨#[]⟩
      have e : (⟨#[]⟩ : ByteArray).size = 0 := rfl
      omega
  · exact (outD_sm h).mono (by decide)
theorem comeU_sm {b : Nat} {p : Lk} {z : Nat} (h : Lsm b p) : Lsm b (comeU p z) := by
  unfold comeU
  split
  · have h1 : Lsm b (outU p z) := outU_sm h
    unfold ackL
    split
    · refine ⟨⟨?_, fun j hj => h1.1.2 _ ?_⟩, h1.2⟩
      · have := h1.1.1
        show (outU p z).nw - _ ≤ b
        omega
      · have hj : j < (outU p z).nw - (Flit.rS (p.ut z) - (outU p z).base).toNat := hj
        omega
    · exact h1
  · exact outU_sm h
theorem flipD_sm {b : Nat} {p : Lk} {z n : Nat} (h : Lsm b p) (hz : z < p.nd) : Lsm b (flipD p z n) := ⟨h.1, h.2.1, ⟨h.2.2.1.1, upd_le h.2.2.1.2 (by rw [trn_size]; exact h.2.2.1.2 z hz)⟩, h.2.2.2⟩
theorem flipU_sm {b : Nat} {p : Lk} {z n : Nat} (h : Lsm b p) (hz : z < p.nu) : Lsm b (flipU p z n) := ⟨h.1, h.2.1, h.2.2.1, ⟨h.2.2.2.1, upd_le h.2.2.2.2 (by rw [trn_size]; exact h.2.2.2.2 z hz)⟩⟩
theorem Lf.sm2 {p : Lk} (h : Lf p) : Lsm 1048000 p := by
  have := h.w8; have := h.nd; have := h.nu; have := h.kg; have := h.k1; have := h.b1
  exact ⟨⟨by omega, fun j hj => by have := h.tw j hj; omega⟩, ⟨by omega, fun j hj => by have := h.tg j hj; omega⟩, ⟨by omega, fun j hj => by have := h.wd j hj; omega⟩, ⟨by omega, fun j hj => by have := h.wu j hj; omega⟩⟩

end Go.Proofs.Ytnkocikbapbbmaa
