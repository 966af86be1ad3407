/- LdR, LdU, LdX0, LdW, in one text -/
import Derived.Test.YtgflipkhhpkidaaZLdQ
import Derived.Test.YtgflipkhhpkidaaZLdM
/- impl.LinkOk of a link with room; what an act comes to, plainly -/
namespace Go.Proofs.Ytgflipkhhpkidaa
open Go.RowKit
set_option linter.unusedVariables false
set_option linter.unusedSimpArgs false

set_option maxRecDepth 20000 in
set_option maxHeartbeats 4000000 in
theorem bodies_zero (pk : Int) (wa ga da ua : Option Addr) (nw nd nu wc dc uc : Nat) (ws gs : Nat → ByteArray) (w : World) (hw : Sg w (.slice wa nw wc) 1 nw (tF ws)) (h5 : nw ≤ 1048576) :
    Calls Try.prog 30 #[.agg (l6 (0 : Int) (.slice wa nw wc) pk (.slice ga 0 0) (.slice da nd dc) (.slice ua nu uc))] w fun e w' => e = .returned (.bool (boB 0 nw 0 ws gs)) ∧ Below w.heap.size w w' := by
  have hg : Sg w (.slice ga 0 0) 1 0 (tF gs) := ⟨ga, 0, rfl, fun h => absurd h (by decide)⟩
  have h4 : 0 ≤ 1048576 := by decide
  have hsl : ∀ W : World, (Instr.slice 24 (.slice ga 0 0) (some (.int .i64 0)) none none).run Try.prog W = .ok (.slice ga 0 0) W := by
    intro W; cases ga <;> simp [go_sem, Try.underlying24, Instr.slice, Instr.sliceBounds, Instr.sliceBound, asIntOf, Addr.add]
  have hB0 : Below w.heap.size w (w.alloc (.cells (l6 (0 : Int) (.slice wa nw wc) pk (.slice ga 0 0) (.slice da nd dc) (.slice ua nu uc)) 27)) := (Below.refl _ _).alloc (Nat.le_refl _) _
  obtain ⟨_, x0, x1, x2, x3, x4, x5⟩ := box6 (heap_alloc_new w (.cells (l6 (0 : Int) (.slice wa nw wc) pk (.slice ga 0 0) (.slice da nd dc) (.slice ua nu uc)) 27))
  obtain ⟨W, hE⟩ : ∃ W, w.alloc (.cells (l6 (0 : Int) (.slice wa nw wc) pk (.slice ga 0 0) (.slice da nd dc) (.slice ua nu uc)) 27) = W := ⟨_, rfl⟩
  rw [hE] at hB0 x0 x1 x2 x3 x4 x5
  have HW := hide (hw.below hB0)
  have HG := hide (hg.below hB0)
  have HTW := hide (implTexts_any _ nw ws W HW.out h5)
  have HTG := hide (implTexts_any _ 0 gs W HG.out h4)
  clear hw hg
  -- the end: all that was got is there
  have fin : Hid (∀ (tw tg : Bool), tbB nw ws = tw → tbB 0 gs = tg → (∀ j, j < 0 - 0 → ws j = gs (0 + j)) → (tw && tg) = boB 0 nw 0 ws gs) := hide (fun tw tg e1 e2 h => by
    unfold boB
    rw [show maB 0 0 ws gs = true from decide_eq_true h, e1, e2, Bool.true_and])
  obtain ⟨tw, htw⟩ : ∃ tw, tbB nw ws = tw := ⟨_, rfl⟩
  obtain ⟨tg, htg⟩ : ∃ tg, tbB 0 gs = tg := ⟨_, rfl⟩
  rw [htw] at HTW
  rw [htg] at HTG
  have FIN := hide (fin.out tw tg htw htg)
  clear fin htw htg
  have HF := hide (FIN.out (fun j hj => absurd hj (by omega)))
  go_enter Try.func30, Try.ntmps30
  go_wp2
  go_loopw [11] (fun j wr => j = .int .i64 0 ∧ wr = W) (fun _ _ => 0)
  case atStart => exact ⟨rfl, rfl⟩
  case round =>
    obtain ⟨rfl, rfl⟩ := hrel
    go_wp2_with fail
    refine HTW.out.mono ?_
    rintro e w2 ⟨rfl, rfl⟩
    cases tw with
    | false =>
      go_wp2
      go_ret
      exact ⟨retb HF.out, hB0⟩
    | true =>
      go_wp2_with fail
      refine HTG.out.mono ?_
      rintro e w2 ⟨rfl, rfl⟩
      go_wp2
      go_ret
      exact ⟨retb HF.out, hB0⟩

set_option maxRecDepth 20000 in
set_option maxHeartbeats 4000000 in
theorem implLinkOk_ga (p : Lk) (wa ga da ua : Option Addr) (wc gc dc uc : Nat) (w : World) (hv : Lv w (.slice wa p.nw wc) (.slice ga p.ng gc) (.slice da p.nd dc) (.slice ua p.nu uc) p) (hs : Lsm 1048576 p) (hbo : ∀ (bn : Nat) (W' : World), Sg W' (.slice wa p.nw wc) 1 p.nw (tF p.ws) → Sg W' (.slice ga p.ng gc) 1 p.ng (tF p.gs) → bn ≤ p.ng → p.ng - bn ≤ p.nw → Calls Try.prog 30 #[.agg (l6 (bn : Int) (.slice wa p.nw wc) p.want (.slice ga p.ng gc) (.slice da p.nd dc) (.slice ua p.nu uc))] W' fun e w' => e = .returned (.bool (boB bn p.nw p.ng p.ws p.gs)) ∧ Below W'.heap.size W' w') :
    Calls Try.prog 12 #[.agg (l6 p.base (.slice wa p.nw wc) p.want (.slice ga p.ng gc) (.slice da p.nd dc) (.slice ua p.nu uc))] w fun e w' => e = .returned (.bool (lkB p)) ∧ Below w.heap.size w w' := by
  have hB0 : Below w.heap.size w (w.alloc (.cells (l6 p.base (.slice wa p.nw wc) p.want (.slice ga p.ng gc) (.slice da p.nd dc) (.slice ua p.nu uc)) 27)) := (Below.refl _ _).alloc (Nat.le_refl _) _
  have qa := heap_alloc_new w (.cells (l6 p.base (.slice wa p.nw wc) p.want (.slice ga p.ng gc) (.slice da p.nd dc) (.slice ua p.nu uc)) 27)
  obtain ⟨W, hE⟩ : ∃ W, w.alloc (.cells (l6 p.base (.slice wa p.nw wc) p.want (.slice ga p.ng gc) (.slice da p.nd dc) (.slice ua p.nu uc)) 27) = W := ⟨_, rfl⟩
  rw [hE] at hB0 qa
  have HV := hide (hv.below hB0)
  obtain ⟨_, x0, x1, x2, x3, x4, x5⟩ := box6 qa
  have HLK := hide (lk_eq p)
  have HNB : Hid (nbB p.base p.want p.nw p.ng = true → nbP p.base p.want p.nw p.ng) := hide (fun h => of_decide_eq_true h)
  obtain ⟨⟨s1, _⟩, ⟨s2, _⟩, ⟨s3, _⟩, ⟨s4, _⟩⟩ := hs
  have HN := hide (fun W' => numbers_any p.base p.want wa ga da ua p.nw p.ng p.nd p.nu wc gc dc uc W')
  have HBO := hide hbo
  have HDN := hide (fun W' (h : Sg W' (.slice da p.nd dc) 2 p.nd (wF p.dt p.dh)) => implWires_any _ p.nd p.dt p.dh W' h s3)
  have HUP := hide (fun W' (h : Sg W' (.slice ua p.nu uc) 2 p.nu (wF p.ut p.uh)) => implWires_any _ p.nu p.ut p.uh W' h s4)
  generalize lkB p = res at HLK ⊢
  generalize nbB p.base p.want p.nw p.ng = nb at HN HLK HNB
  generalize wiB p.nd p.dt = wd at HDN HLK
  generalize wiB p.nu p.ut = wu at HUP HLK
  clear hv hbo
  go_enter Try.func12, Try.ntmps12
  go_wp2_with fail
  refine (HN.out _).mono ?_
  rintro e w1 ⟨rfl, hb1⟩
  have hB1 := hB0.trans (hb1.mono hB0.size)
  have qa1 := heap_bl qa hb1
  have HV1 := hide (HV.out.below hb1)
  clear hb1 hB0 qa HV x0 x1 x2 x3 x4 x5 hE
  obtain ⟨_, x0, x1, x2, x3, x4, x5⟩ := box6 qa1
  cases nb with
  | false =>
    have HO : Hid (false = res) := hide (by rw [HLK.out]; rfl)
    go_wp2
    go_ret
    exact ⟨retb HO.out, hB1⟩
  | true =>
    obtain ⟨n1, n2, n3, n4, n5, n6⟩ := HNB.out rfl
    obtain ⟨bn, hbn⟩ := Int.eq_ofNat_of_zero_le n1
    have HBO2 := hide (fun W' h1 h2 => HBO.out bn W' h1 h2 (by omega) (by omega))
    rw [hbn] at HLK x0
    simp only [Int.toNat_natCast] at HLK
    generalize boB bn p.nw p.ng p.ws p.gs = bo at HBO2 HLK
    clear HBO HNB n1 n2 n3 n4 n5 n6 hbn HN
    go_wp2_with fail
    refine (HBO2.out _ HV1.out.wa HV1.out.go).mono ?_
    rintro e w2 ⟨rfl, hb2⟩
    have hB2 := hB1.trans (hb2.mono hB1.size)
    have qa2 := heap_bl qa1 hb2
    have HV2 := hide (HV1.out.below hb2)
    clear hb2 hB1 HV1 x0 x1 x2 x3 x4 x5
    obtain ⟨_, x0, x1, x2, x3, x4, x5⟩ := box6 qa2
    cases bo with
    | false =>
      have HO : Hid (false = res) := hide (by rw [HLK.out]; rfl)
      go_wp2
      go_ret
      exact ⟨retb HO.out, hB2⟩
    | true =>
      go_wp2_with fail
      refine (HDN.out _ HV2.out.dn).mono ?_
      rintro e w3 ⟨rfl, hb3⟩
      have hB3 := hB2.trans (hb3.mono hB2.size)
      have qa3 := heap_bl qa2 hb3
      have HV3 := hide (HV2.out.below hb3)
      clear hb3 hB2 HV2 x0 x1 x2 x3 x4 x5
      obtain ⟨_, x0, x1, x2, x3, x4, x5⟩ := box6 qa3
      cases wd with
      | false =>
        have HO : Hid (false = res) := hide (by rw [HLK.out]; rfl)
        go_wp2
        go_ret
        exact ⟨retb HO.out, hB3⟩
      | true =>
        go_wp2_with fail
        refine (HUP.out _ HV3.out.up).mono ?_
        rintro e w4 ⟨rfl, hb4⟩
        have hB4 := hB3.trans (hb4.mono hB3.size)
        have HO : Hid (wu = res) := hide (by rw [HLK.out]; cases wu <;> rfl)
        clear hb4 hB3 HV3 x0 x1 x2 x3 x4 x5
        cases wu
        all_goals
          go_wp2
          go_ret
          exact ⟨retb HO.out, hB4⟩

theorem implLinkOk_lr (p : Lk) (wa ga da ua : Option Addr) (wc gc dc uc base : Nat) (w : World) (hr : Lr w base (.slice wa p.nw wc) (.slice ga p.ng gc) (.slice da p.nd dc) (.slice ua p.nu uc) p) (hs : Lsm 1048576 p) :
    Calls Try.prog 12 #[.agg (l6 p.base (.slice wa p.nw wc) p.want (.slice ga p.ng gc) (.slice da p.nd dc) (.slice ua p.nu uc))] w fun e w' => e = .returned (.bool (lkB p)) ∧ Below w.heap.size w w' := by
  refine implLinkOk_ga p wa ga da ua wc gc dc uc w hr.lv hs (fun bn W' h1 h2 h3 h4 => ?_)
  rcases hr.go with ⟨⟨ad, e⟩, hz⟩ | ⟨g, off, k, e, q1, q2, q3, _⟩
  · simp only [Value.slice.injEq] at e
    obtain ⟨rfl, _, rfl⟩ := e
    have hb0 : bn = 0 := by omega
    subst hb0
    rw [hz]
    exact bodies_zero p.want wa ga da ua p.nw p.nd p.nu wc dc uc p.ws p.gs W' h1 hs.1.1
  · simp only [Value.slice.injEq, true_and] at e
    obtain ⟨rfl, rfl⟩ := e
    exact bodies_any p.want bn wa da ua g off p.nw p.ng p.nd p.nu wc gc dc uc p.ws p.gs W' h1 h2 h3 h4 q1 hs.2.1.1 hs.1.1

/-- a right link, plainly -/
structure Lf (p : Lk) : Prop where
  b0 : 0 ≤ p.base
  b1 : p.base ≤ 999900
  w8 : p.nw ≤ 8
  k0 : p.base ≤ p.want
  k1 : p.want ≤ p.base + p.nw
  kg : p.want = (p.ng : Int)
  ma : ∀ j, j < p.ng - p.base.toNat → p.ws j = p.gs (p.base.toNat + j)
  tw : ∀ j, j < p.nw → (p.ws j).size ≤ 8
  tg : ∀ j, j < p.ng → (p.gs j).size ≤ 8
  wd : ∀ j, j < p.nd → 7 ≤ (p.dt j).size ∧ (p.dt j).size ≤ 15
  nd : p.nd ≤ 12
  wu : ∀ j, j < p.nu → 7 ≤ (p.ut j).size ∧ (p.ut j).size ≤ 15
  nu : p.nu ≤ 12
theorem lk_iff {p : Lk} : lkB p = true ↔ Lf p := by
  unfold lkB
  simp only [Bool.and_eq_true, nbB, maB, tbB, wiB, decide_eq_true_eq]
  constructor
  · rintro ⟨⟨⟨h1, h2, h3, h4⟩, h5⟩, h6⟩
    obtain ⟨a, b, c, d, e, f⟩ := h1
    exact ⟨a, b, c, d, e, f, h2, h3, h4, h5.1, h5.2, h6.1, h6.2⟩
  · intro h
    exact ⟨⟨⟨⟨h.b0, h.b1, h.w8, h.k0, h.k1, h.kg⟩, h.ma, h.tw, h.tg⟩, h.wd, h.nd⟩, h.wu, h.nu⟩
theorem txt_le (k s : Int) (b : ByteArray) : (Flit.txt k s b).size ≤ 7 + b.size := by
  unfold Flit.txt
  split
  · rw [Flit.text_size]; exact Nat.le_refl _
  · exact Nat.zero_le _
theorem rB_le (s : ByteArray) (h : s.size ≤ 15) : (Flit.rB s).size ≤ 8 := by
  unfold Flit.rB
  split
  · rename_i hr
    have h7 : 7 ≤ s.size := (of_decide_eq_true hr).1
    rw [Flit.bd_size s h7]; omega
  · exact Nat.zero_le _

/-- the code of a bit turned -/
def flC (n : Nat) (t : Nat → ByteArray) (h : Nat → Bool) (z bit : Int) : Int := if thB n z then (if bit < 0 ∨ 8 * ((t z.toNat).size : Int) ≤ bit then 2 else if h z.toNat then 5 else 0) else 3
/-- the code of an act of a right form -/
def actC (p : Lk) (k z bit : Int) : Int :=
  if k = 1 ∨ k = 2 then 0
  else if k = 3 ∨ k = 5 then (if thB p.nd z then 0 else 3)
  else if k = 4 ∨ k = 6 then (if thB p.nu z then 0 else 3)
  else if k = 7 then flC p.nd p.dt p.dh z bit
  else flC p.nu p.ut p.uh z bit
/-- the link behind it -/
def actL (p : Lk) (k z bit : Int) (body : ByteArray) : Lk :=
  if k = 1 then offL p body
  else if k = 2 then sndL p
  else if k = 3 then comeD p z.toNat
  else if k = 4 then comeU p z.toNat
  else if k = 5 then outD p z.toNat
  else if k = 6 then outU p z.toNat
  else if k = 7 then flipD p z.toNat bit.toNat
  else flipU p z.toNat bit.toNat
theorem thB_yes {n : Nat} {z : Int} (h : thB n z = true) : ∃ m : Nat, z = (m : Int) ∧ m < n := by
  have : 0 ≤ z ∧ z < (n : Int) := by simpa [thB] using h
  exact ⟨z.toNat, by omega, by omega⟩
theorem flC_zero {n : Nat} {t : Nat → ByteArray} {h : Nat → Bool} {z bit : Int} (hc : flC n t h z bit = 0) : ∃ m b : Nat, z = (m : Int) ∧ m < n ∧ bit = (b : Int) ∧ b < 8 * (t m).size ∧ h m = false := by
  unfold flC at hc
  split at hc
  · rename_i ht
    obtain ⟨m, rfl, hm⟩ := thB_yes ht
    split at hc
    · omega
    · rename_i hb
      rw [Int.toNat_natCast] at hb hc
      split at hc
      · omega
      · rename_i hh
        exact ⟨m, bit.toNat, rfl, hm, by omega, by omega, by simpa using hh⟩
  · omega

theorem Lsm.mono {a b : Nat} {p : Lk} (h : Lsm a p) (hab : a ≤ b) : Lsm b p := by
  obtain ⟨⟨a1, a2⟩, ⟨b1, b2⟩, ⟨c1, c2⟩, ⟨d1, d2⟩⟩ := h
  exact ⟨⟨by omega, fun j hj => Nat.le_trans (a2 j hj) hab⟩, ⟨by omega, fun j hj => Nat.le_trans (b2 j hj) hab⟩, ⟨by omega, fun j hj => Nat.le_trans (c2 j hj) hab⟩, ⟨by omega, fun j hj => Nat.le_trans (d2 j hj) hab⟩⟩
theorem Lf.sm {p : Lk} (h : Lf p) : Lsm 1048576 p := by
  have := h.w8; have := h.nd; have := h.nu; have := h.kg; have := h.k1; have := h.b1
  exact ⟨⟨by omega, fun j hj => by have := h.tw j hj; omega⟩, ⟨by omega, fun j hj => by have := h.tg j hj; omega⟩, ⟨by omega, fun j hj => by have := h.wd j hj; omega⟩, ⟨by omega, fun j hj => by have := h.wu j hj; omega⟩⟩
theorem dlt_le {n b z : Nat} {t : Nat → ByteArray} (h : ∀ j, j < n → (t j).size ≤ b) : ∀ j, j < n - 1 → (dlt t z j).size ≤ b := by
  intro j hj
  unfold dlt
  split
  · exact h j (by omega)
  · exact h (j + 1) (by omega)
theorem snc_le {n b : Nat} {t : Nat → ByteArray} {x : ByteArray} (h : ∀ j, j < n → (t j).size ≤ b) (hx : x.size ≤ b) : ∀ j, j < n + 1 → (snc t n x j).size ≤ b := by
  intro j hj
  unfold snc
  split
  · exact h j (by assumption)
  · exact hx
theorem upd_le {n b z : Nat} {t : Nat → ByteArray} {x : ByteArray} (h : ∀ j, j < n → (t j).size ≤ b) (hx : x.size ≤ b) : ∀ j, j < n → (upd t z x j).size ≤ b := by
  intro j hj
  unfold upd
  split
  · exact hx
  · exact h j hj
theorem off_sm {p : Lk} {body : ByteArray} (h : Lsm 1048000 p) (hb : body.size ≤ 8) : Lsm 1048576 (offL p body) := by
  have h' := h.mono (b := 1048576) (by decide)
  refine ⟨⟨?_, snc_le h'.1.2 (by omega)⟩, h'.2⟩
  have := h.1.1
  show p.nw + 1 ≤ _
  omega
theorem snd_sm {p : Lk} (h : Lsm 1048000 p) (hw : ∀ j, j < p.nw → (p.ws j).size ≤ 8) : Lsm 1048576 (sndL p) := by
  have h' := h.mono (b := 1048576) (by decide)
  refine ⟨h'.1, h'.2.1, ⟨?_, fun j hj => ?_⟩, h'.2.2.2⟩
  · have := h.2.2.1.1
    show p.nd + min 3 p.nw ≤ _
    omega
  · have hj : j < p.nd + min 3 p.nw := hj
    show (if j < p.nd then p.dt j else fdT p (j - p.nd)).size ≤ _
    split
    · exact h'.2.2.1.2 j (by assumption)
    · have h1 := hw (j - p.nd) (by omega)
      have h2 := txt_le 1 (p.base + ((j - p.nd : Nat) : Int)) (p.ws (j - p.nd))
      unfold fdT
      omega
theorem outD_sm {b : Nat} {p : Lk} {z : Nat} (h : Lsm b p) : Lsm b (outD p z) := ⟨h.1, h.2.1, ⟨by have := h.2.2.1.1; show p.nd - 1 ≤ b; omega, dlt_le h.2.2.1.2⟩, h.2.2.2⟩
theorem outU_sm {b : Nat} {p : Lk} {z : Nat} (h : Lsm b p) : Lsm b (outU p z) := ⟨h.1, h.2.1, h.2.2.1, ⟨by have := h.2.2.2.1; show p.nu - 1 ≤ b; omega, dlt_le h.2.2.2.2⟩⟩
theorem comeD_sm {p : Lk} {z : Nat} (h : Lsm 1048000 p) (hz : (p.dt z).size ≤ 15) : Lsm 1048576 (comeD p z) := by
  unfold comeD
  split
  · have h1 : Lsm 1048000 (outD p z) := outD_sm h
    have h' := h1.mono (b := 1048576) (by decide)
    have hg : Lsm 1048576 (if dgB (outD p z) (Flit.rS (p.dt z)) then gotL (outD p z) (Flit.rB (p.dt z)) else outD p z) ∧ (if dgB (outD p z) (Flit.rS (p.dt z)) then gotL (outD p z) (Flit.rB (p.dt z)) else outD p z).nu = p.nu := by
      split
      · refine ⟨⟨h'.1, ⟨?_, snc_le h'.2.1.2 (by have := rB_le _ hz; omega)⟩, h'.2.2⟩, rfl⟩
        have := h1.2.1.1
        show (outD p z).ng + 1 ≤ _
        omega
      · exact ⟨h', rfl⟩
    unfold dgL
    generalize (if dgB (outD p z) (Flit.rS (p.dt z)) then gotL (outD p z) (Flit.rB (p.dt z)) else outD p z) = q at hg
    obtain ⟨hg, hn⟩ := hg
    refine ⟨hg.1, hg.2.1, hg.2.2.1, ⟨?_, snc_le hg.2.2.2.2 ?_⟩⟩
    · have := h.2.2.2.1
      show q.nu + 1 ≤ _
      omega
    · have := txt_le 2 q.want ⟨#[]⟩
      have e : (⟨#[]⟩ : ByteArray).size = 0 := rfl
      omega
  · exact (outD_sm h).mono (by decide)
theorem comeU_sm {b : Nat} {p : Lk} {z : Nat} (h : Lsm b p) : Lsm b (comeU p z) := by
  unfold comeU
  split
  · have h1 : Lsm b (outU p z) := outU_sm h
    unfold ackL
    split
    · refine ⟨⟨?_, fun j hj => h1.1.2 _ ?_⟩, h1.2⟩
      · have := h1.1.1
        show (outU p z).nw - _ ≤ b
        omega
      · have hj : j < (outU p z).nw - (Flit.rS (p.ut z) - (outU p z).base).toNat := hj
        omega
    · exact h1
  · exact outU_sm h
theorem flipD_sm {b : Nat} {p : Lk} {z n : Nat} (h : Lsm b p) (hz : z < p.nd) : Lsm b (flipD p z n) := ⟨h.1, h.2.1, ⟨h.2.2.1.1, upd_le h.2.2.1.2 (by rw [trn_size]; exact h.2.2.1.2 z hz)⟩, h.2.2.2⟩
theorem flipU_sm {b : Nat} {p : Lk} {z n : Nat} (h : Lsm b p) (hz : z < p.nu) : Lsm b (flipU p z n) := ⟨h.1, h.2.1, h.2.2.1, ⟨h.2.2.2.1, upd_le h.2.2.2.2 (by rw [trn_size]; exact h.2.2.2.2 z hz)⟩⟩
theorem Lf.sm2 {p : Lk} (h : Lf p) : Lsm 1048000 p := by
  have := h.w8; have := h.nd; have := h.nu; have := h.kg; have := h.k1; have := h.b1
  exact ⟨⟨by omega, fun j hj => by have := h.tw j hj; omega⟩, ⟨by omega, fun j hj => by have := h.tg j hj; omega⟩, ⟨by omega, fun j hj => by have := h.wd j hj; omega⟩, ⟨by omega, fun j hj => by have := h.wu j hj; omega⟩⟩

end Go.Proofs.Ytgflipkhhpkidaa

/- links as arguments: rows of any place; LinkOk of both sides; appends onto an empty row; a region's states -/
namespace Go.Proofs.Ytgflipkhhpkidaa
open Go.RowKit
set_option linter.unusedVariables false
set_option linter.unusedSimpArgs false

/-- a row's form: nothing and no room, or a place and room -/
def Gf (v : Value) (n : Nat) : Prop := (∃ ad, v = .slice ad 0 0 ∧ n = 0) ∨ ∃ g off k, v = .slice (some ⟨g, off, none⟩) n k ∧ n ≤ k
theorem Gf.form {v : Value} {n : Nat} (h : Gf v n) : ∃ a c, v = .slice a n c ∧ n ≤ c := by
  rcases h with ⟨ad, rfl, rfl⟩ | ⟨g, off, k, rfl, h⟩
  · exact ⟨ad, 0, rfl, Nat.le_refl _⟩
  · exact ⟨_, _, rfl, h⟩
theorem Gf.pl {v : Value} {n : Nat} (h : Gf v n) : Pl v n := by
  rcases h with ⟨ad, rfl, rfl⟩ | ⟨g, off, k, rfl, h⟩
  · cases ad with
    | none => exact .inl ⟨rfl, rfl⟩
    | some a => exact .inr ⟨a, 0, rfl⟩
  · exact .inr ⟨_, k, rfl⟩
theorem Rg.gf {w : World} {base n : Nat} {v : Value} {m : Nat} {f : Nat → Nat → Value} (h : Rg w base v m n f) : Gf v n := by
  rcases h with ⟨⟨ad, rfl⟩, rfl⟩ | ⟨g, off, k, rfl, h1, _⟩
  · exact .inl ⟨ad, rfl, rfl⟩
  · exact .inr ⟨g, off, k, rfl, h1⟩
/-- a link that is handed in -/
structure La (w : World) (wv gv dv uv : Value) (p : Lk) : Prop where
  lv : Lv w wv gv dv uv p
  fw : Gf wv p.nw
  fg : Gf gv p.ng
  fd : Gf dv p.nd
  fu : Gf uv p.nu
theorem La.below {w w' : World} {wv gv dv uv : Value} {p : Lk} (h : La w wv gv dv uv p) (hb : Below w.heap.size w w') : La w' wv gv dv uv p := ⟨h.lv.below hb, h.fw, h.fg, h.fd, h.fu⟩
theorem Lr.la {w : World} {base : Nat} {wv gv dv uv : Value} {p : Lk} (h : Lr w base wv gv dv uv p) : La w wv gv dv uv p := ⟨h.lv, h.wa.gf, h.go.gf, h.dn.gf, h.up.gf⟩
theorem Lo.la {w : World} {base gw gg gd gu : Nat} {p : Lk} (h : Lo w base gw gg gd gu p) : La w (sln gw p.nw) (sln gg p.ng) (sln gd p.nd) (sln gu p.nu) p := ⟨h.lv, .inr ⟨_, _, _, rfl, Nat.le_refl _⟩, .inr ⟨_, _, _, rfl, Nat.le_refl _⟩, .inr ⟨_, _, _, rfl, Nat.le_refl _⟩, .inr ⟨_, _, _, rfl, Nat.le_refl _⟩⟩
theorem La.slices {w : World} {wv gv dv uv : Value} {p : Lk} (h : La w wv gv dv uv p) : ∃ wa ga da ua wc gc dc uc, wv = .slice wa p.nw wc ∧ gv = .slice ga p.ng gc ∧ dv = .slice da p.nd dc ∧ uv = .slice ua p.nu uc := by
  obtain ⟨wa, wc, h1, _⟩ := h.fw.form
  obtain ⟨ga, gc, h2, _⟩ := h.fg.form
  obtain ⟨da, dc, h3, _⟩ := h.fd.form
  obtain ⟨ua, uc, h4, _⟩ := h.fu.form
  exact ⟨wa, ga, da, ua, wc, gc, dc, uc, h1, h2, h3, h4⟩
theorem implLinkOk_la (b : Bool) (p : Lk) (wv gv dv uv : Value) (w : World) (hb : lkB p = b) (hr : La w wv gv dv uv p) (hs : Lsm 1048576 p) :
    Calls Try.prog 12 #[.agg (l6 p.base wv p.want gv dv uv)] w fun e w' => e = .returned (.bool b) ∧ Below w.heap.size w w' := by
  subst hb
  have hg := hr.fg
  obtain ⟨wa, ga, da, ua, wc, gc, dc, uc, rfl, rfl, rfl, rfl⟩ := hr.slices
  refine implLinkOk_ga p wa ga da ua wc gc dc uc w hr.lv hs (fun bn W' h1 h2 h3 h4 => ?_)
  rcases hg with ⟨ad, e, hz⟩ | ⟨g, off, k, e, q1⟩
  · simp only [Value.slice.injEq] at e
    obtain ⟨rfl, _, rfl⟩ := e
    have hb0 : bn = 0 := by omega
    subst hb0
    rw [hz]
    exact bodies_zero p.want wa ga da ua p.nw p.nd p.nu wc dc uc p.ws p.gs W' h1 hs.1.1
  · simp only [Value.slice.injEq, true_and] at e
    obtain ⟨rfl, rfl⟩ := e
    exact bodies_any p.want bn wa da ua g off p.nw p.ng p.nd p.nu wc gc dc uc p.ws p.gs W' h1 h2 h3 h4 q1 hs.2.1.1 hs.1.1

/-- a row appended to an empty one -/
theorem app_copy (W : World) (m n bytes g : Nat) (row : Value) (f : Nat → Nat → Value) (t ty e : TypeId) (i0 : TypeInfo) (z : Value) (ht : Try.prog.underlying t = some (.slice e)) (hi : Try.prog.info? e = some i0) (hz0 : i0.zero = some z) (hz1 : i0.size = m) (hz2 : i0.bytes = bytes) (hzs : z.cells.size = m) (hm : 0 < m) (hf : Gf row n) (hs : Sg W row m n f) (hn : n ≤ maxLen) (hby : n * bytes ≤ 140737488355328) :
    ∃ v w', (Builtin.append_ #[t, t] ty #[.slice (some ⟨g, 0, none⟩) 0 0, row]).run Try.prog W = .ok v w' ∧ Mv nob W w' ∧ Rg w' W.heap.size v m n f := by
  obtain ⟨a, c, rfl, hc⟩ := hf.form
  by_cases h0 : n = 0
  · subst h0
    exact ⟨_, _, append_zero W t ty e i0 ht hi _ _ 0 0 c (Nat.le_refl _), Mv.refl _ _, .inl ⟨⟨_, rfl⟩, rfl⟩⟩
  · rcases hf with ⟨ad, e, hz⟩ | ⟨g2, off, k, e, q1⟩
    · exact absurd hz h0
    · simp only [Value.slice.injEq, true_and] at e
      obtain ⟨rfl, rfl⟩ := e
      obtain ⟨v', w', hrn, hown, hgr⟩ := run_append_arg_grows (P := Try.prog) W t ty _ i0 z m bytes ht hi hz0 hz1 hz2 hzs hm ⟨g, 0, none⟩ 0 0 [] (by simp) (by simp) ⟨g2, off, none⟩ n c (rowG m n f) (rowG_len _ _ _) (Rg.news hm hs) (by omega) (by omega) (by rw [Nat.zero_add]; exact hby)
      refine ⟨v', w', hrn, Mv.of_below ⟨hgr.os, hgr.tape, hgr.output, hgr.size, fun j hj => hgr.block j hj (by simp)⟩, ?_⟩
      have := own_rg (f := f) hown (fun x hx => by simpa using rowG_get (m := m) (n := n) (f := f) (by simpa using hx))
      simpa using this
theorem copy_texts (W : World) (n g : Nat) (row : Value) (s : Nat → ByteArray) (ty : TypeId) (hf : Gf row n) (hs : Sg W row 1 n (tF s)) (hn : n ≤ 1048576) : ∃ v w', (Builtin.append_ #[24, 24] ty #[.slice (some ⟨g, 0, none⟩) 0 0, row]).run Try.prog W = .ok v w' ∧ Mv nob W w' ∧ Rg w' W.heap.size v 1 n (tF s) := by
  obtain ⟨i0, hi, hz0, hz1, hz2⟩ := info_parts infoStr
  exact app_copy W 1 n 16 g row _ _ ty 9 i0 _ Try.underlying24 hi hz0 hz1 hz2 rfl (by decide) hf hs (by unfold maxLen; omega) (by omega)
theorem copy_wires (W : World) (n g : Nat) (row : Value) (s : Nat → ByteArray) (h : Nat → Bool) (ty : TypeId) (hf : Gf row n) (hs : Sg W row 2 n (wF s h)) (hn : n ≤ 1048576) : ∃ v w', (Builtin.append_ #[25, 25] ty #[.slice (some ⟨g, 0, none⟩) 0 0, row]).run Try.prog W = .ok v w' ∧ Mv nob W w' ∧ Rg w' W.heap.size v 2 n (wF s h) := by
  obtain ⟨i0, hi, hz0, hz1, hz2⟩ := info_parts infoWi
  exact app_copy W 2 n 24 g row _ _ ty 70 i0 _ Try.underlying25 hi hz0 hz1 hz2 rfl (by decide) hf hs (by unfold maxLen; omega) (by omega)

section
variable {P : Program} {ops : Array Oper} {Q : Exit → Act → World → Prop} {md : Region.Mode} {R : Nat → World → Prop} {S : World → Prop} {z i n : Nat} {o : Oper} {done : Array Bool} {a : Act} {w : World}
def AllM (F : Nat → Prop) : List Nat → Prop
  | [] => True
  | i :: l => F i ∧ AllM F l
theorem AllM.mem {F : Nat → Prop} : ∀ {l : List Nat}, AllM F l → ∀ i ∈ l, F i
  | [], _, i, h => by cases h
  | j :: l, h, i, hi => by
    rcases List.mem_cons.1 hi with rfl | hi
    · exact h.1
    · exact AllM.mem h.2 i hi
/-- one of several operations that may come next -/
def KD (P : Program) (md : Region.Mode) (ops : Array Oper) (Q : Exit → Act → World → Prop) (S : World → Prop) (z n : Nat) (done : Array Bool) (a : Act) (w : World) (i : Nat) : Prop :=
  ∃ o v w', ops[i]? = some o ∧ Region.wanted o (yielded ops a.tmps) = true ∧ (execOp a.eval o).run P w = .ok (.value v) w' ∧ (i ≠ z → S w') ∧ wpAnyK P md ops Q (But S z) n (done.setIfInBounds i true) (a.put o.dst v) w'
theorem kd_many {l : List Nat} (hr : Region.ready md ops done = l) (hl : l.isEmpty = false) (h : AllM (KD P md ops Q S z n done a w) l) : wpAnyK P md ops Q (But S z) (n + 1) done a w := by
  refine ⟨fun h0 => (by rw [hr] at h0; rw [h0] at hl; cases hl), fun j hj => ?_⟩
  rw [hr] at hj
  obtain ⟨o, v, w', ho, hw, hrn, hS, hk⟩ := h.mem j hj
  refine wpOp_step ho (fun K' hK => ?_)
  rw [if_pos hw]
  unfold Oper.wp
  rw [hrn]
  exact hK _ _ ⟨hS, hk⟩
theorem region_states (h : ∀ G : Nat → Array Bool → Array Value → World → Prop, (∀ n done tm V, G n done tm V = wpAnyK P md ops Q R n done ⟨tm, a.defers⟩ V) → G n done a.tmps w) : wpAnyK P md ops Q R n done a w := by
  have := h (fun n done tm V => wpAnyK P md ops Q R n done ⟨tm, a.defers⟩ V) (fun _ _ _ _ => rfl)
  cases a; exact this
end

end Go.Proofs.Ytgflipkhhpkidaa

/- spec.l8Down, spec.l8Up (written by mkLdX.py) -/
namespace Go.Proofs.Ytgflipkhhpkidaa
open Go.RowKit
set_option linter.unusedVariables false
set_option linter.unusedSimpArgs false

def downL (p : Lk) (s : ByteArray) : Lk := if Flit.rd s && decide (Flit.rK s = 1) then dgL p (Flit.rS s) (Flit.rB s) else p
def upL (p : Lk) (s : ByteArray) : Lk := if Flit.rd s && decide (Flit.rK s = 2) then ackL p (Flit.rS s) else p
theorem Lr.num {w : World} {base : Nat} {wv gv dv uv : Value} {p : Lk} (h : Lr w base wv gv dv uv p) (x y : Int) : Lr w base wv gv dv uv { p with base := x, want := y } := ⟨h.wa, h.go, h.dn, h.up, h.aw, h.ag, h.ad⟩
theorem comeD_eq (p : Lk) (z : Nat) : comeD p z = downL (outD p z) (p.dt z) := rfl
theorem comeU_eq (p : Lk) (z : Nat) : comeU p z = upL (outU p z) (p.ut z) := rfl
theorem l8Text_ack (s : Int) (w : World) (h0 : 0 ≤ s) (h1 : s ≤ 1000000) : Calls Try.prog 57 #[.agg #[.int .i64 2, .int .i64 s, .string ⟨#[]⟩]] w fun e w' => e = .returned (.string (Flit.txt 2 s ⟨#[]⟩)) ∧ Below w.heap.size w w' := by
  obtain ⟨n, rfl⟩ := Int.eq_ofNat_of_zero_le h0
  have e : Flit.txt 2 (n : Int) ⟨#[]⟩ = Flit.text 2 n ⟨#[]⟩ := by
    have hk : Flit.ok 2 (n : Int) ⟨#[]⟩ = true := by simp [Flit.ok]; first | omega | exact ⟨by omega, rfl⟩ | rfl
    unfold Flit.txt
    rw [if_pos hk]
    rfl
  rw [e]
  exact l8Text_any 2 n ⟨#[]⟩ w (by omega) (.inr rfl) (Nat.zero_le _)
theorem l8Text_data (s : Int) (b : ByteArray) (w : World) (h0 : 0 ≤ s) (h1 : s ≤ 1000000) (h8 : b.size ≤ 8) : Calls Try.prog 57 #[.agg #[.int .i64 1, .int .i64 s, .string b]] w fun e w' => e = .returned (.string (Flit.txt 1 s b)) ∧ Below w.heap.size w w' := by
  obtain ⟨n, rfl⟩ := Int.eq_ofNat_of_zero_le h0
  have e : Flit.txt 1 (n : Int) b = Flit.text 1 n b := by
    have hk : Flit.ok 1 (n : Int) b = true := by rw [Flit.ok_one ⟨h0, h1⟩]; exact decide_eq_true h8
    unfold Flit.txt
    rw [if_pos hk]
    rfl
  rw [e]
  exact l8Text_any 1 n b w (by omega) (.inl rfl) h8
theorem sread_as (s : ByteArray) (b : Bool) (h : Flit.rd s = b) (w : World) (hl : s.size ≤ 15) : Calls Try.prog 74 #[.string s] w fun e w' => e = .returned (.tuple #[.agg #[.int .i64 (Flit.rK s), .int .i64 (Flit.rS s), .string (Flit.rB s)], .bool b]) ∧ Below w.heap.size w w' := by
  subst h; exact specRead_any s w (by omega)

end Go.Proofs.Ytgflipkhhpkidaa

/- spec.LinkOk of a link whose rows lie anywhere, or are nil -/
namespace Go.Proofs.Ytgflipkhhpkidaa
open Go.RowKit
set_option linter.unusedVariables false
set_option linter.unusedSimpArgs false

theorem app_texts_o (W : World) (base : Nat) (v : Value) (n : Nat) (xs : List Value) (ad : Option Addr) (m c : Nat) (s : Nat → ByteArray) (ty : TypeId) (ho : W.ownsRow base 9 1 v n xs) (hs : Sg W (.slice ad m c) 1 m (tF s)) (hb : base ≤ W.heap.size) (hl : n + m ≤ 4194304) :
    ∃ v' w', (Builtin.append_ #[24, 24] ty #[v, .slice ad m c]).run Try.prog W = .ok v' w' ∧ w'.ownsRow base 9 1 v' (n + m) (xs ++ tl m s) ∧ W.grownBy w' v.ownBlock := by
  by_cases h0 : m = 0
  · subst h0
    obtain ⟨i0, hi, hz0, hz1, hz2⟩ := info_parts infoStr
    obtain ⟨a, k, rfl⟩ := own_form ho
    refine ⟨_, W, append_zero W _ ty 9 i0 Try.underlying24 hi a ad n k c (own_cap ho a n k rfl), ?_, World.grownBy.refl _ _⟩
    simpa [tl] using ho
  · obtain ⟨b, off, rfl, _⟩ := hs.at1 (by omega) rfl
    exact app_texts W base v n xs b off m c s ty ho hs hb hl


set_option maxRecDepth 20000 in
set_option maxHeartbeats 8000000 in
theorem specLinkOk_o (p : Lk) (wa ga da ua : Option Addr) (wc gc dc uc : Nat) (w : World) (hv : Lv w (.slice wa p.nw wc) (.slice ga p.ng gc) (.slice da p.nd dc) (.slice ua p.nu uc) p) (hs : Lsm 1048576 p) :
    Calls Try.prog 13 #[.agg (l6 p.base (.slice wa p.nw wc) p.want (.slice ga p.ng gc) (.slice da p.nd dc) (.slice ua p.nu uc))] w fun e w' => e = .returned (.bool (lkB p)) ∧ Below w.heap.size w w' := by
  have hB0 : Below w.heap.size w (w.alloc (.cells (l6 p.base (.slice wa p.nw wc) p.want (.slice ga p.ng gc) (.slice da p.nd dc) (.slice ua p.nu uc)) 27)) := (Below.refl _ _).alloc (Nat.le_refl _) _
  have qa := heap_alloc_new w (.cells (l6 p.base (.slice wa p.nw wc) p.want (.slice ga p.ng gc) (.slice da p.nd dc) (.slice ua p.nu uc)) 27)
  obtain ⟨w5, hE⟩ : ∃ W, w.alloc (.cells (l6 p.base (.slice wa p.nw wc) p.want (.slice ga p.ng gc) (.slice da p.nd dc) (.slice ua p.nu uc)) 27) = W := ⟨_, rfl⟩
  rw [hE] at hB0 qa
  have HV := hide (hv.below hB0)
  obtain ⟨_, x0, x1, x2, x3, x4, x5⟩ := box6 qa
  have HLK := hide (lk_eq p)
  obtain ⟨⟨s1, _⟩, ⟨s2, _⟩, ⟨s3, _⟩, ⟨s4, _⟩⟩ := hs
  have HNBF : Hid (¬ nbP p.base p.want p.nw p.ng → false = lkB p) := hide (fun h => by rw [HLK.out, show nbB p.base p.want p.nw p.ng = false from decide_eq_false h]; rfl)
  have HDN := hide (specWires_any _ p.nd p.dt p.dh w5 HV.out.dn s3)
  have HUP := hide (specWires_any _ p.nu p.ut p.uh w5 HV.out.up s4)
  clear hv
  have HI1 := hide (l1InD p.base 0 999900 w5)
  by_cases n1 : ¬ (0 ≤ p.base ∧ p.base ≤ 999900)
  · have HO := hide (HNBF.out (fun h => n1 ⟨h.1, h.2.1⟩))
    rw [show decide (0 ≤ p.base ∧ p.base ≤ 999900) = false from decide_eq_false n1] at HI1
    generalize lkB p = res at HO ⊢
    clear HNBF HLK n1
    go_enter Try.func13, Try.ntmps13
    go_wp2_with fail
    refine HI1.out.mono ?_
    rintro e w1 ⟨rfl, rfl⟩
    go_wp2
    go_ret
    exact ⟨retb HO.out, hB0⟩
  replace n1 := Decidable.of_not_not n1
  rw [show decide (0 ≤ p.base ∧ p.base ≤ 999900) = true from decide_eq_true n1] at HI1
  by_cases n3 : 8 < p.nw
  · have HO := hide (HNBF.out (fun h => by have := h.2.2.1; omega))
    have d3 : decide ((8 : Int) < (p.nw : Int)) = true := by simp; omega
    generalize lkB p = res at HO ⊢
    clear HNBF HLK
    go_enter Try.func13, Try.ntmps13
    go_wp2_with fail
    refine HI1.out.mono ?_
    rintro e w1 ⟨rfl, rfl⟩
    go_wp2
    go_ret
    exact ⟨retb HO.out, hB0⟩
  have d3 : decide ((8 : Int) < (p.nw : Int)) = false := by simp; omega
  have hwr : wrap64 (p.base + (p.nw : Int)) = p.base + p.nw := Go.IntWalk.wrap64_in _ (by omega)
  have HI2 := hide (l1InD p.want p.base (p.base + p.nw) w5)
  by_cases n4 : ¬ (p.base ≤ p.want ∧ p.want ≤ p.base + p.nw)
  · have HO := hide (HNBF.out (fun h => n4 ⟨h.2.2.2.1, h.2.2.2.2.1⟩))
    rw [show decide (p.base ≤ p.want ∧ p.want ≤ p.base + p.nw) = false from decide_eq_false n4] at HI2
    generalize lkB p = res at HO ⊢
    clear HNBF HLK n4
    go_enter Try.func13, Try.ntmps13
    go_wp2_with fail
    refine HI1.out.mono ?_
    rintro e w1 ⟨rfl, rfl⟩
    go_wp2_with fail
    refine HI2.out.mono ?_
    rintro e w1 ⟨rfl, rfl⟩
    go_wp2
    go_ret
    exact ⟨retb HO.out, hB0⟩
  replace n4 := Decidable.of_not_not n4
  rw [show decide (p.base ≤ p.want ∧ p.want ≤ p.base + p.nw) = true from decide_eq_true n4] at HI2
  by_cases n6 : ¬ p.want = (p.ng : Int)
  · have HO := hide (HNBF.out (fun h => n6 h.2.2.2.2.2))
    have d6 : ((p.ng : Int) == p.want) = false := by rw [beq_eq_false_iff_ne]; exact fun e => n6 e.symm
    have d7 : ((p.ng : Int) != p.want) = true := by simpa using fun e => n6 e.symm
    have d8 : ¬ (p.ng : Int) = p.want := fun e => n6 e.symm
    generalize lkB p = res at HO ⊢
    clear HNBF HLK n6
    go_enter Try.func13, Try.ntmps13
    go_wp2_with fail
    refine HI1.out.mono ?_
    rintro e w1 ⟨rfl, rfl⟩
    go_wp2_with fail
    refine HI2.out.mono ?_
    rintro e w1 ⟨rfl, rfl⟩
    go_wp2
    go_ret
    exact ⟨retb HO.out, hB0⟩
  replace n6 := Decidable.of_not_not n6
  obtain ⟨bn, hbn⟩ := Int.eq_ofNat_of_zero_le n1.1
  have HLK2 : Hid (lkB p = (boB bn p.nw p.ng p.ws p.gs && wiB p.nd p.dt && wiB p.nu p.ut)) := hide (by
    rw [HLK.out, show nbB p.base p.want p.nw p.ng = true from decide_eq_true ⟨n1.1, n1.2, by omega, n4.1, n4.2, n6⟩, hbn, Int.toNat_natCast, Bool.true_and])
  have d6 : ((p.ng : Int) == p.want) = true := by rw [n6]; simp
  have hbg : bn ≤ p.ng := by omega
  have hgw : p.ng - bn ≤ p.nw := by omega
  clear HNBF HLK
  rw [hbn, n6] at HI2
  rw [hbn] at HI1 hwr
  rw [hbn] at x0
  rw [n6] at x2 d6
  have hwr2 : (bn : Int) ≤ 999900 := by omega
  rw [hbn, n6] at hE ⊢
  have n6x := n6
  have hbx := hbn
  clear n1 n4 n6 hbn
  generalize lkB p = res at HLK2 ⊢
  generalize wiB p.nd p.dt = wd at HDN HLK2
  generalize wiB p.nu p.ut = wu at HUP HLK2
  go_enter Try.func13, Try.ntmps13
  go_wp2_with fail
  refine HI1.out.mono ?_
  rintro e w1 ⟨rfl, hw1⟩
  rw [hw1]
  clear hw1 w1
  go_wp2_with fail
  refine HI2.out.mono ?_
  rintro e w1 ⟨rfl, hw1⟩
  rw [hw1]
  clear hw1 w1
  go_wp2_with fail
  refine HDN.out.mono ?_
  rintro e w1 ⟨rfl, hw1⟩
  rw [hw1]
  clear hw1 w1
  cases wd with
  | false =>
    have HO : Hid (false = res) := hide (by rw [HLK2.out]; simp)
    go_wp2
    go_ret
    exact ⟨retb HO.out, hB0⟩
  | true =>
    go_wp2_with fail
    refine HUP.out.mono ?_
    rintro e w1 ⟨rfl, hw1⟩
    rw [hw1]
    clear hw1 w1
    cases wu with
    | false =>
      have HO : Hid (false = res) := hide (by rw [HLK2.out]; simp)
      go_wp2
      go_ret
      exact ⟨retb HO.out, hB0⟩
    | true =>
      have hA6 : Below w5.heap.size w5 (w5.drew.alloc (.cells #[] 9)) := ((Below.refl _ _).drew).alloc (Nat.le_refl _) _
      obtain ⟨v7, w7, hrun1, ho7, hg7⟩ := app_texts_o (w5.drew.alloc (.cells #[] 9)) w5.heap.size (.slice (some ⟨w5.heap.size, 0, none⟩) 0 0) 0 [] wa p.nw wc p.ws 24 ⟨rfl, .inr ⟨w5.heap.size, 0, #[], rfl, Nat.le_refl _, heap_alloc_new w5.drew _, Nat.le_refl _, by decide, rfl, rfl⟩⟩ (HV.out.wa.below hA6) hA6.size (by omega)
      have hB7 : Below w5.heap.size w5 w7 := hA6.grown hg7 hA6.size (fun k hk => by simp [Value.ownBlock] at hk; omega)
      obtain ⟨v8, w8, hrun2, ho8, hg8⟩ := app_texts_o w7 w5.heap.size v7 (0 + p.nw) ([] ++ tl p.nw p.ws) ga p.ng gc p.gs 24 ho7 (HV.out.go.below hB7) hB7.size (by omega)
      have hB8 : Below w5.heap.size w5 w8 := hB7.grown hg8 hB7.size (fun k hk => (World.ownsRow.lt ho7 k hk).1)
      simp only [List.nil_append, Nat.zero_add] at ho8
      obtain ⟨hsg, va8, vc8, rfl⟩ := all_sg ho8
      clear ho7 ho8 hg7 hg8
      go_wp2
      refine wp_region_held_drew (S := fun w' => Below w5.heap.size w5 w') (by kernel_rfl) ((Below.refl _ _).drew) (fun hHeld => ?_)
      refine wpAnyH_take (i := 1) (v := .pointer (some ⟨w.heap.size, 1, none⟩)) rfl (by kernel_rfl) (by kernel_rfl) (by kernel_rfl) (fun _ _ _ h => h) (Or.inl ⟨by rfl, fun w' hSw => ?_⟩) (by assumption) ?_
      · (try dsimp only at hSw); skip; go_simp
      try simp only [Act.put, List.getElem_toArray, List.getElem_cons_zero, List.getElem_cons_succ, List.setIfInBounds_toArray, List.set_cons_zero, List.set_cons_succ]
      refine wpAnyH_take (i := 2) (v := .slice wa p.nw wc) rfl (by kernel_rfl) (by kernel_rfl) (by kernel_rfl) (fun _ _ _ h => h) (Or.inl ⟨by rfl, fun w' hSw => ?_⟩) (by assumption) ?_
      · (try dsimp only at hSw); have z1 := keepc hSw x1; have z3 := keepc hSw x3; go_simp
      try simp only [Act.put, List.getElem_toArray, List.getElem_cons_zero, List.getElem_cons_succ, List.setIfInBounds_toArray, List.set_cons_zero, List.set_cons_succ]
      refine wpAnyH_take (i := 4) (v := .pointer (some ⟨w.heap.size, 3, none⟩)) rfl (by kernel_rfl) (by kernel_rfl) (by kernel_rfl) (fun _ _ _ h => h) (Or.inl ⟨by rfl, fun w' hSw => ?_⟩) (by assumption) ?_
      · (try dsimp only at hSw); skip; go_simp
      try simp only [Act.put, List.getElem_toArray, List.getElem_cons_zero, List.getElem_cons_succ, List.setIfInBounds_toArray, List.set_cons_zero, List.set_cons_succ]
      refine wpAnyH_take (i := 5) (v := .slice ga p.ng gc) rfl (by kernel_rfl) (by kernel_rfl) (by kernel_rfl) (fun _ _ _ h => h) (Or.inl ⟨by rfl, fun w' hSw => ?_⟩) (by assumption) ?_
      · (try dsimp only at hSw); have z1 := keepc hSw x1; have z3 := keepc hSw x3; go_simp
      try simp only [Act.put, List.getElem_toArray, List.getElem_cons_zero, List.getElem_cons_succ, List.setIfInBounds_toArray, List.set_cons_zero, List.set_cons_succ]
      refine wpAnyH_ready (rs := [0]) (by kernel_rfl) (by simp) ?_
      refine AllReadyH.cons rfl (fun K hK => ?_) AllReadyH.nil
      go_simp
      refine hK.out _ _ hA6 (fun hHeld => ?_)
      clear hK K
      try simp only [Act.put, List.getElem_toArray, List.getElem_cons_zero, List.getElem_cons_succ, List.setIfInBounds_toArray, List.set_cons_zero, List.set_cons_succ]
      refine wpAnyH_ready (rs := [3]) (by kernel_rfl) (by simp) ?_
      refine AllReadyH.cons rfl (fun K hK => ?_) AllReadyH.nil
      refine step_append_run (by rfl) _ _ 24 (by rfl) (by rfl) (by rfl) hrun1 ?_
      refine hK.out _ _ hB7 (fun hHeld => ?_)
      clear hK K
      try simp only [Act.put, List.getElem_toArray, List.getElem_cons_zero, List.getElem_cons_succ, List.setIfInBounds_toArray, List.set_cons_zero, List.set_cons_succ]
      refine wpAnyH_ready (rs := [6]) (by kernel_rfl) (by simp) ?_
      refine AllReadyH.cons rfl (fun K hK => ?_) AllReadyH.nil
      refine step_append_run (by rfl) _ _ 24 (by rfl) (by rfl) (by rfl) hrun2 ?_
      refine hK.out _ _ hB8 (fun hHeld => ?_)
      clear hK K
      try simp only [Act.put, List.getElem_toArray, List.getElem_cons_zero, List.getElem_cons_succ, List.setIfInBounds_toArray, List.set_cons_zero, List.set_cons_succ]
      refine wpAnyH_take (i := 7) (v := .slice va8 (p.nw + p.ng) vc8) rfl (by kernel_rfl) (by kernel_rfl) (by kernel_rfl) (fun _ _ _ h => h) (Or.inl ⟨by rfl, fun w' hSw => ?_⟩) (by assumption) ?_
      · (try dsimp only at hSw); skip; go_simp
      try simp only [Act.put, List.getElem_toArray, List.getElem_cons_zero, List.getElem_cons_succ, List.setIfInBounds_toArray, List.set_cons_zero, List.set_cons_succ]
      refine wpAnyH_done (by kernel_rfl) ?_ _
      clear hHeld
      have HB8 := hide (hB0.trans (hB8.mono hB0.size))
      have HV8 := hide (HV.out.below hB8)
      have qa8 := heap_bl qa hB8
      have HSG := hide hsg
      clear hrun1 hrun2 hA6 hB7 hB8 hsg x0 x1 x2 x3 x4 x5 hE HV hB0
      rw [n6x, hbx] at qa8
      clear n6x hbx
      obtain ⟨_, x0, x1, x2, x3, x4, x5⟩ := box6 qa8
      obtain ⟨N, hN⟩ : ∃ N, p.nw + p.ng = N := ⟨_, rfl⟩
      have HTB : Hid ((∀ j, j < N → (al p.nw p.ws p.gs j).size ≤ 8) ↔ (tbB p.nw p.ws = true ∧ tbB p.ng p.gs = true)) := hide (by rw [← hN]; exact tb_all)
      rw [hN] at HSG ⊢
      have hNb : N ≤ 2097152 := by omega
      have HTF : Hid (¬ (tbB p.nw p.ws = true ∧ tbB p.ng p.gs = true) → false = res) := hide (fun h => by
        rw [HLK2.out]
        unfold boB
        cases h1 : tbB p.nw p.ws <;> cases h2 : tbB p.ng p.gs <;> simp_all)
      have HTT : Hid ((tbB p.nw p.ws = true ∧ tbB p.ng p.gs = true) → res = maB bn p.ng p.ws p.gs) := hide (fun h => by
        rw [HLK2.out]
        unfold boB
        rw [h.1, h.2]
        simp)
      clear hN HLK2
      go_wp2
      go_loopw [4] (fun i wr => ∃ k : Nat, k ≤ N ∧ i = .int .i64 k ∧ wr = w8 ∧ Hid (∀ j, j < k → (al p.nw p.ws p.gs j).size ≤ 8)) (fun i _ => N - (intOf i).toNat)
      case atStart => exact ⟨0, Nat.zero_le _, rfl, rfl, hide (fun j hj => absurd hj (by omega))⟩
      case round =>
        obtain ⟨k, hk, rfl, hwr8, HK⟩ := hrel
        by_cases hlt : k < N
        · obtain ⟨ab, ao, rfl, hca⟩ := HSG.out.at1 (by omega) rfl
          have ca := hca k hlt
          rw [← hwr8] at ca
          have hk0 : (0 : Int) ≤ (k : Int) := by omega
          have hk1 : (k : Int) < (N : Int) := by omega
          have HK2 : Hid ((al p.nw p.ws p.gs k).size ≤ 8 → ∀ j, j < k + 1 → (al p.nw p.ws p.gs j).size ≤ 8) := hide (fun h j hj => by
            by_cases e : j = k
            · subst e; exact h
            · exact HK.out j (by omega))
          have HNO : Hid (¬ (al p.nw p.ws p.gs k).size ≤ 8 → false = res) := hide (fun h => HTF.out (fun h2 => h (HTB.out.2 h2 k hlt)))
          have HW8 := hide hwr8
          clear hca hwr8
          generalize al p.nw p.ws p.gs k = ak at ca HK2 HNO
          by_cases c1 : 8 < ak.size
          · have d1 : decide ((8 : Int) < (ak.size : Int)) = true := by simp; omega
            have HO := hide (HNO.out (by omega))
            go_wp2
            go_ret
            exact ⟨retb HO.out, by rw [HW8.out]; exact HB8.out⟩
          · have d1 : decide ((8 : Int) < (ak.size : Int)) = false := by simp; omega
            have HK3 := hide (HK2.out (by omega))
            go_wp2
            go_roundw
            case rel => exact ⟨k + 1, by omega, by go_num, HW8.out, HK3⟩
            case measure => simp [intOf]; omega
        · have HRES := hide (HTT.out (HTB.out.1 (fun j hj => HK.out j (by omega))))
          rw [hwr8]
          clear hwr8 HTT HTF HTB HSG HK
          obtain ⟨n, hn⟩ : ∃ n, p.ng - bn = n := ⟨_, rfl⟩
          have HMY : Hid ((∀ j, j < n → p.ws j = p.gs (bn + j)) → true = res) := hide (fun h => by rw [HRES.out]; exact (decide_eq_true (fun j hj => h j (by omega))).symm)
          have HMN : Hid (∀ k, k < n → ¬ p.ws k = p.gs (bn + k) → false = res) := hide (fun k hk h => by rw [HRES.out]; exact (decide_eq_false (fun hh => h (hh k (by omega)))).symm)
          clear HRES
          go_wp2
          go_loopw [5] (fun i wr => ∃ k : Nat, k ≤ n ∧ i = .int .i64 ((bn + k : Nat) : Int) ∧ Hid (Below w8.heap.size w8 wr) ∧ Hid (∀ j, j < k → p.ws j = p.gs (bn + j))) (fun i _ => bn + n - (intOf i).toNat)
          case atStart => exact ⟨0, Nat.zero_le _, by simp, hide (Below.refl _ _), hide (fun j hj => absurd hj (by omega))⟩
          case round =>
            obtain ⟨k, hk, rfl, HBR, HK⟩ := hrel
            have y0 := keepc HBR.out x0
            have y1 := keepc HBR.out x1
            have y2 := keepc HBR.out x2
            have y3 := keepc HBR.out x3
            have HBE := hide (HB8.out.trans (HBR.out.mono HB8.out.size))
            by_cases hlt : k < n
            · obtain ⟨wb', wo', ew, hcw⟩ := HV8.out.wa.at1 (by omega) rfl
              subst ew
              obtain ⟨gb', go', eg, hcg⟩ := HV8.out.go.at1 (by omega) rfl
              subst eg
              have cw := keepc HBR.out (hcw k (by omega))
              have cg := keepc HBR.out (hcg (bn + k) (by omega))
              have hlti : ((bn + k : Nat) : Int) < (p.ng : Int) := by omega
              have hi0 : (0 : Int) ≤ ((bn + k : Nat) : Int) := by omega
              have hsub : wrap64 (((bn + k : Nat) : Int) - (bn : Int)) = (k : Int) := by rw [Go.IntWalk.wrap64_in _ (by omega)]; omega
              have hsub3 : ((bn + k : Nat) : Int) - (bn : Int) = (k : Int) := by omega
              have hk0 : (0 : Int) ≤ (k : Int) := by omega
              have hkw : (k : Int) < (p.nw : Int) := by omega
              clear hcw hcg
              obtain ⟨ix, hix⟩ : ∃ ix, bn + k = ix := ⟨_, rfl⟩
              have HIX := hide hix
              rw [hix] at cg hlti hi0 hsub hsub3 ⊢
              by_cases he : p.ws k = p.gs ix
              · have HK2 : Hid (∀ j, j < k + 1 → p.ws j = p.gs (bn + j)) := hide (fun j hj => by
                  by_cases e : j = k
                  · subst e; rw [HIX.out]; exact he
                  · exact HK.out j (by omega))
                have hself := str_self (p.gs ix)
                rw [he] at cw
                clear he hix
                generalize p.gs ix = gk at cw cg hself
                go_wp2
                go_quiet (fail)
                all_goals go_wp2
                all_goals go_roundw
                case rel => exact ⟨k + 1, by omega, by have hh := HIX.out; rw [show ((bn + (k + 1) : Nat) : Int) = (ix : Int) + 1 by omega], hide (below_drewN HBR.out _), HK2⟩
                case measure => have hh := HIX.out; simp [intOf]; omega
              · have HO := hide (HMN.out k hlt (by rw [HIX.out]; exact he))
                have hq := byt_ne (fun e => he e.symm)
                clear he hix
                generalize p.gs ix = gk at cg hq
                generalize p.ws k = wk at cw hq
                go_wp2
                go_quiet (fail)
                all_goals go_wp2
                all_goals go_ret
                all_goals exact ⟨retb HO.out, below_drewN HBE.out _⟩
            · have hlti : ¬ ((bn + k : Nat) : Int) < (p.ng : Int) := by omega
              have HO := hide (HMY.out (fun j hj => HK.out j (by omega)))
              go_wp2
              go_ret
              exact ⟨retb HO.out, HBE.out⟩


theorem specLinkOk_la (b : Bool) (p : Lk) (wv gv dv uv : Value) (w : World) (hb : lkB p = b) (hr : La w wv gv dv uv p) (hs : Lsm 1048576 p) :
    Calls Try.prog 13 #[.agg (l6 p.base wv p.want gv dv uv)] w fun e w' => e = .returned (.bool b) ∧ Below w.heap.size w w' := by
  subst hb
  obtain ⟨wa, ga, da, ua, wc, gc, dc, uc, rfl, rfl, rfl, rfl⟩ := hr.slices
  exact specLinkOk_o p wa ga da ua wc gc dc uc w hr.lv hs

end Go.Proofs.Ytgflipkhhpkidaa
