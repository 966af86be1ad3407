/- LcN -/
import Derived.Test.YtgflipkhhpkidaaYnkCalm45
import Derived.Test.YtgflipkhhpkidaaYnkCalm48
/- all that was offered is got once nothing is lost any more, plainly -/
namespace Go.Proofs.Ytgflipkhhpkidaa
open Go.RowKit
set_option linter.unusedVariables false
set_option linter.unusedSimpArgs false

/-- the j-th text of all that was offered -/
def Al (p : Lk) (j : Nat) : ByteArray := if j < p.base.toNat then p.gs j else p.ws (j - p.base.toNat)
theorem ok_data {s : Int} {b : ByteArray} (h0 : 0 ≤ s) (h1 : s ≤ 1000000) (h8 : b.size ≤ 8) : Flit.ok 1 s b = true := decide_eq_true ⟨⟨h0, h1⟩, .inl ⟨rfl, h8⟩⟩
theorem ok_ack {s : Int} (h0 : 0 ≤ s) (h1 : s ≤ 1000000) : Flit.ok 2 s e0 = true := decide_eq_true ⟨⟨h0, h1⟩, .inr ⟨rfl, rfl⟩⟩
theorem txt_size {k s : Int} {b : ByteArray} (h : Flit.ok k s b = true) : (Flit.txt k s b).size = 7 + b.size := by
  unfold Flit.txt
  rw [if_pos h, Flit.text_size]
/-- a text whose flit is known, come down -/
theorem down_data {p : Lk} {z : Nat} {s : Int} {b : ByteArray} (h : p.dt z = Flit.txt 1 s b) (ok : Flit.ok 1 s b = true) : comeD p z = dgL (outD p z) s b := by
  obtain ⟨r1, r2, r3, r4⟩ := Flit.back 1 s b ok
  unfold comeD
  rw [h, r1, r2, r3, r4]
  rfl
theorem up_ack {p : Lk} {z : Nat} {s : Int} (h : p.ut z = Flit.txt 2 s e0) (ok : Flit.ok 2 s e0 = true) : comeU p z = ackL (outU p z) s := by
  obtain ⟨r1, r2, r3, r4⟩ := Flit.back 2 s e0 ok
  unfold comeU
  rw [h, r1, r2, r3]
  rfl
theorem ld_three {p : Lk} (h0 : 0 < p.nd) (h : Lf (comeD p 0)) : ldC p 3 0 0 e0 = 0 ∧ ldL p 3 0 0 e0 = comeD p 0 := by
  have hc : ldC p 3 0 0 e0 = 0 := by rw [ldC_three, if_neg (by omega), if_pos (lk_iff.2 h)]
  exact ⟨hc, by rw [ldL_ok hc]; simp [actL]⟩
theorem ld_four {p : Lk} (h0 : 0 < p.nu) (h : Lf (comeU p 0)) : ldC p 4 0 0 e0 = 0 ∧ ldL p 4 0 0 e0 = comeU p 0 := by
  have hc : ldC p 4 0 0 e0 = 0 := by rw [ldC_four, if_neg (by omega), if_pos (lk_iff.2 h)]
  exact ⟨hc, by rw [ldL_ok hc]; simp [actL]⟩
/-- what is under way on the way down, behind i of k texts -/
structure Dw (p : Lk) (k i : Nat) (q : Lk) : Prop where
  lf : Lf q
  base : q.base = p.base
  nw : q.nw = p.nw
  ws : q.ws = p.ws
  nd : q.nd + i = k
  dt : ∀ j, j < q.nd → q.dt j = fdT p (i + j)
  nu : q.nu = i
  ut : ∀ j, j < i → ∃ s : Int, q.ut j = Flit.txt 2 s e0 ∧ p.base ≤ s ∧ s ≤ q.want
  wn : p.base + i ≤ q.want
  wp : p.want ≤ q.want
  gs : ∀ j, j < p.ng → q.gs j = p.gs j
  la : 0 < i → q.ut (i - 1) = Flit.txt 2 q.want e0
theorem dw_step {p q : Lk} {k i : Nat} (hp : Lf p) (hk : k ≤ p.nw) (hk3 : k ≤ 3) (h : Dw p k i q) (hi : i < k) : ldC q 3 0 0 e0 = 0 ∧ Dw p k (i + 1) (ldL q 3 0 0 e0) := by
  have hw8 := hp.w8
  have hb1 := hp.b1
  have hb0 := hp.b0
  have hnd : 0 < q.nd := by have := h.nd; omega
  have hq := h.lf
  have hbase := h.base
  have hnw := h.nw
  have hws8 : (p.ws i).size ≤ 8 := hp.tw i (by omega)
  have hd0 : q.dt 0 = Flit.txt 1 (p.base + (i : Int)) (p.ws i) := by rw [h.dt 0 hnd]; rfl
  have hco := down_data hd0 (ok_data (by omega) (by omega) hws8)
  have hwle := hq.k1
  have hwge := h.wn
  have hnu := h.nu
  have hndk := h.nd
  have hkg := hq.kg
  -- what stays whether it is got or not
  have hdt : ∀ j, j < q.nd - 1 → dlt q.dt 0 j = fdT p (i + 1 + j) := fun j hj => by
    show (if j < 0 then q.dt j else q.dt (j + 1)) = _
    rw [if_neg (by omega), h.dt (j + 1) (by omega), show i + (j + 1) = i + 1 + j by omega]
  have hwd : ∀ j, j < q.nd - 1 → 7 ≤ (dlt q.dt 0 j).size ∧ (dlt q.dt 0 j).size ≤ 15 := fun j hj => by
    show 7 ≤ (if j < 0 then q.dt j else q.dt (j + 1)).size ∧ (if j < 0 then q.dt j else q.dt (j + 1)).size ≤ 15
    rw [if_neg (by omega)]
    exact hq.wd (j + 1) (by omega)
  have hup : ∀ w : Int, p.base ≤ w → w ≤ p.base + p.nw → (∀ j, j < q.nu + 1 → 7 ≤ (snc q.ut q.nu (Flit.txt 2 w e0) j).size ∧ (snc q.ut q.nu (Flit.txt 2 w e0) j).size ≤ 15) := fun w h0 h1 j hj => by
    unfold snc
    by_cases hjn : j < q.nu
    · rw [if_pos hjn]; exact hq.wu j hjn
    · rw [if_neg hjn, txt_size (ok_ack (by omega) (by omega))]
      exact ⟨by omega, by show 7 + e0.size ≤ 15; decide⟩
  by_cases hwant : q.want = p.base + i
  · have hdg : dgB (outD q 0) (p.base + (i : Int)) = true := by
      unfold dgB
      show (decide (p.base + (i : Int) = q.want) && decide (p.base + (i : Int) < q.base + (q.nw : Int))) = true
      rw [decide_eq_true hwant.symm, decide_eq_true (by omega)]; rfl
    have hL : comeD q 0 = ackUp (gotL (outD q 0) (p.ws i)) := by rw [hco]; unfold dgL; rw [if_pos hdg]
    have hlf : Lf (comeD q 0) := by
      rw [hL]
      exact ⟨hq.b0, hq.b1, hq.w8, by show q.base ≤ q.want + 1; omega, by show q.want + 1 ≤ q.base + q.nw; omega, by show q.want + 1 = ((q.ng + 1 : Nat) : Int); omega,
        fun j hj => by
          have hj2 : j < q.ng + 1 - q.base.toNat := hj
          show q.ws j = snc q.gs q.ng (p.ws i) (q.base.toNat + j)
          unfold snc
          by_cases hjl : q.base.toNat + j < q.ng
          · rw [if_pos hjl]; exact hq.ma j (by omega)
          · rw [if_neg hjl, h.ws, show j = i by omega],
        hq.tw, fun j hj => by
          have hj2 : j < q.ng + 1 := hj
          show (snc q.gs q.ng (p.ws i) j).size ≤ 8
          unfold snc
          by_cases hjl : j < q.ng
          · rw [if_pos hjl]; exact hq.tg j hjl
          · rw [if_neg hjl]; exact hws8,
        hwd, by show q.nd - 1 ≤ 12; have := hq.nd; omega, hup (q.want + 1) (by omega) (by omega), by show q.nu + 1 ≤ 12; omega⟩
    obtain ⟨hc, hl⟩ := ld_three hnd hlf
    refine ⟨hc, ?_⟩
    rw [hl]
    rw [hL] at hlf ⊢
    refine ⟨hlf, h.base, h.nw, h.ws, by show q.nd - 1 + (i + 1) = k; omega, fun j hj => hdt j hj, by show q.nu + 1 = i + 1; omega, fun j hj => ?_, by show p.base + ((i + 1 : Nat) : Int) ≤ q.want + 1; omega, by show p.want ≤ q.want + 1; have := h.wp; omega, fun j hj => ?_, fun _ => ?_⟩
    · show ∃ s : Int, snc q.ut q.nu (Flit.txt 2 (q.want + 1) e0) j = _ ∧ p.base ≤ s ∧ s ≤ q.want + 1
      unfold snc
      by_cases hjn : j < q.nu
      · rw [if_pos hjn]
        obtain ⟨s, e, a, b⟩ := h.ut j (by omega)
        exact ⟨s, e, a, by omega⟩
      · rw [if_neg hjn]; exact ⟨q.want + 1, rfl, by omega, Int.le_refl _⟩
    · show snc q.gs q.ng (p.ws i) j = p.gs j
      unfold snc
      rw [if_pos (by have := h.wp; have := hp.kg; omega)]
      exact h.gs j hj
    · show snc q.ut q.nu (Flit.txt 2 (q.want + 1) e0) (i + 1 - 1) = _
      unfold snc
      rw [if_neg (by omega)]; rfl
  · have hdg : dgB (outD q 0) (p.base + (i : Int)) = false := by
      unfold dgB
      show (decide (p.base + (i : Int) = q.want) && decide (p.base + (i : Int) < q.base + (q.nw : Int))) = false
      rw [decide_eq_false (fun e => hwant e.symm)]; rfl
    have hL : comeD q 0 = ackUp (outD q 0) := by rw [hco]; unfold dgL; rw [if_neg (by rw [hdg]; decide)]
    have hlf : Lf (comeD q 0) := by
      rw [hL]
      exact ⟨hq.b0, hq.b1, hq.w8, hq.k0, hq.k1, hq.kg, hq.ma, hq.tw, hq.tg, hwd, by show q.nd - 1 ≤ 12; have := hq.nd; omega, hup q.want (by omega) (by omega), by show q.nu + 1 ≤ 12; omega⟩
    obtain ⟨hc, hl⟩ := ld_three hnd hlf
    refine ⟨hc, ?_⟩
    rw [hl]
    rw [hL] at hlf ⊢
    refine ⟨hlf, h.base, h.nw, h.ws, by show q.nd - 1 + (i + 1) = k; omega, fun j hj => hdt j hj, by show q.nu + 1 = i + 1; omega, fun j hj => ?_, by show p.base + ((i + 1 : Nat) : Int) ≤ q.want; omega, h.wp, h.gs, fun _ => ?_⟩
    · show ∃ s : Int, snc q.ut q.nu (Flit.txt 2 q.want e0) j = _ ∧ p.base ≤ s ∧ s ≤ q.want
      unfold snc
      by_cases hjn : j < q.nu
      · rw [if_pos hjn]
        exact h.ut j (by omega)
      · rw [if_neg hjn]; exact ⟨q.want, rfl, by omega, Int.le_refl _⟩
    · show snc q.ut q.nu (Flit.txt 2 q.want e0) (i + 1 - 1) = _
      unfold snc
      rw [if_neg (by omega)]; rfl
theorem dw_all {p : Lk} {k : Nat} (hp : Lf p) (hk : k ≤ p.nw) (hk3 : k ≤ 3) : ∀ (m i : Nat) (q : Lk), Dw p k i q → i + m = k → (allN 3 m q).2 = true ∧ Dw p k k (allN 3 m q).1
  | 0, i, q, h, e => by
    have : i = k := by omega
    subst this
    exact ⟨rfl, h⟩
  | m + 1, i, q, h, e => by
    obtain ⟨hc, hs⟩ := dw_step hp hk hk3 h (by omega)
    unfold allN
    rw [if_pos hc]
    exact dw_all hp hk hk3 m (i + 1) _ hs (by omega)
/-- and on the way up -/
structure Uw (p : Lk) (k i : Nat) (q : Lk) : Prop where
  lf : Lf q
  want : q.want = p.want
  ng : q.ng = p.ng
  gs : q.gs = p.gs
  nd : q.nd = 0
  nu : q.nu + i = k
  ut : ∀ j, j < q.nu → q.ut j = p.ut (i + j)
  b1 : p.base ≤ q.base
  tot : q.base + q.nw = p.base + p.nw
  ws : ∀ x, x < q.nw → q.ws x = p.ws (x + (q.base - p.base).toNat)
  la : i = k → 0 < k → q.base = q.want
theorem uw_step {p q : Lk} {k i : Nat} (hp : Lf p) (hB : p.base + p.nw ≤ 999900) (hut : ∀ j, j < k → ∃ s : Int, p.ut j = Flit.txt 2 s e0 ∧ 0 ≤ s ∧ s ≤ p.want) (hla : 0 < k → p.ut (k - 1) = Flit.txt 2 p.want e0) (h : Uw p k i q) (hi : i < k) : ldC q 4 0 0 e0 = 0 ∧ Uw p k (i + 1) (ldL q 4 0 0 e0) := by
  have hq := h.lf
  have hnu : 0 < q.nu := by have := h.nu; omega
  have hnuk := h.nu
  have hwant := h.want
  have hk1 := hq.k1
  have hk0 := hq.k0
  have hb0 := hq.b0
  have htot := h.tot
  have hkg := hq.kg
  obtain ⟨s, hs, hs0, hs1, hlast⟩ : ∃ s : Int, p.ut i = Flit.txt 2 s e0 ∧ 0 ≤ s ∧ s ≤ p.want ∧ (i + 1 = k → s = p.want) := by
    by_cases hl : i + 1 = k
    · exact ⟨p.want, by have := hla (by omega); rwa [show k - 1 = i by omega] at this, by omega, Int.le_refl _, fun _ => rfl⟩
    · obtain ⟨s, a, b, c⟩ := hut i hi
      exact ⟨s, a, b, c, fun e => absurd e hl⟩
  have hu0 : q.ut 0 = Flit.txt 2 s e0 := by rw [h.ut 0 hnu, Nat.add_zero]; exact hs
  have hco := up_ack hu0 (ok_ack hs0 (by omega))
  have hwu : ∀ j, j < q.nu - 1 → 7 ≤ (dlt q.ut 0 j).size ∧ (dlt q.ut 0 j).size ≤ 15 := fun j hj => by
    show 7 ≤ (if j < 0 then q.ut j else q.ut (j + 1)).size ∧ (if j < 0 then q.ut j else q.ut (j + 1)).size ≤ 15
    rw [if_neg (by omega)]
    exact hq.wu (j + 1) (by omega)
  have hut2 : ∀ j, j < q.nu - 1 → dlt q.ut 0 j = p.ut (i + 1 + j) := fun j hj => by
    show (if j < 0 then q.ut j else q.ut (j + 1)) = _
    rw [if_neg (by omega), h.ut (j + 1) (by omega), show i + (j + 1) = i + 1 + j by omega]
  by_cases hack : q.base < s
  · have ha : ackB (outU q 0).base (outU q 0).want s = true := by
      show (decide (q.base < s) && decide (s ≤ q.want)) = true
      rw [decide_eq_true hack, decide_eq_true (by omega)]; rfl
    have hL : comeU q 0 = { outU q 0 with base := s, nw := q.nw - (s - q.base).toNat, ws := fun x => q.ws (x + (s - q.base).toNat) } := by
      rw [hco]; unfold ackL; rw [if_pos ha]; rfl
    have hlf : Lf (comeU q 0) := by
      rw [hL]
      refine ⟨hs0, by show s ≤ 999900; omega, by show q.nw - (s - q.base).toNat ≤ 8; have := hq.w8; omega, by show s ≤ q.want; omega, by show q.want ≤ s + ((q.nw - (s - q.base).toNat : Nat) : Int); omega, hq.kg, fun j hj => ?_, fun j hj => ?_, hq.tg, hq.wd, hq.nd, hwu, by show q.nu - 1 ≤ 12; have := hq.nu; omega⟩
      · have hj2 : j < q.ng - s.toNat := hj
        show q.ws (j + (s - q.base).toNat) = q.gs (s.toNat + j)
        rw [hq.ma (j + (s - q.base).toNat) (by omega), show q.base.toNat + (j + (s - q.base).toNat) = s.toNat + j by omega]
      · have hj2 : j < q.nw - (s - q.base).toNat := hj
        exact hq.tw (j + (s - q.base).toNat) (by omega)
    obtain ⟨hc, hl⟩ := ld_four hnu hlf
    refine ⟨hc, ?_⟩
    rw [hl]
    rw [hL] at hlf ⊢
    refine ⟨hlf, h.want, h.ng, h.gs, h.nd, by show q.nu - 1 + (i + 1) = k; omega, fun j hj => hut2 j hj, by show p.base ≤ s; have := h.b1; omega, by show s + ((q.nw - (s - q.base).toNat : Nat) : Int) = p.base + p.nw; omega, fun x hx => ?_, fun e _ => by show s = q.want; rw [hlast e, hwant]⟩
    have hx2 : x < q.nw - (s - q.base).toNat := hx
    show q.ws (x + (s - q.base).toNat) = p.ws (x + (s - p.base).toNat)
    have := h.b1
    rw [h.ws (x + (s - q.base).toNat) (by omega), show x + (s - q.base).toNat + (q.base - p.base).toNat = x + (s - p.base).toNat by omega]
  · have ha : ackB (outU q 0).base (outU q 0).want s = false := by
      show (decide (q.base < s) && decide (s ≤ q.want)) = false
      rw [decide_eq_false hack]; rfl
    have hL : comeU q 0 = outU q 0 := by rw [hco]; unfold ackL; rw [if_neg (by rw [ha]; decide)]
    have hlf : Lf (comeU q 0) := by
      rw [hL]
      exact ⟨hq.b0, hq.b1, hq.w8, hq.k0, hq.k1, hq.kg, hq.ma, hq.tw, hq.tg, hq.wd, hq.nd, hwu, by show q.nu - 1 ≤ 12; have := hq.nu; omega⟩
    obtain ⟨hc, hl⟩ := ld_four hnu hlf
    refine ⟨hc, ?_⟩
    rw [hl]
    rw [hL] at hlf ⊢
    exact ⟨hlf, h.want, h.ng, h.gs, h.nd, by show q.nu - 1 + (i + 1) = k; omega, fun j hj => hut2 j hj, h.b1, h.tot, h.ws, fun e _ => by show q.base = q.want; have := hlast e; omega⟩
theorem uw_all {p : Lk} {k : Nat} (hp : Lf p) (hB : p.base + p.nw ≤ 999900) (hut : ∀ j, j < k → ∃ s : Int, p.ut j = Flit.txt 2 s e0 ∧ 0 ≤ s ∧ s ≤ p.want) (hla : 0 < k → p.ut (k - 1) = Flit.txt 2 p.want e0) : ∀ (m i : Nat) (q : Lk), Uw p k i q → i + m = k → (allN 4 m q).2 = true ∧ Uw p k k (allN 4 m q).1
  | 0, i, q, h, e => by
    have : i = k := by omega
    subst this
    exact ⟨rfl, h⟩
  | m + 1, i, q, h, e => by
    obtain ⟨hc, hs⟩ := uw_step hp hB hut hla h (by omega)
    unfold allN
    rw [if_pos hc]
    exact uw_all hp hB hut hla m (i + 1) _ hs (by omega)
/-- a link between two rounds, held against an elder one -/
structure Rn (p q : Lk) : Prop where
  lf : Lf q
  nd : q.nd = 0
  nu : q.nu = 0
  tot : q.base + q.nw = p.base + p.nw
  al : ∀ j : Nat, (j : Int) < p.base + p.nw → Al q j = Al p j
theorem rnd_all {p : Lk} (hp : Lf p) (hd : p.nd = 0) (hu : p.nu = 0) (hw : 0 < p.nw) (hB : p.base + p.nw ≤ 999900) : (rnd p).2 = true ∧ Rn p (rnd p).1 ∧ (rnd p).1.nw < p.nw := by
  have hb0 := hp.b0
  obtain ⟨k, hk⟩ : ∃ k, min 3 p.nw = k := ⟨_, rfl⟩
  have hk1 : 1 ≤ k := by omega
  have hk3 : k ≤ 3 := by omega
  have hkn : k ≤ p.nw := by omega
  have hsnd : sndL p = { p with nd := p.nd + min 3 p.nw, dt := fun j => if j < p.nd then p.dt j else fdT p (j - p.nd), dh := fun j => if j < p.nd then p.dh j else false } := rfl
  have hdt : ∀ j, (sndL p).dt j = fdT p j := fun j => by show (if j < p.nd then p.dt j else fdT p (j - p.nd)) = _; rw [if_neg (by omega), hd, Nat.sub_zero]
  have hnd : (sndL p).nd = k := by show p.nd + min 3 p.nw = k; omega
  have hlf : Lf (sndL p) := by
    refine ⟨hp.b0, hp.b1, hp.w8, hp.k0, hp.k1, hp.kg, hp.ma, hp.tw, hp.tg, fun j hj => ?_, by rw [hnd]; omega, hp.wu, hp.nu⟩
    rw [hnd] at hj
    have hws := hp.tw j (by omega)
    have hb1 := hp.b1
    have hw8 := hp.w8
    rw [hdt j]
    unfold fdT
    rw [txt_size (ok_data (by omega) (by omega) hws)]
    omega
  have h2 : ldC p 2 0 0 e0 = 0 := by
    have h1 : laB 2 0 0 e0 = true := by simp [laB, e0_size]
    have h3 : actC p 2 0 0 = 0 := by simp [actC]
    have h4 : actL p 2 0 0 e0 = sndL p := by simp [actL]
    unfold ldC
    rw [h1, h3, h4, if_pos rfl, if_pos rfl, if_pos (lk_iff.2 hlf)]
  have hL : ldL p 2 0 0 e0 = sndL p := by rw [ldL_ok h2]; simp [actL]
  have hc3 : alC 3 (sndL p) = allN 3 k (sndL p) := by unfold alC cnt; rw [if_pos rfl, hnd]
  obtain ⟨d1, d2⟩ := dw_all hp hkn hk3 k 0 (sndL p) ⟨hlf, rfl, rfl, rfl, by rw [hnd]; omega, fun j hj => by rw [hdt, Nat.zero_add], hu, fun j hj => absurd hj (Nat.not_lt_zero j), by show p.base + ((0 : Nat) : Int) ≤ p.want; have := hp.k0; omega, Int.le_refl _, fun _ _ => rfl, fun h => absurd h (Nat.lt_irrefl 0)⟩ (by omega)
  rw [← hc3] at d1 d2
  obtain ⟨q1, hq1⟩ : ∃ q, (alC 3 (sndL p)).1 = q := ⟨_, rfl⟩
  rw [hq1] at d2
  have hB1 : q1.base + q1.nw ≤ 999900 := by rw [d2.base, d2.nw]; exact hB
  have hc4 : alC 4 q1 = allN 4 k q1 := by
    unfold alC cnt
    rw [if_neg (by decide), d2.nu]
  have hnd1 : q1.nd = 0 := by have := d2.nd; omega
  obtain ⟨u1, u2⟩ := uw_all (k := k) d2.lf hB1 (fun j hj => by
    obtain ⟨s, a, b, c⟩ := d2.ut j hj
    exact ⟨s, a, by omega, c⟩) d2.la k 0 q1 ⟨d2.lf, rfl, rfl, rfl, hnd1, by have := d2.nu; omega, fun j hj => by rw [Nat.zero_add], Int.le_refl _, rfl, fun x hx => by rw [show (q1.base - q1.base).toNat = 0 by omega, Nat.add_zero], fun e h => by omega⟩ (by omega)
  rw [← hc4] at u1 u2
  have hr1 : (rnd p).1 = (alC 4 q1).1 := by unfold rnd; rw [hL, hq1]
  have hr2 : (rnd p).2 = true := by unfold rnd; rw [hL, hq1, d1, u1, h2]; rfl
  rw [hr1]
  generalize (alC 4 q1).1 = q2 at u2
  have hbw := u2.la rfl hk1
  have htot := u2.tot
  have e1 := d2.base
  have e2 := d2.nw
  have e3 := d2.wn
  have e4 := u2.want
  have e5 := u2.lf.kg
  have e6 := u2.ng
  have e7 := hp.kg
  have e8 := d2.wp
  have e9 := hp.k0
  have e10 := d2.lf.kg
  refine ⟨hr2, ⟨u2.lf, u2.nd, by have := u2.nu; omega, by omega, fun j hj => ?_⟩, by omega⟩
  unfold Al
  by_cases h1 : j < p.base.toNat
  · rw [if_pos (by omega), if_pos h1, u2.gs, d2.gs j (by omega)]
  · rw [if_neg h1]
    by_cases h2 : j < q2.base.toNat
    · rw [if_pos h2, u2.gs]
      have hm := d2.lf.ma (j - p.base.toNat) (by rw [e1]; omega)
      rw [d2.ws, e1, show p.base.toNat + (j - p.base.toNat) = j by omega] at hm
      exact hm.symm
    · rw [if_neg h2, u2.ws _ (by omega), d2.ws, e1, show j - q2.base.toNat + (q2.base - p.base).toNat = j - p.base.toNat by omega]
theorem calN_all : ∀ (m : Nat) (p : Lk), Lf p → p.nd = 0 → p.nu = 0 → p.base + p.nw ≤ 999900 → p.nw ≤ m → (calN m p).2 = true ∧ Rn p (calN m p).1 ∧ (calN m p).1.nw = 0
  | 0, p, hp, hd, hu, hB, hm => by
    have h0 : p.nw = 0 := by omega
    unfold calN
    exact ⟨decide_eq_true h0, ⟨hp, hd, hu, rfl, fun _ _ => rfl⟩, h0⟩
  | m + 1, p, hp, hd, hu, hB, hm => by
    unfold calN
    by_cases h0 : p.nw = 0
    · rw [if_pos h0]; exact ⟨rfl, ⟨hp, hd, hu, rfl, fun _ _ => rfl⟩, h0⟩
    · rw [if_neg h0]
      obtain ⟨r1, r2, r3⟩ := rnd_all hp hd hu (by omega) hB
      rw [if_pos r1]
      obtain ⟨c1, c2, c3⟩ := calN_all m (rnd p).1 r2.lf r2.nd r2.nu (by rw [r2.tot]; exact hB) (by omega)
      exact ⟨c1, ⟨c2.lf, c2.nd, c2.nu, c2.tot.trans r2.tot, fun j hj => (c2.al j (by rw [r2.tot]; exact hj)).trans (r2.al j hj)⟩, c3⟩
theorem bare_same {p : Lk} (hd : p.nd = 0) (hu : p.nu = 0) : bare p = p := by
  cases p
  simp only at hd hu
  subst hd hu
  rfl
/-- a right link calmed has got all that was offered; calmed again it stays -/
theorem cm_all {p : Lk} (hp : Lf p) (hB : p.base + p.nw ≤ 999900) : (cmL p).2 = true ∧ Lf (cmL p).1 ∧ (cmL p).1.nw = 0 ∧ ((cmL p).1.ng : Int) = p.base + p.nw ∧ (∀ j, j < (cmL p).1.ng → (cmL p).1.gs j = Al p j) ∧ cmL (cmL p).1 = ((cmL p).1, true) := by
  have e : cmL p = calN 20 (bare p) := by unfold cmL; rw [if_pos (lk_iff.2 hp)]
  rw [e]
  obtain ⟨c1, c2, c3⟩ := calN_all 20 (bare p) (bare_lf hp) rfl rfl hB (by have := hp.w8; show p.nw ≤ 20; omega)
  generalize calN 20 (bare p) = r at *
  obtain ⟨q, b⟩ := r
  simp only at c1 c2 c3 ⊢
  have htot : q.base + q.nw = p.base + p.nw := c2.tot
  have hk := c2.lf.kg
  have h0 := c2.lf.k0
  have h1 := c2.lf.k1
  have hb := c2.lf.b0
  refine ⟨c1, c2.lf, c3, by omega, fun j hj => ?_, ?_⟩
  · have h := c2.al j (show (j : Int) < p.base + p.nw by omega)
    unfold Al at h
    rw [if_pos (show j < q.base.toNat by omega)] at h
    exact h
  · unfold cmL
    rw [if_pos (lk_iff.2 c2.lf), bare_same c2.nd c2.nu]
    unfold calN
    rw [if_pos c3]
end Go.Proofs.Ytgflipkhhpkidaa
