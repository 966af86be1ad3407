/- LcO -/
import Derived.Test.YtgflipkhhpkidaaYkOrder46
import Derived.Test.YtgflipkhhpkidaaYkOrder53
/- what is got is the beginning of what was offered, plainly -/
namespace Go.Proofs.Ytgflipkhhpkidaa
open Go.RowKit
set_option linter.unusedVariables false
set_option linter.unusedSimpArgs false

/-- a link to which m texts were offered -/
structure Ov (q : Lk) (m : Nat) (O : Nat → ByteArray) : Prop where
  lf : Lf q
  tot : (m : Int) = q.base + q.nw
  ws : ∀ x, x < q.nw → q.ws x = O (q.base.toNat + x)
  gs : ∀ j, j < q.ng → q.gs j = O j
  sz : ∀ i, i < m → (O i).size ≤ 8
  dn : ∀ j, j < q.nd → q.dh j = false → ∃ i : Nat, i < m ∧ q.dt j = Flit.txt 1 (i : Int) (O i)
  dx : ∀ j, j < q.nd → q.dh j = true → Flit.rd (q.dt j) = false
theorem Ov.le {q : Lk} {m : Nat} {O : Nat → ByteArray} (h : Ov q m O) : q.ng ≤ m ∧ q.base ≤ q.want := by
  have h1 := h.lf.kg
  have h2 := h.lf.k1
  have h3 := h.tot
  exact ⟨by omega, h.lf.k0⟩
theorem ov_new : Ov zeL 0 (fun _ => ⟨#[]⟩) := ⟨lk_iff.1 (by decide), rfl, fun x hx => absurd hx (Nat.not_lt_zero x), fun x hx => absurd hx (Nat.not_lt_zero x), fun x hx => absurd hx (Nat.not_lt_zero x), fun x hx => absurd hx (Nat.not_lt_zero x), fun x hx => absurd hx (Nat.not_lt_zero x)⟩
/-- what is under way without one -/
theorem Ov.out {q : Lk} {m : Nat} {O : Nat → ByteArray} (h : Ov q m O) (z : Nat) : (∀ j, j < q.nd - 1 → dlt q.dh z j = false → ∃ i : Nat, i < m ∧ dlt q.dt z j = Flit.txt 1 (i : Int) (O i)) ∧ (∀ j, j < q.nd - 1 → dlt q.dh z j = true → Flit.rd (dlt q.dt z j) = false) := by
  refine ⟨fun j hj e => ?_, fun j hj e => ?_⟩
  · unfold dlt at e ⊢
    by_cases hz : j < z
    · rw [if_pos hz] at e ⊢; exact h.dn j (by omega) e
    · rw [if_neg hz] at e ⊢; exact h.dn (j + 1) (by omega) e
  · unfold dlt at e ⊢
    by_cases hz : j < z
    · rw [if_pos hz] at e ⊢; exact h.dx j (by omega) e
    · rw [if_neg hz] at e ⊢; exact h.dx (j + 1) (by omega) e
theorem trn_hurt {s : ByteArray} {n : Nat} (h : Flit.rd s = true) (hn : n < 8 * s.size) : Flit.rd (trn s n) = false := by
  have hx : Crc.at' s (n / 8) ^^^ 2 ^ (n % 8) < 256 := by
    have h1 : Crc.at' s (n / 8) < 2 ^ 8 := Crc.at_lt s (n / 8)
    have h2 : 2 ^ (n % 8) < 2 ^ 8 := Nat.pow_lt_pow_right (by decide) (by omega)
    exact Nat.xor_lt_two_pow h1 h2
  exact Flit.one_byte s (Flit.rd_sum s h) (n / 8) _ (by omega) hx (Flit.bit_ne _ _)
/-- an act that is done leaves it so -/
theorem act_ov {q : Lk} {m : Nat} {O : Nat → ByteArray} (h : Ov q m O) {k z bit : Int} {body : ByteArray} (hc : ldC q k z bit body = 0) :
    if k = 1 then Ov (ldL q k z bit body) (m + 1) (snc O m body) else Ov (ldL q k z bit body) m O := by
  have hlf := ld_lf h.lf k z bit body
  rw [ldL_ok hc] at hlf ⊢
  have hla : laB k z bit body = true := by
    unfold ldC at hc
    split at hc
    · assumption
    · exact absurd hc (by decide)
  have hac : actC q k z bit = 0 := by
    unfold ldC at hc
    rw [if_pos hla] at hc
    split at hc
    · assumption
    · exact hc
  have hb0 := h.lf.b0
  have hb1 := h.lf.b1
  have hw8 := h.lf.w8
  have htot := h.tot
  have hkg := h.lf.kg
  have hk0 := h.lf.k0
  have hk1 := h.lf.k1
  by_cases h1 : k = 1
  · subst h1
    rw [if_pos rfl]
    have e : actL q 1 z bit body = offL q body := by simp [actL]
    rw [e] at hlf ⊢
    have hbs : body.size ≤ 8 := by
      have : decide (z = 0 ∧ bit = 0 ∧ body.size ≤ 8) = true := by simpa [laB] using hla
      exact (of_decide_eq_true this).2.2
    have hO : ∀ i, i < m → snc O m body i = O i := fun i hi => if_pos hi
    refine ⟨hlf, by show ((m + 1 : Nat) : Int) = q.base + ((q.nw + 1 : Nat) : Int); omega, fun x hx => ?_, fun j hj => ?_, fun i hi => ?_, fun j hj hh => ?_, h.dx⟩
    · have hx2 : x < q.nw + 1 := hx
      show snc q.ws q.nw body x = snc O m body (q.base.toNat + x)
      unfold snc
      by_cases hl : x < q.nw
      · rw [if_pos hl, if_pos (by omega)]; exact h.ws x hl
      · rw [if_neg hl, if_neg (by omega)]
    · have := h.le.1
      rw [hO j (by have hj2 : j < q.ng := hj; omega)]
      exact h.gs j hj
    · unfold snc
      by_cases hl : i < m
      · rw [if_pos hl]; exact h.sz i hl
      · rw [if_neg hl]; exact hbs
    · obtain ⟨i, hi, e2⟩ := h.dn j hj hh
      exact ⟨i, by omega, by rw [hO i hi]; exact e2⟩
  · rw [if_neg h1]
    by_cases h2 : k = 2
    · subst h2
      have e : actL q 2 z bit body = sndL q := by simp [actL]
      rw [e] at hlf ⊢
      refine ⟨hlf, htot, h.ws, h.gs, h.sz, fun j hj hh => ?_, fun j hj hh => ?_⟩
      · have hj2 : j < q.nd + min 3 q.nw := hj
        show ∃ i : Nat, i < m ∧ (if j < q.nd then q.dt j else fdT q (j - q.nd)) = _
        have hh2 : (if j < q.nd then q.dh j else false) = false := hh
        by_cases hl : j < q.nd
        · rw [if_pos hl] at hh2 ⊢; exact h.dn j hl hh2
        · rw [if_neg hl]
          refine ⟨q.base.toNat + (j - q.nd), by omega, ?_⟩
          unfold fdT
          rw [h.ws (j - q.nd) (by omega), show q.base + ((j - q.nd : Nat) : Int) = ((q.base.toNat + (j - q.nd) : Nat) : Int) by omega]
      · show Flit.rd (if j < q.nd then q.dt j else fdT q (j - q.nd)) = false
        have hh2 : (if j < q.nd then q.dh j else false) = true := hh
        by_cases hl : j < q.nd
        · rw [if_pos hl] at hh2 ⊢; exact h.dx j hl hh2
        · rw [if_neg hl] at hh2; cases hh2
    · by_cases h3 : k = 3
      · subst h3
        have e : actL q 3 z bit body = comeD q z.toNat := by simp [actL]
        rw [e] at hlf ⊢
        have ht : thB q.nd z = true := by
          simp only [actC] at hac
          by_cases ht : thB q.nd z = true
          · exact ht
          · simp [ht] at hac
        obtain ⟨zn, rfl, hz⟩ := thB_yes ht
        rw [show (zn : Int).toNat = zn from rfl] at hlf ⊢
        obtain ⟨o1, o2⟩ := h.out zn
        have hout : Ov (outD q zn) m O := ⟨⟨hb0, hb1, hw8, hk0, hk1, hkg, h.lf.ma, h.lf.tw, h.lf.tg, fun j hj => by
            have hj2 : j < q.nd - 1 := hj
            show 7 ≤ (dlt q.dt zn j).size ∧ (dlt q.dt zn j).size ≤ 15
            unfold dlt
            split
            · exact h.lf.wd j (by omega)
            · exact h.lf.wd (j + 1) (by omega), by show q.nd - 1 ≤ 12; have := h.lf.nd; omega, h.lf.wu, h.lf.nu⟩, htot, h.ws, h.gs, h.sz, o1, o2⟩
        by_cases hrd : Flit.rd (q.dt zn) = true
        · have hh : q.dh zn = false := by
            cases hb : q.dh zn with
            | false => rfl
            | true => rw [h.dx zn hz hb] at hrd; cases hrd
          obtain ⟨i, hi, e2⟩ := h.dn zn hz hh
          have hco := down_data e2 (ok_data (by omega) (by omega) (h.sz i hi))
          rw [hco] at hlf ⊢
          by_cases hdg : dgB (outD q zn) (i : Int) = true
          · have hL : dgL (outD q zn) (i : Int) (O i) = ackUp (gotL (outD q zn) (O i)) := by unfold dgL; rw [if_pos hdg]
            rw [hL] at hlf ⊢
            have hiw : (i : Int) = q.want := by
              simp only [dgB, Bool.and_eq_true, decide_eq_true_eq] at hdg
              exact hdg.1
            refine ⟨hlf, htot, h.ws, fun j hj => ?_, h.sz, o1, o2⟩
            have hj2 : j < q.ng + 1 := hj
            show snc q.gs q.ng (O i) j = O j
            unfold snc
            by_cases hl : j < q.ng
            · rw [if_pos hl]; exact h.gs j hl
            · rw [if_neg hl, show j = i by omega]
          · have hL : dgL (outD q zn) (i : Int) (O i) = ackUp (outD q zn) := by unfold dgL; rw [if_neg hdg]
            rw [hL] at hlf ⊢
            exact ⟨hlf, htot, h.ws, h.gs, h.sz, o1, o2⟩
        · have hL : comeD q zn = outD q zn := by
            unfold comeD
            rw [if_neg]
            simp only [Bool.and_eq_true]
            exact fun e => hrd e.1
          rw [hL]
          exact hout
      · by_cases h4 : k = 4
        · subst h4
          have e : actL q 4 z bit body = comeU q z.toNat := by simp [actL]
          rw [e] at hlf ⊢
          by_cases hcu : (Flit.rd (q.ut z.toNat) && decide (Flit.rK (q.ut z.toNat) = 2)) = true
          · have hL : comeU q z.toNat = ackL (outU q z.toNat) (Flit.rS (q.ut z.toNat)) := by unfold comeU; rw [if_pos hcu]
            rw [hL] at hlf ⊢
            generalize Flit.rS (q.ut z.toNat) = s at *
            by_cases hak : ackB (outU q z.toNat).base (outU q z.toNat).want s = true
            · have hL2 : ackL (outU q z.toNat) s = { outU q z.toNat with base := s, nw := q.nw - (s - q.base).toNat, ws := fun x => q.ws (x + (s - q.base).toNat) } := by unfold ackL; rw [if_pos hak]; rfl
              have hs : q.base < s ∧ s ≤ q.want := by
                have : (decide (q.base < s) && decide (s ≤ q.want)) = true := hak
                simpa using this
              rw [hL2] at hlf ⊢
              refine ⟨hlf, by show (m : Int) = s + ((q.nw - (s - q.base).toNat : Nat) : Int); omega, fun x hx => ?_, h.gs, h.sz, h.dn, h.dx⟩
              have hx2 : x < q.nw - (s - q.base).toNat := hx
              show q.ws (x + (s - q.base).toNat) = O (s.toNat + x)
              rw [h.ws _ (by omega), show q.base.toNat + (x + (s - q.base).toNat) = s.toNat + x by omega]
            · have hL2 : ackL (outU q z.toNat) s = outU q z.toNat := by unfold ackL; rw [if_neg hak]
              rw [hL2] at hlf ⊢
              exact ⟨hlf, htot, h.ws, h.gs, h.sz, h.dn, h.dx⟩
          · have hL : comeU q z.toNat = outU q z.toNat := by unfold comeU; rw [if_neg hcu]
            rw [hL] at hlf ⊢
            exact ⟨hlf, htot, h.ws, h.gs, h.sz, h.dn, h.dx⟩
        · by_cases h5 : k = 5
          · subst h5
            have e : actL q 5 z bit body = outD q z.toNat := by simp [actL]
            rw [e] at hlf ⊢
            obtain ⟨o1, o2⟩ := h.out z.toNat
            exact ⟨hlf, htot, h.ws, h.gs, h.sz, o1, o2⟩
          · by_cases h6 : k = 6
            · subst h6
              have e : actL q 6 z bit body = outU q z.toNat := by simp [actL]
              rw [e] at hlf ⊢
              exact ⟨hlf, htot, h.ws, h.gs, h.sz, h.dn, h.dx⟩
            · by_cases h7 : k = 7
              · subst h7
                have e : actL q 7 z bit body = flipD q z.toNat bit.toNat := by simp [actL]
                rw [e] at hlf ⊢
                have hfl : flC q.nd q.dt q.dh z bit = 0 := by simpa [actC] using hac
                obtain ⟨zn, b, rfl, hz, rfl, hb, hh⟩ := flC_zero hfl
                rw [show (zn : Int).toNat = zn from rfl, show (b : Int).toNat = b from rfl] at hlf ⊢
                refine ⟨hlf, htot, h.ws, h.gs, h.sz, fun j hj hh2 => ?_, fun j hj hh2 => ?_⟩
                · have hh3 : upd q.dh zn true j = false := hh2
                  show ∃ i : Nat, i < m ∧ upd q.dt zn (trn (q.dt zn) b) j = _
                  unfold upd at hh3 ⊢
                  by_cases hjz : j = zn
                  · rw [if_pos hjz] at hh3; cases hh3
                  · rw [if_neg hjz] at hh3 ⊢; exact h.dn j hj hh3
                · have hh3 : upd q.dh zn true j = true := hh2
                  show Flit.rd (upd q.dt zn (trn (q.dt zn) b) j) = false
                  unfold upd at hh3 ⊢
                  by_cases hjz : j = zn
                  · rw [if_pos hjz]
                    obtain ⟨i, hi, e2⟩ := h.dn zn hz hh
                    refine trn_hurt ?_ hb
                    rw [e2]
                    exact (Flit.back 1 _ _ (ok_data (by omega) (by omega) (h.sz i hi))).1
                  · rw [if_neg hjz] at hh3 ⊢; exact h.dx j hj hh3
              · have e : actL q k z bit body = flipU q z.toNat bit.toNat := by simp [actL, h1, h2, h3, h4, h5, h6, h7]
                rw [e] at hlf ⊢
                exact ⟨hlf, htot, h.ws, h.gs, h.sz, h.dn, h.dx⟩
theorem do_ov {q : Lk} {m : Nat} {O : Nat → ByteArray} (h : Ov q m O) (k z bit : Int) (body : ByteArray) :
    if k = 1 ∧ doC q k z bit body = 0 then Ov (doL q k z bit body) (m + 1) (snc O m body) else Ov (doL q k z bit body) m O := by
  have hok := lk_iff.2 h.lf
  rw [show doL q k z bit body = ldL q k z bit body from by simp [doL, hok], show doC q k z bit body = ldC q k z bit body from by simp [doC, hok]]
  by_cases hc : ldC q k z bit body = 0
  · have := act_ov h hc
    by_cases h1 : k = 1
    · rw [if_pos h1] at this; rw [if_pos ⟨h1, hc⟩]; exact this
    · rw [if_neg h1] at this; rw [if_neg (fun e => h1 e.1)]; exact this
  · rw [if_neg (fun e => hc e.2), ldL_no hc]; exact h
/-- an act's cells -/
theorem act_cell {w : World} {base n cap : Nat} {a : Option Addr} {s : Nat → Ac4} (h : Rg w base (.slice a n cap) 4 n (aF s)) {lb lo : Nat} (e : a = some ⟨lb, lo, none⟩) (j : Nat) (hj : j < n) (i : Nat) (hi : i < 4) : w.cell? ⟨lb, lo + j * 4 + i, none⟩ = some (aF s j i) := by
  obtain ⟨b, off, e2, hc⟩ := (acts_cut h n (Nat.le_refl n)).1.2 (by omega)
  rw [e] at e2
  simp only [Option.some.injEq, Addr.mk.injEq, and_true] at e2
  obtain ⟨rfl, rfl⟩ := e2
  exact hc j hj i hi
end Go.Proofs.Ytgflipkhhpkidaa
