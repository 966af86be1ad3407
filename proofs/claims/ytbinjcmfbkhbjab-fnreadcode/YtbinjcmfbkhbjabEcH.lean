/- DrawReadCode -/
import Derived.Test.YtbinjcmfbkhbjabEcG
import Derived.Deep.RegionWith
import Derived.Deep.QuietTactic
import Derived.BigQuiet
namespace Go.Proofs.Ytbinjcmfbkhbjab
open Go.RowKit
set_option linter.unusedVariables false
set_option linter.unusedSimpArgs false

/-- three words in a row of their own, behind a reader -/
structure DL (w0 w : World) (g B G cap : Nat) (zs : List Int) : Prop where
  rd : Rdr w g
  bel : Below w0.heap.size w0 w
  own : Ow w B (.slice (some ⟨G, 0, none⟩) 3 cap) zs
  len : zs.length = 3
  lg : w0.heap.size ≤ g
  lB : g < B

theorem DL.drew {w0 w : World} {g B G cap : Nat} {zs : List Int} (h : DL w0 w g B G cap zs) : DL w0 w.drew g B G cap zs := ⟨h.rd, h.bel.drew, h.own, h.len, h.lg, h.lB⟩
theorem DL.read {w0 w w' : World} {g B G cap : Nat} {zs : List Int} (h : DL w0 w g B G cap zs) (hr : Rdr w' g) (hg : w.grownBy w' (some g)) : DL w0 w' g B G cap zs :=
  ⟨hr, below_read h.bel hg h.lg h.bel.size, h.own.read hg h.lB, h.len, h.lg, h.lB⟩
theorem DL.gG {w0 w : World} {g B G cap : Nat} {zs : List Int} (h : DL w0 w g B G cap zs) : B ≤ G := (World.ownsRow.lt h.own G rfl).1
theorem DL.facts {w0 w : World} {g B G cap : Nat} {zs : List Int} (h : DL w0 w g B G cap zs) (k : Nat) (hk : k < 3) : w.frozen? ⟨G, k, none⟩ = false ∧ w.cell? ⟨G, k, none⟩ = some (.int .i64 (zs.getD k 0)) :=
  ⟨(h.own.facts3 h.len k hk).1, (h.own.facts3 h.len k hk).2.1⟩
theorem DL.set {w0 w : World} {g B G cap : Nat} {zs : List Int} (h : DL w0 w g B G cap zs) (k : Nat) (hk : k < 3) (y : Int) : DL w0 (w.setCell ⟨G, k, none⟩ (.int .i64 y)) g B G cap (zs.set k y) := by
  obtain ⟨h1, h2⟩ := (h.own.facts3 h.len k hk).2.2 y
  have hG := h.gG
  have hl := h.lg
  have hB := h.lB
  exact ⟨h.rd.grown h2 (fun j hj => by simp only [Option.some.injEq] at hj; omega), h.bel.setCell (by show w0.heap.size ≤ G; omega) _, h1, by rw [List.length_set]; exact h.len, h.lg, h.lB⟩

set_option maxHeartbeats 4000000 in
theorem drawReadCode_any (ad : Option Addr) (n cap : Nat) (w : World) (hb : Bt w ad n) (hn : n ≤ 1048576) :
    Calls Try.prog 26 #[.slice ad n cap] w fun e w' => ∃ (u : Value) (zs : List Int), e = .returned u ∧ zs.length ≤ 3 ∧ Sl w' u zs ∧ Below w.heap.size w w' := by
  go_enter Try.func26, Try.ntmps26
  go_wp2_with fail
  refine (open_any ad n cap _ hb hn).mono ?_
  rintro e w1 ⟨g, rfl, hg1, hr1, hb1⟩
  clear hb
  go_wp2_with fail
  refine (below_any g 1000001 _ hr1 (by omega) (by omega)).mono ?_
  rintro e w2 ⟨c, rfl, hc0, hc1, hr2, hg2⟩
  obtain ⟨v, rfl⟩ := Int.eq_ofNat_of_zero_le hc0
  have hv : v ≤ 1000000 := by omega
  have HB2 := hide (open_base hg1 hb1 hg2)
  clear hr1 hb1 hg2 hc0 hc1
  go_wp2_with fail
  refine (codeS_any v _).mono ?_
  rintro e w3 ⟨u, rfl, ho3, hb3⟩
  rw [Ecc.codR_yes hv] at ho3
  obtain ⟨ad', cap', rfl, had⟩ := ho3.form
  rw [Ecc.cod_len] at ho3 had ⊢
  obtain ⟨G, rfl⟩ := had (by omega)
  have dl : DL w w3 g w2.heap.size G cap' (Ecc.cod v) := ⟨hr2.below hb3, HB2.out.trans (hb3.mono HB2.out.size), ho3, rfl, hg1, hr2.lt⟩
  generalize Ecc.cod v = zs at dl
  generalize w2.heap.size = B at dl
  clear hr2 hg1 HB2 ho3 hb3 had
  go_wp2_with fail
  refine (below_any g 3 _ dl.rd (by omega) (by omega)).mono ?_
  rintro e w4 ⟨c, rfl, hc0, hc1, hr4, hg4⟩
  obtain ⟨k, rfl⟩ := Int.eq_ofNat_of_zero_le hc0
  have hk : k < 3 := by omega
  replace dl := dl.read hr4 hg4
  clear hr4 hg4 hc0 hc1
  go_wp2
  go_loopw [6] (fun i wr => ∃ (j : Nat) (ys : List Int), j < 3 ∧ i = .int .i64 j ∧ DL w wr g B G cap' ys) (fun i _ => (intOf i).toNat)
  case atStart => exact ⟨k, zs, hk, rfl, dl⟩
  case round =>
    clear dl hk
    obtain ⟨j, ys, hj, rfl, dl⟩ := hrel
    by_cases h0 : 0 < j
    · go_wp2_with fail
      refine (below_any g 3 _ dl.rd (by omega) (by omega)).mono ?_
      rintro e w5 ⟨c, rfl, hc0, hc1, hr5, hg5⟩
      obtain ⟨q, rfl⟩ := Int.eq_ofNat_of_zero_le hc0
      have hq : q < 3 := by omega
      replace dl := dl.read hr5 hg5
      clear hr5 hg5 hc0 hc1
      obtain ⟨f0, c0⟩ := dl.facts q hq
      obtain ⟨z, hz⟩ : ∃ z, ys.getD q 0 = z := ⟨_, rfl⟩
      rw [hz] at c0
      have HZ := hide hz
      have HQ := hide hq
      clear hz
      go_wp2
      go_region_with (first | (go_at_call 31; refine (below_any g 13 _ ?_ (by omega) (by omega)).mono ?_; exact dl.rd; rintro e w6 ⟨cc, rfl, hc0, hc1, hr, hg⟩; (first | (replace dl := dl.read hr hg) | (replace dl := dl.drew.read hr hg)); clear hr hg; clear f0 c0; obtain ⟨f0, c0⟩ := dl.facts q hq; rw [HZ.out] at c0) | (go_at_call 19; refine (flippedZ _ _ _).mono ?_; rintro e w7 ⟨y, bb, rfl, rfl⟩))
      all_goals go_wp2
      all_goals go_roundw
      all_goals first
        | exact ⟨j - 1, _, by omega, by go_num, dl.set q HQ.out _⟩
        | exact ⟨j - 1, _, by omega, by go_num, dl.drew.set q HQ.out _⟩
        | exact ⟨j - 1, _, by omega, by go_num, (dl.set q HQ.out _).drew⟩
        | (simp [intOf]; omega)
    · have e : j = 0 := by omega
      subst e
      clear hj h0
      go_wp2_with fail
      refine (below_any g 12 _ dl.rd (by omega) (by omega)).mono ?_
      rintro e w5 ⟨c, rfl, hc0, hc1, hr5, hg5⟩
      replace dl := dl.read hr5 hg5
      clear hr5 hg5
      obtain ⟨f2, c2⟩ := dl.facts 2 (by omega)
      have hcap : 3 ≤ cap' := by
        rcases dl.own.2 with ⟨h, _⟩ | ⟨_, _, _, h, _, _, h3, _⟩
        · cases h
        · rw [dl.len] at h3
          injection h with _ _ h5
          omega
      have HD := hide dl
      have HT : Hid (Sl w5 (.slice (some ⟨G, 0, none⟩) 2 cap') (ys.take 2)) := hide (by
        have hl := dl.len
        obtain ⟨a1, c1, e1, h1⟩ := dl.own.sl
        rw [hl] at e1 h1
        obtain ⟨b1, o1, rfl, h2⟩ := h1 (by omega)
        injection e1 with e2 _ _
        injection e2 with e3
        injection e3 with e4 e5 _
        subst e4 e5
        have hl2 : (ys.take 2).length = 2 := by rw [List.length_take]; omega
        refine ⟨some ⟨G, 0, none⟩, cap', by rw [hl2], fun _ => ⟨G, 0, rfl, fun j hj => ?_⟩⟩
        rw [hl2] at hj
        rw [h2 j (by omega)]
        congr 2
        simp [List.getD_eq_getElem?_getD, List.getElem?_take, hj])
      clear dl
      by_cases h10 : c = 10
      · subst h10
        go_wp2
        go_ret
        refine ⟨_, _, rfl, ?_, HT.out, HD.out.bel⟩
        rw [List.length_take]; omega
      · by_cases h11 : c = 11
        · subst h11
          have he := fun w => specEcc_any 255 w (by omega)
          generalize Ecc.enc 255 = x at he
          go_wp2_with (go_at_call 12; refine (he _).mono ?_; rintro e w' ⟨rfl, rfl⟩)
          go_ret
          have d2 := HD.out.set 2 (by omega) (x : Int)
          refine ⟨_, _, rfl, ?_, by have := d2.own.sl; exact this, d2.bel⟩
          rw [List.length_set]; exact Nat.le_of_eq HD.out.len
        · have q10 : (c == 10) = false := by simp; omega
          have q11 : (c == 11) = false := by simp; omega
          clear h10 h11
          go_wp2
          go_ret
          exact ⟨_, _, rfl, Nat.le_of_eq HD.out.len, by have := HD.out.own.sl; exact this, HD.out.bel⟩

end Go.Proofs.Ytbinjcmfbkhbjab
