/- mirrors.with; spec.l13Lines; PairRead of both sides -/
import Derived.Test.YtplnfddleaoimaaPrK
namespace Go.Proofs.Ytplnfddleaoimaa
open Go.RowKit
set_option linter.unusedVariables false
set_option linter.unusedSimpArgs false

/-- those of the first k, if r -/
def wk (r : Bool) (bs : List Nat) (k : Nat) : List Nat := if r then bs.take k else []
theorem wk_zero (r : Bool) (bs : List Nat) : wk r bs 0 = [] := by cases r <;> rfl
theorem wk_len {r : Bool} {bs : List Nat} {k : Nat} (h : bs.length ≤ 10) : (wk r bs k).length ≤ 10 := by
  cases r
  · simp [wk]
  · simp [wk]; omega
theorem wk_yes {bs : List Nat} {k : Nat} (hk : k < bs.length) : wk true bs k ++ [bs.getD k 0] = wk true bs (k + 1) := by
  simp only [wk, if_true]
  rw [List.take_add_one]
  simp [hk]
theorem wk_no (bs : List Nat) (k : Nat) : wk false bs k = wk false bs (k + 1) := rfl
theorem wk_end (r : Bool) (bs : List Nat) : wk r bs bs.length = if r then bs else [] := by cases r <;> simp [wk]
theorem ups_len (lu ru : Bool) (Bl Br : Nat) : (ups lu ru Bl Br).length ≤ 10 := by cases lu <;> cases ru <;> simp [ups]
theorem Mi.vals {w : World} {lo hi Bl Br : Nat} {L R : Value} {zl zr : List Int} {lu ru : Bool} (h : Mi w lo hi Bl Br L R zl zr lu ru) {N : Nat} (h1 : lu = true → zl.length = N) (h2 : ru = true → zr.length = N) : ∀ k, k < (ups lu ru Bl Br).length → ∃ a c, w.cell? ⟨(ups lu ru Bl Br).getD k 0, 0, none⟩ = some (.slice a N c) := by
  obtain ⟨la, lc, e1, _⟩ := h.ol.form
  obtain ⟨ra, rc, e2, _⟩ := h.or.form
  have c1 := (side_facts h.bl).2.1
  have c2 := (side_facts h.br).2.1
  rw [e1] at c1
  rw [e2] at c2
  intro k hk
  cases lu <;> cases ru
  · simp [ups] at hk
  · have hk0 : k = 0 := by simp [ups] at hk; omega
    subst hk0
    exact ⟨ra, rc, by rw [← h2 rfl]; exact c2⟩
  · have hk0 : k = 0 := by simp [ups] at hk; omega
    subst hk0
    exact ⟨la, lc, by rw [← h1 rfl]; exact c1⟩
  · have hk0 : k = 0 ∨ k = 1 := by simp [ups] at hk; omega
    rcases hk0 with rfl | rfl
    · exact ⟨la, lc, by rw [← h1 rfl]; exact c1⟩
    · exact ⟨ra, rc, by rw [← h2 rfl]; exact c2⟩

set_option maxHeartbeats 4000000 in
theorem with_any (lo hi Bl Br : Nat) (L R : Value) (zl zr : List Int) (lu ru : Bool) (line : Int) (N : Nat) (w : World) (h : Mi w lo hi Bl Br L R zl zr lu ru) (h1 : lu = true → zl.length = N) (h2 : ru = true → zr.length = N) :
    Calls Try.prog 33 #[.agg #[pt Bl, pt Br], .int .i64 line] w fun e w' => ∃ v, e = .returned v ∧ Pr w' w.heap.size v (if inB line 0 N then ups lu ru Bl Br else []) ∧ Below w.heap.size w w' := by
  have hA : Below w.heap.size w (w.alloc (.cells #[pt Bl, pt Br] 50)) := (Below.refl _ _).alloc (Nat.le_refl _) _
  have hq := heap_alloc_new w (.cells #[pt Bl, pt Br] 50)
  have hM := h.below hA
  have HV := hide (hM.vals h1 h2)
  have HU := fun W h => up_any lo hi Bl Br L R zl zr lu ru W h
  have HL := hide (ups_len lu ru Bl Br)
  have hbl := fun w => isBelow_any line N w
  obtain ⟨_, q0, q1⟩ := two_cells hq
  have HX := hide (And.intro hM hA)
  clear h hM hA hq h1 h2
  generalize ups lu ru Bl Br = bs at HU HV HL ⊢
  generalize inB line 0 N = r at hbl ⊢
  obtain ⟨out, hout⟩ : ∃ out, (if r then bs else []) = out := ⟨_, rfl⟩
  rw [hout]
  have HO := hide hout
  clear hout
  go_enter Try.func33, Try.ntmps33
  go_wp2_with fail
  refine (HU _ HX.out.1).mono ?_
  rintro e W ⟨v, rfl, hpr, hbW⟩
  obtain ⟨va, vc, e1, hcell⟩ := hpr.form
  subst e1
  have hB0 := HX.out.2.trans (hbW.mono HX.out.2.size)
  have HC : Hid (∀ k, k < bs.length → ∃ g, va = some ⟨g, 0, none⟩ ∧ W.cell? ⟨g, k, none⟩ = some (pt (bs.getD k 0)) ∧ ∃ a c, W.cell? ⟨bs.getD k 0, 0, none⟩ = some (.slice a N c)) := hide (fun k hk => by
    obtain ⟨g, e, hg⟩ := hcell (by omega)
    obtain ⟨a, c, hac⟩ := HV.out k hk
    exact ⟨g, e, hg k hk, a, c, keepc hbW hac⟩)
  have hn : bs.length ≤ 10 := HL.out
  clear HU HV HX hcell hbW hpr q0 q1
  go_wp2
  go_loopw [5, 11] (fun u i wr => ∃ (k : Nat) (ua : Option Addr) (uc : Nat), k ≤ bs.length ∧ i = .int .i64 k ∧ u = .slice ua (wk r bs k).length uc ∧ Hid (Pr wr W.heap.size (.slice ua (wk r bs k).length uc) (wk r bs k) ∧ Below W.heap.size W wr)) (fun _ i _ => bs.length - (intOf i).toNat)
  case atStart => exact ⟨0, none, 0, by omega, rfl, by rw [wk_zero]; rfl, hide (by rw [wk_zero]; exact ⟨Pr.nil _ _, Below.refl _ _⟩)⟩
  case round =>
    obtain ⟨k, ua, uc, hk, rfl, rfl, HR⟩ := hrel
    by_cases hlt : k < bs.length
    · obtain ⟨g, rfl, cc, a, c, cv⟩ := HC.out k hlt
      have c1 := keepc HR.out.2 cc
      have c2 := keepc HR.out.2 cv
      have hlen := wk_len (r := r) (k := k) hn
      have hgrow := HR.out.2.size
      have HY : Hid (r = true → wk r bs k ++ [bs.getD k 0] = wk r bs (k + 1)) := hide (fun e => by subst e; exact wk_yes hlt)
      have HN : Hid (r = false → wk r bs k = wk r bs (k + 1)) := hide (fun e => by subst e; rfl)
      obtain ⟨us', hus'⟩ : ∃ us', wk r bs (k + 1) = us' := ⟨_, rfl⟩
      generalize hus : wk r bs k = us at HR HY HN hlen ⊢
      rw [hus'] at HY HN
      obtain ⟨B, hB⟩ : ∃ B, bs.getD k 0 = B := ⟨_, rfl⟩
      rw [hB] at c1 c2 HY
      generalize bs.length = m at *
      clear hus hB cc cv HC
      cases hr : r with
      | true =>
        rw [hr] at hbl
        have heq := HY.out hr
        obtain ⟨ud, uc2, w2, hrun, hpr, hbe⟩ := append_ptr wr W.heap.size B (.slice ua us.length uc) us 54 HR.out.1 hlen hgrow
        rw [heq] at hpr hrun
        have HR2 := hide (And.intro hpr ((HR.out.2).trans hbe))
        clear HY HN HR heq hpr hbe
        go_wp2_with fail
        refine (hbl _).mono ?_
        rintro e w1 ⟨rfl, rfl⟩
        clear hbl
        go_wp2_with (at_builtin; refine list_append_run (by rfl) _ _ 54 (by rfl) (by rfl) (by rfl) hrun ?_)
        clear hrun
        go_wp2
        go_roundw
        case rel => exact ⟨k + 1, ud, uc2, by omega, by go_num, by rw [← hr, hus'], by rw [← hr, hus']; exact HR2⟩
        case measure => simp [intOf]; omega
      | false =>
        rw [hr] at hbl
        have heq := HN.out hr
        rw [heq] at HR
        clear HY HN
        go_wp2_with fail
        refine (hbl _).mono ?_
        rintro e w1 ⟨rfl, rfl⟩
        clear hbl
        go_wp2
        go_roundw
        case rel => exact ⟨k + 1, ua, uc, by omega, by go_num, by rw [← hr, hus'], by rw [← hr, hus']; exact HR⟩
        case measure => simp [intOf]; omega
    · have e : k = bs.length := by omega
      subst e
      rw [wk_end, HO.out] at HR ⊢
      have HF := hide (And.intro (HR.out.1.mono hB0.size) (hB0.trans (HR.out.2.mono hB0.size)))
      clear HR
      go_wp2
      go_ret
      exact ⟨_, rfl, HF.out.1, HF.out.2⟩

set_option maxHeartbeats 1000000 in
theorem lines_any (la ra : Option Addr) (lc rc n m : Nat) (lu ru : Bool) (w : World) (hn : n ≤ 1048576) (hm : m ≤ 1048576) :
    Calls Try.prog 36 #[.agg (pq (.slice la n lc) (.slice ra m rc) lu ru)] w fun e w' => e = .returned (.int .i64 ((max n m : Nat) : Int)) ∧ Below w.heap.size w w' := by
  have hA : Below w.heap.size w (w.alloc (.cells (pq (.slice la n lc) (.slice ra m rc) lu ru) 26)) := (Below.refl _ _).alloc (Nat.le_refl _) _
  by_cases h : n < m
  · have e1 : (max n m : Nat) = m := by omega
    have h2 : ((n : Int) < (m : Int)) := by omega
    have e2 : max (n : Int) (m : Int) = (m : Int) := by omega
    rw [e1]
    go_enter Try.func36, Try.ntmps36
    go_wp2
    go_ret
    exact ⟨by first | rfl | (rw [e2]) | simp [e2], hA⟩
  · have e1 : (max n m : Nat) = n := by omega
    have h2 : ¬ ((n : Int) < (m : Int)) := by omega
    have e2 : max (n : Int) (m : Int) = (n : Int) := by omega
    rw [e1]
    go_enter Try.func36, Try.ntmps36
    go_wp2
    go_ret
    exact ⟨by first | rfl | (rw [e2]) | simp [e2], hA⟩

theorem pairB_same' {zl zr : List Int} (h : pairB zl zr true true = true) : zl = zr := by
  simp only [pairB, Bool.and_eq_true] at h
  simpa using h.2
theorem pairB_n {zl zr : List Int} {lu ru : Bool} (h : pairB zl zr lu ru = true) : (lu = true → zl.length = max zl.length zr.length) ∧ (ru = true → zr.length = max zl.length zr.length) ∧ (lu = false → ru = false → max zl.length zr.length = 0) := by
  cases lu <;> cases ru
  · rw [pairB_ff] at h; simp at h; simp [h]
  · rw [pairB_ft] at h; simp at h; simp [h.1]
  · rw [pairB_tf] at h; simp at h; simp [h.2]
  · have := pairB_same' h; subst this; simp

/-- what is read: of the left side, if it is up -/
def vRead (zl zr : List Int) (lu : Bool) (line : Int) : Int := (if lu then zl else zr).getD line.toNat 0
def kRead (zl zr : List Int) (lu ru : Bool) (line : Int) : Bool := pairB zl zr lu ru && inB line 0 (max zl.length zr.length : Nat)
def rRead (zl zr : List Int) (lu ru : Bool) (line : Int) : Value := .tuple #[.int .i64 (if kRead zl zr lu ru line then vRead zl zr lu line else 0), .bool (kRead zl zr lu ru line)]

set_option maxHeartbeats 8000000 in
theorem implRead_any (L R : Value) (zl zr : List Int) (lu ru : Bool) (line : Int) (w : World) (hl : Sl w L zl) (hr : Sl w R zr) (hn : zl.length + zr.length ≤ 1048576) :
    Calls Try.prog 14 #[.agg (pq L R lu ru), .int .i64 line] w fun e w' => e = .returned (rRead zl zr lu ru line) ∧ Below w.heap.size w w' := by
  have HV := hide (And.intro hl hr)
  obtain ⟨ld, lc, rfl, _⟩ := hl
  obtain ⟨rd, rc, rfl, _⟩ := hr
  have hmo := fun W h k => mirrorsOf_any (.slice ld zl.length lc) (.slice rd zr.length rc) zl zr lu ru W h k hn
  have HNN : Hid (pairB zl zr lu ru = true → (lu = true → zl.length = max zl.length zr.length) ∧ (ru = true → zr.length = max zl.length zr.length) ∧ (lu = false → ru = false → max zl.length zr.length = 0)) := hide pairB_n
  have HNo : Hid ((pairB zl zr lu ru && inB line 0 (max zl.length zr.length : Nat)) = false → rRead zl zr lu ru line = .tuple #[.int .i64 0, .bool false]) := hide (fun h => by unfold rRead kRead; rw [h]; rfl)
  have HYs : Hid ((pairB zl zr lu ru && inB line 0 (max zl.length zr.length : Nat)) = true → rRead zl zr lu ru line = .tuple #[.int .i64 (vRead zl zr lu line), .bool true]) := hide (fun h => by unfold rRead kRead; rw [h]; rfl)
  generalize rRead zl zr lu ru line = ans at HNo HYs ⊢
  generalize pairB zl zr lu ru = b at hmo HNo HYs HNN
  have hA0 : Below w.heap.size w (w.alloc (.cells (pq (.slice ld zl.length lc) (.slice rd zr.length rc) lu ru) 26)) := (Below.refl _ _).alloc (Nat.le_refl _) _
  clear hn
  go_enter Try.func14, Try.ntmps14
  go_wp2_with fail
  refine (hmo _ (HV.out.1.below hA0) (HV.out.2.below hA0)).mono ?_
  rintro e w1 ⟨hyes, hno, hb1⟩
  have hB1 := hA0.trans (hb1.mono hA0.size)
  clear hmo hA0 HV hb1
  cases b with
  | false =>
    obtain rfl := hno rfl
    obtain rfl := HNo.out rfl
    clear hyes hno HNo HYs HNN
    have hA : Below w1.heap.size w1 (w1.alloc (.cells #[.pointer none, .pointer none] 50)) := (Below.refl _ _).alloc (Nat.le_refl _) _
    have hB2 := hB1.trans (hA.mono hB1.size)
    go_wp2
    exact bodyPost_ret (v := .tuple #[.int .i64 0, .bool false]) (by simp [results, Try.results14, go_sem]) rfl ⟨rfl, hB2⟩
  | true =>
    obtain ⟨Bl, Br, ad, ac, bd, bc, rfl, hM⟩ := hyes rfl
    have hNN := HNN.out rfl
    clear hno hyes
    have hA : Below w1.heap.size w1 (w1.alloc (.cells #[pt Bl, pt Br] 50)) := (Below.refl _ _).alloc (Nat.le_refl _) _
    have hq := heap_alloc_new w1 (.cells #[pt Bl, pt Br] 50)
    have hB2 := hB1.trans (hA.mono hB1.size)
    have hM2 := (hM.below hA)
    obtain ⟨_, q0, q1⟩ := two_cells hq
    have HX := hide (And.intro hM2 (And.intro hB2 hNN))
    clear hM hM2 hA hB1 hB2 hq hNN HNN
    go_wp2_with fail
    refine (with_any _ _ Bl Br _ _ zl zr lu ru line (max zl.length zr.length) _ HX.out.1 HX.out.2.2.1 HX.out.2.2.2.1).mono ?_
    rintro e w2 ⟨v, rfl, hpr, hb2⟩
    have hM4 := HX.out.1.below hb2
    have hB4 := HX.out.2.1.trans (hb2.mono HX.out.2.1.size)
    have hNN := HX.out.2.2
    clear HX hb2 q0 q1
    by_cases hin : inB line 0 (max zl.length zr.length : Nat) = true
    · rw [if_pos hin] at hpr
      obtain rfl := HYs.out (by rw [hin]; rfl)
      obtain ⟨k, rfl⟩ : ∃ k : Nat, line = k := ⟨line.toNat, by simp [inB] at hin; omega⟩
      have hk : k < max zl.length zr.length := by simp [inB] at hin; omega
      obtain ⟨ua, uc, e1, hcell⟩ := hpr.form
      subst e1
      cases lu with
      | true =>
        obtain ⟨g, rfl, hc⟩ := hcell (by cases ru <;> exact Nat.succ_pos _)
        have hc0 : w2.cell? ⟨g, 0, none⟩ = some (pt Bl) := by have := hc 0 (by cases ru <;> exact Nat.succ_pos _); cases ru <;> exact this
        have hc1 : w2.cell? ⟨Bl, 0, none⟩ = some (.slice ad zl.length ac) := (side_facts hM4.bl).2.1
        obtain ⟨m, hm, hkl⟩ : ∃ m, (ups true ru Bl Br).length = m ∧ 0 < m := ⟨_, rfl, by cases ru <;> exact Nat.succ_pos _⟩
        have hne : ¬ ((m : Int) = 0) := by omega
        have hk1 : k < zl.length := by rw [hNN.1 rfl]; exact hk
        obtain ⟨ad', ac', e2, hsl⟩ := hM4.ol.sl
        simp only [Value.slice.injEq, true_and] at e2
        obtain ⟨rfl, rfl⟩ := e2
        obtain ⟨p, off, rfl, hcc⟩ := hsl (by omega)
        have hck := hcc k hk1
        have HO : Hid (zl.getD k 0 = vRead zl zr true k) := hide (by simp [vRead])
        generalize zl.getD k 0 = z at hck HO
        generalize zl.length = n at *
        rw [hm]
        clear hc hcell hpr hM4 hNN hcc hsl hin hk hm HNo HYs
        go_wp2
        exact bodyPost_ret (v := .tuple #[.int .i64 z, .bool true]) (by simp [results, Try.results14, go_sem]) rfl ⟨by rw [HO.out], hB4⟩
      | false =>
        cases ru with
        | false => exact absurd hk (by rw [hNN.2.2 rfl rfl]; omega)
        | true =>
          obtain ⟨g, rfl, hc⟩ := hcell (Nat.succ_pos _)
          have hc0 : w2.cell? ⟨g, 0, none⟩ = some (pt Br) := hc 0 (Nat.succ_pos _)
          have hc1 : w2.cell? ⟨Br, 0, none⟩ = some (.slice bd zr.length bc) := (side_facts hM4.br).2.1
          obtain ⟨m, hm, hkl⟩ : ∃ m, (ups false true Bl Br).length = m ∧ 0 < m := ⟨_, rfl, Nat.succ_pos _⟩
          have hne : ¬ ((m : Int) = 0) := by omega
          have hk1 : k < zr.length := by rw [hNN.2.1 rfl]; exact hk
          obtain ⟨ad', ac', e2, hsl⟩ := hM4.or.sl
          simp only [Value.slice.injEq, true_and] at e2
          obtain ⟨rfl, rfl⟩ := e2
          obtain ⟨p, off, rfl, hcc⟩ := hsl (by omega)
          have hck := hcc k hk1
          have HO : Hid (zr.getD k 0 = vRead zl zr false k) := hide (by simp [vRead])
          generalize zr.getD k 0 = z at hck HO
          generalize zr.length = n at *
          rw [hm]
          clear hc hcell hpr hM4 hNN hcc hsl hin hk hm HNo HYs
          go_wp2
          exact bodyPost_ret (v := .tuple #[.int .i64 z, .bool true]) (by simp [results, Try.results14, go_sem]) rfl ⟨by rw [HO.out], hB4⟩
    · rw [if_neg hin] at hpr
      obtain rfl := HNo.out (by cases h : inB line 0 (max zl.length zr.length : Nat) <;> simp_all)
      obtain ⟨ua, uc, e1, _⟩ := hpr.form
      subst e1
      have he : ([] : List Nat).length = 0 := rfl
      rw [he]
      clear hpr hM4 hNN hin HNo HYs
      go_wp2
      exact bodyPost_ret (v := .tuple #[.int .i64 0, .bool false]) (by simp [results, Try.results14, go_sem]) rfl ⟨rfl, hB4⟩

set_option maxHeartbeats 8000000 in
theorem specRead_any (L R : Value) (zl zr : List Int) (lu ru : Bool) (line : Int) (w : World) (hl : Sl w L zl) (hr : Sl w R zr) (hn : zl.length + zr.length ≤ 1048576) :
    Calls Try.prog 21 #[.agg (pq L R lu ru), .int .i64 line] w fun e w' => e = .returned (rRead zl zr lu ru line) ∧ Below w.heap.size w w' := by
  have HV := hide (And.intro hl hr)
  obtain ⟨ld, lc, rfl, hl2⟩ := hl
  obtain ⟨rd, rc, rfl, hr2⟩ := hr
  have hok := fun W h k => specPairOk_any (.slice ld zl.length lc) (.slice rd zr.length rc) zl zr lu ru W h k hn
  have hli := fun W => lines_any ld rd lc rc zl.length zr.length lu ru W (by omega) (by omega)
  have hin := fun W => l1In_any line 0 (((max zl.length zr.length : Nat) : Int) - 1) W (by omega)
  have einb : ((max zl.length zr.length : Nat) : Int) - 1 + 1 = ((max zl.length zr.length : Nat) : Int) := by omega
  rw [einb] at hin
  have HNN : Hid (pairB zl zr lu ru = true → (lu = true → zl.length = max zl.length zr.length) ∧ (ru = true → zr.length = max zl.length zr.length) ∧ (lu = false → ru = false → max zl.length zr.length = 0)) := hide pairB_n
  have HNo : Hid ((pairB zl zr lu ru && inB line 0 (max zl.length zr.length : Nat)) = false → rRead zl zr lu ru line = .tuple #[.int .i64 0, .bool false]) := hide (fun h => by unfold rRead kRead; rw [h]; rfl)
  have HYs : Hid ((pairB zl zr lu ru && inB line 0 (max zl.length zr.length : Nat)) = true → rRead zl zr lu ru line = .tuple #[.int .i64 (vRead zl zr lu line), .bool true]) := hide (fun h => by unfold rRead kRead; rw [h]; rfl)
  generalize rRead zl zr lu ru line = ans at HNo HYs ⊢
  generalize pairB zl zr lu ru = b at hok HNo HYs HNN
  have HN := hide hn
  have HS := hide (And.intro hl2 hr2)
  have HI : Hid (inB line 0 (max zl.length zr.length : Nat) = true → 0 ≤ line ∧ line < (max zl.length zr.length : Nat)) := hide (fun h => by simpa [inB] using h)
  have hA0 : Below w.heap.size w (w.alloc (.cells (pq (.slice ld zl.length lc) (.slice rd zr.length rc) lu ru) 26)) := (Below.refl _ _).alloc (Nat.le_refl _) _
  have hbx := bx4 w (.slice ld zl.length lc) (.slice rd zr.length rc) (.bool lu) (.bool ru) 26
  have HX := hide hbx
  clear hn einb hl2 hr2 hbx
  generalize hmx : (max zl.length zr.length : Nat) = M at hli hin HNN HNo HYs HI
  clear hmx
  generalize inB line 0 (M : Int) = r at hin HNo HYs HI
  go_enter Try.func21, Try.ntmps21
  go_wp2_with fail
  refine (hok _ (HV.out.1.below hA0) (HV.out.2.below hA0)).mono ?_
  rintro e w1 ⟨rfl, hb1⟩
  have hB1 := hA0.trans (hb1.mono hA0.size)
  replace HX := hide (HX.out.below hb1)
  clear hok hA0 hb1
  cases b with
  | false =>
    obtain rfl := HNo.out rfl
    clear HNo HYs HNN hli hin HI HX HS HV HN
    go_wp2
    exact bodyPost_ret (v := .tuple #[.int .i64 0, .bool false]) (by simp [results, Try.results21, go_sem]) rfl ⟨rfl, hB1⟩
  | true =>
    have hNN := HNN.out rfl
    have hw : wrap64 ((M : Int) - 1) = (M : Int) - 1 := Go.IntWalk.wrap64_in _ (by have := HN.out; cases lu <;> cases ru <;> first | (have := hNN.1 rfl; omega) | (have := hNN.2.1 rfl; omega) | (have := hNN.2.2 rfl rfl; omega))
    have HN2 := hide hNN
    obtain ⟨x0, x1, x2, x3⟩ := HX.out
    clear HNN hNN
    go_wp2_with fail
    refine (hli _).mono ?_
    rintro e w2 ⟨rfl, hb2⟩
    have hB2 := hB1.trans (hb2.mono hB1.size)
    replace HX := hide (HX.out.below hb2)
    clear x0 x1 x2 x3 hB1 hb2 hli
    go_wp2_with fail
    refine (hin _).mono ?_
    rintro e w3 ⟨rfl, rfl⟩
    clear hin hw
    cases r with
    | false =>
      obtain rfl := HNo.out (by first | rfl | simp)
      clear HNo HYs HI HX HS HV HN HN2
      go_wp2
      exact bodyPost_ret (v := .tuple #[.int .i64 0, .bool false]) (by simp [results, Try.results21, go_sem]) rfl ⟨rfl, hB2⟩
    | true =>
      obtain rfl := HYs.out (by first | rfl | simp)
      have hi := HI.out (by first | rfl | trivial)
      obtain ⟨k, rfl⟩ : ∃ k : Nat, line = k := ⟨line.toNat, by omega⟩
      have hk : k < M := by omega
      have hNN := HN2.out
      obtain ⟨x0, x1, x2, x3⟩ := HX.out
      cases lu with
      | true =>
        have hk1 : k < zl.length := by rw [hNN.1 rfl]; exact hk
        obtain ⟨p, off, rfl, hcc⟩ := HS.out.1 (by omega)
        have hck := Below.keep hB2 _ _ (hcc k hk1)
        have HO : Hid (zl.getD k 0 = vRead zl zr true k) := hide (by simp [vRead])
        generalize zl.getD k 0 = z at hck HO
        generalize zl.length = n at *
        clear hNN hcc hi hk HNo HYs HI HS HV HN2 HN HX
        go_wp2
        exact bodyPost_ret (v := .tuple #[.int .i64 z, .bool true]) (by simp [results, Try.results21, go_sem]) rfl ⟨by rw [HO.out], hB2⟩
      | false =>
        cases ru with
        | false => exact absurd hk (by rw [hNN.2.2 rfl rfl]; omega)
        | true =>
          have hk1 : k < zr.length := by rw [hNN.2.1 rfl]; exact hk
          obtain ⟨p, off, rfl, hcc⟩ := HS.out.2 (by omega)
          have hck := Below.keep hB2 _ _ (hcc k hk1)
          have HO : Hid (zr.getD k 0 = vRead zl zr false k) := hide (by simp [vRead])
          generalize zr.getD k 0 = z at hck HO
          generalize zr.length = n at *
          clear hNN hcc hi hk HNo HYs HI HS HV HN2 HN HX
          go_wp2
          exact bodyPost_ret (v := .tuple #[.int .i64 z, .bool true]) (by simp [results, Try.results21, go_sem]) rfl ⟨by rw [HO.out], hB2⟩

end Go.Proofs.Ytplnfddleaoimaa
