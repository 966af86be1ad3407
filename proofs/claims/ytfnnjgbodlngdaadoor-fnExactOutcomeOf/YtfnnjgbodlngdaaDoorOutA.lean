/- spec.OutcomeOf, impl.OutcomeOf: the text of a Tso's registers and memory -/
import Derived.Test.YtfnnjgbodlngdaaDoorStrB
import Derived.Test.YtfnnjgbodlngdaaDoorTsE
import Derived.Test.YtfnnjgbodlngdaaDoorTsF
namespace Go.Proofs.YtfnnjgbodlngdaaDoor
open Go.RowKit
set_option linter.unusedVariables false
set_option linter.unusedSimpArgs false

theorem tok_parts {zs : List Int} {C : Nat} {L : Nat → Nat} {F : Nat → Nat → Nat → Int} {R : Nat} {Z : Nat → List Int} (h : tokB zs C L F R Z = true) : (1 ≤ C ∧ C ≤ 3) ∧ R = C ∧ zs.length = 3 ∧ (∀ j, j < 3 → 0 ≤ zs.getD j 0 ∧ zs.getD j 0 < 10) ∧ (∀ c, c < C → L c ≤ 4 ∧ (∀ j, j < L c → (0 ≤ F c j 0 ∧ F c j 0 < 3) ∧ 0 ≤ F c j 1 ∧ F c j 1 < 10) ∧ (Z c).length = 2 ∧ ∀ j, j < 2 → 0 ≤ (Z c).getD j 0 ∧ (Z c).getD j 0 < 10) := by
  simp only [tokB, inB, digB, stB, Bool.and_eq_true, decide_eq_true_eq] at h
  obtain ⟨⟨⟨⟨a, b⟩, c⟩, d, e⟩, g⟩ := h
  refine ⟨by omega, c, d, fun j hj => e j (by omega), fun k hk => ?_⟩
  obtain ⟨⟨p, q⟩, r, s⟩ := g k hk
  exact ⟨p, fun j hj => q j hj, r, fun j hj => s j (by omega)⟩

/-- what a text is made of: few short rows -/
def Dgs (R : Nat) (Z : Nat → List Int) (zs : List Int) : Prop := R ≤ 3 ∧ (∀ c, c < R → Dg (Z c) ∧ (Z c).length ≤ 3) ∧ Dg zs ∧ zs.length ≤ 3
theorem tok_dgs {zs : List Int} {C : Nat} {L : Nat → Nat} {F : Nat → Nat → Nat → Int} {R : Nat} {Z : Nat → List Int} (h : tokB zs C L F R Z = true) : Dgs R Z zs := by
  obtain ⟨h1, h2, h3, h4, h5⟩ := tok_parts h
  refine ⟨by omega, fun c hc => ?_, ⟨by omega, fun j hj => ?_⟩, by omega⟩
  · obtain ⟨_, _, q1, q2⟩ := h5 c (by omega)
    refine ⟨⟨by omega, fun j hj => ?_⟩, by omega⟩
    have := q2 j (by omega)
    omega
  · have := h4 j (by omega)
    omega

/-- the rows of registers, a stroke behind each -/
def outR (Z : Nat → List Int) : Nat → List UInt8
  | 0 => []
  | k + 1 => outR Z k ++ dg (Z k) (Z k).length ++ [47]
def outT (R : Nat) (Z : Nat → List Int) (zs : List Int) : List UInt8 := outR Z R ++ dg zs zs.length
theorem outR_len {R : Nat} {Z : Nat → List Int} {zs : List Int} (h : Dgs R Z zs) : ∀ k, k ≤ R → (outR Z k).length ≤ 22 * k
  | 0, _ => by simp [outR]
  | k + 1, hk => by
    have h1 := outR_len h k (by omega)
    have h2 := dg_len (h.2.1 k (by omega)).1 _ (Nat.le_refl _)
    have h3 := (h.2.1 k (by omega)).2
    simp only [outR, List.length_append, List.length_cons, List.length_nil]
    omega
/-- the rows as a list of texts -/
def rws (Z : Nat → List Int) (k : Nat) : List (List UInt8) := (List.range k).map fun c => dg (Z c) (Z c).length
theorem rws_succ (Z : Nat → List Int) (k : Nat) : rws Z (k + 1) = rws Z k ++ [dg (Z k) (Z k).length] := by simp [rws, List.range_succ]
theorem rws_len (Z : Nat → List Int) (k : Nat) : (rws Z k).length = k := by simp [rws]
theorem join_snoc (xs : List (List UInt8)) (y sp : List UInt8) : Lib.join (xs ++ [y]) sp = (xs.map (· ++ sp)).flatten ++ y := by
  induction xs with
  | nil => simp [Lib.join, List.intercalate, List.intersperse]
  | cons x xs ih =>
    have e : Lib.join (x :: xs ++ [y]) sp = x ++ sp ++ Lib.join (xs ++ [y]) sp := by
      cases xs with
      | nil => simp [Lib.join, List.intercalate, List.intersperse]
      | cons z zs => simp [Lib.join, List.intercalate, List.intersperse]
    rw [e, ih]
    simp
theorem join_rws (Z : Nat → List Int) (k : Nat) (y : List UInt8) : Lib.join (rws Z k ++ [y]) [47] = outR Z k ++ y := by
  rw [join_snoc]
  congr 1
  induction k with
  | zero => rfl
  | succ k ih =>
    rw [rws_succ, List.map_append, List.flatten_append, ih]
    simp [outR]

set_option maxRecDepth 20000 in
set_option maxHeartbeats 2000000 in
theorem l11Out_any (mv bv rv : Value) (zs : List Int) (C : Nat) (L : Nat → Nat) (F : Nat → Nat → Nat → Int) (R : Nat) (Z : Nat → List Int) (w : World) (h : Tv w mv bv rv zs C L F R Z) (hd : Dgs R Z zs) :
    Calls Tryd.prog 32 #[.agg #[mv, bv, rv]] w fun e w' => e = .returned (.string (bstr (outT R Z zs))) ∧ Below w.heap.size w w' := by
  obtain ⟨x0, _, x2⟩ := box3 w mv bv rv 42
  have hA : Below w.heap.size w (w.alloc (.cells #[mv, bv, rv] 42)) := (Below.refl _ _).alloc (Nat.le_refl _) _
  have HT := hide (h.below hA)
  obtain ⟨W, hW⟩ : ∃ W, w.alloc (.cells #[mv, bv, rv] 42) = W := ⟨_, rfl⟩
  rw [hW] at x0 x2 hA HT
  obtain ⟨⟨ma, mc, rfl, _⟩, ⟨ba, bc, rfl, _⟩, ⟨ra, rc, rfl, _⟩⟩ := h
  have HD := hide hd
  have hR3 : R ≤ 3 := hd.1
  have hws : w.heap.size < W.heap.size := World.block_lt_of_cell? W _ x0
  clear hd
  go_enter Tryd.func32, Tryd.ntmps32
  go_wp2
  clear hW
  go_loopw [3, 4] (fun s i wr => ∃ k : Nat, k ≤ R ∧ i = .int .i64 k ∧ s = .string (bstr (outR Z k)) ∧ Below W.heap.size W wr) (fun _ i _ => R - (intOf i).toNat)
  case atStart => exact ⟨0, Nat.zero_le _, rfl, rfl, Below.refl _ _⟩
  case round =>
    obtain ⟨k, hk, rfl, rfl, hb⟩ := hrel
    obtain ⟨wo, hwo⟩ : ∃ wo, wo = wr := ⟨_, rfl⟩
    subst hwo
    have y0 := keepc hb x0
    have y2 := keepc hb x2
    by_cases hlt : k < R
    · obtain ⟨ad, cap, e0, hreg⟩ := (HT.out.below hb).reg
      obtain ⟨b, off, rfl, hreg2⟩ := hreg (by omega)
      obtain ⟨ia, ic, c1, hrow⟩ := hreg2 k hlt
      obtain ⟨rfl, _, rfl⟩ : ra = some ⟨b, off, none⟩ ∧ True ∧ rc = cap := by simp only [Value.slice.injEq] at e0; exact ⟨e0.1, trivial, e0.2.2⟩
      have hdk := HD.out.2.1 k hlt
      have hol := outR_len HD.out k hk
      obtain ⟨n, hn⟩ : ∃ n, (Z k).length = n := ⟨_, rfl⟩
      have hn3 : n ≤ 3 := hn ▸ hdk.2
      rw [hn] at c1 hrow
      have HN := hide hn
      have HDK := hide hdk.1
      have HRW := hide hrow
      have HB := hide hb
      clear hn hdk hreg hreg2 e0 hrow hb
      go_wp2
      go_loopw [3, 5] (fun s i wq => ∃ j : Nat, j ≤ n ∧ i = .int .i64 j ∧ s = .string (bstr (outR Z k ++ dg (Z k) j)) ∧ Below wo.heap.size wo wq) (fun _ i _ => n - (intOf i).toNat)
      case atStart => exact ⟨0, Nat.zero_le _, rfl, by simp [dg], Below.refl _ _⟩
      case round =>
        obtain ⟨j, hj, rfl, rfl, hbq⟩ := hrel
        have z2 := keepc hbq y2
        have z1 := keepc hbq c1
        have hdl := dg_len HDK.out j (by rw [HN.out]; omega)
        by_cases hjl : j < n
        · obtain ⟨ia', ic', e1, hc⟩ := HRW.out
          rw [HN.out] at hc
          obtain ⟨p, po, rfl, hc2⟩ := hc (by omega)
          obtain ⟨rfl, rfl⟩ : ia = some ⟨p, po, none⟩ ∧ ic = ic' := by simp only [Value.slice.injEq] at e1; exact ⟨e1.1, e1.2.2⟩
          have ck : wr.cell? ⟨p, po + j, none⟩ = some (.int .i64 ((Z k).getD j 0)) := keepc hbq (hc2 j hjl)
          have hk2 := HDK.out.2 j (by rw [HN.out]; exact hjl)
          have hadd := fun W => add_ok (a := outR Z k ++ dg (Z k) j) (b := dec ((Z k).getD j 0)) (by have h2 := dec_len hk2.2; simp only [List.length_append]; omega) W
          have HE : Hid (outR Z k ++ dg (Z k) (j + 1) = outR Z k ++ (dg (Z k) j ++ dec ((Z k).getD j 0))) := hide rfl
          clear hc hc2 e1
          generalize (Z k).getD j 0 = z at ck hk2 hadd HE
          go_wp2_with fail
          refine (dec_any z _ hk2.1 hk2.2).mono ?_
          rintro e w2 ⟨rfl, hb2⟩
          have HB2 := hide (hbq.trans (hb2.mono hbq.size))
          clear hb2 ck hbq z1 z2
          go_wp2
          go_roundw
          case rel => exact ⟨j + 1, by omega, by go_num, by rw [HE.out], HB2.out⟩
          case measure => simp [intOf]; omega
        · have hadd := fun W => add_ok (a := outR Z k ++ dg (Z k) j) (b := [47]) (by simp only [List.length_append, List.length_cons, List.length_nil]; omega) W
          have HE : Hid (outR Z (k + 1) = outR Z k ++ (dg (Z k) j ++ [47])) := hide (by
            have ej : j = (Z k).length := by rw [HN.out]; omega
            rw [ej, ← List.append_assoc]; rfl)
          have HB2 := hide (HB.out.trans (hbq.mono HB.out.size))
          have hadd2 : ∀ W : World, (Op.stringOp .add (bstr (outR Z k ++ dg (Z k) j)) ⟨#[47]⟩).run Tryd.prog W = .ok (.string (bstr (outR Z k ++ dg (Z k) j ++ [47]))) W := hadd
          clear hbq hadd
          go_wp2
          go_roundw
          case rel => exact ⟨k + 1, by omega, by go_num, by rw [HE.out], HB2.out⟩
          case measure => simp [intOf]; omega
    · have ek : k = R := by omega
      subst ek
      have hol := outR_len HD.out k hk
      have HB := hide hb
      obtain ⟨n, hn⟩ : ∃ n, zs.length = n := ⟨_, rfl⟩
      have hn3 : n ≤ 3 := hn ▸ HD.out.2.2.2
      rw [hn] at y0
      have HN := hide hn
      have HDK := hide HD.out.2.2.1
      have HRW := hide (HT.out.below hb).mem
      clear hn hb
      go_wp2
      go_loopw [3, 6] (fun s i wq => ∃ j : Nat, j ≤ n ∧ i = .int .i64 j ∧ s = .string (bstr (outR Z k ++ dg zs j)) ∧ Below wo.heap.size wo wq) (fun _ i _ => n - (intOf i).toNat)
      case atStart => exact ⟨0, Nat.zero_le _, rfl, by simp [dg], Below.refl _ _⟩
      case round =>
        obtain ⟨j, hj, rfl, rfl, hbq⟩ := hrel
        have z0 := keepc hbq y0
        have hdl := dg_len HDK.out j (by rw [HN.out]; omega)
        by_cases hjl : j < n
        · obtain ⟨ia', ic', e1, hc⟩ := HRW.out
          rw [HN.out] at hc e1
          obtain ⟨p, po, rfl, hc2⟩ := hc (by omega)
          obtain ⟨rfl, rfl⟩ : ma = some ⟨p, po, none⟩ ∧ mc = ic' := by simp only [Value.slice.injEq] at e1; exact ⟨e1.1, e1.2.2⟩
          have ck : wr.cell? ⟨p, po + j, none⟩ = some (.int .i64 (zs.getD j 0)) := keepc hbq (hc2 j hjl)
          have hk2 := HDK.out.2 j (by rw [HN.out]; exact hjl)
          have hadd := fun W => add_ok (a := outR Z k ++ dg zs j) (b := dec (zs.getD j 0)) (by have h2 := dec_len hk2.2; simp only [List.length_append]; omega) W
          have HE : Hid (outR Z k ++ dg zs (j + 1) = outR Z k ++ (dg zs j ++ dec (zs.getD j 0))) := hide rfl
          clear hc hc2 e1
          generalize zs.getD j 0 = z at ck hk2 hadd HE
          go_wp2_with fail
          refine (dec_any z _ hk2.1 hk2.2).mono ?_
          rintro e w2 ⟨rfl, hb2⟩
          have HB2 := hide (hbq.trans (hb2.mono hbq.size))
          clear hb2 ck hbq z0
          go_wp2
          go_roundw
          case rel => exact ⟨j + 1, by omega, by go_num, by rw [HE.out], HB2.out⟩
          case measure => simp [intOf]; omega
        · have HE : Hid (outT k Z zs = outR Z k ++ dg zs j) := hide (by
            have ej : j = zs.length := by rw [HN.out]; omega
            rw [ej]; rfl)
          have HB2 := hide (hA.trans ((HB.out.trans (hbq.mono HB.out.size)).mono hA.size))
          clear hbq
          go_wp2
          go_ret
          exact ⟨ret_str (congrArg bstr HE.out.symm), HB2.out⟩

/-- the answer: the empty text for what is no right Tso -/
def ocT (zs : List Int) (C : Nat) (L : Nat → Nat) (F : Nat → Nat → Nat → Int) (R : Nat) (Z : Nat → List Int) : List UInt8 := if tokB zs C L F R Z = true then outT R Z zs else []

set_option maxRecDepth 20000 in
set_option maxHeartbeats 2000000 in
theorem specOutcome_any (mv bv rv : Value) (zs : List Int) (C : Nat) (L : Nat → Nat) (F : Nat → Nat → Nat → Int) (R : Nat) (Z : Nat → List Int) (w : World) (h : Tv w mv bv rv zs C L F R Z) :
    Calls Tryd.prog 12 #[.agg #[mv, bv, rv]] w fun e w' => e = .returned (.string (bstr (ocT zs C L F R Z))) ∧ Below w.heap.size w w' := by
  obtain ⟨x0, x1, x2⟩ := box3 w mv bv rv 42
  have hA : Below w.heap.size w (w.alloc (.cells #[mv, bv, rv] 42)) := (Below.refl _ _).alloc (Nat.le_refl _) _
  have HT := hide (h.below hA)
  obtain ⟨⟨ma, mc, rfl, _⟩, ⟨ba, bc, rfl, _⟩, ⟨ra, rc, rfl, _⟩⟩ := h
  have hok := fun W h => specTsoOk_any (.slice ma zs.length mc) (.slice ba C bc) (.slice ra R rc) zs C L F R Z W h
  cases ht : tokB zs C L F R Z
  · rw [ht] at hok
    have HE : Hid (ocT zs C L F R Z = []) := hide (by unfold ocT; rw [if_neg (by rw [ht]; decide)])
    go_enter Tryd.func12, Tryd.ntmps12
    go_wp2_with fail
    refine (hok _ HT.out).mono ?_
    rintro e w1 ⟨rfl, hb1⟩
    have HB := hide (hA.trans (hb1.mono hA.size))
    clear hb1 hA x0 x1 x2
    go_wp2
    go_ret
    exact ⟨by rw [HE.out]; rfl, HB.out⟩
  · rw [ht] at hok
    have HE : Hid (ocT zs C L F R Z = outT R Z zs) := hide (by unfold ocT; rw [if_pos ht])
    have HDD := hide (tok_dgs ht)
    go_enter Tryd.func12, Tryd.ntmps12
    go_wp2_with fail
    refine (hok _ HT.out).mono ?_
    rintro e w1 ⟨rfl, hb1⟩
    have HT1 := hide (HT.out.below hb1)
    have y0 := keepc hb1 x0
    have y1 := keepc hb1 x1
    have y2 := keepc hb1 x2
    have HB := hide (hA.trans (hb1.mono hA.size))
    clear hb1 hA x0 x1 x2
    go_wp2_with fail
    refine (l11Out_any _ _ _ zs C L F R Z _ HT1.out HDD.out).mono ?_
    rintro e w2 ⟨rfl, hb2⟩
    have HB2 := hide (HB.out.trans (hb2.mono HB.out.size))
    clear hb2 y0 y1 y2
    go_wp2
    go_ret
    exact ⟨ret_str (congrArg bstr HE.out.symm), HB2.out⟩

set_option maxRecDepth 20000 in
set_option maxHeartbeats 2000000 in
theorem implOutcome_any (mv bv rv : Value) (zs : List Int) (C : Nat) (L : Nat → Nat) (F : Nat → Nat → Nat → Int) (R : Nat) (Z : Nat → List Int) (w : World) (hp : Pow w) (h : Tv w mv bv rv zs C L F R Z) :
    Calls Tryd.prog 14 #[.agg #[mv, bv, rv]] w fun e w' => e = .returned (.string (bstr (ocT zs C L F R Z))) ∧ Below w.heap.size w w' := by
  obtain ⟨x0, x1, x2⟩ := box3 w mv bv rv 42
  have hA : Below w.heap.size w (w.alloc (.cells #[mv, bv, rv] 42)) := (Below.refl _ _).alloc (Nat.le_refl _) _
  have HT := hide (h.below hA)
  obtain ⟨⟨ma, mc, rfl, _⟩, ⟨ba, bc, rfl, _⟩, ⟨ra, rc, rfl, _⟩⟩ := h
  have hok := fun W h => implTsoOk_any (.slice ma zs.length mc) (.slice ba C bc) (.slice ra R rc) zs C L F R Z W h
  cases ht : tokB zs C L F R Z
  · rw [ht] at hok
    have HE : Hid (ocT zs C L F R Z = []) := hide (by unfold ocT; rw [if_neg (by rw [ht]; decide)])
    go_enter Tryd.func14, Tryd.ntmps14
    go_wp2_with fail
    refine (hok _ HT.out).mono ?_
    rintro e w1 ⟨rfl, hb1⟩
    have HB := hide (hA.trans (hb1.mono hA.size))
    clear hb1 hA x0 x1 x2
    go_wp2
    go_ret
    exact ⟨by rw [HE.out]; rfl, HB.out⟩
  rw [ht] at hok
  have HE : Hid (ocT zs C L F R Z = Lib.join (rws Z R ++ [dg zs zs.length]) [47]) := hide (by unfold ocT; rw [if_pos ht, join_rws]; rfl)
  have HDD := hide (tok_dgs ht)
  have hR3 : R ≤ 3 := HDD.out.1
  go_enter Tryd.func14, Tryd.ntmps14
  go_wp2_with fail
  refine (hok _ HT.out).mono ?_
  rintro e w1 ⟨rfl, hb1⟩
  have HT1 := hide (HT.out.below hb1)
  have y0 := keepc hb1 x0
  have y2 := keepc hb1 x2
  have HB := hide (hA.trans (hb1.mono hA.size))
  have HP := hide (hp.below HB.out)
  have hgp : 1 < w1.heap.size := by have := World.var?_cell gPow HP.out 0; exact World.block_lt_of_cell? w1 _ (this.trans rfl)
  obtain ⟨i0, hi, hz0, hz1, hz2⟩ := info_parts info9
  clear hb1 hA x0 x1 x2 hp hok
  go_wp2
  go_loopw [3, 12] (fun v i wr => ∃ k : Nat, k ≤ R ∧ i = .int .i64 k ∧ OwS wr w1.heap.size v (rws Z k) ∧ Below w1.heap.size w1 wr) (fun _ i _ => R - (intOf i).toNat)
  case atStart => exact ⟨0, Nat.zero_le _, rfl, OwS.nil _ _, Below.refl _ _⟩
  case round =>
    obtain ⟨k, hk, rfl, hos, hb⟩ := hrel
    by_cases hlt : k < R
    · obtain ⟨ad, cap, e0, hreg⟩ := (HT1.out.below hb).reg
      obtain ⟨b, off, rfl, hreg2⟩ := hreg (by omega)
      obtain ⟨ia, ic, c1, hrow⟩ := hreg2 k hlt
      obtain ⟨rfl, rfl⟩ : ra = some ⟨b, off, none⟩ ∧ rc = cap := by simp only [Value.slice.injEq] at e0; exact ⟨e0.1, e0.2.2⟩
      have hdk := HDD.out.2.1 k hlt
      have HEK : Hid (rws Z (k + 1) = rws Z k ++ [dg (Z k) (Z k).length]) := hide (rws_succ Z k)
      have HL : Hid ((rws Z k).length = k) := hide (rws_len Z k)
      obtain ⟨n, hn⟩ : ∃ n, (Z k).length = n := ⟨_, rfl⟩
      have hdig := fun W h1 h2 => digits_any (.slice ia n ic) (Z k) W h1 h2 hdk.1
      rw [hn] at c1 hrow hdig HEK
      have HRW := hide hrow
      have HPk := hide (HP.out.below hb)
      clear hn hdk hreg hreg2 e0 hrow
      go_wp2_with fail
      refine (hdig _ HPk.out HRW.out).mono ?_
      rintro e w2 ⟨rfl, hb2⟩
      have os2 := hos.below hb2
      have hb3 := hb.trans (hb2.mono hb.size)
      have hz3 : w1.heap.size ≤ w2.heap.size := hb3.size
      clear hos hb hb2 HPk HRW hdig c1
      generalize dg (Z k) n = x at HEK
      go_wp2_with (at_builtin; refine wpList_append_own _ rfl _ _ 57 rfl w1.heap.size 9 i0 (.string ⟨#[]⟩) 1 16 Tryd.underlying57 hi hz0 hz1 hz2 rfl (by decide) _ _ _ rfl (World.ownsRow.alloc os2 _) _ 1 1 [.string (bstr x)] rfl rfl (cell_one_new _ _ _) (by intro u hu; simp at hu; subst hu; rfl) (by unfold maxLen; have := HL.out; omega) (by have := HL.out; omega) (by simp; omega) ?_)
      intro v' w8 hown' hgrow _
      have HM := hide (OwS.more hb3 hz3 os2 hown' hgrow)
      clear hown' hgrow os2 hb3
      go_wp2
      go_roundw
      case rel => exact ⟨k + 1, by omega, by go_num, by rw [HEK.out]; exact HM.out.1, HM.out.2⟩
      case measure => simp [intOf]; omega
    · have ek : k = R := by omega
      have z0 := keepc hb y0
      have HL : Hid ((rws Z k).length = k) := hide (rws_len Z k)
      have hdm := HDD.out.2.2.1
      have HRW := hide (HT1.out.below hb).mem
      have HPk := hide (HP.out.below hb)
      have hjl : (Lib.join (rws Z k ++ [dg zs zs.length]) [47]).length ≤ 1000 := by
        rw [join_rws, List.length_append]
        have q1 := outR_len HDD.out k hk
        have q2 := dg_len hdm _ (Nat.le_refl _)
        have q3 := HDD.out.2.2.2
        omega
      have HEK : Hid (ocT zs C L F R Z = Lib.join (rws Z k ++ [dg zs zs.length]) [47]) := hide (by rw [HE.out, ek])
      have HJL := hide hjl
      obtain ⟨n, hn⟩ : ∃ n, zs.length = n := ⟨_, rfl⟩
      have hdig := fun W h1 h2 => digits_any (.slice ma n mc) zs W h1 h2 hdm
      rw [hn] at z0 HRW hdig HEK HJL
      clear hn hdm hjl ek
      go_wp2_with fail
      refine (hdig _ HPk.out HRW.out).mono ?_
      rintro e w2 ⟨rfl, hb2⟩
      have os2 := hos.below hb2
      have hb3 := hb.trans (hb2.mono hb.size)
      have hz3 : w1.heap.size ≤ w2.heap.size := hb3.size
      clear hos hb hb2 HPk HRW hdig z0
      generalize dg zs n = x at HEK HJL
      go_wp2_with (at_builtin; refine wpList_append_own _ rfl _ _ 57 rfl w1.heap.size 9 i0 (.string ⟨#[]⟩) 1 16 Tryd.underlying57 hi hz0 hz1 hz2 rfl (by decide) _ _ _ rfl (World.ownsRow.alloc os2 _) _ 1 1 [.string (bstr x)] rfl rfl (cell_one_new _ _ _) (by intro u hu; simp at hu; subst hu; rfl) (by unfold maxLen; have := HL.out; omega) (by have := HL.out; omega) (by simp; omega) ?_)
      intro v' w8 hown' hgrow _
      have HM := hide (OwS.more hb3 hz3 os2 hown' hgrow)
      clear hown' hgrow os2 hb3
      go_wp2_with fail
      refine (join_any v' w1.heap.size (rws Z k ++ [x]) [47] _ HM.out.1 (by simp) HJL.out (by have := HL.out; simp; omega)).mono ?_
      rintro e w9 ⟨rfl, hb9⟩
      have HB9 := hide (HB.out.trans ((HM.out.2.trans (hb9.mono HM.out.2.size)).mono HB.out.size))
      clear hb9
      go_wp2
      go_ret
      exact ⟨ret_str (congrArg bstr HEK.out.symm), HB9.out⟩

end Go.Proofs.YtfnnjgbodlngdaaDoor
