/- spec.NewestOf -/
import Derived.Test.YtfckacabaajnkaaDoorNwB
import Derived.BigQuiet
namespace Go.Proofs.YtfckacabaajnkaaDoor
open Go.RowKit
set_option linter.unusedVariables false
set_option linter.unusedSimpArgs false

theorem below_drewNw {B : Nat} {a w : World} (h : Below B a w) (n : Nat) : Below B a (w.drewN n) := h.trans ⟨rfl, rfl, rfl, Nat.le_refl _, fun _ _ => rfl⟩
/-- a slot's first two cells, found -/
def Row4 (W : World) (sa : Option Addr) (C sc N k : Nat) (a0 a1 : Int) (c : Nat) : Prop :=
  ∃ b ob pi oi ic, sa = some ⟨b, ob, none⟩ ∧ W.cell? ⟨b, ob + c, none⟩ = some (.slice (some ⟨pi, oi, none⟩) N ic) ∧ W.cell? ⟨pi, oi + k * 4, none⟩ = some (.int .i64 a0) ∧ W.cell? ⟨pi, oi + k * 4 + 1, none⟩ = some (.int .i64 a1)
theorem row4 {W : World} {sa : Option Addr} {C sc N k c : Nat} {L : Nat → Nat} {F : Nat → Nat → Nat → Int} (hs : Ss W (.slice sa C sc) C L F) (hL : ∀ c, c < C → L c = N) (hc : c < C) (hk : k < N) : Row4 W sa C sc N k (F c k 0) (F c k 1) c := by
  obtain ⟨ad, cap, hv, hs⟩ := hs
  simp only [Value.slice.injEq, true_and] at hv
  obtain ⟨rfl, rfl⟩ := hv
  obtain ⟨p, off, rfl, hcc⟩ := hs (by omega)
  obtain ⟨ia, ic, q0', hr⟩ := hcc c hc
  have hLk := hL c hc
  rw [hLk] at q0' hr
  obtain ⟨iad, icap, hiv, hr⟩ := hr
  simp only [Value.slice.injEq, true_and] at hiv
  obtain ⟨rfl, rfl⟩ := hiv
  obtain ⟨pi, oi, rfl, hx⟩ := hr (by omega)
  exact ⟨p, off, pi, oi, ic, rfl, q0', hx k hk 0 (by decide), hx k hk 1 (by decide)⟩

set_option maxHeartbeats 8000000 in
set_option maxRecDepth 20000 in
theorem specNewest_any (sa : Option Addr) (C sc : Nat) (la : Option Addr) (N lc : Nat) (qa : Option Addr) (n qc : Nat) (L : Nat → Nat) (F : Nat → Nat → Nat → Int) (G : Nat → LnD) (f : Nat → Nat → Int) (i : Int) (w : World) (hs : Ss w (.slice sa C sc) C L F) (hl : Ls w (.slice la N lc) N G) (hq : Sr w (.slice qa n qc) 6 n f)
    (hC : C ≤ 1048576) (hL : ∀ c, c < C → L c ≤ 1048576) (hN : N ≤ 1048576) (hG : ∀ c, c < N → (G c).zs.length ≤ 1048576 ∧ (G c).qn ≤ 1048576) (hn : n ≤ 1048576) :
    Calls Tryd.prog 19 #[.agg (mc3 (.slice sa C sc) (.slice la N lc) (.slice qa n qc)), .int .i64 i] w fun e w' => e = .returned (.tuple #[.int .i64 (nvI C L F N G n f i), .bool (nvB C L F N G n f i)]) ∧ Below w.heap.size w w' := by
  have mb := mb_box w (.slice sa C sc) (.slice la N lc) (.slice qa n qc) 34
  have hb0 : Below w.heap.size w (w.alloc (.cells (mc3 (.slice sa C sc) (.slice la N lc) (.slice qa n qc)) 34)) := (Below.refl _ _).alloc (Nat.le_refl _) _
  have hmo := l6Line_any sa C sc la N lc qa n qc L F G f i (w.alloc (.cells (mc3 (.slice sa C sc) (.slice la N lc) (.slice qa n qc)) 34)) (hs.below hb0) (hl.below hb0) (hq.below hb0) hC hL hN hG hn
  clear hb0
  have e : (machB C L F N G n f && hlB i N) = nvB C L F N G n f i := rfl
  rw [e] at hmo
  clear e
  cases hm : nvB C L F N G n f i
  · rw [nv_no hm]
    rw [hm] at hmo
    clear hm
    go_enter Tryd.func19, Tryd.ntmps19
    go_wp2_with fail
    refine hmo.mono ?_
    rintro e w1 ⟨rfl, hb1⟩
    have m1 := mb.next hb1
    clear mb hb1 hmo
    go_wp2
    go_ret2
    exact ⟨rfl, m1.1⟩
  · rw [hm] at hmo
    obtain ⟨hM, k, rfl, hkN, hV⟩ := nv_parts hm
    rw [hV]
    obtain ⟨hC5, hN4, hLN⟩ := mach_facts hM
    have HOW := hide (mach_owner hM hkN)
    have hO := fun (W : World) (hb : Below w.heap.size w W) => l6State_any sa C sc (.slice la N lc) (.slice qa n qc) L F N k 2 W (hs.below hb) hC5 hLN hN hkN
    have hSC := stL_cases (pS F k 2) C
    have hlen : (stL (pS F k 2) C).length ≤ 5 := by rw [stL_len]; have := cnt_le (pS F k 2) C; omega
    have HNO : Hid (∀ c xs, stL (pS F k 2) C = (((c : Nat) : Int) + 1) :: xs → newV C F G n f k = F c k 1) := hide (fun c xs h => newV_own h)
    have HNN : Hid (stL (pS F k 2) C = [] → newV C F G n f k = mvF f (k : Int) (endV F (G k) k) (n - 0) 0) := hide (fun h => newV_none h)
    generalize newV C F G n f k = V at HNO HNN ⊢
    generalize stL (pS F k 2) C = X at hO hSC hlen HNO HNN
    clear hm hM hV
    go_enter Tryd.func19, Tryd.ntmps19
    go_wp2_with fail
    refine hmo.mono ?_
    rintro e w1 ⟨rfl, hb1⟩
    have m1 := mb.next hb1
    clear mb hb1 hmo
    obtain ⟨_, c0, c1, c2⟩ := id m1
    go_wp2_with fail
    refine (hO _ m1.1).mono ?_
    rintro e w3 ⟨u, rfl, ho, hb3⟩
    have m3 := m1.next hb3
    clear m1 hb3 c0 c1 c2 hO
    obtain ⟨_, c0, c1, c2⟩ := id m3
    rcases hSC with h | ⟨c, xs, hc, h⟩
    · have HV := hide (HNN.out h)
      subst h
      obtain ⟨ad3, cap3, rfl, _⟩ := ho.form
      clear ho HNN HNO hlen
      obtain ⟨qad, qcap, hqv, hq⟩ := hq
      simp only [Value.slice.injEq, true_and] at hqv
      obtain ⟨rfl, rfl⟩ := hqv
      go_wp2
      go_loopw [7] (fun i wr => ∃ j : Nat, j ≤ n ∧ i = .int .i64 j ∧ MB w w.heap.size (.slice sa C sc) (.slice la N lc) (.slice qa n qc) wr ∧ Hid (V = mvF f (k : Int) (endV F (G k) k) (n - j) j)) (fun i _ => n - (intOf i).toNat)
      case atStart => exact ⟨0, Nat.zero_le _, rfl, m3, HV⟩
      case round =>
        obtain ⟨j, hj, rfl, mk, HK⟩ := hrel
        clear m3 HV c0 c1 c2
        obtain ⟨_, c0, c1, c2⟩ := id mk
        by_cases hlt : j < n
        · obtain ⟨p, off, rfl, hc⟩ := hq (by omega)
          have x0 : wr.cell? ⟨p, off + j * 6, none⟩ = some (.int .i64 (f j 0)) := Below.keep mk.1 _ _ (hc j hlt 0 (by decide))
          have x3 : wr.cell? ⟨p, off + j * 6 + 3, none⟩ = some (.int .i64 (f j 3)) := Below.keep mk.1 _ _ (hc j hlt 3 (by decide))
          have x5 : wr.cell? ⟨p, off + j * 6 + 5, none⟩ = some (.int .i64 (f j 5)) := Below.keep mk.1 _ _ (hc j hlt 5 (by decide))
          have HH : Hid (hitB f (k : Int) j = ((f j 0 == 7) && (f j 3 == (k : Int)))) := hide rfl
          have HF : Hid (hitB f (k : Int) j = true → V = f j 5) := hide (fun h => by rw [HK.out]; exact mvF_yes hlt h)
          have HN : Hid (hitB f (k : Int) j = false → V = mvF f (k : Int) (endV F (G k) k) (n - (j + 1)) (j + 1)) := hide (fun h => by rw [HK.out]; exact mvF_no hlt h)
          generalize f j 0 = a0 at x0 HH
          generalize f j 3 = a3 at x3 HH
          generalize f j 5 = a5 at x5 HF
          have ma := mk
          clear hq hc HK mk
          by_cases h0 : a0 = 7
          · subst h0
            by_cases h3 : a3 = (k : Int)
            · subst h3
              have HR := hide (HF.out (by rw [HH.out]; simp))
              clear HF HN HH
              go_wp2
              go_ret2
              exact ⟨ret_newest HR.out.symm rfl, ma.1⟩
            · have hq3 : (a3 == (k : Int)) = false := by simp [h3]
              have HR := hide (HN.out (by rw [HH.out, hq3]; rfl))
              clear HF HN HH h3
              go_wp2
              go_roundw
              case rel => exact ⟨j + 1, by omega, by go_num, ma, HR⟩
              case measure => simp [intOf]; omega
          · have hq0 : (a0 == 7) = false := by simp [h0]
            have HR := hide (HN.out (by rw [HH.out, hq0]; rfl))
            clear HF HN HH h0
            go_wp2
            go_roundw
            case rel => exact ⟨j + 1, by omega, by go_num, ma, HR⟩
            case measure => simp [intOf]; omega
        · have e : j = n := by omega
          subst e
          have HV : Hid (V = endV F (G k) k) := hide (HK.out.trans (mvF_end _))
          clear hq HK hlt hj
          have hRW : Hid (∀ c, c < C → Row4 wr sa C sc N k (F c k 0) (F c k 1) c) := hide (fun c hc => row4 (hs.below mk.1) hLN hc hkN)
          obtain ⟨lad, lcap, hlv, hl⟩ := hl
          simp only [Value.slice.injEq, true_and] at hlv
          obtain ⟨rfl, rfl⟩ := hlv
          obtain ⟨p, off, rfl, hc⟩ := hl (by omega)
          obtain ⟨s1, s2, s3, s4, ⟨y0, y1, y2, y3, y4, y5, y6⟩, _, _⟩ := hc k hkN
          replace y0 := Below.keep mk.1 _ _ y0
          replace y1 := Below.keep mk.1 _ _ y1
          replace y2 := Below.keep mk.1 _ _ y2
          replace y3 := Below.keep mk.1 _ _ y3
          replace y4 := Below.keep mk.1 _ _ y4
          replace y5 := Below.keep mk.1 _ _ y5
          replace y6 := Below.keep mk.1 _ _ y6
          have HE0 : Hid ((G k).ow = 0 → V = (G k).mem) := hide (fun h => by rw [HV.out]; exact endV_zero h)
          have HE1 : Hid (∀ o : Nat, (G k).ow = (o : Int) + 1 → V = cond (F o k 0 == 3) (F o k 1) (G k).mem) := hide (fun o h => by rw [HV.out]; exact endV_own h)
          clear hc hl hs HV hG hLN
          generalize (G k).mem = mem at y0 HE0 HE1
          generalize (G k).ow = ow at y1 HE0 HE1 HOW
          generalize (G k).bu = bu at y3
          generalize (G k).wt = wt at y4
          generalize (G k).ac = ac at y5
          generalize (G k).zs.length = zn at y2
          generalize (G k).qn = qn at y6
          rcases HOW.out with h0 | ⟨o, ho, h0⟩
          · have HR := hide (HE0.out h0)
            subst h0
            clear HE0 HE1 HOW hRW
            go_wp2
            go_ret2
            exact ⟨ret_newest HR.out.symm rfl, mk.1⟩
          · have HR := hide (HE1.out o h0)
            subst h0
            clear HE0 HE1 HOW
            have hR := hRW.out o ho
            clear hRW
            generalize F o k 0 = b0 at hR HR
            generalize F o k 1 = b1 at hR HR
            obtain ⟨b, ob, pi, oi, ic, rfl, r0, r1, r2⟩ := hR
            have hpos : decide (0 < ((o : Int) + 1)) = true := decide_eq_true (by omega)
            have hgt : decide (((o : Int) + 1) > 0) = true := decide_eq_true (by omega)
            have hsub : ((o : Int) + 1) - 1 = (o : Int) := by omega
            by_cases hb : b0 = 3
            · subst hb
              go_wp2
              go_ret2
              exact ⟨ret_newest HR.out.symm rfl, mk.1⟩
            · have hq0 : (b0 == 3) = false := by simp [hb]
              have HR2 : Hid (V = mem) := hide (by rw [HR.out, hq0]; rfl)
              clear hb HR
              go_wp2
              go_ret2
              exact ⟨ret_newest HR2.out.symm rfl, mk.1⟩
    · have HV := hide (HNO.out c xs h)
      subst h
      obtain ⟨ad3, cap3, rfl, hsl⟩ := ho.sl
      obtain ⟨p3, o3, rfl, hcell⟩ := hsl (by simp)
      have z0 : w3.cell? ⟨p3, o3, none⟩ = some (.int .i64 ((c : Int) + 1)) := hcell 0 (by simp)
      have hR := row4 (hs.below m3.1) hLN hc hkN
      clear ho hsl hcell HNN HNO hs hl hq hLN
      generalize F c k 0 = b0 at hR
      generalize F c k 1 = b1 at hR HV
      obtain ⟨b, ob, pi, oi, ic, rfl, r0, r1, r2⟩ := hR
      have hsub : ((c : Int) + 1) - 1 = (c : Int) := by omega
      have hz : ∃ zl, ((((c : Int) + 1) :: xs).length) = zl ∧ 0 < zl := ⟨_, rfl, by simp⟩
      obtain ⟨zl, hzl, hz0⟩ := hz
      rw [hzl] at hlen ⊢
      clear hzl
      go_wp2
      go_quiet (fail)
      all_goals go_wp2
      all_goals go_ret2
      all_goals exact ⟨ret_newest HV.out.symm rfl, below_drewNw m3.1 _⟩
end Go.Proofs.YtfckacabaajnkaaDoor
