/- Proved: for every code, laws.FnFewer returns true. No condition. -/
import Derived.Test.YtgafpepmmjjaaaaRows
import Derived.Test.YtgafpepmmjjaaaaNdF
import Derived.WalkKit
import Derived.ProofKit
import Derived.OpenShut
import Derived.ShutString
import Derived.ChangeOld
import Derived.Below
import Derived.OpenVars
namespace Go.Proofs.Ytgafpepmmjjaaaa.fnFewer
open Go.ChangeShapes Go.WideShapes Go.ChangeAt Go.WideMaps Go.WideElems Go.RowKit
set_option linter.unusedVariables false
set_option linter.unusedSimpArgs false

theorem own : ownKnob Try.prog.godebug = none := by kernel_rfl
theorem laidOut : laidOutB Try.prog = true := by kernel_rfl

def IsRow (k : IntKind) (w : World) (a : Option Addr) (len cap : Nat) (zs : List Int) : Prop :=
  (a = none ∧ len = 0 ∧ cap = 0 ∧ zs = []) ∨
  ∃ x, a = some x ∧ len ≤ cap ∧ cap ≤ maxLen ∧ zs.length = cap ∧ (∀ i, i < zs.length → w.cell? (x.add i) = some (.int k (zs.getD i 0))) ∧ ∀ n ∈ zs, (Lit.int k n).wf = true

theorem row_bt {w : World} {a : Option Addr} {len cap : Nat} {z : List Int} (h : IsRow .u8 w a len cap z) : Bt w a len := by
  intro h0
  rcases h with ⟨rfl, rfl, rfl, rfl⟩ | ⟨x, rfl, hl, hm, hz, hcell, hwf⟩
  · exact absurd h0 (by simp)
  · obtain ⟨b, off, spot⟩ := x
    have hc := hcell 0 (by omega)
    have hspot : spot = none := by simpa [Addr.add] using World.cell?_spot hc
    subst hspot
    refine ⟨b, off, rfl, fun j hj => ?_⟩
    have hcj := hcell j (by omega)
    rw [addr_add] at hcj
    have hj' : j < z.length := by omega
    have e : z.getD j 0 = z[j] := by simp [hj']
    have hw := bounds_u8 (hwf z[j] (List.getElem_mem hj'))
    exact ⟨z.getD j 0, by rw [e]; exact hw.1, by rw [e]; exact hw.2, hcj⟩

/-- a step over the link -/
def useB (a b y0 y1 : Int) : Bool := (y0 == a && y1 == b) || (y0 == b && y1 == a)

set_option maxHeartbeats 16000000 in
set_option maxRecDepth 20000 in
theorem walk (a0 : Option Addr) (len0 cap0 : Nat) (w : World) (hs : Bt w a0 len0) :
    Calls Try.prog 6 #[.slice a0 len0 cap0] w fun e w' => e = .returned (.bool true) ∧ Below w.heap.size w w' := by
  by_cases hbig : (1048576 : Int) < (len0 : Int)
  · go_enter Try.func6, Try.ntmps6
    go_wp2
    go_ret
    exact ⟨rfl, Below.refl _ _⟩
  have hb : len0 ≤ 1048576 := by omega
  go_enter Try.func6, Try.ntmps6
  go_wp2_with (first | (go_at_call 8; go_in) | fail)
  refine (drawWithout_any a0 len0 cap0 _ hs hb).mono ?_
  rintro e w1 ⟨N, ua, n, uc, f, a, b, rfl, hN1, hN6, hn1, hcp, hs1, hB1⟩
  have HL := hide (Lb.new (N := N) hs1 hB1)
  clear hs hB1 hs1 hb hbig
  have hl : n ≤ 1048576 := by omega
  obtain ⟨_, x0, x1⟩ := row2_facts HL.out.box
  have hI := fun W h => implWithout_any N ua n uc f a b W h hcp.1 hcp.2 hl
  have hS := fun W h => specWithout_any N ua n uc f a b W h hl
  have hDn := fun x y W h => implDist_any N (.slice ua n uc) n f x y W h hl
  have hPn := fun x y W h => implPath_any N (.slice ua n uc) n f x y W h hl
  generalize hBB : w1.heap.size = B3 at HL x0 x1
  go_wp2_with fail
  (try simp only [hBB])
  clear hBB
  refine (hI _ HL.out.sr).mono ?_
  rintro e w2 hpi
  by_cases hNJ : netB N n f = true ∧ jn n f a b = true
  rotate_left
  · obtain ⟨rfl, hb2⟩ := wpost_no hNJ _ _ _ hpi
    have HNO := hide (wpost_no hNJ)
    have HL2 := hide ((HL.out.next hb2).next ((Below.refl _ w2).alloc (Nat.le_refl _) (.cells (nt 0 nilS) 26)))
    have r6 := heap_alloc_new w2 (.cells (nt 0 nilS) 26)
    clear HL hb2 x0 x1 hpi hI hNJ
    obtain ⟨_, x0, x1⟩ := row2_facts HL2.out.box
    generalize hE6 : w2.heap.size = B6 at r6
    go_wp2_with fail
    (try simp only [hE6])
    clear hE6
    refine (hS _ HL2.out.sr).mono ?_
    rintro e w3 hps
    obtain ⟨rfl, hb3⟩ := HNO.out _ _ _ hps
    have hA3 : Below w3.heap.size w3 (w3.alloc (.cells (nt 0 nilS) 26)) := (Below.refl _ w3).alloc (Nat.le_refl _) _
    have HL3 := hide ((HL2.out.next hb3).next hA3)
    have r6 := heap_b (heap_b r6 hb3) hA3
    have r8 := heap_alloc_new w3 (.cells (nt 0 nilS) 26)
    obtain ⟨_, y0, y1⟩ := row2_facts r6
    obtain ⟨_, z0, z1⟩ := row2_facts r8
    clear HL2 hb3 hA3 x0 x1 hps hS HNO
    go_wp2
    go_ret
    exact ⟨rfl, HL3.out.bl⟩
  obtain ⟨k0, hk0, e0, e1, hyes⟩ := wpost_yes hNJ.1 hNJ.2
  have HYES := hide hyes
  have hnt := nt_of hNJ.1
  obtain ⟨ma, mc, rfl, hms, hb2⟩ := hyes _ _ _ hpi
  have hA2 : Below w2.heap.size w2 (w2.alloc (.cells (nt N (.slice ma (n - 1) mc)) 26)) := (Below.refl _ w2).alloc (Nat.le_refl _) _
  have HL2 := hide ((HL.out.next hb2).next hA2)
  have HM2 := hide (Lb.new (N := N) hms (HL.out.bl.trans (hb2.mono HL.out.bl.size)))
  clear HL hb2 x0 x1 hpi hI hms hA2 hyes
  obtain ⟨_, x0, x1⟩ := row2_facts HL2.out.box
  generalize hE6 : w2.heap.size = B6 at HM2
  go_wp2_with fail
  (try simp only [hE6])
  clear hE6
  refine (hS _ HL2.out.sr).mono ?_
  rintro e w3 hps
  obtain ⟨wa, wc, rfl, hws, hb3⟩ := HYES.out _ _ _ hps
  have hA3 : Below w3.heap.size w3 (w3.alloc (.cells (nt N (.slice wa (n - 1) wc)) 26)) := (Below.refl _ w3).alloc (Nat.le_refl _) _
  have HL3 := hide ((HL2.out.next hb3).next hA3)
  have HM3 := hide ((HM2.out.next hb3).next hA3)
  have r8 := heap_alloc_new w3 (.cells (nt N (.slice wa (n - 1) wc)) 26)
  obtain ⟨_, z0, z1⟩ := row2_facts r8
  obtain ⟨_, y0, y1⟩ := row2_facts HM3.out.box
  clear HL2 HM2 hb3 hA3 x0 x1 hps hS HYES hws r8
  have hDm := fun x y W h => implDist_any N (.slice ma (n - 1) mc) (n - 1) (fk f k0) x y W h (by omega)
  have hNm := fun W h => implNetOk_any N (.slice ma (n - 1) mc) (n - 1) (fk f k0) W h (by omega)
  have hmt := fewer_nt hnt hk0
  rw [nt_net hmt] at hNm
  have hin : ∀ c, 0 ≤ c → c < N → inB c 0 N = true := fun c h0 h1 => by simp [inB]; omega
  have HV : Hid (∀ x y, 0 ≤ x → x < N → 0 ≤ y → y < N → dstA N n f x y = dst (jn n f) x y ∧ dstA N (n - 1) (fk f k0) x y = dst (jn (n - 1) (fk f k0)) x y) := hide (fun x y h0 h1 h2 h3 => ⟨dstA_yes hNJ.1 (hin x h0 h1) (hin y h2 h3), dstA_yes (nt_net hmt) (hin x h0 h1) (hin y h2 h3)⟩)
  have hab := jn_lt hnt hNJ.2
  have HGO : Hid (dstA N (n - 1) (fk f k0) a b ≠ 1) := hide (by rw [(HV.out a b hab.1 hab.2.1 hab.2.2.1 hab.2.2.2.1).2]; exact fewer_gone hnt hk0 e0 e1)
  have HNT := hide hnt
  have HE := hide (And.intro e0 e1)
  clear hNJ hnt hmt hin e0 e1 hab hcp
  obtain ⟨M, rfl⟩ : ∃ M : Nat, N = M := ⟨N.toNat, by omega⟩
  have hM : M ≤ 6 := by omega
  go_wp2
  go_loopw [10] (fun i wr => ∃ (k : Nat), k ≤ M ∧ i = .int .i64 k ∧ Lb w wr B3 M (.slice ua n uc) n f ∧ Hid (Lb w wr B6 M (.slice ma (n - 1) mc) (n - 1) (fk f k0))) (fun i _ => M - (intOf i).toNat)
  case atStart => exact ⟨0, Nat.zero_le _, rfl, HL3.out, HM3⟩
  case round =>
    obtain ⟨k, hk, rfl, hlb, HMb⟩ := hrel
    clear HL3 HM3 y0 y1 z0 z1
    obtain ⟨_, x0, x1⟩ := row2_facts hlb.box
    have HLb := hide hlb
    clear hlb
    by_cases hlt : k < M
    · go_wp2
      go_loopw [11] (fun i wr => ∃ (q : Nat), q ≤ M ∧ i = .int .i64 q ∧ Lb w wr B3 M (.slice ua n uc) n f ∧ Hid (Lb w wr B6 M (.slice ma (n - 1) mc) (n - 1) (fk f k0))) (fun i _ => M - (intOf i).toNat)
      case atStart => exact ⟨0, Nat.zero_le _, rfl, HLb.out, HMb⟩
      case round =>
        obtain ⟨q, hq, rfl, hlb, HMb⟩ := hrel
        clear HLb x0 x1
        obtain ⟨_, x0, x1⟩ := row2_facts hlb.box
        have HLb := hide hlb
        clear hlb
        by_cases hqM : q < M
        · have hD1 := hDn k q _ HLb.out.sr
          have hD2 := fun W h => hDm k q W h
          have HPP : Hid (∀ d : Nat, dstA (M : Int) n f k q = d → pthA (M : Int) n f k q = rl (d + 1) (ph n f k q)) := hide (fun d h => pth_yes h)
          have hp6 := pth_le (M : Int) n f k q
          have hP1 := fun W h => hPn k q W h
          obtain ⟨P, hPP⟩ : ∃ P, pthA (M : Int) n f k q = P := ⟨_, rfl⟩
          rw [hPP] at hP1 hp6 HPP
          rw [(HV.out k q (by omega) (by omega) (by omega) (by omega)).1] at hD1 HPP
          rw [(HV.out k q (by omega) (by omega) (by omega) (by omega)).2] at hD2
          have HFar : Hid (0 ≤ dst (jn (n - 1) (fk f k0)) k q → 0 ≤ dst (jn n f) k q ∧ dst (jn n f) k q ≤ dst (jn (n - 1) (fk f k0)) k q) := hide (fun h => fewer_far HNT.out hk0 h)
          have HSame : Hid (∀ d : Nat, dst (jn n f) k q = d → (∀ j, j < d → useB a b (ph n f k q j) (ph n f k q (j + 1)) = false) → dst (jn (n - 1) (fk f k0)) k q = d) := hide (fun d hd hu => fewer_same HNT.out hk0 HE.out.1 HE.out.2 (by omega) hd (fun j hj hh => by
            have := hu j hj
            rcases hh with hh | hh
            · rw [useB, hh.1, hh.2] at this; simp at this
            · rw [useB, hh.1, hh.2] at this; simp at this))
          obtain ⟨d, hd⟩ : ∃ d, dst (jn n f) k q = d := ⟨_, rfl⟩
          obtain ⟨e, he⟩ : ∃ e, dst (jn (n - 1) (fk f k0)) k q = e := ⟨_, rfl⟩
          rw [hd] at hD1 HPP HFar HSame
          rw [he] at hD2 HFar HSame
          clear hd he hPP
          go_wp2_with fail
          refine hD1.mono ?_
          rintro ee w5 ⟨rfl, hb5⟩
          have HL5 := hide (HLb.out.next hb5)
          have HM5 := hide (HMb.out.next hb5)
          clear HLb HMb hb5 x0 x1 hD1
          obtain ⟨_, x0, x1⟩ := row2_facts HM5.out.box
          go_wp2_with fail
          refine (hD2 _ HM5.out.sr).mono ?_
          rintro ee w6 ⟨rfl, hb6⟩
          have HL6 := hide (HL5.out.next hb6)
          have HM6 := hide (HM5.out.next hb6)
          clear HL5 HM5 hb6 x0 x1 hD2
          obtain ⟨_, x0, x1⟩ := row2_facts HL6.out.box
          have HOK : Hid (0 ≤ e → decide (d < 0) = false ∧ decide (e < d) = false) := hide (fun h => by have := HFar.out h; constructor <;> simp <;> omega)
          have hP2 := hP1 w6 HL6.out.sr
          clear hP1 HFar
          by_cases he0 : 0 ≤ e
          · have hed : decide (0 ≤ e) = true := by simpa using he0
            obtain ⟨o1, o2⟩ := HOK.out he0
            clear he0
            go_wp2_with fail
            refine hP2.mono ?_
            rintro ee w7 ⟨up, rfl, hup, hb7⟩
            have HL7 := hide (HL6.out.next hb7)
            have HM7 := hide (And.intro (HM6.out.next hb7) (hup.mono (base' := 0) (Nat.zero_le _)))
            obtain ⟨pa, pc, rfl, hpa⟩ := hup.form
            clear HL6 HM6 hb7 x0 x1 hP2 hup
            obtain ⟨Lp, hLp⟩ : ∃ Lp, P.length = Lp := ⟨_, rfl⟩
            have HLp := hide hLp
            rw [hLp] at hpa hp6 HM7 ⊢
            clear hLp
            go_wp2
            go_loopw [15, 16] (fun t i wr => ∃ (ii : Nat) (us : Bool), 1 ≤ ii ∧ (ii ≤ Lp ∨ ii = 1) ∧ i = .int .i64 ii ∧ t = .bool us ∧ Lb w wr B3 M (.slice ua n uc) n f ∧ Hid (Lb w wr B6 M (.slice ma (n - 1) mc) (n - 1) (fk f k0) ∧ Ow wr 0 (.slice pa Lp pc) P ∧ (us = false → ∀ j, j + 1 < ii → useB a b (gd P j) (gd P (j + 1)) = false))) (fun _ i _ => Lp - (intOf i).toNat)
            case atStart => exact ⟨1, false, Nat.le_refl _, .inr rfl, rfl, rfl, HL7.out, hide ⟨HM7.out.1, HM7.out.2, fun _ j hj => by omega⟩⟩
            case round =>
              obtain ⟨ii, us, hi1, hi2, rfl, rfl, hlw, HMw⟩ := hrel
              have HLw := hide hlw
              clear HL7 HM7 hlw
              by_cases hiL : ii < Lp
              · obtain ⟨gp, rfl⟩ := hpa (by omega)
                obtain ⟨jj, hjj⟩ : ∃ jj, ii = jj + 1 := ⟨ii - 1, by omega⟩
                subst hjj
                cases us with
                | true =>
                  go_wp2
                  go_roundw
                  case rel => exact ⟨jj + 1 + 1, true, by omega, by omega, by go_num, rfl, HLw.out, hide ⟨HMw.out.1, HMw.out.2.1, fun h => absurd h (by decide)⟩⟩
                  case measure => simp [intOf]; omega
                | false =>
                  have c0 := HMw.out.2.1.at (i := jj) (by rw [HLp.out]; omega)
                  have c1 := HMw.out.2.1.at (i := jj + 1) (by rw [HLp.out]; omega)
                  have HUU : Hid (∀ r, useB a b (gd P jj) (gd P (jj + 1)) = r → r = false → ∀ j, j + 1 < jj + 1 + 1 → useB a b (gd P j) (gd P (j + 1)) = false) := hide (fun r h1 h2 j hj => by
                    by_cases ej : j = jj
                    · subst ej; rw [h1]; exact h2
                    · exact HMw.out.2.2 rfl j (by omega))
                  obtain ⟨y0, hy0⟩ : ∃ y0, gd P jj = y0 := ⟨_, rfl⟩
                  obtain ⟨y1, hy1⟩ : ∃ y1, gd P (jj + 1) = y1 := ⟨_, rfl⟩
                  have HUV : Hid (useB a b (gd P jj) (gd P (jj + 1)) = useB a b y0 y1) := hide (by rw [hy0, hy1])
                  rw [hy0] at c0
                  rw [hy1] at c1
                  clear hy0 hy1
                  have hwj : wrap64 (((jj + 1 : Nat) : Int) - 1) = (jj : Int) := by rw [Go.IntWalk.wrap64_in _ (by omega)]; omega
                  have hwj2 : wrap64 ((jj : Int) + 1 - 1) = (jj : Int) := by rw [Go.IntWalk.wrap64_in _ (by omega)]; omega
                  have hj1 : jj < Lp := by omega
                  have hj2 : (jj : Int) < (Lp : Int) := by omega
                  have hj3 : ((jj + 1 : Nat) : Int) < (Lp : Int) := by omega
                  cases h1 : (y0 == a) <;> cases h2 : (y1 == b) <;> cases h3 : (y0 == b) <;> cases h4 : (y1 == a)
                  all_goals have HU3 := hide (HUU.out _ (HUV.out.trans (by rw [useB, h1, h2, h3, h4])))
                  all_goals clear HUU HUV
                  all_goals go_wp2
                  all_goals go_roundw
                  all_goals first
                    | exact ⟨jj + 1 + 1, false, by omega, by omega, by go_num, rfl, HLw.out, hide ⟨HMw.out.1, HMw.out.2.1, fun _ => HU3.out rfl⟩⟩
                    | exact ⟨jj + 1 + 1, true, by omega, by omega, by go_num, rfl, HLw.out, hide ⟨HMw.out.1, HMw.out.2.1, fun h => absurd h (by decide)⟩⟩
                    | (simp [intOf]; omega)
              · by_cases hd0 : 0 ≤ d
                · have hdd : decide (0 ≤ d) = true := by simpa using hd0
                  cases us with
                  | true =>
                    clear hd0
                    go_wp2
                    go_roundw
                    case rel => exact ⟨q + 1, by omega, by go_num, HLw.out, hide HMw.out.1⟩
                    case measure => simp [intOf]; omega
                  | false =>
                    have HEQ : Hid (e = d) := hide (by
                      obtain ⟨dn, rfl⟩ : ∃ dn : Nat, d = dn := ⟨d.toNat, by omega⟩
                      have hP := HPP.out dn rfl
                      have hlen : Lp = dn + 1 := by rw [← HLp.out, hP, rl_length]
                      refine HSame.out dn rfl (fun j hj => ?_)
                      have := HMw.out.2.2 rfl j (by omega)
                      rw [hP] at this
                      have g1 : gd (rl (dn + 1) (ph n f k q)) j = ph n f k q j := by simp [gd, rl_get (show j < dn + 1 by omega)]
                      have g2 : gd (rl (dn + 1) (ph n f k q)) (j + 1) = ph n f k q (j + 1) := by simp [gd, rl_get (show j + 1 < dn + 1 by omega)]
                      rw [g1, g2] at this
                      exact this)
                    have hne : (e != d) = false := by rw [HEQ.out]; simp
                    clear hd0 HEQ
                    go_wp2
                    go_roundw
                    case rel => exact ⟨q + 1, by omega, by go_num, HLw.out, hide HMw.out.1⟩
                    case measure => simp [intOf]; omega
                · have hdd : decide (0 ≤ d) = false := by simpa using hd0
                  clear hd0
                  go_wp2
                  go_roundw
                  case rel => exact ⟨q + 1, by omega, by go_num, HLw.out, hide HMw.out.1⟩
                  case measure => simp [intOf]; omega
          · have hed : decide (0 ≤ e) = false := by simpa using he0
            clear he0
            go_wp2_with fail
            refine hP2.mono ?_
            rintro ee w7 ⟨up, rfl, hup, hb7⟩
            have HL7 := hide (HL6.out.next hb7)
            have HM7 := hide (And.intro (HM6.out.next hb7) (hup.mono (base' := 0) (Nat.zero_le _)))
            obtain ⟨pa, pc, rfl, hpa⟩ := hup.form
            clear HL6 HM6 hb7 x0 x1 hP2 hup
            obtain ⟨Lp, hLp⟩ : ∃ Lp, P.length = Lp := ⟨_, rfl⟩
            have HLp := hide hLp
            rw [hLp] at hpa hp6 HM7 ⊢
            clear hLp
            go_wp2
            go_loopw [15, 16] (fun t i wr => ∃ (ii : Nat) (us : Bool), 1 ≤ ii ∧ (ii ≤ Lp ∨ ii = 1) ∧ i = .int .i64 ii ∧ t = .bool us ∧ Lb w wr B3 M (.slice ua n uc) n f ∧ Hid (Lb w wr B6 M (.slice ma (n - 1) mc) (n - 1) (fk f k0) ∧ Ow wr 0 (.slice pa Lp pc) P ∧ (us = false → ∀ j, j + 1 < ii → useB a b (gd P j) (gd P (j + 1)) = false))) (fun _ i _ => Lp - (intOf i).toNat)
            case atStart => exact ⟨1, false, Nat.le_refl _, .inr rfl, rfl, rfl, HL7.out, hide ⟨HM7.out.1, HM7.out.2, fun _ j hj => by omega⟩⟩
            case round =>
              obtain ⟨ii, us, hi1, hi2, rfl, rfl, hlw, HMw⟩ := hrel
              have HLw := hide hlw
              clear HL7 HM7 hlw
              by_cases hiL : ii < Lp
              · obtain ⟨gp, rfl⟩ := hpa (by omega)
                obtain ⟨jj, hjj⟩ : ∃ jj, ii = jj + 1 := ⟨ii - 1, by omega⟩
                subst hjj
                cases us with
                | true =>
                  go_wp2
                  go_roundw
                  case rel => exact ⟨jj + 1 + 1, true, by omega, by omega, by go_num, rfl, HLw.out, hide ⟨HMw.out.1, HMw.out.2.1, fun h => absurd h (by decide)⟩⟩
                  case measure => simp [intOf]; omega
                | false =>
                  have c0 := HMw.out.2.1.at (i := jj) (by rw [HLp.out]; omega)
                  have c1 := HMw.out.2.1.at (i := jj + 1) (by rw [HLp.out]; omega)
                  have HUU : Hid (∀ r, useB a b (gd P jj) (gd P (jj + 1)) = r → r = false → ∀ j, j + 1 < jj + 1 + 1 → useB a b (gd P j) (gd P (j + 1)) = false) := hide (fun r h1 h2 j hj => by
                    by_cases ej : j = jj
                    · subst ej; rw [h1]; exact h2
                    · exact HMw.out.2.2 rfl j (by omega))
                  obtain ⟨y0, hy0⟩ : ∃ y0, gd P jj = y0 := ⟨_, rfl⟩
                  obtain ⟨y1, hy1⟩ : ∃ y1, gd P (jj + 1) = y1 := ⟨_, rfl⟩
                  have HUV : Hid (useB a b (gd P jj) (gd P (jj + 1)) = useB a b y0 y1) := hide (by rw [hy0, hy1])
                  rw [hy0] at c0
                  rw [hy1] at c1
                  clear hy0 hy1
                  have hwj : wrap64 (((jj + 1 : Nat) : Int) - 1) = (jj : Int) := by rw [Go.IntWalk.wrap64_in _ (by omega)]; omega
                  have hwj2 : wrap64 ((jj : Int) + 1 - 1) = (jj : Int) := by rw [Go.IntWalk.wrap64_in _ (by omega)]; omega
                  have hj1 : jj < Lp := by omega
                  have hj2 : (jj : Int) < (Lp : Int) := by omega
                  have hj3 : ((jj + 1 : Nat) : Int) < (Lp : Int) := by omega
                  cases h1 : (y0 == a) <;> cases h2 : (y1 == b) <;> cases h3 : (y0 == b) <;> cases h4 : (y1 == a)
                  all_goals have HU3 := hide (HUU.out _ (HUV.out.trans (by rw [useB, h1, h2, h3, h4])))
                  all_goals clear HUU HUV
                  all_goals go_wp2
                  all_goals go_roundw
                  all_goals first
                    | exact ⟨jj + 1 + 1, false, by omega, by omega, by go_num, rfl, HLw.out, hide ⟨HMw.out.1, HMw.out.2.1, fun _ => HU3.out rfl⟩⟩
                    | exact ⟨jj + 1 + 1, true, by omega, by omega, by go_num, rfl, HLw.out, hide ⟨HMw.out.1, HMw.out.2.1, fun h => absurd h (by decide)⟩⟩
                    | (simp [intOf]; omega)
              · by_cases hd0 : 0 ≤ d
                · have hdd : decide (0 ≤ d) = true := by simpa using hd0
                  cases us with
                  | true =>
                    clear hd0
                    go_wp2
                    go_roundw
                    case rel => exact ⟨q + 1, by omega, by go_num, HLw.out, hide HMw.out.1⟩
                    case measure => simp [intOf]; omega
                  | false =>
                    have HEQ : Hid (e = d) := hide (by
                      obtain ⟨dn, rfl⟩ : ∃ dn : Nat, d = dn := ⟨d.toNat, by omega⟩
                      have hP := HPP.out dn rfl
                      have hlen : Lp = dn + 1 := by rw [← HLp.out, hP, rl_length]
                      refine HSame.out dn rfl (fun j hj => ?_)
                      have := HMw.out.2.2 rfl j (by omega)
                      rw [hP] at this
                      have g1 : gd (rl (dn + 1) (ph n f k q)) j = ph n f k q j := by simp [gd, rl_get (show j < dn + 1 by omega)]
                      have g2 : gd (rl (dn + 1) (ph n f k q)) (j + 1) = ph n f k q (j + 1) := by simp [gd, rl_get (show j + 1 < dn + 1 by omega)]
                      rw [g1, g2] at this
                      exact this)
                    have hne : (e != d) = false := by rw [HEQ.out]; simp
                    clear hd0 HEQ
                    go_wp2
                    go_roundw
                    case rel => exact ⟨q + 1, by omega, by go_num, HLw.out, hide HMw.out.1⟩
                    case measure => simp [intOf]; omega
                · have hdd : decide (0 ≤ d) = false := by simpa using hd0
                  clear hd0
                  go_wp2
                  go_roundw
                  case rel => exact ⟨q + 1, by omega, by go_num, HLw.out, hide HMw.out.1⟩
                  case measure => simp [intOf]; omega
        · go_wp2
          go_roundw
          case rel => exact ⟨k + 1, by omega, by go_num, HLb.out, HMb⟩
          case measure => simp [intOf]; omega
    · have hN9 := hNm _ HMb.out.sr
      have hD9 := fun W h => hDm a b W h
      obtain ⟨z, hz⟩ : ∃ z, dstA (M : Int) (n - 1) (fk f k0) a b = z := ⟨_, rfl⟩
      rw [hz] at hD9
      have hzne : (z != 1) = true := by
        have := HGO.out
        rw [hz] at this
        simpa using this
      have hwn : wrap64 ((n : Int) - 1) = ((n - 1 : Nat) : Int) := by rw [Go.IntWalk.wrap64_in _ (by omega)]; omega
      clear hz
      obtain ⟨_, y0, y1⟩ := row2_facts HMb.out.box
      go_wp2_with fail
      refine hN9.mono ?_
      rintro ee w5 ⟨rfl, hb5⟩
      have HL5 := hide (HLb.out.next hb5)
      have HM5 := hide (HMb.out.next hb5)
      clear HLb HMb hb5 x0 x1 y0 y1 hN9
      obtain ⟨_, x0, x1⟩ := row2_facts HL5.out.box
      obtain ⟨_, y0, y1⟩ := row2_facts HM5.out.box
      go_wp2_with fail
      refine (hD9 _ HM5.out.sr).mono ?_
      rintro ee w6 ⟨rfl, hb6⟩
      have HL6 := hide (HL5.out.next hb6)
      clear HL5 HM5 hb6 x0 x1 y0 y1 hD9
      go_wp2
      go_ret
      exact ⟨rfl, HL6.out.bl⟩

set_option maxRecDepth 100000 in
theorem lifted (os : Os) (started : os.Started) (H : Type) (enc : TypeId × Value → H) :
    ReturnsInHanded {} Try.checked os 6 .any (Rows.fnFewerSpec.pre6 enc Try.prog Try.f6 Rows.fnFewerRow.domain false) (Rows.fnFewerSpec.post enc Try.prog Try.f6 false true false false) := by
  refine returnsInHanded_of_change (C := Try.checked) own started (by kernel_rfl) Try.func6
    (ChangeSpec.witness6 (enc := enc) (C := Try.checked) false ⟨#[], #[.slice none 0 0], []⟩ 8 (by kernel_rfl) (by kernel_rfl) (by kernel_rfl) (by kernel_rfl)) ?_
  intro W base args ds gs before hval0 hW hcnd _
  have hval : ∀ (j : Nat) t v, Try.f6.params[j]? = some t → args[j]? = some v → Value.okWide Try.prog W .any base t v := hval0
  have hW' := hW
  obtain ⟨p, q, hA0, hV, rfl, hfz, hnd⟩ := hW
  have hA : DataW.TrodAll enc Try.prog W 0 (fun _ => true) true Try.f6.params.toList args.toList ds p := hA0
  rw [Try.params6] at hA hval
  obtain ⟨v0, vs0, d0, ds0, p0, q0, hargs, rfl, rfl, h0, r0⟩ := trodAll_cons hA
  obtain ⟨rfl, rfl, rfl⟩ := trodAll_nil r0
  obtain rfl : args = #[v0] := by cases args; simp_all
  obtain ⟨rfl, rfl⟩ := trodVars_none hV
  obtain ⟨a0, len0, cap0, rfl⟩ := okWide_slice Try.underlying22 (hval 0 22 v0 rfl rfl)
  have k0 := h0
  have lt0 : ∀ x ∈ p0, x.block < W.heap.size := by obtain ⟨m, hm⟩ := k0; exact DataW.trod_lt m _ _ _ hm
  obtain ⟨z0, w0⟩ : ∃ zs, IsRow .u8 W a0 len0 cap0 zs := by
    obtain ⟨fuel, hf⟩ := h0
    rcases open_ints Try.underlying22 Try.underlying5 (by kernel_rfl) hf with ⟨hcs, _⟩ | ⟨x, l, c, zs, hcs, _, hl, hm, hz, _, hcell, hwz⟩
    · simp [Value.cells] at hcs
      obtain ⟨rfl, rfl, rfl⟩ := hcs
      exact ⟨[], .inl ⟨rfl, rfl, rfl, rfl⟩⟩
    · simp [Value.cells] at hcs
      obtain ⟨rfl, rfl, rfl⟩ := hcs
      exact ⟨zs, .inr ⟨_, rfl, hl, hm, by simpa using hz, hcell, hwz⟩⟩
  clear hA0 hval0
  refine (walk a0 len0 cap0 W (row_bt w0)).mono fun e W' ⟨he, bel⟩ => ?_
  subst he
  exact ⟨_, rfl, _, _, _, [], _, [], hW', trodAll_mk1 (shut_bool Try.underlying4 _), (trodAll_cons_mk (Below.trod laidOut (by kernel_rfl) (of_decide_eq_true (by kernel_rfl)) k0 bel lt0) trodAll_mk0), rfl, bel.frame _, fun h => by cases h⟩

theorem over : Rows.fnFewerRow.holds Try.pinned (OpenSpec.ofChange Rows.fnFewerSpec) :=
  OpenClaim.holds_of_wide 6 Try.f6 rfl rfl rfl rfl rfl rfl rfl ⟨rfl, rfl, rfl, rfl, rfl⟩ rfl rfl rfl rfl rfl (by kernel_rfl) Try.func6 (by kernel_rfl)
    (of_decide_eq_true (by kernel_rfl)) (by unfold Func.isWrapper; first | (rw [if_pos (by decide +kernel)]; kernel_rfl) | (rw [if_neg (by decide +kernel)]; exact ⟨rfl, rfl⟩))
    (fun os started H enc _ => lifted os started H enc)

theorem proved : Rows.FnFewerSaid := over
end Go.Proofs.Ytgafpepmmjjaaaa.fnFewer

namespace Go.Proofs.Ytgafpepmmjjaaaa
theorem fnFewer_holds : Rows.FnFewerSaid := fnFewer.proved
end Go.Proofs.Ytgafpepmmjjaaaa
