/- Proved: for every code, laws.FnLoads returns true. No condition. -/
import Derived.Test.YtneofegnbflfiaaRows
import Derived.Test.YtneofegnbflfiaaDtX
import Derived.WalkKit
import Derived.ProofKit
import Derived.OpenShut
import Derived.ShutString
import Derived.ChangeOld
import Derived.Below
import Derived.OpenVars
namespace Go.Proofs.Ytneofegnbflfiaa.fnLoads
open Go.ChangeShapes Go.WideShapes Go.ChangeAt Go.WideMaps Go.WideElems Go.RowKit
set_option linter.unusedVariables false
set_option linter.unusedSimpArgs false

theorem own : ownKnob Try.prog.godebug = none := by kernel_rfl
theorem laidOut : laidOutB Try.prog = true := by kernel_rfl

def IsRow (k : IntKind) (w : World) (a : Option Addr) (len cap : Nat) (zs : List Int) : Prop :=
  (a = none ∧ len = 0 ∧ cap = 0 ∧ zs = []) ∨
  ∃ x, a = some x ∧ len ≤ cap ∧ cap ≤ maxLen ∧ zs.length = cap ∧ (∀ i, i < zs.length → w.cell? (x.add i) = some (.int k (zs.getD i 0))) ∧ ∀ n ∈ zs, (Lit.int k n).wf = true

theorem row_bt {w : World} {a : Option Addr} {len cap : Nat} {z : List Int} (h : IsRow .u8 w a len cap z) : Bt w a len := by
  intro h0
  rcases h with ⟨rfl, rfl, rfl, rfl⟩ | ⟨x, rfl, hl, hm, hz, hcell, hwf⟩
  · exact absurd h0 (by simp)
  · obtain ⟨b, off, spot⟩ := x
    have hc := hcell 0 (by omega)
    have hspot : spot = none := by simpa [Addr.add] using World.cell?_spot hc
    subst hspot
    refine ⟨b, off, rfl, fun j hj => ?_⟩
    have hcj := hcell j (by omega)
    rw [addr_add] at hcj
    have hj' : j < z.length := by omega
    have e : z.getD j 0 = z[j] := by simp [hj']
    have hw := bounds_u8 (hwf z[j] (List.getElem_mem hj'))
    exact ⟨z.getD j 0, by rw [e]; exact hw.1, by rw [e]; exact hw.2, hcj⟩

set_option maxHeartbeats 16000000 in
set_option maxRecDepth 20000 in
theorem walk (a0 : Option Addr) (len0 cap0 : Nat) (w : World) (hs : Bt w a0 len0) :
    Calls Try.prog 8 #[.slice a0 len0 cap0] w fun e w' => e = .returned (.bool true) ∧ Below w.heap.size w w' := by
  by_cases hbig : (1048576 : Int) < (len0 : Int)
  · go_enter Try.func8, Try.ntmps8
    go_wp2
    go_ret
    exact ⟨rfl, Below.refl _ _⟩
  have hb : len0 ≤ 1048576 := by omega
  go_enter Try.func8, Try.ntmps8
  go_wp2_with (first | (go_at_call 13; go_in) | fail)
  refine (drawTsoDo_any a0 len0 cap0 _ hs hb).mono ?_
  rintro e w1 ⟨m, b, r, d, C, vb, vr, tag, k, co, va, vl, rg, rfl, ta, hcp, hsm, hb1⟩
  obtain ⟨xm, ym, xb, yb, xr, yr, rfl, rfl, rfl⟩ := Ta.three (n := d.zs.length) ta rfl
  obtain ⟨X1, hA1, ya⟩ := Bq.new2 (d := d) k co va vl rg (Ta.tv ta)
  have CAP1 := Bcap.below (Bcap.of ta.bs hcp) (Ta.tv ta).buf hA1
  have HB1 := hide (hb1.trans (hA1.mono hb1.size))
  clear hs hb1 hA1 ta hcp hb hbig
  obtain ⟨_, x0, x1, x2⟩ := row3_facts X1.box
  obtain ⟨y0, y1, y2, y3, y4⟩ := row5_facts ya
  go_wp2_with fail
  refine (implTsoDo_any _ _ _ d C C k co va vl rg _ X1.tv).mono ?_
  intro e w2 hp2
  obtain ⟨m2, b2, r2, vb2, vr2, tag2, rfl, ta2, hb2⟩ := do_all hp2
  obtain ⟨xm2, ym2, xb2, yb2, xr2, yr2, rfl, rfl, rfl⟩ := Ta.three (n := (aD d C C k co va vl rg).zs.length) ta2 rfl
  obtain ⟨N2, hA2⟩ := Bq.new (d := aD d C C k co va vl rg) (C := aC d C C) (Ta.tv ta2)
  have hc2 := hb2.trans (hA2.mono hb2.size)
  have X2 := X1.below hc2
  have yb := heap_b ya hc2
  have HB2 := hide (HB1.out.trans (hc2.mono HB1.out.size))
  have CAP2 := Bcap.below CAP1 X1.tv.buf hc2
  clear hp2 ta2 hb2 hA2 hc2 X1 ya HB1 CAP1 x0 x1 x2 y0 y1 y2 y3 y4
  obtain ⟨_, x0, x1, x2⟩ := row3_facts X2.box
  obtain ⟨y0, y1, y2, y3, y4⟩ := row5_facts yb
  go_wp2_with fail
  refine (specTsoDo_any _ _ _ d C C k co va vl rg _ X2.tv CAP2).mono ?_
  intro e w3 hp3
  obtain ⟨m3, b3, r3, vb3, vr3, tag3, rfl, ta3, hb3⟩ := do_all hp3
  obtain ⟨xm3, ym3, xb3, yb3, xr3, yr3, rfl, rfl, rfl⟩ := Ta.three (n := (aD d C C k co va vl rg).zs.length) ta3 rfl
  obtain ⟨P3, hA3⟩ := Bq.new (d := aD d C C k co va vl rg) (C := aC d C C) (Ta.tv ta3)
  have hc3 := hb3.trans (hA3.mono hb3.size)
  have X3 := X2.below hc3
  have N3 := N2.below hc3
  have yc := heap_b yb hc3
  have HB3 := hide (HB2.out.trans (hc3.mono HB2.out.size))
  clear hp3 ta3 hb3 hA3 hc3 X2 N2 yb HB2 CAP2 x0 x1 x2 y0 y1 y2 y3 y4
  generalize w2.heap.size = B2 at N3 ⊢
  generalize w1.heap.size = B1 at X3 yc ⊢
  have HZ := hide (@zero_says d C (k) (co) (va) (vl) (rg))
  generalize hD : aD d C C k co va vl rg = D at *
  generalize hCC : aC d C C = CC at *
  generalize hK : aK d C C k co va vl rg = ka at *
  try simp only [hD, hCC, hK] at HZ
  clear hD hCC hK P3
  by_cases h0 : ¬ ka = 0
  · have hd0 : (ka == 0) = false := by simpa using h0
    have hdn : (ka != 0) = true := by simpa using h0
    clear HZ X3 N3 yc
    go_wp2
    go_ret
    exact ⟨rfl, HB3.out⟩
  replace h0 : ka = 0 := Decidable.of_not_not h0
  subst h0
  obtain ⟨ht, hok, hDe, hCe⟩ := HZ.out rfl
  obtain rfl : C = CC := hCe.symm
  have HDE := hide hDe
  clear HZ hCe hDe
  have hC3 := (tok_parts ht).1
  have HW := hide (fun i j hi hj => loads_says ht hok i j hi hj)
  rw [← HDE.out] at HW
  have htn : tokD D C = true := by rw [HDE.out]; exact nxt_tok ht
  clear HDE
  have HL := hide (fun c hc => ((tok_parts ht).2.2.2.2 c hc).2.2.1)
  have HL2 := hide (fun c hc => ((tok_parts htn).2.2.2.2 c hc).2.2.1)
  obtain ⟨rb, ro, rfl⟩ := X3.tv.regForm (by omega)
  obtain ⟨rb2, ro2, rfl⟩ := N3.tv.regForm (by omega)
  have HS := hide (show Lw w B1 B2 (.slice xm d.zs.length ym) (.slice xb C yb) (.slice (some ⟨rb, ro, none⟩) C yr) (.slice xm2 D.zs.length ym2) (.slice xb2 C yb2) (.slice (some ⟨rb2, ro2, none⟩) C yr2) d D C (five k co va vl rg)  _ from ⟨X3, N3, yc, HB3.out⟩)
  obtain ⟨_, x0, x1, x2⟩ := row3_facts X3.box
  clear X3 N3 HB3 yc hok
  go_wp2
  clear x0 x1 x2
  go_loopw [9] (fun i wr => ∃ c : Nat, c ≤ C ∧ i = .int .i64 c ∧ Hid (Lw w B1 B2 (.slice xm d.zs.length ym) (.slice xb C yb) (.slice (some ⟨rb, ro, none⟩) C yr) (.slice xm2 D.zs.length ym2) (.slice xb2 C yb2) (.slice (some ⟨rb2, ro2, none⟩) C yr2) d D C (five k co va vl rg) wr)) (fun i _ => C - (intOf i).toNat)
  case atStart => exact ⟨0, Nat.zero_le _, rfl, HS⟩
  case round =>
    clear HS
    obtain ⟨c, hc, rfl, HS⟩ := hrel
    obtain ⟨_, x0, x1, x2⟩ := row3_facts HS.out.1.box
    by_cases hlt : c < C
    · go_wp2
      clear x0 x1 x2
      go_loopw [10] (fun j wr' => ∃ v : Nat, v ≤ 2 ∧ j = .int .i64 v ∧ Hid (Lw w B1 B2 (.slice xm d.zs.length ym) (.slice xb C yb) (.slice (some ⟨rb, ro, none⟩) C yr) (.slice xm2 D.zs.length ym2) (.slice xb2 C yb2) (.slice (some ⟨rb2, ro2, none⟩) C yr2) d D C (five k co va vl rg) wr')) (fun j _ => 2 - (intOf j).toNat)
      case atStart => exact ⟨0, by omega, rfl, HS⟩
      case round =>
        clear HS
        obtain ⟨j, hj, rfl, HS⟩ := hrel
        by_cases hlj : j < 2
        · obtain ⟨hk2, HO⟩ := HW.out c j hlt hlj
          replace HO := hide HO
          obtain ⟨p, o, ic, q1, q2⟩ := HS.out.1.tv.regC (c := c) hlt (HL.out c hlt) (by decide)
          have q3 := q2 j (by omega)
          clear q2
          generalize (d.Z c).getD j 0 = zv at q3 HO
          obtain ⟨_, x0, x1, x2⟩ := row3_facts HS.out.1.box
          obtain ⟨y0, y1, y2, y3, y4⟩ := row5_facts HS.out.2.2.1
          have hi0 : (0 : Int) ≤ (c : Int) := by omega
          have hi1 : (c : Int) < (C : Int) := by omega
          have hj0 : (0 : Int) ≤ (j : Int) := by omega
          have hj1 : (j : Int) < 2 := by omega
          by_cases k1 : k = 2
          · subst k1
            by_cases k2 : (c : Int) = co
            · have hd2 : ((c : Int) == co) = true := by simpa using k2
              by_cases k3 : (j : Int) = rg
              · have hd3 : ((j : Int) == rg) = true := by simpa using k3
                obtain ⟨s1, s2⟩ := seB_int (d := d) (C := C) (c := co) (v := va) ht (hk2 rfl).1 (hk2 rfl).2
                have hsv := fun W h => implSeenBy_any (.slice xm d.zs.length ym) (.slice xb C yb) (.slice (some ⟨rb, ro, none⟩) C yr) d.zs C d.L d.F C d.Z co va W h
                rw [s1, s2] at hsv
                replace HO := hide (HO.out.trans (if_pos ⟨rfl, k2, k3⟩))
                generalize sn d.zs (d.F co.toNat) va.toNat (d.L co.toNat) = sv at hsv HO
                clear s1 s2 k2 k3 hk2
                go_wp2_with fail
                refine (hsv _ HS.out.1.tv).mono ?_
                rintro e w6 ⟨rfl, hbb⟩
                have HS6 := hide (Lw.below HS.out hbb)
                clear hbb HS hsv x0 x1 x2 y0 y1 y2 y3 y4 q1 q3
                obtain ⟨p2, o2, ic2, q4, q5⟩ := HS6.out.2.1.tv.regC (c := c) hlt (HL2.out c hlt) (by decide)
                have q6 := q5 j (by omega)
                rw [HO.out] at q6
                obtain ⟨_, z0, z1, z2⟩ := row3_facts HS6.out.2.1.box
                clear q5 HO
                go_wp2
                go_roundw
                case rel => exact ⟨j + 1, by omega, by go_num, HS6⟩
                case measure => simp [intOf]; omega
              · have hd3 : ((j : Int) == rg) = false := by simpa using k3
                replace HO := hide (HO.out.trans (if_neg (fun e => k3 e.2.2)))
                obtain ⟨p2, o2, ic2, q4, q5⟩ := HS.out.2.1.tv.regC (c := c) hlt (HL2.out c hlt) (by decide)
                have q6 := q5 j (by omega)
                rw [HO.out] at q6
                obtain ⟨_, z0, z1, z2⟩ := row3_facts HS.out.2.1.box
                clear q5 HO
                clear k2 k3 hk2
                go_wp2
                go_roundw
                case rel => exact ⟨j + 1, by omega, by go_num, HS⟩
                case measure => simp [intOf]; omega
            · have hd2 : ((c : Int) == co) = false := by simpa using k2
              replace HO := hide (HO.out.trans (if_neg (fun e => k2 e.2.1)))
              obtain ⟨p2, o2, ic2, q4, q5⟩ := HS.out.2.1.tv.regC (c := c) hlt (HL2.out c hlt) (by decide)
              have q6 := q5 j (by omega)
              rw [HO.out] at q6
              obtain ⟨_, z0, z1, z2⟩ := row3_facts HS.out.2.1.box
              clear q5 HO
              clear k2 hk2
              go_wp2
              go_roundw
              case rel => exact ⟨j + 1, by omega, by go_num, HS⟩
              case measure => simp [intOf]; omega
          · have hd1 : (k == 2) = false := by simpa using k1
            replace HO := hide (HO.out.trans (if_neg (fun e => k1 e.1)))
            obtain ⟨p2, o2, ic2, q4, q5⟩ := HS.out.2.1.tv.regC (c := c) hlt (HL2.out c hlt) (by decide)
            have q6 := q5 j (by omega)
            rw [HO.out] at q6
            obtain ⟨_, z0, z1, z2⟩ := row3_facts HS.out.2.1.box
            clear q5 HO
            clear k1 hk2
            go_wp2
            go_roundw
            case rel => exact ⟨j + 1, by omega, by go_num, HS⟩
            case measure => simp [intOf]; omega
        · have e3 : j = 2 := by omega
          subst e3
          obtain ⟨p, o, ic, q1, q2⟩ := HS.out.1.tv.regC (c := c) hlt (HL.out c hlt) (by decide)
          clear q2
          obtain ⟨_, x0, x1, x2⟩ := row3_facts HS.out.1.box
          have hi0 : (0 : Int) ≤ (c : Int) := by omega
          have hi1 : (c : Int) < (C : Int) := by omega
          go_wp2
          go_roundw
          case rel => exact ⟨c + 1, by omega, by go_num, HS⟩
          case measure => simp [intOf]; omega
    · have e3 : c = C := by omega
      subst e3
      go_wp2
      go_ret
      exact ⟨rfl, HS.out.2.2.2⟩

set_option maxRecDepth 100000 in
theorem lifted (os : Os) (started : os.Started) (H : Type) (enc : TypeId × Value → H) :
    ReturnsInHanded {} Try.checked os 8 .any (Rows.fnLoadsSpec.pre6 enc Try.prog Try.f8 Rows.fnLoadsRow.domain false) (Rows.fnLoadsSpec.post enc Try.prog Try.f8 false true false false) := by
  refine returnsInHanded_of_change (C := Try.checked) own started (by kernel_rfl) Try.func8
    (ChangeSpec.witness6 (enc := enc) (C := Try.checked) false ⟨#[], #[.slice none 0 0], []⟩ 8 (by kernel_rfl) (by kernel_rfl) (by kernel_rfl) (by kernel_rfl)) ?_
  intro W base args ds gs before hval0 hW hcnd _
  have hval : ∀ (j : Nat) t v, Try.f8.params[j]? = some t → args[j]? = some v → Value.okWide Try.prog W .any base t v := hval0
  have hW' := hW
  obtain ⟨p, q, hA0, hV, rfl, hfz, hnd⟩ := hW
  have hA : DataW.TrodAll enc Try.prog W 0 (fun _ => true) true Try.f8.params.toList args.toList ds p := hA0
  rw [Try.params8] at hA hval
  obtain ⟨v0, vs0, d0, ds0, p0, q0, hargs, rfl, rfl, h0, r0⟩ := trodAll_cons hA
  obtain ⟨rfl, rfl, rfl⟩ := trodAll_nil r0
  obtain rfl : args = #[v0] := by cases args; simp_all
  obtain ⟨rfl, rfl⟩ := trodVars_none hV
  obtain ⟨a0, len0, cap0, rfl⟩ := okWide_slice Try.underlying22 (hval 0 22 v0 rfl rfl)
  have k0 := h0
  have lt0 : ∀ x ∈ p0, x.block < W.heap.size := by obtain ⟨m, hm⟩ := k0; exact DataW.trod_lt m _ _ _ hm
  obtain ⟨z0, w0⟩ : ∃ zs, IsRow .u8 W a0 len0 cap0 zs := by
    obtain ⟨fuel, hf⟩ := h0
    rcases open_ints Try.underlying22 Try.underlying5 (by kernel_rfl) hf with ⟨hcs, _⟩ | ⟨x, l, c, zs, hcs, _, hl, hm, hz, _, hcell, hwz⟩
    · simp [Value.cells] at hcs
      obtain ⟨rfl, rfl, rfl⟩ := hcs
      exact ⟨[], .inl ⟨rfl, rfl, rfl, rfl⟩⟩
    · simp [Value.cells] at hcs
      obtain ⟨rfl, rfl, rfl⟩ := hcs
      exact ⟨zs, .inr ⟨_, rfl, hl, hm, by simpa using hz, hcell, hwz⟩⟩
  clear hA0 hval0
  refine (walk a0 len0 cap0 W (row_bt w0)).mono fun e W' ⟨he, bel⟩ => ?_
  subst he
  exact ⟨_, rfl, _, _, _, [], _, [], hW', trodAll_mk1 (shut_bool Try.underlying4 _), (trodAll_cons_mk (Below.trod laidOut (by kernel_rfl) (of_decide_eq_true (by kernel_rfl)) k0 bel lt0) trodAll_mk0), rfl, bel.frame _, fun h => by cases h⟩

theorem over : Rows.fnLoadsRow.holds Try.pinned (OpenSpec.ofChange Rows.fnLoadsSpec) :=
  OpenClaim.holds_of_wide 8 Try.f8 rfl rfl rfl rfl rfl rfl rfl ⟨rfl, rfl, rfl, rfl, rfl⟩ rfl rfl rfl rfl rfl (by kernel_rfl) Try.func8 (by kernel_rfl)
    (of_decide_eq_true (by kernel_rfl)) (by unfold Func.isWrapper; first | (rw [if_pos (by decide +kernel)]; kernel_rfl) | (rw [if_neg (by decide +kernel)]; exact ⟨rfl, rfl⟩))
    (fun os started H enc _ => lifted os started H enc)

theorem proved : Rows.FnLoadsSaid := over
end Go.Proofs.Ytneofegnbflfiaa.fnLoads

namespace Go.Proofs.Ytneofegnbflfiaa
theorem fnLoads_holds : Rows.FnLoadsSaid := fnLoads.proved
end Go.Proofs.Ytneofegnbflfiaa
