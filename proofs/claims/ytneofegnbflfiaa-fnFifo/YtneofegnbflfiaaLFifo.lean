/- Proved: for every code, laws.FnFifo returns true. No condition. -/
import Derived.Test.YtneofegnbflfiaaRows
import Derived.Test.YtneofegnbflfiaaDtX
import Derived.BigQuiet
import Derived.WalkKit
import Derived.ProofKit
import Derived.OpenShut
import Derived.ShutString
import Derived.ChangeOld
import Derived.Below
import Derived.OpenVars
namespace Go.Proofs.Ytneofegnbflfiaa.fnFifo
open Go.ChangeShapes Go.WideShapes Go.ChangeAt Go.WideMaps Go.WideElems Go.RowKit
set_option linter.unusedVariables false
set_option linter.unusedSimpArgs false

theorem own : ownKnob Try.prog.godebug = none := by kernel_rfl
theorem laidOut : laidOutB Try.prog = true := by kernel_rfl

def IsRow (k : IntKind) (w : World) (a : Option Addr) (len cap : Nat) (zs : List Int) : Prop :=
  (a = none ∧ len = 0 ∧ cap = 0 ∧ zs = []) ∨
  ∃ x, a = some x ∧ len ≤ cap ∧ cap ≤ maxLen ∧ zs.length = cap ∧ (∀ i, i < zs.length → w.cell? (x.add i) = some (.int k (zs.getD i 0))) ∧ ∀ n ∈ zs, (Lit.int k n).wf = true

theorem row_bt {w : World} {a : Option Addr} {len cap : Nat} {z : List Int} (h : IsRow .u8 w a len cap z) : Bt w a len := by
  intro h0
  rcases h with ⟨rfl, rfl, rfl, rfl⟩ | ⟨x, rfl, hl, hm, hz, hcell, hwf⟩
  · exact absurd h0 (by simp)
  · obtain ⟨b, off, spot⟩ := x
    have hc := hcell 0 (by omega)
    have hspot : spot = none := by simpa [Addr.add] using World.cell?_spot hc
    subst hspot
    refine ⟨b, off, rfl, fun j hj => ?_⟩
    have hcj := hcell j (by omega)
    rw [addr_add] at hcj
    have hj' : j < z.length := by omega
    have e : z.getD j 0 = z[j] := by simp [hj']
    have hw := bounds_u8 (hwf z[j] (List.getElem_mem hj'))
    exact ⟨z.getD j 0, by rw [e]; exact hw.1, by rw [e]; exact hw.2, hcj⟩

set_option maxHeartbeats 16000000 in
set_option maxRecDepth 20000 in
theorem walk (a0 : Option Addr) (len0 cap0 : Nat) (w : World) (hs : Bt w a0 len0) :
    Calls Try.prog 6 #[.slice a0 len0 cap0] w fun e w' => e = .returned (.bool true) ∧ Below w.heap.size w w' := by
  by_cases hbig : (1048576 : Int) < (len0 : Int)
  · go_enter Try.func6, Try.ntmps6
    go_wp2
    go_ret
    exact ⟨rfl, Below.refl _ _⟩
  have hb : len0 ≤ 1048576 := by omega
  go_enter Try.func6, Try.ntmps6
  go_wp2_with (first | (go_at_call 13; go_in) | fail)
  refine (drawTsoDo_any a0 len0 cap0 _ hs hb).mono ?_
  rintro e w1 ⟨m, b, r, d, C, vb, vr, tag, k, co, va, vl, rg, rfl, ta, hcp, hsm, hb1⟩
  obtain ⟨xm, ym, xb, yb, xr, yr, rfl, rfl, rfl⟩ := Ta.three (n := d.zs.length) ta rfl
  obtain ⟨X1, hA1, ya⟩ := Bq.new2 (d := d) 4 co 0 0 0 (Ta.tv ta)
  have CAP1 := Bcap.below (Bcap.of ta.bs hcp) (Ta.tv ta).buf hA1
  have HB1 := hide (hb1.trans (hA1.mono hb1.size))
  clear hs hb1 hA1 ta hcp hb hbig
  obtain ⟨_, x0, x1, x2⟩ := row3_facts X1.box
  obtain ⟨y0, y1, y2, y3, y4⟩ := row5_facts ya
  go_wp2_with fail
  refine (implTsoDo_any _ _ _ d C C 4 co 0 0 0 _ X1.tv).mono ?_
  intro e w2 hp2
  obtain ⟨m2, b2, r2, vb2, vr2, tag2, rfl, ta2, hb2⟩ := do_all hp2
  obtain ⟨xm2, ym2, xb2, yb2, xr2, yr2, rfl, rfl, rfl⟩ := Ta.three (n := (aD d C C 4 co 0 0 0).zs.length) ta2 rfl
  obtain ⟨N2, hA2⟩ := Bq.new (d := aD d C C 4 co 0 0 0) (C := aC d C C) (Ta.tv ta2)
  have hc2 := hb2.trans (hA2.mono hb2.size)
  have X2 := X1.below hc2
  have yb := heap_b ya hc2
  have HB2 := hide (HB1.out.trans (hc2.mono HB1.out.size))
  have CAP2 := Bcap.below CAP1 X1.tv.buf hc2
  clear hp2 ta2 hb2 hA2 hc2 X1 ya HB1 CAP1 x0 x1 x2 y0 y1 y2 y3 y4
  obtain ⟨_, x0, x1, x2⟩ := row3_facts X2.box
  obtain ⟨y0, y1, y2, y3, y4⟩ := row5_facts yb
  go_wp2_with fail
  refine (specTsoDo_any _ _ _ d C C 4 co 0 0 0 _ X2.tv CAP2).mono ?_
  intro e w3 hp3
  obtain ⟨m3, b3, r3, vb3, vr3, tag3, rfl, ta3, hb3⟩ := do_all hp3
  obtain ⟨xm3, ym3, xb3, yb3, xr3, yr3, rfl, rfl, rfl⟩ := Ta.three (n := (aD d C C 4 co 0 0 0).zs.length) ta3 rfl
  obtain ⟨P3, hA3⟩ := Bq.new (d := aD d C C 4 co 0 0 0) (C := aC d C C) (Ta.tv ta3)
  have hc3 := hb3.trans (hA3.mono hb3.size)
  have X3 := X2.below hc3
  have N3 := N2.below hc3
  have yc := heap_b yb hc3
  have HB3 := hide (HB2.out.trans (hc3.mono HB2.out.size))
  clear hp3 ta3 hb3 hA3 hc3 X2 N2 yb HB2 CAP2 x0 x1 x2 y0 y1 y2 y3 y4
  generalize w2.heap.size = B2 at N3 ⊢
  generalize w1.heap.size = B1 at X3 yc ⊢
  have HZ := hide (@zero_says d C (4) (co) (0) (0) (0))
  generalize hD : aD d C C 4 co 0 0 0 = D at *
  generalize hCC : aC d C C = CC at *
  generalize hK : aK d C C 4 co 0 0 0 = ka at *
  try simp only [hD, hCC, hK] at HZ
  clear hD hCC hK P3
  by_cases h0 : ¬ ka = 0
  · have hd0 : (ka == 0) = false := by simpa using h0
    have hdn : (ka != 0) = true := by simpa using h0
    clear HZ X3 N3 yc
    go_wp2
    go_ret
    exact ⟨rfl, HB3.out⟩
  replace h0 : ka = 0 := Decidable.of_not_not h0
  subst h0
  obtain ⟨ht, hok, hDe, hCe⟩ := HZ.out rfl
  obtain rfl : C = CC := hCe.symm
  have HDE := hide hDe
  clear HZ hCe hDe
  obtain ⟨c, rfl, hcC, hLc, ⟨s, hs0, hs3, hsv, hsn⟩, hsee, hlen⟩ := fifo_says ht hok
  rw [← HDE.out] at hsv hsn hsee hlen
  have htn : tokD D C = true := by rw [HDE.out]; exact nxt_tok ht
  clear HDE hok
  have hz3 := (tok_parts ht).2.2.1
  have hz4 := (tok_parts htn).2.2.1
  have hL4 := ((tok_parts ht).2.2.2.2 c hcC).1
  obtain ⟨bb, bo, rfl⟩ := X3.tv.bufForm (by omega)
  obtain ⟨bb2, bo2, rfl⟩ := N3.tv.bufForm (by omega)
  obtain ⟨mb, mo, rfl⟩ := X3.tv.memForm (by omega)
  obtain ⟨mb2, mo2, rfl⟩ := N3.tv.memForm (by omega)
  obtain ⟨ia, ic, q1, q2⟩ := X3.tv.bufC (c := c) hcC rfl
  obtain ⟨p, o, rfl, q3, q4⟩ := q2 hLc
  rw [hs0] at q3
  generalize hval : d.F c 0 1 = val at q4 hsv
  have HZ := hide (And.intro hz3 hz4)
  have HW := hide (And.intro hsv (And.intro hsn (And.intro hsee hlen)))
  obtain ⟨_, x0, x1, x2⟩ := row3_facts X3.box
  obtain ⟨y0, y1, y2, y3, y4⟩ := row5_facts yc
  have hc0 : (0 : Int) ≤ (c : Int) := by omega
  have hc1 : (c : Int) < (C : Int) := by omega
  have hl0 : (0 : Int) < (d.L c : Int) := by omega
  generalize hlc : d.L c = n at q1 hl0
  have hn4 : n ≤ 4 ∧ 0 < n := by omega
  clear hz3 hz4 hsv hsn hsee hlen hval q2 hs0
  have hA4 : Below (w3.alloc (.cells #[.slice xm3 D.zs.length ym3, .slice xb3 C yb3, .slice xr3 C yr3] 28)).heap.size (w3.alloc (.cells #[.slice xm3 D.zs.length ym3, .slice xb3 C yb3, .slice xr3 C yr3] 28)) ((w3.alloc (.cells #[.slice xm3 D.zs.length ym3, .slice xb3 C yb3, .slice xr3 C yr3] 28)).alloc (.cells #[.int .i64 s, .int .i64 val] 35)) := (Below.refl _ _).alloc (Nat.le_refl _) _
  have g4 : ((w3.alloc (.cells #[.slice xm3 D.zs.length ym3, .slice xb3 C yb3, .slice xr3 C yr3] 28)).alloc (.cells #[.int .i64 s, .int .i64 val] 35)).heap[w3.heap.size + 1]? = some (.cells #[.int .i64 s, .int .i64 val] 35 (0, 0)) := by
    have := heap_alloc_new (w3.alloc (.cells #[.slice xm3 D.zs.length ym3, .slice xb3 C yb3, .slice xr3 C yr3] 28)) (.cells #[.int .i64 s, .int .i64 val] 35)
    simpa only [World.size_alloc] using this
  have HS := hide (And.intro (Lw.below (show Lw w B1 B2 (.slice (some ⟨mb, mo, none⟩) d.zs.length ym) (.slice (some ⟨bb, bo, none⟩) C yb) (.slice xr C yr) (.slice (some ⟨mb2, mo2, none⟩) D.zs.length ym2) (.slice (some ⟨bb2, bo2, none⟩) C yb2) (.slice xr2 C yr2) d D C (five 4 c 0 0 0)  _ from ⟨X3, N3, yc, HB3.out⟩) hA4) g4)
  clear X3 N3 HB3 yc hA4 g4
  go_wp2
  clear x0 x1 x2 y0 y1 y2 y3 y4 q1 q3 q4
  go_loopw [10] (fun i wr => ∃ v : Nat, v ≤ 3 ∧ i = .int .i64 v ∧ Hid (Lw w B1 B2 (.slice (some ⟨mb, mo, none⟩) d.zs.length ym) (.slice (some ⟨bb, bo, none⟩) C yb) (.slice xr C yr) (.slice (some ⟨mb2, mo2, none⟩) D.zs.length ym2) (.slice (some ⟨bb2, bo2, none⟩) C yb2) (.slice xr2 C yr2) d D C (five 4 c 0 0 0) wr ∧ wr.heap[w3.heap.size + 1]? = some (.cells #[.int .i64 s, .int .i64 val] 35 (0, 0)))) (fun i _ => 3 - (intOf i).toNat)
  case atStart => exact ⟨0, by omega, rfl, HS⟩
  case round =>
    clear HS
    obtain ⟨v, hv, rfl, HS⟩ := hrel
    by_cases hlv : v < 3
    · have HO := hide (HW.out.2.2.1 v)
      obtain ⟨s1, s2⟩ := seB_of (d := d) (C := C) (c := c) (v := v) ht hcC hlv
      obtain ⟨s3, s4⟩ := seB_of (d := D) (C := C) (c := c) (v := v) htn hcC hlv
      have hsw := fun W h => implSeenBy_any (.slice (some ⟨mb, mo, none⟩) d.zs.length ym) (.slice (some ⟨bb, bo, none⟩) C yb) (.slice xr C yr) d.zs C d.L d.F C d.Z c v W h
      have hsx := fun W h => implSeenBy_any (.slice (some ⟨mb2, mo2, none⟩) D.zs.length ym2) (.slice (some ⟨bb2, bo2, none⟩) C yb2) (.slice xr2 C yr2) D.zs C D.L D.F C D.Z c v W h
      rw [s1, s2] at hsw
      rw [s3, s4, HO.out] at hsx
      generalize sn d.zs (d.F c) v (d.L c) = pv at hsw hsx
      clear s1 s2 s3 s4 HO
      obtain ⟨_, x0, x1, x2⟩ := row3_facts HS.out.1.1.box
      obtain ⟨y0, y1, y2, y3, y4⟩ := row5_facts HS.out.1.2.2.1
      go_wp2_with fail
      refine (hsw _ HS.out.1.1.tv).mono ?_
      rintro e w5 ⟨rfl, hbb⟩
      have HS5 := hide (And.intro (Lw.below HS.out.1 hbb) (heap_b HS.out.2 hbb))
      clear hbb HS x0 x1 x2 y0 y1 y2 y3 y4
      obtain ⟨_, x0, x1, x2⟩ := row3_facts HS5.out.1.2.1.box
      obtain ⟨y0, y1, y2, y3, y4⟩ := row5_facts HS5.out.1.2.2.1
      go_wp2_with fail
      refine (hsx _ HS5.out.1.2.1.tv).mono ?_
      rintro e w6 ⟨rfl, hbb⟩
      have HS6 := hide (And.intro (Lw.below HS5.out.1 hbb) (heap_b HS5.out.2 hbb))
      clear hbb HS5 x0 x1 x2 y0 y1 y2 y3 y4
      clear hsw hsx
      have hvi0 : (0 : Int) ≤ (v : Int) := by omega
      have hvi1 : (v : Int) < (d.zs.length : Int) := by have := HZ.out.1; omega
      have hvi2 : (v : Int) < (D.zs.length : Int) := by have := HZ.out.2; omega
      have a1 := HS6.out.1.1.tv.memC (v := v) (by omega)
      have a2 := HS6.out.1.2.1.tv.memC (v := v) (by omega)
      have b0 := (cell_of_row _ _ 0 _ _ _ HS6.out.2).trans rfl
      have b1 := (cell_of_row _ _ 1 _ _ _ HS6.out.2).trans rfl
      obtain ⟨_, x0, x1, x2⟩ := row3_facts HS6.out.1.1.box
      obtain ⟨_, z0, z1, z2⟩ := row3_facts HS6.out.1.2.1.box
      by_cases hvs : (v : Int) = (s : Int)
      · have hd : ((v : Int) != (s : Int)) = false := by simpa using hvs
        have hd' : ((v : Int) == (s : Int)) = true := by simpa using hvs
        clear hvs a1 a2 HW
        go_wp2
        go_quiet (fail)
        all_goals go_wp2
        all_goals go_roundw
        case rel => exact ⟨v + 1, by omega, by go_num, hide ⟨Lw.below HS6.out.1 (below_drewN (Below.refl _ _) _), heap_b HS6.out.2 (below_drewN (Below.refl _ _) _)⟩⟩
        case measure => simp [intOf]; omega
      · have hd : ((v : Int) != (s : Int)) = true := by simpa using hvs
        have hd' : ((v : Int) == (s : Int)) = false := by simpa using hvs
        rw [HW.out.2.1 v (by omega)] at a2
        generalize d.zs.getD v 0 = mz at a1 a2
        clear hvs HW
        go_wp2
        go_quiet (fail)
        all_goals go_wp2
        all_goals go_roundw
        case rel => exact ⟨v + 1, by omega, by go_num, hide ⟨Lw.below HS6.out.1 (below_drewN (Below.refl _ _) _), heap_b HS6.out.2 (below_drewN (Below.refl _ _) _)⟩⟩
        case measure => simp [intOf]; omega
    · have e3 : v = 3 := by omega
      subst e3
      obtain ⟨n', rfl⟩ : ∃ n', n = n' + 1 := ⟨n - 1, by omega⟩
      have hlD : D.L c = n' := by rw [HW.out.2.2.2, hlc]; omega
      obtain ⟨ia1, ic1, q1, _⟩ := HS.out.1.1.tv.bufC (c := c) hcC hlc
      obtain ⟨ia2, ic2, q2, _⟩ := HS.out.1.2.1.tv.bufC (c := c) hcC hlD
      have a2 := HS.out.1.2.1.tv.memC (v := s) (by have := HZ.out.2; omega)
      rw [HW.out.1] at a2
      have hsi0 : (0 : Int) ≤ (s : Int) := by omega
      have hsi2 : (s : Int) < (D.zs.length : Int) := by have := HZ.out.2; omega
      have b0 := (cell_of_row _ _ 0 _ _ _ HS.out.2).trans rfl
      have b1 := (cell_of_row _ _ 1 _ _ _ HS.out.2).trans rfl
      obtain ⟨_, x0, x1, x2⟩ := row3_facts HS.out.1.1.box
      obtain ⟨_, z0, z1, z2⟩ := row3_facts HS.out.1.2.1.box
      obtain ⟨y0, y1, y2, y3, y4⟩ := row5_facts HS.out.1.2.2.1
      have hwn : wrap64 (((n' + 1 : Nat) : Int) - 1) = (n' : Int) := by rw [Go.IntWalk.wrap64_in _ (by omega)]; omega
      have hwn2 : wrap64 (n' : Int) = (n' : Int) := Go.IntWalk.wrap64_in _ (by omega)
      clear HW HZ hlD hlc
      go_wp2
      go_quiet (fail)
      all_goals go_wp2
      all_goals go_ret
      all_goals exact ⟨rfl, (Lw.below HS.out.1 (below_drewN (Below.refl _ _) _)).2.2.2⟩

set_option maxRecDepth 100000 in
theorem lifted (os : Os) (started : os.Started) (H : Type) (enc : TypeId × Value → H) :
    ReturnsInHanded {} Try.checked os 6 .any (Rows.fnFifoSpec.pre6 enc Try.prog Try.f6 Rows.fnFifoRow.domain false) (Rows.fnFifoSpec.post enc Try.prog Try.f6 false true false false) := by
  refine returnsInHanded_of_change (C := Try.checked) own started (by kernel_rfl) Try.func6
    (ChangeSpec.witness6 (enc := enc) (C := Try.checked) false ⟨#[], #[.slice none 0 0], []⟩ 8 (by kernel_rfl) (by kernel_rfl) (by kernel_rfl) (by kernel_rfl)) ?_
  intro W base args ds gs before hval0 hW hcnd _
  have hval : ∀ (j : Nat) t v, Try.f6.params[j]? = some t → args[j]? = some v → Value.okWide Try.prog W .any base t v := hval0
  have hW' := hW
  obtain ⟨p, q, hA0, hV, rfl, hfz, hnd⟩ := hW
  have hA : DataW.TrodAll enc Try.prog W 0 (fun _ => true) true Try.f6.params.toList args.toList ds p := hA0
  rw [Try.params6] at hA hval
  obtain ⟨v0, vs0, d0, ds0, p0, q0, hargs, rfl, rfl, h0, r0⟩ := trodAll_cons hA
  obtain ⟨rfl, rfl, rfl⟩ := trodAll_nil r0
  obtain rfl : args = #[v0] := by cases args; simp_all
  obtain ⟨rfl, rfl⟩ := trodVars_none hV
  obtain ⟨a0, len0, cap0, rfl⟩ := okWide_slice Try.underlying22 (hval 0 22 v0 rfl rfl)
  have k0 := h0
  have lt0 : ∀ x ∈ p0, x.block < W.heap.size := by obtain ⟨m, hm⟩ := k0; exact DataW.trod_lt m _ _ _ hm
  obtain ⟨z0, w0⟩ : ∃ zs, IsRow .u8 W a0 len0 cap0 zs := by
    obtain ⟨fuel, hf⟩ := h0
    rcases open_ints Try.underlying22 Try.underlying5 (by kernel_rfl) hf with ⟨hcs, _⟩ | ⟨x, l, c, zs, hcs, _, hl, hm, hz, _, hcell, hwz⟩
    · simp [Value.cells] at hcs
      obtain ⟨rfl, rfl, rfl⟩ := hcs
      exact ⟨[], .inl ⟨rfl, rfl, rfl, rfl⟩⟩
    · simp [Value.cells] at hcs
      obtain ⟨rfl, rfl, rfl⟩ := hcs
      exact ⟨zs, .inr ⟨_, rfl, hl, hm, by simpa using hz, hcell, hwz⟩⟩
  clear hA0 hval0
  refine (walk a0 len0 cap0 W (row_bt w0)).mono fun e W' ⟨he, bel⟩ => ?_
  subst he
  exact ⟨_, rfl, _, _, _, [], _, [], hW', trodAll_mk1 (shut_bool Try.underlying4 _), (trodAll_cons_mk (Below.trod laidOut (by kernel_rfl) (of_decide_eq_true (by kernel_rfl)) k0 bel lt0) trodAll_mk0), rfl, bel.frame _, fun h => by cases h⟩

theorem over : Rows.fnFifoRow.holds Try.pinned (OpenSpec.ofChange Rows.fnFifoSpec) :=
  OpenClaim.holds_of_wide 6 Try.f6 rfl rfl rfl rfl rfl rfl rfl ⟨rfl, rfl, rfl, rfl, rfl⟩ rfl rfl rfl rfl rfl (by kernel_rfl) Try.func6 (by kernel_rfl)
    (of_decide_eq_true (by kernel_rfl)) (by unfold Func.isWrapper; first | (rw [if_pos (by decide +kernel)]; kernel_rfl) | (rw [if_neg (by decide +kernel)]; exact ⟨rfl, rfl⟩))
    (fun os started H enc _ => lifted os started H enc)

theorem proved : Rows.FnFifoSaid := over
end Go.Proofs.Ytneofegnbflfiaa.fnFifo

namespace Go.Proofs.Ytneofegnbflfiaa
theorem fnFifo_holds : Rows.FnFifoSaid := fnFifo.proved
end Go.Proofs.Ytneofegnbflfiaa
