/- Proved: for every code, laws.FnSeen returns true. No condition. -/
import Derived.Test.YtneofegnbflfiaaRows
import Derived.Test.YtneofegnbflfiaaDtX
import Derived.WalkKit
import Derived.ProofKit
import Derived.OpenShut
import Derived.ShutString
import Derived.ChangeOld
import Derived.Below
import Derived.OpenVars
namespace Go.Proofs.Ytneofegnbflfiaa.fnSeen
open Go.ChangeShapes Go.WideShapes Go.ChangeAt Go.WideMaps Go.WideElems Go.RowKit
set_option linter.unusedVariables false
set_option linter.unusedSimpArgs false

theorem own : ownKnob Try.prog.godebug = none := by kernel_rfl
theorem laidOut : laidOutB Try.prog = true := by kernel_rfl

def IsRow (k : IntKind) (w : World) (a : Option Addr) (len cap : Nat) (zs : List Int) : Prop :=
  (a = none ∧ len = 0 ∧ cap = 0 ∧ zs = []) ∨
  ∃ x, a = some x ∧ len ≤ cap ∧ cap ≤ maxLen ∧ zs.length = cap ∧ (∀ i, i < zs.length → w.cell? (x.add i) = some (.int k (zs.getD i 0))) ∧ ∀ n ∈ zs, (Lit.int k n).wf = true

theorem row_bt {w : World} {a : Option Addr} {len cap : Nat} {z : List Int} (h : IsRow .u8 w a len cap z) : Bt w a len := by
  intro h0
  rcases h with ⟨rfl, rfl, rfl, rfl⟩ | ⟨x, rfl, hl, hm, hz, hcell, hwf⟩
  · exact absurd h0 (by simp)
  · obtain ⟨b, off, spot⟩ := x
    have hc := hcell 0 (by omega)
    have hspot : spot = none := by simpa [Addr.add] using World.cell?_spot hc
    subst hspot
    refine ⟨b, off, rfl, fun j hj => ?_⟩
    have hcj := hcell j (by omega)
    rw [addr_add] at hcj
    have hj' : j < z.length := by omega
    have e : z.getD j 0 = z[j] := by simp [hj']
    have hw := bounds_u8 (hwf z[j] (List.getElem_mem hj'))
    exact ⟨z.getD j 0, by rw [e]; exact hw.1, by rw [e]; exact hw.2, hcj⟩

set_option maxHeartbeats 16000000 in
set_option maxRecDepth 20000 in
theorem walk (a0 : Option Addr) (len0 cap0 : Nat) (w : World) (hs : Bt w a0 len0) :
    Calls Try.prog 3 #[.slice a0 len0 cap0] w fun e w' => e = .returned (.bool true) ∧ Below w.heap.size w w' := by
  by_cases hbig : (1048576 : Int) < (len0 : Int)
  · go_enter Try.func3, Try.ntmps3
    go_wp2
    go_ret
    exact ⟨rfl, Below.refl _ _⟩
  have hb : len0 ≤ 1048576 := by omega
  go_enter Try.func3, Try.ntmps3
  go_wp2_with (first | (go_at_call 13; go_in) | fail)
  refine (drawSeenBy_any a0 len0 cap0 _ hs hb).mono ?_
  rintro e w1 ⟨m, b, r, d, C, vb, vr, tag, co, va, rfl, ta, hcp, hsm, hb1⟩
  obtain ⟨xm, ym, xb, yb, xr, yr, rfl, rfl, rfl⟩ := Ta.three (n := d.zs.length) ta rfl
  obtain ⟨X1, hA1⟩ := Bq.new (d := d) (Ta.tv ta)
  have HB1 := hide (hb1.trans (hA1.mono hb1.size))
  clear hs hb1 hA1 ta hcp hb hbig
  obtain ⟨_, x0, x1, x2⟩ := row3_facts X1.box
  go_wp2_with fail
  refine (implSeenBy_any _ _ _ d.zs C d.L d.F C d.Z co va _ X1.tv).mono ?_
  rintro e w2 ⟨rfl, hb2⟩
  have X2 := X1.below hb2
  have HB2 := hide (HB1.out.trans (hb2.mono HB1.out.size))
  clear X1 HB1 hb2 x0 x1 x2
  obtain ⟨_, x0, x1, x2⟩ := row3_facts X2.box
  go_wp2_with fail
  refine (specSeenBy_any _ _ _ d.zs C d.L d.F C d.Z co va _ X2.tv).mono ?_
  rintro e w3 ⟨rfl, hb3⟩
  have X3 := X2.below hb3
  have HB3 := hide (HB2.out.trans (hb3.mono HB2.out.size))
  clear X2 HB2 hb3 x0 x1 x2
  cases hse : seB d.zs C d.L d.F C d.Z co va
  · generalize seV d.zs C d.L d.F C d.Z co va = x
    clear X3 hsm
    go_wp2
    go_ret
    exact ⟨rfl, HB3.out⟩
  · obtain ⟨ht, hc, hv⟩ := seB_true hse
    obtain ⟨c, rfl⟩ : ∃ c : Nat, co = c := ⟨co.toNat, by omega⟩
    obtain ⟨v, rfl⟩ : ∃ v : Nat, va = v := ⟨va.toNat, by omega⟩
    have hz3 := (tok_parts ht).2.2.1
    have hL4 := ((tok_parts ht).2.2.2.2 c (by omega)).1
    have HX := hide (seV_true hse)
    generalize seV d.zs C d.L d.F C d.Z c v = x at HX ⊢
    obtain ⟨mb, mo, mc, bb, bo, bc, e1, e2, q, ia, ic, rr, hsr⟩ := X3.tv.one (c := c) (v := v) (by omega) (by omega)
    simp only [Value.slice.injEq, true_and] at e1 e2
    obtain ⟨rfl, rfl⟩ := e1
    obtain ⟨rfl, rfl⟩ := e2
    obtain ⟨_, x0, x1, x2⟩ := row3_facts X3.box
    have hv0 : (0 : Int) ≤ (v : Int) := by omega
    have hv1 : (v : Int) < (d.zs.length : Int) := by omega
    have hc0 : (0 : Int) ≤ (c : Int) := by omega
    have hc1 : (c : Int) < (C : Int) := by omega
    have HE : Hid (sn d.zs (d.F c) v 0 = d.zs.getD v 0) := hide rfl
    generalize hm : d.zs.getD v 0 = m0 at q HE
    clear X3 hsm hse ht hc hv hz3 hm
    generalize hn : d.L c = n at *
    generalize hf : d.F c = f at *
    generalize hzs : d.zs = zs at *
    generalize hzl : zs.length = zl at *
    obtain ⟨ad, cap, e, hsr⟩ := hsr
    obtain ⟨rfl, rfl⟩ : ia = ad ∧ ic = cap := by simp at e; exact e
    clear e hn hf hzs hzl
    go_wp2
    go_loopw [10, 11] (fun x i wr => ∃ k : Nat, k ≤ n ∧ i = .int .i64 k ∧ (∃ z : Int, x = .int .i64 z ∧ Hid (z = sn zs f v k)) ∧ wr = w3) (fun _ i _ => n - (intOf i).toNat)
    case atStart => exact ⟨0, Nat.zero_le _, rfl, ⟨m0, rfl, hide HE.out.symm⟩, rfl⟩
    case round =>
      obtain ⟨k, hk, rfl, ⟨z, rfl, HZ⟩, hwr⟩ := hrel
      subst hwr
      by_cases hlt : k < n
      · obtain ⟨p, off, rfl, hcc⟩ := hsr (by omega)
        have q0 : wr.cell? ⟨p, off + k * 2, none⟩ = some (.int .i64 (f k 0)) := hcc k hlt 0 (by decide)
        have q1 : wr.cell? ⟨p, off + k * 2 + 1, none⟩ = some (.int .i64 (f k 1)) := hcc k hlt 1 (by decide)
        have hk0 : (0 : Int) ≤ (k : Int) := by omega
        have hk1 : (k : Int) < (n : Int) := by omega
        by_cases hx : f k 0 = (v : Int)
        · have HZ2 := hide (sn_yes (zs := zs) hx).symm
          have hd : (f k 0 == (v : Int)) = true := by simpa using hx
          generalize f k 0 = y0 at q0 hd
          generalize f k 1 = y1 at q1 HZ2
          clear hx hcc hsr HZ
          go_wp2
          go_roundw
          case rel => exact ⟨k + 1, by omega, by go_num, ⟨y1, rfl, HZ2⟩, by first | rfl | trivial⟩
          case measure => simp [intOf]; omega
        · have HZ2 : Hid (z = sn zs f v (k + 1)) := hide (HZ.out.trans (sn_no hx).symm)
          have hd : (f k 0 == (v : Int)) = false := by simpa using hx
          generalize f k 0 = y0 at q0 hd
          generalize f k 1 = y1 at q1
          clear hx hcc hsr HZ
          go_wp2
          go_roundw
          case rel => exact ⟨k + 1, by omega, by go_num, ⟨z, rfl, HZ2⟩, by first | rfl | trivial⟩
          case measure => simp [intOf]; omega
      · have e : k = n := by omega
        subst e
        have hxz : x = z := HX.out.trans HZ.out.symm
        subst hxz
        clear hsr HX HZ
        go_wp2
        go_ret
        exact ⟨rfl, HB3.out⟩

set_option maxRecDepth 100000 in
theorem lifted (os : Os) (started : os.Started) (H : Type) (enc : TypeId × Value → H) :
    ReturnsInHanded {} Try.checked os 3 .any (Rows.fnSeenSpec.pre6 enc Try.prog Try.f3 Rows.fnSeenRow.domain false) (Rows.fnSeenSpec.post enc Try.prog Try.f3 false true false false) := by
  refine returnsInHanded_of_change (C := Try.checked) own started (by kernel_rfl) Try.func3
    (ChangeSpec.witness6 (enc := enc) (C := Try.checked) false ⟨#[], #[.slice none 0 0], []⟩ 8 (by kernel_rfl) (by kernel_rfl) (by kernel_rfl) (by kernel_rfl)) ?_
  intro W base args ds gs before hval0 hW hcnd _
  have hval : ∀ (j : Nat) t v, Try.f3.params[j]? = some t → args[j]? = some v → Value.okWide Try.prog W .any base t v := hval0
  have hW' := hW
  obtain ⟨p, q, hA0, hV, rfl, hfz, hnd⟩ := hW
  have hA : DataW.TrodAll enc Try.prog W 0 (fun _ => true) true Try.f3.params.toList args.toList ds p := hA0
  rw [Try.params3] at hA hval
  obtain ⟨v0, vs0, d0, ds0, p0, q0, hargs, rfl, rfl, h0, r0⟩ := trodAll_cons hA
  obtain ⟨rfl, rfl, rfl⟩ := trodAll_nil r0
  obtain rfl : args = #[v0] := by cases args; simp_all
  obtain ⟨rfl, rfl⟩ := trodVars_none hV
  obtain ⟨a0, len0, cap0, rfl⟩ := okWide_slice Try.underlying22 (hval 0 22 v0 rfl rfl)
  have k0 := h0
  have lt0 : ∀ x ∈ p0, x.block < W.heap.size := by obtain ⟨m, hm⟩ := k0; exact DataW.trod_lt m _ _ _ hm
  obtain ⟨z0, w0⟩ : ∃ zs, IsRow .u8 W a0 len0 cap0 zs := by
    obtain ⟨fuel, hf⟩ := h0
    rcases open_ints Try.underlying22 Try.underlying5 (by kernel_rfl) hf with ⟨hcs, _⟩ | ⟨x, l, c, zs, hcs, _, hl, hm, hz, _, hcell, hwz⟩
    · simp [Value.cells] at hcs
      obtain ⟨rfl, rfl, rfl⟩ := hcs
      exact ⟨[], .inl ⟨rfl, rfl, rfl, rfl⟩⟩
    · simp [Value.cells] at hcs
      obtain ⟨rfl, rfl, rfl⟩ := hcs
      exact ⟨zs, .inr ⟨_, rfl, hl, hm, by simpa using hz, hcell, hwz⟩⟩
  clear hA0 hval0
  refine (walk a0 len0 cap0 W (row_bt w0)).mono fun e W' ⟨he, bel⟩ => ?_
  subst he
  exact ⟨_, rfl, _, _, _, [], _, [], hW', trodAll_mk1 (shut_bool Try.underlying4 _), (trodAll_cons_mk (Below.trod laidOut (by kernel_rfl) (of_decide_eq_true (by kernel_rfl)) k0 bel lt0) trodAll_mk0), rfl, bel.frame _, fun h => by cases h⟩

theorem over : Rows.fnSeenRow.holds Try.pinned (OpenSpec.ofChange Rows.fnSeenSpec) :=
  OpenClaim.holds_of_wide 3 Try.f3 rfl rfl rfl rfl rfl rfl rfl ⟨rfl, rfl, rfl, rfl, rfl⟩ rfl rfl rfl rfl rfl (by kernel_rfl) Try.func3 (by kernel_rfl)
    (of_decide_eq_true (by kernel_rfl)) (by unfold Func.isWrapper; first | (rw [if_pos (by decide +kernel)]; kernel_rfl) | (rw [if_neg (by decide +kernel)]; exact ⟨rfl, rfl⟩))
    (fun os started H enc _ => lifted os started H enc)

theorem proved : Rows.FnSeenSaid := over
end Go.Proofs.Ytneofegnbflfiaa.fnSeen

namespace Go.Proofs.Ytneofegnbflfiaa
theorem fnSeen_holds : Rows.FnSeenSaid := fnSeen.proved
end Go.Proofs.Ytneofegnbflfiaa
