/- Proved: for every pair, its lists of whatever length, and any two numbers laws.FnExactPairWrite returns true and leaves its argument as it read. No condition. -/
import Derived.Test.YtaifflodnnflfaaRows
import Derived.Test.YtaifflodnnflfaaPrP
import Derived.Test.YtaifflodnnflfaaPrQ
import Derived.WalkKit
import Derived.ProofKit
import Derived.OpenShut
import Derived.ShutString
import Derived.ChangeOld
import Derived.Below
import Derived.OpenVars
namespace Go.Proofs.Ytaifflodnnflfaa.fnExactPairWrite
open Go.ChangeShapes Go.WideShapes Go.ChangeAt Go.WideMaps Go.WideElems Go.RowKit
set_option linter.unusedVariables false
set_option linter.unusedSimpArgs false

theorem own : ownKnob Try.prog.godebug = none := by kernel_rfl
theorem laidOut : laidOutB Try.prog = true := by kernel_rfl

set_option maxHeartbeats 16000000 in
theorem walk (L R : Value) (zl zr : List Int) (lu ru : Bool) (line value : Int) (w : World) (hl : Sl w L zl) (hr : Sl w R zr) (hn : (zl.length : Int) ≤ 9223372036854775807) (hm : (zr.length : Int) ≤ 9223372036854775807) :
    Calls Try.prog 8 #[.agg (pq L R lu ru), .int .i64 line, .int .i64 value] w fun e w' => e = .returned (.bool true) ∧ Below w.heap.size w w' := by
  have HV := hide (And.intro hl hr)
  have hto := fun W h k hn => toPair_any L R zl zr lu ru W h k hn
  have hB0 : Below w.heap.size w (w.alloc (.cells (pq L R lu ru) 24)) := (Below.refl _ _).alloc (Nat.le_refl _) _
  have HXA := hide (bx4 w L R (.bool lu) (.bool ru) 24)
  have HB := hide hB0
  clear hl hr hB0
  go_enter Try.func8, Try.ntmps8
  go_wp2_with fail
  refine (szPair_any L R zl zr lu ru _ (HV.out.1.below HB.out) (HV.out.2.below HB.out) hn hm).mono ?_
  rintro e w1 ⟨r, rfl, hp, hb⟩
  replace HXA := hide (HXA.out.below hb)
  replace HB := hide (HB.out.trans (hb.mono HB.out.size))
  have HZw : Hid (w.heap.size + 1 ≤ w1.heap.size) := hide (by have := hb.size; simpa using this)
  clear hb
  by_cases hx : r < 0
  · clear hp
    go_wp2
    go_ret
    exact ⟨rfl, HB.out⟩
  have HL := hide (hp (by omega))
  clear hp hn hm
  have hS := fun W A B h k => specWrite_any A B zl zr lu ru line value W h k HL.out
  have hI := fun W A B h k => implWrite_any A B zl zr lu ru line value W h k HL.out
  have HA : Hid ((aWrite zl zr lu ru line value).zl.length + (aWrite zl zr lu ru line value).zr.length ≤ 1048576) := hide (aWrite_len _ _ _ _ _ _ HL.out)
  generalize aWrite zl zr lu ru line value = a at hS hI HA
  obtain ⟨al, ar, xu, yu, ok⟩ := a
  simp only [Post] at hS hI HA
  have hneg : ¬ ((1 : Int) + al.length + ar.length < 0) := by omega
  have hneg2 : ¬ ((1 : Int) + zl.length + zr.length < 0) := by omega
  obtain ⟨xA0, xA1, xA2, xA3⟩ := HXA.out
  go_wp2_with fail
  refine (hto _ (HV.out.1.below HB.out) (HV.out.2.below HB.out) HL.out).mono ?_
  rintro e w2 ⟨Ap, Bp, rfl, P, hb⟩
  clear xA0 xA1 xA2 xA3
  obtain ⟨ap, acp, e1, _⟩ := P.l.form
  obtain ⟨bp, bcp, e2, _⟩ := P.r.form
  subst e1 e2
  replace HXA := hide (HXA.out.below hb)
  replace HB := hide (HB.out.trans (hb.mono HB.out.size))
  have HPp := hide P
  have HZp := hide hb.size
  clear P hb
  go_wp2_with fail
  refine (hS _ _ _ HPp.out.l.sl HPp.out.r.sl).mono ?_
  rintro e w3 ⟨a0, ac0, b0, bc0, rfl, P, hb⟩
  clear HPp
  have hA : Below w3.heap.size w3 (w3.alloc (.cells (pq (.slice a0 al.length ac0) (.slice b0 ar.length bc0) xu yu) 27)) := (Below.refl _ _).alloc (Nat.le_refl _) _
  have hq := hb.trans (hA.mono hb.size)
  have HZ0 := hide hb.size
  replace HXA := hide (HXA.out.below hq)
  replace HB := hide (HB.out.trans (hq.mono HB.out.size))
  have HP0 := hide (P.below hA)
  have HX0 := hide (bx4 w3 (.slice a0 al.length ac0) (.slice b0 ar.length bc0) (.bool xu) (.bool yu) 27)
  clear P hb hA hq
  obtain ⟨xA0, xA1, xA2, xA3⟩ := HXA.out
  go_wp2_with fail
  refine (hto _ (HV.out.1.below HB.out) (HV.out.2.below HB.out) HL.out).mono ?_
  rintro e w4 ⟨Ax, Bx, rfl, P, hb⟩
  clear xA0 xA1 xA2 xA3
  obtain ⟨ax, acx, e1, _⟩ := P.l.form
  obtain ⟨bx, bcx, e2, _⟩ := P.r.form
  subst e1 e2
  have hA : Below w4.heap.size w4 (w4.alloc (.cells (pq (.slice ax zl.length acx) (.slice bx zr.length bcx) lu ru) 27)) := (Below.refl _ _).alloc (Nat.le_refl _) _
  have hq := hb.trans (hA.mono hb.size)
  have HZx := hide hb.size
  replace HXA := hide (HXA.out.below hq)
  replace HX0 := hide (HX0.out.below hq)
  replace HP0 := hide (HP0.out.below hq)
  replace HB := hide (HB.out.trans (hq.mono HB.out.size))
  have HPx := hide (P.below hA)
  have HXx := hide (bx4 w4 (.slice ax zl.length acx) (.slice bx zr.length bcx) (.bool lu) (.bool ru) 27)
  clear P hb hA hq
  simp only [World.size_alloc] at HZx HPx
  obtain ⟨xx0, xx1, xx2, xx3⟩ := HXx.out
  go_wp2_with fail
  refine (hI _ _ _ HPx.out.l.sl HPx.out.r.sl).mono ?_
  rintro e w5 ⟨a1, ac1, b1, bc1, rfl, P, hb⟩
  clear xx0 xx1 xx2 xx3
  have hA : Below w5.heap.size w5 (w5.alloc (.cells (pq (.slice a1 al.length ac1) (.slice b1 ar.length bc1) xu yu) 27)) := (Below.refl _ _).alloc (Nat.le_refl _) _
  have hq := hb.trans (hA.mono hb.size)
  have HZ1 := hide hb.size
  replace HXA := hide (HXA.out.below hq)
  replace HX0 := hide (HX0.out.below hq)
  replace HXx := hide (HXx.out.below hq)
  replace HP0 := hide (HP0.out.below hq)
  replace HPx := hide (HPx.out.below hq)
  replace HB := hide (HB.out.trans (hq.mono HB.out.size))
  have HP1 := hide (P.below hA)
  have HX1 := hide (bx4 w5 (.slice a1 al.length ac1) (.slice b1 ar.length bc1) (.bool xu) (.bool yu) 27)
  clear P hb hA hq
  simp only [World.size_alloc] at HZ1 HP1
  obtain ⟨x00, x01, x02, x03⟩ := HX0.out
  obtain ⟨x10, x11, x12, x13⟩ := HX1.out
  go_wp2_with fail
  refine (eqPair_same _ _ _ _ al ar xu yu _ HP1.out.l.sl HP1.out.r.sl HP0.out.l.sl HP0.out.r.sl HA.out).mono ?_
  rintro e w6 ⟨rfl, hb⟩
  clear x00 x01 x02 x03 x10 x11 x12 x13
  replace HXA := hide (HXA.out.below hb)
  replace HX0 := hide (HX0.out.below hb)
  replace HXx := hide (HXx.out.below hb)
  replace HX1 := hide (HX1.out.below hb)
  replace HP0 := hide (HP0.out.below hb)
  replace HPx := hide (HPx.out.below hb)
  replace HP1 := hide (HP1.out.below hb)
  replace HB := hide (HB.out.trans (hb.mono HB.out.size))
  have HZw6 := hide hb.size
  clear hb
  simp only [World.size_alloc] at HZw6
  obtain ⟨xA0, xA1, xA2, xA3⟩ := HXA.out
  obtain ⟨xx0, xx1, xx2, xx3⟩ := HXx.out
  go_wp2
  go_region_held3 (fun w' => (w'.cell? ⟨w.heap.size, 0, none⟩ = some (L) ∧ w'.cell? ⟨w.heap.size, 1, none⟩ = some (R) ∧ w'.cell? ⟨w.heap.size, 2, none⟩ = some (.bool lu) ∧ w'.cell? ⟨w.heap.size, 3, none⟩ = some (.bool ru)) ∧ (w'.cell? ⟨w4.heap.size, 0, none⟩ = some (.slice ax zl.length acx) ∧ w'.cell? ⟨w4.heap.size, 1, none⟩ = some (.slice bx zr.length bcx) ∧ w'.cell? ⟨w4.heap.size, 2, none⟩ = some (.bool lu) ∧ w'.cell? ⟨w4.heap.size, 3, none⟩ = some (.bool ru))) (first | exact ⟨⟨xA0, xA1, xA2, xA3⟩, xx0, xx1, xx2, xx3⟩ | exact ⟨⟨keepc hb6 xA0, keepc hb6 xA1, keepc hb6 xA2, keepc hb6 xA3⟩, keepc hb6 xx0, keepc hb6 xx1, keepc hb6 xx2, keepc hb6 xx3⟩ | exact ⟨⟨keepc hb7 (keepc hb6 xA0), keepc hb7 (keepc hb6 xA1), keepc hb7 (keepc hb6 xA2), keepc hb7 (keepc hb6 xA3)⟩, keepc hb7 (keepc hb6 xx0), keepc hb7 (keepc hb6 xx1), keepc hb7 (keepc hb6 xx2), keepc hb7 (keepc hb6 xx3)⟩) (first | (go_at_call 11; refine (hto _ (HV.out.1.below HB.out.drew) (HV.out.2.below HB.out.drew) HL.out).mono ?_; rintro e w7 ⟨L6, R6, rfl, h6, hb6⟩) | (go_at_call 13; refine (eqPair_same _ _ L6 R6 zl zr lu ru _ ((HPx.out.below ((Below.refl _ _).drew)).below hb6).l.sl ((HPx.out.below ((Below.refl _ _).drew)).below hb6).r.sl h6.l.sl h6.r.sl HL.out).mono ?_; rintro e w8 ⟨rfl, hb7⟩))
  have hd : Below w6.heap.size w6 w6.drew := (Below.refl _ _).drew
  have hb67 := hd.trans ((hb6.trans (hb7.mono hb6.size)).mono hd.size)
  clear xA0 xA1 xA2 xA3 xx0 xx1 xx2 xx3
  replace HXA := hide (HXA.out.below hb67)
  replace HX0 := hide (HX0.out.below hb67)
  replace HXx := hide (HXx.out.below hb67)
  replace HX1 := hide (HX1.out.below hb67)
  replace HP0 := hide (HP0.out.below hb67)
  replace HPx := hide (HPx.out.below hb67)
  replace HP1 := hide (HP1.out.below hb67)
  replace HB := hide (HB.out.trans (hb67.mono HB.out.size))
  have HZw8 := hide hb67.size
  clear hd hb6 hb7 hb67 h6
  obtain ⟨xx0, xx1, xx2, xx3⟩ := HXx.out
  go_wp2_with fail
  refine (markPair_any _ _ zl zr lu ru _ _ _ HPx.out HL.out (by have := HZw.out; have := HZp.out; have := HZ0.out; have := HZx.out; have := HZ1.out; have := HZw6.out; have := HZw8.out; have := HB.out.size; omega)).mono ?_
  rintro e w9 ⟨rfl, P, c⟩
  clear xx0 xx1 xx2 xx3
  replace HXA := hide (c.b4 (by have := HZw.out; have := HZp.out; have := HZ0.out; have := HZx.out; have := HZ1.out; have := HZw6.out; have := HZw8.out; have := HB.out.size; omega) HXA.out)
  replace HX0 := hide (c.b4 (by have := HZw.out; have := HZp.out; have := HZ0.out; have := HZx.out; have := HZ1.out; have := HZw6.out; have := HZw8.out; have := HB.out.size; omega) HX0.out)
  replace HXx := hide (c.b4 (by have := HZw.out; have := HZp.out; have := HZ0.out; have := HZx.out; have := HZ1.out; have := HZw6.out; have := HZw8.out; have := HB.out.size; omega) HXx.out)
  replace HX1 := hide (c.b4 (by have := HZw.out; have := HZp.out; have := HZ0.out; have := HZx.out; have := HZ1.out; have := HZw6.out; have := HZw8.out; have := HB.out.size; omega) HX1.out)
  replace HP0 := hide (HP0.out.ci c (by have := HZw.out; have := HZp.out; have := HZ0.out; have := HZx.out; have := HZ1.out; have := HZw6.out; have := HZw8.out; have := HB.out.size; omega))
  replace HP1 := hide (HP1.out.ci c (by have := HZw.out; have := HZp.out; have := HZ0.out; have := HZx.out; have := HZ1.out; have := HZw6.out; have := HZw8.out; have := HB.out.size; omega))
  replace HPx := hide P
  replace HB := hide (Ci.below HB.out c (by have := HZw.out; have := HZp.out; have := HZ0.out; have := HZx.out; have := HZ1.out; have := HZw6.out; have := HZw8.out; have := HB.out.size; omega) (by have := HZw.out; have := HZp.out; have := HZ0.out; have := HZx.out; have := HZ1.out; have := HZw6.out; have := HZw8.out; have := HB.out.size; omega))
  have HZw9 := hide c.size
  clear P c
  obtain ⟨x00, x01, x02, x03⟩ := HX0.out
  obtain ⟨x10, x11, x12, x13⟩ := HX1.out
  go_wp2_with fail
  refine (eqPair_same _ _ _ _ al ar xu yu _ HP1.out.l.sl HP1.out.r.sl HP0.out.l.sl HP0.out.r.sl HA.out).mono ?_
  rintro e w10 ⟨rfl, hb⟩
  clear x00 x01 x02 x03 x10 x11 x12 x13
  replace HXA := hide (HXA.out.below hb)
  replace HX0 := hide (HX0.out.below hb)
  replace HXx := hide (HXx.out.below hb)
  replace HX1 := hide (HX1.out.below hb)
  replace HP0 := hide (HP0.out.below hb)
  replace HPx := hide (HPx.out.below hb)
  replace HP1 := hide (HP1.out.below hb)
  replace HB := hide (HB.out.trans (hb.mono HB.out.size))
  have HZw10 := hide hb.size
  clear hb
  obtain ⟨x10, x11, x12, x13⟩ := HX1.out
  go_wp2_with fail
  refine (markPair_any _ _ al ar xu yu _ _ _ HP1.out HA.out (by have := HZw.out; have := HZp.out; have := HZ0.out; have := HZx.out; have := HZ1.out; have := HZw6.out; have := HZw8.out; have := HB.out.size; have := HZw9.out; have := HZw10.out; omega)).mono ?_
  rintro e w11 ⟨rfl, P, c⟩
  clear x10 x11 x12 x13
  replace HXA := hide (c.b4 (by have := HZw.out; have := HZp.out; have := HZ0.out; have := HZx.out; have := HZ1.out; have := HZw6.out; have := HZw8.out; have := HB.out.size; have := HZw9.out; have := HZw10.out; omega) HXA.out)
  replace HX0 := hide (c.b4 (by have := HZw.out; have := HZp.out; have := HZ0.out; have := HZx.out; have := HZ1.out; have := HZw6.out; have := HZw8.out; have := HB.out.size; have := HZw9.out; have := HZw10.out; omega) HX0.out)
  replace HXx := hide (c.b4 (by have := HZw.out; have := HZp.out; have := HZ0.out; have := HZx.out; have := HZ1.out; have := HZw6.out; have := HZw8.out; have := HB.out.size; have := HZw9.out; have := HZw10.out; omega) HXx.out)
  replace HX1 := hide (c.b4 (by have := HZw.out; have := HZp.out; have := HZ0.out; have := HZx.out; have := HZ1.out; have := HZw6.out; have := HZw8.out; have := HB.out.size; have := HZw9.out; have := HZw10.out; omega) HX1.out)
  replace HP0 := hide (HP0.out.ci c (by have := HZw.out; have := HZp.out; have := HZ0.out; have := HZx.out; have := HZ1.out; have := HZw6.out; have := HZw8.out; have := HB.out.size; have := HZw9.out; have := HZw10.out; omega))
  replace HPx := hide (HPx.out.ci c (by have := HZw.out; have := HZp.out; have := HZ0.out; have := HZx.out; have := HZ1.out; have := HZw6.out; have := HZw8.out; have := HB.out.size; have := HZw9.out; have := HZw10.out; omega))
  replace HP1 := hide P
  replace HB := hide (Ci.below HB.out c (by have := HZw.out; have := HZp.out; have := HZ0.out; have := HZx.out; have := HZ1.out; have := HZw6.out; have := HZw8.out; have := HB.out.size; have := HZw9.out; have := HZw10.out; omega) (by have := HZw.out; have := HZp.out; have := HZ0.out; have := HZx.out; have := HZ1.out; have := HZw6.out; have := HZw8.out; have := HB.out.size; have := HZw9.out; have := HZw10.out; omega))
  have HZw11 := hide c.size
  clear P c
  obtain ⟨x10, x11, x12, x13⟩ := HX1.out
  go_wp2_with fail
  refine (heldPair_any _ _ al.length ar.length xu yu _ HP1.out.l.sl HP1.out.r.sl HA.out).mono ?_
  rintro e w12 ⟨rfl, hb⟩
  clear x10 x11 x12 x13
  replace HXA := hide (HXA.out.below hb)
  replace HX0 := hide (HX0.out.below hb)
  replace HXx := hide (HXx.out.below hb)
  replace HX1 := hide (HX1.out.below hb)
  replace HP0 := hide (HP0.out.below hb)
  replace HPx := hide (HPx.out.below hb)
  replace HP1 := hide (HP1.out.below hb)
  replace HB := hide (HB.out.trans (hb.mono HB.out.size))
  clear hb
  obtain ⟨xA0, xA1, xA2, xA3⟩ := HXA.out
  go_wp2_with fail
  refine (hto _ (HV.out.1.below HB.out) (HV.out.2.below HB.out) HL.out).mono ?_
  rintro e w13 ⟨Au, Bu, rfl, P, hb⟩
  clear xA0 xA1 xA2 xA3
  obtain ⟨au, acu, e1, _⟩ := P.l.form
  obtain ⟨bu, bcu, e2, _⟩ := P.r.form
  subst e1 e2
  replace HXA := hide (HXA.out.below hb)
  replace HX0 := hide (HX0.out.below hb)
  replace HXx := hide (HXx.out.below hb)
  replace HX1 := hide (HX1.out.below hb)
  replace HP0 := hide (HP0.out.below hb)
  replace HPx := hide (HPx.out.below hb)
  replace HP1 := hide (HP1.out.below hb)
  replace HB := hide (HB.out.trans (hb.mono HB.out.size))
  have HPu := hide P
  clear P hb
  go_wp2_with fail
  refine (hI _ _ _ HPu.out.l.sl HPu.out.r.sl).mono ?_
  rintro e w14 ⟨a2, ac2, b2, bc2, rfl, P, hb⟩
  clear HPu
  have hA : Below w14.heap.size w14 (w14.alloc (.cells (pq (.slice a2 al.length ac2) (.slice b2 ar.length bc2) xu yu) 27)) := (Below.refl _ _).alloc (Nat.le_refl _) _
  have hq := hb.trans (hA.mono hb.size)
  have HZ2 := hide hb.size
  replace HXA := hide (HXA.out.below hq)
  replace HX0 := hide (HX0.out.below hq)
  replace HXx := hide (HXx.out.below hq)
  replace HX1 := hide (HX1.out.below hq)
  replace HP0 := hide (HP0.out.below hq)
  replace HPx := hide (HPx.out.below hq)
  replace HP1 := hide (HP1.out.below hq)
  replace HB := hide (HB.out.trans (hq.mono HB.out.size))
  have HP2 := hide (P.below hA)
  have HX2 := hide (bx4 w14 (.slice a2 al.length ac2) (.slice b2 ar.length bc2) (.bool xu) (.bool yu) 27)
  clear P hb hA hq
  obtain ⟨x00, x01, x02, x03⟩ := HX0.out
  obtain ⟨x20, x21, x22, x23⟩ := HX2.out
  go_wp2_with fail
  refine (eqPair_same _ _ _ _ al ar xu yu _ HP2.out.l.sl HP2.out.r.sl HP0.out.l.sl HP0.out.r.sl HA.out).mono ?_
  rintro e w15 ⟨rfl, hb⟩
  clear x00 x01 x02 x03 x20 x21 x22 x23
  replace HXA := hide (HXA.out.below hb)
  replace HX0 := hide (HX0.out.below hb)
  replace HXx := hide (HXx.out.below hb)
  replace HX1 := hide (HX1.out.below hb)
  replace HX2 := hide (HX2.out.below hb)
  replace HP0 := hide (HP0.out.below hb)
  replace HPx := hide (HPx.out.below hb)
  replace HP1 := hide (HP1.out.below hb)
  replace HP2 := hide (HP2.out.below hb)
  replace HB := hide (HB.out.trans (hb.mono HB.out.size))
  have HZw15 := hide hb.size
  clear hb
  obtain ⟨x10, x11, x12, x13⟩ := HX1.out
  go_wp2_with fail
  refine (heldPair_any _ _ al.length ar.length xu yu _ HP1.out.l.sl HP1.out.r.sl HA.out).mono ?_
  rintro e w16 ⟨rfl, hb⟩
  clear x10 x11 x12 x13
  replace HXA := hide (HXA.out.below hb)
  replace HX0 := hide (HX0.out.below hb)
  replace HXx := hide (HXx.out.below hb)
  replace HX1 := hide (HX1.out.below hb)
  replace HX2 := hide (HX2.out.below hb)
  replace HP0 := hide (HP0.out.below hb)
  replace HPx := hide (HPx.out.below hb)
  replace HP1 := hide (HP1.out.below hb)
  replace HP2 := hide (HP2.out.below hb)
  replace HB := hide (HB.out.trans (hb.mono HB.out.size))
  clear hb
  clear hS hI hto
  go_wp2
  go_ret
  exact ⟨rfl, HB.out⟩

set_option maxRecDepth 100000 in
theorem lifted (os : Os) (started : os.Started) (H : Type) (enc : TypeId × Value → H) :
    ReturnsInHanded {} Try.checked os 8 .any (Rows.fnExactPairWriteSpec.pre6 enc Try.prog Try.f8 Rows.fnExactPairWriteRow.domain false) (Rows.fnExactPairWriteSpec.post enc Try.prog Try.f8 false true false false) := by
  refine returnsInHanded_of_change (C := Try.checked) own started (by kernel_rfl) Try.func8
    (ChangeSpec.witness6 (enc := enc) (C := Try.checked) false ⟨#[], #[.agg #[.slice none 0 0, .slice none 0 0, .bool false, .bool false], .int .i64 0, .int .i64 0], []⟩ 8 (by kernel_rfl) (by kernel_rfl) (by kernel_rfl) (by kernel_rfl)) ?_
  intro W base args ds gs before hval0 hW hcnd _
  have hval : ∀ (j : Nat) t v, Try.f8.params[j]? = some t → args[j]? = some v → Value.okWide Try.prog W .any base t v := hval0
  have hW' := hW
  obtain ⟨p, q, hA0, hV, rfl, hfz, hnd⟩ := hW
  have hA : DataW.TrodAll enc Try.prog W 0 (fun _ => true) true Try.f8.params.toList args.toList ds p := hA0
  rw [Try.params8] at hA hval
  obtain ⟨v0, vs0, d0, ds0, p0, q0, hargs, rfl, rfl, h0, r0⟩ := trodAll_cons hA
  obtain ⟨v1, vs1, d1, ds1, p1, q1, rfl, rfl, rfl, h1, r1⟩ := trodAll_cons r0
  obtain ⟨v2, vs2, d2, ds2, p2, q2, rfl, rfl, rfl, h2, r2⟩ := trodAll_cons r1
  obtain ⟨rfl, rfl, rfl⟩ := trodAll_nil r2
  obtain rfl : args = #[v0, v1, v2] := by cases args; simp_all
  obtain ⟨rfl, rfl⟩ := trodVars_none hV
  have k0 := h0
  have lt0 : ∀ x ∈ p0, x.block < W.heap.size := by obtain ⟨m, hm⟩ := k0; exact DataW.trod_lt m _ _ _ hm
  obtain ⟨L0, R0, zl0, zr0, lu0, ru0, rfl, hc0, hd0, hn0, hm0⟩ := open_pair (hval 0 24 v0 rfl rfl) h0
  obtain ⟨a1, rfl, rfl, rfl, w1⟩ := open_int Try.underlying2 (hval 1 2 v1 rfl rfl) h1
  obtain ⟨a2, rfl, rfl, rfl, w2⟩ := open_int Try.underlying2 (hval 2 2 v2 rfl rfl) h2
  clear hA0 hval0
  refine (walk L0 R0 zl0 zr0 lu0 ru0 a1 a2 W hc0 hd0 (by unfold maxLen at hn0; omega) (by unfold maxLen at hm0; omega)).mono fun e W' ⟨he, bel⟩ => ?_
  subst he
  exact ⟨_, rfl, _, _, _, [], _, [], hW', trodAll_mk1 (shut_bool Try.underlying4 _), (trodAll_cons_mk (Below.trod laidOut (by kernel_rfl) (of_decide_eq_true (by kernel_rfl)) k0 bel lt0) (trodAll_cons_mk (shut_int Try.underlying2 w1) (trodAll_cons_mk (shut_int Try.underlying2 w2) trodAll_mk0))), rfl, bel.frame _, fun h => by cases h⟩

theorem over : Rows.fnExactPairWriteRow.holds Try.pinned (OpenSpec.ofChange Rows.fnExactPairWriteSpec) :=
  OpenClaim.holds_of_wide 8 Try.f8 rfl rfl rfl rfl rfl rfl rfl ⟨rfl, rfl, rfl, rfl, rfl⟩ rfl rfl rfl rfl rfl (by kernel_rfl) Try.func8 (by kernel_rfl)
    (of_decide_eq_true (by kernel_rfl)) (by unfold Func.isWrapper; first | (rw [if_pos (by decide +kernel)]; kernel_rfl) | (rw [if_neg (by decide +kernel)]; exact ⟨rfl, rfl⟩))
    (fun os started H enc _ => lifted os started H enc)

theorem proved : Rows.FnExactPairWriteSaid := over
end Go.Proofs.Ytaifflodnnflfaa.fnExactPairWrite

namespace Go.Proofs.Ytaifflodnnflfaa
theorem fnExactPairWrite_holds : Rows.FnExactPairWriteSaid := fnExactPairWrite.proved
end Go.Proofs.Ytaifflodnnflfaa
