/- what a core sees: impl, spec -/
import Derived.Test.YtcocobmanlmjdaaTsF
namespace Go.Proofs.Ytcocobmanlmjdaa
open Go.RowKit
set_option linter.unusedVariables false
set_option linter.unusedSimpArgs false

/-- the newest of the first k stores with that variable, else memory -/
def sn (zs : List Int) (f : Nat → Nat → Int) (v : Nat) : Nat → Int
  | 0 => zs.getD v 0
  | k + 1 => if f k 0 = (v : Int) then f k 1 else sn zs f v k
theorem sn_yes {zs : List Int} {f : Nat → Nat → Int} {v k : Nat} (h : f k 0 = (v : Int)) : sn zs f v (k + 1) = f k 1 := by rw [sn, if_pos h]
theorem sn_no {zs : List Int} {f : Nat → Nat → Int} {v k : Nat} (h : ¬ f k 0 = (v : Int)) : sn zs f v (k + 1) = sn zs f v k := by rw [sn, if_neg h]

theorem ret_i {a b : Int} (h : a = b) : Ending.returned (.int .i64 a) = .returned (.int .i64 b) := by rw [h]
theorem Tv.one {w : World} {mv bv rv : Value} {zs : List Int} {C : Nat} {L : Nat → Nat} {F : Nat → Nat → Nat → Int} {R : Nat} {Z : Nat → List Int} (h : Tv w mv bv rv zs C L F R Z) {c v : Nat} (hc : c < C) (hv : v < zs.length) :
    ∃ mb mo mc bb bo bc, mv = .slice (some ⟨mb, mo, none⟩) zs.length mc ∧ bv = .slice (some ⟨bb, bo, none⟩) C bc ∧ w.cell? ⟨mb, mo + v, none⟩ = some (.int .i64 (zs.getD v 0)) ∧
      ∃ ia ic, w.cell? ⟨bb, bo + c, none⟩ = some (.slice ia (L c) ic) ∧ Sr w (.slice ia (L c) ic) 2 (L c) (F c) := by
  obtain ⟨⟨ma, mc, rfl, h0⟩, ⟨ba, bc, rfl, h1⟩, _⟩ := h
  obtain ⟨mb, mo, rfl, h2⟩ := h0 (by omega)
  obtain ⟨bb, bo, rfl, h3⟩ := h1 (by omega)
  exact ⟨mb, mo, mc, bb, bo, bc, rfl, rfl, h2 v hv, h3 c hc⟩

set_option maxHeartbeats 2000000 in
theorem implSeen_any (mv bv rv : Value) (zs : List Int) (C : Nat) (L : Nat → Nat) (F : Nat → Nat → Nat → Int) (R : Nat) (Z : Nat → List Int) (c v : Nat) (w : World) (h : Tv w mv bv rv zs C L F R Z) (hc : c < C) (hv : v < zs.length) (hL : L c ≤ 1048576) :
    Calls Try.prog 78 #[.agg #[mv, bv, rv], .int .i64 c, .int .i64 v] w fun e w' => e = .returned (.int .i64 (sn zs (F c) v (L c))) ∧ Below w.heap.size w w' := by
  have hB0 : Below w.heap.size w (w.alloc (.cells #[mv, bv, rv] 37)) := (Below.refl _ _).alloc (Nat.le_refl _) _
  obtain ⟨mb, mo, mc, bb, bo, bc, rfl, rfl, q, ia, ic, r, hs⟩ := h.one hc hv
  have q := keepc hB0 q
  have r := keepc hB0 r
  have hv0 : (0 : Int) ≤ (v : Int) := by omega
  have hv1 : (v : Int) < (zs.length : Int) := by omega
  have hc0 : (0 : Int) ≤ (c : Int) := by omega
  have hc1 : (c : Int) < (C : Int) := by omega
  have HE : Hid (sn zs (F c) v 0 = zs.getD v 0) := hide rfl
  generalize hm : zs.getD v 0 = m0 at q HE
  clear h hm
  generalize hn : L c = n at *
  generalize hf : F c = f at *
  generalize hzl : zs.length = zl at *
  obtain ⟨ad, cap, e, hs⟩ := hs
  obtain ⟨rfl, rfl⟩ : ia = ad ∧ ic = cap := by simp at e; exact e
  clear e hn hf
  go_enter Try.func78, Try.ntmps78
  go_wp2
  go_loopw [7, 21] (fun x i wr => ∃ k : Nat, k ≤ n ∧ i = .int .i64 k ∧ (∃ z : Int, x = .int .i64 z ∧ Hid (z = sn zs f v k)) ∧ Below w.heap.size w wr) (fun _ i _ => n - (intOf i).toNat)
  case atStart => exact ⟨0, Nat.zero_le _, rfl, ⟨m0, rfl, hide HE.out.symm⟩, hB0⟩
  case round =>
    obtain ⟨k, hk, rfl, ⟨z, rfl, HZ⟩, hbk⟩ := hrel
    by_cases hlt : k < n
    · obtain ⟨p, off, rfl, hc⟩ := hs (by omega)
      have q0 : wr.cell? ⟨p, off + k * 2, none⟩ = some (.int .i64 (f k 0)) := Below.keep hbk _ _ (hc k hlt 0 (by decide))
      have q1 : wr.cell? ⟨p, off + k * 2 + 1, none⟩ = some (.int .i64 (f k 1)) := Below.keep hbk _ _ (hc k hlt 1 (by decide))
      have hB2 : Below w.heap.size w (wr.alloc (.cells #[.int .i64 (f k 0), .int .i64 (f k 1)] 103)) := hbk.alloc hbk.size _
      by_cases hx : f k 0 = (v : Int)
      · have HZ2 := hide (sn_yes (zs := zs) hx).symm
        have hd : (f k 0 == (v : Int)) = true := by simpa using hx
        generalize f k 0 = x0 at q0 hd hB2
        generalize f k 1 = x1 at q1 HZ2 hB2
        clear hx hc hs q r HZ
        go_wp2
        go_roundw
        case rel => exact ⟨k + 1, by omega, by go_num, ⟨x1, rfl, HZ2⟩, hB2⟩
        case measure => simp [intOf]; omega
      · have HZ2 : Hid (z = sn zs f v (k + 1)) := hide (HZ.out.trans (sn_no hx).symm)
        have hd : (f k 0 == (v : Int)) = false := by simpa using hx
        generalize f k 0 = x0 at q0 hd hB2
        generalize f k 1 = x1 at q1 hB2
        clear hx hc hs q r HZ
        go_wp2
        go_roundw
        case rel => exact ⟨k + 1, by omega, by go_num, ⟨z, rfl, HZ2⟩, hB2⟩
        case measure => simp [intOf]; omega
    · have e : k = n := by omega
      subst e
      clear hs
      go_wp2
      go_ret
      exact ⟨ret_i HZ.out, hbk⟩

set_option maxHeartbeats 2000000 in
theorem specSeen_any (mv bv rv : Value) (zs : List Int) (C : Nat) (L : Nat → Nat) (F : Nat → Nat → Nat → Int) (R : Nat) (Z : Nat → List Int) (c v : Nat) (w : World) (h : Tv w mv bv rv zs C L F R Z) (hc : c < C) (hv : v < zs.length) (hL : L c ≤ 1048576) :
    Calls Try.prog 69 #[.agg #[mv, bv, rv], .int .i64 c, .int .i64 v] w fun e w' => e = .returned (.int .i64 (sn zs (F c) v (L c))) ∧ Below w.heap.size w w' := by
  have hB0 : Below w.heap.size w (w.alloc (.cells #[mv, bv, rv] 37)) := (Below.refl _ _).alloc (Nat.le_refl _) _
  obtain ⟨a0, a1, a2⟩ := box3 w mv bv rv 37
  obtain ⟨mb, mo, mc, bb, bo, bc, rfl, rfl, q, ia, ic, r, hs⟩ := h.one hc hv
  have q := keepc hB0 q
  have r := keepc hB0 r
  have hv0 : (0 : Int) ≤ (v : Int) := by omega
  have hv1 : (v : Int) < (zs.length : Int) := by omega
  have hc0 : (0 : Int) ≤ (c : Int) := by omega
  have hc1 : (c : Int) < (C : Int) := by omega
  have HE : Hid (sn zs (F c) v 0 = zs.getD v 0) := hide rfl
  generalize hm : zs.getD v 0 = m0 at q HE
  clear h hm
  generalize hn : L c = n at *
  generalize hf : F c = f at *
  generalize hzl : zs.length = zl at *
  obtain ⟨ad, cap, e, hs⟩ := hs
  obtain ⟨rfl, rfl⟩ : ia = ad ∧ ic = cap := by simp at e; exact e
  have hw0 : wrap64 ((n : Int) - 1) = (n : Int) - 1 := Go.IntWalk.wrap64_in _ (by omega)
  clear e hn hf
  go_enter Try.func69, Try.ntmps69
  go_wp2
  generalize hW : (w.alloc _) = W at *
  go_loopw [8] (fun i wr => ∃ k : Nat, k ≤ n ∧ i = .int .i64 ((k : Int) - 1) ∧ wr = W ∧ Hid (sn zs f v n = sn zs f v k)) (fun i _ => ((intOf i) + 1).toNat)
  case atStart => exact ⟨n, Nat.le_refl _, rfl, rfl, hide rfl⟩
  case round =>
    obtain ⟨k, hk, rfl, rfl, HZ⟩ := hrel
    by_cases hlt : 0 < k
    · obtain ⟨j, rfl⟩ : ∃ j, k = j + 1 := ⟨k - 1, by omega⟩
      obtain ⟨p, off, rfl, hc⟩ := hs (by omega)
      have q0 : wr.cell? ⟨p, off + j * 2, none⟩ = some (.int .i64 (f j 0)) := Below.keep hB0 _ _ (hc j (by omega) 0 (by decide))
      have q1 : wr.cell? ⟨p, off + j * 2 + 1, none⟩ = some (.int .i64 (f j 1)) := Below.keep hB0 _ _ (hc j (by omega) 1 (by decide))
      have hi : ((j + 1 : Nat) : Int) - 1 = (j : Int) := by omega
      have hd0 : decide ((0 : Int) ≤ (j : Int)) = true := by simp
      have hwj : wrap64 ((j : Int) - 1) = (j : Int) - 1 := Go.IntWalk.wrap64_in _ (by omega)
      have hj0 : (0 : Int) ≤ (j : Int) := by omega
      have hj1 : (j : Int) < (n : Int) := by omega
      rw [hi]
      by_cases hx : f j 0 = (v : Int)
      · have HO : Hid (f j 1 = sn zs f v n) := hide (by rw [HZ.out, sn_yes hx])
        have hd : (f j 0 == (v : Int)) = true := by simpa using hx
        generalize f j 0 = x0 at q0 hd
        generalize f j 1 = x1 at q1 HO
        clear hx hc hs q r HZ hi
        go_wp2
        go_ret
        exact ⟨ret_i HO.out, hB0⟩
      · have HZ2 : Hid (sn zs f v n = sn zs f v j) := hide (by rw [HZ.out, sn_no hx])
        have hd : (f j 0 == (v : Int)) = false := by simpa using hx
        generalize f j 0 = x0 at q0 hd
        generalize f j 1 = x1 at q1
        clear hx hc hs q r HZ hi
        go_wp2
        go_roundw
        case rel => exact ⟨j, by omega, by first | rfl | trivial, by first | rfl | trivial, HZ2⟩
        case measure => simp [intOf] <;> omega
    · have e : k = 0 := by omega
      subst e
      have HO : Hid (m0 = sn zs f v n) := hide (by rw [HZ.out, HE.out])
      clear hs
      go_wp2
      go_ret
      exact ⟨ret_i HO.out, hB0⟩

end Go.Proofs.Ytcocobmanlmjdaa
