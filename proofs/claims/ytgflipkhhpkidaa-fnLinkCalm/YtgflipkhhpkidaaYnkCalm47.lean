/- LsE, LsA -/
import Derived.Test.YtgflipkhhpkidaaYnkCalm46
import Derived.Test.YtgflipkhhpkidaaYnkCalm0
/- DrawLinkDo, DrawLinkCalmed (written by mkLsE.py) -/
namespace Go.Proofs.Ytgflipkhhpkidaa
open Go.RowKit
set_option linter.unusedVariables false
set_option linter.unusedSimpArgs false

theorem Xtn {w w' : World} {ad : Option Addr} {n : Nat} (h : Hid (Bt w ad n)) (m : Mv nob w w') : Hid (Bt w' ad n) := hide (fun h0 => by
  obtain ⟨b, off, e, hc⟩ := h.out h0
  exact ⟨b, off, e, fun j hj => by
    obtain ⟨c, h1, h2, h3⟩ := hc j hj
    exact ⟨c, h1, h2, m.cell h3 (fun f => f)⟩⟩)
theorem Xqb {B : Nat} {w w' : World} {base : Nat} {wv gv dv uv : Value} {p : Lk} (h : Hid (Lr w base wv gv dv uv p)) (m : Mv (fun x => x = B) w w') (n : ∀ x, Lrb wv gv dv uv x → x ≠ B) : Hid (Lr w' base wv gv dv uv p) := hide (h.out.mv m (fun x hx e => n x hx e))
theorem big_no (ad : Option Addr) (n cap : Nat) (w : World) (h : n ≤ 1048576) : Calls Try.prog 7 #[.slice ad n cap] w fun e w' => e = .returned (.bool false) ∧ w' = w := by
  have hd : decide ((1048576 : Int) < (n : Int)) = false := by simp; omega
  go_enter Try.func7, Try.ntmps7
  go_wp2
  go_ret
  exact ⟨rfl, rfl⟩

set_option maxHeartbeats 8000000 in
set_option maxRecDepth 20000 in
theorem drawCalmed_any (ad : Option Addr) (n cap : Nat) (w : World) (hs : Bt w ad n) (hb0 : n ≤ 1048576) : Calls Try.prog 16 #[.slice ad n cap] w fun e w' => ∃ (wv gv dv uv : Value) (p : Lk), e = .returned (.agg (l6 p.base wv p.want gv dv uv)) ∧ Lr w' w.heap.size wv gv dv uv p ∧ Lsm 1048576 p ∧ Below w.heap.size w w' ∧ p.ng ≤ 1000 := by
  have HB : Hid (Mv nob w w) := hide (Mv.refl _ _)
  have BT := hide hs
  clear hs
  go_enter Try.func16, Try.ntmps16
  refine sk fun K1 h1 => rl ?_
  refine sbp #[.int .i64 0, .slice none 0 0, .int .i64 0, .slice none 0 0, .slice none 0 0, .slice none 0 0] 27 fun V1 b0 hb0 m1 bx0 => ?_
  have o_0 : w.heap.size ≤ b0 := by omega
  clear hb0
  refine nt (h1 _ _ (sk fun K2 h2 => rl ?_)); clear h1 K1
  refine sv (.slice ad n cap) ?_
  have szT := lt_of_block bx0.out
  replace BT := Xtn BT m1
  refine sw_call (by rfl) (by first | rfl | (go_simp; done)) (open_any ad n cap V1 BT.out hb0) ?_
  rintro e V2 ⟨g, rfl, hgw, hr, hbl⟩
  have m2 : Mv (nob) V1 V2 := Mv.of_below hbl
  refine ⟨_, rfl, ?_⟩
  refine pt ?_
  have RD := hide hr
  have hgb : b0 < g := by omega
  clear hr hbl
  refine sv (.pointer (some ⟨g, 0, none⟩)) ?_
  refine nt (h2 _ _ (sk fun K3 h3 => rl ?_)); clear h2 K2
  refine sv (.pointer (some ⟨g, 0, none⟩)) ?_
  replace bx0 := Xbn bx0 m2
  have szT := lt_of_block bx0.out
  have szG := RD.out.lt
  replace HB := Xhn (Xhn HB m1) m2
  have szW := HB.out.size
  refine sw_call (by rfl) (by first | rfl | (go_simp; done)) (link_any g 24 V2 RD.out (by decide) (by decide)) ?_
  rintro e V3 ⟨wv, gv, dv, uv, p, rfl, LQ, hsm, hr, hg, hng⟩
  have m3 : Mv (fun x => x = g) V2 V3 := mv_rd hg
  refine ⟨_, rfl, ?_⟩
  refine pt ?_
  replace HB := hide (HB.out.step m3 (fun x hx e => by have e : x = g := e; omega))
  clear BT
  replace RD := hide hr
  clear hr hg
  obtain ⟨xa, xc, rfl, _⟩ := LQ.wa.form
  obtain ⟨ya, yc, rfl, _⟩ := LQ.go.form
  obtain ⟨za, zc, rfl, _⟩ := LQ.dn.form
  obtain ⟨ta, tc, rfl, _⟩ := LQ.up.form
  have LN := hide (LQ.lower szW)
  have ALN : Hid (∀ x, Lrb (.slice xa p.nw xc) (.slice ya p.ng yc) (.slice za p.nd zc) (.slice ta p.nu tc) x → x ≠ b0 ∧ x ≠ g) := hide (fun x h => by have := (LQ.lt x h).1; exact (by omega))
  clear LQ szW szT szG
  replace bx0 := Xbb bx0 m3
  refine ss6 (.int .i64 p.base) (.slice xa p.nw xc) (.int .i64 p.want) (.slice ya p.ng yc) (.slice za p.nd zc) (.slice ta p.nu tc) bx0 fun V4 m4 bx0 => ?_
  clear RD
  refine nt (h3 _ _ (wp_ret ?_)); clear h3 K3
  replace HB := Xhb HB m4; replace LN := Xqb LN m4 (fun x h => by have := ALN.out x h; omega)
  obtain ⟨_, q0_0, q0_1, q0_2, q0_3, q0_4, q0_5⟩ := box6 bx0.out
  exact bodyPost_ret (v := .agg #[.int .i64 p.base, .slice xa p.nw xc, .int .i64 p.want, .slice ya p.ng yc, .slice za p.nd zc, .slice ta p.nu tc]) (by simp [results, Try.results16, go_sem, q0_0, q0_1, q0_2, q0_3, q0_4, q0_5]) rfl ⟨_, _, _, _, _, rfl, LN.out, hsm, HB.out.below, hng⟩

end Go.Proofs.Ytgflipkhhpkidaa

/- sameTexts, sameWires, sameLink of what reads alike (written by mkLsA.py) -/

namespace Go.Proofs.Ytgflipkhhpkidaa
open Go.RowKit
set_option linter.unusedVariables false
set_option linter.unusedSimpArgs false

theorem Sg.congr {w : World} {v : Value} {m n : Nat} {f g : Nat → Nat → Value} (h : Sg w v m n f) (e : ∀ j, j < n → ∀ i, i < m → f j i = g j i) : Sg w v m n g := by
  obtain ⟨ad, cap, rfl, hs⟩ := h
  refine ⟨ad, cap, rfl, fun h0 => ?_⟩
  obtain ⟨b, off, rfl, hc⟩ := hs h0
  exact ⟨b, off, rfl, fun j hj i hi => (hc j hj i hi).trans (by rw [e j hj i hi])⟩

set_option maxHeartbeats 2000000 in
theorem sameTexts_same (a b : Value) (n : Nat) (s : Nat → ByteArray) (w : World) (ha : Sg w a 1 n (tF s)) (hb : Sg w b 1 n (tF s)) (hl : n ≤ 4194304) :
    Calls Try.prog 14 #[a, b] w fun e w' => e = .returned (.bool true) ∧ Below w.heap.size w w' := by
  obtain ⟨ad, cap, rfl, ha⟩ := ha
  obtain ⟨bd, cbp, rfl, hb⟩ := hb
  go_enter Try.func14, Try.ntmps14
  go_wp2
  go_loopw [5] (fun i wr => ∃ k : Nat, k ≤ n ∧ i = .int .i64 k ∧ Below w.heap.size w wr) (fun i _ => n - (intOf i).toNat)
  case atStart => exact ⟨0, Nat.zero_le _, rfl, Below.refl _ _⟩
  case round =>
    obtain ⟨k, hk, rfl, hbk⟩ := hrel
    by_cases hlt : k < n
    · obtain ⟨p, off, rfl, hc⟩ := ha (by omega)
      obtain ⟨q, off', rfl, hd⟩ := hb (by omega)
      have hck : wr.cell? ⟨p, off + k, none⟩ = some (.string (s k)) := by
        have := Below.keep hbk _ _ (hc k hlt 0 (by omega))
        rwa [Nat.mul_one, Nat.add_zero] at this
      have hdk : wr.cell? ⟨q, off' + k, none⟩ = some (.string (s k)) := by
        have := Below.keep hbk _ _ (hd k hlt 0 (by omega))
        rwa [Nat.mul_one, Nat.add_zero] at this
      have hss := str_self (s k)
      generalize s k = z at hck hdk hss
      clear hc hd ha hb
      go_wp2
      go_quiet (fail)
      all_goals go_wp2
      all_goals go_roundw
      case rel => exact ⟨k + 1, by omega, by go_num, below_drewN hbk _⟩
      case measure => simp [intOf]; omega
    · go_wp2
      go_ret
      exact ⟨rfl, hbk⟩

set_option maxHeartbeats 2000000 in
theorem sameWires_same (a b : Value) (n : Nat) (t : Nat → ByteArray) (h : Nat → Bool) (w : World) (ha : Sg w a 2 n (wF t h)) (hb : Sg w b 2 n (wF t h)) (hl : n ≤ 4194304) :
    Calls Try.prog 28 #[a, b] w fun e w' => e = .returned (.bool true) ∧ Below w.heap.size w w' := by
  obtain ⟨ad, cap, rfl, ha⟩ := ha
  obtain ⟨bd, cbp, rfl, hb⟩ := hb
  go_enter Try.func28, Try.ntmps28
  go_wp2
  go_loopw [5] (fun i wr => ∃ k : Nat, k ≤ n ∧ i = .int .i64 k ∧ Below w.heap.size w wr) (fun i _ => n - (intOf i).toNat)
  case atStart => exact ⟨0, Nat.zero_le _, rfl, Below.refl _ _⟩
  case round =>
    obtain ⟨k, hk, rfl, hbk⟩ := hrel
    by_cases hlt : k < n
    · obtain ⟨p, off, rfl, hc⟩ := ha (by omega)
      obtain ⟨q, off', rfl, hd⟩ := hb (by omega)
      have c0 : wr.cell? ⟨p, off + k * 2, none⟩ = some (.string (t k)) := Below.keep hbk _ _ (hc k hlt 0 (by decide))
      have c1 : wr.cell? ⟨p, off + k * 2 + 1, none⟩ = some (.bool (h k)) := Below.keep hbk _ _ (hc k hlt 1 (by decide))
      have d0 : wr.cell? ⟨q, off' + k * 2, none⟩ = some (.string (t k)) := Below.keep hbk _ _ (hd k hlt 0 (by decide))
      have d1 : wr.cell? ⟨q, off' + k * 2 + 1, none⟩ = some (.bool (h k)) := Below.keep hbk _ _ (hd k hlt 1 (by decide))
      have hss := str_self (t k)
      generalize t k = tk at c0 d0 hss
      generalize h k = hk' at c1 d1
      clear hc hd ha hb
      have hk0 : (0 : Int) ≤ (k : Int) := by omega
      have hk1 : (k : Int) < (n : Int) := by omega
      cases hk'
      all_goals
        go_wp2
        go_quiet (fail)
        all_goals go_wp2
        all_goals go_roundw
        case rel => exact ⟨k + 1, by omega, by go_num, below_drewN hbk _⟩
        case measure => simp [intOf]; omega
    · go_wp2
      go_ret
      exact ⟨rfl, hbk⟩

end Go.Proofs.Ytgflipkhhpkidaa
