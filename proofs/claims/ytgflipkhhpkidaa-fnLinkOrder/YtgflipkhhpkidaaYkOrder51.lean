/- LsE, LsG, LsH, LsA, LsB, LsF -/
import Derived.Test.YtgflipkhhpkidaaYkOrder50
import Derived.Test.YtgflipkhhpkidaaYkOrder46
import Derived.Deep.LoopGhost
import Derived.Test.YtgflipkhhpkidaaYkOrder1
import Derived.Test.YtgflipkhhpkidaaYkOrder45
/- DrawLinkDo, DrawLinkCalmed (written by mkLsE.py) -/
namespace Go.Proofs.Ytgflipkhhpkidaa
open Go.RowKit
set_option linter.unusedVariables false
set_option linter.unusedSimpArgs false

theorem Xtn {w w' : World} {ad : Option Addr} {n : Nat} (h : Hid (Bt w ad n)) (m : Mv nob w w') : Hid (Bt w' ad n) := hide (fun h0 => by
  obtain ⟨b, off, e, hc⟩ := h.out h0
  exact ⟨b, off, e, fun j hj => by
    obtain ⟨c, h1, h2, h3⟩ := hc j hj
    exact ⟨c, h1, h2, m.cell h3 (fun f => f)⟩⟩)
theorem Xqb {B : Nat} {w w' : World} {base : Nat} {wv gv dv uv : Value} {p : Lk} (h : Hid (Lr w base wv gv dv uv p)) (m : Mv (fun x => x = B) w w') (n : ∀ x, Lrb wv gv dv uv x → x ≠ B) : Hid (Lr w' base wv gv dv uv p) := hide (h.out.mv m (fun x hx e => n x hx e))
theorem big_no (ad : Option Addr) (n cap : Nat) (w : World) (h : n ≤ 1048576) : Calls Try.prog 7 #[.slice ad n cap] w fun e w' => e = .returned (.bool false) ∧ w' = w := by
  have hd : decide ((1048576 : Int) < (n : Int)) = false := by simp; omega
  go_enter Try.func7, Try.ntmps7
  go_wp2
  go_ret
  exact ⟨rfl, rfl⟩

end Go.Proofs.Ytgflipkhhpkidaa

/- acts of a link one by one, plainly; impl.LinkPlay (written by mkLsG.py) -/
namespace Go.Proofs.Ytgflipkhhpkidaa
open Go.RowKit
set_option linter.unusedVariables false
set_option linter.unusedSimpArgs false

theorem Mv.le {S : Nat → Prop} {w v : World} {c : Nat} (h : Mv S w v) (e : v.heap.size = c) : w.heap.size ≤ c := e ▸ h.size
/-- an act's fields -/
structure Ac4 where
  k : Int
  z : Int
  b : Int
  d : ByteArray
/-- a row of acts in memory; a row of codes -/
def aF (s : Nat → Ac4) : Nat → Nat → Value := fun j i => match i with
  | 0 => .int .i64 (s j).k
  | 1 => .int .i64 (s j).z
  | 2 => .int .i64 (s j).b
  | _ => .string (s j).d
end Go.Proofs.Ytgflipkhhpkidaa

/- spec.LinkPlay; both where there is nothing to play (written by mkLsH.py) -/
namespace Go.Proofs.Ytgflipkhhpkidaa
open Go.RowKit
set_option linter.unusedVariables false
set_option linter.unusedSimpArgs false

end Go.Proofs.Ytgflipkhhpkidaa

/- sameTexts, sameWires, sameLink of what reads alike (written by mkLsA.py) -/

namespace Go.Proofs.Ytgflipkhhpkidaa
open Go.RowKit
set_option linter.unusedVariables false
set_option linter.unusedSimpArgs false

theorem Sg.congr {w : World} {v : Value} {m n : Nat} {f g : Nat → Nat → Value} (h : Sg w v m n f) (e : ∀ j, j < n → ∀ i, i < m → f j i = g j i) : Sg w v m n g := by
  obtain ⟨ad, cap, rfl, hs⟩ := h
  refine ⟨ad, cap, rfl, fun h0 => ?_⟩
  obtain ⟨b, off, rfl, hc⟩ := hs h0
  exact ⟨b, off, rfl, fun j hj i hi => (hc j hj i hi).trans (by rw [e j hj i hi])⟩

set_option maxHeartbeats 2000000 in
theorem sameTexts_same (a b : Value) (n : Nat) (s : Nat → ByteArray) (w : World) (ha : Sg w a 1 n (tF s)) (hb : Sg w b 1 n (tF s)) (hl : n ≤ 4194304) :
    Calls Try.prog 14 #[a, b] w fun e w' => e = .returned (.bool true) ∧ Below w.heap.size w w' := by
  obtain ⟨ad, cap, rfl, ha⟩ := ha
  obtain ⟨bd, cbp, rfl, hb⟩ := hb
  go_enter Try.func14, Try.ntmps14
  go_wp2
  go_loopw [5] (fun i wr => ∃ k : Nat, k ≤ n ∧ i = .int .i64 k ∧ Below w.heap.size w wr) (fun i _ => n - (intOf i).toNat)
  case atStart => exact ⟨0, Nat.zero_le _, rfl, Below.refl _ _⟩
  case round =>
    obtain ⟨k, hk, rfl, hbk⟩ := hrel
    by_cases hlt : k < n
    · obtain ⟨p, off, rfl, hc⟩ := ha (by omega)
      obtain ⟨q, off', rfl, hd⟩ := hb (by omega)
      have hck : wr.cell? ⟨p, off + k, none⟩ = some (.string (s k)) := by
        have := Below.keep hbk _ _ (hc k hlt 0 (by omega))
        rwa [Nat.mul_one, Nat.add_zero] at this
      have hdk : wr.cell? ⟨q, off' + k, none⟩ = some (.string (s k)) := by
        have := Below.keep hbk _ _ (hd k hlt 0 (by omega))
        rwa [Nat.mul_one, Nat.add_zero] at this
      have hss := str_self (s k)
      generalize s k = z at hck hdk hss
      clear hc hd ha hb
      go_wp2
      go_quiet (fail)
      all_goals go_wp2
      all_goals go_roundw
      case rel => exact ⟨k + 1, by omega, by go_num, below_drewN hbk _⟩
      case measure => simp [intOf]; omega
    · go_wp2
      go_ret
      exact ⟨rfl, hbk⟩

end Go.Proofs.Ytgflipkhhpkidaa

/- sameLink of links that read alike (written by mkLsB.py) -/
namespace Go.Proofs.Ytgflipkhhpkidaa
open Go.RowKit
set_option linter.unusedVariables false
set_option linter.unusedSimpArgs false

end Go.Proofs.Ytgflipkhhpkidaa

/- what an act of a link leaves, plainly; what FnLinkDone wants besides -/
namespace Go.Proofs.Ytgflipkhhpkidaa
open Go.RowKit
set_option linter.unusedVariables false
set_option linter.unusedSimpArgs false

/-- nothing that was got is lost -/
def Gm (p q : Lk) : Prop := p.base ≤ q.base ∧ p.want ≤ q.want ∧ q.want ≤ p.want + 1 ∧ p.ng ≤ q.ng ∧ ∀ j, j < p.ng → q.gs j = p.gs j
theorem Gm.alike {p q : Lk} (h1 : p.base ≤ q.base) (h2 : q.want = p.want) (h3 : q.ng = p.ng) (h4 : q.gs = p.gs) : Gm p q := ⟨h1, by omega, by omega, by omega, fun j _ => by rw [h4]⟩
theorem act_gm (p : Lk) (k z bit : Int) (body : ByteArray) : Gm p (actL p k z bit body) := by
  have ho : Gm p (offL p body) := Gm.alike (Int.le_refl _) rfl rfl rfl
  have hs : Gm p (sndL p) := Gm.alike (Int.le_refl _) rfl rfl rfl
  have hd : Gm p (outD p z.toNat) := Gm.alike (Int.le_refl _) rfl rfl rfl
  have hu : Gm p (outU p z.toNat) := Gm.alike (Int.le_refl _) rfl rfl rfl
  have hf : Gm p (flipD p z.toNat bit.toNat) := Gm.alike (Int.le_refl _) rfl rfl rfl
  have hg : Gm p (flipU p z.toNat bit.toNat) := Gm.alike (Int.le_refl _) rfl rfl rfl
  have hc : Gm p (comeD p z.toNat) := by
    unfold comeD
    split
    · unfold dgL
      split
      · exact ⟨Int.le_refl _, show p.want ≤ p.want + 1 by omega, show p.want + 1 ≤ p.want + 1 by omega, show p.ng ≤ p.ng + 1 by omega, fun j hj => if_pos hj⟩
      · exact Gm.alike (Int.le_refl _) rfl rfl rfl
    · exact hd
  have hv : Gm p (comeU p z.toNat) := by
    unfold comeU
    split
    · unfold ackL
      split
      · rename_i h
        have h2 : p.base < Flit.rS (p.ut z.toNat) := by
          have : ackB p.base p.want (Flit.rS (p.ut z.toNat)) = true := h
          simp only [ackB, Bool.and_eq_true, decide_eq_true_eq] at this
          exact this.1
        exact Gm.alike (show p.base ≤ Flit.rS (p.ut z.toNat) by omega) rfl rfl rfl
      · exact hu
    · exact hu
  unfold actL
  repeat' split
  all_goals assumption
theorem done_says (p : Lk) (k z bit : Int) (body : ByteArray) : Lsm 1048576 (doL p k z bit body) ∧ ((doC p k z bit body = 1 ∧ lkB p = false) ∨ (doC p k z bit body ≠ 1 ∧ doC p k z bit body ≠ 0 ∧ p = doL p k z bit body ∧ lkB p = true) ∨ (doC p k z bit body = 0 ∧ lkB p = true ∧ lkB (doL p k z bit body) = true ∧ Gm p (doL p k z bit body))) := by
  cases h : lkB p with
  | false =>
    rw [show doL p k z bit body = zeL from by simp [doL, h], show doC p k z bit body = 1 from by simp [doC, h]]
    exact ⟨(lk_iff.1 (show lkB zeL = true by decide)).sm, .inl ⟨rfl, rfl⟩⟩
  | true =>
    rw [show doL p k z bit body = ldL p k z bit body from by simp [doL, h], show doC p k z bit body = ldC p k z bit body from by simp [doC, h]]
    have hf := ld_lf (lk_iff.1 h) k z bit body
    refine ⟨hf.sm, .inr ?_⟩
    by_cases hc : ldC p k z bit body = 0
    · exact .inr ⟨hc, rfl, lk_iff.2 hf, by rw [ldL_ok hc]; exact act_gm p k z bit body⟩
    · refine .inl ⟨?_, hc, (ldL_no hc).symm, rfl⟩
      unfold ldC at hc ⊢
      split
      · rename_i h1
        rw [if_pos h1] at hc
        split
        · split <;> decide
        · unfold actC flC
          repeat' split
          all_goals decide
      · decide
theorem sl_headT (p off n cap k : Nat) (hk : k ≤ cap) (W : World) : (Instr.slice 24 (.slice (some ⟨p, off, none⟩) n cap) none (some (.int .i64 (k : Int))) none).run Try.prog W = .ok (.slice (some ⟨p, off, none⟩) k cap) W := by
  simp [go_sem, Try.underlying24, Instr.slice, Instr.sliceBounds, Instr.sliceBound, asIntOf, Addr.add, hk]
theorem sl_headN (n cap : Nat) (W : World) : (Instr.slice 24 (.slice none n cap) none (some (.int .i64 0)) none).run Try.prog W = .ok (.slice none 0 cap) W := by
  simp [go_sem, Try.underlying24, Instr.slice, Instr.sliceBounds, Instr.sliceBound, asIntOf]
/-- the first ones of a row of texts -/
theorem head_texts {w : World} {base n cap : Nat} {a : Option Addr} {s : Nat → ByteArray} (h : Rg w base (.slice a n cap) 1 n (tF s)) (k : Nat) (hk : k ≤ n) : (∀ W, (Instr.slice 24 (.slice a n cap) none (some (.int .i64 (k : Int))) none).run Try.prog W = .ok (.slice a k cap) W) ∧ Sg w (.slice a k cap) 1 k (tF s) := by
  rcases h with ⟨⟨b, e⟩, h0⟩ | ⟨g, off, c, e, h1, hp, h2, h3, ⟨cur, T, h4, h5⟩, h6⟩
  · simp only [Value.slice.injEq] at e
    obtain ⟨rfl, _, rfl⟩ := e
    have hk0 : k = 0 := by omega
    subst hk0
    refine ⟨fun W => ?_, ⟨_, _, rfl, fun h0 => absurd h0 (Nat.lt_irrefl _)⟩⟩
    cases a with
    | none => exact sl_headN _ _ W
    | some x => simp [go_sem, Try.underlying24, Instr.slice, Instr.sliceBounds, Instr.sliceBound, asIntOf, Addr.add]
  · simp only [Value.slice.injEq] at e
    obtain ⟨rfl, _, rfl⟩ := e
    refine ⟨fun W => sl_headT g off n cap k (by omega) W, ⟨_, _, rfl, fun h0 => ⟨g, off, rfl, fun j hj i hi => ?_⟩⟩⟩
    have hi0 : i = 0 := by omega
    subst hi0
    have := h6 (j * 1 + 0) (by omega)
    simpa using this
end Go.Proofs.Ytgflipkhhpkidaa
