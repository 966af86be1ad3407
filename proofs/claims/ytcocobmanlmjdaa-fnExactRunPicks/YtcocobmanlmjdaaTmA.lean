/- marks of rows that lie anywhere in a block: whole numbers, stores -/
import Derived.Test.YtcocobmanlmjdaaTkG
import Derived.Test.YtcocobmanlmjdaaFM
namespace Go.Proofs.Ytcocobmanlmjdaa
open Go.RowKit
set_option linter.unusedVariables false
set_option linter.unusedSimpArgs false

/-- marked up to x -/
def Vo (w : World) (g off x : Nat) (k0 : Int) : Prop := ∀ y, y < x → w.cell? ⟨g, off + y, none⟩ = some (.int .i64 (k0 + (y : Int)))
theorem Vo.put {w : World} {g off x len : Nat} {k0 z : Int} (h : Vo w g off x k0) (hw : Wc w g len) (hx : off + x < len) (hz : z = k0 + (x : Int)) : Vo (w.setCell ⟨g, off + x, none⟩ (.int .i64 z)) g off (x + 1) k0 := by
  intro y hy
  by_cases e : x = y
  · subst e
    obtain ⟨u, hu⟩ := hw.facts.2 (off + x) hx
    rw [World.cell?_setCell_same (h := hu), hz]
  · rw [far_set (by omega)]; exact h y (by omega)

/-- a slice of n things, somewhere if there are any -/
def Fm (v : Value) (n : Nat) : Prop := ∃ ad cap, v = .slice ad n cap ∧ (0 < n → ∃ g off, ad = some ⟨g, off, none⟩)
theorem Fm.of_sl {w : World} {v : Value} {zs : List Int} (h : Sl w v zs) : Fm v zs.length := by
  obtain ⟨ad, cap, rfl, h⟩ := h
  exact ⟨ad, cap, rfl, fun hp => by obtain ⟨b, off, e, _⟩ := h hp; exact ⟨b, off, e⟩⟩
theorem Fm.of_sr {w : World} {v : Value} {m n : Nat} {f : Nat → Nat → Int} (h : Sr w v m n f) : Fm v n := by
  obtain ⟨ad, cap, rfl, h⟩ := h
  exact ⟨ad, cap, rfl, fun hp => by obtain ⟨b, off, e, _⟩ := h hp; exact ⟨b, off, e⟩⟩

theorem Bk.chg {S : Nat → Prop} {w w' : World} {base k t : Nat} {v : Value} {tag : Nat → Nat} (h : Bk w base v k tag t) (hc : Chg S w w') : Bk w' base v k tag t := fun g off n cap e hk => by
  obtain ⟨h1, h2, h3⟩ := h g off n cap e hk
  exact ⟨h1, hc.keep _ _ h2, h3⟩
theorem Sl.chg {S : Nat → Prop} {w w' : World} {base t : Nat} {v : Value} {zs : List Int} {tag : Nat → Nat} (h : Sl w v zs) (hb : Bk w base v zs.length tag t) (hc : Chg S w w') (hS : ∀ b, S b → tag b ≠ t) : Sl w' v zs := by
  obtain ⟨ad, cap, rfl, h⟩ := h
  refine ⟨ad, cap, rfl, fun hp => ?_⟩
  obtain ⟨b, off, rfl, hcc⟩ := h hp
  obtain ⟨_, hw, ht⟩ := hb b off _ cap rfl hp
  exact ⟨b, off, rfl, fun j hj => hc.cell (fun s => hS b s ht) (hcc j hj)⟩
theorem Sr.chg {S : Nat → Prop} {w w' : World} {base t m n : Nat} {v : Value} {f : Nat → Nat → Int} {tag : Nat → Nat} (h : Sr w v m n f) (hm : 0 < m) (hb : Bk w base v (n * m) tag t) (hc : Chg S w w') (hS : ∀ b, S b → tag b ≠ t) : Sr w' v m n f := by
  obtain ⟨ad, cap, rfl, h⟩ := h
  refine ⟨ad, cap, rfl, fun hp => ?_⟩
  obtain ⟨b, off, rfl, hcc⟩ := h hp
  obtain ⟨_, hw, ht⟩ := hb b off _ cap rfl (Nat.mul_pos hp hm)
  exact ⟨b, off, rfl, fun j hj i hi => hc.cell (fun s => hS b s ht) (hcc j hj i hi)⟩
theorem Svs.chg {S : Nat → Prop} {w w' : World} {base t n : Nat} {v : Value} {f : Nat → Value} {tag : Nat → Nat} (h : Svs w v n f) (hb : Bk w base v n tag t) (hc : Chg S w w') (hS : ∀ b, S b → tag b ≠ t) : Svs w' v n f := by
  obtain ⟨ad, cap, rfl, h⟩ := h
  refine ⟨ad, cap, rfl, fun hp => ?_⟩
  obtain ⟨b, off, rfl, hcc⟩ := h hp
  obtain ⟨_, hw, ht⟩ := hb b off _ cap rfl hp
  exact ⟨b, off, rfl, fun j hj => hc.cell (fun s => hS b s ht) (hcc j hj)⟩

/-- blocks of the tag t, at base and behind -/
def Tg (base : Nat) (tag : Nat → Nat) (t : Nat) : Nat → Prop := fun b => base ≤ b ∧ tag b = t

/-- the marks of a row of stores -/
def mk2 (k : Int) : Nat → Nat → Int := fun j i => k + 2 * (j : Int) + (i : Int)

set_option maxHeartbeats 2000000 in
theorem mkI_at (g off n cap : Nat) (k0 : Int) (w : World) (h0 : 0 ≤ k0) (h1 : k0 ≤ 1152921504606846976) (hw : Wc w g (off + n)) (hl : n ≤ 1048576) :
    Calls Try.prog 16 #[.slice (some ⟨g, off, none⟩) n cap, .int .i64 k0] w fun e w' => e = .returned (.int .i64 (k0 + n)) ∧ Chg (· = g) w w' ∧ Vo w' g off n k0 := by
  go_enter Try.func16, Try.ntmps16
  go_wp2
  go_loopw [1, 5] (fun t i wr => ∃ j : Nat, j ≤ n ∧ i = .int .i64 j ∧ t = .int .i64 (k0 + j) ∧ Chg (· = g) w wr ∧ Hid (Vo wr g off j k0)) (fun _ i _ => n - (intOf i).toNat)
  case atStart => exact ⟨0, Nat.zero_le _, rfl, by simp, Chg.refl _ _, hide (fun x hx => by omega)⟩
  case round =>
    obtain ⟨j, hj, rfl, rfl, hgj, HV⟩ := hrel
    by_cases hlt : j < n
    · have HW := hide (hgj.keep _ _ hw)
      obtain ⟨fr, hc⟩ := HW.out.facts
      obtain ⟨o0, r0⟩ := hc (off + j) (by omega)
      have HB := hide hgj
      have HP := hide (HV.out.put HW.out (x := j) (z := k0 + j) (by omega) rfl)
      clear hgj hc hw HV HW
      go_wp2
      go_roundw
      case rel => exact ⟨j + 1, by omega, by go_num, by go_num, HB.out.set rfl _, HP⟩
      case measure => simp [intOf]; omega
    · have e : j = n := by omega
      subst e
      go_wp2
      go_ret
      exact ⟨rfl, hgj, HV.out⟩

set_option maxHeartbeats 2000000 in
theorem mkI_zero (ad : Option Addr) (cap : Nat) (k0 : Int) (w : World) (h0 : 0 ≤ k0) (h1 : k0 ≤ 1152921504606846976) :
    Calls Try.prog 16 #[.slice ad 0 cap, .int .i64 k0] w fun e w' => e = .returned (.int .i64 k0) ∧ w' = w := by
  go_enter Try.func16, Try.ntmps16
  go_wp2
  go_loopw [1, 5] (fun t i wr => i = .int .i64 0 ∧ t = .int .i64 k0 ∧ wr = w) (fun _ i _ => 0)
  case atStart => exact ⟨rfl, rfl, rfl⟩
  case round =>
    obtain ⟨rfl, rfl, rfl⟩ := hrel
    go_wp2
    go_ret
    exact ⟨rfl, rfl⟩

theorem mkI_any {v : Value} {n base t : Nat} {tag : Nat → Nat} {k0 : Int} {w : World} (hf : Fm v n) (hb : Bk w base v n tag t) (h0 : 0 ≤ k0) (h1 : k0 ≤ 1152921504606846976) (hl : n ≤ 1048576) :
    Calls Try.prog 16 #[v, .int .i64 k0] w fun e w' => e = .returned (.int .i64 (k0 + n)) ∧ Chg (Tg base tag t) w w' ∧ Sl w' v (marks k0 n) := by
  obtain ⟨ad, cap, rfl, hf⟩ := hf
  by_cases hp : 0 < n
  · obtain ⟨g, off, rfl⟩ := hf hp
    obtain ⟨h2, h3, h4⟩ := hb g off n cap rfl hp
    refine (mkI_at g off n cap k0 w h0 h1 h3 hl).mono ?_
    rintro e w' ⟨rfl, hc, hv⟩
    refine ⟨rfl, hc.mono (fun j e => by subst e; exact ⟨h2, h4⟩), ⟨some ⟨g, off, none⟩, cap, by rw [marks_length], fun _ => ⟨g, off, rfl, fun j hj => ?_⟩⟩⟩
    rw [marks_length] at hj
    rw [marks_get _ _ _ hj]
    exact hv j hj
  · have e : n = 0 := by omega
    subst e
    refine (mkI_zero ad cap k0 w h0 h1).mono ?_
    rintro e w' ⟨rfl, rfl⟩
    exact ⟨by simp, Chg.refl _ _, ⟨ad, cap, by rw [marks_length], fun hp => by rw [marks_length] at hp; omega⟩⟩

set_option maxHeartbeats 4000000 in
theorem mkS_at (g off n cap : Nat) (k0 : Int) (w : World) (h0 : 0 ≤ k0) (h1 : k0 ≤ 1152921504606846976) (hw : Wc w g (off + n * 2)) (hl : n ≤ 1048576) :
    Calls Try.prog 61 #[.slice (some ⟨g, off, none⟩) n cap, .int .i64 k0] w fun e w' => e = .returned (.int .i64 (k0 + 2 * n)) ∧ Chg (· = g) w w' ∧ Vo w' g off (n * 2) k0 := by
  go_enter Try.func61, Try.ntmps61
  go_wp2
  go_loopw [1, 5] (fun t i wr => ∃ j : Nat, j ≤ n ∧ i = .int .i64 j ∧ t = .int .i64 (k0 + 2 * j) ∧ Chg (· = g) w wr ∧ Hid (Vo wr g off (j * 2) k0)) (fun _ i _ => n - (intOf i).toNat)
  case atStart => exact ⟨0, Nat.zero_le _, rfl, by simp, Chg.refl _ _, hide (fun x hx => by omega)⟩
  case round =>
    obtain ⟨j, hj, rfl, rfl, hgj, HV⟩ := hrel
    by_cases hlt : j < n
    · have HW := hide (hgj.keep _ _ hw)
      obtain ⟨fr, hc⟩ := HW.out.facts
      obtain ⟨o0, r0⟩ := hc (off + j * 2) (by omega)
      obtain ⟨o1, r1⟩ := hc (off + j * 2 + 1) (by omega)
      have HB := hide hgj
      have HP : Hid (Vo ((wr.setCell ⟨g, off + j * 2, none⟩ (.int .i64 (k0 + 2 * j))).setCell ⟨g, off + j * 2 + 1, none⟩ (.int .i64 (k0 + 2 * j + 1))) g off ((j + 1) * 2) k0) := by
        have e : (j + 1) * 2 = j * 2 + 1 + 1 := by omega
        rw [e]
        exact hide ((HV.out.put HW.out (x := j * 2) (by omega) (by omega)).put (x := j * 2 + 1) (HW.out.set _) (by omega) (by omega))
      clear hgj hc hw HV HW
      go_wp2
      go_roundw
      case rel => exact ⟨j + 1, by omega, by go_num, by go_num, (HB.out.set rfl _).set rfl _, HP⟩
      case measure => simp [intOf]; omega
    · have e : j = n := by omega
      subst e
      go_wp2
      go_ret
      exact ⟨rfl, hgj, HV.out⟩

set_option maxHeartbeats 2000000 in
theorem mkS_zero (ad : Option Addr) (cap : Nat) (k0 : Int) (w : World) (h0 : 0 ≤ k0) (h1 : k0 ≤ 1152921504606846976) :
    Calls Try.prog 61 #[.slice ad 0 cap, .int .i64 k0] w fun e w' => e = .returned (.int .i64 k0) ∧ w' = w := by
  go_enter Try.func61, Try.ntmps61
  go_wp2
  go_loopw [1, 5] (fun t i wr => i = .int .i64 0 ∧ t = .int .i64 k0 ∧ wr = w) (fun _ i _ => 0)
  case atStart => exact ⟨rfl, rfl, rfl⟩
  case round =>
    obtain ⟨rfl, rfl, rfl⟩ := hrel
    go_wp2
    go_ret
    exact ⟨rfl, rfl⟩

theorem mkS_any {v : Value} {n base t : Nat} {tag : Nat → Nat} {k0 : Int} {w : World} (hf : Fm v n) (hb : Bk w base v (n * 2) tag t) (h0 : 0 ≤ k0) (h1 : k0 ≤ 1152921504606846976) (hl : n ≤ 1048576) :
    Calls Try.prog 61 #[v, .int .i64 k0] w fun e w' => e = .returned (.int .i64 (k0 + 2 * n)) ∧ Chg (Tg base tag t) w w' ∧ Sr w' v 2 n (mk2 k0) := by
  obtain ⟨ad, cap, rfl, hf⟩ := hf
  by_cases hp : 0 < n
  · obtain ⟨g, off, rfl⟩ := hf hp
    obtain ⟨h2, h3, h4⟩ := hb g off n cap rfl (by omega)
    refine (mkS_at g off n cap k0 w h0 h1 h3 hl).mono ?_
    rintro e w' ⟨rfl, hc, hv⟩
    refine ⟨rfl, hc.mono (fun j e => by subst e; exact ⟨h2, h4⟩), ⟨some ⟨g, off, none⟩, cap, rfl, fun _ => ⟨g, off, rfl, fun j hj i hi => ?_⟩⟩⟩
    have := hv (j * 2 + i) (by omega)
    rw [← Nat.add_assoc] at this
    rw [this]
    simp only [mk2, Option.some.injEq, Value.int.injEq, true_and]
    omega
  · have e : n = 0 := by omega
    subst e
    refine (mkS_zero ad cap k0 w h0 h1).mono ?_
    rintro e w' ⟨rfl, rfl⟩
    exact ⟨by simp, Chg.refl _ _, ⟨ad, cap, rfl, fun hp => by omega⟩⟩

set_option maxHeartbeats 4000000 in
theorem hdS_any (v : Value) (n : Nat) (k0 : Int) (w : World) (h0 : 0 ≤ k0) (h1 : k0 ≤ 1073741824) (ho : Sr w v 2 n (mk2 k0)) (hl : n ≤ 1048576) :
    Calls Try.prog 62 #[v, .int .i64 k0] w fun e w' => e = .returned (.int .i64 (k0 + 2 * n)) ∧ w' = w := by
  obtain ⟨ad, cap, rfl, ha⟩ := ho
  go_enter Try.func62, Try.ntmps62
  go_wp2
  go_loopw [1, 5] (fun t i wr => ∃ j : Nat, j ≤ n ∧ i = .int .i64 j ∧ t = .int .i64 (k0 + 2 * j) ∧ wr = w) (fun _ i _ => n - (intOf i).toNat)
  case atStart => exact ⟨0, Nat.zero_le _, rfl, by simp, rfl⟩
  case round =>
    obtain ⟨j, hj, rfl, rfl, rfl⟩ := hrel
    by_cases hlt : j < n
    · obtain ⟨p, off, rfl, hc⟩ := ha (by omega)
      have x0 : wr.cell? ⟨p, off + j * 2, none⟩ = some (.int .i64 (k0 + 2 * j)) := by have := hc j hlt 0 (by decide); simpa [mk2] using this
      have x1 : wr.cell? ⟨p, off + j * 2 + 1, none⟩ = some (.int .i64 (k0 + 2 * j + 1)) := by have := hc j hlt 1 (by decide); simpa [mk2] using this
      clear hc ha
      go_wp2
      go_roundw
      case rel => exact ⟨j + 1, by omega, by go_num, by go_num, by first | rfl | trivial⟩
      case measure => simp [intOf]; omega
    · have e : j = n := by omega
      subst e
      go_wp2
      go_ret
      exact ⟨rfl, rfl⟩

end Go.Proofs.Ytcocobmanlmjdaa
