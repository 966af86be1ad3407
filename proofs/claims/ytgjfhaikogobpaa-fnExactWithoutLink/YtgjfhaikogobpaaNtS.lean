/- nets: marked, and the marks found -/
import Derived.Test.YtgjfhaikogobpaaNtI
namespace Go.Proofs.Ytgjfhaikogobpaa
open Go.RowKit
set_option linter.unusedVariables false
set_option linter.unusedSimpArgs false

/-- a row's first c cells are marked from k0 on -/
def Mk (w : World) (g : Nat) (k0 : Int) (c : Nat) : Prop := ∀ x, x < c → w.cell? ⟨g, x, none⟩ = some (.int .i64 (k0 + x))
theorem Mk.set {w : World} {g : Nat} {k0 : Int} {c : Nat} (h : Mk w g k0 c) (hc : ∃ o, w.cell? ⟨g, c, none⟩ = some o) : Mk (w.setCell ⟨g, c, none⟩ (.int .i64 (k0 + c))) g k0 (c + 1) := by
  intro x hx
  by_cases e : x = c
  · subst e
    obtain ⟨o, ho⟩ := hc
    exact World.cell?_setCell_same' _ _ _ (by rw [ho]; rfl)
  · rw [far_set (by omega)]; exact h x (by omega)


theorem ret_i' {a b : Int} (h : a = b) : Ending.returned (.int .i64 a) = .returned (.int .i64 b) := by rw [h]
structure Mg (w wr : World) (g n : Nat) (k0 : Int) (c : Nat) : Prop where
  ch : Chg (· = g) w wr
  wc : 0 < n → Wc wr g (n * 2)
  ms : Mk wr g k0 c
theorem Mg.set {w wr : World} {g n : Nat} {k0 : Int} {c : Nat} (h : Mg w wr g n k0 c) (hc : c < n * 2) : Mg w (wr.setCell ⟨g, c, none⟩ (.int .i64 (k0 + c))) g n k0 (c + 1) :=
  ⟨h.ch.set rfl _, fun hp => (h.wc hp).set _, h.ms.set ((h.wc (by omega)).facts.2 c hc)⟩

set_option maxHeartbeats 2000000 in
theorem markA2_any (ad : Option Addr) (g n cap : Nat) (k0 : Int) (w : World) (h0 : 0 ≤ k0) (h1 : k0 ≤ 1073741824) (hn : n ≤ 1048576) (had : 0 < n → ad = some ⟨g, 0, none⟩) (hw : 0 < n → Wc w g (n * 2)) :
    Calls Try.prog 41 #[.slice ad n cap, .int .i64 k0] w fun e w' => e = .returned (.int .i64 (k0 + ((n * 2 : Nat) : Int))) ∧ Mg w w' g n k0 (n * 2) := by
  go_enter Try.func41, Try.ntmps41
  go_wp2
  go_loopw [1, 5] (fun t i wr => ∃ k : Nat, k ≤ n ∧ i = .int .i64 k ∧ t = .int .i64 (k0 + ((k * 2 : Nat) : Int)) ∧ Hid (Mg w wr g n k0 (k * 2))) (fun _ i _ => n - (intOf i).toNat)
  case atStart => exact ⟨0, Nat.zero_le _, rfl, by simp, hide ⟨Chg.refl _ _, hw, fun x hx => by omega⟩⟩
  case round =>
    obtain ⟨k, hk, rfl, rfl, HM⟩ := hrel
    by_cases hlt : k < n
    · have had2 := had (by omega)
      subst had2
      clear had
      go_wp2
      go_loopw [1, 6] (fun t i wr => ∃ j : Nat, j ≤ 2 ∧ i = .int .i64 j ∧ t = .int .i64 (k0 + ((k * 2 + j : Nat) : Int)) ∧ Hid (Mg w wr g n k0 (k * 2 + j))) (fun _ i _ => 2 - (intOf i).toNat)
      case atStart => exact ⟨0, Nat.zero_le _, rfl, rfl, HM⟩
      case round =>
        obtain ⟨j, hj, rfl, rfl, HM2⟩ := hrel
        clear HM
        by_cases hj2 : j < 2
        · have hx : k * 2 + j < n * 2 := by omega
          obtain ⟨fr, hc⟩ := (HM2.out.wc (by omega)).facts
          obtain ⟨o, ho⟩ := hc _ hx
          have fr2 := fr (k * 2 + j)
          have HM3 := hide (HM2.out.set hx)
          have hwr : wrap64 (k0 + ((k * 2 + j : Nat) : Int) + 1) = k0 + ((k * 2 + (j + 1) : Nat) : Int) := by rw [Go.IntWalk.wrap64_in _ (by omega)]; omega
          have hj0 : (0 : Int) ≤ (j : Int) := by omega
          have hj3 : (j : Int) < 2 := by omega
          clear hc fr HM2
          obtain ⟨z, hz⟩ : ∃ z, k0 + ((k * 2 + j : Nat) : Int) = z := ⟨_, rfl⟩
          rw [hz] at hwr HM3 ⊢
          clear hz
          go_wp2
          go_roundw
          case rel => exact ⟨j + 1, by omega, by go_num, by rw [hwr], HM3⟩
          case measure => simp [intOf]; omega
        · have e : j = 2 := by omega
          have HM3 : Hid (Mg w wr g n k0 ((k + 1) * 2) ∧ k0 + ((k * 2 + j : Nat) : Int) = k0 + (((k + 1) * 2 : Nat) : Int)) := hide ⟨by rw [show (k + 1) * 2 = k * 2 + j by omega]; exact HM2.out, by omega⟩
          have hd2 : decide ((j : Int) < 2) = false := by simp; omega
          clear HM2 e
          go_wp2
          go_roundw
          case rel => exact ⟨k + 1, by omega, by go_num, by rw [HM3.out.2], hide HM3.out.1⟩
          case measure => simp [intOf]; omega
    · have e : k = n := by omega
      have HX : Hid (k0 + ((k * 2 : Nat) : Int) = k0 + ((n * 2 : Nat) : Int) ∧ Mg w wr g n k0 (n * 2)) := hide ⟨by rw [e], by subst e; exact HM.out⟩
      clear e HM
      go_wp2
      go_ret
      exact ⟨ret_i' HX.out.1, HX.out.2⟩

set_option maxHeartbeats 2000000 in
theorem heldA2_any (ad : Option Addr) (g n cap : Nat) (k0 : Int) (w : World) (h0 : 0 ≤ k0) (h1 : k0 ≤ 1073741824) (hn : n ≤ 1048576) (had : 0 < n → ad = some ⟨g, 0, none⟩) (hm : Mk w g k0 (n * 2)) :
    Calls Try.prog 45 #[.slice ad n cap, .int .i64 k0] w fun e w' => e = .returned (.int .i64 (k0 + ((n * 2 : Nat) : Int))) ∧ w' = w := by
  have HM := hide hm
  clear hm
  go_enter Try.func45, Try.ntmps45
  go_wp2
  go_loopw [1, 5] (fun t i wr => ∃ k : Nat, k ≤ n ∧ i = .int .i64 k ∧ t = .int .i64 (k0 + ((k * 2 : Nat) : Int)) ∧ wr = w) (fun _ i _ => n - (intOf i).toNat)
  case atStart => exact ⟨0, Nat.zero_le _, rfl, by simp, rfl⟩
  case round =>
    obtain ⟨k, hk, rfl, rfl, rfl⟩ := hrel
    by_cases hlt : k < n
    · have had2 := had (by omega)
      subst had2
      clear had
      go_wp2
      go_loopw [1, 6] (fun t i wr2 => ∃ j : Nat, j ≤ 2 ∧ i = .int .i64 j ∧ t = .int .i64 (k0 + ((k * 2 + j : Nat) : Int)) ∧ wr2 = wr) (fun _ i _ => 2 - (intOf i).toNat)
      case atStart => exact ⟨0, Nat.zero_le _, rfl, rfl, rfl⟩
      case round =>
        obtain ⟨j, hj, rfl, rfl, rfl⟩ := hrel
        by_cases hj2 : j < 2
        · have hx : k * 2 + j < n * 2 := by omega
          have hc := HM.out _ hx
          have hwr : wrap64 (k0 + ((k * 2 + j : Nat) : Int) + 1) = k0 + ((k * 2 + (j + 1) : Nat) : Int) := by rw [Go.IntWalk.wrap64_in _ (by omega)]; omega
          have hj0 : (0 : Int) ≤ (j : Int) := by omega
          have hj3 : (j : Int) < 2 := by omega
          obtain ⟨z, hz⟩ : ∃ z, k0 + ((k * 2 + j : Nat) : Int) = z := ⟨_, rfl⟩
          rw [hz] at hwr hc ⊢
          clear hz
          go_wp2
          go_roundw
          case rel => exact ⟨j + 1, by omega, by go_num, by rw [hwr], trivial⟩
          case measure => simp [intOf]; omega
        · have e : j = 2 := by omega
          have HM3 : Hid (k0 + ((k * 2 + j : Nat) : Int) = k0 + (((k + 1) * 2 : Nat) : Int)) := hide (by omega)
          have hd2 : decide ((j : Int) < 2) = false := by simp; omega
          clear e
          go_wp2
          go_roundw
          case rel => exact ⟨k + 1, by omega, by go_num, by rw [HM3.out], trivial⟩
          case measure => simp [intOf]; omega
    · have e : k = n := by omega
      have HX : Hid (k0 + ((k * 2 : Nat) : Int) = k0 + ((n * 2 : Nat) : Int)) := hide (by rw [e])
      clear e
      go_wp2
      go_ret
      exact ⟨ret_i' HX.out, rfl⟩

set_option maxHeartbeats 1000000 in
theorem markNet_any (N : Int) (ad : Option Addr) (g n cap : Nat) (k0 : Int) (w : World) (h0 : 0 ≤ k0) (h1 : k0 ≤ 1073741824) (hn : n ≤ 1048576) (had : 0 < n → ad = some ⟨g, 0, none⟩) (hw : 0 < n → Wc w g (n * 2)) :
    Calls Try.prog 21 #[.agg (nt N (.slice ad n cap)), .int .i64 k0] w fun e w' => e = .returned (.int .i64 (k0 + ((n * 2 : Nat) : Int))) ∧ Mg w w' g n k0 (n * 2) := by
  have hA : Below w.heap.size w (w.alloc (.cells (nt N (.slice ad n cap)) 27)) := (Below.refl _ _).alloc (Nat.le_refl _) _
  have HC : Hid (Chg (· = g) w (w.alloc (.cells (nt N (.slice ad n cap)) 27))) := hide ((Chg.refl _ _).alloc _)
  have hM := markA2_any ad g n cap k0 (w.alloc (.cells (nt N (.slice ad n cap)) 27)) h0 h1 hn had (fun hp => (hw hp).below hA)
  clear hA
  go_enter Try.func21, Try.ntmps21
  go_wp2_with fail
  refine hM.mono ?_
  rintro e w1 ⟨rfl, h2⟩
  have HM2 : Hid (Mg w w1 g n k0 (n * 2)) := hide ⟨HC.out.trans h2.ch, h2.wc, h2.ms⟩
  clear h2 hM
  obtain ⟨z, hz⟩ : ∃ z, k0 + ((n * 2 : Nat) : Int) = z := ⟨_, rfl⟩
  rw [hz]
  have HZ := hide hz
  clear hz
  go_wp2
  go_ret
  exact ⟨ret_i' HZ.out.symm, HM2.out⟩
set_option maxHeartbeats 1000000 in
theorem heldNet_any (N : Int) (ad : Option Addr) (g n cap : Nat) (k0 : Int) (w : World) (h0 : 0 ≤ k0) (h1 : k0 ≤ 1073741824) (hn : n ≤ 1048576) (had : 0 < n → ad = some ⟨g, 0, none⟩) (hm : Mk w g k0 (n * 2)) :
    Calls Try.prog 26 #[.agg (nt N (.slice ad n cap)), .int .i64 k0] w fun e w' => e = .returned (.int .i64 (k0 + ((n * 2 : Nat) : Int))) ∧ Below w.heap.size w w' := by
  have hA : Below w.heap.size w (w.alloc (.cells (nt N (.slice ad n cap)) 27)) := (Below.refl _ _).alloc (Nat.le_refl _) _
  have hM := heldA2_any ad g n cap k0 (w.alloc (.cells (nt N (.slice ad n cap)) 27)) h0 h1 hn had (fun x hx => keepc hA (hm x hx))
  have hz0 : 0 ≤ k0 + ((n * 2 : Nat) : Int) := by omega
  generalize k0 + ((n * 2 : Nat) : Int) = z at hM hz0 ⊢
  have hzd : decide (z < 0) = false := by simpa using hz0
  go_enter Try.func26, Try.ntmps26
  go_wp2_with fail
  refine hM.mono ?_
  rintro e w1 ⟨rfl, rfl⟩
  clear hM
  go_wp2
  go_ret
  exact ⟨rfl, hA⟩

theorem Ow.chg {S : Nat → Prop} {w w' : World} {base : Nat} {v : Value} {zs : List Int} (h : Ow w base v zs) (hc : Chg S w w') (hne : ∀ j, v.ownBlock = some j → ¬ S j) : Ow w' base v zs := by
  have hlt := fun j hj => (World.ownsRow.lt h j hj).2
  obtain ⟨h1, h2⟩ := h
  refine ⟨h1, ?_⟩
  rcases h2 with h2 | ⟨g, cap, cur, e, hb, hg, r⟩
  · exact .inl h2
  · subst e
    exact .inr ⟨g, cap, cur, rfl, hb, (hc.block g (lt_of_block hg) (hne g rfl)).trans hg, r⟩
theorem Orow.wc {w : World} {base : Nat} {T : TypeId} {g n : Nat} {f : Nat → Nat → Int} (h : Orow w base T 2 (fl g n) n n f) (hp : 0 < n) : Wc w g (n * 2) := by
  unfold Orow at h
  rcases h.2 with ⟨e, hn⟩ | ⟨g', cap, cur, e, hb, hg, hnc, hcm, hcs, _⟩
  · omega
  · simp only [fl, Value.slice.injEq, Option.some.injEq, Addr.mk.injEq] at e
    obtain ⟨⟨rfl, _, _⟩, _, rfl⟩ := e
    exact ⟨cur, T, hg, by omega⟩

end Go.Proofs.Ytgjfhaikogobpaa
