/- markInt64S, heldInt64S, l1Has -/
import Derived.Test.YtcocobmanlmjdaaC
namespace Go.Proofs.Ytcocobmanlmjdaa
open Go.RowKit

/-- marked up to j -/
def mpart (k0 : Int) (xs : List Int) (j : Nat) : List Int := marks k0 j ++ xs.drop j
theorem mpart_length (k0 : Int) (xs : List Int) (j : Nat) (h : j ≤ xs.length) : (mpart k0 xs j).length = xs.length := by simp [mpart, marks_length]; omega
theorem mpart_end (k0 : Int) (xs : List Int) : mpart k0 xs xs.length = marks k0 xs.length := by simp [mpart]
theorem mpart_set (k0 : Int) (xs : List Int) (j : Nat) (h : j < xs.length) : (mpart k0 xs j).set j (k0 + j) = mpart k0 xs (j + 1) := by
  apply List.ext_getElem?
  intro i
  simp only [mpart, List.getElem?_set, List.getElem?_append, marks_length, List.length_append, List.length_drop, List.getElem?_drop]
  by_cases e : j = i
  · subst e
    have h1 : j < j + (xs.length - j) := by omega
    simp [h1, marks]
  · by_cases hj : i < j
    · have h1 : i < j + 1 := by omega
      simp [e, hj, h1, marks]
    · have h1 : ¬ i < j + 1 := by omega
      simp only [e, hj, h1, if_false]
      congr 1
      omega

theorem mark_step {w : World} {base g n cap j : Nat} {k0 : Int} {xs : List Int} (hn : xs.length = n) (hj : j < n) (ho : Ow w base (.slice (some ⟨g, 0, none⟩) n cap) (mpart k0 xs j)) :
    Ow (w.setCell ⟨g, j, none⟩ (.int .i64 (k0 + j))) base (.slice (some ⟨g, 0, none⟩) n cap) (mpart k0 xs (j + 1)) ∧ w.grownBy (w.setCell ⟨g, j, none⟩ (.int .i64 (k0 + j))) (some g) ∧
      w.frozen? ⟨g, j, none⟩ = false ∧ ∃ o, w.cell? ⟨g, j, none⟩ = some o := by
  unfold Ow at *
  rw [mpart_length k0 xs j (by omega), hn] at ho
  refine ⟨?_, (ho.stored j _).2, ho.frozenAt j, ?_⟩
  · rw [mpart_length k0 xs (j + 1) (by omega), hn, ← mpart_set k0 xs j (by omega), List.map_set]
    exact (ho.stored j _).1
  · have h1 := ho.cellAt j (by omega)
    have h2 : j < ((mpart k0 xs j).map (Value.int .i64)).length := by rw [List.length_map, mpart_length k0 xs j (by omega), hn]; exact hj
    rw [List.getElem?_eq_getElem h2] at h1
    exact ⟨_, h1⟩

set_option maxHeartbeats 1000000 in
theorem mark_any (v : Value) (xs : List Int) (base : Nat) (k0 : Int) (w : World) (h0 : 0 ≤ k0) (h1 : k0 ≤ 1073741824) (ho : Ow w base v xs) (hl : xs.length ≤ 1048576) :
    Calls Try.prog 16 #[v, .int .i64 k0] w fun e w' => e = .returned (.int .i64 (k0 + xs.length)) ∧ Ow w' base v (marks k0 xs.length) ∧ w.grownBy w' v.ownBlock := by
  obtain ⟨ad, cap, rfl, ha⟩ := ho.form
  obtain ⟨n, hn⟩ : ∃ n, xs.length = n := ⟨_, rfl⟩
  rw [hn] at ha hl ho ⊢
  have HN := hide hn
  clear hn
  go_enter Try.func16, Try.ntmps16
  go_wp2
  go_loopw [1, 5] (fun t i wr => ∃ j : Nat, j ≤ n ∧ i = .int .i64 j ∧ t = .int .i64 (k0 + j) ∧ Ow wr base (.slice ad n cap) (mpart k0 xs j) ∧ w.grownBy wr (Value.slice ad n cap).ownBlock) (fun _ i _ => n - (intOf i).toNat)
  case atStart => exact ⟨0, Nat.zero_le _, rfl, by simp, by simpa [mpart, marks] using ho, World.grownBy.refl _ _⟩
  case round =>
    obtain ⟨j, hj, rfl, rfl, hoj, hgj⟩ := hrel
    clear ho
    by_cases hlt : j < n
    · obtain ⟨g, rfl⟩ := ha (by omega)
      obtain ⟨hs1, hs2, hfz, o, hold⟩ := mark_step HN.out hlt hoj
      have HB := hide (And.intro hs1 (grown_trans hgj hs2))
      clear hs1 hs2 hoj hgj ha
      go_wp2
      go_roundw
      case rel => exact ⟨j + 1, by omega, by go_num, by go_num, HB.out.1, HB.out.2⟩
      case measure => simp [intOf]; omega
    · have e : j = n := by omega
      subst e
      go_wp2
      go_ret
      refine ⟨rfl, ?_, hgj⟩
      have h2 := mpart_end k0 xs
      rw [HN.out] at h2
      rw [← h2]
      exact hoj

set_option maxHeartbeats 1000000 in
theorem held_any (v : Value) (n : Nat) (k0 : Int) (w : World) (h0 : 0 ≤ k0) (h1 : k0 ≤ 1073741824) (ho : Sl w v (marks k0 n)) (hl : n ≤ 1048576) :
    Calls Try.prog 40 #[v, .int .i64 k0] w fun e w' => e = .returned (.int .i64 (k0 + n)) ∧ w' = w := by
  obtain ⟨ad, cap, rfl, ha⟩ := ho
  rw [marks_length] at ha ⊢
  go_enter Try.func40, Try.ntmps40
  go_wp2
  go_loop [1, 5] (fun t i => ∃ j : Nat, j ≤ n ∧ i = .int .i64 j ∧ t = .int .i64 (k0 + j)) (fun _ i => n - (intOf i).toNat)
  case atStart => exact ⟨0, Nat.zero_le _, rfl, by simp⟩
  case round =>
    obtain ⟨j, hj, rfl, rfl⟩ := hrel
    by_cases hlt : j < n
    · obtain ⟨p, off, rfl, hc⟩ := ha (by omega)
      have hcj := hc j hlt
      rw [marks_get k0 n j hlt] at hcj
      clear hc ha
      go_wp2
      go_round
      case rel => exact ⟨j + 1, by omega, by go_num, by go_num⟩
      case measure => simp [intOf]; omega
    · have e : j = n := by omega
      subst e
      go_wp2
      go_ret
      exact ⟨rfl, rfl⟩

end Go.Proofs.Ytcocobmanlmjdaa
