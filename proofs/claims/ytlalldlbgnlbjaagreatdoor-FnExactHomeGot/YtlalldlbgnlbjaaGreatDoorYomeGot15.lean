/- H -/
import Derived.Test.YtlalldlbgnlbjaaGreatDoorYomeGot14
/- l1With; l1Without -/
namespace Go.Proofs.YtlalldlbgnlbjaaGreatDoor
open Go.RowKit

theorem Ow.empty_made (w : World) : Ow (w.alloc (.cells #[] 2)) w.heap.size (.slice (some ⟨w.heap.size, 0, none⟩) 0 0) [] :=
  World.ownsRow_made w #[] 0 (Nat.le_refl _) (by unfold maxLen; omega) rfl

def withP (zs : List Int) (id : Int) (n : Int) : Bool := n == id || zs.contains n

set_option maxHeartbeats 1000000 in
theorem l1With_any (v : Value) (zs : List Int) (id : Int) (w : World) (hs : Sl w v zs) (hl : zs.length ≤ 1048576) :
    Calls Tryz.prog 79 #[v, .int .i64 id] w fun e w' => ∃ u, e = .returned u ∧ Ow w' w.heap.size u (Ids.withId zs id) ∧ Below w.heap.size w w' := by
  obtain ⟨i0, hi, hz0, hz1, hz2⟩ := info_parts Tryz.info2
  go_enter Tryz.func79, Tryz.ntmps79
  go_wp2
  go_loopw [5, 6] (fun t i wr => ∃ k : Nat, k ≤ 5 ∧ i = .int .i64 ((k : Int) + 1) ∧ Ow wr w.heap.size t (upTo (withP zs id) k) ∧ Below w.heap.size w wr) (fun _ i _ => 6 - (intOf i).toNat)
  case atStart => exact ⟨0, Nat.zero_le _, rfl, Ow.empty_made w, (Below.refl _ _).alloc (Nat.le_refl _) _⟩
  case round =>
    obtain ⟨k, hk, rfl, hok, hbk⟩ := hrel
    have hle := upTo_le (withP zs id) k
    by_cases hlt : k < 5
    · have hc5 : decide ((k : Int) + 1 ≤ 5) = true := by simp; omega
      have hsk : Sl wr v zs := hs.below hbk
      have hsz : w.heap.size ≤ wr.heap.size := hbk.size
      by_cases hid : ((k : Int) + 1 == id) = true
      · have HU := hide (upTo_yes (withP zs id) k (by unfold withP; rw [hid]; rfl))
        go_wp2_with (first | (at_builtin; refine wpList_append_own _ rfl _ _ 22 rfl w.heap.size 2 i0 (.int .i64 0) 1 8 Tryz.underlying22 hi hz0 hz1 hz2 rfl (by decide) _ _ _ rfl (World.ownsRow.alloc hok _) _ 1 1 [.int .i64 ((k : Int) + 1)] rfl rfl (cell_one_new _ _ _) (by intro u hu; simp at hu; subst hu; rfl) (by unfold maxLen; omega) (by omega) (by simp; omega) ?_) | (go_at_call 93; refine (has_any v zs _ _ hsk hl).mono ?_; rintro e w' ⟨rfl, rfl⟩))
        intro v' w1 hown' hgrow _
        have R := grow_rel rfl hbk hok hown' hgrow
        rw [← HU.out] at R
        have HR := hide R
        clear hown' hgrow R hok hbk hsk
        go_wp2
        go_roundw
        case rel => exact ⟨k + 1, by omega, by go_num, HR.out.1, HR.out.2⟩
        case measure => simp [intOf]; omega
      · have hid' : ((k : Int) + 1 == id) = false := by simpa using hid
        clear hid
        by_cases hh : hasBl zs ((k : Int) + 1) = true
        · have HU := hide (upTo_yes (withP zs id) k (by unfold withP; rw [hid']; exact hh))
          go_wp2_with (first | (at_builtin; refine wpList_append_own _ rfl _ _ 22 rfl w.heap.size 2 i0 (.int .i64 0) 1 8 Tryz.underlying22 hi hz0 hz1 hz2 rfl (by decide) _ _ _ rfl (World.ownsRow.alloc hok _) _ 1 1 [.int .i64 ((k : Int) + 1)] rfl rfl (cell_one_new _ _ _) (by intro u hu; simp at hu; subst hu; rfl) (by unfold maxLen; omega) (by omega) (by simp; omega) ?_) | (go_at_call 93; refine (has_any v zs _ _ hsk hl).mono ?_; rintro e w' ⟨rfl, rfl⟩))
          intro v' w1 hown' hgrow _
          have R := grow_rel rfl hbk hok hown' hgrow
          rw [← HU.out] at R
          have HR := hide R
          clear hown' hgrow R hok hbk hsk
          go_wp2
          go_roundw
          case rel => exact ⟨k + 1, by omega, by go_num, HR.out.1, HR.out.2⟩
          case measure => simp [intOf]; omega
        · have hh' : hasBl zs ((k : Int) + 1) = false := by simpa using hh
          have HU := hide (upTo_no (withP zs id) k (by unfold withP; rw [hid']; exact hh'))
          clear hh
          go_wp2_with (go_at_call 93; refine (has_any v zs _ _ hsk hl).mono ?_; rintro e w' ⟨rfl, rfl⟩)
          go_roundw
          case rel => exact ⟨k + 1, by omega, by go_num, by rw [HU.out]; exact hok, hbk⟩
          case measure => simp [intOf]; omega
    · have e : k = 5 := by omega
      have HU : Hid (upTo (withP zs id) k = Ids.withId zs id) := hide (by rw [e]; exact upTo_five _)
      have hc5 : decide ((k : Int) + 1 ≤ 5) = false := by simp; omega
      clear e
      go_wp2
      go_ret
      exact ⟨_, rfl, by rw [← HU.out]; exact hok, hbk⟩

/-- those of the first k that are not id -/
def woTo (zs : List Int) (id : Int) (k : Nat) : List Int := (zs.take k).filter fun n => !(n == id)
theorem woTo_le (zs : List Int) (id : Int) (k : Nat) : (woTo zs id k).length ≤ k := by
  have h1 := List.length_filter_le (fun n => !(n == id)) (zs.take k)
  have h2 := List.length_take_le k zs
  unfold woTo
  omega
theorem woTo_yes (zs : List Int) (id : Int) (k : Nat) (hk : k < zs.length) (z : Int) (hz : zs.getD k 0 = z) (h : (z == id) = false) : woTo zs id (k + 1) = woTo zs id k ++ [z] := by
  unfold woTo
  rw [Ids.take_succ_get zs k hk, List.filter_append, hz]
  simp [List.filter, h]
theorem woTo_no (zs : List Int) (id : Int) (k : Nat) (hk : k < zs.length) (z : Int) (hz : zs.getD k 0 = z) (h : (z == id) = true) : woTo zs id (k + 1) = woTo zs id k := by
  unfold woTo
  rw [Ids.take_succ_get zs k hk, List.filter_append, hz]
  simp [List.filter, h]
theorem woTo_end (zs : List Int) (id : Int) : woTo zs id zs.length = Ids.withoutId zs id := by simp [woTo, Ids.withoutId]

set_option maxHeartbeats 1000000 in
theorem l1Without_any (v : Value) (zs : List Int) (id : Int) (w : World) (hs : Sl w v zs) (hl : zs.length ≤ 1048576) :
    Calls Tryz.prog 78 #[v, .int .i64 id] w fun e w' => ∃ u, e = .returned u ∧ Ow w' w.heap.size u (Ids.withoutId zs id) ∧ Below w.heap.size w w' := by
  obtain ⟨ad, cap, rfl, ha⟩ := hs
  obtain ⟨i0, hi, hz0, hz1, hz2⟩ := info_parts Tryz.info2
  obtain ⟨n, hn⟩ : ∃ n, zs.length = n := ⟨_, rfl⟩
  rw [hn] at ha hl ⊢
  have HN := hide hn
  clear hn
  go_enter Tryz.func78, Tryz.ntmps78
  go_wp2
  go_loopw [5, 6] (fun t i wr => ∃ k : Nat, k ≤ n ∧ i = .int .i64 k ∧ Ow wr w.heap.size t (woTo zs id k) ∧ Below w.heap.size w wr) (fun _ i _ => n - (intOf i).toNat)
  case atStart => exact ⟨0, Nat.zero_le _, rfl, Ow.empty_made w, (Below.refl _ _).alloc (Nat.le_refl _) _⟩
  case round =>
    obtain ⟨k, hk, rfl, hok, hbk⟩ := hrel
    have hle := woTo_le zs id k
    by_cases hlt : k < n
    · have hsz : w.heap.size ≤ wr.heap.size := hbk.size
      obtain ⟨p, off, rfl, hc⟩ := ha (by omega)
      have hck : wr.cell? ⟨p, off + k, none⟩ = some (.int .i64 (zs.getD k 0)) := Below.keep hbk _ _ (hc k hlt)
      obtain ⟨z, hz⟩ : ∃ z, zs.getD k 0 = z := ⟨_, rfl⟩
      rw [hz] at hck
      by_cases hid : (z == id) = true
      · have HU := hide (woTo_no zs id k (by rw [HN.out]; exact hlt) z hz hid)
        have hne : (z != id) = false := by simp [bne, hid]
        clear hz hc ha
        go_wp2
        go_roundw
        case rel => exact ⟨k + 1, by omega, by go_num, by rw [HU.out]; exact hok, hbk⟩
        case measure => simp [intOf]; omega
      · have hid' : (z == id) = false := by simpa using hid
        have HU := hide (woTo_yes zs id k (by rw [HN.out]; exact hlt) z hz hid')
        have hne : (z != id) = true := by simp [bne, hid']
        clear hid hz hc ha
        go_wp2_with (at_builtin; refine wpList_append_own _ rfl _ _ 22 rfl w.heap.size 2 i0 (.int .i64 0) 1 8 Tryz.underlying22 hi hz0 hz1 hz2 rfl (by decide) _ _ _ rfl (World.ownsRow.alloc hok _) _ 1 1 [.int .i64 z] rfl rfl (cell_one_new _ _ _) (by intro u hu; simp at hu; subst hu; rfl) (by unfold maxLen; omega) (by omega) (by simp; omega) ?_)
        intro v' w1 hown' hgrow _
        have R := grow_rel rfl hbk hok hown' hgrow
        rw [← HU.out] at R
        have HR := hide R
        clear hown' hgrow R hok hbk hck
        go_wp2
        go_roundw
        case rel => exact ⟨k + 1, by omega, by go_num, HR.out.1, HR.out.2⟩
        case measure => simp [intOf]; omega
    · have e : k = n := by omega
      have HU : Hid (woTo zs id k = Ids.withoutId zs id) := hide (by rw [e, ← HN.out]; exact woTo_end _ _)
      clear e
      go_wp2
      go_ret
      exact ⟨_, rfl, by rw [← HU.out]; exact hok, hbk⟩

end Go.Proofs.YtlalldlbgnlbjaaGreatDoor
