/- B, C -/
import Derived.Test.YtlalldlbgnlbjaaGreatDoorYomeGot10
import Derived.Deep.QuietTactic
import Derived.BigQuiet
/- toInt64S: a copy in new memory -/
namespace Go.Proofs.YtlalldlbgnlbjaaGreatDoor
open Go.RowKit

def part (zs : List Int) (k : Nat) : List Int := zs.take k ++ List.replicate (zs.length - k) 0
theorem part_zero (zs : List Int) : part zs 0 = List.replicate zs.length 0 := by simp [part]
theorem part_end (zs : List Int) : part zs zs.length = zs := by simp [part]
theorem part_length (zs : List Int) (k : Nat) (h : k ≤ zs.length) : (part zs k).length = zs.length := by simp [part]; omega
theorem part_set (zs : List Int) (k : Nat) (h : k < zs.length) : (part zs k).set k (zs.getD k 0) = part zs (k + 1) := by
  apply List.ext_getElem?
  intro j
  simp only [part, List.getElem?_set, List.getElem?_append, List.length_take, List.getElem?_take, List.getElem?_replicate, List.length_append, List.length_replicate, List.getD_eq_getElem?_getD]
  by_cases e : k = j
  · subst e
    have h1 : k < min (k + 1) zs.length := by omega
    have h2 : k < min k zs.length + (zs.length - k) := by omega
    simp [h, h1, h2]
  · by_cases hj : j < k
    · have h1 : j < min k zs.length := by omega
      have h2 : j < min (k + 1) zs.length := by omega
      have h3 : j < k + 1 := by omega
      simp [e, hj, h1, h2, h3]
    · have h1 : ¬ j < min k zs.length := by omega
      have h2 : ¬ j < min (k + 1) zs.length := by omega
      simp only [e, h1, h2, if_false]
      have e1 : min k zs.length = k := by omega
      have e2 : min (k + 1) zs.length = k + 1 := by omega
      rw [e1, e2]
      by_cases h4 : j < zs.length
      · rw [if_pos (by omega), if_pos (by omega)]
      · rw [if_neg (by omega), if_neg (by omega)]

theorem copy_start {w w' : World} {n : Nat} {zs : List Int} (hn : zs.length = n) (ho : w'.ownsRow w.heap.size 2 1 (.slice (some ⟨w.heap.size, 0, none⟩) n n) n (madeCells (Value.int .i64 0).cells (n * 1)).toList) :
    Ow w' w.heap.size (.slice (some ⟨w.heap.size, 0, none⟩) n n) (part zs 0) := by
  have e : (madeCells (Value.int .i64 0).cells (n * 1)).toList = List.replicate n (Value.int .i64 0) := by
    have := toList_madeCells_one (Value.int .i64 0) (n * 1)
    rw [Nat.mul_one] at this
    simpa [Value.cells] using this
  unfold Ow
  rw [part_zero, List.length_replicate, hn, List.map_replicate, ← e]
  exact ho

theorem copy_step {w : World} {base g n k : Nat} {zs : List Int} (hn : zs.length = n) (hk : k < n) (ho : Ow w base (.slice (some ⟨g, 0, none⟩) n n) (part zs k)) :
    Ow (w.setCell ⟨g, k, none⟩ (.int .i64 (zs.getD k 0))) base (.slice (some ⟨g, 0, none⟩) n n) (part zs (k + 1)) := by
  unfold Ow at *
  rw [part_length zs k (by omega), hn] at ho
  rw [part_length zs (k + 1) (by omega), hn, ← part_set zs k (by omega), List.map_set]
  exact (ho.stored k _).1

set_option maxHeartbeats 400000 in
theorem copy_any (v : Value) (zs : List Int) (w : World) (hs : Sl w v zs) (hb : zs.length ≤ 1048576) :
    Calls Tryz.prog 29 #[v] w fun e w' => ∃ u, e = .returned u ∧ Ow w' w.heap.size u zs ∧ Below w.heap.size w w' ∧ (∃ g, u = .slice (some ⟨g, 0, none⟩) zs.length zs.length) := by
  obtain ⟨ad, cap, rfl, hs⟩ := hs
  obtain ⟨i0, hi, hz0, hz1, hz2⟩ := info_parts Tryz.info2
  obtain ⟨n, hn⟩ : ∃ n, zs.length = n := ⟨_, rfl⟩
  rw [hn] at hs hb ⊢
  have HN := hide hn
  clear hn
  go_enter Tryz.func29, Tryz.ntmps29
  go_wp2_with (at_make; refine wpList_make_full _ rfl _ _ 22 rfl w.heap.size 2 i0 (.int .i64 0) 1 Tryz.underlying22 hi hz0 hz1 .i64 .i64 n n n rfl rfl rfl rfl (by rw [hz2]; omega) (by unfold maxLen; omega) (Nat.le_refl _) ?_; intro w1 ho1 hg1)
  have ho := copy_start (unhide HN) ho1
  have hb1 : Below w.heap.size w w1 := (Below.refl _ _).grown hg1 (Nat.le_refl _) (fun k hk => by cases hk)
  clear ho1 hg1
  go_loopw [4] (fun i wr => ∃ k : Nat, k ≤ n ∧ i = .int .i64 k ∧ Ow wr w.heap.size (.slice (some ⟨w.heap.size, 0, none⟩) n n) (part zs k) ∧ Below w.heap.size w wr) (fun i _ => n - (intOf i).toNat)
  case atStart => exact ⟨0, Nat.zero_le _, rfl, ho, hb1⟩
  case round =>
    obtain ⟨k, hk, rfl, hok, hbk⟩ := hrel
    clear ho hb1
    by_cases hlt : k < n
    · obtain ⟨b, off, rfl, hc⟩ := hs (by omega)
      have hck : wr.cell? ⟨b, off + k, none⟩ = some (.int .i64 (zs.getD k 0)) := Below.keep hbk _ _ (hc k hlt)
      have hf : wr.frozen? ⟨w.heap.size, k, none⟩ = false := by
        have h := hok
        unfold Ow at h
        rw [part_length zs k (by rw [unhide HN]; exact hk), unhide HN] at h
        exact h.frozenAt k
      have hold : ∃ o, wr.cell? ⟨w.heap.size, k, none⟩ = some o := by
        have h := hok
        unfold Ow at h
        rw [part_length zs k (by rw [unhide HN]; exact hk), unhide HN] at h
        have h1 := h.cellAt k (by omega)
        have h2 : k < ((part zs k).map (Value.int .i64)).length := by rw [List.length_map, part_length zs k (by rw [unhide HN]; exact hk), unhide HN]; exact hlt
        rw [List.getElem?_eq_getElem h2] at h1
        exact ⟨_, h1⟩
      obtain ⟨o, hold⟩ := hold
      have hnew := copy_step (unhide HN) hlt hok
      have hbn : Below w.heap.size w (wr.setCell ⟨w.heap.size, k, none⟩ (.int .i64 (zs.getD k 0))) := hbk.setCell (Nat.le_refl _) _
      have HB := hide (And.intro hnew hbn)
      clear hnew hbn hok hbk hs hc
      go_wp2
      go_roundw
      case rel => exact ⟨k + 1, by omega, by go_num, HB.out.1, HB.out.2⟩
      case measure => simp [intOf]; omega
    · go_wp2
      go_ret
      have : k = n := by omega
      subst this
      refine ⟨_, rfl, ?_, hbk, _, rfl⟩
      have e := part_end zs
      rw [unhide HN] at e
      rw [e] at hok
      exact hok

end Go.Proofs.YtlalldlbgnlbjaaGreatDoor

/- eqInt64S of two equal ones; spec.IdsOk; impl.bitsOf, impl.IdsOk -/
namespace Go.Proofs.YtlalldlbgnlbjaaGreatDoor
open Go.RowKit

set_option maxHeartbeats 400000 in
theorem eq_same (a b : Value) (zs : List Int) (w : World) (ha : Sl w a zs) (hb : Sl w b zs) (hl : zs.length ≤ 1048576) :
    Calls Tryz.prog 34 #[a, b] w fun e w' => e = .returned (.bool true) ∧ Below w.heap.size w w' := by
  obtain ⟨ad, cap, rfl, ha⟩ := ha
  obtain ⟨bd, cbp, rfl, hb⟩ := hb
  obtain ⟨n, hn⟩ : ∃ n, zs.length = n := ⟨_, rfl⟩
  rw [hn] at ha hb hl ⊢
  clear hn
  go_enter Tryz.func34, Tryz.ntmps34
  go_wp2
  go_loopw [5] (fun i wr => ∃ k : Nat, k ≤ n ∧ i = .int .i64 k ∧ Below w.heap.size w wr) (fun i _ => n - (intOf i).toNat)
  case atStart => exact ⟨0, Nat.zero_le _, rfl, Below.refl _ _⟩
  case round =>
    obtain ⟨k, hk, rfl, hbk⟩ := hrel
    by_cases hlt : k < n
    · obtain ⟨p, off, rfl, hc⟩ := ha (by omega)
      obtain ⟨q, off', rfl, hd⟩ := hb (by omega)
      have hck : wr.cell? ⟨p, off + k, none⟩ = some (.int .i64 (zs.getD k 0)) := Below.keep hbk _ _ (hc k hlt)
      have hdk : wr.cell? ⟨q, off' + k, none⟩ = some (.int .i64 (zs.getD k 0)) := Below.keep hbk _ _ (hd k hlt)
      generalize zs.getD k 0 = z at hck hdk
      clear hc hd ha hb
      go_wp2
      go_quiet (fail)
      all_goals go_wp2
      all_goals go_roundw
      case rel => exact ⟨k + 1, by omega, by go_num, below_drewN hbk _⟩
      case measure => simp [intOf]; omega
    · go_wp2
      go_ret
      exact ⟨rfl, hbk⟩

end Go.Proofs.YtlalldlbgnlbjaaGreatDoor
