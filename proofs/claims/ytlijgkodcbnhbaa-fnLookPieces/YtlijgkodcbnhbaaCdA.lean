/- the reader's addrs -/
import Derived.Test.YtlijgkodcbnhbaaRdE
import Derived.Test.YtlijgkodcbnhbaaA
import Derived.Laws.OwnMore
import Derived.Maps.AppendAt
namespace Go.Proofs.Ytlijgkodcbnhbaa
open Go.RowKit
set_option linter.unusedVariables false
set_option linter.unusedSimpArgs false

theorem Ow.empty_made (w : World) : Ow (w.alloc (.cells #[] 2)) w.heap.size (.slice (some ⟨w.heap.size, 0, none⟩) 0 0) [] :=
  World.ownsRow_made w #[] 0 (Nat.le_refl _) (by unfold maxLen; omega) rfl
theorem Ow.snoc {w : World} {base : Nat} {v : Value} {zs : List Int} {x : Int} (h : w.ownsRow base 2 1 v (zs.length + 1) (zs.map (Value.int .i64) ++ [.int .i64 x])) : Ow w base v (zs ++ [x]) := by
  unfold Ow
  simpa using h
theorem grown_young {w wr w2 : World} {g : Nat} {row : Option Nat} (h : w.grownBy wr (some g)) (k : wr.grownBy w2 row) (hr : ∀ j, row = some j → w.heap.size ≤ j) : w.grownBy w2 (some g) :=
  ⟨k.os.trans h.os, k.tape.trans h.tape, k.output.trans h.output, Nat.le_trans h.size k.size, fun j hj hne => (k.block j (Nat.lt_of_lt_of_le hj h.size) (fun e => by have := hr j e.symm; omega)).trans (h.block j hj hne)⟩
/-- the reader's steps leave what the call owns -/
theorem Ow.read {w w' : World} {base g : Nat} {v : Value} {zs : List Int} (h : Ow w base v zs) (hg : w.grownBy w' (some g)) (hlt : g < base) : Ow w' base v zs := by
  refine World.ownsRow.kept h hg ?_
  cases hv : v.ownBlock with
  | none => exact .inl rfl
  | some k =>
    refine .inr fun e => ?_
    have h1 := World.ownsRow.lt h k hv
    simp only [Option.some.injEq] at e
    omega
/-- one element appended, beside a reader -/
theorem grow_read {w wr w1 : World} {g : Nat} {v v' : Value} {zs : List Int} {x : Int} (hlt : g < w.heap.size) (hr : Rdr wr g) (hg : w.grownBy wr (some g)) (hown : Ow wr w.heap.size v zs)
    (hown' : w1.ownsRow w.heap.size 2 1 v' (zs.length + 1) (zs.map (Value.int .i64) ++ [.int .i64 x])) (hgr : (wr.alloc (.cells #[.int .i64 x] 2)).grownBy w1 v.ownBlock) : Ow w1 w.heap.size v' (zs ++ [x]) ∧ Rdr w1 g ∧ w.grownBy w1 (some g) := by
  have hb : ∀ k, v.ownBlock = some k → w.heap.size ≤ k := fun k hk => (World.ownsRow.lt hown k hk).1
  refine ⟨Ow.snoc hown', (hr.grown (grown_alloc _ _ none) (fun k hk => by cases hk)).grown hgr (fun k hk => by have := hb k hk; omega), ?_⟩
  exact grown_young (grown_trans hg (grown_alloc _ _ _)) hgr hb
theorem Ow.set0 {w : World} {base g n cap : Nat} {zs : List Int} (hn : zs.length = n) (h : Ow w base (.slice (some ⟨g, 0, none⟩) n cap) zs) (c : Int) (hp : 0 < n) :
    Ow (w.setCell ⟨g, 0, none⟩ (.int .i64 c)) base (.slice (some ⟨g, 0, none⟩) n cap) (zs.set 0 c) ∧ w.grownBy (w.setCell ⟨g, 0, none⟩ (.int .i64 c)) (some g) ∧ w.frozen? ⟨g, 0, none⟩ = false ∧ ∃ o, w.cell? ⟨g, 0, none⟩ = some o := by
  unfold Ow at *
  rw [hn] at h
  refine ⟨?_, (h.stored 0 _).2, h.frozenAt 0, ?_⟩
  · rw [List.length_set, hn, List.map_set]; exact (h.stored 0 _).1
  · have h1 := h.cellAt 0 (by omega)
    have h2 : 0 < (zs.map (Value.int .i64)).length := by simp; omega
    rw [List.getElem?_eq_getElem h2] at h1
    exact ⟨_, h1⟩

set_option maxHeartbeats 2000000 in
theorem addrs_any (g most : Nat) (w : World) (h : Rdr w g) (hm : most ≤ 50) :
    Calls Try.prog 12 #[.pointer (some ⟨g, 0, none⟩), .int .i64 most] w fun e w' => ∃ u zs, e = .returned u ∧ Ow w' w.heap.size u zs ∧ zs.length ≤ most ∧ Rdr w' g ∧ w.grownBy w' (some g) := by
  have hgl := h.lt
  have HR := hide h
  clear h
  obtain ⟨i0, hi, hz0, hz1, hz2⟩ := info_parts Try.info2
  have hw1 : wrap64 ((most : Int) + 1) = (most : Int) + 1 := Go.IntWalk.wrap64_in _ (by omega)
  go_enter Try.func12, Try.ntmps12
  go_wp2_with fail
  refine (below_any g ((most : Int) + 1) _ (HR.out.grown (grown_alloc _ _ none) (fun k hk => by cases hk)) (by omega) (by omega)).mono ?_
  rintro e w0 ⟨c, rfl, hc0, hc1, hr0, hg0⟩
  obtain ⟨j, rfl⟩ := Int.eq_ofNat_of_zero_le hc0
  have hg00 : w.grownBy w0 (some g) := grown_trans (grown_alloc _ _ _) hg0
  have hok0 : Ow w0 w.heap.size (.slice (some ⟨w.heap.size, 0, none⟩) 0 0) [] := (Ow.empty_made w).read hg0 hgl
  clear hg0 hc0 hw1
  go_wp2
  go_loopw [5, 6] (fun t i wr => ∃ (k : Nat) (zs : List Int), zs.length + k ≤ most ∧ i = .int .i64 k ∧ Ow wr w.heap.size t zs ∧ Rdr wr g ∧ w.grownBy wr (some g)) (fun _ i _ => (intOf i).toNat)
  case atStart => exact ⟨j, [], by simp; omega, rfl, hok0, hr0, hg00⟩
  case round =>
    clear hok0 hr0 hg00
    obtain ⟨k, zs, hle, rfl, hok, hr, hg⟩ := hrel
    by_cases hlt : 0 < k
    · have hd : decide ((0 : Int) < (k : Int)) = true := by simp; omega
      go_wp2_with fail
      refine (below_any g 14 _ hr (by decide) (by decide)).mono ?_
      rintro e w1 ⟨x, rfl, hx0, hx1, hr1, hg1⟩
      have hok1 := hok.read hg1 hgl
      have hgg := grown_trans hg hg1
      have hsz : w.heap.size ≤ w1.heap.size := hgg.size
      clear hr hg hg1 hok hx0 hx1
      go_wp2_with (at_builtin; refine wpList_append_own _ rfl _ _ 27 rfl w.heap.size 2 i0 (.int .i64 0) 1 8 Try.underlying27 hi hz0 hz1 hz2 rfl (by decide) _ _ _ rfl (World.ownsRow.alloc hok1 _) _ 1 1 [.int .i64 x] rfl rfl (cell_one_new _ _ _) (by intro u hu; simp at hu; subst hu; rfl) (by unfold maxLen; omega) (by omega) (by simp; omega) ?_)
      intro v' w2 hown' hgrow _
      have HF := hide (grow_read hgl hr1 hgg hok1 hown' hgrow)
      clear hown' hgrow hok1 hr1 hgg
      go_wp2
      go_roundw
      case rel => exact ⟨k - 1, zs ++ [x], by simp; omega, by go_num, HF.out.1, HF.out.2.1, HF.out.2.2⟩
      case measure => simp [intOf]; omega
    · have hd : decide ((0 : Int) < (k : Int)) = false := by simp; omega
      go_wp2_with fail
      refine (once_any g 20 _ hr (by decide) (by decide)).mono ?_
      rintro e w1 ⟨b, rfl, hr1, hg1⟩
      have hok1 := hok.read hg1 hgl
      have hgg := grown_trans hg hg1
      clear hr hg hg1 hok
      cases b with
      | false =>
        have HF := hide (And.intro hok1 (And.intro hr1 hgg))
        clear hok1 hr1 hgg
        go_wp2
        go_ret
        exact ⟨_, zs, rfl, HF.out.1, by omega, HF.out.2.1, HF.out.2.2⟩
      | true =>
        obtain ⟨ad, cap, hf, hp⟩ := hok1.form
        subst hf
        obtain ⟨n, hn⟩ : ∃ n, zs.length = n := ⟨_, rfl⟩
        rw [hn] at hok1 hle hp ⊢
        have HN := hide hn
        clear hn
        by_cases h0 : 0 < n
        · have hd : decide ((0 : Int) < (n : Int)) = true := by simp; omega
          obtain ⟨q, rfl⟩ := hp h0
          go_wp2_with fail
          refine (off_any g 0 1000 _ hr1 (by decide) (by decide) (by decide)).mono ?_
          rintro e w2 ⟨c, rfl, hr2, hg2⟩
          have hok2 := hok1.read hg2 hgl
          obtain ⟨t1, t2, t3, o, t4⟩ := hok2.set0 HN.out c h0
          have hq : w.heap.size ≤ q := (World.ownsRow.lt hok2 q rfl).1
          have HF := hide (And.intro t1 (And.intro (hr2.grown t2 (fun k hk => by simp only [Option.some.injEq] at hk; omega)) (grown_young (grown_trans hgg hg2) t2 (fun k hk => by simp only [Option.some.injEq] at hk; omega))))
          clear hok1 hr1 hgg hr2 hg2 hok2 t1 t2 hp
          go_wp2
          go_ret
          exact ⟨_, zs.set 0 c, rfl, HF.out.1, by rw [List.length_set, HN.out]; omega, HF.out.2.1, HF.out.2.2⟩
        · have hd : decide ((0 : Int) < (n : Int)) = false := by simp; omega
          have HF := hide (And.intro hok1 (And.intro hr1 hgg))
          clear hok1 hr1 hgg hp
          go_wp2
          go_ret
          exact ⟨_, zs, rfl, HF.out.1, by rw [HN.out]; omega, HF.out.2.1, HF.out.2.2⟩

end Go.Proofs.Ytlijgkodcbnhbaa
