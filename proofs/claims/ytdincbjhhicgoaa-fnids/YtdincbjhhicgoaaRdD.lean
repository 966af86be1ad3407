/- ids, l1Open, DrawWithId -/
import Derived.Test.YtdincbjhhicgoaaRdC
import Derived.Test.YtdincbjhhicgoaaH
namespace Go.Proofs.Ytdincbjhhicgoaa
open Go.RowKit

theorem grown_young {w wr w2 : World} {g : Nat} {row : Option Nat} (h : w.grownBy wr (some g)) (k : wr.grownBy w2 row) (hr : ∀ j, row = some j → w.heap.size ≤ j) : w.grownBy w2 (some g) :=
  ⟨k.os.trans h.os, k.tape.trans h.tape, k.output.trans h.output, Nat.le_trans h.size k.size, fun j hj hne => (k.block j (Nat.lt_of_lt_of_le hj h.size) (fun e => by have := hr j e.symm; omega)).trans (h.block j hj hne)⟩

/-- the reader's steps leave what the call owns -/
theorem Ow.read {w w' : World} {base g : Nat} {v : Value} {zs : List Int} (h : Ow w base v zs) (hg : w.grownBy w' (some g)) (hlt : g < base) : Ow w' base v zs := by
  refine World.ownsRow.kept h hg ?_
  cases hv : v.ownBlock with
  | none => exact .inl rfl
  | some k =>
    refine .inr fun e => ?_
    have h1 := World.ownsRow.lt h k hv
    simp only [Option.some.injEq] at e
    omega

/-- one element appended, beside a reader -/
theorem grow_read {w wr w1 : World} {g : Nat} {v v' : Value} {zs : List Int} {x : Int} (hlt : g < w.heap.size) (hr : Rdr wr g) (hg : w.grownBy wr (some g)) (hown : Ow wr w.heap.size v zs)
    (hown' : w1.ownsRow w.heap.size 2 1 v' (zs.length + 1) (zs.map (Value.int .i64) ++ [.int .i64 x])) (hgr : (wr.alloc (.cells #[.int .i64 x] 2)).grownBy w1 v.ownBlock) : Ow w1 w.heap.size v' (zs ++ [x]) ∧ Rdr w1 g ∧ w.grownBy w1 (some g) := by
  have hb : ∀ k, v.ownBlock = some k → w.heap.size ≤ k := fun k hk => (World.ownsRow.lt hown k hk).1
  refine ⟨Ow.snoc hown', (hr.grown (grown_alloc _ _ none) (fun k hk => by cases hk)).grown hgr (fun k hk => by have := hb k hk; omega), ?_⟩
  exact grown_young (grown_trans hg (grown_alloc _ _ _)) hgr hb

theorem Ow.set0 {w : World} {base g n cap : Nat} {zs : List Int} (hn : zs.length = n) (h : Ow w base (.slice (some ⟨g, 0, none⟩) n cap) zs) (c : Int) (hp : 0 < n) :
    Ow (w.setCell ⟨g, 0, none⟩ (.int .i64 c)) base (.slice (some ⟨g, 0, none⟩) n cap) (zs.set 0 c) ∧ w.grownBy (w.setCell ⟨g, 0, none⟩ (.int .i64 c)) (some g) ∧ w.frozen? ⟨g, 0, none⟩ = false ∧ ∃ o, w.cell? ⟨g, 0, none⟩ = some o := by
  unfold Ow at *
  rw [hn] at h
  refine ⟨?_, (h.stored 0 _).2, h.frozenAt 0, ?_⟩
  · rw [List.length_set, hn, List.map_set]; exact (h.stored 0 _).1
  · have h1 := h.cellAt 0 (by omega)
    have h2 : 0 < (zs.map (Value.int .i64)).length := by simp; omega
    rw [List.getElem?_eq_getElem h2] at h1
    exact ⟨_, h1⟩

set_option maxHeartbeats 2000000 in
theorem ids_any (g : Nat) (w : World) (h : Rdr w g) :
    Calls Try.prog 15 #[.pointer (some ⟨g, 0, none⟩)] w fun e w' => ∃ u zs, e = .returned u ∧ Ow w' w.heap.size u zs ∧ zs.length ≤ 5 ∧ Rdr w' g ∧ w.grownBy w' (some g) := by
  have hgl := h.lt
  have HR := hide h
  clear h
  obtain ⟨i0, hi, hz0, hz1, hz2⟩ := info_parts Try.info2
  go_enter Try.func15, Try.ntmps15
  go_wp2
  go_loopw [3, 4] (fun t i wr => ∃ (k : Nat) (zs : List Int), k ≤ 5 ∧ i = .int .i64 ((k : Int) + 1) ∧ zs.length ≤ k ∧ Ow wr w.heap.size t zs ∧ Rdr wr g ∧ w.grownBy wr (some g)) (fun _ i _ => 6 - (intOf i).toNat)
  case atStart => exact ⟨0, [], Nat.zero_le _, rfl, Nat.zero_le _, Ow.empty_made w, HR.out.grown (grown_alloc _ _ none) (fun k hk => by cases hk), grown_alloc _ _ _⟩
  case round =>
    obtain ⟨k, zs, hk, rfl, hle, hok, hr, hg⟩ := hrel
    by_cases hlt : k < 5
    · have hc5 : decide ((k : Int) + 1 ≤ 5) = true := by simp; omega
      go_wp2_with fail
      refine (once_any g 2 _ hr (by decide) (by decide)).mono ?_
      rintro e w1 ⟨b, rfl, hr1, hg1⟩
      have hok1 := hok.read hg1 hgl
      have hgg := grown_trans hg hg1
      have hsz : w.heap.size ≤ w1.heap.size := hgg.size
      clear hr hg hg1 hok
      cases b with
      | false =>
        have HF := hide (And.intro hok1 (And.intro hr1 hgg))
        clear hok1 hr1 hgg
        go_wp2
        go_roundw
        case rel => exact ⟨k + 1, zs, by omega, by go_num, by omega, HF.out.1, HF.out.2.1, HF.out.2.2⟩
        case measure => simp [intOf]; omega
      | true =>
        go_wp2_with (at_builtin; refine wpList_append_own _ rfl _ _ 24 rfl w.heap.size 2 i0 (.int .i64 0) 1 8 Try.underlying24 hi hz0 hz1 hz2 rfl (by decide) _ _ _ rfl (World.ownsRow.alloc hok1 _) _ 1 1 [.int .i64 ((k : Int) + 1)] rfl rfl (cell_one_new _ _ _) (by intro u hu; simp at hu; subst hu; rfl) (by unfold maxLen; omega) (by omega) (by simp; omega) ?_)
        intro v' w2 hown' hgrow _
        have HF := hide (grow_read hgl hr1 hgg hok1 hown' hgrow)
        clear hown' hgrow hok1 hr1 hgg
        go_wp2
        go_roundw
        case rel => exact ⟨k + 1, zs ++ [(k : Int) + 1], by omega, by go_num, by simp; omega, HF.out.1, HF.out.2.1, HF.out.2.2⟩
        case measure => simp [intOf]; omega
    · have hc5 : decide ((k : Int) + 1 ≤ 5) = false := by simp; omega
      go_wp2_with fail
      refine (once_any g 30 _ hr (by decide) (by decide)).mono ?_
      rintro e w1 ⟨b, rfl, hr1, hg1⟩
      have hok1 := hok.read hg1 hgl
      have hgg := grown_trans hg hg1
      clear hr hg hg1 hok
      cases b with
      | false =>
        have HF := hide (And.intro hok1 (And.intro hr1 hgg))
        clear hok1 hr1 hgg
        go_wp2
        go_ret
        exact ⟨_, zs, rfl, HF.out.1, by omega, HF.out.2.1, HF.out.2.2⟩
      | true =>
        obtain ⟨ad, cap, hf, hp⟩ := hok1.form
        subst hf
        obtain ⟨n, hn⟩ : ∃ n, zs.length = n := ⟨_, rfl⟩
        rw [hn] at hok1 hle hp ⊢
        have HN := hide hn
        clear hn
        by_cases h0 : 0 < n
        · have hd : decide ((0 : Int) < (n : Int)) = true := by simp; omega
          obtain ⟨q, rfl⟩ := hp h0
          go_wp2_with fail
          refine (off_any g 1 5 _ hr1 (by decide) (by decide) (by decide)).mono ?_
          rintro e w2 ⟨c, rfl, hr2, hg2⟩
          have hok2 := hok1.read hg2 hgl
          obtain ⟨t1, t2, t3, o, t4⟩ := hok2.set0 HN.out c h0
          have hq : w.heap.size ≤ q := (World.ownsRow.lt hok2 q rfl).1
          have HF := hide (And.intro t1 (And.intro (hr2.grown t2 (fun k hk => by simp only [Option.some.injEq] at hk; omega)) (grown_young (grown_trans hgg hg2) t2 (fun k hk => by simp only [Option.some.injEq] at hk; omega))))
          clear hok1 hr1 hgg hr2 hg2 hok2 t1 t2 hp
          go_wp2
          go_ret
          exact ⟨_, zs.set 0 c, rfl, HF.out.1, by rw [List.length_set, HN.out]; omega, HF.out.2.1, HF.out.2.2⟩
        · have hd : decide ((0 : Int) < (n : Int)) = false := by simp; omega
          have HF := hide (And.intro hok1 (And.intro hr1 hgg))
          clear hok1 hr1 hgg hp
          go_wp2
          go_ret
          exact ⟨_, zs, rfl, HF.out.1, by rw [HN.out]; omega, HF.out.2.1, HF.out.2.2⟩

/-- the bytes of a code -/
def Bt (w : World) (ad : Option Addr) (n : Nat) : Prop :=
  0 < n → ∃ b off, ad = some ⟨b, off, none⟩ ∧ ∀ j, j < n → ∃ c : Int, 0 ≤ c ∧ c ≤ 255 ∧ w.cell? ⟨b, off + j, none⟩ = some (.int .u8 c)

theorem open_rd {w : World} {ad : Option Addr} {n cap : Nat} (hb : Bt w ad n) (hn : n ≤ 1048576) : Rdr (w.alloc (.cells #[.slice ad n cap, .int .i64 0] 43)) w.heap.size := by
  refine ⟨ad, n, cap, 0, heap_alloc_new w _, Nat.zero_le _, hn, fun h0 => ?_⟩
  obtain ⟨b, off, rfl, hc⟩ := hb h0
  have hb0 : b < w.heap.size := by
    obtain ⟨c, _, _, h⟩ := hc 0 h0
    exact World.block_lt_of_cell? w _ h
  refine ⟨b, off, rfl, hb0, fun j hj => ?_⟩
  obtain ⟨c, h1, h2, h3⟩ := hc j hj
  exact ⟨c, h1, h2, Below.keep ((Below.refl _ w).alloc (Nat.le_refl _) _) _ _ h3⟩

set_option maxHeartbeats 1000000 in
theorem open_any (ad : Option Addr) (n cap : Nat) (w : World) (hb : Bt w ad n) (hn : n ≤ 1048576) :
    Calls Try.prog 14 #[.slice ad n cap] w fun e w' => ∃ g, e = .returned (.pointer (some ⟨g, 0, none⟩)) ∧ w.heap.size ≤ g ∧ Rdr w' g ∧ Below w.heap.size w w' := by
  have HR := hide (open_rd (cap := cap) hb hn)
  clear hb
  go_enter Try.func14, Try.ntmps14
  go_wp2
  go_ret
  exact ⟨_, rfl, Nat.le_refl _, HR.out, (Below.refl _ _).alloc (Nat.le_refl _) _⟩

theorem below_read {B g : Nat} {w w' w2 : World} (h : Below B w w') (hg : w'.grownBy w2 (some g)) (hB : B ≤ g) (hs : B ≤ w'.heap.size) : Below B w w2 :=
  h.grown hg hs (fun k hk => by simp only [Option.some.injEq] at hk; omega)

set_option maxHeartbeats 1000000 in
theorem drawWithId_any (ad : Option Addr) (n cap : Nat) (w : World) (hb : Bt w ad n) (hn : n ≤ 1048576) :
    Calls Try.prog 5 #[.slice ad n cap] w fun e w' => ∃ u zs id, e = .returned (.tuple #[u, .int .i64 id]) ∧ Ow w' w.heap.size u zs ∧ zs.length ≤ 5 ∧ Below w.heap.size w w' := by
  go_enter Try.func5, Try.ntmps5
  go_wp2_with fail
  refine (open_any ad n cap _ hb hn).mono ?_
  rintro e w1 ⟨g, rfl, hg1, hr1, hb1⟩
  clear hb
  go_wp2_with fail
  refine (ids_any g _ hr1).mono ?_
  rintro e w2 ⟨u, zs, rfl, hu, hz, hr2, hg2⟩
  go_wp2_with fail
  refine (off_any g 1 5 _ hr2 (by decide) (by decide) (by decide)).mono ?_
  rintro e w3 ⟨c, rfl, hr3, hg3⟩
  have hb2 := below_read hb1 hg2 hg1 hb1.size
  have HF := hide (And.intro ((hu.read hg3 hr1.lt).mono hb1.size) (below_read hb2 hg3 hg1 hb2.size))
  clear hr1 hb1 hu hr2 hg2 hr3 hg3 hb2 hg1
  go_wp2
  go_ret2
  exact ⟨u, zs, c, rfl, HF.out.1, hz, HF.out.2⟩

end Go.Proofs.Ytdincbjhhicgoaa
