/- l8Turn, hurt, DrawReadFlit -/
import Derived.Test.YtbinjcmfbkhbjacEcP
import Derived.Test.YtbinjcmfbkhbjacFlS
import Derived.Test.YtbinjcmfbkhbjacFlT
import Derived.Deep.RegionWith
import Derived.Deep.QuietTactic
import Derived.BigQuiet
namespace Go.Proofs.Ytbinjcmfbkhbjac
open Go.RowKit
set_option linter.unusedVariables false
set_option linter.unusedSimpArgs false

set_option maxHeartbeats 4000000 in
theorem turn_any (s : ByteArray) (n : Nat) (w : World) (hs : s.size ≤ 100) (hn : n < 8 * s.size) : Calls Try.prog 33 #[.string s, .int .i64 n] w fun e w' => ∃ t : ByteArray, e = .returned (.string t) ∧ t.size = s.size ∧ Below w.heap.size w w' := by
  obtain ⟨cap, W, hcv, hbW, hrow⟩ := bytes_new w s
  obtain ⟨j, hj⟩ : ∃ j, n / 8 = j := ⟨_, rfl⟩
  have hjs : j < s.size := by omega
  obtain ⟨m, hm⟩ : ∃ m, n % 8 = m := ⟨_, rfl⟩
  have hm8 : m < 8 := by omega
  have ej : (n : Int) / 8 = (j : Int) := by omega
  have em : (n : Int) % 8 = (m : Int) := by omega
  have hp := fun w => l7Pow_any m w (by omega)
  obtain ⟨fz, hc⟩ := hrow.facts j hjs
  have fz2 : W.drew.frozen? ⟨w.heap.size, j, none⟩ = false := fz
  have hc2 : W.drew.cell? ⟨w.heap.size, j, none⟩ = some (.int .u8 (Crc.at' s j)) := hc
  have hpm : 2 ^ m < 256 := Nat.pow_lt_pow_of_lt (m := 8) (by decide) hm8
  generalize 2 ^ m = pw at hp hpm
  have hN0 : 0 ≤ (n : Int) := by omega
  have hNs : (n : Int) < 1000 := by omega
  clear hj hm hn
  generalize (n : Int) = N at ej em hN0 hNs
  have hji : 0 ≤ (j : Int) ∧ (j : Int) < (s.size : Int) := by omega
  have q1 : N.tdiv 8 = (j : Int) := by rw [Int.tdiv_eq_ediv_of_nonneg hN0]; exact ej
  have q2 : N.tmod 8 = (m : Int) := by rw [Int.tmod_eq_emod_of_nonneg hN0]; exact em
  have q3 : IntKind.i64.wrap (j : Int) = (j : Int) := Ecc.i64_wrap j (by omega)
  have q4 : IntKind.i64.wrap (m : Int) = (m : Int) := Ecc.i64_wrap m (by omega)
  have hal := Crc.at_lt s j
  have hxl : Crc.at' s j ^^^ pw < 256 := Nat.xor_lt_two_pow (n := 8) hal hpm
  have HX : bits BinOp.xor IntKind.u8 (Crc.at' s j : Int) (IntKind.u8.wrap (pw : Int)) = ((Crc.at' s j ^^^ pw : Nat) : Int) := by
    have e : IntKind.u8.wrap (pw : Int) = (pw : Int) := by rw [IntKind.wrap_u8']; omega
    rw [e]
    exact u8_xor_nat _ _ hal hpm
  have hr2 := hrow.set j _ hjs hxl
  rw [← HX] at hr2
  have hr3 : Row (W.setCell ⟨w.heap.size, j, none⟩ (.int .u8 (bits BinOp.xor IntKind.u8 (Crc.at' s j : Int) (IntKind.u8.wrap (pw : Int))))).drew w.heap.size (setB s j (Crc.at' s j ^^^ pw)) := hr2
  have hback := hr3.back cap
  rw [setB_size] at hback
  have HT := hide (setB_size s j (Crc.at' s j ^^^ pw))
  have HB : Hid (∀ v, Below w.heap.size w (W.setCell ⟨w.heap.size, j, none⟩ v).drew) := hide (fun v => (hbW.setCell (Nat.le_refl _) v).drew)
  generalize setB s j (Crc.at' s j ^^^ pw) = t at hback HT
  clear hr2 hr3 HX hxl hal hrow hbW hpm
  go_enter Try.func33, Try.ntmps33
  go_wp2
  go_region_with (go_at_call 37; refine (hp _).mono ?_; rintro e w' ⟨rfl, rfl⟩)
  all_goals go_wp2
  all_goals go_ret
  all_goals exact ⟨t, rfl, HT.out, HB.out _⟩

def lit5 : Array Value := #[.string ⟨#[48]⟩, .string ⟨#[49]⟩, .string ⟨#[32]⟩, .string ⟨#[120]⟩, .string ⟨#[57]⟩]
theorem lit5_at (i : Nat) (h : i < 5) : ∃ z : ByteArray, lit5[i]? = some (.string z) ∧ z.size ≤ 9 := by
  match i, h with
  | 0, _ => exact ⟨_, rfl, by decide⟩
  | 1, _ => exact ⟨_, rfl, by decide⟩
  | 2, _ => exact ⟨_, rfl, by decide⟩
  | 3, _ => exact ⟨_, rfl, by decide⟩
  | 4, _ => exact ⟨_, rfl, by decide⟩
theorem lit5_new (W : World) (i : Nat) (z : ByteArray) (h : lit5[i]? = some (.string z)) : (W.alloc (.cells lit5 9)).cell? ⟨W.heap.size, i, none⟩ = some (.string z) := by
  rw [cell_of_row _ _ i _ _ _ (heap_alloc_new W (.cells lit5 9))]; exact h
theorem lit5_there {w1 w2 : World} {g : Nat} (hlt : g < w1.heap.size) (hg : (w1.alloc (.cells lit5 9)).grownBy w2 (some g)) (i : Nat) (z : ByteArray) (h : lit5[i]? = some (.string z)) : w2.cell? ⟨w1.heap.size, i, none⟩ = some (.string z) := by
  have h1 := hg.block w1.heap.size (by simp) (by simp; omega)
  rw [heap_alloc_new] at h1
  rw [cell_of_row w2 w1.heap.size i _ _ _ h1]; exact h

theorem grown_drew {w w2 : World} {row : Option Nat} (h : w.drew.grownBy w2 row) : w.grownBy w2 row := grown_trans (grown_drewN w 1 row) h
theorem rdr_drew {w : World} {g : Nat} (h : Rdr w g) : Rdr w.drew g := h.grown (grown_drewN w 1 none) (fun k hk => by cases hk)
theorem hurt_call1 (g j : Nat) (s : ByteArray) (w2 : World) (hr2 : Rdr w2 g) (hs : s.size ≤ 100) : Calls Try.prog 30 #[.pointer (some ⟨g, 0, none⟩), .int .i64 5] (w2.alloc (.cells #[.string ⟨#[48]⟩, .string ⟨#[49]⟩, .string ⟨#[32]⟩, .string ⟨#[120]⟩, .string ⟨#[57]⟩] 9)).drew
    fun e w3 => ∃ (i : Nat) (z : ByteArray), e = .returned (.int .i64 i) ∧ i < 5 ∧ w3.cell? ⟨w2.heap.size, i, none⟩ = some (.string z) ∧ (∀ W : World, (Op.stringOp .add (s.extract 0 j) z).run Try.prog W = .ok (.string (s.extract 0 j ++ z)) W) ∧ (∀ W : World, (Op.stringOp .add (s.extract 0 j ++ z) (s.extract (j + 1) s.size)).run Try.prog W = .ok (.string (s.extract 0 j ++ z ++ s.extract (j + 1) s.size)) W) ∧ Hid ((s.extract 0 j ++ z ++ s.extract (j + 1) s.size).size ≤ 200 ∧ Rdr w3 g ∧ w2.grownBy w3 (some g)) := by
  refine (below_any g 5 _ (rdr_drew (hr2.grown (grown_alloc w2 (.cells lit5 9) none) (fun k hk => by cases hk))) (by decide) (by decide)).mono ?_
  rintro e w3 ⟨cc, rfl, hc0, hc4, hr3, hg3⟩
  obtain ⟨i5, rfl⟩ := Int.eq_ofNat_of_zero_le hc0
  obtain ⟨z, hzl, hz9⟩ := lit5_at i5 (by omega)
  have hg4 : (w2.alloc (.cells lit5 9)).grownBy w3 (some g) := grown_drew hg3
  exact ⟨i5, z, rfl, by omega, lit5_there hr2.lt hg4 i5 z hzl, add_free _ _ (by rw [ByteArray.size_extract]; omega), add_free _ _ (by rw [ByteArray.size_append, ByteArray.size_extract, ByteArray.size_extract]; omega), hide ⟨by rw [ByteArray.size_append, ByteArray.size_append, ByteArray.size_extract, ByteArray.size_extract]; omega, hr3, grown_trans (grown_alloc _ _ _) hg4⟩⟩
theorem hurt_call2 (g j : Nat) (s : ByteArray) (w2 : World) (hr2 : Rdr w2 g) (hs : s.size ≤ 100) : Calls Try.prog 30 #[.pointer (some ⟨g, 0, none⟩), .int .i64 5] w2.drew
    fun e w3 => ∃ (i : Nat) (z : ByteArray), e = .returned (.int .i64 i) ∧ i < 5 ∧ (w3.alloc (.cells #[.string ⟨#[48]⟩, .string ⟨#[49]⟩, .string ⟨#[32]⟩, .string ⟨#[120]⟩, .string ⟨#[57]⟩] 9)).cell? ⟨w3.heap.size, i, none⟩ = some (.string z) ∧ (∀ W : World, (Op.stringOp .add (s.extract 0 j) z).run Try.prog W = .ok (.string (s.extract 0 j ++ z)) W) ∧ (∀ W : World, (Op.stringOp .add (s.extract 0 j ++ z) (s.extract (j + 1) s.size)).run Try.prog W = .ok (.string (s.extract 0 j ++ z ++ s.extract (j + 1) s.size)) W) ∧ Hid ((s.extract 0 j ++ z ++ s.extract (j + 1) s.size).size ≤ 200 ∧ Rdr (w3.alloc (.cells #[.string ⟨#[48]⟩, .string ⟨#[49]⟩, .string ⟨#[32]⟩, .string ⟨#[120]⟩, .string ⟨#[57]⟩] 9)) g ∧ w2.grownBy (w3.alloc (.cells #[.string ⟨#[48]⟩, .string ⟨#[49]⟩, .string ⟨#[32]⟩, .string ⟨#[120]⟩, .string ⟨#[57]⟩] 9)) (some g)) := by
  refine (below_any g 5 _ (rdr_drew hr2) (by decide) (by decide)).mono ?_
  rintro e w3 ⟨cc, rfl, hc0, hc4, hr3, hg3⟩
  obtain ⟨i5, rfl⟩ := Int.eq_ofNat_of_zero_le hc0
  obtain ⟨z, hzl, hz9⟩ := lit5_at i5 (by omega)
  have hg4 : w2.grownBy w3 (some g) := grown_drew hg3
  exact ⟨i5, z, rfl, by omega, lit5_new w3 i5 z hzl, add_free _ _ (by rw [ByteArray.size_extract]; omega), add_free _ _ (by rw [ByteArray.size_append, ByteArray.size_extract, ByteArray.size_extract]; omega), hide ⟨by rw [ByteArray.size_append, ByteArray.size_append, ByteArray.size_extract, ByteArray.size_extract]; omega, hr3.grown (grown_alloc _ _ none) (fun k hk => by cases hk), grown_trans hg4 (grown_alloc _ _ _)⟩⟩

set_option maxHeartbeats 8000000 in
theorem hurt_any (g : Nat) (s : ByteArray) (w : World) (h : Rdr w g) (hs : s.size ≤ 100) :
    Calls Try.prog 34 #[.pointer (some ⟨g, 0, none⟩), .string s] w fun e w' => ∃ t : ByteArray, e = .returned (.string t) ∧ t.size ≤ 200 ∧ Rdr w' g ∧ w.grownBy w' (some g) := by
  go_enter Try.func34, Try.ntmps34
  go_wp2_with fail
  refine (below_any g 6 _ h (by decide) (by decide)).mono ?_
  rintro e w1 ⟨c, rfl, hc0, hc4, hr1, hg1⟩
  clear h
  have hcc : c = 0 ∨ c = 1 ∨ c = 2 ∨ c = 3 ∨ c = 4 ∨ c = 5 := by omega
  clear hc0 hc4
  rcases hcc with rfl | rfl | rfl | rfl | rfl | rfl
  · go_wp2
    go_ret
    exact ⟨s, rfl, by omega, hr1, hg1⟩
  · go_wp2_with fail
    refine (below_any g ((s.size : Int) + 1) _ hr1 (by omega) (by omega)).mono ?_
    rintro e w2 ⟨c, rfl, hc0, hc4, hr2, hg2⟩
    obtain ⟨j, rfl⟩ := Int.eq_ofNat_of_zero_le hc0
    have hj : j ≤ s.size := by omega
    have HF := hide (And.intro hr2 (grown_trans hg1 hg2))
    clear hr1 hg1 hr2 hg2 hc4
    go_wp2
    go_ret
    refine ⟨_, rfl, ?_, HF.out⟩
    rw [ByteArray.size_extract]; omega
  · by_cases h0 : 0 < s.size
    · go_wp2_with fail
      refine (below_any g (s.size : Int) _ hr1 (by omega) (by omega)).mono ?_
      rintro e w2 ⟨c, rfl, hc0, hc4, hr2, hg2⟩
      obtain ⟨j, rfl⟩ := Int.eq_ofNat_of_zero_le hc0
      have hj : j < s.size := by omega
      have HG := hide (grown_trans hg1 hg2)
      have hlt2 := hr2.lt
      have hja : 0 ≤ (j : Int) ∧ (j : Int) ≤ (s.size : Int) := by omega
      have hjb : 0 ≤ (j : Int) + 1 ∧ (j : Int) + 1 ≤ (s.size : Int) := by omega
      clear hr1 hg1 hg2 hc4
      go_wp2
      have q5 : IntKind.i64.wrap ((j : Int) + 1) = (j : Int) + 1 := Ecc.i64_wrap (j + 1) (by omega)
      have q6 : ((j : Int) + 1).toNat = j + 1 := by omega
      have q7 : (j : Int) + 1 ≤ (s.size : Int) := by omega
      have q8 : ¬ (s.size : Int) < (j : Int) + 1 := by omega
      have q9 : ¬ ((j : Int) + 1 < 0) := by omega
      have c1 := hurt_call1 g j s w2 hr2 hs
      have c2 := hurt_call2 g j s w2 hr2 hs
      go_region_with (go_at_call 30; first | (refine c1.mono ?_; rintro e w3 ⟨i5, z, rfl, hi5, hz, hadd1, hadd2, HZ⟩) | (refine c2.mono ?_; rintro e w3 ⟨i5, z, rfl, hi5, hz, hadd1, hadd2, HZ⟩))
      all_goals simp only [Act.put, List.getElem_toArray, List.getElem_cons_zero, List.getElem_cons_succ, List.setIfInBounds_toArray, List.set_cons_zero, List.set_cons_succ]
      all_goals go_wp2
      all_goals go_ret
      all_goals refine ⟨s.extract 0 j ++ z ++ s.extract (j + 1) s.size, ?_, HZ.out.1, HZ.out.2.1, grown_trans HG.out HZ.out.2.2⟩
      all_goals first | rfl | simp
    · go_wp2
      go_ret
      exact ⟨s, rfl, by omega, hr1, hg1⟩
  · go_wp2_with fail
    refine (below_any g 3 _ (hr1.grown (grown_alloc _ _ none) (fun k hk => by cases hk)) (by decide) (by decide)).mono ?_
    rintro e w2 ⟨c, rfl, hc0, hc4, hr2, hg2⟩
    obtain ⟨j, rfl⟩ := Int.eq_ofNat_of_zero_le hc0
    obtain ⟨z, hz, hz9⟩ := strs_there hr1.lt hg2 (by
      intro j hj
      have hj6 : j < 3 := hj
      match j, hj6 with
      | 0, _ => exact ⟨_, rfl, by decide⟩
      | 1, _ => exact ⟨_, rfl, by decide⟩
      | 2, _ => exact ⟨_, rfl, by decide⟩) j (by show j < 3; omega)
    have HF := hide (And.intro hr2 (grown_trans hg1 (grown_trans (grown_alloc _ _ _) hg2)))
    have hadd := add_free s z (by omega)
    have HZ : Hid ((s ++ z).size ≤ 200) := hide (by rw [ByteArray.size_append]; omega)
    generalize s ++ z = sz at hadd HZ
    clear hr1 hg1 hr2 hg2
    go_wp2
    go_ret
    exact ⟨sz, rfl, HZ.out, HF.out⟩
  · go_wp2
    go_ret
    exact ⟨s, rfl, by omega, hr1, hg1⟩
  · go_wp2
    go_ret
    exact ⟨s, rfl, by omega, hr1, hg1⟩
set_option maxHeartbeats 4000000 in
theorem drawReadFlit_any (ad : Option Addr) (n cap : Nat) (w : World) (hb : Bt w ad n) (hn : n ≤ 1048576) :
    Calls Try.prog 23 #[.slice ad n cap] w fun e w' => ∃ t : ByteArray, e = .returned (.string t) ∧ t.size ≤ 200 ∧ Below w.heap.size w w' := by
  go_enter Try.func23, Try.ntmps23
  go_wp2_with fail
  refine (open_any ad n cap _ hb hn).mono ?_
  rintro e w1 ⟨g, rfl, hg1, hr1, hb1⟩
  clear hb
  go_wp2_with fail
  refine (flit_any g _ hr1).mono ?_
  rintro e w2 ⟨k, q, b, rfl, hb9, hr2, hg2⟩
  have HB2 := hide (open_base hg1 hb1 hg2)
  have HS := hide hg1
  clear hr1 hb1 hg2 hg1
  have hsz : (Flit.txt k q b).size ≤ 16 := by
    unfold Flit.txt
    split
    · rw [Flit.text_size]; omega
    · show 0 ≤ 16; omega
  have ht := fun w => specText_any k q b w
  generalize Flit.txt k q b = s at ht hsz
  go_wp2_with fail
  refine (ht _).mono ?_
  rintro e w3 ⟨rfl, hb3⟩
  have hr3 := hr2.below hb3
  have HB3 := hide (HB2.out.trans (hb3.mono HB2.out.size))
  clear hr2 hb3 HB2 ht
  have hu := fun w h => hurt_any g s w h (by omega)
  by_cases h0 : 0 < s.size
  · go_wp2_with fail
    refine (once_any g 3 _ hr3 (by omega) (by omega)).mono ?_
    rintro e w4 ⟨bb, rfl, hr4, hg4⟩
    have HB4 := hide (below_read HB3.out hg4 HS.out HB3.out.size)
    clear hr3 hg4 HB3
    cases bb
    · go_wp2_with fail
      refine (hu _ hr4).mono ?_
      rintro e w5 ⟨t, rfl, ht, hr5, hg5⟩
      have HB5 := hide (below_read HB4.out hg5 HS.out HB4.out.size)
      clear hr4 hr5 hg5 HB4
      go_wp2
      go_ret
      exact ⟨t, rfl, ht, HB5.out⟩
    · go_wp2_with fail
      refine (below_any g (8 * (s.size : Int)) _ hr4 (by omega) (by omega)).mono ?_
      rintro e w5 ⟨c, rfl, hc0, hc1, hr5, hg5⟩
      obtain ⟨m, rfl⟩ := Int.eq_ofNat_of_zero_le hc0
      have HB5 := hide (below_read HB4.out hg5 HS.out HB4.out.size)
      clear hr4 hr5 hg5 HB4 hc0
      go_wp2_with fail
      refine (turn_any s m _ (by omega) (by omega)).mono ?_
      rintro e w6 ⟨t, rfl, ht, hb6⟩
      have HB6 := hide (HB5.out.trans (hb6.mono HB5.out.size))
      clear hb6 HB5
      go_wp2
      go_ret
      exact ⟨t, rfl, by omega, HB6.out⟩
  · go_wp2_with fail
    refine (hu _ hr3).mono ?_
    rintro e w5 ⟨t, rfl, ht, hr5, hg5⟩
    have HB5 := hide (below_read HB3.out hg5 HS.out HB3.out.size)
    clear hr3 hr5 hg5 HB3
    go_wp2
    go_ret
    exact ⟨t, rfl, ht, HB5.out⟩

end Go.Proofs.Ytbinjcmfbkhbjac
