/- messages drawn, their texts, a text drawn: FnMsgTexts's pieces -/
import Derived.Test.YtpebiebckdmopaaDoorRmX
import Derived.Test.YtpebiebckdmopaaDoorRmY
import Derived.Test.YtpebiebckdmopaaDoorRdM
import Derived.Test.YtpebiebckdmopaaDoorRdH
namespace Go.Proofs.YtpebiebckdmopaaDoor
open Go.RowKit
set_option linter.unusedVariables false
set_option linter.unusedSimpArgs false

set_option maxHeartbeats 1000000 in
theorem implText_no (k f t l wt d : Int) (w : World) (ht : Tab w) (hok : okB k f t l wt d = false) :
    Calls Tryd.prog 6 #[.agg #[.int .i64 k, .int .i64 f, .int .i64 t, .int .i64 l, .int .i64 wt, .int .i64 d]] w fun e w' => e = .returned (.string (bstr [])) ∧ Below w.heap.size w w' := by
  have mb := mc_box w k f t l wt d 25
  have htb := ht.below mb.1
  go_enter Tryd.func6, Tryd.ntmps6
  go_wp2_with fail
  refine (implOk_any _ _ _ _ _ _ _ htb).mono ?_
  rintro e w1 ⟨rfl, hb1⟩
  have m1 := mc_next mb hb1
  clear mb hb1 htb ht
  go_wp2
  go_ret
  exact ⟨rfl, m1.1⟩

theorem implText_any (k f t l wt d : Int) (w : World) (ht : Tab w) (hp : Pow w) :
    Calls Tryd.prog 6 #[.agg #[.int .i64 k, .int .i64 f, .int .i64 t, .int .i64 l, .int .i64 wt, .int .i64 d]] w fun e w' => e = .returned (.string (bstr (textB k f t l wt d))) ∧ Below w.heap.size w w' := by
  unfold textB
  cases hok : okB k f t l wt d with
  | false => exact implText_no k f t l wt d w ht hok
  | true =>
    have hk := ok_kind hok
    obtain ⟨n, rfl⟩ := Int.eq_ofNat_of_zero_le (by omega : 0 ≤ k)
    exact implText_yes n f t l wt d w (by omega) (by omega) ht hp hok

/-- a text is short -/
theorem textB_len (k f t l wt d : Int) : (textB k f t l wt d).length ≤ 100 := by
  unfold textB
  split
  · rename_i hok
    have hk := ok_kind hok
    obtain ⟨n, rfl⟩ := Int.eq_ofNat_of_zero_le (by omega : 0 ≤ k)
    obtain ⟨_, ⟨c0, c1⟩, ⟨l0, l1⟩, ⟨w0, w1⟩, ⟨d0, d1⟩, _, _⟩ := ok_parts (by omega : 1 ≤ n) (by omega) hok
    have h1 := dec_len c1
    have h2 := dec_len l1
    have h3 := dec_len w1
    have h4 := dec_len d1
    have h5 := word_short n (by omega)
    have e : ((n : Int)).toNat = n := by omega
    rw [e]
    unfold text body
    cases shapeWant n <;> cases shapeData n <;> simp <;> omega
  · simp

/-- what is read of a text that was written -/
theorem read_back (k f t l wt d : Int) : parse (Rdm.sp (textB k f t l wt d)) = if okB k f t l wt d then some (k, f, t, l, wt, d) else none := by
  unfold textB
  cases hok : okB k f t l wt d with
  | true =>
    have hk := ok_kind hok
    obtain ⟨n, rfl⟩ := Int.eq_ofNat_of_zero_le (by omega : 0 ≤ k)
    have e : ((n : Int)).toNat = n := by omega
    simp only [if_true, e]
    rw [sp_text n (by omega) (by omega), parse_words (by omega) (by omega) hok]
  | false => rfl

/-- what is written of a message that was read -/
theorem text_back {l : List UInt8} {k f t ln wt d : Int} (h : parse (Rdm.sp l) = some (k, f, t, ln, wt, d)) : textB k f t ln wt d = l := by
  obtain ⟨n, h1, h9, e1, hok, hw⟩ := parse_sound h
  simp only at e1 hw
  subst e1
  unfold textB
  have hok' : okB (n : Int) f t ln wt d = true := hok
  have e : ((n : Int)).toNat = n := by omega
  rw [if_pos hok', e, text_words, ← hw, Rdm.jn_sp]

theorem ans_some (k f t l wt d : Int) : ans (some (k, f, t, l, wt, d)) = .returned (.tuple #[.agg #[.int .i64 k, .int .i64 f, .int .i64 t, .int .i64 l, .int .i64 wt, .int .i64 d], .bool true]) := rfl

set_option maxHeartbeats 1000000 in
theorem drawMsg_any (ad : Option Addr) (n cap : Nat) (w : World) (hb : Bt w ad n) (hn : n ≤ 1048576) :
    Calls Tryd.prog 5 #[.slice ad n cap] w fun e w' => ∃ a b c d x y : Int, e = .returned (.agg (six a b c d x y)) ∧ Below w.heap.size w w' := by
  have hb1 : Below w.heap.size w (w.alloc (.cells (six 0 0 0 0 0 0) 25)) := (Below.refl _ _).alloc (Nat.le_refl _) _
  have hbt : Bt (w.alloc (.cells (six 0 0 0 0 0 0) 25)) ad n := by
    intro h0
    obtain ⟨b, off, e, hc⟩ := hb h0
    exact ⟨b, off, e, fun j hj => by obtain ⟨c, h1, h2, h3⟩ := hc j hj; exact ⟨c, h1, h2, keepc hb1 h3⟩⟩
  go_enter Tryd.func5, Tryd.ntmps5
  go_wp2_with fail
  refine (open_any ad n cap _ hbt hn).mono ?_
  rintro e w1 ⟨g, rfl, hg1, hr1, hb2⟩
  clear hb hbt
  have hgw : w.heap.size < g := by simp at hg1; omega
  have hS1 : w1.heap[w.heap.size]? = some (.cells (six 0 0 0 0 0 0) 25 (0, 0)) := by
    rw [hb2.block _ (by simp)]; exact heap_alloc_new _ _
  go_wp2_with fail
  refine (msg_any g _ hr1).mono ?_
  rintro e w2 ⟨a, b, c, d, x, y, rfl, hr2, hg2⟩
  have hS2 : w2.heap[w.heap.size]? = some (.cells (six 0 0 0 0 0 0) 25 (0, 0)) := by
    rw [hg2.block _ (lt_of_block hS1) (fun e => by simp at e; omega)]; exact hS1
  have hbz := hb2.size
  simp only [World.size_alloc] at hbz
  have HB := hide (below_read (hb1.trans (hb2.mono (by simp))) hg2 (by omega) (by omega) : Below w.heap.size w w2)
  clear hr1 hr2 hg2 hb2 hb1 hS1
  obtain ⟨fz, q0, q1, q2, q3, q4, q5⟩ := row6_facts hS2
  go_wp2
  refine bodyPost_ret (v := .agg (six a b c d x y)) (by simp [results, Tryd.results5, go_sem, q0, q1, q2, q3, q4, q5]) rfl ⟨_, _, _, _, _, _, rfl, ?_⟩
  exact (((((HB.out.setCell (Nat.le_refl _) _).setCell (Nat.le_refl _) _).setCell (Nat.le_refl _) _).setCell (Nat.le_refl _) _).setCell (Nat.le_refl _) _).setCell (Nat.le_refl _) _

set_option maxHeartbeats 1000000 in
theorem drawText_any (ad : Option Addr) (n cap : Nat) (w : World) (hb : Bt w ad n) (hn : n ≤ 1048576) :
    Calls Tryd.prog 10 #[.slice ad n cap] w fun e w' => ∃ t : ByteArray, e = .returned (.string t) ∧ t.size ≤ 200 ∧ Below w.heap.size w w' := by
  go_enter Tryd.func10, Tryd.ntmps10
  go_wp2_with fail
  refine (open_any ad n cap _ hb hn).mono ?_
  rintro e w1 ⟨g, rfl, hg1, hr1, hb1⟩
  clear hb
  go_wp2_with fail
  refine (msg_any g _ hr1).mono ?_
  rintro e w2 ⟨a, b, c, d, x, y, rfl, hr2, hg2⟩
  have HB2 := hide (open_base hg1 hb1 hg2)
  have HS := hide hg1
  clear hr1 hb1 hg2 hg1
  have ht := fun w => specText_any a b c d x y w
  have hsz : (bstr (textB a b c d x y)).size ≤ 100 := by rw [bstr_size]; exact textB_len _ _ _ _ _ _
  generalize bstr (textB a b c d x y) = s at ht hsz
  go_wp2_with fail
  refine (ht _).mono ?_
  rintro e w3 ⟨rfl, hb3⟩
  have hr3 := hr2.below hb3
  have HB3 := hide (HB2.out.trans (hb3.mono HB2.out.size))
  clear hr2 hb3 HB2 ht
  go_wp2_with fail
  refine (hurt_any g s _ hr3 hsz).mono ?_
  rintro e w5 ⟨t, rfl, ht, hr5, hg5⟩
  have HB5 := hide (below_read HB3.out hg5 HS.out HB3.out.size)
  clear hr3 hr5 hg5 HB3
  go_wp2
  go_ret
  exact ⟨t, rfl, ht, HB5.out⟩

end Go.Proofs.YtpebiebckdmopaaDoor
