/- RmX, MtA, MtB, in one text -/
import Derived.Test.YtpebiebckdmopaaDoorRmWfff
import Derived.Test.YtpebiebckdmopaaDoorRmWfft
import Derived.Test.YtpebiebckdmopaaDoorRmWftf
import Derived.Test.YtpebiebckdmopaaDoorRmWftt
import Derived.Test.YtpebiebckdmopaaDoorRmWtff
import Derived.Test.YtpebiebckdmopaaDoorRmWtft
import Derived.Test.YtpebiebckdmopaaDoorRmWttf
import Derived.Test.YtpebiebckdmopaaDoorRmWttt
import Derived.Test.YtpebiebckdmopaaDoorRmY
import Derived.Test.YtpebiebckdmopaaDoorRdM
import Derived.Test.YtpebiebckdmopaaDoorRdH
import Derived.Deep.RegionWith
import Derived.Deep.QuietTactic
import Derived.BigQuiet
/- spec.ReadMsg, all of it -/
namespace Go.Proofs.YtpebiebckdmopaaDoor
open Go.RowKit
set_option linter.unusedSimpArgs false

theorem specRead_any (s : ByteArray) (w : World) (hs : s.size ≤ 1048576) :
    Calls Tryd.prog 11 #[.string s] w fun e w' => e = ans (sans s.data.toList (Rdm.nz (Rdm.sp s.data.toList))) ∧ Below w.heap.size w w' := by
  obtain ⟨ws, hws⟩ : ∃ ws, Rdm.nz (Rdm.sp s.data.toList) = ws := ⟨_, rfl⟩
  rw [hws]
  cases ha : shapeHome (kOf ws) <;> cases hb : shapeWant (kOf ws) <;> cases hd : shapeData (kOf ws)
  · exact sread_fff s w hs ws hws ha hb hd
  · exact sread_fft s w hs ws hws ha hb hd
  · exact sread_ftf s w hs ws hws ha hb hd
  · exact sread_ftt s w hs ws hws ha hb hd
  · exact sread_tff s w hs ws hws ha hb hd
  · exact sread_tft s w hs ws hws ha hb hd
  · exact sread_ttf s w hs ws hws ha hb hd
  · exact sread_ttt s w hs ws hws ha hb hd

end Go.Proofs.YtpebiebckdmopaaDoor

/- messages drawn, their texts, a text drawn: FnMsgTexts's pieces -/
namespace Go.Proofs.YtpebiebckdmopaaDoor
open Go.RowKit
set_option linter.unusedVariables false
set_option linter.unusedSimpArgs false

set_option maxHeartbeats 1000000 in
theorem implText_no (k f t l wt d : Int) (w : World) (ht : Tab w) (hok : okB k f t l wt d = false) :
    Calls Tryd.prog 6 #[.agg #[.int .i64 k, .int .i64 f, .int .i64 t, .int .i64 l, .int .i64 wt, .int .i64 d]] w fun e w' => e = .returned (.string (bstr [])) ∧ Below w.heap.size w w' := by
  have mb := mc_box w k f t l wt d 25
  have htb := ht.below mb.1
  go_enter Tryd.func6, Tryd.ntmps6
  go_wp2_with fail
  refine (implOk_any _ _ _ _ _ _ _ htb).mono ?_
  rintro e w1 ⟨rfl, hb1⟩
  have m1 := mc_next mb hb1
  clear mb hb1 htb ht
  go_wp2
  go_ret
  exact ⟨rfl, m1.1⟩

theorem implText_any (k f t l wt d : Int) (w : World) (ht : Tab w) (hp : Pow w) :
    Calls Tryd.prog 6 #[.agg #[.int .i64 k, .int .i64 f, .int .i64 t, .int .i64 l, .int .i64 wt, .int .i64 d]] w fun e w' => e = .returned (.string (bstr (textB k f t l wt d))) ∧ Below w.heap.size w w' := by
  unfold textB
  cases hok : okB k f t l wt d with
  | false => exact implText_no k f t l wt d w ht hok
  | true =>
    have hk := ok_kind hok
    obtain ⟨n, rfl⟩ := Int.eq_ofNat_of_zero_le (by omega : 0 ≤ k)
    exact implText_yes n f t l wt d w (by omega) (by omega) ht hp hok

/-- a text is short -/
theorem textB_len (k f t l wt d : Int) : (textB k f t l wt d).length ≤ 100 := by
  unfold textB
  split
  · rename_i hok
    have hk := ok_kind hok
    obtain ⟨n, rfl⟩ := Int.eq_ofNat_of_zero_le (by omega : 0 ≤ k)
    obtain ⟨_, ⟨c0, c1⟩, ⟨l0, l1⟩, ⟨w0, w1⟩, ⟨d0, d1⟩, _, _⟩ := ok_parts (by omega : 1 ≤ n) (by omega) hok
    have h1 := dec_len c1
    have h2 := dec_len l1
    have h3 := dec_len w1
    have h4 := dec_len d1
    have h5 := word_short n (by omega)
    have e : ((n : Int)).toNat = n := by omega
    rw [e]
    unfold text body
    cases shapeWant n <;> cases shapeData n <;> simp <;> omega
  · simp

/-- what is read of a text that was written -/
theorem read_back (k f t l wt d : Int) : parse (Rdm.sp (textB k f t l wt d)) = if okB k f t l wt d then some (k, f, t, l, wt, d) else none := by
  unfold textB
  cases hok : okB k f t l wt d with
  | true =>
    have hk := ok_kind hok
    obtain ⟨n, rfl⟩ := Int.eq_ofNat_of_zero_le (by omega : 0 ≤ k)
    have e : ((n : Int)).toNat = n := by omega
    simp only [if_true, e]
    rw [sp_text n (by omega) (by omega), parse_words (by omega) (by omega) hok]
  | false => rfl

/-- what is written of a message that was read -/
theorem text_back {l : List UInt8} {k f t ln wt d : Int} (h : parse (Rdm.sp l) = some (k, f, t, ln, wt, d)) : textB k f t ln wt d = l := by
  obtain ⟨n, h1, h9, e1, hok, hw⟩ := parse_sound h
  simp only at e1 hw
  subst e1
  unfold textB
  have hok' : okB (n : Int) f t ln wt d = true := hok
  have e : ((n : Int)).toNat = n := by omega
  rw [if_pos hok', e, text_words, ← hw, Rdm.jn_sp]

theorem ans_some (k f t l wt d : Int) : ans (some (k, f, t, l, wt, d)) = .returned (.tuple #[.agg #[.int .i64 k, .int .i64 f, .int .i64 t, .int .i64 l, .int .i64 wt, .int .i64 d], .bool true]) := rfl

set_option maxHeartbeats 1000000 in
theorem drawMsg_any (ad : Option Addr) (n cap : Nat) (w : World) (hb : Bt w ad n) (hn : n ≤ 1048576) :
    Calls Tryd.prog 5 #[.slice ad n cap] w fun e w' => ∃ a b c d x y : Int, e = .returned (.agg (six a b c d x y)) ∧ Below w.heap.size w w' := by
  have hb1 : Below w.heap.size w (w.alloc (.cells (six 0 0 0 0 0 0) 25)) := (Below.refl _ _).alloc (Nat.le_refl _) _
  have hbt : Bt (w.alloc (.cells (six 0 0 0 0 0 0) 25)) ad n := by
    intro h0
    obtain ⟨b, off, e, hc⟩ := hb h0
    exact ⟨b, off, e, fun j hj => by obtain ⟨c, h1, h2, h3⟩ := hc j hj; exact ⟨c, h1, h2, keepc hb1 h3⟩⟩
  go_enter Tryd.func5, Tryd.ntmps5
  go_wp2_with fail
  refine (open_any ad n cap _ hbt hn).mono ?_
  rintro e w1 ⟨g, rfl, hg1, hr1, hb2⟩
  clear hb hbt
  have hgw : w.heap.size < g := by simp at hg1; omega
  have hS1 : w1.heap[w.heap.size]? = some (.cells (six 0 0 0 0 0 0) 25 (0, 0)) := by
    rw [hb2.block _ (by simp)]; exact heap_alloc_new _ _
  go_wp2_with fail
  refine (msg_any g _ hr1).mono ?_
  rintro e w2 ⟨a, b, c, d, x, y, rfl, hr2, hg2⟩
  have hS2 : w2.heap[w.heap.size]? = some (.cells (six 0 0 0 0 0 0) 25 (0, 0)) := by
    rw [hg2.block _ (lt_of_block hS1) (fun e => by simp at e; omega)]; exact hS1
  have hbz := hb2.size
  simp only [World.size_alloc] at hbz
  have HB := hide (below_read (hb1.trans (hb2.mono (by simp))) hg2 (by omega) (by omega) : Below w.heap.size w w2)
  clear hr1 hr2 hg2 hb2 hb1 hS1
  obtain ⟨fz, q0, q1, q2, q3, q4, q5⟩ := row6_facts hS2
  go_wp2
  refine bodyPost_ret (v := .agg (six a b c d x y)) (by simp [results, Tryd.results5, go_sem, q0, q1, q2, q3, q4, q5]) rfl ⟨_, _, _, _, _, _, rfl, ?_⟩
  exact (((((HB.out.setCell (Nat.le_refl _) _).setCell (Nat.le_refl _) _).setCell (Nat.le_refl _) _).setCell (Nat.le_refl _) _).setCell (Nat.le_refl _) _).setCell (Nat.le_refl _) _

set_option maxHeartbeats 1000000 in
theorem drawText_any (ad : Option Addr) (n cap : Nat) (w : World) (hb : Bt w ad n) (hn : n ≤ 1048576) :
    Calls Tryd.prog 10 #[.slice ad n cap] w fun e w' => ∃ t : ByteArray, e = .returned (.string t) ∧ t.size ≤ 200 ∧ Below w.heap.size w w' := by
  go_enter Tryd.func10, Tryd.ntmps10
  go_wp2_with fail
  refine (open_any ad n cap _ hb hn).mono ?_
  rintro e w1 ⟨g, rfl, hg1, hr1, hb1⟩
  clear hb
  go_wp2_with fail
  refine (msg_any g _ hr1).mono ?_
  rintro e w2 ⟨a, b, c, d, x, y, rfl, hr2, hg2⟩
  have HB2 := hide (open_base hg1 hb1 hg2)
  have HS := hide hg1
  clear hr1 hb1 hg2 hg1
  have ht := fun w => specText_any a b c d x y w
  have hsz : (bstr (textB a b c d x y)).size ≤ 100 := by rw [bstr_size]; exact textB_len _ _ _ _ _ _
  generalize bstr (textB a b c d x y) = s at ht hsz
  go_wp2_with fail
  refine (ht _).mono ?_
  rintro e w3 ⟨rfl, hb3⟩
  have hr3 := hr2.below hb3
  have HB3 := hide (HB2.out.trans (hb3.mono HB2.out.size))
  clear hr2 hb3 HB2 ht
  go_wp2_with fail
  refine (hurt_any g s _ hr3 hsz).mono ?_
  rintro e w5 ⟨t, rfl, ht, hr5, hg5⟩
  have HB5 := hide (below_read HB3.out hg5 HS.out HB3.out.size)
  clear hr3 hr5 hg5 HB3
  go_wp2
  go_ret
  exact ⟨t, rfl, ht, HB5.out⟩

end Go.Proofs.YtpebiebckdmopaaDoor

/- FnMsgTexts's walk -/
namespace Go.Proofs.YtpebiebckdmopaaDoor
open Go.RowKit
set_option linter.unusedVariables false
set_option linter.unusedSimpArgs false

/-- what the walk keeps of the world: the tables, the code -/
def Kn (a0 : Option Addr) (len0 : Nat) (w : World) : Prop := Tab w ∧ Pow w ∧ (∃ m, w.cell? ⟨2, 0, none⟩ = some (.int .i64 m)) ∧ 0 < w.heap.size ∧ Bt w a0 len0

theorem Kn.below {a0 : Option Addr} {len0 : Nat} {w w' : World} (h : Kn a0 len0 w) (hb : Below w.heap.size w w') : Kn a0 len0 w' := by
  obtain ⟨h1, h2, ⟨m, h3⟩, h4, h5⟩ := h
  refine ⟨h1.below hb, h2.below hb, ⟨m, keepc hb h3⟩, Nat.lt_of_lt_of_le h4 hb.size, fun h0 => ?_⟩
  obtain ⟨b, off, e, hc⟩ := h5 h0
  exact ⟨b, off, e, fun j hj => by obtain ⟨c, k1, k2, k3⟩ := hc j hj; exact ⟨c, k1, k2, keepc hb k3⟩⟩

theorem ans_none : ans none = .returned (.tuple #[.agg #[.int .i64 0, .int .i64 0, .int .i64 0, .int .i64 0, .int .i64 0, .int .i64 0], .bool false]) := rfl

theorem bstr_back (t : ByteArray) : bstr t.data.toList = t := by cases t; simp [bstr]

theorem mc_drew {w wx : World} {B : Nat} {k f t l wt d : Int} (h : MC w B k f t l wt d wx) : MC w B k f t l wt d wx.drew := mc_next h ((Below.refl _ _).drew)
theorem mc_alloc {w wx : World} {B : Nat} {k f t l wt d : Int} (h : MC w B k f t l wt d wx) (o : Obj) : MC w B k f t l wt d (wx.alloc o) := mc_next h ((Below.refl _ _).alloc (Nat.le_refl _) _)

set_option maxHeartbeats 4000000 in
theorem walk (a0 : Option Addr) (len0 cap0 : Nat) (w : World) (hk : Kn a0 len0 w) :
    Calls Tryd.prog 3 #[.slice a0 len0 cap0] w fun e w' => e = .returned (.bool true) ∧ Below w.heap.size w w' := by
  by_cases hbig : (1048576 : Int) < (len0 : Int)
  · go_enter Tryd.func3, Tryd.ntmps3
    go_wp2
    go_ret
    exact ⟨rfl, Below.refl _ _⟩
  have hb : len0 ≤ 1048576 := by omega
  go_enter Tryd.func3, Tryd.ntmps3
  go_wp2_with (first | (go_at_call 4; go_in) | fail)
  refine (drawMsg_any a0 len0 cap0 _ hk.2.2.2.2 hb).mono ?_
  rintro e w1 ⟨a, b, c, d, x, y, rfl, hb1⟩
  have HB1 := hide hb1
  have K1 := hide (hk.below hb1)
  clear hb1 hk hbig
  have m := mc_box w1 a b c d x y 25
  have hi := fun w ht hp => implText_any a b c d x y w ht hp
  have hsp := fun w => specText_any a b c d x y w
  have hok := fun w ht => implOk_any a b c d x y w ht
  have hsz : (bstr (textB a b c d x y)).size ≤ 100 := by rw [bstr_size]; exact textB_len _ _ _ _ _ _
  have hrd := fun w h1 h2 h3 => readMsg_any (bstr (textB a b c d x y)) w (by omega) h1 h2 h3
  simp only [bstr_list, read_back] at hrd
  generalize bstr (textB a b c d x y) = s at hi hsp hrd hsz
  generalize okB a b c d x y = ok at hok hrd
  have K2 := hide (K1.out.below m.1)
  go_wp2_with fail
  refine (hi _ K2.out.1 K2.out.2.1).mono ?_
  rintro e w2 ⟨rfl, hb2⟩
  replace m := mc_next m hb2
  have K3 := hide (K2.out.below hb2)
  clear hb2 K2 hi
  obtain ⟨_, c0, c1, c2, c3, c4, c5⟩ := id m
  go_wp2_with fail
  refine (hrd _ K3.out.1 K3.out.2.2.1 K3.out.2.2.2.1).mono ?_
  rintro e w3 ⟨rfl, hb3⟩
  replace m := mc_next m hb3
  have K4 := hide (K3.out.below hb3)
  clear hb3 hrd K3 c0 c1 c2 c3 c4 c5
  cases ok
  · rw [show ans (if false = true then some (a, b, c, d, x, y) else none) = _ from ans_none]
    have n := mc_box w3 0 0 0 0 0 0 25
    have hal : Below w3.heap.size w3 (w3.alloc (.cells #[.int .i64 0, .int .i64 0, .int .i64 0, .int .i64 0, .int .i64 0, .int .i64 0] 25)) := n.1
    replace m := mc_alloc m (.cells #[.int .i64 0, .int .i64 0, .int .i64 0, .int .i64 0, .int .i64 0, .int .i64 0] 25)
    have K5 := hide (K4.out.below hal)
    clear K4 hal
    obtain ⟨_, c0, c1, c2, c3, c4, c5⟩ := id m
    go_wp2_with fail
    refine (hsp _).mono ?_
    rintro e w4 ⟨rfl, hb4⟩
    replace m := mc_next m hb4
    replace n := mc_next n hb4
    have K6 := hide (K5.out.below hb4)
    clear hb4 K5 hsp c0 c1 c2 c3 c4 c5
    obtain ⟨_, c0, c1, c2, c3, c4, c5⟩ := id m
    go_wp2_with fail
    refine (hok _ K6.out.1).mono ?_
    rintro e w5 ⟨rfl, hb5⟩
    replace m := mc_next m hb5
    replace n := mc_next n hb5
    have KB := hide (K6.out.below hb5)
    clear hb5 K6 hok c0 c1 c2 c3 c4 c5
    have HBB := hide (HB1.out.trans (m.1.mono HB1.out.size))
    obtain ⟨_, c0, c1, c2, c3, c4, c5⟩ := id m
    obtain ⟨_, n0, n1, n2, n3, n4, n5⟩ := id n
    clear m n
    go_wp2_with fail
    refine (drawText_any a0 len0 cap0 _ KB.out.2.2.2.2 hb).mono ?_
    rintro e w6 ⟨t, rfl, ht, hb6⟩
    have HB6 := hide (HBB.out.trans (hb6.mono HBB.out.size))
    have K6 := hide (KB.out.below hb6)
    clear hb6 KB HBB
    obtain ⟨o, ho⟩ : ∃ o, parse (Rdm.sp t.data.toList) = o := ⟨_, rfl⟩
    have hri := fun w h1 h2 h3 => readMsg_any t w (by omega) h1 h2 h3
    have hrs := fun w => specRead_any t w (by omega)
    simp only [← same_answer, ho] at hri hrs
    go_wp2_with fail
    refine (hri _ K6.out.1 K6.out.2.2.1 K6.out.2.2.2.1).mono ?_
    rintro e w7 ⟨rfl, hb7⟩
    have HB7 := hide (HB6.out.trans (hb7.mono HB6.out.size))
    have K7 := hide (K6.out.below hb7)
    clear hb7 K6 HB6 hri
    cases o with
    | none =>
      rw [ans_none]
      have r := mc_box w7 0 0 0 0 0 0 25
      have HB8 := hide (HB7.out.trans (r.1.mono HB7.out.size))
      clear r
      go_wp2_with fail
      refine (hrs _).mono ?_
      rintro e w8 ⟨rfl, hb8⟩
      rw [ans_none]
      have HB9 := hide ((HB8.out.trans (hb8.mono HB8.out.size)).alloc (HB8.out.trans (hb8.mono HB8.out.size)).size (.cells #[.int .i64 0, .int .i64 0, .int .i64 0, .int .i64 0, .int .i64 0, .int .i64 0] 25))
      clear hb8 HB8 HB7 K7 hrs
      go_wp2
      go_ret
      exact ⟨rfl, HB9.out⟩
    | some q =>
      obtain ⟨k, f, u, l, wt, dd⟩ := q
      rw [ans_some]
      have hix := fun w ht hp => implText_any k f u l wt dd w ht hp
      rw [text_back ho, bstr_back] at hix
      clear ho
      have r := mc_box w7 k f u l wt dd 25
      have HB8 := hide (HB7.out.trans (r.1.mono HB7.out.size))
      have K8 := hide (K7.out.below r.1)
      clear K7 HB7
      go_wp2_with fail
      refine (hrs _).mono ?_
      rintro e w8 ⟨rfl, hb8⟩
      rw [ans_some]
      replace r := mc_alloc (mc_next r hb8) (.cells #[.int .i64 k, .int .i64 f, .int .i64 u, .int .i64 l, .int .i64 wt, .int .i64 dd] 25)
      have hal : Below w8.heap.size w8 (w8.alloc (.cells #[.int .i64 k, .int .i64 f, .int .i64 u, .int .i64 l, .int .i64 wt, .int .i64 dd] 25)) := (Below.refl _ _).alloc (Nat.le_refl _) _
      have HB9 := hide ((HB8.out.trans (hb8.mono HB8.out.size)).trans (hal.mono (HB8.out.trans (hb8.mono HB8.out.size)).size))
      have K9 := hide ((K8.out.below hb8).below hal)
      clear hb8 HB8 K8 hrs hal
      obtain ⟨_, r0, r1, r2, r3, r4, r5⟩ := id r
      go_wp2_with fail
      refine (hix _ K9.out.1 K9.out.2.1).mono ?_
      rintro e w9 ⟨rfl, hb9⟩
      have HBZ := hide (HB9.out.trans (hb9.mono HB9.out.size))
      clear hb9 HB9 K9 r r0 r1 r2 r3 r4 r5 hix
      go_wp2
      go_ret
      exact ⟨rfl, HBZ.out⟩
  · rw [show ans (if true = true then some (a, b, c, d, x, y) else none) = _ from ans_some a b c d x y]
    have n := mc_box w3 a b c d x y 25
    have hal : Below w3.heap.size w3 (w3.alloc (.cells #[.int .i64 a, .int .i64 b, .int .i64 c, .int .i64 d, .int .i64 x, .int .i64 y] 25)) := n.1
    replace m := mc_alloc m (.cells #[.int .i64 a, .int .i64 b, .int .i64 c, .int .i64 d, .int .i64 x, .int .i64 y] 25)
    have K5 := hide (K4.out.below hal)
    clear K4 hal
    obtain ⟨_, c0, c1, c2, c3, c4, c5⟩ := id m
    go_wp2_with fail
    refine (hsp _).mono ?_
    rintro e w4 ⟨rfl, hb4⟩
    replace m := mc_next m hb4
    replace n := mc_next n hb4
    have K6 := hide (K5.out.below hb4)
    clear hb4 K5 hsp c0 c1 c2 c3 c4 c5
    obtain ⟨_, c0, c1, c2, c3, c4, c5⟩ := id m
    go_wp2_with fail
    refine (hok _ K6.out.1).mono ?_
    rintro e w5 ⟨rfl, hb5⟩
    replace m := mc_next m hb5
    replace n := mc_next n hb5
    have KB := hide (K6.out.below hb5)
    clear hb5 K6 hok c0 c1 c2 c3 c4 c5
    have HBB := hide (HB1.out.trans (m.1.mono HB1.out.size))
    obtain ⟨_, c0, c1, c2, c3, c4, c5⟩ := id m
    obtain ⟨_, n0, n1, n2, n3, n4, n5⟩ := id n
    clear m n
    go_wp2_with fail
    refine (drawText_any a0 len0 cap0 _ KB.out.2.2.2.2 hb).mono ?_
    rintro e w6 ⟨t, rfl, ht, hb6⟩
    have HB6 := hide (HBB.out.trans (hb6.mono HBB.out.size))
    have K6 := hide (KB.out.below hb6)
    clear hb6 KB HBB
    obtain ⟨o, ho⟩ : ∃ o, parse (Rdm.sp t.data.toList) = o := ⟨_, rfl⟩
    have hri := fun w h1 h2 h3 => readMsg_any t w (by omega) h1 h2 h3
    have hrs := fun w => specRead_any t w (by omega)
    simp only [← same_answer, ho] at hri hrs
    go_wp2_with fail
    refine (hri _ K6.out.1 K6.out.2.2.1 K6.out.2.2.2.1).mono ?_
    rintro e w7 ⟨rfl, hb7⟩
    have HB7 := hide (HB6.out.trans (hb7.mono HB6.out.size))
    have K7 := hide (K6.out.below hb7)
    clear hb7 K6 HB6 hri
    cases o with
    | none =>
      rw [ans_none]
      have r := mc_box w7 0 0 0 0 0 0 25
      have HB8 := hide (HB7.out.trans (r.1.mono HB7.out.size))
      clear r
      go_wp2_with fail
      refine (hrs _).mono ?_
      rintro e w8 ⟨rfl, hb8⟩
      rw [ans_none]
      have HB9 := hide ((HB8.out.trans (hb8.mono HB8.out.size)).alloc (HB8.out.trans (hb8.mono HB8.out.size)).size (.cells #[.int .i64 0, .int .i64 0, .int .i64 0, .int .i64 0, .int .i64 0, .int .i64 0] 25))
      clear hb8 HB8 HB7 K7 hrs
      go_wp2
      go_ret
      exact ⟨rfl, HB9.out⟩
    | some q =>
      obtain ⟨k, f, u, l, wt, dd⟩ := q
      rw [ans_some]
      have hix := fun w ht hp => implText_any k f u l wt dd w ht hp
      rw [text_back ho, bstr_back] at hix
      clear ho
      have r := mc_box w7 k f u l wt dd 25
      have HB8 := hide (HB7.out.trans (r.1.mono HB7.out.size))
      have K8 := hide (K7.out.below r.1)
      clear K7 HB7
      go_wp2_with fail
      refine (hrs _).mono ?_
      rintro e w8 ⟨rfl, hb8⟩
      rw [ans_some]
      replace r := mc_alloc (mc_next r hb8) (.cells #[.int .i64 k, .int .i64 f, .int .i64 u, .int .i64 l, .int .i64 wt, .int .i64 dd] 25)
      have hal : Below w8.heap.size w8 (w8.alloc (.cells #[.int .i64 k, .int .i64 f, .int .i64 u, .int .i64 l, .int .i64 wt, .int .i64 dd] 25)) := (Below.refl _ _).alloc (Nat.le_refl _) _
      have HB9 := hide ((HB8.out.trans (hb8.mono HB8.out.size)).trans (hal.mono (HB8.out.trans (hb8.mono HB8.out.size)).size))
      have K9 := hide ((K8.out.below hb8).below hal)
      clear hb8 HB8 K8 hrs hal
      obtain ⟨_, r0, r1, r2, r3, r4, r5⟩ := id r
      go_wp2_with fail
      refine (hix _ K9.out.1 K9.out.2.1).mono ?_
      rintro e w9 ⟨rfl, hb9⟩
      have HBZ := hide (HB9.out.trans (hb9.mono HB9.out.size))
      clear hb9 HB9 K9 r r0 r1 r2 r3 r4 r5 hix
      go_wp2
      go_ret
      exact ⟨rfl, HBZ.out⟩

end Go.Proofs.YtpebiebckdmopaaDoor
