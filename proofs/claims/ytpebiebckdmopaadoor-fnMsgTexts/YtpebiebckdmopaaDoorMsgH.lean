/- impl.MsgText -/
import Derived.Test.YtpebiebckdmopaaDoorMsgG
namespace Go.Proofs.YtpebiebckdmopaaDoor
open Go.RowKit

/-- what is known of the world while the text is made: the message's box, the row of the table in a block of its own, the library's table -/
abbrev SC (w : World) (B C : Nat) (k f t l wt d : Int) (s : ByteArray) (h1 h2 h3 : Bool) (wx : World) : Prop :=
  (wx.cell? ⟨B, 0, none⟩ = some (.int .i64 k) ∧ wx.cell? ⟨B, 1, none⟩ = some (.int .i64 f) ∧ wx.cell? ⟨B, 2, none⟩ = some (.int .i64 t) ∧
  wx.cell? ⟨B, 3, none⟩ = some (.int .i64 l) ∧ wx.cell? ⟨B, 4, none⟩ = some (.int .i64 wt) ∧ wx.cell? ⟨B, 5, none⟩ = some (.int .i64 d) ∧
  wx.cell? ⟨C, 0, none⟩ = some (.string s) ∧ wx.cell? ⟨C, 1, none⟩ = some (.bool h1) ∧ wx.cell? ⟨C, 2, none⟩ = some (.bool h2) ∧ wx.cell? ⟨C, 3, none⟩ = some (.bool h3)) ∧ Below w.heap.size w wx ∧ Pow wx

theorem sc_next {w wx wy : World} {B C : Nat} {k f t l wt d : Int} {s : ByteArray} {h1 h2 h3 : Bool} (h : SC w B C k f t l wt d s h1 h2 h3 wx) (hb : Below wx.heap.size wx wy) : SC w B C k f t l wt d s h1 h2 h3 wy := by
  obtain ⟨⟨a0, a1, a2, a3, a4, a5, a6, a7, a8, a9⟩, b, c⟩ := h
  exact ⟨⟨keepc hb a0, keepc hb a1, keepc hb a2, keepc hb a3, keepc hb a4, keepc hb a5, keepc hb a6, keepc hb a7, keepc hb a8, keepc hb a9⟩, b.trans (hb.mono b.size), c.below hb⟩

theorem sc_start {w w1 : World} {B : Nat} {k f t l wt d : Int} {s : ByteArray} {h1 h2 h3 : Bool} (T : TypeId) (m : MC w B k f t l wt d w1) (hp : Pow w1) :
    SC w B w1.heap.size k f t l wt d s h1 h2 h3 (w1.alloc (.cells #[.string s, .bool h1, .bool h2, .bool h3] T)) := by
  have hb : Below w1.heap.size w1 (w1.alloc (.cells #[.string s, .bool h1, .bool h2, .bool h3] T)) := (Below.refl _ _).alloc (Nat.le_refl _) _
  obtain ⟨a, a0, a1, a2, a3, a4, a5⟩ := mc_next m hb
  exact ⟨⟨a0, a1, a2, a3, a4, a5, by simp, by simp, by simp, by simp⟩, a, hp.below hb⟩

theorem sc_pow {w wx : World} {B C : Nat} {k f t l wt d : Int} {s : ByteArray} {h1 h2 h3 : Bool} (h : SC w B C k f t l wt d s h1 h2 h3 wx) : Pow wx := h.2.2

theorem Pow.grown {w w' : World} {row : Option Nat} (h : Pow w) (hg : w.grownBy w' row) (hr : ∀ k, row = some k → 1 < k) : Pow w' := by
  have hlt : 1 < w.heap.size := by have := World.var?_cell gPow h 0; exact World.block_lt_of_cell? w _ (this.trans rfl)
  unfold Pow Lib.TabIs at *
  unfold World.var? at h ⊢
  simp only [gPow, Option.bind_some] at h ⊢
  rw [hg.block 1 hlt (fun e => by have := hr _ e.symm; omega)]
  exact h

theorem sc_grown {w wx wy : World} {B C base : Nat} {row : Option Nat} {k f t l wt d : Int} {s : ByteArray} {h1 h2 h3 : Bool} (h : SC w B C k f t l wt d s h1 h2 h3 wx) (hg : wx.grownBy wy row) (hr : ∀ j, row = some j → base ≤ j) (hB : B < base) (hC : C < base) (hw : w.heap.size ≤ base) (h1b : 1 < base) : SC w B C k f t l wt d s h1 h2 h3 wy := by
  obtain ⟨⟨a0, a1, a2, a3, a4, a5, a6, a7, a8, a9⟩, b, c⟩ := h
  have nb : some B ≠ row := fun e => by have := hr _ e.symm; omega
  have nc : some C ≠ row := fun e => by have := hr _ e.symm; omega
  exact ⟨⟨hg.cell a0 nb, hg.cell a1 nb, hg.cell a2 nb, hg.cell a3 nb, hg.cell a4 nb, hg.cell a5 nb, hg.cell a6 nc, hg.cell a7 nc, hg.cell a8 nc, hg.cell a9 nc⟩, b.grown hg b.size (fun j hj => Nat.le_trans hw (hr j hj)), c.grown hg (fun j hj => Nat.lt_of_lt_of_le h1b (hr j hj))⟩

theorem sc2_next {w wx wy : World} {B C N : Nat} {k f t l wt d : Int} {s : ByteArray} {h1 h2 h3 : Bool} (h : SC w B C k f t l wt d s h1 h2 h3 wx ∧ N ≤ wx.heap.size) (hb : Below wx.heap.size wx wy) : SC w B C k f t l wt d s h1 h2 h3 wy ∧ N ≤ wy.heap.size :=
  ⟨sc_next h.1 hb, Nat.le_trans h.2 hb.size⟩
theorem sc2_first {w : World} {B C : Nat} {k f t l wt d : Int} {s : ByteArray} {h1 h2 h3 : Bool} {o : Obj} {w1 : World} (h : SC w B C k f t l wt d s h1 h2 h3 (w1.alloc o)) : SC w B C k f t l wt d s h1 h2 h3 (w1.alloc o).drew ∧ w1.heap.size + 1 ≤ (w1.alloc o).drew.heap.size :=
  ⟨sc_next h ((Below.refl _ _).drew), by simp⟩
theorem sc2_pow {w wx : World} {B C N : Nat} {k f t l wt d : Int} {s : ByteArray} {h1 h2 h3 : Bool} (h : SC w B C k f t l wt d s h1 h2 h3 wx ∧ N ≤ wx.heap.size) : Pow wx := h.1.2.2

theorem c_lt {w' : World} {C : Nat} {a b c : ByteArray} {h : Bool} {T : TypeId} (hc : (w'.alloc (.cells #[.string a, .string b, .string c] T)).cell? ⟨C, 1, none⟩ = some (.bool h)) : C + 1 ≤ w'.heap.size := by
  have h1 : C < (w'.alloc (.cells #[.string a, .string b, .string c] T)).heap.size := World.block_lt_of_cell? _ _ hc
  have h2 : C ≠ w'.heap.size := by
    rintro rfl
    rw [World.cell?_alloc_mark] at hc
    simp at hc
  simp at h1
  omega

theorem info9 : (Tryd.prog.info? 9).map (fun i => (i.zero, i.size, i.bytes)) = some (some (.string ⟨#[]⟩), 1, 16) := by kernel_rfl

theorem os_lit {w : World} {base : Nat} {a b c : List UInt8} (hb : base ≤ w.heap.size) : OwS (w.alloc (.cells #[.string (bstr a), .string (bstr b), .string (bstr c)] 9)) base (.slice (some ⟨w.heap.size, 0, none⟩) 3 3) [a, b, c] :=
  World.ownsRow_lit w #[.string (bstr a), .string (bstr b), .string (bstr c)] 3 hb (by decide) rfl

/-- a word more -/
theorem os_grow {w wx wy : World} {B C base : Nat} {v v' : Value} {xs : List (List UInt8)} {x : List UInt8} {k f t l wt d : Int} {s : ByteArray} {h1 h2 h3 : Bool} (ho : OwS wx base v xs) (h : SC w B C k f t l wt d s h1 h2 h3 wx) (hB : B < base) (hC : C < base) (hw : w.heap.size ≤ base) (h1b : 1 < base)
    (ho' : wy.ownsRow base 9 1 v' (xs.length + 1) ((xs.map fun x => Value.string (bstr x)) ++ [.string (bstr x)])) (hg : (wx.alloc (.cells #[.string (bstr x)] 9)).grownBy wy v.ownBlock) : OwS wy base v' (xs ++ [x]) ∧ SC w B C k f t l wt d s h1 h2 h3 wy :=
  ⟨OwS.snoc ho', sc_grown (sc_next h ((Below.refl _ _).alloc (Nat.le_refl _) _)) hg (fun j hj => (World.ownsRow.lt ho j hj).1) hB hC hw h1b⟩

theorem join3 (a b c : List UInt8) : Lib.join [a, b, c] [32] = a ++ [32] ++ b ++ [32] ++ c := by simp [Lib.join, List.intercalate, List.intersperse]
theorem join4 (a b c e : List UInt8) : Lib.join [a, b, c, e] [32] = a ++ [32] ++ b ++ [32] ++ c ++ [32] ++ e := by simp [Lib.join, List.intercalate, List.intersperse]
theorem join5 (a b c e g : List UInt8) : Lib.join [a, b, c, e, g] [32] = a ++ [32] ++ b ++ [32] ++ c ++ [32] ++ e ++ [32] ++ g := by simp [Lib.join, List.intercalate, List.intersperse]

set_option maxRecDepth 20000 in
set_option maxHeartbeats 4000000 in
theorem implText_yes (n : Nat) (f t l wt d : Int) (w : World) (h1 : 1 ≤ n) (h9 : n ≤ 9) (ht : Tab w) (hp : Pow w) (hok : okB (n : Int) f t l wt d = true) :
    Calls Tryd.prog 6 #[.agg #[.int .i64 (n : Int), .int .i64 f, .int .i64 t, .int .i64 l, .int .i64 wt, .int .i64 d]] w fun e w' => e = .returned (.string (bstr (text n (f + t) l wt d))) ∧ Below w.heap.size w w' := by
  obtain ⟨⟨f0, f5⟩, ⟨t0, t5⟩, ⟨l0, l3⟩, ht0, hf0, hwt, hdt⟩ := ok_bounds h1 h9 hok
  have hn0 : (0 : Int) ≤ (n : Int) := by omega
  have hn10 : (n : Int) < 10 := by omega
  have mb := mc_box w n f t l wt d 25
  have htb := ht.below mb.1
  go_enter Tryd.func6, Tryd.ntmps6
  go_wp2_with fail
  refine (implOk_any _ _ _ _ _ _ _ htb).mono ?_
  rintro e w1 ⟨rfl, hb1⟩
  have m1 := mc_next mb hb1
  have ht1 := htb.below hb1
  have hp1 := hp.below m1.1
  clear mb hb1 htb ht hp
  obtain ⟨s, hs, c0, c1, c2, c3⟩ := ht1 n (by omega)
  obtain ⟨hbw, q0, q1, q2, q3, q4, q5⟩ := id m1
  rw [Nat.mul_comm 4 n] at c0 c1 c2 c3
  have sc := sc_start (s := s) (h1 := shapeHome n) (h2 := shapeWant n) (h3 := shapeData n) 36 m1 hp1
  have HS := hide hs
  have HX := hide (And.intro ht0 (And.intro hf0 (And.intro hwt hdt)))
  have h00 : 0 < w1.heap.size := World.block_lt_of_cell? w1 _ c0
  have hne' : ¬ w1.heap.size = 0 := by omega
  have hne'' : ¬ 0 = w1.heap.size := by omega
  clear hs ht0 hf0 hwt hdt ht1
  obtain ⟨i0, hi, hz0, hz1, hz2⟩ := info_parts info9
  have hBw : w.heap.size < w1.heap.size := World.block_lt_of_cell? w1 _ q0
  have hg1 : 1 < w1.heap.size + 1 := by have := World.var?_cell gPow hp1 0; have := World.block_lt_of_cell? w1 _ (this.trans rfl); omega
  clear hp1
  obtain rfl : s = bstr (shapeWord n) := by
    have e := HS.out
    cases s with
    | mk a => simp only at e; rw [← e]; rfl
  have hlw := word_short n (by omega)
  have hll := dec_len (z := l) (by omega)
  rcases Bool.eq_false_or_eq_true (shapeHome n) with hh | hh
  · rw [hh] at c1 sc
    have HC : Hid (f + t = f) := hide (by have := HX.out.1 hh; omega)
    have hlc := dec_len (z := f) (by omega)
    go_upto_region 7 with fail
    obtain ⟨⟨p0, p1, p2, p3, p4, p5, p6, p7, p8, p9⟩, _, _⟩ := id sc
    go_cut [5] from 19 to 26 (fun v5 wx => OwS wx (w1.heap.size + 1) v5 [shapeWord n, dec f, dec l] ∧ SC w w.heap.size w1.heap.size n f t l wt d (bstr (shapeWord n)) true (shapeWant n) (shapeData n) wx ∧ w1.heap.size + 1 ≤ wx.heap.size)
    case first =>
      go_region_held3 (fun w' => SC w w.heap.size w1.heap.size n f t l wt d (bstr (shapeWord n)) true (shapeWant n) (shapeData n) w' ∧ w1.heap.size + 1 ≤ w'.heap.size) (first | exact sc2_next (by assumption) (by assumption) | exact sc2_first (by assumption) | exact sc2_next (by assumption) ((Below.refl _ _).alloc (Nat.le_refl _) _)) (first | (go_at_call 14; refine (decimal_any _ _ ?_ (by omega) (by omega)).mono ?_; exact sc2_pow (by assumption); rintro e w' ⟨rfl, hb⟩))
      rename_i hz
      go_wp2_with fail
      go_meet
      exact ⟨os_lit (c_lt hz.1.1.2.2.2.2.2.2.2.1), hz.1, hz.2⟩
    case rest =>
    obtain ⟨hos, sc2, hbs⟩ := hcut
    clear sc p0 p1 p2 p3 p4 p5 p6 p7 p8 p9 q0 q1 q2 q3 q4 q5 c0 c1 c2 c3
    have sc := sc2
    clear sc2
    obtain ⟨⟨p0, p1, p2, p3, p4, p5, p6, p7, p8, p9⟩, _, _⟩ := id sc
    rcases Bool.eq_false_or_eq_true (shapeWant n) with hw | hw <;> rcases Bool.eq_false_or_eq_true (shapeData n) with hd | hd
    · have hwr := HX.out.2.2.1
      have hdr := HX.out.2.2.2
      rw [hw] at sc p8 hwr
      rw [hd] at sc p9 hdr
      have hwr2 := hwr rfl
      have hlwt := dec_len (z := wt) (by omega)
      have hdr2 := hdr rfl
      have hld := dec_len (z := d) (by omega)
      clear hwr hdr
      have HT : Hid (Lib.join [shapeWord n, dec f, dec l, dec wt, dec d] [32] = text n (f + t) l wt d) := hide (by
        rw [join5]
        unfold text body
        rw [hw, hd, HC.out]
        simp)
      have hjl : (Lib.join [shapeWord n, dec f, dec l, dec wt, dec d] [32]).length ≤ 1000 := by rw [join5]; simp; omega
      go_wp2_with fail
      refine (decimal_any wt _ sc.2.2 (by omega) (by omega)).mono ?_
      rintro e w7 ⟨rfl, hb7⟩
      have sc7 := sc_next sc hb7
      have os7 := hos.below hb7
      have hz7 : w1.heap.size + 1 ≤ w7.heap.size := Nat.le_trans hbs hb7.size
      clear sc hos hb7 p0 p1 p2 p3 p4 p5 p6 p7 p8 p9
      go_wp2_with (at_builtin; refine wpList_append_own _ rfl _ _ 39 rfl (w1.heap.size + 1) 9 i0 (.string ⟨#[]⟩) 1 16 Tryd.underlying39 hi hz0 hz1 hz2 rfl (by decide) _ _ _ rfl (World.ownsRow.alloc os7 _) _ 1 1 [.string (bstr (dec wt))] rfl rfl (cell_one_new _ _ _) (by intro u hu; simp at hu; subst hu; rfl) (by unfold maxLen; simp) (by simp) (by simp; omega) ?_)
      intro v' w8 hown' hgrow _
      obtain ⟨hos8, sc8⟩ := os_grow os7 sc7 (by omega) (by omega) (by omega) (by omega) hown' hgrow
      have hbs8 : w1.heap.size + 1 ≤ w8.heap.size := by have := hgrow.size; simp at this; omega
      clear hown' hgrow os7 sc7 hbs hz7
      obtain ⟨⟨p0, p1, p2, p3, p4, p5, p6, p7, p8, p9⟩, _, _⟩ := id sc8
      have sc := sc8
      have hos := hos8
      have hbs := hbs8
      clear sc8 hos8 hbs8
      go_wp2_with fail
      refine (decimal_any d _ sc.2.2 (by omega) (by omega)).mono ?_
      rintro e w7 ⟨rfl, hb7⟩
      have sc7 := sc_next sc hb7
      have os7 := hos.below hb7
      have hz7 : w1.heap.size + 1 ≤ w7.heap.size := Nat.le_trans hbs hb7.size
      clear sc hos hb7 p0 p1 p2 p3 p4 p5 p6 p7 p8 p9
      go_wp2_with (at_builtin; refine wpList_append_own _ rfl _ _ 39 rfl (w1.heap.size + 1) 9 i0 (.string ⟨#[]⟩) 1 16 Tryd.underlying39 hi hz0 hz1 hz2 rfl (by decide) _ _ _ rfl (World.ownsRow.alloc os7 _) _ 1 1 [.string (bstr (dec d))] rfl rfl (cell_one_new _ _ _) (by intro u hu; simp at hu; subst hu; rfl) (by unfold maxLen; simp) (by simp) (by simp; omega) ?_)
      intro v' w8 hown' hgrow _
      obtain ⟨hos8, sc8⟩ := os_grow os7 sc7 (by omega) (by omega) (by omega) (by omega) hown' hgrow
      have hbs8 : w1.heap.size + 1 ≤ w8.heap.size := by have := hgrow.size; simp at this; omega
      clear hown' hgrow os7 sc7 hbs hz7
      obtain ⟨⟨p0, p1, p2, p3, p4, p5, p6, p7, p8, p9⟩, _, _⟩ := id sc8
      have sc := sc8
      have hos := hos8
      have hbs := hbs8
      clear sc8 hos8 hbs8
      go_wp2_with fail
      refine (join_any _ _ [shapeWord n, dec f, dec l, dec wt, dec d] _ hos (by simp) hjl (by simp)).mono ?_
      rintro e w9 ⟨rfl, hb9⟩
      have HB := hide (sc.2.1.trans (hb9.mono sc.2.1.size))
      clear hb9
      go_wp2
      go_ret
      exact ⟨ret_str (congrArg bstr HT.out), HB.out⟩
    · have hwr := HX.out.2.2.1
      have hdr := HX.out.2.2.2
      rw [hw] at sc p8 hwr
      rw [hd] at sc p9 hdr
      have hwr2 := hwr rfl
      have hlwt := dec_len (z := wt) (by omega)
      clear hwr hdr
      have HT : Hid (Lib.join [shapeWord n, dec f, dec l, dec wt] [32] = text n (f + t) l wt d) := hide (by
        rw [join4]
        unfold text body
        rw [hw, hd, HC.out]
        simp)
      have hjl : (Lib.join [shapeWord n, dec f, dec l, dec wt] [32]).length ≤ 1000 := by rw [join4]; simp; omega
      go_wp2_with fail
      refine (decimal_any wt _ sc.2.2 (by omega) (by omega)).mono ?_
      rintro e w7 ⟨rfl, hb7⟩
      have sc7 := sc_next sc hb7
      have os7 := hos.below hb7
      have hz7 : w1.heap.size + 1 ≤ w7.heap.size := Nat.le_trans hbs hb7.size
      clear sc hos hb7 p0 p1 p2 p3 p4 p5 p6 p7 p8 p9
      go_wp2_with (at_builtin; refine wpList_append_own _ rfl _ _ 39 rfl (w1.heap.size + 1) 9 i0 (.string ⟨#[]⟩) 1 16 Tryd.underlying39 hi hz0 hz1 hz2 rfl (by decide) _ _ _ rfl (World.ownsRow.alloc os7 _) _ 1 1 [.string (bstr (dec wt))] rfl rfl (cell_one_new _ _ _) (by intro u hu; simp at hu; subst hu; rfl) (by unfold maxLen; simp) (by simp) (by simp; omega) ?_)
      intro v' w8 hown' hgrow _
      obtain ⟨hos8, sc8⟩ := os_grow os7 sc7 (by omega) (by omega) (by omega) (by omega) hown' hgrow
      have hbs8 : w1.heap.size + 1 ≤ w8.heap.size := by have := hgrow.size; simp at this; omega
      clear hown' hgrow os7 sc7 hbs hz7
      obtain ⟨⟨p0, p1, p2, p3, p4, p5, p6, p7, p8, p9⟩, _, _⟩ := id sc8
      have sc := sc8
      have hos := hos8
      have hbs := hbs8
      clear sc8 hos8 hbs8
      go_wp2_with fail
      refine (join_any _ _ [shapeWord n, dec f, dec l, dec wt] _ hos (by simp) hjl (by simp)).mono ?_
      rintro e w9 ⟨rfl, hb9⟩
      have HB := hide (sc.2.1.trans (hb9.mono sc.2.1.size))
      clear hb9
      go_wp2
      go_ret
      exact ⟨ret_str (congrArg bstr HT.out), HB.out⟩
    · have hwr := HX.out.2.2.1
      have hdr := HX.out.2.2.2
      rw [hw] at sc p8 hwr
      rw [hd] at sc p9 hdr
      have hdr2 := hdr rfl
      have hld := dec_len (z := d) (by omega)
      clear hwr hdr
      have HT : Hid (Lib.join [shapeWord n, dec f, dec l, dec d] [32] = text n (f + t) l wt d) := hide (by
        rw [join4]
        unfold text body
        rw [hw, hd, HC.out]
        simp)
      have hjl : (Lib.join [shapeWord n, dec f, dec l, dec d] [32]).length ≤ 1000 := by rw [join4]; simp; omega
      go_wp2_with fail
      refine (decimal_any d _ sc.2.2 (by omega) (by omega)).mono ?_
      rintro e w7 ⟨rfl, hb7⟩
      have sc7 := sc_next sc hb7
      have os7 := hos.below hb7
      have hz7 : w1.heap.size + 1 ≤ w7.heap.size := Nat.le_trans hbs hb7.size
      clear sc hos hb7 p0 p1 p2 p3 p4 p5 p6 p7 p8 p9
      go_wp2_with (at_builtin; refine wpList_append_own _ rfl _ _ 39 rfl (w1.heap.size + 1) 9 i0 (.string ⟨#[]⟩) 1 16 Tryd.underlying39 hi hz0 hz1 hz2 rfl (by decide) _ _ _ rfl (World.ownsRow.alloc os7 _) _ 1 1 [.string (bstr (dec d))] rfl rfl (cell_one_new _ _ _) (by intro u hu; simp at hu; subst hu; rfl) (by unfold maxLen; simp) (by simp) (by simp; omega) ?_)
      intro v' w8 hown' hgrow _
      obtain ⟨hos8, sc8⟩ := os_grow os7 sc7 (by omega) (by omega) (by omega) (by omega) hown' hgrow
      have hbs8 : w1.heap.size + 1 ≤ w8.heap.size := by have := hgrow.size; simp at this; omega
      clear hown' hgrow os7 sc7 hbs hz7
      obtain ⟨⟨p0, p1, p2, p3, p4, p5, p6, p7, p8, p9⟩, _, _⟩ := id sc8
      have sc := sc8
      have hos := hos8
      have hbs := hbs8
      clear sc8 hos8 hbs8
      go_wp2_with fail
      refine (join_any _ _ [shapeWord n, dec f, dec l, dec d] _ hos (by simp) hjl (by simp)).mono ?_
      rintro e w9 ⟨rfl, hb9⟩
      have HB := hide (sc.2.1.trans (hb9.mono sc.2.1.size))
      clear hb9
      go_wp2
      go_ret
      exact ⟨ret_str (congrArg bstr HT.out), HB.out⟩
    · have hwr := HX.out.2.2.1
      have hdr := HX.out.2.2.2
      rw [hw] at sc p8 hwr
      rw [hd] at sc p9 hdr
      clear hwr hdr
      have HT : Hid (Lib.join [shapeWord n, dec f, dec l] [32] = text n (f + t) l wt d) := hide (by
        rw [join3]
        unfold text body
        rw [hw, hd, HC.out]
        simp)
      have hjl : (Lib.join [shapeWord n, dec f, dec l] [32]).length ≤ 1000 := by rw [join3]; simp; omega
      go_wp2_with fail
      refine (join_any _ _ [shapeWord n, dec f, dec l] _ hos (by simp) hjl (by simp)).mono ?_
      rintro e w9 ⟨rfl, hb9⟩
      have HB := hide (sc.2.1.trans (hb9.mono sc.2.1.size))
      clear hb9
      go_wp2
      go_ret
      exact ⟨ret_str (congrArg bstr HT.out), HB.out⟩
  · rw [hh] at c1 sc
    have HC : Hid (f + t = t) := hide (by have := HX.out.2.1 hh; omega)
    have hlc := dec_len (z := t) (by omega)
    go_upto_region 7 with fail
    obtain ⟨⟨p0, p1, p2, p3, p4, p5, p6, p7, p8, p9⟩, _, _⟩ := id sc
    go_cut [5] from 19 to 26 (fun v5 wx => OwS wx (w1.heap.size + 1) v5 [shapeWord n, dec t, dec l] ∧ SC w w.heap.size w1.heap.size n f t l wt d (bstr (shapeWord n)) false (shapeWant n) (shapeData n) wx ∧ w1.heap.size + 1 ≤ wx.heap.size)
    case first =>
      go_region_held3 (fun w' => SC w w.heap.size w1.heap.size n f t l wt d (bstr (shapeWord n)) false (shapeWant n) (shapeData n) w' ∧ w1.heap.size + 1 ≤ w'.heap.size) (first | exact sc2_next (by assumption) (by assumption) | exact sc2_first (by assumption) | exact sc2_next (by assumption) ((Below.refl _ _).alloc (Nat.le_refl _) _)) (first | (go_at_call 14; refine (decimal_any _ _ ?_ (by omega) (by omega)).mono ?_; exact sc2_pow (by assumption); rintro e w' ⟨rfl, hb⟩))
      rename_i hz
      go_wp2_with fail
      go_meet
      exact ⟨os_lit (c_lt hz.1.1.2.2.2.2.2.2.2.1), hz.1, hz.2⟩
    case rest =>
    obtain ⟨hos, sc2, hbs⟩ := hcut
    clear sc p0 p1 p2 p3 p4 p5 p6 p7 p8 p9 q0 q1 q2 q3 q4 q5 c0 c1 c2 c3
    have sc := sc2
    clear sc2
    obtain ⟨⟨p0, p1, p2, p3, p4, p5, p6, p7, p8, p9⟩, _, _⟩ := id sc
    rcases Bool.eq_false_or_eq_true (shapeWant n) with hw | hw <;> rcases Bool.eq_false_or_eq_true (shapeData n) with hd | hd
    · have hwr := HX.out.2.2.1
      have hdr := HX.out.2.2.2
      rw [hw] at sc p8 hwr
      rw [hd] at sc p9 hdr
      have hwr2 := hwr rfl
      have hlwt := dec_len (z := wt) (by omega)
      have hdr2 := hdr rfl
      have hld := dec_len (z := d) (by omega)
      clear hwr hdr
      have HT : Hid (Lib.join [shapeWord n, dec t, dec l, dec wt, dec d] [32] = text n (f + t) l wt d) := hide (by
        rw [join5]
        unfold text body
        rw [hw, hd, HC.out]
        simp)
      have hjl : (Lib.join [shapeWord n, dec t, dec l, dec wt, dec d] [32]).length ≤ 1000 := by rw [join5]; simp; omega
      go_wp2_with fail
      refine (decimal_any wt _ sc.2.2 (by omega) (by omega)).mono ?_
      rintro e w7 ⟨rfl, hb7⟩
      have sc7 := sc_next sc hb7
      have os7 := hos.below hb7
      have hz7 : w1.heap.size + 1 ≤ w7.heap.size := Nat.le_trans hbs hb7.size
      clear sc hos hb7 p0 p1 p2 p3 p4 p5 p6 p7 p8 p9
      go_wp2_with (at_builtin; refine wpList_append_own _ rfl _ _ 39 rfl (w1.heap.size + 1) 9 i0 (.string ⟨#[]⟩) 1 16 Tryd.underlying39 hi hz0 hz1 hz2 rfl (by decide) _ _ _ rfl (World.ownsRow.alloc os7 _) _ 1 1 [.string (bstr (dec wt))] rfl rfl (cell_one_new _ _ _) (by intro u hu; simp at hu; subst hu; rfl) (by unfold maxLen; simp) (by simp) (by simp; omega) ?_)
      intro v' w8 hown' hgrow _
      obtain ⟨hos8, sc8⟩ := os_grow os7 sc7 (by omega) (by omega) (by omega) (by omega) hown' hgrow
      have hbs8 : w1.heap.size + 1 ≤ w8.heap.size := by have := hgrow.size; simp at this; omega
      clear hown' hgrow os7 sc7 hbs hz7
      obtain ⟨⟨p0, p1, p2, p3, p4, p5, p6, p7, p8, p9⟩, _, _⟩ := id sc8
      have sc := sc8
      have hos := hos8
      have hbs := hbs8
      clear sc8 hos8 hbs8
      go_wp2_with fail
      refine (decimal_any d _ sc.2.2 (by omega) (by omega)).mono ?_
      rintro e w7 ⟨rfl, hb7⟩
      have sc7 := sc_next sc hb7
      have os7 := hos.below hb7
      have hz7 : w1.heap.size + 1 ≤ w7.heap.size := Nat.le_trans hbs hb7.size
      clear sc hos hb7 p0 p1 p2 p3 p4 p5 p6 p7 p8 p9
      go_wp2_with (at_builtin; refine wpList_append_own _ rfl _ _ 39 rfl (w1.heap.size + 1) 9 i0 (.string ⟨#[]⟩) 1 16 Tryd.underlying39 hi hz0 hz1 hz2 rfl (by decide) _ _ _ rfl (World.ownsRow.alloc os7 _) _ 1 1 [.string (bstr (dec d))] rfl rfl (cell_one_new _ _ _) (by intro u hu; simp at hu; subst hu; rfl) (by unfold maxLen; simp) (by simp) (by simp; omega) ?_)
      intro v' w8 hown' hgrow _
      obtain ⟨hos8, sc8⟩ := os_grow os7 sc7 (by omega) (by omega) (by omega) (by omega) hown' hgrow
      have hbs8 : w1.heap.size + 1 ≤ w8.heap.size := by have := hgrow.size; simp at this; omega
      clear hown' hgrow os7 sc7 hbs hz7
      obtain ⟨⟨p0, p1, p2, p3, p4, p5, p6, p7, p8, p9⟩, _, _⟩ := id sc8
      have sc := sc8
      have hos := hos8
      have hbs := hbs8
      clear sc8 hos8 hbs8
      go_wp2_with fail
      refine (join_any _ _ [shapeWord n, dec t, dec l, dec wt, dec d] _ hos (by simp) hjl (by simp)).mono ?_
      rintro e w9 ⟨rfl, hb9⟩
      have HB := hide (sc.2.1.trans (hb9.mono sc.2.1.size))
      clear hb9
      go_wp2
      go_ret
      exact ⟨ret_str (congrArg bstr HT.out), HB.out⟩
    · have hwr := HX.out.2.2.1
      have hdr := HX.out.2.2.2
      rw [hw] at sc p8 hwr
      rw [hd] at sc p9 hdr
      have hwr2 := hwr rfl
      have hlwt := dec_len (z := wt) (by omega)
      clear hwr hdr
      have HT : Hid (Lib.join [shapeWord n, dec t, dec l, dec wt] [32] = text n (f + t) l wt d) := hide (by
        rw [join4]
        unfold text body
        rw [hw, hd, HC.out]
        simp)
      have hjl : (Lib.join [shapeWord n, dec t, dec l, dec wt] [32]).length ≤ 1000 := by rw [join4]; simp; omega
      go_wp2_with fail
      refine (decimal_any wt _ sc.2.2 (by omega) (by omega)).mono ?_
      rintro e w7 ⟨rfl, hb7⟩
      have sc7 := sc_next sc hb7
      have os7 := hos.below hb7
      have hz7 : w1.heap.size + 1 ≤ w7.heap.size := Nat.le_trans hbs hb7.size
      clear sc hos hb7 p0 p1 p2 p3 p4 p5 p6 p7 p8 p9
      go_wp2_with (at_builtin; refine wpList_append_own _ rfl _ _ 39 rfl (w1.heap.size + 1) 9 i0 (.string ⟨#[]⟩) 1 16 Tryd.underlying39 hi hz0 hz1 hz2 rfl (by decide) _ _ _ rfl (World.ownsRow.alloc os7 _) _ 1 1 [.string (bstr (dec wt))] rfl rfl (cell_one_new _ _ _) (by intro u hu; simp at hu; subst hu; rfl) (by unfold maxLen; simp) (by simp) (by simp; omega) ?_)
      intro v' w8 hown' hgrow _
      obtain ⟨hos8, sc8⟩ := os_grow os7 sc7 (by omega) (by omega) (by omega) (by omega) hown' hgrow
      have hbs8 : w1.heap.size + 1 ≤ w8.heap.size := by have := hgrow.size; simp at this; omega
      clear hown' hgrow os7 sc7 hbs hz7
      obtain ⟨⟨p0, p1, p2, p3, p4, p5, p6, p7, p8, p9⟩, _, _⟩ := id sc8
      have sc := sc8
      have hos := hos8
      have hbs := hbs8
      clear sc8 hos8 hbs8
      go_wp2_with fail
      refine (join_any _ _ [shapeWord n, dec t, dec l, dec wt] _ hos (by simp) hjl (by simp)).mono ?_
      rintro e w9 ⟨rfl, hb9⟩
      have HB := hide (sc.2.1.trans (hb9.mono sc.2.1.size))
      clear hb9
      go_wp2
      go_ret
      exact ⟨ret_str (congrArg bstr HT.out), HB.out⟩
    · have hwr := HX.out.2.2.1
      have hdr := HX.out.2.2.2
      rw [hw] at sc p8 hwr
      rw [hd] at sc p9 hdr
      have hdr2 := hdr rfl
      have hld := dec_len (z := d) (by omega)
      clear hwr hdr
      have HT : Hid (Lib.join [shapeWord n, dec t, dec l, dec d] [32] = text n (f + t) l wt d) := hide (by
        rw [join4]
        unfold text body
        rw [hw, hd, HC.out]
        simp)
      have hjl : (Lib.join [shapeWord n, dec t, dec l, dec d] [32]).length ≤ 1000 := by rw [join4]; simp; omega
      go_wp2_with fail
      refine (decimal_any d _ sc.2.2 (by omega) (by omega)).mono ?_
      rintro e w7 ⟨rfl, hb7⟩
      have sc7 := sc_next sc hb7
      have os7 := hos.below hb7
      have hz7 : w1.heap.size + 1 ≤ w7.heap.size := Nat.le_trans hbs hb7.size
      clear sc hos hb7 p0 p1 p2 p3 p4 p5 p6 p7 p8 p9
      go_wp2_with (at_builtin; refine wpList_append_own _ rfl _ _ 39 rfl (w1.heap.size + 1) 9 i0 (.string ⟨#[]⟩) 1 16 Tryd.underlying39 hi hz0 hz1 hz2 rfl (by decide) _ _ _ rfl (World.ownsRow.alloc os7 _) _ 1 1 [.string (bstr (dec d))] rfl rfl (cell_one_new _ _ _) (by intro u hu; simp at hu; subst hu; rfl) (by unfold maxLen; simp) (by simp) (by simp; omega) ?_)
      intro v' w8 hown' hgrow _
      obtain ⟨hos8, sc8⟩ := os_grow os7 sc7 (by omega) (by omega) (by omega) (by omega) hown' hgrow
      have hbs8 : w1.heap.size + 1 ≤ w8.heap.size := by have := hgrow.size; simp at this; omega
      clear hown' hgrow os7 sc7 hbs hz7
      obtain ⟨⟨p0, p1, p2, p3, p4, p5, p6, p7, p8, p9⟩, _, _⟩ := id sc8
      have sc := sc8
      have hos := hos8
      have hbs := hbs8
      clear sc8 hos8 hbs8
      go_wp2_with fail
      refine (join_any _ _ [shapeWord n, dec t, dec l, dec d] _ hos (by simp) hjl (by simp)).mono ?_
      rintro e w9 ⟨rfl, hb9⟩
      have HB := hide (sc.2.1.trans (hb9.mono sc.2.1.size))
      clear hb9
      go_wp2
      go_ret
      exact ⟨ret_str (congrArg bstr HT.out), HB.out⟩
    · have hwr := HX.out.2.2.1
      have hdr := HX.out.2.2.2
      rw [hw] at sc p8 hwr
      rw [hd] at sc p9 hdr
      clear hwr hdr
      have HT : Hid (Lib.join [shapeWord n, dec t, dec l] [32] = text n (f + t) l wt d) := hide (by
        rw [join3]
        unfold text body
        rw [hw, hd, HC.out]
        simp)
      have hjl : (Lib.join [shapeWord n, dec t, dec l] [32]).length ≤ 1000 := by rw [join3]; simp; omega
      go_wp2_with fail
      refine (join_any _ _ [shapeWord n, dec t, dec l] _ hos (by simp) hjl (by simp)).mono ?_
      rintro e w9 ⟨rfl, hb9⟩
      have HB := hide (sc.2.1.trans (hb9.mono sc.2.1.size))
      clear hb9
      go_wp2
      go_ret
      exact ⟨ret_str (congrArg bstr HT.out), HB.out⟩

end Go.Proofs.YtpebiebckdmopaaDoor
