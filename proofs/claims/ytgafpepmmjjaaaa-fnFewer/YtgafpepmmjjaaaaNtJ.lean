/- nets: spec.l12Dists -/
import Derived.Test.YtgafpepmmjjaaaaNtI
namespace Go.Proofs.Ytgafpepmmjjaaaa
open Go.RowKit
set_option linter.unusedVariables false
set_option linter.unusedSimpArgs false

def rl (M : Nat) (o : Nat → Int) : List Int := (List.range M).map o
theorem rl_length (M : Nat) (o : Nat → Int) : (rl M o).length = M := by simp [rl]
theorem rl_get {M : Nat} {o : Nat → Int} {i : Nat} (h : i < M) : (rl M o)[i]? = some (o i) := by simp [rl, h]
theorem rl_congr {M : Nat} {o o' : Nat → Int} (h : ∀ i, i < M → o i = o' i) : rl M o = rl M o' := by
  unfold rl
  exact List.map_congr_left (fun i hi => h i (by simpa using hi))
def nput (o : Nat → Int) (B : Nat) (x : Int) : Nat → Int := fun v => if v = B then x else o v
theorem nput_same (o : Nat → Int) (B : Nat) (x : Int) : nput o B x B = x := if_pos rfl
theorem nput_other (o : Nat → Int) {B v : Nat} (x : Int) (h : v ≠ B) : nput o B x v = o v := if_neg h
theorem rl_put (M : Nat) (o : Nat → Int) (B : Nat) (x : Int) : (rl M o).set B x = rl M (nput o B x) := by
  apply List.ext_getElem?
  intro i
  by_cases hi : i < M
  · rw [rl_get hi]
    by_cases e : i = B
    · subst e; rw [List.getElem?_set_self (by rw [rl_length]; exact hi), nput_same]
    · rw [List.getElem?_set_ne (by omega), rl_get hi, nput_other _ _ e]
  · rw [List.getElem?_eq_none (by rw [List.length_set, rl_length]; omega), List.getElem?_eq_none (by rw [rl_length]; omega)]

/-- a row of M numbers of one's own, in block g -/
def Od (w : World) (base g cap M : Nat) (o : Nat → Int) : Prop := w.ownsRow base 2 1 (.slice (some ⟨g, 0, none⟩) M cap) M ((rl M o).map (Value.int .i64))
theorem Od.cell {w : World} {base g cap M : Nat} {o : Nat → Int} (h : Od w base g cap M o) {i : Nat} (hi : i < M) : w.cell? ⟨g, i, none⟩ = some (.int .i64 (o i)) := by
  have := World.ownsRow.cellAt h i (by omega)
  rw [this, List.getElem?_map, rl_get hi]; rfl
theorem Od.fr {w : World} {base g cap M : Nat} {o : Nat → Int} (h : Od w base g cap M o) (i : Nat) : w.frozen? ⟨g, i, none⟩ = false := World.ownsRow.frozenAt h i
theorem Od.blk {w : World} {base g cap M : Nat} {o : Nat → Int} (h : Od w base g cap M o) : base ≤ g ∧ g < w.heap.size := World.ownsRow.lt h g rfl
theorem Od.below {w w' : World} {base g cap M : Nat} {o : Nat → Int} (h : Od w base g cap M o) (hb : Below w.heap.size w w') : Od w' base g cap M o := by
  refine World.ownsRow.kept h (grown_of_below hb) ?_
  exact .inr (by show ¬ (some g = none); simp)
theorem Od.put {w : World} {base g cap M : Nat} {o : Nat → Int} (h : Od w base g cap M o) (B : Nat) (x : Int) : Od (w.setCell ⟨g, B, none⟩ (.int .i64 x)) base g cap M (nput o B x) := by
  have h2 := (World.ownsRow.stored h B (.int .i64 x)).1
  unfold Od
  rw [← rl_put, List.map_set]
  exact h2
theorem Od.ow {w : World} {base g cap M : Nat} {o : Nat → Int} (h : Od w base g cap M o) : Ow w base (.slice (some ⟨g, 0, none⟩) M cap) (rl M o) := by
  unfold Ow
  rw [rl_length]
  exact h
theorem Od.congr {w : World} {base g cap M : Nat} {o o' : Nat → Int} (h : Od w base g cap M o) (he : ∀ i, i < M → o i = o' i) : Od w base g cap M o' := by
  unfold Od
  rw [← rl_congr he]
  exact h
theorem Od.lower {w : World} {base base' g cap M : Nat} {o : Nat → Int} (h : Od w base g cap M o) (hb : base' ≤ base) : Od w base' g cap M o := by
  obtain ⟨h1, h2⟩ := h
  refine ⟨h1, ?_⟩
  rcases h2 with h2 | ⟨g', cap', cur, e, hb', r⟩
  · exact .inl h2
  · exact .inr ⟨g', cap', cur, e, Nat.le_trans hb hb', r⟩

theorem Ow.empty_made (w : World) : Ow (w.alloc (.cells #[] 2)) w.heap.size (.slice (some ⟨w.heap.size, 0, none⟩) 0 0) [] :=
  World.ownsRow_made w #[] 0 (Nat.le_refl _) (by unfold maxLen; omega) rfl
theorem Ow.empty_made' (w : World) (base : Nat) (hb : base ≤ w.heap.size) : Ow (w.alloc (.cells #[] 2)) base (.slice (some ⟨w.heap.size, 0, none⟩) 0 0) [] := (Ow.empty_made w).mono hb

/-- the world of l12Dists' loops -/
structure Dl (w wr : World) (M : Nat) (v : Value) (g cap : Nat) (o : Nat → Int) : Prop where
  box : wr.heap[w.heap.size]? = some (.cells (nt M v) 26 (0, 0))
  row : Od wr w.heap.size g cap M o
  bl : Below w.heap.size w wr
  ne : w.heap.size < g
theorem Dl.put {w wr : World} {M : Nat} {v : Value} {g cap : Nat} {o : Nat → Int} (h : Dl w wr M v g cap o) (B : Nat) (x : Int) : Dl w (wr.setCell ⟨g, B, none⟩ (.int .i64 x)) M v g cap (nput o B x) :=
  ⟨by rw [heap_setCell_other _ _ _ _ (by simpa using (show w.heap.size ≠ g by have := h.ne; omega))]; exact h.box, h.row.put B x, h.bl.setCell h.row.blk.1 _, h.ne⟩
theorem Dl.next {w wr w2 : World} {M : Nat} {v : Value} {g cap : Nat} {o : Nat → Int} (h : Dl w wr M v g cap o) (hb : Below wr.heap.size wr w2) : Dl w w2 M v g cap o :=
  ⟨(hb.block _ (lt_of_block h.box)).trans h.box, h.row.below hb, h.bl.trans (hb.mono h.bl.size), h.ne⟩

set_option maxHeartbeats 8000000 in
set_option maxRecDepth 20000 in
theorem specDists_lv (M : Nat) (v : Value) (n : Nat) (f : Nat → Nat → Int) (s : Nat) (w : World) (hs : Sr w v 2 n f) (hl : n ≤ 1048576) (hM : M ≤ 6) (hsM : s < M) (HR : Hid (∀ x y, jn n f x y = true → 0 ≤ x ∧ x < M)) :
    Calls Try.prog 35 #[.agg (nt M v), .int .i64 s] w fun e w' => ∃ g cap o, e = .returned (.slice (some ⟨g, 0, none⟩) M cap) ∧ Od w' w.heap.size g cap M o ∧ Lv (jn n f) M s o M 0 0 ∧ Below w.heap.size w w' := by
  have HS := hide hs
  obtain ⟨ad, cap0, rfl, _⟩ := hs
  obtain ⟨i0, hi, hz0, hz1, hz2⟩ := info_parts Try.info2
  have hB0 : Below w.heap.size w ((w.alloc (.cells (nt M (.slice ad n cap0)) 26)).alloc (.cells #[] 2)) := ((Below.refl _ _).alloc (Nat.le_refl _) _).alloc (by simp) _
  have hbx : ((w.alloc (.cells (nt M (.slice ad n cap0)) 26)).alloc (.cells #[] 2)).heap[w.heap.size]? = some (.cells (nt M (.slice ad n cap0)) 26 (0, 0)) := by
    rw [Below.heap_alloc _ _ _ (by simp)]; exact heap_alloc_new _ _
  have how : Ow ((w.alloc (.cells (nt M (.slice ad n cap0)) 26)).alloc (.cells #[] 2)) (w.heap.size + 1) (.slice (some ⟨w.heap.size + 1, 0, none⟩) 0 0) [] := by
    have := Ow.empty_made (w.alloc (.cells (nt M (.slice ad n cap0)) 26))
    rwa [World.size_alloc] at this
  have hM9 : (M : Int) ≤ 6 := by omega
  have HW : Hid (Below w.heap.size w ((w.alloc (.cells (nt M (.slice ad n cap0)) 26)).alloc (.cells #[] 2)) ∧ ((w.alloc (.cells (nt M (.slice ad n cap0)) 26)).alloc (.cells #[] 2)).heap[w.heap.size]? = some (.cells (nt M (.slice ad n cap0)) 26 (0, 0)) ∧ Ow ((w.alloc (.cells (nt M (.slice ad n cap0)) 26)).alloc (.cells #[] 2)) (w.heap.size + 1) (.slice (some ⟨w.heap.size + 1, 0, none⟩) 0 0) []) := hide ⟨hB0, hbx, how⟩
  clear hB0 hbx how
  go_enter Try.func35, Try.ntmps35
  go_wp2
  go_loopw [5, 6] (fun t i wr => ∃ k : Nat, k ≤ M ∧ i = .int .i64 k ∧ Ow wr (w.heap.size + 1) t (rl k (fun _ => -1)) ∧ wr.heap[w.heap.size]? = some (.cells (nt M (.slice ad n cap0)) 26 (0, 0)) ∧ Hid (Below w.heap.size w wr)) (fun _ i _ => M - (intOf i).toNat)
  case atStart => exact ⟨0, Nat.zero_le _, rfl, HW.out.2.2, HW.out.2.1, hide HW.out.1⟩
  case round =>
    obtain ⟨k, hk, rfl, hok, hbx, HB⟩ := hrel
    clear HW
    obtain ⟨_, n0, n1⟩ := row2_facts hbx
    have hszb := lt_of_block hbx
    by_cases hlt : k < M
    · have hlen : (rl k (fun _ => (-1 : Int))).length = k := rl_length _ _
      have HU : Hid (rl (k + 1) (fun _ => (-1 : Int)) = rl k (fun _ => -1) ++ [-1]) := hide (by simp [rl, List.range_succ])
      have hgb : ∀ w1, (wr.alloc (.cells #[.int .i64 (-1)] 2)).grownBy w1 u5.ownBlock → w1.heap[w.heap.size]? = some (.cells (nt M (.slice ad n cap0)) 26 (0, 0)) ∧ Below w.heap.size w w1 := fun w1 hg => by
        have hlt5 : ∀ j, u5.ownBlock = some j → w.heap.size + 1 ≤ j := fun j hj => (World.ownsRow.lt hok j hj).1
        refine ⟨(hg.block _ (by simp; omega) (fun e => by have := hlt5 _ e.symm; omega)).trans ((Below.heap_alloc _ _ _ hszb).trans hbx), ?_⟩
        exact (HB.out.alloc (by omega) _).grown hg (by simp; omega) (fun j hj => by have := hlt5 j hj; omega)
      have HG := hide hgb
      clear hgb
      have hwl : (rl k (fun _ => (-1 : Int))).length + 1 ≤ 7 := by omega
      clear hlen
      go_wp2_with (at_builtin; refine wpList_append_own _ rfl _ _ 32 rfl (w.heap.size + 1) 2 i0 (.int .i64 0) 1 8 Try.underlying32 hi hz0 hz1 hz2 rfl (by decide) _ _ _ rfl (World.ownsRow.alloc hok _) _ 1 1 [.int .i64 (-1)] rfl rfl (cell_one_new _ _ _) (by intro u hu; simp at hu; subst hu; rfl) (by unfold maxLen; omega) (by omega) (by simp; omega) ?_)
      intro v' w1 hown' hgrow _
      have hR := Ow.snoc hown'
      rw [← HU.out] at hR
      have HX := hide (And.intro hR (HG.out w1 hgrow))
      clear hown' hgrow hR hok HB HG hbx n0 n1
      go_wp2
      go_roundw
      case rel => exact ⟨k + 1, by omega, by go_num, HX.out.1, HX.out.2.1, hide HX.out.2.2⟩
      case measure => simp [intOf]; omega
    · have e : k = M := by omega
      have hok' : Ow wr (w.heap.size + 1) u5 (rl M (fun _ => -1)) := by rw [← e]; exact hok
      obtain ⟨ad', cap, rfl, hp⟩ := hok'.form
      rw [rl_length] at hp
      obtain ⟨g, rfl⟩ := hp (by omega)
      have hod : Od wr (w.heap.size + 1) g cap M (fun _ => -1) := by
        have h2 := hok'
        unfold Ow at h2
        rw [rl_length] at h2
        exact h2
      have hgb := hod.blk
      have HD : Hid (Dl w wr M (.slice ad n cap0) g cap (fun _ => -1)) := hide ⟨hbx, hod.lower (by omega), HB.out, by omega⟩
      have hg1 : wr.frozen? ⟨g, s, none⟩ = false := hod.fr s
      have hg2 := hod.cell hsM
      have HD2 := hide (HD.out.put s 0)
      have HL : Hid (Lv (jn n f) M s (nput (fun _ => -1) s 0) 0 0 0) := hide (Lv.start _ M s _ (nput_same _ _ _) (fun v hv => nput_other _ _ hv))
      rw [rl_length]
      clear hok hok' HB hod HD hp e hk
      go_wp2
      go_loopw [7] (fun i wr => ∃ d : Nat, d ≤ M ∧ i = .int .i64 d ∧ ∃ o, Dl w wr M (.slice ad n cap0) g cap o ∧ Hid (Lv (jn n f) M s o d 0 0)) (fun i _ => M - (intOf i).toNat)
      case atStart => exact ⟨0, Nat.zero_le _, rfl, _, HD2.out, HL⟩
      case round =>
        obtain ⟨d, hd, rfl, o, hdl, HL⟩ := hrel
        clear HD2 hg1 hg2 hbx n0 n1 hszb hgb
        obtain ⟨_, n0, n1⟩ := row2_facts hdl.box
        by_cases hdM : d < M
        · have HD2 := hide hdl
          clear hdl
          go_wp2
          go_loopw [8] (fun i wr => ∃ a : Nat, a ≤ M ∧ i = .int .i64 a ∧ ∃ o, Dl w wr M (.slice ad n cap0) g cap o ∧ Hid (Lv (jn n f) M s o d a 0)) (fun i _ => M - (intOf i).toNat)
          case atStart => exact ⟨0, Nat.zero_le _, rfl, _, HD2.out, HL⟩
          case round =>
            obtain ⟨a, ha, rfl, o, hdl, HL⟩ := hrel
            clear HD2 n0 n1
            obtain ⟨_, n0, n1⟩ := row2_facts hdl.box
            by_cases haM : a < M
            · have HD2 := hide hdl
              clear hdl
              go_wp2
              go_loopw [9] (fun i wr => ∃ b : Nat, b ≤ M ∧ i = .int .i64 b ∧ ∃ o, Dl w wr M (.slice ad n cap0) g cap o ∧ Hid (Lv (jn n f) M s o d a b)) (fun i _ => M - (intOf i).toNat)
              case atStart => exact ⟨0, Nat.zero_le _, rfl, _, HD2.out, HL⟩
              case round =>
                obtain ⟨b, hb, rfl, o, hdl, HL⟩ := hrel
                clear HD2 n0 n1
                obtain ⟨_, n0, n1⟩ := row2_facts hdl.box
                have ca := hdl.row.cell haM
                by_cases hbM : b < M
                · obtain ⟨x, hx⟩ : ∃ x, o a = x := ⟨_, rfl⟩
                  rw [hx] at ca
                  have HX := hide hx
                  clear hx
                  by_cases hxd : x = d
                  · have hxe : (x == (d : Int)) = true := by simpa using hxd
                    have cb := hdl.row.cell hbM
                    obtain ⟨y, hy⟩ : ∃ y, o b = y := ⟨_, rfl⟩
                    rw [hy] at cb
                    have HY := hide hy
                    clear hy
                    have HE := hide hxd
                    clear hxd
                    by_cases hy0 : y < 0
                    · have hy1 : decide (y < 0) = true := by simpa using hy0
                      have hJ := fun W h => specJoined_any M (.slice ad n cap0) n f a b W h hl
                      have HSw := hide (HS.out.below hdl.bl)
                      have HDl := hide hdl
                      have HYN := hide hy0
                      clear hdl hy0
                      cases hr : jn n f a b
                      · have HL2 : Hid (Lv (jn n f) M s o d a (b + 1)) := hide (HL.out.skip (fun _ => hr))
                        rw [hr] at hJ
                        clear hr HL
                        go_wp2_with (go_at_call 43; refine (hJ _ HSw.out).mono ?_; rintro e w2 ⟨rfl, hb2⟩)
                        have HD3 := hide (HDl.out.next hb2)
                        clear hb2
                        go_roundw
                        case rel => exact ⟨b + 1, by omega, by go_num, _, HD3.out, HL2⟩
                        case measure => simp [intOf]; omega
                      · have HL2 : Hid (Lv (jn n f) M s (nput o b ((d : Int) + 1)) d a (b + 1)) := hide (HL.out.put haM hbM (by rw [HX.out, HE.out]) (by rw [HY.out]; exact HYN.out) hr _ (nput_same _ _ _) (fun v hv => nput_other _ _ hv))
                        rw [hr] at hJ
                        clear hr HL
                        go_wp2_with (go_at_call 43; refine (hJ _ HSw.out).mono ?_; rintro e w2 ⟨rfl, hb2⟩; have HD3 := hide (HDl.out.next hb2); have c2 := HD3.out.row.cell hbM; have c3 := HD3.out.row.fr b; clear hb2)
                        have HD4 := hide (HD3.out.put b ((d : Int) + 1))
                        go_roundw
                        case rel => exact ⟨b + 1, by omega, by go_num, _, HD4.out, HL2⟩
                        case measure => simp [intOf]; omega
                    · have hy1 : decide (y < 0) = false := by simpa using hy0
                      have HL2 : Hid (Lv (jn n f) M s o d a (b + 1)) := hide (HL.out.skip (fun h => absurd (HY.out ▸ h) hy0))
                      have HDl := hide hdl
                      clear hdl hy0 HL
                      go_wp2
                      go_roundw
                      case rel => exact ⟨b + 1, by omega, by go_num, _, HDl.out, HL2⟩
                      case measure => simp [intOf]; omega
                  · have hxe : (x == (d : Int)) = false := by simpa using hxd
                    have HL2 : Hid (Lv (jn n f) M s o d (a + 1) 0) := hide (HL.out.node (.inr (by rw [HX.out]; exact hxd)))
                    have HDl := hide hdl
                    clear hdl hxd HL
                    go_wp2
                    go_roundw
                    case rel => exact ⟨a + 1, by omega, by go_num, _, HDl.out, HL2⟩
                    case measure => simp [intOf]; omega
                · have HL2 : Hid (Lv (jn n f) M s o d (a + 1) 0) := hide (HL.out.node (.inl (by omega)))
                  have HDl := hide hdl
                  clear hdl HL ca
                  go_wp2
                  go_roundw
                  case rel => exact ⟨a + 1, by omega, by go_num, _, HDl.out, HL2⟩
                  case measure => simp [intOf]; omega
            · have e : a = M := by omega
              have HL2 : Hid (Lv (jn n f) M s o (d + 1) 0 0) := hide (by rw [e] at HL; exact HL.out.round HR.out)
              have HDl := hide hdl
              clear hdl HL e
              go_wp2
              go_roundw
              case rel => exact ⟨d + 1, by omega, by go_num, _, HDl.out, HL2⟩
              case measure => simp [intOf]; omega
        · have e : d = M := by omega
          have HX : Hid (Od wr w.heap.size g cap M o ∧ Lv (jn n f) M s o M 0 0 ∧ Below w.heap.size w wr) := hide ⟨hdl.row, by rw [e] at HL; exact HL.out, hdl.bl⟩
          clear hdl HL e
          go_wp2
          go_ret
          exact ⟨_, _, _, rfl, HX.out.1, HX.out.2.1, HX.out.2.2⟩

/-- how far all are from s -/
theorem specDists_any (M : Nat) (v : Value) (n : Nat) (f : Nat → Nat → Int) (s : Nat) (w : World) (hs : Sr w v 2 n f) (hl : n ≤ 1048576) (hn : Nt M n f) (hsM : s < M) :
    Calls Try.prog 35 #[.agg (nt M v), .int .i64 s] w fun e w' => ∃ g cap, e = .returned (.slice (some ⟨g, 0, none⟩) M cap) ∧ Od w' w.heap.size g cap M (fun i => dst (jn n f) s i) ∧ Below w.heap.size w w' := by
  have hM : M ≤ 6 := by have := hn.hi; omega
  refine (specDists_lv M v n f s w hs hl hM hsM (hide (fun x y h => by have := jn_lt hn h; omega))).mono ?_
  rintro e w' ⟨g, cap, o, rfl, ho, hlv, hb⟩
  exact ⟨g, cap, rfl, ho.congr (fun i hi => hlv.all (fun x y h => by have := jn_lt hn h; omega) (by omega) i hi), hb⟩

end Go.Proofs.Ytgafpepmmjjaaaa
