/- rows of acts that grow; impl.readThread -/
import Derived.Test.YtokekgfompbdiaaDoorRlA
import Derived.ArgAppend
import Derived.Deep.AppendLies
namespace Go.Proofs.YtokekgfompbdiaaDoor
open Go.RowKit
set_option linter.unusedVariables false
set_option linter.unusedSimpArgs false

def cA (a : Ac) : List Value := [.int .i64 a.k, .int .i64 a.co, .int .i64 a.va, .int .i64 a.vl, .int .i64 a.rg]
def cAs (xa : List Ac) : List Value := xa.flatMap cA
/-- a row of acts of the call's own -/
def OwA (w : World) (base : Nat) (v : Value) (xa : List Ac) : Prop := w.ownsRow base 42 5 v xa.length (cAs xa)
theorem OwA.below {w w' : World} {base : Nat} {v : Value} {xa : List Ac} (h : OwA w base v xa) (hb : Below w.heap.size w w') : OwA w' base v xa := by
  refine World.ownsRow.kept h (grown_of_below hb) ?_
  cases hv : v.ownBlock with
  | none => exact .inl rfl
  | some k => exact .inr (by simp)
theorem OwA.nil (w : World) (base : Nat) : OwA w base (.slice none 0 0) [] := World.ownsRow_nil _ _ _ _
theorem OwA.mono {w : World} {base base' : Nat} {v : Value} {xa : List Ac} (h : OwA w base v xa) (hb : base' ≤ base) : OwA w base' v xa := by
  refine ⟨h.1, ?_⟩
  rcases h.2 with q | ⟨g, cap, cur, q, q1, q2⟩
  · exact .inl q
  · exact .inr ⟨g, cap, cur, q, by omega, q2⟩
theorem cA_get (a : Ac) {i : Nat} (hi : i < 5) : (cA a)[i]? = some (.int .i64 (a.at i)) := by
  match i, hi with
  | 0, _ => rfl
  | 1, _ => rfl
  | 2, _ => rfl
  | 3, _ => rfl
  | 4, _ => rfl
theorem cAs_get : ∀ (xa : List Ac) (j i : Nat), j < xa.length → i < 5 → (cAs xa)[j * 5 + i]? = some (.int .i64 (fF xa j i))
  | [], j, i, hj, _ => by simp at hj
  | a :: xa, 0, i, _, hi => by
    show (cA a ++ cAs xa)[0 * 5 + i]? = _
    rw [List.getElem?_append_left (by simp [cA]; omega), Nat.zero_mul, Nat.zero_add, cA_get a hi]
    rfl
  | a :: xa, j + 1, i, hj, hi => by
    show (cA a ++ cAs xa)[(j + 1) * 5 + i]? = _
    rw [List.getElem?_append_right (by simp [cA]; omega)]
    have e : (j + 1) * 5 + i - (cA a).length = j * 5 + i := by simp [cA]; omega
    rw [e, cAs_get xa j i (by simpa using hj) hi]
    simp [fF]
theorem OwA.sr {w : World} {base : Nat} {v : Value} {xa : List Ac} (h : OwA w base v xa) : Sr w v 5 xa.length (fF xa) := by
  rcases h.2 with ⟨h', hn⟩ | ⟨g, cap, cur, h', hb, hg, hnc, hcm, hcs, htake⟩
  · exact ⟨none, 0, by rw [hn]; exact h', fun hp => by omega⟩
  · have hh : w.ownsRow base 42 5 (.slice (some ⟨g, 0, none⟩) xa.length cap) xa.length (cAs xa) := h' ▸ h
    refine ⟨_, cap, h', fun _ => ⟨g, 0, rfl, fun j hj i hi => ?_⟩⟩
    rw [Nat.zero_add, hh.cellAt _ (by omega), cAs_get xa j i hj hi]
theorem OwA.snoc {w : World} {base : Nat} {v : Value} {xa : List Ac} {a : Ac} (h : w.ownsRow base 42 5 v (xa.length + 1) (cAs xa ++ cA a)) : OwA w base v (xa ++ [a]) := by
  unfold OwA
  simpa [cAs] using h
theorem OwA.more {w wx wy : World} {base : Nat} {v v' : Value} {xa : List Ac} {a : Ac} {o : Obj} (hb : Below base w wx) (hz : base ≤ wx.heap.size) (ho : OwA wx base v xa)
    (ho' : wy.ownsRow base 42 5 v' (xa.length + 1) (cAs xa ++ cA a)) (hg : (wx.alloc o).grownBy wy v.ownBlock) : OwA wy base v' (xa ++ [a]) ∧ Below base w wy :=
  ⟨OwA.snoc ho', (hb.alloc hz _).grown hg (by simp; omega) (fun j hj => (World.ownsRow.lt ho j hj).1)⟩
theorem news5 (W : World) (a : Ac) : ∀ j x, (cA a)[j]? = some x → (W.alloc (.cells (five a.k a.co a.va a.vl a.rg) 42)).cell? ((⟨W.heap.size, 0, none⟩ : Addr).add j) = some x := World.news_of_block (cs := five a.k a.co a.va a.vl a.rg) (heap_alloc_new _ _)
theorem one5 (a : Ac) : ∀ u ∈ cA a, u.oneCell' = true := by
  intro u hu
  simp only [cA, List.mem_cons, List.not_mem_nil, or_false] at hu
  rcases hu with rfl | rfl | rfl | rfl | rfl <;> rfl

/-- the loop: k texts are read -/
theorem rdAs_app {i : Int} : ∀ (xs ys : List By), rdAs i (xs ++ ys) = match rdAs i xs, rdAs i ys with
    | some a, some b => some (a ++ b)
    | _, _ => none
  | [], ys => by simp [rdAs]; cases rdAs i ys <;> rfl
  | x :: xs, ys => by
    rw [List.cons_append, rdAs, rdAs_app xs ys, rdAs]
    cases rdW (Spg.sp 32 x) <;> cases rdAs i xs <;> cases rdAs i ys <;> rfl
theorem rdAs_step {i : Int} {xs : List By} {k : Nat} {xa : List Ac} (hk : k < xs.length) (h : rdAs i (xs.take k) = some xa) {b : Ac} (hb : rdW (Spg.sp 32 (xs.getD k [])) = some b) : rdAs i (xs.take (k + 1)) = some (xa ++ [b.on i]) := by
  have e : xs.take (k + 1) = xs.take k ++ [xs.getD k []] := by
    rw [List.take_add_one]; simp [List.getElem?_eq_getElem hk]
  rw [e, rdAs_app, h, rdAs, hb, rdAs]
theorem rdAs_stop {i : Int} {xs : List By} {k : Nat} (hk : k < xs.length) (hb : rdW (Spg.sp 32 (xs.getD k [])) = none) : rdAs i xs = none := by
  have e : xs = xs.take k ++ (xs.getD k [] :: xs.drop (k + 1)) := by
    have : xs.getD k [] :: xs.drop (k + 1) = xs.drop k := by
      rw [List.drop_eq_getElem_cons hk]; simp [List.getElem?_eq_getElem hk]
    rw [this, List.take_append_drop]
  rw [e, rdAs_app, rdAs, hb]
  cases rdAs i (xs.take k) <;> rfl
theorem rdAs_len {i : Int} : ∀ {xs : List By} {xa : List Ac}, rdAs i xs = some xa → xa.length = xs.length := fun h => by
  have := rdAs_back h
  rw [← this, List.length_map]

/-- what readThread answers -/
def RtPost (i : Int) (s : By) (w : World) (e : Ending) (w' : World) : Prop := Below w.heap.size w w' ∧ ((rdT i s = none ∧ e = .returned (.tuple #[.slice none 0 0, .bool false])) ∨ ∃ xa v, rdT i s = some xa ∧ e = .returned (.tuple #[v, .bool true]) ∧ OwA w' w.heap.size v xa)

set_option maxRecDepth 20000 in
set_option maxHeartbeats 4000000 in
theorem readThread_any (s : By) (i : Int) (w : World) (hm : Mx w) (hs : s.length ≤ 1048576) : Calls Tryd.prog 17 #[.string (bstr s), .int .i64 i] w (RtPost i s w) := by
  obtain ⟨i0, hi, hz0, hz1, hz2⟩ := info_parts infoBAct
  have HS := hide (split_any s [44, 32] w hm hs (by decide))
  have hcount := sK_count [44, 32] s (by decide)
  have HT : Hid (rdT i s = match sK [44, 32] s with | [] => none | x :: xs => if x = [100, 111] then rdAs i xs else none) := hide rfl
  go_enter Tryd.func17, Tryd.ntmps17
  go_wp2_with fail
  refine HS.out.mono ?_
  rintro e w1 ⟨g, rfl, hwd, hb1⟩
  have HM1 := hide (hm.below hb1)
  cases hk : sK [44, 32] s with
  | nil => exact absurd hk (Spj.splitK_ne _ _ _)
  | cons x xs =>
    rw [hk] at HT hwd hcount
    simp only at HT
    obtain ⟨ad, cap, e1, _, hc, hx⟩ := hwd
    obtain ⟨b, off, rfl, hd⟩ := hc (by simp)
    obtain ⟨rfl, rfl⟩ : g = b ∧ 0 = off := by simp only [Value.slice.injEq, Option.some.injEq, Addr.mk.injEq] at e1; exact ⟨e1.1.1, e1.1.2.1⟩
    obtain ⟨n, hn⟩ : ∃ n, xs.length = n := ⟨_, rfl⟩
    have hl : (x :: xs).length = n + 1 := by simp [hn]
    rw [hl] at hcount hd ⊢
    have HN := hide hn
    have HX := hide hx
    have HD := hide hd
    have c0 := hd 0 (by omega)
    simp only [List.getD_cons_zero, Nat.add_zero] at c0
    have HB1 := hide hb1
    have h01 : ((0 : Int) < ((n + 1 : Nat) : Int)) := by omega
    have h11 : ((1 : Int) ≤ ((n + 1 : Nat) : Int)) := by omega
    clear hc hd hx e1 hl hn hb1 HS hm
    by_cases ed : x = [100, 111]
    · have he := str_eq ed
      simp only [ed, if_true] at HT
      generalize bstr x = bx at c0 he
      clear ed
      by_cases hn0 : n = 0
      · subst hn0
        have HO : Hid (rdT i s = some []) := hide (by rw [HT.out, List.eq_nil_of_length_eq_zero HN.out]; rfl)
        go_wp2
        clear he c0 h01 h11
        go_loopw [7, 21] (fun v j wr => v = .slice none 0 0 ∧ j = .int .i64 0 ∧ wr = w1) (fun _ _ _ => 0)
        case atStart => exact ⟨rfl, rfl, rfl⟩
        case round =>
          obtain ⟨rfl, rfl, rfl⟩ := hrel
          go_wp2
          go_ret2
          exact ⟨HB1.out, .inr ⟨[], _, HO.out, rfl, OwA.nil _ _⟩⟩
      go_wp2
      clear he c0 h01 h11
      have HB0 := hide (Below.refl w1.heap.size w1)
      go_loopw [7, 21] (fun v j wr => ∃ (k : Nat) (xa : List Ac), k ≤ n ∧ j = .int .i64 k ∧ xa.length = k ∧ OwA wr w1.heap.size v xa ∧ Below w1.heap.size w1 wr ∧ Hid (rdAs i (xs.take k) = some xa)) (fun _ j _ => n - (intOf j).toNat)
      case atStart => exact ⟨0, [], by omega, rfl, rfl, OwA.nil _ _, Below.refl _ _, hide rfl⟩
      case round =>
        obtain ⟨k, xa, hkn, rfl, hlen, hok, hbk, HK⟩ := hrel
        by_cases hlt : k < n
        · have ck : wr.cell? ⟨g, 1 + k, none⟩ = some (.string (bstr (xs.getD k []))) := by
            have := keepc hbk (HD.out (k + 1) (by omega))
            rw [List.getD_cons_succ] at this
            rw [show 1 + k = 0 + (k + 1) by omega]
            exact this
          have hkl := HX.out (xs.getD k []) (by
            have h1 : k < xs.length := by rw [HN.out]; exact hlt
            simp [List.getElem?_eq_getElem h1])
          have HMk := hide (HM1.out.below hbk)
          have HST := hide (fun b => rdAs_step (i := i) (b := b) (by rw [HN.out]; exact hlt) HK.out)
          have HSN := hide (fun h => rdAs_stop (i := i) (xs := xs) (k := k) (by rw [HN.out]; exact hlt) h)
          generalize xs.getD k [] = t at ck hkl HST HSN
          go_wp2_with fail
          refine (split_any t [32] _ HMk.out hkl (by decide)).mono ?_
          rintro e w2 ⟨g2, rfl, hwd2, hb2⟩
          have esp : sK [32] t = Spg.sp 32 t := Spg.split_sp 32 t
          rw [esp] at hwd2 ⊢
          go_wp2_with fail
          refine (readAct_any _ _ _ hwd2).mono ?_
          rintro e w3 ⟨q0, q1, q2, q3, q4, rfl, hval, hb3⟩
          have hb23 := hb2.trans (hb3.mono hb2.size)
          have hok3 := hok.below hb23
          have hbk3 := hbk.trans (hb23.mono hbk.size)
          clear hwd2 hb2 hb3 hb23 ck hok hbk HMk
          cases hr : rdW (Spg.sp 32 t) with
          | none =>
            have HO := hide (HT.out.trans (HSN.out hr))
            have HB3 := hide hbk3
            simp only [Option.isSome]
            clear hr hval HSN HST hok3
            go_wp2
            go_ret2
            exact ⟨HB1.out.trans ((HB3.out.alloc HB3.out.size _).mono HB1.out.size), .inl ⟨HO.out, rfl⟩⟩
          | some b =>
            obtain rfl := hval b hr
            have HK2 := hide (HST.out _ hr)
            simp only [Option.isSome]
            clear hr hval HSN HST
            have hsz := hbk3.size
            have hB4 := hbk3.alloc hsz (.cells (five q0 i q2 q3 q4) 42)
            have hok4 : OwA (w3.alloc (.cells (five q0 i q2 q3 q4) 42)) w1.heap.size u7 xa := World.ownsRow.alloc hok3 _
            have hnew := news5 (w3.alloc (.cells (five q0 i q2 q3 q4) 42)) ⟨q0, i, q2, q3, q4⟩
            have hone := one5 ⟨q0, i, q2, q3, q4⟩
            simp only [World.size_alloc] at hnew
            have HF : Hid (∀ v' wy, wy.ownsRow w1.heap.size 42 5 v' (xa.length + 1) (cAs xa ++ cA ⟨q0, i, q2, q3, q4⟩) → ((w3.alloc (.cells (five q0 i q2 q3 q4) 42)).alloc (.cells (five q0 i q2 q3 q4) 42)).grownBy wy u7.ownBlock → OwA wy w1.heap.size v' (xa ++ [⟨q0, i, q2, q3, q4⟩]) ∧ Below w1.heap.size w1 wy) := hide (fun v' wy h1 h2 => OwA.more hB4 (by simp; omega) hok4 h1 h2)
            unfold OwA at hok4
            clear hok3 hbk3 hB4
            go_wp2_with (first | (at_builtin; refine wpList_append_own _ rfl _ _ 34 rfl w1.heap.size 42 i0 (.agg #[.int .i64 0, .int .i64 0, .int .i64 0, .int .i64 0, .int .i64 0]) 5 40 Tryd.underlying34 hi hz0 hz1 hz2 rfl (by decide) _ _ _ rfl (World.ownsRow.alloc hok4 _) ⟨w3.heap.size + 1, 0, none⟩ 1 1 (cA ⟨q0, i, q2, q3, q4⟩) rfl rfl hnew hone (by unfold maxLen; omega) (by omega) (by simp; omega) ?_) | go_in)
            intro v' w4 hown' hgrow _
            have HF2 := hide (HF.out v' w4 (by rw [hlen]; exact hown') hgrow)
            clear hown' hgrow HF hok4 hnew hone
            go_wp2
            go_roundw
            case rel => exact ⟨k + 1, xa ++ [⟨q0, i, q2, q3, q4⟩], by omega, by go_num, by simp; omega, HF2.out.1, HF2.out.2, HK2⟩
            case measure => simp [intOf]; omega
        · have ek : k = n := by omega
          have HO : Hid (rdT i s = some xa) := hide (by rw [HT.out, ← HK.out, List.take_of_length_le (by rw [HN.out]; omega)])
          clear ek
          go_wp2
          go_ret2
          exact ⟨HB1.out.trans (hbk.mono HB1.out.size), .inr ⟨xa, _, HO.out, rfl, hok.mono HB1.out.size⟩⟩
    · have he := str_ne ed
      simp only [if_neg ed] at HT
      generalize bstr x = bx at c0 he
      clear ed
      go_wp2
      go_ret2
      exact ⟨HB1.out, .inl ⟨HT.out, rfl⟩⟩

end Go.Proofs.YtokekgfompbdiaaDoor
