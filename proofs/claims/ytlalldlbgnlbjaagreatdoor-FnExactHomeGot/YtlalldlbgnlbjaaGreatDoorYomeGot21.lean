/- HmB -/
import Derived.Test.YtlalldlbgnlbjaaGreatDoorYomeGot8
import Derived.Test.YtlalldlbgnlbjaaGreatDoorYomeGot10
import Derived.Test.YtlalldlbgnlbjaaGreatDoorYomeGot16
import Derived.Test.YtlalldlbgnlbjaaGreatDoorYomeGot20
/- homes in memory; slices.Clone of ids and of requests; a message appended (written by mkHmB.py) -/
namespace Go.Proofs.YtlalldlbgnlbjaaGreatDoor
open Go.RowKit
set_option linter.unusedVariables false
set_option linter.unusedSimpArgs false

abbrev gF (f : Nat → Nat → Int) : Nat → Nat → Value := fun j i => .int .i64 (f j i)
def f1 (zs : List Int) : Nat → Nat → Int := fun j _ => zs.getD j 0
def f2 (q : List (Int × Int)) : Nat → Nat → Int := fun j i => if i = 0 then (q.getD j (0, 0)).1 else (q.getD j (0, 0)).2
def f6 (ms : List Hm.Mg) : Nat → Nat → Int := fun j i => (ms.getD j []).getD i 0
abbrev m6 (k f t l wt d : Int) : Value := .agg #[.int .i64 k, .int .i64 f, .int .i64 t, .int .i64 l, .int .i64 wt, .int .i64 d]

/-- the package-level errors that a home hands on -/
abbrev erV (p : Addr) : Value := .iface 148 (.pointer (some p))
abbrev rfV (c : Int) (p : Addr) : Value := .iface 89 (.agg #[.int .i64 c, erV p])
structure Gl (E : Nat → Addr) (w : World) : Prop where
  busy : w.cell? ⟨2, 0, none⟩ = some (erV (E 0))
  owns : w.cell? ⟨4, 0, none⟩ = some (erV (E 1))
  full : w.cell? ⟨5, 0, none⟩ = some (erV (E 2))
  twice : w.cell? ⟨6, 0, none⟩ = some (erV (E 3))
  unasked : w.cell? ⟨3, 0, none⟩ = some (erV (E 4))
  typ : w.cell? ⟨1, 0, none⟩ = some (.iface 124 (.agg #[.pointer (some ⟨7, 59, none⟩)]))
  lo : 7 ≤ w.heap.size
theorem Gl.mv {E : Nat → Addr} {S : Nat → Prop} {w w' : World} (h : Gl E w) (hm : Mv S w w') (hs : ∀ g, g < 7 → ¬ S g) : Gl E w' where
  busy := hm.cell h.busy (hs _ (by decide))
  owns := hm.cell h.owns (hs _ (by decide))
  full := hm.cell h.full (hs _ (by decide))
  twice := hm.cell h.twice (hs _ (by decide))
  unasked := hm.cell h.unasked (hs _ (by decide))
  typ := hm.cell h.typ (hs _ (by decide))
  lo := Nat.le_trans h.lo hm.size
theorem Gl.below {E : Nat → Addr} {w w' : World} (h : Gl E w) (hb : Below w.heap.size w w') : Gl E w' := h.mv (Mv.of_below hb) (fun _ _ h => h)

/-- a home's own blocks: its box and its rows -/
def Hb (hb : Nat) (sv qv tv : Value) (g : Nat) : Prop := g = hb ∨ rb sv = some g ∨ rb qv = some g ∨ rb tv = some g
def HAp (hb : Nat) (sv qv tv : Value) : Prop := (rb sv ≠ some hb ∧ rb qv ≠ some hb ∧ rb tv ≠ some hb) ∧ (∀ g, rb sv = some g → rb qv ≠ some g ∧ rb tv ≠ some g) ∧ ∀ g, rb qv = some g → rb tv ≠ some g
abbrev hc (L : Hm.Ln) (line : Int) (sv qv tv : Value) : Array Value := #[.int .i64 L.mem, .int .i64 L.own, sv, .int .i64 L.bu, .int .i64 L.wt, .int .i64 L.ac, qv, .int .i64 line, tv]
structure Hr (E : Nat → Addr) (w : World) (base hb : Nat) (L : Hm.Ln) (line : Int) (ms : List Hm.Mg) (sa : Option Addr) (sc : Nat) (qa : Option Addr) (qc : Nat) (ta : Option Addr) (tc : Nat) : Prop where
  bx : w.heap[hb]? = some (.cells (hc L line (.slice sa L.sh.length sc) (.slice qa L.q.length qc) (.slice ta ms.length tc)) 87 (0, 0))
  rs : Rg w base (.slice sa L.sh.length sc) 1 L.sh.length (gF (f1 L.sh))
  rq : Rg w base (.slice qa L.q.length qc) 2 L.q.length (gF (f2 L.q))
  rt : Rg w base (.slice ta ms.length tc) 6 ms.length (gF (f6 ms))
  ap : HAp hb (.slice sa L.sh.length sc) (.slice qa L.q.length qc) (.slice ta ms.length tc)
  lo : base ≤ hb
  gl : Gl E w
  b4 : 7 ≤ base
theorem Hr.lt {w : World} {base hb : Nat} {L : Hm.Ln} {line : Int} {ms : List Hm.Mg} {sa : Option Addr} {sc : Nat} {qa : Option Addr} {qc : Nat} {ta : Option Addr} {tc : Nat} {E : Nat → Addr} (h : Hr E w base hb L line ms sa sc qa qc ta tc) :
    ∀ g, Hb hb (.slice sa L.sh.length sc) (.slice qa L.q.length qc) (.slice ta ms.length tc) g → base ≤ g ∧ g < w.heap.size := by
  rintro g (rfl | e | e | e)
  · exact ⟨h.lo, lt_of_block h.bx⟩
  · exact h.rs.lt g e
  · exact h.rq.lt g e
  · exact h.rt.lt g e
theorem Hr.mv {S : Nat → Prop} {w w' : World} {base hb : Nat} {L : Hm.Ln} {line : Int} {ms : List Hm.Mg} {sa : Option Addr} {sc : Nat} {qa : Option Addr} {qc : Nat} {ta : Option Addr} {tc : Nat} {E : Nat → Addr} (h : Hr E w base hb L line ms sa sc qa qc ta tc) (hm : Mv S w w')
    (hs : ∀ g, Hb hb (.slice sa L.sh.length sc) (.slice qa L.q.length qc) (.slice ta ms.length tc) g → ¬ S g) (h4 : ∀ g, g < 7 → ¬ S g) : Hr E w' base hb L line ms sa sc qa qc ta tc :=
  ⟨hm.box h.bx (hs _ (.inl rfl)), h.rs.mv hm (fun g e => hs g (.inr (.inl e))), h.rq.mv hm (fun g e => hs g (.inr (.inr (.inl e)))), h.rt.mv hm (fun g e => hs g (.inr (.inr (.inr e)))), h.ap, h.lo, h.gl.mv hm h4, h.b4⟩
theorem HAp.ne {hb : Nat} {sv qv tv : Value} (h : HAp hb sv qv tv) {g : Nat} (e : rb sv = some g ∨ rb qv = some g ∨ rb tv = some g) : g ≠ hb := by
  rintro rfl
  rcases e with e | e | e
  · exact h.1.1 e
  · exact h.1.2.1 e
  · exact h.1.2.2 e
theorem rows_lt {w : World} {base : Nat} {sv qv tv : Value} {n1 n2 n3 : Nat} {F1 F2 F3 : Nat → Nat → Value} (h1 : Rg w base sv 1 n1 F1) (h2 : Rg w base qv 2 n2 F2) (h3 : Rg w base tv 6 n3 F3) : ∀ g, (rb sv = some g ∨ rb qv = some g ∨ rb tv = some g) → base ≤ g ∧ g < w.heap.size := by
  rintro g (e | e | e)
  · exact h1.lt g e
  · exact h2.lt g e
  · exact h3.lt g e
theorem HAp.nil {hb : Nat} {sv qv tv : Value} (h : HAp hb sv qv tv) : HAp hb (.slice none 0 0) qv tv :=
  ⟨⟨by simp [rb], h.1.2⟩, fun g e => absurd e (by simp [rb]), h.2.2⟩
/-- other sharers in a new block -/
theorem HAp.ids {hb N : Nat} {sv sv' qv tv : Value} (h : HAp hb sv qv tv) (hN : hb < N) (hq : ∀ g, rb qv = some g → g < N) (ht : ∀ g, rb tv = some g → g < N) (hn : ∀ g, rb sv' = some g → N ≤ g) : HAp hb sv' qv tv :=
  ⟨⟨fun e => by have := hn _ e; omega, h.1.2⟩, fun g e => ⟨fun e2 => by have := hn g e; have := hq g e2; omega, fun e2 => by have := hn g e; have := ht g e2; omega⟩, h.2.2⟩
/-- what is told, longer -/
theorem HAp.tell {hb N : Nat} {sv qv tv tv' : Value} (h : HAp hb sv qv tv) (hN : hb < N) (hs : ∀ g, rb sv = some g → g < N) (hq : ∀ g, rb qv = some g → g < N) (hn : ∀ g, rb tv' = some g → rb tv = some g ∨ N ≤ g) : HAp hb sv qv tv' := by
  refine ⟨⟨h.1.1, h.1.2.1, fun e => ?_⟩, fun g e => ⟨(h.2.1 g e).1, fun e2 => ?_⟩, fun g e e2 => ?_⟩
  · rcases hn _ e with q | q
    · exact h.1.2.2 q
    · omega
  · rcases hn _ e2 with q | q
    · exact (h.2.1 g e).2 q
    · have := hs g e; omega
  · rcases hn _ e2 with q | q
    · exact h.2.2 g e q
    · have := hq g e; omega
/-- what a method of a home leaves -/
abbrev HPost (E : Nat → Addr) (w : World) (base hb : Nat) (sv qv tv : Value) (L : Hm.Ln) (line : Int) (ms : List Hm.Mg) (r : Value) : Ending → World → Prop := fun e w' => ∃ sa sc qa qc ta tc, e = .returned r ∧ Hr E w' base hb L line ms sa sc qa qc ta tc ∧
  (∀ g, Hb hb (.slice sa L.sh.length sc) (.slice qa L.q.length qc) (.slice ta ms.length tc) g → Hb hb sv qv tv g ∨ w.heap.size ≤ g) ∧ Mv (Hb hb sv qv tv) w w'

/-- sharers as a row of ids -/
theorem rg_sl {w : World} {base : Nat} {v : Value} {zs : List Int} (h : Rg w base v 1 zs.length (gF (f1 zs))) : Sl w v zs := by
  obtain ⟨ad, cap, rfl, hc⟩ := h.sg
  refine ⟨ad, cap, rfl, fun hp => ?_⟩
  obtain ⟨b, off, rfl, hd⟩ := hc hp
  refine ⟨b, off, rfl, fun j hj => ?_⟩
  have := hd j hj 0 (by decide)
  rwa [Nat.mul_one, Nat.add_zero] at this
theorem ow_rg {w : World} {base : Nat} {v : Value} {zs : List Int} (h : Ow w base v zs) : Rg w base v 1 zs.length (gF (f1 zs)) :=
  own_rg h (fun x hx => by
    rw [Nat.mul_one] at hx
    rw [Nat.div_one]
    simp [gF, f1, hx])
theorem infoMsgB : (Tryz.prog.info? 36).map (fun i => (i.zero, i.size, i.bytes)) = some (some (.agg #[.int .i64 0, .int .i64 0, .int .i64 0, .int .i64 0, .int .i64 0, .int .i64 0]), 6, 48) := by kernel_rfl
theorem getD_app_l {α : Type} {l r : List α} {j : Nat} {d : α} (h : j < l.length) : (l ++ r).getD j d = l.getD j d := by
  simp [List.getD_eq_getElem?_getD, List.getElem?_append_left h]
theorem getD_app_r {α : Type} {l : List α} {x d : α} : (l ++ [x]).getD l.length d = x := by simp [List.getD_eq_getElem?_getD]
theorem f6_snoc (ms : List Hm.Mg) (k f t l wt d : Int) (j i : Nat) (hj : j < ms.length + 1) (hi : i < 6) :
    snG 6 ms.length (gF (f6 ms)) [.int .i64 k, .int .i64 f, .int .i64 t, .int .i64 l, .int .i64 wt, .int .i64 d] j i = gF (f6 (ms ++ [[k, f, t, l, wt, d]])) j i := by
  unfold snG
  by_cases h : j < ms.length
  · simp only [if_pos h, gF, f6]
    rw [getD_app_l h]
  · obtain rfl : j = ms.length := by omega
    simp only [if_neg h, gF, f6]
    rw [getD_app_r, Nat.sub_self, Nat.zero_mul, Nat.zero_add]
    match i, hi with
    | 0, _ => rfl
    | 1, _ => rfl
    | 2, _ => rfl
    | 3, _ => rfl
    | 4, _ => rfl
    | 5, _ => rfl
theorem add_msg (W : World) (base : Nat) (v : Value) (ms : List Hm.Mg) (k f t l wt d : Int) (ty : TypeId) (b : Nat) (cp : Nat) (hc : W.heap[b]? = some (.cells #[.int .i64 k, .int .i64 f, .int .i64 t, .int .i64 l, .int .i64 wt, .int .i64 d] 36 (0, 0))) (hr : Rg W base v 6 ms.length (gF (f6 ms))) (hn : ms.length ≤ 1048576) (hb : base ≤ W.heap.size) :
    ∃ g off k' w', (Builtin.append_ #[32, 32] ty #[v, .slice (some ⟨b, 0, none⟩) 1 cp]).run Tryz.prog W = .ok (.slice (some ⟨g, off, none⟩) (ms.length + 1) k') w' ∧ W.grownBy w' (rb v) ∧ Rg w' base (.slice (some ⟨g, off, none⟩) (ms.length + 1) k') 6 (ms.length + 1) (gF (f6 (ms ++ [[k, f, t, l, wt, d]]))) ∧ (rb v = some g ∨ W.heap.size ≤ g) := by
  obtain ⟨i0, hi, hz0, hz1, hz2⟩ := info_parts infoMsgB
  obtain ⟨g, off, k', w', h1, h2, h3, h4, h5⟩ := append_rg W base v 6 ms.length 1 48 (gF (f6 ms)) 32 ty 36 i0 (.agg #[.int .i64 0, .int .i64 0, .int .i64 0, .int .i64 0, .int .i64 0, .int .i64 0]) Tryz.underlying32 hi hz0 hz1 hz2 rfl (by decide) ⟨b, 0, none⟩ cp [.int .i64 k, .int .i64 f, .int .i64 t, .int .i64 l, .int .i64 wt, .int .i64 d] rfl (fun j u hu => by
    rw [addrN, Nat.zero_add, cell_of_row _ _ j _ _ _ hc]
    rw [← hu]; simp) (fun u hu => by simp at hu; rcases hu with rfl | rfl | rfl | rfl | rfl | rfl <;> rfl) (by decide) hr (by unfold maxLen; omega) (by omega) hb
  exact ⟨g, off, k', w', h1, h2, h3.congr (by decide) (fun j hj i hi => f6_snoc ms k f t l wt d j i hj hi), h4⟩

theorem nil_yes_ids (W : World) : (binOp BinOp.eql 22 (.slice none 0 0) (.slice none 0 0)).run Tryz.prog W = .ok (.bool true) W := by kernel_rfl
theorem nil_no_ids (a : Addr) (n c : Nat) (W : World) : (binOp BinOp.eql 22 (.slice (some a) n c) (.slice none 0 0)).run Tryz.prog W = .ok (.bool false) W := by kernel_rfl
theorem one_ids {n : Nat} (f : Nat → Nat → Int) : ∀ u ∈ rowG 1 n (gF f), u.oneCell' = true := by
  intro u hu
  obtain ⟨x, _, rfl⟩ := List.mem_map.1 hu
  rfl
set_option maxRecDepth 20000 in
set_option maxHeartbeats 1000000 in
theorem clone_ids (v : Value) (n : Nat) (f : Nat → Nat → Int) (w : World) (hp : Pl v n) (hs : Sg w v 1 n (gF f)) (hn : n ≤ 1048576) :
    Calls Tryz.prog 80 #[v] w fun e w' => ∃ u, e = .returned u ∧ Rg w' w.heap.size u 1 n (gF f) ∧ Below w.heap.size w w' := by
  obtain ⟨i0, hi, hz0, hz1, hz2⟩ := info_parts Tryz.info2
  rcases hp with ⟨rfl, rfl⟩ | ⟨a, k, rfl⟩
  · have hq := nil_yes_ids
    go_enter Tryz.func80, Tryz.ntmps80
    go_wp2
    go_ret
    exact ⟨_, rfl, .inl ⟨⟨none, rfl⟩, rfl⟩, Below.refl _ _⟩
  · have hA : Below w.heap.size w (w.alloc (.cells #[] 2)) := (Below.refl _ _).alloc (Nat.le_refl _) _
    have hnew := Rg.news (by decide) (hs.below hA)
    have hone := one_ids (n := n) f
    have hown : (w.alloc (.cells #[] 2)).ownsRow w.heap.size 2 1 (.slice (some ⟨w.heap.size, 0, none⟩) 0 0) 0 [] := ⟨by simp, .inr ⟨w.heap.size, 0, #[], rfl, Nat.le_refl _, heap_alloc_new _ _, Nat.le_refl _, by decide, by simp, rfl⟩⟩
    have HF : Hid (∀ v' w', w'.ownsRow w.heap.size 2 1 v' n (rowG 1 n (gF f)) → (w.alloc (.cells #[] 2)).grownBy w' (some w.heap.size) → Rg w' w.heap.size v' 1 n (gF f) ∧ Below w.heap.size w w') := hide (fun v' w' h1 h2 => by
      exact ⟨own_rg h1 (fun x hx => rowG_get hx), hA.grown h2 hA.size (fun k hk => by have := Option.some.inj hk; omega)⟩)
    clear hA hs
    have hq := nil_no_ids a n k
    go_enter Tryz.func80, Tryz.ntmps80
    go_wp2_with (first | (at_builtin; refine wpList_append_own _ rfl _ _ 22 rfl w.heap.size 2 i0 (.int .i64 0) 1 8 Tryz.underlying22 hi hz0 hz1 hz2 rfl (by decide) _ _ _ rfl hown a n k (rowG 1 n (gF f)) rfl (by rw [rowG_len]) hnew hone (by unfold maxLen; omega) (by omega) (by simp) ?_) | go_in)
    intro v' w' h1 h2 _
    have HF2 := hide (HF.out v' w' h1 h2)
    clear h1 h2 HF hnew hone hown
    go_wp2
    go_ret
    exact ⟨_, rfl, HF2.out.1, HF2.out.2⟩

theorem nil_yes_reqs (W : World) : (binOp BinOp.eql 29 (.slice none 0 0) (.slice none 0 0)).run Tryz.prog W = .ok (.bool true) W := by kernel_rfl
theorem nil_no_reqs (a : Addr) (n c : Nat) (W : World) : (binOp BinOp.eql 29 (.slice (some a) n c) (.slice none 0 0)).run Tryz.prog W = .ok (.bool false) W := by kernel_rfl
theorem one_reqs {n : Nat} (f : Nat → Nat → Int) : ∀ u ∈ rowG 2 n (gF f), u.oneCell' = true := by
  intro u hu
  obtain ⟨x, _, rfl⟩ := List.mem_map.1 hu
  rfl
set_option maxRecDepth 20000 in
set_option maxHeartbeats 1000000 in
theorem clone_reqs (v : Value) (n : Nat) (f : Nat → Nat → Int) (w : World) (hp : Pl v n) (hs : Sg w v 2 n (gF f)) (hn : n ≤ 1048576) :
    Calls Tryz.prog 81 #[v] w fun e w' => ∃ u, e = .returned u ∧ Rg w' w.heap.size u 2 n (gF f) ∧ Below w.heap.size w w' := by
  obtain ⟨i0, hi, hz0, hz1, hz2⟩ := info_parts infoReq
  rcases hp with ⟨rfl, rfl⟩ | ⟨a, k, rfl⟩
  · have hq := nil_yes_reqs
    go_enter Tryz.func81, Tryz.ntmps81
    go_wp2
    go_ret
    exact ⟨_, rfl, .inl ⟨⟨none, rfl⟩, rfl⟩, Below.refl _ _⟩
  · have hA : Below w.heap.size w (w.alloc (.cells #[] 71)) := (Below.refl _ _).alloc (Nat.le_refl _) _
    have hnew := Rg.news (by decide) (hs.below hA)
    have hone := one_reqs (n := n) f
    have hown : (w.alloc (.cells #[] 71)).ownsRow w.heap.size 71 2 (.slice (some ⟨w.heap.size, 0, none⟩) 0 0) 0 [] := ⟨by simp, .inr ⟨w.heap.size, 0, #[], rfl, Nat.le_refl _, heap_alloc_new _ _, Nat.le_refl _, by decide, by simp, rfl⟩⟩
    have HF : Hid (∀ v' w', w'.ownsRow w.heap.size 71 2 v' n (rowG 2 n (gF f)) → (w.alloc (.cells #[] 71)).grownBy w' (some w.heap.size) → Rg w' w.heap.size v' 2 n (gF f) ∧ Below w.heap.size w w') := hide (fun v' w' h1 h2 => by
      exact ⟨own_rg h1 (fun x hx => rowG_get hx), hA.grown h2 hA.size (fun k hk => by have := Option.some.inj hk; omega)⟩)
    clear hA hs
    have hq := nil_no_reqs a n k
    go_enter Tryz.func81, Tryz.ntmps81
    go_wp2_with (first | (at_builtin; refine wpList_append_own _ rfl _ _ 29 rfl w.heap.size 71 i0 (.agg #[.int .i64 0, .int .i64 0]) 2 16 Tryz.underlying29 hi hz0 hz1 hz2 rfl (by decide) _ _ _ rfl hown a n k (rowG 2 n (gF f)) rfl (by rw [rowG_len]) hnew hone (by unfold maxLen; omega) (by omega) (by simp) ?_) | go_in)
    intro v' w' h1 h2 _
    have HF2 := hide (HF.out v' w' h1 h2)
    clear h1 h2 HF hnew hone hown
    go_wp2
    go_ret
    exact ⟨_, rfl, HF2.out.1, HF2.out.2⟩
end Go.Proofs.YtlalldlbgnlbjaaGreatDoor
