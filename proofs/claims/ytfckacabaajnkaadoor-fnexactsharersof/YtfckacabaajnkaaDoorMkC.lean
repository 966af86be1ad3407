/- copies that may be written (written by mkMkC.py) -/
import Derived.Test.YtfckacabaajnkaaDoorMkB
namespace Go.Proofs.YtfckacabaajnkaaDoor
open Go.RowKit
set_option linter.unusedVariables false
set_option linter.unusedSimpArgs false

/-- every slice that lies in the block g may be written: m i cells an element -/
def UA (m : Nat → Nat) (w : World) (g : Nat) : Prop := ∀ i ib l cp, w.cell? ⟨g, i, none⟩ = some (.slice (some ⟨ib, 0, none⟩) l cp) → Wc w ib (l * m i)
theorem UA.below {m : Nat → Nat} {w w' : World} {g : Nat} (h : UA m w g) (hg : g < w.heap.size) (hb : Below w.heap.size w w') : UA m w' g := by
  intro i ib l cp hc
  refine (h i ib l cp ?_).below hb
  have e := hb.block g hg
  simp only [World.cell?] at hc ⊢
  rw [← e]; exact hc
theorem UA.put {m : Nat → Nat} {w : World} {g k len : Nat} {v : Value} (h : UA m w g) (hw : Wc w g len) (hk : k < len) (hv : ∀ ib l cp, v = .slice (some ⟨ib, 0, none⟩) l cp → Wc w ib (l * m k)) : UA m (w.setCell ⟨g, k, none⟩ v) g := by
  intro i ib l cp hc
  by_cases e : k = i
  · subst e
    obtain ⟨u, hu⟩ := hw.facts.2 k hk
    rw [World.cell?_setCell_same (h := hu)] at hc
    exact (hv ib l cp (by simpa using hc)).set v
  · rw [far_set e] at hc
    exact (h i ib l cp hc).set v
theorem ua_start {m : Nat → Nat} {w1 : World} {base g n sz : Nat} {T : TypeId} {z : Array Value} (hz0 : 0 < z.size) (hz : ∀ (x ib l cp : Nat), x < z.size → z[x]! ≠ Value.slice (some ⟨ib, 0, none⟩) l cp) (h : w1.ownsRow base T sz (.slice (some ⟨g, 0, none⟩) n n) n (madeCells z (n * sz)).toList) : UA m w1 g ∧ Wc w1 g (n * sz) := by
  obtain ⟨h0, h⟩ := h
  rcases h with ⟨h', _⟩ | ⟨g', cap', cur, h', _, hg, _, _, hcs, ht⟩
  · simp at h'
  · simp only [Value.slice.injEq, Option.some.injEq, Addr.mk.injEq, and_true, true_and] at h'
    obtain ⟨rfl, rfl⟩ := h'
    refine ⟨?_, cur, T, hg, by omega⟩
    intro i ib l cp hc
    exfalso
    rw [cell_of_row _ _ _ _ _ _ hg] at hc
    have e : cur.toList = (madeCells z (n * sz)).toList := by rw [← ht, List.take_of_length_le (by simp; omega)]
    have e2 : cur[i]? = (madeCells z (n * sz))[i]? := by rw [← Array.getElem?_toList, e, Array.getElem?_toList]
    rw [e2] at hc
    simp only [madeCells, Array.getElem?_map] at hc
    cases hr : (Array.range (n * sz))[i]? with
    | none => rw [hr] at hc; simp at hc
    | some x => rw [hr] at hc; simp only [Option.map_some, Option.some.injEq] at hc; exact hz _ _ _ _ (Nat.mod_lt _ hz0) hc
theorem Orow.wc {w : World} {base : Nat} {T : TypeId} {m g n k : Nat} {f : Nat → Nat → Int} (h : Orow w base T m (.slice (some ⟨g, 0, none⟩) n n) n k f) : Wc w g (n * m) := by
  rcases h.2 with ⟨h', _⟩ | ⟨g', cap', cur, h', _, hg, _, _, hcs, ht⟩
  · simp at h'
  · simp only [Value.slice.injEq, Option.some.injEq, Addr.mk.injEq, and_true, true_and] at h'
    obtain ⟨rfl, rfl⟩ := h'
    exact ⟨cur, T, hg, by omega⟩
theorem Ow.wc {w : World} {base g n : Nat} {zs : List Int} (h : Ow w base (.slice (some ⟨g, 0, none⟩) n n) zs) : Wc w g n := by
  rcases h.2 with ⟨h', _⟩ | ⟨g', cap', cur, h', _, hg, _, _, hcs, ht⟩
  · simp at h'
  · simp only [Value.slice.injEq, Option.some.injEq, Addr.mk.injEq, and_true] at h'
    obtain ⟨rfl, h2, rfl⟩ := h'
    exact ⟨cur, _, hg, by omega⟩
theorem Chg.of_below {w w' : World} (hb : Below w.heap.size w w') : Chg (fun _ => False) w w' := ⟨hb.os, hb.tape, hb.output, hb.size, fun j hj _ => hb.block j hj, fun _ _ h => h.below hb⟩
theorem Chg.put (w : World) (B i : Nat) (v : Value) : Chg (· = B) w (w.setCell ⟨B, i, none⟩ v) := (Chg.refl (fun j => j = B) w).set rfl v
theorem MLs.grow {w : World} {g E E' N : Nat} {Z Q : Nat → Nat} (h : MLs w g E N Z Q) (hE : E ≤ E') : MLs w g E' N Z Q :=
  ⟨h.1, fun c hc => by
    obtain ⟨⟨sb, a, b, d⟩, qb, a', b', d'⟩ := h.2 c hc
    exact ⟨⟨sb, a, ⟨b.1, by omega⟩, d⟩, qb, a', ⟨b'.1, by omega⟩, d'⟩⟩
theorem Oss.mss {w : World} {g C : Nat} {L : Nat → Nat} {F : Nat → Nat → Nat → Int} (h : Oss w g C C L F) (hu : UA (fun _ => 4) w g) : MSs w g w.heap.size C L := by
  obtain ⟨cur, h1, h2, h3⟩ := h
  intro c hc
  obtain ⟨ib, a, b, d⟩ := h3 c hc
  have e : w.cell? ⟨g, c, none⟩ = some (.slice (some ⟨ib, 0, none⟩) (L c) (L c)) := by rw [cell_of_row _ _ _ _ _ _ h1]; exact a
  have hw := hu c ib _ _ e
  exact ⟨ib, e, ⟨b, hw.lt⟩, hw⟩
def mLn (i : Nat) : Nat := if i % 7 = 6 then 2 else 1
theorem mLn2 (c : Nat) : mLn (c * 7 + 2) = 1 := by unfold mLn; rw [if_neg (by omega)]
theorem mLn6 (c : Nat) : mLn (c * 7 + 6) = 2 := by unfold mLn; rw [if_pos (by omega)]
theorem Ols.mls {w : World} {g n : Nat} {G : Nat → LnD} (h : Ols w g n n G) (hu : UA mLn w g) : MLs w g w.heap.size n (fun c => (G c).zs.length) (fun c => (G c).qn) := by
  obtain ⟨cur, h1, h2, h3⟩ := h
  refine ⟨⟨cur, _, h1, by omega⟩, fun c hc => ?_⟩
  obtain ⟨sg, qg, a, b, ⟨d0, d1, d2, d3, d4, d5, d6⟩, _, _⟩ := h3 c hc
  have e2 : w.cell? ⟨g, c * 7 + 2, none⟩ = some (.slice (some ⟨sg, 0, none⟩) (G c).zs.length (G c).zs.length) := by rw [cell_of_row _ _ _ _ _ _ h1]; exact d2
  have e6 : w.cell? ⟨g, c * 7 + 6, none⟩ = some (.slice (some ⟨qg, 0, none⟩) (G c).qn (G c).qn) := by rw [cell_of_row _ _ _ _ _ _ h1]; exact d6
  have w2 := hu _ _ _ _ e2
  have w6 := hu _ _ _ _ e6
  rw [mLn2, Nat.mul_one] at w2
  rw [mLn6] at w6
  exact ⟨⟨sg, e2, ⟨a, w2.lt⟩, w2⟩, qg, e6, ⟨b, w6.lt⟩, w6⟩

set_option maxHeartbeats 2000000 in
theorem toSlotSS_own (v : Value) (n : Nat) (L : Nat → Nat) (F : Nat → Nat → Nat → Int) (w : World) (hs : Ss w v n L F) (hb : n ≤ 1048576) (hL : ∀ c, c < n → L c ≤ 1048576) :
    Calls Tryd.prog 30 #[v] w fun e w' => ∃ g, e = .returned (.slice (some ⟨g, 0, none⟩) n n) ∧ w.heap.size ≤ g ∧ Oss w' g n n L F ∧ MSs w' g w'.heap.size n L ∧ Below w.heap.size w w' := by
  obtain ⟨ad, cap, rfl, hs⟩ := hs
  obtain ⟨i0, hi, hz0, hz1, hz2⟩ := info_parts infoSlots
  go_enter Tryd.func30, Tryd.ntmps30
  go_wp2_with (at_make; refine wpList_make_full _ rfl _ _ 30 rfl w.heap.size 61 i0 (.slice none 0 0) 1 Tryd.underlying30 hi hz0 hz1 .i64 .i64 n n n rfl rfl rfl rfl (by rw [hz2]; omega) (by unfold maxLen; omega) (Nat.le_refl _) ?_; intro w1 ho1 hg1)
  have ho : Oss w1 w.heap.size n 0 L F := oss_start ho1
  have HU0 := hide (ua_start (m := fun _ => 4) (by decide) (fun x ib l cp hx => by match x, hx with | 0, _ => intro h; cases h) ho1)
  have hb1 : Below w.heap.size w w1 := (Below.refl _ _).grown hg1 (Nat.le_refl _) (fun k hk => by cases hk)
  clear ho1 hg1
  go_loopw [4] (fun i wr => ∃ k : Nat, k ≤ n ∧ i = .int .i64 k ∧ Oss wr w.heap.size n k L F ∧ Below w.heap.size w wr ∧ Hid (UA (fun _ => 4) wr w.heap.size ∧ Wc wr w.heap.size (n * 1))) (fun i _ => n - (intOf i).toNat)
  case atStart => exact ⟨0, Nat.zero_le _, rfl, ho, hb1, HU0⟩
  case round =>
    obtain ⟨k, hk, rfl, hok, hbk, HU⟩ := hrel
    clear ho hb1 HU0
    by_cases hlt : k < n
    · obtain ⟨b, off, rfl, hc⟩ := hs (by omega)
      obtain ⟨ia, ic, q0', hr⟩ := hc k hlt
      have q0 : wr.cell? ⟨b, off + k, none⟩ = some (.slice ia (L k) ic) := Below.keep hbk _ _ q0'
      have hr' := hr.below hbk
      clear hs hc q0' hr
      go_wp2_with fail
      refine (toSlotS_any _ (L k) (F k) _ hr' (hL k hlt)).mono ?_
      rintro e w2 ⟨ib, rfl, hro, hb2⟩
      have hok2 := hok.below hb2
      have hbk2 := hbk.trans (hb2.mono hbk.size)
      have hib := hro.block
      have hgl : w.heap.size < wr.heap.size := by
        obtain ⟨cur, h1, _⟩ := hok
        exact lt_of_block h1
      obtain ⟨fr, o, ho⟩ := hok2.facts hlt
      have hB2 : Below w.heap.size w (w2.setCell ⟨w.heap.size, k, none⟩ (.slice (some ⟨ib, 0, none⟩) (L k) (L k))) := hbk2.setCell (Nat.le_refl _) _
      have HB := hide (And.intro (hok2.put hlt (by omega) hro.sr) hB2)
      have HU2 : Hid (UA (fun _ => 4) (w2.setCell ⟨w.heap.size, k, none⟩ (.slice (some ⟨ib, 0, none⟩) (L k) (L k))) w.heap.size ∧ Wc (w2.setCell ⟨w.heap.size, k, none⟩ (.slice (some ⟨ib, 0, none⟩) (L k) (L k))) w.heap.size (n * 1)) := by
        have hu := HU.out.1.below hgl hb2
        have hwc := HU.out.2.below hb2
        exact hide ⟨hu.put hwc (by omega) (fun ib' l cp he => by simp only [Value.slice.injEq, Option.some.injEq, Addr.mk.injEq, and_true] at he; obtain ⟨rfl, rfl, _⟩ := he; exact hro.wc), hwc.set _⟩
      clear hok hok2 hbk hbk2 hb2 hB2 q0 hr' hro HU
      go_wp2
      go_roundw
      case rel => exact ⟨k + 1, by omega, by go_num, HB.out.1, HB.out.2, HU2⟩
      case measure => simp [intOf]; omega
    · go_wp2
      go_ret
      have e : k = n := by omega
      subst e
      exact ⟨_, rfl, Nat.le_refl _, hok, hok.mss HU.out.1, hbk⟩

set_option maxHeartbeats 2000000 in
theorem toLine_own (mem ow : Int) (sv : Value) (zs : List Int) (bu wt ac : Int) (qv : Value) (n : Nat) (f : Nat → Nat → Int) (w : World) (hs : Sl w sv zs) (hl : zs.length ≤ 1048576) (hq : Sr w qv 2 n f) (hn : n ≤ 1048576) :
    Calls Tryd.prog 55 #[.agg (ln7 mem ow sv bu wt ac qv)] w fun e w' => ∃ sg g, e = .returned (.agg (ln7 mem ow (.slice (some ⟨sg, 0, none⟩) zs.length zs.length) bu wt ac (.slice (some ⟨g, 0, none⟩) n n))) ∧ (w.heap.size ≤ sg ∧ w.heap.size ≤ g) ∧ Sl w' (.slice (some ⟨sg, 0, none⟩) zs.length zs.length) zs ∧ Sr w' (.slice (some ⟨g, 0, none⟩) n n) 2 n f ∧ (Wc w' sg zs.length ∧ Wc w' g (n * 2)) ∧ Below w.heap.size w w' := by
  generalize hA : Obj.cells (ln7 mem ow sv bu wt ac qv) 82 = A
  generalize hZ : Obj.cells zln 66 = Z
  generalize hO : Obj.cells (ln7 mem ow (.slice none 0 0) 0 0 0 (.slice none 0 0)) 66 = O
  have eA : (((w.alloc A).alloc Z).alloc O).heap[w.heap.size]? = some A := by
    rw [Below.heap_alloc _ _ _ (by simp; omega), Below.heap_alloc _ _ _ (by simp)]; exact heap_alloc_new _ _
  have eZ : (((w.alloc A).alloc Z).alloc O).heap[w.heap.size + 1]? = some Z := by
    rw [Below.heap_alloc _ _ _ (by simp)]; have := heap_alloc_new (w.alloc A) Z; simpa only [World.size_alloc] using this
  have eO : (((w.alloc A).alloc Z).alloc O).heap[w.heap.size + 1 + 1]? = some O := by
    have := heap_alloc_new ((w.alloc A).alloc Z) O; simpa only [World.size_alloc] using this
  have hb0 : Below w.heap.size w (((w.alloc A).alloc Z).alloc O) := (((Below.refl _ _).alloc (Nat.le_refl _) _).alloc (by simp) _).alloc (by simp; omega) _
  have hz0 : (((w.alloc A).alloc Z).alloc O).heap.size = w.heap.size + 1 + 1 + 1 := by simp
  subst hA hZ hO
  have HE := hide (And.intro eA (And.intro eZ (And.intro eO (And.intro hb0 hz0))))
  clear eA eZ eO hb0 hz0
  go_enter Tryd.func55, Tryd.ntmps55
  go_wp2_with fail
  refine (copy_any sv zs _ (hs.below HE.out.2.2.2.1) hl).mono ?_
  rintro e w1 ⟨u, rfl, ho, hb1, g, rfl⟩
  obtain ⟨eA, eZ, eO, hb0, hz0⟩ := HE.out
  have rA := (hb1.block _ (by rw [hz0]; omega)).trans eA
  have rZ := (hb1.block _ (by rw [hz0]; omega)).trans eZ
  have rO := (hb1.block _ (by rw [hz0]; omega)).trans eO
  have hbw := hb0.trans (hb1.mono hb0.size)
  have hg := ho.block
  rw [hz0] at hg
  have hsl := ho.sl
  have hWs := ho.wc
  clear ho hb1 hb0 hz0 eA eZ eO HE
  obtain ⟨_, a0, a1, a2, a3, a4, a5, a6⟩ := row7_facts rA
  obtain ⟨fO, o0, o1, o2, o3, o4, o5, o6⟩ := row7_facts rO
  -- the world ahead of the second call
  have HW : Hid (∀ W, ((((w1.setCell ⟨w.heap.size + 1 + 1, 2, none⟩ (.slice (some ⟨g, 0, none⟩) zs.length zs.length)).setCell ⟨w.heap.size + 1 + 1, 3, none⟩ (.int .i64 bu)).setCell ⟨w.heap.size + 1 + 1, 4, none⟩ (.int .i64 wt)).setCell ⟨w.heap.size + 1 + 1, 5, none⟩ (.int .i64 ac)) = W →
      Below w.heap.size w W ∧ W.heap.size = w1.heap.size ∧ Sl W (.slice (some ⟨g, 0, none⟩) zs.length zs.length) zs ∧ W.heap[w.heap.size + 1]? = some (.cells zln 66 (0, 0)) ∧ W.heap[w.heap.size + 1 + 1]? = some (.cells (ln7 mem ow (.slice (some ⟨g, 0, none⟩) zs.length zs.length) bu wt ac (.slice none 0 0)) 66 (0, 0)) ∧ Wc W g zs.length) := by
    refine hide fun W hW => ?_
    subst hW
    have hO2 : w.heap.size ≤ w.heap.size + 1 + 1 := by omega
    refine ⟨(((hbw.setCell hO2 _).setCell hO2 _).setCell hO2 _).setCell hO2 _, by simp, (((hsl.set (by omega)).set (by omega)).set (by omega)).set (by omega), ?_, ?_, (((hWs.set _).set _).set _).set _⟩
    · rw [heap_setCell_other _ _ _ _ (by simp), heap_setCell_other _ _ _ _ (by simp), heap_setCell_other _ _ _ _ (by simp), heap_setCell_other _ _ _ _ (by simp)]; exact rZ
    · rw [heap_setCell_same _ _ 5 _ _ _ (heap_setCell_same _ _ 4 _ _ _ (heap_setCell_same _ _ 3 _ _ _ (heap_setCell_same _ _ 2 _ _ _ rO)))]; rfl
  have hne : ¬ w.heap.size = w.heap.size + 1 + 1 := by omega
  clear rA rZ rO hbw hsl hWs
  go_wp2_with fail
  generalize hW : ((((w1.setCell ⟨w.heap.size + 1 + 1, 2, none⟩ (.slice (some ⟨g, 0, none⟩) zs.length zs.length)).setCell ⟨w.heap.size + 1 + 1, 3, none⟩ (.int .i64 bu)).setCell ⟨w.heap.size + 1 + 1, 4, none⟩ (.int .i64 wt)).setCell ⟨w.heap.size + 1 + 1, 5, none⟩ (.int .i64 ac)) = W
  obtain ⟨hbW, hzW, hsl, rZ, rO, hWs⟩ := HW.out W hW
  clear hW HW a0 a1 a2 a3 a4 a5 a6 fO o0 o1 o2 o3 o4 o5 o6
  refine (toReqS_any qv n f _ (hq.below hbW) hn).mono ?_
  rintro e w2 ⟨g2, rfl, ho2, hb2⟩
  have ltO : w.heap.size + 1 + 1 < W.heap.size := lt_of_block rO
  have rZ2 := (hb2.block _ (by omega)).trans rZ
  have rO2 := (hb2.block _ ltO).trans rO
  have hsl2 := hsl.below hb2
  have hsr2 := ho2.sr
  have HQ := hide (And.intro (hWs.below hb2) ho2.wc)
  have hg2 := ho2.block
  have hbw2 := hbW.trans (hb2.mono hbW.size)
  clear ho2 hb2 rZ rO hsl hbW hq hs hWs
  obtain ⟨fZ, z0, z1, z2, z3, z4, z5, z6⟩ := row7_facts rZ2
  obtain ⟨fO, o0, o1, o2, o3, o4, o5, o6⟩ := row7_facts rO2
  have HX := hide (And.intro hsl2 (And.intro hsr2 hbw2))
  have hne2 : ¬ w.heap.size + 1 = w.heap.size + 1 + 1 := by omega
  clear hsl2 hsr2 hbw2 rZ2 rO2
  go_wp2
  refine bodyPost_ret (v := .agg (ln7 mem ow (.slice (some ⟨g, 0, none⟩) zs.length zs.length) bu wt ac (.slice (some ⟨g2, 0, none⟩) n n))) (by simp [results, Tryd.results55, go_sem, z0, z1, z2, z3, z4, z5, z6]) rfl ⟨_, _, rfl, ⟨by omega, by omega⟩, ?_, ?_, ⟨?_, ?_⟩, ?_⟩
  · obtain ⟨hsl2, hsr2, hbw2⟩ := HX.out
    iterate 8 (refine Sl.set ?_ (by omega))
    exact hsl2
  · obtain ⟨hsl2, hsr2, hbw2⟩ := HX.out
    iterate 8 (refine Sr.set ?_ (by omega))
    exact hsr2
  · iterate 8 (refine Wc.set ?_ _)
    exact HQ.out.1
  · iterate 8 (refine Wc.set ?_ _)
    exact HQ.out.2
  · obtain ⟨hsl2, hsr2, hbw2⟩ := HX.out
    have hO2 : w.heap.size ≤ w.heap.size + 1 + 1 := by omega
    have hZ2 : w.heap.size ≤ w.heap.size + 1 := by omega
    iterate 7 (refine Below.setCell ?_ hZ2 _)
    refine Below.setCell ?_ hO2 _
    exact hbw2

set_option maxHeartbeats 4000000 in
theorem toLineS_own (v : Value) (n : Nat) (G : Nat → LnD) (w : World) (hs : Ls w v n G) (hb : n ≤ 1048576) (hL : ∀ c, c < n → (G c).zs.length ≤ 1048576 ∧ (G c).qn ≤ 1048576) :
    Calls Tryd.prog 31 #[v] w fun e w' => ∃ g, e = .returned (.slice (some ⟨g, 0, none⟩) n n) ∧ w.heap.size ≤ g ∧ Ols w' g n n G ∧ MLs w' g w'.heap.size n (fun c => (G c).zs.length) (fun c => (G c).qn) ∧ Below w.heap.size w w' := by
  obtain ⟨ad, cap, rfl, hs⟩ := hs
  obtain ⟨i0, hi, hz0, hz1, hz2⟩ := info_parts infoLine
  go_enter Tryd.func31, Tryd.ntmps31
  go_wp2_with (at_make; refine wpList_make_full _ rfl _ _ 31 rfl w.heap.size 66 i0 (.agg zln) 7 Tryd.underlying31 hi hz0 hz1 .i64 .i64 n n n rfl rfl rfl rfl (by rw [hz2]; omega) (by unfold maxLen; omega) (Nat.le_refl _) ?_; intro w1 ho1 hg1)
  have ho : Ols w1 w.heap.size n 0 G := ols_start ho1
  have HU0 := hide (ua_start (m := mLn) (by decide) (fun x ib l cp hx => by match x, hx with | 0, _ => intro h; cases h | 1, _ => intro h; cases h | 2, _ => intro h; cases h | 3, _ => intro h; cases h | 4, _ => intro h; cases h | 5, _ => intro h; cases h | 6, _ => intro h; cases h) ho1)
  have hb1 : Below w.heap.size w w1 := (Below.refl _ _).grown hg1 (Nat.le_refl _) (fun k hk => by cases hk)
  clear ho1 hg1
  go_loopw [4] (fun i wr => ∃ k : Nat, k ≤ n ∧ i = .int .i64 k ∧ Ols wr w.heap.size n k G ∧ Below w.heap.size w wr ∧ Hid (UA mLn wr w.heap.size ∧ Wc wr w.heap.size (n * 7))) (fun i _ => n - (intOf i).toNat)
  case atStart => exact ⟨0, Nat.zero_le _, rfl, ho, hb1, HU0⟩
  case round =>
    obtain ⟨k, hk, rfl, hok, hbk, HU⟩ := hrel
    clear ho hb1 HU0
    by_cases hlt : k < n
    · obtain ⟨b, off, rfl, hc⟩ := hs (by omega)
      obtain ⟨sa, sc, qa, qc, ⟨q0, q1, q2, q3, q4, q5, q6⟩, hsl, hsr⟩ := (hc k hlt).below hbk
      clear hs hc
      go_wp2_with fail
      refine (toLine_own _ _ _ (G k).zs _ _ _ _ (G k).qn (G k).f _ hsl (hL k hlt).1 hsr (hL k hlt).2).mono ?_
      rintro e w2 ⟨sg, qg, rfl, ⟨hl1, hl2⟩, hsl2, hsr2, ⟨hws, hwq⟩, hb2⟩
      have hok2 := hok.below hb2
      have hbk2 := hbk.trans (hb2.mono hbk.size)
      have hgl : w.heap.size < wr.heap.size := by
        obtain ⟨cur, h1, _⟩ := hok
        exact lt_of_block h1
      obtain ⟨fr, ⟨o0, r0⟩, ⟨o1, r1⟩, ⟨o2, r2⟩, ⟨o3, r3⟩, ⟨o4, r4⟩, ⟨o5, r5⟩, ⟨o6, r6⟩⟩ := hok2.facts hlt
      have hB2 : Below w.heap.size w (((((((w2.setCell ⟨w.heap.size, k * 7, none⟩ (.int .i64 (G k).mem)).setCell ⟨w.heap.size, k * 7 + 1, none⟩ (.int .i64 (G k).ow)).setCell ⟨w.heap.size, k * 7 + 2, none⟩ (.slice (some ⟨sg, 0, none⟩) (G k).zs.length (G k).zs.length)).setCell ⟨w.heap.size, k * 7 + 3, none⟩ (.int .i64 (G k).bu)).setCell ⟨w.heap.size, k * 7 + 4, none⟩ (.int .i64 (G k).wt)).setCell ⟨w.heap.size, k * 7 + 5, none⟩ (.int .i64 (G k).ac)).setCell ⟨w.heap.size, k * 7 + 6, none⟩ (.slice (some ⟨qg, 0, none⟩) (G k).qn (G k).qn)) := (((((((hbk2.setCell (Nat.le_refl _) _).setCell (Nat.le_refl _) _).setCell (Nat.le_refl _) _).setCell (Nat.le_refl _) _).setCell (Nat.le_refl _) _).setCell (Nat.le_refl _) _).setCell (Nat.le_refl _) _)
      have HU2 : Hid (UA mLn (((((((w2.setCell ⟨w.heap.size, k * 7, none⟩ (.int .i64 (G k).mem)).setCell ⟨w.heap.size, k * 7 + 1, none⟩ (.int .i64 (G k).ow)).setCell ⟨w.heap.size, k * 7 + 2, none⟩ (.slice (some ⟨sg, 0, none⟩) (G k).zs.length (G k).zs.length)).setCell ⟨w.heap.size, k * 7 + 3, none⟩ (.int .i64 (G k).bu)).setCell ⟨w.heap.size, k * 7 + 4, none⟩ (.int .i64 (G k).wt)).setCell ⟨w.heap.size, k * 7 + 5, none⟩ (.int .i64 (G k).ac)).setCell ⟨w.heap.size, k * 7 + 6, none⟩ (.slice (some ⟨qg, 0, none⟩) (G k).qn (G k).qn)) w.heap.size ∧ Wc (((((((w2.setCell ⟨w.heap.size, k * 7, none⟩ (.int .i64 (G k).mem)).setCell ⟨w.heap.size, k * 7 + 1, none⟩ (.int .i64 (G k).ow)).setCell ⟨w.heap.size, k * 7 + 2, none⟩ (.slice (some ⟨sg, 0, none⟩) (G k).zs.length (G k).zs.length)).setCell ⟨w.heap.size, k * 7 + 3, none⟩ (.int .i64 (G k).bu)).setCell ⟨w.heap.size, k * 7 + 4, none⟩ (.int .i64 (G k).wt)).setCell ⟨w.heap.size, k * 7 + 5, none⟩ (.int .i64 (G k).ac)).setCell ⟨w.heap.size, k * 7 + 6, none⟩ (.slice (some ⟨qg, 0, none⟩) (G k).qn (G k).qn)) w.heap.size (n * 7)) := by
        have u0 := HU.out.1.below hgl hb2
        have c0 := HU.out.2.below hb2
        have ws0 := hws
        have wq0 := hwq
        have u1 := u0.put c0 (k := k * 7) (v := (.int .i64 (G k).mem)) (by omega) (fun ib' l cp he => by simp at he)
        have c1 := c0.set (B := w.heap.size) (i := k * 7) (.int .i64 (G k).mem)
        have ws1 := ws0.set (B := w.heap.size) (i := k * 7) (.int .i64 (G k).mem)
        have wq1 := wq0.set (B := w.heap.size) (i := k * 7) (.int .i64 (G k).mem)
        have u2 := u1.put c1 (k := k * 7 + 1) (v := (.int .i64 (G k).ow)) (by omega) (fun ib' l cp he => by simp at he)
        have c2 := c1.set (B := w.heap.size) (i := k * 7 + 1) (.int .i64 (G k).ow)
        have ws2 := ws1.set (B := w.heap.size) (i := k * 7 + 1) (.int .i64 (G k).ow)
        have wq2 := wq1.set (B := w.heap.size) (i := k * 7 + 1) (.int .i64 (G k).ow)
        have u3 := u2.put c2 (k := k * 7 + 2) (v := (.slice (some ⟨sg, 0, none⟩) (G k).zs.length (G k).zs.length)) (by omega) (fun ib' l cp he => by simp only [Value.slice.injEq, Option.some.injEq, Addr.mk.injEq, and_true] at he; obtain ⟨rfl, rfl, _⟩ := he; rw [mLn2, Nat.mul_one]; exact ws2)
        have c3 := c2.set (B := w.heap.size) (i := k * 7 + 2) (.slice (some ⟨sg, 0, none⟩) (G k).zs.length (G k).zs.length)
        have ws3 := ws2.set (B := w.heap.size) (i := k * 7 + 2) (.slice (some ⟨sg, 0, none⟩) (G k).zs.length (G k).zs.length)
        have wq3 := wq2.set (B := w.heap.size) (i := k * 7 + 2) (.slice (some ⟨sg, 0, none⟩) (G k).zs.length (G k).zs.length)
        have u4 := u3.put c3 (k := k * 7 + 3) (v := (.int .i64 (G k).bu)) (by omega) (fun ib' l cp he => by simp at he)
        have c4 := c3.set (B := w.heap.size) (i := k * 7 + 3) (.int .i64 (G k).bu)
        have ws4 := ws3.set (B := w.heap.size) (i := k * 7 + 3) (.int .i64 (G k).bu)
        have wq4 := wq3.set (B := w.heap.size) (i := k * 7 + 3) (.int .i64 (G k).bu)
        have u5 := u4.put c4 (k := k * 7 + 4) (v := (.int .i64 (G k).wt)) (by omega) (fun ib' l cp he => by simp at he)
        have c5 := c4.set (B := w.heap.size) (i := k * 7 + 4) (.int .i64 (G k).wt)
        have ws5 := ws4.set (B := w.heap.size) (i := k * 7 + 4) (.int .i64 (G k).wt)
        have wq5 := wq4.set (B := w.heap.size) (i := k * 7 + 4) (.int .i64 (G k).wt)
        have u6 := u5.put c5 (k := k * 7 + 5) (v := (.int .i64 (G k).ac)) (by omega) (fun ib' l cp he => by simp at he)
        have c6 := c5.set (B := w.heap.size) (i := k * 7 + 5) (.int .i64 (G k).ac)
        have ws6 := ws5.set (B := w.heap.size) (i := k * 7 + 5) (.int .i64 (G k).ac)
        have wq6 := wq5.set (B := w.heap.size) (i := k * 7 + 5) (.int .i64 (G k).ac)
        have u7 := u6.put c6 (k := k * 7 + 6) (v := (.slice (some ⟨qg, 0, none⟩) (G k).qn (G k).qn)) (by omega) (fun ib' l cp he => by simp only [Value.slice.injEq, Option.some.injEq, Addr.mk.injEq, and_true] at he; obtain ⟨rfl, rfl, _⟩ := he; rw [mLn6]; exact wq6)
        have c7 := c6.set (B := w.heap.size) (i := k * 7 + 6) (.slice (some ⟨qg, 0, none⟩) (G k).qn (G k).qn)
        have ws7 := ws6.set (B := w.heap.size) (i := k * 7 + 6) (.slice (some ⟨qg, 0, none⟩) (G k).qn (G k).qn)
        have wq7 := wq6.set (B := w.heap.size) (i := k * 7 + 6) (.slice (some ⟨qg, 0, none⟩) (G k).qn (G k).qn)
        exact hide ⟨u7, c7⟩
      have HB := hide (And.intro (hok2.put hlt (by omega) (by omega) hsl2 hsr2) hB2)
      clear HU hws hwq hok hok2 hbk hbk2 hb2 hB2 q0 q1 q2 q3 q4 q5 q6 hsl hsr hsl2 hsr2
      go_wp2
      go_roundw
      case rel => exact ⟨k + 1, by omega, by go_num, HB.out.1, HB.out.2, HU2⟩
      case measure => simp [intOf]; omega
    · go_wp2
      go_ret
      have e : k = n := by omega
      subst e
      exact ⟨_, rfl, Nat.le_refl _, hok, hok.mls HU.out.1, hbk⟩

end Go.Proofs.YtfckacabaajnkaaDoor
