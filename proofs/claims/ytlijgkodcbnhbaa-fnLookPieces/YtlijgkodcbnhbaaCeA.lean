/- looks in pieces: rows of bools compared and appended, DrawLookedAll, the answers as one view -/
import Derived.Test.YtlijgkodcbnhbaaCdP
import Derived.Test.YtlijgkodcbnhbaaCdA
import Derived.Test.YtlijgkodcbnhbaaCaB4
import Derived.Test.YtlijgkodcbnhbaaCaX
import Derived.Test.YtlijgkodcbnhbaaCdL
namespace Go.Proofs.Ytlijgkodcbnhbaa
open Go.RowKit
set_option linter.unusedVariables false
set_option linter.unusedSimpArgs false

set_option maxHeartbeats 400000 in
theorem sameBools_same (a b : Value) (n : Nat) (h : Nat → Bool) (w : World) (ha : Sb w a n h) (hb : Sb w b n h) (hl : n ≤ 1048576) :
    Calls Try.prog 8 #[a, b] w fun e w' => e = .returned (.bool true) ∧ Below w.heap.size w w' := by
  obtain ⟨ad, cap, rfl, ha⟩ := ha
  obtain ⟨bd, cbp, rfl, hb⟩ := hb
  go_enter Try.func8, Try.ntmps8
  go_wp2
  go_loopw [5] (fun i wr => ∃ k : Nat, k ≤ n ∧ i = .int .i64 k ∧ Below w.heap.size w wr) (fun i _ => n - (intOf i).toNat)
  case atStart => exact ⟨0, Nat.zero_le _, rfl, Below.refl _ _⟩
  case round =>
    obtain ⟨k, hk, rfl, hbk⟩ := hrel
    by_cases hlt : k < n
    · obtain ⟨p, off, rfl, hc⟩ := ha (by omega)
      obtain ⟨q, off', rfl, hd⟩ := hb (by omega)
      have hck : wr.cell? ⟨p, off + k, none⟩ = some (.bool (h k)) := Below.keep hbk _ _ (hc k hlt)
      have hdk : wr.cell? ⟨q, off' + k, none⟩ = some (.bool (h k)) := Below.keep hbk _ _ (hd k hlt)
      generalize h k = z at hck hdk
      clear hc hd ha hb
      go_wp2
      go_quiet (fail)
      all_goals go_wp2
      all_goals go_roundw
      case rel => exact ⟨k + 1, by omega, by go_num, below_drewN hbk _⟩
      case measure => simp [intOf]; omega
    · go_wp2
      go_ret
      exact ⟨rfl, hbk⟩

theorem own_form {w : World} {base : Nat} {T : TypeId} {m n : Nat} {v : Value} {xs : List Value} (h : w.ownsRow base T m v n xs) : ∃ a c, v = .slice a n c := by
  rcases h.2 with ⟨h', hn⟩ | ⟨g, cap, cur, h', _⟩
  · exact ⟨none, 0, by rw [hn]; exact h'⟩
  · exact ⟨_, _, h'⟩
theorem own_cap {w : World} {base : Nat} {T : TypeId} {m n : Nat} {v : Value} {xs : List Value} (h : w.ownsRow base T m v n xs) : ∀ a n' cap, v = .slice a n' cap → n' ≤ cap := by
  intro a n' cap e
  rcases h.2 with ⟨h', hn⟩ | ⟨g, cap', cur, h', hb, hg, hnc, r⟩
  · rw [h'] at e
    simp only [Value.slice.injEq] at e
    omega
  · rw [h'] at e
    simp only [Value.slice.injEq] at e
    omega
theorem own_at {w : World} {base m n : Nat} {T : TypeId} {v : Value} {xs : List Value} (h : w.ownsRow base T m v n xs) {g : Nat} (e : v.ownBlock = some g) : base ≤ g ∧ g < w.heap.size := World.ownsRow.lt h g e

theorem bl_length (h : Nat → Bool) (n : Nat) : (bl h n).length = n := by simp [bl]
theorem Sb.news {w : World} {a : Addr} {n c : Nat} {h : Nat → Bool} (s : Sb w (.slice (some a) n c) n h) : ∀ j u, (bl h n)[j]? = some u → w.cell? (a.add j) = some u := by
  intro j u hj
  obtain ⟨ad, cap, e, hc⟩ := s
  have hlt : j < n := by
    have := (List.getElem?_eq_some_iff.1 hj).1
    rwa [bl_length] at this
  obtain ⟨b, off, e2, hc⟩ := hc (by omega)
  rw [e2] at e
  simp only [Value.slice.injEq, Option.some.injEq] at e
  obtain ⟨rfl, _, _⟩ := e
  have := hc j hlt
  simp [bl, hlt] at hj
  rw [← hj]
  unfold Addr.add
  by_cases h0 : j = 0
  · subst h0; simpa using this
  · simpa [h0] using this
theorem bools_one {h : Nat → Bool} {n : Nat} : ∀ u ∈ bl h n, u.oneCell' = true := by
  intro u hu
  simp [bl] at hu
  obtain ⟨j, _, rfl⟩ := hu
  rfl

theorem append_bools (W : World) (base : Nat) (v y : Value) (n m : Nat) (xs : List Value) (h : Nat → Bool) (ty : TypeId) (hv : W.ownsRow base 4 1 v n xs) (hy : Sb W y m h) (h1 : n ≤ 1000) (h2 : m ≤ 1000) (hb : base ≤ W.heap.size) :
    ∃ v' w', (Builtin.append_ #[30, 30] ty #[v, y]).run Try.prog W = .ok v' w' ∧ w'.ownsRow base 4 1 v' (n + m) (xs ++ bl h m) ∧ W.grownBy w' v.ownBlock := by
  obtain ⟨i0, hi, hz0, hz1, hz2⟩ := info_parts infoB
  by_cases hx : m = 0
  · subst hx
    obtain ⟨ad, cap, e, _⟩ := hy
    obtain ⟨a, c, ev⟩ := own_form hv
    have hcp := own_cap hv a _ c ev
    subst e
    subst ev
    refine ⟨_, W, ?_, by simpa [bl] using hv, ⟨rfl, rfl, rfl, Nat.le_refl _, fun _ _ _ => rfl⟩⟩
    have hs : i0.size = 1 := hz1
    cases ad with
    | none => cases a <;> simp [Builtin.append_, run_underlying Try.underlying30, sizeOf, typeInfo, hi, Builtin.lenOf, hcp, Builtin.firstCells, storeCells]
    | some b =>
      have hfc := run_firstCells_some (P := Try.prog) W i0.size 0 b 0 cap [] (by simp) (fun j u hu => by simp at hu)
      cases a <;> simp [Builtin.append_, run_underlying Try.underlying30, sizeOf, typeInfo, hi, Builtin.lenOf, hcp, hfc, storeCells]
  · have hp : 0 < m := by omega
    obtain ⟨ad, cap, e, hc⟩ := hy
    obtain ⟨b, off, rfl, hc2⟩ := hc hp
    subst e
    have hsl : Sb W (.slice (some ⟨b, off, none⟩) m cap) m h := ⟨_, cap, rfl, fun _ => ⟨b, off, rfl, hc2⟩⟩
    obtain ⟨v', w', hr, hown, hgrow, _, _⟩ := run_append_own_at (P := Try.prog) W base 30 ty 4 i0 _ 1 1 Try.underlying30 hi hz0 hz1 hz2 rfl (by omega) v n xs hv ⟨b, off, none⟩ m cap (bl h m) (by simp [bl]) hsl.news bools_one (by unfold maxLen; omega) (by omega) hb
    exact ⟨v', w', hr, hown, hgrow⟩

theorem wpList_append_ok {P : Program} {ops : Array Oper} {rest : List Oper} {o : Oper} {a : Act} {w : World} {Q : Exit → Act → World → Prop} (hw : Region.wanted o (yielded ops a.tmps) = true) (s x : Operand) (t : TypeId)
    (ho : o.op = .call { callee := .builtin .append, args := #[s, x], argTypes := #[t, t] }) {v u v' : Value} {w' : World} (hs : a.eval s = v) (hx : a.eval x = u) (hr : (Builtin.append_ #[t, t] o.type #[v, u]).run P w = .ok v' w') (h : wpList P ops Q rest (a.put o.dst v') w') : wpList P ops Q (o :: rest) a w := by
  unfold wpList
  rw [if_pos hw]
  left
  unfold Oper.wp execOp
  simp only [ho, resolve, invoke, builtin, Sem.run_bind, Sem.run_pure, Result.andThen_ok, List.map_toArray, List.map_cons, List.map_nil, hs, hx, hr]
  exact h

/-- a row's first k numbers, and those behind them, as slices -/
theorem head_run (ad : Option Addr) (n cap k : Nat) (hk : k ≤ n) (hc : n ≤ cap) (hn : ad = none → cap = 0) : ∀ W : World, (Instr.slice 27 (.slice ad n cap) none (some (.int .i64 (k : Int))) none).run Try.prog W = .ok (.slice ad k cap) W := by
  intro W
  have hkc : k ≤ cap := by omega
  cases ad with
  | none =>
    obtain rfl := hn rfl
    obtain rfl : k = 0 := by omega
    obtain rfl : n = 0 := by omega
    simp [go_sem, Try.underlying27, Instr.slice, Instr.sliceBounds, Instr.sliceBound, asIntOf]
  | some a => simp [go_sem, Try.underlying27, Instr.slice, Instr.sliceBounds, Instr.sliceBound, asIntOf, Addr.add, hkc]
theorem tail_run (ad : Option Addr) (n cap k : Nat) (hk : k ≤ n) (hc : n ≤ cap) (hn : ad = none → cap = 0) (hsp : ∀ a, ad = some a → a.spot = none) : ∃ v', (∀ W : World, (Instr.slice 27 (.slice ad n cap) (some (.int .i64 (k : Int))) none none).run Try.prog W = .ok v' W) ∧ ∀ (W : World) (zs : List Int), zs.length = n → Sl W (.slice ad n cap) zs → Sl W v' (zs.drop k) := by
  cases ad with
  | none =>
    obtain rfl := hn rfl
    obtain rfl : n = 0 := by omega
    obtain rfl : k = 0 := by omega
    refine ⟨.slice none 0 0, fun W => by simp [go_sem, Try.underlying27, Instr.slice, Instr.sliceBounds, Instr.sliceBound, asIntOf], fun W zs hl h => by rw [List.drop_zero]; exact h⟩
  | some a =>
    obtain ⟨p, off, lm⟩ := a
    obtain rfl : lm = none := hsp _ rfl
    refine ⟨.slice (if cap = k then some ⟨p, off, none⟩ else some ⟨p, off + k, none⟩) (n - k) (cap - k), fun W => ?_, fun W zs hl h => ?_⟩
    · have h1 : (k : Int) ≤ (n : Int) := by omega
      have h2 : (cap - k = 0) = (cap = k) := by simp; omega
      by_cases h0 : k = 0
      · subst h0
        simp [go_sem, Try.underlying27, Instr.slice, Instr.sliceBounds, Instr.sliceBound, asIntOf, Addr.add, hc]
      · simp [go_sem, Try.underlying27, Instr.slice, Instr.sliceBounds, Instr.sliceBound, asIntOf, Addr.add, h1, hk, hc, h2, h0]
    · obtain ⟨ad, c2, e, h⟩ := h
      simp only [Value.slice.injEq] at e
      obtain ⟨rfl, _, rfl⟩ := e
      refine ⟨_, _, by rw [List.length_drop, hl], fun hp => ?_⟩
      rw [List.length_drop] at hp
      obtain ⟨b, o2, e2, h7⟩ := h (by omega)
      simp only [Option.some.injEq, Addr.mk.injEq] at e2
      obtain ⟨rfl, rfl, _⟩ := e2
      refine ⟨p, off + k, by rw [if_neg (by omega)], fun j hj => ?_⟩
      rw [List.length_drop] at hj
      have h8 := h7 (k + j) (by omega)
      rw [← Nat.add_assoc] at h8
      rw [h8]
      simp [List.getD]
theorem Sl.take {W : World} {ad : Option Addr} {n cap k : Nat} {zs : List Int} (hl : zs.length = n) (hk : k ≤ n) (h : Sl W (.slice ad n cap) zs) : Sl W (.slice ad k cap) (zs.take k) := by
  obtain ⟨a, c, e, h⟩ := h
  simp only [Value.slice.injEq] at e
  obtain ⟨rfl, _, rfl⟩ := e
  have e2 : (zs.take k).length = k := by simp; omega
  refine ⟨_, _, by rw [e2], fun hp => ?_⟩
  rw [e2] at hp ⊢
  obtain ⟨b, o2, e9, h7⟩ := h (by omega)
  refine ⟨b, o2, e9, fun j hj => ?_⟩
  rw [h7 j (by omega)]
  simp [List.getD, hj]

/-- a number of looks, as it is answered: the sets (n of them), the bools (m of them) -/
structure Av where
  n : Nat
  D : Nat → Sm
  m : Nat
  h : Nat → Bool
def ans (n : Nat) (L : Nat → Nat) (D : Nat → Sm) (zs : List Int) : Av :=
  if aok n L D zs = true then ⟨2, two (Ca.rn (D 0) (D 1) (zf zs) zs.length).1 (Ca.rn (D 0) (D 1) (zf zs) zs.length).2, zs.length, Ca.ht (D 0) (D 1) (zf zs)⟩ else ⟨0, two (D 0) (D 1), 0, fun _ => false⟩
theorem ans_small (n : Nat) (L : Nat → Nat) (D : Nat → Sm) (zs : List Int) (h : zs.length ≤ 100) : (ans n L D zs).n ≤ 2 ∧ (ans n L D zs).m ≤ 100 := by
  unfold ans
  split <;> simp <;> omega
theorem AllPost.av {n : Nat} {L : Nat → Nat} {D : Nat → Sm} {zs : List Int} {w : World} {e : Ending} {w' : World} {A : Av} (hA : ans n L D zs = A) (h : AllPost n L D zs w e w') :
    ∃ u c vb d, e = .returned (.tuple #[.agg #[.slice u A.n c], .slice vb A.m d]) ∧ Cv w' (.slice u A.n c) A.n (fun _ => 4) A.D ∧ Sb w' (.slice vb A.m d) A.m A.h ∧ Below w.heap.size w w' ∧
      ∀ b x, b < w.heap.size → Cv (w'.setCell ⟨b, 0, none⟩ x) (.slice u A.n c) A.n (fun _ => 4) A.D ∧ Sb (w'.setCell ⟨b, 0, none⟩ x) (.slice vb A.m d) A.m A.h := by
  subst hA
  rcases h with ⟨ho, G, c, ib, vb, rfl, hcg, hrb, _, hb⟩ | ⟨ho, rfl, hb⟩
  · obtain ⟨a, d, rfl⟩ := own_form hrb
    unfold ans
    rw [if_pos ho]
    refine ⟨_, c, a, d, rfl, hcg.cv, hrb.sb, hb, fun b x hbx => ⟨?_, ?_⟩⟩
    · have hlo := hcg.lo
      exact (hcg.grown (grown_set w' b 0 x) (by simp; omega) (fun k hk => by have := hlo.2 k hk; simp; omega)).cv
    · exact Rb.sb (Rb.set' hrb (fun e => by have := (own_at hrb e).1; omega))
  · unfold ans
    rw [if_neg (by rw [ho]; decide)]
    have h1 : ∀ W : World, Cv W (.slice none 0 0) 0 (fun _ => 4) (two (D 0) (D 1)) := fun W => ⟨none, 0, rfl, fun h => absurd h (by simp)⟩
    have h2 : ∀ W : World, Sb W (.slice none 0 0) 0 (fun _ => false) := fun W => ⟨none, 0, rfl, fun h => absurd h (by simp)⟩
    exact ⟨none, 0, none, 0, rfl, h1 _, h2 _, hb, fun b x _ => ⟨h1 _, h2 _⟩⟩
theorem Sb.below {w w' : World} {v : Value} {n : Nat} {h : Nat → Bool} (r : Sb w v n h) (hb : Below w.heap.size w w') : Sb w' v n h := by
  obtain ⟨ad, cap, rfl, r⟩ := r
  refine ⟨ad, cap, rfl, fun hp => ?_⟩
  obtain ⟨b, off, e9, r7⟩ := r hp
  exact ⟨b, off, e9, fun j hj => keepc hb (r7 j hj)⟩
/-- a cache in a variable of its own -/
structure Bc (w : World) (B : Nat) (u : Option Addr) (n c : Nat) (D : Nat → Sm) : Prop where
  box : w.heap[B]? = some (.cells #[.slice u n c] 26 (0, 0))
  cv : Cv w (.slice u n c) n (fun _ => 4) D
theorem Bc.below {w w' : World} {B : Nat} {u : Option Addr} {n c : Nat} {D : Nat → Sm} (h : Bc w B u n c D) (hb : Below w.heap.size w w') : Bc w' B u n c D := ⟨heap_b h.box hb, h.cv.below hb⟩
theorem Bc.new {w : World} {u : Option Addr} {n c : Nat} {D : Nat → Sm} (h : Cv w (.slice u n c) n (fun _ => 4) D) : Bc (w.alloc (.cells #[.slice u n c] 26)) w.heap.size u n c D ∧ Below w.heap.size w (w.alloc (.cells #[.slice u n c] 26)) :=
  ⟨⟨heap_alloc_new _ _, h.below (boxb w _)⟩, boxb w _⟩
theorem Bc.cell {w : World} {B : Nat} {u : Option Addr} {n c : Nat} {D : Nat → Sm} (h : Bc w B u n c D) : w.cell? ⟨B, 0, none⟩ = some (.slice u n c) := cell_of_row _ _ 0 _ _ _ h.box

namespace Ca
theorem rn_congr {s t : Sm} {z z' : Nat → Int} : ∀ k, (∀ j, j < k → z j = z' j) → rn s t z k = rn s t z' k
  | 0, _ => rfl
  | k + 1, h => by
    show lk2 (rn s t z k).1 (rn s t z k).2 (z k) = lk2 (rn s t z' k).1 (rn s t z' k).2 (z' k)
    rw [rn_congr k (fun j hj => h j (by omega)), h k (by omega)]
theorem rn_add (s t : Sm) (z : Nat → Int) (a : Nat) : ∀ b, rn (rn s t z a).1 (rn s t z a).2 (fun j => z (a + j)) b = rn s t z (a + b)
  | 0 => rfl
  | b + 1 => by
    show lk2 _ _ (z (a + b)) = lk2 (rn s t z (a + b)).1 (rn s t z (a + b)).2 (z (a + b))
    rw [rn_add s t z a b]
end Ca
theorem zf_take (zs : List Int) (k j : Nat) (h : j < k) : zf (zs.take k) j = zf zs j := by simp [zf, List.getD, h]
theorem zf_drop (zs : List Int) (k j : Nat) : zf (zs.drop k) j = zf zs (k + j) := by simp [zf, List.getD]
theorem aok_parts {n : Nat} {L : Nat → Nat} {D : Nat → Sm} {zs : List Int} (h : aok n L D zs = true) : Ca.cokB n L D = true ∧ zs.length ≤ 100 ∧ ∀ j, j < zs.length → inR (zf zs j) 1000 = true := by
  simp only [aok, Bool.and_eq_true, decide_eq_true_eq] at h
  exact ⟨h.1.1, h.1.2, h.2⟩
theorem bl_app {h1 h2 h3 : Nat → Bool} {a b : Nat} (e1 : ∀ j, j < a → h1 j = h3 j) (e2 : ∀ j, j < b → h2 j = h3 (a + j)) : bl h1 a ++ bl h2 b = bl h3 (a + b) := by
  apply List.ext_getElem?
  intro j
  by_cases hj : j < a
  · rw [List.getElem?_append_left (by rw [bl_length]; exact hj)]
    simp [bl, hj, show j < a + b by omega, e1 j hj]
  · rw [List.getElem?_append_right (by rw [bl_length]; omega), bl_length]
    by_cases h2 : j < a + b
    · simp [bl, show j - a < b by omega, h2, e2 _ (show j - a < b by omega), show a + (j - a) = j by omega]
    · simp [bl, show ¬ j - a < b by omega, h2]
/-- looks in two pieces -/
theorem ans_add {n : Nat} {L : Nat → Nat} {D : Nat → Sm} {zs : List Int} {k : Nat} (hm : (ans n L D zs).m = zs.length) (hk : k ≤ zs.length) :
    (ans (ans n L D (zs.take k)).n (fun _ => 4) (ans n L D (zs.take k)).D (zs.drop k)).n = (ans n L D zs).n ∧ (ans (ans n L D (zs.take k)).n (fun _ => 4) (ans n L D (zs.take k)).D (zs.drop k)).D = (ans n L D zs).D ∧
    (ans n L D (zs.take k)).m + (ans (ans n L D (zs.take k)).n (fun _ => 4) (ans n L D (zs.take k)).D (zs.drop k)).m = (ans n L D zs).m ∧
    bl (ans n L D (zs.take k)).h (ans n L D (zs.take k)).m ++ bl (ans (ans n L D (zs.take k)).n (fun _ => 4) (ans n L D (zs.take k)).D (zs.drop k)).h (ans (ans n L D (zs.take k)).n (fun _ => 4) (ans n L D (zs.take k)).D (zs.drop k)).m = bl (ans n L D zs).h (ans n L D zs).m := by
  have htl : (zs.take k).length = k := by simp; omega
  have hdl : (zs.drop k).length = zs.length - k := by simp
  cases ho : aok n L D zs
  · have e0 : zs = [] := by
      unfold ans at hm
      rw [if_neg (by rw [ho]; decide)] at hm
      exact List.length_eq_zero_iff.1 hm.symm
    subst e0
    have h1 : ans n L D ([] : List Int) = ⟨0, two (D 0) (D 1), 0, fun _ => false⟩ := by unfold ans; rw [if_neg (by rw [ho]; decide)]
    have h2 : aok 0 (fun _ => 4) (two (D 0) (D 1)) ([] : List Int) = false := aok_cok (by rw [Ca.cokB]; rfl)
    have h3 : ans 0 (fun _ => 4) (two (D 0) (D 1)) ([] : List Int) = ⟨0, two (D 0) (D 1), 0, fun _ => false⟩ := by unfold ans; rw [if_neg (by rw [h2]; decide)]; rfl
    simp [h1, h3, bl]
  · obtain ⟨hc, hl, hall⟩ := aok_parts ho
    obtain ⟨rfl, _, _, hr0, hr1⟩ := cok_two hc
    have h1 : ans 2 L D zs = ⟨2, two (Ca.rn (D 0) (D 1) (zf zs) zs.length).1 (Ca.rn (D 0) (D 1) (zf zs) zs.length).2, zs.length, Ca.ht (D 0) (D 1) (zf zs)⟩ := by unfold ans; rw [if_pos ho]
    have ho1 : aok 2 L D (zs.take k) = true := aok_yes hc (by omega) (fun j hj => by rw [zf_take _ _ _ (by omega)]; exact hall j (by omega))
    have ec : Ca.rn (D 0) (D 1) (zf (zs.take k)) k = Ca.rn (D 0) (D 1) (zf zs) k := Ca.rn_congr k (fun j hj => zf_take _ _ _ hj)
    have h2 : ans 2 L D (zs.take k) = ⟨2, two (Ca.rn (D 0) (D 1) (zf zs) k).1 (Ca.rn (D 0) (D 1) (zf zs) k).2, k, Ca.ht (D 0) (D 1) (zf (zs.take k))⟩ := by unfold ans; rw [if_pos ho1, htl, ec]
    obtain ⟨q1, q2⟩ := Ca.rn_right (z := zf zs) hr0 hr1 k (fun j hj => hall j (by omega))
    have ho2 : aok 2 (fun _ => 4) (two (Ca.rn (D 0) (D 1) (zf zs) k).1 (Ca.rn (D 0) (D 1) (zf zs) k).2) (zs.drop k) = true := aok_yes (Ca.cok_of q1 q2) (by omega) (fun j hj => by rw [zf_drop]; exact hall _ (by omega))
    have ed : zf (zs.drop k) = fun j => zf zs (k + j) := funext fun j => zf_drop zs k j
    have ea : Ca.rn (Ca.rn (D 0) (D 1) (zf zs) k).1 (Ca.rn (D 0) (D 1) (zf zs) k).2 (fun j => zf zs (k + j)) (zs.length - k) = Ca.rn (D 0) (D 1) (zf zs) zs.length := by
      rw [Ca.rn_add]
      rw [show k + (zs.length - k) = zs.length by omega]
    have t0 : two (Ca.rn (D 0) (D 1) (zf zs) k).1 (Ca.rn (D 0) (D 1) (zf zs) k).2 0 = (Ca.rn (D 0) (D 1) (zf zs) k).1 := rfl
    have t1 : two (Ca.rn (D 0) (D 1) (zf zs) k).1 (Ca.rn (D 0) (D 1) (zf zs) k).2 1 = (Ca.rn (D 0) (D 1) (zf zs) k).2 := rfl
    have h3 : ans 2 (fun _ => 4) (two (Ca.rn (D 0) (D 1) (zf zs) k).1 (Ca.rn (D 0) (D 1) (zf zs) k).2) (zs.drop k) = ⟨2, two (Ca.rn (D 0) (D 1) (zf zs) zs.length).1 (Ca.rn (D 0) (D 1) (zf zs) zs.length).2, zs.length - k, Ca.ht (Ca.rn (D 0) (D 1) (zf zs) k).1 (Ca.rn (D 0) (D 1) (zf zs) k).2 (fun j => zf zs (k + j))⟩ := by
      unfold ans
      rw [if_pos ho2, hdl, t0, t1, ed, ea]
    rw [h2, h1]
    simp only []
    rw [h3]
    refine ⟨rfl, rfl, by simp only []; omega, ?_⟩
    simp only []
    rw [bl_app (h3 := Ca.ht (D 0) (D 1) (zf zs)) (fun j hj => ?_) (fun j hj => ?_), show k + (zs.length - k) = zs.length by omega]
    · unfold Ca.ht
      rw [Ca.rn_congr (z' := zf zs) j (fun i hi => zf_take _ _ _ (by omega)), zf_take _ _ _ hj]
    · unfold Ca.ht
      rw [Ca.rn_add]

set_option maxHeartbeats 2000000 in
theorem drawAll_any (ad : Option Addr) (n cap : Nat) (w : World) (hb : Bt w ad n) (hn : n ≤ 1048576) :
    Calls Try.prog 5 #[.slice ad n cap] w fun e w' => ∃ G c ib s t la lc, ∃ zs : List Int, e = .returned (.tuple #[.agg #[sl G 2 c], .slice la zs.length lc]) ∧ Cg w' w.heap.size (sl G 2 c) 2 (fun _ => 4) (two s t) G ib ∧ Sl w' (.slice la zs.length lc) zs ∧ zs.length ≤ 20 ∧ zs.length ≤ lc ∧ (la = none → lc = 0) ∧ (∀ a, la = some a → a.spot = none) ∧ Below w.heap.size w w' := by
  have hb' := hb.below ((Below.refl _ w).alloc (Nat.le_refl _) (.cells #[.slice none 0 0] 26))
  clear hb
  go_enter Try.func5, Try.ntmps5
  go_wp2_with fail
  refine (open_any ad n cap _ hb' hn).mono ?_
  rintro e w1 ⟨g, rfl, hg1, hr1, hb1⟩
  clear hb'
  go_wp2_with fail
  refine (rcache_any g _ hr1).mono ?_
  rintro e w2 ⟨G, c, ib, s, t, rfl, hc2, hr2, hg2⟩
  have d := De.start hg1 hb1 hr1 hc2 hr2 hg2
  obtain ⟨b, hbb⟩ : ∃ b, w2.heap.size = b := ⟨_, rfl⟩
  obtain ⟨W, hW⟩ : ∃ W, w2.alloc (.cells #[sl G 2 c] 26) = W := ⟨_, rfl⟩
  rw [hbb, hW] at d
  clear hg1 hb1 hr1 hc2 hr2 hg2
  obtain ⟨c3, f3, r3⟩ := d.facts
  have hbl := lt_of_block d.box
  have hwl := d.bel.size
  have hdlo := d.lo
  have hadr : ∀ W, Rdr W g → Calls Try.prog 12 #[.pointer (some ⟨g, 0, none⟩), .int .i64 20] W fun e w' => ∃ u zs, e = .returned u ∧ Ow w' W.heap.size u zs ∧ zs.length ≤ 20 ∧ Rdr w' g ∧ W.grownBy w' (some g) := fun W h => addrs_any g 20 W h (by decide)
  go_wp2
  clear hW hbb
  go_region_held3 (fun w' => w'.cell? ⟨b, 0, none⟩ = some (sl G 2 c)) (first | exact c3 | exact c4 | exact c5) (first | (go_at_call 12; refine (hadr _ d.drew.rd).mono ?_; rintro e V3 ⟨u, zs, rfl, how, hzl, hr3, hg3⟩; have d3 := d.drew.read hr3 hg3; obtain ⟨c4, f4, r4⟩ := d3.facts; have c5 := d3.put (sl G 2 c)))
  have HF := hide d3.fin
  obtain ⟨la, lc, hu, _⟩ := how.form
  have HC := hide (own_cap how _ _ _ hu)
  have HNn : Hid (la = none → lc = 0) := hide (fun e => by
    rcases how.2 with ⟨h', _⟩ | ⟨g', cap', cur, h', _⟩
    · rw [hu] at h'; simp only [Value.slice.injEq] at h'; exact h'.2.2
    · rw [hu, e] at h'; simp at h')
  have HSp : Hid (∀ a, la = some a → a.spot = none) := hide (fun a e => by
    rcases how.2 with ⟨h', _⟩ | ⟨g', cap', cur, h', _⟩
    · rw [hu, e] at h'; simp at h'
    · rw [hu, e] at h'; simp only [Value.slice.injEq, Option.some.injEq] at h'; rw [h'.1])
  have HS : Hid (Sl (V3.setCell ⟨w.heap.size, 0, none⟩ (sl G 2 c)) (.slice la zs.length lc) zs) := hide (by
    rw [← hu]
    have hgs := grown_set V3 w.heap.size 0 (sl G 2 c)
    refine Ow.sl (World.ownsRow.kept how hgs (Or.inr fun e => ?_))
    have := (own_at how (g := w.heap.size) e).1
    simp at this
    omega)
  clear d d3 hr3 hg3 how hbl hdlo
  subst hu
  go_wp2
  refine bodyPost_ret (v := .tuple #[.agg #[sl G 2 c], .slice la zs.length lc]) (by simp [results, Try.results5, go_sem, r4]) rfl ⟨G, c, ib, _, _, la, lc, zs, rfl, HF.out.1, HS.out, hzl, HC.out, HNn.out, HSp.out, HF.out.2⟩

end Go.Proofs.Ytlijgkodcbnhbaa
