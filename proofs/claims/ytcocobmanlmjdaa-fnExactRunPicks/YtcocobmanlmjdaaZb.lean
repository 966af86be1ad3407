/- LqdG, LqdH, LqdI, LqdJ, LqdK, in one text -/
import Derived.Test.YtcocobmanlmjdaaZLqdF
import Derived.Test.YtcocobmanlmjdaaDrB
import Derived.Test.YtcocobmanlmjdaaZd
import Derived.Test.YtcocobmanlmjdaaZa
import Derived.Test.YtcocobmanlmjdaaTkM
import Derived.Test.YtcocobmanlmjdaaDrC
import Derived.Test.YtcocobmanlmjdaaTmE
import Derived.Laws.OwnMore
/- a pick, whatever it is; a Tso that lies apart from the boxes of a call -/
namespace Go.Proofs.Ytcocobmanlmjdaa
open Go.RowKit
set_option linter.unusedVariables false
set_option linter.unusedSimpArgs false

/-- a thread brought to its end -/
def fin (C : Nat) (L : Nat → Nat) (F : Nat → Nat → Nat → Int) (s : Rs) (i : Nat) : Rs := fin1 C L F i (msr L s i) s
theorem fin_stop {C : Nat} {L : Nat → Nat} {F : Nat → Nat → Nat → Int} {s : Rs} {i : Nat} (h : s.a i = L i) : fin C L F s i = s := by
  unfold fin
  cases msr L s i with
  | zero => rfl
  | succ n => rw [fin1, if_pos h]
theorem fin_trn {C : Nat} {L : Nat → Nat} {F : Nat → Nat → Nat → Int} {s : Rs} {i : Nat} (hr : Rgt C L F) (h : Rok C L s) (hi : i < C) (hne : s.a i ≠ L i) : fin C L F s i = fin C L F (trn C L F s i) i := by
  obtain ⟨q1, q2⟩ := trn_less hr h hi hne
  unfold fin
  obtain ⟨n, hn⟩ : ∃ n, msr L s i = n + 1 := ⟨msr L s i - 1, by omega⟩
  rw [hn, fin1, if_neg hne]
  exact fin1_turn hr hi _ _ _ q2 (by omega) (Nat.le_refl _)
theorem fin_ok {C : Nat} {L : Nat → Nat} {F : Nat → Nat → Nat → Int} {s : Rs} {i : Nat} (hr : Rgt C L F) (h : Rok C L s) (hi : i < C) : Rok C L (fin C L F s i) := (fin1_end hr hi _ s h (Nat.le_refl _)).2

/-- a Tso apart from the first N blocks behind w: the one t that was there in w, or one in blocks of its own up to H -/
abbrev T0 := Value × Value × Value × Td
def Tw (N H : Nat) (w wr : World) (t : T0) (m b r : Value) (d : Td) (C : Nat) : Prop :=
  (t = (m, b, r, d) ∧ Tv w m b r d.zs C d.L d.F C d.Z ∧ Below w.heap.size w wr) ∨ ∃ lo hi, Fr wr lo hi m b r d C ∧ w.heap.size + N ≤ lo ∧ hi ≤ H
theorem Tw.tv {N H : Nat} {w wr : World} {t : T0} {m b r : Value} {d : Td} {C : Nat} (h : Tw N H w wr t m b r d C) : Tv wr m b r d.zs C d.L d.F C d.Z := by
  rcases h with ⟨_, h1, h2⟩ | ⟨_, _, h, _⟩
  · exact h1.below h2
  · exact h.tv
theorem Tw.below {N H : Nat} {w wr wr' : World} {t : T0} {m b r : Value} {d : Td} {C : Nat} (h : Tw N H w wr t m b r d C) (hb : Below wr.heap.size wr wr') : Tw N H w wr' t m b r d C := by
  rcases h with ⟨h0, h1, h2⟩ | ⟨lo, hi, h, q⟩
  · exact .inl ⟨h0, h1, h2.trans (hb.mono h2.size)⟩
  · exact .inr ⟨lo, hi, h.below hb, q⟩
theorem Tw.mono {N H H' : Nat} {w wr : World} {t : T0} {m b r : Value} {d : Td} {C : Nat} (h : Tw N H w wr t m b r d C) (hH : H ≤ H') : Tw N H' w wr t m b r d C := by
  rcases h with h | ⟨lo, hi, h, q1, q2⟩
  · exact .inl h
  · exact .inr ⟨lo, hi, h, q1, by omega⟩
theorem Tw.set {N H : Nat} {w wr : World} {t : T0} {m b r : Value} {d : Td} {C : Nat} (h : Tw N H w wr t m b r d C) (hC : C ≤ 40) {B i : Nat} {v : Value} (hw : w.heap.size ≤ B) (hB : B < w.heap.size + N ∨ H ≤ B) : Tw N H w (wr.setCell ⟨B, i, none⟩ v) t m b r d C := by
  rcases h with ⟨h0, h1, h2⟩ | ⟨lo, hi, h, q1, q2⟩
  · exact .inl ⟨h0, h1, h2.setCell (p := ⟨B, i, none⟩) hw v⟩
  · exact .inr ⟨lo, hi, h.set hC (by omega), q1, q2⟩
theorem Tw.six {N H : Nat} {w V : World} {t : T0} {m b r : Value} {d : Td} {C : Nat} {B : Nat} {v0 v1 v2 v3 v4 v5 : Value} (h : Tw N H w V t m b r d C) (hC : C ≤ 40) (hw : w.heap.size ≤ B) (hB : B < w.heap.size + N ∨ H ≤ B) : Tw N H w ((((((V.setCell ⟨B, 0, none⟩ (v0)).setCell ⟨B, 1, none⟩ (v1)).setCell ⟨B, 2, none⟩ (v2)).setCell ⟨B, 3, none⟩ (v3)).setCell ⟨B, 4, none⟩ (v4)).setCell ⟨B, 5, none⟩ (v5)) t m b r d C :=
  (((((h.set hC hw hB).set hC hw hB).set hC hw hB).set hC hw hB).set hC hw hB).set hC hw hB
/-- behind an act -/
theorem Tw.did {N H lo hi : Nat} {w wr w' : World} {t : T0} {mv bv rv m b r : Value} {d d' : Td} {C : Nat} {ok : Bool} (h : Tw N H w wr t mv bv rv d C) (hb : Below wr.heap.size wr w') (hd : DidP w' lo hi mv bv rv d' C ok m b r) (he : ok = false → d' = d) (hlo : w.heap.size + N ≤ lo) (hH : H ≤ hi) : Tw N hi w w' t m b r d' C := by
  rcases hd with ⟨rfl, hf⟩ | ⟨q, rfl, rfl, rfl⟩
  · exact .inr ⟨lo, hi, hf, hlo, Nat.le_refl _⟩
  · rw [he q]; exact (h.below hb).mono hH
/-- behind a call that handed one back -/
theorem Tw.after {N N' H H' : Nat} {w wr w' : World} {t : T0} {mv bv rv m b r : Value} {d d' : Td} {C : Nat} (h : Tw N H w wr t mv bv rv d C) (h2 : Tw N' H' wr w' (mv, bv, rv, d) m b r d' C) (hN : w.heap.size + N ≤ wr.heap.size + N') (hH : H ≤ H') : Tw N H' w w' t m b r d' C := by
  rcases h2 with ⟨h0, _, hb⟩ | ⟨lo, hi, hf, q1, q2⟩
  · simp only [Prod.mk.injEq] at h0
    obtain ⟨rfl, rfl, rfl, rfl⟩ := h0
    exact (h.below hb).mono hH
  · exact .inr ⟨lo, hi, hf, by omega, q2⟩

/-- a pick's answer, for a run s -/
theorem picked_all (ta : Option Addr) (tn tc : Nat) (L : Nat → Nat) (F : Nat → Nat → Nat → Int) (s : Rs) (mv bv rv : Value) (p : Nat) (w : World) (hs : Sa w (.slice ta tn tc) tn L F) (h : Tv w mv bv rv s.d.zs tn s.d.L s.d.F tn s.d.Z) (hr : Rok tn L s) (htn : tn ≤ 2) (hL : ∀ c, c < tn → L c ≤ 3) (hp : p < 2 * tn) :
    Calls Try.prog 32 #[.agg (run6 (.slice ta tn tc) (s.a 0 : Nat) (s.a 1 : Nat) mv bv rv), .int .i64 p] w (DidQ w (.slice ta tn tc) ((((pck tn L F s p).getD s).a 0 : Nat) : Int) ((((pck tn L F s p).getD s).a 1 : Nat) : Int) mv bv rv ((pck tn L F s p).getD s).d tn (pck tn L F s p).isSome) := by
  unfold pck
  by_cases hpt : p < tn
  · rw [if_pos hpt]
    unfold stp
    by_cases he : s.a p = L p
    · rw [if_pos he]
      obtain ⟨⟨ma, mc, rfl⟩, ⟨ba, bc, rfl⟩, ⟨ra, rc, rfl⟩⟩ := three_of h
      refine (picked_end ta tn tc L F (s.a 0 : Nat) (s.a 1 : Nat) ma ba ra s.d.zs.length mc bc rc p w hs hpt htn ?_).mono ?_
      · unfold ac
        rcases (show p = 0 ∨ p = 1 by omega) with rfl | rfl
        · rw [if_pos rfl]; omega
        · rw [if_neg (by omega)]; omega
      · rintro e w' ⟨rfl, hb⟩
        exact ⟨_, _, _, _, _, _, _, rfl, hb, .inr ⟨rfl, rfl, rfl, rfl⟩⟩
    · rw [if_neg he]
      have hlt : s.a p < L p := by have := hr.le p hpt; omega
      have hLp : L p < 100 := by have := hL p hpt; omega
      rcases (show p = 0 ∨ p = 1 by omega) with rfl | rfl
      · have q := picked_did0 ta tn tc L F (s.a 0) (s.a 1 : Nat) mv bv rv s.d _ w hs h hr.tok hpt htn hlt hLp rfl
        by_cases ho : okc s.d tn (F 0 (s.a 0) 0) (F 0 (s.a 0) 1) (F 0 (s.a 0) 2) (F 0 (s.a 0) 3) (F 0 (s.a 0) 4) = 0
        · rw [decide_eq_true ho] at q
          rw [if_pos ho]
          have e0 : upd s.a 0 (s.a 0 + 1) 0 = s.a 0 + 1 := upd_at ..
          have e1 : upd s.a 0 (s.a 0 + 1) 1 = s.a 1 := upd_ne (by decide)
          simp only [Option.getD_some, Option.isSome_some, e0, e1, Int.natCast_add]
          exact q
        · rw [decide_eq_false ho] at q
          rw [if_neg ho]
          refine q.mono ?_
          rintro e w' ⟨x1, x2, x3, x4, x5, x6, x7, rfl, hb, hd⟩
          refine ⟨x1, x2, x3, x4, x5, x6, x7, rfl, hb, ?_⟩
          rcases hd with ⟨c, _⟩ | ⟨_, hd⟩
          · cases c
          · exact .inr ⟨rfl, hd⟩
      · have q := picked_did1 ta tn tc L F (s.a 1) (s.a 0 : Nat) mv bv rv s.d _ w hs h hr.tok hpt htn hlt hLp rfl
        by_cases ho : okc s.d tn (F 1 (s.a 1) 0) (F 1 (s.a 1) 1) (F 1 (s.a 1) 2) (F 1 (s.a 1) 3) (F 1 (s.a 1) 4) = 0
        · rw [decide_eq_true ho] at q
          rw [if_pos ho]
          have e0 : upd s.a 1 (s.a 1 + 1) 1 = s.a 1 + 1 := upd_at ..
          have e1 : upd s.a 1 (s.a 1 + 1) 0 = s.a 0 := upd_ne (by decide)
          simp only [Option.getD_some, Option.isSome_some, e0, e1, Int.natCast_add]
          exact q
        · rw [decide_eq_false ho] at q
          rw [if_neg ho]
          refine q.mono ?_
          rintro e w' ⟨x1, x2, x3, x4, x5, x6, x7, rfl, hb, hd⟩
          refine ⟨x1, x2, x3, x4, x5, x6, x7, rfl, hb, ?_⟩
          rcases hd with ⟨c, _⟩ | ⟨_, hd⟩
          · cases c
          · exact .inr ⟨rfl, hd⟩
  · rw [if_neg hpt]
    unfold drn
    have q := picked_drain ta tn tc (s.a 0 : Nat) (s.a 1 : Nat) mv bv rv s.d p w h hr.tok (by omega) (by omega) htn
    have ec : (p : Int) - (tn : Int) = ((p - tn : Nat) : Int) := by omega
    rw [ec] at q
    by_cases ho : okc s.d tn 4 ((p - tn : Nat) : Int) 0 0 0 = 0
    · rw [decide_eq_true ho] at q
      rw [if_pos ho]
      exact q
    · rw [decide_eq_false ho] at q
      rw [if_neg ho]
      refine q.mono ?_
      rintro e w' ⟨x1, x2, x3, x4, x5, x6, x7, rfl, hb, hd⟩
      refine ⟨x1, x2, x3, x4, x5, x6, x7, rfl, hb, ?_⟩
      rcases hd with ⟨c, _⟩ | ⟨_, hd⟩
      · cases c
      · exact .inr ⟨rfl, hd⟩
/-- the same of a drain -/
theorem drained_all (ta : Option Addr) (tn tc : Nat) (s : Rs) (L : Nat → Nat) (mv bv rv : Value) (c : Nat) (w : World) (h : Tv w mv bv rv s.d.zs tn s.d.L s.d.F tn s.d.Z) (hr : Rok tn L s) :
    Calls Try.prog 53 #[.agg (run6 (.slice ta tn tc) (s.a 0 : Nat) (s.a 1 : Nat) mv bv rv), .int .i64 c] w (DidQ w (.slice ta tn tc) ((((drn tn s c).getD s).a 0 : Nat) : Int) ((((drn tn s c).getD s).a 1 : Nat) : Int) mv bv rv ((drn tn s c).getD s).d tn (drn tn s c).isSome) := by
  unfold drn
  have q := drained_u ta tn tc (s.a 0 : Nat) (s.a 1 : Nat) mv bv rv s.d tn c w h hr.tok
  by_cases ho : okc s.d tn 4 (c : Int) 0 0 0 = 0
  · rw [decide_eq_true ho] at q
    rw [if_pos ho]
    exact q
  · rw [decide_eq_false ho] at q
    rw [if_neg ho]
    refine q.mono ?_
    rintro e w' ⟨x1, x2, x3, x4, x5, x6, x7, rfl, hb, hd⟩
    refine ⟨x1, x2, x3, x4, x5, x6, x7, rfl, hb, ?_⟩
    rcases hd with ⟨c, _⟩ | ⟨_, hd⟩
    · cases c
    · exact .inr ⟨rfl, hd⟩

/-- a run in a box B -/
structure Rr (N H : Nat) (w wr : World) (t : T0) (B : Nat) (th : Value) (s : Rs) (C : Nat) (ma ba ra : Option Addr) (mc bc rc : Nat) : Prop where
  box : wr.heap[B]? = some (.cells (run6 th (s.a 0 : Nat) (s.a 1 : Nat) (.slice ma s.d.zs.length mc) (.slice ba C bc) (.slice ra C rc)) 67 (0, 0))
  tw : Tw N H w wr t (.slice ma s.d.zs.length mc) (.slice ba C bc) (.slice ra C rc) s.d C
theorem Rr.below {N H : Nat} {w wr wr' : World} {t : T0} {B : Nat} {th : Value} {s : Rs} {C : Nat} {ma ba ra : Option Addr} {mc bc rc : Nat} (h : Rr N H w wr t B th s C ma ba ra mc bc rc) (hb : Below wr.heap.size wr wr') : Rr N H w wr' t B th s C ma ba ra mc bc rc := ⟨heap_b h.box hb, h.tw.below hb⟩
/-- the length of a Tso's memory, off its reading -/
theorem mem_len {W : World} {ma : Option Addr} {mn mc : Nat} {b r : Value} {d : Td} {C : Nat} (h : Tv W (.slice ma mn mc) b r d.zs C d.L d.F C d.Z) : mn = d.zs.length := by
  obtain ⟨ad, cap, e, _⟩ := h.mem
  simp only [Value.slice.injEq] at e
  exact e.2.1

/-- what a turn brings down, off memory -/
def rml (w : World) (B i Li : Nat) : Nat :=
  10 * (Li - (match w.cell? ⟨B, 1 + i, none⟩ with | some (.int _ z) => z.toNat | _ => 0)) +
  (match w.cell? ⟨B, 4, none⟩ with
  | some (.slice (some ⟨p, o, none⟩) _ _) => (match w.cell? ⟨p, o + i, none⟩ with | some (.slice _ n _) => n | _ => 0)
  | _ => 0)
theorem Rr.rml {N H : Nat} {w wr : World} {t : T0} {B : Nat} {th : Value} {s : Rs} {C : Nat} {ma ba ra : Option Addr} {mc bc rc : Nat} (h : Rr N H w wr t B th s C ma ba ra mc bc rc) (L : Nat → Nat) {i : Nat} (hi : i < C) (hC : C ≤ 2) : rml wr B i (L i) = msr L s i := by
  obtain ⟨_, _, x1, x2, _, x4, _⟩ := row6_facts h.box
  obtain ⟨ad, cap, e, hs⟩ := h.tw.tv.buf
  obtain ⟨p, o, e2, hs2⟩ := hs (by omega)
  obtain ⟨ia, ic, q, _⟩ := hs2 i hi
  simp only [Value.slice.injEq] at e
  obtain ⟨rfl, _, rfl⟩ := e
  subst e2
  unfold Go.Proofs.Ytcocobmanlmjdaa.rml msr
  rcases (show i = 0 ∨ i = 1 by omega) with rfl | rfl
  · simp only [Nat.add_zero] at q ⊢
    rw [x1, x4]
    simp only [q]
    rfl
  · rw [show 1 + 1 = 2 from rfl, x2, x4]
    simp only [q]
    rfl

end Go.Proofs.Ytcocobmanlmjdaa

/- a thread brought to its end -/
namespace Go.Proofs.Ytcocobmanlmjdaa
open Go.RowKit
set_option linter.unusedVariables false
set_option linter.unusedSimpArgs false

theorem getD_none {α : Type} {o : Option α} {s : α} (h : o.isSome = false) : o.getD s = s := by
  cases o with
  | none => rfl
  | some x => cases h
theorem ac_eq {s : Rs} {L : Nat → Nat} {i : Nat} (hi : i < 2) : (ac (s.a 0 : Nat) (s.a 1 : Nat) i = (L i : Int)) ↔ s.a i = L i := by
  unfold ac
  rcases (show i = 0 ∨ i = 1 by omega) with rfl | rfl
  · rw [if_pos rfl]; omega
  · rw [if_neg (by omega)]; omega
theorem six_get {V : World} {B : Nat} {T : TypeId} {v0 v1 v2 v3 v4 v5 : Value} (h : V.heap[B]? = some (.cells #[v0, v1, v2, v3, v4, v5] T (0, 0))) : (∀ i, V.frozen? ⟨B, i, none⟩ = false) ∧ V.cell? ⟨B, 0, none⟩ = some v0 ∧ V.cell? ⟨B, 1, none⟩ = some v1 ∧ V.cell? ⟨B, 2, none⟩ = some v2 ∧ V.cell? ⟨B, 3, none⟩ = some v3 ∧ V.cell? ⟨B, 4, none⟩ = some v4 ∧ V.cell? ⟨B, 5, none⟩ = some v5 := row6_facts h

/-- what finished knows between two turns -/
structure Fi (w wr : World) (t : T0) (th : Value) (s : Rs) (C : Nat) (L : Nat → Nat) (ma ba ra : Option Addr) (mc bc rc : Nat) : Prop where
  rr : Rr 2 wr.heap.size w wr t w.heap.size th s C ma ba ra mc bc rc
  ok : Rok C L s
  ans : wr.heap[w.heap.size + 1]? = some (.cells #[nil3, .int .i64 0, .int .i64 0, nil3, nil3, nil3] 67 (0, 0))
  bel : Below w.heap.size w wr

set_option maxHeartbeats 4000000 in
set_option maxRecDepth 20000 in
theorem finished_any (ta : Option Addr) (tn tc : Nat) (L : Nat → Nat) (F : Nat → Nat → Nat → Int) (s0 : Rs) (mv bv rv : Value) (i : Nat) (w : World) (hs : Sa w (.slice ta tn tc) tn L F) (h : Tv w mv bv rv s0.d.zs tn s0.d.L s0.d.F tn s0.d.Z) (hr : Rok tn L s0) (hg : Rgt tn L F) (htn : tn ≤ 2) (hL : ∀ c, c < tn → L c ≤ 3) (hi : i < tn) :
    Calls Try.prog 33 #[.agg (run6 (.slice ta tn tc) (s0.a 0 : Nat) (s0.a 1 : Nat) mv bv rv), .int .i64 i] w fun e w' => ∃ ma ba ra mc bc rc, e = .returned (.agg (run6 (.slice ta tn tc) ((fin tn L F s0 i).a 0 : Nat) ((fin tn L F s0 i).a 1 : Nat) (.slice ma (fin tn L F s0 i).d.zs.length mc) (.slice ba tn bc) (.slice ra tn rc))) ∧ Tw 2 w'.heap.size w w' (mv, bv, rv, s0.d) (.slice ma (fin tn L F s0 i).d.zs.length mc) (.slice ba tn bc) (.slice ra tn rc) (fin tn L F s0 i).d tn ∧ Below w.heap.size w w' := by
  obtain ⟨⟨ma0, mc0, rfl⟩, ⟨ba0, bc0, rfl⟩, ⟨ra0, rc0, rfl⟩⟩ := three_of h
  have HSA := hide hs
  have HG := hide hg
  have HLL := hide hL
  obtain ⟨t, ht⟩ : ∃ t : T0, (Value.slice ma0 s0.d.zs.length mc0, Value.slice ba0 tn bc0, Value.slice ra0 tn rc0, s0.d) = t := ⟨_, rfl⟩
  have HX := Pbx.start w (run6 (.slice ta tn tc) (s0.a 0 : Nat) (s0.a 1 : Nat) (.slice ma0 s0.d.zs.length mc0) (.slice ba0 tn bc0) (.slice ra0 tn rc0))
  rw [ht]
  have HS0 : Hid (Fi w ((w.alloc (.cells (run6 (.slice ta tn tc) (s0.a 0 : Nat) (s0.a 1 : Nat) (.slice ma0 s0.d.zs.length mc0) (.slice ba0 tn bc0) (.slice ra0 tn rc0)) 67)).alloc (.cells #[nil3, .int .i64 0, .int .i64 0, nil3, nil3, nil3] 67)) t (.slice ta tn tc) s0 tn L ma0 ba0 ra0 mc0 bc0 rc0) := hide ⟨⟨HX.box, .inl ⟨ht.symm, h, HX.bel⟩⟩, hr, HX.ans, HX.bel⟩
  clear hs h hr hg hL HX ht
  go_enter Try.func33, Try.ntmps33
  go_wp2
  go_loopw [] (fun wr => ∃ (s : Rs) (ma ba ra : Option Addr) (mc bc rc : Nat), Hid (Fi w wr t (.slice ta tn tc) s tn L ma ba ra mc bc rc) ∧ Hid (fin tn L F s0 i = fin tn L F s i)) (fun wr => rml wr w.heap.size i (L i))
  case atStart => exact ⟨s0, ma0, ba0, ra0, mc0, bc0, rc0, HS0, hide rfl⟩
  case round =>
    clear HS0
    obtain ⟨s, ma, ba, ra, mc, bc, rc, HF, HE⟩ := hrel
    have HM := hide (HF.out.rr.rml L hi htn)
    obtain ⟨_, x0, x1, x2, x3, x4, x5⟩ := row6_facts HF.out.rr.box
    have hen := fun W h => hasEnded_any ta tn tc L F (s.a 0 : Nat) (s.a 1 : Nat) ma ba ra s.d.zs.length mc tn bc tn rc i W h (by omega) hi
    by_cases he : s.a i = L i
    · rw [decide_eq_true ((ac_eq (by omega)).2 he)] at hen
      have HEE : Hid (fin tn L F s0 i = s) := hide (by rw [HE.out, fin_stop he])
      clear HM he HE
      go_wp2_with fail
      refine (hen _ (HSA.out.below HF.out.bel)).mono ?_
      rintro e w1 ⟨rfl, hb1⟩
      have HF1 := hide (HF.out.rr.below hb1)
      have ha1 := heap_b HF.out.ans hb1
      have HB1 := hide (HF.out.bel.trans (hb1.mono HF.out.bel.size))
      have hsz1 := hb1.size
      clear x0 x1 x2 x3 x4 x5 hb1 HF hen
      obtain ⟨_, x0, x1, x2, x3, x4, x5⟩ := row6_facts HF1.out.box
      obtain ⟨fz, z0, z1, z2, z3, z4, z5⟩ := row6_facts ha1
      go_wp2
      refine bodyPost_ret (v := .agg (run6 (.slice ta tn tc) (s.a 0 : Nat) (s.a 1 : Nat) (.slice ma s.d.zs.length mc) (.slice ba tn bc) (.slice ra tn rc))) (by simp [results, Try.results33, go_sem, z0, z1, z2, z3, z4, z5]) rfl ?_
      rw [HEE.out]
      exact ⟨ma, ba, ra, mc, bc, rc, rfl, by rw [six_size]; exact (HF1.out.tw.six (by omega) (by omega) (.inl (by omega))).mono hsz1, six_below HB1.out (by omega)⟩
    · rw [decide_eq_false (fun q => he ((ac_eq (by omega)).1 q))] at hen
      have HNE := hide he
      obtain ⟨hm1, hk1⟩ := trn_less HG.out HF.out.ok hi he
      have HT := hide (And.intro hm1 hk1)
      have HE2 : Hid (fin tn L F s0 i = fin tn L F (trn tn L F s i) i) := hide (by rw [HE.out]; exact fin_trn HG.out HF.out.ok hi he)
      have hpk := fun W hsa htv => picked_all ta tn tc L F s (.slice ma s.d.zs.length mc) (.slice ba tn bc) (.slice ra tn rc) i W hsa htv HF.out.ok htn HLL.out (by omega)
      have hdr := fun W htv => drained_all ta tn tc s L (.slice ma s.d.zs.length mc) (.slice ba tn bc) (.slice ra tn rc) i W htv HF.out.ok
      have epk : pck tn L F s i = stp tn L F s i := by unfold pck; rw [if_pos hi]
      rw [epk] at hpk
      have HTS : Hid ((stp tn L F s i).isSome = true → trn tn L F s i = (stp tn L F s i).getD s) := hide (fun q => by
        unfold trn
        cases e : stp tn L F s i with
        | none => rw [e] at q; cases q
        | some x => rfl)
      have HTN : Hid ((stp tn L F s i).isSome = false → trn tn L F s i = (drn tn s i).getD s ∧ (stp tn L F s i).getD s = s) := hide (fun q => by
        unfold trn
        cases e : stp tn L F s i with
        | none => exact ⟨rfl, rfl⟩
        | some x => rw [e] at q; cases q)
      have HDN : Hid ((drn tn s i).isSome = false → (drn tn s i).getD s = s) := hide getD_none
      generalize (stp tn L F s i).getD s = s1 at hpk HTS HTN
      generalize (stp tn L F s i).isSome = ok at hpk HTS HTN
      generalize (drn tn s i).getD s = s2 at hdr HTN HDN
      generalize (drn tn s i).isSome = ok2 at hdr HDN
      generalize trn tn L F s i = s3 at HT HE2 HTS HTN
      clear he hm1 hk1 epk HE
      go_wp2_with fail
      refine (hen _ (HSA.out.below HF.out.bel)).mono ?_
      rintro e w1 ⟨rfl, hb1⟩
      have HF1 := hide (HF.out.rr.below hb1)
      have ha1 := heap_b HF.out.ans hb1
      have HB1 := hide (HF.out.bel.trans (hb1.mono HF.out.bel.size))
      have hsz1 := hb1.size
      have HBW := hide hb1
      clear x0 x1 x2 x3 x4 x5 hb1 hen
      obtain ⟨_, x0, x1, x2, x3, x4, x5⟩ := row6_facts HF1.out.box
      go_wp2_with fail
      refine (hpk _ (HSA.out.below HB1.out) HF1.out.tw.tv).mono ?_
      rintro e w2 ⟨ma2, mn2, mc2, ba2, bc2, ra2, rc2, rfl, hb2, hd2⟩
      have hz1 : w.heap.size + 1 + 1 ≤ wr.heap.size := by have := lt_of_block HF.out.ans; omega
      have tw2 := HF1.out.tw.did (hi := w2.heap.size) hb2 hd2 (fun q => by rw [(HTN.out q).2]) (by omega) (by have := hb2.size; omega)
      obtain rfl := mem_len tw2.tv
      have hA5 : Below w2.heap.size w2 (w2.alloc (.cells (run6 (.slice ta tn tc) (s1.a 0 : Nat) (s1.a 1 : Nat) (.slice ma2 s1.d.zs.length mc2) (.slice ba2 tn bc2) (.slice ra2 tn rc2)) 67)) := (Below.refl _ _).alloc (Nat.le_refl _) _
      have hc2 := hb2.trans (hA5.mono hb2.size)
      have g2 := heap_b HF1.out.box hc2
      have ga := heap_b ha1 hc2
      have g5 : (w2.alloc (.cells (run6 (.slice ta tn tc) (s1.a 0 : Nat) (s1.a 1 : Nat) (.slice ma2 s1.d.zs.length mc2) (.slice ba2 tn bc2) (.slice ra2 tn rc2)) 67)).heap[w2.heap.size]? = some (.cells (run6 (.slice ta tn tc) (s1.a 0 : Nat) (s1.a 1 : Nat) (.slice ma2 s1.d.zs.length mc2) (.slice ba2 tn bc2) (.slice ra2 tn rc2)) 67 (0, 0)) := heap_alloc_new _ _
      have HB2 := hide (HB1.out.trans (hc2.mono HB1.out.size))
      have htw := tw2.below hA5
      have hsz2 := hb2.size
      have hbw : Below wr.heap.size wr w1 := (show Below wr.heap.size wr w1 from HBW.out)
      have hbw2 := hbw.trans (hc2.mono hbw.size)
      clear x0 x1 x2 x3 x4 x5 hb2 hd2 tw2 hA5 ha1 hpk
      obtain ⟨W5, hW5⟩ : ∃ W, w2.alloc (.cells (run6 (.slice ta tn tc) (s1.a 0 : Nat) (s1.a 1 : Nat) (.slice ma2 s1.d.zs.length mc2) (.slice ba2 tn bc2) (.slice ra2 tn rc2)) 67) = W := ⟨_, rfl⟩
      have hW5s : W5.heap.size = w2.heap.size + 1 := by rw [← hW5]; simp
      rw [hW5] at hc2 g2 ga g5 HB2 htw hbw2
      obtain ⟨f2, x0, x1, x2, x3, x4, x5⟩ := row6_facts g2
      obtain ⟨f5, y0, y1, y2, y3, y4, y5⟩ := row6_facts g5
      have hne5 : w.heap.size ≠ w2.heap.size := by omega
      cases ok with
      | true =>
        have e3 : s3 = s1 := HTS.out rfl
        have HNEW : Hid (Fi w ((((((W5.setCell ⟨w.heap.size, 0, none⟩ (.slice ta tn tc)).setCell ⟨w.heap.size, 1, none⟩ (.int .i64 (s1.a 0 : Nat))).setCell ⟨w.heap.size, 2, none⟩ (.int .i64 (s1.a 1 : Nat))).setCell ⟨w.heap.size, 3, none⟩ (.slice ma2 s1.d.zs.length mc2)).setCell ⟨w.heap.size, 4, none⟩ (.slice ba2 tn bc2)).setCell ⟨w.heap.size, 5, none⟩ (.slice ra2 tn rc2)) t (.slice ta tn tc) s1 tn L ma2 ba2 ra2 mc2 bc2 rc2) := hide ⟨⟨six_row g2, by rw [six_size]; exact (htw.six (by omega) (by omega) (.inl (by omega))).mono (by omega)⟩, by rw [← e3]; exact HT.out.2, six_heap ga (by omega), six_below HB2.out (by omega)⟩
        have HMM : Hid (rml ((((((W5.setCell ⟨w.heap.size, 0, none⟩ (.slice ta tn tc)).setCell ⟨w.heap.size, 1, none⟩ (.int .i64 (s1.a 0 : Nat))).setCell ⟨w.heap.size, 2, none⟩ (.int .i64 (s1.a 1 : Nat))).setCell ⟨w.heap.size, 3, none⟩ (.slice ma2 s1.d.zs.length mc2)).setCell ⟨w.heap.size, 4, none⟩ (.slice ba2 tn bc2)).setCell ⟨w.heap.size, 5, none⟩ (.slice ra2 tn rc2)) w.heap.size i (L i) < rml wr w.heap.size i (L i)) := hide (by rw [HNEW.out.rr.rml L hi htn, HM.out, ← e3]; exact HT.out.1)
        have HEN : Hid (fin tn L F s0 i = fin tn L F s1 i) := hide (by rw [HE2.out, e3])
        clear e3 htw g2 ga g5 hdr HTS HTN HDN hbw hbw2 hc2
        go_wp2
        clear hW5
        go_roundw
        case rel => exact ⟨s1, ma2, ba2, ra2, mc2, bc2, rc2, HNEW, HEN⟩
        case measure => exact HMM.out
      | false =>
        obtain ⟨e3, e1⟩ := HTN.out rfl
        have e1' := e1.symm
        clear e1
        subst e1'
        go_wp2_with fail
        refine (hdr _ (HF.out.rr.tw.below hbw2).tv).mono ?_
        rintro e w3 ⟨ma3, mn3, mc3, ba3, bc3, ra3, rc3, rfl, hb3, hd3⟩
        have hsz3 := hb3.size
        have hbw3 := hbw2.trans (hb3.mono hbw2.size)
        have hd4 := hd3.six (B := w2.heap.size) (v0 := .slice ta tn tc) (v1 := .int .i64 (s2.a 0 : Nat)) (v2 := .int .i64 (s2.a 1 : Nat)) (v3 := .slice ma3 mn3 mc3) (v4 := .slice ba3 tn bc3) (v5 := .slice ra3 tn rc3) (by omega) (.inl (by omega))
        have tw4 := HF.out.rr.tw.did (hi := w3.heap.size) (six_below hbw3 (by omega)) hd4 (fun q => by rw [HDN.out q]) (by omega) (by omega)
        obtain rfl := mem_len tw4.tv
        have g2' := heap_b g2 hb3
        have ga' := heap_b ga hb3
        have g5' := heap_b g5 hb3
        have HB3 := hide (HB2.out.trans (hb3.mono HB2.out.size))
        have HNEW : Hid (Fi w ((((((((((((w3.setCell ⟨w2.heap.size, 0, none⟩ (.slice ta tn tc)).setCell ⟨w2.heap.size, 1, none⟩ (.int .i64 (s2.a 0 : Nat))).setCell ⟨w2.heap.size, 2, none⟩ (.int .i64 (s2.a 1 : Nat))).setCell ⟨w2.heap.size, 3, none⟩ (.slice ma3 s2.d.zs.length mc3)).setCell ⟨w2.heap.size, 4, none⟩ (.slice ba3 tn bc3)).setCell ⟨w2.heap.size, 5, none⟩ (.slice ra3 tn rc3)).setCell ⟨w.heap.size, 0, none⟩ (.slice ta tn tc)).setCell ⟨w.heap.size, 1, none⟩ (.int .i64 (s2.a 0 : Nat))).setCell ⟨w.heap.size, 2, none⟩ (.int .i64 (s2.a 1 : Nat))).setCell ⟨w.heap.size, 3, none⟩ (.slice ma3 s2.d.zs.length mc3)).setCell ⟨w.heap.size, 4, none⟩ (.slice ba3 tn bc3)).setCell ⟨w.heap.size, 5, none⟩ (.slice ra3 tn rc3)) t (.slice ta tn tc) s2 tn L ma3 ba3 ra3 mc3 bc3 rc3) := hide ⟨⟨six_row (six_heap g2' (by omega)), by rw [six_size, six_size]; exact tw4.six (by omega) (by omega) (.inl (by omega))⟩, by rw [← e3]; exact HT.out.2, six_heap (six_heap ga' (by omega)) (by omega), six_below (six_below HB3.out (by omega)) (by omega)⟩
        have HMM : Hid (rml ((((((((((((w3.setCell ⟨w2.heap.size, 0, none⟩ (.slice ta tn tc)).setCell ⟨w2.heap.size, 1, none⟩ (.int .i64 (s2.a 0 : Nat))).setCell ⟨w2.heap.size, 2, none⟩ (.int .i64 (s2.a 1 : Nat))).setCell ⟨w2.heap.size, 3, none⟩ (.slice ma3 s2.d.zs.length mc3)).setCell ⟨w2.heap.size, 4, none⟩ (.slice ba3 tn bc3)).setCell ⟨w2.heap.size, 5, none⟩ (.slice ra3 tn rc3)).setCell ⟨w.heap.size, 0, none⟩ (.slice ta tn tc)).setCell ⟨w.heap.size, 1, none⟩ (.int .i64 (s2.a 0 : Nat))).setCell ⟨w.heap.size, 2, none⟩ (.int .i64 (s2.a 1 : Nat))).setCell ⟨w.heap.size, 3, none⟩ (.slice ma3 s2.d.zs.length mc3)).setCell ⟨w.heap.size, 4, none⟩ (.slice ba3 tn bc3)).setCell ⟨w.heap.size, 5, none⟩ (.slice ra3 tn rc3)) w.heap.size i (L i) < rml wr w.heap.size i (L i)) := hide (by rw [HNEW.out.rr.rml L hi htn, HM.out, ← e3]; exact HT.out.1)
        have HEN : Hid (fin tn L F s0 i = fin tn L F s2 i) := hide (by rw [HE2.out, e3])
        clear x0 x1 x2 x3 x4 x5 y0 y1 y2 y3 y4 y5 f2 f5
        obtain ⟨f2, x0, x1, x2, x3, x4, x5⟩ := row6_facts g2'
        obtain ⟨f5, y0, y1, y2, y3, y4, y5⟩ := row6_facts g5'
        clear e3 htw g2 ga g5 hdr HTS HTN HDN hbw hbw2 hbw3 hc2 tw4 hd3 hd4 g2' ga' g5' hb3
        go_wp2
        clear hW5
        go_roundw
        case rel => exact ⟨s2, ma3, ba3, ra3, mc3, bc3, rc3, HNEW, HEN⟩
        case measure => exact HMM.out

end Go.Proofs.Ytcocobmanlmjdaa

/- impl.RunPicks -/
namespace Go.Proofs.Ytcocobmanlmjdaa
open Go.RowKit
set_option linter.unusedVariables false
set_option linter.unusedSimpArgs false

/-- may these be picked -/
def pkB (zs : List Int) (c : Int) : Bool := decide (zs.length ≤ 50) && decide (∀ j, j < zs.length → inB (zs.getD j 0) 0 c = true)
theorem pkB_len {zs : List Int} {c : Int} (h : ¬ zs.length ≤ 50) : pkB zs c = false := by unfold pkB; rw [decide_eq_false h]; rfl
theorem pkB_at {zs : List Int} {c : Int} {k : Nat} (hk : k < zs.length) (h : inB (zs.getD k 0) 0 c = false) : pkB zs c = false := by
  have : ¬ ∀ j, j < zs.length → inB (zs.getD j 0) 0 c = true := fun hh => by rw [hh k hk] at h; cases h
  unfold pkB
  rw [decide_eq_false this, Bool.and_false]
theorem pkB_yes {zs : List Int} {c : Int} (h : zs.length ≤ 50) (ha : ∀ j, j < zs.length → inB (zs.getD j 0) 0 c = true) : pkB zs c = true := by
  unfold pkB
  rw [decide_eq_true h, decide_eq_true ha]; rfl
theorem pkB_parts {zs : List Int} {c : Int} (h : pkB zs c = true) : zs.length ≤ 50 ∧ ∀ j, j < zs.length → 0 ≤ zs.getD j 0 ∧ zs.getD j 0 < c := by
  simp only [pkB, inB, Bool.and_eq_true, decide_eq_true_eq] at h
  exact ⟨h.1, fun j hj => h.2 j hj⟩

set_option maxHeartbeats 1000000 in
theorem picksOk_any (v : Value) (zs : List Int) (c : Int) (w : World) (hz : Sl w v zs) :
    Calls Try.prog 29 #[v, .int .i64 c] w fun e w' => e = .returned (.bool (pkB zs c)) ∧ w' = w := by
  obtain ⟨az, cz, rfl, hzz⟩ := hz
  obtain ⟨n, hn⟩ : ∃ n, zs.length = n := ⟨_, rfl⟩
  rw [hn] at hzz ⊢
  have HN := hide hn
  clear hn
  by_cases hl : n ≤ 50
  case neg =>
    have HO : Hid (false = pkB zs c) := hide (pkB_len (by rw [HN.out]; exact hl)).symm
    have hne : (50 : Int) < (n : Int) := by omega
    have hnd : decide ((50 : Int) < (n : Int)) = true := by simp; omega
    clear hzz hl
    go_enter Try.func29, Try.ntmps29
    go_wp2
    go_ret
    exact ⟨by rw [← HO.out]; rfl, rfl⟩
  have hnd : decide ((50 : Int) < (n : Int)) = false := by simp; omega
  go_enter Try.func29, Try.ntmps29
  go_wp2
  go_loopw [12] (fun i wr => ∃ k : Nat, k ≤ n ∧ i = .int .i64 k ∧ wr = w ∧ Hid (∀ j, j < k → inB (zs.getD j 0) 0 c = true)) (fun i _ => n - (intOf i).toNat)
  case atStart => exact ⟨0, Nat.zero_le _, rfl, rfl, hide (fun j hj => by omega)⟩
  case round =>
    obtain ⟨k, hk, rfl, rfl, HA⟩ := hrel
    by_cases hlt : k < n
    · obtain ⟨b, off, rfl, hc⟩ := hzz (by omega)
      have ck := hc k hlt
      have hbe := fun W => isBelow_any (zs.getD k 0) c W
      cases hx : inB (zs.getD k 0) 0 c
      · have HO : Hid (false = pkB zs c) := hide (pkB_at (by rw [HN.out]; exact hlt) hx).symm
        rw [hx] at hbe
        clear hx hzz hc HA
        generalize zs.getD k 0 = z at ck hbe
        go_wp2_with fail
        refine (hbe _).mono ?_
        rintro e w2 ⟨rfl, rfl⟩
        go_wp2
        go_ret
        exact ⟨by rw [← HO.out]; rfl, rfl⟩
      · have HA2 : Hid (∀ j, j < k + 1 → inB (zs.getD j 0) 0 c = true) := hide (fun j hj => by
          by_cases e : j = k
          · rw [e]; exact hx
          · exact HA.out j (by omega))
        rw [hx] at hbe
        clear hx hzz hc HA
        generalize zs.getD k 0 = z at ck hbe
        go_wp2_with fail
        refine (hbe _).mono ?_
        rintro e w2 ⟨rfl, rfl⟩
        go_wp2
        go_roundw
        case rel => exact ⟨k + 1, by omega, by go_num, by first | rfl | trivial, HA2⟩
        case measure => simp [intOf]; omega
    · have e : k = n := by omega
      have HO : Hid (true = pkB zs c) := hide (pkB_yes (by rw [HN.out]; exact hl) (by rw [HN.out, ← e]; exact HA.out)).symm
      clear e HA hzz
      go_wp2
      go_ret
      exact ⟨by rw [← HO.out]; rfl, rfl⟩

theorem picksN_any (ta : Option Addr) (tn tc : Nat) (htn : tn ≤ 2) (w : World) : Calls Try.prog 30 #[.agg #[.slice ta tn tc]] w fun e w' => e = .returned (.int .i64 (2 * (tn : Int))) ∧ Below w.heap.size w w' := by
  have hB : Below w.heap.size w (w.alloc (.cells #[.slice ta tn tc] 29)) := (Below.refl _ _).alloc (Nat.le_refl _) _
  have x0 : (w.alloc (.cells #[.slice ta tn tc] 29)).cell? ⟨w.heap.size, 0, none⟩ = some (.slice ta tn tc) := (cell_of_row _ _ 0 _ _ _ (heap_alloc_new _ _)).trans rfl
  have hw : wrap64 (2 * (tn : Int)) = 2 * (tn : Int) := Go.IntWalk.wrap64_in _ (by omega)
  go_enter Try.func30, Try.ntmps30
  go_wp2_with fail
  refine (threads_any ta tn tc _).mono ?_
  rintro e w1 ⟨rfl, hb1⟩
  have HB := hide (hB.trans (hb1.mono hB.size))
  clear hb1 x0 hB
  go_wp2
  go_ret
  exact ⟨rfl, HB.out⟩

/-- where every run begins -/
def s00 : Rs := ⟨nD, fun _ => 0⟩
theorem s00_ok {C : Nat} {L : Nat → Nat} (h1 : 1 ≤ C) (h2 : C ≤ 2) : Rok C L s00 := ⟨nD_tok C h1 (by omega), fun c _ => Nat.zero_le _⟩

set_option maxHeartbeats 2000000 in
set_option maxRecDepth 20000 in
theorem runOf_any (ta : Option Addr) (tn tc : Nat) (h1 : 1 ≤ tn) (h2 : tn ≤ 2) (w : World) :
    Calls Try.prog 31 #[.agg #[.slice ta tn tc]] w fun e w' => ∃ ma ba ra mc bc rc, e = .returned (.agg (run6 (.slice ta tn tc) (s00.a 0 : Nat) (s00.a 1 : Nat) (.slice ma s00.d.zs.length mc) (.slice ba tn bc) (.slice ra tn rc))) ∧ Tv w' (.slice ma s00.d.zs.length mc) (.slice ba tn bc) (.slice ra tn rc) s00.d.zs tn s00.d.L s00.d.F tn s00.d.Z ∧ Below w.heap.size w w' := by
  obtain ⟨W, hW⟩ : ∃ W, (w.alloc (.cells #[.slice ta tn tc] 29)).alloc (.cells #[nil3, .int .i64 0, .int .i64 0, nil3, nil3, nil3] 67) = W := ⟨_, rfl⟩
  have hB0 : Below w.heap.size w W := by rw [← hW]; exact ((Below.refl _ _).alloc (Nat.le_refl _) _).alloc (by simp) _
  have g1 : W.heap[w.heap.size]? = some (.cells #[.slice ta tn tc] 29 (0, 0)) := by rw [← hW, Below.heap_alloc _ _ _ (by simp)]; exact heap_alloc_new _ _
  have g2 : W.heap[w.heap.size + 1]? = some (.cells #[nil3, .int .i64 0, .int .i64 0, nil3, nil3, nil3] 67 (0, 0)) := by
    rw [← hW]
    have := heap_alloc_new (w.alloc (.cells #[.slice ta tn tc] 29)) (.cells #[nil3, .int .i64 0, .int .i64 0, nil3, nil3, nil3] 67)
    simpa only [World.size_alloc] using this
  have x0 : W.cell? ⟨w.heap.size, 0, none⟩ = some (.slice ta tn tc) := (cell_of_row _ _ 0 _ _ _ g1).trans rfl
  subst hW
  have hne : w.heap.size ≠ w.heap.size + 1 := by omega
  go_enter Try.func31, Try.ntmps31
  go_wp2_with fail
  refine (threads_any ta tn tc _).mono ?_
  rintro e w1 ⟨rfl, hb1⟩
  go_wp2_with fail
  refine (implNewT_yes tn h1 (by omega) _).mono ?_
  rintro e w2 ⟨m, b, r, vr, tag, rfl, hta, hb2⟩
  obtain ⟨xa, ya, xb, yb, xc, yc, rfl, rfl, rfl⟩ := Ta.three (n := 3) hta rfl
  have hA3 : Below w2.heap.size w2 (w2.alloc (.cells #[.slice xa 3 ya, .slice xb tn yb, .slice xc tn yc] 37)) := (Below.refl _ _).alloc (Nat.le_refl _) _
  have hc2 := (hb1.trans (hb2.mono hb1.size)).trans (hA3.mono (hb1.trans (hb2.mono hb1.size)).size)
  have x0' := keepc hc2 x0
  have g2' := heap_b g2 hc2
  obtain ⟨t0, t1, t2⟩ := box3 w2 (.slice xa 3 ya) (.slice xb tn yb) (.slice xc tn yc) 37
  have htv : Tv w2 (.slice xa 3 ya) (.slice xb tn yb) (.slice xc tn yc) s00.d.zs tn s00.d.L s00.d.F tn s00.d.Z := Ta.tv hta
  have HF : Hid (Tv ((((((((w2.alloc (.cells #[.slice xa 3 ya, .slice xb tn yb, .slice xc tn yc] 37)).setCell ⟨w.heap.size + 1, 0, none⟩ (.slice ta tn tc)).setCell ⟨w.heap.size + 1, 1, none⟩ (.int .i64 0)).setCell ⟨w.heap.size + 1, 2, none⟩ (.int .i64 0)).setCell ⟨w.heap.size + 1, 3, none⟩ (.slice xa 3 ya)).setCell ⟨w.heap.size + 1, 4, none⟩ (.slice xb tn yb)).setCell ⟨w.heap.size + 1, 5, none⟩ (.slice xc tn yc))) (.slice xa 3 ya) (.slice xb tn yb) (.slice xc tn yc) s00.d.zs tn s00.d.L s00.d.F tn s00.d.Z ∧ Below w.heap.size w ((((((((w2.alloc (.cells #[.slice xa 3 ya, .slice xb tn yb, .slice xc tn yc] 37)).setCell ⟨w.heap.size + 1, 0, none⟩ (.slice ta tn tc)).setCell ⟨w.heap.size + 1, 1, none⟩ (.int .i64 0)).setCell ⟨w.heap.size + 1, 2, none⟩ (.int .i64 0)).setCell ⟨w.heap.size + 1, 3, none⟩ (.slice xa 3 ya)).setCell ⟨w.heap.size + 1, 4, none⟩ (.slice xb tn yb)).setCell ⟨w.heap.size + 1, 5, none⟩ (.slice xc tn yc)))) := hide (by
    have hsz := hb1.size
    simp only [World.size_alloc] at hsz
    refine ⟨?_, six_below (hB0.trans (hc2.mono hB0.size)) (by omega)⟩
    have hfr : Fr w2 w1.heap.size w2.heap.size (.slice xa 3 ya) (.slice xb tn yb) (.slice xc tn yc) s00.d tn := Fr.of (d := s00.d) hta
    have hfr2 := hfr.below hA3
    exact ((((((hfr2.set (by omega) (.inl (by omega))).set (by omega) (.inl (by omega))).set (by omega) (.inl (by omega))).set (by omega) (.inl (by omega))).set (by omega) (.inl (by omega))).set (by omega) (.inl (by omega))).tv)
  obtain ⟨fz, z0, z1, z2, z3, z4, z5⟩ := row6_facts g2'
  clear hta htv hb1 hb2 hc2 hA3 g1 g2 g2' x0 hB0
  go_wp2
  refine bodyPost_ret (v := .agg (run6 (.slice ta tn tc) 0 0 (.slice xa 3 ya) (.slice xb tn yb) (.slice xc tn yc))) (by simp [results, Try.results31, go_sem, z0, z1, z2, z3, z4, z5]) rfl ⟨xa, xb, xc, ya, yb, yc, rfl, HF.out.1, HF.out.2⟩

/-- all threads brought to their ends -/
def fns (C : Nat) (L : Nat → Nat) (F : Nat → Nat → Nat → Int) (s : Rs) : Nat → Rs
  | 0 => s
  | k + 1 => fin C L F (fns C L F s k) k
theorem fns_ok {C : Nat} {L : Nat → Nat} {F : Nat → Nat → Nat → Int} {s : Rs} (hr : Rgt C L F) (h : Rok C L s) : ∀ k, k ≤ C → Rok C L (fns C L F s k)
  | 0, _ => h
  | k + 1, hk => fin_ok hr (fns_ok hr h k (by omega)) (by omega)
/-- the run's last state -/
def rnS (C : Nat) (L : Nat → Nat) (F : Nat → Nat → Nat → Int) (zs : List Int) : Rs := fns C L F (pks C L F (fun j => (zs.getD j 0).toNat) s00 zs.length) C
def rpB (C : Nat) (L : Nat → Nat) (F : Nat → Nat → Nat → Int) (zs : List Int) : Bool := litB C L F && pkB zs (2 * (C : Int))
/-- what RunPicks answers -/
def RpPost (C : Nat) (L : Nat → Nat) (F : Nat → Nat → Nat → Int) (zs : List Int) (w : World) (e : Ending) (w' : World) : Prop :=
  (rpB C L F zs = false ∧ e = .returned (.tuple #[.agg #[nil3, nil3, nil3], .bool false]) ∧ Below w.heap.size w w') ∨
  (rpB C L F zs = true ∧ ∃ m b r vb vr tag, e = .returned (.tuple #[.agg #[m, b, r], .bool true]) ∧ TaD w' w.heap.size m b r (dal (rnS C L F zs).d C) C vb vr tag ∧ Below w.heap.size w w')

/-- between two picks -/
structure Ri (w2 wr : World) (t : T0) (th : Value) (s : Rs) (C : Nat) (L : Nat → Nat) (ma ba ra : Option Addr) (mc bc rc : Nat) : Prop where
  rr : Rr 1 wr.heap.size w2 wr t w2.heap.size th s C ma ba ra mc bc rc
  ok : Rok C L s
  bel : Below w2.heap.size w2 wr

end Go.Proofs.Ytcocobmanlmjdaa

/- impl.RunPicks (written by mkLqdJ.py) -/
namespace Go.Proofs.Ytcocobmanlmjdaa
open Go.RowKit
set_option linter.unusedVariables false
set_option linter.unusedSimpArgs false

theorem nil_tad (w : World) (base : Nat) : ∃ vb vr tag, TaD w base nil3 nil3 nil3 zD 0 vb vr tag := ⟨_, _, _, nil_ta w base⟩

set_option maxHeartbeats 8000000 in
set_option maxRecDepth 20000 in
theorem implRun_any (v va : Value) (C : Nat) (L : Nat → Nat) (F : Nat → Nat → Nat → Int) (zs : List Int) (w : World) (hs : Sa w v C L F) (hz : Sl w va zs) :
    Calls Try.prog 12 #[.agg #[v], va] w fun e w' => RpPost C L F zs w e w' := by
  have HS := hide hs
  have HZ := hide hz
  obtain ⟨ta, tc, rfl, _⟩ := hs
  obtain ⟨za, zc, rfl, _⟩ := hz
  obtain ⟨tn, htn⟩ : ∃ tn, C = tn := ⟨_, rfl⟩
  subst htn
  obtain ⟨N, hN⟩ : ∃ N, zs.length = N := ⟨_, rfl⟩
  rw [hN] at HZ ⊢
  have HN := hide hN
  clear hN
  obtain ⟨W, hW⟩ : ∃ W, (w.alloc (.cells #[.slice ta C tc] 29)).alloc (.cells #[nil3, nil3, nil3] 37) = W := ⟨_, rfl⟩
  have hB0 : Below w.heap.size w W := by rw [← hW]; exact ((Below.refl _ _).alloc (Nat.le_refl _) _).alloc (by simp) _
  have g1 : W.heap[w.heap.size]? = some (.cells #[.slice ta C tc] 29 (0, 0)) := by rw [← hW, Below.heap_alloc _ _ _ (by simp)]; exact heap_alloc_new _ _
  have g2 : W.heap[w.heap.size + 1]? = some (.cells #[nil3, nil3, nil3] 37 (0, 0)) := by
    rw [← hW]
    have := heap_alloc_new (w.alloc (.cells #[.slice ta C tc] 29)) (.cells #[nil3, nil3, nil3] 37)
    simpa only [World.size_alloc] using this
  have hws : W.heap.size = w.heap.size + 1 + 1 := by rw [← hW]; simp
  have x0 : W.cell? ⟨w.heap.size, 0, none⟩ = some (.slice ta C tc) := (cell_of_row _ _ 0 _ _ _ g1).trans rfl
  have hok := fun W h => implLitmusOk_any (.slice ta C tc) C L F W h
  have hne : w.heap.size ≠ w.heap.size + 1 := by omega
  subst hW
  cases hl : litB C L F
  · have HO : Hid (rpB C L F zs = false) := hide (by unfold rpB; rw [hl]; rfl)
    rw [hl] at hok
    go_enter Try.func12, Try.ntmps12
    go_wp2_with fail
    refine (hok _ (HS.out.below hB0)).mono ?_
    rintro e w1 ⟨rfl, hb1⟩
    have g2' := heap_b g2 hb1
    obtain ⟨fz, z0, z1, z2⟩ := row3_facts g2'
    have HB := hide (hB0.trans (hb1.mono hB0.size))
    clear hb1 g1 g2 g2' x0 hB0
    go_wp2
    refine bodyPost_ret (v := .tuple #[.agg #[nil3, nil3, nil3], .bool false]) (by simp [results, Try.results12, go_sem, z0, z1, z2]) rfl (.inl ⟨HO.out, rfl, ?_⟩)
    exact ((HB.out.setCell (p := ⟨w.heap.size + 1, 0, none⟩) (by show w.heap.size ≤ w.heap.size + 1; omega) _).setCell (p := ⟨w.heap.size + 1, 1, none⟩) (by show w.heap.size ≤ w.heap.size + 1; omega) _).setCell (p := ⟨w.heap.size + 1, 2, none⟩) (by show w.heap.size ≤ w.heap.size + 1; omega) _
  obtain ⟨⟨hC1, hC2⟩, hL3, hrg⟩ := lit_rgt hl
  have HL3 := hide hL3
  have HRG := hide hrg
  rw [hl] at hok
  have hpn := fun W => picksN_any ta C tc hC2 W
  have hpk := fun W h => picksOk_any (.slice za N zc) zs (2 * (C : Int)) W h
  cases hp : pkB zs (2 * (C : Int))
  · have HO : Hid (rpB C L F zs = false) := hide (by unfold rpB; rw [hp, Bool.and_false])
    rw [hp] at hpk
    clear hL3 hrg
    go_enter Try.func12, Try.ntmps12
    go_wp2_with fail
    refine (hok _ (HS.out.below hB0)).mono ?_
    rintro e w1 ⟨rfl, hb1⟩
    have x1 := keepc hb1 x0
    go_wp2_with fail
    refine (hpn _).mono ?_
    rintro e w2 ⟨rfl, hb2⟩
    have hc2 := hb1.trans (hb2.mono hb1.size)
    have HB := hide (hB0.trans (hc2.mono hB0.size))
    go_wp2_with fail
    refine (hpk _ (HZ.out.below HB.out)).mono ?_
    rintro e w3 ⟨rfl, rfl⟩
    have g2' := heap_b g2 hc2
    obtain ⟨fz, z0, z1, z2⟩ := row3_facts g2'
    clear hb1 hb2 hc2 g1 g2 g2' x0 x1 hB0
    go_wp2
    refine bodyPost_ret (v := .tuple #[.agg #[nil3, nil3, nil3], .bool false]) (by simp [results, Try.results12, go_sem, z0, z1, z2]) rfl (.inl ⟨HO.out, rfl, ?_⟩)
    exact ((HB.out.setCell (p := ⟨w.heap.size + 1, 0, none⟩) (by show w.heap.size ≤ w.heap.size + 1; omega) _).setCell (p := ⟨w.heap.size + 1, 1, none⟩) (by show w.heap.size ≤ w.heap.size + 1; omega) _).setCell (p := ⟨w.heap.size + 1, 2, none⟩) (by show w.heap.size ≤ w.heap.size + 1; omega) _
  have HO : Hid (rpB C L F zs = true) := hide (by unfold rpB; rw [hl, hp]; rfl)
  obtain ⟨hz50, hzr⟩ := pkB_parts hp
  rw [HN.out] at hz50 hzr
  have HZR := hide hzr
  rw [hp] at hpk
  clear hL3 hrg hzr hp hl
  go_enter Try.func12, Try.ntmps12
  go_wp2_with fail
  refine (hok _ (HS.out.below hB0)).mono ?_
  rintro e w1 ⟨rfl, hb1⟩
  have x1 := keepc hb1 x0
  go_wp2_with fail
  refine (hpn _).mono ?_
  rintro e w2 ⟨rfl, hb2⟩
  have hc2 := hb1.trans (hb2.mono hb1.size)
  have HB2 := hide (hB0.trans (hc2.mono hB0.size))
  go_wp2_with fail
  refine (hpk _ (HZ.out.below HB2.out)).mono ?_
  rintro e w2' ⟨rfl, rfl⟩
  have x2 := keepc hb2 x1
  go_wp2_with fail
  refine (runOf_any ta C tc hC1 hC2 _).mono ?_
  rintro e w3 ⟨ma0, ba0, ra0, mc0, bc0, rc0, rfl, htv, hb3⟩
  have hc3 := hc2.trans (hb3.mono hc2.size)
  have hB3 := hB0.trans (hc3.mono hB0.size)
  have gl := heap_b g1 hc3
  have ga := heap_b g2 hc3
  have hsz3 := hc3.size
  simp only [World.size_alloc] at hsz3
  obtain ⟨t, ht⟩ : ∃ t : T0, (Value.slice ma0 s00.d.zs.length mc0, Value.slice ba0 C bc0, Value.slice ra0 C rc0, s00.d) = t := ⟨_, rfl⟩
  have hA4 : Below w3.heap.size w3 (w3.alloc (.cells (run6 (.slice ta C tc) (s00.a 0 : Nat) (s00.a 1 : Nat) (.slice ma0 s00.d.zs.length mc0) (.slice ba0 C bc0) (.slice ra0 C rc0)) 67)) := (Below.refl _ _).alloc (Nat.le_refl _) _
  have HS0 : Hid (Ri w3 (w3.alloc (.cells (run6 (.slice ta C tc) (s00.a 0 : Nat) (s00.a 1 : Nat) (.slice ma0 s00.d.zs.length mc0) (.slice ba0 C bc0) (.slice ra0 C rc0)) 67)) t (.slice ta C tc) (pks C L F (fun j => (zs.getD j 0).toNat) s00 0) C L ma0 ba0 ra0 mc0 bc0 rc0) := hide ⟨⟨heap_alloc_new _ _, .inl ⟨ht.symm, htv, hA4⟩⟩, s00_ok hC1 hC2, hA4⟩
  have HB3 := hide hB3
  have HGL := hide gl
  have HGA := hide ga
  clear hb1 hb2 hb3 hc2 hc3 g1 g2 x0 x1 x2 hB0 HB2 htv hA4 hB3 gl ga ht hok hpn hpk
  generalize s00.d.zs.length = n00 at HS0 ⊢
  generalize s00.a 0 = a00 at HS0 ⊢
  generalize s00.a 1 = a01 at HS0 ⊢
  go_wp2
  go_loopw [25] (fun i wr => ∃ k : Nat, k ≤ N ∧ i = .int .i64 k ∧ ∃ (ma ba ra : Option Addr) (mc bc rc : Nat), Hid (Ri w3 wr t (.slice ta C tc) (pks C L F (fun j => (zs.getD j 0).toNat) s00 k) C L ma ba ra mc bc rc)) (fun i _ => N - (intOf i).toNat)
  case atStart => exact ⟨0, Nat.zero_le _, rfl, ma0, ba0, ra0, mc0, bc0, rc0, HS0⟩
  case round =>
    clear HS0
    obtain ⟨k, hk, rfl, ma, ba, ra, mc, bc, rc, HR⟩ := hrel
    by_cases hlt : k < N
    · have hB := HB3.out.trans (HR.out.bel.mono HB3.out.size)
      obtain ⟨za', zc', ez, hzz⟩ := HZ.out
      rw [HN.out] at hzz ez
      obtain ⟨p, po, rfl, hcz⟩ := hzz (by omega)
      obtain ⟨rfl, rfl⟩ : za = some ⟨p, po, none⟩ ∧ zc = zc' := by simp only [Value.slice.injEq] at ez; exact ⟨ez.1, ez.2.2⟩
      have ck := Below.keep hB _ _ (hcz k hlt)
      obtain ⟨hz0, hz1⟩ := HZR.out k hlt
      obtain ⟨q, hq⟩ := Int.eq_ofNat_of_zero_le hz0
      have HNX : Hid (pks C L F (fun j => (zs.getD j 0).toNat) s00 (k + 1) = (pck C L F (pks C L F (fun j => (zs.getD j 0).toNat) s00 k) q).getD (pks C L F (fun j => (zs.getD j 0).toNat) s00 k)) := hide (by
        show (pck C L F _ ((zs.getD k 0).toNat)).getD _ = _
        rw [hq]; rfl)
      rw [hq] at ck hz1
      have hq2 : q < 2 * C := by omega
      have HBX := hide (And.intro HR.out.ok hB)
      generalize pks C L F (fun j => (zs.getD j 0).toNat) s00 k = s at HR HNX HBX
      obtain ⟨s', hs'⟩ : ∃ s', pks C L F (fun j => (zs.getD j 0).toNat) s00 (k + 1) = s' := ⟨_, rfl⟩
      rw [hs'] at HNX
      have HSE := hide hs'
      clear hs'
      have hpc := fun W hsa htv => picked_all ta C tc L F s (.slice ma s.d.zs.length mc) (.slice ba C bc) (.slice ra C rc) q W hsa htv HR.out.ok hC2 HL3.out hq2
      have HOK : Hid (Rok C L s') := hide (by
        rw [HNX.out]
        cases e : pck C L F s q with
        | none => exact HR.out.ok
        | some t => exact pck_ok HR.out.ok e)
      have HSM : Hid ((pck C L F s q).isSome = false → s' = s) := hide (fun e => by rw [HNX.out]; exact getD_none e)
      rw [← HNX.out] at hpc
      generalize (pck C L F s q).isSome = ok at hpc HSM
      obtain ⟨fr, y0, y1, y2, y3, y4, y5⟩ := row6_facts HR.out.rr.box
      clear hzz hcz ez hz0 hz1 hq HNX hB
      go_wp2_with fail
      refine (hpc _ (HS.out.below HBX.out.2) HR.out.rr.tw.tv).mono ?_
      rintro e w4 ⟨ma4, mn4, mc4, ba4, bc4, ra4, rc4, rfl, hb4, hd4⟩
      have hzz4 := hb4.size
      have hzw := HR.out.bel.size
      have hbx := lt_of_block HR.out.rr.box
      have tw4 := HR.out.rr.tw.did (hi := w4.heap.size) hb4 hd4 (fun q => by rw [HSM.out q]) (by omega) (by omega)
      obtain rfl := mem_len tw4.tv
      have g6 := heap_b HR.out.rr.box hb4
      have HB4 := hide (HR.out.bel.trans (hb4.mono HR.out.bel.size))
      have HNEW : Hid (Ri w3 ((((((w4.setCell ⟨w3.heap.size, 0, none⟩ (.slice ta C tc)).setCell ⟨w3.heap.size, 1, none⟩ (.int .i64 (s'.a 0 : Nat))).setCell ⟨w3.heap.size, 2, none⟩ (.int .i64 (s'.a 1 : Nat))).setCell ⟨w3.heap.size, 3, none⟩ (.slice ma4 s'.d.zs.length mc4)).setCell ⟨w3.heap.size, 4, none⟩ (.slice ba4 C bc4)).setCell ⟨w3.heap.size, 5, none⟩ (.slice ra4 C rc4)) t (.slice ta C tc) s' C L ma4 ba4 ra4 mc4 bc4 rc4) := hide ⟨⟨six_row g6, by rw [six_size]; exact tw4.six (by omega) (by omega) (.inl (by omega))⟩, HOK.out, six_below HB4.out (by omega)⟩
      clear y0 y1 y2 y3 y4 y5 fr hb4 hd4 tw4 hpc HR ck
      obtain ⟨fr, y0, y1, y2, y3, y4, y5⟩ := row6_facts g6
      clear g6
      go_wp2
      go_roundw
      case rel => exact ⟨k + 1, by omega, by go_num, ma4, ba4, ra4, mc4, bc4, rc4, hide (by rw [HSE.out]; exact HNEW.out)⟩
      case measure => simp [intOf]; omega
    · have ek : k = N := by omega
      have HEK : Hid (pks C L F (fun j => (zs.getD j 0).toNat) s00 k = pks C L F (fun j => (zs.getD j 0).toNat) s00 zs.length) := hide (by rw [HN.out, ek])
      have HRS : Hid (rnS C L F zs = fns C L F (pks C L F (fun j => (zs.getD j 0).toNat) s00 k) C) := hide (by rw [HEK.out]; rfl)
      have HST : Hid (Ri w3 wr t (.slice ta C tc) (fns C L F (pks C L F (fun j => (zs.getD j 0).toNat) s00 k) 0) C L ma ba ra mc bc rc) := HR
      have HOK0 := hide HR.out.ok
      generalize pks C L F (fun j => (zs.getD j 0).toNat) s00 k = sk at HST HRS HOK0
      have x0 : wr.cell? ⟨w.heap.size, 0, none⟩ = some (.slice ta C tc) := keepc HR.out.bel ((cell_of_row _ _ 0 _ _ _ HGL.out).trans rfl)
      clear HR HEK ek
      go_wp2_with fail
      refine (threads_any ta C tc _).mono ?_
      rintro e w4 ⟨rfl, hb4⟩
      have HST4 : Hid (Ri w3 w4 t (.slice ta C tc) (fns C L F sk 0) C L ma ba ra mc bc rc) := hide ⟨⟨heap_b HST.out.rr.box hb4, (HST.out.rr.tw.below hb4).mono hb4.size⟩, HST.out.ok, HST.out.bel.trans (hb4.mono HST.out.bel.size)⟩
      clear HST hb4 x0
      go_wp2
      go_loopw [38] (fun i wr => ∃ k : Nat, k ≤ C ∧ i = .int .i64 k ∧ ∃ (ma ba ra : Option Addr) (mc bc rc : Nat), Hid (Ri w3 wr t (.slice ta C tc) (fns C L F sk k) C L ma ba ra mc bc rc)) (fun i _ => C - (intOf i).toNat)
      case atStart => exact ⟨0, Nat.zero_le _, rfl, ma, ba, ra, mc, bc, rc, HST4⟩
      case round =>
        clear HST4
        obtain ⟨i, hi, rfl, ma, ba, ra, mc, bc, rc, HR⟩ := hrel
        obtain ⟨fr, y0, y1, y2, y3, y4, y5⟩ := row6_facts HR.out.rr.box
        by_cases hlt : i < C
        · have hB := HB3.out.trans (HR.out.bel.mono HB3.out.size)
          have HNX : Hid (fns C L F sk (i + 1) = fin C L F (fns C L F sk i) i) := hide rfl
          generalize fns C L F sk i = s at HR HNX y0 y1 y2 y3 y4 y5
          obtain ⟨s', hs'⟩ : ∃ s', fns C L F sk (i + 1) = s' := ⟨_, rfl⟩
          rw [hs'] at HNX
          have HSE := hide hs'
          clear hs'
          have hfi := fun W hsa htv => finished_any ta C tc L F s (.slice ma s.d.zs.length mc) (.slice ba C bc) (.slice ra C rc) i W hsa htv HR.out.ok HRG.out hC2 HL3.out hlt
          rw [← HNX.out] at hfi
          have HOK : Hid (Rok C L s') := hide (by rw [HNX.out]; exact fin_ok HRG.out HR.out.ok hlt)
          clear HNX
          go_wp2_with fail
          refine (hfi _ (HS.out.below hB) HR.out.rr.tw.tv).mono ?_
          rintro e w5 ⟨ma4, ba4, ra4, mc4, bc4, rc4, rfl, htw, hb5⟩
          have hzz4 := hb5.size
          have hzw := HR.out.bel.size
          have hbx := lt_of_block HR.out.rr.box
          have tw4 := HR.out.rr.tw.after htw (by omega) (by omega)
          have g6 := heap_b HR.out.rr.box hb5
          have HB4 := hide (HR.out.bel.trans (hb5.mono HR.out.bel.size))
          have HNEW : Hid (Ri w3 ((((((w5.setCell ⟨w3.heap.size, 0, none⟩ (.slice ta C tc)).setCell ⟨w3.heap.size, 1, none⟩ (.int .i64 (s'.a 0 : Nat))).setCell ⟨w3.heap.size, 2, none⟩ (.int .i64 (s'.a 1 : Nat))).setCell ⟨w3.heap.size, 3, none⟩ (.slice ma4 s'.d.zs.length mc4)).setCell ⟨w3.heap.size, 4, none⟩ (.slice ba4 C bc4)).setCell ⟨w3.heap.size, 5, none⟩ (.slice ra4 C rc4)) t (.slice ta C tc) s' C L ma4 ba4 ra4 mc4 bc4 rc4) := hide ⟨⟨six_row g6, by rw [six_size]; exact tw4.six (by omega) (by omega) (.inl (by omega))⟩, HOK.out, six_below HB4.out (by omega)⟩
          clear y0 y1 y2 y3 y4 y5 fr hb5 htw tw4 hfi HR hB
          obtain ⟨fr, y0, y1, y2, y3, y4, y5⟩ := row6_facts g6
          clear g6
          go_wp2
          go_roundw
          case rel => exact ⟨i + 1, by omega, by go_num, ma4, ba4, ra4, mc4, bc4, rc4, hide (by rw [HSE.out]; exact HNEW.out)⟩
          case measure => simp [intOf]; omega
        · have ei : i = C := by omega
          have HRD : Hid (rnS C L F zs = fns C L F sk i) := hide (by rw [HRS.out, ei])
          generalize fns C L F sk i = s at HR HRD y0 y1 y2 y3 y4 y5
          have hdr := fun W h => implDrained_any (.slice ma s.d.zs.length mc) (.slice ba C bc) (.slice ra C rc) s.d C C W h
          clear ei
          go_wp2_with fail
          refine (hdr _ HR.out.rr.tw.tv).mono ?_
          rintro e w5 (⟨q, _⟩ | ⟨_, m5, b5, r5, vb5, vr5, tag5, rfl, ta5, hb5⟩)
          · exact absurd (q.symm.trans HR.out.ok.tok) (by decide)
          obtain ⟨⟨xa, ya, rfl⟩, ⟨xb, yb, rfl⟩, ⟨xr, yr, rfl⟩⟩ := three_of (Ta.tv ta5)
          have hc5 := HR.out.bel.trans (hb5.mono HR.out.bel.size)
          have ga5 := heap_b HGA.out hc5
          have hzw := HR.out.bel.size
          have hB5 := HB3.out.trans (hc5.mono HB3.out.size)
          have HF : Hid (TaD (((w5.setCell ⟨w.heap.size + 1, 0, none⟩ (.slice xa (dal s.d C).zs.length ya)).setCell ⟨w.heap.size + 1, 1, none⟩ (.slice xb C yb)).setCell ⟨w.heap.size + 1, 2, none⟩ (.slice xr C yr)) w.heap.size (.slice xa (dal s.d C).zs.length ya) (.slice xb C yb) (.slice xr C yr) (dal (rnS C L F zs).d C) C vb5 vr5 tag5 ∧ Below w.heap.size w (((w5.setCell ⟨w.heap.size + 1, 0, none⟩ (.slice xa (dal s.d C).zs.length ya)).setCell ⟨w.heap.size + 1, 1, none⟩ (.slice xb C yb)).setCell ⟨w.heap.size + 1, 2, none⟩ (.slice xr C yr))) := hide (by
            rw [HRD.out]
            exact ⟨Ta.mono (low_set (low_set (low_set ta5 (by omega)) (by omega)) (by omega)) (by omega), ((hB5.setCell (p := ⟨w.heap.size + 1, 0, none⟩) (by show w.heap.size ≤ w.heap.size + 1; omega) _).setCell (p := ⟨w.heap.size + 1, 1, none⟩) (by show w.heap.size ≤ w.heap.size + 1; omega) _).setCell (p := ⟨w.heap.size + 1, 2, none⟩) (by show w.heap.size ≤ w.heap.size + 1; omega) _⟩)
          obtain ⟨fz, z0, z1, z2⟩ := row3_facts ga5
          generalize (dal s.d C).zs.length = nl at *
          clear ta5 hb5 hc5 ga5 hB5 y0 y1 y2 y3 y4 y5 hdr HR
          go_wp2
          refine bodyPost_ret (v := .tuple #[.agg #[.slice xa nl ya, .slice xb C yb, .slice xr C yr], .bool true]) (by simp [results, Try.results12, go_sem, z0, z1, z2]) rfl (.inr ⟨HO.out, _, _, _, _, _, _, rfl, HF.out.1, HF.out.2⟩)

end Go.Proofs.Ytcocobmanlmjdaa

/- where a run stands, as the specification holds it: a Tso and a row of ints -/
namespace Go.Proofs.Ytcocobmanlmjdaa
open Go.RowKit
set_option linter.unusedVariables false
set_option linter.unusedSimpArgs false

theorem infoN : (Try.prog.info? 3).map (fun i => (i.zero, i.size, i.bytes)) = some (some (.int .i64 0), 1, 8) := by kernel_rfl
/-- a row of counts that can be read -/
def Ar (w : World) (v : Value) (n : Nat) (a : Nat → Nat) : Prop := ∃ p o c, v = .slice (some ⟨p, o, none⟩) n c ∧ ∀ j, j < n → w.cell? ⟨p, o + j, none⟩ = some (.int .i64 (a j : Nat))
theorem Ar.below {w w' : World} {v : Value} {n : Nat} {a : Nat → Nat} (h : Ar w v n a) (hb : Below w.heap.size w w') : Ar w' v n a := by
  obtain ⟨p, o, c, e, h⟩ := h
  exact ⟨p, o, c, e, fun j hj => keepc hb (h j hj)⟩
def nl (a : Nat → Nat) (n : Nat) : List Value := (List.range n).map fun j => .int .i64 (a j : Nat)
/-- a row of counts of one's own -/
def On (w : World) (base : Nat) (v : Value) (n : Nat) (a : Nat → Nat) : Prop := w.ownsRow base 3 1 v n (nl a n)
theorem On.form {w : World} {base : Nat} {v : Value} {n : Nat} {a : Nat → Nat} (h : On w base v n a) (hn : 0 < n) : ∃ g c, v = .slice (some ⟨g, 0, none⟩) n c ∧ base ≤ g ∧ g < w.heap.size := by
  rcases h.2 with ⟨_, h0⟩ | ⟨g, cap, cur, e, hb, hg, _⟩
  · omega
  · exact ⟨g, cap, e, hb, lt_of_block hg⟩
theorem On.ar {w : World} {base : Nat} {v : Value} {n : Nat} {a : Nat → Nat} (h : On w base v n a) (hn : 0 < n) : Ar w v n a := by
  obtain ⟨g, c, e, _⟩ := h.form hn
  subst e
  refine ⟨g, 0, c, rfl, fun j hj => ?_⟩
  have := World.ownsRow.cellAt h j (by omega)
  rw [Nat.zero_add, this]
  simp [nl, hj]
theorem On.below {w w' : World} {base : Nat} {v : Value} {n : Nat} {a : Nat → Nat} (h : On w base v n a) (hb : Below w.heap.size w w') : On w' base v n a := World.ownsRow.kept h (grown_of_below hb) (by cases v.ownBlock with | none => exact .inl rfl | some k => exact .inr (by simp))
theorem On.mono {w : World} {base base' : Nat} {v : Value} {n : Nat} {a : Nat → Nat} (h : On w base v n a) (hb : base' ≤ base) : On w base' v n a := by
  refine ⟨h.1, ?_⟩
  rcases h.2 with h' | ⟨g, cap, cur, h', hbb, hg⟩
  · exact .inl h'
  · exact .inr ⟨g, cap, cur, h', by omega, hg⟩
theorem On.set {w : World} {base : Nat} {v : Value} {n : Nat} {a : Nat → Nat} (h : On w base v n a) {B i : Nat} {x : Value} (hne : v.ownBlock ≠ some B) : On (w.setCell ⟨B, i, none⟩ x) base v n a :=
  World.ownsRow.kept h (grown_set w B i x) (.inr hne)
theorem nl_set (a : Nat → Nat) (n c x : Nat) : (nl a n).set c (.int .i64 (x : Nat)) = nl (upd a c x) n := by
  apply List.ext_getElem?
  intro j
  rw [List.getElem?_set]
  by_cases e : c = j
  · subst e
    by_cases hj : c < n
    · simp [nl, hj, upd_at]
    · simp [nl, hj]
  · rw [if_neg e]
    by_cases hj : j < n
    · simp [nl, hj, upd_ne (Ne.symm e)]
    · simp [nl, hj]
theorem On.inc {w : World} {base g c : Nat} {n : Nat} {a : Nat → Nat} (h : On w base (.slice (some ⟨g, 0, none⟩) n c) n a) (j x : Nat) : On (w.setCell ⟨g, j, none⟩ (.int .i64 (x : Nat))) base (.slice (some ⟨g, 0, none⟩) n c) n (upd a j x) := by
  unfold On
  rw [← nl_set]
  exact (World.ownsRow.stored h j _).1
theorem On.fro {w : World} {base g c : Nat} {n : Nat} {a : Nat → Nat} (h : On w base (.slice (some ⟨g, 0, none⟩) n c) n a) (j : Nat) : w.frozen? ⟨g, j, none⟩ = false := World.ownsRow.frozenAt h j

theorem nl_one {a : Nat → Nat} {n : Nat} : ∀ u ∈ nl a n, u.oneCell' = true := by
  intro u hu
  simp only [nl, List.mem_map] at hu
  obtain ⟨j, _, rfl⟩ := hu
  rfl
/-- append([]int{}, at...) -/
theorem append_emptyN (W : World) (v : Value) (n : Nat) (a : Nat → Nat) (ty : TypeId) (hs : Ar (W.alloc (.cells #[] 3)) v n a) (hn : 0 < n) (hl : n ≤ 1000) :
    ∃ v' w', (Builtin.append_ #[57, 57] ty #[.slice (some ⟨W.heap.size, 0, none⟩) 0 0, v]).run Try.prog (W.alloc (.cells #[] 3)) = .ok v' w' ∧ On w' W.heap.size v' n a ∧ Below W.heap.size W w' := by
  obtain ⟨i0, hi, hz0, hz1, hz2⟩ := info_parts infoN
  have hB : Below W.heap.size W (W.alloc (.cells #[] 3)) := (Below.refl _ _).alloc (Nat.le_refl _) _
  obtain ⟨p, o, c, rfl, hc⟩ := hs
  have hnew : ∀ j u, (nl a n)[j]? = some u → (W.alloc (.cells #[] 3)).cell? ((⟨p, o, none⟩ : Addr).add j) = some u := by
    intro j u hj
    have hlt : j < n := by
      have := (List.getElem?_eq_some_iff.1 hj).1
      simpa [nl] using this
    simp [nl, hlt] at hj
    rw [← hj]
    have := hc j hlt
    unfold Addr.add
    by_cases h0 : j = 0
    · subst h0; simpa using this
    · simpa [h0] using this
  obtain ⟨v', w', hr, hown, hgrow, _, _⟩ := run_append_own_at (P := Try.prog) (W.alloc (.cells #[] 3)) W.heap.size 57 ty 3 i0 _ 1 8 Try.underlying57 hi hz0 hz1 hz2 rfl (by omega) _ 0 [] (empty_own W 3 1) ⟨p, o, none⟩ n c (nl a n) (by simp [nl]) hnew nl_one (by unfold maxLen; omega) (by omega) (by simp)
  exact ⟨v', w', hr, by unfold On; simpa using hown, hB.grown hgrow (by simp) (fun k hk => by simp [Value.ownBlock] at hk; omega)⟩

/-- a Tso in blocks of its own, lo .. hi, its buffers within their room -/
def Frc (w : World) (lo hi : Nat) (m b r : Value) (d : Td) (C : Nat) : Prop := ∃ vb vr tag, TaD w lo m b r d C vb vr tag ∧ (∀ g, hi ≤ g → tag g = 100000) ∧ Cpd vb C
theorem Frc.tv {w : World} {lo hi : Nat} {m b r : Value} {d : Td} {C : Nat} (h : Frc w lo hi m b r d C) : Tv w m b r d.zs C d.L d.F C d.Z := by
  obtain ⟨_, _, _, h, _⟩ := h
  exact Ta.tv h
theorem Frc.cap {w : World} {lo hi : Nat} {m b r : Value} {d : Td} {C : Nat} (h : Frc w lo hi m b r d C) : Bcap w b C := by
  obtain ⟨_, _, _, h, _, hc⟩ := h
  exact Bcap.of h.bs hc
theorem Frc.of {w : World} {lo : Nat} {m b r : Value} {d : Td} {C : Nat} {vb vr : Nat → Value} {tag : Nat → Nat} (h : TaD w lo m b r d C vb vr tag) (hc : Cpd vb C) : Frc w lo w.heap.size m b r d C := by
  obtain ⟨tag', h1, h2⟩ := Ta.tagOff h
  exact ⟨_, _, _, h1, h2, hc⟩
theorem Frc.set {w : World} {lo hi : Nat} {m b r : Value} {d : Td} {C : Nat} (h : Frc w lo hi m b r d C) (hC : C ≤ 40) {B i : Nat} {v : Value} (hB : B < lo ∨ hi ≤ B) : Frc (w.setCell ⟨B, i, none⟩ v) lo hi m b r d C := by
  obtain ⟨vb, vr, tag, h1, h2, h3⟩ := h
  refine ⟨vb, vr, tag, Ta.off (S := fun b => b = B) h1 ((Chg.refl (fun b => b = B) _).set (B := B) rfl v) (fun b e => ?_) hC hC, h2, h3⟩
  have e' : b = B := e
  subst e'
  rcases hB with q | q
  · exact .inl q
  · exact .inr (h2 _ q)
theorem Frc.below {w w' : World} {lo hi : Nat} {m b r : Value} {d : Td} {C : Nat} (h : Frc w lo hi m b r d C) (hb : Below w.heap.size w w') : Frc w' lo hi m b r d C := by
  obtain ⟨vb, vr, tag, h1, h2, h3⟩ := h
  exact ⟨vb, vr, tag, Ta.below h1 hb, h2, h3⟩

/-- a state that can be read -/
structure St (w : World) (m b r v : Value) (s : Rs) (C : Nat) : Prop where
  tv : Tv w m b r s.d.zs C s.d.L s.d.F C s.d.Z
  cap : Bcap w b C
  ar : Ar w v C s.a
theorem St.below {w w' : World} {m b r v : Value} {s : Rs} {C : Nat} (h : St w m b r v s C) (hb : Below w.heap.size w w') : St w' m b r v s C := ⟨h.tv.below hb, Bcap.below h.cap h.tv.buf hb, h.ar.below hb⟩
/-- a state in blocks of its own, lo .. hi -/
def So (w : World) (lo hi : Nat) (m b r v : Value) (s : Rs) (C : Nat) : Prop := ∃ h1, lo ≤ h1 ∧ h1 ≤ hi ∧ Frc w lo h1 m b r s.d C ∧ On w h1 v C s.a ∧ ∀ g, v.ownBlock = some g → g < hi
theorem So.st {w : World} {lo hi : Nat} {m b r v : Value} {s : Rs} {C : Nat} (h : So w lo hi m b r v s C) (hC : 0 < C) : St w m b r v s C := by
  obtain ⟨h1, _, _, hf, ho, _⟩ := h
  exact ⟨hf.tv, hf.cap, ho.ar hC⟩
theorem So.below {w w' : World} {lo hi : Nat} {m b r v : Value} {s : Rs} {C : Nat} (h : So w lo hi m b r v s C) (hb : Below w.heap.size w w') : So w' lo hi m b r v s C := by
  obtain ⟨h1, q1, q2, hf, ho, q3⟩ := h
  exact ⟨h1, q1, q2, hf.below hb, ho.below hb, q3⟩
theorem So.set {w : World} {lo hi : Nat} {m b r v : Value} {s : Rs} {C : Nat} (h : So w lo hi m b r v s C) (hC : C ≤ 40) {B i : Nat} {x : Value} (hB : B < lo ∨ hi ≤ B) : So (w.setCell ⟨B, i, none⟩ x) lo hi m b r v s C := by
  obtain ⟨h1, q1, q2, hf, ho, q3⟩ := h
  refine ⟨h1, q1, q2, hf.set hC (by omega), ho.set (fun e => ?_), q3⟩
  have := q3 B e
  have := (World.ownsRow.lt ho B e).1
  omega
theorem So.mono {w : World} {lo hi hi' : Nat} {m b r v : Value} {s : Rs} {C : Nat} (h : So w lo hi m b r v s C) (q : hi ≤ hi') : So w lo hi' m b r v s C := by
  obtain ⟨h1, q1, q2, hf, ho, q3⟩ := h
  exact ⟨h1, q1, by omega, hf, ho, fun g e => by have := q3 g e; omega⟩
theorem So.lower {w : World} {lo lo' hi : Nat} {m b r v : Value} {s : Rs} {C : Nat} (h : So w lo hi m b r v s C) (q : lo' ≤ lo) : So w lo' hi m b r v s C := by
  obtain ⟨h1, q1, q2, ⟨vb, vr, tag, t1, t2, t3⟩, ho, q3⟩ := h
  exact ⟨h1, by omega, q2, ⟨vb, vr, tag, Ta.mono t1 q, t2, t3⟩, ho, q3⟩

/-- four cells of a state's box -/
theorem row4_facts {w : World} {B : Nat} {T : TypeId} {v0 v1 v2 v3 : Value} (h : w.heap[B]? = some (.cells #[v0, v1, v2, v3] T (0, 0))) : (∀ i, w.frozen? ⟨B, i, none⟩ = false) ∧ w.cell? ⟨B, 0, none⟩ = some v0 ∧ w.cell? ⟨B, 1, none⟩ = some v1 ∧ w.cell? ⟨B, 2, none⟩ = some v2 ∧ w.cell? ⟨B, 3, none⟩ = some v3 :=
  ⟨fun i => frozen_of_row _ _ i _ _ h, (cell_of_row _ _ 0 _ _ _ h).trans rfl, (cell_of_row _ _ 1 _ _ _ h).trans rfl, (cell_of_row _ _ 2 _ _ _ h).trans rfl, (cell_of_row _ _ 3 _ _ _ h).trans rfl⟩
theorem four_row {V : World} {B : Nat} {T : TypeId} {u0 u1 u2 u3 v0 v1 v2 v3 : Value} (h : V.heap[B]? = some (.cells #[u0, u1, u2, u3] T (0, 0))) : ((((V.setCell ⟨B, 0, none⟩ v0).setCell ⟨B, 1, none⟩ v1).setCell ⟨B, 2, none⟩ v2).setCell ⟨B, 3, none⟩ v3).heap[B]? = some (.cells #[v0, v1, v2, v3] T (0, 0)) := by
  rw [row6_set (i := 3) (v := v3) (row6_set (i := 2) (v := v2) (row6_set (i := 1) (v := v1) (row6_set (i := 0) (v := v0) h)))]
  rfl
theorem four_heap {V : World} {B c : Nat} {v0 v1 v2 v3 : Value} {o : Obj} (h : V.heap[c]? = some o) (hne : c ≠ B) : ((((V.setCell ⟨B, 0, none⟩ v0).setCell ⟨B, 1, none⟩ v1).setCell ⟨B, 2, none⟩ v2).setCell ⟨B, 3, none⟩ v3).heap[c]? = some o := by
  rw [Below.heap_setCell _ _ _ _ hne, Below.heap_setCell _ _ _ _ hne, Below.heap_setCell _ _ _ _ hne, Below.heap_setCell _ _ _ _ hne]; exact h
theorem four_below {b : Nat} {w V : World} {B : Nat} {v0 v1 v2 v3 : Value} (h : Below b w V) (hB : b ≤ B) : Below b w ((((V.setCell ⟨B, 0, none⟩ v0).setCell ⟨B, 1, none⟩ v1).setCell ⟨B, 2, none⟩ v2).setCell ⟨B, 3, none⟩ v3) :=
  (((h.setCell (p := ⟨B, 0, none⟩) hB _).setCell (p := ⟨B, 1, none⟩) hB _).setCell (p := ⟨B, 2, none⟩) hB _).setCell (p := ⟨B, 3, none⟩) hB _
theorem four_size {V : World} {B : Nat} {v0 v1 v2 v3 : Value} : ((((V.setCell ⟨B, 0, none⟩ v0).setCell ⟨B, 1, none⟩ v1).setCell ⟨B, 2, none⟩ v2).setCell ⟨B, 3, none⟩ v3).heap.size = V.heap.size := by simp
theorem So.four {V : World} {lo hi : Nat} {m b r v : Value} {s : Rs} {C : Nat} {B : Nat} {v0 v1 v2 v3 : Value} (h : So V lo hi m b r v s C) (hC : C ≤ 40) (hB : B < lo ∨ hi ≤ B) : So ((((V.setCell ⟨B, 0, none⟩ v0).setCell ⟨B, 1, none⟩ v1).setCell ⟨B, 2, none⟩ v2).setCell ⟨B, 3, none⟩ v3) lo hi m b r v s C :=
  (((h.set hC hB).set hC hB).set hC hB).set hC hB
theorem five_row {V : World} {B : Nat} {T : TypeId} {u0 u1 u2 u3 u4 v0 v1 v2 v3 v4 : Value} (h : V.heap[B]? = some (.cells #[u0, u1, u2, u3, u4] T (0, 0))) : (((((V.setCell ⟨B, 0, none⟩ v0).setCell ⟨B, 1, none⟩ v1).setCell ⟨B, 2, none⟩ v2).setCell ⟨B, 3, none⟩ v3).setCell ⟨B, 4, none⟩ v4).heap[B]? = some (.cells #[v0, v1, v2, v3, v4] T (0, 0)) := by
  rw [row6_set (i := 4) (v := v4) (row6_set (i := 3) (v := v3) (row6_set (i := 2) (v := v2) (row6_set (i := 1) (v := v1) (row6_set (i := 0) (v := v0) h))))]
  rfl
theorem five_heap {V : World} {B c : Nat} {v0 v1 v2 v3 v4 : Value} {o : Obj} (h : V.heap[c]? = some o) (hne : c ≠ B) : (((((V.setCell ⟨B, 0, none⟩ v0).setCell ⟨B, 1, none⟩ v1).setCell ⟨B, 2, none⟩ v2).setCell ⟨B, 3, none⟩ v3).setCell ⟨B, 4, none⟩ v4).heap[c]? = some o := by
  rw [Below.heap_setCell _ _ _ _ hne, Below.heap_setCell _ _ _ _ hne, Below.heap_setCell _ _ _ _ hne, Below.heap_setCell _ _ _ _ hne, Below.heap_setCell _ _ _ _ hne]; exact h
theorem five_below {b : Nat} {w V : World} {B : Nat} {v0 v1 v2 v3 v4 : Value} (h : Below b w V) (hB : b ≤ B) : Below b w (((((V.setCell ⟨B, 0, none⟩ v0).setCell ⟨B, 1, none⟩ v1).setCell ⟨B, 2, none⟩ v2).setCell ⟨B, 3, none⟩ v3).setCell ⟨B, 4, none⟩ v4) :=
  ((((h.setCell (p := ⟨B, 0, none⟩) hB _).setCell (p := ⟨B, 1, none⟩) hB _).setCell (p := ⟨B, 2, none⟩) hB _).setCell (p := ⟨B, 3, none⟩) hB _).setCell (p := ⟨B, 4, none⟩) hB _

/-- the answer of a step -/
def StQ (w : World) (C : Nat) (m b r v : Value) (o : Option Rs) (e : Ending) (w' : World) : Prop := Below w.heap.size w w' ∧
  match o with
  | none => e = .returned (.tuple #[.agg #[m, b, r, v], .bool false])
  | some s => ∃ ma mc ba bc ra rc g c, e = .returned (.tuple #[.agg #[.slice ma s.d.zs.length mc, .slice ba C bc, .slice ra C rc, .slice (some ⟨g, 0, none⟩) C c], .bool true]) ∧ So w' w.heap.size w'.heap.size (.slice ma s.d.zs.length mc) (.slice ba C bc) (.slice ra C rc) (.slice (some ⟨g, 0, none⟩) C c) s C

end Go.Proofs.Ytcocobmanlmjdaa
