/- coresWith: a look at all slots that gathers cores -/
import Derived.Test.YtelknolcneiikaaDoorQtA
namespace Go.Proofs.YtelknolcneiikaaDoor
open Go.RowKit
set_option linter.unusedVariables false
set_option linter.unusedSimpArgs false

def VarU (w : World) (Q : Nat) (x : Nat) : Prop := w.heap[Q]? = some (.cells #[.int .u64 (x : Int)] 55 (0, 0))
theorem VarU.facts {w : World} {Q x : Nat} (h : VarU w Q x) : w.cell? ⟨Q, 0, none⟩ = some (.int .u64 (x : Int)) ∧ w.frozen? ⟨Q, 0, none⟩ = false := by
  refine ⟨?_, frozen_of_row w Q 0 _ _ h⟩
  rw [cell_of_row w Q 0 _ _ _ h]; rfl
theorem VarU.put {w : World} {Q x : Nat} (h : VarU w Q x) (y : Nat) : VarU (w.setCell ⟨Q, 0, none⟩ (.int .u64 (y : Int))) Q y := heap_setCell_same w Q 0 _ _ (.int .u64 (y : Int)) h
theorem VarU.grown {w w' : World} {Q x : Nat} (h : VarU w Q x) (hb : Below w.heap.size w w') : VarU w' Q x := (hb.block Q (lt_of_block h)).trans h

/-- the cores so far -/
def cwn (p : Nat → Bool) : Nat → Nat
  | 0 => 0
  | k + 1 => cond (p k) (cwn p k ||| 2 ^ (k + 1)) (cwn p k)
theorem cwn_lt (p : Nat → Bool) : ∀ k, k ≤ 5 → cwn p k < 64
  | 0, _ => by show 0 < 64; omega
  | k + 1, h => by
    have h1 := cwn_lt p k (by omega)
    have h2 : 2 ^ (k + 1) < 2 ^ 6 := Nat.pow_lt_pow_of_lt (by decide) (by omega)
    show cond (p k) (cwn p k ||| 2 ^ (k + 1)) (cwn p k) < 64
    cases p k
    · exact h1
    · exact Nat.or_lt_two_pow (n := 6) h1 h2
/-- within a row -/
def cst (p : Nat → Bool) (line k m : Nat) : Nat := if line < m then cwn p (k + 1) else cwn p k
theorem cst_row (p : Nat → Bool) (line k N : Nat) (h : line < N) : cst p line k N = cst p line (k + 1) 0 := by
  unfold cst; rw [if_pos h, if_neg (by omega)]
theorem cst_zero (p : Nat → Bool) (line : Nat) : cst p line 0 0 = 0 := by unfold cst; rw [if_neg (by omega)]; rfl
theorem cst_lt (p : Nat → Bool) (line k m : Nat) (h : k < 5) : cst p line k m < 64 := by
  unfold cst; split
  · exact cwn_lt p (k + 1) (by omega)
  · exact cwn_lt p k (by omega)
theorem cst_step (p : Nat → Bool) (line k m : Nat) : cst p line k (m + 1) = cond ((m == line) && p k) (cst p line k m ||| 2 ^ (k + 1)) (cst p line k m) := by
  unfold cst
  by_cases e : m = line
  · subst e
    rw [if_pos (by omega), if_neg (by omega)]
    simp
    rfl
  · have e2 : (m == line) = false := by simp [e]
    rw [e2]
    by_cases h : line < m
    · rw [if_pos h, if_pos (by omega)]; rfl
    · rw [if_neg h, if_neg (by omega)]; rfl

set_option maxHeartbeats 4000000 in
theorem cw1_any (c : Nat) (l a0 a1 a2 a3 line st : Int) (Bl Bs Q x : Nat) (w : World) (hc : c < 5) (hx : x < 64) (hl : w.cell? ⟨Bl, 0, none⟩ = some (.int .i64 line)) (hs : w.cell? ⟨Bs, 0, none⟩ = some (.int .i64 st)) (hQ : VarU w Q x) :
    Calls Tryd.prog 38 #[.int .i64 ((c : Int) + 1), .int .i64 l, .agg #[.int .i64 a0, .int .i64 a1, .int .i64 a2, .int .i64 a3], .pointer (some ⟨Bl, 0, none⟩), .pointer (some ⟨Bs, 0, none⟩), .pointer (some ⟨Q, 0, none⟩)] w fun e w' => e = .returned (.tuple #[]) ∧ VarU w' Q (cond ((l == line) && (a0 == st)) (x ||| 2 ^ (c + 1)) x) ∧ w.grownBy w' (some Q) := by
  have hb : Below w.heap.size w (w.alloc (.cells #[.int .i64 a0, .int .i64 a1, .int .i64 a2, .int .i64 a3] 47)) := (Below.refl _ _).alloc (Nat.le_refl _) _
  have hl2 := keepc hb hl
  have hs2 := keepc hb hs
  have hV := hQ.grown hb
  obtain ⟨f0, f1⟩ := hV.facts
  have HV := hide hV
  have HG0 := hide (grown_new w (.cells #[.int .i64 a0, .int .i64 a1, .int .i64 a2, .int .i64 a3] 47) (some Q))
  by_cases h1 : l = line
  · subst h1
    by_cases h2 : a0 = st
    · subst h2
      have hpw : 2 ^ (c + 1) < 2 ^ 6 := Nat.pow_lt_pow_of_lt (by decide) (by omega)
      have HX : bits BinOp.or IntKind.u64 (x : Int) (IntKind.u64.wrap (2 ^ (c + 1))) = ((x ||| 2 ^ (c + 1) : Nat) : Int) := by
        have e : ((2 : Int) ^ (c + 1)) = ((2 ^ (c + 1) : Nat) : Int) := by simp
        have e2 : IntKind.u64.wrap ((2 ^ (c + 1) : Nat) : Int) = ((2 ^ (c + 1) : Nat) : Int) := by
          rw [IntKind.wrap_u64]
          generalize 2 ^ (c + 1) = y at hpw
          omega
        rw [e, e2]
        exact u64_or_nat x (2 ^ (c + 1)) (by omega) (by omega)
      have hP := hV.put (x ||| 2 ^ (c + 1))
      rw [← HX] at hP
      have HP : Hid (VarU ((w.alloc (.cells #[.int .i64 a0, .int .i64 a1, .int .i64 a2, .int .i64 a3] 47)).setCell ⟨Q, 0, none⟩ (.int .u64 (bits BinOp.or IntKind.u64 (x : Int) (IntKind.u64.wrap (2 ^ (c + 1)))))).drew Q (x ||| 2 ^ (c + 1))) := hide hP
      have HG : Hid (∀ v, w.grownBy ((w.alloc (.cells #[.int .i64 a0, .int .i64 a1, .int .i64 a2, .int .i64 a3] 47)).setCell ⟨Q, 0, none⟩ v).drew (some Q)) := hide (fun v => grown_trans (grown_trans HG0.out (grown_put _ Q v)) (grown_drewN _ 1 _))
      have g0 : (w.alloc (.cells #[.int .i64 a0, .int .i64 a1, .int .i64 a2, .int .i64 a3] 47)).drew.cell? ⟨Q, 0, none⟩ = some (.int .u64 (x : Int)) := f0
      have g1 : (w.alloc (.cells #[.int .i64 a0, .int .i64 a1, .int .i64 a2, .int .i64 a3] 47)).drew.frozen? ⟨Q, 0, none⟩ = false := f1
      simp only [beq_self_eq_true, Bool.and_self, cond_true]
      clear HX hP hpw hV
      go_enter Tryd.func38, Tryd.ntmps38
      go_wp2
      go_region
      go_end0
      exact ⟨rfl, HP.out, HG.out _⟩
    · have q0 : (a0 == st) = false := by simp [h2]
      rw [q0]
      simp only [Bool.and_false, cond_false]
      clear h2
      go_enter Tryd.func38, Tryd.ntmps38
      go_wp2
      go_end0
      exact ⟨rfl, HV.out, HG0.out⟩
  · have q0 : (l == line) = false := by simp [h1]
    rw [q0]
    simp only [Bool.false_and, cond_false]
    clear h1
    go_enter Tryd.func38, Tryd.ntmps38
    go_wp2
    go_end0
    exact ⟨rfl, HV.out, HG0.out⟩
/-- the world of a look that gathers -/
structure CW (wS w : World) (Bx Bl Bs Q : Nat) (sv lv mv : Value) (line st : Int) (x : Nat) : Prop where
  bel : Below wS.heap.size wS w
  box : w.cell? ⟨Bx, 0, none⟩ = some sv ∧ w.cell? ⟨Bx, 1, none⟩ = some lv ∧ w.cell? ⟨Bx, 2, none⟩ = some mv
  cl : w.cell? ⟨Bl, 0, none⟩ = some (.int .i64 line)
  cs : w.cell? ⟨Bs, 0, none⟩ = some (.int .i64 st)
  var : VarU w Q x
  lQ : wS.heap.size ≤ Q
  ne : Q ≠ Bx ∧ Q ≠ Bl ∧ Q ≠ Bs
theorem CW.next {wS w w' : World} {Bx Bl Bs Q x : Nat} {sv lv mv : Value} {line st : Int} (h : CW wS w Bx Bl Bs Q sv lv mv line st x) (hb : Below w.heap.size w w') : CW wS w' Bx Bl Bs Q sv lv mv line st x :=
  ⟨h.bel.trans (hb.mono h.bel.size), ⟨keepc hb h.box.1, keepc hb h.box.2.1, keepc hb h.box.2.2⟩, keepc hb h.cl, keepc hb h.cs, h.var.grown hb, h.lQ, h.ne⟩
theorem CW.alloc {wS w : World} {Bx Bl Bs Q x : Nat} {sv lv mv : Value} {line st : Int} (h : CW wS w Bx Bl Bs Q sv lv mv line st x) (o : Obj) : CW wS (w.alloc o) Bx Bl Bs Q sv lv mv line st x := h.next ((Below.refl _ _).alloc (Nat.le_refl _) _)
theorem CW.call {wS w w' : World} {Bx Bl Bs Q x y : Nat} {sv lv mv : Value} {line st : Int} (h : CW wS w Bx Bl Bs Q sv lv mv line st x) (hv : VarU w' Q y) (hg : w.grownBy w' (some Q)) : CW wS w' Bx Bl Bs Q sv lv mv line st y := by
  obtain ⟨n1, n2, n3⟩ := h.ne
  have hk : ∀ (B i : Nat) (u : Value), Q ≠ B → w.cell? ⟨B, i, none⟩ = some u → w'.cell? ⟨B, i, none⟩ = some u := fun B i u hne hc => hg.cell hc (fun e => by simp only [Option.some.injEq] at e; omega)
  exact ⟨h.bel.grown hg h.bel.size (fun k hk => by simp only [Option.some.injEq] at hk; have := h.lQ; omega), ⟨hk _ _ _ n1 h.box.1, hk _ _ _ n1 h.box.2.1, hk _ _ _ n1 h.box.2.2⟩, hk _ _ _ n2 h.cl, hk _ _ _ n3 h.cs, hv, h.lQ, h.ne⟩

def pS (F : Nat → Nat → Nat → Int) (line : Nat) (st : Int) (c : Nat) : Bool := F c line 0 == st

set_option maxHeartbeats 4000000 in
theorem lookC_any (sa : Option Addr) (C sc : Nat) (lv mv : Value) (L : Nat → Nat) (F : Nat → Nat → Nat → Int) (N line : Nat) (st : Int) (Bl Bs Q : Nat) (wS w : World) (hs : Ss wS (.slice sa C sc) C L F) (hbS : Below wS.heap.size wS w) (hcl : w.cell? ⟨Bl, 0, none⟩ = some (.int .i64 (line : Int))) (hcs : w.cell? ⟨Bs, 0, none⟩ = some (.int .i64 st)) (hQ : VarU w Q 0) (hQS : wS.heap.size ≤ Q) (hne : Q ≠ Bl ∧ Q ≠ Bs) (hC : C ≤ 5) (hL : ∀ c, c < C → L c = N) (hN : N ≤ 1048576) (hli : line < N) :
    Calls Tryd.prog 30 #[.agg (mc3 (.slice sa C sc) lv mv), .func (.func 38) #[] #[.pointer (some ⟨Bl, 0, none⟩), .pointer (some ⟨Bs, 0, none⟩), .pointer (some ⟨Q, 0, none⟩)]] w fun e w' => e = .returned (.tuple #[]) ∧ VarU w' Q (cwn (pS F line st) C) ∧ w.grownBy w' (some Q) := by
  have lw : CW wS (w.alloc (.cells (mc3 (.slice sa C sc) lv mv) 30)) w.heap.size Bl Bs Q (.slice sa C sc) lv mv line st (cst (pS F line st) line 0 0) := by
    have hb : Below w.heap.size w (w.alloc (.cells (mc3 (.slice sa C sc) lv mv) 30)) := (Below.refl _ _).alloc (Nat.le_refl _) _
    have mb := mb_box w (.slice sa C sc) lv mv 30
    rw [cst_zero]
    exact ⟨hbS.alloc hbS.size _, ⟨mb.2.1, mb.2.2.1, mb.2.2.2⟩, keepc hb hcl, keepc hb hcs, hQ.grown hb, hQS, Nat.ne_of_lt (lt_of_block hQ), hne.1, hne.2⟩
  have HG0 := hide (grown_new w (.cells (mc3 (.slice sa C sc) lv mv) 30) (some Q))
  obtain ⟨ad, cap, hv, hs⟩ := hs
  simp only [Value.slice.injEq, true_and] at hv
  obtain ⟨rfl, rfl⟩ := hv
  clear hQ hbS hQS hcl hcs hne
  go_enter Tryd.func30, Tryd.ntmps30
  go_wp2
  go_loopw [11] (fun i wr => ∃ k : Nat, k ≤ C ∧ i = .int .i64 k ∧ CW wS wr w.heap.size Bl Bs Q (.slice sa C sc) lv mv line st (cst (pS F line st) line k 0) ∧ Hid (w.grownBy wr (some Q))) (fun i _ => C - (intOf i).toNat)
  case atStart => exact ⟨0, Nat.zero_le _, rfl, lw, HG0⟩
  case round =>
    obtain ⟨k, hk, rfl, lk, HG⟩ := hrel
    clear lw HG0
    obtain ⟨c0, c1, c2⟩ := lk.box
    by_cases hlt : k < C
    · obtain ⟨p, off, rfl, hc⟩ := hs (by omega)
      obtain ⟨ia, ic, q0', hr⟩ := hc k hlt
      have hLk := hL k hlt
      rw [hLk] at q0' hr
      have q0 : wr.cell? ⟨p, off + k, none⟩ = some (.slice ia N ic) := Below.keep lk.bel _ _ q0'
      obtain ⟨iad, icap, hiv, hr⟩ := hr
      simp only [Value.slice.injEq, true_and] at hiv
      obtain ⟨rfl, rfl⟩ := hiv
      clear hs hc q0' hLk
      go_wp2
      go_loopw [18] (fun i wr => ∃ m : Nat, m ≤ N ∧ i = .int .i64 m ∧ CW wS wr w.heap.size Bl Bs Q (.slice (some ⟨p, off, none⟩) C sc) lv mv line st (cst (pS F line st) line k m) ∧ Hid (w.grownBy wr (some Q))) (fun i _ => N - (intOf i).toNat)
      case atStart => exact ⟨0, Nat.zero_le _, rfl, lk, HG⟩
      case round =>
        obtain ⟨m, hm, rfl, lm, HGm⟩ := hrel
        clear lk c0 c1 c2 q0 HG
        by_cases hlm : m < N
        · obtain ⟨pi, oi, rfl, hx⟩ := hr (by omega)
          have x0 : wr.cell? ⟨pi, oi + m * 4, none⟩ = some (.int .i64 (F k m 0)) := Below.keep lm.bel _ _ (hx m hlm 0 (by decide))
          have x1 : wr.cell? ⟨pi, oi + m * 4 + 1, none⟩ = some (.int .i64 (F k m 1)) := Below.keep lm.bel _ _ (hx m hlm 1 (by decide))
          have x2 : wr.cell? ⟨pi, oi + m * 4 + 2, none⟩ = some (.int .i64 (F k m 2)) := Below.keep lm.bel _ _ (hx m hlm 2 (by decide))
          have x3 : wr.cell? ⟨pi, oi + m * 4 + 3, none⟩ = some (.int .i64 (F k m 3)) := Below.keep lm.bel _ _ (hx m hlm 3 (by decide))
          clear hx hr
          have lx := lm.alloc (.cells #[.int .i64 (F k m 0), .int .i64 (F k m 1), .int .i64 (F k m 2), .int .i64 (F k m 3)] 47)
          have HGx := hide (grown_trans HGm.out (grown_new wr (.cells #[.int .i64 (F k m 0), .int .i64 (F k m 1), .int .i64 (F k m 2), .int .i64 (F k m 3)] 47) (some Q)))
          have HS : Hid (cond ((((m : Int)) == (line : Int)) && (F k m 0 == st)) (cst (pS F line st) line k m ||| 2 ^ (k + 1)) (cst (pS F line st) line k m) = cst (pS F line st) line k (m + 1)) := hide (by
            rw [cst_step]
            by_cases e : m = line
            · subst e; simp [pS]
            · have e1 : ((m : Int) == (line : Int)) = false := by simp; omega
              have e2 : (m == line) = false := by simp [e]
              rw [e1, e2]; rfl)
          have hcx := cst_lt (pS F line st) line k m (by omega)
          clear lm HGm
          go_wp2_with fail
          refine (cw1_any k _ _ _ _ _ _ _ Bl Bs Q _ _ (by omega) hcx lx.cl lx.cs lx.var).mono ?_
          rintro e w2 ⟨rfl, hv2, hg2⟩
          rw [HS.out] at hv2
          have ly := lx.call hv2 hg2
          have HGy := hide (grown_trans HGx.out hg2)
          clear lx hv2 hg2 HGx HS
          go_wp2
          go_roundw
          case rel => exact ⟨m + 1, by omega, by go_num, ly, HGy⟩
          case measure => simp [intOf]; omega
        · have e : m = N := by omega
          subst e
          have HR := hide (cst_row (pS F line st) line k m hli)
          have lz := lm
          rw [HR.out] at lz
          clear lm
          go_wp2
          go_roundw
          case rel => exact ⟨k + 1, by omega, by go_num, lz, HGm⟩
          case measure => simp [intOf]; omega
    · have e : k = C := by omega
      subst e
      have hv := lk.var
      have e2 : cst (pS F line st) line k 0 = cwn (pS F line st) k := by unfold cst; rw [if_neg (by omega)]
      rw [e2] at hv
      have HE := hide (And.intro hv HG.out)
      clear lk hv e2
      go_wp2
      go_end0
      exact ⟨rfl, HE.out.1, HE.out.2⟩

theorem cell_new1 (W : World) (v : Value) (T : TypeId) : (W.alloc (.cells #[v] T)).cell? ⟨W.heap.size, 0, none⟩ = some v := by
  rw [cell_of_row _ _ 0 _ _ _ (heap_alloc_new W (.cells #[v] T))]; rfl

set_option maxHeartbeats 4000000 in
theorem coresWith_any (sa : Option Addr) (C sc : Nat) (lv mv : Value) (L : Nat → Nat) (F : Nat → Nat → Nat → Int) (N line : Nat) (st : Int) (w : World) (hs : Ss w (.slice sa C sc) C L F) (hC : C ≤ 5) (hL : ∀ c, c < C → L c = N) (hN : N ≤ 1048576) (hli : line < N) :
    Calls Tryd.prog 22 #[.agg (mc3 (.slice sa C sc) lv mv), .int .i64 (line : Int), .int .i64 st] w fun e w' => e = .returned (.int .u64 (cwn (pS F line st) C)) ∧ Below w.heap.size w w' := by
  have hmf : ∀ (fn : Fn) (first cap : Array Value) (w : World), (Instr.makeFunc fn first cap).run Tryd.prog w = .ok (.func fn first cap) w := fun _ _ _ _ => rfl
  obtain ⟨W, hW⟩ : ∃ W, W = (((w.alloc (.cells (mc3 (.slice sa C sc) lv mv) 30)).alloc (.cells #[.int .i64 (line : Int)] 2)).alloc (.cells #[.int .i64 st] 2)).alloc (.cells #[.int .u64 0] 55) := ⟨_, rfl⟩
  have hb : Below w.heap.size w W := by rw [hW]; exact ((((Below.refl _ _).alloc (Nat.le_refl _) _).alloc (by simp) _).alloc (by simp; omega) _).alloc (by simp; omega) _
  have hV : VarU W (w.heap.size + 1 + 1 + 1) 0 := by
    rw [hW]
    have := heap_alloc_new (((w.alloc (.cells (mc3 (.slice sa C sc) lv mv) 30)).alloc (.cells #[.int .i64 (line : Int)] 2)).alloc (.cells #[.int .i64 st] 2)) (.cells #[.int .u64 0] 55)
    simp only [World.size_alloc] at this
    exact this
  have hcl : W.cell? ⟨w.heap.size + 1, 0, none⟩ = some (.int .i64 (line : Int)) := by
    rw [hW]
    have h1 := cell_new1 (w.alloc (.cells (mc3 (.slice sa C sc) lv mv) 30)) (.int .i64 (line : Int)) 2
    simp only [World.size_alloc] at h1
    exact keepc ((Below.refl _ _).alloc (Nat.le_refl _) _) (keepc ((Below.refl _ _).alloc (Nat.le_refl _) _) h1)
  have hcs : W.cell? ⟨w.heap.size + 1 + 1, 0, none⟩ = some (.int .i64 st) := by
    rw [hW]
    have h1 := cell_new1 ((w.alloc (.cells (mc3 (.slice sa C sc) lv mv) 30)).alloc (.cells #[.int .i64 (line : Int)] 2)) (.int .i64 st) 2
    simp only [World.size_alloc] at h1
    exact keepc ((Below.refl _ _).alloc (Nat.le_refl _) _) h1
  have hlk := lookC_any sa C sc lv mv L F N line st (w.heap.size + 1) (w.heap.size + 1 + 1) (w.heap.size + 1 + 1 + 1) w W hs hb hcl hcs hV (by omega) ⟨by omega, by omega⟩ hC hL hN hli
  rw [hW] at hlk hb
  clear hcl hcs hV hW
  go_enter Tryd.func22, Tryd.ntmps22
  go_wp2_with fail
  refine hlk.mono ?_
  rintro e w2 ⟨rfl, hv2, hg2⟩
  obtain ⟨f0, f1⟩ := hv2.facts
  have HB : Hid (Below w.heap.size w w2) := hide (hb.grown hg2 hb.size (fun k hk => by simp only [Option.some.injEq] at hk; omega))
  clear hlk hv2 hg2 hb
  go_wp2
  go_ret
  exact ⟨rfl, HB.out⟩

theorem many_fin : ∀ x : Fin 64, (bits BinOp.and IntKind.u64 (x.val : Int) (IntKind.u64.wrap ((x.val : Int) - 1)) != 0) = !(Nat.beq (Nat.land x.val (x.val - 1)) 0) := by decide +kernel
def many (x : Nat) : Bool := !(Nat.beq (Nat.land x (x - 1)) 0)

/-- how many -/
def cnt (p : Nat → Bool) : Nat → Nat
  | 0 => 0
  | k + 1 => cnt p k + cond (p k) 1 0
def stL (p : Nat → Bool) : Nat → List Int
  | 0 => []
  | k + 1 => stL p k ++ cond (p k) [(k : Int) + 1] []
theorem stL_len (p : Nat → Bool) : ∀ k, (stL p k).length = cnt p k
  | 0 => rfl
  | k + 1 => by
    show (stL p k ++ cond (p k) [(k : Int) + 1] []).length = cnt p k + cond (p k) 1 0
    rw [List.length_append, stL_len p k]
    cases p k <;> rfl
theorem cnt_le (p : Nat → Bool) : ∀ k, cnt p k ≤ k
  | 0 => Nat.le_refl _
  | k + 1 => by
    have := cnt_le p k
    show cnt p k + cond (p k) 1 0 ≤ k + 1
    cases p k <;> simp <;> omega
theorem cwn_congr {p q : Nat → Bool} : ∀ k, (∀ j, j < k → p j = q j) → cwn p k = cwn q k
  | 0, _ => rfl
  | k + 1, h => by
    show cond (p k) (cwn p k ||| 2 ^ (k + 1)) (cwn p k) = cond (q k) (cwn q k ||| 2 ^ (k + 1)) (cwn q k)
    rw [cwn_congr k (fun j hj => h j (by omega)), h k (by omega)]
theorem cnt_congr {p q : Nat → Bool} : ∀ k, (∀ j, j < k → p j = q j) → cnt p k = cnt q k
  | 0, _ => rfl
  | k + 1, h => by
    show cnt p k + cond (p k) 1 0 = cnt q k + cond (q k) 1 0
    rw [cnt_congr k (fun j hj => h j (by omega)), h k (by omega)]
theorem stL_congr {p q : Nat → Bool} : ∀ k, (∀ j, j < k → p j = q j) → stL p k = stL q k
  | 0, _ => rfl
  | k + 1, h => by
    show stL p k ++ cond (p k) [(k : Int) + 1] [] = stL q k ++ cond (q k) [(k : Int) + 1] []
    rw [stL_congr k (fun j hj => h j (by omega)), h k (by omega)]
def p5 (b0 b1 b2 b3 b4 : Bool) : Nat → Bool
  | 0 => b0
  | 1 => b1
  | 2 => b2
  | 3 => b3
  | _ => b4
theorem p5_at (p : Nat → Bool) (C : Nat) (h : C ≤ 5) : ∀ j, j < C → p j = p5 (p 0) (p 1) (p 2) (p 3) (p 4) j := by
  intro j hj
  have : j = 0 ∨ j = 1 ∨ j = 2 ∨ j = 3 ∨ j = 4 := by omega
  rcases this with rfl | rfl | rfl | rfl | rfl <;> rfl
theorem many_five : ∀ b0 b1 b2 b3 b4 : Bool, ∀ C : Fin 6, many (cwn (p5 b0 b1 b2 b3 b4) C.val) = decide (1 < cnt (p5 b0 b1 b2 b3 b4) C.val) ∧ (cwn (p5 b0 b1 b2 b3 b4) C.val != 0) = decide (0 < cnt (p5 b0 b1 b2 b3 b4) C.val) := by decide +kernel
theorem many_cnt (p : Nat → Bool) (C : Nat) (h : C ≤ 5) : many (cwn p C) = decide (1 < cnt p C) ∧ (cwn p C != 0) = decide (0 < cnt p C) := by
  rw [cwn_congr C (p5_at p C h), cnt_congr C (p5_at p C h)]
  exact many_five _ _ _ _ _ ⟨C, by omega⟩
theorem set_five : ∀ b0 b1 b2 b3 b4 : Bool, ∀ C : Fin 6, Ids.inSet ((cwn (p5 b0 b1 b2 b3 b4) C.val : Nat) : Int) = stL (p5 b0 b1 b2 b3 b4) C.val := by decide +kernel
theorem set_cw (p : Nat → Bool) (C : Nat) (h : C ≤ 5) : Ids.inSet ((cwn p C : Nat) : Int) = stL p C := by
  rw [cwn_congr C (p5_at p C h), stL_congr C (p5_at p C h)]
  exact set_five _ _ _ _ _ ⟨C, by omega⟩
end Go.Proofs.YtelknolcneiikaaDoor
