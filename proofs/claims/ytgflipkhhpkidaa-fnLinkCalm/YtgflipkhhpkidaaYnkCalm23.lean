/- LdU, SwD, RdA -/
import Derived.Test.YtgflipkhhpkidaaYnkCalm22
import Derived.Test.YtgflipkhhpkidaaYnkCalm0
import Derived.Test.YtgflipkhhpkidaaChecked
import Derived.WalkSpells
import Derived.WalkLawsBesides
import Derived.Deep.QuietTactic
import Derived.BigQuiet
/- links as arguments: rows of any place; LinkOk of both sides; appends onto an empty row; a region's states -/
namespace Go.Proofs.Ytgflipkhhpkidaa
open Go.RowKit
set_option linter.unusedVariables false
set_option linter.unusedSimpArgs false

/-- a row's form: nothing and no room, or a place and room -/
def Gf (v : Value) (n : Nat) : Prop := (∃ ad, v = .slice ad 0 0 ∧ n = 0) ∨ ∃ g off k, v = .slice (some ⟨g, off, none⟩) n k ∧ n ≤ k
theorem Gf.form {v : Value} {n : Nat} (h : Gf v n) : ∃ a c, v = .slice a n c ∧ n ≤ c := by
  rcases h with ⟨ad, rfl, rfl⟩ | ⟨g, off, k, rfl, h⟩
  · exact ⟨ad, 0, rfl, Nat.le_refl _⟩
  · exact ⟨_, _, rfl, h⟩
theorem Gf.pl {v : Value} {n : Nat} (h : Gf v n) : Pl v n := by
  rcases h with ⟨ad, rfl, rfl⟩ | ⟨g, off, k, rfl, h⟩
  · cases ad with
    | none => exact .inl ⟨rfl, rfl⟩
    | some a => exact .inr ⟨a, 0, rfl⟩
  · exact .inr ⟨_, k, rfl⟩
theorem Rg.gf {w : World} {base n : Nat} {v : Value} {m : Nat} {f : Nat → Nat → Value} (h : Rg w base v m n f) : Gf v n := by
  rcases h with ⟨⟨ad, rfl⟩, rfl⟩ | ⟨g, off, k, rfl, h1, _⟩
  · exact .inl ⟨ad, rfl, rfl⟩
  · exact .inr ⟨g, off, k, rfl, h1⟩
/-- a link that is handed in -/
structure La (w : World) (wv gv dv uv : Value) (p : Lk) : Prop where
  lv : Lv w wv gv dv uv p
  fw : Gf wv p.nw
  fg : Gf gv p.ng
  fd : Gf dv p.nd
  fu : Gf uv p.nu
theorem La.below {w w' : World} {wv gv dv uv : Value} {p : Lk} (h : La w wv gv dv uv p) (hb : Below w.heap.size w w') : La w' wv gv dv uv p := ⟨h.lv.below hb, h.fw, h.fg, h.fd, h.fu⟩
theorem Lr.la {w : World} {base : Nat} {wv gv dv uv : Value} {p : Lk} (h : Lr w base wv gv dv uv p) : La w wv gv dv uv p := ⟨h.lv, h.wa.gf, h.go.gf, h.dn.gf, h.up.gf⟩
theorem Lo.la {w : World} {base gw gg gd gu : Nat} {p : Lk} (h : Lo w base gw gg gd gu p) : La w (sln gw p.nw) (sln gg p.ng) (sln gd p.nd) (sln gu p.nu) p := ⟨h.lv, .inr ⟨_, _, _, rfl, Nat.le_refl _⟩, .inr ⟨_, _, _, rfl, Nat.le_refl _⟩, .inr ⟨_, _, _, rfl, Nat.le_refl _⟩, .inr ⟨_, _, _, rfl, Nat.le_refl _⟩⟩
theorem La.slices {w : World} {wv gv dv uv : Value} {p : Lk} (h : La w wv gv dv uv p) : ∃ wa ga da ua wc gc dc uc, wv = .slice wa p.nw wc ∧ gv = .slice ga p.ng gc ∧ dv = .slice da p.nd dc ∧ uv = .slice ua p.nu uc := by
  obtain ⟨wa, wc, h1, _⟩ := h.fw.form
  obtain ⟨ga, gc, h2, _⟩ := h.fg.form
  obtain ⟨da, dc, h3, _⟩ := h.fd.form
  obtain ⟨ua, uc, h4, _⟩ := h.fu.form
  exact ⟨wa, ga, da, ua, wc, gc, dc, uc, h1, h2, h3, h4⟩
theorem implLinkOk_la (b : Bool) (p : Lk) (wv gv dv uv : Value) (w : World) (hb : lkB p = b) (hr : La w wv gv dv uv p) (hs : Lsm 1048576 p) :
    Calls Try.prog 12 #[.agg (l6 p.base wv p.want gv dv uv)] w fun e w' => e = .returned (.bool b) ∧ Below w.heap.size w w' := by
  subst hb
  have hg := hr.fg
  obtain ⟨wa, ga, da, ua, wc, gc, dc, uc, rfl, rfl, rfl, rfl⟩ := hr.slices
  refine implLinkOk_ga p wa ga da ua wc gc dc uc w hr.lv hs (fun bn W' h1 h2 h3 h4 => ?_)
  rcases hg with ⟨ad, e, hz⟩ | ⟨g, off, k, e, q1⟩
  · simp only [Value.slice.injEq] at e
    obtain ⟨rfl, _, rfl⟩ := e
    have hb0 : bn = 0 := by omega
    subst hb0
    rw [hz]
    exact bodies_zero p.want wa ga da ua p.nw p.nd p.nu wc dc uc p.ws p.gs W' h1 hs.1.1
  · simp only [Value.slice.injEq, true_and] at e
    obtain ⟨rfl, rfl⟩ := e
    exact bodies_any p.want bn wa da ua g off p.nw p.ng p.nd p.nu wc gc dc uc p.ws p.gs W' h1 h2 h3 h4 q1 hs.2.1.1 hs.1.1

/-- a row appended to an empty one -/
theorem app_copy (W : World) (m n bytes g : Nat) (row : Value) (f : Nat → Nat → Value) (t ty e : TypeId) (i0 : TypeInfo) (z : Value) (ht : Try.prog.underlying t = some (.slice e)) (hi : Try.prog.info? e = some i0) (hz0 : i0.zero = some z) (hz1 : i0.size = m) (hz2 : i0.bytes = bytes) (hzs : z.cells.size = m) (hm : 0 < m) (hf : Gf row n) (hs : Sg W row m n f) (hn : n ≤ maxLen) (hby : n * bytes ≤ 140737488355328) :
    ∃ v w', (Builtin.append_ #[t, t] ty #[.slice (some ⟨g, 0, none⟩) 0 0, row]).run Try.prog W = .ok v w' ∧ Mv nob W w' ∧ Rg w' W.heap.size v m n f := by
  obtain ⟨a, c, rfl, hc⟩ := hf.form
  by_cases h0 : n = 0
  · subst h0
    exact ⟨_, _, append_zero W t ty e i0 ht hi _ _ 0 0 c (Nat.le_refl _), Mv.refl _ _, .inl ⟨⟨_, rfl⟩, rfl⟩⟩
  · rcases hf with ⟨ad, e, hz⟩ | ⟨g2, off, k, e, q1⟩
    · exact absurd hz h0
    · simp only [Value.slice.injEq, true_and] at e
      obtain ⟨rfl, rfl⟩ := e
      obtain ⟨v', w', hrn, hown, hgr⟩ := run_append_arg_grows (P := Try.prog) W t ty _ i0 z m bytes ht hi hz0 hz1 hz2 hzs hm ⟨g, 0, none⟩ 0 0 [] (by simp) (by simp) ⟨g2, off, none⟩ n c (rowG m n f) (rowG_len _ _ _) (Rg.news hm hs) (by omega) (by omega) (by rw [Nat.zero_add]; exact hby)
      refine ⟨v', w', hrn, Mv.of_below ⟨hgr.os, hgr.tape, hgr.output, hgr.size, fun j hj => hgr.block j hj (by simp)⟩, ?_⟩
      have := own_rg (f := f) hown (fun x hx => by simpa using rowG_get (m := m) (n := n) (f := f) (by simpa using hx))
      simpa using this
theorem copy_texts (W : World) (n g : Nat) (row : Value) (s : Nat → ByteArray) (ty : TypeId) (hf : Gf row n) (hs : Sg W row 1 n (tF s)) (hn : n ≤ 1048576) : ∃ v w', (Builtin.append_ #[24, 24] ty #[.slice (some ⟨g, 0, none⟩) 0 0, row]).run Try.prog W = .ok v w' ∧ Mv nob W w' ∧ Rg w' W.heap.size v 1 n (tF s) := by
  obtain ⟨i0, hi, hz0, hz1, hz2⟩ := info_parts infoStr
  exact app_copy W 1 n 16 g row _ _ ty 9 i0 _ Try.underlying24 hi hz0 hz1 hz2 rfl (by decide) hf hs (by unfold maxLen; omega) (by omega)
theorem copy_wires (W : World) (n g : Nat) (row : Value) (s : Nat → ByteArray) (h : Nat → Bool) (ty : TypeId) (hf : Gf row n) (hs : Sg W row 2 n (wF s h)) (hn : n ≤ 1048576) : ∃ v w', (Builtin.append_ #[25, 25] ty #[.slice (some ⟨g, 0, none⟩) 0 0, row]).run Try.prog W = .ok v w' ∧ Mv nob W w' ∧ Rg w' W.heap.size v 2 n (wF s h) := by
  obtain ⟨i0, hi, hz0, hz1, hz2⟩ := info_parts infoWi
  exact app_copy W 2 n 24 g row _ _ ty 70 i0 _ Try.underlying25 hi hz0 hz1 hz2 rfl (by decide) hf hs (by unfold maxLen; omega) (by omega)

section
variable {P : Program} {ops : Array Oper} {Q : Exit → Act → World → Prop} {md : Region.Mode} {R : Nat → World → Prop} {S : World → Prop} {z i n : Nat} {o : Oper} {done : Array Bool} {a : Act} {w : World}
def AllM (F : Nat → Prop) : List Nat → Prop
  | [] => True
  | i :: l => F i ∧ AllM F l
theorem AllM.mem {F : Nat → Prop} : ∀ {l : List Nat}, AllM F l → ∀ i ∈ l, F i
  | [], _, i, h => by cases h
  | j :: l, h, i, hi => by
    rcases List.mem_cons.1 hi with rfl | hi
    · exact h.1
    · exact AllM.mem h.2 i hi
/-- one of several operations that may come next -/
def KD (P : Program) (md : Region.Mode) (ops : Array Oper) (Q : Exit → Act → World → Prop) (S : World → Prop) (z n : Nat) (done : Array Bool) (a : Act) (w : World) (i : Nat) : Prop :=
  ∃ o v w', ops[i]? = some o ∧ Region.wanted o (yielded ops a.tmps) = true ∧ (execOp a.eval o).run P w = .ok (.value v) w' ∧ (i ≠ z → S w') ∧ wpAnyK P md ops Q (But S z) n (done.setIfInBounds i true) (a.put o.dst v) w'
theorem kd_many {l : List Nat} (hr : Region.ready md ops done = l) (hl : l.isEmpty = false) (h : AllM (KD P md ops Q S z n done a w) l) : wpAnyK P md ops Q (But S z) (n + 1) done a w := by
  refine ⟨fun h0 => (by rw [hr] at h0; rw [h0] at hl; cases hl), fun j hj => ?_⟩
  rw [hr] at hj
  obtain ⟨o, v, w', ho, hw, hrn, hS, hk⟩ := h.mem j hj
  refine wpOp_step ho (fun K' hK => ?_)
  rw [if_pos hw]
  unfold Oper.wp
  rw [hrn]
  exact hK _ _ ⟨hS, hk⟩
theorem region_states (h : ∀ G : Nat → Array Bool → Array Value → World → Prop, (∀ n done tm V, G n done tm V = wpAnyK P md ops Q R n done ⟨tm, a.defers⟩ V) → G n done a.tmps w) : wpAnyK P md ops Q R n done a w := by
  have := h (fun n done tm V => wpAnyK P md ops Q R n done ⟨tm, a.defers⟩ V) (fun _ _ _ _ => rfl)
  cases a; exact this
end

end Go.Proofs.Ytgflipkhhpkidaa

/- one of several operations that may come next, calls too. No seat's function is named. -/
namespace Go.Proofs.Ytgflipkhhpkidaa
open Go.RowKit
set_option linter.unusedVariables false
section
variable {P : Program} {ops : Array Oper} {Q : Exit → Act → World → Prop} {md : Region.Mode} {S : World → Prop} {z n : Nat} {done : Array Bool} {a : Act} {w : World}
/-- one of several operations that may come next -/
def KE (P : Program) (md : Region.Mode) (ops : Array Oper) (Q : Exit → Act → World → Prop) (S : World → Prop) (z n : Nat) (done : Array Bool) (a : Act) (w : World) (i : Nat) : Prop :=
  ∃ o, ops[i]? = some o ∧ Region.wanted o (yielded ops a.tmps) = true ∧ ((∃ v w', (execOp a.eval o).run P w = .ok (.value v) w' ∧ (i ≠ z → S w') ∧ wpAnyK P md ops Q (But S z) n (done.setIfInBounds i true) (a.put o.dst v) w') ∨
    (∃ f args R, (execOp a.eval o).run P w = .ok (.enter f args) w ∧ Calls P f args w R ∧ ∀ e V, R e V → ∃ v, e = .returned v ∧ (i ≠ z → S V) ∧ wpAnyK P md ops Q (But S z) n (done.setIfInBounds i true) (a.put o.dst v) V))
theorem kd_each {l : List Nat} (hr : Region.ready md ops done = l) (hl : l.isEmpty = false) (h : AllM (KE P md ops Q S z n done a w) l) : wpAnyK P md ops Q (But S z) (n + 1) done a w := by
  refine ⟨fun h0 => (by rw [hr] at h0; rw [h0] at hl; cases hl), fun j hj => ?_⟩
  rw [hr] at hj
  obtain ⟨o, ho, hw, h | h⟩ := h.mem j hj
  · obtain ⟨v, w', hrn, hS, hk⟩ := h
    refine wpOp_step ho (fun K' hK => ?_)
    rw [if_pos hw]
    unfold Oper.wp
    rw [hrn]
    exact hK _ _ ⟨hS, hk⟩
  · obtain ⟨f, args, R, hrn, hc, hk⟩ := h
    refine wpOp_step ho (fun K' hK => ?_)
    rw [if_pos hw]
    unfold Oper.wp
    rw [hrn]
    refine Calls.mono hc (fun e V hR => ?_)
    obtain ⟨v, rfl, hS, hk2⟩ := hk e V hR
    exact hK _ _ ⟨hS, hk2⟩
end
theorem Lr.lower {w : World} {base base' : Nat} {wv gv dv uv : Value} {p : Lk} (h : Lr w base wv gv dv uv p) (hb : base' ≤ base) : Lr w base' wv gv dv uv p :=
  ⟨h.wa.base hb, h.go.base hb, h.dn.base hb, h.up.base hb, h.aw, h.ag, h.ad⟩
end Go.Proofs.Ytgflipkhhpkidaa

/- the reader of a code: what is known of it; next -/
namespace Go.Proofs.Ytgflipkhhpkidaa
open Go.RowKit

/-- a reader lies in block g: its bytes lie in an elder block -/
def Rdr (w : World) (g : Nat) : Prop :=
  ∃ (ad : Option Addr) (n cap p : Nat), w.heap[g]? = some (.cells #[.slice ad n cap, .int .i64 p] 59 (0, 0)) ∧ p ≤ n ∧ n ≤ 1048576 ∧
    (0 < n → ∃ b off, ad = some ⟨b, off, none⟩ ∧ b < g ∧ ∀ j, j < n → ∃ c : Int, 0 ≤ c ∧ c ≤ 255 ∧ w.cell? ⟨b, off + j, none⟩ = some (.int .u8 c))

theorem Rdr.lt {w : World} {g : Nat} (h : Rdr w g) : g < w.heap.size := by
  obtain ⟨ad, n, cap, p, hh, _⟩ := h
  exact lt_of_block hh

/-- what writes to younger blocks alone leaves the reader -/
theorem Rdr.grown {w w' : World} {g : Nat} {row : Option Nat} (h : Rdr w g) (hg : w.grownBy w' row) (hr : ∀ k, row = some k → g < k) : Rdr w' g := by
  have hlt := h.lt
  obtain ⟨ad, n, cap, p, hh, hp, hn, hb⟩ := h
  refine ⟨ad, n, cap, p, ?_, hp, hn, fun h0 => ?_⟩
  · rw [hg.block g hlt (fun e => by have := hr g e.symm; omega)]; exact hh
  · obtain ⟨b, off, rfl, hbg, hc⟩ := hb h0
    refine ⟨b, off, rfl, hbg, fun j hj => ?_⟩
    obtain ⟨c, h1, h2, h3⟩ := hc j hj
    exact ⟨c, h1, h2, hg.cell h3 (fun e => by have := hr b e.symm; omega)⟩

theorem Rdr.below {w w' : World} {g : Nat} (h : Rdr w g) (hb : Below w.heap.size w w') : Rdr w' g := h.grown (grown_of_below hb) (fun k hk => by cases hk)

/-- the world behind the reader's step -/
theorem next_world {w : World} {g n cap p b off : Nat} {c : Int} (hh : w.heap[g]? = some (.cells #[.slice (some ⟨b, off, none⟩) n cap, .int .i64 p] 59 (0, 0))) (hlt : p < n) (hn : n ≤ 1048576) (hbg : b < g)
    (hc : ∀ j, j < n → ∃ c : Int, 0 ≤ c ∧ c ≤ 255 ∧ w.cell? ⟨b, off + j, none⟩ = some (.int .u8 c)) (hcell : w.cell? ⟨b, off + p, none⟩ = some (.int .u8 c)) (m : Nat) (W : World) (hW : (w.drewN m).setCell ⟨g, 1, none⟩ (.int .i64 ((p : Int) + 1)) = W) :
    W.cell? ⟨g, 0, none⟩ = some (.slice (some ⟨b, off, none⟩) n cap) ∧ W.cell? ⟨g, 1, none⟩ = some (.int .i64 ((p : Int) + 1)) ∧ W.cell? ⟨b, off + p, none⟩ = some (.int .u8 c) ∧ Rdr W g ∧ w.grownBy W (some g) := by
  have hh' : (w.drewN m).heap[g]? = some (.cells #[.slice (some ⟨b, off, none⟩) n cap, .int .i64 p] 59 (0, 0)) := hh
  have h2 := heap_setCell_same (w.drewN m) g 1 _ _ (.int .i64 ((p : Int) + 1)) hh'
  rw [hW] at h2
  have ho : ∀ k, k ≠ g → W.heap[k]? = w.heap[k]? := fun k hk => by rw [← hW]; exact heap_setCell_other (w.drewN m) ⟨g, 1, none⟩ k _ hk
  have hoc : ∀ (a : Addr), a.block ≠ g → W.cell? a = w.cell? a := fun a ha => World.cell?_of_block (ho a.block ha)
  refine ⟨by rw [cell_of_row W g 0 _ _ _ h2]; rfl, by rw [cell_of_row W g 1 _ _ _ h2]; rfl, by rw [hoc _ (by show b ≠ g; omega)]; exact hcell, ?_, ?_⟩
  · refine ⟨some ⟨b, off, none⟩, n, cap, p + 1, h2, by omega, hn, fun _ => ⟨b, off, rfl, hbg, fun j hj => ?_⟩⟩
    rw [hoc _ (by show b ≠ g; omega)]
    exact hc j hj
  · rw [← hW]
    refine ⟨rfl, rfl, rfl, by simp, fun k _ hk => heap_setCell_other (w.drewN m) ⟨g, 1, none⟩ k _ (fun e => hk (by simp [e]))⟩

set_option maxHeartbeats 1000000 in
theorem next_any (g : Nat) (w : World) (h : Rdr w g) :
    Calls Try.prog 48 #[.pointer (some ⟨g, 0, none⟩)] w fun e w' => ∃ c : Int, e = .returned (.int .i64 c) ∧ 0 ≤ c ∧ c ≤ 255 ∧ Rdr w' g ∧ w.grownBy w' (some g) := by
  have hR := hide h
  obtain ⟨ad, n, cap, p, hh, hp, hn, hb⟩ := h
  have hc0 : w.cell? ⟨g, 0, none⟩ = some (.slice ad n cap) := by rw [cell_of_row w g 0 _ _ _ hh]; rfl
  have hc1 : w.cell? ⟨g, 1, none⟩ = some (.int .i64 p) := by rw [cell_of_row w g 1 _ _ _ hh]; rfl
  have hf1 : w.frozen? ⟨g, 1, none⟩ = false := frozen_of_row w g 1 _ _ hh
  have HH := hide hh
  clear hh
  by_cases hlt : p < n
  · obtain ⟨b, off, rfl, hbg, hc⟩ := hb (by omega)
    obtain ⟨c, hc0', hc255, hcell⟩ := hc p hlt
    have hne : ¬ b = g := by omega
    have hq : decide ((n : Int) ≤ (p : Int)) = false := by simp; omega
    have HC := hide hc
    clear hc hb
    go_enter Try.func48, Try.ntmps48
    go_wp2
    go_quiet (fail)
    all_goals go_wp2
    generalize hW : (w.drewN _).setCell ⟨g, 1, none⟩ (.int .i64 ((p : Int) + 1)) = W
    obtain ⟨d0, d1, d2, d3, d4⟩ := next_world HH.out hlt hn hbg HC.out hcell _ W hW
    have HF := hide (And.intro d3 d4)
    clear hW d3 d4 hcell hc0 hc1 hf1
    go_quiet (fail)
    all_goals go_wp2
    go_ret
    exact ⟨c, rfl, hc0', hc255, HF.out.1.grown (grown_drewN _ _ none) (fun k hk => by cases hk), grown_trans HF.out.2 (grown_drewN _ _ _)⟩
  · have hq : decide ((n : Int) ≤ (p : Int)) = true := by simp; omega
    clear hb
    go_enter Try.func48, Try.ntmps48
    go_wp2
    go_quiet (fail)
    all_goals go_wp2
    go_ret
    exact ⟨0, rfl, by omega, by omega, hR.out.grown (grown_drewN _ _ none) (fun k hk => by cases hk), grown_drewN _ _ _⟩

end Go.Proofs.Ytgflipkhhpkidaa
