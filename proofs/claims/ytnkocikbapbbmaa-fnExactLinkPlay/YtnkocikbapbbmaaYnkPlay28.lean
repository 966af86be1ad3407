/- LdU, LdX0 -/
import Derived.Test.YtnkocikbapbbmaaYnkPlay27
/- links as arguments: rows of any place; LinkOk of both sides; appends onto an empty row; a region's states -/
namespace Go.Proofs.Ytnkocikbapbbmaa
open Go.RowKit
set_option linter.unusedVariables false
set_option linter.unusedSimpArgs false

/-- a row's form: nothing and no room, or a place and room -/
def Gf (v : Value) (n : Nat) : Prop := (∃ ad, v = .slice ad 0 0 ∧ n = 0) ∨ ∃ g off k, v = .slice (some ⟨g, off, none⟩) n k ∧ n ≤ k
theorem Gf.form {v : Value} {n : Nat} (h : Gf v n) : ∃ a c, v = .slice a n c ∧ n ≤ c := by
  rcases h with ⟨ad, rfl, rfl⟩ | ⟨g, off, k, rfl, h⟩
  · exact ⟨ad, 0, rfl, Nat.le_refl _⟩
  · exact ⟨_, _, rfl, h⟩
theorem Gf.pl {v : Value} {n : Nat} (h : Gf v n) : Pl v n := by
  rcases h with ⟨ad, rfl, rfl⟩ | ⟨g, off, k, rfl, h⟩
  · cases ad with
    | none => exact .inl ⟨rfl, rfl⟩
    | some a => exact .inr ⟨a, 0, rfl⟩
  · exact .inr ⟨_, k, rfl⟩
theorem Rg.gf {w : World} {base n : Nat} {v : Value} {m : Nat} {f : Nat → Nat → Value} (h : Rg w base v m n f) : Gf v n := by
  rcases h with ⟨⟨ad, rfl⟩, rfl⟩ | ⟨g, off, k, rfl, h1, _⟩
  · exact .inl ⟨ad, rfl, rfl⟩
  · exact .inr ⟨g, off, k, rfl, h1⟩
/-- a link that is handed in -/
structure La (w : World) (wv gv dv uv : Value) (p : Lk) : Prop where
  lv : Lv w wv gv dv uv p
  fw : Gf wv p.nw
  fg : Gf gv p.ng
  fd : Gf dv p.nd
  fu : Gf uv p.nu
theorem La.below {w w' : World} {wv gv dv uv : Value} {p : Lk} (h : La w wv gv dv uv p) (hb : Below w.heap.size w w') : La w' wv gv dv uv p := ⟨h.lv.below hb, h.fw, h.fg, h.fd, h.fu⟩
theorem Lr.la {w : World} {base : Nat} {wv gv dv uv : Value} {p : Lk} (h : Lr w base wv gv dv uv p) : La w wv gv dv uv p := ⟨h.lv, h.wa.gf, h.go.gf, h.dn.gf, h.up.gf⟩
theorem Lo.la {w : World} {base gw gg gd gu : Nat} {p : Lk} (h : Lo w base gw gg gd gu p) : La w (sln gw p.nw) (sln gg p.ng) (sln gd p.nd) (sln gu p.nu) p := ⟨h.lv, .inr ⟨_, _, _, rfl, Nat.le_refl _⟩, .inr ⟨_, _, _, rfl, Nat.le_refl _⟩, .inr ⟨_, _, _, rfl, Nat.le_refl _⟩, .inr ⟨_, _, _, rfl, Nat.le_refl _⟩⟩
theorem La.slices {w : World} {wv gv dv uv : Value} {p : Lk} (h : La w wv gv dv uv p) : ∃ wa ga da ua wc gc dc uc, wv = .slice wa p.nw wc ∧ gv = .slice ga p.ng gc ∧ dv = .slice da p.nd dc ∧ uv = .slice ua p.nu uc := by
  obtain ⟨wa, wc, h1, _⟩ := h.fw.form
  obtain ⟨ga, gc, h2, _⟩ := h.fg.form
  obtain ⟨da, dc, h3, _⟩ := h.fd.form
  obtain ⟨ua, uc, h4, _⟩ := h.fu.form
  exact ⟨wa, ga, da, ua, wc, gc, dc, uc, h1, h2, h3, h4⟩
theorem implLinkOk_la (b : Bool) (p : Lk) (wv gv dv uv : Value) (w : World) (hb : lkB p = b) (hr : La w wv gv dv uv p) (hs : Lsm 1048576 p) :
    Calls Try.prog 10 #[.agg (l6 p.base wv p.want gv dv uv)] w fun e w' => e = .returned (.bool b) ∧ Below w.heap.size w w' := by
  subst hb
  have hg := hr.fg
  obtain ⟨wa, ga, da, ua, wc, gc, dc, uc, rfl, rfl, rfl, rfl⟩ := hr.slices
  refine implLinkOk_ga p wa ga da ua wc gc dc uc w hr.lv hs (fun bn W' h1 h2 h3 h4 => ?_)
  rcases hg with ⟨ad, e, hz⟩ | ⟨g, off, k, e, q1⟩
  · simp only [Value.slice.injEq] at e
    obtain ⟨rfl, _, rfl⟩ := e
    have hb0 : bn = 0 := by omega
    subst hb0
    rw [hz]
    exact bodies_zero p.want wa ga da ua p.nw p.nd p.nu wc dc uc p.ws p.gs W' h1 hs.1.1
  · simp only [Value.slice.injEq, true_and] at e
    obtain ⟨rfl, rfl⟩ := e
    exact bodies_any p.want bn wa da ua g off p.nw p.ng p.nd p.nu wc gc dc uc p.ws p.gs W' h1 h2 h3 h4 q1 hs.2.1.1 hs.1.1

/-- a row appended to an empty one -/
theorem app_copy (W : World) (m n bytes g : Nat) (row : Value) (f : Nat → Nat → Value) (t ty e : TypeId) (i0 : TypeInfo) (z : Value) (ht : Try.prog.underlying t = some (.slice e)) (hi : Try.prog.info? e = some i0) (hz0 : i0.zero = some z) (hz1 : i0.size = m) (hz2 : i0.bytes = bytes) (hzs : z.cells.size = m) (hm : 0 < m) (hf : Gf row n) (hs : Sg W row m n f) (hn : n ≤ maxLen) (hby : n * bytes ≤ 140737488355328) :
    ∃ v w', (Builtin.append_ #[t, t] ty #[.slice (some ⟨g, 0, none⟩) 0 0, row]).run Try.prog W = .ok v w' ∧ Mv nob W w' ∧ Rg w' W.heap.size v m n f := by
  obtain ⟨a, c, rfl, hc⟩ := hf.form
  by_cases h0 : n = 0
  · subst h0
    exact ⟨_, _, append_zero W t ty e i0 ht hi _ _ 0 0 c (Nat.le_refl _), Mv.refl _ _, .inl ⟨⟨_, rfl⟩, rfl⟩⟩
  · rcases hf with ⟨ad, e, hz⟩ | ⟨g2, off, k, e, q1⟩
    · exact absurd hz h0
    · simp only [Value.slice.injEq, true_and] at e
      obtain ⟨rfl, rfl⟩ := e
      obtain ⟨v', w', hrn, hown, hgr⟩ := run_append_arg_grows (P := Try.prog) W t ty _ i0 z m bytes ht hi hz0 hz1 hz2 hzs hm ⟨g, 0, none⟩ 0 0 [] (by simp) (by simp) ⟨g2, off, none⟩ n c (rowG m n f) (rowG_len _ _ _) (Rg.news hm hs) (by omega) (by omega) (by rw [Nat.zero_add]; exact hby)
      refine ⟨v', w', hrn, Mv.of_below ⟨hgr.os, hgr.tape, hgr.output, hgr.size, fun j hj => hgr.block j hj (by simp)⟩, ?_⟩
      have := own_rg (f := f) hown (fun x hx => by simpa using rowG_get (m := m) (n := n) (f := f) (by simpa using hx))
      simpa using this
theorem copy_texts (W : World) (n g : Nat) (row : Value) (s : Nat → ByteArray) (ty : TypeId) (hf : Gf row n) (hs : Sg W row 1 n (tF s)) (hn : n ≤ 1048576) : ∃ v w', (Builtin.append_ #[22, 22] ty #[.slice (some ⟨g, 0, none⟩) 0 0, row]).run Try.prog W = .ok v w' ∧ Mv nob W w' ∧ Rg w' W.heap.size v 1 n (tF s) := by
  obtain ⟨i0, hi, hz0, hz1, hz2⟩ := info_parts infoStr
  exact app_copy W 1 n 16 g row _ _ ty 9 i0 _ Try.underlying22 hi hz0 hz1 hz2 rfl (by decide) hf hs (by unfold maxLen; omega) (by omega)
theorem copy_wires (W : World) (n g : Nat) (row : Value) (s : Nat → ByteArray) (h : Nat → Bool) (ty : TypeId) (hf : Gf row n) (hs : Sg W row 2 n (wF s h)) (hn : n ≤ 1048576) : ∃ v w', (Builtin.append_ #[28, 28] ty #[.slice (some ⟨g, 0, none⟩) 0 0, row]).run Try.prog W = .ok v w' ∧ Mv nob W w' ∧ Rg w' W.heap.size v 2 n (wF s h) := by
  obtain ⟨i0, hi, hz0, hz1, hz2⟩ := info_parts infoWi
  exact app_copy W 2 n 24 g row _ _ ty 73 i0 _ Try.underlying28 hi hz0 hz1 hz2 rfl (by decide) hf hs (by unfold maxLen; omega) (by omega)

section
variable {P : Program} {ops : Array Oper} {Q : Exit → Act → World → Prop} {md : Region.Mode} {R : Nat → World → Prop} {S : World → Prop} {z i n : Nat} {o : Oper} {done : Array Bool} {a : Act} {w : World}
def AllM (F : Nat → Prop) : List Nat → Prop
  | [] => True
  | i :: l => F i ∧ AllM F l
theorem AllM.mem {F : Nat → Prop} : ∀ {l : List Nat}, AllM F l → ∀ i ∈ l, F i
  | [], _, i, h => by cases h
  | j :: l, h, i, hi => by
    rcases List.mem_cons.1 hi with rfl | hi
    · exact h.1
    · exact AllM.mem h.2 i hi
/-- one of several operations that may come next -/
def KD (P : Program) (md : Region.Mode) (ops : Array Oper) (Q : Exit → Act → World → Prop) (S : World → Prop) (z n : Nat) (done : Array Bool) (a : Act) (w : World) (i : Nat) : Prop :=
  ∃ o v w', ops[i]? = some o ∧ Region.wanted o (yielded ops a.tmps) = true ∧ (execOp a.eval o).run P w = .ok (.value v) w' ∧ (i ≠ z → S w') ∧ wpAnyK P md ops Q (But S z) n (done.setIfInBounds i true) (a.put o.dst v) w'
theorem kd_many {l : List Nat} (hr : Region.ready md ops done = l) (hl : l.isEmpty = false) (h : AllM (KD P md ops Q S z n done a w) l) : wpAnyK P md ops Q (But S z) (n + 1) done a w := by
  refine ⟨fun h0 => (by rw [hr] at h0; rw [h0] at hl; cases hl), fun j hj => ?_⟩
  rw [hr] at hj
  obtain ⟨o, v, w', ho, hw, hrn, hS, hk⟩ := h.mem j hj
  refine wpOp_step ho (fun K' hK => ?_)
  rw [if_pos hw]
  unfold Oper.wp
  rw [hrn]
  exact hK _ _ ⟨hS, hk⟩
theorem region_states (h : ∀ G : Nat → Array Bool → Array Value → World → Prop, (∀ n done tm V, G n done tm V = wpAnyK P md ops Q R n done ⟨tm, a.defers⟩ V) → G n done a.tmps w) : wpAnyK P md ops Q R n done a w := by
  have := h (fun n done tm V => wpAnyK P md ops Q R n done ⟨tm, a.defers⟩ V) (fun _ _ _ _ => rfl)
  cases a; exact this
end

end Go.Proofs.Ytnkocikbapbbmaa

/- spec.l8Down, spec.l8Up (written by mkLdX.py) -/
namespace Go.Proofs.Ytnkocikbapbbmaa
open Go.RowKit
set_option linter.unusedVariables false
set_option linter.unusedSimpArgs false

def downL (p : Lk) (s : ByteArray) : Lk := if Flit.rd s && decide (Flit.rK s = 1) then dgL p (Flit.rS s) (Flit.rB s) else p
def upL (p : Lk) (s : ByteArray) : Lk := if Flit.rd s && decide (Flit.rK s = 2) then ackL p (Flit.rS s) else p
theorem Lr.num {w : World} {base : Nat} {wv gv dv uv : Value} {p : Lk} (h : Lr w base wv gv dv uv p) (x y : Int) : Lr w base wv gv dv uv { p with base := x, want := y } := ⟨h.wa, h.go, h.dn, h.up, h.aw, h.ag, h.ad⟩
theorem comeD_eq (p : Lk) (z : Nat) : comeD p z = downL (outD p z) (p.dt z) := rfl
theorem comeU_eq (p : Lk) (z : Nat) : comeU p z = upL (outU p z) (p.ut z) := rfl
theorem l8Text_ack (s : Int) (w : World) (h0 : 0 ≤ s) (h1 : s ≤ 1000000) : Calls Try.prog 64 #[.agg #[.int .i64 2, .int .i64 s, .string ⟨#[]⟩]] w fun e w' => e = .returned (.string (Flit.txt 2 s ⟨#[]⟩)) ∧ Below w.heap.size w w' := by
  obtain ⟨n, rfl⟩ := Int.eq_ofNat_of_zero_le h0
  have e : Flit.txt 2 (n : Int) ⟨#[]⟩ = Flit.text 2 n ⟨#[]⟩ := by
    have hk : Flit.ok 2 (n : Int) ⟨#[]⟩ = true := by simp [Flit.ok]; first | omega | exact ⟨by omega, rfl⟩ | rfl
    unfold Flit.txt
    rw [if_pos hk]
    rfl
  rw [e]
  exact l8Text_any 2 n ⟨#[]⟩ w (by omega) (.inr rfl) (Nat.zero_le _)
theorem l8Text_data (s : Int) (b : ByteArray) (w : World) (h0 : 0 ≤ s) (h1 : s ≤ 1000000) (h8 : b.size ≤ 8) : Calls Try.prog 64 #[.agg #[.int .i64 1, .int .i64 s, .string b]] w fun e w' => e = .returned (.string (Flit.txt 1 s b)) ∧ Below w.heap.size w w' := by
  obtain ⟨n, rfl⟩ := Int.eq_ofNat_of_zero_le h0
  have e : Flit.txt 1 (n : Int) b = Flit.text 1 n b := by
    have hk : Flit.ok 1 (n : Int) b = true := by rw [Flit.ok_one ⟨h0, h1⟩]; exact decide_eq_true h8
    unfold Flit.txt
    rw [if_pos hk]
    rfl
  rw [e]
  exact l8Text_any 1 n b w (by omega) (.inl rfl) h8
theorem sread_as (s : ByteArray) (b : Bool) (h : Flit.rd s = b) (w : World) (hl : s.size ≤ 15) : Calls Try.prog 76 #[.string s] w fun e w' => e = .returned (.tuple #[.agg #[.int .i64 (Flit.rK s), .int .i64 (Flit.rS s), .string (Flit.rB s)], .bool b]) ∧ Below w.heap.size w w' := by
  subst h; exact specRead_any s w (by omega)

end Go.Proofs.Ytnkocikbapbbmaa
