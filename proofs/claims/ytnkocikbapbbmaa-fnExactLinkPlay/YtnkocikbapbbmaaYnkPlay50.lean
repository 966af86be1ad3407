/- LeC, LxA, SwF, LcM -/
import Derived.Test.YtnkocikbapbbmaaYnkPlay49
import Derived.Test.YtnkocikbapbbmaaYnkPlay38
import Derived.Test.YtnkocikbapbbmaaYnkPlay37
/- LinkDo of both sides (written by mkLeC.py) -/
namespace Go.Proofs.Ytnkocikbapbbmaa
open Go.RowKit
set_option linter.unusedVariables false
set_option linter.unusedSimpArgs false

/-- the link that has nothing -/
def zeL : Lk := ⟨0, 0, 0, 0, 0, 0, fun _ => ⟨#[]⟩, fun _ => ⟨#[]⟩, fun _ => ⟨#[]⟩, fun _ => false, fun _ => ⟨#[]⟩, fun _ => false⟩
theorem rg_nil (w : World) (base m : Nat) (f : Nat → Nat → Value) : Rg w base (.slice none 0 0) m 0 f := .inl ⟨⟨none, rfl⟩, rfl⟩
theorem zeL_lr (w : World) (base : Nat) : Lr w base (.slice none 0 0) (.slice none 0 0) (.slice none 0 0) (.slice none 0 0) zeL :=
  ⟨rg_nil _ _ _ _, rg_nil _ _ _ _, rg_nil _ _ _ _, rg_nil _ _ _ _, fun g e => absurd e (by simp [rb]), fun g e => absurd e (by simp [rb]), fun g e => absurd e (by simp [rb])⟩
theorem La.pl4 {w : World} {wv gv dv uv : Value} {p : Lk} (h : La w wv gv dv uv p) : Pl wv p.nw ∧ Pl gv p.ng ∧ Pl dv p.nd ∧ Pl uv p.nu := ⟨h.fw.pl, h.fg.pl, h.fd.pl, h.fu.pl⟩
end Go.Proofs.Ytnkocikbapbbmaa

/- what FnExactLinkDo wants of the laws' small functions (written by mkLxA.py) -/
namespace Go.Proofs.Ytnkocikbapbbmaa
open Go.RowKit
set_option linter.unusedVariables false
set_option linter.unusedSimpArgs false

set_option maxHeartbeats 8000000 in
set_option maxRecDepth 20000 in
theorem toLAct_any (k z bit : Int) (body : ByteArray) (w : World) :
    Calls Try.prog 14 #[.agg (a4 k z bit body)] w fun e w' => e = .returned (.agg (a4 k z bit body)) ∧ Below w.heap.size w w' := by
  have HB : Hid (Mv nob w w) := hide (Mv.refl _ _)
  go_enter Try.func14, Try.ntmps14
  refine sk fun K hK => rl ?_
  refine sbp #[.int .i64 k, .int .i64 z, .int .i64 bit, .string body] 35 fun V1 b0 hb0 m1 bx0 => ?_
  have o_0 : w.heap.size ≤ b0 := by omega
  replace HB := Xhn HB m1; clear hb0 m1
  refine sbp #[.int .i64 0, .int .i64 0, .int .i64 0, .string ⟨#[]⟩] 39 fun V2 b1 hb1 m2 bx1 => ?_
  have o0_1 := Xlo bx0 hb1; replace HB := Xhn HB m2; replace bx0 := Xbn bx0 m2; clear hb1 m2
  refine nt (hK _ _ ?_); clear hK K; refine sk fun K hK => rl ?_
  refine sbp #[.int .i64 0, .int .i64 0, .int .i64 0, .string ⟨#[]⟩] 39 fun V3 b2 hb2 m3 bx2 => ?_
  have o0_2 := Xlo bx0 hb2; have o1_2 := Xlo bx1 hb2; replace HB := Xhn HB m3; replace bx0 := Xbn bx0 m3; replace bx1 := Xbn bx1 m3; clear hb2 m3
  refine nt (hK _ _ ?_); clear hK K; refine sk fun K hK => rl ?_
  refine sv (.pointer (some ⟨b0, 0, none⟩)) ?_
  refine sl 0 bx0 ?_
  refine sv (.pointer (some ⟨b2, 0, none⟩)) ?_
  refine ss 0 (.int .i64 k) bx2 fun V4 m4 bx2 => ?_
  replace HB := Xhb HB m4; replace bx0 := Xbb bx0 m4; replace bx1 := Xbb bx1 m4; clear m4
  refine nt (hK _ _ ?_); clear hK K; refine sk fun K hK => rl ?_
  refine sv (.pointer (some ⟨b0, 1, none⟩)) ?_
  refine sl 1 bx0 ?_
  refine sv (.pointer (some ⟨b2, 1, none⟩)) ?_
  refine ss 1 (.int .i64 z) bx2 fun V5 m5 bx2 => ?_
  replace HB := Xhb HB m5; replace bx0 := Xbb bx0 m5; replace bx1 := Xbb bx1 m5; clear m5
  refine nt (hK _ _ ?_); clear hK K; refine sk fun K hK => rl ?_
  refine sv (.pointer (some ⟨b0, 2, none⟩)) ?_
  refine sl 2 bx0 ?_
  refine sv (.pointer (some ⟨b2, 2, none⟩)) ?_
  refine ss 2 (.int .i64 bit) bx2 fun V6 m6 bx2 => ?_
  replace HB := Xhb HB m6; replace bx0 := Xbb bx0 m6; replace bx1 := Xbb bx1 m6; clear m6
  refine nt (hK _ _ ?_); clear hK K; refine sk fun K hK => rl ?_
  refine sv (.pointer (some ⟨b0, 3, none⟩)) ?_
  refine sl 3 bx0 ?_
  refine sv (.pointer (some ⟨b2, 3, none⟩)) ?_
  refine ss 3 (.string body) bx2 fun V7 m7 bx2 => ?_
  replace HB := Xhb HB m7; replace bx1 := Xbb bx1 m7; clear m7
  refine nt (hK _ _ ?_); clear hK K; refine sk fun K hK => rl ?_
  refine sg (.agg #[.int .i64 k, .int .i64 z, .int .i64 bit, .string body]) (h := by have z0 := cell_box 0 (bx2.out) rfl; have z1 := cell_box 1 (bx2.out) rfl; have z2 := cell_box 2 (bx2.out) rfl; have z3 := cell_box 3 (bx2.out) rfl; go_simp) ?_
  refine sw_skipI (w' := ((((V7).setCell ⟨b1, 0, none⟩ (.int .i64 k)).setCell ⟨b1, 1, none⟩ (.int .i64 z)).setCell ⟨b1, 2, none⟩ (.int .i64 bit)).setCell ⟨b1, 3, none⟩ (.string body)) (fun V => Mv (fun g => g = b1) V7 V ∧ V.heap[b1]? = some (.cells #[.int .i64 k, .int .i64 z, .int .i64 bit, .string body] 39 (0, 0))) (by rfl) (by have fr := fun i => frozen_of_row _ _ i _ _ bx1.out; have z0 := cell_box 0 bx1.out rfl; have z1 := cell_box 1 bx1.out rfl; have z2 := cell_box 2 bx1.out rfl; have z3 := cell_box 3 bx1.out rfl; go_simp) ⟨Mv.set (Mv.set (Mv.set (Mv.set (Mv.refl _ _) _ _) _ _) _ _) _ _, (heap_setCell_same _ _ 3 _ _ _ (heap_setCell_same _ _ 2 _ _ _ (heap_setCell_same _ _ 1 _ _ _ (heap_setCell_same _ _ 0 _ _ _ (bx1.out))))).trans rfl⟩ ?_
  rintro V8 ⟨m8, nxV8⟩
  refine pt ?_
  replace HB := Xhb HB m8
  replace bx1 := hide nxV8
  clear nxV8 m8
  refine nt (hK _ _ ?_); clear hK K; refine wp_ret ?_
  try simp only [Exit.then, Exit.inBlock, ↓reduceIte, Nat.reduceEqDiff]
  have q1_0 := cell_box 0 bx1.out rfl
  have q1_1 := cell_box 1 bx1.out rfl
  have q1_2 := cell_box 2 bx1.out rfl
  have q1_3 := cell_box 3 bx1.out rfl
  exact bodyPost_ret (v := .agg #[.int .i64 k, .int .i64 z, .int .i64 bit, .string body]) (by simp [results, Try.results14, go_sem, q1_0, q1_1, q1_2, q1_3]) rfl ⟨rfl, HB.out.below⟩

theorem zeL_sm : Lsm 1048576 zeL := ⟨⟨by decide, fun j hj => absurd hj (Nat.not_lt_zero j)⟩, ⟨by decide, fun j hj => absurd hj (Nat.not_lt_zero j)⟩, ⟨by decide, fun j hj => absurd hj (Nat.not_lt_zero j)⟩, ⟨by decide, fun j hj => absurd hj (Nat.not_lt_zero j)⟩⟩
theorem Lsm.four {p : Lk} (h : Lsm 1048576 p) : p.nw ≤ 1048576 ∧ p.ng ≤ 1048576 ∧ p.nd ≤ 1048576 ∧ p.nu ≤ 1048576 := ⟨h.1.1, h.2.1.1, h.2.2.1.1, h.2.2.2.1⟩
theorem Lo.hi {w : World} {base gw gg gd gu : Nat} {p : Lk} (h : Lo w base gw gg gd gu p) : gw < w.heap.size ∧ gg < w.heap.size ∧ gd < w.heap.size ∧ gu < w.heap.size := by
  have q : ∀ {g n m : Nat} {T : TypeId} {f : Nat → Nat → Value}, Cr w g T m n n f → g < w.heap.size := fun h => by
    obtain ⟨cur, q1, _⟩ := h
    exact lt_of_block q1
  exact ⟨q h.wa, q h.go, q h.dn, q h.up⟩

end Go.Proofs.Ytnkocikbapbbmaa

/- SwE's and others' plain part, without the reader. No seat's function is named. -/
namespace Go.Proofs.Ytnkocikbapbbmaa
open Go.RowKit
set_option linter.unusedVariables false

theorem Xqn {w w' : World} {base : Nat} {wv gv dv uv : Value} {p : Lk} (h : Hid (Lr w base wv gv dv uv p)) (m : Mv nob w w') : Hid (Lr w' base wv gv dv uv p) := hide (h.out.mv m (fun _ _ h => h))
theorem Xqb {B : Nat} {w w' : World} {base : Nat} {wv gv dv uv : Value} {p : Lk} (h : Hid (Lr w base wv gv dv uv p)) (m : Mv (fun x => x = B) w w') (n : ∀ x, Lrb wv gv dv uv x → x ≠ B) : Hid (Lr w' base wv gv dv uv p) := hide (h.out.mv m (fun x hx e => n x hx e))
section
variable {P : Program} {ops : Array Oper} {Q : Exit → Act → World → Prop} {a a' : Act} {w : World} {rest : List Oper} {o : Oper} {b : Nat} {T : TypeId}
/-- a store of four cells -/
theorem ss4 (x0 x1 x2 x3 : Value) {y0 y1 y2 y3 : Value} (hb : Hid (w.heap[b]? = some (.cells #[y0, y1, y2, y3] T (0, 0)))) (k : ∀ V : World, Mv (fun g => g = b) w V → Hid (V.heap[b]? = some (.cells #[x0, x1, x2, x3] T (0, 0))) → wpList P ops Q rest a' V) (hw : Region.wanted o (yielded ops a.tmps) = true := by rfl)
    (h : (∀ i, w.frozen? ⟨b, i, none⟩ = false) → w.cell? ⟨b, 0, none⟩ = some y0 → w.cell? ⟨b, 1, none⟩ = some y1 → w.cell? ⟨b, 2, none⟩ = some y2 → w.cell? ⟨b, 3, none⟩ = some y3 → (execOp a.eval o).run P w = .ok .skip ((((w.setCell ⟨b, 0, none⟩ x0).setCell ⟨b, 1, none⟩ x1).setCell ⟨b, 2, none⟩ x2).setCell ⟨b, 3, none⟩ x3) := by intro fr z0 z1 z2 z3; go_simp)
    (hp : a.put o.dst undef = a' := by simp only [Act.put, List.getElem_toArray, List.getElem_cons_zero, List.getElem_cons_succ, List.setIfInBounds_toArray, List.set_cons_zero, List.set_cons_succ]; rfl) : wpList P ops Q (o :: rest) a w := by
  subst hp
  exact sw_skipW hw (h (fun i => frozen_of_row _ _ i _ _ hb.out) (cell_box 0 hb.out rfl) (cell_box 1 hb.out rfl) (cell_box 2 hb.out rfl) (cell_box 3 hb.out rfl)) (k _ (((((Mv.refl _ _).set _ _).set _ _).set _ _).set _ _) (hide (blk1 _ (blk1 _ (blk1 _ (blk1 _ hb.out))))))
end
end Go.Proofs.Ytnkocikbapbbmaa

/- a link calmed, plainly: all that comes, a round, rounds -/
namespace Go.Proofs.Ytnkocikbapbbmaa
open Go.RowKit
set_option linter.unusedVariables false
set_option linter.unusedSimpArgs false

theorem ldL_ok {p : Lk} {k z bit : Int} {body : ByteArray} (h : ldC p k z bit body = 0) : ldL p k z bit body = actL p k z bit body := by unfold ldL; rw [if_pos h]
theorem ldL_no {p : Lk} {k z bit : Int} {body : ByteArray} (h : ldC p k z bit body ≠ 0) : ldL p k z bit body = p := by unfold ldL; rw [if_neg h]
theorem ld_lf {p : Lk} (hf : Lf p) (k z bit : Int) (body : ByteArray) : Lf (ldL p k z bit body) := by
  by_cases h : ldC p k z bit body = 0
  · rw [ldL_ok h]
    unfold ldC at h
    split at h
    · split at h
      · split at h
        · rename_i hl
          exact lk_iff.1 hl
        · exact absurd h (by decide)
      · rename_i h0
        exact absurd h h0
    · exact absurd h (by decide)
  · rw [ldL_no h]; exact hf
end Go.Proofs.Ytnkocikbapbbmaa
