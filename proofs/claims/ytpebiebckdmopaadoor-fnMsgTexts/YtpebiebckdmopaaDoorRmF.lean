/- impl.ReadMsg: split, the reader, the recovered panic -/
import Derived.Test.YtpebiebckdmopaaDoorRmE
import Derived.Test.YtpebiebckdmopaaDoorShelfS
import Derived.Defers
import Derived.Recover
import Derived.Lib.SplitLaws
namespace Go.Proofs.YtpebiebckdmopaaDoor
open Go.RowKit
set_option linter.unusedSimpArgs false

theorem bstr_data (b : ByteArray) : bstr b.data.toList = b := by simp [bstr]

theorem onHead_len (c : UInt8) (k : Nat) : ∀ (ws : List (List UInt8)), (∀ x ∈ ws, x.length ≤ k) → ∀ x ∈ Rdm.onHead c ws, x.length ≤ k + 1
  | [], h => by intro x hx; simp [Rdm.onHead] at hx; subst hx; simp
  | y :: r, h => by
    intro x hx
    simp [Rdm.onHead] at hx
    rcases hx with rfl | hx
    · have := h y (by simp); simp; omega
    · have := h x (by simp [hx]); omega

theorem sp_len (l : List UInt8) : (∀ x ∈ Rdm.sp l, x.length ≤ l.length) ∧ (Rdm.sp l).length ≤ l.length + 1 := by
  induction l with
  | nil => simp [Rdm.sp]
  | cons c l ih =>
    by_cases h : c = 32
    · subst h
      rw [Rdm.sp_blank]
      refine ⟨fun x hx => ?_, by simp; exact ih.2⟩
      simp at hx
      rcases hx with rfl | hx
      · simp
      · have := ih.1 x hx; simp; omega
    · rw [Rdm.sp_other c l h]
      refine ⟨onHead_len c _ _ ih.1, ?_⟩
      cases hs : Rdm.sp l with
      | nil => exact absurd hs (Rdm.sp_ne l)
      | cons y r => rw [hs] at ih; simp [Rdm.onHead] at ih ⊢; omega

theorem split_words (s : ByteArray) : (Lib.splitB ⟨#[32]⟩ 0 (Lib.countB s ⟨#[32]⟩) s).map (·.data.toList) = Rdm.sp s.data.toList := by
  rw [Lib.splitB_data]
  exact Rdm.split_sp _

theorem count_words (s : ByteArray) : Lib.countB s ⟨#[32]⟩ + 1 = (Rdm.sp s.data.toList).length := by
  rw [← split_words, List.length_map, Lib.splitB_all _ (by decide) _ _ _ rfl]

theorem split_cell (s : ByteArray) (j : Nat) (h : j < (Rdm.sp s.data.toList).length) : ((Lib.splitB ⟨#[32]⟩ 0 (Lib.countB s ⟨#[32]⟩) s).map Value.string).toArray[j]? = some (.string (bstr ((Rdm.sp s.data.toList).getD j []))) := by
  have e := split_words s
  rw [← e] at h ⊢
  rw [List.length_map] at h
  simp [List.getElem?_eq_getElem h, bstr_data]

/-- the reader that ReadMsg makes -/
theorem rs_made (s : ByteArray) (w : World) (hs : s.size ≤ 1048576) :
    Rs ((w.alloc (.cells ((Lib.splitB ⟨#[32]⟩ 0 (Lib.countB s ⟨#[32]⟩) s).map Value.string).toArray 9)).alloc (.cells #[.slice (some ⟨w.heap.size, 0, none⟩) (Lib.countB s ⟨#[32]⟩ + 1) (Lib.countB s ⟨#[32]⟩ + 1)] 43)) (w.heap.size + 1) (Rdm.sp s.data.toList) := by
  have hl := sp_len s.data.toList
  rw [len_list] at hl
  refine ⟨some ⟨w.heap.size, 0, none⟩, (Rdm.sp s.data.toList).length, ?_, Nat.le_refl _, by omega, fun _ => ⟨w.heap.size, 0, rfl, by omega, fun j hj => ?_⟩, fun x hx => by have := hl.1 x hx; omega⟩
  · rw [← count_words]; exact heap_alloc2_new _ _ _
  · rw [cell_of_row _ _ _ _ _ _ (heap_alloc2_old _ _ _), Nat.zero_add]
    exact split_cell s j hj

theorem catch_panicking (R S : Nat) (x0 x1 x2 x3 x4 x5 : Int) (b : Bool) (u : TypeId) (pv : Value) (older : List PanicEntry) (w : World) (hR : w.heap[R]? = some (.cells #[.int .i64 x0, .int .i64 x1, .int .i64 x2, .int .i64 x3, .int .i64 x4, .int .i64 x5] 25 (0, 0))) (hS : w.heap[S]? = some (.cells #[.bool b] 4 (0, 0))) (hne : R ≠ S) :
    CallsD Tryd.prog 16 #[.pointer (some ⟨R, 0, none⟩), .pointer (some ⟨S, 0, none⟩)] (.panicking ({ v := .iface u pv, recovered := false } :: older)) w fun e u' w' =>
      e = .returned (.tuple #[]) ∧ u' = .panicking ({ v := .iface u pv, recovered := true } :: older) ∧ w' = (((((((w.setCell ⟨R, 0, none⟩ (.int .i64 0)).setCell ⟨R, 1, none⟩ (.int .i64 0)).setCell ⟨R, 2, none⟩ (.int .i64 0)).setCell ⟨R, 3, none⟩ (.int .i64 0)).setCell ⟨R, 4, none⟩ (.int .i64 0)).setCell ⟨R, 5, none⟩ (.int .i64 0)).setCell ⟨S, 0, none⟩ (.bool false)) := by
  have c0 : w.cell? ⟨R, 0, none⟩ = some (.int .i64 x0) := by rw [cell_of_row w R 0 _ _ _ hR]; rfl
  have c1 : w.cell? ⟨R, 1, none⟩ = some (.int .i64 x1) := by rw [cell_of_row w R 1 _ _ _ hR]; rfl
  have c2 : w.cell? ⟨R, 2, none⟩ = some (.int .i64 x2) := by rw [cell_of_row w R 2 _ _ _ hR]; rfl
  have c3 : w.cell? ⟨R, 3, none⟩ = some (.int .i64 x3) := by rw [cell_of_row w R 3 _ _ _ hR]; rfl
  have c4 : w.cell? ⟨R, 4, none⟩ = some (.int .i64 x4) := by rw [cell_of_row w R 4 _ _ _ hR]; rfl
  have c5 : w.cell? ⟨R, 5, none⟩ = some (.int .i64 x5) := by rw [cell_of_row w R 5 _ _ _ hR]; rfl
  have d0 : w.cell? ⟨S, 0, none⟩ = some (.bool b) := by rw [cell_of_row w S 0 _ _ _ hS]; rfl
  have f0 : ∀ i, w.frozen? ⟨R, i, none⟩ = false := fun i => frozen_of_row w R i _ _ hR
  have f1 : ∀ i, w.frozen? ⟨S, i, none⟩ = false := fun i => frozen_of_row w S i _ _ hS
  refine callsD_of_wpS Tryd.func16 rfl fun c₀ cs hu => ?_
  apply wpS_seq
  apply wpS_region
  simp [wpOpsS, go_sem, recoverD, hu, Tryd.ntmps16, Exit.thenS]
  refine wpS_cond (t := true) (by simp [Act.eval, Array.replicate]) ?_
  simp only [if_true]
  apply wpS_region
  simp [wpOpsS, go_sem, c0, c1, c2, c3, c4, c5, d0, f0, f1, hne, bodyPostS, results, Tryd.results16]

theorem catch_idle (p q : Addr) (w : World) :
    CallsD Tryd.prog 16 #[.pointer (some p), .pointer (some q)] .returning w fun e u' w' => e = .returned (.tuple #[]) ∧ u' = .returning ∧ w' = w := by
  refine callsD_of_wpS Tryd.func16 rfl fun c₀ cs hu => ?_
  apply wpS_seq
  apply wpS_region
  simp [wpOpsS, go_sem, recoverD, hu, Tryd.ntmps16, Exit.thenS]
  refine wpS_cond (t := false) (by simp [Act.eval, Array.replicate]) ?_
  simp only [Bool.false_eq_true, if_false]
  refine wpS_of_wp (wp_skip ?_)
  cases c₀
  simp_all [bodyPostS, results, Tryd.results16]

end Go.Proofs.YtpebiebckdmopaaDoor
