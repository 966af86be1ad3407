/- spec.l11Read -/
import Derived.Test.YtokekgfompbdiaaDoorRlE
namespace Go.Proofs.YtokekgfompbdiaaDoor
open Go.RowKit
set_option linter.unusedVariables false
set_option linter.unusedSimpArgs false

/-- what l11Read answers -/
def SaPost (i : Int) (s : By) (w : World) (e : Ending) (w' : World) : Prop := ∃ k co va vl rg : Int, e = .returned (.tuple #[.agg (five k co va vl rg), .bool (srA i s).isSome]) ∧ (∀ b, srA i s = some b → b = ⟨k, co, va, vl, rg⟩) ∧ Below w.heap.size w w'
theorem sa_no {i : Int} {s : By} {w w' : World} {k co va vl rg : Int} (h : srA i s = none) (hb : Below w.heap.size w w') : SaPost i s w (.returned (.tuple #[.agg (five k co va vl rg), .bool false])) w' := ⟨k, co, va, vl, rg, by rw [h]; rfl, fun b hb => (by rw [h] at hb; cases hb), hb⟩
theorem sa_yes {i : Int} {s : By} {w w' : World} {k co va vl rg : Int} (h : srA i s = some ⟨k, co, va, vl, rg⟩) (hb : Below w.heap.size w w') : SaPost i s w (.returned (.tuple #[.agg (five k co va vl rg), .bool true])) w' := ⟨k, co, va, vl, rg, by rw [h]; rfl, fun b hb => (by rw [h] at hb; exact (Option.some.inj hb).symm), hb⟩
theorem nz_len (s : By) : (∀ x ∈ Rdm.nz (Rdm.sp s), x.length ≤ s.length) := by
  intro x hx
  have h1 : x ∈ Rdm.sp s := (List.mem_filter.1 hx).1
  have h2 := join_piece [32] _ x h1
  rw [sp_eq, jn32, Spg.jn_sp] at h2
  exact h2

theorem box5t {w w' : World} (h : w'.heap[w.heap.size]? = some (.cells (five 0 0 0 0 0) 42 (0, 0))) : (∀ i, w'.frozen? ⟨w.heap.size, i, none⟩ = false) ∧ w'.cell? ⟨w.heap.size, 0, none⟩ = some (.int .i64 0) ∧ w'.cell? ⟨w.heap.size, 1, none⟩ = some (.int .i64 0) ∧ w'.cell? ⟨w.heap.size, 2, none⟩ = some (.int .i64 0) ∧ w'.cell? ⟨w.heap.size, 3, none⟩ = some (.int .i64 0) ∧ w'.cell? ⟨w.heap.size, 4, none⟩ = some (.int .i64 0) :=
  ⟨fun i => frozen_of_row _ _ i _ _ h, (cell_of_row _ _ 0 _ _ _ h).trans rfl, (cell_of_row _ _ 1 _ _ _ h).trans rfl, (cell_of_row _ _ 2 _ _ _ h).trans rfl, (cell_of_row _ _ 3 _ _ _ h).trans rfl, (cell_of_row _ _ 4 _ _ _ h).trans rfl⟩

set_option maxRecDepth 20000 in
set_option maxHeartbeats 4000000 in
theorem l11Read_any (s : By) (i : Int) (w : World) (hs : s.length ≤ 1048576) : Calls Tryd.prog 28 #[.string (bstr s), .int .i64 i] w (SaPost i s w) := by
  have HS := hide (fun W => l2Split_any (bstr s) W (by rw [bstr_size]; exact hs))
  have hA : Below w.heap.size w (w.alloc (.cells (five 0 0 0 0 0) 42)) := (Below.refl _ _).alloc (Nat.le_refl _) _
  have kA := heap_alloc_new w (.cells (five 0 0 0 0 0) 42)
  have hzA : (w.alloc (.cells (five 0 0 0 0 0) 42)).heap.size = w.heap.size + 1 := by simp
  have HP : Hid (srA i s = srW i (Rdm.nz (Rdm.sp s))) := hide rfl
  have HNL := hide (nz_len s)
  go_enter Tryd.func28, Tryd.ntmps28
  go_wp2_with fail
  refine (HS.out _).mono ?_
  rintro e w1 ⟨v, rfl, how, hb1⟩
  rw [bstr_list] at how
  have hwd := how.wd (fun x hx => by have := HNL.out x hx; omega)
  generalize Rdm.nz (Rdm.sp s) = ws at how hwd HP
  have k1 := (hb1.block w.heap.size (by simp)).trans kA
  have HB1 : Hid (∀ o, Below w.heap.size w (w1.alloc o)) := hide (fun o => by
    have h := hA.trans (hb1.mono hA.size)
    exact h.alloc h.size o)
  have HB2 : Hid (∀ o x0 x1 x2 x3 x4, Below w.heap.size w ((((((w1.alloc o).setCell ⟨w.heap.size, 0, none⟩ x0).setCell ⟨w.heap.size, 1, none⟩ x1).setCell ⟨w.heap.size, 2, none⟩ x2).setCell ⟨w.heap.size, 3, none⟩ x3).setCell ⟨w.heap.size, 4, none⟩ x4)) := hide (fun o x0 x1 x2 x3 x4 => (((((HB1.out o).setCell (Nat.le_refl _) _).setCell (Nat.le_refl _) _).setCell (Nat.le_refl _) _).setCell (Nat.le_refl _) _).setCell (Nat.le_refl _) _)
  have hL : ∀ o, Below w1.heap.size w1 (w1.alloc o) := fun o => (Below.refl _ _).alloc (Nat.le_refl _) _
  have hlt1 : w.heap.size < w1.heap.size := lt_of_block k1
  have y := fun o => box5t ((((hL o).block w.heap.size hlt1).trans k1))
  have yf : ∀ o i, (w1.alloc o).frozen? ⟨w.heap.size, i, none⟩ = false := fun o => (y o).1
  have y0 : ∀ o, (w1.alloc o).cell? ⟨w.heap.size, 0, none⟩ = some (.int .i64 0) := fun o => (y o).2.1
  have y1 : ∀ o, (w1.alloc o).cell? ⟨w.heap.size, 1, none⟩ = some (.int .i64 0) := fun o => (y o).2.2.1
  have y2 : ∀ o, (w1.alloc o).cell? ⟨w.heap.size, 2, none⟩ = some (.int .i64 0) := fun o => (y o).2.2.2.1
  have y3 : ∀ o, (w1.alloc o).cell? ⟨w.heap.size, 3, none⟩ = some (.int .i64 0) := fun o => (y o).2.2.2.2.1
  have y4 : ∀ o, (w1.alloc o).cell? ⟨w.heap.size, 4, none⟩ = some (.int .i64 0) := fun o => (y o).2.2.2.2.2
  have HWD : Hid (∀ o, Wd (w1.alloc o) v ws) := hide (fun o => hwd.below (hL o))
  obtain ⟨ad, cap, rfl, hcap, hc, hx⟩ := hwd
  have HX := hide hx
  clear how hb1 k1 kA hzA hA HS hx y HNL hlt1
  by_cases h3 : ws.length = 3
  · obtain ⟨b, off, rfl, hd⟩ := hc (by omega)
    have c0 : ∀ o, (w1.alloc o).cell? ⟨b, off, none⟩ = some (.string (bstr (ws.getD 0 []))) := fun o => keepc (hL o) (by have := hd 0 (by omega); rwa [Nat.add_zero] at this)
    have HM := hide (fun o j (hj : j < ws.length) => l2NumA_any (w1.alloc o) _ ws (HWD.out o) j hj)
    simp only [h3] at HM ⊢
    have HM1 := hide (fun o => HM.out o 1 (by omega))
    have HM2 := hide (fun o => HM.out o 2 (by omega))
    clear HM hc hd HWD hL hcap
    by_cases es : ws.getD 0 [] = [115, 116]
    · have HR : Hid (srA i s = some ⟨1, i, numA ws 1, numA ws 2, 0⟩) := hide (by rw [HP.out, srW, if_pos ⟨h3, es⟩])
      have he := str_eq es
      generalize bstr (ws.getD 0 []) = bx at c0 he
      generalize numA ws 1 = n1 at HM1 HR
      generalize numA ws 2 = n2 at HM2 HR
      clear es h3 HP
      go_wp2_with fail
      refine (HM1.out _).mono ?_
      rintro e w2 ⟨rfl, rfl⟩
      go_wp2_with fail
      refine (HM2.out _).mono ?_
      rintro e w2 ⟨rfl, rfl⟩
      go_wp2
      refine bodyPost_ret (v := .tuple #[.agg (five 1 i n1 n2 0), .bool true]) (by simp [results, Tryd.results28, go_sem, Act.put, y0, y1, y2, y3, y4]) rfl (sa_yes HR.out (HB2.out _ _ _ _ _ _))
    have he := str_ne es
    by_cases el : ws.getD 0 [] = [108, 100]
    · have HR : Hid (srA i s = some ⟨2, i, numA ws 1, 0, numA ws 2⟩) := hide (by rw [HP.out, srW, if_neg (fun h => es h.2), if_pos ⟨h3, el⟩])
      have he2 := str_eq el
      generalize bstr (ws.getD 0 []) = bx at c0 he he2
      generalize numA ws 1 = n1 at HM1 HR
      generalize numA ws 2 = n2 at HM2 HR
      clear es el h3 HP
      go_wp2_with fail
      refine (HM1.out _).mono ?_
      rintro e w2 ⟨rfl, rfl⟩
      go_wp2_with fail
      refine (HM2.out _).mono ?_
      rintro e w2 ⟨rfl, rfl⟩
      go_wp2
      refine bodyPost_ret (v := .tuple #[.agg (five 2 i n1 0 n2), .bool true]) (by simp [results, Tryd.results28, go_sem, Act.put, y0, y1, y2, y3, y4]) rfl (sa_yes HR.out (HB2.out _ _ _ _ _ _))
    have he2 := str_ne el
    have HR : Hid (srA i s = none) := hide (by rw [HP.out, srW, if_neg (fun h => es h.2), if_neg (fun h => el h.2), if_neg (fun h => by omega)])
    generalize bstr (ws.getD 0 []) = bx at c0 he he2
    clear es el h3 HP HM1 HM2
    go_wp2
    refine bodyPost_ret (v := .tuple #[.agg (five 0 i 0 0 0), .bool false]) (by simp [results, Tryd.results28, go_sem, Act.put, y0, y1, y2, y3, y4]) rfl (sa_no HR.out (HB2.out _ _ _ _ _ _))
  by_cases h1 : ws.length = 1
  · obtain ⟨b, off, rfl, hd⟩ := hc (by omega)
    have c0 : ∀ o, (w1.alloc o).cell? ⟨b, off, none⟩ = some (.string (bstr (ws.getD 0 []))) := fun o => keepc (hL o) (by have := hd 0 (by omega); rwa [Nat.add_zero] at this)
    simp only [h1]
    clear hc hd HWD hL hcap
    by_cases ef : ws.getD 0 [] = [102, 101, 110, 99, 101]
    · have HR : Hid (srA i s = some ⟨3, i, 0, 0, 0⟩) := hide (by rw [HP.out, srW, if_neg (fun h => by omega), if_neg (fun h => by omega), if_pos ⟨h1, ef⟩])
      have he := str_eq ef
      generalize bstr (ws.getD 0 []) = bx at c0 he
      clear ef h1 h3 HP
      go_wp2
      refine bodyPost_ret (v := .tuple #[.agg (five 3 i 0 0 0), .bool true]) (by simp [results, Tryd.results28, go_sem, Act.put, y0, y1, y2, y3, y4]) rfl (sa_yes HR.out (HB2.out _ _ _ _ _ _))
    have he := str_ne ef
    have HR : Hid (srA i s = none) := hide (by rw [HP.out, srW, if_neg (fun h => by omega), if_neg (fun h => by omega), if_neg (fun h => ef h.2)])
    generalize bstr (ws.getD 0 []) = bx at c0 he
    clear ef h1 h3 HP
    go_wp2
    refine bodyPost_ret (v := .tuple #[.agg (five 0 i 0 0 0), .bool false]) (by simp [results, Tryd.results28, go_sem, Act.put, y0, y1, y2, y3, y4]) rfl (sa_no HR.out (HB2.out _ _ _ _ _ _))
  have HR : Hid (srA i s = none) := hide (by rw [HP.out, srW, if_neg (fun h => h3 h.1), if_neg (fun h => h3 h.1), if_neg (fun h => h1 h.1)])
  obtain ⟨n, hn⟩ : ∃ n, ws.length = n := ⟨_, rfl⟩
  rw [hn] at h1 h3 ⊢
  have e1 : ((n : Int) == 1) = false := by rw [beq_eq_false_iff_ne]; omega
  have e3 : ((n : Int) == 3) = false := by rw [beq_eq_false_iff_ne]; omega
  clear hn hc HWD hL hcap HP HX
  go_wp2
  refine bodyPost_ret (v := .tuple #[.agg (five 0 i 0 0 0), .bool false]) (by simp [results, Tryd.results28, go_sem, Act.put, y0, y1, y2, y3, y4]) rfl (sa_no HR.out (HB2.out _ _ _ _ _ _))

end Go.Proofs.YtokekgfompbdiaaDoor
