/- strings.Split; words in memory; impl.readActWords -/
import Derived.Test.YtokekgfompbdiaaDoorRlM
import Derived.Test.YtokekgfompbdiaaDoorNumB
import Derived.Test.YtokekgfompbdiaaDoorShelfS
import Derived.Lib.SplitLaws
namespace Go.Proofs.YtokekgfompbdiaaDoor
open Go.RowKit
set_option linter.unusedVariables false
set_option linter.unusedSimpArgs false

/-- MaxLen's cell -/
def Mx (w : World) : Prop := ∃ m, w.cell? ⟨0, 0, none⟩ = some (.int .i64 m)
theorem Mx.below {w w' : World} (h : Mx w) (hb : Below w.heap.size w w') : Mx w' := by
  obtain ⟨m, h⟩ := h
  exact ⟨m, keepc hb h⟩

/-- the words in memory -/
def Wd (w : World) (v : Value) (ws : List By) : Prop :=
  ∃ (ad : Option Addr) (cap : Nat), v = .slice ad ws.length cap ∧ ws.length ≤ cap ∧
    (0 < ws.length → ∃ b off, ad = some ⟨b, off, none⟩ ∧ ∀ j, j < ws.length → w.cell? ⟨b, off + j, none⟩ = some (.string (bstr (ws.getD j [])))) ∧ ∀ x ∈ ws, x.length ≤ 1048576
theorem Wd.below {w w' : World} {v : Value} {ws : List By} (h : Wd w v ws) (hb : Below w.heap.size w w') : Wd w' v ws := by
  obtain ⟨ad, cap, rfl, h1, hc, hx⟩ := h
  refine ⟨ad, cap, rfl, h1, fun h0 => ?_, hx⟩
  obtain ⟨b, off, rfl, hd⟩ := hc h0
  exact ⟨b, off, rfl, fun j hj => keepc hb (hd j hj)⟩
theorem OwS.wd {w : World} {base : Nat} {v : Value} {ws : List By} (h : OwS w base v ws) (hx : ∀ x ∈ ws, x.length ≤ 1048576) : Wd w v ws := by
  rcases h.2 with ⟨h', hn⟩ | ⟨g, cap, cur, h', hb, hg, hnc, hcm, hcs, htake⟩
  · exact ⟨none, 0, by rw [hn]; exact h', by omega, fun hp => by omega, hx⟩
  · have hh : w.ownsRow base 9 1 (.slice (some ⟨g, 0, none⟩) ws.length cap) ws.length (ws.map fun x => Value.string (bstr x)) := h' ▸ h
    refine ⟨_, cap, h', hnc, fun _ => ⟨g, 0, rfl, fun j hj => ?_⟩, hx⟩
    rw [Nat.zero_add, hh.cellAt j (by omega)]
    simp [hj]

theorem join_piece (sep : By) : ∀ (xs : List By) (x : By), x ∈ xs → x.length ≤ (Lib.join xs sep).length
  | [], x, h => by simp at h
  | [y], x, h => by
    have e : Lib.join [y] sep = y := by simp [Lib.join, List.intercalate, List.intersperse]
    simp at h
    rw [e, h]; exact Nat.le_refl _
  | y :: z :: r, x, h => by
    have e : Lib.join (y :: z :: r) sep = y ++ (sep ++ Lib.join (z :: r) sep) := by simp [Lib.join, List.intercalate, List.intersperse]
    rw [e]
    simp only [List.length_append]
    rcases List.mem_cons.1 h with rfl | h
    · omega
    · have := join_piece sep (z :: r) x h
      omega
theorem sK_piece (sep s x : By) (h : x ∈ sK sep s) : x.length ≤ s.length := by
  have := join_piece sep _ x h
  rwa [sK_join] at this
theorem join_count (sep : By) (h1 : 1 ≤ sep.length) : ∀ (xs : List By), xs.length ≤ (Lib.join xs sep).length + 1
  | [] => by simp
  | [y] => by simp
  | y :: z :: r => by
    have e : Lib.join (y :: z :: r) sep = y ++ (sep ++ Lib.join (z :: r) sep) := by simp [Lib.join, List.intercalate, List.intersperse]
    rw [e]
    have := join_count sep h1 (z :: r)
    simp only [List.length_append, List.length_cons] at this ⊢
    omega
theorem sK_count (sep s : By) (h1 : 1 ≤ sep.length) : (sK sep s).length ≤ s.length + 1 := by
  have := join_count sep h1 (sK sep s)
  rwa [sK_join] at this
theorem bstr_data (b : ByteArray) : bstr b.data.toList = b := by simp [bstr]

theorem split_any (s sep : By) (w : World) (hm : Mx w) (hs : s.length ≤ 1048576) (h1 : 1 ≤ sep.length) :
    Calls Tryd.prog 16 #[.string (bstr s), .string (bstr sep)] w fun e w' => ∃ g, e = .returned (.slice (some ⟨g, 0, none⟩) (sK sep s).length (sK sep s).length) ∧ Wd w' (.slice (some ⟨g, 0, none⟩) (sK sep s).length (sK sep s).length) (sK sep s) ∧ Below w.heap.size w w' := by
  obtain ⟨m, hm⟩ := hm
  have hb1 : 1 ≤ (bstr sep).size := by rw [bstr_size]; exact h1
  have hd : (Lib.splitB (bstr sep) 0 (Lib.countB (bstr s) (bstr sep)) (bstr s)).map (·.data.toList) = sK sep s := by
    rw [Lib.splitB_data, bstr_list, bstr_list]
    unfold sK
    congr 1
  have hn : Lib.countB (bstr s) (bstr sep) + 1 = (sK sep s).length := by
    rw [← hd, List.length_map, Lib.splitB_all _ hb1 _ _ _ rfl]
  refine (Tryd.strings_Split (bstr s) (bstr sep) m w (by rw [bstr_size]; omega) hm hb1).mono ?_
  rintro e w' ⟨rfl, rfl⟩
  rw [hn]
  refine ⟨w.heap.size, rfl, ⟨_, _, rfl, Nat.le_refl _, fun _ => ⟨_, 0, rfl, fun j hj => ?_⟩, fun x hx => by have := sK_piece sep s x hx; omega⟩, (Below.refl _ _).alloc (Nat.le_refl _) _⟩
  rw [cell_of_row _ _ _ _ _ _ (heap_alloc_new _ _), Nat.zero_add]
  rw [← hd] at hj ⊢
  rw [List.length_map] at hj
  simp [List.getElem?_eq_getElem hj, bstr_data]

theorem str_eq {x y : By} (h : x = y) : ((bstr x).toList == y) = true := by rw [ByteArray.toList_eq, bstr_list, h]; simp
theorem str_ne {x y : By} (h : x ≠ y) : ((bstr x).toList == y) = false := by rw [ByteArray.toList_eq, bstr_list, beq_eq_false_iff_ne]; exact h

/-- what readActWords answers -/
def RaPost (ws : List By) (w : World) (e : Ending) (w' : World) : Prop := ∃ k co va vl rg : Int, e = .returned (.tuple #[.agg (five k co va vl rg), .bool (rdW ws).isSome]) ∧ (∀ b, rdW ws = some b → b = ⟨k, co, va, vl, rg⟩) ∧ Below w.heap.size w w'
theorem ra_no {ws : List By} {w w' : World} {k co va vl rg : Int} (h : rdW ws = none) (hb : Below w.heap.size w w') : RaPost ws w (.returned (.tuple #[.agg (five k co va vl rg), .bool false])) w' := ⟨k, co, va, vl, rg, by rw [h]; rfl, fun b hb => (by rw [h] at hb; cases hb), hb⟩
theorem ra_yes {ws : List By} {w w' : World} {k co va vl rg : Int} (h : rdW ws = some ⟨k, co, va, vl, rg⟩) (hb : Below w.heap.size w w') : RaPost ws w (.returned (.tuple #[.agg (five k co va vl rg), .bool true])) w' := ⟨k, co, va, vl, rg, by rw [h]; rfl, fun b hb => (by rw [h] at hb; exact (Option.some.inj hb).symm), hb⟩
theorem ra_if {ws : List By} {w w' : World} {k co va vl rg : Int} {t : Bool} (h : rdW ws = if t = true then some ⟨k, co, va, vl, rg⟩ else none) (hb : Below w.heap.size w w') : RaPost ws w (.returned (.tuple #[.agg (five k co va vl rg), .bool t])) w' := by
  cases t with
  | true => exact ra_yes (by simpa using h) hb
  | false => exact ra_no (by simpa using h) hb

set_option maxHeartbeats 1000000 in
theorem readAct_few (n cap : Nat) (ad : Option Addr) (w : World) (h1 : n ≠ 1) (h3 : n ≠ 3) : Calls Tryd.prog 35 #[.slice ad n cap] w fun e w' => e = .returned (.tuple #[.agg (five 0 0 0 0 0), .bool false]) ∧ Below w.heap.size w w' := by
  have hB : Below w.heap.size w (w.alloc (.cells (five 0 0 0 0 0) 42)) := (Below.refl _ _).alloc (Nat.le_refl _) _
  have e1 : ((n : Int) == 1) = false := by rw [beq_eq_false_iff_ne]; omega
  have e3 : ((n : Int) == 3) = false := by rw [beq_eq_false_iff_ne]; omega
  have e4 : ((n : Int) != 3) = true := by simp; omega
  go_enter Tryd.func35, Tryd.ntmps35
  go_wp2
  refine bodyPost_ret (v := .tuple #[.agg (five 0 0 0 0 0), .bool false]) (by simp [results, Tryd.results35, go_sem, Act.put]) rfl ⟨rfl, ?_⟩
  repeat' (first | exact Below.refl _ _ | refine Below.setCell ?_ (by simp <;> omega) _ | refine Below.alloc ?_ (by simp <;> omega) _ | refine Below.drew ?_)

set_option maxHeartbeats 2000000 in
theorem readAct_one (b off cap : Nat) (x : By) (w : World) (hc : w.cell? ⟨b, off, none⟩ = some (.string (bstr x))) : Calls Tryd.prog 35 #[.slice (some ⟨b, off, none⟩) 1 cap] w (RaPost [x] w) := by
  have d0 : ∀ o, (w.alloc o).cell? ⟨b, off, none⟩ = some (.string (bstr x)) := fun o => keepc ((Below.refl _ _).alloc (Nat.le_refl _) _) hc
  have HR : Hid (rdW [x] = if ((bstr x).toList == [102, 101, 110, 99, 101]) = true then some ⟨3, 0, 0, 0, 0⟩ else none) := hide (by
    rw [ByteArray.toList_eq, bstr_list]; simp [rdW])
  generalize bstr x = bx at d0 HR hc
  clear hc
  go_enter Tryd.func35, Tryd.ntmps35
  go_wp2
  go_region
  all_goals go_wp2
  all_goals refine bodyPost_ret (v := .tuple #[.agg (five 3 0 0 0 0), .bool (bx.toList == [102, 101, 110, 99, 101])]) (by simp [results, Tryd.results35, go_sem, Act.put]) rfl (ra_if HR.out ?_)
  all_goals repeat' (first | exact Below.refl _ _ | refine Below.setCell ?_ (by simp <;> omega) _ | refine Below.alloc ?_ (by simp <;> omega) _ | refine Below.drew ?_)

set_option maxRecDepth 20000 in
set_option maxHeartbeats 4000000 in
theorem readAct_three (b off cap : Nat) (x y z : By) (w : World) (h0 : w.cell? ⟨b, off, none⟩ = some (.string (bstr x))) (h1 : w.cell? ⟨b, off + 1, none⟩ = some (.string (bstr y))) (h2 : w.cell? ⟨b, off + 2, none⟩ = some (.string (bstr z))) (hy : y.length ≤ 1048576) (hz : z.length ≤ 1048576) :
    Calls Tryd.prog 35 #[.slice (some ⟨b, off, none⟩) 3 cap] w (RaPost [x, y, z] w) := by
  have hA : ∀ o, Below w.heap.size w (w.alloc o) := fun o => (Below.refl _ _).alloc (Nat.le_refl _) _
  have c0 : ∀ o, (w.alloc o).cell? ⟨b, off, none⟩ = some (.string (bstr x)) := fun o => keepc (hA o) h0
  have c1 : ∀ o, (w.alloc o).cell? ⟨b, off + 1, none⟩ = some (.string (bstr y)) := fun o => keepc (hA o) h1
  have c2 : ∀ o, (w.alloc o).cell? ⟨b, off + 2, none⟩ = some (.string (bstr z)) := fun o => keepc (hA o) h2
  have hyz := fun W => readDecimal_any (bstr y) W (by rw [bstr_size]; exact hy)
  have hzz := fun W => readDecimal_any (bstr z) W (by rw [bstr_size]; exact hz)
  simp only [bstr_list] at hyz hzz
  have HR : Hid (rdW [x, y, z] = if (rdB y && rdB z) = true then (if x = [115, 116] then some ⟨1, 0, rdV y, rdV z, 0⟩ else if x = [108, 100] then some ⟨2, 0, rdV y, 0, rdV z⟩ else none) else none) := hide (by
    cases q1 : Rdm.rd y <;> cases q2 : Rdm.rd z <;> simp [rdW, rdB, rdV, q1, q2])
  generalize rdV y = vy at hyz HR
  generalize rdB y = ty at hyz HR
  generalize rdV z = vz at hzz HR
  generalize rdB z = tz at hzz HR
  have HY := hide hyz
  have HZ := hide hzz
  generalize bstr y = sy at c1 HY
  generalize bstr z = sz at c2 HZ
  clear h0 h1 h2 hyz hzz hy hz hA
  by_cases es : x = [115, 116]
  · have he := str_eq es
    have HR2 : Hid (rdW [x, y, z] = if (ty && tz) = true then some ⟨1, 0, vy, vz, 0⟩ else none) := hide (by rw [HR.out, if_pos es])
    generalize bstr x = bx at c0 he
    clear es HR
    go_enter Tryd.func35, Tryd.ntmps35
    go_wp2_with fail
    refine (HY.out _).mono ?_
    rintro e w1 ⟨rfl, rfl⟩
    go_wp2_with fail
    refine (HZ.out _).mono ?_
    rintro e w1 ⟨rfl, rfl⟩
    cases ty
    all_goals cases tz
    all_goals go_wp2
    all_goals first
      | refine bodyPost_ret (v := .tuple #[.agg (five 1 0 vy vz 0), .bool true]) (by simp [results, Tryd.results35, go_sem, Act.put]) rfl (ra_yes HR2.out ?_)
      | refine bodyPost_ret (v := .tuple #[.agg (five 1 0 vy vz 0), .bool false]) (by simp [results, Tryd.results35, go_sem, Act.put]) rfl (ra_no HR2.out ?_)
    all_goals repeat' (first | exact Below.refl _ _ | refine Below.setCell ?_ (by simp <;> omega) _ | refine Below.alloc ?_ (by simp <;> omega) _ | refine Below.drew ?_)
  have he := str_ne es
  by_cases el : x = [108, 100]
  · have he2 := str_eq el
    have HR2 : Hid (rdW [x, y, z] = if (ty && tz) = true then some ⟨2, 0, vy, 0, vz⟩ else none) := hide (by rw [HR.out, if_neg es, if_pos el])
    generalize bstr x = bx at c0 he he2
    clear es el HR
    go_enter Tryd.func35, Tryd.ntmps35
    go_wp2_with fail
    refine (HY.out _).mono ?_
    rintro e w1 ⟨rfl, rfl⟩
    go_wp2_with fail
    refine (HZ.out _).mono ?_
    rintro e w1 ⟨rfl, rfl⟩
    cases ty
    all_goals cases tz
    all_goals go_wp2
    all_goals first
      | refine bodyPost_ret (v := .tuple #[.agg (five 2 0 vy 0 vz), .bool true]) (by simp [results, Tryd.results35, go_sem, Act.put]) rfl (ra_yes HR2.out ?_)
      | refine bodyPost_ret (v := .tuple #[.agg (five 2 0 vy 0 vz), .bool false]) (by simp [results, Tryd.results35, go_sem, Act.put]) rfl (ra_no HR2.out ?_)
    all_goals repeat' (first | exact Below.refl _ _ | refine Below.setCell ?_ (by simp <;> omega) _ | refine Below.alloc ?_ (by simp <;> omega) _ | refine Below.drew ?_)
  have he2 := str_ne el
  have HR2 : Hid (rdW [x, y, z] = none) := hide (by rw [HR.out, if_neg es, if_neg el]; split <;> rfl)
  generalize bstr x = bx at c0 he he2
  clear es el HR
  go_enter Tryd.func35, Tryd.ntmps35
  go_wp2_with fail
  refine (HY.out _).mono ?_
  rintro e w1 ⟨rfl, rfl⟩
  go_wp2_with fail
  refine (HZ.out _).mono ?_
  rintro e w1 ⟨rfl, rfl⟩
  go_wp2
  refine bodyPost_ret (v := .tuple #[.agg (five 0 0 0 0 0), .bool false]) (by simp [results, Tryd.results35, go_sem, Act.put]) rfl (ra_no HR2.out ?_)
  all_goals repeat' (first | exact Below.refl _ _ | refine Below.setCell ?_ (by simp <;> omega) _ | refine Below.alloc ?_ (by simp <;> omega) _ | refine Below.drew ?_)

theorem readAct_any (v : Value) (ws : List By) (w : World) (h : Wd w v ws) : Calls Tryd.prog 35 #[v] w (RaPost ws w) := by
  obtain ⟨ad, cap, rfl, hcap, hc, hx⟩ := h
  match ws, hc, hx with
  | [], hc, hx =>
    refine (readAct_few 0 cap ad w (by decide) (by decide)).mono ?_
    rintro e w' ⟨rfl, hb⟩
    exact ra_no rfl hb
  | [x], hc, hx =>
    obtain ⟨b, off, rfl, hd⟩ := hc (by simp)
    exact readAct_one b off cap x w (hd 0 (by simp))
  | [x, y], hc, hx =>
    refine (readAct_few 2 cap ad w (by decide) (by decide)).mono ?_
    rintro e w' ⟨rfl, hb⟩
    exact ra_no rfl hb
  | [x, y, z], hc, hx =>
    obtain ⟨b, off, rfl, hd⟩ := hc (by simp)
    exact readAct_three b off cap x y z w (hd 0 (by simp)) (hd 1 (by simp)) (hd 2 (by simp)) (hx y (by simp)) (hx z (by simp))
  | x :: y :: z :: u :: r, hc, hx =>
    refine (readAct_few _ cap ad w (by simp) (by simp)).mono ?_
    rintro e w' ⟨rfl, hb⟩
    exact ra_no rfl hb

end Go.Proofs.YtokekgfompbdiaaDoor
