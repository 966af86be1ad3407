/- tests read from texts, plainly: what each side reads, and that both read the same -/
import Derived.Test.YtokekgfompbdiaaDoorLtB
import Derived.Test.YtokekgfompbdiaaDoorReadMath
import Derived.Test.YtokekgfompbdiaaDoorSpG
import Derived.Test.YtokekgfompbdiaaDoorSpJ
namespace Go.Proofs.YtokekgfompbdiaaDoor
open Go.RowKit
set_option linter.unusedVariables false
set_option linter.unusedSimpArgs false

/-- an act -/
structure Ac where
  k : Int
  co : Int
  va : Int
  vl : Int
  rg : Int
def zA : Ac := ⟨0, 0, 0, 0, 0⟩
def Ac.at (a : Ac) : Nat → Int
  | 0 => a.k
  | 1 => a.co
  | 2 => a.va
  | 3 => a.vl
  | _ => a.rg
abbrev By := List UInt8
def fF (xa : List Ac) (j i : Nat) : Int := (xa.getD j zA).at i
def Lf (ts : List (List Ac)) (c : Nat) : Nat := (ts.getD c []).length
def Ff (ts : List (List Ac)) (c : Nat) : Nat → Nat → Int := fF (ts.getD c [])
def actL (a : Ac) : By := actT a.k a.va a.vl a.rg
def thL (xa : List Ac) : By := Lib.join ([100, 111] :: xa.map actL) [44, 32]
def ltL (ts : List (List Ac)) : By := Lib.join (ts.map thL) [32, 124, 32]

theorem map_getD {α β : Type} (xa : List α) (z : α) (h : α → β) : (List.range xa.length).map (fun j => h (xa.getD j z)) = xa.map h := by
  apply List.ext_getElem?
  intro i
  by_cases hi : i < xa.length
  · simp [hi]
  · simp [hi]
theorem tr_fF (xa : List Ac) : tr (fF xa) xa.length = [100, 111] :: xa.map actL := by
  unfold tr
  rw [← map_getD xa zA actL]
  rfl
theorem thT_fF (xa : List Ac) : thT (fF xa) xa.length = thL xa := by rw [← join_tr, tr_fF]; rfl
theorem ltT_Ff (ts : List (List Ac)) : ltT (Lf ts) (Ff ts) ts.length = ltL ts := by
  rw [← join_lr]
  unfold lr ltL
  rw [← map_getD ts [] thL]
  congr 1
  apply List.map_congr_left
  intro c _
  exact thT_fF _

/-- what the words of an act say -/
def rdW (ws : List By) : Option Ac := match ws with
  | [x] => if x = [102, 101, 110, 99, 101] then some ⟨3, 0, 0, 0, 0⟩ else none
  | [x, y, z] => match Rdm.rd y, Rdm.rd z with
    | some v, some n => if x = [115, 116] then some ⟨1, 0, v, n, 0⟩ else if x = [108, 100] then some ⟨2, 0, v, 0, n⟩ else none
    | _, _ => none
  | _ => none
def Ac.on (a : Ac) (i : Int) : Ac := ⟨a.k, i, a.va, a.vl, a.rg⟩
def rdAs (i : Int) : List By → Option (List Ac)
  | [] => some []
  | x :: xs => match rdW (Spg.sp 32 x), rdAs i xs with
    | some a, some xa => some (a.on i :: xa)
    | _, _ => none
def sK (sep s : By) : List By := Lib.splitK sep 0 (Lib.count s sep) s
def rdT (i : Int) (s : By) : Option (List Ac) := match sK [44, 32] s with
  | [] => none
  | x :: xs => if x = [100, 111] then rdAs i xs else none
def rdTs : Nat → List By → Option (List (List Ac))
  | _, [] => some []
  | i, x :: xs => match rdT i x, rdTs (i + 1) xs with
    | some a, some xa => some (a :: xa)
    | _, _ => none
def rdL (s : By) : Option (List (List Ac)) := rdTs 0 (sK [32, 124, 32] s)
def litT (ts : List (List Ac)) : Bool := litB ts.length (Lf ts) (Ff ts)
/-- impl's answer -/
def rlI (s : By) : Option (List (List Ac)) := match rdL s with
  | none => none
  | some ts => if litT ts = true then some ts else none

theorem sK_join (sep s : By) : Lib.join (sK sep s) sep = s := Spj.join_splitK sep _ s
theorem jn32 (ws : List By) : Lib.join ws [32] = Spg.jn 32 ws := by
  induction ws with
  | nil => rfl
  | cons x r ih =>
    cases r with
    | nil => simp [Lib.join, List.intercalate, List.intersperse, Spg.jn]
    | cons y r =>
      rw [Spg.jn, ← ih]
      simp [Lib.join, List.intercalate, List.intersperse]

theorem rdW_back {x : By} {a : Ac} (h : rdW (Spg.sp 32 x) = some a) (i : Int) : actL (a.on i) = x := by
  have hx := Spg.jn_sp 32 x
  unfold rdW at h
  split at h
  · rename_i y e
    split at h
    · rename_i ey
      cases h
      rw [e, ey] at hx
      rw [← hx]
      simp [actL, Ac.on, actT, Spg.jn]
    · cases h
  · rename_i y u v e
    rw [e] at hx
    split at h
    · rename_i n m h1 h2
      have e1 := Rdm.rd_inv h1
      have e2 := Rdm.rd_inv h2
      rw [e1, e2] at hx
      split at h
      · rename_i ey
        cases h
        rw [ey] at hx
        rw [← hx]
        simp [actL, Ac.on, actT, Spg.jn, dec]
      · split at h
        · rename_i ey
          cases h
          rw [ey] at hx
          rw [← hx]
          simp [actL, Ac.on, actT, Spg.jn, dec]
        · cases h
    · cases h
  · cases h
theorem rdAs_back {i : Int} : ∀ {xs : List By} {xa : List Ac}, rdAs i xs = some xa → xa.map actL = xs
  | [], xa, h => by cases h; rfl
  | x :: xs, xa, h => by
    rw [rdAs] at h
    split at h
    · rename_i a xa' h1 h2
      cases h
      rw [List.map_cons, rdW_back h1, rdAs_back h2]
    · cases h
theorem rdT_back {i : Int} {s : By} {xa : List Ac} (h : rdT i s = some xa) : thL xa = s := by
  have hj := sK_join [44, 32] s
  unfold rdT at h
  split at h
  · cases h
  · rename_i x xs e
    split at h
    · rename_i ex
      unfold thL
      rw [rdAs_back h, ← ex, ← e, hj]
    · cases h
theorem rdTs_back : ∀ {i : Nat} {xs : List By} {ts : List (List Ac)}, rdTs i xs = some ts → ts.map thL = xs
  | _, [], ts, h => by cases h; rfl
  | i, x :: xs, ts, h => by
    rw [rdTs] at h
    split at h
    · rename_i a xa' h1 h2
      cases h
      rw [List.map_cons, rdT_back h1, rdTs_back h2]
    · cases h
theorem rdL_back {s : By} {ts : List (List Ac)} (h : rdL s = some ts) : ltL ts = s := by
  unfold ltL
  rw [rdTs_back h, sK_join]

/-- a right act of the thread i -/
def RA (i : Int) (a : Ac) : Prop := a.co = i ∧ ((a.k = 1 ∧ (0 ≤ a.va ∧ a.va < 3) ∧ (0 ≤ a.vl ∧ a.vl < 10) ∧ a.rg = 0) ∨ (a.k = 2 ∧ (0 ≤ a.va ∧ a.va < 3) ∧ a.vl = 0 ∧ (0 ≤ a.rg ∧ a.rg < 2)) ∨ (a.k = 3 ∧ a.va = 0 ∧ a.vl = 0 ∧ a.rg = 0))
theorem ra_of {C i : Int} {a : Ac} (h : actB C i a.k a.co a.va a.vl a.rg = true) : RA i a := by
  simp only [actB, fmB, Bool.and_eq_true, Bool.not_eq_true', decide_eq_true_eq, decide_eq_false_iff_not] at h
  obtain ⟨⟨h4, hc⟩, _, h⟩ := h
  refine ⟨hc, ?_⟩
  split at h
  · simp only [inB, Bool.and_eq_true, decide_eq_true_eq] at h
    exact .inl ⟨by assumption, by omega, by omega, h.2⟩
  · split at h
    · simp only [inB, Bool.and_eq_true, decide_eq_true_eq] at h
      exact .inr (.inl ⟨by assumption, by omega, h.1.2, by omega⟩)
    · simp only [Bool.and_eq_true, Bool.or_eq_true, decide_eq_true_eq] at h
      exact .inr (.inr ⟨by omega, h.1.1.2, h.1.2, h.2⟩)
/-- a right test -/
def RT (ts : List (List Ac)) : Prop := (1 ≤ ts.length ∧ ts.length ≤ 2) ∧ ∀ (c : Nat) (xa : List Ac), ts[c]? = some xa → xa.length ≤ 3 ∧ ∀ a ∈ xa, RA (c : Int) a
theorem rt_of {ts : List (List Ac)} (h : litT ts = true) : RT ts := by
  unfold litT litB at h
  simp only [Bool.and_eq_true, decide_eq_true_eq] at h
  refine ⟨h.1, fun c xa hc => ?_⟩
  have hlt : c < ts.length := (List.getElem?_eq_some_iff.1 hc).1
  have hg : ts.getD c [] = xa := by simp [hc]
  have ht := ths_each ts.length h.2 c hlt
  simp only [thrB, Lf, Ff, hg, Bool.and_eq_true, decide_eq_true_eq] at ht
  refine ⟨ht.1, fun a ha => ?_⟩
  obtain ⟨j, hj, rfl⟩ := List.mem_iff_getElem.1 ha
  have := acts_each xa.length ht.2 j hj
  have e : xa.getD j zA = xa[j] := by simp [hj]
  simp only [fF, e, Ac.at] at this
  exact ra_of this

theorem dec_no {z : Int} {p : UInt8} (hp : p.toNat < 48 ∨ 57 < p.toNat) : p ∉ dec z := fun h => by
  have := Rdm.dec_digits _ p h
  omega
theorem rd_small {z : Int} (h0 : 0 ≤ z) (h : z < 10) : Rdm.rd (dec z) = some z.toNat := Rdm.rd_dec _ (by have := dec_len (z := z) (by omega); unfold dec at this; omega)
/-- an act's words -/
def wdA (a : Ac) : List By := if a.k = 1 then [[115, 116], dec a.va, dec a.vl] else if a.k = 2 then [[108, 100], dec a.va, dec a.rg] else [[102, 101, 110, 99, 101]]
theorem actL_jn (a : Ac) : actL a = Spg.jn 32 (wdA a) := by
  unfold actL actT wdA
  split
  · simp [Spg.jn]
  · split
    · simp [Spg.jn]
    · simp [Spg.jn]
theorem wdA_no (a : Ac) {p : UInt8} (hp : p.toNat < 48 ∨ 122 < p.toNat) : ∀ x ∈ wdA a, p ∉ x := by
  intro x hx
  have q : ∀ z, p ∉ dec z := fun z => dec_no (by omega)
  have n : ∀ c : UInt8, 48 ≤ c.toNat → c.toNat ≤ 122 → p ≠ c := fun c h1 h2 e => by subst e; omega
  unfold wdA at hx
  split at hx
  · simp at hx
    rcases hx with rfl | rfl | rfl
    · simp; exact ⟨n 115 (by decide) (by decide), n 116 (by decide) (by decide)⟩
    · exact q _
    · exact q _
  · split at hx
    · simp at hx
      rcases hx with rfl | rfl | rfl
      · simp; exact ⟨n 108 (by decide) (by decide), n 100 (by decide) (by decide)⟩
      · exact q _
      · exact q _
    · simp at hx
      rcases hx with rfl
      simp; exact ⟨n 102 (by decide) (by decide), n 101 (by decide) (by decide), n 110 (by decide) (by decide), n 99 (by decide) (by decide), n 101 (by decide) (by decide)⟩
theorem wdA_ne (a : Ac) : wdA a ≠ [] := by
  unfold wdA
  split
  · simp
  · split <;> simp
theorem wdA_nz (a : Ac) : ∀ x ∈ wdA a, x ≠ [] := by
  intro x hx
  unfold wdA at hx
  split at hx
  · simp at hx
    rcases hx with rfl | rfl | rfl
    · simp
    · exact Rdm.dec_ne _
    · exact Rdm.dec_ne _
  · split at hx
    · simp at hx
      rcases hx with rfl | rfl | rfl
      · simp
      · exact Rdm.dec_ne _
      · exact Rdm.dec_ne _
    · simp at hx
      rcases hx with rfl
      simp
theorem sp_act (a : Ac) : Spg.sp 32 (actL a) = wdA a := by
  rw [actL_jn]
  exact Spg.sp_jn 32 _ (wdA_ne a) (wdA_no a (by decide))
theorem jn_mem {p q : UInt8} : ∀ {ws : List By}, (∀ x ∈ ws, q ∉ x) → q ≠ p → q ∉ Spg.jn p ws
  | [], _, _ => by simp [Spg.jn]
  | [x], h, _ => h x (by simp)
  | x :: y :: r, h, hq => by
    rw [Spg.jn]
    simp only [List.mem_append, List.mem_cons, not_or]
    exact ⟨h x (by simp), hq, jn_mem (fun z hz => h z (by simp at hz ⊢; exact .inr hz)) hq⟩
theorem act_no (a : Ac) {p : UInt8} (hp : p.toNat < 48 ∨ 122 < p.toNat) (h32 : p ≠ 32) : p ∉ actL a := by
  rw [actL_jn]
  exact jn_mem (wdA_no a hp) h32
theorem rdW_act {i : Int} {a : Ac} (h : RA i a) : rdW (wdA a) = some (a.on 0) := by
  obtain ⟨_, ⟨h1, h2, h3, h4⟩ | ⟨h1, h2, h3, h4⟩ | ⟨h1, h2, h3, h4⟩⟩ := h
  · have e2 : ((a.va.toNat : Nat) : Int) = a.va := by omega
    have e3 : ((a.vl.toNat : Nat) : Int) = a.vl := by omega
    simp [wdA, h1, rdW, rd_small h2.1 (by omega), rd_small h3.1 h3.2, Ac.on, h4, e2, e3]
  · have e2 : ((a.va.toNat : Nat) : Int) = a.va := by omega
    have e3 : ((a.rg.toNat : Nat) : Int) = a.rg := by omega
    simp [wdA, h1, rdW, rd_small h2.1 (by omega), rd_small h4.1 (by omega), Ac.on, h3, e2, e3]
  · simp [wdA, h1, rdW, Ac.on, h2, h3, h4]
theorem on_on {i : Int} {a : Ac} (h : a.co = i) : (a.on 0).on i = a := by subst h; rfl
theorem rdAs_acts {i : Int} : ∀ {xa : List Ac}, (∀ a ∈ xa, RA i a) → rdAs i (xa.map actL) = some xa
  | [], _ => rfl
  | a :: xa, h => by
    have ha := h a (by simp)
    rw [List.map_cons, rdAs, sp_act, rdW_act ha, rdAs_acts (fun b hb => h b (by simp [hb]))]
    simp only [on_on ha.1]
theorem sK_th (xa : List Ac) : sK [44, 32] (thL xa) = [100, 111] :: xa.map actL := by
  refine Spj.split_join (u := []) (v := [32]) (p := 44) (by simp) _ _ (fun z hz => ?_)
  simp only [List.mem_cons, List.mem_map] at hz
  rcases hz with rfl | ⟨a, _, rfl⟩
  · decide
  · exact act_no a (by decide) (by decide)
theorem th_cons (xa : List Ac) : ∃ r, thL xa = [100, 111] ++ r := by
  unfold thL
  cases xa with
  | nil => exact ⟨[], by simp [Lib.join, List.intercalate, List.intersperse]⟩
  | cons a xa => exact ⟨[44, 32] ++ Lib.join ((a :: xa).map actL) [44, 32], by simp [Lib.join, List.intercalate, List.intersperse]⟩
/-- what stands behind the first word -/
def tl (e : By) : List Ac → By
  | [] => e
  | a :: xa => [44, 32] ++ actL a ++ tl e xa
theorem th_tl_aux : ∀ (x : By) (xa : List Ac) (e : By), Lib.join (x :: xa.map actL) [44, 32] ++ e = x ++ tl e xa
  | x, [], e => by simp [Lib.join, List.intercalate, List.intersperse, tl]
  | x, a :: xa, e => by
    have e1 : Lib.join (x :: (a :: xa).map actL) [44, 32] = x ++ [44, 32] ++ Lib.join (actL a :: xa.map actL) [44, 32] := by
      simp [Lib.join, List.intercalate, List.intersperse]
    rw [e1, List.append_assoc, List.append_assoc, th_tl_aux (actL a) xa e, tl]
    simp
theorem th_tl (xa : List Ac) (e : By) : thL xa ++ e = [100, 111] ++ tl e xa := th_tl_aux _ _ _
theorem tl_no {p : UInt8} (hp : p.toNat < 48 ∨ 122 < p.toNat) (h32 : p ≠ 32) (h44 : p ≠ 44) {e : By} (he : p ∉ e) : ∀ xa, p ∉ tl e xa
  | [] => he
  | a :: xa => by
    rw [tl]
    simp only [List.mem_append, List.mem_cons, List.not_mem_nil, or_false, not_or]
    exact ⟨⟨⟨h44, h32⟩, act_no a hp h32⟩, tl_no hp h32 h44 he xa⟩
theorem th_no (xa : List Ac) : (124 : UInt8) ∉ thL xa := by
  have := th_tl xa []
  rw [List.append_nil] at this
  rw [this]
  simp only [List.mem_append, not_or]
  exact ⟨by decide, tl_no (by decide) (by decide) (by decide) (by simp) xa⟩
theorem rdT_th {i : Int} {xa : List Ac} (h : ∀ a ∈ xa, RA i a) : rdT i (thL xa) = some xa := by
  unfold rdT
  rw [sK_th]
  simp only [if_true]
  exact rdAs_acts h
theorem rdTs_ths : ∀ {i : Nat} {ts : List (List Ac)}, (∀ (c : Nat) (xa : List Ac), ts[c]? = some xa → ∀ a ∈ xa, RA ((i + c : Nat) : Int) a) → rdTs i (ts.map thL) = some ts
  | _, [], _ => rfl
  | i, t :: ts, h => by
    rw [List.map_cons, rdTs, rdT_th (by have := h 0 t (by simp); simpa using this), rdTs_ths (fun c xa hc => by
      have := h (c + 1) xa (by simpa using hc)
      rwa [show i + (c + 1) = i + 1 + c by omega] at this)]
theorem rdL_lt {ts : List (List Ac)} (h : RT ts) : rdL (ltL ts) = some ts := by
  obtain ⟨⟨h1, h2⟩, h3⟩ := h
  have e : sK [32, 124, 32] (ltL ts) = ts.map thL := by
    cases ts with
    | nil => simp at h1
    | cons t ts =>
      refine Spj.split_join (u := [32]) (v := [32]) (p := 124) (by decide) _ _ (fun z hz => ?_)
      rw [← List.map_cons, List.mem_map] at hz
      obtain ⟨xa, _, rfl⟩ := hz
      exact th_no xa
  unfold rdL
  rw [e]
  exact rdTs_ths (fun c xa hc => by rw [Nat.zero_add]; exact (h3 c xa hc).2)
theorem lt_ne {ts : List (List Ac)} (h : 1 ≤ ts.length) : ltL ts ≠ [] := by
  cases ts with
  | nil => simp at h
  | cons t ts =>
    obtain ⟨r, hr⟩ := th_cons t
    unfold ltL
    cases ts with
    | nil => simp [Lib.join, List.intercalate, List.intersperse, hr]
    | cons u us => simp [Lib.join, List.intercalate, List.intersperse, hr]

/-- l2Num's number -/
def numA (ws : List By) (i : Nat) : Int := match Rdm.rd (ws.getD i []) with
  | none => -1
  | some v => (v : Int)
/-- what spec reads off an act's words -/
def srW (i : Int) (ws : List By) : Option Ac :=
  if ws.length = 3 ∧ ws.getD 0 [] = [115, 116] then some ⟨1, i, numA ws 1, numA ws 2, 0⟩
  else if ws.length = 3 ∧ ws.getD 0 [] = [108, 100] then some ⟨2, i, numA ws 1, 0, numA ws 2⟩
  else if ws.length = 1 ∧ ws.getD 0 [] = [102, 101, 110, 99, 101] then some ⟨3, i, 0, 0, 0⟩
  else none
def srA (i : Int) (x : By) : Option Ac := srW i (Rdm.nz (Rdm.sp x))
def srAs (i : Int) : List By → Option (List Ac)
  | [] => some []
  | x :: xs => match srA i x, srAs i xs with
    | some a, some xa => some (a :: xa)
    | _, _ => none
def srT (i : Int) (s : By) : Option (List Ac) := srAs i (((Spg.sp 44 s).drop 1).take 4)
def srTs : Nat → List By → Option (List (List Ac))
  | _, [] => some []
  | i, x :: xs => match srT i x, srTs (i + 1) xs with
    | some a, some xa => some (a :: xa)
    | _, _ => none
def srL (s : By) : Option (List (List Ac)) := srTs 0 ((Spg.sp 124 s).take 3)
def tsL (ts : List (List Ac)) : By := tsT ts.length (Lf ts) (Ff ts)
/-- spec's answer -/
def rlS (s : By) : Option (List (List Ac)) := match srL s with
  | none => none
  | some ts => if s ≠ [] ∧ tsL ts = s then some ts else none

theorem tsL_eq (ts : List (List Ac)) : tsL ts = if litT ts = true then ltL ts else [] := by
  unfold tsL tsT litT
  rw [ltT_Ff]

theorem srW_act {i : Int} {a : Ac} (h : RA i a) : srW i (wdA a) = some a := by
  obtain ⟨h0, ⟨h1, h2, h3, h4⟩ | ⟨h1, h2, h3, h4⟩ | ⟨h1, h2, h3, h4⟩⟩ := h
  · have e2 : ((a.va.toNat : Nat) : Int) = a.va := by omega
    have e3 : ((a.vl.toNat : Nat) : Int) = a.vl := by omega
    obtain ⟨k, co, va, vl, rg⟩ := a
    simp only at *
    subst h0 h1 h4
    simp [srW, wdA, numA, rd_small h2.1 (by omega), rd_small h3.1 h3.2]
    omega
  · have e2 : ((a.va.toNat : Nat) : Int) = a.va := by omega
    have e3 : ((a.rg.toNat : Nat) : Int) = a.rg := by omega
    obtain ⟨k, co, va, vl, rg⟩ := a
    simp only at *
    subst h0 h1 h3
    simp [srW, wdA, numA, rd_small h2.1 (by omega), rd_small h4.1 (by omega)]
    omega
  · obtain ⟨k, co, va, vl, rg⟩ := a
    simp only at *
    subst h0 h1 h2 h3 h4
    simp [srW, wdA]
theorem sp_eq (x : By) : Rdm.sp x = Spg.sp 32 x := by
  induction x with
  | nil => rfl
  | cons c r ih =>
    by_cases h : c = 32
    · subst h; rw [Rdm.sp_blank, Spg.sp_blank, ih]
    · rw [Rdm.sp_other c r h, Spg.sp_other 32 c r h, ih]; cases Spg.sp 32 r <;> rfl
theorem sp_tail32 : ∀ (ws : List By), ws ≠ [] → (∀ x ∈ ws, (32 : UInt8) ∉ x) → Spg.sp 32 (Spg.jn 32 ws ++ [32]) = ws ++ [[]]
  | [], h, _ => absurd rfl h
  | [x], _, hx => by
    show Spg.sp 32 (x ++ [32]) = _
    rw [Spg.sp_join 32 x [] (hx x (by simp))]; rfl
  | x :: y :: r, _, hx => by
    show Spg.sp 32 (x ++ 32 :: Spg.jn 32 (y :: r) ++ [32]) = _
    rw [List.append_assoc, List.cons_append, Spg.sp_join 32 x _ (hx x (by simp)), sp_tail32 (y :: r) (by simp) (fun z hz => hx z (by simp at hz ⊢; exact .inr hz))]
    rfl
theorem nz_cons0 (r : List By) : Rdm.nz ([] :: r) = Rdm.nz r := by simp [Rdm.nz]
theorem nz_snoc0 (r : List By) : Rdm.nz (r ++ [[]]) = Rdm.nz r := by simp [Rdm.nz]
/-- an act's text with blanks about it -/
theorem srA_act {i : Int} {a : Ac} (h : RA i a) {e : By} (he : e = [] ∨ e = [32]) : srA i (32 :: (actL a ++ e)) = some a := by
  unfold srA
  have hw : Rdm.nz (Rdm.sp (32 :: (actL a ++ e))) = wdA a := by
    rw [Rdm.sp_blank, nz_cons0, sp_eq]
    rcases he with rfl | rfl
    · rw [List.append_nil, sp_act, Rdm.nz_all _ (wdA_nz a)]
    · rw [actL_jn, sp_tail32 _ (wdA_ne a) (wdA_no a (by decide)), nz_snoc0, Rdm.nz_all _ (wdA_nz a)]
  rw [hw, srW_act h]
/-- the pieces behind the first -/
def pcA (e : By) : List Ac → List By
  | [] => []
  | [a] => [32 :: (actL a ++ e)]
  | a :: b :: r => (32 :: (actL a ++ [])) :: pcA e (b :: r)
theorem pcA_len (e : By) : ∀ xa, (pcA e xa).length = xa.length
  | [] => rfl
  | [a] => rfl
  | a :: b :: r => by rw [pcA, List.length_cons, pcA_len e (b :: r)]; rfl
theorem sp_tl {e : By} (he : (44 : UInt8) ∉ e) : ∀ (xa : List Ac) (x : By), (44 : UInt8) ∉ x → Spg.sp 44 (x ++ tl e xa) = (if xa = [] then x ++ e else x) :: pcA e xa
  | [], x, hx => by
    rw [tl, Spg.sp_word 44 _ (by simp; exact ⟨hx, he⟩)]
    rfl
  | a :: xa, x, hx => by
    have hn : (44 : UInt8) ∉ (32 :: actL a : By) := by
      simp only [List.mem_cons, not_or]
      exact ⟨by decide, act_no a (by decide) (by decide)⟩
    have e1 : x ++ tl e (a :: xa) = x ++ 44 :: ((32 :: actL a) ++ tl e xa) := by rw [tl]; simp
    rw [e1, Spg.sp_join 44 x _ hx, sp_tl he xa _ hn, if_neg (List.cons_ne_nil a xa)]
    cases xa with
    | nil => simp [pcA]
    | cons b r => simp [pcA]
theorem srAs_pc {i : Int} {e : By} (he : e = [] ∨ e = [32]) : ∀ {xa : List Ac}, (∀ a ∈ xa, RA i a) → srAs i (pcA e xa) = some xa
  | [], _ => rfl
  | [a], h => by
    rw [pcA, srAs, srA_act (h a (by simp)) he]
    rfl
  | a :: b :: r, h => by
    rw [pcA, srAs, srA_act (h a (by simp)) (.inl rfl), srAs_pc he (fun z hz => h z (by simp at hz ⊢; exact .inr hz))]
theorem srT_th {i : Int} {xa : List Ac} {e0 e : By} (h0 : (44 : UInt8) ∉ e0) (he : e = [] ∨ e = [32]) (hl : xa.length ≤ 3) (h : ∀ a ∈ xa, RA i a) : srT i (e0 ++ (thL xa ++ e)) = some xa := by
  have h44 : (44 : UInt8) ∉ e := by rcases he with rfl | rfl <;> decide
  unfold srT
  rw [th_tl, ← List.append_assoc, sp_tl h44 xa _ (by simp only [List.mem_append, not_or]; exact ⟨h0, by decide⟩), List.drop_one, List.tail_cons, List.take_of_length_le (by rw [pcA_len]; omega)]
  exact srAs_pc he h
theorem srL_lt {ts : List (List Ac)} (h : RT ts) : srL (ltL ts) = some ts := by
  obtain ⟨⟨h1, h2⟩, h3⟩ := h
  match ts, h1, h2, h3 with
  | [t], _, _, h3 =>
    have ht := h3 0 t rfl
    have e : ltL [t] = thL t := by simp [ltL, Lib.join, List.intercalate, List.intersperse]
    unfold srL
    rw [e, Spg.sp_word 124 _ (th_no t)]
    have := srT_th (i := ((0 : Nat) : Int)) (e0 := []) (e := []) (by simp) (.inl rfl) ht.1 ht.2
    simp only [List.nil_append, List.append_nil] at this
    simp only [List.take, srTs, this]
  | [t, u], _, _, h3 =>
    have ht := h3 0 t rfl
    have hu := h3 1 u rfl
    have e : ltL [t, u] = (thL t ++ [32]) ++ 124 :: (32 :: thL u) := by simp [ltL, Lib.join, List.intercalate, List.intersperse]
    unfold srL
    rw [e, Spg.sp_join 124 _ _ (by simp only [List.mem_append, not_or]; exact ⟨th_no t, by decide⟩), Spg.sp_word 124 _ (by simp only [List.mem_cons, not_or]; exact ⟨by decide, th_no u⟩)]
    have q1 := srT_th (i := ((0 : Nat) : Int)) (e0 := []) (e := [32]) (by simp) (.inr rfl) ht.1 ht.2
    have q2 := srT_th (i := ((1 : Nat) : Int)) (e0 := [32]) (e := []) (by decide) (.inl rfl) hu.1 hu.2
    simp only [List.nil_append, List.append_nil, List.singleton_append] at q1 q2
    simp only [List.take, srTs, q1, q2, Nat.zero_add]
theorem rl_some {s : By} {ts : List (List Ac)} : rlI s = some ts ↔ litT ts = true ∧ ltL ts = s := by
  constructor
  · intro h
    unfold rlI at h
    split at h
    · cases h
    · rename_i ts' e
      split at h
      · rename_i ht
        cases h
        exact ⟨ht, rdL_back e⟩
      · cases h
  · rintro ⟨ht, rfl⟩
    unfold rlI
    rw [rdL_lt (rt_of ht)]
    simp only [ht, if_true]
theorem rs_some {s : By} {ts : List (List Ac)} : rlS s = some ts ↔ litT ts = true ∧ ltL ts = s := by
  constructor
  · intro h
    unfold rlS at h
    split at h
    · cases h
    · rename_i ts' e
      split at h
      · rename_i ht
        cases h
        obtain ⟨hs, ht⟩ := ht
        rw [tsL_eq] at ht
        split at ht
        · exact ⟨by assumption, ht⟩
        · exact absurd ht.symm hs
      · cases h
  · rintro ⟨ht, rfl⟩
    have hr := rt_of ht
    unfold rlS
    rw [srL_lt hr]
    have e : tsL ts = ltL ts := by rw [tsL_eq, if_pos ht]
    simp only [e, and_true]
    rw [if_pos (lt_ne hr.1.1)]
/-- both read the same -/
theorem rl_same (s : By) : rlI s = rlS s := by
  cases h : rlI s with
  | some ts => exact (rs_some.2 (rl_some.1 h)).symm
  | none =>
    cases h2 : rlS s with
    | none => rfl
    | some ts => rw [rl_some.2 (rs_some.1 h2)] at h; cases h

end Go.Proofs.YtokekgfompbdiaaDoor
