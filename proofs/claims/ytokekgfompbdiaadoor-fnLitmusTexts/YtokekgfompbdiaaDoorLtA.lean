/- spec.LitmusText, impl.LitmusText: the text of a test -/
import Derived.Test.YtokekgfompbdiaaDoorStrB
import Derived.Test.YtokekgfompbdiaaDoorLiE
namespace Go.Proofs.YtokekgfompbdiaaDoor
open Go.RowKit
set_option linter.unusedVariables false
set_option linter.unusedSimpArgs false

theorem acts_each {C i : Int} {f : Nat → Nat → Int} : ∀ n, actsB C i f n = true → ∀ j, j < n → actB C i (f j 0) (f j 1) (f j 2) (f j 3) (f j 4) = true
  | 0, _, j, hj => absurd hj (by omega)
  | n + 1, h, j, hj => by
    rw [actsB, Bool.and_eq_true] at h
    by_cases e : j = n
    · subst e; exact h.2
    · exact acts_each n h.1 j (by omega)
theorem ths_each {C : Int} {L : Nat → Nat} {F : Nat → Nat → Nat → Int} : ∀ n, thsB C L F n = true → ∀ c, c < n → thrB C c (L c) (F c) = true
  | 0, _, c, hc => absurd hc (by omega)
  | n + 1, h, c, hc => by
    rw [thsB, Bool.and_eq_true] at h
    by_cases e : c = n
    · subst e; exact h.2
    · exact ths_each n h.1 c (by omega)

/-- numbers that have short digits -/
def Num (z : Int) : Prop := 0 ≤ z ∧ z ≤ 1000000
/-- a short row of acts with such numbers -/
def Act3 (n : Nat) (f : Nat → Nat → Int) : Prop := n ≤ 3 ∧ ∀ j, j < n → Num (f j 2) ∧ Num (f j 3) ∧ Num (f j 4)
theorem fm_num {C k co va vl rg : Int} (h : fmB C k co va vl rg = true) : Num va ∧ Num vl ∧ Num rg := by
  unfold fmB at h
  rw [Bool.and_eq_true] at h
  have h2 := h.2
  unfold Num
  split at h2
  · simp only [inB, Bool.and_eq_true, decide_eq_true_eq] at h2; omega
  · split at h2
    · simp only [inB, Bool.and_eq_true, decide_eq_true_eq] at h2; omega
    · simp only [Bool.and_eq_true, decide_eq_true_eq] at h2; omega
theorem lit_acts {C : Nat} {L : Nat → Nat} {F : Nat → Nat → Nat → Int} (h : litB C L F = true) : C ≤ 2 ∧ ∀ c, c < C → Act3 (L c) (F c) := by
  unfold litB at h
  simp only [Bool.and_eq_true, decide_eq_true_eq] at h
  have ht := fun c hc => ths_each C h.2 c hc
  refine ⟨h.1.2, fun c hc => ?_⟩
  have := ht c hc
  simp only [thrB, Bool.and_eq_true, decide_eq_true_eq] at this
  refine ⟨this.1, fun j hj => ?_⟩
  have ha := acts_each (L c) this.2 j hj
  simp only [actB, Bool.and_eq_true] at ha
  exact fm_num ha.2

/-- the text of an act, of a thread, of a test -/
def actT (k va vl rg : Int) : List UInt8 := if k = 1 then [115, 116, 32] ++ dec va ++ [32] ++ dec vl else if k = 2 then [108, 100, 32] ++ dec va ++ [32] ++ dec rg else [102, 101, 110, 99, 101]
def thT (f : Nat → Nat → Int) : Nat → List UInt8
  | 0 => [100, 111]
  | j + 1 => thT f j ++ [44, 32] ++ actT (f j 0) (f j 2) (f j 3) (f j 4)
def ltT (L : Nat → Nat) (F : Nat → Nat → Nat → Int) : Nat → List UInt8
  | 0 => []
  | k + 1 => ltT L F k ++ (if k = 0 then [] else [32, 124, 32]) ++ thT (F k) (L k)
theorem actT_len {k va vl rg : Int} (h : Num va ∧ Num vl ∧ Num rg) : (actT k va vl rg).length ≤ 18 := by
  have h1 := dec_len h.1.2
  have h2 := dec_len h.2.1.2
  have h3 := dec_len h.2.2.2
  unfold actT
  split
  · simp only [List.length_append, List.length_cons, List.length_nil]; omega
  · split
    · simp only [List.length_append, List.length_cons, List.length_nil]; omega
    · simp
theorem thT_len {n : Nat} {f : Nat → Nat → Int} (h : Act3 n f) : ∀ j, j ≤ n → (thT f j).length ≤ 2 + 20 * j
  | 0, _ => by simp [thT]
  | j + 1, hj => by
    have h1 := thT_len h j (by omega)
    have h2 := actT_len (k := f j 0) (h.2 j (by omega))
    simp only [thT, List.length_append, List.length_cons, List.length_nil]
    omega
theorem ltT_len {C : Nat} {L : Nat → Nat} {F : Nat → Nat → Nat → Int} (h : ∀ c, c < C → Act3 (L c) (F c)) : ∀ k, k ≤ C → (ltT L F k).length ≤ 65 * k
  | 0, _ => by simp [ltT]
  | k + 1, hk => by
    have h1 := ltT_len h k (by omega)
    have h2 := thT_len (h k (by omega)) _ (Nat.le_refl _)
    have h3 := (h k (by omega)).1
    have h4 : (if k = 0 then ([] : List UInt8) else [32, 124, 32]).length ≤ 3 := by split <;> simp
    simp only [ltT, List.length_append]
    omega

theorem join_snoc (xs : List (List UInt8)) (y sp : List UInt8) : Lib.join (xs ++ [y]) sp = (xs.map (· ++ sp)).flatten ++ y := by
  induction xs with
  | nil => simp [Lib.join, List.intercalate, List.intersperse]
  | cons x xs ih =>
    have e : Lib.join (x :: xs ++ [y]) sp = x ++ sp ++ Lib.join (xs ++ [y]) sp := by
      cases xs with
      | nil => simp [Lib.join, List.intercalate, List.intersperse]
      | cons z zs => simp [Lib.join, List.intercalate, List.intersperse]
    rw [e, ih]
    simp
theorem join_app (xs : List (List UInt8)) (x y sp : List UInt8) : Lib.join (xs ++ [x] ++ [y]) sp = Lib.join (xs ++ [x]) sp ++ sp ++ y := by
  rw [join_snoc, join_snoc]
  simp
/-- the texts that are joined -/
def tr (f : Nat → Nat → Int) (n : Nat) : List (List UInt8) := [100, 111] :: (List.range n).map fun j => actT (f j 0) (f j 2) (f j 3) (f j 4)
theorem tr_succ (f : Nat → Nat → Int) (n : Nat) : tr f (n + 1) = tr f n ++ [actT (f n 0) (f n 2) (f n 3) (f n 4)] := by simp [tr, List.range_succ]
theorem tr_len (f : Nat → Nat → Int) (n : Nat) : (tr f n).length = n + 1 := by simp [tr]
theorem ends_of {xs : List (List UInt8)} (h : 0 < xs.length) : ∃ ys y, xs = ys ++ [y] := ⟨xs.dropLast, xs.getLast (by intro e; simp [e] at h), (List.dropLast_concat_getLast _).symm⟩
theorem join_tr (f : Nat → Nat → Int) : ∀ n, Lib.join (tr f n) [44, 32] = thT f n
  | 0 => by simp [tr, thT, Lib.join, List.intercalate, List.intersperse]
  | n + 1 => by
    obtain ⟨ys, y, e⟩ := ends_of (xs := tr f n) (by rw [tr_len]; omega)
    rw [tr_succ, thT, ← join_tr f n, e, join_app]
def lr (L : Nat → Nat) (F : Nat → Nat → Nat → Int) (k : Nat) : List (List UInt8) := (List.range k).map fun c => thT (F c) (L c)
theorem lr_succ (L : Nat → Nat) (F : Nat → Nat → Nat → Int) (k : Nat) : lr L F (k + 1) = lr L F k ++ [thT (F k) (L k)] := by simp [lr, List.range_succ]
theorem lr_len (L : Nat → Nat) (F : Nat → Nat → Nat → Int) (k : Nat) : (lr L F k).length = k := by simp [lr]
theorem join_lr (L : Nat → Nat) (F : Nat → Nat → Nat → Int) : ∀ k, Lib.join (lr L F k) [32, 124, 32] = ltT L F k
  | 0 => by simp [lr, ltT, Lib.join, List.intercalate, List.intersperse]
  | 1 => by simp [lr, ltT, Lib.join, List.intercalate, List.intersperse]
  | k + 2 => by
    obtain ⟨ys, y, e⟩ := ends_of (xs := lr L F (k + 1)) (by rw [lr_len]; omega)
    rw [lr_succ, ltT, ← join_lr L F (k + 1), e, join_app, if_neg (by omega)]

theorem box5 (w : World) (k co va vl rg : Int) (T : TypeId) : (w.alloc (.cells (five k co va vl rg) T)).cell? ⟨w.heap.size, 0, none⟩ = some (.int .i64 k) ∧ (w.alloc (.cells (five k co va vl rg) T)).cell? ⟨w.heap.size, 1, none⟩ = some (.int .i64 co) ∧ (w.alloc (.cells (five k co va vl rg) T)).cell? ⟨w.heap.size, 2, none⟩ = some (.int .i64 va) ∧ (w.alloc (.cells (five k co va vl rg) T)).cell? ⟨w.heap.size, 3, none⟩ = some (.int .i64 vl) ∧ (w.alloc (.cells (five k co va vl rg) T)).cell? ⟨w.heap.size, 4, none⟩ = some (.int .i64 rg) := by
  have h := heap_alloc_new w (.cells (five k co va vl rg) T)
  exact ⟨(cell_of_row _ _ 0 _ _ _ h).trans rfl, (cell_of_row _ _ 1 _ _ _ h).trans rfl, (cell_of_row _ _ 2 _ _ _ h).trans rfl, (cell_of_row _ _ 3 _ _ _ h).trans rfl, (cell_of_row _ _ 4 _ _ _ h).trans rfl⟩

/-- two cells of a box, through what only makes memory -/
abbrev S2 (w : World) (B i j : Nat) (x y : Int) (W : World) : Prop := Below w.heap.size w W ∧ W.cell? ⟨B, i, none⟩ = some (.int .i64 x) ∧ W.cell? ⟨B, j, none⟩ = some (.int .i64 y)
theorem S2.next {w W W' : World} {B i j : Nat} {x y : Int} (h : S2 w B i j x y W) (hb : Below W.heap.size W W') : S2 w B i j x y W' := ⟨h.1.trans (hb.mono h.1.size), keepc hb h.2.1, keepc hb h.2.2⟩

/-- the digits, as a string that stays shut -/
def dB (z : Int) : ByteArray := bstr (dec z)
theorem dB_any (z : Int) (w : World) (h : Num z) : Calls Tryd.prog 36 #[.int .i64 z] w fun e w' => e = .returned (.string (dB z)) ∧ Below w.heap.size w w' := dec_any z w h.1 h.2

set_option maxRecDepth 20000 in
set_option maxHeartbeats 2000000 in
theorem l11Act_any (k co va vl rg : Int) (w : World) (hn : Num va ∧ Num vl ∧ Num rg) :
    Calls Tryd.prog 18 #[.agg (five k co va vl rg)] w fun e w' => e = .returned (.string (bstr (actT k va vl rg))) ∧ Below w.heap.size w w' := by
  obtain ⟨x0, _, x2, x3, x4⟩ := box5 w k co va vl rg 42
  have hA : Below w.heap.size w (w.alloc (.cells (five k co va vl rg) 42)) := (Below.refl _ _).alloc (Nat.le_refl _) _
  obtain ⟨W, hW⟩ : ∃ W, w.alloc (.cells (five k co va vl rg) 42) = W := ⟨_, rfl⟩
  rw [hW] at x0 x2 x3 x4 hA
  by_cases k1 : k = 1
  · subst k1
    have HE : Hid (actT 1 va vl rg = [115, 116, 32] ++ dec va ++ [32] ++ dec vl) := hide (by unfold actT; rw [if_pos rfl])
    have l1 := dec_len hn.1.2
    have l2 := dec_len hn.2.1.2
    have ha1 : ∀ W : World, (Op.stringOp .add ⟨#[115, 116, 32]⟩ (dB va)).run Tryd.prog W = .ok (.string (bstr ([115, 116, 32] ++ dec va))) W := fun W => add_ok (a := [115, 116, 32]) (by simp; omega) W
    have ha2 : ∀ W : World, (Op.stringOp .add (bstr ([115, 116, 32] ++ dec va)) ⟨#[32]⟩).run Tryd.prog W = .ok (.string (bstr ([115, 116, 32] ++ dec va ++ [32]))) W := fun W => add_ok (b := [32]) (by simp; omega) W
    have ha3 : ∀ W : World, (Op.stringOp .add (bstr ([115, 116, 32] ++ dec va ++ [32])) (dB vl)).run Tryd.prog W = .ok (.string (bstr ([115, 116, 32] ++ dec va ++ [32] ++ dec vl))) W := fun W => add_ok (by simp; omega) W
    rw [← HE.out] at ha3
    clear HE l1 l2
    generalize bstr ([115, 116, 32] ++ dec va ++ [32]) = s2 at ha2 ha3
    generalize bstr ([115, 116, 32] ++ dec va) = s1 at ha1 ha2
    generalize bstr (actT 1 va vl rg) = s3 at ha3
    go_enter Tryd.func18, Tryd.ntmps18
    go_wp2
    clear hW
    have q0 : S2 w w.heap.size 2 3 va vl W.drew := ⟨hA.drew, x2, x3⟩
    go_region_held3 (fun w' => S2 w w.heap.size 2 3 va vl w') (first | exact q0 | exact S2.next (by assumption) (by assumption)) (first | (go_at_call 36; refine (dB_any _ _ ?_).mono ?_; (first | exact hn.1 | exact hn.2.1); rintro e w1 ⟨rfl, hb1⟩))
    rename_i hz
    have HB := hide hz.1
    clear hz
    go_wp2
    go_ret
    exact ⟨rfl, HB.out⟩
  by_cases k2 : k = 2
  · subst k2
    have HE : Hid (actT 2 va vl rg = [108, 100, 32] ++ dec va ++ [32] ++ dec rg) := hide (by unfold actT; rw [if_neg (by omega), if_pos rfl])
    have l1 := dec_len hn.1.2
    have l2 := dec_len hn.2.2.2
    have ha1 : ∀ W : World, (Op.stringOp .add ⟨#[108, 100, 32]⟩ (dB va)).run Tryd.prog W = .ok (.string (bstr ([108, 100, 32] ++ dec va))) W := fun W => add_ok (a := [108, 100, 32]) (by simp; omega) W
    have ha2 : ∀ W : World, (Op.stringOp .add (bstr ([108, 100, 32] ++ dec va)) ⟨#[32]⟩).run Tryd.prog W = .ok (.string (bstr ([108, 100, 32] ++ dec va ++ [32]))) W := fun W => add_ok (b := [32]) (by simp; omega) W
    have ha3 : ∀ W : World, (Op.stringOp .add (bstr ([108, 100, 32] ++ dec va ++ [32])) (dB rg)).run Tryd.prog W = .ok (.string (bstr ([108, 100, 32] ++ dec va ++ [32] ++ dec rg))) W := fun W => add_ok (by simp; omega) W
    rw [← HE.out] at ha3
    clear HE l1 l2
    generalize bstr ([108, 100, 32] ++ dec va ++ [32]) = s2 at ha2 ha3
    generalize bstr ([108, 100, 32] ++ dec va) = s1 at ha1 ha2
    generalize bstr (actT 2 va vl rg) = s3 at ha3
    go_enter Tryd.func18, Tryd.ntmps18
    go_wp2
    clear hW
    have q0 : S2 w w.heap.size 2 4 va rg W.drew := ⟨hA.drew, x2, x4⟩
    go_region_held3 (fun w' => S2 w w.heap.size 2 4 va rg w') (first | exact q0 | exact S2.next (by assumption) (by assumption)) (first | (go_at_call 36; refine (dB_any _ _ ?_).mono ?_; (first | exact hn.1 | exact hn.2.2); rintro e w1 ⟨rfl, hb1⟩))
    rename_i hz
    have HB := hide hz.1
    clear hz
    go_wp2
    go_ret
    exact ⟨rfl, HB.out⟩
  have HE : Hid (actT k va vl rg = [102, 101, 110, 99, 101]) := hide (by unfold actT; rw [if_neg k1, if_neg k2])
  have d1 : (k == 1) = false := by simpa using k1
  have d2 : (k == 2) = false := by simpa using k2
  go_enter Tryd.func18, Tryd.ntmps18
  go_wp2
  go_ret
  exact ⟨ret_str (congrArg bstr HE.out.symm), hA⟩

/-- the same with the library's table -/
abbrev S3 (w : World) (B i j : Nat) (x y : Int) (W : World) : Prop := S2 w B i j x y W ∧ Pow W ∧ B < W.heap.size
theorem S3.next {w W W' : World} {B i j : Nat} {x y : Int} (h : S3 w B i j x y W) (hb : Below W.heap.size W W') : S3 w B i j x y W' := ⟨h.1.next hb, h.2.1.below hb, Nat.lt_of_lt_of_le h.2.2 hb.size⟩

end Go.Proofs.YtokekgfompbdiaaDoor
