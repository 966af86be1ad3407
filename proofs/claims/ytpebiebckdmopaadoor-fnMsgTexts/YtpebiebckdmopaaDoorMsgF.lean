/- spec.MsgText -/
import Derived.Test.YtpebiebckdmopaaDoorMsgE
namespace Go.Proofs.YtpebiebckdmopaaDoor
open Go.RowKit

/-- what a right message has -/
theorem ok_bounds {n : Nat} {f t l wt d : Int} (h1 : 1 ≤ n) (h9 : n ≤ 9) (h : okB (n : Int) f t l wt d = true) :
    (0 ≤ f ∧ f ≤ 5) ∧ (0 ≤ t ∧ t ≤ 5) ∧ (0 ≤ l ∧ l ≤ 3) ∧ (shapeHome n = true → t = 0) ∧ (shapeHome n = false → f = 0) ∧ (shapeWant n = true → 1 ≤ wt ∧ wt ≤ 2) ∧ (shapeData n = true → 0 ≤ d ∧ d ≤ 1000000) := by
  rw [okB_split n h1 h9] at h
  simp only [Bool.and_eq_true] at h
  obtain ⟨⟨⟨he, hl⟩, hw⟩, hd⟩ := h
  simp only [inB, Bool.and_eq_true, decide_eq_true_eq] at hl
  unfold endsH at he
  unfold wantH at hw
  unfold dataH at hd
  refine ⟨?_, ?_, hl, ?_, ?_, ?_, ?_⟩
  · cases hh : shapeHome n <;> rw [hh] at he <;> simp [inB, eqB] at he <;> omega
  · cases hh : shapeHome n <;> rw [hh] at he <;> simp [inB, eqB] at he <;> omega
  · intro hh; rw [hh] at he; simp [inB, eqB] at he; omega
  · intro hh; rw [hh] at he; simp [inB, eqB] at he; omega
  · intro hh; rw [hh] at hw; simp [inB] at hw; omega
  · intro hh; rw [hh] at hd; simp [inB] at hd; omega

/-- the box of a message in a later world -/
abbrev MC (w : World) (B : Nat) (k f t l wt d : Int) (wx : World) : Prop := Below w.heap.size w wx ∧ wx.cell? ⟨B, 0, none⟩ = some (.int .i64 k) ∧ wx.cell? ⟨B, 1, none⟩ = some (.int .i64 f) ∧ wx.cell? ⟨B, 2, none⟩ = some (.int .i64 t) ∧
  wx.cell? ⟨B, 3, none⟩ = some (.int .i64 l) ∧ wx.cell? ⟨B, 4, none⟩ = some (.int .i64 wt) ∧ wx.cell? ⟨B, 5, none⟩ = some (.int .i64 d)
theorem mc_next {w wx wy : World} {B : Nat} {k f t l wt d : Int} (h : MC w B k f t l wt d wx) (hb : Below wx.heap.size wx wy) : MC w B k f t l wt d wy :=
  ⟨h.1.trans (hb.mono h.1.size), keepc hb h.2.1, keepc hb h.2.2.1, keepc hb h.2.2.2.1, keepc hb h.2.2.2.2.1, keepc hb h.2.2.2.2.2.1, keepc hb h.2.2.2.2.2.2⟩
theorem mc_box (w : World) (k f t l wt d : Int) (T : TypeId) : MC w w.heap.size k f t l wt d (w.alloc (.cells #[.int .i64 k, .int .i64 f, .int .i64 t, .int .i64 l, .int .i64 wt, .int .i64 d] T)) :=
  ⟨(Below.refl _ _).alloc (Nat.le_refl _) _, by simp, by simp, by simp, by simp, by simp, by simp⟩

theorem kind_mem (n : Nat) (h1 : 1 ≤ n) (h9 : n ≤ 9) : n ∈ [1, 2, 3, 4, 5, 6, 7, 8, 9] := by
  have hn : n = 1 ∨ n = 2 ∨ n = 3 ∨ n = 4 ∨ n = 5 ∨ n = 6 ∨ n = 7 ∨ n = 8 ∨ n = 9 := by omega
  rcases hn with rfl | rfl | rfl | rfl | rfl | rfl | rfl | rfl | rfl <;> decide

/-- a stronger condition serves -/
theorem wpAnyH_mono {P : Program} {md : Region.Mode} {ops : Array Oper} {Q : Exit → Act → World → Prop} {S S' : World → Prop} (hS : ∀ w, S' w → S w) :
    ∀ (fuel : Nat) (listed : Array Bool) (a : Act) (w : World), wpAnyH P md ops Q S' fuel listed a w → wpAnyH P md ops Q S fuel listed a w
  | 0, _, _, _, h => h
  | fuel + 1, _, _, _, h => ⟨h.1, fun i hi => wpOp_mono (fun a' w' h' => ⟨hS w' h'.1, wpAnyH_mono hS fuel _ a' w' h'.2⟩) (h.2 i hi)⟩

set_option linter.unusedSimpArgs false in
set_option maxRecDepth 20000 in
set_option maxHeartbeats 4000000 in
theorem specText_yes (n : Nat) (f t l wt d : Int) (w : World) (h1 : 1 ≤ n) (h9 : n ≤ 9) (hok : okB (n : Int) f t l wt d = true) :
    Calls Tryd.prog 8 #[.agg #[.int .i64 (n : Int), .int .i64 f, .int .i64 t, .int .i64 l, .int .i64 wt, .int .i64 d]] w fun e w' => e = .returned (.string (bstr (text n (f + t) l wt d))) ∧ Below w.heap.size w w' := by
  obtain ⟨⟨f0, f5⟩, ⟨t0, t5⟩, ⟨l0, l3⟩, _, _, hwt, hdt⟩ := ok_bounds h1 h9 hok
  have hlw := word_short n (by omega)
  have hlc := dec_len (z := f + t) (by omega)
  have hll := dec_len (z := l) (by omega)
  have a1 := add_ok (a := shapeWord n) (b := [32]) (by simp; omega)
  have a2 := add_ok (a := shapeWord n ++ [32]) (b := dec (f + t)) (by simp; omega)
  have a3 := add_ok (a := shapeWord n ++ [32] ++ dec (f + t)) (b := [32]) (by simp; omega)
  have a4 := add_ok (a := shapeWord n ++ [32] ++ dec (f + t) ++ [32]) (b := dec l) (by simp; omega)
  have hsp : (⟨#[32]⟩ : ByteArray) = bstr [32] := rfl
  have hn0 : (0 : Int) ≤ (n : Int) := by omega
  have hft : IntKind.i64.wrap (f + t) = f + t := by rw [IntKind.wrap_i64]; omega
  have hn10 : (n : Int) < 10 := by omega
  have HWD := hide (And.intro hwt hdt)
  clear hwt hdt
  generalize e4 : shapeWord n ++ [32] ++ dec (f + t) ++ [32] ++ dec l = x4 at a4
  generalize e3 : shapeWord n ++ [32] ++ dec (f + t) ++ [32] = x3 at a3 a4
  generalize e2 : shapeWord n ++ [32] ++ dec (f + t) = x2 at a2 a3
  generalize e1 : shapeWord n ++ [32] = x1 at a1 a2
  have HE := hide (And.intro e1 (And.intro e2 (And.intro e3 e4)))
  clear e1 e2 e3 e4
  have mb := mc_box w n f t l wt d 25
  go_enter Tryd.func8, Tryd.ntmps8
  go_wp2_with fail
  refine (specOk_any _ _ _ _ _ _ _).mono ?_
  rintro e w1 ⟨rfl, hb1⟩
  have m1 := mc_next mb hb1
  clear mb hb1
  go_upto_region 3 with fail
  go_cut [3] from 7 to 24 (fun s3 wx => s3 = .string (bstr x4) ∧ MC w w.heap.size n f t l wt d wx)
  case first =>
    refine wp_region_held_drew (S := fun w' => MC w w.heap.size n f t l wt d w') (by kernel_rfl) (mc_next m1 ((Below.refl _ _).drew)) (fun hHeld => ?_)
    refine wpAnyH_take (i := 1) (oi := { dst := some 8, op := Op.fieldAddr 25 (Operand.tmp 1) 0, type := 0, pos := "l02_messages.go:47", after := #[], guard := none }) (v := .pointer (some ⟨w.heap.size, 0, none⟩)) rfl (by kernel_rfl) (by kernel_rfl) (by kernel_rfl) (fun _ _ _ h => h) (Or.inl ⟨by rfl, fun w' hSw => ?_⟩) (by assumption) ?_
    · go_simp
    try simp only [Act.put, List.setIfInBounds_toArray, List.set_cons_zero, List.set_cons_succ]
    refine wpAnyH_take (i := 2) (oi := { dst := some 9, op := Op.load 2 (Operand.tmp 8), type := 2, pos := "l02_messages.go:47", after := #[{ on := 1, ground := Ground.data }], guard := none }) (v := .int .i64 (n : Int)) rfl (by kernel_rfl) (by kernel_rfl) (by kernel_rfl) (fun _ _ _ h => h) (Or.inl ⟨by rfl, fun w' hSw => ?_⟩) (by assumption) ?_
    · go_simp
    try simp only [Act.put, List.setIfInBounds_toArray, List.set_cons_zero, List.set_cons_succ]
    refine wpAnyH_take (i := 6) (oi := { dst := some 13, op := Op.fieldAddr 25 (Operand.tmp 1) 1, type := 0, pos := "l02_messages.go:47", after := #[], guard := none }) (v := .pointer (some ⟨w.heap.size, 1, none⟩)) rfl (by kernel_rfl) (by kernel_rfl) (by kernel_rfl) (fun _ _ _ h => h) (Or.inl ⟨by rfl, fun w' hSw => ?_⟩) (by assumption) ?_
    · go_simp
    try simp only [Act.put, List.setIfInBounds_toArray, List.set_cons_zero, List.set_cons_succ]
    refine wpAnyH_take (i := 7) (oi := { dst := some 14, op := Op.load 2 (Operand.tmp 13), type := 2, pos := "l02_messages.go:47", after := #[{ on := 6, ground := Ground.data }], guard := none }) (v := .int .i64 f) rfl (by kernel_rfl) (by kernel_rfl) (by kernel_rfl) (fun _ _ _ h => h) (Or.inl ⟨by rfl, fun w' hSw => ?_⟩) (by assumption) ?_
    · go_simp
    try simp only [Act.put, List.setIfInBounds_toArray, List.set_cons_zero, List.set_cons_succ]
    refine wpAnyH_take (i := 8) (oi := { dst := some 15, op := Op.fieldAddr 25 (Operand.tmp 1) 2, type := 0, pos := "l02_messages.go:47", after := #[], guard := none }) (v := .pointer (some ⟨w.heap.size, 2, none⟩)) rfl (by kernel_rfl) (by kernel_rfl) (by kernel_rfl) (fun _ _ _ h => h) (Or.inl ⟨by rfl, fun w' hSw => ?_⟩) (by assumption) ?_
    · go_simp
    try simp only [Act.put, List.setIfInBounds_toArray, List.set_cons_zero, List.set_cons_succ]
    refine wpAnyH_take (i := 9) (oi := { dst := some 16, op := Op.load 2 (Operand.tmp 15), type := 2, pos := "l02_messages.go:47", after := #[{ on := 8, ground := Ground.data }], guard := none }) (v := .int .i64 t) rfl (by kernel_rfl) (by kernel_rfl) (by kernel_rfl) (fun _ _ _ h => h) (Or.inl ⟨by rfl, fun w' hSw => ?_⟩) (by assumption) ?_
    · go_simp
    try simp only [Act.put, List.setIfInBounds_toArray, List.set_cons_zero, List.set_cons_succ]
    refine wpAnyH_take (i := 10) (oi := { dst := some 17, op := Op.binOp BinOp.add 2 (Operand.tmp 14) (Operand.tmp 16) 2, type := 2, pos := "l02_messages.go:47", after := #[{ on := 7, ground := Ground.data }, { on := 9, ground := Ground.data }], guard := none }) (v := .int .i64 (f + t)) rfl (by kernel_rfl) (by kernel_rfl) (by kernel_rfl) (fun _ _ _ h => h) (Or.inl ⟨by rfl, fun w' hSw => ?_⟩) (by assumption) ?_
    · go_simp
    try simp only [Act.put, List.setIfInBounds_toArray, List.set_cons_zero, List.set_cons_succ]
    refine wpAnyH_take (i := 14) (oi := { dst := some 21, op := Op.fieldAddr 25 (Operand.tmp 1) 3, type := 0, pos := "l02_messages.go:47", after := #[], guard := none }) (v := .pointer (some ⟨w.heap.size, 3, none⟩)) rfl (by kernel_rfl) (by kernel_rfl) (by kernel_rfl) (fun _ _ _ h => h) (Or.inl ⟨by rfl, fun w' hSw => ?_⟩) (by assumption) ?_
    · go_simp
    try simp only [Act.put, List.setIfInBounds_toArray, List.set_cons_zero, List.set_cons_succ]
    refine wpAnyH_take (i := 15) (oi := { dst := some 22, op := Op.load 2 (Operand.tmp 21), type := 2, pos := "l02_messages.go:47", after := #[{ on := 14, ground := Ground.data }], guard := none }) (v := .int .i64 l) rfl (by kernel_rfl) (by kernel_rfl) (by kernel_rfl) (fun _ _ _ h => h) (Or.inl ⟨by rfl, fun w' hSw => ?_⟩) (by assumption) ?_
    · go_simp
    try simp only [Act.put, List.setIfInBounds_toArray, List.set_cons_zero, List.set_cons_succ]
    refine wpAnyH_ready (rs := [0]) (by kernel_rfl) (by simp) ?_
    refine AllReadyH.cons (o := { dst := some 7, op := Op.call { callee := Callee.value (Operand.func 20), args := #[], argTypes := #[] }, type := 39, pos := "l02_messages.go:47", after := #[], guard := none }) rfl (fun K hK => ?_) AllReadyH.nil
    go_simp
    refine (l2Words_any n (by omega) _).mono ?_
    rintro e w2 ⟨g, rfl, hwd, hb⟩
    go_wp2_with fail
    refine hK.out _ _ (mc_next hHeld hb) (fun hHeld => ?_)
    clear hK K
    try simp only [Act.put, List.setIfInBounds_toArray, List.set_cons_zero, List.set_cons_succ]
    refine wpAnyH_mono (S' := fun w' => MC w w.heap.size n f t l wt d w' ∧ w'.cell? ⟨g, n, none⟩ = some (.string (bstr (shapeWord n)))) (fun _ h => h.1) _ _ _ _ ?_
    have hH2 : (fun w' => MC w w.heap.size n f t l wt d w' ∧ w'.cell? ⟨g, n, none⟩ = some (.string (bstr (shapeWord n)))) w2 := ⟨hHeld, hwd⟩
    clear hHeld hwd hb
    refine wpAnyH_take (i := 3) (oi := { dst := some 10, op := Op.indexAddr 39 (Operand.tmp 7) (Operand.tmp 9), type := 0, pos := "l02_messages.go:47", after := #[{ on := 0, ground := Ground.data }, { on := 2, ground := Ground.data }], guard := none }) (v := .pointer (some ⟨g, n, none⟩)) rfl (by kernel_rfl) (by kernel_rfl) (by kernel_rfl) (fun _ _ _ h => h) (Or.inl ⟨by rfl, fun w' hSw => ?_⟩) (by assumption) ?_
    · go_simp
    try simp only [Act.put, List.setIfInBounds_toArray, List.set_cons_zero, List.set_cons_succ]
    refine wpAnyH_take (i := 4) (oi := { dst := some 11, op := Op.load 9 (Operand.tmp 10), type := 9, pos := "l02_messages.go:47", after := #[{ on := 3, ground := Ground.data }], guard := none }) (v := .string (bstr (shapeWord n))) rfl (by kernel_rfl) (by kernel_rfl) (by kernel_rfl) (fun _ _ _ h => h) (Or.inl ⟨by rfl, fun w' hSw => ?_⟩) (by assumption) ?_
    · go_simp
    try simp only [Act.put, List.setIfInBounds_toArray, List.set_cons_zero, List.set_cons_succ]
    refine wpAnyH_take (i := 5) (oi := { dst := some 12, op := Op.binOp BinOp.add 9 (Operand.tmp 11) (Operand.const (Value.string { data := #[32] })) 9, type := 9, pos := "l02_messages.go:47", after := #[{ on := 4, ground := Ground.data }], guard := none }) (v := .string (bstr x1)) rfl (by kernel_rfl) (by kernel_rfl) (by kernel_rfl) (fun _ _ _ h => h) (Or.inl ⟨by rfl, fun w' hSw => ?_⟩) (by assumption) ?_
    · go_simp
    try simp only [Act.put, List.setIfInBounds_toArray, List.set_cons_zero, List.set_cons_succ]
    refine wpAnyH_ready (rs := [11]) (by kernel_rfl) (by simp) ?_
    refine AllReadyH.cons (o := { dst := some 18, op := Op.call { callee := Callee.value (Operand.func 21), args := #[Operand.tmp 17], argTypes := #[2] }, type := 9, pos := "l02_messages.go:47", after := #[{ on := 10, ground := Ground.data }, { on := 0, ground := Ground.chain }], guard := none }) rfl (fun K hK => ?_) AllReadyH.nil
    go_simp
    refine (dec_any (f + t) _ (by omega) (by omega)).mono ?_
    rintro e w3 ⟨rfl, hb⟩
    go_wp2_with fail
    refine hK.out _ _ (⟨mc_next hH2.1 hb, keepc hb hH2.2⟩) (fun hH3 => ?_)
    clear hK K
    try simp only [Act.put, List.setIfInBounds_toArray, List.set_cons_zero, List.set_cons_succ]
    clear hH2 hb
    refine wpAnyH_take (i := 12) (oi := { dst := some 19, op := Op.binOp BinOp.add 9 (Operand.tmp 12) (Operand.tmp 18) 9, type := 9, pos := "l02_messages.go:47", after := #[{ on := 5, ground := Ground.data }, { on := 11, ground := Ground.data }], guard := none }) (v := .string (bstr x2)) rfl (by kernel_rfl) (by kernel_rfl) (by kernel_rfl) (fun _ _ _ h => h) (Or.inl ⟨by rfl, fun w' hSw => ?_⟩) (by assumption) ?_
    · go_simp
    try simp only [Act.put, List.setIfInBounds_toArray, List.set_cons_zero, List.set_cons_succ]
    refine wpAnyH_take (i := 13) (oi := { dst := some 20, op := Op.binOp BinOp.add 9 (Operand.tmp 19) (Operand.const (Value.string { data := #[32] })) 9, type := 9, pos := "l02_messages.go:47", after := #[{ on := 12, ground := Ground.data }], guard := none }) (v := .string (bstr x3)) rfl (by kernel_rfl) (by kernel_rfl) (by kernel_rfl) (fun _ _ _ h => h) (Or.inl ⟨by rfl, fun w' hSw => ?_⟩) (by assumption) ?_
    · go_simp
    try simp only [Act.put, List.setIfInBounds_toArray, List.set_cons_zero, List.set_cons_succ]
    refine wpAnyH_ready (rs := [16]) (by kernel_rfl) (by simp) ?_
    refine AllReadyH.cons (o := { dst := some 23, op := Op.call { callee := Callee.value (Operand.func 21), args := #[Operand.tmp 22], argTypes := #[2] }, type := 9, pos := "l02_messages.go:47", after := #[{ on := 15, ground := Ground.data }, { on := 11, ground := Ground.chain }], guard := none }) rfl (fun K hK => ?_) AllReadyH.nil
    go_simp
    refine (dec_any l _ (by omega) (by omega)).mono ?_
    rintro e w4 ⟨rfl, hb⟩
    go_wp2_with fail
    refine hK.out _ _ (⟨mc_next hH3.1 hb, keepc hb hH3.2⟩) (fun hH4 => ?_)
    clear hK K
    try simp only [Act.put, List.setIfInBounds_toArray, List.set_cons_zero, List.set_cons_succ]
    clear hH3 hb
    refine wpAnyH_take (i := 17) (oi := { dst := some 24, op := Op.binOp BinOp.add 9 (Operand.tmp 20) (Operand.tmp 23) 9, type := 9, pos := "l02_messages.go:47", after := #[{ on := 13, ground := Ground.data }, { on := 16, ground := Ground.data }], guard := none }) (v := .string (bstr x4)) rfl (by kernel_rfl) (by kernel_rfl) (by kernel_rfl) (fun _ _ _ h => h) (Or.inl ⟨by rfl, fun w' hSw => ?_⟩) (by assumption) ?_
    · go_simp
    try simp only [Act.put, List.setIfInBounds_toArray, List.set_cons_zero, List.set_cons_succ]
    refine wpAnyH_take (i := 18) (oi := { dst := some 3, op := Op.assign (Operand.tmp 24), type := 9, pos := "l02_messages.go:47", after := #[{ on := 17, ground := Ground.data }, { on := 16, ground := Ground.chain }, { on := 0, ground := Ground.phase }, { on := 1, ground := Ground.phase }, { on := 2, ground := Ground.phase }, { on := 3, ground := Ground.phase }, { on := 4, ground := Ground.phase }, { on := 5, ground := Ground.phase }, { on := 6, ground := Ground.phase }, { on := 7, ground := Ground.phase }, { on := 8, ground := Ground.phase }, { on := 9, ground := Ground.phase }, { on := 10, ground := Ground.phase }, { on := 11, ground := Ground.phase }, { on := 12, ground := Ground.phase }, { on := 13, ground := Ground.phase }, { on := 14, ground := Ground.phase }, { on := 15, ground := Ground.phase }, { on := 16, ground := Ground.phase }, { on := 17, ground := Ground.phase }], guard := none }) (v := .string (bstr x4)) rfl (by kernel_rfl) (by kernel_rfl) (by kernel_rfl) (fun _ _ _ h => h) (Or.inl ⟨by rfl, fun w' hSw => ?_⟩) (by assumption) ?_
    · go_simp
    try simp only [Act.put, List.setIfInBounds_toArray, List.set_cons_zero, List.set_cons_succ]
    refine wpAnyH_done (by kernel_rfl) ?_ _
    go_wp2_with fail
    go_meet
    exact ⟨rfl, hH4.1⟩
  case rest =>
    obtain ⟨rfl, mcx⟩ := hcut
    clear a1 a2 a3 a4 m1
    have hx4 : x4.length ≤ 30 := by rw [← HE.out.2.2.2]; simp; omega
    have hkn := shape_kinds n (kind_mem n h1 h9)
    obtain ⟨_, q0, q1, q2, q3, q4, q5⟩ := id mcx
    rcases Bool.eq_false_or_eq_true (shapeWant n) with hw | hw <;> rcases Bool.eq_false_or_eq_true (shapeData n) with hd | hd
    · have hwk : wantB (n : Int) = true := by rw [hkn.2.1]; exact hw
      have hdk : dataB (n : Int) = true := by rw [hkn.2.2]; exact hd
      have hwr := HWD.out.1 hw
      have hlwt := dec_len (z := wt) (by omega)
      have a5 := add_ok (a := x4) (b := [32]) (by simp; omega)
      have a6 := add_ok (a := x4 ++ [32]) (b := dec wt) (by simp; omega)
      have hdr := HWD.out.2 hd
      have hld := dec_len (z := d) (by omega)
      have a7 := add_ok (a := x4 ++ [32] ++ dec wt) (b := [32]) (by simp; omega)
      have a8 := add_ok (a := x4 ++ [32] ++ dec wt ++ [32]) (b := dec d) (by simp; omega)
      have HT : Hid (bstr (x4 ++ [32] ++ dec wt ++ [32] ++ dec d) = bstr (text n (f + t) l wt d)) := hide (by
        have e4 := HE.out.2.2.2
        unfold text body
        rw [hw, hd, ← e4]
        simp [List.append_assoc])
      generalize x4 ++ [32] ++ dec wt ++ [32] ++ dec d = y4 at a8 HT
      generalize x4 ++ [32] ++ dec wt ++ [32] = y3 at a7 a8
      generalize x4 ++ [32] ++ dec wt = y2 at a6 a7
      generalize x4 ++ [32] = y1 at a5 a6
      clear hw hd hkn
      go_wp2_with fail
      refine (l2Wants_any _ _ (by omega) (by omega)).mono ?_
      rintro e v1 ⟨rfl, rfl⟩
      go_wp2_with fail
      refine (dec_any wt _ (by omega) (by omega)).mono ?_
      rintro e v2 ⟨rfl, hb2⟩
      have mc2 := mc_next mcx hb2
      clear mcx hb2 q0 q1 q2 q3 q4 q5
      obtain ⟨_, q0, q1, q2, q3, q4, q5⟩ := id mc2
      replace mcx := mc2
      clear mc2
      go_wp2_with fail
      refine (l2Holds_any _ _ (by omega) (by omega)).mono ?_
      rintro e v3 ⟨rfl, rfl⟩
      go_wp2_with fail
      refine (dec_any d _ (by omega) (by omega)).mono ?_
      rintro e v4 ⟨rfl, hb4⟩
      have mc4 := mc_next mcx hb4
      clear mcx hb4 q0 q1 q2 q3 q4 q5
      replace mcx := mc4
      clear mc4
      go_wp2
      go_ret
      exact ⟨ret_str HT.out, mcx.1⟩
    · have hwk : wantB (n : Int) = true := by rw [hkn.2.1]; exact hw
      have hdk : dataB (n : Int) = false := by rw [hkn.2.2]; exact hd
      have hwr := HWD.out.1 hw
      have hlwt := dec_len (z := wt) (by omega)
      have a5 := add_ok (a := x4) (b := [32]) (by simp; omega)
      have a6 := add_ok (a := x4 ++ [32]) (b := dec wt) (by simp; omega)
      have HT : Hid (bstr (x4 ++ [32] ++ dec wt) = bstr (text n (f + t) l wt d)) := hide (by
        have e4 := HE.out.2.2.2
        unfold text body
        rw [hw, hd, ← e4]
        simp [List.append_assoc])
      generalize x4 ++ [32] ++ dec wt = y2 at a6 HT
      generalize x4 ++ [32] = y1 at a5 a6
      clear hw hd hkn
      go_wp2_with fail
      refine (l2Wants_any _ _ (by omega) (by omega)).mono ?_
      rintro e v1 ⟨rfl, rfl⟩
      go_wp2_with fail
      refine (dec_any wt _ (by omega) (by omega)).mono ?_
      rintro e v2 ⟨rfl, hb2⟩
      have mc2 := mc_next mcx hb2
      clear mcx hb2 q0 q1 q2 q3 q4 q5
      obtain ⟨_, q0, q1, q2, q3, q4, q5⟩ := id mc2
      replace mcx := mc2
      clear mc2
      go_wp2_with fail
      refine (l2Holds_any _ _ (by omega) (by omega)).mono ?_
      rintro e v3 ⟨rfl, rfl⟩
      go_wp2
      go_ret
      exact ⟨ret_str HT.out, mcx.1⟩
    · have hwk : wantB (n : Int) = false := by rw [hkn.2.1]; exact hw
      have hdk : dataB (n : Int) = true := by rw [hkn.2.2]; exact hd
      have hdr := HWD.out.2 hd
      have hld := dec_len (z := d) (by omega)
      have a7 := add_ok (a := x4) (b := [32]) (by simp; omega)
      have a8 := add_ok (a := x4 ++ [32]) (b := dec d) (by simp; omega)
      have HT : Hid (bstr (x4 ++ [32] ++ dec d) = bstr (text n (f + t) l wt d)) := hide (by
        have e4 := HE.out.2.2.2
        unfold text body
        rw [hw, hd, ← e4]
        simp [List.append_assoc])
      generalize x4 ++ [32] ++ dec d = y4 at a8 HT
      generalize x4 ++ [32] = y3 at a7 a8
      clear hw hd hkn
      go_wp2_with fail
      refine (l2Wants_any _ _ (by omega) (by omega)).mono ?_
      rintro e v1 ⟨rfl, rfl⟩
      go_wp2_with fail
      refine (l2Holds_any _ _ (by omega) (by omega)).mono ?_
      rintro e v3 ⟨rfl, rfl⟩
      go_wp2_with fail
      refine (dec_any d _ (by omega) (by omega)).mono ?_
      rintro e v4 ⟨rfl, hb4⟩
      have mc4 := mc_next mcx hb4
      clear mcx hb4 q0 q1 q2 q3 q4 q5
      replace mcx := mc4
      clear mc4
      go_wp2
      go_ret
      exact ⟨ret_str HT.out, mcx.1⟩
    · have hwk : wantB (n : Int) = false := by rw [hkn.2.1]; exact hw
      have hdk : dataB (n : Int) = false := by rw [hkn.2.2]; exact hd
      have HT : Hid (bstr (x4) = bstr (text n (f + t) l wt d)) := hide (by
        have e4 := HE.out.2.2.2
        unfold text body
        rw [hw, hd, ← e4]
        simp [List.append_assoc])
      clear hw hd hkn
      go_wp2_with fail
      refine (l2Wants_any _ _ (by omega) (by omega)).mono ?_
      rintro e v1 ⟨rfl, rfl⟩
      go_wp2_with fail
      refine (l2Holds_any _ _ (by omega) (by omega)).mono ?_
      rintro e v3 ⟨rfl, rfl⟩
      go_wp2
      go_ret
      exact ⟨ret_str HT.out, mcx.1⟩

end Go.Proofs.YtpebiebckdmopaaDoor
