/- SwD, LmA, LmB, LmC, in one text -/
import Derived.Test.YtnkocikbapbbmaaPc
import Derived.Test.YtnkocikbapbbmaaZLdZ
import Derived.Lib.ItoaNum
/- one of several operations that may come next, calls too. No seat's function is named. -/
namespace Go.Proofs.Ytnkocikbapbbmaa
open Go.RowKit
set_option linter.unusedVariables false
section
variable {P : Program} {ops : Array Oper} {Q : Exit → Act → World → Prop} {md : Region.Mode} {S : World → Prop} {z n : Nat} {done : Array Bool} {a : Act} {w : World}
/-- one of several operations that may come next -/
def KE (P : Program) (md : Region.Mode) (ops : Array Oper) (Q : Exit → Act → World → Prop) (S : World → Prop) (z n : Nat) (done : Array Bool) (a : Act) (w : World) (i : Nat) : Prop :=
  ∃ o, ops[i]? = some o ∧ Region.wanted o (yielded ops a.tmps) = true ∧ ((∃ v w', (execOp a.eval o).run P w = .ok (.value v) w' ∧ (i ≠ z → S w') ∧ wpAnyK P md ops Q (But S z) n (done.setIfInBounds i true) (a.put o.dst v) w') ∨
    (∃ f args R, (execOp a.eval o).run P w = .ok (.enter f args) w ∧ Calls P f args w R ∧ ∀ e V, R e V → ∃ v, e = .returned v ∧ (i ≠ z → S V) ∧ wpAnyK P md ops Q (But S z) n (done.setIfInBounds i true) (a.put o.dst v) V))
theorem kd_each {l : List Nat} (hr : Region.ready md ops done = l) (hl : l.isEmpty = false) (h : AllM (KE P md ops Q S z n done a w) l) : wpAnyK P md ops Q (But S z) (n + 1) done a w := by
  refine ⟨fun h0 => (by rw [hr] at h0; rw [h0] at hl; cases hl), fun j hj => ?_⟩
  rw [hr] at hj
  obtain ⟨o, ho, hw, h | h⟩ := h.mem j hj
  · obtain ⟨v, w', hrn, hS, hk⟩ := h
    refine wpOp_step ho (fun K' hK => ?_)
    rw [if_pos hw]
    unfold Oper.wp
    rw [hrn]
    exact hK _ _ ⟨hS, hk⟩
  · obtain ⟨f, args, R, hrn, hc, hk⟩ := h
    refine wpOp_step ho (fun K' hK => ?_)
    rw [if_pos hw]
    unfold Oper.wp
    rw [hrn]
    refine Calls.mono hc (fun e V hR => ?_)
    obtain ⟨v, rfl, hS, hk2⟩ := hk e V hR
    exact hK _ _ ⟨hS, hk2⟩
end
theorem Lr.lower {w : World} {base base' : Nat} {wv gv dv uv : Value} {p : Lk} (h : Lr w base wv gv dv uv p) (hb : base' ≤ base) : Lr w base' wv gv dv uv p :=
  ⟨h.wa.base hb, h.go.base hb, h.dn.base hb, h.up.base hb, h.aw, h.ag, h.ad⟩
end Go.Proofs.Ytnkocikbapbbmaa

/- laws.markText; rows of texts and of wires marked, marks found -/
namespace Go.Proofs.Ytnkocikbapbbmaa
open Go.RowKit
set_option linter.unusedVariables false
set_option linter.unusedSimpArgs false

/-- digits already written, behind what is left -/
def digK (u : Nat) (l : List UInt8) : List UInt8 := if u = 0 then l else Lib.decDigits u ++ l
theorem digK_step (u : Nat) (h : 0 < u) (l : List UInt8) : digK u l = digK (u / 10) ([UInt8.ofNat (48 + u % 10)] ++ l) := by
  unfold digK
  by_cases h10 : u < 10
  · rw [if_neg (by omega), if_pos (by omega), Lib.decDigits, dif_pos h10, show u % 10 = u by omega]
  · rw [if_neg (by omega), if_neg (by omega), Lib.decDigits, dif_neg h10, List.append_assoc]
/-- the text of a mark -/
def mT (z : Int) : ByteArray := ⟨#[109]⟩ ++ ⟨(Lib.decDigits z.toNat).toArray⟩
theorem pow_stepM {v j : Nat} (hj : j ≤ 7) (h : v < 10 ^ (7 - j)) (h0 : 0 < v) : j + 1 ≤ 7 ∧ v / 10 < 10 ^ (7 - (j + 1)) := by
  have e : j = 0 ∨ j = 1 ∨ j = 2 ∨ j = 3 ∨ j = 4 ∨ j = 5 ∨ j = 6 ∨ j = 7 := by omega
  rcases e with rfl | rfl | rfl | rfl | rfl | rfl | rfl | rfl <;> simp at h ⊢ <;> omega
theorem pow_leM {v j : Nat} (h : v < 10 ^ (7 - j)) : (v : Int) ≤ 9999999 := by
  have h1 : 10 ^ (7 - j) ≤ 10 ^ 7 := Nat.pow_le_pow_right (by decide) (by omega)
  have h2 : (10 : Nat) ^ 7 = 10000000 := by decide
  omega
theorem ret_strM {a b : ByteArray} (h : a = b) : Ending.returned (.string a) = .returned (.string b) := by rw [h]
theorem conv_oneM (w : World) (c : UInt8) (n : Int) (h : n = (c.toNat : Int)) :
    (convert 84 9 (.slice (some ⟨w.heap.size, 0, none⟩) 1 1)).run Try.prog (w.alloc (.cells #[.int .u8 n] 5)) = .ok (.string ⟨#[c]⟩) (w.alloc (.cells #[.int .u8 n] 5)) := by
  subst h
  exact run_convert_bytes_back (P := Try.prog) (w.alloc (.cells #[.int .u8 (c.toNat : Int)] 5)) 84 9 5 ⟨w.heap.size, 0, none⟩ 1 [c] Try.underlying84 Try.underlying5 Try.underlying9 (fun j hj => by
    match j, hj with
    | 0, _ => simp [Addr.add])
theorem digit_byteM (v : Nat) : ((UInt8.ofNat (48 + v % 10)).toNat : Int) = 48 + ((v : Int) % 10) := by
  have : (UInt8.ofNat (48 + v % 10)).toNat = 48 + v % 10 := by
    simp [UInt8.toNat_ofNat']
    omega
  rw [this]; omega
theorem app_listM (c : UInt8) (b : ByteArray) : ((⟨#[c]⟩ : ByteArray) ++ b).data.toList = [c] ++ b.data.toList := by
  rw [ByteArray.data_append]; simp
theorem app_sizeM (c : UInt8) (b : ByteArray) : ((⟨#[c]⟩ : ByteArray) ++ b).size = 1 + b.size := by
  rw [ByteArray.size_append]; rfl

set_option maxRecDepth 20000 in
set_option maxHeartbeats 1000000 in
theorem markText_core (u : Nat) (z0 : Int) (hz0 : z0 = (u : Int)) (w : World) (hu : u < 10 ^ 7) (hp : 0 < z0) :
    Calls Try.prog 49 #[.int .i64 z0] w fun e w' => e = .returned (.string (mT z0)) ∧ Below w.heap.size w w' := by
  have HU := hide (And.intro hz0 (And.intro hu hp))
  have hd : decide (z0 ≤ 0) = false := decide_eq_false (by omega)
  clear hz0 hu hp
  go_enter Try.func49, Try.ntmps49
  go_wp2
  clear hd
  go_loopw [0, 3] (fun n s wr => ∃ (z : Int) (v j : Nat) (b : ByteArray), n = .int .i64 z ∧ s = .string b ∧ 0 ≤ z ∧ z ≤ 9999999 ∧ j ≤ 7 ∧ b.size ≤ 7 ∧ Hid (z = (v : Int) ∧ b.size = j ∧ digK v b.data.toList = Lib.decDigits u ∧ v < 10 ^ (7 - j)) ∧ Below w.heap.size w wr) (fun n _ _ => (intOf n).toNat)
  case atStart => exact ⟨z0, u, 0, ⟨#[]⟩, rfl, rfl, by have := HU.out.2.2; omega, by rw [HU.out.1]; exact pow_leM (j := 0) HU.out.2.1, by decide, by decide, hide ⟨HU.out.1, rfl, by have := HU.out.2.2; have := HU.out.1; unfold digK; rw [if_neg (by omega)]; simp, HU.out.2.1⟩, Below.refl _ _⟩
  case round =>
    obtain ⟨z, v, j, b, rfl, rfl, hz, hz9, hj, hbs, HR, hb⟩ := hrel
    have HB := hide (hb.alloc hb.size (.cells #[.int .u8 (48 + z % 10)] 5))
    have HB' := hide hb
    clear hb
    by_cases hlt : 0 < z
    · have hcv := conv_oneM wr (UInt8.ofNat (48 + v % 10)) (48 + z % 10) (by rw [digit_byteM, HR.out.1])
      have HS := hide (pow_stepM hj HR.out.2.2.2 (by have := HR.out.1; omega))
      have hadd : ∀ W : World, (Op.stringOp .add ⟨#[UInt8.ofNat (48 + v % 10)]⟩ b).run Try.prog W = .ok (.string (⟨#[UInt8.ofNat (48 + v % 10)]⟩ ++ b)) W := fun W => run_string_add_sum (w := W) _ b (by have : (⟨#[UInt8.ofNat (48 + v % 10)]⟩ : ByteArray).size = 1 := rfl; omega)
      generalize hc : (⟨#[UInt8.ofNat (48 + v % 10)]⟩ : ByteArray) = cc at hcv hadd
      have HC := hide hc
      clear hc
      go_wp2
      go_roundw
      case rel =>
        refine ⟨z / 10, v / 10, j + 1, cc ++ b, rfl, rfl, by omega, by omega, HS.out.1, ?_, hide ⟨?_, ?_, ?_, HS.out.2⟩, HB.out⟩
        · rw [← HC.out, app_sizeM]; have := HR.out.2.1; have := HS.out.1; omega
        · rw [HR.out.1]; omega
        · rw [← HC.out, app_sizeM, HR.out.2.1]; omega
        · rw [← HC.out, app_listM, ← HR.out.2.2.1]
          exact (digK_step v (by have := HR.out.1; omega) _).symm
      case measure => simp [intOf]; omega
    · have hadd : ∀ W : World, (Op.stringOp .add ⟨#[109]⟩ b).run Try.prog W = .ok (.string (⟨#[109]⟩ ++ b)) W := fun W => run_string_add_sum (w := W) _ b (by have : (⟨#[109]⟩ : ByteArray).size = 1 := rfl; omega)
      generalize hc : (⟨#[109]⟩ : ByteArray) = cc at hadd ⊢
      have HC := hide hc
      clear hc
      go_wp2
      go_ret
      refine ⟨ret_strM ?_, HB'.out⟩
      have h1 : b.data.toList = Lib.decDigits u := by
        have := HR.out.2.2.1
        unfold digK at this
        rwa [if_pos (by have := HR.out.1; omega)] at this
      unfold mT
      rw [HC.out, show z0.toNat = u by have := HU.out.1; omega, ← h1]
theorem markText_any (z : Int) (w : World) (h0 : 0 < z) (h1 : z ≤ 9999999) :
    Calls Try.prog 49 #[.int .i64 z] w fun e w' => e = .returned (.string (mT z)) ∧ Below w.heap.size w w' :=
  markText_core z.toNat z (by omega) w (by have h2 : (10 : Nat) ^ 7 = 10000000 := by decide
                                           omega) h0

set_option maxHeartbeats 4000000 in
theorem markS_gen (a : Option Addr) (g off n c : Nat) (k0 : Int) (I : Nat → World → Prop) (w : World) (hn : n ≤ 1048576) (h0 : 0 < k0) (h1 : k0 ≤ 8000000) (ha : 0 < n → a = some ⟨g, off, none⟩) (hI : I 0 w)
    (hst : ∀ j W, j < n → I j W → W.frozen? ⟨g, off + j, none⟩ = false ∧ (∃ o, W.cell? ⟨g, off + j, none⟩ = some o) ∧ g < W.heap.size ∧ ∀ W2, Below W.heap.size W W2 → I (j + 1) (W2.setCell ⟨g, off + j, none⟩ (.string (mT (k0 + j))))) :
    Calls Try.prog 43 #[.slice a n c, .int .i64 k0] w fun e w' => e = .returned (.int .i64 (k0 + n)) ∧ I n w' := by
  go_enter Try.func43, Try.ntmps43
  go_wp2
  go_loopw [1, 5] (fun t i wr => ∃ j : Nat, j ≤ n ∧ i = .int .i64 j ∧ t = .int .i64 (k0 + j) ∧ I j wr) (fun _ i _ => n - (intOf i).toNat)
  case atStart => exact ⟨0, Nat.zero_le _, rfl, by simp, hI⟩
  case round =>
    obtain ⟨j, hj, rfl, rfl, hIj⟩ := hrel
    by_cases hlt : j < n
    · obtain ⟨hf, ⟨o, hc⟩, hgl, hnx⟩ := hst j wr hlt hIj
      obtain rfl := ha (by omega)
      have HN := hide hnx
      have HT := hide (fun W => markText_any (k0 + j) W (by omega) (by omega))
      clear hnx hIj hI hst ha
      generalize mT (k0 + j) = tx at HN HT
      go_wp2_with fail
      refine (HT.out _).mono ?_
      rintro e W2 ⟨rfl, hb⟩
      have c2 := keepc hb hc
      have f2 : W2.frozen? ⟨g, off + j, none⟩ = false := by
        rw [World.frozen?_of_block (a := ⟨g, off + j, none⟩) (hb.block g hgl)]; exact hf
      have HI := hide (HN.out W2 hb)
      clear HN HT hf hc hb
      go_wp2
      go_roundw
      case rel => exact ⟨j + 1, by omega, by go_num, by go_num, HI.out⟩
      case measure => simp [intOf]; omega
    · have e : j = n := by omega
      subst e
      have HI := hide hIj
      clear hst hI hIj
      go_wp2
      go_ret
      exact ⟨rfl, HI.out⟩

theorem keep1M {w W W' : World} {p0 : Addr} {x0 : Value} (h : Below w.heap.size w W ∧ W.cell? p0 = some x0) (hb : Below W.heap.size W W') : Below w.heap.size w W' ∧ W'.cell? p0 = some x0 := ⟨h.1.trans (hb.mono h.1.size), keepc hb h.2⟩
set_option maxHeartbeats 4000000 in
theorem heldS_any (v : Value) (n : Nat) (k0 : Int) (w : World) (hn : n ≤ 1048576) (h0 : 0 < k0) (h1 : k0 ≤ 8000000) (hs : Sg w v 1 n (tF (fun j => mT (k0 + j)))) :
    Calls Try.prog 45 #[v, .int .i64 k0] w fun e w' => e = .returned (.int .i64 (k0 + n)) ∧ Below w.heap.size w w' := by
  obtain ⟨a, c, rfl, hs⟩ := hs
  go_enter Try.func45, Try.ntmps45
  go_wp2
  go_loopw [1, 5] (fun t i wr => ∃ j : Nat, j ≤ n ∧ i = .int .i64 j ∧ t = .int .i64 (k0 + j) ∧ Below w.heap.size w wr) (fun _ i _ => n - (intOf i).toNat)
  case atStart => exact ⟨0, Nat.zero_le _, rfl, by simp, Below.refl _ _⟩
  case round =>
    obtain ⟨j, hj, rfl, rfl, hb⟩ := hrel
    by_cases hlt : j < n
    · obtain ⟨g, off, rfl, hc⟩ := hs (by omega)
      have q0 : wr.cell? ⟨g, off + j, none⟩ = some (.string (mT (k0 + j))) := by
        have := hc j hlt 0 (by omega)
        rw [Nat.mul_one, Nat.add_zero] at this
        exact keepc hb this
      have HT := hide (fun W => markText_any (k0 + j) W (by omega) (by omega))
      have HB := hide hb
      have hss : ((mT (k0 + j)).toList == (mT (k0 + j)).toList) = true := str_self _
      clear hs hc hb
      generalize mT (k0 + j) = tx at HT q0 hss
      have hk0 : (0 : Int) ≤ (j : Int) := by omega
      have hk1 : (j : Int) < (n : Int) := by omega
      have hbk := HB.out
      go_wp2
      go_region_held3 (fun w' => Below w.heap.size w w' ∧ w'.cell? ⟨g, off + j, none⟩ = some (.string tx)) (first | exact ⟨hbk.drew, q0⟩ | exact keep1M (by assumption) hbc) (first | (go_at_call 49; refine (HT.out _).mono ?_; rintro e w2 ⟨rfl, hbc⟩))
      all_goals go_wp2
      all_goals rename_i hS
      go_roundw
      case rel => exact ⟨j + 1, by omega, by go_num, by go_num, hS.1⟩
      case measure => simp [intOf]; omega
    · have e : j = n := by omega
      subst e
      have HB := hide hb
      clear hs hb
      go_wp2
      go_ret
      exact ⟨rfl, HB.out⟩

end Go.Proofs.Ytnkocikbapbbmaa

/- rows of wires marked, marks found -/
namespace Go.Proofs.Ytnkocikbapbbmaa
open Go.RowKit
set_option linter.unusedVariables false
set_option linter.unusedSimpArgs false

def mH (z : Int) : Bool := z % 3 == 0
set_option maxHeartbeats 4000000 in
theorem markW_gen (a : Option Addr) (g off n c : Nat) (k0 : Int) (I : Nat → World → Prop) (w : World) (hn : n ≤ 1048576) (h0 : 0 < k0) (h1 : k0 ≤ 7000000) (ha : 0 < n → a = some ⟨g, off, none⟩) (hI : I 0 w)
    (hst : ∀ j W, j < n → I j W → (∀ i, W.frozen? ⟨g, i, none⟩ = false) ∧ (∃ o, W.cell? ⟨g, off + j * 2, none⟩ = some o) ∧ (∃ o, W.cell? ⟨g, off + j * 2 + 1, none⟩ = some o) ∧ g < W.heap.size ∧ ∀ W2, Below W.heap.size W W2 → I (j + 1) ((W2.setCell ⟨g, off + j * 2, none⟩ (.string (mT (k0 + 2 * j)))).setCell ⟨g, off + j * 2 + 1, none⟩ (.bool (mH (k0 + 2 * j + 1))))) :
    Calls Try.prog 44 #[.slice a n c, .int .i64 k0] w fun e w' => e = .returned (.int .i64 (k0 + 2 * n)) ∧ I n w' := by
  go_enter Try.func44, Try.ntmps44
  go_wp2
  go_loopw [1, 5] (fun t i wr => ∃ j : Nat, j ≤ n ∧ i = .int .i64 j ∧ t = .int .i64 (k0 + 2 * j) ∧ I j wr) (fun _ i _ => n - (intOf i).toNat)
  case atStart => exact ⟨0, Nat.zero_le _, rfl, by simp, hI⟩
  case round =>
    obtain ⟨j, hj, rfl, rfl, hIj⟩ := hrel
    by_cases hlt : j < n
    · obtain ⟨hf, ⟨o, hc⟩, ⟨o2, hc2⟩, hgl, hnx⟩ := hst j wr hlt hIj
      obtain rfl := ha (by omega)
      have HN := hide hnx
      have HT := hide (fun W => markText_any (k0 + 2 * j) W (by omega) (by omega))
      clear hnx hIj hI hst ha
      obtain ⟨y, hy⟩ : ∃ y : Bool, mH (k0 + 2 * j + 1) = y := ⟨_, rfl⟩
      have hz : ((k0 + 2 * (j : Int) + 1) % 3 == 0) = y := hy
      rw [hy] at HN
      clear hy
      generalize mT (k0 + 2 * j) = tx at HN HT
      have hj0 : (0 : Int) ≤ (j : Int) := by omega
      have hjn : (j : Int) < (n : Int) := by omega
      go_wp2_with fail
      refine (HT.out _).mono ?_
      rintro e W2 ⟨rfl, hb⟩
      have c2 := keepc hb hc
      have c3 := keepc hb hc2
      have f2 : ∀ i, W2.frozen? ⟨g, i, none⟩ = false := fun i => by
        rw [World.frozen?_of_block (a := ⟨g, i, none⟩) (hb.block g hgl)]; exact hf i
      have HI := hide (HN.out W2 hb)
      clear HN HT hf hc hc2 hb
      go_wp2
      go_roundw
      case rel => exact ⟨j + 1, by omega, by go_num, by go_num, HI.out⟩
      case measure => simp [intOf]; omega
    · have e : j = n := by omega
      subst e
      have HI := hide hIj
      clear hst hI hIj
      go_wp2
      go_ret
      exact ⟨rfl, HI.out⟩

theorem keep2M {w W W' : World} {p0 p1 : Addr} {x0 x1 : Value} (h : Below w.heap.size w W ∧ W.cell? p0 = some x0 ∧ W.cell? p1 = some x1) (hb : Below W.heap.size W W') : Below w.heap.size w W' ∧ W'.cell? p0 = some x0 ∧ W'.cell? p1 = some x1 := ⟨h.1.trans (hb.mono h.1.size), keepc hb h.2.1, keepc hb h.2.2⟩
set_option maxHeartbeats 4000000 in
theorem heldW_any (v : Value) (n : Nat) (k0 : Int) (w : World) (hn : n ≤ 1048576) (h0 : 0 < k0) (h1 : k0 ≤ 7000000) (hs : Sg w v 2 n (wF (fun j => mT (k0 + 2 * j)) (fun j => mH (k0 + 2 * j + 1)))) :
    Calls Try.prog 46 #[v, .int .i64 k0] w fun e w' => e = .returned (.int .i64 (k0 + 2 * n)) ∧ Below w.heap.size w w' := by
  obtain ⟨a, c, rfl, hs⟩ := hs
  go_enter Try.func46, Try.ntmps46
  go_wp2
  go_loopw [1, 5] (fun t i wr => ∃ j : Nat, j ≤ n ∧ i = .int .i64 j ∧ t = .int .i64 (k0 + 2 * j) ∧ Below w.heap.size w wr) (fun _ i _ => n - (intOf i).toNat)
  case atStart => exact ⟨0, Nat.zero_le _, rfl, by simp, Below.refl _ _⟩
  case round =>
    obtain ⟨j, hj, rfl, rfl, hb⟩ := hrel
    by_cases hlt : j < n
    · obtain ⟨g, off, rfl, hc⟩ := hs (by omega)
      have q0 : wr.cell? ⟨g, off + j * 2, none⟩ = some (.string (mT (k0 + 2 * j))) := keepc hb (hc j hlt 0 (by decide))
      have q1 : wr.cell? ⟨g, off + j * 2 + 1, none⟩ = some (.bool (mH (k0 + 2 * j + 1))) := keepc hb (hc j hlt 1 (by decide))
      have HT := hide (fun W => markText_any (k0 + 2 * j) W (by omega) (by omega))
      have HB := hide hb
      have hss : ((mT (k0 + 2 * j)).toList == (mT (k0 + 2 * j)).toList) = true := str_self _
      clear hs hc hb
      obtain ⟨y, hy⟩ : ∃ y : Bool, mH (k0 + 2 * j + 1) = y := ⟨_, rfl⟩
      have hz : ((k0 + 2 * (j : Int) + 1) % 3 == 0) = y := hy
      rw [hy] at q1
      clear hy
      generalize mT (k0 + 2 * j) = tx at HT q0 hss
      have hk0 : (0 : Int) ≤ (j : Int) := by omega
      have hk1 : (j : Int) < (n : Int) := by omega
      have hbk := HB.out
      go_wp2
      go_region_held3 (fun w' => Below w.heap.size w w' ∧ w'.cell? ⟨g, off + j * 2, none⟩ = some (.string tx) ∧ w'.cell? ⟨g, off + j * 2 + 1, none⟩ = some (.bool y)) (first | exact ⟨hbk.drew, q0, q1⟩ | exact keep2M (by assumption) hbc) (first | (go_at_call 49; refine (HT.out _).mono ?_; rintro e w2 ⟨rfl, hbc⟩))
      rename_i hS
      obtain ⟨hS1, _, c1⟩ := hS
      have HS := hide hS1
      clear hS1 q0 q1
      cases y
      · go_wp2
        go_roundw
        case rel => exact ⟨j + 1, by omega, by go_num, by go_num, HS.out⟩
        case measure => simp [intOf]; omega
      · go_wp2
        go_roundw
        case rel => exact ⟨j + 1, by omega, by go_num, by go_num, HS.out⟩
        case measure => simp [intOf]; omega
    · have e : j = n := by omega
      subst e
      have HB := hide hb
      clear hs hb
      go_wp2
      go_ret
      exact ⟨rfl, HB.out⟩

end Go.Proofs.Ytnkocikbapbbmaa

/- links marked, marks found (written by mkLmC.py) -/
namespace Go.Proofs.Ytnkocikbapbbmaa
open Go.RowKit
set_option linter.unusedVariables false
set_option linter.unusedSimpArgs false

theorem Rg.setT {w : World} {base g off n k : Nat} {s : Nat → ByteArray} {z : Nat} (b : ByteArray) (hr : Rg w base (.slice (some ⟨g, off, none⟩) n k) 1 n (tF s)) (hz : z < n) :
    Rg (w.setCell ⟨g, off + z, none⟩ (.string b)) base (.slice (some ⟨g, off, none⟩) n k) 1 n (tF (upd s z b)) := by
  obtain ⟨g', off', e, h1, h2, h3, h4, h5⟩ := hr.rows (by omega)
  cases e
  refine .inr ⟨g, off, k, rfl, h1, by omega, h2, h3, h4.set _, fun x hx => ?_⟩
  have c0 := h5 z (by omega)
  by_cases e1 : x = z
  · subst e1
    rw [World.cell?_setCell_same _ _ _ c0, Nat.div_one]
    simp [upd]
  · rw [far_set (by omega), h5 x hx, Nat.div_one]
    simp [upd, e1]
theorem markS_rg (v : Value) (n : Nat) (s : Nat → ByteArray) (k0 : Int) (base : Nat) (w : World) (hr : Rg w base v 1 n (tF s)) (hn : n ≤ 1048576) (h0 : 0 < k0) (h1 : k0 ≤ 7000000) :
    Calls Try.prog 43 #[v, .int .i64 k0] w fun e w' => e = .returned (.int .i64 (k0 + n)) ∧ Mv (fun g => rb v = some g) w w' ∧ Rg w' base v 1 n (tF (fun j => mT (k0 + j))) := by
  obtain ⟨a, c, rfl, hc⟩ := hr.form
  by_cases hz : n = 0
  · subst hz
    refine (markS_gen a 0 0 0 c k0 (fun _ W => W = w) w (by omega) h0 (by omega) (fun h => absurd h (by omega)) rfl (fun j W hj => absurd hj (by omega))).mono (fun e w' h => ⟨h.1, ?_, ?_⟩)
    · rw [h.2]; exact Mv.refl _ _
    · rw [h.2]
      exact hr.congr (by decide) (fun j hj => absurd hj (by omega))
  obtain ⟨g, off, rfl, _⟩ := hr.rows (by omega)
  have hp := hr.rbpos (by omega)
  refine (markS_gen _ g off n c k0 (fun j W => Mv (fun g => rb (.slice (some ⟨g, off, none⟩) n c) = some g) w W ∧ Mv (fun x => x = g) w W ∧ Rg W base (.slice (some ⟨g, off, none⟩) n c) 1 n (tF (fun x => if x < j then mT (k0 + x) else s x))) w hn h0 (by omega) (fun _ => rfl) ⟨Mv.refl _ _, Mv.refl _ _, hr.congr (by decide) (fun j hj i hi => by simp)⟩ (fun j W hj hI => ?_)).mono (fun e w' h => ⟨h.1, h.2.2.1.mono (fun x _ e => by subst e; exact hp), h.2.2.2.congr (by decide) (fun j hj i hi => by simp [hj])⟩)
  obtain ⟨_, hm, hR⟩ := hI
  obtain ⟨g', off', e, q1, q2, q3, q4, q5⟩ := hR.rows (by omega)
  cases e
  refine ⟨q4.facts.1 _, ⟨_, q5 j (by omega)⟩, q4.lt, fun W2 hb => ?_⟩
  have hm2 : Mv (fun x => x = g) w (W2.setCell ⟨g, off + j, none⟩ (.string (mT (k0 + j)))) := Mv.set (hm.step (Mv.of_below hb) (fun _ _ h => h.elim)) _ _
  refine ⟨hm2.mono (fun x _ e => by subst e; exact hp), hm2, ?_⟩
  refine ((hR.below hb).setT (mT (k0 + j)) hj).congr (by decide) (fun x hx i hi => ?_)
  unfold upd
  by_cases e : x = j
  · subst e; simp
  · by_cases e2 : x < j
    · simp [e, e2, show x < j + 1 by omega]
    · simp [e, e2, show ¬ x < j + 1 by omega]
theorem markW_rg (v : Value) (n : Nat) (t : Nat → ByteArray) (h : Nat → Bool) (k0 : Int) (base : Nat) (w : World) (hr : Rg w base v 2 n (wF t h)) (hn : n ≤ 1048576) (h0 : 0 < k0) (h1 : k0 ≤ 7000000) :
    Calls Try.prog 44 #[v, .int .i64 k0] w fun e w' => e = .returned (.int .i64 (k0 + 2 * n)) ∧ Mv (fun g => rb v = some g) w w' ∧ Rg w' base v 2 n (wF (fun j => mT (k0 + 2 * j)) (fun j => mH (k0 + 2 * j + 1))) := by
  obtain ⟨a, c, rfl, hc⟩ := hr.form
  by_cases hz : n = 0
  · subst hz
    refine (markW_gen a 0 0 0 c k0 (fun _ W => W = w) w (by omega) h0 (by omega) (fun h => absurd h (by omega)) rfl (fun j W hj => absurd hj (by omega))).mono (fun e w' h => ⟨h.1, ?_, ?_⟩)
    · rw [h.2]; exact Mv.refl _ _
    · rw [h.2]
      exact hr.congr (by decide) (fun j hj => absurd hj (by omega))
  obtain ⟨g, off, rfl, _⟩ := hr.rows (by omega)
  have hp := hr.rbpos (by omega)
  refine (markW_gen _ g off n c k0 (fun j W => Mv (fun x => x = g) w W ∧ Rg W base (.slice (some ⟨g, off, none⟩) n c) 2 n (wF (fun x => if x < j then mT (k0 + 2 * x) else t x) (fun x => if x < j then mH (k0 + 2 * x + 1) else h x))) w hn h0 (by omega) (fun _ => rfl) ⟨Mv.refl _ _, hr.congr (by decide) (fun j hj i hi => by simp)⟩ (fun j W hj hI => ?_)).mono (fun e w' h => ⟨h.1, h.2.1.mono (fun x _ e => by subst e; exact hp), h.2.2.congr (by decide) (fun j hj i hi => by unfold wF; simp [hj])⟩)
  obtain ⟨hm, hR⟩ := hI
  obtain ⟨g', off', e, q1, q2, q3, q4, q5⟩ := hR.rows (by omega)
  cases e
  refine ⟨q4.facts.1, ⟨_, q5 (j * 2) (by omega)⟩, ⟨_, q5 (j * 2 + 1) (by omega)⟩, q4.lt, fun W2 hb => ?_⟩
  refine ⟨((hm.step (Mv.of_below hb) (fun _ _ h => h.elim)).set _ _).set _ _, ?_⟩
  refine ((hR.below hb).setW (mT (k0 + 2 * j)) (mH (k0 + 2 * j + 1)) hj).congr (by decide) (fun x hx i hi => ?_)
  unfold wF upd
  by_cases e : x = j
  · subst e; simp
  · by_cases e2 : x < j
    · simp [e, e2, show x < j + 1 by omega]
    · simp [e, e2, show ¬ x < j + 1 by omega]
theorem markS_w (g n : Nat) (k0 : Int) (w : World) (hw : Wc w g n) (hn : n ≤ 1048576) (h0 : 0 < k0) (h1 : k0 ≤ 7000000) :
    Calls Try.prog 43 #[sln g n, .int .i64 k0] w fun e w' => e = .returned (.int .i64 (k0 + n)) ∧ Mv (fun x => x = g) w w' ∧ ∀ x len, Wc w x len → Wc w' x len := by
  refine (markS_gen _ g 0 n n k0 (fun j W => Mv (fun x => x = g) w W ∧ ∀ x len, Wc w x len → Wc W x len) w hn h0 (by omega) (fun _ => rfl) ⟨Mv.refl _ _, fun _ _ h => h⟩ (fun j W hj hI => ?_)).mono (fun e w' h => h)
  have q := hI.2 g n hw
  refine ⟨q.facts.1 _, q.facts.2 _ (by omega), q.lt, fun W2 hb => ⟨(hI.1.step (Mv.of_below hb) (fun _ _ h => h.elim)).set _ _, fun x len hx => ((hI.2 x len hx).below hb).set _⟩⟩
theorem markW_w (g n : Nat) (k0 : Int) (w : World) (hw : Wc w g (n * 2)) (hn : n ≤ 1048576) (h0 : 0 < k0) (h1 : k0 ≤ 7000000) :
    Calls Try.prog 44 #[sln g n, .int .i64 k0] w fun e w' => e = .returned (.int .i64 (k0 + 2 * n)) ∧ Mv (fun x => x = g) w w' ∧ ∀ x len, Wc w x len → Wc w' x len := by
  refine (markW_gen _ g 0 n n k0 (fun j W => Mv (fun x => x = g) w W ∧ ∀ x len, Wc w x len → Wc W x len) w hn h0 (by omega) (fun _ => rfl) ⟨Mv.refl _ _, fun _ _ h => h⟩ (fun j W hj hI => ?_)).mono (fun e w' h => h)
  have q := hI.2 g (n * 2) hw
  refine ⟨q.facts.1, q.facts.2 _ (by omega), q.facts.2 _ (by omega), q.lt, fun W2 hb => ⟨((hI.1.step (Mv.of_below hb) (fun _ _ h => h.elim)).set _ _).set _ _, fun x len hx => (((hI.2 x len hx).below hb).set _).set _⟩⟩
/-- the marks' number behind a link -/
def mkE (p : Lk) (k0 : Int) : Int := k0 + p.nw + p.ng + 2 * p.nd + 2 * p.nu
/-- a link whose every cell is marked -/
def mkL (p : Lk) (k0 : Int) : Lk := { p with ws := fun j => mT (k0 + j), gs := fun j => mT (k0 + p.nw + j), dt := fun j => mT (k0 + p.nw + p.ng + 2 * j), dh := fun j => mH (k0 + p.nw + p.ng + 2 * j + 1), ut := fun j => mT (k0 + p.nw + p.ng + 2 * p.nd + 2 * j), uh := fun j => mH (k0 + p.nw + p.ng + 2 * p.nd + 2 * j + 1) }

set_option maxHeartbeats 8000000 in
set_option maxRecDepth 20000 in
theorem markLink_gen (pb pk : Int) (wv gv dv uv : Value) (k0 k1 k2 k3 k4 : Int) (S : Nat → Prop) (J0 J1 J2 J3 J4 : World → Prop) (w : World) (hS : ∀ g, S g → g < w.heap.size) (st0 : ∀ W W', J0 W → Mv nob W W' → J0 W') (st1 : ∀ W W', J1 W → Mv nob W W' → J1 W') (st2 : ∀ W W', J2 W → Mv nob W W' → J2 W') (st3 : ∀ W W', J3 W → Mv nob W W' → J3 W') (st4 : ∀ W W', J4 W → Mv nob W W' → J4 W') (j0 : J0 w) (c1 : ∀ W, J0 W → Calls Try.prog 43 #[wv, .int .i64 k0] W fun e W' => e = .returned (.int .i64 k1) ∧ Mv S W W' ∧ J1 W') (c2 : ∀ W, J1 W → Calls Try.prog 43 #[gv, .int .i64 k1] W fun e W' => e = .returned (.int .i64 k2) ∧ Mv S W W' ∧ J2 W') (c3 : ∀ W, J2 W → Calls Try.prog 44 #[dv, .int .i64 k2] W fun e W' => e = .returned (.int .i64 k3) ∧ Mv S W W' ∧ J3 W') (c4 : ∀ W, J3 W → Calls Try.prog 44 #[uv, .int .i64 k3] W fun e W' => e = .returned (.int .i64 k4) ∧ Mv S W W' ∧ J4 W') :
    Calls Try.prog 16 #[.agg (l6 pb wv pk gv dv uv), .int .i64 k0] w fun e w' => e = .returned (.int .i64 k4) ∧ Mv S w w' ∧ J4 w' := by
  have HB : Hid (Mv S w w) := hide (Mv.refl _ _)
  have HJ := hide j0
  have hso := hS
  clear j0
  go_enter Try.func16, Try.ntmps16
  refine sk fun K hK => rl ?_
  refine sbp #[.int .i64 pb, wv, .int .i64 pk, gv, dv, uv] 30 fun V1 b0 hb0 m1 bx0 => ?_
  have o_0 : w.heap.size ≤ b0 := by omega
  replace HB := Xhn HB m1
  replace HJ := hide (st0 _ _ HJ.out m1)
  clear hb0 m1
  refine sv (.int .i64 0) ?_
  refine nt (hK _ _ ?_); clear hK K; refine sk fun K hK => rl ?_
  refine sv (.pointer (some ⟨b0, 1, none⟩)) ?_
  refine sl 1 bx0 ?_
  refine sv (.int .i64 k0) ?_
  refine sw_call (by rfl) (by first | rfl | (go_simp; done)) (c1 V1 HJ.out) ?_
  rintro e V2 ⟨rfl, mm, hj⟩
  have m2 : Mv (S) V1 V2 := mm
  refine ⟨_, rfl, ?_⟩
  refine pt ?_
  replace HB := hide (HB.out.step m2 (fun _ _ h => h))
  replace bx0 := hide (m2.box bx0.out (fun h => by have := hso _ h; omega))
  replace HJ := hide hj
  clear hj mm; clear m2
  refine sv (.int .i64 k1) ?_
  refine nt (hK _ _ ?_); clear hK K; refine sk fun K hK => rl ?_
  refine sv (.pointer (some ⟨b0, 3, none⟩)) ?_
  refine sl 3 bx0 ?_
  refine sv (.int .i64 k1) ?_
  refine sw_call (by rfl) (by first | rfl | (go_simp; done)) (c2 V2 HJ.out) ?_
  rintro e V3 ⟨rfl, mm, hj⟩
  have m3 : Mv (S) V2 V3 := mm
  refine ⟨_, rfl, ?_⟩
  refine pt ?_
  replace HB := hide (HB.out.step m3 (fun _ _ h => h))
  replace bx0 := hide (m3.box bx0.out (fun h => by have := hso _ h; omega))
  replace HJ := hide hj
  clear hj mm; clear m3
  refine sv (.int .i64 k2) ?_
  refine nt (hK _ _ ?_); clear hK K; refine sk fun K hK => rl ?_
  refine sv (.pointer (some ⟨b0, 4, none⟩)) ?_
  refine sl 4 bx0 ?_
  refine sv (.int .i64 k2) ?_
  refine sw_call (by rfl) (by first | rfl | (go_simp; done)) (c3 V3 HJ.out) ?_
  rintro e V4 ⟨rfl, mm, hj⟩
  have m4 : Mv (S) V3 V4 := mm
  refine ⟨_, rfl, ?_⟩
  refine pt ?_
  replace HB := hide (HB.out.step m4 (fun _ _ h => h))
  replace bx0 := hide (m4.box bx0.out (fun h => by have := hso _ h; omega))
  replace HJ := hide hj
  clear hj mm; clear m4
  refine sv (.int .i64 k3) ?_
  refine nt (hK _ _ ?_); clear hK K; refine sk fun K hK => rl ?_
  refine sv (.pointer (some ⟨b0, 5, none⟩)) ?_
  refine sl 5 bx0 ?_
  refine sv (.int .i64 k3) ?_
  refine sw_call (by rfl) (by first | rfl | (go_simp; done)) (c4 V4 HJ.out) ?_
  rintro e V5 ⟨rfl, mm, hj⟩
  have m5 : Mv (S) V4 V5 := mm
  refine ⟨_, rfl, ?_⟩
  refine pt ?_
  replace HB := hide (HB.out.step m5 (fun _ _ h => h))
  replace bx0 := hide (m5.box bx0.out (fun h => by have := hso _ h; omega))
  replace HJ := hide hj
  clear hj mm; clear m5
  refine sv (.int .i64 k4) ?_
  refine nt (hK _ _ ?_); clear hK K; refine sk fun K hK => rl ?_
  refine sv (.int .i64 k4) ?_
  refine sv (.int .i64 k4) ?_
  refine nt (hK _ _ ?_); clear hK K; refine wp_ret ?_
  try simp only [Exit.then, Exit.inBlock, ↓reduceIte, Nat.reduceEqDiff]
  exact bodyPost_ret (v := .int .i64 k4) (by simp [results, Try.results16, go_sem]) rfl ⟨rfl, HB.out, HJ.out⟩

set_option maxHeartbeats 8000000 in
set_option maxRecDepth 20000 in
theorem heldLink_gen (pb pk : Int) (wv gv dv uv : Value) (k0 k1 k2 k3 k4 : Int) (w : World) (n1 : decide (k1 < 0) = false) (n2 : decide (k2 < 0) = false) (n3 : decide (k3 < 0) = false) (n4 : decide (k4 < 0) = false) (c1 : ∀ W, Below w.heap.size w W → Calls Try.prog 45 #[wv, .int .i64 k0] W fun e W' => e = .returned (.int .i64 k1) ∧ Below W.heap.size W W') (c2 : ∀ W, Below w.heap.size w W → Calls Try.prog 45 #[gv, .int .i64 k1] W fun e W' => e = .returned (.int .i64 k2) ∧ Below W.heap.size W W') (c3 : ∀ W, Below w.heap.size w W → Calls Try.prog 46 #[dv, .int .i64 k2] W fun e W' => e = .returned (.int .i64 k3) ∧ Below W.heap.size W W') (c4 : ∀ W, Below w.heap.size w W → Calls Try.prog 46 #[uv, .int .i64 k3] W fun e W' => e = .returned (.int .i64 k4) ∧ Below W.heap.size W W') :
    Calls Try.prog 17 #[.agg (l6 pb wv pk gv dv uv), .int .i64 k0] w fun e w' => e = .returned (.int .i64 k4) ∧ Below w.heap.size w w' := by
  have HB : Hid (Mv nob w w) := hide (Mv.refl _ _)
  go_enter Try.func17, Try.ntmps17
  refine sk fun K hK => rl ?_
  refine sbp #[.int .i64 pb, wv, .int .i64 pk, gv, dv, uv] 30 fun V1 b0 hb0 m1 bx0 => ?_
  have o_0 : w.heap.size ≤ b0 := by omega
  replace HB := Xhn HB m1; clear hb0 m1
  refine sv (.int .i64 0) ?_
  refine nt (hK _ _ ?_); clear hK K; refine sk fun K hK => rl ?_
  refine sv (.pointer (some ⟨b0, 1, none⟩)) ?_
  refine sl 1 bx0 ?_
  refine sv (.int .i64 k0) ?_
  refine sw_call (by rfl) (by first | rfl | (go_simp; done)) (c1 V1 HB.out.below) ?_
  rintro e V2 ⟨rfl, hbV2⟩
  have m2 : Mv (nob) V1 V2 := Mv.of_below hbV2
  refine ⟨_, rfl, ?_⟩
  refine pt ?_
  replace HB := Xhn HB m2; replace bx0 := Xbn bx0 m2; clear hbV2; clear m2
  refine sv (.int .i64 k1) ?_
  refine nt (hK _ _ ?_); clear hK K; refine sk fun K hK => sk fun K hK => rl ?_
  refine sv (.int .i64 k1) ?_
  refine sg (.bool false) (h := by have hk := n1; go_simp) ?_
  refine nt (hK _ _ ?_); clear hK K; refine cf (wp_skip (then_normal (hK _ _ ?_))); clear hK K; refine sk fun K hK => rl ?_
  refine sv (.pointer (some ⟨b0, 3, none⟩)) ?_
  refine sl 3 bx0 ?_
  refine sv (.int .i64 k1) ?_
  refine sw_call (by rfl) (by first | rfl | (go_simp; done)) (c2 V2 HB.out.below) ?_
  rintro e V3 ⟨rfl, hbV3⟩
  have m3 : Mv (nob) V2 V3 := Mv.of_below hbV3
  refine ⟨_, rfl, ?_⟩
  refine pt ?_
  replace HB := Xhn HB m3; replace bx0 := Xbn bx0 m3; clear hbV3; clear m3
  refine sv (.int .i64 k2) ?_
  refine nt (hK _ _ ?_); clear hK K; refine sk fun K hK => sk fun K hK => rl ?_
  refine sv (.int .i64 k2) ?_
  refine sg (.bool false) (h := by have hk := n2; go_simp) ?_
  refine nt (hK _ _ ?_); clear hK K; refine cf (wp_skip (then_normal (hK _ _ ?_))); clear hK K; refine sk fun K hK => rl ?_
  refine sv (.pointer (some ⟨b0, 4, none⟩)) ?_
  refine sl 4 bx0 ?_
  refine sv (.int .i64 k2) ?_
  refine sw_call (by rfl) (by first | rfl | (go_simp; done)) (c3 V3 HB.out.below) ?_
  rintro e V4 ⟨rfl, hbV4⟩
  have m4 : Mv (nob) V3 V4 := Mv.of_below hbV4
  refine ⟨_, rfl, ?_⟩
  refine pt ?_
  replace HB := Xhn HB m4; replace bx0 := Xbn bx0 m4; clear hbV4; clear m4
  refine sv (.int .i64 k3) ?_
  refine nt (hK _ _ ?_); clear hK K; refine sk fun K hK => sk fun K hK => rl ?_
  refine sv (.int .i64 k3) ?_
  refine sg (.bool false) (h := by have hk := n3; go_simp) ?_
  refine nt (hK _ _ ?_); clear hK K; refine cf (wp_skip (then_normal (hK _ _ ?_))); clear hK K; refine sk fun K hK => rl ?_
  refine sv (.pointer (some ⟨b0, 5, none⟩)) ?_
  refine sl 5 bx0 ?_
  refine sv (.int .i64 k3) ?_
  refine sw_call (by rfl) (by first | rfl | (go_simp; done)) (c4 V4 HB.out.below) ?_
  rintro e V5 ⟨rfl, hbV5⟩
  have m5 : Mv (nob) V4 V5 := Mv.of_below hbV5
  refine ⟨_, rfl, ?_⟩
  refine pt ?_
  replace HB := Xhn HB m5; clear hbV5; clear m5
  refine sv (.int .i64 k4) ?_
  refine nt (hK _ _ ?_); clear hK K; refine sk fun K hK => sk fun K hK => rl ?_
  refine sv (.int .i64 k4) ?_
  refine sg (.bool false) (h := by have hk := n4; go_simp) ?_
  refine nt (hK _ _ ?_); clear hK K; refine cf (wp_skip (then_normal (hK _ _ ?_))); clear hK K; refine sk fun K hK => rl ?_
  refine sv (.int .i64 k4) ?_
  refine sv (.int .i64 k4) ?_
  refine nt (hK _ _ ?_); clear hK K; refine wp_ret ?_
  try simp only [Exit.then, Exit.inBlock, ↓reduceIte, Nat.reduceEqDiff]
  exact bodyPost_ret (v := .int .i64 k4) (by simp [results, Try.results17, go_sem]) rfl ⟨rfl, HB.out.below⟩

theorem markLink_lr (wv gv dv uv : Value) (p : Lk) (k0 : Int) (base : Nat) (w : World) (hr : Lr w base wv gv dv uv p) (hs : p.nw ≤ 1048576 ∧ p.ng ≤ 1048576 ∧ p.nd ≤ 1048576 ∧ p.nu ≤ 1048576) (h0 : 0 < k0) (h1 : k0 ≤ 1000) :
    Calls Try.prog 16 #[.agg (l6 p.base wv p.want gv dv uv), .int .i64 k0] w fun e w' => e = .returned (.int .i64 (mkE p k0)) ∧ Mv (Lrb wv gv dv uv) w w' ∧ Lr w' base wv gv dv uv (mkL p k0) := by
  obtain ⟨s1, s2, s3, s4⟩ := hs
  refine markLink_gen p.base p.want wv gv dv uv k0 (k0 + p.nw) (k0 + p.nw + p.ng) (k0 + p.nw + p.ng + 2 * p.nd) (mkE p k0) (Lrb wv gv dv uv)
    (fun W => Lr W base wv gv dv uv p) (fun W => Lr W base wv gv dv uv { p with ws := (mkL p k0).ws }) (fun W => Lr W base wv gv dv uv { p with ws := (mkL p k0).ws, gs := (mkL p k0).gs }) (fun W => Lr W base wv gv dv uv { p with ws := (mkL p k0).ws, gs := (mkL p k0).gs, dt := (mkL p k0).dt, dh := (mkL p k0).dh }) (fun W => Lr W base wv gv dv uv (mkL p k0)) w (fun g h => (hr.lt g h).2)
    (fun _ _ h m => h.mv m (fun _ _ h => h)) (fun _ _ h m => h.mv m (fun _ _ h => h)) (fun _ _ h m => h.mv m (fun _ _ h => h)) (fun _ _ h m => h.mv m (fun _ _ h => h)) (fun _ _ h m => h.mv m (fun _ _ h => h)) hr ?_ ?_ ?_ ?_
  · intro W h
    refine (markS_rg wv p.nw _ k0 base W h.wa s1 h0 (by omega)).mono (fun e W' q => ⟨q.1, q.2.1.mono (fun g _ e => .inl e), ?_⟩)
    exact ⟨q.2.2, h.go.mv q.2.1 (fun g e e2 => (h.aw g e2).1 e), h.dn.mv q.2.1 (fun g e e2 => (h.aw g e2).2.1 e), h.up.mv q.2.1 (fun g e e2 => (h.aw g e2).2.2 e), h.aw, h.ag, h.ad⟩
  · intro W h
    refine (markS_rg gv p.ng _ (k0 + p.nw) base W h.go s2 (by omega) (by omega)).mono (fun e W' q => ⟨q.1, q.2.1.mono (fun g _ e => .inr (.inl e)), ?_⟩)
    exact ⟨h.wa.mv q.2.1 (fun g e e2 => (h.aw g e).1 e2), q.2.2, h.dn.mv q.2.1 (fun g e e2 => (h.ag g e2).1 e), h.up.mv q.2.1 (fun g e e2 => (h.ag g e2).2 e), h.aw, h.ag, h.ad⟩
  · intro W h
    refine (markW_rg dv p.nd _ _ (k0 + p.nw + p.ng) base W h.dn s3 (by omega) (by omega)).mono (fun e W' q => ⟨q.1, q.2.1.mono (fun g _ e => .inr (.inr (.inl e))), ?_⟩)
    exact ⟨h.wa.mv q.2.1 (fun g e e2 => (h.aw g e).2.1 e2), h.go.mv q.2.1 (fun g e e2 => (h.ag g e).1 e2), q.2.2, h.up.mv q.2.1 (fun g e e2 => h.ad g e2 e), h.aw, h.ag, h.ad⟩
  · intro W h
    refine (markW_rg uv p.nu _ _ (k0 + p.nw + p.ng + 2 * p.nd) base W h.up s4 (by omega) (by omega)).mono (fun e W' q => ⟨q.1, q.2.1.mono (fun g _ e => .inr (.inr (.inr e))), ?_⟩)
    exact ⟨h.wa.mv q.2.1 (fun g e e2 => (h.aw g e).2.2 e2), h.go.mv q.2.1 (fun g e e2 => (h.ag g e).2 e2), h.dn.mv q.2.1 (fun g e e2 => h.ad g e e2), q.2.2, h.aw, h.ag, h.ad⟩
theorem heldLink_lr (wv gv dv uv : Value) (p : Lk) (k0 : Int) (w : World) (hv : Lv w wv gv dv uv (mkL p k0)) (hs : p.nw ≤ 1048576 ∧ p.ng ≤ 1048576 ∧ p.nd ≤ 1048576 ∧ p.nu ≤ 1048576) (h0 : 0 < k0) (h1 : k0 ≤ 1000) :
    Calls Try.prog 17 #[.agg (l6 p.base wv p.want gv dv uv), .int .i64 k0] w fun e w' => e = .returned (.int .i64 (mkE p k0)) ∧ Below w.heap.size w w' := by
  obtain ⟨s1, s2, s3, s4⟩ := hs
  exact heldLink_gen p.base p.want wv gv dv uv k0 (k0 + p.nw) (k0 + p.nw + p.ng) (k0 + p.nw + p.ng + 2 * p.nd) (mkE p k0) w
    (decide_eq_false (by omega)) (decide_eq_false (by omega)) (decide_eq_false (by omega)) (decide_eq_false (by unfold mkE; omega))
    (fun W hb => heldS_any wv p.nw k0 W s1 h0 (by omega) (hv.wa.below hb)) (fun W hb => heldS_any gv p.ng (k0 + p.nw) W s2 (by omega) (by omega) (hv.go.below hb))
    (fun W hb => heldW_any dv p.nd (k0 + p.nw + p.ng) W s3 (by omega) (by omega) (hv.dn.below hb)) (fun W hb => heldW_any uv p.nu (k0 + p.nw + p.ng + 2 * p.nd) W s4 (by omega) (by omega) (hv.up.below hb))
theorem markLink_lo (gw gg gd gu : Nat) (p : Lk) (k0 : Int) (base : Nat) (w : World) (hr : Lo w base gw gg gd gu p) (hs : p.nw ≤ 1048576 ∧ p.ng ≤ 1048576 ∧ p.nd ≤ 1048576 ∧ p.nu ≤ 1048576) (h0 : 0 < k0) (h1 : k0 ≤ 1000) :
    Calls Try.prog 16 #[.agg (l6 p.base (sln gw p.nw) p.want (sln gg p.ng) (sln gd p.nd) (sln gu p.nu)), .int .i64 k0] w fun e w' => e = .returned (.int .i64 (mkE p k0)) ∧ Mv (fun g => g = gw ∨ g = gg ∨ g = gd ∨ g = gu) w w' := by
  obtain ⟨s1, s2, s3, s4⟩ := hs
  have wc : ∀ {g n m : Nat} {T : TypeId} {f : Nat → Nat → Value}, Cr w g T m n n f → Wc w g (n * m) := fun h => by
    obtain ⟨cur, q1, q2, _⟩ := h
    exact ⟨cur, _, q1, by omega⟩
  have w1 := wc hr.wa
  have w2 := wc hr.go
  have w3 := wc hr.dn
  have w4 := wc hr.up
  rw [Nat.mul_one] at w1 w2
  have J : ∀ W W', (Wc W gw p.nw ∧ Wc W gg p.ng ∧ Wc W gd (p.nd * 2) ∧ Wc W gu (p.nu * 2)) → Mv nob W W' → (Wc W' gw p.nw ∧ Wc W' gg p.ng ∧ Wc W' gd (p.nd * 2) ∧ Wc W' gu (p.nu * 2)) := fun W W' h m => ⟨h.1.below m.below, h.2.1.below m.below, h.2.2.1.below m.below, h.2.2.2.below m.below⟩
  refine (markLink_gen p.base p.want _ _ _ _ k0 (k0 + p.nw) (k0 + p.nw + p.ng) (k0 + p.nw + p.ng + 2 * p.nd) (mkE p k0) (fun g => g = gw ∨ g = gg ∨ g = gd ∨ g = gu) _ _ _ _ _ w (fun g h => by have := w1.lt; have := w2.lt; have := w3.lt; have := w4.lt; omega) J J J J J ⟨w1, w2, w3, w4⟩ ?_ ?_ ?_ ?_).mono (fun e w' h => ⟨h.1, h.2.1⟩)
  · intro W h
    exact (markS_w gw p.nw k0 W h.1 s1 h0 (by omega)).mono (fun e W' q => ⟨q.1, q.2.1.mono (fun g _ e => .inl e), q.2.2 _ _ h.1, q.2.2 _ _ h.2.1, q.2.2 _ _ h.2.2.1, q.2.2 _ _ h.2.2.2⟩)
  · intro W h
    exact (markS_w gg p.ng (k0 + p.nw) W h.2.1 s2 (by omega) (by omega)).mono (fun e W' q => ⟨q.1, q.2.1.mono (fun g _ e => .inr (.inl e)), q.2.2 _ _ h.1, q.2.2 _ _ h.2.1, q.2.2 _ _ h.2.2.1, q.2.2 _ _ h.2.2.2⟩)
  · intro W h
    exact (markW_w gd p.nd (k0 + p.nw + p.ng) W h.2.2.1 s3 (by omega) (by omega)).mono (fun e W' q => ⟨q.1, q.2.1.mono (fun g _ e => .inr (.inr (.inl e))), q.2.2 _ _ h.1, q.2.2 _ _ h.2.1, q.2.2 _ _ h.2.2.1, q.2.2 _ _ h.2.2.2⟩)
  · intro W h
    exact (markW_w gu p.nu (k0 + p.nw + p.ng + 2 * p.nd) W h.2.2.2 s4 (by omega) (by omega)).mono (fun e W' q => ⟨q.1, q.2.1.mono (fun g _ e => .inr (.inr (.inr e))), q.2.2 _ _ h.1, q.2.2 _ _ h.2.1, q.2.2 _ _ h.2.2.1, q.2.2 _ _ h.2.2.2⟩)

end Go.Proofs.Ytnkocikbapbbmaa
