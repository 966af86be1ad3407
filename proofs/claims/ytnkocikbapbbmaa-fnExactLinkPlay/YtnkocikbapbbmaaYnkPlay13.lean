/- FlC -/
import Derived.Test.YtnkocikbapbbmaaYnkPlay12
/- FlitText -/
namespace Go.Proofs.Ytnkocikbapbbmaa
open Go.RowKit
set_option linter.unusedVariables false
set_option linter.unusedSimpArgs false

namespace Flit
def u8 (n : Nat) : UInt8 := UInt8.ofNat n
theorem u8_nat (n : Nat) : ((u8 n).toNat : Int) = ((n % 256 : Nat) : Int) := by unfold u8; simp [UInt8.toNat_ofNat']
def head (k s : Nat) (b : ByteArray) : ByteArray := ⟨#[u8 k, u8 (s / 65536), u8 (s / 256), u8 s, u8 b.size]⟩
def two (c : Nat) : ByteArray := ⟨#[u8 (c / 256), u8 c]⟩
def body (k s : Nat) (b : ByteArray) : ByteArray := head k s b ++ b
def text (k s : Nat) (b : ByteArray) : ByteArray := body k s b ++ two (Crc.crc (body k s b) (body k s b).size)
def txt (k s : Int) (b : ByteArray) : ByteArray := if ok k s b then text k.toNat s.toNat b else ⟨#[]⟩
theorem body_size (k s : Nat) (b : ByteArray) : (body k s b).size = 5 + b.size := by unfold body; rw [ByteArray.size_append]; rfl
theorem text_size (k s : Nat) (b : ByteArray) : (text k s b).size = 7 + b.size := by unfold text; rw [ByteArray.size_append, body_size]; show 5 + b.size + 2 = _; omega
theorem ok_facts {k s : Int} {b : ByteArray} (h : ok k s b = true) : ∃ k' s' : Nat, k = k' ∧ s = s' ∧ s' ≤ 1000000 ∧ (k' = 1 ∨ k' = 2) ∧ b.size ≤ 8 := by
  have h2 := of_decide_eq_true h
  refine ⟨k.toNat, s.toNat, ?_, ?_, ?_, ?_, ?_⟩ <;> rcases h2.2 with h3 | h3 <;> omega
end Flit

/-- five bytes as a text -/
theorem conv5 (w : World) (c0 c1 c2 c3 c4 : UInt8) (n0 n1 n2 n3 n4 : Int) (h0 : n0 = (c0.toNat : Int)) (h1 : n1 = (c1.toNat : Int)) (h2 : n2 = (c2.toNat : Int)) (h3 : n3 = (c3.toNat : Int)) (h4 : n4 = (c4.toNat : Int)) :
    (convert 84 9 (.slice (some ⟨w.heap.size, 0, none⟩) 5 5)).run Try.prog (w.alloc (.cells #[.int .u8 n0, .int .u8 n1, .int .u8 n2, .int .u8 n3, .int .u8 n4] 5)) = .ok (.string ⟨#[c0, c1, c2, c3, c4]⟩) (w.alloc (.cells #[.int .u8 n0, .int .u8 n1, .int .u8 n2, .int .u8 n3, .int .u8 n4] 5)) := by
  subst h0 h1 h2 h3 h4
  exact run_convert_bytes_back (P := Try.prog) (w.alloc (.cells #[.int .u8 (c0.toNat : Int), .int .u8 (c1.toNat : Int), .int .u8 (c2.toNat : Int), .int .u8 (c3.toNat : Int), .int .u8 (c4.toNat : Int)] 5)) 84 9 5 ⟨w.heap.size, 0, none⟩ 5 [c0, c1, c2, c3, c4] Try.underlying84 Try.underlying5 Try.underlying9 (fun j hj => by
    match j, hj with
    | 0, _ => simp [Addr.add]
    | 1, _ => simp [Addr.add]
    | 2, _ => simp [Addr.add]
    | 3, _ => simp [Addr.add]
    | 4, _ => simp [Addr.add])
theorem conv2 (w : World) (c0 c1 : UInt8) (n0 n1 : Int) (h0 : n0 = (c0.toNat : Int)) (h1 : n1 = (c1.toNat : Int)) :
    (convert 84 9 (.slice (some ⟨w.heap.size, 0, none⟩) 2 2)).run Try.prog (w.alloc (.cells #[.int .u8 n0, .int .u8 n1] 5)) = .ok (.string ⟨#[c0, c1]⟩) (w.alloc (.cells #[.int .u8 n0, .int .u8 n1] 5)) := by
  subst h0 h1
  exact run_convert_bytes_back (P := Try.prog) (w.alloc (.cells #[.int .u8 (c0.toNat : Int), .int .u8 (c1.toNat : Int)] 5)) 84 9 5 ⟨w.heap.size, 0, none⟩ 2 [c0, c1] Try.underlying84 Try.underlying5 Try.underlying9 (fun j hj => by
    match j, hj with
    | 0, _ => simp [Addr.add]
    | 1, _ => simp [Addr.add])

/-- the argument's block of an impl.Flit -/
def ArgI (w0 w : World) (k s : Int) (b : ByteArray) : Prop := Below w0.heap.size w0 w ∧ w0.heap.size < w.heap.size ∧ w.cell? ⟨w0.heap.size, 0, none⟩ = some (.int .i64 k) ∧ w.cell? ⟨w0.heap.size, 1, none⟩ = some (.int .i64 s) ∧ w.cell? ⟨w0.heap.size, 2, none⟩ = some (.string b)
theorem argI_start (w : World) (k s : Int) (b : ByteArray) : ArgI w (w.alloc (.cells #[.int .i64 k, .int .i64 s, .string b] 88)) k s b :=
  ⟨(Below.refl _ _).alloc (Nat.le_refl _) _, by simp, by simp, by simp, by simp⟩
theorem argI_next {w0 w w' : World} {k s : Int} {b : ByteArray} (h : ArgI w0 w k s b) (hb : Below w.heap.size w w') : ArgI w0 w' k s b :=
  ⟨h.1.trans (hb.mono h.1.size), Nat.lt_of_lt_of_le h.2.1 hb.size, Below.keep hb _ _ h.2.2.1, Below.keep hb _ _ h.2.2.2.1, Below.keep hb _ _ h.2.2.2.2⟩
theorem argI_alloc {w0 w : World} {k s : Int} {b : ByteArray} (h : ArgI w0 w k s b) (o : Obj) : ArgI w0 (w.alloc o) k s b := argI_next h ((Below.refl _ _).alloc (Nat.le_refl _) _)

theorem add_any (a b c : ByteArray) (hc : a ++ b = c) (h : a.size + b.size ≤ 1000) : ∀ W : World, (Op.stringOp .add a b).run Try.prog W = .ok (.string c) W := fun W => by rw [← hc]; exact run_string_add_sum (w := W) a b (by omega)

/-- the pieces of a text, each under a name -/
theorem text_facts (k' s' : Nat) (b : ByteArray) (hs : s' ≤ 1000000) (hk : k' = 1 ∨ k' = 2) (h8 : b.size ≤ 8) : ∃ (hd bd tw tx : ByteArray) (c : Nat),
    (∀ w : World, (convert 84 9 (.slice (some ⟨w.heap.size, 0, none⟩) 5 5)).run Try.prog (w.alloc (.cells #[.int .u8 (k' : Int), .int .u8 ((s' : Int) / 65536), .int .u8 ((s' : Int) / 256 % 256), .int .u8 ((s' : Int) % 256), .int .u8 (b.size : Int)] 5)) = .ok (.string hd) (w.alloc (.cells #[.int .u8 (k' : Int), .int .u8 ((s' : Int) / 65536), .int .u8 ((s' : Int) / 256 % 256), .int .u8 ((s' : Int) % 256), .int .u8 (b.size : Int)] 5))) ∧
    (∀ W : World, (Op.stringOp .add hd b).run Try.prog W = .ok (.string bd) W) ∧ bd.size ≤ 100 ∧ Crc.crc bd bd.size = c ∧ c < 65536 ∧
    (∀ w : World, (convert 84 9 (.slice (some ⟨w.heap.size, 0, none⟩) 2 2)).run Try.prog (w.alloc (.cells #[.int .u8 ((c : Int) / 256), .int .u8 ((c : Int) % 256)] 5)) = .ok (.string tw) (w.alloc (.cells #[.int .u8 ((c : Int) / 256), .int .u8 ((c : Int) % 256)] 5))) ∧
    (∀ W : World, (Op.stringOp .add bd tw).run Try.prog W = .ok (.string tx) W) ∧ Flit.text k' s' b = tx := by
  have hbs := Flit.body_size k' s' b
  have hcl := Crc.crc_lt (Flit.body k' s' b) (Flit.body k' s' b).size
  refine ⟨Flit.head k' s' b, Flit.body k' s' b, Flit.two (Crc.crc (Flit.body k' s' b) (Flit.body k' s' b).size), Flit.text k' s' b, Crc.crc (Flit.body k' s' b) (Flit.body k' s' b).size, ?_, ?_, by omega, rfl, hcl, ?_, ?_, rfl⟩
  · exact fun w => conv5 w (Flit.u8 k') (Flit.u8 (s' / 65536)) (Flit.u8 (s' / 256)) (Flit.u8 s') (Flit.u8 b.size) _ _ _ _ _ (by rw [Flit.u8_nat]; omega) (by rw [Flit.u8_nat]; omega) (by rw [Flit.u8_nat]; omega) (by rw [Flit.u8_nat]; omega) (by rw [Flit.u8_nat]; omega)
  · exact add_any (Flit.head k' s' b) b (Flit.body k' s' b) rfl (by show 5 + b.size ≤ 1000; omega)
  · exact fun w => conv2 w (Flit.u8 (Crc.crc (Flit.body k' s' b) (Flit.body k' s' b).size / 256)) (Flit.u8 (Crc.crc (Flit.body k' s' b) (Flit.body k' s' b).size)) _ _ (by rw [Flit.u8_nat]; omega) (by rw [Flit.u8_nat]; omega)
  · exact add_any (Flit.body k' s' b) (Flit.two (Crc.crc (Flit.body k' s' b) (Flit.body k' s' b).size)) (Flit.text k' s' b) rfl (by show (Flit.body k' s' b).size + 2 ≤ 1000; omega)

set_option maxHeartbeats 2000000 in
theorem implText_any (k s : Int) (b : ByteArray) (w : World) : Calls Try.prog 87 #[.agg #[.int .i64 k, .int .i64 s, .string b]] w fun e w' => e = .returned (.string (Flit.txt k s b)) ∧ Below w.heap.size w w' := by
  have ha := argI_start w k s b
  have hok := fun w => implFlitOk_any k s b w
  unfold Flit.txt
  cases h : Flit.ok k s b
  · rw [h] at hok
    rw [if_neg (by simp)]
    clear h
    go_enter Try.func87, Try.ntmps87
    go_wp2_with fail
    refine (hok _).mono ?_
    rintro e w1 ⟨rfl, hb1⟩
    have h1 := argI_next ha hb1
    clear ha hb1
    go_wp2
    go_ret
    exact ⟨rfl, h1.1⟩
  · rw [h] at hok
    rw [if_pos rfl]
    obtain ⟨k', s', rfl, rfl, hs, hk, h8⟩ := Flit.ok_facts h
    clear h
    show Calls _ _ _ _ fun e w' => e = .returned (.string (Flit.text k' s' b)) ∧ Below w.heap.size w w'
    obtain ⟨hd, bd, tw, tx, c, f1, f2, f3, f4, f5, f6, f7, f8⟩ := text_facts k' s' b hs hk h8
    rw [f8]
    have hcr := fun w => implCrc_any bd w (by omega)
    rw [f4] at hcr
    clear f8 f4
    go_enter Try.func87, Try.ntmps87
    go_wp2_with fail
    refine (hok _).mono ?_
    rintro e w1 ⟨rfl, hb1⟩
    have h1 := argI_next ha hb1
    clear ha hb1 hok
    have HB : Hid (∀ o1 o2, Below w.heap.size w ((w1.alloc o1).alloc o2)) := hide (fun o1 o2 => (argI_alloc (argI_alloc h1 o1) o2).1)
    obtain ⟨_, _, c1, c2, c3⟩ := id h1
    have f1 := f1 w1
    have f6 := f6 (w1.alloc (.cells #[.int .u8 (k' : Int), .int .u8 ((s' : Int) / 65536), .int .u8 ((s' : Int) / 256 % 256), .int .u8 ((s' : Int) % 256), .int .u8 (b.size : Int)] 5))
    simp only [World.size_alloc] at f6
    go_wp2_with fail
    refine (hcr _).mono ?_
    rintro e w2 ⟨rfl, hw⟩
    subst hw
    go_wp2
    go_ret
    exact ⟨rfl, HB.out _ _⟩

set_option maxHeartbeats 2000000 in
theorem l8Text_any (k' s' : Nat) (b : ByteArray) (w : World) (hs : s' ≤ 1000000) (hk : k' = 1 ∨ k' = 2) (h8 : b.size ≤ 8) : Calls Try.prog 64 #[.agg #[.int .i64 (k' : Int), .int .i64 (s' : Int), .string b]] w fun e w' => e = .returned (.string (Flit.text k' s' b)) ∧ Below w.heap.size w w' := by
  have h1 := argI_start w k' s' b
  obtain ⟨hd, bd, tw, tx, c, f1, f2, f3, f4, f5, f6, f7, f8⟩ := text_facts k' s' b hs hk h8
  rw [f8]
  have hcr := fun w => specCrc_any bd w (by omega)
  rw [f4] at hcr
  clear f8 f4
  have HB : Hid (∀ o1 o2, Below w.heap.size w (((w.alloc (.cells #[.int .i64 (k' : Int), .int .i64 (s' : Int), .string b] 88)).alloc o1).alloc o2)) := hide (fun o1 o2 => (argI_alloc (argI_alloc h1 o1) o2).1)
  clear h1
  have f1 := f1 (w.alloc (.cells #[.int .i64 (k' : Int), .int .i64 (s' : Int), .string b] 88))
  have f6 := f6 ((w.alloc (.cells #[.int .i64 (k' : Int), .int .i64 (s' : Int), .string b] 88)).alloc (.cells #[.int .u8 (k' : Int), .int .u8 ((s' : Int) / 65536), .int .u8 ((s' : Int) / 256 % 256), .int .u8 ((s' : Int) % 256), .int .u8 (b.size : Int)] 5))
  simp only [World.size_alloc] at f1 f6
  go_enter Try.func64, Try.ntmps64
  go_wp2_with fail
  refine (hcr _).mono ?_
  rintro e w2 ⟨rfl, hw⟩
  subst hw
  go_wp2
  go_ret
  exact ⟨rfl, HB.out _ _⟩

set_option maxHeartbeats 2000000 in
theorem specText_any (k s : Int) (b : ByteArray) (w : World) : Calls Try.prog 86 #[.agg #[.int .i64 k, .int .i64 s, .string b]] w fun e w' => e = .returned (.string (Flit.txt k s b)) ∧ Below w.heap.size w w' := by
  have ha := argI_start w k s b
  have hok := fun w => specFlitOk_any k s b w
  unfold Flit.txt
  cases h : Flit.ok k s b
  · rw [h] at hok
    rw [if_neg (by simp)]
    clear h
    go_enter Try.func86, Try.ntmps86
    go_wp2_with fail
    refine (hok _).mono ?_
    rintro e w1 ⟨rfl, hb1⟩
    have h1 := argI_next ha hb1
    clear ha hb1
    go_wp2
    go_ret
    exact ⟨rfl, h1.1⟩
  · rw [h] at hok
    rw [if_pos rfl]
    obtain ⟨k', s', rfl, rfl, hs, hk, h8⟩ := Flit.ok_facts h
    clear h
    show Calls _ _ _ _ fun e w' => e = .returned (.string (Flit.text k' s' b)) ∧ Below w.heap.size w w'
    have ht := fun w => l8Text_any k' s' b w hs hk h8
    generalize Flit.text k' s' b = tx at ht
    go_enter Try.func86, Try.ntmps86
    go_wp2_with fail
    refine (hok _).mono ?_
    rintro e w1 ⟨rfl, hb1⟩
    have h1 := argI_next ha hb1
    clear ha hb1 hok
    obtain ⟨_, _, c1, c2, c3⟩ := id h1
    go_wp2_with fail
    refine (ht _).mono ?_
    rintro e w2 ⟨rfl, hb2⟩
    have h2 := argI_next h1 hb2
    clear h1 hb2 c1 c2 c3
    go_wp2
    go_ret
    exact ⟨rfl, h2.1⟩

end Go.Proofs.Ytnkocikbapbbmaa
