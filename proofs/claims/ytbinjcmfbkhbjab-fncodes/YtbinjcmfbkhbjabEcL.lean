/- impl.CodeOf, spec.CodeOf; readWords, ReadCode -/
import Derived.Test.YtbinjcmfbkhbjabEcF
import Derived.Test.YtbinjcmfbkhbjabEcS
import Derived.Test.YtbinjcmfbkhbjabA
namespace Go.Proofs.Ytbinjcmfbkhbjab
open Go.RowKit

theorem Ow.snoc {w : World} {base : Nat} {v : Value} {zs : List Int} {x : Int} (h : w.ownsRow base 2 1 v (zs.length + 1) (zs.map (Value.int .i64) ++ [.int .i64 x])) : Ow w base v (zs ++ [x]) := by
  unfold Ow
  simpa using h
theorem Ow.empty_nil (w : World) (base : Nat) : Ow w base (.slice none 0 0) [] := World.ownsRow_nil _ _ _ _
theorem grow_rel {B : Nat} {w wr w1 : World} {v v' : Value} {zs : List Int} {x : Int} (hB : B = w.heap.size) (hbk : Below B w wr) (hown : Ow wr B v zs)
    (hown' : w1.ownsRow B 2 1 v' (zs.length + 1) (zs.map (Value.int .i64) ++ [.int .i64 x])) (hg : (wr.alloc (.cells #[.int .i64 x] 2)).grownBy w1 v.ownBlock) : Ow w1 B v' (zs ++ [x]) ∧ Below B w w1 := by
  refine ⟨Ow.snoc hown', ?_⟩
  have hs : B ≤ wr.heap.size := by rw [hB]; exact hbk.size
  exact (hbk.alloc hs _).grown hg (by simp; omega) (fun k hk => (World.ownsRow.lt hown k hk).1)

namespace Ecc
def cod (v : Nat) : List Int := [(enc (v % 256) : Int), (enc (v / 256 % 256) : Int), (enc (v / 65536) : Int)]
def codR (z : Int) : List Int := if 0 ≤ z ∧ z ≤ 1000000 then cod z.toNat else []
theorem codR_yes {v : Nat} (h : v ≤ 1000000) : codR (v : Int) = cod v := by unfold codR; rw [if_pos (by omega)]; rfl
theorem codR_no {z : Int} (h : ¬ (0 ≤ z ∧ z ≤ 1000000)) : codR z = [] := by unfold codR; rw [if_neg h]
theorem codR_le (z : Int) : (codR z).length ≤ 3 := by unfold codR; split <;> simp [cod]
def part3 (v k : Nat) : List Int := (cod v).take k
theorem part3_le (v k : Nat) : (part3 v k).length ≤ 3 := by unfold part3; rw [List.length_take]; simp [cod]; omega
theorem part3_next (v k : Nat) (hv : v ≤ 1000000) (hk : k < 3) : part3 v (k + 1) = part3 v k ++ [(enc (v / 256 ^ k % 256) : Int)] := by
  have : k = 0 ∨ k = 1 ∨ k = 2 := by omega
  rcases this with rfl | rfl | rfl
  · simp [part3, cod]
  · simp [part3, cod]
  · have e : v / 256 ^ 2 % 256 = v / 65536 := by
      rw [show 256 ^ 2 = 65536 from rfl]
      exact Nat.mod_eq_of_lt (by omega)
    rw [e]; simp [part3, cod]
theorem and255 (n : Nat) (h : n < 9223372036854775808) : bits .and .i64 (n : Int) 255 = ((n % 256 : Nat) : Int) := by
  rw [show (255 : Int) = ((255 : Nat) : Int) from rfl, i64_and n 255 h (by omega), show 255 = 2 ^ 8 - 1 from rfl, Nat.and_two_pow_sub_one_eq_mod]
end Ecc

theorem made3 {w : World} (a b c : Int) : Ow (w.alloc (.cells #[.int .i64 a, .int .i64 b, .int .i64 c] 2)) w.heap.size (.slice (some ⟨w.heap.size, 0, none⟩) 3 3) [a, b, c] :=
  ⟨rfl, .inr ⟨w.heap.size, 3, #[.int .i64 a, .int .i64 b, .int .i64 c], rfl, Nat.le_refl _, heap_alloc_new _ _, Nat.le_refl _, by unfold maxLen; omega, rfl, rfl⟩⟩

set_option maxHeartbeats 400000 in
theorem isValue_any (n : Int) (w : World) : Calls Try.prog 51 #[.int .i64 n] w fun e w' => e = .returned (.bool (inR n 1000000)) ∧ w' = w := by
  by_cases h0 : 0 ≤ n
  · by_cases h1 : n ≤ 1000000
    · have HH := hide (inR_yes h0 h1)
      go_enter Try.func51, Try.ntmps51
      go_wp2
      go_ret
      exact ⟨ret_b HH.out.symm, rfl⟩
    · have HH := hide (inR_no (n := n) (hi := 1000000) (by omega))
      go_enter Try.func51, Try.ntmps51
      go_wp2
      go_ret
      exact ⟨ret_b HH.out.symm, rfl⟩
  · have HH := hide (inR_no (n := n) (hi := 1000000) (by omega))
    go_enter Try.func51, Try.ntmps51
    go_wp2
    go_ret
    exact ⟨ret_b HH.out.symm, rfl⟩

set_option maxHeartbeats 1000000 in
theorem codeI_any (z : Int) (w : World) :
    Calls Try.prog 22 #[.int .i64 z] w fun e w' => ∃ u, e = .returned (.tuple #[u, .bool (inR z 1000000)]) ∧ Ow w' w.heap.size u (Ecc.codR z) ∧ Below w.heap.size w w' := by
  have hv := fun w => isValue_any z w
  by_cases h : 0 ≤ z ∧ z ≤ 1000000
  · rw [inR_yes h.1 h.2] at hv ⊢
    obtain ⟨v, rfl⟩ := Int.eq_ofNat_of_zero_le h.1
    have hvl : v ≤ 1000000 := by omega
    rw [Ecc.codR_yes hvl]
    clear h
    obtain ⟨i0, hi, hz0, hz1, hz2⟩ := info_parts Try.info2
    go_enter Try.func22, Try.ntmps22
    go_wp2_with (go_at_call 51; refine (hv _).mono ?_; rintro e wq ⟨rfl, rfl⟩)
    clear hv
    go_loopw [0, 4, 8] (fun x t i wr => ∃ (k p : Nat), k ≤ 3 ∧ i = .int .i64 k ∧ x = .int .i64 p ∧ p ≤ 1000000 ∧ Hid (p = v / 256 ^ k) ∧ Ow wr wq.heap.size t (Ecc.part3 v k) ∧ Below wq.heap.size wq wr) (fun _ _ i _ => 3 - (intOf i).toNat)
    case atStart => exact ⟨0, v, by omega, rfl, rfl, hvl, hide (Nat.div_one v).symm, Ow.empty_nil _ _, Below.refl _ _⟩
    case round =>
      obtain ⟨k, p, hk, rfl, rfl, hp, HP, hok, hbk⟩ := hrel
      have hle := Ecc.part3_le v k
      by_cases hlt : k < 3
      · have HA := Ecc.and255 p (by omega)
        have hq : p % 256 < 256 := Nat.mod_lt _ (by decide)
        have HU := hide (Ecc.part3_next v k hvl hlt)
        rw [← HP.out] at HU
        have HD : Hid (p / 256 = v / 256 ^ (k + 1)) := hide (by rw [HP.out, Nat.pow_succ, Nat.div_div_eq_div_mul])
        generalize p % 256 = q at HA hq HU
        have he := fun w => eccOf_any q w hq
        generalize Ecc.enc q = x at he HU
        have HA2 := hide HA
        clear HA
        have hsz : wq.heap.size ≤ wr.heap.size := hbk.size
        go_wp2_with (first | (go_at_call 11; rw [HA2.out]; refine (he _).mono ?_; rintro e w' ⟨rfl, rfl⟩) | (at_builtin; refine wpList_append_own _ rfl _ _ 31 rfl wq.heap.size 2 i0 (.int .i64 0) 1 8 Try.underlying31 hi hz0 hz1 hz2 rfl (by decide) _ _ _ rfl (World.ownsRow.alloc hok _) _ 1 1 [.int .i64 (x : Int)] rfl rfl (cell_one_new _ _ _) (by intro u hu; simp at hu; subst hu; rfl) (by unfold maxLen; omega) (by omega) (by simp; omega) ?_))
        intro v' w1 hown' hgrow _
        have R := grow_rel rfl hbk hok hown' hgrow
        rw [← HU.out] at R
        have HR := hide R
        clear hown' hgrow R hok hbk
        go_wp2
        go_roundw
        case rel => exact ⟨k + 1, p / 256, by omega, by go_num, by go_num, by omega, HD, HR.out.1, HR.out.2⟩
        case measure => simp [intOf]; omega
      · have e : k = 3 := by omega
        subst e
        clear hlt hk
        go_wp2
        go_ret2
        exact ⟨_, rfl, hok, hbk⟩
  · rw [inR_no h] at hv ⊢
    rw [Ecc.codR_no h]
    clear h
    go_enter Try.func22, Try.ntmps22
    go_wp2_with (go_at_call 51; refine (hv _).mono ?_; rintro e w' ⟨rfl, rfl⟩)
    go_ret2
    exact ⟨_, rfl, Ow.empty_nil _ _, Below.refl _ _⟩

set_option maxHeartbeats 1000000 in
theorem codeS_any (z : Int) (w : World) :
    Calls Try.prog 23 #[.int .i64 z] w fun e w' => ∃ u, e = .returned (.tuple #[u, .bool (inR z 1000000)]) ∧ Ow w' w.heap.size u (Ecc.codR z) ∧ Below w.heap.size w w' := by
  have hv := fun w => l1In_any z 1000000 w
  by_cases h : 0 ≤ z ∧ z ≤ 1000000
  · rw [inR_yes h.1 h.2] at hv ⊢
    obtain ⟨v, rfl⟩ := Int.eq_ofNat_of_zero_le h.1
    have hvl : v ≤ 1000000 := by omega
    rw [Ecc.codR_yes hvl]
    clear h
    unfold Ecc.cod
    have h1 := fun w => specEcc_any (v % 256) w (by omega)
    have h2 := fun w => specEcc_any (v / 256 % 256) w (by omega)
    have h3 := fun w => specEcc_any (v / 65536) w (by omega)
    generalize Ecc.enc (v % 256) = x1 at h1
    generalize Ecc.enc (v / 256 % 256) = x2 at h2
    generalize Ecc.enc (v / 65536) = x3 at h3
    have e1 : (v : Int) % 256 = ((v % 256 : Nat) : Int) := by omega
    have e2 : (v : Int) / 256 % 256 = ((v / 256 % 256 : Nat) : Int) := by omega
    have e3 : (v : Int) / 65536 = ((v / 65536 : Nat) : Int) := by omega
    have HE := hide (And.intro e1 (And.intro e2 e3))
    clear e1 e2 e3
    go_enter Try.func23, Try.ntmps23
    go_wp2_with (go_at_call 37; refine (hv _).mono ?_; rintro e w' ⟨rfl, rfl⟩)
    rw [HE.out.1]
    refine (h1 _).mono ?_
    rintro e w' ⟨rfl, rfl⟩
    go_wp2_with fail
    rw [HE.out.2.1]
    refine (h2 _).mono ?_
    rintro e w' ⟨rfl, rfl⟩
    go_wp2_with fail
    rw [HE.out.2.2]
    refine (h3 _).mono ?_
    rintro e w' ⟨rfl, rfl⟩
    go_wp2
    go_ret2
    exact ⟨_, rfl, made3 _ _ _, (Below.refl _ _).alloc (Nat.le_refl _) _⟩
  · rw [inR_no h] at hv ⊢
    rw [Ecc.codR_no h]
    clear h
    go_enter Try.func23, Try.ntmps23
    go_wp2_with (go_at_call 37; refine (hv _).mono ?_; rintro e w' ⟨rfl, rfl⟩)
    go_ret2
    exact ⟨_, rfl, Ow.empty_nil _ _, Below.refl _ _⟩

end Go.Proofs.Ytbinjcmfbkhbjab
