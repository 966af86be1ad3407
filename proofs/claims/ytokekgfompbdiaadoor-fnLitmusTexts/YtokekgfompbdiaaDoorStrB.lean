/- impl.decimal; rows of strings of the call's own; strings.Join (written by mkStr.py) -/
import Derived.Test.YtokekgfompbdiaaDoorStrA
import Derived.Test.YtokekgfompbdiaaDoorShelf
import Derived.Lib.AppendIntMem
namespace Go.Proofs.YtokekgfompbdiaaDoor
open Go.RowKit
set_option linter.unusedVariables false
set_option linter.unusedSimpArgs false

def Pow (w : World) : Prop := Lib.TabIs Tryd.prog w "internal/strconv.uint64pow10" .u64 Lib.pow10Tab
theorem gPow : Tryd.prog.globalNamed "internal/strconv.uint64pow10" = some 3 := by kernel_rfl

theorem Pow.below {w w' : World} (h : Pow w) (hb : Below w.heap.size w w') : Pow w' := by
  unfold Pow Lib.TabIs at *
  exact var?_below hb gPow (by have := World.var?_cell gPow h 0; exact World.block_lt_of_cell? w _ (this.trans rfl)) h

set_option maxHeartbeats 1000000 in
theorem decimal_any (z : Int) (w : World) (hp : Pow w) (h0 : 0 ≤ z) (h1 : z ≤ 1000000) :
    Calls Tryd.prog 44 #[.int .i64 z] w fun e w' => e = .returned (.string (bstr (dec z))) ∧ Below w.heap.size w w' := by
  have HI : Hid (Lib.itoa z = dec z) := hide (by unfold Lib.itoa dec; rw [if_neg (by omega)])
  go_enter Tryd.func44, Tryd.ntmps44
  go_wp2_with fail
  refine (Tryd.strconv_FormatInt_10 z (by omega) (by omega) _ hp).mono ?_
  rintro e w1 ⟨rfl, k, os, rfl⟩
  have HB := hide (Lib.below_grow w.heap.size w (Nat.le_refl _) k os)
  go_wp2
  go_ret
  exact ⟨by rw [HI.out]; rfl, HB.out⟩

/-- a row of strings of the call's own -/
def OwS (w : World) (base : Nat) (v : Value) (xs : List (List UInt8)) : Prop := w.ownsRow base 9 1 v xs.length (xs.map fun x => Value.string (bstr x))

theorem OwS.below {w w' : World} {base : Nat} {v : Value} {xs : List (List UInt8)} (h : OwS w base v xs) (hb : Below w.heap.size w w') : OwS w' base v xs := by
  refine World.ownsRow.kept h (grown_of_below hb) ?_
  cases hv : v.ownBlock with
  | none => exact .inl rfl
  | some k => exact .inr (by simp)

theorem OwS.snoc {w : World} {base : Nat} {v : Value} {xs : List (List UInt8)} {x : List UInt8} (h : w.ownsRow base 9 1 v (xs.length + 1) ((xs.map fun x => Value.string (bstr x)) ++ [.string (bstr x)])) : OwS w base v (xs ++ [x]) := by
  unfold OwS
  simpa using h

theorem join_any (v : Value) (base : Nat) (xs : List (List UInt8)) (sp : List UInt8) (w : World) (ho : OwS w base v xs) (hne : 0 < xs.length) (hlen : (Lib.join xs sp).length ≤ 1000) (hn : xs.length ≤ 10) :
    Calls Tryd.prog 15 #[v, .string (bstr sp)] w fun e w' => e = .returned (.string (bstr (Lib.join xs sp))) ∧ Below w.heap.size w w' := by
  rcases ho.2 with ⟨_, h0⟩ | ⟨g, cap, cur, hv, hb, hg, hnc, hcm, hcs, htake⟩
  · omega
  · have hm : (xs.map bstr).map (fun b => b.data.toList) = xs := by simp [bstr_list, Function.comp_def]
    have hl : (xs.map bstr).length = xs.length := by simp
    have hh : w.ownsRow base 9 1 (.slice (some ⟨g, 0, none⟩) xs.length cap) xs.length (xs.map fun x => Value.string (bstr x)) := hv ▸ ho
    have hc : ∀ (j : Nat) x, (xs.map bstr)[j]? = some x → w.cell? ⟨g, 0 + j, none⟩ = some (.string x) := by
      intro j x hx
      have hj : j < xs.length := by
        have := (List.getElem?_eq_some_iff.1 hx).1
        simpa using this
      rw [Nat.zero_add, hh.cellAt j (by omega)]
      simp [hj] at hx ⊢
      exact hx
    have := Tryd.strings_Join g 0 cap (xs.map bstr) (bstr sp) w hc (lt_of_block hg) (by rw [hl]; omega) (by rw [hl]; exact hnc) (by rw [hm]; rw [bstr_list]; omega)
    rw [hm, hl, bstr_list] at this
    rw [hv]
    exact this

theorem Pow.grown {w w' : World} {row : Option Nat} (h : Pow w) (hg : w.grownBy w' row) (hr : ∀ k, row = some k → 3 < k) : Pow w' := by
  have hlt : 3 < w.heap.size := by have := World.var?_cell gPow h 0; exact World.block_lt_of_cell? w _ (this.trans rfl)
  unfold Pow Lib.TabIs at *
  unfold World.var? at h ⊢
  simp only [gPow, Option.bind_some] at h ⊢
  rw [hg.block 3 hlt (fun e => by have := hr _ e.symm; omega)]
  exact h

theorem info9 : (Tryd.prog.info? 9).map (fun i => (i.zero, i.size, i.bytes)) = some (some (.string ⟨#[]⟩), 1, 16) := by kernel_rfl

theorem OwS.nil (w : World) (base : Nat) : OwS w base (.slice none 0 0) [] := World.ownsRow_nil _ _ _ _
theorem OwS.mono {w : World} {base base' : Nat} {v : Value} {xs : List (List UInt8)} (h : OwS w base v xs) (hb : base' ≤ base) : OwS w base' v xs := by
  refine ⟨h.1, ?_⟩
  rcases h.2 with q | ⟨g, cap, cur, q, q1, q2⟩
  · exact .inl q
  · exact .inr ⟨g, cap, cur, q, by omega, q2⟩
/-- a text more -/
theorem OwS.more {w wx wy : World} {base : Nat} {v v' : Value} {xs : List (List UInt8)} {x : List UInt8} {o : Obj} (hb : Below base w wx) (hz : base ≤ wx.heap.size) (ho : OwS wx base v xs)
    (ho' : wy.ownsRow base 9 1 v' (xs.length + 1) ((xs.map fun x => Value.string (bstr x)) ++ [.string (bstr x)])) (hg : (wx.alloc o).grownBy wy v.ownBlock) : OwS wy base v' (xs ++ [x]) ∧ Below base w wy :=
  ⟨OwS.snoc ho', (hb.alloc hz _).grown hg (by simp; omega) (fun j hj => (World.ownsRow.lt ho j hj).1)⟩

/-- the digits of the first k numbers of a row -/
def dg (zs : List Int) : Nat → List UInt8
  | 0 => []
  | k + 1 => dg zs k ++ dec (zs.getD k 0)
/-- a short row of numbers from 0 to a million -/
def Dg (zs : List Int) : Prop := zs.length ≤ 20 ∧ ∀ j, j < zs.length → 0 ≤ zs.getD j 0 ∧ zs.getD j 0 ≤ 1000000
theorem dg_len {zs : List Int} (h : Dg zs) : ∀ k, k ≤ zs.length → (dg zs k).length ≤ 7 * k
  | 0, _ => by simp [dg]
  | k + 1, hk => by
    have h1 := dg_len h k (by omega)
    have h2 := dec_len (h.2 k (by omega)).2
    simp only [dg, List.length_append]
    omega

end Go.Proofs.YtokekgfompbdiaaDoor
