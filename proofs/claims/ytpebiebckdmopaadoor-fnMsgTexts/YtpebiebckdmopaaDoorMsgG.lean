/- impl.decimal; strings.Join over a row of the call's own; spec.MsgText of a wrong message -/
import Derived.Test.YtpebiebckdmopaaDoorMsgF
import Derived.Test.YtpebiebckdmopaaDoorShelf
import Derived.Lib.AppendIntMem
namespace Go.Proofs.YtpebiebckdmopaaDoor
open Go.RowKit

def Pow (w : World) : Prop := Lib.TabIs Tryd.prog w "internal/strconv.uint64pow10" .u64 Lib.pow10Tab
theorem gPow : Tryd.prog.globalNamed "internal/strconv.uint64pow10" = some 1 := by kernel_rfl

theorem Pow.below {w w' : World} (h : Pow w) (hb : Below w.heap.size w w') : Pow w' := by
  unfold Pow Lib.TabIs at *
  exact var?_below hb gPow (by have := World.var?_cell gPow h 0; exact World.block_lt_of_cell? w _ (this.trans rfl)) h

set_option maxHeartbeats 1000000 in
theorem decimal_any (z : Int) (w : World) (hp : Pow w) (h0 : 0 ≤ z) (h1 : z ≤ 1000000) :
    Calls Tryd.prog 14 #[.int .i64 z] w fun e w' => e = .returned (.string (bstr (dec z))) ∧ Below w.heap.size w w' := by
  have HI : Hid (Lib.itoa z = dec z) := hide (by unfold Lib.itoa dec; rw [if_neg (by omega)])
  go_enter Tryd.func14, Tryd.ntmps14
  go_wp2_with fail
  refine (Tryd.strconv_FormatInt_10 z (by omega) (by omega) _ hp).mono ?_
  rintro e w1 ⟨rfl, k, os, rfl⟩
  have HB := hide (Lib.below_grow w.heap.size w (Nat.le_refl _) k os)
  go_wp2
  go_ret
  exact ⟨by rw [HI.out]; rfl, HB.out⟩

/-- a row of strings of the call's own -/
def OwS (w : World) (base : Nat) (v : Value) (xs : List (List UInt8)) : Prop := w.ownsRow base 9 1 v xs.length (xs.map fun x => Value.string (bstr x))

theorem grown_of_below {w w' : World} (hb : Below w.heap.size w w') : w.grownBy w' none := ⟨hb.os, hb.tape, hb.output, hb.size, fun k hk _ => hb.block k hk⟩

theorem OwS.below {w w' : World} {base : Nat} {v : Value} {xs : List (List UInt8)} (h : OwS w base v xs) (hb : Below w.heap.size w w') : OwS w' base v xs := by
  refine World.ownsRow.kept h (grown_of_below hb) ?_
  cases hv : v.ownBlock with
  | none => exact .inl rfl
  | some k => exact .inr (by simp)

theorem OwS.snoc {w : World} {base : Nat} {v : Value} {xs : List (List UInt8)} {x : List UInt8} (h : w.ownsRow base 9 1 v (xs.length + 1) ((xs.map fun x => Value.string (bstr x)) ++ [.string (bstr x)])) : OwS w base v (xs ++ [x]) := by
  unfold OwS
  simpa using h

theorem join_any (v : Value) (base : Nat) (xs : List (List UInt8)) (w : World) (ho : OwS w base v xs) (hne : 0 < xs.length) (hlen : (Lib.join xs [32]).length ≤ 1000) (hn : xs.length ≤ 10) :
    Calls Tryd.prog 15 #[v, .string ⟨#[32]⟩] w fun e w' => e = .returned (.string (bstr (Lib.join xs [32]))) ∧ Below w.heap.size w w' := by
  rcases ho.2 with ⟨_, h0⟩ | ⟨g, cap, cur, hv, hb, hg, hnc, hcm, hcs, htake⟩
  · omega
  · have hm : (xs.map bstr).map (fun b => b.data.toList) = xs := by simp [bstr_list, Function.comp_def]
    have hl : (xs.map bstr).length = xs.length := by simp
    have hh : w.ownsRow base 9 1 (.slice (some ⟨g, 0, none⟩) xs.length cap) xs.length (xs.map fun x => Value.string (bstr x)) := hv ▸ ho
    have hc : ∀ (j : Nat) x, (xs.map bstr)[j]? = some x → w.cell? ⟨g, 0 + j, none⟩ = some (.string x) := by
      intro j x hx
      have hj : j < xs.length := by
        have := (List.getElem?_eq_some_iff.1 hx).1
        simpa using this
      rw [Nat.zero_add, hh.cellAt j (by omega)]
      simp [hj] at hx ⊢
      exact hx
    have := Tryd.strings_Join g 0 cap (xs.map bstr) ⟨#[32]⟩ w hc (lt_of_block hg) (by rw [hl]; omega) (by rw [hl]; exact hnc) (by rw [hm]; have e : (⟨#[32]⟩ : ByteArray).data.toList = [32] := rfl; rw [e]; omega)
    rw [hm, hl] at this
    rw [hv]
    exact this

set_option maxHeartbeats 1000000 in
theorem specText_no (k f t l wt d : Int) (w : World) (hok : okB k f t l wt d = false) :
    Calls Tryd.prog 8 #[.agg #[.int .i64 k, .int .i64 f, .int .i64 t, .int .i64 l, .int .i64 wt, .int .i64 d]] w fun e w' => e = .returned (.string (bstr [])) ∧ Below w.heap.size w w' := by
  have mb := mc_box w k f t l wt d 25
  go_enter Tryd.func8, Tryd.ntmps8
  go_wp2_with fail
  refine (specOk_any _ _ _ _ _ _ _).mono ?_
  rintro e w1 ⟨rfl, hb1⟩
  have m1 := mc_next mb hb1
  clear mb hb1
  go_wp2
  go_ret
  exact ⟨rfl, m1.1⟩

end Go.Proofs.YtpebiebckdmopaaDoor
