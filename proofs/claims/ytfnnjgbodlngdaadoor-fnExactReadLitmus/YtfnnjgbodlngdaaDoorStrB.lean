/- impl.decimal; rows of strings of the call's own; strings.Join (written by mkStr.py) -/
import Derived.Test.YtfnnjgbodlngdaaDoorStrA
import Derived.Test.YtfnnjgbodlngdaaDoorShelf
import Derived.Lib.AppendIntMem
namespace Go.Proofs.YtfnnjgbodlngdaaDoor
open Go.RowKit
set_option linter.unusedVariables false
set_option linter.unusedSimpArgs false

def Pow (w : World) : Prop := Lib.TabIs Tryd.prog w "internal/strconv.uint64pow10" .u64 Lib.pow10Tab
theorem gPow : Tryd.prog.globalNamed "internal/strconv.uint64pow10" = some 1 := by kernel_rfl

theorem Pow.below {w w' : World} (h : Pow w) (hb : Below w.heap.size w w') : Pow w' := by
  unfold Pow Lib.TabIs at *
  exact var?_below hb gPow (by have := World.var?_cell gPow h 0; exact World.block_lt_of_cell? w _ (this.trans rfl)) h

set_option maxHeartbeats 1000000 in
theorem decimal_any (z : Int) (w : World) (hp : Pow w) (h0 : 0 ≤ z) (h1 : z ≤ 1000000) :
    Calls Tryd.prog 65 #[.int .i64 z] w fun e w' => e = .returned (.string (bstr (dec z))) ∧ Below w.heap.size w w' := by
  have HI : Hid (Lib.itoa z = dec z) := hide (by unfold Lib.itoa dec; rw [if_neg (by omega)])
  go_enter Tryd.func65, Tryd.ntmps65
  go_wp2_with fail
  refine (Tryd.strconv_FormatInt_10 z (by omega) (by omega) _ hp).mono ?_
  rintro e w1 ⟨rfl, k, os, rfl⟩
  have HB := hide (Lib.below_grow w.heap.size w (Nat.le_refl _) k os)
  go_wp2
  go_ret
  exact ⟨by rw [HI.out]; rfl, HB.out⟩

/-- a row of strings of the call's own -/
def OwS (w : World) (base : Nat) (v : Value) (xs : List (List UInt8)) : Prop := w.ownsRow base 9 1 v xs.length (xs.map fun x => Value.string (bstr x))

theorem OwS.below {w w' : World} {base : Nat} {v : Value} {xs : List (List UInt8)} (h : OwS w base v xs) (hb : Below w.heap.size w w') : OwS w' base v xs := by
  refine World.ownsRow.kept h (grown_of_below hb) ?_
  cases hv : v.ownBlock with
  | none => exact .inl rfl
  | some k => exact .inr (by simp)

theorem OwS.snoc {w : World} {base : Nat} {v : Value} {xs : List (List UInt8)} {x : List UInt8} (h : w.ownsRow base 9 1 v (xs.length + 1) ((xs.map fun x => Value.string (bstr x)) ++ [.string (bstr x)])) : OwS w base v (xs ++ [x]) := by
  unfold OwS
  simpa using h

theorem join_any (v : Value) (base : Nat) (xs : List (List UInt8)) (sp : List UInt8) (w : World) (ho : OwS w base v xs) (hne : 0 < xs.length) (hlen : (Lib.join xs sp).length ≤ 1000) (hn : xs.length ≤ 10) :
    Calls Tryd.prog 26 #[v, .string (bstr sp)] w fun e w' => e = .returned (.string (bstr (Lib.join xs sp))) ∧ Below w.heap.size w w' := by
  rcases ho.2 with ⟨_, h0⟩ | ⟨g, cap, cur, hv, hb, hg, hnc, hcm, hcs, htake⟩
  · omega
  · have hm : (xs.map bstr).map (fun b => b.data.toList) = xs := by simp [bstr_list, Function.comp_def]
    have hl : (xs.map bstr).length = xs.length := by simp
    have hh : w.ownsRow base 9 1 (.slice (some ⟨g, 0, none⟩) xs.length cap) xs.length (xs.map fun x => Value.string (bstr x)) := hv ▸ ho
    have hc : ∀ (j : Nat) x, (xs.map bstr)[j]? = some x → w.cell? ⟨g, 0 + j, none⟩ = some (.string x) := by
      intro j x hx
      have hj : j < xs.length := by
        have := (List.getElem?_eq_some_iff.1 hx).1
        simpa using this
      rw [Nat.zero_add, hh.cellAt j (by omega)]
      simp [hj] at hx ⊢
      exact hx
    have := Tryd.strings_Join g 0 cap (xs.map bstr) (bstr sp) w hc (lt_of_block hg) (by rw [hl]; omega) (by rw [hl]; exact hnc) (by rw [hm]; rw [bstr_list]; omega)
    rw [hm, hl, bstr_list] at this
    rw [hv]
    exact this

theorem Pow.grown {w w' : World} {row : Option Nat} (h : Pow w) (hg : w.grownBy w' row) (hr : ∀ k, row = some k → 1 < k) : Pow w' := by
  have hlt : 1 < w.heap.size := by have := World.var?_cell gPow h 0; exact World.block_lt_of_cell? w _ (this.trans rfl)
  unfold Pow Lib.TabIs at *
  unfold World.var? at h ⊢
  simp only [gPow, Option.bind_some] at h ⊢
  rw [hg.block 1 hlt (fun e => by have := hr _ e.symm; omega)]
  exact h

theorem info9 : (Tryd.prog.info? 9).map (fun i => (i.zero, i.size, i.bytes)) = some (some (.string ⟨#[]⟩), 1, 16) := by kernel_rfl

theorem OwS.nil (w : World) (base : Nat) : OwS w base (.slice none 0 0) [] := World.ownsRow_nil _ _ _ _
theorem OwS.mono {w : World} {base base' : Nat} {v : Value} {xs : List (List UInt8)} (h : OwS w base v xs) (hb : base' ≤ base) : OwS w base' v xs := by
  refine ⟨h.1, ?_⟩
  rcases h.2 with q | ⟨g, cap, cur, q, q1, q2⟩
  · exact .inl q
  · exact .inr ⟨g, cap, cur, q, by omega, q2⟩
/-- a text more -/
theorem OwS.more {w wx wy : World} {base : Nat} {v v' : Value} {xs : List (List UInt8)} {x : List UInt8} {o : Obj} (hb : Below base w wx) (hz : base ≤ wx.heap.size) (ho : OwS wx base v xs)
    (ho' : wy.ownsRow base 9 1 v' (xs.length + 1) ((xs.map fun x => Value.string (bstr x)) ++ [.string (bstr x)])) (hg : (wx.alloc o).grownBy wy v.ownBlock) : OwS wy base v' (xs ++ [x]) ∧ Below base w wy :=
  ⟨OwS.snoc ho', (hb.alloc hz _).grown hg (by simp; omega) (fun j hj => (World.ownsRow.lt ho j hj).1)⟩

/-- the digits of the first k numbers of a row -/
def dg (zs : List Int) : Nat → List UInt8
  | 0 => []
  | k + 1 => dg zs k ++ dec (zs.getD k 0)
/-- a short row of numbers from 0 to a million -/
def Dg (zs : List Int) : Prop := zs.length ≤ 20 ∧ ∀ j, j < zs.length → 0 ≤ zs.getD j 0 ∧ zs.getD j 0 ≤ 1000000
theorem dg_len {zs : List Int} (h : Dg zs) : ∀ k, k ≤ zs.length → (dg zs k).length ≤ 7 * k
  | 0, _ => by simp [dg]
  | k + 1, hk => by
    have h1 := dg_len h k (by omega)
    have h2 := dec_len (h.2 k (by omega)).2
    simp only [dg, List.length_append]
    omega

set_option maxRecDepth 20000 in
set_option maxHeartbeats 1000000 in
theorem digits_any (v : Value) (zs : List Int) (w : World) (hp : Pow w) (hz : Sl w v zs) (hd : Dg zs) :
    Calls Tryd.prog 37 #[v] w fun e w' => e = .returned (.string (bstr (dg zs zs.length))) ∧ Below w.heap.size w w' := by
  obtain ⟨ad, cap, rfl, hz⟩ := hz
  have HD := hide hd
  obtain ⟨n, hn⟩ : ∃ n, zs.length = n := ⟨_, rfl⟩
  have h20 : n ≤ 20 := hn ▸ hd.1
  rw [hn] at hz ⊢
  have HN := hide hn
  have e0 : bstr (dg zs 0) = ⟨#[]⟩ := rfl
  clear hd hn
  go_enter Tryd.func37, Tryd.ntmps37
  go_wp2
  go_loopw [3, 8] (fun s i wr => ∃ k : Nat, k ≤ n ∧ i = .int .i64 k ∧ s = .string (bstr (dg zs k)) ∧ Below w.heap.size w wr) (fun _ i _ => n - (intOf i).toNat)
  case atStart => exact ⟨0, Nat.zero_le _, rfl, rfl, Below.refl _ _⟩
  case round =>
    obtain ⟨k, hk, rfl, rfl, hb⟩ := hrel
    by_cases hlt : k < n
    · obtain ⟨b, off, rfl, hc⟩ := hz (by omega)
      have ck : wr.cell? ⟨b, off + k, none⟩ = some (.int .i64 (zs.getD k 0)) := Below.keep hb _ _ (hc k hlt)
      have hk2 := HD.out.2 k (by rw [HN.out]; exact hlt)
      have hadd := fun W => add_ok (a := dg zs k) (b := dec (zs.getD k 0)) (by have h1 := dg_len HD.out k (by rw [HN.out]; omega); have h2 := dec_len hk2.2; omega) W
      have HE : Hid (dg zs (k + 1) = dg zs k ++ dec (zs.getD k 0)) := hide rfl
      have HP := hide (hp.below hb)
      clear hz hc
      generalize zs.getD k 0 = z at ck hk2 hadd HE
      go_wp2_with fail
      refine (decimal_any z _ HP.out hk2.1 hk2.2).mono ?_
      rintro e w2 ⟨rfl, hb2⟩
      have HB := hide (hb.trans (hb2.mono hb.size))
      clear hb2 ck hb HP
      go_wp2
      go_roundw
      case rel => exact ⟨k + 1, by omega, by go_num, by rw [HE.out], HB.out⟩
      case measure => simp [intOf]; omega
    · have ek : k = n := by omega
      have HB := hide hb
      have HE : Hid (dg zs k = dg zs n) := hide (by rw [ek])
      clear hb hz ek
      go_wp2
      go_ret
      exact ⟨ret_str (congrArg bstr HE.out), HB.out⟩

end Go.Proofs.YtfnnjgbodlngdaaDoor
