/- LsB, LsF, FlW, FlU -/
import Derived.Test.YtgflipkhhpkidaaYnkCalm47
import Derived.Test.YtgflipkhhpkidaaYnkCalm43
import Derived.Test.YtgflipkhhpkidaaYnkCalm10
/- sameLink of links that read alike (written by mkLsB.py) -/
namespace Go.Proofs.Ytgflipkhhpkidaa
open Go.RowKit
set_option linter.unusedVariables false
set_option linter.unusedSimpArgs false

set_option maxHeartbeats 4000000 in
set_option maxRecDepth 20000 in
theorem sameLink_same (p : Lk) (wv gv dv uv wv2 gv2 dv2 uv2 : Value) (w : World) (ha : Lv w wv gv dv uv p) (hb : Lv w wv2 gv2 dv2 uv2 p) (hs : Lsm 1048576 p) :
    Calls Try.prog 11 #[.agg (l6 p.base wv p.want gv dv uv), .agg (l6 p.base wv2 p.want gv2 dv2 uv2)] w fun e w' => e = .returned (.bool true) ∧ Below w.heap.size w w' := by
  have ha0 := hide ha
  have hb0 := hide hb
  obtain ⟨⟨s1, _⟩, ⟨s2, _⟩, ⟨s3, _⟩, ⟨s4, _⟩⟩ := hs
  clear ha hb
  have HB : Hid (Mv nob w w) := hide (Mv.refl _ _)
  go_enter Try.func11, Try.ntmps11
  repeat (first | (with_reducible refine wp_seq_k (fun K hK => ?_)) | (with_reducible refine then_normal ?_) | ((with_reducible refine hK _ _ ?_); clear hK K) | (with_reducible refine wpList_nil ?_) | (with_reducible refine wp_region_lit ?_) | ((with_reducible refine is_cond ?_); first | refine wp_cond_true (by rfl) ?_ | refine wp_cond_false (by rfl) ?_) | (with_reducible refine wp_block ?_) | (with_reducible refine wp_skip ?_) | (with_reducible refine wp_ret ?_) | (with_reducible refine wp_exit ?_))
  refine sbp #[.int .i64 p.base, wv, .int .i64 p.want, gv, dv, uv] 27 fun V1 b0 hb0 m1 bx0 => ?_
  have o_0 : w.heap.size ≤ b0 := by omega
  replace HB := Xhn HB m1
  clear hb0 m1
  refine sbp #[.int .i64 p.base, wv2, .int .i64 p.want, gv2, dv2, uv2] 27 fun V2 b1 hb1 m2 bx1 => ?_
  have o0_1 := Xlo bx0 hb1
  replace HB := Xhn HB m2
  replace bx0 := Xbn bx0 m2
  clear hb1 m2
  refine sv (.bool false) ?_
  repeat (first | (with_reducible refine wp_seq_k (fun K hK => ?_)) | (with_reducible refine then_normal ?_) | ((with_reducible refine hK _ _ ?_); clear hK K) | (with_reducible refine wpList_nil ?_) | (with_reducible refine wp_region_lit ?_) | ((with_reducible refine is_cond ?_); first | refine wp_cond_true (by rfl) ?_ | refine wp_cond_false (by rfl) ?_) | (with_reducible refine wp_block ?_) | (with_reducible refine wp_skip ?_) | (with_reducible refine wp_ret ?_) | (with_reducible refine wp_exit ?_))
  refine sv (.pointer (some ⟨b0, 0, none⟩)) ?_
  refine sl 0 bx0 ?_
  refine sv (.pointer (some ⟨b1, 0, none⟩)) ?_
  refine sl 0 bx1 ?_
  refine sg (.bool true) ?_
  refine sv (.bool true) ?_
  refine sv (.pointer (some ⟨b0, 2, none⟩)) ?_
  refine sl 2 bx0 ?_
  refine sv (.pointer (some ⟨b1, 2, none⟩)) ?_
  refine sl 2 bx1 ?_
  refine sg (.bool true) ?_
  refine sg (.bool true) ?_
  refine sv (.bool true) ?_
  refine sv (.pointer (some ⟨b0, 1, none⟩)) ?_
  refine sl 1 bx0 ?_
  refine sv (.pointer (some ⟨b1, 1, none⟩)) ?_
  refine sl 1 bx1 ?_
  refine sw_call (by rfl) (by first | rfl | (go_simp; done)) (sameTexts_same wv wv2 _ _ V2 (ha0.out.below HB.out.below).wa (hb0.out.below HB.out.below).wa (by omega)) ?_
  rintro e V3 ⟨rfl, hbV3⟩
  have m3 : Mv (nob) V2 V3 := Mv.of_below hbV3
  refine ⟨_, rfl, ?_⟩
  refine pt ?_
  replace HB := Xhn HB m3
  replace bx0 := Xbn bx0 m3
  replace bx1 := Xbn bx1 m3
  clear m3
  refine sg (.bool true) ?_
  refine sv (.bool true) ?_
  refine sv (.pointer (some ⟨b0, 3, none⟩)) ?_
  refine sl 3 bx0 ?_
  refine sv (.pointer (some ⟨b1, 3, none⟩)) ?_
  refine sl 3 bx1 ?_
  refine sw_call (by rfl) (by first | rfl | (go_simp; done)) (sameTexts_same gv gv2 _ _ V3 (ha0.out.below HB.out.below).go (hb0.out.below HB.out.below).go (by omega)) ?_
  rintro e V4 ⟨rfl, hbV4⟩
  have m4 : Mv (nob) V3 V4 := Mv.of_below hbV4
  refine ⟨_, rfl, ?_⟩
  refine pt ?_
  replace HB := Xhn HB m4
  replace bx0 := Xbn bx0 m4
  replace bx1 := Xbn bx1 m4
  clear m4
  refine sg (.bool true) ?_
  refine sv (.bool true) ?_
  refine sv (.pointer (some ⟨b0, 4, none⟩)) ?_
  refine sl 4 bx0 ?_
  refine sv (.pointer (some ⟨b1, 4, none⟩)) ?_
  refine sl 4 bx1 ?_
  refine sw_call (by rfl) (by first | rfl | (go_simp; done)) (sameWires_same dv dv2 _ _ _ V4 (ha0.out.below HB.out.below).dn (hb0.out.below HB.out.below).dn (by omega)) ?_
  rintro e V5 ⟨rfl, hbV5⟩
  have m5 : Mv (nob) V4 V5 := Mv.of_below hbV5
  refine ⟨_, rfl, ?_⟩
  refine pt ?_
  replace HB := Xhn HB m5
  replace bx0 := Xbn bx0 m5
  replace bx1 := Xbn bx1 m5
  clear m5
  refine sg (.bool true) ?_
  refine sv (.bool true) ?_
  refine sv (.pointer (some ⟨b0, 5, none⟩)) ?_
  refine sl 5 bx0 ?_
  refine sv (.pointer (some ⟨b1, 5, none⟩)) ?_
  refine sl 5 bx1 ?_
  refine sw_call (by rfl) (by first | rfl | (go_simp; done)) (sameWires_same uv uv2 _ _ _ V5 (ha0.out.below HB.out.below).up (hb0.out.below HB.out.below).up (by omega)) ?_
  rintro e V6 ⟨rfl, hbV6⟩
  have m6 : Mv (nob) V5 V6 := Mv.of_below hbV6
  refine ⟨_, rfl, ?_⟩
  refine pt ?_
  replace HB := Xhn HB m6
  replace bx0 := Xbn bx0 m6
  replace bx1 := Xbn bx1 m6
  clear m6
  refine sg (.bool true) ?_
  refine sv (.bool true) ?_
  repeat (first | (with_reducible refine wp_seq_k (fun K hK => ?_)) | (with_reducible refine then_normal ?_) | ((with_reducible refine hK _ _ ?_); clear hK K) | (with_reducible refine wpList_nil ?_) | (with_reducible refine wp_region_lit ?_) | ((with_reducible refine is_cond ?_); first | refine wp_cond_true (by rfl) ?_ | refine wp_cond_false (by rfl) ?_) | (with_reducible refine wp_block ?_) | (with_reducible refine wp_skip ?_) | (with_reducible refine wp_ret ?_) | (with_reducible refine wp_exit ?_))
  try simp only [Exit.then, Exit.inBlock, ↓reduceIte, Nat.reduceEqDiff]
  exact bodyPost_ret (v := .bool true) (by simp [results, Try.results11, go_sem]) rfl ⟨rfl, HB.out.below⟩

end Go.Proofs.Ytgflipkhhpkidaa

/- what an act of a link leaves, plainly; what FnLinkDone wants besides -/
namespace Go.Proofs.Ytgflipkhhpkidaa
open Go.RowKit
set_option linter.unusedVariables false
set_option linter.unusedSimpArgs false

/-- nothing that was got is lost -/
def Gm (p q : Lk) : Prop := p.base ≤ q.base ∧ p.want ≤ q.want ∧ q.want ≤ p.want + 1 ∧ p.ng ≤ q.ng ∧ ∀ j, j < p.ng → q.gs j = p.gs j
theorem Gm.alike {p q : Lk} (h1 : p.base ≤ q.base) (h2 : q.want = p.want) (h3 : q.ng = p.ng) (h4 : q.gs = p.gs) : Gm p q := ⟨h1, by omega, by omega, by omega, fun j _ => by rw [h4]⟩
theorem sl_headT (p off n cap k : Nat) (hk : k ≤ cap) (W : World) : (Instr.slice 24 (.slice (some ⟨p, off, none⟩) n cap) none (some (.int .i64 (k : Int))) none).run Try.prog W = .ok (.slice (some ⟨p, off, none⟩) k cap) W := by
  simp [go_sem, Try.underlying24, Instr.slice, Instr.sliceBounds, Instr.sliceBound, asIntOf, Addr.add, hk]
theorem sl_headN (n cap : Nat) (W : World) : (Instr.slice 24 (.slice none n cap) none (some (.int .i64 0)) none).run Try.prog W = .ok (.slice none 0 cap) W := by
  simp [go_sem, Try.underlying24, Instr.slice, Instr.sliceBounds, Instr.sliceBound, asIntOf]
/-- the first ones of a row of texts -/
theorem head_texts {w : World} {base n cap : Nat} {a : Option Addr} {s : Nat → ByteArray} (h : Rg w base (.slice a n cap) 1 n (tF s)) (k : Nat) (hk : k ≤ n) : (∀ W, (Instr.slice 24 (.slice a n cap) none (some (.int .i64 (k : Int))) none).run Try.prog W = .ok (.slice a k cap) W) ∧ Sg w (.slice a k cap) 1 k (tF s) := by
  rcases h with ⟨⟨b, e⟩, h0⟩ | ⟨g, off, c, e, h1, hp, h2, h3, ⟨cur, T, h4, h5⟩, h6⟩
  · simp only [Value.slice.injEq] at e
    obtain ⟨rfl, _, rfl⟩ := e
    have hk0 : k = 0 := by omega
    subst hk0
    refine ⟨fun W => ?_, ⟨_, _, rfl, fun h0 => absurd h0 (Nat.lt_irrefl _)⟩⟩
    cases a with
    | none => exact sl_headN _ _ W
    | some x => simp [go_sem, Try.underlying24, Instr.slice, Instr.sliceBounds, Instr.sliceBound, asIntOf, Addr.add]
  · simp only [Value.slice.injEq] at e
    obtain ⟨rfl, _, rfl⟩ := e
    refine ⟨fun W => sl_headT g off n cap k (by omega) W, ⟨_, _, rfl, fun h0 => ⟨g, off, rfl, fun j hj i hi => ?_⟩⟩⟩
    have hi0 : i = 0 := by omega
    subst hi0
    have := h6 (j * 1 + 0) (by omega)
    simpa using this
end Go.Proofs.Ytgflipkhhpkidaa

/- sums of texts, plainly (FlR's plain part) -/
namespace Go.Proofs.Ytgflipkhhpkidaa
open Go.RowKit
set_option linter.unusedVariables false
set_option linter.unusedSimpArgs false

namespace Crc
theorem at_left (a b : ByteArray) (k : Nat) (h : k < a.size) : at' (a ++ b) k = at' a k := by
  unfold at'
  rw [ByteArray.data_append, Array.getElem?_append_left h]
theorem at_right (a b : ByteArray) (k : Nat) : at' (a ++ b) (a.size + k) = at' b k := by
  unfold at'
  rw [ByteArray.data_append, Array.getElem?_append_right (by show a.data.size ≤ _; exact Nat.le_add_right _ _)]
  congr 2
  show b.data[a.size + k - a.size]? = _
  rw [Nat.add_sub_cancel_left]
end Crc
end Go.Proofs.Ytgflipkhhpkidaa

/- a flit comes back from its text -/
namespace Go.Proofs.Ytgflipkhhpkidaa
open Go.RowKit
set_option linter.unusedVariables false
set_option linter.unusedSimpArgs false

namespace Crc
theorem ba_ext (a b : ByteArray) (hs : a.size = b.size) (h : ∀ j, j < a.size → at' a j = at' b j) : a = b := by
  obtain ⟨x⟩ := a
  obtain ⟨y⟩ := b
  have hs' : x.size = y.size := hs
  have e : x = y := by
    refine Array.ext hs' fun j h1 h2 => ?_
    have := h j h1
    unfold at' at this
    simp only [Array.getElem?_eq_getElem h1, Array.getElem?_eq_getElem h2, Option.getD_some] at this
    exact UInt8.toNat_inj.mp this
  rw [e]
theorem at_extract (s : ByteArray) (i n j : Nat) (h : i + j < n) (hn : n ≤ s.size) : at' (s.extract i n) j = at' s (i + j) := by
  have h1 : j < (s.extract i n).size := by rw [ByteArray.size_extract]; omega
  have h2 : i + j < s.size := by omega
  rw [at_eq _ _ h1, at_eq _ _ h2, ByteArray.getElem_extract]
end Crc

namespace Flit
theorem at_head (k s : Nat) (b : ByteArray) (hk : k < 256) : Crc.at' (text k s b) 0 = k ∧ Crc.at' (text k s b) 1 = s / 65536 % 256 ∧ Crc.at' (text k s b) 2 = s / 256 % 256 ∧ Crc.at' (text k s b) 3 = s % 256 := by
  have hb : (head k s b).size = 5 := rfl
  have e : ∀ j, j < 5 → Crc.at' (text k s b) j = Crc.at' (head k s b) j := by
    intro j hj
    unfold text
    rw [Crc.at_left _ _ _ (by rw [body_size]; omega)]
    unfold body
    rw [Crc.at_left _ _ _ (by rw [hb]; exact hj)]
  rw [e 0 (by omega), e 1 (by omega), e 2 (by omega), e 3 (by omega)]
  refine ⟨?_, ?_, ?_, ?_⟩
  · show (u8 k).toNat = k
    have := u8_nat k; omega
  · show (u8 (s / 65536)).toNat = _
    have := u8_nat (s / 65536); omega
  · show (u8 (s / 256)).toNat = _
    have := u8_nat (s / 256); omega
  · show (u8 s).toNat = _
    have := u8_nat s; omega
theorem bd_text (k s : Nat) (b : ByteArray) : bd (text k s b) = b := by
  have hts := text_size k s b
  unfold bd
  have hsz : ((text k s b).extract 5 ((text k s b).size - 2)).size = b.size := by rw [ByteArray.size_extract]; omega
  refine Crc.ba_ext _ _ hsz fun j hj => ?_
  rw [hsz] at hj
  rw [Crc.at_extract _ _ _ _ (by omega) (by omega)]
  unfold text
  rw [Crc.at_left _ _ _ (by rw [body_size]; omega)]
  unfold body
  have := Crc.at_right (head k s b) b j
  exact this
theorem back (k s : Int) (b : ByteArray) (h : ok k s b = true) : rd (txt k s b) = true ∧ rK (txt k s b) = k ∧ rS (txt k s b) = s ∧ rB (txt k s b) = b := by
  obtain ⟨k', s', rfl, rfl, hs, hk, h8⟩ := ok_facts h
  have e : txt k' s' b = text k' s' b := by unfold txt; rw [if_pos h]; rfl
  rw [e]
  obtain ⟨a0, a1, a2, a3⟩ := at_head k' s' b (by omega)
  have hkd : kd (text k' s' b) = k' := a0
  have hsq : sq (text k' s' b) = s' := by
    unfold sq
    rw [a1, a2, a3]; omega
  have hr : rd (text k' s' b) = true := by
    refine decide_eq_true ⟨by rw [text_size]; omega, ?_⟩
    unfold tx
    rw [hkd, hsq, bd_text]
    exact e
  obtain ⟨r1, r2, r3⟩ := rd_yes hr
  rw [r1, r2, r3, hkd, hsq, bd_text]
  exact ⟨hr, rfl, rfl, rfl⟩
end Flit
end Go.Proofs.Ytgflipkhhpkidaa
