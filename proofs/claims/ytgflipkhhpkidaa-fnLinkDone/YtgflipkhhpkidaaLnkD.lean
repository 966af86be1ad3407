/- impl.bodiesOk, impl.LinkOk -/
import Derived.Test.YtgflipkhhpkidaaLnkC
namespace Go.Proofs.Ytgflipkhhpkidaa
open Go.RowKit
set_option linter.unusedVariables false
set_option linter.unusedSimpArgs false

theorem byt_ne {a b : ByteArray} (h : ¬ a = b) : (a.toList == b.toList) = false := by
  rw [beq_eq_false_iff_ne]
  intro e
  apply h
  rw [ByteArray.toList_eq, ByteArray.toList_eq] at e
  exact ByteArray.ext (Array.toList_inj.1 e)
theorem Sg.at1 {w : World} {ad : Option Addr} {n m cap : Nat} {s : Nat → ByteArray} (h : Sg w (.slice ad n cap) 1 m (tF s)) (hp : 0 < n) (hnm : n = m) : ∃ b off, ad = some ⟨b, off, none⟩ ∧ ∀ j, j < n → w.cell? ⟨b, off + j, none⟩ = some (.string (s j)) := by
  subst hnm
  obtain ⟨ad', cap', e, hc⟩ := h
  simp only [Value.slice.injEq] at e
  obtain ⟨rfl, _, rfl⟩ := e
  obtain ⟨b, off, rfl, hd⟩ := hc hp
  refine ⟨b, off, rfl, fun j hj => ?_⟩
  have := hd j hj 0 (by omega)
  rwa [Nat.mul_one, Nat.add_zero] at this

/-- what bodiesOk answers -/
def boB (bn nw ng : Nat) (ws gs : Nat → ByteArray) : Bool := maB bn ng ws gs && (tbB nw ws && tbB ng gs)
theorem bo_no {bn nw ng k : Nat} {ws gs : Nat → ByteArray} (hk : k < ng - bn) (h : ¬ ws k = gs (bn + k)) : false = boB bn nw ng ws gs := by
  unfold boB
  rw [show maB bn ng ws gs = false from decide_eq_false (fun hh => h (hh k hk)), Bool.false_and]

set_option maxRecDepth 20000 in
set_option maxHeartbeats 4000000 in
theorem bodies_any (pk : Int) (bn : Nat) (wa da ua : Option Addr) (gb go nw ng nd nu wc gc dc uc : Nat) (ws gs : Nat → ByteArray) (w : World) (hw : Sg w (.slice wa nw wc) 1 nw (tF ws)) (hg : Sg w (.slice (some ⟨gb, go, none⟩) ng gc) 1 ng (tF gs)) (h1 : bn ≤ ng) (h2 : ng - bn ≤ nw) (h3 : ng ≤ gc) (h4 : ng ≤ 1048576) (h5 : nw ≤ 1048576) :
    Calls Try.prog 30 #[.agg (l6 (bn : Int) (.slice wa nw wc) pk (.slice (some ⟨gb, go, none⟩) ng gc) (.slice da nd dc) (.slice ua nu uc))] w fun e w' => e = .returned (.bool (boB bn nw ng ws gs)) ∧ Below w.heap.size w w' := by
  have hB0 : Below w.heap.size w (w.alloc (.cells (l6 (bn : Int) (.slice wa nw wc) pk (.slice (some ⟨gb, go, none⟩) ng gc) (.slice da nd dc) (.slice ua nu uc)) 27)) := (Below.refl _ _).alloc (Nat.le_refl _) _
  obtain ⟨_, x0, x1, x2, x3, x4, x5⟩ := box6 (heap_alloc_new w (.cells (l6 (bn : Int) (.slice wa nw wc) pk (.slice (some ⟨gb, go, none⟩) ng gc) (.slice da nd dc) (.slice ua nu uc)) 27))
  obtain ⟨W, hE⟩ : ∃ W, w.alloc (.cells (l6 (bn : Int) (.slice wa nw wc) pk (.slice (some ⟨gb, go, none⟩) ng gc) (.slice da nd dc) (.slice ua nu uc)) 27) = W := ⟨_, rfl⟩
  rw [hE] at hB0 x0 x1 x2 x3 x4 x5
  have HW := hide (hw.below hB0)
  have HG := hide (hg.below hB0)
  have HTW := hide (implTexts_any _ nw ws W HW.out h5)
  have HTG := hide (implTexts_any _ ng gs W HG.out h4)
  clear hw hg
  -- the end: all that was got is there
  have fin : Hid (∀ (tw tg : Bool), tbB nw ws = tw → tbB ng gs = tg → (∀ j, j < ng - bn → ws j = gs (bn + j)) → (tw && tg) = boB bn nw ng ws gs) := hide (fun tw tg e1 e2 h => by
    unfold boB
    rw [show maB bn ng ws gs = true from decide_eq_true h, e1, e2, Bool.true_and])
  obtain ⟨tw, htw⟩ : ∃ tw, tbB nw ws = tw := ⟨_, rfl⟩
  obtain ⟨tg, htg⟩ : ∃ tg, tbB ng gs = tg := ⟨_, rfl⟩
  rw [htw] at HTW
  rw [htg] at HTG
  have FIN := hide (fin.out tw tg htw htg)
  clear fin htw htg
  have hbn : (0 : Int) ≤ (bn : Int) := by omega
  have hbn2 : (bn : Int) ≤ (ng : Int) := by omega
  by_cases hz : gc = bn
  · have hng : ng = bn := by omega
    subst hng
    subst hz
    have HF := hide (FIN.out (fun j hj => absurd hj (by omega)))
    go_enter Try.func30, Try.ntmps30
    go_wp2
    go_loopw [11] (fun j wr => j = .int .i64 0 ∧ wr = W) (fun _ _ => 0)
    case atStart => exact ⟨rfl, rfl⟩
    case round =>
      obtain ⟨rfl, rfl⟩ := hrel
      go_wp2_with fail
      refine HTW.out.mono ?_
      rintro e w2 ⟨rfl, rfl⟩
      cases tw with
      | false =>
        go_wp2
        go_ret
        exact ⟨retb HF.out, hB0⟩
      | true =>
        go_wp2_with fail
        refine HTG.out.mono ?_
        rintro e w2 ⟨rfl, rfl⟩
        go_wp2
        go_ret
        exact ⟨retb HF.out, hB0⟩
  · have hz2 : ¬ gc - bn = 0 := by omega
    obtain ⟨n, hn⟩ : ∃ n, ng - bn = n := ⟨_, rfl⟩
    have HNO : Hid (∀ k, k < n → ¬ ws k = gs (bn + k) → false = boB bn nw ng ws gs) := hide (fun k hk h => bo_no (by omega) h)
    have FIN2 : Hid ((∀ j, j < n → ws j = gs (bn + j)) → (tw && tg) = boB bn nw ng ws gs) := hide (fun h => FIN.out (fun j hj => h j (by omega)))
    have hgcn : bn < gc := by omega
    clear FIN
    go_enter Try.func30, Try.ntmps30
    go_wp2
    clear hE
    go_loopw [11] (fun j wr => ∃ k : Nat, k ≤ n ∧ j = .int .i64 k ∧ wr = W ∧ Hid (∀ j, j < k → ws j = gs (bn + j))) (fun j _ => n - (intOf j).toNat)
    case atStart => exact ⟨0, Nat.zero_le _, rfl, rfl, hide (fun j hj => absurd hj (by omega))⟩
    case round =>
      obtain ⟨k, hk, rfl, rfl, HK⟩ := hrel
      by_cases hlt : k < n
      · obtain ⟨wb, wo, rfl, hcw⟩ := HW.out.at1 (by omega) rfl
        obtain ⟨gb', go', eg, hcg⟩ := HG.out.at1 (by omega) rfl
        simp only [Option.some.injEq, Addr.mk.injEq] at eg
        obtain ⟨rfl, rfl, _⟩ := eg
        have cw := hcw k (by omega)
        have cg : wr.cell? ⟨gb, go + bn + k, none⟩ = some (.string (gs (bn + k))) := by
          have := hcg (bn + k) (by omega)
          rwa [← Nat.add_assoc] at this
        have hk0 : (0 : Int) ≤ (k : Int) := by omega
        have hkn : (k : Int) < ((ng - bn : Nat) : Int) := by omega
        have hkw : (k : Int) < (nw : Int) := by omega
        clear hcw hcg
        by_cases he : ws k = gs (bn + k)
        · have HK2 : Hid (∀ j, j < k + 1 → ws j = gs (bn + j)) := hide (fun j hj => by
            by_cases e : j = k
            · subst e; exact he
            · exact HK.out j (by omega))
          have hself := str_self (gs (bn + k))
          rw [he] at cw
          clear he
          generalize gs (bn + k) = gk at cw cg hself
          go_wp2
          go_roundw
          case rel => exact ⟨k + 1, by omega, by go_num, by first | rfl | trivial, HK2⟩
          case measure => simp [intOf]; omega
        · have HO := hide (HNO.out k hlt he)
          have hq := byt_ne he
          clear he
          generalize gs (bn + k) = gk at cg hq
          generalize ws k = wk at cw hq
          go_wp2
          go_ret
          exact ⟨retb HO.out, hB0⟩
      · have HF := hide (FIN2.out (fun j hj => HK.out j (by omega)))
        have hnk : ¬ (k : Int) < ((ng - bn : Nat) : Int) := by omega
        go_wp2_with fail
        refine HTW.out.mono ?_
        rintro e w2 ⟨rfl, rfl⟩
        cases tw with
        | false =>
          go_wp2
          go_ret
          exact ⟨retb HF.out, hB0⟩
        | true =>
          go_wp2_with fail
          refine HTG.out.mono ?_
          rintro e w2 ⟨rfl, rfl⟩
          go_wp2
          go_ret
          exact ⟨retb HF.out, hB0⟩

end Go.Proofs.Ytgflipkhhpkidaa
