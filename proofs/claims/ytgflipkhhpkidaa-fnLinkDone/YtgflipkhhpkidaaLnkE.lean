/- impl.LinkOk -/
import Derived.Test.YtgflipkhhpkidaaLnkD
namespace Go.Proofs.Ytgflipkhhpkidaa
open Go.RowKit
set_option linter.unusedVariables false
set_option linter.unusedSimpArgs false

theorem lk_eq (p : Lk) : lkB p = (nbB p.base p.want p.nw p.ng && boB p.base.toNat p.nw p.ng p.ws p.gs && wiB p.nd p.dt && wiB p.nu p.ut) := rfl

set_option maxRecDepth 20000 in
set_option maxHeartbeats 4000000 in
theorem implLinkOk_any (p : Lk) (wa da ua : Option Addr) (gb go wc gc dc uc : Nat) (w : World) (hv : Lv w (.slice wa p.nw wc) (.slice (some ⟨gb, go, none⟩) p.ng gc) (.slice da p.nd dc) (.slice ua p.nu uc) p) (hs : Lsm 1048576 p) (hgc : p.ng ≤ gc) :
    Calls Try.prog 12 #[.agg (l6 p.base (.slice wa p.nw wc) p.want (.slice (some ⟨gb, go, none⟩) p.ng gc) (.slice da p.nd dc) (.slice ua p.nu uc))] w fun e w' => e = .returned (.bool (lkB p)) ∧ Below w.heap.size w w' := by
  have hB0 : Below w.heap.size w (w.alloc (.cells (l6 p.base (.slice wa p.nw wc) p.want (.slice (some ⟨gb, go, none⟩) p.ng gc) (.slice da p.nd dc) (.slice ua p.nu uc)) 27)) := (Below.refl _ _).alloc (Nat.le_refl _) _
  have qa := heap_alloc_new w (.cells (l6 p.base (.slice wa p.nw wc) p.want (.slice (some ⟨gb, go, none⟩) p.ng gc) (.slice da p.nd dc) (.slice ua p.nu uc)) 27)
  obtain ⟨W, hE⟩ : ∃ W, w.alloc (.cells (l6 p.base (.slice wa p.nw wc) p.want (.slice (some ⟨gb, go, none⟩) p.ng gc) (.slice da p.nd dc) (.slice ua p.nu uc)) 27) = W := ⟨_, rfl⟩
  rw [hE] at hB0 qa
  have HV := hide (hv.below hB0)
  obtain ⟨_, x0, x1, x2, x3, x4, x5⟩ := box6 qa
  have HLK := hide (lk_eq p)
  have HNB : Hid (nbB p.base p.want p.nw p.ng = true → nbP p.base p.want p.nw p.ng) := hide (fun h => of_decide_eq_true h)
  obtain ⟨⟨s1, _⟩, ⟨s2, _⟩, ⟨s3, _⟩, ⟨s4, _⟩⟩ := hs
  have HN := hide (fun W' => numbers_any p.base p.want wa (some ⟨gb, go, none⟩) da ua p.nw p.ng p.nd p.nu wc gc dc uc W')
  have HBO := hide (fun (bn : Nat) W' (h1 : Sg W' (.slice wa p.nw wc) 1 p.nw (tF p.ws)) (h2 : Sg W' (.slice (some ⟨gb, go, none⟩) p.ng gc) 1 p.ng (tF p.gs)) (h3 : bn ≤ p.ng) (h4 : p.ng - bn ≤ p.nw) => bodies_any p.want bn wa da ua gb go p.nw p.ng p.nd p.nu wc gc dc uc p.ws p.gs W' h1 h2 h3 h4 hgc s2 s1)
  have HDN := hide (fun W' (h : Sg W' (.slice da p.nd dc) 2 p.nd (wF p.dt p.dh)) => implWires_any _ p.nd p.dt p.dh W' h s3)
  have HUP := hide (fun W' (h : Sg W' (.slice ua p.nu uc) 2 p.nu (wF p.ut p.uh)) => implWires_any _ p.nu p.ut p.uh W' h s4)
  generalize lkB p = res at HLK ⊢
  generalize nbB p.base p.want p.nw p.ng = nb at HN HLK HNB
  generalize wiB p.nd p.dt = wd at HDN HLK
  generalize wiB p.nu p.ut = wu at HUP HLK
  clear hv
  go_enter Try.func12, Try.ntmps12
  go_wp2_with fail
  refine (HN.out _).mono ?_
  rintro e w1 ⟨rfl, hb1⟩
  have hB1 := hB0.trans (hb1.mono hB0.size)
  have qa1 := heap_bl qa hb1
  have HV1 := hide (HV.out.below hb1)
  clear hb1 hB0 qa HV x0 x1 x2 x3 x4 x5 hE
  obtain ⟨_, x0, x1, x2, x3, x4, x5⟩ := box6 qa1
  cases nb with
  | false =>
    have HO : Hid (false = res) := hide (by rw [HLK.out]; rfl)
    go_wp2
    go_ret
    exact ⟨retb HO.out, hB1⟩
  | true =>
    obtain ⟨n1, n2, n3, n4, n5, n6⟩ := HNB.out rfl
    obtain ⟨bn, hbn⟩ := Int.eq_ofNat_of_zero_le n1
    have HBO2 := hide (fun W' h1 h2 => HBO.out bn W' h1 h2 (by omega) (by omega))
    rw [hbn] at HLK x0
    simp only [Int.toNat_natCast] at HLK
    generalize boB bn p.nw p.ng p.ws p.gs = bo at HBO2 HLK
    clear HBO HNB n1 n2 n3 n4 n5 n6 hbn HN
    go_wp2_with fail
    refine (HBO2.out _ HV1.out.wa HV1.out.go).mono ?_
    rintro e w2 ⟨rfl, hb2⟩
    have hB2 := hB1.trans (hb2.mono hB1.size)
    have qa2 := heap_bl qa1 hb2
    have HV2 := hide (HV1.out.below hb2)
    clear hb2 hB1 HV1 x0 x1 x2 x3 x4 x5
    obtain ⟨_, x0, x1, x2, x3, x4, x5⟩ := box6 qa2
    cases bo with
    | false =>
      have HO : Hid (false = res) := hide (by rw [HLK.out]; rfl)
      go_wp2
      go_ret
      exact ⟨retb HO.out, hB2⟩
    | true =>
      go_wp2_with fail
      refine (HDN.out _ HV2.out.dn).mono ?_
      rintro e w3 ⟨rfl, hb3⟩
      have hB3 := hB2.trans (hb3.mono hB2.size)
      have qa3 := heap_bl qa2 hb3
      have HV3 := hide (HV2.out.below hb3)
      clear hb3 hB2 HV2 x0 x1 x2 x3 x4 x5
      obtain ⟨_, x0, x1, x2, x3, x4, x5⟩ := box6 qa3
      cases wd with
      | false =>
        have HO : Hid (false = res) := hide (by rw [HLK.out]; rfl)
        go_wp2
        go_ret
        exact ⟨retb HO.out, hB3⟩
      | true =>
        go_wp2_with fail
        refine (HUP.out _ HV3.out.up).mono ?_
        rintro e w4 ⟨rfl, hb4⟩
        have hB4 := hB3.trans (hb4.mono hB3.size)
        have HO : Hid (wu = res) := hide (by rw [HLK.out]; cases wu <;> rfl)
        clear hb4 hB3 HV3 x0 x1 x2 x3 x4 x5
        cases wu
        all_goals
          go_wp2
          go_ret
          exact ⟨retb HO.out, hB4⟩

end Go.Proofs.Ytgflipkhhpkidaa
