/- RateCurve, by the program. -/
import Derived.Test.YtjebkagbknmdoaaRc8
import Derived.Test.YtjebkagbknmdoaaU7
namespace Go.Proofs.Ytjebkagbknmdoaa
open Go.RowKit Go.Dues
set_option maxRecDepth 100000 in
set_option maxHeartbeats 8000000 in
theorem implRateCurve_any (A A' : Option Addr) (n c n' c' : Nat) (x y : Nat → Int) (B : Option Addr) (pn pc : Nat) (px : Nat → Int) (w : World) (hn : n ≤ maxLen) (hn' : n' ≤ maxLen)
    (hs : SL w A n (fun j => .int .i64 (x j))) (hs' : SL w A' n' (fun j => .int .i64 (y j))) (hpn : pn ≤ maxLen) (hp : SL w B pn (fun j => .int .i64 (px j))) :
    Calls Try.prog 60 #[.agg #[.slice A n c, .slice A' n' c'], .slice B pn pc] w fun e w' => GaveF w w' e (rcP x y n n' px pn) pn (rcV x y n px) := by
  obtain ⟨i0, hi, hz0, hz1, hz2⟩ := info_parts Try.infoF
  have HB := hide ((Below.refl w.heap.size w).alloc (Nat.le_refl _) (.cells #[.slice A n c, .slice A' n' c'] 39))
  have HS := hide (hs.below HB.out)
  have HS' := hide (hs'.below HB.out)
  have HPS := hide (hp.below HB.out)
  have HI := hide (implDueBy_any A A' n c n' c' x y 0 _ hn hn' HS.out HS'.out)
  have HPN := fun w => hide (implPayCount_any pn w hpn)
  clear hs hs' hp
  by_cases hw : wayP x y n n' 0
  rotate_left
  · have hwt := tru_no hw
    have HH := hide (show ¬ rcP x y n n' px pn from fun h => hw ⟨h.1, by decide⟩)
    clear hw hpn
    go_enter Try.func60, Try.ntmps60
    go_wp2_with fail
    refine HI.out.mono ?_
    rintro e w1 ⟨S, R, rfl, hd, hS, hb⟩
    have HB1 := hide (below_left HB.out hb (by simp))
    clear hb hd hS
    go_wp2
    go_ret2
    exact gavef_no HH.out HB1.out
  have hwt := tru_yes hw
  have HWAY := hide hw
  clear hw
  by_cases hpc : payN pn
  rotate_left
  · have HT := hide (tru_no hpc)
    have HH := hide (show ¬ rcP x y n n' px pn from fun h => hpc ⟨by have := h.2.1.1; omega, by have := h.2.1.2; omega⟩)
    clear hpc
    go_enter Try.func60, Try.ntmps60
    go_wp2_with fail
    refine HI.out.mono ?_
    rintro e w1 ⟨S, R, rfl, hd, hS, hb⟩
    have HB1 := hide (below_left HB.out hb (by simp))
    clear hb hd hS
    go_wp2_with fail
    refine (HPN _).out.mono ?_
    rw [HT.out]
    rintro e w' ⟨rfl, rfl⟩
    go_wp2
    go_ret2
    exact gavef_no HH.out HB1.out
  have HTC := hide (tru_yes hpc)
  have h60 := hpc.2
  have h1n := hpc.1
  clear hpc
  have HHAS := fun w hs => hide (implHas8_any B pn pc px 0 w hpn hs)
  clear hpn
  by_cases hz : hasP8 px pn 0
  · have HT := hide (tru_yes hz)
    have HH := hide (show ¬ rcP x y n n' px pn from fun h => by
      obtain ⟨j, hj, e⟩ := hz
      have := (h.2.2 j hj).1
      omega)
    clear hz
    go_enter Try.func60, Try.ntmps60
    go_wp2_with fail
    refine HI.out.mono ?_
    rintro e w1 ⟨S, R, rfl, hd, hS, hb⟩
    have HB1 := hide (below_left HB.out hb (by simp))
    have HP1 := hide (HPS.out.below (hb.mono (by simp)))
    clear hb hd hS
    go_wp2_with fail
    refine (HPN _).out.mono ?_
    rw [HTC.out]
    rintro e w' ⟨rfl, rfl⟩
    go_wp2_with fail
    refine (HHAS _ HP1.out).out.mono ?_
    rw [HT.out]
    rintro e w' ⟨rfl, rfl⟩
    go_wp2
    go_ret2
    exact gavef_no HH.out HB1.out
  have HT := hide (tru_no hz)
  have HZ := hide (show ∀ j, j < pn → ¬ px j = 0 from fun j hj e => hz ⟨j, hj, e⟩)
  clear hz
  have hcs := fun (w : World) (m : Int) => run_convert_int_float (P := Try.prog) w 2 62 .i64 .f32 m (by rw [Try.underlying2]; rfl) Try.underlying62
  go_enter Try.func60, Try.ntmps60
  go_wp2_with fail
  refine HI.out.mono ?_
  rintro e w1 ⟨S, R, rfl, hd, hS, hb⟩
  have HD1 := hide hd
  have HB1 := hide (below_left HB.out hb (by simp))
  have HS1 := hide (HS.out.below (hb.mono (by simp)))
  have HS1' := hide (HS'.out.below (hb.mono (by simp)))
  have HP1 := hide (HPS.out.below (hb.mono (by simp)))
  have HCP := cells_a HP1.out
  clear hb hd hS
  go_wp2_with fail
  refine (HPN _).out.mono ?_
  rw [HTC.out]
  rintro e w' ⟨rfl, rfl⟩
  go_wp2_with fail
  refine (HHAS _ HP1.out).out.mono ?_
  rw [HT.out]
  rintro e w' ⟨rfl, rfl⟩
  clear HHAS HPN
  go_wp2_with (at_make; refine wpList_make_own _ rfl _ _ 45 rfl w1.heap.size 62 i0 (.float .f32 0) 1 Try.underlying45 hi hz0 hz1 _ _ _ pn rfl rfl rfl (by rw [hz2]; omega) (by unfold maxLen; omega) (Nat.le_refl _) ?_; intro w2 hown0 hgrow0)
  have HBG := hide ((Below.refl w1.heap.size w1).grown hgrow0 (Nat.le_refl _) (fun k h => by cases h))
  have HO := hide hown0
  clear hown0 hgrow0
  go_loopw [4, 5, 8, 10, 11, 12, 35] (fun r4 r5 v _ _ _ i wr => ∃ (k : Nat) (xs : List Value), k ≤ pn ∧ r4 = .slice none 0 0 ∧ r5 = .bool false ∧ i = .int .i64 k ∧ wr.ownsRow w1.heap.size 62 1 v k xs ∧ Hid (FRow xs k (rcV x y n px)) ∧ Hid (∀ j, j < k → 1 ≤ px j ∧ px j ≤ 1000000000000) ∧ Below w1.heap.size w1 wr) (fun _ _ _ _ _ _ i _ => pn - (intOf i).toNat)
  case atStart => exact ⟨0, [], Nat.zero_le _, rfl, rfl, rfl, HO.out, fun j hj => absurd hj (by omega), fun j hj => absurd hj (by omega), HBG.out⟩
  case round =>
    obtain ⟨k, xs, hk, rfl, rfl, rfl, hown, hxs, hgood, hbel⟩ := hrel
    by_cases hlt : k < pn
    · obtain ⟨b, off, rfl, hb, hc⟩ := HCP.out k hlt
      have hc2 := (hbel.cell (p := ⟨b, off + k, none⟩) hb).trans hc
      have hki : (k : Int) < (pn : Int) := by omega
      have HD2 := hide (HD1.out.below hbel)
      have HS2 := hide (HS1.out.below hbel)
      have HS2' := hide (HS1'.out.below hbel)
      have hsz := hbel.size
      clear hc
      by_cases ham : 0 ≤ px k ∧ px k ≤ 1000000000000
      · have hCAN := hide (show canP x y n n' (px k) 0 from ⟨HWAY.out.1, ham, by decide⟩)
        have HPK := hide (show 1 ≤ px k ∧ px k ≤ 1000000000000 from ⟨by have := HZ.out k hlt; omega, ham.2⟩)
        obtain ⟨D, hD⟩ : ∃ D, dueV x y n (px k) 0 = D := ⟨_, rfl⟩
        have HDV := hide hD
        obtain ⟨X, hX⟩ : ∃ X, px k = X := ⟨_, rfl⟩
        have HXV := hide hX
        have HDU := hide (implDue1_yes S R A A' n c n' c' x y (px k) 0 wr HD2.out.1 HD2.out.2 HS2.out HS2'.out hCAN.out)
        rw [hD, hX] at HDU
        rw [hX] at hc2
        have HBE := hide hbel
        have HOW := hide hown
        clear hD hX ham hbel hown
        go_wp2_with fail
        refine HDU.out.mono ?_
        rintro e w3 ⟨rfl, hb3⟩
        have HB3 := hide (HBE.out.trans (hb3.mono hsz))
        have hown3 := owns_below HOW.out hb3
        have hsz3 := hb3.size
        have HLL := hide (show xs.length = k by have := hown3.1; omega)
        clear hb3 hc2
        go_wp2_with (first
          | (refine wpList_far _ rfl _ _ _ _ _ rfl (by decide) _ _ _ rfl rfl ?_; intro q nq hq)
          | (at_builtin; refine wpList_append_own _ rfl _ _ 45 rfl w1.heap.size 62 i0 (.float .f32 0) 1 4 Try.underlying45 hi hz0 hz1 hz2 rfl (by decide) _ _ _ rfl (by exact (World.ownsRow.drewQ hown3 _)) ⟨_, 0, none⟩ 1 1 [.float .f32 q] rfl rfl (cell_one_new _ _ _) (by intro u hu; simp at hu; subst hu; rfl) (by unfold maxLen; omega) (by omega) (by simp; omega) ?_; intro v' w5 hown' hgrow _; have HBN := hide (Below.grown (Below.alloc (bel_q HB3.out _) (by first | omega | (simp; omega)) _) hgrow (by simp; omega) (fun j hj => (hown3.lt j hj).1)); have HON := hide hown'; clear hgrow hown'))
        go_roundw
        case rel =>
          exact ⟨k + 1, _, by omega, rfl, rfl, by go_num, HON.out, frow_step HLL.out hxs.out (by
            have e : rcV x y n px k = fop .quo .f32 (floatOfInt .f32 D) (floatOfInt .f32 X) := by unfold rcV; rw [HDV.out, HXV.out]
            rw [e]; exact hq.same), (fun j hj => by
            by_cases hjk : j = k
            · subst hjk; exact HPK.out
            · exact hgood.out j (by omega)), HBN.out⟩
        case measure => simp [intOf]; omega
      · have HH := hide (show ¬ rcP x y n n' px pn from fun h => ham ⟨by have := (h.2.2 k hlt).1; omega, (h.2.2 k hlt).2⟩)
        have HBX := hide (HB1.out.trans (hbel.mono HB1.out.size))
        have HNA := hide ham
        clear hown hbel ham
        go_wp2_with fail
        refine (implDue1_no S R (px k) _ HNA.out).mono ?_
        rintro e w3 ⟨rfl, rfl⟩
        go_wp2
        go_ret2
        exact gavef_no HH.out HBX.out
    · obtain ⟨G, d, rfl⟩ := own_shape hown
      obtain rfl : k = pn := by omega
      have HH := hide (show rcP x y n n' px k from ⟨HWAY.out.1, ⟨h1n, h60⟩, hgood.out⟩)
      obtain ⟨z, hz1', hz2'⟩ := frow_fun hxs.out
      have HON := hide hown
      have HBX := hide (HB1.out.trans (hbel.mono HB1.out.size))
      have HZ1 := hide hz1'
      have HZ2 := hide hz2'
      clear hown hbel hz1' hz2'
      go_wp2
      go_ret2
      exact gavef_yes HH.out ((OW.of_owns HON.out HZ1.out).wide HB1.out.size (Nat.le_refl _)) HZ2.out HBX.out
end Go.Proofs.Ytjebkagbknmdoaa
