/- SplitPoints by the program. -/
import Derived.Test.YtjefpcmegkeceaaSo
namespace Go.Proofs.Ytjefpcmegkeceaa
open Go.RowKit Go.Dues
set_option maxRecDepth 100000 in
set_option maxHeartbeats 8000000 in
theorem implSplitPoints_any (A : Option Addr) (n c : Nat) (x : Nat → Int) (A' : Option Addr) (m c' : Nat) (y : Nat → Int) (f t : Int) (w : World) (hn_n : n ≤ maxLen) (hs_n : SL w A n (fun j => .int .i64 (x j))) (hn_m : m ≤ maxLen) (hs_m : SL w A' m (fun j => .int .i64 (y j))) :
    Calls Try.prog 28 #[.slice A n c, .slice A' m c', .int .i64 f, .int .i64 t] w fun e w' => Gave2 w w' e (soP x n y m f t) n (spA x y f t) (spB x y f t) := by
  obtain ⟨i0, hi, hz0, hz1, hz2⟩ := info_parts Try.info64
  unfold maxLen at hn_n
  unfold maxLen at hn_m
  have HB0 := hide (Below.refl w.heap.size w)
  have HS0_0 := hide hs_n
  have HS1_0 := hide hs_m
  clear hs_n hs_m
  by_cases hall0 : allP x n 1 60 0 1000000
  rotate_left
  · have HAT0 := hide (tru_no hall0)
    have HH := hide (show ¬ soP x n y m f t from fun h => hall0 (h.1))
    clear hall0
    go_enter Try.func28, Try.ntmps28
    go_wp2_with (first | (go_at_call 69; refine (implAmount_any _ _ ).mono ?_; rintro e w' ⟨rfl, rfl⟩) | (go_at_call 53; refine (implRate_any _ _ ).mono ?_; rintro e w' ⟨rfl, rfl⟩) | (go_at_call 49; refine (implWithin_any _ _ _ _ ).mono ?_; rintro e w' ⟨rfl, rfl⟩) | (go_at_call 48; go_in))
    refine (areAll_isPoints A n c x 1 60 _ (by unfold maxLen; omega) HS0_0.out).mono ?_
    rw [HAT0.out]
    rintro e W1 ⟨rfl, hb⟩
    have HB1 := hide (HB0.out.trans (hb.mono HB0.out.size))
    have HS0_1 := hide (HS0_0.out.below hb)
    have HS1_1 := hide (HS1_0.out.below hb)
    clear hb
    go_wp2_with (first | (go_at_call 69; refine (implAmount_any _ _ ).mono ?_; rintro e w' ⟨rfl, rfl⟩) | (go_at_call 53; refine (implRate_any _ _ ).mono ?_; rintro e w' ⟨rfl, rfl⟩) | (go_at_call 49; refine (implWithin_any _ _ _ _ ).mono ?_; rintro e w' ⟨rfl, rfl⟩) | (go_at_call 48; go_in))
    go_ret3
    exact gave2_no HH.out HB1.out
  have HAT0 := hide (tru_yes hall0)
  have HAL0 := hide hall0
  clear hall0
  by_cases hall1 : allP y m 1 60 0 1000000
  rotate_left
  · have HAT1 := hide (tru_no hall1)
    have HH := hide (show ¬ soP x n y m f t from fun h => hall1 (h.2.1))
    clear hall1
    go_enter Try.func28, Try.ntmps28
    go_wp2_with (first | (go_at_call 69; refine (implAmount_any _ _ ).mono ?_; rintro e w' ⟨rfl, rfl⟩) | (go_at_call 53; refine (implRate_any _ _ ).mono ?_; rintro e w' ⟨rfl, rfl⟩) | (go_at_call 49; refine (implWithin_any _ _ _ _ ).mono ?_; rintro e w' ⟨rfl, rfl⟩) | (go_at_call 48; go_in))
    refine (areAll_isPoints A n c x 1 60 _ (by unfold maxLen; omega) HS0_0.out).mono ?_
    rw [HAT0.out]
    rintro e W1 ⟨rfl, hb⟩
    have HB1 := hide (HB0.out.trans (hb.mono HB0.out.size))
    have HS0_1 := hide (HS0_0.out.below hb)
    have HS1_1 := hide (HS1_0.out.below hb)
    clear hb
    go_wp2_with (first | (go_at_call 69; refine (implAmount_any _ _ ).mono ?_; rintro e w' ⟨rfl, rfl⟩) | (go_at_call 53; refine (implRate_any _ _ ).mono ?_; rintro e w' ⟨rfl, rfl⟩) | (go_at_call 49; refine (implWithin_any _ _ _ _ ).mono ?_; rintro e w' ⟨rfl, rfl⟩) | (go_at_call 48; go_in))
    refine (areAll_isPoints A' m c' y 1 60 _ (by unfold maxLen; omega) HS1_1.out).mono ?_
    rw [HAT1.out]
    rintro e W2 ⟨rfl, hb⟩
    have HB2 := hide (HB1.out.trans (hb.mono HB1.out.size))
    have HS0_2 := hide (HS0_1.out.below hb)
    have HS1_2 := hide (HS1_1.out.below hb)
    clear hb
    go_wp2_with (first | (go_at_call 69; refine (implAmount_any _ _ ).mono ?_; rintro e w' ⟨rfl, rfl⟩) | (go_at_call 53; refine (implRate_any _ _ ).mono ?_; rintro e w' ⟨rfl, rfl⟩) | (go_at_call 49; refine (implWithin_any _ _ _ _ ).mono ?_; rintro e w' ⟨rfl, rfl⟩) | (go_at_call 48; go_in))
    go_ret3
    exact gave2_no HH.out HB2.out
  have HAT1 := hide (tru_yes hall1)
  have HAL1 := hide hall1
  clear hall1
  by_cases heq2 : (n : Int) = (m : Int)
  rotate_left
  · have HH := hide (show ¬ soP x n y m f t from fun h => heq2 (h.2.2.1))
    have hne : ¬ n = m := fun hh => heq2 (by rw [hh])
    go_enter Try.func28, Try.ntmps28
    go_wp2_with (first | (go_at_call 69; refine (implAmount_any _ _ ).mono ?_; rintro e w' ⟨rfl, rfl⟩) | (go_at_call 53; refine (implRate_any _ _ ).mono ?_; rintro e w' ⟨rfl, rfl⟩) | (go_at_call 49; refine (implWithin_any _ _ _ _ ).mono ?_; rintro e w' ⟨rfl, rfl⟩) | (go_at_call 48; go_in))
    refine (areAll_isPoints A n c x 1 60 _ (by unfold maxLen; omega) HS0_0.out).mono ?_
    rw [HAT0.out]
    rintro e W1 ⟨rfl, hb⟩
    have HB1 := hide (HB0.out.trans (hb.mono HB0.out.size))
    have HS0_1 := hide (HS0_0.out.below hb)
    have HS1_1 := hide (HS1_0.out.below hb)
    clear hb
    go_wp2_with (first | (go_at_call 69; refine (implAmount_any _ _ ).mono ?_; rintro e w' ⟨rfl, rfl⟩) | (go_at_call 53; refine (implRate_any _ _ ).mono ?_; rintro e w' ⟨rfl, rfl⟩) | (go_at_call 49; refine (implWithin_any _ _ _ _ ).mono ?_; rintro e w' ⟨rfl, rfl⟩) | (go_at_call 48; go_in))
    refine (areAll_isPoints A' m c' y 1 60 _ (by unfold maxLen; omega) HS1_1.out).mono ?_
    rw [HAT1.out]
    rintro e W2 ⟨rfl, hb⟩
    have HB2 := hide (HB1.out.trans (hb.mono HB1.out.size))
    have HS0_2 := hide (HS0_1.out.below hb)
    have HS1_2 := hide (HS1_1.out.below hb)
    clear hb
    go_wp2_with (first | (go_at_call 69; refine (implAmount_any _ _ ).mono ?_; rintro e w' ⟨rfl, rfl⟩) | (go_at_call 53; refine (implRate_any _ _ ).mono ?_; rintro e w' ⟨rfl, rfl⟩) | (go_at_call 49; refine (implWithin_any _ _ _ _ ).mono ?_; rintro e w' ⟨rfl, rfl⟩) | (go_at_call 48; go_in))
    go_ret3
    exact gave2_no HH.out HB2.out
  obtain rfl : n = m := by omega
  cases gg3 : inB t (0) ((n : Int))
  · have HH := hide (show ¬ soP x n y n f t from fun h => by rw [inB_yes (h.2.2.2.1)] at gg3; cases gg3)
    go_enter Try.func28, Try.ntmps28
    go_wp2_with (first | (go_at_call 69; refine (implAmount_any _ _ ).mono ?_; rintro e w' ⟨rfl, rfl⟩) | (go_at_call 53; refine (implRate_any _ _ ).mono ?_; rintro e w' ⟨rfl, rfl⟩) | (go_at_call 49; refine (implWithin_any _ _ _ _ ).mono ?_; rintro e w' ⟨rfl, rfl⟩) | (go_at_call 48; go_in))
    refine (areAll_isPoints A n c x 1 60 _ (by unfold maxLen; omega) HS0_0.out).mono ?_
    rw [HAT0.out]
    rintro e W1 ⟨rfl, hb⟩
    have HB1 := hide (HB0.out.trans (hb.mono HB0.out.size))
    have HS0_1 := hide (HS0_0.out.below hb)
    have HS1_1 := hide (HS1_0.out.below hb)
    clear hb
    go_wp2_with (first | (go_at_call 69; refine (implAmount_any _ _ ).mono ?_; rintro e w' ⟨rfl, rfl⟩) | (go_at_call 53; refine (implRate_any _ _ ).mono ?_; rintro e w' ⟨rfl, rfl⟩) | (go_at_call 49; refine (implWithin_any _ _ _ _ ).mono ?_; rintro e w' ⟨rfl, rfl⟩) | (go_at_call 48; go_in))
    refine (areAll_isPoints A' n c' y 1 60 _ (by unfold maxLen; omega) HS1_1.out).mono ?_
    rw [HAT1.out]
    rintro e W2 ⟨rfl, hb⟩
    have HB2 := hide (HB1.out.trans (hb.mono HB1.out.size))
    have HS0_2 := hide (HS0_1.out.below hb)
    have HS1_2 := hide (HS1_1.out.below hb)
    clear hb
    go_wp2_with (first | (go_at_call 69; refine (implAmount_any _ _ ).mono ?_; rintro e w' ⟨rfl, rfl⟩) | (go_at_call 53; refine (implRate_any _ _ ).mono ?_; rintro e w' ⟨rfl, rfl⟩) | (go_at_call 49; refine (implWithin_any _ _ _ _ ).mono ?_; rintro e w' ⟨rfl, rfl⟩) | (go_at_call 48; go_in))
    go_ret3
    exact gave2_no HH.out HB2.out
  have HG3 := hide (inB_iff.1 gg3)
  cases gg4 : inB f (0) (t)
  · have HH := hide (show ¬ soP x n y n f t from fun h => by rw [inB_yes (h.2.2.2.2)] at gg4; cases gg4)
    go_enter Try.func28, Try.ntmps28
    go_wp2_with (first | (go_at_call 69; refine (implAmount_any _ _ ).mono ?_; rintro e w' ⟨rfl, rfl⟩) | (go_at_call 53; refine (implRate_any _ _ ).mono ?_; rintro e w' ⟨rfl, rfl⟩) | (go_at_call 49; refine (implWithin_any _ _ _ _ ).mono ?_; rintro e w' ⟨rfl, rfl⟩) | (go_at_call 48; go_in))
    refine (areAll_isPoints A n c x 1 60 _ (by unfold maxLen; omega) HS0_0.out).mono ?_
    rw [HAT0.out]
    rintro e W1 ⟨rfl, hb⟩
    have HB1 := hide (HB0.out.trans (hb.mono HB0.out.size))
    have HS0_1 := hide (HS0_0.out.below hb)
    have HS1_1 := hide (HS1_0.out.below hb)
    clear hb
    go_wp2_with (first | (go_at_call 69; refine (implAmount_any _ _ ).mono ?_; rintro e w' ⟨rfl, rfl⟩) | (go_at_call 53; refine (implRate_any _ _ ).mono ?_; rintro e w' ⟨rfl, rfl⟩) | (go_at_call 49; refine (implWithin_any _ _ _ _ ).mono ?_; rintro e w' ⟨rfl, rfl⟩) | (go_at_call 48; go_in))
    refine (areAll_isPoints A' n c' y 1 60 _ (by unfold maxLen; omega) HS1_1.out).mono ?_
    rw [HAT1.out]
    rintro e W2 ⟨rfl, hb⟩
    have HB2 := hide (HB1.out.trans (hb.mono HB1.out.size))
    have HS0_2 := hide (HS0_1.out.below hb)
    have HS1_2 := hide (HS1_1.out.below hb)
    clear hb
    go_wp2_with (first | (go_at_call 69; refine (implAmount_any _ _ ).mono ?_; rintro e w' ⟨rfl, rfl⟩) | (go_at_call 53; refine (implRate_any _ _ ).mono ?_; rintro e w' ⟨rfl, rfl⟩) | (go_at_call 49; refine (implWithin_any _ _ _ _ ).mono ?_; rintro e w' ⟨rfl, rfl⟩) | (go_at_call 48; go_in))
    go_ret3
    exact gave2_no HH.out HB2.out
  have HG4 := hide (inB_iff.1 gg4)
  have HH := hide (show soP x n y n f t from ⟨HAL0.out, HAL1.out, rfl, HG3.out, HG4.out⟩)
  have n60 := HAL0.out.1.2
  have n1 : 1 ≤ n := by have := HAL0.out.1.1; omega
  go_enter Try.func28, Try.ntmps28
  go_wp2_with (first | (go_at_call 69; refine (implAmount_any _ _ ).mono ?_; rintro e w' ⟨rfl, rfl⟩) | (go_at_call 53; refine (implRate_any _ _ ).mono ?_; rintro e w' ⟨rfl, rfl⟩) | (go_at_call 49; refine (implWithin_any _ _ _ _ ).mono ?_; rintro e w' ⟨rfl, rfl⟩) | (go_at_call 48; go_in))
  refine (areAll_isPoints A n c x 1 60 _ (by unfold maxLen; omega) HS0_0.out).mono ?_
  rw [HAT0.out]
  rintro e W1 ⟨rfl, hb⟩
  have HB1 := hide (HB0.out.trans (hb.mono HB0.out.size))
  have HS0_1 := hide (HS0_0.out.below hb)
  have HS1_1 := hide (HS1_0.out.below hb)
  clear hb
  go_wp2_with (first | (go_at_call 69; refine (implAmount_any _ _ ).mono ?_; rintro e w' ⟨rfl, rfl⟩) | (go_at_call 53; refine (implRate_any _ _ ).mono ?_; rintro e w' ⟨rfl, rfl⟩) | (go_at_call 49; refine (implWithin_any _ _ _ _ ).mono ?_; rintro e w' ⟨rfl, rfl⟩) | (go_at_call 48; go_in))
  refine (areAll_isPoints A' n c' y 1 60 _ (by unfold maxLen; omega) HS1_1.out).mono ?_
  rw [HAT1.out]
  rintro e W2 ⟨rfl, hb⟩
  have HB2 := hide (HB1.out.trans (hb.mono HB1.out.size))
  have HS0_2 := hide (HS0_1.out.below hb)
  have HS1_2 := hide (HS1_1.out.below hb)
  clear hb
  go_wp2_with (first | (go_at_call 66; fail) | (go_at_call 69; refine (implAmount_any _ _ ).mono ?_; rintro e w' ⟨rfl, rfl⟩) | (go_at_call 53; refine (implRate_any _ _ ).mono ?_; rintro e w' ⟨rfl, rfl⟩) | (go_at_call 49; refine (implWithin_any _ _ _ _ ).mono ?_; rintro e w' ⟨rfl, rfl⟩) | (go_at_call 48; go_in))
  refine (clone7_any A n c x _ n1 (by omega) HS0_2.out).mono ?_
  rintro e w1 ⟨g, cp, xs, rfl, hown, hxs, hb⟩
  have HB1 := hide (HB2.out.trans (hb.mono HB2.out.size))
  have S1 := hide (HS1_2.out.below hb)
  have HO1 := hide hown
  have HX := hide hxs
  have hz := HB2.out.size
  have hgl := (hown.lt g rfl).2
  have hgl1 := (hown.lt g rfl).1
  clear hown hxs hb gg3 gg4
  go_wp2_with (go_at_call 66; fail)
  refine (clone7_any A' n c' y _ n1 (by omega) S1.out).mono ?_
  rintro e w2 ⟨g', cp', ys, rfl, hown, hys, hb⟩
  have hz1 := HB1.out.size
  have HB2 := hide (HB1.out.trans (hb.mono HB1.out.size))
  have HP0 := hide (own_lower7 (B' := w.heap.size) (own_stays HO1.out hb) (by omega))
  have HR0 := hide (own_lower7 (B' := w.heap.size) hown (by omega))
  have HY := hide hys
  have hgr := (hown.lt g' rfl).1
  have hgg : ¬ g = g' := by omega
  have hgg' : ¬ g' = g := by omega
  have HGB := hide (show w.heap.size ≤ g by omega)
  have HGB' := hide (show w.heap.size ≤ g' by omega)
  clear hown HO1 hgl hgl1 hgr hz hz1 hb
  obtain ⟨F, rfl⟩ : ∃ F : Nat, f = F := ⟨f.toNat, by have := HG4.out; omega⟩
  obtain ⟨T, rfl⟩ : ∃ T : Nat, t = T := ⟨t.toNat, by have := HG3.out; omega⟩
  have hFT : F ≤ T := by have := HG4.out; omega
  have hTn : T ≤ n := by have := HG3.out; omega
  go_wp2
  go_loopw [13, 14] (fun i _ wr => ∃ (u : Nat) (xs ys : List Value), F ≤ u ∧ u ≤ T ∧ i = .int .i64 u ∧ wr.ownsRow w.heap.size 2 1 (.slice (some ⟨g, 0, none⟩) n cp) n xs ∧ wr.ownsRow w.heap.size 2 1 (.slice (some ⟨g', 0, none⟩) n cp') n ys ∧ Hid (∀ j, j < n → xs[j]? = some (.int .i64 (spA x y F u j))) ∧ Hid (∀ j, j < n → ys[j]? = some (.int .i64 (spB x y F u j))) ∧ Below w.heap.size w wr) (fun i _ _ => T - (intOf i).toNat)
  case atStart => exact ⟨F, _, _, Nat.le_refl _, hFT, rfl, HP0.out, HR0.out, (fun j hj => by rw [spA_start]; exact HX.out j hj), (fun j hj => by rw [spB_start]; exact HY.out j hj), HB2.out⟩
  case round =>
    clear HP0 HR0 HX HY HB2 HB1
    obtain ⟨u, xs, ys, hFu, hu, rfl, hown, hownR, hxs, hys, hbel⟩ := hrel
    by_cases hlt : u < T
    · have hun : u < n := by omega
      have huni : (u : Int) < (n : Int) := by omega
      have hxu := hxs.out u hun
      have hyu := hys.out u hun
      rw [spA_at] at hxu
      rw [spB_at] at hyu
      have gold : wr.cell? ⟨g, u, none⟩ = some (.int .i64 (x u)) := (hown.cellAt u (by omega)).trans hxu
      have lold : wr.cell? ⟨g', u, none⟩ = some (.int .i64 (y u)) := (hownR.cellAt u (by omega)).trans hyu
      have gfr := hown.frozenAt u
      have lfr := hownR.frozenAt u
      obtain ⟨x0, x1⟩ := HAL0.out.2 u hun
      obtain ⟨y0, y1⟩ := HAL1.out.2 u hun
      obtain ⟨⟨a0, a1⟩, ⟨b0, b1⟩, h0, h1⟩ := hf_bd ⟨x0, x1⟩ ⟨y0, y1⟩
      obtain ⟨X, hX⟩ : ∃ X, x u = X := ⟨_, rfl⟩
      obtain ⟨Y, hY⟩ : ∃ Y, y u = Y := ⟨_, rfl⟩
      rw [hX, hY] at a0 a1 b0 b1 h0 h1
      rw [hX] at gold x0 x1
      rw [hY] at lold y0 y1
      obtain ⟨H, hH⟩ : ∃ H, hfV X Y = H := ⟨_, rfl⟩
      rw [hH] at a0 a1 b0 b1 h0 h1
      have HXN := hide (fun j (_ : j < n) => show spA x y F ((u : Int) + 1) j = if j = u then X - H else spA x y F u j by rw [spA_step x y (by omega), hX, hY, hH])
      have HYN := hide (fun j (_ : j < n) => show spB x y F ((u : Int) + 1) j = if j = u then Y + H else spB x y F u j by rw [spB_step x y (by omega), hX, hY, hH])
      have HSG := fun q => hide (World.ownsRow.stored (w := wr.drewN q) hown u (.int .i64 (X - H)))
      have HST := fun q => hide (World.ownsRow.stored (w := (wr.drewN q).setCell ⟨g, u, none⟩ (.int .i64 (X - H))) (own_other7 (w := wr.drewN q) hownR (by exact hgg)) u (.int .i64 (Y + H)))
      have HTG := fun q => hide (World.ownsRow.stored (w := wr.drewN q) hownR u (.int .i64 (Y + H)))
      have HTS := fun q => hide (World.ownsRow.stored (w := (wr.drewN q).setCell ⟨g', u, none⟩ (.int .i64 (Y + H))) (own_other7 (w := wr.drewN q) hown (by exact hgg')) u (.int .i64 (X - H)))
      have HLX := hide (show xs.length = n by have := hown.1; omega)
      have HLY := hide (show ys.length = n by have := hownR.1; omega)
      have HBEL := hide hbel
      have e1 : (u : Int) + 1 = ((u + 1 : Nat) : Int) := by push_cast; rfl
      have hq : (X - Y).tdiv 2 = H := hH
      rw [e1] at HXN HYN
      clear hX hY hH hxu hyu hown hownR hbel e1
      go_wp2
      go_quiet (fail)
      go_wp2
      go_roundw
      case rel => exact ⟨u + 1, xs.set u (.int .i64 (X - H)), ys.set u (.int .i64 (Y + H)), by omega, by omega, by go_num, own_other7 (HSG _).out.1 (by exact hgg'), (HST _).out.1, set_row HLX.out hxs.out HXN.out, set_row HLY.out hys.out HYN.out, ((bel_q HBEL.out _).setCell (by exact HGB.out) _).setCell (by exact HGB'.out) _⟩
      case measure => simp [intOf]; omega
    · obtain rfl : u = T := by omega
      have HO1 := hide (OW.of_owns (f := fun j => .int .i64 (spA x y F u j)) hown hxs.out)
      have HO2 := hide (OW.of_owns (f := fun j => .int .i64 (spB x y F u j)) hownR hys.out)
      have HBEL := hide hbel
      clear hown hownR hbel
      go_wp2
      go_ret3
      exact gave2_yes HH.out HO1.out HO2.out (fun _ h => hgg (by injection h with h; injection h)) HBEL.out
end Go.Proofs.Ytjefpcmegkeceaa
