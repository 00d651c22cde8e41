/- PointsOf by the program. -/
import Derived.Test.YtjefpcmegkeceaaPo
namespace Go.Proofs.Ytjefpcmegkeceaa
open Go.RowKit Go.Dues
set_option maxRecDepth 100000 in
set_option maxHeartbeats 8000000 in
theorem implPointsOf_any (A : Option Addr) (n c : Nat) (x : Nat → Int) (A' : Option Addr) (m c' : Nat) (y : Nat → Int) (t : Int) (w : World) (hn_n : n ≤ maxLen) (hs_n : SL w A n (fun j => .int .i64 (x j))) (hn_m : m ≤ maxLen) (hs_m : SL w A' m (fun j => .int .i64 (y j))) :
    Calls Try.prog 24 #[.slice A n c, .slice A' m c', .int .i64 t] w fun e w' => Gave1 w w' e (poP x n y m t) (n) (poV x y t) := by
  obtain ⟨i0, hi, hz0, hz1, hz2⟩ := info_parts Try.info64
  unfold maxLen at hn_n
  unfold maxLen at hn_m
  have HB0 := hide (Below.refl w.heap.size w)
  have HS0_0 := hide hs_n
  have HS1_0 := hide hs_m
  clear hs_n hs_m
  by_cases hall0 : allP x n 1 60 0 1000000000000
  rotate_left
  · have HAT0 := hide (tru_no hall0)
    have HH := hide (show ¬ poP x n y m t from fun h => hall0 (h.1))
    clear hall0
    go_enter Try.func24, Try.ntmps24
    go_wp2_with (first | (go_at_call 69; refine (implAmount_any _ _ ).mono ?_; rintro e w' ⟨rfl, rfl⟩) | (go_at_call 53; refine (implRate_any _ _ ).mono ?_; rintro e w' ⟨rfl, rfl⟩) | (go_at_call 49; refine (implWithin_any _ _ _ _ ).mono ?_; rintro e w' ⟨rfl, rfl⟩) | (go_at_call 61; go_in) | (go_at_call 64; go_in))
    refine (areAll_isAmount A n c x 1 60 _ (by unfold maxLen; omega) HS0_0.out).mono ?_
    rw [HAT0.out]
    rintro e W1 ⟨rfl, hb⟩
    have HB1 := hide (HB0.out.trans (hb.mono HB0.out.size))
    have HS0_1 := hide (HS0_0.out.below hb)
    have HS1_1 := hide (HS1_0.out.below hb)
    clear hb
    go_wp2_with (first | (go_at_call 69; refine (implAmount_any _ _ ).mono ?_; rintro e w' ⟨rfl, rfl⟩) | (go_at_call 53; refine (implRate_any _ _ ).mono ?_; rintro e w' ⟨rfl, rfl⟩) | (go_at_call 49; refine (implWithin_any _ _ _ _ ).mono ?_; rintro e w' ⟨rfl, rfl⟩) | (go_at_call 61; go_in) | (go_at_call 64; go_in))
    go_ret2
    exact gave1_no HH.out HB1.out
  have HAT0 := hide (tru_yes hall0)
  have HAL0 := hide hall0
  clear hall0
  by_cases hall1 : allP y m n n 1 1000000000000
  rotate_left
  · have HAT1 := hide (tru_no hall1)
    have HH := hide (show ¬ poP x n y m t from fun h => hall1 (po_b h))
    clear hall1
    go_enter Try.func24, Try.ntmps24
    go_wp2_with (first | (go_at_call 69; refine (implAmount_any _ _ ).mono ?_; rintro e w' ⟨rfl, rfl⟩) | (go_at_call 53; refine (implRate_any _ _ ).mono ?_; rintro e w' ⟨rfl, rfl⟩) | (go_at_call 49; refine (implWithin_any _ _ _ _ ).mono ?_; rintro e w' ⟨rfl, rfl⟩) | (go_at_call 61; go_in) | (go_at_call 64; go_in))
    refine (areAll_isAmount A n c x 1 60 _ (by unfold maxLen; omega) HS0_0.out).mono ?_
    rw [HAT0.out]
    rintro e W1 ⟨rfl, hb⟩
    have HB1 := hide (HB0.out.trans (hb.mono HB0.out.size))
    have HS0_1 := hide (HS0_0.out.below hb)
    have HS1_1 := hide (HS1_0.out.below hb)
    clear hb
    go_wp2_with (first | (go_at_call 69; refine (implAmount_any _ _ ).mono ?_; rintro e w' ⟨rfl, rfl⟩) | (go_at_call 53; refine (implRate_any _ _ ).mono ?_; rintro e w' ⟨rfl, rfl⟩) | (go_at_call 49; refine (implWithin_any _ _ _ _ ).mono ?_; rintro e w' ⟨rfl, rfl⟩) | (go_at_call 61; go_in) | (go_at_call 64; go_in))
    refine (areAll_isMean A' m c' y n n _ (by unfold maxLen; omega) HS1_1.out).mono ?_
    rw [HAT1.out]
    rintro e W2 ⟨rfl, hb⟩
    have HB2 := hide (HB1.out.trans (hb.mono HB1.out.size))
    have HS0_2 := hide (HS0_1.out.below hb)
    have HS1_2 := hide (HS1_1.out.below hb)
    clear hb
    go_wp2_with (first | (go_at_call 69; refine (implAmount_any _ _ ).mono ?_; rintro e w' ⟨rfl, rfl⟩) | (go_at_call 53; refine (implRate_any _ _ ).mono ?_; rintro e w' ⟨rfl, rfl⟩) | (go_at_call 49; refine (implWithin_any _ _ _ _ ).mono ?_; rintro e w' ⟨rfl, rfl⟩) | (go_at_call 61; go_in) | (go_at_call 64; go_in))
    go_ret2
    exact gave1_no HH.out HB2.out
  have HAT1 := hide (tru_yes hall1)
  have HAL1 := hide hall1
  clear hall1
  obtain rfl : n = m := by have := HAL1.out.1; omega
  cases gg2 : inB t (0) (1000000)
  · have HH := hide (show ¬ poP x n y n t from fun h => by rw [inB_yes (h.2.2.2)] at gg2; cases gg2)
    go_enter Try.func24, Try.ntmps24
    go_wp2_with (first | (go_at_call 69; refine (implAmount_any _ _ ).mono ?_; rintro e w' ⟨rfl, rfl⟩) | (go_at_call 53; refine (implRate_any _ _ ).mono ?_; rintro e w' ⟨rfl, rfl⟩) | (go_at_call 49; refine (implWithin_any _ _ _ _ ).mono ?_; rintro e w' ⟨rfl, rfl⟩) | (go_at_call 61; go_in) | (go_at_call 64; go_in))
    refine (areAll_isAmount A n c x 1 60 _ (by unfold maxLen; omega) HS0_0.out).mono ?_
    rw [HAT0.out]
    rintro e W1 ⟨rfl, hb⟩
    have HB1 := hide (HB0.out.trans (hb.mono HB0.out.size))
    have HS0_1 := hide (HS0_0.out.below hb)
    have HS1_1 := hide (HS1_0.out.below hb)
    clear hb
    go_wp2_with (first | (go_at_call 69; refine (implAmount_any _ _ ).mono ?_; rintro e w' ⟨rfl, rfl⟩) | (go_at_call 53; refine (implRate_any _ _ ).mono ?_; rintro e w' ⟨rfl, rfl⟩) | (go_at_call 49; refine (implWithin_any _ _ _ _ ).mono ?_; rintro e w' ⟨rfl, rfl⟩) | (go_at_call 61; go_in) | (go_at_call 64; go_in))
    refine (areAll_isMean A' n c' y n n _ (by unfold maxLen; omega) HS1_1.out).mono ?_
    rw [HAT1.out]
    rintro e W2 ⟨rfl, hb⟩
    have HB2 := hide (HB1.out.trans (hb.mono HB1.out.size))
    have HS0_2 := hide (HS0_1.out.below hb)
    have HS1_2 := hide (HS1_1.out.below hb)
    clear hb
    go_wp2_with (first | (go_at_call 69; refine (implAmount_any _ _ ).mono ?_; rintro e w' ⟨rfl, rfl⟩) | (go_at_call 53; refine (implRate_any _ _ ).mono ?_; rintro e w' ⟨rfl, rfl⟩) | (go_at_call 49; refine (implWithin_any _ _ _ _ ).mono ?_; rintro e w' ⟨rfl, rfl⟩) | (go_at_call 61; go_in) | (go_at_call 64; go_in))
    go_ret2
    exact gave1_no HH.out HB2.out
  have HG2 := hide (inB_iff.1 gg2)
  have n60 := HAL0.out.1.2
  obtain ⟨t0, t1⟩ := HG2.out
  go_enter Try.func24, Try.ntmps24
  go_wp2_with (first | (go_at_call 69; refine (implAmount_any _ _ ).mono ?_; rintro e w' ⟨rfl, rfl⟩) | (go_at_call 53; refine (implRate_any _ _ ).mono ?_; rintro e w' ⟨rfl, rfl⟩) | (go_at_call 49; refine (implWithin_any _ _ _ _ ).mono ?_; rintro e w' ⟨rfl, rfl⟩) | (go_at_call 61; go_in) | (go_at_call 64; go_in))
  refine (areAll_isAmount A n c x 1 60 _ (by unfold maxLen; omega) HS0_0.out).mono ?_
  rw [HAT0.out]
  rintro e W1 ⟨rfl, hb⟩
  have HB1 := hide (HB0.out.trans (hb.mono HB0.out.size))
  have HS0_1 := hide (HS0_0.out.below hb)
  have HS1_1 := hide (HS1_0.out.below hb)
  clear hb
  go_wp2_with (first | (go_at_call 69; refine (implAmount_any _ _ ).mono ?_; rintro e w' ⟨rfl, rfl⟩) | (go_at_call 53; refine (implRate_any _ _ ).mono ?_; rintro e w' ⟨rfl, rfl⟩) | (go_at_call 49; refine (implWithin_any _ _ _ _ ).mono ?_; rintro e w' ⟨rfl, rfl⟩) | (go_at_call 61; go_in) | (go_at_call 64; go_in))
  refine (areAll_isMean A' n c' y n n _ (by unfold maxLen; omega) HS1_1.out).mono ?_
  rw [HAT1.out]
  rintro e W2 ⟨rfl, hb⟩
  have HB2 := hide (HB1.out.trans (hb.mono HB1.out.size))
  have HS0_2 := hide (HS0_1.out.below hb)
  have HS1_2 := hide (HS1_1.out.below hb)
  clear hb
  go_wp2_with (first | (at_make; refine wpList_make_own _ rfl _ _ 22 rfl W2.heap.size 2 i0 (.int .i64 0) 1 Try.underlying22 hi hz0 hz1 _ _ _ n rfl rfl rfl (by rw [hz2]; omega) (by unfold maxLen; omega) (Nat.le_refl _) ?_; intro w2 hown0 hgrow0) | (go_at_call 69; refine (implAmount_any _ _ ).mono ?_; rintro e w' ⟨rfl, rfl⟩) | (go_at_call 53; refine (implRate_any _ _ ).mono ?_; rintro e w' ⟨rfl, rfl⟩) | (go_at_call 49; refine (implWithin_any _ _ _ _ ).mono ?_; rintro e w' ⟨rfl, rfl⟩) | (go_at_call 61; go_in) | (go_at_call 64; go_in))
  clear gg2
  have HBS := hide ((Below.refl W2.heap.size W2).grown hgrow0 (Nat.le_refl _) (fun k h => by cases h))
  have HO0 := hide hown0
  clear hown0 hgrow0
  have HC := cells_a HS0_2.out
  have HC' := cells_a HS1_2.out
  go_loopw [8, 9, 10, 33] (fun v _ _ i wr => ∃ (k : Nat) (xs : List Value), k ≤ n ∧ i = .int .i64 k ∧ wr.ownsRow W2.heap.size 2 1 v k xs ∧ Hid (∀ j, j < k → xs[j]? = some (.int .i64 (poV x y t j))) ∧ Below W2.heap.size W2 wr) (fun _ _ _ i _ => n - (intOf i).toNat)
  case atStart => exact ⟨0, [], Nat.zero_le _, rfl, HO0.out, fun j hj => absurd hj (by omega), HBS.out⟩
  case round =>
    obtain ⟨k, xs, hk, rfl, hown, hxs, hbel⟩ := hrel
    by_cases hlt : k < n
    · obtain ⟨b, off, rfl, hb, hc⟩ := HC.out k hlt
      obtain ⟨b', off', rfl, hb', hc'⟩ := HC'.out k hlt
      have hc2 := (hbel.cell (p := ⟨b, off + k, none⟩) hb).trans hc
      have hc2' := (hbel.cell (p := ⟨b', off' + k, none⟩) hb').trans hc'
      have hsz := hbel.size
      obtain ⟨x0, x1⟩ := HAL0.out.2 k hlt
      obtain ⟨y0, y1⟩ := HAL1.out.2 k hlt
      clear hc hc'
      have y2 : 1 ≤ y k := y0
      obtain ⟨⟨p0, p1⟩, ⟨r0, r1⟩, m0, m1⟩ := po_bd ⟨x0, x1⟩ ⟨y2, y1⟩ ⟨t0, t1⟩
      have HR := fun w => hide (implRounded_any (x k * 10000) (y k) 1 w p0 (by omega) y2 (by omega) (by omega))
      obtain ⟨R, hR⟩ : ∃ R, rnd (x k * 10000) (y k) 1 = R := ⟨_, rfl⟩
      rw [hR] at HR r0 r1 m0 m1
      have HLL := hide (show xs.length = k by have := hown.1; omega)
      by_cases hRt : R < t
      · have HV := hide (show R = poV x y t k by unfold poV; rw [hR]; omega)
        clear hR
        go_wp2_with fail
        refine (HR _).out.mono ?_
        rintro e w' ⟨rfl, q, rfl⟩
        go_wp2_with (at_builtin; refine wpList_append_own _ rfl _ _ 22 rfl (W2.heap.size) 2 i0 (.int .i64 0) 1 8 Try.underlying22 hi hz0 hz1 hz2 rfl (by decide) _ _ _ rfl (by exact (hown.alloc _)) ⟨_, 0, none⟩ 1 1 [.int .i64 (R)] rfl rfl (cell_one_new _ _ _) (by intro u hu; simp at hu; subst hu; rfl) (by unfold maxLen; omega) (by omega) (by simp; omega) ?_)
        intro v' w5 hown' hgrow _
        have hb1 := ((bel_q hbel q).alloc (by simp; omega) (.cells #[.int .i64 R] 2)).grown hgrow (by simp; omega) (fun j hj => (hown.lt j hj).1)
        have HB1 := hide hb1
        have HON := hide hown'
        clear hgrow hown' hown hbel hc2 hc2' hb1
        go_wp2
        go_roundw
        case rel => exact ⟨k + 1, _, by omega, by go_num, HON.out, own_step HLL.out hxs.out (congrArg (Value.int .i64) HV.out), HB1.out⟩
        case measure => simp [intOf]; omega
      · have HV := hide (show t = poV x y t k by unfold poV; rw [hR]; omega)
        clear hR
        go_wp2_with fail
        refine (HR _).out.mono ?_
        rintro e w' ⟨rfl, q, rfl⟩
        go_wp2_with (at_builtin; refine wpList_append_own _ rfl _ _ 22 rfl (W2.heap.size) 2 i0 (.int .i64 0) 1 8 Try.underlying22 hi hz0 hz1 hz2 rfl (by decide) _ _ _ rfl (by exact (hown.alloc _)) ⟨_, 0, none⟩ 1 1 [.int .i64 (t)] rfl rfl (cell_one_new _ _ _) (by intro u hu; simp at hu; subst hu; rfl) (by unfold maxLen; omega) (by omega) (by simp; omega) ?_)
        intro v' w5 hown' hgrow _
        have hb1 := ((bel_q hbel q).alloc (by simp; omega) (.cells #[.int .i64 t] 2)).grown hgrow (by simp; omega) (fun j hj => (hown.lt j hj).1)
        have HB1 := hide hb1
        have HON := hide hown'
        clear hgrow hown' hown hbel hc2 hc2' hb1
        go_wp2
        go_roundw
        case rel => exact ⟨k + 1, _, by omega, by go_num, HON.out, own_step HLL.out hxs.out (congrArg (Value.int .i64) HV.out), HB1.out⟩
        case measure => simp [intOf]; omega
    · obtain ⟨Gx, dx, rfl⟩ := own_shape hown
      have HN := hide (show k = n by omega)
      have HO := hide hown
      have HBEL := hide hbel
      have HH := hide (show poP x n y n t from ⟨HAL0.out, rfl, HAL1.out.2, HG2.out⟩)
      clear hown hbel
      go_wp2
      go_ret2
      exact gave1_yes HH.out HN.out ((OW.of_owns HO.out hxs.out).wide HB2.out.size (Nat.le_refl _)) (HB2.out.trans (HBEL.out.mono HB2.out.size))
end Go.Proofs.Ytjefpcmegkeceaa
