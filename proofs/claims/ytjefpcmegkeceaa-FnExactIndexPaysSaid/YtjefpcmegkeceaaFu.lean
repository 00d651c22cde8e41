/- FundRun, by both. -/
import Derived.Test.YtjefpcmegkeceaaGp
import Derived.Test.YtjefpcmegkeceaaLi
import Derived.Test.YtjefpcmegkeceaaOx
import Derived.Test.YtjefpcmegkeceaaP7
namespace Go.Proofs.Ytjefpcmegkeceaa
open Go.RowKit Go.Dues
def fuP (s : Int) (x : Nat → Int) (n : Nat) (y : Nat → Int) (m : Nat) (f : Int) : Prop := (0 ≤ s ∧ s ≤ 1000000000000) ∧ allP x n 1 60 0 1000000000000 ∧ allP y m 1 60 (-9999) 10000 ∧ (n : Int) = m ∧ (0 ≤ f ∧ f ≤ 10000) ∧ frOk s x y f n
def fuV (s : Int) (x y : Nat → Int) (f : Int) (k : Nat) : Int := frV s x y f (k + 1)
set_option maxHeartbeats 2000000 in
theorem implGrown_any (c r d : Int) (w : World) (h0 : 0 ≤ c * (10000 + r)) (h1 : c * (10000 + r) ≤ 9000000000000000000) (c0 : 0 ≤ c) (c1 : c ≤ 400000000000000) (r0 : -9999 ≤ r) (r1 : r ≤ 10000) (hd : 0 ≤ d ∧ d ≤ 3) :
    Calls Try.prog 75 #[.int .i64 c, .int .i64 r, .int .i64 d] w fun e w' => e = .returned (.int .i64 (grV c r d)) ∧ ∃ q, w' = w.drewN q := by
  have HR := fun w => hide (implRounded_any (c * (10000 + r)) 10000 d w h0 h1 (by omega) (by omega) hd)
  obtain ⟨d0, d1⟩ := hd
  go_enter Try.func75, Try.ntmps75
  go_wp2_with fail
  refine (HR _).out.mono ?_
  rintro e w' ⟨rfl, q, rfl⟩
  go_wp2
  go_ret
  exact ⟨rfl, _, rfl⟩
set_option maxRecDepth 100000 in
set_option maxHeartbeats 8000000 in
theorem specFundRun_any (s : Int) (A : Option Addr) (n c : Nat) (x : Nat → Int) (A' : Option Addr) (m c' : Nat) (y : Nat → Int) (f : Int) (w : World) (hn_n : n ≤ maxLen) (hs_n : SL w A n (fun j => .int .i64 (x j))) (hn_m : m ≤ maxLen) (hs_m : SL w A' m (fun j => .int .i64 (y j))) :
    Calls Try.prog 33 #[.int .i64 s, .slice A n c, .slice A' m c', .int .i64 f] w fun e w' => Gave1 w w' e (fuP s x n y m f) (n) (fuV s x y f) := by
  obtain ⟨i0, hi, hz0, hz1, hz2⟩ := info_parts Try.info64
  unfold maxLen at hn_n
  unfold maxLen at hn_m
  have HB0 := hide (Below.refl w.heap.size w)
  have HS0_0 := hide hs_n
  have HS1_0 := hide hs_m
  clear hs_n hs_m
  cases gg0 : amtB s
  · have HH := hide (show ¬ fuP s x n y m f from fun h => by rw [amtB_yes (h.1)] at gg0; cases gg0)
    go_enter Try.func33, Try.ntmps33
    go_wp2_with (first | (go_at_call 54; refine (specCents_any _ _ ).mono ?_; rintro e w' ⟨rfl, rfl⟩) | (go_at_call 55; refine (specRate_any _ _ ).mono ?_; rintro e w' ⟨rfl, rfl⟩) | (go_at_call 46; refine (specIn_any _ _ _ _ ).mono ?_; rintro e w' ⟨rfl, rfl⟩) | (go_at_call 58; go_in))
    go_ret2
    exact gave1_no HH.out HB0.out
  have HG0 := hide (amtB_iff.1 gg0)
  by_cases hall1 : allP x n 1 60 0 1000000000000
  rotate_left
  · have HAT1 := hide (tru_no hall1)
    have HH := hide (show ¬ fuP s x n y m f from fun h => hall1 (h.2.1))
    clear hall1
    go_enter Try.func33, Try.ntmps33
    go_wp2_with (first | (go_at_call 54; refine (specCents_any _ _ ).mono ?_; rintro e w' ⟨rfl, rfl⟩) | (go_at_call 55; refine (specRate_any _ _ ).mono ?_; rintro e w' ⟨rfl, rfl⟩) | (go_at_call 46; refine (specIn_any _ _ _ _ ).mono ?_; rintro e w' ⟨rfl, rfl⟩) | (go_at_call 58; go_in))
    refine (specAmts_any A n c x 60 _ (by unfold maxLen; omega) HS0_0.out).mono ?_
    rw [HAT1.out]
    rintro e W1 ⟨rfl, hbe⟩
    have HB1 : Hid (Below w.heap.size w W1) := by rw [← hbe]; exact HB0.out
    have HS0_1 : Hid (SL W1 A n (fun j => .int .i64 (x j))) := by rw [← hbe]; exact HS0_0.out
    have HS1_1 : Hid (SL W1 A' m (fun j => .int .i64 (y j))) := by rw [← hbe]; exact HS1_0.out
    clear hbe
    go_wp2_with (first | (go_at_call 54; refine (specCents_any _ _ ).mono ?_; rintro e w' ⟨rfl, rfl⟩) | (go_at_call 55; refine (specRate_any _ _ ).mono ?_; rintro e w' ⟨rfl, rfl⟩) | (go_at_call 46; refine (specIn_any _ _ _ _ ).mono ?_; rintro e w' ⟨rfl, rfl⟩) | (go_at_call 58; go_in))
    go_ret2
    exact gave1_no HH.out HB1.out
  have HAT1 := hide (tru_yes hall1)
  have HAL1 := hide hall1
  clear hall1
  by_cases hall2 : allP y m 1 60 (-9999) 10000
  rotate_left
  · have HAT2 := hide (tru_no hall2)
    have HH := hide (show ¬ fuP s x n y m f from fun h => hall2 (h.2.2.1))
    clear hall2
    go_enter Try.func33, Try.ntmps33
    go_wp2_with (first | (go_at_call 54; refine (specCents_any _ _ ).mono ?_; rintro e w' ⟨rfl, rfl⟩) | (go_at_call 55; refine (specRate_any _ _ ).mono ?_; rintro e w' ⟨rfl, rfl⟩) | (go_at_call 46; refine (specIn_any _ _ _ _ ).mono ?_; rintro e w' ⟨rfl, rfl⟩) | (go_at_call 58; go_in))
    refine (specAmts_any A n c x 60 _ (by unfold maxLen; omega) HS0_0.out).mono ?_
    rw [HAT1.out]
    rintro e W1 ⟨rfl, hbe⟩
    have HB1 : Hid (Below w.heap.size w W1) := by rw [← hbe]; exact HB0.out
    have HS0_1 : Hid (SL W1 A n (fun j => .int .i64 (x j))) := by rw [← hbe]; exact HS0_0.out
    have HS1_1 : Hid (SL W1 A' m (fun j => .int .i64 (y j))) := by rw [← hbe]; exact HS1_0.out
    clear hbe
    go_wp2_with (first | (go_at_call 54; refine (specCents_any _ _ ).mono ?_; rintro e w' ⟨rfl, rfl⟩) | (go_at_call 55; refine (specRate_any _ _ ).mono ?_; rintro e w' ⟨rfl, rfl⟩) | (go_at_call 46; refine (specIn_any _ _ _ _ ).mono ?_; rintro e w' ⟨rfl, rfl⟩) | (go_at_call 58; go_in))
    refine (specFRates_any A' m c' y _ (by unfold maxLen; omega) HS1_1.out).mono ?_
    rw [HAT2.out]
    rintro e W2 ⟨rfl, hbe⟩
    have HB2 : Hid (Below w.heap.size w W2) := by rw [← hbe]; exact HB1.out
    have HS0_2 : Hid (SL W2 A n (fun j => .int .i64 (x j))) := by rw [← hbe]; exact HS0_1.out
    have HS1_2 : Hid (SL W2 A' m (fun j => .int .i64 (y j))) := by rw [← hbe]; exact HS1_1.out
    clear hbe
    go_wp2_with (first | (go_at_call 54; refine (specCents_any _ _ ).mono ?_; rintro e w' ⟨rfl, rfl⟩) | (go_at_call 55; refine (specRate_any _ _ ).mono ?_; rintro e w' ⟨rfl, rfl⟩) | (go_at_call 46; refine (specIn_any _ _ _ _ ).mono ?_; rintro e w' ⟨rfl, rfl⟩) | (go_at_call 58; go_in))
    go_ret2
    exact gave1_no HH.out HB2.out
  have HAT2 := hide (tru_yes hall2)
  have HAL2 := hide hall2
  clear hall2
  by_cases heq3 : (n : Int) = (m : Int)
  rotate_left
  · have HH := hide (show ¬ fuP s x n y m f from fun h => heq3 (h.2.2.2.1))
    have hne : ¬ n = m := fun hh => heq3 (by rw [hh])
    have hne' : ¬ m = n := fun hh => heq3 (by rw [hh])
    go_enter Try.func33, Try.ntmps33
    go_wp2_with (first | (go_at_call 54; refine (specCents_any _ _ ).mono ?_; rintro e w' ⟨rfl, rfl⟩) | (go_at_call 55; refine (specRate_any _ _ ).mono ?_; rintro e w' ⟨rfl, rfl⟩) | (go_at_call 46; refine (specIn_any _ _ _ _ ).mono ?_; rintro e w' ⟨rfl, rfl⟩) | (go_at_call 58; go_in))
    refine (specAmts_any A n c x 60 _ (by unfold maxLen; omega) HS0_0.out).mono ?_
    rw [HAT1.out]
    rintro e W1 ⟨rfl, hbe⟩
    have HB1 : Hid (Below w.heap.size w W1) := by rw [← hbe]; exact HB0.out
    have HS0_1 : Hid (SL W1 A n (fun j => .int .i64 (x j))) := by rw [← hbe]; exact HS0_0.out
    have HS1_1 : Hid (SL W1 A' m (fun j => .int .i64 (y j))) := by rw [← hbe]; exact HS1_0.out
    clear hbe
    go_wp2_with (first | (go_at_call 54; refine (specCents_any _ _ ).mono ?_; rintro e w' ⟨rfl, rfl⟩) | (go_at_call 55; refine (specRate_any _ _ ).mono ?_; rintro e w' ⟨rfl, rfl⟩) | (go_at_call 46; refine (specIn_any _ _ _ _ ).mono ?_; rintro e w' ⟨rfl, rfl⟩) | (go_at_call 58; go_in))
    refine (specFRates_any A' m c' y _ (by unfold maxLen; omega) HS1_1.out).mono ?_
    rw [HAT2.out]
    rintro e W2 ⟨rfl, hbe⟩
    have HB2 : Hid (Below w.heap.size w W2) := by rw [← hbe]; exact HB1.out
    have HS0_2 : Hid (SL W2 A n (fun j => .int .i64 (x j))) := by rw [← hbe]; exact HS0_1.out
    have HS1_2 : Hid (SL W2 A' m (fun j => .int .i64 (y j))) := by rw [← hbe]; exact HS1_1.out
    clear hbe
    go_wp2_with (first | (go_at_call 54; refine (specCents_any _ _ ).mono ?_; rintro e w' ⟨rfl, rfl⟩) | (go_at_call 55; refine (specRate_any _ _ ).mono ?_; rintro e w' ⟨rfl, rfl⟩) | (go_at_call 46; refine (specIn_any _ _ _ _ ).mono ?_; rintro e w' ⟨rfl, rfl⟩) | (go_at_call 58; go_in))
    go_ret2
    exact gave1_no HH.out HB2.out
  obtain rfl : n = m := by omega
  cases gg4 : ratB f
  · have HH := hide (show ¬ fuP s x n y n f from fun h => by rw [ratB_yes (h.2.2.2.2.1)] at gg4; cases gg4)
    go_enter Try.func33, Try.ntmps33
    go_wp2_with (first | (go_at_call 54; refine (specCents_any _ _ ).mono ?_; rintro e w' ⟨rfl, rfl⟩) | (go_at_call 55; refine (specRate_any _ _ ).mono ?_; rintro e w' ⟨rfl, rfl⟩) | (go_at_call 46; refine (specIn_any _ _ _ _ ).mono ?_; rintro e w' ⟨rfl, rfl⟩) | (go_at_call 58; go_in))
    refine (specAmts_any A n c x 60 _ (by unfold maxLen; omega) HS0_0.out).mono ?_
    rw [HAT1.out]
    rintro e W1 ⟨rfl, hbe⟩
    have HB1 : Hid (Below w.heap.size w W1) := by rw [← hbe]; exact HB0.out
    have HS0_1 : Hid (SL W1 A n (fun j => .int .i64 (x j))) := by rw [← hbe]; exact HS0_0.out
    have HS1_1 : Hid (SL W1 A' n (fun j => .int .i64 (y j))) := by rw [← hbe]; exact HS1_0.out
    clear hbe
    go_wp2_with (first | (go_at_call 54; refine (specCents_any _ _ ).mono ?_; rintro e w' ⟨rfl, rfl⟩) | (go_at_call 55; refine (specRate_any _ _ ).mono ?_; rintro e w' ⟨rfl, rfl⟩) | (go_at_call 46; refine (specIn_any _ _ _ _ ).mono ?_; rintro e w' ⟨rfl, rfl⟩) | (go_at_call 58; go_in))
    refine (specFRates_any A' n c' y _ (by unfold maxLen; omega) HS1_1.out).mono ?_
    rw [HAT2.out]
    rintro e W2 ⟨rfl, hbe⟩
    have HB2 : Hid (Below w.heap.size w W2) := by rw [← hbe]; exact HB1.out
    have HS0_2 : Hid (SL W2 A n (fun j => .int .i64 (x j))) := by rw [← hbe]; exact HS0_1.out
    have HS1_2 : Hid (SL W2 A' n (fun j => .int .i64 (y j))) := by rw [← hbe]; exact HS1_1.out
    clear hbe
    go_wp2_with (first | (go_at_call 54; refine (specCents_any _ _ ).mono ?_; rintro e w' ⟨rfl, rfl⟩) | (go_at_call 55; refine (specRate_any _ _ ).mono ?_; rintro e w' ⟨rfl, rfl⟩) | (go_at_call 46; refine (specIn_any _ _ _ _ ).mono ?_; rintro e w' ⟨rfl, rfl⟩) | (go_at_call 58; go_in))
    go_ret2
    exact gave1_no HH.out HB2.out
  have HG4 := hide (ratB_iff.1 gg4)
  have n60 := HAL1.out.1.2
  have n1 : 1 ≤ n := by have := HAL1.out.1.1; omega
  obtain ⟨s0, s1⟩ := HG0.out
  obtain ⟨f0, f1⟩ := HG4.out
  have HAL : Hid (allP y n 1 60 (-9999) 10000) := HAL2
  go_enter Try.func33, Try.ntmps33
  go_wp2_with (first | (go_at_call 54; refine (specCents_any _ _ ).mono ?_; rintro e w' ⟨rfl, rfl⟩) | (go_at_call 55; refine (specRate_any _ _ ).mono ?_; rintro e w' ⟨rfl, rfl⟩) | (go_at_call 46; refine (specIn_any _ _ _ _ ).mono ?_; rintro e w' ⟨rfl, rfl⟩) | (go_at_call 58; go_in))
  refine (specAmts_any A n c x 60 _ (by unfold maxLen; omega) HS0_0.out).mono ?_
  rw [HAT1.out]
  rintro e W1 ⟨rfl, hbe⟩
  have HB1 : Hid (Below w.heap.size w W1) := by rw [← hbe]; exact HB0.out
  have HS0_1 : Hid (SL W1 A n (fun j => .int .i64 (x j))) := by rw [← hbe]; exact HS0_0.out
  have HS1_1 : Hid (SL W1 A' n (fun j => .int .i64 (y j))) := by rw [← hbe]; exact HS1_0.out
  clear hbe
  go_wp2_with (first | (go_at_call 54; refine (specCents_any _ _ ).mono ?_; rintro e w' ⟨rfl, rfl⟩) | (go_at_call 55; refine (specRate_any _ _ ).mono ?_; rintro e w' ⟨rfl, rfl⟩) | (go_at_call 46; refine (specIn_any _ _ _ _ ).mono ?_; rintro e w' ⟨rfl, rfl⟩) | (go_at_call 58; go_in))
  refine (specFRates_any A' n c' y _ (by unfold maxLen; omega) HS1_1.out).mono ?_
  rw [HAT2.out]
  rintro e W2 ⟨rfl, hbe⟩
  have HB2 : Hid (Below w.heap.size w W2) := by rw [← hbe]; exact HB1.out
  have HS0_2 : Hid (SL W2 A n (fun j => .int .i64 (x j))) := by rw [← hbe]; exact HS0_1.out
  have HS1_2 : Hid (SL W2 A' n (fun j => .int .i64 (y j))) := by rw [← hbe]; exact HS1_1.out
  clear hbe
  go_wp2_with (first | (go_at_call 54; refine (specCents_any _ _ ).mono ?_; rintro e w' ⟨rfl, rfl⟩) | (go_at_call 55; refine (specRate_any _ _ ).mono ?_; rintro e w' ⟨rfl, rfl⟩) | (go_at_call 46; refine (specIn_any _ _ _ _ ).mono ?_; rintro e w' ⟨rfl, rfl⟩) | (go_at_call 58; go_in))
  clear gg0 gg4
  have hst : (W2.alloc (.cells #[] 2)).ownsRow W2.heap.size 2 1 (.slice (some ⟨W2.heap.size, 0, none⟩) 0 0) 0 [] :=
    ⟨by simp, .inr ⟨W2.heap.size, 0, #[], rfl, Nat.le_refl _, new_at W2 _, Nat.le_refl 0, by unfold maxLen; omega, rfl, rfl⟩⟩
  have HBS := hide ((Below.refl W2.heap.size W2).alloc (Nat.le_refl _) (.cells #[] 2))
  have HO0 := hide hst
  clear hst
  have HC := cells_a HS0_2.out
  have HC' := cells_a HS1_2.out
  go_loopw [10, 11, 12] (fun v t i wr => ∃ (k : Nat) (xs : List Value) (T : Int), k ≤ n ∧ i = .int .i64 k ∧ t = .int .i64 T ∧ 0 ≤ T ∧ T ≤ 1000000000000 ∧ Hid (T = frV s x y f k) ∧ Hid (∀ j, j < k → frV s x y f (j + 1) ≤ 1000000000000) ∧ wr.ownsRow W2.heap.size 2 1 v k xs ∧ Hid (∀ j, j < k → xs[j]? = some (.int .i64 (fuV s x y f j))) ∧ Below W2.heap.size W2 wr) (fun _ _ i _ => n - (intOf i).toNat)
  case atStart => exact ⟨0, [], s, Nat.zero_le _, rfl, rfl, s0, s1, rfl, fun j hj => absurd hj (by omega), HO0.out, fun j hj => absurd hj (by omega), HBS.out⟩
  case round =>
    obtain ⟨k, xs, T, hk, rfl, rfl, T0, T1, hT, hok, hown, hxs, hbel⟩ := hrel
    by_cases hlt : k < n
    · obtain ⟨b, off, rfl, hb, hc⟩ := HC.out k hlt
      obtain ⟨b', off', rfl, hb', hc'⟩ := HC'.out k hlt
      have hc2 := (hbel.cell (p := ⟨b, off + k, none⟩) hb).trans hc
      have hc2' := (hbel.cell (p := ⟨b', off' + k, none⟩) hb').trans hc'
      have hsz := hbel.size
      have X01 := HAL1.out.2 k hlt
      have Y01 := HAL2.out.2 k hlt
      obtain ⟨⟨p0, p1⟩, ⟨g0, g1⟩, ⟨m0, m1⟩, ⟨d0, d1⟩, z0, z1⟩ := fr_bd (c := T) ⟨T0, T1⟩ X01 Y01 ⟨f0, f1⟩
      obtain ⟨x0, x1⟩ := X01
      obtain ⟨y0, y1⟩ := Y01
      have HVN := hide (show frN x y f k T = frV s x y f (k + 1) by rw [frV_succ, ← hT.out])
      have HR := fun w => hide (specRound_any ((T + x k) * (10000 + y k)) 10000 2 w p0 (by omega) (by omega) (by omega) (by omega))
      have E1 := hide (Go.IntWalk.i64_in (T + x k) (by omega))
      have E2 := hide (Go.IntWalk.i64_in (10000 + y k) (by omega))
      have E3 := hide (Go.IntWalk.i64_in ((T + x k) * (10000 + y k)) (by omega))
      have HGE : rnd ((T + x k) * (10000 + y k)) 10000 2 = frG x y k T := rfl
      rw [HGE] at HR
      have HNE : Hid (frG x y k T - frG x y k T * f / 10000 = frN x y f k T) := rfl
      obtain ⟨G, hG⟩ : ∃ G, frG x y k T = G := ⟨_, rfl⟩
      rw [hG] at HR HNE g0 g1 m0 m1 d0 d1
      obtain ⟨D, hD⟩ : ∃ D, G * f / 10000 = D := ⟨_, rfl⟩
      rw [hD] at d0 d1 HNE
      obtain ⟨V, hV⟩ : ∃ V, frN x y f k T = V := ⟨_, rfl⟩
      rw [hV] at HNE HVN z0 z1
      have hN := HNE.out
      have HLL := hide (show xs.length = k by have := hown.1; omega)
      clear HGE hG hV hc hc'
      cases gv : amtB V
      · have HH := hide (show ¬ fuP s x n y n f from fun h => by rw [amtB_yes ⟨z0, by have := h.2.2.2.2.2 k hlt; rw [← HVN.out] at this; exact this⟩] at gv; cases gv)
        have HBF := hide (HB2.out.trans (hbel.mono HB2.out.size))
        clear hown hbel
        go_wp2
        go_quiet ((go_at_call 60; (try rw [E1.out]); (try rw [E2.out]); (try rw [E3.out]); exact Calls.quiet_of_same ((HR _).out.mono fun _ _ ⟨h, h'⟩ => ⟨h, h'.symm⟩)))
        go_wp2_with (first | (go_at_call 54; refine (specCents_any _ _ ).mono ?_; rintro e w' ⟨rfl, rfl⟩) | (go_at_call 55; refine (specRate_any _ _ ).mono ?_; rintro e w' ⟨rfl, rfl⟩) | (go_at_call 46; refine (specIn_any _ _ _ _ ).mono ?_; rintro e w' ⟨rfl, rfl⟩) | (go_at_call 58; go_in))
        go_ret2
        exact gave1_no HH.out (bel_q HBF.out _)
      · have HOK := hide (show ∀ j, j < k + 1 → frV s x y f (j + 1) ≤ 1000000000000 from fun j hj => by
          by_cases hjk : j = k
          · subst hjk; rw [← HVN.out]; exact (amtB_iff.1 gv).2
          · exact hok.out j (by omega))
        have v1 := (amtB_iff.1 gv).2
        go_wp2
        go_quiet ((go_at_call 60; (try rw [E1.out]); (try rw [E2.out]); (try rw [E3.out]); exact Calls.quiet_of_same ((HR _).out.mono fun _ _ ⟨h, h'⟩ => ⟨h, h'.symm⟩)))
        go_wp2_with (first | go_at_call 54; refine (specCents_any _ _ ).mono ?_; rintro e w' ⟨rfl, rfl⟩ | (at_builtin; refine wpList_append_own _ rfl _ _ 22 rfl (W2.heap.size) 2 i0 (.int .i64 0) 1 8 Try.underlying22 hi hz0 hz1 hz2 rfl (by decide) _ _ _ rfl (by exact (hown.alloc _)) ⟨_, 0, none⟩ 1 1 [.int .i64 (V)] rfl rfl (cell_one_new _ _ _) (by intro u hu; simp at hu; subst hu; rfl) (by unfold maxLen; omega) (by omega) (by simp; omega) ?_))
        intro v' w5 hown' hgrow _
        have hb1 := ((bel_q hbel _).alloc (by simp; omega) (.cells #[.int .i64 V] 2)).grown hgrow (by simp; omega) (fun j hj => (hown.lt j hj).1)
        have HB1 := hide hb1
        have HON := hide hown'
        clear hgrow hown' hown hbel hc2 hc2' hb1 gv
        go_wp2
        go_roundw
        case rel => exact ⟨k + 1, _, _, by omega, by go_num, rfl, by omega, by omega, HVN.out, HOK.out, HON.out, own_step HLL.out hxs.out (congrArg (Value.int .i64) HVN.out), HB1.out⟩
        case measure => simp [intOf]; omega
    · obtain rfl : k = n := by omega
      obtain ⟨Gx, dx, rfl⟩ := own_shape hown
      have HO := hide hown
      have HBEL := hide hbel
      have HH := hide (show fuP s x k y k f from ⟨⟨s0, s1⟩, HAL1.out, HAL2.out, rfl, ⟨f0, f1⟩, hok.out⟩)
      clear hown hbel
      go_wp2
      go_ret2
      exact gave1_yes HH.out rfl ((OW.of_owns HO.out hxs.out).wide HB2.out.size (Nat.le_refl _)) (HB2.out.trans (HBEL.out.mono HB2.out.size))
end Go.Proofs.Ytjefpcmegkeceaa
