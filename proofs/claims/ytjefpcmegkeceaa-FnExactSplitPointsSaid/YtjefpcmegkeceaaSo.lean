/- SplitPoints, by both. -/
import Derived.Test.YtjefpcmegkeceaaGp
import Derived.Test.YtjefpcmegkeceaaOx
import Derived.Test.YtjefpcmegkeceaaLn
import Derived.Test.YtjefpcmegkeceaaP7
namespace Go.Proofs.Ytjefpcmegkeceaa
open Go.RowKit Go.Dues
def soP (x : Nat → Int) (n : Nat) (y : Nat → Int) (m : Nat) (f t : Int) : Prop := allP x n 1 60 0 1000000 ∧ allP y m 1 60 0 1000000 ∧ (n : Int) = m ∧ (0 ≤ t ∧ t ≤ n) ∧ (0 ≤ f ∧ f ≤ t)
set_option maxRecDepth 100000 in
set_option maxHeartbeats 8000000 in
theorem specSplitPoints_any (A : Option Addr) (n c : Nat) (x : Nat → Int) (A' : Option Addr) (m c' : Nat) (y : Nat → Int) (f t : Int) (w : World) (hn_n : n ≤ maxLen) (hs_n : SL w A n (fun j => .int .i64 (x j))) (hn_m : m ≤ maxLen) (hs_m : SL w A' m (fun j => .int .i64 (y j))) :
    Calls Try.prog 27 #[.slice A n c, .slice A' m c', .int .i64 f, .int .i64 t] w fun e w' => Gave2 w w' e (soP x n y m f t) n (spA x y f t) (spB x y f t) := by
  obtain ⟨i0, hi, hz0, hz1, hz2⟩ := info_parts Try.info64
  unfold maxLen at hn_n
  unfold maxLen at hn_m
  have HB0 := hide (Below.refl w.heap.size w)
  have HS0_0 := hide hs_n
  have HS1_0 := hide hs_m
  clear hs_n hs_m
  by_cases hall0 : allP x n 1 60 0 1000000
  rotate_left
  · have HAT0 := hide (tru_no hall0)
    have HH := hide (show ¬ soP x n y m f t from fun h => hall0 (h.1))
    clear hall0
    go_enter Try.func27, Try.ntmps27
    go_wp2_with (first | (go_at_call 54; refine (specCents_any _ _ ).mono ?_; rintro e w' ⟨rfl, rfl⟩) | (go_at_call 55; refine (specRate_any _ _ ).mono ?_; rintro e w' ⟨rfl, rfl⟩) | (go_at_call 46; refine (specIn_any _ _ _ _ ).mono ?_; rintro e w' ⟨rfl, rfl⟩))
    refine (specPoints_any A n c x _ (by unfold maxLen; omega) HS0_0.out).mono ?_
    rw [HAT0.out]
    rintro e W1 ⟨rfl, hbe⟩
    have HB1 : Hid (Below w.heap.size w W1) := by rw [← hbe]; exact HB0.out
    have HS0_1 : Hid (SL W1 A n (fun j => .int .i64 (x j))) := by rw [← hbe]; exact HS0_0.out
    have HS1_1 : Hid (SL W1 A' m (fun j => .int .i64 (y j))) := by rw [← hbe]; exact HS1_0.out
    clear hbe
    go_wp2_with (first | (go_at_call 54; refine (specCents_any _ _ ).mono ?_; rintro e w' ⟨rfl, rfl⟩) | (go_at_call 55; refine (specRate_any _ _ ).mono ?_; rintro e w' ⟨rfl, rfl⟩) | (go_at_call 46; refine (specIn_any _ _ _ _ ).mono ?_; rintro e w' ⟨rfl, rfl⟩))
    go_ret3
    exact gave2_no HH.out HB1.out
  have HAT0 := hide (tru_yes hall0)
  have HAL0 := hide hall0
  clear hall0
  by_cases hall1 : allP y m 1 60 0 1000000
  rotate_left
  · have HAT1 := hide (tru_no hall1)
    have HH := hide (show ¬ soP x n y m f t from fun h => hall1 (h.2.1))
    clear hall1
    go_enter Try.func27, Try.ntmps27
    go_wp2_with (first | (go_at_call 54; refine (specCents_any _ _ ).mono ?_; rintro e w' ⟨rfl, rfl⟩) | (go_at_call 55; refine (specRate_any _ _ ).mono ?_; rintro e w' ⟨rfl, rfl⟩) | (go_at_call 46; refine (specIn_any _ _ _ _ ).mono ?_; rintro e w' ⟨rfl, rfl⟩))
    refine (specPoints_any A n c x _ (by unfold maxLen; omega) HS0_0.out).mono ?_
    rw [HAT0.out]
    rintro e W1 ⟨rfl, hbe⟩
    have HB1 : Hid (Below w.heap.size w W1) := by rw [← hbe]; exact HB0.out
    have HS0_1 : Hid (SL W1 A n (fun j => .int .i64 (x j))) := by rw [← hbe]; exact HS0_0.out
    have HS1_1 : Hid (SL W1 A' m (fun j => .int .i64 (y j))) := by rw [← hbe]; exact HS1_0.out
    clear hbe
    go_wp2_with (first | (go_at_call 54; refine (specCents_any _ _ ).mono ?_; rintro e w' ⟨rfl, rfl⟩) | (go_at_call 55; refine (specRate_any _ _ ).mono ?_; rintro e w' ⟨rfl, rfl⟩) | (go_at_call 46; refine (specIn_any _ _ _ _ ).mono ?_; rintro e w' ⟨rfl, rfl⟩))
    refine (specPoints_any A' m c' y _ (by unfold maxLen; omega) HS1_1.out).mono ?_
    rw [HAT1.out]
    rintro e W2 ⟨rfl, hbe⟩
    have HB2 : Hid (Below w.heap.size w W2) := by rw [← hbe]; exact HB1.out
    have HS0_2 : Hid (SL W2 A n (fun j => .int .i64 (x j))) := by rw [← hbe]; exact HS0_1.out
    have HS1_2 : Hid (SL W2 A' m (fun j => .int .i64 (y j))) := by rw [← hbe]; exact HS1_1.out
    clear hbe
    go_wp2_with (first | (go_at_call 54; refine (specCents_any _ _ ).mono ?_; rintro e w' ⟨rfl, rfl⟩) | (go_at_call 55; refine (specRate_any _ _ ).mono ?_; rintro e w' ⟨rfl, rfl⟩) | (go_at_call 46; refine (specIn_any _ _ _ _ ).mono ?_; rintro e w' ⟨rfl, rfl⟩))
    go_ret3
    exact gave2_no HH.out HB2.out
  have HAT1 := hide (tru_yes hall1)
  have HAL1 := hide hall1
  clear hall1
  by_cases heq2 : (n : Int) = (m : Int)
  rotate_left
  · have HH := hide (show ¬ soP x n y m f t from fun h => heq2 (h.2.2.1))
    have hne : ¬ n = m := fun hh => heq2 (by rw [hh])
    go_enter Try.func27, Try.ntmps27
    go_wp2_with (first | (go_at_call 54; refine (specCents_any _ _ ).mono ?_; rintro e w' ⟨rfl, rfl⟩) | (go_at_call 55; refine (specRate_any _ _ ).mono ?_; rintro e w' ⟨rfl, rfl⟩) | (go_at_call 46; refine (specIn_any _ _ _ _ ).mono ?_; rintro e w' ⟨rfl, rfl⟩))
    refine (specPoints_any A n c x _ (by unfold maxLen; omega) HS0_0.out).mono ?_
    rw [HAT0.out]
    rintro e W1 ⟨rfl, hbe⟩
    have HB1 : Hid (Below w.heap.size w W1) := by rw [← hbe]; exact HB0.out
    have HS0_1 : Hid (SL W1 A n (fun j => .int .i64 (x j))) := by rw [← hbe]; exact HS0_0.out
    have HS1_1 : Hid (SL W1 A' m (fun j => .int .i64 (y j))) := by rw [← hbe]; exact HS1_0.out
    clear hbe
    go_wp2_with (first | (go_at_call 54; refine (specCents_any _ _ ).mono ?_; rintro e w' ⟨rfl, rfl⟩) | (go_at_call 55; refine (specRate_any _ _ ).mono ?_; rintro e w' ⟨rfl, rfl⟩) | (go_at_call 46; refine (specIn_any _ _ _ _ ).mono ?_; rintro e w' ⟨rfl, rfl⟩))
    refine (specPoints_any A' m c' y _ (by unfold maxLen; omega) HS1_1.out).mono ?_
    rw [HAT1.out]
    rintro e W2 ⟨rfl, hbe⟩
    have HB2 : Hid (Below w.heap.size w W2) := by rw [← hbe]; exact HB1.out
    have HS0_2 : Hid (SL W2 A n (fun j => .int .i64 (x j))) := by rw [← hbe]; exact HS0_1.out
    have HS1_2 : Hid (SL W2 A' m (fun j => .int .i64 (y j))) := by rw [← hbe]; exact HS1_1.out
    clear hbe
    go_wp2_with (first | (go_at_call 54; refine (specCents_any _ _ ).mono ?_; rintro e w' ⟨rfl, rfl⟩) | (go_at_call 55; refine (specRate_any _ _ ).mono ?_; rintro e w' ⟨rfl, rfl⟩) | (go_at_call 46; refine (specIn_any _ _ _ _ ).mono ?_; rintro e w' ⟨rfl, rfl⟩))
    go_ret3
    exact gave2_no HH.out HB2.out
  obtain rfl : n = m := by omega
  cases gg3 : inB t (0) ((n : Int))
  · have HH := hide (show ¬ soP x n y n f t from fun h => by rw [inB_yes (h.2.2.2.1)] at gg3; cases gg3)
    go_enter Try.func27, Try.ntmps27
    go_wp2_with (first | (go_at_call 54; refine (specCents_any _ _ ).mono ?_; rintro e w' ⟨rfl, rfl⟩) | (go_at_call 55; refine (specRate_any _ _ ).mono ?_; rintro e w' ⟨rfl, rfl⟩) | (go_at_call 46; refine (specIn_any _ _ _ _ ).mono ?_; rintro e w' ⟨rfl, rfl⟩))
    refine (specPoints_any A n c x _ (by unfold maxLen; omega) HS0_0.out).mono ?_
    rw [HAT0.out]
    rintro e W1 ⟨rfl, hbe⟩
    have HB1 : Hid (Below w.heap.size w W1) := by rw [← hbe]; exact HB0.out
    have HS0_1 : Hid (SL W1 A n (fun j => .int .i64 (x j))) := by rw [← hbe]; exact HS0_0.out
    have HS1_1 : Hid (SL W1 A' n (fun j => .int .i64 (y j))) := by rw [← hbe]; exact HS1_0.out
    clear hbe
    go_wp2_with (first | (go_at_call 54; refine (specCents_any _ _ ).mono ?_; rintro e w' ⟨rfl, rfl⟩) | (go_at_call 55; refine (specRate_any _ _ ).mono ?_; rintro e w' ⟨rfl, rfl⟩) | (go_at_call 46; refine (specIn_any _ _ _ _ ).mono ?_; rintro e w' ⟨rfl, rfl⟩))
    refine (specPoints_any A' n c' y _ (by unfold maxLen; omega) HS1_1.out).mono ?_
    rw [HAT1.out]
    rintro e W2 ⟨rfl, hbe⟩
    have HB2 : Hid (Below w.heap.size w W2) := by rw [← hbe]; exact HB1.out
    have HS0_2 : Hid (SL W2 A n (fun j => .int .i64 (x j))) := by rw [← hbe]; exact HS0_1.out
    have HS1_2 : Hid (SL W2 A' n (fun j => .int .i64 (y j))) := by rw [← hbe]; exact HS1_1.out
    clear hbe
    go_wp2_with (first | (go_at_call 54; refine (specCents_any _ _ ).mono ?_; rintro e w' ⟨rfl, rfl⟩) | (go_at_call 55; refine (specRate_any _ _ ).mono ?_; rintro e w' ⟨rfl, rfl⟩) | (go_at_call 46; refine (specIn_any _ _ _ _ ).mono ?_; rintro e w' ⟨rfl, rfl⟩))
    go_ret3
    exact gave2_no HH.out HB2.out
  have HG3 := hide (inB_iff.1 gg3)
  cases gg4 : inB f (0) (t)
  · have HH := hide (show ¬ soP x n y n f t from fun h => by rw [inB_yes (h.2.2.2.2)] at gg4; cases gg4)
    go_enter Try.func27, Try.ntmps27
    go_wp2_with (first | (go_at_call 54; refine (specCents_any _ _ ).mono ?_; rintro e w' ⟨rfl, rfl⟩) | (go_at_call 55; refine (specRate_any _ _ ).mono ?_; rintro e w' ⟨rfl, rfl⟩) | (go_at_call 46; refine (specIn_any _ _ _ _ ).mono ?_; rintro e w' ⟨rfl, rfl⟩))
    refine (specPoints_any A n c x _ (by unfold maxLen; omega) HS0_0.out).mono ?_
    rw [HAT0.out]
    rintro e W1 ⟨rfl, hbe⟩
    have HB1 : Hid (Below w.heap.size w W1) := by rw [← hbe]; exact HB0.out
    have HS0_1 : Hid (SL W1 A n (fun j => .int .i64 (x j))) := by rw [← hbe]; exact HS0_0.out
    have HS1_1 : Hid (SL W1 A' n (fun j => .int .i64 (y j))) := by rw [← hbe]; exact HS1_0.out
    clear hbe
    go_wp2_with (first | (go_at_call 54; refine (specCents_any _ _ ).mono ?_; rintro e w' ⟨rfl, rfl⟩) | (go_at_call 55; refine (specRate_any _ _ ).mono ?_; rintro e w' ⟨rfl, rfl⟩) | (go_at_call 46; refine (specIn_any _ _ _ _ ).mono ?_; rintro e w' ⟨rfl, rfl⟩))
    refine (specPoints_any A' n c' y _ (by unfold maxLen; omega) HS1_1.out).mono ?_
    rw [HAT1.out]
    rintro e W2 ⟨rfl, hbe⟩
    have HB2 : Hid (Below w.heap.size w W2) := by rw [← hbe]; exact HB1.out
    have HS0_2 : Hid (SL W2 A n (fun j => .int .i64 (x j))) := by rw [← hbe]; exact HS0_1.out
    have HS1_2 : Hid (SL W2 A' n (fun j => .int .i64 (y j))) := by rw [← hbe]; exact HS1_1.out
    clear hbe
    go_wp2_with (first | (go_at_call 54; refine (specCents_any _ _ ).mono ?_; rintro e w' ⟨rfl, rfl⟩) | (go_at_call 55; refine (specRate_any _ _ ).mono ?_; rintro e w' ⟨rfl, rfl⟩) | (go_at_call 46; refine (specIn_any _ _ _ _ ).mono ?_; rintro e w' ⟨rfl, rfl⟩))
    go_ret3
    exact gave2_no HH.out HB2.out
  have HG4 := hide (inB_iff.1 gg4)
  have HH := hide (show soP x n y n f t from ⟨HAL0.out, HAL1.out, rfl, HG3.out, HG4.out⟩)
  have n60 := HAL0.out.1.2
  have n1 : 1 ≤ n := by have := HAL0.out.1.1; omega
  obtain ⟨b, off, hAe, hb, hc⟩ := (HS0_0.out.at_ (by omega))
  obtain ⟨b', off', hAe', hb', hc'⟩ := (HS1_0.out.at_ (by omega))
  have HCA := hide hc
  have HCB := hide hc'
  have HAE := hide hAe
  have HAE2 := hide hAe'
  clear hc hc' hAe hAe'
  go_enter Try.func27, Try.ntmps27
  go_wp2_with (first | (go_at_call 54; refine (specCents_any _ _ ).mono ?_; rintro e w' ⟨rfl, rfl⟩) | (go_at_call 55; refine (specRate_any _ _ ).mono ?_; rintro e w' ⟨rfl, rfl⟩) | (go_at_call 46; refine (specIn_any _ _ _ _ ).mono ?_; rintro e w' ⟨rfl, rfl⟩))
  refine (specPoints_any A n c x _ (by unfold maxLen; omega) HS0_0.out).mono ?_
  rw [HAT0.out]
  rintro e W1 ⟨rfl, hbe⟩
  have HB1 : Hid (Below w.heap.size w W1) := by rw [← hbe]; exact HB0.out
  have HS0_1 : Hid (SL W1 A n (fun j => .int .i64 (x j))) := by rw [← hbe]; exact HS0_0.out
  have HS1_1 : Hid (SL W1 A' n (fun j => .int .i64 (y j))) := by rw [← hbe]; exact HS1_0.out
  clear hbe
  go_wp2_with (first | (go_at_call 54; refine (specCents_any _ _ ).mono ?_; rintro e w' ⟨rfl, rfl⟩) | (go_at_call 55; refine (specRate_any _ _ ).mono ?_; rintro e w' ⟨rfl, rfl⟩) | (go_at_call 46; refine (specIn_any _ _ _ _ ).mono ?_; rintro e w' ⟨rfl, rfl⟩))
  refine (specPoints_any A' n c' y _ (by unfold maxLen; omega) HS1_1.out).mono ?_
  rw [HAT1.out]
  rintro e W2 ⟨rfl, hbe⟩
  have HB2 : Hid (Below w.heap.size w W2) := by rw [← hbe]; exact HB1.out
  have HS0_2 : Hid (SL W2 A n (fun j => .int .i64 (x j))) := by rw [← hbe]; exact HS0_1.out
  have HS1_2 : Hid (SL W2 A' n (fun j => .int .i64 (y j))) := by rw [← hbe]; exact HS1_1.out
  clear hbe
  have hAe := HAE.out
  have hAe' := HAE2.out
  clear HAE HAE2
  subst hAe hAe'
  have hbk : b < W2.heap.size := Nat.lt_of_lt_of_le hb HB2.out.size
  have hbk' : b' < W2.heap.size := Nat.lt_of_lt_of_le hb' HB2.out.size
  have HCZ1 : Hid (∀ j, j < n → W2.cell? ⟨b, off + j, none⟩ = some (.int .i64 (x j))) := fun j hj => (HB2.out.cell (p := ⟨b, off + j, none⟩) hb).trans (HCA.out j hj)
  have HCZ2 : Hid (∀ j, j < n → W2.cell? ⟨b', off' + j, none⟩ = some (.int .i64 (y j))) := fun j hj => (HB2.out.cell (p := ⟨b', off' + j, none⟩) hb').trans (HCB.out j hj)
  go_wp2_with (first | (at_builtin; refine wpList_append_own _ rfl _ _ 22 rfl (W2.heap.size) 2 i0 (.int .i64 0) 1 8 Try.underlying22 hi hz0 hz1 hz2 rfl (by decide) _ _ _ rfl (lit_own W2 _) ⟨b, off, none⟩ n c ((List.range n).map fun j => .int .i64 (x j)) rfl (by simp) (spread_c1 hbk HCZ1.out) (by intro u hu; rw [List.mem_map] at hu; obtain ⟨j, _, rfl⟩ := hu; rfl) (by unfold maxLen; omega) (by omega) (by simp) ?_) | (go_at_call 54; refine (specCents_any _ _ ).mono ?_; rintro e w' ⟨rfl, rfl⟩) | (go_at_call 55; refine (specRate_any _ _ ).mono ?_; rintro e w' ⟨rfl, rfl⟩) | (go_at_call 46; refine (specIn_any _ _ _ _ ).mono ?_; rintro e w' ⟨rfl, rfl⟩))
  intro v' w1 hown hgrow _
  obtain ⟨g, cp, rfl⟩ := Joins.ownsRow_form hown (by omega)
  have hbl : Below W2.heap.size W2 w1 := ((Below.refl W2.heap.size W2).alloc (Nat.le_refl _) (.cells #[] 2)).grown hgrow (by simp) (fun j hj => by simp [Value.ownBlock] at hj; omega)
  have HB1 := hide (HB2.out.trans (hbl.mono HB2.out.size))
  have HCZ3 : Hid (∀ j, j < n → w1.cell? ⟨b', off' + j, none⟩ = some (.int .i64 (y j))) := fun j hj => (hbl.cell (p := ⟨b', off' + j, none⟩) hbk').trans (HCZ2.out j hj)
  have hz := HB2.out.size
  have hgl := (hown.lt g rfl).2
  have hgl1 := (hown.lt g rfl).1
  have hbk2 : b' < w1.heap.size := Nat.lt_of_lt_of_le hbk' hbl.size
  have HO1 := hide hown
  have HX := hide (spread_x (n := n) (x := x))
  clear hown hgrow hbl gg3 gg4
  go_wp2_with (at_builtin; refine wpList_append_own _ rfl _ _ 22 rfl (w1.heap.size) 2 i0 (.int .i64 0) 1 8 Try.underlying22 hi hz0 hz1 hz2 rfl (by decide) _ _ _ rfl (lit_own w1 _) ⟨b', off', none⟩ n c' ((List.range n).map fun j => .int .i64 (y j)) rfl (by simp) (spread_c1 hbk2 HCZ3.out) (by intro u hu; rw [List.mem_map] at hu; obtain ⟨j, _, rfl⟩ := hu; rfl) (by unfold maxLen; omega) (by omega) (by simp) ?_)
  intro v' w2 hown hgrow _
  obtain ⟨g', cp', rfl⟩ := Joins.ownsRow_form hown (by omega)
  have hb : Below w1.heap.size w1 w2 := ((Below.refl w1.heap.size w1).alloc (Nat.le_refl _) (.cells #[] 2)).grown hgrow (by simp) (fun j hj => by simp [Value.ownBlock] at hj; omega)
  have hz1 := HB1.out.size
  have HB2 := hide (HB1.out.trans (hb.mono HB1.out.size))
  have HP0 := hide (own_lower7 (B' := w.heap.size) (own_stays HO1.out hb) (by omega))
  have HR0 := hide (own_lower7 (B' := w.heap.size) hown (by omega))
  have HY := hide (spread_x (n := n) (x := y))
  have hgr := (hown.lt g' rfl).1
  clear hgrow
  have hgg : ¬ g = g' := by omega
  have hgg' : ¬ g' = g := by omega
  have HGB := hide (show w.heap.size ≤ g by omega)
  have HGB' := hide (show w.heap.size ≤ g' by omega)
  clear hown HO1 hgl hgl1 hgr hz hz1 hb
  obtain ⟨F, rfl⟩ : ∃ F : Nat, f = F := ⟨f.toNat, by have := HG4.out; omega⟩
  obtain ⟨T, rfl⟩ : ∃ T : Nat, t = T := ⟨t.toNat, by have := HG3.out; omega⟩
  have hFT : F ≤ T := by have := HG4.out; omega
  have hTn : T ≤ n := by have := HG3.out; omega
  go_wp2
  go_loopw [13, 14, 15] (fun i _ _ wr => ∃ (u : Nat) (xs ys : List Value), F ≤ u ∧ u ≤ T ∧ i = .int .i64 u ∧ wr.ownsRow w.heap.size 2 1 (.slice (some ⟨g, 0, none⟩) n cp) n xs ∧ wr.ownsRow w.heap.size 2 1 (.slice (some ⟨g', 0, none⟩) n cp') n ys ∧ Hid (∀ j, j < n → xs[j]? = some (.int .i64 (spA x y F u j))) ∧ Hid (∀ j, j < n → ys[j]? = some (.int .i64 (spB x y F u j))) ∧ Below w.heap.size w wr) (fun i _ _ _ => T - (intOf i).toNat)
  case atStart => exact ⟨F, _, _, Nat.le_refl _, hFT, rfl, HP0.out, HR0.out, (fun j hj => by rw [spA_start]; exact HX.out j hj), (fun j hj => by rw [spB_start]; exact HY.out j hj), HB2.out⟩
  case round =>
    clear HP0 HR0 HX HY HB2 HB1
    obtain ⟨u, xs, ys, hFu, hu, rfl, hown, hownR, hxs, hys, hbel⟩ := hrel
    by_cases hlt : u < T
    · have hun : u < n := by omega
      have huni : (u : Int) < (n : Int) := by omega
      have hxu := hxs.out u hun
      have hyu := hys.out u hun
      rw [spA_at] at hxu
      rw [spB_at] at hyu
      have gold : wr.cell? ⟨g, u, none⟩ = some (.int .i64 (x u)) := (hown.cellAt u (by omega)).trans hxu
      have lold : wr.cell? ⟨g', u, none⟩ = some (.int .i64 (y u)) := (hownR.cellAt u (by omega)).trans hyu
      have gfr := hown.frozenAt u
      have lfr := hownR.frozenAt u
      obtain ⟨x0, x1⟩ := HAL0.out.2 u hun
      obtain ⟨y0, y1⟩ := HAL1.out.2 u hun
      obtain ⟨⟨a0, a1⟩, ⟨b0, b1⟩, h0, h1⟩ := hf_bd ⟨x0, x1⟩ ⟨y0, y1⟩
      obtain ⟨X, hX⟩ : ∃ X, x u = X := ⟨_, rfl⟩
      obtain ⟨Y, hY⟩ : ∃ Y, y u = Y := ⟨_, rfl⟩
      rw [hX, hY] at a0 a1 b0 b1 h0 h1
      rw [hX] at gold x0 x1
      rw [hY] at lold y0 y1
      obtain ⟨H, hH⟩ : ∃ H, hfV X Y = H := ⟨_, rfl⟩
      rw [hH] at a0 a1 b0 b1 h0 h1
      have HXN := hide (fun j (_ : j < n) => show spA x y F ((u : Int) + 1) j = if j = u then X - H else spA x y F u j by rw [spA_step x y (by omega), hX, hY, hH])
      have HYN := hide (fun j (_ : j < n) => show spB x y F ((u : Int) + 1) j = if j = u then Y + H else spB x y F u j by rw [spB_step x y (by omega), hX, hY, hH])
      have HSG := fun q => hide (World.ownsRow.stored (w := wr.drewN q) hown u (.int .i64 (X - H)))
      have HST := fun q => hide (World.ownsRow.stored (w := (wr.drewN q).setCell ⟨g, u, none⟩ (.int .i64 (X - H))) (own_other7 (w := wr.drewN q) hownR (by exact hgg)) u (.int .i64 (Y + H)))
      have HTG := fun q => hide (World.ownsRow.stored (w := wr.drewN q) hownR u (.int .i64 (Y + H)))
      have HTS := fun q => hide (World.ownsRow.stored (w := (wr.drewN q).setCell ⟨g', u, none⟩ (.int .i64 (Y + H))) (own_other7 (w := wr.drewN q) hown (by exact hgg')) u (.int .i64 (X - H)))
      have HLX := hide (show xs.length = n by have := hown.1; omega)
      have HLY := hide (show ys.length = n by have := hownR.1; omega)
      have HBEL := hide hbel
      have e1 : (u : Int) + 1 = ((u + 1 : Nat) : Int) := by push_cast; rfl
      rw [e1] at HXN HYN
      by_cases hxy : Y < X
      · have hq : (X - Y) / 2 = H := by rw [← hH]; exact (hf_pos (by omega)).symm
        clear hX hY hH hxu hyu hown hownR hbel e1
        go_wp2
        go_quiet (fail)
        go_wp2
        go_quiet (fail)
        go_wp2
        go_roundw
        case rel => exact ⟨u + 1, xs.set u (.int .i64 (X - H)), ys.set u (.int .i64 (Y + H)), by omega, by omega, by go_num, own_other7 (HSG _).out.1 (by exact hgg'), (HST _).out.1, set_row HLX.out hxs.out HXN.out, set_row HLY.out hys.out HYN.out, ((bel_q HBEL.out _).setCell (by exact HGB.out) _).setCell (by exact HGB'.out) _⟩
        case measure => simp [intOf]; omega
      · obtain ⟨K, hK⟩ : ∃ K, (Y - X) / 2 = K := ⟨_, rfl⟩
        have hq : H = -K := by rw [← hH, ← hK]; exact hf_neg (by omega)
        clear hX hY hH hxu hyu hown hownR hbel e1
        have s1 : X - H = X + K := by omega
        have s2 : Y + H = Y - K := by omega
        rw [s1] at HTS HXN a0 a1
        rw [s2] at HTG HTS HYN b0 b1
        clear HSG HST hq s1 s2 h0 h1
        have k0 : 0 ≤ K := by omega
        have k1 : K ≤ 1000000 := by omega
        go_wp2
        go_quiet (fail)
        go_wp2
        go_quiet (fail)
        go_wp2
        go_roundw
        case rel => exact ⟨u + 1, xs.set u (.int .i64 (X + K)), ys.set u (.int .i64 (Y - K)), by omega, by omega, by go_num, (HTS _).out.1, own_other7 (HTG _).out.1 (by exact hgg), set_row HLX.out hxs.out HXN.out, set_row HLY.out hys.out HYN.out, ((bel_q HBEL.out _).setCell (by exact HGB'.out) _).setCell (by exact HGB.out) _⟩
        case measure => simp [intOf]; omega
    · obtain rfl : u = T := by omega
      have HO1 := hide (OW.of_owns (f := fun j => .int .i64 (spA x y F u j)) hown hxs.out)
      have HO2 := hide (OW.of_owns (f := fun j => .int .i64 (spB x y F u j)) hownR hys.out)
      have HBEL := hide hbel
      clear hown hownR hbel
      go_wp2
      go_ret3
      exact gave2_yes HH.out HO1.out HO2.out (fun _ h => hgg (by injection h with h; injection h)) HBEL.out
end Go.Proofs.Ytjefpcmegkeceaa
