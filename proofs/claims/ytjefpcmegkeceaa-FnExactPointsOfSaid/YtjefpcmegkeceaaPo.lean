/- PointsOf, by both. -/
import Derived.Test.YtjefpcmegkeceaaGp
import Derived.Test.YtjefpcmegkeceaaLi
import Derived.Test.YtjefpcmegkeceaaP7
import Derived.Laws.AppendOwn
import Derived.Deep.RegionHeldLaw
import Derived.Deep.AppendLies
namespace Go.Proofs.Ytjefpcmegkeceaa
open Go.RowKit Go.Dues
def poP (x : Nat → Int) (n : Nat) (y : Nat → Int) (m : Nat) (t : Int) : Prop := allP x n 1 60 0 1000000000000 ∧ m = n ∧ (∀ j, j < n → 1 ≤ y j ∧ y j ≤ 1000000000000) ∧ (0 ≤ t ∧ t ≤ 1000000)
def poV (x y : Nat → Int) (t : Int) (k : Nat) : Int := min t (rnd (x k * 10000) (y k) 1)
theorem po_a {x y : Nat → Int} {n m : Nat} {t : Int} (h : poP x n y m t) : allP y m 1 60 0 1000000000000 := by
  obtain ⟨h1, rfl, h2, _⟩ := h
  exact ⟨h1.1, fun j hj => by have := h2 j hj; omega⟩
theorem po_b {x y : Nat → Int} {n m : Nat} {t : Int} (h : poP x n y m t) : allP y m n n 1 1000000000000 := by
  obtain ⟨h1, rfl, h2, _⟩ := h
  exact ⟨⟨Int.le_refl _, Int.le_refl _⟩, h2⟩
theorem po_bd {x y t : Int} (hx : 0 ≤ x ∧ x ≤ 1000000000000) (hy : 1 ≤ y ∧ y ≤ 1000000000000) (ht : 0 ≤ t ∧ t ≤ 1000000) : (0 ≤ x * 10000 ∧ x * 10000 ≤ 10000000000000000) ∧ (0 ≤ rnd (x * 10000) y 1 ∧ rnd (x * 10000) y 1 ≤ 10000000000000001) ∧ 0 ≤ min t (rnd (x * 10000) y 1) ∧ min t (rnd (x * 10000) y 1) ≤ 1000000 := by
  have h1 := rnd1_bd (a := x * 10000) (b := y) (by omega) hy.1
  have h2 : x * 10000 / y ≤ x * 10000 := Int.ediv_le_self _ (by omega)
  omega
set_option maxRecDepth 100000 in
set_option maxHeartbeats 1600000 in
theorem specPointsOf_any (A : Option Addr) (n c : Nat) (x : Nat → Int) (A' : Option Addr) (m c' : Nat) (y : Nat → Int) (t : Int) (w : World) (hn_n : n ≤ maxLen) (hs_n : SL w A n (fun j => .int .i64 (x j))) (hn_m : m ≤ maxLen) (hs_m : SL w A' m (fun j => .int .i64 (y j))) :
    Calls Try.prog 23 #[.slice A n c, .slice A' m c', .int .i64 t] w fun e w' => Gave1 w w' e (poP x n y m t) (n) (poV x y t) := by
  obtain ⟨i0, hi, hz0, hz1, hz2⟩ := info_parts Try.info64
  unfold maxLen at hn_n
  unfold maxLen at hn_m
  have HB0 := hide (Below.refl w.heap.size w)
  have HS0_0 := hide hs_n
  have HS1_0 := hide hs_m
  clear hs_n hs_m
  by_cases hall0 : allP x n 1 60 0 1000000000000
  rotate_left
  · have HAT0 := hide (tru_no hall0)
    have HH := hide (show ¬ poP x n y m t from fun h => hall0 (h.1))
    clear hall0
    go_enter Try.func23, Try.ntmps23
    go_wp2_with (first | (go_at_call 54; refine (specCents_any _ _ ).mono ?_; rintro e w' ⟨rfl, rfl⟩) | (go_at_call 55; refine (specRate_any _ _ ).mono ?_; rintro e w' ⟨rfl, rfl⟩) | (go_at_call 46; refine (specIn_any _ _ _ _ ).mono ?_; rintro e w' ⟨rfl, rfl⟩) | (go_at_call 58; go_in))
    refine (specAmts_any A n c x 60 _ (by unfold maxLen; omega) HS0_0.out).mono ?_
    rw [HAT0.out]
    rintro e W1 ⟨rfl, hbe⟩
    have HB1 : Hid (Below w.heap.size w W1) := by rw [← hbe]; exact HB0.out
    have HS0_1 : Hid (SL W1 A n (fun j => .int .i64 (x j))) := by rw [← hbe]; exact HS0_0.out
    have HS1_1 : Hid (SL W1 A' m (fun j => .int .i64 (y j))) := by rw [← hbe]; exact HS1_0.out
    clear hbe
    go_wp2_with (first | (go_at_call 54; refine (specCents_any _ _ ).mono ?_; rintro e w' ⟨rfl, rfl⟩) | (go_at_call 55; refine (specRate_any _ _ ).mono ?_; rintro e w' ⟨rfl, rfl⟩) | (go_at_call 46; refine (specIn_any _ _ _ _ ).mono ?_; rintro e w' ⟨rfl, rfl⟩) | (go_at_call 58; go_in))
    go_ret2
    exact gave1_no HH.out HB1.out
  have HAT0 := hide (tru_yes hall0)
  have HAL0 := hide hall0
  clear hall0
  by_cases hall1 : allP y m 1 60 0 1000000000000
  rotate_left
  · have HAT1 := hide (tru_no hall1)
    have HH := hide (show ¬ poP x n y m t from fun h => hall1 (po_a h))
    clear hall1
    go_enter Try.func23, Try.ntmps23
    go_wp2_with (first | (go_at_call 54; refine (specCents_any _ _ ).mono ?_; rintro e w' ⟨rfl, rfl⟩) | (go_at_call 55; refine (specRate_any _ _ ).mono ?_; rintro e w' ⟨rfl, rfl⟩) | (go_at_call 46; refine (specIn_any _ _ _ _ ).mono ?_; rintro e w' ⟨rfl, rfl⟩) | (go_at_call 58; go_in))
    refine (specAmts_any A n c x 60 _ (by unfold maxLen; omega) HS0_0.out).mono ?_
    rw [HAT0.out]
    rintro e W1 ⟨rfl, hbe⟩
    have HB1 : Hid (Below w.heap.size w W1) := by rw [← hbe]; exact HB0.out
    have HS0_1 : Hid (SL W1 A n (fun j => .int .i64 (x j))) := by rw [← hbe]; exact HS0_0.out
    have HS1_1 : Hid (SL W1 A' m (fun j => .int .i64 (y j))) := by rw [← hbe]; exact HS1_0.out
    clear hbe
    go_wp2_with (first | (go_at_call 54; refine (specCents_any _ _ ).mono ?_; rintro e w' ⟨rfl, rfl⟩) | (go_at_call 55; refine (specRate_any _ _ ).mono ?_; rintro e w' ⟨rfl, rfl⟩) | (go_at_call 46; refine (specIn_any _ _ _ _ ).mono ?_; rintro e w' ⟨rfl, rfl⟩) | (go_at_call 58; go_in))
    refine (specAmts_any A' m c' y 60 _ (by unfold maxLen; omega) HS1_1.out).mono ?_
    rw [HAT1.out]
    rintro e W2 ⟨rfl, hbe⟩
    have HB2 : Hid (Below w.heap.size w W2) := by rw [← hbe]; exact HB1.out
    have HS0_2 : Hid (SL W2 A n (fun j => .int .i64 (x j))) := by rw [← hbe]; exact HS0_1.out
    have HS1_2 : Hid (SL W2 A' m (fun j => .int .i64 (y j))) := by rw [← hbe]; exact HS1_1.out
    clear hbe
    go_wp2_with (first | (go_at_call 54; refine (specCents_any _ _ ).mono ?_; rintro e w' ⟨rfl, rfl⟩) | (go_at_call 55; refine (specRate_any _ _ ).mono ?_; rintro e w' ⟨rfl, rfl⟩) | (go_at_call 46; refine (specIn_any _ _ _ _ ).mono ?_; rintro e w' ⟨rfl, rfl⟩) | (go_at_call 58; go_in))
    go_ret2
    exact gave1_no HH.out HB2.out
  have HAT1 := hide (tru_yes hall1)
  have HAL1 := hide hall1
  clear hall1
  by_cases heq2 : (m : Int) = (n : Int)
  rotate_left
  · have HH := hide (show ¬ poP x n y m t from fun h => heq2 (by rw [h.2.1]))
    have hne : ¬ m = n := fun hh => heq2 (by rw [hh])
    go_enter Try.func23, Try.ntmps23
    go_wp2_with (first | (go_at_call 54; refine (specCents_any _ _ ).mono ?_; rintro e w' ⟨rfl, rfl⟩) | (go_at_call 55; refine (specRate_any _ _ ).mono ?_; rintro e w' ⟨rfl, rfl⟩) | (go_at_call 46; refine (specIn_any _ _ _ _ ).mono ?_; rintro e w' ⟨rfl, rfl⟩) | (go_at_call 58; go_in))
    refine (specAmts_any A n c x 60 _ (by unfold maxLen; omega) HS0_0.out).mono ?_
    rw [HAT0.out]
    rintro e W1 ⟨rfl, hbe⟩
    have HB1 : Hid (Below w.heap.size w W1) := by rw [← hbe]; exact HB0.out
    have HS0_1 : Hid (SL W1 A n (fun j => .int .i64 (x j))) := by rw [← hbe]; exact HS0_0.out
    have HS1_1 : Hid (SL W1 A' m (fun j => .int .i64 (y j))) := by rw [← hbe]; exact HS1_0.out
    clear hbe
    go_wp2_with (first | (go_at_call 54; refine (specCents_any _ _ ).mono ?_; rintro e w' ⟨rfl, rfl⟩) | (go_at_call 55; refine (specRate_any _ _ ).mono ?_; rintro e w' ⟨rfl, rfl⟩) | (go_at_call 46; refine (specIn_any _ _ _ _ ).mono ?_; rintro e w' ⟨rfl, rfl⟩) | (go_at_call 58; go_in))
    refine (specAmts_any A' m c' y 60 _ (by unfold maxLen; omega) HS1_1.out).mono ?_
    rw [HAT1.out]
    rintro e W2 ⟨rfl, hbe⟩
    have HB2 : Hid (Below w.heap.size w W2) := by rw [← hbe]; exact HB1.out
    have HS0_2 : Hid (SL W2 A n (fun j => .int .i64 (x j))) := by rw [← hbe]; exact HS0_1.out
    have HS1_2 : Hid (SL W2 A' m (fun j => .int .i64 (y j))) := by rw [← hbe]; exact HS1_1.out
    clear hbe
    go_wp2_with (first | (go_at_call 54; refine (specCents_any _ _ ).mono ?_; rintro e w' ⟨rfl, rfl⟩) | (go_at_call 55; refine (specRate_any _ _ ).mono ?_; rintro e w' ⟨rfl, rfl⟩) | (go_at_call 46; refine (specIn_any _ _ _ _ ).mono ?_; rintro e w' ⟨rfl, rfl⟩) | (go_at_call 58; go_in))
    go_ret2
    exact gave1_no HH.out HB2.out
  obtain rfl : n = m := by omega
  cases gg3 : inB t (0) (1000000)
  · have HH := hide (show ¬ poP x n y n t from fun h => by rw [inB_yes (h.2.2.2)] at gg3; cases gg3)
    go_enter Try.func23, Try.ntmps23
    go_wp2_with (first | (go_at_call 54; refine (specCents_any _ _ ).mono ?_; rintro e w' ⟨rfl, rfl⟩) | (go_at_call 55; refine (specRate_any _ _ ).mono ?_; rintro e w' ⟨rfl, rfl⟩) | (go_at_call 46; refine (specIn_any _ _ _ _ ).mono ?_; rintro e w' ⟨rfl, rfl⟩) | (go_at_call 58; go_in))
    refine (specAmts_any A n c x 60 _ (by unfold maxLen; omega) HS0_0.out).mono ?_
    rw [HAT0.out]
    rintro e W1 ⟨rfl, hbe⟩
    have HB1 : Hid (Below w.heap.size w W1) := by rw [← hbe]; exact HB0.out
    have HS0_1 : Hid (SL W1 A n (fun j => .int .i64 (x j))) := by rw [← hbe]; exact HS0_0.out
    have HS1_1 : Hid (SL W1 A' n (fun j => .int .i64 (y j))) := by rw [← hbe]; exact HS1_0.out
    clear hbe
    go_wp2_with (first | (go_at_call 54; refine (specCents_any _ _ ).mono ?_; rintro e w' ⟨rfl, rfl⟩) | (go_at_call 55; refine (specRate_any _ _ ).mono ?_; rintro e w' ⟨rfl, rfl⟩) | (go_at_call 46; refine (specIn_any _ _ _ _ ).mono ?_; rintro e w' ⟨rfl, rfl⟩) | (go_at_call 58; go_in))
    refine (specAmts_any A' n c' y 60 _ (by unfold maxLen; omega) HS1_1.out).mono ?_
    rw [HAT1.out]
    rintro e W2 ⟨rfl, hbe⟩
    have HB2 : Hid (Below w.heap.size w W2) := by rw [← hbe]; exact HB1.out
    have HS0_2 : Hid (SL W2 A n (fun j => .int .i64 (x j))) := by rw [← hbe]; exact HS0_1.out
    have HS1_2 : Hid (SL W2 A' n (fun j => .int .i64 (y j))) := by rw [← hbe]; exact HS1_1.out
    clear hbe
    go_wp2_with (first | (go_at_call 54; refine (specCents_any _ _ ).mono ?_; rintro e w' ⟨rfl, rfl⟩) | (go_at_call 55; refine (specRate_any _ _ ).mono ?_; rintro e w' ⟨rfl, rfl⟩) | (go_at_call 46; refine (specIn_any _ _ _ _ ).mono ?_; rintro e w' ⟨rfl, rfl⟩) | (go_at_call 58; go_in))
    go_ret2
    exact gave1_no HH.out HB2.out
  have HG3 := hide (inB_iff.1 gg3)
  have n60 := HAL0.out.1.2
  obtain ⟨t0, t1⟩ := HG3.out
  go_enter Try.func23, Try.ntmps23
  go_wp2_with (first | (go_at_call 54; refine (specCents_any _ _ ).mono ?_; rintro e w' ⟨rfl, rfl⟩) | (go_at_call 55; refine (specRate_any _ _ ).mono ?_; rintro e w' ⟨rfl, rfl⟩) | (go_at_call 46; refine (specIn_any _ _ _ _ ).mono ?_; rintro e w' ⟨rfl, rfl⟩) | (go_at_call 58; go_in))
  refine (specAmts_any A n c x 60 _ (by unfold maxLen; omega) HS0_0.out).mono ?_
  rw [HAT0.out]
  rintro e W1 ⟨rfl, hbe⟩
  have HB1 : Hid (Below w.heap.size w W1) := by rw [← hbe]; exact HB0.out
  have HS0_1 : Hid (SL W1 A n (fun j => .int .i64 (x j))) := by rw [← hbe]; exact HS0_0.out
  have HS1_1 : Hid (SL W1 A' n (fun j => .int .i64 (y j))) := by rw [← hbe]; exact HS1_0.out
  clear hbe
  go_wp2_with (first | (go_at_call 54; refine (specCents_any _ _ ).mono ?_; rintro e w' ⟨rfl, rfl⟩) | (go_at_call 55; refine (specRate_any _ _ ).mono ?_; rintro e w' ⟨rfl, rfl⟩) | (go_at_call 46; refine (specIn_any _ _ _ _ ).mono ?_; rintro e w' ⟨rfl, rfl⟩) | (go_at_call 58; go_in))
  refine (specAmts_any A' n c' y 60 _ (by unfold maxLen; omega) HS1_1.out).mono ?_
  rw [HAT1.out]
  rintro e W2 ⟨rfl, hbe⟩
  have HB2 : Hid (Below w.heap.size w W2) := by rw [← hbe]; exact HB1.out
  have HS0_2 : Hid (SL W2 A n (fun j => .int .i64 (x j))) := by rw [← hbe]; exact HS0_1.out
  have HS1_2 : Hid (SL W2 A' n (fun j => .int .i64 (y j))) := by rw [← hbe]; exact HS1_1.out
  clear hbe
  go_wp2_with (first | (go_at_call 54; refine (specCents_any _ _ ).mono ?_; rintro e w' ⟨rfl, rfl⟩) | (go_at_call 55; refine (specRate_any _ _ ).mono ?_; rintro e w' ⟨rfl, rfl⟩) | (go_at_call 46; refine (specIn_any _ _ _ _ ).mono ?_; rintro e w' ⟨rfl, rfl⟩) | (go_at_call 58; go_in))
  clear gg3
  have hst : (W2.alloc (.cells #[] 2)).ownsRow W2.heap.size 2 1 (.slice (some ⟨W2.heap.size, 0, none⟩) 0 0) 0 [] :=
    ⟨by simp, .inr ⟨W2.heap.size, 0, #[], rfl, Nat.le_refl _, new_at W2 _, Nat.le_refl 0, by unfold maxLen; omega, rfl, rfl⟩⟩
  have HBS := hide ((Below.refl W2.heap.size W2).alloc (Nat.le_refl _) (.cells #[] 2))
  have HO0 := hide hst
  clear hst
  have HC := cells_a HS0_2.out
  have HC' := cells_a HS1_2.out
  go_loopw [8, 9] (fun v i wr => ∃ (k : Nat) (xs : List Value) (ov : Value), k ≤ n ∧ i = .int .i64 k ∧ ov = v ∧ Hid (∀ j, j < k → 1 ≤ y j ∧ y j ≤ 1000000000000) ∧ wr.ownsRow W2.heap.size 2 1 ov k xs ∧ Hid (∀ j, j < k → xs[j]? = some (.int .i64 (poV x y t j))) ∧ Below W2.heap.size W2 wr) (fun _ i _ => n - (intOf i).toNat)
  case atStart => exact ⟨0, [], _, Nat.zero_le _, rfl, rfl, fun j hj => absurd hj (by omega), HO0.out, fun j hj => absurd hj (by omega), HBS.out⟩
  case round =>
    obtain ⟨k, xs, ov, hk, rfl, hvo, hys, hown, hxs, hbel⟩ := hrel
    subst hvo
    by_cases hlt : k < n
    · obtain ⟨b, off, rfl, hb, hc⟩ := HC.out k hlt
      obtain ⟨b', off', rfl, hb', hc'⟩ := HC'.out k hlt
      have hc2 := (hbel.cell (p := ⟨b, off + k, none⟩) hb).trans hc
      have hc2' := (hbel.cell (p := ⟨b', off' + k, none⟩) hb').trans hc'
      have hsz := hbel.size
      obtain ⟨x0, x1⟩ := HAL0.out.2 k hlt
      obtain ⟨y0, y1⟩ := HAL1.out.2 k hlt
      clear hc hc'
      by_cases hy0 : y k = 0
      · have HH := hide (show ¬ poP x n y n t from fun h => by have := (h.2.2.1 k hlt).1; omega)
        have HBF := hide (HB2.out.trans (hbel.mono HB2.out.size))
        clear hown hbel
        go_wp2
        go_ret2
        exact gave1_no HH.out HBF.out
      have y2 : 1 ≤ y k := by omega
      have HYS := hide (show ∀ j, j < k + 1 → 1 ≤ y j ∧ y j ≤ 1000000000000 from fun j hj => by
        by_cases hjk : j = k
        · subst hjk; exact ⟨y2, y1⟩
        · exact hys.out j (by omega))
      obtain ⟨⟨p0, p1⟩, ⟨r0, r1⟩, m0, m1⟩ := po_bd ⟨x0, x1⟩ ⟨y2, y1⟩ ⟨t0, t1⟩
      have HR := fun w => hide (specRound_any (x k * 10000) (y k) 1 w p0 (by omega) y2 (by omega) (by omega))
      have HMN := fun w => hide (specMn_any t (rnd (x k * 10000) (y k) 1) w)
      have HE := hide (Go.IntWalk.i64_in (x k * 10000) (by omega))
      obtain ⟨R, hR⟩ : ∃ R, rnd (x k * 10000) (y k) 1 = R := ⟨_, rfl⟩
      rw [hR] at HR r0 r1 m0 m1 HMN
      have HLL := hide (show xs.length = k by have := hown.1; omega)
      obtain ⟨M, hM⟩ : ∃ M, min t R = M := ⟨_, rfl⟩
      rw [hM] at m0 m1 HMN
      have HV := hide (show M = poV x y t k by unfold poV; rw [hR, hM])
      clear hR hM
      have ag : ∀ g, g < W2.heap.size → ov.ownBlock ≠ some g := fun g hg e => by have := (hown.lt g e).1; omega
      have a0 := ag b hb
      have a1 := ag b' hb'
      have hl0 := Nat.lt_of_lt_of_le hb hsz
      have hl1 := Nat.lt_of_lt_of_le hb' hsz
      have hn63 : k + 1 ≤ maxLen := by unfold maxLen; omega
      have hby : (k + 1) * 8 ≤ 140737488355328 := by omega
      have HBEL := hide hbel
      clear ag hbel
      go_wp2
      go_region_held_law (fun w' => w'.cell? ⟨b, off + k, none⟩ = some (.int .i64 (x k)) ∧ w'.cell? ⟨b', off' + k, none⟩ = some (.int .i64 (y k)))
        (first
          | go_keep
          | (go_split_ands
             refine ⟨?_, ?_⟩
             · (rw [hgrow.cell_far _ (by simp; omega) (Ne.symm a0)]; assumption)
             · (rw [hgrow.cell_far _ (by simp; omega) (Ne.symm a1)]; assumption)))
        ((first
          | (go_at_call 60; rw [HE.out]; refine (HR _).out.mono ?_; rintro e w' ⟨rfl, rfl⟩)
          | (go_at_call 59; refine (HMN _).out.mono ?_; rintro e w' ⟨rfl, rfl⟩)
          | (refine step_append_lies _ (by rfl) _ _ _ (by rfl) W2.heap.size 2 i0 _ 1 8 Try.underlying22 hi hz0 hz1 hz2 rfl (by omega) ov k xs (by rfl) ((hown.alloc _).drew)
              ⟨wr.heap.size, 0, none⟩ 1 1 [.int .i64 M] (by rfl) (by rfl) (World.news_of_block (cs := #[.int .i64 M]) (t := 2) (fr := (0, 0)) (heap_alloc_new wr _)) (by simp [Value.oneCell'])
              (by omega) hn63 hby (by simp; omega) (wr.heap.size + 1) (by simp) ?_; intro gg cap w5 hown1 hgrow hat hlt5)))
      have hb1 := (HBEL.out.alloc hsz (.cells #[.int .i64 M] 2))
      have hbd : Below W2.heap.size W2 ((wr.alloc (.cells #[.int .i64 M] 2)).drew) := ⟨hb1.os, hb1.tape, hb1.output, hb1.size, hb1.block⟩
      have HB1 := hide (hbd.grown hgrow (by simp; omega) (fun j hj => (hown.lt j hj).1))
      have HON := hide hown1
      clear hown hown1 hgrow hat hb1 hbd hc2 hc2'
      go_wp2
      go_roundw
      case rel => exact ⟨k + 1, _, _, by omega, by go_num, rfl, HYS.out, HON.out, own_step HLL.out hxs.out (by rw [HV.out]), HB1.out⟩
      case measure => simp [intOf]; omega
    · obtain ⟨Gx, dx, rfl⟩ := own_shape hown
      have HN := hide (show k = n by omega)
      have HO := hide hown
      have HBEL := hide hbel
      have HH := hide (show poP x n y n t from ⟨HAL0.out, rfl, fun j hj => hys.out j (by omega), HG3.out⟩)
      clear hown hbel
      go_wp2
      go_ret2
      exact gave1_yes HH.out HN.out ((OW.of_owns HO.out hxs.out).wide HB2.out.size (Nat.le_refl _)) (HB2.out.trans (HBEL.out.mono HB2.out.size))
end Go.Proofs.Ytjefpcmegkeceaa
