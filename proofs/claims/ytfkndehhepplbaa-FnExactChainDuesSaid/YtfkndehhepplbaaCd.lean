/- ChainDues, by both. -/
import Derived.Test.YtfkndehhepplbaaLi
namespace Go.Proofs.Ytfkndehhepplbaa
open Go.RowKit Go.Dues
def chB (x : Nat → Int) (r d : Int) : Nat → Int
  | 0 => 0
  | k + 1 => duV (x k) r d
def cdV (x : Nat → Int) (r d : Int) (k : Nat) : Int := duV (x k) r d - chB x r d k
def cdP (x : Nat → Int) (n : Nat) (r d : Int) : Prop := allP x n 1 16 0 1000000000000 ∧ (0 ≤ r ∧ r ≤ 10000) ∧ (0 ≤ d ∧ d ≤ 3)
set_option maxRecDepth 100000 in
set_option maxHeartbeats 8000000 in
theorem specChain_any (A : Option Addr) (n c : Nat) (x : Nat → Int) (r d : Int) (w : World) (hn : n ≤ maxLen) (hs : SL w A n (fun j => .int .i64 (x j))) :
    Calls Try.prog 35 #[.slice A n c, .int .i64 r, .int .i64 d] w fun e w' => Gave1 w w' e (cdP x n r d) (n) (cdV x r d) := by
  obtain ⟨i0, hi, hz0, hz1, hz2⟩ := info_parts Try.info64
  unfold maxLen at hn
  have HA := hide (specAmts_any A n c x 16 w (by unfold maxLen; omega) hs)
  have HSL := hide hs
  clear hs
  by_cases hall : allP x n 1 16 0 1000000000000
  · have HAT := hide (tru_yes hall)
    have HAL := hide hall
    have n16 := hall.1.2
    clear hall
    cases gr : ratB r
    · have HH := hide (show ¬ cdP x n r d from fun h => by rw [ratB_yes h.2.1] at gr; cases gr)
      go_enter Try.func35, Try.ntmps35
      go_wp2_with fail
      refine HA.out.mono ?_
      rw [HAT.out]
      rintro e W ⟨rfl, hbe⟩
      have HB0 : Hid (Below w.heap.size w W) := by rw [← hbe]; exact Below.refl _ _
      have HS0 : Hid (SL W A n (fun j => .int .i64 (x j))) := by rw [← hbe]; exact HSL.out
      clear hbe
      go_wp2_with (first | (go_at_call 51; refine (specBy_any _ _ _ ).mono ?_; rintro e w' ⟨rfl, rfl⟩) | (go_at_call 58; refine (specRate_any _ _ ).mono ?_; rintro e w' ⟨rfl, rfl⟩) | (go_at_call 63; refine (specWay_any _ _ ).mono ?_; rintro e w' ⟨rfl, rfl⟩))
      go_ret2
      exact gave1_no HH.out HB0.out
    cases gd : wayB d
    · have HH := hide (show ¬ cdP x n r d from fun h => by rw [wayB_yes h.2.2] at gd; cases gd)
      go_enter Try.func35, Try.ntmps35
      go_wp2_with fail
      refine HA.out.mono ?_
      rw [HAT.out]
      rintro e W ⟨rfl, hbe⟩
      have HB0 : Hid (Below w.heap.size w W) := by rw [← hbe]; exact Below.refl _ _
      have HS0 : Hid (SL W A n (fun j => .int .i64 (x j))) := by rw [← hbe]; exact HSL.out
      clear hbe
      go_wp2_with (first | (go_at_call 51; refine (specBy_any _ _ _ ).mono ?_; rintro e w' ⟨rfl, rfl⟩) | (go_at_call 58; refine (specRate_any _ _ ).mono ?_; rintro e w' ⟨rfl, rfl⟩) | (go_at_call 63; refine (specWay_any _ _ ).mono ?_; rintro e w' ⟨rfl, rfl⟩))
      go_ret2
      exact gave1_no HH.out HB0.out
    have HR := hide (ratB_iff.1 gr)
    have HD := hide (wayB_iff.1 gd)
    have HH := hide (show cdP x n r d from ⟨HAL.out, HR.out, HD.out⟩)
    go_enter Try.func35, Try.ntmps35
    go_wp2_with fail
    refine HA.out.mono ?_
    rw [HAT.out]
    rintro e W ⟨rfl, hbe⟩
    have HB0 : Hid (Below w.heap.size w W) := by rw [← hbe]; exact Below.refl _ _
    have HS0 : Hid (SL W A n (fun j => .int .i64 (x j))) := by rw [← hbe]; exact HSL.out
    clear hbe
    go_wp2_with (first | (go_at_call 51; refine (specBy_any _ _ _ ).mono ?_; rintro e w' ⟨rfl, rfl⟩) | (go_at_call 58; refine (specRate_any _ _ ).mono ?_; rintro e w' ⟨rfl, rfl⟩) | (go_at_call 63; refine (specWay_any _ _ ).mono ?_; rintro e w' ⟨rfl, rfl⟩))
    clear gr gd
    have hst : (W.alloc (.cells #[] 2)).ownsRow W.heap.size 2 1 (.slice (some ⟨W.heap.size, 0, none⟩) 0 0) 0 [] :=
      ⟨by simp, .inr ⟨W.heap.size, 0, #[], rfl, Nat.le_refl _, new_at W _, Nat.le_refl 0, by unfold maxLen; omega, rfl, rfl⟩⟩
    have HBS := hide ((Below.refl W.heap.size W).alloc (Nat.le_refl _) (.cells #[] 2))
    have HO0 := hide hst
    clear hst
    have HC := cells_a HS0.out
    go_loopw [8, 9, 10, 11] (fun v b i _ wr => ∃ (k : Nat) (xs : List Value) (B : Int), k ≤ n ∧ i = .int .i64 k ∧ b = .int .i64 B ∧ 0 ≤ B ∧ B ≤ 1000000000000 ∧ Hid (B = chB x r d k) ∧ wr.ownsRow W.heap.size 2 1 v k xs ∧ Hid (∀ j, j < k → xs[j]? = some (.int .i64 (cdV x r d j))) ∧ Below W.heap.size W wr) (fun _ _ i _ _ => n - (intOf i).toNat)
    case atStart => exact ⟨0, [], 0, Nat.zero_le _, rfl, rfl, by omega, by omega, rfl, HO0.out, fun j hj => absurd hj (by omega), HBS.out⟩
    case round =>
      obtain ⟨k, xs, B, hk, rfl, rfl, B0, B1, hB, hown, hxs, hbel⟩ := hrel
      by_cases hlt : k < n
      · obtain ⟨b, off, rfl, hb, hc⟩ := HC.out k hlt
        have hc2 := (hbel.cell (p := ⟨b, off + k, none⟩) hb).trans hc
        have hsz := hbel.size
        obtain ⟨x0, x1⟩ := HAL.out.2 k hlt
        obtain ⟨d0, d1⟩ := duV_bd (r := d) x0 HR.out.1 HR.out.2
        have HV := hide (show duV (x k) r d - B = cdV x r d k by unfold cdV; rw [← hB.out])
        have HLL := hide (show xs.length = k by have := hown.1; omega)
        clear hc
        go_wp2_with fail
        refine (specDue4_any (x k) r d _ x0 (by omega) HR.out HD.out).mono ?_
        rintro e w' ⟨rfl, rfl⟩
        go_wp2_with (at_builtin; refine wpList_append_own _ rfl _ _ 45 rfl (W.heap.size) 2 i0 (.int .i64 0) 1 8 Try.underlying45 hi hz0 hz1 hz2 rfl (by decide) _ _ _ rfl (by exact (hown.alloc _)) ⟨_, 0, none⟩ 1 1 [.int .i64 (duV (x k) r d - B)] rfl rfl (cell_one_new _ _ _) (by intro u hu; simp at hu; subst hu; rfl) (by unfold maxLen; omega) (by omega) (by simp; omega) ?_)
        intro v' w5 hown' hgrow _
        have hb1 := (hbel.alloc (by omega) (.cells #[.int .i64 (duV (x k) r d - B)] 2)).grown hgrow (by simp; omega) (fun j hj => (hown.lt j hj).1)
        have HB1 := hide hb1
        have HON := hide hown'
        clear hgrow hown' hown hbel hc2 hb1
        go_wp2
        go_roundw
        case rel => exact ⟨k + 1, _, _, by omega, by go_num, rfl, by omega, by omega, rfl, HON.out, own_step HLL.out hxs.out (by rw [HV.out]), HB1.out⟩
        case measure => simp [intOf]; omega
      · obtain ⟨Gx, dx, rfl⟩ := own_shape hown
        have HN := hide (show k = n by omega)
        have HO := hide hown
        have HBEL := hide hbel
        clear hown hbel
        go_wp2
        go_ret2
        exact gave1_yes HH.out HN.out ((OW.of_owns HO.out hxs.out).wide HB0.out.size (Nat.le_refl _)) (HB0.out.trans (HBEL.out.mono HB0.out.size))
  · have HAT := hide (tru_no hall)
    have HH := hide (show ¬ cdP x n r d from fun h => hall h.1)
    clear hall
    go_enter Try.func35, Try.ntmps35
    go_wp2_with fail
    refine HA.out.mono ?_
    rw [HAT.out]
    rintro e W ⟨rfl, hbe⟩
    have HB0 : Hid (Below w.heap.size w W) := by rw [← hbe]; exact Below.refl _ _
    have HS0 : Hid (SL W A n (fun j => .int .i64 (x j))) := by rw [← hbe]; exact HSL.out
    clear hbe
    go_wp2_with (first | (go_at_call 51; refine (specBy_any _ _ _ ).mono ?_; rintro e w' ⟨rfl, rfl⟩) | (go_at_call 58; refine (specRate_any _ _ ).mono ?_; rintro e w' ⟨rfl, rfl⟩) | (go_at_call 63; refine (specWay_any _ _ ).mono ?_; rintro e w' ⟨rfl, rfl⟩))
    go_ret2
    exact gave1_no HH.out HB0.out
set_option maxRecDepth 100000 in
set_option maxHeartbeats 8000000 in
theorem implChain_any (A : Option Addr) (n c : Nat) (x : Nat → Int) (r d : Int) (w : World) (hn : n ≤ maxLen) (hs : SL w A n (fun j => .int .i64 (x j))) :
    Calls Try.prog 36 #[.slice A n c, .int .i64 r, .int .i64 d] w fun e w' => Gave1 w w' e (cdP x n r d) (n) (cdV x r d) := by
  obtain ⟨i0, hi, hz0, hz1, hz2⟩ := info_parts Try.info64
  unfold maxLen at hn
  have HA := hide (areAll_isAmount A n c x 1 16 w (by unfold maxLen; omega) hs)
  have HSL := hide hs
  clear hs
  by_cases hall : allP x n 1 16 0 1000000000000
  · have HAT := hide (tru_yes hall)
    have HAL := hide hall
    have n16 := hall.1.2
    clear hall
    cases gr : ratB r
    · have HH := hide (show ¬ cdP x n r d from fun h => by rw [ratB_yes h.2.1] at gr; cases gr)
      go_enter Try.func36, Try.ntmps36
      go_wp2_with (go_at_call 73; go_in)
      refine HA.out.mono ?_
      rw [HAT.out]
      rintro e W ⟨rfl, hb⟩
      have HB0 := hide hb
      have HS0 := hide (HSL.out.below hb)
      clear hb
      go_wp2_with (first | (go_at_call 54; refine (implRate_any _ _ ).mono ?_; rintro e w' ⟨rfl, rfl⟩) | (go_at_call 55; refine (implRound_any _ _ ).mono ?_; rintro e w' ⟨rfl, rfl⟩))
      go_ret2
      exact gave1_no HH.out HB0.out
    cases gd : wayB d
    · have HH := hide (show ¬ cdP x n r d from fun h => by rw [wayB_yes h.2.2] at gd; cases gd)
      go_enter Try.func36, Try.ntmps36
      go_wp2_with (go_at_call 73; go_in)
      refine HA.out.mono ?_
      rw [HAT.out]
      rintro e W ⟨rfl, hb⟩
      have HB0 := hide hb
      have HS0 := hide (HSL.out.below hb)
      clear hb
      go_wp2_with (first | (go_at_call 54; refine (implRate_any _ _ ).mono ?_; rintro e w' ⟨rfl, rfl⟩) | (go_at_call 55; refine (implRound_any _ _ ).mono ?_; rintro e w' ⟨rfl, rfl⟩))
      go_ret2
      exact gave1_no HH.out HB0.out
    have HR := hide (ratB_iff.1 gr)
    have HD := hide (wayB_iff.1 gd)
    have HH := hide (show cdP x n r d from ⟨HAL.out, HR.out, HD.out⟩)
    go_enter Try.func36, Try.ntmps36
    go_wp2_with (go_at_call 73; go_in)
    refine HA.out.mono ?_
    rw [HAT.out]
    rintro e W ⟨rfl, hb⟩
    have HB0 := hide hb
    have HS0 := hide (HSL.out.below hb)
    clear hb
    go_wp2_with (first | (at_make; refine wpList_make_own _ rfl _ _ 45 rfl W.heap.size 2 i0 (.int .i64 0) 1 Try.underlying45 hi hz0 hz1 _ _ _ n rfl rfl rfl (by rw [hz2]; omega) (by unfold maxLen; omega) (Nat.le_refl _) ?_; intro w2 hown0 hgrow0) | (first | (go_at_call 54; refine (implRate_any _ _ ).mono ?_; rintro e w' ⟨rfl, rfl⟩) | (go_at_call 55; refine (implRound_any _ _ ).mono ?_; rintro e w' ⟨rfl, rfl⟩)))
    have HBS := hide ((Below.refl W.heap.size W).grown hgrow0 (Nat.le_refl _) (fun k h => by cases h))
    have HO0 := hide hown0
    clear hown0 hgrow0 gr gd
    have HC := cells_a HS0.out
    go_loopw [8, 9, 11, 12, 23] (fun v b _ _ i wr => ∃ (k : Nat) (xs : List Value) (B : Int), k ≤ n ∧ i = .int .i64 k ∧ b = .int .i64 B ∧ 0 ≤ B ∧ B ≤ 1000000000000 ∧ Hid (B = chB x r d k) ∧ wr.ownsRow W.heap.size 2 1 v k xs ∧ Hid (∀ j, j < k → xs[j]? = some (.int .i64 (cdV x r d j))) ∧ Below W.heap.size W wr) (fun _ _ _ _ i _ => n - (intOf i).toNat)
    case atStart => exact ⟨0, [], 0, Nat.zero_le _, rfl, rfl, by omega, by omega, rfl, HO0.out, fun j hj => absurd hj (by omega), HBS.out⟩
    case round =>
      obtain ⟨k, xs, B, hk, rfl, rfl, B0, B1, hB, hown, hxs, hbel⟩ := hrel
      by_cases hlt : k < n
      · obtain ⟨b, off, rfl, hb, hc⟩ := HC.out k hlt
        have hc2 := (hbel.cell (p := ⟨b, off + k, none⟩) hb).trans hc
        have hsz := hbel.size
        obtain ⟨x0, x1⟩ := HAL.out.2 k hlt
        obtain ⟨d0, d1⟩ := duV_bd (r := d) x0 HR.out.1 HR.out.2
        have HV := hide (show duV (x k) r d - B = cdV x r d k by unfold cdV; rw [← hB.out])
        have HLL := hide (show xs.length = k by have := hown.1; omega)
        clear hc
        go_wp2_with fail
        refine (implDue4_any (x k) r d _ x0 (by omega) HR.out HD.out).mono ?_
        rintro e w' ⟨rfl, q, rfl⟩
        go_wp2_with (at_builtin; refine wpList_append_own _ rfl _ _ 45 rfl (W.heap.size) 2 i0 (.int .i64 0) 1 8 Try.underlying45 hi hz0 hz1 hz2 rfl (by decide) _ _ _ rfl (by exact (hown.alloc _)) ⟨_, 0, none⟩ 1 1 [.int .i64 (duV (x k) r d - B)] rfl rfl (cell_one_new _ _ _) (by intro u hu; simp at hu; subst hu; rfl) (by unfold maxLen; omega) (by omega) (by simp; omega) ?_)
        intro v' w5 hown' hgrow _
        have hb1 := ((bel_q hbel q).alloc (by simp; omega) (.cells #[.int .i64 (duV (x k) r d - B)] 2)).grown hgrow (by simp; omega) (fun j hj => (hown.lt j hj).1)
        have HB1 := hide hb1
        have HON := hide hown'
        clear hgrow hown' hown hbel hc2 hb1
        go_wp2
        go_roundw
        case rel => exact ⟨k + 1, _, _, by omega, by go_num, rfl, by omega, by omega, rfl, HON.out, own_step HLL.out hxs.out (by rw [HV.out]), HB1.out⟩
        case measure => simp [intOf]; omega
      · obtain ⟨Gx, dx, rfl⟩ := own_shape hown
        have HN := hide (show k = n by omega)
        have HO := hide hown
        have HBEL := hide hbel
        clear hown hbel
        go_wp2
        go_ret2
        exact gave1_yes HH.out HN.out ((OW.of_owns HO.out hxs.out).wide HB0.out.size (Nat.le_refl _)) (HB0.out.trans (HBEL.out.mono HB0.out.size))
  · have HAT := hide (tru_no hall)
    have HH := hide (show ¬ cdP x n r d from fun h => hall h.1)
    clear hall
    go_enter Try.func36, Try.ntmps36
    go_wp2_with (go_at_call 73; go_in)
    refine HA.out.mono ?_
    rw [HAT.out]
    rintro e W ⟨rfl, hb⟩
    have HB0 := hide hb
    have HS0 := hide (HSL.out.below hb)
    clear hb
    go_wp2_with (first | (go_at_call 54; refine (implRate_any _ _ ).mono ?_; rintro e w' ⟨rfl, rfl⟩) | (go_at_call 55; refine (implRound_any _ _ ).mono ?_; rintro e w' ⟨rfl, rfl⟩))
    go_ret2
    exact gave1_no HH.out HB0.out
end Go.Proofs.Ytfkndehhepplbaa
