/- LossRates, by both. -/
import Derived.Test.YtbcajjpgpjadaaaLi
namespace Go.Proofs.Ytbcajjpgpjadaaa
open Go.RowKit Go.Dues
def loA (x : Nat → Int) (s : Int) (k : Nat) : Int := (s - (x (k + 1) - x k)) * 10000
def loV (x : Nat → Int) (s : Int) (k : Nat) : Int := loA x s k / s
def loP (x : Nat → Int) (n : Nat) (s : Int) : Prop := allP x n 2 65 0 1000000000000 ∧ (1 ≤ s ∧ s ≤ 1000000)
theorem loA_bd {x : Nat → Int} {n : Nat} {s : Int} {k : Nat} (h : allP x n 2 65 0 1000000000000) (hs : 1 ≤ s ∧ s ≤ 1000000) (hk : k + 1 < n) : -10000000000000000 ≤ loA x s k ∧ loA x s k ≤ 10010000000000000 := by
  have h1 := h.2 k (by omega)
  have h2 := h.2 (k + 1) hk
  unfold loA; omega
theorem all12 {x : Nat → Int} {n : Nat} {most lo hi : Int} : allP x n 2 most lo hi ↔ allP x n 1 most lo hi ∧ 2 ≤ (n : Int) := by
  unfold allP
  constructor
  · intro h; exact ⟨⟨⟨by omega, h.1.2⟩, h.2⟩, h.1.1⟩
  · intro h; exact ⟨⟨h.2, h.1.1.2⟩, h.1.2⟩
theorem div_bd {a s : Int} (h0 : -20000000000000000 ≤ a) (h1 : a ≤ 20000000000000000) (hs : 1 ≤ s) : -20000000000000001 ≤ a / s ∧ a / s ≤ 20000000000000000 := by
  have e := Int.mul_ediv_add_emod a s
  have m0 : 0 ≤ a % s := Int.emod_nonneg _ (by omega)
  have m1 : a % s < s := Int.emod_lt_of_pos _ (by omega)
  constructor
  · rcases Int.lt_or_le (a / s) 0 with h | h
    · have h5 : s * (a / s) ≤ 1 * (a / s) := Int.mul_le_mul_of_nonpos_right hs (by omega)
      have h6 : a - s < s * (a / s) := by omega
      rcases Int.lt_or_le (a / s) (-20000000000000001) with h7 | h7
      · have h8 : s * (a / s) ≤ s * (-20000000000000002) := Int.mul_le_mul_of_nonneg_left (by omega) (by omega)
        omega
      · exact h7
    · omega
  · rcases Int.lt_or_le (a / s) 0 with h | h
    · omega
    · have h5 : 1 * (a / s) ≤ s * (a / s) := Int.mul_le_mul_of_nonneg_right hs h
      omega
set_option maxHeartbeats 4000000 in
theorem implDown_any (a s : Int) (w : World) (h0 : -20000000000000000 ≤ a) (h1 : a ≤ 20000000000000000) (s0 : 1 ≤ s) (s1 : s ≤ 1000000) :
    Calls Try.prog 171 #[.int .i64 a, .int .i64 s] w fun e w' => e = .returned (.int .i64 (a / s)) ∧ ∃ q, w' = w.drewN q := by
  have hne : ¬ s = 0 := by omega
  obtain ⟨d0, d1⟩ := div_bd h0 h1 s0
  by_cases hneg : a < 0
  · have HE := hide (down_impl (a := a) s0)
    have r0 : -20000000000000001 ≤ rnd (-a) s 3 ∧ rnd (-a) s 3 ≤ 20000000000000001 := by have := HE.out; omega
    obtain ⟨r1, r2⟩ := r0
    have HR := hide (implRounded_any (-a) s 3 w (by omega) (by omega) s0 (by omega) (by omega))
    go_enter Try.func171, Try.ntmps171
    go_wp2_with fail
    refine HR.out.mono ?_
    rintro e w' ⟨rfl, q, rfl⟩
    go_wp2
    go_ret
    exact ⟨reti HE.out.symm, _, rfl⟩
  · have ha0 : 0 ≤ a := by omega
    go_enter Try.func171, Try.ntmps171
    go_wp2
    go_ret
    exact ⟨rfl, 0, rfl⟩
set_option maxRecDepth 100000 in
set_option maxHeartbeats 8000000 in
theorem implLoss_any (A : Option Addr) (n _n : Nat) (x : Nat → Int) (s : Int) (w : World) (hn : n ≤ maxLen) (hs : SL w A n (fun j => .int .i64 (x j))) :
    Calls Try.prog 80 #[.slice A n n, .int .i64 s] w fun e w' => Gave1 w w' e (loP x n s) (n - 1) (loV x s) := by
  obtain ⟨i0, hi, hz0, hz1, hz2⟩ := info_parts Try.info64
  unfold maxLen at hn
  have HA := hide (areAll_isAmount A n n x 2 65 w (by unfold maxLen; omega) hs)
  have HSL := hide hs
  clear hs
  by_cases hall : allP x n 2 65 0 1000000000000
  · have HAT := hide (tru_yes hall)
    have HAL := hide hall
    have n65 := hall.1.2
    have n1 := hall.1.1
    clear hall
    have HAL2 := HAL
    have h2 := n1
    obtain ⟨b, off, hAe, hb, -⟩ := (cells_a HSL.out).out 0 (by omega)
    subst hAe
    cases gs : inB s 1 1000000
    · have HH := hide (show ¬ loP x n s from fun h => by rw [inB_yes h.2] at gs; cases gs)
      go_enter Try.func80, Try.ntmps80
      go_wp2_with (first | (go_at_call 170; go_in) | (go_at_call 182; fail))
      refine HA.out.mono ?_
      rw [HAT.out]
      rintro e W ⟨rfl, hb⟩
      have HB0 := hide hb
      have HS0 := hide (HSL.out.below hb)
      clear hb
      go_wp2_with (first | (go_at_call 96; refine (implWithin_any _ _ _ _ ).mono ?_; rintro e w' ⟨rfl, rfl⟩))
      go_ret2
      exact gave1_no HH.out HB0.out
    obtain ⟨s0, s1⟩ := inB_iff.1 gs
    have HS := hide (inB_iff.1 gs)
    have hne : ¬ s = 0 := by omega
    have HH := hide (show loP x n s from ⟨HAL2.out, HS.out⟩)
    go_enter Try.func80, Try.ntmps80
    go_wp2_with (first | (go_at_call 170; go_in) | (go_at_call 182; fail))
    refine HA.out.mono ?_
    rw [HAT.out]
    rintro e W ⟨rfl, hb⟩
    have HB0 := hide hb
    have HS0 := hide (HSL.out.below hb)
    clear hb
    obtain ⟨m, hm⟩ : ∃ m : Nat, n = m + 1 := ⟨n - 1, by omega⟩
    have hm1 : (n : Int) - 1 = (m : Int) := by omega
    go_wp2_with (first | (at_make; refine wpList_make_own _ rfl _ _ 22 rfl W.heap.size 2 i0 (.int .i64 0) 1 Try.underlying22 hi hz0 hz1 _ _ _ m rfl rfl rfl (by rw [hz2]; omega) (by unfold maxLen; omega) (Nat.le_refl _) ?_; intro w2 hown0 hgrow0) | (first | (go_at_call 96; refine (implWithin_any _ _ _ _ ).mono ?_; rintro e w' ⟨rfl, rfl⟩)))
    have HBS := hide ((Below.refl W.heap.size W).grown hgrow0 (Nat.le_refl _) (fun k h => by cases h))
    have HO0 := hide hown0
    clear hown0 hgrow0 gs
    have HC := cells_a HS0.out
    subst hm
    go_wp2
    go_loopw [6, 7, 8, 9, 25] (fun v _ _ _ i wr => ∃ (k : Nat) (xs : List Value), k ≤ m ∧ i = .int .i64 k ∧ wr.ownsRow W.heap.size 2 1 v k xs ∧ Hid (∀ j, j < k → xs[j]? = some (.int .i64 (loV x s j))) ∧ Below W.heap.size W wr) (fun _ _ _ _ i _ => m - (intOf i).toNat)
    case atStart => exact ⟨0, [], by omega, rfl, HO0.out, fun j hj => absurd hj (by omega), HBS.out⟩
    case round =>
      obtain ⟨k, xs, hk, rfl, hown, hxs, hbel⟩ := hrel
      by_cases hlt : k < m
      · obtain ⟨b1, off1, hA1, hb, hc⟩ := HC.out k (by omega)
        injection hA1 with hA1
        injection hA1 with hA1 hA12
        subst hA1 hA12
        obtain ⟨b2, off2, hA, hb2, hcc⟩ := HC.out (k + 1) (by omega)
        injection hA with hA
        injection hA with hA hA2
        subst hA hA2
        have hc2 := (hbel.cell (p := ⟨b, off + k, none⟩) hb).trans hc
        have hc3 := (hbel.cell (p := ⟨b, off + (k + 1), none⟩) hb).trans hcc
        have hc4 : wr.cell? ⟨b, off + 1 + k, none⟩ = some (.int .i64 (x (k + 1))) := by rw [show off + 1 + k = off + (k + 1) by omega]; exact hc3
        have hsz := hbel.size
        obtain ⟨x0, x1⟩ := HAL.out.2 k (by omega)
        obtain ⟨y0, y1⟩ := HAL.out.2 (k + 1) (by omega)
        have HLL := hide (show xs.length = k by have := hown.1; omega)
        obtain ⟨a0, a1⟩ := loA_bd HAL2.out HS.out (show k + 1 < m + 1 by omega)
        have HQ := hide (fun w => implDown_any (loA x s k) s w (by omega) (by omega) s0 s1)
        have HV := hide (show loA x s k / s = loV x s k from rfl)
        unfold loA at HQ HV a0 a1
        clear hc hcc
        go_wp2_with fail
        refine (HQ.out _).mono ?_
        rintro e w' ⟨rfl, q, rfl⟩
        rw [HV.out]
        go_wp2_with (at_builtin; refine wpList_append_own _ rfl _ _ 22 rfl (W.heap.size) 2 i0 (.int .i64 0) 1 8 Try.underlying22 hi hz0 hz1 hz2 rfl (by decide) _ _ _ rfl (by exact (hown.alloc _)) ⟨_, 0, none⟩ 1 1 [.int .i64 (loV x s k)] rfl rfl (cell_one_new _ _ _) (by intro u hu; simp at hu; subst hu; rfl) (by unfold maxLen; omega) (by omega) (by simp; omega) ?_)
        intro v' w5 hown' hgrow _
        have hb1 := ((bel_q hbel q).alloc (by simp; omega) (.cells #[.int .i64 (loV x s k)] 2)).grown hgrow (by simp; omega) (fun j hj => (hown.lt j hj).1)
        have HB1 := hide hb1
        have HON := hide hown'
        clear hgrow hown' hown hbel hc2 hc3 hc4 hb1
        go_wp2
        go_roundw
        case rel => exact ⟨k + 1, _, by omega, by go_num, HON.out, own_step HLL.out hxs.out rfl, HB1.out⟩
        case measure => simp [intOf]; omega
      · obtain ⟨Gx, dx, rfl⟩ := own_shape hown
        have HN := hide (show k = m + 1 - 1 by omega)
        have HO := hide hown
        have HBEL := hide hbel
        clear hown hbel
        go_wp2
        go_ret2
        exact gave1_yes HH.out HN.out ((OW.of_owns HO.out hxs.out).wide HB0.out.size (Nat.le_refl _)) (HB0.out.trans (HBEL.out.mono HB0.out.size))
  · have HAT := hide (tru_no hall)
    have HH := hide (show ¬ loP x n s from fun h => hall h.1)
    clear hall
    go_enter Try.func80, Try.ntmps80
    go_wp2_with (first | (go_at_call 170; go_in) | (go_at_call 182; fail))
    refine HA.out.mono ?_
    rw [HAT.out]
    rintro e W ⟨rfl, hb⟩
    have HB0 := hide hb
    have HS0 := hide (HSL.out.below hb)
    clear hb
    go_wp2_with (first | (go_at_call 96; refine (implWithin_any _ _ _ _ ).mono ?_; rintro e w' ⟨rfl, rfl⟩))
    go_ret2
    exact gave1_no HH.out HB0.out
end Go.Proofs.Ytbcajjpgpjadaaa
