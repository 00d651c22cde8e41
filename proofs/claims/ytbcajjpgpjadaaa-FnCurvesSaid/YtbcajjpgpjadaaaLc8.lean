/- Losses and traps of nets whose list has room behind it. -/
import Derived.Test.YtbcajjpgpjadaaaLo
import Derived.Test.YtbcajjpgpjadaaaWt
namespace Go.Proofs.Ytbcajjpgpjadaaa
open Go.RowKit Go.Dues
set_option maxRecDepth 100000 in
set_option maxHeartbeats 8000000 in
theorem implLossC_any (A : Option Addr) (n c : Nat) (hnc : n ≤ c) (hcm : c ≤ maxLen) (x : Nat → Int) (s : Int) (w : World) (hn : n ≤ maxLen) (hs : SL w A n (fun j => .int .i64 (x j))) :
    Calls Try.prog 80 #[.slice A n c, .int .i64 s] w fun e w' => Gave1 w w' e (loP x n s) (n - 1) (loV x s) := by
  obtain ⟨i0, hi, hz0, hz1, hz2⟩ := info_parts Try.info64
  unfold maxLen at hn hcm
  have hci : (n : Int) ≤ (c : Int) := by omega
  have HA := hide (areAll_isAmount A n c x 2 65 w (by unfold maxLen; omega) hs)
  have HSL := hide hs
  clear hs
  by_cases hall : allP x n 2 65 0 1000000000000
  · have HAT := hide (tru_yes hall)
    have HAL := hide hall
    have n65 := hall.1.2
    have n1 := hall.1.1
    clear hall
    have HAL2 := HAL
    have h2 := n1
    obtain ⟨b, off, hAe, hb, -⟩ := (cells_a HSL.out).out 0 (by omega)
    subst hAe
    cases gs : inB s 1 1000000
    · have HH := hide (show ¬ loP x n s from fun h => by rw [inB_yes h.2] at gs; cases gs)
      go_enter Try.func80, Try.ntmps80
      go_wp2_with (first | (go_at_call 170; go_in) | (go_at_call 182; fail))
      refine HA.out.mono ?_
      rw [HAT.out]
      rintro e W ⟨rfl, hb⟩
      have HB0 := hide hb
      have HS0 := hide (HSL.out.below hb)
      clear hb
      go_wp2_with (first | (go_at_call 96; refine (implWithin_any _ _ _ _ ).mono ?_; rintro e w' ⟨rfl, rfl⟩))
      go_ret2
      exact gave1_no HH.out HB0.out
    obtain ⟨s0, s1⟩ := inB_iff.1 gs
    have HS := hide (inB_iff.1 gs)
    have hne : ¬ s = 0 := by omega
    have HH := hide (show loP x n s from ⟨HAL2.out, HS.out⟩)
    go_enter Try.func80, Try.ntmps80
    go_wp2_with (first | (go_at_call 170; go_in) | (go_at_call 182; fail))
    refine HA.out.mono ?_
    rw [HAT.out]
    rintro e W ⟨rfl, hb⟩
    have HB0 := hide hb
    have HS0 := hide (HSL.out.below hb)
    clear hb
    obtain ⟨m, hm⟩ : ∃ m : Nat, n = m + 1 := ⟨n - 1, by omega⟩
    have hm1 : (n : Int) - 1 = (m : Int) := by omega
    go_wp2_with (first | (at_make; refine wpList_make_own _ rfl _ _ 22 rfl W.heap.size 2 i0 (.int .i64 0) 1 Try.underlying22 hi hz0 hz1 _ _ _ m rfl rfl rfl (by rw [hz2]; omega) (by unfold maxLen; omega) (Nat.le_refl _) ?_; intro w2 hown0 hgrow0) | (first | (go_at_call 96; refine (implWithin_any _ _ _ _ ).mono ?_; rintro e w' ⟨rfl, rfl⟩)))
    have HBS := hide ((Below.refl W.heap.size W).grown hgrow0 (Nat.le_refl _) (fun k h => by cases h))
    have HO0 := hide hown0
    clear hown0 hgrow0 gs
    have HC := cells_a HS0.out
    subst hm
    go_wp2
    go_loopw [6, 7, 8, 9, 25] (fun v _ _ _ i wr => ∃ (k : Nat) (xs : List Value), k ≤ m ∧ i = .int .i64 k ∧ wr.ownsRow W.heap.size 2 1 v k xs ∧ Hid (∀ j, j < k → xs[j]? = some (.int .i64 (loV x s j))) ∧ Below W.heap.size W wr) (fun _ _ _ _ i _ => m - (intOf i).toNat)
    case atStart => exact ⟨0, [], by omega, rfl, HO0.out, fun j hj => absurd hj (by omega), HBS.out⟩
    case round =>
      obtain ⟨k, xs, hk, rfl, hown, hxs, hbel⟩ := hrel
      by_cases hlt : k < m
      · obtain ⟨b1, off1, hA1, hb, hc⟩ := HC.out k (by omega)
        injection hA1 with hA1
        injection hA1 with hA1 hA12
        subst hA1 hA12
        obtain ⟨b2, off2, hA, hb2, hcc⟩ := HC.out (k + 1) (by omega)
        injection hA with hA
        injection hA with hA hA2
        subst hA hA2
        have hc2 := (hbel.cell (p := ⟨b, off + k, none⟩) hb).trans hc
        have hc3 := (hbel.cell (p := ⟨b, off + (k + 1), none⟩) hb).trans hcc
        have hc4 : wr.cell? ⟨b, off + 1 + k, none⟩ = some (.int .i64 (x (k + 1))) := by rw [show off + 1 + k = off + (k + 1) by omega]; exact hc3
        have hsz := hbel.size
        obtain ⟨x0, x1⟩ := HAL.out.2 k (by omega)
        obtain ⟨y0, y1⟩ := HAL.out.2 (k + 1) (by omega)
        have HLL := hide (show xs.length = k by have := hown.1; omega)
        obtain ⟨a0, a1⟩ := loA_bd HAL2.out HS.out (show k + 1 < m + 1 by omega)
        have HQ := hide (fun w => implDown_any (loA x s k) s w (by omega) (by omega) s0 s1)
        have HV := hide (show loA x s k / s = loV x s k from rfl)
        unfold loA at HQ HV a0 a1
        clear hc hcc
        go_wp2_with fail
        refine (HQ.out _).mono ?_
        rintro e w' ⟨rfl, q, rfl⟩
        rw [HV.out]
        go_wp2_with (at_builtin; refine wpList_append_own _ rfl _ _ 22 rfl (W.heap.size) 2 i0 (.int .i64 0) 1 8 Try.underlying22 hi hz0 hz1 hz2 rfl (by decide) _ _ _ rfl (by exact (hown.alloc _)) ⟨_, 0, none⟩ 1 1 [.int .i64 (loV x s k)] rfl rfl (cell_one_new _ _ _) (by intro u hu; simp at hu; subst hu; rfl) (by unfold maxLen; omega) (by omega) (by simp; omega) ?_)
        intro v' w5 hown' hgrow _
        have hb1 := ((bel_q hbel q).alloc (by simp; omega) (.cells #[.int .i64 (loV x s k)] 2)).grown hgrow (by simp; omega) (fun j hj => (hown.lt j hj).1)
        have HB1 := hide hb1
        have HON := hide hown'
        clear hgrow hown' hown hbel hc2 hc3 hc4 hb1
        go_wp2
        go_roundw
        case rel => exact ⟨k + 1, _, by omega, by go_num, HON.out, own_step HLL.out hxs.out rfl, HB1.out⟩
        case measure => simp [intOf]; omega
      · obtain ⟨Gx, dx, rfl⟩ := own_shape hown
        have HN := hide (show k = m + 1 - 1 by omega)
        have HO := hide hown
        have HBEL := hide hbel
        clear hown hbel
        go_wp2
        go_ret2
        exact gave1_yes HH.out HN.out ((OW.of_owns HO.out hxs.out).wide HB0.out.size (Nat.le_refl _)) (HB0.out.trans (HBEL.out.mono HB0.out.size))
  · have HAT := hide (tru_no hall)
    have HH := hide (show ¬ loP x n s from fun h => hall h.1)
    clear hall
    go_enter Try.func80, Try.ntmps80
    go_wp2_with (first | (go_at_call 170; go_in) | (go_at_call 182; fail))
    refine HA.out.mono ?_
    rw [HAT.out]
    rintro e W ⟨rfl, hb⟩
    have HB0 := hide hb
    have HS0 := hide (HSL.out.below hb)
    clear hb
    go_wp2_with (first | (go_at_call 96; refine (implWithin_any _ _ _ _ ).mono ?_; rintro e w' ⟨rfl, rfl⟩))
    go_ret2
    exact gave1_no HH.out HB0.out
set_option maxRecDepth 100000 in
set_option maxHeartbeats 8000000 in
theorem implTrapC_any (A : Option Addr) (n c : Nat) (hnc : n ≤ c) (hcm : c ≤ maxLen) (x : Nat → Int) (w : World) (hn : n ≤ maxLen) (hs : SL w A n (fun j => .int .i64 (x j))) :
    Calls Try.prog 81 #[.slice A n c] w fun e w' => e = .returned (.tuple #[.int .i64 (ifV (wtP x n) (trI x n : Nat)), .int .i64 (ifV (wtP x n) (trM x n)), .bool (tru (wtP x n))]) ∧ Below w.heap.size w w' := by
  obtain ⟨i0, hi, hz0, hz1, hz2⟩ := info_parts Try.info64
  have HA := hide (implNets_any A n c x w hn hs)
  unfold maxLen at hn hcm
  have hci : (n : Int) ≤ (c : Int) := by omega
  have HSL := hide hs
  clear hs
  by_cases hall : allP x n 2 65 0 1000000000000
  · have HAT := hide (tru_yes hall)
    have HAL := hide hall
    have n65 := hall.1.2
    have n1 := hall.1.1
    clear hall
    obtain ⟨b, off, hAe, hb, -⟩ := (cells_a HSL.out).out 0 (by omega)
    subst hAe
    go_enter Try.func81, Try.ntmps81
    go_wp2_with fail
    refine HA.out.mono ?_
    rw [HAT.out]
    rintro e W ⟨rfl, hbw⟩
    have HB0 := hide hbw
    have HS0 := hide (HSL.out.below hbw)
    clear hbw
    have HC := cells_a HS0.out
    go_wp2_with (at_make; refine wpList_make_full _ rfl _ _ 22 rfl W.heap.size 2 i0 (.int .i64 0) 1 Try.underlying22 hi hz0 hz1 _ _ _ _ n rfl rfl rfl rfl (by rw [hz2]; omega) (by unfold maxLen; omega) (Nat.le_refl _) ?_; intro w2 hown0 hgrow0)
    have HB2 := hide ((Below.refl W.heap.size W).grown hgrow0 (Nat.le_refl _) (fun k h => by cases h))
    have HO0 := hide hown0
    clear hown0 hgrow0
    go_loopw [6, 7, 8, 9, 19] (fun _ _ _ _ ii wr => ∃ (i : Nat) (xs : List Value), i ≤ n ∧ ii = .int .i64 i ∧ wr.ownsRow W.heap.size 2 1 (.slice (some ⟨W.heap.size, 0, none⟩) n n) n xs ∧ Hid (∀ j, j < i → xs[j]? = some (.int .i64 (trL x n j))) ∧ Hid (∀ j, i ≤ j → j < n → xs[j]? = some (.int .i64 0)) ∧ Below W.heap.size W wr) (fun _ _ _ _ ii _ => n - (intOf ii).toNat)
    case atStart => exact ⟨0, _, Nat.zero_le _, rfl, HO0.out, (fun j hj => absurd hj (by omega)), (fun j _ hj => by
      rw [Nat.mul_one, show (Value.int .i64 0).cells = #[Value.int .i64 0] from rfl, toList_madeCells_one, List.getElem?_replicate, if_pos hj]), HB2.out⟩
    case round =>
      obtain ⟨i, xs, hi', rfl, hown, hxs, hzs, hbel⟩ := hrel
      by_cases hlt : i < n
      · obtain ⟨b1, off1, hA1, hb1, hci⟩ := HC.out i hlt
        injection hA1 with hA1
        injection hA1 with hA1 hA12
        subst hA1 hA12
        have hcw := (hbel.cell (p := ⟨b, off + i, none⟩) hb1).trans hci
        have HOWN := hide hown
        have HBEL := hide hbel
        have HX0 := hide (show xs[i]? = some (.int .i64 (lnK x i 0 : Nat)) from hzs.out i (Nat.le_refl _) hlt)
        have HX1 := hide (show ∀ j, i + 1 ≤ j → j < n → xs[j]? = some (.int .i64 0) from fun j h1 h2 => hzs.out j (by omega) h2)
        clear hown hbel hzs hci
        go_wp2
        clear hcw
        go_loopw [8, 9, 28] (fun _ _ kk wr => ∃ (m : Nat) (xs : List Value), m ≤ n - i ∧ kk = .int .i64 m ∧ wr.ownsRow W.heap.size 2 1 (.slice (some ⟨W.heap.size, 0, none⟩) n n) n xs ∧ Hid (∀ j, j < i → xs[j]? = some (.int .i64 (trL x n j))) ∧ Hid (xs[i]? = some (.int .i64 (lnK x i m : Nat))) ∧ Hid (∀ j, i + 1 ≤ j → j < n → xs[j]? = some (.int .i64 0)) ∧ Below W.heap.size W wr) (fun _ _ kk _ => (n - i) - (intOf kk).toNat)
        case atStart => exact ⟨0, xs, Nat.zero_le _, rfl, HOWN.out, hxs.out, HX0.out, HX1.out, HBEL.out⟩
        case round =>
          clear HOWN HBEL HX0 HX1 hxs
          obtain ⟨m, xs, hm, rfl, hown, hxs, hxi, hzs, hbel⟩ := hrel
          by_cases hlt2 : m < n - i
          · obtain ⟨b2, off2, hA2, hb2, hck⟩ := HC.out (i + m) (by omega)
            injection hA2 with hA2
            injection hA2 with hA2 hA22
            subst hA2 hA22
            have hck2 : wr.cell? ⟨b, off + i + m, none⟩ = some (.int .i64 (x (i + m))) := by
              rw [Nat.add_assoc]; exact (hbel.cell (p := ⟨b, off + (i + m), none⟩) hb2).trans hck
            have hlt3 : (m : Int) < ((n - i : Nat) : Int) := by omega
            have HBEL := hide hbel
            have HLL := hide (show xs.length = n by have := hown.1; omega)
            clear hck
            by_cases hx : x (i + m) ≤ x i
            · obtain ⟨u, hu⟩ : ∃ u, xs[i]? = some u := ⟨_, hxi.out⟩
              have hold : wr.cell? ⟨W.heap.size, i, none⟩ = some u := (hown.cellAt i (by omega)).trans hu
              have hfr := hown.frozenAt i
              have HST := hide (World.ownsRow.stored (w := wr) hown i (.int .i64 (m : Int)))
              have HY := hide (lnK_yes (x := x) (i := i) (m := m) hx)
              clear hu hbel hown
              go_wp2
              go_roundw
              case rel => exact ⟨m + 1, xs.set i (.int .i64 (m : Int)), by omega, by go_num, HST.out.1, (fun j hj => by rw [List.getElem?_set_ne (by omega)]; exact hxs.out j hj), (show (xs.set i (.int .i64 (m : Int)))[i]? = some (.int .i64 (lnK x i (m + 1) : Nat)) by rw [List.getElem?_set_self (by have := HLL.out; omega), HY.out]), (fun j h1 h2 => by rw [List.getElem?_set_ne (by omega)]; exact hzs.out j h1 h2), HBEL.out.grown HST.out.2 HBEL.out.size (fun j hj => by injection hj with hj; omega)⟩
              case measure => simp [intOf]; omega
            · have HY := hide (lnK_no (x := x) (i := i) (m := m) hx)
              have hxd : decide (x (i + m) ≤ x i) = false := decide_eq_false hx
              have HOWN := hide hown
              clear hx hbel hown
              go_wp2
              go_roundw
              case rel => exact ⟨m + 1, xs, by omega, by go_num, HOWN.out, hxs.out, (show xs[i]? = some (.int .i64 (lnK x i (m + 1) : Nat)) by rw [HY.out]; exact hxi.out), hzs.out, HBEL.out⟩
              case measure => simp [intOf]; omega
          · obtain rfl : m = n - i := by omega
            have hlt3 : ¬ ((n - i : Nat) : Int) < ((n - i : Nat) : Int) := by omega
            have HOWN := hide hown
            have HBEL := hide hbel
            clear hown hbel
            go_wp2
            go_roundw
            case rel => exact ⟨i + 1, xs, by omega, by go_num, HOWN.out, (fun j hj => by
              by_cases hji : j = i
              · subst hji; exact hxi.out
              · exact hxs.out j (by omega)), (fun j h1 h2 => hzs.out j h1 h2), HBEL.out⟩
            case measure => simp [intOf]; omega
      · obtain rfl : i = n := by omega
        have HOS := hide (OW.of_owns hown hxs.out).sl
        have HBEL := hide (HB0.out.trans (hbel.mono HB0.out.size))
        have HLT := hide (bX_lt (trL x i) (n := i) (by omega))
        have HCL := cells_a HOS.out
        have HTB := hide (trL_bd x i (trI x i))
        obtain ⟨ti, hti⟩ : ∃ ti, trI x i = ti := ⟨_, rfl⟩
        obtain ⟨gb, goff, hgA, hgb, hgc⟩ := HCL.out ti (by rw [← hti]; exact HLT.out)
        injection hgA with hgA
        injection hgA with hgA hgA2
        subst hgA hgA2
        have hgc2 : wr.cell? ⟨W.heap.size, ti, none⟩ = some (.int .i64 (trL x i ti)) := by rw [Nat.zero_add] at hgc; exact hgc
        have htik : (ti : Int) < (i : Int) := by have := HLT.out; have : trI x i < i := HLT.out; omega
        have HTI := hide hti
        obtain ⟨tm, htm⟩ : ∃ tm, trL x i ti = tm := ⟨_, rfl⟩
        rw [htm] at hgc2 hgc
        rw [hti, htm] at HTB
        have HTM := hide (show trM x i = tm by show trL x i (trI x i) = tm; rw [hti, htm])
        clear hown hbel hti htm
        by_cases hz : tm = 0
        · have HH := hide (show ¬ wtP x i from fun h => by have := h.2; rw [HTM.out] at this; omega)
          subst hz
          go_wp2_with fail
          refine (implfirstGreatest_any _ _ _ _ _ (by omega) (by omega) HOS.out).mono ?_
          rw [show bX (trL x i) i = ti from HTI.out]
          rintro e w' ⟨rfl, rfl⟩
          go_wp2
          go_ret3
          exact ⟨wtn3 HH.out, HBEL.out⟩
        · have HH := hide (show wtP x i from ⟨HAL.out, by rw [HTM.out]; have := HTB.out.1; omega⟩)
          have hzb : (tm == 0) = false := by rw [beq_eq_false_iff_ne]; exact hz
          clear hz
          go_wp2_with fail
          refine (implfirstGreatest_any _ _ _ _ _ (by omega) (by omega) HOS.out).mono ?_
          rw [show bX (trL x i) i = ti from HTI.out]
          rintro e w' ⟨rfl, rfl⟩
          go_wp2
          go_quiet (fail)
          go_wp2
          go_ret3
          exact ⟨wty3 HH.out (by rw [HTI.out]) HTM.out.symm, bel_q HBEL.out _⟩
  · have HAT := hide (tru_no hall)
    have HH := hide (show ¬ wtP x n from fun h => hall h.1)
    clear hall
    go_enter Try.func81, Try.ntmps81
    go_wp2_with fail
    refine HA.out.mono ?_
    rw [HAT.out]
    rintro e W ⟨rfl, hbw⟩
    have HB0 := hide hbw
    have HS0 := hide (HSL.out.below hbw)
    clear hbw
    go_wp2
    go_ret3
    exact ⟨wtn3 HH.out, HB0.out⟩
end Go.Proofs.Ytbcajjpgpjadaaa
