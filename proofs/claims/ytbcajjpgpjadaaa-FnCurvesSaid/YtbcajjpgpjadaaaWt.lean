/- WorstTrap, by both. -/
import Derived.Test.YtbcajjpgpjadaaaLo
import Derived.Test.YtbcajjpgpjadaaaGl
namespace Go.Proofs.Ytbcajjpgpjadaaa
open Go.RowKit Go.Dues
def wtP (x : Nat → Int) (n : Nat) : Prop := allP x n 2 65 0 1000000000000 ∧ 0 < trM x n
theorem wt3 {p : Prop} {v w v2 w2 : Int} {b : Bool} (h : v = w) (h2 : v2 = w2) (h3 : b = tru p) : Ending.returned (.tuple #[.int .i64 v, .int .i64 v2, .bool b]) = .returned (.tuple #[.int .i64 w, .int .i64 w2, .bool (tru p)]) := by rw [h, h2, h3]
theorem wtn3 {p : Prop} {v w : Int} (h : ¬ p) : Ending.returned (.tuple #[.int .i64 0, .int .i64 0, .bool false]) = .returned (.tuple #[.int .i64 (ifV p v), .int .i64 (ifV p w), .bool (tru p)]) := wt3 (ifV_no h).symm (ifV_no h).symm (tru_no h).symm
theorem wty3 {p : Prop} {v w v2 w2 : Int} (h : p) (h1 : v = v2) (h2 : w = w2) : Ending.returned (.tuple #[.int .i64 v, .int .i64 w, .bool true]) = .returned (.tuple #[.int .i64 (ifV p v2), .int .i64 (ifV p w2), .bool (tru p)]) := wt3 (h1.trans (ifV_yes h).symm) (h2.trans (ifV_yes h).symm) (tru_yes h).symm
/-- the reference's state within the row i, when m places have been looked at -/
def wtM (x : Nat → Int) (n i m : Nat) : Int := max (trW x n i) (lnK x i m : Nat)
def wtB (x : Nat → Int) (n i m : Nat) : Int := if trW x n i < (lnK x i m : Nat) then (i : Int) else (trB x n i : Nat)
theorem wt_start (x : Nat → Int) (n i : Nat) : wtM x n i 1 = trW x n i ∧ wtB x n i 1 = (trB x n i : Nat) := by
  have h := trW_max x n i
  have e : lnK x i 1 = 0 := by have := lnK_le x i 1; omega
  unfold wtM wtB
  rw [e]
  refine ⟨by omega, ?_⟩
  rw [if_neg (by omega)]
theorem wt_bd {x : Nat → Int} {n i m : Nat} (h : i + m ≤ n) (hi : i < n) : 0 ≤ wtM x n i m ∧ wtM x n i m ≤ n ∧ 0 ≤ wtB x n i m ∧ wtB x n i m ≤ n := by
  have h1 := trW_max x n i
  have h2 := lnK_le x i m
  have h3 := bX_le (trL x n) i
  have h4 : trB x n i ≤ i := h3
  unfold wtM wtB
  refine ⟨by omega, by omega, ?_, ?_⟩
  · split <;> omega
  · split <;> omega
theorem wt_up {x : Nat → Int} {n i m : Nat} (hx : x (i + m) ≤ x i) (h : wtM x n i m < m) : wtM x n i (m + 1) = m ∧ wtB x n i (m + 1) = i := by
  have e := lnK_yes (x := x) (i := i) (m := m) hx
  unfold wtM wtB at *
  rw [e]
  refine ⟨by omega, ?_⟩
  rw [if_pos (by omega)]
theorem wt_same {x : Nat → Int} {n i m : Nat} (hm : 1 ≤ m) (hx : x (i + m) ≤ x i) (h : ¬ wtM x n i m < m) : wtM x n i (m + 1) = wtM x n i m ∧ wtB x n i (m + 1) = wtB x n i m := by
  have e := lnK_yes (x := x) (i := i) (m := m) hx
  have h2 := lnK_le x i m
  unfold wtM wtB at *
  rw [e]
  refine ⟨by omega, ?_⟩
  rw [if_neg (by omega), if_neg (by omega)]
theorem wt_no {x : Nat → Int} {n i m : Nat} (hx : ¬ x (i + m) ≤ x i) : wtM x n i (m + 1) = wtM x n i m ∧ wtB x n i (m + 1) = wtB x n i m := by
  have e := lnK_no (x := x) (i := i) (m := m) hx
  unfold wtM wtB
  rw [e]
  exact ⟨rfl, rfl⟩
theorem wt_end {x : Nat → Int} {n i : Nat} : wtM x n i (n - i) = trW x n (i + 1) ∧ wtB x n i (n - i) = (trB x n (i + 1) : Nat) := by
  have h := trW_succ x n i
  have e : trL x n i = (lnK x i (n - i) : Nat) := rfl
  unfold wtM wtB
  rw [h.1, h.2, e]
  refine ⟨rfl, ?_⟩
  split <;> rfl
theorem wt_all {x : Nat → Int} {n : Nat} (h : 1 ≤ n) : trW x n n = trM x n ∧ trB x n n = trI x n := by
  refine ⟨?_, rfl⟩
  unfold trW
  rw [if_neg (by omega)]
  rfl
set_option maxHeartbeats 2000000 in
theorem implNets_any (A : Option Addr) (n c : Nat) (x : Nat → Int) (w : World) (hn : n ≤ maxLen) (hs : SL w A n (fun j => .int .i64 (x j))) :
    Calls Try.prog 170 #[.slice A n c] w fun e w' => e = .returned (.bool (tru (allP x n 2 65 0 1000000000000))) ∧ Below w.heap.size w w' := by
  have HA := hide (areAll_isAmount A n c x 2 65 w hn hs)
  clear hs hn
  go_enter Try.func170, Try.ntmps170
  go_wp2_with fail
  refine HA.out.mono ?_
  rintro e w1 ⟨rfl, hb⟩
  have HB := hide hb
  clear hb
  go_wp2
  go_ret
  exact ⟨rfl, HB.out⟩
set_option maxRecDepth 100000 in
set_option maxHeartbeats 8000000 in
theorem implTrap_any (A : Option Addr) (n _n : Nat) (x : Nat → Int) (w : World) (hn : n ≤ maxLen) (hs : SL w A n (fun j => .int .i64 (x j))) :
    Calls Try.prog 81 #[.slice A n n] w fun e w' => e = .returned (.tuple #[.int .i64 (ifV (wtP x n) (trI x n : Nat)), .int .i64 (ifV (wtP x n) (trM x n)), .bool (tru (wtP x n))]) ∧ Below w.heap.size w w' := by
  obtain ⟨i0, hi, hz0, hz1, hz2⟩ := info_parts Try.info64
  have HA := hide (implNets_any A n n x w hn hs)
  unfold maxLen at hn
  have HSL := hide hs
  clear hs
  by_cases hall : allP x n 2 65 0 1000000000000
  · have HAT := hide (tru_yes hall)
    have HAL := hide hall
    have n65 := hall.1.2
    have n1 := hall.1.1
    clear hall
    obtain ⟨b, off, hAe, hb, -⟩ := (cells_a HSL.out).out 0 (by omega)
    subst hAe
    go_enter Try.func81, Try.ntmps81
    go_wp2_with fail
    refine HA.out.mono ?_
    rw [HAT.out]
    rintro e W ⟨rfl, hbw⟩
    have HB0 := hide hbw
    have HS0 := hide (HSL.out.below hbw)
    clear hbw
    have HC := cells_a HS0.out
    go_wp2_with (at_make; refine wpList_make_full _ rfl _ _ 22 rfl W.heap.size 2 i0 (.int .i64 0) 1 Try.underlying22 hi hz0 hz1 _ _ _ _ n rfl rfl rfl rfl (by rw [hz2]; omega) (by unfold maxLen; omega) (Nat.le_refl _) ?_; intro w2 hown0 hgrow0)
    have HB2 := hide ((Below.refl W.heap.size W).grown hgrow0 (Nat.le_refl _) (fun k h => by cases h))
    have HO0 := hide hown0
    clear hown0 hgrow0
    go_loopw [6, 7, 8, 9, 19] (fun _ _ _ _ ii wr => ∃ (i : Nat) (xs : List Value), i ≤ n ∧ ii = .int .i64 i ∧ wr.ownsRow W.heap.size 2 1 (.slice (some ⟨W.heap.size, 0, none⟩) n n) n xs ∧ Hid (∀ j, j < i → xs[j]? = some (.int .i64 (trL x n j))) ∧ Hid (∀ j, i ≤ j → j < n → xs[j]? = some (.int .i64 0)) ∧ Below W.heap.size W wr) (fun _ _ _ _ ii _ => n - (intOf ii).toNat)
    case atStart => exact ⟨0, _, Nat.zero_le _, rfl, HO0.out, (fun j hj => absurd hj (by omega)), (fun j _ hj => by
      rw [Nat.mul_one, show (Value.int .i64 0).cells = #[Value.int .i64 0] from rfl, toList_madeCells_one, List.getElem?_replicate, if_pos hj]), HB2.out⟩
    case round =>
      obtain ⟨i, xs, hi', rfl, hown, hxs, hzs, hbel⟩ := hrel
      by_cases hlt : i < n
      · obtain ⟨b1, off1, hA1, hb1, hci⟩ := HC.out i hlt
        injection hA1 with hA1
        injection hA1 with hA1 hA12
        subst hA1 hA12
        have hcw := (hbel.cell (p := ⟨b, off + i, none⟩) hb1).trans hci
        have HOWN := hide hown
        have HBEL := hide hbel
        have HX0 := hide (show xs[i]? = some (.int .i64 (lnK x i 0 : Nat)) from hzs.out i (Nat.le_refl _) hlt)
        have HX1 := hide (show ∀ j, i + 1 ≤ j → j < n → xs[j]? = some (.int .i64 0) from fun j h1 h2 => hzs.out j (by omega) h2)
        clear hown hbel hzs hci
        go_wp2
        clear hcw
        go_loopw [8, 9, 28] (fun _ _ kk wr => ∃ (m : Nat) (xs : List Value), m ≤ n - i ∧ kk = .int .i64 m ∧ wr.ownsRow W.heap.size 2 1 (.slice (some ⟨W.heap.size, 0, none⟩) n n) n xs ∧ Hid (∀ j, j < i → xs[j]? = some (.int .i64 (trL x n j))) ∧ Hid (xs[i]? = some (.int .i64 (lnK x i m : Nat))) ∧ Hid (∀ j, i + 1 ≤ j → j < n → xs[j]? = some (.int .i64 0)) ∧ Below W.heap.size W wr) (fun _ _ kk _ => (n - i) - (intOf kk).toNat)
        case atStart => exact ⟨0, xs, Nat.zero_le _, rfl, HOWN.out, hxs.out, HX0.out, HX1.out, HBEL.out⟩
        case round =>
          clear HOWN HBEL HX0 HX1 hxs
          obtain ⟨m, xs, hm, rfl, hown, hxs, hxi, hzs, hbel⟩ := hrel
          by_cases hlt2 : m < n - i
          · obtain ⟨b2, off2, hA2, hb2, hck⟩ := HC.out (i + m) (by omega)
            injection hA2 with hA2
            injection hA2 with hA2 hA22
            subst hA2 hA22
            have hck2 : wr.cell? ⟨b, off + i + m, none⟩ = some (.int .i64 (x (i + m))) := by
              rw [Nat.add_assoc]; exact (hbel.cell (p := ⟨b, off + (i + m), none⟩) hb2).trans hck
            have hlt3 : (m : Int) < ((n - i : Nat) : Int) := by omega
            have HBEL := hide hbel
            have HLL := hide (show xs.length = n by have := hown.1; omega)
            clear hck
            by_cases hx : x (i + m) ≤ x i
            · obtain ⟨u, hu⟩ : ∃ u, xs[i]? = some u := ⟨_, hxi.out⟩
              have hold : wr.cell? ⟨W.heap.size, i, none⟩ = some u := (hown.cellAt i (by omega)).trans hu
              have hfr := hown.frozenAt i
              have HST := hide (World.ownsRow.stored (w := wr) hown i (.int .i64 (m : Int)))
              have HY := hide (lnK_yes (x := x) (i := i) (m := m) hx)
              clear hu hbel hown
              go_wp2
              go_roundw
              case rel => exact ⟨m + 1, xs.set i (.int .i64 (m : Int)), by omega, by go_num, HST.out.1, (fun j hj => by rw [List.getElem?_set_ne (by omega)]; exact hxs.out j hj), (show (xs.set i (.int .i64 (m : Int)))[i]? = some (.int .i64 (lnK x i (m + 1) : Nat)) by rw [List.getElem?_set_self (by have := HLL.out; omega), HY.out]), (fun j h1 h2 => by rw [List.getElem?_set_ne (by omega)]; exact hzs.out j h1 h2), HBEL.out.grown HST.out.2 HBEL.out.size (fun j hj => by injection hj with hj; omega)⟩
              case measure => simp [intOf]; omega
            · have HY := hide (lnK_no (x := x) (i := i) (m := m) hx)
              have hxd : decide (x (i + m) ≤ x i) = false := decide_eq_false hx
              have HOWN := hide hown
              clear hx hbel hown
              go_wp2
              go_roundw
              case rel => exact ⟨m + 1, xs, by omega, by go_num, HOWN.out, hxs.out, (show xs[i]? = some (.int .i64 (lnK x i (m + 1) : Nat)) by rw [HY.out]; exact hxi.out), hzs.out, HBEL.out⟩
              case measure => simp [intOf]; omega
          · obtain rfl : m = n - i := by omega
            have hlt3 : ¬ ((n - i : Nat) : Int) < ((n - i : Nat) : Int) := by omega
            have HOWN := hide hown
            have HBEL := hide hbel
            clear hown hbel
            go_wp2
            go_roundw
            case rel => exact ⟨i + 1, xs, by omega, by go_num, HOWN.out, (fun j hj => by
              by_cases hji : j = i
              · subst hji; exact hxi.out
              · exact hxs.out j (by omega)), (fun j h1 h2 => hzs.out j h1 h2), HBEL.out⟩
            case measure => simp [intOf]; omega
      · obtain rfl : i = n := by omega
        have HOS := hide (OW.of_owns hown hxs.out).sl
        have HBEL := hide (HB0.out.trans (hbel.mono HB0.out.size))
        have HLT := hide (bX_lt (trL x i) (n := i) (by omega))
        have HCL := cells_a HOS.out
        have HTB := hide (trL_bd x i (trI x i))
        obtain ⟨ti, hti⟩ : ∃ ti, trI x i = ti := ⟨_, rfl⟩
        obtain ⟨gb, goff, hgA, hgb, hgc⟩ := HCL.out ti (by rw [← hti]; exact HLT.out)
        injection hgA with hgA
        injection hgA with hgA hgA2
        subst hgA hgA2
        have hgc2 : wr.cell? ⟨W.heap.size, ti, none⟩ = some (.int .i64 (trL x i ti)) := by rw [Nat.zero_add] at hgc; exact hgc
        have htik : (ti : Int) < (i : Int) := by have := HLT.out; have : trI x i < i := HLT.out; omega
        have HTI := hide hti
        obtain ⟨tm, htm⟩ : ∃ tm, trL x i ti = tm := ⟨_, rfl⟩
        rw [htm] at hgc2 hgc
        rw [hti, htm] at HTB
        have HTM := hide (show trM x i = tm by show trL x i (trI x i) = tm; rw [hti, htm])
        clear hown hbel hti htm
        by_cases hz : tm = 0
        · have HH := hide (show ¬ wtP x i from fun h => by have := h.2; rw [HTM.out] at this; omega)
          subst hz
          go_wp2_with fail
          refine (implfirstGreatest_any _ _ _ _ _ (by omega) (by omega) HOS.out).mono ?_
          rw [show bX (trL x i) i = ti from HTI.out]
          rintro e w' ⟨rfl, rfl⟩
          go_wp2
          go_ret3
          exact ⟨wtn3 HH.out, HBEL.out⟩
        · have HH := hide (show wtP x i from ⟨HAL.out, by rw [HTM.out]; have := HTB.out.1; omega⟩)
          have hzb : (tm == 0) = false := by rw [beq_eq_false_iff_ne]; exact hz
          clear hz
          go_wp2_with fail
          refine (implfirstGreatest_any _ _ _ _ _ (by omega) (by omega) HOS.out).mono ?_
          rw [show bX (trL x i) i = ti from HTI.out]
          rintro e w' ⟨rfl, rfl⟩
          go_wp2
          go_quiet (fail)
          go_wp2
          go_ret3
          exact ⟨wty3 HH.out (by rw [HTI.out]) HTM.out.symm, bel_q HBEL.out _⟩
  · have HAT := hide (tru_no hall)
    have HH := hide (show ¬ wtP x n from fun h => hall h.1)
    clear hall
    go_enter Try.func81, Try.ntmps81
    go_wp2_with fail
    refine HA.out.mono ?_
    rw [HAT.out]
    rintro e W ⟨rfl, hbw⟩
    have HB0 := hide hbw
    have HS0 := hide (HSL.out.below hbw)
    clear hbw
    go_wp2
    go_ret3
    exact ⟨wtn3 HH.out, HB0.out⟩
end Go.Proofs.Ytbcajjpgpjadaaa
