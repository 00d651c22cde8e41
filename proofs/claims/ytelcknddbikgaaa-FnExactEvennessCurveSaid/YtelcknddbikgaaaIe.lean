/- EvennessCurve, by both. -/
import Derived.Test.YtelcknddbikgaaaIs
namespace Go.Proofs.Ytelcknddbikgaaa
open Go.RowKit Go.Dues
set_option maxRecDepth 100000 in
set_option maxHeartbeats 8000000 in
theorem specCurve_any (A : Option Addr) (n c : Nat) (x : Nat → Int) (w : World) (hn_n : n ≤ maxLen) (hs_n : SL w A n (fun j => .int .i64 (x j))) :
    Calls Try.prog 19 #[.slice A n c] w fun e w' => Gave1 w w' e (allP x n 1 64 0 1000000000) (n) (ecV x n) := by
  obtain ⟨i0, hi, hz0, hz1, hz2⟩ := info_parts Try.info64
  unfold maxLen at hn_n
  have HB0 := hide (Below.refl w.heap.size w)
  have HS0_0 := hide hs_n
  clear hs_n
  by_cases hall0 : allP x n 1 64 0 1000000000
  rotate_left
  · have HAT0 := hide (tru_no hall0)
    have HH := hide (show ¬ allP x n 1 64 0 1000000000 from fun h => hall0 (h))
    clear hall0
    go_enter Try.func19, Try.ntmps19
    go_wp2_with (first | (go_at_call 60; refine (specIn_any _ _ _ _ ).mono ?_; rintro e w' ⟨rfl, rfl⟩))
    refine (specIncomes_any A n c x _ (by unfold maxLen; omega) HS0_0.out).mono ?_
    rw [HAT0.out]
    rintro e W1 ⟨rfl, hbe⟩
    have HB1 : Hid (Below w.heap.size w W1) := by rw [← hbe]; exact HB0.out
    have HS0_1 : Hid (SL W1 A n (fun j => .int .i64 (x j))) := by rw [← hbe]; exact HS0_0.out
    clear hbe
    go_wp2_with (first | (go_at_call 60; refine (specIn_any _ _ _ _ ).mono ?_; rintro e w' ⟨rfl, rfl⟩))
    go_ret2
    exact gave1_no HH.out HB1.out
  have HAT0 := hide (tru_yes hall0)
  have HAL0 := hide hall0
  clear hall0
  have n64 := HAL0.out.1.2
  have n1 := HAL0.out.1.1
  have HH := hide (show allP x n 1 64 0 1000000000 from HAL0.out)
  go_enter Try.func19, Try.ntmps19
  go_wp2_with (first | (go_at_call 60; refine (specIn_any _ _ _ _ ).mono ?_; rintro e w' ⟨rfl, rfl⟩))
  refine (specIncomes_any A n c x _ (by unfold maxLen; omega) HS0_0.out).mono ?_
  rw [HAT0.out]
  rintro e W1 ⟨rfl, hbe⟩
  have HB1 : Hid (Below w.heap.size w W1) := by rw [← hbe]; exact HB0.out
  have HS0_1 : Hid (SL W1 A n (fun j => .int .i64 (x j))) := by rw [← hbe]; exact HS0_0.out
  clear hbe
  go_wp2_with fail
  have hst : (W1.alloc (.cells #[] 2)).ownsRow W1.heap.size 2 1 (.slice (some ⟨W1.heap.size, 0, none⟩) 0 0) 0 [] :=
    ⟨by simp, .inr ⟨W1.heap.size, 0, #[], rfl, Nat.le_refl _, new_at W1 _, Nat.le_refl 0, by unfold maxLen; omega, rfl, rfl⟩⟩
  have HBS := hide ((Below.refl W1.heap.size W1).alloc (Nat.le_refl _) (.cells #[] 2))
  have HO0 := hide hst
  clear hst
  refine (specSorted_any A n c x _ (by omega) (by omega) (HS0_1.out.below HBS.out)).mono ?_
  rintro e w3 ⟨g, d, rfl, hcap, hol, hb⟩
  have HO := hide (own_stays HO0.out hb)
  have HBT := hide (HBS.out.trans (hb.mono HBS.out.size))
  have HSL := hide hol.sl
  have hg0 : g < w3.heap.size := by
    obtain ⟨b, off, h1, h2, _⟩ := hol.sl.at_ (by omega)
    injection h1 with h1; injection h1 with h1; omega
  have HNE := hide (show ∀ q, Value.ownBlock _ = some q → q ≠ g from fun q hq => by
    have h1 := (HO0.out.lt q hq).2
    have h2 := (ow_lo9 hol (by omega)).1
    omega)
  clear hol hb HO0 HBS
  go_wp2
  go_loopw [4, 5, 7, 16] (fun v s _ i wr => ∃ (k : Nat) (S : Int) (xs : List Value), k ≤ n ∧ i = .int .i64 k ∧ s = .int .i64 S ∧ 0 ≤ S ∧ S ≤ 1000000000 * (k : Int) ∧ Hid (S = psum (ascF x n) k) ∧ wr.ownsRow W1.heap.size 2 1 v k xs ∧ Hid (∀ j, j < k → xs[j]? = some (.int .i64 (ecV x n j))) ∧ Hid (∀ q, v.ownBlock = some q → q ≠ g) ∧ Hid (SL wr (some ⟨g, 0, none⟩) n (fun j => .int .i64 (ascF x n j))) ∧ Below W1.heap.size W1 wr) (fun _ _ _ i _ => n - (intOf i).toNat)
  case atStart => exact ⟨0, 0, [], Nat.zero_le _, rfl, rfl, Int.le_refl _, by simp, rfl, HO.out, fun j hj => absurd hj (by omega), HNE.out, HSL.out, HBT.out⟩
  case round =>
    clear HO HNE HSL HBT
    obtain ⟨k, S, xs, hk, rfl, rfl, S0, S1, hS, hown, hxs, hne, hsl, hbel⟩ := hrel
    by_cases hlt : k < n
    · have hsl1 := hsl.out
      rcases hsl1 with h0 | ⟨b', off', he, hg1, hcs⟩
      · exact absurd h0 (by omega)
      injection he with he
      injection he with he he2
      subst he he2
      have hc2 : wr.cell? ⟨g, k, none⟩ = some (.int .i64 (ascF x n k)) := by have := hcs k hlt; rwa [Nat.zero_add] at this
      obtain ⟨X, hX⟩ : ∃ X, ascF x n k = X := ⟨_, rfl⟩
      obtain ⟨x0, x1⟩ := ascF_bd (lo := 0) (hi := 1000000000) HAL0.out.2 hlt
      rw [hX] at hc2 x0 x1
      have HV := hide (show S + X = ecV x n k by unfold ecV; rw [psum_succ, hS.out, hX])
      have HLL := hide (show xs.length = k by have := hown.1; omega)
      have hsz := hbel.size
      have hki : (k : Int) < (n : Int) := by omega
      clear hcs hX
      go_wp2_with (at_builtin; refine wpList_append_lies _ rfl _ _ 22 rfl (W1.heap.size) 2 i0 (.int .i64 0) 1 8 Try.underlying22 hi hz0 hz1 hz2 rfl (by decide) _ _ _ rfl (by exact (hown.alloc _)) ⟨_, 0, none⟩ 1 1 [.int .i64 (S + X)] rfl rfl (cell_one_new _ _ _) (by intro u hu; simp at hu; subst hu; rfl) (by omega) (by unfold maxLen; omega) (by omega) (by simp; omega) _ rfl ?_)
      intro gn cp w5 hown' hgrow hat hlt5
      have hb1 := (hbel.alloc hsz (.cells #[.int .i64 (S + X)] 2)).grown hgrow (by simp; omega) (fun j hj => (hown.lt j hj).1)
      have HB1 := hide hb1
      have HON := hide hown'
      have HNE2 := hide (show ∀ q, Value.ownBlock (.slice (some ⟨gn, 0, none⟩) (k + 1) cp) = some q → q ≠ g from fun q hq => by
        have hq2 : gn = q := by simpa [Value.ownBlock] using hq
        subst hq2
        rcases hat with h | h
        · exact hne.out _ h
        · first | omega | (simp at h; omega))
      have HSL2 := hide (SL.far9 (hsl.out.below ((Below.refl wr.heap.size wr).alloc (Nat.le_refl _) (.cells #[.int .i64 (S + X)] 2))) hgrow (fun h => hne.out g h.symm rfl))
      clear hgrow hown' hown hbel hc2 hb1 hat hsl hne hlt5 hg1
      go_wp2
      go_roundw
      case rel => exact ⟨k + 1, S + X, _, by omega, by go_num, rfl, by omega, by push_cast; omega, (by rw [HV.out]; rfl), HON.out, own_step HLL.out hxs.out (congrArg (Value.int .i64) HV.out), HNE2.out, HSL2.out, HB1.out⟩
      case measure => simp [intOf]; omega
    · obtain ⟨Gx, dx, rfl⟩ := own_shape hown
      have HN := hide (show k = n by omega)
      have HO := hide hown
      have HBEL := hide hbel
      clear hown hbel
      go_wp2
      go_ret2
      exact gave1_yes HH.out HN.out ((OW.of_owns HO.out hxs.out).wide HB1.out.size (Nat.le_refl _)) (HB1.out.trans (HBEL.out.mono HB1.out.size))
set_option maxRecDepth 100000 in
set_option maxHeartbeats 8000000 in
theorem implCurve_any (A : Option Addr) (n c : Nat) (x : Nat → Int) (w : World) (hn_n : n ≤ maxLen) (hs_n : SL w A n (fun j => .int .i64 (x j))) :
    Calls Try.prog 20 #[.slice A n c] w fun e w' => Gave1 w w' e (allP x n 1 64 0 1000000000) (n) (ecV x n) := by
  obtain ⟨i0, hi, hz0, hz1, hz2⟩ := info_parts Try.info64
  unfold maxLen at hn_n
  have HB0 := hide (Below.refl w.heap.size w)
  have HS0_0 := hide hs_n
  clear hs_n
  by_cases hall0 : allP x n 1 64 0 1000000000
  rotate_left
  · have HAT0 := hide (tru_no hall0)
    have HH := hide (show ¬ allP x n 1 64 0 1000000000 from fun h => hall0 (h))
    clear hall0
    go_enter Try.func20, Try.ntmps20
    go_wp2_with (first | (go_at_call 62; refine (implWithin_any _ _ _ _ ).mono ?_; rintro e w' ⟨rfl, rfl⟩) | (go_at_call 17; go_in))
    refine (areAll_isIncome A n c x 1 64 _ (by unfold maxLen; omega) HS0_0.out).mono ?_
    rw [HAT0.out]
    rintro e W1 ⟨rfl, hb⟩
    have HB1 := hide (HB0.out.trans (hb.mono HB0.out.size))
    have HS0_1 := hide (HS0_0.out.below hb)
    clear hb
    go_wp2_with (first | (go_at_call 62; refine (implWithin_any _ _ _ _ ).mono ?_; rintro e w' ⟨rfl, rfl⟩) | (go_at_call 17; go_in))
    go_ret2
    exact gave1_no HH.out HB1.out
  have HAT0 := hide (tru_yes hall0)
  have HAL0 := hide hall0
  clear hall0
  have n64 := HAL0.out.1.2
  have n1 := HAL0.out.1.1
  have HH := hide (show allP x n 1 64 0 1000000000 from HAL0.out)
  go_enter Try.func20, Try.ntmps20
  go_wp2_with (first | (go_at_call 62; refine (implWithin_any _ _ _ _ ).mono ?_; rintro e w' ⟨rfl, rfl⟩) | (go_at_call 17; go_in))
  refine (areAll_isIncome A n c x 1 64 _ (by unfold maxLen; omega) HS0_0.out).mono ?_
  rw [HAT0.out]
  rintro e W1 ⟨rfl, hb⟩
  have HB1 := hide (HB0.out.trans (hb.mono HB0.out.size))
  have HS0_1 := hide (HS0_0.out.below hb)
  clear hb
  go_wp2_with (first | (at_make; refine wpList_make_own _ rfl _ _ 22 rfl W1.heap.size 2 i0 (.int .i64 0) 1 Try.underlying22 hi hz0 hz1 _ _ _ n rfl rfl rfl (by rw [hz2]; omega) (by unfold maxLen; omega) (Nat.le_refl _) ?_; intro w2 hown0 hgrow0) | (go_at_call 62; refine (implWithin_any _ _ _ _ ).mono ?_; rintro e w' ⟨rfl, rfl⟩) | (go_at_call 17; go_in))
  have HBS := hide ((Below.refl W1.heap.size W1).grown hgrow0 (Nat.le_refl _) (fun k h => by cases h))
  have HO0 := hide hown0
  clear hown0 hgrow0
  refine (implSorted_any A n c x _ (by omega) (by omega) (HS0_1.out.below HBS.out)).mono ?_
  rintro e w3 ⟨g, d, rfl, hcap, hol, hb⟩
  have HO := hide (own_stays HO0.out hb)
  have HBT := hide (HBS.out.trans (hb.mono HBS.out.size))
  have HSL := hide hol.sl
  have hg0 : g < w3.heap.size := by
    obtain ⟨b, off, h1, h2, _⟩ := hol.sl.at_ (by omega)
    injection h1 with h1; injection h1 with h1; omega
  have HNE := hide (show ∀ q, Value.ownBlock _ = some q → q ≠ g from fun q hq => by
    have h1 := (HO0.out.lt q hq).2
    have h2 := (ow_lo9 hol (by omega)).1
    omega)
  clear hol hb HO0 HBS
  go_wp2
  go_loopw [4, 5, 7, 17] (fun v s _ i wr => ∃ (k : Nat) (S : Int) (xs : List Value), k ≤ n ∧ i = .int .i64 k ∧ s = .int .i64 S ∧ 0 ≤ S ∧ S ≤ 1000000000 * (k : Int) ∧ Hid (S = psum (ascF x n) k) ∧ wr.ownsRow W1.heap.size 2 1 v k xs ∧ Hid (∀ j, j < k → xs[j]? = some (.int .i64 (ecV x n j))) ∧ Hid (∀ q, v.ownBlock = some q → q ≠ g) ∧ Hid (SL wr (some ⟨g, 0, none⟩) n (fun j => .int .i64 (ascF x n j))) ∧ Below W1.heap.size W1 wr) (fun _ _ _ i _ => n - (intOf i).toNat)
  case atStart => exact ⟨0, 0, [], Nat.zero_le _, rfl, rfl, Int.le_refl _, by simp, rfl, HO.out, fun j hj => absurd hj (by omega), HNE.out, HSL.out, HBT.out⟩
  case round =>
    clear HO HNE HSL HBT
    obtain ⟨k, S, xs, hk, rfl, rfl, S0, S1, hS, hown, hxs, hne, hsl, hbel⟩ := hrel
    by_cases hlt : k < n
    · have hsl1 := hsl.out
      rcases hsl1 with h0 | ⟨b', off', he, hg1, hcs⟩
      · exact absurd h0 (by omega)
      injection he with he
      injection he with he he2
      subst he he2
      have hc2 : wr.cell? ⟨g, k, none⟩ = some (.int .i64 (ascF x n k)) := by have := hcs k hlt; rwa [Nat.zero_add] at this
      obtain ⟨X, hX⟩ : ∃ X, ascF x n k = X := ⟨_, rfl⟩
      obtain ⟨x0, x1⟩ := ascF_bd (lo := 0) (hi := 1000000000) HAL0.out.2 hlt
      rw [hX] at hc2 x0 x1
      have HV := hide (show S + X = ecV x n k by unfold ecV; rw [psum_succ, hS.out, hX])
      have HLL := hide (show xs.length = k by have := hown.1; omega)
      have hsz := hbel.size
      have hki : (k : Int) < (n : Int) := by omega
      clear hcs hX
      go_wp2_with (at_builtin; refine wpList_append_lies _ rfl _ _ 22 rfl (W1.heap.size) 2 i0 (.int .i64 0) 1 8 Try.underlying22 hi hz0 hz1 hz2 rfl (by decide) _ _ _ rfl (by exact (hown.alloc _)) ⟨_, 0, none⟩ 1 1 [.int .i64 (S + X)] rfl rfl (cell_one_new _ _ _) (by intro u hu; simp at hu; subst hu; rfl) (by omega) (by unfold maxLen; omega) (by omega) (by simp; omega) _ rfl ?_)
      intro gn cp w5 hown' hgrow hat hlt5
      have hb1 := (hbel.alloc hsz (.cells #[.int .i64 (S + X)] 2)).grown hgrow (by simp; omega) (fun j hj => (hown.lt j hj).1)
      have HB1 := hide hb1
      have HON := hide hown'
      have HNE2 := hide (show ∀ q, Value.ownBlock (.slice (some ⟨gn, 0, none⟩) (k + 1) cp) = some q → q ≠ g from fun q hq => by
        have hq2 : gn = q := by simpa [Value.ownBlock] using hq
        subst hq2
        rcases hat with h | h
        · exact hne.out _ h
        · first | omega | (simp at h; omega))
      have HSL2 := hide (SL.far9 (hsl.out.below ((Below.refl wr.heap.size wr).alloc (Nat.le_refl _) (.cells #[.int .i64 (S + X)] 2))) hgrow (fun h => hne.out g h.symm rfl))
      clear hgrow hown' hown hbel hc2 hb1 hat hsl hne hlt5 hg1
      go_wp2
      go_roundw
      case rel => exact ⟨k + 1, S + X, _, by omega, by go_num, rfl, by omega, by push_cast; omega, (by rw [HV.out]; rfl), HON.out, own_step HLL.out hxs.out (congrArg (Value.int .i64) HV.out), HNE2.out, HSL2.out, HB1.out⟩
      case measure => simp [intOf]; omega
    · obtain ⟨Gx, dx, rfl⟩ := own_shape hown
      have HN := hide (show k = n by omega)
      have HO := hide hown
      have HBEL := hide hbel
      clear hown hbel
      go_wp2
      go_ret2
      exact gave1_yes HH.out HN.out ((OW.of_owns HO.out hxs.out).wide HB1.out.size (Nat.le_refl _)) (HB1.out.trans (HBEL.out.mono HB1.out.size))
end Go.Proofs.Ytelcknddbikgaaa
