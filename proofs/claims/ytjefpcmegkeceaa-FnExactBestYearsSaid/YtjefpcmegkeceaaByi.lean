/- BestYears, by the program. -/
import Derived.Test.YtjefpcmegkeceaaBy
import Derived.Test.YtjefpcmegkeceaaShf
import Derived.Sort.OwnSortedInts
namespace Go.Proofs.Ytjefpcmegkeceaa
open Go.RowKit Go.Dues
theorem row_eq {xs : List Value} {n : Nat} {x : Nat → Int} (hl : xs.length = n) (h : ∀ j, j < n → xs[j]? = some (.int .i64 (x j))) : xs = (vlL x n).map (Value.int .i64) := by
  apply List.ext_getElem?
  intro j
  by_cases hj : j < n
  · rw [h j hj, List.getElem?_map]
    unfold vlL
    rw [List.getElem?_map, List.getElem?_range hj]
    rfl
  · rw [List.getElem?_eq_none (by omega), List.getElem?_eq_none (by rw [List.length_map, vlL_len]; omega)]
theorem sort8_any (g cp n : Nat) (zs : List Int) (W : World) (B : Nat) (hl : zs.length = n) (hn : n ≤ 1048576) (h : W.ownsRow B 2 1 (.slice (some ⟨g, 0, none⟩) n cp) n (zs.map (Value.int .i64))) :
    Calls Try.prog 70 #[.slice (some ⟨g, 0, none⟩) n cp] W fun e w' => e = .returned (.tuple #[]) ∧ w'.ownsRow B 2 1 (.slice (some ⟨g, 0, none⟩) n cp) n ((zs.mergeSort fun x y => decide (x ≤ y)).map (Value.int .i64)) ∧ W.grownBy w' (some g) := by
  subst hl
  rcases h.2 with ⟨h0, _⟩ | ⟨g', cap, cur, h1, h2, h3, h4, h5, h6, h7⟩
  · cases h0
  · simp only [Value.slice.injEq, Option.some.injEq, Addr.mk.injEq, and_true, true_and] at h1
    obtain ⟨rfl, rfl⟩ := h1
    rw [Nat.mul_one] at h7
    refine (Go.Proofs.Try.slices_Sort_int g 0 cp zs W (holds_of_blockI h3 h7) (Array.getElem?_eq_some_iff.1 h3).1 (by omega)).mono ?_
    rintro e w' ⟨rfl, q, os, rfl⟩
    exact ⟨rfl, ownsRow_sortedI (List.length_mergeSort _) h2 h3 h4 h5 h6, grownBy_sortedI _⟩
set_option maxRecDepth 100000 in
set_option maxHeartbeats 8000000 in
theorem implBestYears_any (A : Option Addr) (n _n : Nat) (x : Nat → Int) (c : Int) (w : World) (hn_n : n ≤ maxLen) (hs_n : SL w A n (fun j => .int .i64 (x j))) :
    Calls Try.prog 32 #[.slice A n n, .int .i64 c] w fun e w' => e = .returned (.tuple #[.int .i64 (ifV (byP x n c) (byV x n c)), .bool (tru (byP x n c))]) ∧ Below w.heap.size w w' := by
  unfold maxLen at hn_n
  have HB0 := hide (Below.refl w.heap.size w)
  have HS0_0 := hide hs_n
  clear hs_n
  by_cases hall0 : cpP x n c
  rotate_left
  · have HAT0 := hide (tru_no hall0)
    have HH := hide (show ¬ byP x n c from fun h => hall0 (h))
    clear hall0
    go_enter Try.func32, Try.ntmps32
    go_wp2_with (first | (go_at_call 69; refine (implAmount_any _ _ ).mono ?_; rintro e w' ⟨rfl, rfl⟩) | (go_at_call 53; refine (implRate_any _ _ ).mono ?_; rintro e w' ⟨rfl, rfl⟩) | (go_at_call 49; refine (implWithin_any _ _ _ _ ).mono ?_; rintro e w' ⟨rfl, rfl⟩))
    refine (implCounted_any A n n x c _ (by unfold maxLen; omega) HS0_0.out).mono ?_
    rw [HAT0.out]
    rintro e W1 ⟨rfl, hb⟩
    have HB1 := hide (HB0.out.trans (hb.mono HB0.out.size))
    have HS0_1 := hide (HS0_0.out.below hb)
    clear hb
    go_wp2_with (first | (go_at_call 69; refine (implAmount_any _ _ ).mono ?_; rintro e w' ⟨rfl, rfl⟩) | (go_at_call 53; refine (implRate_any _ _ ).mono ?_; rintro e w' ⟨rfl, rfl⟩) | (go_at_call 49; refine (implWithin_any _ _ _ _ ).mono ?_; rintro e w' ⟨rfl, rfl⟩))
    go_ret2
    exact ⟨ret_no HH.out, HB1.out⟩
  have HAT0 := hide (tru_yes hall0)
  have HAL0 := hide hall0
  clear hall0
  have HAX := hide HAL0.out.1
  have n60 := HAX.out.1.2
  obtain ⟨C, rfl⟩ : ∃ C : Nat, c = C := ⟨c.toNat, by have := HAL0.out.2; omega⟩
  have C0 : 1 ≤ C := by have := HAL0.out.2; omega
  have C1 : C ≤ n := by have := HAL0.out.2; omega
  have HH := hide (show byP x n C from HAL0.out)
  obtain ⟨D, hD⟩ : ∃ D : Nat, n - C = D := ⟨_, rfl⟩
  have hD1 : (n : Int) - (C : Int) = (D : Int) := by omega
  have hD2 : n - D = C := by omega
  have hDn : D ≤ n := by omega
  have hDi : (D : Int) ≤ (n : Int) := by omega
  have HDD := hide hD
  clear hD
  go_enter Try.func32, Try.ntmps32
  go_wp2_with (first | (go_at_call 69; refine (implAmount_any _ _ ).mono ?_; rintro e w' ⟨rfl, rfl⟩) | (go_at_call 53; refine (implRate_any _ _ ).mono ?_; rintro e w' ⟨rfl, rfl⟩) | (go_at_call 49; refine (implWithin_any _ _ _ _ ).mono ?_; rintro e w' ⟨rfl, rfl⟩))
  refine (implCounted_any A n n x (C : Int) _ (by unfold maxLen; omega) HS0_0.out).mono ?_
  rw [HAT0.out]
  rintro e W1 ⟨rfl, hb⟩
  have HB1 := hide (HB0.out.trans (hb.mono HB0.out.size))
  have HS0_1 := hide (HS0_0.out.below hb)
  clear hb
  go_wp2_with (first | (go_at_call 66; fail) | (go_at_call 69; refine (implAmount_any _ _ ).mono ?_; rintro e w' ⟨rfl, rfl⟩) | (go_at_call 53; refine (implRate_any _ _ ).mono ?_; rintro e w' ⟨rfl, rfl⟩) | (go_at_call 49; refine (implWithin_any _ _ _ _ ).mono ?_; rintro e w' ⟨rfl, rfl⟩))
  refine (clone7_any A n n x _ (by omega) (by omega) HS0_1.out).mono ?_
  rintro e w1 ⟨g, cp, xs, rfl, hown, hxs, hb⟩
  have HBC := hide (HB1.out.trans (hb.mono HB1.out.size))
  have hrow := row_eq (by have := hown.1; omega) hxs
  rw [hrow] at hown
  have hcap := own_cap8 hown
  have hgl := (hown.lt g rfl)
  have HSO := hide (sort8_any g cp n (vlL x n) w1 _ (vlL_len x n) (by omega) hown)
  have hz := HB1.out.size
  have hz1 : w.heap.size ≤ w1.heap.size := HBC.out.size
  clear hown hxs hb hrow
  go_wp2_with (go_at_call 70; fail)
  refine HSO.out.mono ?_
  rintro e w2 ⟨rfl, hown, hgrow⟩
  change w2.ownsRow _ _ 1 _ n ((ascL x n).map (Value.int .i64)) at hown
  have HBF := hide (HBC.out.grown hgrow (by omega) (fun j hj => by injection hj with hj; omega))
  have HSL := hide (show SL w2 (some ⟨g, D, none⟩) C (fun j => .int .i64 (fnOf (ascL x n) (D + j))) from by
    have h1 : SL w2 (some ⟨g, 0, none⟩) n (fun j => .int .i64 (fnOf (ascL x n) j)) := (OW.of_owns hown (fun j hj => map_at (fnOf_at (by rw [ascL_len]; exact hj)))).sl
    rcases h1 with h | ⟨b, off, h1, h2, h3⟩
    · exact .inl (by omega)
    · injection h1 with h1
      injection h1 with h1 h4
      subst h1 h4
      exact .inr ⟨g, D, rfl, h2, fun j hj => by have := h3 (D + j) (by omega); rwa [Nat.zero_add] at this⟩)
  have HSM := hide (sum_asc (x := x) (n := n) (c := C) (f := fun j => fnOf (ascL x n) (D + j)) C1 (fun j hj => by rw [HDD.out]; exact fnOf_at (by rw [ascL_len]; omega)))
  obtain ⟨s0, s1⟩ := byS_bd (x := x) (n := n) (c := C) HAX.out.2 C1
  have HFB := hide (show ∀ j, j < C → -1000000000000 ≤ fnOf (ascL x n) (D + j) ∧ fnOf (ascL x n) (D + j) ≤ 1000000000000 from fun j hj => by
    have hm := (ascL_perm x n).mem_iff.1 (List.mem_of_getElem? (fnOf_at (ys := ascL x n) (j := D + j) (by rw [ascL_len]; omega)))
    unfold vlL at hm
    rw [List.mem_map] at hm
    obtain ⟨i, hi, he⟩ := hm
    have := HAX.out.2 i (List.mem_range.1 hi)
    omega)
  obtain ⟨S, hS⟩ : ∃ S, byS x n C = S := ⟨_, rfl⟩
  rw [hS] at HSM s0 s1
  have HV := hide (show S / (C : Int) = byV x n C by unfold byV; rw [Int.toNat_natCast, hS])
  have hq0 : 0 ≤ S / (C : Int) := Int.ediv_nonneg s0 (by omega)
  have hq1 : S / (C : Int) ≤ S := Int.ediv_le_self _ s0
  have hne : ¬ (C : Int) = 0 := by omega
  have s2 : S ≤ 60000000000000 := by omega
  have hcd : ¬ cp = D := by omega
  have hcd2 : ¬ cp - D = 0 := by omega
  have hcd3 : D < cp := by omega
  clear hown hgrow hS s1 hgl hz hz1
  go_wp2_with fail
  refine (sumBy_itself _ C _ (fun j => fnOf (ascL x n) (D + j)) _ (by omega) HFB.out HSL.out).mono ?_
  rw [HSM.out]
  rintro e w' ⟨rfl, rfl⟩
  go_wp2
  go_ret2
  exact ⟨ret_val HH.out HV.out, HBF.out⟩
end Go.Proofs.Ytjefpcmegkeceaa
