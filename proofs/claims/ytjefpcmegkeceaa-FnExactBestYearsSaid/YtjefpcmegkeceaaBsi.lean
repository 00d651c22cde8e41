/- BestSpan by the program. -/
import Derived.Test.YtjefpcmegkeceaaBs
namespace Go.Proofs.Ytjefpcmegkeceaa
open Go.RowKit Go.Dues
set_option maxRecDepth 100000 in
set_option maxHeartbeats 8000000 in
theorem implBestSpan_any (A : Option Addr) (n _n : Nat) (x : Nat → Int) (c : Int) (w : World) (hn_n : n ≤ maxLen) (hs_n : SL w A n (fun j => .int .i64 (x j))) :
    Calls Try.prog 30 #[.slice A n n, .int .i64 c] w fun e w' => e = .returned (.tuple #[.int .i64 (ifV (bsP x n c) (bsB x n c : Nat)), .int .i64 (ifV (bsP x n c) (bsV x n c)), .bool (tru (bsP x n c))]) ∧ Below w.heap.size w w' := by
  obtain ⟨i0, hi, hz0, hz1, hz2⟩ := info_parts Try.info64
  unfold maxLen at hn_n
  have HB0 := hide (Below.refl w.heap.size w)
  have HS0_0 := hide hs_n
  clear hs_n
  by_cases hall0 : cpP x n c
  rotate_left
  · have HAT0 := hide (tru_no hall0)
    have HH := hide (show ¬ bsP x n c from fun h => hall0 (⟨h.1, h.2.1⟩))
    clear hall0
    go_enter Try.func30, Try.ntmps30
    go_wp2_with (first | (go_at_call 69; refine (implAmount_any _ _ ).mono ?_; rintro e w' ⟨rfl, rfl⟩) | (go_at_call 53; refine (implRate_any _ _ ).mono ?_; rintro e w' ⟨rfl, rfl⟩) | (go_at_call 49; refine (implWithin_any _ _ _ _ ).mono ?_; rintro e w' ⟨rfl, rfl⟩))
    refine (implCounted_any A n n x c _ (by unfold maxLen; omega) HS0_0.out).mono ?_
    rw [HAT0.out]
    rintro e W1 ⟨rfl, hb⟩
    have HB1 := hide (HB0.out.trans (hb.mono HB0.out.size))
    have HS0_1 := hide (HS0_0.out.below hb)
    clear hb
    go_wp2_with (first | (go_at_call 69; refine (implAmount_any _ _ ).mono ?_; rintro e w' ⟨rfl, rfl⟩) | (go_at_call 53; refine (implRate_any _ _ ).mono ?_; rintro e w' ⟨rfl, rfl⟩) | (go_at_call 49; refine (implWithin_any _ _ _ _ ).mono ?_; rintro e w' ⟨rfl, rfl⟩))
    go_ret3
    exact ⟨ret_no3 HH.out, HB1.out⟩
  have HAT0 := hide (tru_yes hall0)
  have HAL0 := hide hall0
  clear hall0
  have HCP := HAL0
  clear HAL0
  have HAL0 := hide HCP.out.1
  have HG1 := hide HCP.out.2
  clear HCP
  have n60 := HAL0.out.1.2
  obtain ⟨C, rfl⟩ : ∃ C : Nat, c = C := ⟨c.toNat, by have := HG1.out; omega⟩
  have C0 : 1 ≤ C := by have := HG1.out; omega
  have C1 : C ≤ n := by have := HG1.out; omega
  obtain ⟨b, off, hAe, hb, hc⟩ := (HS0_0.out.at_ (by omega))
  have HCA := hide hc
  obtain ⟨K, hK⟩ : ∃ K, n + 1 - C = K := ⟨_, rfl⟩
  have HSB := hide (fun i (hi : i < K) => bsS_bd (c := C) (i := i) HAL0.out.2 (by omega) (by omega))
  have HBV := hide (show bsB x n C = bX (bsS x C) K ∧ bsV x n C = bsS x C (bX (bsS x C) K) from ⟨by unfold bsB; rw [Int.toNat_natCast, hK], by unfold bsV bsB; rw [Int.toNat_natCast, hK]⟩)
  have K1 : 1 ≤ K := by omega
  have KI : ∀ k : Nat, ((C + k : Nat) : Int) ≤ (n : Int) ↔ k < K := fun k => by omega
  have HKI := hide KI
  have HAE := hide hAe
  clear KI hc hAe
  go_enter Try.func30, Try.ntmps30
  go_wp2_with (first | (go_at_call 69; refine (implAmount_any _ _ ).mono ?_; rintro e w' ⟨rfl, rfl⟩) | (go_at_call 53; refine (implRate_any _ _ ).mono ?_; rintro e w' ⟨rfl, rfl⟩) | (go_at_call 49; refine (implWithin_any _ _ _ _ ).mono ?_; rintro e w' ⟨rfl, rfl⟩))
  refine (implCounted_any A n n x (C : Int) _ (by unfold maxLen; omega) HS0_0.out).mono ?_
  rw [HAT0.out]
  rintro e W1 ⟨rfl, hb⟩
  have HB1 := hide (HB0.out.trans (hb.mono HB0.out.size))
  have HS0_1 := hide (HS0_0.out.below hb)
  clear hb
  have hAe := HAE.out
  clear HAE
  subst hAe
  go_wp2_with (first | (go_at_call 69; refine (implAmount_any _ _ ).mono ?_; rintro e w' ⟨rfl, rfl⟩) | (go_at_call 53; refine (implRate_any _ _ ).mono ?_; rintro e w' ⟨rfl, rfl⟩) | (go_at_call 49; refine (implWithin_any _ _ _ _ ).mono ?_; rintro e w' ⟨rfl, rfl⟩))
  have hbk : b < W1.heap.size := Nat.lt_of_lt_of_le hb HB1.out.size
  have HCW : Hid (∀ j, j < n → W1.cell? ⟨b, off + j, none⟩ = some (.int .i64 (x j))) := fun j hj => (HB1.out.cell (p := ⟨b, off + j, none⟩) hb).trans (HCA.out j hj)
  have HPS := hide (World.ownsRow_nil (w := W1) W1.heap.size 2 1)
  go_loopw [7, 8] (fun v i wr => ∃ (k : Nat) (xs : List Value), k ≤ K ∧ i = .int .i64 ((C + k : Nat) : Int) ∧ wr.ownsRow W1.heap.size 2 1 v k xs ∧ Hid (∀ j, j < k → xs[j]? = some (.int .i64 (bsS x C j))) ∧ Below W1.heap.size W1 wr) (fun _ i _ => n + 1 - (intOf i).toNat)
  case atStart => exact ⟨0, [], Nat.zero_le _, rfl, HPS.out, fun j hj => absurd hj (by omega), Below.refl _ _⟩
  case round =>
    obtain ⟨k, xs, hk, rfl, hown, hxs, hbel⟩ := hrel
    by_cases hlt : k < K
    · have hle : ((C + k : Nat) : Int) ≤ (n : Int) := by omega
      have hlo : ((C + k : Nat) : Int) - (C : Int) = (k : Int) := by omega
      have hsz := hbel.size
      have HSUB := hide (sub_sl (x := x) (b := b) (off := off) (k := k) (c := C) (n := n) (w := wr) (by omega) (fun j hj => (hbel.cell (p := ⟨b, off + j, none⟩) hbk).trans (HCW.out j hj)) (by omega))
      obtain ⟨z0, z1⟩ := HSB.out k hlt
      have HLL := hide (show xs.length = k by have := hown.1; omega)
      have hkc : k + C ≤ n := by omega
      have hkn : k < n := by omega
      go_wp2_with fail
      refine (sumBy_itself _ C _ (fun j => x (k + j)) _ (by omega) (fun j hj => by have := HAL0.out.2 (k + j) (by omega); omega) HSUB.out).mono ?_
      rintro e w' ⟨rfl, rfl⟩
      rw [show psum (fun j => x (k + j)) C = bsS x C k from rfl]
      go_wp2_with (at_builtin; refine wpList_append_own _ rfl _ _ 22 rfl (W1.heap.size) 2 i0 (.int .i64 0) 1 8 Try.underlying22 hi hz0 hz1 hz2 rfl (by decide) _ _ _ rfl (by exact (hown.alloc _)) ⟨_, 0, none⟩ 1 1 [.int .i64 (bsS x C k)] rfl rfl (cell_one_new _ _ _) (by intro u hu; simp at hu; subst hu; rfl) (by unfold maxLen; omega) (by omega) (by simp; omega) ?_)
      intro v' w5 hown' hgrow _
      have hb1 := (hbel.alloc (by omega) (.cells #[.int .i64 (bsS x C k)] 2)).grown hgrow (by simp; omega) (fun j hj => (hown.lt j hj).1)
      have HB1 := hide hb1
      have HON := hide hown'
      clear hgrow hown' hown hbel hb1
      go_wp2
      go_roundw
      case rel => exact ⟨k + 1, _, by omega, by go_num, HON.out, own_step HLL.out hxs.out rfl, HB1.out⟩
      case measure => simp [intOf]; omega
    · obtain rfl : k = K := by omega
      have hle : ¬ ((C + k : Nat) : Int) ≤ (n : Int) := by omega
      obtain ⟨Gx, dx, rfl⟩ := own_shape hown
      have HBF := hide (HB1.out.trans (hbel.mono HB1.out.size))
      have hsl : SL wr Gx k (fun j => .int .i64 (bsS x C j)) := (OW.of_owns hown hxs.out).sl
      have hbl := bX_lt (bsS x C) K1
      obtain ⟨gb, goff, hGx, hgb, hgc⟩ := hsl.at_ (by omega)
      subst hGx
      have hcl := hgc _ hbl
      have HFG := hide (implfirstGreatest_any (some ⟨gb, goff, none⟩) k dx (bsS x C) wr K1 (by omega) hsl)
      obtain ⟨B, hB⟩ : ∃ B, bX (bsS x C) k = B := ⟨_, rfl⟩
      rw [hB] at HFG hbl hcl HBV
      obtain ⟨V, hV⟩ : ∃ V, bsS x C B = V := ⟨_, rfl⟩
      rw [hV] at hcl HBV
      obtain ⟨v0, v1⟩ := HSB.out B hbl
      rw [hV] at v0 v1
      clear hown hbel hsl hgc hV hB
      go_wp2_with fail
      refine HFG.out.mono ?_
      rintro e w' ⟨rfl, rfl⟩
      have hbi : (B : Int) < (k : Int) := by omega
      cases gv : amtB V
      · have HH := hide (show ¬ bsP x n C from fun h => by rw [amtB_yes ⟨v0, by have := h.2.2; rw [HBV.out.2] at this; exact this⟩] at gv; cases gv)
        go_wp2_with (first | (go_at_call 69; refine (implAmount_any _ _ ).mono ?_; rintro e w' ⟨rfl, rfl⟩) | (go_at_call 53; refine (implRate_any _ _ ).mono ?_; rintro e w' ⟨rfl, rfl⟩) | (go_at_call 49; refine (implWithin_any _ _ _ _ ).mono ?_; rintro e w' ⟨rfl, rfl⟩))
        go_ret3
        exact ⟨ret_no3 HH.out, HBF.out⟩
      · have HH := hide (show bsP x n C from ⟨HAL0.out, HG1.out, by rw [HBV.out.2]; exact (amtB_iff.1 gv).2⟩)
        go_wp2_with (first | (go_at_call 69; refine (implAmount_any _ _ ).mono ?_; rintro e w' ⟨rfl, rfl⟩) | (go_at_call 53; refine (implRate_any _ _ ).mono ?_; rintro e w' ⟨rfl, rfl⟩) | (go_at_call 49; refine (implWithin_any _ _ _ _ ).mono ?_; rintro e w' ⟨rfl, rfl⟩))
        go_quiet (fail)
        go_wp2
        go_ret3
        exact ⟨ret_yes3 HH.out (by rw [HBV.out.1]) (by rw [HBV.out.2]), bel_q HBF.out _⟩
end Go.Proofs.Ytjefpcmegkeceaa
