/- SplitInTurn, by both. -/
import Derived.Test.YtggpfaokmkhhdaaAl
import Derived.Test.YtggpfaokmkhhdaaTw
import Derived.Test.YtggpfaokmkhhdaaLn
namespace Go.Proofs.Ytggpfaokmkhhdaa
open Go.RowKit Go.Dues
def weP (x : Nat → Int) (n : Nat) : Prop := (1 ≤ n ∧ n ≤ 24) ∧ (∀ j, j < n → 0 ≤ x j ∧ x j ≤ 1000000000) ∧ psum x n ≠ 0
theorem weP_sum {x : Nat → Int} {n : Nat} (h : weP x n) : 1 ≤ psum x n ∧ psum x n ≤ 24000000000 := by
  have h1 := psum_bd (k := n) (fun j hj => (h.2.1 j hj).1) (Nat.le_refl _)
  have h2 := psum_abs (M := 1000000000) (fun j hj => ⟨by have := (h.2.1 j hj).1; omega, (h.2.1 j hj).2⟩) n (Nat.le_refl _)
  have h3 := h.2.2
  have h4 := h.1.2
  constructor
  · omega
  · omega
def partOf (c x W : Int) : Int := if W = 0 then 0 else rnd (c * x) W 1
theorem part_bd {c x W : Int} (c0 : 0 ≤ c) (x0 : 0 ≤ x) (xW : x ≤ W) (W0 : 0 < W) : 0 ≤ rnd (c * x) W 1 ∧ rnd (c * x) W 1 ≤ c := by
  have ha : 0 ≤ c * x := Int.mul_nonneg c0 x0
  have hb : c * x ≤ c * W := Int.mul_le_mul_of_nonneg_left xW c0
  have h0 := rnd1_bd (a := c * x) (b := W) ha (by omega)
  refine ⟨h0.1, ?_⟩
  have h1 := Int.mul_ediv_add_emod (c * x) W
  have h2 : 0 ≤ c * x % W := Int.emod_nonneg _ (by omega)
  have h3 : c * x / W ≤ c := by
    have := Int.ediv_le_ediv (by omega : 0 < W) hb
    rwa [Int.mul_ediv_cancel _ (by omega)] at this
  by_cases hr : W - c * x % W ≤ c * x % W
  · rw [rnd_1y hr]
    rcases Int.lt_or_eq_of_le h3 with h | h
    · omega
    · exfalso
      rw [h, Int.mul_comm W c] at h1
      omega
  · rw [rnd_1n hr]; exact h3
def ctK (x : Nat → Int) (n : Nat) (c : Int) : Nat → Int
  | 0 => c
  | k + 1 => ctK x n c k - partOf (ctK x n c k) (x k) (psum x n - psum x k)
theorem ctK_succ (x : Nat → Int) (n : Nat) (c : Int) (k : Nat) : ctK x n c (k + 1) = ctK x n c k - partOf (ctK x n c k) (x k) (psum x n - psum x k) := rfl
def stV (x : Nat → Int) (n : Nat) (c : Int) (k : Nat) : Int := partOf (ctK x n c k) (x k) (psum x n - psum x k)
def stP (c : Int) (x : Nat → Int) (n : Nat) : Prop := (0 ≤ c ∧ c ≤ 1000000000) ∧ weP x n
/-- behind k there is still the weight k -/
theorem behind_le {x : Nat → Int} {n k : Nat} (h : weP x n) (hk : k < n) : 0 ≤ x k ∧ x k ≤ psum x n - psum x k ∧ psum x n - psum x k ≤ 24000000000 ∧ psum x n - psum x (k + 1) = psum x n - psum x k - x k := by
  have h0 := (h.2.1 k hk).1
  have h1 := psum_bd (k := k + 1) (fun j hj => (h.2.1 j hj).1) (show k + 1 ≤ n by omega)
  have h2 := psum_bd (k := k) (fun j hj => (h.2.1 j hj).1) (show k ≤ n by omega)
  have h3 := psum_succ x k
  have h4 := weP_sum h
  omega
/-- where nothing is behind, nothing comes -/
theorem behind_zero {x : Nat → Int} {n k : Nat} (h : weP x n) (hz : psum x n - psum x k = 0) : ∀ d, k + d ≤ n → psum x n - psum x (k + d) = 0
  | 0, _ => hz
  | d + 1, hd => by
    have h1 := behind_zero h hz d (by omega)
    have h2 := behind_le h (show k + d < n by omega)
    rw [show k + (d + 1) = k + d + 1 from rfl]; omega
theorem stV_zero {x : Nat → Int} {n k j : Nat} {c : Int} (h : weP x n) (hz : psum x n - psum x k = 0) (hkj : k ≤ j) (hj : j < n) : stV x n c j = 0 := by
  have := behind_zero h hz (j - k) (by omega)
  rw [show k + (j - k) = j by omega] at this
  unfold stV partOf; rw [if_pos this]
set_option maxRecDepth 100000 in
set_option maxHeartbeats 4000000 in
theorem specWeights_any (A : Option Addr) (n c : Nat) (x : Nat → Int) (w : World) (hn : n ≤ 1048576) (hs : SL w A n (fun j => .int .i64 (x j))) :
    Calls Try.prog 67 #[.slice A n c] w fun e w' => ∃ s : Int, e = .returned (.tuple #[.int .i64 s, .bool (tru (weP x n))]) ∧ (weP x n → s = psum x n) ∧ w = w' := by
  have HC := cells_a hs
  clear hs
  go_enter Try.func67, Try.ntmps67
  go_wp2
  go_loop [4, 5, 8] (fun s _ i => ∃ (k : Nat) (S : Int), k ≤ n ∧ i = .int .i64 k ∧ s = .int .i64 S ∧ 0 ≤ S ∧ S ≤ 1000000000 * (k : Int) ∧ Hid (S = psum x k) ∧ Hid (∀ j, j < k → 0 ≤ x j ∧ x j ≤ 1000000000)) (fun _ _ i => n - (intOf i).toNat)
  case atStart => exact ⟨0, 0, Nat.zero_le _, rfl, rfl, by omega, by simp, rfl, fun j hj => absurd hj (by omega)⟩
  case round =>
    obtain ⟨k, S, hk, rfl, rfl, S0, S1, hS, hg⟩ := hrel
    by_cases hlt : k < n
    · obtain ⟨b1, off, rfl, hb1, hxk⟩ := HC.out k hlt
      cases hp : inB (x k) 0 1000000000
      · have HT := hide (tru_no (show ¬ weP x n from fun h => by rw [inB_yes (h.2.1 k hlt)] at hp; cases hp))
        have HN := hide (show ¬ weP x n from fun h => by rw [inB_yes (h.2.1 k hlt)] at hp; cases hp)
        go_wp2_with (go_at_call 68; refine (specIn_any _ _ _ _).mono ?_; rintro e w' ⟨rfl, rfl⟩)
        go_ret2
        exact ⟨0, by rw [HT.out]; rfl, fun h => absurd h HN.out, rfl⟩
      · obtain ⟨x0, x1⟩ := inB_iff.1 hp
        have HE := hide (inB_iff.1 hp)
        go_wp2_with (go_at_call 68; refine (specIn_any _ _ _ _).mono ?_; rintro e w' ⟨rfl, rfl⟩)
        clear hp
        go_round
        case rel => exact ⟨k + 1, _, by omega, by go_num, rfl, by omega, by push_cast; omega, by show S + x k = psum x (k + 1); rw [psum_succ, hS.out], by
          intro j hj
          by_cases hjk : j = k
          · subst hjk; exact HE.out
          · exact hg.out j (by omega)⟩
        case measure => simp [intOf]; omega
    · obtain rfl : k = n := by omega
      by_cases h24 : (k : Int) ≤ 24
      · have h24d : decide ((k : Int) ≤ 24) = true := decide_eq_true h24
        by_cases hpos : 0 < S
        · have HT := hide (tru_yes (show weP x k from ⟨⟨by omega, by omega⟩, hg.out, by rw [← hS.out]; omega⟩))
          have hpd : decide (0 < S) = true := decide_eq_true hpos
          go_wp2
          go_ret2
          exact ⟨S, by rw [HT.out]; rfl, fun _ => hS.out, rfl⟩
        · have HT := hide (tru_no (show ¬ weP x k from fun h => h.2.2 (by rw [← hS.out]; omega)))
          have HN := hide (show ¬ weP x k from fun h => h.2.2 (by rw [← hS.out]; omega))
          have hpd : decide (0 < S) = false := decide_eq_false hpos
          go_wp2
          go_ret2
          exact ⟨S, by rw [HT.out]; rfl, fun h => absurd h HN.out, rfl⟩
      · have h24d : decide ((k : Int) ≤ 24) = false := decide_eq_false h24
        have HN := hide (show ¬ weP x k from fun h => h24 (by have := h.1.2; omega))
        have HT := hide (tru_no HN.out)
        go_wp2
        go_ret2
        exact ⟨S, by rw [HT.out]; rfl, fun h => absurd h HN.out, rfl⟩
set_option maxHeartbeats 4000000 in
theorem implWeights_any (A : Option Addr) (n c : Nat) (x : Nat → Int) (w : World) (hn : n ≤ 1048576) (hs : SL w A n (fun j => .int .i64 (x j))) :
    Calls Try.prog 71 #[.slice A n c] w fun e w' => e = .returned (.bool (tru (weP x n))) ∧ Below w.heap.size w w' := by
  have HA := hide (areAll_isSum A n c x 1 24 w (by unfold maxLen; omega) hs)
  have HSL := hide hs
  clear hs
  by_cases ha : allP x n 1 24 0 1000000000
  · have HAT := hide (tru_yes ha)
    have HAP := hide ha
    clear ha
    go_enter Try.func71, Try.ntmps71
    go_wp2_with fail
    refine HA.out.mono ?_
    rw [HAT.out]
    rintro e w1 ⟨rfl, hb⟩
    have HB := hide hb
    have HS := hide (sumBy_itself A n c x w1 hn (fun j hj => by have := HAP.out.2 j hj; omega) (HSL.out.below hb))
    clear hb
    go_wp2_with fail
    refine HS.out.mono ?_
    rintro e w' ⟨rfl, rfl⟩
    by_cases hz : psum x n = 0
    · have HT := hide (tru_no (show ¬ weP x n from fun h => h.2.2 hz))
      have hb0 : (psum x n != 0) = false := by rw [bne_eq_false_iff_eq]; exact hz
      have hb1 : (psum x n == 0) = true := by rw [beq_iff_eq]; exact hz
      clear hz
      go_wp2
      go_ret
      exact ⟨retBa HT.out.symm, HB.out⟩
    · have HT := hide (tru_yes (show weP x n from ⟨⟨by have := HAP.out.1.1; omega, by have := HAP.out.1.2; omega⟩, HAP.out.2, hz⟩))
      have hb0 : (psum x n != 0) = true := by rw [bne_iff_ne]; exact hz
      have hb1 : (psum x n == 0) = false := by rw [beq_eq_false_iff_ne]; exact hz
      clear hz
      go_wp2
      go_ret
      exact ⟨retBa HT.out.symm, HB.out⟩
  · have HAT := hide (tru_no ha)
    have HT := hide (tru_no (show ¬ weP x n from fun h => ha ⟨⟨by have := h.1.1; omega, by have := h.1.2; omega⟩, h.2.1⟩))
    clear ha
    go_enter Try.func71, Try.ntmps71
    go_wp2_with fail
    refine HA.out.mono ?_
    rw [HAT.out]
    rintro e w1 ⟨rfl, hb⟩
    have HB := hide hb
    clear hb
    go_wp2
    go_ret
    exact ⟨retBa HT.out.symm, HB.out⟩
end Go.Proofs.Ytggpfaokmkhhdaa
