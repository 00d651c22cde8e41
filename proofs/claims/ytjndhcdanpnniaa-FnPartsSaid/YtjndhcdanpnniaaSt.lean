/- SplitInTurn, by both. -/
import Derived.Test.YtjndhcdanpnniaaAl
import Derived.Test.YtjndhcdanpnniaaTw
import Derived.Test.YtjndhcdanpnniaaLn
namespace Go.Proofs.Ytjndhcdanpnniaa
open Go.RowKit Go.Dues
def weP (x : Nat → Int) (n : Nat) : Prop := (1 ≤ n ∧ n ≤ 24) ∧ (∀ j, j < n → 0 ≤ x j ∧ x j ≤ 1000000000) ∧ psum x n ≠ 0
theorem weP_sum {x : Nat → Int} {n : Nat} (h : weP x n) : 1 ≤ psum x n ∧ psum x n ≤ 24000000000 := by
  have h1 := psum_bd (k := n) (fun j hj => (h.2.1 j hj).1) (Nat.le_refl _)
  have h2 := psum_abs (M := 1000000000) (fun j hj => ⟨by have := (h.2.1 j hj).1; omega, (h.2.1 j hj).2⟩) n (Nat.le_refl _)
  have h3 := h.2.2
  have h4 := h.1.2
  constructor
  · omega
  · omega
def partOf (c x W : Int) : Int := if W = 0 then 0 else rnd (c * x) W 1
theorem part_bd {c x W : Int} (c0 : 0 ≤ c) (x0 : 0 ≤ x) (xW : x ≤ W) (W0 : 0 < W) : 0 ≤ rnd (c * x) W 1 ∧ rnd (c * x) W 1 ≤ c := by
  have ha : 0 ≤ c * x := Int.mul_nonneg c0 x0
  have hb : c * x ≤ c * W := Int.mul_le_mul_of_nonneg_left xW c0
  have h0 := rnd1_bd (a := c * x) (b := W) ha (by omega)
  refine ⟨h0.1, ?_⟩
  have h1 := Int.mul_ediv_add_emod (c * x) W
  have h2 : 0 ≤ c * x % W := Int.emod_nonneg _ (by omega)
  have h3 : c * x / W ≤ c := by
    have := Int.ediv_le_ediv (by omega : 0 < W) hb
    rwa [Int.mul_ediv_cancel _ (by omega)] at this
  by_cases hr : W - c * x % W ≤ c * x % W
  · rw [rnd_1y hr]
    rcases Int.lt_or_eq_of_le h3 with h | h
    · omega
    · exfalso
      rw [h, Int.mul_comm W c] at h1
      omega
  · rw [rnd_1n hr]; exact h3
def ctK (x : Nat → Int) (n : Nat) (c : Int) : Nat → Int
  | 0 => c
  | k + 1 => ctK x n c k - partOf (ctK x n c k) (x k) (psum x n - psum x k)
theorem ctK_succ (x : Nat → Int) (n : Nat) (c : Int) (k : Nat) : ctK x n c (k + 1) = ctK x n c k - partOf (ctK x n c k) (x k) (psum x n - psum x k) := rfl
def stV (x : Nat → Int) (n : Nat) (c : Int) (k : Nat) : Int := partOf (ctK x n c k) (x k) (psum x n - psum x k)
def stP (c : Int) (x : Nat → Int) (n : Nat) : Prop := (0 ≤ c ∧ c ≤ 1000000000) ∧ weP x n
/-- behind k there is still the weight k -/
theorem behind_le {x : Nat → Int} {n k : Nat} (h : weP x n) (hk : k < n) : 0 ≤ x k ∧ x k ≤ psum x n - psum x k ∧ psum x n - psum x k ≤ 24000000000 ∧ psum x n - psum x (k + 1) = psum x n - psum x k - x k := by
  have h0 := (h.2.1 k hk).1
  have h1 := psum_bd (k := k + 1) (fun j hj => (h.2.1 j hj).1) (show k + 1 ≤ n by omega)
  have h2 := psum_bd (k := k) (fun j hj => (h.2.1 j hj).1) (show k ≤ n by omega)
  have h3 := psum_succ x k
  have h4 := weP_sum h
  omega
/-- where nothing is behind, nothing comes -/
theorem behind_zero {x : Nat → Int} {n k : Nat} (h : weP x n) (hz : psum x n - psum x k = 0) : ∀ d, k + d ≤ n → psum x n - psum x (k + d) = 0
  | 0, _ => hz
  | d + 1, hd => by
    have h1 := behind_zero h hz d (by omega)
    have h2 := behind_le h (show k + d < n by omega)
    rw [show k + (d + 1) = k + d + 1 from rfl]; omega
theorem stV_zero {x : Nat → Int} {n k j : Nat} {c : Int} (h : weP x n) (hz : psum x n - psum x k = 0) (hkj : k ≤ j) (hj : j < n) : stV x n c j = 0 := by
  have := behind_zero h hz (j - k) (by omega)
  rw [show k + (j - k) = j by omega] at this
  unfold stV partOf; rw [if_pos this]
set_option maxRecDepth 100000 in
set_option maxHeartbeats 4000000 in
theorem specWeights_any (A : Option Addr) (n c : Nat) (x : Nat → Int) (w : World) (hn : n ≤ 1048576) (hs : SL w A n (fun j => .int .i64 (x j))) :
    Calls Try.prog 89 #[.slice A n c] w fun e w' => ∃ s : Int, e = .returned (.tuple #[.int .i64 s, .bool (tru (weP x n))]) ∧ (weP x n → s = psum x n) ∧ w = w' := by
  have HC := cells_a hs
  clear hs
  go_enter Try.func89, Try.ntmps89
  go_wp2
  go_loop [4, 5, 8] (fun s _ i => ∃ (k : Nat) (S : Int), k ≤ n ∧ i = .int .i64 k ∧ s = .int .i64 S ∧ 0 ≤ S ∧ S ≤ 1000000000 * (k : Int) ∧ Hid (S = psum x k) ∧ Hid (∀ j, j < k → 0 ≤ x j ∧ x j ≤ 1000000000)) (fun _ _ i => n - (intOf i).toNat)
  case atStart => exact ⟨0, 0, Nat.zero_le _, rfl, rfl, by omega, by simp, rfl, fun j hj => absurd hj (by omega)⟩
  case round =>
    obtain ⟨k, S, hk, rfl, rfl, S0, S1, hS, hg⟩ := hrel
    by_cases hlt : k < n
    · obtain ⟨b1, off, rfl, hb1, hxk⟩ := HC.out k hlt
      cases hp : inB (x k) 0 1000000000
      · have HT := hide (tru_no (show ¬ weP x n from fun h => by rw [inB_yes (h.2.1 k hlt)] at hp; cases hp))
        have HN := hide (show ¬ weP x n from fun h => by rw [inB_yes (h.2.1 k hlt)] at hp; cases hp)
        go_wp2_with (go_at_call 90; refine (specIn_any _ _ _ _).mono ?_; rintro e w' ⟨rfl, rfl⟩)
        go_ret2
        exact ⟨0, by rw [HT.out]; rfl, fun h => absurd h HN.out, rfl⟩
      · obtain ⟨x0, x1⟩ := inB_iff.1 hp
        have HE := hide (inB_iff.1 hp)
        go_wp2_with (go_at_call 90; refine (specIn_any _ _ _ _).mono ?_; rintro e w' ⟨rfl, rfl⟩)
        clear hp
        go_round
        case rel => exact ⟨k + 1, _, by omega, by go_num, rfl, by omega, by push_cast; omega, by show S + x k = psum x (k + 1); rw [psum_succ, hS.out], by
          intro j hj
          by_cases hjk : j = k
          · subst hjk; exact HE.out
          · exact hg.out j (by omega)⟩
        case measure => simp [intOf]; omega
    · obtain rfl : k = n := by omega
      by_cases h24 : (k : Int) ≤ 24
      · have h24d : decide ((k : Int) ≤ 24) = true := decide_eq_true h24
        by_cases hpos : 0 < S
        · have HT := hide (tru_yes (show weP x k from ⟨⟨by omega, by omega⟩, hg.out, by rw [← hS.out]; omega⟩))
          have hpd : decide (0 < S) = true := decide_eq_true hpos
          go_wp2
          go_ret2
          exact ⟨S, by rw [HT.out]; rfl, fun _ => hS.out, rfl⟩
        · have HT := hide (tru_no (show ¬ weP x k from fun h => h.2.2 (by rw [← hS.out]; omega)))
          have HN := hide (show ¬ weP x k from fun h => h.2.2 (by rw [← hS.out]; omega))
          have hpd : decide (0 < S) = false := decide_eq_false hpos
          go_wp2
          go_ret2
          exact ⟨S, by rw [HT.out]; rfl, fun h => absurd h HN.out, rfl⟩
      · have h24d : decide ((k : Int) ≤ 24) = false := decide_eq_false h24
        have HN := hide (show ¬ weP x k from fun h => h24 (by have := h.1.2; omega))
        have HT := hide (tru_no HN.out)
        go_wp2
        go_ret2
        exact ⟨S, by rw [HT.out]; rfl, fun h => absurd h HN.out, rfl⟩
set_option maxRecDepth 100000 in
set_option maxHeartbeats 8000000 in
theorem specTurn_any (c : Int) (A : Option Addr) (n cc : Nat) (x : Nat → Int) (w : World) (hn : n ≤ 1048576) (hs : SL w A n (fun j => .int .i64 (x j))) :
    Calls Try.prog 19 #[.int .i64 c, .slice A n cc] w fun e w' => Gave1 w w' e (stP c x n) n (stV x n c) := by
  obtain ⟨i0, hi, hz0, hz1, hz2⟩ := info_parts Try.info64
  have HW := hide (specWeights_any A n cc x w hn hs)
  have HC := cells_a hs
  clear hs
  by_cases hw : weP x n
  · have HWE := hide hw
    cases gc : inB c 0 1000000000
    · have HH := hide (show ¬ stP c x n from fun h => by rw [inB_yes h.1] at gc; cases gc)
      clear hw
      go_enter Try.func19, Try.ntmps19
      go_wp2_with fail
      refine HW.out.mono ?_
      rw [tru_yes HWE.out]
      rintro e w' ⟨s, rfl, _, rfl⟩
      go_wp2_with (go_at_call 90; refine (specIn_any _ _ _ _).mono ?_; rintro e w' ⟨rfl, rfl⟩)
      go_ret2
      exact gave1_no HH.out (Below.refl _ _)
    have HH := hide (show stP c x n from ⟨inB_iff.1 gc, hw⟩)
    obtain ⟨c0, c1⟩ := inB_iff.1 gc
    have n24 := hw.1.2
    obtain ⟨t0, t1⟩ := weP_sum hw
    clear hw
    go_enter Try.func19, Try.ntmps19
    go_wp2_with fail
    refine HW.out.mono ?_
    rw [tru_yes HWE.out]
    rintro e w' ⟨s, rfl, hsum, rfl⟩
    obtain rfl := hsum HWE.out
    go_wp2_with (go_at_call 90; refine (specIn_any _ _ _ _).mono ?_; rintro e w' ⟨rfl, rfl⟩)
    clear gc
    have hst : (w.alloc (.cells #[] 2)).ownsRow w.heap.size 2 1 (.slice (some ⟨w.heap.size, 0, none⟩) 0 0) 0 [] :=
      ⟨by simp, .inr ⟨w.heap.size, 0, #[], rfl, Nat.le_refl _, new_at w _, Nat.le_refl 0, by unfold maxLen; omega, rfl, rfl⟩⟩
    go_loopw [0, 6, 8, 26] (fun ct al v i wr => ∃ (k : Nat) (xs : List Value) (C W : Int), k ≤ n ∧ i = .int .i64 k ∧ ct = .int .i64 C ∧ al = .int .i64 W ∧ 0 ≤ C ∧ C ≤ 1000000000 ∧ 0 ≤ W ∧ W ≤ 24000000000 ∧ Hid (C = ctK x n c k) ∧ Hid (W = psum x n - psum x k) ∧ wr.ownsRow w.heap.size 2 1 v k xs ∧ Hid (∀ j, j < k → xs[j]? = some (.int .i64 (stV x n c j))) ∧ Below w.heap.size w wr) (fun _ _ _ i _ => n - (intOf i).toNat)
    case atStart => exact ⟨0, [], c, psum x n, Nat.zero_le _, rfl, rfl, rfl, c0, c1, by omega, by omega, rfl, by show psum x n = psum x n - psum x 0; simp [psum], hst, fun j hj => absurd hj (by omega), (Below.refl w.heap.size w).alloc (Nat.le_refl _) _⟩
    case round =>
      obtain ⟨k, xs, C, W, hk, rfl, rfl, rfl, C0, C1, W0, W1, hC, hW, hown, hxs, hbel⟩ := hrel
      by_cases hlt : k < n
      · obtain ⟨b, off, rfl, hb, hc⟩ := HC.out k hlt
        have hc2 := (hbel.cell (p := ⟨b, off + k, none⟩) hb).trans hc
        have HBB := hide hc
        obtain ⟨x0, xW, _, hnext⟩ := behind_le HWE.out hlt
        rw [← hW.out] at xW hnext
        have x9 := (HWE.out.2.1 k hlt).2
        have hsz := hbel.size
        have HNX := hide hnext
        have HLL := hide (show xs.length = k by have := hown.1; omega)
        clear hnext hc
        by_cases hpos : 0 < W
        · obtain ⟨q0, q1⟩ := part_bd C0 x0 xW hpos
          have HV := hide (show rnd (C * x k) W 1 = stV x n c k by unfold stV partOf; rw [← hC.out, ← hW.out, if_neg (by omega)])
          have HCT := hide (show C - rnd (C * x k) W 1 = ctK x n c (k + 1) by rw [HV.out, show ctK x n c (k + 1) = ctK x n c k - stV x n c k from rfl, ← hC.out])
          have HR := hide (specRounded_any C (x k) W wr C0 (by omega) x0 (by omega) (by omega) (by omega) (by
            have h1 := mul_bd C0 C1 x0 x9
            exact Int.le_trans (Int.ediv_le_self _ h1.1) (by omega)))
          go_wp2_with fail
          refine HR.out.mono ?_
          rintro e w' ⟨rfl, rfl⟩
          go_wp2_with (at_builtin; refine wpList_append_own _ rfl _ _ 24 rfl (w.heap.size) 2 i0 (.int .i64 0) 1 8 Try.underlying24 hi hz0 hz1 hz2 rfl (by decide) _ _ _ rfl (by exact (hown.alloc _)) ⟨_, 0, none⟩ 1 1 [.int .i64 (rnd (C * x k) W 1)] rfl rfl (cell_one_new _ _ _) (by intro u hu; simp at hu; subst hu; rfl) (by unfold maxLen; omega) (by omega) (by simp; omega) ?_)
          intro v' w1 hown' hgrow _
          have hb1 := (hbel.alloc (by omega) (.cells #[.int .i64 (rnd (C * x k) W 1)] 2)).grown hgrow (by simp; omega) (fun j hj => (hown.lt j hj).1)
          have hc3 := (hb1.cell (p := ⟨b, off + k, none⟩) hb).trans (show w.cell? ⟨b, off + k, none⟩ = some (.int .i64 (x k)) from HBB.out)
          have HB1 := hide hb1
          have HON := hide hown'
          clear hgrow hown' hown hbel hc2 hb1
          go_wp2
          go_roundw
          case rel => exact ⟨k + 1, _, _, _, by omega, by go_num, rfl, rfl, by omega, by omega, by omega, by omega, HCT.out, HNX.out.symm, HON.out, own_step HLL.out hxs.out (by rw [HV.out]), HB1.out⟩
          case measure => simp [intOf]; omega
        · have hW0 : W = 0 := by omega
          have HV := hide (show (0 : Int) = stV x n c k by unfold stV partOf; rw [← hW.out, if_pos hW0])
          have HCT2 := hide (show C = ctK x n c (k + 1) by rw [show ctK x n c (k + 1) = ctK x n c k - stV x n c k from rfl, ← HV.out, ← hC.out]; omega)
          clear hW0
          go_wp2_with (at_builtin; refine wpList_append_own _ rfl _ _ 24 rfl (w.heap.size) 2 i0 (.int .i64 0) 1 8 Try.underlying24 hi hz0 hz1 hz2 rfl (by decide) _ _ _ rfl (by exact (hown.alloc _)) ⟨_, 0, none⟩ 1 1 [.int .i64 (0)] rfl rfl (cell_one_new _ _ _) (by intro u hu; simp at hu; subst hu; rfl) (by unfold maxLen; omega) (by omega) (by simp; omega) ?_)
          intro v' w1 hown' hgrow _
          have hb1 := (hbel.alloc (by omega) (.cells #[.int .i64 0] 2)).grown hgrow (by simp; omega) (fun j hj => (hown.lt j hj).1)
          have hc3 := (hb1.cell (p := ⟨b, off + k, none⟩) hb).trans (show w.cell? ⟨b, off + k, none⟩ = some (.int .i64 (x k)) from HBB.out)
          have HB1 := hide hb1
          have HON := hide hown'
          clear hgrow hown' hown hbel hc2 hb1
          go_wp2
          go_roundw
          case rel => exact ⟨k + 1, _, _, _, by omega, by go_num, rfl, rfl, by omega, by omega, by omega, by omega, HCT2.out, HNX.out.symm, HON.out, own_step HLL.out hxs.out (by rw [HV.out]), HB1.out⟩
          case measure => simp [intOf]; omega
      · obtain ⟨Gx, dx, rfl⟩ := own_shape hown
        have HN := hide (show k = n by omega)
        have HO := hide hown
        have HBEL := hide hbel
        clear hown hbel
        go_wp2
        go_ret2
        exact gave1_yes HH.out HN.out (OW.of_owns HO.out hxs.out) HBEL.out
  · have HH := hide (show ¬ stP c x n from fun h => hw h.2)
    have HNW := hide hw
    clear hw
    go_enter Try.func19, Try.ntmps19
    go_wp2_with fail
    refine HW.out.mono ?_
    rw [tru_no HNW.out]
    rintro e w' ⟨s, rfl, _, rfl⟩
    go_wp2_with (go_at_call 90; refine (specIn_any _ _ _ _).mono ?_; rintro e w' ⟨rfl, rfl⟩)
    go_ret2
    exact gave1_no HH.out (Below.refl _ _)
set_option maxHeartbeats 4000000 in
theorem implWeights_any (A : Option Addr) (n c : Nat) (x : Nat → Int) (w : World) (hn : n ≤ 1048576) (hs : SL w A n (fun j => .int .i64 (x j))) :
    Calls Try.prog 84 #[.slice A n c] w fun e w' => e = .returned (.bool (tru (weP x n))) ∧ Below w.heap.size w w' := by
  have HA := hide (areAll_isSum A n c x 1 24 w (by unfold maxLen; omega) hs)
  have HSL := hide hs
  clear hs
  by_cases ha : allP x n 1 24 0 1000000000
  · have HAT := hide (tru_yes ha)
    have HAP := hide ha
    clear ha
    go_enter Try.func84, Try.ntmps84
    go_wp2_with fail
    refine HA.out.mono ?_
    rw [HAT.out]
    rintro e w1 ⟨rfl, hb⟩
    have HB := hide hb
    have HS := hide (sumBy_itself A n c x w1 hn (fun j hj => by have := HAP.out.2 j hj; omega) (HSL.out.below hb))
    clear hb
    go_wp2_with fail
    refine HS.out.mono ?_
    rintro e w' ⟨rfl, rfl⟩
    by_cases hz : psum x n = 0
    · have HT := hide (tru_no (show ¬ weP x n from fun h => h.2.2 hz))
      have hb0 : (psum x n != 0) = false := by rw [bne_eq_false_iff_eq]; exact hz
      have hb1 : (psum x n == 0) = true := by rw [beq_iff_eq]; exact hz
      clear hz
      go_wp2
      go_ret
      exact ⟨retBa HT.out.symm, HB.out⟩
    · have HT := hide (tru_yes (show weP x n from ⟨⟨by have := HAP.out.1.1; omega, by have := HAP.out.1.2; omega⟩, HAP.out.2, hz⟩))
      have hb0 : (psum x n != 0) = true := by rw [bne_iff_ne]; exact hz
      have hb1 : (psum x n == 0) = false := by rw [beq_eq_false_iff_ne]; exact hz
      clear hz
      go_wp2
      go_ret
      exact ⟨retBa HT.out.symm, HB.out⟩
  · have HAT := hide (tru_no ha)
    have HT := hide (tru_no (show ¬ weP x n from fun h => ha ⟨⟨by have := h.1.1; omega, by have := h.1.2; omega⟩, h.2.1⟩))
    clear ha
    go_enter Try.func84, Try.ntmps84
    go_wp2_with fail
    refine HA.out.mono ?_
    rw [HAT.out]
    rintro e w1 ⟨rfl, hb⟩
    have HB := hide hb
    clear hb
    go_wp2
    go_ret
    exact ⟨retBa HT.out.symm, HB.out⟩
set_option maxRecDepth 100000 in
set_option maxHeartbeats 8000000 in
theorem implTurn_any (c : Int) (A : Option Addr) (n cc : Nat) (x : Nat → Int) (w : World) (hn : n ≤ 1048576) (hs : SL w A n (fun j => .int .i64 (x j))) :
    Calls Try.prog 18 #[.int .i64 c, .slice A n cc] w fun e w' => Gave1 w w' e (stP c x n) n (stV x n c) := by
  obtain ⟨i0, hi, hz0, hz1, hz2⟩ := info_parts Try.info64
  have HWT := hide (implWeights_any A n cc x w hn hs)
  have HSL := hide hs
  clear hs
  cases gc : inB c 0 1000000000
  · have HH := hide (show ¬ stP c x n from fun h => by rw [inB_yes h.1] at gc; cases gc)
    go_enter Try.func18, Try.ntmps18
    go_wp2_with (first | (go_at_call 92; refine (implWithin_any _ _ _ _).mono ?_; rintro e w' ⟨rfl, rfl⟩) | (go_at_call 83; go_in))
    go_ret2
    exact gave1_no HH.out (Below.refl _ _)
  by_cases hw : weP x n
  · have HWE := hide hw
    have HH := hide (show stP c x n from ⟨inB_iff.1 gc, hw⟩)
    obtain ⟨c0, c1⟩ := inB_iff.1 gc
    have n24 := hw.1.2
    obtain ⟨t0, t1⟩ := weP_sum hw
    clear hw
    go_enter Try.func18, Try.ntmps18
    go_wp2_with (first | (go_at_call 92; refine (implWithin_any _ _ _ _).mono ?_; rintro e w' ⟨rfl, rfl⟩) | (go_at_call 83; go_in) | (go_at_call 84; fail))
    refine HWT.out.mono ?_
    rw [tru_yes HWE.out]
    rintro e w1 ⟨rfl, hb⟩
    have HB1 := hide hb
    clear hb
    go_wp2_with (at_make; refine wpList_make_full _ rfl _ _ 24 rfl w1.heap.size 2 i0 (.int .i64 0) 1 Try.underlying24 hi hz0 hz1 _ _ _ _ n rfl rfl rfl rfl (by rw [hz2]; omega) (by unfold maxLen; omega) (Nat.le_refl _) ?_; intro w2 hown0 hgrow0)
    have HB2 := hide ((Below.refl w1.heap.size w1).grown hgrow0 (Nat.le_refl _) (fun k h => by cases h))
    have HO0 := hide hown0
    have HSL2 := hide ((HSL.out.below HB1.out).below HB2.out)
    have HC := cells_a (HSL.out.below HB1.out)
    clear hown0 hgrow0
    go_wp2_with fail
    refine (sumBy_itself A n cc x w2 hn (fun j hj => by have := HWE.out.2.1 j hj; omega) HSL2.out).mono ?_
    rintro e w' ⟨rfl, rfl⟩
    go_wp2
    clear gc
    go_loopw [0, 7, 25] (fun ct al i wr => ∃ (k : Nat) (xs : List Value) (C W : Int), k ≤ n ∧ i = .int .i64 k ∧ ct = .int .i64 C ∧ al = .int .i64 W ∧ 0 ≤ C ∧ C ≤ 1000000000 ∧ 0 ≤ W ∧ W ≤ 24000000000 ∧ Hid (C = ctK x n c k) ∧ Hid (W = psum x n - psum x k) ∧ wr.ownsRow w1.heap.size 2 1 (.slice (some ⟨w1.heap.size, 0, none⟩) n n) n xs ∧ Hid (∀ j, j < k → xs[j]? = some (.int .i64 (stV x n c j))) ∧ Hid (∀ j, k ≤ j → j < n → xs[j]? = some (.int .i64 0)) ∧ Below w1.heap.size w1 wr) (fun _ _ i _ => n - (intOf i).toNat)
    case atStart => exact ⟨0, _, c, psum x n, Nat.zero_le _, rfl, rfl, rfl, c0, c1, by omega, by omega, rfl, by show psum x n = psum x n - psum x 0; simp [psum], HO0.out, fun j hj => absurd hj (by omega), (fun j _ hj => by
      rw [Nat.mul_one, show (Value.int .i64 0).cells = #[Value.int .i64 0] from rfl, toList_madeCells_one, List.getElem?_replicate, if_pos hj]), HB2.out⟩
    case round =>
      obtain ⟨k, xs, C, W, hk, rfl, rfl, rfl, C0, C1, W0, W1, hC, hW, hown, hxs, hzs, hbel⟩ := hrel
      by_cases hlt : k < n
      · obtain ⟨b, off, rfl, hb, hc⟩ := HC.out k hlt
        have hc2 := (hbel.cell (p := ⟨b, off + k, none⟩) hb).trans hc
        obtain ⟨x0, xW, _, hnext⟩ := behind_le HWE.out hlt
        rw [← hW.out] at xW hnext
        have x9 := (HWE.out.2.1 k hlt).2
        have HNX := hide hnext
        have HBEL := hide hbel
        have HLL := hide (show xs.length = n by have := hown.1; omega)
        clear hnext hc
        by_cases hz : W = 0
        · have HN := hide (show Gave1 w wr (.returned (.tuple #[.slice (some ⟨w1.heap.size, 0, none⟩) n n, .bool true])) (stP c x n) n (stV x n c) from gave1_yes HH.out rfl ((OW.of_owns hown (fun j hj => by
            by_cases hjk : j < k
            · exact hxs.out j hjk
            · rw [hzs.out j (by omega) hj, stV_zero HWE.out (by rw [← hW.out]; exact hz) (by omega) hj])).wide HB1.out.size (Nat.le_refl _)) (HB1.out.trans (hbel.mono HB1.out.size)))
          have hz1 : (W == 0) = true := by rw [beq_iff_eq]; exact hz
          clear hz hown hbel
          go_wp2
          go_ret2
          exact HN.out
        · have hpos : 0 < W := by omega
          have hz1 : (W == 0) = false := by rw [beq_eq_false_iff_ne]; exact hz
          obtain ⟨q0, q1⟩ := part_bd C0 x0 xW hpos
          obtain ⟨p0, p1⟩ := mul_bd C0 C1 x0 x9
          have HV := hide (show rnd (C * x k) W 1 = stV x n c k by unfold stV partOf; rw [← hC.out, ← hW.out, if_neg (by omega)])
          have HCT := hide (show C - rnd (C * x k) W 1 = ctK x n c (k + 1) by rw [HV.out, show ctK x n c (k + 1) = ctK x n c k - stV x n c k from rfl, ← hC.out])
          obtain ⟨u, hu⟩ : ∃ u, xs[k]? = some u := ⟨xs[k]'(by have := HLL.out; omega), List.getElem?_eq_getElem _⟩
          have hold : wr.cell? ⟨w1.heap.size, k, none⟩ = some u := (hown.cellAt k (by omega)).trans hu
          have hfr := hown.frozenAt k
          have HST := fun (q : Nat) => hide (World.ownsRow.stored (w := wr.drewN q) hown k (.int .i64 (rnd (C * x k) W 1)))
          clear hu hbel hz hown
          go_wp2_with fail
          refine (implRounded_any (C * x k) W 1 _ p0 (by omega) (by omega) (by omega) (by omega)).mono ?_
          rintro e w' ⟨rfl, q, rfl⟩
          go_wp2
          go_roundw
          case rel => exact ⟨k + 1, xs.set k (.int .i64 (rnd (C * x k) W 1)), _, _, by omega, by go_num, rfl, rfl, by omega, by omega, by omega, by omega, HCT.out, HNX.out.symm, (HST q).out.1, (fun j hj => by
            by_cases hjk : j = k
            · subst hjk; rw [List.getElem?_set_self (by have := HLL.out; omega), HV.out]
            · rw [List.getElem?_set_ne (by omega)]; exact hxs.out j (by omega)), (fun j hj1 hj2 => by rw [List.getElem?_set_ne (by omega)]; exact hzs.out j (by omega) hj2), (bel_q HBEL.out q).grown (HST q).out.2 HBEL.out.size (fun j hj => by injection hj with hj; omega)⟩
          case measure => simp [intOf]; omega
      · obtain rfl : k = n := by omega
        have HN := hide (show Gave1 w wr (.returned (.tuple #[.slice (some ⟨w1.heap.size, 0, none⟩) k k, .bool true])) (stP c x k) k (stV x k c) from gave1_yes HH.out rfl ((OW.of_owns hown hxs.out).wide HB1.out.size (Nat.le_refl _)) (HB1.out.trans (hbel.mono HB1.out.size)))
        clear hown hbel
        go_wp2
        go_ret2
        exact HN.out
  · have HH := hide (show ¬ stP c x n from fun h => hw h.2)
    have HNW := hide hw
    clear hw
    go_enter Try.func18, Try.ntmps18
    go_wp2_with (first | (go_at_call 92; refine (implWithin_any _ _ _ _).mono ?_; rintro e w' ⟨rfl, rfl⟩) | (go_at_call 83; go_in) | (go_at_call 84; fail))
    refine HWT.out.mono ?_
    rw [tru_no HNW.out]
    rintro e w1 ⟨rfl, hb⟩
    have HB1 := hide hb
    clear hb
    go_wp2
    go_ret2
    exact gave1_no HH.out HB1.out
end Go.Proofs.Ytjndhcdanpnniaa
