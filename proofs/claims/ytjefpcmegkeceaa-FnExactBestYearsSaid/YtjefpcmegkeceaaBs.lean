/- BestSpan, by both. -/
import Derived.Test.YtjefpcmegkeceaaGp
import Derived.Test.YtjefpcmegkeceaaLi
import Derived.Test.YtjefpcmegkeceaaGl
import Derived.Test.YtjefpcmegkeceaaOx
import Derived.Test.YtjefpcmegkeceaaP7
namespace Go.Proofs.Ytjefpcmegkeceaa
open Go.RowKit Go.Dues
theorem ret_no3 {p : Prop} {u v : Int} (h : ¬ p) : Ending.returned (.tuple #[.int .i64 0, .int .i64 0, .bool false]) = .returned (.tuple #[.int .i64 (ifV p u), .int .i64 (ifV p v), .bool (tru p)]) := by rw [ifV_no h, ifV_no h, tru_no h]
theorem ret_yes3 {p : Prop} {u v a b : Int} (h : p) (ha : a = u) (hb : b = v) : Ending.returned (.tuple #[.int .i64 a, .int .i64 b, .bool true]) = .returned (.tuple #[.int .i64 (ifV p u), .int .i64 (ifV p v), .bool (tru p)]) := by rw [ifV_yes h, ifV_yes h, tru_yes h, ha, hb]
def bsB (x : Nat → Int) (n : Nat) (c : Int) : Nat := bX (bsS x c.toNat) (n + 1 - c.toNat)
def bsV (x : Nat → Int) (n : Nat) (c : Int) : Int := bsS x c.toNat (bsB x n c)
def bsP (x : Nat → Int) (n : Nat) (c : Int) : Prop := allP x n 1 60 0 1000000000000 ∧ (1 ≤ c ∧ c ≤ n) ∧ bsV x n c ≤ 1000000000000
def bsM (z : Nat → Int) (k : Nat) : Int := if k = 0 then -1 else z (bX z k)
theorem bs_yes {z : Nat → Int} {k : Nat} (h : bsM z k < z k) (h0 : 0 ≤ z 0) : bX z (k + 1) = k ∧ bsM z (k + 1) = z k := by
  have e : bX z (k + 1) = k := by
    rcases k with _ | k
    · exact bX_one z
    · exact bX_yes (by unfold bsM at h; rw [if_neg (by omega)] at h; exact h)
  refine ⟨e, ?_⟩
  unfold bsM
  rw [if_neg (by omega), e]
theorem bs_no {z : Nat → Int} {k : Nat} (h : ¬ bsM z k < z k) (h0 : 0 ≤ z k) : bX z (k + 1) = bX z k ∧ bsM z (k + 1) = bsM z k := by
  have hk : k ≠ 0 := by
    rintro rfl
    unfold bsM at h
    rw [if_pos rfl] at h
    omega
  have h2 := h
  unfold bsM at h2
  rw [if_neg hk] at h2
  have e := bX_no h2
  refine ⟨e, ?_⟩
  unfold bsM
  rw [if_neg (by omega), if_neg hk, e]
theorem sub_sl {w : World} {b off n c k : Nat} {x : Nat → Int} (hb : b < w.heap.size) (h : ∀ j, j < n → w.cell? ⟨b, off + j, none⟩ = some (.int .i64 (x j))) (hk : k + c ≤ n) : SL w (some ⟨b, off + k, none⟩) c (fun j => .int .i64 (x (k + j))) :=
  .inr ⟨b, off + k, rfl, hb, fun j hj => by rw [Nat.add_assoc]; exact h (k + j) (by omega)⟩
def cpP (x : Nat → Int) (n : Nat) (c : Int) : Prop := allP x n 1 60 0 1000000000000 ∧ (1 ≤ c ∧ c ≤ n)
set_option maxHeartbeats 4000000 in
theorem implCounted_any (A : Option Addr) (n d : Nat) (x : Nat → Int) (c : Int) (w : World) (hn : n ≤ maxLen) (hs : SL w A n (fun j => .int .i64 (x j))) :
    Calls Try.prog 67 #[.slice A n d, .int .i64 c] w fun e w' => e = .returned (.bool (tru (cpP x n c))) ∧ Below w.heap.size w w' := by
  have HA := hide (areAll_isAmount A n d x 1 60 w hn hs)
  clear hs
  unfold maxLen at hn
  by_cases hall : allP x n 1 60 0 1000000000000
  rotate_left
  · have HAT := hide (tru_no hall)
    have HT := hide (tru_no (show ¬ cpP x n c from fun h => hall h.1))
    clear hall
    go_enter Try.func67, Try.ntmps67
    go_wp2_with (go_at_call 61; go_in)
    refine HA.out.mono ?_
    rw [HAT.out]
    rintro e w1 ⟨rfl, hb⟩
    go_wp2
    go_ret
    exact ⟨retBa HT.out.symm, hb⟩
  have HAT := hide (tru_yes hall)
  have HAL := hide hall
  clear hall
  cases gg : inB c 1 (n : Int)
  · have HT := hide (tru_no (show ¬ cpP x n c from fun h => by rw [inB_yes h.2] at gg; cases gg))
    go_enter Try.func67, Try.ntmps67
    go_wp2_with (go_at_call 61; go_in)
    refine HA.out.mono ?_
    rw [HAT.out]
    rintro e w1 ⟨rfl, hb⟩
    have HB := hide hb
    clear hb
    go_wp2_with (go_at_call 49; refine (implWithin_any _ _ _ _ ).mono ?_; rintro e w' ⟨rfl, rfl⟩)
    go_ret
    exact ⟨retBa HT.out.symm, HB.out⟩
  · have HT := hide (tru_yes (show cpP x n c from ⟨HAL.out, inB_iff.1 gg⟩))
    go_enter Try.func67, Try.ntmps67
    go_wp2_with (go_at_call 61; go_in)
    refine HA.out.mono ?_
    rw [HAT.out]
    rintro e w1 ⟨rfl, hb⟩
    have HB := hide hb
    clear hb
    go_wp2_with (go_at_call 49; refine (implWithin_any _ _ _ _ ).mono ?_; rintro e w' ⟨rfl, rfl⟩)
    go_ret
    exact ⟨retBa HT.out.symm, HB.out⟩
set_option maxRecDepth 100000 in
set_option maxHeartbeats 8000000 in
theorem specBestSpan_any (A : Option Addr) (n _n : Nat) (x : Nat → Int) (c : Int) (w : World) (hn_n : n ≤ maxLen) (hs_n : SL w A n (fun j => .int .i64 (x j))) :
    Calls Try.prog 29 #[.slice A n n, .int .i64 c] w fun e w' => e = .returned (.tuple #[.int .i64 (ifV (bsP x n c) (bsB x n c : Nat)), .int .i64 (ifV (bsP x n c) (bsV x n c)), .bool (tru (bsP x n c))]) ∧ Below w.heap.size w w' := by
  obtain ⟨i0, hi, hz0, hz1, hz2⟩ := info_parts Try.info64
  unfold maxLen at hn_n
  have HB0 := hide (Below.refl w.heap.size w)
  have HS0_0 := hide hs_n
  clear hs_n
  by_cases hall0 : allP x n 1 60 0 1000000000000
  rotate_left
  · have HAT0 := hide (tru_no hall0)
    have HH := hide (show ¬ bsP x n c from fun h => hall0 (h.1))
    clear hall0
    go_enter Try.func29, Try.ntmps29
    go_wp2_with (first | (go_at_call 54; refine (specCents_any _ _ ).mono ?_; rintro e w' ⟨rfl, rfl⟩) | (go_at_call 55; refine (specRate_any _ _ ).mono ?_; rintro e w' ⟨rfl, rfl⟩) | (go_at_call 46; refine (specIn_any _ _ _ _ ).mono ?_; rintro e w' ⟨rfl, rfl⟩) | (go_at_call 58; go_in))
    refine (specAmts_any A n n x 60 _ (by unfold maxLen; omega) HS0_0.out).mono ?_
    rw [HAT0.out]
    rintro e W1 ⟨rfl, hbe⟩
    have HB1 : Hid (Below w.heap.size w W1) := by rw [← hbe]; exact HB0.out
    have HS0_1 : Hid (SL W1 A n (fun j => .int .i64 (x j))) := by rw [← hbe]; exact HS0_0.out
    clear hbe
    go_wp2_with (first | (go_at_call 54; refine (specCents_any _ _ ).mono ?_; rintro e w' ⟨rfl, rfl⟩) | (go_at_call 55; refine (specRate_any _ _ ).mono ?_; rintro e w' ⟨rfl, rfl⟩) | (go_at_call 46; refine (specIn_any _ _ _ _ ).mono ?_; rintro e w' ⟨rfl, rfl⟩) | (go_at_call 58; go_in))
    go_ret3
    exact ⟨ret_no3 HH.out, HB1.out⟩
  have HAT0 := hide (tru_yes hall0)
  have HAL0 := hide hall0
  clear hall0
  cases gg1 : inB c (1) ((n : Int))
  · have HH := hide (show ¬ bsP x n c from fun h => by rw [inB_yes (h.2.1)] at gg1; cases gg1)
    go_enter Try.func29, Try.ntmps29
    go_wp2_with (first | (go_at_call 54; refine (specCents_any _ _ ).mono ?_; rintro e w' ⟨rfl, rfl⟩) | (go_at_call 55; refine (specRate_any _ _ ).mono ?_; rintro e w' ⟨rfl, rfl⟩) | (go_at_call 46; refine (specIn_any _ _ _ _ ).mono ?_; rintro e w' ⟨rfl, rfl⟩) | (go_at_call 58; go_in))
    refine (specAmts_any A n n x 60 _ (by unfold maxLen; omega) HS0_0.out).mono ?_
    rw [HAT0.out]
    rintro e W1 ⟨rfl, hbe⟩
    have HB1 : Hid (Below w.heap.size w W1) := by rw [← hbe]; exact HB0.out
    have HS0_1 : Hid (SL W1 A n (fun j => .int .i64 (x j))) := by rw [← hbe]; exact HS0_0.out
    clear hbe
    go_wp2_with (first | (go_at_call 54; refine (specCents_any _ _ ).mono ?_; rintro e w' ⟨rfl, rfl⟩) | (go_at_call 55; refine (specRate_any _ _ ).mono ?_; rintro e w' ⟨rfl, rfl⟩) | (go_at_call 46; refine (specIn_any _ _ _ _ ).mono ?_; rintro e w' ⟨rfl, rfl⟩) | (go_at_call 58; go_in))
    go_ret3
    exact ⟨ret_no3 HH.out, HB1.out⟩
  have HG1 := hide (inB_iff.1 gg1)
  have n60 := HAL0.out.1.2
  obtain ⟨C, rfl⟩ : ∃ C : Nat, c = C := ⟨c.toNat, by have := HG1.out; omega⟩
  have C0 : 1 ≤ C := by have := HG1.out; omega
  have C1 : C ≤ n := by have := HG1.out; omega
  obtain ⟨b, off, hAe, hb, hc⟩ := (HS0_0.out.at_ (by omega))
  have HCA := hide hc
  obtain ⟨K, hK⟩ : ∃ K, n + 1 - C = K := ⟨_, rfl⟩
  have HSB := hide (fun i (hi : i < K) => bsS_bd (c := C) (i := i) HAL0.out.2 (by omega) (by omega))
  have HBV := hide (show bsB x n C = bX (bsS x C) K ∧ bsV x n C = bsS x C (bX (bsS x C) K) from ⟨by unfold bsB; rw [Int.toNat_natCast, hK], by unfold bsV bsB; rw [Int.toNat_natCast, hK]⟩)
  have K1 : 1 ≤ K := by omega
  have KI : ∀ k : Nat, ((C + k : Nat) : Int) ≤ (n : Int) ↔ k < K := fun k => by omega
  have HKI := hide KI
  have HAE := hide hAe
  clear KI hc hAe
  go_enter Try.func29, Try.ntmps29
  go_wp2_with (first | (go_at_call 54; refine (specCents_any _ _ ).mono ?_; rintro e w' ⟨rfl, rfl⟩) | (go_at_call 55; refine (specRate_any _ _ ).mono ?_; rintro e w' ⟨rfl, rfl⟩) | (go_at_call 46; refine (specIn_any _ _ _ _ ).mono ?_; rintro e w' ⟨rfl, rfl⟩) | (go_at_call 58; go_in))
  refine (specAmts_any A n n x 60 _ (by unfold maxLen; omega) HS0_0.out).mono ?_
  rw [HAT0.out]
  rintro e W1 ⟨rfl, hbe⟩
  have HB1 : Hid (Below w.heap.size w W1) := by rw [← hbe]; exact HB0.out
  have HS0_1 : Hid (SL W1 A n (fun j => .int .i64 (x j))) := by rw [← hbe]; exact HS0_0.out
  clear hbe
  have hAe := HAE.out
  clear HAE
  subst hAe
  go_wp2_with (first | (go_at_call 54; refine (specCents_any _ _ ).mono ?_; rintro e w' ⟨rfl, rfl⟩) | (go_at_call 55; refine (specRate_any _ _ ).mono ?_; rintro e w' ⟨rfl, rfl⟩) | (go_at_call 46; refine (specIn_any _ _ _ _ ).mono ?_; rintro e w' ⟨rfl, rfl⟩) | (go_at_call 58; go_in))
  clear gg1
  have hbk : b < W1.heap.size := Nat.lt_of_lt_of_le hb HB1.out.size
  have HCW : Hid (∀ j, j < n → W1.cell? ⟨b, off + j, none⟩ = some (.int .i64 (x j))) := fun j hj => (HB1.out.cell (p := ⟨b, off + j, none⟩) hb).trans (HCA.out j hj)
  go_loop [7, 8, 9, 10] (fun b1 m i _ => ∃ (k : Nat) (M : Int), k ≤ K ∧ i = .int .i64 k ∧ b1 = .int .i64 (bX (bsS x C) k : Nat) ∧ m = .int .i64 M ∧ -1 ≤ M ∧ M ≤ 60000000000000 ∧ Hid (M = bsM (bsS x C) k)) (fun _ _ i _ => n + 1 - (intOf i).toNat)
  case atStart => exact ⟨0, -1, Nat.zero_le _, rfl, rfl, rfl, by omega, by omega, rfl⟩
  case round =>
    obtain ⟨k, M, hk, rfl, rfl, rfl, M0, M1, hM⟩ := hrel
    by_cases hlt : k < K
    · have hle : (k : Int) + (C : Int) ≤ (n : Int) := by omega
      have HSUB := hide (sub_sl (x := x) (b := b) (off := off) (k := k) (c := C) (n := n) (w := W1) (by omega) HCW.out (by omega))
      obtain ⟨z0, z1⟩ := HSB.out k hlt
      have HZ0 := HSB.out 0 (by omega)
      obtain ⟨Z, hZ⟩ : ∃ Z, bsS x C k = Z := ⟨_, rfl⟩
      rw [hZ] at z0 z1
      have HZ := hide hZ
      have hkc : k + C ≤ n := by omega
      have hkn : k < n := by omega
      clear hZ
      go_wp2_with fail
      refine (specSum6_any _ C _ (fun j => x (k + j)) _ (by omega) (fun j hj => by have := HAL0.out.2 (k + j) (by omega); omega) HSUB.out).mono ?_
      rintro e w' ⟨rfl, rfl⟩
      rw [show psum (fun j => x (k + j)) C = Z from HZ.out]
      by_cases hmz : M < Z
      · have HY := hide (bs_yes (z := bsS x C) (k := k) (by rw [← hM.out, HZ.out]; exact hmz) HZ0.1)
        go_wp2
        go_round
        case rel => exact ⟨k + 1, Z, by omega, by go_num, by rw [HY.out.1], rfl, by omega, by omega, HZ.out.symm.trans HY.out.2.symm⟩
        case measure => simp [intOf]; omega
      · have HY := hide (bs_no (z := bsS x C) (k := k) (by rw [← hM.out, HZ.out]; exact hmz) (by rw [HZ.out]; exact z0))
        go_wp2
        go_round
        case rel => exact ⟨k + 1, M, by omega, by go_num, by rw [HY.out.1], rfl, by omega, by omega, hM.out.trans HY.out.2.symm⟩
        case measure => simp [intOf]; omega
    · obtain rfl : k = K := by omega
      have hle : ¬ (k : Int) + (C : Int) ≤ (n : Int) := by omega
      have hMV : M = bsS x C (bX (bsS x C) k) := by rw [hM.out]; unfold bsM; rw [if_neg (by omega)]
      rw [← hMV] at HBV
      cases gv : amtB M
      · have HH := hide (show ¬ bsP x n C from fun h => by rw [amtB_yes ⟨by have := HSB.out _ (bX_lt (bsS x C) K1); omega, by have := h.2.2; rw [HBV.out.2] at this; exact this⟩] at gv; cases gv)
        clear hMV
        go_wp2_with (first | (go_at_call 54; refine (specCents_any _ _ ).mono ?_; rintro e w' ⟨rfl, rfl⟩) | (go_at_call 55; refine (specRate_any _ _ ).mono ?_; rintro e w' ⟨rfl, rfl⟩) | (go_at_call 46; refine (specIn_any _ _ _ _ ).mono ?_; rintro e w' ⟨rfl, rfl⟩) | (go_at_call 58; go_in))
        go_ret3
        exact ⟨ret_no3 HH.out, HB1.out⟩
      · have HH := hide (show bsP x n C from ⟨HAL0.out, HG1.out, by rw [HBV.out.2]; exact (amtB_iff.1 gv).2⟩)
        clear hMV
        go_wp2_with (first | (go_at_call 54; refine (specCents_any _ _ ).mono ?_; rintro e w' ⟨rfl, rfl⟩) | (go_at_call 55; refine (specRate_any _ _ ).mono ?_; rintro e w' ⟨rfl, rfl⟩) | (go_at_call 46; refine (specIn_any _ _ _ _ ).mono ?_; rintro e w' ⟨rfl, rfl⟩) | (go_at_call 58; go_in))
        go_ret3
        exact ⟨ret_yes3 HH.out (by rw [HBV.out.1]) (by rw [HBV.out.2]), HB1.out⟩
end Go.Proofs.Ytjefpcmegkeceaa
