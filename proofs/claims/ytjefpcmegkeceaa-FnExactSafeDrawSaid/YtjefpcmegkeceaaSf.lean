/- SafeDraw, by the reference. -/
import Derived.Test.YtjefpcmegkeceaaDy
namespace Go.Proofs.Ytjefpcmegkeceaa
open Go.RowKit Go.Dues
def sdrP (s : Int) (r : Nat → Int) (n : Nat) : Prop := (0 ≤ s ∧ s ≤ 1000000000) ∧ allP r n 1 60 (-9999) 10000
noncomputable def sdrV (s : Int) (r : Nat → Int) (n : Nat) : Int := (sfG s r n s.toNat : Nat)
theorem sf_neg {c d r : Int} (h : c < d) (c0 : 0 ≤ c) (d1 : d ≤ 1000000001) (r0 : -9999 ≤ r) (r1 : r ≤ 10000) : (-20000020000000 - 1 ≤ (c - d) * (10000 + r) ∧ (c - d) * (10000 + r) ≤ 0) ∧ -20000020001 ≤ ((c - d) * (10000 + r)).tdiv 10000 ∧ ((c - d) * (10000 + r)).tdiv 10000 ≤ 0 := by
  have a := mul_bd (a := d - c) (b := 10000 + r) (M := 1000000001) (N := 20000) (by omega) (by omega) (by omega) (by omega)
  have e : (c - d) * (10000 + r) = -((d - c) * (10000 + r)) := by rw [← Int.neg_mul]; congr 1; omega
  rw [e, Int.neg_tdiv, Int.tdiv_eq_ediv_of_nonneg a.1]
  omega
theorem sdr_end {s : Int} {r : Nat → Int} {n v : Nat} (hr : ∀ j, j < n → -9999 ≤ r j ∧ r j ≤ 10000) (hs : 0 ≤ s) (hv : (v : Int) ≤ s) (h1 : sfP s r n v) (h2 : (v : Int) < s → ¬ sfP s r n ((v : Int) + 1)) : (v : Int) = sdrV s r n := by
  unfold sdrV
  rw [sfG_eq (v := v) (by omega) h1 (fun d hd hm hp => h2 (by omega) (sfP_mono hr (by omega) hp))]
set_option maxRecDepth 100000 in
set_option maxHeartbeats 8000000 in
theorem specSafe_any (s : Int) (A : Option Addr) (n c : Nat) (r : Nat → Int) (w : World) (hs : SL w A n (fun j => .int .i64 (r j))) (hn : n ≤ 60) (s0 : 0 ≤ s) (s1 : s ≤ 1000000000) (R : ∀ j, j < n → -9999 ≤ r j ∧ r j ≤ 10000) :
    Calls Try.prog 79 #[.int .i64 s, .slice A n c] w fun e w' => e = .returned (.int .i64 (sdrV s r n)) ∧ w = w' := by
  have HC := cells_a hs
  have HR := hide R
  have HSB := hide (fun d k (hk : k ≤ n) => sfL_bd (d := d) ⟨s0, show s ≤ 1000000000000 by omega⟩ R k hk)
  have HZ := hide (sfP_zero ⟨s0, show s ≤ 1000000000000 by omega⟩ R)
  have HEND := hide (fun v hv h1 h2 => sdr_end (s := s) (v := v) R s0 hv h1 h2)
  clear hs R
  go_enter Try.func79, Try.ntmps79
  go_wp2
  go_loop [5, 6, 7, 8, 9, 10] (fun a b _ _ _ _ => ∃ (lo hi : Nat), lo ≤ hi ∧ (hi : Int) ≤ s ∧ a = .int .i64 lo ∧ b = .int .i64 hi ∧ Hid (sfP s r n lo) ∧ Hid ((hi : Int) < s → ¬ sfP s r n ((hi : Int) + 1))) (fun a b _ _ _ _ => (intOf b).toNat - (intOf a).toNat)
  case atStart => exact ⟨0, s.toNat, by omega, by omega, rfl, by rw [Int.toNat_of_nonneg s0], HZ.out, fun h => by omega⟩
  case round =>
    obtain ⟨lo, hi', hlh, hhs, rfl, rfl, hL, hH⟩ := hrel
    by_cases hlt : lo < hi'
    · obtain ⟨d, hd⟩ : ∃ d : Nat, lo + (hi' - lo + 1) / 2 = d := ⟨_, rfl⟩
      have hd1 : (lo : Int) + ((hi' : Int) - (lo : Int) + 1) / 2 = (d : Int) := by omega
      have hdl : lo < d := by omega
      have hdh : d ≤ hi' := by omega
      have hdM : (d : Int) ≤ 1000000000 := by omega
      have hlti : (lo : Int) < (hi' : Int) := by omega
      clear hd
      go_wp2
      go_loop [8, 9, 10] (fun t g i => ∃ (k : Nat) (T : Int) (G : Bool), k ≤ n ∧ i = .int .i64 k ∧ t = .int .i64 T ∧ g = .bool G ∧ -20000020001 ≤ T ∧ T ≤ 1000000000000 ∧ Hid ((G = true ∧ T = sfL s r d k ∧ ∀ j, j < k → (d : Int) ≤ sfL s r d j) ∨ (G = false ∧ ¬ sfP s r n d))) (fun _ _ i => n - (intOf i).toNat)
      case atStart => exact ⟨0, s, true, Nat.zero_le _, rfl, rfl, rfl, by omega, by omega, .inl ⟨rfl, rfl, fun j hj => absurd hj (by omega)⟩⟩
      case round =>
        obtain ⟨k, T, G, hk, rfl, rfl, rfl, T0, T1, hG⟩ := hrel
        cases G
        · have hno : ¬ sfP s r n d := by
            rcases hG.out with ⟨h, _⟩ | ⟨_, h⟩
            · cases h
            · exact h
          have HNO := hide hno
          clear hno
          have fin : ∃ b : Bool, b = decide ((k : Int) < (n : Int)) := ⟨_, rfl⟩
          by_cases hkn : (k : Int) < (n : Int)
          · go_wp2
            go_round
            case rel => exact ⟨lo, d - 1, by omega, by omega, rfl, by rw [show ((d - 1 : Nat) : Int) = (d : Int) - 1 by omega], hL.out, fun _ => by rw [show ((d - 1 : Nat) : Int) + 1 = (d : Int) by omega]; exact HNO.out⟩
            case measure => simp [intOf]; omega
          · go_wp2
            go_round
            case rel => exact ⟨lo, d - 1, by omega, by omega, rfl, by rw [show ((d - 1 : Nat) : Int) = (d : Int) - 1 by omega], hL.out, fun _ => by rw [show ((d - 1 : Nat) : Int) + 1 = (d : Int) by omega]; exact HNO.out⟩
            case measure => simp [intOf]; omega
        · have hgo : T = sfL s r d k ∧ ∀ j, j < k → (d : Int) ≤ sfL s r d j := by
            rcases hG.out with ⟨_, h1, h2⟩ | ⟨h, _⟩
            · exact ⟨h1, h2⟩
            · cases h
          have HGO := hide hgo
          clear hgo
          by_cases hkn : k < n
          · obtain ⟨b, off, rfl, hb, hc⟩ := HC.out k hkn
            obtain ⟨r0, r1⟩ := HR.out k hkn
            have hTb := HSB.out d k hk
            rw [← HGO.out.1] at hTb
            obtain ⟨t0, t1⟩ := hTb
            clear T0 T1
            by_cases hTd : (d : Int) ≤ T
            · obtain ⟨⟨p0, p1⟩, z0, z1⟩ := dw_bd (r := r) (k := k) (d := (d : Int)) ⟨t0, t1⟩ (by omega) ⟨r0, r1⟩
              rw [show max 0 (T - (d : Int)) = T - (d : Int) by omega] at p0 p1
              have hy := dw_yes (r := r) (k := k) hTd
              have HV := hide (show min 1000000000000 (dwN r d k T) = sfL s r d (k + 1) by rw [sfL_succ, ← HGO.out.1])
              obtain ⟨V, hV⟩ : ∃ V, dwN r d k T = V := ⟨_, rfl⟩
              rw [hV] at hy z0 z1 HV
              have HMN := fun w => hide (specMn_any 1000000000000 V w)
              obtain ⟨M, hM⟩ : ∃ M, min 1000000000000 V = M := ⟨_, rfl⟩
              rw [hM] at HMN HV
              have m0 : 0 ≤ M ∧ M ≤ 1000000000000 := by omega
              obtain ⟨m0, m1⟩ := m0
              have HALL := hide (show ∀ j, j < k + 1 → (d : Int) ≤ sfL s r d j from fun j hj => by
                by_cases hjk : j = k
                · subst hjk; rw [← HGO.out.1]; exact hTd
                · exact HGO.out.2 j (by omega))
              clear hV hM
              go_wp2_with (go_at_call 59; refine (HMN _).out.mono ?_; rintro e w' ⟨rfl, rfl⟩)
              go_round
              case rel => exact ⟨k + 1, M, true, by omega, by go_num, rfl, rfl, by omega, by omega, .inl ⟨rfl, HV.out, HALL.out⟩⟩
              case measure => simp [intOf]; omega
            · obtain ⟨⟨p0, p1⟩, z0, z1⟩ := sf_neg (c := T) (d := (d : Int)) (r := r k) (by omega) t0 (by omega) r0 r1
              obtain ⟨U, hU⟩ : ∃ U, ((T - (d : Int)) * (10000 + r k)).tdiv 10000 = U := ⟨_, rfl⟩
              rw [hU] at z0 z1
              have HMN := fun w => hide (specMn_any 1000000000000 U w)
              rw [show min 1000000000000 U = U by omega] at HMN
              have HNO := hide (show ¬ sfP s r n d from fun h => hTd (by rw [HGO.out.1]; exact h k hkn))
              go_wp2_with (go_at_call 59; refine (HMN _).out.mono ?_; rintro e w' ⟨rfl, rfl⟩)
              go_round
              case rel => exact ⟨k + 1, U, false, by omega, by go_num, rfl, rfl, by omega, by omega, .inr ⟨rfl, HNO.out⟩⟩
              case measure => simp [intOf]; omega
          · obtain rfl : k = n := by omega
            have HYES := hide (show sfP s r k d from HGO.out.2)
            go_wp2
            go_round
            case rel => exact ⟨d, hi', by omega, by omega, rfl, rfl, HYES.out, hH.out⟩
            case measure => simp [intOf]; omega
    · obtain rfl : lo = hi' := by omega
      have HE := hide (HEND.out lo hhs hL.out hH.out)
      go_wp2
      go_ret
      exact ⟨reti HE.out, rfl⟩
set_option maxRecDepth 100000 in
set_option maxHeartbeats 8000000 in
theorem specSafeDraw_any (s : Int) (A : Option Addr) (n c : Nat) (r : Nat → Int) (w : World) (hn_n : n ≤ maxLen) (hs_n : SL w A n (fun j => .int .i64 (r j))) :
    Calls Try.prog 39 #[.int .i64 s, .slice A n c] w fun e w' => e = .returned (.tuple #[.int .i64 (ifV (sdrP s r n) (sdrV s r n)), .bool (tru (sdrP s r n))]) ∧ Below w.heap.size w w' := by
  unfold maxLen at hn_n
  have HB0 := hide (Below.refl w.heap.size w)
  have HS0_0 := hide hs_n
  clear hs_n
  cases gg0 : inB s (0) (1000000000)
  · have HH := hide (show ¬ sdrP s r n from fun h => by rw [inB_yes (h.1)] at gg0; cases gg0)
    go_enter Try.func39, Try.ntmps39
    go_wp2_with (first | (go_at_call 54; refine (specCents_any _ _ ).mono ?_; rintro e w' ⟨rfl, rfl⟩) | (go_at_call 55; refine (specRate_any _ _ ).mono ?_; rintro e w' ⟨rfl, rfl⟩) | (go_at_call 46; refine (specIn_any _ _ _ _ ).mono ?_; rintro e w' ⟨rfl, rfl⟩))
    go_ret2
    exact ⟨ret_no HH.out, HB0.out⟩
  have HG0 := hide (inB_iff.1 gg0)
  by_cases hall1 : allP r n 1 60 (-9999) 10000
  rotate_left
  · have HAT1 := hide (tru_no hall1)
    have HH := hide (show ¬ sdrP s r n from fun h => hall1 (h.2))
    clear hall1
    go_enter Try.func39, Try.ntmps39
    go_wp2_with (first | (go_at_call 54; refine (specCents_any _ _ ).mono ?_; rintro e w' ⟨rfl, rfl⟩) | (go_at_call 55; refine (specRate_any _ _ ).mono ?_; rintro e w' ⟨rfl, rfl⟩) | (go_at_call 46; refine (specIn_any _ _ _ _ ).mono ?_; rintro e w' ⟨rfl, rfl⟩))
    refine (specFRates_any A n c r _ (by unfold maxLen; omega) HS0_0.out).mono ?_
    rw [HAT1.out]
    rintro e W1 ⟨rfl, hbe⟩
    have HB1 : Hid (Below w.heap.size w W1) := by rw [← hbe]; exact HB0.out
    have HS0_1 : Hid (SL W1 A n (fun j => .int .i64 (r j))) := by rw [← hbe]; exact HS0_0.out
    clear hbe
    go_wp2_with (first | (go_at_call 54; refine (specCents_any _ _ ).mono ?_; rintro e w' ⟨rfl, rfl⟩) | (go_at_call 55; refine (specRate_any _ _ ).mono ?_; rintro e w' ⟨rfl, rfl⟩) | (go_at_call 46; refine (specIn_any _ _ _ _ ).mono ?_; rintro e w' ⟨rfl, rfl⟩))
    go_ret2
    exact ⟨ret_no HH.out, HB1.out⟩
  have HAT1 := hide (tru_yes hall1)
  have HAL1 := hide hall1
  clear hall1
  have n60 := HAL1.out.1.2
  obtain ⟨s0, s1⟩ := HG0.out
  have HH := hide (show sdrP s r n from ⟨HG0.out, HAL1.out⟩)
  have HDN := hide (fun (W : World) (hs : SL W A n (fun j => .int .i64 (r j))) => specSafe_any s A n c r W hs (by omega) s0 s1 HAL1.out.2)
  go_enter Try.func39, Try.ntmps39
  go_wp2_with (first | (go_at_call 54; refine (specCents_any _ _ ).mono ?_; rintro e w' ⟨rfl, rfl⟩) | (go_at_call 55; refine (specRate_any _ _ ).mono ?_; rintro e w' ⟨rfl, rfl⟩) | (go_at_call 46; refine (specIn_any _ _ _ _ ).mono ?_; rintro e w' ⟨rfl, rfl⟩))
  refine (specFRates_any A n c r _ (by unfold maxLen; omega) HS0_0.out).mono ?_
  rw [HAT1.out]
  rintro e W1 ⟨rfl, hbe⟩
  have HB1 : Hid (Below w.heap.size w W1) := by rw [← hbe]; exact HB0.out
  have HS0_1 : Hid (SL W1 A n (fun j => .int .i64 (r j))) := by rw [← hbe]; exact HS0_0.out
  clear hbe
  go_wp2_with (first | (go_at_call 79; fail) | (go_at_call 54; refine (specCents_any _ _ ).mono ?_; rintro e w' ⟨rfl, rfl⟩) | (go_at_call 55; refine (specRate_any _ _ ).mono ?_; rintro e w' ⟨rfl, rfl⟩) | (go_at_call 46; refine (specIn_any _ _ _ _ ).mono ?_; rintro e w' ⟨rfl, rfl⟩))
  refine (HDN.out _ HS0_1.out).mono ?_
  rintro e w' ⟨rfl, rfl⟩
  clear gg0
  go_wp2
  go_ret2
  exact ⟨ret_yes HH.out, HB1.out⟩
end Go.Proofs.Ytjefpcmegkeceaa
