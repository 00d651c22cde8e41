/- SafeDraw, by the program. -/
import Derived.Test.YtjefpcmegkeceaaSf
namespace Go.Proofs.Ytjefpcmegkeceaa
open Go.RowKit Go.Dues
set_option maxRecDepth 100000 in
set_option maxHeartbeats 4000000 in
theorem implIsSafe_any (s d : Int) (A : Option Addr) (n c : Nat) (r : Nat → Int) (w : World) (hs : SL w A n (fun j => .int .i64 (r j))) (hn : n ≤ 60) (s0 : 0 ≤ s) (s1 : s ≤ 1000000000) (d0 : 0 ≤ d) (d1 : d ≤ 1000000001) (R : ∀ j, j < n → -9999 ≤ r j ∧ r j ≤ 10000) :
    Calls Try.prog 98 #[.int .i64 s, .slice A n c, .int .i64 d] w fun e w' => e = .returned (.bool (tru (sfP s r n d))) ∧ ∃ q, w' = w.drewN q := by
  have HC := cells_a hs
  have HR := hide R
  have HSB := hide (fun k (hk : k ≤ n) => sfL_bd (d := d) ⟨s0, show s ≤ 1000000000000 by omega⟩ R k hk)
  clear hs R
  go_enter Try.func98, Try.ntmps98
  go_wp2
  go_loopw [7, 9, 13] (fun t _ i wr => ∃ (k q : Nat) (T : Int), k ≤ n ∧ i = .int .i64 k ∧ t = .int .i64 T ∧ Hid (T = sfL s r d k) ∧ Hid (∀ j, j < k → d ≤ sfL s r d j) ∧ wr = w.drewN q) (fun _ _ i _ => n - (intOf i).toNat)
  case atStart => exact ⟨0, 0, s, Nat.zero_le _, rfl, rfl, rfl, fun j hj => absurd hj (by omega), rfl⟩
  case round =>
    obtain ⟨k, q, T, hk, rfl, rfl, hT, hall, rfl⟩ := hrel
    by_cases hlt : k < n
    · obtain ⟨b, off, rfl, hb, hc⟩ := HC.out k hlt
      obtain ⟨r0, r1⟩ := HR.out k hlt
      have hTb := HSB.out k hk
      rw [← hT.out] at hTb
      obtain ⟨t0, t1⟩ := hTb
      by_cases hTd : T < d
      · have HT := hide (tru_no (show ¬ sfP s r n d from fun h => by have := h k hlt; rw [← hT.out] at this; omega))
        go_wp2
        go_ret
        exact ⟨retBa HT.out.symm, _, rfl⟩
      · have HL := fun w => hide (implLeft_any T d (r k) w t0 t1 d0 (by omega) r0 r1)
        have e1 : max 0 (T - d) * (10000 + r k) / 10000 = dwN r d k T := rfl
        rw [e1] at HL
        have HV := hide (show min 1000000000000 (dwN r d k T) = sfL s r d (k + 1) by rw [sfL_succ, ← hT.out])
        obtain ⟨V, hV⟩ : ∃ V, dwN r d k T = V := ⟨_, rfl⟩
        rw [hV] at HL HV
        have HALL := hide (show ∀ j, j < k + 1 → d ≤ sfL s r d j from fun j hj => by
          by_cases hjk : j = k
          · subst hjk; rw [← hT.out]; omega
          · exact hall.out j (by omega))
        clear hV e1
        by_cases hVM : V < 1000000000000
        · rw [show min 1000000000000 V = V by omega] at HV
          go_wp2_with fail
          refine (HL _).out.mono ?_
          rintro e w' ⟨rfl, q2, rfl⟩
          go_wp2
          go_roundw
          case rel => exact ⟨k + 1, _, V, by omega, by go_num, rfl, HV.out, HALL.out, rfl⟩
          case measure => simp [intOf]; omega
        · rw [show min 1000000000000 V = 1000000000000 by omega] at HV
          go_wp2_with fail
          refine (HL _).out.mono ?_
          rintro e w' ⟨rfl, q2, rfl⟩
          go_wp2
          go_roundw
          case rel => exact ⟨k + 1, _, 1000000000000, by omega, by go_num, rfl, HV.out, HALL.out, rfl⟩
          case measure => simp [intOf]; omega
    · obtain rfl : k = n := by omega
      have HT := hide (tru_yes (show sfP s r k d from hall.out))
      go_wp2
      go_ret
      exact ⟨retBa HT.out.symm, _, rfl⟩
set_option maxRecDepth 100000 in
set_option maxHeartbeats 4000000 in
theorem safeFn_any (PS PR : Nat) (s : Int) (A : Option Addr) (n c : Nat) (r : Nat → Int) (h : Nat) (w : World) (hs : SL w A n (fun j => .int .i64 (r j))) (hPS : w.heap[PS]? = some (.cells #[.int .i64 s] 2)) (hPR : w.heap[PR]? = some (.cells #[.slice A n c] 22)) (hn : n ≤ 60) (s0 : 0 ≤ s) (s1 : s ≤ 1000000000) (h1 : (h : Int) ≤ 1000000000) (R : ∀ j, j < n → -9999 ≤ r j ∧ r j ≤ 10000) :
    Calls Try.prog 97 #[.int .i64 h, .pointer (some ⟨PS, 0, none⟩), .pointer (some ⟨PR, 0, none⟩)] w fun e w' => e = .returned (.bool (!tru (sfP s r n ((h + 1 : Nat) : Int)))) ∧ ∃ q, w' = w.drewN q := by
  have k0 := Joins.cell_of_block hPS 0
  have k1 := Joins.cell_of_block hPR 0
  simp at k0 k1
  have HI := hide (implIsSafe_any s ((h + 1 : Nat) : Int) A n c r w hs hn s0 s1 (by omega) (by omega) R)
  have e1 : ((h + 1 : Nat) : Int) = (h : Int) + 1 := by push_cast; rfl
  rw [e1] at HI ⊢
  clear hs hPS hPR R e1
  go_enter Try.func97, Try.ntmps97
  go_wp2_with fail
  refine HI.out.mono ?_
  rintro e w' ⟨rfl, q, rfl⟩
  go_wp2
  go_ret
  exact ⟨rfl, _, rfl⟩
set_option maxRecDepth 100000 in
set_option maxHeartbeats 4000000 in
theorem search_safe (PS PR : Nat) (s : Int) (A : Option Addr) (n c : Nat) (r : Nat → Int) (w : World) (hs : SL w A n (fun j => .int .i64 (r j))) (hPS : w.heap[PS]? = some (.cells #[.int .i64 s] 2)) (hPR : w.heap[PR]? = some (.cells #[.slice A n c] 22)) (hn : n ≤ 60) (s0 : 0 ≤ s) (s1 : s ≤ 1000000000) (R : ∀ j, j < n → -9999 ≤ r j ∧ r j ≤ 10000) :
    Calls Try.prog 96 #[.int .i64 s, .func (Fn.func 97) #[] #[.pointer (some ⟨PS, 0, none⟩), .pointer (some ⟨PR, 0, none⟩)]] w fun e w' => e = .returned (.int .i64 (sdrV s r n)) ∧ ∃ q, w' = w.drewN q := by
  have HZ := hide (sfP_zero ⟨s0, show s ≤ 1000000000000 by omega⟩ R)
  have HEND := hide (fun v hv h1 h2 => sdr_end (s := s) (v := v) R s0 hv h1 h2)
  have HFN := hide (fun (h q : Nat) (h1 : (h : Int) ≤ 1000000000) => safeFn_any PS PR s A n c r h (w.drewN q) hs hPS hPR hn s0 s1 h1 R)
  clear hs hPS hPR R
  go_enter Try.func96, Try.ntmps96
  go_wp2
  go_loopw [5, 6, 7] (fun a b _ wr => ∃ (lo hi q : Nat), lo ≤ hi ∧ (hi : Int) ≤ s ∧ a = .int .i64 lo ∧ b = .int .i64 hi ∧ Hid (sfP s r n lo) ∧ Hid ((hi : Int) < s → ¬ sfP s r n ((hi : Int) + 1)) ∧ wr = w.drewN q) (fun a b _ _ => (intOf b).toNat - (intOf a).toNat)
  case atStart => exact ⟨0, s.toNat, 0, by omega, by omega, rfl, by rw [Int.toNat_of_nonneg s0], HZ.out, fun h => by omega, rfl⟩
  case round =>
    obtain ⟨lo, hi', q, hlh, hhs, rfl, rfl, hL, hH, rfl⟩ := hrel
    by_cases hlt : lo < hi'
    · obtain ⟨h, hh⟩ : ∃ h : Nat, (lo + hi') / 2 = h := ⟨_, rfl⟩
      have hh1 : ((lo : Int) + (hi' : Int)) / 2 = (h : Int) := by omega
      have hlo : lo ≤ h := by omega
      have hhi : h < hi' := by omega
      have hlti : (lo : Int) < (hi' : Int) := by omega
      have hM : (h : Int) ≤ 1000000000 := by omega
      have HC := hide (HFN.out h q hM)
      clear hh
      by_cases hp : sfP s r n ((h + 1 : Nat) : Int)
      · rw [tru_yes hp] at HC
        have HP := hide hp
        clear hp
        go_wp2_with fail
        refine HC.out.mono ?_
        rintro e w' ⟨rfl, q2, rfl⟩
        go_wp2
        go_roundw
        case rel => exact ⟨h + 1, hi', _, by omega, by omega, by go_num, rfl, HP.out, hH.out, rfl⟩
        case measure => simp [intOf]; omega
      · rw [tru_no hp] at HC
        have HP := hide hp
        clear hp
        go_wp2_with fail
        refine HC.out.mono ?_
        rintro e w' ⟨rfl, q2, rfl⟩
        go_wp2
        go_roundw
        case rel => exact ⟨lo, h, _, by omega, by omega, rfl, rfl, hL.out, fun _ => by have := HP.out; rwa [show ((h + 1 : Nat) : Int) = (h : Int) + 1 by push_cast; rfl] at this, rfl⟩
        case measure => simp [intOf]; omega
    · obtain rfl : lo = hi' := by omega
      have HE := hide (HEND.out lo hhs hL.out hH.out)
      go_wp2
      go_ret
      exact ⟨reti HE.out, _, rfl⟩
set_option maxRecDepth 100000 in
set_option maxHeartbeats 4000000 in
theorem implSafe_any (s : Int) (A : Option Addr) (n c : Nat) (r : Nat → Int) (w : World) (hs : SL w A n (fun j => .int .i64 (r j))) (hn : n ≤ 60) (s0 : 0 ≤ s) (s1 : s ≤ 1000000000) (R : ∀ j, j < n → -9999 ≤ r j ∧ r j ≤ 10000) :
    Calls Try.prog 81 #[.int .i64 s, .slice A n c] w fun e w' => e = .returned (.int .i64 (sdrV s r n)) ∧ Below w.heap.size w w' := by
  obtain ⟨W, hW⟩ : ∃ u, u = (w.alloc (.cells #[.int .i64 s] 2)).alloc (.cells #[.slice A n c] 22) := ⟨_, rfl⟩
  have HB : Hid (Below w.heap.size w W) := by rw [hW]; exact ((Below.refl w.heap.size w).alloc (Nat.le_refl _) _).alloc (by simp) _
  have HX0 : Hid (W.heap[w.heap.size]? = some (.cells #[.int .i64 s] 2)) := by rw [hW]; exact (blocks2 w _ _).1
  have HX1 : Hid (W.heap[w.heap.size + 1]? = some (.cells #[.slice A n c] 22)) := by rw [hW]; exact (blocks2 w _ _).2
  have HS := hide (search_safe w.heap.size (w.heap.size + 1) s A n c r W (hs.below HB.out) HX0.out HX1.out hn s0 s1 R)
  have HWW := hide hW
  clear hs R hW
  go_enter Try.func81, Try.ntmps81
  go_wp2_with fail
  rw [← HWW.out]
  clear HWW
  refine HS.out.mono ?_
  rintro e w' ⟨rfl, q, rfl⟩
  go_wp2
  go_ret
  exact ⟨rfl, bel_q HB.out _⟩
set_option maxRecDepth 100000 in
set_option maxHeartbeats 8000000 in
theorem implSafeDraw_any (s : Int) (A : Option Addr) (n c : Nat) (r : Nat → Int) (w : World) (hn_n : n ≤ maxLen) (hs_n : SL w A n (fun j => .int .i64 (r j))) :
    Calls Try.prog 40 #[.int .i64 s, .slice A n c] w fun e w' => e = .returned (.tuple #[.int .i64 (ifV (sdrP s r n) (sdrV s r n)), .bool (tru (sdrP s r n))]) ∧ Below w.heap.size w w' := by
  unfold maxLen at hn_n
  have HB0 := hide (Below.refl w.heap.size w)
  have HS0_0 := hide hs_n
  clear hs_n
  cases gg0 : inB s (0) (1000000000)
  · have HH := hide (show ¬ sdrP s r n from fun h => by rw [inB_yes (h.1)] at gg0; cases gg0)
    go_enter Try.func40, Try.ntmps40
    go_wp2_with (first | (go_at_call 69; refine (implAmount_any _ _ ).mono ?_; rintro e w' ⟨rfl, rfl⟩) | (go_at_call 53; refine (implRate_any _ _ ).mono ?_; rintro e w' ⟨rfl, rfl⟩) | (go_at_call 49; refine (implWithin_any _ _ _ _ ).mono ?_; rintro e w' ⟨rfl, rfl⟩) | (go_at_call 72; go_in) | (go_at_call 80; go_in))
    go_ret2
    exact ⟨ret_no HH.out, HB0.out⟩
  have HG0 := hide (inB_iff.1 gg0)
  by_cases hall1 : allP r n 1 60 (-9999) 10000
  rotate_left
  · have HAT1 := hide (tru_no hall1)
    have HH := hide (show ¬ sdrP s r n from fun h => hall1 (h.2))
    clear hall1
    go_enter Try.func40, Try.ntmps40
    go_wp2_with (first | (go_at_call 69; refine (implAmount_any _ _ ).mono ?_; rintro e w' ⟨rfl, rfl⟩) | (go_at_call 53; refine (implRate_any _ _ ).mono ?_; rintro e w' ⟨rfl, rfl⟩) | (go_at_call 49; refine (implWithin_any _ _ _ _ ).mono ?_; rintro e w' ⟨rfl, rfl⟩) | (go_at_call 72; go_in) | (go_at_call 80; go_in))
    refine (areAll_isFundRate A n c r 1 60 _ (by unfold maxLen; omega) HS0_0.out).mono ?_
    rw [HAT1.out]
    rintro e W1 ⟨rfl, hb⟩
    have HB1 := hide (HB0.out.trans (hb.mono HB0.out.size))
    have HS0_1 := hide (HS0_0.out.below hb)
    clear hb
    go_wp2_with (first | (go_at_call 69; refine (implAmount_any _ _ ).mono ?_; rintro e w' ⟨rfl, rfl⟩) | (go_at_call 53; refine (implRate_any _ _ ).mono ?_; rintro e w' ⟨rfl, rfl⟩) | (go_at_call 49; refine (implWithin_any _ _ _ _ ).mono ?_; rintro e w' ⟨rfl, rfl⟩) | (go_at_call 72; go_in) | (go_at_call 80; go_in))
    go_ret2
    exact ⟨ret_no HH.out, HB1.out⟩
  have HAT1 := hide (tru_yes hall1)
  have HAL1 := hide hall1
  clear hall1
  have n60 := HAL1.out.1.2
  obtain ⟨s0, s1⟩ := HG0.out
  have HH := hide (show sdrP s r n from ⟨HG0.out, HAL1.out⟩)
  have HDN := hide (fun (W : World) (hs : SL W A n (fun j => .int .i64 (r j))) => implSafe_any s A n c r W hs (by omega) s0 s1 HAL1.out.2)
  go_enter Try.func40, Try.ntmps40
  go_wp2_with (first | (go_at_call 69; refine (implAmount_any _ _ ).mono ?_; rintro e w' ⟨rfl, rfl⟩) | (go_at_call 53; refine (implRate_any _ _ ).mono ?_; rintro e w' ⟨rfl, rfl⟩) | (go_at_call 49; refine (implWithin_any _ _ _ _ ).mono ?_; rintro e w' ⟨rfl, rfl⟩) | (go_at_call 72; go_in) | (go_at_call 80; go_in))
  refine (areAll_isFundRate A n c r 1 60 _ (by unfold maxLen; omega) HS0_0.out).mono ?_
  rw [HAT1.out]
  rintro e W1 ⟨rfl, hb⟩
  have HB1 := hide (HB0.out.trans (hb.mono HB0.out.size))
  have HS0_1 := hide (HS0_0.out.below hb)
  clear hb
  go_wp2_with (first | (go_at_call 81; fail) | (go_at_call 69; refine (implAmount_any _ _ ).mono ?_; rintro e w' ⟨rfl, rfl⟩) | (go_at_call 53; refine (implRate_any _ _ ).mono ?_; rintro e w' ⟨rfl, rfl⟩) | (go_at_call 49; refine (implWithin_any _ _ _ _ ).mono ?_; rintro e w' ⟨rfl, rfl⟩) | (go_at_call 72; go_in) | (go_at_call 80; go_in))
  refine (HDN.out _ HS0_1.out).mono ?_
  rintro e w' ⟨rfl, hb⟩
  have HBF := hide (HB1.out.trans (hb.mono HB1.out.size))
  clear hb gg0
  go_wp2
  go_ret2
  exact ⟨ret_yes HH.out, HBF.out⟩
end Go.Proofs.Ytjefpcmegkeceaa
