/- Pays, by both. -/
import Derived.Test.YtpgpnkaemgigdabDi
import Derived.Test.YtpgpnkaemgigdabAm
import Derived.Test.YtpgpnkaemgigdabOw
namespace Go.Proofs.Ytpgpnkaemgigdab
open Go.RowKit Go.Dues
set_option maxHeartbeats 1000000 in
theorem specPays_any (A : Option Addr) (n c : Nat) (x : Nat → Int) (w : World) (hn : n ≤ maxLen) (hs : SL w A n (fun j => .int .i64 (x j))) :
    Calls Try.prog 76 #[.slice A n c] w fun e w' => e = .returned (.bool (tru (paysP x n))) ∧ w = w' := by
  unfold maxLen at hn
  have HC := cells_one hs
  clear hs
  by_cases h60 : n ≤ 60
  · go_enter Try.func76, Try.ntmps76
    go_wp2
    go_loop [3, 4] (fun s i => ∃ (k : Nat) (t : Int), k ≤ n ∧ i = .int .i64 k ∧ s = .int .i64 t ∧ 0 ≤ t ∧ t ≤ 1000000000000 * k ∧ Hid (t = psum x k) ∧ Hid (∀ j, j < k → 0 ≤ x j ∧ x j ≤ 1000000000000)) (fun _ i => n - (intOf i).toNat)
    case atStart => exact ⟨0, 0, Nat.zero_le _, rfl, rfl, Int.le_refl _, by simp, rfl, fun j hj => absurd hj (by omega)⟩
    case round =>
      obtain ⟨k, t, hk, rfl, rfl, ht0, ht1, ht, hg⟩ := hrel
      by_cases hlt : k < n
      · obtain ⟨b, off, rfl, hb, hc⟩ := HC.out k hlt
        cases ha : amtB (x k)
        · have HF := hide (tru_no (p := paysP x n) (fun h => by rw [amtB_yes (h.2.2.1 k hlt)] at ha; cases ha))
          go_wp2_with (go_at_call 48; refine (specCents_any _ _).mono ?_; rintro e w' ⟨rfl, rfl⟩)
          go_ret
          exact ⟨retb HF.out.symm, rfl⟩
        · obtain ⟨a0, a1⟩ := amtB_iff.1 ha
          go_wp2_with (go_at_call 48; refine (specCents_any _ _).mono ?_; rintro e w' ⟨rfl, rfl⟩)
          go_round
          case rel => exact ⟨k + 1, _, by omega, by go_num, rfl, by omega, by push_cast; omega, (by show t + x k = psum x (k + 1); rw [psum_succ, ht.out]), fun j hj => by
            by_cases hjk : j = k
            · subst hjk; exact ⟨a0, a1⟩
            · exact hg.out j (by omega)⟩
          case measure => simp [intOf]; omega
      · obtain rfl : k = n := by omega
        by_cases h1 : 1 ≤ k
        · cases ha : amtB t
          · have HF := hide (tru_no (p := paysP x k) (fun h => by rw [amtB_yes ⟨ht0, by rw [ht.out]; exact h.2.2.2⟩] at ha; cases ha))
            go_wp2_with (go_at_call 48; refine (specCents_any _ _).mono ?_; rintro e w' ⟨rfl, rfl⟩)
            go_ret
            exact ⟨retb HF.out.symm, rfl⟩
          · have HF := hide (tru_yes (p := paysP x k) ⟨h1, h60, hg.out, by rw [← ht.out]; exact (amtB_iff.1 ha).2⟩)
            go_wp2_with (go_at_call 48; refine (specCents_any _ _).mono ?_; rintro e w' ⟨rfl, rfl⟩)
            go_ret
            exact ⟨retb HF.out.symm, rfl⟩
        · have HF := hide (tru_no (p := paysP x k) (fun h => h1 h.1))
          go_wp2
          go_ret
          exact ⟨retb HF.out.symm, rfl⟩
  · have HF := hide (tru_no (p := paysP x n) (fun h => h60 h.2.1))
    go_enter Try.func76, Try.ntmps76
    go_wp2
    refine wp_loop_rounds 1 ?_
    rw [rounds_succ]
    go_wp2
    go_ret
    exact ⟨retb HF.out.symm, rfl⟩

def payN (n : Nat) : Prop := 1 ≤ n ∧ n ≤ 60
theorem implPayCount_any (n : Nat) (w : World) (hn : n ≤ maxLen) : Calls Try.prog 79 #[.int .i64 n] w fun e w' => e = .returned (.bool (tru (payN n))) ∧ w = w' := by
  unfold maxLen at hn
  by_cases h1 : 1 ≤ n
  · by_cases h2 : n ≤ 60
    · have HF := hide (tru_yes (p := payN n) ⟨h1, h2⟩)
      have hd : decide ((n : Int) ≤ 60) = true := by simp; omega
      go_enter Try.func79, Try.ntmps79
      go_wp2
      go_ret
      exact ⟨retb HF.out.symm, rfl⟩
    · have HF := hide (tru_no (p := payN n) (fun h => h2 h.2))
      have hd : decide ((n : Int) ≤ 60) = false := by simp; omega
      go_enter Try.func79, Try.ntmps79
      go_wp2
      go_ret
      exact ⟨retb HF.out.symm, rfl⟩
  · have HF := hide (tru_no (p := payN n) (fun h => h1 h.1))
    go_enter Try.func79, Try.ntmps79
    go_wp2
    go_ret
    exact ⟨retb HF.out.symm, rfl⟩
def listP (x : Nat → Int) (n : Nat) : Prop := payN n ∧ ∀ j, j < n → 0 ≤ x j ∧ x j ≤ 1000000000000
theorem implArePays_any (A : Option Addr) (n c : Nat) (x : Nat → Int) (w : World) (hn : n ≤ maxLen) (hs : SL w A n (fun j => .int .i64 (x j))) :
    Calls Try.prog 78 #[.slice A n c] w fun e w' => e = .returned (.bool (tru (listP x n))) ∧ w = w' := by
  have HA := hide (implAmounts_any A n c x w hn hs)
  have HP := hide (implPayCount_any n w hn)
  clear hs
  by_cases h1 : payN n
  · have ht := tru_yes h1
    by_cases h2 : ∀ j, j < n → 0 ≤ x j ∧ x j ≤ 1000000000000
    · have ht2 := tru_yes h2
      have HF := hide (tru_yes (p := listP x n) ⟨h1, h2⟩)
      have HT := hide ht2
      clear h1 h2 ht2
      go_enter Try.func78, Try.ntmps78
      go_wp2_with fail
      refine HP.out.mono ?_
      rintro e w' ⟨rfl, rfl⟩
      go_wp2_with fail
      refine HA.out.mono ?_
      rw [HT.out]
      rintro e w' ⟨rfl, rfl⟩
      go_wp2
      go_ret
      exact ⟨retb HF.out.symm, rfl⟩
    · have ht2 := tru_no h2
      have HF := hide (tru_no (p := listP x n) (fun h => h2 h.2))
      have HT := hide ht2
      clear h1 h2 ht2
      go_enter Try.func78, Try.ntmps78
      go_wp2_with fail
      refine HP.out.mono ?_
      rintro e w' ⟨rfl, rfl⟩
      go_wp2_with fail
      refine HA.out.mono ?_
      rw [HT.out]
      rintro e w' ⟨rfl, rfl⟩
      go_wp2
      go_ret
      exact ⟨retb HF.out.symm, rfl⟩
  · have ht := tru_no h1
    have HF := hide (tru_no (p := listP x n) (fun h => h1 h.1))
    clear h1
    go_enter Try.func78, Try.ntmps78
    go_wp2_with fail
    refine HP.out.mono ?_
    rintro e w' ⟨rfl, rfl⟩
    go_wp2
    go_ret
    exact ⟨retb HF.out.symm, rfl⟩
end Go.Proofs.Ytpgpnkaemgigdab
