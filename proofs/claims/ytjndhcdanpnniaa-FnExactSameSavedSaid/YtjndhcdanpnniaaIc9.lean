/- Names and incomes, as what is saved needs them. -/
import Derived.Test.YtjndhcdanpnniaaName
import Derived.Test.YtjndhcdanpnniaaAl
import Derived.Test.YtjndhcdanpnniaaLi
namespace Go.Proofs.Ytjndhcdanpnniaa
open Go.RowKit Go.Dues
theorem specName7_any (s : ByteArray) (w : World) (hs : s.size ≤ maxLen) :
    Calls Try.prog 171 #[.string s] w fun e w' => e = .returned (.bool (isName s)) ∧ w = w' := by
  unfold maxLen at hs
  go_enter Try.func171, Try.ntmps171
  go_wp2
  go_loop [3] (fun i => ∃ k : Nat, k ≤ s.size ∧ i = .int .i64 k ∧ Hid (low (s.data.toList.take k) = true)) (fun i => s.size - (intOf i).toNat)
  case atStart => exact ⟨0, Nat.zero_le _, rfl, rfl⟩
  case round =>
    obtain ⟨k, hk, rfl, hl⟩ := hrel
    by_cases hlt : k < s.size
    · by_cases hb : 97 ≤ s[k].toNat ∧ s[k].toNat ≤ 122
      · have hlo : (97 : Int) ≤ (s[k].toNat : Int) := by omega
        have hhi : (s[k].toNat : Int) ≤ 122 := by omega
        have HL := hide hb
        clear hb
        go_wp2
        go_round
        case rel => exact ⟨k + 1, by omega, by go_num, by show low _ = true; rw [low_take s k hlt, hl.out]; simp [HL.out.1, HL.out.2]⟩
        case measure => simp [intOf]; omega
      · have HF := hide (show isName s = false by unfold isName; rw [low_not s k hlt hb]; rfl)
        have hbb := hide hb
        have h256 : s[k].toNat < 256 := s[k].toNat_lt
        clear hb
        by_cases h1 : (s[k].toNat : Int) < 97
        · go_wp2
          go_ret
          exact ⟨ret_bool HF.out.symm, rfl⟩
        · have h2 : (122 : Int) < (s[k].toNat : Int) := by have := hbb.out; omega
          go_wp2
          go_ret
          exact ⟨ret_bool HF.out.symm, rfl⟩
    · obtain rfl : k = s.size := by omega
      have h := hl.out
      rw [low_all] at h
      have HF := hide (show isName s = (decide (1 ≤ s.size) && decide (s.size ≤ 8)) by unfold isName; rw [h]; rfl)
      clear h
      by_cases h1 : (1 : Int) ≤ (s.size : Int)
      · by_cases h2 : (s.size : Int) ≤ 8
        · have e := hide (show (decide (1 ≤ s.size) && decide (s.size ≤ 8)) = true by simp; omega)
          go_wp2
          go_ret
          exact ⟨ret_bool (HF.out.trans e.out).symm, rfl⟩
        · have e := hide (show (decide (1 ≤ s.size) && decide (s.size ≤ 8)) = false by simp; omega)
          go_wp2
          go_ret
          exact ⟨ret_bool (HF.out.trans e.out).symm, rfl⟩
      · have e := hide (show (decide (1 ≤ s.size) && decide (s.size ≤ 8)) = false by simp; omega)
        go_wp2
        go_ret
        exact ⟨ret_bool (HF.out.trans e.out).symm, rfl⟩

set_option maxRecDepth 100000 in
set_option maxHeartbeats 4000000 in
theorem specInc7_any (A : Option Addr) (n c : Nat) (x : Nat → Int) (w : World) (hn : n ≤ maxLen) (hs : SL w A n (fun j => .int .i64 (x j))) :
    Calls Try.prog 172 #[.slice A n c] w fun e w' => e = .returned (.bool (tru (allP x n 1 64 (0) 1000000000))) ∧ w = w' := by
  unfold maxLen at hn
  have HC := cells_a hs
  clear hs
  go_enter Try.func172, Try.ntmps172
  go_wp2
  go_loop [3, 6] (fun _ i => ∃ k : Nat, k ≤ n ∧ i = .int .i64 k ∧ Hid (∀ j, j < k → (0) ≤ x j ∧ x j ≤ 1000000000)) (fun _ i => n - (intOf i).toNat)
  case atStart => exact ⟨0, Nat.zero_le _, rfl, fun j hj => absurd hj (by omega)⟩
  case round =>
    obtain ⟨k, hk, rfl, hg⟩ := hrel
    by_cases hlt : k < n
    · obtain ⟨b1, off, rfl, hb1, hxk⟩ := HC.out k hlt
      cases hp : inB (x k) (0) 1000000000
      · have HT := hide (tru_no (show ¬ allP x n 1 64 (0) 1000000000 from fun h => by rw [inB_yes (h.2 k hlt)] at hp; cases hp))
        go_wp2_with (go_at_call 90; refine (specIn_any _ _ _ _ ).mono ?_; rintro e w' ⟨rfl, rfl⟩)
        go_ret
        exact ⟨retBa HT.out.symm, rfl⟩
      · have HE := hide (inB_iff.1 hp)
        go_wp2_with (go_at_call 90; refine (specIn_any _ _ _ _ ).mono ?_; rintro e w' ⟨rfl, rfl⟩)
        clear hp
        go_round
        case rel => exact ⟨k + 1, by omega, by go_num, by
          intro j hj
          by_cases hjk : j = k
          · subst hjk; exact HE.out
          · exact hg.out j (by omega)⟩
        case measure => simp [intOf]; omega
    · obtain rfl : k = n := by omega
      by_cases h1 : (1 : Int) ≤ (k : Int)
      · have h1d : decide ((1 : Int) ≤ (k : Int)) = true := decide_eq_true h1
        by_cases h2 : (k : Int) ≤ 64
        · have h2d : decide ((k : Int) ≤ 64) = true := decide_eq_true h2
          have HT := hide (tru_yes (show allP x k 1 64 (0) 1000000000 from ⟨⟨h1, h2⟩, hg.out⟩))
          go_wp2
          go_ret
          exact ⟨retBa HT.out.symm, rfl⟩
        · have h2d : decide ((k : Int) ≤ 64) = false := decide_eq_false h2
          have HT := hide (tru_no (show ¬ allP x k 1 64 (0) 1000000000 from fun h => h2 h.1.2))
          go_wp2
          go_ret
          exact ⟨retBa HT.out.symm, rfl⟩
      · have h1d : decide ((1 : Int) ≤ (k : Int)) = false := decide_eq_false h1
        have HT := hide (tru_no (show ¬ allP x k 1 64 (0) 1000000000 from fun h => h1 h.1.1))
        go_wp2
        go_ret
        exact ⟨retBa HT.out.symm, rfl⟩
theorem implInc7_any (A : Option Addr) (n c : Nat) (x : Nat → Int) (w : World) (hn : n ≤ maxLen) (hs : SL w A n (fun j => .int .i64 (x j))) :
    Calls Try.prog 100 #[.slice A n c] w fun e w' => e = .returned (.bool (tru (allP x n 1 64 0 1000000000))) ∧ Below w.heap.size w w' := by
  have HA := hide (areAll_isIncome A n c x 1 64 w hn hs)
  clear hs
  go_enter Try.func100, Try.ntmps100
  go_wp2_with fail
  refine HA.out.mono ?_
  rintro e w' ⟨rfl, hb⟩
  have HB := hide hb
  clear hb
  go_wp2
  go_ret
  exact ⟨rfl, HB.out⟩
end Go.Proofs.Ytjndhcdanpnniaa
