/- Weights of places, by both. -/
import Derived.Test.YtdiilihodhmbgaaAl
import Derived.Test.YtdiilihodhmbgaaC4
import Derived.Test.YtdiilihodhmbgaaG1
import Derived.Test.YtdiilihodhmbgaaP4
namespace Go.Proofs.Ytdiilihodhmbgaa
open Go.RowKit Go.Dues
def wgP (x : Nat → Int) (n : Nat) : Prop := (1 ≤ n ∧ n ≤ 12) ∧ (∀ j, j < n → 0 ≤ x j ∧ x j ≤ 1000000000) ∧ 0 < psum x n
theorem wgP_sum {x : Nat → Int} {n : Nat} (h : wgP x n) : 1 ≤ psum x n ∧ psum x n ≤ 12000000000 := by
  have h2 := psum_abs (M := 1000000000) (fun j hj => ⟨by have := (h.2.1 j hj).1; omega, (h.2.1 j hj).2⟩) n (Nat.le_refl _)
  have h3 := h.2.2
  have h4 := h.1.2
  omega
set_option maxRecDepth 100000 in
set_option maxHeartbeats 4000000 in
theorem specPlaces_any (A : Option Addr) (n cc : Nat) (x : Nat → Int) (w : World) (hn : n ≤ maxLen) (hs : SL w A n (fun j => .int .i64 (x j))) :
    Calls Try.prog 135 #[.slice A n cc] w fun e w' => ∃ s : Int, e = .returned (.tuple #[.int .i64 s, .bool (tru (wgP x n))]) ∧ (wgP x n → s = psum x n) ∧ w = w' := by
  unfold maxLen at hn
  have HC := cells_a hs
  clear hs
  by_cases h12 : (n : Int) ≤ 12
  · have h12d : decide ((n : Int) ≤ 12) = true := decide_eq_true h12
    go_enter Try.func135, Try.ntmps135
    go_wp2
    go_loop [4, 5] (fun s i => ∃ (k : Nat) (S : Int), k ≤ n ∧ i = .int .i64 k ∧ s = .int .i64 S ∧ 0 ≤ S ∧ S ≤ 1000000000 * (k : Int) ∧ Hid (S = psum x k) ∧ Hid (∀ j, j < k → 0 ≤ x j ∧ x j ≤ 1000000000)) (fun _ i => n - (intOf i).toNat)
    case atStart => exact ⟨0, 0, Nat.zero_le _, rfl, rfl, by omega, by simp, rfl, fun j hj => absurd hj (by omega)⟩
    case round =>
      obtain ⟨k, S, hk, rfl, rfl, S0, S1, hS, hg⟩ := hrel
      by_cases hlt : k < n
      · obtain ⟨b1, off, rfl, hb1, hxk⟩ := HC.out k hlt
        cases hp : inB (x k) 0 1000000000
        · have HT := hide (tru_no (show ¬ wgP x n from fun h => by rw [inB_yes (h.2.1 k hlt)] at hp; cases hp))
          have HN := hide (show ¬ wgP x n from fun h => by rw [inB_yes (h.2.1 k hlt)] at hp; cases hp)
          go_wp2_with (go_at_call 98; refine (specIn_any _ _ _ _ ).mono ?_; rintro e w' ⟨rfl, rfl⟩)
          go_ret2
          exact ⟨0, by rw [HT.out]; rfl, fun h => absurd h HN.out, rfl⟩
        · obtain ⟨x0, x1⟩ := inB_iff.1 hp
          have HE := hide (inB_iff.1 hp)
          go_wp2_with (go_at_call 98; refine (specIn_any _ _ _ _ ).mono ?_; rintro e w' ⟨rfl, rfl⟩)
          clear hp
          go_round
          case rel => exact ⟨k + 1, _, by omega, by go_num, rfl, by omega, by push_cast; omega, (show S + x k = psum x (k + 1) by rw [psum_succ, hS.out]), by
            intro j hj
            by_cases hjk : j = k
            · subst hjk; exact HE.out
            · exact hg.out j (by omega)⟩
          case measure => simp [intOf]; omega
      · obtain rfl : k = n := by omega
        by_cases hpos : 0 < S
        · have n1 : 1 ≤ k := by
            rcases Nat.eq_zero_or_pos k with h | h
            · subst h; simp at S1; omega
            · exact h
          have HT := hide (tru_yes (show wgP x k from ⟨⟨n1, by omega⟩, hg.out, by rw [← hS.out]; omega⟩))
          have hpd : decide (0 < S) = true := decide_eq_true hpos
          go_wp2
          go_ret2
          exact ⟨S, by rw [HT.out]; rfl, fun _ => hS.out, rfl⟩
        · have HN := hide (show ¬ wgP x k from fun h => hpos (by rw [hS.out]; exact h.2.2))
          have HT := hide (tru_no HN.out)
          have hpd : decide (0 < S) = false := decide_eq_false hpos
          go_wp2
          go_ret2
          exact ⟨S, by rw [HT.out]; rfl, fun h => absurd h HN.out, rfl⟩
  · have h12d : decide ((n : Int) ≤ 12) = false := decide_eq_false h12
    have HN := hide (show ¬ wgP x n from fun h => h12 (by have := h.1.2; omega))
    have HT := hide (tru_no HN.out)
    go_enter Try.func135, Try.ntmps135
    go_wp2
    go_loop [4, 5] (fun s i => s = .int .i64 0 ∧ i = .int .i64 0) (fun _ _ => 0)
    case atStart => exact ⟨rfl, rfl⟩
    case round =>
      obtain ⟨rfl, rfl⟩ := hrel
      have h0 : (0 : Int) < n := by omega
      go_wp2
      go_ret2
      exact ⟨0, by rw [HT.out]; rfl, fun h => absurd h HN.out, rfl⟩
set_option maxHeartbeats 4000000 in
theorem implPlaces_any (A : Option Addr) (n cc : Nat) (x : Nat → Int) (w : World) (hn : n ≤ maxLen) (hs : SL w A n (fun j => .int .i64 (x j))) :
    Calls Try.prog 201 #[.slice A n cc] w fun e w' => e = .returned (.bool (tru (wgP x n))) ∧ Below w.heap.size w w' := by
  have HA := hide (areAll_isWeight A n cc x 1 12 w hn hs)
  have HSL := hide hs
  unfold maxLen at hn
  clear hs
  by_cases ha : allP x n 1 12 0 1000000000
  · have HAT := hide (tru_yes ha)
    have HAP := hide ha
    have n12 := ha.1.2
    clear ha
    go_enter Try.func201, Try.ntmps201
    go_wp2_with fail
    refine HA.out.mono ?_
    rw [HAT.out]
    rintro e w1 ⟨rfl, hb⟩
    have HB := hide hb
    have HS := hide (sumBy_itself A n cc x w1 (by omega) (fun j hj => by have := HAP.out.2 j hj; omega) (HSL.out.below hb))
    clear hb
    go_wp2_with fail
    refine HS.out.mono ?_
    rintro e w' ⟨rfl, rfl⟩
    by_cases hz : 0 < psum x n
    · have HT := hide (tru_yes (show wgP x n from ⟨⟨by have := HAP.out.1.1; omega, by omega⟩, HAP.out.2, hz⟩))
      go_wp2
      go_ret
      exact ⟨retBa HT.out.symm, HB.out⟩
    · have HT := hide (tru_no (show ¬ wgP x n from fun h => hz h.2.2))
      have hzd : decide (0 < psum x n) = false := decide_eq_false hz
      clear hz
      go_wp2
      go_ret
      exact ⟨retBa HT.out.symm, HB.out⟩
  · have HAT := hide (tru_no ha)
    have HT := hide (tru_no (show ¬ wgP x n from fun h => ha ⟨⟨by have := h.1.1; omega, by have := h.1.2; omega⟩, h.2.1⟩))
    clear ha
    go_enter Try.func201, Try.ntmps201
    go_wp2_with fail
    refine HA.out.mono ?_
    rw [HAT.out]
    rintro e w1 ⟨rfl, hb⟩
    have HB := hide hb
    clear hb
    go_wp2
    go_ret
    exact ⟨retBa HT.out.symm, HB.out⟩
end Go.Proofs.Ytdiilihodhmbgaa
