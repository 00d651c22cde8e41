/- Rounded quotients, by both. -/
import Derived.Test.YtjndhcdanpnniaaVp
import Derived.RegionTactic
namespace Go.Proofs.Ytjndhcdanpnniaa
open Go.RowKit Go.Dues
theorem ret_ib {p : Prop} {v w : Int} {b : Bool} (h : v = w) (h2 : b = tru p) : Ending.returned (.tuple #[.int .i64 v, .bool b]) = .returned (.tuple #[.int .i64 w, .bool (tru p)]) := by rw [h, h2]
theorem ret_no {p : Prop} {v : Int} (h : ¬ p) : Ending.returned (.tuple #[.int .i64 0, .bool false]) = .returned (.tuple #[.int .i64 (ifV p v), .bool (tru p)]) := ret_ib (ifV_no h).symm (tru_no h).symm
theorem ret_yes {p : Prop} {v : Int} (h : p) : Ending.returned (.tuple #[.int .i64 v, .bool true]) = .returned (.tuple #[.int .i64 (ifV p v), .bool (tru p)]) := ret_ib (ifV_yes h).symm (tru_yes h).symm
theorem ret_val {p : Prop} {v w : Int} (h : p) (hv : v = w) : Ending.returned (.tuple #[.int .i64 v, .bool true]) = .returned (.tuple #[.int .i64 (ifV p w), .bool (tru p)]) := by rw [hv]; exact ret_yes h
theorem rnd_0 (a b : Int) : rnd a b 0 = a / b := by unfold rnd; simp
theorem rnd_3y {a b : Int} (h : 0 < a % b) : rnd a b 3 = a / b + 1 := by unfold rnd; simp [h]
theorem rnd_3n {a b : Int} (h : ¬ 0 < a % b) : rnd a b 3 = a / b := by unfold rnd; simp [h]
theorem rnd_1y {a b : Int} (h : b - a % b ≤ a % b) : rnd a b 1 = a / b + 1 := by unfold rnd; simp [h]
theorem rnd_1n {a b : Int} (h : ¬ b - a % b ≤ a % b) : rnd a b 1 = a / b := by unfold rnd; simp [h]
theorem rnd_2y {a b : Int} (h : b - a % b < a % b ∨ a % b = b - a % b ∧ a / b % 2 = 1) : rnd a b 2 = a / b + 1 := by unfold rnd; simp [h]
theorem rnd_2n {a b : Int} (h : ¬ (b - a % b < a % b ∨ a % b = b - a % b ∧ a / b % 2 = 1)) : rnd a b 2 = a / b := by unfold rnd; simp [h]

set_option maxHeartbeats 2000000 in
theorem implRounded_any (a b r : Int) (w : World) (ha : 0 ≤ a) (ha1 : a ≤ 9000000000000000000) (hb : 1 ≤ b) (hb1 : b ≤ 1000000000000000) (hr : 0 ≤ r ∧ r ≤ 3) :
    Calls Try.prog 88 #[.int .i64 a, .int .i64 b, .int .i64 r] w fun e w' => e = .returned (.int .i64 (rnd a b r)) ∧ ∃ q, w' = w.drewN q := by
  have hm0 : 0 ≤ a % b := Int.emod_nonneg _ (by omega)
  have hm1 : a % b < b := Int.emod_lt_of_pos _ (by omega)
  have hq0 : 0 ≤ a / b := Int.ediv_nonneg ha (by omega)
  have hq1 : a / b ≤ a := Int.ediv_le_self _ ha
  have hne : ¬ b = 0 := by omega
  have hr4 : r = 0 ∨ r = 1 ∨ r = 2 ∨ r = 3 := by omega
  clear hr
  rcases hr4 with rfl | rfl | rfl | rfl
  · have HF := hide (rnd_0 a b)
    go_enter Try.func88, Try.ntmps88
    go_wp2
    go_quiet (fail)
    go_wp2
    go_ret
    exact ⟨reti HF.out.symm, _, rfl⟩
  · by_cases h : b - a % b ≤ a % b
    · have HF := hide (rnd_1y h)
      go_enter Try.func88, Try.ntmps88
      go_wp2
      go_quiet (fail)
      go_wp2
      go_ret
      exact ⟨reti HF.out.symm, _, rfl⟩
    · have HF := hide (rnd_1n h)
      go_enter Try.func88, Try.ntmps88
      go_wp2
      go_quiet (fail)
      go_wp2
      go_ret
      exact ⟨reti HF.out.symm, _, rfl⟩
  · by_cases h : b - a % b < a % b
    · have HF := hide (rnd_2y (a := a) (b := b) (.inl h))
      go_enter Try.func88, Try.ntmps88
      go_wp2
      go_quiet (fail)
      go_wp2
      go_ret
      exact ⟨reti HF.out.symm, _, rfl⟩
    · by_cases h2 : a % b = b - a % b
      · have g2 : (a % b == b - a % b) = true := by simpa using h2
        by_cases h3 : a / b % 2 = 1
        · have g3 : (a / b % 2 == 1) = true := by simpa using h3
          have HF := hide (rnd_2y (a := a) (b := b) (.inr ⟨h2, h3⟩))
          clear h2 h3
          go_enter Try.func88, Try.ntmps88
          go_wp2
          go_quiet (fail)
          go_wp2
          go_ret
          exact ⟨reti HF.out.symm, _, rfl⟩
        · have g3 : (a / b % 2 == 1) = false := by simpa using h3
          have HF := hide (rnd_2n (a := a) (b := b) (by omega))
          clear h2 h3
          go_enter Try.func88, Try.ntmps88
          go_wp2
          go_quiet (fail)
          go_wp2
          go_ret
          exact ⟨reti HF.out.symm, _, rfl⟩
      · have g2 : (a % b == b - a % b) = false := by simpa using h2
        have HF := hide (rnd_2n (a := a) (b := b) (by omega))
        clear h2
        go_enter Try.func88, Try.ntmps88
        go_wp2
        go_quiet (fail)
        go_wp2
        go_ret
        exact ⟨reti HF.out.symm, _, rfl⟩
  · by_cases h : 0 < a % b
    · have HF := hide (rnd_3y h)
      go_enter Try.func88, Try.ntmps88
      go_wp2
      go_quiet (fail)
      go_wp2
      go_ret
      exact ⟨reti HF.out.symm, _, rfl⟩
    · have HF := hide (rnd_3n h)
      go_enter Try.func88, Try.ntmps88
      go_wp2
      go_quiet (fail)
      go_wp2
      go_ret
      exact ⟨reti HF.out.symm, _, rfl⟩
end Go.Proofs.Ytjndhcdanpnniaa
