/- The reference's quotients, digit by digit. -/
import Derived.Test.YtjndhcdanpnniaaB3
import Derived.Laws.BitsLemmas
import Derived.Laws.Bits64
namespace Go.Proofs.Ytjndhcdanpnniaa
open Go.RowKit Go.Dues
theorem and1_i64 {x : Int} (h0 : 0 ≤ x) (h1 : x < 9223372036854775808) : bits .and .i64 x 1 = x % 2 := by
  have h := bits_mask .i64 63 (by decide) (fun n h0 h1 => by rw [IntKind.wrap_i64]; omega) 1 (by decide) x h0 (by omega)
  simpa using h
theorem tw_step {A b o d : Int} (ho : 1 ≤ o) : (2 * A + d) * b / o = A * b / o * 2 + (A * b % o * 2 + d * b) / o ∧ (2 * A + d) * b % o = (A * b % o * 2 + d * b) % o := by
  have e : (2 * A + d) * b = (A * b % o * 2 + d * b) + o * (A * b / o * 2) := by
    have h := Int.mul_ediv_add_emod (A * b) o
    rw [Int.add_mul, Int.mul_assoc 2 A b, ← Int.mul_assoc o (A * b / o) 2]
    omega
  constructor
  · rw [e, Int.add_mul_ediv_left _ _ (by omega)]; omega
  · rw [e, Int.add_mul_emod_self_left]
theorem tw_half (a : Int) {t : Nat} (ht : 1 ≤ t) : a / 2 ^ (t - 1) = 2 * (a / 2 ^ t) + a / 2 ^ (t - 1) % 2 := by
  have e : (2 : Int) ^ t = 2 ^ (t - 1) * 2 := by
    obtain ⟨s, rfl⟩ : ∃ s, t = s + 1 := ⟨t - 1, by omega⟩
    rw [Int.pow_succ]; rfl
  rw [e, ← Int.ediv_ediv_of_nonneg (Int.pow_nonneg (by omega))]
  omega
theorem tw_le {a b o : Int} (a0 : 0 ≤ a) (b0 : 0 ≤ b) (o0 : 1 ≤ o) (s : Nat) : 0 ≤ a / 2 ^ s ∧ a / 2 ^ s ≤ a ∧ 0 ≤ a / 2 ^ s * b / o ∧ a / 2 ^ s * b / o ≤ a * b / o ∧ 0 ≤ a / 2 ^ s * b % o ∧ a / 2 ^ s * b % o < o := by
  have h0 : 0 ≤ a / 2 ^ s := Int.ediv_nonneg a0 (Int.pow_nonneg (by omega))
  have h1 : a / 2 ^ s ≤ a := Int.ediv_le_self _ a0
  refine ⟨h0, h1, Int.ediv_nonneg (Int.mul_nonneg h0 b0) (by omega), Int.ediv_le_ediv (by omega) (Int.mul_le_mul_of_nonneg_right h1 b0), Int.emod_nonneg _ (by omega), Int.emod_lt_of_pos _ (by omega)⟩
theorem vi' {a b : Int} (h : a = b) : Value.int .i64 a = .int .i64 b := by rw [h]
theorem ret_2' {a b a' b' : Int} (h : a = a') (h2 : b = b') : Ending.returned (.tuple #[.int .i64 a, .int .i64 b]) = .returned (.tuple #[.int .i64 a', .int .i64 b']) := by rw [h, h2]
set_option maxHeartbeats 2000000 in
theorem specTwice_any (a b o : Int) (w : World) (a0 : 0 ≤ a) (a1 : a < 2199023255552) (b0 : 0 ≤ b) (b1 : b ≤ 1000000000000000000) (o0 : 1 ≤ o) (o1 : o ≤ 1000000000000000000) (hq : a * b / o ≤ 4000000000000000000) :
    Calls Try.prog 169 #[.int .i64 a, .int .i64 b, .int .i64 o] w fun e w' => e = .returned (.tuple #[.int .i64 (a * b / o), .int .i64 (a * b % o)]) ∧ w = w' := by
  have HA1 := hide a1
  have HLE := fun s => hide (tw_le a0 b0 o0 s)
  have HQ := hide hq
  have hne : ¬ o = 0 := by omega
  clear hq a1
  go_enter Try.func169, Try.ntmps169
  go_wp2
  go_loop [8, 9, 10] (fun q r bit => ∃ (t : Nat) (Q R : Int), t ≤ 41 ∧ bit = .int .i64 (t - 1) ∧ q = .int .i64 Q ∧ r = .int .i64 R ∧ 0 ≤ Q ∧ Q ≤ 4000000000000000000 ∧ 0 ≤ R ∧ R < o ∧ Hid (Q = a / 2 ^ t * b / o) ∧ Hid (R = a / 2 ^ t * b % o)) (fun _ _ bit => (intOf bit + 1).toNat)
  case atStart =>
    have e : a / 2 ^ 41 = 0 := Int.ediv_eq_zero_of_lt a0 (by have := HA1.out; omega)
    refine ⟨41, 0, 0, Nat.le_refl _, rfl, rfl, rfl, Int.le_refl _, by omega, Int.le_refl _, by omega, ?_, ?_⟩
    · show _ = _
      rw [e, Int.zero_mul, Int.zero_ediv]
    · show _ = _
      rw [e, Int.zero_mul, Int.zero_emod]
  case round =>
    obtain ⟨t, Q, R, ht, rfl, rfl, rfl, Q0, Q1, R0, R1, hQ, hR⟩ := hrel
    by_cases hlt : (0 : Int) ≤ (t : Int) - 1
    · obtain ⟨s0, s1, s2, s3, s4, s5⟩ := (HLE (t - 1)).out
      have hh := tw_half a (t := t) (by omega)
      have hb := and1_i64 s0 (by have := HA1.out; omega)
      have hq := HQ.out
      have hd : a / 2 ^ (t - 1) % 2 = 0 ∨ a / 2 ^ (t - 1) % 2 = 1 := by omega
      rcases hd with hd | hd
      · rw [hd] at hb hh
        have hst := tw_step (A := a / 2 ^ t) (b := b) (d := 0) o0
        rw [← hh, ← hQ.out, ← hR.out] at hst
        have hx : R * 2 + 0 * b = R * 2 := by omega
        rw [hx] at hst
        have HST := hide hst
        have q0 : 0 ≤ Q * 2 + (R * 2) / o := by rw [← hst.1]; exact s2
        have q1 : Q * 2 + (R * 2) / o ≤ 4000000000000000000 := by rw [← hst.1]; omega
        have r0 : 0 ≤ (R * 2) % o := by rw [← hst.2]; exact s4
        have r1 : (R * 2) % o < o := by rw [← hst.2]; exact s5
        have d0 : 0 ≤ (R * 2) / o := Int.ediv_nonneg (by omega) (by omega)
        clear hst hh hd s2 s3 s4 s5 hx hq
        go_wp2
        go_round
        case rel => exact ⟨t - 1, _, _, by omega, vi' (by omega), rfl, rfl, q0, q1, r0, r1, HST.out.1.symm, HST.out.2.symm⟩
        case measure => simp [intOf]; omega
      · rw [hd] at hb hh
        have hst := tw_step (A := a / 2 ^ t) (b := b) (d := 1) o0
        rw [← hh, ← hQ.out, ← hR.out] at hst
        have hx : R * 2 + 1 * b = R * 2 + b := by omega
        rw [hx] at hst
        have HST := hide hst
        have q0 : 0 ≤ Q * 2 + (R * 2 + b) / o := by rw [← hst.1]; exact s2
        have q1 : Q * 2 + (R * 2 + b) / o ≤ 4000000000000000000 := by rw [← hst.1]; omega
        have r0 : 0 ≤ (R * 2 + b) % o := by rw [← hst.2]; exact s4
        have r1 : (R * 2 + b) % o < o := by rw [← hst.2]; exact s5
        have d0 : 0 ≤ (R * 2 + b) / o := Int.ediv_nonneg (by omega) (by omega)
        clear hst hh hd s2 s3 s4 s5 hx hq
        go_wp2
        go_round
        case rel => exact ⟨t - 1, _, _, by omega, vi' (by omega), rfl, rfl, q0, q1, r0, r1, HST.out.1.symm, HST.out.2.symm⟩
        case measure => simp [intOf]; omega
    · obtain rfl : t = 0 := by omega
      have HE := hide (show Q = a * b / o by rw [hQ.out]; simp)
      have HF := hide (show R = a * b % o by rw [hR.out]; simp)
      go_wp2
      go_ret2
      exact ⟨ret_2' HE.out HF.out, rfl⟩
set_option maxHeartbeats 2000000 in
theorem specRounded_any (a b o : Int) (w : World) (a0 : 0 ≤ a) (a1 : a < 2199023255552) (b0 : 0 ≤ b) (b1 : b ≤ 1000000000000000000) (o0 : 1 ≤ o) (o1 : o ≤ 1000000000000000000) (hq : a * b / o ≤ 4000000000000000000) :
    Calls Try.prog 91 #[.int .i64 a, .int .i64 b, .int .i64 o] w fun e w' => e = .returned (.int .i64 (rnd (a * b) o 1)) ∧ w = w' := by
  have HT := hide (specTwice_any a b o w a0 a1 b0 b1 o0 o1 hq)
  have q0 : 0 ≤ a * b / o := Int.ediv_nonneg (Int.mul_nonneg a0 b0) (by omega)
  have r0 : 0 ≤ a * b % o := Int.emod_nonneg _ (by omega)
  have r1 : a * b % o < o := Int.emod_lt_of_pos _ (by omega)
  by_cases h : o - a * b % o ≤ a * b % o
  · have HV := hide (rnd_1y h)
    have h2 : o ≤ 2 * (a * b % o) := by omega
    clear h
    go_enter Try.func91, Try.ntmps91
    go_wp2_with fail
    refine HT.out.mono ?_
    rintro e w' ⟨rfl, rfl⟩
    go_wp2
    go_ret
    exact ⟨reti HV.out.symm, rfl⟩
  · have HV := hide (rnd_1n h)
    have h2 : 2 * (a * b % o) < o := by omega
    clear h
    go_enter Try.func91, Try.ntmps91
    go_wp2_with fail
    refine HT.out.mono ?_
    rintro e w' ⟨rfl, rfl⟩
    go_wp2
    go_ret
    exact ⟨reti HV.out.symm, rfl⟩
end Go.Proofs.Ytjndhcdanpnniaa
