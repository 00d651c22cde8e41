/- Products of two words that are small, and quotients of them, as the library makes them. -/
import Derived.Test.YtjndhcdanpnniaaB3
import Derived.Laws.BitsLemmas
import Derived.Laws.Bits64
namespace Go.Proofs.Ytjndhcdanpnniaa
open Go.RowKit Go.Dues
theorem and32_u64 {x : Int} (h0 : 0 ≤ x) (h1 : x < 4294967296) : bits .and .u64 x 4294967295 = x := by
  have h := bits_mask .u64 64 (by decide) (fun n h0 h1 => by rw [IntKind.wrap_u64]; omega) 32 (by decide) x h0 (by omega)
  have e : ((2 : Int) ^ 32 - 1) = 4294967295 := by decide
  rw [e] at h
  have e2 : ((2 : Int) ^ 32) = 4294967296 := by decide
  rw [e2] at h
  rw [h]; omega
set_option maxRecDepth 100000 in
set_option maxHeartbeats 4000000 in
theorem mul64_any (a b : Int) (w : World) (a0 : 0 ≤ a) (a1 : a ≤ 1000000000) (b0 : 0 ≤ b) (b1 : b ≤ 1000000000) :
    Calls Try.prog 166 #[.int .u64 a, .int .u64 b] w fun e w' => e = .returned (.tuple #[.int .u64 0, .int .u64 (a * b)]) ∧ w = w' := by
  obtain ⟨m0, m1⟩ := mul_bd a0 a1 b0 b1
  have hA := and32_u64 a0 (by omega)
  have hB := and32_u64 b0 (by omega)
  obtain ⟨t, ht⟩ : ∃ t, a * b / 4294967296 = t := ⟨_, rfl⟩
  have t0 : 0 ≤ t := by rw [← ht]; exact Int.ediv_nonneg m0 (by omega)
  have t1 : t < 4294967296 := by omega
  have hT := and32_u64 t0 t1
  have qa : a / 4294967296 = 0 := by omega
  have qb : b / 4294967296 = 0 := by omega
  have qt : t / 4294967296 = 0 := by omega
  go_enter Try.func166, Try.ntmps166
  go_wp2
  go_ret2
  exact ⟨rfl, rfl⟩
set_option maxHeartbeats 4000000 in
theorem div64_any (a s : Int) (w : World) (a0 : 0 ≤ a) (a1 : a ≤ 4000000000000000000) (s0 : 1 ≤ s) (s1 : s ≤ 4000000000000000000) :
    Calls Try.prog 167 #[.int .u64 0, .int .u64 a, .int .u64 s] w fun e w' => e = .returned (.tuple #[.int .u64 (a / s), .int .u64 (a % s)]) ∧ ∃ q, w' = w.drewN q := by
  have hne : ¬ s = 0 := by omega
  have h0 : 0 ≤ a / s := Int.ediv_nonneg a0 (by omega)
  have h1 : a / s ≤ a := Int.ediv_le_self _ a0
  have h2 : 0 ≤ a % s := Int.emod_nonneg _ (by omega)
  have h3 : a % s < s := Int.emod_lt_of_pos _ (by omega)
  go_enter Try.func167, Try.ntmps167
  go_wp2
  go_quiet (fail)
  go_wp2
  go_ret2
  exact ⟨rfl, _, rfl⟩
end Go.Proofs.Ytjndhcdanpnniaa
