/- math.Abs, math.Copysign, math.IsInf. -/
import Derived.Test.YtpbbedelapnnnaaNan
import Derived.Test.YtpbbedelapnnnaaFpl
namespace Go.Proofs.Ytpbbedelapnnnaa
open Go.RowKit

theorem run_f64bits (x : Nat) (w : World) : (callFunc 261 #[.float .f64 x]).run Try.prog w = .ok (.value (.int .u64 x)) w := by
  rw [run_callFunc_extern (e := Extern.MathFloatBits.float64bits) Try.func261 (by kernel_rfl) (by kernel_rfl) (by kernel_rfl) (by kernel_rfl)]; rfl
theorem run_f64from (x : Int) (w : World) : (callFunc 260 #[.int .u64 x]).run Try.prog w = .ok (.value (.float .f64 x.toNat)) w := by
  rw [run_callFunc_extern (e := Extern.MathFloatBits.float64frombits) Try.func260 (by kernel_rfl) (by kernel_rfl) (by kernel_rfl) (by kernel_rfl)]; rfl
attribute [local go_sem] run_f64bits run_f64from

theorem andNot_sign (x : Nat) (hx : x < 18446744073709551616) : bits BinOp.andNot IntKind.u64 (x : Int) 9223372036854775808 = ((x % 9223372036854775808 : Nat) : Int) := by
  have h := u64_andNot_nat x 9223372036854775808 hx (by decide)
  have e : x &&& (18446744073709551615 - 9223372036854775808) = x % 9223372036854775808 := Nat.and_two_pow_sub_one_eq_mod x 63
  rw [e] at h
  exact h
theorem and_sign (x : Nat) (hx : x < 18446744073709551616) : bits BinOp.and IntKind.u64 (x : Int) 9223372036854775808 = ((x / 9223372036854775808 * 9223372036854775808 : Nat) : Int) := by
  have h := u64_and_nat x 9223372036854775808 hx (by decide)
  have e : x &&& 9223372036854775808 = x / 9223372036854775808 * 9223372036854775808 := by
    have h1 := nat_midmask 64 63 x (by decide)
    have h2 : x % 2 ^ 64 = x := Nat.mod_eq_of_lt hx
    rw [h2] at h1
    exact h1
  rw [e] at h
  exact h

theorem mathAbs_any (x : Nat) (w : World) (hx : x < 18446744073709551616) :
    Calls Try.prog 229 #[.float .f64 x] w fun e w' => e = .returned (.float .f64 (x % 9223372036854775808)) ∧ w = w' := by
  have h := andNot_sign x hx
  go_enter Try.func229, Try.ntmps229
  go_wp2
  go_ret
  exact ⟨rfl, rfl⟩
end Go.Proofs.Ytpbbedelapnnnaa
