/- Walks over the small functions of chapter 1: bits, not-a-numbers, sameness of two floats. -/
import Derived.Test.YtbcajjpgpjadaaaChecked
import Derived.Test.YtbcajjpgpjadaaaNan
namespace Go.Proofs.Ytbcajjpgpjadaaa
open Go.RowKit

/-- the bits that stand for a number -/
def nbits (x : Nat) : Int := if fnan .f32 x then 2143289344 else (x : Int)

theorem run_f32bits (x : Nat) (w : World) : (callFunc 235 #[.float .f32 x]).run Try.prog w = .ok (.value (.int .u32 x)) w := by
  rw [run_callFunc_extern (e := Extern.MathFloatBits.float32bits) Try.func235 (by kernel_rfl) (by kernel_rfl) (by kernel_rfl) (by kernel_rfl)]; rfl
attribute [local go_sem] run_f32bits
theorem nbits_nan {x : Nat} (h : fnan .f32 x = true) : nbits x = 2143289344 := if_pos h
theorem nbits_num {x : Nat} (h : fnan .f32 x = false) : nbits x = x := if_neg (by rw [h]; decide)
theorem nbits_bd {x : Nat} (hx : x < 4294967296) : 0 ≤ nbits x ∧ nbits x < 4294967296 := by unfold nbits; split <;> omega

theorem implBitsOf_any (x : Nat) (w : World) (hx : (Lit.float .f32 x).wf = true) :
    Calls Try.prog 218 #[.float .f32 x] w fun e w' => e = .returned (.int .i64 (nbits x)) ∧ ∃ n, w' = w.drewN n := by
  have hb : x < 4294967296 := by simpa [Lit.wf] using hx
  cases hn : fnan .f32 x
  · rw [nbits_num hn]
    go_enter Try.func218, Try.ntmps218
    go_wp2_with (first | (go_at_call 234; refine (implIsNaN_any _ _).mono ?_; rintro e w' ⟨rfl, n, rfl⟩))
    go_ret
    exact ⟨rfl, _, rfl⟩
  · rw [nbits_nan hn]
    go_enter Try.func218, Try.ntmps218
    go_wp2_with (first | (go_at_call 234; refine (implIsNaN_any _ _).mono ?_; rintro e w' ⟨rfl, n, rfl⟩))
    go_ret
    exact ⟨rfl, _, rfl⟩

theorem specBits_any (x : Nat) (w : World) (hx : (Lit.float .f32 x).wf = true) :
    Calls Try.prog 233 #[.float .f32 x] w fun e w' => e = .returned (.int .i64 (nbits x)) ∧ w = w' := by
  have hb : x < 4294967296 := by simpa [Lit.wf] using hx
  have hs := fnan_of_self (k := .f32) (x := x)
  cases hn : fnan .f32 x
  · rw [nbits_num hn]
    rw [hn] at hs
    go_enter Try.func233, Try.ntmps233
    go_wp2
    go_ret
    exact ⟨rfl, rfl⟩
  · rw [nbits_nan hn]
    rw [hn] at hs
    go_enter Try.func233, Try.ntmps233
    go_wp2
    go_ret
    exact ⟨rfl, rfl⟩

end Go.Proofs.Ytbcajjpgpjadaaa
