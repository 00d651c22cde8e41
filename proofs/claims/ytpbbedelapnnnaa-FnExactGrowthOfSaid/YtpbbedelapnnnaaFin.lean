/- IsFinite. -/
import Derived.Test.YtpbbedelapnnnaaAbs
import Derived.Test.YtpbbedelapnnnaaFpl
namespace Go.Proofs.Ytpbbedelapnnnaa
open Go.RowKit

/-! ### IsFinite -/
theorem mathIsInf_any (x : Nat) (w : World) (hx : x < 18446744073709551616) :
    Calls Try.prog 176 #[.float .f64 x, .int .i64 0] w fun e w' => e = .returned (.bool (FloatKind.f64.format.order (x % 9223372036854775808) 9218868437227405311 == some .gt)) ∧ w = w' := by
  go_enter Try.func176, Try.ntmps176
  go_wp2_with (first | (go_at_call 229; refine (mathAbs_any _ _ hx).mono ?_; rintro e w' ⟨rfl, rfl⟩))
  go_ret
  exact ⟨rfl, rfl⟩
theorem implIsFinite_any (x : Nat) (w : World) :
    Calls Try.prog 91 #[.float .f32 x] w fun e w' => e = .returned (.bool (ffin .f32 x)) ∧ ∃ n, w' = w.drewN n := by
  cases hn : fnan .f32 x
  · have c1 : ∀ r, FR .f64 r (widen x) → ∀ W, Calls Try.prog 176 #[.float .f64 r, .int .i64 0] W fun e w' => e = .returned (.bool (!ffin .f32 x)) ∧ W = w' := fun r hr W =>
      (mathIsInf_any r W (hr.lt)).mono fun e w' ⟨h1, h2⟩ => ⟨by rw [h1, widen_isInf hr.same hn], h2⟩
    have H1 := hide c1
    clear c1
    have H2 := hide hn
    go_enter Try.func91, Try.ntmps91
    go_wp2_with (first | (refine wpList_widen _ rfl _ _ _ rfl _ rfl (by rw [Try.underlying26]; rfl) Try.underlying32 ?_; intro _ _ _) | (go_at_call 175; refine (implIsNaN_any _ _).mono ?_; rintro e w' ⟨rfl, n, rfl⟩) | (go_at_call 176; refine (H1.out _ (by assumption) _).mono ?_; rintro e w' ⟨rfl, rfl⟩))
    go_ret
    exact ⟨by simp, _, rfl⟩
  · have hf : ffin .f32 x = false := by
      cases h : ffin .f32 x
      · rfl
      · rw [ffin_nan h] at hn; cases hn
    rw [hf]
    clear hf
    go_enter Try.func91, Try.ntmps91
    go_wp2_with (first | (go_at_call 175; refine (implIsNaN_any _ _).mono ?_; rintro e w' ⟨rfl, n, rfl⟩))
    go_ret
    exact ⟨rfl, _, rfl⟩
end Go.Proofs.Ytpbbedelapnnnaa
