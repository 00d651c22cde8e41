/- Not-a-numbers: math.IsNaN, impl.isNaN, and widening. -/
import Derived.Test.YtpbbedelapnnnaaChecked
import Derived.Test.YtpbbedelapnnnaaFlo
namespace Go.Proofs.Ytpbbedelapnnnaa
open Go.RowKit

theorem mathIsNaN_any (x : Nat) (w : World) :
    Calls Try.prog 228 #[.float .f64 x] w fun e w' => e = .returned (.bool (fnan .f64 x)) ∧ w = w' := by
  have hs := fnan_of_self (k := .f64) (x := x)
  rw [← hs]
  clear hs
  go_enter Try.func228, Try.ntmps228
  go_wp2
  all_goals (go_ret; exact ⟨rfl, rfl⟩)

theorem widen_nan (x : Nat) : fnan .f64 (widen x) = fnan .f32 x := by
  rcases mag_read32 x with ⟨s, t, e⟩ | ⟨s, e⟩ | hm
  · have h1 : fnan .f32 x = true := isNaN_of_read ⟨s, t, e⟩
    rw [h1]; unfold widen; rw [e]; exact fnan_qn .f64
  · have h1 : fnan .f32 x = false := by unfold fnan; show (Ieee.single.read x).isNaN = false; rw [e]; rfl
    rw [h1]; unfold widen; rw [e]
    cases s <;> decide +kernel
  · have h1 : fnan .f32 x = false := mag_not_nan hm
    rw [h1]; unfold widen
    cases hd : Ieee.single.read x with
    | infinity s => rw [hd] at hm; exact hm.elim
    | nan s t => rw [hd] at hm; exact hm.elim
    | number s m e =>
      rw [hd] at hm
      exact mag_not_nan (mag_write64 hm (by decide) (by decide))

theorem implIsNaN_any (x : Nat) (w : World) :
    Calls Try.prog 175 #[.float .f32 x] w fun e w' => e = .returned (.bool (fnan .f32 x)) ∧ ∃ n, w' = w.drewN n := by
  go_enter Try.func175, Try.ntmps175
  go_wp2_with (first | (refine wpList_widen _ rfl _ _ _ rfl _ rfl (by rw [Try.underlying26]; rfl) Try.underlying32 ?_; intro r n hr) | (go_at_call 228; refine (mathIsNaN_any _ _).mono ?_; rintro e w' ⟨rfl, rfl⟩))
  go_ret
  exact ⟨by rw [fnan_same (FR.same (by assumption)), widen_nan]; rfl, _, rfl⟩

end Go.Proofs.Ytpbbedelapnnnaa
