/- laws.sameFloat: two floats that are the same are told to be the same. -/
import Derived.Test.YtpbbedelapnnnaaChecked
import Derived.Test.YtpbbedelapnnnaaFlo
namespace Go.Proofs.Ytpbbedelapnnnaa
open Go.RowKit

theorem sameFloat_any (a b : Nat) (w : World) (h : FS .f64 a b) :
    Calls Try.prog 19 #[.float .f64 a, .float .f64 b] w fun e w' => e = .returned (.bool true) ∧ ∃ n, w' = w.drewN n := by
  have hs := fnan_of_self (k := .f64) (x := a)
  have hs2 := fnan_of_self (k := .f64) (x := b)
  have hf := fnan_same h
  cases hn : fnan .f64 a
  · have hab : a = b := by
      rcases h with h | ⟨h, _⟩
      · exact h
      · rw [hn] at h; cases h
    subst hab
    rw [hn] at hs hf
    have he := order_refl hn
    clear hs2 hf h
    by_cases hz : FloatKind.f64.format.order a 0 = some .eq
    · have hz1 : (FloatKind.f64.format.order a 0 == some .eq) = true := by simpa using hz
      clear hz
      go_enter Try.func19, Try.ntmps19
      go_wp2_with (refine wpList_far _ rfl _ _ _ _ _ rfl (by decide) _ _ _ rfl rfl ?_; intro _ _ _)
      go_ret
      rename_i r1 n1 h1 r2 n2 h2
      have e := order_same (h1.same.trans h2.same.symm) (FS.refl .f64 0)
      exact ⟨by simp [e], _, rfl⟩
    · have hz1 : (FloatKind.f64.format.order a 0 == some .eq) = false := by simpa using hz
      go_enter Try.func19, Try.ntmps19
      go_wp2
      go_ret
      exact ⟨rfl, 0, rfl⟩
  · rw [hn] at hs hf
    rw [← hf] at hs2
    clear hf
    go_enter Try.func19, Try.ntmps19
    go_wp2
    go_ret
    exact ⟨rfl, 0, rfl⟩
end Go.Proofs.Ytpbbedelapnnnaa
