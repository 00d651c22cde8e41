/- Life tables, by both. -/
import Derived.Test.YtpbbedelapnnnaaAl
import Derived.Test.YtpbbedelapnnnaaFls
import Derived.Test.YtpbbedelapnnnaaG1
namespace Go.Proofs.Ytpbbedelapnnnaa
open Go.RowKit Go.Dues
/-- the order of two 32-bit words -/
def od (x y : Nat) : Option Ordering := FloatKind.f32.format.order x y
def geB (x y : Nat) : Bool := od x y == some .gt || od x y == some .eq
def leB (x y : Nat) : Bool := od x y == some .lt || od x y == some .eq
def eqB (x y : Nat) : Bool := od x y == some .eq
def shB (x : Nat) : Bool := geB x 0 && leB x 1065353216
def ltP (x : Nat → Nat) (n : Nat) : Prop := (1 ≤ n ∧ n ≤ 120) ∧ (∀ j, j < n → shB (x j) = true) ∧ eqB (x (n - 1)) 1065353216 = true
theorem cells_f {A : Option Addr} {n : Nat} {f : Nat → Value} {w : World} (hs : SL w A n f) : Hid (∀ k, k < n → ∃ b off, A = some ⟨b, off, none⟩ ∧ b < w.heap.size ∧ w.cell? ⟨b, off + k, none⟩ = some (f k)) := by
  intro k hk
  obtain ⟨b, off, h1, h2, h3⟩ := hs.at_ (by omega)
  exact ⟨b, off, h1, h2, h3 k hk⟩
theorem specShare_any (x : Nat) (w : World) : Calls Try.prog 93 #[.float .f32 x] w fun e w' => e = .returned (.bool (shB x)) ∧ w = w' := by
  cases h1 : geB x 0
  · have HB := hide (show shB x = false by unfold shB; rw [h1]; rfl)
    have h1' : (FloatKind.f32.format.order x 0 == some .gt || FloatKind.f32.format.order x 0 == some .eq) = false := h1
    clear h1
    go_enter Try.func93, Try.ntmps93
    go_wp2
    go_ret
    exact ⟨retBa HB.out.symm, rfl⟩
  · have HB := hide (show shB x = leB x 1065353216 by unfold shB; rw [h1]; rfl)
    have h1' : (FloatKind.f32.format.order x 0 == some .gt || FloatKind.f32.format.order x 0 == some .eq) = true := h1
    clear h1
    go_enter Try.func93, Try.ntmps93
    go_wp2
    go_ret
    exact ⟨retBa HB.out.symm, rfl⟩
theorem implShare_any (x : Nat) (w : World) : Calls Try.prog 97 #[.float .f32 x] w fun e w' => e = .returned (.bool (shB x)) ∧ w = w' := by
  cases h1 : geB x 0
  · have HB := hide (show shB x = false by unfold shB; rw [h1]; rfl)
    have h1' : (FloatKind.f32.format.order x 0 == some .gt || FloatKind.f32.format.order x 0 == some .eq) = false := h1
    clear h1
    go_enter Try.func97, Try.ntmps97
    go_wp2
    go_ret
    exact ⟨retBa HB.out.symm, rfl⟩
  · have HB := hide (show shB x = leB x 1065353216 by unfold shB; rw [h1]; rfl)
    have h1' : (FloatKind.f32.format.order x 0 == some .gt || FloatKind.f32.format.order x 0 == some .eq) = true := h1
    clear h1
    go_enter Try.func97, Try.ntmps97
    go_wp2
    go_ret
    exact ⟨retBa HB.out.symm, rfl⟩
end Go.Proofs.Ytpbbedelapnnnaa
