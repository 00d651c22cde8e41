/- Life tables: the law's form of the contracts. -/
import Derived.Test.YtjefpcmegkeceaaFc
namespace Go.Proofs.Ytjefpcmegkeceaa
open Go.RowKit Go.Dues
theorem specTable2_any (A : Option Addr) (n c : Nat) (x : Nat → Nat) (w : World) (hn : n ≤ maxLen) (hs : SL w A n (fun j => .float .f32 (x j))) :
    Calls Try.prog 41 #[.slice A n c] w fun e w' => e = .returned (.bool (tru (ltP x n))) ∧ Below w.heap.size w w' := by
  have HT := hide (specTable_any A n c x w hn hs)
  clear hs
  go_enter Try.func41, Try.ntmps41
  go_wp2_with fail
  refine HT.out.mono ?_
  rintro e w' ⟨rfl, rfl⟩
  go_wp2
  go_ret
  exact ⟨rfl, Below.refl _ _⟩
theorem implLife2_any (A : Option Addr) (n c : Nat) (x : Nat → Nat) (w : World) (hn : n ≤ maxLen) (hs : SL w A n (fun j => .float .f32 (x j))) :
    Calls Try.prog 43 #[.slice A n c] w fun e w' => e = .returned (.bool (tru (ltP x n))) ∧ Below w.heap.size w w' := (implLife_any A n c x w hn hs).mono fun _ _ ⟨h1, h2⟩ => ⟨h1, by rw [← h2]; exact Below.refl _ _⟩
end Go.Proofs.Ytjefpcmegkeceaa
