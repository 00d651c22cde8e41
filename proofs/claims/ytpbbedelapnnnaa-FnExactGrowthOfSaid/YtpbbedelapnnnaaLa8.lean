/- The last age. -/
import Derived.Test.YtpbbedelapnnnaaV7
namespace Go.Proofs.Ytpbbedelapnnnaa
open Go.RowKit Go.Dues
theorem lastAge8_any (A : Option Addr) (n _n : Nat) (x : Nat → Nat) (B : Option Addr) (m _m : Nat) (y : Nat → Nat) (C : Option Addr) (l _l : Nat) (z : Nat → Nat) (w : World) (hn : n ≤ maxLen) :
    Calls Try.prog 224 #[.agg #[.slice A n n, .slice B m m, .slice C l l]] w fun e w' => e = .returned (.int .i64 ((n : Int) - 1)) ∧ Below w.heap.size w w' := by
  unfold maxLen at hn
  have HBE := hide ((Below.refl w.heap.size w).alloc (Nat.le_refl _) (.cells #[.slice A n n, .slice B m m, .slice C l l] 29))
  go_enter Try.func224, Try.ntmps224
  go_wp2
  go_ret
  exact ⟨rfl, HBE.out⟩
theorem ret_eq8 {P : Program} {f : FuncId} {args : Array Value} {w : World} {b b' : Bool} {Q : World → Prop} (h : Calls P f args w fun e w' => e = .returned (.bool b) ∧ Q w') (e : b = b') : Calls P f args w fun e w' => e = .returned (.bool b') ∧ Q w' := by subst e; exact h
end Go.Proofs.Ytpbbedelapnnnaa
