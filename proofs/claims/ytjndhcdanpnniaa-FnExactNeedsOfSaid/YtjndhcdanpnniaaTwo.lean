/- Two rows of the call's own that grow side by side. -/
import Derived.Test.YtjndhcdanpnniaaOw
import Derived.Maps.AppendAt
namespace Go
open Go.RowKit
def Apart (A B : Option Nat) : Prop := A = none ∨ B = none ∨ A ≠ B
theorem Apart.symm {A B : Option Nat} (h : Apart A B) : Apart B A := by
  rcases h with h | h | h
  · exact .inr (.inl h)
  · exact .inl h
  · exact .inr (.inr fun e => h e.symm)
theorem Apart.ne {A B : Option Nat} (h : Apart A B) : A = none ∨ A ≠ B := by
  rcases h with h | h | h
  · exact .inl h
  · rcases A with _ | a
    · exact .inl rfl
    · exact .inr (by rw [h]; simp)
  · exact .inr h
theorem Apart.step {A A' B : Option Nat} {s : Nat} (h : Apart A B) (hB : ∀ k, B = some k → k < s) (hat : A' = A ∨ A' = some s) : Apart A' B := by
  rcases hat with rfl | rfl
  · exact h
  · rcases B with _ | b
    · exact .inr (.inl rfl)
    · exact .inr (.inr fun e => by injection e with e; have := hB b rfl; omega)
theorem apart_of_slices {w : World} {B e e' n n' : Nat} {v v' : Value} {xs xs' : List Value} (hv : w.ownsRow B e 1 v n xs) (hv' : w.ownsRow B e' 1 v' n' xs') {G G' : Option Addr} {d d' : Nat} (h1 : v = .slice G n d) (h2 : v' = .slice G' n' d') (ha : Apart v.ownBlock v'.ownBlock) :
    ∀ g g', G = some ⟨g, 0, none⟩ → G' = some ⟨g', 0, none⟩ → g ≠ g' := by
  intro g g' e1 e2 he
  subst h1 h2 e1 e2 he
  rcases ha with ha | ha | ha
  · cases ha
  · cases ha
  · exact ha rfl
end Go
