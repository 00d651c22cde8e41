/- Loans: the table by the program; a term by the reference. -/
import Derived.Test.YtjndhcdanpnniaaB3
import Derived.Test.YtjndhcdanpnniaaG1
namespace Go.Proofs.Ytjndhcdanpnniaa
open Go.RowKit Go.Dues
/-- two lists of n numbers each that the call made, if p holds; none if not -/
def Gave2 (w w' : World) (e : Ending) (p : Prop) (n : Nat) (x y : Nat → Int) : Prop :=
  ∃ G d G' d', e = .returned (.tuple #[.slice G (lenV p n) d, .slice G' (lenV p n) d', .bool (tru p)]) ∧ OW w' w.heap.size w'.heap.size G (lenV p n) (fun j => .int .i64 (x j)) ∧ OW w' w.heap.size w'.heap.size G' (lenV p n) (fun j => .int .i64 (y j)) ∧ (lenV p n ≠ 0 → G ≠ G') ∧ Below w.heap.size w w'
theorem gave2_no {w w' : World} {p : Prop} {n : Nat} {x y : Nat → Int} (h : ¬ p) (hb : Below w.heap.size w w') : Gave2 w w' (.returned (.tuple #[.slice none 0 0, .slice none 0 0, .bool false])) p n x y := by
  refine ⟨none, 0, none, 0, ?_, ?_, ?_, ?_, hb⟩
  · rw [lenV_no h, tru_no h]
  · rw [lenV_no h]; exact .inl rfl
  · rw [lenV_no h]; exact .inl rfl
  · intro hh; exact absurd (lenV_no h) hh
theorem gave2_yes {w w' : World} {p : Prop} {n d d' : Nat} {x y : Nat → Int} {G G' : Option Addr} (h : p) (ho : OW w' w.heap.size w'.heap.size G n (fun j => .int .i64 (x j))) (ho' : OW w' w.heap.size w'.heap.size G' n (fun j => .int .i64 (y j))) (hne : n ≠ 0 → G ≠ G') (hb : Below w.heap.size w w') :
    Gave2 w w' (.returned (.tuple #[.slice G n d, .slice G' n d', .bool true])) p n x y := by
  refine ⟨G, d, G', d', ?_, ?_, ?_, ?_, hb⟩
  · rw [lenV_yes h, tru_yes h]
  · rw [lenV_yes h]; exact ho
  · rw [lenV_yes h]; exact ho'
  · rw [lenV_yes h]; exact hne
theorem gave2_yes' {w w' : World} {p : Prop} {k n d d' : Nat} {x y : Nat → Int} {G G' : Option Addr} (h : p) (hk : k = n) (ho : OW w' w.heap.size w'.heap.size G k (fun j => .int .i64 (x j))) (ho' : OW w' w.heap.size w'.heap.size G' k (fun j => .int .i64 (y j))) (hne : k ≠ 0 → G ≠ G') (hb : Below w.heap.size w w') :
    Gave2 w w' (.returned (.tuple #[.slice G k d, .slice G' k d', .bool true])) p n x y := by subst hk; exact gave2_yes h ho ho' hne hb
theorem apart_ne {w : World} {B e n d d' : Nat} {xs xs' : List Value} {G G' : Option Addr} (hv : w.ownsRow B e 1 (.slice G n d) n xs) (hv' : w.ownsRow B e 1 (.slice G' n d') n xs') (ha : Apart (Value.slice G n d).ownBlock (Value.slice G' n d').ownBlock) (hn : n ≠ 0) : G ≠ G' := by
  intro h
  subst h
  rcases hv.2 with ⟨_, h⟩ | ⟨g, cap, cur, h1, _⟩
  · exact hn h
  · injection h1 with h1
    subst h1
    rcases ha with ha | ha | ha
    · cases ha
    · cases ha
    · exact ha rfl
theorem implAmt_any (n : Int) (w : World) : Calls Try.prog 133 #[.int .i64 n] w fun e w' => e = .returned (.bool (inB n 0 1000000000000)) ∧ w = w' := by
  by_cases h0 : 0 ≤ n
  · by_cases h1 : n ≤ 1000000000000
    · have HB := hide (inB_yes ⟨h0, h1⟩)
      go_enter Try.func133, Try.ntmps133
      go_wp2
      go_ret
      exact ⟨retb HB.out.symm, rfl⟩
    · have HB := hide (inB_no (x := n) (lo := 0) (hi := 1000000000000) (by omega))
      go_enter Try.func133, Try.ntmps133
      go_wp2
      go_ret
      exact ⟨retb HB.out.symm, rfl⟩
  · have HB := hide (inB_no (x := n) (lo := 0) (hi := 1000000000000) (by omega))
    go_enter Try.func133, Try.ntmps133
    go_wp2
    go_ret
    exact ⟨retb HB.out.symm, rfl⟩
def tabP (c r p n : Int) : Prop := (0 ≤ c ∧ c ≤ 1000000000) ∧ (0 ≤ r ∧ r ≤ 100000) ∧ (0 ≤ p ∧ p ≤ 1000000000) ∧ (1 ≤ n ∧ n ≤ 120) ∧ okN c r p n.toNat
end Go.Proofs.Ytjndhcdanpnniaa
