/- Two lists that a call made, apart. -/
import Derived.Test.YtjefpcmegkeceaaLn
import Derived.Test.YtjefpcmegkeceaaOw
namespace Go.Proofs.Ytjefpcmegkeceaa
open Go.RowKit Go.Dues
theorem ow_own7 {w : World} {lo hi : Nat} {A : Option Addr} {n : Nat} {f : Nat → Value} (h : OW w lo hi A n f) (hn : n ≠ 0) : ∃ g, A = some ⟨g, 0, none⟩ ∧ lo ≤ g ∧ g < hi ∧ OW w g (g + 1) A n f := by
  rcases h with h | ⟨g, cs, t, h1, h2, h3, h4, h5⟩
  · exact absurd h hn
  · exact ⟨g, h1, h2, h3, .inr ⟨g, cs, t, h1, Nat.le_refl _, by omega, h4, h5⟩⟩
theorem split77 {w' : World} {lo hi : Nat} {G G' : Option Addr} {n n' : Nat} {f f' : Nat → Value} (hlh : lo ≤ hi) (ho : OW w' lo hi G n f) (ho' : OW w' lo hi G' n' f') (hne : n ≠ 0 → n' ≠ 0 → G ≠ G') :
    ∃ l h l' h', OW w' l h G n f ∧ OW w' l' h' G' n' f' ∧ lo ≤ l ∧ h ≤ hi ∧ l ≤ h ∧ lo ≤ l' ∧ h' ≤ hi ∧ l' ≤ h' ∧ (h ≤ l' ∨ h' ≤ l) := by
  by_cases hn : n = 0
  · exact ⟨lo, lo, lo, hi, .inl hn, ho', by omega, by omega, by omega, by omega, by omega, by omega, by omega⟩
  · by_cases hn' : n' = 0
    · exact ⟨lo, hi, lo, lo, ho, .inl hn', by omega, by omega, by omega, by omega, by omega, by omega, by omega⟩
    · obtain ⟨g, e, h1, h2, h3⟩ := ow_own7 ho hn
      obtain ⟨g', e', h1', h2', h3'⟩ := ow_own7 ho' hn'
      have : g ≠ g' := fun hh => hne hn hn' (by rw [e, e', hh])
      exact ⟨g, g + 1, g', g' + 1, h3, h3', by omega, by omega, by omega, by omega, by omega, by omega, by omega⟩
theorem gave2_split7 {w w' : World} {e : Ending} {p : Prop} {n : Nat} {x y : Nat → Int} (hg : Gave2 w w' e p n x y) :
    ∃ G d G' d' l h l' h', e = .returned (.tuple #[.slice G (lenV p n) d, .slice G' (lenV p n) d', .bool (tru p)]) ∧ OW w' l h G (lenV p n) (fun j => .int .i64 (x j)) ∧ OW w' l' h' G' (lenV p n) (fun j => .int .i64 (y j)) ∧
      w.heap.size ≤ l ∧ h ≤ w'.heap.size ∧ l ≤ h ∧ w.heap.size ≤ l' ∧ h' ≤ w'.heap.size ∧ l' ≤ h' ∧ (h ≤ l' ∨ h' ≤ l) ∧ Below w.heap.size w w' := by
  obtain ⟨G, d, G', d', he, ho, ho', hne, hb⟩ := hg
  obtain ⟨l, h, l', h', a, b, c1, c2, c3, c4, c5, c6, c7⟩ := split77 hb.size ho ho' (fun h _ => hne h)
  exact ⟨G, d, G', d', l, h, l', h', he, a, b, c1, c2, c3, c4, c5, c6, c7, hb⟩
end Go.Proofs.Ytjefpcmegkeceaa
