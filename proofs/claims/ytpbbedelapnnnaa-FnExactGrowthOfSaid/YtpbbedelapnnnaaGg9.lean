/- GrowthOf: what is handed back. -/
import Derived.Test.YtpbbedelapnnnaaGr8
import Derived.Test.YtpbbedelapnnnaaFa
import Derived.Test.YtpbbedelapnnnaaFy6
namespace Go.Proofs.Ytpbbedelapnnnaa
open Go.RowKit Go.Dues
/-- a growth, and the shares, if p holds -/
def GaveG (w w' : World) (e : Ending) (p : Prop) (n : Nat) (V : Nat) (X : Nat → Nat) : Prop :=
  ∃ r G d, ∃ z : Nat → Nat, e = .returned (.tuple #[.float .f32 r, .slice G (lenV p n) d, .bool (tru p)]) ∧ FS .f32 r (ifF p V) ∧ OW w' w.heap.size w'.heap.size G (lenV p n) (fun j => .float .f32 (z j)) ∧ (∀ j, j < lenV p n → FS .f32 (z j) (X j)) ∧ Below w.heap.size w w'
theorem gaveg_no {w w' : World} {p : Prop} {n V : Nat} {X : Nat → Nat} (h : ¬ p) (hb : Below w.heap.size w w') : GaveG w w' (.returned (.tuple #[.float .f32 0, .slice none 0 0, .bool false])) p n V X :=
  ⟨0, none, 0, fun _ => 0, by rw [lenV_no h, tru_no h], by rw [ifF_no h]; exact FS.refl _ _, .inl (lenV_no h), fun j hj => absurd hj (by rw [lenV_no h]; omega), hb⟩
theorem gaveg_yes {w w' : World} {p : Prop} {n d V r : Nat} {X : Nat → Nat} {G : Option Addr} (h : p) (hr : FS .f32 r V) (ho : OW w' w.heap.size w'.heap.size G n (fun j => .float .f32 (X j))) (hb : Below w.heap.size w w') : GaveG w w' (.returned (.tuple #[.float .f32 r, .slice G n d, .bool true])) p n V X :=
  ⟨r, G, d, X, by rw [lenV_yes h, tru_yes h], by rw [ifF_yes h]; exact hr, by rw [lenV_yes h]; exact ho, fun j _ => FS.refl _ _, hb⟩
/-- one cell of an own row is written -/
theorem OW.put {w : World} {lo hi g n k : Nat} {f : Nat → Value} {v : Value} (h : OW w lo hi (some ⟨g, 0, none⟩) n f) (hk : k < n) : OW (w.setCell ⟨g, k, none⟩ v) lo hi (some ⟨g, 0, none⟩) n (fun j => if j = k then v else f j) := by
  rcases h with h | ⟨g', cs, t, h1, h2, h3, h4, h5⟩
  · exact absurd hk (by omega)
  · obtain rfl : g = g' := by injection h1 with h1; injection h1
    refine .inr ⟨g, cs.setIfInBounds k v, t, rfl, h2, h3, Joins.block_setCell h4 v, fun j hj => ?_⟩
    show (cs.setIfInBounds k v)[j]? = some (if j = k then v else f j)
    by_cases e : j = k
    · subst e
      rw [if_pos rfl]
      have := h5 j hj
      simp [(Array.getElem?_eq_some_iff.1 this).1]
    · rw [if_neg e, Array.getElem?_setIfInBounds_ne (Ne.symm e)]
      exact h5 j hj
theorem OW.cellAt {w : World} {lo hi g n k : Nat} {f : Nat → Value} (h : OW w lo hi (some ⟨g, 0, none⟩) n f) (hk : k < n) : w.cell? ⟨g, k, none⟩ = some (f k) ∧ w.frozen? ⟨g, k, none⟩ = false := by
  rcases h with h | ⟨g', cs, t, h1, h2, h3, h4, h5⟩
  · exact absurd hk (by omega)
  · obtain rfl : g = g' := by injection h1 with h1; injection h1
    exact ⟨(Joins.cell_of_block h4 k).trans (h5 k hk), Joins.unfrozen_of_block h4 k⟩
theorem OW.at_ {w : World} {lo hi n : Nat} {G : Option Addr} {f : Nat → Value} (h : OW w lo hi G n f) (hn : 0 < n) : ∃ g, G = some ⟨g, 0, none⟩ ∧ lo ≤ g ∧ g < hi ∧ g < w.heap.size := by
  rcases h with h | ⟨g', cs, t, h1, h2, h3, h4, h5⟩
  · exact absurd hn (by omega)
  · exact ⟨g', h1, h2, h3, (Array.getElem?_eq_some_iff.1 h4).1⟩
/-- so far divided, the rest as it was -/
def mixG (U V : Nat → Nat) (k j : Nat) : Nat := if j < k then V j else U j
theorem mixG_step {U V : Nat → Nat} {k : Nat} (j : Nat) : (if j = k then Value.float .f32 (V k) else .float .f32 (mixG U V k j)) = .float .f32 (mixG U V (k + 1) j) := by
  unfold mixG
  by_cases e : j = k
  · subst e
    rw [if_pos rfl, if_pos (by omega)]
  · rw [if_neg e]
    by_cases h : j < k
    · rw [if_pos h, if_pos (by omega)]
    · rw [if_neg h, if_neg (by omega)]
theorem mixG_zero (U V : Nat → Nat) (j : Nat) : mixG U V 0 j = U j := if_neg (by omega)
theorem mixG_at (U V : Nat → Nat) (k : Nat) : mixG U V k k = U k := if_neg (by omega)
theorem mixG_all (U V : Nat → Nat) {l j : Nat} (h : j < l) : mixG U V l j = V j := if_pos h
/-- the shares of a round that is done are finite -/
theorem gs_fin {x y z : Nat → Nat} {n m l k : Nat} (hp : ppP (gsV x y z n k) n y m z l) (hc : grC x y z n k) (j : Nat) (hj : j < n) : ffin .f32 (gsV x y z n (k + 1) j) = true :=
  hd_fin ((gs_next hp hc).2.2.2.2.1 j hj)
theorem fs_of_fin {p q : Nat} (h : FS .f32 p q) (hq : ffin .f32 q = true) : p = q := fs_fin h hq
end Go.Proofs.Ytpbbedelapnnnaa
