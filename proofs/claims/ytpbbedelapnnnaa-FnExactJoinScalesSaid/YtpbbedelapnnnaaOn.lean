/- The reference's own copy of a scale. -/
import Derived.Test.YtpbbedelapnnnaaEb
import Derived.Deep.RegionLaw
import Derived.Deep.RegionLawGrows
import Derived.Deep.RegionHeld3
namespace Go.Proofs.Ytpbbedelapnnnaa
open Go.RowKit Go.Dues
theorem src_cells {w W : World} {b off n : Nat} {f : Nat → Value} (h : b < w.heap.size ∧ ∀ j, j < n → w.cell? ⟨b, off + j, none⟩ = some (f j)) (hbel : Below w.heap.size w W) : ∀ j u, ((List.range n).map f)[j]? = some u → W.cell? ((⟨b, off, none⟩ : Addr).add j) = some u := by
  intro j u hj
  rw [List.getElem?_map] at hj
  have hjn : j < n := by
    rcases Nat.lt_or_ge j n with h | h
    · exact h
    · rw [List.getElem?_eq_none (by simpa using h)] at hj; cases hj
  rw [List.getElem?_range hjn] at hj
  simp at hj
  subst hj
  have ha : (⟨b, off, none⟩ : Addr).add j = ⟨b, off + j, none⟩ := by
    unfold Addr.add
    split
    · rename_i h; subst h; rfl
    · rfl
  rw [ha, hbel.cell (p := ⟨b, off + j, none⟩) h.1]
  exact h.2 j hjn
theorem row_at (n : Nat) (x : Nat → Int) : ∀ j, j < n → ((List.range n).map fun j => Value.int .i64 (x j))[j]? = some (.int .i64 (x j)) := by
  intro j hj
  rw [List.getElem?_map, List.getElem?_range hj]; rfl
theorem ow2_of {w : World} {lo hi l1 h1 l2 h2 n n' : Nat} {A A' : Option Addr} {x x' : Nat → Int} (a : OW w l1 h1 A n (fun j => .int .i64 (x j))) (b : OW w l2 h2 A' n' (fun j => .int .i64 (x' j))) (d : h1 ≤ l2 ∨ h2 ≤ l1) (e1 : lo ≤ l1) (e2 : h1 ≤ hi) (e3 : lo ≤ l2) (e4 : h2 ≤ hi) : OW2 w lo hi A n x A' n' x' := by
  refine ⟨a.wide e1 e2, b.wide e3 e4, fun hn hn' he => ?_⟩
  rcases a with a | ⟨g, cs, t, a1, a2, a3, _⟩
  · exact hn a
  rcases b with b | ⟨g', cs', t', b1, b2, b3, _⟩
  · exact hn' b
  rw [a1, b1] at he
  injection he with he
  injection he with he
  omega
theorem one_cells (n : Nat) (x : Nat → Int) : ∀ u ∈ ((List.range n).map fun j => Value.int .i64 (x j)), u.oneCell' = true := by
  intro u hu; rw [List.mem_map] at hu; obtain ⟨j, _, rfl⟩ := hu; rfl

end Go.Proofs.Ytpbbedelapnnnaa
