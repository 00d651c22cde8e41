/- The reference's own people with other counts. -/
import Derived.Test.YtpbbedelapnnnaaNp8
import Derived.Deep.RegionLaw
import Derived.Deep.RegionLawGrows
import Derived.Deep.RegionHeld3
namespace Go.Proofs.Ytpbbedelapnnnaa
open Go.RowKit Go.Dues
theorem src_cells8 {w W : World} {b off n : Nat} {f : Nat → Value} (h : b < w.heap.size ∧ ∀ j, j < n → w.cell? ⟨b, off + j, none⟩ = some (f j)) (hbel : Below w.heap.size w W) : ∀ j u, ((List.range n).map f)[j]? = some u → W.cell? ((⟨b, off, none⟩ : Addr).add j) = some u := by
  intro j u hj
  rw [List.getElem?_map] at hj
  have hjn : j < n := by
    rcases Nat.lt_or_ge j n with h | h
    · exact h
    · rw [List.getElem?_eq_none (by simpa using h)] at hj; cases hj
  rw [List.getElem?_range hjn] at hj
  simp at hj
  subst hj
  have ha : (⟨b, off, none⟩ : Addr).add j = ⟨b, off + j, none⟩ := by
    unfold Addr.add
    split
    · rename_i h; subst h; rfl
    · rfl
  rw [ha, hbel.cell (p := ⟨b, off + j, none⟩) h.1]
  exact h.2 j hjn
theorem row_at8 (n : Nat) (x : Nat → Nat) : ∀ j, j < n → ((List.range n).map fun j => Value.float .f32 (x j))[j]? = some (.float .f32 (x j)) := by
  intro j hj
  rw [List.getElem?_map, List.getElem?_range hj]; rfl
theorem one_cells8 (n : Nat) (x : Nat → Nat) : ∀ u ∈ ((List.range n).map fun j => Value.float .f32 (x j)), u.oneCell' = true := by
  intro u hu; rw [List.mem_map] at hu; obtain ⟨j, _, rfl⟩ := hu; rfl

end Go.Proofs.Ytpbbedelapnnnaa
