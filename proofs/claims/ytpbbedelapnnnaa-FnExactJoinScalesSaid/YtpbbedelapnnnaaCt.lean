/- Rows that are appended whole: what the append asks of its source. -/
import Derived.Test.YtpbbedelapnnnaaG1
namespace Go.Proofs.Ytpbbedelapnnnaa
open Go.RowKit Go.Dues
theorem src_cells9 {w W : World} {b off n : Nat} {f : Nat → Value} (h : b < w.heap.size ∧ ∀ j, j < n → w.cell? ⟨b, off + j, none⟩ = some (f j)) (hbel : Below w.heap.size w W) : ∀ j u, ((List.range n).map f)[j]? = some u → W.cell? ((⟨b, off, none⟩ : Addr).add j) = some u := by
  intro j u hj
  rw [List.getElem?_map] at hj
  have hjn : j < n := by
    rcases Nat.lt_or_ge j n with h | h
    · exact h
    · rw [List.getElem?_eq_none (by simpa using h)] at hj; cases hj
  rw [List.getElem?_range hjn] at hj
  simp at hj
  subst hj
  have ha : (⟨b, off, none⟩ : Addr).add j = ⟨b, off + j, none⟩ := by
    unfold Addr.add
    split
    · rename_i h; subst h; rfl
    · rfl
  rw [ha, hbel.cell (p := ⟨b, off + j, none⟩) h.1]
  exact h.2 j hjn
theorem row_at9 (n : Nat) (f : Nat → Value) : ∀ j, j < n → ((List.range n).map f)[j]? = some (f j) := by
  intro j hj
  rw [List.getElem?_map, List.getElem?_range hj]; rfl
theorem one_cells9 (n : Nat) (x : Nat → Int) : ∀ u ∈ ((List.range n).map fun j => Value.int .i64 (x j)), u.oneCell' = true := by
  intro u hu; rw [List.mem_map] at hu; obtain ⟨j, _, rfl⟩ := hu; rfl
/-- one row behind the other -/
def catV (x : Nat → Int) (n : Nat) (y : Nat → Int) (j : Nat) : Int := if j < n then x j else y (j - n)
theorem cat_at {n m : Nat} {x y : Nat → Int} : ∀ j, j < n + m → (((List.range n).map fun j => Value.int .i64 (x j)) ++ ((List.range m).map fun j => Value.int .i64 (y j)))[j]? = some (.int .i64 (catV x n y j)) := by
  intro j hj
  unfold catV
  by_cases h : j < n
  · rw [if_pos h, List.getElem?_append_left (by simpa using h)]
    exact row_at9 n (fun j => .int .i64 (x j)) j h
  · rw [if_neg h, List.getElem?_append_right (by simpa using h)]
    simp only [List.length_map, List.length_range]
    exact row_at9 m (fun j => .int .i64 (y j)) (j - n) (by omega)
end Go.Proofs.Ytpbbedelapnnnaa
