/- The law on treaties: its list of tariffs, and rows of wide elements. -/
import Derived.Test.YtjebkagbknmdoaaPt9
import Derived.Test.YtjebkagbknmdoaaBr8
namespace Go.Proofs.Ytjebkagbknmdoaa
open Go.RowKit Go.Dues
def ftT (x : Nat → Int) (n : Nat) (j : Nat) : Int := if j % 3 = 0 then 100 * r8V x n j 40 else if j % 3 = 1 then r8V x n j 20 else r8V x n j 256
theorem ftT_0 (x : Nat → Int) (n i : Nat) : ftT x n (i * 3) = 100 * r8V x n (3 * (i : Int)) 40 := by
  unfold ftT
  rw [if_pos (by omega), show ((i * 3 : Nat) : Int) = 3 * (i : Int) by omega]
theorem ftT_1 (x : Nat → Int) (n i : Nat) : ftT x n (i * 3 + 1) = r8V x n (3 * (i : Int) + 1) 20 := by
  unfold ftT
  rw [if_neg (by omega), if_pos (by omega), show ((i * 3 + 1 : Nat) : Int) = 3 * (i : Int) + 1 by omega]
theorem ftT_2 (x : Nat → Int) (n i : Nat) : ftT x n (i * 3 + 2) = r8V x n (3 * (i : Int) + 2) 256 := by
  unfold ftT
  rw [if_neg (by omega), if_neg (by omega), show ((i * 3 + 2 : Nat) : Int) = 3 * (i : Int) + 2 by omega]
theorem ftT_bd (x : Nat → Int) (n i : Nat) : (0 ≤ ftT x n (i * 3) ∧ ftT x n (i * 3) ≤ 3900) ∧ (0 ≤ ftT x n (i * 3 + 1) ∧ ftT x n (i * 3 + 1) ≤ 19) ∧ (0 ≤ ftT x n (i * 3 + 2) ∧ ftT x n (i * 3 + 2) ≤ 255) := by
  rw [ftT_0, ftT_1, ftT_2]
  have a := r8V_bd (x := x) (n := n) (i := 3 * (i : Int)) (N := 40) (by omega)
  have b := r8V_bd (x := x) (n := n) (i := 3 * (i : Int) + 1) (N := 20) (by omega)
  have c := r8V_bd (x := x) (n := n) (i := 3 * (i : Int) + 2) (N := 256) (by omega)
  omega
theorem ft_bt {x : Nat → Int} {n K : Nat} {v p r : Int} (hK : 1 ≤ K ∧ K ≤ 5) (hv : 1 ≤ v ∧ v ≤ 10000) (hp : 0 ≤ p ∧ p ≤ 100) (hr : 0 ≤ r ∧ r ≤ 3) : btP (ftT x n) K v p r := by
  refine ⟨⟨hK.1, by omega⟩, fun j _ => ?_⟩
  have b := ftT_bd x n j
  exact (ft_cu (v := v) (p := p) (r := r) (by omega) (by omega) (by omega) hv hp hr).1
theorem row3_next {xs : List Value} {i : Nat} {F : Nat → Value} {a b c : Value} (hl : xs.length = i * 3) (h : ∀ j, j < i * 3 → xs[j]? = some (F j)) (ha : a = F (i * 3)) (hb : b = F (i * 3 + 1)) (hc : c = F (i * 3 + 2)) : ∀ j, j < (i + 1) * 3 → (xs ++ [a, b, c])[j]? = some (F j) := by
  intro j hj
  rcases Nat.lt_or_ge j (i * 3) with h1 | h1
  · rw [List.getElem?_append_left (by omega)]; exact h j h1
  · rw [List.getElem?_append_right (by omega), hl]
    obtain ⟨k, hk⟩ : ∃ k, j = i * 3 + k := ⟨j - i * 3, by omega⟩
    subst hk
    rw [Nat.add_sub_cancel_left]
    match k, hj with
    | 0, _ => rw [ha]; rfl
    | 1, _ => rw [hb]; rfl
    | 2, _ => rw [hc]; rfl
    | k + 3, hj => omega
theorem cell_3new (w : World) (x y z : Value) (t : TypeId) : ∀ j u, [x, y, z][j]? = some u → (w.alloc (.cells #[x, y, z] t)).cell? ((⟨w.heap.size, 0, none⟩ : Addr).add j) = some u := by
  intro j u hj
  match j, hj with
  | 0, hj => simp at hj; subst hj; simp [Addr.add]
  | 1, hj => simp at hj; subst hj; simp [Addr.add]
  | 2, hj => simp at hj; subst hj; simp [Addr.add]
  | j + 3, hj => simp at hj
theorem own_sl {w : World} {B e sz c n : Nat} {A : Option Addr} {f : Nat → Value} {xs : List Value} (h : w.ownsRow B e sz (.slice A n c) n xs) (hx : ∀ j, j < n * sz → xs[j]? = some (f j)) : SL w A (n * sz) f := by
  rcases h.2 with ⟨_, h⟩ | ⟨g, cap, cur, h1, h2, h3, h4, _, h5, h6⟩
  · subst h; exact .inl (Nat.zero_mul _)
  · injection h1 with h1
    refine .inr ⟨g, 0, h1, (Array.getElem?_eq_some_iff.1 h3).1, fun j hj => ?_⟩
    have h7 := hx j hj
    rw [← h6, List.getElem?_take, if_pos hj, Array.getElem?_toList] at h7
    have h8 := Joins.cell_of_block h3 (0 + j)
    rw [h8, Nat.zero_add]
    exact h7
end Go.Proofs.Ytjebkagbknmdoaa
