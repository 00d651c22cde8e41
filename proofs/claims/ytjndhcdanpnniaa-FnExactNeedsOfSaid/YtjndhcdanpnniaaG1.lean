/- Lists of numbers that a call makes: one list, if all is well; none if not. -/
import Derived.Test.YtjndhcdanpnniaaB3
import Derived.Test.YtjndhcdanpnniaaTwo
namespace Go.Proofs.Ytjndhcdanpnniaa
open Go.RowKit Go.Dues
theorem Try.cells64 : Try.prog.cellsOf 2 = 1 := by kernel_rfl
theorem Try.info64 : (Try.prog.info? 2).map (fun i => (i.zero, i.size, i.bytes)) = some (some (.int .i64 0), 1, 8) := by kernel_rfl
theorem bel_q {B : Nat} {a w : World} (h : Below B a w) (n : Nat) : Below B a (w.drewN n) := ⟨h.os, h.tape, h.output, h.size, h.block⟩
theorem own_step {F : Nat → Value} {xs : List Value} {k : Nat} {u : Value} (hl : xs.length = k) (h : ∀ j, j < k → xs[j]? = some (F j)) (hu : u = F k) : ∀ j, j < k + 1 → (xs ++ [u])[j]? = some (F j) := by
  intro j hj
  by_cases hjk : j = k
  · subst hjk
    rw [List.getElem?_append_right (by omega), hl, Nat.sub_self, hu]
    rfl
  · rw [List.getElem?_append_left (by omega)]
    exact h j (by omega)
theorem ret_slice {G : Option Addr} {p : Prop} {k n d : Nat} (h : p) (hk : k = n) : Ending.returned (.tuple #[.slice G k d, .bool true]) = .returned (.tuple #[.slice G (lenV p n) d, .bool (tru p)]) := by rw [lenV_yes h, tru_yes h, hk]
theorem ret_slice0 {p : Prop} {n : Nat} (h : ¬ p) : Ending.returned (.tuple #[.slice none 0 0, .bool false]) = .returned (.tuple #[.slice none (lenV p n) 0, .bool (tru p)]) := by rw [lenV_no h, tru_no h]
/-- one list of n numbers that the call made, if p holds; none if not -/
def Gave1 (w w' : World) (e : Ending) (p : Prop) (n : Nat) (z : Nat → Int) : Prop :=
  ∃ G d, e = .returned (.tuple #[.slice G (lenV p n) d, .bool (tru p)]) ∧ OW w' w.heap.size w'.heap.size G (lenV p n) (fun j => .int .i64 (z j)) ∧ Below w.heap.size w w'
theorem gave1_no {w w' : World} {p : Prop} {n : Nat} {z : Nat → Int} (h : ¬ p) (hb : Below w.heap.size w w') : Gave1 w w' (.returned (.tuple #[.slice none 0 0, .bool false])) p n z :=
  ⟨none, 0, ret_slice0 h, .inl (lenV_no h), hb⟩
theorem gave1_yes {w w' : World} {p : Prop} {k n d : Nat} {z : Nat → Int} {G : Option Addr} (h : p) (hk : k = n) (ho : OW w' w.heap.size w'.heap.size G k (fun j => .int .i64 (z j))) (hb : Below w.heap.size w w') : Gave1 w w' (.returned (.tuple #[.slice G k d, .bool true])) p n z :=
  ⟨G, d, ret_slice h hk, by rw [lenV_yes h, ← hk]; exact ho, hb⟩
theorem len_le1 {p : Prop} {n M : Nat} (h : n ≤ M) (hM : M ≤ 1048576) : lenV p n ≤ 1048576 := Nat.le_trans (lenV_le _ _) (Nat.le_trans h hM)
end Go.Proofs.Ytjndhcdanpnniaa
