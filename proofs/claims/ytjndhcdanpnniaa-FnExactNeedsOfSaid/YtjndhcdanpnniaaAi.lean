/- ActiveRules, by the program: a range over a function. -/
import Derived.Test.YtjndhcdanpnniaaAr
namespace Go.Proofs.Ytjndhcdanpnniaa
open Go.RowKit Go.Shelf Go.Dues
attribute [local go_sem] Oper.semAt_some
/-- an append to a boxed row of the loop's own: what lies then -/
theorem collectedR {W w2 : World} {n₀ n1 Bp : Nat} {v v' : Value} {k m : Nat} {xs ys : List Value} {tmp : Obj} (hv : Boxed W Bp 24 v) (hrow : W.ownsRow n1 2 1 v k xs) (hn1 : n1 ≤ W.heap.size) (hB : Bp < n1) (hB0 : n₀ ≤ Bp)
    (hown' : w2.ownsRow n1 2 1 v' m ys) (hgrow : (W.alloc tmp).grownBy w2 v.ownBlock) :
    Boxed w2 Bp 24 v ∧ Boxed (w2.setCell ⟨Bp, 0, none⟩ v') Bp 24 v' ∧ (w2.setCell ⟨Bp, 0, none⟩ v').ownsRow n1 2 1 v' m ys ∧ KeepsOthers W (w2.setCell ⟨Bp, 0, none⟩ v') ∧ Below n₀ W (w2.setCell ⟨Bp, 0, none⟩ v') ∧ ∀ i, i < n1 → i ≠ Bp → (w2.setCell ⟨Bp, 0, none⟩ v').heap[i]? = W.heap[i]? := by
  have hlow : ∀ {u : World} {y : Value} {q : Nat} {zs : List Value}, u.ownsRow n1 2 1 y q zs → u.ownsRow n₀ 2 1 y q zs := fun h => by
    refine ⟨h.1, ?_⟩
    rcases h.2 with h0 | ⟨g, cap, cur, h1, h2, h3⟩
    · exact .inl h0
    · exact .inr ⟨g, cap, cur, h1, by omega, h3⟩
  obtain ⟨a1, a2, a3, a4, a5⟩ := hv.appended (by decide) (hlow hrow) (by omega) hB0 (hlow hown') hgrow
  refine ⟨a1, a2, hown'.kept (grownBy_setCell' w2 Bp v') (.inr (a1.not_row (by decide) hown').symm), a4, a5, fun i hi hne => ?_⟩
  refine (Below.heap_setCell w2 ⟨Bp, 0, none⟩ v' i hne).trans ((hgrow.block i (by simp; omega) (fun e => ?_)).trans (Below.heap_alloc W _ i (by omega)))
  have := (hrow.lt i e.symm).1
  omega
theorem own_cap {w : World} {B e n d : Nat} {G : Option Addr} {xs : List Value} (h : w.ownsRow B e 1 (.slice G n d) n xs) : n ≤ d := by
  rcases h.2 with ⟨h0, h1⟩ | ⟨g, cap, cur, h1, _, _, h4, _⟩
  · omega
  · injection h1 with _ _ h1
    omega
/-- one list of n numbers that the call made, if p holds, in room enough; none if not -/
def Gave1c (w w' : World) (e : Ending) (p : Prop) (n : Nat) (z : Nat → Int) : Prop :=
  ∃ G d, e = .returned (.tuple #[.slice G (lenV p n) d, .bool (tru p)]) ∧ OW w' w.heap.size w'.heap.size G (lenV p n) (fun j => .int .i64 (z j)) ∧ Below w.heap.size w w' ∧ lenV p n ≤ d
theorem gave1c_no {w w' : World} {p : Prop} {n : Nat} {z : Nat → Int} (h : ¬ p) (hb : Below w.heap.size w w') : Gave1c w w' (.returned (.tuple #[.slice none 0 0, .bool false])) p n z :=
  ⟨none, 0, ret_slice0 h, .inl (lenV_no h), hb, by rw [lenV_no h]; exact Nat.le_refl _⟩
theorem gave1c_yes {w w' : World} {p : Prop} {k n d : Nat} {z : Nat → Int} {G : Option Addr} (h : p) (hk : k = n) (hd : k ≤ d) (ho : OW w' w.heap.size w'.heap.size G k (fun j => .int .i64 (z j))) (hb : Below w.heap.size w w') : Gave1c w w' (.returned (.tuple #[.slice G k d, .bool true])) p n z :=
  ⟨G, d, ret_slice h hk, by rw [lenV_yes h, ← hk]; exact ho, hb, by rw [lenV_yes h, ← hk]; exact hd⟩
end Go.Proofs.Ytjndhcdanpnniaa
