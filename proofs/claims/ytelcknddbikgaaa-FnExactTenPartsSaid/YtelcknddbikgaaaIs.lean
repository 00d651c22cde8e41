/- EvennessCurve, ShareOfTop, TenParts, by both. -/
import Derived.Test.YtelcknddbikgaaaIn
import Derived.Laws.AppendOwn
import Derived.Deep.RegionHeldLaw
import Derived.Deep.AppendLies
namespace Go.Proofs.Ytelcknddbikgaaa
open Go.RowKit Go.Dues
theorem SL.far9 {w w' : World} {row : Option Nat} {g off n : Nat} {f : Nat → Value} (h : SL w (some ⟨g, off, none⟩) n f) (hg : w.grownBy w' row) (hne : some g ≠ row) : SL w' (some ⟨g, off, none⟩) n f := by
  rcases h with h | ⟨b, o, h1, h2, h3⟩
  · exact .inl h
  · injection h1 with h1
    injection h1 with h1 h4
    subst h1 h4
    exact .inr ⟨g, off, rfl, Nat.lt_of_lt_of_le h2 hg.size, fun j hj => hg.cell (a := ⟨g, off + j, none⟩) (h3 j hj) hne⟩
theorem ow_lo9 {w : World} {lo hi g n : Nat} {f : Nat → Value} (h : OW w lo hi (some ⟨g, 0, none⟩) n f) (hn : n ≠ 0) : lo ≤ g ∧ g < hi := by
  rcases h with h | ⟨g', cs, t, h1, h2, h3, _⟩
  · exact absurd h hn
  · injection h1 with h1
    injection h1 with h1
    omega
theorem ret_no9 {p : Prop} {u v : Int} (h : ¬ p) : Ending.returned (.tuple #[.int .i64 0, .int .i64 0, .bool false]) = .returned (.tuple #[.int .i64 (ifV p u), .int .i64 (ifV p v), .bool (tru p)]) := by rw [ifV_no h, ifV_no h, tru_no h]
theorem ret_yes9 {p : Prop} {u v a b : Int} (h : p) (ha : a = u) (hb : b = v) : Ending.returned (.tuple #[.int .i64 a, .int .i64 b, .bool true]) = .returned (.tuple #[.int .i64 (ifV p u), .int .i64 (ifV p v), .bool (tru p)]) := by rw [ifV_yes h, ifV_yes h, tru_yes h, ha, hb]
def ecV (x : Nat → Int) (n k : Nat) : Int := psum (ascF x n) (k + 1)
def tpV (x : Nat → Int) (n k : Nat) : Int := ascF x n ((k + 1) * n / 10)
end Go.Proofs.Ytelcknddbikgaaa
