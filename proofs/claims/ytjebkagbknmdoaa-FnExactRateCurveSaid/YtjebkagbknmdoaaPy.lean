/- Pays, by both. -/
import Derived.Test.YtjebkagbknmdoaaDi
import Derived.Test.YtjebkagbknmdoaaAm
import Derived.Test.YtjebkagbknmdoaaOw
namespace Go.Proofs.Ytjebkagbknmdoaa
open Go.RowKit Go.Dues
def payN (n : Nat) : Prop := 1 ≤ n ∧ n ≤ 60
theorem implPayCount_any (n : Nat) (w : World) (hn : n ≤ maxLen) : Calls Try.prog 124 #[.int .i64 n] w fun e w' => e = .returned (.bool (tru (payN n))) ∧ w = w' := by
  unfold maxLen at hn
  by_cases h1 : 1 ≤ n
  · by_cases h2 : n ≤ 60
    · have HF := hide (tru_yes (p := payN n) ⟨h1, h2⟩)
      have hd : decide ((n : Int) ≤ 60) = true := by simp; omega
      go_enter Try.func124, Try.ntmps124
      go_wp2
      go_ret
      exact ⟨retb HF.out.symm, rfl⟩
    · have HF := hide (tru_no (p := payN n) (fun h => h2 h.2))
      have hd : decide ((n : Int) ≤ 60) = false := by simp; omega
      go_enter Try.func124, Try.ntmps124
      go_wp2
      go_ret
      exact ⟨retb HF.out.symm, rfl⟩
  · have HF := hide (tru_no (p := payN n) (fun h => h1 h.1))
    go_enter Try.func124, Try.ntmps124
    go_wp2
    go_ret
    exact ⟨retb HF.out.symm, rfl⟩
def listP (x : Nat → Int) (n : Nat) : Prop := payN n ∧ ∀ j, j < n → 0 ≤ x j ∧ x j ≤ 1000000000000
end Go.Proofs.Ytjebkagbknmdoaa
