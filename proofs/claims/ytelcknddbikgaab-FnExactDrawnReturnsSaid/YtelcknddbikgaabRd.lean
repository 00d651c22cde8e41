/- Rounded quotients, by both. -/
import Derived.Test.YtelcknddbikgaabVp
import Derived.RegionTactic
namespace Go.Proofs.Ytelcknddbikgaab
open Go.RowKit Go.Dues
theorem ret_ib {p : Prop} {v w : Int} {b : Bool} (h : v = w) (h2 : b = tru p) : Ending.returned (.tuple #[.int .i64 v, .bool b]) = .returned (.tuple #[.int .i64 w, .bool (tru p)]) := by rw [h, h2]
theorem ret_no {p : Prop} {v : Int} (h : ¬ p) : Ending.returned (.tuple #[.int .i64 0, .bool false]) = .returned (.tuple #[.int .i64 (ifV p v), .bool (tru p)]) := ret_ib (ifV_no h).symm (tru_no h).symm
theorem ret_yes {p : Prop} {v : Int} (h : p) : Ending.returned (.tuple #[.int .i64 v, .bool true]) = .returned (.tuple #[.int .i64 (ifV p v), .bool (tru p)]) := ret_ib (ifV_yes h).symm (tru_yes h).symm
theorem ret_val {p : Prop} {v w : Int} (h : p) (hv : v = w) : Ending.returned (.tuple #[.int .i64 v, .bool true]) = .returned (.tuple #[.int .i64 (ifV p w), .bool (tru p)]) := by rw [hv]; exact ret_yes h
theorem rnd_0 (a b : Int) : rnd a b 0 = a / b := by unfold rnd; simp
theorem rnd_3y {a b : Int} (h : 0 < a % b) : rnd a b 3 = a / b + 1 := by unfold rnd; simp [h]
theorem rnd_3n {a b : Int} (h : ¬ 0 < a % b) : rnd a b 3 = a / b := by unfold rnd; simp [h]
theorem rnd_1y {a b : Int} (h : b - a % b ≤ a % b) : rnd a b 1 = a / b + 1 := by unfold rnd; simp [h]
theorem rnd_1n {a b : Int} (h : ¬ b - a % b ≤ a % b) : rnd a b 1 = a / b := by unfold rnd; simp [h]
theorem rnd_2y {a b : Int} (h : b - a % b < a % b ∨ a % b = b - a % b ∧ a / b % 2 = 1) : rnd a b 2 = a / b + 1 := by unfold rnd; simp [h]
theorem rnd_2n {a b : Int} (h : ¬ (b - a % b < a % b ∨ a % b = b - a % b ∧ a / b % 2 = 1)) : rnd a b 2 = a / b := by unfold rnd; simp [h]

end Go.Proofs.Ytelcknddbikgaab
