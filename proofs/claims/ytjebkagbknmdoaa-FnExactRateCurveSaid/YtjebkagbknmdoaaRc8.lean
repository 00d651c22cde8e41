/- RateCurve: what is told. -/
import Derived.Test.YtjebkagbknmdoaaFa
import Derived.Test.YtjebkagbknmdoaaWs
namespace Go.Proofs.Ytjebkagbknmdoaa
open Go.RowKit Go.Dues
def hasP8 (x : Nat → Int) (n : Nat) (v : Int) : Prop := ∃ j, j < n ∧ x j = v
theorem retBr8 {b b' : Bool} (h : b = b') : Ending.returned (.bool b) = .returned (.bool b') := by rw [h]
theorem beqY8 {a b : Int} (h : a = b) : (a == b) = true := by simp [h]
theorem beqN8 {a b : Int} (h : ¬ a = b) : (a == b) = false := by simp [h]
set_option maxHeartbeats 2000000 in
theorem implIdx8_any (A : Option Addr) (n c : Nat) (x : Nat → Int) (v : Int) (w : World) (hn : n ≤ maxLen) (hs : SL w A n (fun j => .int .i64 (x j))) :
    Calls Try.prog 151 #[.slice A n c, .int .i64 v] w fun e w' => ∃ r : Int, e = .returned (.int .i64 r) ∧ ((0 ≤ r ∧ hasP8 x n v) ∨ (r = -1 ∧ ¬ hasP8 x n v)) ∧ w = w' := by
  unfold maxLen at hn
  have HC := cells_a hs
  clear hs
  go_enter Try.func151, Try.ntmps151
  go_wp2
  go_loop [5, 8] (fun _ i => ∃ k : Nat, k ≤ n ∧ i = .int .i64 k ∧ Hid (∀ j, j < k → x j ≠ v)) (fun _ i => n - (intOf i).toNat)
  case atStart => exact ⟨0, Nat.zero_le _, rfl, fun j hj => absurd hj (by omega)⟩
  case round =>
    obtain ⟨k, hk, rfl, hgood⟩ := hrel
    by_cases hlt : k < n
    · have hki : (k : Int) < (n : Int) := by omega
      obtain ⟨b, off, rfl, hb, d0⟩ := HC.out k hlt
      by_cases he : x k = v
      · have hd := beqY8 he
        have hd2 := beqY8 he.symm
        have HT := hide (show hasP8 x n v from ⟨k, hlt, he⟩)
        clear he
        go_wp2
        go_ret
        exact ⟨_, rfl, .inl ⟨by omega, HT.out⟩, rfl⟩
      · have hd := beqN8 he
        have hd2 := beqN8 (fun h => he h.symm)
        have HE := hide he
        clear he
        go_wp2
        clear d0 hd hd2
        go_round
        case rel => exact ⟨k + 1, by omega, by go_num, fun j hj => by
          by_cases hjk : j = k
          · subst hjk; exact HE.out
          · exact hgood.out j (by omega)⟩
        case measure => simp [intOf]; omega
    · obtain rfl : k = n := by omega
      have hki : ¬ (k : Int) < (k : Int) := by omega
      have HT := hide (show ¬ hasP8 x k v from fun ⟨j, hj, e⟩ => hgood.out j hj e)
      go_wp2
      go_ret
      exact ⟨_, rfl, .inr ⟨rfl, HT.out⟩, rfl⟩
theorem implHas8_any (A : Option Addr) (n c : Nat) (x : Nat → Int) (v : Int) (w : World) (hn : n ≤ maxLen) (hs : SL w A n (fun j => .int .i64 (x j))) :
    Calls Try.prog 125 #[.slice A n c, .int .i64 v] w fun e w' => e = .returned (.bool (tru (hasP8 x n v))) ∧ w = w' := by
  have HI := hide (implIdx8_any A n c x v w hn hs)
  clear hs
  go_enter Try.func125, Try.ntmps125
  go_wp2_with fail
  refine HI.out.mono ?_
  rintro e w1 ⟨r, rfl, hr, rfl⟩
  rcases hr with ⟨h0, h⟩ | ⟨rfl, h⟩
  · have HT := hide (tru_yes h)
    have hd : decide (0 ≤ r) = true := decide_eq_true h0
    clear h
    go_wp2
    go_ret
    exact ⟨retBr8 HT.out.symm, rfl⟩
  · have HT := hide (tru_no h)
    clear h
    go_wp2
    go_ret
    exact ⟨retBr8 HT.out.symm, rfl⟩
/-- the closure: is the opposite of a word among the Ifs of the other rule -/
def rcV (x y : Nat → Int) (n : Nat) (px : Nat → Int) (j : Nat) : Nat := fop .quo .f32 (floatOfInt .f32 (dueV x y n (px j) 0)) (floatOfInt .f32 (px j))
def rcP (x y : Nat → Int) (n m : Nat) (px : Nat → Int) (pn : Nat) : Prop := Val x y n m ∧ (1 ≤ pn ∧ pn ≤ 60) ∧ ∀ j, j < pn → 1 ≤ px j ∧ px j ≤ 1000000000000
end Go.Proofs.Ytjebkagbknmdoaa
