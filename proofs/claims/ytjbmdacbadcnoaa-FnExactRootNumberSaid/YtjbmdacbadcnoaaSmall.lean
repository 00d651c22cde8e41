/- Walks: SameNumber, FromBits, IsFinite, IsSubnormal, FlushNumber, RootNumber, and their laws. -/
import Derived.Test.YtjbmdacbadcnoaaNum
import Derived.Test.YtjbmdacbadcnoaaSame
import Derived.Test.YtjbmdacbadcnoaaAbs
import Derived.Test.YtjbmdacbadcnoaaSub
namespace Go.Proofs.Ytjbmdacbadcnoaa
open Go.RowKit
attribute [local go_sem] run_f32bits run_f32from run_f64bits run_f64from

/-! ### SameNumber -/
theorem specSame_any (x y : Nat) (w : World) (hx : (Lit.float .f32 x).wf = true) (hy : (Lit.float .f32 y).wf = true) :
    Calls Try.prog 13 #[.float .f32 x, .float .f32 y] w fun e w' => e = .returned (.bool (nbits x == nbits y)) ∧ ∃ n, w' = w.drewN n := by
  go_enter Try.func13, Try.ntmps13
  go_wp2_with (first | (go_at_call 28; refine (specBits_any _ _ (by assumption)).mono ?_; rintro e w' ⟨rfl, rfl⟩) | go_in)
  go_ret
  exact ⟨rfl, 0, rfl⟩
theorem implSame_any (x y : Nat) (w : World) (hx : (Lit.float .f32 x).wf = true) (hy : (Lit.float .f32 y).wf = true) :
    Calls Try.prog 14 #[.float .f32 x, .float .f32 y] w fun e w' => e = .returned (.bool (nbits x == nbits y)) ∧ ∃ n, w' = w.drewN n := by
  go_enter Try.func14, Try.ntmps14
  go_wp2_with (first | (go_at_call 12; refine (implBitsOf_any _ _ (by assumption)).mono ?_; rintro e w' ⟨rfl, n, rfl⟩))
  go_ret
  exact ⟨rfl, _, rfl⟩
theorem lawSame_any (x y : Nat) (w : World) (hx : (Lit.float .f32 x).wf = true) (hy : (Lit.float .f32 y).wf = true) :
    Calls Try.prog 4 #[.float .f32 x, .float .f32 y] w fun e w' => e = .returned (.bool true) ∧ Below w.heap.size w w' := by
  go_enter Try.func4, Try.ntmps4
  go_wp2_with (first | (go_at_call 13; refine (specSame_any _ _ _ hx hy).mono ?_; rintro e w' ⟨rfl, n, rfl⟩) | (go_at_call 14; refine (implSame_any _ _ _ hx hy).mono ?_; rintro e w' ⟨rfl, n, rfl⟩))
  go_ret
  exact ⟨rfl, below_drewN (Below.refl _ _) _⟩

/-! ### FromBits -/
theorem specFrom_any (n : Int) (w : World) (h0 : 0 ≤ n) (h1 : n ≤ 4294967295) :
    Calls Try.prog 33 #[.int .i64 n] w fun e w' => e = .returned (.float .f32 n.toNat) ∧ w = w' := by
  go_enter Try.func33, Try.ntmps33
  go_wp2
  go_ret
  exact ⟨rfl, rfl⟩
theorem specFromBits_yes (n : Int) (w : World) (h0 : 0 ≤ n) (h1 : n ≤ 4294967295) :
    Calls Try.prog 15 #[.int .i64 n] w fun e w' => e = .returned (.tuple #[.float .f32 n.toNat, .bool true]) ∧ ∃ n, w' = w.drewN n := by
  go_enter Try.func15, Try.ntmps15
  go_wp2
  go_ret2
  exact ⟨rfl, 0, rfl⟩
theorem specFromBits_no (n : Int) (w : World) (h : n < 0 ∨ 4294967295 < n) :
    Calls Try.prog 15 #[.int .i64 n] w fun e w' => e = .returned (.tuple #[.float .f32 0, .bool false]) ∧ ∃ n, w' = w.drewN n := by
  have hd : ∀ a : Int, 4294967295 < a → decide (a ≤ 4294967295) = false := fun a h => by simp; omega
  rcases h with h | h
  · clear hd
    go_enter Try.func15, Try.ntmps15
    go_wp2
    go_ret2
    exact ⟨rfl, 0, rfl⟩
  · have hd := hd n h
    go_enter Try.func15, Try.ntmps15
    go_wp2
    go_ret2
    exact ⟨rfl, 0, rfl⟩
theorem implFromBits_yes (n : Int) (w : World) (h0 : 0 ≤ n) (h1 : n ≤ 4294967295) :
    Calls Try.prog 16 #[.int .i64 n] w fun e w' => e = .returned (.tuple #[.float .f32 n.toNat, .bool true]) ∧ ∃ n, w' = w.drewN n := by
  go_enter Try.func16, Try.ntmps16
  go_wp2
  go_ret2
  exact ⟨rfl, 0, rfl⟩
theorem implFromBits_no (n : Int) (w : World) (h : n < 0 ∨ 4294967295 < n) :
    Calls Try.prog 16 #[.int .i64 n] w fun e w' => e = .returned (.tuple #[.float .f32 0, .bool false]) ∧ ∃ n, w' = w.drewN n := by
  rcases h with h | h
  all_goals
    go_enter Try.func16, Try.ntmps16
    go_wp2
    go_ret2
    exact ⟨rfl, 0, rfl⟩
theorem lawFromBits_any (n : Int) (w : World) :
    Calls Try.prog 5 #[.int .i64 n] w fun e w' => e = .returned (.bool true) ∧ Below w.heap.size w w' := by
  by_cases h : n < 0 ∨ 4294967295 < n
  · have c1 := fun w => specFromBits_no n w h
    have c2 := fun w => implFromBits_no n w h
    have H1 := hide c1
    have H2 := hide c2
    clear c1 c2 h
    go_enter Try.func5, Try.ntmps5
    go_wp2_with (first | (refine wpList_widen _ rfl _ _ _ rfl _ rfl (by rw [Try.underlying22]; rfl) Try.underlying29 ?_; intro _ _ _) | (go_at_call 15; refine (H1.out _).mono ?_; rintro e w' ⟨rfl, n, rfl⟩) | (go_at_call 16; refine (H2.out _).mono ?_; rintro e w' ⟨rfl, n, rfl⟩) | (go_at_call 17; refine (sameFloat_any _ _ _ (FS.trans (FR.same (by assumption)) (FS.symm (FR.same (by assumption))))).mono ?_; rintro e w' ⟨rfl, n, rfl⟩))
    go_ret
    exact ⟨rfl, below_drewN (Below.refl _ _) _⟩
  · have c1 := fun w => specFromBits_yes n w (by omega) (by omega)
    have c2 := fun w => implFromBits_yes n w (by omega) (by omega)
    have H1 := hide c1
    have H2 := hide c2
    clear c1 c2 h
    go_enter Try.func5, Try.ntmps5
    go_wp2_with (first | (refine wpList_widen _ rfl _ _ _ rfl _ rfl (by rw [Try.underlying22]; rfl) Try.underlying29 ?_; intro _ _ _) | (go_at_call 15; refine (H1.out _).mono ?_; rintro e w' ⟨rfl, n, rfl⟩) | (go_at_call 16; refine (H2.out _).mono ?_; rintro e w' ⟨rfl, n, rfl⟩) | (go_at_call 17; refine (sameFloat_any _ _ _ (FS.trans (FR.same (by assumption)) (FS.symm (FR.same (by assumption))))).mono ?_; rintro e w' ⟨rfl, n, rfl⟩))
    go_ret
    exact ⟨rfl, below_drewN (Below.refl _ _) _⟩
end Go.Proofs.Ytjbmdacbadcnoaa
