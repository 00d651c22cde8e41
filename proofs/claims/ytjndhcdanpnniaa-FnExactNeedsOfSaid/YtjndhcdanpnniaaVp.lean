/- What is an amount, a rate, a way of rounding: the small functions of both. -/
import Derived.Test.YtjndhcdanpnniaaChecked
import Derived.Test.YtjndhcdanpnniaaSlb
import Derived.Test.YtjndhcdanpnniaaScp
import Derived.Deep.QuietTactic
import Derived.BigQuiet
namespace Go.Proofs.Ytjndhcdanpnniaa
open Go.RowKit Go.Dues
/-- a call that leaves the world alone, in a region that has drawn -/
theorem quiet_left {P : Program} {f : FuncId} {args : Array Value} {w : World} {n : Nat} {v : Value}
    (h : Calls P f args (w.drewN n) fun e w' => e = .returned v ∧ w.drewN n = w') : Calls P f args (w.drewN n) fun e w'' => e = .returned v ∧ ∃ m, w'' = w.drewN m :=
  h.mono fun _ _ ⟨he, hm⟩ => ⟨he, n, hm.symm⟩
theorem quiet_add_left {P : Program} {f : FuncId} {args : Array Value} {w : World} {a n : Nat} {v : Value}
    (h : Calls P f args (w.drewN (a + n)) fun e w' => e = .returned v ∧ w.drewN (a + n) = w') :
    Calls P f args (w.drewN (a + n)) fun e w'' => e = .returned v ∧ ∃ m, w'' = w.drewN (a + m) :=
  h.mono fun _ _ ⟨he, hm⟩ => ⟨he, n, hm.symm⟩
theorem quiet_draws {P : Program} {f : FuncId} {args : Array Value} {w : World} {n : Nat} {v : Value}
    (h : Calls P f args (w.drewN n) fun e w' => e = .returned v ∧ ∃ q, w' = (w.drewN n).drewN q) : Calls P f args (w.drewN n) fun e w'' => e = .returned v ∧ ∃ m, w'' = w.drewN m :=
  h.mono fun _ _ ⟨he, q, hm⟩ => ⟨he, n + q, by rw [hm, World.drewN_drewN]⟩
theorem quiet_add_draws {P : Program} {f : FuncId} {args : Array Value} {w : World} {a n : Nat} {v : Value}
    (h : Calls P f args (w.drewN (a + n)) fun e w' => e = .returned v ∧ ∃ q, w' = (w.drewN (a + n)).drewN q) :
    Calls P f args (w.drewN (a + n)) fun e w'' => e = .returned v ∧ ∃ m, w'' = w.drewN (a + m) :=
  h.mono fun _ _ ⟨he, q, hm⟩ => ⟨he, n + q, by rw [hm, World.drewN_drewN, Nat.add_assoc]⟩
theorem retb {a b : Bool} (h : a = b) : Ending.returned (.bool a) = .returned (.bool b) := by rw [h]
theorem reti {a b : Int} (h : a = b) : Ending.returned (.int .i64 a) = .returned (.int .i64 b) := by rw [h]
theorem implAmount_any (n : Int) (w : World) : Calls Try.prog 133 #[.int .i64 n] w fun e w' => e = .returned (.bool (amtB n)) ∧ w = w' := by
  by_cases h0 : 0 ≤ n
  · by_cases h1 : n ≤ 1000000000000
    · have HB := hide (amtB_yes ⟨h0, h1⟩)
      go_enter Try.func133, Try.ntmps133
      go_wp2
      go_ret
      exact ⟨retb HB.out.symm, rfl⟩
    · have HB := hide (amtB_no (c := n) (by omega))
      go_enter Try.func133, Try.ntmps133
      go_wp2
      go_ret
      exact ⟨retb HB.out.symm, rfl⟩
  · have HB := hide (amtB_no (c := n) (by omega))
    go_enter Try.func133, Try.ntmps133
    go_wp2
    go_ret
    exact ⟨retb HB.out.symm, rfl⟩
theorem implRate_any (n : Int) (w : World) : Calls Try.prog 139 #[.int .i64 n] w fun e w' => e = .returned (.bool (ratB n)) ∧ w = w' := by
  by_cases h0 : 0 ≤ n
  · by_cases h1 : n ≤ 10000
    · have HB := hide (ratB_yes ⟨h0, h1⟩)
      go_enter Try.func139, Try.ntmps139
      go_wp2
      go_ret
      exact ⟨retb HB.out.symm, rfl⟩
    · have HB := hide (ratB_no (c := n) (by omega))
      go_enter Try.func139, Try.ntmps139
      go_wp2
      go_ret
      exact ⟨retb HB.out.symm, rfl⟩
  · have HB := hide (ratB_no (c := n) (by omega))
    go_enter Try.func139, Try.ntmps139
    go_wp2
    go_ret
    exact ⟨retb HB.out.symm, rfl⟩
theorem implRound_any (n : Int) (w : World) : Calls Try.prog 192 #[.int .i64 n] w fun e w' => e = .returned (.bool (wayB n)) ∧ w = w' := by
  by_cases h0 : 0 ≤ n
  · by_cases h1 : n ≤ 3
    · have HB := hide (wayB_yes ⟨h0, h1⟩)
      go_enter Try.func192, Try.ntmps192
      go_wp2
      go_ret
      exact ⟨retb HB.out.symm, rfl⟩
    · have HB := hide (wayB_no (c := n) (by omega))
      go_enter Try.func192, Try.ntmps192
      go_wp2
      go_ret
      exact ⟨retb HB.out.symm, rfl⟩
  · have HB := hide (wayB_no (c := n) (by omega))
    go_enter Try.func192, Try.ntmps192
    go_wp2
    go_ret
    exact ⟨retb HB.out.symm, rfl⟩

end Go.Proofs.Ytjndhcdanpnniaa
