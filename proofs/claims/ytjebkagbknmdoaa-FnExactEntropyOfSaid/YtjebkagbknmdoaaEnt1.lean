/- Vp, Rd, C3, B3, Ow, Al, Sl, Fls, Two, G1, Fb, Sums, R7: merged. -/
import Derived.Test.YtjebkagbknmdoaaEnt0
import Derived.Test.YtjebkagbknmdoaaChecked
import Derived.Deep.QuietTactic
import Derived.BigQuiet
import Derived.RegionTactic
import Derived.Laws.EntriesVeiled
import Derived.Below
import Derived.ChangeSlices
import Derived.Deep.RegionWith
import Derived.Maps.AppendAt
/- What is an amount, a rate, a way of rounding: the small functions of both. -/
namespace Go.Proofs.Ytjebkagbknmdoaa
open Go.RowKit Go.Dues
/-- a call that leaves the world alone, in a region that has drawn -/
theorem quiet_left {P : Program} {f : FuncId} {args : Array Value} {w : World} {n : Nat} {v : Value}
    (h : Calls P f args (w.drewN n) fun e w' => e = .returned v ∧ w.drewN n = w') : Calls P f args (w.drewN n) fun e w'' => e = .returned v ∧ ∃ m, w'' = w.drewN m :=
  h.mono fun _ _ ⟨he, hm⟩ => ⟨he, n, hm.symm⟩
theorem quiet_add_left {P : Program} {f : FuncId} {args : Array Value} {w : World} {a n : Nat} {v : Value}
    (h : Calls P f args (w.drewN (a + n)) fun e w' => e = .returned v ∧ w.drewN (a + n) = w') :
    Calls P f args (w.drewN (a + n)) fun e w'' => e = .returned v ∧ ∃ m, w'' = w.drewN (a + m) :=
  h.mono fun _ _ ⟨he, hm⟩ => ⟨he, n, hm.symm⟩
theorem quiet_draws {P : Program} {f : FuncId} {args : Array Value} {w : World} {n : Nat} {v : Value}
    (h : Calls P f args (w.drewN n) fun e w' => e = .returned v ∧ ∃ q, w' = (w.drewN n).drewN q) : Calls P f args (w.drewN n) fun e w'' => e = .returned v ∧ ∃ m, w'' = w.drewN m :=
  h.mono fun _ _ ⟨he, q, hm⟩ => ⟨he, n + q, by rw [hm, World.drewN_drewN]⟩
theorem quiet_add_draws {P : Program} {f : FuncId} {args : Array Value} {w : World} {a n : Nat} {v : Value}
    (h : Calls P f args (w.drewN (a + n)) fun e w' => e = .returned v ∧ ∃ q, w' = (w.drewN (a + n)).drewN q) :
    Calls P f args (w.drewN (a + n)) fun e w'' => e = .returned v ∧ ∃ m, w'' = w.drewN (a + m) :=
  h.mono fun _ _ ⟨he, q, hm⟩ => ⟨he, n + q, by rw [hm, World.drewN_drewN, Nat.add_assoc]⟩
theorem retb {a b : Bool} (h : a = b) : Ending.returned (.bool a) = .returned (.bool b) := by rw [h]
theorem reti {a b : Int} (h : a = b) : Ending.returned (.int .i64 a) = .returned (.int .i64 b) := by rw [h]
theorem specCents_any (n : Int) (w : World) : Calls Try.prog 122 #[.int .i64 n] w fun e w' => e = .returned (.bool (amtB n)) ∧ w = w' := by
  by_cases h0 : 0 ≤ n
  · by_cases h1 : n ≤ 1000000000000
    · have HB := hide (amtB_yes ⟨h0, h1⟩)
      go_enter Try.func122, Try.ntmps122
      go_wp2
      go_ret
      exact ⟨retb HB.out.symm, rfl⟩
    · have HB := hide (amtB_no (c := n) (by omega))
      go_enter Try.func122, Try.ntmps122
      go_wp2
      go_ret
      exact ⟨retb HB.out.symm, rfl⟩
  · have HB := hide (amtB_no (c := n) (by omega))
    go_enter Try.func122, Try.ntmps122
    go_wp2
    go_ret
    exact ⟨retb HB.out.symm, rfl⟩
theorem specRate_any (n : Int) (w : World) : Calls Try.prog 166 #[.int .i64 n] w fun e w' => e = .returned (.bool (ratB n)) ∧ w = w' := by
  by_cases h0 : 0 ≤ n
  · by_cases h1 : n ≤ 10000
    · have HB := hide (ratB_yes ⟨h0, h1⟩)
      go_enter Try.func166, Try.ntmps166
      go_wp2
      go_ret
      exact ⟨retb HB.out.symm, rfl⟩
    · have HB := hide (ratB_no (c := n) (by omega))
      go_enter Try.func166, Try.ntmps166
      go_wp2
      go_ret
      exact ⟨retb HB.out.symm, rfl⟩
  · have HB := hide (ratB_no (c := n) (by omega))
    go_enter Try.func166, Try.ntmps166
    go_wp2
    go_ret
    exact ⟨retb HB.out.symm, rfl⟩
theorem implAmount_any (n : Int) (w : World) : Calls Try.prog 70 #[.int .i64 n] w fun e w' => e = .returned (.bool (amtB n)) ∧ w = w' := by
  by_cases h0 : 0 ≤ n
  · by_cases h1 : n ≤ 1000000000000
    · have HB := hide (amtB_yes ⟨h0, h1⟩)
      go_enter Try.func70, Try.ntmps70
      go_wp2
      go_ret
      exact ⟨retb HB.out.symm, rfl⟩
    · have HB := hide (amtB_no (c := n) (by omega))
      go_enter Try.func70, Try.ntmps70
      go_wp2
      go_ret
      exact ⟨retb HB.out.symm, rfl⟩
  · have HB := hide (amtB_no (c := n) (by omega))
    go_enter Try.func70, Try.ntmps70
    go_wp2
    go_ret
    exact ⟨retb HB.out.symm, rfl⟩
theorem implRate_any (n : Int) (w : World) : Calls Try.prog 75 #[.int .i64 n] w fun e w' => e = .returned (.bool (ratB n)) ∧ w = w' := by
  by_cases h0 : 0 ≤ n
  · by_cases h1 : n ≤ 10000
    · have HB := hide (ratB_yes ⟨h0, h1⟩)
      go_enter Try.func75, Try.ntmps75
      go_wp2
      go_ret
      exact ⟨retb HB.out.symm, rfl⟩
    · have HB := hide (ratB_no (c := n) (by omega))
      go_enter Try.func75, Try.ntmps75
      go_wp2
      go_ret
      exact ⟨retb HB.out.symm, rfl⟩
  · have HB := hide (ratB_no (c := n) (by omega))
    go_enter Try.func75, Try.ntmps75
    go_wp2
    go_ret
    exact ⟨retb HB.out.symm, rfl⟩
theorem implRound_any (n : Int) (w : World) : Calls Try.prog 72 #[.int .i64 n] w fun e w' => e = .returned (.bool (wayB n)) ∧ w = w' := by
  by_cases h0 : 0 ≤ n
  · by_cases h1 : n ≤ 3
    · have HB := hide (wayB_yes ⟨h0, h1⟩)
      go_enter Try.func72, Try.ntmps72
      go_wp2
      go_ret
      exact ⟨retb HB.out.symm, rfl⟩
    · have HB := hide (wayB_no (c := n) (by omega))
      go_enter Try.func72, Try.ntmps72
      go_wp2
      go_ret
      exact ⟨retb HB.out.symm, rfl⟩
  · have HB := hide (wayB_no (c := n) (by omega))
    go_enter Try.func72, Try.ntmps72
    go_wp2
    go_ret
    exact ⟨retb HB.out.symm, rfl⟩

end Go.Proofs.Ytjebkagbknmdoaa

/- Rounded quotients, by both. -/
namespace Go.Proofs.Ytjebkagbknmdoaa
open Go.RowKit Go.Dues
theorem ret_ib {p : Prop} {v w : Int} {b : Bool} (h : v = w) (h2 : b = tru p) : Ending.returned (.tuple #[.int .i64 v, .bool b]) = .returned (.tuple #[.int .i64 w, .bool (tru p)]) := by rw [h, h2]
theorem ret_no {p : Prop} {v : Int} (h : ¬ p) : Ending.returned (.tuple #[.int .i64 0, .bool false]) = .returned (.tuple #[.int .i64 (ifV p v), .bool (tru p)]) := ret_ib (ifV_no h).symm (tru_no h).symm
theorem ret_yes {p : Prop} {v : Int} (h : p) : Ending.returned (.tuple #[.int .i64 v, .bool true]) = .returned (.tuple #[.int .i64 (ifV p v), .bool (tru p)]) := ret_ib (ifV_yes h).symm (tru_yes h).symm
theorem ret_val {p : Prop} {v w : Int} (h : p) (hv : v = w) : Ending.returned (.tuple #[.int .i64 v, .bool true]) = .returned (.tuple #[.int .i64 (ifV p w), .bool (tru p)]) := by rw [hv]; exact ret_yes h
theorem rnd_0 (a b : Int) : rnd a b 0 = a / b := by unfold rnd; simp
theorem rnd_3y {a b : Int} (h : 0 < a % b) : rnd a b 3 = a / b + 1 := by unfold rnd; simp [h]
theorem rnd_3n {a b : Int} (h : ¬ 0 < a % b) : rnd a b 3 = a / b := by unfold rnd; simp [h]
theorem rnd_1y {a b : Int} (h : b - a % b ≤ a % b) : rnd a b 1 = a / b + 1 := by unfold rnd; simp [h]
theorem rnd_1n {a b : Int} (h : ¬ b - a % b ≤ a % b) : rnd a b 1 = a / b := by unfold rnd; simp [h]
theorem rnd_2y {a b : Int} (h : b - a % b < a % b ∨ a % b = b - a % b ∧ a / b % 2 = 1) : rnd a b 2 = a / b + 1 := by unfold rnd; simp [h]
theorem rnd_2n {a b : Int} (h : ¬ (b - a % b < a % b ∨ a % b = b - a % b ∧ a / b % 2 = 1)) : rnd a b 2 = a / b := by unfold rnd; simp [h]

set_option maxHeartbeats 2000000 in
theorem specRound_any (a b r : Int) (w : World) (ha : 0 ≤ a) (ha1 : a ≤ 9000000000000000000) (hb : 1 ≤ b) (hb1 : b ≤ 1000000000000000) (hr : 0 ≤ r ∧ r ≤ 3) :
    Calls Try.prog 170 #[.int .i64 a, .int .i64 b, .int .i64 r] w fun e w' => e = .returned (.int .i64 (rnd a b r)) ∧ w = w' := by
  have hm0 : 0 ≤ a % b := Int.emod_nonneg _ (by omega)
  have hm1 : a % b < b := Int.emod_lt_of_pos _ (by omega)
  have hq0 : 0 ≤ a / b := Int.ediv_nonneg ha (by omega)
  have hq1 : a / b ≤ a := Int.ediv_le_self _ ha
  have hne : ¬ b = 0 := by omega
  have hr4 : r = 0 ∨ r = 1 ∨ r = 2 ∨ r = 3 := by omega
  clear hr
  rcases hr4 with rfl | rfl | rfl | rfl
  · have HF := hide (rnd_0 a b)
    go_enter Try.func170, Try.ntmps170
    go_wp2
    go_ret
    exact ⟨reti HF.out.symm, rfl⟩
  · by_cases h : b - a % b ≤ a % b
    · have HF := hide (rnd_1y h)
      go_enter Try.func170, Try.ntmps170
      go_wp2
      go_ret
      exact ⟨reti HF.out.symm, rfl⟩
    · have HF := hide (rnd_1n h)
      go_enter Try.func170, Try.ntmps170
      go_wp2
      go_ret
      exact ⟨reti HF.out.symm, rfl⟩
  · by_cases h : b - a % b < a % b
    · have HF := hide (rnd_2y (a := a) (b := b) (.inl h))
      go_enter Try.func170, Try.ntmps170
      go_wp2
      go_ret
      exact ⟨reti HF.out.symm, rfl⟩
    · by_cases h2 : a % b = b - a % b
      · have g2 : (a % b == b - a % b) = true := by simpa using h2
        by_cases h3 : a / b % 2 = 1
        · have g3 : (a / b % 2 == 1) = true := by simpa using h3
          have HF := hide (rnd_2y (a := a) (b := b) (.inr ⟨h2, h3⟩))
          clear h2 h3
          go_enter Try.func170, Try.ntmps170
          go_wp2
          go_ret
          exact ⟨reti HF.out.symm, rfl⟩
        · have g3 : (a / b % 2 == 1) = false := by simpa using h3
          have HF := hide (rnd_2n (a := a) (b := b) (by omega))
          clear h2 h3
          go_enter Try.func170, Try.ntmps170
          go_wp2
          go_ret
          exact ⟨reti HF.out.symm, rfl⟩
      · have g2 : (a % b == b - a % b) = false := by simpa using h2
        have HF := hide (rnd_2n (a := a) (b := b) (by omega))
        clear h2
        go_enter Try.func170, Try.ntmps170
        go_wp2
        go_ret
        exact ⟨reti HF.out.symm, rfl⟩
  · by_cases h : 0 < a % b
    · have HF := hide (rnd_3y h)
      go_enter Try.func170, Try.ntmps170
      go_wp2
      go_ret
      exact ⟨reti HF.out.symm, rfl⟩
    · have HF := hide (rnd_3n h)
      go_enter Try.func170, Try.ntmps170
      go_wp2
      go_ret
      exact ⟨reti HF.out.symm, rfl⟩
set_option maxHeartbeats 2000000 in
theorem implRounded_any (a b r : Int) (w : World) (ha : 0 ≤ a) (ha1 : a ≤ 9000000000000000000) (hb : 1 ≤ b) (hb1 : b ≤ 1000000000000000) (hr : 0 ≤ r ∧ r ≤ 3) :
    Calls Try.prog 74 #[.int .i64 a, .int .i64 b, .int .i64 r] w fun e w' => e = .returned (.int .i64 (rnd a b r)) ∧ ∃ q, w' = w.drewN q := by
  have hm0 : 0 ≤ a % b := Int.emod_nonneg _ (by omega)
  have hm1 : a % b < b := Int.emod_lt_of_pos _ (by omega)
  have hq0 : 0 ≤ a / b := Int.ediv_nonneg ha (by omega)
  have hq1 : a / b ≤ a := Int.ediv_le_self _ ha
  have hne : ¬ b = 0 := by omega
  have hr4 : r = 0 ∨ r = 1 ∨ r = 2 ∨ r = 3 := by omega
  clear hr
  rcases hr4 with rfl | rfl | rfl | rfl
  · have HF := hide (rnd_0 a b)
    go_enter Try.func74, Try.ntmps74
    go_wp2
    go_quiet (fail)
    go_wp2
    go_ret
    exact ⟨reti HF.out.symm, _, rfl⟩
  · by_cases h : b - a % b ≤ a % b
    · have HF := hide (rnd_1y h)
      go_enter Try.func74, Try.ntmps74
      go_wp2
      go_quiet (fail)
      go_wp2
      go_ret
      exact ⟨reti HF.out.symm, _, rfl⟩
    · have HF := hide (rnd_1n h)
      go_enter Try.func74, Try.ntmps74
      go_wp2
      go_quiet (fail)
      go_wp2
      go_ret
      exact ⟨reti HF.out.symm, _, rfl⟩
  · by_cases h : b - a % b < a % b
    · have HF := hide (rnd_2y (a := a) (b := b) (.inl h))
      go_enter Try.func74, Try.ntmps74
      go_wp2
      go_quiet (fail)
      go_wp2
      go_ret
      exact ⟨reti HF.out.symm, _, rfl⟩
    · by_cases h2 : a % b = b - a % b
      · have g2 : (a % b == b - a % b) = true := by simpa using h2
        by_cases h3 : a / b % 2 = 1
        · have g3 : (a / b % 2 == 1) = true := by simpa using h3
          have HF := hide (rnd_2y (a := a) (b := b) (.inr ⟨h2, h3⟩))
          clear h2 h3
          go_enter Try.func74, Try.ntmps74
          go_wp2
          go_quiet (fail)
          go_wp2
          go_ret
          exact ⟨reti HF.out.symm, _, rfl⟩
        · have g3 : (a / b % 2 == 1) = false := by simpa using h3
          have HF := hide (rnd_2n (a := a) (b := b) (by omega))
          clear h2 h3
          go_enter Try.func74, Try.ntmps74
          go_wp2
          go_quiet (fail)
          go_wp2
          go_ret
          exact ⟨reti HF.out.symm, _, rfl⟩
      · have g2 : (a % b == b - a % b) = false := by simpa using h2
        have HF := hide (rnd_2n (a := a) (b := b) (by omega))
        clear h2
        go_enter Try.func74, Try.ntmps74
        go_wp2
        go_quiet (fail)
        go_wp2
        go_ret
        exact ⟨reti HF.out.symm, _, rfl⟩
  · by_cases h : 0 < a % b
    · have HF := hide (rnd_3y h)
      go_enter Try.func74, Try.ntmps74
      go_wp2
      go_quiet (fail)
      go_wp2
      go_ret
      exact ⟨reti HF.out.symm, _, rfl⟩
    · have HF := hide (rnd_3n h)
      go_enter Try.func74, Try.ntmps74
      go_wp2
      go_quiet (fail)
      go_wp2
      go_ret
      exact ⟨reti HF.out.symm, _, rfl⟩
end Go.Proofs.Ytjebkagbknmdoaa

/- Accounts: the plain arithmetic of days, of rounded parts and of loans; no program is read here. -/
namespace Go.Dues
open Go.RowKit

/-! ### days and dates -/
def yLen (y : Int) : Int := if y % 4 = 0 then 366 else 365
def mLen (y m : Int) : Int := if m = 2 then (if y % 4 = 0 then 29 else 28) else if m = 4 ∨ m = 6 ∨ m = 9 ∨ m = 11 then 30 else 31
def yDays : Nat → Int
  | 0 => 0
  | k + 1 => yDays k + yLen (2000 + k)
def mDays (y : Int) : Nat → Int
  | 0 => 0
  | k + 1 => mDays y k + mLen y (1 + k)
theorem yDays_succ (k : Nat) : yDays (k + 1) = yDays k + yLen (2000 + k) := rfl
theorem mDays_succ (y : Int) (k : Nat) : mDays y (k + 1) = mDays y k + mLen y (1 + k) := rfl
theorem yLen_bd (y : Int) : 365 ≤ yLen y ∧ yLen y ≤ 366 := by unfold yLen; split <;> omega
theorem mLen_bd (y m : Int) : 28 ≤ mLen y m ∧ mLen y m ≤ 31 := by unfold mLen; split <;> split <;> omega
theorem yDays_100 : yDays 100 = 36525 := by decide +kernel
theorem mDays_12 (y : Int) : mDays y 12 = yLen y := by
  by_cases h : y % 4 = 0 <;> simp [mDays, mLen, yLen, h]
theorem yDays_add (i d : Nat) : yDays i ≤ yDays (i + d) := by
  induction d with
  | zero => exact Int.le_refl _
  | succ d ih => have := yLen_bd (2000 + (i + d : Nat)); rw [show i + (d + 1) = i + d + 1 from rfl, yDays_succ]; omega
theorem yDays_mono {i k : Nat} (h : i ≤ k) : yDays i ≤ yDays k := by
  have := yDays_add i (k - i); rwa [show i + (k - i) = k by omega] at this
theorem mDays_add (y : Int) (i d : Nat) : mDays y i ≤ mDays y (i + d) := by
  induction d with
  | zero => exact Int.le_refl _
  | succ d ih => have := mLen_bd y (1 + (i + d : Nat)); rw [show i + (d + 1) = i + d + 1 from rfl, mDays_succ]; omega
theorem mDays_mono {y : Int} {i k : Nat} (h : i ≤ k) : mDays y i ≤ mDays y k := by
  have := mDays_add y i (k - i); rwa [show i + (k - i) = k by omega] at this
theorem yDays_le (k : Nat) : 0 ≤ yDays k ∧ yDays k ≤ 366 * k := by
  induction k with
  | zero => exact ⟨Int.le_refl _, Int.le_refl _⟩
  | succ k ih => have := yLen_bd (2000 + k); rw [yDays_succ]; push_cast; omega
theorem mDays_le (y : Int) (k : Nat) : 0 ≤ mDays y k ∧ mDays y k ≤ 31 * k := by
  induction k with
  | zero => exact ⟨Int.le_refl _, Int.le_refl _⟩
  | succ k ih => have := mLen_bd y (1 + k); rw [mDays_succ]; push_cast; omega
def yIdx (day : Int) : Nat → Nat
  | 0 => 0
  | n + 1 => if yDays (n + 1) ≤ day then n + 1 else yIdx day n
def mIdx (y r : Int) : Nat → Nat
  | 0 => 0
  | n + 1 => if mDays y (n + 1) ≤ r then n + 1 else mIdx y r n
theorem yIdx_eq {day : Int} {k n : Nat} (hk : k ≤ n) (h0 : yDays k ≤ day) (h1 : day < yDays (k + 1)) : yIdx day n = k := by
  induction n with
  | zero => obtain rfl : k = 0 := by omega
            rfl
  | succ n ih =>
    show (if _ then _ else _) = _
    by_cases hkn : k = n + 1
    · subst hkn; rw [if_pos h0]
    · have := yDays_mono (show k + 1 ≤ n + 1 by omega)
      rw [if_neg (by omega), ih (by omega)]
theorem mIdx_eq {y r : Int} {k n : Nat} (hk : k ≤ n) (h0 : mDays y k ≤ r) (h1 : r < mDays y (k + 1)) : mIdx y r n = k := by
  induction n with
  | zero => obtain rfl : k = 0 := by omega
            rfl
  | succ n ih =>
    show (if _ then _ else _) = _
    by_cases hkn : k = n + 1
    · subst hkn; rw [if_pos h0]
    · have := mDays_mono (y := y) (show k + 1 ≤ n + 1 by omega)
      rw [if_neg (by omega), ih (by omega)]
theorem yIdx_spec {day : Int} (n : Nat) (h0 : 0 ≤ day) (h1 : day < yDays (n + 1)) : yIdx day n ≤ n ∧ yDays (yIdx day n) ≤ day ∧ day < yDays (yIdx day n + 1) := by
  induction n with
  | zero => exact ⟨Nat.le_refl _, h0, h1⟩
  | succ n ih =>
    have he : yIdx day (n + 1) = if yDays (n + 1) ≤ day then n + 1 else yIdx day n := rfl
    by_cases h : yDays (n + 1) ≤ day
    · rw [he, if_pos h]; exact ⟨Nat.le_refl _, h, h1⟩
    · rw [he, if_neg h]
      obtain ⟨a, b, c⟩ := ih (by omega)
      exact ⟨by omega, b, c⟩
theorem mIdx_spec {y r : Int} (n : Nat) (h0 : 0 ≤ r) (h1 : r < mDays y (n + 1)) : mIdx y r n ≤ n ∧ mDays y (mIdx y r n) ≤ r ∧ r < mDays y (mIdx y r n + 1) := by
  induction n with
  | zero => exact ⟨Nat.le_refl _, h0, h1⟩
  | succ n ih =>
    have he : mIdx y r (n + 1) = if mDays y (n + 1) ≤ r then n + 1 else mIdx y r n := rfl
    by_cases h : mDays y (n + 1) ≤ r
    · rw [he, if_pos h]; exact ⟨Nat.le_refl _, h, h1⟩
    · rw [he, if_neg h]
      obtain ⟨a, b, c⟩ := ih (by omega)
      exact ⟨by omega, b, c⟩
def dayP (day : Int) : Prop := 0 ≤ day ∧ day ≤ 36524
def dY (day : Int) : Int := 2000 + yIdx day 99
def dR (day : Int) : Int := day - yDays (yIdx day 99)
def dM (day : Int) : Int := 1 + mIdx (dY day) (dR day) 11
def dD (day : Int) : Int := dR day - mDays (dY day) (mIdx (dY day) (dR day) 11) + 1
theorem dY_bd {day : Int} (h : dayP day) : 2000 ≤ dY day ∧ dY day ≤ 2099 := by
  have := yIdx_spec 99 h.1 (by rw [show 99 + 1 = 100 from rfl, yDays_100]; have := h.2; omega)
  unfold dY; omega
theorem dR_bd {day : Int} (h : dayP day) : 0 ≤ dR day ∧ dR day < yLen (dY day) := by
  have h1 := yIdx_spec 99 h.1 (by rw [show 99 + 1 = 100 from rfl, yDays_100]; have := h.2; omega)
  have h2 := yDays_succ (yIdx day 99)
  unfold dR dY; omega
theorem dM_spec {day : Int} (h : dayP day) : mIdx (dY day) (dR day) 11 ≤ 11 ∧ mDays (dY day) (mIdx (dY day) (dR day) 11) ≤ dR day ∧ dR day < mDays (dY day) (mIdx (dY day) (dR day) 11 + 1) := by
  have h1 := dR_bd h
  exact mIdx_spec 11 h1.1 (by rw [show 11 + 1 = 12 from rfl, mDays_12]; exact h1.2)
theorem dM_bd {day : Int} (h : dayP day) : 1 ≤ dM day ∧ dM day ≤ 12 := by
  have := dM_spec h
  unfold dM; omega
theorem dD_bd {day : Int} (h : dayP day) : 1 ≤ dD day ∧ dD day ≤ mLen (dY day) (dM day) := by
  have h1 := dM_spec h
  have h2 := mDays_succ (dY day) (mIdx (dY day) (dR day) 11)
  unfold dD dM; omega
theorem dD_31 {day : Int} (h : dayP day) : 1 ≤ dD day ∧ dD day ≤ 31 := by
  have h1 := dD_bd h
  have h2 := mLen_bd (dY day) (dM day)
  omega
/-- dates stand in the order of their days -/
theorem date_lex {a b : Int} (ha : dayP a) (hb : dayP b) (h : a ≤ b) : dY a < dY b ∨ dY a = dY b ∧ (dM a < dM b ∨ dM a = dM b ∧ dD b - dD a = b - a) := by
  have a1 := yIdx_spec 99 ha.1 (by rw [show 99 + 1 = 100 from rfl, yDays_100]; have := ha.2; omega)
  have b1 := yIdx_spec 99 hb.1 (by rw [show 99 + 1 = 100 from rfl, yDays_100]; have := hb.2; omega)
  have a2 := dM_spec ha
  have b2 := dM_spec hb
  rcases Nat.lt_trichotomy (yIdx a 99) (yIdx b 99) with hy | hy | hy
  · left; unfold dY; omega
  · right
    have e1 : dY a = dY b := by unfold dY; rw [hy]
    have e2 : dR b - dR a = b - a := by unfold dR; rw [hy]; omega
    refine ⟨e1, ?_⟩
    rw [e1] at a2
    have em : dM a = 1 + (mIdx (dY b) (dR a) 11 : Nat) := by unfold dM; rw [e1]
    have ed : dD a = dR a - mDays (dY b) (mIdx (dY b) (dR a) 11) + 1 := by unfold dD; rw [e1]
    rcases Nat.lt_trichotomy (mIdx (dY b) (dR a) 11) (mIdx (dY b) (dR b) 11) with hm | hm | hm
    · left; rw [em]; unfold dM; omega
    · right
      refine ⟨by rw [em, hm]; rfl, ?_⟩
      rw [ed, hm]; unfold dD; omega
    · have := mDays_mono (y := dY b) (show mIdx (dY b) (dR b) 11 + 1 ≤ mIdx (dY b) (dR a) 11 by omega)
      omega
  · have := yDays_mono (show yIdx b 99 + 1 ≤ yIdx a 99 by omega)
    omega
/-- how many months lie between the months of two days -/
def monB (a b : Int) : Int := 12 * (dY b - dY a) + dM b - dM a
def d360 (a b : Int) : Int := 30 * monB a b + min 30 (dD b) - min 30 (dD a)
theorem monB_bd {a b : Int} (ha : dayP a) (hb : dayP b) (h : a ≤ b) : 0 ≤ monB a b ∧ monB a b ≤ 1199 := by
  have := dY_bd ha; have := dY_bd hb; have := dM_bd ha; have := dM_bd hb; have := date_lex ha hb h
  unfold monB; omega
theorem d360_bd {a b : Int} (ha : dayP a) (hb : dayP b) (h : a ≤ b) : 0 ≤ d360 a b ∧ d360 a b ≤ 36000 := by
  have := dY_bd ha; have := dY_bd hb; have := dM_bd ha; have := dM_bd hb; have := dD_31 ha; have := dD_31 hb; have := date_lex ha hb h
  unfold d360 monB; omega
/-- how many months have begun -/
def begV (a b : Int) : Int := monB a b + if dD a < dD b then 1 else 0
theorem begV_bd {a b : Int} (ha : dayP a) (hb : dayP b) (h : a ≤ b) : 0 ≤ begV a b ∧ begV a b ≤ 1200 := by
  have := monB_bd ha hb h
  unfold begV; split <;> omega
theorem begV_same (a : Int) : begV a a = 0 := by unfold begV monB; split <;> omega
theorem begV_pos {a b : Int} (ha : dayP a) (hb : dayP b) (h : a < b) : 1 ≤ begV a b := by
  have := dY_bd ha; have := dY_bd hb; have := dM_bd ha; have := dM_bd hb; have := date_lex ha hb (by omega)
  unfold begV monB; split <;> omega
def dayOfV (y m d : Int) : Int := d - 1 + yDays (y - 2000).toNat + mDays y (m - 1).toNat
def dayOfP (y m d : Int) : Prop := (2000 ≤ y ∧ y ≤ 2099) ∧ (1 ≤ m ∧ m ≤ 12) ∧ (1 ≤ d ∧ d ≤ mLen y m)
theorem dayOf_dates {day : Int} (h : dayP day) : dayOfP (dY day) (dM day) (dD day) ∧ dayOfV (dY day) (dM day) (dD day) = day := by
  refine ⟨⟨dY_bd h, dM_bd h, dD_bd h⟩, ?_⟩
  have e1 : (dY day - 2000).toNat = yIdx day 99 := by unfold dY; omega
  have e2 : (dM day - 1).toNat = mIdx (dY day) (dR day) 11 := by unfold dM; omega
  unfold dayOfV
  rw [e1, e2]
  unfold dD dR; omega

/-! ### rounded parts -/
theorem rnd1_lit (a : Int) : rnd a 10000 1 = (2 * a + 10000) / 20000 := by
  unfold rnd; simp; split <;> omega
theorem rnd1_bd {a b : Int} (ha : 0 ≤ a) (hb : 1 ≤ b) : 0 ≤ rnd a b 1 ∧ rnd a b 1 ≤ a / b + 1 := by
  have h1 := rnd_bounds (a := a) (b := b) (r := 1)
  have h2 : 0 ≤ a / b := Int.ediv_nonneg ha (by omega)
  omega
def rpV (c b o r : Int) : Int := if 0 ≤ c then rnd (c * b) o r else -rnd (-c * b) o (if r = 0 then 3 else r)
def rpP (c b o r : Int) : Prop := (-1000000000 ≤ c ∧ c ≤ 1000000000) ∧ (0 ≤ b ∧ b ≤ 1000000) ∧ (1 ≤ o ∧ o ≤ 1000000) ∧ (0 ≤ r ∧ r ≤ 2)

/-! ### loans -/
def intr (rest rate : Int) : Int := rnd (rest * rate) 10000 1
def stepL (rate pay rest : Int) : Int := max 0 (rest + intr rest rate - pay)
def restN (c rate pay : Int) : Nat → Int
  | 0 => c
  | k + 1 => stepL rate pay (restN c rate pay k)
theorem restN_succ (c rate pay : Int) (k : Nat) : restN c rate pay (k + 1) = stepL rate pay (restN c rate pay k) := rfl
theorem intr_bd {rest rate : Int} (h0 : 0 ≤ rest) (h1 : rest ≤ 1000000000000) (r0 : 0 ≤ rate) (r1 : rate ≤ 100000) : 0 ≤ rest * rate ∧ rest * rate ≤ 100000000000000000 ∧ 0 ≤ intr rest rate ∧ intr rest rate ≤ 10000000000001 := by
  have hm := mul_bd h0 h1 r0 r1
  have h2 := rnd1_lit (rest * rate)
  unfold intr
  omega
theorem intr_mono {a b rate : Int} (h : a ≤ b) (hr : 0 ≤ rate) : intr a rate ≤ intr b rate := by
  have := Int.mul_le_mul_of_nonneg_right h hr
  unfold intr
  rw [rnd1_lit, rnd1_lit]
  omega
theorem stepL_mono {a b rate p q : Int} (h : a ≤ b) (hr : 0 ≤ rate) (hp : q ≤ p) : stepL rate p a ≤ stepL rate q b := by
  have := intr_mono h hr
  unfold stepL; omega
theorem restN_mono {c rate p q : Int} (hr : 0 ≤ rate) (hp : q ≤ p) : ∀ k, restN c rate p k ≤ restN c rate q k
  | 0 => Int.le_refl _
  | k + 1 => stepL_mono (restN_mono hr hp k) hr hp
theorem restN_nonneg {c rate p : Int} (hc : 0 ≤ c) : ∀ k, 0 ≤ restN c rate p k
  | 0 => hc
  | k + 1 => by rw [restN_succ]; unfold stepL; omega
/-- no rest of the first n is too great -/
def okN (c rate pay : Int) (n : Nat) : Prop := ∀ j, j < n → restN c rate pay (j + 1) ≤ 1000000000000
theorem okN_mono {c rate p q : Int} {n : Nat} (hr : 0 ≤ rate) (hp : q ≤ p) (h : okN c rate q n) : okN c rate p n := fun j hj =>
  Int.le_trans (restN_mono hr hp (j + 1)) (h j hj)
def paidP (c rate pay : Int) (n : Nat) : Prop := okN c rate pay n ∧ restN c rate pay n = 0
theorem paidP_mono {c rate p q : Int} {n : Nat} (hc : 0 ≤ c) (hr : 0 ≤ rate) (hp : q ≤ p) (h : paidP c rate q n) : paidP c rate p n := by
  refine ⟨okN_mono hr hp h.1, ?_⟩
  have h1 := restN_mono (c := c) hr hp n
  have h2 := restN_nonneg (rate := rate) (p := p) hc n
  have h3 := h.2
  omega
def loanP (c rate pay : Int) : Prop := (0 ≤ c ∧ c ≤ 1000000000) ∧ (0 ≤ rate ∧ rate ≤ 100000) ∧ (0 ≤ pay ∧ pay ≤ 1000000000)
end Go.Dues

/- Numbers between two others, by both. -/
namespace Go.Proofs.Ytjebkagbknmdoaa
open Go.RowKit Go.Dues
def inB (x lo hi : Int) : Bool := decide (lo ≤ x ∧ x ≤ hi)
theorem inB_yes {x lo hi : Int} (h : lo ≤ x ∧ x ≤ hi) : inB x lo hi = true := decide_eq_true h
theorem inB_no {x lo hi : Int} (h : ¬ (lo ≤ x ∧ x ≤ hi)) : inB x lo hi = false := decide_eq_false h
theorem inB_iff {x lo hi : Int} : inB x lo hi = true ↔ lo ≤ x ∧ x ≤ hi := decide_eq_true_iff
theorem inB_niff {x lo hi : Int} : inB x lo hi = false ↔ ¬ (lo ≤ x ∧ x ≤ hi) := decide_eq_false_iff_not
theorem specIn_any (x lo hi : Int) (w : World) : Calls Try.prog 92 #[.int .i64 x, .int .i64 lo, .int .i64 hi] w fun e w' => e = .returned (.bool (inB x lo hi)) ∧ w = w' := by
  by_cases h0 : lo ≤ x
  · by_cases h1 : x ≤ hi
    · have HB := hide (inB_yes ⟨h0, h1⟩)
      go_enter Try.func92, Try.ntmps92
      go_wp2
      go_ret
      exact ⟨retb HB.out.symm, rfl⟩
    · have HB := hide (inB_no (x := x) (lo := lo) (hi := hi) (by omega))
      go_enter Try.func92, Try.ntmps92
      go_wp2
      go_ret
      exact ⟨retb HB.out.symm, rfl⟩
  · have HB := hide (inB_no (x := x) (lo := lo) (hi := hi) (by omega))
    go_enter Try.func92, Try.ntmps92
    go_wp2
    go_ret
    exact ⟨retb HB.out.symm, rfl⟩
theorem implWithin_any (x lo hi : Int) (w : World) : Calls Try.prog 71 #[.int .i64 x, .int .i64 lo, .int .i64 hi] w fun e w' => e = .returned (.bool (inB x lo hi)) ∧ w = w' := by
  by_cases h0 : lo ≤ x
  · by_cases h1 : x ≤ hi
    · have HB := hide (inB_yes ⟨h0, h1⟩)
      go_enter Try.func71, Try.ntmps71
      go_wp2
      go_ret
      exact ⟨retb HB.out.symm, rfl⟩
    · have HB := hide (inB_no (x := x) (lo := lo) (hi := hi) (by omega))
      go_enter Try.func71, Try.ntmps71
      go_wp2
      go_ret
      exact ⟨retb HB.out.symm, rfl⟩
  · have HB := hide (inB_no (x := x) (lo := lo) (hi := hi) (by omega))
    go_enter Try.func71, Try.ntmps71
    go_wp2
    go_ret
    exact ⟨retb HB.out.symm, rfl⟩
end Go.Proofs.Ytjebkagbknmdoaa

/- Slices that the call itself made: whose block is known, and that may be written. -/
namespace Go
open Go.RowKit

/-- the slice A of n elements has its cells at the head of a block from lo on, before hi, not frozen -/
def OW (w : World) (lo hi : Nat) (A : Option Addr) (n : Nat) (f : Nat → Value) : Prop :=
  n = 0 ∨ ∃ g cs t, A = some ⟨g, 0, none⟩ ∧ lo ≤ g ∧ g < hi ∧ w.heap[g]? = some (.cells cs t (0, 0)) ∧ ∀ j, j < n → cs[j]? = some (f j)
/-- only blocks from lo on, before hi, have turned -/
structure Within (lo hi : Nat) (w w' : World) : Prop where
  os : w'.os = w.os
  tape : w'.tape = w.tape
  output : w'.output = w.output
  size : w'.heap.size = w.heap.size
  block : ∀ b, b < lo ∨ hi ≤ b → w'.heap[b]? = w.heap[b]?

section
variable {w w' w'' : World} {lo hi lo' hi' : Nat} {A : Option Addr} {n : Nat} {f : Nat → Value}
theorem OW.sl (h : OW w lo hi A n f) : SL w A n f := by
  rcases h with h | ⟨g, cs, t, h1, _, _, h2, h3⟩
  · exact .inl h
  · refine .inr ⟨g, 0, h1, (Array.getElem?_eq_some_iff.1 h2).1, fun j hj => ?_⟩
    rw [Nat.zero_add, Joins.cell_of_block h2 j]
    exact h3 j hj
theorem OW.below (h : OW w lo hi A n f) (hb : Below w.heap.size w w') : OW w' lo hi A n f := by
  rcases h with h | ⟨g, cs, t, h1, h2, h3, h4, h5⟩
  · exact .inl h
  · exact .inr ⟨g, cs, t, h1, h2, h3, blk_below hb (Array.getElem?_eq_some_iff.1 h4).1 h4, h5⟩
theorem OW.within (h : OW w lo hi A n f) (hb : Within lo' hi' w w') (hd : hi ≤ lo' ∨ hi' ≤ lo) : OW w' lo hi A n f := by
  rcases h with h | ⟨g, cs, t, h1, h2, h3, h4, h5⟩
  · exact .inl h
  · exact .inr ⟨g, cs, t, h1, h2, h3, (hb.block g (by omega)).trans h4, h5⟩
theorem OW.wide (h : OW w lo hi A n f) (h1 : lo' ≤ lo) (h2 : hi ≤ hi') : OW w lo' hi' A n f := by
  rcases h with h | ⟨g, cs, t, h3, h4, h5, h6, h7⟩
  · exact .inl h
  · exact .inr ⟨g, cs, t, h3, by omega, by omega, h6, h7⟩
theorem OW.congr {f' : Nat → Value} (h : OW w lo hi A n f) (hf : ∀ j, j < n → f j = f' j) : OW w lo hi A n f' := by
  rcases h with h | ⟨g, cs, t, h3, h4, h5, h6, h7⟩
  · exact .inl h
  · exact .inr ⟨g, cs, t, h3, h4, h5, h6, fun j hj => by rw [h7 j hj, hf j hj]⟩
theorem OW.drewN (h : OW w lo hi A n f) (k : Nat) : OW (w.drewN k) lo hi A n f := h
theorem OW.setCell {p : Addr} {v : Value} (h : OW w lo hi A n f) (hp : p.block < lo ∨ hi ≤ p.block) : OW (w.setCell p v) lo hi A n f := by
  rcases h with h | ⟨g, cs, t, h1, h2, h3, h4, h5⟩
  · exact .inl h
  · exact .inr ⟨g, cs, t, h1, h2, h3, blk_set (by omega) h4, h5⟩
theorem own_shape {B e size n : Nat} {v : Value} {xs : List Value} (h : w.ownsRow B e size v n xs) : ∃ G d, v = .slice G n d := by
  rcases h.2 with ⟨h1, h2⟩ | ⟨g, cap, cur, h1, _⟩
  · exact ⟨_, _, by rw [h1, h2]⟩
  · exact ⟨_, _, h1⟩
theorem OW.of_owns {B e c : Nat} {xs : List Value} (h : w.ownsRow B e 1 (.slice A n c) n xs) (hx : ∀ j, j < n → xs[j]? = some (f j)) : OW w B w.heap.size A n f := by
  rcases h.2 with ⟨_, h⟩ | ⟨g, cap, cur, h1, h2, h3, h4, _, h5, h6⟩
  · exact .inl h
  · injection h1 with h1
    refine .inr ⟨g, cur, e, h1, h2, (Array.getElem?_eq_some_iff.1 h3).1, h3, fun j hj => ?_⟩
    have h7 := hx j hj
    rw [← h6, Nat.mul_one, List.getElem?_take, if_pos hj, Array.getElem?_toList] at h7
    exact h7
theorem Within.refl (lo hi : Nat) (w : World) : Within lo hi w w := ⟨rfl, rfl, rfl, rfl, fun _ _ => rfl⟩
theorem Within.trans (h : Within lo hi w w') (h' : Within lo hi w' w'') : Within lo hi w w'' := ⟨h'.os.trans h.os, h'.tape.trans h.tape, h'.output.trans h.output, h'.size.trans h.size, fun b hb => (h'.block b hb).trans (h.block b hb)⟩
theorem Within.wide (h : Within lo hi w w') (h1 : lo' ≤ lo) (h2 : hi ≤ hi') : Within lo' hi' w w' := ⟨h.os, h.tape, h.output, h.size, fun b hb => h.block b (by omega)⟩
theorem Within.bel (h : Within lo hi w w') {B : Nat} (hB : B ≤ lo) : Below B w w' := ⟨h.os, h.tape, h.output, by rw [h.size]; exact Nat.le_refl _, fun b hb => h.block b (.inl (by omega))⟩
theorem Within.set {p : Addr} {v : Value} (h : Within lo hi w w') (h1 : lo ≤ p.block) (h2 : p.block < hi) : Within lo hi w (w'.setCell p v) :=
  ⟨h.os, h.tape, h.output, by rw [← h.size]; simp [World.setCell], fun b hb => (Below.heap_setCell w' p v b (by omega)).trans (h.block b hb)⟩
theorem Within.drewN (h : Within lo hi w w') (k : Nat) : Within lo hi w (w'.drewN k) := ⟨h.os, h.tape, h.output, h.size, h.block⟩
theorem SL.within (h : SL w A n f) (hb : Within lo hi w w') (hd : ∀ b off, A = some ⟨b, off, none⟩ → n ≠ 0 → b < lo ∨ hi ≤ b) : SL w' A n f := by
  rcases h with h | ⟨b, off, h1, h2, h3⟩
  · exact .inl h
  · by_cases hn : n = 0
    · exact .inl hn
    · exact .inr ⟨b, off, h1, by rw [hb.size]; exact h2, fun j hj => (World.cell?_of_block (hb.block b (hd b off h1 hn))).trans (h3 j hj)⟩
end
/-- memory has grown, and of what was there only blocks from lo on, before hi, have turned -/
structure Marked (lo hi : Nat) (w w' : World) : Prop where
  os : w'.os = w.os
  tape : w'.tape = w.tape
  output : w'.output = w.output
  size : w.heap.size ≤ w'.heap.size
  block : ∀ b, b < w.heap.size → b < lo ∨ hi ≤ b → w'.heap[b]? = w.heap[b]?
section
variable {w w' : World} {lo hi lo' hi' : Nat} {A : Option Addr} {n : Nat} {f : Nat → Value}
theorem marked_of (h : Within lo hi w w') : Marked lo hi w w' := ⟨h.os, h.tape, h.output, by rw [h.size]; exact Nat.le_refl _, fun b _ hb => h.block b hb⟩
theorem marked_alloc {o : Obj} (h : Within lo hi (w.alloc o) w') : Marked lo hi w w' :=
  ⟨h.os, h.tape, h.output, by rw [h.size]; simp, fun b hb hd => (h.block b hd).trans (Below.heap_alloc w o b hb)⟩
theorem Marked.bel (h : Marked lo hi w w') {B : Nat} (h1 : B ≤ lo) (h2 : B ≤ w.heap.size) : Below B w w' := ⟨h.os, h.tape, h.output, h.size, fun b hb => h.block b (by omega) (.inl (by omega))⟩
theorem blk_marked (h : Marked lo hi w w') {i : Nat} {u : Option Obj} (hi' : i < w.heap.size) (hd : i < lo ∨ hi ≤ i) (hu : w.heap[i]? = u) : w'.heap[i]? = u := (h.block i hi' hd).trans hu
theorem OW.marked (h : OW w lo hi A n f) (hb : Marked lo' hi' w w') (hd : hi ≤ lo' ∨ hi' ≤ lo) : OW w' lo hi A n f := by
  rcases h with h | ⟨g, cs, t, h1, h2, h3, h4, h5⟩
  · exact .inl h
  · exact .inr ⟨g, cs, t, h1, h2, h3, (hb.block g (Array.getElem?_eq_some_iff.1 h4).1 (by omega)).trans h4, h5⟩
end
end Go

/- Lists whose numbers are all as told, and sums of lists, by the program. -/
namespace Go.Proofs.Ytjebkagbknmdoaa
open Go.RowKit Go.Dues
theorem retBa {a b : Bool} (h : a = b) : Ending.returned (.bool a) = .returned (.bool b) := by rw [h]
theorem cells_a {A : Option Addr} {n : Nat} {f : Nat → Value} {w : World} (hs : SL w A n f) : Hid (∀ k, k < n → ∃ b off, A = some ⟨b, off, none⟩ ∧ b < w.heap.size ∧ w.cell? ⟨b, off + k, none⟩ = some (f k)) := by
  intro k hk
  obtain ⟨b, off, h1, h2, h3⟩ := hs.at_ (by omega)
  exact ⟨b, off, h1, h2, h3 k hk⟩
def allP (x : Nat → Int) (n : Nat) (least most lo hi : Int) : Prop := (least ≤ n ∧ n ≤ most) ∧ ∀ j, j < n → lo ≤ x j ∧ x j ≤ hi
theorem small_isAmount (v : Int) (w : World) : Calls Try.prog 70 #[.int .i64 v] w fun e w' => e = .returned (.bool (inB v 0 1000000000000)) ∧ w = w' := implAmount_any v w
set_option maxHeartbeats 2000000 in
theorem not_isAmount (v : Int) (P : Nat) (w : World) (h : w.heap[P]? = some (.cells #[.func (Fn.func 70) #[] #[]] 94)) : Calls Try.prog 212 #[.int .i64 v, .pointer (some ⟨P, 0, none⟩)] w fun e w' => e = .returned (.bool (!inB v 0 1000000000000)) ∧ w = w' := by
  have k0 := Joins.cell_of_block h 0
  simp at k0
  clear h
  go_enter Try.func212, Try.ntmps212
  go_wp2_with fail
  refine (small_isAmount _ _).mono ?_
  rintro e w' ⟨rfl, rfl⟩
  go_wp2
  go_ret
  exact ⟨rfl, rfl⟩
set_option maxHeartbeats 4000000 in
theorem index_isAmount (A : Option Addr) (n c : Nat) (x : Nat → Int) (P : Nat) (w : World) (hn : n ≤ maxLen) (hs : SL w A n (fun j => .int .i64 (x j))) (h : w.heap[P]? = some (.cells #[.func (Fn.func 70) #[] #[]] 94)) :
    Calls Try.prog 185 #[.slice A n c, .func (Fn.func 212) #[] #[.pointer (some ⟨P, 0, none⟩)]] w fun e w' => ∃ r : Int, e = .returned (.int .i64 r) ∧ ((0 ≤ r ∧ ∃ j, j < n ∧ ¬ (0 ≤ x j ∧ x j ≤ 1000000000000)) ∨ (r = -1 ∧ ∀ j, j < n → 0 ≤ x j ∧ x j ≤ 1000000000000)) ∧ w = w' := by
  unfold maxLen at hn
  have HC := cells_a hs
  have HP := hide h
  clear hs h
  go_enter Try.func185, Try.ntmps185
  go_wp2
  go_loop [5, 8] (fun _ i => ∃ k : Nat, k ≤ n ∧ i = .int .i64 k ∧ Hid (∀ j, j < k → 0 ≤ x j ∧ x j ≤ 1000000000000)) (fun _ i => n - (intOf i).toNat)
  case atStart => exact ⟨0, Nat.zero_le _, rfl, fun j hj => absurd hj (by omega)⟩
  case round =>
    obtain ⟨k, hk, rfl, hg⟩ := hrel
    by_cases hlt : k < n
    · obtain ⟨b1, off, rfl, hb1, hxk⟩ := HC.out k hlt
      cases hp : inB (x k) 0 1000000000000
      · have HE := hide (inB_niff.1 hp)
        go_wp2_with fail
        refine (not_isAmount _ _ _ HP.out).mono ?_
        rw [hp]
        rintro e w' ⟨rfl, rfl⟩
        go_wp2
        go_ret
        exact ⟨_, rfl, .inl ⟨by omega, k, hlt, HE.out⟩, rfl⟩
      · have HE := hide (inB_iff.1 hp)
        go_wp2_with fail
        refine (not_isAmount _ _ _ HP.out).mono ?_
        rw [hp]
        rintro e w' ⟨rfl, rfl⟩
        clear hp
        go_wp2
        go_round
        case rel => exact ⟨k + 1, by omega, by go_num, by
          intro j hj
          by_cases hjk : j = k
          · subst hjk; exact HE.out
          · exact hg.out j (by omega)⟩
        case measure => simp [intOf]; omega
    · go_wp2
      go_ret
      obtain rfl : k = n := by omega
      exact ⟨_, rfl, .inr ⟨rfl, hg.out⟩, rfl⟩
set_option maxHeartbeats 4000000 in
theorem areAll_isAmount (A : Option Addr) (n c : Nat) (x : Nat → Int) (least most : Int) (w : World) (hn : n ≤ maxLen) (hs : SL w A n (fun j => .int .i64 (x j))) :
    Calls Try.prog 183 #[.slice A n c, .int .i64 least, .int .i64 most, .func (Fn.func 70) #[] #[]] w fun e w' => e = .returned (.bool (tru (allP x n least most 0 1000000000000))) ∧ Below w.heap.size w w' := by
  obtain ⟨W, hW⟩ : ∃ u, u = w.alloc (.cells #[.func (Fn.func 70) #[] #[]] 94) := ⟨_, rfl⟩
  have HBW : Hid (Below w.heap.size w W) := by rw [hW]; exact (Below.refl w.heap.size w).alloc (Nat.le_refl _) _
  have HX : Hid (W.heap[w.heap.size]? = some (.cells #[.func (Fn.func 70) #[] #[]] 94)) := by rw [hW]; exact blocks1 w _
  have HI := hide (index_isAmount A n c x w.heap.size W hn (hs.below HBW.out) HX.out)
  have HBE := hide (show Below w.heap.size w (w.alloc (.cells #[.func (Fn.func 70) #[] #[]] 94)) from (Below.refl w.heap.size w).alloc (Nat.le_refl _) _)
  have HWW := hide hW
  unfold maxLen at hn
  clear hs hW
  by_cases h1 : (n : Int) < least
  · have HT := hide (tru_no (show ¬ allP x n least most 0 1000000000000 from fun h => by have := h.1.1; omega))
    go_enter Try.func183, Try.ntmps183
    go_wp2
    go_ret
    exact ⟨retBa HT.out.symm, HBE.out⟩
  have h1d : decide ((n : Int) < least) = false := decide_eq_false h1
  by_cases h2 : most < (n : Int)
  · have HT := hide (tru_no (show ¬ allP x n least most 0 1000000000000 from fun h => by have := h.1.2; omega))
    go_enter Try.func183, Try.ntmps183
    go_wp2
    go_ret
    exact ⟨retBa HT.out.symm, HBE.out⟩
  have h2d : decide (most < (n : Int)) = false := decide_eq_false h2
  have HL := hide (show least ≤ (n : Int) ∧ (n : Int) ≤ most from ⟨by omega, by omega⟩)
  go_enter Try.func183, Try.ntmps183
  go_wp2_with (first | (go_at_call 185; fail) | (go_at_call 153; go_in))
  rw [← HWW.out]
  clear HWW
  refine HI.out.mono ?_
  rintro e w1 ⟨r, rfl, hr, rfl⟩
  rcases hr with ⟨h0, j, hj, hbad⟩ | ⟨rfl, hall⟩
  · have HT := hide (tru_no (show ¬ allP x n least most 0 1000000000000 from fun h => hbad (h.2 j hj)))
    clear hbad
    go_wp2
    go_ret
    exact ⟨retBa HT.out.symm, HBW.out⟩
  · have HT := hide (tru_yes (show allP x n least most 0 1000000000000 from ⟨HL.out, hall⟩))
    clear hall
    go_wp2
    go_ret
    exact ⟨retBa HT.out.symm, HBW.out⟩
theorem small_isRate (v : Int) (w : World) : Calls Try.prog 75 #[.int .i64 v] w fun e w' => e = .returned (.bool (inB v 0 10000)) ∧ w = w' := implRate_any v w
set_option maxHeartbeats 2000000 in
theorem not_isRate (v : Int) (P : Nat) (w : World) (h : w.heap[P]? = some (.cells #[.func (Fn.func 75) #[] #[]] 94)) : Calls Try.prog 212 #[.int .i64 v, .pointer (some ⟨P, 0, none⟩)] w fun e w' => e = .returned (.bool (!inB v 0 10000)) ∧ w = w' := by
  have k0 := Joins.cell_of_block h 0
  simp at k0
  clear h
  go_enter Try.func212, Try.ntmps212
  go_wp2_with fail
  refine (small_isRate _ _).mono ?_
  rintro e w' ⟨rfl, rfl⟩
  go_wp2
  go_ret
  exact ⟨rfl, rfl⟩
set_option maxHeartbeats 4000000 in
theorem index_isRate (A : Option Addr) (n c : Nat) (x : Nat → Int) (P : Nat) (w : World) (hn : n ≤ maxLen) (hs : SL w A n (fun j => .int .i64 (x j))) (h : w.heap[P]? = some (.cells #[.func (Fn.func 75) #[] #[]] 94)) :
    Calls Try.prog 185 #[.slice A n c, .func (Fn.func 212) #[] #[.pointer (some ⟨P, 0, none⟩)]] w fun e w' => ∃ r : Int, e = .returned (.int .i64 r) ∧ ((0 ≤ r ∧ ∃ j, j < n ∧ ¬ (0 ≤ x j ∧ x j ≤ 10000)) ∨ (r = -1 ∧ ∀ j, j < n → 0 ≤ x j ∧ x j ≤ 10000)) ∧ w = w' := by
  unfold maxLen at hn
  have HC := cells_a hs
  have HP := hide h
  clear hs h
  go_enter Try.func185, Try.ntmps185
  go_wp2
  go_loop [5, 8] (fun _ i => ∃ k : Nat, k ≤ n ∧ i = .int .i64 k ∧ Hid (∀ j, j < k → 0 ≤ x j ∧ x j ≤ 10000)) (fun _ i => n - (intOf i).toNat)
  case atStart => exact ⟨0, Nat.zero_le _, rfl, fun j hj => absurd hj (by omega)⟩
  case round =>
    obtain ⟨k, hk, rfl, hg⟩ := hrel
    by_cases hlt : k < n
    · obtain ⟨b1, off, rfl, hb1, hxk⟩ := HC.out k hlt
      cases hp : inB (x k) 0 10000
      · have HE := hide (inB_niff.1 hp)
        go_wp2_with fail
        refine (not_isRate _ _ _ HP.out).mono ?_
        rw [hp]
        rintro e w' ⟨rfl, rfl⟩
        go_wp2
        go_ret
        exact ⟨_, rfl, .inl ⟨by omega, k, hlt, HE.out⟩, rfl⟩
      · have HE := hide (inB_iff.1 hp)
        go_wp2_with fail
        refine (not_isRate _ _ _ HP.out).mono ?_
        rw [hp]
        rintro e w' ⟨rfl, rfl⟩
        clear hp
        go_wp2
        go_round
        case rel => exact ⟨k + 1, by omega, by go_num, by
          intro j hj
          by_cases hjk : j = k
          · subst hjk; exact HE.out
          · exact hg.out j (by omega)⟩
        case measure => simp [intOf]; omega
    · go_wp2
      go_ret
      obtain rfl : k = n := by omega
      exact ⟨_, rfl, .inr ⟨rfl, hg.out⟩, rfl⟩
set_option maxHeartbeats 4000000 in
theorem areAll_isRate (A : Option Addr) (n c : Nat) (x : Nat → Int) (least most : Int) (w : World) (hn : n ≤ maxLen) (hs : SL w A n (fun j => .int .i64 (x j))) :
    Calls Try.prog 183 #[.slice A n c, .int .i64 least, .int .i64 most, .func (Fn.func 75) #[] #[]] w fun e w' => e = .returned (.bool (tru (allP x n least most 0 10000))) ∧ Below w.heap.size w w' := by
  obtain ⟨W, hW⟩ : ∃ u, u = w.alloc (.cells #[.func (Fn.func 75) #[] #[]] 94) := ⟨_, rfl⟩
  have HBW : Hid (Below w.heap.size w W) := by rw [hW]; exact (Below.refl w.heap.size w).alloc (Nat.le_refl _) _
  have HX : Hid (W.heap[w.heap.size]? = some (.cells #[.func (Fn.func 75) #[] #[]] 94)) := by rw [hW]; exact blocks1 w _
  have HI := hide (index_isRate A n c x w.heap.size W hn (hs.below HBW.out) HX.out)
  have HBE := hide (show Below w.heap.size w (w.alloc (.cells #[.func (Fn.func 75) #[] #[]] 94)) from (Below.refl w.heap.size w).alloc (Nat.le_refl _) _)
  have HWW := hide hW
  unfold maxLen at hn
  clear hs hW
  by_cases h1 : (n : Int) < least
  · have HT := hide (tru_no (show ¬ allP x n least most 0 10000 from fun h => by have := h.1.1; omega))
    go_enter Try.func183, Try.ntmps183
    go_wp2
    go_ret
    exact ⟨retBa HT.out.symm, HBE.out⟩
  have h1d : decide ((n : Int) < least) = false := decide_eq_false h1
  by_cases h2 : most < (n : Int)
  · have HT := hide (tru_no (show ¬ allP x n least most 0 10000 from fun h => by have := h.1.2; omega))
    go_enter Try.func183, Try.ntmps183
    go_wp2
    go_ret
    exact ⟨retBa HT.out.symm, HBE.out⟩
  have h2d : decide (most < (n : Int)) = false := decide_eq_false h2
  have HL := hide (show least ≤ (n : Int) ∧ (n : Int) ≤ most from ⟨by omega, by omega⟩)
  go_enter Try.func183, Try.ntmps183
  go_wp2_with (first | (go_at_call 185; fail) | (go_at_call 153; go_in))
  rw [← HWW.out]
  clear HWW
  refine HI.out.mono ?_
  rintro e w1 ⟨r, rfl, hr, rfl⟩
  rcases hr with ⟨h0, j, hj, hbad⟩ | ⟨rfl, hall⟩
  · have HT := hide (tru_no (show ¬ allP x n least most 0 10000 from fun h => hbad (h.2 j hj)))
    clear hbad
    go_wp2
    go_ret
    exact ⟨retBa HT.out.symm, HBW.out⟩
  · have HT := hide (tru_yes (show allP x n least most 0 10000 from ⟨HL.out, hall⟩))
    clear hall
    go_wp2
    go_ret
    exact ⟨retBa HT.out.symm, HBW.out⟩
theorem small_isIncome (v : Int) (w : World) : Calls Try.prog 207 #[.int .i64 v] w fun e w' => e = .returned (.bool (inB v 0 1000000000)) ∧ w = w' := by
  go_enter Try.func207, Try.ntmps207
  go_wp2_with (first | (go_at_call 71; refine (implWithin_any _ _ _ _).mono ?_; rintro e w' ⟨rfl, rfl⟩) | go_in)
  go_ret
  exact ⟨rfl, rfl⟩
set_option maxHeartbeats 2000000 in
theorem not_isIncome (v : Int) (P : Nat) (w : World) (h : w.heap[P]? = some (.cells #[.func (Fn.func 207) #[] #[]] 94)) : Calls Try.prog 212 #[.int .i64 v, .pointer (some ⟨P, 0, none⟩)] w fun e w' => e = .returned (.bool (!inB v 0 1000000000)) ∧ w = w' := by
  have k0 := Joins.cell_of_block h 0
  simp at k0
  clear h
  go_enter Try.func212, Try.ntmps212
  go_wp2_with fail
  refine (small_isIncome _ _).mono ?_
  rintro e w' ⟨rfl, rfl⟩
  go_wp2
  go_ret
  exact ⟨rfl, rfl⟩
set_option maxHeartbeats 4000000 in
theorem index_isIncome (A : Option Addr) (n c : Nat) (x : Nat → Int) (P : Nat) (w : World) (hn : n ≤ maxLen) (hs : SL w A n (fun j => .int .i64 (x j))) (h : w.heap[P]? = some (.cells #[.func (Fn.func 207) #[] #[]] 94)) :
    Calls Try.prog 185 #[.slice A n c, .func (Fn.func 212) #[] #[.pointer (some ⟨P, 0, none⟩)]] w fun e w' => ∃ r : Int, e = .returned (.int .i64 r) ∧ ((0 ≤ r ∧ ∃ j, j < n ∧ ¬ (0 ≤ x j ∧ x j ≤ 1000000000)) ∨ (r = -1 ∧ ∀ j, j < n → 0 ≤ x j ∧ x j ≤ 1000000000)) ∧ w = w' := by
  unfold maxLen at hn
  have HC := cells_a hs
  have HP := hide h
  clear hs h
  go_enter Try.func185, Try.ntmps185
  go_wp2
  go_loop [5, 8] (fun _ i => ∃ k : Nat, k ≤ n ∧ i = .int .i64 k ∧ Hid (∀ j, j < k → 0 ≤ x j ∧ x j ≤ 1000000000)) (fun _ i => n - (intOf i).toNat)
  case atStart => exact ⟨0, Nat.zero_le _, rfl, fun j hj => absurd hj (by omega)⟩
  case round =>
    obtain ⟨k, hk, rfl, hg⟩ := hrel
    by_cases hlt : k < n
    · obtain ⟨b1, off, rfl, hb1, hxk⟩ := HC.out k hlt
      cases hp : inB (x k) 0 1000000000
      · have HE := hide (inB_niff.1 hp)
        go_wp2_with fail
        refine (not_isIncome _ _ _ HP.out).mono ?_
        rw [hp]
        rintro e w' ⟨rfl, rfl⟩
        go_wp2
        go_ret
        exact ⟨_, rfl, .inl ⟨by omega, k, hlt, HE.out⟩, rfl⟩
      · have HE := hide (inB_iff.1 hp)
        go_wp2_with fail
        refine (not_isIncome _ _ _ HP.out).mono ?_
        rw [hp]
        rintro e w' ⟨rfl, rfl⟩
        clear hp
        go_wp2
        go_round
        case rel => exact ⟨k + 1, by omega, by go_num, by
          intro j hj
          by_cases hjk : j = k
          · subst hjk; exact HE.out
          · exact hg.out j (by omega)⟩
        case measure => simp [intOf]; omega
    · go_wp2
      go_ret
      obtain rfl : k = n := by omega
      exact ⟨_, rfl, .inr ⟨rfl, hg.out⟩, rfl⟩
set_option maxHeartbeats 4000000 in
theorem areAll_isIncome (A : Option Addr) (n c : Nat) (x : Nat → Int) (least most : Int) (w : World) (hn : n ≤ maxLen) (hs : SL w A n (fun j => .int .i64 (x j))) :
    Calls Try.prog 183 #[.slice A n c, .int .i64 least, .int .i64 most, .func (Fn.func 207) #[] #[]] w fun e w' => e = .returned (.bool (tru (allP x n least most 0 1000000000))) ∧ Below w.heap.size w w' := by
  obtain ⟨W, hW⟩ : ∃ u, u = w.alloc (.cells #[.func (Fn.func 207) #[] #[]] 94) := ⟨_, rfl⟩
  have HBW : Hid (Below w.heap.size w W) := by rw [hW]; exact (Below.refl w.heap.size w).alloc (Nat.le_refl _) _
  have HX : Hid (W.heap[w.heap.size]? = some (.cells #[.func (Fn.func 207) #[] #[]] 94)) := by rw [hW]; exact blocks1 w _
  have HI := hide (index_isIncome A n c x w.heap.size W hn (hs.below HBW.out) HX.out)
  have HBE := hide (show Below w.heap.size w (w.alloc (.cells #[.func (Fn.func 207) #[] #[]] 94)) from (Below.refl w.heap.size w).alloc (Nat.le_refl _) _)
  have HWW := hide hW
  unfold maxLen at hn
  clear hs hW
  by_cases h1 : (n : Int) < least
  · have HT := hide (tru_no (show ¬ allP x n least most 0 1000000000 from fun h => by have := h.1.1; omega))
    go_enter Try.func183, Try.ntmps183
    go_wp2
    go_ret
    exact ⟨retBa HT.out.symm, HBE.out⟩
  have h1d : decide ((n : Int) < least) = false := decide_eq_false h1
  by_cases h2 : most < (n : Int)
  · have HT := hide (tru_no (show ¬ allP x n least most 0 1000000000 from fun h => by have := h.1.2; omega))
    go_enter Try.func183, Try.ntmps183
    go_wp2
    go_ret
    exact ⟨retBa HT.out.symm, HBE.out⟩
  have h2d : decide (most < (n : Int)) = false := decide_eq_false h2
  have HL := hide (show least ≤ (n : Int) ∧ (n : Int) ≤ most from ⟨by omega, by omega⟩)
  go_enter Try.func183, Try.ntmps183
  go_wp2_with (first | (go_at_call 185; fail) | (go_at_call 153; go_in))
  rw [← HWW.out]
  clear HWW
  refine HI.out.mono ?_
  rintro e w1 ⟨r, rfl, hr, rfl⟩
  rcases hr with ⟨h0, j, hj, hbad⟩ | ⟨rfl, hall⟩
  · have HT := hide (tru_no (show ¬ allP x n least most 0 1000000000 from fun h => hbad (h.2 j hj)))
    clear hbad
    go_wp2
    go_ret
    exact ⟨retBa HT.out.symm, HBW.out⟩
  · have HT := hide (tru_yes (show allP x n least most 0 1000000000 from ⟨HL.out, hall⟩))
    clear hall
    go_wp2
    go_ret
    exact ⟨retBa HT.out.symm, HBW.out⟩
theorem psum_abs {x : Nat → Int} {n : Nat} {M : Int} (h : ∀ j, j < n → -M ≤ x j ∧ x j ≤ M) : ∀ k, k ≤ n → -(M * k) ≤ psum x k ∧ psum x k ≤ M * k
  | 0, _ => by simp [psum]
  | k + 1, hk => by
    have h1 := psum_abs h k (by omega)
    have h2 := h k (by omega)
    rw [psum_succ]; push_cast; rw [Int.mul_add]; omega
set_option maxHeartbeats 4000000 in
theorem sumBy_itself (A : Option Addr) (n c : Nat) (x : Nat → Int) (w : World) (hn : n ≤ 1048576) (hx : ∀ j, j < n → -1000000000000 ≤ x j ∧ x j ≤ 1000000000000) (hs : SL w A n (fun j => .int .i64 (x j))) :
    Calls Try.prog 137 #[.slice A n c, .func (Fn.func 138) #[] #[]] w fun e w' => e = .returned (.int .i64 (psum x n)) ∧ w = w' := by
  have HC := cells_a hs
  have HX := hide hx
  clear hs hx
  go_enter Try.func137, Try.ntmps137
  go_wp2
  go_loop [5, 7, 10] (fun s _ i => ∃ (k : Nat) (S : Int), k ≤ n ∧ i = .int .i64 k ∧ s = .int .i64 S ∧ Hid (S = psum x k)) (fun _ _ i => n - (intOf i).toNat)
  case atStart => exact ⟨0, 0, Nat.zero_le _, rfl, rfl, rfl⟩
  case round =>
    obtain ⟨k, S, hk, rfl, rfl, hS⟩ := hrel
    by_cases hlt : k < n
    · obtain ⟨b1, off, rfl, hb1, hxk⟩ := HC.out k hlt
      obtain ⟨x0, x1⟩ := HX.out k hlt
      obtain ⟨s0, s1⟩ := psum_abs HX.out k hk
      rw [← hS.out] at s0 s1
      have s2 : -1048576000000000000 ≤ S := by omega
      have s3 : S ≤ 1048576000000000000 := by omega
      clear s0 s1
      go_wp2_with (go_at_call 138; go_in)
      go_round
      case rel => exact ⟨k + 1, _, by omega, by go_num, rfl, by show S + x k = psum x (k + 1); rw [psum_succ, hS.out]⟩
      case measure => simp [intOf]; omega
    · have HE := hide (show S = psum x n by rw [hS.out]; rw [show k = n by omega])
      go_wp2
      go_ret
      exact ⟨reti HE.out, rfl⟩
end Go.Proofs.Ytjebkagbknmdoaa

/- Slices that read as lists; widening as an equation of the run. -/
namespace Go
open Go.RowKit

section
open Go.ChangeShapes Go.WideShapes
variable {H : Type} {enc : TypeId × Value → H} {P : Program} {w : World}
theorem trod_float {base : Nat} {spare : Nat → Bool} {held : Bool} {t : TypeId} {k : FloatKind} {fuel : Nat} {cs : List Value} {x : DataW H × List MemPlace} (ht : P.underlying t = some (.float k)) (h : DataW.trod enc P w base spare held fuel t cs = some x) :
    ∃ b, cs = [.float k b] ∧ (Lit.float k b).wf = true := by
  cases fuel with
  | zero => simp [DataW.trod] at h
  | succ n =>
    unfold DataW.trod at h
    rw [ht] at h
    split at h <;> simp_all

/-- A SLICE OF FLOATS, OPENED. -/
theorem open_fl {t e : TypeId} {k : FloatKind} {v : Value} {d : DataW H} {ps : List MemPlace} (ht : P.underlying t = some (.slice e)) (he : P.underlying e = some (.float k)) (hc : P.cellsOf e = 1)
    (hd : DataW.Trod enc P w 0 (fun _ => true) true t v d ps) (hv : ∃ A n c, v = .slice A n c) :
    ∃ A n c, ∃ x : Nat → Nat, v = .slice A n c ∧ n ≤ maxLen ∧ SL w A n (fun j => .float k (x j)) ∧ ∀ j, j < n → (Lit.float k (x j)).wf = true := by
  obtain ⟨A, n, c, f, rfl, hm, hs, hf⟩ := open_sl ht hc hd hv
  have each : ∀ j, j < n → ∃ b, f j = .float k b ∧ (Lit.float k b).wf = true := by
    intro j hj
    obtain ⟨m, y, h⟩ := hf j hj
    obtain ⟨b, h1, h2⟩ := trod_float he h
    exact ⟨b, by injection h1, h2⟩
  refine ⟨A, n, c, fun j => match f j with | .float _ b => b | _ => 0, rfl, hm, ?_, ?_⟩
  · rcases hs with h | ⟨b, off, h1, h2, h3⟩
    · exact .inl h
    · refine .inr ⟨b, off, h1, h2, fun j hj => ?_⟩
      obtain ⟨b', e1, _⟩ := each j hj
      rw [h3 j hj]
      simp only [e1]
  · intro j hj
    obtain ⟨b', e1, e2⟩ := each j hj
    simp only [e1]; exact e2
end

/-! ### widening, as an equation -/
/-- the bits of a widened number: a NaN's are the tape's -/
def wv (b : Nat) (w : World) : Nat := if fnan .f32 b = true then (Question.nanConv .f64 b).cut (w.tape w.drawn (.nanConv .f64 b)) else widen b
def wd (b : Nat) : Nat := if fnan .f32 b = true then 1 else 0
theorem run_widen_eq {P : Program} (w : World) (src dst : TypeId) (b : Nat) (hs : (P.underlying src).isSome = true) (hd : P.underlying dst = some (.float .f64)) :
    (convert src dst (.float .f32 b)).run P w = .ok (.float .f64 (wv b w)) (w.drewN (wd b)) := by
  unfold wv wd
  by_cases hn : fnan .f32 b = true
  · rw [if_pos hn, if_pos hn]
    exact run_conv_nan w src dst .f32 .f64 b (by decide) hs hd hn
  · rw [if_neg hn, if_neg hn]
    have hr : FloatKind.f32.decode b = Ieee.single.read b := rfl
    refine run_convert_float_float w src dst .f32 .f64 b _ hs hd ?_
    rcases mag_read32 b with ⟨s, t, e⟩ | ⟨s, e⟩ | hm
    · exact absurd (isNaN_of_read (k := .f32) ⟨s, t, e⟩) hn
    · unfold floatToFloatBits; rw [if_neg (by decide), hr, e]; unfold widen; rw [e]; rfl
    · cases hd2 : Ieee.single.read b with
      | infinity s => rw [hd2] at hm; exact hm.elim
      | nan s t => rw [hd2] at hm; exact hm.elim
      | number s m e =>
        rw [hd2] at hm
        have hi : (FloatKind.f64.decode (FloatKind.f64.encode (.number s m e))).isInfinity = false := mag_not_inf (mag_write64 hm (by decide) (by decide))
        unfold floatToFloatBits; rw [if_neg (by decide), hr, hd2]; dsimp only; rw [hi]; unfold widen; rw [hd2]; rfl
/-! ### arithmetic, as an equation -/
def fv (op : BinOp) (k : FloatKind) (x y : Nat) (w : World) : Nat := (floatBits op k x y).getD ((Question.nanBits k x y).cut (w.tape w.drawn (.nanBits k x y)))
def fd (op : BinOp) (k : FloatKind) (x y : Nat) : Nat := if (floatBits op k x y).isSome = true then 0 else 1
theorem run_far_eq {P : Program} (op : BinOp) (ho : op = .add ∨ op = .sub ∨ op = .mul ∨ op = .quo) (w : World) (t : TypeId) (k : FloatKind) (x y : Nat) :
    (binOp op t (.float k x) (.float k y)).run P w = .ok (.float k (fv op k x y w)) (w.drewN (fd op k x y)) := by
  unfold fv fd
  cases h : floatBits op k x y with
  | some r =>
    exact run_float_arith w op t k x y r h
  | none =>
    unfold floatBits at h
    rcases ho with rfl | rfl | rfl | rfl <;> simp only at h <;> simp [binOp, Op.floatArith, h, Question.forced] <;> rfl
theorem fv_same (op : BinOp) (k : FloatKind) (x y : Nat) (w : World) : FR k (fv op k x y w) (fop op k x y) := by
  unfold fv fop
  cases h : floatBits op k x y with
  | some r =>
    refine ⟨.inl rfl, ?_⟩
    have := floatBits_wf h
    cases k <;> simpa [Lit.wf, flim] using this
  | none => exact ⟨.inr ⟨cut_nan _ _ _ _, fnan_qn k⟩, cut_nan_lt _ _ _ _⟩
theorem wv_same (b : Nat) (w : World) : FR .f64 (wv b w) (widen b) := by
  unfold wv
  by_cases hn : fnan .f32 b = true
  · rw [if_pos hn]
    obtain ⟨s, t, e⟩ := fnan_read hn
    refine ⟨.inr ⟨cut_nanConv _ _ _, ?_⟩, cut_nanConv_lt _ _ _⟩
    have e' : Ieee.single.read b = .nan s t := e
    unfold widen; rw [e']; exact fnan_qn .f64
  · rw [if_neg hn]
    refine ⟨.inl rfl, ?_⟩
    unfold widen
    split
    · decide
    · exact Ieee.Format.write_lt _ _
theorem wv_both {a b : Nat} {v w : World} (h : FS .f32 a b) : FS .f64 (wv a v) (wv b w) := by
  have h1 := (wv_same a v).same
  rw [widen_same h] at h1
  exact h1.trans (wv_same b w).same.symm
end Go

/- Lists of floats: laws.toFloat32S copies, laws.eqFloat32S holds them against each other. -/
namespace Go.Proofs.Ytjebkagbknmdoaa
open Go.RowKit
theorem run_store_float (P : Program) (w : World) (a : Addr) (m : Mode) (k : FloatKind) (b : Nat) : (store a (.float k b) m).run P w = stored P w a (.float k b) m := run_store P w a _ m rfl
attribute [local go_sem] run_store_float
theorem Try.cellsF32 : Try.prog.cellsOf 62 = 1 := by kernel_rfl
theorem Try.infoF32 : (Try.prog.info? 62).map (fun i => (i.zero, i.size, i.bytes)) = some (some (.float .f32 0), 1, 4) := by kernel_rfl

theorem toFl_any (A : Option Addr) (n c : Nat) (x : Nat → Nat) (w : World) (hn : n ≤ 1048576) (hs : SL w A n (fun j => .float .f32 (x j))) :
    Calls Try.prog 44 #[.slice A n c] w fun e w' => ∃ g, e = .returned (.slice (some ⟨g, 0, none⟩) n n) ∧ w.heap.size ≤ g ∧ Below w.heap.size w w' ∧ SL w' (some ⟨g, 0, none⟩) n (fun j => .float .f32 (x j)) := by
  obtain ⟨i0, hi, hz0, hz1, hz2⟩ := info_parts Try.infoF32
  have hmax : n ≤ maxLen := by unfold maxLen; omega
  have hcell : ∀ k, k < n → ∃ b off, A = some ⟨b, off, none⟩ ∧ b < w.heap.size ∧ w.cell? ⟨b, off + k, none⟩ = some (.float .f32 (x k)) := by
    intro k hk
    obtain ⟨b, off, h1, h2, h3⟩ := hs.at_ (by omega)
    exact ⟨b, off, h1, h2, h3 k hk⟩
  have HC := hide hcell
  clear hcell hs
  go_enter Try.func44, Try.ntmps44
  go_wp2_with (at_make; refine wpList_make_full _ rfl _ _ 45 rfl w.heap.size 62 i0 (.float .f32 0) 1 Try.underlying45 hi hz0 hz1 _ _ _ _ n rfl rfl rfl rfl (by rw [hz2]; omega) hmax (Nat.le_refl _) ?_; intro w1 hown hgrow)
  have hbel : Below w.heap.size w w1 := (Below.refl _ _).grown hgrow (Nat.le_refl _) (fun k h => by cases h)
  go_loopw [4] (fun i wr => ∃ (k : Nat) (xs : List Value), k ≤ n ∧ i = .int .i64 k ∧ wr.ownsRow w.heap.size 62 1 (.slice (some ⟨w.heap.size, 0, none⟩) n n) n xs ∧ Hid (∀ j, j < k → xs[j]? = some (.float .f32 (x j))) ∧ Below w.heap.size w wr) (fun i _ => n - (intOf i).toNat)
  case atStart => exact ⟨0, _, Nat.zero_le _, rfl, hown, fun j hj => absurd hj (by omega), hbel⟩
  case round =>
    obtain ⟨k, xs, hk, rfl, hown, hxs, hbel⟩ := hrel
    by_cases hlt : k < n
    · obtain ⟨b, off, rfl, hb, hc⟩ := HC.out k hlt
      have hc2 : wr.cell? ⟨b, off + k, none⟩ = some (.float .f32 (x k)) := (hbel.cell (p := ⟨b, off + k, none⟩) hb).trans hc
      have hlen : xs.length = n := by have := hown.1; omega
      obtain ⟨u, hu⟩ : ∃ u, xs[k]? = some u := ⟨xs[k]'(by omega), List.getElem?_eq_getElem _⟩
      have hold : wr.cell? ⟨w.heap.size, k, none⟩ = some u := (hown.cellAt k (by omega)).trans hu
      have hfr := hown.frozenAt k
      have hst := hown.stored k (.float .f32 (x k))
      have HO := hide hst
      have HX := hide hlen
      clear hst hc hu hlen
      go_wp2
      go_roundw
      case rel =>
        refine ⟨k + 1, xs.set k (.float .f32 (x k)), by omega, by go_num, HO.out.1, ?_, hbel.trans ((Below.refl _ _).grown HO.out.2 (by have := hbel.size; omega) (fun j hj => by injection hj with hj; omega))⟩
        intro j hj
        by_cases hjk : j = k
        · subst hjk
          rw [List.getElem?_set_self (by rw [HX.out]; omega)]
        · rw [List.getElem?_set_ne (by omega)]
          exact hxs.out j (by omega)
      case measure => simp [intOf]; omega
    · go_wp2
      go_ret
      obtain rfl : k = n := by omega
      refine ⟨w.heap.size, rfl, Nat.le_refl _, hbel, ?_⟩
      by_cases h0 : k = 0
      · exact .inl h0
      · refine .inr ⟨w.heap.size, 0, rfl, ?_, fun j hj => ?_⟩
        · have := hown.cellAt 0 (by omega)
          rw [hxs.out 0 (by omega)] at this
          unfold World.cell? at this
          split at this
          · rename_i h; exact (Array.getElem?_eq_some_iff.1 h).1
          · cases this
        · rw [Nat.zero_add]
          exact (hown.cellAt j (by omega)).trans (hxs.out j hj)

set_option maxHeartbeats 4000000 in
theorem eqFl_any (A A' : Option Addr) (n c c' : Nat) (x y : Nat → Nat) (w : World) (hn : n ≤ maxLen) (hs : SL w A n (fun j => .float .f32 (x j))) (hs' : SL w A' n (fun j => .float .f32 (y j))) (hxy : ∀ j, j < n → FS .f32 (x j) (y j)) :
    Calls Try.prog 40 #[.slice A n c, .slice A' n c'] w fun e w' => e = .returned (.bool true) ∧ ∃ n, w' = w.drewN n := by
  unfold maxLen at hn
  have hcell : ∀ k, k < n → ∃ b off b' off', A = some ⟨b, off, none⟩ ∧ A' = some ⟨b', off', none⟩ ∧ w.cell? ⟨b, off + k, none⟩ = some (.float .f32 (x k)) ∧ w.cell? ⟨b', off' + k, none⟩ = some (.float .f32 (y k)) := by
    intro k hk
    obtain ⟨b, off, h1, h2, h3⟩ := hs.at_ (by omega)
    obtain ⟨b', off', h1', h2', h3'⟩ := hs'.at_ (by omega)
    exact ⟨b, off, b', off', h1, h1', h3 k hk, h3' k hk⟩
  have HC := hide hcell
  have HXY := hide hxy
  clear hcell hs hs' hxy
  have hwd := fun (w : World) (b : Nat) => run_widen_eq (P := Try.prog) w 62 67 b (by rw [Try.underlying62]; rfl) Try.underlying67
  go_enter Try.func40, Try.ntmps40
  go_wp2
  go_loopw [5] (fun i wr => ∃ k q : Nat, k ≤ n ∧ i = .int .i64 k ∧ wr = w.drewN q) (fun i _ => n - (intOf i).toNat)
  case atStart => exact ⟨0, 0, Nat.zero_le _, rfl, rfl⟩
  case round =>
    obtain ⟨k, q, hk, rfl, rfl⟩ := hrel
    by_cases hlt : k < n
    · obtain ⟨b, off, b', off', rfl, rfl, hc, hc'⟩ := HC.out k hlt
      go_wp2_with fail
      go_region_with (go_at_call 46; refine (sameFloat_any _ _ _ (wv_both (HXY.out k hlt))).mono ?_; rintro e w' ⟨rfl, q2, rfl⟩)
      all_goals
        go_wp2
        go_roundw
        case rel => exact ⟨k + 1, _, by omega, by go_num, rfl⟩
        case measure => simp [intOf]; omega
    · go_wp2
      go_ret
      exact ⟨rfl, _, rfl⟩
end Go.Proofs.Ytjebkagbknmdoaa

/- Two rows of the call's own that grow side by side. -/
namespace Go
open Go.RowKit
def Apart (A B : Option Nat) : Prop := A = none ∨ B = none ∨ A ≠ B
theorem Apart.symm {A B : Option Nat} (h : Apart A B) : Apart B A := by
  rcases h with h | h | h
  · exact .inr (.inl h)
  · exact .inl h
  · exact .inr (.inr fun e => h e.symm)
theorem Apart.ne {A B : Option Nat} (h : Apart A B) : A = none ∨ A ≠ B := by
  rcases h with h | h | h
  · exact .inl h
  · rcases A with _ | a
    · exact .inl rfl
    · exact .inr (by rw [h]; simp)
  · exact .inr h
theorem Apart.step {A A' B : Option Nat} {s : Nat} (h : Apart A B) (hB : ∀ k, B = some k → k < s) (hat : A' = A ∨ A' = some s) : Apart A' B := by
  rcases hat with rfl | rfl
  · exact h
  · rcases B with _ | b
    · exact .inr (.inl rfl)
    · exact .inr (.inr fun e => by injection e with e; have := hB b rfl; omega)
theorem apart_of_slices {w : World} {B e e' n n' : Nat} {v v' : Value} {xs xs' : List Value} (hv : w.ownsRow B e 1 v n xs) (hv' : w.ownsRow B e' 1 v' n' xs') {G G' : Option Addr} {d d' : Nat} (h1 : v = .slice G n d) (h2 : v' = .slice G' n' d') (ha : Apart v.ownBlock v'.ownBlock) :
    ∀ g g', G = some ⟨g, 0, none⟩ → G' = some ⟨g', 0, none⟩ → g ≠ g' := by
  intro g g' e1 e2 he
  subst h1 h2 e1 e2 he
  rcases ha with ha | ha | ha
  · cases ha
  · cases ha
  · exact ha rfl
end Go

/- Lists of numbers that a call makes: one list, if all is well; none if not. -/
namespace Go.Proofs.Ytjebkagbknmdoaa
open Go.RowKit Go.Dues
theorem Try.cells64 : Try.prog.cellsOf 2 = 1 := by kernel_rfl
theorem Try.info64 : (Try.prog.info? 2).map (fun i => (i.zero, i.size, i.bytes)) = some (some (.int .i64 0), 1, 8) := by kernel_rfl
theorem bel_q {B : Nat} {a w : World} (h : Below B a w) (n : Nat) : Below B a (w.drewN n) := ⟨h.os, h.tape, h.output, h.size, h.block⟩
theorem own_step {F : Nat → Value} {xs : List Value} {k : Nat} {u : Value} (hl : xs.length = k) (h : ∀ j, j < k → xs[j]? = some (F j)) (hu : u = F k) : ∀ j, j < k + 1 → (xs ++ [u])[j]? = some (F j) := by
  intro j hj
  by_cases hjk : j = k
  · subst hjk
    rw [List.getElem?_append_right (by omega), hl, Nat.sub_self, hu]
    rfl
  · rw [List.getElem?_append_left (by omega)]
    exact h j (by omega)
theorem ret_slice {G : Option Addr} {p : Prop} {k n d : Nat} (h : p) (hk : k = n) : Ending.returned (.tuple #[.slice G k d, .bool true]) = .returned (.tuple #[.slice G (lenV p n) d, .bool (tru p)]) := by rw [lenV_yes h, tru_yes h, hk]
theorem ret_slice0 {p : Prop} {n : Nat} (h : ¬ p) : Ending.returned (.tuple #[.slice none 0 0, .bool false]) = .returned (.tuple #[.slice none (lenV p n) 0, .bool (tru p)]) := by rw [lenV_no h, tru_no h]
/-- one list of n numbers that the call made, if p holds; none if not -/
def Gave1 (w w' : World) (e : Ending) (p : Prop) (n : Nat) (z : Nat → Int) : Prop :=
  ∃ G d, e = .returned (.tuple #[.slice G (lenV p n) d, .bool (tru p)]) ∧ OW w' w.heap.size w'.heap.size G (lenV p n) (fun j => .int .i64 (z j)) ∧ Below w.heap.size w w'
theorem gave1_no {w w' : World} {p : Prop} {n : Nat} {z : Nat → Int} (h : ¬ p) (hb : Below w.heap.size w w') : Gave1 w w' (.returned (.tuple #[.slice none 0 0, .bool false])) p n z :=
  ⟨none, 0, ret_slice0 h, .inl (lenV_no h), hb⟩
theorem gave1_yes {w w' : World} {p : Prop} {k n d : Nat} {z : Nat → Int} {G : Option Addr} (h : p) (hk : k = n) (ho : OW w' w.heap.size w'.heap.size G k (fun j => .int .i64 (z j))) (hb : Below w.heap.size w w') : Gave1 w w' (.returned (.tuple #[.slice G k d, .bool true])) p n z :=
  ⟨G, d, ret_slice h hk, by rw [lenV_yes h, ← hk]; exact ho, hb⟩
theorem len_le1 {p : Prop} {n M : Nat} (h : n ≤ M) (hM : M ≤ 1048576) : lenV p n ≤ 1048576 := Nat.le_trans (lenV_le _ _) (Nat.le_trans h hM)
end Go.Proofs.Ytjebkagbknmdoaa

/- Life tables, by both. -/
namespace Go.Proofs.Ytjebkagbknmdoaa
open Go.RowKit Go.Dues
/-- the order of two 32-bit words -/
def od (x y : Nat) : Option Ordering := FloatKind.f32.format.order x y
def geB (x y : Nat) : Bool := od x y == some .gt || od x y == some .eq
def leB (x y : Nat) : Bool := od x y == some .lt || od x y == some .eq
def eqB (x y : Nat) : Bool := od x y == some .eq
def shB (x : Nat) : Bool := geB x 0 && leB x 1065353216
def ltP (x : Nat → Nat) (n : Nat) : Prop := (1 ≤ n ∧ n ≤ 120) ∧ (∀ j, j < n → shB (x j) = true) ∧ eqB (x (n - 1)) 1065353216 = true
theorem cells_f {A : Option Addr} {n : Nat} {f : Nat → Value} {w : World} (hs : SL w A n f) : Hid (∀ k, k < n → ∃ b off, A = some ⟨b, off, none⟩ ∧ b < w.heap.size ∧ w.cell? ⟨b, off + k, none⟩ = some (f k)) := by
  intro k hk
  obtain ⟨b, off, h1, h2, h3⟩ := hs.at_ (by omega)
  exact ⟨b, off, h1, h2, h3 k hk⟩
theorem specShare_any (x : Nat) (w : World) : Calls Try.prog 101 #[.float .f32 x] w fun e w' => e = .returned (.bool (shB x)) ∧ w = w' := by
  cases h1 : geB x 0
  · have HB := hide (show shB x = false by unfold shB; rw [h1]; rfl)
    have h1' : (FloatKind.f32.format.order x 0 == some .gt || FloatKind.f32.format.order x 0 == some .eq) = false := h1
    clear h1
    go_enter Try.func101, Try.ntmps101
    go_wp2
    go_ret
    exact ⟨retBa HB.out.symm, rfl⟩
  · have HB := hide (show shB x = leB x 1065353216 by unfold shB; rw [h1]; rfl)
    have h1' : (FloatKind.f32.format.order x 0 == some .gt || FloatKind.f32.format.order x 0 == some .eq) = true := h1
    clear h1
    go_enter Try.func101, Try.ntmps101
    go_wp2
    go_ret
    exact ⟨retBa HB.out.symm, rfl⟩
theorem implShare_any (x : Nat) (w : World) : Calls Try.prog 105 #[.float .f32 x] w fun e w' => e = .returned (.bool (shB x)) ∧ w = w' := by
  cases h1 : geB x 0
  · have HB := hide (show shB x = false by unfold shB; rw [h1]; rfl)
    have h1' : (FloatKind.f32.format.order x 0 == some .gt || FloatKind.f32.format.order x 0 == some .eq) = false := h1
    clear h1
    go_enter Try.func105, Try.ntmps105
    go_wp2
    go_ret
    exact ⟨retBa HB.out.symm, rfl⟩
  · have HB := hide (show shB x = leB x 1065353216 by unfold shB; rw [h1]; rfl)
    have h1' : (FloatKind.f32.format.order x 0 == some .gt || FloatKind.f32.format.order x 0 == some .eq) = true := h1
    clear h1
    go_enter Try.func105, Try.ntmps105
    go_wp2
    go_ret
    exact ⟨retBa HB.out.symm, rfl⟩
end Go.Proofs.Ytjebkagbknmdoaa

/- SumNumbers and DotNumbers, and their laws. -/
namespace Go.Proofs.Ytjebkagbknmdoaa
open Go.RowKit

/-- the sum of the first k numbers, from left to right -/
def fsum (x : Nat → Nat) : Nat → Nat
  | 0 => 0
  | k + 1 => fop .add .f32 (fsum x k) (x k)
theorem fsum_step {x : Nat → Nat} {k r r' : Nat} (h : FS .f32 r (fsum x k)) (h' : FR .f32 r' (fop .add .f32 r (x k))) : FS .f32 r' (fsum x (k + 1)) := by
  refine h'.same.trans (.inl ?_)
  show _ = fop .add .f32 (fsum x k) (x k)
  exact fop_same h (FS.refl _ _)

theorem cells_of {A : Option Addr} {n : Nat} {f : Nat → Value} {w : World} (hs : SL w A n f) : Hid (∀ k, k < n → ∃ b off, A = some ⟨b, off, none⟩ ∧ b < w.heap.size ∧ w.cell? ⟨b, off + k, none⟩ = some (f k)) := by
  intro k hk
  obtain ⟨b, off, h1, h2, h3⟩ := hs.at_ (by omega)
  exact ⟨b, off, h1, h2, h3 k hk⟩

theorem implSum_any (A : Option Addr) (n c : Nat) (x : Nat → Nat) (w : World) (hn : n ≤ 256) (hs : SL w A n (fun j => .float .f32 (x j))) :
    Calls Try.prog 221 #[.slice A n c] w fun e w' => ∃ r, e = .returned (.tuple #[.float .f32 r, .bool true]) ∧ FS .f32 r (fsum x n) ∧ ∃ q, w' = w.drewN q := by
  have HC := cells_of hs
  clear hs
  go_enter Try.func221, Try.ntmps221
  go_wp2
  go_loopw [4, 6, 12] (fun v _ i wr => ∃ k q r : Nat, k ≤ n ∧ i = .int .i64 k ∧ v = .float .f32 r ∧ FS .f32 r (fsum x k) ∧ wr = w.drewN q) (fun _ _ i _ => n - (intOf i).toNat)
  case atStart => exact ⟨0, 0, 0, Nat.zero_le _, rfl, rfl, .inl rfl, rfl⟩
  case round =>
    obtain ⟨k, q, r, hk, rfl, rfl, hr, rfl⟩ := hrel
    by_cases hlt : k < n
    · obtain ⟨b, off, rfl, hb, hc⟩ := HC.out k hlt
      go_wp2_with (refine wpList_far _ rfl _ _ _ _ _ rfl (by decide) _ _ _ rfl rfl ?_; intro r2 q2 hr2)
      go_roundw
      case rel => exact ⟨k + 1, _, _, by omega, by go_num, rfl, fsum_step hr (by assumption), rfl⟩
      case measure => simp [intOf]; omega
    · go_wp2
      go_ret2
      obtain rfl : k = n := by omega
      exact ⟨r, rfl, hr, _, rfl⟩
theorem implSum_no (A : Option Addr) (n c : Nat) (w : World) (hn : 256 < n) :
    Calls Try.prog 221 #[.slice A n c] w fun e w' => e = .returned (.tuple #[.float .f32 0, .bool false]) ∧ w = w' := by
  go_enter Try.func221, Try.ntmps221
  go_wp2
  go_ret2
  exact ⟨rfl, rfl⟩
/-! ### DotNumbers -/
def fdot (x y : Nat → Nat) : Nat → Nat
  | 0 => 0
  | k + 1 => fop .add .f32 (fdot x y k) (fop .mul .f32 (x k) (y k))
theorem fdot_step {x y : Nat → Nat} {k r m r' : Nat} (h : FS .f32 r (fdot x y k)) (hm : FR .f32 m (fop .mul .f32 (x k) (y k))) (h' : FR .f32 r' (fop .add .f32 r m)) : FS .f32 r' (fdot x y (k + 1)) := by
  refine h'.same.trans (.inl ?_)
  show _ = fop .add .f32 (fdot x y k) (fop .mul .f32 (x k) (y k))
  exact fop_same h hm.same

theorem cells_both {A A' : Option Addr} {n : Nat} {f f' : Nat → Value} {w : World} (hs : SL w A n f) (hs' : SL w A' n f') :
    Hid (∀ k, k < n → ∃ b off b' off', A = some ⟨b, off, none⟩ ∧ A' = some ⟨b', off', none⟩ ∧ w.cell? ⟨b, off + k, none⟩ = some (f k) ∧ w.cell? ⟨b', off' + k, none⟩ = some (f' k)) := by
  intro k hk
  obtain ⟨b, off, h1, h2, h3⟩ := hs.at_ (by omega)
  obtain ⟨b', off', h1', h2', h3'⟩ := hs'.at_ (by omega)
  exact ⟨b, off, b', off', h1, h1', h3 k hk, h3' k hk⟩

theorem implDot_yes (A A' : Option Addr) (n c c' : Nat) (x y : Nat → Nat) (w : World) (hn : n ≤ 256) (hs : SL w A n (fun j => .float .f32 (x j))) (hs' : SL w A' n (fun j => .float .f32 (y j))) :
    Calls Try.prog 90 #[.slice A n c, .slice A' n c'] w fun e w' => ∃ r, e = .returned (.tuple #[.float .f32 r, .bool true]) ∧ FS .f32 r (fdot x y n) ∧ ∃ q, w' = w.drewN q := by
  have HC := cells_both hs hs'
  clear hs hs'
  go_enter Try.func90, Try.ntmps90
  go_wp2
  go_loopw [6, 7, 8, 21] (fun v _ _ i wr => ∃ k q r : Nat, k ≤ n ∧ i = .int .i64 k ∧ v = .float .f32 r ∧ FS .f32 r (fdot x y k) ∧ wr = w.drewN q) (fun _ _ _ i _ => n - (intOf i).toNat)
  case atStart => exact ⟨0, 0, 0, Nat.zero_le _, rfl, rfl, .inl rfl, rfl⟩
  case round =>
    obtain ⟨k, q, r, hk, rfl, rfl, hr, rfl⟩ := hrel
    by_cases hlt : k < n
    · obtain ⟨b, off, b', off', rfl, rfl, hc, hc'⟩ := HC.out k hlt
      go_wp2_with (refine wpList_far _ rfl _ _ _ _ _ rfl (by decide) _ _ _ rfl rfl ?_; intro _ _ _)
      go_roundw
      case rel => exact ⟨k + 1, _, _, by omega, by go_num, rfl, fdot_step hr (by assumption) (by assumption), rfl⟩
      case measure => simp [intOf]; omega
    · go_wp2
      go_ret2
      obtain rfl : k = n := by omega
      exact ⟨r, rfl, hr, _, rfl⟩
theorem implDot_no (A A' : Option Addr) (n n' c c' : Nat) (w : World) (hn : ¬ n = n' ∨ 256 < n) :
    Calls Try.prog 90 #[.slice A n c, .slice A' n' c'] w fun e w' => e = .returned (.tuple #[.float .f32 0, .bool false]) ∧ w = w' := by
  by_cases h : n = n'
  · subst h
    have h2 : (n : Int) > 256 := by omega
    clear hn
    go_enter Try.func90, Try.ntmps90
    go_wp2
    go_ret2
    exact ⟨rfl, rfl⟩
  · have h1 : ((n : Int) != (n' : Int)) = true := by simp; omega
    have h2 : ((n : Int) == (n' : Int)) = false := by simp; omega
    clear hn
    go_enter Try.func90, Try.ntmps90
    go_wp2
    go_ret2
    exact ⟨rfl, rfl⟩
end Go.Proofs.Ytjebkagbknmdoaa

/- Bools of 32-bit numbers, and lists of which all are as told, by both. -/
namespace Go.Proofs.Ytjebkagbknmdoaa
open Go.RowKit Go.Dues
def gtB (x y : Nat) : Bool := od x y == some .gt
def hdB (x : Nat) : Bool := ffin .f32 x && geB x 0
def abB (x : Nat) : Bool := ffin .f32 x && gtB x 0
def rtB (x : Nat) : Bool := ffin .f32 x && gtB x 3212836864
theorem od_same {x x' y : Nat} (h : FS .f32 x x') : od x y = od x' y := order_same h (FS.refl _ _)
theorem hdB_same {x y : Nat} (h : FS .f32 x y) : hdB x = hdB y := by unfold hdB geB; rw [ffin_same h, od_same h]
theorem abB_same {x y : Nat} (h : FS .f32 x y) : abB x = abB y := by unfold abB gtB; rw [ffin_same h, od_same h]
theorem rtB_same {x y : Nat} (h : FS .f32 x y) : rtB x = rtB y := by unfold rtB gtB; rw [ffin_same h, od_same h]
theorem shB_same {x y : Nat} (h : FS .f32 x y) : shB x = shB y := by unfold shB geB leB; rw [od_same h, od_same h]
/-- from least to most numbers that are all as told -/
def allB (B : Nat → Bool) (x : Nat → Nat) (n : Nat) (least most : Int) : Prop := (least ≤ n ∧ n ≤ most) ∧ ∀ j, j < n → B (x j) = true
theorem spec7Fin_any (x : Nat) (w : World) :
    Calls Try.prog 128 #[.float .f32 x] w fun e w' => e = .returned (.bool (ffin .f32 x)) ∧ ∃ n, w' = w.drewN n := by
  go_enter Try.func128, Try.ntmps128
  go_wp2_with (refine wpList_far _ rfl _ _ _ _ _ rfl (by decide) _ _ _ rfl rfl ?_; intro _ _ _)
  go_ret
  exact ⟨by rw [← sub_self_eq0 .f32 x (FR.same (by assumption))]; rfl, _, rfl⟩
theorem specLeast_any (x : Nat) (w : World) : Calls Try.prog 160 #[.float .f32 x] w fun e w' => e = .returned (.bool (hdB x)) ∧ ∃ q, w' = w.drewN q := by
  cases h1 : ffin .f32 x
  · have HB := hide (show hdB x = false by unfold hdB; rw [h1]; rfl)
    go_enter Try.func160, Try.ntmps160
    go_wp2_with fail
    refine (spec7Fin_any _ _).mono ?_
    rw [h1]
    rintro e w' ⟨rfl, q, rfl⟩
    go_wp2
    go_ret
    exact ⟨retBa HB.out.symm, q, rfl⟩
  · have HB := hide (show hdB x = geB x 0 by unfold hdB; rw [h1]; rfl)
    go_enter Try.func160, Try.ntmps160
    go_wp2_with fail
    refine (spec7Fin_any _ _).mono ?_
    rw [h1]
    rintro e w' ⟨rfl, q, rfl⟩
    go_wp2
    go_ret
    exact ⟨retBa HB.out.symm, q, rfl⟩
theorem specAbove_any (x : Nat) (w : World) : Calls Try.prog 127 #[.float .f32 x] w fun e w' => e = .returned (.bool (abB x)) ∧ ∃ q, w' = w.drewN q := by
  cases h1 : ffin .f32 x
  · have HB := hide (show abB x = false by unfold abB; rw [h1]; rfl)
    go_enter Try.func127, Try.ntmps127
    go_wp2_with fail
    refine (spec7Fin_any _ _).mono ?_
    rw [h1]
    rintro e w' ⟨rfl, q, rfl⟩
    go_wp2
    go_ret
    exact ⟨retBa HB.out.symm, q, rfl⟩
  · have HB := hide (show abB x = gtB x 0 by unfold abB; rw [h1]; rfl)
    go_enter Try.func127, Try.ntmps127
    go_wp2_with fail
    refine (spec7Fin_any _ _).mono ?_
    rw [h1]
    rintro e w' ⟨rfl, q, rfl⟩
    go_wp2
    go_ret
    exact ⟨retBa HB.out.symm, q, rfl⟩
theorem implHeads_any (x : Nat) (w : World) : Calls Try.prog 161 #[.float .f32 x] w fun e w' => e = .returned (.bool (hdB x)) ∧ ∃ q, w' = w.drewN q := by
  cases h1 : ffin .f32 x
  · have HB := hide (show hdB x = false by unfold hdB; rw [h1]; rfl)
    go_enter Try.func161, Try.ntmps161
    go_wp2_with fail
    refine (implIsFinite_any _ _).mono ?_
    rw [h1]
    rintro e w' ⟨rfl, q, rfl⟩
    go_wp2
    go_ret
    exact ⟨retBa HB.out.symm, q, rfl⟩
  · have HB := hide (show hdB x = geB x 0 by unfold hdB; rw [h1]; rfl)
    go_enter Try.func161, Try.ntmps161
    go_wp2_with fail
    refine (implIsFinite_any _ _).mono ?_
    rw [h1]
    rintro e w' ⟨rfl, q, rfl⟩
    go_wp2
    go_ret
    exact ⟨retBa HB.out.symm, q, rfl⟩
theorem implAbove_any (x : Nat) (w : World) : Calls Try.prog 145 #[.float .f32 x] w fun e w' => e = .returned (.bool (abB x)) ∧ ∃ q, w' = w.drewN q := by
  cases h1 : ffin .f32 x
  · have HB := hide (show abB x = false by unfold abB; rw [h1]; rfl)
    go_enter Try.func145, Try.ntmps145
    go_wp2_with fail
    refine (implIsFinite_any _ _).mono ?_
    rw [h1]
    rintro e w' ⟨rfl, q, rfl⟩
    go_wp2
    go_ret
    exact ⟨retBa HB.out.symm, q, rfl⟩
  · have HB := hide (show abB x = gtB x 0 by unfold abB; rw [h1]; rfl)
    go_enter Try.func145, Try.ntmps145
    go_wp2_with fail
    refine (implIsFinite_any _ _).mono ?_
    rw [h1]
    rintro e w' ⟨rfl, q, rfl⟩
    go_wp2
    go_ret
    exact ⟨retBa HB.out.symm, q, rfl⟩
theorem implRet_any (x : Nat) (w : World) : Calls Try.prog 213 #[.float .f32 x] w fun e w' => e = .returned (.bool (rtB x)) ∧ ∃ q, w' = w.drewN q := by
  cases h1 : ffin .f32 x
  · have HB := hide (show rtB x = false by unfold rtB; rw [h1]; rfl)
    go_enter Try.func213, Try.ntmps213
    go_wp2_with fail
    refine (implIsFinite_any _ _).mono ?_
    rw [h1]
    rintro e w' ⟨rfl, q, rfl⟩
    go_wp2
    go_ret
    exact ⟨retBa HB.out.symm, q, rfl⟩
  · have HB := hide (show rtB x = gtB x 3212836864 by unfold rtB; rw [h1]; rfl)
    go_enter Try.func213, Try.ntmps213
    go_wp2_with fail
    refine (implIsFinite_any _ _).mono ?_
    rw [h1]
    rintro e w' ⟨rfl, q, rfl⟩
    go_wp2
    go_ret
    exact ⟨retBa HB.out.symm, q, rfl⟩
theorem implShare7_any (x : Nat) (w : World) : Calls Try.prog 105 #[.float .f32 x] w fun e w' => e = .returned (.bool (shB x)) ∧ ∃ q, w' = w.drewN q :=
  (implShare_any x w).mono fun _ _ ⟨h1, h2⟩ => ⟨h1, 0, h2.symm⟩
set_option maxHeartbeats 4000000 in
theorem specFinL_any (A : Option Addr) (n c : Nat) (x : Nat → Nat) (w : World) (hn : n ≤ maxLen) (hs : SL w A n (fun j => .float .f32 (x j))) :
    Calls Try.prog 94 #[.slice A n c] w fun e w' => e = .returned (.bool (tru (∀ j, j < n → ffin .f32 (x j) = true))) ∧ ∃ q, w' = w.drewN q := by
  unfold maxLen at hn
  have HC := cells_f hs
  clear hs
  go_enter Try.func94, Try.ntmps94
  go_wp2
  go_loopw [3] (fun i wr => ∃ k q : Nat, k ≤ n ∧ i = .int .i64 k ∧ Hid (∀ j, j < k → ffin .f32 (x j) = true) ∧ wr = w.drewN q) (fun i _ => n - (intOf i).toNat)
  case atStart => exact ⟨0, 0, Nat.zero_le _, rfl, fun j hj => absurd hj (by omega), rfl⟩
  case round =>
    obtain ⟨k, q, hk, rfl, hg, rfl⟩ := hrel
    by_cases hlt : k < n
    · obtain ⟨b1, off, rfl, hb1, hxk⟩ := HC.out k hlt
      cases hp : ffin .f32 (x k)
      · have HT := hide (tru_no (show ¬ (∀ j, j < n → ffin .f32 (x j) = true) from fun h => by rw [h k hlt] at hp; cases hp))
        go_wp2_with fail
        refine (spec7Fin_any _ _).mono ?_
        rw [hp]
        rintro e w' ⟨rfl, q2, rfl⟩
        go_wp2
        go_ret
        exact ⟨retBa HT.out.symm, _, rfl⟩
      · have HE := hide hp
        go_wp2_with fail
        refine (spec7Fin_any _ _).mono ?_
        rw [hp]
        rintro e w' ⟨rfl, q2, rfl⟩
        clear hp
        go_wp2
        go_roundw
        case rel => exact ⟨k + 1, _, by omega, by go_num, (by
          intro j hj
          by_cases hjk : j = k
          · subst hjk; exact HE.out
          · exact hg.out j (by omega)), rfl⟩
        case measure => simp [intOf]; omega
    · have HT := hide (tru_yes (show ∀ j, j < n → ffin .f32 (x j) = true from fun j hj => hg.out j (by omega)))
      go_wp2
      go_ret
      exact ⟨retBa HT.out.symm, _, rfl⟩
set_option maxHeartbeats 4000000 in
theorem specAboveL_any (A : Option Addr) (n c : Nat) (x : Nat → Nat) (w : World) (hn : n ≤ maxLen) (hs : SL w A n (fun j => .float .f32 (x j))) :
    Calls Try.prog 140 #[.slice A n c] w fun e w' => e = .returned (.bool (tru (∀ j, j < n → abB (x j) = true))) ∧ ∃ q, w' = w.drewN q := by
  unfold maxLen at hn
  have HC := cells_f hs
  clear hs
  go_enter Try.func140, Try.ntmps140
  go_wp2
  go_loopw [3, 6] (fun _ i wr => ∃ k q : Nat, k ≤ n ∧ i = .int .i64 k ∧ Hid (∀ j, j < k → abB (x j) = true) ∧ wr = w.drewN q) (fun _ i _ => n - (intOf i).toNat)
  case atStart => exact ⟨0, 0, Nat.zero_le _, rfl, fun j hj => absurd hj (by omega), rfl⟩
  case round =>
    obtain ⟨k, q, hk, rfl, hg, rfl⟩ := hrel
    by_cases hlt : k < n
    · obtain ⟨b1, off, rfl, hb1, hxk⟩ := HC.out k hlt
      cases hp : abB (x k)
      · have HT := hide (tru_no (show ¬ (∀ j, j < n → abB (x j) = true) from fun h => by rw [h k hlt] at hp; cases hp))
        go_wp2_with fail
        refine (specAbove_any _ _).mono ?_
        rw [hp]
        rintro e w' ⟨rfl, q2, rfl⟩
        go_wp2
        go_ret
        exact ⟨retBa HT.out.symm, _, rfl⟩
      · have HE := hide hp
        go_wp2_with fail
        refine (specAbove_any _ _).mono ?_
        rw [hp]
        rintro e w' ⟨rfl, q2, rfl⟩
        clear hp
        go_wp2
        go_roundw
        case rel => exact ⟨k + 1, _, by omega, by go_num, (by
          intro j hj
          by_cases hjk : j = k
          · subst hjk; exact HE.out
          · exact hg.out j (by omega)), rfl⟩
        case measure => simp [intOf]; omega
    · have HT := hide (tru_yes (show ∀ j, j < n → abB (x j) = true from fun j hj => hg.out j (by omega)))
      go_wp2
      go_ret
      exact ⟨retBa HT.out.symm, _, rfl⟩
set_option maxHeartbeats 2000000 in
theorem notR_Heads (v : Nat) (P : Nat) (w : World) (h : w.heap[P]? = some (.cells #[.func (Fn.func 161) #[] #[]] 126)) : Calls Try.prog 180 #[.float .f32 v, .pointer (some ⟨P, 0, none⟩)] w fun e w' => e = .returned (.bool (!(hdB v))) ∧ ∃ q, w' = w.drewN q := by
  have k0 := Joins.cell_of_block h 0
  simp at k0
  clear h
  go_enter Try.func180, Try.ntmps180
  go_wp2_with fail
  refine (implHeads_any _ _).mono ?_
  rintro e w' ⟨rfl, q, rfl⟩
  go_wp2
  go_ret
  exact ⟨rfl, _, rfl⟩
set_option maxHeartbeats 4000000 in
theorem indexR_Heads (A : Option Addr) (n c : Nat) (x : Nat → Nat) (P : Nat) (w : World) (hn : n ≤ maxLen) (hs : SL w A n (fun j => .float .f32 (x j))) (h : w.heap[P]? = some (.cells #[.func (Fn.func 161) #[] #[]] 126)) :
    Calls Try.prog 211 #[.slice A n c, .func (Fn.func 180) #[] #[.pointer (some ⟨P, 0, none⟩)]] w fun e w' => ∃ r : Int, e = .returned (.int .i64 r) ∧ ((0 ≤ r ∧ ∃ j, j < n ∧ ¬ hdB (x j) = true) ∨ (r = -1 ∧ ∀ j, j < n → hdB (x j) = true)) ∧ ∃ q, w' = w.drewN q := by
  unfold maxLen at hn
  have HC := cells_f hs
  have HP := hide h
  clear hs h
  go_enter Try.func211, Try.ntmps211
  go_wp2
  go_loopw [5, 8] (fun _ i wr => ∃ k q : Nat, k ≤ n ∧ i = .int .i64 k ∧ Hid (∀ j, j < k → hdB (x j) = true) ∧ wr = w.drewN q) (fun _ i _ => n - (intOf i).toNat)
  case atStart => exact ⟨0, 0, Nat.zero_le _, rfl, fun j hj => absurd hj (by omega), rfl⟩
  case round =>
    obtain ⟨k, q, hk, rfl, hg, rfl⟩ := hrel
    by_cases hlt : k < n
    · obtain ⟨b1, off, rfl, hb1, hxk⟩ := HC.out k hlt
      cases hp : hdB (x k)
      · have HE := hide (show ¬ hdB (x k) = true by rw [hp]; decide)
        go_wp2_with fail
        refine (notR_Heads _ _ _ (show (w.drewN q).heap[P]? = _ from HP.out)).mono ?_
        rw [hp]
        rintro e w' ⟨rfl, q2, rfl⟩
        go_wp2
        go_ret
        exact ⟨_, rfl, .inl ⟨by omega, k, hlt, HE.out⟩, _, rfl⟩
      · have HE := hide hp
        go_wp2_with fail
        refine (notR_Heads _ _ _ (show (w.drewN q).heap[P]? = _ from HP.out)).mono ?_
        rw [hp]
        rintro e w' ⟨rfl, q2, rfl⟩
        clear hp
        go_wp2
        go_roundw
        case rel => exact ⟨k + 1, _, by omega, by go_num, (by
          intro j hj
          by_cases hjk : j = k
          · subst hjk; exact HE.out
          · exact hg.out j (by omega)), rfl⟩
        case measure => simp [intOf]; omega
    · have HE := hide (show ∀ j, j < n → hdB (x j) = true from fun j hj => hg.out j (by omega))
      go_wp2
      go_ret
      exact ⟨_, rfl, .inr ⟨rfl, HE.out⟩, _, rfl⟩
set_option maxHeartbeats 4000000 in
theorem areReals_Heads (A : Option Addr) (n c : Nat) (x : Nat → Nat) (least most : Int) (w : World) (hn : n ≤ maxLen) (hs : SL w A n (fun j => .float .f32 (x j))) :
    Calls Try.prog 144 #[.slice A n c, .int .i64 least, .int .i64 most, .func (Fn.func 161) #[] #[]] w fun e w' => e = .returned (.bool (tru (allB (hdB) x n least most))) ∧ Below w.heap.size w w' := by
  obtain ⟨W, hW⟩ : ∃ u, u = w.alloc (.cells #[.func (Fn.func 161) #[] #[]] 126) := ⟨_, rfl⟩
  have HBW : Hid (Below w.heap.size w W) := by rw [hW]; exact (Below.refl w.heap.size w).alloc (Nat.le_refl _) _
  have HX : Hid (W.heap[w.heap.size]? = some (.cells #[.func (Fn.func 161) #[] #[]] 126)) := by rw [hW]; exact blocks1 w _
  have HI := hide (indexR_Heads A n c x w.heap.size W hn (hs.below HBW.out) HX.out)
  have HBE := hide (show Below w.heap.size w (w.alloc (.cells #[.func (Fn.func 161) #[] #[]] 126)) from (Below.refl w.heap.size w).alloc (Nat.le_refl _) _)
  have HWW := hide hW
  unfold maxLen at hn
  clear hs hW
  by_cases h1 : (n : Int) < least
  · have HT := hide (tru_no (show ¬ allB (hdB) x n least most from fun h => by have := h.1.1; omega))
    go_enter Try.func144, Try.ntmps144
    go_wp2
    go_ret
    exact ⟨retBa HT.out.symm, HBE.out⟩
  have h1d : decide ((n : Int) < least) = false := decide_eq_false h1
  by_cases h2 : most < (n : Int)
  · have HT := hide (tru_no (show ¬ allB (hdB) x n least most from fun h => by have := h.1.2; omega))
    go_enter Try.func144, Try.ntmps144
    go_wp2
    go_ret
    exact ⟨retBa HT.out.symm, HBE.out⟩
  have h2d : decide (most < (n : Int)) = false := decide_eq_false h2
  have HL := hide (show least ≤ (n : Int) ∧ (n : Int) ≤ most from ⟨by omega, by omega⟩)
  go_enter Try.func144, Try.ntmps144
  go_wp2_with (first | (go_at_call 211; fail) | (go_at_call 179; go_in))
  rw [← HWW.out]
  refine HI.out.mono ?_
  rintro e w1 ⟨r, rfl, hr, q, rfl⟩
  rcases hr with ⟨h0, j, hj, hbad⟩ | ⟨rfl, hall⟩
  · have HT := hide (tru_no (show ¬ allB (hdB) x n least most from fun h => hbad (h.2 j hj)))
    clear hbad
    go_wp2
    go_ret
    exact ⟨retBa HT.out.symm, bel_q HBW.out _⟩
  · have HT := hide (tru_yes (show allB (hdB) x n least most from ⟨HL.out, hall⟩))
    clear hall
    go_wp2
    go_ret
    exact ⟨retBa HT.out.symm, bel_q HBW.out _⟩
set_option maxHeartbeats 2000000 in
theorem notR_Share (v : Nat) (P : Nat) (w : World) (h : w.heap[P]? = some (.cells #[.func (Fn.func 105) #[] #[]] 126)) : Calls Try.prog 180 #[.float .f32 v, .pointer (some ⟨P, 0, none⟩)] w fun e w' => e = .returned (.bool (!(shB v))) ∧ ∃ q, w' = w.drewN q := by
  have k0 := Joins.cell_of_block h 0
  simp at k0
  clear h
  go_enter Try.func180, Try.ntmps180
  go_wp2_with fail
  refine (implShare7_any _ _).mono ?_
  rintro e w' ⟨rfl, q, rfl⟩
  go_wp2
  go_ret
  exact ⟨rfl, _, rfl⟩
set_option maxHeartbeats 4000000 in
theorem indexR_Share (A : Option Addr) (n c : Nat) (x : Nat → Nat) (P : Nat) (w : World) (hn : n ≤ maxLen) (hs : SL w A n (fun j => .float .f32 (x j))) (h : w.heap[P]? = some (.cells #[.func (Fn.func 105) #[] #[]] 126)) :
    Calls Try.prog 211 #[.slice A n c, .func (Fn.func 180) #[] #[.pointer (some ⟨P, 0, none⟩)]] w fun e w' => ∃ r : Int, e = .returned (.int .i64 r) ∧ ((0 ≤ r ∧ ∃ j, j < n ∧ ¬ shB (x j) = true) ∨ (r = -1 ∧ ∀ j, j < n → shB (x j) = true)) ∧ ∃ q, w' = w.drewN q := by
  unfold maxLen at hn
  have HC := cells_f hs
  have HP := hide h
  clear hs h
  go_enter Try.func211, Try.ntmps211
  go_wp2
  go_loopw [5, 8] (fun _ i wr => ∃ k q : Nat, k ≤ n ∧ i = .int .i64 k ∧ Hid (∀ j, j < k → shB (x j) = true) ∧ wr = w.drewN q) (fun _ i _ => n - (intOf i).toNat)
  case atStart => exact ⟨0, 0, Nat.zero_le _, rfl, fun j hj => absurd hj (by omega), rfl⟩
  case round =>
    obtain ⟨k, q, hk, rfl, hg, rfl⟩ := hrel
    by_cases hlt : k < n
    · obtain ⟨b1, off, rfl, hb1, hxk⟩ := HC.out k hlt
      cases hp : shB (x k)
      · have HE := hide (show ¬ shB (x k) = true by rw [hp]; decide)
        go_wp2_with fail
        refine (notR_Share _ _ _ (show (w.drewN q).heap[P]? = _ from HP.out)).mono ?_
        rw [hp]
        rintro e w' ⟨rfl, q2, rfl⟩
        go_wp2
        go_ret
        exact ⟨_, rfl, .inl ⟨by omega, k, hlt, HE.out⟩, _, rfl⟩
      · have HE := hide hp
        go_wp2_with fail
        refine (notR_Share _ _ _ (show (w.drewN q).heap[P]? = _ from HP.out)).mono ?_
        rw [hp]
        rintro e w' ⟨rfl, q2, rfl⟩
        clear hp
        go_wp2
        go_roundw
        case rel => exact ⟨k + 1, _, by omega, by go_num, (by
          intro j hj
          by_cases hjk : j = k
          · subst hjk; exact HE.out
          · exact hg.out j (by omega)), rfl⟩
        case measure => simp [intOf]; omega
    · have HE := hide (show ∀ j, j < n → shB (x j) = true from fun j hj => hg.out j (by omega))
      go_wp2
      go_ret
      exact ⟨_, rfl, .inr ⟨rfl, HE.out⟩, _, rfl⟩
set_option maxHeartbeats 4000000 in
theorem areReals_Share (A : Option Addr) (n c : Nat) (x : Nat → Nat) (least most : Int) (w : World) (hn : n ≤ maxLen) (hs : SL w A n (fun j => .float .f32 (x j))) :
    Calls Try.prog 144 #[.slice A n c, .int .i64 least, .int .i64 most, .func (Fn.func 105) #[] #[]] w fun e w' => e = .returned (.bool (tru (allB (shB) x n least most))) ∧ Below w.heap.size w w' := by
  obtain ⟨W, hW⟩ : ∃ u, u = w.alloc (.cells #[.func (Fn.func 105) #[] #[]] 126) := ⟨_, rfl⟩
  have HBW : Hid (Below w.heap.size w W) := by rw [hW]; exact (Below.refl w.heap.size w).alloc (Nat.le_refl _) _
  have HX : Hid (W.heap[w.heap.size]? = some (.cells #[.func (Fn.func 105) #[] #[]] 126)) := by rw [hW]; exact blocks1 w _
  have HI := hide (indexR_Share A n c x w.heap.size W hn (hs.below HBW.out) HX.out)
  have HBE := hide (show Below w.heap.size w (w.alloc (.cells #[.func (Fn.func 105) #[] #[]] 126)) from (Below.refl w.heap.size w).alloc (Nat.le_refl _) _)
  have HWW := hide hW
  unfold maxLen at hn
  clear hs hW
  by_cases h1 : (n : Int) < least
  · have HT := hide (tru_no (show ¬ allB (shB) x n least most from fun h => by have := h.1.1; omega))
    go_enter Try.func144, Try.ntmps144
    go_wp2
    go_ret
    exact ⟨retBa HT.out.symm, HBE.out⟩
  have h1d : decide ((n : Int) < least) = false := decide_eq_false h1
  by_cases h2 : most < (n : Int)
  · have HT := hide (tru_no (show ¬ allB (shB) x n least most from fun h => by have := h.1.2; omega))
    go_enter Try.func144, Try.ntmps144
    go_wp2
    go_ret
    exact ⟨retBa HT.out.symm, HBE.out⟩
  have h2d : decide (most < (n : Int)) = false := decide_eq_false h2
  have HL := hide (show least ≤ (n : Int) ∧ (n : Int) ≤ most from ⟨by omega, by omega⟩)
  go_enter Try.func144, Try.ntmps144
  go_wp2_with (first | (go_at_call 211; fail) | (go_at_call 179; go_in))
  rw [← HWW.out]
  refine HI.out.mono ?_
  rintro e w1 ⟨r, rfl, hr, q, rfl⟩
  rcases hr with ⟨h0, j, hj, hbad⟩ | ⟨rfl, hall⟩
  · have HT := hide (tru_no (show ¬ allB (shB) x n least most from fun h => hbad (h.2 j hj)))
    clear hbad
    go_wp2
    go_ret
    exact ⟨retBa HT.out.symm, bel_q HBW.out _⟩
  · have HT := hide (tru_yes (show allB (shB) x n least most from ⟨HL.out, hall⟩))
    clear hall
    go_wp2
    go_ret
    exact ⟨retBa HT.out.symm, bel_q HBW.out _⟩
set_option maxHeartbeats 2000000 in
theorem notR_Above (v : Nat) (P : Nat) (w : World) (h : w.heap[P]? = some (.cells #[.func (Fn.func 145) #[] #[]] 126)) : Calls Try.prog 180 #[.float .f32 v, .pointer (some ⟨P, 0, none⟩)] w fun e w' => e = .returned (.bool (!(abB v))) ∧ ∃ q, w' = w.drewN q := by
  have k0 := Joins.cell_of_block h 0
  simp at k0
  clear h
  go_enter Try.func180, Try.ntmps180
  go_wp2_with fail
  refine (implAbove_any _ _).mono ?_
  rintro e w' ⟨rfl, q, rfl⟩
  go_wp2
  go_ret
  exact ⟨rfl, _, rfl⟩
set_option maxHeartbeats 4000000 in
theorem indexR_Above (A : Option Addr) (n c : Nat) (x : Nat → Nat) (P : Nat) (w : World) (hn : n ≤ maxLen) (hs : SL w A n (fun j => .float .f32 (x j))) (h : w.heap[P]? = some (.cells #[.func (Fn.func 145) #[] #[]] 126)) :
    Calls Try.prog 211 #[.slice A n c, .func (Fn.func 180) #[] #[.pointer (some ⟨P, 0, none⟩)]] w fun e w' => ∃ r : Int, e = .returned (.int .i64 r) ∧ ((0 ≤ r ∧ ∃ j, j < n ∧ ¬ abB (x j) = true) ∨ (r = -1 ∧ ∀ j, j < n → abB (x j) = true)) ∧ ∃ q, w' = w.drewN q := by
  unfold maxLen at hn
  have HC := cells_f hs
  have HP := hide h
  clear hs h
  go_enter Try.func211, Try.ntmps211
  go_wp2
  go_loopw [5, 8] (fun _ i wr => ∃ k q : Nat, k ≤ n ∧ i = .int .i64 k ∧ Hid (∀ j, j < k → abB (x j) = true) ∧ wr = w.drewN q) (fun _ i _ => n - (intOf i).toNat)
  case atStart => exact ⟨0, 0, Nat.zero_le _, rfl, fun j hj => absurd hj (by omega), rfl⟩
  case round =>
    obtain ⟨k, q, hk, rfl, hg, rfl⟩ := hrel
    by_cases hlt : k < n
    · obtain ⟨b1, off, rfl, hb1, hxk⟩ := HC.out k hlt
      cases hp : abB (x k)
      · have HE := hide (show ¬ abB (x k) = true by rw [hp]; decide)
        go_wp2_with fail
        refine (notR_Above _ _ _ (show (w.drewN q).heap[P]? = _ from HP.out)).mono ?_
        rw [hp]
        rintro e w' ⟨rfl, q2, rfl⟩
        go_wp2
        go_ret
        exact ⟨_, rfl, .inl ⟨by omega, k, hlt, HE.out⟩, _, rfl⟩
      · have HE := hide hp
        go_wp2_with fail
        refine (notR_Above _ _ _ (show (w.drewN q).heap[P]? = _ from HP.out)).mono ?_
        rw [hp]
        rintro e w' ⟨rfl, q2, rfl⟩
        clear hp
        go_wp2
        go_roundw
        case rel => exact ⟨k + 1, _, by omega, by go_num, (by
          intro j hj
          by_cases hjk : j = k
          · subst hjk; exact HE.out
          · exact hg.out j (by omega)), rfl⟩
        case measure => simp [intOf]; omega
    · have HE := hide (show ∀ j, j < n → abB (x j) = true from fun j hj => hg.out j (by omega))
      go_wp2
      go_ret
      exact ⟨_, rfl, .inr ⟨rfl, HE.out⟩, _, rfl⟩
set_option maxHeartbeats 4000000 in
theorem areReals_Above (A : Option Addr) (n c : Nat) (x : Nat → Nat) (least most : Int) (w : World) (hn : n ≤ maxLen) (hs : SL w A n (fun j => .float .f32 (x j))) :
    Calls Try.prog 144 #[.slice A n c, .int .i64 least, .int .i64 most, .func (Fn.func 145) #[] #[]] w fun e w' => e = .returned (.bool (tru (allB (abB) x n least most))) ∧ Below w.heap.size w w' := by
  obtain ⟨W, hW⟩ : ∃ u, u = w.alloc (.cells #[.func (Fn.func 145) #[] #[]] 126) := ⟨_, rfl⟩
  have HBW : Hid (Below w.heap.size w W) := by rw [hW]; exact (Below.refl w.heap.size w).alloc (Nat.le_refl _) _
  have HX : Hid (W.heap[w.heap.size]? = some (.cells #[.func (Fn.func 145) #[] #[]] 126)) := by rw [hW]; exact blocks1 w _
  have HI := hide (indexR_Above A n c x w.heap.size W hn (hs.below HBW.out) HX.out)
  have HBE := hide (show Below w.heap.size w (w.alloc (.cells #[.func (Fn.func 145) #[] #[]] 126)) from (Below.refl w.heap.size w).alloc (Nat.le_refl _) _)
  have HWW := hide hW
  unfold maxLen at hn
  clear hs hW
  by_cases h1 : (n : Int) < least
  · have HT := hide (tru_no (show ¬ allB (abB) x n least most from fun h => by have := h.1.1; omega))
    go_enter Try.func144, Try.ntmps144
    go_wp2
    go_ret
    exact ⟨retBa HT.out.symm, HBE.out⟩
  have h1d : decide ((n : Int) < least) = false := decide_eq_false h1
  by_cases h2 : most < (n : Int)
  · have HT := hide (tru_no (show ¬ allB (abB) x n least most from fun h => by have := h.1.2; omega))
    go_enter Try.func144, Try.ntmps144
    go_wp2
    go_ret
    exact ⟨retBa HT.out.symm, HBE.out⟩
  have h2d : decide (most < (n : Int)) = false := decide_eq_false h2
  have HL := hide (show least ≤ (n : Int) ∧ (n : Int) ≤ most from ⟨by omega, by omega⟩)
  go_enter Try.func144, Try.ntmps144
  go_wp2_with (first | (go_at_call 211; fail) | (go_at_call 179; go_in))
  rw [← HWW.out]
  refine HI.out.mono ?_
  rintro e w1 ⟨r, rfl, hr, q, rfl⟩
  rcases hr with ⟨h0, j, hj, hbad⟩ | ⟨rfl, hall⟩
  · have HT := hide (tru_no (show ¬ allB (abB) x n least most from fun h => hbad (h.2 j hj)))
    clear hbad
    go_wp2
    go_ret
    exact ⟨retBa HT.out.symm, bel_q HBW.out _⟩
  · have HT := hide (tru_yes (show allB (abB) x n least most from ⟨HL.out, hall⟩))
    clear hall
    go_wp2
    go_ret
    exact ⟨retBa HT.out.symm, bel_q HBW.out _⟩
set_option maxHeartbeats 2000000 in
theorem notR_Fin (v : Nat) (P : Nat) (w : World) (h : w.heap[P]? = some (.cells #[.func (Fn.func 131) #[] #[]] 126)) : Calls Try.prog 180 #[.float .f32 v, .pointer (some ⟨P, 0, none⟩)] w fun e w' => e = .returned (.bool (!(ffin .f32 v))) ∧ ∃ q, w' = w.drewN q := by
  have k0 := Joins.cell_of_block h 0
  simp at k0
  clear h
  go_enter Try.func180, Try.ntmps180
  go_wp2_with fail
  refine (implIsFinite_any _ _).mono ?_
  rintro e w' ⟨rfl, q, rfl⟩
  go_wp2
  go_ret
  exact ⟨rfl, _, rfl⟩
set_option maxHeartbeats 4000000 in
theorem indexR_Fin (A : Option Addr) (n c : Nat) (x : Nat → Nat) (P : Nat) (w : World) (hn : n ≤ maxLen) (hs : SL w A n (fun j => .float .f32 (x j))) (h : w.heap[P]? = some (.cells #[.func (Fn.func 131) #[] #[]] 126)) :
    Calls Try.prog 211 #[.slice A n c, .func (Fn.func 180) #[] #[.pointer (some ⟨P, 0, none⟩)]] w fun e w' => ∃ r : Int, e = .returned (.int .i64 r) ∧ ((0 ≤ r ∧ ∃ j, j < n ∧ ¬ ffin .f32 (x j) = true) ∨ (r = -1 ∧ ∀ j, j < n → ffin .f32 (x j) = true)) ∧ ∃ q, w' = w.drewN q := by
  unfold maxLen at hn
  have HC := cells_f hs
  have HP := hide h
  clear hs h
  go_enter Try.func211, Try.ntmps211
  go_wp2
  go_loopw [5, 8] (fun _ i wr => ∃ k q : Nat, k ≤ n ∧ i = .int .i64 k ∧ Hid (∀ j, j < k → ffin .f32 (x j) = true) ∧ wr = w.drewN q) (fun _ i _ => n - (intOf i).toNat)
  case atStart => exact ⟨0, 0, Nat.zero_le _, rfl, fun j hj => absurd hj (by omega), rfl⟩
  case round =>
    obtain ⟨k, q, hk, rfl, hg, rfl⟩ := hrel
    by_cases hlt : k < n
    · obtain ⟨b1, off, rfl, hb1, hxk⟩ := HC.out k hlt
      cases hp : ffin .f32 (x k)
      · have HE := hide (show ¬ ffin .f32 (x k) = true by rw [hp]; decide)
        go_wp2_with fail
        refine (notR_Fin _ _ _ (show (w.drewN q).heap[P]? = _ from HP.out)).mono ?_
        rw [hp]
        rintro e w' ⟨rfl, q2, rfl⟩
        go_wp2
        go_ret
        exact ⟨_, rfl, .inl ⟨by omega, k, hlt, HE.out⟩, _, rfl⟩
      · have HE := hide hp
        go_wp2_with fail
        refine (notR_Fin _ _ _ (show (w.drewN q).heap[P]? = _ from HP.out)).mono ?_
        rw [hp]
        rintro e w' ⟨rfl, q2, rfl⟩
        clear hp
        go_wp2
        go_roundw
        case rel => exact ⟨k + 1, _, by omega, by go_num, (by
          intro j hj
          by_cases hjk : j = k
          · subst hjk; exact HE.out
          · exact hg.out j (by omega)), rfl⟩
        case measure => simp [intOf]; omega
    · have HE := hide (show ∀ j, j < n → ffin .f32 (x j) = true from fun j hj => hg.out j (by omega))
      go_wp2
      go_ret
      exact ⟨_, rfl, .inr ⟨rfl, HE.out⟩, _, rfl⟩
set_option maxHeartbeats 4000000 in
theorem areReals_Fin (A : Option Addr) (n c : Nat) (x : Nat → Nat) (least most : Int) (w : World) (hn : n ≤ maxLen) (hs : SL w A n (fun j => .float .f32 (x j))) :
    Calls Try.prog 144 #[.slice A n c, .int .i64 least, .int .i64 most, .func (Fn.func 131) #[] #[]] w fun e w' => e = .returned (.bool (tru (allB (ffin .f32) x n least most))) ∧ Below w.heap.size w w' := by
  obtain ⟨W, hW⟩ : ∃ u, u = w.alloc (.cells #[.func (Fn.func 131) #[] #[]] 126) := ⟨_, rfl⟩
  have HBW : Hid (Below w.heap.size w W) := by rw [hW]; exact (Below.refl w.heap.size w).alloc (Nat.le_refl _) _
  have HX : Hid (W.heap[w.heap.size]? = some (.cells #[.func (Fn.func 131) #[] #[]] 126)) := by rw [hW]; exact blocks1 w _
  have HI := hide (indexR_Fin A n c x w.heap.size W hn (hs.below HBW.out) HX.out)
  have HBE := hide (show Below w.heap.size w (w.alloc (.cells #[.func (Fn.func 131) #[] #[]] 126)) from (Below.refl w.heap.size w).alloc (Nat.le_refl _) _)
  have HWW := hide hW
  unfold maxLen at hn
  clear hs hW
  by_cases h1 : (n : Int) < least
  · have HT := hide (tru_no (show ¬ allB (ffin .f32) x n least most from fun h => by have := h.1.1; omega))
    go_enter Try.func144, Try.ntmps144
    go_wp2
    go_ret
    exact ⟨retBa HT.out.symm, HBE.out⟩
  have h1d : decide ((n : Int) < least) = false := decide_eq_false h1
  by_cases h2 : most < (n : Int)
  · have HT := hide (tru_no (show ¬ allB (ffin .f32) x n least most from fun h => by have := h.1.2; omega))
    go_enter Try.func144, Try.ntmps144
    go_wp2
    go_ret
    exact ⟨retBa HT.out.symm, HBE.out⟩
  have h2d : decide (most < (n : Int)) = false := decide_eq_false h2
  have HL := hide (show least ≤ (n : Int) ∧ (n : Int) ≤ most from ⟨by omega, by omega⟩)
  go_enter Try.func144, Try.ntmps144
  go_wp2_with (first | (go_at_call 211; fail) | (go_at_call 179; go_in))
  rw [← HWW.out]
  refine HI.out.mono ?_
  rintro e w1 ⟨r, rfl, hr, q, rfl⟩
  rcases hr with ⟨h0, j, hj, hbad⟩ | ⟨rfl, hall⟩
  · have HT := hide (tru_no (show ¬ allB (ffin .f32) x n least most from fun h => hbad (h.2 j hj)))
    clear hbad
    go_wp2
    go_ret
    exact ⟨retBa HT.out.symm, bel_q HBW.out _⟩
  · have HT := hide (tru_yes (show allB (ffin .f32) x n least most from ⟨HL.out, hall⟩))
    clear hall
    go_wp2
    go_ret
    exact ⟨retBa HT.out.symm, bel_q HBW.out _⟩
set_option maxHeartbeats 2000000 in
theorem notR_Ret (v : Nat) (P : Nat) (w : World) (h : w.heap[P]? = some (.cells #[.func (Fn.func 213) #[] #[]] 126)) : Calls Try.prog 180 #[.float .f32 v, .pointer (some ⟨P, 0, none⟩)] w fun e w' => e = .returned (.bool (!(rtB v))) ∧ ∃ q, w' = w.drewN q := by
  have k0 := Joins.cell_of_block h 0
  simp at k0
  clear h
  go_enter Try.func180, Try.ntmps180
  go_wp2_with fail
  refine (implRet_any _ _).mono ?_
  rintro e w' ⟨rfl, q, rfl⟩
  go_wp2
  go_ret
  exact ⟨rfl, _, rfl⟩
set_option maxHeartbeats 4000000 in
theorem indexR_Ret (A : Option Addr) (n c : Nat) (x : Nat → Nat) (P : Nat) (w : World) (hn : n ≤ maxLen) (hs : SL w A n (fun j => .float .f32 (x j))) (h : w.heap[P]? = some (.cells #[.func (Fn.func 213) #[] #[]] 126)) :
    Calls Try.prog 211 #[.slice A n c, .func (Fn.func 180) #[] #[.pointer (some ⟨P, 0, none⟩)]] w fun e w' => ∃ r : Int, e = .returned (.int .i64 r) ∧ ((0 ≤ r ∧ ∃ j, j < n ∧ ¬ rtB (x j) = true) ∨ (r = -1 ∧ ∀ j, j < n → rtB (x j) = true)) ∧ ∃ q, w' = w.drewN q := by
  unfold maxLen at hn
  have HC := cells_f hs
  have HP := hide h
  clear hs h
  go_enter Try.func211, Try.ntmps211
  go_wp2
  go_loopw [5, 8] (fun _ i wr => ∃ k q : Nat, k ≤ n ∧ i = .int .i64 k ∧ Hid (∀ j, j < k → rtB (x j) = true) ∧ wr = w.drewN q) (fun _ i _ => n - (intOf i).toNat)
  case atStart => exact ⟨0, 0, Nat.zero_le _, rfl, fun j hj => absurd hj (by omega), rfl⟩
  case round =>
    obtain ⟨k, q, hk, rfl, hg, rfl⟩ := hrel
    by_cases hlt : k < n
    · obtain ⟨b1, off, rfl, hb1, hxk⟩ := HC.out k hlt
      cases hp : rtB (x k)
      · have HE := hide (show ¬ rtB (x k) = true by rw [hp]; decide)
        go_wp2_with fail
        refine (notR_Ret _ _ _ (show (w.drewN q).heap[P]? = _ from HP.out)).mono ?_
        rw [hp]
        rintro e w' ⟨rfl, q2, rfl⟩
        go_wp2
        go_ret
        exact ⟨_, rfl, .inl ⟨by omega, k, hlt, HE.out⟩, _, rfl⟩
      · have HE := hide hp
        go_wp2_with fail
        refine (notR_Ret _ _ _ (show (w.drewN q).heap[P]? = _ from HP.out)).mono ?_
        rw [hp]
        rintro e w' ⟨rfl, q2, rfl⟩
        clear hp
        go_wp2
        go_roundw
        case rel => exact ⟨k + 1, _, by omega, by go_num, (by
          intro j hj
          by_cases hjk : j = k
          · subst hjk; exact HE.out
          · exact hg.out j (by omega)), rfl⟩
        case measure => simp [intOf]; omega
    · have HE := hide (show ∀ j, j < n → rtB (x j) = true from fun j hj => hg.out j (by omega))
      go_wp2
      go_ret
      exact ⟨_, rfl, .inr ⟨rfl, HE.out⟩, _, rfl⟩
set_option maxHeartbeats 4000000 in
theorem areReals_Ret (A : Option Addr) (n c : Nat) (x : Nat → Nat) (least most : Int) (w : World) (hn : n ≤ maxLen) (hs : SL w A n (fun j => .float .f32 (x j))) :
    Calls Try.prog 144 #[.slice A n c, .int .i64 least, .int .i64 most, .func (Fn.func 213) #[] #[]] w fun e w' => e = .returned (.bool (tru (allB (rtB) x n least most))) ∧ Below w.heap.size w w' := by
  obtain ⟨W, hW⟩ : ∃ u, u = w.alloc (.cells #[.func (Fn.func 213) #[] #[]] 126) := ⟨_, rfl⟩
  have HBW : Hid (Below w.heap.size w W) := by rw [hW]; exact (Below.refl w.heap.size w).alloc (Nat.le_refl _) _
  have HX : Hid (W.heap[w.heap.size]? = some (.cells #[.func (Fn.func 213) #[] #[]] 126)) := by rw [hW]; exact blocks1 w _
  have HI := hide (indexR_Ret A n c x w.heap.size W hn (hs.below HBW.out) HX.out)
  have HBE := hide (show Below w.heap.size w (w.alloc (.cells #[.func (Fn.func 213) #[] #[]] 126)) from (Below.refl w.heap.size w).alloc (Nat.le_refl _) _)
  have HWW := hide hW
  unfold maxLen at hn
  clear hs hW
  by_cases h1 : (n : Int) < least
  · have HT := hide (tru_no (show ¬ allB (rtB) x n least most from fun h => by have := h.1.1; omega))
    go_enter Try.func144, Try.ntmps144
    go_wp2
    go_ret
    exact ⟨retBa HT.out.symm, HBE.out⟩
  have h1d : decide ((n : Int) < least) = false := decide_eq_false h1
  by_cases h2 : most < (n : Int)
  · have HT := hide (tru_no (show ¬ allB (rtB) x n least most from fun h => by have := h.1.2; omega))
    go_enter Try.func144, Try.ntmps144
    go_wp2
    go_ret
    exact ⟨retBa HT.out.symm, HBE.out⟩
  have h2d : decide (most < (n : Int)) = false := decide_eq_false h2
  have HL := hide (show least ≤ (n : Int) ∧ (n : Int) ≤ most from ⟨by omega, by omega⟩)
  go_enter Try.func144, Try.ntmps144
  go_wp2_with (first | (go_at_call 211; fail) | (go_at_call 179; go_in))
  rw [← HWW.out]
  refine HI.out.mono ?_
  rintro e w1 ⟨r, rfl, hr, q, rfl⟩
  rcases hr with ⟨h0, j, hj, hbad⟩ | ⟨rfl, hall⟩
  · have HT := hide (tru_no (show ¬ allB (rtB) x n least most from fun h => hbad (h.2 j hj)))
    clear hbad
    go_wp2
    go_ret
    exact ⟨retBa HT.out.symm, bel_q HBW.out _⟩
  · have HT := hide (tru_yes (show allB (rtB) x n least most from ⟨HL.out, hall⟩))
    clear hall
    go_wp2
    go_ret
    exact ⟨retBa HT.out.symm, bel_q HBW.out _⟩
end Go.Proofs.Ytjebkagbknmdoaa

