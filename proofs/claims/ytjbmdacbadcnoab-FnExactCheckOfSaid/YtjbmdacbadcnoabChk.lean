/- CheckOf: the check number of a text, by both, and the law. -/
import Derived.Test.YtjbmdacbadcnoabChecked
import Derived.WalkKit
import Derived.WalkLawsBesides
import Derived.Deep.Draws
namespace Go.Proofs.Ytjbmdacbadcnoab
open Go.RowKit
theorem ret_int {k : IntKind} {a b : Int} (h : a = b) : Ending.returned (.int k a) = .returned (.int k b) := by rw [h]
def chk (n : Int) (l : List UInt8) : Int := l.foldl (fun n c => (971 * n + (c.toNat : Int) + 229) % 65003) n
theorem chk_snoc (n : Int) (l : List UInt8) (c : UInt8) : chk n (l ++ [c]) = (971 * chk n l + (c.toNat : Int) + 229) % 65003 := by
  unfold chk; rw [List.foldl_append]; rfl
theorem take_snoc (s : ByteArray) (k : Nat) (h : k < s.size) : s.data.toList.take (k + 1) = s.data.toList.take k ++ [s[k]] := by
  rw [List.take_succ_eq_append_getElem (by simpa using h)]; rfl
theorem take_all (s : ByteArray) : s.data.toList.take s.size = s.data.toList := List.take_of_length_le (by simp)
theorem chk_step {n c : Int} {s : ByteArray} {k : Nat} (hk : k < s.size) (h : c = chk n (s.data.toList.take k)) : (971 * c + (s[k].toNat : Int) + 229) % 65003 = chk n (s.data.toList.take (k + 1)) := by
  rw [take_snoc s k hk, chk_snoc, h]

theorem specChk_any (n : Int) (s : ByteArray) (w : World) (h0 : 0 ≤ n) (h1 : n < 65003) (hs : s.size ≤ maxLen) :
    Calls Try.prog 19 #[.int .i64 n, .string s] w fun e w' => e = .returned (.int .i64 (chk n s.data.toList)) ∧ w = w' := by
  unfold maxLen at hs
  go_enter Try.func19, Try.ntmps19
  go_wp2
  go_loop [0, 5] (fun v i => ∃ k : Nat, ∃ c : Int, k ≤ s.size ∧ i = .int .i64 k ∧ 0 ≤ c ∧ c < 65003 ∧ Hid (c = chk n (s.data.toList.take k)) ∧ v = .int .i64 c) (fun _ i => s.size - (intOf i).toNat)
  case atStart => exact ⟨0, n, Nat.zero_le _, rfl, h0, h1, rfl, rfl⟩
  case round =>
    obtain ⟨k, c, hk, rfl, hc0, hc1, hc, rfl⟩ := hrel
    by_cases hlt : k < s.size
    · have hb : s[k].toNat < 256 := s[k].toNat_lt
      go_wp2
      go_round
      case rel => exact ⟨k + 1, _, by omega, by go_num, by omega, by omega, chk_step hlt hc.out, rfl⟩
      case measure => simp [intOf]; omega
    · go_wp2
      go_ret
      obtain rfl : k = s.size := by omega
      have h := hc.out
      rw [take_all] at h
      exact ⟨ret_int h, rfl⟩
theorem implChk_yes (n : Int) (s : ByteArray) (w : World) (h0 : 0 ≤ n) (h1 : n < 65003) (hs : s.size ≤ maxLen) :
    Calls Try.prog 14 #[.int .i64 n, .string s] w fun e w' => e = .returned (.tuple #[.int .i64 (chk n s.data.toList), .bool true]) ∧ w = w' := by
  unfold maxLen at hs
  go_enter Try.func14, Try.ntmps14
  go_wp2
  go_loop [6, 7, 17] (fun v _ i => ∃ k : Nat, ∃ c : Int, k ≤ s.size ∧ i = .int .i64 k ∧ 0 ≤ c ∧ c < 65003 ∧ Hid (c = chk n (s.data.toList.take k)) ∧ v = .int .i64 c) (fun _ _ i => s.size - (intOf i).toNat)
  case atStart => exact ⟨0, n, Nat.zero_le _, rfl, h0, h1, rfl, rfl⟩
  case round =>
    obtain ⟨k, c, hk, rfl, hc0, hc1, hc, rfl⟩ := hrel
    by_cases hlt : k < s.size
    · have hb : s[k].toNat < 256 := s[k].toNat_lt
      go_wp2
      go_round
      case rel => exact ⟨k + 1, _, by omega, by go_num, by omega, by omega, chk_step hlt hc.out, rfl⟩
      case measure => simp [intOf]; omega
    · go_wp2
      go_ret2
      obtain rfl : k = s.size := by omega
      have h := hc.out
      rw [take_all] at h
      exact ⟨by rw [h]; rfl, rfl⟩
theorem implChk_no (n : Int) (s : ByteArray) (w : World) (h : n < 0 ∨ 65003 ≤ n) :
    Calls Try.prog 14 #[.int .i64 n, .string s] w fun e w' => e = .returned (.tuple #[.int .i64 0, .bool false]) ∧ w = w' := by
  rcases h with h | h
  · go_enter Try.func14, Try.ntmps14
    go_wp2
    go_ret2
    exact ⟨rfl, rfl⟩
  · have hn : ¬ n < 0 := by omega
    go_enter Try.func14, Try.ntmps14
    go_wp2
    go_ret2
    exact ⟨rfl, rfl⟩
theorem specCheckOf_yes (n : Int) (s : ByteArray) (w : World) (h0 : 0 ≤ n) (h1 : n < 65003) (hs : s.size ≤ maxLen) :
    Calls Try.prog 13 #[.int .i64 n, .string s] w fun e w' => e = .returned (.tuple #[.int .i64 (chk n s.data.toList), .bool true]) ∧ w = w' := by
  have hd : decide (n ≤ 65002) = true := by simp; omega
  go_enter Try.func13, Try.ntmps13
  go_wp2_with (first | (go_at_call 19; refine (specChk_any _ _ _ h0 h1 hs).mono ?_; rintro e w' ⟨rfl, rfl⟩) | go_in)
  go_ret2
  exact ⟨rfl, rfl⟩
theorem specCheckOf_no (n : Int) (s : ByteArray) (w : World) (h : n < 0 ∨ 65003 ≤ n) :
    Calls Try.prog 13 #[.int .i64 n, .string s] w fun e w' => e = .returned (.tuple #[.int .i64 0, .bool false]) ∧ w = w' := by
  rcases h with h | h
  · go_enter Try.func13, Try.ntmps13
    go_wp2
    go_ret2
    exact ⟨rfl, rfl⟩
  · have hn : 0 ≤ n := by omega
    have hd : decide (n ≤ 65002) = false := by simp; omega
    go_enter Try.func13, Try.ntmps13
    go_wp2
    go_ret2
    exact ⟨rfl, rfl⟩
theorem lawCheckOf_any (n : Int) (s : ByteArray) (w : World) (hs : s.size ≤ maxLen) :
    Calls Try.prog 5 #[.int .i64 n, .string s] w fun e w' => e = .returned (.bool true) ∧ Below w.heap.size w w' := by
  have hs' : s.size ≤ 9223372036854775807 := hs
  by_cases h : n < 0 ∨ 65003 ≤ n
  · have c1 : Hid (∀ w, _) := fun w => specCheckOf_no n s w h
    have c2 : Hid (∀ w, _) := fun w => implChk_no n s w h
    clear h hs
    go_enter Try.func5, Try.ntmps5
    go_wp2_with (first | (go_at_call 13; refine (c1.out _).mono ?_; rintro e w' ⟨rfl, rfl⟩) | (go_at_call 14; refine (c2.out _).mono ?_; rintro e w' ⟨rfl, rfl⟩))
    all_goals
      go_ret
      exact ⟨rfl, Below.refl _ _⟩
  · have c1 : Hid (∀ w, _) := fun w => specCheckOf_yes n s w (by omega) (by omega) hs
    have c2 : Hid (∀ w, _) := fun w => implChk_yes n s w (by omega) (by omega) hs
    clear h hs
    go_enter Try.func5, Try.ntmps5
    go_wp2_with (first | (go_at_call 13; refine (c1.out _).mono ?_; rintro e w' ⟨rfl, rfl⟩) | (go_at_call 14; refine (c2.out _).mono ?_; rintro e w' ⟨rfl, rfl⟩))
    all_goals
      go_ret
      exact ⟨rfl, Below.refl _ _⟩
end Go.Proofs.Ytjbmdacbadcnoab
