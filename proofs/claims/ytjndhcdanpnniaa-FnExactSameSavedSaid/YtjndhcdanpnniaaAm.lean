/- Amounts of a list, by the program. -/
import Derived.Test.YtjndhcdanpnniaaVi
import Derived.Test.YtjndhcdanpnniaaRd
namespace Go.Proofs.Ytjndhcdanpnniaa
open Go.RowKit Go.Dues
theorem implBadAmount_any (n : Int) (w : World) : Calls Try.prog 193 #[.int .i64 n] w fun e w' => e = .returned (.bool (!amtB n)) ∧ w = w' := by
  go_enter Try.func193, Try.ntmps193
  go_wp2_with (go_at_call 133; refine (implAmount_any _ _).mono ?_; rintro e w' ⟨rfl, rfl⟩)
  go_ret
  exact ⟨rfl, rfl⟩
theorem index_badAmount (A : Option Addr) (n c : Nat) (x : Nat → Int) (w : World) (hn : n ≤ maxLen) (hs : SL w A n (fun j => .int .i64 (x j))) :
    Calls Try.prog 190 #[.slice A n c, .func (Fn.func 193) #[] #[]] w fun e w' => ∃ r : Int, e = .returned (.int .i64 r) ∧ ((0 ≤ r ∧ ∃ j, j < n ∧ amtB (x j) = false) ∨ (r = -1 ∧ ∀ j, j < n → amtB (x j) = true)) ∧ w = w' := by
  unfold maxLen at hn
  have HC := cells_one hs
  clear hs
  go_enter Try.func190, Try.ntmps190
  go_wp2
  go_loop [5, 8] (fun _ i => ∃ k : Nat, k ≤ n ∧ i = .int .i64 k ∧ Hid (∀ j, j < k → amtB (x j) = true)) (fun _ i => n - (intOf i).toNat)
  case atStart => exact ⟨0, Nat.zero_le _, rfl, fun j hj => absurd hj (by omega)⟩
  case round =>
    obtain ⟨k, hk, rfl, hg⟩ := hrel
    by_cases hlt : k < n
    · obtain ⟨b1, off, rfl, hb1, hxk⟩ := HC.out k hlt
      cases hp : amtB (x k)
      · have HP := hide hp
        go_wp2_with (go_at_call 193; refine (implBadAmount_any _ _).mono ?_; rintro e w' ⟨rfl, rfl⟩)
        go_ret
        exact ⟨_, rfl, .inl ⟨by omega, k, hlt, HP.out⟩, rfl⟩
      · have HP := hide hp
        go_wp2_with (go_at_call 193; refine (implBadAmount_any _ _).mono ?_; rintro e w' ⟨rfl, rfl⟩)
        clear hp
        go_round
        case rel => exact ⟨k + 1, by omega, by go_num, by
          intro j hj
          by_cases hjk : j = k
          · subst hjk; exact HP.out
          · exact hg.out j (by omega)⟩
        case measure => simp [intOf]; omega
    · go_wp2
      go_ret
      obtain rfl : k = n := by omega
      exact ⟨_, rfl, .inr ⟨rfl, hg.out⟩, rfl⟩
theorem contains_badAmount (A : Option Addr) (n c : Nat) (x : Nat → Int) (w : World) (hn : n ≤ maxLen) (hs : SL w A n (fun j => .int .i64 (x j))) :
    Calls Try.prog 137 #[.slice A n c, .func (Fn.func 193) #[] #[]] w fun e w' => e = .returned (.bool (tru (∃ j, j < n ∧ amtB (x j) = false))) ∧ w = w' := by
  have HI := hide (index_badAmount A n c x w hn hs)
  clear hs
  go_enter Try.func137, Try.ntmps137
  go_wp2_with fail
  refine HI.out.mono ?_
  rintro e w' ⟨r, rfl, hr, rfl⟩
  rcases hr with ⟨h0, h⟩ | ⟨rfl, h⟩
  · have HF := hide (tru_yes h)
    clear h
    go_wp2
    go_ret
    exact ⟨retb HF.out.symm, rfl⟩
  · have HF := hide (tru_no (p := ∃ j, j < n ∧ amtB (x j) = false) (fun ⟨j, hj, hh⟩ => by rw [h j hj] at hh; cases hh))
    clear h
    go_wp2
    go_ret
    exact ⟨retb HF.out.symm, rfl⟩

theorem implAmounts_any (A : Option Addr) (n c : Nat) (x : Nat → Int) (w : World) (hn : n ≤ maxLen) (hs : SL w A n (fun j => .int .i64 (x j))) :
    Calls Try.prog 146 #[.slice A n c] w fun e w' => e = .returned (.bool (tru (∀ j, j < n → 0 ≤ x j ∧ x j ≤ 1000000000000))) ∧ w = w' := by
  have HI := hide (contains_badAmount A n c x w hn hs)
  clear hs
  by_cases h : ∃ j, j < n ∧ amtB (x j) = false
  · have ht := tru_yes h
    have HF := hide (tru_no (p := ∀ j, j < n → 0 ≤ x j ∧ x j ≤ 1000000000000) (fun hh => by
      obtain ⟨j, hj, hb⟩ := h
      rw [amtB_yes (hh j hj)] at hb
      cases hb))
    clear h
    go_enter Try.func146, Try.ntmps146
    go_wp2_with fail
    refine HI.out.mono ?_
    rintro e w' ⟨rfl, rfl⟩
    go_wp2
    go_ret
    exact ⟨retb HF.out.symm, rfl⟩
  · have ht := tru_no h
    have HF := hide (tru_yes (p := ∀ j, j < n → 0 ≤ x j ∧ x j ≤ 1000000000000) (fun j hj => by
      cases hb : amtB (x j)
      · exact absurd ⟨j, hj, hb⟩ h
      · exact amtB_iff.1 hb))
    clear h
    go_enter Try.func146, Try.ntmps146
    go_wp2_with fail
    refine HI.out.mono ?_
    rintro e w' ⟨rfl, rfl⟩
    go_wp2
    go_ret
    exact ⟨retb HF.out.symm, rfl⟩
/-- of two and of three numbers that are told one by one -/
theorem implAmounts2_any (g : Nat) (a b : Int) (w : World) (h : w.heap[g]? = some (.cells #[.int .i64 a, .int .i64 b] 2)) :
    Calls Try.prog 146 #[.slice (some ⟨g, 0, none⟩) 2 2] w fun e w' => e = .returned (.bool (amtB a && amtB b)) ∧ w = w' := by
  have h0 := Joins.cell_of_block h 0
  have h1 := Joins.cell_of_block h 1
  refine (implAmounts_any (some ⟨g, 0, none⟩) 2 2 (fun j => if j = 0 then a else b) w (by unfold maxLen; omega) (.inr ⟨g, 0, rfl, (Array.getElem?_eq_some_iff.1 h).1, fun j hj => ?_⟩)).mono fun e w' ⟨he, hw⟩ => ⟨?_, hw⟩
  · have : j = 0 ∨ j = 1 := by omega
    rcases this with rfl | rfl
    · simpa using h0
    · simpa using h1
  · rw [he]
    apply retb
    cases ha : amtB a
    · rw [Bool.false_and]; exact tru_no (fun hh => by have := amtB_yes (hh 0 (by omega)); simp at this; rw [this] at ha; cases ha)
    · cases hb : amtB b
      · exact tru_no (fun hh => by have := amtB_yes (hh 1 (by omega)); simp at this; rw [this] at hb; cases hb)
      · exact tru_yes (fun j hj => by
          have hj2 : j = 0 ∨ j = 1 := by omega
          rcases hj2 with rfl | rfl
          · simpa using amtB_iff.1 ha
          · simpa using amtB_iff.1 hb)
theorem implAmounts3_any (g : Nat) (a b c : Int) (w : World) (h : w.heap[g]? = some (.cells #[.int .i64 a, .int .i64 b, .int .i64 c] 2)) :
    Calls Try.prog 146 #[.slice (some ⟨g, 0, none⟩) 3 3] w fun e w' => e = .returned (.bool (amtB a && (amtB b && amtB c))) ∧ w = w' := by
  have h0 := Joins.cell_of_block h 0
  have h1 := Joins.cell_of_block h 1
  have h2 := Joins.cell_of_block h 2
  refine (implAmounts_any (some ⟨g, 0, none⟩) 3 3 (fun j => if j = 0 then a else if j = 1 then b else c) w (by unfold maxLen; omega) (.inr ⟨g, 0, rfl, (Array.getElem?_eq_some_iff.1 h).1, fun j hj => ?_⟩)).mono fun e w' ⟨he, hw⟩ => ⟨?_, hw⟩
  · have : j = 0 ∨ j = 1 ∨ j = 2 := by omega
    rcases this with rfl | rfl | rfl
    · simpa using h0
    · simpa using h1
    · simpa using h2
  · rw [he]
    apply retb
    cases ha : amtB a
    · rw [Bool.false_and]; exact tru_no (fun hh => by have := amtB_yes (hh 0 (by omega)); simp at this; rw [this] at ha; cases ha)
    · cases hb : amtB b
      · exact tru_no (fun hh => by have := amtB_yes (hh 1 (by omega)); simp at this; rw [this] at hb; cases hb)
      · cases hc : amtB c
        · exact tru_no (fun hh => by have := amtB_yes (hh 2 (by omega)); simp at this; rw [this] at hc; cases hc)
        · exact tru_yes (fun j hj => by
            have hj2 : j = 0 ∨ j = 1 ∨ j = 2 := by omega
            rcases hj2 with rfl | rfl | rfl
            · simpa using amtB_iff.1 ha
            · simpa using amtB_iff.1 hb
            · simpa using amtB_iff.1 hc)

end Go.Proofs.Ytjndhcdanpnniaa
