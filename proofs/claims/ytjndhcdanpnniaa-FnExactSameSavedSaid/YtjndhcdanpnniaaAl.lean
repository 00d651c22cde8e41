/- Lists whose numbers are all as told, and sums of lists, by the program. -/
import Derived.Test.YtjndhcdanpnniaaB3
import Derived.Test.YtjndhcdanpnniaaOw
import Derived.Laws.EntriesVeiled
namespace Go.Proofs.Ytjndhcdanpnniaa
open Go.RowKit Go.Dues
theorem retBa {a b : Bool} (h : a = b) : Ending.returned (.bool a) = .returned (.bool b) := by rw [h]
theorem cells_a {A : Option Addr} {n : Nat} {f : Nat → Value} {w : World} (hs : SL w A n f) : Hid (∀ k, k < n → ∃ b off, A = some ⟨b, off, none⟩ ∧ b < w.heap.size ∧ w.cell? ⟨b, off + k, none⟩ = some (f k)) := by
  intro k hk
  obtain ⟨b, off, h1, h2, h3⟩ := hs.at_ (by omega)
  exact ⟨b, off, h1, h2, h3 k hk⟩
def allP (x : Nat → Int) (n : Nat) (least most lo hi : Int) : Prop := (least ≤ n ∧ n ≤ most) ∧ ∀ j, j < n → lo ≤ x j ∧ x j ≤ hi
theorem small_isSum (v : Int) (w : World) : Calls Try.prog 83 #[.int .i64 v] w fun e w' => e = .returned (.bool (inB v 0 1000000000)) ∧ w = w' := by
  go_enter Try.func83, Try.ntmps83
  go_wp2_with (first | (go_at_call 92; refine (implWithin_any _ _ _ _).mono ?_; rintro e w' ⟨rfl, rfl⟩) | go_in)
  go_ret
  exact ⟨rfl, rfl⟩
set_option maxHeartbeats 2000000 in
theorem not_isSum (v : Int) (P : Nat) (w : World) (h : w.heap[P]? = some (.cells #[.func (Fn.func 83) #[] #[]] 100)) : Calls Try.prog 203 #[.int .i64 v, .pointer (some ⟨P, 0, none⟩)] w fun e w' => e = .returned (.bool (!inB v 0 1000000000)) ∧ w = w' := by
  have k0 := Joins.cell_of_block h 0
  simp at k0
  clear h
  go_enter Try.func203, Try.ntmps203
  go_wp2_with fail
  refine (small_isSum _ _).mono ?_
  rintro e w' ⟨rfl, rfl⟩
  go_wp2
  go_ret
  exact ⟨rfl, rfl⟩
set_option maxHeartbeats 4000000 in
theorem index_isSum (A : Option Addr) (n c : Nat) (x : Nat → Int) (P : Nat) (w : World) (hn : n ≤ maxLen) (hs : SL w A n (fun j => .int .i64 (x j))) (h : w.heap[P]? = some (.cells #[.func (Fn.func 83) #[] #[]] 100)) :
    Calls Try.prog 190 #[.slice A n c, .func (Fn.func 203) #[] #[.pointer (some ⟨P, 0, none⟩)]] w fun e w' => ∃ r : Int, e = .returned (.int .i64 r) ∧ ((0 ≤ r ∧ ∃ j, j < n ∧ ¬ (0 ≤ x j ∧ x j ≤ 1000000000)) ∨ (r = -1 ∧ ∀ j, j < n → 0 ≤ x j ∧ x j ≤ 1000000000)) ∧ w = w' := by
  unfold maxLen at hn
  have HC := cells_a hs
  have HP := hide h
  clear hs h
  go_enter Try.func190, Try.ntmps190
  go_wp2
  go_loop [5, 8] (fun _ i => ∃ k : Nat, k ≤ n ∧ i = .int .i64 k ∧ Hid (∀ j, j < k → 0 ≤ x j ∧ x j ≤ 1000000000)) (fun _ i => n - (intOf i).toNat)
  case atStart => exact ⟨0, Nat.zero_le _, rfl, fun j hj => absurd hj (by omega)⟩
  case round =>
    obtain ⟨k, hk, rfl, hg⟩ := hrel
    by_cases hlt : k < n
    · obtain ⟨b1, off, rfl, hb1, hxk⟩ := HC.out k hlt
      cases hp : inB (x k) 0 1000000000
      · have HE := hide (inB_niff.1 hp)
        go_wp2_with fail
        refine (not_isSum _ _ _ HP.out).mono ?_
        rw [hp]
        rintro e w' ⟨rfl, rfl⟩
        go_wp2
        go_ret
        exact ⟨_, rfl, .inl ⟨by omega, k, hlt, HE.out⟩, rfl⟩
      · have HE := hide (inB_iff.1 hp)
        go_wp2_with fail
        refine (not_isSum _ _ _ HP.out).mono ?_
        rw [hp]
        rintro e w' ⟨rfl, rfl⟩
        clear hp
        go_wp2
        go_round
        case rel => exact ⟨k + 1, by omega, by go_num, by
          intro j hj
          by_cases hjk : j = k
          · subst hjk; exact HE.out
          · exact hg.out j (by omega)⟩
        case measure => simp [intOf]; omega
    · go_wp2
      go_ret
      obtain rfl : k = n := by omega
      exact ⟨_, rfl, .inr ⟨rfl, hg.out⟩, rfl⟩
set_option maxHeartbeats 4000000 in
theorem areAll_isSum (A : Option Addr) (n c : Nat) (x : Nat → Int) (least most : Int) (w : World) (hn : n ≤ maxLen) (hs : SL w A n (fun j => .int .i64 (x j))) :
    Calls Try.prog 165 #[.slice A n c, .int .i64 least, .int .i64 most, .func (Fn.func 83) #[] #[]] w fun e w' => e = .returned (.bool (tru (allP x n least most 0 1000000000))) ∧ Below w.heap.size w w' := by
  obtain ⟨W, hW⟩ : ∃ u, u = w.alloc (.cells #[.func (Fn.func 83) #[] #[]] 100) := ⟨_, rfl⟩
  have HBW : Hid (Below w.heap.size w W) := by rw [hW]; exact (Below.refl w.heap.size w).alloc (Nat.le_refl _) _
  have HX : Hid (W.heap[w.heap.size]? = some (.cells #[.func (Fn.func 83) #[] #[]] 100)) := by rw [hW]; exact blocks1 w _
  have HI := hide (index_isSum A n c x w.heap.size W hn (hs.below HBW.out) HX.out)
  have HBE := hide (show Below w.heap.size w (w.alloc (.cells #[.func (Fn.func 83) #[] #[]] 100)) from (Below.refl w.heap.size w).alloc (Nat.le_refl _) _)
  have HWW := hide hW
  unfold maxLen at hn
  clear hs hW
  by_cases h1 : (n : Int) < least
  · have HT := hide (tru_no (show ¬ allP x n least most 0 1000000000 from fun h => by have := h.1.1; omega))
    go_enter Try.func165, Try.ntmps165
    go_wp2
    go_ret
    exact ⟨retBa HT.out.symm, HBE.out⟩
  have h1d : decide ((n : Int) < least) = false := decide_eq_false h1
  by_cases h2 : most < (n : Int)
  · have HT := hide (tru_no (show ¬ allP x n least most 0 1000000000 from fun h => by have := h.1.2; omega))
    go_enter Try.func165, Try.ntmps165
    go_wp2
    go_ret
    exact ⟨retBa HT.out.symm, HBE.out⟩
  have h2d : decide (most < (n : Int)) = false := decide_eq_false h2
  have HL := hide (show least ≤ (n : Int) ∧ (n : Int) ≤ most from ⟨by omega, by omega⟩)
  go_enter Try.func165, Try.ntmps165
  go_wp2_with (first | (go_at_call 190; fail) | (go_at_call 137; go_in))
  rw [← HWW.out]
  clear HWW
  refine HI.out.mono ?_
  rintro e w1 ⟨r, rfl, hr, rfl⟩
  rcases hr with ⟨h0, j, hj, hbad⟩ | ⟨rfl, hall⟩
  · have HT := hide (tru_no (show ¬ allP x n least most 0 1000000000 from fun h => hbad (h.2 j hj)))
    clear hbad
    go_wp2
    go_ret
    exact ⟨retBa HT.out.symm, HBW.out⟩
  · have HT := hide (tru_yes (show allP x n least most 0 1000000000 from ⟨HL.out, hall⟩))
    clear hall
    go_wp2
    go_ret
    exact ⟨retBa HT.out.symm, HBW.out⟩
theorem small_isBalance (v : Int) (w : World) : Calls Try.prog 95 #[.int .i64 v] w fun e w' => e = .returned (.bool (inB v (-1000000000) 1000000000)) ∧ w = w' := by
  go_enter Try.func95, Try.ntmps95
  go_wp2_with (first | (go_at_call 92; refine (implWithin_any _ _ _ _).mono ?_; rintro e w' ⟨rfl, rfl⟩) | go_in)
  go_ret
  exact ⟨rfl, rfl⟩
set_option maxHeartbeats 2000000 in
theorem not_isBalance (v : Int) (P : Nat) (w : World) (h : w.heap[P]? = some (.cells #[.func (Fn.func 95) #[] #[]] 100)) : Calls Try.prog 203 #[.int .i64 v, .pointer (some ⟨P, 0, none⟩)] w fun e w' => e = .returned (.bool (!inB v (-1000000000) 1000000000)) ∧ w = w' := by
  have k0 := Joins.cell_of_block h 0
  simp at k0
  clear h
  go_enter Try.func203, Try.ntmps203
  go_wp2_with fail
  refine (small_isBalance _ _).mono ?_
  rintro e w' ⟨rfl, rfl⟩
  go_wp2
  go_ret
  exact ⟨rfl, rfl⟩
set_option maxHeartbeats 4000000 in
theorem index_isBalance (A : Option Addr) (n c : Nat) (x : Nat → Int) (P : Nat) (w : World) (hn : n ≤ maxLen) (hs : SL w A n (fun j => .int .i64 (x j))) (h : w.heap[P]? = some (.cells #[.func (Fn.func 95) #[] #[]] 100)) :
    Calls Try.prog 190 #[.slice A n c, .func (Fn.func 203) #[] #[.pointer (some ⟨P, 0, none⟩)]] w fun e w' => ∃ r : Int, e = .returned (.int .i64 r) ∧ ((0 ≤ r ∧ ∃ j, j < n ∧ ¬ ((-1000000000) ≤ x j ∧ x j ≤ 1000000000)) ∨ (r = -1 ∧ ∀ j, j < n → (-1000000000) ≤ x j ∧ x j ≤ 1000000000)) ∧ w = w' := by
  unfold maxLen at hn
  have HC := cells_a hs
  have HP := hide h
  clear hs h
  go_enter Try.func190, Try.ntmps190
  go_wp2
  go_loop [5, 8] (fun _ i => ∃ k : Nat, k ≤ n ∧ i = .int .i64 k ∧ Hid (∀ j, j < k → (-1000000000) ≤ x j ∧ x j ≤ 1000000000)) (fun _ i => n - (intOf i).toNat)
  case atStart => exact ⟨0, Nat.zero_le _, rfl, fun j hj => absurd hj (by omega)⟩
  case round =>
    obtain ⟨k, hk, rfl, hg⟩ := hrel
    by_cases hlt : k < n
    · obtain ⟨b1, off, rfl, hb1, hxk⟩ := HC.out k hlt
      cases hp : inB (x k) (-1000000000) 1000000000
      · have HE := hide (inB_niff.1 hp)
        go_wp2_with fail
        refine (not_isBalance _ _ _ HP.out).mono ?_
        rw [hp]
        rintro e w' ⟨rfl, rfl⟩
        go_wp2
        go_ret
        exact ⟨_, rfl, .inl ⟨by omega, k, hlt, HE.out⟩, rfl⟩
      · have HE := hide (inB_iff.1 hp)
        go_wp2_with fail
        refine (not_isBalance _ _ _ HP.out).mono ?_
        rw [hp]
        rintro e w' ⟨rfl, rfl⟩
        clear hp
        go_wp2
        go_round
        case rel => exact ⟨k + 1, by omega, by go_num, by
          intro j hj
          by_cases hjk : j = k
          · subst hjk; exact HE.out
          · exact hg.out j (by omega)⟩
        case measure => simp [intOf]; omega
    · go_wp2
      go_ret
      obtain rfl : k = n := by omega
      exact ⟨_, rfl, .inr ⟨rfl, hg.out⟩, rfl⟩
set_option maxHeartbeats 4000000 in
theorem areAll_isBalance (A : Option Addr) (n c : Nat) (x : Nat → Int) (least most : Int) (w : World) (hn : n ≤ maxLen) (hs : SL w A n (fun j => .int .i64 (x j))) :
    Calls Try.prog 165 #[.slice A n c, .int .i64 least, .int .i64 most, .func (Fn.func 95) #[] #[]] w fun e w' => e = .returned (.bool (tru (allP x n least most (-1000000000) 1000000000))) ∧ Below w.heap.size w w' := by
  obtain ⟨W, hW⟩ : ∃ u, u = w.alloc (.cells #[.func (Fn.func 95) #[] #[]] 100) := ⟨_, rfl⟩
  have HBW : Hid (Below w.heap.size w W) := by rw [hW]; exact (Below.refl w.heap.size w).alloc (Nat.le_refl _) _
  have HX : Hid (W.heap[w.heap.size]? = some (.cells #[.func (Fn.func 95) #[] #[]] 100)) := by rw [hW]; exact blocks1 w _
  have HI := hide (index_isBalance A n c x w.heap.size W hn (hs.below HBW.out) HX.out)
  have HBE := hide (show Below w.heap.size w (w.alloc (.cells #[.func (Fn.func 95) #[] #[]] 100)) from (Below.refl w.heap.size w).alloc (Nat.le_refl _) _)
  have HWW := hide hW
  unfold maxLen at hn
  clear hs hW
  by_cases h1 : (n : Int) < least
  · have HT := hide (tru_no (show ¬ allP x n least most (-1000000000) 1000000000 from fun h => by have := h.1.1; omega))
    go_enter Try.func165, Try.ntmps165
    go_wp2
    go_ret
    exact ⟨retBa HT.out.symm, HBE.out⟩
  have h1d : decide ((n : Int) < least) = false := decide_eq_false h1
  by_cases h2 : most < (n : Int)
  · have HT := hide (tru_no (show ¬ allP x n least most (-1000000000) 1000000000 from fun h => by have := h.1.2; omega))
    go_enter Try.func165, Try.ntmps165
    go_wp2
    go_ret
    exact ⟨retBa HT.out.symm, HBE.out⟩
  have h2d : decide (most < (n : Int)) = false := decide_eq_false h2
  have HL := hide (show least ≤ (n : Int) ∧ (n : Int) ≤ most from ⟨by omega, by omega⟩)
  go_enter Try.func165, Try.ntmps165
  go_wp2_with (first | (go_at_call 190; fail) | (go_at_call 137; go_in))
  rw [← HWW.out]
  clear HWW
  refine HI.out.mono ?_
  rintro e w1 ⟨r, rfl, hr, rfl⟩
  rcases hr with ⟨h0, j, hj, hbad⟩ | ⟨rfl, hall⟩
  · have HT := hide (tru_no (show ¬ allP x n least most (-1000000000) 1000000000 from fun h => hbad (h.2 j hj)))
    clear hbad
    go_wp2
    go_ret
    exact ⟨retBa HT.out.symm, HBW.out⟩
  · have HT := hide (tru_yes (show allP x n least most (-1000000000) 1000000000 from ⟨HL.out, hall⟩))
    clear hall
    go_wp2
    go_ret
    exact ⟨retBa HT.out.symm, HBW.out⟩
theorem small_isAmount (v : Int) (w : World) : Calls Try.prog 133 #[.int .i64 v] w fun e w' => e = .returned (.bool (inB v 0 1000000000000)) ∧ w = w' := implAmount_any v w
set_option maxHeartbeats 2000000 in
theorem not_isAmount (v : Int) (P : Nat) (w : World) (h : w.heap[P]? = some (.cells #[.func (Fn.func 133) #[] #[]] 100)) : Calls Try.prog 203 #[.int .i64 v, .pointer (some ⟨P, 0, none⟩)] w fun e w' => e = .returned (.bool (!inB v 0 1000000000000)) ∧ w = w' := by
  have k0 := Joins.cell_of_block h 0
  simp at k0
  clear h
  go_enter Try.func203, Try.ntmps203
  go_wp2_with fail
  refine (small_isAmount _ _).mono ?_
  rintro e w' ⟨rfl, rfl⟩
  go_wp2
  go_ret
  exact ⟨rfl, rfl⟩
set_option maxHeartbeats 4000000 in
theorem index_isAmount (A : Option Addr) (n c : Nat) (x : Nat → Int) (P : Nat) (w : World) (hn : n ≤ maxLen) (hs : SL w A n (fun j => .int .i64 (x j))) (h : w.heap[P]? = some (.cells #[.func (Fn.func 133) #[] #[]] 100)) :
    Calls Try.prog 190 #[.slice A n c, .func (Fn.func 203) #[] #[.pointer (some ⟨P, 0, none⟩)]] w fun e w' => ∃ r : Int, e = .returned (.int .i64 r) ∧ ((0 ≤ r ∧ ∃ j, j < n ∧ ¬ (0 ≤ x j ∧ x j ≤ 1000000000000)) ∨ (r = -1 ∧ ∀ j, j < n → 0 ≤ x j ∧ x j ≤ 1000000000000)) ∧ w = w' := by
  unfold maxLen at hn
  have HC := cells_a hs
  have HP := hide h
  clear hs h
  go_enter Try.func190, Try.ntmps190
  go_wp2
  go_loop [5, 8] (fun _ i => ∃ k : Nat, k ≤ n ∧ i = .int .i64 k ∧ Hid (∀ j, j < k → 0 ≤ x j ∧ x j ≤ 1000000000000)) (fun _ i => n - (intOf i).toNat)
  case atStart => exact ⟨0, Nat.zero_le _, rfl, fun j hj => absurd hj (by omega)⟩
  case round =>
    obtain ⟨k, hk, rfl, hg⟩ := hrel
    by_cases hlt : k < n
    · obtain ⟨b1, off, rfl, hb1, hxk⟩ := HC.out k hlt
      cases hp : inB (x k) 0 1000000000000
      · have HE := hide (inB_niff.1 hp)
        go_wp2_with fail
        refine (not_isAmount _ _ _ HP.out).mono ?_
        rw [hp]
        rintro e w' ⟨rfl, rfl⟩
        go_wp2
        go_ret
        exact ⟨_, rfl, .inl ⟨by omega, k, hlt, HE.out⟩, rfl⟩
      · have HE := hide (inB_iff.1 hp)
        go_wp2_with fail
        refine (not_isAmount _ _ _ HP.out).mono ?_
        rw [hp]
        rintro e w' ⟨rfl, rfl⟩
        clear hp
        go_wp2
        go_round
        case rel => exact ⟨k + 1, by omega, by go_num, by
          intro j hj
          by_cases hjk : j = k
          · subst hjk; exact HE.out
          · exact hg.out j (by omega)⟩
        case measure => simp [intOf]; omega
    · go_wp2
      go_ret
      obtain rfl : k = n := by omega
      exact ⟨_, rfl, .inr ⟨rfl, hg.out⟩, rfl⟩
set_option maxHeartbeats 4000000 in
theorem areAll_isAmount (A : Option Addr) (n c : Nat) (x : Nat → Int) (least most : Int) (w : World) (hn : n ≤ maxLen) (hs : SL w A n (fun j => .int .i64 (x j))) :
    Calls Try.prog 165 #[.slice A n c, .int .i64 least, .int .i64 most, .func (Fn.func 133) #[] #[]] w fun e w' => e = .returned (.bool (tru (allP x n least most 0 1000000000000))) ∧ Below w.heap.size w w' := by
  obtain ⟨W, hW⟩ : ∃ u, u = w.alloc (.cells #[.func (Fn.func 133) #[] #[]] 100) := ⟨_, rfl⟩
  have HBW : Hid (Below w.heap.size w W) := by rw [hW]; exact (Below.refl w.heap.size w).alloc (Nat.le_refl _) _
  have HX : Hid (W.heap[w.heap.size]? = some (.cells #[.func (Fn.func 133) #[] #[]] 100)) := by rw [hW]; exact blocks1 w _
  have HI := hide (index_isAmount A n c x w.heap.size W hn (hs.below HBW.out) HX.out)
  have HBE := hide (show Below w.heap.size w (w.alloc (.cells #[.func (Fn.func 133) #[] #[]] 100)) from (Below.refl w.heap.size w).alloc (Nat.le_refl _) _)
  have HWW := hide hW
  unfold maxLen at hn
  clear hs hW
  by_cases h1 : (n : Int) < least
  · have HT := hide (tru_no (show ¬ allP x n least most 0 1000000000000 from fun h => by have := h.1.1; omega))
    go_enter Try.func165, Try.ntmps165
    go_wp2
    go_ret
    exact ⟨retBa HT.out.symm, HBE.out⟩
  have h1d : decide ((n : Int) < least) = false := decide_eq_false h1
  by_cases h2 : most < (n : Int)
  · have HT := hide (tru_no (show ¬ allP x n least most 0 1000000000000 from fun h => by have := h.1.2; omega))
    go_enter Try.func165, Try.ntmps165
    go_wp2
    go_ret
    exact ⟨retBa HT.out.symm, HBE.out⟩
  have h2d : decide (most < (n : Int)) = false := decide_eq_false h2
  have HL := hide (show least ≤ (n : Int) ∧ (n : Int) ≤ most from ⟨by omega, by omega⟩)
  go_enter Try.func165, Try.ntmps165
  go_wp2_with (first | (go_at_call 190; fail) | (go_at_call 137; go_in))
  rw [← HWW.out]
  clear HWW
  refine HI.out.mono ?_
  rintro e w1 ⟨r, rfl, hr, rfl⟩
  rcases hr with ⟨h0, j, hj, hbad⟩ | ⟨rfl, hall⟩
  · have HT := hide (tru_no (show ¬ allP x n least most 0 1000000000000 from fun h => hbad (h.2 j hj)))
    clear hbad
    go_wp2
    go_ret
    exact ⟨retBa HT.out.symm, HBW.out⟩
  · have HT := hide (tru_yes (show allP x n least most 0 1000000000000 from ⟨HL.out, hall⟩))
    clear hall
    go_wp2
    go_ret
    exact ⟨retBa HT.out.symm, HBW.out⟩
theorem small_isRate (v : Int) (w : World) : Calls Try.prog 139 #[.int .i64 v] w fun e w' => e = .returned (.bool (inB v 0 10000)) ∧ w = w' := implRate_any v w
set_option maxHeartbeats 2000000 in
theorem not_isRate (v : Int) (P : Nat) (w : World) (h : w.heap[P]? = some (.cells #[.func (Fn.func 139) #[] #[]] 100)) : Calls Try.prog 203 #[.int .i64 v, .pointer (some ⟨P, 0, none⟩)] w fun e w' => e = .returned (.bool (!inB v 0 10000)) ∧ w = w' := by
  have k0 := Joins.cell_of_block h 0
  simp at k0
  clear h
  go_enter Try.func203, Try.ntmps203
  go_wp2_with fail
  refine (small_isRate _ _).mono ?_
  rintro e w' ⟨rfl, rfl⟩
  go_wp2
  go_ret
  exact ⟨rfl, rfl⟩
set_option maxHeartbeats 4000000 in
theorem index_isRate (A : Option Addr) (n c : Nat) (x : Nat → Int) (P : Nat) (w : World) (hn : n ≤ maxLen) (hs : SL w A n (fun j => .int .i64 (x j))) (h : w.heap[P]? = some (.cells #[.func (Fn.func 139) #[] #[]] 100)) :
    Calls Try.prog 190 #[.slice A n c, .func (Fn.func 203) #[] #[.pointer (some ⟨P, 0, none⟩)]] w fun e w' => ∃ r : Int, e = .returned (.int .i64 r) ∧ ((0 ≤ r ∧ ∃ j, j < n ∧ ¬ (0 ≤ x j ∧ x j ≤ 10000)) ∨ (r = -1 ∧ ∀ j, j < n → 0 ≤ x j ∧ x j ≤ 10000)) ∧ w = w' := by
  unfold maxLen at hn
  have HC := cells_a hs
  have HP := hide h
  clear hs h
  go_enter Try.func190, Try.ntmps190
  go_wp2
  go_loop [5, 8] (fun _ i => ∃ k : Nat, k ≤ n ∧ i = .int .i64 k ∧ Hid (∀ j, j < k → 0 ≤ x j ∧ x j ≤ 10000)) (fun _ i => n - (intOf i).toNat)
  case atStart => exact ⟨0, Nat.zero_le _, rfl, fun j hj => absurd hj (by omega)⟩
  case round =>
    obtain ⟨k, hk, rfl, hg⟩ := hrel
    by_cases hlt : k < n
    · obtain ⟨b1, off, rfl, hb1, hxk⟩ := HC.out k hlt
      cases hp : inB (x k) 0 10000
      · have HE := hide (inB_niff.1 hp)
        go_wp2_with fail
        refine (not_isRate _ _ _ HP.out).mono ?_
        rw [hp]
        rintro e w' ⟨rfl, rfl⟩
        go_wp2
        go_ret
        exact ⟨_, rfl, .inl ⟨by omega, k, hlt, HE.out⟩, rfl⟩
      · have HE := hide (inB_iff.1 hp)
        go_wp2_with fail
        refine (not_isRate _ _ _ HP.out).mono ?_
        rw [hp]
        rintro e w' ⟨rfl, rfl⟩
        clear hp
        go_wp2
        go_round
        case rel => exact ⟨k + 1, by omega, by go_num, by
          intro j hj
          by_cases hjk : j = k
          · subst hjk; exact HE.out
          · exact hg.out j (by omega)⟩
        case measure => simp [intOf]; omega
    · go_wp2
      go_ret
      obtain rfl : k = n := by omega
      exact ⟨_, rfl, .inr ⟨rfl, hg.out⟩, rfl⟩
set_option maxHeartbeats 4000000 in
theorem areAll_isRate (A : Option Addr) (n c : Nat) (x : Nat → Int) (least most : Int) (w : World) (hn : n ≤ maxLen) (hs : SL w A n (fun j => .int .i64 (x j))) :
    Calls Try.prog 165 #[.slice A n c, .int .i64 least, .int .i64 most, .func (Fn.func 139) #[] #[]] w fun e w' => e = .returned (.bool (tru (allP x n least most 0 10000))) ∧ Below w.heap.size w w' := by
  obtain ⟨W, hW⟩ : ∃ u, u = w.alloc (.cells #[.func (Fn.func 139) #[] #[]] 100) := ⟨_, rfl⟩
  have HBW : Hid (Below w.heap.size w W) := by rw [hW]; exact (Below.refl w.heap.size w).alloc (Nat.le_refl _) _
  have HX : Hid (W.heap[w.heap.size]? = some (.cells #[.func (Fn.func 139) #[] #[]] 100)) := by rw [hW]; exact blocks1 w _
  have HI := hide (index_isRate A n c x w.heap.size W hn (hs.below HBW.out) HX.out)
  have HBE := hide (show Below w.heap.size w (w.alloc (.cells #[.func (Fn.func 139) #[] #[]] 100)) from (Below.refl w.heap.size w).alloc (Nat.le_refl _) _)
  have HWW := hide hW
  unfold maxLen at hn
  clear hs hW
  by_cases h1 : (n : Int) < least
  · have HT := hide (tru_no (show ¬ allP x n least most 0 10000 from fun h => by have := h.1.1; omega))
    go_enter Try.func165, Try.ntmps165
    go_wp2
    go_ret
    exact ⟨retBa HT.out.symm, HBE.out⟩
  have h1d : decide ((n : Int) < least) = false := decide_eq_false h1
  by_cases h2 : most < (n : Int)
  · have HT := hide (tru_no (show ¬ allP x n least most 0 10000 from fun h => by have := h.1.2; omega))
    go_enter Try.func165, Try.ntmps165
    go_wp2
    go_ret
    exact ⟨retBa HT.out.symm, HBE.out⟩
  have h2d : decide (most < (n : Int)) = false := decide_eq_false h2
  have HL := hide (show least ≤ (n : Int) ∧ (n : Int) ≤ most from ⟨by omega, by omega⟩)
  go_enter Try.func165, Try.ntmps165
  go_wp2_with (first | (go_at_call 190; fail) | (go_at_call 137; go_in))
  rw [← HWW.out]
  clear HWW
  refine HI.out.mono ?_
  rintro e w1 ⟨r, rfl, hr, rfl⟩
  rcases hr with ⟨h0, j, hj, hbad⟩ | ⟨rfl, hall⟩
  · have HT := hide (tru_no (show ¬ allP x n least most 0 10000 from fun h => hbad (h.2 j hj)))
    clear hbad
    go_wp2
    go_ret
    exact ⟨retBa HT.out.symm, HBW.out⟩
  · have HT := hide (tru_yes (show allP x n least most 0 10000 from ⟨HL.out, hall⟩))
    clear hall
    go_wp2
    go_ret
    exact ⟨retBa HT.out.symm, HBW.out⟩
theorem small_isIncome (v : Int) (w : World) : Calls Try.prog 176 #[.int .i64 v] w fun e w' => e = .returned (.bool (inB v 0 1000000000)) ∧ w = w' := by
  go_enter Try.func176, Try.ntmps176
  go_wp2_with (first | (go_at_call 92; refine (implWithin_any _ _ _ _).mono ?_; rintro e w' ⟨rfl, rfl⟩) | go_in)
  go_ret
  exact ⟨rfl, rfl⟩
set_option maxHeartbeats 2000000 in
theorem not_isIncome (v : Int) (P : Nat) (w : World) (h : w.heap[P]? = some (.cells #[.func (Fn.func 176) #[] #[]] 100)) : Calls Try.prog 203 #[.int .i64 v, .pointer (some ⟨P, 0, none⟩)] w fun e w' => e = .returned (.bool (!inB v 0 1000000000)) ∧ w = w' := by
  have k0 := Joins.cell_of_block h 0
  simp at k0
  clear h
  go_enter Try.func203, Try.ntmps203
  go_wp2_with fail
  refine (small_isIncome _ _).mono ?_
  rintro e w' ⟨rfl, rfl⟩
  go_wp2
  go_ret
  exact ⟨rfl, rfl⟩
set_option maxHeartbeats 4000000 in
theorem index_isIncome (A : Option Addr) (n c : Nat) (x : Nat → Int) (P : Nat) (w : World) (hn : n ≤ maxLen) (hs : SL w A n (fun j => .int .i64 (x j))) (h : w.heap[P]? = some (.cells #[.func (Fn.func 176) #[] #[]] 100)) :
    Calls Try.prog 190 #[.slice A n c, .func (Fn.func 203) #[] #[.pointer (some ⟨P, 0, none⟩)]] w fun e w' => ∃ r : Int, e = .returned (.int .i64 r) ∧ ((0 ≤ r ∧ ∃ j, j < n ∧ ¬ (0 ≤ x j ∧ x j ≤ 1000000000)) ∨ (r = -1 ∧ ∀ j, j < n → 0 ≤ x j ∧ x j ≤ 1000000000)) ∧ w = w' := by
  unfold maxLen at hn
  have HC := cells_a hs
  have HP := hide h
  clear hs h
  go_enter Try.func190, Try.ntmps190
  go_wp2
  go_loop [5, 8] (fun _ i => ∃ k : Nat, k ≤ n ∧ i = .int .i64 k ∧ Hid (∀ j, j < k → 0 ≤ x j ∧ x j ≤ 1000000000)) (fun _ i => n - (intOf i).toNat)
  case atStart => exact ⟨0, Nat.zero_le _, rfl, fun j hj => absurd hj (by omega)⟩
  case round =>
    obtain ⟨k, hk, rfl, hg⟩ := hrel
    by_cases hlt : k < n
    · obtain ⟨b1, off, rfl, hb1, hxk⟩ := HC.out k hlt
      cases hp : inB (x k) 0 1000000000
      · have HE := hide (inB_niff.1 hp)
        go_wp2_with fail
        refine (not_isIncome _ _ _ HP.out).mono ?_
        rw [hp]
        rintro e w' ⟨rfl, rfl⟩
        go_wp2
        go_ret
        exact ⟨_, rfl, .inl ⟨by omega, k, hlt, HE.out⟩, rfl⟩
      · have HE := hide (inB_iff.1 hp)
        go_wp2_with fail
        refine (not_isIncome _ _ _ HP.out).mono ?_
        rw [hp]
        rintro e w' ⟨rfl, rfl⟩
        clear hp
        go_wp2
        go_round
        case rel => exact ⟨k + 1, by omega, by go_num, by
          intro j hj
          by_cases hjk : j = k
          · subst hjk; exact HE.out
          · exact hg.out j (by omega)⟩
        case measure => simp [intOf]; omega
    · go_wp2
      go_ret
      obtain rfl : k = n := by omega
      exact ⟨_, rfl, .inr ⟨rfl, hg.out⟩, rfl⟩
set_option maxHeartbeats 4000000 in
theorem areAll_isIncome (A : Option Addr) (n c : Nat) (x : Nat → Int) (least most : Int) (w : World) (hn : n ≤ maxLen) (hs : SL w A n (fun j => .int .i64 (x j))) :
    Calls Try.prog 165 #[.slice A n c, .int .i64 least, .int .i64 most, .func (Fn.func 176) #[] #[]] w fun e w' => e = .returned (.bool (tru (allP x n least most 0 1000000000))) ∧ Below w.heap.size w w' := by
  obtain ⟨W, hW⟩ : ∃ u, u = w.alloc (.cells #[.func (Fn.func 176) #[] #[]] 100) := ⟨_, rfl⟩
  have HBW : Hid (Below w.heap.size w W) := by rw [hW]; exact (Below.refl w.heap.size w).alloc (Nat.le_refl _) _
  have HX : Hid (W.heap[w.heap.size]? = some (.cells #[.func (Fn.func 176) #[] #[]] 100)) := by rw [hW]; exact blocks1 w _
  have HI := hide (index_isIncome A n c x w.heap.size W hn (hs.below HBW.out) HX.out)
  have HBE := hide (show Below w.heap.size w (w.alloc (.cells #[.func (Fn.func 176) #[] #[]] 100)) from (Below.refl w.heap.size w).alloc (Nat.le_refl _) _)
  have HWW := hide hW
  unfold maxLen at hn
  clear hs hW
  by_cases h1 : (n : Int) < least
  · have HT := hide (tru_no (show ¬ allP x n least most 0 1000000000 from fun h => by have := h.1.1; omega))
    go_enter Try.func165, Try.ntmps165
    go_wp2
    go_ret
    exact ⟨retBa HT.out.symm, HBE.out⟩
  have h1d : decide ((n : Int) < least) = false := decide_eq_false h1
  by_cases h2 : most < (n : Int)
  · have HT := hide (tru_no (show ¬ allP x n least most 0 1000000000 from fun h => by have := h.1.2; omega))
    go_enter Try.func165, Try.ntmps165
    go_wp2
    go_ret
    exact ⟨retBa HT.out.symm, HBE.out⟩
  have h2d : decide (most < (n : Int)) = false := decide_eq_false h2
  have HL := hide (show least ≤ (n : Int) ∧ (n : Int) ≤ most from ⟨by omega, by omega⟩)
  go_enter Try.func165, Try.ntmps165
  go_wp2_with (first | (go_at_call 190; fail) | (go_at_call 137; go_in))
  rw [← HWW.out]
  clear HWW
  refine HI.out.mono ?_
  rintro e w1 ⟨r, rfl, hr, rfl⟩
  rcases hr with ⟨h0, j, hj, hbad⟩ | ⟨rfl, hall⟩
  · have HT := hide (tru_no (show ¬ allP x n least most 0 1000000000 from fun h => hbad (h.2 j hj)))
    clear hbad
    go_wp2
    go_ret
    exact ⟨retBa HT.out.symm, HBW.out⟩
  · have HT := hide (tru_yes (show allP x n least most 0 1000000000 from ⟨HL.out, hall⟩))
    clear hall
    go_wp2
    go_ret
    exact ⟨retBa HT.out.symm, HBW.out⟩
theorem psum_abs {x : Nat → Int} {n : Nat} {M : Int} (h : ∀ j, j < n → -M ≤ x j ∧ x j ≤ M) : ∀ k, k ≤ n → -(M * k) ≤ psum x k ∧ psum x k ≤ M * k
  | 0, _ => by simp [psum]
  | k + 1, hk => by
    have h1 := psum_abs h k (by omega)
    have h2 := h k (by omega)
    rw [psum_succ]; push_cast; rw [Int.mul_add]; omega
set_option maxHeartbeats 4000000 in
theorem sumBy_itself (A : Option Addr) (n c : Nat) (x : Nat → Int) (w : World) (hn : n ≤ 1048576) (hx : ∀ j, j < n → -1000000000000 ≤ x j ∧ x j ≤ 1000000000000) (hs : SL w A n (fun j => .int .i64 (x j))) :
    Calls Try.prog 87 #[.slice A n c, .func (Fn.func 86) #[] #[]] w fun e w' => e = .returned (.int .i64 (psum x n)) ∧ w = w' := by
  have HC := cells_a hs
  have HX := hide hx
  clear hs hx
  go_enter Try.func87, Try.ntmps87
  go_wp2
  go_loop [5, 7, 10] (fun s _ i => ∃ (k : Nat) (S : Int), k ≤ n ∧ i = .int .i64 k ∧ s = .int .i64 S ∧ Hid (S = psum x k)) (fun _ _ i => n - (intOf i).toNat)
  case atStart => exact ⟨0, 0, Nat.zero_le _, rfl, rfl, rfl⟩
  case round =>
    obtain ⟨k, S, hk, rfl, rfl, hS⟩ := hrel
    by_cases hlt : k < n
    · obtain ⟨b1, off, rfl, hb1, hxk⟩ := HC.out k hlt
      obtain ⟨x0, x1⟩ := HX.out k hlt
      obtain ⟨s0, s1⟩ := psum_abs HX.out k hk
      rw [← hS.out] at s0 s1
      have s2 : -1048576000000000000 ≤ S := by omega
      have s3 : S ≤ 1048576000000000000 := by omega
      clear s0 s1
      go_wp2_with (go_at_call 86; go_in)
      go_round
      case rel => exact ⟨k + 1, _, by omega, by go_num, rfl, by show S + x k = psum x (k + 1); rw [psum_succ, hS.out]⟩
      case measure => simp [intOf]; omega
    · have HE := hide (show S = psum x n by rw [hS.out]; rw [show k = n by omega])
      go_wp2
      go_ret
      exact ⟨reti HE.out, rfl⟩
end Go.Proofs.Ytjndhcdanpnniaa
