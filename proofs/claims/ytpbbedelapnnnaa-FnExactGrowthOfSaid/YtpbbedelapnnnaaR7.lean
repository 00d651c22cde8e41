/- Bools of 32-bit numbers, and lists of which all are as told, by both. -/
import Derived.Test.YtpbbedelapnnnaaFb
import Derived.Test.YtpbbedelapnnnaaFin
import Derived.Test.YtpbbedelapnnnaaSums
import Derived.Laws.EntriesVeiled
namespace Go.Proofs.Ytpbbedelapnnnaa
open Go.RowKit Go.Dues
def gtB (x y : Nat) : Bool := od x y == some .gt
def hdB (x : Nat) : Bool := ffin .f32 x && geB x 0
def abB (x : Nat) : Bool := ffin .f32 x && gtB x 0
def rtB (x : Nat) : Bool := ffin .f32 x && gtB x 3212836864
theorem od_same {x x' y : Nat} (h : FS .f32 x x') : od x y = od x' y := order_same h (FS.refl _ _)
theorem hdB_same {x y : Nat} (h : FS .f32 x y) : hdB x = hdB y := by unfold hdB geB; rw [ffin_same h, od_same h]
theorem abB_same {x y : Nat} (h : FS .f32 x y) : abB x = abB y := by unfold abB gtB; rw [ffin_same h, od_same h]
theorem rtB_same {x y : Nat} (h : FS .f32 x y) : rtB x = rtB y := by unfold rtB gtB; rw [ffin_same h, od_same h]
theorem shB_same {x y : Nat} (h : FS .f32 x y) : shB x = shB y := by unfold shB geB leB; rw [od_same h, od_same h]
/-- from least to most numbers that are all as told -/
def allB (B : Nat → Bool) (x : Nat → Nat) (n : Nat) (least most : Int) : Prop := (least ≤ n ∧ n ≤ most) ∧ ∀ j, j < n → B (x j) = true
theorem spec7Fin_any (x : Nat) (w : World) :
    Calls Try.prog 87 #[.float .f32 x] w fun e w' => e = .returned (.bool (ffin .f32 x)) ∧ ∃ n, w' = w.drewN n := by
  go_enter Try.func87, Try.ntmps87
  go_wp2_with (refine wpList_far _ rfl _ _ _ _ _ rfl (by decide) _ _ _ rfl rfl ?_; intro _ _ _)
  go_ret
  exact ⟨by rw [← sub_self_eq0 .f32 x (FR.same (by assumption))]; rfl, _, rfl⟩
theorem specLeast_any (x : Nat) (w : World) : Calls Try.prog 172 #[.float .f32 x] w fun e w' => e = .returned (.bool (hdB x)) ∧ ∃ q, w' = w.drewN q := by
  cases h1 : ffin .f32 x
  · have HB := hide (show hdB x = false by unfold hdB; rw [h1]; rfl)
    go_enter Try.func172, Try.ntmps172
    go_wp2_with fail
    refine (spec7Fin_any _ _).mono ?_
    rw [h1]
    rintro e w' ⟨rfl, q, rfl⟩
    go_wp2
    go_ret
    exact ⟨retBa HB.out.symm, q, rfl⟩
  · have HB := hide (show hdB x = geB x 0 by unfold hdB; rw [h1]; rfl)
    go_enter Try.func172, Try.ntmps172
    go_wp2_with fail
    refine (spec7Fin_any _ _).mono ?_
    rw [h1]
    rintro e w' ⟨rfl, q, rfl⟩
    go_wp2
    go_ret
    exact ⟨retBa HB.out.symm, q, rfl⟩
theorem specAbove_any (x : Nat) (w : World) : Calls Try.prog 85 #[.float .f32 x] w fun e w' => e = .returned (.bool (abB x)) ∧ ∃ q, w' = w.drewN q := by
  cases h1 : ffin .f32 x
  · have HB := hide (show abB x = false by unfold abB; rw [h1]; rfl)
    go_enter Try.func85, Try.ntmps85
    go_wp2_with fail
    refine (spec7Fin_any _ _).mono ?_
    rw [h1]
    rintro e w' ⟨rfl, q, rfl⟩
    go_wp2
    go_ret
    exact ⟨retBa HB.out.symm, q, rfl⟩
  · have HB := hide (show abB x = gtB x 0 by unfold abB; rw [h1]; rfl)
    go_enter Try.func85, Try.ntmps85
    go_wp2_with fail
    refine (spec7Fin_any _ _).mono ?_
    rw [h1]
    rintro e w' ⟨rfl, q, rfl⟩
    go_wp2
    go_ret
    exact ⟨retBa HB.out.symm, q, rfl⟩
theorem implHeads_any (x : Nat) (w : World) : Calls Try.prog 259 #[.float .f32 x] w fun e w' => e = .returned (.bool (hdB x)) ∧ ∃ q, w' = w.drewN q := by
  cases h1 : ffin .f32 x
  · have HB := hide (show hdB x = false by unfold hdB; rw [h1]; rfl)
    go_enter Try.func259, Try.ntmps259
    go_wp2_with fail
    refine (implIsFinite_any _ _).mono ?_
    rw [h1]
    rintro e w' ⟨rfl, q, rfl⟩
    go_wp2
    go_ret
    exact ⟨retBa HB.out.symm, q, rfl⟩
  · have HB := hide (show hdB x = geB x 0 by unfold hdB; rw [h1]; rfl)
    go_enter Try.func259, Try.ntmps259
    go_wp2_with fail
    refine (implIsFinite_any _ _).mono ?_
    rw [h1]
    rintro e w' ⟨rfl, q, rfl⟩
    go_wp2
    go_ret
    exact ⟨retBa HB.out.symm, q, rfl⟩
theorem implAbove_any (x : Nat) (w : World) : Calls Try.prog 141 #[.float .f32 x] w fun e w' => e = .returned (.bool (abB x)) ∧ ∃ q, w' = w.drewN q := by
  cases h1 : ffin .f32 x
  · have HB := hide (show abB x = false by unfold abB; rw [h1]; rfl)
    go_enter Try.func141, Try.ntmps141
    go_wp2_with fail
    refine (implIsFinite_any _ _).mono ?_
    rw [h1]
    rintro e w' ⟨rfl, q, rfl⟩
    go_wp2
    go_ret
    exact ⟨retBa HB.out.symm, q, rfl⟩
  · have HB := hide (show abB x = gtB x 0 by unfold abB; rw [h1]; rfl)
    go_enter Try.func141, Try.ntmps141
    go_wp2_with fail
    refine (implIsFinite_any _ _).mono ?_
    rw [h1]
    rintro e w' ⟨rfl, q, rfl⟩
    go_wp2
    go_ret
    exact ⟨retBa HB.out.symm, q, rfl⟩
theorem implShare7_any (x : Nat) (w : World) : Calls Try.prog 97 #[.float .f32 x] w fun e w' => e = .returned (.bool (shB x)) ∧ ∃ q, w' = w.drewN q :=
  (implShare_any x w).mono fun _ _ ⟨h1, h2⟩ => ⟨h1, 0, h2.symm⟩
set_option maxHeartbeats 4000000 in
theorem specFinL_any (A : Option Addr) (n c : Nat) (x : Nat → Nat) (w : World) (hn : n ≤ maxLen) (hs : SL w A n (fun j => .float .f32 (x j))) :
    Calls Try.prog 86 #[.slice A n c] w fun e w' => e = .returned (.bool (tru (∀ j, j < n → ffin .f32 (x j) = true))) ∧ ∃ q, w' = w.drewN q := by
  unfold maxLen at hn
  have HC := cells_f hs
  clear hs
  go_enter Try.func86, Try.ntmps86
  go_wp2
  go_loopw [3] (fun i wr => ∃ k q : Nat, k ≤ n ∧ i = .int .i64 k ∧ Hid (∀ j, j < k → ffin .f32 (x j) = true) ∧ wr = w.drewN q) (fun i _ => n - (intOf i).toNat)
  case atStart => exact ⟨0, 0, Nat.zero_le _, rfl, fun j hj => absurd hj (by omega), rfl⟩
  case round =>
    obtain ⟨k, q, hk, rfl, hg, rfl⟩ := hrel
    by_cases hlt : k < n
    · obtain ⟨b1, off, rfl, hb1, hxk⟩ := HC.out k hlt
      cases hp : ffin .f32 (x k)
      · have HT := hide (tru_no (show ¬ (∀ j, j < n → ffin .f32 (x j) = true) from fun h => by rw [h k hlt] at hp; cases hp))
        go_wp2_with fail
        refine (spec7Fin_any _ _).mono ?_
        rw [hp]
        rintro e w' ⟨rfl, q2, rfl⟩
        go_wp2
        go_ret
        exact ⟨retBa HT.out.symm, _, rfl⟩
      · have HE := hide hp
        go_wp2_with fail
        refine (spec7Fin_any _ _).mono ?_
        rw [hp]
        rintro e w' ⟨rfl, q2, rfl⟩
        clear hp
        go_wp2
        go_roundw
        case rel => exact ⟨k + 1, _, by omega, by go_num, (by
          intro j hj
          by_cases hjk : j = k
          · subst hjk; exact HE.out
          · exact hg.out j (by omega)), rfl⟩
        case measure => simp [intOf]; omega
    · have HT := hide (tru_yes (show ∀ j, j < n → ffin .f32 (x j) = true from fun j hj => hg.out j (by omega)))
      go_wp2
      go_ret
      exact ⟨retBa HT.out.symm, _, rfl⟩
set_option maxHeartbeats 4000000 in
theorem specAboveL_any (A : Option Addr) (n c : Nat) (x : Nat → Nat) (w : World) (hn : n ≤ maxLen) (hs : SL w A n (fun j => .float .f32 (x j))) :
    Calls Try.prog 136 #[.slice A n c] w fun e w' => e = .returned (.bool (tru (∀ j, j < n → abB (x j) = true))) ∧ ∃ q, w' = w.drewN q := by
  unfold maxLen at hn
  have HC := cells_f hs
  clear hs
  go_enter Try.func136, Try.ntmps136
  go_wp2
  go_loopw [3, 6] (fun _ i wr => ∃ k q : Nat, k ≤ n ∧ i = .int .i64 k ∧ Hid (∀ j, j < k → abB (x j) = true) ∧ wr = w.drewN q) (fun _ i _ => n - (intOf i).toNat)
  case atStart => exact ⟨0, 0, Nat.zero_le _, rfl, fun j hj => absurd hj (by omega), rfl⟩
  case round =>
    obtain ⟨k, q, hk, rfl, hg, rfl⟩ := hrel
    by_cases hlt : k < n
    · obtain ⟨b1, off, rfl, hb1, hxk⟩ := HC.out k hlt
      cases hp : abB (x k)
      · have HT := hide (tru_no (show ¬ (∀ j, j < n → abB (x j) = true) from fun h => by rw [h k hlt] at hp; cases hp))
        go_wp2_with fail
        refine (specAbove_any _ _).mono ?_
        rw [hp]
        rintro e w' ⟨rfl, q2, rfl⟩
        go_wp2
        go_ret
        exact ⟨retBa HT.out.symm, _, rfl⟩
      · have HE := hide hp
        go_wp2_with fail
        refine (specAbove_any _ _).mono ?_
        rw [hp]
        rintro e w' ⟨rfl, q2, rfl⟩
        clear hp
        go_wp2
        go_roundw
        case rel => exact ⟨k + 1, _, by omega, by go_num, (by
          intro j hj
          by_cases hjk : j = k
          · subst hjk; exact HE.out
          · exact hg.out j (by omega)), rfl⟩
        case measure => simp [intOf]; omega
    · have HT := hide (tru_yes (show ∀ j, j < n → abB (x j) = true from fun j hj => hg.out j (by omega)))
      go_wp2
      go_ret
      exact ⟨retBa HT.out.symm, _, rfl⟩
set_option maxHeartbeats 2000000 in
theorem notR_Heads (v : Nat) (P : Nat) (w : World) (h : w.heap[P]? = some (.cells #[.func (Fn.func 259) #[] #[]] 112)) : Calls Try.prog 205 #[.float .f32 v, .pointer (some ⟨P, 0, none⟩)] w fun e w' => e = .returned (.bool (!(hdB v))) ∧ ∃ q, w' = w.drewN q := by
  have k0 := Joins.cell_of_block h 0
  simp at k0
  clear h
  go_enter Try.func205, Try.ntmps205
  go_wp2_with fail
  refine (implHeads_any _ _).mono ?_
  rintro e w' ⟨rfl, q, rfl⟩
  go_wp2
  go_ret
  exact ⟨rfl, _, rfl⟩
set_option maxHeartbeats 4000000 in
theorem indexR_Heads (A : Option Addr) (n c : Nat) (x : Nat → Nat) (P : Nat) (w : World) (hn : n ≤ maxLen) (hs : SL w A n (fun j => .float .f32 (x j))) (h : w.heap[P]? = some (.cells #[.func (Fn.func 259) #[] #[]] 112)) :
    Calls Try.prog 250 #[.slice A n c, .func (Fn.func 205) #[] #[.pointer (some ⟨P, 0, none⟩)]] w fun e w' => ∃ r : Int, e = .returned (.int .i64 r) ∧ ((0 ≤ r ∧ ∃ j, j < n ∧ ¬ hdB (x j) = true) ∨ (r = -1 ∧ ∀ j, j < n → hdB (x j) = true)) ∧ ∃ q, w' = w.drewN q := by
  unfold maxLen at hn
  have HC := cells_f hs
  have HP := hide h
  clear hs h
  go_enter Try.func250, Try.ntmps250
  go_wp2
  go_loopw [5, 8] (fun _ i wr => ∃ k q : Nat, k ≤ n ∧ i = .int .i64 k ∧ Hid (∀ j, j < k → hdB (x j) = true) ∧ wr = w.drewN q) (fun _ i _ => n - (intOf i).toNat)
  case atStart => exact ⟨0, 0, Nat.zero_le _, rfl, fun j hj => absurd hj (by omega), rfl⟩
  case round =>
    obtain ⟨k, q, hk, rfl, hg, rfl⟩ := hrel
    by_cases hlt : k < n
    · obtain ⟨b1, off, rfl, hb1, hxk⟩ := HC.out k hlt
      cases hp : hdB (x k)
      · have HE := hide (show ¬ hdB (x k) = true by rw [hp]; decide)
        go_wp2_with fail
        refine (notR_Heads _ _ _ (show (w.drewN q).heap[P]? = _ from HP.out)).mono ?_
        rw [hp]
        rintro e w' ⟨rfl, q2, rfl⟩
        go_wp2
        go_ret
        exact ⟨_, rfl, .inl ⟨by omega, k, hlt, HE.out⟩, _, rfl⟩
      · have HE := hide hp
        go_wp2_with fail
        refine (notR_Heads _ _ _ (show (w.drewN q).heap[P]? = _ from HP.out)).mono ?_
        rw [hp]
        rintro e w' ⟨rfl, q2, rfl⟩
        clear hp
        go_wp2
        go_roundw
        case rel => exact ⟨k + 1, _, by omega, by go_num, (by
          intro j hj
          by_cases hjk : j = k
          · subst hjk; exact HE.out
          · exact hg.out j (by omega)), rfl⟩
        case measure => simp [intOf]; omega
    · have HE := hide (show ∀ j, j < n → hdB (x j) = true from fun j hj => hg.out j (by omega))
      go_wp2
      go_ret
      exact ⟨_, rfl, .inr ⟨rfl, HE.out⟩, _, rfl⟩
set_option maxHeartbeats 4000000 in
theorem areReals_Heads (A : Option Addr) (n c : Nat) (x : Nat → Nat) (least most : Int) (w : World) (hn : n ≤ maxLen) (hs : SL w A n (fun j => .float .f32 (x j))) :
    Calls Try.prog 140 #[.slice A n c, .int .i64 least, .int .i64 most, .func (Fn.func 259) #[] #[]] w fun e w' => e = .returned (.bool (tru (allB (hdB) x n least most))) ∧ Below w.heap.size w w' := by
  obtain ⟨W, hW⟩ : ∃ u, u = w.alloc (.cells #[.func (Fn.func 259) #[] #[]] 112) := ⟨_, rfl⟩
  have HBW : Hid (Below w.heap.size w W) := by rw [hW]; exact (Below.refl w.heap.size w).alloc (Nat.le_refl _) _
  have HX : Hid (W.heap[w.heap.size]? = some (.cells #[.func (Fn.func 259) #[] #[]] 112)) := by rw [hW]; exact blocks1 w _
  have HI := hide (indexR_Heads A n c x w.heap.size W hn (hs.below HBW.out) HX.out)
  have HBE := hide (show Below w.heap.size w (w.alloc (.cells #[.func (Fn.func 259) #[] #[]] 112)) from (Below.refl w.heap.size w).alloc (Nat.le_refl _) _)
  have HWW := hide hW
  unfold maxLen at hn
  clear hs hW
  by_cases h1 : (n : Int) < least
  · have HT := hide (tru_no (show ¬ allB (hdB) x n least most from fun h => by have := h.1.1; omega))
    go_enter Try.func140, Try.ntmps140
    go_wp2
    go_ret
    exact ⟨retBa HT.out.symm, HBE.out⟩
  have h1d : decide ((n : Int) < least) = false := decide_eq_false h1
  by_cases h2 : most < (n : Int)
  · have HT := hide (tru_no (show ¬ allB (hdB) x n least most from fun h => by have := h.1.2; omega))
    go_enter Try.func140, Try.ntmps140
    go_wp2
    go_ret
    exact ⟨retBa HT.out.symm, HBE.out⟩
  have h2d : decide (most < (n : Int)) = false := decide_eq_false h2
  have HL := hide (show least ≤ (n : Int) ∧ (n : Int) ≤ most from ⟨by omega, by omega⟩)
  go_enter Try.func140, Try.ntmps140
  go_wp2_with (first | (go_at_call 250; fail) | (go_at_call 204; go_in))
  rw [← HWW.out]
  refine HI.out.mono ?_
  rintro e w1 ⟨r, rfl, hr, q, rfl⟩
  rcases hr with ⟨h0, j, hj, hbad⟩ | ⟨rfl, hall⟩
  · have HT := hide (tru_no (show ¬ allB (hdB) x n least most from fun h => hbad (h.2 j hj)))
    clear hbad
    go_wp2
    go_ret
    exact ⟨retBa HT.out.symm, bel_q HBW.out _⟩
  · have HT := hide (tru_yes (show allB (hdB) x n least most from ⟨HL.out, hall⟩))
    clear hall
    go_wp2
    go_ret
    exact ⟨retBa HT.out.symm, bel_q HBW.out _⟩
set_option maxHeartbeats 2000000 in
theorem notR_Share (v : Nat) (P : Nat) (w : World) (h : w.heap[P]? = some (.cells #[.func (Fn.func 97) #[] #[]] 112)) : Calls Try.prog 205 #[.float .f32 v, .pointer (some ⟨P, 0, none⟩)] w fun e w' => e = .returned (.bool (!(shB v))) ∧ ∃ q, w' = w.drewN q := by
  have k0 := Joins.cell_of_block h 0
  simp at k0
  clear h
  go_enter Try.func205, Try.ntmps205
  go_wp2_with fail
  refine (implShare7_any _ _).mono ?_
  rintro e w' ⟨rfl, q, rfl⟩
  go_wp2
  go_ret
  exact ⟨rfl, _, rfl⟩
set_option maxHeartbeats 4000000 in
theorem indexR_Share (A : Option Addr) (n c : Nat) (x : Nat → Nat) (P : Nat) (w : World) (hn : n ≤ maxLen) (hs : SL w A n (fun j => .float .f32 (x j))) (h : w.heap[P]? = some (.cells #[.func (Fn.func 97) #[] #[]] 112)) :
    Calls Try.prog 250 #[.slice A n c, .func (Fn.func 205) #[] #[.pointer (some ⟨P, 0, none⟩)]] w fun e w' => ∃ r : Int, e = .returned (.int .i64 r) ∧ ((0 ≤ r ∧ ∃ j, j < n ∧ ¬ shB (x j) = true) ∨ (r = -1 ∧ ∀ j, j < n → shB (x j) = true)) ∧ ∃ q, w' = w.drewN q := by
  unfold maxLen at hn
  have HC := cells_f hs
  have HP := hide h
  clear hs h
  go_enter Try.func250, Try.ntmps250
  go_wp2
  go_loopw [5, 8] (fun _ i wr => ∃ k q : Nat, k ≤ n ∧ i = .int .i64 k ∧ Hid (∀ j, j < k → shB (x j) = true) ∧ wr = w.drewN q) (fun _ i _ => n - (intOf i).toNat)
  case atStart => exact ⟨0, 0, Nat.zero_le _, rfl, fun j hj => absurd hj (by omega), rfl⟩
  case round =>
    obtain ⟨k, q, hk, rfl, hg, rfl⟩ := hrel
    by_cases hlt : k < n
    · obtain ⟨b1, off, rfl, hb1, hxk⟩ := HC.out k hlt
      cases hp : shB (x k)
      · have HE := hide (show ¬ shB (x k) = true by rw [hp]; decide)
        go_wp2_with fail
        refine (notR_Share _ _ _ (show (w.drewN q).heap[P]? = _ from HP.out)).mono ?_
        rw [hp]
        rintro e w' ⟨rfl, q2, rfl⟩
        go_wp2
        go_ret
        exact ⟨_, rfl, .inl ⟨by omega, k, hlt, HE.out⟩, _, rfl⟩
      · have HE := hide hp
        go_wp2_with fail
        refine (notR_Share _ _ _ (show (w.drewN q).heap[P]? = _ from HP.out)).mono ?_
        rw [hp]
        rintro e w' ⟨rfl, q2, rfl⟩
        clear hp
        go_wp2
        go_roundw
        case rel => exact ⟨k + 1, _, by omega, by go_num, (by
          intro j hj
          by_cases hjk : j = k
          · subst hjk; exact HE.out
          · exact hg.out j (by omega)), rfl⟩
        case measure => simp [intOf]; omega
    · have HE := hide (show ∀ j, j < n → shB (x j) = true from fun j hj => hg.out j (by omega))
      go_wp2
      go_ret
      exact ⟨_, rfl, .inr ⟨rfl, HE.out⟩, _, rfl⟩
set_option maxHeartbeats 4000000 in
theorem areReals_Share (A : Option Addr) (n c : Nat) (x : Nat → Nat) (least most : Int) (w : World) (hn : n ≤ maxLen) (hs : SL w A n (fun j => .float .f32 (x j))) :
    Calls Try.prog 140 #[.slice A n c, .int .i64 least, .int .i64 most, .func (Fn.func 97) #[] #[]] w fun e w' => e = .returned (.bool (tru (allB (shB) x n least most))) ∧ Below w.heap.size w w' := by
  obtain ⟨W, hW⟩ : ∃ u, u = w.alloc (.cells #[.func (Fn.func 97) #[] #[]] 112) := ⟨_, rfl⟩
  have HBW : Hid (Below w.heap.size w W) := by rw [hW]; exact (Below.refl w.heap.size w).alloc (Nat.le_refl _) _
  have HX : Hid (W.heap[w.heap.size]? = some (.cells #[.func (Fn.func 97) #[] #[]] 112)) := by rw [hW]; exact blocks1 w _
  have HI := hide (indexR_Share A n c x w.heap.size W hn (hs.below HBW.out) HX.out)
  have HBE := hide (show Below w.heap.size w (w.alloc (.cells #[.func (Fn.func 97) #[] #[]] 112)) from (Below.refl w.heap.size w).alloc (Nat.le_refl _) _)
  have HWW := hide hW
  unfold maxLen at hn
  clear hs hW
  by_cases h1 : (n : Int) < least
  · have HT := hide (tru_no (show ¬ allB (shB) x n least most from fun h => by have := h.1.1; omega))
    go_enter Try.func140, Try.ntmps140
    go_wp2
    go_ret
    exact ⟨retBa HT.out.symm, HBE.out⟩
  have h1d : decide ((n : Int) < least) = false := decide_eq_false h1
  by_cases h2 : most < (n : Int)
  · have HT := hide (tru_no (show ¬ allB (shB) x n least most from fun h => by have := h.1.2; omega))
    go_enter Try.func140, Try.ntmps140
    go_wp2
    go_ret
    exact ⟨retBa HT.out.symm, HBE.out⟩
  have h2d : decide (most < (n : Int)) = false := decide_eq_false h2
  have HL := hide (show least ≤ (n : Int) ∧ (n : Int) ≤ most from ⟨by omega, by omega⟩)
  go_enter Try.func140, Try.ntmps140
  go_wp2_with (first | (go_at_call 250; fail) | (go_at_call 204; go_in))
  rw [← HWW.out]
  refine HI.out.mono ?_
  rintro e w1 ⟨r, rfl, hr, q, rfl⟩
  rcases hr with ⟨h0, j, hj, hbad⟩ | ⟨rfl, hall⟩
  · have HT := hide (tru_no (show ¬ allB (shB) x n least most from fun h => hbad (h.2 j hj)))
    clear hbad
    go_wp2
    go_ret
    exact ⟨retBa HT.out.symm, bel_q HBW.out _⟩
  · have HT := hide (tru_yes (show allB (shB) x n least most from ⟨HL.out, hall⟩))
    clear hall
    go_wp2
    go_ret
    exact ⟨retBa HT.out.symm, bel_q HBW.out _⟩
set_option maxHeartbeats 2000000 in
theorem notR_Above (v : Nat) (P : Nat) (w : World) (h : w.heap[P]? = some (.cells #[.func (Fn.func 141) #[] #[]] 112)) : Calls Try.prog 205 #[.float .f32 v, .pointer (some ⟨P, 0, none⟩)] w fun e w' => e = .returned (.bool (!(abB v))) ∧ ∃ q, w' = w.drewN q := by
  have k0 := Joins.cell_of_block h 0
  simp at k0
  clear h
  go_enter Try.func205, Try.ntmps205
  go_wp2_with fail
  refine (implAbove_any _ _).mono ?_
  rintro e w' ⟨rfl, q, rfl⟩
  go_wp2
  go_ret
  exact ⟨rfl, _, rfl⟩
set_option maxHeartbeats 4000000 in
theorem indexR_Above (A : Option Addr) (n c : Nat) (x : Nat → Nat) (P : Nat) (w : World) (hn : n ≤ maxLen) (hs : SL w A n (fun j => .float .f32 (x j))) (h : w.heap[P]? = some (.cells #[.func (Fn.func 141) #[] #[]] 112)) :
    Calls Try.prog 250 #[.slice A n c, .func (Fn.func 205) #[] #[.pointer (some ⟨P, 0, none⟩)]] w fun e w' => ∃ r : Int, e = .returned (.int .i64 r) ∧ ((0 ≤ r ∧ ∃ j, j < n ∧ ¬ abB (x j) = true) ∨ (r = -1 ∧ ∀ j, j < n → abB (x j) = true)) ∧ ∃ q, w' = w.drewN q := by
  unfold maxLen at hn
  have HC := cells_f hs
  have HP := hide h
  clear hs h
  go_enter Try.func250, Try.ntmps250
  go_wp2
  go_loopw [5, 8] (fun _ i wr => ∃ k q : Nat, k ≤ n ∧ i = .int .i64 k ∧ Hid (∀ j, j < k → abB (x j) = true) ∧ wr = w.drewN q) (fun _ i _ => n - (intOf i).toNat)
  case atStart => exact ⟨0, 0, Nat.zero_le _, rfl, fun j hj => absurd hj (by omega), rfl⟩
  case round =>
    obtain ⟨k, q, hk, rfl, hg, rfl⟩ := hrel
    by_cases hlt : k < n
    · obtain ⟨b1, off, rfl, hb1, hxk⟩ := HC.out k hlt
      cases hp : abB (x k)
      · have HE := hide (show ¬ abB (x k) = true by rw [hp]; decide)
        go_wp2_with fail
        refine (notR_Above _ _ _ (show (w.drewN q).heap[P]? = _ from HP.out)).mono ?_
        rw [hp]
        rintro e w' ⟨rfl, q2, rfl⟩
        go_wp2
        go_ret
        exact ⟨_, rfl, .inl ⟨by omega, k, hlt, HE.out⟩, _, rfl⟩
      · have HE := hide hp
        go_wp2_with fail
        refine (notR_Above _ _ _ (show (w.drewN q).heap[P]? = _ from HP.out)).mono ?_
        rw [hp]
        rintro e w' ⟨rfl, q2, rfl⟩
        clear hp
        go_wp2
        go_roundw
        case rel => exact ⟨k + 1, _, by omega, by go_num, (by
          intro j hj
          by_cases hjk : j = k
          · subst hjk; exact HE.out
          · exact hg.out j (by omega)), rfl⟩
        case measure => simp [intOf]; omega
    · have HE := hide (show ∀ j, j < n → abB (x j) = true from fun j hj => hg.out j (by omega))
      go_wp2
      go_ret
      exact ⟨_, rfl, .inr ⟨rfl, HE.out⟩, _, rfl⟩
set_option maxHeartbeats 4000000 in
theorem areReals_Above (A : Option Addr) (n c : Nat) (x : Nat → Nat) (least most : Int) (w : World) (hn : n ≤ maxLen) (hs : SL w A n (fun j => .float .f32 (x j))) :
    Calls Try.prog 140 #[.slice A n c, .int .i64 least, .int .i64 most, .func (Fn.func 141) #[] #[]] w fun e w' => e = .returned (.bool (tru (allB (abB) x n least most))) ∧ Below w.heap.size w w' := by
  obtain ⟨W, hW⟩ : ∃ u, u = w.alloc (.cells #[.func (Fn.func 141) #[] #[]] 112) := ⟨_, rfl⟩
  have HBW : Hid (Below w.heap.size w W) := by rw [hW]; exact (Below.refl w.heap.size w).alloc (Nat.le_refl _) _
  have HX : Hid (W.heap[w.heap.size]? = some (.cells #[.func (Fn.func 141) #[] #[]] 112)) := by rw [hW]; exact blocks1 w _
  have HI := hide (indexR_Above A n c x w.heap.size W hn (hs.below HBW.out) HX.out)
  have HBE := hide (show Below w.heap.size w (w.alloc (.cells #[.func (Fn.func 141) #[] #[]] 112)) from (Below.refl w.heap.size w).alloc (Nat.le_refl _) _)
  have HWW := hide hW
  unfold maxLen at hn
  clear hs hW
  by_cases h1 : (n : Int) < least
  · have HT := hide (tru_no (show ¬ allB (abB) x n least most from fun h => by have := h.1.1; omega))
    go_enter Try.func140, Try.ntmps140
    go_wp2
    go_ret
    exact ⟨retBa HT.out.symm, HBE.out⟩
  have h1d : decide ((n : Int) < least) = false := decide_eq_false h1
  by_cases h2 : most < (n : Int)
  · have HT := hide (tru_no (show ¬ allB (abB) x n least most from fun h => by have := h.1.2; omega))
    go_enter Try.func140, Try.ntmps140
    go_wp2
    go_ret
    exact ⟨retBa HT.out.symm, HBE.out⟩
  have h2d : decide (most < (n : Int)) = false := decide_eq_false h2
  have HL := hide (show least ≤ (n : Int) ∧ (n : Int) ≤ most from ⟨by omega, by omega⟩)
  go_enter Try.func140, Try.ntmps140
  go_wp2_with (first | (go_at_call 250; fail) | (go_at_call 204; go_in))
  rw [← HWW.out]
  refine HI.out.mono ?_
  rintro e w1 ⟨r, rfl, hr, q, rfl⟩
  rcases hr with ⟨h0, j, hj, hbad⟩ | ⟨rfl, hall⟩
  · have HT := hide (tru_no (show ¬ allB (abB) x n least most from fun h => hbad (h.2 j hj)))
    clear hbad
    go_wp2
    go_ret
    exact ⟨retBa HT.out.symm, bel_q HBW.out _⟩
  · have HT := hide (tru_yes (show allB (abB) x n least most from ⟨HL.out, hall⟩))
    clear hall
    go_wp2
    go_ret
    exact ⟨retBa HT.out.symm, bel_q HBW.out _⟩
set_option maxHeartbeats 2000000 in
theorem notR_Fin (v : Nat) (P : Nat) (w : World) (h : w.heap[P]? = some (.cells #[.func (Fn.func 91) #[] #[]] 112)) : Calls Try.prog 205 #[.float .f32 v, .pointer (some ⟨P, 0, none⟩)] w fun e w' => e = .returned (.bool (!(ffin .f32 v))) ∧ ∃ q, w' = w.drewN q := by
  have k0 := Joins.cell_of_block h 0
  simp at k0
  clear h
  go_enter Try.func205, Try.ntmps205
  go_wp2_with fail
  refine (implIsFinite_any _ _).mono ?_
  rintro e w' ⟨rfl, q, rfl⟩
  go_wp2
  go_ret
  exact ⟨rfl, _, rfl⟩
set_option maxHeartbeats 4000000 in
theorem indexR_Fin (A : Option Addr) (n c : Nat) (x : Nat → Nat) (P : Nat) (w : World) (hn : n ≤ maxLen) (hs : SL w A n (fun j => .float .f32 (x j))) (h : w.heap[P]? = some (.cells #[.func (Fn.func 91) #[] #[]] 112)) :
    Calls Try.prog 250 #[.slice A n c, .func (Fn.func 205) #[] #[.pointer (some ⟨P, 0, none⟩)]] w fun e w' => ∃ r : Int, e = .returned (.int .i64 r) ∧ ((0 ≤ r ∧ ∃ j, j < n ∧ ¬ ffin .f32 (x j) = true) ∨ (r = -1 ∧ ∀ j, j < n → ffin .f32 (x j) = true)) ∧ ∃ q, w' = w.drewN q := by
  unfold maxLen at hn
  have HC := cells_f hs
  have HP := hide h
  clear hs h
  go_enter Try.func250, Try.ntmps250
  go_wp2
  go_loopw [5, 8] (fun _ i wr => ∃ k q : Nat, k ≤ n ∧ i = .int .i64 k ∧ Hid (∀ j, j < k → ffin .f32 (x j) = true) ∧ wr = w.drewN q) (fun _ i _ => n - (intOf i).toNat)
  case atStart => exact ⟨0, 0, Nat.zero_le _, rfl, fun j hj => absurd hj (by omega), rfl⟩
  case round =>
    obtain ⟨k, q, hk, rfl, hg, rfl⟩ := hrel
    by_cases hlt : k < n
    · obtain ⟨b1, off, rfl, hb1, hxk⟩ := HC.out k hlt
      cases hp : ffin .f32 (x k)
      · have HE := hide (show ¬ ffin .f32 (x k) = true by rw [hp]; decide)
        go_wp2_with fail
        refine (notR_Fin _ _ _ (show (w.drewN q).heap[P]? = _ from HP.out)).mono ?_
        rw [hp]
        rintro e w' ⟨rfl, q2, rfl⟩
        go_wp2
        go_ret
        exact ⟨_, rfl, .inl ⟨by omega, k, hlt, HE.out⟩, _, rfl⟩
      · have HE := hide hp
        go_wp2_with fail
        refine (notR_Fin _ _ _ (show (w.drewN q).heap[P]? = _ from HP.out)).mono ?_
        rw [hp]
        rintro e w' ⟨rfl, q2, rfl⟩
        clear hp
        go_wp2
        go_roundw
        case rel => exact ⟨k + 1, _, by omega, by go_num, (by
          intro j hj
          by_cases hjk : j = k
          · subst hjk; exact HE.out
          · exact hg.out j (by omega)), rfl⟩
        case measure => simp [intOf]; omega
    · have HE := hide (show ∀ j, j < n → ffin .f32 (x j) = true from fun j hj => hg.out j (by omega))
      go_wp2
      go_ret
      exact ⟨_, rfl, .inr ⟨rfl, HE.out⟩, _, rfl⟩
set_option maxHeartbeats 4000000 in
theorem areReals_Fin (A : Option Addr) (n c : Nat) (x : Nat → Nat) (least most : Int) (w : World) (hn : n ≤ maxLen) (hs : SL w A n (fun j => .float .f32 (x j))) :
    Calls Try.prog 140 #[.slice A n c, .int .i64 least, .int .i64 most, .func (Fn.func 91) #[] #[]] w fun e w' => e = .returned (.bool (tru (allB (ffin .f32) x n least most))) ∧ Below w.heap.size w w' := by
  obtain ⟨W, hW⟩ : ∃ u, u = w.alloc (.cells #[.func (Fn.func 91) #[] #[]] 112) := ⟨_, rfl⟩
  have HBW : Hid (Below w.heap.size w W) := by rw [hW]; exact (Below.refl w.heap.size w).alloc (Nat.le_refl _) _
  have HX : Hid (W.heap[w.heap.size]? = some (.cells #[.func (Fn.func 91) #[] #[]] 112)) := by rw [hW]; exact blocks1 w _
  have HI := hide (indexR_Fin A n c x w.heap.size W hn (hs.below HBW.out) HX.out)
  have HBE := hide (show Below w.heap.size w (w.alloc (.cells #[.func (Fn.func 91) #[] #[]] 112)) from (Below.refl w.heap.size w).alloc (Nat.le_refl _) _)
  have HWW := hide hW
  unfold maxLen at hn
  clear hs hW
  by_cases h1 : (n : Int) < least
  · have HT := hide (tru_no (show ¬ allB (ffin .f32) x n least most from fun h => by have := h.1.1; omega))
    go_enter Try.func140, Try.ntmps140
    go_wp2
    go_ret
    exact ⟨retBa HT.out.symm, HBE.out⟩
  have h1d : decide ((n : Int) < least) = false := decide_eq_false h1
  by_cases h2 : most < (n : Int)
  · have HT := hide (tru_no (show ¬ allB (ffin .f32) x n least most from fun h => by have := h.1.2; omega))
    go_enter Try.func140, Try.ntmps140
    go_wp2
    go_ret
    exact ⟨retBa HT.out.symm, HBE.out⟩
  have h2d : decide (most < (n : Int)) = false := decide_eq_false h2
  have HL := hide (show least ≤ (n : Int) ∧ (n : Int) ≤ most from ⟨by omega, by omega⟩)
  go_enter Try.func140, Try.ntmps140
  go_wp2_with (first | (go_at_call 250; fail) | (go_at_call 204; go_in))
  rw [← HWW.out]
  refine HI.out.mono ?_
  rintro e w1 ⟨r, rfl, hr, q, rfl⟩
  rcases hr with ⟨h0, j, hj, hbad⟩ | ⟨rfl, hall⟩
  · have HT := hide (tru_no (show ¬ allB (ffin .f32) x n least most from fun h => hbad (h.2 j hj)))
    clear hbad
    go_wp2
    go_ret
    exact ⟨retBa HT.out.symm, bel_q HBW.out _⟩
  · have HT := hide (tru_yes (show allB (ffin .f32) x n least most from ⟨HL.out, hall⟩))
    clear hall
    go_wp2
    go_ret
    exact ⟨retBa HT.out.symm, bel_q HBW.out _⟩
end Go.Proofs.Ytpbbedelapnnnaa
