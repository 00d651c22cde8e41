/- Numbers of two lists that are the same. -/
import Derived.Test.YtbcajjpgpjadaaaFb
import Derived.Test.YtbcajjpgpjadaaaNum
import Derived.Test.YtbcajjpgpjadaaaAl
namespace Go.Proofs.Ytbcajjpgpjadaaa
open Go.RowKit Go.Dues
theorem drewN_add7 (w : World) (a b : Nat) : (w.drewN a).drewN b = w.drewN (a + b) := by unfold World.drewN; simp [Nat.add_assoc]
theorem dr7 {w wr : World} (h : ∃ q, wr = w.drewN q) (b : Nat) : ∃ q, wr.drewN b = w.drewN q := by
  obtain ⟨q, rfl⟩ := h
  exact ⟨_, drewN_add7 _ _ _⟩
def sameP (x : Nat → Nat) (n : Nat) (y : Nat → Nat) (m : Nat) : Prop := n = m ∧ ∀ j, j < n → nbits (x j) = nbits (y j)
theorem implSame7_any (x y : Nat) (w : World) (hx : (Lit.float .f32 x).wf = true) (hy : (Lit.float .f32 y).wf = true) :
    Calls Try.prog 167 #[.float .f32 x, .float .f32 y] w fun e w' => e = .returned (.bool (nbits x == nbits y)) ∧ ∃ n, w' = w.drewN n := by
  go_enter Try.func167, Try.ntmps167
  go_wp2_with (first | (go_at_call 218; refine (implBitsOf_any _ _ (by assumption)).mono ?_; rintro e w' ⟨rfl, n, rfl⟩))
  go_ret
  exact ⟨rfl, _, rfl⟩
theorem specSame1_any (x y : Nat) (w : World) (hx : (Lit.float .f32 x).wf = true) (hy : (Lit.float .f32 y).wf = true) :
    Calls Try.prog 217 #[.float .f32 x, .float .f32 y] w fun e w' => e = .returned (.bool (nbits x == nbits y)) ∧ w = w' := by
  go_enter Try.func217, Try.ntmps217
  go_wp2_with (first | (go_at_call 233; refine (specBits_any _ _ (by assumption)).mono ?_; rintro e w' ⟨rfl, rfl⟩) | go_in)
  go_ret
  exact ⟨rfl, rfl⟩
set_option maxRecDepth 100000 in
set_option maxHeartbeats 4000000 in
theorem specSameAll_any (A : Option Addr) (n c : Nat) (x : Nat → Nat) (B : Option Addr) (m d : Nat) (y : Nat → Nat) (w : World) (hn : n ≤ maxLen) (hs : SL w A n (fun j => .float .f32 (x j))) (hx : ∀ j, j < n → (Lit.float .f32 (x j)).wf = true) (hm : m ≤ maxLen) (hs' : SL w B m (fun j => .float .f32 (y j))) (hy : ∀ j, j < m → (Lit.float .f32 (y j)).wf = true) :
    Calls Try.prog 164 #[.slice A n c, .slice B m d] w fun e w' => e = .returned (.bool (tru (sameP x n y m))) ∧ ∃ q, w' = w.drewN q := by
  have HC := cells_f hs
  have HC' := cells_f hs'
  have HX := hide hx
  have HY := hide hy
  unfold maxLen at hn hm
  clear hs hs' hx hy
  by_cases hnm : (n : Int) = (m : Int)
  rotate_left
  · have hneq : ¬ n = m := fun h => hnm (by rw [h])
    have HT := hide (tru_no (show ¬ sameP x n y m from fun h => hneq h.1))
    go_enter Try.func164, Try.ntmps164
    go_wp2
    go_ret
    exact ⟨retBa HT.out.symm, 0, rfl⟩
  obtain rfl : n = m := by omega
  go_enter Try.func164, Try.ntmps164
  go_wp2
  go_loopw [5] (fun i wr => ∃ k : Nat, k ≤ n ∧ i = .int .i64 k ∧ Hid (∀ j, j < k → nbits (x j) = nbits (y j)) ∧ Hid (∃ q, wr = w.drewN q)) (fun i _ => n - (intOf i).toNat)
  case atStart => exact ⟨0, Nat.zero_le _, rfl, fun j hj => absurd hj (by omega), ⟨0, rfl⟩⟩
  case round =>
    obtain ⟨k, hk, rfl, hg, hw⟩ := hrel
    by_cases hlt : k < n
    · obtain ⟨b1, o1, rfl, hb1, hxk⟩ := HC.out k hlt
      obtain ⟨b2, o2, rfl, hb2, hyk⟩ := HC'.out k hlt
      have hxk2 : wr.cell? ⟨b1, o1 + k, none⟩ = some (.float .f32 (x k)) := by obtain ⟨q, e⟩ := hw.out; rw [e]; exact hxk
      have hyk2 : wr.cell? ⟨b2, o2 + k, none⟩ = some (.float .f32 (y k)) := by obtain ⟨q, e⟩ := hw.out; rw [e]; exact hyk
      have HXK := hide (HX.out k hlt)
      have HYK := hide (HY.out k hlt)
      have hki : (k : Int) < (n : Int) := by omega
      clear hxk hyk
      cases hp : (nbits (x k) == nbits (y k))
      · have HT := hide (tru_no (show ¬ sameP x n y n from fun h => by rw [h.2 k hlt] at hp; simp at hp))
        have HCALL := fun W => hide (Calls.mono (specSame1_any (x k) (y k) W HXK.out HYK.out) (R' := fun e w' => e = .returned (.bool (nbits (x k) == nbits (y k))) ∧ w' = W) fun _ _ ⟨h1, h2⟩ => ⟨h1, h2.symm⟩)
        rw [hp] at HCALL
        go_wp2
        go_quiet ((go_at_call 217; exact Calls.quiet_of_same (HCALL _).out))
        go_wp2
        go_ret
        exact ⟨retBa HT.out.symm, by first | exact dr7 hw.out _ | exact hw.out⟩
      · have HE := hide (show nbits (x k) = nbits (y k) by simpa using hp)
        have HCALL := fun W => hide (Calls.mono (specSame1_any (x k) (y k) W HXK.out HYK.out) (R' := fun e w' => e = .returned (.bool (nbits (x k) == nbits (y k))) ∧ w' = W) fun _ _ ⟨h1, h2⟩ => ⟨h1, h2.symm⟩)
        rw [hp] at HCALL
        go_wp2
        go_quiet ((go_at_call 217; exact Calls.quiet_of_same (HCALL _).out))
        clear hp
        go_wp2
        go_roundw
        case rel => exact ⟨k + 1, by omega, by go_num, (by
          intro j hj
          by_cases hjk : j = k
          · subst hjk; exact HE.out
          · exact hg.out j (by omega)), hide (by first | exact dr7 hw.out _ | exact hw.out)⟩
        case measure => simp [intOf]; omega
    · have HT := hide (tru_yes (show sameP x n y n from ⟨rfl, fun j hj => hg.out j (by omega)⟩))
      have hki : ¬ (k : Int) < (n : Int) := by omega
      go_wp2
      go_ret
      exact ⟨retBa HT.out.symm, hw.out⟩
set_option maxRecDepth 100000 in
set_option maxHeartbeats 4000000 in
theorem equalSame_any (A : Option Addr) (n c : Nat) (x : Nat → Nat) (B : Option Addr) (m d : Nat) (y : Nat → Nat) (w : World) (hn : n ≤ maxLen) (hs : SL w A n (fun j => .float .f32 (x j))) (hx : ∀ j, j < n → (Lit.float .f32 (x j)).wf = true) (hm : m ≤ maxLen) (hs' : SL w B m (fun j => .float .f32 (y j))) (hy : ∀ j, j < m → (Lit.float .f32 (y j)).wf = true) :
    Calls Try.prog 166 #[.slice A n c, .slice B m d, .func (Fn.func 167) #[] #[]] w fun e w' => e = .returned (.bool (tru (sameP x n y m))) ∧ ∃ q, w' = w.drewN q := by
  have HC := cells_f hs
  have HC' := cells_f hs'
  have HX := hide hx
  have HY := hide hy
  unfold maxLen at hn hm
  clear hs hs' hx hy
  by_cases hnm : (n : Int) = (m : Int)
  rotate_left
  · have hneq : ¬ n = m := fun h => hnm (by rw [h])
    have HT := hide (tru_no (show ¬ sameP x n y m from fun h => hneq h.1))
    go_enter Try.func166, Try.ntmps166
    go_wp2
    go_ret
    exact ⟨retBa HT.out.symm, 0, rfl⟩
  obtain rfl : n = m := by omega
  go_enter Try.func166, Try.ntmps166
  go_wp2
  go_loopw [7, 8, 9, 17] (fun _ _ _ i wr => ∃ k : Nat, k ≤ n ∧ i = .int .i64 k ∧ Hid (∀ j, j < k → nbits (x j) = nbits (y j)) ∧ Hid (∃ q, wr = w.drewN q)) (fun _ _ _ i _ => n - (intOf i).toNat)
  case atStart => exact ⟨0, Nat.zero_le _, rfl, fun j hj => absurd hj (by omega), ⟨0, rfl⟩⟩
  case round =>
    obtain ⟨k, hk, rfl, hg, hw⟩ := hrel
    by_cases hlt : k < n
    · obtain ⟨b1, o1, rfl, hb1, hxk⟩ := HC.out k hlt
      obtain ⟨b2, o2, rfl, hb2, hyk⟩ := HC'.out k hlt
      have hxk2 : wr.cell? ⟨b1, o1 + k, none⟩ = some (.float .f32 (x k)) := by obtain ⟨q, e⟩ := hw.out; rw [e]; exact hxk
      have hyk2 : wr.cell? ⟨b2, o2 + k, none⟩ = some (.float .f32 (y k)) := by obtain ⟨q, e⟩ := hw.out; rw [e]; exact hyk
      have HXK := hide (HX.out k hlt)
      have HYK := hide (HY.out k hlt)
      have hki : (k : Int) < (n : Int) := by omega
      clear hxk hyk
      cases hp : (nbits (x k) == nbits (y k))
      · have HT := hide (tru_no (show ¬ sameP x n y n from fun h => by rw [h.2 k hlt] at hp; simp at hp))
        have HCALL := fun W => hide (implSame7_any (x k) (y k) W HXK.out HYK.out)
        rw [hp] at HCALL
        go_wp2_with fail
        refine (HCALL _).out.mono ?_
        rintro e w' ⟨rfl, q2, rfl⟩
        go_wp2
        go_ret
        exact ⟨retBa HT.out.symm, by first | exact dr7 hw.out _ | exact hw.out⟩
      · have HE := hide (show nbits (x k) = nbits (y k) by simpa using hp)
        have HCALL := fun W => hide (implSame7_any (x k) (y k) W HXK.out HYK.out)
        rw [hp] at HCALL
        go_wp2_with fail
        refine (HCALL _).out.mono ?_
        rintro e w' ⟨rfl, q2, rfl⟩
        clear hp
        go_wp2
        go_roundw
        case rel => exact ⟨k + 1, by omega, by go_num, (by
          intro j hj
          by_cases hjk : j = k
          · subst hjk; exact HE.out
          · exact hg.out j (by omega)), hide (by first | exact dr7 hw.out _ | exact hw.out)⟩
        case measure => simp [intOf]; omega
    · have HT := hide (tru_yes (show sameP x n y n from ⟨rfl, fun j hj => hg.out j (by omega)⟩))
      have hki : ¬ (k : Int) < (n : Int) := by omega
      go_wp2
      go_ret
      exact ⟨retBa HT.out.symm, hw.out⟩
end Go.Proofs.Ytbcajjpgpjadaaa
