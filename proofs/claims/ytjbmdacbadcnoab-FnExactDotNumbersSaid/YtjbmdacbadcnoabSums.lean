/- SumNumbers and DotNumbers, and their laws. -/
import Derived.Test.YtjbmdacbadcnoabFls
import Derived.RegionTactic
namespace Go.Proofs.Ytjbmdacbadcnoab
open Go.RowKit

/-- the sum of the first k numbers, from left to right -/
def fsum (x : Nat → Nat) : Nat → Nat
  | 0 => 0
  | k + 1 => fop .add .f32 (fsum x k) (x k)
theorem fsum_step {x : Nat → Nat} {k r r' : Nat} (h : FS .f32 r (fsum x k)) (h' : FR .f32 r' (fop .add .f32 r (x k))) : FS .f32 r' (fsum x (k + 1)) := by
  refine h'.same.trans (.inl ?_)
  show _ = fop .add .f32 (fsum x k) (x k)
  exact fop_same h (FS.refl _ _)

theorem cells_of {A : Option Addr} {n : Nat} {f : Nat → Value} {w : World} (hs : SL w A n f) : Hid (∀ k, k < n → ∃ b off, A = some ⟨b, off, none⟩ ∧ b < w.heap.size ∧ w.cell? ⟨b, off + k, none⟩ = some (f k)) := by
  intro k hk
  obtain ⟨b, off, h1, h2, h3⟩ := hs.at_ (by omega)
  exact ⟨b, off, h1, h2, h3 k hk⟩

theorem specSum_any (A : Option Addr) (n c : Nat) (x : Nat → Nat) (w : World) (hn : n ≤ maxLen) (hs : SL w A n (fun j => .float .f32 (x j))) :
    Calls Try.prog 16 #[.slice A n c] w fun e w' => ∃ r, e = .returned (.float .f32 r) ∧ FS .f32 r (fsum x n) ∧ ∃ q, w' = w.drewN q := by
  unfold maxLen at hn
  have HC := cells_of hs
  clear hs
  go_enter Try.func16, Try.ntmps16
  go_wp2
  go_loopw [3, 4] (fun v i wr => ∃ k q r : Nat, k ≤ n ∧ i = .int .i64 k ∧ v = .float .f32 r ∧ FS .f32 r (fsum x k) ∧ wr = w.drewN q) (fun _ i _ => n - (intOf i).toNat)
  case atStart => exact ⟨0, 0, 0, Nat.zero_le _, rfl, rfl, .inl rfl, rfl⟩
  case round =>
    obtain ⟨k, q, r, hk, rfl, rfl, hr, rfl⟩ := hrel
    by_cases hlt : k < n
    · obtain ⟨b, off, rfl, hb, hc⟩ := HC.out k hlt
      go_wp2_with (refine wpList_far _ rfl _ _ _ _ _ rfl (by decide) _ _ _ rfl rfl ?_; intro r2 q2 hr2)
      go_roundw
      case rel => exact ⟨k + 1, _, _, by omega, by go_num, rfl, fsum_step hr (by assumption), rfl⟩
      case measure => simp [intOf]; omega
    · go_wp2
      go_ret
      obtain rfl : k = n := by omega
      exact ⟨r, rfl, hr, _, rfl⟩
theorem implSum_any (A : Option Addr) (n c : Nat) (x : Nat → Nat) (w : World) (hn : n ≤ 256) (hs : SL w A n (fun j => .float .f32 (x j))) :
    Calls Try.prog 8 #[.slice A n c] w fun e w' => ∃ r, e = .returned (.tuple #[.float .f32 r, .bool true]) ∧ FS .f32 r (fsum x n) ∧ ∃ q, w' = w.drewN q := by
  have HC := cells_of hs
  clear hs
  go_enter Try.func8, Try.ntmps8
  go_wp2
  go_loopw [4, 6, 12] (fun v _ i wr => ∃ k q r : Nat, k ≤ n ∧ i = .int .i64 k ∧ v = .float .f32 r ∧ FS .f32 r (fsum x k) ∧ wr = w.drewN q) (fun _ _ i _ => n - (intOf i).toNat)
  case atStart => exact ⟨0, 0, 0, Nat.zero_le _, rfl, rfl, .inl rfl, rfl⟩
  case round =>
    obtain ⟨k, q, r, hk, rfl, rfl, hr, rfl⟩ := hrel
    by_cases hlt : k < n
    · obtain ⟨b, off, rfl, hb, hc⟩ := HC.out k hlt
      go_wp2_with (refine wpList_far _ rfl _ _ _ _ _ rfl (by decide) _ _ _ rfl rfl ?_; intro r2 q2 hr2)
      go_roundw
      case rel => exact ⟨k + 1, _, _, by omega, by go_num, rfl, fsum_step hr (by assumption), rfl⟩
      case measure => simp [intOf]; omega
    · go_wp2
      go_ret2
      obtain rfl : k = n := by omega
      exact ⟨r, rfl, hr, _, rfl⟩
theorem implSum_no (A : Option Addr) (n c : Nat) (w : World) (hn : 256 < n) :
    Calls Try.prog 8 #[.slice A n c] w fun e w' => e = .returned (.tuple #[.float .f32 0, .bool false]) ∧ w = w' := by
  go_enter Try.func8, Try.ntmps8
  go_wp2
  go_ret2
  exact ⟨rfl, rfl⟩
theorem specSumN_any (A : Option Addr) (n c : Nat) (x : Nat → Nat) (w : World) (hn : n ≤ 256) (hs : SL w A n (fun j => .float .f32 (x j))) :
    Calls Try.prog 6 #[.slice A n c] w fun e w' => ∃ r, e = .returned (.tuple #[.float .f32 r, .bool true]) ∧ FS .f32 r (fsum x n) ∧ ∃ q, w' = w.drewN q := by
  have H1 := hide (specSum_any A n c x w (by unfold maxLen; omega) hs)
  have hd : decide ((n : Int) ≤ 256) = true := by simp; omega
  clear hs
  go_enter Try.func6, Try.ntmps6
  go_wp2_with (first | (go_at_call 16; refine H1.out.mono ?_; rintro e w' ⟨r, rfl, hr, q, rfl⟩) | go_in)
  go_ret2
  exact ⟨_, rfl, by assumption, _, rfl⟩
theorem specSumN_no (A : Option Addr) (n c : Nat) (w : World) (hn : 256 < n) :
    Calls Try.prog 6 #[.slice A n c] w fun e w' => e = .returned (.tuple #[.float .f32 0, .bool false]) ∧ w = w' := by
  have hd : decide ((n : Int) ≤ 256) = false := by simp; omega
  go_enter Try.func6, Try.ntmps6
  go_wp2
  go_ret2
  exact ⟨rfl, rfl⟩

set_option maxHeartbeats 1000000 in
theorem lawSum_any (A : Option Addr) (n c : Nat) (x : Nat → Nat) (w : World) (hm : n ≤ maxLen) (hs : SL w A n (fun j => .float .f32 (x j))) :
    Calls Try.prog 3 #[.slice A n c] w fun e w' => e = .returned (.bool true) ∧ Below w.heap.size w w' := by
  unfold maxLen at hm
  have hwd := fun (w : World) (b : Nat) => run_widen_eq (P := Try.prog) w 23 28 b (by rw [Try.underlying23]; rfl) Try.underlying28
  by_cases h20 : 1048576 < n
  · clear hs
    go_enter Try.func3, Try.ntmps3
    go_wp2
    go_ret
    exact ⟨rfl, Below.refl _ _⟩
  · have HS := hide hs
    clear hs
    by_cases h256 : n ≤ 256
    · go_enter Try.func3, Try.ntmps3
      go_wp2_with fail
      refine (toFl_any A n c x _ (by omega) HS.out).mono ?_
      rintro e w1 ⟨g1, rfl, hg1, hb1, hs1⟩
      have HB1 := hide hb1
      have HS1 := hide hs1
      clear hb1 hs1
      go_wp2_with fail
      refine (specSumN_any _ n n x _ h256 HS1.out).mono ?_
      rintro e w' ⟨r0, rfl, hr0, q0, rfl⟩
      have HR0 := hide hr0
      clear hr0
      go_wp2_with fail
      refine (toFl_any A n c x _ (by omega) ((HS.out.below HB1.out).drewN q0)).mono ?_
      rintro e w2 ⟨g2, rfl, hg2, hb2, hs2⟩
      have HB2 := hide (HB1.out.trans ((below_drewN (Below.refl _ _) q0).trans (hb2.mono HB1.out.size)))
      have HS2 := hide hs2
      clear hb2 hs2
      go_wp2_with fail
      refine (implSum_any _ n n x _ h256 HS2.out).mono ?_
      rintro e w' ⟨r1, rfl, hr1, q1, rfl⟩
      have HR1 := hide hr1
      clear hr1
      go_wp2_with fail
      refine (sameFloat_any _ _ _ (wv_both (HR1.out.trans HR0.out.symm))).mono ?_
      rintro e w' ⟨rfl, q2, rfl⟩
      go_wp2_with fail
      refine (toFl_any A n c x _ (by omega) ((HS.out.below HB2.out).drewN _)).mono ?_
      rintro e w3 ⟨g3, rfl, hg3, hb3, hs3⟩
      have HB3 := hide ((below_drewN HB2.out _).trans (hb3.mono HB2.out.size))
      have HS3 := hide hs3
      have HS2' := hide ((HS2.out.drewN _).below hb3)
      clear hb3 hs3
      go_wp2_with fail
      refine (eqFl_any _ _ n n n x x _ (by unfold maxLen; omega) HS2'.out HS3.out (fun _ _ => FS.refl _ _)).mono ?_
      rintro e w' ⟨rfl, q3, rfl⟩
      go_wp2_with fail
      go_ret
      exact ⟨rfl, below_drewN HB3.out _⟩
    · go_enter Try.func3, Try.ntmps3
      go_wp2_with fail
      refine (toFl_any A n c x _ (by omega) HS.out).mono ?_
      rintro e w1 ⟨g1, rfl, hg1, hb1, hs1⟩
      have HB1 := hide hb1
      clear hb1 hs1
      go_wp2_with fail
      refine (specSumN_no _ n n _ (by omega)).mono ?_
      rintro e w' ⟨rfl, rfl⟩
      go_wp2_with fail
      refine (toFl_any A n c x _ (by omega) (HS.out.below HB1.out)).mono ?_
      rintro e w2 ⟨g2, rfl, hg2, hb2, hs2⟩
      have HB2 := hide (HB1.out.trans (hb2.mono HB1.out.size))
      have HS2 := hide hs2
      clear hb2 hs2
      go_wp2_with fail
      refine (implSum_no _ n n _ (by omega)).mono ?_
      rintro e w' ⟨rfl, rfl⟩
      go_wp2_with fail
      refine (sameFloat_any _ _ _ (wv_both (FS.refl _ _))).mono ?_
      rintro e w' ⟨rfl, q2, rfl⟩
      go_wp2_with fail
      refine (toFl_any A n c x _ (by omega) ((HS.out.below HB2.out).drewN _)).mono ?_
      rintro e w3 ⟨g3, rfl, hg3, hb3, hs3⟩
      have HB3 := hide ((below_drewN HB2.out _).trans (hb3.mono HB2.out.size))
      have HS3 := hide hs3
      have HS2' := hide ((HS2.out.drewN _).below hb3)
      clear hb3 hs3
      go_wp2_with fail
      refine (eqFl_any _ _ n n n x x _ (by unfold maxLen; omega) HS2'.out HS3.out (fun _ _ => FS.refl _ _)).mono ?_
      rintro e w' ⟨rfl, q3, rfl⟩
      go_wp2_with fail
      go_ret
      exact ⟨rfl, below_drewN HB3.out _⟩

/-! ### DotNumbers -/
def fdot (x y : Nat → Nat) : Nat → Nat
  | 0 => 0
  | k + 1 => fop .add .f32 (fdot x y k) (fop .mul .f32 (x k) (y k))
theorem fdot_step {x y : Nat → Nat} {k r m r' : Nat} (h : FS .f32 r (fdot x y k)) (hm : FR .f32 m (fop .mul .f32 (x k) (y k))) (h' : FR .f32 r' (fop .add .f32 r m)) : FS .f32 r' (fdot x y (k + 1)) := by
  refine h'.same.trans (.inl ?_)
  show _ = fop .add .f32 (fdot x y k) (fop .mul .f32 (x k) (y k))
  exact fop_same h hm.same

theorem cells_both {A A' : Option Addr} {n : Nat} {f f' : Nat → Value} {w : World} (hs : SL w A n f) (hs' : SL w A' n f') :
    Hid (∀ k, k < n → ∃ b off b' off', A = some ⟨b, off, none⟩ ∧ A' = some ⟨b', off', none⟩ ∧ w.cell? ⟨b, off + k, none⟩ = some (f k) ∧ w.cell? ⟨b', off' + k, none⟩ = some (f' k)) := by
  intro k hk
  obtain ⟨b, off, h1, h2, h3⟩ := hs.at_ (by omega)
  obtain ⟨b', off', h1', h2', h3'⟩ := hs'.at_ (by omega)
  exact ⟨b, off, b', off', h1, h1', h3 k hk, h3' k hk⟩

set_option maxHeartbeats 4000000 in
theorem specDot_any (A A' : Option Addr) (n c c' : Nat) (x y : Nat → Nat) (w : World) (hn : n ≤ maxLen) (hs : SL w A n (fun j => .float .f32 (x j))) (hs' : SL w A' n (fun j => .float .f32 (y j))) :
    Calls Try.prog 17 #[.slice A n c, .slice A' n c'] w fun e w' => ∃ r, e = .returned (.float .f32 r) ∧ FS .f32 r (fdot x y n) ∧ ∃ q, w' = w.drewN q := by
  unfold maxLen at hn
  have HC := cells_both hs hs'
  clear hs hs'
  have hmul := fun (w : World) (t : TypeId) (x y : Nat) => run_far_eq (P := Try.prog) .mul (by decide) w t .f32 x y
  have hadd := fun (w : World) (t : TypeId) (x y : Nat) => run_far_eq (P := Try.prog) .add (by decide) w t .f32 x y
  go_enter Try.func17, Try.ntmps17
  go_wp2
  go_loopw [5, 6] (fun v i wr => ∃ k q r : Nat, k ≤ n ∧ i = .int .i64 k ∧ v = .float .f32 r ∧ FS .f32 r (fdot x y k) ∧ wr = w.drewN q) (fun _ i _ => n - (intOf i).toNat)
  case atStart => exact ⟨0, 0, 0, Nat.zero_le _, rfl, rfl, .inl rfl, rfl⟩
  case round =>
    obtain ⟨k, q, r, hk, rfl, rfl, hr, rfl⟩ := hrel
    by_cases hlt : k < n
    · obtain ⟨b, off, b', off', rfl, rfl, hc, hc'⟩ := HC.out k hlt
      go_wp2
      go_region
      all_goals
        go_wp2
        go_roundw
        case rel => exact ⟨k + 1, _, _, by omega, by go_num, rfl, fdot_step hr (fv_same _ _ _ _ _) (fv_same _ _ _ _ _), rfl⟩
        case measure => simp [intOf]; omega
    · go_wp2
      go_ret
      obtain rfl : k = n := by omega
      exact ⟨r, rfl, hr, _, rfl⟩
theorem implDot_yes (A A' : Option Addr) (n c c' : Nat) (x y : Nat → Nat) (w : World) (hn : n ≤ 256) (hs : SL w A n (fun j => .float .f32 (x j))) (hs' : SL w A' n (fun j => .float .f32 (y j))) :
    Calls Try.prog 12 #[.slice A n c, .slice A' n c'] w fun e w' => ∃ r, e = .returned (.tuple #[.float .f32 r, .bool true]) ∧ FS .f32 r (fdot x y n) ∧ ∃ q, w' = w.drewN q := by
  have HC := cells_both hs hs'
  clear hs hs'
  go_enter Try.func12, Try.ntmps12
  go_wp2
  go_loopw [6, 7, 8, 21] (fun v _ _ i wr => ∃ k q r : Nat, k ≤ n ∧ i = .int .i64 k ∧ v = .float .f32 r ∧ FS .f32 r (fdot x y k) ∧ wr = w.drewN q) (fun _ _ _ i _ => n - (intOf i).toNat)
  case atStart => exact ⟨0, 0, 0, Nat.zero_le _, rfl, rfl, .inl rfl, rfl⟩
  case round =>
    obtain ⟨k, q, r, hk, rfl, rfl, hr, rfl⟩ := hrel
    by_cases hlt : k < n
    · obtain ⟨b, off, b', off', rfl, rfl, hc, hc'⟩ := HC.out k hlt
      go_wp2_with (refine wpList_far _ rfl _ _ _ _ _ rfl (by decide) _ _ _ rfl rfl ?_; intro _ _ _)
      go_roundw
      case rel => exact ⟨k + 1, _, _, by omega, by go_num, rfl, fdot_step hr (by assumption) (by assumption), rfl⟩
      case measure => simp [intOf]; omega
    · go_wp2
      go_ret2
      obtain rfl : k = n := by omega
      exact ⟨r, rfl, hr, _, rfl⟩
theorem implDot_no (A A' : Option Addr) (n n' c c' : Nat) (w : World) (hn : ¬ n = n' ∨ 256 < n) :
    Calls Try.prog 12 #[.slice A n c, .slice A' n' c'] w fun e w' => e = .returned (.tuple #[.float .f32 0, .bool false]) ∧ w = w' := by
  by_cases h : n = n'
  · subst h
    have h2 : (n : Int) > 256 := by omega
    clear hn
    go_enter Try.func12, Try.ntmps12
    go_wp2
    go_ret2
    exact ⟨rfl, rfl⟩
  · have h1 : ((n : Int) != (n' : Int)) = true := by simp; omega
    have h2 : ((n : Int) == (n' : Int)) = false := by simp; omega
    clear hn
    go_enter Try.func12, Try.ntmps12
    go_wp2
    go_ret2
    exact ⟨rfl, rfl⟩
end Go.Proofs.Ytjbmdacbadcnoab
