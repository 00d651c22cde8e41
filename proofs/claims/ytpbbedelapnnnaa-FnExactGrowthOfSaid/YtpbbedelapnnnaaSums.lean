/- SumNumbers and DotNumbers, and their laws. -/
import Derived.Test.YtpbbedelapnnnaaFls
import Derived.RegionTactic
namespace Go.Proofs.Ytpbbedelapnnnaa
open Go.RowKit

/-- the sum of the first k numbers, from left to right -/
def fsum (x : Nat → Nat) : Nat → Nat
  | 0 => 0
  | k + 1 => fop .add .f32 (fsum x k) (x k)
theorem fsum_step {x : Nat → Nat} {k r r' : Nat} (h : FS .f32 r (fsum x k)) (h' : FR .f32 r' (fop .add .f32 r (x k))) : FS .f32 r' (fsum x (k + 1)) := by
  refine h'.same.trans (.inl ?_)
  show _ = fop .add .f32 (fsum x k) (x k)
  exact fop_same h (FS.refl _ _)

theorem cells_of {A : Option Addr} {n : Nat} {f : Nat → Value} {w : World} (hs : SL w A n f) : Hid (∀ k, k < n → ∃ b off, A = some ⟨b, off, none⟩ ∧ b < w.heap.size ∧ w.cell? ⟨b, off + k, none⟩ = some (f k)) := by
  intro k hk
  obtain ⟨b, off, h1, h2, h3⟩ := hs.at_ (by omega)
  exact ⟨b, off, h1, h2, h3 k hk⟩

theorem implSum_any (A : Option Addr) (n c : Nat) (x : Nat → Nat) (w : World) (hn : n ≤ 256) (hs : SL w A n (fun j => .float .f32 (x j))) :
    Calls Try.prog 258 #[.slice A n c] w fun e w' => ∃ r, e = .returned (.tuple #[.float .f32 r, .bool true]) ∧ FS .f32 r (fsum x n) ∧ ∃ q, w' = w.drewN q := by
  have HC := cells_of hs
  clear hs
  go_enter Try.func258, Try.ntmps258
  go_wp2
  go_loopw [4, 6, 12] (fun v _ i wr => ∃ k q r : Nat, k ≤ n ∧ i = .int .i64 k ∧ v = .float .f32 r ∧ FS .f32 r (fsum x k) ∧ wr = w.drewN q) (fun _ _ i _ => n - (intOf i).toNat)
  case atStart => exact ⟨0, 0, 0, Nat.zero_le _, rfl, rfl, .inl rfl, rfl⟩
  case round =>
    obtain ⟨k, q, r, hk, rfl, rfl, hr, rfl⟩ := hrel
    by_cases hlt : k < n
    · obtain ⟨b, off, rfl, hb, hc⟩ := HC.out k hlt
      go_wp2_with (refine wpList_far _ rfl _ _ _ _ _ rfl (by decide) _ _ _ rfl rfl ?_; intro r2 q2 hr2)
      go_roundw
      case rel => exact ⟨k + 1, _, _, by omega, by go_num, rfl, fsum_step hr (by assumption), rfl⟩
      case measure => simp [intOf]; omega
    · go_wp2
      go_ret2
      obtain rfl : k = n := by omega
      exact ⟨r, rfl, hr, _, rfl⟩
theorem implSum_no (A : Option Addr) (n c : Nat) (w : World) (hn : 256 < n) :
    Calls Try.prog 258 #[.slice A n c] w fun e w' => e = .returned (.tuple #[.float .f32 0, .bool false]) ∧ w = w' := by
  go_enter Try.func258, Try.ntmps258
  go_wp2
  go_ret2
  exact ⟨rfl, rfl⟩
/-! ### DotNumbers -/
def fdot (x y : Nat → Nat) : Nat → Nat
  | 0 => 0
  | k + 1 => fop .add .f32 (fdot x y k) (fop .mul .f32 (x k) (y k))
theorem fdot_step {x y : Nat → Nat} {k r m r' : Nat} (h : FS .f32 r (fdot x y k)) (hm : FR .f32 m (fop .mul .f32 (x k) (y k))) (h' : FR .f32 r' (fop .add .f32 r m)) : FS .f32 r' (fdot x y (k + 1)) := by
  refine h'.same.trans (.inl ?_)
  show _ = fop .add .f32 (fdot x y k) (fop .mul .f32 (x k) (y k))
  exact fop_same h hm.same

theorem cells_both {A A' : Option Addr} {n : Nat} {f f' : Nat → Value} {w : World} (hs : SL w A n f) (hs' : SL w A' n f') :
    Hid (∀ k, k < n → ∃ b off b' off', A = some ⟨b, off, none⟩ ∧ A' = some ⟨b', off', none⟩ ∧ w.cell? ⟨b, off + k, none⟩ = some (f k) ∧ w.cell? ⟨b', off' + k, none⟩ = some (f' k)) := by
  intro k hk
  obtain ⟨b, off, h1, h2, h3⟩ := hs.at_ (by omega)
  obtain ⟨b', off', h1', h2', h3'⟩ := hs'.at_ (by omega)
  exact ⟨b, off, b', off', h1, h1', h3 k hk, h3' k hk⟩

theorem implDot_yes (A A' : Option Addr) (n c c' : Nat) (x y : Nat → Nat) (w : World) (hn : n ≤ 256) (hs : SL w A n (fun j => .float .f32 (x j))) (hs' : SL w A' n (fun j => .float .f32 (y j))) :
    Calls Try.prog 98 #[.slice A n c, .slice A' n c'] w fun e w' => ∃ r, e = .returned (.tuple #[.float .f32 r, .bool true]) ∧ FS .f32 r (fdot x y n) ∧ ∃ q, w' = w.drewN q := by
  have HC := cells_both hs hs'
  clear hs hs'
  go_enter Try.func98, Try.ntmps98
  go_wp2
  go_loopw [6, 7, 8, 21] (fun v _ _ i wr => ∃ k q r : Nat, k ≤ n ∧ i = .int .i64 k ∧ v = .float .f32 r ∧ FS .f32 r (fdot x y k) ∧ wr = w.drewN q) (fun _ _ _ i _ => n - (intOf i).toNat)
  case atStart => exact ⟨0, 0, 0, Nat.zero_le _, rfl, rfl, .inl rfl, rfl⟩
  case round =>
    obtain ⟨k, q, r, hk, rfl, rfl, hr, rfl⟩ := hrel
    by_cases hlt : k < n
    · obtain ⟨b, off, b', off', rfl, rfl, hc, hc'⟩ := HC.out k hlt
      go_wp2_with (refine wpList_far _ rfl _ _ _ _ _ rfl (by decide) _ _ _ rfl rfl ?_; intro _ _ _)
      go_roundw
      case rel => exact ⟨k + 1, _, _, by omega, by go_num, rfl, fdot_step hr (by assumption) (by assumption), rfl⟩
      case measure => simp [intOf]; omega
    · go_wp2
      go_ret2
      obtain rfl : k = n := by omega
      exact ⟨r, rfl, hr, _, rfl⟩
theorem implDot_no (A A' : Option Addr) (n n' c c' : Nat) (w : World) (hn : ¬ n = n' ∨ 256 < n) :
    Calls Try.prog 98 #[.slice A n c, .slice A' n' c'] w fun e w' => e = .returned (.tuple #[.float .f32 0, .bool false]) ∧ w = w' := by
  by_cases h : n = n'
  · subst h
    have h2 : (n : Int) > 256 := by omega
    clear hn
    go_enter Try.func98, Try.ntmps98
    go_wp2
    go_ret2
    exact ⟨rfl, rfl⟩
  · have h1 : ((n : Int) != (n' : Int)) = true := by simp; omega
    have h2 : ((n : Int) == (n' : Int)) = false := by simp; omega
    clear hn
    go_enter Try.func98, Try.ntmps98
    go_wp2
    go_ret2
    exact ⟨rfl, rfl⟩
end Go.Proofs.Ytpbbedelapnnnaa
