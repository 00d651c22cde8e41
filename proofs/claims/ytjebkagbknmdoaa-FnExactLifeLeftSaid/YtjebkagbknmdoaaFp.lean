/- LaterValue and AnnuityValue, by the program. -/
import Derived.Test.YtjebkagbknmdoaaFw
import Derived.Deep.RegionHeld3
import Derived.Deep.RegionWith
import Derived.Deep.DeepAppendRoom
namespace Go.Proofs.Ytjebkagbknmdoaa
open Go.RowKit Go.Dues
theorem implFactor_any (r : Nat) (w : World) : Calls Try.prog 164 #[.float .f32 r] w fun e w' => ∃ f, e = .returned (.float .f32 f) ∧ FS .f32 f (fop .quo .f32 1065353216 (fop .add .f32 1065353216 r)) ∧ ∃ q, w' = w.drewN q := by
  go_enter Try.func164, Try.ntmps164
  go_wp2_with (refine wpList_far _ rfl _ _ _ _ _ rfl (by decide) _ _ _ rfl rfl ?_; intro _ _ _)
  go_ret
  have f1 := ‹FR .f32 _ (fop .add .f32 1065353216 r)›
  have f2 := ‹FR .f32 _ (fop .quo .f32 1065353216 _)›
  exact ⟨_, rfl, factor_step f1 f2, _, rfl⟩
theorem own_cap {w : World} {B n d : Nat} {e : TypeId} {G : Option Addr} {xs : List Value} (h : w.ownsRow B e 1 (.slice G n d) n xs) : n ≤ d := by
  rcases h.2 with ⟨_, h0⟩ | ⟨g, cap, cur, h1, h2, h3, h4, _⟩
  · omega
  · injection h1 with _ _ h1
    omega
theorem sub_slF {w : World} {b off n k : Nat} {x : Nat → Nat} (hb : b < w.heap.size) (h : ∀ j, j < n → w.cell? ⟨b, off + j, none⟩ = some (.float .f32 (x j))) : SL w (some ⟨b, off + k, none⟩) (n - k) (fun j => .float .f32 (x (k + j))) :=
  .inr ⟨b, off + k, rfl, hb, fun j hj => by rw [Nat.add_assoc]; exact h (k + j) (by omega)⟩
set_option maxRecDepth 100000 in
set_option maxHeartbeats 8000000 in
theorem implPowersE_any (r n : Nat) (w : World) (hn : n ≤ 120) :
    Calls Try.prog 106 #[.float .f32 r, .int .i64 n] w fun e w' => ∃ g, ∃ z : Nat → Nat, e = .returned (.slice (some ⟨g, 0, none⟩) n n) ∧ OW w' w.heap.size w'.heap.size (some ⟨g, 0, none⟩) n (fun j => .float .f32 (z j)) ∧ (∀ j, j < n → FS .f32 (z j) (pwV r j)) ∧ Below w.heap.size w w' := by
  obtain ⟨i0, hi, hz0, hz1, hz2⟩ := info_parts Try.infoF
  go_enter Try.func106, Try.ntmps106
  go_wp2_with (at_make; refine wpList_make_own _ rfl _ _ 45 rfl w.heap.size 62 i0 (.float .f32 0) 1 Try.underlying45 hi hz0 hz1 _ _ _ n rfl rfl rfl (by rw [hz2]; omega) (by unfold maxLen; omega) (Nat.le_refl _) ?_; intro w2 hown0 hgrow0)
  have HBS := hide ((Below.refl w.heap.size w).grown hgrow0 (Nat.le_refl _) (fun k h => by cases h))
  have HO0 := hide hown0
  clear hown0 hgrow0
  obtain ⟨g, hg⟩ : ∃ g, w.heap.size = g := ⟨_, rfl⟩
  rw [hg] at HO0
  have HG := hide hg
  go_loopw [5, 6, 10] (fun v s i wr => ∃ (k : Nat) (xs : List Value) (r0 : Nat), k ≤ n ∧ i = .int .i64 k ∧ s = .float .f32 r0 ∧ v = .slice (some ⟨g, 0, none⟩) k n ∧ Hid (FS .f32 r0 (pwV r k)) ∧ wr.ownsRow w.heap.size 62 1 (.slice (some ⟨g, 0, none⟩) k n) k xs ∧ Hid (FRow xs k (pwV r)) ∧ Below w.heap.size w wr) (fun _ _ i _ => n - (intOf i).toNat)
  case atStart => exact ⟨0, [], 1065353216, Nat.zero_le _, rfl, rfl, by rw [hg], .inl rfl, by rw [hg]; exact HO0.out, fun j hj => absurd hj (by omega), HBS.out⟩
  case round =>
    clear hg
    obtain ⟨k, xs, r0, hk, rfl, rfl, rfl, hr, hown, hxs, hbel⟩ := hrel
    by_cases hlt : k < n
    · have hzz := True.intro
      have hsz := hbel.size
      have HLL := hide (show xs.length = k by have := hown.1; omega)
      go_wp2_with (at_builtin; refine wpList_append_own_spare _ rfl _ _ 45 rfl (w.heap.size) 62 i0 1 Try.underlying45 hi hz1 g k n _ rfl (by exact (hown.alloc _)) ⟨_, 0, none⟩ 1 1 [.float .f32 (r0)] rfl rfl (cell_one_new _ _ _) (by intro u hu; simp at hu; subst hu; rfl) (by omega) ?_)
      intro w5 hown' hgrow
      have hb1 := (hbel.alloc (by omega) (.cells #[.float .f32 r0] 62)).grown hgrow (by simp; omega) (fun j hj => (hown.lt j hj).1)
      have HB1 := hide hb1
      have HON := hide hown'
      clear hgrow hown' hown hbel hb1
      go_wp2_with (first | (go_at_call 164; refine (implFactor_any r _).mono ?_; rintro e w' ⟨ff, rfl, hff, q3, rfl⟩) | (refine wpList_far _ rfl _ _ _ _ _ rfl (by decide) _ _ _ rfl rfl ?_; intro _ _ _))
      go_roundw
      case rel => exact ⟨k + 1, _, _, by omega, by go_num, rfl, rfl, pwV_step (d := 0) hr.out (by assumption) (by assumption), HON.out, frow_step HLL.out hxs.out hr.out, bel_q HB1.out _⟩
      case measure => simp [intOf]; omega
    · obtain rfl : k = n := by omega
      obtain ⟨z, hz1, hz2⟩ := frow_fun hxs.out
      have HO := hide hown
      have HBEL := hide hbel
      have HZ1 := hide hz1
      have HZ2 := hide hz2
      clear hown hbel hz1 hz2
      go_wp2
      go_ret
      exact ⟨g, z, rfl, OW.of_owns HO.out HZ1.out, HZ2.out, HBEL.out⟩
set_option maxRecDepth 100000 in
set_option maxHeartbeats 8000000 in
theorem implAliveE_any (A : Option Addr) (n c : Nat) (x : Nat → Nat) (w : World) (hn : n ≤ maxLen) (hs : SL w A n (fun j => .float .f32 (x j))) (hp : ltP x n) :
    Calls Try.prog 163 #[.slice A n c] w fun e w' => ∃ g, ∃ z : Nat → Nat, e = .returned (.tuple #[.slice (some ⟨g, 0, none⟩) n n, .bool true]) ∧ OW w' w.heap.size w'.heap.size (some ⟨g, 0, none⟩) n (fun j => .float .f32 (z j)) ∧ (∀ j, j < n → FS .f32 (z j) (alV x j)) ∧ Below w.heap.size w w' := by
  obtain ⟨i0, hi, hz0, hz1, hz2⟩ := info_parts Try.infoF
  have HL := hide (implLife_any A n c x w hn hs)
  have HC := cells_f hs
  clear hs
  unfold maxLen at hn
  have HT := hide (tru_yes hp)
  have n120 := hp.1.2
  clear hp
  go_enter Try.func163, Try.ntmps163
  go_wp2_with fail
  refine HL.out.mono ?_
  rw [HT.out]
  rintro e W ⟨rfl, hbe⟩
  have HB0 : Hid (Below w.heap.size w W) := by rw [← hbe]; exact Below.refl _ _
  have HCW : Hid (∀ k, k < n → ∃ b off, A = some ⟨b, off, none⟩ ∧ b < W.heap.size ∧ W.cell? ⟨b, off + k, none⟩ = some (.float .f32 (x k))) := by rw [← hbe]; exact HC.out
  clear hbe
  go_wp2_with (at_make; refine wpList_make_own _ rfl _ _ 45 rfl W.heap.size 62 i0 (.float .f32 0) 1 Try.underlying45 hi hz0 hz1 _ _ _ n rfl rfl rfl (by rw [hz2]; omega) (by unfold maxLen; omega) (Nat.le_refl _) ?_; intro w2 hown0 hgrow0)
  have HBS := hide ((Below.refl W.heap.size W).grown hgrow0 (Nat.le_refl _) (fun k h => by cases h))
  have HO0 := hide hown0
  clear hown0 hgrow0
  obtain ⟨g, hg⟩ : ∃ g, W.heap.size = g := ⟨_, rfl⟩
  rw [hg] at HO0
  have HG := hide hg
  go_loopw [4, 5, 7, 16] (fun v s _ i wr => ∃ (k : Nat) (xs : List Value) (r0 : Nat), k ≤ n ∧ i = .int .i64 k ∧ s = .float .f32 r0 ∧ v = .slice (some ⟨g, 0, none⟩) k n ∧ Hid (FS .f32 r0 (alV x k)) ∧ wr.ownsRow W.heap.size 62 1 (.slice (some ⟨g, 0, none⟩) k n) k xs ∧ Hid (FRow xs k (alV x)) ∧ Below W.heap.size W wr) (fun _ _ _ i _ => n - (intOf i).toNat)
  case atStart => exact ⟨0, [], 1065353216, Nat.zero_le _, rfl, rfl, by rw [hg], .inl rfl, by rw [hg]; exact HO0.out, fun j hj => absurd hj (by omega), HBS.out⟩
  case round =>
    clear hg
    obtain ⟨k, xs, r0, hk, rfl, rfl, rfl, hr, hown, hxs, hbel⟩ := hrel
    by_cases hlt : k < n
    · obtain ⟨b, off, rfl, hb, hc⟩ := HCW.out k hlt
      have hc2 := (hbel.cell (p := ⟨b, off + k, none⟩) hb).trans hc
      have hsz := hbel.size
      have HLL := hide (show xs.length = k by have := hown.1; omega)
      go_wp2_with (at_builtin; refine wpList_append_own_spare _ rfl _ _ 45 rfl (W.heap.size) 62 i0 1 Try.underlying45 hi hz1 g k n _ rfl (by exact (hown.alloc _)) ⟨_, 0, none⟩ 1 1 [.float .f32 (r0)] rfl rfl (cell_one_new _ _ _) (by intro u hu; simp at hu; subst hu; rfl) (by omega) ?_)
      intro w5 hown' hgrow
      have hb1 := (hbel.alloc (by omega) (.cells #[.float .f32 r0] 62)).grown hgrow (by simp; omega) (fun j hj => (hown.lt j hj).1)
      have HB1 := hide hb1
      have HON := hide hown'
      clear hgrow hown' hown hbel hb1
      go_wp2_with (refine wpList_far _ rfl _ _ _ _ _ rfl (by decide) _ _ _ rfl rfl ?_; intro _ _ _)
      go_roundw
      case rel => exact ⟨k + 1, _, _, by omega, by go_num, rfl, rfl, alV_step hr.out (by assumption) (by assumption), HON.out, frow_step HLL.out hxs.out hr.out, bel_q HB1.out _⟩
      case measure => simp [intOf]; omega
    · obtain rfl : k = n := by omega
      obtain ⟨z, hz1, hz2⟩ := frow_fun hxs.out
      have HO := hide hown
      have HBEL := hide hbel
      have HZ1 := hide hz1
      have HZ2 := hide hz2
      clear hown hbel hz1 hz2
      go_wp2
      go_ret2
      exact ⟨g, z, rfl, (OW.of_owns HO.out HZ1.out).wide HB0.out.size (Nat.le_refl _), HZ2.out, HB0.out.trans (HBEL.out.mono HB0.out.size)⟩
end Go.Proofs.Ytjebkagbknmdoaa
