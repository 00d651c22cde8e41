/- Lists of floats: laws.toFloat32S copies, laws.eqFloat32S holds them against each other. -/
import Derived.Test.YtpbbedelapnnnaaSame
import Derived.Test.YtpbbedelapnnnaaSl
import Derived.Deep.RegionWith
namespace Go.Proofs.Ytpbbedelapnnnaa
open Go.RowKit
theorem run_store_float (P : Program) (w : World) (a : Addr) (m : Mode) (k : FloatKind) (b : Nat) : (store a (.float k b) m).run P w = stored P w a (.float k b) m := run_store P w a _ m rfl
attribute [local go_sem] run_store_float
theorem Try.cellsF32 : Try.prog.cellsOf 26 = 1 := by kernel_rfl
theorem Try.infoF32 : (Try.prog.info? 26).map (fun i => (i.zero, i.size, i.bytes)) = some (some (.float .f32 0), 1, 4) := by kernel_rfl

theorem toFl_any (A : Option Addr) (n c : Nat) (x : Nat → Nat) (w : World) (hn : n ≤ 1048576) (hs : SL w A n (fun j => .float .f32 (x j))) :
    Calls Try.prog 26 #[.slice A n c] w fun e w' => ∃ g, e = .returned (.slice (some ⟨g, 0, none⟩) n n) ∧ w.heap.size ≤ g ∧ Below w.heap.size w w' ∧ SL w' (some ⟨g, 0, none⟩) n (fun j => .float .f32 (x j)) := by
  obtain ⟨i0, hi, hz0, hz1, hz2⟩ := info_parts Try.infoF32
  have hmax : n ≤ maxLen := by unfold maxLen; omega
  have hcell : ∀ k, k < n → ∃ b off, A = some ⟨b, off, none⟩ ∧ b < w.heap.size ∧ w.cell? ⟨b, off + k, none⟩ = some (.float .f32 (x k)) := by
    intro k hk
    obtain ⟨b, off, h1, h2, h3⟩ := hs.at_ (by omega)
    exact ⟨b, off, h1, h2, h3 k hk⟩
  have HC := hide hcell
  clear hcell hs
  go_enter Try.func26, Try.ntmps26
  go_wp2_with (at_make; refine wpList_make_full _ rfl _ _ 22 rfl w.heap.size 26 i0 (.float .f32 0) 1 Try.underlying22 hi hz0 hz1 _ _ _ _ n rfl rfl rfl rfl (by rw [hz2]; omega) hmax (Nat.le_refl _) ?_; intro w1 hown hgrow)
  have hbel : Below w.heap.size w w1 := (Below.refl _ _).grown hgrow (Nat.le_refl _) (fun k h => by cases h)
  go_loopw [4] (fun i wr => ∃ (k : Nat) (xs : List Value), k ≤ n ∧ i = .int .i64 k ∧ wr.ownsRow w.heap.size 26 1 (.slice (some ⟨w.heap.size, 0, none⟩) n n) n xs ∧ Hid (∀ j, j < k → xs[j]? = some (.float .f32 (x j))) ∧ Below w.heap.size w wr) (fun i _ => n - (intOf i).toNat)
  case atStart => exact ⟨0, _, Nat.zero_le _, rfl, hown, fun j hj => absurd hj (by omega), hbel⟩
  case round =>
    obtain ⟨k, xs, hk, rfl, hown, hxs, hbel⟩ := hrel
    by_cases hlt : k < n
    · obtain ⟨b, off, rfl, hb, hc⟩ := HC.out k hlt
      have hc2 : wr.cell? ⟨b, off + k, none⟩ = some (.float .f32 (x k)) := (hbel.cell (p := ⟨b, off + k, none⟩) hb).trans hc
      have hlen : xs.length = n := by have := hown.1; omega
      obtain ⟨u, hu⟩ : ∃ u, xs[k]? = some u := ⟨xs[k]'(by omega), List.getElem?_eq_getElem _⟩
      have hold : wr.cell? ⟨w.heap.size, k, none⟩ = some u := (hown.cellAt k (by omega)).trans hu
      have hfr := hown.frozenAt k
      have hst := hown.stored k (.float .f32 (x k))
      have HO := hide hst
      have HX := hide hlen
      clear hst hc hu hlen
      go_wp2
      go_roundw
      case rel =>
        refine ⟨k + 1, xs.set k (.float .f32 (x k)), by omega, by go_num, HO.out.1, ?_, hbel.trans ((Below.refl _ _).grown HO.out.2 (by have := hbel.size; omega) (fun j hj => by injection hj with hj; omega))⟩
        intro j hj
        by_cases hjk : j = k
        · subst hjk
          rw [List.getElem?_set_self (by rw [HX.out]; omega)]
        · rw [List.getElem?_set_ne (by omega)]
          exact hxs.out j (by omega)
      case measure => simp [intOf]; omega
    · go_wp2
      go_ret
      obtain rfl : k = n := by omega
      refine ⟨w.heap.size, rfl, Nat.le_refl _, hbel, ?_⟩
      by_cases h0 : k = 0
      · exact .inl h0
      · refine .inr ⟨w.heap.size, 0, rfl, ?_, fun j hj => ?_⟩
        · have := hown.cellAt 0 (by omega)
          rw [hxs.out 0 (by omega)] at this
          unfold World.cell? at this
          split at this
          · rename_i h; exact (Array.getElem?_eq_some_iff.1 h).1
          · cases this
        · rw [Nat.zero_add]
          exact (hown.cellAt j (by omega)).trans (hxs.out j hj)

set_option maxHeartbeats 4000000 in
theorem eqFl_any (A A' : Option Addr) (n c c' : Nat) (x y : Nat → Nat) (w : World) (hn : n ≤ maxLen) (hs : SL w A n (fun j => .float .f32 (x j))) (hs' : SL w A' n (fun j => .float .f32 (y j))) (hxy : ∀ j, j < n → FS .f32 (x j) (y j)) :
    Calls Try.prog 20 #[.slice A n c, .slice A' n c'] w fun e w' => e = .returned (.bool true) ∧ ∃ n, w' = w.drewN n := by
  unfold maxLen at hn
  have hcell : ∀ k, k < n → ∃ b off b' off', A = some ⟨b, off, none⟩ ∧ A' = some ⟨b', off', none⟩ ∧ w.cell? ⟨b, off + k, none⟩ = some (.float .f32 (x k)) ∧ w.cell? ⟨b', off' + k, none⟩ = some (.float .f32 (y k)) := by
    intro k hk
    obtain ⟨b, off, h1, h2, h3⟩ := hs.at_ (by omega)
    obtain ⟨b', off', h1', h2', h3'⟩ := hs'.at_ (by omega)
    exact ⟨b, off, b', off', h1, h1', h3 k hk, h3' k hk⟩
  have HC := hide hcell
  have HXY := hide hxy
  clear hcell hs hs' hxy
  have hwd := fun (w : World) (b : Nat) => run_widen_eq (P := Try.prog) w 26 32 b (by rw [Try.underlying26]; rfl) Try.underlying32
  go_enter Try.func20, Try.ntmps20
  go_wp2
  go_loopw [5] (fun i wr => ∃ k q : Nat, k ≤ n ∧ i = .int .i64 k ∧ wr = w.drewN q) (fun i _ => n - (intOf i).toNat)
  case atStart => exact ⟨0, 0, Nat.zero_le _, rfl, rfl⟩
  case round =>
    obtain ⟨k, q, hk, rfl, rfl⟩ := hrel
    by_cases hlt : k < n
    · obtain ⟨b, off, b', off', rfl, rfl, hc, hc'⟩ := HC.out k hlt
      go_wp2_with fail
      go_region_with (go_at_call 19; refine (sameFloat_any _ _ _ (wv_both (HXY.out k hlt))).mono ?_; rintro e w' ⟨rfl, q2, rfl⟩)
      all_goals
        go_wp2
        go_roundw
        case rel => exact ⟨k + 1, _, by omega, by go_num, rfl⟩
        case measure => simp [intOf]; omega
    · go_wp2
      go_ret
      exact ⟨rfl, _, rfl⟩
end Go.Proofs.Ytpbbedelapnnnaa
