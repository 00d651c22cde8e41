/- The laws' marks in lists of 32-bit numbers. -/
import Derived.Test.YtpbbedelapnnnaaFls
import Derived.Test.YtpbbedelapnnnaaOw
import Derived.Laws.Cover2
namespace Go.Proofs.Ytpbbedelapnnnaa
open Go.RowKit
attribute [local go_sem] run_store_float
def fI (n : Int) : Nat := floatOfInt .f32 n
theorem fI_nan {n : Int} (h0 : 0 ≤ n) (h1 : n < 1073741824) : fnan .f32 (fI n) = false := by
  refine mag_not_nan (k := ((30 : Nat) : Int) + 1) (mag_write32 (d := .number (n < 0) n.natAbs 0) (k := ((30 : Nat) : Int)) ?_ (by decide) (by decide))
  by_cases h : n.natAbs = 0
  · exact .inl h
  · exact .inr (by have := (Nat.log2_lt (k := 30) h).2 (by omega); omega)
theorem int_eqf {a b : Int} (h : a = b) : Value.int .i64 a = .int .i64 b := by rw [h]
theorem toFlW_any (A : Option Addr) (n c : Nat) (x : Nat → Nat) (w : World) (hn : n ≤ 1048576) (hs : SL w A n (fun j => .float .f32 (x j))) :
    Calls Try.prog 26 #[.slice A n c] w fun e w' => ∃ g, e = .returned (.slice (some ⟨g, 0, none⟩) n n) ∧ Below w.heap.size w w' ∧ OW w' w.heap.size w'.heap.size (some ⟨g, 0, none⟩) n (fun j => .float .f32 (x j)) := by
  obtain ⟨i0, hi, hz0, hz1, hz2⟩ := info_parts Try.infoF32
  have hmax : n ≤ maxLen := by unfold maxLen; omega
  have hcell : ∀ k, k < n → ∃ b off, A = some ⟨b, off, none⟩ ∧ b < w.heap.size ∧ w.cell? ⟨b, off + k, none⟩ = some (.float .f32 (x k)) := by
    intro k hk
    obtain ⟨b, off, h1, h2, h3⟩ := hs.at_ (by omega)
    exact ⟨b, off, h1, h2, h3 k hk⟩
  have HC := hide hcell
  clear hcell hs
  go_enter Try.func26, Try.ntmps26
  go_wp2_with (at_make; refine wpList_make_full _ rfl _ _ 22 rfl w.heap.size 26 i0 (.float .f32 0) 1 Try.underlying22 hi hz0 hz1 _ _ _ _ n rfl rfl rfl rfl (by rw [hz2]; omega) hmax (Nat.le_refl _) ?_; intro w1 hown hgrow)
  have hbel : Below w.heap.size w w1 := (Below.refl _ _).grown hgrow (Nat.le_refl _) (fun k h => by cases h)
  go_loopw [4] (fun i wr => ∃ (k : Nat) (xs : List Value), k ≤ n ∧ i = .int .i64 k ∧ wr.ownsRow w.heap.size 26 1 (.slice (some ⟨w.heap.size, 0, none⟩) n n) n xs ∧ Hid (∀ j, j < k → xs[j]? = some (.float .f32 (x j))) ∧ Below w.heap.size w wr) (fun i _ => n - (intOf i).toNat)
  case atStart => exact ⟨0, _, Nat.zero_le _, rfl, hown, fun j hj => absurd hj (by omega), hbel⟩
  case round =>
    obtain ⟨k, xs, hk, rfl, hown, hxs, hbel⟩ := hrel
    by_cases hlt : k < n
    · obtain ⟨b, off, rfl, hb, hc⟩ := HC.out k hlt
      have hc2 : wr.cell? ⟨b, off + k, none⟩ = some (.float .f32 (x k)) := (hbel.cell (p := ⟨b, off + k, none⟩) hb).trans hc
      have hlen : xs.length = n := by have := hown.1; omega
      obtain ⟨u, hu⟩ : ∃ u, xs[k]? = some u := ⟨xs[k]'(by omega), List.getElem?_eq_getElem _⟩
      have hold : wr.cell? ⟨w.heap.size, k, none⟩ = some u := (hown.cellAt k (by omega)).trans hu
      have hfr := hown.frozenAt k
      have hst := hown.stored k (.float .f32 (x k))
      have HO := hide hst
      have HX := hide hlen
      clear hst hc hu hlen
      go_wp2
      go_roundw
      case rel =>
        refine ⟨k + 1, xs.set k (.float .f32 (x k)), by omega, by go_num, HO.out.1, ?_, hbel.trans ((Below.refl _ _).grown HO.out.2 (by have := hbel.size; omega) (fun j hj => by injection hj with hj; omega))⟩
        intro j hj
        by_cases hjk : j = k
        · subst hjk
          rw [List.getElem?_set_self (by rw [HX.out]; omega)]
        · rw [List.getElem?_set_ne (by omega)]
          exact hxs.out j (by omega)
      case measure => simp [intOf]; omega
    · go_wp2
      go_ret
      obtain rfl : k = n := by omega
      exact ⟨w.heap.size, rfl, hbel, OW.of_owns hown hxs.out⟩
set_option maxHeartbeats 1000000 in
theorem markFl_any (A : Option Addr) (n c lo hi : Nat) (x : Nat → Nat) (k : Int) (w : World) (hn : n ≤ 1048576) (hk0 : 0 ≤ k) (hk1 : k ≤ 1000000000) (h : OW w lo hi A n (fun j => .float .f32 (x j))) :
    Calls Try.prog 23 #[.slice A n c, .int .i64 k] w fun e w' => e = .returned (.int .i64 (k + n)) ∧ OW w' lo hi A n (fun j => .float .f32 (fI (k + j))) ∧ Within lo hi w w' := by
  have hcv := fun (w : World) (m : Int) => run_convert_int_float (P := Try.prog) w 3 26 .i64 .f32 m (by rw [Try.underlying3]; rfl) Try.underlying26
  rcases h with rfl | ⟨g, cs, t, rfl, hlo, hhi, hb, hc⟩
  · go_enter Try.func23, Try.ntmps23
    go_wp2
    refine wp_loop_rounds 1 ?_
    rw [rounds_succ]
    go_wp2
    go_ret
    exact ⟨by simp, .inl rfl, Within.refl _ _ _⟩
  · have HB := hide hb
    have HC := hide hc
    clear hb hc
    go_enter Try.func23, Try.ntmps23
    go_wp2
    go_loopw [1, 5] (fun m i wr => ∃ (j : Nat) (ds : Array Value), j ≤ n ∧ i = .int .i64 j ∧ m = .int .i64 (k + j) ∧ Hid (wr.heap[g]? = some (.cells ds t (0, 0))) ∧ Hid (∀ p, p < n → ∃ u, ds[p]? = some u) ∧ Hid (∀ p, p < j → ds[p]? = some (.float .f32 (fI (k + p)))) ∧ Within lo hi w wr) (fun _ i _ => n - (intOf i).toNat)
    case atStart => exact ⟨0, cs, Nat.zero_le _, rfl, by simp, HB, fun p hp => ⟨_, HC.out p hp⟩, fun p hp => absurd hp (by omega), Within.refl _ _ _⟩
    case round =>
      obtain ⟨j, ds, hj, rfl, rfl, hb, hu, hd, hw⟩ := hrel
      by_cases hlt : j < n
      · obtain ⟨u, hu1⟩ := hu.out j hlt
        have c1 := (Joins.cell_of_block hb.out j).trans hu1
        have c2 := Joins.unfrozen_of_block hb.out j
        have HU := hide hu1
        have HW := hide hw
        obtain ⟨F, hF⟩ : ∃ F, floatOfInt .f32 (k + (j : Int)) = F := ⟨_, rfl⟩
        have HF := hide (show F = fI (k + (j : Int)) from hF.symm)
        clear hu1 hw
        go_wp2
        go_roundw
        case rel =>
          refine ⟨j + 1, ds.setIfInBounds j (.float .f32 F), by omega, by go_num, int_eqf (by push_cast; omega), Joins.block_setCell hb.out _, ?_, ?_, HW.out.set hlo hhi⟩
          · intro p hp
            by_cases hpj : p = j
            · subst hpj
              have hl := (Array.getElem?_eq_some_iff.1 HU.out).1
              exact ⟨.float .f32 F, by simp [hl]⟩
            · obtain ⟨u', h'⟩ := hu.out p hp
              exact ⟨u', by rw [Array.getElem?_setIfInBounds_ne (Ne.symm hpj)]; exact h'⟩
          · intro p hp
            by_cases hpj : p = j
            · subst hpj
              have hl := (Array.getElem?_eq_some_iff.1 HU.out).1
              rw [← HF.out]
              simp [hl]
            · rw [Array.getElem?_setIfInBounds_ne (Ne.symm hpj)]
              exact hd.out p (by omega)
        case measure => simp [intOf]; omega
      · go_wp2
        go_ret
        obtain rfl : j = n := by omega
        exact ⟨rfl, .inr ⟨g, ds, t, rfl, hlo, hhi, hb.out, hd.out⟩, hw⟩
set_option maxHeartbeats 1000000 in
theorem heldFl_any (A : Option Addr) (n c : Nat) (k : Int) (w : World) (hn : n ≤ 1048576) (hk0 : 0 ≤ k) (hk1 : k ≤ 1000000000) (hs : SL w A n (fun j => .float .f32 (fI (k + j)))) :
    Calls Try.prog 24 #[.slice A n c, .int .i64 k] w fun e w' => e = .returned (.int .i64 (k + n)) ∧ ∃ q, w' = w.drewN q := by
  have hcv := fun (w : World) (m : Int) => run_convert_int_float (P := Try.prog) w 3 26 .i64 .f32 m (by rw [Try.underlying3]; rfl) Try.underlying26
  have HC : Hid (∀ k', k' < n → ∃ b off, A = some ⟨b, off, none⟩ ∧ b < w.heap.size ∧ w.cell? ⟨b, off + k', none⟩ = some (.float .f32 (fI (k + k')))) := by
    intro k' hk
    obtain ⟨b, off, h1, h2, h3⟩ := hs.at_ (by omega)
    exact ⟨b, off, h1, h2, h3 k' hk⟩
  clear hs
  go_enter Try.func24, Try.ntmps24
  go_wp2
  go_loopw [1, 5] (fun m i wr => ∃ j q : Nat, j ≤ n ∧ i = .int .i64 j ∧ m = .int .i64 (k + j) ∧ wr = w.drewN q) (fun _ i _ => n - (intOf i).toNat)
  case atStart => exact ⟨0, 0, Nat.zero_le _, rfl, by simp, rfl⟩
  case round =>
    obtain ⟨j, q, hj, rfl, rfl, rfl⟩ := hrel
    by_cases hlt : j < n
    · obtain ⟨b, off, rfl, hb, hc⟩ := HC.out j hlt
      have hnan := fI_nan (n := k + (j : Int)) (by omega) (by omega)
      change w.cell? ⟨b, off + j, none⟩ = some (.float .f32 (floatOfInt .f32 (k + (j : Int)))) at hc
      have hord : FloatKind.f32.format.order (floatOfInt .f32 (k + (j : Int))) (floatOfInt .f32 (k + (j : Int))) = some .eq := order_refl hnan
      obtain ⟨F, hF⟩ : ∃ F, floatOfInt .f32 (k + (j : Int)) = F := ⟨_, rfl⟩
      rw [hF] at hc hord
      have hne : (FloatKind.f32.format.order F F != some .eq) = false := by rw [hord]; rfl
      have hne2 : (FloatKind.f32.format.order F F == some .eq) = true := by rw [hord]; rfl
      clear hnan hord
      go_wp2
      go_roundw
      case rel => exact ⟨j + 1, _, by omega, by go_num, int_eqf (by push_cast; omega), rfl⟩
      case measure => simp [intOf]; omega
    · go_wp2
      go_ret
      obtain rfl : j = n := by omega
      exact ⟨rfl, _, rfl⟩
end Go.Proofs.Ytpbbedelapnnnaa
