/- The laws' own helpers over lists of structs: Tariff. -/
import Derived.Test.YtfkndehhepplbaaB3
import Derived.Test.YtfkndehhepplbaaOw
import Derived.Deep.RegionHeld3
namespace Go.Proofs.Ytfkndehhepplbaa
open Go.RowKit
theorem Try.infoTariff : (Try.prog.info? 32).map (fun i => (i.zero, i.size, i.bytes)) = some (some (.agg #[.int .i64 0, .int .i64 0, .int .i64 0]), 3, 24) := by kernel_rfl
set_option maxHeartbeats 2000000 in
theorem toTariff_any (a0 : Int) (a1 : Int) (a2 : Int) (w : World) : Calls Try.prog 22 #[.agg #[.int .i64 a0, .int .i64 a1, .int .i64 a2]] w fun e w' => e = .returned (.agg #[.int .i64 a0, .int .i64 a1, .int .i64 a2]) ∧ Below w.heap.size w w' := by
  go_enter Try.func22, Try.ntmps22
  go_wp2
  refine bodyPost_ret (v := .agg #[.int .i64 a0, .int .i64 a1, .int .i64 a2]) (by simp [results, Try.results22, go_sem]) rfl ⟨rfl, ?_⟩
  exact ((((Below.refl w.heap.size w).alloc (Nat.le_refl _) _).alloc (by simp) _).alloc (by simp; omega) _)
set_option maxRecDepth 100000 in
set_option maxHeartbeats 2000000 in
theorem eqTariff_any (a0 : Int) (a1 : Int) (a2 : Int) (w : World) : Calls Try.prog 68 #[.agg #[.int .i64 a0, .int .i64 a1, .int .i64 a2], .agg #[.int .i64 a0, .int .i64 a1, .int .i64 a2]] w fun e w' => e = .returned (.bool true) ∧ Below w.heap.size w w' := by
  have ha0 : (a0 != a0) = false := by simp
  have ha1 : (a1 != a1) = false := by simp
  have ha2 : (a2 != a2) = false := by simp
  go_enter Try.func68, Try.ntmps68
  go_wp2
  go_ret
  exact ⟨rfl, ((Below.refl w.heap.size w).alloc (Nat.le_refl _) _).alloc (by simp) _⟩
theorem szTariff_any (A : Option Addr) (n c : Nat) (L : Int) (w : World) (hn : n ≤ maxLen) (L0 : 0 ≤ L) (L1 : L ≤ 1048576) :
    Calls Try.prog 26 #[.slice A n c, .int .i64 L] w fun e w' => ∃ l : Int, e = .returned (.int .i64 l) ∧ (((n : Int) ≤ L ∧ l = L - n) ∨ l = -1) ∧ w = w' := by
  unfold maxLen at hn
  by_cases h : (n : Int) ≤ L
  · go_enter Try.func26, Try.ntmps26
    go_wp2
    go_ret
    exact ⟨_, rfl, .inl ⟨h, rfl⟩, rfl⟩
  · go_enter Try.func26, Try.ntmps26
    go_wp2
    go_ret
    exact ⟨_, rfl, .inr rfl, rfl⟩
theorem cells3_tariff {A : Option Addr} {n : Nat} {f : Nat → Value} {w : World} (hs : SL w A (n * 3) f) : Hid (∀ k, k < n → ∃ b off, A = some ⟨b, off, none⟩ ∧ b < w.heap.size ∧ w.cell? ⟨b, off + k * 3, none⟩ = some (f (k * 3)) ∧ w.cell? ⟨b, off + k * 3 + 1, none⟩ = some (f (k * 3 + 1)) ∧ w.cell? ⟨b, off + k * 3 + 2, none⟩ = some (f (k * 3 + 2))) := by
  intro k hk
  obtain ⟨b, off, h1, h2, h3⟩ := hs.at_ (by omega)
  refine ⟨b, off, h1, h2, ?_, ?_, ?_⟩
  · exact h3 (k * 3) (by omega)
  · exact h3 (k * 3 + 1) (by omega)
  · exact h3 (k * 3 + 2) (by omega)
set_option maxRecDepth 100000 in
set_option maxHeartbeats 4000000 in
theorem toTariffS_any (A : Option Addr) (n c : Nat) (x : Nat → Int) (w : World) (hn : n ≤ 1048576) (hs : SL w A (n * 3) (fun j => .int .i64 (x j))) :
    Calls Try.prog 28 #[.slice A n c] w fun e w' => ∃ g, e = .returned (.slice (some ⟨g, 0, none⟩) n n) ∧ w.heap.size ≤ g ∧ g < w'.heap.size ∧ Below w.heap.size w w' ∧ OW w' w.heap.size w'.heap.size (some ⟨g, 0, none⟩) (n * 3) (fun j => .int .i64 (x j)) := by
  obtain ⟨i0, hi, hz0, hz1, hz2⟩ := info_parts Try.infoTariff
  have hmax : n ≤ maxLen := by unfold maxLen; omega
  have HC := cells3_tariff hs
  clear hs
  go_enter Try.func28, Try.ntmps28
  go_wp2_with (at_make; refine wpList_make_full _ rfl _ _ 41 rfl w.heap.size 32 i0 (.agg #[.int .i64 0, .int .i64 0, .int .i64 0]) 3 Try.underlying41 hi hz0 hz1 _ _ _ _ n rfl rfl rfl rfl (by rw [hz2]; omega) hmax (Nat.le_refl _) ?_; intro w1 hown hgrow)
  have hbel : Below w.heap.size w w1 := (Below.refl _ _).grown hgrow (Nat.le_refl _) (fun k h => by cases h)
  obtain ⟨cur, hcur, hcs⟩ : ∃ cur : Array Value, w1.heap[w.heap.size]? = some (.cells cur 32 (0, 0)) ∧ cur.size = n * 3 := by
    rcases hown.2 with ⟨h', _⟩ | ⟨g', cap', cur, h', _, hg, _, _, hcs, _⟩
    · simp at h'
    · simp only [Value.slice.injEq, Option.some.injEq, Addr.mk.injEq, and_true, true_and] at h'
      obtain ⟨rfl, rfl⟩ := h'
      exact ⟨cur, hg, hcs⟩
  have HCUR := hide hcur
  have HBEL1 := hide hbel
  have HCS := hide hcs
  clear hown hgrow hcur hbel hcs
  go_loopw [4] (fun i wr => ∃ (k : Nat) (ds : Array Value), k ≤ n ∧ i = .int .i64 k ∧ Hid (wr.heap[w.heap.size]? = some (.cells ds 32 (0, 0))) ∧ Hid (ds.size = n * 3) ∧ Hid (∀ j, j < k * 3 → ds[j]? = some (.int .i64 (x j))) ∧ Below w.heap.size w wr) (fun i _ => n - (intOf i).toNat)
  case atStart => exact ⟨0, cur, Nat.zero_le _, rfl, HCUR.out, HCS.out, fun j hj => absurd hj (by omega), HBEL1.out⟩
  case round =>
    obtain ⟨k, ds, hk, rfl, hb0, hsz, hxs, hbel⟩ := hrel
    by_cases hlt : k < n
    · obtain ⟨b, off, rfl, hb, c0, c1, c2⟩ := HC.out k hlt
      have d0 := (hbel.cell (p := ⟨b, off + k * 3, none⟩) hb).trans c0
      have d1 := (hbel.cell (p := ⟨b, off + k * 3 + 1, none⟩) hb).trans c1
      have d2 := (hbel.cell (p := ⟨b, off + k * 3 + 2, none⟩) hb).trans c2
      have HBEL := hide hbel
      have hz := hbel.size
      have hgl : w.heap.size < wr.heap.size := (Array.getElem?_eq_some_iff.1 hb0.out).1
      clear hbel
      clear c0 c1 c2
      go_wp2_with fail
      refine (toTariff_any (x (k * 3)) (x (k * 3 + 1)) (x (k * 3 + 2)) _).mono ?_
      rintro e w2 ⟨rfl, hb2⟩
      have HB2 := hide (HBEL.out.trans (hb2.mono hz))
      have HBK := hide (blk_below hb2 hgl hb0.out)
      clear hb2 d0 d1 d2
      obtain ⟨u0, hu0⟩ : ∃ u, ds[k * 3]? = some u := ⟨ds[k * 3]'(by have := hsz.out; omega), Array.getElem?_eq_getElem _⟩
      have e0 := (Joins.cell_of_block HBK.out (k * 3)).trans hu0
      have f0 := Joins.unfrozen_of_block HBK.out (k * 3)
      obtain ⟨u1, hu1⟩ : ∃ u, ds[k * 3 + 1]? = some u := ⟨ds[k * 3 + 1]'(by have := hsz.out; omega), Array.getElem?_eq_getElem _⟩
      have e1 := (Joins.cell_of_block HBK.out (k * 3 + 1)).trans hu1
      have f1 := Joins.unfrozen_of_block HBK.out (k * 3 + 1)
      obtain ⟨u2, hu2⟩ : ∃ u, ds[k * 3 + 2]? = some u := ⟨ds[k * 3 + 2]'(by have := hsz.out; omega), Array.getElem?_eq_getElem _⟩
      have e2 := (Joins.cell_of_block HBK.out (k * 3 + 2)).trans hu2
      have f2 := Joins.unfrozen_of_block HBK.out (k * 3 + 2)
      clear hu0 hu1 hu2
      go_wp2
      go_roundw
      case rel =>
        refine ⟨k + 1, _, by omega, by go_num, Joins.block_setCell (Joins.block_setCell (Joins.block_setCell HBK.out _) _) _, (by show Array.size _ = _; simpa using hsz.out), ?_, ((HB2.out.setCell (by simp) _).setCell (by simp) _).setCell (by simp) _⟩
        intro j hj
        have hs := hsz.out
        simp only [Array.getElem?_setIfInBounds, Array.size_setIfInBounds]
        repeat' split
        all_goals first | (subst_vars; rfl) | (exact hxs.out j (by omega)) | omega
      case measure => simp [intOf]; omega
    · go_wp2
      go_ret
      obtain rfl : k = n := by omega
      exact ⟨w.heap.size, rfl, Nat.le_refl _, (Array.getElem?_eq_some_iff.1 hb0.out).1, hbel, .inr ⟨w.heap.size, ds, 32, rfl, Nat.le_refl _, (Array.getElem?_eq_some_iff.1 hb0.out).1, hb0.out, hxs.out⟩⟩
set_option maxRecDepth 100000 in
set_option maxHeartbeats 4000000 in
theorem eqTariffS_any (A A' : Option Addr) (n c c' : Nat) (x : Nat → Int) (w : World) (hn : n ≤ maxLen) (hs : SL w A (n * 3) (fun j => .int .i64 (x j))) (hs' : SL w A' (n * 3) (fun j => .int .i64 (x j))) :
    Calls Try.prog 30 #[.slice A n c, .slice A' n c'] w fun e w' => e = .returned (.bool true) ∧ Below w.heap.size w w' := by
  unfold maxLen at hn
  have HC := cells3_tariff hs
  have HC' := cells3_tariff hs'
  clear hs hs'
  go_enter Try.func30, Try.ntmps30
  go_wp2
  go_loopw [5] (fun i wr => ∃ k : Nat, k ≤ n ∧ i = .int .i64 k ∧ Below w.heap.size w wr) (fun i _ => n - (intOf i).toNat)
  case atStart => exact ⟨0, Nat.zero_le _, rfl, Below.refl _ _⟩
  case round =>
    obtain ⟨k, hk, rfl, hbel⟩ := hrel
    by_cases hlt : k < n
    · obtain ⟨b, off, rfl, hb, c0, c1, c2⟩ := HC.out k hlt
      obtain ⟨b', off', rfl, hb', c0', c1', c2'⟩ := HC'.out k hlt
      have d0 := (hbel.cell (p := ⟨b, off + k * 3, none⟩) hb).trans c0
      have d0' := (hbel.cell (p := ⟨b', off' + k * 3, none⟩) hb').trans c0'
      have d1 := (hbel.cell (p := ⟨b, off + k * 3 + 1, none⟩) hb).trans c1
      have d1' := (hbel.cell (p := ⟨b', off' + k * 3 + 1, none⟩) hb').trans c1'
      have d2 := (hbel.cell (p := ⟨b, off + k * 3 + 2, none⟩) hb).trans c2
      have d2' := (hbel.cell (p := ⟨b', off' + k * 3 + 2, none⟩) hb').trans c2'
      have HBEL := hide hbel
      have HZ := hide (show b < wr.heap.size ∧ b' < wr.heap.size from ⟨Nat.lt_of_lt_of_le hb hbel.size, Nat.lt_of_lt_of_le hb' hbel.size⟩)
      have HD := hide (show wr.cell? ⟨b, off + k * 3, none⟩ = some (.int .i64 (x (k * 3))) ∧ wr.cell? ⟨b, off + k * 3 + 1, none⟩ = some (.int .i64 (x (k * 3 + 1))) ∧ wr.cell? ⟨b, off + k * 3 + 2, none⟩ = some (.int .i64 (x (k * 3 + 2))) ∧ wr.cell? ⟨b', off' + k * 3, none⟩ = some (.int .i64 (x (k * 3))) ∧ wr.cell? ⟨b', off' + k * 3 + 1, none⟩ = some (.int .i64 (x (k * 3 + 1))) ∧ wr.cell? ⟨b', off' + k * 3 + 2, none⟩ = some (.int .i64 (x (k * 3 + 2))) from ⟨d0, d1, d2, d0', d1', d2'⟩)
      clear hbel c0 c0' c1 c1' c2 c2'
      go_wp2_with fail
      go_region_held3 (fun w' => w'.cell? ⟨b, off + k * 3, none⟩ = some (.int .i64 (x (k * 3))) ∧ w'.cell? ⟨b, off + k * 3 + 1, none⟩ = some (.int .i64 (x (k * 3 + 1))) ∧ w'.cell? ⟨b, off + k * 3 + 2, none⟩ = some (.int .i64 (x (k * 3 + 2))) ∧ w'.cell? ⟨b', off' + k * 3, none⟩ = some (.int .i64 (x (k * 3))) ∧ w'.cell? ⟨b', off' + k * 3 + 1, none⟩ = some (.int .i64 (x (k * 3 + 1))) ∧ w'.cell? ⟨b', off' + k * 3 + 2, none⟩ = some (.int .i64 (x (k * 3 + 2)))) ((first | exact ⟨d0, d1, d2, d0', d1', d2'⟩ | exact ⟨e0, e1, e2, e0', e1', e2'⟩)) (first
        | (go_at_call 68; refine (eqTariff_any _ _ _ _).mono ?_; rintro e w2 ⟨rfl, hb2⟩; replace hb2 : Below wr.heap.size wr w2 := ⟨hb2.os, hb2.tape, hb2.output, hb2.size, hb2.block⟩; have HB2 := hide (HBEL.out.trans (hb2.mono HBEL.out.size)); have e0 := (hb2.cell (p := ⟨b, off + k * 3, none⟩) HZ.out.1).trans d0; have e0' := (hb2.cell (p := ⟨b', off' + k * 3, none⟩) HZ.out.2).trans d0'; have e1 := (hb2.cell (p := ⟨b, off + k * 3 + 1, none⟩) HZ.out.1).trans d1; have e1' := (hb2.cell (p := ⟨b', off' + k * 3 + 1, none⟩) HZ.out.2).trans d1'; have e2 := (hb2.cell (p := ⟨b, off + k * 3 + 2, none⟩) HZ.out.1).trans d2; have e2' := (hb2.cell (p := ⟨b', off' + k * 3 + 2, none⟩) HZ.out.2).trans d2'; clear hb2; simp only []))
      all_goals
        go_wp2
        go_roundw
        case rel => exact ⟨k + 1, by omega, by go_num, HB2.out⟩
        case measure => simp [intOf]; omega
    · go_wp2
      go_ret
      exact ⟨rfl, hbel⟩
end Go.Proofs.Ytfkndehhepplbaa
