/- The laws' own helpers over lists of structs: Entry. -/
import Derived.Test.YtpbbedelapnnnaaB3
import Derived.Test.YtpbbedelapnnnaaOw
import Derived.Deep.RegionHeld3
namespace Go.Proofs.Ytpbbedelapnnnaa
open Go.RowKit
theorem Try.infoEntry : (Try.prog.info? 141).map (fun i => (i.zero, i.size, i.bytes)) = some (some (.agg #[.int .i64 0, .int .i64 0, .int .i64 0, .int .i64 0]), 4, 32) := by kernel_rfl
set_option maxHeartbeats 2000000 in
theorem toEntry_any (a0 : Int) (a1 : Int) (a2 : Int) (a3 : Int) (w : World) : Calls Try.prog 114 #[.agg #[.int .i64 a0, .int .i64 a1, .int .i64 a2, .int .i64 a3]] w fun e w' => e = .returned (.agg #[.int .i64 a0, .int .i64 a1, .int .i64 a2, .int .i64 a3]) ∧ Below w.heap.size w w' := by
  go_enter Try.func114, Try.ntmps114
  go_wp2
  refine bodyPost_ret (v := .agg #[.int .i64 a0, .int .i64 a1, .int .i64 a2, .int .i64 a3]) (by simp [results, Try.results114, go_sem]) rfl ⟨rfl, ?_⟩
  exact ((((Below.refl w.heap.size w).alloc (Nat.le_refl _) _).alloc (by simp) _).alloc (by simp; omega) _)
set_option maxRecDepth 100000 in
set_option maxHeartbeats 2000000 in
theorem eqEntry_any (a0 : Int) (a1 : Int) (a2 : Int) (a3 : Int) (w : World) : Calls Try.prog 117 #[.agg #[.int .i64 a0, .int .i64 a1, .int .i64 a2, .int .i64 a3], .agg #[.int .i64 a0, .int .i64 a1, .int .i64 a2, .int .i64 a3]] w fun e w' => e = .returned (.bool true) ∧ Below w.heap.size w w' := by
  have ha0 : (a0 != a0) = false := by simp
  have ha1 : (a1 != a1) = false := by simp
  have ha2 : (a2 != a2) = false := by simp
  have ha3 : (a3 != a3) = false := by simp
  go_enter Try.func117, Try.ntmps117
  go_wp2
  go_ret
  exact ⟨rfl, ((Below.refl w.heap.size w).alloc (Nat.le_refl _) _).alloc (by simp) _⟩
theorem szEntry_any (A : Option Addr) (n c : Nat) (L : Int) (w : World) (hn : n ≤ maxLen) (L0 : 0 ≤ L) (L1 : L ≤ 1048576) :
    Calls Try.prog 35 #[.slice A n c, .int .i64 L] w fun e w' => ∃ l : Int, e = .returned (.int .i64 l) ∧ (((n : Int) ≤ L ∧ l = L - n) ∨ l = -1) ∧ w = w' := by
  unfold maxLen at hn
  by_cases h : (n : Int) ≤ L
  · go_enter Try.func35, Try.ntmps35
    go_wp2
    go_ret
    exact ⟨_, rfl, .inl ⟨h, rfl⟩, rfl⟩
  · go_enter Try.func35, Try.ntmps35
    go_wp2
    go_ret
    exact ⟨_, rfl, .inr rfl, rfl⟩
theorem cells4_entry {A : Option Addr} {n : Nat} {f : Nat → Value} {w : World} (hs : SL w A (n * 4) f) : Hid (∀ k, k < n → ∃ b off, A = some ⟨b, off, none⟩ ∧ b < w.heap.size ∧ w.cell? ⟨b, off + k * 4, none⟩ = some (f (k * 4)) ∧ w.cell? ⟨b, off + k * 4 + 1, none⟩ = some (f (k * 4 + 1)) ∧ w.cell? ⟨b, off + k * 4 + 2, none⟩ = some (f (k * 4 + 2)) ∧ w.cell? ⟨b, off + k * 4 + 3, none⟩ = some (f (k * 4 + 3))) := by
  intro k hk
  obtain ⟨b, off, h1, h2, h3⟩ := hs.at_ (by omega)
  refine ⟨b, off, h1, h2, ?_, ?_, ?_, ?_⟩
  · exact h3 (k * 4) (by omega)
  · exact h3 (k * 4 + 1) (by omega)
  · exact h3 (k * 4 + 2) (by omega)
  · exact h3 (k * 4 + 3) (by omega)
set_option maxRecDepth 100000 in
set_option maxHeartbeats 4000000 in
theorem toEntryS_any (A : Option Addr) (n c : Nat) (x : Nat → Int) (w : World) (hn : n ≤ 1048576) (hs : SL w A (n * 4) (fun j => .int .i64 (x j))) :
    Calls Try.prog 37 #[.slice A n c] w fun e w' => ∃ g, e = .returned (.slice (some ⟨g, 0, none⟩) n n) ∧ w.heap.size ≤ g ∧ g < w'.heap.size ∧ Below w.heap.size w w' ∧ OW w' w.heap.size w'.heap.size (some ⟨g, 0, none⟩) (n * 4) (fun j => .int .i64 (x j)) := by
  obtain ⟨i0, hi, hz0, hz1, hz2⟩ := info_parts Try.infoEntry
  have hmax : n ≤ maxLen := by unfold maxLen; omega
  have HC := cells4_entry hs
  clear hs
  go_enter Try.func37, Try.ntmps37
  go_wp2_with (at_make; refine wpList_make_full _ rfl _ _ 55 rfl w.heap.size 141 i0 (.agg #[.int .i64 0, .int .i64 0, .int .i64 0, .int .i64 0]) 4 Try.underlying55 hi hz0 hz1 _ _ _ _ n rfl rfl rfl rfl (by rw [hz2]; omega) hmax (Nat.le_refl _) ?_; intro w1 hown hgrow)
  have hbel : Below w.heap.size w w1 := (Below.refl _ _).grown hgrow (Nat.le_refl _) (fun k h => by cases h)
  obtain ⟨cur, hcur, hcs⟩ : ∃ cur : Array Value, w1.heap[w.heap.size]? = some (.cells cur 141 (0, 0)) ∧ cur.size = n * 4 := by
    rcases hown.2 with ⟨h', _⟩ | ⟨g', cap', cur, h', _, hg, _, _, hcs, _⟩
    · simp at h'
    · simp only [Value.slice.injEq, Option.some.injEq, Addr.mk.injEq, and_true, true_and] at h'
      obtain ⟨rfl, rfl⟩ := h'
      exact ⟨cur, hg, hcs⟩
  have HCUR := hide hcur
  have HBEL1 := hide hbel
  have HCS := hide hcs
  clear hown hgrow hcur hbel hcs
  go_loopw [4] (fun i wr => ∃ (k : Nat) (ds : Array Value), k ≤ n ∧ i = .int .i64 k ∧ Hid (wr.heap[w.heap.size]? = some (.cells ds 141 (0, 0))) ∧ Hid (ds.size = n * 4) ∧ Hid (∀ j, j < k * 4 → ds[j]? = some (.int .i64 (x j))) ∧ Below w.heap.size w wr) (fun i _ => n - (intOf i).toNat)
  case atStart => exact ⟨0, cur, Nat.zero_le _, rfl, HCUR.out, HCS.out, fun j hj => absurd hj (by omega), HBEL1.out⟩
  case round =>
    obtain ⟨k, ds, hk, rfl, hb0, hsz, hxs, hbel⟩ := hrel
    by_cases hlt : k < n
    · obtain ⟨b, off, rfl, hb, c0, c1, c2, c3⟩ := HC.out k hlt
      have d0 := (hbel.cell (p := ⟨b, off + k * 4, none⟩) hb).trans c0
      have d1 := (hbel.cell (p := ⟨b, off + k * 4 + 1, none⟩) hb).trans c1
      have d2 := (hbel.cell (p := ⟨b, off + k * 4 + 2, none⟩) hb).trans c2
      have d3 := (hbel.cell (p := ⟨b, off + k * 4 + 3, none⟩) hb).trans c3
      have HBEL := hide hbel
      have hz := hbel.size
      have hgl : w.heap.size < wr.heap.size := (Array.getElem?_eq_some_iff.1 hb0.out).1
      clear hbel
      clear c0 c1 c2 c3
      go_wp2_with fail
      refine (toEntry_any (x (k * 4)) (x (k * 4 + 1)) (x (k * 4 + 2)) (x (k * 4 + 3)) _).mono ?_
      rintro e w2 ⟨rfl, hb2⟩
      have HB2 := hide (HBEL.out.trans (hb2.mono hz))
      have HBK := hide (blk_below hb2 hgl hb0.out)
      clear hb2 d0 d1 d2 d3
      obtain ⟨u0, hu0⟩ : ∃ u, ds[k * 4]? = some u := ⟨ds[k * 4]'(by have := hsz.out; omega), Array.getElem?_eq_getElem _⟩
      have e0 := (Joins.cell_of_block HBK.out (k * 4)).trans hu0
      have f0 := Joins.unfrozen_of_block HBK.out (k * 4)
      obtain ⟨u1, hu1⟩ : ∃ u, ds[k * 4 + 1]? = some u := ⟨ds[k * 4 + 1]'(by have := hsz.out; omega), Array.getElem?_eq_getElem _⟩
      have e1 := (Joins.cell_of_block HBK.out (k * 4 + 1)).trans hu1
      have f1 := Joins.unfrozen_of_block HBK.out (k * 4 + 1)
      obtain ⟨u2, hu2⟩ : ∃ u, ds[k * 4 + 2]? = some u := ⟨ds[k * 4 + 2]'(by have := hsz.out; omega), Array.getElem?_eq_getElem _⟩
      have e2 := (Joins.cell_of_block HBK.out (k * 4 + 2)).trans hu2
      have f2 := Joins.unfrozen_of_block HBK.out (k * 4 + 2)
      obtain ⟨u3, hu3⟩ : ∃ u, ds[k * 4 + 3]? = some u := ⟨ds[k * 4 + 3]'(by have := hsz.out; omega), Array.getElem?_eq_getElem _⟩
      have e3 := (Joins.cell_of_block HBK.out (k * 4 + 3)).trans hu3
      have f3 := Joins.unfrozen_of_block HBK.out (k * 4 + 3)
      clear hu0 hu1 hu2 hu3
      go_wp2
      go_roundw
      case rel =>
        refine ⟨k + 1, _, by omega, by go_num, Joins.block_setCell (Joins.block_setCell (Joins.block_setCell (Joins.block_setCell HBK.out _) _) _) _, (by show Array.size _ = _; simpa using hsz.out), ?_, (((HB2.out.setCell (by simp) _).setCell (by simp) _).setCell (by simp) _).setCell (by simp) _⟩
        intro j hj
        have hs := hsz.out
        simp only [Array.getElem?_setIfInBounds, Array.size_setIfInBounds]
        repeat' split
        all_goals first | (subst_vars; rfl) | (exact hxs.out j (by omega)) | omega
      case measure => simp [intOf]; omega
    · go_wp2
      go_ret
      obtain rfl : k = n := by omega
      exact ⟨w.heap.size, rfl, Nat.le_refl _, (Array.getElem?_eq_some_iff.1 hb0.out).1, hbel, .inr ⟨w.heap.size, ds, 141, rfl, Nat.le_refl _, (Array.getElem?_eq_some_iff.1 hb0.out).1, hb0.out, hxs.out⟩⟩
set_option maxRecDepth 100000 in
set_option maxHeartbeats 4000000 in
theorem eqEntryS_any (A A' : Option Addr) (n c c' : Nat) (x : Nat → Int) (w : World) (hn : n ≤ maxLen) (hs : SL w A (n * 4) (fun j => .int .i64 (x j))) (hs' : SL w A' (n * 4) (fun j => .int .i64 (x j))) :
    Calls Try.prog 39 #[.slice A n c, .slice A' n c'] w fun e w' => e = .returned (.bool true) ∧ Below w.heap.size w w' := by
  unfold maxLen at hn
  have HC := cells4_entry hs
  have HC' := cells4_entry hs'
  clear hs hs'
  go_enter Try.func39, Try.ntmps39
  go_wp2
  go_loopw [5] (fun i wr => ∃ k : Nat, k ≤ n ∧ i = .int .i64 k ∧ Below w.heap.size w wr) (fun i _ => n - (intOf i).toNat)
  case atStart => exact ⟨0, Nat.zero_le _, rfl, Below.refl _ _⟩
  case round =>
    obtain ⟨k, hk, rfl, hbel⟩ := hrel
    by_cases hlt : k < n
    · obtain ⟨b, off, rfl, hb, c0, c1, c2, c3⟩ := HC.out k hlt
      obtain ⟨b', off', rfl, hb', c0', c1', c2', c3'⟩ := HC'.out k hlt
      have d0 := (hbel.cell (p := ⟨b, off + k * 4, none⟩) hb).trans c0
      have d0' := (hbel.cell (p := ⟨b', off' + k * 4, none⟩) hb').trans c0'
      have d1 := (hbel.cell (p := ⟨b, off + k * 4 + 1, none⟩) hb).trans c1
      have d1' := (hbel.cell (p := ⟨b', off' + k * 4 + 1, none⟩) hb').trans c1'
      have d2 := (hbel.cell (p := ⟨b, off + k * 4 + 2, none⟩) hb).trans c2
      have d2' := (hbel.cell (p := ⟨b', off' + k * 4 + 2, none⟩) hb').trans c2'
      have d3 := (hbel.cell (p := ⟨b, off + k * 4 + 3, none⟩) hb).trans c3
      have d3' := (hbel.cell (p := ⟨b', off' + k * 4 + 3, none⟩) hb').trans c3'
      have HBEL := hide hbel
      have HZ := hide (show b < wr.heap.size ∧ b' < wr.heap.size from ⟨Nat.lt_of_lt_of_le hb hbel.size, Nat.lt_of_lt_of_le hb' hbel.size⟩)
      have HD := hide (show wr.cell? ⟨b, off + k * 4, none⟩ = some (.int .i64 (x (k * 4))) ∧ wr.cell? ⟨b, off + k * 4 + 1, none⟩ = some (.int .i64 (x (k * 4 + 1))) ∧ wr.cell? ⟨b, off + k * 4 + 2, none⟩ = some (.int .i64 (x (k * 4 + 2))) ∧ wr.cell? ⟨b, off + k * 4 + 3, none⟩ = some (.int .i64 (x (k * 4 + 3))) ∧ wr.cell? ⟨b', off' + k * 4, none⟩ = some (.int .i64 (x (k * 4))) ∧ wr.cell? ⟨b', off' + k * 4 + 1, none⟩ = some (.int .i64 (x (k * 4 + 1))) ∧ wr.cell? ⟨b', off' + k * 4 + 2, none⟩ = some (.int .i64 (x (k * 4 + 2))) ∧ wr.cell? ⟨b', off' + k * 4 + 3, none⟩ = some (.int .i64 (x (k * 4 + 3))) from ⟨d0, d1, d2, d3, d0', d1', d2', d3'⟩)
      clear hbel c0 c0' c1 c1' c2 c2' c3 c3'
      go_wp2_with fail
      go_region_held3 (fun w' => w'.cell? ⟨b, off + k * 4, none⟩ = some (.int .i64 (x (k * 4))) ∧ w'.cell? ⟨b, off + k * 4 + 1, none⟩ = some (.int .i64 (x (k * 4 + 1))) ∧ w'.cell? ⟨b, off + k * 4 + 2, none⟩ = some (.int .i64 (x (k * 4 + 2))) ∧ w'.cell? ⟨b, off + k * 4 + 3, none⟩ = some (.int .i64 (x (k * 4 + 3))) ∧ w'.cell? ⟨b', off' + k * 4, none⟩ = some (.int .i64 (x (k * 4))) ∧ w'.cell? ⟨b', off' + k * 4 + 1, none⟩ = some (.int .i64 (x (k * 4 + 1))) ∧ w'.cell? ⟨b', off' + k * 4 + 2, none⟩ = some (.int .i64 (x (k * 4 + 2))) ∧ w'.cell? ⟨b', off' + k * 4 + 3, none⟩ = some (.int .i64 (x (k * 4 + 3)))) ((first | exact ⟨d0, d1, d2, d3, d0', d1', d2', d3'⟩ | exact ⟨e0, e1, e2, e3, e0', e1', e2', e3'⟩)) (first
        | (go_at_call 117; refine (eqEntry_any _ _ _ _ _).mono ?_; rintro e w2 ⟨rfl, hb2⟩; replace hb2 : Below wr.heap.size wr w2 := ⟨hb2.os, hb2.tape, hb2.output, hb2.size, hb2.block⟩; have HB2 := hide (HBEL.out.trans (hb2.mono HBEL.out.size)); have e0 := (hb2.cell (p := ⟨b, off + k * 4, none⟩) HZ.out.1).trans d0; have e0' := (hb2.cell (p := ⟨b', off' + k * 4, none⟩) HZ.out.2).trans d0'; have e1 := (hb2.cell (p := ⟨b, off + k * 4 + 1, none⟩) HZ.out.1).trans d1; have e1' := (hb2.cell (p := ⟨b', off' + k * 4 + 1, none⟩) HZ.out.2).trans d1'; have e2 := (hb2.cell (p := ⟨b, off + k * 4 + 2, none⟩) HZ.out.1).trans d2; have e2' := (hb2.cell (p := ⟨b', off' + k * 4 + 2, none⟩) HZ.out.2).trans d2'; have e3 := (hb2.cell (p := ⟨b, off + k * 4 + 3, none⟩) HZ.out.1).trans d3; have e3' := (hb2.cell (p := ⟨b', off' + k * 4 + 3, none⟩) HZ.out.2).trans d3'; clear hb2; simp only []))
      all_goals
        go_wp2
        go_roundw
        case rel => exact ⟨k + 1, by omega, by go_num, HB2.out⟩
        case measure => simp [intOf]; omega
    · go_wp2
      go_ret
      exact ⟨rfl, hbel⟩
set_option maxRecDepth 100000 in
set_option maxHeartbeats 4000000 in
theorem markEntryS_any (A : Option Addr) (n c lo hi : Nat) (x : Nat → Int) (k : Int) (w : World) (hn : n ≤ 1048576) (hk0 : 0 ≤ k) (hk1 : k ≤ 1000000000) (h : OW w lo hi A (n * 4) (fun j => .int .i64 (x j))) :
    Calls Try.prog 40 #[.slice A n c, .int .i64 k] w fun e w' => e = .returned (.int .i64 (k + (n : Int) * 4)) ∧ Within lo hi w w' := by
  rcases h with h | ⟨g, cs, t, rfl, hlo, hhi, hb, hc⟩
  · obtain rfl : n = 0 := by omega
    go_enter Try.func40, Try.ntmps40
    go_wp2
    refine wp_loop_rounds 1 ?_
    rw [rounds_succ]
    go_wp2
    go_ret
    exact ⟨by simp, Within.refl _ _ _⟩
  · have HB := hide hb
    have HC := hide hc
    clear hb hc
    go_enter Try.func40, Try.ntmps40
    go_wp2
    go_loopw [1, 5] (fun q i wr => ∃ (j : Nat) (ds : Array Value) (K : Int), j ≤ n ∧ i = .int .i64 j ∧ q = .int .i64 K ∧ 0 ≤ K ∧ K ≤ 1000000000 + (j : Int) * 4 ∧ Hid (K = k + (j : Int) * 4) ∧ Hid (wr.heap[g]? = some (.cells ds t (0, 0))) ∧ Hid (∀ p, p < n * 4 → ∃ u, ds[p]? = some u) ∧ Within lo hi w wr) (fun _ i _ => n - (intOf i).toNat)
    case atStart => exact ⟨0, cs, k, Nat.zero_le _, rfl, rfl, hk0, by simp; omega, by show k = k + _; simp, HB.out, fun p hp => ⟨_, HC.out p hp⟩, Within.refl _ _ _⟩
    case round =>
      obtain ⟨j, ds, K, hj, rfl, rfl, K0, K1, hK, hb, hu, hw⟩ := hrel
      by_cases hlt : j < n
      · have K2 : K ≤ 2000000000 := by omega
        obtain ⟨u0, hu0⟩ := hu.out (j * 4) (by omega)
        have c0 := (Joins.cell_of_block hb.out (j * 4)).trans hu0
        have f0 := Joins.unfrozen_of_block hb.out (j * 4)
        obtain ⟨u1, hu1⟩ := hu.out (j * 4 + 1) (by omega)
        have c1 := (Joins.cell_of_block hb.out (j * 4 + 1)).trans hu1
        have f1 := Joins.unfrozen_of_block hb.out (j * 4 + 1)
        obtain ⟨u2, hu2⟩ := hu.out (j * 4 + 2) (by omega)
        have c2 := (Joins.cell_of_block hb.out (j * 4 + 2)).trans hu2
        have f2 := Joins.unfrozen_of_block hb.out (j * 4 + 2)
        obtain ⟨u3, hu3⟩ := hu.out (j * 4 + 3) (by omega)
        have c3 := (Joins.cell_of_block hb.out (j * 4 + 3)).trans hu3
        have f3 := Joins.unfrozen_of_block hb.out (j * 4 + 3)
        have HW := hide hw
        clear hw hu0 hu1 hu2 hu3
        go_wp2
        go_roundw
        case rel =>
          refine ⟨j + 1, _, _, by omega, by go_num, rfl, by omega, by push_cast; omega, (by have := hK.out; show _ = _; push_cast; omega), Joins.block_setCell (Joins.block_setCell (Joins.block_setCell (Joins.block_setCell hb.out _) _) _) _, ?_, (((HW.out.set hlo hhi).set hlo hhi).set hlo hhi).set hlo hhi⟩
          intro p hp
          obtain ⟨u, hu'⟩ := hu.out p hp
          have hp2 := (Array.getElem?_eq_some_iff.1 hu').1
          refine ⟨_, Array.getElem?_eq_getElem ?_⟩
          simpa using hp2
        case measure => simp [intOf]; omega
      · obtain rfl : j = n := by omega
        have HE := hide hK.out
        go_wp2
        go_ret
        exact ⟨reti HE.out, hw⟩
end Go.Proofs.Ytpbbedelapnnnaa
