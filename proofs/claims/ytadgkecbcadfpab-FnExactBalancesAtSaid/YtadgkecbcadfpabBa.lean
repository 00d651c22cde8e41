/- BalancesAt, by both. -/
import Derived.Test.YtadgkecbcadfpabEi
import Derived.Test.YtadgkecbcadfpabLn
import Derived.StillTailTactics
namespace Go.Proofs.Ytadgkecbcadfpab
open Go.RowKit Go.Dues
/-- the balance of account a behind the first k entries, those of later days aside -/
def balD (x : Nat → Int) (d a : Int) : Nat → Int
  | 0 => 0
  | k + 1 => balD x d a k + (if x (k * 4) ≤ d then (if x (k * 4 + 1) = a then x (k * 4 + 3) else if x (k * 4 + 2) = a then -x (k * 4 + 3) else 0) else 0)
theorem balD_succ (x : Nat → Int) (d a : Int) (k : Nat) : balD x d a (k + 1) = balD x d a k + (if x (k * 4) ≤ d then (if x (k * 4 + 1) = a then x (k * 4 + 3) else if x (k * 4 + 2) = a then -x (k * 4 + 3) else 0) else 0) := rfl
theorem balD_bd {x : Nat → Int} {d a : Int} : ∀ {k : Nat}, (∀ j, j < k → 1 ≤ x (j * 4 + 3) ∧ x (j * 4 + 3) ≤ 1000000000) → -1000000000 * (k : Int) ≤ balD x d a k ∧ balD x d a k ≤ 1000000000 * (k : Int)
  | 0, _ => by simp [balD]
  | k + 1, h => by
    have ih := balD_bd (d := d) (a := a) (k := k) (fun j hj => h j (Nat.lt_succ_of_lt hj))
    have h2 := h k (by omega)
    rw [balD_succ]
    push_cast
    split
    · split
      · omega
      · split <;> omega
    · omega
theorem balD_late {x : Nat → Int} {d a : Int} {k : Nat} (h : ¬ x (k * 4) ≤ d) : balD x d a (k + 1) = balD x d a k := by rw [balD_succ, if_neg h]; omega
theorem bal_step {x : Nat → Int} {d c : Int} {k p1 p2 : Nat} {ds : Array Value} (hle : x (k * 4) ≤ d) (h1 : x (k * 4 + 1) = (p1 : Int)) (h2 : x (k * 4 + 2) = (p2 : Int)) (h3 : x (k * 4 + 3) = c) (hne : p1 ≠ p2)
    (hd : ∀ p, p < 12 → ds[p]? = some (.int .i64 (balD x d p k))) :
    ∀ p, p < 12 → ((ds.setIfInBounds p1 (.int .i64 (balD x d p1 k + c))).setIfInBounds p2 (.int .i64 (balD x d p2 k - c)))[p]? = some (.int .i64 (balD x d p (k + 1))) := by
  intro p hp
  have hq := hd p hp
  have hsz := (Array.getElem?_eq_some_iff.1 hq).1
  rw [balD_succ, if_pos hle, h1, h2, h3]
  rw [Array.getElem?_setIfInBounds, Array.size_setIfInBounds, Array.getElem?_setIfInBounds]
  by_cases e2 : p2 = p
  · subst e2
    rw [if_pos rfl, if_pos hsz, if_neg (show ¬ (p1 : Int) = (p2 : Int) by omega), if_pos rfl]
    rfl
  · rw [if_neg e2]
    by_cases e1 : p1 = p
    · subst e1
      rw [if_pos rfl, if_pos hsz, if_pos rfl]
    · rw [if_neg e1, if_neg (show ¬ (p1 : Int) = (p : Int) by omega), if_neg (show ¬ (p2 : Int) = (p : Int) by omega), hq, Int.add_zero]
theorem blk_set {w : World} {p : Addr} {v : Value} {i : Nat} {o : Option Obj} (hi : i ≠ p.block) (h : w.heap[i]? = o) : (w.drew.setCell p v).heap[i]? = o := (Below.heap_setCell w.drew p v i hi).trans h
/-- twelve numbers that the call made -/
def Gave12 (w w' : World) (e : Ending) (z : Nat → Int) : Prop :=
  ∃ G, e = .returned (.slice G 12 12) ∧ OW w' w.heap.size w'.heap.size G 12 (fun j => .int .i64 (z j)) ∧ Below w.heap.size w w'
/-- twelve numbers and yes, if p holds; none and no, if not -/
def GaveB (w w' : World) (e : Ending) (p : Prop) (z : Nat → Int) : Prop :=
  ∃ G d, e = .returned (.tuple #[.slice G (lenV p 12) d, .bool (tru p)]) ∧ OW w' w.heap.size w'.heap.size G (lenV p 12) (fun j => .int .i64 (z j)) ∧ Below w.heap.size w w'
theorem gaveb_no {w w' : World} {p : Prop} {z : Nat → Int} (h : ¬ p) (hb : Below w.heap.size w w') : GaveB w w' (.returned (.tuple #[.slice none 0 0, .bool false])) p z :=
  ⟨none, 0, (by rw [lenV_no h, tru_no h]), .inl (lenV_no h), hb⟩
theorem gaveb_yes {w w' : World} {p : Prop} {z : Nat → Int} {G : Option Addr} (h : p) (ho : OW w' w.heap.size w'.heap.size G 12 (fun j => .int .i64 (z j))) (hb : Below w.heap.size w w') : GaveB w w' (.returned (.tuple #[.slice G 12 12, .bool true])) p z :=
  ⟨G, 12, (by rw [lenV_yes h, tru_yes h]), by rw [lenV_yes h]; exact ho, hb⟩
set_option maxRecDepth 100000 in
set_option maxHeartbeats 8000000 in
theorem implBal_any (A : Option Addr) (n c : Nat) (x : Nat → Int) (day : Int) (w : World) (hl : ledP x n) (hs : SL w A (n * 4) (fun j => .int .i64 (x j))) :
    Calls Try.prog 58 #[.slice A n c, .int .i64 day] w fun e w' => Gave12 w w' e (fun p => balD x day p n) := by
  obtain ⟨i0, hi, hz0, hz1, hz2⟩ := info_parts Try.info64
  have HL := hide hl
  have h64 := hl.1
  have HC := cells4_entry hs
  clear hs hl
  go_enter Try.func58, Try.ntmps58
  go_wp2_with (at_make; refine wpList_make_full _ rfl _ _ 24 rfl w.heap.size 2 i0 (.int .i64 0) 1 Try.underlying24 hi hz0 hz1 _ _ _ _ 12 rfl rfl rfl rfl (by rw [hz2]; omega) (by unfold maxLen; omega) (Nat.le_refl _) ?_; intro w1 hown hgrow)
  have hbel : Below w.heap.size w w1 := (Below.refl _ _).grown hgrow (Nat.le_refl _) (fun k h => by cases h)
  obtain ⟨cur, hcur, hcs⟩ : ∃ cur : Array Value, w1.heap[w.heap.size]? = some (.cells cur 2 (0, 0)) ∧ ∀ p, p < 12 → cur[p]? = some (.int .i64 (balD x day p 0)) := by
    rcases hown.2 with ⟨h', _⟩ | ⟨g', cap', cur, h', _, hg, _, _, hcs, htk⟩
    · simp at h'
    · simp only [Value.slice.injEq, Option.some.injEq, Addr.mk.injEq, and_true, true_and] at h'
      obtain ⟨rfl, rfl⟩ := h'
      refine ⟨cur, hg, fun p hp => ?_⟩
      have h7 : (madeCells (Value.int .i64 0).cells (12 * 1)).toList[p]? = some (.int .i64 0) := by
        rw [Nat.mul_one, show (Value.int .i64 0).cells = #[Value.int .i64 0] from rfl, toList_madeCells_one, List.getElem?_replicate, if_pos hp]
      rw [← htk, Nat.mul_one, List.getElem?_take, if_pos hp, Array.getElem?_toList] at h7
      exact h7
  have HCUR := hide hcur
  have HBEL1 := hide hbel
  have HCS := hide hcs
  clear hown hgrow hcur hbel hcs
  go_wp2
  go_loopw [7, 11] (fun _ i wr => ∃ (k : Nat) (ds : Array Value), k ≤ n ∧ i = .int .i64 k ∧ Hid (wr.heap[w.heap.size]? = some (.cells ds 2 (0, 0))) ∧ Hid (∀ p, p < 12 → ds[p]? = some (.int .i64 (balD x day p k))) ∧ Below w.heap.size w wr) (fun _ i _ => n - (intOf i).toNat)
  case atStart => exact ⟨0, cur, Nat.zero_le _, rfl, HCUR.out, HCS.out, HBEL1.out⟩
  case round =>
    obtain ⟨k, ds, hk, rfl, hb0, hds, hbel⟩ := hrel
    by_cases hlt : k < n
    · obtain ⟨b, off, rfl, hb, c0, c1, c2, c3⟩ := HC.out k hlt
      have d0 := (hbel.cell (p := ⟨b, off + k * 4, none⟩) hb).trans c0
      have d1 := (hbel.cell (p := ⟨b, off + k * 4 + 1, none⟩) hb).trans c1
      have d2 := (hbel.cell (p := ⟨b, off + k * 4 + 2, none⟩) hb).trans c2
      have d3 := (hbel.cell (p := ⟨b, off + k * 4 + 3, none⟩) hb).trans c3
      have HBEL := hide hbel
      have hz := hbel.size
      have hgl : w.heap.size < wr.heap.size := (Array.getElem?_eq_some_iff.1 hb0.out).1
      clear hbel c0 c1 c2 c3
      by_cases hle : x (k * 4) ≤ day
      · have zle : decide (x (k * 4) ≤ day) = true := decide_eq_true hle
        have HLE := hide hle
        obtain ⟨_, ⟨a0, a1⟩, ⟨b0, b1⟩, hne, m0, m1⟩ := (HL.out.2 k hlt).1
        have hk64 : (k : Int) ≤ 64 := by have := HL.out.1; omega
        obtain ⟨p1, q1⟩ : ∃ p : Nat, x (k * 4 + 1) = p := ⟨(x (k * 4 + 1)).toNat, by omega⟩
        obtain ⟨p2, q2⟩ : ∃ p : Nat, x (k * 4 + 2) = p := ⟨(x (k * 4 + 2)).toNat, by omega⟩
        obtain ⟨cc, q3⟩ : ∃ c : Int, x (k * 4 + 3) = c := ⟨_, rfl⟩
        obtain ⟨v1, hv1⟩ : ∃ v : Int, balD x day p1 k = v := ⟨_, rfl⟩
        obtain ⟨v2, hv2⟩ : ∃ v : Int, balD x day p2 k = v := ⟨_, rfl⟩
        have B1 := balD_bd (x := x) (d := day) (a := p1) (k := k) (fun j hj => (HL.out.2 j (by omega)).1.2.2.2.2)
        have B2 := balD_bd (x := x) (d := day) (a := p2) (k := k) (fun j hj => (HL.out.2 j (by omega)).1.2.2.2.2)
        rw [hv1] at B1
        rw [hv2] at B2
        rw [q1] at d1 a0 a1 hne
        rw [q2] at d2 b0 b1 hne
        rw [q3] at d3 m0 m1
        have hp12 : p1 ≠ p2 := fun h => hne (by rw [h])
        have l1 : p1 < 12 := by omega
        have l2 : p2 < 12 := by omega
        have y1 : (p1 : Int) < 12 := by omega
        have y2 : (p2 : Int) < 12 := by omega
        have s1 := hds.out p1 l1
        have s2 := hds.out p2 l2
        rw [hv1] at s1
        rw [hv2] at s2
        have E1 : IntKind.i64.wrap (v1 + cc) = v1 + cc := Go.IntWalk.i64_in _ (by omega)
        have E2 : IntKind.i64.wrap (v2 - cc) = v2 - cc := Go.IntWalk.i64_in _ (by omega)
        have HQ := hide (show _ ∧ _ ∧ _ ∧ _ ∧ _ ∧ _ from ⟨q1, q2, q3, hv1, hv2, hp12⟩)
        clear q1 q2 q3 hv1 hv2 hne B1 B2 hle
        obtain ⟨W, hW⟩ : ∃ u, u = wr.alloc (.cells #[.int .i64 (x (k * 4)), .int .i64 p1, .int .i64 p2, .int .i64 cc] 68) := ⟨_, rfl⟩
        have HBX : Hid (W.heap[wr.heap.size]? = some (.cells #[.int .i64 (x (k * 4)), .int .i64 p1, .int .i64 p2, .int .i64 cc] 68)) := by rw [hW]; exact blocks1 wr _
        have HBW : Hid (Below w.heap.size w W) := by rw [hW]; exact HBEL.out.alloc HBEL.out.size _
        have HBG : Hid (W.heap[w.heap.size]? = some (.cells ds 2 (0, 0))) := by
          rw [hW]
          exact (Below.heap_alloc _ _ _ hgl).trans hb0.out
        have k1 := Joins.cell_of_block HBX.out 1
        have k3 := Joins.cell_of_block HBX.out 3
        simp at k1 k3
        have g1 := (Joins.cell_of_block HBG.out p1).trans s1
        have u1 := Joins.unfrozen_of_block HBG.out p1
        have HWW := hide hW
        clear hW
        obtain ⟨V, hV⟩ : ∃ u, u = W.drew := ⟨_, rfl⟩
        have k1' : V.cell? ⟨wr.heap.size, 1, none⟩ = some (.int .i64 p1) := by rw [hV]; exact k1
        have g1' : V.cell? ⟨w.heap.size, p1, none⟩ = some (.int .i64 v1) := by rw [hV]; exact g1
        have u1' := (show V.frozen? ⟨w.heap.size, p1, none⟩ = W.frozen? ⟨w.heap.size, p1, none⟩ by rw [hV]; rfl).trans u1
        have HVV := hide hV
        clear hV
        go_wp2_with fail
        rw [← HWW.out]
        go_still_tail 9, (by kernel_rfl)
        change wpList _ _ _ _ _ W.drew
        rw [← HVV.out]
        obtain ⟨W2, hW2⟩ : ∃ u, u = V.setCell ⟨w.heap.size, p1, none⟩ (.int .i64 (v1 + cc)) := ⟨_, rfl⟩
        have HG2 : Hid (W2.heap[w.heap.size]? = some (.cells (ds.setIfInBounds p1 (.int .i64 (v1 + cc))) 2 (0, 0))) := by rw [hW2, HVV.out]; exact Joins.block_setCell HBG.out _
        have HX2 : Hid (W2.heap[wr.heap.size]? = some (.cells #[.int .i64 (x (k * 4)), .int .i64 p1, .int .i64 p2, .int .i64 cc] 68)) := by rw [hW2, HVV.out]; exact blk_set (by show wr.heap.size ≠ w.heap.size; omega) HBX.out
        have HB2 : Hid (Below w.heap.size w W2) := by rw [hW2, HVV.out]; exact (HBW.out.drew).setCell (Nat.le_refl _) _
        have s3 : (ds.setIfInBounds p1 (.int .i64 (v1 + cc)))[p2]? = some (.int .i64 v2) := by rw [Array.getElem?_setIfInBounds, if_neg hp12]; exact s2
        have HW2 := hide hW2
        clear hW2
        go_wp2_with fail
        rw [← HW2.out]
        clear k1 k3 g1 u1 k1' g1' u1' HW2 HVV HWW
        have k2 := Joins.cell_of_block HX2.out 2
        have k3 := Joins.cell_of_block HX2.out 3
        simp at k2 k3
        have g2 := (Joins.cell_of_block HG2.out p2).trans s3
        have u2 := Joins.unfrozen_of_block HG2.out p2
        obtain ⟨V2, hV2⟩ : ∃ u, u = W2.drew := ⟨_, rfl⟩
        have g2' : V2.cell? ⟨w.heap.size, p2, none⟩ = some (.int .i64 v2) := by rw [hV2]; exact g2
        have u2' := (show V2.frozen? ⟨w.heap.size, p2, none⟩ = W2.frozen? ⟨w.heap.size, p2, none⟩ by rw [hV2]; rfl).trans u2
        have HVV2 := hide hV2
        clear hV2
        go_still_tail 9, (by kernel_rfl)
        change wpList _ _ _ _ _ W2.drew
        rw [← HVV2.out]
        go_wp2
        go_roundw
        case rel =>
          obtain ⟨q1, q2, q3, hv1, hv2, _⟩ := HQ.out
          subst hv1
          subst hv2
          exact ⟨k + 1, _, by omega, by go_num, (by rw [HVV2.out]; exact Joins.block_setCell HG2.out _), bal_step HLE.out q1 q2 q3 hp12 hds.out, (by rw [HVV2.out]; exact (HB2.out.drew).setCell (Nat.le_refl _) _)⟩
        case measure => simp [intOf]; omega
      · have zle : decide (x (k * 4) ≤ day) = false := decide_eq_false hle
        have HLE := hide hle
        clear hle
        go_wp2
        go_roundw
        case rel => exact ⟨k + 1, ds, by omega, by go_num, (blk_below ((Below.refl wr.heap.size wr).alloc (Nat.le_refl _) _) hgl hb0.out), fun p hp => by rw [balD_late HLE.out]; exact hds.out p hp, HBEL.out.alloc HBEL.out.size _⟩
        case measure => simp [intOf]; omega
    · obtain rfl : k = n := by omega
      go_wp2
      go_ret
      exact ⟨some ⟨w.heap.size, 0, none⟩, rfl, .inr ⟨w.heap.size, ds, 2, rfl, Nat.le_refl _, (Array.getElem?_eq_some_iff.1 hb0.out).1, hb0.out, hds.out⟩, hbel⟩
set_option maxRecDepth 100000 in
set_option maxHeartbeats 8000000 in
theorem specBal_any (A : Option Addr) (n c : Nat) (x : Nat → Int) (day : Int) (w : World) (hl : ledP x n) (hs : SL w A (n * 4) (fun j => .int .i64 (x j))) :
    Calls Try.prog 54 #[.slice A n c, .int .i64 day] w fun e w' => Gave12 w w' e (fun p => balD x day p n) := by
  obtain ⟨i0, hi, hz0, hz1, hz2⟩ := info_parts Try.info64
  have HL := hide hl
  have h64 := hl.1
  have HC := cells4_entry hs
  clear hs hl
  go_enter Try.func54, Try.ntmps54
  go_wp2_with (at_make; refine wpList_make_full _ rfl _ _ 24 rfl w.heap.size 2 i0 (.int .i64 0) 1 Try.underlying24 hi hz0 hz1 _ _ _ _ 12 rfl rfl rfl rfl (by rw [hz2]; omega) (by unfold maxLen; omega) (Nat.le_refl _) ?_; intro w1 hown hgrow)
  have hbel : Below w.heap.size w w1 := (Below.refl _ _).grown hgrow (Nat.le_refl _) (fun k h => by cases h)
  obtain ⟨cur, hcur, hcs⟩ : ∃ cur : Array Value, w1.heap[w.heap.size]? = some (.cells cur 2 (0, 0)) ∧ ∀ p, p < 12 → cur[p]? = some (.int .i64 (balD x day p 0)) := by
    rcases hown.2 with ⟨h', _⟩ | ⟨g', cap', cur, h', _, hg, _, _, hcs, htk⟩
    · simp at h'
    · simp only [Value.slice.injEq, Option.some.injEq, Addr.mk.injEq, and_true, true_and] at h'
      obtain ⟨rfl, rfl⟩ := h'
      refine ⟨cur, hg, fun p hp => ?_⟩
      have h7 : (madeCells (Value.int .i64 0).cells (12 * 1)).toList[p]? = some (.int .i64 0) := by
        rw [Nat.mul_one, show (Value.int .i64 0).cells = #[Value.int .i64 0] from rfl, toList_madeCells_one, List.getElem?_replicate, if_pos hp]
      rw [← htk, Nat.mul_one, List.getElem?_take, if_pos hp, Array.getElem?_toList] at h7
      exact h7
  have HCUR := hide hcur
  have HBEL1 := hide hbel
  have HCS := hide hcs
  clear hown hgrow hcur hbel hcs
  go_wp2
  go_loopw [6, 10] (fun _ i wr => ∃ (k : Nat) (ds : Array Value), k ≤ n ∧ i = .int .i64 k ∧ Hid (wr.heap[w.heap.size]? = some (.cells ds 2 (0, 0))) ∧ Hid (∀ p, p < 12 → ds[p]? = some (.int .i64 (balD x day p k))) ∧ Below w.heap.size w wr) (fun _ i _ => n - (intOf i).toNat)
  case atStart => exact ⟨0, cur, Nat.zero_le _, rfl, HCUR.out, HCS.out, HBEL1.out⟩
  case round =>
    obtain ⟨k, ds, hk, rfl, hb0, hds, hbel⟩ := hrel
    by_cases hlt : k < n
    · obtain ⟨b, off, rfl, hb, c0, c1, c2, c3⟩ := HC.out k hlt
      have d0 := (hbel.cell (p := ⟨b, off + k * 4, none⟩) hb).trans c0
      have d1 := (hbel.cell (p := ⟨b, off + k * 4 + 1, none⟩) hb).trans c1
      have d2 := (hbel.cell (p := ⟨b, off + k * 4 + 2, none⟩) hb).trans c2
      have d3 := (hbel.cell (p := ⟨b, off + k * 4 + 3, none⟩) hb).trans c3
      have HBEL := hide hbel
      have hz := hbel.size
      have hgl : w.heap.size < wr.heap.size := (Array.getElem?_eq_some_iff.1 hb0.out).1
      clear hbel c0 c1 c2 c3
      by_cases hle : x (k * 4) ≤ day
      · have zle : decide (x (k * 4) ≤ day) = true := decide_eq_true hle
        have HLE := hide hle
        obtain ⟨_, ⟨a0, a1⟩, ⟨b0, b1⟩, hne, m0, m1⟩ := (HL.out.2 k hlt).1
        have hk64 : (k : Int) ≤ 64 := by have := HL.out.1; omega
        obtain ⟨p1, q1⟩ : ∃ p : Nat, x (k * 4 + 1) = p := ⟨(x (k * 4 + 1)).toNat, by omega⟩
        obtain ⟨p2, q2⟩ : ∃ p : Nat, x (k * 4 + 2) = p := ⟨(x (k * 4 + 2)).toNat, by omega⟩
        obtain ⟨cc, q3⟩ : ∃ c : Int, x (k * 4 + 3) = c := ⟨_, rfl⟩
        obtain ⟨v1, hv1⟩ : ∃ v : Int, balD x day p1 k = v := ⟨_, rfl⟩
        obtain ⟨v2, hv2⟩ : ∃ v : Int, balD x day p2 k = v := ⟨_, rfl⟩
        have B1 := balD_bd (x := x) (d := day) (a := p1) (k := k) (fun j hj => (HL.out.2 j (by omega)).1.2.2.2.2)
        have B2 := balD_bd (x := x) (d := day) (a := p2) (k := k) (fun j hj => (HL.out.2 j (by omega)).1.2.2.2.2)
        rw [hv1] at B1
        rw [hv2] at B2
        rw [q1] at d1 a0 a1 hne
        rw [q2] at d2 b0 b1 hne
        rw [q3] at d3 m0 m1
        have hp12 : p1 ≠ p2 := fun h => hne (by rw [h])
        have l1 : p1 < 12 := by omega
        have l2 : p2 < 12 := by omega
        have y1 : (p1 : Int) < 12 := by omega
        have y2 : (p2 : Int) < 12 := by omega
        have s1 := hds.out p1 l1
        have s2 := hds.out p2 l2
        rw [hv1] at s1
        rw [hv2] at s2
        have E1 : IntKind.i64.wrap (v1 + cc) = v1 + cc := Go.IntWalk.i64_in _ (by omega)
        have E2 : IntKind.i64.wrap (v2 - cc) = v2 - cc := Go.IntWalk.i64_in _ (by omega)
        have HQ := hide (show _ ∧ _ ∧ _ ∧ _ ∧ _ ∧ _ from ⟨q1, q2, q3, hv1, hv2, hp12⟩)
        clear q1 q2 q3 hv1 hv2 hne B1 B2 hle
        have g1 := (Joins.cell_of_block hb0.out p1).trans s1
        have u1 := Joins.unfrozen_of_block hb0.out p1
        obtain ⟨V, hV⟩ : ∃ u, u = wr.drew := ⟨_, rfl⟩
        have g1' : V.cell? ⟨w.heap.size, p1, none⟩ = some (.int .i64 v1) := by rw [hV]; exact g1
        have u1' := (show V.frozen? ⟨w.heap.size, p1, none⟩ = wr.frozen? ⟨w.heap.size, p1, none⟩ by rw [hV]; rfl).trans u1
        have HVV := hide hV
        clear hV
        go_wp2_with fail
        go_still_tail 15, (by kernel_rfl)
        change wpList _ _ _ _ _ wr.drew
        rw [← HVV.out]
        obtain ⟨W2, hW2⟩ : ∃ u, u = V.setCell ⟨w.heap.size, p1, none⟩ (.int .i64 (v1 + cc)) := ⟨_, rfl⟩
        have HG2 : Hid (W2.heap[w.heap.size]? = some (.cells (ds.setIfInBounds p1 (.int .i64 (v1 + cc))) 2 (0, 0))) := by rw [hW2, HVV.out]; exact Joins.block_setCell hb0.out _
        have HR2 : Hid (Below w.heap.size wr W2) := by rw [hW2, HVV.out]; exact ((Below.refl w.heap.size wr).drew).setCell (Nat.le_refl _) _
        have HB2 : Hid (Below w.heap.size w W2) := hide (HBEL.out.trans HR2.out)
        have s3 : (ds.setIfInBounds p1 (.int .i64 (v1 + cc)))[p2]? = some (.int .i64 v2) := by rw [Array.getElem?_setIfInBounds, if_neg hp12]; exact s2
        have HW2 := hide hW2
        clear hW2
        go_wp2_with fail
        rw [← HW2.out]
        have e2 := (HR2.out.cell (p := ⟨b, off + k * 4 + 2, none⟩) hb).trans d2
        have e3 := (HR2.out.cell (p := ⟨b, off + k * 4 + 3, none⟩) hb).trans d3
        clear g1 u1 g1' u1' HW2 HVV d0 d1 d2 d3
        have g2 := (Joins.cell_of_block HG2.out p2).trans s3
        have u2 := Joins.unfrozen_of_block HG2.out p2
        obtain ⟨V2, hV2⟩ : ∃ u, u = W2.drew := ⟨_, rfl⟩
        have g2' : V2.cell? ⟨w.heap.size, p2, none⟩ = some (.int .i64 v2) := by rw [hV2]; exact g2
        have u2' := (show V2.frozen? ⟨w.heap.size, p2, none⟩ = W2.frozen? ⟨w.heap.size, p2, none⟩ by rw [hV2]; rfl).trans u2
        have HVV2 := hide hV2
        clear hV2
        go_still_tail 15, (by kernel_rfl)
        change wpList _ _ _ _ _ W2.drew
        rw [← HVV2.out]
        go_wp2
        go_roundw
        case rel =>
          obtain ⟨q1, q2, q3, hv1, hv2, _⟩ := HQ.out
          subst hv1
          subst hv2
          exact ⟨k + 1, _, by omega, by go_num, (by rw [HVV2.out]; exact Joins.block_setCell HG2.out _), bal_step HLE.out q1 q2 q3 hp12 hds.out, (by rw [HVV2.out]; exact (HB2.out.drew).setCell (Nat.le_refl _) _)⟩
        case measure => simp [intOf]; omega
      · have zle : decide (x (k * 4) ≤ day) = false := decide_eq_false hle
        have HLE := hide hle
        clear hle
        go_wp2
        go_roundw
        case rel => exact ⟨k + 1, ds, by omega, by go_num, hb0.out, fun p hp => by rw [balD_late HLE.out]; exact hds.out p hp, HBEL.out⟩
        case measure => simp [intOf]; omega
    · obtain rfl : k = n := by omega
      go_wp2
      go_ret
      exact ⟨some ⟨w.heap.size, 0, none⟩, rfl, .inr ⟨w.heap.size, ds, 2, rfl, Nat.le_refl _, (Array.getElem?_eq_some_iff.1 hb0.out).1, hb0.out, hds.out⟩, hbel⟩
set_option maxRecDepth 100000 in
set_option maxHeartbeats 8000000 in
theorem implBalances_any (A : Option Addr) (n c : Nat) (x : Nat → Int) (day : Int) (w : World) (hn : n ≤ maxLen) (hs : SL w A (n * 4) (fun j => .int .i64 (x j))) :
    Calls Try.prog 18 #[.slice A n c, .int .i64 day] w fun e w' => GaveB w w' e (ledP x n ∧ (0 ≤ day ∧ day ≤ 36524)) (fun p => balD x day p n) := by
  have HL := hide (implAreEntries_any A n c x w hn hs)
  have HSL := hide hs
  clear hs
  by_cases hp : ledP x n
  · have HP := hide hp
    clear hp
    cases ga : inB day 0 36524
    · have HH := hide (show ¬ (ledP x n ∧ (0 ≤ day ∧ day ≤ 36524)) from fun h => by rw [inB_yes h.2] at ga; cases ga)
      go_enter Try.func18, Try.ntmps18
      go_wp2_with fail
      refine HL.out.mono ?_
      rw [tru_yes HP.out]
      rintro e w1 ⟨rfl, hb⟩
      have HB1 := hide hb
      clear hb
      go_wp2_with (go_at_call 57; refine (implDay_any _ _).mono ?_; rintro e w' ⟨rfl, rfl⟩)
      go_ret2
      exact gaveb_no HH.out HB1.out
    · have HH := hide (show ledP x n ∧ (0 ≤ day ∧ day ≤ 36524) from ⟨HP.out, inB_iff.1 ga⟩)
      go_enter Try.func18, Try.ntmps18
      go_wp2_with fail
      refine HL.out.mono ?_
      rw [tru_yes HP.out]
      rintro e w1 ⟨rfl, hb⟩
      have HB1 := hide hb
      have HBA := hide (implBal_any A n c x day w1 HP.out (HSL.out.below hb))
      clear hb
      go_wp2_with (go_at_call 57; refine (implDay_any _ _).mono ?_; rintro e w' ⟨rfl, rfl⟩)
      clear ga
      refine HBA.out.mono ?_
      rintro e w2 ⟨G, rfl, ho, hb2⟩
      have HO := hide ho
      have HB2 := hide hb2
      clear ho hb2
      go_wp2
      go_ret2
      exact gaveb_yes HH.out (HO.out.wide HB1.out.size (Nat.le_refl _)) (HB1.out.trans (HB2.out.mono HB1.out.size))
  · have HH := hide (show ¬ (ledP x n ∧ (0 ≤ day ∧ day ≤ 36524)) from fun h => hp h.1)
    have HP := hide hp
    clear hp
    go_enter Try.func18, Try.ntmps18
    go_wp2_with fail
    refine HL.out.mono ?_
    rw [tru_no HP.out]
    rintro e w1 ⟨rfl, hb⟩
    have HB1 := hide hb
    clear hb
    go_wp2_with (go_at_call 57; refine (implDay_any _ _).mono ?_; rintro e w' ⟨rfl, rfl⟩)
    go_ret2
    exact gaveb_no HH.out HB1.out
set_option maxRecDepth 100000 in
set_option maxHeartbeats 8000000 in
theorem specBalances_any (A : Option Addr) (n c : Nat) (x : Nat → Int) (day : Int) (w : World) (hn : n ≤ maxLen) (hs : SL w A (n * 4) (fun j => .int .i64 (x j))) :
    Calls Try.prog 16 #[.slice A n c, .int .i64 day] w fun e w' => GaveB w w' e (ledP x n ∧ (0 ≤ day ∧ day ≤ 36524)) (fun p => balD x day p n) := by
  have HL := hide (specLedger_any A n c x w hn hs)
  have HSL := hide hs
  clear hs
  by_cases hp : ledP x n
  · have HP := hide hp
    clear hp
    cases ga : inB day 0 36524
    · have HH := hide (show ¬ (ledP x n ∧ (0 ≤ day ∧ day ≤ 36524)) from fun h => by rw [inB_yes h.2] at ga; cases ga)
      go_enter Try.func16, Try.ntmps16
      go_wp2_with fail
      refine HL.out.mono ?_
      rw [tru_yes HP.out]
      rintro e w1 ⟨rfl, hb⟩
      have HB1 := hide hb
      clear hb
      go_wp2_with (go_at_call 53; refine (specDay_any _ _).mono ?_; rintro e w' ⟨rfl, rfl⟩)
      go_ret2
      exact gaveb_no HH.out HB1.out
    · have HH := hide (show ledP x n ∧ (0 ≤ day ∧ day ≤ 36524) from ⟨HP.out, inB_iff.1 ga⟩)
      go_enter Try.func16, Try.ntmps16
      go_wp2_with fail
      refine HL.out.mono ?_
      rw [tru_yes HP.out]
      rintro e w1 ⟨rfl, hb⟩
      have HB1 := hide hb
      have HBA := hide (specBal_any A n c x day w1 HP.out (HSL.out.below hb))
      clear hb
      go_wp2_with (go_at_call 53; refine (specDay_any _ _).mono ?_; rintro e w' ⟨rfl, rfl⟩)
      clear ga
      refine HBA.out.mono ?_
      rintro e w2 ⟨G, rfl, ho, hb2⟩
      have HO := hide ho
      have HB2 := hide hb2
      clear ho hb2
      go_wp2
      go_ret2
      exact gaveb_yes HH.out (HO.out.wide HB1.out.size (Nat.le_refl _)) (HB1.out.trans (HB2.out.mono HB1.out.size))
  · have HH := hide (show ¬ (ledP x n ∧ (0 ≤ day ∧ day ≤ 36524)) from fun h => hp h.1)
    have HP := hide hp
    clear hp
    go_enter Try.func16, Try.ntmps16
    go_wp2_with fail
    refine HL.out.mono ?_
    rw [tru_no HP.out]
    rintro e w1 ⟨rfl, hb⟩
    have HB1 := hide hb
    clear hb
    go_wp2_with (go_at_call 53; refine (specDay_any _ _).mono ?_; rintro e w' ⟨rfl, rfl⟩)
    go_ret2
    exact gaveb_no HH.out HB1.out
end Go.Proofs.Ytadgkecbcadfpab
