/- RowGaps, RowCounts, FirstRows and RowClashes, by both. -/
import Derived.Test.YtjndhcdanpnniaaRa
import Derived.Test.YtjndhcdanpnniaaG1
import Derived.Test.YtjndhcdanpnniaaOs
import Derived.Maps.AppendAt
namespace Go.Proofs.Ytjndhcdanpnniaa
open Go.RowKit Go.Dues
theorem cell_two_new (w : World) (x y : Value) (t : TypeId) : ∀ j u, [x, y][j]? = some u → (w.alloc (.cells #[x, y] t)).cell? ((⟨w.heap.size, 0, none⟩ : Addr).add j) = some u := by
  intro j u hj
  match j, hj with
  | 0, hj => simp at hj; subst hj; simp [Addr.add]
  | 1, hj => simp at hj; subst hj; simp [Addr.add]
def gapL (c : Int) (x : Nat → Int) (n : Nat) : List Int := il (flt (gapB x n) (tsz c))
def frL (c : Int) (x : Nat → Int) (n : Nat) : List Int := il (flt (frB x n (tsz c)) n)
def rcL (x : Nat → Int) (n : Nat) : List Int := prs (rcl x) (List.range' 0 n)
theorem len_RowGaps (c : Int) (x : Nat → Int) (n : Nat) : lenV (rowsP c x n) (gapL c x n).length ≤ 1048576 := by
  by_cases h : rowsP c x n
  · rw [lenV_yes h]; have h1 := flt_len (gapB x n) (tsz c); have h2 := (tsz_bd h.1).2; unfold gapL; rw [il_len]; omega
  · rw [lenV_no h]; omega
theorem len_FirstRows (c : Int) (x : Nat → Int) (n : Nat) : lenV (rowsP c x n) (frL c x n).length ≤ 1048576 := by
  by_cases h : rowsP c x n
  · rw [lenV_yes h]; have h1 := flt_len (frB x n (tsz c)) n; have h2 := h.2.1.2; unfold frL; rw [il_len]; omega
  · rw [lenV_no h]; omega
theorem len_RowCounts (c : Int) (x : Nat → Int) (n : Nat) : lenV (rowsP c x n) n ≤ 1048576 := by
  by_cases h : rowsP c x n
  · rw [lenV_yes h]; have h2 := h.2.1.2; omega
  · rw [lenV_no h]; omega
theorem rcL_len {x : Nat → Int} {n : Nat} (h : n ≤ 32) : (rcL x n).length ≤ 2048 := by
  have h1 := prs_len (rcl x) (List.range' 0 n)
  rw [List.length_range'] at h1
  have h2 : 2 * n * n ≤ 2 * 32 * 32 := Nat.mul_le_mul (Nat.mul_le_mul_left 2 h) h
  unfold rcL; omega
theorem len_RowClashes (c : Int) (x : Nat → Int) (n : Nat) : lenV (rowsP c x n) (rcL x n).length ≤ 1048576 := by
  by_cases h : rowsP c x n
  · rw [lenV_yes h]; have h2 := h.2.1.2; have := rcL_len (x := x) (by omega : n ≤ 32); omega
  · rw [lenV_no h]; omega
set_option maxRecDepth 100000 in
set_option maxHeartbeats 4000000 in
theorem implGaps_any (c : Int) (A : Option Addr) (n d : Nat) (x : Nat → Int) (w : World) (hn : n ≤ maxLen) (hs : SL w A (n * 3) (fun j => .int .i64 (x j))) (hx : wx64 x n) :
    Calls Try.prog 50 #[.int .i64 c, .slice A n d] w fun e w' => Gave1 w w' e (rowsP c x n) (gapL c x n).length (gl (gapL c x n)) := by
  obtain ⟨i0, hi, hz0, hz1, hz2⟩ := info_parts Try.info64
  have HR := hide (implAreRows_any c A n d x w hn hs hx)
  have HS := hide hs
  clear hs hx
  by_cases hp : rowsP c x n
  rotate_left
  · have HT := hide (tru_no hp)
    have HH := hide hp
    clear hp
    go_enter Try.func50, Try.ntmps50
    go_wp2_with fail
    refine HR.out.mono ?_
    rw [HT.out]
    rintro e w1 ⟨rfl, hb⟩
    have HB := hide hb
    clear hb
    go_wp2
    go_ret2
    exact gave1_no HH.out HB.out
  have HT := hide (tru_yes hp)
  have HP := hide hp
  have HCC := hide hp.1
  obtain ⟨c0, c1⟩ := hp.1
  have hw := tsz_wrap ⟨c0, c1⟩
  have hb := tsz_bd ⟨c0, c1⟩
  obtain ⟨T, hT⟩ : ∃ T : Nat, tsz c = T := ⟨_, rfl⟩
  rw [hT] at hw hb
  obtain ⟨hw1, hw2⟩ := hw
  obtain ⟨t0, t1⟩ := hb
  have HTT := hide hT
  have n32 := hp.2.1.2
  have n1 := hp.2.1.1
  clear hT hp
  go_enter Try.func50, Try.ntmps50
  go_wp2_with fail
  refine HR.out.mono ?_
  rw [HT.out]
  rintro e w1 ⟨rfl, hb⟩
  have HB := hide hb
  clear hb
  have HS1 := hide (HS.out.below HB.out)
  have HBS := hide (Below.refl w1.heap.size w1)
  have HO0 := hide (show w1.ownsRow w1.heap.size 2 1 (.slice none 0 0) 0 [] from ⟨by simp, .inl ⟨rfl, rfl⟩⟩)
  go_wp2_with (go_at_call 118; refine (implTable_any _ _ HCC.out).mono ?_; rw [HTT.out]; rintro e w' ⟨rfl, rfl⟩)
  go_loopw [6, 7, 14] (fun v _ i wr => ∃ (k : Nat) (L : List Int), k ≤ T ∧ i = .int .i64 k ∧ wr.ownsRow w1.heap.size 2 1 v L.length (L.map (Value.int .i64)) ∧ Hid (L = il (flt (gapB x n) k)) ∧ L.length ≤ k ∧ Below w1.heap.size w1 wr) (fun _ _ i _ => T - (intOf i).toNat)
  case atStart => exact ⟨0, [], Nat.zero_le _, rfl, HO0.out, rfl, Nat.le_refl _, HBS.out⟩
  case round =>
    obtain ⟨k, L, hk, rfl, hown, hL, hlen, hbel⟩ := hrel
    by_cases hlt : k < T
    · have hki : (k : Int) < (T : Int) := by omega
      have HSR := hide (HS1.out.below hbel)
      have HBEL := hide hbel
      have hz := hbel.size
      clear hbel
      go_wp2_with fail
      refine (implFirst_any A n d x (k : Int) _ hn HSR.out).mono ?_
      rintro e w2 ⟨rfl, hb2⟩
      have HB2 := hide (HBEL.out.trans (hb2.mono hz))
      have hown2 := own_stays hown hb2
      have hz2' := hb2.size
      clear hb2 hown
      obtain ⟨r, hr⟩ : ∃ r, fstR x (k : Int) n = r := ⟨_, rfl⟩
      rw [hr]
      by_cases h0 : r < 0
      · have HG := hide (show gapB x n k = true by unfold gapB; rw [hr]; exact decide_eq_true h0)
        clear hr
        go_wp2_with (at_builtin; refine wpList_append_own _ rfl _ _ 24 rfl (w1.heap.size) 2 i0 (.int .i64 0) 1 8 Try.underlying24 hi hz0 hz1 hz2 rfl (by decide) _ _ _ rfl (by exact (hown2.alloc _)) ⟨_, 0, none⟩ 1 1 [.int .i64 (k : Int)] rfl rfl (cell_one_new _ _ _) (by intro u hu; simp at hu; subst hu; rfl) (by unfold maxLen; omega) (by omega) (by simp; omega) ?_)
        intro v' w3 hown3 hgrow _
        have HB3 := hide ((HB2.out.alloc (by omega) (.cells #[.int .i64 (k : Int)] 2)).grown hgrow (by simp; omega) (fun j hj => (hown2.lt j hj).1))
        have HO3 := hide hown3
        clear hgrow hown3 hown2
        go_wp2
        go_roundw
        case rel => exact ⟨k + 1, L ++ [(k : Int)], by omega, by go_num, (by have := HO3.out; rw [map_snoc, List.length_append]; exact this), (hide (by rw [il_yes HG.out, ← hL.out])), (by rw [List.length_append, List.length_singleton]; omega), HB3.out⟩
        case measure => simp [intOf]; omega
      · have HG := hide (show gapB x n k = false by unfold gapB; rw [hr]; exact decide_eq_false h0)
        clear hr
        have HO3 := hide hown2
        clear hown2
        go_wp2
        go_roundw
        case rel => exact ⟨k + 1, L, by omega, by go_num, HO3.out, (hide (by rw [il_no HG.out]; exact hL.out)), (by omega), HB2.out⟩
        case measure => simp [intOf]; omega
    · obtain rfl : k = T := by omega
      have hki : ¬ (k : Int) < (k : Int) := by omega
      obtain ⟨Gx, dx, rfl⟩ := own_shape hown
      have HO := hide hown
      have HBEL := hide hbel
      clear hown hbel
      go_wp2
      go_ret2
      exact gave1_yes HP.out (by rw [hL.out, gapL, HTT.out]) (((own_ints HO.out).congr (fun j _ => by rw [hL.out, gapL, HTT.out])).wide HB.out.size (Nat.le_refl _)) (HB.out.trans (HBEL.out.mono HB.out.size))
theorem list_made {n : Nat} {x : Nat → Int} {m : Nat} : ∀ j, j < n → (madeCells (Value.int .i64 0).cells (n * 1)).toList[j]? = some (.int .i64 (cntR x m j 0)) := fun j hj => by
  rw [Nat.mul_one, show (Value.int .i64 0).cells = #[Value.int .i64 0] from rfl, toList_madeCells_one, List.getElem?_replicate, if_pos hj]; rfl
theorem cnt_hit {x : Nat → Int} {n k p : Nat} {xs : List Value} (hl : xs.length = n) (hf : fstR x (k : Int) n = (p : Int)) (h : ∀ j, j < n → xs[j]? = some (.int .i64 (cntR x n j k))) : ∀ j, j < n → (xs.set p (.int .i64 (cntR x n p k + 1)))[j]? = some (.int .i64 (cntR x n j (k + 1))) := by
  intro j hj
  by_cases e : p = j
  · subst e
    rw [List.getElem?_set_self (by omega)]
    show some (Value.int .i64 (cntR x n p k + 1)) = some (Value.int .i64 (cntR x n p k + (if fstR x (k : Int) n = (p : Int) then 1 else 0)))
    rw [if_pos hf]
  · rw [List.getElem?_set_ne e, h j hj]
    show some (Value.int .i64 (cntR x n j k)) = some (Value.int .i64 (cntR x n j k + (if fstR x (k : Int) n = (j : Int) then 1 else 0)))
    rw [if_neg (by rw [hf]; omega), Int.add_zero]
theorem cnt_miss {x : Nat → Int} {n k : Nat} {xs : List Value} (hf : fstR x (k : Int) n < 0) (h : ∀ j, j < n → xs[j]? = some (.int .i64 (cntR x n j k))) : ∀ j, j < n → xs[j]? = some (.int .i64 (cntR x n j (k + 1))) := by
  intro j hj
  rw [h j hj]
  show some (Value.int .i64 (cntR x n j k)) = some (Value.int .i64 (cntR x n j k + (if fstR x (k : Int) n = (j : Int) then 1 else 0)))
  rw [if_neg (by omega), Int.add_zero]
set_option maxRecDepth 100000 in
set_option maxHeartbeats 4000000 in
theorem implCounts_any (c : Int) (A : Option Addr) (n d : Nat) (x : Nat → Int) (w : World) (hn : n ≤ maxLen) (hs : SL w A (n * 3) (fun j => .int .i64 (x j))) (hx : wx64 x n) :
    Calls Try.prog 51 #[.int .i64 c, .slice A n d] w fun e w' => Gave1 w w' e (rowsP c x n) n (fun j => cntR x n j (tsz c)) := by
  obtain ⟨i0, hi, hz0, hz1, hz2⟩ := info_parts Try.info64
  have HR := hide (implAreRows_any c A n d x w hn hs hx)
  have HS := hide hs
  clear hs hx
  by_cases hp : rowsP c x n
  rotate_left
  · have HT := hide (tru_no hp)
    have HH := hide hp
    clear hp
    go_enter Try.func51, Try.ntmps51
    go_wp2_with fail
    refine HR.out.mono ?_
    rw [HT.out]
    rintro e w1 ⟨rfl, hb⟩
    have HB := hide hb
    clear hb
    go_wp2
    go_ret2
    exact gave1_no HH.out HB.out
  have HT := hide (tru_yes hp)
  have HP := hide hp
  have HCC := hide hp.1
  obtain ⟨c0, c1⟩ := hp.1
  have hw := tsz_wrap ⟨c0, c1⟩
  have hb := tsz_bd ⟨c0, c1⟩
  obtain ⟨T, hT⟩ : ∃ T : Nat, tsz c = T := ⟨_, rfl⟩
  rw [hT] at hw hb
  obtain ⟨hw1, hw2⟩ := hw
  obtain ⟨t0, t1⟩ := hb
  have HTT := hide hT
  have n32 := hp.2.1.2
  have n1 := hp.2.1.1
  clear hT hp
  go_enter Try.func51, Try.ntmps51
  go_wp2_with fail
  refine HR.out.mono ?_
  rw [HT.out]
  rintro e w1 ⟨rfl, hb⟩
  have HB := hide hb
  clear hb
  have HS1 := hide (HS.out.below HB.out)
  go_wp2_with (first | (go_at_call 118; refine (implTable_any _ _ HCC.out).mono ?_; rw [HTT.out]; rintro e w' ⟨rfl, rfl⟩) | (at_make; refine wpList_make_full _ rfl _ _ 24 rfl (w1.heap.size) 2 i0 (.int .i64 0) 1 Try.underlying24 hi hz0 hz1 _ _ _ _ n rfl rfl rfl rfl (by rw [hz2]; omega) hn (Nat.le_refl _) ?_; intro w3 hown hgrow))
  have hbel : Below w1.heap.size w1 w3 := (Below.refl _ _).grown hgrow (Nat.le_refl _) (fun k h => by cases h)
  have HBS := hide hbel
  have HO0 := hide hown
  clear hown hgrow hbel
  go_wp2_with (go_at_call 118; refine (implTable_any _ _ HCC.out).mono ?_; rw [HTT.out]; rintro e w' ⟨rfl, rfl⟩)
  go_loopw [7, 8, 18] (fun _ _ i wr => ∃ (k : Nat) (xs : List Value), k ≤ T ∧ i = .int .i64 k ∧ wr.ownsRow w1.heap.size 2 1 (.slice (some ⟨w1.heap.size, 0, none⟩) n n) n xs ∧ Hid (∀ j, j < n → xs[j]? = some (.int .i64 (cntR x n j k))) ∧ Below w1.heap.size w1 wr) (fun _ _ i _ => T - (intOf i).toNat)
  case atStart => exact ⟨0, _, Nat.zero_le _, rfl, HO0.out, list_made, HBS.out⟩
  case round =>
    obtain ⟨k, xs, hk, rfl, hown, hxs, hbel⟩ := hrel
    by_cases hlt : k < T
    · have hki : (k : Int) < (T : Int) := by omega
      have HSR := hide (HS1.out.below hbel)
      have HBEL := hide hbel
      have hz := hbel.size
      clear hbel
      go_wp2_with fail
      refine (implFirst_any A n d x (k : Int) _ hn HSR.out).mono ?_
      rintro e w2 ⟨rfl, hb2⟩
      have HB2 := hide (HBEL.out.trans (hb2.mono hz))
      have hown2 := own_stays hown hb2
      have hz2' := hb2.size
      clear hb2 hown
      have hbd := fstR_bd x (k : Int) n
      obtain ⟨r, hr⟩ : ∃ r, fstR x (k : Int) n = r := ⟨_, rfl⟩
      rw [hr] at hbd ⊢
      obtain ⟨b0, b1⟩ := hbd
      by_cases h0 : r < 0
      · have HG := hide (cnt_miss (by rw [hr]; exact h0) hxs.out)
        clear hr
        have HO3 := hide hown2
        clear hown2
        go_wp2
        go_roundw
        case rel => exact ⟨k + 1, xs, by omega, by go_num, HO3.out, HG.out, HB2.out⟩
        case measure => simp [intOf]; omega
      · obtain ⟨p, rfl⟩ : ∃ p : Nat, r = p := ⟨r.toNat, by omega⟩
        have hpn : p < n := by omega
        have hpi : (p : Int) < (n : Int) := by omega
        have hlen : xs.length = n := by have := hown2.1; omega
        obtain ⟨v, hv⟩ : ∃ v, cntR x n p k = v := ⟨_, rfl⟩
        have hvb := cntR_bd x n p k
        rw [hv] at hvb
        obtain ⟨v0, v1⟩ := hvb
        have hold := (hown2.cellAt p (by omega)).trans (hxs.out p hpn)
        rw [hv] at hold
        have hfr := hown2.frozenAt p
        have hst := hown2.stored p (.int .i64 (v + 1))
        have HO := hide hst
        have HG := hide (show ∀ j, j < n → (xs.set p (.int .i64 (v + 1)))[j]? = some (.int .i64 (cntR x n j (k + 1))) by rw [← hv]; exact cnt_hit hlen hr hxs.out)
        clear hst hown2 hv hr hlen
        go_wp2
        go_roundw
        case rel => exact ⟨k + 1, _, by omega, by go_num, HO.out.1, HG.out, HB2.out.trans ((Below.refl _ _).grown HO.out.2 (by omega) (fun j hj => by injection hj with hj; omega))⟩
        case measure => simp [intOf]; omega
    · obtain rfl : k = T := by omega
      have hki : ¬ (k : Int) < (k : Int) := by omega
      have HO := hide hown
      have HBEL := hide hbel
      clear hown hbel
      go_wp2
      go_ret2
      exact gave1_yes HP.out rfl (((OW.of_owns HO.out hxs.out).congr (fun j _ => by rw [HTT.out])).wide HB.out.size (Nat.le_refl _)) (HB.out.trans (HBEL.out.mono HB.out.size))
set_option maxRecDepth 100000 in
set_option maxHeartbeats 4000000 in
theorem implFirsts_any (c : Int) (A : Option Addr) (n d : Nat) (x : Nat → Int) (w : World) (hn : n ≤ maxLen) (hs : SL w A (n * 3) (fun j => .int .i64 (x j))) (hx : wx64 x n) :
    Calls Try.prog 52 #[.int .i64 c, .slice A n d] w fun e w' => Gave1 w w' e (rowsP c x n) (frL c x n).length (gl (frL c x n)) := by
  obtain ⟨i0, hi, hz0, hz1, hz2⟩ := info_parts Try.info64
  have HR := hide (implCounts_any c A n d x w hn hs hx)
  clear hs hx
  by_cases hp : rowsP c x n
  rotate_left
  · have HT := hide (tru_no hp)
    have HL := hide (lenV_no (n := n) hp)
    have HH := hide hp
    clear hp
    go_enter Try.func52, Try.ntmps52
    go_wp2_with fail
    refine HR.out.mono ?_
    unfold Gave1
    rw [HT.out, HL.out]
    rintro e w2 ⟨G, dG, rfl, ho, hb2⟩
    have HB := hide hb2
    clear ho hb2
    go_wp2
    go_ret2
    exact gave1_no HH.out HB.out
  have HT := hide (tru_yes hp)
  have HL := hide (lenV_yes (n := n) hp)
  have HPP := hide hp
  have n32 := hp.2.1.2
  have n1 := hp.2.1.1
  clear hp
  go_enter Try.func52, Try.ntmps52
  go_wp2_with fail
  refine HR.out.mono ?_
  unfold Gave1
  rw [HT.out, HL.out]
  rintro e w2 ⟨G, dG, rfl, ho, hb2⟩
  have HC := cells_one ho.sl
  have HB2 := hide hb2
  have HB := hide (Below.refl w.heap.size w)
  clear ho hb2
  have HBS := hide (Below.refl w2.heap.size w2)
  have HO0 := hide (show w2.ownsRow w2.heap.size 2 1 (.slice none 0 0) 0 [] from ⟨by simp, .inl ⟨rfl, rfl⟩⟩)
  go_wp2
  go_loopw [8, 9, 10, 21] (fun v _ _ i wr => ∃ (k : Nat) (L : List Int), k ≤ n ∧ i = .int .i64 k ∧ wr.ownsRow w2.heap.size 2 1 v L.length (L.map (Value.int .i64)) ∧ Hid (L = il (flt (frB x n (tsz c)) k)) ∧ L.length ≤ k ∧ Below w2.heap.size w2 wr) (fun _ _ _ i _ => n - (intOf i).toNat)
  case atStart => exact ⟨0, [], Nat.zero_le _, rfl, HO0.out, rfl, Nat.le_refl _, HBS.out⟩
  case round =>
    obtain ⟨k, L, hk, rfl, hown, hL, hlen, hbel⟩ := hrel
    by_cases hlt : k < n
    · have hki : (k : Int) < (n : Int) := by omega
      obtain ⟨b, off, rfl, hb, c0⟩ := HC.out k hlt
      have d0 := (hbel.cell (p := ⟨b, off + k, none⟩) hb).trans c0
      obtain ⟨v, hv⟩ : ∃ v, cntR x n k (tsz c) = v := ⟨_, rfl⟩
      rw [hv] at d0
      have HBEL := hide hbel
      have hz := hbel.size
      clear hbel c0
      by_cases h0 : 0 < v
      · have HG := hide (show frB x n (tsz c) k = true by unfold frB; rw [hv]; exact decide_eq_true h0)
        clear hv
        go_wp2_with (at_builtin; refine wpList_append_own _ rfl _ _ 24 rfl (w2.heap.size) 2 i0 (.int .i64 0) 1 8 Try.underlying24 hi hz0 hz1 hz2 rfl (by decide) _ _ _ rfl (by exact (hown.alloc _)) ⟨_, 0, none⟩ 1 1 [.int .i64 (k : Int)] rfl rfl (cell_one_new _ _ _) (by intro u hu; simp at hu; subst hu; rfl) (by unfold maxLen; omega) (by omega) (by simp; omega) ?_)
        intro v' w3 hown3 hgrow _
        have HB3 := hide ((HBEL.out.alloc (by omega) (.cells #[.int .i64 (k : Int)] 2)).grown hgrow (by simp; omega) (fun j hj => (hown.lt j hj).1))
        have HO3 := hide hown3
        clear hgrow hown3 hown d0
        go_wp2
        go_roundw
        case rel => exact ⟨k + 1, L ++ [(k : Int)], by omega, by go_num, (by have := HO3.out; rw [map_snoc, List.length_append]; exact this), (hide (by rw [il_yes HG.out, ← hL.out])), (by rw [List.length_append, List.length_singleton]; omega), HB3.out⟩
        case measure => simp [intOf]; omega
      · have HG := hide (show frB x n (tsz c) k = false by unfold frB; rw [hv]; exact decide_eq_false h0)
        clear hv
        have HO3 := hide hown
        clear hown
        go_wp2
        clear d0
        go_roundw
        case rel => exact ⟨k + 1, L, by omega, by go_num, HO3.out, (hide (by rw [il_no HG.out]; exact hL.out)), (by omega), HBEL.out⟩
        case measure => simp [intOf]; omega
    · obtain rfl : k = n := by omega
      obtain ⟨Gx, dx, rfl⟩ := own_shape hown
      have HO := hide hown
      have HBEL := hide hbel
      clear hown hbel
      go_wp2
      go_ret2
      exact gave1_yes HPP.out (by rw [hL.out, frL]) (((own_ints HO.out).congr (fun j _ => by rw [hL.out, frL])).wide HB2.out.size (Nat.le_refl _)) (HB2.out.trans (HBEL.out.mono HB2.out.size))
end Go.Proofs.Ytjndhcdanpnniaa
