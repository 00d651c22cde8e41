/- RowClashes, by both. -/
import Derived.Test.YtjndhcdanpnniaaRg
import Derived.Lib.QuietBelow
namespace Go.Proofs.Ytjndhcdanpnniaa
open Go.RowKit Go.Dues
theorem tot_len {L R T : List Int} {M : Nat} (h : L ++ R = T) (hT : T.length ≤ M) : L.length ≤ M := by rw [← h, List.length_append] at hT; omega
theorem pr_out {cl : Nat → Nat → Bool} {i n : Nat} {L T : List Int} (hi : i < n) (h : L ++ prs cl (List.range' i (n - i)) = T) : L ++ (pr1 cl i (List.range' (i + 1) (n - (i + 1))) ++ prs cl (List.range' (i + 1) (n - (i + 1)))) = T := by
  rw [range_from hi] at h; exact h
theorem pr_in {cl : Nat → Nat → Bool} {i n : Nat} {L R T : List Int} (h : L ++ (pr1 cl i (List.range' n (n - n)) ++ R) = T) : L ++ R = T := by
  rw [range_end] at h; exact h
theorem pr_yes {cl : Nat → Nat → Bool} {i k n : Nat} {L R T : List Int} (hk : k < n) (hc : cl i k = true) (h : L ++ (pr1 cl i (List.range' k (n - k)) ++ R) = T) : (L ++ [(i : Int), (k : Int)]) ++ (pr1 cl i (List.range' (k + 1) (n - (k + 1))) ++ R) = T := by
  rw [range_from hk] at h
  have e : pr1 cl i (k :: List.range' (k + 1) (n - (k + 1))) = [(i : Int), (k : Int)] ++ pr1 cl i (List.range' (k + 1) (n - (k + 1))) := by
    show (if cl i k then [(i : Int), (k : Int)] else []) ++ _ = _
    rw [hc]; rfl
  rw [e] at h
  rw [← h, List.append_assoc, List.append_assoc]
theorem pr_no {cl : Nat → Nat → Bool} {i k n : Nat} {L R T : List Int} (hk : k < n) (hc : cl i k = false) (h : L ++ (pr1 cl i (List.range' k (n - k)) ++ R) = T) : L ++ (pr1 cl i (List.range' (k + 1) (n - (k + 1))) ++ R) = T := by
  rw [range_from hk] at h
  have e : pr1 cl i (k :: List.range' (k + 1) (n - (k + 1))) = pr1 cl i (List.range' (k + 1) (n - (k + 1))) := by
    show (if cl i k then [(i : Int), (k : Int)] else []) ++ _ = _
    rw [hc]; rfl
  rw [e] at h; exact h
theorem pr_end {cl : Nat → Nat → Bool} {n : Nat} {L T : List Int} (h : L ++ prs cl (List.range' n (n - n)) = T) : L = T := by
  rw [range_end] at h
  rw [← h]; show L = L ++ []; rw [List.append_nil]
theorem map_two (L : List Int) (y z : Int) : (L ++ [y, z]).map (Value.int .i64) = L.map (Value.int .i64) ++ [.int .i64 y, .int .i64 z] := by rw [List.map_append]; rfl
def rk6 (a0 a1 a2 b0 b1 b2 : Int) : Bool := decide (a2 ≠ b2) && (bits .and .i64 a1 (bits .and .i64 a0 b0) == bits .and .i64 b1 (bits .and .i64 a0 b0))
set_option maxHeartbeats 2000000 in
theorem implRk_any (a0 a1 a2 b0 b1 b2 : Int) (w : World) (ha : (0 ≤ a0 ∧ a0 ≤ 255) ∧ (0 ≤ a1 ∧ a1 ≤ 255)) (hb : (0 ≤ b0 ∧ b0 ≤ 255) ∧ (0 ≤ b1 ∧ b1 ≤ 255)) :
    Calls Try.prog 120 #[.agg #[.int .i64 a0, .int .i64 a1, .int .i64 a2], .agg #[.int .i64 b0, .int .i64 b1, .int .i64 b2]] w fun e w' => e = .returned (.bool (rk6 a0 a1 a2 b0 b1 b2)) ∧ Below w.heap.size w w' := by
  have hiff := both_iff ha.2.1 ha.2.2 hb.2.1 hb.2.2 ha.1.1 ha.1.2 hb.1.1 hb.1.2
  have HB := hide (((Below.refl w.heap.size w).alloc (Nat.le_refl _) (.cells #[.int .i64 a0, .int .i64 a1, .int .i64 a2] 74)).alloc (by simp) (.cells #[.int .i64 b0, .int .i64 b1, .int .i64 b2] 74))
  by_cases he : a2 = b2
  · have hd : (a2 != b2) = false := bne_no he
    have HH := hide (show rk6 a0 a1 a2 b0 b1 b2 = false by unfold rk6; rw [decide_eq_false (fun h => h he)]; rfl)
    subst he
    clear hiff
    go_enter Try.func120, Try.ntmps120
    go_wp2
    go_ret
    exact ⟨retBw HH.out.symm, HB.out⟩
  · have hd : (a2 != b2) = true := bne_yes he
    by_cases hz : bits .and .i64 (bits .and .i64 (bits .xor .i64 a1 b1) a0) b0 = 0
    · have HH := hide (show rk6 a0 a1 a2 b0 b1 b2 = true by unfold rk6; rw [decide_eq_true he, hiff.1 hz]; simp)
      have hzd : (bits .and .i64 (bits .and .i64 (bits .xor .i64 a1 b1) a0) b0 == 0) = true := by rw [hz]; rfl
      clear hiff hz he
      go_enter Try.func120, Try.ntmps120
      go_wp2
      go_ret
      exact ⟨retBw HH.out.symm, HB.out⟩
    · have HH := hide (show rk6 a0 a1 a2 b0 b1 b2 = false by unfold rk6; rw [decide_eq_true he, beq_no (fun h => hz (hiff.2 h))]; rfl)
      have hzd : (bits .and .i64 (bits .and .i64 (bits .xor .i64 a1 b1) a0) b0 == 0) = false := beq_no hz
      clear hiff hz he
      go_enter Try.func120, Try.ntmps120
      go_wp2
      go_ret
      exact ⟨retBw HH.out.symm, HB.out⟩
theorem row255 {x : Nat → Int} {T j : Nat} (h : rowP x T j) (hT : T ≤ 256) : (0 ≤ x (j * 3) ∧ x (j * 3) ≤ 255) ∧ (0 ≤ x (j * 3 + 1) ∧ x (j * 3 + 1) ≤ 255) := ⟨⟨h.1.1, by have := h.1.2; omega⟩, ⟨h.2.1.1.1, by have := h.2.1.1.2; have := h.1.2; omega⟩⟩
set_option maxRecDepth 100000 in
set_option maxHeartbeats 4000000 in
theorem specRclash_any (c : Int) (A : Option Addr) (n d : Nat) (x : Nat → Int) (w : World) (hn : n ≤ maxLen) (hs : SL w A (n * 3) (fun j => .int .i64 (x j))) (_hx : wx64 x n) :
    Calls Try.prog 54 #[.int .i64 c, .slice A n d] w fun e w' => Gave1 w w' e (rowsP c x n) (rcL x n).length (gl (rcL x n)) := by
  obtain ⟨i0, hi, hz0, hz1, hz2⟩ := info_parts Try.info64
  have HR := hide (specRows_any c A n d x w hn hs)
  have HS := hide hs
  clear hs
  by_cases hp : rowsP c x n
  rotate_left
  · have HT := hide (tru_no hp)
    have HH := hide hp
    clear hp
    go_enter Try.func54, Try.ntmps54
    go_wp2_with fail
    refine HR.out.mono ?_
    rw [HT.out]
    rintro e w1 ⟨rfl, u1, hu1⟩
    have hb : Below w.heap.size w w1 := by rw [hu1]; exact bel_drewN (Below.refl _ _) _
    clear hu1
    have HB := hide hb
    clear hb
    go_wp2
    go_ret2
    exact gave1_no HH.out HB.out
  have HT := hide (tru_yes hp)
  have HP := hide hp
  have HCC := hide hp.1
  obtain ⟨c0, c1⟩ := hp.1
  have hw := tsz_wrap ⟨c0, c1⟩
  have hb := tsz_bd ⟨c0, c1⟩
  obtain ⟨T, hT⟩ : ∃ T : Nat, tsz c = T := ⟨_, rfl⟩
  rw [hT] at hw hb
  obtain ⟨hw1, hw2⟩ := hw
  obtain ⟨t0, t1⟩ := hb
  have HTT := hide hT
  have n32 := hp.2.1.2
  have n1 := hp.2.1.1
  clear hT hp
  go_enter Try.func54, Try.ntmps54
  go_wp2_with fail
  refine HR.out.mono ?_
  rw [HT.out]
  rintro e w1 ⟨rfl, u1, hu1⟩
  have hb : Below w.heap.size w w1 := by rw [hu1]; exact bel_drewN (Below.refl _ _) _
  clear hu1
  have HB := hide hb
  clear hb
  have HS1 := hide (HS.out.below HB.out)
  have hst : (w1.alloc (.cells #[] 2)).ownsRow w1.heap.size 2 1 (.slice (some ⟨w1.heap.size, 0, none⟩) 0 0) 0 [] :=
    ⟨by simp, .inr ⟨w1.heap.size, 0, #[], rfl, Nat.le_refl _, new_at w1 _, Nat.le_refl 0, by unfold maxLen; omega, rfl, rfl⟩⟩
  have HBS := hide ((Below.refl w1.heap.size w1).alloc (Nat.le_refl _) (.cells #[] 2))
  have HO0 := hide hst
  clear hst
  have HTL := hide (rcL_len (x := x) (show n ≤ 32 by omega))
  go_wp2
  go_loopw [6, 7, 8, 9, 17] (fun v _ _ _ ii wr => ∃ (i : Nat) (L : List Int), i ≤ n ∧ ii = .int .i64 i ∧ wr.ownsRow w1.heap.size 2 1 v L.length (L.map (Value.int .i64)) ∧ Hid (L ++ prs (rcl x) (List.range' i (n - i)) = rcL x n) ∧ Below w1.heap.size w1 wr) (fun _ _ _ _ ii _ => n - (intOf ii).toNat)
  case atStart => exact ⟨0, [], Nat.zero_le _, rfl, HO0.out, rfl, HBS.out⟩
  case round =>
    obtain ⟨i, L, hi', rfl, hown, hL, hbel⟩ := hrel
    by_cases hlt : i < n
    · have hki : (i : Int) < (n : Int) := by omega
      obtain ⟨b, off, rfl, hb, c0, c1, c2⟩ := (cells3_row HS1.out).out i hlt
      have HI := hide (show ∀ wr, Below w1.heap.size w1 wr → wr.cell? ⟨b, off + i * 3, none⟩ = some (.int .i64 (x (i * 3))) ∧ wr.cell? ⟨b, off + i * 3 + 1, none⟩ = some (.int .i64 (x (i * 3 + 1))) ∧ wr.cell? ⟨b, off + i * 3 + 2, none⟩ = some (.int .i64 (x (i * 3 + 2))) from fun wr h => ⟨(h.cell (p := ⟨b, off + i * 3, none⟩) hb).trans c0, (h.cell (p := ⟨b, off + i * 3 + 1, none⟩) hb).trans c1, (h.cell (p := ⟨b, off + i * 3 + 2, none⟩) hb).trans c2⟩)
      have HLO := hide (pr_out hlt hL.out)
      have HBEL := hide hbel
      have HO := hide hown
      clear hown hbel c0 c1 c2
      go_wp2
      go_loopw [6, 8, 9] (fun v kk _ wr => ∃ (k : Nat) (L : List Int), k ≤ n ∧ kk = .int .i64 k ∧ wr.ownsRow w1.heap.size 2 1 v L.length (L.map (Value.int .i64)) ∧ Hid (L ++ (pr1 (rcl x) i (List.range' k (n - k)) ++ prs (rcl x) (List.range' (i + 1) (n - (i + 1)))) = rcL x n) ∧ Below w1.heap.size w1 wr) (fun _ kk _ _ => n - (intOf kk).toNat)
      case atStart => exact ⟨i + 1, L, by omega, by go_num, HO.out, HLO.out, HBEL.out⟩
      case round =>
        clear HO HLO HBEL hL
        obtain ⟨k, L, hk, rfl, hown, hL, hbel⟩ := hrel
        by_cases hkt : k < n
        · have hkk : (k : Int) < (n : Int) := by omega
          have hLL := tot_len hL.out HTL.out
          obtain ⟨b', off', hA, hb', c0, c1, c2⟩ := (cells3_row HS1.out).out k hkt
          injection hA with hA
          injection hA with hA1 hA2
          subst hA1 hA2
          obtain ⟨e0, e1, e2⟩ := HI.out _ hbel
          have d0 := (hbel.cell (p := ⟨b, off + k * 3, none⟩) hb).trans c0
          have d1 := (hbel.cell (p := ⟨b, off + k * 3 + 1, none⟩) hb).trans c1
          have d2 := (hbel.cell (p := ⟨b, off + k * 3 + 2, none⟩) hb).trans c2
          have HBEL := hide hbel
          have hz := hbel.size
          clear hbel c0 c1 c2 hb'
          by_cases he : x (i * 3 + 2) = x (k * 3 + 2)
          · have hd : (x (i * 3 + 2) != x (k * 3 + 2)) = false := bne_no he
            have HG := hide (pr_no hkt (show rcl x i k = false by unfold rcl; rw [decide_eq_false (fun h => h he)]; rfl) hL.out)
            have HO := hide hown
            clear hown he
            go_wp2
            go_quiet (fail)
            go_wp2
            go_quiet (fail)
            go_wp2
            clear d0 d1 d2 e0 e1 e2 hd
            go_roundw
            case rel => exact ⟨k + 1, L, by omega, by go_num, HO.out, HG.out, bel_q HBEL.out _⟩
            case measure => simp [intOf]; omega
          · have hd : (x (i * 3 + 2) != x (k * 3 + 2)) = true := bne_yes he
            by_cases hq : bits .and .i64 (x (i * 3 + 1)) (bits .and .i64 (x (i * 3)) (x (k * 3))) = bits .and .i64 (x (k * 3 + 1)) (bits .and .i64 (x (i * 3)) (x (k * 3)))
            · have hqd : (bits .and .i64 (x (i * 3 + 1)) (bits .and .i64 (x (i * 3)) (x (k * 3))) == bits .and .i64 (x (k * 3 + 1)) (bits .and .i64 (x (i * 3)) (x (k * 3)))) = true := by rw [hq]; simp
              have HG := hide (pr_yes hkt (show rcl x i k = true by unfold rcl; rw [decide_eq_true he, hqd]; rfl) hL.out)
              clear he hq
              go_wp2
              go_quiet (fail)
              go_wp2
              go_quiet (fail)
              go_wp2_with (at_builtin; refine wpList_append_own _ rfl _ _ 24 rfl (w1.heap.size) 2 i0 (.int .i64 0) 1 8 Try.underlying24 hi hz0 hz1 hz2 rfl (by decide) _ _ _ rfl (by exact (hown.alloc _)) ⟨_, 0, none⟩ 2 2 [.int .i64 (i : Int), .int .i64 (k : Int)] rfl rfl (cell_two_new _ _ _ _) (by intro u hu; simp at hu; rcases hu with rfl | rfl <;> rfl) (by unfold maxLen; omega) (by omega) (by simp; omega) ?_)
              intro v' w3 hown3 hgrow _
              have HB3 := hide (((bel_q HBEL.out _).alloc (by simp; omega) (.cells #[.int .i64 (i : Int), .int .i64 (k : Int)] 2)).grown hgrow (by simp; omega) (fun j hj => (hown.lt j hj).1))
              have HO3 := hide hown3
              clear hgrow hown3 hown d0 d1 d2 e0 e1 e2 hd hqd
              go_wp2
              go_roundw
              case rel => exact ⟨k + 1, L ++ [(i : Int), (k : Int)], by omega, by go_num, (by have := HO3.out; rw [map_two, List.length_append]; exact this), HG.out, HB3.out⟩
              case measure => simp [intOf]; omega
            · have hqd : (bits .and .i64 (x (i * 3 + 1)) (bits .and .i64 (x (i * 3)) (x (k * 3))) == bits .and .i64 (x (k * 3 + 1)) (bits .and .i64 (x (i * 3)) (x (k * 3)))) = false := beq_no hq
              have HG := hide (pr_no hkt (show rcl x i k = false by unfold rcl; rw [hqd, Bool.and_false]) hL.out)
              have HO := hide hown
              clear hown he hq
              go_wp2
              go_quiet (fail)
              go_wp2
              go_quiet (fail)
              go_wp2
              clear d0 d1 d2 e0 e1 e2 hd hqd
              go_roundw
              case rel => exact ⟨k + 1, L, by omega, by go_num, HO.out, HG.out, bel_q HBEL.out _⟩
              case measure => simp [intOf]; omega
        · obtain rfl : k = n := by omega
          have hkk : ¬ (k : Int) < (k : Int) := by omega
          have HG := hide (pr_in hL.out)
          have HO := hide hown
          have HBEL := hide hbel
          clear hown hbel
          go_wp2
          go_roundw
          case rel => exact ⟨i + 1, L, by omega, by go_num, HO.out, HG.out, HBEL.out⟩
          case measure => simp [intOf]; omega
    · obtain rfl : i = n := by omega
      have hki : ¬ (i : Int) < (i : Int) := by omega
      obtain ⟨Gx, dx, rfl⟩ := own_shape hown
      have HO := hide hown
      have HBEL := hide hbel
      have HE := hide (pr_end hL.out)
      clear hown hbel
      go_wp2
      go_ret2
      exact gave1_yes HP.out (by rw [HE.out]) (((own_ints HO.out).congr (fun j _ => by rw [HE.out])).wide HB.out.size (Nat.le_refl _)) (HB.out.trans (HBEL.out.mono HB.out.size))
set_option maxRecDepth 100000 in
set_option maxHeartbeats 4000000 in
theorem implRclash_any (c : Int) (A : Option Addr) (n d : Nat) (x : Nat → Int) (w : World) (hn : n ≤ maxLen) (hs : SL w A (n * 3) (fun j => .int .i64 (x j))) (hx : wx64 x n) :
    Calls Try.prog 53 #[.int .i64 c, .slice A n d] w fun e w' => Gave1 w w' e (rowsP c x n) (rcL x n).length (gl (rcL x n)) := by
  obtain ⟨i0, hi, hz0, hz1, hz2⟩ := info_parts Try.info64
  have HR := hide (implAreRows_any c A n d x w hn hs hx)
  have HS := hide hs
  clear hs hx
  by_cases hp : rowsP c x n
  rotate_left
  · have HT := hide (tru_no hp)
    have HH := hide hp
    clear hp
    go_enter Try.func53, Try.ntmps53
    go_wp2_with fail
    refine HR.out.mono ?_
    rw [HT.out]
    rintro e w1 ⟨rfl, hb⟩
    have HB := hide hb
    clear hb
    go_wp2
    go_ret2
    exact gave1_no HH.out HB.out
  have HT := hide (tru_yes hp)
  have HP := hide hp
  have HCC := hide hp.1
  obtain ⟨c0, c1⟩ := hp.1
  have hw := tsz_wrap ⟨c0, c1⟩
  have hb := tsz_bd ⟨c0, c1⟩
  obtain ⟨T, hT⟩ : ∃ T : Nat, tsz c = T := ⟨_, rfl⟩
  rw [hT] at hw hb
  obtain ⟨hw1, hw2⟩ := hw
  obtain ⟨t0, t1⟩ := hb
  have HTT := hide hT
  have n32 := hp.2.1.2
  have n1 := hp.2.1.1
  clear hT hp
  go_enter Try.func53, Try.ntmps53
  go_wp2_with fail
  refine HR.out.mono ?_
  rw [HT.out]
  rintro e w1 ⟨rfl, hb⟩
  have HB := hide hb
  clear hb
  have HS1 := hide (HS.out.below HB.out)
  have HBS := hide (Below.refl w1.heap.size w1)
  have HO0 := hide (show w1.ownsRow w1.heap.size 2 1 (.slice none 0 0) 0 [] from ⟨by simp, .inl ⟨rfl, rfl⟩⟩)
  have HTL := hide (rcL_len (x := x) (show n ≤ 32 by omega))
  have HRP := hide HP.out.2.2
  rw [HTT.out] at HRP
  go_wp2
  go_loopw [6, 7, 8, 9, 16] (fun v _ _ _ ii wr => ∃ (i : Nat) (L : List Int), i ≤ n ∧ ii = .int .i64 i ∧ wr.ownsRow w1.heap.size 2 1 v L.length (L.map (Value.int .i64)) ∧ Hid (L ++ prs (rcl x) (List.range' i (n - i)) = rcL x n) ∧ Below w1.heap.size w1 wr) (fun _ _ _ _ ii _ => n - (intOf ii).toNat)
  case atStart => exact ⟨0, [], Nat.zero_le _, rfl, HO0.out, rfl, HBS.out⟩
  case round =>
    obtain ⟨i, L, hi', rfl, hown, hL, hbel⟩ := hrel
    by_cases hlt : i < n
    · have hki : (i : Int) < (n : Int) := by omega
      obtain ⟨b, off, rfl, hb, c0, c1, c2⟩ := (cells3_row HS1.out).out i hlt
      have d0 := (hbel.cell (p := ⟨b, off + i * 3, none⟩) hb).trans c0
      have d1 := (hbel.cell (p := ⟨b, off + i * 3 + 1, none⟩) hb).trans c1
      have d2 := (hbel.cell (p := ⟨b, off + i * 3 + 2, none⟩) hb).trans c2
      have HLO := hide (pr_out hlt hL.out)
      have HRI := hide (row255 (HRP.out i hlt) t1)
      have hz := hbel.size
      obtain ⟨W, hW⟩ : ∃ u, u = wr.alloc (.cells #[.int .i64 (x (i * 3)), .int .i64 (x (i * 3 + 1)), .int .i64 (x (i * 3 + 2))] 74) := ⟨_, rfl⟩
      have HBX : Hid (W.heap[wr.heap.size]? = some (.cells #[.int .i64 (x (i * 3)), .int .i64 (x (i * 3 + 1)), .int .i64 (x (i * 3 + 2))] 74)) := by rw [hW]; exact blocks1 wr _
      have HBW : Hid (Below w1.heap.size w1 W) := by rw [hW]; exact hbel.alloc hz _
      have hWz : W.heap.size = wr.heap.size + 1 := by rw [hW]; simp
      have hoA := hown.alloc (.cells #[.int .i64 (x (i * 3)), .int .i64 (x (i * 3 + 1)), .int .i64 (x (i * 3 + 2))] 74)
      rw [← hW] at hoA
      have HO := hide hoA
      have HAP0 := hide (fun g h => (hown.lt g h).2)
      have HWW := hide hW
      obtain ⟨g8, hg8⟩ : ∃ g, wr.heap.size = g := ⟨_, rfl⟩
      have HG8 := hide hg8
      rw [hg8] at HBX hWz hz HAP0
      have HAP := hide (fun g h => Nat.ne_of_lt (HAP0.out g h))
      clear hown hbel c0 c1 c2 hW hg8 hoA
      go_wp2
      rw [← HWW.out]
      rw [HG8.out]
      clear HWW HG8 d0 d1 d2
      go_loopw [6, 9] (fun v kk wi => ∃ (k : Nat) (L : List Int), k ≤ n ∧ kk = .int .i64 k ∧ wi.ownsRow w1.heap.size 2 1 v L.length (L.map (Value.int .i64)) ∧ Hid (L ++ (pr1 (rcl x) i (List.range' k (n - k)) ++ prs (rcl x) (List.range' (i + 1) (n - (i + 1)))) = rcL x n) ∧ wi.heap[g8]? = some (.cells #[.int .i64 (x (i * 3)), .int .i64 (x (i * 3 + 1)), .int .i64 (x (i * 3 + 2))] 74) ∧ Hid (∀ g, v.ownBlock = some g → g ≠ g8) ∧ Below w1.heap.size w1 wi) (fun _ kk _ => n - (intOf kk).toNat)
      case atStart => exact ⟨i + 1, L, by omega, by go_num, HO.out, HLO.out, HBX.out, HAP.out, HBW.out⟩
      case round =>
        clear HO HLO HBX HAP HBW hL
        obtain ⟨k, L, hk, rfl, hown, hL, hgb, hap, hbel⟩ := hrel
        by_cases hkt : k < n
        · have hkk : (k : Int) < (n : Int) := by omega
          have hLL := tot_len hL.out HTL.out
          obtain ⟨b', off', hA, hb', c0, c1, c2⟩ := (cells3_row HS1.out).out k hkt
          injection hA with hA
          injection hA with hA1 hA2
          subst hA1 hA2
          have e0 := Joins.cell_of_block hgb 0
          have e1 := Joins.cell_of_block hgb 1
          have e2 := Joins.cell_of_block hgb 2
          simp at e0 e1 e2
          have d0 := (hbel.cell (p := ⟨b, off + k * 3, none⟩) hb).trans c0
          have d1 := (hbel.cell (p := ⟨b, off + k * 3 + 1, none⟩) hb).trans c1
          have d2 := (hbel.cell (p := ⟨b, off + k * 3 + 2, none⟩) hb).trans c2
          have K0 := cell_regrown d0
          have K1 := cell_regrown d1
          have K2 := cell_regrown d2
          have E0 := cell_regrown e0
          have E1 := cell_regrown e1
          have E2 := cell_regrown e2
          have hg8 := (Array.getElem?_eq_some_iff.1 hgb).1
          have HBEL := hide hbel
          have HGB := hide hgb
          have hz := hbel.size
          have HRK := hide (row255 (HRP.out k hkt) t1)
          clear hbel c0 c1 c2 hb' hgb
          go_wp2_with fail
          refine wp_region_quiet_below (by kernel_rfl) (by kernel_rfl) ?_
          repeat (first | go_big_quiet_step (exact Calls.regrown_of (implRk_any _ _ _ _ _ _ _ HRI.out HRK.out)) | quiet_step (exact Calls.regrown_of (implRk_any _ _ _ _ _ _ _ HRI.out HRK.out)))
          refine wpQuiet_nil ?_
          intro _ hw'
          obtain ⟨⟨dq, osq⟩, hw''⟩ := hw'
          have hb2 := below_regrown wr dq osq
          rw [← hw''] at hb2
          clear hw''
          have HB2 := hide (HBEL.out.trans (hb2.mono hz))
          have hown2 := own_stays hown hb2
          have HGB2 := hide (blk_below hb2 hg8 HGB.out)
          have hzz := hb2.size
          clear hb2 hown K0 K1 K2 E0 E1 E2 d0 d1 d2 e0 e1 e2 HGB
          cases hc : rk6 (x (i * 3)) (x (i * 3 + 1)) (x (i * 3 + 2)) (x (k * 3)) (x (k * 3 + 1)) (x (k * 3 + 2))
          · have HG := hide (pr_no hkt (show rcl x i k = false from hc) hL.out)
            have HO := hide hown2
            clear hown2
            go_wp2
            clear hc
            go_roundw
            case rel => exact ⟨k + 1, L, by omega, by go_num, HO.out, HG.out, HGB2.out, hap, HB2.out⟩
            case measure => simp [intOf]; omega
          · have HG := hide (pr_yes hkt (show rcl x i k = true from hc) hL.out)
            go_wp2_with (at_builtin; refine wpList_append_own_at _ rfl _ _ 24 rfl (w1.heap.size) 2 i0 (.int .i64 0) 1 8 Try.underlying24 hi hz0 hz1 hz2 rfl (by decide) _ _ _ rfl (by exact (hown2.alloc _)) ⟨_, 0, none⟩ 2 2 [.int .i64 (i : Int), .int .i64 (k : Int)] rfl rfl (cell_two_new _ _ _ _) (by intro u hu; simp at hu; rcases hu with rfl | rfl <;> rfl) (by unfold maxLen; omega) (by omega) (by simp; omega) ?_)
            intro v' w3 hown3 hgrow _ hat
            have HB3 := hide ((HB2.out.alloc (by omega) (.cells #[.int .i64 (i : Int), .int .i64 (k : Int)] 2)).grown hgrow (by simp; omega) (fun j hj => (hown2.lt j hj).1))
            have HO3 := hide hown3
            have HGB3 := hide ((hgrow.block g8 (by simp; omega) (fun e => hap.out g8 e.symm rfl)).trans (new_keep _ (.cells #[.int .i64 (i : Int), .int .i64 (k : Int)] 2) (by omega) HGB2.out))
            have HAP3 := hide (show ∀ g, v'.ownBlock = some g → g ≠ g8 from fun g hg => by
              rcases hat with h | h
              · rw [h] at hg; exact hap.out g hg
              · rw [h] at hg; injection hg with hg; rw [← hg]; simp; omega)
            clear hgrow hown3 hown2 hc hat
            go_wp2
            go_roundw
            case rel => exact ⟨k + 1, L ++ [(i : Int), (k : Int)], by omega, by go_num, (by have := HO3.out; rw [map_two, List.length_append]; exact this), HG.out, HGB3.out, HAP3.out, HB3.out⟩
            case measure => simp [intOf]; omega
        · obtain rfl : k = n := by omega
          have hkk : ¬ (k : Int) < (k : Int) := by omega
          have HG := hide (pr_in hL.out)
          have HO := hide hown
          have HBEL := hide hbel
          clear hown hbel
          go_wp2
          go_roundw
          case rel => exact ⟨i + 1, L, by omega, by go_num, HO.out, HG.out, HBEL.out⟩
          case measure => simp [intOf]; omega
    · obtain rfl : i = n := by omega
      have hki : ¬ (i : Int) < (i : Int) := by omega
      obtain ⟨Gx, dx, rfl⟩ := own_shape hown
      have HO := hide hown
      have HBEL := hide hbel
      have HE := hide (pr_end hL.out)
      clear hown hbel
      go_wp2
      go_ret2
      exact gave1_yes HP.out (by rw [HE.out]) (((own_ints HO.out).congr (fun j _ => by rw [HE.out])).wide HB.out.size (Nat.le_refl _)) (HB.out.trans (HBEL.out.mono HB.out.size))
end Go.Proofs.Ytjndhcdanpnniaa
