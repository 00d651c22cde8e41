/- RateDues, by the reference. -/
import Derived.Test.YtpbbedelapnnnaaLl
import Derived.StillTailTactics
namespace Go.Proofs.Ytpbbedelapnnnaa
open Go.RowKit Go.Dues
/-- what the first k lines of a kind come to -/
def rdS (x kd : Nat → Int) (q : Nat) : Nat → Int
  | 0 => 0
  | k + 1 => if kd k = (q : Int) then rdS x kd q k + x k else rdS x kd q k
theorem rdS_bd {x kd : Nat → Int} {q : Nat} : ∀ {k : Nat}, (∀ j, j < k → 0 ≤ x j) → 0 ≤ rdS x kd q k ∧ rdS x kd q k ≤ psum x k
  | 0, _ => ⟨Int.le_refl _, Int.le_refl _⟩
  | k + 1, h => by
    have h1 := rdS_bd (x := x) (kd := kd) (q := q) (k := k) (fun j hj => h j (by omega))
    have h2 := h k (by omega)
    have h3 := psum_succ x k
    unfold rdS
    split <;> omega
theorem rdS_hit {x kd : Nat → Int} {q k : Nat} (h : kd k = (q : Int)) : rdS x kd q (k + 1) = rdS x kd q k + x k := if_pos h
theorem rdS_miss {x kd : Nat → Int} {q k : Nat} (h : kd k ≠ (q : Int)) : rdS x kd q (k + 1) = rdS x kd q k := if_neg h
def rdZ (x kd rt : Nat → Int) (n : Nat) (r : Int) (q : Nat) : Int := duV (rdS x kd q n) (rt q) r
theorem rd_step {x kd : Nat → Int} {n2 k m : Nat} {ds : Array Value} (hm : kd k = (m : Int)) (hmn : m < n2) (h : ∀ p, p < n2 → ds[p]? = some (.int .i64 (rdS x kd p k))) {v : Int} (hv : rdS x kd m k + x k = v) :
    ∀ p, p < n2 → (ds.setIfInBounds m (.int .i64 v))[p]? = some (.int .i64 (rdS x kd p (k + 1))) := by
  intro p hp
  have hl := (Array.getElem?_eq_some_iff.1 (h m hmn)).1
  by_cases e : p = m
  · subst e; rw [rdS_hit hm, hv]; simp [hl]
  · rw [Array.getElem?_setIfInBounds_ne (Ne.symm e), h p hp, rdS_miss (fun h' => e (by rw [hm] at h'; omega))]
set_option maxRecDepth 100000 in
set_option maxHeartbeats 8000000 in
theorem specRd_any (A : Option Addr) (n c : Nat) (x : Nat → Int) (A1 : Option Addr) (n1 c1 : Nat) (kd : Nat → Int) (A2 : Option Addr) (n2 c2 : Nat) (rt : Nat → Int) (r : Int) (w : World) (hs : SL w A n (fun j => .int .i64 (x j))) (hs1 : SL w A1 n1 (fun j => .int .i64 (kd j))) (hs2 : SL w A2 n2 (fun j => .int .i64 (rt j))) (hp : ldP x n kd n1 rt n2 r) :
    Calls Try.prog 130 #[.slice A n c, .slice A1 n1 c1, .slice A2 n2 c2, .int .i64 r] w fun e w' => ∃ G d, e = .returned (.slice G n2 d) ∧ OW w' w.heap.size w'.heap.size G n2 (fun j => .int .i64 (rdZ x kd rt n r j)) ∧ Below w.heap.size w w' := by
  obtain ⟨i0, hi, hz0, hz1, hz2⟩ := info_parts Try.info64
  obtain ⟨hall, hk, hn2b, hr, hrt, hkd, hsum⟩ := hp
  have n32 := hall.1.2
  have n0 := hall.1.1
  obtain ⟨n21, n216⟩ := hn2b
  have HX := hide hall.2
  have HSUM := hide hsum
  have HKD := hide (show ∀ j, j < n → 0 ≤ kd j ∧ kd j ≤ (n2 : Int) - 1 from fun j hj => hkd j (by omega))
  have HRT := hide hrt
  have HR := hide hr
  have HK := hide hk
  obtain ⟨b, off, hAe, hb, -⟩ := (cells_a hs).out 0 (by omega)
  subst hAe
  obtain ⟨b1, off1, hAe1, hb1, -⟩ := (cells_a hs1).out 0 (by omega)
  subst hAe1
  obtain ⟨b2, off2, hAe2, hb2, -⟩ := (cells_a hs2).out 0 (by omega)
  subst hAe2
  have HC := cells_a hs
  have HC1 := cells_a hs1
  have HC2 := cells_a hs2
  clear hall hk hkd hrt hr hsum hs hs1 hs2
  go_enter Try.func130, Try.ntmps130
  go_wp2_with (at_make; refine wpList_make_full _ rfl _ _ 42 rfl w.heap.size 2 i0 (.int .i64 0) 1 Try.underlying42 hi hz0 hz1 _ _ _ _ n2 rfl rfl rfl rfl (by rw [hz2]; omega) (by unfold maxLen; omega) (Nat.le_refl _) ?_; intro w1 hown hgrow)
  have hbel : Below w.heap.size w w1 := (Below.refl _ _).grown hgrow (Nat.le_refl _) (fun k h => by cases h)
  obtain ⟨cur, hcur, hcs⟩ : ∃ cur : Array Value, w1.heap[w.heap.size]? = some (.cells cur 2 (0, 0)) ∧ ∀ p, p < n2 → cur[p]? = some (.int .i64 (rdS x kd p 0)) := by
    rcases hown.2 with ⟨h', _⟩ | ⟨g', cap', cur, h', _, hg, _, _, hcs, htk⟩
    · simp at h'
    · simp only [Value.slice.injEq, Option.some.injEq, Addr.mk.injEq, and_true, true_and] at h'
      obtain ⟨rfl, rfl⟩ := h'
      refine ⟨cur, hg, fun p hp => ?_⟩
      have h7 : (madeCells (Value.int .i64 0).cells (n2 * 1)).toList[p]? = some (.int .i64 0) := by
        rw [Nat.mul_one, show (Value.int .i64 0).cells = #[Value.int .i64 0] from rfl, toList_madeCells_one, List.getElem?_replicate, if_pos hp]
      rw [← htk, Nat.mul_one, List.getElem?_take, if_pos hp, Array.getElem?_toList] at h7
      exact h7
  have HCUR := hide hcur
  have HBEL1 := hide hbel
  have HCS := hide hcs
  clear hown hgrow hcur hbel hcs
  go_wp2
  go_loopw [10] (fun i wr => ∃ (k : Nat) (ds : Array Value), k ≤ n ∧ i = .int .i64 k ∧ Hid (wr.heap[w.heap.size]? = some (.cells ds 2 (0, 0))) ∧ Hid (∀ p, p < n2 → ds[p]? = some (.int .i64 (rdS x kd p k))) ∧ Below w.heap.size w wr) (fun i _ => n - (intOf i).toNat)
  case atStart => exact ⟨0, cur, Nat.zero_le _, rfl, HCUR.out, HCS.out, HBEL1.out⟩
  case round =>
    obtain ⟨k, ds, hk, rfl, hb0, hds, hbel⟩ := hrel
    by_cases hlt : k < n
    · have hki : (k : Int) < (n : Int) := by omega
      obtain ⟨b', off', hA, hb', hck⟩ := HC.out k hlt
      injection hA with hA
      injection hA with hA hA2
      subst hA hA2
      obtain ⟨b1', off1', hA1, hb1', hck1⟩ := HC1.out k (by have := HK.out; omega)
      injection hA1 with hA1
      injection hA1 with hA1 hA12
      subst hA1 hA12
      obtain ⟨kd0, kd1⟩ := HKD.out k hlt
      obtain ⟨m, hm⟩ : ∃ m : Nat, kd k = m := ⟨(kd k).toNat, by omega⟩
      have hmn : m < n2 := by omega
      have hmi : (m : Int) < (n2 : Int) := by omega
      have ki1 : (k : Int) < (n1 : Int) := by have := HK.out; omega
      rw [hm] at hck1
      have hc := (hbel.cell (p := ⟨b, off + k, none⟩) hb').trans hck
      have hc1 := (hbel.cell (p := ⟨b1, off1 + k, none⟩) hb1').trans hck1
      obtain ⟨X, hX⟩ : ∃ X, x k = X := ⟨_, rfl⟩
      rw [hX] at hc
      obtain ⟨x0, x1⟩ := HX.out k hlt
      rw [hX] at x0 x1
      have s1 := hds.out m hmn
      obtain ⟨Y, hY⟩ : ∃ Y, rdS x kd m k = Y := ⟨_, rfl⟩
      rw [hY] at s1
      have B1 := rdS_bd (x := x) (kd := kd) (q := m) (k := k) (fun j hj => (HX.out j (by omega)).1)
      rw [hY] at B1
      have B2 : psum x k ≤ 1000000000000 := by
        have h1 := psum_mono (x := x) (n := n) (fun j hj => (HX.out j hj).1) (n - k) k (by omega)
        rw [show k + (n - k) = n by omega] at h1
        have := HSUM.out
        omega
      have E1 : IntKind.i64.wrap (Y + X) = Y + X := Go.IntWalk.i64_in _ (by omega)
      have HBEL := hide hbel
      have hz := hbel.size
      have hgl : w.heap.size < wr.heap.size := (Array.getElem?_eq_some_iff.1 hb0.out).1
      have HST := hide (rd_step hm hmn hds.out (show rdS x kd m k + x k = Y + X by rw [hY, hX]))
      clear hbel hck hck1 hm kd0 kd1 hX hY B1 B2
      have g1 := (Joins.cell_of_block hb0.out m).trans s1
      have u1 := Joins.unfrozen_of_block hb0.out m
      obtain ⟨V, hV⟩ : ∃ u, u = wr.drew := ⟨_, rfl⟩
      have g1' : V.cell? ⟨w.heap.size, m, none⟩ = some (.int .i64 Y) := by rw [hV]; exact g1
      have u1' := (show V.frozen? ⟨w.heap.size, m, none⟩ = wr.frozen? ⟨w.heap.size, m, none⟩ by rw [hV]; rfl).trans u1
      have HVV := hide hV
      clear hV
      go_wp2_with fail
      go_still_tail 13, (by kernel_rfl)
      change wpList _ _ _ _ _ wr.drew
      rw [← HVV.out]
      go_wp2
      go_roundw
      case rel => exact ⟨k + 1, _, by omega, by go_num, (by rw [HVV.out]; exact Joins.block_setCell hb0.out _), HST.out, (by rw [HVV.out]; exact (HBEL.out.drew).setCell (Nat.le_refl _) _)⟩
      case measure => simp [intOf]; omega
    · obtain rfl : n = k := by omega
      obtain ⟨WR, rfl⟩ : ∃ u, u = wr := ⟨_, rfl⟩
      have HSS := hide (show ∀ p, p < n2 → ds[p]? = some (.int .i64 (rdS x kd p n)) from hds.out)
      have HB0 := hide hb0.out
      have HBEL := hide hbel
      clear hbel hb0 hds
      obtain ⟨W, hW⟩ : ∃ u, u = WR.alloc (.cells #[] 2) := ⟨_, rfl⟩
      have HO0 : Hid (W.ownsRow WR.heap.size 2 1 (.slice (some ⟨WR.heap.size, 0, none⟩) 0 0) 0 []) := by
        rw [hW]
        exact ⟨by simp, .inr ⟨WR.heap.size, 0, #[], rfl, Nat.le_refl _, new_at WR _, Nat.le_refl 0, by unfold maxLen; omega, rfl, rfl⟩⟩
      have HBS : Hid (Below WR.heap.size WR W) := by rw [hW]; exact (Below.refl WR.heap.size WR).alloc (Nat.le_refl _) _
      have HW := hide hW
      clear hW
      have hgl : w.heap.size < WR.heap.size := (Array.getElem?_eq_some_iff.1 HB0.out).1
      go_wp2
      rw [← HW.out]
      clear HW
      go_loopw [11, 12] (fun v i wi => ∃ (k : Nat) (xs : List Value) (ov : Value), k ≤ n2 ∧ i = .int .i64 k ∧ ov = v ∧ wi.ownsRow WR.heap.size 2 1 ov k xs ∧ Hid (∀ j, j < k → xs[j]? = some (.int .i64 (rdZ x kd rt n r j))) ∧ Below WR.heap.size WR wi) (fun _ i _ => n2 - (intOf i).toNat)
      case atStart => exact ⟨0, [], _, Nat.zero_le _, rfl, rfl, HO0.out, (fun j hj => absurd hj (by omega)), HBS.out⟩
      case round =>
        obtain ⟨k, xs, ov, hk, rfl, hvo, hown, hxs, hbel⟩ := hrel
        subst hvo
        obtain ⟨wi, rfl⟩ : ∃ u, u = wr := ⟨_, rfl⟩
        by_cases hlt : k < n2
        · have hki : (k : Int) < (n2 : Int) := by omega
          obtain ⟨b2', off2', hA2, hb2', hck2⟩ := HC2.out k hlt
          injection hA2 with hA2
          injection hA2 with hA2 hA22
          subst hA2 hA22
          have hl2 := Nat.lt_of_lt_of_le hb2' HBEL.out.size
          have hc2 := (hbel.cell (p := ⟨b2, off2 + k, none⟩) hl2).trans ((HBEL.out.cell (p := ⟨b2, off2 + k, none⟩) hb2').trans hck2)
          have s0 := (Joins.cell_of_block HB0.out k).trans (HSS.out k hlt)
          obtain ⟨Y, hY⟩ : ∃ Y, rdS x kd k n = Y := ⟨_, rfl⟩
          rw [hY] at s0
          have B1 := rdS_bd (x := x) (kd := kd) (q := k) (k := n) (fun j hj => (HX.out j (by omega)).1)
          rw [hY] at B1
          have B2 := HSUM.out
          have hcS := (hbel.cell (p := ⟨w.heap.size, k, none⟩) hgl).trans s0
          have HRM := hide (HRT.out k hlt)
          have HV := hide (show duV Y (rt k) r = rdZ x kd rt n r k by unfold rdZ; rw [hY])
          have hsz := hbel.size
          have HLL := hide (show xs.length = k by have := hown.1; omega)
          have ag : ∀ g, g < WR.heap.size → ov.ownBlock ≠ some g := fun g hg e => by have := (hown.lt g e).1; omega
          have a0 := ag w.heap.size hgl
          have a2 := ag b2 hl2
          have hl0 := Nat.lt_of_lt_of_le hgl hsz
          have hl2' := Nat.lt_of_lt_of_le hl2 hsz
          have hn63 : k + 1 ≤ maxLen := by unfold maxLen; omega
          have hby : (k + 1) * 8 ≤ 140737488355328 := by omega
          have y0 : 0 ≤ Y := B1.1
          have y1 : Y ≤ 1000000000000 := by omega
          have HBL := hide hbel
          clear ag hbel hck2 s0 hY B1 B2 hb2'
          go_wp2
          go_region_held_law (fun w' => w'.cell? ⟨w.heap.size, k, none⟩ = some (.int .i64 Y) ∧ w'.cell? ⟨b2, off2 + k, none⟩ = some (.int .i64 (rt k)))
            (first
              | go_keep
              | (go_split_ands
                 refine ⟨?_, ?_⟩
                 · (rw [hgrow.cell_far _ (by simp; omega) (Ne.symm a0)]; assumption)
                 · (rw [hgrow.cell_far _ (by simp; omega) (Ne.symm a2)]; assumption)))
            ((first
              | (go_at_call 200; refine (specDue4_any Y (rt k) r _ y0 (by omega) HRM.out HR.out).mono ?_; rw [HV.out]; rintro e w' ⟨rfl, rfl⟩)
              | (refine step_append_lies _ (by rfl) _ _ _ (by rfl) WR.heap.size 2 i0 _ 1 8 Try.underlying42 hi hz0 hz1 hz2 rfl (by omega) ov k xs (by rfl) ((hown.alloc _).drew)
                  ⟨wi.heap.size, 0, none⟩ 1 1 [.int .i64 (rdZ x kd rt n r k)] (by rfl) (by rfl) (World.news_of_block (cs := #[.int .i64 (rdZ x kd rt n r k)]) (t := 2) (fr := (0, 0)) (heap_alloc_new wi _)) (by simp [Value.oneCell'])
                  (by omega) hn63 hby (by simp; omega) (wi.heap.size + 1) (by simp) ?_; intro gg cap w5 hown1 hgrow hat hlt5)))
          have hb1 := (HBL.out.alloc hsz (.cells #[.int .i64 (rdZ x kd rt n r k)] 2))
          have hbd : Below WR.heap.size WR ((wi.alloc (.cells #[.int .i64 (rdZ x kd rt n r k)] 2)).drew) := ⟨hb1.os, hb1.tape, hb1.output, hb1.size, hb1.block⟩
          have HBN := hide (hbd.grown hgrow (by simp; omega) (fun j hj => (hown.lt j hj).1))
          have HON := hide hown1
          clear hown hown1 hgrow hat hb1 hbd
          go_wp2
          go_roundw
          case rel => exact ⟨k + 1, _, _, by omega, by go_num, rfl, HON.out, own_step HLL.out hxs.out rfl, HBN.out⟩
          case measure => simp [intOf]; omega
        · obtain rfl : k = n2 := by omega
          have hki : ¬ (k : Int) < (k : Int) := by omega
          obtain ⟨Gx, dx, rfl⟩ := own_shape hown
          have HO := hide (OW.of_owns hown hxs.out)
          have HBX := hide (HBEL.out.trans (hbel.mono (Nat.le_of_lt hgl)))
          have HOX := hide (HO.out.wide (lo' := w.heap.size) (Nat.le_of_lt hgl) (Nat.le_refl _))
          clear hown hbel HO
          go_wp2
          go_ret
          first | exact ⟨Gx, dx, rfl, HOX.out, HBX.out⟩ | exact ⟨Gx, ⟨dx, rfl⟩, HOX.out, HBX.out⟩
set_option maxHeartbeats 2000000 in
theorem specRateDues_any (A : Option Addr) (n c : Nat) (x : Nat → Int) (A1 : Option Addr) (n1 c1 : Nat) (kd : Nat → Int) (A2 : Option Addr) (n2 c2 : Nat) (rt : Nat → Int) (r : Int) (w : World) (hn : n ≤ maxLen) (hs : SL w A n (fun j => .int .i64 (x j))) (hn1 : n1 ≤ maxLen) (hs1 : SL w A1 n1 (fun j => .int .i64 (kd j))) (hn2 : n2 ≤ maxLen) (hs2 : SL w A2 n2 (fun j => .int .i64 (rt j))) :
    Calls Try.prog 51 #[.slice A n c, .slice A1 n1 c1, .slice A2 n2 c2, .int .i64 r] w fun e w' => Gave1 w w' e (ldP x n kd n1 rt n2 r) n2 (rdZ x kd rt n r) := by
  have HL := hide (specLines_any A n c x A1 n1 c1 kd A2 n2 c2 rt r w hn hs hn1 hs1 hn2 hs2)
  by_cases hp : ldP x n kd n1 rt n2 r
  rotate_left
  · have HT := hide (tru_no hp)
    have HH := hide hp
    clear hp hs hs1 hs2
    go_enter Try.func51, Try.ntmps51
    go_wp2_with fail
    refine HL.out.mono ?_
    rw [HT.out]
    rintro e W ⟨rfl, hbe⟩
    have HB0 : Hid (Below w.heap.size w W) := by rw [← hbe]; exact Below.refl _ _
    clear hbe
    go_wp2
    go_ret2
    exact gave1_no HH.out HB0.out
  have HT := hide (tru_yes hp)
  have HH := hide hp
  have HD := hide (specRd_any A n c x A1 n1 c1 kd A2 n2 c2 rt r w hs hs1 hs2 hp)
  clear hp hs hs1 hs2
  go_enter Try.func51, Try.ntmps51
  go_wp2_with fail
  refine HL.out.mono ?_
  rw [HT.out]
  rintro e W ⟨rfl, hbe⟩
  subst hbe
  go_wp2_with fail
  refine HD.out.mono ?_
  rintro e w2 ⟨G, d, rfl, ho, hb⟩
  have HO := hide ho
  have HB2 := hide hb
  clear ho hb
  go_wp2
  go_ret2
  exact gave1_yes HH.out rfl HO.out HB2.out
end Go.Proofs.Ytpbbedelapnnnaa
