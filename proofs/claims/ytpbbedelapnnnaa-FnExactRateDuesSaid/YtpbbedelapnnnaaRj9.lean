/- RateDues, by the program. -/
import Derived.Test.YtpbbedelapnnnaaRk9
import Derived.Test.YtpbbedelapnnnaaRz9
namespace Go.Proofs.Ytpbbedelapnnnaa
open Go.RowKit Go.Dues
def ctF (L : List (Nat × Int)) (j : Nat) : Int := ((L[j]?).getD (0, 0)).2
def plF (L : List (Nat × Int)) (j : Nat) : Int := (((L[j]?).getD (0, 0)).1 : Int)
theorem psum_cg9 {z z' : Nat → Int} : ∀ {n : Nat}, (∀ j, j < n → z j = z' j) → psum z n = psum z' n
  | 0, _ => rfl
  | n + 1, h => by rw [psum_succ, psum_succ, psum_cg9 (n := n) (fun j hj => h j (by omega)), h n (by omega)]
theorem psum_ct (L : List (Nat × Int)) (p : Nat × Int) : psum (ctF (L ++ [p])) (L.length + 1) = psum (ctF L) L.length + p.2 := by
  rw [psum_succ]
  congr 1
  · refine psum_cg9 fun j hj => ?_
    unfold ctF; rw [List.getElem?_append_left hj]
  · unfold ctF; rw [List.getElem?_append_right (Nat.le_refl _), Nat.sub_self]; rfl
theorem psum_lq (x kd : Nat → Int) (q : Nat) : ∀ n, psum (ctF (lqL x kd q n)) (lqL x kd q n).length = rdS x kd q n
  | 0 => rfl
  | n + 1 => by
    by_cases h : kd n = (q : Int)
    · rw [lq_hit h, List.length_append, List.length_singleton, psum_ct, psum_lq x kd q n, rdS_hit h]
    · rw [lq_miss h, psum_lq x kd q n, rdS_miss h]
theorem lq_vals {x kd : Nat → Int} {q : Nat} : ∀ {n : Nat}, ∀ p, p ∈ lqL x kd q n → ∃ k, k < n ∧ p = (k, x k)
  | 0, p, h => by cases h
  | n + 1, p, h => by
    by_cases e : kd n = (q : Int)
    · rw [lq_hit e] at h
      rcases List.mem_append.1 h with h | h
      · obtain ⟨k, hk, e⟩ := lq_vals p h; exact ⟨k, by omega, e⟩
      · exact ⟨n, by omega, List.mem_singleton.1 h⟩
    · rw [lq_miss e] at h
      obtain ⟨k, hk, e⟩ := lq_vals p h; exact ⟨k, by omega, e⟩
theorem ct_bd {x kd : Nat → Int} {q n : Nat} (hx : ∀ j, j < n → 0 ≤ x j ∧ x j ≤ 1000000000000) : ∀ j, j < (lqL x kd q n).length → 0 ≤ ctF (lqL x kd q n) j ∧ ctF (lqL x kd q n) j ≤ 1000000000000 := by
  intro j hj
  obtain ⟨k, hk, e⟩ := lq_vals _ (List.getElem_mem hj)
  have : ctF (lqL x kd q n) j = x k := by unfold ctF; rw [List.getElem?_eq_getElem hj, e]; rfl
  rw [this]; exact hx k hk
theorem la_at {x kd : Nat → Int} {n q : Nat} : ∀ {c : Nat}, q < c → ∀ j, j < (lqL x kd q n).length → (laL x kd n c)[(laL x kd n q).length + j]? = (lqL x kd q n)[j]?
  | 0, h, _, _ => absurd h (by omega)
  | c + 1, h, j, hj => by
    show (laL x kd n c ++ lqL x kd c n)[(laL x kd n q).length + j]? = _
    by_cases e : q = c
    · subst e
      rw [List.getElem?_append_right (by omega), Nat.add_sub_cancel_left]
    · have h1 := la_at (c := c) (x := x) (kd := kd) (n := n) (q := q) (by omega) j hj
      rw [List.getElem?_eq_getElem hj] at h1
      obtain ⟨h2, _⟩ := List.getElem?_eq_some_iff.1 h1
      rw [List.getElem?_append_left h2, h1, List.getElem?_eq_getElem hj]
theorem liV_at : ∀ (L : List (Nat × Int)) (j : Nat) (p : Nat × Int), L[j]? = some p → (liV L)[j * 2]? = some (.int .i64 (p.1 : Int)) ∧ (liV L)[j * 2 + 1]? = some (.int .i64 p.2)
  | [], j, p, h => by simp at h
  | a :: L, 0, p, h => by
    simp at h; subst h
    exact ⟨rfl, rfl⟩
  | a :: L, j + 1, p, h => by
    have h1 := liV_at L j p (by simpa using h)
    have e : liV (a :: L) = [Value.int .i64 (a.1 : Int), .int .i64 a.2] ++ liV L := rfl
    rw [e]
    refine ⟨?_, ?_⟩
    · rw [List.getElem?_append_right (by simp; omega), show (j + 1) * 2 - [Value.int .i64 (a.1 : Int), .int .i64 a.2].length = j * 2 by simp; omega]; exact h1.1
    · rw [List.getElem?_append_right (by simp; omega), show (j + 1) * 2 + 1 - [Value.int .i64 (a.1 : Int), .int .i64 a.2].length = j * 2 + 1 by simp; omega]; exact h1.2
set_option maxRecDepth 100000 in
set_option maxHeartbeats 8000000 in
theorem implRateDues_any (A : Option Addr) (n c : Nat) (x : Nat → Int) (A1 : Option Addr) (n1 c1 : Nat) (kd : Nat → Int) (A2 : Option Addr) (n2 c2 : Nat) (rt : Nat → Int) (r : Int) (w : World) (hn : n ≤ maxLen) (hs : SL w A n (fun j => .int .i64 (x j))) (hn1 : n1 ≤ maxLen) (hs1 : SL w A1 n1 (fun j => .int .i64 (kd j))) (hn2 : n2 ≤ maxLen) (hs2 : SL w A2 n2 (fun j => .int .i64 (rt j))) :
    Calls Try.prog 53 #[.slice A n c, .slice A1 n1 c1, .slice A2 n2 c2, .int .i64 r] w fun e w' => Gave1 w w' e (ldP x n kd n1 rt n2 r) n2 (rdZ x kd rt n r) := by
  obtain ⟨i0, hi, hz0, hz1, hz2⟩ := info_parts Try.info64
  have HL := hide (implLines_any A n c x A1 n1 c1 kd A2 n2 c2 rt r w hn hs hn1 hs1 hn2 hs2)
  unfold maxLen at hn hn1 hn2
  have HSA := hide hs
  have HSB := hide hs1
  have HSC := hide hs2
  clear hs hs1 hs2
  by_cases hp : ldP x n kd n1 rt n2 r
  rotate_left
  · have HT := hide (tru_no hp)
    have HH := hide hp
    clear hp
    go_enter Try.func53, Try.ntmps53
    go_wp2_with fail
    refine HL.out.mono ?_
    rw [HT.out]
    rintro e W ⟨rfl, hb⟩
    have HB0 := hide hb
    clear hb
    go_wp2
    go_ret2
    exact gave1_no HH.out HB0.out
  have HT := hide (tru_yes hp)
  have HH := hide hp
  obtain ⟨hall, hk, hn2b, hr, hrt, hkd, hsum⟩ := hp
  have n32 := hall.1.2
  have n0 := hall.1.1
  obtain ⟨n21, n216⟩ := hn2b
  have HX := hide hall.2
  have HSUM := hide hsum
  have HRT := hide hrt
  have HR := hide hr
  have HK := hide hk
  clear hall hk hkd hrt hr hsum
  go_enter Try.func53, Try.ntmps53
  go_wp2_with fail
  refine HL.out.mono ?_
  rw [HT.out]
  rintro e W ⟨rfl, hbw⟩
  have HB0 := hide hbw
  have HSA1 := hide (HSA.out.below hbw)
  have HSB1 := hide (HSB.out.below hbw)
  have HC2 := cells_a (HSC.out.below hbw)
  clear hbw
  go_wp2_with (at_make; refine wpList_make_own _ rfl _ _ 42 rfl W.heap.size 2 i0 (.int .i64 0) 1 Try.underlying42 hi hz0 hz1 _ _ _ n2 rfl rfl rfl (by rw [hz2]; omega) (by unfold maxLen; omega) (Nat.le_refl _) ?_; intro w2 hown0 hgrow0)
  have HBS := hide ((Below.refl W.heap.size W).grown hgrow0 (Nat.le_refl _) (fun k h => by cases h))
  have HO0 := hide hown0
  have hlt2 := (hown0.lt _ rfl).2
  clear hown0 hgrow0
  have HLB := hide (implLinesBy_any A n c x A1 n1 c1 kd n2 w2 HK.out (by omega) (by omega) (HSA1.out.below HBS.out) (HSB1.out.below HBS.out))
  go_wp2_with fail
  refine HLB.out.mono ?_
  rintro e w3 ⟨gp, ps, rfl, hpo, hlo, hpt, hb3⟩
  have HPO := hide hpo
  have HLO := hide hlo
  have HPT := hide hpt
  have hgp := hpo.lt _ rfl
  have hla := hlo.lt _ rfl
  have hz3 := hb3.size
  have HO3 := hide (own_far9 (w' := w3) HO0.out (fun b hb => by subst hb; exact hb3.block _ hlt2))
  have HB3 := hide (HBS.out.trans (hb3.mono HBS.out.size))
  clear hpo hlo hpt hb3 HLB HO0
  go_wp2
  go_loopw [10, 11, 12, 13, 29] (fun v _ _ _ i wr => ∃ (k : Nat) (xs : List Value), k ≤ n2 ∧ i = .int .i64 k ∧ v = .slice (some ⟨W.heap.size, 0, none⟩) k n2 ∧ Hid (wr.ownsRow W.heap.size 2 1 v k xs) ∧ Hid (∀ j, j < k → xs[j]? = some (.int .i64 (rdZ x kd rt n r j))) ∧ Hid (Below W.heap.size W wr) ∧ Hid (wr.heap[gp]? = w3.heap[gp]?) ∧ Hid (wr.heap[w2.heap.size]? = w3.heap[w2.heap.size]?) ∧ w3.heap.size ≤ wr.heap.size) (fun _ _ _ _ i _ => n2 - (intOf i).toNat)
  case atStart => exact ⟨0, [], Nat.zero_le _, rfl, rfl, HO3.out, (fun j hj => absurd hj (by omega)), HB3.out, rfl, rfl, Nat.le_refl _⟩
  case round =>
    obtain ⟨k, xs, hk, rfl, rfl, hown, hxs, hbel, hpb, hlb, hsz⟩ := hrel
    by_cases hlt : k < n2
    · have hki : (k : Int) < (n2 : Int) := by omega
      have HP1 := hide (own_far9 (w' := wr) HPO.out (fun b hb => by subst hb; exact hpb.out))
      have HL1 := hide (own_far9 (w' := wr) HLO.out (fun b hb => by subst hb; exact hlb.out))
      obtain ⟨ao, hao, hao2⟩ := HPT.out.2 k hlt
      have cp := (HP1.out.cellAt k (by omega)).trans hao
      obtain ⟨b2, off2, rfl, hb2, hck2⟩ := HC2.out k hlt
      have hc2 := (hbel.out.cell (p := ⟨b2, off2 + k, none⟩) hb2).trans hck2
      obtain ⟨M, hM⟩ : ∃ M, lqL x kd k n = M := ⟨_, rfl⟩
      have hm32 : M.length ≤ 32 := by
        have h1 := la_len x kd n (k + 1)
        have h2 : (laL x kd n (k + 1)).length = (laL x kd n k).length + (lqL x kd k n).length := by show (laL x kd n k ++ lqL x kd k n).length = _; rw [List.length_append]
        rw [← hM]; omega
      have HSL := hide (sumLine_any ao M.length M.length (plF M) (ctF M) wr hm32 (by rw [← hM]; exact ct_bd HX.out) (fun j hj => by
        have hl : (laL x kd n n2)[(laL x kd n k).length + j]? = some M[j] := by rw [la_at hlt j (by rw [hM]; exact hj)]; simp only [hM]; exact List.getElem?_eq_getElem hj
        obtain ⟨v1, v2⟩ := liV_at _ _ _ hl
        have hlt3 := (List.getElem?_eq_some_iff.1 hl).1
        have e1 : plF M j = (M[j].1 : Int) := by unfold plF; rw [List.getElem?_eq_getElem hj]; rfl
        have e2 : ctF M j = M[j].2 := by unfold ctF; rw [List.getElem?_eq_getElem hj]; rfl
        refine ⟨w2.heap.size, (laL x kd n k).length * 2, hao2 (by rw [hM]; omega), by omega, ?_, ?_⟩
        · rw [e1, ← v1, show (laL x kd n k).length * 2 + j * 2 = ((laL x kd n k).length + j) * 2 by omega]
          exact HL1.out.cellAt _ (by omega)
        · rw [e2, ← v2, show (laL x kd n k).length * 2 + j * 2 + 1 = ((laL x kd n k).length + j) * 2 + 1 by omega]
          exact HL1.out.cellAt _ (by omega)))
      have HSS := hide (show psum (ctF M) M.length = rdS x kd k n from by rw [← hM]; exact psum_lq x kd k n)
      rw [HSS.out] at HSL
      rw [hM] at cp
      obtain ⟨Y, hY⟩ : ∃ Y, rdS x kd k n = Y := ⟨_, rfl⟩
      have B1 := rdS_bd (x := x) (kd := kd) (q := k) (k := n) (fun j hj => (HX.out j (by omega)).1)
      have B2 := HSUM.out
      rw [hY] at HSL B1
      have y0 : 0 ≤ Y := B1.1
      have y1 : Y ≤ 1000000000000 := by omega
      have HV := hide (show duV Y (rt k) r = rdZ x kd rt n r k by unfold rdZ; rw [hY])
      have HRM := hide (HRT.out k hlt)
      have hx := hown.out.lt _ rfl
      have HLL := hide (show xs.length = k by have := hown.out.1; omega)
      clear hao hao2 hck2 hM B1 B2 hY
      go_wp2_with fail
      refine HSL.out.mono ?_
      rintro e w4 ⟨rfl, hb4⟩
      have HB4 := hide (hbel.out.trans (hb4.mono hbel.out.size))
      have HO4 := hide (own_far9 (w' := w4) hown.out (fun b hb => by subst hb; exact hb4.block _ (by omega)))
      have HPB4 := hide ((hb4.block gp (by omega)).trans hpb.out)
      have HLB4 := hide ((hb4.block w2.heap.size (by omega)).trans hlb.out)
      have hc4 := (hb4.cell (p := ⟨b2, off2 + k, none⟩) (by show b2 < _; have := hbel.out.size; omega)).trans hc2
      have hz4 := hb4.size
      clear hb4 hc2 cp hown hpb hlb HSL
      go_wp2_with fail
      refine (implDue4_any Y (rt k) r _ y0 (by omega) HRM.out HR.out).mono ?_
      rw [HV.out]
      rintro e w' ⟨rfl, qd, rfl⟩
      clear hc4
      go_wp2_with (at_builtin; refine wpList_append_fits _ rfl _ _ 42 rfl W.heap.size 2 i0 1 Try.underlying42 hi hz1 W.heap.size k n2 xs rfl (by exact (HO4.out.alloc _)) ⟨_, 0, none⟩ 1 1 [.int .i64 (rdZ x kd rt n r k)] rfl rfl (cell_one_new _ _ _) (by intro u hu; simp at hu; subst hu; rfl) (by omega) ?_)
      intro w5 hown5 hgrow
      have HB5 := hide (Below.grown (Below.alloc (bel_q HB4.out qd) (by have := HB4.out.size; exact this) _) hgrow (by have := HB4.out.size; simp; omega) (fun j hj => by injection hj with hj; omega))
      have HO5 := hide hown5
      have HPB5 := hide (((hgrow.block gp (by simp; omega) (fun h => by injection h with h; omega)).trans (Below.block ((Below.refl w4.heap.size w4).alloc (Nat.le_refl _) (.cells #[.int .i64 (rdZ x kd rt n r k)] 2)) gp (by omega))).trans HPB4.out)
      have HLB5 := hide (((hgrow.block w2.heap.size (by simp; omega) (fun h => by injection h with h; omega)).trans (Below.block ((Below.refl w4.heap.size w4).alloc (Nat.le_refl _) (.cells #[.int .i64 (rdZ x kd rt n r k)] 2)) w2.heap.size (by omega))).trans HLB4.out)
      have hz5 : w3.heap.size ≤ w5.heap.size := by have := hgrow.size; simp at this; omega
      clear hgrow hown5
      go_wp2
      go_roundw
      case rel => exact ⟨k + 1, _, by omega, by go_num, rfl, HO5.out, own_step HLL.out hxs.out rfl, HB5.out, HPB5.out, HLB5.out, hz5⟩
      case measure => simp [intOf]; omega
    · obtain rfl : k = n2 := by omega
      have hki : ¬ (k : Int) < (k : Int) := by omega
      have HO := hide (OW.of_owns hown.out hxs.out)
      have HB := hbel
      clear hown hbel hpb hlb
      go_wp2
      go_ret2
      exact gave1_yes HH.out rfl (HO.out.wide HB0.out.size (Nat.le_refl _)) (HB0.out.trans (HB.out.mono HB0.out.size))
end Go.Proofs.Ytpbbedelapnnnaa
