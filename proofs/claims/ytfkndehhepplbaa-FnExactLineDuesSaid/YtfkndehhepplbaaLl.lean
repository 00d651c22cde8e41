/- LineDues, by both. -/
import Derived.Test.YtfkndehhepplbaaLq
import Derived.Deep.RegionHeldLaw
import Derived.Deep.AppendLies
namespace Go.Proofs.Ytfkndehhepplbaa
open Go.RowKit Go.Dues
def ldZ (x kd rt : Nat → Int) (r : Int) (j : Nat) : Int := duV (x j) (rt (kd j).toNat) r
set_option maxRecDepth 100000 in
set_option maxHeartbeats 8000000 in
theorem specLineDues_any (A : Option Addr) (n c : Nat) (x : Nat → Int) (A1 : Option Addr) (n1 c1 : Nat) (kd : Nat → Int) (A2 : Option Addr) (n2 c2 : Nat) (rt : Nat → Int) (r : Int) (w : World) (hn : n ≤ maxLen) (hs : SL w A n (fun j => .int .i64 (x j))) (hn1 : n1 ≤ maxLen) (hs1 : SL w A1 n1 (fun j => .int .i64 (kd j))) (hn2 : n2 ≤ maxLen) (hs2 : SL w A2 n2 (fun j => .int .i64 (rt j))) :
    Calls Try.prog 39 #[.slice A n c, .slice A1 n1 c1, .slice A2 n2 c2, .int .i64 r] w fun e w' => Gave1 w w' e (ldP x n kd n1 rt n2 r) n (ldZ x kd rt r) := by
  obtain ⟨i0, hi, hz0, hz1, hz2⟩ := info_parts Try.info64
  have HL := hide (specLines_any A n c x A1 n1 c1 kd A2 n2 c2 rt r w hn hs hn1 hs1 hn2 hs2)
  unfold maxLen at hn hn1 hn2
  have HSA := hide hs
  have HSB := hide hs1
  have HSC := hide hs2
  clear hs hs1 hs2
  by_cases hp : ldP x n kd n1 rt n2 r
  rotate_left
  · have HT := hide (tru_no hp)
    have HH := hide hp
    clear hp
    go_enter Try.func39, Try.ntmps39
    go_wp2_with fail
    refine HL.out.mono ?_
    rw [HT.out]
    rintro e W ⟨rfl, hbe⟩
    have HB0 : Hid (Below w.heap.size w W) := by rw [← hbe]; exact Below.refl _ _
    clear hbe
    go_wp2
    go_ret2
    exact gave1_no HH.out HB0.out
  have HT := hide (tru_yes hp)
  have HH := hide hp
  obtain ⟨hall, hk, hn2b, hr, hrt, hkd, _⟩ := hp
  have n32 := hall.1.2
  have n0 := hall.1.1
  have HX := hide hall.2
  have HKD := hide (show ∀ j, j < n → 0 ≤ kd j ∧ kd j ≤ (n2 : Int) - 1 from fun j hj => hkd j (by omega))
  have HRT := hide hrt
  have HR := hide hr
  have HK := hide hk
  obtain ⟨b, off, hAe, hb, -⟩ := (cells_a HSA.out).out 0 (by omega)
  subst hAe
  obtain ⟨b1, off1, hAe1, hb1, -⟩ := (cells_a HSB.out).out 0 (by omega)
  subst hAe1
  obtain ⟨b2, off2, hAe2, hb2, -⟩ := (cells_a HSC.out).out 0 (by omega)
  subst hAe2
  clear hall hk hkd hrt hr
  go_enter Try.func39, Try.ntmps39
  go_wp2_with fail
  refine HL.out.mono ?_
  rw [HT.out]
  rintro e W ⟨rfl, hbe⟩
  have HB0 : Hid (Below w.heap.size w W) := by rw [← hbe]; exact Below.refl _ _
  have HC : Hid _ := hide (cells_a (show SL W (some ⟨b, off, none⟩) n (fun j => .int .i64 (x j)) by rw [← hbe]; exact HSA.out)).out
  have HC1 : Hid _ := hide (cells_a (show SL W (some ⟨b1, off1, none⟩) n1 (fun j => .int .i64 (kd j)) by rw [← hbe]; exact HSB.out)).out
  have HC2 : Hid _ := hide (cells_a (show SL W (some ⟨b2, off2, none⟩) n2 (fun j => .int .i64 (rt j)) by rw [← hbe]; exact HSC.out)).out
  clear hbe
  go_wp2
  have hst : (W.alloc (.cells #[] 2)).ownsRow W.heap.size 2 1 (.slice (some ⟨W.heap.size, 0, none⟩) 0 0) 0 [] :=
    ⟨by simp, .inr ⟨W.heap.size, 0, #[], rfl, Nat.le_refl _, new_at W _, Nat.le_refl 0, by unfold maxLen; omega, rfl, rfl⟩⟩
  have HBS := hide ((Below.refl W.heap.size W).alloc (Nat.le_refl _) (.cells #[] 2))
  have HO0 := hide hst
  clear hst
  go_loopw [10, 11] (fun v i wr => ∃ (k : Nat) (xs : List Value) (ov : Value), k ≤ n ∧ i = .int .i64 k ∧ ov = v ∧ wr.ownsRow W.heap.size 2 1 ov k xs ∧ Hid (∀ j, j < k → xs[j]? = some (.int .i64 (ldZ x kd rt r j))) ∧ Below W.heap.size W wr) (fun _ i _ => n - (intOf i).toNat)
  case atStart => exact ⟨0, [], _, Nat.zero_le _, rfl, rfl, HO0.out, (fun j hj => absurd hj (by omega)), HBS.out⟩
  case round =>
    obtain ⟨k, xs, ov, hk, rfl, hvo, hown, hxs, hbel⟩ := hrel
    subst hvo
    by_cases hlt : k < n
    · have hki : (k : Int) < (n : Int) := by omega
      obtain ⟨b', off', hA, hb', hck⟩ := HC.out k hlt
      injection hA with hA
      injection hA with hA hA2
      subst hA hA2
      obtain ⟨b1', off1', hA1, hb1', hck1⟩ := HC1.out k (by have := HK.out; omega)
      injection hA1 with hA1
      injection hA1 with hA1 hA12
      subst hA1 hA12
      obtain ⟨kd0, kd1⟩ := HKD.out k hlt
      obtain ⟨m, hm⟩ : ∃ m : Nat, kd k = m := ⟨(kd k).toNat, by omega⟩
      have hmn : m < n2 := by omega
      have hmi : (m : Int) < (n2 : Int) := by omega
      obtain ⟨b2', off2', hA2, hb2', hck2⟩ := HC2.out m hmn
      injection hA2 with hA2
      injection hA2 with hA2 hA22
      subst hA2 hA22
      have ki1 : (k : Int) < (n1 : Int) := by have := HK.out; omega
      rw [hm] at hck1
      have hc := (hbel.cell (p := ⟨b, off + k, none⟩) hb').trans hck
      have hc1 := (hbel.cell (p := ⟨b1, off1 + k, none⟩) hb1').trans hck1
      have hc2 := (hbel.cell (p := ⟨b2, off2 + m, none⟩) hb2').trans hck2
      obtain ⟨x0, x1⟩ := HX.out k hlt
      have HRM := hide (HRT.out m hmn)
      have HV := hide (show duV (x k) (rt m) r = ldZ x kd rt r k by unfold ldZ; rw [hm]; simp)
      have hsz := hbel.size
      have HLL := hide (show xs.length = k by have := hown.1; omega)
      clear hck hck1 hck2 hm kd0 kd1
      have ag : ∀ g, g < W.heap.size → ov.ownBlock ≠ some g := fun g hg e => by have := (hown.lt g e).1; omega
      have a0 := ag b hb'
      have a1 := ag b1 hb1'
      have a2 := ag b2 hb2'
      have hl0 := Nat.lt_of_lt_of_le hb' hsz
      have hl1 := Nat.lt_of_lt_of_le hb1' hsz
      have hl2 := Nat.lt_of_lt_of_le hb2' hsz
      have hn63 : k + 1 ≤ maxLen := by unfold maxLen; omega
      have hby : (k + 1) * 8 ≤ 140737488355328 := by omega
      have HOWN := hide hown
      have HBEL := hide hbel
      clear ag hbel
      go_wp2
      go_region_held_law (fun w' => w'.cell? ⟨b, off + k, none⟩ = some (.int .i64 (x k)) ∧ w'.cell? ⟨b1, off1 + k, none⟩ = some (.int .i64 m) ∧ w'.cell? ⟨b2, off2 + m, none⟩ = some (.int .i64 (rt m)))
        (first
          | go_keep
          | (go_split_ands
             refine ⟨?_, ?_, ?_⟩
             · (rw [hgrow.cell_far _ (by simp; omega) (Ne.symm a0)]; assumption)
             · (rw [hgrow.cell_far _ (by simp; omega) (Ne.symm a1)]; assumption)
             · (rw [hgrow.cell_far _ (by simp; omega) (Ne.symm a2)]; assumption)))
        ((first
          | (go_at_call 65; refine (specDue4_any (x k) (rt m) r _ x0 (by omega) HRM.out HR.out).mono ?_; rw [HV.out]; rintro e w' ⟨rfl, rfl⟩)
          | (refine step_append_lies _ (by rfl) _ _ _ (by rfl) W.heap.size 2 i0 _ 1 8 Try.underlying45 hi hz0 hz1 hz2 rfl (by omega) ov k xs (by rfl) ((hown.alloc _).drew)
              ⟨wr.heap.size, 0, none⟩ 1 1 [.int .i64 (ldZ x kd rt r k)] (by rfl) (by rfl) (World.news_of_block (cs := #[.int .i64 (ldZ x kd rt r k)]) (t := 2) (fr := (0, 0)) (heap_alloc_new wr _)) (by simp [Value.oneCell'])
              (by omega) hn63 hby (by simp; omega) (wr.heap.size + 1) (by simp) ?_; intro gg cap w5 hown1 hgrow hat hlt5)))
      have hb1 := (HBEL.out.alloc hsz (.cells #[.int .i64 (ldZ x kd rt r k)] 2))
      have hbd : Below W.heap.size W ((wr.alloc (.cells #[.int .i64 (ldZ x kd rt r k)] 2)).drew) := ⟨hb1.os, hb1.tape, hb1.output, hb1.size, hb1.block⟩
      have HBN := hide (hbd.grown hgrow (by simp; omega) (fun j hj => (hown.lt j hj).1))
      have HON := hide hown1
      clear hown hown1 hgrow hat hb1 hbd
      go_wp2
      go_roundw
      case rel => exact ⟨k + 1, _, _, by omega, by go_num, rfl, HON.out, own_step HLL.out hxs.out rfl, HBN.out⟩
      case measure => simp [intOf]; omega
    · obtain rfl : n = k := by omega
      obtain ⟨Gx, dx, rfl⟩ := own_shape hown
      have HO := hide hown
      have HBEL := hide hbel
      clear hown hbel
      go_wp2
      go_ret2
      exact gave1_yes HH.out rfl ((OW.of_owns HO.out hxs.out).wide HB0.out.size (Nat.le_refl _)) (HB0.out.trans (HBEL.out.mono HB0.out.size))
set_option maxRecDepth 100000 in
set_option maxHeartbeats 8000000 in
theorem implLineDues_any (A : Option Addr) (n c : Nat) (x : Nat → Int) (A1 : Option Addr) (n1 c1 : Nat) (kd : Nat → Int) (A2 : Option Addr) (n2 c2 : Nat) (rt : Nat → Int) (r : Int) (w : World) (hn : n ≤ maxLen) (hs : SL w A n (fun j => .int .i64 (x j))) (hn1 : n1 ≤ maxLen) (hs1 : SL w A1 n1 (fun j => .int .i64 (kd j))) (hn2 : n2 ≤ maxLen) (hs2 : SL w A2 n2 (fun j => .int .i64 (rt j))) :
    Calls Try.prog 40 #[.slice A n c, .slice A1 n1 c1, .slice A2 n2 c2, .int .i64 r] w fun e w' => Gave1 w w' e (ldP x n kd n1 rt n2 r) n (ldZ x kd rt r) := by
  obtain ⟨i0, hi, hz0, hz1, hz2⟩ := info_parts Try.info64
  have HL := hide (implLines_any A n c x A1 n1 c1 kd A2 n2 c2 rt r w hn hs hn1 hs1 hn2 hs2)
  unfold maxLen at hn hn1 hn2
  have HSA := hide hs
  have HSB := hide hs1
  have HSC := hide hs2
  clear hs hs1 hs2
  by_cases hp : ldP x n kd n1 rt n2 r
  rotate_left
  · have HT := hide (tru_no hp)
    have HH := hide hp
    clear hp
    go_enter Try.func40, Try.ntmps40
    go_wp2_with fail
    refine HL.out.mono ?_
    rw [HT.out]
    rintro e W ⟨rfl, hb⟩
    have HB0 := hide hb
    clear hb
    go_wp2
    go_ret2
    exact gave1_no HH.out HB0.out
  have HT := hide (tru_yes hp)
  have HH := hide hp
  obtain ⟨hall, hk, hn2b, hr, hrt, hkd, _⟩ := hp
  have n32 := hall.1.2
  have n0 := hall.1.1
  have HX := hide hall.2
  have HKD := hide (show ∀ j, j < n → 0 ≤ kd j ∧ kd j ≤ (n2 : Int) - 1 from fun j hj => hkd j (by omega))
  have HRT := hide hrt
  have HR := hide hr
  have HK := hide hk
  obtain ⟨b, off, hAe, hb, -⟩ := (cells_a HSA.out).out 0 (by omega)
  subst hAe
  obtain ⟨b1, off1, hAe1, hb1, -⟩ := (cells_a HSB.out).out 0 (by omega)
  subst hAe1
  obtain ⟨b2, off2, hAe2, hb2, -⟩ := (cells_a HSC.out).out 0 (by omega)
  subst hAe2
  clear hall hk hkd hrt hr
  go_enter Try.func40, Try.ntmps40
  go_wp2_with fail
  refine HL.out.mono ?_
  rw [HT.out]
  rintro e W ⟨rfl, hbw⟩
  have HB0 := hide hbw
  have HC := cells_a (HSA.out.below hbw)
  have HC1 := cells_a (HSB.out.below hbw)
  have HC2 := cells_a (HSC.out.below hbw)
  clear hbw
  go_wp2_with (at_make; refine wpList_make_own _ rfl _ _ 45 rfl W.heap.size 2 i0 (.int .i64 0) 1 Try.underlying45 hi hz0 hz1 _ _ _ n rfl rfl rfl (by rw [hz2]; omega) (by unfold maxLen; omega) (Nat.le_refl _) ?_; intro w2 hown0 hgrow0)
  have HBS := hide ((Below.refl W.heap.size W).grown hgrow0 (Nat.le_refl _) (fun k h => by cases h))
  have HO0 := hide hown0
  clear hown0 hgrow0
  go_loopw [10, 11, 12, 24] (fun v _ _ i wr => ∃ (k : Nat) (xs : List Value), k ≤ n ∧ i = .int .i64 k ∧ wr.ownsRow W.heap.size 2 1 v k xs ∧ Hid (∀ j, j < k → xs[j]? = some (.int .i64 (ldZ x kd rt r j))) ∧ Below W.heap.size W wr) (fun _ _ _ i _ => n - (intOf i).toNat)
  case atStart => exact ⟨0, [], Nat.zero_le _, rfl, HO0.out, (fun j hj => absurd hj (by omega)), HBS.out⟩
  case round =>
    obtain ⟨k, xs, hk, rfl, hown, hxs, hbel⟩ := hrel
    by_cases hlt : k < n
    · have hki : (k : Int) < (n : Int) := by omega
      obtain ⟨b', off', hA, hb', hck⟩ := HC.out k hlt
      injection hA with hA
      injection hA with hA hA2
      subst hA hA2
      obtain ⟨b1', off1', hA1, hb1', hck1⟩ := HC1.out k (by have := HK.out; omega)
      injection hA1 with hA1
      injection hA1 with hA1 hA12
      subst hA1 hA12
      obtain ⟨kd0, kd1⟩ := HKD.out k hlt
      obtain ⟨m, hm⟩ : ∃ m : Nat, kd k = m := ⟨(kd k).toNat, by omega⟩
      have hmn : m < n2 := by omega
      have hmi : (m : Int) < (n2 : Int) := by omega
      obtain ⟨b2', off2', hA2, hb2', hck2⟩ := HC2.out m hmn
      injection hA2 with hA2
      injection hA2 with hA2 hA22
      subst hA2 hA22
      have ki1 : (k : Int) < (n1 : Int) := by have := HK.out; omega
      rw [hm] at hck1
      have hc := (hbel.cell (p := ⟨b, off + k, none⟩) hb').trans hck
      have hc1 := (hbel.cell (p := ⟨b1, off1 + k, none⟩) hb1').trans hck1
      have hc2 := (hbel.cell (p := ⟨b2, off2 + m, none⟩) hb2').trans hck2
      obtain ⟨x0, x1⟩ := HX.out k hlt
      have HRM := hide (HRT.out m hmn)
      have HV := hide (show duV (x k) (rt m) r = ldZ x kd rt r k by unfold ldZ; rw [hm]; simp)
      have hsz := hbel.size
      have HLL := hide (show xs.length = k by have := hown.1; omega)
      clear hck hck1 hck2 hm kd0 kd1
      go_wp2_with fail
      refine (implDue4_any (x k) (rt m) r _ x0 (by omega) HRM.out HR.out).mono ?_
      rw [HV.out]
      rintro e w' ⟨rfl, q, rfl⟩
      go_wp2_with (at_builtin; refine wpList_append_own _ rfl _ _ 45 rfl (W.heap.size) 2 i0 (.int .i64 0) 1 8 Try.underlying45 hi hz0 hz1 hz2 rfl (by decide) _ _ _ rfl (by exact (hown.alloc _)) ⟨_, 0, none⟩ 1 1 [.int .i64 (ldZ x kd rt r k)] rfl rfl (cell_one_new _ _ _) (by intro u hu; simp at hu; subst hu; rfl) (by unfold maxLen; omega) (by omega) (by simp; omega) ?_)
      intro v' w5 hown' hgrow _
      have hb1 := ((bel_q hbel q).alloc (by simp; omega) (.cells #[.int .i64 (ldZ x kd rt r k)] 2)).grown hgrow (by simp; omega) (fun j hj => (hown.lt j hj).1)
      have HBN := hide hb1
      have HON := hide hown'
      clear hgrow hown' hown hbel hb1 hc hc1 hc2
      go_wp2
      go_roundw
      case rel => exact ⟨k + 1, _, by omega, by go_num, HON.out, own_step HLL.out hxs.out rfl, HBN.out⟩
      case measure => simp [intOf]; omega
    · obtain rfl : n = k := by omega
      obtain ⟨Gx, dx, rfl⟩ := own_shape hown
      have HO := hide hown
      have HBEL := hide hbel
      clear hown hbel
      go_wp2
      go_ret2
      exact gave1_yes HH.out rfl ((OW.of_owns HO.out hxs.out).wide HB0.out.size (Nat.le_refl _)) (HB0.out.trans (HBEL.out.mono HB0.out.size))
end Go.Proofs.Ytfkndehhepplbaa
