/- The law FnExactExemptDue, walked. -/
import Derived.Test.YtfkndehhepplbabEd
import Derived.Test.YtfkndehhepplbabRow
import Derived.Test.YtfkndehhepplbabSc
import Derived.Deep.RegionHeld3
namespace Go.Proofs.Ytfkndehhepplbab
open Go.RowKit Go.Dues
set_option maxHeartbeats 4000000 in
theorem lawExemptDue_any (A0 A0' : Option Addr) (n0 c0 n0' c0' : Nat) (x0 y0 : Nat → Int) (v1 : Int) (v2 : Int) (v3 : Int) (w : World) (hm0 : n0 ≤ maxLen) (hm0' : n0' ≤ maxLen) (hs0 : SL w A0 n0 (fun j => .int .i64 (x0 j))) (hs0' : SL w A0' n0' (fun j => .int .i64 (y0 j))) (wv1 : -9223372036854775808 ≤ v1 ∧ v1 ≤ 9223372036854775807) (wv2 : -9223372036854775808 ≤ v2 ∧ v2 ≤ 9223372036854775807) (wv3 : -9223372036854775808 ≤ v3 ∧ v3 ≤ 9223372036854775807) :
    Calls Try.prog 3 #[.agg #[.slice A0 n0 c0, .slice A0' n0' c0'], .int .i64 v1, .int .i64 v2, .int .i64 v3] w fun e w' => e = .returned (.bool true) ∧ Below w.heap.size w w' := by
  have WV1 := hide wv1
  clear wv1
  have WV2 := hide wv2
  clear wv2
  have WV3 := hide wv3
  clear wv3
  have HS0 := hide hs0
  have HS0' := hide hs0'
  clear hs0 hs0'
  have HB0 := hide ((Below.refl w.heap.size w).alloc (Nat.le_refl _) (.cells #[.slice A0 n0 c0, .slice A0' n0' c0'] 24))
  have HP0_0 := hide (blocks1 w (.cells #[.slice A0 n0 c0, .slice A0' n0' c0'] 24))
  go_enter Try.func3, Try.ntmps3
  have hz0 : w.heap.size < (w.alloc (.cells #[.slice A0 n0 c0, .slice A0' n0' c0'] 24)).heap.size := by simp
  go_wp2_with fail
  refine (szScale_any A0 A0' n0 c0 n0' c0' 1048576 _ hm0 hm0' (by omega) (by omega)).mono ?_
  rintro e w1 ⟨m0, rfl, hm, hb⟩
  have HB1 := hide (HB0.out.trans (hb.mono HB0.out.size))
  have HP0_1 := hide (blk_below hb hz0 HP0_0.out)
  have hz1 : w.heap.size < w1.heap.size := Nat.lt_of_lt_of_le hz0 hb.size
  clear hb
  rcases hm with ⟨hl0, hu0, hn0, hn0'⟩ | rfl
  rotate_left
  · go_wp2
    go_ret
    exact ⟨rfl, HB1.out⟩
  have k0 := Joins.cell_of_block HP0_1.out 0
  have k0' := Joins.cell_of_block HP0_1.out 1
  simp at k0 k0'
  go_wp2_with fail
  refine (toScale_any A0 A0' n0 c0 n0' c0' x0 y0 _ hn0 hn0' (HS0.out.below HB1.out) (HS0'.out.below HB1.out)).mono ?_
  rintro e w2 ⟨g2, g2', rfl, hg, hg', hl, hb, hs, hs'⟩
  have HT2 := hide hs
  have HT2' := hide hs'
  clear hs hs' hg hg' hl
  have HB2 := hide (HB1.out.trans (hb.mono HB1.out.size))
  have HP0_2 := hide (blk_below hb hz1 HP0_1.out)
  have hz2 : w.heap.size < w2.heap.size := Nat.lt_of_lt_of_le hz1 hb.size
  clear hb
  clear k0 k0'
  go_wp2_with fail
  refine (specExempt_any _ _ n0 n0 n0' n0' x0 y0 v1 v2 v3 _ hm0 hm0' HT2.out HT2'.out ).mono ?_
  rintro e w3 ⟨rfl, hb⟩
  have HB3 := hide (HB2.out.trans (hb.mono HB2.out.size))
  have HP0_3 := hide (blk_below hb hz2 HP0_2.out)
  have HT2 := hide (HT2.out.below hb)
  have HT2' := hide (HT2'.out.below hb)
  have hz3 : w.heap.size < w3.heap.size := Nat.lt_of_lt_of_le hz2 hb.size
  clear hb
  have k0 := Joins.cell_of_block HP0_3.out 0
  have k0' := Joins.cell_of_block HP0_3.out 1
  simp at k0 k0'
  go_wp2_with fail
  refine (toScale_any A0 A0' n0 c0 n0' c0' x0 y0 _ hn0 hn0' (HS0.out.below HB3.out) (HS0'.out.below HB3.out)).mono ?_
  rintro e w4 ⟨g4, g4', rfl, hg, hg', hl, hb, hs, hs'⟩
  have HT4 := hide hs
  have HT4' := hide hs'
  clear hs hs' hg hg' hl
  have HB4 := hide (HB3.out.trans (hb.mono HB3.out.size))
  have HP0_4 := hide (blk_below hb hz3 HP0_3.out)
  have hz4 : w.heap.size < w4.heap.size := Nat.lt_of_lt_of_le hz3 hb.size
  clear hb
  clear k0 k0'
  obtain ⟨X0, hXe⟩ : ∃ X0, X0 = w4.heap.size := ⟨_, rfl⟩
  have hb : Below w4.heap.size w4 (w4.alloc (.cells #[.slice (some ⟨g4, 0, none⟩) n0 n0, .slice (some ⟨g4', 0, none⟩) n0' n0'] 28)) := (Below.refl _ _).alloc (Nat.le_refl _) _
  have HX0 := hide (blocks1 w4 (.cells #[.slice (some ⟨g4, 0, none⟩) n0 n0, .slice (some ⟨g4', 0, none⟩) n0' n0'] 28))
  have hX0 : X0 < (w4.alloc (.cells #[.slice (some ⟨g4, 0, none⟩) n0 n0, .slice (some ⟨g4', 0, none⟩) n0' n0'] 28)).heap.size := by rw [hXe]; simp
  rw [← hXe] at HX0
  have hbw := hide hb
  go_wp2_with fail
  generalize hwe : w4.alloc (.cells #[.slice (some ⟨g4, 0, none⟩) n0 n0, .slice (some ⟨g4', 0, none⟩) n0' n0'] 28) = w5 at hb HX0 hX0 hbw ⊢
  simp only [← hXe]
  clear hwe hbw hXe
  have HB5 := hide (HB4.out.trans (hb.mono HB4.out.size))
  have HP0_5 := hide (blk_below hb hz4 HP0_4.out)
  have HT4 := hide (HT4.out.below hb)
  have HT4' := hide (HT4'.out.below hb)
  have hz5 : w.heap.size < w5.heap.size := Nat.lt_of_lt_of_le hz4 hb.size
  clear hb
  refine (implExempt_any _ _ n0 n0 n0' n0' x0 y0 v1 v2 v3 _ hm0 hm0' HT4.out HT4'.out ).mono ?_
  rintro e w6 ⟨rfl, hb⟩
  have HB6 := hide (HB5.out.trans (hb.mono HB5.out.size))
  have HP0_6 := hide (blk_below hb hz5 HP0_5.out)
  have HT4 := hide (HT4.out.below hb)
  have HT4' := hide (HT4'.out.below hb)
  have HX0 := hide (blk_below hb hX0 HX0.out)
  have hX0 := Nat.lt_of_lt_of_le hX0 hb.size
  have hz6 : w.heap.size < w6.heap.size := Nat.lt_of_lt_of_le hz5 hb.size
  clear hb
  have k0a := Joins.cell_of_block HP0_6.out 0
  have k0a' := Joins.cell_of_block HP0_6.out 1
  have q0a := Joins.cell_of_block HX0.out 0
  have q0a' := Joins.cell_of_block HX0.out 1
  simp at k0a k0a' q0a q0a'
  have GS0_0 := hide (HS0.out.below HB6.out)
  have GS0_0' := hide (HS0'.out.below HB6.out)
  go_wp2_with fail
  go_region_held3 (fun w' => w'.cell? ⟨X0, 0, none⟩ = some (.slice (some ⟨g4, 0, none⟩) n0 n0) ∧ w'.cell? ⟨X0, 1, none⟩ = some (.slice (some ⟨g4', 0, none⟩) n0' n0') ∧ w'.cell? ⟨w.heap.size, 0, none⟩ = some (.slice A0 n0 c0) ∧ w'.cell? ⟨w.heap.size, 1, none⟩ = some (.slice A0' n0' c0')) ((first | exact ⟨q0a, q0a', k0a, k0a'⟩ | exact ⟨q0b, q0b', k0b, k0b'⟩ | exact ⟨q0c, q0c', k0c, k0c'⟩)) (first
    | (go_at_call 17; refine (toScale_any A0 A0' n0 c0 n0' c0' x0 y0 _ hn0 hn0' (by exact GS0_0.out) (by exact GS0_0'.out)).mono ?_; rintro e u0 ⟨a0, a0', rfl, _, _, _, hbt0, hst0, hst0'⟩; replace hbt0 : Below w6.heap.size w6 u0 := ⟨hbt0.os, hbt0.tape, hbt0.output, hbt0.size, hbt0.block⟩; have HBt0 := hide ((HB6.out).trans (hbt0.mono (HB6.out).size)); have hzt0 := Nat.lt_of_lt_of_le hz6 hbt0.size; have HTt0_0 := hide (SL.below (by exact HT4.out) hbt0); have HTt0_0' := hide (SL.below (by exact HT4'.out) hbt0); have HXt0_0 := hide (blk_below hbt0 hX0 HX0.out); have hXt0_0 := Nat.lt_of_lt_of_le hX0 hbt0.size; have HPt0_0 := hide (blk_below hbt0 hz6 HP0_6.out); have HSt0 := hide hst0; have HSt0' := hide hst0'; have k0b := Joins.cell_of_block HPt0_0.out 0; have k0b' := Joins.cell_of_block HPt0_0.out 1; have q0b := Joins.cell_of_block HXt0_0.out 0; have q0b' := Joins.cell_of_block HXt0_0.out 1; simp at k0b k0b' q0b q0b'; clear hbt0 hst0 hst0')
    | (go_at_call 19; refine (eqScale_any _ _ _ _ n0 n0 n0' n0' n0 n0' x0 y0 _ hm0 hm0' (by exact HTt0_0.out) (by exact HTt0_0'.out) (by exact HSt0.out) (by exact HSt0'.out)).mono ?_; rintro e z0 ⟨rfl, hbe0⟩; replace hbe0 : Below u0.heap.size u0 z0 := ⟨hbe0.os, hbe0.tape, hbe0.output, hbe0.size, hbe0.block⟩; have HBe0 := hide (HBt0.out.trans (hbe0.mono HBt0.out.size)); have hze0 := Nat.lt_of_lt_of_le hzt0 hbe0.size; have HTe0_0 := hide (HTt0_0.out.below hbe0); have HTe0_0' := hide (HTt0_0'.out.below hbe0); have HXe0_0 := hide (blk_below hbe0 hXt0_0 HXt0_0.out); have hXe0_0 := Nat.lt_of_lt_of_le hXt0_0 hbe0.size; have HPe0_0 := hide (blk_below hbe0 hzt0 HPt0_0.out); have k0c := Joins.cell_of_block HPe0_0.out 0; have k0c' := Joins.cell_of_block HPe0_0.out 1; have q0c := Joins.cell_of_block HXe0_0.out 0; have q0c' := Joins.cell_of_block HXe0_0.out 1; simp at k0c k0c' q0c q0c'; clear hbe0))
  clear k0a k0a' q0a q0a' k0b k0b' q0b q0b' k0c k0c' q0c q0c'
  go_wp2_with fail
  go_ret
  exact ⟨rfl, HBe0.out⟩
end Go.Proofs.Ytfkndehhepplbab
