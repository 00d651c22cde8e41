/- The law FnExactSameScale, walked. -/
import Derived.Test.YtbcajjpgpjadaaaSn
import Derived.Test.YtbcajjpgpjadaaaSc
import Derived.Test.YtbcajjpgpjadaaaRow
import Derived.Deep.RegionHeld3
namespace Go.Proofs.Ytbcajjpgpjadaaa
open Go.RowKit Go.Dues
set_option maxRecDepth 100000 in
set_option maxHeartbeats 16000000 in
theorem lawSameScale_any (A0a : Option Addr) (n0a c0a : Nat) (x0a : Nat → Int) (A0b : Option Addr) (n0b c0b : Nat) (x0b : Nat → Int) (A1a : Option Addr) (n1a c1a : Nat) (x1a : Nat → Int) (A1b : Option Addr) (n1b c1b : Nat) (x1b : Nat → Int) (w : World) (hm0a : n0a ≤ maxLen) (hs0a : SL w A0a n0a (fun j => .int .i64 (x0a j))) (hm0b : n0b ≤ maxLen) (hs0b : SL w A0b n0b (fun j => .int .i64 (x0b j))) (hm1a : n1a ≤ maxLen) (hs1a : SL w A1a n1a (fun j => .int .i64 (x1a j))) (hm1b : n1b ≤ maxLen) (hs1b : SL w A1b n1b (fun j => .int .i64 (x1b j))) :
    Calls Try.prog 10 #[.agg #[.slice A0a n0a c0a, .slice A0b n0b c0b], .agg #[.slice A1a n1a c1a, .slice A1b n1b c1b]] w fun e w' => e = .returned (.bool true) ∧ Below w.heap.size w w' := by
  have HS0a := hide hs0a
  clear hs0a
  have HS0b := hide hs0b
  clear hs0b
  have HS1a := hide hs1a
  clear hs1a
  have HS1b := hide hs1b
  clear hs1b
  obtain ⟨w0, hw0⟩ : ∃ u, u = (w.alloc (.cells #[.slice A0a n0a c0a, .slice A0b n0b c0b] 24)).alloc (.cells #[.slice A1a n1a c1a, .slice A1b n1b c1b] 24) := ⟨_, rfl⟩
  have HB0 : Hid (Below w.heap.size w w0) := by rw [hw0]; exact ((Below.refl w.heap.size w).alloc (Nat.le_refl _) _).alloc (by simp) _
  have HX0_0 : Hid (w0.heap[w.heap.size]? = some (.cells #[.slice A0a n0a c0a, .slice A0b n0b c0b] 24)) := by rw [hw0]; exact (blocks2 w _ _).1
  have HX1_0 : Hid (w0.heap[w.heap.size + 1]? = some (.cells #[.slice A1a n1a c1a, .slice A1b n1b c1b] 24)) := by rw [hw0]; exact (blocks2 w _ _).2
  have hz0 : w.heap.size + 2 ≤ w0.heap.size := by rw [hw0]; simp
  have k00 := Joins.cell_of_block HX0_0.out 0
  simp at k00
  have k01 := Joins.cell_of_block HX0_0.out 1
  simp at k01
  have i00 := k00
  rw [hw0] at i00
  have i01 := k01
  rw [hw0] at i01
  have HW := hide hw0
  clear hw0
  go_enter Try.func10, Try.ntmps10
  go_wp2_with fail
  rw [← HW.out]
  clear HW i00 i01
  refine (szScale_any A0a A0b n0a c0a n0b c0b 1048576 w0 hm0a hm0b (by omega) (by omega)).mono ?_
  rintro e w1 ⟨q0, rfl, hq, hb⟩
  have HB1 := hide (HB0.out.trans (hb.mono HB0.out.size))
  have hs1 : w0.heap.size ≤ w1.heap.size := hb.size
  have HX0_1 := hide (blk_below hb (by omega) HX0_0.out)
  clear HX0_0
  have HX1_1 := hide (blk_below hb (by omega) HX1_0.out)
  clear HX1_0
  clear hb
  clear k00 k01
  rcases hq with ⟨hq00, hq01, hn0a, hn0b⟩ | rfl
  rotate_left
  · go_wp2
    go_ret
    exact ⟨rfl, HB1.out⟩
  have k10 := Joins.cell_of_block HX1_1.out 0
  simp at k10
  have k11 := Joins.cell_of_block HX1_1.out 1
  simp at k11
  go_wp2_with fail
  refine (szScale_any A1a A1b n1a c1a n1b c1b q0 w1 hm1a hm1b (by omega) (by omega)).mono ?_
  rintro e w2 ⟨q1, rfl, hq, hb⟩
  have HB2 := hide (HB1.out.trans (hb.mono HB1.out.size))
  have hs2 : w1.heap.size ≤ w2.heap.size := hb.size
  have HX0_2 := hide (blk_below hb (by omega) HX0_1.out)
  clear HX0_1
  have HX1_2 := hide (blk_below hb (by omega) HX1_1.out)
  clear HX1_1
  clear hb
  clear k10 k11
  rcases hq with ⟨hq10, hq11, hn1a, hn1b⟩ | rfl
  rotate_left
  · go_wp2
    go_ret
    exact ⟨rfl, HB2.out⟩
  have TK0 := True.intro
  have k00p := Joins.cell_of_block HX0_2.out 0
  simp at k00p
  have k01p := Joins.cell_of_block HX0_2.out 1
  simp at k01p
  have k10p := Joins.cell_of_block HX1_2.out 0
  simp at k10p
  have k11p := Joins.cell_of_block HX1_2.out 1
  simp at k11p
  have GS0a := hide (HS0a.out.below HB2.out)
  have GS0b := hide (HS0b.out.below HB2.out)
  have GS1a := hide (HS1a.out.below HB2.out)
  have GS1b := hide (HS1b.out.below HB2.out)
  go_wp2_with fail
  go_region_held3 (fun w' => w'.cell? ⟨w.heap.size, 0, none⟩ = some (.slice A0a n0a c0a) ∧ w'.cell? ⟨w.heap.size, 1, none⟩ = some (.slice A0b n0b c0b) ∧ w'.cell? ⟨w.heap.size + 1, 0, none⟩ = some (.slice A1a n1a c1a) ∧ w'.cell? ⟨w.heap.size + 1, 1, none⟩ = some (.slice A1b n1b c1b)) ((first | exact ⟨k00p, k01p, k10p, k11p⟩ | exact ⟨k00q, k01q, k10q, k11q⟩ | exact ⟨k00r, k01r, k10r, k11r⟩ | exact ⟨k00s, k01s, k10s, k11s⟩)) (first
    | (go_at_call 63; have tk1 := TK0; clear tk1; refine (toScaleW_any A0a A0b n0a c0a n0b c0b x0a x0b _ hn0a hn0b (by exact GS0a.out) (by exact GS0b.out)).mono ?_; rintro e w3 ⟨y0a, y0b, rfl, _, _, _, hb, hta, htb⟩; replace hb : Below w2.heap.size w2 w3 := ⟨hb.os, hb.tape, hb.output, hb.size, hb.block⟩; have hs3 : w2.heap.size ≤ w3.heap.size := hb.size; have HB3 := hide (HB2.out.trans (hb.mono HB2.out.size)); have HT0a3 := hide hta.sl; have HT0b3 := hide htb.sl; have HX0_3 := hide (blk_below hb (by omega) HX0_2.out); have HX1_3 := hide (blk_below hb (by omega) HX1_2.out); have GS1aq := hide (GS1a.out.below hb); have GS1bq := hide (GS1b.out.below hb); have k00q := Joins.cell_of_block HX0_3.out 0; simp at k00q; have k01q := Joins.cell_of_block HX0_3.out 1; simp at k01q; have k10q := Joins.cell_of_block HX1_3.out 0; simp at k10q; have k11q := Joins.cell_of_block HX1_3.out 1; simp at k11q; clear hb hta htb TK0)
    | (go_at_call 63; refine (toScaleW_any A1a A1b n1a c1a n1b c1b x1a x1b _ hn1a hn1b (by exact GS1aq.out) (by exact GS1bq.out)).mono ?_; rintro e w4 ⟨y1a, y1b, rfl, _, _, _, hb, hta, htb⟩; replace hb : Below w3.heap.size w3 w4 := ⟨hb.os, hb.tape, hb.output, hb.size, hb.block⟩; have hs4 : w3.heap.size ≤ w4.heap.size := hb.size; have HB4 := hide (HB3.out.trans (hb.mono HB3.out.size)); have HT1a4 := hide hta.sl; have HT1b4 := hide htb.sl; have HX0_4 := hide (blk_below hb (by omega) HX0_3.out); have HX1_4 := hide (blk_below hb (by omega) HX1_3.out); have HT0a4 := hide (HT0a3.out.below hb); have HT0b4 := hide (HT0b3.out.below hb); have k00r := Joins.cell_of_block HX0_4.out 0; simp at k00r; have k01r := Joins.cell_of_block HX0_4.out 1; simp at k01r; have k10r := Joins.cell_of_block HX1_4.out 0; simp at k10r; have k11r := Joins.cell_of_block HX1_4.out 1; simp at k11r; clear hb hta htb)
    | (go_at_call 62; refine (specSameSc_any _ n0a n0a x0a _ n0b n0b x0b _ n1a n1a x1a _ n1b n1b x1b _ hm0a hm0b hm1a hm1b (by exact HT0a4.out) (by exact HT0b4.out) (by exact HT1a4.out) (by exact HT1b4.out)).mono ?_; rintro e w5 ⟨rfl, hb⟩; replace hb : Below w4.heap.size w4 w5 := ⟨hb.os, hb.tape, hb.output, hb.size, hb.block⟩; have hs5 : w4.heap.size ≤ w5.heap.size := hb.size; have HB5 := hide (HB4.out.trans (hb.mono HB4.out.size)); have HX0_5 := hide (blk_below hb (by omega) HX0_4.out); have HX1_5 := hide (blk_below hb (by omega) HX1_4.out); have k00s := Joins.cell_of_block HX0_5.out 0; simp at k00s; have k01s := Joins.cell_of_block HX0_5.out 1; simp at k01s; have k10s := Joins.cell_of_block HX1_5.out 0; simp at k10s; have k11s := Joins.cell_of_block HX1_5.out 1; simp at k11s; clear hb))
  clear k00p k00q k00r k00s k01p k01q k01r k01s k10p k10q k10r k10s k11p k11q k11r k11s GS0a GS0b GS1a GS1b GS1aq GS1bq HT0a3 HT0a4 HT1a4 HT0b3 HT0b4 HT1b4 HX0_2 HX0_3 HX0_4 HX1_2 HX1_3 HX1_4
  have k00 := Joins.cell_of_block HX0_5.out 0
  simp at k00
  have k01 := Joins.cell_of_block HX0_5.out 1
  simp at k01
  go_wp2_with fail
  refine (toScaleW_any A0a A0b n0a c0a n0b c0b x0a x0b w5 hn0a hn0b (HS0a.out.below HB5.out) (HS0b.out.below HB5.out)).mono ?_
  rintro e w6 ⟨z0a, z0b, rfl, _, _, _, hb, hoa, hob⟩
  have HB6 := hide (HB5.out.trans (hb.mono HB5.out.size))
  have hs6 : w5.heap.size ≤ w6.heap.size := hb.size
  have HX0_6 := hide (blk_below hb (by omega) HX0_5.out)
  clear HX0_5
  have HX1_6 := hide (blk_below hb (by omega) HX1_5.out)
  clear HX1_5
  clear hb
  clear k00 k01
  have HOz0a_6 := hide hoa.sl
  clear hoa
  have HOz0b_6 := hide hob.sl
  clear hob
  obtain ⟨w7, hwe⟩ : ∃ u, u = w6.alloc (.cells #[.slice (some ⟨z0a, 0, none⟩) n0a n0a, .slice (some ⟨z0b, 0, none⟩) n0b n0b] 30) := ⟨_, rfl⟩
  have hb : Below w6.heap.size w6 w7 := by rw [hwe]; exact (Below.refl _ _).alloc (Nat.le_refl _) _
  have HN : Hid (w7.heap[w6.heap.size]? = some (.cells #[.slice (some ⟨z0a, 0, none⟩) n0a n0a, .slice (some ⟨z0b, 0, none⟩) n0b n0b] 30)) := by rw [hwe]; exact blocks1 w6 _
  have hn7 : w6.heap.size + 1 ≤ w7.heap.size := by rw [hwe]; simp
  have i10 := Joins.cell_of_block (blk_below hb (by omega) HX1_6.out) 0
  simp at i10
  rw [hwe] at i10
  have i11 := Joins.cell_of_block (blk_below hb (by omega) HX1_6.out) 1
  simp at i11
  rw [hwe] at i11
  have HB7 := hide (HB6.out.trans (hb.mono HB6.out.size))
  have hs7 : w6.heap.size ≤ w7.heap.size := hb.size
  have HX0_7 := hide (blk_below hb (by omega) HX0_6.out)
  clear HX0_6
  have HX1_7 := hide (blk_below hb (by omega) HX1_6.out)
  clear HX1_6
  have HOz0a_7 := hide (HOz0a_6.out.below hb)
  clear HOz0a_6
  have HOz0b_7 := hide (HOz0b_6.out.below hb)
  clear HOz0b_6
  clear hb
  have HXy0_7 := HN
  clear HN
  have k10 := Joins.cell_of_block HX1_7.out 0
  simp at k10
  have k11 := Joins.cell_of_block HX1_7.out 1
  simp at k11
  have HWE := hide hwe
  clear hwe
  go_wp2_with fail
  rw [← HWE.out]
  clear HWE i10 i11
  refine (toScaleW_any A1a A1b n1a c1a n1b c1b x1a x1b w7 hn1a hn1b (HS1a.out.below HB7.out) (HS1b.out.below HB7.out)).mono ?_
  rintro e w8 ⟨z1a, z1b, rfl, _, _, _, hb, hoa, hob⟩
  have HB8 := hide (HB7.out.trans (hb.mono HB7.out.size))
  have hs8 : w7.heap.size ≤ w8.heap.size := hb.size
  have HX0_8 := hide (blk_below hb (by omega) HX0_7.out)
  clear HX0_7
  have HX1_8 := hide (blk_below hb (by omega) HX1_7.out)
  clear HX1_7
  have HXy0_8 := hide (blk_below hb (by omega) HXy0_7.out)
  clear HXy0_7
  have HOz0a_8 := hide (HOz0a_7.out.below hb)
  clear HOz0a_7
  have HOz0b_8 := hide (HOz0b_7.out.below hb)
  clear HOz0b_7
  clear hb
  clear k10 k11
  have HOz1a_8 := hide hoa.sl
  clear hoa
  have HOz1b_8 := hide hob.sl
  clear hob
  obtain ⟨w9, hwe⟩ : ∃ u, u = w8.alloc (.cells #[.slice (some ⟨z1a, 0, none⟩) n1a n1a, .slice (some ⟨z1b, 0, none⟩) n1b n1b] 30) := ⟨_, rfl⟩
  have hb : Below w8.heap.size w8 w9 := by rw [hwe]; exact (Below.refl _ _).alloc (Nat.le_refl _) _
  have HN : Hid (w9.heap[w8.heap.size]? = some (.cells #[.slice (some ⟨z1a, 0, none⟩) n1a n1a, .slice (some ⟨z1b, 0, none⟩) n1b n1b] 30)) := by rw [hwe]; exact blocks1 w8 _
  have hn9 : w8.heap.size + 1 ≤ w9.heap.size := by rw [hwe]; simp
  have iy0 := Joins.cell_of_block (blk_below hb (by omega) HXy0_8.out) 0
  simp at iy0
  rw [hwe] at iy0
  have iy1 := Joins.cell_of_block (blk_below hb (by omega) HXy0_8.out) 1
  simp at iy1
  rw [hwe] at iy1
  have HB9 := hide (HB8.out.trans (hb.mono HB8.out.size))
  have hs9 : w8.heap.size ≤ w9.heap.size := hb.size
  have HX0_9 := hide (blk_below hb (by omega) HX0_8.out)
  clear HX0_8
  have HX1_9 := hide (blk_below hb (by omega) HX1_8.out)
  clear HX1_8
  have HXy0_9 := hide (blk_below hb (by omega) HXy0_8.out)
  clear HXy0_8
  have HOz0a_9 := hide (HOz0a_8.out.below hb)
  clear HOz0a_8
  have HOz0b_9 := hide (HOz0b_8.out.below hb)
  clear HOz0b_8
  have HOz1a_9 := hide (HOz1a_8.out.below hb)
  clear HOz1a_8
  have HOz1b_9 := hide (HOz1b_8.out.below hb)
  clear HOz1b_8
  clear hb
  have HXy1_9 := HN
  clear HN
  have HWE := hide hwe
  clear hwe
  go_wp2_with fail
  rw [← HWE.out]
  clear HWE iy0 iy1
  refine (implSameSc_any _ n0a n0a x0a _ n0b n0b x0b _ n1a n1a x1a _ n1b n1b x1b w9 hm0a hm0b hm1a hm1b HOz0a_9.out HOz0b_9.out HOz1a_9.out HOz1b_9.out).mono ?_
  rintro e w10 ⟨rfl, hb⟩
  have HB10 := hide (HB9.out.trans (hb.mono HB9.out.size))
  have hs10 : w9.heap.size ≤ w10.heap.size := hb.size
  have HX0_10 := hide (blk_below hb (by omega) HX0_9.out)
  clear HX0_9
  have HX1_10 := hide (blk_below hb (by omega) HX1_9.out)
  clear HX1_9
  have HXy0_10 := hide (blk_below hb (by omega) HXy0_9.out)
  clear HXy0_9
  have HXy1_10 := hide (blk_below hb (by omega) HXy1_9.out)
  clear HXy1_9
  have HOz0a_10 := hide (HOz0a_9.out.below hb)
  clear HOz0a_9
  have HOz0b_10 := hide (HOz0b_9.out.below hb)
  clear HOz0b_9
  have HOz1a_10 := hide (HOz1a_9.out.below hb)
  clear HOz1a_9
  have HOz1b_10 := hide (HOz1b_9.out.below hb)
  clear HOz1b_9
  clear hb
  have k00p := Joins.cell_of_block HX0_10.out 0
  simp at k00p
  have k01p := Joins.cell_of_block HX0_10.out 1
  simp at k01p
  have ky00p := Joins.cell_of_block HXy0_10.out 0
  simp at ky00p
  have ky01p := Joins.cell_of_block HXy0_10.out 1
  simp at ky01p
  have GSa := hide (HS0a.out.below HB10.out)
  have GSb := hide (HS0b.out.below HB10.out)
  go_wp2_with fail
  go_region_held3 (fun w' => w'.cell? ⟨w6.heap.size, 0, none⟩ = some (.slice (some ⟨z0a, 0, none⟩) n0a n0a) ∧ w'.cell? ⟨w6.heap.size, 1, none⟩ = some (.slice (some ⟨z0b, 0, none⟩) n0b n0b) ∧ w'.cell? ⟨w.heap.size, 0, none⟩ = some (.slice A0a n0a c0a) ∧ w'.cell? ⟨w.heap.size, 1, none⟩ = some (.slice A0b n0b c0b)) ((first | exact ⟨ky00p, ky01p, k00p, k01p⟩ | exact ⟨ky00q, ky01q, k00q, k01q⟩ | exact ⟨ky00r, ky01r, k00r, k01r⟩)) (first
    | (go_at_call 63; refine (toScaleW_any A0a A0b n0a c0a n0b c0b x0a x0b _ hn0a hn0b (by exact GSa.out) (by exact GSb.out)).mono ?_; rintro e w11 ⟨v0a, v0b, rfl, _, _, _, hb, hta, htb⟩; replace hb : Below w10.heap.size w10 w11 := ⟨hb.os, hb.tape, hb.output, hb.size, hb.block⟩; have hs11 : w10.heap.size ≤ w11.heap.size := hb.size; have HB11 := hide (HB10.out.trans (hb.mono HB10.out.size)); have HX0_11 := hide (blk_below hb (by omega) HX0_10.out); have HX1_11 := hide (blk_below hb (by omega) HX1_10.out); have HXy0_11 := hide (blk_below hb (by omega) HXy0_10.out); have HXy1_11 := hide (blk_below hb (by omega) HXy1_10.out); have HOz0a_11 := hide (HOz0a_10.out.below hb); have HOz0b_11 := hide (HOz0b_10.out.below hb); have HOz1a_11 := hide (HOz1a_10.out.below hb); have HOz1b_11 := hide (HOz1b_10.out.below hb); have HTa := hide hta.sl; have HTb := hide htb.sl; have k00q := Joins.cell_of_block HX0_11.out 0; simp at k00q; have k01q := Joins.cell_of_block HX0_11.out 1; simp at k01q; have ky00q := Joins.cell_of_block HXy0_11.out 0; simp at ky00q; have ky01q := Joins.cell_of_block HXy0_11.out 1; simp at ky01q; clear hb hta htb)
    | (go_at_call 49; refine (eqScale_any _ _ _ _ n0a n0a n0b n0b n0a n0b x0a x0b _ hm0a hm0b (by exact HOz0a_11.out) (by exact HOz0b_11.out) (by exact HTa.out) (by exact HTb.out)).mono ?_; rintro e w12 ⟨rfl, hb⟩; replace hb : Below w11.heap.size w11 w12 := ⟨hb.os, hb.tape, hb.output, hb.size, hb.block⟩; have hs12 : w11.heap.size ≤ w12.heap.size := hb.size; have HB12 := hide (HB11.out.trans (hb.mono HB11.out.size)); have HX0_12 := hide (blk_below hb (by omega) HX0_11.out); have HX1_12 := hide (blk_below hb (by omega) HX1_11.out); have HXy0_12 := hide (blk_below hb (by omega) HXy0_11.out); have HXy1_12 := hide (blk_below hb (by omega) HXy1_11.out); have HOz0a_12 := hide (HOz0a_11.out.below hb); have HOz0b_12 := hide (HOz0b_11.out.below hb); have HOz1a_12 := hide (HOz1a_11.out.below hb); have HOz1b_12 := hide (HOz1b_11.out.below hb); have k00r := Joins.cell_of_block HX0_12.out 0; simp at k00r; have k01r := Joins.cell_of_block HX0_12.out 1; simp at k01r; have ky00r := Joins.cell_of_block HXy0_12.out 0; simp at ky00r; have ky01r := Joins.cell_of_block HXy0_12.out 1; simp at ky01r; clear hb))
  clear k00p k00q k00r k01p k01q k01r ky00p ky00q ky00r ky01p ky01q ky01r GSa HTa GSb HTb HX0_10 HX0_11 HX1_10 HX1_11 HXy0_10 HXy0_11 HXy1_10 HXy1_11 HOz0a_10 HOz0a_11 HOz0b_10 HOz0b_11 HOz1a_10 HOz1a_11 HOz1b_10 HOz1b_11
  have k10p := Joins.cell_of_block HX1_12.out 0
  simp at k10p
  have k11p := Joins.cell_of_block HX1_12.out 1
  simp at k11p
  have ky10p := Joins.cell_of_block HXy1_12.out 0
  simp at ky10p
  have ky11p := Joins.cell_of_block HXy1_12.out 1
  simp at ky11p
  have GSa := hide (HS1a.out.below HB12.out)
  have GSb := hide (HS1b.out.below HB12.out)
  go_wp2_with fail
  go_region_held3 (fun w' => w'.cell? ⟨w8.heap.size, 0, none⟩ = some (.slice (some ⟨z1a, 0, none⟩) n1a n1a) ∧ w'.cell? ⟨w8.heap.size, 1, none⟩ = some (.slice (some ⟨z1b, 0, none⟩) n1b n1b) ∧ w'.cell? ⟨w.heap.size + 1, 0, none⟩ = some (.slice A1a n1a c1a) ∧ w'.cell? ⟨w.heap.size + 1, 1, none⟩ = some (.slice A1b n1b c1b)) ((first | exact ⟨ky10p, ky11p, k10p, k11p⟩ | exact ⟨ky10q, ky11q, k10q, k11q⟩ | exact ⟨ky10r, ky11r, k10r, k11r⟩)) (first
    | (go_at_call 63; refine (toScaleW_any A1a A1b n1a c1a n1b c1b x1a x1b _ hn1a hn1b (by exact GSa.out) (by exact GSb.out)).mono ?_; rintro e w13 ⟨v1a, v1b, rfl, _, _, _, hb, hta, htb⟩; replace hb : Below w12.heap.size w12 w13 := ⟨hb.os, hb.tape, hb.output, hb.size, hb.block⟩; have hs13 : w12.heap.size ≤ w13.heap.size := hb.size; have HB13 := hide (HB12.out.trans (hb.mono HB12.out.size)); have HX0_13 := hide (blk_below hb (by omega) HX0_12.out); have HX1_13 := hide (blk_below hb (by omega) HX1_12.out); have HXy0_13 := hide (blk_below hb (by omega) HXy0_12.out); have HXy1_13 := hide (blk_below hb (by omega) HXy1_12.out); have HOz0a_13 := hide (HOz0a_12.out.below hb); have HOz0b_13 := hide (HOz0b_12.out.below hb); have HOz1a_13 := hide (HOz1a_12.out.below hb); have HOz1b_13 := hide (HOz1b_12.out.below hb); have HTa := hide hta.sl; have HTb := hide htb.sl; have k10q := Joins.cell_of_block HX1_13.out 0; simp at k10q; have k11q := Joins.cell_of_block HX1_13.out 1; simp at k11q; have ky10q := Joins.cell_of_block HXy1_13.out 0; simp at ky10q; have ky11q := Joins.cell_of_block HXy1_13.out 1; simp at ky11q; clear hb hta htb)
    | (go_at_call 49; refine (eqScale_any _ _ _ _ n1a n1a n1b n1b n1a n1b x1a x1b _ hm1a hm1b (by exact HOz1a_13.out) (by exact HOz1b_13.out) (by exact HTa.out) (by exact HTb.out)).mono ?_; rintro e w14 ⟨rfl, hb⟩; replace hb : Below w13.heap.size w13 w14 := ⟨hb.os, hb.tape, hb.output, hb.size, hb.block⟩; have hs14 : w13.heap.size ≤ w14.heap.size := hb.size; have HB14 := hide (HB13.out.trans (hb.mono HB13.out.size)); have HX0_14 := hide (blk_below hb (by omega) HX0_13.out); have HX1_14 := hide (blk_below hb (by omega) HX1_13.out); have HXy0_14 := hide (blk_below hb (by omega) HXy0_13.out); have HXy1_14 := hide (blk_below hb (by omega) HXy1_13.out); have HOz0a_14 := hide (HOz0a_13.out.below hb); have HOz0b_14 := hide (HOz0b_13.out.below hb); have HOz1a_14 := hide (HOz1a_13.out.below hb); have HOz1b_14 := hide (HOz1b_13.out.below hb); have k10r := Joins.cell_of_block HX1_14.out 0; simp at k10r; have k11r := Joins.cell_of_block HX1_14.out 1; simp at k11r; have ky10r := Joins.cell_of_block HXy1_14.out 0; simp at ky10r; have ky11r := Joins.cell_of_block HXy1_14.out 1; simp at ky11r; clear hb))
  clear k10p k10q k10r k11p k11q k11r ky10p ky10q ky10r ky11p ky11q ky11r GSa HTa GSb HTb HX0_12 HX0_13 HX1_12 HX1_13 HXy0_12 HXy0_13 HXy1_12 HXy1_13 HOz0a_12 HOz0a_13 HOz0b_12 HOz0b_13 HOz1a_12 HOz1a_13 HOz1b_12 HOz1b_13
  go_wp2_with fail
  go_ret
  exact ⟨rfl, HB14.out⟩
end Go.Proofs.Ytbcajjpgpjadaaa
