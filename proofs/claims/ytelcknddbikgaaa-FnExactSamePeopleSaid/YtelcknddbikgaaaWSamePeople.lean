/- The law FnExactSamePeople, walked. -/
import Derived.Test.YtelcknddbikgaaaSq7
import Derived.Test.YtelcknddbikgaaaPl
import Derived.Test.YtelcknddbikgaaaRow
import Derived.Deep.RegionHeld3
namespace Go.Proofs.Ytelcknddbikgaaa
open Go.RowKit Go.Dues
set_option maxRecDepth 100000 in
set_option maxHeartbeats 8000000 in
theorem lawSamePeople_any (A0a : Option Addr) (n0a c0a : Nat) (x0a : Nat → Nat) (A0b : Option Addr) (n0b c0b : Nat) (x0b : Nat → Nat) (A0c : Option Addr) (n0c c0c : Nat) (x0c : Nat → Nat) (A1a : Option Addr) (n1a c1a : Nat) (x1a : Nat → Nat) (A1b : Option Addr) (n1b c1b : Nat) (x1b : Nat → Nat) (A1c : Option Addr) (n1c c1c : Nat) (x1c : Nat → Nat) (w : World) (hm0a : n0a ≤ maxLen) (hs0a : SL w A0a n0a (fun j => .float .f32 (x0a j))) (wx0a : ∀ j, j < n0a → (Lit.float .f32 (x0a j)).wf = true) (hm0b : n0b ≤ maxLen) (hs0b : SL w A0b n0b (fun j => .float .f32 (x0b j))) (wx0b : ∀ j, j < n0b → (Lit.float .f32 (x0b j)).wf = true) (hm0c : n0c ≤ maxLen) (hs0c : SL w A0c n0c (fun j => .float .f32 (x0c j))) (wx0c : ∀ j, j < n0c → (Lit.float .f32 (x0c j)).wf = true) (hm1a : n1a ≤ maxLen) (hs1a : SL w A1a n1a (fun j => .float .f32 (x1a j))) (wx1a : ∀ j, j < n1a → (Lit.float .f32 (x1a j)).wf = true) (hm1b : n1b ≤ maxLen) (hs1b : SL w A1b n1b (fun j => .float .f32 (x1b j))) (wx1b : ∀ j, j < n1b → (Lit.float .f32 (x1b j)).wf = true) (hm1c : n1c ≤ maxLen) (hs1c : SL w A1c n1c (fun j => .float .f32 (x1c j))) (wx1c : ∀ j, j < n1c → (Lit.float .f32 (x1c j)).wf = true) :
    Calls Try.prog 11 #[.agg #[.slice A0a n0a c0a, .slice A0b n0b c0b, .slice A0c n0c c0c], .agg #[.slice A1a n1a c1a, .slice A1b n1b c1b, .slice A1c n1c c1c]] w fun e w' => e = .returned (.bool true) ∧ Below w.heap.size w w' := by
  skip
  have HS0a := hide hs0a
  clear hs0a
  have HS0b := hide hs0b
  clear hs0b
  have HS0c := hide hs0c
  clear hs0c
  have HS1a := hide hs1a
  clear hs1a
  have HS1b := hide hs1b
  clear hs1b
  have HS1c := hide hs1c
  clear hs1c
  have WX0a := hide wx0a
  clear wx0a
  have WX0b := hide wx0b
  clear wx0b
  have WX0c := hide wx0c
  clear wx0c
  have WX1a := hide wx1a
  clear wx1a
  have WX1b := hide wx1b
  clear wx1b
  have WX1c := hide wx1c
  clear wx1c
  obtain ⟨w0, hw0⟩ : ∃ u, u = ((w.alloc (.cells #[.slice A0a n0a c0a, .slice A0b n0b c0b, .slice A0c n0c c0c] 37)).alloc (.cells #[.slice A1a n1a c1a, .slice A1b n1b c1b, .slice A1c n1c c1c] 37)) := ⟨_, rfl⟩
  have HB0 : Hid (Below w.heap.size w w0) := by rw [hw0]; exact (((Below.refl w.heap.size w).alloc (Nat.le_refl _) (.cells #[.slice A0a n0a c0a, .slice A0b n0b c0b, .slice A0c n0c c0c] 37)).alloc (by simp) (.cells #[.slice A1a n1a c1a, .slice A1b n1b c1b, .slice A1c n1c c1c] 37))
  have HXa0_0 : Hid (w0.heap[w.heap.size]? = some (.cells #[.slice A0a n0a c0a, .slice A0b n0b c0b, .slice A0c n0c c0c] 37)) := by rw [hw0]; exact (blocks2 w _ _).1
  have HXa1_0 : Hid (w0.heap[w.heap.size + 1]? = some (.cells #[.slice A1a n1a c1a, .slice A1b n1b c1b, .slice A1c n1c c1c] 37)) := by rw [hw0]; exact (blocks2 w _ _).2
  have hs0 : w.heap.size + 2 ≤ w0.heap.size := by rw [hw0]; simp
  have HW := hide hw0
  clear hw0
  go_enter Try.func11, Try.ntmps11
  have ka0_0 := Joins.cell_of_block HXa0_0.out 0
  simp at ka0_0
  have ka0_1 := Joins.cell_of_block HXa0_0.out 1
  simp at ka0_1
  have ka0_2 := Joins.cell_of_block HXa0_0.out 2
  simp at ka0_2
  have ia0_0 := ka0_0
  rw [HW.out] at ia0_0
  have ia0_1 := ka0_1
  rw [HW.out] at ia0_1
  have ia0_2 := ka0_2
  rw [HW.out] at ia0_2
  go_wp2_with fail
  rw [← HW.out]
  clear HW
  clear ia0_0 ia0_1 ia0_2
  refine (szPpl_any A0a n0a c0a A0b n0b c0b A0c n0c c0c 1048576 _ hm0a hm0b hm0c (by omega) (by omega)).mono ?_
  rintro e w1 ⟨m0, rfl, hm, hb⟩
  have HB1 := hide (HB0.out.trans (hb.mono HB0.out.size))
  have hs1 : w0.heap.size ≤ w1.heap.size := hb.size
  have HXa0_1 := hide (blk_below hb (by omega) HXa0_0.out)
  clear HXa0_0
  have HXa1_1 := hide (blk_below hb (by omega) HXa1_0.out)
  clear HXa1_0
  clear hb
  clear ka0_0 ka0_1 ka0_2
  rcases hm with ⟨hl0, hu0, hn0a, hn0b, hn0c⟩ | rfl
  rotate_left
  · go_wp2
    go_ret
    exact ⟨rfl, HB1.out⟩
  have ka1_0 := Joins.cell_of_block HXa1_1.out 0
  simp at ka1_0
  have ka1_1 := Joins.cell_of_block HXa1_1.out 1
  simp at ka1_1
  have ka1_2 := Joins.cell_of_block HXa1_1.out 2
  simp at ka1_2
  go_wp2_with fail
  refine (szPpl_any A1a n1a c1a A1b n1b c1b A1c n1c c1c m0 _ hm1a hm1b hm1c (by omega) (by omega)).mono ?_
  rintro e w2 ⟨m1, rfl, hm, hb⟩
  have HB2 := hide (HB1.out.trans (hb.mono HB1.out.size))
  have hs2 : w1.heap.size ≤ w2.heap.size := hb.size
  have HXa0_2 := hide (blk_below hb (by omega) HXa0_1.out)
  clear HXa0_1
  have HXa1_2 := hide (blk_below hb (by omega) HXa1_1.out)
  clear HXa1_1
  clear hb
  clear ka1_0 ka1_1 ka1_2
  rcases hm with ⟨hl1, hu1, hn1a, hn1b, hn1c⟩ | rfl
  rotate_left
  · go_wp2
    go_ret
    exact ⟨rfl, HB2.out⟩
  have TK0 := True.intro
  have ka0p := Joins.cell_of_block HXa0_2.out 0
  have kb0p := Joins.cell_of_block HXa1_2.out 0
  simp at ka0p kb0p
  have ka1p := Joins.cell_of_block HXa0_2.out 1
  have kb1p := Joins.cell_of_block HXa1_2.out 1
  simp at ka1p kb1p
  have ka2p := Joins.cell_of_block HXa0_2.out 2
  have kb2p := Joins.cell_of_block HXa1_2.out 2
  simp at ka2p kb2p
  have GS0a := hide (HS0a.out.below HB2.out)
  have GS0b := hide (HS0b.out.below HB2.out)
  have GS0c := hide (HS0c.out.below HB2.out)
  have GS1a := hide (HS1a.out.below HB2.out)
  have GS1b := hide (HS1b.out.below HB2.out)
  have GS1c := hide (HS1c.out.below HB2.out)
  go_wp2_with fail
  go_region_held3 (fun w' => w'.cell? ⟨w.heap.size, 0, none⟩ = some (.slice A0a n0a c0a) ∧ w'.cell? ⟨w.heap.size, 1, none⟩ = some (.slice A0b n0b c0b) ∧ w'.cell? ⟨w.heap.size, 2, none⟩ = some (.slice A0c n0c c0c) ∧ w'.cell? ⟨w.heap.size + 1, 0, none⟩ = some (.slice A1a n1a c1a) ∧ w'.cell? ⟨w.heap.size + 1, 1, none⟩ = some (.slice A1b n1b c1b) ∧ w'.cell? ⟨w.heap.size + 1, 2, none⟩ = some (.slice A1c n1c c1c)) ((first | exact ⟨ka0p, ka1p, ka2p, kb0p, kb1p, kb2p⟩ | exact ⟨ka0q, ka1q, ka2q, kb0q, kb1q, kb2q⟩ | exact ⟨ka0r, ka1r, ka2r, kb0r, kb1r, kb2r⟩ | exact ⟨ka0s, ka1s, ka2s, kb0s, kb1s, kb2s⟩)) (first
    | (go_at_call 35; have tk1 := TK0; clear tk1; refine (toPplW_any A0a n0a c0a x0a A0b n0b c0b x0b A0c n0c c0c x0c _ hn0a (by exact GS0a.out) hn0b (by exact GS0b.out) hn0c (by exact GS0c.out)).mono ?_; rintro e w3 ⟨_, _, _, _, _, _, _, _, _, rfl, ht1, ht2, ht3, _, _, _, _, _, _, _, hb⟩; replace hb : Below w2.heap.size w2 w3 := ⟨hb.os, hb.tape, hb.output, hb.size, hb.block⟩; have hs3 : w2.heap.size ≤ w3.heap.size := hb.size; have HB3 := hide (HB2.out.trans (hb.mono HB2.out.size)); have HT0a3 := hide ht1.sl; have HT0b3 := hide ht2.sl; have HT0c3 := hide ht3.sl; have HXa0_3 := hide (blk_below hb (by omega) HXa0_2.out); have HXa1_3 := hide (blk_below hb (by omega) HXa1_2.out); have GS1aq := hide (GS1a.out.below hb); have GS1bq := hide (GS1b.out.below hb); have GS1cq := hide (GS1c.out.below hb); have ka0q := Joins.cell_of_block HXa0_3.out 0; have kb0q := Joins.cell_of_block HXa1_3.out 0; simp at ka0q kb0q; have ka1q := Joins.cell_of_block HXa0_3.out 1; have kb1q := Joins.cell_of_block HXa1_3.out 1; simp at ka1q kb1q; have ka2q := Joins.cell_of_block HXa0_3.out 2; have kb2q := Joins.cell_of_block HXa1_3.out 2; simp at ka2q kb2q; clear hb ht1 ht2 ht3 TK0)
    | (go_at_call 35; refine (toPplW_any A1a n1a c1a x1a A1b n1b c1b x1b A1c n1c c1c x1c _ hn1a (by exact GS1aq.out) hn1b (by exact GS1bq.out) hn1c (by exact GS1cq.out)).mono ?_; rintro e w4 ⟨_, _, _, _, _, _, _, _, _, rfl, ht1, ht2, ht3, _, _, _, _, _, _, _, hb⟩; replace hb : Below w3.heap.size w3 w4 := ⟨hb.os, hb.tape, hb.output, hb.size, hb.block⟩; have hs4 : w3.heap.size ≤ w4.heap.size := hb.size; have HB4 := hide (HB3.out.trans (hb.mono HB3.out.size)); have HT1a4 := hide ht1.sl; have HT1b4 := hide ht2.sl; have HT1c4 := hide ht3.sl; have HXa0_4 := hide (blk_below hb (by omega) HXa0_3.out); have HXa1_4 := hide (blk_below hb (by omega) HXa1_3.out); have HT0a4 := hide (HT0a3.out.below hb); have HT0b4 := hide (HT0b3.out.below hb); have HT0c4 := hide (HT0c3.out.below hb); have ka0r := Joins.cell_of_block HXa0_4.out 0; have kb0r := Joins.cell_of_block HXa1_4.out 0; simp at ka0r kb0r; have ka1r := Joins.cell_of_block HXa0_4.out 1; have kb1r := Joins.cell_of_block HXa1_4.out 1; simp at ka1r kb1r; have ka2r := Joins.cell_of_block HXa0_4.out 2; have kb2r := Joins.cell_of_block HXa1_4.out 2; simp at ka2r kb2r; clear hb ht1 ht2 ht3)
    | (go_at_call 38; refine (specSamePpl_any _ n0a n0a x0a _ n0b n0b x0b _ n0c n0c x0c _ n1a n1a x1a _ n1b n1b x1b _ n1c n1c x1c _ hm0a (by exact HT0a4.out) WX0a.out hm0b (by exact HT0b4.out) WX0b.out hm0c (by exact HT0c4.out) WX0c.out hm1a (by exact HT1a4.out) WX1a.out hm1b (by exact HT1b4.out) WX1b.out hm1c (by exact HT1c4.out) WX1c.out).mono ?_; rintro e w5 ⟨rfl, hb⟩; replace hb : Below w4.heap.size w4 w5 := ⟨hb.os, hb.tape, hb.output, hb.size, hb.block⟩; have hs5 : w4.heap.size ≤ w5.heap.size := hb.size; have HB5 := hide (HB4.out.trans (hb.mono HB4.out.size)); have HXa0_5 := hide (blk_below hb (by omega) HXa0_4.out); have HXa1_5 := hide (blk_below hb (by omega) HXa1_4.out); have ka0s := Joins.cell_of_block HXa0_5.out 0; have kb0s := Joins.cell_of_block HXa1_5.out 0; simp at ka0s kb0s; have ka1s := Joins.cell_of_block HXa0_5.out 1; have kb1s := Joins.cell_of_block HXa1_5.out 1; simp at ka1s kb1s; have ka2s := Joins.cell_of_block HXa0_5.out 2; have kb2s := Joins.cell_of_block HXa1_5.out 2; simp at ka2s kb2s; clear hb))
  clear ka0p kb0p ka0q kb0q ka0r kb0r ka0s kb0s ka1p kb1p ka1q kb1q ka1r kb1r ka1s kb1s ka2p kb2p ka2q kb2q ka2r kb2r ka2s kb2s GS0a GS0b GS0c GS1a GS1b GS1c GS1aq GS1bq GS1cq HT0a3 HT0a4 HT1a4 HT0b3 HT0b4 HT1b4 HT0c3 HT0c4 HT1c4
  clear HXa0_2 HXa0_3 HXa0_4 HXa1_2 HXa1_3 HXa1_4
  have ka0_0 := Joins.cell_of_block HXa0_5.out 0
  simp at ka0_0
  have ka0_1 := Joins.cell_of_block HXa0_5.out 1
  simp at ka0_1
  have ka0_2 := Joins.cell_of_block HXa0_5.out 2
  simp at ka0_2
  go_wp2_with fail
  refine (toPplW_any A0a n0a c0a x0a A0b n0b c0b x0b A0c n0c c0c x0c _ hn0a (HS0a.out.below HB5.out) hn0b (HS0b.out.below HB5.out) hn0c (HS0c.out.below HB5.out)).mono ?_
  rintro e w6 ⟨gx0_a, gx0_b, gx0_c, lx0_a, ux0_a, lx0_b, ux0_b, lx0_c, ux0_c, rfl, ho1, ho2, ho3, e1x0_, e2x0_, e3x0_, e4x0_, e5x0_, e6x0_, e7x0_, hb⟩
  have HNa := hide ho1
  have HNb := hide ho2
  have HNc := hide ho3
  clear ho1 ho2 ho3
  have HB6 := hide (HB5.out.trans (hb.mono HB5.out.size))
  have hs6 : w5.heap.size ≤ w6.heap.size := hb.size
  have HXa0_6 := hide (blk_below hb (by omega) HXa0_5.out)
  clear HXa0_5
  have HXa1_6 := hide (blk_below hb (by omega) HXa1_5.out)
  clear HXa1_5
  clear hb
  have HOx0_a_6 := HNa
  clear HNa
  have HOx0_b_6 := HNb
  clear HNb
  have HOx0_c_6 := HNc
  clear HNc
  clear ka0_0 ka0_1 ka0_2
  obtain ⟨w7, hwe⟩ : ∃ u, u = w6.alloc (.cells #[.slice (some ⟨gx0_a, 0, none⟩) n0a n0a, .slice (some ⟨gx0_b, 0, none⟩) n0b n0b, .slice (some ⟨gx0_c, 0, none⟩) n0c n0c] 40) := ⟨_, rfl⟩
  have hb : Below w6.heap.size w6 w7 := by rw [hwe]; exact (Below.refl _ _).alloc (Nat.le_refl _) _
  have HXx0_7 : Hid (w7.heap[w6.heap.size]? = some (.cells #[.slice (some ⟨gx0_a, 0, none⟩) n0a n0a, .slice (some ⟨gx0_b, 0, none⟩) n0b n0b, .slice (some ⟨gx0_c, 0, none⟩) n0c n0c] 40)) := by rw [hwe]; exact blocks1 w6 _
  have hsb7 : w6.heap.size + 1 ≤ w7.heap.size := by rw [hwe]; simp
  have HW := hide hwe
  clear hwe
  have HB7 := hide (HB6.out.trans (hb.mono HB6.out.size))
  have hs7 : w6.heap.size ≤ w7.heap.size := hb.size
  have HXa0_7 := hide (blk_below hb (by omega) HXa0_6.out)
  clear HXa0_6
  have HXa1_7 := hide (blk_below hb (by omega) HXa1_6.out)
  clear HXa1_6
  have HOx0_a_7 := hide (HOx0_a_6.out.below hb)
  clear HOx0_a_6
  have HOx0_b_7 := hide (HOx0_b_6.out.below hb)
  clear HOx0_b_6
  have HOx0_c_7 := hide (HOx0_c_6.out.below hb)
  clear HOx0_c_6
  clear hb
  have ka1_0 := Joins.cell_of_block HXa1_7.out 0
  simp at ka1_0
  have ka1_1 := Joins.cell_of_block HXa1_7.out 1
  simp at ka1_1
  have ka1_2 := Joins.cell_of_block HXa1_7.out 2
  simp at ka1_2
  have ia1_0 := ka1_0
  rw [HW.out] at ia1_0
  have ia1_1 := ka1_1
  rw [HW.out] at ia1_1
  have ia1_2 := ka1_2
  rw [HW.out] at ia1_2
  go_wp2_with fail
  rw [← HW.out]
  clear HW
  clear ia1_0 ia1_1 ia1_2
  refine (toPplW_any A1a n1a c1a x1a A1b n1b c1b x1b A1c n1c c1c x1c _ hn1a (HS1a.out.below HB7.out) hn1b (HS1b.out.below HB7.out) hn1c (HS1c.out.below HB7.out)).mono ?_
  rintro e w8 ⟨gx1_a, gx1_b, gx1_c, lx1_a, ux1_a, lx1_b, ux1_b, lx1_c, ux1_c, rfl, ho1, ho2, ho3, e1x1_, e2x1_, e3x1_, e4x1_, e5x1_, e6x1_, e7x1_, hb⟩
  have HNa := hide ho1
  have HNb := hide ho2
  have HNc := hide ho3
  clear ho1 ho2 ho3
  have HB8 := hide (HB7.out.trans (hb.mono HB7.out.size))
  have hs8 : w7.heap.size ≤ w8.heap.size := hb.size
  have HXa0_8 := hide (blk_below hb (by omega) HXa0_7.out)
  clear HXa0_7
  have HXa1_8 := hide (blk_below hb (by omega) HXa1_7.out)
  clear HXa1_7
  have HXx0_8 := hide (blk_below hb (by omega) HXx0_7.out)
  clear HXx0_7
  have HOx0_a_8 := hide (HOx0_a_7.out.below hb)
  clear HOx0_a_7
  have HOx0_b_8 := hide (HOx0_b_7.out.below hb)
  clear HOx0_b_7
  have HOx0_c_8 := hide (HOx0_c_7.out.below hb)
  clear HOx0_c_7
  clear hb
  have HOx1_a_8 := HNa
  clear HNa
  have HOx1_b_8 := HNb
  clear HNb
  have HOx1_c_8 := HNc
  clear HNc
  clear ka1_0 ka1_1 ka1_2
  obtain ⟨w9, hwe⟩ : ∃ u, u = w8.alloc (.cells #[.slice (some ⟨gx1_a, 0, none⟩) n1a n1a, .slice (some ⟨gx1_b, 0, none⟩) n1b n1b, .slice (some ⟨gx1_c, 0, none⟩) n1c n1c] 40) := ⟨_, rfl⟩
  have hb : Below w8.heap.size w8 w9 := by rw [hwe]; exact (Below.refl _ _).alloc (Nat.le_refl _) _
  have HXx1_9 : Hid (w9.heap[w8.heap.size]? = some (.cells #[.slice (some ⟨gx1_a, 0, none⟩) n1a n1a, .slice (some ⟨gx1_b, 0, none⟩) n1b n1b, .slice (some ⟨gx1_c, 0, none⟩) n1c n1c] 40)) := by rw [hwe]; exact blocks1 w8 _
  have hsb9 : w8.heap.size + 1 ≤ w9.heap.size := by rw [hwe]; simp
  have HW := hide hwe
  clear hwe
  have HB9 := hide (HB8.out.trans (hb.mono HB8.out.size))
  have hs9 : w8.heap.size ≤ w9.heap.size := hb.size
  have HXa0_9 := hide (blk_below hb (by omega) HXa0_8.out)
  clear HXa0_8
  have HXa1_9 := hide (blk_below hb (by omega) HXa1_8.out)
  clear HXa1_8
  have HXx0_9 := hide (blk_below hb (by omega) HXx0_8.out)
  clear HXx0_8
  have HOx0_a_9 := hide (HOx0_a_8.out.below hb)
  clear HOx0_a_8
  have HOx0_b_9 := hide (HOx0_b_8.out.below hb)
  clear HOx0_b_8
  have HOx0_c_9 := hide (HOx0_c_8.out.below hb)
  clear HOx0_c_8
  have HOx1_a_9 := hide (HOx1_a_8.out.below hb)
  clear HOx1_a_8
  have HOx1_b_9 := hide (HOx1_b_8.out.below hb)
  clear HOx1_b_8
  have HOx1_c_9 := hide (HOx1_c_8.out.below hb)
  clear HOx1_c_8
  clear hb
  have kx0_0 := Joins.cell_of_block HXx0_9.out 0
  simp at kx0_0
  have kx0_1 := Joins.cell_of_block HXx0_9.out 1
  simp at kx0_1
  have kx0_2 := Joins.cell_of_block HXx0_9.out 2
  simp at kx0_2
  have ix0_0 := kx0_0
  rw [HW.out] at ix0_0
  have ix0_1 := kx0_1
  rw [HW.out] at ix0_1
  have ix0_2 := kx0_2
  rw [HW.out] at ix0_2
  have kx1_0 := Joins.cell_of_block HXx1_9.out 0
  simp at kx1_0
  have kx1_1 := Joins.cell_of_block HXx1_9.out 1
  simp at kx1_1
  have kx1_2 := Joins.cell_of_block HXx1_9.out 2
  simp at kx1_2
  have ix1_0 := kx1_0
  rw [HW.out] at ix1_0
  have ix1_1 := kx1_1
  rw [HW.out] at ix1_1
  have ix1_2 := kx1_2
  rw [HW.out] at ix1_2
  go_wp2_with fail
  rw [← HW.out]
  clear HW
  clear ix0_0 ix0_1 ix0_2 ix1_0 ix1_1 ix1_2
  refine (implSamePpl_any _ n0a n0a x0a _ n0b n0b x0b _ n0c n0c x0c _ n1a n1a x1a _ n1b n1b x1b _ n1c n1c x1c w9 hm0a HOx0_a_9.out.sl WX0a.out hm0b HOx0_b_9.out.sl WX0b.out hm0c HOx0_c_9.out.sl WX0c.out hm1a HOx1_a_9.out.sl WX1a.out hm1b HOx1_b_9.out.sl WX1b.out hm1c HOx1_c_9.out.sl WX1c.out).mono ?_
  rintro e w10 ⟨rfl, hb⟩
  have HB10 := hide (HB9.out.trans (hb.mono HB9.out.size))
  have hs10 : w9.heap.size ≤ w10.heap.size := hb.size
  have HXa0_10 := hide (blk_below hb (by omega) HXa0_9.out)
  clear HXa0_9
  have HXa1_10 := hide (blk_below hb (by omega) HXa1_9.out)
  clear HXa1_9
  have HXx0_10 := hide (blk_below hb (by omega) HXx0_9.out)
  clear HXx0_9
  have HXx1_10 := hide (blk_below hb (by omega) HXx1_9.out)
  clear HXx1_9
  have HOx0_a_10 := hide (HOx0_a_9.out.below hb)
  clear HOx0_a_9
  have HOx0_b_10 := hide (HOx0_b_9.out.below hb)
  clear HOx0_b_9
  have HOx0_c_10 := hide (HOx0_c_9.out.below hb)
  clear HOx0_c_9
  have HOx1_a_10 := hide (HOx1_a_9.out.below hb)
  clear HOx1_a_9
  have HOx1_b_10 := hide (HOx1_b_9.out.below hb)
  clear HOx1_b_9
  have HOx1_c_10 := hide (HOx1_c_9.out.below hb)
  clear HOx1_c_9
  clear hb
  clear kx0_0 kx0_1 kx0_2 kx1_0 kx1_1 kx1_2
  have ka0p := Joins.cell_of_block HXa0_10.out 0
  have kx0p := Joins.cell_of_block HXx0_10.out 0
  simp at ka0p kx0p
  have ka1p := Joins.cell_of_block HXa0_10.out 1
  have kx1p := Joins.cell_of_block HXx0_10.out 1
  simp at ka1p kx1p
  have ka2p := Joins.cell_of_block HXa0_10.out 2
  have kx2p := Joins.cell_of_block HXx0_10.out 2
  simp at ka2p kx2p
  have GSa := hide (HS0a.out.below HB10.out)
  have GSb := hide (HS0b.out.below HB10.out)
  have GSc := hide (HS0c.out.below HB10.out)
  go_wp2_with fail
  go_region_held3 (fun w' => w'.cell? ⟨w6.heap.size, 0, none⟩ = some (.slice (some ⟨gx0_a, 0, none⟩) n0a n0a) ∧ w'.cell? ⟨w6.heap.size, 1, none⟩ = some (.slice (some ⟨gx0_b, 0, none⟩) n0b n0b) ∧ w'.cell? ⟨w6.heap.size, 2, none⟩ = some (.slice (some ⟨gx0_c, 0, none⟩) n0c n0c) ∧ w'.cell? ⟨w.heap.size, 0, none⟩ = some (.slice A0a n0a c0a) ∧ w'.cell? ⟨w.heap.size, 1, none⟩ = some (.slice A0b n0b c0b) ∧ w'.cell? ⟨w.heap.size, 2, none⟩ = some (.slice A0c n0c c0c)) ((first | exact ⟨kx0p, kx1p, kx2p, ka0p, ka1p, ka2p⟩ | exact ⟨kx0q, kx1q, kx2q, ka0q, ka1q, ka2q⟩ | exact ⟨kx0r, kx1r, kx2r, ka0r, ka1r, ka2r⟩)) (first
    | (go_at_call 35; refine (toPplW_any A0a n0a c0a x0a A0b n0b c0b x0b A0c n0c c0c x0c _ hn0a (by exact GSa.out) hn0b (by exact GSb.out) hn0c (by exact GSc.out)).mono ?_; rintro e w11 ⟨_, _, _, _, _, _, _, _, _, rfl, ht1, ht2, ht3, _, _, _, _, _, _, _, hb⟩; replace hb : Below w10.heap.size w10 w11 := ⟨hb.os, hb.tape, hb.output, hb.size, hb.block⟩; have hs11 : w10.heap.size ≤ w11.heap.size := hb.size; have HB11 := hide (HB10.out.trans (hb.mono HB10.out.size)); have HT1 := hide ht1.sl; have HT2 := hide ht2.sl; have HT3 := hide ht3.sl; have HXa0_11 := hide (blk_below hb (by omega) HXa0_10.out); have HXa1_11 := hide (blk_below hb (by omega) HXa1_10.out); have HXx0_11 := hide (blk_below hb (by omega) HXx0_10.out); have HXx1_11 := hide (blk_below hb (by omega) HXx1_10.out); have HOx0_a_11 := hide (HOx0_a_10.out.below hb); have HOx0_b_11 := hide (HOx0_b_10.out.below hb); have HOx0_c_11 := hide (HOx0_c_10.out.below hb); have HOx1_a_11 := hide (HOx1_a_10.out.below hb); have HOx1_b_11 := hide (HOx1_b_10.out.below hb); have HOx1_c_11 := hide (HOx1_c_10.out.below hb); have ka0q := Joins.cell_of_block HXa0_11.out 0; have kx0q := Joins.cell_of_block HXx0_11.out 0; simp at ka0q kx0q; have ka1q := Joins.cell_of_block HXa0_11.out 1; have kx1q := Joins.cell_of_block HXx0_11.out 1; simp at ka1q kx1q; have ka2q := Joins.cell_of_block HXa0_11.out 2; have kx2q := Joins.cell_of_block HXx0_11.out 2; simp at ka2q kx2q; clear hb ht1 ht2 ht3)
    | (go_at_call 37; refine (eqPpl_any _ _ n0a n0a n0a x0a x0a _ _ n0b n0b n0b x0b x0b _ _ n0c n0c n0c x0c x0c _ hm0a (by exact HOx0_a_11.out.sl) (by exact HT1.out) (fun _ _ => FS.refl _ _) hm0b (by exact HOx0_b_11.out.sl) (by exact HT2.out) (fun _ _ => FS.refl _ _) hm0c (by exact HOx0_c_11.out.sl) (by exact HT3.out) (fun _ _ => FS.refl _ _)).mono ?_; rintro e w12 ⟨rfl, hb⟩; replace hb : Below w11.heap.size w11 w12 := ⟨hb.os, hb.tape, hb.output, hb.size, hb.block⟩; have hs12 : w11.heap.size ≤ w12.heap.size := hb.size; have HB12 := hide (HB11.out.trans (hb.mono HB11.out.size)); have HXa0_12 := hide (blk_below hb (by omega) HXa0_11.out); have HXa1_12 := hide (blk_below hb (by omega) HXa1_11.out); have HXx0_12 := hide (blk_below hb (by omega) HXx0_11.out); have HXx1_12 := hide (blk_below hb (by omega) HXx1_11.out); have HOx0_a_12 := hide (HOx0_a_11.out.below hb); have HOx0_b_12 := hide (HOx0_b_11.out.below hb); have HOx0_c_12 := hide (HOx0_c_11.out.below hb); have HOx1_a_12 := hide (HOx1_a_11.out.below hb); have HOx1_b_12 := hide (HOx1_b_11.out.below hb); have HOx1_c_12 := hide (HOx1_c_11.out.below hb); have ka0r := Joins.cell_of_block HXa0_12.out 0; have kx0r := Joins.cell_of_block HXx0_12.out 0; simp at ka0r kx0r; have ka1r := Joins.cell_of_block HXa0_12.out 1; have kx1r := Joins.cell_of_block HXx0_12.out 1; simp at ka1r kx1r; have ka2r := Joins.cell_of_block HXa0_12.out 2; have kx2r := Joins.cell_of_block HXx0_12.out 2; simp at ka2r kx2r; clear hb))
  clear kx0p ka0p kx0q ka0q kx0r ka0r kx1p ka1p kx1q ka1q kx1r ka1r kx2p ka2p kx2q ka2q kx2r ka2r GSa GSb GSc HT1 HT2 HT3
  clear HXa0_10 HXa0_11 HXa1_10 HXa1_11 HXx0_10 HXx0_11 HXx1_10 HXx1_11 HOx0_a_10 HOx0_a_11 HOx0_b_10 HOx0_b_11 HOx0_c_10 HOx0_c_11 HOx1_a_10 HOx1_a_11 HOx1_b_10 HOx1_b_11 HOx1_c_10 HOx1_c_11
  have ka0p := Joins.cell_of_block HXa1_12.out 0
  have kx0p := Joins.cell_of_block HXx1_12.out 0
  simp at ka0p kx0p
  have ka1p := Joins.cell_of_block HXa1_12.out 1
  have kx1p := Joins.cell_of_block HXx1_12.out 1
  simp at ka1p kx1p
  have ka2p := Joins.cell_of_block HXa1_12.out 2
  have kx2p := Joins.cell_of_block HXx1_12.out 2
  simp at ka2p kx2p
  have GSa := hide (HS1a.out.below HB12.out)
  have GSb := hide (HS1b.out.below HB12.out)
  have GSc := hide (HS1c.out.below HB12.out)
  go_wp2_with fail
  go_region_held3 (fun w' => w'.cell? ⟨w8.heap.size, 0, none⟩ = some (.slice (some ⟨gx1_a, 0, none⟩) n1a n1a) ∧ w'.cell? ⟨w8.heap.size, 1, none⟩ = some (.slice (some ⟨gx1_b, 0, none⟩) n1b n1b) ∧ w'.cell? ⟨w8.heap.size, 2, none⟩ = some (.slice (some ⟨gx1_c, 0, none⟩) n1c n1c) ∧ w'.cell? ⟨w.heap.size + 1, 0, none⟩ = some (.slice A1a n1a c1a) ∧ w'.cell? ⟨w.heap.size + 1, 1, none⟩ = some (.slice A1b n1b c1b) ∧ w'.cell? ⟨w.heap.size + 1, 2, none⟩ = some (.slice A1c n1c c1c)) ((first | exact ⟨kx0p, kx1p, kx2p, ka0p, ka1p, ka2p⟩ | exact ⟨kx0q, kx1q, kx2q, ka0q, ka1q, ka2q⟩ | exact ⟨kx0r, kx1r, kx2r, ka0r, ka1r, ka2r⟩)) (first
    | (go_at_call 35; refine (toPplW_any A1a n1a c1a x1a A1b n1b c1b x1b A1c n1c c1c x1c _ hn1a (by exact GSa.out) hn1b (by exact GSb.out) hn1c (by exact GSc.out)).mono ?_; rintro e w13 ⟨_, _, _, _, _, _, _, _, _, rfl, ht1, ht2, ht3, _, _, _, _, _, _, _, hb⟩; replace hb : Below w12.heap.size w12 w13 := ⟨hb.os, hb.tape, hb.output, hb.size, hb.block⟩; have hs13 : w12.heap.size ≤ w13.heap.size := hb.size; have HB13 := hide (HB12.out.trans (hb.mono HB12.out.size)); have HT1 := hide ht1.sl; have HT2 := hide ht2.sl; have HT3 := hide ht3.sl; have HXa0_13 := hide (blk_below hb (by omega) HXa0_12.out); have HXa1_13 := hide (blk_below hb (by omega) HXa1_12.out); have HXx0_13 := hide (blk_below hb (by omega) HXx0_12.out); have HXx1_13 := hide (blk_below hb (by omega) HXx1_12.out); have HOx0_a_13 := hide (HOx0_a_12.out.below hb); have HOx0_b_13 := hide (HOx0_b_12.out.below hb); have HOx0_c_13 := hide (HOx0_c_12.out.below hb); have HOx1_a_13 := hide (HOx1_a_12.out.below hb); have HOx1_b_13 := hide (HOx1_b_12.out.below hb); have HOx1_c_13 := hide (HOx1_c_12.out.below hb); have ka0q := Joins.cell_of_block HXa1_13.out 0; have kx0q := Joins.cell_of_block HXx1_13.out 0; simp at ka0q kx0q; have ka1q := Joins.cell_of_block HXa1_13.out 1; have kx1q := Joins.cell_of_block HXx1_13.out 1; simp at ka1q kx1q; have ka2q := Joins.cell_of_block HXa1_13.out 2; have kx2q := Joins.cell_of_block HXx1_13.out 2; simp at ka2q kx2q; clear hb ht1 ht2 ht3)
    | (go_at_call 37; refine (eqPpl_any _ _ n1a n1a n1a x1a x1a _ _ n1b n1b n1b x1b x1b _ _ n1c n1c n1c x1c x1c _ hm1a (by exact HOx1_a_13.out.sl) (by exact HT1.out) (fun _ _ => FS.refl _ _) hm1b (by exact HOx1_b_13.out.sl) (by exact HT2.out) (fun _ _ => FS.refl _ _) hm1c (by exact HOx1_c_13.out.sl) (by exact HT3.out) (fun _ _ => FS.refl _ _)).mono ?_; rintro e w14 ⟨rfl, hb⟩; replace hb : Below w13.heap.size w13 w14 := ⟨hb.os, hb.tape, hb.output, hb.size, hb.block⟩; have hs14 : w13.heap.size ≤ w14.heap.size := hb.size; have HB14 := hide (HB13.out.trans (hb.mono HB13.out.size)); have HXa0_14 := hide (blk_below hb (by omega) HXa0_13.out); have HXa1_14 := hide (blk_below hb (by omega) HXa1_13.out); have HXx0_14 := hide (blk_below hb (by omega) HXx0_13.out); have HXx1_14 := hide (blk_below hb (by omega) HXx1_13.out); have HOx0_a_14 := hide (HOx0_a_13.out.below hb); have HOx0_b_14 := hide (HOx0_b_13.out.below hb); have HOx0_c_14 := hide (HOx0_c_13.out.below hb); have HOx1_a_14 := hide (HOx1_a_13.out.below hb); have HOx1_b_14 := hide (HOx1_b_13.out.below hb); have HOx1_c_14 := hide (HOx1_c_13.out.below hb); have ka0r := Joins.cell_of_block HXa1_14.out 0; have kx0r := Joins.cell_of_block HXx1_14.out 0; simp at ka0r kx0r; have ka1r := Joins.cell_of_block HXa1_14.out 1; have kx1r := Joins.cell_of_block HXx1_14.out 1; simp at ka1r kx1r; have ka2r := Joins.cell_of_block HXa1_14.out 2; have kx2r := Joins.cell_of_block HXx1_14.out 2; simp at ka2r kx2r; clear hb))
  clear kx0p ka0p kx0q ka0q kx0r ka0r kx1p ka1p kx1q ka1q kx1r ka1r kx2p ka2p kx2q ka2q kx2r ka2r GSa GSb GSc HT1 HT2 HT3
  clear HXa0_12 HXa0_13 HXa1_12 HXa1_13 HXx0_12 HXx0_13 HXx1_12 HXx1_13 HOx0_a_12 HOx0_a_13 HOx0_b_12 HOx0_b_13 HOx0_c_12 HOx0_c_13 HOx1_a_12 HOx1_a_13 HOx1_b_12 HOx1_b_13 HOx1_c_12 HOx1_c_13
  go_wp2_with fail
  go_ret
  exact ⟨rfl, HB14.out⟩
end Go.Proofs.Ytelcknddbikgaaa
