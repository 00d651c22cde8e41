/- The law FnExactSameDesk, walked. -/
import Derived.Test.YtbcajjpgpjadaaaSd8
import Derived.Test.YtbcajjpgpjadaaaDk
import Derived.Test.YtbcajjpgpjadaaaRow
import Derived.Deep.RegionHeld3
namespace Go.Proofs.Ytbcajjpgpjadaaa
open Go.RowKit Go.Dues
set_option maxRecDepth 100000 in
set_option maxHeartbeats 16000000 in
theorem lawSameDesk_any (A0a : Option Addr) (n0a c0a : Nat) (x0a : Nat → Int) (A0b : Option Addr) (n0b c0b : Nat) (x0b : Nat → Int) (A0c : Option Addr) (n0c c0c : Nat) (x0c : Nat → Int) (A0d : Option Addr) (n0d c0d : Nat) (x0d : Nat → Int) (A0e : Option Addr) (n0e c0e : Nat) (x0e : Nat → Nat) (A1a : Option Addr) (n1a c1a : Nat) (x1a : Nat → Int) (A1b : Option Addr) (n1b c1b : Nat) (x1b : Nat → Int) (A1c : Option Addr) (n1c c1c : Nat) (x1c : Nat → Int) (A1d : Option Addr) (n1d c1d : Nat) (x1d : Nat → Int) (A1e : Option Addr) (n1e c1e : Nat) (x1e : Nat → Nat) (w : World) (hm0a : n0a ≤ maxLen) (hs0a : SL w A0a n0a (fun j => .int .i64 (x0a j))) (hm0b : n0b ≤ maxLen) (hs0b : SL w A0b n0b (fun j => .int .i64 (x0b j))) (hm0c : n0c ≤ maxLen) (hs0c : SL w A0c n0c (fun j => .int .i64 (x0c j))) (hm0d : n0d ≤ maxLen) (hs0d : SL w A0d n0d (fun j => .int .i64 (x0d j))) (hm0e : n0e ≤ maxLen) (hs0e : SL w A0e n0e (fun j => .float .f32 (x0e j))) (hm1a : n1a ≤ maxLen) (hs1a : SL w A1a n1a (fun j => .int .i64 (x1a j))) (hm1b : n1b ≤ maxLen) (hs1b : SL w A1b n1b (fun j => .int .i64 (x1b j))) (hm1c : n1c ≤ maxLen) (hs1c : SL w A1c n1c (fun j => .int .i64 (x1c j))) (hm1d : n1d ≤ maxLen) (hs1d : SL w A1d n1d (fun j => .int .i64 (x1d j))) (hm1e : n1e ≤ maxLen) (hs1e : SL w A1e n1e (fun j => .float .f32 (x1e j))) (wx0 : ∀ j, j < n0e → (Lit.float .f32 (x0e j)).wf = true) (wx1 : ∀ j, j < n1e → (Lit.float .f32 (x1e j)).wf = true) :
    Calls Try.prog 13 #[.agg #[.slice A0a n0a c0a, .slice A0b n0b c0b, .slice A0c n0c c0c, .slice A0d n0d c0d, .slice A0e n0e c0e], .agg #[.slice A1a n1a c1a, .slice A1b n1b c1b, .slice A1c n1c c1c, .slice A1d n1d c1d, .slice A1e n1e c1e]] w fun e w' => e = .returned (.bool true) ∧ Below w.heap.size w w' := by
  have WX0 := hide wx0
  have WX1 := hide wx1
  clear wx0 wx1
  have HS0a := hide hs0a
  clear hs0a
  have HS0b := hide hs0b
  clear hs0b
  have HS0c := hide hs0c
  clear hs0c
  have HS0d := hide hs0d
  clear hs0d
  have HS0e := hide hs0e
  clear hs0e
  have HS1a := hide hs1a
  clear hs1a
  have HS1b := hide hs1b
  clear hs1b
  have HS1c := hide hs1c
  clear hs1c
  have HS1d := hide hs1d
  clear hs1d
  have HS1e := hide hs1e
  clear hs1e
  obtain ⟨w0, hw0⟩ : ∃ u, u = (w.alloc (.cells #[.slice A0a n0a c0a, .slice A0b n0b c0b, .slice A0c n0c c0c, .slice A0d n0d c0d, .slice A0e n0e c0e] 27)).alloc (.cells #[.slice A1a n1a c1a, .slice A1b n1b c1b, .slice A1c n1c c1c, .slice A1d n1d c1d, .slice A1e n1e c1e] 27) := ⟨_, rfl⟩
  have HB0 : Hid (Below w.heap.size w w0) := by rw [hw0]; exact ((Below.refl w.heap.size w).alloc (Nat.le_refl _) _).alloc (by simp) _
  have HX0_0 : Hid (w0.heap[w.heap.size]? = some (.cells #[.slice A0a n0a c0a, .slice A0b n0b c0b, .slice A0c n0c c0c, .slice A0d n0d c0d, .slice A0e n0e c0e] 27)) := by rw [hw0]; exact (blocks2 w _ _).1
  have HX1_0 : Hid (w0.heap[w.heap.size + 1]? = some (.cells #[.slice A1a n1a c1a, .slice A1b n1b c1b, .slice A1c n1c c1c, .slice A1d n1d c1d, .slice A1e n1e c1e] 27)) := by rw [hw0]; exact (blocks2 w _ _).2
  have hz0 : w.heap.size + 2 ≤ w0.heap.size := by rw [hw0]; simp
  have k00 := Joins.cell_of_block HX0_0.out 0
  simp at k00
  have k01 := Joins.cell_of_block HX0_0.out 1
  simp at k01
  have k02 := Joins.cell_of_block HX0_0.out 2
  simp at k02
  have k03 := Joins.cell_of_block HX0_0.out 3
  simp at k03
  have k04 := Joins.cell_of_block HX0_0.out 4
  simp at k04
  have i00 := k00
  rw [hw0] at i00
  have i01 := k01
  rw [hw0] at i01
  have i02 := k02
  rw [hw0] at i02
  have i03 := k03
  rw [hw0] at i03
  have i04 := k04
  rw [hw0] at i04
  have HW := hide hw0
  clear hw0
  go_enter Try.func13, Try.ntmps13
  go_wp2_with fail
  rw [← HW.out]
  clear HW i00 i01 i02 i03 i04
  refine (szDesk_any A0a n0a c0a A0b n0b c0b A0c n0c c0c A0d n0d c0d A0e n0e c0e 1048576 w0 hm0a hm0b hm0c hm0d hm0e (by omega) (by omega)).mono ?_
  rintro e w1 ⟨q0, rfl, hq, hb⟩
  have HB1 := hide (HB0.out.trans (hb.mono HB0.out.size))
  have hs1 : w0.heap.size ≤ w1.heap.size := hb.size
  have HX0_1 := hide (blk_below hb (by omega) HX0_0.out)
  clear HX0_0
  have HX1_1 := hide (blk_below hb (by omega) HX1_0.out)
  clear HX1_0
  clear hb
  clear k00 k01 k02 k03 k04
  rcases hq with ⟨hq00, hq01, hn0a, hn0b, hn0c, hn0d, hn0e⟩ | rfl
  rotate_left
  · go_wp2
    go_ret
    exact ⟨rfl, HB1.out⟩
  have k10 := Joins.cell_of_block HX1_1.out 0
  simp at k10
  have k11 := Joins.cell_of_block HX1_1.out 1
  simp at k11
  have k12 := Joins.cell_of_block HX1_1.out 2
  simp at k12
  have k13 := Joins.cell_of_block HX1_1.out 3
  simp at k13
  have k14 := Joins.cell_of_block HX1_1.out 4
  simp at k14
  go_wp2_with fail
  refine (szDesk_any A1a n1a c1a A1b n1b c1b A1c n1c c1c A1d n1d c1d A1e n1e c1e q0 w1 hm1a hm1b hm1c hm1d hm1e (by omega) (by omega)).mono ?_
  rintro e w2 ⟨q1, rfl, hq, hb⟩
  have HB2 := hide (HB1.out.trans (hb.mono HB1.out.size))
  have hs2 : w1.heap.size ≤ w2.heap.size := hb.size
  have HX0_2 := hide (blk_below hb (by omega) HX0_1.out)
  clear HX0_1
  have HX1_2 := hide (blk_below hb (by omega) HX1_1.out)
  clear HX1_1
  clear hb
  clear k10 k11 k12 k13 k14
  rcases hq with ⟨hq10, hq11, hn1a, hn1b, hn1c, hn1d, hn1e⟩ | rfl
  rotate_left
  · go_wp2
    go_ret
    exact ⟨rfl, HB2.out⟩
  have TK0 := True.intro
  have k00p := Joins.cell_of_block HX0_2.out 0
  simp at k00p
  have k01p := Joins.cell_of_block HX0_2.out 1
  simp at k01p
  have k02p := Joins.cell_of_block HX0_2.out 2
  simp at k02p
  have k03p := Joins.cell_of_block HX0_2.out 3
  simp at k03p
  have k04p := Joins.cell_of_block HX0_2.out 4
  simp at k04p
  have k10p := Joins.cell_of_block HX1_2.out 0
  simp at k10p
  have k11p := Joins.cell_of_block HX1_2.out 1
  simp at k11p
  have k12p := Joins.cell_of_block HX1_2.out 2
  simp at k12p
  have k13p := Joins.cell_of_block HX1_2.out 3
  simp at k13p
  have k14p := Joins.cell_of_block HX1_2.out 4
  simp at k14p
  have GS0a := hide (HS0a.out.below HB2.out)
  have GS0b := hide (HS0b.out.below HB2.out)
  have GS0c := hide (HS0c.out.below HB2.out)
  have GS0d := hide (HS0d.out.below HB2.out)
  have GS0e := hide (HS0e.out.below HB2.out)
  have GS1a := hide (HS1a.out.below HB2.out)
  have GS1b := hide (HS1b.out.below HB2.out)
  have GS1c := hide (HS1c.out.below HB2.out)
  have GS1d := hide (HS1d.out.below HB2.out)
  have GS1e := hide (HS1e.out.below HB2.out)
  go_wp2_with fail
  go_region_held3 (fun w' => w'.cell? ⟨w.heap.size, 0, none⟩ = some (.slice A0a n0a c0a) ∧ w'.cell? ⟨w.heap.size, 1, none⟩ = some (.slice A0b n0b c0b) ∧ w'.cell? ⟨w.heap.size, 2, none⟩ = some (.slice A0c n0c c0c) ∧ w'.cell? ⟨w.heap.size, 3, none⟩ = some (.slice A0d n0d c0d) ∧ w'.cell? ⟨w.heap.size, 4, none⟩ = some (.slice A0e n0e c0e) ∧ w'.cell? ⟨w.heap.size + 1, 0, none⟩ = some (.slice A1a n1a c1a) ∧ w'.cell? ⟨w.heap.size + 1, 1, none⟩ = some (.slice A1b n1b c1b) ∧ w'.cell? ⟨w.heap.size + 1, 2, none⟩ = some (.slice A1c n1c c1c) ∧ w'.cell? ⟨w.heap.size + 1, 3, none⟩ = some (.slice A1d n1d c1d) ∧ w'.cell? ⟨w.heap.size + 1, 4, none⟩ = some (.slice A1e n1e c1e)) ((first | exact ⟨k00p, k01p, k02p, k03p, k04p, k10p, k11p, k12p, k13p, k14p⟩ | exact ⟨k00q, k01q, k02q, k03q, k04q, k10q, k11q, k12q, k13q, k14q⟩ | exact ⟨k00r, k01r, k02r, k03r, k04r, k10r, k11r, k12r, k13r, k14r⟩ | exact ⟨k00s, k01s, k02s, k03s, k04s, k10s, k11s, k12s, k13s, k14s⟩)) (first
    | (go_at_call 17; have tk1 := TK0; clear tk1; refine (toDeskW_any A0a n0a c0a x0a A0b n0b c0b x0b A0c n0c c0c x0c A0d n0d c0d x0d A0e n0e c0e x0e _ hn0a (by exact GS0a.out) hn0b (by exact GS0b.out) hn0c (by exact GS0c.out) hn0d (by exact GS0d.out) hn0e (by exact GS0e.out)).mono ?_; rintro e w3 ⟨y0a, y0b, y0c, y0d, y0e, _, _, _, _, _, _, _, _, _, _, rfl, hta, htb, htc, htd, hte, _, _, _, _, _, _, _, _, _, _, _, hb⟩; replace hb : Below w2.heap.size w2 w3 := ⟨hb.os, hb.tape, hb.output, hb.size, hb.block⟩; have hs3 : w2.heap.size ≤ w3.heap.size := hb.size; have HB3 := hide (HB2.out.trans (hb.mono HB2.out.size)); have HT0a3 := hide hta.sl; have HT0b3 := hide htb.sl; have HT0c3 := hide htc.sl; have HT0d3 := hide htd.sl; have HT0e3 := hide hte.sl; have HX0_3 := hide (blk_below hb (by omega) HX0_2.out); have HX1_3 := hide (blk_below hb (by omega) HX1_2.out); have GS1aq := hide (GS1a.out.below hb); have GS1bq := hide (GS1b.out.below hb); have GS1cq := hide (GS1c.out.below hb); have GS1dq := hide (GS1d.out.below hb); have GS1eq := hide (GS1e.out.below hb); have k00q := Joins.cell_of_block HX0_3.out 0; simp at k00q; have k01q := Joins.cell_of_block HX0_3.out 1; simp at k01q; have k02q := Joins.cell_of_block HX0_3.out 2; simp at k02q; have k03q := Joins.cell_of_block HX0_3.out 3; simp at k03q; have k04q := Joins.cell_of_block HX0_3.out 4; simp at k04q; have k10q := Joins.cell_of_block HX1_3.out 0; simp at k10q; have k11q := Joins.cell_of_block HX1_3.out 1; simp at k11q; have k12q := Joins.cell_of_block HX1_3.out 2; simp at k12q; have k13q := Joins.cell_of_block HX1_3.out 3; simp at k13q; have k14q := Joins.cell_of_block HX1_3.out 4; simp at k14q; clear hb hta htb htc htd hte TK0)
    | (go_at_call 17; refine (toDeskW_any A1a n1a c1a x1a A1b n1b c1b x1b A1c n1c c1c x1c A1d n1d c1d x1d A1e n1e c1e x1e _ hn1a (by exact GS1aq.out) hn1b (by exact GS1bq.out) hn1c (by exact GS1cq.out) hn1d (by exact GS1dq.out) hn1e (by exact GS1eq.out)).mono ?_; rintro e w4 ⟨y1a, y1b, y1c, y1d, y1e, _, _, _, _, _, _, _, _, _, _, rfl, hta, htb, htc, htd, hte, _, _, _, _, _, _, _, _, _, _, _, hb⟩; replace hb : Below w3.heap.size w3 w4 := ⟨hb.os, hb.tape, hb.output, hb.size, hb.block⟩; have hs4 : w3.heap.size ≤ w4.heap.size := hb.size; have HB4 := hide (HB3.out.trans (hb.mono HB3.out.size)); have HT1a4 := hide hta.sl; have HT1b4 := hide htb.sl; have HT1c4 := hide htc.sl; have HT1d4 := hide htd.sl; have HT1e4 := hide hte.sl; have HX0_4 := hide (blk_below hb (by omega) HX0_3.out); have HX1_4 := hide (blk_below hb (by omega) HX1_3.out); have HT0a4 := hide (HT0a3.out.below hb); have HT0b4 := hide (HT0b3.out.below hb); have HT0c4 := hide (HT0c3.out.below hb); have HT0d4 := hide (HT0d3.out.below hb); have HT0e4 := hide (HT0e3.out.below hb); have k00r := Joins.cell_of_block HX0_4.out 0; simp at k00r; have k01r := Joins.cell_of_block HX0_4.out 1; simp at k01r; have k02r := Joins.cell_of_block HX0_4.out 2; simp at k02r; have k03r := Joins.cell_of_block HX0_4.out 3; simp at k03r; have k04r := Joins.cell_of_block HX0_4.out 4; simp at k04r; have k10r := Joins.cell_of_block HX1_4.out 0; simp at k10r; have k11r := Joins.cell_of_block HX1_4.out 1; simp at k11r; have k12r := Joins.cell_of_block HX1_4.out 2; simp at k12r; have k13r := Joins.cell_of_block HX1_4.out 3; simp at k13r; have k14r := Joins.cell_of_block HX1_4.out 4; simp at k14r; clear hb hta htb htc htd hte)
    | (go_at_call 74; refine (specSameDk_any _ n0a n0a x0a _ n0b n0b x0b _ n0c n0c x0c _ n0d n0d x0d _ n0e n0e x0e _ n1a n1a x1a _ n1b n1b x1b _ n1c n1c x1c _ n1d n1d x1d _ n1e n1e x1e _ hm0a hm0b hm0c hm0d hm0e hm1a hm1b hm1c hm1d hm1e (by exact HT0a4.out) (by exact HT0b4.out) (by exact HT0c4.out) (by exact HT0d4.out) (by exact HT0e4.out) (by exact HT1a4.out) (by exact HT1b4.out) (by exact HT1c4.out) (by exact HT1d4.out) (by exact HT1e4.out) WX0.out WX1.out).mono ?_; rintro e w5 ⟨rfl, hb⟩; replace hb : Below w4.heap.size w4 w5 := ⟨hb.os, hb.tape, hb.output, hb.size, hb.block⟩; have hs5 : w4.heap.size ≤ w5.heap.size := hb.size; have HB5 := hide (HB4.out.trans (hb.mono HB4.out.size)); have HX0_5 := hide (blk_below hb (by omega) HX0_4.out); have HX1_5 := hide (blk_below hb (by omega) HX1_4.out); have k00s := Joins.cell_of_block HX0_5.out 0; simp at k00s; have k01s := Joins.cell_of_block HX0_5.out 1; simp at k01s; have k02s := Joins.cell_of_block HX0_5.out 2; simp at k02s; have k03s := Joins.cell_of_block HX0_5.out 3; simp at k03s; have k04s := Joins.cell_of_block HX0_5.out 4; simp at k04s; have k10s := Joins.cell_of_block HX1_5.out 0; simp at k10s; have k11s := Joins.cell_of_block HX1_5.out 1; simp at k11s; have k12s := Joins.cell_of_block HX1_5.out 2; simp at k12s; have k13s := Joins.cell_of_block HX1_5.out 3; simp at k13s; have k14s := Joins.cell_of_block HX1_5.out 4; simp at k14s; clear hb))
  clear k00p k00q k00r k00s k01p k01q k01r k01s k02p k02q k02r k02s k03p k03q k03r k03s k04p k04q k04r k04s k10p k10q k10r k10s k11p k11q k11r k11s k12p k12q k12r k12s k13p k13q k13r k13s k14p k14q k14r k14s GS0a GS0b GS0c GS0d GS0e GS1a GS1b GS1c GS1d GS1e GS1aq GS1bq GS1cq GS1dq GS1eq HT0a3 HT0a4 HT1a4 HT0b3 HT0b4 HT1b4 HT0c3 HT0c4 HT1c4 HT0d3 HT0d4 HT1d4 HT0e3 HT0e4 HT1e4 HX0_2 HX0_3 HX0_4 HX1_2 HX1_3 HX1_4
  have k00 := Joins.cell_of_block HX0_5.out 0
  simp at k00
  have k01 := Joins.cell_of_block HX0_5.out 1
  simp at k01
  have k02 := Joins.cell_of_block HX0_5.out 2
  simp at k02
  have k03 := Joins.cell_of_block HX0_5.out 3
  simp at k03
  have k04 := Joins.cell_of_block HX0_5.out 4
  simp at k04
  go_wp2_with fail
  refine (toDeskW_any A0a n0a c0a x0a A0b n0b c0b x0b A0c n0c c0c x0c A0d n0d c0d x0d A0e n0e c0e x0e w5 hn0a (HS0a.out.below HB5.out) hn0b (HS0b.out.below HB5.out) hn0c (HS0c.out.below HB5.out) hn0d (HS0d.out.below HB5.out) hn0e (HS0e.out.below HB5.out)).mono ?_
  rintro e w6 ⟨z0a, z0b, z0c, z0d, z0e, _, _, _, _, _, _, _, _, _, _, rfl, hoa, hob, hoc, hod, hoe, _, _, _, _, _, _, _, _, _, _, _, hb⟩
  have HB6 := hide (HB5.out.trans (hb.mono HB5.out.size))
  have hs6 : w5.heap.size ≤ w6.heap.size := hb.size
  have HX0_6 := hide (blk_below hb (by omega) HX0_5.out)
  clear HX0_5
  have HX1_6 := hide (blk_below hb (by omega) HX1_5.out)
  clear HX1_5
  clear hb
  clear k00 k01 k02 k03 k04
  have HOz0a_6 := hide hoa.sl
  clear hoa
  have HOz0b_6 := hide hob.sl
  clear hob
  have HOz0c_6 := hide hoc.sl
  clear hoc
  have HOz0d_6 := hide hod.sl
  clear hod
  have HOz0e_6 := hide hoe.sl
  clear hoe
  obtain ⟨w7, hwe⟩ : ∃ u, u = w6.alloc (.cells #[.slice (some ⟨z0a, 0, none⟩) n0a n0a, .slice (some ⟨z0b, 0, none⟩) n0b n0b, .slice (some ⟨z0c, 0, none⟩) n0c n0c, .slice (some ⟨z0d, 0, none⟩) n0d n0d, .slice (some ⟨z0e, 0, none⟩) n0e n0e] 32) := ⟨_, rfl⟩
  have hb : Below w6.heap.size w6 w7 := by rw [hwe]; exact (Below.refl _ _).alloc (Nat.le_refl _) _
  have HN : Hid (w7.heap[w6.heap.size]? = some (.cells #[.slice (some ⟨z0a, 0, none⟩) n0a n0a, .slice (some ⟨z0b, 0, none⟩) n0b n0b, .slice (some ⟨z0c, 0, none⟩) n0c n0c, .slice (some ⟨z0d, 0, none⟩) n0d n0d, .slice (some ⟨z0e, 0, none⟩) n0e n0e] 32)) := by rw [hwe]; exact blocks1 w6 _
  have hn7 : w6.heap.size + 1 ≤ w7.heap.size := by rw [hwe]; simp
  have i10 := Joins.cell_of_block (blk_below hb (by omega) HX1_6.out) 0
  simp at i10
  rw [hwe] at i10
  have i11 := Joins.cell_of_block (blk_below hb (by omega) HX1_6.out) 1
  simp at i11
  rw [hwe] at i11
  have i12 := Joins.cell_of_block (blk_below hb (by omega) HX1_6.out) 2
  simp at i12
  rw [hwe] at i12
  have i13 := Joins.cell_of_block (blk_below hb (by omega) HX1_6.out) 3
  simp at i13
  rw [hwe] at i13
  have i14 := Joins.cell_of_block (blk_below hb (by omega) HX1_6.out) 4
  simp at i14
  rw [hwe] at i14
  have HB7 := hide (HB6.out.trans (hb.mono HB6.out.size))
  have hs7 : w6.heap.size ≤ w7.heap.size := hb.size
  have HX0_7 := hide (blk_below hb (by omega) HX0_6.out)
  clear HX0_6
  have HX1_7 := hide (blk_below hb (by omega) HX1_6.out)
  clear HX1_6
  have HOz0a_7 := hide (HOz0a_6.out.below hb)
  clear HOz0a_6
  have HOz0b_7 := hide (HOz0b_6.out.below hb)
  clear HOz0b_6
  have HOz0c_7 := hide (HOz0c_6.out.below hb)
  clear HOz0c_6
  have HOz0d_7 := hide (HOz0d_6.out.below hb)
  clear HOz0d_6
  have HOz0e_7 := hide (HOz0e_6.out.below hb)
  clear HOz0e_6
  clear hb
  have HXy0_7 := HN
  clear HN
  have k10 := Joins.cell_of_block HX1_7.out 0
  simp at k10
  have k11 := Joins.cell_of_block HX1_7.out 1
  simp at k11
  have k12 := Joins.cell_of_block HX1_7.out 2
  simp at k12
  have k13 := Joins.cell_of_block HX1_7.out 3
  simp at k13
  have k14 := Joins.cell_of_block HX1_7.out 4
  simp at k14
  have HWE := hide hwe
  clear hwe
  go_wp2_with fail
  rw [← HWE.out]
  clear HWE i10 i11 i12 i13 i14
  refine (toDeskW_any A1a n1a c1a x1a A1b n1b c1b x1b A1c n1c c1c x1c A1d n1d c1d x1d A1e n1e c1e x1e w7 hn1a (HS1a.out.below HB7.out) hn1b (HS1b.out.below HB7.out) hn1c (HS1c.out.below HB7.out) hn1d (HS1d.out.below HB7.out) hn1e (HS1e.out.below HB7.out)).mono ?_
  rintro e w8 ⟨z1a, z1b, z1c, z1d, z1e, _, _, _, _, _, _, _, _, _, _, rfl, hoa, hob, hoc, hod, hoe, _, _, _, _, _, _, _, _, _, _, _, hb⟩
  have HB8 := hide (HB7.out.trans (hb.mono HB7.out.size))
  have hs8 : w7.heap.size ≤ w8.heap.size := hb.size
  have HX0_8 := hide (blk_below hb (by omega) HX0_7.out)
  clear HX0_7
  have HX1_8 := hide (blk_below hb (by omega) HX1_7.out)
  clear HX1_7
  have HXy0_8 := hide (blk_below hb (by omega) HXy0_7.out)
  clear HXy0_7
  have HOz0a_8 := hide (HOz0a_7.out.below hb)
  clear HOz0a_7
  have HOz0b_8 := hide (HOz0b_7.out.below hb)
  clear HOz0b_7
  have HOz0c_8 := hide (HOz0c_7.out.below hb)
  clear HOz0c_7
  have HOz0d_8 := hide (HOz0d_7.out.below hb)
  clear HOz0d_7
  have HOz0e_8 := hide (HOz0e_7.out.below hb)
  clear HOz0e_7
  clear hb
  clear k10 k11 k12 k13 k14
  have HOz1a_8 := hide hoa.sl
  clear hoa
  have HOz1b_8 := hide hob.sl
  clear hob
  have HOz1c_8 := hide hoc.sl
  clear hoc
  have HOz1d_8 := hide hod.sl
  clear hod
  have HOz1e_8 := hide hoe.sl
  clear hoe
  obtain ⟨w9, hwe⟩ : ∃ u, u = w8.alloc (.cells #[.slice (some ⟨z1a, 0, none⟩) n1a n1a, .slice (some ⟨z1b, 0, none⟩) n1b n1b, .slice (some ⟨z1c, 0, none⟩) n1c n1c, .slice (some ⟨z1d, 0, none⟩) n1d n1d, .slice (some ⟨z1e, 0, none⟩) n1e n1e] 32) := ⟨_, rfl⟩
  have hb : Below w8.heap.size w8 w9 := by rw [hwe]; exact (Below.refl _ _).alloc (Nat.le_refl _) _
  have HN : Hid (w9.heap[w8.heap.size]? = some (.cells #[.slice (some ⟨z1a, 0, none⟩) n1a n1a, .slice (some ⟨z1b, 0, none⟩) n1b n1b, .slice (some ⟨z1c, 0, none⟩) n1c n1c, .slice (some ⟨z1d, 0, none⟩) n1d n1d, .slice (some ⟨z1e, 0, none⟩) n1e n1e] 32)) := by rw [hwe]; exact blocks1 w8 _
  have hn9 : w8.heap.size + 1 ≤ w9.heap.size := by rw [hwe]; simp
  have iy0 := Joins.cell_of_block (blk_below hb (by omega) HXy0_8.out) 0
  simp at iy0
  rw [hwe] at iy0
  have iy1 := Joins.cell_of_block (blk_below hb (by omega) HXy0_8.out) 1
  simp at iy1
  rw [hwe] at iy1
  have iy2 := Joins.cell_of_block (blk_below hb (by omega) HXy0_8.out) 2
  simp at iy2
  rw [hwe] at iy2
  have iy3 := Joins.cell_of_block (blk_below hb (by omega) HXy0_8.out) 3
  simp at iy3
  rw [hwe] at iy3
  have iy4 := Joins.cell_of_block (blk_below hb (by omega) HXy0_8.out) 4
  simp at iy4
  rw [hwe] at iy4
  have HB9 := hide (HB8.out.trans (hb.mono HB8.out.size))
  have hs9 : w8.heap.size ≤ w9.heap.size := hb.size
  have HX0_9 := hide (blk_below hb (by omega) HX0_8.out)
  clear HX0_8
  have HX1_9 := hide (blk_below hb (by omega) HX1_8.out)
  clear HX1_8
  have HXy0_9 := hide (blk_below hb (by omega) HXy0_8.out)
  clear HXy0_8
  have HOz0a_9 := hide (HOz0a_8.out.below hb)
  clear HOz0a_8
  have HOz0b_9 := hide (HOz0b_8.out.below hb)
  clear HOz0b_8
  have HOz0c_9 := hide (HOz0c_8.out.below hb)
  clear HOz0c_8
  have HOz0d_9 := hide (HOz0d_8.out.below hb)
  clear HOz0d_8
  have HOz0e_9 := hide (HOz0e_8.out.below hb)
  clear HOz0e_8
  have HOz1a_9 := hide (HOz1a_8.out.below hb)
  clear HOz1a_8
  have HOz1b_9 := hide (HOz1b_8.out.below hb)
  clear HOz1b_8
  have HOz1c_9 := hide (HOz1c_8.out.below hb)
  clear HOz1c_8
  have HOz1d_9 := hide (HOz1d_8.out.below hb)
  clear HOz1d_8
  have HOz1e_9 := hide (HOz1e_8.out.below hb)
  clear HOz1e_8
  clear hb
  have HXy1_9 := HN
  clear HN
  have HWE := hide hwe
  clear hwe
  go_wp2_with fail
  rw [← HWE.out]
  clear HWE iy0 iy1 iy2 iy3 iy4
  refine (implSameDk_any _ n0a n0a x0a _ n0b n0b x0b _ n0c n0c x0c _ n0d n0d x0d _ n0e n0e x0e _ n1a n1a x1a _ n1b n1b x1b _ n1c n1c x1c _ n1d n1d x1d _ n1e n1e x1e w9 hm0a hm0b hm0c hm0d hm0e hm1a hm1b hm1c hm1d hm1e HOz0a_9.out HOz0b_9.out HOz0c_9.out HOz0d_9.out HOz0e_9.out HOz1a_9.out HOz1b_9.out HOz1c_9.out HOz1d_9.out HOz1e_9.out WX0.out WX1.out).mono ?_
  rintro e w10 ⟨rfl, hb⟩
  have HB10 := hide (HB9.out.trans (hb.mono HB9.out.size))
  have hs10 : w9.heap.size ≤ w10.heap.size := hb.size
  have HX0_10 := hide (blk_below hb (by omega) HX0_9.out)
  clear HX0_9
  have HX1_10 := hide (blk_below hb (by omega) HX1_9.out)
  clear HX1_9
  have HXy0_10 := hide (blk_below hb (by omega) HXy0_9.out)
  clear HXy0_9
  have HXy1_10 := hide (blk_below hb (by omega) HXy1_9.out)
  clear HXy1_9
  have HOz0a_10 := hide (HOz0a_9.out.below hb)
  clear HOz0a_9
  have HOz0b_10 := hide (HOz0b_9.out.below hb)
  clear HOz0b_9
  have HOz0c_10 := hide (HOz0c_9.out.below hb)
  clear HOz0c_9
  have HOz0d_10 := hide (HOz0d_9.out.below hb)
  clear HOz0d_9
  have HOz0e_10 := hide (HOz0e_9.out.below hb)
  clear HOz0e_9
  have HOz1a_10 := hide (HOz1a_9.out.below hb)
  clear HOz1a_9
  have HOz1b_10 := hide (HOz1b_9.out.below hb)
  clear HOz1b_9
  have HOz1c_10 := hide (HOz1c_9.out.below hb)
  clear HOz1c_9
  have HOz1d_10 := hide (HOz1d_9.out.below hb)
  clear HOz1d_9
  have HOz1e_10 := hide (HOz1e_9.out.below hb)
  clear HOz1e_9
  clear hb
  have k00p := Joins.cell_of_block HX0_10.out 0
  simp at k00p
  have k01p := Joins.cell_of_block HX0_10.out 1
  simp at k01p
  have k02p := Joins.cell_of_block HX0_10.out 2
  simp at k02p
  have k03p := Joins.cell_of_block HX0_10.out 3
  simp at k03p
  have k04p := Joins.cell_of_block HX0_10.out 4
  simp at k04p
  have ky00p := Joins.cell_of_block HXy0_10.out 0
  simp at ky00p
  have ky01p := Joins.cell_of_block HXy0_10.out 1
  simp at ky01p
  have ky02p := Joins.cell_of_block HXy0_10.out 2
  simp at ky02p
  have ky03p := Joins.cell_of_block HXy0_10.out 3
  simp at ky03p
  have ky04p := Joins.cell_of_block HXy0_10.out 4
  simp at ky04p
  have GSa := hide (HS0a.out.below HB10.out)
  have GSb := hide (HS0b.out.below HB10.out)
  have GSc := hide (HS0c.out.below HB10.out)
  have GSd := hide (HS0d.out.below HB10.out)
  have GSe := hide (HS0e.out.below HB10.out)
  go_wp2_with fail
  go_region_held3 (fun w' => w'.cell? ⟨w6.heap.size, 0, none⟩ = some (.slice (some ⟨z0a, 0, none⟩) n0a n0a) ∧ w'.cell? ⟨w6.heap.size, 1, none⟩ = some (.slice (some ⟨z0b, 0, none⟩) n0b n0b) ∧ w'.cell? ⟨w6.heap.size, 2, none⟩ = some (.slice (some ⟨z0c, 0, none⟩) n0c n0c) ∧ w'.cell? ⟨w6.heap.size, 3, none⟩ = some (.slice (some ⟨z0d, 0, none⟩) n0d n0d) ∧ w'.cell? ⟨w6.heap.size, 4, none⟩ = some (.slice (some ⟨z0e, 0, none⟩) n0e n0e) ∧ w'.cell? ⟨w.heap.size, 0, none⟩ = some (.slice A0a n0a c0a) ∧ w'.cell? ⟨w.heap.size, 1, none⟩ = some (.slice A0b n0b c0b) ∧ w'.cell? ⟨w.heap.size, 2, none⟩ = some (.slice A0c n0c c0c) ∧ w'.cell? ⟨w.heap.size, 3, none⟩ = some (.slice A0d n0d c0d) ∧ w'.cell? ⟨w.heap.size, 4, none⟩ = some (.slice A0e n0e c0e)) ((first | exact ⟨ky00p, ky01p, ky02p, ky03p, ky04p, k00p, k01p, k02p, k03p, k04p⟩ | exact ⟨ky00q, ky01q, ky02q, ky03q, ky04q, k00q, k01q, k02q, k03q, k04q⟩ | exact ⟨ky00r, ky01r, ky02r, ky03r, ky04r, k00r, k01r, k02r, k03r, k04r⟩)) (first
    | (go_at_call 17; refine (toDeskW_any A0a n0a c0a x0a A0b n0b c0b x0b A0c n0c c0c x0c A0d n0d c0d x0d A0e n0e c0e x0e _ hn0a (by exact GSa.out) hn0b (by exact GSb.out) hn0c (by exact GSc.out) hn0d (by exact GSd.out) hn0e (by exact GSe.out)).mono ?_; rintro e w11 ⟨v0a, v0b, v0c, v0d, v0e, _, _, _, _, _, _, _, _, _, _, rfl, hta, htb, htc, htd, hte, _, _, _, _, _, _, _, _, _, _, _, hb⟩; replace hb : Below w10.heap.size w10 w11 := ⟨hb.os, hb.tape, hb.output, hb.size, hb.block⟩; have hs11 : w10.heap.size ≤ w11.heap.size := hb.size; have HB11 := hide (HB10.out.trans (hb.mono HB10.out.size)); have HX0_11 := hide (blk_below hb (by omega) HX0_10.out); have HX1_11 := hide (blk_below hb (by omega) HX1_10.out); have HXy0_11 := hide (blk_below hb (by omega) HXy0_10.out); have HXy1_11 := hide (blk_below hb (by omega) HXy1_10.out); have HOz0a_11 := hide (HOz0a_10.out.below hb); have HOz0b_11 := hide (HOz0b_10.out.below hb); have HOz0c_11 := hide (HOz0c_10.out.below hb); have HOz0d_11 := hide (HOz0d_10.out.below hb); have HOz0e_11 := hide (HOz0e_10.out.below hb); have HOz1a_11 := hide (HOz1a_10.out.below hb); have HOz1b_11 := hide (HOz1b_10.out.below hb); have HOz1c_11 := hide (HOz1c_10.out.below hb); have HOz1d_11 := hide (HOz1d_10.out.below hb); have HOz1e_11 := hide (HOz1e_10.out.below hb); have HTa := hide hta.sl; have HTb := hide htb.sl; have HTc := hide htc.sl; have HTd := hide htd.sl; have HTe := hide hte.sl; have k00q := Joins.cell_of_block HX0_11.out 0; simp at k00q; have k01q := Joins.cell_of_block HX0_11.out 1; simp at k01q; have k02q := Joins.cell_of_block HX0_11.out 2; simp at k02q; have k03q := Joins.cell_of_block HX0_11.out 3; simp at k03q; have k04q := Joins.cell_of_block HX0_11.out 4; simp at k04q; have ky00q := Joins.cell_of_block HXy0_11.out 0; simp at ky00q; have ky01q := Joins.cell_of_block HXy0_11.out 1; simp at ky01q; have ky02q := Joins.cell_of_block HXy0_11.out 2; simp at ky02q; have ky03q := Joins.cell_of_block HXy0_11.out 3; simp at ky03q; have ky04q := Joins.cell_of_block HXy0_11.out 4; simp at ky04q; clear hb hta htb htc htd hte)
    | (go_at_call 19; refine (eqDesk_any _ _ n0a n0a n0a x0a _ _ n0b n0b n0b x0b _ _ n0c n0c n0c x0c _ _ n0d n0d n0d x0d _ _ n0e n0e n0e x0e x0e _ hm0a (by exact HOz0a_11.out) (by exact HTa.out) hm0b (by exact HOz0b_11.out) (by exact HTb.out) hm0c (by exact HOz0c_11.out) (by exact HTc.out) hm0d (by exact HOz0d_11.out) (by exact HTd.out) hm0e (by exact HOz0e_11.out) (by exact HTe.out) (fun _ _ => FS.refl _ _)).mono ?_; rintro e w12 ⟨rfl, hb⟩; replace hb : Below w11.heap.size w11 w12 := ⟨hb.os, hb.tape, hb.output, hb.size, hb.block⟩; have hs12 : w11.heap.size ≤ w12.heap.size := hb.size; have HB12 := hide (HB11.out.trans (hb.mono HB11.out.size)); have HX0_12 := hide (blk_below hb (by omega) HX0_11.out); have HX1_12 := hide (blk_below hb (by omega) HX1_11.out); have HXy0_12 := hide (blk_below hb (by omega) HXy0_11.out); have HXy1_12 := hide (blk_below hb (by omega) HXy1_11.out); have HOz0a_12 := hide (HOz0a_11.out.below hb); have HOz0b_12 := hide (HOz0b_11.out.below hb); have HOz0c_12 := hide (HOz0c_11.out.below hb); have HOz0d_12 := hide (HOz0d_11.out.below hb); have HOz0e_12 := hide (HOz0e_11.out.below hb); have HOz1a_12 := hide (HOz1a_11.out.below hb); have HOz1b_12 := hide (HOz1b_11.out.below hb); have HOz1c_12 := hide (HOz1c_11.out.below hb); have HOz1d_12 := hide (HOz1d_11.out.below hb); have HOz1e_12 := hide (HOz1e_11.out.below hb); have k00r := Joins.cell_of_block HX0_12.out 0; simp at k00r; have k01r := Joins.cell_of_block HX0_12.out 1; simp at k01r; have k02r := Joins.cell_of_block HX0_12.out 2; simp at k02r; have k03r := Joins.cell_of_block HX0_12.out 3; simp at k03r; have k04r := Joins.cell_of_block HX0_12.out 4; simp at k04r; have ky00r := Joins.cell_of_block HXy0_12.out 0; simp at ky00r; have ky01r := Joins.cell_of_block HXy0_12.out 1; simp at ky01r; have ky02r := Joins.cell_of_block HXy0_12.out 2; simp at ky02r; have ky03r := Joins.cell_of_block HXy0_12.out 3; simp at ky03r; have ky04r := Joins.cell_of_block HXy0_12.out 4; simp at ky04r; clear hb))
  clear k00p k00q k00r k01p k01q k01r k02p k02q k02r k03p k03q k03r k04p k04q k04r ky00p ky00q ky00r ky01p ky01q ky01r ky02p ky02q ky02r ky03p ky03q ky03r ky04p ky04q ky04r GSa HTa GSb HTb GSc HTc GSd HTd GSe HTe HX0_10 HX0_11 HX1_10 HX1_11 HXy0_10 HXy0_11 HXy1_10 HXy1_11 HOz0a_10 HOz0a_11 HOz0b_10 HOz0b_11 HOz0c_10 HOz0c_11 HOz0d_10 HOz0d_11 HOz0e_10 HOz0e_11 HOz1a_10 HOz1a_11 HOz1b_10 HOz1b_11 HOz1c_10 HOz1c_11 HOz1d_10 HOz1d_11 HOz1e_10 HOz1e_11
  have k10p := Joins.cell_of_block HX1_12.out 0
  simp at k10p
  have k11p := Joins.cell_of_block HX1_12.out 1
  simp at k11p
  have k12p := Joins.cell_of_block HX1_12.out 2
  simp at k12p
  have k13p := Joins.cell_of_block HX1_12.out 3
  simp at k13p
  have k14p := Joins.cell_of_block HX1_12.out 4
  simp at k14p
  have ky10p := Joins.cell_of_block HXy1_12.out 0
  simp at ky10p
  have ky11p := Joins.cell_of_block HXy1_12.out 1
  simp at ky11p
  have ky12p := Joins.cell_of_block HXy1_12.out 2
  simp at ky12p
  have ky13p := Joins.cell_of_block HXy1_12.out 3
  simp at ky13p
  have ky14p := Joins.cell_of_block HXy1_12.out 4
  simp at ky14p
  have GSa := hide (HS1a.out.below HB12.out)
  have GSb := hide (HS1b.out.below HB12.out)
  have GSc := hide (HS1c.out.below HB12.out)
  have GSd := hide (HS1d.out.below HB12.out)
  have GSe := hide (HS1e.out.below HB12.out)
  go_wp2_with fail
  go_region_held3 (fun w' => w'.cell? ⟨w8.heap.size, 0, none⟩ = some (.slice (some ⟨z1a, 0, none⟩) n1a n1a) ∧ w'.cell? ⟨w8.heap.size, 1, none⟩ = some (.slice (some ⟨z1b, 0, none⟩) n1b n1b) ∧ w'.cell? ⟨w8.heap.size, 2, none⟩ = some (.slice (some ⟨z1c, 0, none⟩) n1c n1c) ∧ w'.cell? ⟨w8.heap.size, 3, none⟩ = some (.slice (some ⟨z1d, 0, none⟩) n1d n1d) ∧ w'.cell? ⟨w8.heap.size, 4, none⟩ = some (.slice (some ⟨z1e, 0, none⟩) n1e n1e) ∧ w'.cell? ⟨w.heap.size + 1, 0, none⟩ = some (.slice A1a n1a c1a) ∧ w'.cell? ⟨w.heap.size + 1, 1, none⟩ = some (.slice A1b n1b c1b) ∧ w'.cell? ⟨w.heap.size + 1, 2, none⟩ = some (.slice A1c n1c c1c) ∧ w'.cell? ⟨w.heap.size + 1, 3, none⟩ = some (.slice A1d n1d c1d) ∧ w'.cell? ⟨w.heap.size + 1, 4, none⟩ = some (.slice A1e n1e c1e)) ((first | exact ⟨ky10p, ky11p, ky12p, ky13p, ky14p, k10p, k11p, k12p, k13p, k14p⟩ | exact ⟨ky10q, ky11q, ky12q, ky13q, ky14q, k10q, k11q, k12q, k13q, k14q⟩ | exact ⟨ky10r, ky11r, ky12r, ky13r, ky14r, k10r, k11r, k12r, k13r, k14r⟩)) (first
    | (go_at_call 17; refine (toDeskW_any A1a n1a c1a x1a A1b n1b c1b x1b A1c n1c c1c x1c A1d n1d c1d x1d A1e n1e c1e x1e _ hn1a (by exact GSa.out) hn1b (by exact GSb.out) hn1c (by exact GSc.out) hn1d (by exact GSd.out) hn1e (by exact GSe.out)).mono ?_; rintro e w13 ⟨v1a, v1b, v1c, v1d, v1e, _, _, _, _, _, _, _, _, _, _, rfl, hta, htb, htc, htd, hte, _, _, _, _, _, _, _, _, _, _, _, hb⟩; replace hb : Below w12.heap.size w12 w13 := ⟨hb.os, hb.tape, hb.output, hb.size, hb.block⟩; have hs13 : w12.heap.size ≤ w13.heap.size := hb.size; have HB13 := hide (HB12.out.trans (hb.mono HB12.out.size)); have HX0_13 := hide (blk_below hb (by omega) HX0_12.out); have HX1_13 := hide (blk_below hb (by omega) HX1_12.out); have HXy0_13 := hide (blk_below hb (by omega) HXy0_12.out); have HXy1_13 := hide (blk_below hb (by omega) HXy1_12.out); have HOz0a_13 := hide (HOz0a_12.out.below hb); have HOz0b_13 := hide (HOz0b_12.out.below hb); have HOz0c_13 := hide (HOz0c_12.out.below hb); have HOz0d_13 := hide (HOz0d_12.out.below hb); have HOz0e_13 := hide (HOz0e_12.out.below hb); have HOz1a_13 := hide (HOz1a_12.out.below hb); have HOz1b_13 := hide (HOz1b_12.out.below hb); have HOz1c_13 := hide (HOz1c_12.out.below hb); have HOz1d_13 := hide (HOz1d_12.out.below hb); have HOz1e_13 := hide (HOz1e_12.out.below hb); have HTa := hide hta.sl; have HTb := hide htb.sl; have HTc := hide htc.sl; have HTd := hide htd.sl; have HTe := hide hte.sl; have k10q := Joins.cell_of_block HX1_13.out 0; simp at k10q; have k11q := Joins.cell_of_block HX1_13.out 1; simp at k11q; have k12q := Joins.cell_of_block HX1_13.out 2; simp at k12q; have k13q := Joins.cell_of_block HX1_13.out 3; simp at k13q; have k14q := Joins.cell_of_block HX1_13.out 4; simp at k14q; have ky10q := Joins.cell_of_block HXy1_13.out 0; simp at ky10q; have ky11q := Joins.cell_of_block HXy1_13.out 1; simp at ky11q; have ky12q := Joins.cell_of_block HXy1_13.out 2; simp at ky12q; have ky13q := Joins.cell_of_block HXy1_13.out 3; simp at ky13q; have ky14q := Joins.cell_of_block HXy1_13.out 4; simp at ky14q; clear hb hta htb htc htd hte)
    | (go_at_call 19; refine (eqDesk_any _ _ n1a n1a n1a x1a _ _ n1b n1b n1b x1b _ _ n1c n1c n1c x1c _ _ n1d n1d n1d x1d _ _ n1e n1e n1e x1e x1e _ hm1a (by exact HOz1a_13.out) (by exact HTa.out) hm1b (by exact HOz1b_13.out) (by exact HTb.out) hm1c (by exact HOz1c_13.out) (by exact HTc.out) hm1d (by exact HOz1d_13.out) (by exact HTd.out) hm1e (by exact HOz1e_13.out) (by exact HTe.out) (fun _ _ => FS.refl _ _)).mono ?_; rintro e w14 ⟨rfl, hb⟩; replace hb : Below w13.heap.size w13 w14 := ⟨hb.os, hb.tape, hb.output, hb.size, hb.block⟩; have hs14 : w13.heap.size ≤ w14.heap.size := hb.size; have HB14 := hide (HB13.out.trans (hb.mono HB13.out.size)); have HX0_14 := hide (blk_below hb (by omega) HX0_13.out); have HX1_14 := hide (blk_below hb (by omega) HX1_13.out); have HXy0_14 := hide (blk_below hb (by omega) HXy0_13.out); have HXy1_14 := hide (blk_below hb (by omega) HXy1_13.out); have HOz0a_14 := hide (HOz0a_13.out.below hb); have HOz0b_14 := hide (HOz0b_13.out.below hb); have HOz0c_14 := hide (HOz0c_13.out.below hb); have HOz0d_14 := hide (HOz0d_13.out.below hb); have HOz0e_14 := hide (HOz0e_13.out.below hb); have HOz1a_14 := hide (HOz1a_13.out.below hb); have HOz1b_14 := hide (HOz1b_13.out.below hb); have HOz1c_14 := hide (HOz1c_13.out.below hb); have HOz1d_14 := hide (HOz1d_13.out.below hb); have HOz1e_14 := hide (HOz1e_13.out.below hb); have k10r := Joins.cell_of_block HX1_14.out 0; simp at k10r; have k11r := Joins.cell_of_block HX1_14.out 1; simp at k11r; have k12r := Joins.cell_of_block HX1_14.out 2; simp at k12r; have k13r := Joins.cell_of_block HX1_14.out 3; simp at k13r; have k14r := Joins.cell_of_block HX1_14.out 4; simp at k14r; have ky10r := Joins.cell_of_block HXy1_14.out 0; simp at ky10r; have ky11r := Joins.cell_of_block HXy1_14.out 1; simp at ky11r; have ky12r := Joins.cell_of_block HXy1_14.out 2; simp at ky12r; have ky13r := Joins.cell_of_block HXy1_14.out 3; simp at ky13r; have ky14r := Joins.cell_of_block HXy1_14.out 4; simp at ky14r; clear hb))
  clear k10p k10q k10r k11p k11q k11r k12p k12q k12r k13p k13q k13r k14p k14q k14r ky10p ky10q ky10r ky11p ky11q ky11r ky12p ky12q ky12r ky13p ky13q ky13r ky14p ky14q ky14r GSa HTa GSb HTb GSc HTc GSd HTd GSe HTe HX0_12 HX0_13 HX1_12 HX1_13 HXy0_12 HXy0_13 HXy1_12 HXy1_13 HOz0a_12 HOz0a_13 HOz0b_12 HOz0b_13 HOz0c_12 HOz0c_13 HOz0d_12 HOz0d_13 HOz0e_12 HOz0e_13 HOz1a_12 HOz1a_13 HOz1b_12 HOz1b_13 HOz1c_12 HOz1c_13 HOz1d_12 HOz1d_13 HOz1e_12 HOz1e_13
  go_wp2_with fail
  go_ret
  exact ⟨rfl, HB14.out⟩
end Go.Proofs.Ytbcajjpgpjadaaa
