/- The law FnExactValidRule, walked. -/
import Derived.Test.YtmblppinfbbndaaRv
import Derived.Deep.RegionHeld3
namespace Go.Proofs.Ytmblppinfbbndaa
open Go.RowKit Go.Dues
set_option maxRecDepth 100000 in
set_option maxHeartbeats 8000000 in
theorem lawValidRule_any (r : RV) (A : Option Addr) (c : Nat) (w : World) (hv0 : r.ok) (hs0 : SL w A r.n (fun j => .int .i64 (r.x j))) :
    Calls Try.prog 3 #[.agg #[.int .i64 r.h, .slice A r.n c, .int .i64 r.f, .int .i64 r.t, .int .i64 r.k]] w fun e w' => e = .returned (.bool true) ∧ Below w.heap.size w w' := by
  have HS0 := hide hs0
  have hm0 := hv0.2.2.2.2.1
  clear hs0
  have HB0 := hide ((Below.refl w.heap.size w).alloc (Nat.le_refl _) (.cells #[.int .i64 r.h, .slice A r.n c, .int .i64 r.f, .int .i64 r.t, .int .i64 r.k] 24))
  have HP0 := hide (blocks1 w (.cells #[.int .i64 r.h, .slice A r.n c, .int .i64 r.f, .int .i64 r.t, .int .i64 r.k] 24))
  go_enter Try.func3, Try.ntmps3
  have hz0 : w.heap.size < (w.alloc (.cells #[.int .i64 r.h, .slice A r.n c, .int .i64 r.f, .int .i64 r.t, .int .i64 r.k] 24)).heap.size := by simp
  go_wp2_with fail
  refine (szRule_any r.h A r.n c r.f r.t r.k 1048576 _ hm0 (by omega) (by omega)).mono ?_
  rintro e w1 ⟨m0, rfl, hm, hb⟩
  have HB1 := hide (HB0.out.trans (hb.mono HB0.out.size))
  have HP1 := hide (blk_below hb hz0 HP0.out)
  have hz1 : w.heap.size < w1.heap.size := Nat.lt_of_lt_of_le hz0 hb.size
  clear hb
  rcases hm with ⟨hg0, hl0⟩ | ⟨_, rfl⟩
  rotate_left
  · go_wp2
    go_ret
    exact ⟨rfl, HB1.out⟩
  have hn0 : r.n ≤ 1048576 := by omega
  have hzz : ¬ m0 < 0 := by omega
  have HL0 := hide hl0
  clear hl0
  have k0 := Joins.cell_of_block HP1.out 0
  have k1 := Joins.cell_of_block HP1.out 1
  have k2 := Joins.cell_of_block HP1.out 2
  have k3 := Joins.cell_of_block HP1.out 3
  have k4 := Joins.cell_of_block HP1.out 4
  simp at k0 k1 k2 k3 k4
  go_wp2_with fail
  refine (toRule_any r.h A r.n c r.x r.f r.t r.k _ hn0 (HS0.out.below HB1.out)).mono ?_
  rintro e w2 ⟨g2, rfl, hg, hg', hb, ho⟩
  have HT2 := hide ho.sl
  clear ho hg hg'
  have HB2 := hide (HB1.out.trans (hb.mono HB1.out.size))
  have HP2 := hide (blk_below hb hz1 HP1.out)
  have hz2 : w.heap.size < w2.heap.size := Nat.lt_of_lt_of_le hz1 hb.size
  clear hb k0 k1 k2 k3 k4
  go_wp2_with fail
  refine (specValidRule_any r _ r.n _ hm0 HT2.out).mono ?_
  rintro e w3 ⟨rfl, hb⟩
  have HB3 := hide (HB2.out.trans (hb.mono HB2.out.size))
  have HP3 := hide (blk_below hb hz2 HP2.out)
  have hz3 : w.heap.size < w3.heap.size := Nat.lt_of_lt_of_le hz2 hb.size
  clear hb HT2
  have k0 := Joins.cell_of_block HP3.out 0
  have k1 := Joins.cell_of_block HP3.out 1
  have k2 := Joins.cell_of_block HP3.out 2
  have k3 := Joins.cell_of_block HP3.out 3
  have k4 := Joins.cell_of_block HP3.out 4
  simp at k0 k1 k2 k3 k4
  go_wp2_with fail
  refine (toRule_any r.h A r.n c r.x r.f r.t r.k _ hn0 (HS0.out.below HB3.out)).mono ?_
  rintro e w4 ⟨g4, rfl, hg, hg', hb, ho⟩
  have HT4 := hide ho.sl
  clear ho hg hg'
  have HB4 := hide (HB3.out.trans (hb.mono HB3.out.size))
  have HP4 := hide (blk_below hb hz3 HP3.out)
  have hz4 : w.heap.size < w4.heap.size := Nat.lt_of_lt_of_le hz3 hb.size
  clear hb k0 k1 k2 k3 k4
  obtain ⟨X0, hXe⟩ : ∃ X0, X0 = w4.heap.size := ⟨_, rfl⟩
  have hb : Below w4.heap.size w4 (w4.alloc (.cells #[.int .i64 r.h, .slice (some ⟨g4, 0, none⟩) r.n r.n, .int .i64 r.f, .int .i64 r.t, .int .i64 r.k] 27)) := (Below.refl _ _).alloc (Nat.le_refl _) _
  have HX0 := hide (blocks1 w4 (.cells #[.int .i64 r.h, .slice (some ⟨g4, 0, none⟩) r.n r.n, .int .i64 r.f, .int .i64 r.t, .int .i64 r.k] 27))
  have hX0 : X0 < (w4.alloc (.cells #[.int .i64 r.h, .slice (some ⟨g4, 0, none⟩) r.n r.n, .int .i64 r.f, .int .i64 r.t, .int .i64 r.k] 27)).heap.size := by rw [hXe]; simp
  rw [← hXe] at HX0
  have hbw := hide hb
  go_wp2_with fail
  generalize hwe : w4.alloc (.cells #[.int .i64 r.h, .slice (some ⟨g4, 0, none⟩) r.n r.n, .int .i64 r.f, .int .i64 r.t, .int .i64 r.k] 27) = w5 at hb HX0 hX0 hbw ⊢
  simp only [← hXe]
  clear hwe hbw hXe
  have HB5 := hide (HB4.out.trans (hb.mono HB4.out.size))
  have HP5 := hide (blk_below hb hz4 HP4.out)
  have HT5 := hide (HT4.out.below hb)
  have hz5 : w.heap.size < w5.heap.size := Nat.lt_of_lt_of_le hz4 hb.size
  clear hb
  refine (implValidRule_any r _ r.n _ hm0 HT5.out).mono ?_
  rintro e w6 ⟨rfl, hb⟩
  have HB6 := hide (HB5.out.trans (hb.mono HB5.out.size))
  have HP6 := hide (blk_below hb hz5 HP5.out)
  have HT6 := hide (HT5.out.below hb)
  have HX6 := hide (blk_below hb hX0 HX0.out)
  have hX6 := Nat.lt_of_lt_of_le hX0 hb.size
  have hz6 : w.heap.size < w6.heap.size := Nat.lt_of_lt_of_le hz5 hb.size
  clear hb
  have k0 := Joins.cell_of_block HP6.out 0
  have k1 := Joins.cell_of_block HP6.out 1
  have k2 := Joins.cell_of_block HP6.out 2
  have k3 := Joins.cell_of_block HP6.out 3
  have k4 := Joins.cell_of_block HP6.out 4
  simp at k0 k1 k2 k3 k4
  have q0 := Joins.cell_of_block HX6.out 0
  have q1 := Joins.cell_of_block HX6.out 1
  have q2 := Joins.cell_of_block HX6.out 2
  have q3 := Joins.cell_of_block HX6.out 3
  have q4 := Joins.cell_of_block HX6.out 4
  simp at q0 q1 q2 q3 q4
  have GS0 := hide (HS0.out.below HB6.out)
  go_wp2_with fail
  go_region_held3 (fun w' => w'.cell? ⟨X0, 0, none⟩ = some (.int .i64 r.h) ∧ w'.cell? ⟨X0, 1, none⟩ = some (.slice (some ⟨g4, 0, none⟩) r.n r.n) ∧ w'.cell? ⟨X0, 2, none⟩ = some (.int .i64 r.f) ∧ w'.cell? ⟨X0, 3, none⟩ = some (.int .i64 r.t) ∧ w'.cell? ⟨X0, 4, none⟩ = some (.int .i64 r.k) ∧ w'.cell? ⟨w.heap.size, 0, none⟩ = some (.int .i64 r.h) ∧ w'.cell? ⟨w.heap.size, 1, none⟩ = some (.slice A r.n c) ∧ w'.cell? ⟨w.heap.size, 2, none⟩ = some (.int .i64 r.f) ∧ w'.cell? ⟨w.heap.size, 3, none⟩ = some (.int .i64 r.t) ∧ w'.cell? ⟨w.heap.size, 4, none⟩ = some (.int .i64 r.k)) ((first | exact ⟨q0, q1, q2, q3, q4, k0, k1, k2, k3, k4⟩ | exact ⟨qb0, qb1, qb2, qb3, qb4, kb0, kb1, kb2, kb3, kb4⟩ | exact ⟨qc0, qc1, qc2, qc3, qc4, kc0, kc1, kc2, kc3, kc4⟩)) (first
    | (go_at_call 17; refine (toRule_any r.h A r.n c r.x r.f r.t r.k _ hn0 (by exact GS0.out)).mono ?_; rintro e u0 ⟨a0, rfl, _, _, hbt0, hst0⟩; replace hbt0 : Below w6.heap.size w6 u0 := ⟨hbt0.os, hbt0.tape, hbt0.output, hbt0.size, hbt0.block⟩; have HBt0 := hide ((HB6.out).trans (hbt0.mono (HB6.out).size)); have hzt0 := Nat.lt_of_lt_of_le hz6 hbt0.size; have HTt0 := hide (SL.below (by exact HT6.out) hbt0); have HXt0 := hide (blk_below hbt0 hX6 HX6.out); have hXt0 := Nat.lt_of_lt_of_le hX6 hbt0.size; have HPt0 := hide (blk_below hbt0 hz6 HP6.out); have HSt0 := hide hst0.sl; have kb0 := Joins.cell_of_block HPt0.out 0; have kb1 := Joins.cell_of_block HPt0.out 1; have kb2 := Joins.cell_of_block HPt0.out 2; have kb3 := Joins.cell_of_block HPt0.out 3; have kb4 := Joins.cell_of_block HPt0.out 4; have qb0 := Joins.cell_of_block HXt0.out 0; have qb1 := Joins.cell_of_block HXt0.out 1; have qb2 := Joins.cell_of_block HXt0.out 2; have qb3 := Joins.cell_of_block HXt0.out 3; have qb4 := Joins.cell_of_block HXt0.out 4; simp at kb0 kb1 kb2 kb3 kb4 qb0 qb1 qb2 qb3 qb4; clear hbt0 hst0; simp only [])
    | (go_at_call 19; refine (eqRule_any r.h _ _ r.n _ _ r.x r.f r.t r.k _ hm0 (by exact HTt0.out) (by exact HSt0.out)).mono ?_; rintro e z0 ⟨rfl, hbe0⟩; replace hbe0 : Below u0.heap.size u0 z0 := ⟨hbe0.os, hbe0.tape, hbe0.output, hbe0.size, hbe0.block⟩; have HBe0 := hide (HBt0.out.trans (hbe0.mono HBt0.out.size)); have HXe0 := hide (blk_below hbe0 hXt0 HXt0.out); have HPe0 := hide (blk_below hbe0 hzt0 HPt0.out); have kc0 := Joins.cell_of_block HPe0.out 0; have kc1 := Joins.cell_of_block HPe0.out 1; have kc2 := Joins.cell_of_block HPe0.out 2; have kc3 := Joins.cell_of_block HPe0.out 3; have kc4 := Joins.cell_of_block HPe0.out 4; have qc0 := Joins.cell_of_block HXe0.out 0; have qc1 := Joins.cell_of_block HXe0.out 1; have qc2 := Joins.cell_of_block HXe0.out 2; have qc3 := Joins.cell_of_block HXe0.out 3; have qc4 := Joins.cell_of_block HXe0.out 4; simp at kc0 kc1 kc2 kc3 kc4 qc0 qc1 qc2 qc3 qc4; clear hbe0; simp only []))
  clear k0 k1 k2 k3 k4 q0 q1 q2 q3 q4 kb0 kb1 kb2 kb3 kb4 qb0 qb1 qb2 qb3 qb4 kc0 kc1 kc2 kc3 kc4 qc0 qc1 qc2 qc3 qc4
  go_wp2_with fail
  go_ret
  exact ⟨rfl, HBe0.out⟩
end Go.Proofs.Ytmblppinfbbndaa
