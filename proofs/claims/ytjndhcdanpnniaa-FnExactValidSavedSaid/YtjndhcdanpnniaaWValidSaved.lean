/- The law FnExactValidSaved, walked. -/
import Derived.Test.YtjndhcdanpnniaaTs9
import Derived.Test.YtjndhcdanpnniaaRow
namespace Go.Proofs.Ytjndhcdanpnniaa
open Go.RowKit Go.Dues
set_option maxRecDepth 100000 in
set_option maxHeartbeats 8000000 in
theorem lawValidSaved_any (r : SV) (I J : Option Addr) (c e : Nat) (w : World) (hr : r.ok) (hI : RS w I r.n r.V) (hJ : SL w J r.m (fun j => .int .i64 (r.x j))) :
    Calls Try.prog 4 #[.agg #[.string r.s, .slice I r.n c, .slice J r.m e]] w fun e w' => e = .returned (.bool true) ∧ Below w.heap.size w w' := by
  have HR := hide hr
  have HI := hide hI
  have HJ := hide hJ
  clear hr hI hJ
  obtain ⟨w0, hw0⟩ : ∃ u, u = w.alloc (.cells #[.string r.s, .slice I r.n c, .slice J r.m e] 35) := ⟨_, rfl⟩
  have HB0 : Hid (Below w.heap.size w w0) := by rw [hw0]; exact (Below.refl _ _).alloc (Nat.le_refl _) _
  have hs0 : w.heap.size + 1 ≤ w0.heap.size := by rw [hw0]; simp
  have HXb := hide (show w0.heap[w.heap.size]? = some (.cells #[.string r.s, .slice I r.n c, .slice J r.m e] 35 (0, 0)) by rw [hw0]; exact blocks1 w _)
  have HW := hide hw0
  have k0 := Joins.cell_of_block HXb.out 0
  have k1 := Joins.cell_of_block HXb.out 1
  have k2 := Joins.cell_of_block HXb.out 2
  simp at k0 k1 k2
  clear hw0
  go_enter Try.func4, Try.ntmps4
  go_wp2_with fail
  rw [← HW.out]
  clear HW
  refine (szSaved_any r I J c e 1048576 w0 HR.out (HI.out.below HB0.out) (by omega) (by omega)).mono ?_
  rintro e' w1 ⟨q, rfl, hq, hb⟩
  replace hb : Below w0.heap.size w0 w1 := ⟨hb.os, hb.tape, hb.output, hb.size, hb.block⟩
  have HB1 := hide (HB0.out.trans (hb.mono HB0.out.size))
  have hs1 : w0.heap.size ≤ w1.heap.size := hb.size
  have HXb := hide (blk_below hb (by omega) HXb.out)
  clear hb
  clear k0 k1 k2
  rcases hq with ⟨hg, hl⟩ | rfl
  rotate_left
  · go_wp2_with fail
    go_ret
    exact ⟨rfl, HB1.out⟩
  unfold svSum at hl
  have hn : r.n ≤ 1048576 := by omega
  have hm : r.m ≤ 1048576 := by omega
  have hrs : rsum r.V r.n ≤ 1048576 := by omega
  have HVN := hide (show ∀ i, i < r.n → (r.V i).n ≤ 1048576 from fun i hi => Nat.le_trans (rsum_mono r.V i r.n hi) hrs)
  have hqz : ¬ q < 0 := by omega
  have HL := hide hl
  clear hl
  have k0 := Joins.cell_of_block HXb.out 0
  have k1 := Joins.cell_of_block HXb.out 1
  have k2 := Joins.cell_of_block HXb.out 2
  simp at k0 k1 k2
  go_wp2_with fail
  refine (toSaved_any r I J c e w1 hn HVN.out hm (HI.out.below HB1.out) (HJ.out.below HB1.out)).mono ?_
  rintro e' w2 ⟨s, s', rfl, hro, hso, hb⟩
  have HRsn := hide hro
  have HSsn := hide hso
  clear hro hso
  replace hb : Below w1.heap.size w1 w2 := ⟨hb.os, hb.tape, hb.output, hb.size, hb.block⟩
  have HB2 := hide (HB1.out.trans (hb.mono HB1.out.size))
  have hs2 : w1.heap.size ≤ w2.heap.size := hb.size
  have HXb := hide (blk_below hb (by omega) HXb.out)
  clear hb
  have HRs := HRsn
  have HSs := HSsn
  clear HRsn HSsn
  clear k0 k1 k2
  go_wp2_with fail
  refine (specValidSaved_any r (some ⟨s, 0, none⟩) (some ⟨s', 0, none⟩) r.n r.m w2 HR.out HRs.out HSs.out).mono ?_
  rintro e' w3 ⟨rfl, hb⟩
  replace hb : Below w2.heap.size w2 w3 := ⟨hb.os, hb.tape, hb.output, hb.size, hb.block⟩
  have HB3 := hide (HB2.out.trans (hb.mono HB2.out.size))
  have hs3 : w2.heap.size ≤ w3.heap.size := hb.size
  have HXb := hide (blk_below hb (by omega) HXb.out)
  have HRs := hide (HRs.out.below hb)
  have HSs := hide (HSs.out.below hb)
  clear hb
  clear HRs HSs
  have k0 := Joins.cell_of_block HXb.out 0
  have k1 := Joins.cell_of_block HXb.out 1
  have k2 := Joins.cell_of_block HXb.out 2
  simp at k0 k1 k2
  go_wp2_with fail
  refine (toSaved_any r I J c e w3 hn HVN.out hm (HI.out.below HB3.out) (HJ.out.below HB3.out)).mono ?_
  rintro e' w4 ⟨a, a', rfl, hro, hso, hb⟩
  have HRan := hide hro
  have HSan := hide hso
  clear hro hso
  replace hb : Below w3.heap.size w3 w4 := ⟨hb.os, hb.tape, hb.output, hb.size, hb.block⟩
  have HB4 := hide (HB3.out.trans (hb.mono HB3.out.size))
  have hs4 : w3.heap.size ≤ w4.heap.size := hb.size
  have HXb := hide (blk_below hb (by omega) HXb.out)
  clear hb
  have HRa := HRan
  have HSa := HSan
  clear HRan HSan
  clear k0 k1 k2
  obtain ⟨w5, hwe⟩ : ∃ u, u = w4.alloc (.cells #[.string r.s, .slice (some ⟨a, 0, none⟩) r.n r.n, .slice (some ⟨a', 0, none⟩) r.m r.m] 40) := ⟨_, rfl⟩
  have hb : Below w4.heap.size w4 w5 := by rw [hwe]; exact (Below.refl _ _).alloc (Nat.le_refl _) _
  have HXxn := hide (show w5.heap[w4.heap.size]? = some (.cells #[.string r.s, .slice (some ⟨a, 0, none⟩) r.n r.n, .slice (some ⟨a', 0, none⟩) r.m r.m] 40 (0, 0)) by rw [hwe]; exact blocks1 w4 _)
  have hsx : w4.heap.size + 1 ≤ w5.heap.size := by rw [hwe]; simp
  have HWE := hide hwe
  clear hwe
  have HB5 := hide (HB4.out.trans (hb.mono HB4.out.size))
  have hs5 : w4.heap.size ≤ w5.heap.size := hb.size
  have HXb := hide (blk_below hb (by omega) HXb.out)
  have HRa := hide (HRa.out.below hb)
  have HSa := hide (HSa.out.below hb)
  clear hb
  have HXx := HXxn
  clear HXxn
  have gb : (tru (svP r) != tru (svP r)) = false := by cases tru (svP r) <;> rfl
  go_wp2_with fail
  rw [← HWE.out]
  clear HWE
  refine (implValidSaved_any r (some ⟨a, 0, none⟩) (some ⟨a', 0, none⟩) r.n r.m w5 HR.out HRa.out HSa.out).mono ?_
  rintro e' w6 ⟨rfl, hb⟩
  replace hb : Below w5.heap.size w5 w6 := ⟨hb.os, hb.tape, hb.output, hb.size, hb.block⟩
  have HB6 := hide (HB5.out.trans (hb.mono HB5.out.size))
  have hs6 : w5.heap.size ≤ w6.heap.size := hb.size
  have HXb := hide (blk_below hb (by omega) HXb.out)
  have HXx := hide (blk_below hb (by omega) HXx.out)
  have HRa := hide (HRa.out.below hb)
  have HSa := hide (HSa.out.below hb)
  clear hb
  have k0 := Joins.cell_of_block HXb.out 0
  have k1 := Joins.cell_of_block HXb.out 1
  have k2 := Joins.cell_of_block HXb.out 2
  simp at k0 k1 k2
  have p0 := Joins.cell_of_block HXx.out 0
  have p1 := Joins.cell_of_block HXx.out 1
  have p2 := Joins.cell_of_block HXx.out 2
  simp at p0 p1 p2
  have HIK := hide (HI.out.below HB6.out)
  have HJK := hide (HJ.out.below HB6.out)
  generalize tru (svP r) = tb at *
  go_wp2_with fail
  go_region_held3 (fun u => u.cell? ⟨w.heap.size, 0, none⟩ = some (.string r.s) ∧ u.cell? ⟨w.heap.size, 1, none⟩ = some (.slice I r.n c) ∧ u.cell? ⟨w.heap.size, 2, none⟩ = some (.slice J r.m e) ∧ u.cell? ⟨w4.heap.size, 0, none⟩ = some (.string r.s) ∧ u.cell? ⟨w4.heap.size, 1, none⟩ = some (.slice (some ⟨a, 0, none⟩) r.n r.n) ∧ u.cell? ⟨w4.heap.size, 2, none⟩ = some (.slice (some ⟨a', 0, none⟩) r.m r.m)) ((first | exact ⟨k0, k1, k2, p0, p1, p2⟩ | exact ⟨ka0, ka1, ka2, pa0, pa1, pa2⟩ | exact ⟨kb0, kb1, kb2, pb0, pb1, pb2⟩)) (first | (go_at_call 26; refine (toSaved_any r I J c e _ hn HVN.out hm (by exact HIK.out) (by exact HJK.out)).mono ?_; rintro e' w7 ⟨t, t', rfl, hro, hso, hb⟩; have HRt := hide hro; have HSt := hide hso; clear hro hso; replace hb : Below w6.heap.size w6 w7 := ⟨hb.os, hb.tape, hb.output, hb.size, hb.block⟩; have HB7 := hide (HB6.out.trans (hb.mono HB6.out.size)); have hs7 : w6.heap.size ≤ w7.heap.size := hb.size; have HXb := hide (blk_below hb (by omega) HXb.out); have HXx := hide (blk_below hb (by omega) HXx.out); have HRa := hide (HRa.out.below hb); have HSa := hide (HSa.out.below hb); clear hb; have ka0 := Joins.cell_of_block HXb.out 0; have ka1 := Joins.cell_of_block HXb.out 1; have ka2 := Joins.cell_of_block HXb.out 2; simp at ka0 ka1 ka2; have pa0 := Joins.cell_of_block HXx.out 0; have pa1 := Joins.cell_of_block HXx.out 1; have pa2 := Joins.cell_of_block HXx.out 2; simp at pa0 pa1 pa2; simp only []) | (go_at_call 28; refine (eqSaved_any r _ _ _ _ _ _ _ _ _ HR.out (by exact HRa.out) (by exact HSa.out) (by exact HRt.out) (by exact HSt.out)).mono ?_; rintro e' w8 ⟨rfl, hb⟩; replace hb : Below w7.heap.size w7 w8 := ⟨hb.os, hb.tape, hb.output, hb.size, hb.block⟩; have HB8 := hide (HB7.out.trans (hb.mono HB7.out.size)); have hs8 : w7.heap.size ≤ w8.heap.size := hb.size; have HXb := hide (blk_below hb (by omega) HXb.out); have HXx := hide (blk_below hb (by omega) HXx.out); have HRa := hide (HRa.out.below hb); have HSa := hide (HSa.out.below hb); clear hb HRt HSt; have kb0 := Joins.cell_of_block HXb.out 0; have kb1 := Joins.cell_of_block HXb.out 1; have kb2 := Joins.cell_of_block HXb.out 2; simp at kb0 kb1 kb2; have pb0 := Joins.cell_of_block HXx.out 0; have pb1 := Joins.cell_of_block HXx.out 1; have pb2 := Joins.cell_of_block HXx.out 2; simp at pb0 pb1 pb2; simp only []))
  go_wp2_with fail
  go_ret
  exact ⟨rfl, HB8.out⟩
end Go.Proofs.Ytjndhcdanpnniaa
