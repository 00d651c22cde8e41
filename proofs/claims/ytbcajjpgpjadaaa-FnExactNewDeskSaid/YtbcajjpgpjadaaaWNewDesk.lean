/- The law FnExactNewDesk, walked. -/
import Derived.Test.YtbcajjpgpjadaaaNd
namespace Go.Proofs.Ytbcajjpgpjadaaa
open Go.RowKit Go.Dues
set_option maxRecDepth 100000 in
set_option maxHeartbeats 8000000 in
theorem lawNewDesk_any (w : World) : Calls Try.prog 4 #[] w fun e w' => e = .returned (.bool true) ∧ Below w.heap.size w w' := by
  obtain ⟨w0, hw0⟩ : ∃ u, u = w := ⟨_, rfl⟩
  have HB0 : Hid (Below w.heap.size w w0) := by rw [hw0]; exact Below.refl _ _
  have h00 : w.heap.size ≤ w0.heap.size := HB0.out.size
  go_enter Try.func4, Try.ntmps4
  go_wp2_with fail
  rw [← hw0]
  clear hw0
  refine (specNewDesk_any w0).mono ?_
  rintro e w1 ⟨Wa, Wb, Wc, Wd, We, Wla, Wua, Wlb, Wub, Wlc, Wuc, Wld, Wud, Wle, Wue, rfl, hoa, hob, hoc, hod, hoe, We0, We1, We2, We3, We4, We5, We6, We7, We8, We9, We10, hb⟩
  have HB1 := hide (HB0.out.trans (hb.mono HB0.out.size))
  have hs1 : w0.heap.size ≤ w1.heap.size := hb.size
  clear hb
  have HOWa := hide hoa
  clear hoa
  have HOWb := hide hob
  clear hob
  have HOWc := hide hoc
  clear hoc
  have HOWd := hide hod
  clear hod
  have HOWe := hide hoe
  clear hoe
  obtain ⟨w2, hwe⟩ : ∃ u, u = w1.alloc (.cells #[.slice (some ⟨Wa, 0, none⟩) 2 2, .slice (some ⟨Wb, 0, none⟩) 2 2, .slice (some ⟨Wc, 0, none⟩) 3 3, .slice (some ⟨Wd, 0, none⟩) 3 3, .slice (some ⟨We, 0, none⟩) 3 3] 32) := ⟨_, rfl⟩
  have hb : Below w1.heap.size w1 w2 := by rw [hwe]; exact (Below.refl _ _).alloc (Nat.le_refl _) _
  have HN : Hid (w2.heap[w1.heap.size]? = some (.cells #[.slice (some ⟨Wa, 0, none⟩) 2 2, .slice (some ⟨Wb, 0, none⟩) 2 2, .slice (some ⟨Wc, 0, none⟩) 3 3, .slice (some ⟨Wd, 0, none⟩) 3 3, .slice (some ⟨We, 0, none⟩) 3 3] 32)) := by rw [hwe]; exact blocks1 w1 _
  have hn2 : w1.heap.size + 1 ≤ w2.heap.size := by rw [hwe]; simp
  have HWE := hide hwe
  clear hwe
  go_wp2_with fail
  rw [← HWE.out]
  clear HWE
  have HB2 := hide (HB1.out.trans (hb.mono HB1.out.size))
  have hs2 : w1.heap.size ≤ w2.heap.size := hb.size
  have HOWa := hide (HOWa.out.below hb)
  have HOWb := hide (HOWb.out.below hb)
  have HOWc := hide (HOWc.out.below hb)
  have HOWd := hide (HOWd.out.below hb)
  have HOWe := hide (HOWe.out.below hb)
  clear hb
  have HXW := HN
  clear HN
  go_wp2_with fail
  refine (implNewDesk_any w2).mono ?_
  rintro e w3 ⟨Ra, Rb, Rc, Rd, Re, Rla, Rua, Rlb, Rub, Rlc, Ruc, Rld, Rud, Rle, Rue, rfl, hoa, hob, hoc, hod, hoe, Re0, Re1, Re2, Re3, Re4, Re5, Re6, Re7, Re8, Re9, Re10, hb⟩
  have HB3 := hide (HB2.out.trans (hb.mono HB2.out.size))
  have hs3 : w2.heap.size ≤ w3.heap.size := hb.size
  have HXW := hide (blk_below hb (by omega) HXW.out)
  have HOWa := hide (HOWa.out.below hb)
  have HOWb := hide (HOWb.out.below hb)
  have HOWc := hide (HOWc.out.below hb)
  have HOWd := hide (HOWd.out.below hb)
  have HOWe := hide (HOWe.out.below hb)
  clear hb
  have HORa := hide hoa
  clear hoa
  have HORb := hide hob
  clear hob
  have HORc := hide hoc
  clear hoc
  have HORd := hide hod
  clear hod
  have HORe := hide hoe
  clear hoe
  obtain ⟨w4, hwe⟩ : ∃ u, u = w3.alloc (.cells #[.slice (some ⟨Ra, 0, none⟩) 2 2, .slice (some ⟨Rb, 0, none⟩) 2 2, .slice (some ⟨Rc, 0, none⟩) 3 3, .slice (some ⟨Rd, 0, none⟩) 3 3, .slice (some ⟨Re, 0, none⟩) 3 3] 32) := ⟨_, rfl⟩
  have hb : Below w3.heap.size w3 w4 := by rw [hwe]; exact (Below.refl _ _).alloc (Nat.le_refl _) _
  have HN : Hid (w4.heap[w3.heap.size]? = some (.cells #[.slice (some ⟨Ra, 0, none⟩) 2 2, .slice (some ⟨Rb, 0, none⟩) 2 2, .slice (some ⟨Rc, 0, none⟩) 3 3, .slice (some ⟨Rd, 0, none⟩) 3 3, .slice (some ⟨Re, 0, none⟩) 3 3] 32)) := by rw [hwe]; exact blocks1 w3 _
  have hn4 : w3.heap.size + 1 ≤ w4.heap.size := by rw [hwe]; simp
  have iW0 := Joins.cell_of_block (blk_below hb (by omega) HXW.out) 0
  simp at iW0
  rw [hwe] at iW0
  have iW1 := Joins.cell_of_block (blk_below hb (by omega) HXW.out) 1
  simp at iW1
  rw [hwe] at iW1
  have iW2 := Joins.cell_of_block (blk_below hb (by omega) HXW.out) 2
  simp at iW2
  rw [hwe] at iW2
  have iW3 := Joins.cell_of_block (blk_below hb (by omega) HXW.out) 3
  simp at iW3
  rw [hwe] at iW3
  have iW4 := Joins.cell_of_block (blk_below hb (by omega) HXW.out) 4
  simp at iW4
  rw [hwe] at iW4
  have HWE := hide hwe
  clear hwe
  go_wp2_with fail
  rw [← HWE.out]
  clear HWE iW0 iW1 iW2 iW3 iW4
  have HB4 := hide (HB3.out.trans (hb.mono HB3.out.size))
  have hs4 : w3.heap.size ≤ w4.heap.size := hb.size
  have HXW := hide (blk_below hb (by omega) HXW.out)
  have HOWa := hide (HOWa.out.below hb)
  have HOWb := hide (HOWb.out.below hb)
  have HOWc := hide (HOWc.out.below hb)
  have HOWd := hide (HOWd.out.below hb)
  have HOWe := hide (HOWe.out.below hb)
  have HORa := hide (HORa.out.below hb)
  have HORb := hide (HORb.out.below hb)
  have HORc := hide (HORc.out.below hb)
  have HORd := hide (HORd.out.below hb)
  have HORe := hide (HORe.out.below hb)
  clear hb
  have HXR := HN
  clear HN
  refine (eqDesk_any _ _ 2 _ _ ndA _ _ 2 _ _ ndB _ _ 3 _ _ ndC _ _ 3 _ _ ndD _ _ 3 _ _ ndE ndE w4 (by decide) HORa.out.sl HOWa.out.sl (by decide) HORb.out.sl HOWb.out.sl (by decide) HORc.out.sl HOWc.out.sl (by decide) HORd.out.sl HOWd.out.sl (by decide) HORe.out.sl HOWe.out.sl (fun _ _ => FS.refl _ _)).mono ?_
  rintro e w5 ⟨rfl, hb⟩
  have HB5 := hide (HB4.out.trans (hb.mono HB4.out.size))
  have hs5 : w4.heap.size ≤ w5.heap.size := hb.size
  have HXW := hide (blk_below hb (by omega) HXW.out)
  have HXR := hide (blk_below hb (by omega) HXR.out)
  have HOWa := hide (HOWa.out.below hb)
  have HOWb := hide (HOWb.out.below hb)
  have HOWc := hide (HOWc.out.below hb)
  have HOWd := hide (HOWd.out.below hb)
  have HOWe := hide (HOWe.out.below hb)
  have HORa := hide (HORa.out.below hb)
  have HORb := hide (HORb.out.below hb)
  have HORc := hide (HORc.out.below hb)
  have HORd := hide (HORd.out.below hb)
  have HORe := hide (HORe.out.below hb)
  clear hb
  have kR0 := Joins.cell_of_block HXR.out 0
  simp at kR0
  have kR1 := Joins.cell_of_block HXR.out 1
  simp at kR1
  have kR2 := Joins.cell_of_block HXR.out 2
  simp at kR2
  have kR3 := Joins.cell_of_block HXR.out 3
  simp at kR3
  have kR4 := Joins.cell_of_block HXR.out 4
  simp at kR4
  go_wp2_with fail
  refine (markDesk_any _ 2 _ ndA Rla Rua _ 2 _ ndB Rlb Rub _ 3 _ ndC Rlc Ruc _ 3 _ ndD Rld Rud _ 3 _ ndE Rle Rue 1 w5 (by decide) (by decide) (by decide) (by decide) (by decide) (by omega) (by omega) HORa.out HORb.out HORc.out HORd.out HORe.out (by omega) (by omega) (by omega) (by omega) (by omega) (by omega) (by omega) (by omega) (by omega) (by omega)).mono ?_
  rintro e w6 ⟨rfl, hta, htb, htc, htd, hte, hw⟩
  have HB6 := hide (HB5.out.trans (hw.bel (by omega) (by omega)))
  have hs6 : w5.heap.size ≤ w6.heap.size := hw.size
  have HXW := hide (blk_marked hw (by omega) (by omega) HXW.out)
  have HXR := hide (blk_marked hw (by omega) (by omega) HXR.out)
  have HOWa := hide (HOWa.out.marked hw (by omega))
  have HOWb := hide (HOWb.out.marked hw (by omega))
  have HOWc := hide (HOWc.out.marked hw (by omega))
  have HOWd := hide (HOWd.out.marked hw (by omega))
  have HOWe := hide (HOWe.out.marked hw (by omega))
  clear hw
  have HTa := hide hta
  clear hta HORa
  have HTb := hide htb
  clear htb HORb
  have HTc := hide htc
  clear htc HORc
  have HTd := hide htd
  clear htd HORd
  have HTe := hide hte
  clear hte HORe
  clear kR0 kR1 kR2 kR3 kR4
  have kR0 := Joins.cell_of_block HXR.out 0
  simp at kR0
  have kR1 := Joins.cell_of_block HXR.out 1
  simp at kR1
  have kR2 := Joins.cell_of_block HXR.out 2
  simp at kR2
  have kR3 := Joins.cell_of_block HXR.out 3
  simp at kR3
  have kR4 := Joins.cell_of_block HXR.out 4
  simp at kR4
  go_wp2_with fail
  refine (heldDesk_any _ 2 _ _ 2 _ _ 3 _ _ 3 _ _ 3 _ 1 w6 (by decide) (by decide) (by decide) (by decide) (by decide) (by omega) (by omega) HTa.out HTb.out HTc.out HTd.out HTe.out).mono ?_
  rintro e w7 ⟨rfl, hb⟩
  have HTa := hide (HTa.out.below hb)
  have HTb := hide (HTb.out.below hb)
  have HTc := hide (HTc.out.below hb)
  have HTd := hide (HTd.out.below hb)
  have HTe := hide (HTe.out.below hb)
  have HB7 := hide (HB6.out.trans (hb.mono HB6.out.size))
  have hs7 : w6.heap.size ≤ w7.heap.size := hb.size
  have HXW := hide (blk_below hb (by omega) HXW.out)
  have HXR := hide (blk_below hb (by omega) HXR.out)
  have HOWa := hide (HOWa.out.below hb)
  have HOWb := hide (HOWb.out.below hb)
  have HOWc := hide (HOWc.out.below hb)
  have HOWd := hide (HOWd.out.below hb)
  have HOWe := hide (HOWe.out.below hb)
  clear hb
  clear kR0 kR1 kR2 kR3 kR4
  go_wp2_with fail
  refine (implNewDesk_any w7).mono ?_
  rintro e w8 ⟨Qa, Qb, Qc, Qd, Qe, Qla, Qua, Qlb, Qub, Qlc, Quc, Qld, Qud, Qle, Que, rfl, hoa, hob, hoc, hod, hoe, Qe0, Qe1, Qe2, Qe3, Qe4, Qe5, Qe6, Qe7, Qe8, Qe9, Qe10, hb⟩
  have HTa := hide (HTa.out.below hb)
  have HTb := hide (HTb.out.below hb)
  have HTc := hide (HTc.out.below hb)
  have HTd := hide (HTd.out.below hb)
  have HTe := hide (HTe.out.below hb)
  have HB8 := hide (HB7.out.trans (hb.mono HB7.out.size))
  have hs8 : w7.heap.size ≤ w8.heap.size := hb.size
  have HXW := hide (blk_below hb (by omega) HXW.out)
  have HXR := hide (blk_below hb (by omega) HXR.out)
  have HOWa := hide (HOWa.out.below hb)
  have HOWb := hide (HOWb.out.below hb)
  have HOWc := hide (HOWc.out.below hb)
  have HOWd := hide (HOWd.out.below hb)
  have HOWe := hide (HOWe.out.below hb)
  clear hb
  have HOQa := hide hoa
  clear hoa
  have HOQb := hide hob
  clear hob
  have HOQc := hide hoc
  clear hoc
  have HOQd := hide hod
  clear hod
  have HOQe := hide hoe
  clear hoe
  obtain ⟨w9, hwe⟩ : ∃ u, u = w8.alloc (.cells #[.slice (some ⟨Qa, 0, none⟩) 2 2, .slice (some ⟨Qb, 0, none⟩) 2 2, .slice (some ⟨Qc, 0, none⟩) 3 3, .slice (some ⟨Qd, 0, none⟩) 3 3, .slice (some ⟨Qe, 0, none⟩) 3 3] 32) := ⟨_, rfl⟩
  have hb : Below w8.heap.size w8 w9 := by rw [hwe]; exact (Below.refl _ _).alloc (Nat.le_refl _) _
  have HN : Hid (w9.heap[w8.heap.size]? = some (.cells #[.slice (some ⟨Qa, 0, none⟩) 2 2, .slice (some ⟨Qb, 0, none⟩) 2 2, .slice (some ⟨Qc, 0, none⟩) 3 3, .slice (some ⟨Qd, 0, none⟩) 3 3, .slice (some ⟨Qe, 0, none⟩) 3 3] 32)) := by rw [hwe]; exact blocks1 w8 _
  have hn9 : w8.heap.size + 1 ≤ w9.heap.size := by rw [hwe]; simp
  have iW0 := Joins.cell_of_block (blk_below hb (by omega) HXW.out) 0
  simp at iW0
  have jW0 := iW0
  rw [hwe] at iW0
  have iW1 := Joins.cell_of_block (blk_below hb (by omega) HXW.out) 1
  simp at iW1
  have jW1 := iW1
  rw [hwe] at iW1
  have iW2 := Joins.cell_of_block (blk_below hb (by omega) HXW.out) 2
  simp at iW2
  have jW2 := iW2
  rw [hwe] at iW2
  have iW3 := Joins.cell_of_block (blk_below hb (by omega) HXW.out) 3
  simp at iW3
  have jW3 := iW3
  rw [hwe] at iW3
  have iW4 := Joins.cell_of_block (blk_below hb (by omega) HXW.out) 4
  simp at iW4
  have jW4 := iW4
  rw [hwe] at iW4
  have HWE := hide hwe
  clear hwe
  go_wp2_with fail
  rw [← HWE.out]
  clear HWE iW0 jW0 iW1 jW1 iW2 jW2 iW3 jW3 iW4 jW4
  have HTa := hide (HTa.out.below hb)
  have HTb := hide (HTb.out.below hb)
  have HTc := hide (HTc.out.below hb)
  have HTd := hide (HTd.out.below hb)
  have HTe := hide (HTe.out.below hb)
  have HB9 := hide (HB8.out.trans (hb.mono HB8.out.size))
  have hs9 : w8.heap.size ≤ w9.heap.size := hb.size
  have HXW := hide (blk_below hb (by omega) HXW.out)
  have HXR := hide (blk_below hb (by omega) HXR.out)
  have HOWa := hide (HOWa.out.below hb)
  have HOWb := hide (HOWb.out.below hb)
  have HOWc := hide (HOWc.out.below hb)
  have HOWd := hide (HOWd.out.below hb)
  have HOWe := hide (HOWe.out.below hb)
  have HOQa := hide (HOQa.out.below hb)
  have HOQb := hide (HOQb.out.below hb)
  have HOQc := hide (HOQc.out.below hb)
  have HOQd := hide (HOQd.out.below hb)
  have HOQe := hide (HOQe.out.below hb)
  clear hb
  have HXQ := HN
  clear HN
  refine (eqDesk_any _ _ 2 _ _ ndA _ _ 2 _ _ ndB _ _ 3 _ _ ndC _ _ 3 _ _ ndD _ _ 3 _ _ ndE ndE w9 (by decide) HOQa.out.sl HOWa.out.sl (by decide) HOQb.out.sl HOWb.out.sl (by decide) HOQc.out.sl HOWc.out.sl (by decide) HOQd.out.sl HOWd.out.sl (by decide) HOQe.out.sl HOWe.out.sl (fun _ _ => FS.refl _ _)).mono ?_
  rintro e w10 ⟨rfl, hb⟩
  have HTa := hide (HTa.out.below hb)
  have HTb := hide (HTb.out.below hb)
  have HTc := hide (HTc.out.below hb)
  have HTd := hide (HTd.out.below hb)
  have HTe := hide (HTe.out.below hb)
  have HB10 := hide (HB9.out.trans (hb.mono HB9.out.size))
  have hs10 : w9.heap.size ≤ w10.heap.size := hb.size
  have HXW := hide (blk_below hb (by omega) HXW.out)
  have HXR := hide (blk_below hb (by omega) HXR.out)
  have HXQ := hide (blk_below hb (by omega) HXQ.out)
  have HOWa := hide (HOWa.out.below hb)
  have HOWb := hide (HOWb.out.below hb)
  have HOWc := hide (HOWc.out.below hb)
  have HOWd := hide (HOWd.out.below hb)
  have HOWe := hide (HOWe.out.below hb)
  have HOQa := hide (HOQa.out.below hb)
  have HOQb := hide (HOQb.out.below hb)
  have HOQc := hide (HOQc.out.below hb)
  have HOQd := hide (HOQd.out.below hb)
  have HOQe := hide (HOQe.out.below hb)
  clear hb
  have kR0 := Joins.cell_of_block HXR.out 0
  simp at kR0
  have kR1 := Joins.cell_of_block HXR.out 1
  simp at kR1
  have kR2 := Joins.cell_of_block HXR.out 2
  simp at kR2
  have kR3 := Joins.cell_of_block HXR.out 3
  simp at kR3
  have kR4 := Joins.cell_of_block HXR.out 4
  simp at kR4
  go_wp2_with fail
  refine (heldDesk_any _ 2 _ _ 2 _ _ 3 _ _ 3 _ _ 3 _ 1 w10 (by decide) (by decide) (by decide) (by decide) (by decide) (by omega) (by omega) HTa.out HTb.out HTc.out HTd.out HTe.out).mono ?_
  rintro e w11 ⟨rfl, hb⟩
  have HTa := hide (HTa.out.below hb)
  have HTb := hide (HTb.out.below hb)
  have HTc := hide (HTc.out.below hb)
  have HTd := hide (HTd.out.below hb)
  have HTe := hide (HTe.out.below hb)
  have HB11 := hide (HB10.out.trans (hb.mono HB10.out.size))
  have hs11 : w10.heap.size ≤ w11.heap.size := hb.size
  have HXW := hide (blk_below hb (by omega) HXW.out)
  have HXR := hide (blk_below hb (by omega) HXR.out)
  have HXQ := hide (blk_below hb (by omega) HXQ.out)
  have HOWa := hide (HOWa.out.below hb)
  have HOWb := hide (HOWb.out.below hb)
  have HOWc := hide (HOWc.out.below hb)
  have HOWd := hide (HOWd.out.below hb)
  have HOWe := hide (HOWe.out.below hb)
  have HOQa := hide (HOQa.out.below hb)
  have HOQb := hide (HOQb.out.below hb)
  have HOQc := hide (HOQc.out.below hb)
  have HOQd := hide (HOQd.out.below hb)
  have HOQe := hide (HOQe.out.below hb)
  clear hb
  clear kR0 kR1 kR2 kR3 kR4
  go_wp2_with fail
  go_ret
  exact ⟨rfl, HB11.out⟩
end Go.Proofs.Ytbcajjpgpjadaaa
