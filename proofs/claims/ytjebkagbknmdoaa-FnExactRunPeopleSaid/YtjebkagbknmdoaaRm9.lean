/- RunPeople, by the program. -/
import Derived.Test.YtjebkagbknmdoaaNi9
import Derived.Test.YtjebkagbknmdoaaRp8
namespace Go.Proofs.Ytjebkagbknmdoaa
open Go.RowKit Go.Dues
/-- three rows named by a struct, apart from two blocks -/
def RnQ (w0 wr : World) (N R n : Nat) (X Y Z : Nat → Nat) : Prop :=
  ∃ G1 d1 G2 d2 G3 d3, ∃ l1 u1 l2 u2 l3 u3, wr.heap[N]? = some (.cells #[.slice G1 n d1, .slice G2 n d2, .slice G3 n d3] 49) ∧
    OW wr l1 u1 G1 n (fun j => .float .f32 (X j)) ∧ OW wr l2 u2 G2 n (fun j => .float .f32 (Y j)) ∧ OW wr l3 u3 G3 n (fun j => .float .f32 (Z j)) ∧
    (w0.heap.size ≤ l1 ∧ l1 ≤ u1 ∧ u1 ≤ wr.heap.size) ∧ (w0.heap.size ≤ l2 ∧ l2 ≤ u2 ∧ u2 ≤ wr.heap.size) ∧ (w0.heap.size ≤ l3 ∧ l3 ≤ u3 ∧ u3 ≤ wr.heap.size) ∧
    (u1 ≤ l2 ∨ u2 ≤ l1) ∧ (u1 ≤ l3 ∨ u3 ≤ l1) ∧ (u2 ≤ l3 ∨ u3 ≤ l2) ∧ (R < l1 ∨ u1 ≤ R) ∧ (R < l2 ∨ u2 ≤ R) ∧ (R < l3 ∨ u3 ≤ R)
theorem lenV_iff {p q : Prop} {n : Nat} (h : p ↔ q) : lenV p n = lenV q n := by rw [propext h]
theorem tru_iff {p q : Prop} (h : p ↔ q) : tru p = tru q := by rw [propext h]
set_option maxRecDepth 100000 in
set_option maxHeartbeats 16000000 in
theorem implMany_any (w0 w : World) (G1 G2 G3 : Option Addr) (d1 d2 d3 l1 u1 l2 u2 l3 u3 n T : Nat) (x y z : Nat → Nat) (hT : T ≤ 64) (hpp : ppP x n y n z n)
    (o1 : OW w l1 u1 G1 n (fun j => .float .f32 (x j))) (o2 : OW w l2 u2 G2 n (fun j => .float .f32 (y j))) (o3 : OW w l3 u3 G3 n (fun j => .float .f32 (z j)))
    (r1 : w0.heap.size ≤ l1 ∧ l1 ≤ u1 ∧ u1 ≤ w.heap.size) (r2 : w0.heap.size ≤ l2 ∧ l2 ≤ u2 ∧ u2 ≤ w.heap.size) (r3 : w0.heap.size ≤ l3 ∧ l3 ≤ u3 ∧ u3 ≤ w.heap.size)
    (s1 : u1 ≤ l2 ∨ u2 ≤ l1) (s2 : u1 ≤ l3 ∨ u3 ≤ l1) (s3 : u2 ≤ l3 ∨ u3 ≤ l2) (h0 : Below w0.heap.size w0 w) :
    Calls Try.prog 93 #[.agg #[.slice G1 n d1, .slice G2 n d2, .slice G3 n d3], .int .i64 (T : Int), .func (Fn.func 32) #[] #[]] w fun e w' => GaveP w0 w' e (∀ i : Nat, i < T → npP (rpV x y z n i) n y n z n) n n n (rpV x y z n T) y z := by
  obtain ⟨W1, hW1⟩ : ∃ u, u = w.alloc (.cells #[.slice G1 n d1, .slice G2 n d2, .slice G3 n d3] 49) := ⟨_, rfl⟩
  obtain ⟨W, hW⟩ : ∃ u, u = W1.alloc (.cells #[.slice none 0 0, .slice none 0 0, .slice none 0 0] 49) := ⟨_, rfl⟩
  have z1 : W1.heap.size = w.heap.size + 1 := by rw [hW1]; simp
  have z2 : W.heap.size = w.heap.size + 2 := by rw [hW]; simp; omega
  have hB1 : Below w.heap.size w W1 := by rw [hW1]; exact (Below.refl _ _).alloc (Nat.le_refl _) _
  have hB2 : Below W1.heap.size W1 W := by rw [hW]; exact (Below.refl _ _).alloc (Nat.le_refl _) _
  have HBW : Hid (Below w.heap.size w W) := hB1.trans (hB2.mono (by omega))
  have HX : Hid (W.heap[w.heap.size]? = some (.cells #[.slice G1 n d1, .slice G2 n d2, .slice G3 n d3] 49)) := by
    refine blk_below hB2 (by omega) ?_
    rw [hW1]; exact blocks1 w _
  have HR : Hid (W.heap[w.heap.size + 1]? = some (.cells #[.slice none 0 0, .slice none 0 0, .slice none 0 0] 49)) := by
    rw [← z1, hW]; exact blocks1 W1 _
  have z3 : W.heap.size = w.heap.size + 1 + 1 := by omega
  have HRN0 : Hid (RnQ w0 (W.alloc (.cells #[.slice G1 n d1, .slice G2 n d2, .slice G3 n d3] 49)) (w.heap.size + 1 + 1) (w.heap.size + 1) n (rpV x y z n 0) y z) := by
    have hba : Below W.heap.size W (W.alloc (.cells #[.slice G1 n d1, .slice G2 n d2, .slice G3 n d3] 49)) := (Below.refl _ _).alloc (Nat.le_refl _) _
    have hbw : Below w.heap.size w (W.alloc (.cells #[.slice G1 n d1, .slice G2 n d2, .slice G3 n d3] 49)) := HBW.out.trans (hba.mono (by omega))
    have hsz := hba.size
    have hbl := blocks1 W (.cells #[.slice G1 n d1, .slice G2 n d2, .slice G3 n d3] 49)
    rw [z3] at hbl
    exact ⟨G1, d1, G2, d2, G3, d3, l1, u1, l2, u2, l3, u3, hbl, o1.below hbw, o2.below hbw, o3.below hbw, by omega, by omega, by omega, s1, s2, s3, by omega, by omega, by omega⟩
  have HB0 := hide (h0.trans (HBW.out.mono h0.size))
  have HBA : Hid (Below (w.heap.size + 1 + 1) W (W.alloc (.cells #[.slice G1 n d1, .slice G2 n d2, .slice G3 n d3] 49))) := by rw [← z3]; exact (Below.refl _ _).alloc (Nat.le_refl _) _
  have hz0 := h0.size
  have hz : (w.heap.size + 1 + 1) ≤ W.heap.size := by omega
  have n12 := hpp.1.2
  have n2 := hpp.1.1
  have HPP := hide hpp
  have HW1 := hide hW1
  have HWW := hide hW
  have k0 := Joins.cell_of_block HX.out 0
  have k1 := Joins.cell_of_block HX.out 1
  have k2 := Joins.cell_of_block HX.out 2
  simp at k0 k1 k2
  clear o1 o2 o3 r1 r2 r3 s1 s2 s3 h0 hW1 hW hB1 hB2 hpp z1 z2 z3
  go_enter Try.func93, Try.ntmps93
  go_wp2_with fail
  rw [← HW1.out, ← HWW.out]
  clear HW1 HWW
  go_wp2_with fail
  go_loopw [7, 10, 13] (fun _ _ i wr => ∃ k : Nat, k ≤ T ∧ i = .int .i64 (k : Int) ∧ Hid (∀ i, i < k → npP (rpV x y z n i) n y n z n) ∧ Hid (RnQ w0 wr (w.heap.size + 1 + 1) (w.heap.size + 1) n (rpV x y z n k) y z) ∧ Hid (Below (w.heap.size + 1 + 1) W wr)) (fun _ _ i _ => T - (intOf i).toNat)
  case atStart => exact ⟨0, Nat.zero_le _, rfl, fun i hi => absurd hi (by omega), HRN0.out, HBA.out⟩
  case round =>
    obtain ⟨k, hk, rfl, hnp, hrn, hbel⟩ := hrel
    clear HRN0
    obtain ⟨E1, f1, E2, f2, E3, f3, b1', c1, b2', c2, b3', c3, hblk, o1, o2, o3, r1, r2, r3, s1, s2, s3, t1, t2, t3⟩ := hrn.out
    have HBK := hide hblk
    have HP1 := hide o1
    have HP2 := hide o2
    have HP3 := hide o3
    have hbel := hbel.out
    have HBL := hide hbel
    have HRr := hide (blk_below hbel (by omega) HR.out)
    have HBw := hide (HB0.out.trans (hbel.mono (by omega)))
    have hzr := hbel.size
    have hNr : (w.heap.size + 1 + 1) < wr.heap.size := (Array.getElem?_eq_some_iff.1 hblk).1
    clear hrn hblk o1 o2 o3 hbel
    have b0 := Joins.cell_of_block HBK.out 0
    have b1 := Joins.cell_of_block HBK.out 1
    have b2 := Joins.cell_of_block HBK.out 2
    have ub0 := Joins.unfrozen_of_block HBK.out 0
    have ub1 := Joins.unfrozen_of_block HBK.out 1
    have ub2 := Joins.unfrozen_of_block HBK.out 2
    simp at b0 b1 b2
    (try simp at ub0 ub1 ub2)
    by_cases hlt : k < T
    · have hpos : (k : Int) < (T : Int) := by omega
      go_wp2_with fail
      refine (implNextPplC_any E1 n f1 (rpV x y z n k) E2 n f2 y E3 n f3 z wr (by unfold maxLen; omega) HP1.out.sl (by unfold maxLen; omega) HP2.out.sl (by unfold maxLen; omega) HP3.out.sl).mono ?_
      rintro e v hg
      by_cases hnx : npP (rpV x y z n k) n y n z n
      · obtain ⟨I1, j1, I2, j2, I3, j3, l1', u1', l2', u2', l3', u3', rfl, p1, p2, p3, q1, q2, q3, v1, v2', v3, hb⟩ := gavep_yes hg hnx (fun j hj => hd_fin (hnx.2 j hj)) (fun j hj => shB_fin (HPP.out.2.2.2.2.1 j hj)) (fun j hj => hd_fin (HPP.out.2.2.2.2.2 j hj))
        have HBv := hide (HBL.out.trans (hb.mono (by omega)))
        have HZ := hide (blocks1 v (.cells #[.slice I1 n j1, .slice I2 n j2, .slice I3 n j3] 49))
        have hba : Below v.heap.size v (v.alloc (.cells #[.slice I1 n j1, .slice I2 n j2, .slice I3 n j3] 49)) := (Below.refl _ _).alloc (Nat.le_refl _) _
        have hsz := hba.size
        have hbz := hb.size
        have HKN : Hid ((v.alloc (.cells #[.slice I1 n j1, .slice I2 n j2, .slice I3 n j3] 49)).heap[(w.heap.size + 1 + 1)]? = some (.cells #[.slice E1 n f1, .slice E2 n f2, .slice E3 n f3] 49)) := blk_below hba (by omega) (blk_below hb hNr HBK.out)
        have HRN : Hid (RnQ w0 (put3 (v.alloc (.cells #[.slice I1 n j1, .slice I2 n j2, .slice I3 n j3] 49)) (w.heap.size + 1 + 1) (.slice I1 n j1) (.slice I2 n j2) (.slice I3 n j3)) (w.heap.size + 1 + 1) (w.heap.size + 1) n (rpV x y z n (k + 1)) y z) := by
          refine ⟨I1, j1, I2, j2, I3, j3, l1', u1', l2', u2', l3', u3', put3_block HKN.out, put3_ow (p1.below hba) (.inl (by omega)), put3_ow (p2.below hba) (.inl (by omega)), put3_ow (p3.below hba) (.inl (by omega)), ?_, ?_, ?_, v1, v2', v3, .inl (by omega), .inl (by omega), .inl (by omega)⟩
          · rw [put3_size]; omega
          · rw [put3_size]; omega
          · rw [put3_size]; omega
        have HBN : Hid (Below (w.heap.size + 1 + 1) W (put3 (v.alloc (.cells #[.slice I1 n j1, .slice I2 n j2, .slice I3 n j3] 49)) (w.heap.size + 1 + 1) (.slice I1 n j1) (.slice I2 n j2) (.slice I3 n j3))) := put3_below (HBv.out.trans (hba.mono (by omega))) (by omega)
        have HNP := hide (show ∀ i, i < k + 1 → npP (rpV x y z n i) n y n z n from fun i hi => by
          by_cases h : i < k
          · exact hnp.out i h
          · obtain rfl : i = k := by omega
            exact hnx)
        clear hg hb p1 p2 p3 hba b0 b1 b2 ub0 ub1 ub2 hnx
        have a0 := Joins.cell_of_block HZ.out 0
        have a1 := Joins.cell_of_block HZ.out 1
        have a2 := Joins.cell_of_block HZ.out 2
        have ua0 := Joins.unfrozen_of_block HZ.out 0
        have ua1 := Joins.unfrozen_of_block HZ.out 1
        have ua2 := Joins.unfrozen_of_block HZ.out 2
        simp at a0 a1 a2
        (try simp at ua0 ua1 ua2)
        have n0 := Joins.cell_of_block HKN.out 0
        have n1 := Joins.cell_of_block HKN.out 1
        have n2 := Joins.cell_of_block HKN.out 2
        have un0 := Joins.unfrozen_of_block HKN.out 0
        have un1 := Joins.unfrozen_of_block HKN.out 1
        have un2 := Joins.unfrozen_of_block HKN.out 2
        simp at n0 n1 n2
        (try simp at un0 un1 un2)
        go_wp2_with fail
        go_roundw
        case rel => exact ⟨k + 1, by omega, by go_num, HNP.out, HRN.out, HBN.out⟩
        case measure => simp [intOf]; omega
      · obtain ⟨I1, j1, I2, j2, I3, j3, l1', u1', l2', u2', l3', u3', rfl, p1, p2, p3, q1, q2, q3, v1, v2', v3, hb⟩ := gavep_not hg hnx
        have HH := hide (show ¬ (∀ i : Nat, i < T → npP (rpV x y z n i) n y n z n) from fun h => hnx (h k hlt))
        have HBv := hide (HBw.out.trans (hb.mono HBw.out.size))
        have HZ := hide (blocks1 v (.cells #[.slice I1 0 j1, .slice I2 0 j2, .slice I3 0 j3] 49))
        have hba : Below v.heap.size v (v.alloc (.cells #[.slice I1 0 j1, .slice I2 0 j2, .slice I3 0 j3] 49)) := (Below.refl _ _).alloc (Nat.le_refl _) _
        have hbz := hb.size
        have hsz := hba.size
        have HRz : Hid ((v.alloc (.cells #[.slice I1 0 j1, .slice I2 0 j2, .slice I3 0 j3] 49)).heap[w.heap.size + 1]? = some (.cells #[.slice none 0 0, .slice none 0 0, .slice none 0 0] 49)) := blk_below hba (by omega) (blk_below hb (by omega) HRr.out)
        have HBz := hide (HBv.out.trans (hba.mono HBv.out.size))
        clear hg hb p1 p2 p3 hba b0 b1 b2 ub0 ub1 ub2 hnx
        have a0 := Joins.cell_of_block HZ.out 0
        have a1 := Joins.cell_of_block HZ.out 1
        have a2 := Joins.cell_of_block HZ.out 2
        have ua0 := Joins.unfrozen_of_block HZ.out 0
        have ua1 := Joins.unfrozen_of_block HZ.out 1
        have ua2 := Joins.unfrozen_of_block HZ.out 2
        simp at a0 a1 a2
        (try simp at ua0 ua1 ua2)
        have n0 := Joins.cell_of_block HRz.out 0
        have n1 := Joins.cell_of_block HRz.out 1
        have n2 := Joins.cell_of_block HRz.out 2
        have un0 := Joins.unfrozen_of_block HRz.out 0
        have un1 := Joins.unfrozen_of_block HRz.out 1
        have un2 := Joins.unfrozen_of_block HRz.out 2
        simp at n0 n1 n2
        (try simp at un0 un1 un2)
        go_wp2_with fail
        have R := put3_block (a := .slice I1 0 j1) (b := .slice I2 0 j2) (c := .slice I3 0 j3) HRz.out
        unfold put3 at R
        have k3 := Joins.cell_of_block R 0
        have k4 := Joins.cell_of_block R 1
        have k5 := Joins.cell_of_block R 2
        simp at k3 k4 k5
        refine bodyPost_ret (v := .tuple #[.agg #[.slice I1 0 j1, .slice I2 0 j2, .slice I3 0 j3], .bool false]) (by simp [results, Try.results93, go_sem, k3, k4, k5]) rfl ⟨I1, j1, fun _ => 0, I2, j2, fun _ => 0, I3, j3, fun _ => 0, l1', u1', l2', u2', l3', u3', by rw [lenV_no HH.out, tru_no HH.out], .inl (lenV_no HH.out), .inl (lenV_no HH.out), .inl (lenV_no HH.out), fun j hj => absurd hj (by rw [lenV_no HH.out]; omega), fun j hj => absurd hj (by rw [lenV_no HH.out]; omega), fun j hj => absurd hj (by rw [lenV_no HH.out]; omega), ?_, ?_, ?_, v1, v2', v3, trivial, ?_⟩
        · refine ⟨by omega, by omega, ?_⟩
          simp
          omega
        · refine ⟨by omega, by omega, ?_⟩
          simp
          omega
        · refine ⟨by omega, by omega, ?_⟩
          simp
          omega
        · exact put3_below HBz.out (by omega)
    · obtain rfl : k = T := by omega
      have hpos : ¬ (k : Int) < (k : Int) := by omega
      have HH := hide (show ∀ i : Nat, i < k → npP (rpV x y z n i) n y n z n from hnp.out)
      have n0 := Joins.cell_of_block HRr.out 0
      have n1 := Joins.cell_of_block HRr.out 1
      have n2 := Joins.cell_of_block HRr.out 2
      have un0 := Joins.unfrozen_of_block HRr.out 0
      have un1 := Joins.unfrozen_of_block HRr.out 1
      have un2 := Joins.unfrozen_of_block HRr.out 2
      simp at n0 n1 n2
      (try simp at un0 un1 un2)
      go_wp2_with fail
      have e1 := HP1.out
      have e2 := HP2.out
      have e3 := HP3.out
      have R := put3_block (a := .slice E1 n f1) (b := .slice E2 n f2) (c := .slice E3 n f3) HRr.out
      unfold put3 at R
      have k3 := Joins.cell_of_block R 0
      have k4 := Joins.cell_of_block R 1
      have k5 := Joins.cell_of_block R 2
      simp at k3 k4 k5
      refine bodyPost_ret (v := .tuple #[.agg #[.slice E1 n f1, .slice E2 n f2, .slice E3 n f3], .bool true]) (by simp [results, Try.results93, go_sem, k3, k4, k5]) rfl ⟨E1, f1, rpV x y z n k, E2, f2, y, E3, f3, z, b1', c1, b2', c2, b3', c3, by rw [lenV_yes HH.out, tru_yes HH.out], ?_, ?_, ?_, fun j hj => FS.refl _ _, fun j hj => FS.refl _ _, fun j hj => FS.refl _ _, ?_, ?_, ?_, s1, s2, s3, trivial, ?_⟩
      · rw [lenV_yes HH.out]; exact put3_ow e1 (by omega)
      · rw [lenV_yes HH.out]; exact put3_ow e2 (by omega)
      · rw [lenV_yes HH.out]; exact put3_ow e3 (by omega)
      · refine ⟨by omega, by omega, ?_⟩
        simp
        omega
      · refine ⟨by omega, by omega, ?_⟩
        simp
        omega
      · refine ⟨by omega, by omega, ?_⟩
        simp
        omega
      · exact put3_below HBw.out (by omega)
set_option maxRecDepth 100000 in
set_option maxHeartbeats 16000000 in
theorem implRunPpl_any (A : Option Addr) (n ca : Nat) (x : Nat → Nat) (B : Option Addr) (m cb : Nat) (y : Nat → Nat) (C : Option Addr) (l cc : Nat) (z : Nat → Nat) (t : Int) (w : World) (hn : n ≤ maxLen) (hs : SL w A n (fun j => .float .f32 (x j))) (hm : m ≤ maxLen) (hs' : SL w B m (fun j => .float .f32 (y j))) (hl : l ≤ maxLen) (hs'' : SL w C l (fun j => .float .f32 (z j))) :
    Calls Try.prog 37 #[.agg #[.slice A n ca, .slice B m cb, .slice C l cc], .int .i64 t] w fun e w' => GaveP w w' e (rpP x n y m z l t) n n n (rpV x y z n t.toNat) y z := by
  obtain ⟨W1, hW1⟩ : ∃ u, u = w.alloc (.cells #[.slice A n ca, .slice B m cb, .slice C l cc] 49) := ⟨_, rfl⟩
  obtain ⟨W, hW⟩ : ∃ u, u = W1.alloc (.cells #[.slice none 0 0, .slice none 0 0, .slice none 0 0] 49) := ⟨_, rfl⟩
  have z1 : W1.heap.size = w.heap.size + 1 := by rw [hW1]; simp
  have z2 : W.heap.size = w.heap.size + 2 := by rw [hW]; simp; omega
  have hB1 : Below w.heap.size w W1 := by rw [hW1]; exact (Below.refl _ _).alloc (Nat.le_refl _) _
  have hB2 : Below W1.heap.size W1 W := by rw [hW]; exact (Below.refl _ _).alloc (Nat.le_refl _) _
  have HBW : Hid (Below w.heap.size w W) := hB1.trans (hB2.mono (by omega))
  have HX : Hid (W.heap[w.heap.size]? = some (.cells #[.slice A n ca, .slice B m cb, .slice C l cc] 49)) := by
    refine blk_below hB2 (by omega) ?_
    rw [hW1]; exact blocks1 w _
  have HR : Hid (W.heap[w.heap.size + 1]? = some (.cells #[.slice none 0 0, .slice none 0 0, .slice none 0 0] 49)) := by
    rw [← z1, hW]; exact blocks1 W1 _
  have HS := hide (hs.below HBW.out)
  have HS' := hide (hs'.below HBW.out)
  have HS'' := hide (hs''.below HBW.out)
  have HW1 := hide hW1
  have HWW := hide hW
  have hz : w.heap.size + 2 ≤ W.heap.size := by omega
  have HV := hide (implValidPpl_any A n ca x B m cb y C l cc z W hn HS.out hm HS'.out hl HS''.out)
  have k0 := Joins.cell_of_block HX.out 0
  have k1 := Joins.cell_of_block HX.out 1
  have k2 := Joins.cell_of_block HX.out 2
  simp at k0 k1 k2
  rw [hW, hW1] at k0 k1 k2
  unfold maxLen at hn hm hl
  clear hs hs' hs'' hW1 hW z1 z2 hB1 hB2
  by_cases hp : ppP x n y m z l
  rotate_left
  · have HT := hide (tru_no hp)
    have HH := hide (show ¬ rpP x n y m z l t from fun h => hp h.1)
    clear hp
    go_enter Try.func37, Try.ntmps37
    go_wp2_with fail
    rw [← HW1.out, ← HWW.out]
    clear HW1 HWW
    refine HV.out.mono ?_
    rw [HT.out]
    rintro e w1 ⟨rfl, hb⟩
    have HB1 := hide (HBW.out.trans (hb.mono HBW.out.size))
    have HX1 := hide (blk_below hb (by omega) HX.out)
    have HR1 := hide (blk_below hb (by omega) HR.out)
    have HSa := hide (HS.out.below hb)
    have HSb := hide (HS'.out.below hb)
    have HSc := hide (HS''.out.below hb)
    have hz1 : w.heap.size + 2 ≤ w1.heap.size := Nat.le_trans hz hb.size
    clear hb k0 k1 k2
    have p0 := Joins.cell_of_block HR1.out 0
    have p1 := Joins.cell_of_block HR1.out 1
    have p2 := Joins.cell_of_block HR1.out 2
    have up0 := Joins.unfrozen_of_block HR1.out 0
    have up1 := Joins.unfrozen_of_block HR1.out 1
    have up2 := Joins.unfrozen_of_block HR1.out 2
    simp at p0 p1 p2
    (try simp at up0 up1 up2)
    go_wp2
    have R := put3_block (a := .slice none 0 0) (b := .slice none 0 0) (c := .slice none 0 0) HR1.out
    unfold put3 at R
    have k3 := Joins.cell_of_block R 0
    have k4 := Joins.cell_of_block R 1
    have k5 := Joins.cell_of_block R 2
    simp at k3 k4 k5
    refine bodyPost_ret (v := .tuple #[.agg #[.slice none 0 0, .slice none 0 0, .slice none 0 0], .bool false]) (by simp [results, Try.results37, go_sem, k3, k4, k5]) rfl (gavep_no HH.out ?_)
    exact put3_below HB1.out (by omega)
  cases gt : inB t 0 64
  · have HT := hide (tru_yes hp)
    have HH := hide (show ¬ rpP x n y m z l t from fun h => by rw [inB_yes h.2.1] at gt; cases gt)
    clear hp
    go_enter Try.func37, Try.ntmps37
    go_wp2_with fail
    rw [← HW1.out, ← HWW.out]
    clear HW1 HWW
    refine HV.out.mono ?_
    rw [HT.out]
    rintro e w1 ⟨rfl, hb⟩
    have HB1 := hide (HBW.out.trans (hb.mono HBW.out.size))
    have HX1 := hide (blk_below hb (by omega) HX.out)
    have HR1 := hide (blk_below hb (by omega) HR.out)
    have HSa := hide (HS.out.below hb)
    have HSb := hide (HS'.out.below hb)
    have HSc := hide (HS''.out.below hb)
    have hz1 : w.heap.size + 2 ≤ w1.heap.size := Nat.le_trans hz hb.size
    clear hb k0 k1 k2
    have p0 := Joins.cell_of_block HR1.out 0
    have p1 := Joins.cell_of_block HR1.out 1
    have p2 := Joins.cell_of_block HR1.out 2
    have up0 := Joins.unfrozen_of_block HR1.out 0
    have up1 := Joins.unfrozen_of_block HR1.out 1
    have up2 := Joins.unfrozen_of_block HR1.out 2
    simp at p0 p1 p2
    (try simp at up0 up1 up2)
    go_wp2_with (go_at_call 71; refine (implWithin_any _ _ _ _).mono ?_; rw [gt]; rintro e w' ⟨rfl, rfl⟩)
    have R := put3_block (a := .slice none 0 0) (b := .slice none 0 0) (c := .slice none 0 0) HR1.out
    unfold put3 at R
    have k3 := Joins.cell_of_block R 0
    have k4 := Joins.cell_of_block R 1
    have k5 := Joins.cell_of_block R 2
    simp at k3 k4 k5
    refine bodyPost_ret (v := .tuple #[.agg #[.slice none 0 0, .slice none 0 0, .slice none 0 0], .bool false]) (by simp [results, Try.results37, go_sem, k3, k4, k5]) rfl (gavep_no HH.out ?_)
    exact put3_below HB1.out (by omega)
  · have HT := hide (tru_yes hp)
    have HPP := hide hp
    have n12 := hp.1.2
    have n2 := hp.1.1
    have ht := inB_iff.1 gt
    obtain ⟨T, rfl⟩ : ∃ T : Nat, t = (T : Int) := ⟨t.toNat, by omega⟩
    have hT : T ≤ 64 := by omega
    obtain rfl : m = n := hp.2.1
    obtain rfl : l = m := hp.2.2.1
    have HIFF := hide (show (∀ i : Nat, i < T → npP (rpV x y z l i) l y l z l) ↔ rpP x l y l z l (T : Int) from ⟨fun h => ⟨hp, ht, fun i hi => h i (by omega)⟩, fun h i hi => h.2.2 i (by omega)⟩)
    clear hp ht
    go_enter Try.func37, Try.ntmps37
    go_wp2_with fail
    rw [← HW1.out, ← HWW.out]
    clear HW1 HWW
    refine HV.out.mono ?_
    rw [HT.out]
    rintro e w1 ⟨rfl, hb⟩
    have HB1 := hide (HBW.out.trans (hb.mono HBW.out.size))
    have HX1 := hide (blk_below hb (by omega) HX.out)
    have HR1 := hide (blk_below hb (by omega) HR.out)
    have HSa := hide (HS.out.below hb)
    have HSb := hide (HS'.out.below hb)
    have HSc := hide (HS''.out.below hb)
    have hz1 : w.heap.size + 2 ≤ w1.heap.size := Nat.le_trans hz hb.size
    clear hb k0 k1 k2
    have g0 := Joins.cell_of_block HX1.out 0
    have g1 := Joins.cell_of_block HX1.out 1
    have g2 := Joins.cell_of_block HX1.out 2
    simp at g0 g1 g2
    go_wp2_with (go_at_call 71; refine (implWithin_any _ _ _ _).mono ?_; rw [gt]; rintro e w' ⟨rfl, rfl⟩)
    refine (implClonePpl_any A l ca x B l cb y C l cc z w1 (by omega) (by omega) HSa.out (by omega) (by omega) HSb.out (by omega) (by omega) HSc.out).mono ?_
    rintro e w2 ⟨G1, d1, G2, d2, G3, d3, e1, e2, e3, rfl, o1, o2, o3, he1, he2, he3, he4, hb⟩
    have HB2 := hide (HB1.out.trans (hb.mono HB1.out.size))
    have HR2 := hide (blk_below hb (by omega) HR1.out)
    have HM := hide (implMany_any w1 w2 G1 G2 G3 d1 d2 d3 w1.heap.size e1 e1 e2 e2 e3 l T x y z hT HPP.out o1 o2 o3 ⟨Nat.le_refl _, he1, by omega⟩ ⟨he1, he2, by omega⟩ ⟨by omega, he3, he4⟩ (.inl (Nat.le_refl _)) (.inl he2) (.inl (Nat.le_refl _)) hb)
    clear o1 o2 o3 g0 g1 g2
    go_wp2_with fail
    refine HM.out.mono ?_
    rintro e w3 hg
    obtain ⟨I1, j1, y1, I2, j2, y2, I3, j3, y3, a1, c1, a2, c2, a3, c3, rfl, p1, p2, p3, f1, f2, f3, q1, q2, q3, v1, v2, v3, -, hb3⟩ := hg
    rw [lenV_iff HIFF.out] at p1 p2 p3 f1 f2 f3
    rw [lenV_iff HIFF.out, tru_iff HIFF.out]
    have HR3 := hide (blk_below hb3 (by omega) HR1.out)
    have HB3 := hide (HB1.out.trans (hb3.mono HB1.out.size))
    have hz3 := hb3.size
    clear hb hb3
    have n0 := Joins.cell_of_block HR3.out 0
    have n1 := Joins.cell_of_block HR3.out 1
    have n2 := Joins.cell_of_block HR3.out 2
    have un0 := Joins.unfrozen_of_block HR3.out 0
    have un1 := Joins.unfrozen_of_block HR3.out 1
    have un2 := Joins.unfrozen_of_block HR3.out 2
    simp at n0 n1 n2
    (try simp at un0 un1 un2)
    go_wp2_with fail
    obtain ⟨LN, hLN⟩ : ∃ q, lenV (rpP x l y l z l (T : Int)) l = q := ⟨_, rfl⟩
    rw [hLN] at p1 p2 p3 f1 f2 f3
    simp only [hLN]
    have R := put3_block (a := .slice I1 LN j1) (b := .slice I2 LN j2) (c := .slice I3 LN j3) HR3.out
    unfold put3 at R
    have k3 := Joins.cell_of_block R 0
    have k4 := Joins.cell_of_block R 1
    have k5 := Joins.cell_of_block R 2
    simp at k3 k4 k5
    refine bodyPost_ret (v := .tuple #[.agg #[.slice I1 LN j1, .slice I2 LN j2, .slice I3 LN j3], .bool (tru (rpP x l y l z l (T : Int)))]) (by simp [results, Try.results37, go_sem, k3, k4, k5]) rfl ⟨I1, j1, y1, I2, j2, y2, I3, j3, y3, a1, c1, a2, c2, a3, c3, by rw [hLN], ?_, ?_, ?_, by rw [hLN]; exact f1, by rw [hLN]; exact f2, by rw [hLN]; exact f3, ?_, ?_, ?_, v1, v2, v3, trivial, ?_⟩
    · rw [hLN]; exact put3_ow p1 (.inl (by omega))
    · rw [hLN]; exact put3_ow p2 (.inl (by omega))
    · rw [hLN]; exact put3_ow p3 (.inl (by omega))
    · refine ⟨by omega, by omega, ?_⟩
      simp
      omega
    · refine ⟨by omega, by omega, ?_⟩
      simp
      omega
    · refine ⟨by omega, by omega, ?_⟩
      simp
      omega
    · exact put3_below HB3.out (by omega)
end Go.Proofs.Ytjebkagbknmdoaa
