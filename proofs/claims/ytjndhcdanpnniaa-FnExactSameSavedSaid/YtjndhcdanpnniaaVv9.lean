/- ValidSaved, by both; what is saved, copied and compared. -/
import Derived.Test.YtjndhcdanpnniaaSv9
import Derived.Test.YtjndhcdanpnniaaIc9
import Derived.Test.YtjndhcdanpnniaaRs3
import Derived.Test.YtjndhcdanpnniaaRv
import Derived.Test.YtjndhcdanpnniaaRh
namespace Go.Proofs.Ytjndhcdanpnniaa
open Go.RowKit Go.Dues
def svP (r : SV) : Prop := isName r.s = true ∧ rulesP r.V r.n ∧ allP r.x r.m 1 64 0 1000000000
theorem sv_len {r : SV} (hr : r.ok) : ∀ i, i < r.n → (r.V i).n ≤ maxLen := fun i hi => (hr.2.2.1 i hi).2.2.2.2.1
set_option maxRecDepth 100000 in
set_option maxHeartbeats 4000000 in
theorem implValidSaved_any (r : SV) (I J : Option Addr) (c e : Nat) (w : World) (hr : r.ok) (hI : RS w I r.n r.V) (hJ : SL w J r.m (fun j => .int .i64 (r.x j))) :
    Calls Try.prog 27 #[.agg #[.string r.s, .slice I r.n c, .slice J r.m e]] w fun e w' => e = .returned (.bool (tru (svP r))) ∧ Below w.heap.size w w' := by
  obtain ⟨W, hW⟩ : ∃ u, u = w.alloc (.cells #[.string r.s, .slice I r.n c, .slice J r.m e] 40) := ⟨_, rfl⟩
  have HBW := hide (show Below w.heap.size w W by rw [hW]; exact (Below.refl _ _).alloc (Nat.le_refl _) _)
  have zW : w.heap.size + 1 ≤ W.heap.size := by rw [hW]; simp
  have HBX := hide (show W.heap[w.heap.size]? = some (.cells #[.string r.s, .slice I r.n c, .slice J r.m e] 40 (0, 0)) by rw [hW]; exact blocks1 w _)
  have HN := hide (implName_any r.s W hr.1)
  have HR := hide (fun w1 (h : Below w.heap.size w w1) => implRules_any I r.n c r.V w1 hr.2.1 (sv_len hr) (hI.below h))
  have HA := hide (fun w1 (h : Below w.heap.size w w1) => implInc7_any J r.m e r.x w1 hr.2.2.2 (hJ.below h))
  have HWW := hide hW
  have k0 := Joins.cell_of_block HBX.out 0
  simp at k0
  clear hI hJ hW hr
  cases gn : isName r.s
  · have HH := hide (tru_no (show ¬ svP r from fun h => by rw [h.1] at gn; cases gn))
    go_enter Try.func27, Try.ntmps27
    go_wp2_with fail
    rw [← HWW.out]
    clear HWW k0
    refine HN.out.mono ?_
    rintro e w1 ⟨rfl, hb⟩
    have HB1 := hide (HBW.out.trans (hb.mono (by omega)))
    have z1 := hb.size
    have HX1 := hide (blk_below hb (by omega) HBX.out)
    clear hb
    rw [gn]
    go_wp2
    go_ret
    exact ⟨retBr HH.out.symm, HB1.out⟩
  by_cases hp : rulesP r.V r.n
  rotate_left
  · have HT := hide (tru_no hp)
    have HH := hide (tru_no (show ¬ svP r from fun h => hp h.2.1))
    clear hp
    go_enter Try.func27, Try.ntmps27
    go_wp2_with fail
    rw [← HWW.out]
    clear HWW k0
    refine HN.out.mono ?_
    rintro e w1 ⟨rfl, hb⟩
    have HB1 := hide (HBW.out.trans (hb.mono (by omega)))
    have z1 := hb.size
    have HX1 := hide (blk_below hb (by omega) HBX.out)
    clear hb
    rw [gn]
    have k1 := Joins.cell_of_block HX1.out 1
    simp at k1
    have HR1 := hide (HR.out w1 HB1.out)
    go_wp2_with fail
    refine HR1.out.mono ?_
    rw [HT.out]
    rintro e w2 ⟨rfl, hb⟩
    have HB2 := hide (HB1.out.trans (hb.mono HB1.out.size))
    have z2 := hb.size
    have HX2 := hide (blk_below hb (by omega) HX1.out)
    clear hb k1
    go_wp2
    go_ret
    exact ⟨retBr HH.out.symm, HB2.out⟩
  have HT := hide (tru_yes hp)
  have HH := hide (show tru (svP r) = tru (allP r.x r.m 1 64 0 1000000000) by
    by_cases ha : allP r.x r.m 1 64 0 1000000000
    · rw [tru_yes ha, tru_yes ⟨gn, hp, ha⟩]
    · rw [tru_no ha, tru_no (fun h => ha h.2.2)])
  clear hp
  go_enter Try.func27, Try.ntmps27
  go_wp2_with fail
  rw [← HWW.out]
  clear HWW k0
  refine HN.out.mono ?_
  rintro e w1 ⟨rfl, hb⟩
  have HB1 := hide (HBW.out.trans (hb.mono (by omega)))
  have z1 := hb.size
  have HX1 := hide (blk_below hb (by omega) HBX.out)
  clear hb
  rw [gn]
  have k1 := Joins.cell_of_block HX1.out 1
  simp at k1
  have HR1 := hide (HR.out w1 HB1.out)
  go_wp2_with fail
  refine HR1.out.mono ?_
  rw [HT.out]
  rintro e w2 ⟨rfl, hb⟩
  have HB2 := hide (HB1.out.trans (hb.mono HB1.out.size))
  have z2 := hb.size
  have HX2 := hide (blk_below hb (by omega) HX1.out)
  clear hb k1
  have k2 := Joins.cell_of_block HX2.out 2
  simp at k2
  have HA2 := hide (HA.out w2 HB2.out)
  go_wp2_with fail
  refine HA2.out.mono ?_
  rintro e w3 ⟨rfl, hb⟩
  have HB3 := hide (HB2.out.trans (hb.mono HB2.out.size))
  clear hb
  go_wp2
  go_ret
  exact ⟨retBr HH.out.symm, HB3.out⟩
set_option maxRecDepth 100000 in
set_option maxHeartbeats 4000000 in
theorem specSaved7_any (r : SV) (I J : Option Addr) (c ee b : Nat) (w : World) (hr : r.ok) (hI : RS w I r.n r.V) (hJ : SL w J r.m (fun j => .int .i64 (r.x j))) (hb : w.heap[b]? = some (.cells #[.string r.s, .slice I r.n c, .slice J r.m ee] 40 (0, 0))) :
    Calls Try.prog 97 #[.pointer (some ⟨b, 0, none⟩)] w fun e w' => e = .returned (.bool (tru (svP r))) ∧ ∃ u, w' = w.drewN u := by
  have HBX := hide hb
  have HN := hide (specName7_any r.s w hr.1)
  have HR := hide (specRules_any I r.n c r.V w hr.2.1 (sv_len hr) hI)
  have HA := hide (fun u => specInc7_any J r.m ee r.x (w.drewN u) hr.2.2.2 (hJ.drewN u))
  have k0 := Joins.cell_of_block hb 0
  have k1 := Joins.cell_of_block hb 1
  simp at k0 k1
  clear hI hJ hb hr
  cases gn : isName r.s
  · have HH := hide (tru_no (show ¬ svP r from fun h => by rw [h.1] at gn; cases gn))
    go_enter Try.func97, Try.ntmps97
    go_wp2_with fail
    refine HN.out.mono ?_
    rintro e w1 ⟨rfl, rfl⟩
    rw [gn]
    go_wp2
    go_ret
    exact ⟨retBr HH.out.symm, 0, rfl⟩
  by_cases hp : rulesP r.V r.n
  rotate_left
  · have HT := hide (tru_no hp)
    have HH := hide (tru_no (show ¬ svP r from fun h => hp h.2.1))
    clear hp
    go_enter Try.func97, Try.ntmps97
    go_wp2_with fail
    refine HN.out.mono ?_
    rintro e w1 ⟨rfl, rfl⟩
    rw [gn]
    go_wp2_with fail
    refine HR.out.mono ?_
    rw [HT.out]
    rintro e w2 ⟨rfl, u, rfl⟩
    go_wp2
    go_ret
    exact ⟨retBr HH.out.symm, u, rfl⟩
  have HT := hide (tru_yes hp)
  have HH := hide (show tru (svP r) = tru (allP r.x r.m 1 64 0 1000000000) by
    by_cases ha : allP r.x r.m 1 64 0 1000000000
    · rw [tru_yes ha, tru_yes ⟨gn, hp, ha⟩]
    · rw [tru_no ha, tru_no (fun h => ha h.2.2)])
  clear hp
  go_enter Try.func97, Try.ntmps97
  go_wp2_with fail
  refine HN.out.mono ?_
  rintro e w1 ⟨rfl, rfl⟩
  rw [gn]
  go_wp2_with fail
  refine HR.out.mono ?_
  rw [HT.out]
  rintro e w2 ⟨rfl, u, hu⟩
  have k2 : w2.cell? ⟨b, 2, none⟩ = some (.slice J r.m ee) := by
    rw [hu]; exact (Joins.cell_of_block HBX.out 2).trans (by simp)
  have HA2 := hide (show Calls Try.prog 172 #[.slice J r.m ee] w2 fun e w' => e = .returned (.bool (tru (allP r.x r.m 1 64 0 1000000000))) ∧ w2 = w' by rw [hu]; exact HA.out u)
  have HU := hide hu
  clear hu k0 k1
  go_wp2_with fail
  refine HA2.out.mono ?_
  rintro e w3 ⟨rfl, rfl⟩
  go_wp2
  go_ret
  exact ⟨retBr HH.out.symm, u, HU.out⟩
set_option maxHeartbeats 4000000 in
theorem specValidSaved_any (r : SV) (I J : Option Addr) (c e : Nat) (w : World) (hr : r.ok) (hI : RS w I r.n r.V) (hJ : SL w J r.m (fun j => .int .i64 (r.x j))) :
    Calls Try.prog 25 #[.agg #[.string r.s, .slice I r.n c, .slice J r.m e]] w fun e w' => e = .returned (.bool (tru (svP r))) ∧ Below w.heap.size w w' := by
  obtain ⟨W, hW⟩ : ∃ u, u = w.alloc (.cells #[.string r.s, .slice I r.n c, .slice J r.m e] 40) := ⟨_, rfl⟩
  have HBW := hide (show Below w.heap.size w W by rw [hW]; exact (Below.refl _ _).alloc (Nat.le_refl _) _)
  have HS := hide (specSaved7_any r I J c e w.heap.size W hr (hI.below HBW.out) (hJ.below HBW.out) (by rw [hW]; exact blocks1 w _))
  have HWW := hide hW
  clear hI hJ hW hr
  go_enter Try.func25, Try.ntmps25
  go_wp2_with fail
  rw [← HWW.out]
  clear HWW
  refine HS.out.mono ?_
  rintro e w1 ⟨rfl, u, rfl⟩
  go_wp2
  go_ret
  exact ⟨rfl, bel_drewN HBW.out u⟩
def svSum (r : SV) : Nat := r.s.size + (r.n + rsum r.V r.n) + r.m
set_option maxRecDepth 100000 in
set_option maxHeartbeats 4000000 in
theorem szSaved_any (r : SV) (I J : Option Addr) (c e : Nat) (l : Int) (w : World) (hr : r.ok) (hI : RS w I r.n r.V) (l0 : 0 ≤ l) (l1 : l ≤ 1048576) :
    Calls Try.prog 24 #[.agg #[.string r.s, .slice I r.n c, .slice J r.m e], .int .i64 l] w fun e w' => ∃ m : Int, e = .returned (.int .i64 m) ∧ ((0 ≤ m ∧ m = l - svSum r) ∨ m = -1) ∧ Below w.heap.size w w' := by
  obtain ⟨W, hW⟩ : ∃ u, u = w.alloc (.cells #[.string r.s, .slice I r.n c, .slice J r.m e] 35) := ⟨_, rfl⟩
  have HBW := hide (show Below w.heap.size w W by rw [hW]; exact (Below.refl _ _).alloc (Nat.le_refl _) _)
  have zW : w.heap.size + 1 ≤ W.heap.size := by rw [hW]; simp
  have HBX := hide (show W.heap[w.heap.size]? = some (.cells #[.string r.s, .slice I r.n c, .slice J r.m e] 35 (0, 0)) by rw [hW]; exact blocks1 w _)
  have hs63 := hr.1
  unfold maxLen at hs63
  have HR := hide (fun q (h0 : 0 ≤ q) (h1 : q ≤ 1048576) => szRuleS_any I r.n c r.V q W hr.2.1 (sv_len hr) (hI.below HBW.out) h0 h1)
  have HM := hide hr.2.2.2
  have HWW := hide hW
  have k0 := Joins.cell_of_block HBX.out 0
  have k1 := Joins.cell_of_block HBX.out 1
  simp at k0 k1
  clear hI hW hr
  have q63 : -9223372036854775808 ≤ l - (r.s.size : Int) := by omega
  have q64 : l - (r.s.size : Int) ≤ 9223372036854775807 := by omega
  by_cases hneg : l - (r.s.size : Int) < 0
  · go_enter Try.func24, Try.ntmps24
    go_wp2_with fail
    go_ret
    rw [← HWW.out]
    exact ⟨_, rfl, .inr rfl, HBW.out⟩
  have HR1 := hide (HR.out (l - (r.s.size : Int)) (by omega) (by omega))
  go_enter Try.func24, Try.ntmps24
  go_wp2_with fail
  rw [← HWW.out]
  clear HWW k0 k1
  refine HR1.out.mono ?_
  rintro e w1 ⟨m1, rfl, hm1, hb⟩
  have z1 := hb.size
  have HB1 := hide (HBW.out.trans (hb.mono (by omega)))
  have k2 := Joins.cell_of_block (blk_below hb (show w.heap.size < W.heap.size by omega) HBX.out) 2
  simp at k2
  clear hb
  rcases hm1 with ⟨m10, hm1⟩ | rfl
  · have hmn : ¬ m1 < 0 := by omega
    have hm1b : m1 ≤ 1048576 := by omega
    have HMM := hide hm1
    clear hm1
    have HSI := hide (szIs_any J r.m e m1 w1 HM.out m10 hm1b)
    by_cases hc : m1 < (r.m : Int)
    · rw [if_pos hc] at HSI
      go_wp2_with fail
      refine HSI.out.mono ?_
      rintro e w2 ⟨rfl, rfl⟩
      go_wp2
      go_ret
      exact ⟨_, rfl, .inr rfl, HB1.out⟩
    · rw [if_neg hc] at HSI
      have hmn2 : ¬ m1 - (r.m : Int) < 0 := by omega
      have HV := hide (show m1 - (r.m : Int) = l - svSum r by have := HMM.out; unfold svSum; push_cast; omega)
      have hcc : 0 ≤ m1 - (r.m : Int) := by omega
      go_wp2_with fail
      refine HSI.out.mono ?_
      rintro e w2 ⟨rfl, rfl⟩
      go_wp2
      go_ret
      exact ⟨_, rfl, .inl ⟨hcc, HV.out⟩, HB1.out⟩
  · go_wp2
    go_ret
    exact ⟨_, rfl, .inr rfl, HB1.out⟩
set_option maxRecDepth 100000 in
set_option maxHeartbeats 4000000 in
theorem eqSaved_any (r : SV) (I J I' J' : Option Addr) (c e c' e' : Nat) (w : World) (hr : r.ok) (hI : RS w I r.n r.V) (hJ : SL w J r.m (fun j => .int .i64 (r.x j))) (hI' : RS w I' r.n r.V) (hJ' : SL w J' r.m (fun j => .int .i64 (r.x j))) :
    Calls Try.prog 28 #[.agg #[.string r.s, .slice I r.n c, .slice J r.m e], .agg #[.string r.s, .slice I' r.n c', .slice J' r.m e']] w fun e w' => e = .returned (.bool true) ∧ Below w.heap.size w w' := by
  obtain ⟨W, hW⟩ : ∃ u, u = (w.alloc (.cells #[.string r.s, .slice I r.n c, .slice J r.m e] 40)).alloc (.cells #[.string r.s, .slice I' r.n c', .slice J' r.m e'] 40) := ⟨_, rfl⟩
  have HBW := hide (show Below w.heap.size w W by rw [hW]; exact ((Below.refl _ _).alloc (Nat.le_refl _) _).alloc (by simp) _)
  have zW : w.heap.size + 1 + 1 ≤ W.heap.size := by rw [hW]; simp
  have PP := hide (show _ ∧ _ by have := blocks2 w (.cells #[.string r.s, .slice I r.n c, .slice J r.m e] 40) (.cells #[.string r.s, .slice I' r.n c', .slice J' r.m e'] 40); rw [← hW] at this; exact this)
  have HE := hide (eqRuleS_any I I' r.n c c' r.V W hr.2.1 (sv_len hr) (hI.below HBW.out) (hI'.below HBW.out))
  have HQ := hide (fun w1 (h : Below w.heap.size w w1) => eqIs_any J J' r.m e e' r.x w1 hr.2.2.2 (hJ.below h) (hJ'.below h))
  have HWW := hide hW
  have k0 := Joins.cell_of_block PP.out.1 0
  have l0 := Joins.cell_of_block PP.out.2 0
  have k1 := Joins.cell_of_block PP.out.1 1
  have l1 := Joins.cell_of_block PP.out.2 1
  simp at k0 k1 l0 l1
  clear hI hJ hI' hJ' hW hr
  go_enter Try.func28, Try.ntmps28
  go_wp2_with fail
  rw [← HWW.out]
  clear HWW k0 k1 l0 l1
  refine HE.out.mono ?_
  rintro e w1 ⟨rfl, hb⟩
  have z1 := hb.size
  have HB1 := hide (HBW.out.trans (hb.mono (by omega)))
  have k2 := Joins.cell_of_block (blk_below hb (show w.heap.size < W.heap.size by omega) PP.out.1) 2
  have l2 := Joins.cell_of_block (blk_below hb (show w.heap.size + 1 < W.heap.size by omega) PP.out.2) 2
  simp at k2 l2
  have HQ1 := hide (HQ.out w1 HB1.out)
  clear hb HQ
  go_wp2_with fail
  refine HQ1.out.mono ?_
  rintro e w2 ⟨rfl, q, rfl⟩
  go_wp2
  go_ret
  exact ⟨rfl, bel_drewN HB1.out q⟩
end Go.Proofs.Ytjndhcdanpnniaa
