/- SumPeople by the program, with room. -/
import Derived.Test.YtpbbedelapnnnaaS7
namespace Go.Proofs.Ytpbbedelapnnnaa
open Go.RowKit Go.Dues
set_option maxRecDepth 100000 in
set_option maxHeartbeats 8000000 in
theorem implSumPC_any (A : Option Addr) (n ca : Nat) (x : Nat → Nat) (B : Option Addr) (m cb : Nat) (y : Nat → Nat) (C : Option Addr) (l cc : Nat) (z : Nat → Nat) (F T : Int) (w : World) (hca : n ≤ ca) (hn : n ≤ maxLen) (hs : SL w A n (fun j => .float .f32 (x j))) (hm : m ≤ maxLen) (hs' : SL w B m (fun j => .float .f32 (y j))) (hl : l ≤ maxLen) (hs'' : SL w C l (fun j => .float .f32 (z j))) :
    Calls Try.prog 223 #[.agg #[.slice A n ca, .slice B m cb, .slice C l cc], .int .i64 F, .int .i64 T] w fun e w' => GaveV w w' e (suP x n y m z l F T) (suV x F T) := by
  obtain ⟨W, hW⟩ : ∃ u, u = w.alloc (.cells #[.slice A n ca, .slice B m cb, .slice C l cc] 29) := ⟨_, rfl⟩
  have HBW : Hid (Below w.heap.size w W) := by rw [hW]; exact (Below.refl w.heap.size w).alloc (Nat.le_refl _) _
  have HBX : Hid (W.heap[w.heap.size]? = some (.cells #[.slice A n ca, .slice B m cb, .slice C l cc] 29)) := by rw [hW]; exact blocks1 w _
  have HV := hide (implValidPpl_any A n ca x B m cb y C l cc z W hn (hs.below HBW.out) hm (hs'.below HBW.out) hl (hs''.below HBW.out))
  have HS := hide (hs.below HBW.out)
  have HWW := hide hW
  clear hs hs' hs'' hW
  unfold maxLen at hn hm hl
  by_cases hp : ppP x n y m z l
  rotate_left
  · have HT := hide (tru_no hp)
    have HH := hide (show ¬ suP x n y m z l F T from fun h => hp h.1)
    clear hp
    go_enter Try.func223, Try.ntmps223
    go_wp2_with fail
    rw [← HWW.out]
    refine HV.out.mono ?_
    rw [HT.out]
    rintro e w1 ⟨rfl, hb⟩
    have HB1 := hide (HBW.out.trans (hb.mono HBW.out.size))
    have HS1 := hide (HS.out.below hb)
    have HX1 := hide (blk_below hb (Array.getElem?_eq_some_iff.1 HBX.out).1 HBX.out)
    have k0 := Joins.cell_of_block HX1.out 0
    simp at k0
    clear hb
    go_wp2
    go_ret2
    exact gavev_no HH.out HB1.out
  have HT := hide (tru_yes hp)
  have HPP := hide hp
  have n12 := hp.1.2
  have n2 := hp.1.1
  clear hp
  cases g2 : inB T 0 ((n : Int) - 1)
  · have HH := hide (show ¬ suP x n y m z l F T from fun h => by rw [inB_yes h.2.2.1] at g2; cases g2)
    go_enter Try.func223, Try.ntmps223
    go_wp2_with fail
    rw [← HWW.out]
    refine HV.out.mono ?_
    rw [HT.out]
    rintro e w1 ⟨rfl, hb⟩
    have HB1 := hide (HBW.out.trans (hb.mono HBW.out.size))
    have HS1 := hide (HS.out.below hb)
    have HX1 := hide (blk_below hb (Array.getElem?_eq_some_iff.1 HBX.out).1 HBX.out)
    have k0 := Joins.cell_of_block HX1.out 0
    simp at k0
    clear hb
    go_wp2_with (first | (go_at_call 88; refine (implWithin_any _ _ _ _ ).mono ?_; rintro e w' ⟨rfl, rfl⟩) | (go_at_call 170; go_in))
    go_ret2
    exact gavev_no HH.out HB1.out
  have HTT := hide (inB_iff.1 g2)
  cases g1 : inB F 0 T
  · have HH := hide (show ¬ suP x n y m z l F T from fun h => by rw [inB_yes h.2.1] at g1; cases g1)
    go_enter Try.func223, Try.ntmps223
    go_wp2_with fail
    rw [← HWW.out]
    refine HV.out.mono ?_
    rw [HT.out]
    rintro e w1 ⟨rfl, hb⟩
    have HB1 := hide (HBW.out.trans (hb.mono HBW.out.size))
    have HS1 := hide (HS.out.below hb)
    have HX1 := hide (blk_below hb (Array.getElem?_eq_some_iff.1 HBX.out).1 HBX.out)
    have k0 := Joins.cell_of_block HX1.out 0
    simp at k0
    clear hb
    go_wp2_with (first | (go_at_call 88; refine (implWithin_any _ _ _ _ ).mono ?_; rintro e w' ⟨rfl, rfl⟩) | (go_at_call 170; go_in))
    go_ret2
    exact gavev_no HH.out HB1.out
  have HF := hide (inB_iff.1 g1)
  have HH := hide (show suP x n y m z l F T ↔ ffin .f32 (suV x F T) = true from ⟨fun h => h.2.2.2, fun h => ⟨HPP.out, HF.out, HTT.out, h⟩⟩)
  obtain ⟨a, ha⟩ : ∃ a : Nat, F = a := ⟨F.toNat, by have := HF.out; omega⟩
  obtain ⟨b, hb⟩ : ∃ b : Nat, T = b := ⟨T.toNat, by have := HTT.out; omega⟩
  subst ha hb
  have hab : a ≤ b := by have := HF.out; omega
  have hbn : b < n := by have := HTT.out; omega
  have hVV : suV x (a : Int) (b : Int) = fsum (fun j => x (a + j)) (b + 1 - a) := rfl
  rw [hVV] at HH ⊢
  clear hVV
  have hbi : ((b : Nat) : Int) + 1 ≤ (n : Int) := by omega
  have hab2 : ((a : Nat) : Int) ≤ (b : Int) + 1 := by omega
  have habn : a ≤ b + 1 := by omega
  have hbn2 : b + 1 ≤ n := by omega
  have han : a ≤ n := by omega
  have hac : ¬ n - a = 0 := by omega
  have hbc : ((b : Nat) : Int) + 1 ≤ (ca : Int) := by omega
  have hbc2 : b + 1 ≤ ca := by omega
  have hacc : ¬ ca - a = 0 := by omega
  have hacn : a ≤ ca := by omega
  obtain ⟨D, hD⟩ : ∃ D : Nat, b + 1 - a = D := ⟨_, rfl⟩
  rw [hD] at HH ⊢
  have HSUB := fun (bb off : Nat) (w : World) (h : SL w (some ⟨bb, off, none⟩) n (fun j => .float .f32 (x j))) => hide (SL.sub7 (p := a) (m := D) h (by omega))
  go_enter Try.func223, Try.ntmps223
  go_wp2_with fail
  rw [← HWW.out]
  refine HV.out.mono ?_
  rw [HT.out]
  rintro e w1 ⟨rfl, hb⟩
  have HB1 := hide (HBW.out.trans (hb.mono HBW.out.size))
  have HS1 := hide (HS.out.below hb)
  have HX1 := hide (blk_below hb (Array.getElem?_eq_some_iff.1 HBX.out).1 HBX.out)
  have k0 := Joins.cell_of_block HX1.out 0
  simp at k0
  clear hb
  obtain ⟨bb, off, hA, hbb, hcc⟩ := HS1.out.at_ (by omega)
  subst hA
  clear hcc hbb
  go_wp2_with (first | (go_at_call 88; refine (implWithin_any _ _ _ _ ).mono ?_; rintro e w' ⟨rfl, rfl⟩) | (go_at_call 170; go_in))
  clear g1 g2
  refine (implSum_any _ _ _ (fun j => x (a + j)) _ (by omega) (HSUB _ _ _ HS1.out).out).mono ?_
  rintro e w2 ⟨r, rfl, hr, q2, rfl⟩
  have HR := hide hr
  clear hr
  go_wp2_with fail
  refine (implNum_any _ _).mono ?_
  rintro e w3 ⟨rfl, q3, rfl⟩
  go_wp2
  go_ret2
  exact gavev_num HR.out HH.out (by first | exact bel_q HB1.out _ | exact bel_q (bel_q HB1.out _) _)
end Go.Proofs.Ytpbbedelapnnnaa
