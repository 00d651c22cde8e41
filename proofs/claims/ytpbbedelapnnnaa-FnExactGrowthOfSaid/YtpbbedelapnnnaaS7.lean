/- SumPeople, by both; a number that is finite. -/
import Derived.Test.YtpbbedelapnnnaaV7
import Derived.Test.YtpbbedelapnnnaaFy6
namespace Go.Proofs.Ytpbbedelapnnnaa
open Go.RowKit Go.Dues
def fnum (x : Nat) : Nat := if ffin .f32 x = true then x else 0
theorem gavev_num {w w' : World} {p : Prop} {V r : Nat} (hr : FS .f32 r V) (hp : p ↔ ffin .f32 V = true) (hb : Below w.heap.size w w') : GaveV w w' (.returned (.tuple #[.float .f32 (fnum r), .bool (ffin .f32 r)])) p V := by
  by_cases h : ffin .f32 V = true
  · have h2 : ffin .f32 r = true := by rw [ffin_same hr]; exact h
    unfold fnum
    rw [if_pos h2, h2]
    exact gavev_yes (hp.2 h) hr hb
  · have h2 : ffin .f32 r = false := by rw [ffin_same hr]; simpa using h
    unfold fnum
    rw [if_neg (by rw [h2]; simp), h2]
    exact gavev_no (fun q => h (hp.1 q)) hb
theorem SL.sub7 {w : World} {b off n p m : Nat} {f : Nat → Value} (h : SL w (some ⟨b, off, none⟩) n f) (hp : p + m ≤ n) : SL w (some ⟨b, off + p, none⟩) m (fun j => f (p + j)) := by
  rcases h with h | ⟨b', off', h1, h2, h3⟩
  · exact .inl (by omega)
  · injection h1 with h1
    injection h1 with h1 h4
    subst h1 h4
    exact .inr ⟨b, off + p, rfl, h2, fun j hj => by rw [Nat.add_assoc]; exact h3 (p + j) (by omega)⟩
theorem implNum_any (x : Nat) (w : World) : Calls Try.prog 145 #[.float .f32 x] w fun e w' => e = .returned (.tuple #[.float .f32 (fnum x), .bool (ffin .f32 x)]) ∧ ∃ q, w' = w.drewN q := by
  cases h1 : ffin .f32 x
  · have HN := hide (show (0 : Nat) = fnum x by unfold fnum; rw [if_neg (by rw [h1]; simp)])
    go_enter Try.func145, Try.ntmps145
    go_wp2_with fail
    refine (implIsFinite_any _ _).mono ?_
    rw [h1]
    rintro e w' ⟨rfl, q, rfl⟩
    go_wp2
    go_ret2
    exact ⟨by rw [← HN.out]; rfl, q, rfl⟩
  · have HN := hide (show x = fnum x by unfold fnum; rw [if_pos h1])
    go_enter Try.func145, Try.ntmps145
    go_wp2_with fail
    refine (implIsFinite_any _ _).mono ?_
    rw [h1]
    rintro e w' ⟨rfl, q, rfl⟩
    go_wp2
    go_ret2
    exact ⟨by rw [← HN.out]; rfl, q, rfl⟩
theorem specSum7_any (A : Option Addr) (n c : Nat) (x : Nat → Nat) (w : World) (hn : n ≤ maxLen) (hs : SL w A n (fun j => .float .f32 (x j))) :
    Calls Try.prog 83 #[.slice A n c] w fun e w' => ∃ r, e = .returned (.float .f32 r) ∧ FS .f32 r (fsum x n) ∧ ∃ q, w' = w.drewN q := by
  unfold maxLen at hn
  have HC := cells_f hs
  clear hs
  go_enter Try.func83, Try.ntmps83
  go_wp2
  go_loopw [3, 4, 7] (fun v _ i wr => ∃ k q r : Nat, k ≤ n ∧ i = .int .i64 k ∧ v = .float .f32 r ∧ FS .f32 r (fsum x k) ∧ wr = w.drewN q) (fun _ _ i _ => n - (intOf i).toNat)
  case atStart => exact ⟨0, 0, 0, Nat.zero_le _, rfl, rfl, .inl rfl, rfl⟩
  case round =>
    obtain ⟨k, q, r, hk, rfl, rfl, hr, rfl⟩ := hrel
    by_cases hlt : k < n
    · obtain ⟨b, off, rfl, hb, hc⟩ := HC.out k hlt
      go_wp2_with (refine wpList_far _ rfl _ _ _ _ _ rfl (by decide) _ _ _ rfl rfl ?_; intro _ _ _)
      go_roundw
      case rel => exact ⟨k + 1, _, _, by omega, by go_num, rfl, fsum_step hr (by assumption), rfl⟩
      case measure => simp [intOf]; omega
    · go_wp2
      go_ret
      obtain rfl : k = n := by omega
      exact ⟨r, rfl, hr, _, rfl⟩
def suV (x : Nat → Nat) (F T : Int) : Nat := fsum (fun j => x (F.toNat + j)) (T.toNat + 1 - F.toNat)
def suP (x : Nat → Nat) (n : Nat) (y : Nat → Nat) (m : Nat) (z : Nat → Nat) (l : Nat) (F T : Int) : Prop := ppP x n y m z l ∧ (0 ≤ F ∧ F ≤ T) ∧ (0 ≤ T ∧ T ≤ (n : Int) - 1) ∧ ffin .f32 (suV x F T) = true
set_option maxRecDepth 100000 in
set_option maxHeartbeats 8000000 in
theorem implSumP_any (A : Option Addr) (n _n : Nat) (x : Nat → Nat) (B : Option Addr) (m _m : Nat) (y : Nat → Nat) (C : Option Addr) (l _l : Nat) (z : Nat → Nat) (F T : Int) (w : World) (hn : n ≤ maxLen) (hs : SL w A n (fun j => .float .f32 (x j))) (hm : m ≤ maxLen) (hs' : SL w B m (fun j => .float .f32 (y j))) (hl : l ≤ maxLen) (hs'' : SL w C l (fun j => .float .f32 (z j))) :
    Calls Try.prog 223 #[.agg #[.slice A n n, .slice B m m, .slice C l l], .int .i64 F, .int .i64 T] w fun e w' => GaveV w w' e (suP x n y m z l F T) (suV x F T) := by
  obtain ⟨W, hW⟩ : ∃ u, u = w.alloc (.cells #[.slice A n n, .slice B m m, .slice C l l] 29) := ⟨_, rfl⟩
  have HBW : Hid (Below w.heap.size w W) := by rw [hW]; exact (Below.refl w.heap.size w).alloc (Nat.le_refl _) _
  have HBX : Hid (W.heap[w.heap.size]? = some (.cells #[.slice A n n, .slice B m m, .slice C l l] 29)) := by rw [hW]; exact blocks1 w _
  have HV := hide (implValidPpl_any A n n x B m m y C l l z W hn (hs.below HBW.out) hm (hs'.below HBW.out) hl (hs''.below HBW.out))
  have HS := hide (hs.below HBW.out)
  have HWW := hide hW
  clear hs hs' hs'' hW
  unfold maxLen at hn hm hl
  by_cases hp : ppP x n y m z l
  rotate_left
  · have HT := hide (tru_no hp)
    have HH := hide (show ¬ suP x n y m z l F T from fun h => hp h.1)
    clear hp
    go_enter Try.func223, Try.ntmps223
    go_wp2_with fail
    rw [← HWW.out]
    refine HV.out.mono ?_
    rw [HT.out]
    rintro e w1 ⟨rfl, hb⟩
    have HB1 := hide (HBW.out.trans (hb.mono HBW.out.size))
    have HS1 := hide (HS.out.below hb)
    have HX1 := hide (blk_below hb (Array.getElem?_eq_some_iff.1 HBX.out).1 HBX.out)
    have k0 := Joins.cell_of_block HX1.out 0
    simp at k0
    clear hb
    go_wp2
    go_ret2
    exact gavev_no HH.out HB1.out
  have HT := hide (tru_yes hp)
  have HPP := hide hp
  have n12 := hp.1.2
  have n2 := hp.1.1
  clear hp
  cases g2 : inB T 0 ((n : Int) - 1)
  · have HH := hide (show ¬ suP x n y m z l F T from fun h => by rw [inB_yes h.2.2.1] at g2; cases g2)
    go_enter Try.func223, Try.ntmps223
    go_wp2_with fail
    rw [← HWW.out]
    refine HV.out.mono ?_
    rw [HT.out]
    rintro e w1 ⟨rfl, hb⟩
    have HB1 := hide (HBW.out.trans (hb.mono HBW.out.size))
    have HS1 := hide (HS.out.below hb)
    have HX1 := hide (blk_below hb (Array.getElem?_eq_some_iff.1 HBX.out).1 HBX.out)
    have k0 := Joins.cell_of_block HX1.out 0
    simp at k0
    clear hb
    go_wp2_with (first | (go_at_call 88; refine (implWithin_any _ _ _ _ ).mono ?_; rintro e w' ⟨rfl, rfl⟩) | (go_at_call 170; go_in))
    go_ret2
    exact gavev_no HH.out HB1.out
  have HTT := hide (inB_iff.1 g2)
  cases g1 : inB F 0 T
  · have HH := hide (show ¬ suP x n y m z l F T from fun h => by rw [inB_yes h.2.1] at g1; cases g1)
    go_enter Try.func223, Try.ntmps223
    go_wp2_with fail
    rw [← HWW.out]
    refine HV.out.mono ?_
    rw [HT.out]
    rintro e w1 ⟨rfl, hb⟩
    have HB1 := hide (HBW.out.trans (hb.mono HBW.out.size))
    have HS1 := hide (HS.out.below hb)
    have HX1 := hide (blk_below hb (Array.getElem?_eq_some_iff.1 HBX.out).1 HBX.out)
    have k0 := Joins.cell_of_block HX1.out 0
    simp at k0
    clear hb
    go_wp2_with (first | (go_at_call 88; refine (implWithin_any _ _ _ _ ).mono ?_; rintro e w' ⟨rfl, rfl⟩) | (go_at_call 170; go_in))
    go_ret2
    exact gavev_no HH.out HB1.out
  have HF := hide (inB_iff.1 g1)
  have HH := hide (show suP x n y m z l F T ↔ ffin .f32 (suV x F T) = true from ⟨fun h => h.2.2.2, fun h => ⟨HPP.out, HF.out, HTT.out, h⟩⟩)
  obtain ⟨a, ha⟩ : ∃ a : Nat, F = a := ⟨F.toNat, by have := HF.out; omega⟩
  obtain ⟨b, hb⟩ : ∃ b : Nat, T = b := ⟨T.toNat, by have := HTT.out; omega⟩
  subst ha hb
  have hab : a ≤ b := by have := HF.out; omega
  have hbn : b < n := by have := HTT.out; omega
  have hVV : suV x (a : Int) (b : Int) = fsum (fun j => x (a + j)) (b + 1 - a) := rfl
  rw [hVV] at HH ⊢
  clear hVV
  have hbi : ((b : Nat) : Int) + 1 ≤ (n : Int) := by omega
  have hab2 : ((a : Nat) : Int) ≤ (b : Int) + 1 := by omega
  have habn : a ≤ b + 1 := by omega
  have hbn2 : b + 1 ≤ n := by omega
  have han : a ≤ n := by omega
  have hac : ¬ n - a = 0 := by omega
  obtain ⟨D, hD⟩ : ∃ D : Nat, b + 1 - a = D := ⟨_, rfl⟩
  rw [hD] at HH ⊢
  have HSUB := fun (bb off : Nat) (w : World) (h : SL w (some ⟨bb, off, none⟩) n (fun j => .float .f32 (x j))) => hide (SL.sub7 (p := a) (m := D) h (by omega))
  go_enter Try.func223, Try.ntmps223
  go_wp2_with fail
  rw [← HWW.out]
  refine HV.out.mono ?_
  rw [HT.out]
  rintro e w1 ⟨rfl, hb⟩
  have HB1 := hide (HBW.out.trans (hb.mono HBW.out.size))
  have HS1 := hide (HS.out.below hb)
  have HX1 := hide (blk_below hb (Array.getElem?_eq_some_iff.1 HBX.out).1 HBX.out)
  have k0 := Joins.cell_of_block HX1.out 0
  simp at k0
  clear hb
  obtain ⟨bb, off, hA, hbb, hcc⟩ := HS1.out.at_ (by omega)
  subst hA
  clear hcc hbb
  go_wp2_with (first | (go_at_call 88; refine (implWithin_any _ _ _ _ ).mono ?_; rintro e w' ⟨rfl, rfl⟩) | (go_at_call 170; go_in))
  clear g1 g2
  refine (implSum_any _ _ _ (fun j => x (a + j)) _ (by omega) (HSUB _ _ _ HS1.out).out).mono ?_
  rintro e w2 ⟨r, rfl, hr, q2, rfl⟩
  have HR := hide hr
  clear hr
  go_wp2_with fail
  refine (implNum_any _ _).mono ?_
  rintro e w3 ⟨rfl, q3, rfl⟩
  go_wp2
  go_ret2
  exact gavev_num HR.out HH.out (by first | exact bel_q HB1.out _ | exact bel_q (bel_q HB1.out _) _)
end Go.Proofs.Ytpbbedelapnnnaa
