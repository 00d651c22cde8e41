/- LaterValue and AnnuityValue, by the program. -/
import Derived.Test.YtjebkagbknmdoaaFp
import Derived.Deep.RegionHeld3
import Derived.Deep.RegionWith
namespace Go.Proofs.Ytjebkagbknmdoaa
open Go.RowKit Go.Dues
theorem sub_sl0 {w : World} {g n k : Nat} {x : Nat → Nat} (h : SL w (some ⟨g, 0, none⟩) n (fun j => .float .f32 (x j))) (hn : n ≠ 0) : SL w (some ⟨g, k, none⟩) (n - k) (fun j => .float .f32 (x (k + j))) := by
  obtain ⟨b, off, h1, h2, h3⟩ := h.at_ hn
  injection h1 with h1
  injection h1 with h1 h4
  subst h1 h4
  exact .inr ⟨g, k, rfl, h2, fun j hj => by have := h3 (k + j) (by omega); rwa [Nat.zero_add] at this⟩
set_option maxRecDepth 100000 in
set_option maxHeartbeats 8000000 in
theorem implLater_any (A : Option Addr) (n c : Nat) (x : Nat → Nat) (r : Nat) (v : Int) (w : World) (hn : n ≤ maxLen) (hs : SL w A n (fun j => .float .f32 (x j))) :
    Calls Try.prog 165 #[.slice A n c, .float .f32 r, .int .i64 v] w fun e w' => GaveV w w' e (lvP x n r v) (lvV x n r v) := by
  by_cases hp : ltP x n
  rotate_left
  · have HA := hide (implAlive_any A n c x w hn hs)
    clear hs
    unfold maxLen at hn
    have HT := hide (tru_no hp)
    have HH := hide (show ¬ (lvP x n r v) from fun h => hp h.1)
    clear hp
    go_enter Try.func165, Try.ntmps165
    go_wp2_with fail
    refine HA.out.mono ?_
    rintro e W ⟨G, d, z, rfl, ho, hz, hb⟩
    have HB := hide hb
    rw [HT.out]
    clear ho hz hb
    go_wp2_with (first | (go_at_call 105; refine (implShare_any _ _ ).mono ?_; rintro e w' ⟨rfl, rfl⟩) | (go_at_call 71; refine (implWithin_any _ _ _ _ ).mono ?_; rintro e w' ⟨rfl, rfl⟩))
    go_ret2
    exact gavev_no HH.out HB.out
  have HA := hide (implAliveE_any A n c x w hn hs hp)
  clear hs
  unfold maxLen at hn
  have HLT := hide hp
  have n1 := hp.1.1
  have n120 := hp.1.2
  clear hp
  cases gr : shB r
  · have HH := hide (show ¬ (lvP x n r v) from fun h => by have := h.2.1; rw [gr] at this; cases this)
    go_enter Try.func165, Try.ntmps165
    go_wp2_with fail
    refine HA.out.mono ?_
    rintro e W ⟨g, z, rfl, ho, hz, hb⟩
    have HB := hide hb
    have HO := hide ho.sl
    have HZ := hide hz
    clear ho hz hb
    go_wp2_with (first | (go_at_call 105; refine (implShare_any _ _ ).mono ?_; rintro e w' ⟨rfl, rfl⟩) | (go_at_call 71; refine (implWithin_any _ _ _ _ ).mono ?_; rintro e w' ⟨rfl, rfl⟩))
    go_ret2
    exact gavev_no HH.out HB.out
  cases gw : inB v 0 (n : Int)
  · have HH := hide (show ¬ (lvP x n r v) from fun h => by rw [inB_yes h.2.2] at gw; cases gw)
    go_enter Try.func165, Try.ntmps165
    go_wp2_with fail
    refine HA.out.mono ?_
    rintro e W ⟨g, z, rfl, ho, hz, hb⟩
    have HB := hide hb
    have HO := hide ho.sl
    have HZ := hide hz
    clear ho hz hb
    go_wp2_with (first | (go_at_call 105; refine (implShare_any _ _ ).mono ?_; rintro e w' ⟨rfl, rfl⟩) | (go_at_call 71; refine (implWithin_any _ _ _ _ ).mono ?_; rintro e w' ⟨rfl, rfl⟩))
    go_ret2
    exact gavev_no HH.out HB.out
  have HVB := hide (inB_iff.1 gw)
  have HH := hide (show lvP x n r v from ⟨HLT.out, gr, HVB.out⟩)
  go_enter Try.func165, Try.ntmps165
  go_wp2_with fail
  refine HA.out.mono ?_
  rintro e W ⟨g, z, rfl, ho, hz, hb⟩
  have HB := hide hb
  have HO := hide ho.sl
  have HZ := hide hz
  clear ho hz hb
  go_wp2_with (first | (go_at_call 105; refine (implShare_any _ _ ).mono ?_; rintro e w' ⟨rfl, rfl⟩) | (go_at_call 71; refine (implWithin_any _ _ _ _ ).mono ?_; rintro e w' ⟨rfl, rfl⟩))
  clear gr gw
  obtain ⟨V, rfl⟩ : ∃ V : Nat, v = V := ⟨v.toNat, by have := HVB.out; omega⟩
  have hVn : V ≤ n := by have := HVB.out; omega
  have hVni : (V : Int) ≤ (n : Int) := by omega
  by_cases hlt : V < n
  · have HE := hide (fun (zP : Nat → Nat) (hzP : ∀ j, j < n → FS .f32 (zP j) (pwV r j)) => show fdot (fun j => z (V + j)) (fun j => zP (V + j)) (n - V) = lvV x n r V by
      unfold lvV
      rw [woV_dot V n]
      exact fdot_congr (fun j hj => HZ.out (V + j) (by omega)) (fun j hj => hzP (V + j) (by omega)) (n - V) (Nat.le_refl _))
    have hVlt : (V : Int) < (n : Int) := by omega
    have hdV : ¬ n = V := by omega
    have hdV0 : ¬ n - V = 0 := by omega
    go_region_with (first
      | (go_at_call 106; refine (implPowersE_any r n _ n120).mono ?_; rintro e wP ⟨gP, zP, rfl, hoP, hzP, hbP⟩; have HPO := hide hoP.sl; have HPZ := hide hzP; have HBP := hide hbP; clear hoP hzP hbP)
      | (go_at_call 90; refine (implDot_yes _ _ (n - V) _ _ (fun j => z (V + j)) (fun j => zP (V + j)) _ (by omega) (sub_sl0 ((show SL W.drew (some ⟨g, 0, none⟩) n (fun j => .float .f32 (z j)) from HO.out).below HBP.out) (by omega)) (sub_sl0 HPO.out (by omega))).mono ?_; rintro e w' ⟨s, rfl, hs, u, rfl⟩; have HS := hide hs; clear hs))
    all_goals
      go_wp2
      go_ret2
      exact gavev_yes HH.out (by have := HS.out; rwa [HE.out zP HPZ.out] at this) (bel_q ((show Below w.heap.size w W.drew from ⟨HB.out.os, HB.out.tape, HB.out.output, HB.out.size, HB.out.block⟩).trans (HBP.out.mono HB.out.size)) _)
  · obtain rfl : V = n := by omega
    have HE := hide (show 0 = lvV x V r V by
      unfold lvV
      rw [woV_dot V V, Nat.sub_self]
      rfl)
    go_region_with (first
      | (go_at_call 106; refine (implPowersE_any r V _ n120).mono ?_; rintro e wP ⟨gP, zP, rfl, hoP, hzP, hbP⟩; have HBP := hide hbP; clear hoP hzP hbP)
      | (go_at_call 90; refine (implDot_yes _ _ 0 _ _ (fun _ => 0) (fun _ => 0) _ (by omega) (.inl rfl) (.inl rfl)).mono ?_; rintro e w' ⟨s, rfl, hs, u, rfl⟩; have HS := hide hs; clear hs))
    all_goals
      go_wp2
      go_ret2
      exact gavev_yes HH.out (by rw [← HE.out]; exact HS.out) (bel_q ((show Below w.heap.size w W.drew from ⟨HB.out.os, HB.out.tape, HB.out.output, HB.out.size, HB.out.block⟩).trans (HBP.out.mono HB.out.size)) _)
set_option maxRecDepth 100000 in
set_option maxHeartbeats 8000000 in
theorem implAnnuity_any (A : Option Addr) (n c : Nat) (x : Nat → Nat) (r : Nat) (w : World) (hn : n ≤ maxLen) (hs : SL w A n (fun j => .float .f32 (x j))) :
    Calls Try.prog 108 #[.slice A n c, .float .f32 r] w fun e w' => GaveV w w' e (lvP x n r 0) (lvV x n r 0) := by
  have HA := hide (implLater_any A n c x r 0 w hn hs)
  clear hs
  go_enter Try.func108, Try.ntmps108
  go_wp2_with fail
  refine HA.out.mono ?_
  rintro e W ⟨s, rfl, hs, hb⟩
  have HS := hide hs
  have HB := hide hb
  clear hs hb
  obtain ⟨B, hB⟩ : ∃ B, tru (lvP x n r 0) = B := ⟨_, rfl⟩
  have HBB := hide hB
  rw [hB]
  clear hB
  go_wp2
  go_ret2
  exact ⟨s, by rw [HBB.out]; rfl, HS.out, HB.out⟩
end Go.Proofs.Ytjebkagbknmdoaa
