/- YearsToLive, by both. -/
import Derived.Test.YtjefpcmegkeceabFa
namespace Go.Proofs.Ytjefpcmegkeceab
open Go.RowKit Go.Dues
noncomputable def ifF (p : Prop) (v : Nat) : Nat := @ite _ p (Classical.propDecidable p) v 0
theorem ifF_yes {p : Prop} {v : Nat} (h : p) : ifF p v = v := by unfold ifF; exact if_pos h
theorem ifF_no {p : Prop} {v : Nat} (h : ¬ p) : ifF p v = 0 := by unfold ifF; exact if_neg h
/-- a number, the same as told, if p holds; 0 if not -/
def GaveV (w w' : World) (e : Ending) (p : Prop) (V : Nat) : Prop := ∃ r, e = .returned (.tuple #[.float .f32 r, .bool (tru p)]) ∧ FS .f32 r (ifF p V) ∧ Below w.heap.size w w'
theorem gavev_no {w w' : World} {p : Prop} {V : Nat} (h : ¬ p) (hb : Below w.heap.size w w') : GaveV w w' (.returned (.tuple #[.float .f32 0, .bool false])) p V :=
  ⟨0, by rw [tru_no h], by rw [ifF_no h]; exact .inl rfl, hb⟩
theorem gavev_yes {w w' : World} {p : Prop} {V r : Nat} (h : p) (hr : FS .f32 r V) (hb : Below w.heap.size w w') : GaveV w w' (.returned (.tuple #[.float .f32 r, .bool true])) p V :=
  ⟨r, by rw [tru_yes h], by rw [ifF_yes h]; exact hr, hb⟩
theorem fsum_congr {x y : Nat → Nat} {n : Nat} (h : ∀ j, j < n → FS .f32 (x j) (y j)) : ∀ k, k ≤ n → fsum x k = fsum y k
  | 0, _ => rfl
  | k + 1, hk => by
    show fop .add .f32 (fsum x k) (x k) = fop .add .f32 (fsum y k) (y k)
    rw [fsum_congr h k (by omega)]
    exact fop_same (FS.refl _ _) (h k (by omega))
def ylV (q : Nat → Nat) (n : Nat) : Nat := fop .sub .f32 (fsum (alV q) n) 1056964608
theorem yl_step {q : Nat → Nat} {n r r' : Nat} (h : FS .f32 r (fsum (alV q) n)) (h2 : FR .f32 r' (fop .sub .f32 r 1056964608)) : FS .f32 r' (ylV q n) := h2.same.trans (.inl (fop_same h (FS.refl _ _)))
set_option maxRecDepth 100000 in
set_option maxHeartbeats 8000000 in
theorem specYears_any (A : Option Addr) (n c : Nat) (x : Nat → Nat) (w : World) (hn : n ≤ maxLen) (hs : SL w A n (fun j => .float .f32 (x j))) :
    Calls Try.prog 21 #[.slice A n c] w fun e w' => GaveV w w' e (ltP x n) (ylV x n) := by
  have HL := hide (specTable_any A n c x w hn hs)
  have HSL := hide hs
  clear hs
  unfold maxLen at hn
  by_cases hp : ltP x n
  rotate_left
  · have HT := hide (tru_no hp)
    have HH := hide hp
    clear hp
    go_enter Try.func21, Try.ntmps21
    go_wp2_with fail
    refine HL.out.mono ?_
    rw [HT.out]
    rintro e w' ⟨rfl, rfl⟩
    go_wp2
    go_ret2
    exact gavev_no HH.out (Below.refl _ _)
  have HT := hide (tru_yes hp)
  have HH := hide hp
  have n120 := hp.1.2
  clear hp
  go_enter Try.func21, Try.ntmps21
  go_wp2_with fail
  refine HL.out.mono ?_
  rw [HT.out]
  rintro e W ⟨rfl, hbe⟩
  have HB0 : Hid (Below w.heap.size w W) := by rw [← hbe]; exact Below.refl _ _
  have HS0 : Hid (SL W A n (fun j => .float .f32 (x j))) := by rw [← hbe]; exact HSL.out
  clear hbe
  go_wp2_with fail
  refine (specAlive_any A n c x W n120 HS0.out).mono ?_
  rintro e W2 ⟨G, d, z, rfl, ho, hz, hb⟩
  have HB2 := hide (HB0.out.trans (hb.mono HB0.out.size))
  have HC := cells_f ho.sl
  have HE := hide (fsum_congr hz n (Nat.le_refl _))
  clear ho hz hb
  go_wp2
  go_loopw [5, 6] (fun v i wr => ∃ k q r : Nat, k ≤ n ∧ i = .int .i64 k ∧ v = .float .f32 r ∧ FS .f32 r (fsum z k) ∧ wr = W2.drewN q) (fun _ i _ => n - (intOf i).toNat)
  case atStart => exact ⟨0, 0, 0, Nat.zero_le _, rfl, rfl, .inl rfl, rfl⟩
  case round =>
    obtain ⟨k, q, r, hk, rfl, rfl, hr, rfl⟩ := hrel
    by_cases hlt : k < n
    · obtain ⟨b, off, rfl, hb, hc⟩ := HC.out k hlt
      go_wp2_with (refine wpList_far _ rfl _ _ _ _ _ rfl (by decide) _ _ _ rfl rfl ?_; intro _ _ _)
      go_roundw
      case rel => exact ⟨k + 1, _, _, by omega, by go_num, rfl, fsum_step hr (by assumption), rfl⟩
      case measure => simp [intOf]; omega
    · obtain rfl : k = n := by omega
      rw [HE.out] at hr
      have HR := hide hr
      clear hr
      go_wp2_with (refine wpList_far _ rfl _ _ _ _ _ rfl (by decide) _ _ _ rfl rfl ?_; intro _ _ _)
      go_ret2
      exact gavev_yes HH.out (yl_step HR.out (by assumption)) (bel_q HB2.out _)
set_option maxRecDepth 100000 in
set_option maxHeartbeats 8000000 in
theorem implYears_any (A : Option Addr) (n c : Nat) (x : Nat → Nat) (w : World) (hn : n ≤ maxLen) (hs : SL w A n (fun j => .float .f32 (x j))) :
    Calls Try.prog 22 #[.slice A n c] w fun e w' => GaveV w w' e (ltP x n) (ylV x n) := by
  have HA := hide (implAlive_any A n c x w hn hs)
  clear hs
  by_cases hp : ltP x n
  rotate_left
  · have HT := hide (tru_no hp)
    have HH := hide hp
    have HLN := hide (lenV_no (n := n) hp)
    clear hp
    go_enter Try.func22, Try.ntmps22
    go_wp2_with fail
    refine HA.out.mono ?_
    rintro e W ⟨G, d, z, rfl, ho, hz, hb⟩
    have HB := hide hb
    rw [HT.out, HLN.out]
    clear ho hz hb
    go_wp2
    go_ret2
    exact gavev_no HH.out HB.out
  have HT := hide (tru_yes hp)
  have HH := hide hp
  have HLN := hide (lenV_yes (n := n) hp)
  have n120 := hp.1.2
  clear hp
  go_enter Try.func22, Try.ntmps22
  go_wp2_with fail
  refine HA.out.mono ?_
  rintro e W ⟨G, d, z, rfl, ho, hz, hb⟩
  have HB := hide hb
  rw [HLN.out] at ho hz
  rw [HT.out, HLN.out]
  have HO := hide ho.sl
  have HE := hide (fsum_congr hz n (Nat.le_refl _))
  clear ho hz hb
  go_wp2_with fail
  refine (implSum_any G n d z W (by omega) HO.out).mono ?_
  rintro e w' ⟨r, rfl, hr, q, rfl⟩
  rw [HE.out] at hr
  have HR := hide hr
  clear hr
  go_wp2_with (refine wpList_far _ rfl _ _ _ _ _ rfl (by decide) _ _ _ rfl rfl ?_; intro _ _ _)
  go_ret2
  exact gavev_yes HH.out (yl_step HR.out (by assumption)) (bel_q HB.out _)
end Go.Proofs.Ytjefpcmegkeceab
