/- Worth of shares: sums of shares times powers, by both; LaterValue and AnnuityValue by the reference. -/
import Derived.Test.YtjebkagbknmdoaaFy6
namespace Go.Proofs.Ytjebkagbknmdoaa
open Go.RowKit Go.Dues
theorem pw_fac {r : Nat} : True := trivial
/-- the sum without the first wait years -/
def woV (q : Nat → Nat) (r : Nat) (wait : Int) : Nat → Nat
  | 0 => 0
  | k + 1 => if wait ≤ k then fop .add .f32 (woV q r wait k) (fop .mul .f32 (q k) (pwV r k)) else woV q r wait k
theorem woV_yes {q : Nat → Nat} {r k : Nat} {wait : Int} (h : wait ≤ k) : woV q r wait (k + 1) = fop .add .f32 (woV q r wait k) (fop .mul .f32 (q k) (pwV r k)) := if_pos h
theorem woV_no {q : Nat → Nat} {r k : Nat} {wait : Int} (h : ¬ wait ≤ k) : woV q r wait (k + 1) = woV q r wait k := if_neg h
theorem wo_step {q z : Nat → Nat} {r k s p m s' : Nat} {wait : Int} (hw : wait ≤ k) (hs : FS .f32 s (woV q r wait k)) (hp : FS .f32 p (pwV r k)) (hz : FS .f32 (z k) (q k)) (hm : FR .f32 m (fop .mul .f32 (z k) p)) (ha : FR .f32 s' (fop .add .f32 s m)) : FS .f32 s' (woV q r wait (k + 1)) := by
  rw [woV_yes hw]
  exact ha.same.trans (.inl (fop_same hs (hm.same.trans (.inl (fop_same hz hp)))))
theorem woV_dot {q : Nat → Nat} {r : Nat} (W : Nat) : ∀ k, woV q r W k = fdot (fun j => q (W + j)) (fun j => pwV r (W + j)) (k - W)
  | 0 => by rw [show 0 - W = 0 by omega]; rfl
  | k + 1 => by
    by_cases h : (W : Int) ≤ k
    · rw [woV_yes h, woV_dot W k, show k + 1 - W = (k - W) + 1 by omega]
      show _ = fop .add .f32 (fdot _ _ (k - W)) (fop .mul .f32 (q (W + (k - W))) (pwV r (W + (k - W))))
      rw [show W + (k - W) = k by omega]
    · rw [woV_no h, woV_dot W k, show k + 1 - W = k - W by omega]
theorem fdot_congr {x y x' y' : Nat → Nat} {n : Nat} (h : ∀ j, j < n → FS .f32 (x j) (x' j)) (h' : ∀ j, j < n → FS .f32 (y j) (y' j)) : ∀ k, k ≤ n → fdot x y k = fdot x' y' k
  | 0, _ => rfl
  | k + 1, hk => by
    show fop .add .f32 (fdot x y k) (fop .mul .f32 (x k) (y k)) = fop .add .f32 (fdot x' y' k) (fop .mul .f32 (x' k) (y' k))
    rw [fdot_congr h h' k (by omega), fop_same (h k (by omega)) (h' k (by omega))]
def lvP (x : Nat → Nat) (n : Nat) (r : Nat) (wait : Int) : Prop := ltP x n ∧ shB r = true ∧ (0 ≤ wait ∧ wait ≤ n)
def lvV (x : Nat → Nat) (n : Nat) (r : Nat) (wait : Int) : Nat := woV (alV x) r wait n
set_option maxRecDepth 100000 in
set_option maxHeartbeats 8000000 in
theorem specWorth_any (A : Option Addr) (n c : Nat) (z q : Nat → Nat) (r : Nat) (wait : Int) (w : World) (hn : n ≤ 120) (hs : SL w A n (fun j => .float .f32 (z j))) (hz : ∀ j, j < n → FS .f32 (z j) (q j)) (h0 : 0 ≤ wait) (h1 : wait ≤ n) :
    Calls Try.prog 103 #[.slice A n c, .float .f32 r, .int .i64 wait] w fun e w' => ∃ s, e = .returned (.float .f32 s) ∧ FS .f32 s (woV q r wait n) ∧ ∃ u, w' = w.drewN u := by
  have HC := cells_f hs
  have HZ := hide hz
  clear hs hz
  have hmul := fun (w : World) (t : TypeId) (x y : Nat) => run_far_eq (P := Try.prog) .mul (by decide) w t .f32 x y
  have hadd := fun (w : World) (t : TypeId) (x y : Nat) => run_far_eq (P := Try.prog) .add (by decide) w t .f32 x y
  go_enter Try.func103, Try.ntmps103
  go_wp2
  go_loopw [7, 8, 9] (fun a b i wr => ∃ k u s p : Nat, k ≤ n ∧ i = .int .i64 k ∧ a = .float .f32 s ∧ b = .float .f32 p ∧ Hid (FS .f32 s (woV q r wait k)) ∧ Hid (FS .f32 p (pwV r k)) ∧ wr = w.drewN u) (fun _ _ i _ => n - (intOf i).toNat)
  case atStart => exact ⟨0, 0, 0, 1065353216, Nat.zero_le _, rfl, rfl, rfl, .inl rfl, .inl rfl, rfl⟩
  case round =>
    obtain ⟨k, u, s, p, hk, rfl, rfl, rfl, hs, hp, rfl⟩ := hrel
    by_cases hlt : k < n
    · obtain ⟨b, off, rfl, hb, hc⟩ := HC.out k hlt
      by_cases hw : wait ≤ (k : Int)
      · clear hmul hadd
        go_wp2_with (refine wpList_far _ rfl _ _ _ _ _ rfl (by decide) _ _ _ rfl rfl ?_; intro _ _ _)
        go_roundw
        case rel =>
          have f1 := ‹FR .f32 _ (fop .add .f32 1065353216 r)›
          have f2 := ‹FR .f32 _ (fop .quo .f32 1065353216 _)›
          exact ⟨k + 1, _, _, _, by omega, by go_num, rfl, rfl, wo_step hw hs.out hp.out (HZ.out k hlt) (by assumption) (by assumption), pwV_step (d := 0) hp.out (factor_step f1 f2) (by assumption), rfl⟩
        case measure => simp [intOf]; omega
      · clear hmul hadd
        have HW := hide (woV_no (q := q) (r := r) hw)
        go_wp2_with (refine wpList_far _ rfl _ _ _ _ _ rfl (by decide) _ _ _ rfl rfl ?_; intro _ _ _)
        go_roundw
        case rel =>
          have f1 := ‹FR .f32 _ (fop .add .f32 1065353216 r)›
          have f2 := ‹FR .f32 _ (fop .quo .f32 1065353216 _)›
          exact ⟨k + 1, _, _, _, by omega, by go_num, rfl, rfl, (by rw [HW.out]; exact hs.out), pwV_step (d := 0) hp.out (factor_step f1 f2) (by assumption), rfl⟩
        case measure => simp [intOf]; omega
    · obtain rfl : k = n := by omega
      go_wp2
      go_ret
      exact ⟨s, rfl, hs.out, _, rfl⟩
set_option maxRecDepth 100000 in
set_option maxHeartbeats 8000000 in
theorem specAnnuity_any (A : Option Addr) (n c : Nat) (x : Nat → Nat) (r : Nat) (w : World) (hn : n ≤ maxLen) (hs : SL w A n (fun j => .float .f32 (x j))) :
    Calls Try.prog 107 #[.slice A n c, .float .f32 r] w fun e w' => GaveV w w' e (lvP x n r 0) (lvV x n r 0) := by
  have HL := hide (specTable_any A n c x w hn hs)
  have HSL := hide hs
  clear hs
  unfold maxLen at hn
  by_cases hp : ltP x n
  rotate_left
  · have HT := hide (tru_no hp)
    have HH := hide (show ¬ (lvP x n r 0) from fun h => hp h.1)
    clear hp
    go_enter Try.func107, Try.ntmps107
    go_wp2_with fail
    refine HL.out.mono ?_
    rw [HT.out]
    rintro e W ⟨rfl, hbe⟩
    have HB0 : Hid (Below w.heap.size w W) := by rw [← hbe]; exact Below.refl _ _
    have HS0 : Hid (SL W A n (fun j => .float .f32 (x j))) := by rw [← hbe]; exact HSL.out
    clear hbe
    go_wp2_with (first | (go_at_call 101; refine (specShare_any _ _ ).mono ?_; rintro e w' ⟨rfl, rfl⟩))
    go_ret2
    exact gavev_no HH.out HB0.out
  have HT := hide (tru_yes hp)
  have HLT := hide hp
  have n120 := hp.1.2
  clear hp
  cases gr : shB r
  · have HH := hide (show ¬ (lvP x n r 0) from fun h => by have := h.2.1; rw [gr] at this; cases this)
    go_enter Try.func107, Try.ntmps107
    go_wp2_with fail
    refine HL.out.mono ?_
    rw [HT.out]
    rintro e W ⟨rfl, hbe⟩
    have HB0 : Hid (Below w.heap.size w W) := by rw [← hbe]; exact Below.refl _ _
    have HS0 : Hid (SL W A n (fun j => .float .f32 (x j))) := by rw [← hbe]; exact HSL.out
    clear hbe
    go_wp2_with (first | (go_at_call 101; refine (specShare_any _ _ ).mono ?_; rintro e w' ⟨rfl, rfl⟩))
    go_ret2
    exact gavev_no HH.out HB0.out
  have HH := hide (show lvP x n r 0 from ⟨HLT.out, gr, by omega, by omega⟩)
  go_enter Try.func107, Try.ntmps107
  go_wp2_with fail
  refine HL.out.mono ?_
  rw [HT.out]
  rintro e W ⟨rfl, hbe⟩
  have HB0 : Hid (Below w.heap.size w W) := by rw [← hbe]; exact Below.refl _ _
  have HS0 : Hid (SL W A n (fun j => .float .f32 (x j))) := by rw [← hbe]; exact HSL.out
  clear hbe
  go_wp2_with (first | (go_at_call 101; refine (specShare_any _ _ ).mono ?_; rintro e w' ⟨rfl, rfl⟩))
  refine (specAlive_any A n c x W n120 HS0.out).mono ?_
  rintro e W2 ⟨G, d, z, rfl, ho, hz, hb⟩
  have HB2 := hide (HB0.out.trans (hb.mono HB0.out.size))
  have HW := hide (specWorth_any G n d z (alV x) r 0 W2 n120 ho.sl hz (by omega) (by omega))
  clear ho hz hb gr
  go_wp2_with fail
  refine HW.out.mono ?_
  rintro e w' ⟨s, rfl, hs, u, rfl⟩
  have HSS := hide hs
  clear hs
  go_wp2
  go_ret2
  exact gavev_yes HH.out HSS.out (bel_q HB2.out _)
end Go.Proofs.Ytjebkagbknmdoaa
