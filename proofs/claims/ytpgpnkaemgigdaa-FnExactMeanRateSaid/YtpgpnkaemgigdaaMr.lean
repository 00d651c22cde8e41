/- MeanRate, by both. -/
import Derived.Test.YtpgpnkaemgigdaaRt
namespace Go.Proofs.Ytpgpnkaemgigdaa
open Go.RowKit Go.Dues
theorem ret_iib {p : Prop} {v w v2 w2 : Int} {b : Bool} (h : v = w) (h2 : v2 = w2) (h3 : b = tru p) : Ending.returned (.tuple #[.int .i64 v, .int .i64 v2, .bool b]) = .returned (.tuple #[.int .i64 w, .int .i64 w2, .bool (tru p)]) := by rw [h, h2, h3]
theorem int_i64 {a b : Int} (h : a = b) : Value.int .i64 a = .int .i64 b := by rw [h]

theorem specGcd_any (p q : Nat) (w : World) (hp : p ≤ 9000000000000000000) (hq : q ≤ 9000000000000000000) :
    Calls Try.prog 67 #[.int .i64 p, .int .i64 q] w fun e w' => e = .returned (.int .i64 (Nat.gcd p q : Nat)) ∧ w = w' := by
  go_enter Try.func67, Try.ntmps67
  go_wp2
  go_loop [0, 1, 5] (fun a b _ => ∃ s t : Nat, s ≤ 9000000000000000000 ∧ t ≤ 9000000000000000000 ∧ a = .int .i64 s ∧ b = .int .i64 t ∧ Hid (Nat.gcd s t = Nat.gcd p q)) (fun _ b _ => (intOf b).toNat)
  case atStart => exact ⟨p, q, hp, hq, rfl, rfl, rfl⟩
  case round =>
    obtain ⟨s, t, hs, ht, rfl, rfl, hg⟩ := hrel
    by_cases h : t = 0
    · subst h
      have hne : ((((0 : Nat) : Int)) != 0) = false := by simp
      have HG := hide (show (s : Int) = (Nat.gcd p q : Nat) by rw [← hg.out, Nat.gcd_zero_right])
      go_wp2
      go_ret
      exact ⟨reti HG.out, rfl⟩
    · have hne : ((t : Int) != 0) = true := by simp; omega
      have hnz : ¬ (t : Int) = 0 := by omega
      have HL := hide (Nat.mod_lt s (show 0 < t by omega))
      have HG := hide (show Nat.gcd t (s % t) = Nat.gcd p q by rw [← hg.out, Nat.gcd_comm s t, Nat.gcd_rec t s, Nat.gcd_comm])
      have HM := hide (show (s : Int) % (t : Int) = ((s % t : Nat) : Int) from (Int.natCast_emod s t).symm)
      go_wp2
      go_round
      case rel => exact ⟨t, s % t, ht, by have := HL.out; omega, rfl, int_i64 HM.out, HG⟩
      case measure =>
        simp [intOf]
        have h1 := HL.out
        have h2 := HM.out
        omega
theorem implGcd_any (p q : Nat) (w : World) (hp : p ≤ 9000000000000000000) (hq : q ≤ 9000000000000000000) :
    Calls Try.prog 69 #[.int .i64 p, .int .i64 q] w fun e w' => e = .returned (.int .i64 (Nat.gcd p q : Nat)) ∧ w = w' := by
  go_enter Try.func69, Try.ntmps69
  go_wp2
  go_loop [0, 1] (fun a b => ∃ s t : Nat, s ≤ 9000000000000000000 ∧ t ≤ 9000000000000000000 ∧ a = .int .i64 s ∧ b = .int .i64 t ∧ Hid (Nat.gcd s t = Nat.gcd p q)) (fun a _ => (intOf a).toNat)
  case atStart => exact ⟨p, q, hp, hq, rfl, rfl, rfl⟩
  case round =>
    obtain ⟨s, t, hs, ht, rfl, rfl, hg⟩ := hrel
    by_cases h : s = 0
    · subst h
      have HG := hide (show (t : Int) = (Nat.gcd p q : Nat) by rw [← hg.out, Nat.gcd_zero_left])
      go_wp2
      go_ret
      exact ⟨reti HG.out, rfl⟩
    · have hpos : (0 : Int) < (s : Int) := by omega
      have hnz : ¬ (s : Int) = 0 := by omega
      have HL := hide (Nat.mod_lt t (show 0 < s by omega))
      have HG := hide (show Nat.gcd (t % s) s = Nat.gcd p q by rw [← hg.out, Nat.gcd_rec s t])
      have HM := hide (show (t : Int) % (s : Int) = ((t % s : Nat) : Int) from (Int.natCast_emod t s).symm)
      go_wp2
      go_round
      case rel => exact ⟨t % s, s, by have := HL.out; omega, hs, int_i64 HM.out, rfl, HG⟩
      case measure =>
        simp [intOf]
        have h1 := HL.out
        have h2 := HM.out
        omega
def meanP (x y : Nat → Int) (n m : Nat) (v : Int) : Prop := Val x y n m ∧ (0 ≤ v ∧ v ≤ 1000000000000) ∧ ¬ v = 0
def gcdI (a b : Int) : Int := (Nat.gcd a.toNat b.toNat : Nat)
theorem gcdI_bd {a b : Int} (h : 1 ≤ b) : 1 ≤ gcdI a b ∧ gcdI a b ≤ b := by
  unfold gcdI
  have h1 : 0 < Nat.gcd a.toNat b.toNat := Nat.gcd_pos_of_pos_right _ (by omega)
  have h2 : Nat.gcd a.toNat b.toNat ≤ b.toNat := Nat.gcd_le_right _ (by omega)
  omega
theorem specGcdI_any (a b : Int) (w : World) (ha : 0 ≤ a ∧ a ≤ 9000000000000000000) (hb : 0 ≤ b ∧ b ≤ 9000000000000000000) :
    Calls Try.prog 67 #[.int .i64 a, .int .i64 b] w fun e w' => e = .returned (.int .i64 (gcdI a b)) ∧ w = w' := by
  obtain ⟨p, rfl⟩ := Int.eq_ofNat_of_zero_le ha.1
  obtain ⟨q, rfl⟩ := Int.eq_ofNat_of_zero_le hb.1
  exact specGcd_any p q w (by omega) (by omega)
theorem implGcdI_any (a b : Int) (w : World) (ha : 0 ≤ a ∧ a ≤ 9000000000000000000) (hb : 0 ≤ b ∧ b ≤ 9000000000000000000) :
    Calls Try.prog 69 #[.int .i64 a, .int .i64 b] w fun e w' => e = .returned (.int .i64 (gcdI a b)) ∧ w = w' := by
  obtain ⟨p, rfl⟩ := Int.eq_ofNat_of_zero_le ha.1
  obtain ⟨q, rfl⟩ := Int.eq_ofNat_of_zero_le hb.1
  exact implGcd_any p q w (by omega) (by omega)
/-- the two integers of a mean rate -/
def meanA (x y : Nat → Int) (n : Nat) (v : Int) : Int := xdue x y n v / gcdI (xdue x y n v) (10000 * v)
def meanB (x y : Nat → Int) (n : Nat) (v : Int) : Int := 10000 * v / gcdI (xdue x y n v) (10000 * v)
theorem ret_no3 {p : Prop} {v w : Int} (h : ¬ p) : Ending.returned (.tuple #[.int .i64 0, .int .i64 0, .bool false]) = .returned (.tuple #[.int .i64 (ifV p v), .int .i64 (ifV p w), .bool (tru p)]) := ret_iib (ifV_no h).symm (ifV_no h).symm (tru_no h).symm
theorem ret_yes3 {p : Prop} {v w : Int} (h : p) : Ending.returned (.tuple #[.int .i64 v, .int .i64 w, .bool true]) = .returned (.tuple #[.int .i64 (ifV p v), .int .i64 (ifV p w), .bool (tru p)]) := ret_iib (ifV_yes h).symm (ifV_yes h).symm (tru_yes h).symm
theorem mean_ret {x y : Nat → Int} {n m : Nat} {v : Int} (h : meanP x y n m v) : Ending.returned (.tuple #[.int .i64 (xdue x y n v / gcdI (xdue x y n v) (v * 10000)), .int .i64 (v * 10000 / gcdI (xdue x y n v) (v * 10000)), .bool true]) = .returned (.tuple #[.int .i64 (ifV (meanP x y n m v) (meanA x y n v)), .int .i64 (ifV (meanP x y n m v) (meanB x y n v)), .bool (tru (meanP x y n m v))]) := by
  rw [Int.mul_comm v 10000]; exact ret_yes3 h

set_option maxHeartbeats 2000000 in
theorem specMeanRate_any (A A' : Option Addr) (n c n' c' : Nat) (x y : Nat → Int) (v : Int) (w : World) (hn : n ≤ maxLen) (hn' : n' ≤ maxLen)
    (hs : SL w A n (fun j => .int .i64 (x j))) (hs' : SL w A' n' (fun j => .int .i64 (y j))) :
    Calls Try.prog 30 #[.agg #[.slice A n c, .slice A' n' c'], .int .i64 v] w fun e w' => e = .returned (.tuple #[.int .i64 (ifV (meanP x y n n' v) (meanA x y n v)), .int .i64 (ifV (meanP x y n n' v) (meanB x y n v)), .bool (tru (meanP x y n n' v))]) ∧ Below w.heap.size w w' := by
  have HB := hide ((Below.refl w.heap.size w).alloc (Nat.le_refl _) (.cells #[.slice A n c, .slice A' n' c'] 27))
  have HS := hide (hs.below HB.out)
  have HS' := hide (hs'.below HB.out)
  have HI := hide (specIs_any w.heap.size A A' n c n' c' x y (w.alloc (.cells #[.slice A n c, .slice A' n' c'] 27)) hn hn' (by simp) (by simp) HS.out HS'.out)
  clear hs hs'
  by_cases hv : Val x y n n'
  · have hvt := tru_yes hv
    cases ha : amtB v
    · have HH := hide (show ¬ meanP x y n n' v from fun h => by rw [amtB_yes h.2.1] at ha; cases ha)
      clear hv
      go_enter Try.func30, Try.ntmps30
      go_wp2_with fail
      refine HI.out.mono ?_
      rintro e w' ⟨rfl, q, rfl⟩
      go_wp2_with (go_at_call 62; refine (specCents_any _ _).mono ?_; rintro e w' ⟨rfl, rfl⟩)
      go_ret3
      exact ⟨ret_no3 HH.out, bel_drewN HB.out _⟩
    · by_cases hz : v = 0
      · have hzb : (v == 0) = true := by simpa using hz
        have HH := hide (show ¬ meanP x y n n' v from fun h => h.2.2 hz)
        clear hv hz
        go_enter Try.func30, Try.ntmps30
        go_wp2_with fail
        refine HI.out.mono ?_
        rintro e w' ⟨rfl, q, rfl⟩
        go_wp2_with (go_at_call 62; refine (specCents_any _ _).mono ?_; rintro e w' ⟨rfl, rfl⟩)
        go_ret3
        exact ⟨ret_no3 HH.out, bel_drewN HB.out _⟩
      have hzb : (v == 0) = false := by simpa using hz
      have HH := hide (show meanP x y n n' v from ⟨hv, amtB_iff.1 ha, hz⟩)
      obtain ⟨ha0, ha1⟩ := amtB_iff.1 ha
      have HX := hide (xdue_bd hv ha0)
      have hvpos : 1 ≤ v := by omega
      clear hv hz
      go_enter Try.func30, Try.ntmps30
      go_wp2_with fail
      refine HI.out.mono ?_
      rintro e w' ⟨rfl, q, rfl⟩
      go_wp2_with fail
      refine (specCents_any _ _).mono ?_
      rintro e w' ⟨rfl, rfl⟩
      go_wp2_with fail
      refine (specExact_any w.heap.size A A' n c n' c' x y v _ (by simp) (by simp) (HS.out.drewN q) (HS'.out.drewN q) HH.out.1 ha0 ha1).mono ?_
      rintro e w' ⟨rfl, q1, rfl⟩
      have hx0 := HX.out.1
      have hx1 := HX.out.2
      go_wp2_with fail
      refine (specGcdI_any _ _ _ ⟨hx0, by omega⟩ ⟨by omega, by omega⟩).mono ?_
      rintro e w' ⟨rfl, rfl⟩
      obtain ⟨hg1, hg2⟩ := gcdI_bd (a := xdue x y n v) (b := 10000 * v) (by omega)
      have hgz : ¬ gcdI (xdue x y n v) (10000 * v) = 0 := by omega
      go_wp2
      go_quiet (fail)
      go_wp2
      go_ret3
      exact ⟨ret_yes3 HH.out, bel_drewN (bel_drewN HB.out _) _⟩
  · have hvt := tru_no hv
    have HH := hide (show ¬ meanP x y n n' v from fun h => hv h.1)
    clear hv
    go_enter Try.func30, Try.ntmps30
    go_wp2_with fail
    refine HI.out.mono ?_
    rintro e w' ⟨rfl, q, rfl⟩
    go_wp2
    go_ret3
    exact ⟨ret_no3 HH.out, bel_drewN HB.out _⟩

set_option maxHeartbeats 2000000 in
theorem implMeanRate_any (A A' : Option Addr) (n c n' c' : Nat) (x y : Nat → Int) (v : Int) (w : World) (hn : n ≤ maxLen) (hn' : n' ≤ maxLen)
    (hs : SL w A n (fun j => .int .i64 (x j))) (hs' : SL w A' n' (fun j => .int .i64 (y j))) :
    Calls Try.prog 31 #[.agg #[.slice A n c, .slice A' n' c'], .int .i64 v] w fun e w' => e = .returned (.tuple #[.int .i64 (ifV (meanP x y n n' v) (meanA x y n v)), .int .i64 (ifV (meanP x y n n' v) (meanB x y n v)), .bool (tru (meanP x y n n' v))]) ∧ Below w.heap.size w w' := by
  have HB := hide ((Below.refl w.heap.size w).alloc (Nat.le_refl _) (.cells #[.slice A n c, .slice A' n' c'] 27))
  have HS := hide (hs.below HB.out)
  have HS' := hide (hs'.below HB.out)
  have HP := hide (blocks1 w (.cells #[.slice A n c, .slice A' n' c'] 27))
  have HI := hide (implValid_any A A' n c n' c' x y _ hn hn' HS.out HS'.out)
  clear hs hs'
  by_cases hv : Val x y n n'
  · have hvt := tru_yes hv
    cases ha : amtB v
    · have HH := hide (show ¬ meanP x y n n' v from fun h => by rw [amtB_yes h.2.1] at ha; cases ha)
      clear hv
      go_enter Try.func31, Try.ntmps31
      go_wp2_with fail
      refine HI.out.mono ?_
      rintro e w1 ⟨rfl, hb⟩
      have HB1 := hide (below_left HB.out hb (by simp))
      have HP1 := hide (blk_below hb (by simp) HP.out)
      have HS1 := hide (HS.out.below hb)
      have HS1' := hide (HS'.out.below hb)
      have k0 := Joins.cell_of_block HP1.out 0
      have k1 := Joins.cell_of_block HP1.out 1
      simp at k0 k1
      clear hb
      go_wp2_with (go_at_call 64; refine (implAmount_any _ _).mono ?_; rintro e w' ⟨rfl, rfl⟩)
      go_ret3
      exact ⟨ret_no3 HH.out, HB1.out⟩
    · by_cases hz : v = 0
      · have hzb : (v == 0) = true := by simpa using hz
        have HH := hide (show ¬ meanP x y n n' v from fun h => h.2.2 hz)
        clear hv hz
        go_enter Try.func31, Try.ntmps31
        go_wp2_with fail
        refine HI.out.mono ?_
        rintro e w1 ⟨rfl, hb⟩
        have HB1 := hide (below_left HB.out hb (by simp))
        have HP1 := hide (blk_below hb (by simp) HP.out)
        have HS1 := hide (HS.out.below hb)
        have HS1' := hide (HS'.out.below hb)
        have k0 := Joins.cell_of_block HP1.out 0
        have k1 := Joins.cell_of_block HP1.out 1
        simp at k0 k1
        clear hb
        go_wp2_with (go_at_call 64; refine (implAmount_any _ _).mono ?_; rintro e w' ⟨rfl, rfl⟩)
        go_ret3
        exact ⟨ret_no3 HH.out, HB1.out⟩
      have hzb : (v == 0) = false := by simpa using hz
      have HH := hide (show meanP x y n n' v from ⟨hv, amtB_iff.1 ha, hz⟩)
      obtain ⟨ha0, ha1⟩ := amtB_iff.1 ha
      have HX := hide (xdue_bd hv ha0)
      have hvpos : 1 ≤ v := by omega
      clear hv hz
      go_enter Try.func31, Try.ntmps31
      go_wp2_with fail
      refine HI.out.mono ?_
      rintro e w1 ⟨rfl, hb⟩
      have HB1 := hide (below_left HB.out hb (by simp))
      have HP1 := hide (blk_below hb (by simp) HP.out)
      have HS1 := hide (HS.out.below hb)
      have HS1' := hide (HS'.out.below hb)
      have k0 := Joins.cell_of_block HP1.out 0
      have k1 := Joins.cell_of_block HP1.out 1
      simp at k0 k1
      clear hb
      go_wp2_with fail
      refine (implAmount_any _ _).mono ?_
      rintro e w' ⟨rfl, rfl⟩
      go_wp2_with fail
      refine (implExact_any A A' n c n' c' x y v _ HS1.out HS1'.out HH.out.1 ha0 ha1).mono ?_
      rintro e w2 ⟨rfl, hb⟩
      have HB2 := hide (below_left HB1.out hb HB1.out.size)
      clear hb
      have hx0 := HX.out.1
      have hx1 := HX.out.2
      go_wp2_with fail
      refine (implGcdI_any _ _ _ ⟨hx0, by omega⟩ ⟨by omega, by omega⟩).mono ?_
      rintro e w' ⟨rfl, rfl⟩
      obtain ⟨hg1, hg2⟩ := gcdI_bd (a := xdue x y n v) (b := v * 10000) (by omega)
      have hgz : ¬ gcdI (xdue x y n v) (v * 10000) = 0 := by omega
      go_wp2
      go_quiet (fail)
      go_wp2
      go_ret3
      exact ⟨mean_ret HH.out, bel_drewN HB2.out _⟩
  · have hvt := tru_no hv
    have HH := hide (show ¬ meanP x y n n' v from fun h => hv h.1)
    clear hv
    go_enter Try.func31, Try.ntmps31
    go_wp2_with fail
    refine HI.out.mono ?_
    rintro e w1 ⟨rfl, hb⟩
    have HB1 := hide (below_left HB.out hb (by simp))
    have HP1 := hide (blk_below hb (by simp) HP.out)
    have HS1 := hide (HS.out.below hb)
    have HS1' := hide (HS'.out.below hb)
    have k0 := Joins.cell_of_block HP1.out 0
    have k1 := Joins.cell_of_block HP1.out 1
    simp at k0 k1
    clear hb
    go_wp2
    go_ret3
    exact ⟨ret_no3 HH.out, HB1.out⟩
end Go.Proofs.Ytpgpnkaemgigdaa
