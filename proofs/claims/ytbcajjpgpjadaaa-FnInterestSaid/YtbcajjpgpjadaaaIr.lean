/- Interest at rates that change: plain arithmetic; by the reference. -/
import Derived.Test.YtbcajjpgpjadaaaIt
import Derived.Test.YtbcajjpgpjadaaaAl
import Derived.Test.YtbcajjpgpjadaaaEn
namespace Go.Proofs.Ytbcajjpgpjadaaa
open Go.RowKit Go.Dues
def rdP (x : Nat → Int) (n : Nat) : Prop := (1 ≤ n ∧ n ≤ 24) ∧ (∀ j, j < n → 0 ≤ x j ∧ x j ≤ 36524) ∧ ∀ j, j + 1 < n → x j < x (j + 1)
def irP (c : Int) (x : Nat → Int) (n : Nat) (y : Nat → Int) (m : Nat) (k a b : Int) : Prop := (0 ≤ c ∧ c ≤ 1000000000) ∧ timeP k a b ∧ rdP x n ∧ m = n ∧ x 0 ≤ a ∧ ∀ j, j < n → 0 ≤ y j ∧ y j ≤ 100000
def irLo (x : Nat → Int) (a : Int) (j : Nat) : Int := max a (x j)
def irHi (x : Nat → Int) (n : Nat) (b : Int) (j : Nat) : Int := if j + 1 < n then min b (x (j + 1)) else b
theorem irHi_in {x : Nat → Int} {n j : Nat} {b : Int} (h : j + 1 < n) : irHi x n b j = min b (x (j + 1)) := if_pos h
theorem irHi_end {x : Nat → Int} {n j : Nat} {b : Int} (h : ¬ j + 1 < n) : irHi x n b j = b := if_neg h
def irT (c : Int) (x : Nat → Int) (n : Nat) (y : Nat → Int) (k a b : Int) (j : Nat) : Int := if irLo x a j < irHi x n b j then intV c (y j) k (irLo x a j) (irHi x n b j) else 0
def irS (c : Int) (x : Nat → Int) (n : Nat) (y : Nat → Int) (k a b : Int) : Nat → Int
  | 0 => 0
  | j + 1 => irS c x n y k a b j + irT c x n y k a b j
theorem irS_succ (c : Int) (x : Nat → Int) (n : Nat) (y : Nat → Int) (k a b : Int) (j : Nat) : irS c x n y k a b (j + 1) = irS c x n y k a b j + irT c x n y k a b j := rfl
theorem ir_intP {c k a b : Int} {x y : Nat → Int} {n m j : Nat} (h : irP c x n y m k a b) (hj : j < n) (hlt : irLo x a j < irHi x n b j) : intP c (y j) k (irLo x a j) (irHi x n b j) := by
  obtain ⟨hc, ⟨hk, ha, hb, hab⟩, ⟨_, hx, _⟩, _, _, hy⟩ := h
  have h1 := hx j hj
  have h2 : irHi x n b j ≤ b := by unfold irHi; split <;> omega
  have h3 : a ≤ irLo x a j := by unfold irLo; omega
  unfold dayP at ha hb
  refine ⟨hc, hy j hj, hk, ?_, ?_, by omega⟩
  · unfold dayP; omega
  · unfold dayP; omega
theorem irT_bd {c k a b : Int} {x y : Nat → Int} {n m j : Nat} (h : irP c x n y m k a b) (hj : j < n) : 0 ≤ irT c x n y k a b j ∧ irT c x n y k a b j ≤ 1015000000000 := by
  unfold irT
  split
  · rename_i hlt
    exact intV_bd (ir_intP h hj hlt)
  · omega
theorem intV_same {c r k s : Int} : intV c r k s s = 0 := by
  have h1 : btwN k s s = 0 := by unfold btwN d360 monB; split <;> omega
  have h2 := btwM_bd k
  unfold intV
  rw [h1, Int.mul_zero, Int.mul_zero, rnd_1n (by rw [Int.zero_emod]; omega)]
  simp
/-- what the program asks for: the part of the time between two days -/
def inT (a b d : Int) : Int := max a (min d b)
def irE (x : Nat → Int) (n : Nat) (a b : Int) (j : Nat) : Int := if j + 1 < n then inT a b (x (j + 1)) else b
theorem irE_in {x : Nat → Int} {n j : Nat} {a b : Int} (h : j + 1 < n) : irE x n a b j = inT a b (x (j + 1)) := if_pos h
theorem irE_end {x : Nat → Int} {n j : Nat} {a b : Int} (h : ¬ j + 1 < n) : irE x n a b j = b := if_neg h
theorem ir_part {c k a b : Int} {x y : Nat → Int} {n j : Nat} (hx : rdP x n) (hab : a ≤ b) : intV c (y j) k (inT a b (x j)) (irE x n a b j) = irT c x n y k a b j := by
  unfold irT
  by_cases hn : j + 1 < n
  · have h1 := hx.2.2 j hn
    rw [irE_in hn, irHi_in hn]
    unfold inT irLo
    split
    · rw [show max a (min (x j) b) = max a (x j) by omega, show max a (min (x (j + 1)) b) = min b (x (j + 1)) by omega]
    · rw [show max a (min (x (j + 1)) b) = max a (min (x j) b) by omega, intV_same]
  · rw [irE_end hn, irHi_end hn]
    unfold inT irLo
    split
    · rw [show max a (min (x j) b) = max a (x j) by omega]
    · rw [show max a (min (x j) b) = b by omega, intV_same]
theorem ir_parts {c k a b : Int} {x y : Nat → Int} {n m j : Nat} (h : irP c x n y m k a b) (hj : j < n) : intP c (y j) k (inT a b (x j)) (irE x n a b j) := by
  obtain ⟨hc, ⟨hk, ha, hb, hab⟩, hx, _, _, hy⟩ := h
  have h1 := hx.2.1 j hj
  unfold dayP at ha hb
  refine ⟨hc, hy j hj, hk, by unfold inT dayP; omega, ?_, ?_⟩
  · unfold irE inT dayP; split <;> omega
  · unfold irE inT
    split
    · rename_i hn
      have := hx.2.2 j hn
      omega
    · omega
theorem ir_all {c k a b : Int} {x y : Nat → Int} {n m : Nat} (hx : rdP x n) (hm : m = n) (ha : x 0 ≤ a) (h : ∀ j, j < n → intP c (y j) k (inT a b (x j)) (irE x n a b j)) : irP c x n y m k a b := by
  obtain ⟨i, rfl⟩ : ∃ i, n = i + 1 := ⟨n - 1, by have := hx.1.1; omega⟩
  have h0 := (hx.2.1 0 (by omega)).1
  have hl := h i (by omega)
  rw [irE_end (by omega)] at hl
  obtain ⟨hc, _, hk, h1, h2, h3⟩ := hl
  unfold dayP at h2
  unfold inT at h3
  refine ⟨hc, ⟨hk, by unfold dayP; omega, by unfold dayP; omega, by omega⟩, hx, hm, ha, fun j hj => (h j hj).2.1⟩
theorem specRate3_any (x : Int) (w : World) : Calls Try.prog 107 #[.int .i64 x] w fun e w' => e = .returned (.bool (inB x 0 100000)) ∧ w = w' := by
  go_enter Try.func107, Try.ntmps107
  go_wp2_with (first | (go_at_call 106; refine (specIn_any _ _ _ _).mono ?_; rintro e w' ⟨rfl, rfl⟩) | go_in)
  go_ret
  exact ⟨rfl, rfl⟩
set_option maxRecDepth 100000 in
set_option maxHeartbeats 8000000 in
theorem specByRates_any (c : Int) (A : Option Addr) (n cc : Nat) (x : Nat → Int) (B : Option Addr) (m cd : Nat) (y : Nat → Int) (k a b : Int) (w : World) (hn : n ≤ maxLen) (hs : SL w A n (fun j => .int .i64 (x j))) (hm : m ≤ maxLen) (hs' : SL w B m (fun j => .int .i64 (y j))) :
    Calls Try.prog 33 #[.int .i64 c, .slice A n cc, .slice B m cd, .int .i64 k, .int .i64 a, .int .i64 b] w fun e w' => e = .returned (.tuple #[.int .i64 (ifV (irP c x n y m k a b) (irS c x n y k a b n)), .bool (tru (irP c x n y m k a b))]) ∧ Below w.heap.size w w' := by
  unfold maxLen at hn hm
  have HC := cells_a hs
  have HD := cells_a hs'
  clear hs hs'
  cases g0 : inB c 0 1000000000
  · have HH := hide (show ¬ irP c x n y m k a b from fun h => by rw [inB_yes h.1] at g0; cases g0)
    go_enter Try.func33, Try.ntmps33
    go_wp2_with (first | (go_at_call 106; refine (specIn_any _ _ _ _).mono ?_; rintro e w' ⟨rfl, rfl⟩) | (go_at_call 101; refine (specTime_any _ _ _ _).mono ?_; rintro e w' ⟨rfl, rfl⟩))
    go_ret2
    exact ⟨ret_no HH.out, Below.refl _ _⟩
  cases g1 : timeB k a b
  · have HH := hide (show ¬ irP c x n y m k a b from fun h => by rw [timeB_iff.2 h.2.1] at g1; cases g1)
    go_enter Try.func33, Try.ntmps33
    go_wp2_with (first | (go_at_call 106; refine (specIn_any _ _ _ _).mono ?_; rintro e w' ⟨rfl, rfl⟩) | (go_at_call 101; refine (specTime_any _ _ _ _).mono ?_; rintro e w' ⟨rfl, rfl⟩))
    go_ret2
    exact ⟨ret_no HH.out, Below.refl _ _⟩
  by_cases n0 : (n : Int) < 1
  · have HH := hide (show ¬ irP c x n y m k a b from fun h => by have := h.2.2.1.1.1; omega)
    have n0d : decide ((n : Int) < 1) = true := decide_eq_true n0
    go_enter Try.func33, Try.ntmps33
    go_wp2_with (first | (go_at_call 106; refine (specIn_any _ _ _ _).mono ?_; rintro e w' ⟨rfl, rfl⟩) | (go_at_call 101; refine (specTime_any _ _ _ _).mono ?_; rintro e w' ⟨rfl, rfl⟩))
    go_ret2
    exact ⟨ret_no HH.out, Below.refl _ _⟩
  have n0d : decide ((n : Int) < 1) = false := decide_eq_false n0
  by_cases n1 : (24 : Int) < (n : Int)
  · have HH := hide (show ¬ irP c x n y m k a b from fun h => by have := h.2.2.1.1.2; omega)
    have n1d : decide ((24 : Int) < (n : Int)) = true := decide_eq_true n1
    go_enter Try.func33, Try.ntmps33
    go_wp2_with (first | (go_at_call 106; refine (specIn_any _ _ _ _).mono ?_; rintro e w' ⟨rfl, rfl⟩) | (go_at_call 101; refine (specTime_any _ _ _ _).mono ?_; rintro e w' ⟨rfl, rfl⟩))
    go_ret2
    exact ⟨ret_no HH.out, Below.refl _ _⟩
  have n1d : decide ((24 : Int) < (n : Int)) = false := decide_eq_false n1
  by_cases mn : m = n
  rotate_left
  · have HH := hide (show ¬ irP c x n y m k a b from fun h => mn h.2.2.2.1)
    have mnd : ((m : Int) != (n : Int)) = true := by rw [bne_iff_ne]; omega
    have mne : ((m : Int) == (n : Int)) = false := by rw [beq_eq_false_iff_ne]; omega
    go_enter Try.func33, Try.ntmps33
    go_wp2_with (first | (go_at_call 106; refine (specIn_any _ _ _ _).mono ?_; rintro e w' ⟨rfl, rfl⟩) | (go_at_call 101; refine (specTime_any _ _ _ _).mono ?_; rintro e w' ⟨rfl, rfl⟩))
    go_ret2
    exact ⟨ret_no HH.out, Below.refl _ _⟩
  subst mn
  have mnd : ((m : Int) != (m : Int)) = false := by simp
  obtain ⟨b0, off, rfl, hb, hc0⟩ := HC.out 0 (by omega)
  simp only [Nat.add_zero] at hc0
  by_cases xa : a < x 0
  · have HH := hide (show ¬ irP c x m y m k a b from fun h => by have := h.2.2.2.2.1; omega)
    have xad : decide (a < x 0) = true := decide_eq_true xa
    go_enter Try.func33, Try.ntmps33
    go_wp2_with (first | (go_at_call 106; refine (specIn_any _ _ _ _).mono ?_; rintro e w' ⟨rfl, rfl⟩) | (go_at_call 101; refine (specTime_any _ _ _ _).mono ?_; rintro e w' ⟨rfl, rfl⟩))
    go_ret2
    exact ⟨ret_no HH.out, Below.refl _ _⟩
  have xad : decide (a < x 0) = false := decide_eq_false xa
  have HXA := hide xa
  have HG0 := hide (inB_iff.1 g0)
  have HG1 := hide (timeB_iff.1 g1)
  have m1 : 1 ≤ m := by omega
  have m24 : m ≤ 24 := by omega
  go_enter Try.func33, Try.ntmps33
  go_wp2_with (first | (go_at_call 106; refine (specIn_any _ _ _ _).mono ?_; rintro e w' ⟨rfl, rfl⟩) | (go_at_call 101; refine (specTime_any _ _ _ _).mono ?_; rintro e w' ⟨rfl, rfl⟩))
  clear g0 g1 n0 n1 xa n0d n1d mnd hc0 xad
  go_loopw [15, 55] (fun _ i wr => ∃ j : Nat, j ≤ m ∧ i = .int .i64 j ∧ Hid (∀ p, p < j → (0 ≤ x p ∧ x p ≤ 36524) ∧ (0 ≤ y p ∧ y p ≤ 100000) ∧ (0 < p → x (p - 1) < x p)) ∧ Below w.heap.size w wr) (fun _ i _ => m - (intOf i).toNat)
  case atStart => exact ⟨0, Nat.zero_le _, rfl, fun p hp => absurd hp (by omega), Below.refl _ _⟩
  case round =>
    obtain ⟨j, hj, rfl, hgood, hbel⟩ := hrel
    by_cases hlt : j < m
    · obtain ⟨b1, off1, e1, hb1, c1⟩ := HC.out j hlt
      injection e1 with e1
      injection e1 with e2 e3
      subst e2 e3
      obtain ⟨b2, off2, rfl, hb2, c2⟩ := HD.out j hlt
      have d1 := (hbel.cell (p := ⟨b0, off + j, none⟩) hb1).trans c1
      have d2 := (hbel.cell (p := ⟨b2, off2 + j, none⟩) hb2).trans c2
      have HBEL := hide hbel
      clear c1 c2
      cases gd : inB (x j) 0 36524
      · clear hbel
        have HT := hide (show ¬ irP c x m y m k a b from fun h => by rw [inB_yes (h.2.2.1.2.1 j hlt)] at gd; cases gd)
        go_wp2_with fail
        go_quiet ((first | (go_at_call 111; exact Calls.quiet_of_same ((specDay_any _ _ ).mono fun _ _ ⟨h, h'⟩ => ⟨h, h'.symm⟩)) | (go_at_call 107; exact Calls.quiet_of_same ((specRate3_any _ _ ).mono fun _ _ ⟨h, h'⟩ => ⟨h, h'.symm⟩))))
        go_wp2
        go_ret2
        exact ⟨ret_no HT.out, bel_w HBEL.out _⟩
      cases gr : inB (y j) 0 100000
      · clear hbel
        have HT := hide (show ¬ irP c x m y m k a b from fun h => by rw [inB_yes (h.2.2.2.2.2 j hlt)] at gr; cases gr)
        go_wp2_with fail
        go_quiet ((first | (go_at_call 111; exact Calls.quiet_of_same ((specDay_any _ _ ).mono fun _ _ ⟨h, h'⟩ => ⟨h, h'.symm⟩)) | (go_at_call 107; exact Calls.quiet_of_same ((specRate3_any _ _ ).mono fun _ _ ⟨h, h'⟩ => ⟨h, h'.symm⟩))))
        go_wp2
        go_ret2
        exact ⟨ret_no HT.out, bel_w HBEL.out _⟩
      have HGD := hide (inB_iff.1 gd)
      have HGR := hide (inB_iff.1 gr)
      by_cases hk0 : j = 0
      · clear hbel
        have HK0 := hide hk0
        have z0 : decide ((0 : Int) < (j : Int)) = false := decide_eq_false (by omega)
        have z2 : decide (0 < j) = false := decide_eq_false (by omega)
        clear hk0
        go_wp2_with fail
        go_quiet ((first | (go_at_call 111; exact Calls.quiet_of_same ((specDay_any _ _ ).mono fun _ _ ⟨h, h'⟩ => ⟨h, h'.symm⟩)) | (go_at_call 107; exact Calls.quiet_of_same ((specRate3_any _ _ ).mono fun _ _ ⟨h, h'⟩ => ⟨h, h'.symm⟩))))
        go_wp2
        go_roundw
        case rel => exact ⟨j + 1, by omega, by go_num, (fun p hp => by
          obtain rfl : p = j := by have := HK0.out; omega
          exact ⟨HGD.out, HGR.out, fun h => absurd h (by have := HK0.out; omega)⟩), bel_w HBEL.out _⟩
        case measure => simp [intOf]; omega
      · obtain ⟨i, rfl⟩ : ∃ i, j = i + 1 := ⟨j - 1, by omega⟩
        obtain ⟨b3, off3, e3, hb3, c3⟩ := HC.out i (by omega)
        injection e3 with e3
        injection e3 with e4 e5
        subst e4 e5
        have d3 := (hbel.cell (p := ⟨b0, off + i, none⟩) hb3).trans c3
        clear c3 hbel
        have z0 : decide ((0 : Int) < ((i + 1 : Nat) : Int)) = true := decide_eq_true (by omega)
        have z1 : (0 : Int) < (i : Int) + 1 := by omega
        by_cases hlo : x (i + 1) ≤ x i
        · have HLO := hide hlo
          have HT := hide (show ¬ irP c x m y m k a b from fun h => by have h1 := h.2.2.1.2.2 i hlt; have := HLO.out; omega)
          go_wp2_with fail
          go_quiet ((first | (go_at_call 111; exact Calls.quiet_of_same ((specDay_any _ _ ).mono fun _ _ ⟨h, h'⟩ => ⟨h, h'.symm⟩)) | (go_at_call 107; exact Calls.quiet_of_same ((specRate3_any _ _ ).mono fun _ _ ⟨h, h'⟩ => ⟨h, h'.symm⟩))))
          go_wp2
          go_ret2
          exact ⟨ret_no HT.out, bel_w HBEL.out _⟩
        · have HUP := hide (show x i < x (i + 1) by omega)
          have hlo2 := HUP.out
          clear hlo
          go_wp2_with fail
          go_quiet ((first | (go_at_call 111; exact Calls.quiet_of_same ((specDay_any _ _ ).mono fun _ _ ⟨h, h'⟩ => ⟨h, h'.symm⟩)) | (go_at_call 107; exact Calls.quiet_of_same ((specRate3_any _ _ ).mono fun _ _ ⟨h, h'⟩ => ⟨h, h'.symm⟩))))
          go_wp2
          go_roundw
          case rel => exact ⟨i + 1 + 1, by omega, by go_num, (fun p hp => by
            by_cases hpi : p = i + 1
            · subst hpi
              exact ⟨HGD.out, HGR.out, fun _ => HUP.out⟩
            · exact hgood.out p (by omega)), bel_w HBEL.out _⟩
          case measure => simp [intOf]; omega
    · obtain rfl : j = m := by omega
      have HH := hide (show irP c x j y j k a b from ⟨HG0.out, HG1.out, ⟨⟨m1, m24⟩, fun p hp => (hgood.out p hp).1, fun p hp => by have h1 := (hgood.out (p + 1) hp).2.2 (by omega); rwa [show p + 1 - 1 = p by omega] at h1⟩, rfl, HXA.out, fun p hp => (hgood.out p hp).2.1⟩)
      have HBEL := hide hbel
      clear hbel hlt hj
      go_wp2
      clear hgood
      go_loopw [16, 17, 18, 19, 91] (fun s _ _ _ i wr => ∃ (q : Nat) (S : Int), q ≤ j ∧ i = .int .i64 q ∧ s = .int .i64 S ∧ 0 ≤ S ∧ S ≤ 1015000000000 * (q : Int) ∧ Hid (S = irS c x j y k a b q) ∧ Below w.heap.size w wr) (fun _ _ _ _ i _ => j - (intOf i).toNat)
      case atStart => exact ⟨0, 0, Nat.zero_le _, rfl, rfl, by omega, by simp, rfl, HBEL.out⟩
      case round =>
        obtain ⟨q, S, hq, rfl, rfl, S0, S1, hS, hbel⟩ := hrel
        by_cases hlt2 : q < j
        · obtain ⟨b1, off1, e1, hb1, c1⟩ := HC.out q hlt2
          injection e1 with e1
          injection e1 with e2 e3
          subst e2 e3
          obtain ⟨b2, off2, rfl, hb2, c2⟩ := HD.out q hlt2
          have d1 := (hbel.cell (p := ⟨b0, off + q, none⟩) hb1).trans c1
          have d2 := (hbel.cell (p := ⟨b2, off2 + q, none⟩) hb2).trans c2
          have HBEL2 := hide hbel
          clear c1 c2 hbel
          obtain ⟨u, hu⟩ : ∃ u, u = irLo x a q := ⟨_, rfl⟩
          have HMX : Hid (∀ w, Calls Try.prog 112 #[.int .i64 a, .int .i64 (x q)] w fun e w' => e = .returned (.int .i64 u) ∧ w = w') := by rw [hu]; exact fun w => specMax_any a (x q) w
          obtain ⟨v, hv⟩ : ∃ v, v = irHi x j b q := ⟨_, rfl⟩
          by_cases hq1 : q + 1 < j
          · obtain ⟨b3, off3, e3, hb3, c3⟩ := HC.out (q + 1) hq1
            injection e3 with e3
            injection e3 with e4 e5
            subst e4 e5
            have d3 := (HBEL2.out.cell (p := ⟨b0, off + (q + 1), none⟩) hb3).trans c3
            have HMN : Hid (∀ w, Calls Try.prog 113 #[.int .i64 b, .int .i64 (x (q + 1))] w fun e w' => e = .returned (.int .i64 v) ∧ w = w') := by rw [hv, irHi_in hq1]; exact fun w => specMin_any b (x (q + 1)) w
            have z1 : decide ((q : Int) + 1 < (j : Int)) = true := decide_eq_true (by omega)
            have z2 : (q : Int) + 1 < (j : Int) := by omega
            clear c3
            have HHI := hide (show v = irHi x j b q from hv)
            by_cases huv : u < v
            · have huvd : decide (u < v) = true := decide_eq_true huv
              have HI := hide (show intP c (y q) k u v by rw [hu, hv]; exact ir_intP HH.out hlt2 (by rw [← hu, ← hv]; exact huv))
              have HE := hide (show S + intV c (y q) k u v = irS c x j y k a b (q + 1) by rw [irS_succ, ← hS.out]; unfold irT; rw [← hu, ← hv, if_pos huv])
              have HTB := hide (show intV c (y q) k u v = irT c x j y k a b q by unfold irT; rw [← hu, ← hv, if_pos huv])
              have hI0 : 0 ≤ intV c (y q) k u v := (intV_bd HI.out).1
              have hI1 : intV c (y q) k u v ≤ 1015000000000 := (intV_bd HI.out).2
              obtain ⟨I, hI⟩ : ∃ I, I = intV c (y q) k u v := ⟨_, rfl⟩
              rw [← hI] at HE hI0 hI1
              have HIN : Hid (∀ w, Calls Try.prog 108 #[.int .i64 c, .int .i64 (y q), .int .i64 k, .int .i64 u, .int .i64 v] w fun e w' => e = .returned (.int .i64 I) ∧ w = w') := by rw [hI]; exact fun w => specInterest_any c (y q) k u v w HI.out
              clear hu hv hI huv HTB
              go_wp2_with (first | (go_at_call 112; refine (HMX.out _).mono ?_; rintro e w' ⟨rfl, rfl⟩) | (go_at_call 113; refine (HMN.out _).mono ?_; rintro e w' ⟨rfl, rfl⟩) | (go_at_call 108; refine (HIN.out _).mono ?_; rintro e w' ⟨rfl, rfl⟩))
              go_roundw
              case rel => exact ⟨q + 1, _, by omega, by go_num, rfl, by omega, by push_cast; omega, HE.out, HBEL2.out⟩
              case measure => simp [intOf]; omega
            · have huvd : decide (u < v) = false := decide_eq_false huv
              have HE := hide (show S = irS c x j y k a b (q + 1) by rw [irS_succ, ← hS.out]; unfold irT; rw [← hu, ← hv, if_neg huv]; omega)
              clear hu hv huv
              go_wp2_with (first | (go_at_call 112; refine (HMX.out _).mono ?_; rintro e w' ⟨rfl, rfl⟩) | (go_at_call 113; refine (HMN.out _).mono ?_; rintro e w' ⟨rfl, rfl⟩))
              go_roundw
              case rel => exact ⟨q + 1, _, by omega, by go_num, rfl, by omega, by push_cast; omega, HE.out, HBEL2.out⟩
              case measure => simp [intOf]; omega
          · have hvb : b = v := by rw [hv, irHi_end hq1]
            have z1 : decide ((q : Int) + 1 < (j : Int)) = false := decide_eq_false (by omega)
            subst hvb
            have HHI := hide (show b = irHi x j b q from hv)
            by_cases huv : u < b
            · have huvd : decide (u < b) = true := decide_eq_true huv
              have HI := hide (show intP c (y q) k u b by rw [hu, hv]; exact ir_intP HH.out hlt2 (by rw [← hu, ← hv]; exact huv))
              have HE := hide (show S + intV c (y q) k u b = irS c x j y k a b (q + 1) by rw [irS_succ, ← hS.out]; unfold irT; rw [← hu, ← hv, if_pos huv])
              have HTB := hide (show intV c (y q) k u b = irT c x j y k a b q by unfold irT; rw [← hu, ← hv, if_pos huv])
              have hI0 : 0 ≤ intV c (y q) k u b := (intV_bd HI.out).1
              have hI1 : intV c (y q) k u b ≤ 1015000000000 := (intV_bd HI.out).2
              obtain ⟨I, hI⟩ : ∃ I, I = intV c (y q) k u b := ⟨_, rfl⟩
              rw [← hI] at HE hI0 hI1
              have HIN : Hid (∀ w, Calls Try.prog 108 #[.int .i64 c, .int .i64 (y q), .int .i64 k, .int .i64 u, .int .i64 b] w fun e w' => e = .returned (.int .i64 I) ∧ w = w') := by rw [hI]; exact fun w => specInterest_any c (y q) k u b w HI.out
              clear hu hv hI huv HTB
              go_wp2_with (first | (go_at_call 112; refine (HMX.out _).mono ?_; rintro e w' ⟨rfl, rfl⟩) | fail | (go_at_call 108; refine (HIN.out _).mono ?_; rintro e w' ⟨rfl, rfl⟩))
              go_roundw
              case rel => exact ⟨q + 1, _, by omega, by go_num, rfl, by omega, by push_cast; omega, HE.out, HBEL2.out⟩
              case measure => simp [intOf]; omega
            · have huvd : decide (u < b) = false := decide_eq_false huv
              have HE := hide (show S = irS c x j y k a b (q + 1) by rw [irS_succ, ← hS.out]; unfold irT; rw [← hu, ← hv, if_neg huv]; omega)
              clear hu hv huv
              go_wp2_with (first | (go_at_call 112; refine (HMX.out _).mono ?_; rintro e w' ⟨rfl, rfl⟩) | fail)
              go_roundw
              case rel => exact ⟨q + 1, _, by omega, by go_num, rfl, by omega, by push_cast; omega, HE.out, HBEL2.out⟩
              case measure => simp [intOf]; omega
        · obtain rfl : q = j := by omega
          have HV := hide hS.out
          have HBEL2 := hide hbel
          clear hbel
          go_wp2
          go_ret2
          exact ⟨ret_val HH.out HV.out, HBEL2.out⟩
end Go.Proofs.Ytbcajjpgpjadaaa
