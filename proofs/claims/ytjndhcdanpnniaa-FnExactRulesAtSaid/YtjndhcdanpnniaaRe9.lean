/- RepealRule, by both. -/
import Derived.Test.YtjndhcdanpnniaaRr9
namespace Go.Proofs.Ytjndhcdanpnniaa
open Go.RowKit Go.Dues
def repP (V : Nat → RV) (n : Nat) (i day : Int) : Prop := rulesP V n ∧ (0 ≤ i ∧ i ≤ (n : Int) - 1) ∧ (V i.toNat).f < day ∧ day ≤ (V i.toNat).t
def repV (V : Nat → RV) (i day : Int) : Nat → RV := putR V i.toNat 3 (day - 1)
/-- rules in a row of the call's own, if p holds; none if not -/
def GaveMR (w w' : World) (e : Ending) (p : Prop) (t : TypeId) (n : Nat) (V : Nat → RV) : Prop :=
  (p ∧ ∃ G d xs P, e = .returned (.tuple #[.slice G n d, .bool true]) ∧ MR w' w.heap.size t G d n xs V P ∧ Below w.heap.size w w') ∨ (¬ p ∧ e = .returned (.tuple #[.slice none 0 0, .bool false]) ∧ Below w.heap.size w w')
theorem mr_no {w w' : World} {p : Prop} {t : TypeId} {n : Nat} {V : Nat → RV} (h : ¬ p) (hb : Below w.heap.size w w') : GaveMR w w' (.returned (.tuple #[.slice none 0 0, .bool false])) p t n V := .inr ⟨h, rfl, hb⟩
theorem mr_yes {w w' : World} {p : Prop} {t : TypeId} {n d : Nat} {V : Nat → RV} {G : Option Addr} {xs : List Value} {P : Nat → RP} (h : p) (hm : MR w' w.heap.size t G d n xs V P) (hb : Below w.heap.size w w') : GaveMR w w' (.returned (.tuple #[.slice G n d, .bool true])) p t n V := .inl ⟨h, G, d, xs, P, rfl, hm, hb⟩
theorem implPlace5_any (i : Int) (n : Nat) (w : World) (hn : n ≤ 140737488355328) : Calls Try.prog 109 #[.int .i64 i, .int .i64 n] w fun e w' => e = .returned (.bool (inB i 0 ((n : Int) - 1))) ∧ w = w' := by
  go_enter Try.func109, Try.ntmps109
  go_wp2_with (go_at_call 92; refine (implWithin_any _ _ _ _).mono ?_; rintro e w' ⟨rfl, rfl⟩)
  go_ret
  exact ⟨rfl, rfl⟩
/-- the copies that the program makes -/
def CopRs (w : World) (a : Act) (w' : World) (t : TypeId) (n : Nat) (V : Nat → RV) : Prop := ∃ G d xs P, a.tmps.getD 8 undef = .slice G n d ∧ MR w' w.heap.size t G d n xs V P ∧ Below w.heap.size w w'
set_option maxRecDepth 100000 in
set_option maxHeartbeats 4000000 in
theorem specEnds_any (A : Option Addr) (n c : Nat) (V : Nat → RV) (i day : Int) (w : World) (hn : n ≤ 1048576) (hv : ∀ i, i < n → (V i).n ≤ 1048576) (hs : RS w A n V) (hd : -9223372036854775808 ≤ day ∧ day ≤ 9223372036854775807) :
    Calls Try.prog 107 #[.slice A n c, .int .i64 i, .int .i64 day] w fun e w' => e = .returned (.bool (tru (repP V n i day))) ∧ ∃ u, w' = w.drewN u := by
  have HR := hide (specRules_any A n c V w (by unfold maxLen; omega) (fun i hi => Nat.le_trans (hv i hi) (by unfold maxLen; omega)) hs)
  have HC := hs.cells
  clear hs hv
  by_cases hp : rulesP V n
  rotate_left
  · have HT := hide (tru_no hp)
    have HH := hide (tru_no (show ¬ repP V n i day from fun h => hp h.1))
    clear hp
    go_enter Try.func107, Try.ntmps107
    go_wp2_with fail
    refine HR.out.mono ?_
    rw [HT.out]
    rintro e w1 ⟨rfl, hu⟩
    have HU := hide hu
    clear hu
    go_wp2
    go_ret
    exact ⟨retBr HH.out.symm, HU.out⟩
  have HT := hide (tru_yes hp)
  have n24 := hp.1
  have HP := hide hp
  clear hp
  cases gi : inB i 0 ((n : Int) - 1)
  · have HH := hide (tru_no (show ¬ repP V n i day from fun h => by rw [inB_yes h.2.1] at gi; cases gi))
    cases gd : inB day 0 100000
    all_goals
      go_enter Try.func107, Try.ntmps107
      go_wp2_with fail
      refine HR.out.mono ?_
      rw [HT.out]
      rintro e w1 ⟨rfl, hu⟩
      have HU := hide hu
      clear hu
      go_wp2_with (first | (go_at_call 112; refine (specRDay_any _ _).mono ?_; rintro e w' ⟨rfl, rfl⟩) | (go_at_call 90; refine (specIn_any _ _ _ _).mono ?_; rintro e w' ⟨rfl, rfl⟩))
      go_ret
      exact ⟨retBr HH.out.symm, HU.out⟩
  obtain ⟨i0, i1⟩ := inB_iff.1 gi
  obtain ⟨p, rfl⟩ : ∃ p : Nat, i = p := ⟨i.toNat, by omega⟩
  have hpn : p < n := by omega
  have hpi : (p : Int) < (n : Int) := by omega
  obtain ⟨b, off, I, ci, rfl, hb, c0, c1, c2, c3, c4, hI⟩ := HC.out p hpn
  have HRP := hide (HP.out.2 p hpn)
  have HQ := hide (show (V ((p : Int)).toNat) = V p by rw [Int.toNat_natCast])
  have f0 := HRP.out.2.2.2.1
  have t0 := HRP.out.2.2.2.2.1
  unfold rdayP at f0 t0
  clear c0 c1 c4 hI HC
  cases gd : inB day 0 100000
  · have HH := hide (tru_no (show ¬ repP V n p day from fun h => by
      have h2 := h.2.2
      rw [HQ.out] at h2
      rw [inB_yes ⟨by omega, by omega⟩] at gd; cases gd))
    go_enter Try.func107, Try.ntmps107
    go_wp2_with fail
    refine HR.out.mono ?_
    rw [HT.out]
    rintro e w1 ⟨rfl, u, rfl⟩
    go_wp2_with (first | (go_at_call 112; refine (specRDay_any _ _).mono ?_; rintro e w' ⟨rfl, rfl⟩) | (go_at_call 90; refine (specIn_any _ _ _ _).mono ?_; rintro e w' ⟨rfl, rfl⟩))
    go_ret
    exact ⟨retBr HH.out.symm, u, rfl⟩
  by_cases h1 : (V p).f < day
  · by_cases h2 : day ≤ (V p).t
    · have e1 : decide ((V p).f < day) = true := decide_eq_true h1
      have e2 : decide (day ≤ (V p).t) = true := decide_eq_true h2
      have HH := hide (tru_yes (show repP V n p day from ⟨HP.out, ⟨i0, i1⟩, by rw [HQ.out]; exact h1, by rw [HQ.out]; exact h2⟩))
      clear h1 h2
      go_enter Try.func107, Try.ntmps107
      go_wp2_with fail
      refine HR.out.mono ?_
      rw [HT.out]
      rintro e w1 ⟨rfl, u, rfl⟩
      go_wp2_with (first | (go_at_call 112; refine (specRDay_any _ _).mono ?_; rintro e w' ⟨rfl, rfl⟩) | (go_at_call 90; refine (specIn_any _ _ _ _).mono ?_; rintro e w' ⟨rfl, rfl⟩))
      go_ret
      exact ⟨retBr HH.out.symm, u, rfl⟩
    · have e1 : decide ((V p).f < day) = true := decide_eq_true h1
      have e2 : decide (day ≤ (V p).t) = false := decide_eq_false h2
      have HH := hide (tru_no (show ¬ repP V n p day from fun h => h2 (by have := h.2.2.2; rwa [HQ.out] at this)))
      clear h1 h2
      go_enter Try.func107, Try.ntmps107
      go_wp2_with fail
      refine HR.out.mono ?_
      rw [HT.out]
      rintro e w1 ⟨rfl, u, rfl⟩
      go_wp2_with (first | (go_at_call 112; refine (specRDay_any _ _).mono ?_; rintro e w' ⟨rfl, rfl⟩) | (go_at_call 90; refine (specIn_any _ _ _ _).mono ?_; rintro e w' ⟨rfl, rfl⟩))
      go_ret
      exact ⟨retBr HH.out.symm, u, rfl⟩
  · have e1 : decide ((V p).f < day) = false := decide_eq_false h1
    have HH := hide (tru_no (show ¬ repP V n p day from fun h => h1 (by have := h.2.2.1; rwa [HQ.out] at this)))
    clear h1
    go_enter Try.func107, Try.ntmps107
    go_wp2_with fail
    refine HR.out.mono ?_
    rw [HT.out]
    rintro e w1 ⟨rfl, u, rfl⟩
    go_wp2_with (first | (go_at_call 112; refine (specRDay_any _ _).mono ?_; rintro e w' ⟨rfl, rfl⟩) | (go_at_call 90; refine (specIn_any _ _ _ _).mono ?_; rintro e w' ⟨rfl, rfl⟩))
    go_ret
    exact ⟨retBr HH.out.symm, u, rfl⟩
set_option maxRecDepth 100000 in
set_option maxHeartbeats 4000000 in
theorem specRepeal_any (A : Option Addr) (n c : Nat) (V : Nat → RV) (i day : Int) (w : World) (hn : n ≤ 1048576) (hv : ∀ i, i < n → (V i).n ≤ 1048576) (hs : RS w A n V) (hd : -9223372036854775808 ≤ day ∧ day ≤ 9223372036854775807) :
    Calls Try.prog 35 #[.slice A n c, .int .i64 i, .int .i64 day] w fun e w' => GaveMR w w' e (repP V n i day) 61 n (repV V i day) := by
  have HE := hide (specEnds_any A n c V i day w hn hv hs hd)
  by_cases hp : repP V n i day
  rotate_left
  · have HT := hide (tru_no hp)
    have HH := hide hp
    clear hp hs hv
    go_enter Try.func35, Try.ntmps35
    go_wp2_with fail
    refine HE.out.mono ?_
    rw [HT.out]
    rintro e w1 ⟨rfl, u, rfl⟩
    go_wp2
    go_ret2
    exact mr_no HH.out (bel_drewN (Below.refl _ _) u)
  have HT := hide (tru_yes hp)
  have HH := hide hp
  have n24 := hp.1.1
  have HO := hide (fun u => specOwnRules_any A n c V (w.drewN u) (by omega) (fun i hi => Nat.le_trans (hp.1.2 i hi).2.1 (by omega)) (hs.drewN u))
  obtain ⟨i0, i1⟩ := hp.2.1
  obtain ⟨p, rfl⟩ : ∃ p : Nat, i = p := ⟨i.toNat, by omega⟩
  have hpn : p < n := by omega
  have hpi : (p : Int) < (n : Int) := by omega
  have hdd := hp.2.2
  have HPT := hp.1.2 p hpn
  have HQ := hide (show (V ((p : Int)).toNat) = V p by rw [Int.toNat_natCast])
  rw [HQ.out] at hdd
  have hf0 := HPT.2.2.2.1
  have ht0 := HPT.2.2.2.2.1
  unfold rdayP at hf0 ht0
  have hday : 0 ≤ day ∧ day ≤ 100000 := by omega
  clear hp hs hv hdd HPT hf0 ht0 HQ hd
  obtain ⟨hday0, hday1⟩ := hday
  go_enter Try.func35, Try.ntmps35
  go_wp2_with fail
  refine HE.out.mono ?_
  rw [HT.out]
  rintro e w1 ⟨rfl, u, rfl⟩
  go_wp2_with fail
  refine (HO.out u).mono ?_
  rintro e w2 ⟨G, d, xs, P, rfl, hm, hb⟩
  obtain ⟨g, rfl, hg0, hg1⟩ := hm.some (by omega)
  obtain ⟨k0, k1⟩ := hm.cell (show p * 5 + 3 < n * 5 by omega)
  have HM := hide (hm.put (v := day - 1) hpn (show (3 : Nat) = 0 ∨ (3 : Nat) = 2 ∨ (3 : Nat) = 3 ∨ (3 : Nat) = 4 by omega))
  have HB := hide (show Below w.heap.size w w2 from (bel_drewN (Below.refl _ _) u).trans ⟨hb.os, hb.tape, hb.output, hb.size, hb.block⟩)
  have hg0' : w.heap.size ≤ g := hg0
  clear hm hb hg0 HO HE
  go_wp2
  go_ret2
  exact mr_yes HH.out (by show MR _ _ _ _ _ _ _ (putR V ((p : Int)).toNat 3 (day - 1)) _; rw [Int.toNat_natCast]; exact HM.out) (HB.out.setCell (by simp; omega) _)
set_option maxRecDepth 100000 in
set_option maxHeartbeats 8000000 in
theorem implRepeal_any (A : Option Addr) (n c : Nat) (V : Nat → RV) (i day : Int) (w : World) (hn : n ≤ 1048576) (hv : ∀ i, i < n → (V i).n ≤ 1048576) (hs : RS w A n V) (hd : -9223372036854775808 ≤ day ∧ day ≤ 9223372036854775807) :
    Calls Try.prog 37 #[.slice A n c, .int .i64 i, .int .i64 day] w fun e w' => GaveMR w w' e (repP V n i day) 61 n (repV V i day) := by
  obtain ⟨j0, hj, jz0, jz1, jz2⟩ := info_parts Try.infoRule
  have HR := hide (implRules_any A n c V w (by unfold maxLen; omega) (fun i hi => Nat.le_trans (hv i hi) (by unfold maxLen; omega)) hs)
  have HC := hs.cells
  have hn63 : n ≤ 140737488355328 := by omega
  by_cases hp : rulesP V n
  rotate_left
  · have HT := hide (tru_no hp)
    have HH := hide (show ¬ repP V n i day from fun h => hp h.1)
    clear hp hs hv
    go_enter Try.func37, Try.ntmps37
    go_wp2_with fail
    refine HR.out.mono ?_
    rw [HT.out]
    rintro e w1 ⟨rfl, hb⟩
    have HB := hide hb
    clear hb
    go_wp2
    go_ret2
    exact mr_no HH.out HB.out
  have HT := hide (tru_yes hp)
  have n24 := hp.1
  have HP := hide hp
  have HV := hide (fun j (hj : j < n) => Nat.le_trans (hp.2 j hj).2.1 (show 6 ≤ 1048576 by omega))
  clear hp hs hv
  cases gi : inB i 0 ((n : Int) - 1)
  · have HH := hide (show ¬ repP V n i day from fun h => by rw [inB_yes h.2.1] at gi; cases gi)
    go_enter Try.func37, Try.ntmps37
    go_wp2_with fail
    refine HR.out.mono ?_
    rw [HT.out]
    rintro e w1 ⟨rfl, hb⟩
    have HB := hide hb
    clear hb
    go_wp2_with (go_at_call 109; refine (implPlace5_any _ _ _ hn63).mono ?_; rintro e w' ⟨rfl, rfl⟩)
    go_ret2
    exact mr_no HH.out HB.out
  obtain ⟨i0, i1⟩ := inB_iff.1 gi
  obtain ⟨p, rfl⟩ : ∃ p : Nat, i = p := ⟨i.toNat, by omega⟩
  have hpn : p < n := by omega
  have hpi : (p : Int) < (n : Int) := by omega
  have HQ := hide (show (V ((p : Int)).toNat) = V p by rw [Int.toNat_natCast])
  have HRP := hide (HP.out.2 p hpn)
  have f0 := HRP.out.2.2.2.1
  have t0 := HRP.out.2.2.2.2.1
  unfold rdayP at f0 t0
  obtain ⟨b, off, I, ci, hA, hb0, c0, c1, c2, c3, c4, hI⟩ := HC.out p hpn
  have HA := hide hA
  clear c0 c1 c4 hI hA
  -- the tests, in the world behind the first
  have key : ∀ w1, Below w.heap.size w w1 → w1.cell? ⟨b, off + p * 5 + 2, none⟩ = some (.int .i64 (V p).f) ∧ w1.cell? ⟨b, off + p * 5 + 3, none⟩ = some (.int .i64 (V p).t) := fun w1 h => ⟨(h.cell (p := ⟨b, off + p * 5 + 2, none⟩) hb0).trans c2, (h.cell (p := ⟨b, off + p * 5 + 3, none⟩) hb0).trans c3⟩
  have KEY := hide key
  clear c2 c3 key
  by_cases h1 : day ≤ (V p).f
  · have e1 : decide (day ≤ (V p).f) = true := decide_eq_true h1
    have HH := hide (show ¬ repP V n p day from fun h => by have := h.2.2.1; rw [HQ.out] at this; omega)
    obtain rfl := HA.out
    clear h1 HA
    go_enter Try.func37, Try.ntmps37
    go_wp2_with fail
    refine HR.out.mono ?_
    rw [HT.out]
    rintro e w1 ⟨rfl, hb⟩
    have HB := hide hb
    obtain ⟨d2, d3⟩ := KEY.out w1 hb
    clear hb
    go_wp2_with (go_at_call 109; refine (implPlace5_any _ _ _ hn63).mono ?_; rintro e w' ⟨rfl, rfl⟩)
    go_ret2
    exact mr_no HH.out HB.out
  have e1 : decide (day ≤ (V p).f) = false := decide_eq_false h1
  by_cases h2 : (V p).t < day
  · have e2 : decide ((V p).t < day) = true := decide_eq_true h2
    have HH := hide (show ¬ repP V n p day from fun h => by have := h.2.2.2; rw [HQ.out] at this; omega)
    obtain rfl := HA.out
    clear h1 h2 HA
    go_enter Try.func37, Try.ntmps37
    go_wp2_with fail
    refine HR.out.mono ?_
    rw [HT.out]
    rintro e w1 ⟨rfl, hb⟩
    have HB := hide hb
    obtain ⟨d2, d3⟩ := KEY.out w1 hb
    clear hb
    go_wp2_with (go_at_call 109; refine (implPlace5_any _ _ _ hn63).mono ?_; rintro e w' ⟨rfl, rfl⟩)
    go_ret2
    exact mr_no HH.out HB.out
  have e2 : decide ((V p).t < day) = false := decide_eq_false h2
  have HH := hide (show repP V n p day from ⟨HP.out, ⟨i0, i1⟩, by rw [HQ.out]; omega, by rw [HQ.out]; omega⟩)
  have hday0 : 0 ≤ day := by omega
  have hday1 : day ≤ 100000 := by omega
  obtain rfl := HA.out
  clear h1 h2 f0 t0 HA hd
  go_enter Try.func37, Try.ntmps37
  go_wp2_with fail
  refine HR.out.mono ?_
  rw [HT.out]
  rintro e w1 ⟨rfl, hb⟩
  have HB := hide hb
  obtain ⟨d2, d3⟩ := KEY.out w1 hb
  clear hb
  go_wp2_with (go_at_call 109; refine (implPlace5_any _ _ _ hn63).mono ?_; rintro e w' ⟨rfl, rfl⟩)
  clear e1 e2 d2 d3 gi
  have HM0 := hide (mr_nil w1 w.heap.size 61 V (fun _ => ⟨none, 0⟩))
  go_loopw [8, 41] (fun row ii wr => ∃ (k : Nat) (G : Option Addr) (d : Nat) (xs : List Value) (P : Nat → RP), k ≤ n ∧ ii = .int .i64 k ∧ row = .slice G k d ∧ Hid (MR wr w.heap.size 61 G d k xs V P) ∧ Hid (Below w.heap.size w wr)) (fun _ ii _ => n - (intOf ii).toNat)
  case atStart => exact ⟨0, _, _, _, _, Nat.zero_le _, rfl, rfl, HM0.out, HB.out⟩
  case round =>
    obtain ⟨k, G, d, xs, P, hk, rfl, rfl, hm, hbel⟩ := hrel
    by_cases hlt : k < n
    rotate_left
    · obtain rfl : k = n := by omega
      have hki : ¬ (k : Int) < (k : Int) := by omega
      obtain ⟨g, rfl, hg0, hg1⟩ := hm.out.some (by omega)
      obtain ⟨k0, k1⟩ := hm.out.cell (show p * 5 + 3 < k * 5 by omega)
      have HM := hide (hm.out.put (v := day - 1) hpn (show (3 : Nat) = 0 ∨ (3 : Nat) = 2 ∨ (3 : Nat) = 3 ∨ (3 : Nat) = 4 by omega))
      clear hg1
      go_wp2
      go_ret2
      exact mr_yes HH.out (by show MR _ _ _ _ _ _ _ (putR V ((p : Int)).toNat 3 (day - 1)) _; rw [Int.toNat_natCast]; exact HM.out) (hbel.out.setCell (by simp; omega) _)
    have hki : (k : Int) < (n : Int) := by omega
    have hnk := HV.out k hlt
    have zr := hbel.out.size
    obtain ⟨b', off', I, ci, hA', hb, c0, c1, c2, c3, c4, hI⟩ := HC.out k hlt
    injection hA' with hA'
    injection hA' with hA' hA''
    subst hA' hA''
    have d0 := (hbel.out.cell (p := ⟨b, off + k * 5, none⟩) hb).trans c0
    have d1 := (hbel.out.cell (p := ⟨b, off + k * 5 + 1, none⟩) hb).trans c1
    have d2 := (hbel.out.cell (p := ⟨b, off + k * 5 + 2, none⟩) hb).trans c2
    have d3 := (hbel.out.cell (p := ⟨b, off + k * 5 + 3, none⟩) hb).trans c3
    have d4 := (hbel.out.cell (p := ⟨b, off + k * 5 + 4, none⟩) hb).trans c4
    have HI := hide (hI.below hbel.out)
    clear c0 c1 c2 c3 c4 hI
    have hbW : Below wr.heap.size wr (wr.alloc (.cells #[.int .i64 (V k).h, .slice I (V k).n ci, .int .i64 (V k).f, .int .i64 (V k).t, .int .i64 (V k).k] 61)) := (Below.refl _ _).alloc (Nat.le_refl _) _
    have HCR := hide (cloneRule_any (V k).h I (V k).n ci (V k).x (V k).f (V k).t (V k).k (wr.alloc (.cells #[.int .i64 (V k).h, .slice I (V k).n ci, .int .i64 (V k).f, .int .i64 (V k).t, .int .i64 (V k).k] 61)) hnk (HI.out.below hbW))
    have HM := hm
    have HBW := hide hbW
    clear HI hm hbW
    go_wp2_with fail
    refine HCR.out.mono ?_
    rintro e w3 ⟨G2, d2, rfl, ho, hb3⟩
    have hb3' : Below wr.heap.size wr w3 := HBW.out.trans (hb3.mono (by simp))
    have HO3 := hide (ho.wide (lo' := wr.heap.size) (by simp) (Nat.le_refl _))
    have HM3 := hide (HM.out.below hb3')
    have HBR := hide hb3'
    have z3 := hb3'.size
    have HBEL := hide (hbel.out.trans (hb3'.mono zr))
    have HCN := hide (show ∀ j u, ((V k).row G2 d2)[j]? = some u → (w3.alloc (.cells #[.int .i64 (V k).h, .slice G2 (V k).n d2, .int .i64 (V k).f, .int .i64 (V k).t, .int .i64 (V k).k] 61)).cell? ((⟨w3.heap.size, 0, none⟩ : Addr).add j) = some u from cell_5n w3 _ _ _ _ _ _)
    clear ho hb3 hb3' HCR d0 d1 d3 d4
    go_wp2_with (at_builtin; go_loud (refine wpList_append_own_at _ rfl _ _ 38 rfl w.heap.size 61 j0 _ 5 56 Try.underlying38 hj jz0 jz1 jz2 rfl (by decide) _ _ _ rfl (by exact (HM3.out.1.alloc _)) ⟨_, 0, none⟩ 1 1 ((V k).row G2 d2) rfl rfl HCN.out (by intro u hu; unfold RV.row at hu; simp at hu; rcases hu with rfl | rfl | rfl | rfl | rfl <;> rfl) (by unfold maxLen; omega) (by omega) (by simp; omega) ?_))
    intro v' w5 hown5 hgrow5 _ hat5
    obtain ⟨g5, d5, rfl⟩ := Joins.ownsRow_form hown5 (by omega)
    have HM5 := hide (HM.out.push HBR.out zr HO3.out hown5 hgrow5 (by
      rcases hat5 with e | e
      · exact .inl e
      · exact .inr (by rw [World.size_alloc]; exact e)))
    have HB5 := hide (((HBEL.out.alloc HBEL.out.size _).grown hgrow5 (by simp; omega) (fun q e => (HM3.out.own_lt e).1)))
    clear hown5 hgrow5 hat5 HM HM3 HBR HBEL HO3 HCN hbel
    go_wp2
    go_roundw
    case rel => exact ⟨k + 1, _, d5, _, _, by omega, by go_num, rfl, HM5.out, HB5.out⟩
    case measure => simp [intOf]; omega
end Go.Proofs.Ytjndhcdanpnniaa
