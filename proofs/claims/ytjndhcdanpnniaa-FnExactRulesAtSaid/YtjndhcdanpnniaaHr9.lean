/- Rules held, and given back by a call. -/
import Derived.Test.YtjndhcdanpnniaaRe9
import Derived.Test.YtjndhcdanpnniaaRm
namespace Go.Proofs.Ytjndhcdanpnniaa
open Go.RowKit Go.Dues
set_option maxRecDepth 100000 in
set_option maxHeartbeats 8000000 in
theorem heldRuleS_any (A : Option Addr) (n c : Nat) (V : Nat → RV) (k : Int) (w : World) (hn : n ≤ 1048576) (hr : rsum V n ≤ 1048576) (hv : ∀ j, j < n → (V j).n ≤ 1048576) (hk0 : 0 ≤ k) (hk1 : k ≤ 100000000) (hs : RS w A n (mkV k V)) :
    Calls Try.prog 40 #[.slice A n c, .int .i64 k] w fun e w' => e = .returned (.int .i64 (k + (4 * (n : Int) + rsum V n))) ∧ Below w.heap.size w w' := by
  have HC := hs.cells
  have HV := hide hv
  clear hs hv
  go_enter Try.func40, Try.ntmps40
  go_wp2
  go_loopw [1, 5] (fun m i wr => ∃ (j : Nat) (K : Int), j ≤ n ∧ i = .int .i64 j ∧ m = .int .i64 K ∧ 0 ≤ K ∧ K ≤ 200000000 ∧ Hid (K = mkK k V j) ∧ Hid (Below w.heap.size w wr)) (fun _ i _ => n - (intOf i).toNat)
  case atStart => exact ⟨0, k, Nat.zero_le _, rfl, rfl, hk0, by omega, hide (by unfold mkK; show k = k + (4 * ((0 : Nat) : Int) + ((0 : Nat) : Int)); simp), Below.refl _ _⟩
  case round =>
    obtain ⟨j, K, hj, rfl, rfl, K0, K1, hK, hbel⟩ := hrel
    by_cases hlt : j < n
    · have hki : (j : Int) < (n : Int) := by omega
      have hnj := HV.out j hlt
      have hrj := rsum_le V (show j + 1 ≤ n by omega)
      have hks := mkK_succ k V j
      have hkb : mkK k V (j + 1) ≤ 200000000 := by unfold mkK; push_cast; omega
      rw [hks, ← hK.out] at hkb
      have zr := hbel.out.size
      obtain ⟨b, off, I, ci, rfl, hb, c0, c1, c2, c3, c4, hI⟩ := HC.out j hlt
      have e0 : (mkV k V j).h = K := by rw [hK.out]; rfl
      have e2 : (mkV k V j).f = K + 1 + (V j).n := by rw [hK.out]; rfl
      have e3 : (mkV k V j).t = K + 1 + (V j).n + 1 := by rw [hK.out]; rfl
      have e4 : (mkV k V j).k = K + 1 + (V j).n + 1 + 1 := by rw [hK.out]; rfl
      have e5 : (mkV k V j).n = (V j).n := rfl
      have e6 : ∀ q, (mkV k V j).x q = K + 1 + q := fun q => by rw [hK.out]; rfl
      rw [e0] at c0; rw [e5] at c1 hI; rw [e2] at c2; rw [e3] at c3; rw [e4] at c4
      obtain ⟨N, hN⟩ : ∃ q, (V j).n = q := ⟨_, rfl⟩
      rw [hN] at c1 c2 c3 c4 hI hkb hnj
      have d0 := (hbel.out.cell (p := ⟨b, off + j * 5, none⟩) hb).trans c0
      have d1 := (hbel.out.cell (p := ⟨b, off + j * 5 + 1, none⟩) hb).trans c1
      have HCC := hide (show ∀ u, Below w.heap.size w u → u.cell? ⟨b, off + j * 5 + 2, none⟩ = some (.int .i64 (K + 1 + N)) ∧ u.cell? ⟨b, off + j * 5 + 3, none⟩ = some (.int .i64 (K + 1 + N + 1)) ∧ u.cell? ⟨b, off + j * 5 + 4, none⟩ = some (.int .i64 (K + 1 + N + 1 + 1)) from fun u hu =>
        ⟨(hu.cell (p := ⟨b, off + j * 5 + 2, none⟩) hb).trans c2, (hu.cell (p := ⟨b, off + j * 5 + 3, none⟩) hb).trans c3, (hu.cell (p := ⟨b, off + j * 5 + 4, none⟩) hb).trans c4⟩)
      have HI := hide (show SL wr I N (fun q => .int .i64 (K + 1 + q)) from by have := hI.below hbel.out; simp only [e6] at this; exact this)
      have HKS := hide (show K + 1 + N + 1 + 1 + 1 = mkK k V (j + 1) by rw [hks, ← hK.out, hN])
      have g0 : (K != K) = false := by simp
      have g2 : (K + 1 + (N : Int) != K + 1 + (N : Int)) = false := by simp
      have g3 : (K + 1 + (N : Int) + 1 != K + 1 + (N : Int) + 1) = false := by simp
      have g4 : (K + 1 + (N : Int) + 1 + 1 != K + 1 + (N : Int) + 1 + 1) = false := by simp
      have p1 : ¬ K + 1 + (N : Int) < 0 := by omega
      clear e0 e2 e3 e4 e5 e6 c0 c1 c2 c3 c4 hI hN hks
      go_wp2_with fail
      refine (heldIs_any I N ci (K + 1) _ hnj (by omega) (by omega) (by exact HI.out)).mono ?_
      rintro e w2 ⟨rfl, q, hq⟩
      have HB2 := hide (show Below w.heap.size w w2 by rw [hq]; exact bel_drewN hbel.out q)
      obtain ⟨d2, d3, d4⟩ := HCC.out w2 HB2.out
      clear hq d0 d1 hbel HI HCC
      go_wp2
      go_roundw
      case rel => exact ⟨j + 1, _, by omega, by go_num, rfl, by omega, by omega, HKS.out, HB2.out⟩
      case measure => simp [intOf]; omega
    · obtain rfl : j = n := by omega
      have HE := hide (show K = k + (4 * (j : Int) + rsum V j) from hK.out)
      go_wp2
      go_ret
      exact ⟨retK HE.out, hbel.out⟩
/-- rules that a call gives back if p holds, none if not: one form for both -/
def GaveRO (w w' : World) (e : Ending) (p : Prop) (n : Nat) (V : Nat → RV) : Prop :=
  ∃ G d, e = .returned (.tuple #[.slice G (lenV p n) d, .bool (tru p)]) ∧ RO w' w.heap.size w'.heap.size G (lenV p n) V ∧ Below w.heap.size w w'
theorem GaveMR.ro {w w' : World} {e : Ending} {p : Prop} {t : TypeId} {n : Nat} {V : Nat → RV} (h : GaveMR w w' e p t n V) : GaveRO w w' e p n V := by
  rcases h with ⟨hp, G, d, xs, P, he, hm, hb⟩ | ⟨hp, he, hb⟩
  · exact ⟨G, d, by rw [lenV_yes hp, tru_yes hp]; exact he, by rw [lenV_yes hp]; exact hm.ro, hb⟩
  · exact ⟨none, 0, by rw [lenV_no hp, tru_no hp]; exact he, by rw [lenV_no hp]; exact .inl rfl, hb⟩
theorem rsum_small {V : Nat → RV} {n : Nat} {M : Nat} (h : ∀ i, i < n → (V i).n ≤ M) : rsum V n ≤ M * n := by
  induction n with
  | zero => exact Nat.zero_le _
  | succ n ih => 
    show rsum V n + (V n).n ≤ _
    have := ih (fun i hi => h i (by omega))
    have := h n (by omega)
    rw [Nat.mul_succ]; omega
theorem lenV_rs {p : Prop} {n : Nat} {V : Nat → RV} (h : p → n ≤ 1000 ∧ ∀ i, i < n → (V i).n ≤ 1000) : lenV p n ≤ 1048576 ∧ rsum V (lenV p n) ≤ 1048576 ∧ ∀ i, i < lenV p n → (V i).n ≤ 1048576 := by
  by_cases hp : p
  · obtain ⟨h1, h2⟩ := h hp
    rw [lenV_yes hp]
    refine ⟨by omega, ?_, fun i hi => Nat.le_trans (h2 i hi) (by omega)⟩
    have := rsum_small h2
    omega
  · rw [lenV_no hp]
    exact ⟨by omega, by show 0 ≤ _; omega, fun i hi => absurd hi (by omega)⟩
theorem rep_ok {V : Nat → RV} {n : Nat} {i day : Int} (h : repP V n i day) : n ≤ 1000 ∧ ∀ j, j < n → (repV V i day j).n ≤ 1000 :=
  ⟨by have := h.1.1; omega, fun j hj => by unfold repV; rw [putR_n]; have := (h.1.2 j hj).2.1; omega⟩
theorem specRepealO_any (A : Option Addr) (n c : Nat) (V : Nat → RV) (i day : Int) (w : World) (hn : n ≤ 1048576) (hv : ∀ i, i < n → (V i).n ≤ 1048576) (hs : RS w A n V) (hd : -9223372036854775808 ≤ day ∧ day ≤ 9223372036854775807) :
    Calls Try.prog 35 #[.slice A n c, .int .i64 i, .int .i64 day] w fun e w' => GaveRO w w' e (repP V n i day) n (repV V i day) := (specRepeal_any A n c V i day w hn hv hs hd).mono fun _ _ h => h.ro
theorem implRepealO_any (A : Option Addr) (n c : Nat) (V : Nat → RV) (i day : Int) (w : World) (hn : n ≤ 1048576) (hv : ∀ i, i < n → (V i).n ≤ 1048576) (hs : RS w A n V) (hd : -9223372036854775808 ≤ day ∧ day ≤ 9223372036854775807) :
    Calls Try.prog 37 #[.slice A n c, .int .i64 i, .int .i64 day] w fun e w' => GaveRO w w' e (repP V n i day) n (repV V i day) := (implRepeal_any A n c V i day w hn hv hs hd).mono fun _ _ h => h.ro
end Go.Proofs.Ytjndhcdanpnniaa
