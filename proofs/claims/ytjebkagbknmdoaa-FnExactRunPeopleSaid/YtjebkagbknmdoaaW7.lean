/- Funds: ins, outs and returns, by both; WorthNow. -/
import Derived.Test.YtjebkagbknmdoaaS7
namespace Go.Proofs.Ytjebkagbknmdoaa
open Go.RowKit Go.Dues
/-- what ins, outs and returns are -/
def fdP (v : Nat) (x : Nat → Nat) (n : Nat) (y : Nat → Nat) (m : Nat) (z : Nat → Nat) (l : Nat) : Prop := ffin .f32 v = true ∧ (1 ≤ n ∧ n ≤ 64) ∧ m = n ∧ l = n ∧ (∀ j, j < n → ffin .f32 (x j) = true) ∧ (∀ j, j < n → ffin .f32 (y j) = true) ∧ ∀ j, j < n → rtB (z j) = true
theorem rt_fin {x : Nat} (h : rtB x = true) : ffin .f32 x = true ∧ (FloatKind.f32.format.order x 3212836864 == some .gt) = true := by
  unfold rtB at h
  rw [Bool.and_eq_true] at h
  exact h
set_option maxRecDepth 100000 in
set_option maxHeartbeats 8000000 in
theorem specFund7_any (v : Nat) (A : Option Addr) (n c : Nat) (x : Nat → Nat) (B : Option Addr) (m d : Nat) (y : Nat → Nat) (C : Option Addr) (l f : Nat) (z : Nat → Nat) (w : World) (hn : n ≤ maxLen) (hs : SL w A n (fun j => .float .f32 (x j))) (hm : m ≤ maxLen) (hs' : SL w B m (fun j => .float .f32 (y j))) (hl : l ≤ maxLen) (hs'' : SL w C l (fun j => .float .f32 (z j))) :
    Calls Try.prog 95 #[.float .f32 v, .slice A n c, .slice B m d, .slice C l f] w fun e w' => e = .returned (.bool (tru (fdP v x n y m z l))) ∧ ∃ q, w' = w.drewN q := by
  have HF1 := fun w hs => hide (specFinL_any A n c x w hn hs)
  have HF2 := fun w hs => hide (specFinL_any B m d y w hm hs)
  have HF3 := fun w hs => hide (specFinL_any C l f z w hl hs)
  have HS := hide hs
  have HS' := hide hs'
  have HS'' := hide hs''
  unfold maxLen at hn hm hl
  clear hs hs' hs''
  cases g0 : ffin .f32 v
  · have HT := hide (tru_no (show ¬ fdP v x n y m z l from fun h => by rw [h.1] at g0; cases g0))
    go_enter Try.func95, Try.ntmps95
    go_wp2_with fail
    refine (spec7Fin_any _ _).mono ?_
    rw [g0]
    rintro e w' ⟨rfl, q0, rfl⟩
    go_wp2
    go_ret
    exact ⟨retBa HT.out.symm, _, rfl⟩
  by_cases h1 : (n : Int) < 1
  · have HT := hide (tru_no (show ¬ fdP v x n y m z l from fun h => by have := h.2.1.1; omega))
    go_enter Try.func95, Try.ntmps95
    go_wp2_with fail
    refine (spec7Fin_any _ _).mono ?_
    rw [g0]
    rintro e w' ⟨rfl, q0, rfl⟩
    go_wp2
    go_ret
    exact ⟨retBa HT.out.symm, _, rfl⟩
  by_cases h2 : 64 < (n : Int)
  · have HT := hide (tru_no (show ¬ fdP v x n y m z l from fun h => by have := h.2.1.2; omega))
    go_enter Try.func95, Try.ntmps95
    go_wp2_with fail
    refine (spec7Fin_any _ _).mono ?_
    rw [g0]
    rintro e w' ⟨rfl, q0, rfl⟩
    go_wp2
    go_ret
    exact ⟨retBa HT.out.symm, _, rfl⟩
  by_cases h3 : (m : Int) = (n : Int)
  rotate_left
  · have HT := hide (tru_no (show ¬ fdP v x n y m z l from fun h => h3 (by have := h.2.2.1; omega)))
    go_enter Try.func95, Try.ntmps95
    go_wp2_with fail
    refine (spec7Fin_any _ _).mono ?_
    rw [g0]
    rintro e w' ⟨rfl, q0, rfl⟩
    go_wp2
    go_ret
    exact ⟨retBa HT.out.symm, _, rfl⟩
  obtain rfl : m = n := by omega
  by_cases h4 : (l : Int) = (m : Int)
  rotate_left
  · have HT := hide (tru_no (show ¬ fdP v x m y m z l from fun h => h4 (by have := h.2.2.2.1; omega)))
    go_enter Try.func95, Try.ntmps95
    go_wp2_with fail
    refine (spec7Fin_any _ _).mono ?_
    rw [g0]
    rintro e w' ⟨rfl, q0, rfl⟩
    go_wp2
    go_ret
    exact ⟨retBa HT.out.symm, _, rfl⟩
  obtain rfl : l = m := by omega
  by_cases a1 : ∀ j, j < l → ffin .f32 (x j) = true
  rotate_left
  · have HT := hide (tru_no (show ¬ fdP v x l y l z l from fun h => a1 h.2.2.2.2.1))
    rw [tru_no a1] at HF1
    clear a1
    go_enter Try.func95, Try.ntmps95
    go_wp2_with fail
    refine (spec7Fin_any _ _).mono ?_
    rw [g0]
    rintro e w' ⟨rfl, q0, rfl⟩
    go_wp2_with fail
    refine (HF1 _ (show SL (w.drewN _) _ _ _ from HS.out)).out.mono ?_
    rintro e w' ⟨rfl, q1, rfl⟩
    go_wp2
    go_ret
    exact ⟨retBa HT.out.symm, _, rfl⟩
  by_cases a2 : ∀ j, j < l → ffin .f32 (y j) = true
  rotate_left
  · have HT := hide (tru_no (show ¬ fdP v x l y l z l from fun h => a2 h.2.2.2.2.2.1))
    rw [tru_yes a1] at HF1
    rw [tru_no a2] at HF2
    clear a1 a2
    go_enter Try.func95, Try.ntmps95
    go_wp2_with fail
    refine (spec7Fin_any _ _).mono ?_
    rw [g0]
    rintro e w' ⟨rfl, q0, rfl⟩
    go_wp2_with fail
    refine (HF1 _ (show SL (w.drewN _) _ _ _ from HS.out)).out.mono ?_
    rintro e w' ⟨rfl, q1, rfl⟩
    go_wp2_with fail
    refine (HF2 _ (show SL (w.drewN _) _ _ _ from HS'.out)).out.mono ?_
    rintro e w' ⟨rfl, q2, rfl⟩
    go_wp2
    go_ret
    exact ⟨retBa HT.out.symm, _, rfl⟩
  by_cases a3 : ∀ j, j < l → ffin .f32 (z j) = true
  rotate_left
  · have HT := hide (tru_no (show ¬ fdP v x l y l z l from fun h => a3 (fun j hj => (rt_fin (h.2.2.2.2.2.2 j hj)).1)))
    rw [tru_yes a1] at HF1
    rw [tru_yes a2] at HF2
    rw [tru_no a3] at HF3
    clear a1 a2 a3
    go_enter Try.func95, Try.ntmps95
    go_wp2_with fail
    refine (spec7Fin_any _ _).mono ?_
    rw [g0]
    rintro e w' ⟨rfl, q0, rfl⟩
    go_wp2_with fail
    refine (HF1 _ (show SL (w.drewN _) _ _ _ from HS.out)).out.mono ?_
    rintro e w' ⟨rfl, q1, rfl⟩
    go_wp2_with fail
    refine (HF2 _ (show SL (w.drewN _) _ _ _ from HS'.out)).out.mono ?_
    rintro e w' ⟨rfl, q2, rfl⟩
    go_wp2_with fail
    refine (HF3 _ (show SL (w.drewN _) _ _ _ from HS''.out)).out.mono ?_
    rintro e w' ⟨rfl, q3, rfl⟩
    go_wp2
    go_ret
    exact ⟨retBa HT.out.symm, _, rfl⟩
  have HA := hide (show (∀ j, j < l → ffin .f32 (x j) = true) ∧ (∀ j, j < l → ffin .f32 (y j) = true) ∧ ∀ j, j < l → ffin .f32 (z j) = true from ⟨a1, a2, a3⟩)
  have HV := hide g0
  rw [tru_yes a1] at HF1
  rw [tru_yes a2] at HF2
  rw [tru_yes a3] at HF3
  clear a1 a2 a3
  have HC := cells_f HS''.out
  go_enter Try.func95, Try.ntmps95
  go_wp2_with fail
  refine (spec7Fin_any _ _).mono ?_
  rw [g0]
  rintro e w' ⟨rfl, q0, rfl⟩
  go_wp2_with fail
  refine (HF1 _ (show SL (w.drewN _) _ _ _ from HS.out)).out.mono ?_
  rintro e w' ⟨rfl, q1, rfl⟩
  go_wp2_with fail
  refine (HF2 _ (show SL (w.drewN _) _ _ _ from HS'.out)).out.mono ?_
  rintro e w' ⟨rfl, q2, rfl⟩
  go_wp2_with fail
  refine (HF3 _ (show SL (w.drewN _) _ _ _ from HS''.out)).out.mono ?_
  rintro e w' ⟨rfl, q3, rfl⟩
  go_wp2
  go_loopw [10, 53] (fun _ i wr => ∃ k q : Nat, k ≤ l ∧ i = .int .i64 k ∧ Hid (∀ j, j < k → rtB (z j) = true) ∧ wr = w.drewN q) (fun _ i _ => l - (intOf i).toNat)
  case atStart => exact ⟨0, _, Nat.zero_le _, rfl, fun j hj => absurd hj (by omega), rfl⟩
  case round =>
    obtain ⟨k, q, hk, rfl, hg, rfl⟩ := hrel
    by_cases hlt : k < l
    · obtain ⟨b1, off, rfl, hb1, hxk⟩ := HC.out k hlt
      have hki : (k : Int) < (l : Int) := by omega
      cases hp : (FloatKind.f32.format.order (z k) 3212836864 == some .gt)
      · have HT := hide (tru_no (show ¬ fdP v x l y l z l from fun h => by have := (rt_fin (h.2.2.2.2.2.2 k hlt)).2; rw [hp] at this; cases this))
        go_wp2
        go_ret
        exact ⟨retBa HT.out.symm, _, rfl⟩
      · have HE := hide (show rtB (z k) = true by unfold rtB; rw [HA.out.2.2 k hlt]; exact hp)
        go_wp2
        go_roundw
        case rel => exact ⟨k + 1, _, by omega, by go_num, (by
          intro j hj
          by_cases hjk : j = k
          · subst hjk; exact HE.out
          · exact hg.out j (by omega)), rfl⟩
        case measure => simp [intOf]; omega
    · have HT := hide (tru_yes (show fdP v x l y l z l from ⟨HV.out, by omega, rfl, rfl, HA.out.1, HA.out.2.1, fun j hj => hg.out j (by omega)⟩))
      have hki : ¬ (k : Int) < (l : Int) := by omega
      go_wp2
      go_ret
      exact ⟨retBa HT.out.symm, _, rfl⟩
def wnD (z : Nat → Nat) : Nat → Nat
  | 0 => 1065353216
  | k + 1 => fop .mul .f32 (wnD z k) (fop .add .f32 1065353216 (z k))
def wnV (x z : Nat → Nat) (n : Nat) : Nat := fsum (fun j => fop .quo .f32 (x j) (wnD z j)) n
theorem wnD_step {z : Nat → Nat} {k r a r' : Nat} (h : FS .f32 r (wnD z k)) (h1 : FR .f32 a (fop .add .f32 1065353216 (z k))) (h2 : FR .f32 r' (fop .mul .f32 r a)) : FS .f32 r' (wnD z (k + 1)) := by
  refine h2.same.trans (.inl ?_)
  show _ = fop .mul .f32 (wnD z k) (fop .add .f32 1065353216 (z k))
  exact fop_same h h1.same
theorem wnV_step {x z : Nat → Nat} {k s r a s' : Nat} (hs : FS .f32 s (wnV x z k)) (h : FS .f32 r (wnD z k)) (h1 : FR .f32 a (fop .quo .f32 (x k) r)) (h2 : FR .f32 s' (fop .add .f32 s a)) : FS .f32 s' (wnV x z (k + 1)) := by
  refine h2.same.trans (.inl ?_)
  show _ = fop .add .f32 (wnV x z k) (fop .quo .f32 (x k) (wnD z k))
  exact fop_same hs (h1.same.trans (.inl (fop_same (FS.refl _ _) h)))
def wnP (x : Nat → Nat) (n : Nat) (z : Nat → Nat) (l : Nat) : Prop := fdP 0 x n x n z l ∧ ffin .f32 (wnV x z n) = true
theorem fin0 : ffin .f32 0 = true := by decide +kernel
theorem implAreRet_any (A : Option Addr) (n c : Nat) (x : Nat → Nat) (w : World) (hn : n ≤ maxLen) (hs : SL w A n (fun j => .float .f32 (x j))) :
    Calls Try.prog 187 #[.slice A n c] w fun e w' => e = .returned (.bool (tru (allB rtB x n 1 64))) ∧ Below w.heap.size w w' := by
  have HA := fun w hs => hide (areReals_Ret A n c x 1 64 w hn hs)
  have HS := hide hs
  unfold maxLen at hn
  clear hs
  go_enter Try.func187, Try.ntmps187
  go_wp2_with fail
  refine (HA _ HS.out).out.mono ?_
  rintro e w1 ⟨rfl, hb⟩
  have HB := hide hb
  clear hb
  go_wp2
  go_ret
  exact ⟨rfl, HB.out⟩
theorem implFlows_any (B : Option Addr) (m d : Nat) (hm : m ≤ maxLen) (A : Option Addr) (n c : Nat) (x : Nat → Nat) (w : World) (hn : n ≤ maxLen) (hs : SL w A n (fun j => .float .f32 (x j))) :
    Calls Try.prog 188 #[.slice B m d, .slice A n c] w fun e w' => e = .returned (.bool (tru (allB (ffin .f32) x n m m))) ∧ Below w.heap.size w w' := by
  have HA := fun w hs => hide (areReals_Fin A n c x m m w hn hs)
  have HS := hide hs
  unfold maxLen at hn
  clear hs
  go_enter Try.func188, Try.ntmps188
  go_wp2_with fail
  refine (HA _ HS.out).out.mono ?_
  rintro e w1 ⟨rfl, hb⟩
  have HB := hide hb
  clear hb
  go_wp2
  go_ret
  exact ⟨rfl, HB.out⟩
end Go.Proofs.Ytjebkagbknmdoaa
