/- DrawnReturns, by both. -/
import Derived.Test.YtelcknddbikgaabS7
namespace Go.Proofs.Ytelcknddbikgaab
open Go.RowKit Go.Dues
def sdV (s : Int) : Nat → Int
  | 0 => s
  | k + 1 => (1664525 * sdV s k + 1013904223) % 4294967296
def dwV (t : Int) : Nat := fop .sub .f32 (fop .quo .f32 (floatOfInt .f32 (t / 256)) 1266679808) 1056964608
def smV (s : Int) (b : Nat) : Nat → Nat
  | 0 => 0
  | k + 1 => fop .add .f32 (smV s b k) (dwV (sdV s (b + k + 1)))
def drV (a b : Nat) (s : Int) (j : Nat) : Nat := fop .add .f32 a (fop .mul .f32 b (smV s (4 * j) 4))
def drP (a b : Nat) (s c : Int) : Prop := ffin .f32 a = true ∧ ffin .f32 b = true ∧ (0 ≤ s ∧ s ≤ 4294967295) ∧ (1 ≤ c ∧ c ≤ 64) ∧ ∀ j, j < c.toNat → ffin .f32 (drV a b s j) = true
theorem dr_len {a b : Nat} {s c : Int} : lenV (drP a b s c) c.toNat ≤ 1048576 := by
  by_cases h : drP a b s c
  · rw [lenV_yes h]
    have := h.2.2.2.1
    omega
  · rw [lenV_no h]
    omega
theorem sm_step {s : Int} {b k r t u v : Nat} {S : Int} (hS : S = sdV s (b + k + 1)) (hr : FS .f32 r (smV s b k)) (h1 : FR .f32 t (fop .quo .f32 (floatOfInt .f32 (S / 256)) 1266679808)) (h2 : FR .f32 u (fop .sub .f32 t 1056964608)) (h3 : FR .f32 v (fop .add .f32 r u)) : FS .f32 v (smV s b (k + 1)) := by
  refine h3.same.trans (.inl ?_)
  show _ = fop .add .f32 (smV s b k) (dwV (sdV s (b + k + 1)))
  rw [← hS]
  exact fop_same hr (h2.same.trans (.inl (fop_same h1.same (FS.refl _ _))))
theorem sm_step2 {s : Int} {b k r u v : Nat} {S : Int} (hS : S = sdV s (b + k + 1)) (hr : FS .f32 r (smV s b k)) (h2 : FS .f32 u (dwV S)) (h3 : FR .f32 v (fop .add .f32 r u)) : FS .f32 v (smV s b (k + 1)) := by
  refine h3.same.trans (.inl ?_)
  show _ = fop .add .f32 (smV s b k) (dwV (sdV s (b + k + 1)))
  rw [← hS]
  exact fop_same hr h2
theorem dr_step {a b : Nat} {s : Int} {k r t u : Nat} (hr : FS .f32 r (smV s (4 * k) 4)) (h1 : FR .f32 t (fop .mul .f32 b r)) (h2 : FR .f32 u (fop .add .f32 a t)) : FS .f32 u (drV a b s k) :=
  h2.same.trans (.inl (fop_same (FS.refl _ _) (h1.same.trans (.inl (fop_same (FS.refl _ _) hr)))))
theorem drew_add7 (w : World) (a b : Nat) : (w.drewN a).drewN b = w.drewN (a + b) := by unfold World.drewN; simp [Nat.add_assoc]
theorem dr7 {w wr : World} (h : ∃ q, wr = w.drewN q) (b : Nat) : ∃ q, wr.drewN b = w.drewN q := by
  obtain ⟨q, rfl⟩ := h
  exact ⟨_, drew_add7 _ _ _⟩
theorem fin_all7 {u V : Nat → Nat} {n : Nat} (h : ∀ j, j < n → FS .f32 (u j) (V j)) : (∀ j, j < n → ffin .f32 (u j) = true) ↔ ∀ j, j < n → ffin .f32 (V j) = true :=
  ⟨fun g j hj => by rw [← ffin_same (h j hj)]; exact g j hj, fun g j hj => by rw [ffin_same (h j hj)]; exact g j hj⟩
/-- a list that the call made, and an integer -/
def GaveFi (w w' : World) (e : Ending) (p : Prop) (n : Nat) (V : Nat → Nat) (i : Int) : Prop :=
  ∃ G d, ∃ z : Nat → Nat, e = .returned (.tuple #[.slice G (lenV p n) d, .int .i64 (ifV p i), .bool (tru p)]) ∧ OW w' w.heap.size w'.heap.size G (lenV p n) (fun j => .float .f32 (z j)) ∧ (∀ j, j < lenV p n → FS .f32 (z j) (V j)) ∧ Below w.heap.size w w'
theorem gavefi_no {w w' : World} {p : Prop} {n : Nat} {V : Nat → Nat} {i : Int} (h : ¬ p) (hb : Below w.heap.size w w') : GaveFi w w' (.returned (.tuple #[.slice none 0 0, .int .i64 0, .bool false])) p n V i :=
  ⟨none, 0, fun _ => 0, by rw [lenV_no h, ifV_no h, tru_no h], .inl (lenV_no h), fun j hj => absurd hj (by rw [lenV_no h]; omega), hb⟩
theorem gavefi_yes {w w' : World} {p : Prop} {n d : Nat} {V z : Nat → Nat} {i k : Int} {G : Option Addr} (h : p) (hk : k = i) (ho : OW w' w.heap.size w'.heap.size G n (fun j => .float .f32 (z j))) (hz : ∀ j, j < n → FS .f32 (z j) (V j)) (hb : Below w.heap.size w w') : GaveFi w w' (.returned (.tuple #[.slice G n d, .int .i64 k, .bool true])) p n V i :=
  ⟨G, d, z, by rw [lenV_yes h, ifV_yes h, tru_yes h, hk], by rw [lenV_yes h]; exact ho, by rw [lenV_yes h]; exact hz, hb⟩
theorem drawOf_any (s : Int) (w : World) (hs : 0 ≤ s ∧ s ≤ 4294967295) :
    Calls Try.prog 82 #[.int .i64 s] w fun e w' => ∃ r, e = .returned (.float .f32 r) ∧ FS .f32 r (dwV s) ∧ ∃ q, w' = w.drewN q := by
  have hcv := fun (w : World) (m : Int) => run_convert_int_float (P := Try.prog) w 2 39 .i64 .f32 m (by rw [Try.underlying2]; rfl) Try.underlying39
  obtain ⟨h0, h1⟩ := hs
  obtain ⟨D, hD⟩ : ∃ D, s / 256 = D := ⟨_, rfl⟩
  have hd0 : 0 ≤ D := by omega
  have hd1 : D ≤ 16777216 := by omega
  have HD := hide hD
  go_enter Try.func82, Try.ntmps82
  go_wp2_with (refine wpList_far _ rfl _ _ _ _ _ rfl (by decide) _ _ _ rfl rfl ?_; intro _ _ _)
  go_ret
  have f1 := ‹FR .f32 _ (fop .quo .f32 (floatOfInt .f32 D) 1266679808)›
  have f2 := ‹FR .f32 _ (fop .sub .f32 _ 1056964608)›
  exact ⟨_, rfl, by unfold dwV; rw [HD.out]; exact f2.same.trans (.inl (fop_same f1.same (FS.refl _ _))), _, rfl⟩
theorem allFin7_yes (A : Option Addr) (n c : Nat) (x : Nat → Nat) (w : World) (hn : n ≤ maxLen) (hs : SL w A n (fun j => .float .f32 (x j))) (h : ∀ j, j < n → ffin .f32 (x j) = true) :
    Calls Try.prog 83 #[.slice A n c] w fun e w' => e = .returned (.tuple #[.slice A n c, .bool true]) ∧ Below w.heap.size w w' := by
  have HA := hide (areReals_Fin A n c x 0 n w hn hs)
  rw [tru_yes (show allB (ffin .f32) x n 0 n from ⟨by omega, h⟩)] at HA
  unfold maxLen at hn
  clear hs h
  go_enter Try.func83, Try.ntmps83
  go_wp2_with fail
  refine HA.out.mono ?_
  rintro e w1 ⟨rfl, hb⟩
  have HB := hide hb
  clear hb
  go_wp2
  go_ret2
  exact ⟨rfl, HB.out⟩
theorem allFin7_no (A : Option Addr) (n c : Nat) (x : Nat → Nat) (w : World) (hn : n ≤ maxLen) (hs : SL w A n (fun j => .float .f32 (x j))) (h : ¬ ∀ j, j < n → ffin .f32 (x j) = true) :
    Calls Try.prog 83 #[.slice A n c] w fun e w' => e = .returned (.tuple #[.slice none 0 0, .bool false]) ∧ Below w.heap.size w w' := by
  have HA := hide (areReals_Fin A n c x 0 n w hn hs)
  rw [tru_no (show ¬ allB (ffin .f32) x n 0 n from fun q => h q.2)] at HA
  unfold maxLen at hn
  clear hs h
  go_enter Try.func83, Try.ntmps83
  go_wp2_with fail
  refine HA.out.mono ?_
  rintro e w1 ⟨rfl, hb⟩
  have HB := hide hb
  clear hb
  go_wp2
  go_ret2
  exact ⟨rfl, HB.out⟩
set_option maxRecDepth 100000 in
set_option maxHeartbeats 8000000 in
theorem specDrawn7_any (a b : Nat) (s c : Int) (w : World) :
    Calls Try.prog 32 #[.float .f32 a, .float .f32 b, .int .i64 s, .int .i64 c] w fun e w' => GaveFi w w' e (drP a b s c) c.toNat (drV a b s) (sdV s (4 * c.toNat)) := by
  obtain ⟨i0, hi, hz0, hz1, hz2⟩ := info_parts Try.infoF
  have hcv := fun (w : World) (m : Int) => run_convert_int_float (P := Try.prog) w 2 39 .i64 .f32 m (by rw [Try.underlying2]; rfl) Try.underlying39
  cases g0 : ffin .f32 a
  · have HH := hide (show ¬ drP a b s c from fun h => by rw [h.1] at g0; cases g0)
    go_enter Try.func32, Try.ntmps32
    go_wp2_with fail
    refine (spec7Fin_any _ _).mono ?_
    rw [g0]
    rintro e w1 ⟨rfl, q1, hq⟩
    have HB1 : Hid (Below w.heap.size w w1) := by rw [hq]; exact bel_q (Below.refl _ _) _
    clear hq
    go_wp2
    go_ret3
    exact gavefi_no HH.out HB1.out
  cases g1 : ffin .f32 b
  · have HH := hide (show ¬ drP a b s c from fun h => by rw [h.2.1] at g1; cases g1)
    go_enter Try.func32, Try.ntmps32
    go_wp2_with fail
    refine (spec7Fin_any _ _).mono ?_
    rw [g0]
    rintro e w1 ⟨rfl, q1, hq⟩
    have HB1 : Hid (Below w.heap.size w w1) := by rw [hq]; exact bel_q (Below.refl _ _) _
    clear hq
    go_wp2_with fail
    refine (spec7Fin_any _ _).mono ?_
    rw [g1]
    rintro e w2 ⟨rfl, q2, hq⟩
    have HB2 : Hid (Below w.heap.size w w2) := by rw [hq]; exact bel_q HB1.out _
    clear hq
    go_wp2
    go_ret3
    exact gavefi_no HH.out HB2.out
  cases g2 : inB s 0 4294967295
  · have HH := hide (show ¬ drP a b s c from fun h => by rw [inB_yes h.2.2.1] at g2; cases g2)
    go_enter Try.func32, Try.ntmps32
    go_wp2_with fail
    refine (spec7Fin_any _ _).mono ?_
    rw [g0]
    rintro e w1 ⟨rfl, q1, hq⟩
    have HB1 : Hid (Below w.heap.size w w1) := by rw [hq]; exact bel_q (Below.refl _ _) _
    clear hq
    go_wp2_with fail
    refine (spec7Fin_any _ _).mono ?_
    rw [g1]
    rintro e w2 ⟨rfl, q2, hq⟩
    have HB2 : Hid (Below w.heap.size w w2) := by rw [hq]; exact bel_q HB1.out _
    clear hq
    go_wp2_with (go_at_call 72; refine (specIn_any _ _ _ _ ).mono ?_; rintro e w' ⟨rfl, rfl⟩)
    go_ret3
    exact gavefi_no HH.out HB2.out
  cases g3 : inB c 1 64
  · have HH := hide (show ¬ drP a b s c from fun h => by rw [inB_yes h.2.2.2.1] at g3; cases g3)
    go_enter Try.func32, Try.ntmps32
    go_wp2_with fail
    refine (spec7Fin_any _ _).mono ?_
    rw [g0]
    rintro e w1 ⟨rfl, q1, hq⟩
    have HB1 : Hid (Below w.heap.size w w1) := by rw [hq]; exact bel_q (Below.refl _ _) _
    clear hq
    go_wp2_with fail
    refine (spec7Fin_any _ _).mono ?_
    rw [g1]
    rintro e w2 ⟨rfl, q2, hq⟩
    have HB2 : Hid (Below w.heap.size w w2) := by rw [hq]; exact bel_q HB1.out _
    clear hq
    go_wp2_with (go_at_call 72; refine (specIn_any _ _ _ _ ).mono ?_; rintro e w' ⟨rfl, rfl⟩)
    go_ret3
    exact gavefi_no HH.out HB2.out
  obtain ⟨sb0, sb1⟩ := inB_iff.1 g2
  have HC := hide (inB_iff.1 g3)
  have HP := hide (fun (h : ∀ j, j < c.toNat → ffin .f32 (drV a b s j) = true) => show drP a b s c from ⟨g0, g1, ⟨sb0, sb1⟩, HC.out, h⟩)
  obtain ⟨n, rfl⟩ : ∃ n : Nat, c = n := ⟨c.toNat, by have := HC.out; omega⟩
  have hn1 : 1 ≤ n := by have := HC.out; omega
  have hn64 : n ≤ 64 := by have := HC.out; omega
  rw [show ((n : Nat) : Int).toNat = n from Int.toNat_natCast n] at HP ⊢
  go_enter Try.func32, Try.ntmps32
  go_wp2_with fail
  refine (spec7Fin_any _ _).mono ?_
  rw [g0]
  rintro e w1 ⟨rfl, q1, hq⟩
  have HB1 : Hid (Below w.heap.size w w1) := by rw [hq]; exact bel_q (Below.refl _ _) _
  clear hq
  go_wp2_with fail
  refine (spec7Fin_any _ _).mono ?_
  rw [g1]
  rintro e w2 ⟨rfl, q2, hq⟩
  have HB2 : Hid (Below w.heap.size w w2) := by rw [hq]; exact bel_q HB1.out _
  clear hq
  go_wp2_with (go_at_call 72; refine (specIn_any _ _ _ _ ).mono ?_; rintro e w' ⟨rfl, rfl⟩)
  clear g0 g1 g2 g3
  have hst : (w2.alloc (.cells #[] 39)).ownsRow w2.heap.size 39 1 (.slice (some ⟨w2.heap.size, 0, none⟩) 0 0) 0 [] :=
    ⟨by simp, .inr ⟨w2.heap.size, 0, #[], rfl, Nat.le_refl _, new_at w2 _, Nat.le_refl 0, by unfold maxLen; omega, rfl, rfl⟩⟩
  have HBS := hide ((Below.refl w2.heap.size w2).alloc (Nat.le_refl _) (.cells #[] 39))
  have HO0 := hide hst
  clear hst
  go_loopw [2, 3, 11, 12, 13] (fun sd cn v _ _ wr => ∃ (k D : Nat) (S0 : Int) (xs : List Value), Hid (D + k = n) ∧ cn = .int .i64 (D : Int) ∧ sd = .int .i64 S0 ∧ 0 ≤ S0 ∧ S0 ≤ 4294967295 ∧ Hid (S0 = sdV s (4 * k)) ∧ wr.ownsRow w2.heap.size 39 1 v k xs ∧ Hid (FRow xs k (drV a b s)) ∧ Below w2.heap.size w2 wr) (fun _ cn _ _ _ _ => (intOf cn).toNat)
  case atStart => exact ⟨0, n, s, [], rfl, rfl, rfl, sb0, sb1, rfl, HO0.out, fun j hj => absurd hj (by omega), HBS.out⟩
  case round =>
    clear HO0 HBS
    obtain ⟨k, D, S0, xs, hDk, rfl, rfl, hs0, hs1, hS0, hown, hxs, hbel⟩ := hrel
    have hsz := hbel.size
    have HLL := hide (show xs.length = k by have := hown.1; omega)
    have hkn : k ≤ 64 := by have := hDk.out; omega
    by_cases hlt : 0 < D
    · have HOW := hide hown
      have HBE := hide hbel
      have hDi : (0 : Int) < (D : Int) := by omega
      have hD64 : (D : Int) ≤ 64 := by have := hDk.out; omega
      clear hown hbel
      go_wp2
      go_loopw [2, 12, 13] (fun sd sm kk wq => ∃ (q : Nat) (S : Int) (r : Nat), q ≤ 4 ∧ kk = .int .i64 q ∧ sd = .int .i64 S ∧ 0 ≤ S ∧ S ≤ 4294967295 ∧ sm = .float .f32 r ∧ Hid (S = sdV s (4 * k + q)) ∧ Hid (FS .f32 r (smV s (4 * k) q)) ∧ Hid (∃ u, wq = wr.drewN u)) (fun _ _ kk _ => 4 - (intOf kk).toNat)
      case atStart => exact ⟨0, S0, 0, by omega, rfl, rfl, hs0, hs1, rfl, hS0, .inl rfl, ⟨0, rfl⟩⟩
      case round =>
        obtain ⟨q, S, r, hq, rfl, rfl, hs0', hs1', rfl, hSd, hr, hw⟩ := hrel
        by_cases hlt2 : q < 4
        · skip
          obtain ⟨S', hS'⟩ : ∃ S', (1664525 * S + 1013904223) % 4294967296 = S' := ⟨_, rfl⟩
          have m0 : 0 ≤ 1664525 * S := by omega
          have m1 : 1664525 * S ≤ 7149080961867375 := by omega
          have s0' : 0 ≤ S' := by omega
          have s1' : S' ≤ 4294967295 := by omega
          have HSN := hide (show S' = sdV s (4 * k + q + 1) by rw [← hS', hSd.out]; rfl)
          have hqi : (q : Int) < 4 := by omega
          obtain ⟨D, hD⟩ : ∃ D, S' / 256 = D := ⟨_, rfl⟩
          have hd0 : 0 ≤ D := by omega
          have hd1 : D ≤ 16777216 := by omega
          have HD := hide hD
          go_wp2_with (refine wpList_far _ rfl _ _ _ _ _ rfl (by decide) _ _ _ rfl rfl ?_; intro _ _ _)
          have f1 := ‹FR .f32 _ (fop .quo .f32 (floatOfInt .f32 D) 1266679808)›
          have f2 := ‹FR .f32 _ (fop .sub .f32 _ 1056964608)›
          have f3 := ‹FR .f32 _ (fop .add .f32 r _)›
          have HV := hide (sm_step HSN.out hr.out (by rw [HD.out]; exact f1) f2 f3)
          clear hS'
          go_roundw
          case rel => exact ⟨q + 1, S', _, by omega, by go_num, rfl, s0', s1', rfl, HSN, HV, hide (by first | exact dr7 hw.out _ | exact dr7 (dr7 hw.out _) _ | exact dr7 (dr7 (dr7 hw.out _) _) _ | exact dr7 (dr7 (dr7 (dr7 hw.out _) _) _) _)⟩
          case measure => simp [intOf]; omega
        · obtain rfl : q = 4 := by omega
          obtain ⟨u, rfl⟩ := hw.out
          go_wp2_with (first | (refine wpList_far _ rfl _ _ _ _ _ rfl (by decide) _ _ _ rfl rfl ?_; intro _ _ _) | (at_builtin; refine wpList_append_own _ rfl _ _ 22 rfl (w2.heap.size) 39 i0 (.float .f32 0) 1 4 Try.underlying22 hi hz0 hz1 hz2 rfl (by decide) _ _ _ rfl (by exact (HOW.out.alloc _)) ⟨_, 0, none⟩ 1 1 [.float .f32 _] rfl rfl (cell_one_new _ _ _) (by intro u hu; simp at hu; subst hu; rfl) (by unfold maxLen; omega) (by omega) (by simp; omega) ?_))
          intro v' w5 hown' hgrow _
          have g1 := ‹FR .f32 _ (fop .mul .f32 b r)›
          have g2 := ‹FR .f32 _ (fop .add .f32 a _)›
          have HV := hide (dr_step hr.out g1 g2)
          have HB1 := hide (Below.grown (Below.alloc (bel_q HBE.out _) (by first | omega | (simp; omega)) _) hgrow (by simp; omega) (fun j hj => (HOW.out.lt j hj).1))
          have HON := hide hown'
          have HSD := hide (show S = sdV s (4 * (k + 1)) by rw [hSd.out]; rfl)
          clear hgrow hown'
          go_wp2
          go_roundw
          case rel => exact ⟨k + 1, D - 1, S, _, hide (by have := hDk.out; omega), (by first | go_num | (congr 1; omega)), rfl, hs0', hs1', HSD, HON.out, frow_step HLL.out hxs.out HV.out, HB1.out⟩
          case measure => simp [intOf]; omega
    · have hkn2 : k = n := by have := hDk.out; omega
      subst hkn2
      have hDi : ¬ (0 : Int) < (D : Int) := by omega
      obtain ⟨Gx, dx, rfl⟩ := own_shape hown
      obtain ⟨u, hz1, hz2⟩ := frow_fun hxs.out
      have HO := hide ((OW.of_owns hown hz1).wide (lo' := w.heap.size) HB2.out.size (Nat.le_refl _))
      have HU := hide hz2
      have HBEL := hide (HB2.out.trans (hbel.mono HB2.out.size))
      clear hown hbel hz1 hz2
      by_cases hf : ∀ j, j < k → ffin .f32 (u j) = true
      rotate_left
      · have HTF := hide (tru_no hf)
        have HH := hide (show ¬ drP a b s k from fun h => hf ((fin_all7 HU.out).2 (by have := h.2.2.2.2; rwa [Int.toNat_natCast] at this)))
        clear hf
        go_wp2_with fail
        refine (specFinL_any Gx k dx u _ (by unfold maxLen; omega) HO.out.sl).mono ?_
        rw [HTF.out]
        rintro e w3 ⟨rfl, q3, rfl⟩
        go_wp2
        go_ret3
        exact gavefi_no HH.out (bel_q HBEL.out _)
      have HTF := hide (tru_yes hf)
      have HH := hide (HP.out ((fin_all7 HU.out).1 hf))
      clear hf
      go_wp2_with fail
      refine (specFinL_any Gx k dx u _ (by unfold maxLen; omega) HO.out.sl).mono ?_
      rw [HTF.out]
      rintro e w3 ⟨rfl, q3, rfl⟩
      go_wp2
      go_ret3
      exact gavefi_yes HH.out hS0.out (HO.out.drewN _) HU.out (bel_q HBEL.out _)
set_option maxRecDepth 100000 in
set_option maxHeartbeats 8000000 in
theorem implDrawn7_any (a b : Nat) (s c : Int) (w : World) :
    Calls Try.prog 33 #[.float .f32 a, .float .f32 b, .int .i64 s, .int .i64 c] w fun e w' => GaveFi w w' e (drP a b s c) c.toNat (drV a b s) (sdV s (4 * c.toNat)) := by
  obtain ⟨i0, hi, hz0, hz1, hz2⟩ := info_parts Try.infoF
  have hcv := fun (w : World) (m : Int) => run_convert_int_float (P := Try.prog) w 2 39 .i64 .f32 m (by rw [Try.underlying2]; rfl) Try.underlying39
  cases g0 : ffin .f32 a
  · have HH := hide (show ¬ drP a b s c from fun h => by rw [h.1] at g0; cases g0)
    go_enter Try.func33, Try.ntmps33
    go_wp2_with fail
    refine (implIsFinite_any _ _).mono ?_
    rw [g0]
    rintro e w1 ⟨rfl, q1, hq⟩
    have HB1 : Hid (Below w.heap.size w w1) := by rw [hq]; exact bel_q (Below.refl _ _) _
    clear hq
    go_wp2
    go_ret3
    exact gavefi_no HH.out HB1.out
  cases g1 : ffin .f32 b
  · have HH := hide (show ¬ drP a b s c from fun h => by rw [h.2.1] at g1; cases g1)
    go_enter Try.func33, Try.ntmps33
    go_wp2_with fail
    refine (implIsFinite_any _ _).mono ?_
    rw [g0]
    rintro e w1 ⟨rfl, q1, hq⟩
    have HB1 : Hid (Below w.heap.size w w1) := by rw [hq]; exact bel_q (Below.refl _ _) _
    clear hq
    go_wp2_with fail
    refine (implIsFinite_any _ _).mono ?_
    rw [g1]
    rintro e w2 ⟨rfl, q2, hq⟩
    have HB2 : Hid (Below w.heap.size w w2) := by rw [hq]; exact bel_q HB1.out _
    clear hq
    go_wp2
    go_ret3
    exact gavefi_no HH.out HB2.out
  cases g2 : inB s 0 4294967295
  · have HH := hide (show ¬ drP a b s c from fun h => by rw [inB_yes h.2.2.1] at g2; cases g2)
    go_enter Try.func33, Try.ntmps33
    go_wp2_with fail
    refine (implIsFinite_any _ _).mono ?_
    rw [g0]
    rintro e w1 ⟨rfl, q1, hq⟩
    have HB1 : Hid (Below w.heap.size w w1) := by rw [hq]; exact bel_q (Below.refl _ _) _
    clear hq
    go_wp2_with fail
    refine (implIsFinite_any _ _).mono ?_
    rw [g1]
    rintro e w2 ⟨rfl, q2, hq⟩
    have HB2 : Hid (Below w.heap.size w w2) := by rw [hq]; exact bel_q HB1.out _
    clear hq
    go_wp2_with (go_at_call 73; refine (implWithin_any _ _ _ _ ).mono ?_; rintro e w' ⟨rfl, rfl⟩)
    go_ret3
    exact gavefi_no HH.out HB2.out
  cases g3 : inB c 1 64
  · have HH := hide (show ¬ drP a b s c from fun h => by rw [inB_yes h.2.2.2.1] at g3; cases g3)
    go_enter Try.func33, Try.ntmps33
    go_wp2_with fail
    refine (implIsFinite_any _ _).mono ?_
    rw [g0]
    rintro e w1 ⟨rfl, q1, hq⟩
    have HB1 : Hid (Below w.heap.size w w1) := by rw [hq]; exact bel_q (Below.refl _ _) _
    clear hq
    go_wp2_with fail
    refine (implIsFinite_any _ _).mono ?_
    rw [g1]
    rintro e w2 ⟨rfl, q2, hq⟩
    have HB2 : Hid (Below w.heap.size w w2) := by rw [hq]; exact bel_q HB1.out _
    clear hq
    go_wp2_with (go_at_call 73; refine (implWithin_any _ _ _ _ ).mono ?_; rintro e w' ⟨rfl, rfl⟩)
    go_ret3
    exact gavefi_no HH.out HB2.out
  obtain ⟨sb0, sb1⟩ := inB_iff.1 g2
  have HC := hide (inB_iff.1 g3)
  have HP := hide (fun (h : ∀ j, j < c.toNat → ffin .f32 (drV a b s j) = true) => show drP a b s c from ⟨g0, g1, ⟨sb0, sb1⟩, HC.out, h⟩)
  obtain ⟨n, rfl⟩ : ∃ n : Nat, c = n := ⟨c.toNat, by have := HC.out; omega⟩
  have hn1 : 1 ≤ n := by have := HC.out; omega
  have hn64 : n ≤ 64 := by have := HC.out; omega
  rw [show ((n : Nat) : Int).toNat = n from Int.toNat_natCast n] at HP ⊢
  go_enter Try.func33, Try.ntmps33
  go_wp2_with fail
  refine (implIsFinite_any _ _).mono ?_
  rw [g0]
  rintro e w1 ⟨rfl, q1, hq⟩
  have HB1 : Hid (Below w.heap.size w w1) := by rw [hq]; exact bel_q (Below.refl _ _) _
  clear hq
  go_wp2_with fail
  refine (implIsFinite_any _ _).mono ?_
  rw [g1]
  rintro e w2 ⟨rfl, q2, hq⟩
  have HB2 : Hid (Below w.heap.size w w2) := by rw [hq]; exact bel_q HB1.out _
  clear hq
  go_wp2_with (first | (at_make; refine wpList_make_own _ rfl _ _ 22 rfl w2.heap.size 39 i0 (.float .f32 0) 1 Try.underlying22 hi hz0 hz1 _ _ _ n rfl rfl rfl (by rw [hz2]; omega) (by unfold maxLen; omega) (Nat.le_refl _) ?_; intro w6 hown0 hgrow0) | (go_at_call 73; refine (implWithin_any _ _ _ _ ).mono ?_; rintro e w' ⟨rfl, rfl⟩))
  clear g0 g1 g2 g3
  have HBS := hide ((Below.refl w2.heap.size w2).grown hgrow0 (Nat.le_refl _) (fun k h => by cases h))
  have HO0 := hide hown0
  clear hown0 hgrow0
  go_loopw [2, 11, 12, 36] (fun sd v _ i wr => ∃ (k : Nat) (S0 : Int) (xs : List Value), k ≤ n ∧ i = .int .i64 k ∧ sd = .int .i64 S0 ∧ 0 ≤ S0 ∧ S0 ≤ 4294967295 ∧ Hid (S0 = sdV s (4 * k)) ∧ wr.ownsRow w2.heap.size 39 1 v k xs ∧ Hid (FRow xs k (drV a b s)) ∧ Below w2.heap.size w2 wr) (fun _ _ _ i _ => n - (intOf i).toNat)
  case atStart => exact ⟨0, s, [], Nat.zero_le _, rfl, rfl, sb0, sb1, rfl, HO0.out, fun j hj => absurd hj (by omega), HBS.out⟩
  case round =>
    clear HO0 HBS
    obtain ⟨k, S0, xs, hk, rfl, rfl, hs0, hs1, hS0, hown, hxs, hbel⟩ := hrel
    have hsz := hbel.size
    have HLL := hide (show xs.length = k by have := hown.1; omega)
    by_cases hlt : k < n
    · have HOW := hide hown
      have HBE := hide hbel
      have hki : (k : Int) < (n : Int) := by omega
      clear hown hbel
      go_wp2
      go_loopw [2, 12, 38] (fun sd sm kk wq => ∃ (q : Nat) (S : Int) (r : Nat), q ≤ 4 ∧ kk = .int .i64 q ∧ sd = .int .i64 S ∧ 0 ≤ S ∧ S ≤ 4294967295 ∧ sm = .float .f32 r ∧ Hid (S = sdV s (4 * k + q)) ∧ Hid (FS .f32 r (smV s (4 * k) q)) ∧ Hid (∃ u, wq = wr.drewN u)) (fun _ _ kk _ => 4 - (intOf kk).toNat)
      case atStart => exact ⟨0, S0, 0, by omega, rfl, rfl, hs0, hs1, rfl, hS0, .inl rfl, ⟨0, rfl⟩⟩
      case round =>
        obtain ⟨q, S, r, hq, rfl, rfl, hs0', hs1', rfl, hSd, hr, hw⟩ := hrel
        by_cases hlt2 : q < 4
        · skip
          obtain ⟨S', hS'⟩ : ∃ S', (1664525 * S + 1013904223) % 4294967296 = S' := ⟨_, rfl⟩
          have m0 : 0 ≤ 1664525 * S := by omega
          have m1 : 1664525 * S ≤ 7149080961867375 := by omega
          have s0' : 0 ≤ S' := by omega
          have s1' : S' ≤ 4294967295 := by omega
          have HSN := hide (show S' = sdV s (4 * k + q + 1) by rw [← hS', hSd.out]; rfl)
          have hqi : (q : Int) < 4 := by omega
          go_wp2_with fail
          refine (drawOf_any S' _ ⟨s0', s1'⟩).mono ?_
          rintro e w' ⟨g, rfl, hg, q3, rfl⟩
          have HG := hide hg
          clear hg
          go_wp2_with (refine wpList_far _ rfl _ _ _ _ _ rfl (by decide) _ _ _ rfl rfl ?_; intro _ _ _)
          have f3 := ‹FR .f32 _ (fop .add .f32 r _)›
          have HV := hide (sm_step2 HSN.out hr.out HG.out f3)
          clear hS'
          go_roundw
          case rel => exact ⟨q + 1, S', _, by omega, by go_num, rfl, s0', s1', rfl, HSN, HV, hide (by first | exact dr7 hw.out _ | exact dr7 (dr7 hw.out _) _ | exact dr7 (dr7 (dr7 hw.out _) _) _ | exact dr7 (dr7 (dr7 (dr7 hw.out _) _) _) _)⟩
          case measure => simp [intOf]; omega
        · obtain rfl : q = 4 := by omega
          obtain ⟨u, rfl⟩ := hw.out
          go_wp2_with (first | (refine wpList_far _ rfl _ _ _ _ _ rfl (by decide) _ _ _ rfl rfl ?_; intro _ _ _) | (at_builtin; refine wpList_append_own _ rfl _ _ 22 rfl (w2.heap.size) 39 i0 (.float .f32 0) 1 4 Try.underlying22 hi hz0 hz1 hz2 rfl (by decide) _ _ _ rfl (by exact (HOW.out.alloc _)) ⟨_, 0, none⟩ 1 1 [.float .f32 _] rfl rfl (cell_one_new _ _ _) (by intro u hu; simp at hu; subst hu; rfl) (by unfold maxLen; omega) (by omega) (by simp; omega) ?_))
          intro v' w5 hown' hgrow _
          have g1 := ‹FR .f32 _ (fop .mul .f32 b r)›
          have g2 := ‹FR .f32 _ (fop .add .f32 a _)›
          have HV := hide (dr_step hr.out g1 g2)
          have HB1 := hide (Below.grown (Below.alloc (bel_q HBE.out _) (by first | omega | (simp; omega)) _) hgrow (by simp; omega) (fun j hj => (HOW.out.lt j hj).1))
          have HON := hide hown'
          have HSD := hide (show S = sdV s (4 * (k + 1)) by rw [hSd.out]; rfl)
          clear hgrow hown'
          go_wp2
          go_roundw
          case rel => exact ⟨k + 1, S, _, by omega, by go_num, rfl, hs0', hs1', HSD, HON.out, frow_step HLL.out hxs.out HV.out, HB1.out⟩
          case measure => simp [intOf]; omega
    · have hkn2 : k = n := by omega
      subst hkn2
      have hki : ¬ (k : Int) < (k : Int) := by omega
      obtain ⟨Gx, dx, rfl⟩ := own_shape hown
      obtain ⟨u, hz1, hz2⟩ := frow_fun hxs.out
      have HO := hide (OW.of_owns hown hz1)
      have HU := hide hz2
      have hz4 := HB2.out.size
      have HBEL := hide (HB2.out.trans (hbel.mono HB2.out.size))
      clear hown hbel hz1 hz2
      by_cases hf : ∀ j, j < k → ffin .f32 (u j) = true
      rotate_left
      · have HH := hide (show ¬ drP a b s k from fun h => hf ((fin_all7 HU.out).2 (by have := h.2.2.2.2; rwa [Int.toNat_natCast] at this)))
        go_wp2_with fail
        refine (allFin7_no Gx k dx u _ (by unfold maxLen; omega) HO.out.sl hf).mono ?_
        rintro e w5 ⟨rfl, hb⟩
        have HBF := hide (HBEL.out.trans (hb.mono HBEL.out.size))
        clear hb hf
        go_wp2
        go_ret3
        exact gavefi_no HH.out HBF.out
      have HH := hide (HP.out ((fin_all7 HU.out).1 hf))
      go_wp2_with fail
      refine (allFin7_yes Gx k dx u _ (by unfold maxLen; omega) HO.out.sl hf).mono ?_
      rintro e w5 ⟨rfl, hb⟩
      have HBF := hide (HBEL.out.trans (hb.mono HBEL.out.size))
      have HOF := hide ((HO.out.below hb).wide (lo' := w.heap.size) (hi' := w5.heap.size) hz4 hb.size)
      clear hb hf
      go_wp2
      go_ret3
      exact gavefi_yes HH.out hS0.out HOF.out HU.out HBF.out
end Go.Proofs.Ytelcknddbikgaab
