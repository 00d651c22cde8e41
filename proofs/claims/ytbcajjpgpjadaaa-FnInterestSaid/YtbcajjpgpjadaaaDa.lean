/- The date of a day, by both. -/
import Derived.Test.YtbcajjpgpjadaaaDt
import Derived.Deep.RegionWith
import Derived.StillTailTactics
namespace Go.Proofs.Ytbcajjpgpjadaaa
open Go.RowKit Go.Dues
theorem ret_3 {a b c a' b' c' : Int} (h : a = a') (h2 : b = b') (h3 : c = c') : Ending.returned (.tuple #[.int .i64 a, .int .i64 b, .int .i64 c]) = .returned (.tuple #[.int .i64 a', .int .i64 b', .int .i64 c']) := by rw [h, h2, h3]
theorem idx_y {day v : Int} {k : Nat} (hk : k ≤ 99) (hv : v = day - yDays k) (h0 : 0 ≤ v) (h1 : v < yLen (2000 + k)) : yIdx day 99 = k := by
  have := yDays_succ k
  exact yIdx_eq hk (by omega) (by omega)
theorem idx_m {day v : Int} {k : Nat} (hk : k ≤ 11) (hv : v = dR day - mDays (dY day) k) (h0 : 0 ≤ v) (h1 : v < mLen (dY day) (1 + k)) : mIdx (dY day) (dR day) 11 = k := by
  have := mDays_succ (dY day) k
  exact mIdx_eq hk (by omega) (by omega)
theorem y_more {day v : Int} {k : Nat} (hd : dayP day) (hk : k ≤ 99) (hv : v = day - yDays k) (h1 : yLen (2000 + k) ≤ v) : k + 1 ≤ 99 := by
  have h2 := yDays_succ k
  have h3 := yDays_100
  rcases Nat.lt_or_ge k 99 with h | h
  · omega
  · obtain rfl : k = 99 := by omega
    have := hd.2
    rw [h3] at h2; omega
theorem m_more {day v : Int} {k : Nat} (hd : dayP day) (hk : k ≤ 11) (hv : v = dR day - mDays (dY day) k) (h1 : mLen (dY day) (1 + k) ≤ v) : k + 1 ≤ 11 := by
  have h2 := mDays_succ (dY day) k
  have h3 := mDays_12 (dY day)
  have h4 := dR_bd hd
  rcases Nat.lt_or_ge k 11 with h | h
  · omega
  · obtain rfl : k = 11 := by omega
    rw [h3] at h2; omega
set_option maxHeartbeats 2000000 in
theorem specDate_any (day : Int) (w : World) (hd : dayP day) :
    Calls Try.prog 115 #[.int .i64 day] w fun e w' => e = .returned (.tuple #[.int .i64 (dY day), .int .i64 (dM day), .int .i64 (dD day)]) ∧ w = w' := by
  have HD := hide hd
  have d0 := hd.1
  have d1 := hd.2
  clear hd
  go_enter Try.func115, Try.ntmps115
  go_wp2
  go_loop [0, 5, 6] (fun dd yy _ => ∃ (k : Nat) (v : Int), k ≤ 99 ∧ yy = .int .i64 (2000 + k) ∧ dd = .int .i64 v ∧ 0 ≤ v ∧ v ≤ 36524 ∧ Hid (v = day - yDays k)) (fun dd _ _ => (intOf dd).toNat)
  case atStart => exact ⟨0, day, by omega, rfl, rfl, by omega, by omega, by show day = day - yDays 0; simp [yDays]⟩
  case round =>
    obtain ⟨k, v, hk, rfl, rfl, v0, v1, hv⟩ := hrel
    obtain ⟨l0, l1⟩ := yLen_bd (2000 + k)
    have HS := hide (yDays_succ k)
    by_cases hl : (2000 + (k : Int)) % 4 = 0
    · have HL := hide (yLen_yes hl)
      have g := leapB_yes hl
      clear hl
      by_cases hlt : v < 366
      · have HY := hide (idx_y hk hv.out v0 (by rw [HL.out]; exact hlt))
        have e1 : dY day = 2000 + (k : Int) := by unfold dY; rw [HY.out]
        have HR := hide (show v = dR day by unfold dR; rw [HY.out]; exact hv.out)
        have E1 := hide e1
        obtain ⟨y0, y1⟩ := dY_bd HD.out
        clear e1
        go_wp2_with (go_at_call 190; refine (specLeap_any _ _ (by omega)).mono ?_; rintro e w' ⟨rfl, rfl⟩)
        rw [← E1.out]
        clear g
        go_loop [0, 7] (fun dd mm => ∃ (j : Nat) (u : Int), j ≤ 11 ∧ mm = .int .i64 (1 + j) ∧ dd = .int .i64 u ∧ 0 ≤ u ∧ u ≤ 366 ∧ Hid (u = dR day - mDays (dY day) j)) (fun dd _ => (intOf dd).toNat)
        case atStart => exact ⟨0, v, by omega, rfl, rfl, v0, by omega, by show v = dR day - mDays (dY day) 0; rw [HR.out]; simp [mDays]⟩
        case round =>
          obtain ⟨j, u, hj, rfl, rfl, u0, u1, hu⟩ := hrel
          obtain ⟨l2, l3⟩ := mLen_bd (dY day) (1 + j)
          by_cases hge : mLen (dY day) (1 + j) ≤ u
          · have HJ := m_more HD.out hj hu.out hge
            have HS := hide (mDays_succ (dY day) j)
            go_wp2_with (go_at_call 191; refine (specLong_any _ _ _ (by omega)).mono ?_; rintro e w' ⟨rfl, rfl⟩)
            go_round
            case rel => exact ⟨j + 1, _, HJ, vi (by push_cast; omega), rfl, by omega, by omega, by have h1 := HS.out; have h3 := hu.out; show _ = _; omega⟩
            case measure => simp [intOf]; omega
          · have HJ := hide (idx_m hj hu.out u0 (by omega))
            have HM := hide (show 1 + (j : Int) = dM day by unfold dM; rw [HJ.out])
            have HU := hide (show u + 1 = dD day by unfold dD; rw [HJ.out]; have := hu.out; omega)
            go_wp2_with (go_at_call 191; refine (specLong_any _ _ _ (by omega)).mono ?_; rintro e w' ⟨rfl, rfl⟩)
            go_ret3
            exact ⟨ret_3 rfl HM.out HU.out, rfl⟩
      · have HJ := y_more HD.out hk hv.out (by rw [HL.out]; omega)
        go_wp2_with (go_at_call 190; refine (specLeap_any _ _ (by omega)).mono ?_; rintro e w' ⟨rfl, rfl⟩)
        clear g
        go_round
        case rel => exact ⟨k + 1, _, HJ, vi (by push_cast; omega), rfl, by omega, by omega, by have h1 := HS.out; have h2 := HL.out; have h3 := hv.out; show _ = _; omega⟩
        case measure => simp [intOf]; omega
    · have HL := hide (yLen_no hl)
      have g := leapB_no hl
      clear hl
      by_cases hlt : v < 365
      · have HY := hide (idx_y hk hv.out v0 (by rw [HL.out]; exact hlt))
        have e1 : dY day = 2000 + (k : Int) := by unfold dY; rw [HY.out]
        have HR := hide (show v = dR day by unfold dR; rw [HY.out]; exact hv.out)
        have E1 := hide e1
        obtain ⟨y0, y1⟩ := dY_bd HD.out
        clear e1
        go_wp2_with (go_at_call 190; refine (specLeap_any _ _ (by omega)).mono ?_; rintro e w' ⟨rfl, rfl⟩)
        rw [← E1.out]
        clear g
        go_loop [0, 7] (fun dd mm => ∃ (j : Nat) (u : Int), j ≤ 11 ∧ mm = .int .i64 (1 + j) ∧ dd = .int .i64 u ∧ 0 ≤ u ∧ u ≤ 366 ∧ Hid (u = dR day - mDays (dY day) j)) (fun dd _ => (intOf dd).toNat)
        case atStart => exact ⟨0, v, by omega, rfl, rfl, v0, by omega, by show v = dR day - mDays (dY day) 0; rw [HR.out]; simp [mDays]⟩
        case round =>
          obtain ⟨j, u, hj, rfl, rfl, u0, u1, hu⟩ := hrel
          obtain ⟨l2, l3⟩ := mLen_bd (dY day) (1 + j)
          by_cases hge : mLen (dY day) (1 + j) ≤ u
          · have HJ := m_more HD.out hj hu.out hge
            have HS := hide (mDays_succ (dY day) j)
            go_wp2_with (go_at_call 191; refine (specLong_any _ _ _ (by omega)).mono ?_; rintro e w' ⟨rfl, rfl⟩)
            go_round
            case rel => exact ⟨j + 1, _, HJ, vi (by push_cast; omega), rfl, by omega, by omega, by have h1 := HS.out; have h3 := hu.out; show _ = _; omega⟩
            case measure => simp [intOf]; omega
          · have HJ := hide (idx_m hj hu.out u0 (by omega))
            have HM := hide (show 1 + (j : Int) = dM day by unfold dM; rw [HJ.out])
            have HU := hide (show u + 1 = dD day by unfold dD; rw [HJ.out]; have := hu.out; omega)
            go_wp2_with (go_at_call 191; refine (specLong_any _ _ _ (by omega)).mono ?_; rintro e w' ⟨rfl, rfl⟩)
            go_ret3
            exact ⟨ret_3 rfl HM.out HU.out, rfl⟩
      · have HJ := y_more HD.out hk hv.out (by rw [HL.out]; omega)
        go_wp2_with (go_at_call 190; refine (specLeap_any _ _ (by omega)).mono ?_; rintro e w' ⟨rfl, rfl⟩)
        clear g
        go_round
        case rel => exact ⟨k + 1, _, HJ, vi (by push_cast; omega), rfl, by omega, by omega, by have h1 := HS.out; have h2 := HL.out; have h3 := hv.out; show _ = _; omega⟩
        case measure => simp [intOf]; omega
theorem bel_dN {B : Nat} {a w : World} (h : Below B a w) (n : Nat) : Below B a (w.drewN n) := ⟨h.os, h.tape, h.output, h.size, h.block⟩
theorem blk_set3 {w : World} {g : Nat} {a b c : Value} {t : TypeId} {fr : Nat × Nat} (h : w.heap[g]? = some (.cells #[a, b, c] t fr)) (v : Value) :
    (w.setCell ⟨g, 0, none⟩ v).heap[g]? = some (.cells #[v, b, c] t fr) ∧ (w.setCell ⟨g, 1, none⟩ v).heap[g]? = some (.cells #[a, v, c] t fr) ∧ (w.setCell ⟨g, 2, none⟩ v).heap[g]? = some (.cells #[a, b, v] t fr) := by
  refine ⟨?_, ?_, ?_⟩ <;> (rw [Joins.block_setCell h]; simp)
theorem blk3_eq {a b c a' b' c' : Int} {t : TypeId} {o : Option Obj} (h : o = some (.cells #[.int .i64 a, .int .i64 b, .int .i64 c] t (0, 0))) (h1 : a = a') (h2 : b = b') (h3 : c = c') : o = some (.cells #[.int .i64 a', .int .i64 b', .int .i64 c'] t (0, 0)) := by rw [h, h1, h2, h3]
theorem meas3 {w : World} {g : Nat} {a b c : Int} {t : TypeId} {fr : Nat × Nat} (h : w.heap[g]? = some (.cells #[.int .i64 a, .int .i64 b, .int .i64 c] t fr)) : (match w.cell? ⟨g, 2, none⟩ with | some v => (intOf v).toNat | none => 0) = c.toNat := by
  have := Joins.cell_of_block h 2
  simp at this
  rw [this]; rfl
set_option maxHeartbeats 4000000 in
theorem implDate_any (day : Int) (w : World) (hd : dayP day) :
    Calls Try.prog 95 #[.int .i64 day] w fun e w' => e = .returned (.agg #[.int .i64 (dY day), .int .i64 (dM day), .int .i64 (dD day)]) ∧ Below w.heap.size w w' := by
  have HD := hide hd
  have d0 := hd.1
  have d1 := hd.2
  clear hd
  go_enter Try.func95, Try.ntmps95
  go_wp2
  go_loopw [7] (fun _ wr => ∃ (k : Nat) (v : Int), k ≤ 99 ∧ Hid (wr.heap[w.heap.size + 1]? = some (.cells #[.int .i64 (2000 + k), .int .i64 (1), .int .i64 (v + 1)] 105 (0, 0))) ∧ Hid (wr.heap[w.heap.size]? = some (.cells #[.int .i64 (0), .int .i64 (0), .int .i64 (0)] 105 (0, 0))) ∧ 0 ≤ v ∧ v ≤ 36524 ∧ Hid (v = day - yDays k) ∧ Below w.heap.size w wr) (fun _ wr => match wr.cell? ⟨w.heap.size + 1, 2, none⟩ with | some v => (intOf v).toNat | none => 0)
  case atStart =>
    refine ⟨0, day, by omega, ?_, ?_, by omega, by omega, by show day = day - yDays 0; simp [yDays], ?_⟩
    · exact blk3_eq ((blocks2 w _ _).2) (by simp) rfl rfl
    · exact (blocks2 w _ _).1
    · exact ((Below.refl w.heap.size w).alloc (Nat.le_refl _) _).alloc (by simp) _
  case round =>
    obtain ⟨k, v, hk, HBK, HBR, v0, v1, hv, hbel⟩ := hrel
    obtain ⟨l0, l1⟩ := yLen_bd (2000 + k)
    have HS := hide (yDays_succ k)
    have HBEL := hide hbel
    clear hbel
    have k0 := Joins.cell_of_block HBK.out 0
    have k1 := Joins.cell_of_block HBK.out 1
    have k2 := Joins.cell_of_block HBK.out 2
    have f0 := Joins.unfrozen_of_block HBK.out 0
    have f1 := Joins.unfrozen_of_block HBK.out 1
    have f2 := Joins.unfrozen_of_block HBK.out 2
    simp at k0 k1 k2 f0 f1 f2
    by_cases hge : yLen (2000 + k) < v + 1
    · have HJ := y_more HD.out hk hv.out (by omega)
      go_wp2
      go_quiet ((go_at_call 98; exact Calls.quiet_of_same ((implYear_any _ _ (by omega)).mono fun _ _ ⟨h, h'⟩ => ⟨h, h'.symm⟩)))
      go_wp2
      go_region_with (go_at_call 98; refine (implYear_any _ _ (by omega)).mono ?_; rintro e w' ⟨rfl, rfl⟩)
      all_goals
        go_wp2
        go_roundw
        case rel => exact ⟨k + 1, v - yLen (2000 + k), HJ, blk3_eq ((blk_set3 ((blk_set3 HBK.out _).2.2) _).1) (by push_cast; omega) rfl (by omega), (blk_set (by simp) (blk_set (by simp) HBR.out)), by omega, by omega, by have h1 := HS.out; have h3 := hv.out; show _ = _; omega, ((bel_dN HBEL.out _).setCell (by simp) _).setCell (by simp) _⟩
        case measure => (rw [meas3 HBK.out]; exact Nat.lt_of_le_of_lt (Nat.le_of_eq (meas3 ((blk_set3 ((blk_set3 (w := wr.drewN _) HBK.out _).2.2) _).1))) (by omega))
    · have HY := hide (idx_y hk hv.out v0 (by omega))
      have e1 : dY day = 2000 + (k : Int) := by unfold dY; rw [HY.out]
      have HR := hide (show v = dR day by unfold dR; rw [HY.out]; exact hv.out)
      have E1 := hide e1
      obtain ⟨y0, y1⟩ := dY_bd HD.out
      have HBK2 : Hid (wr.heap[w.heap.size + 1]? = some (.cells #[.int .i64 (dY day), .int .i64 (1), .int .i64 (v + 1)] 105 (0, 0))) := by have := HBK.out; rw [← e1] at this; exact this
      clear e1
      go_wp2
      go_quiet ((go_at_call 98; exact Calls.quiet_of_same ((implYear_any _ _ (by omega)).mono fun _ _ ⟨h, h'⟩ => ⟨h, h'.symm⟩)))
      go_wp2
      clear k0 k1 k2 f0 f1 f2 HBK
      go_loopw [24] (fun _ wr => ∃ (j : Nat) (u : Int), j ≤ 11 ∧ Hid (wr.heap[w.heap.size + 1]? = some (.cells #[.int .i64 (dY day), .int .i64 (1 + j), .int .i64 (u + 1)] 105 (0, 0))) ∧ Hid (wr.heap[w.heap.size]? = some (.cells #[.int .i64 (0), .int .i64 (0), .int .i64 (0)] 105 (0, 0))) ∧ 0 ≤ u ∧ u ≤ 366 ∧ Hid (u = dR day - mDays (dY day) j) ∧ Below w.heap.size w wr) (fun _ wr => match wr.cell? ⟨w.heap.size + 1, 2, none⟩ with | some v => (intOf v).toNat | none => 0)
      case atStart => exact ⟨0, v, by omega, blk3_eq HBK2.out rfl (by simp) rfl, HBR.out, v0, by omega, by show v = dR day - mDays (dY day) 0; rw [HR.out]; simp [mDays], bel_dN HBEL.out _⟩
      case round =>
        clear HBR HBEL HBK2
        obtain ⟨j, u, hj, HBK, HBR, u0, u1, hu, hbel⟩ := hrel
        obtain ⟨l2, l3⟩ := mLen_bd (dY day) (1 + j)
        have HS := hide (mDays_succ (dY day) j)
        have HBEL := hide hbel
        clear hbel
        have k0 := Joins.cell_of_block HBK.out 0
        have k1 := Joins.cell_of_block HBK.out 1
        have k2 := Joins.cell_of_block HBK.out 2
        have f0 := Joins.unfrozen_of_block HBK.out 0
        have f1 := Joins.unfrozen_of_block HBK.out 1
        have f2 := Joins.unfrozen_of_block HBK.out 2
        simp at k0 k1 k2 f0 f1 f2
        by_cases hge2 : mLen (dY day) (1 + j) < u + 1
        · have HJ := m_more HD.out hj hu.out (by omega)
          go_wp2
          go_quiet ((go_at_call 97; exact Calls.quiet_of_same ((implLong_any _ _ _ (by omega)).mono fun _ _ ⟨h, h'⟩ => ⟨h, h'.symm⟩)))
          go_wp2
          go_region_with (go_at_call 97; refine (implLong_any _ _ _ (by omega)).mono ?_; rintro e w' ⟨rfl, rfl⟩)
          all_goals
            go_wp2
            go_roundw
            case rel => exact ⟨j + 1, u - mLen (dY day) (1 + j), HJ, blk3_eq ((blk_set3 ((blk_set3 HBK.out _).2.2) _).2.1) rfl (by push_cast; omega) (by omega), (blk_set (by simp) (blk_set (by simp) HBR.out)), by omega, by omega, by have h1 := HS.out; have h3 := hu.out; show _ = _; omega, ((bel_dN HBEL.out _).setCell (by simp) _).setCell (by simp) _⟩
            case measure => (rw [meas3 HBK.out]; exact Nat.lt_of_le_of_lt (Nat.le_of_eq (meas3 ((blk_set3 ((blk_set3 (w := wr.drewN _) HBK.out _).2.2) _).2.1))) (by omega))
        · have HJ := hide (idx_m hj hu.out u0 (by omega))
          have HM := hide (show 1 + (j : Int) = dM day by unfold dM; rw [HJ.out])
          have HU := hide (show u + 1 = dD day by unfold dD; rw [HJ.out]; have := hu.out; omega)
          have r0 := Joins.cell_of_block HBR.out 0
          have r1 := Joins.cell_of_block HBR.out 1
          have r2 := Joins.cell_of_block HBR.out 2
          have z0 := Joins.unfrozen_of_block HBR.out 0
          have z1 := Joins.unfrozen_of_block HBR.out 1
          have z2 := Joins.unfrozen_of_block HBR.out 2
          simp at r0 r1 r2 z0 z1 z2
          go_wp2
          go_quiet ((go_at_call 97; exact Calls.quiet_of_same ((implLong_any _ _ _ (by omega)).mono fun _ _ ⟨h, h'⟩ => ⟨h, h'.symm⟩)))
          go_wp2
          have R := (blk_set3 ((blk_set3 ((blk_set3 (w := wr.drewN nq) HBR.out (.int .i64 (dY day))).1) (.int .i64 (1 + j))).2.1) (.int .i64 (u + 1))).2.2
          have q0 := Joins.cell_of_block R 0
          have q1 := Joins.cell_of_block R 1
          have q2 := Joins.cell_of_block R 2
          simp at q0 q1 q2
          refine bodyPost_ret (v := .agg #[.int .i64 (dY day), .int .i64 (1 + j), .int .i64 (u + 1)]) (by simp [results, Try.results95, go_sem, q0, q1, q2]) rfl ⟨by rw [HM.out, HU.out], (((bel_dN HBEL.out _).setCell (by simp) _).setCell (by simp) _).setCell (by simp) _⟩
theorem ret4_no {p : Prop} {a b c : Int} (h : ¬ p) : Ending.returned (.tuple #[.int .i64 0, .int .i64 0, .int .i64 0, .bool false]) = .returned (.tuple #[.int .i64 (ifV p a), .int .i64 (ifV p b), .int .i64 (ifV p c), .bool (tru p)]) := by rw [ifV_no h, ifV_no h, ifV_no h, tru_no h]
theorem ret4_yes {p : Prop} {a b c : Int} (h : p) : Ending.returned (.tuple #[.int .i64 a, .int .i64 b, .int .i64 c, .bool true]) = .returned (.tuple #[.int .i64 (ifV p a), .int .i64 (ifV p b), .int .i64 (ifV p c), .bool (tru p)]) := by rw [ifV_yes h, ifV_yes h, ifV_yes h, tru_yes h]
theorem results_tmp4 {fn : Func} {a b c d : Tmp} (h : fn.results = #[.tmp a, .tmp b, .tmp c, .tmp d]) (tmps : Array Value) (P : Program) (w : World) :
    (results fn tmps).run P w = .ok (.tuple #[tmps.getD a undef, tmps.getD b undef, tmps.getD c undef, tmps.getD d undef]) w := by
  simp [results, h]
set_option maxHeartbeats 2000000 in
theorem implDateOf_any (day : Int) (w : World) :
    Calls Try.prog 26 #[.int .i64 day] w fun e w' => e = .returned (.tuple #[.int .i64 (ifV (dayP day) (dY day)), .int .i64 (ifV (dayP day) (dM day)), .int .i64 (ifV (dayP day) (dD day)), .bool (tru (dayP day))]) ∧ Below w.heap.size w w' := by
  cases g : inB day 0 36524
  · have HH := hide (show ¬ dayP day from fun h => by rw [inB_yes h] at g; cases g)
    go_enter Try.func26, Try.ntmps26
    go_wp2_with (first | (go_at_call 96; refine (implWithin_any _ _ _ _).mono ?_; rintro e w' ⟨rfl, rfl⟩) | go_in)
    ((try simp only [Exit.inBlock, Exit.then]); refine bodyPost_ret (results_tmp4 rfl _ _ _) rfl ?_)
    exact ⟨ret4_no HH.out, Below.refl _ _⟩
  have HH := hide (show dayP day from inB_iff.1 g)
  go_enter Try.func26, Try.ntmps26
  go_wp2_with (first | (go_at_call 96; refine (implWithin_any _ _ _ _).mono ?_; rintro e w' ⟨rfl, rfl⟩) | (go_at_call 95; refine (implDate_any _ _ HH.out).mono ?_; rintro e w1 ⟨rfl, hb⟩; have HB1 := hide hb; clear hb; have HX := hide (blocks1 w1 (.cells #[.int .i64 (dY day), .int .i64 (dM day), .int .i64 (dD day)] 105)); have k0 := Joins.cell_of_block HX.out 0; have k1 := Joins.cell_of_block HX.out 1; have k2 := Joins.cell_of_block HX.out 2; simp at k0 k1 k2) | go_in)
  go_quiet (fail)
  go_wp2
  ((try simp only [Exit.inBlock, Exit.then]); refine bodyPost_ret (results_tmp4 rfl _ _ _) rfl ?_)
  exact ⟨ret4_yes HH.out, bel_dN (HB1.out.alloc HB1.out.size _) _⟩
end Go.Proofs.Ytbcajjpgpjadaaa
