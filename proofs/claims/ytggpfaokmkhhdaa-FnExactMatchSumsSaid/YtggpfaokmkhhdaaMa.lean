/- MatchSums, by both. -/
import Derived.Test.YtggpfaokmkhhdaaMaP
import Derived.Test.YtggpfaokmkhhdaaTw
import Derived.RangeFuncBox
import Derived.Ground.SlgnProg
import Derived.Shelf.SlicesE.Delete
import Derived.Lib.RowBridge
namespace Go.Proofs.Ytggpfaokmkhhdaa
open Go.RowKit Go.Dues
theorem grown_set (W : World) (p : Addr) (v : Value) : W.grownBy (W.setCell p v) (some p.block) :=
  ⟨rfl, rfl, rfl, (KeepsWalks.setCell W _ v).size, fun k _ hk => Below.heap_setCell _ _ _ k (fun e => hk (by rw [e]))⟩
theorem Try.infoB : (Try.prog.info? 4).map (fun i => (i.zero, i.size, i.bytes)) = some (some (.bool false), 1, 1) := by kernel_rfl
set_option maxHeartbeats 4000000 in
theorem specSums_any (A : Option Addr) (n c : Nat) (x : Nat → Int) (w : World) (hn : n ≤ 1048576) (hs : SL w A n (fun j => .int .i64 (x j))) :
    Calls Try.prog 88 #[.slice A n c] w fun e w' => e = .returned (.bool (tru (allP x n 0 64 (-1000000000) 1000000000))) ∧ w = w' := by
  have HC := cells_a hs
  clear hs
  go_enter Try.func88, Try.ntmps88
  go_wp2
  go_loopw [3, 6] (fun _ i wr => ∃ (k : Nat), k ≤ n ∧ i = .int .i64 k ∧ Hid (∀ j, j < k → -1000000000 ≤ x j ∧ x j ≤ 1000000000) ∧ w = wr) (fun _ i _ => n - (intOf i).toNat)
  case atStart => exact ⟨0, Nat.zero_le _, rfl, fun j hj => absurd hj (by omega), by first | rfl | trivial⟩
  case round =>
    obtain ⟨k, hk, rfl, hrg, rfl⟩ := hrel
    by_cases hlt : k < n
    · have hki : (k : Int) < (n : Int) := by omega
      obtain ⟨b, off, rfl, hb, hck⟩ := HC.out k hlt
      cases gx : inB (x k) (-1000000000) 1000000000
      · have HT := hide (tru_no (show ¬ allP x n 0 64 (-1000000000) 1000000000 from fun h => by rw [inB_yes (h.2 k hlt)] at gx; cases gx))
        go_wp2_with (go_at_call 68; refine (specIn_any _ _ _ _).mono ?_; rintro e w' ⟨rfl, rfl⟩)
        go_ret
        exact ⟨retBa HT.out.symm, rfl⟩
      have HRG := hide (show ∀ j, j < k + 1 → -1000000000 ≤ x j ∧ x j ≤ 1000000000 from fun j hj => by
        by_cases hjk : j = k
        · subst hjk; exact inB_iff.1 gx
        · exact hrg.out j (by omega))
      go_wp2_with (go_at_call 68; refine (specIn_any _ _ _ _).mono ?_; rintro e w' ⟨rfl, rfl⟩)
      go_roundw
      case rel => exact ⟨k + 1, by omega, by go_num, HRG.out, by first | rfl | trivial⟩
      case measure => simp [intOf]; omega
    · obtain rfl : n = k := by omega
      by_cases h64 : (n : Int) ≤ 64
      · have HT := hide (tru_yes (show allP x n 0 64 (-1000000000) 1000000000 from ⟨⟨by omega, h64⟩, hrg.out⟩))
        have hd : decide ((n : Int) ≤ 64) = true := decide_eq_true h64
        go_wp2
        go_ret
        exact ⟨retBa HT.out.symm, rfl⟩
      · have HT := hide (tru_no (show ¬ allP x n 0 64 (-1000000000) 1000000000 from fun h => h64 h.1.2))
        have hd : decide ((n : Int) ≤ 64) = false := decide_eq_false h64
        clear h64
        go_wp2
        go_ret
        exact ⟨retBa HT.out.symm, rfl⟩
set_option maxRecDepth 100000 in
set_option maxHeartbeats 16000000 in
theorem specMatch_any (A : Option Addr) (na ca : Nat) (x : Nat → Int) (A1 : Option Addr) (nb cb : Nat) (y : Nat → Int) (w : World) (hna : na ≤ 1048576) (hs : SL w A na (fun j => .int .i64 (x j))) (hnb : nb ≤ 1048576) (hs1 : SL w A1 nb (fun j => .int .i64 (y j))) :
    Calls Try.prog 27 #[.slice A na ca, .slice A1 nb cb] w fun e w' => Gave2d w w' e (msP x y na nb) (msA x y nb na).length (msL (msM x y nb na) nb).length (ml (msA x y nb na)) (ml (msL (msM x y nb na) nb)) := by
  obtain ⟨i0, hi, hz0, hz1, hz2⟩ := info_parts Try.info64
  obtain ⟨j0, ji, jz0, jz1, jz2⟩ := info_parts Try.infoB
  have H1 := hide (specSums_any A na ca x w hna hs)
  have H2 := hide (specSums_any A1 nb cb y w hnb hs1)
  have HCA := cells_a hs
  have HCB := cells_a hs1
  clear hs hs1
  by_cases p1 : allP x na 0 64 (-1000000000) 1000000000
  rotate_left
  · have HT1 := hide (tru_no p1)
    have HH := hide (show ¬ msP x y na nb from fun h => p1 h.1)
    clear p1 HCA HCB
    go_enter Try.func27, Try.ntmps27
    go_wp2_with fail
    refine H1.out.mono ?_
    rw [HT1.out]
    rintro e w' ⟨rfl, rfl⟩
    go_wp2
    go_ret3
    exact gave2d_no HH.out (Below.refl _ _)
  have HT1 := hide (tru_yes p1)
  by_cases p2 : allP y nb 0 64 (-1000000000) 1000000000
  rotate_left
  · have HT2 := hide (tru_no p2)
    have HH := hide (show ¬ msP x y na nb from fun h => p2 h.2)
    clear p1 p2 HCA HCB
    go_enter Try.func27, Try.ntmps27
    go_wp2_with fail
    refine H1.out.mono ?_
    rw [HT1.out]
    rintro e w' ⟨rfl, rfl⟩
    go_wp2_with fail
    refine H2.out.mono ?_
    rw [HT2.out]
    rintro e w' ⟨rfl, rfl⟩
    go_wp2
    go_ret3
    exact gave2d_no HH.out (Below.refl _ _)
  have HT2 := hide (tru_yes p2)
  have HH := hide (show msP x y na nb from ⟨p1, p2⟩)
  have na64 : na ≤ 64 := by have := p1.1.2; omega
  have nb64 : nb ≤ 64 := by have := p2.1.2; omega
  have HX := hide p1.2
  have HY := hide p2.2
  clear p1 p2
  go_enter Try.func27, Try.ntmps27
  go_wp2_with fail
  refine H1.out.mono ?_
  rw [HT1.out]
  rintro e w' ⟨rfl, rfl⟩
  go_wp2_with fail
  refine H2.out.mono ?_
  rw [HT2.out]
  rintro e w' ⟨rfl, rfl⟩
  go_wp2_with (at_make; refine wpList_make_full _ rfl _ _ 98 rfl w.heap.size 4 j0 (.bool false) 1 Try.underlying98 ji jz0 jz1 _ _ _ _ nb rfl rfl rfl rfl (by rw [jz2]; omega) (by unfold maxLen; omega) (Nat.le_refl _) ?_; intro w2 hown0 hgrow0)
  have hb0 := (Below.refl w.heap.size w).grown hgrow0 (Nat.le_refl _) (fun k h => by cases h)
  have hz2' := hb0.size
  have hgl := (hown0.lt w.heap.size rfl).2
  have HBEL0 := hide (hb0.alloc hz2' (.cells #[] 2))
  have HM0 := hide (hown0.alloc (w := w2) (.cells #[] 2))
  have HMV : Hid (∀ j, j < nb → (madeCells (Value.bool false).cells (nb * 1)).toList[j]? = some (.bool (msM x y nb 0 j))) := fun j hj => by
    rw [Nat.mul_one, show (Value.bool false).cells = #[Value.bool false] from rfl, toList_madeCells_one, List.getElem?_replicate, if_pos hj]; rfl
  have HPS := hide (show (w2.alloc (.cells #[] 2)).ownsRow w.heap.size 2 1 (.slice (some ⟨w2.heap.size, 0, none⟩) 0 0) 0 [] from
    ⟨by simp, .inr ⟨w2.heap.size, 0, #[], rfl, hz2', blocks1 w2 _, Nat.le_refl 0, by unfold maxLen; omega, rfl, rfl⟩⟩)
  obtain ⟨gm, hgm⟩ : ∃ gm, w.heap.size = gm := ⟨_, rfl⟩
  have hgm0 : w.heap.size ≤ gm := by omega
  have HAP0 := hide (show Apart (Value.slice (some ⟨w2.heap.size, 0, none⟩) 0 0).ownBlock (Value.slice (some ⟨gm, 0, none⟩) nb nb).ownBlock from .inr (.inr (by simp [Value.ownBlock]; omega)))
  have HGM := hide hgm
  have HM1 : Hid ((w2.alloc (.cells #[] 2)).ownsRow w.heap.size 4 1 (.slice (some ⟨gm, 0, none⟩) nb nb) nb (madeCells (Value.bool false).cells (nb * 1)).toList) := by rw [← hgm]; exact HM0.out
  clear hown0 hgrow0 hb0 HM0 hgm hgl
  go_wp2
  rw [HGM.out]
  go_loopw [8, 9, 10, 11, 28] (fun v _ _ _ i wr => ∃ (k : Nat) (xs ms : List Value), k ≤ na ∧ i = .int .i64 k ∧ wr.ownsRow w.heap.size 2 1 v (msA x y nb k).length xs ∧ wr.ownsRow w.heap.size 4 1 (.slice (some ⟨gm, 0, none⟩) nb nb) nb ms ∧ Hid (Apart v.ownBlock (Value.slice (some ⟨gm, 0, none⟩) nb nb).ownBlock) ∧ Hid (∀ j, j < (msA x y nb k).length → xs[j]? = some (.int .i64 (ml (msA x y nb k) j))) ∧ Hid (∀ j, j < nb → ms[j]? = some (.bool (msM x y nb k j))) ∧ Below w.heap.size w wr) (fun _ _ _ _ i _ => na - (intOf i).toNat)
  case atStart => exact ⟨0, [], _, Nat.zero_le _, rfl, HPS.out, HM1.out, HAP0.out, fun j hj => absurd hj (by show ¬ j < 0; omega), HMV.out, HBEL0.out⟩
  case round =>
    clear HPS HM1 HAP0 HMV HBEL0
    obtain ⟨k, xs, ms, hk, rfl, hown, hownM, hap, hxs, hms, hbel⟩ := hrel
    by_cases hlt : k < na
    · have hki : (k : Int) < (na : Int) := by omega
      obtain ⟨ba, offa, hAe, hba, hcka⟩ := HCA.out k hlt
      subst hAe
      have HCK := hide ((hbel.cell (p := ⟨ba, offa + k, none⟩) hba).trans hcka)
      obtain ⟨s, hsx⟩ : ∃ s, x k = s := ⟨_, rfl⟩
      rw [hsx] at HCK
      have HSX := hide hsx
      obtain ⟨M, hMM⟩ : ∃ M, msM x y nb k = M := ⟨_, rfl⟩
      rw [hMM] at hms
      have HMM := hide hMM
      obtain ⟨LA, hLA⟩ : ∃ LA, msA x y nb k = LA := ⟨_, rfl⟩
      rw [hLA] at hown hxs
      have HLA := hide hLA
      have hLn : LA.length ≤ k := by rw [← hLA]; exact msA_len x y nb k
      have HCY := hide (show ∀ j, j < nb → ∃ b off, A1 = some ⟨b, off, none⟩ ∧ wr.cell? ⟨b, off + j, none⟩ = some (.int .i64 (y j)) from fun j hj => by
        obtain ⟨b, off, e1, e2, e3⟩ := HCB.out j hj
        exact ⟨b, off, e1, (hbel.cell (p := ⟨b, off + j, none⟩) e2).trans e3⟩)
      have HCM := hide (show ∀ j, j < nb → wr.cell? ⟨gm, j, none⟩ = some (.bool (M j)) from fun j hj => (hownM.cellAt j (by omega)).trans (hms.out j hj))
      have HOWN := hide hown
      have HOWM := hide hownM
      have HAPX := hide hap.out
      have HBEL := hide hbel
      have hsz := hbel.size
      obtain ⟨wo, hwo⟩ : ∃ wo : World, wo = wr := ⟨_, rfl⟩
      rw [← hwo] at HCK HCY HCM HOWN HOWM HBEL hsz ⊢
      clear hown hownM hap hbel hwo hsx hMM hLA hcka
      go_wp2
      go_loopw [10, 11, 33] (fun at_ _ i wr => ∃ (m q : Nat) (V : Int), m ≤ nb ∧ i = .int .i64 m ∧ at_ = .int .i64 V ∧ Hid (V = msAt M y s m) ∧ -1 ≤ V ∧ V < 64 ∧ wr = wo.drewN q) (fun _ _ i _ => nb - (intOf i).toNat)
      case atStart => exact ⟨0, 0, -1, Nat.zero_le _, rfl, rfl, rfl, by omega, by omega, rfl⟩
      case round =>
        obtain ⟨m, q, V, hm, rfl, rfl, hV, v0, v1, rfl⟩ := hrel
        by_cases hlt3 : m < nb
        · have hmi : (m : Int) < (nb : Int) := by omega
          obtain ⟨b1, off1, hA1, hcy⟩ := HCY.out m hlt3
          subst hA1
          have hcm := HCM.out m hlt3
          have hcx := HCK.out
          have HE := hide (show msAt M y s (m + 1) = if msAt M y s m < 0 then (if M m = false ∧ y m = s then (m : Int) else -1) else msAt M y s m from rfl)
          by_cases hv : V < 0
          · have hvd : decide (V < 0) = true := decide_eq_true hv
            cases hmm : M m
            · rw [hmm] at hcm
              by_cases hy : y m = s
              · have HNX := hide (show (m : Int) = msAt M y s (m + 1) by rw [HE.out, ← hV.out, if_pos hv, if_pos ⟨hmm, hy⟩])
                have hyb : (y m == s) = true := by rw [beq_iff_eq]; exact hy
                clear hy hmm hv
                go_wp2
                go_quiet (fail)
                go_wp2
                go_roundw
                case rel => exact ⟨m + 1, _, _, by omega, by go_num, rfl, HNX.out, by omega, by omega, by first | rfl | exact World.drewN_drewN ..⟩
                case measure => simp [intOf]; omega

              · have HNX := hide (show (-1 : Int) = msAt M y s (m + 1) by rw [HE.out, ← hV.out, if_pos hv, if_neg (fun h => hy h.2)])
                have hyb : (y m == s) = false := by rw [beq_eq_false_iff_ne]; exact hy
                have hV1 : V = -1 := by omega
                subst hV1
                clear hy hmm hv
                go_wp2
                go_quiet (fail)
                go_wp2
                go_roundw
                case rel => exact ⟨m + 1, _, _, by omega, by go_num, rfl, HNX.out, by omega, by omega, by first | rfl | exact World.drewN_drewN ..⟩
                case measure => simp [intOf]; omega

            · rw [hmm] at hcm
              have HNX := hide (show (-1 : Int) = msAt M y s (m + 1) by rw [HE.out, ← hV.out, if_pos hv, if_neg (fun h => by rw [hmm] at h; cases h.1)])
              have hV1 : V = -1 := by omega
              subst hV1
              clear hmm hv
              go_wp2
              go_quiet (fail)
              go_wp2
              go_roundw
              case rel => exact ⟨m + 1, _, _, by omega, by go_num, rfl, HNX.out, by omega, by omega, by first | rfl | exact World.drewN_drewN ..⟩
              case measure => simp [intOf]; omega

          · have hvd : decide (V < 0) = false := decide_eq_false hv
            have HNX := hide (show V = msAt M y s (m + 1) by rw [HE.out, ← hV.out, if_neg hv])
            clear hv
            go_wp2
            go_quiet (fail)
            go_wp2
            go_roundw
            case rel => exact ⟨m + 1, _, _, by omega, by go_num, rfl, HNX.out, by omega, by omega, by first | rfl | exact World.drewN_drewN ..⟩
            case measure => simp [intOf]; omega

        · obtain rfl : nb = m := by omega
          have hown := HOWN.out
          have hownM := HOWM.out
          have hap := HAPX
          have hE1 : msA x y nb (k + 1) = if V < 0 then LA ++ [k] else LA := by
            show (if msAt (msM x y nb k) y (x k) nb < 0 then msA x y nb k ++ [k] else msA x y nb k) = _
            rw [HMM.out, HSX.out, HLA.out, ← hV.out]
          have hE2 : msM x y nb (k + 1) = if V < 0 then M else fun j => if (j : Int) = V then true else M j := by
            show (if msAt (msM x y nb k) y (x k) nb < 0 then msM x y nb k else fun j => if (j : Int) = msAt (msM x y nb k) y (x k) nb then true else msM x y nb k j) = _
            rw [HMM.out, HSX.out, ← hV.out]
          have HLX := hide (show xs.length = LA.length by have := hown.1; omega)
          have HLM := hide (show ms.length = nb by have := hownM.1; omega)
          by_cases hv : V < 0
          · have hvd : decide (V < 0) = true := decide_eq_true hv
            rw [if_pos hv] at hE1 hE2
            have HE1 := hide hE1
            have HE2 := hide hE2
            clear hv hE1 hE2 HOWN HOWM
            go_wp2_with (at_builtin; refine wpList_append_own_at _ rfl _ _ 22 rfl w.heap.size 2 i0 (.int .i64 0) 1 8 Try.underlying22 hi hz0 hz1 hz2 rfl (by decide) _ _ _ rfl (by exact (World.ownsRow.alloc (w := wo.drewN q) hown _)) ⟨_, 0, none⟩ 1 1 [.int .i64 (k : Nat)] rfl rfl (cell_one_new _ _ _) (by intro u hu; simp at hu; subst hu; rfl) (by unfold maxLen; omega) (by omega) (by simp; omega) ?_)
            intro v' w1 hown1 hgrow1 _ hat1
            have hM1 := (World.ownsRow.kept (hownM.alloc (w := wo.drewN q) _) hgrow1 hap.out.symm.ne)
            have HAP1 := hide (hap.out.step (s := (wo.drewN q).heap.size + 1) (fun k' hk' => by have := (hownM.lt k' hk').2; simp; omega) (by simpa using hat1))
            have HB1 := hide (((bel_q HBEL.out q).alloc HBEL.out.size _).grown hgrow1 (by simp; omega) (fun j hj => (hown.lt j hj).1))
            have HON := hide hown1
            have HOM := hide hM1
            clear hat1 hgrow1 hown hownM hown1 hM1 hap
            go_wp2
            go_roundw
            case rel => exact ⟨k + 1, _, ms, by omega, by go_num, by rw [HE1.out, List.length_append]; exact HON.out, HOM.out, HAP1.out, by
              rw [HE1.out, List.length_append]
              exact own_step HLX.out (fun j hj => by rw [hxs.out j hj]; unfold ml; rw [getD_app_left hj]) (by unfold ml; rw [List.getElem?_append_right (Nat.le_refl _), Nat.sub_self]; rfl), by rw [HE2.out]; exact hms.out, HB1.out⟩
            case measure => simp [intOf]; omega
          · have hvd : decide (V < 0) = false := decide_eq_false hv
            rw [if_neg hv] at hE1 hE2
            obtain ⟨p, hp⟩ : ∃ p : Nat, V = p := ⟨V.toNat, by omega⟩
            have hpn : p < nb := by
              obtain ⟨_, h2⟩ := msAt_spec M y s nb
              obtain ⟨k', a1, a2, _⟩ := h2 (by rw [← hV.out]; omega)
              rw [← hV.out] at a2
              omega
            subst hp
            have hpi : (p : Int) < (nb : Int) := by omega
            have HE1 := hide hE1
            have HE2 := hide (show ∀ j, msM x y nb (k + 1) j = if (j : Int) = (p : Int) then true else M j from fun j => by rw [hE2])
            have hold : wo.cell? ⟨gm, p, none⟩ = some (.bool (M p)) := HCM.out p hpn
            have hfr := hownM.frozenAt p
            have HST := hide (World.ownsRow.stored (w := wo.drewN q) hownM p (.bool true))
            have hne := hap.out
            have HBS := hide ((bel_q HBEL.out q).setCell (p := ⟨gm, p, none⟩) (by exact hgm0) (.bool true))
            have HO1 : Hid (((wo.drewN q).setCell ⟨gm, p, none⟩ (.bool true)).ownsRow w.heap.size 2 1 _ LA.length xs) := World.ownsRow.kept (w := wo.drewN q) hown (grown_set (wo.drewN q) ⟨gm, p, none⟩ (.bool true)) (by
              rcases hne with h | h | h
              · exact .inl h
              · cases h
              · exact .inr h)
            clear hv hE1 hE2 hown hownM hap hne HOWN HOWM
            go_wp2
            go_roundw
            case rel => exact ⟨k + 1, xs, ms.set p (.bool true), by omega, by go_num, by rw [HE1.out]; exact HO1.out, HST.out.1, HAPX.out, by rw [HE1.out]; exact hxs.out, (fun j hj => by
              rw [HE2.out j]
              by_cases hjp : j = p
              · subst hjp; rw [List.getElem?_set_self (by have := HLM.out; omega), if_pos rfl]
              · rw [List.getElem?_set_ne (by omega), if_neg (by omega)]; exact hms.out j hj), HBS.out⟩
            case measure => simp [intOf]; omega
    · obtain rfl : na = k := by omega
      have HAPX := hide hap.out
      obtain ⟨GA, dA, rfl⟩ := own_shape hown
      have hlt0 := (hownM.lt gm rfl).2
      have HOA := hide (hown.alloc (w := wr) (.cells #[] 2))
      have HOM := hide (hownM.alloc (w := wr) (.cells #[] 2))
      have hszr := hbel.size
      have HPS2 := hide (show (wr.alloc (.cells #[] 2)).ownsRow w.heap.size 2 1 (.slice (some ⟨wr.heap.size, 0, none⟩) 0 0) 0 [] from
        ⟨by simp, .inr ⟨wr.heap.size, 0, #[], rfl, hszr, blocks1 wr _, Nat.le_refl 0, by unfold maxLen; omega, rfl, rfl⟩⟩)
      have HAPL := hide (show Apart (Value.slice (some ⟨wr.heap.size, 0, none⟩) 0 0).ownBlock (Value.slice GA (msA x y nb na).length dA).ownBlock from by
        cases GA with
        | none => exact .inr (.inl rfl)
        | some a => exact .inr (.inr (by have := (hown.lt a.block rfl).2; simp [Value.ownBlock]; omega)))
      have HAPM := hide (show Apart (Value.slice (some ⟨wr.heap.size, 0, none⟩) 0 0).ownBlock (Value.slice (some ⟨gm, 0, none⟩) nb nb).ownBlock from .inr (.inr (by simp [Value.ownBlock]; omega)))
      have HB3 := hide (hbel.alloc hszr (.cells #[] 2))
      obtain ⟨M, hMM⟩ : ∃ M, msM x y nb na = M := ⟨_, rfl⟩
      rw [hMM] at hms
      have HMM := hide hMM
      obtain ⟨LA, hLA⟩ : ∃ LA, msA x y nb na = LA := ⟨_, rfl⟩
      have hLn : LA.length ≤ na := by rw [← hLA]; exact msA_len x y nb na
      rw [hLA] at HOA HAPL hxs HAPX ⊢
      have HLA := hide hLA
      clear hown hownM hap hbel hMM hLA
      go_wp2
      go_loopw [12, 13, 71] (fun v _ i wr => ∃ (m : Nat) (zs : List Value), m ≤ nb ∧ i = .int .i64 m ∧ wr.ownsRow w.heap.size 2 1 v (msL M m).length zs ∧ wr.ownsRow w.heap.size 2 1 (.slice GA LA.length dA) LA.length xs ∧ wr.ownsRow w.heap.size 4 1 (.slice (some ⟨gm, 0, none⟩) nb nb) nb ms ∧ Hid (Apart v.ownBlock (Value.slice GA LA.length dA).ownBlock) ∧ Hid (Apart v.ownBlock (Value.slice (some ⟨gm, 0, none⟩) nb nb).ownBlock) ∧ Hid (∀ j, j < (msL M m).length → zs[j]? = some (.int .i64 (ml (msL M m) j))) ∧ Below w.heap.size w wr) (fun _ _ i _ => nb - (intOf i).toNat)
      case atStart => exact ⟨0, [], Nat.zero_le _, rfl, HPS2.out, HOA.out, HOM.out, HAPL.out, HAPM.out, fun j hj => absurd hj (by show ¬ j < 0; omega), HB3.out⟩
      case round =>
        clear HPS2 HOA HOM HAPL HAPM HB3
        obtain ⟨m, zs, hm, rfl, hown, hownA, hownM, hapA, hapM, hzs, hbel⟩ := hrel
        by_cases hlt3 : m < nb
        · have hmi : (m : Int) < (nb : Int) := by omega
          have hcm : _ = some (Value.bool (M m)) := (hownM.cellAt m (by omega)).trans (hms.out m hlt3)
          have hLm := msL_len M m
          have HS := hide (msL_succ M m)
          have HBEL := hide hbel
          have hsz := hbel.size
          have HLZ := hide (show zs.length = (msL M m).length by have := hown.1; omega)
          clear hbel
          cases hmm : M m
          · rw [hmm] at hcm
            have HE := hide (show msL M (m + 1) = msL M m ++ [m] by rw [HS.out, if_pos hmm])
            clear hmm
            go_wp2_with (at_builtin; refine wpList_append_own_at _ rfl _ _ 22 rfl w.heap.size 2 i0 (.int .i64 0) 1 8 Try.underlying22 hi hz0 hz1 hz2 rfl (by decide) _ _ _ rfl (by exact (World.ownsRow.alloc (w := wr) hown _)) ⟨_, 0, none⟩ 1 1 [.int .i64 (m : Nat)] rfl rfl (cell_one_new _ _ _) (by intro u hu; simp at hu; subst hu; rfl) (by unfold maxLen; omega) (by omega) (by simp; omega) ?_)
            intro v' w1 hown1 hgrow1 _ hat1
            have HON := hide hown1
            have HOA := hide (World.ownsRow.kept (hownA.alloc (w := wr) _) hgrow1 hapA.out.symm.ne)
            have HOM := hide (World.ownsRow.kept (hownM.alloc (w := wr) _) hgrow1 hapM.out.symm.ne)
            have HAPA := hide (hapA.out.step (s := wr.heap.size + 1) (fun k' hk' => by have := (hownA.lt k' hk').2; omega) (by simpa using hat1))
            have HAPM := hide (hapM.out.step (s := wr.heap.size + 1) (fun k' hk' => by have := (hownM.lt k' hk').2; omega) (by simpa using hat1))
            have HB1 := hide ((HBEL.out.alloc HBEL.out.size _).grown hgrow1 (by simp; omega) (fun j hj => (hown.lt j hj).1))
            clear hat1 hgrow1 hown hownA hownM hown1 hcm
            go_wp2
            go_roundw
            case rel => exact ⟨m + 1, _, by omega, by go_num, by rw [HE.out, List.length_append]; exact HON.out, HOA.out, HOM.out, HAPA.out, HAPM.out, by
              rw [HE.out, List.length_append]
              exact own_step HLZ.out (fun j hj => by rw [hzs.out j hj]; unfold ml; rw [getD_app_left hj]) (by unfold ml; rw [List.getElem?_append_right (Nat.le_refl _), Nat.sub_self]; rfl), HB1.out⟩
            case measure => simp [intOf]; omega
          · rw [hmm] at hcm
            have HE := hide (show msL M (m + 1) = msL M m by rw [HS.out, if_neg (by rw [hmm]; exact Bool.noConfusion)])
            have HON := hide hown
            have HOA := hide hownA
            have HOM := hide hownM
            clear hmm hown hownA hownM
            go_wp2
            go_roundw
            case rel => exact ⟨m + 1, zs, by omega, by go_num, by rw [HE.out]; exact HON.out, HOA.out, HOM.out, hapA.out, hapM.out, by rw [HE.out]; exact hzs.out, HBEL.out⟩
            case measure => simp [intOf]; omega
        · obtain rfl : nb = m := by omega
          obtain ⟨GB, dB, rfl⟩ := own_shape hown
          have HO1 := hide (OW.of_owns (f := fun j => .int .i64 (ml LA j)) hownA hxs.out)
          have HO2 := hide (OW.of_owns (f := fun j => .int .i64 (ml (msL M nb) j)) hown hzs.out)
          have HNE := hide (show LA.length ≠ 0 → (msL M nb).length ≠ 0 → GA ≠ GB from fun h1 h2 h3 => apart_ne2 hown hownA hapA.out h2 h3.symm)
          have HBEL := hide hbel
          clear hown hownA hownM hbel
          go_wp2
          go_ret3
          rw [HMM.out, HLA.out]
          exact gave2d_yes HH.out HO1.out HO2.out HNE.out HBEL.out
/-! ### by the program -/
def Try.laysDel_ren : Go.Shelf.Ren := ⟨fun | 45 => 91 | n => n, fun | 22 => 22 | 23 => 2 | 3 => 3 | 4 => 4 | 0 => 0 | n => n, fun | n => n⟩
theorem Try.laysDel : Go.Proofs.SlLaysE.n45 Try.prog Try.laysDel_ren := {
  mixed := by kernel_rfl
  f45 := ⟨Try.f91.name, by decide, Try.func91.trans (congrArg some (by kernel_rfl))⟩
  t0 := Try.underlying0
  a0 := Try.isAgg0
  z0 := Try.sizeOf0
  v0 := Try.zeroValue0
  t3 := Try.underlying3
  a3 := Try.isAgg3
  z3 := Try.sizeOf3
  v3 := Try.zeroValue3
  t4 := Try.underlying4
  a4 := Try.isAgg4
  z4 := Try.sizeOf4
  v4 := Try.zeroValue4
  t22 := Try.underlying22
  a22 := Try.isAgg22
  z22 := Try.sizeOf22
  v22 := Try.zeroValue22
  a23 := Try.isAgg2
  z23 := Try.sizeOf2 }
theorem own_setCells_any {w : World} {B e n g : Nat} {v : Value} {xs : List Value} (h : w.ownsRow B e 1 v n xs) (hne : v.ownBlock ≠ some g) (vs : List Value) (o : Nat) : (w.setCells g o vs).ownsRow B e 1 v n xs := by
  refine ⟨h.1, ?_⟩
  rcases h.2 with h0 | ⟨g', cap, cur, h1, h2, h3, h4⟩
  · exact .inl h0
  · refine .inr ⟨g', cap, cur, h1, h2, blk_setCells (fun e => hne ?_) vs o w h3, h4⟩
    rw [h1, e]; rfl
theorem delOwn_any (g c n p : Nat) (zs : List Int) (w : World) (B : Nat) (hl : zs.length = n) (h : w.ownsRow B 2 1 (.slice (some ⟨g, 0, none⟩) n c) n (zs.map (Value.int .i64))) (hp : p < n) (hn : n ≤ 1048576) (hc : c ≤ 9223372036854775807) (hnc : n ≤ c) :
    Calls Try.prog 91 #[.slice (some ⟨g, 0, none⟩) n c, .int .i64 (p : Nat), .int .i64 ((p : Int) + 1)] w fun e w' => e = .returned (.slice (some ⟨g, 0, none⟩) (n - 1) c) ∧ ∃ q vs, vs.length = n ∧ w' = (w.drewN q).setCells g 0 vs ∧ vs.take (n - 1) = (zs.take p ++ zs.drop (p + 1)).map (Value.int .i64) := by
  obtain ⟨i0, hi, hz0, hz1, hz2⟩ := info_parts Try.info64
  have hH : Go.Sort.Holds (Value.int .i64) w g 0 zs.toArray := by
    intro j hj
    have hj' : j < n := by simpa [hl] using hj
    refine ⟨?_, ?_⟩
    · rw [Nat.zero_add]
      refine (h.cellAt j (by omega)).trans ?_
      rw [List.getElem?_map, List.getElem?_eq_getElem (by omega), getElem!_pos zs.toArray j (by simpa [hl] using hj')]
      rfl
    · rw [Nat.zero_add]; exact h.frozenAt j
  have hd := AnyE.slices_Delete Try.laysDel (Value.int .i64) (fun _ => rfl) 0 Try.zeroValue2 i0 hi hz1 g 0 c p (p + 1) zs.toArray w hH (by simpa [hl] using hnc) hc (by omega) (by simp; omega)
  have e1 : zs.toArray.size = n := by simpa using hl
  rw [e1, show ((p + 1 : Nat) : Int) = (p : Int) + 1 by omega] at hd
  refine hd.mono ?_
  rintro e w' ⟨rfl, q, rfl⟩
  have hlen : (zs.take p ++ zs.drop (p + 1) ++ List.replicate 1 (0 : Int)).length = n := by simp; omega
  refine ⟨by rw [show p + 1 - p = 1 by omega], q, (zs.take p ++ zs.drop (p + 1) ++ List.replicate 1 (0 : Int)).map (Value.int .i64), by rw [List.length_map, hlen], ?_, ?_⟩
  · rw [show p + 1 - p = 1 by omega]
    exact Go.Lib.putRow_eq_setCells (Value.int .i64) w g 0 zs.toArray _ q hH (by rw [hlen, e1])
  · rw [← List.map_take, List.take_append_of_le_length (by simp; omega), List.take_of_length_le (by simp; omega)]
set_option maxHeartbeats 2000000 in
theorem fnMs_any (PB PS : Nat) (A1 : Option Addr) (nb cb : Nat) (y : Nat → Int) (s v : Int) (w : World) (hv : 0 ≤ v ∧ v < nb) (hs1 : SL w A1 nb (fun j => .int .i64 (y j))) (hb : w.heap[PB]? = some (.cells #[.slice A1 nb cb] 22)) (hp : w.heap[PS]? = some (.cells #[.int .i64 s] 2)) :
    Calls Try.prog 90 #[.int .i64 v, .pointer (some ⟨PB, 0, none⟩), .pointer (some ⟨PS, 0, none⟩)] w fun e w' => e = .returned (.bool (y v.toNat == s)) ∧ ∃ q, w' = w.drewN q := by
  obtain ⟨k, rfl⟩ : ∃ k : Nat, v = k := ⟨v.toNat, by omega⟩
  have hkn : k < nb := by omega
  obtain ⟨b, off, rfl, hbl, hck⟩ := (cells_a hs1).out k hkn
  have hki : (k : Int) < (nb : Int) := by omega
  have k1 := Joins.cell_of_block hb 0
  have k2 := Joins.cell_of_block hp 0
  simp at k1 k2
  clear hb hp hs1 hv
  go_enter Try.func90, Try.ntmps90
  go_wp2
  go_quiet (fail)
  go_wp2
  go_ret
  exact ⟨rfl, _, rfl⟩
set_option maxHeartbeats 4000000 in
theorem idxMs_any (A : Option Addr) (n c : Nat) (z : Nat → Int) (PB PS : Nat) (A1 : Option Addr) (nb cb : Nat) (y : Nat → Int) (s : Int) (w : World) (hn : n ≤ 1048576) (hz : ∀ j, j < n → 0 ≤ z j ∧ z j < nb) (hs : SL w A n (fun j => .int .i64 (z j))) (hs1 : SL w A1 nb (fun j => .int .i64 (y j))) (hb : w.heap[PB]? = some (.cells #[.slice A1 nb cb] 22)) (hp : w.heap[PS]? = some (.cells #[.int .i64 s] 2)) :
    Calls Try.prog 89 #[.slice A n c, .func (Fn.func 90) #[] #[.pointer (some ⟨PB, 0, none⟩), .pointer (some ⟨PS, 0, none⟩)]] w fun e w' => ∃ r : Int, e = .returned (.int .i64 r) ∧ ((r = -1 ∧ ∀ j, j < n → y (z j).toNat ≠ s) ∨ (∃ p : Nat, r = p ∧ p < n ∧ y (z p).toNat = s ∧ ∀ j, j < p → y (z j).toNat ≠ s)) ∧ ∃ q, w' = w.drewN q := by
  have HC := cells_a hs
  have HZ := hide hz
  have HF := fun (q : Nat) (v : Int) hv => hide (fnMs_any PB PS A1 nb cb y s v (w.drewN q) hv hs1 hb hp)
  clear hs hs1 hb hp hz
  go_enter Try.func89, Try.ntmps89
  go_wp2
  go_loopw [5, 8] (fun _ i wr => ∃ (k q : Nat), k ≤ n ∧ i = .int .i64 k ∧ Hid (∀ j, j < k → y (z j).toNat ≠ s) ∧ wr = w.drewN q) (fun _ i _ => n - (intOf i).toNat)
  case atStart => exact ⟨0, 0, Nat.zero_le _, rfl, fun j hj => absurd hj (by omega), rfl⟩
  case round =>
    obtain ⟨k, q, hk, rfl, hno, rfl⟩ := hrel
    by_cases hlt : k < n
    · have hki : (k : Int) < (n : Int) := by omega
      obtain ⟨b, off, rfl, hbl, hck⟩ := HC.out k hlt
      have HV := hide (HF q (z k) (HZ.out k hlt)).out
      by_cases hy : y (z k).toNat = s
      · have hyb : (y (z k).toNat == s) = true := by rw [beq_iff_eq]; exact hy
        have HY := hide hy
        clear hy
        go_wp2_with fail
        refine HV.out.mono ?_
        rw [hyb]
        rintro e w' ⟨rfl, q2, rfl⟩
        go_wp2
        go_ret
        exact ⟨(k : Int), rfl, .inr ⟨k, rfl, hlt, HY.out, hno.out⟩, _, by first | rfl | exact World.drewN_drewN ..⟩
      · have hyb : (y (z k).toNat == s) = false := by rw [beq_eq_false_iff_ne]; exact hy
        have HNO := hide (show ∀ j, j < k + 1 → y (z j).toNat ≠ s from fun j hj => by
          by_cases hjk : j = k
          · subst hjk; exact hy
          · exact hno.out j (by omega))
        clear hy
        go_wp2_with fail
        refine HV.out.mono ?_
        rw [hyb]
        rintro e w' ⟨rfl, q2, rfl⟩
        go_wp2
        go_roundw
        case rel => exact ⟨k + 1, _, by omega, by go_num, HNO.out, by first | rfl | exact World.drewN_drewN ..⟩
        case measure => simp [intOf]; omega
    · obtain rfl : n = k := by omega
      go_wp2
      go_ret
      exact ⟨-1, rfl, .inl ⟨rfl, hno.out⟩, _, rfl⟩
end Go.Proofs.Ytggpfaokmkhhdaa
