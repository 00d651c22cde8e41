/- ClashesOf, by both. -/
import Derived.Test.YtpbbedelapnnnaaCf
import Derived.Lib.QuietBelow
namespace Go.Proofs.Ytpbbedelapnnnaa
open Go.RowKit Go.Dues
theorem cell_two_new (w : World) (x y : Value) (t : TypeId) : ∀ j u, [x, y][j]? = some u → (w.alloc (.cells #[x, y] t)).cell? ((⟨w.heap.size, 0, none⟩ : Addr).add j) = some u := by
  intro j u hj
  match j, hj with
  | 0, hj => simp at hj; subst hj; simp [Addr.add]
  | 1, hj => simp at hj; subst hj; simp [Addr.add]
theorem map_two (L : List Int) (y z : Int) : (L ++ [y, z]).map (Value.int .i64) = L.map (Value.int .i64) ++ [.int .i64 y, .int .i64 z] := by rw [List.map_append]; rfl
theorem tot_len {L R T : List Int} {M : Nat} (h : L ++ R = T) (hT : T.length ≤ M) : L.length ≤ M := by rw [← h, List.length_append] at hT; omega
noncomputable def cfB (V : Nat → RV) (i k : Nat) : Bool := tru (clashR (V i) (V k))
noncomputable def cfL (V : Nat → RV) (n : Nat) (day : Int) : List Int := prs (cfB V) (flt (actB V day) n)
theorem cfL_len {V : Nat → RV} {n : Nat} {day : Int} (h : n ≤ 24) : (cfL V n day).length ≤ 2048 := by
  have h1 := prs_len (cfB V) (flt (actB V day) n)
  have h2 := flt_len (actB V day) n
  have h3 : 2 * (flt (actB V day) n).length * (flt (actB V day) n).length ≤ 2 * 24 * 24 := Nat.mul_le_mul (Nat.mul_le_mul_left 2 (by omega)) (by omega)
  unfold cfL; omega
theorem len_ClashesOf (V : Nat → RV) (n : Nat) (day : Int) : lenV (acP V n day) (cfL V n day).length ≤ 1048576 := by
  by_cases h : acP V n day
  · rw [lenV_yes h]; have := cfL_len (V := V) (day := day) h.1.1; omega
  · rw [lenV_no h]; omega
theorem il_at {Z : List Nat} {p : Nat} (h : p < Z.length) : ∃ i, i ∈ Z ∧ gl (il Z) p = (i : Int) ∧ Z.drop p = i :: Z.drop (p + 1) := by
  refine ⟨Z[p], List.getElem_mem h, ?_, List.drop_eq_getElem_cons h⟩
  unfold gl il
  rw [List.getElem?_map, List.getElem?_eq_getElem h]; rfl
theorem pd_out {cl : Nat → Nat → Bool} {Z : List Nat} {p i : Nat} {L T : List Int} (hd : Z.drop p = i :: Z.drop (p + 1)) (h : L ++ prs cl (Z.drop p) = T) : L ++ (pr1 cl i (Z.drop (p + 1)) ++ prs cl (Z.drop (p + 1))) = T := by rw [hd] at h; exact h
theorem pd_yes {cl : Nat → Nat → Bool} {i k : Nat} {Z : List Nat} {L R T : List Int} (hc : cl i k = true) (h : L ++ (pr1 cl i (k :: Z) ++ R) = T) : (L ++ [(i : Int), (k : Int)]) ++ (pr1 cl i Z ++ R) = T := by
  have e : pr1 cl i (k :: Z) = [(i : Int), (k : Int)] ++ pr1 cl i Z := by
    show (if cl i k then [(i : Int), (k : Int)] else []) ++ _ = _
    rw [hc]; rfl
  rw [e] at h
  rw [← h, List.append_assoc, List.append_assoc]
theorem pd_no {cl : Nat → Nat → Bool} {i k : Nat} {Z : List Nat} {L R T : List Int} (hc : cl i k = false) (h : L ++ (pr1 cl i (k :: Z) ++ R) = T) : L ++ (pr1 cl i Z ++ R) = T := by
  have e : pr1 cl i (k :: Z) = pr1 cl i Z := by
    show (if cl i k then [(i : Int), (k : Int)] else []) ++ _ = _
    rw [hc]; rfl
  rw [e] at h; exact h
set_option maxRecDepth 100000 in
set_option maxHeartbeats 8000000 in
theorem implClashes_any (A : Option Addr) (n c : Nat) (V : Nat → RV) (day : Int) (w : World) (hn : n ≤ maxLen) (hv : ∀ i, i < n → (V i).n ≤ maxLen) (hs : RS w A n V) :
    Calls Try.prog 62 #[.slice A n c, .int .i64 day] w fun e w' => Gave1 w w' e (acP V n day) (cfL V n day).length (gl (cfL V n day)) := by
  obtain ⟨i0, hi, hz0, hz1, hz2⟩ := info_parts Try.info64
  have HR := hide (implActiveC_any A n c V day w hn hv hs)
  have HS := hide hs
  clear hs hv
  by_cases hp : acP V n day
  rotate_left
  · have HT := hide (tru_no hp)
    have HL := hide (lenV_no (n := (acL V n day).length) hp)
    have HH := hide hp
    clear hp
    go_enter Try.func62, Try.ntmps62
    go_wp2_with fail
    refine HR.out.mono ?_
    unfold Gave1c
    rw [HT.out, HL.out]
    rintro e w1 ⟨G, dG, rfl, ho, hb, _⟩
    have HB := hide hb
    clear ho hb
    go_wp2
    go_ret2
    exact gave1_no HH.out HB.out
  have HT := hide (tru_yes hp)
  have HL := hide (lenV_yes (n := (acL V n day).length) hp)
  have HPP := hide hp
  have n24 := hp.1.1
  have HRU := hide hp.1.2
  have HTL := hide (cfL_len (V := V) (day := day) n24)
  clear hp
  obtain ⟨Z, hZ⟩ : ∃ Z, flt (actB V day) n = Z := ⟨_, rfl⟩
  have HZM := hide (show ∀ i, i ∈ Z → i < n from fun i hi => by rw [← hZ] at hi; exact (flt_mem.1 hi).1)
  have HZT := hide (show cfL V n day = prs (cfB V) Z by unfold cfL; rw [hZ])
  have HZA := hide (show acL V n day = il Z by unfold acL; rw [hZ])
  have hzl : Z.length ≤ 24 := by have := flt_len (actB V day) n; rw [hZ] at this; omega
  clear hZ
  go_enter Try.func62, Try.ntmps62
  go_wp2_with fail
  refine HR.out.mono ?_
  unfold Gave1c
  rw [HT.out, HL.out, HZA.out, il_len]
  rintro e w1 ⟨G, dG, rfl, ho, hb, hdG⟩
  have HCZ := cells_one ho.sl
  have HB := hide hb
  have HS1 := hide (HS.out.below hb)
  clear ho hb HR
  obtain ⟨m, hm⟩ : ∃ m, Z.length = m := ⟨_, rfl⟩
  have HM := hide hm
  rw [hm] at hzl hdG HCZ ⊢
  clear hm
  have HBS := hide (Below.refl w1.heap.size w1)
  have HO0 := hide (show w1.ownsRow w1.heap.size 2 1 (.slice none 0 0) 0 [] from ⟨by simp, .inl ⟨rfl, rfl⟩⟩)
  go_wp2
  go_loopw [8, 9, 10, 12, 23] (fun v _ _ _ ii wr => ∃ (p : Nat) (L : List Int), p ≤ m ∧ ii = .int .i64 p ∧ wr.ownsRow w1.heap.size 2 1 v L.length (L.map (Value.int .i64)) ∧ Hid (L ++ prs (cfB V) (Z.drop p) = cfL V n day) ∧ Below w1.heap.size w1 wr) (fun _ _ _ _ ii _ => m - (intOf ii).toNat)
  case atStart => exact ⟨0, [], Nat.zero_le _, rfl, HO0.out, hide (by rw [HZT.out]; rfl), HBS.out⟩
  case round =>
    obtain ⟨p, L, hp', rfl, hown, hL, hbel⟩ := hrel
    by_cases hlt : p < m
    · have hki : (p : Int) < (m : Int) := by omega
      obtain ⟨i, hiZ, hgi, hdi⟩ := il_at (Z := Z) (p := p) (by rw [HM.out]; exact hlt)
      have hin := HZM.out i hiZ
      have hii : (i : Int) < (n : Int) := by omega
      obtain ⟨bz, oz, rfl, hbz, hcz⟩ := HCZ.out p hlt
      rw [hgi] at hcz
      have dz := (hbel.cell (p := ⟨bz, oz + p, none⟩) hbz).trans hcz
      have HLO := hide (pd_out hdi hL.out)
      have HBEL := hide hbel
      have HO := hide hown
      have hs1 : (p : Int) + 1 ≤ (m : Int) := by omega
      have hs2 : IntKind.i64.wrap ((p : Int) + 1) = (p : Int) + 1 := Go.IntWalk.i64_in _ (by omega)
      have hs3 : ((p : Int) + 1).toNat = p + 1 := by omega
      have HGI := hide (show i ∈ Z ∧ Z.drop p = i :: Z.drop (p + 1) from ⟨hiZ, hdi⟩)
      clear hown hbel hcz hgi hdi hiZ
      by_cases hdp : dG = p + 1
      · have hq0 : ¬ (0 : Int) < ((m - (p + 1) : Nat) : Int) := by omega
        have hqz : m - (p + 1) = 0 := by omega
        go_wp2
        go_loopw [8, 12, 33] (fun v _ kk wr => ∃ (q : Nat) (L : List Int), q ≤ m - (p + 1) ∧ kk = .int .i64 q ∧ wr.ownsRow w1.heap.size 2 1 v L.length (L.map (Value.int .i64)) ∧ Hid (L ++ (pr1 (cfB V) i (Z.drop (p + 1 + q)) ++ prs (cfB V) (Z.drop (p + 1))) = cfL V n day) ∧ Below w1.heap.size w1 wr) (fun _ _ kk _ => m - (intOf kk).toNat)
        case atStart => exact ⟨0, L, Nat.zero_le _, rfl, HO.out, HLO.out, HBEL.out⟩
        case round =>
          clear HO HLO HBEL hL dz
          obtain ⟨q, L, hq, rfl, hown, hL, hbel⟩ := hrel
          obtain rfl : q = m - (p + 1) := by omega
          have hqq : ¬ ((m - (p + 1) : Nat) : Int) < ((m - (p + 1) : Nat) : Int) := by omega
          have HG := hide (show L ++ prs (cfB V) (Z.drop (p + 1)) = cfL V n day by
            have h := hL.out
            rw [List.drop_eq_nil_of_le (show Z.length ≤ p + 1 + (m - (p + 1)) by rw [HM.out]; omega)] at h
            exact h)
          have HO := hide hown
          have HBEL := hide hbel
          clear hown hbel hq0 hqz
          go_wp2
          go_roundw
          case rel => first | exact ⟨p + 1, L, by omega, by go_num, HO.out, HG.out, HBEL.out⟩ | exact ⟨_, _, _, _, _, ⟨p + 1, by omega, by go_num, L, HO.out, HG.out, HBEL.out⟩, rfl, rfl, rfl, rfl, rfl⟩
          case measure => simp [intOf]; omega
      go_wp2
      go_loopw [8, 12, 33] (fun v _ kk wr => ∃ (q : Nat) (L : List Int), q ≤ m - (p + 1) ∧ kk = .int .i64 q ∧ wr.ownsRow w1.heap.size 2 1 v L.length (L.map (Value.int .i64)) ∧ Hid (L ++ (pr1 (cfB V) i (Z.drop (p + 1 + q)) ++ prs (cfB V) (Z.drop (p + 1))) = cfL V n day) ∧ Below w1.heap.size w1 wr) (fun _ _ kk _ => m - (intOf kk).toNat)
      case atStart => exact ⟨0, L, Nat.zero_le _, rfl, HO.out, HLO.out, HBEL.out⟩
      case round =>
        clear HO HLO HBEL hL dz
        obtain ⟨q, L, hq, rfl, hown, hL, hbel⟩ := hrel
        by_cases hqt : q < m - (p + 1)
        · have hqq : (q : Int) < ((m - (p + 1) : Nat) : Int) := by omega
          have hLL := tot_len hL.out HTL.out
          obtain ⟨k, hkZ, hgk, hdk⟩ := il_at (Z := Z) (p := p + 1 + q) (by rw [HM.out]; omega)
          have hkn := HZM.out k hkZ
          have hkk : (k : Int) < (n : Int) := by omega
          obtain ⟨bz', oz', hAz, hbz', hcz⟩ := HCZ.out (p + 1 + q) (by omega)
          injection hAz with hAz
          injection hAz with hA1 hA2
          subst hA1 hA2
          rw [hgk] at hcz
          have ez := (hbel.cell (p := ⟨bz, oz + (p + 1 + q), none⟩) hbz).trans hcz
          rw [show oz + (p + 1 + q) = oz + (p + 1) + q by omega] at ez
          obtain ⟨b', off', I, ci, hA', hb', dc0, dc1, dc2, dc3, dc4, hI⟩ := HS1.out.cells.out i hin
          obtain ⟨b2, off2, J, cj, hA2, hb2', fc0, fc1, fc2, fc3, fc4, hJ⟩ := HS1.out.cells.out k hkn
          rw [hA'] at hA2
          injection hA2 with hA2
          injection hA2 with hA3 hA4
          subst hA3 hA4 hA'
          have d0 := (hbel.cell (p := ⟨b', off' + i * 5, none⟩) hb').trans dc0
          have d1 := (hbel.cell (p := ⟨b', off' + i * 5 + 1, none⟩) hb').trans dc1
          have d2 := (hbel.cell (p := ⟨b', off' + i * 5 + 2, none⟩) hb').trans dc2
          have d3 := (hbel.cell (p := ⟨b', off' + i * 5 + 3, none⟩) hb').trans dc3
          have d4 := (hbel.cell (p := ⟨b', off' + i * 5 + 4, none⟩) hb').trans dc4
          have f0 := (hbel.cell (p := ⟨b', off' + k * 5, none⟩) hb').trans fc0
          have f1 := (hbel.cell (p := ⟨b', off' + k * 5 + 1, none⟩) hb').trans fc1
          have f2 := (hbel.cell (p := ⟨b', off' + k * 5 + 2, none⟩) hb').trans fc2
          have f3 := (hbel.cell (p := ⟨b', off' + k * 5 + 3, none⟩) hb').trans fc3
          have f4 := (hbel.cell (p := ⟨b', off' + k * 5 + 4, none⟩) hb').trans fc4
          have D0 := cell_regrown d0
          have F0 := cell_regrown f0
          have D1 := cell_regrown d1
          have F1 := cell_regrown f1
          have D2 := cell_regrown d2
          have F2 := cell_regrown f2
          have D3 := cell_regrown d3
          have F3 := cell_regrown f3
          have D4 := cell_regrown d4
          have F4 := cell_regrown f4
          have HEQ := fun d os => hide (implClash_any (V i) (V k) I J ci cj (Go.Sort.grow (redrawn wr d) os) (HRU.out i hin) (HRU.out k hkn) ((hI.below hbel).below (below_regrown wr d os)) ((hJ.below hbel).below (below_regrown wr d os)))
          rw [hdk] at hL
          have HDK := hide hdk
          have HBEL := hide hbel
          have hz := hbel.size
          clear hbel hcz hgk hdk hkZ dc0 dc1 dc2 dc3 dc4 fc0 fc1 fc2 fc3 fc4 hI hJ hb2'
          cases hc : cfB V i k
          · have HG := hide (pd_no hc hL.out)
            have hcc : tru (clashR (V i) (V k)) = false := hc
            go_wp2_with fail
            refine wp_region_quiet_below (by kernel_rfl) (by kernel_rfl) ?_
            repeat (first | go_big_quiet_step (exact Calls.regrown_of (ret_eq (HEQ _ _).out hcc)) | quiet_step (exact Calls.regrown_of (ret_eq (HEQ _ _).out hcc)))
            refine wpQuiet_nil ?_
            intro _ hw'
            obtain ⟨⟨dq, osq⟩, hw''⟩ := hw'
            have hb2 := below_regrown wr dq osq
            rw [← hw''] at hb2
            clear hw''
            have HB2 := hide (HBEL.out.trans (hb2.mono hz))
            have HO := hide (own_stays hown hb2)
            clear hb2 hown D0 D1 D2 D3 D4 F0 F1 F2 F3 F4 d0 d1 d2 d3 d4 f0 f1 f2 f3 f4
            go_wp2
            clear hc hcc ez
            go_roundw
            case rel => exact ⟨q + 1, L, by omega, by go_num, HO.out, HG.out, HB2.out⟩
            case measure => simp [intOf]; omega
          · have HG := hide (pd_yes hc hL.out)
            have hcc : tru (clashR (V i) (V k)) = true := hc
            go_wp2_with fail
            refine wp_region_quiet_below (by kernel_rfl) (by kernel_rfl) ?_
            repeat (first | go_big_quiet_step (exact Calls.regrown_of (ret_eq (HEQ _ _).out hcc)) | quiet_step (exact Calls.regrown_of (ret_eq (HEQ _ _).out hcc)))
            refine wpQuiet_nil ?_
            intro _ hw'
            obtain ⟨⟨dq, osq⟩, hw''⟩ := hw'
            have hb2 := below_regrown wr dq osq
            rw [← hw''] at hb2
            clear hw''
            have HB2 := hide (HBEL.out.trans (hb2.mono hz))
            have hown2 := own_stays hown hb2
            have hzz := hb2.size
            clear hb2 hown D0 D1 D2 D3 D4 F0 F1 F2 F3 F4 d0 d1 d2 d3 d4 f0 f1 f2 f3 f4
            go_wp2_with (at_builtin; refine wpList_append_own _ rfl _ _ 42 rfl (w1.heap.size) 2 i0 (.int .i64 0) 1 8 Try.underlying42 hi hz0 hz1 hz2 rfl (by decide) _ _ _ rfl (by exact (hown2.alloc _)) ⟨_, 0, none⟩ 2 2 [.int .i64 (i : Int), .int .i64 (k : Int)] rfl rfl (cell_two_new _ _ _ _) (by intro u hu; simp at hu; rcases hu with rfl | rfl <;> rfl) (by unfold maxLen; omega) (by omega) (by simp; omega) ?_)
            intro v' w3 hown3 hgrow _
            have HB3 := hide ((HB2.out.alloc (by omega) (.cells #[.int .i64 (i : Int), .int .i64 (k : Int)] 2)).grown hgrow (by simp; omega) (fun j hj => (hown2.lt j hj).1))
            have HO3 := hide hown3
            clear hgrow hown3 hown2 hc hcc ez
            go_wp2
            go_roundw
            case rel => exact ⟨q + 1, L ++ [(i : Int), (k : Int)], by omega, by go_num, (by have := HO3.out; rw [map_two, List.length_append]; exact this), HG.out, HB3.out⟩
            case measure => simp [intOf]; omega
        · obtain rfl : q = m - (p + 1) := by omega
          have hqq : ¬ ((m - (p + 1) : Nat) : Int) < ((m - (p + 1) : Nat) : Int) := by omega
          have HG := hide (show L ++ prs (cfB V) (Z.drop (p + 1)) = cfL V n day by
            have h := hL.out
            rw [List.drop_eq_nil_of_le (show Z.length ≤ p + 1 + (m - (p + 1)) by rw [HM.out]; omega)] at h
            exact h)
          have HO := hide hown
          have HBEL := hide hbel
          clear hown hbel
          go_wp2
          go_roundw
          case rel => first | exact ⟨p + 1, L, by omega, by go_num, HO.out, HG.out, HBEL.out⟩ | exact ⟨_, _, _, _, _, ⟨p + 1, by omega, by go_num, L, HO.out, HG.out, HBEL.out⟩, rfl, rfl, rfl, rfl, rfl⟩
          case measure => simp [intOf]; omega
    · obtain rfl : p = m := by omega
      have hki : ¬ (p : Int) < (p : Int) := by omega
      obtain ⟨Gx, dx, rfl⟩ := own_shape hown
      have HO := hide hown
      have HBEL := hide hbel
      have HE := hide (show L = cfL V n day by
        have h := hL.out
        rw [List.drop_eq_nil_of_le (show Z.length ≤ p by rw [HM.out]; exact Nat.le_refl _)] at h
        rw [← h]; show L = L ++ []; rw [List.append_nil])
      clear hown hbel
      go_wp2
      go_ret2
      exact gave1_yes HPP.out (by rw [HE.out]) (((own_ints HO.out).congr (fun j _ => by rw [HE.out])).wide HB.out.size (Nat.le_refl _)) (HB.out.trans (HBEL.out.mono HB.out.size))
end Go.Proofs.Ytpbbedelapnnnaa
