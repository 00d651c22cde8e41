/- ClashesOf, by the reference. -/
import Derived.Test.YtpbbedelapnnnaaCg
namespace Go.Proofs.Ytpbbedelapnnnaa
open Go.RowKit Go.Dues
def rin (cl : Nat → Nat → Bool) (act : Nat → Bool) (i k n : Nat) : List Int := if act i then pr1 cl i ((List.range' k (n - k)).filter act) else []
theorem rin_skip {cl : Nat → Nat → Bool} {act : Nat → Bool} {i k n : Nat} (hk : k < n) (h : act i = true → act k = true → cl i k = false) : rin cl act i k n = rin cl act i (k + 1) n := by
  unfold rin
  by_cases hi : act i = true
  · rw [if_pos hi, if_pos hi, range_from hk]
    by_cases hkk : act k = true
    · rw [List.filter_cons_of_pos hkk]
      show (if cl i k then [(i : Int), (k : Int)] else []) ++ _ = _
      rw [h hi hkk]; rfl
    · rw [List.filter_cons_of_neg hkk]
  · rw [if_neg hi, if_neg hi]
theorem rin_hit {cl : Nat → Nat → Bool} {act : Nat → Bool} {i k n : Nat} (hk : k < n) (hi : act i = true) (hkk : act k = true) (h : cl i k = true) : rin cl act i k n = [(i : Int), (k : Int)] ++ rin cl act i (k + 1) n := by
  unfold rin
  rw [if_pos hi, if_pos hi, range_from hk, List.filter_cons_of_pos hkk]
  show (if cl i k then [(i : Int), (k : Int)] else []) ++ _ = _
  rw [h]; rfl
theorem rin_end {cl : Nat → Nat → Bool} {act : Nat → Bool} {i n : Nat} : rin cl act i n n = [] := by
  unfold rin
  split
  · rw [range_end]; rfl
  · rfl
theorem rin_out {cl : Nat → Nat → Bool} {act : Nat → Bool} {i n : Nat} (hi : i < n) : prs cl ((List.range' i (n - i)).filter act) = rin cl act i (i + 1) n ++ prs cl ((List.range' (i + 1) (n - (i + 1))).filter act) := by
  rw [range_from hi]
  unfold rin
  by_cases h : act i = true
  · rw [List.filter_cons_of_pos h, if_pos h]; rfl
  · rw [List.filter_cons_of_neg h, if_neg h]; rfl
def noOpp (r s : RV) (j : Nat) : Prop := ∀ q, q < j → ¬ hasP s.x s.n (-(r.x q))
theorem noOpp_yes {r s : RV} {j : Nat} (h : tru (hasP s.x s.n (-(r.x j))) = true) : tru (noOpp r s (j + 1)) = false := tru_no fun hn => hn j (by omega) (truV h)
theorem noOpp_no {r s : RV} {j : Nat} (h : tru (hasP s.x s.n (-(r.x j))) = false) : tru (noOpp r s (j + 1)) = tru (noOpp r s j) := tru_congr ⟨fun hn q hq => hn q (by omega), fun hn q hq => by
  by_cases e : q = j
  · subst e; exact truN h
  · exact hn q (by omega)⟩
set_option maxRecDepth 100000 in
set_option maxHeartbeats 16000000 in
theorem specClashes_any (A : Option Addr) (n c : Nat) (V : Nat → RV) (day : Int) (w : World) (hn : n ≤ maxLen) (hv : ∀ i, i < n → (V i).n ≤ maxLen) (hs : RS w A n V) :
    Calls Try.prog 60 #[.slice A n c, .int .i64 day] w fun e w' => Gave1 w w' e (acP V n day) (cfL V n day).length (gl (cfL V n day)) := by
  obtain ⟨i0, hi, hz0, hz1, hz2⟩ := info_parts Try.info64
  have HR := hide (specRules_any A n c V w hn hv hs)
  have HS := hide hs
  clear hs hv
  by_cases hp : rulesP V n
  rotate_left
  · have HT := hide (tru_no hp)
    have HH := hide (show ¬ acP V n day from fun h => hp h.1)
    clear hp
    go_enter Try.func60, Try.ntmps60
    go_wp2_with fail
    refine HR.out.mono ?_
    rw [HT.out]
    rintro e w1 ⟨rfl, u1, rfl⟩
    go_wp2_with (go_at_call 149; refine (specRDay_any _ _).mono ?_; rintro e w' ⟨rfl, rfl⟩)
    go_ret2
    exact gave1_no HH.out (bel_q (Below.refl _ _) _)
  have HT := hide (tru_yes hp)
  have HP := hide hp
  have n24 := hp.1
  clear hp
  cases gd : inB day 0 100000
  · have HH := hide (show ¬ acP V n day from fun h => by rw [inB_yes h.2] at gd; cases gd)
    go_enter Try.func60, Try.ntmps60
    go_wp2_with fail
    refine HR.out.mono ?_
    rw [HT.out]
    rintro e w1 ⟨rfl, u1, rfl⟩
    go_wp2_with (go_at_call 149; refine (specRDay_any _ _).mono ?_; rintro e w' ⟨rfl, rfl⟩)
    go_ret2
    exact gave1_no HH.out (bel_q (Below.refl _ _) _)
  have HPP := hide (show acP V n day from ⟨HP.out, inB_iff.1 gd⟩)
  have HRU := hide HP.out.2
  have HTL := hide (cfL_len (V := V) (day := day) n24)
  go_enter Try.func60, Try.ntmps60
  go_wp2_with fail
  refine HR.out.mono ?_
  rw [HT.out]
  rintro e w1 ⟨rfl, u1, hu1⟩
  have HB := hide (show Below w.heap.size w w1 by rw [hu1]; exact bel_q (Below.refl _ _) _)
  have HS1 := hide (show RS w1 A n V by rw [hu1]; exact HS.out)
  clear hu1
  have hst : (w1.alloc (.cells #[] 2)).ownsRow w1.heap.size 2 1 (.slice (some ⟨w1.heap.size, 0, none⟩) 0 0) 0 [] :=
    ⟨by simp, .inr ⟨w1.heap.size, 0, #[], rfl, Nat.le_refl _, new_at w1 _, Nat.le_refl 0, by unfold maxLen; omega, rfl, rfl⟩⟩
  have HBS := hide ((Below.refl w1.heap.size w1).alloc (Nat.le_refl _) (.cells #[] 2))
  have HO0 := hide hst
  clear hst
  go_wp2_with (go_at_call 149; refine (specRDay_any _ _).mono ?_; rintro e w' ⟨rfl, rfl⟩)
  clear gd
  go_loopw [6, 7, 8, 9, 10, 11, 12, 24] (fun v _ _ _ _ _ _ ii wr => ∃ (i : Nat) (L : List Int), i ≤ n ∧ ii = .int .i64 i ∧ wr.ownsRow w1.heap.size 2 1 v L.length (L.map (Value.int .i64)) ∧ Hid (L ++ prs (cfB V) ((List.range' i (n - i)).filter (actB V day)) = cfL V n day) ∧ Below w1.heap.size w1 wr) (fun _ _ _ _ _ _ _ ii _ => n - (intOf ii).toNat)
  case atStart => exact ⟨0, [], Nat.zero_le _, rfl, HO0.out, hide (by show prs _ ((List.range' 0 (n - 0)).filter _) = prs _ ((List.range n).filter _); rw [Nat.sub_zero, List.range_eq_range']), HBS.out⟩
  case round =>
    obtain ⟨i, L, hi', rfl, hown, hL, hbel⟩ := hrel
    by_cases hlt : i < n
    · have hki : (i : Int) < (n : Int) := by omega
      have HLO := hide (show L ++ (rin (cfB V) (actB V day) i (i + 1) n ++ prs (cfB V) ((List.range' (i + 1) (n - (i + 1))).filter (actB V day))) = cfL V n day by rw [← rin_out hlt]; exact hL.out)
      have HBEL := hide hbel
      have HO := hide hown
      clear hown hbel
      go_wp2
      go_loopw [6, 8, 9, 10, 11, 12] (fun v kk _ _ _ _ wr => ∃ (k : Nat) (L : List Int), k ≤ n ∧ kk = .int .i64 k ∧ wr.ownsRow w1.heap.size 2 1 v L.length (L.map (Value.int .i64)) ∧ Hid (L ++ (rin (cfB V) (actB V day) i k n ++ prs (cfB V) ((List.range' (i + 1) (n - (i + 1))).filter (actB V day))) = cfL V n day) ∧ Below w1.heap.size w1 wr) (fun _ kk _ _ _ _ _ => n - (intOf kk).toNat)
      case atStart => exact ⟨i + 1, L, by omega, by go_num, HO.out, HLO.out, HBEL.out⟩
      case round =>
        clear HO HLO HBEL hL
        obtain ⟨k, L, hk, rfl, hown, hL, hbel⟩ := hrel
        by_cases hkt : k < n
        · have hkk : (k : Int) < (n : Int) := by omega
          have hLL := tot_len hL.out HTL.out
          obtain ⟨b, off, I, ci, hA', hb, dc0, dc1, dc2, dc3, dc4, hI⟩ := HS1.out.cells.out i hlt
          obtain ⟨b2, off2, J, cj, hA2, _, fc0, fc1, fc2, fc3, fc4, hJ⟩ := HS1.out.cells.out k hkt
          rw [hA'] at hA2
          injection hA2 with hA2
          injection hA2 with hA3 hA4
          subst hA3 hA4 hA'
          have d0 := (hbel.cell (p := ⟨b, off + i * 5, none⟩) hb).trans dc0
          have d1 := (hbel.cell (p := ⟨b, off + i * 5 + 1, none⟩) hb).trans dc1
          have d2 := (hbel.cell (p := ⟨b, off + i * 5 + 2, none⟩) hb).trans dc2
          have d3 := (hbel.cell (p := ⟨b, off + i * 5 + 3, none⟩) hb).trans dc3
          have d4 := (hbel.cell (p := ⟨b, off + i * 5 + 4, none⟩) hb).trans dc4
          have f0 := (hbel.cell (p := ⟨b, off + k * 5, none⟩) hb).trans fc0
          have f1 := (hbel.cell (p := ⟨b, off + k * 5 + 1, none⟩) hb).trans fc1
          have f2 := (hbel.cell (p := ⟨b, off + k * 5 + 2, none⟩) hb).trans fc2
          have f3 := (hbel.cell (p := ⟨b, off + k * 5 + 3, none⟩) hb).trans fc3
          have f4 := (hbel.cell (p := ⟨b, off + k * 5 + 4, none⟩) hb).trans fc4
          have HI := hide (hI.below hbel)
          have HJ := hide (hJ.below hbel)
          have hri := HRU.out i hlt
          have hrk := HRU.out k hkt
          obtain ⟨_, x0, x1⟩ := hrk.1
          have n6 := hri.2.1
          have m6 := hrk.2.1
          have HFI := hide hri.2.2.1
          have HBEL := hide hbel
          have hz := hbel.size
          clear hbel dc0 dc1 dc2 dc3 dc4 fc0 fc1 fc2 fc3 fc4 hI hJ hri hrk
          have HOI0 := fun q => hide (specOn_any b (off + i * 5) (V i).f (V i).t day (wr.drewN q) (show (wr.drewN q).cell? ⟨b, off + i * 5 + 2, none⟩ = _ from d2) (show (wr.drewN q).cell? ⟨b, off + i * 5 + 3, none⟩ = _ from d3))
          have HOK0 := fun q => hide (specOn_any b (off + k * 5) (V k).f (V k).t day (wr.drewN q) (show (wr.drewN q).cell? ⟨b, off + k * 5 + 2, none⟩ = _ from f2) (show (wr.drewN q).cell? ⟨b, off + k * 5 + 3, none⟩ = _ from f3))
          cases ga : inB day (V i).f (V i).t
          · have HG := hide (show L ++ (rin (cfB V) (actB V day) i (k + 1) n ++ prs (cfB V) ((List.range' (i + 1) (n - (i + 1))).filter (actB V day))) = cfL V n day by rw [← rin_skip hkt (fun h1 h2 => absurd h1 (by have : actB V day i = false := ga; rw [this]; decide))]; exact hL.out)
            have HO := hide hown
            have HOI := fun q => hide (ret_eq (HOI0 q).out ga)
            
            clear hown
            go_wp2
            go_quiet ((first | (go_at_call 150; with_reducible exact Calls.quiet_of (HOI _).out) | (go_at_call 150; with_reducible exact Calls.quiet_of (HOK _).out)))
            go_wp2
            clear ga d0 d1 d2 d3 d4 f0 f1 f2 f3 f4
            go_roundw
            case rel => exact ⟨k + 1, L, by omega, by go_num, HO.out, HG.out, bel_q HBEL.out _⟩
            case measure => simp [intOf]; omega
          cases gb : inB day (V k).f (V k).t
          · have HG := hide (show L ++ (rin (cfB V) (actB V day) i (k + 1) n ++ prs (cfB V) ((List.range' (i + 1) (n - (i + 1))).filter (actB V day))) = cfL V n day by rw [← rin_skip hkt (fun h1 h2 => absurd h2 (by have : actB V day k = false := gb; rw [this]; decide))]; exact hL.out)
            have HO := hide hown
            have HOI := fun q => hide (ret_eq (HOI0 q).out ga)
            have HOK := fun q => hide (ret_eq (HOK0 q).out gb)
            clear hown
            go_wp2
            go_quiet ((first | (go_at_call 150; with_reducible exact Calls.quiet_of (HOI _).out) | (go_at_call 150; with_reducible exact Calls.quiet_of (HOK _).out)))
            go_wp2
            clear ga gb d0 d1 d2 d3 d4 f0 f1 f2 f3 f4
            go_roundw
            case rel => exact ⟨k + 1, L, by omega, by go_num, HO.out, HG.out, bel_q HBEL.out _⟩
            case measure => simp [intOf]; omega
          by_cases h0 : (V i).h = -(V k).h
          rotate_left
          · have e0 := neN' h0
            have HH0 := hide h0
            clear h0
            have HG := hide (show L ++ (rin (cfB V) (actB V day) i (k + 1) n ++ prs (cfB V) ((List.range' (i + 1) (n - (i + 1))).filter (actB V day))) = cfL V n day by rw [← rin_skip hkt (fun h1 h2 => tru_no (fun h => HH0.out h.1))]; exact hL.out)
            have HO := hide hown
            have HOI := fun q => hide (ret_eq (HOI0 q).out ga)
            have HOK := fun q => hide (ret_eq (HOK0 q).out gb)
            clear hown
            go_wp2
            go_quiet ((first | (go_at_call 150; with_reducible exact Calls.quiet_of (HOI _).out) | (go_at_call 150; with_reducible exact Calls.quiet_of (HOK _).out)))
            go_wp2
            clear ga gb e0 d0 d1 d2 d3 d4 f0 f1 f2 f3 f4
            go_roundw
            case rel => exact ⟨k + 1, L, by omega, by go_num, HO.out, HG.out, bel_q HBEL.out _⟩
            case measure => simp [intOf]; omega
          have e0 := neY' h0
          by_cases h1 : (V i).k = (V k).k
          rotate_left
          · have e1 := neN' h1
            have HH1 := hide h1
            clear h0 h1
            have HG := hide (show L ++ (rin (cfB V) (actB V day) i (k + 1) n ++ prs (cfB V) ((List.range' (i + 1) (n - (i + 1))).filter (actB V day))) = cfL V n day by rw [← rin_skip hkt (fun h1 h2 => tru_no (fun h => HH1.out h.2.1))]; exact hL.out)
            have HO := hide hown
            have HOI := fun q => hide (ret_eq (HOI0 q).out ga)
            have HOK := fun q => hide (ret_eq (HOK0 q).out gb)
            clear hown
            go_wp2
            go_quiet ((first | (go_at_call 150; with_reducible exact Calls.quiet_of (HOI _).out) | (go_at_call 150; with_reducible exact Calls.quiet_of (HOK _).out)))
            go_wp2
            clear ga gb e0 e1 d0 d1 d2 d3 d4 f0 f1 f2 f3 f4
            go_roundw
            case rel => exact ⟨k + 1, L, by omega, by go_num, HO.out, HG.out, bel_q HBEL.out _⟩
            case measure => simp [intOf]; omega
          have e1 := neY' h1
          have H01 := hide (show (V i).h = -(V k).h ∧ (V i).k = (V k).k from ⟨h0, h1⟩)
          have HGA := hide (show actB V day i = true ∧ actB V day k = true from ⟨ga, gb⟩)
          clear h0 h1
          have HO := hide hown
          have HOI := fun q => hide (ret_eq (HOI0 q).out ga)
          have HOK := fun q => hide (ret_eq (HOK0 q).out gb)
          clear hown
          go_wp2
          go_quiet ((first | (go_at_call 150; with_reducible exact Calls.quiet_of (HOI _).out) | (go_at_call 150; with_reducible exact Calls.quiet_of (HOK _).out)))
          clear HOI HOK HOI0 HOK0
          have D1 : (wr.drewN nq).cell? ⟨b, off + i * 5 + 1, none⟩ = some (.slice I (V i).n ci) := d1
          have F1 : (wr.drewN nq).cell? ⟨b, off + k * 5 + 1, none⟩ = some (.slice J (V k).n cj) := f1
          have HI2 := hide (show SL (wr.drewN nq) I (V i).n (fun j => .int .i64 ((V i).x j)) from HI.out)
          have HJ2 := hide (show SL (wr.drewN nq) J (V k).n (fun j => .int .i64 ((V k).x j)) from HJ.out)
          have HO2 := hide (show (wr.drewN nq).ownsRow w1.heap.size 2 1 _ L.length (L.map (Value.int .i64)) from HO.out)
          have HB2 := hide (bel_q HBEL.out nq)
          generalize hWQ : wr.drewN nq = wq at D1 F1 HI2 HJ2 HO2 HB2 ⊢
          clear hWQ ga gb e0 e1 d0 d1 d2 d3 d4 f0 f1 f2 f3 f4 HO HI HJ HBEL hz
          have HCI := cells_one HI2.out
          go_wp2
          go_loopw [11, 12, 79] (fun cl _ jj wr => ∃ (j u : Nat), j ≤ (V i).n ∧ jj = .int .i64 j ∧ cl = .bool (tru (noOpp (V i) (V k) j)) ∧ Hid (wr = wq.drewN u)) (fun _ _ jj _ => (V i).n - (intOf jj).toNat)
          case atStart => exact ⟨0, 0, Nat.zero_le _, rfl, by rw [tru_yes (show noOpp (V i) (V k) 0 from fun q hq => absurd hq (by omega))], rfl⟩
          case round =>
            obtain ⟨j, u, hj, rfl, rfl, hwr⟩ := hrel
            by_cases hjt : j < (V i).n
            · have hjj : (j : Int) < ((V i).n : Int) := by omega
              obtain ⟨bi, oi, rfl, hbi, hci⟩ := HCI.out j hjt
              have g1 : wr.cell? ⟨b, off + i * 5 + 1, none⟩ = some (.slice (some ⟨bi, oi, none⟩) (V i).n ci) := by rw [hwr.out]; exact D1
              have g2 : wr.cell? ⟨b, off + k * 5 + 1, none⟩ = some (.slice J (V k).n cj) := by rw [hwr.out]; exact F1
              have g3 : wr.cell? ⟨bi, oi + j, none⟩ = some (.int .i64 ((V i).x j)) := by rw [hwr.out]; exact hci
              have HJW := hide (show SL wr J (V k).n (fun j => .int .i64 ((V k).x j)) by rw [hwr.out]; exact HJ2.out)
              have y0 := (HFI.out j hjt).1.2.1
              have y1 := (HFI.out j hjt).1.2.2
              clear hci
              cases gh : tru (hasP (V k).x (V k).n (-((V i).x j)))
              · have HNO := hide (noOpp_no gh)
                obtain ⟨X, hX⟩ : ∃ X, (V i).x j = X := ⟨_, rfl⟩
                rw [hX] at g3 y0 y1 gh
                have HX := hide hX
                clear hX
                have hng : IntKind.i64.wrap (-X) = -X := Go.IntWalk.i64_in _ (by omega)
                have HHS := fun q => hide ((ret_eq (specHas_any J (V k).n cj (V k).x (-X) (wr.drewN q) (by unfold maxLen; omega) (by exact HJW.out)) gh).mono fun _ _ ⟨h, h'⟩ => show _ ∧ _ = wr.drewN q from ⟨h, h'.symm⟩)
                clear gh
                go_wp2
                go_quiet ((go_at_call 151; with_reducible exact Calls.quiet_of_same (HHS _).out))
                go_wp2
                clear g1 g2 g3
                go_roundw
                case rel => exact ⟨j + 1, _, by omega, by go_num, by rw [HNO.out], hide (by rw [hwr.out, World.drewN_drewN])⟩
                case measure => simp [intOf]; omega
              · have HNO := hide (noOpp_yes gh)
                obtain ⟨X, hX⟩ : ∃ X, (V i).x j = X := ⟨_, rfl⟩
                rw [hX] at g3 y0 y1 gh
                have HX := hide hX
                clear hX
                have hng : IntKind.i64.wrap (-X) = -X := Go.IntWalk.i64_in _ (by omega)
                have HHS := fun q => hide ((ret_eq (specHas_any J (V k).n cj (V k).x (-X) (wr.drewN q) (by unfold maxLen; omega) (by exact HJW.out)) gh).mono fun _ _ ⟨h, h'⟩ => show _ ∧ _ = wr.drewN q from ⟨h, h'.symm⟩)
                clear gh
                go_wp2
                go_quiet ((go_at_call 151; with_reducible exact Calls.quiet_of_same (HHS _).out))
                go_wp2
                clear g1 g2 g3
                go_roundw
                case rel => exact ⟨j + 1, _, by omega, by go_num, by rw [HNO.out], hide (by rw [hwr.out, World.drewN_drewN])⟩
                case measure => simp [intOf]; omega
            · obtain rfl : j = (V i).n := by omega
              have hjj : ¬ ((V i).n : Int) < ((V i).n : Int) := by omega
              have HB3 := hide (show Below w1.heap.size w1 wr by rw [hwr.out]; exact bel_q HB2.out u)
              have hown3 := own_stays HO2.out (show Below wq.heap.size wq wr by rw [hwr.out]; exact bel_q (Below.refl _ _) u)
              have hzz := HB3.out.size
              cases gc : tru (noOpp (V i) (V k) (V i).n)
              · have HG := hide (show L ++ (rin (cfB V) (actB V day) i (k + 1) n ++ prs (cfB V) ((List.range' (i + 1) (n - (i + 1))).filter (actB V day))) = cfL V n day by rw [← rin_skip hkt (fun _ _ => tru_no (fun h => truN gc h.2.2))]; exact hL.out)
                have HO3 := hide hown3
                clear hown3
                go_wp2
                clear gc D1 F1
                go_roundw
                case rel => exact ⟨k + 1, L, by omega, by go_num, HO3.out, HG.out, HB3.out⟩
                case measure => simp [intOf]; omega
              · have HG := hide (show (L ++ [(i : Int), (k : Int)]) ++ (rin (cfB V) (actB V day) i (k + 1) n ++ prs (cfB V) ((List.range' (i + 1) (n - (i + 1))).filter (actB V day))) = cfL V n day by
                  have h := hL.out
                  rw [rin_hit hkt HGA.out.1 HGA.out.2 (tru_yes ⟨H01.out.1, H01.out.2, truV gc⟩)] at h
                  rw [← h, List.append_assoc, List.append_assoc])
                go_wp2_with (at_builtin; refine wpList_append_own _ rfl _ _ 42 rfl (w1.heap.size) 2 i0 (.int .i64 0) 1 8 Try.underlying42 hi hz0 hz1 hz2 rfl (by decide) _ _ _ rfl (by exact (hown3.alloc _)) ⟨_, 0, none⟩ 2 2 [.int .i64 (i : Int), .int .i64 (k : Int)] rfl rfl (cell_two_new _ _ _ _) (by intro u hu; simp at hu; rcases hu with rfl | rfl <;> rfl) (by unfold maxLen; omega) (by omega) (by simp; omega) ?_)
                intro v' w3 hown4 hgrow _
                have HB4 := hide ((HB3.out.alloc (by omega) (.cells #[.int .i64 (i : Int), .int .i64 (k : Int)] 2)).grown hgrow (by simp; omega) (fun j hj => (hown3.lt j hj).1))
                have HO4 := hide hown4
                clear hgrow hown4 hown3 gc D1 F1
                go_wp2
                go_roundw
                case rel => exact ⟨k + 1, L ++ [(i : Int), (k : Int)], by omega, by go_num, (by have := HO4.out; rw [map_two, List.length_append]; exact this), HG.out, HB4.out⟩
                case measure => simp [intOf]; omega
        · obtain rfl : k = n := by omega
          have hkk : ¬ (k : Int) < (k : Int) := by omega
          have HG := hide (show L ++ prs (cfB V) ((List.range' (i + 1) (k - (i + 1))).filter (actB V day)) = cfL V k day by have h := hL.out; rw [rin_end] at h; exact h)
          have HO := hide hown
          have HBEL := hide hbel
          clear hown hbel
          go_wp2
          go_roundw
          case rel => exact ⟨i + 1, L, by omega, by go_num, HO.out, HG.out, HBEL.out⟩
          case measure => simp [intOf]; omega
    · obtain rfl : i = n := by omega
      have hki : ¬ (i : Int) < (i : Int) := by omega
      obtain ⟨Gx, dx, rfl⟩ := own_shape hown
      have HO := hide hown
      have HBEL := hide hbel
      have HE := hide (show L = cfL V i day by
        have h := hL.out
        rw [range_end] at h
        rw [← h]; show L = L ++ []; rw [List.append_nil])
      clear hown hbel
      go_wp2
      go_ret2
      exact gave1_yes HPP.out (by rw [HE.out]) (((own_ints HO.out).congr (fun j _ => by rw [HE.out])).wide HB.out.size (Nat.le_refl _)) (HB.out.trans (HBEL.out.mono HB.out.size))
end Go.Proofs.Ytpbbedelapnnnaa
