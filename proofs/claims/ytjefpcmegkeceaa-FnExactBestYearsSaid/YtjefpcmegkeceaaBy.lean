/- BestYears, by the reference. -/
import Derived.Test.YtjefpcmegkeceaaBsi
import Derived.Test.YtjefpcmegkeceaaP8
namespace Go.Proofs.Ytjefpcmegkeceaa
open Go.RowKit Go.Dues
def byP (x : Nat → Int) (n : Nat) (c : Int) : Prop := allP x n 1 60 0 1000000000000 ∧ (1 ≤ c ∧ c ≤ n)
def byV (x : Nat → Int) (n : Nat) (c : Int) : Int := byS x n c.toNat / c
def vI (z : Int) : Value := .int .i64 z
theorem own_cap8 {w : World} {B n d : Nat} {e : TypeId} {G : Option Addr} {xs : List Value} (h : w.ownsRow B e 1 (.slice G n d) n xs) : n ≤ d := by
  rcases h.2 with ⟨_, h0⟩ | ⟨g, cap, cur, h1, h2, h3, h4, _⟩
  · omega
  · injection h1 with _ _ h1
    omega
theorem map_at {zs : List Int} {k : Nat} {v : Int} (h : zs[k]? = some v) : (zs.map vI)[k]? = some (.int .i64 v) := by rw [List.getElem?_map, h]; rfl
theorem map_set8 (zs : List Int) (k : Nat) (v : Int) : (zs.map vI).set k (.int .i64 v) = (zs.set k v).map vI := by rw [List.map_set]; rfl
theorem vlL_succ (x : Nat → Int) (p : Nat) : vlL x (p + 1) = vlL x p ++ [x p] := by unfold vlL; rw [List.range_succ, List.map_append]; rfl
def fnOf (ys : List Int) (j : Nat) : Int := ys[j]?.getD 0
theorem fnOf_at {ys : List Int} {j : Nat} (h : j < ys.length) : ys[j]? = some (fnOf ys j) := by unfold fnOf; rw [List.getElem?_eq_getElem h]; rfl
set_option maxRecDepth 100000 in
set_option maxHeartbeats 8000000 in
theorem specBestYears_any (A : Option Addr) (n _n : Nat) (x : Nat → Int) (c : Int) (w : World) (hn_n : n ≤ maxLen) (hs_n : SL w A n (fun j => .int .i64 (x j))) :
    Calls Try.prog 31 #[.slice A n n, .int .i64 c] w fun e w' => e = .returned (.tuple #[.int .i64 (ifV (byP x n c) (byV x n c)), .bool (tru (byP x n c))]) ∧ Below w.heap.size w w' := by
  obtain ⟨i0, hi, hz0, hz1, hz2⟩ := info_parts Try.info64
  unfold maxLen at hn_n
  have HB0 := hide (Below.refl w.heap.size w)
  have HS0_0 := hide hs_n
  clear hs_n
  by_cases hall0 : allP x n 1 60 0 1000000000000
  rotate_left
  · have HAT0 := hide (tru_no hall0)
    have HH := hide (show ¬ byP x n c from fun h => hall0 (h.1))
    clear hall0
    go_enter Try.func31, Try.ntmps31
    go_wp2_with (first | (go_at_call 54; refine (specCents_any _ _ ).mono ?_; rintro e w' ⟨rfl, rfl⟩) | (go_at_call 55; refine (specRate_any _ _ ).mono ?_; rintro e w' ⟨rfl, rfl⟩) | (go_at_call 46; refine (specIn_any _ _ _ _ ).mono ?_; rintro e w' ⟨rfl, rfl⟩) | (go_at_call 58; go_in))
    refine (specAmts_any A n n x 60 _ (by unfold maxLen; omega) HS0_0.out).mono ?_
    rw [HAT0.out]
    rintro e W1 ⟨rfl, hbe⟩
    have HB1 : Hid (Below w.heap.size w W1) := by rw [← hbe]; exact HB0.out
    have HS0_1 : Hid (SL W1 A n (fun j => .int .i64 (x j))) := by rw [← hbe]; exact HS0_0.out
    clear hbe
    go_wp2_with (first | (go_at_call 54; refine (specCents_any _ _ ).mono ?_; rintro e w' ⟨rfl, rfl⟩) | (go_at_call 55; refine (specRate_any _ _ ).mono ?_; rintro e w' ⟨rfl, rfl⟩) | (go_at_call 46; refine (specIn_any _ _ _ _ ).mono ?_; rintro e w' ⟨rfl, rfl⟩) | (go_at_call 58; go_in))
    go_ret2
    exact ⟨ret_no HH.out, HB1.out⟩
  have HAT0 := hide (tru_yes hall0)
  have HAL0 := hide hall0
  clear hall0
  cases gg1 : inB c (1) ((n : Int))
  · have HH := hide (show ¬ byP x n c from fun h => by rw [inB_yes (h.2)] at gg1; cases gg1)
    go_enter Try.func31, Try.ntmps31
    go_wp2_with (first | (go_at_call 54; refine (specCents_any _ _ ).mono ?_; rintro e w' ⟨rfl, rfl⟩) | (go_at_call 55; refine (specRate_any _ _ ).mono ?_; rintro e w' ⟨rfl, rfl⟩) | (go_at_call 46; refine (specIn_any _ _ _ _ ).mono ?_; rintro e w' ⟨rfl, rfl⟩) | (go_at_call 58; go_in))
    refine (specAmts_any A n n x 60 _ (by unfold maxLen; omega) HS0_0.out).mono ?_
    rw [HAT0.out]
    rintro e W1 ⟨rfl, hbe⟩
    have HB1 : Hid (Below w.heap.size w W1) := by rw [← hbe]; exact HB0.out
    have HS0_1 : Hid (SL W1 A n (fun j => .int .i64 (x j))) := by rw [← hbe]; exact HS0_0.out
    clear hbe
    go_wp2_with (first | (go_at_call 54; refine (specCents_any _ _ ).mono ?_; rintro e w' ⟨rfl, rfl⟩) | (go_at_call 55; refine (specRate_any _ _ ).mono ?_; rintro e w' ⟨rfl, rfl⟩) | (go_at_call 46; refine (specIn_any _ _ _ _ ).mono ?_; rintro e w' ⟨rfl, rfl⟩) | (go_at_call 58; go_in))
    go_ret2
    exact ⟨ret_no HH.out, HB1.out⟩
  have HG1 := hide (inB_iff.1 gg1)
  have n60 := HAL0.out.1.2
  have HH := hide (show byP x n c from ⟨HAL0.out, HG1.out⟩)
  go_enter Try.func31, Try.ntmps31
  go_wp2_with (first | (go_at_call 54; refine (specCents_any _ _ ).mono ?_; rintro e w' ⟨rfl, rfl⟩) | (go_at_call 55; refine (specRate_any _ _ ).mono ?_; rintro e w' ⟨rfl, rfl⟩) | (go_at_call 46; refine (specIn_any _ _ _ _ ).mono ?_; rintro e w' ⟨rfl, rfl⟩) | (go_at_call 58; go_in))
  refine (specAmts_any A n n x 60 _ (by unfold maxLen; omega) HS0_0.out).mono ?_
  rw [HAT0.out]
  rintro e W1 ⟨rfl, hbe⟩
  have HB1 : Hid (Below w.heap.size w W1) := by rw [← hbe]; exact HB0.out
  have HS0_1 : Hid (SL W1 A n (fun j => .int .i64 (x j))) := by rw [← hbe]; exact HS0_0.out
  clear hbe
  go_wp2_with (first | (go_at_call 54; refine (specCents_any _ _ ).mono ?_; rintro e w' ⟨rfl, rfl⟩) | (go_at_call 55; refine (specRate_any _ _ ).mono ?_; rintro e w' ⟨rfl, rfl⟩) | (go_at_call 46; refine (specIn_any _ _ _ _ ).mono ?_; rintro e w' ⟨rfl, rfl⟩) | (go_at_call 58; go_in))
  clear gg1
  have hst := lit_own W1 2
  have HBS := hide ((Below.refl W1.heap.size W1).alloc (Nat.le_refl _) (.cells #[] 2))
  have HO0 := hide hst
  clear hst
  have HC := cells_a HS0_1.out
  go_loopw [6, 7, 8, 9] (fun v i _ _ wr => ∃ (p : Nat) (ys : List Int), p ≤ n ∧ i = .int .i64 p ∧ Hid (ys.length = p) ∧ Hid (ys.Perm (vlL x p)) ∧ Hid (ys.Pairwise (fun a b => b ≤ a)) ∧ wr.ownsRow W1.heap.size 2 1 v p (ys.map vI) ∧ Below W1.heap.size W1 wr) (fun _ i _ _ _ => n - (intOf i).toNat)
  case atStart => exact ⟨0, [], Nat.zero_le _, rfl, rfl, List.Perm.refl _, List.Pairwise.nil, HO0.out, HBS.out⟩
  case round =>
    obtain ⟨p, ys, hp, rfl, hyl, hyp, hyd, hown, hbel⟩ := hrel
    by_cases hlt : p < n
    · obtain ⟨b, off, rfl, hb, hc⟩ := HC.out p hlt
      have hc2 := (hbel.cell (p := ⟨b, off + p, none⟩) hb).trans hc
      have hsz := hbel.size
      obtain ⟨x0, x1⟩ := HAL0.out.2 p hlt
      obtain ⟨X, hX⟩ : ∃ X, x p = X := ⟨_, rfl⟩
      rw [hX] at hc2 x0 x1
      have HX := hide hX
      clear hc hX
      go_wp2_with (at_builtin; refine wpList_append_own _ rfl _ _ 22 rfl (W1.heap.size) 2 i0 (.int .i64 0) 1 8 Try.underlying22 hi hz0 hz1 hz2 rfl (by decide) _ _ _ rfl (by exact (hown.alloc _)) ⟨_, 0, none⟩ 1 1 [.int .i64 (X)] rfl rfl (cell_one_new _ _ _) (by intro u hu; simp at hu; subst hu; rfl) (by unfold maxLen; omega) (by omega) (by simp; omega) ?_)
      intro v' w5 hown' hgrow _
      have hb1 := (hbel.alloc (by omega) (.cells #[.int .i64 X] 2)).grown hgrow (by simp; omega) (fun j hj => (hown.lt j hj).1)
      obtain ⟨g, d, rfl⟩ := Joins.ownsRow_form hown' (by omega)
      have HB1 := hide hb1
      have HGB := hide (show W1.heap.size ≤ g from (hown'.lt g rfl).1)
      have HON := hide (show w5.ownsRow W1.heap.size 2 1 (.slice (some ⟨g, 0, none⟩) (p + 1) d) (p + 1) ((ys ++ [X]).map vI) by rw [List.map_append]; exact hown')
      have HI0 := hide (show insP (ys ++ [X]) p X by have h := ins_start (v := X) hyd.out; rwa [hyl.out] at h)
      have HP0 := hide (show (ys ++ [X]).Perm (vlL x (p + 1)) by rw [vlL_succ, HX.out]; exact hyp.out.append_right _)
      have HL0 := hide (show (ys ++ [X]).length = p + 1 by rw [List.length_append, hyl.out]; rfl)
      clear hgrow hown' hown hbel hb1 hc2
      go_wp2
      go_loopw [8, 9] (fun kk _ wr => ∃ (k : Nat) (zs : List Int), k ≤ p ∧ kk = .int .i64 k ∧ Hid (zs.length = p + 1) ∧ Hid (insP zs k X) ∧ Hid (zs.Perm (vlL x (p + 1))) ∧ wr.ownsRow W1.heap.size 2 1 (.slice (some ⟨g, 0, none⟩) (p + 1) d) (p + 1) (zs.map vI) ∧ Below W1.heap.size W1 wr) (fun kk _ _ => (intOf kk).toNat)
      case atStart => exact ⟨p, ys ++ [X], Nat.le_refl _, rfl, HL0.out, HI0.out, HP0.out, HON.out, HB1.out⟩
      case round =>
        clear HB1 HON HI0 HP0 HL0
        obtain ⟨k, zs, hk, rfl, hzl, hins, hzp, hown, hbel⟩ := hrel
        by_cases hk0 : k = 0
        · subst hk0
          have HD := hide (ins_end hins.out (.inl rfl))
          have HO1 := hide hown
          have HBEL := hide hbel
          clear hown hbel
          go_wp2
          go_quiet (fail)
          go_wp2
          go_roundw
          case rel => exact ⟨p + 1, zs, by omega, by go_num, hzl.out, hzp.out, HD.out, HO1.out, bel_q HBEL.out _⟩
          case measure => simp [intOf]; omega
        · obtain ⟨j, rfl⟩ : ∃ j, k = j + 1 := ⟨k - 1, by omega⟩
          have hzk := ins_at hins.out
          obtain ⟨u, hu⟩ : ∃ u, zs[j]? = some u := ⟨zs[j]'(by have := hzl.out; omega), List.getElem?_eq_getElem _⟩
          have gold : wr.cell? ⟨g, j + 1, none⟩ = some (.int .i64 X) := (hown.cellAt (j + 1) (by omega)).trans (map_at hzk)
          have lold : wr.cell? ⟨g, j, none⟩ = some (.int .i64 u) := (hown.cellAt j (by omega)).trans (map_at hu)
          have gfr := hown.frozenAt (j + 1)
          have lfr := hown.frozenAt j
          have hj1 : ((j + 1 : Nat) : Int) - 1 = (j : Int) := by omega
          have hjp : (j : Int) < ((p + 1 : Nat) : Int) := by omega
          have hjp2 : ((j + 1 : Nat) : Int) < ((p + 1 : Nat) : Int) := by omega
          have hjpos : (0 : Int) < ((j + 1 : Nat) : Int) := by omega
          by_cases huX : u < X
          · have HST := fun q => hide (World.ownsRow.stored (w := wr.drewN q) hown (j + 1) (.int .i64 u))
            have HSU := fun q => hide (World.ownsRow.stored (w := (wr.drewN q).setCell ⟨g, j + 1, none⟩ (.int .i64 u)) (HST q).out.1 j (.int .i64 X))
            have HN := hide (ins_step hins.out hu huX)
            have HROW := hide (show ((zs.map vI).set (j + 1) (.int .i64 u)).set j (.int .i64 X) = ((zs.set (j + 1) u).set j X).map vI by rw [map_set8, map_set8])
            have HBEL := hide hbel
            clear hown hbel hzk hu
            go_wp2
            go_quiet (fail)
            go_wp2
            go_roundw
            case rel => exact ⟨j, (zs.set (j + 1) u).set j X, by omega, by go_num, by rw [List.length_set, List.length_set]; exact hzl.out, HN.out.1, HN.out.2.trans hzp.out, by rw [← HROW.out]; exact (HSU _).out.1, ((bel_q HBEL.out _).setCell (by exact HGB.out) _).setCell (by exact HGB.out) _⟩
            case measure => first | (simp [intOf]; done) | (simp [intOf]; omega)
          · have HD := hide (ins_end hins.out (.inr ⟨u, by rw [show j + 1 - 1 = j by omega]; exact hu, by omega⟩))
            have HO1 := hide hown
            have HBEL := hide hbel
            clear hown hbel hzk hu
            go_wp2
            go_quiet (fail)
            go_wp2
            go_roundw
            case rel => exact ⟨p + 1, zs, by omega, by go_num, hzl.out, hzp.out, HD.out, HO1.out, bel_q HBEL.out _⟩
            case measure => simp [intOf]; omega
    · obtain rfl : p = n := by omega
      have HC1 := HG1.out
      obtain ⟨C, rfl⟩ : ∃ C : Nat, c = C := ⟨c.toNat, by omega⟩
      have C0 : 1 ≤ C := by omega
      have C1 : C ≤ p := by omega
      obtain ⟨g, d, rfl⟩ := Joins.ownsRow_form hown (by omega)
      have hcap := own_cap8 hown
      have hsl : SL wr (some ⟨g, 0, none⟩) p (fun j => .int .i64 (fnOf ys j)) := (OW.of_owns hown (fun j hj => map_at (fnOf_at (by have := hyl.out; omega)))).sl
      have HSL := hide (show SL wr (some ⟨g, 0, none⟩) C (fun j => .int .i64 (fnOf ys j)) by
        rcases hsl with h | ⟨b, off, h1, h2, h3⟩
        · exact .inl (by omega)
        · exact .inr ⟨b, off, h1, h2, fun j hj => h3 j (by omega)⟩)
      have HSM := hide (sum_desc (x := x) (n := p) (c := C) (f := fnOf ys) C1 hyp.out hyd.out (fun j hj => fnOf_at (by have := hyl.out; omega)))
      obtain ⟨s0, s1⟩ := byS_bd (x := x) (n := p) (c := C) HAL0.out.2 C1
      have HFB := hide (show ∀ j, j < C → -1000000000000 ≤ fnOf ys j ∧ fnOf ys j ≤ 1000000000000 from fun j hj => by
        have hm := hyp.out.mem_iff.1 (List.mem_of_getElem? (fnOf_at (ys := ys) (j := j) (by have := hyl.out; omega)))
        unfold vlL at hm
        rw [List.mem_map] at hm
        obtain ⟨i, hi, he⟩ := hm
        have := HAL0.out.2 i (List.mem_range.1 hi)
        omega)
      obtain ⟨S, hS⟩ : ∃ S, byS x p C = S := ⟨_, rfl⟩
      rw [hS] at HSM s0 s1
      have HV := hide (show S / (C : Int) = byV x p C by unfold byV; rw [Int.toNat_natCast, hS])
      have hq0 : 0 ≤ S / (C : Int) := Int.ediv_nonneg s0 (by omega)
      have hq1 : S / (C : Int) ≤ S := Int.ediv_le_self _ s0
      have hne : ¬ (C : Int) = 0 := by omega
      have s2 : S ≤ 60000000000000 := by omega
      have HBF := hide (HB1.out.trans (hbel.mono HB1.out.size))
      clear hown hbel hsl hS s1
      go_wp2_with (go_at_call 47; fail)
      refine (specSum6_any _ C _ (fnOf ys) _ (by omega) HFB.out HSL.out).mono ?_
      rw [HSM.out]
      rintro e w' ⟨rfl, rfl⟩
      go_wp2
      go_ret2
      exact ⟨ret_val HH.out HV.out, HBF.out⟩
end Go.Proofs.Ytjefpcmegkeceaa
