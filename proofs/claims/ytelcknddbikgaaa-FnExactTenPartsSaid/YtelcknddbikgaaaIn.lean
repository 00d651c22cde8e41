/- Incomes: lists within bounds, sums, lists in ascending order, fractions, by both. -/
import Derived.Test.YtelcknddbikgaaaOx
import Derived.Test.YtelcknddbikgaaaLi
import Derived.Test.YtelcknddbikgaaaP9
import Derived.Test.YtelcknddbikgaaaShf
import Derived.ArgAppend
import Derived.Sort.OwnSortedInts
import Derived.StillTailTactics
namespace Go.Proofs.Ytelcknddbikgaaa
open Go.RowKit Go.Dues
def vI9 (z : Int) : Value := .int .i64 z
theorem map_at9 {zs : List Int} {k : Nat} {v : Int} (h : zs[k]? = some v) : (zs.map vI9)[k]? = some (.int .i64 v) := by rw [List.getElem?_map, h]; rfl
theorem map_set9 (zs : List Int) (k : Nat) (v : Int) : (zs.map vI9).set k (.int .i64 v) = (zs.set k v).map vI9 := by rw [List.map_set]; rfl
theorem own_cap9 {w : World} {B n d : Nat} {e : TypeId} {G : Option Addr} {xs : List Value} (h : w.ownsRow B e 1 (.slice G n d) n xs) : n ≤ d := by
  rcases h.2 with ⟨_, h0⟩ | ⟨g, cap, cur, h1, h2, h3, h4, _⟩
  · omega
  · injection h1 with _ _ h1
    omega
theorem row_eq9 {xs : List Value} {n : Nat} {x : Nat → Int} (hl : xs.length = n) (h : ∀ j, j < n → xs[j]? = some (.int .i64 (x j))) : xs = (vlL x n).map vI9 := by
  apply List.ext_getElem?
  intro j
  by_cases hj : j < n
  · rw [h j hj, List.getElem?_map]
    unfold vlL
    rw [List.getElem?_map, List.getElem?_range hj]
    rfl
  · rw [List.getElem?_eq_none (by omega), List.getElem?_eq_none (by rw [List.length_map, vlL_len]; omega)]
theorem map_range9 (x : Nat → Int) (n : Nat) : ((List.range n).map fun j => Value.int .i64 (x j)) = (vlL x n).map vI9 := by unfold vlL; rw [List.map_map]; rfl
theorem asc_at9 {x : Nat → Int} {n j : Nat} (h : j < n) : ((ascL x n).map vI9)[j]? = some (.int .i64 (ascF x n j)) := map_at9 (ascF_at h)
/-- a row that the call made, with the list in ascending order -/
def Asc9 (w w' : World) (e : Ending) (x : Nat → Int) (n : Nat) : Prop :=
  ∃ g d, e = .returned (.slice (some ⟨g, 0, none⟩) n d) ∧ n ≤ d ∧ OW w' w.heap.size w'.heap.size (some ⟨g, 0, none⟩) n (fun j => .int .i64 (ascF x n j)) ∧ Below w.heap.size w w'
theorem asc9_of {w w' : World} {x : Nat → Int} {n g d : Nat} (h : w'.ownsRow w.heap.size 2 1 (.slice (some ⟨g, 0, none⟩) n d) n ((ascL x n).map vI9)) (hb : Below w.heap.size w w') : Asc9 w w' (.returned (.slice (some ⟨g, 0, none⟩) n d)) x n :=
  ⟨g, d, rfl, own_cap9 h, OW.of_owns h (fun j hj => asc_at9 hj), hb⟩
/-- the last ones of a row -/
theorem SL.last {w : World} {g n D c : Nat} {f : Nat → Value} (h : SL w (some ⟨g, 0, none⟩) n f) (hD : D + c = n) : SL w (some ⟨g, D, none⟩) c (fun j => f (D + j)) := by
  rcases h with h | ⟨b, off, h1, h2, h3⟩
  · exact .inl (by omega)
  · injection h1 with h1
    injection h1 with h1 h4
    subst h1 h4
    exact .inr ⟨g, D, rfl, h2, fun j hj => by have := h3 (D + j) (by omega); rwa [Nat.zero_add] at this⟩
set_option maxRecDepth 100000 in
set_option maxHeartbeats 4000000 in
theorem specIncomes_any (A : Option Addr) (n c : Nat) (x : Nat → Int) (w : World) (hn : n ≤ maxLen) (hs : SL w A n (fun j => .int .i64 (x j))) :
    Calls Try.prog 51 #[.slice A n c] w fun e w' => e = .returned (.bool (tru (allP x n 1 64 (0) 1000000000))) ∧ w = w' := by
  unfold maxLen at hn
  have HC := cells_a hs
  clear hs
  go_enter Try.func51, Try.ntmps51
  go_wp2
  go_loop [3, 6] (fun _ i => ∃ k : Nat, k ≤ n ∧ i = .int .i64 k ∧ Hid (∀ j, j < k → (0) ≤ x j ∧ x j ≤ 1000000000)) (fun _ i => n - (intOf i).toNat)
  case atStart => exact ⟨0, Nat.zero_le _, rfl, fun j hj => absurd hj (by omega)⟩
  case round =>
    obtain ⟨k, hk, rfl, hg⟩ := hrel
    by_cases hlt : k < n
    · obtain ⟨b1, off, rfl, hb1, hxk⟩ := HC.out k hlt
      cases hp : inB (x k) (0) 1000000000
      · have HT := hide (tru_no (show ¬ allP x n 1 64 (0) 1000000000 from fun h => by rw [inB_yes (h.2 k hlt)] at hp; cases hp))
        go_wp2_with (go_at_call 60; refine (specIn_any _ _ _ _ ).mono ?_; rintro e w' ⟨rfl, rfl⟩)
        go_ret
        exact ⟨retBa HT.out.symm, rfl⟩
      · have HE := hide (inB_iff.1 hp)
        go_wp2_with (go_at_call 60; refine (specIn_any _ _ _ _ ).mono ?_; rintro e w' ⟨rfl, rfl⟩)
        clear hp
        go_round
        case rel => exact ⟨k + 1, by omega, by go_num, by
          intro j hj
          by_cases hjk : j = k
          · subst hjk; exact HE.out
          · exact hg.out j (by omega)⟩
        case measure => simp [intOf]; omega
    · obtain rfl : k = n := by omega
      by_cases h1 : (1 : Int) ≤ (k : Int)
      · have h1d : decide ((1 : Int) ≤ (k : Int)) = true := decide_eq_true h1
        by_cases h2 : (k : Int) ≤ 64
        · have h2d : decide ((k : Int) ≤ 64) = true := decide_eq_true h2
          have HT := hide (tru_yes (show allP x k 1 64 (0) 1000000000 from ⟨⟨h1, h2⟩, hg.out⟩))
          go_wp2
          go_ret
          exact ⟨retBa HT.out.symm, rfl⟩
        · have h2d : decide ((k : Int) ≤ 64) = false := decide_eq_false h2
          have HT := hide (tru_no (show ¬ allP x k 1 64 (0) 1000000000 from fun h => h2 h.1.2))
          go_wp2
          go_ret
          exact ⟨retBa HT.out.symm, rfl⟩
      · have h1d : decide ((1 : Int) ≤ (k : Int)) = false := decide_eq_false h1
        have HT := hide (tru_no (show ¬ allP x k 1 64 (0) 1000000000 from fun h => h1 h.1.1))
        go_wp2
        go_ret
        exact ⟨retBa HT.out.symm, rfl⟩
theorem specAreInc_any (A : Option Addr) (n c : Nat) (x : Nat → Int) (w : World) (hn : n ≤ maxLen) (hs : SL w A n (fun j => .int .i64 (x j))) :
    Calls Try.prog 15 #[.slice A n c] w fun e w' => e = .returned (.bool (tru (allP x n 1 64 0 1000000000))) ∧ Below w.heap.size w w' := by
  have HA := hide (specIncomes_any A n c x w hn hs)
  clear hs
  go_enter Try.func15, Try.ntmps15
  go_wp2_with fail
  refine HA.out.mono ?_
  rintro e w' ⟨rfl, rfl⟩
  go_wp2
  go_ret
  exact ⟨rfl, Below.refl _ _⟩
theorem implAreInc_any (A : Option Addr) (n c : Nat) (x : Nat → Int) (w : World) (hn : n ≤ maxLen) (hs : SL w A n (fun j => .int .i64 (x j))) :
    Calls Try.prog 17 #[.slice A n c] w fun e w' => e = .returned (.bool (tru (allP x n 1 64 0 1000000000))) ∧ Below w.heap.size w w' := by
  have HA := hide (areAll_isIncome A n c x 1 64 w hn hs)
  clear hs
  go_enter Try.func17, Try.ntmps17
  go_wp2_with fail
  refine HA.out.mono ?_
  rintro e w' ⟨rfl, hb⟩
  have HB := hide hb
  clear hb
  go_wp2
  go_ret
  exact ⟨rfl, HB.out⟩
set_option maxHeartbeats 4000000 in
theorem specAll9_any (A : Option Addr) (n c : Nat) (x : Nat → Int) (w : World) (hn : n ≤ 1048576) (hx : ∀ j, j < n → -1000000000000 ≤ x j ∧ x j ≤ 1000000000000) (hs : SL w A n (fun j => .int .i64 (x j))) :
    Calls Try.prog 59 #[.slice A n c] w fun e w' => e = .returned (.int .i64 (psum x n)) ∧ w = w' := by
  have HC := cells_a hs
  have HX := hide hx
  clear hs hx
  go_enter Try.func59, Try.ntmps59
  go_wp2
  go_loop [3, 4, 7] (fun s _ i => ∃ (k : Nat) (S : Int), k ≤ n ∧ i = .int .i64 k ∧ s = .int .i64 S ∧ Hid (S = psum x k)) (fun _ _ i => n - (intOf i).toNat)
  case atStart => exact ⟨0, 0, Nat.zero_le _, rfl, rfl, rfl⟩
  case round =>
    obtain ⟨k, S, hk, rfl, rfl, hS⟩ := hrel
    by_cases hlt : k < n
    · obtain ⟨b1, off, rfl, hb1, hxk⟩ := HC.out k hlt
      obtain ⟨x0, x1⟩ := HX.out k hlt
      obtain ⟨s0, s1⟩ := psum_abs HX.out k hk
      rw [← hS.out] at s0 s1
      have s2 : -1048576000000000000 ≤ S := by omega
      have s3 : S ≤ 1048576000000000000 := by omega
      clear s0 s1
      go_wp2
      go_round
      case rel => exact ⟨k + 1, _, by omega, by go_num, rfl, by show S + x k = psum x (k + 1); rw [psum_succ, hS.out]⟩
      case measure => simp [intOf]; omega
    · have HE := hide (show S = psum x n by rw [hS.out]; rw [show k = n by omega])
      go_wp2
      go_ret
      exact ⟨reti HE.out, rfl⟩
set_option maxRecDepth 100000 in
set_option maxHeartbeats 8000000 in
theorem specSorted_any (A : Option Addr) (n c : Nat) (x : Nat → Int) (w : World) (h1 : 1 ≤ n) (hn : n ≤ 64) (hs : SL w A n (fun j => .int .i64 (x j))) :
    Calls Try.prog 54 #[.slice A n c] w fun e w' => Asc9 w w' e x n := by
  obtain ⟨i0, hi, hz0, hz1, hz2⟩ := info_parts Try.info64
  obtain ⟨b, off, rfl, hb, hc⟩ := hs.at_ (by omega)
  have HC := hide hc
  clear hs hc
  go_enter Try.func54, Try.ntmps54
  go_wp2_with (at_builtin; refine wpList_append_own _ rfl _ _ 22 rfl (w.heap.size) 2 i0 (.int .i64 0) 1 8 Try.underlying22 hi hz0 hz1 hz2 rfl (by decide) _ _ _ rfl (lit_own w _) ⟨b, off, none⟩ n c ((List.range n).map fun j => .int .i64 (x j)) rfl (by simp) (spread_c1 hb HC.out) (by intro u hu; rw [List.mem_map] at hu; obtain ⟨j, _, rfl⟩ := hu; rfl) (by unfold maxLen; omega) (by omega) (by simp) ?_)
  intro v' w1 hown hgrow _
  (try rw [Nat.zero_add] at hown)
  (try rw [List.nil_append] at hown)
  rw [map_range9] at hown
  obtain ⟨g, cp, rfl⟩ := Joins.ownsRow_form hown (by omega)
  have hbl : Below w.heap.size w w1 := ((Below.refl w.heap.size w).alloc (Nat.le_refl _) (.cells #[] 2)).grown hgrow (by simp) (fun j hj => by simp [Value.ownBlock] at hj; omega)
  have hgl := hown.lt g rfl
  have HGB := hide hgl.1
  have HB1 := hide hbl
  have HO1 := hide hown
  clear hown hgrow hbl hgl
  go_wp2
  go_loopw [4, 5, 6, 12] (fun _ _ _ i wr => ∃ (p : Nat) (ys : List Int), p ≤ n ∧ i = .int .i64 p ∧ Hid (ys.length = n) ∧ Hid (ys.Perm (vlL x n)) ∧ Hid ((ys.take p).Pairwise (fun a b => a ≤ b)) ∧ wr.ownsRow w.heap.size 2 1 (.slice (some ⟨g, 0, none⟩) n cp) n (ys.map vI9) ∧ Below w.heap.size w wr) (fun _ _ _ i _ => n - (intOf i).toNat)
  case atStart => exact ⟨0, vlL x n, Nat.zero_le _, rfl, vlL_len x n, List.Perm.refl _, List.Pairwise.nil, HO1.out, HB1.out⟩
  case round =>
    clear HO1 HB1
    obtain ⟨p, ys, hp, rfl, hyl, hyp, hyd, hown, hbel⟩ := hrel
    by_cases hlt : p < n
    · obtain ⟨X, hX⟩ : ∃ X, ys[p]? = some X := ⟨ys[p]'(by have := hyl.out; omega), List.getElem?_eq_getElem _⟩
      have HI0 := hide (ina_start hyd.out hX)
      have HON := hide hown
      have HB1 := hide hbel
      clear hown hbel hX
      have hpi : (p : Int) < (n : Int) := by omega
      go_wp2
      go_loopw [5, 6] (fun kk _ wr => ∃ (k : Nat) (zs : List Int), k ≤ p ∧ kk = .int .i64 k ∧ Hid (zs.length = n) ∧ Hid (inaP zs k p X) ∧ Hid (zs.Perm (vlL x n)) ∧ wr.ownsRow w.heap.size 2 1 (.slice (some ⟨g, 0, none⟩) n cp) n (zs.map vI9) ∧ Below w.heap.size w wr) (fun kk _ _ => (intOf kk).toNat)
      case atStart => exact ⟨p, ys, Nat.le_refl _, rfl, hyl, HI0.out, hyp.out, HON.out, HB1.out⟩
      case round =>
        clear HB1 HON HI0 hyp hyd hyl
        obtain ⟨k, zs, hk, rfl, hzl, hins, hzp, hown, hbel⟩ := hrel
        by_cases hk0 : k = 0
        · subst hk0
          have HD := hide (ina_end hins.out (.inl rfl))
          have HO1 := hide hown
          have HBEL := hide hbel
          clear hown hbel
          go_wp2
          go_quiet (fail)
          go_wp2
          go_roundw
          case rel => exact ⟨p + 1, zs, by omega, by go_num, hzl.out, hzp.out, HD.out, HO1.out, bel_q HBEL.out _⟩
          case measure => simp [intOf]; omega
        · obtain ⟨j, rfl⟩ : ∃ j, k = j + 1 := ⟨k - 1, by omega⟩
          have hzk := ina_at hins.out
          obtain ⟨u, hu⟩ : ∃ u, zs[j]? = some u := ⟨zs[j]'(by have := hzl.out; omega), List.getElem?_eq_getElem _⟩
          have gold : wr.cell? ⟨g, j + 1, none⟩ = some (.int .i64 X) := (hown.cellAt (j + 1) (by omega)).trans (map_at9 hzk)
          have lold : wr.cell? ⟨g, j, none⟩ = some (.int .i64 u) := (hown.cellAt j (by omega)).trans (map_at9 hu)
          have gfr := hown.frozenAt (j + 1)
          have lfr := hown.frozenAt j
          have hj1 : ((j + 1 : Nat) : Int) - 1 = (j : Int) := by omega
          have hjp : (j : Int) < (n : Int) := by omega
          have hjp2 : ((j + 1 : Nat) : Int) < (n : Int) := by omega
          have hjpos : (0 : Int) < ((j + 1 : Nat) : Int) := by omega
          by_cases huX : X < u
          · have HST := fun q => hide (World.ownsRow.stored (w := wr.drewN q) hown (j + 1) (.int .i64 u))
            have HSU := fun q => hide (World.ownsRow.stored (w := (wr.drewN q).setCell ⟨g, j + 1, none⟩ (.int .i64 u)) (HST q).out.1 j (.int .i64 X))
            have HN := hide (ina_step hins.out hu huX)
            have HROW := hide (show ((zs.map vI9).set (j + 1) (.int .i64 u)).set j (.int .i64 X) = ((zs.set (j + 1) u).set j X).map vI9 by rw [map_set9, map_set9])
            have HBEL := hide hbel
            clear hown hbel hzk hu
            go_wp2
            go_quiet (fail)
            go_wp2
            go_roundw
            case rel => exact ⟨j, (zs.set (j + 1) u).set j X, by omega, by go_num, by rw [List.length_set, List.length_set]; exact hzl.out, HN.out.1, HN.out.2.trans hzp.out, by rw [← HROW.out]; exact (HSU _).out.1, ((bel_q HBEL.out _).setCell (by exact HGB.out) _).setCell (by exact HGB.out) _⟩
            case measure => first | (simp [intOf]; done) | (simp [intOf]; omega)
          · have HD := hide (ina_end hins.out (.inr ⟨u, by rw [show j + 1 - 1 = j by omega]; exact hu, by omega⟩))
            have HO1 := hide hown
            have HBEL := hide hbel
            clear hown hbel hzk hu
            go_wp2
            go_quiet (fail)
            go_wp2
            go_roundw
            case rel => exact ⟨p + 1, zs, by omega, by go_num, hzl.out, hzp.out, HD.out, HO1.out, bel_q HBEL.out _⟩
            case measure => simp [intOf]; omega
    · obtain rfl : p = n := by omega
      have HY := hide (asc_eq hyp.out (by have := hyd.out; rwa [List.take_of_length_le (by rw [hyl.out]; exact Nat.le_refl _)] at this))
      have HBEL := hide hbel
      rw [HY.out] at hown
      have HO1 := hide hown
      clear hown hbel
      go_wp2
      go_ret
      exact asc9_of HO1.out HBEL.out
theorem sort9_any (g cp n : Nat) (zs : List Int) (W : World) (B : Nat) (hl : zs.length = n) (hn : n ≤ 1048576) (h : W.ownsRow B 2 1 (.slice (some ⟨g, 0, none⟩) n cp) n (zs.map vI9)) :
    Calls Try.prog 88 #[.slice (some ⟨g, 0, none⟩) n cp] W fun e w' => e = .returned (.tuple #[]) ∧ w'.ownsRow B 2 1 (.slice (some ⟨g, 0, none⟩) n cp) n ((zs.mergeSort fun x y => decide (x ≤ y)).map vI9) ∧ W.grownBy w' (some g) := by
  subst hl
  rcases h.2 with ⟨h0, _⟩ | ⟨g', cap, cur, h1, h2, h3, h4, h5, h6, h7⟩
  · cases h0
  · simp only [Value.slice.injEq, Option.some.injEq, Addr.mk.injEq, and_true, true_and] at h1
    obtain ⟨rfl, rfl⟩ := h1
    rw [Nat.mul_one] at h7
    refine (Go.Proofs.Try.slices_Sort_int g 0 cp zs W (holds_of_blockI h3 h7) (Array.getElem?_eq_some_iff.1 h3).1 (by omega)).mono ?_
    rintro e w' ⟨rfl, q, os, rfl⟩
    exact ⟨rfl, ownsRow_sortedI (List.length_mergeSort _) h2 h3 h4 h5 h6, grownBy_sortedI _⟩
theorem spread_c0 {w : World} {b off n : Nat} {x : Nat → Int} (HC : ∀ j, j < n → w.cell? ⟨b, off + j, none⟩ = some (.int .i64 (x j))) : ∀ (j : Nat) (u : Value), ((List.range n).map fun j => Value.int .i64 (x j))[j]? = some u → w.cell? ((⟨b, off, none⟩ : Addr).add j) = some u := by
  intro j u hj
  rw [List.getElem?_map] at hj
  have hjn : j < n := by
    rcases Nat.lt_or_ge j n with h | h
    · exact h
    · rw [List.getElem?_eq_none (by simpa using h)] at hj; cases hj
  rw [List.getElem?_range hjn] at hj
  simp at hj
  subst hj
  have ha : (⟨b, off, none⟩ : Addr).add j = ⟨b, off + j, none⟩ := by
    unfold Addr.add
    split
    · rename_i h; subst h; rfl
    · rfl
  rw [ha]
  exact HC j hjn
set_option maxHeartbeats 4000000 in
theorem implSorted_any (A : Option Addr) (n c : Nat) (x : Nat → Int) (w : World) (h1 : 1 ≤ n) (hn : n ≤ 64) (hs : SL w A n (fun j => .int .i64 (x j))) :
    Calls Try.prog 55 #[.slice A n c] w fun e w' => Asc9 w w' e x n := by
  obtain ⟨i0, hi, hz0, hz1, hz2⟩ := info_parts Try.info64
  obtain ⟨b, off, rfl, hb, hc⟩ := hs.at_ (by omega)
  have HC := hide hc
  clear hs hc
  go_enter Try.func55, Try.ntmps55
  go_wp2_with (at_builtin; refine wpList_append_grows _ rfl _ _ 22 rfl 2 i0 (.int .i64 0) 1 8 Try.underlying22 hi hz0 hz1 hz2 rfl (by decide) _ 0 0 [] (by rfl) (fun h => by cases h) (by rfl) (fun _ _ j u hj => by cases hj) ⟨b, off, none⟩ n c ((List.range n).map fun j => .int .i64 (x j)) (by rfl) (by simp) (spread_c0 HC.out) (by intro u hu; rw [List.mem_map] at hu; obtain ⟨j, _, rfl⟩ := hu; rfl) (by omega) (by unfold maxLen; omega) (by omega) ?_)
  intro v' w1 hown hgrow
  (try rw [Nat.zero_add] at hown)
  (try rw [List.nil_append] at hown)
  rw [map_range9] at hown
  obtain ⟨g, cp, rfl⟩ := Joins.ownsRow_form hown (by omega)
  have hbl : Below w.heap.size w w1 := (Below.refl w.heap.size w).grown hgrow (Nat.le_refl _) (fun j hj => by cases hj)
  have hgl := (hown.lt g rfl)
  have HSO := hide (sort9_any g cp n (vlL x n) w1 _ (vlL_len x n) (by omega) hown)
  have HBC := hide hbl
  clear hown hgrow hbl
  go_wp2_with (go_at_call 88; fail)
  refine HSO.out.mono ?_
  rintro e w2 ⟨rfl, hown, hgrow⟩
  have HO := hide (show w2.ownsRow w.heap.size 2 1 (.slice (some ⟨g, 0, none⟩) n cp) n ((ascL x n).map vI9) from hown)
  have HBF := hide (HBC.out.grown hgrow (by have := HBC.out.size; omega) (fun j hj => by injection hj with hj; omega))
  clear hown hgrow hgl
  go_wp2
  go_ret
  exact asc9_of HO.out HBF.out
theorem specFrac_any (a b : Int) (w : World) (ha : 0 ≤ a ∧ a ≤ 9000000000000000000) (hb : 1 ≤ b ∧ b ≤ 9000000000000000000) :
    Calls Try.prog 61 #[.int .i64 a, .int .i64 b] w fun e w' => e = .returned (.tuple #[.int .i64 (a / gcd9 a b), .int .i64 (b / gcd9 a b)]) ∧ Below w.heap.size w w' := by
  obtain ⟨p, rfl⟩ := Int.eq_ofNat_of_zero_le ha.1
  obtain ⟨q, rfl⟩ := Int.eq_ofNat_of_zero_le (show 0 ≤ b by omega)
  have hp : p ≤ 9000000000000000000 := by omega
  have hq : q ≤ 9000000000000000000 := by omega
  have hgp := gcd9_bd (a := (p : Int)) hb.1
  have HG0 := hide (show ((Nat.gcd p q : Nat) : Int) = gcd9 p q from rfl)
  have HGP := hide hgp
  have hq1 : 1 ≤ q := by omega
  clear ha hb hgp
  go_enter Try.func61, Try.ntmps61
  go_wp2
  go_loop [6, 7, 8] (fun a b _ => ∃ s t : Nat, s ≤ 9000000000000000000 ∧ t ≤ 9000000000000000000 ∧ a = .int .i64 s ∧ b = .int .i64 t ∧ Hid (Nat.gcd s t = Nat.gcd p q)) (fun _ b _ => (intOf b).toNat)
  case atStart => exact ⟨p, q, hp, hq, rfl, rfl, rfl⟩
  case round =>
    obtain ⟨s, t, hs, ht, rfl, rfl, hg⟩ := hrel
    by_cases h : t = 0
    · subst h
      have hne : ((((0 : Nat) : Int)) != 0) = false := by simp
      have HG := hide (show (s : Int) = gcd9 p q by rw [← HG0.out, ← hg.out, Nat.gcd_zero_right])
      have hsz : ¬ (s : Int) = 0 := by rw [HG.out]; have := HGP.out; omega
      have hq0 : 0 ≤ (p : Int) / (s : Int) ∧ (p : Int) / (s : Int) ≤ p := ⟨Int.ediv_nonneg (by omega) (by omega), Int.ediv_le_self _ (by omega)⟩
      have hq2 : 0 ≤ (q : Int) / (s : Int) ∧ (q : Int) / (s : Int) ≤ q := ⟨Int.ediv_nonneg (by omega) (by omega), Int.ediv_le_self _ (by omega)⟩
      obtain ⟨h00, h01⟩ := hq0
      obtain ⟨h10, h11⟩ := hq2
      go_wp2
      go_quiet (fail)
      go_wp2
      go_ret2
      exact ⟨by rw [HG.out]; rfl, bel_q (Below.refl _ _) _⟩
    · have hne : ((t : Int) != 0) = true := by simp; omega
      have hnz : ¬ (t : Int) = 0 := by omega
      have HL := hide (Nat.mod_lt s (show 0 < t by omega))
      have HG := hide (show Nat.gcd t (s % t) = Nat.gcd p q by rw [← hg.out, Nat.gcd_comm s t, Nat.gcd_rec t s, Nat.gcd_comm])
      have HM := hide (show (s : Int) % (t : Int) = ((s % t : Nat) : Int) from (Int.natCast_emod s t).symm)
      go_wp2
      go_round
      case rel => exact ⟨t, s % t, ht, by have := HL.out; omega, rfl, (by rw [HM.out]), HG⟩
      case measure =>
        simp [intOf]
        have h1 := HL.out
        have h2 := HM.out
        omega
theorem implGcd9_any (p q : Nat) (w : World) (hp : p ≤ 9000000000000000000) (hq : q ≤ 9000000000000000000) :
    Calls Try.prog 90 #[.int .i64 p, .int .i64 q] w fun e w' => e = .returned (.int .i64 (Nat.gcd p q : Nat)) ∧ w = w' := by
  go_enter Try.func90, Try.ntmps90
  go_wp2
  go_loop [0, 1] (fun a b => ∃ s t : Nat, s ≤ 9000000000000000000 ∧ t ≤ 9000000000000000000 ∧ a = .int .i64 s ∧ b = .int .i64 t ∧ Hid (Nat.gcd s t = Nat.gcd p q)) (fun a _ => (intOf a).toNat)
  case atStart => exact ⟨p, q, hp, hq, rfl, rfl, rfl⟩
  case round =>
    obtain ⟨s, t, hs, ht, rfl, rfl, hg⟩ := hrel
    by_cases h : s = 0
    · subst h
      have HG := hide (show (t : Int) = (Nat.gcd p q : Nat) by rw [← hg.out, Nat.gcd_zero_left])
      go_wp2
      go_ret
      exact ⟨reti HG.out, rfl⟩
    · have hpos : (0 : Int) < (s : Int) := by omega
      have hnz : ¬ (s : Int) = 0 := by omega
      have HL := hide (Nat.mod_lt t (show 0 < s by omega))
      have HG := hide (show Nat.gcd (t % s) s = Nat.gcd p q by rw [← hg.out, Nat.gcd_rec s t])
      have HM := hide (show (t : Int) % (s : Int) = ((t % s : Nat) : Int) from (Int.natCast_emod t s).symm)
      go_wp2
      go_round
      case rel => exact ⟨t % s, s, by have := HL.out; omega, hs, (by rw [HM.out]), rfl, HG⟩
      case measure =>
        simp [intOf]
        have h1 := HL.out
        have h2 := HM.out
        omega
set_option maxRecDepth 100000 in
set_option maxHeartbeats 2000000 in
theorem implFrac_any (a b : Int) (w : World) (ha : 0 ≤ a ∧ a ≤ 9000000000000000000) (hb : 1 ≤ b ∧ b ≤ 9000000000000000000) :
    Calls Try.prog 63 #[.int .i64 a, .int .i64 b] w fun e w' => e = .returned (.agg #[.int .i64 (a / gcd9 a b), .int .i64 (b / gcd9 a b)]) ∧ Below w.heap.size w w' := by
  obtain ⟨p, rfl⟩ := Int.eq_ofNat_of_zero_le ha.1
  obtain ⟨q, rfl⟩ := Int.eq_ofNat_of_zero_le (show 0 ≤ b by omega)
  have hp : p ≤ 9000000000000000000 := by omega
  have hq : q ≤ 9000000000000000000 := by omega
  obtain ⟨g0, g1⟩ := gcd9_bd (a := (p : Int)) hb.1
  have HG0 := hide (show ((Nat.gcd p q : Nat) : Int) = gcd9 p q from rfl)
  have hgz : ¬ gcd9 (p : Int) q = 0 := by omega
  have hq0 : 0 ≤ (p : Int) / gcd9 p q ∧ (p : Int) / gcd9 p q ≤ p := ⟨Int.ediv_nonneg (by omega) (by omega), Int.ediv_le_self _ (by omega)⟩
  have hq2 : 0 ≤ (q : Int) / gcd9 p q ∧ (q : Int) / gcd9 p q ≤ q := ⟨Int.ediv_nonneg (by omega) (by omega), Int.ediv_le_self _ (by omega)⟩
  obtain ⟨h00, h01⟩ := hq0
  obtain ⟨h10, h11⟩ := hq2
  obtain ⟨G, hG⟩ : ∃ G, gcd9 (p : Int) q = G := ⟨_, rfl⟩
  rw [hG] at g0 g1 HG0 hgz h00 h01 h10 h11 ⊢
  obtain ⟨X, hX⟩ : ∃ X, (p : Int) / G = X := ⟨_, rfl⟩
  obtain ⟨Y, hY⟩ : ∃ Y, (q : Int) / G = Y := ⟨_, rfl⟩
  obtain ⟨W, hW⟩ : ∃ u, u = w.alloc (.cells #[.int .i64 0, .int .i64 0] 61) := ⟨_, rfl⟩
  have HBW : Hid (Below w.heap.size w W) := by rw [hW]; exact (Below.refl w.heap.size w).alloc (Nat.le_refl _) _
  have HBX : Hid (W.heap[w.heap.size]? = some (.cells #[.int .i64 0, .int .i64 0] 61)) := by rw [hW]; exact blocks1 w _
  obtain ⟨V, hV⟩ : ∃ u, u = W.drew := ⟨_, rfl⟩
  have HVX : Hid (V.heap[w.heap.size]? = some (.cells #[.int .i64 0, .int .i64 0] 61)) := by rw [hV]; exact HBX.out
  have HVB : Hid (Below w.heap.size w V) := by rw [hV]; exact HBW.out.drew
  have HWW := hide hW
  have HVV := hide hV
  clear ha hb hG hW hV
  have k0 := Joins.cell_of_block HVX.out 0
  have k1 := Joins.cell_of_block HVX.out 1
  have u0 := Joins.unfrozen_of_block HVX.out 0
  have u1 := Joins.unfrozen_of_block HVX.out 1
  simp at k0 k1 u0 u1
  go_enter Try.func63, Try.ntmps63
  go_wp2_with fail
  rw [← HWW.out]
  refine (implGcd9_any p q _ hp hq).mono ?_
  rw [HG0.out]
  rintro e w' ⟨rfl, rfl⟩
  go_wp2_with fail
  go_still_tail 7, (by kernel_rfl)
  change wpList _ _ _ _ _ W.drew
  rw [← HVV.out]
  go_wp2
  have R := Joins.block_setCell (Joins.block_setCell HVX.out (i := 0) (.int .i64 X)) (i := 1) (.int .i64 Y)
  have k3 := Joins.cell_of_block R 0
  have k4 := Joins.cell_of_block R 1
  simp at k3 k4
  refine bodyPost_ret (v := .agg #[.int .i64 X, .int .i64 Y]) (by simp [results, Try.results63, go_sem, k3, k4]) rfl ⟨by rw [hX, hY], ?_⟩
  exact (HVB.out.setCell (Nat.le_refl _) _).setCell (Nat.le_refl _) _
end Go.Proofs.Ytelcknddbikgaaa
