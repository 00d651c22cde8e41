/- TrimScale, by both. -/
import Derived.Test.YtdiilihodhmbgaaMs
import Derived.Test.YtdiilihodhmbgaaVi
import Derived.Test.YtdiilihodhmbgaaG1
import Derived.Test.YtdiilihodhmbgaaTwo
import Derived.Test.YtdiilihodhmbgaaSp
import Derived.RangeFuncBox
import Derived.Deep.RegionLaw
import Derived.Deep.RegionHeld3
import Derived.Deep.AppendLies
namespace Go.Proofs.Ytdiilihodhmbgaa
open Go.RowKit Go.Dues
theorem grown_set2 (W : World) (p : Addr) (v : Value) : W.grownBy (W.setCell p v) (some p.block) :=
  ⟨rfl, rfl, rfl, (KeepsWalks.setCell W _ v).size, fun k _ hk => Below.heap_setCell _ _ _ k (fun e => hk (by rw [e]))⟩
def kpL (y : Nat → Int) : Nat → List Nat
  | 0 => []
  | k + 1 => if k = 0 ∨ y k ≠ y (k - 1) then kpL y k ++ [k] else kpL y k
theorem kpL_len (y : Nat → Int) : ∀ k, (kpL y k).length ≤ k
  | 0 => Nat.le_refl _
  | k + 1 => by
    have := kpL_len y k
    show (if k = 0 ∨ y k ≠ y (k - 1) then kpL y k ++ [k] else kpL y k).length ≤ k + 1
    split
    · rw [List.length_append, List.length_singleton]; omega
    · omega
theorem kpL_lt (y : Nat → Int) : ∀ k j, j ∈ kpL y k → j < k
  | 0, _, h => by cases h
  | k + 1, j, h => by
    have h2 : j ∈ (if k = 0 ∨ y k ≠ y (k - 1) then kpL y k ++ [k] else kpL y k) := h
    split at h2
    · rcases List.mem_append.1 h2 with h3 | h3
      · have := kpL_lt y k j h3; omega
      · simp at h3; omega
    · have := kpL_lt y k j h2; omega
def kv (x : Nat → Int) (l : List Nat) (j : Nat) : Int := x (l[j]?.getD 0)
theorem kv_left {x : Nat → Int} {l l' : List Nat} {j : Nat} (h : j < l.length) : kv x (l ++ l') j = kv x l j := by unfold kv; rw [List.getElem?_append_left h]
theorem kv_new (x : Nat → Int) (l : List Nat) (k : Nat) : kv x (l ++ [k]) l.length = x k := by unfold kv; rw [List.getElem?_append_right (Nat.le_refl _), Nat.sub_self]; rfl
/-- a scale and yes, if p holds; the empty one and no, if not -/
def GaveT (w w' : World) (e : Ending) (p : Prop) (n n' : Nat) (x y : Nat → Int) : Prop :=
  ∃ G d G' d', e = .returned (.tuple #[.agg #[.slice G (lenV p n) d, .slice G' (lenV p n') d'], .bool (tru p)]) ∧ OW2 w' w.heap.size w'.heap.size G (lenV p n) x G' (lenV p n') y ∧ Below w.heap.size w w'
theorem gavet_no {w w' : World} {p : Prop} {n n' : Nat} {x y : Nat → Int} (h : ¬ p) (hb : Below w.heap.size w w') : GaveT w w' (.returned (.tuple #[.agg #[.slice none 0 0, .slice none 0 0], .bool false])) p n n' x y := by
  refine ⟨none, 0, none, 0, ?_, ?_, hb⟩
  · rw [lenV_no h, lenV_no h, tru_no h]
  · rw [lenV_no h, lenV_no h]; exact OW2.none_ _ _ _ _ _
theorem gavet_yes {w w' : World} {p : Prop} {n n' d d' : Nat} {x y : Nat → Int} {G G' : Option Addr} (h : p) (ho : OW2 w' w.heap.size w'.heap.size G n x G' n' y) (hb : Below w.heap.size w w') : GaveT w w' (.returned (.tuple #[.agg #[.slice G n d, .slice G' n' d'], .bool true])) p n n' x y := by
  refine ⟨G, d, G', d', ?_, ?_, hb⟩
  · rw [lenV_yes h, lenV_yes h, tru_yes h]
  · rw [lenV_yes h, lenV_yes h]; exact ho
set_option maxRecDepth 100000 in
set_option maxHeartbeats 4000000 in
theorem implTrim_any (A A' : Option Addr) (n c n' c' : Nat) (x y : Nat → Int) (w : World) (hn : n ≤ maxLen) (hn' : n' ≤ maxLen) (hs : SL w A n (fun j => .int .i64 (x j))) (hs' : SL w A' n' (fun j => .int .i64 (y j))) :
    Calls Try.prog 18 #[.agg #[.slice A n c, .slice A' n' c']] w fun e w' => GaveT w w' e (Val x y n n') (kpL y n).length (kpL y n).length (kv x (kpL y n)) (kv y (kpL y n)) := by
  obtain ⟨i0, hi, hz0, hz1, hz2⟩ := info_parts Try.info64
  obtain ⟨w0, hw0⟩ : ∃ u : World, u = (w.alloc (.cells #[.slice A n c, .slice A' n' c'] 26)).alloc (.cells #[.slice none 0 0, .slice none 0 0] 26) := ⟨_, rfl⟩
  have hB0 : Below w.heap.size w w0 := by rw [hw0]; exact ((Below.refl w.heap.size w).alloc (Nat.le_refl _) _).alloc (by simp) _
  have hX0 : w0.heap[w.heap.size]? = some (.cells #[.slice A n c, .slice A' n' c'] 26 (0, 0)) := by rw [hw0]; exact (blocks2 w _ _).1
  have hR0 : w0.heap[w.heap.size + 1]? = some (.cells #[.slice none 0 0, .slice none 0 0] 26 (0, 0)) := by rw [hw0]; exact (blocks2 w _ _).2
  have hz00 : w0.heap.size = w.heap.size + 2 := by rw [hw0]; simp
  have HV := hide (implValid_any A A' n c n' c' x y w0 hn hn' (hs.below hB0) (hs'.below hB0))
  have HSA := hide (hs.below hB0)
  have HSB := hide (hs'.below hB0)
  have HB0 := hide hB0
  have HX0 := hide hX0
  have HR0 := hide hR0
  have HW0 := hide hw0
  have k0 := Joins.cell_of_block hX0 0
  have k1 := Joins.cell_of_block hX0 1
  simp at k0 k1
  clear hs hs' hB0 hX0 hR0 hw0
  by_cases hv : Val x y n n'
  rotate_left
  · have HT := hide (tru_no hv)
    have HH := hide hv
    clear hv
    go_enter Try.func18, Try.ntmps18
    go_wp2_with fail
    rw [← HW0.out]
    refine HV.out.mono ?_
    rw [HT.out]
    rintro e w1 ⟨rfl, hb1⟩
    have hR1 : w1.heap[w.heap.size + 1]? = some (.cells #[.slice none 0 0, .slice none 0 0] 26 (0, 0)) := blk_below hb1 (by omega) HR0.out
    have k2 := Joins.cell_of_block hR1 0
    have k3 := Joins.cell_of_block hR1 1
    have f0 := Joins.unfrozen_of_block hR1 0
    have f1 := Joins.unfrozen_of_block hR1 1
    simp at k2 k3 f0 f1
    have HB1 := hide (HB0.out.trans (hb1.mono (by omega)))
    clear hb1 hR1
    go_wp2
    refine bodyPost_ret (v := .tuple #[.agg #[.slice none 0 0, .slice none 0 0], .bool false]) (by simp [results, Try.results18, go_sem, k2, k3]) rfl (gavet_no HH.out ?_)
    exact (HB1.out.setCell (by simp) _).setCell (by simp) _
  have HT := hide (tru_yes hv)
  have HH := hide hv
  obtain ⟨hnn, hup, hyb⟩ := hv
  have n1 := hup.1
  have n8 := hup.2.1
  subst hnn
  clear hup hyb
  go_enter Try.func18, Try.ntmps18
  go_wp2_with fail
  rw [← HW0.out]
  refine HV.out.mono ?_
  rw [HT.out]
  rintro e w1 ⟨rfl, hb1⟩
  have hX1 : w1.heap[w.heap.size]? = some (.cells #[.slice A n' c, .slice A' n' c'] 26 (0, 0)) := blk_below hb1 (by omega) HX0.out
  have hR1 : w1.heap[w.heap.size + 1]? = some (.cells #[.slice none 0 0, .slice none 0 0] 26 (0, 0)) := blk_below hb1 (by omega) HR0.out
  have hw1 : w.heap.size + 2 ≤ w1.heap.size := by have := hb1.size; omega
  have HB1 := hide (HB0.out.trans (hb1.mono (by omega)))
  have HCA := cells_a (HSA.out.below hb1)
  have HCB := cells_a (HSB.out.below hb1)
  obtain ⟨wL, hwL⟩ : ∃ u : World, u = w1.alloc (.cells #[.slice none 0 0, .slice none 0 0] 26) := ⟨_, rfl⟩
  have hTL : wL.heap[w1.heap.size]? = some (.cells #[.slice none 0 0, .slice none 0 0] 26 (0, 0)) := by rw [hwL]; exact blocks1 w1 _
  have hBL : Below w1.heap.size w1 wL := by rw [hwL]; exact (Below.refl _ w1).alloc (Nat.le_refl _) _
  have hzL : wL.heap.size = w1.heap.size + 1 := by rw [hwL]; simp
  have k2 := Joins.cell_of_block hX1 0
  have k3 := Joins.cell_of_block hX1 1
  simp at k2 k3
  have k2' : (w1.alloc (.cells #[.slice none 0 0, .slice none 0 0] 26)).cell? ⟨w.heap.size, 0, none⟩ = some (.slice A n' c) := by rw [World.cell?_alloc_lt _ _ _ (by show w.heap.size < _; omega)]; exact k2
  have k3' : (w1.alloc (.cells #[.slice none 0 0, .slice none 0 0] 26)).cell? ⟨w.heap.size, 1, none⟩ = some (.slice A' n' c') := by rw [World.cell?_alloc_lt _ _ _ (by show w.heap.size < _; omega)]; exact k3
  have HX1 := hide hX1
  have HR1 := hide hR1
  have HTL := hide hTL
  have HBL := hide hBL
  have HWL := hide hwL
  clear hb1 hX1 hR1 hTL hBL hwL HV HX0 HR0 HB0 HW0 k0 k1
  go_wp2
  rw [← HWL.out]
  go_loopw [5, 6, 14] (fun _ _ i wr => ∃ (k : Nat) (xs ys : List Value) (GA GB : Option Addr) (dA dB : Nat), k ≤ n' ∧ i = .int .i64 k ∧ Hid (wr.heap[w1.heap.size]? = some (.cells #[.slice GA (kpL y k).length dA, .slice GB (kpL y k).length dB] 26 (0, 0))) ∧
      wr.ownsRow (w1.heap.size + 1) 2 1 (.slice GA (kpL y k).length dA) (kpL y k).length xs ∧ wr.ownsRow (w1.heap.size + 1) 2 1 (.slice GB (kpL y k).length dB) (kpL y k).length ys ∧ Hid (Apart (Value.slice GA (kpL y k).length dA).ownBlock (Value.slice GB (kpL y k).length dB).ownBlock) ∧
      Hid (∀ j, j < (kpL y k).length → xs[j]? = some (.int .i64 (kv x (kpL y k) j))) ∧ Hid (∀ j, j < (kpL y k).length → ys[j]? = some (.int .i64 (kv y (kpL y k) j))) ∧ Below w1.heap.size w1 wr ∧ w1.heap.size + 1 ≤ wr.heap.size) (fun _ _ i _ => n' - (intOf i).toNat)
  case atStart => exact ⟨0, [], [], none, none, 0, 0, Nat.zero_le _, rfl, HTL.out, World.ownsRow_nil _ _ _ _, World.ownsRow_nil _ _ _ _, .inl rfl, fun j hj => absurd hj (by show ¬ j < 0; omega), fun j hj => absurd hj (by show ¬ j < 0; omega), HBL.out, by omega⟩
  case round =>
    obtain ⟨k, xs, ys, GA, GB, dA, dB, hk, rfl, hT, hownA, hownB, hap, hxs, hys, hbel, hszT⟩ := hrel
    by_cases hlt : k < n'
    · have hki : (k : Int) < (n' : Int) := by omega
      obtain ⟨ba, offa, hAe, hba, hcka⟩ := HCA.out k hlt
      obtain ⟨bb, offb, hBe, hbb, hckb⟩ := HCB.out k hlt
      subst hAe hBe
      have hca := (hbel.cell (p := ⟨ba, offa + k, none⟩) hba).trans hcka
      have hcb := (hbel.cell (p := ⟨bb, offb + k, none⟩) hbb).trans hckb
      have g0 := Joins.cell_of_block hT.out 0
      have g1 := Joins.cell_of_block hT.out 1
      have q0 := Joins.cell_of_block (blk_below hbel (by omega) HX1.out) 0
      have q1 := Joins.cell_of_block (blk_below hbel (by omega) HX1.out) 1
      simp at g0 g1
      simp at q0 q1
      have HBEL := hide hbel
      clear hbel hcka hckb
      by_cases hz : k = 0
      · have hkz : ((k : Int) == 0) = true := by rw [beq_iff_eq]; omega
        have HKP := hide (show kpL y (k + 1) = kpL y k ++ [k] from if_pos (.inl hz))
        clear hz
        obtain ⟨x0, hx0⟩ : ∃ v : Int, x k = v := ⟨_, rfl⟩
        rw [hx0] at hca
        have HX0 := hide hx0
        have ag : ∀ g, g < w1.heap.size + 1 → (Value.slice GA (kpL y k).length dA).ownBlock ≠ some g := fun g hg e => by have := (hownA.lt g e).1; omega
        have a0 := ag ba (by omega)
        have a1 := ag w.heap.size (by omega)
        have a2 := ag w1.heap.size (by omega)
        have hl0 : ba < wr.heap.size := by omega
        have hl1 : w.heap.size < wr.heap.size := by omega
        have hl2 : w1.heap.size < wr.heap.size := by omega
        have hkl := kpL_len y k
        have hn63 : (kpL y k).length + 1 ≤ maxLen := by unfold maxLen; omega
        have hby : ((kpL y k).length + 1) * 8 ≤ 140737488355328 := by omega
        have fz := Joins.unfrozen_of_block hT.out 0
        have hfa : ∀ o, (wr.alloc o).drew.frozen? ⟨w1.heap.size, 0, none⟩ = false := fun o => Joins.unfrozen_of_block (w := (wr.alloc o).drew) ((Below.heap_alloc wr o w1.heap.size hl2).trans hT.out) 0
        have HOA := hide hownA
        have HOB := hide hownB
        clear ag hownB hx0
        go_wp2
        go_region_law ((refine step_append_lies _ (by rfl) _ _ _ (by rfl) (w1.heap.size + 1) 2 i0 _ 1 8 Try.underlying22 hi hz0 hz1 hz2 rfl (by omega) (.slice GA (kpL y k).length dA) (kpL y k).length xs (by rfl) ((hownA.alloc _).drew) ⟨wr.heap.size, 0, none⟩ 1 1 [.int .i64 x0] (by rfl) (by rfl) (World.news_of_block (cs := #[.int .i64 x0]) (t := 2) (fr := (0, 0)) (heap_alloc_new wr _)) (by simp [Value.oneCell']) (by omega) hn63 hby (by simp; omega) (wr.heap.size + 1) (by simp) ?_; intro gg cap w5 hown1 hgrow hat hlt5; have ht5 := (hgrow.block w1.heap.size (by simp; omega) (Ne.symm a2)).trans ((Below.heap_alloc wr _ w1.heap.size hl2).trans hT.out); have c50 := Joins.cell_of_block ht5 0; have f50 := Joins.unfrozen_of_block ht5 0; simp at c50)) 
        all_goals (
          have hgT : ¬ gg = w1.heap.size := by have := (hown1.lt gg rfl).1; omega
          have hrB := World.ownsRow.kept (w := (wr.alloc (.cells #[.int .i64 x0] 2)).drew) (HOB.out.alloc _) hgrow hap.out.symm.ne
          have hapN := hap.out.step (s := wr.heap.size + 1) (fun k' hk' => by have := (HOB.out.lt k' hk').2; omega) (A' := (Value.slice (some ⟨gg, 0, none⟩) ((kpL y k).length + 1) cap).ownBlock) (by rcases hat with h | h <;> simp [Value.ownBlock, h] <;> simp_all [Value.ownBlock])
          obtain ⟨W6, hW6⟩ : ∃ u : World, u = w5.setCell ⟨w1.heap.size, 0, none⟩ (.slice (some ⟨gg, 0, none⟩) ((kpL y k).length + 1) cap) := ⟨_, rfl⟩
          have ht6 : W6.heap[w1.heap.size]? = some (.cells #[.slice (some ⟨gg, 0, none⟩) ((kpL y k).length + 1) cap, .slice GB (kpL y k).length dB] 26 (0, 0)) := by rw [hW6]; exact Joins.block_setCell (i := 0) ht5 _
          have hA6 : W6.ownsRow (w1.heap.size + 1) 2 1 (.slice (some ⟨gg, 0, none⟩) ((kpL y k).length + 1) cap) ((kpL y k).length + 1) (xs ++ [Value.int .i64 x0]) := by rw [hW6]; exact hown1.kept (grown_set2 _ _ _) (.inr (by simp [Value.ownBlock]; omega))
          have hB6 : W6.ownsRow (w1.heap.size + 1) 2 1 (.slice GB (kpL y k).length dB) (kpL y k).length ys := by
            rw [hW6]
            refine hrB.kept (grown_set2 _ _ _) ?_
            cases GB with
            | none => exact .inl rfl
            | some a => exact .inr (by have := (hrB.lt a.block rfl).1; simp [Value.ownBlock]; omega)
          have hb6 : Below w1.heap.size w1 W6 := by
            rw [hW6]
            have hd : Below w1.heap.size w1 ((wr.alloc (.cells #[.int .i64 x0] 2)).drew) := by
              have h := HBEL.out.alloc HBEL.out.size (.cells #[.int .i64 x0] 2)
              exact ⟨h.os, h.tape, h.output, h.size, h.block⟩
            exact (hd.grown hgrow (by simp; omega) (fun j hj => by have := (hownA.lt j hj).1; omega)).setCell (by exact Nat.le_refl _) _
          have hz6 := hb6.size
          have hz6' : w1.heap.size + 1 ≤ W6.heap.size := by have := (hA6.lt gg rfl); omega
          have c61 := Joins.cell_of_block ht6 1
          simp at c61
          rw [← hW6]
          have HT6 := hide ht6
          have HA6 := hide hA6
          have HB6 := hide hB6
          have HBB6 := hide hb6
          have HAPN := hide hapN
          have hll : (kpL y k).length ≤ k := kpL_len y k
          have HLX := hide (show xs.length = (kpL y k).length by have := hownA.1; omega)
          have HLY := hide (show ys.length = (kpL y k).length by have := HOB.out.1; omega)
          clear hW6 ht6 hA6 hb6 hapN hown1 hgrow hat hlt5 ht5 f50 c50 hgT hrB
          go_wp2_with (at_builtin; refine wpList_append_own_at _ rfl _ _ 22 rfl (w1.heap.size + 1) 2 i0 (.int .i64 0) 1 8 Try.underlying22 hi hz0 hz1 hz2 rfl (by decide) _ _ _ rfl (by exact (hB6.alloc _)) ⟨_, 0, none⟩ 1 1 [.int .i64 (y k)] rfl rfl (cell_one_new _ _ _) (by intro u hu; simp at hu; subst hu; rfl) (by unfold maxLen; omega) (by omega) (by simp; omega) ?_)
          intro v' w7 hown7 hgrow7 _ hat7
          obtain ⟨g7, c7, rfl⟩ := Joins.ownsRow_form hown7 (by omega)
          have hb2 : ∀ g, (Value.slice GB (kpL y k).length dB).ownBlock = some g → g ≠ w1.heap.size := fun g hg => by have := (hB6.lt g hg).1; omega
          have ht7 : w7.heap[w1.heap.size]? = some (.cells #[.slice (some ⟨gg, 0, none⟩) ((kpL y k).length + 1) cap, .slice GB (kpL y k).length dB] 26 (0, 0)) := (hgrow7.block w1.heap.size (by simp; omega) (fun e => hb2 _ e.symm rfl)).trans ((Below.heap_alloc W6 _ w1.heap.size (by omega)).trans HT6.out)
          have c71 := Joins.cell_of_block ht7 1
          have f71 := Joins.unfrozen_of_block ht7 1
          simp at c71
          have hA7 := World.ownsRow.kept (HA6.out.alloc (w := W6) _) hgrow7 HAPN.out.ne
          have hap7 := (HAPN.out.symm.step (s := W6.heap.size + 1) (fun k' hk' => by have := (HA6.out.lt k' hk').2; omega) (by simpa using hat7)).symm
          have HT8 := hide (show (w7.setCell ⟨w1.heap.size, 1, none⟩ (.slice (some ⟨g7, 0, none⟩) ((kpL y k).length + 1) c7)).heap[w1.heap.size]? = some (.cells #[.slice (some ⟨gg, 0, none⟩) ((kpL y k).length + 1) cap, .slice (some ⟨g7, 0, none⟩) ((kpL y k).length + 1) c7] 26 (0, 0)) from Joins.block_setCell (i := 1) ht7 _)
          have HA8 := hide (hA7.kept (grown_set2 w7 ⟨w1.heap.size, 1, none⟩ (.slice (some ⟨g7, 0, none⟩) ((kpL y k).length + 1) c7)) (.inr (by have := (hA7.lt gg rfl).1; simp [Value.ownBlock]; omega)))
          have HB8 := hide (hown7.kept (grown_set2 w7 ⟨w1.heap.size, 1, none⟩ (.slice (some ⟨g7, 0, none⟩) ((kpL y k).length + 1) c7)) (.inr (by have := (hown7.lt g7 rfl).1; simp [Value.ownBlock]; omega)))
          have HBB8 := hide (((HBB6.out.alloc HBB6.out.size _).grown hgrow7 (by simp; omega) (fun j hj => by have := (hB6.lt j hj).1; omega)).setCell (p := ⟨w1.heap.size, 1, none⟩) (by exact Nat.le_refl _) (.slice (some ⟨g7, 0, none⟩) ((kpL y k).length + 1) c7))
          have HAP8 := hide hap7
          have HZ8 := hide (show w1.heap.size + 1 ≤ (w7.setCell ⟨w1.heap.size, 1, none⟩ (.slice (some ⟨g7, 0, none⟩) ((kpL y k).length + 1) c7)).heap.size by have := (HA8.out.lt gg rfl); omega)
          clear hown7 hgrow7 hat7 ht7 hA7 hap7 hB6 hb2
          go_wp2
          go_roundw
          case rel => exact ⟨k + 1, xs ++ [.int .i64 x0], ys ++ [.int .i64 (y k)], some ⟨gg, 0, none⟩, some ⟨g7, 0, none⟩, cap, c7, by omega, by go_num, by rw [HKP.out, List.length_append]; exact HT8.out, by rw [HKP.out, List.length_append]; exact HA8.out, by rw [HKP.out, List.length_append]; exact HB8.out, by rw [HKP.out, List.length_append]; exact HAP8.out, by
            rw [HKP.out, List.length_append]
            exact own_step HLX.out (fun j hj => by rw [hxs.out j hj, kv_left hj]) (by rw [kv_new, HX0.out]), by
            rw [HKP.out, List.length_append]
            exact own_step HLY.out (fun j hj => by rw [hys.out j hj, kv_left hj]) (by rw [kv_new]), HBB8.out, HZ8.out⟩
          case measure => simp [intOf]; omega)

      have hkz : ((k : Int) == 0) = false := by rw [beq_eq_false_iff_ne]; omega
      have hk0 : (0 : Int) ≤ (k : Int) - 1 := by omega
      have hk1 : (k : Int) - 1 < (n' : Int) := by omega
      obtain ⟨bb', offb', hBe', hbb', hckm⟩ := HCB.out (k - 1) (by omega)
      injection hBe' with hBe'
      injection hBe' with hBe' hBe2
      subst hBe' hBe2
      have hcm := (HBEL.out.cell (p := ⟨bb, offb + (k - 1), none⟩) hbb').trans hckm
      clear hckm
      by_cases hy : y k = y (k - 1)
      · have hyb : (y k != y (k - 1)) = false := by rw [bne_eq_false_iff_eq]; exact hy
        have HKP := hide (show kpL y (k + 1) = kpL y k from if_neg (fun h => by rcases h with h | h <;> contradiction))
        have HOA := hide hownA
        have HOB := hide hownB
        clear hy hownA hownB
        go_wp2
        go_roundw
        case rel => exact ⟨k + 1, xs, ys, GA, GB, dA, dB, by omega, by go_num, by rw [HKP.out]; exact hT.out, by rw [HKP.out]; exact HOA.out, by rw [HKP.out]; exact HOB.out, by rw [HKP.out]; exact hap.out, by rw [HKP.out]; exact hxs.out, by rw [HKP.out]; exact hys.out, HBEL.out, hszT⟩
        case measure => simp [intOf]; omega
      · have hyb : (y k != y (k - 1)) = true := by rw [bne_iff_ne]; exact hy
        have HKP := hide (show kpL y (k + 1) = kpL y k ++ [k] from if_pos (.inr hy))
        clear hy
        obtain ⟨x0, hx0⟩ : ∃ v : Int, x k = v := ⟨_, rfl⟩
        rw [hx0] at hca
        have HX0 := hide hx0
        have ag : ∀ g, g < w1.heap.size + 1 → (Value.slice GA (kpL y k).length dA).ownBlock ≠ some g := fun g hg e => by have := (hownA.lt g e).1; omega
        have a0 := ag ba (by omega)
        have a1 := ag w.heap.size (by omega)
        have a2 := ag w1.heap.size (by omega)
        have hl0 : ba < wr.heap.size := by omega
        have hl1 : w.heap.size < wr.heap.size := by omega
        have hl2 : w1.heap.size < wr.heap.size := by omega
        have hkl := kpL_len y k
        have hn63 : (kpL y k).length + 1 ≤ maxLen := by unfold maxLen; omega
        have hby : ((kpL y k).length + 1) * 8 ≤ 140737488355328 := by omega
        have fz := Joins.unfrozen_of_block hT.out 0
        have hfa : ∀ o, (wr.alloc o).drew.frozen? ⟨w1.heap.size, 0, none⟩ = false := fun o => Joins.unfrozen_of_block (w := (wr.alloc o).drew) ((Below.heap_alloc wr o w1.heap.size hl2).trans hT.out) 0
        have HOA := hide hownA
        have HOB := hide hownB
        clear ag hownB hx0
        go_wp2
        go_region_law ((refine step_append_lies _ (by rfl) _ _ _ (by rfl) (w1.heap.size + 1) 2 i0 _ 1 8 Try.underlying22 hi hz0 hz1 hz2 rfl (by omega) (.slice GA (kpL y k).length dA) (kpL y k).length xs (by rfl) ((hownA.alloc _).drew) ⟨wr.heap.size, 0, none⟩ 1 1 [.int .i64 x0] (by rfl) (by rfl) (World.news_of_block (cs := #[.int .i64 x0]) (t := 2) (fr := (0, 0)) (heap_alloc_new wr _)) (by simp [Value.oneCell']) (by omega) hn63 hby (by simp; omega) (wr.heap.size + 1) (by simp) ?_; intro gg cap w5 hown1 hgrow hat hlt5; have ht5 := (hgrow.block w1.heap.size (by simp; omega) (Ne.symm a2)).trans ((Below.heap_alloc wr _ w1.heap.size hl2).trans hT.out); have c50 := Joins.cell_of_block ht5 0; have f50 := Joins.unfrozen_of_block ht5 0; simp at c50)) 
        all_goals (
          have hgT : ¬ gg = w1.heap.size := by have := (hown1.lt gg rfl).1; omega
          have hrB := World.ownsRow.kept (w := (wr.alloc (.cells #[.int .i64 x0] 2)).drew) (HOB.out.alloc _) hgrow hap.out.symm.ne
          have hapN := hap.out.step (s := wr.heap.size + 1) (fun k' hk' => by have := (HOB.out.lt k' hk').2; omega) (A' := (Value.slice (some ⟨gg, 0, none⟩) ((kpL y k).length + 1) cap).ownBlock) (by rcases hat with h | h <;> simp [Value.ownBlock, h] <;> simp_all [Value.ownBlock])
          obtain ⟨W6, hW6⟩ : ∃ u : World, u = w5.setCell ⟨w1.heap.size, 0, none⟩ (.slice (some ⟨gg, 0, none⟩) ((kpL y k).length + 1) cap) := ⟨_, rfl⟩
          have ht6 : W6.heap[w1.heap.size]? = some (.cells #[.slice (some ⟨gg, 0, none⟩) ((kpL y k).length + 1) cap, .slice GB (kpL y k).length dB] 26 (0, 0)) := by rw [hW6]; exact Joins.block_setCell (i := 0) ht5 _
          have hA6 : W6.ownsRow (w1.heap.size + 1) 2 1 (.slice (some ⟨gg, 0, none⟩) ((kpL y k).length + 1) cap) ((kpL y k).length + 1) (xs ++ [Value.int .i64 x0]) := by rw [hW6]; exact hown1.kept (grown_set2 _ _ _) (.inr (by simp [Value.ownBlock]; omega))
          have hB6 : W6.ownsRow (w1.heap.size + 1) 2 1 (.slice GB (kpL y k).length dB) (kpL y k).length ys := by
            rw [hW6]
            refine hrB.kept (grown_set2 _ _ _) ?_
            cases GB with
            | none => exact .inl rfl
            | some a => exact .inr (by have := (hrB.lt a.block rfl).1; simp [Value.ownBlock]; omega)
          have hb6 : Below w1.heap.size w1 W6 := by
            rw [hW6]
            have hd : Below w1.heap.size w1 ((wr.alloc (.cells #[.int .i64 x0] 2)).drew) := by
              have h := HBEL.out.alloc HBEL.out.size (.cells #[.int .i64 x0] 2)
              exact ⟨h.os, h.tape, h.output, h.size, h.block⟩
            exact (hd.grown hgrow (by simp; omega) (fun j hj => by have := (hownA.lt j hj).1; omega)).setCell (by exact Nat.le_refl _) _
          have hz6 := hb6.size
          have hz6' : w1.heap.size + 1 ≤ W6.heap.size := by have := (hA6.lt gg rfl); omega
          have c61 := Joins.cell_of_block ht6 1
          simp at c61
          rw [← hW6]
          have HT6 := hide ht6
          have HA6 := hide hA6
          have HB6 := hide hB6
          have HBB6 := hide hb6
          have HAPN := hide hapN
          have hll : (kpL y k).length ≤ k := kpL_len y k
          have HLX := hide (show xs.length = (kpL y k).length by have := hownA.1; omega)
          have HLY := hide (show ys.length = (kpL y k).length by have := HOB.out.1; omega)
          clear hW6 ht6 hA6 hb6 hapN hown1 hgrow hat hlt5 ht5 f50 c50 hgT hrB
          go_wp2_with (at_builtin; refine wpList_append_own_at _ rfl _ _ 22 rfl (w1.heap.size + 1) 2 i0 (.int .i64 0) 1 8 Try.underlying22 hi hz0 hz1 hz2 rfl (by decide) _ _ _ rfl (by exact (hB6.alloc _)) ⟨_, 0, none⟩ 1 1 [.int .i64 (y k)] rfl rfl (cell_one_new _ _ _) (by intro u hu; simp at hu; subst hu; rfl) (by unfold maxLen; omega) (by omega) (by simp; omega) ?_)
          intro v' w7 hown7 hgrow7 _ hat7
          obtain ⟨g7, c7, rfl⟩ := Joins.ownsRow_form hown7 (by omega)
          have hb2 : ∀ g, (Value.slice GB (kpL y k).length dB).ownBlock = some g → g ≠ w1.heap.size := fun g hg => by have := (hB6.lt g hg).1; omega
          have ht7 : w7.heap[w1.heap.size]? = some (.cells #[.slice (some ⟨gg, 0, none⟩) ((kpL y k).length + 1) cap, .slice GB (kpL y k).length dB] 26 (0, 0)) := (hgrow7.block w1.heap.size (by simp; omega) (fun e => hb2 _ e.symm rfl)).trans ((Below.heap_alloc W6 _ w1.heap.size (by omega)).trans HT6.out)
          have c71 := Joins.cell_of_block ht7 1
          have f71 := Joins.unfrozen_of_block ht7 1
          simp at c71
          have hA7 := World.ownsRow.kept (HA6.out.alloc (w := W6) _) hgrow7 HAPN.out.ne
          have hap7 := (HAPN.out.symm.step (s := W6.heap.size + 1) (fun k' hk' => by have := (HA6.out.lt k' hk').2; omega) (by simpa using hat7)).symm
          have HT8 := hide (show (w7.setCell ⟨w1.heap.size, 1, none⟩ (.slice (some ⟨g7, 0, none⟩) ((kpL y k).length + 1) c7)).heap[w1.heap.size]? = some (.cells #[.slice (some ⟨gg, 0, none⟩) ((kpL y k).length + 1) cap, .slice (some ⟨g7, 0, none⟩) ((kpL y k).length + 1) c7] 26 (0, 0)) from Joins.block_setCell (i := 1) ht7 _)
          have HA8 := hide (hA7.kept (grown_set2 w7 ⟨w1.heap.size, 1, none⟩ (.slice (some ⟨g7, 0, none⟩) ((kpL y k).length + 1) c7)) (.inr (by have := (hA7.lt gg rfl).1; simp [Value.ownBlock]; omega)))
          have HB8 := hide (hown7.kept (grown_set2 w7 ⟨w1.heap.size, 1, none⟩ (.slice (some ⟨g7, 0, none⟩) ((kpL y k).length + 1) c7)) (.inr (by have := (hown7.lt g7 rfl).1; simp [Value.ownBlock]; omega)))
          have HBB8 := hide (((HBB6.out.alloc HBB6.out.size _).grown hgrow7 (by simp; omega) (fun j hj => by have := (hB6.lt j hj).1; omega)).setCell (p := ⟨w1.heap.size, 1, none⟩) (by exact Nat.le_refl _) (.slice (some ⟨g7, 0, none⟩) ((kpL y k).length + 1) c7))
          have HAP8 := hide hap7
          have HZ8 := hide (show w1.heap.size + 1 ≤ (w7.setCell ⟨w1.heap.size, 1, none⟩ (.slice (some ⟨g7, 0, none⟩) ((kpL y k).length + 1) c7)).heap.size by have := (HA8.out.lt gg rfl); omega)
          clear hown7 hgrow7 hat7 ht7 hA7 hap7 hB6 hb2
          go_wp2
          go_roundw
          case rel => exact ⟨k + 1, xs ++ [.int .i64 x0], ys ++ [.int .i64 (y k)], some ⟨gg, 0, none⟩, some ⟨g7, 0, none⟩, cap, c7, by omega, by go_num, by rw [HKP.out, List.length_append]; exact HT8.out, by rw [HKP.out, List.length_append]; exact HA8.out, by rw [HKP.out, List.length_append]; exact HB8.out, by rw [HKP.out, List.length_append]; exact HAP8.out, by
            rw [HKP.out, List.length_append]
            exact own_step HLX.out (fun j hj => by rw [hxs.out j hj, kv_left hj]) (by rw [kv_new, HX0.out]), by
            rw [HKP.out, List.length_append]
            exact own_step HLY.out (fun j hj => by rw [hys.out j hj, kv_left hj]) (by rw [kv_new]), HBB8.out, HZ8.out⟩
          case measure => simp [intOf]; omega)

    · obtain rfl : n' = k := by omega
      have g0 := Joins.cell_of_block hT.out 0
      have g1 := Joins.cell_of_block hT.out 1
      have hR := blk_below hbel (by omega) HR1.out
      have r0 := Joins.cell_of_block hR 0
      have r1 := Joins.cell_of_block hR 1
      have f0 := Joins.unfrozen_of_block hR 0
      have f1 := Joins.unfrozen_of_block hR 1
      simp at g0 g1 r0 r1 f0 f1
      have HRR := hide hR
      have HBEL := hide (HB1.out.trans (hbel.mono (by omega)))
      have ha : ∀ (v : Value) (m d : Nat) (G : Option Addr) (zs : List Value), v = .slice G m d → wr.ownsRow (w1.heap.size + 1) 2 1 v m zs → ((wr.setCell ⟨w.heap.size + 1, 0, none⟩ (.slice GA (kpL y n').length dA)).setCell ⟨w.heap.size + 1, 1, none⟩ (.slice GB (kpL y n').length dB)).ownsRow (w1.heap.size + 1) 2 1 v m zs := fun v m d G zs e h => by
        have hne : v.ownBlock = none ∨ v.ownBlock ≠ some (w.heap.size + 1) := by
          subst e
          cases G with
          | none => exact .inl rfl
          | some a => exact .inr (by have := (h.lt a.block rfl).1; simp [Value.ownBlock]; omega)
        exact (h.kept (grown_set2 _ _ _) hne).kept (grown_set2 _ _ _) hne
      have HOA := hide ((OW.of_owns (f := fun j => .int .i64 (kv x (kpL y n') j)) (ha _ _ _ _ _ rfl hownA) hxs.out).wide (show w.heap.size ≤ _ by omega) (Nat.le_refl _))
      have HOB := hide ((OW.of_owns (f := fun j => .int .i64 (kv y (kpL y n') j)) (ha _ _ _ _ _ rfl hownB) hys.out).wide (show w.heap.size ≤ _ by omega) (Nat.le_refl _))
      have HNE := hide (show (kpL y n').length ≠ 0 → GA ≠ GB from fun h1 h2 => by
        subst h2
        rcases hownA.2 with ⟨h3, h4⟩ | ⟨g, cp, cur, h3, _⟩
        · exact h1 h4
        · injection h3 with h3
          subst h3
          rcases hap.out with h5 | h5 | h5
          · cases h5
          · cases h5
          · exact h5 rfl)
      have HE0 := hide (show ((wr.setCell ⟨w.heap.size + 1, 0, none⟩ (.slice GA (kpL y n').length dA)).setCell ⟨w.heap.size + 1, 1, none⟩ (.slice GB (kpL y n').length dB)).heap[w.heap.size + 1]? = some (.cells #[.slice GA (kpL y n').length dA, .slice GB (kpL y n').length dB] 26 (0, 0)) from Joins.block_setCell (i := 1) (Joins.block_setCell (i := 0) HRR.out _) _)
      have z0 := Joins.cell_of_block HE0.out 0
      have z1 := Joins.cell_of_block HE0.out 1
      simp at z0 z1
      have Z0 := hide z0
      have Z1 := hide z1
      clear hbel hownA hownB hR ha z0 z1
      go_wp2
      refine bodyPost_ret (v := .tuple #[.agg #[.slice GA (kpL y n').length dA, .slice GB (kpL y n').length dB], .bool true]) (by simp [results, Try.results18, go_sem, Z0.out, Z1.out]) rfl (gavet_yes HH.out ⟨HOA.out, HOB.out, fun h _ => HNE.out h⟩ ?_)
      exact (HBEL.out.setCell (by simp) _).setCell (by simp) _
set_option maxRecDepth 100000 in
set_option maxHeartbeats 16000000 in
theorem specTrim_any (A A' : Option Addr) (n c n' c' : Nat) (x y : Nat → Int) (w : World) (hn : n ≤ maxLen) (hn' : n' ≤ maxLen) (hs : SL w A n (fun j => .int .i64 (x j))) (hs' : SL w A' n' (fun j => .int .i64 (y j))) :
    Calls Try.prog 16 #[.agg #[.slice A n c, .slice A' n' c']] w fun e w' => GaveT w w' e (Val x y n n') (kpL y n).length (kpL y n).length (kv x (kpL y n)) (kv y (kpL y n)) := by
  obtain ⟨i0, hi, hz0, hz1, hz2⟩ := info_parts Try.info64
  obtain ⟨w0, hw0⟩ : ∃ u : World, u = (w.alloc (.cells #[.slice A n c, .slice A' n' c'] 26)).alloc (.cells #[.slice none 0 0, .slice none 0 0] 26) := ⟨_, rfl⟩
  have hB0 : Below w.heap.size w w0 := by rw [hw0]; exact ((Below.refl w.heap.size w).alloc (Nat.le_refl _) _).alloc (by simp) _
  have hX0 : w0.heap[w.heap.size]? = some (.cells #[.slice A n c, .slice A' n' c'] 26 (0, 0)) := by rw [hw0]; exact (blocks2 w _ _).1
  have hR0 : w0.heap[w.heap.size + 1]? = some (.cells #[.slice none 0 0, .slice none 0 0] 26 (0, 0)) := by rw [hw0]; exact (blocks2 w _ _).2
  have hz00 : w0.heap.size = w.heap.size + 2 := by rw [hw0]; simp
  have HV := hide (specIs_any w.heap.size A A' n c n' c' x y w0 hn hn' (by have := Joins.cell_of_block hX0 0; simp at this; exact this) (by have := Joins.cell_of_block hX0 1; simp at this; exact this) (hs.below hB0) (hs'.below hB0))
  have HSA := hide (hs.below hB0)
  have HSB := hide (hs'.below hB0)
  have HB0 := hide hB0
  have HX0 := hide hX0
  have HR0 := hide hR0
  have HW0 := hide hw0
  have k0 := Joins.cell_of_block hX0 0
  have k1 := Joins.cell_of_block hX0 1
  simp at k0 k1
  clear hs hs' hB0 hX0 hR0 hw0
  by_cases hv : Val x y n n'
  rotate_left
  · have HT := hide (tru_no hv)
    have HH := hide hv
    clear hv
    go_enter Try.func16, Try.ntmps16
    go_wp2_with fail
    rw [← HW0.out]
    refine HV.out.mono ?_
    rw [HT.out]
    rintro e w1 ⟨rfl, q, hq⟩
    have hb1 : Below w0.heap.size w0 w1 := by rw [hq]; exact bel_q (Below.refl _ _) q
    clear hq
    have hR1 : w1.heap[w.heap.size + 1]? = some (.cells #[.slice none 0 0, .slice none 0 0] 26 (0, 0)) := blk_below hb1 (by omega) HR0.out
    have k2 := Joins.cell_of_block hR1 0
    have k3 := Joins.cell_of_block hR1 1
    have f0 := Joins.unfrozen_of_block hR1 0
    have f1 := Joins.unfrozen_of_block hR1 1
    simp at k2 k3 f0 f1
    have HB1 := hide (HB0.out.trans (hb1.mono (by omega)))
    clear hb1 hR1
    go_wp2
    refine bodyPost_ret (v := .tuple #[.agg #[.slice none 0 0, .slice none 0 0], .bool false]) (by simp [results, Try.results16, go_sem, k2, k3]) rfl (gavet_no HH.out ?_)
    exact (HB1.out.setCell (by simp) _).setCell (by simp) _
  have HT := hide (tru_yes hv)
  have HH := hide hv
  obtain ⟨hnn, hup, hyb⟩ := hv
  have n1 := hup.1
  have n8 := hup.2.1
  subst hnn
  clear hup hyb
  go_enter Try.func16, Try.ntmps16
  go_wp2_with fail
  rw [← HW0.out]
  refine HV.out.mono ?_
  rw [HT.out]
  rintro e w1 ⟨rfl, q, hq⟩
  have hb1 : Below w0.heap.size w0 w1 := by rw [hq]; exact bel_q (Below.refl _ _) q
  clear hq
  have hX1 : w1.heap[w.heap.size]? = some (.cells #[.slice A n' c, .slice A' n' c'] 26 (0, 0)) := blk_below hb1 (by omega) HX0.out
  have hR1 : w1.heap[w.heap.size + 1]? = some (.cells #[.slice none 0 0, .slice none 0 0] 26 (0, 0)) := blk_below hb1 (by omega) HR0.out
  have hw1 : w.heap.size + 2 ≤ w1.heap.size := by have := hb1.size; omega
  have HB1 := hide (HB0.out.trans (hb1.mono (by omega)))
  have HCA := cells_a (HSA.out.below hb1)
  have HCB := cells_a (HSB.out.below hb1)
  obtain ⟨wL, hwL⟩ : ∃ u : World, u = w1.alloc (.cells #[.slice none 0 0, .slice none 0 0] 26) := ⟨_, rfl⟩
  have hTL : wL.heap[w1.heap.size]? = some (.cells #[.slice none 0 0, .slice none 0 0] 26 (0, 0)) := by rw [hwL]; exact blocks1 w1 _
  have hBL : Below w1.heap.size w1 wL := by rw [hwL]; exact (Below.refl _ w1).alloc (Nat.le_refl _) _
  have hzL : wL.heap.size = w1.heap.size + 1 := by rw [hwL]; simp
  have k2 := Joins.cell_of_block hX1 0
  have k3 := Joins.cell_of_block hX1 1
  simp at k2 k3
  have k2' : (w1.alloc (.cells #[.slice none 0 0, .slice none 0 0] 26)).cell? ⟨w.heap.size, 0, none⟩ = some (.slice A n' c) := by rw [World.cell?_alloc_lt _ _ _ (by show w.heap.size < _; omega)]; exact k2
  have k3' : (w1.alloc (.cells #[.slice none 0 0, .slice none 0 0] 26)).cell? ⟨w.heap.size, 1, none⟩ = some (.slice A' n' c') := by rw [World.cell?_alloc_lt _ _ _ (by show w.heap.size < _; omega)]; exact k3
  have HX1 := hide hX1
  have HR1 := hide hR1
  have HTL := hide hTL
  have HBL := hide hBL
  have HWL := hide hwL
  clear hb1 hX1 hR1 hTL hBL hwL HV HX0 HR0 HB0 HW0 k0 k1
  go_wp2
  rw [← HWL.out]
  go_loopw [5] (fun i wr => ∃ (k : Nat) (xs ys : List Value) (GA GB : Option Addr) (dA dB : Nat), k ≤ n' ∧ i = .int .i64 k ∧ Hid (wr.heap[w1.heap.size]? = some (.cells #[.slice GA (kpL y k).length dA, .slice GB (kpL y k).length dB] 26 (0, 0))) ∧
      wr.ownsRow (w1.heap.size + 1) 2 1 (.slice GA (kpL y k).length dA) (kpL y k).length xs ∧ wr.ownsRow (w1.heap.size + 1) 2 1 (.slice GB (kpL y k).length dB) (kpL y k).length ys ∧ Hid (Apart (Value.slice GA (kpL y k).length dA).ownBlock (Value.slice GB (kpL y k).length dB).ownBlock) ∧
      Hid (∀ j, j < (kpL y k).length → xs[j]? = some (.int .i64 (kv x (kpL y k) j))) ∧ Hid (∀ j, j < (kpL y k).length → ys[j]? = some (.int .i64 (kv y (kpL y k) j))) ∧ Below w1.heap.size w1 wr ∧ w1.heap.size + 1 ≤ wr.heap.size) (fun i _ => n' - (intOf i).toNat)
  case atStart => exact ⟨0, [], [], none, none, 0, 0, Nat.zero_le _, rfl, HTL.out, World.ownsRow_nil _ _ _ _, World.ownsRow_nil _ _ _ _, .inl rfl, fun j hj => absurd hj (by show ¬ j < 0; omega), fun j hj => absurd hj (by show ¬ j < 0; omega), HBL.out, by omega⟩
  case round =>
    obtain ⟨k, xs, ys, GA, GB, dA, dB, hk, rfl, hT, hownA, hownB, hap, hxs, hys, hbel, hszT⟩ := hrel
    by_cases hlt : k < n'
    · have hki : (k : Int) < (n' : Int) := by omega
      obtain ⟨ba, offa, hAe, hba, hcka⟩ := HCA.out k hlt
      obtain ⟨bb, offb, hBe, hbb, hckb⟩ := HCB.out k hlt
      subst hAe hBe
      have hca := (hbel.cell (p := ⟨ba, offa + k, none⟩) hba).trans hcka
      have hcb := (hbel.cell (p := ⟨bb, offb + k, none⟩) hbb).trans hckb
      have g0 := Joins.cell_of_block hT.out 0
      have g1 := Joins.cell_of_block hT.out 1
      have q0 := Joins.cell_of_block (blk_below hbel (by omega) HX1.out) 0
      have q1 := Joins.cell_of_block (blk_below hbel (by omega) HX1.out) 1
      simp at g0 g1
      simp at q0 q1
      have HBEL := hide hbel
      clear hbel hcka hckb
      by_cases hz : k = 0
      · have hkz : ((k : Int) == 0) = true := by rw [beq_iff_eq]; omega
        have HKP := hide (show kpL y (k + 1) = kpL y k ++ [k] from if_pos (.inl hz))
        clear hz
        go_wp2
        go_quiet (fail)
        obtain ⟨wd, hwd⟩ : ∃ u : World, u = wr.drewN nq := ⟨_, rfl⟩
        rw [← hwd]
        have hT : Hid (wd.heap[w1.heap.size]? = some (.cells #[.slice GA (kpL y k).length dA, .slice GB (kpL y k).length dB] 26 (0, 0))) := by rw [hwd]; exact hT.out
        have hownA : wd.ownsRow (w1.heap.size + 1) 2 1 (.slice GA (kpL y k).length dA) (kpL y k).length xs := by rw [hwd]; exact hownA
        have hownB : wd.ownsRow (w1.heap.size + 1) 2 1 (.slice GB (kpL y k).length dB) (kpL y k).length ys := by rw [hwd]; exact hownB
        have HBEL : Hid (Below w1.heap.size w1 wd) := by rw [hwd]; exact bel_q HBEL.out nq
        have hszT : w1.heap.size + 1 ≤ wd.heap.size := by rw [hwd]; exact hszT
        have hbel2 := HBEL.out
        have hca : wd.cell? ⟨ba, offa + k, none⟩ = some (.int .i64 (x k)) := by rw [hwd]; exact hca
        have hcb : wd.cell? ⟨bb, offb + k, none⟩ = some (.int .i64 (y k)) := by rw [hwd]; exact hcb
        have g0 : wd.cell? ⟨w1.heap.size, 0, none⟩ = some (.slice GA (kpL y k).length dA) := by rw [hwd]; exact g0
        have g1 : wd.cell? ⟨w1.heap.size, 1, none⟩ = some (.slice GB (kpL y k).length dB) := by rw [hwd]; exact g1
        have q0 : wd.cell? ⟨w.heap.size, 0, none⟩ = some (.slice (some ⟨ba, offa, none⟩) n' c) := by rw [hwd]; exact q0
        have q1 : wd.cell? ⟨w.heap.size, 1, none⟩ = some (.slice (some ⟨bb, offb, none⟩) n' c') := by rw [hwd]; exact q1
        clear hwd
        obtain ⟨x0, hx0⟩ : ∃ v : Int, x k = v := ⟨_, rfl⟩
        rw [hx0] at hca
        have HX0 := hide hx0
        have ag : ∀ g, g < w1.heap.size + 1 → (Value.slice GA (kpL y k).length dA).ownBlock ≠ some g := fun g hg e => by have := (hownA.lt g e).1; omega
        have a0 := ag ba (by omega)
        have a1 := ag w.heap.size (by omega)
        have a2 := ag w1.heap.size (by omega)
        have hl0 : ba < wd.heap.size := by omega
        have hl1 : w.heap.size < wd.heap.size := by omega
        have hl2 : w1.heap.size < wd.heap.size := by omega
        have hkl := kpL_len y k
        have hn63 : (kpL y k).length + 1 ≤ maxLen := by unfold maxLen; omega
        have hby : ((kpL y k).length + 1) * 8 ≤ 140737488355328 := by omega
        have fz := Joins.unfrozen_of_block hT.out 0
        have hfa : ∀ o, (wd.alloc o).drew.frozen? ⟨w1.heap.size, 0, none⟩ = false := fun o => Joins.unfrozen_of_block (w := (wd.alloc o).drew) ((Below.heap_alloc wd o w1.heap.size hl2).trans hT.out) 0
        have HOA := hide hownA
        have HOB := hide hownB
        clear ag hownB hx0
        go_wp2
        go_region_law ((refine step_append_lies _ (by rfl) _ _ _ (by rfl) (w1.heap.size + 1) 2 i0 _ 1 8 Try.underlying22 hi hz0 hz1 hz2 rfl (by omega) (.slice GA (kpL y k).length dA) (kpL y k).length xs (by rfl) ((hownA.alloc _).drew) ⟨wd.heap.size, 0, none⟩ 1 1 [.int .i64 x0] (by rfl) (by rfl) (World.news_of_block (cs := #[.int .i64 x0]) (t := 2) (fr := (0, 0)) (heap_alloc_new wd _)) (by simp [Value.oneCell']) (by omega) hn63 hby (by simp; omega) (wd.heap.size + 1) (by simp) ?_; intro gg cap w5 hown1 hgrow hat hlt5; have ht5 := (hgrow.block w1.heap.size (by simp; omega) (Ne.symm a2)).trans ((Below.heap_alloc wd _ w1.heap.size hl2).trans hT.out); have c50 := Joins.cell_of_block ht5 0; have f50 := Joins.unfrozen_of_block ht5 0; simp at c50)) 
        all_goals (
          have hgT : ¬ gg = w1.heap.size := by have := (hown1.lt gg rfl).1; omega
          have hrB := World.ownsRow.kept (w := (wd.alloc (.cells #[.int .i64 x0] 2)).drew) (HOB.out.alloc _) hgrow hap.out.symm.ne
          have hapN := hap.out.step (s := wd.heap.size + 1) (fun k' hk' => by have := (HOB.out.lt k' hk').2; omega) (A' := (Value.slice (some ⟨gg, 0, none⟩) ((kpL y k).length + 1) cap).ownBlock) (by rcases hat with h | h <;> simp [Value.ownBlock, h] <;> simp_all [Value.ownBlock])
          obtain ⟨W6, hW6⟩ : ∃ u : World, u = w5.setCell ⟨w1.heap.size, 0, none⟩ (.slice (some ⟨gg, 0, none⟩) ((kpL y k).length + 1) cap) := ⟨_, rfl⟩
          have ht6 : W6.heap[w1.heap.size]? = some (.cells #[.slice (some ⟨gg, 0, none⟩) ((kpL y k).length + 1) cap, .slice GB (kpL y k).length dB] 26 (0, 0)) := by rw [hW6]; exact Joins.block_setCell (i := 0) ht5 _
          have hA6 : W6.ownsRow (w1.heap.size + 1) 2 1 (.slice (some ⟨gg, 0, none⟩) ((kpL y k).length + 1) cap) ((kpL y k).length + 1) (xs ++ [Value.int .i64 x0]) := by rw [hW6]; exact hown1.kept (grown_set2 _ _ _) (.inr (by simp [Value.ownBlock]; omega))
          have hB6 : W6.ownsRow (w1.heap.size + 1) 2 1 (.slice GB (kpL y k).length dB) (kpL y k).length ys := by
            rw [hW6]
            refine hrB.kept (grown_set2 _ _ _) ?_
            cases GB with
            | none => exact .inl rfl
            | some a => exact .inr (by have := (hrB.lt a.block rfl).1; simp [Value.ownBlock]; omega)
          have hb6 : Below w1.heap.size w1 W6 := by
            rw [hW6]
            have hd : Below w1.heap.size w1 ((wd.alloc (.cells #[.int .i64 x0] 2)).drew) := by
              have h := HBEL.out.alloc HBEL.out.size (.cells #[.int .i64 x0] 2)
              exact ⟨h.os, h.tape, h.output, h.size, h.block⟩
            exact (hd.grown hgrow (by simp; omega) (fun j hj => by have := (hownA.lt j hj).1; omega)).setCell (by exact Nat.le_refl _) _
          have hz6 := hb6.size
          have hz6' : w1.heap.size + 1 ≤ W6.heap.size := by have := (hA6.lt gg rfl); omega
          have c61 := Joins.cell_of_block ht6 1
          simp at c61
          rw [← hW6]
          have HT6 := hide ht6
          have HA6 := hide hA6
          have HB6 := hide hB6
          have HBB6 := hide hb6
          have HAPN := hide hapN
          have hll : (kpL y k).length ≤ k := kpL_len y k
          have HLX := hide (show xs.length = (kpL y k).length by have := hownA.1; omega)
          have HLY := hide (show ys.length = (kpL y k).length by have := HOB.out.1; omega)
          clear hW6 ht6 hA6 hb6 hapN hown1 hgrow hat hlt5 ht5 f50 c50 hgT hrB
          have q16 := (HBB6.out.cell (p := ⟨w.heap.size, 1, none⟩) (by show w.heap.size < _; omega)).trans ((hbel2.cell (p := ⟨w.heap.size, 1, none⟩) (by show w.heap.size < _; omega)).symm.trans q1)
          have hcb6 := (HBB6.out.cell (p := ⟨bb, offb + k, none⟩) hbb).trans ((hbel2.cell (p := ⟨bb, offb + k, none⟩) hbb).symm.trans hcb)
          have hn63b : (kpL y k).length + 1 ≤ maxLen := hn63
          have ht6' := HT6.out
          have a26 : (Value.slice GB (kpL y k).length dB).ownBlock ≠ some w1.heap.size := fun e => by have := (hB6.lt w1.heap.size e).1; omega
          have hl26 : w1.heap.size < W6.heap.size := by omega
          clear hca hcb g0 g1 q0 q1 hT hownA hbel2
          go_wp2
          go_region_law ((refine step_append_lies _ (by rfl) _ _ _ (by rfl) (w1.heap.size + 1) 2 i0 _ 1 8 Try.underlying22 hi hz0 hz1 hz2 rfl (by omega) (.slice GB (kpL y k).length dB) (kpL y k).length ys (by rfl) ((hB6.alloc _).drew) ⟨W6.heap.size, 0, none⟩ 1 1 [.int .i64 (y k)] (by rfl) (by rfl) (World.news_of_block (cs := #[.int .i64 (y k)]) (t := 2) (fr := (0, 0)) (heap_alloc_new W6 _)) (by simp [Value.oneCell']) (by omega) hn63b hby (by simp; omega) (W6.heap.size + 1) (by simp) ?_; intro g7 c7 w7 hown7 hgrow7 hat7 hlt7; have ht7 := (hgrow7.block w1.heap.size (by simp; omega) (Ne.symm a26)).trans ((Below.heap_alloc W6 _ w1.heap.size hl26).trans ht6'); have c71 := Joins.cell_of_block ht7 1; have f71 := Joins.unfrozen_of_block ht7 1; simp at c71))
          all_goals (
            have hA7 := World.ownsRow.kept (w := (W6.alloc (.cells #[.int .i64 (y k)] 2)).drew) (HA6.out.alloc _) hgrow7 HAPN.out.ne
            have hap7 := (HAPN.out.symm.step (s := W6.heap.size + 1) (fun k' hk' => by have := (HA6.out.lt k' hk').2; omega) (A' := (Value.slice (some ⟨g7, 0, none⟩) ((kpL y k).length + 1) c7).ownBlock) (by rcases hat7 with h | h <;> simp [Value.ownBlock, h] <;> simp_all [Value.ownBlock])).symm
            have hd6 : Below w1.heap.size w1 ((W6.alloc (.cells #[.int .i64 (y k)] 2)).drew) := by
              have h := HBB6.out.alloc HBB6.out.size (.cells #[.int .i64 (y k)] 2)
              exact ⟨h.os, h.tape, h.output, h.size, h.block⟩
            have HT8 := hide (show (w7.setCell ⟨w1.heap.size, 1, none⟩ (.slice (some ⟨g7, 0, none⟩) ((kpL y k).length + 1) c7)).heap[w1.heap.size]? = some (.cells #[.slice (some ⟨gg, 0, none⟩) ((kpL y k).length + 1) cap, .slice (some ⟨g7, 0, none⟩) ((kpL y k).length + 1) c7] 26 (0, 0)) from Joins.block_setCell (i := 1) ht7 _)
            have HA8 := hide (hA7.kept (grown_set2 w7 ⟨w1.heap.size, 1, none⟩ (.slice (some ⟨g7, 0, none⟩) ((kpL y k).length + 1) c7)) (.inr (by have := (hA7.lt gg rfl).1; simp [Value.ownBlock]; omega)))
            have HB8 := hide (hown7.kept (grown_set2 w7 ⟨w1.heap.size, 1, none⟩ (.slice (some ⟨g7, 0, none⟩) ((kpL y k).length + 1) c7)) (.inr (by have := (hown7.lt g7 rfl).1; simp [Value.ownBlock]; omega)))
            have HBB8 := hide ((hd6.grown hgrow7 (by simp; omega) (fun j hj => by have := (hB6.lt j hj).1; omega)).setCell (p := ⟨w1.heap.size, 1, none⟩) (by exact Nat.le_refl _) (.slice (some ⟨g7, 0, none⟩) ((kpL y k).length + 1) c7))
            have HAP8 := hide hap7
            have HZ8 := hide (show w1.heap.size + 1 ≤ (w7.setCell ⟨w1.heap.size, 1, none⟩ (.slice (some ⟨g7, 0, none⟩) ((kpL y k).length + 1) c7)).heap.size by have := (HA8.out.lt gg rfl); omega)
            clear hown7 hgrow7 hat7 ht7 hA7 hap7 hB6
            go_wp2
            go_roundw
            case rel => exact ⟨k + 1, xs ++ [.int .i64 x0], ys ++ [.int .i64 (y k)], some ⟨gg, 0, none⟩, some ⟨g7, 0, none⟩, cap, c7, by omega, by go_num, by rw [HKP.out, List.length_append]; exact HT8.out, by rw [HKP.out, List.length_append]; exact HA8.out, by rw [HKP.out, List.length_append]; exact HB8.out, by rw [HKP.out, List.length_append]; exact HAP8.out, by
              rw [HKP.out, List.length_append]
              exact own_step HLX.out (fun j hj => by rw [hxs.out j hj, kv_left hj]) (by rw [kv_new, HX0.out]), by
              rw [HKP.out, List.length_append]
              exact own_step HLY.out (fun j hj => by rw [hys.out j hj, kv_left hj]) (by rw [kv_new]), HBB8.out, HZ8.out⟩
            case measure => simp [intOf]; omega))

      have hkz : ((k : Int) == 0) = false := by rw [beq_eq_false_iff_ne]; omega
      have hk0 : (0 : Int) ≤ (k : Int) - 1 := by omega
      have hk1 : (k : Int) - 1 < (n' : Int) := by omega
      obtain ⟨bb', offb', hBe', hbb', hckm⟩ := HCB.out (k - 1) (by omega)
      injection hBe' with hBe'
      injection hBe' with hBe' hBe2
      subst hBe' hBe2
      have hcm := (HBEL.out.cell (p := ⟨bb, offb + (k - 1), none⟩) hbb').trans hckm
      clear hckm
      by_cases hy : y k = y (k - 1)
      · have hyb : (y k != y (k - 1)) = false := by rw [bne_eq_false_iff_eq]; exact hy
        have HKP := hide (show kpL y (k + 1) = kpL y k from if_neg (fun h => by rcases h with h | h <;> contradiction))
        have HOA := hide hownA
        have HOB := hide hownB
        clear hy hownA hownB
        go_wp2
        go_quiet (fail)
        go_wp2
        go_roundw
        case rel => exact ⟨k + 1, xs, ys, GA, GB, dA, dB, by omega, by go_num, by rw [HKP.out]; exact hT.out, by rw [HKP.out]; exact HOA.out, by rw [HKP.out]; exact HOB.out, by rw [HKP.out]; exact hap.out, by rw [HKP.out]; exact hxs.out, by rw [HKP.out]; exact hys.out, bel_q HBEL.out _, hszT⟩
        case measure => simp [intOf]; omega
      · have hyb : (y k != y (k - 1)) = true := by rw [bne_iff_ne]; exact hy
        have HKP := hide (show kpL y (k + 1) = kpL y k ++ [k] from if_pos (.inr hy))
        clear hy
        go_wp2
        go_quiet (fail)
        obtain ⟨wd, hwd⟩ : ∃ u : World, u = wr.drewN nq := ⟨_, rfl⟩
        rw [← hwd]
        have hT : Hid (wd.heap[w1.heap.size]? = some (.cells #[.slice GA (kpL y k).length dA, .slice GB (kpL y k).length dB] 26 (0, 0))) := by rw [hwd]; exact hT.out
        have hownA : wd.ownsRow (w1.heap.size + 1) 2 1 (.slice GA (kpL y k).length dA) (kpL y k).length xs := by rw [hwd]; exact hownA
        have hownB : wd.ownsRow (w1.heap.size + 1) 2 1 (.slice GB (kpL y k).length dB) (kpL y k).length ys := by rw [hwd]; exact hownB
        have HBEL : Hid (Below w1.heap.size w1 wd) := by rw [hwd]; exact bel_q HBEL.out nq
        have hszT : w1.heap.size + 1 ≤ wd.heap.size := by rw [hwd]; exact hszT
        have hbel2 := HBEL.out
        have hca : wd.cell? ⟨ba, offa + k, none⟩ = some (.int .i64 (x k)) := by rw [hwd]; exact hca
        have hcb : wd.cell? ⟨bb, offb + k, none⟩ = some (.int .i64 (y k)) := by rw [hwd]; exact hcb
        have g0 : wd.cell? ⟨w1.heap.size, 0, none⟩ = some (.slice GA (kpL y k).length dA) := by rw [hwd]; exact g0
        have g1 : wd.cell? ⟨w1.heap.size, 1, none⟩ = some (.slice GB (kpL y k).length dB) := by rw [hwd]; exact g1
        have q0 : wd.cell? ⟨w.heap.size, 0, none⟩ = some (.slice (some ⟨ba, offa, none⟩) n' c) := by rw [hwd]; exact q0
        have q1 : wd.cell? ⟨w.heap.size, 1, none⟩ = some (.slice (some ⟨bb, offb, none⟩) n' c') := by rw [hwd]; exact q1
        clear hwd
        obtain ⟨x0, hx0⟩ : ∃ v : Int, x k = v := ⟨_, rfl⟩
        rw [hx0] at hca
        have HX0 := hide hx0
        have ag : ∀ g, g < w1.heap.size + 1 → (Value.slice GA (kpL y k).length dA).ownBlock ≠ some g := fun g hg e => by have := (hownA.lt g e).1; omega
        have a0 := ag ba (by omega)
        have a1 := ag w.heap.size (by omega)
        have a2 := ag w1.heap.size (by omega)
        have hl0 : ba < wd.heap.size := by omega
        have hl1 : w.heap.size < wd.heap.size := by omega
        have hl2 : w1.heap.size < wd.heap.size := by omega
        have hkl := kpL_len y k
        have hn63 : (kpL y k).length + 1 ≤ maxLen := by unfold maxLen; omega
        have hby : ((kpL y k).length + 1) * 8 ≤ 140737488355328 := by omega
        have fz := Joins.unfrozen_of_block hT.out 0
        have hfa : ∀ o, (wd.alloc o).drew.frozen? ⟨w1.heap.size, 0, none⟩ = false := fun o => Joins.unfrozen_of_block (w := (wd.alloc o).drew) ((Below.heap_alloc wd o w1.heap.size hl2).trans hT.out) 0
        have HOA := hide hownA
        have HOB := hide hownB
        clear ag hownB hx0
        go_wp2
        go_region_law ((refine step_append_lies _ (by rfl) _ _ _ (by rfl) (w1.heap.size + 1) 2 i0 _ 1 8 Try.underlying22 hi hz0 hz1 hz2 rfl (by omega) (.slice GA (kpL y k).length dA) (kpL y k).length xs (by rfl) ((hownA.alloc _).drew) ⟨wd.heap.size, 0, none⟩ 1 1 [.int .i64 x0] (by rfl) (by rfl) (World.news_of_block (cs := #[.int .i64 x0]) (t := 2) (fr := (0, 0)) (heap_alloc_new wd _)) (by simp [Value.oneCell']) (by omega) hn63 hby (by simp; omega) (wd.heap.size + 1) (by simp) ?_; intro gg cap w5 hown1 hgrow hat hlt5; have ht5 := (hgrow.block w1.heap.size (by simp; omega) (Ne.symm a2)).trans ((Below.heap_alloc wd _ w1.heap.size hl2).trans hT.out); have c50 := Joins.cell_of_block ht5 0; have f50 := Joins.unfrozen_of_block ht5 0; simp at c50)) 
        all_goals (
          have hgT : ¬ gg = w1.heap.size := by have := (hown1.lt gg rfl).1; omega
          have hrB := World.ownsRow.kept (w := (wd.alloc (.cells #[.int .i64 x0] 2)).drew) (HOB.out.alloc _) hgrow hap.out.symm.ne
          have hapN := hap.out.step (s := wd.heap.size + 1) (fun k' hk' => by have := (HOB.out.lt k' hk').2; omega) (A' := (Value.slice (some ⟨gg, 0, none⟩) ((kpL y k).length + 1) cap).ownBlock) (by rcases hat with h | h <;> simp [Value.ownBlock, h] <;> simp_all [Value.ownBlock])
          obtain ⟨W6, hW6⟩ : ∃ u : World, u = w5.setCell ⟨w1.heap.size, 0, none⟩ (.slice (some ⟨gg, 0, none⟩) ((kpL y k).length + 1) cap) := ⟨_, rfl⟩
          have ht6 : W6.heap[w1.heap.size]? = some (.cells #[.slice (some ⟨gg, 0, none⟩) ((kpL y k).length + 1) cap, .slice GB (kpL y k).length dB] 26 (0, 0)) := by rw [hW6]; exact Joins.block_setCell (i := 0) ht5 _
          have hA6 : W6.ownsRow (w1.heap.size + 1) 2 1 (.slice (some ⟨gg, 0, none⟩) ((kpL y k).length + 1) cap) ((kpL y k).length + 1) (xs ++ [Value.int .i64 x0]) := by rw [hW6]; exact hown1.kept (grown_set2 _ _ _) (.inr (by simp [Value.ownBlock]; omega))
          have hB6 : W6.ownsRow (w1.heap.size + 1) 2 1 (.slice GB (kpL y k).length dB) (kpL y k).length ys := by
            rw [hW6]
            refine hrB.kept (grown_set2 _ _ _) ?_
            cases GB with
            | none => exact .inl rfl
            | some a => exact .inr (by have := (hrB.lt a.block rfl).1; simp [Value.ownBlock]; omega)
          have hb6 : Below w1.heap.size w1 W6 := by
            rw [hW6]
            have hd : Below w1.heap.size w1 ((wd.alloc (.cells #[.int .i64 x0] 2)).drew) := by
              have h := HBEL.out.alloc HBEL.out.size (.cells #[.int .i64 x0] 2)
              exact ⟨h.os, h.tape, h.output, h.size, h.block⟩
            exact (hd.grown hgrow (by simp; omega) (fun j hj => by have := (hownA.lt j hj).1; omega)).setCell (by exact Nat.le_refl _) _
          have hz6 := hb6.size
          have hz6' : w1.heap.size + 1 ≤ W6.heap.size := by have := (hA6.lt gg rfl); omega
          have c61 := Joins.cell_of_block ht6 1
          simp at c61
          rw [← hW6]
          have HT6 := hide ht6
          have HA6 := hide hA6
          have HB6 := hide hB6
          have HBB6 := hide hb6
          have HAPN := hide hapN
          have hll : (kpL y k).length ≤ k := kpL_len y k
          have HLX := hide (show xs.length = (kpL y k).length by have := hownA.1; omega)
          have HLY := hide (show ys.length = (kpL y k).length by have := HOB.out.1; omega)
          clear hW6 ht6 hA6 hb6 hapN hown1 hgrow hat hlt5 ht5 f50 c50 hgT hrB
          have q16 := (HBB6.out.cell (p := ⟨w.heap.size, 1, none⟩) (by show w.heap.size < _; omega)).trans ((hbel2.cell (p := ⟨w.heap.size, 1, none⟩) (by show w.heap.size < _; omega)).symm.trans q1)
          have hcb6 := (HBB6.out.cell (p := ⟨bb, offb + k, none⟩) hbb).trans ((hbel2.cell (p := ⟨bb, offb + k, none⟩) hbb).symm.trans hcb)
          have hn63b : (kpL y k).length + 1 ≤ maxLen := hn63
          have ht6' := HT6.out
          have a26 : (Value.slice GB (kpL y k).length dB).ownBlock ≠ some w1.heap.size := fun e => by have := (hB6.lt w1.heap.size e).1; omega
          have hl26 : w1.heap.size < W6.heap.size := by omega
          clear hca hcb g0 g1 q0 q1 hT hownA hbel2
          go_wp2
          go_region_law ((refine step_append_lies _ (by rfl) _ _ _ (by rfl) (w1.heap.size + 1) 2 i0 _ 1 8 Try.underlying22 hi hz0 hz1 hz2 rfl (by omega) (.slice GB (kpL y k).length dB) (kpL y k).length ys (by rfl) ((hB6.alloc _).drew) ⟨W6.heap.size, 0, none⟩ 1 1 [.int .i64 (y k)] (by rfl) (by rfl) (World.news_of_block (cs := #[.int .i64 (y k)]) (t := 2) (fr := (0, 0)) (heap_alloc_new W6 _)) (by simp [Value.oneCell']) (by omega) hn63b hby (by simp; omega) (W6.heap.size + 1) (by simp) ?_; intro g7 c7 w7 hown7 hgrow7 hat7 hlt7; have ht7 := (hgrow7.block w1.heap.size (by simp; omega) (Ne.symm a26)).trans ((Below.heap_alloc W6 _ w1.heap.size hl26).trans ht6'); have c71 := Joins.cell_of_block ht7 1; have f71 := Joins.unfrozen_of_block ht7 1; simp at c71))
          all_goals (
            have hA7 := World.ownsRow.kept (w := (W6.alloc (.cells #[.int .i64 (y k)] 2)).drew) (HA6.out.alloc _) hgrow7 HAPN.out.ne
            have hap7 := (HAPN.out.symm.step (s := W6.heap.size + 1) (fun k' hk' => by have := (HA6.out.lt k' hk').2; omega) (A' := (Value.slice (some ⟨g7, 0, none⟩) ((kpL y k).length + 1) c7).ownBlock) (by rcases hat7 with h | h <;> simp [Value.ownBlock, h] <;> simp_all [Value.ownBlock])).symm
            have hd6 : Below w1.heap.size w1 ((W6.alloc (.cells #[.int .i64 (y k)] 2)).drew) := by
              have h := HBB6.out.alloc HBB6.out.size (.cells #[.int .i64 (y k)] 2)
              exact ⟨h.os, h.tape, h.output, h.size, h.block⟩
            have HT8 := hide (show (w7.setCell ⟨w1.heap.size, 1, none⟩ (.slice (some ⟨g7, 0, none⟩) ((kpL y k).length + 1) c7)).heap[w1.heap.size]? = some (.cells #[.slice (some ⟨gg, 0, none⟩) ((kpL y k).length + 1) cap, .slice (some ⟨g7, 0, none⟩) ((kpL y k).length + 1) c7] 26 (0, 0)) from Joins.block_setCell (i := 1) ht7 _)
            have HA8 := hide (hA7.kept (grown_set2 w7 ⟨w1.heap.size, 1, none⟩ (.slice (some ⟨g7, 0, none⟩) ((kpL y k).length + 1) c7)) (.inr (by have := (hA7.lt gg rfl).1; simp [Value.ownBlock]; omega)))
            have HB8 := hide (hown7.kept (grown_set2 w7 ⟨w1.heap.size, 1, none⟩ (.slice (some ⟨g7, 0, none⟩) ((kpL y k).length + 1) c7)) (.inr (by have := (hown7.lt g7 rfl).1; simp [Value.ownBlock]; omega)))
            have HBB8 := hide ((hd6.grown hgrow7 (by simp; omega) (fun j hj => by have := (hB6.lt j hj).1; omega)).setCell (p := ⟨w1.heap.size, 1, none⟩) (by exact Nat.le_refl _) (.slice (some ⟨g7, 0, none⟩) ((kpL y k).length + 1) c7))
            have HAP8 := hide hap7
            have HZ8 := hide (show w1.heap.size + 1 ≤ (w7.setCell ⟨w1.heap.size, 1, none⟩ (.slice (some ⟨g7, 0, none⟩) ((kpL y k).length + 1) c7)).heap.size by have := (HA8.out.lt gg rfl); omega)
            clear hown7 hgrow7 hat7 ht7 hA7 hap7 hB6
            go_wp2
            go_roundw
            case rel => exact ⟨k + 1, xs ++ [.int .i64 x0], ys ++ [.int .i64 (y k)], some ⟨gg, 0, none⟩, some ⟨g7, 0, none⟩, cap, c7, by omega, by go_num, by rw [HKP.out, List.length_append]; exact HT8.out, by rw [HKP.out, List.length_append]; exact HA8.out, by rw [HKP.out, List.length_append]; exact HB8.out, by rw [HKP.out, List.length_append]; exact HAP8.out, by
              rw [HKP.out, List.length_append]
              exact own_step HLX.out (fun j hj => by rw [hxs.out j hj, kv_left hj]) (by rw [kv_new, HX0.out]), by
              rw [HKP.out, List.length_append]
              exact own_step HLY.out (fun j hj => by rw [hys.out j hj, kv_left hj]) (by rw [kv_new]), HBB8.out, HZ8.out⟩
            case measure => simp [intOf]; omega))

    · obtain rfl : n' = k := by omega
      have g0 := Joins.cell_of_block hT.out 0
      have g1 := Joins.cell_of_block hT.out 1
      have hR := blk_below hbel (by omega) HR1.out
      have q0 := Joins.cell_of_block (blk_below hbel (by omega) HX1.out) 0
      simp at q0
      have r0 := Joins.cell_of_block hR 0
      have r1 := Joins.cell_of_block hR 1
      have f0 := Joins.unfrozen_of_block hR 0
      have f1 := Joins.unfrozen_of_block hR 1
      simp at g0 g1 r0 r1 f0 f1
      have HRR := hide hR
      have HBEL := hide (HB1.out.trans (hbel.mono (by omega)))
      have ha : ∀ (v : Value) (m d : Nat) (G : Option Addr) (zs : List Value), v = .slice G m d → wr.ownsRow (w1.heap.size + 1) 2 1 v m zs → ((wr.setCell ⟨w.heap.size + 1, 0, none⟩ (.slice GA (kpL y n').length dA)).setCell ⟨w.heap.size + 1, 1, none⟩ (.slice GB (kpL y n').length dB)).ownsRow (w1.heap.size + 1) 2 1 v m zs := fun v m d G zs e h => by
        have hne : v.ownBlock = none ∨ v.ownBlock ≠ some (w.heap.size + 1) := by
          subst e
          cases G with
          | none => exact .inl rfl
          | some a => exact .inr (by have := (h.lt a.block rfl).1; simp [Value.ownBlock]; omega)
        exact (h.kept (grown_set2 _ _ _) hne).kept (grown_set2 _ _ _) hne
      have HOA := hide ((OW.of_owns (f := fun j => .int .i64 (kv x (kpL y n') j)) (ha _ _ _ _ _ rfl hownA) hxs.out).wide (show w.heap.size ≤ _ by omega) (Nat.le_refl _))
      have HOB := hide ((OW.of_owns (f := fun j => .int .i64 (kv y (kpL y n') j)) (ha _ _ _ _ _ rfl hownB) hys.out).wide (show w.heap.size ≤ _ by omega) (Nat.le_refl _))
      have HNE := hide (show (kpL y n').length ≠ 0 → GA ≠ GB from fun h1 h2 => by
        subst h2
        rcases hownA.2 with ⟨h3, h4⟩ | ⟨g, cp, cur, h3, _⟩
        · exact h1 h4
        · injection h3 with h3
          subst h3
          rcases hap.out with h5 | h5 | h5
          · cases h5
          · cases h5
          · exact h5 rfl)
      have HE0 := hide (show ((wr.setCell ⟨w.heap.size + 1, 0, none⟩ (.slice GA (kpL y n').length dA)).setCell ⟨w.heap.size + 1, 1, none⟩ (.slice GB (kpL y n').length dB)).heap[w.heap.size + 1]? = some (.cells #[.slice GA (kpL y n').length dA, .slice GB (kpL y n').length dB] 26 (0, 0)) from Joins.block_setCell (i := 1) (Joins.block_setCell (i := 0) HRR.out _) _)
      have z0 := Joins.cell_of_block HE0.out 0
      have z1 := Joins.cell_of_block HE0.out 1
      simp at z0 z1
      have Z0 := hide z0
      have Z1 := hide z1
      clear hbel hownA hownB hR ha z0 z1
      go_wp2
      refine bodyPost_ret (v := .tuple #[.agg #[.slice GA (kpL y n').length dA, .slice GB (kpL y n').length dB], .bool true]) (by simp [results, Try.results16, go_sem, Z0.out, Z1.out]) rfl (gavet_yes HH.out ⟨HOA.out, HOB.out, fun h _ => HNE.out h⟩ ?_)
      exact (HBEL.out.setCell (by simp) _).setCell (by simp) _
end Go.Proofs.Ytdiilihodhmbgaa
