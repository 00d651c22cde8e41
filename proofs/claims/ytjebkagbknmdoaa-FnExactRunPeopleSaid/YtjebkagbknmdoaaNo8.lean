/- The reference's own people with other counts. -/
import Derived.Test.YtjebkagbknmdoaaNp8
import Derived.Deep.RegionLaw
import Derived.Deep.RegionLawGrows
import Derived.Deep.RegionHeld3
namespace Go.Proofs.Ytjebkagbknmdoaa
open Go.RowKit Go.Dues
theorem src_cells8 {w W : World} {b off n : Nat} {f : Nat → Value} (h : b < w.heap.size ∧ ∀ j, j < n → w.cell? ⟨b, off + j, none⟩ = some (f j)) (hbel : Below w.heap.size w W) : ∀ j u, ((List.range n).map f)[j]? = some u → W.cell? ((⟨b, off, none⟩ : Addr).add j) = some u := by
  intro j u hj
  rw [List.getElem?_map] at hj
  have hjn : j < n := by
    rcases Nat.lt_or_ge j n with h | h
    · exact h
    · rw [List.getElem?_eq_none (by simpa using h)] at hj; cases hj
  rw [List.getElem?_range hjn] at hj
  simp at hj
  subst hj
  have ha : (⟨b, off, none⟩ : Addr).add j = ⟨b, off + j, none⟩ := by
    unfold Addr.add
    split
    · rename_i h; subst h; rfl
    · rfl
  rw [ha, hbel.cell (p := ⟨b, off + j, none⟩) h.1]
  exact h.2 j hjn
theorem row_at8 (n : Nat) (x : Nat → Nat) : ∀ j, j < n → ((List.range n).map fun j => Value.float .f32 (x j))[j]? = some (.float .f32 (x j)) := by
  intro j hj
  rw [List.getElem?_map, List.getElem?_range hj]; rfl
theorem one_cells8 (n : Nat) (x : Nat → Nat) : ∀ u ∈ ((List.range n).map fun j => Value.float .f32 (x j)), u.oneCell' = true := by
  intro u hu; rw [List.mem_map] at hu; obtain ⟨j, _, rfl⟩ := hu; rfl

set_option maxRecDepth 100000 in
set_option maxHeartbeats 8000000 in
theorem specOwn7_any (b : Nat) (A A' : Option Addr) (n c n' c' : Nat) (Q : Option Addr) (q cq : Nat) (x y : Nat → Nat) (w : World) (hc0 : w.cell? ⟨b, 1, none⟩ = some (.slice A n c)) (hc1 : w.cell? ⟨b, 2, none⟩ = some (.slice A' n' c')) (hbl : b < w.heap.size)
    (hs : SL w A n (fun j => .float .f32 (x j))) (hs' : SL w A' n' (fun j => .float .f32 (y j))) (h1 : 1 ≤ n) (h2 : n ≤ 12) (h1' : 1 ≤ n') (h2' : n' ≤ 12) :
    Calls Try.prog 85 #[.pointer (some ⟨b, 0, none⟩), .slice Q q cq] w fun e w' => ∃ G d G' d', ∃ l1 u1 l2 u2, e = .returned (.agg #[.slice Q q cq, .slice G n d, .slice G' n' d']) ∧ OW w' l1 u1 G n (fun j => .float .f32 (x j)) ∧ OW w' l2 u2 G' n' (fun j => .float .f32 (y j)) ∧ (w.heap.size ≤ l1 ∧ l1 ≤ u1 ∧ u1 ≤ w'.heap.size) ∧ (w.heap.size ≤ l2 ∧ l2 ≤ u2 ∧ u2 ≤ w'.heap.size) ∧ (u1 ≤ l2 ∨ u2 ≤ l1) ∧ Below w.heap.size w w' := by
  obtain ⟨i0, hi, hz0, hz1, hz2⟩ := info_parts Try.infoF
  obtain ⟨b1, off1, rfl, hb1, hx⟩ := hs.at_ (by omega)
  obtain ⟨b2, off2, rfl, hb2, hy⟩ := hs'.at_ (by omega)
  clear hs hs'
  obtain ⟨w0, hw0⟩ : ∃ u, u = w.alloc (.cells #[.slice none 0 0, .slice none 0 0, .slice none 0 0] 49) := ⟨_, rfl⟩
  have HB0 : Hid (Below w.heap.size w w0) := by rw [hw0]; exact (Below.refl _ _).alloc (Nat.le_refl _) _
  have HR : Hid (w0.heap[w.heap.size]? = some (.cells #[.slice none 0 0, .slice none 0 0, .slice none 0 0] 49)) := by rw [hw0]; exact blocks1 w _
  have zz : w.heap.size + 1 ≤ w0.heap.size := by rw [hw0]; simp
  have HSX := hide (show b1 < w0.heap.size ∧ ∀ j, j < n → w0.cell? ⟨b1, off1 + j, none⟩ = some (.float .f32 (x j)) from ⟨by omega, fun j hj => (HB0.out.cell (p := ⟨b1, off1 + j, none⟩) hb1).trans (hx j hj)⟩)
  have HSY := hide (show b2 < w0.heap.size ∧ ∀ j, j < n' → w0.cell? ⟨b2, off2 + j, none⟩ = some (.float .f32 (y j)) from ⟨by omega, fun j hj => (HB0.out.cell (p := ⟨b2, off2 + j, none⟩) hb2).trans (hy j hj)⟩)
  have HBW := hide (Below.refl w0.heap.size w0)
  have SK := hide (show ∀ u, Below w.heap.size w u → u.cell? ⟨b, 1, none⟩ = some (.slice (some ⟨b1, off1, none⟩) n c) ∧ u.cell? ⟨b, 2, none⟩ = some (.slice (some ⟨b2, off2, none⟩) n' c') from fun u hu => ⟨(hu.cell (p := ⟨b, 1, none⟩) hbl).trans hc0, (hu.cell (p := ⟨b, 2, none⟩) hbl).trans hc1⟩)
  have HC0 := HB0
  clear hc0 hc1 hx hy
  have HW := hide hw0
  clear hw0
  go_enter Try.func85, Try.ntmps85
  go_wp2_with fail
  rw [← HW.out]
  clear HW
  go_region_held3 (fun u => u.cell? ⟨b, 1, none⟩ = some (.slice (some ⟨b1, off1, none⟩) n c) ∧ u.cell? ⟨b, 2, none⟩ = some (.slice (some ⟨b2, off2, none⟩) n' c')) ((exact SK.out _ (by repeat (first | with_reducible refine Below.setCell ?_ (by simp) _ | with_reducible exact HC0.out | with_reducible exact HC1.out | with_reducible exact HC2.out | with_reducible refine Below.alloc ?_ (by first | omega | (simp; done) | (simp; omega)) _ | refine Below.drew ?_)))) (first
    | (refine step_append_grows (by rfl) (.tmp 6) (.tmp 10) _ (by rfl) 62 i0 (.float .f32 0) 1 4 Try.underlying45 hi hz0 hz1 hz2 rfl (by decide) _ 0 0 [] (by rfl) (fun h => by cases h) (by rfl) (fun _ _ j u hj => by cases hj) ⟨b1, off1, none⟩ n c ((List.range n).map fun j => .float .f32 (x j)) (by rfl) (by simp) (src_cells8 HSX.out (by repeat (first | exact HBW.out | exact HB1.out | exact HB2.out | refine Below.alloc ?_ (by first | omega | (simp; done) | (simp; omega)) _ | refine Below.drew ?_))) (one_cells8 _ _) (by omega) (by unfold maxLen; omega) (by omega) ?_; intro v1 w1 ho hg; rw [Nat.zero_add, List.nil_append] at ho; obtain ⟨G1, d1, rfl⟩ := own_shape ho; have HQ1 := hide (OW.of_owns ho (row_at8 n x)); have HB1 := hide (Below.grown (show Below w0.heap.size w0 _ from (by repeat (first | exact HBW.out | exact HB1.out | exact HB2.out | refine Below.alloc ?_ (by first | omega | (simp; done) | (simp; omega)) _ | refine Below.drew ?_))) hg (by first | omega | (simp; done) | (simp; omega)) (fun _ h => by cases h)); have HC1 := hide (HB0.out.trans (HB1.out.mono (by omega))); have z1 := HB1.out.size; (try have HP1 := hide (HQ2.out.below (Below.grown (show Below w2.heap.size w2 _ from (by repeat (first | exact Below.refl _ _ | refine Below.alloc ?_ (by first | omega | (simp; done) | (simp; omega)) _ | refine Below.drew ?_))) hg (by first | omega | (simp; done) | (simp; omega)) (fun _ h => by cases h)))); (try have y1 := (Below.grown (show Below w2.heap.size w2 _ from (by repeat (first | exact Below.refl _ _ | refine Below.alloc ?_ (by first | omega | (simp; done) | (simp; omega)) _ | refine Below.drew ?_))) hg (by first | omega | (simp; done) | (simp; omega)) (fun _ h => by cases h)).size); have p0 := Joins.cell_of_block (blk_below HB1.out (by omega) HR.out) 0; have p1 := Joins.cell_of_block (blk_below HB1.out (by omega) HR.out) 1; have p2 := Joins.cell_of_block (blk_below HB1.out (by omega) HR.out) 2; have q2 := Joins.unfrozen_of_block (blk_below HB1.out (by omega) HR.out) 2; have q0 := Joins.unfrozen_of_block (blk_below HB1.out (by omega) HR.out) 0; have q1 := Joins.unfrozen_of_block (blk_below HB1.out (by omega) HR.out) 1; simp at p0 p1 p2 q0 q1 q2; clear ho hg)
    | (refine step_append_grows (by rfl) (.tmp 12) (.tmp 16) _ (by rfl) 62 i0 (.float .f32 0) 1 4 Try.underlying45 hi hz0 hz1 hz2 rfl (by decide) _ 0 0 [] (by rfl) (fun h => by cases h) (by rfl) (fun _ _ j u hj => by cases hj) ⟨b2, off2, none⟩ n' c' ((List.range n').map fun j => .float .f32 (y j)) (by rfl) (by simp) (src_cells8 HSY.out (by repeat (first | exact HBW.out | exact HB1.out | exact HB2.out | refine Below.alloc ?_ (by first | omega | (simp; done) | (simp; omega)) _ | refine Below.drew ?_))) (one_cells8 _ _) (by omega) (by unfold maxLen; omega) (by omega) ?_; intro v2 w2 ho hg; rw [Nat.zero_add, List.nil_append] at ho; obtain ⟨G2, d2, rfl⟩ := own_shape ho; have HQ2 := hide (OW.of_owns ho (row_at8 n' y)); have HB2 := hide (Below.grown (show Below w0.heap.size w0 _ from (by repeat (first | exact HBW.out | exact HB1.out | exact HB2.out | refine Below.alloc ?_ (by first | omega | (simp; done) | (simp; omega)) _ | refine Below.drew ?_))) hg (by first | omega | (simp; done) | (simp; omega)) (fun _ h => by cases h)); have HC2 := hide (HB0.out.trans (HB2.out.mono (by omega))); have z2 := HB2.out.size; (try have HP2 := hide (HQ1.out.below (Below.grown (show Below w1.heap.size w1 _ from (by repeat (first | exact Below.refl _ _ | refine Below.alloc ?_ (by first | omega | (simp; done) | (simp; omega)) _ | refine Below.drew ?_))) hg (by first | omega | (simp; done) | (simp; omega)) (fun _ h => by cases h)))); (try have y2 := (Below.grown (show Below w1.heap.size w1 _ from (by repeat (first | exact Below.refl _ _ | refine Below.alloc ?_ (by first | omega | (simp; done) | (simp; omega)) _ | refine Below.drew ?_))) hg (by first | omega | (simp; done) | (simp; omega)) (fun _ h => by cases h)).size); have p0 := Joins.cell_of_block (blk_below HB2.out (by omega) HR.out) 0; have p1 := Joins.cell_of_block (blk_below HB2.out (by omega) HR.out) 1; have p2 := Joins.cell_of_block (blk_below HB2.out (by omega) HR.out) 2; have q2 := Joins.unfrozen_of_block (blk_below HB2.out (by omega) HR.out) 2; have q0 := Joins.unfrozen_of_block (blk_below HB2.out (by omega) HR.out) 0; have q1 := Joins.unfrozen_of_block (blk_below HB2.out (by omega) HR.out) 1; simp at p0 p1 p2 q0 q1 q2; clear ho hg))
  all_goals
    go_wp2
    first
    | (have R := Joins.block_setCell (Joins.block_setCell (Joins.block_setCell (blk_below HB2.out (by omega) HR.out) (i := 0) (.slice Q q cq)) (i := 1) (.slice G1 n d1)) (i := 2) (.slice G2 n' d2)
       have k3 := Joins.cell_of_block R 0
       have k4 := Joins.cell_of_block R 1
       have k5 := Joins.cell_of_block R 2
       simp at k3 k4 k5
       have O1 := HP2.out.wide (lo' := w0.heap.size) (hi' := w1.heap.size) (by first | omega | (simp; done) | (simp; omega)) (Nat.le_refl _)
       have O2 := HQ2.out.wide (lo' := w1.heap.size) (hi' := w2.heap.size) (by first | omega | (simp; done) | (simp; omega)) (Nat.le_refl _)
       have hC := HC2.out.size
       have g1 : w.heap.size < w0.heap.size := by omega
       have g2 : w.heap.size < w1.heap.size := by omega
       refine bodyPost_ret (v := .agg #[.slice Q q cq, .slice G1 n d1, .slice G2 n' d2]) (by simp [results, Try.results85, go_sem, k3, k4, k5]) rfl ⟨G1, d1, G2, d2, w0.heap.size, w1.heap.size, w1.heap.size, w2.heap.size, rfl, ((O1.setCell (.inl g1)).setCell (.inl g1)).setCell (.inl g1), ((O2.setCell (.inl g2)).setCell (.inl g2)).setCell (.inl g2), ?_, ?_, ?_, ?_⟩
       · refine ⟨by omega, by omega, ?_⟩
         simp
         try omega
       · refine ⟨by omega, by omega, ?_⟩
         simp
         try omega
       · omega
       · exact ((HC2.out.setCell (by simp) _).setCell (by simp) _).setCell (by simp) _)
    | (have R := Joins.block_setCell (Joins.block_setCell (Joins.block_setCell (blk_below HB1.out (by omega) HR.out) (i := 0) (.slice Q q cq)) (i := 1) (.slice G1 n d1)) (i := 2) (.slice G2 n' d2)
       have k3 := Joins.cell_of_block R 0
       have k4 := Joins.cell_of_block R 1
       have k5 := Joins.cell_of_block R 2
       simp at k3 k4 k5
       have O1 := HQ1.out.wide (lo' := w2.heap.size) (hi' := w1.heap.size) (by first | omega | (simp; done) | (simp; omega)) (Nat.le_refl _)
       have O2 := HP1.out.wide (lo' := w0.heap.size) (hi' := w2.heap.size) (by first | omega | (simp; done) | (simp; omega)) (Nat.le_refl _)
       have hC := HC1.out.size
       have g1 : w.heap.size < w2.heap.size := by omega
       have g2 : w.heap.size < w0.heap.size := by omega
       refine bodyPost_ret (v := .agg #[.slice Q q cq, .slice G1 n d1, .slice G2 n' d2]) (by simp [results, Try.results85, go_sem, k3, k4, k5]) rfl ⟨G1, d1, G2, d2, w2.heap.size, w1.heap.size, w0.heap.size, w2.heap.size, rfl, ((O1.setCell (.inl g1)).setCell (.inl g1)).setCell (.inl g1), ((O2.setCell (.inl g2)).setCell (.inl g2)).setCell (.inl g2), ?_, ?_, ?_, ?_⟩
       · refine ⟨by omega, by omega, ?_⟩
         simp
         try omega
       · refine ⟨by omega, by omega, ?_⟩
         simp
         try omega
       · omega
       · exact ((HC1.out.setCell (by simp) _).setCell (by simp) _).setCell (by simp) _)
end Go.Proofs.Ytjebkagbknmdoaa
