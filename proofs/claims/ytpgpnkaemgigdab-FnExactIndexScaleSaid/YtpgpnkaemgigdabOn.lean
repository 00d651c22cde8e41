/- The reference's own copy of a scale. -/
import Derived.Test.YtpgpnkaemgigdabEb
import Derived.Deep.RegionLaw
import Derived.Deep.RegionLawGrows
import Derived.Deep.RegionHeld3
namespace Go.Proofs.Ytpgpnkaemgigdab
open Go.RowKit Go.Dues
theorem src_cells {w W : World} {b off n : Nat} {f : Nat → Value} (h : b < w.heap.size ∧ ∀ j, j < n → w.cell? ⟨b, off + j, none⟩ = some (f j)) (hbel : Below w.heap.size w W) : ∀ j u, ((List.range n).map f)[j]? = some u → W.cell? ((⟨b, off, none⟩ : Addr).add j) = some u := by
  intro j u hj
  rw [List.getElem?_map] at hj
  have hjn : j < n := by
    rcases Nat.lt_or_ge j n with h | h
    · exact h
    · rw [List.getElem?_eq_none (by simpa using h)] at hj; cases hj
  rw [List.getElem?_range hjn] at hj
  simp at hj
  subst hj
  have ha : (⟨b, off, none⟩ : Addr).add j = ⟨b, off + j, none⟩ := by
    unfold Addr.add
    split
    · rename_i h; subst h; rfl
    · rfl
  rw [ha, hbel.cell (p := ⟨b, off + j, none⟩) h.1]
  exact h.2 j hjn
theorem row_at (n : Nat) (x : Nat → Int) : ∀ j, j < n → ((List.range n).map fun j => Value.int .i64 (x j))[j]? = some (.int .i64 (x j)) := by
  intro j hj
  rw [List.getElem?_map, List.getElem?_range hj]; rfl
theorem ow2_of {w : World} {lo hi l1 h1 l2 h2 n n' : Nat} {A A' : Option Addr} {x x' : Nat → Int} (a : OW w l1 h1 A n (fun j => .int .i64 (x j))) (b : OW w l2 h2 A' n' (fun j => .int .i64 (x' j))) (d : h1 ≤ l2 ∨ h2 ≤ l1) (e1 : lo ≤ l1) (e2 : h1 ≤ hi) (e3 : lo ≤ l2) (e4 : h2 ≤ hi) : OW2 w lo hi A n x A' n' x' := by
  refine ⟨a.wide e1 e2, b.wide e3 e4, fun hn hn' he => ?_⟩
  rcases a with a | ⟨g, cs, t, a1, a2, a3, _⟩
  · exact hn a
  rcases b with b | ⟨g', cs', t', b1, b2, b3, _⟩
  · exact hn' b
  rw [a1, b1] at he
  injection he with he
  injection he with he
  omega
theorem one_cells (n : Nat) (x : Nat → Int) : ∀ u ∈ ((List.range n).map fun j => Value.int .i64 (x j)), u.oneCell' = true := by
  intro u hu; rw [List.mem_map] at hu; obtain ⟨j, _, rfl⟩ := hu; rfl

set_option maxRecDepth 100000 in
set_option maxHeartbeats 8000000 in
theorem specOwn_any (b : Nat) (A A' : Option Addr) (n c n' c' : Nat) (x y : Nat → Int) (w : World) (hc0 : w.cell? ⟨b, 0, none⟩ = some (.slice A n c)) (hc1 : w.cell? ⟨b, 1, none⟩ = some (.slice A' n' c')) (hbl : b < w.heap.size)
    (hs : SL w A n (fun j => .int .i64 (x j))) (hs' : SL w A' n' (fun j => .int .i64 (y j))) (h1 : 1 ≤ n) (h2 : n ≤ 8) (h1' : 1 ≤ n') (h2' : n' ≤ 8) :
    Calls Try.prog 58 #[.pointer (some ⟨b, 0, none⟩)] w fun e w' => ∃ G d G' d', e = .returned (.agg #[.slice G n d, .slice G' n' d']) ∧ OW2 w' w.heap.size w'.heap.size G n x G' n' y ∧ Below w.heap.size w w' := by
  obtain ⟨i0, hi, hz0, hz1, hz2⟩ := info_parts Try.infoI64
  obtain ⟨b1, off1, rfl, hb1, hx⟩ := hs.at_ (by omega)
  obtain ⟨b2, off2, rfl, hb2, hy⟩ := hs'.at_ (by omega)
  clear hs hs'
  obtain ⟨w0, hw0⟩ : ∃ u, u = w.alloc (.cells #[.slice none 0 0, .slice none 0 0] 28) := ⟨_, rfl⟩
  have HB0 : Hid (Below w.heap.size w w0) := by rw [hw0]; exact (Below.refl _ _).alloc (Nat.le_refl _) _
  have HR : Hid (w0.heap[w.heap.size]? = some (.cells #[.slice none 0 0, .slice none 0 0] 28)) := by rw [hw0]; exact blocks1 w _
  have zz : w.heap.size + 1 ≤ w0.heap.size := by rw [hw0]; simp
  have HSX := hide (show b1 < w0.heap.size ∧ ∀ j, j < n → w0.cell? ⟨b1, off1 + j, none⟩ = some (.int .i64 (x j)) from ⟨by omega, fun j hj => (HB0.out.cell (p := ⟨b1, off1 + j, none⟩) hb1).trans (hx j hj)⟩)
  have HSY := hide (show b2 < w0.heap.size ∧ ∀ j, j < n' → w0.cell? ⟨b2, off2 + j, none⟩ = some (.int .i64 (y j)) from ⟨by omega, fun j hj => (HB0.out.cell (p := ⟨b2, off2 + j, none⟩) hb2).trans (hy j hj)⟩)
  have HBW := hide (Below.refl w0.heap.size w0)
  have SK := hide (show ∀ u, Below w.heap.size w u → u.cell? ⟨b, 0, none⟩ = some (.slice (some ⟨b1, off1, none⟩) n c) ∧ u.cell? ⟨b, 1, none⟩ = some (.slice (some ⟨b2, off2, none⟩) n' c') from fun u hu => ⟨(hu.cell (p := ⟨b, 0, none⟩) hbl).trans hc0, (hu.cell (p := ⟨b, 1, none⟩) hbl).trans hc1⟩)
  have HC0 := HB0
  clear hc0 hc1 hx hy
  have HW := hide hw0
  clear hw0
  go_enter Try.func58, Try.ntmps58
  go_wp2_with fail
  rw [← HW.out]
  clear HW
  go_region_held3 (fun u => u.cell? ⟨b, 0, none⟩ = some (.slice (some ⟨b1, off1, none⟩) n c) ∧ u.cell? ⟨b, 1, none⟩ = some (.slice (some ⟨b2, off2, none⟩) n' c')) ((exact SK.out _ (by repeat (first | exact HC0.out | exact HC1.out | exact HC2.out | refine Below.alloc ?_ (by first | omega | (simp; done) | (simp; omega)) _ | refine Below.drew ?_ | refine Below.setCell ?_ (by simp) _)))) (first
    | (refine step_append_grows (by rfl) (.tmp 3) (.tmp 7) _ (by rfl) 2 i0 (.int .i64 0) 1 8 Try.underlying22 hi hz0 hz1 hz2 rfl (by decide) _ 0 0 [] (by rfl) (fun h => by cases h) (by rfl) (fun _ _ j u hj => by cases hj) ⟨b1, off1, none⟩ n c ((List.range n).map fun j => .int .i64 (x j)) (by rfl) (by simp) (src_cells HSX.out (by repeat (first | exact HBW.out | exact HB1.out | exact HB2.out | refine Below.alloc ?_ (by first | omega | (simp; done) | (simp; omega)) _ | refine Below.drew ?_))) (one_cells _ _) (by omega) (by unfold maxLen; omega) (by omega) ?_; intro v1 w1 ho hg; rw [Nat.zero_add, List.nil_append] at ho; obtain ⟨G1, d1, rfl⟩ := own_shape ho; have HQ1 := hide (OW.of_owns ho (row_at n x)); have HB1 := hide (Below.grown (show Below w0.heap.size w0 _ from (by repeat (first | exact HBW.out | exact HB1.out | exact HB2.out | refine Below.alloc ?_ (by first | omega | (simp; done) | (simp; omega)) _ | refine Below.drew ?_))) hg (by first | omega | (simp; done) | (simp; omega)) (fun _ h => by cases h)); have HC1 := hide (HB0.out.trans (HB1.out.mono (by omega))); have z1 := HB1.out.size; (try have HP1 := hide (HQ2.out.below (Below.grown (show Below w2.heap.size w2 _ from (by repeat (first | exact Below.refl _ _ | refine Below.alloc ?_ (by first | omega | (simp; done) | (simp; omega)) _ | refine Below.drew ?_))) hg (by first | omega | (simp; done) | (simp; omega)) (fun _ h => by cases h)))); (try have y1 := (Below.grown (show Below w2.heap.size w2 _ from (by repeat (first | exact Below.refl _ _ | refine Below.alloc ?_ (by first | omega | (simp; done) | (simp; omega)) _ | refine Below.drew ?_))) hg (by first | omega | (simp; done) | (simp; omega)) (fun _ h => by cases h)).size); have p0 := Joins.cell_of_block (blk_below HB1.out (by omega) HR.out) 0; have p1 := Joins.cell_of_block (blk_below HB1.out (by omega) HR.out) 1; have q0 := Joins.unfrozen_of_block (blk_below HB1.out (by omega) HR.out) 0; have q1 := Joins.unfrozen_of_block (blk_below HB1.out (by omega) HR.out) 1; simp at p0 p1 q0 q1; clear ho hg)
    | (refine step_append_grows (by rfl) (.tmp 9) (.tmp 13) _ (by rfl) 2 i0 (.int .i64 0) 1 8 Try.underlying22 hi hz0 hz1 hz2 rfl (by decide) _ 0 0 [] (by rfl) (fun h => by cases h) (by rfl) (fun _ _ j u hj => by cases hj) ⟨b2, off2, none⟩ n' c' ((List.range n').map fun j => .int .i64 (y j)) (by rfl) (by simp) (src_cells HSY.out (by repeat (first | exact HBW.out | exact HB1.out | exact HB2.out | refine Below.alloc ?_ (by first | omega | (simp; done) | (simp; omega)) _ | refine Below.drew ?_))) (one_cells _ _) (by omega) (by unfold maxLen; omega) (by omega) ?_; intro v2 w2 ho hg; rw [Nat.zero_add, List.nil_append] at ho; obtain ⟨G2, d2, rfl⟩ := own_shape ho; have HQ2 := hide (OW.of_owns ho (row_at n' y)); have HB2 := hide (Below.grown (show Below w0.heap.size w0 _ from (by repeat (first | exact HBW.out | exact HB1.out | exact HB2.out | refine Below.alloc ?_ (by first | omega | (simp; done) | (simp; omega)) _ | refine Below.drew ?_))) hg (by first | omega | (simp; done) | (simp; omega)) (fun _ h => by cases h)); have HC2 := hide (HB0.out.trans (HB2.out.mono (by omega))); have z2 := HB2.out.size; (try have HP2 := hide (HQ1.out.below (Below.grown (show Below w1.heap.size w1 _ from (by repeat (first | exact Below.refl _ _ | refine Below.alloc ?_ (by first | omega | (simp; done) | (simp; omega)) _ | refine Below.drew ?_))) hg (by first | omega | (simp; done) | (simp; omega)) (fun _ h => by cases h)))); (try have y2 := (Below.grown (show Below w1.heap.size w1 _ from (by repeat (first | exact Below.refl _ _ | refine Below.alloc ?_ (by first | omega | (simp; done) | (simp; omega)) _ | refine Below.drew ?_))) hg (by first | omega | (simp; done) | (simp; omega)) (fun _ h => by cases h)).size); have p0 := Joins.cell_of_block (blk_below HB2.out (by omega) HR.out) 0; have p1 := Joins.cell_of_block (blk_below HB2.out (by omega) HR.out) 1; have q0 := Joins.unfrozen_of_block (blk_below HB2.out (by omega) HR.out) 0; have q1 := Joins.unfrozen_of_block (blk_below HB2.out (by omega) HR.out) 1; simp at p0 p1 q0 q1; clear ho hg))
  all_goals
    go_wp2
    first
    | (have R := Joins.block_setCell (Joins.block_setCell (blk_below HB2.out (by omega) HR.out) (i := 0) (.slice G1 n d1)) (i := 1) (.slice G2 n' d2)
       have k3 := Joins.cell_of_block R 0
       have k4 := Joins.cell_of_block R 1
       simp at k3 k4
       refine bodyPost_ret (v := .agg #[.slice G1 n d1, .slice G2 n' d2]) (by simp [results, Try.results58, go_sem, k3, k4]) rfl ⟨G1, d1, G2, d2, rfl, ?_, ?_⟩
       · exact ow2_of ((HP2.out.setCell (.inl (by first | omega | (simp; done) | (simp; omega)))).setCell (.inl (by first | omega | (simp; done) | (simp; omega)))) ((HQ2.out.setCell (.inl (by first | omega | (simp; done) | (simp; omega)))).setCell (.inl (by first | omega | (simp; done) | (simp; omega)))) (by first | omega | (simp; done) | (simp; omega)) (by first | omega | (simp; done) | (simp; omega)) (by first | omega | (simp; done) | (simp; omega)) (by first | omega | (simp; done) | (simp; omega)) (by first | omega | (simp; done) | (simp; omega))
       · exact (HC2.out.setCell (by simp) _).setCell (by simp) _)
    | (have R := Joins.block_setCell (Joins.block_setCell (blk_below HB1.out (by omega) HR.out) (i := 0) (.slice G1 n d1)) (i := 1) (.slice G2 n' d2)
       have k3 := Joins.cell_of_block R 0
       have k4 := Joins.cell_of_block R 1
       simp at k3 k4
       refine bodyPost_ret (v := .agg #[.slice G1 n d1, .slice G2 n' d2]) (by simp [results, Try.results58, go_sem, k3, k4]) rfl ⟨G1, d1, G2, d2, rfl, ?_, ?_⟩
       · exact ow2_of ((HQ1.out.setCell (.inl (by first | omega | (simp; done) | (simp; omega)))).setCell (.inl (by first | omega | (simp; done) | (simp; omega)))) ((HP1.out.setCell (.inl (by first | omega | (simp; done) | (simp; omega)))).setCell (.inl (by first | omega | (simp; done) | (simp; omega)))) (by first | omega | (simp; done) | (simp; omega)) (by first | omega | (simp; done) | (simp; omega)) (by first | omega | (simp; done) | (simp; omega)) (by first | omega | (simp; done) | (simp; omega)) (by first | omega | (simp; done) | (simp; omega))
       · exact (HC1.out.setCell (by simp) _).setCell (by simp) _)
end Go.Proofs.Ytpgpnkaemgigdab
