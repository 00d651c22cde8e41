/- GrowthOf, by the program. -/
import Derived.Test.YtpbbedelapnnnaaGn9
import Derived.BigQuiet
namespace Go.Proofs.Ytpbbedelapnnnaa
open Go.RowKit Go.Dues
attribute [local go_sem] run_store_float
/-- a row apart from a block -/
def SN (w : World) (N : Nat) (A : Option Addr) (n : Nat) (f : Nat → Value) : Prop := n = 0 ∨ ∃ b off, A = some ⟨b, off, none⟩ ∧ b ≠ N ∧ b < w.heap.size ∧ ∀ j, j < n → w.cell? ⟨b, off + j, none⟩ = some (f j)
theorem SN.sl {w : World} {N : Nat} {A : Option Addr} {n : Nat} {f : Nat → Value} (h : SN w N A n f) : SL w A n f := by
  rcases h with h | ⟨b, off, h1, _, h2, h3⟩
  · exact .inl h
  · exact .inr ⟨b, off, h1, h2, h3⟩
theorem SN.of_sl {w w' : World} {N : Nat} {A : Option Addr} {n : Nat} {f : Nat → Value} (h : SL w A n f) (hN : w.heap.size ≤ N) (hb : Below w.heap.size w w') : SN w' N A n f := by
  rcases h with h | ⟨b, off, h1, h2, h3⟩
  · exact .inl h
  · exact .inr ⟨b, off, h1, by omega, Nat.lt_of_lt_of_le h2 hb.size, fun j hj => (hb.cell (p := ⟨b, off + j, none⟩) h2).trans (h3 j hj)⟩
theorem SN.of_ow {w : World} {lo hi N : Nat} {A : Option Addr} {n : Nat} {f : Nat → Value} (h : OW w lo hi A n f) (hN : N < lo ∨ hi ≤ N) : SN w N A n f := by
  rcases h with h | ⟨g, cs, t, h1, h2, h3, h4, h5⟩
  · exact .inl h
  · refine .inr ⟨g, 0, h1, by omega, (Array.getElem?_eq_some_iff.1 h4).1, fun j hj => ?_⟩
    rw [Nat.zero_add, Joins.cell_of_block h4 j]
    exact h5 j hj
theorem SN.below {w w' : World} {N : Nat} {A : Option Addr} {n : Nat} {f : Nat → Value} (h : SN w N A n f) (hb : Below w.heap.size w w') : SN w' N A n f := by
  rcases h with h | ⟨b, off, h1, h0, h2, h3⟩
  · exact .inl h
  · exact .inr ⟨b, off, h1, h0, Nat.lt_of_lt_of_le h2 hb.size, fun j hj => (hb.cell (p := ⟨b, off + j, none⟩) h2).trans (h3 j hj)⟩
theorem SN.set {w : World} {N o : Nat} {A : Option Addr} {n : Nat} {f : Nat → Value} {v : Value} (h : SN w N A n f) : SN (w.setCell ⟨N, o, none⟩ v) N A n f := by
  rcases h with h | ⟨b, off, h1, h0, h2, h3⟩
  · exact .inl h
  · exact .inr ⟨b, off, h1, h0, by simp; exact h2, fun j hj => (World.cell?_of_block (Below.heap_setCell _ _ _ b (by exact h0))).trans (h3 j hj)⟩
theorem SN.put4 {w : World} {N : Nat} {A : Option Addr} {n : Nat} {f : Nat → Value} {a b c d : Value} (h : SN w N A n f) : SN (put4 w N a b c d) N A n f := h.set.set.set.set
/-- where the run stands after k generations -/
def RnG (w0 wr : World) (N n m l : Nat) (X Y Z : Nat → Nat) (k : Nat) (gx : Nat) : Prop :=
  ∃ G1 d1 G2 d2 G3 d3 r, wr.heap[N]? = some (.cells #[.slice G1 n d1, .slice G2 m d2, .slice G3 l d3, .float .f32 r] 115) ∧ n ≤ d1 ∧
    SN wr N G1 n (fun j => .float .f32 (X j)) ∧ SN wr N G2 m (fun j => .float .f32 (Y j)) ∧ SN wr N G3 l (fun j => .float .f32 (Z j)) ∧
    (k = 0 ∨ OW wr (N + 1) wr.heap.size G1 n (fun j => .float .f32 (X j)) ∧ FS .f32 r gx) ∧ Below w0.heap.size w0 wr
def gnS (x y z : Nat → Nat) (n m l k : Nat) : Prop := gnP (gsV x y z n k) n y m z l
def gnA (x y z : Nat → Nat) (n m l T : Nat) : Prop := ∀ k, k < T → gnS x y z n m l k
/-- what the run hands back -/
def GaveM (w w' : World) (e : Ending) (x : Nat → Nat) (n : Nat) (y : Nat → Nat) (m : Nat) (z : Nat → Nat) (l T : Nat) : Prop :=
  (¬ gnA x y z n m l T ∧ e = .returned (.tuple #[.agg #[.slice none 0 0, .slice none 0 0, .slice none 0 0, .float .f32 0], .bool false]) ∧ Below w.heap.size w w') ∨
  (gnA x y z n m l T ∧ ∃ G1 d1 G2 d2 G3 d3 r, e = .returned (.tuple #[.agg #[.slice G1 n d1, .slice G2 m d2, .slice G3 l d3, .float .f32 r], .bool true]) ∧ FS .f32 r (grG x y z n (T - 1)) ∧
    OW w' w.heap.size w'.heap.size G1 n (fun j => .float .f32 (gsV x y z n T j)) ∧ Below w.heap.size w w')
theorem ga_iff {x y z : Nat → Nat} {n m l T : Nat} (hT : 1 ≤ T) : gnA x y z n m l T ↔ ppP x n y m z l ∧ ∀ k, k < T → grC x y z n k := by
  constructor
  · intro h
    exact ⟨(h 0 (by omega)).1, fun k hk => (h k hk).2⟩
  · rintro ⟨h1, h2⟩ k hk
    exact ⟨gs_pp h1 k fun i hi => h2 i (by omega), h2 k hk⟩
set_option maxRecDepth 100000 in
set_option maxHeartbeats 16000000 in
theorem implManyG_any (A : Option Addr) (n ca : Nat) (x : Nat → Nat) (B : Option Addr) (m cb : Nat) (y : Nat → Nat) (C : Option Addr) (l cc : Nat) (z : Nat → Nat) (gr T : Nat) (w : World) (hT : T ≤ 64) (hT1 : 1 ≤ T) (hca : n ≤ ca) (hn : n ≤ maxLen) (hs : SL w A n (fun j => .float .f32 (x j))) (hm : m ≤ maxLen) (hs' : SL w B m (fun j => .float .f32 (y j))) (hl : l ≤ maxLen) (hs'' : SL w C l (fun j => .float .f32 (z j))) :
    Calls Try.prog 89 #[.agg #[.slice A n ca, .slice B m cb, .slice C l cc, .float .f32 gr], .int .i64 (T : Int), .func (Fn.func 90) #[] #[]] w fun e w' => GaveM w w' e x n y m z l T := by
  obtain ⟨W1, hW1⟩ : ∃ u, u = w.alloc (.cells #[.slice A n ca, .slice B m cb, .slice C l cc, .float .f32 gr] 115) := ⟨_, rfl⟩
  obtain ⟨W, hW⟩ : ∃ u, u = W1.alloc (.cells #[.slice none 0 0, .slice none 0 0, .slice none 0 0, .float .f32 0] 115) := ⟨_, rfl⟩
  have z1 : W1.heap.size = w.heap.size + 1 := by rw [hW1]; simp
  have z2 : W.heap.size = w.heap.size + 2 := by rw [hW]; simp; omega
  have hB1 : Below w.heap.size w W1 := by rw [hW1]; exact (Below.refl _ _).alloc (Nat.le_refl _) _
  have hB2 : Below W1.heap.size W1 W := by rw [hW]; exact (Below.refl _ _).alloc (Nat.le_refl _) _
  have HBW : Hid (Below w.heap.size w W) := hB1.trans (hB2.mono (by omega))
  have HX : Hid (W.heap[w.heap.size]? = some (.cells #[.slice A n ca, .slice B m cb, .slice C l cc, .float .f32 gr] 115)) := by
    refine blk_below hB2 (by omega) ?_
    rw [hW1]; exact blocks1 w _
  have HR : Hid (W.heap[w.heap.size + 1]? = some (.cells #[.slice none 0 0, .slice none 0 0, .slice none 0 0, .float .f32 0] 115)) := by
    rw [← z1, hW]; exact blocks1 W1 _
  have z3 : W.heap.size = w.heap.size + 1 + 1 := by omega
  have HRN0 : Hid (RnG w (W.alloc (.cells #[.slice A n ca, .slice B m cb, .slice C l cc, .float .f32 gr] 115)) (w.heap.size + 1 + 1) n m l (gsV x y z n 0) y z 0 0) := by
    have hba : Below W.heap.size W (W.alloc (.cells #[.slice A n ca, .slice B m cb, .slice C l cc, .float .f32 gr] 115)) := (Below.refl _ _).alloc (Nat.le_refl _) _
    have hbw := HBW.out.trans (hba.mono (by omega))
    have hbl := blocks1 W (.cells #[.slice A n ca, .slice B m cb, .slice C l cc, .float .f32 gr] 115)
    rw [z3] at hbl
    exact ⟨A, ca, B, cb, C, cc, gr, hbl, hca, SN.of_sl hs (by omega) hbw, SN.of_sl hs' (by omega) hbw, SN.of_sl hs'' (by omega) hbw, .inl rfl, hbw⟩
  have HBA : Hid (Below (w.heap.size + 1 + 1) W (W.alloc (.cells #[.slice A n ca, .slice B m cb, .slice C l cc, .float .f32 gr] 115))) := by rw [← z3]; exact (Below.refl _ _).alloc (Nat.le_refl _) _
  have hz : (w.heap.size + 1 + 1) ≤ W.heap.size := by omega
  have HW1 := hide hW1
  have HWW := hide hW
  have k0 := Joins.cell_of_block HX.out 0
  have k1 := Joins.cell_of_block HX.out 1
  have k2 := Joins.cell_of_block HX.out 2
  have k3 := Joins.cell_of_block HX.out 3
  simp at k0 k1 k2 k3
  clear hs hs' hs'' hW1 hW hB1 hB2 z1 z2 z3
  go_enter Try.func89, Try.ntmps89
  go_wp2_with fail
  rw [← HW1.out, ← HWW.out]
  clear HW1 HWW
  go_wp2_with fail
  go_loopw [7, 10, 13] (fun _ _ i wr => ∃ k : Nat, k ≤ T ∧ i = .int .i64 (k : Int) ∧ Hid (∀ i, i < k → gnS x y z n m l i) ∧ Hid (RnG w wr (w.heap.size + 1 + 1) n m l (gsV x y z n k) y z k (grG x y z n (k - 1))) ∧ Hid (Below (w.heap.size + 1 + 1) W wr)) (fun _ _ i _ => T - (intOf i).toNat)
  case atStart => exact ⟨0, Nat.zero_le _, rfl, fun i hi => absurd hi (by omega), (by
    obtain ⟨G1, d1, G2, d2, G3, d3, r, h1, h2, h3, h4, h5, _, h6⟩ := HRN0.out
    exact ⟨G1, d1, G2, d2, G3, d3, r, h1, h2, h3, h4, h5, .inl rfl, h6⟩), HBA.out⟩
  case round =>
    obtain ⟨k, hk, rfl, hnp, hrn, hbel⟩ := hrel
    clear HRN0
    obtain ⟨E1, f1, E2, f2, E3, f3, r0, hblk, hroom, o1, o2, o3, hown, hb0⟩ := hrn.out
    have HBK := hide hblk
    have HP1 := hide o1
    have HP2 := hide o2
    have HP3 := hide o3
    have HOW := hide hown
    have HB0 := hide hb0
    have hbel := hbel.out
    have HBL := hide hbel
    have HRr := hide (blk_below hbel (by omega) HR.out)
    have hzr := hbel.size
    have hNr : (w.heap.size + 1 + 1) < wr.heap.size := (Array.getElem?_eq_some_iff.1 hblk).1
    clear hrn hblk o1 o2 o3 hbel hown hb0
    have b0 := Joins.cell_of_block HBK.out 0
    have b1 := Joins.cell_of_block HBK.out 1
    have b2 := Joins.cell_of_block HBK.out 2
    have b3 := Joins.cell_of_block HBK.out 3
    have ub0 := Joins.unfrozen_of_block HBK.out 0
    have ub1 := Joins.unfrozen_of_block HBK.out 1
    have ub2 := Joins.unfrozen_of_block HBK.out 2
    have ub3 := Joins.unfrozen_of_block HBK.out 3
    simp at b0 b1 b2 b3
    (try simp at ub0 ub1 ub2 ub3)
    by_cases hlt : k < T
    · have hpos : (k : Int) < (T : Int) := by omega
      go_wp2_with fail
      refine (nextG_any E1 n f1 (gsV x y z n k) E2 m f2 y E3 l f3 z r0 wr hroom hn HP1.out.sl hm HP2.out.sl hl HP3.out.sl).mono ?_
      rintro e v hg
      rcases hg with ⟨hx, rfl, hb⟩ | ⟨hx, I1, j1, I2, j2, I3, j3, rn, rfl, hj1, hrn, p1, p2, p3, hb⟩
      · have HH := hide (show ¬ gnA x y z n m l T from fun h => hx (h k hlt))
        have HBv := hide (HB0.out.trans (hb.mono HB0.out.size))
        have HZ := hide (blocks1 v (.cells #[.slice none 0 0, .slice none 0 0, .slice none 0 0, .float .f32 0] 115))
        have hba : Below v.heap.size v (v.alloc (.cells #[.slice none 0 0, .slice none 0 0, .slice none 0 0, .float .f32 0] 115)) := (Below.refl _ _).alloc (Nat.le_refl _) _
        have hbz := hb.size
        have hsz := hba.size
        have HRz : Hid ((v.alloc (.cells #[.slice none 0 0, .slice none 0 0, .slice none 0 0, .float .f32 0] 115)).heap[w.heap.size + 1]? = some (.cells #[.slice none 0 0, .slice none 0 0, .slice none 0 0, .float .f32 0] 115)) := blk_below hba (by omega) (blk_below hb (by omega) HRr.out)
        have HBz := hide (HBv.out.trans (hba.mono HBv.out.size))
        clear hb hba b0 b1 b2 b3 ub0 ub1 ub2 ub3 hx
        have a0 := Joins.cell_of_block HZ.out 0
        have a1 := Joins.cell_of_block HZ.out 1
        have a2 := Joins.cell_of_block HZ.out 2
        have a3 := Joins.cell_of_block HZ.out 3
        have ua0 := Joins.unfrozen_of_block HZ.out 0
        have ua1 := Joins.unfrozen_of_block HZ.out 1
        have ua2 := Joins.unfrozen_of_block HZ.out 2
        have ua3 := Joins.unfrozen_of_block HZ.out 3
        simp at a0 a1 a2 a3
        (try simp at ua0 ua1 ua2 ua3)
        have n0 := Joins.cell_of_block HRz.out 0
        have n1 := Joins.cell_of_block HRz.out 1
        have n2 := Joins.cell_of_block HRz.out 2
        have n3 := Joins.cell_of_block HRz.out 3
        have un0 := Joins.unfrozen_of_block HRz.out 0
        have un1 := Joins.unfrozen_of_block HRz.out 1
        have un2 := Joins.unfrozen_of_block HRz.out 2
        have un3 := Joins.unfrozen_of_block HRz.out 3
        simp at n0 n1 n2 n3
        (try simp at un0 un1 un2 un3)
        go_wp2_with fail
        have R := put4_block (a := .slice none 0 0) (b := .slice none 0 0) (c := .slice none 0 0) (d := .float .f32 0) HRz.out
        unfold put4 at R
        have k3 := Joins.cell_of_block R 0
        have k4 := Joins.cell_of_block R 1
        have k5 := Joins.cell_of_block R 2
        have k6 := Joins.cell_of_block R 3
        simp at k3 k4 k5 k6
        refine bodyPost_ret (v := .tuple #[.agg #[.slice none 0 0, .slice none 0 0, .slice none 0 0, .float .f32 0], .bool false]) (by simp [results, Try.results89, go_sem, k3, k4, k5, k6]) rfl (.inl ⟨HH.out, rfl, ?_⟩)
        exact put4_below HBz.out (by omega)
      · have HBv := hide (HBL.out.trans (hb.mono (by omega)))
        have HB0v := hide (HB0.out.trans (hb.mono HB0.out.size))
        have HZ := hide (blocks1 v (.cells #[.slice I1 n j1, .slice I2 m j2, .slice I3 l j3, .float .f32 rn] 115))
        have hba : Below v.heap.size v (v.alloc (.cells #[.slice I1 n j1, .slice I2 m j2, .slice I3 l j3, .float .f32 rn] 115)) := (Below.refl _ _).alloc (Nat.le_refl _) _
        have hsz := hba.size
        have hbz := hb.size
        have HKN : Hid ((v.alloc (.cells #[.slice I1 n j1, .slice I2 m j2, .slice I3 l j3, .float .f32 rn] 115)).heap[(w.heap.size + 1 + 1)]? = some (.cells #[.slice E1 n f1, .slice E2 m f2, .slice E3 l f3, .float .f32 r0] 115)) := blk_below hba (by omega) (blk_below hb hNr HBK.out)
        have HRN : Hid (RnG w (put4 (v.alloc (.cells #[.slice I1 n j1, .slice I2 m j2, .slice I3 l j3, .float .f32 rn] 115)) (w.heap.size + 1 + 1) (.slice I1 n j1) (.slice I2 m j2) (.slice I3 l j3) (.float .f32 rn)) (w.heap.size + 1 + 1) n m l (gsV x y z n (k + 1)) y z (k + 1) (grG x y z n (k + 1 - 1))) := by
          refine ⟨I1, j1, I2, j2, I3, j3, rn, put4_block HKN.out, hj1, SN.put4 (SN.of_ow (p1.below hba) (.inl (by omega))), SN.put4 (SN.of_ow (p2.below hba) (.inl (by omega))), SN.put4 (SN.of_ow (p3.below hba) (.inl (by omega))), .inr ⟨?_, ?_⟩, put4_below (HB0v.out.trans (hba.mono HB0v.out.size)) (by omega)⟩
          · exact (put4_ow (p1.below hba) (.inl (by omega))).wide (by omega) (by rw [put4_size]; omega)
          · rw [Nat.add_sub_cancel]; exact hrn
        have HBN : Hid (Below (w.heap.size + 1 + 1) W (put4 (v.alloc (.cells #[.slice I1 n j1, .slice I2 m j2, .slice I3 l j3, .float .f32 rn] 115)) (w.heap.size + 1 + 1) (.slice I1 n j1) (.slice I2 m j2) (.slice I3 l j3) (.float .f32 rn))) := put4_below (HBv.out.trans (hba.mono (by omega))) (by omega)
        have HNP := hide (show ∀ i, i < k + 1 → gnS x y z n m l i from fun i hi => by
          by_cases h : i < k
          · exact hnp.out i h
          · obtain rfl : i = k := by omega
            exact hx)
        clear hb p1 p2 p3 hba b0 b1 b2 b3 ub0 ub1 ub2 ub3 hx hrn
        have a0 := Joins.cell_of_block HZ.out 0
        have a1 := Joins.cell_of_block HZ.out 1
        have a2 := Joins.cell_of_block HZ.out 2
        have a3 := Joins.cell_of_block HZ.out 3
        have ua0 := Joins.unfrozen_of_block HZ.out 0
        have ua1 := Joins.unfrozen_of_block HZ.out 1
        have ua2 := Joins.unfrozen_of_block HZ.out 2
        have ua3 := Joins.unfrozen_of_block HZ.out 3
        simp at a0 a1 a2 a3
        (try simp at ua0 ua1 ua2 ua3)
        have n0 := Joins.cell_of_block HKN.out 0
        have n1 := Joins.cell_of_block HKN.out 1
        have n2 := Joins.cell_of_block HKN.out 2
        have n3 := Joins.cell_of_block HKN.out 3
        have un0 := Joins.unfrozen_of_block HKN.out 0
        have un1 := Joins.unfrozen_of_block HKN.out 1
        have un2 := Joins.unfrozen_of_block HKN.out 2
        have un3 := Joins.unfrozen_of_block HKN.out 3
        simp at n0 n1 n2 n3
        (try simp at un0 un1 un2 un3)
        go_wp2_with fail
        go_roundw
        case rel => exact ⟨k + 1, by omega, by go_num, HNP.out, HRN.out, HBN.out⟩
        case measure => simp [intOf]; omega
    · obtain rfl : k = T := by omega
      have hpos : ¬ (k : Int) < (k : Int) := by omega
      have HH := hide (show gnA x y z n m l k from hnp.out)
      have n0 := Joins.cell_of_block HRr.out 0
      have n1 := Joins.cell_of_block HRr.out 1
      have n2 := Joins.cell_of_block HRr.out 2
      have n3 := Joins.cell_of_block HRr.out 3
      have un0 := Joins.unfrozen_of_block HRr.out 0
      have un1 := Joins.unfrozen_of_block HRr.out 1
      have un2 := Joins.unfrozen_of_block HRr.out 2
      have un3 := Joins.unfrozen_of_block HRr.out 3
      simp at n0 n1 n2 n3
      (try simp at un0 un1 un2 un3)
      have HOK := hide (HOW.out.resolve_left (by omega))
      go_wp2_with fail
      have R := put4_block (a := .slice E1 n f1) (b := .slice E2 m f2) (c := .slice E3 l f3) (d := .float .f32 r0) HRr.out
      unfold put4 at R
      have k3 := Joins.cell_of_block R 0
      have k4 := Joins.cell_of_block R 1
      have k5 := Joins.cell_of_block R 2
      have k6 := Joins.cell_of_block R 3
      simp at k3 k4 k5 k6
      refine bodyPost_ret (v := .tuple #[.agg #[.slice E1 n f1, .slice E2 m f2, .slice E3 l f3, .float .f32 r0], .bool true]) (by simp [results, Try.results89, go_sem, k3, k4, k5, k6]) rfl (.inr ⟨HH.out, E1, f1, E2, f2, E3, f3, r0, rfl, HOK.out.2, ?_, put4_below HB0.out (by omega)⟩)
      exact (put4_ow HOK.out.1 (.inl (by omega))).wide (by omega) (by simp)
set_option maxRecDepth 100000 in
set_option maxHeartbeats 16000000 in
theorem implGrowth_any (A : Option Addr) (n ca : Nat) (x : Nat → Nat) (B : Option Addr) (m cb : Nat) (y : Nat → Nat) (C : Option Addr) (l cc : Nat) (z : Nat → Nat) (t : Int) (w : World) (hca : n ≤ ca) (hn : n ≤ maxLen) (hs : SL w A n (fun j => .float .f32 (x j))) (hm : m ≤ maxLen) (hs' : SL w B m (fun j => .float .f32 (y j))) (hl : l ≤ maxLen) (hs'' : SL w C l (fun j => .float .f32 (z j))) :
    Calls Try.prog 18 #[.agg #[.slice A n ca, .slice B m cb, .slice C l cc], .int .i64 t] w fun e w' => GaveG w w' e (grP x n y m z l t) n (grG x y z n (t.toNat - 1)) (gsV x y z n t.toNat) := by
  obtain ⟨W, hW⟩ : ∃ u, u = w.alloc (.cells #[.slice A n ca, .slice B m cb, .slice C l cc] 29) := ⟨_, rfl⟩
  have HBW : Hid (Below w.heap.size w W) := by rw [hW]; exact (Below.refl w.heap.size w).alloc (Nat.le_refl _) _
  have HX : Hid (W.heap[w.heap.size]? = some (.cells #[.slice A n ca, .slice B m cb, .slice C l cc] 29)) := by rw [hW]; exact blocks1 w _
  have hz : w.heap.size + 1 ≤ W.heap.size := by rw [hW]; simp
  have HS := hide (hs.below HBW.out)
  have HS' := hide (hs'.below HBW.out)
  have HS'' := hide (hs''.below HBW.out)
  have HWW := hide hW
  clear hs hs' hs'' hW
  have k0 := Joins.cell_of_block HX.out 0
  have k1 := Joins.cell_of_block HX.out 1
  have k2 := Joins.cell_of_block HX.out 2
  simp at k0 k1 k2
  cases gt : inB t 1 64
  · have HH := hide (show ¬ grP x n y m z l t from fun h => by rw [inB_yes h.2.1] at gt; cases gt)
    go_enter Try.func18, Try.ntmps18
    go_wp2_with fail
    rw [← HWW.out]
    clear HWW
    refine (implWithin_any _ _ _ _).mono ?_
    rw [gt]
    rintro e w1 ⟨rfl, rfl⟩
    go_wp2
    go_ret3
    exact gaveg_no HH.out HBW.out
  have HTT := hide (inB_iff.1 gt)
  obtain ⟨T, rfl⟩ : ∃ T : Nat, t = (T : Int) := ⟨t.toNat, by have := HTT.out; omega⟩
  have hT : T ≤ 64 := by have := HTT.out; omega
  have hT1 : 1 ≤ T := by have := HTT.out; omega
  have hTn : (T : Int).toNat = T := by omega
  rw [hTn]
  clear hTn
  have HIF := hide (show (gnA x y z n m l T ∧ ffin .f32 (grG x y z n (T - 1)) = true) ↔ grP x n y m z l (T : Int) from by
    rw [ga_iff hT1]
    constructor
    · rintro ⟨⟨h1, h2⟩, h3⟩
      exact ⟨h1, HTT.out, fun k hk => h2 k (by omega), by rw [show (T : Int).toNat - 1 = T - 1 by omega]; exact h3⟩
    · rintro ⟨h1, _, h2, h3⟩
      rw [show (T : Int).toNat - 1 = T - 1 by omega] at h3
      exact ⟨⟨h1, fun k hk => h2 k (by omega)⟩, h3⟩)
  go_enter Try.func18, Try.ntmps18
  go_wp2_with fail
  rw [← HWW.out]
  clear HWW
  refine (implWithin_any _ _ _ _).mono ?_
  rw [gt]
  rintro e w1 ⟨rfl, rfl⟩
  clear gt
  go_wp2_with fail
  refine (implManyG_any A n ca x B m cb y C l cc z 0 T _ hT hT1 hca hn HS.out hm HS'.out hl HS''.out).mono ?_
  rintro e v hg
  rcases hg with ⟨hx, rfl, hb⟩ | ⟨hx, I1, j1, I2, j2, I3, j3, rn, rfl, hrn, p1, hb⟩
  · have HH := hide (show ¬ grP x n y m z l (T : Int) from fun h => hx (HIF.out.2 h).1)
    have HBv := hide (HBW.out.trans (hb.mono HBW.out.size))
    clear hb hx k0 k1 k2
    go_wp2
    go_ret3
    exact gaveg_no HH.out (HBv.out.alloc HBv.out.size _)
  · have HBv := hide (HBW.out.trans (hb.mono HBW.out.size))
    obtain ⟨V, hV⟩ : ∃ u, u = v.alloc (.cells #[.slice I1 n j1, .slice I2 m j2, .slice I3 l j3, .float .f32 rn] 115) := ⟨_, rfl⟩
    have hbv : Below v.heap.size v V := by rw [hV]; exact (Below.refl _ _).alloc (Nat.le_refl _) _
    have HBV := hide (HBv.out.trans (hbv.mono HBv.out.size))
    have HO := hide ((p1.below hbv).wide (lo' := w.heap.size) (hi' := V.heap.size) (by omega) hbv.size)
    have HPV : Hid (V.heap[v.heap.size]? = some (.cells #[.slice I1 n j1, .slice I2 m j2, .slice I3 l j3, .float .f32 rn] 115)) := by rw [hV]; exact blocks1 v _
    have HRN := hide hrn
    have HGA := hide hx
    have HVV := hide hV
    clear hb hx p1 hrn hbv hV k0 k1 k2
    have k0 := Joins.cell_of_block HPV.out 0
    have k3 := Joins.cell_of_block HPV.out 3
    simp at k0 k3
    have i0 := k0
    have i3 := k3
    rw [HVV.out] at i0 i3
    cases gf : ffin .f32 rn
    · have HH := hide (show ¬ grP x n y m z l (T : Int) from fun h => by
        have h1 := (HIF.out.2 h).2
        rw [← ffin_same HRN.out, gf] at h1; cases h1)
      go_wp2_with fail
      rw [← HVV.out]
      clear HVV i0 i3
      refine (implIsFinite_any rn _).mono ?_
      rw [gf]
      rintro e wb ⟨rfl, q, hq⟩
      have HBb : Hid (Below w.heap.size w wb) := by rw [hq]; exact bel_q HBV.out _
      clear hq
      go_wp2
      go_ret3
      exact gaveg_no HH.out HBb.out
    · have HH := hide (HIF.out.1 ⟨HGA.out, by rw [← ffin_same HRN.out]; exact gf⟩)
      go_wp2_with fail
      rw [← HVV.out]
      clear HVV i0 i3
      refine (implIsFinite_any rn _).mono ?_
      rw [gf]
      rintro e wb ⟨rfl, q, hq⟩
      have HBb : Hid (Below w.heap.size w wb) := by rw [hq]; exact bel_q HBV.out _
      have HOb : Hid (OW wb w.heap.size wb.heap.size I1 n (fun j => .float .f32 (gsV x y z n T j))) := by rw [hq]; exact HO.out
      have c0 : wb.cell? ⟨v.heap.size, 0, none⟩ = some (.slice I1 n j1) := by rw [hq]; exact k0
      have c3 : wb.cell? ⟨v.heap.size, 3, none⟩ = some (.float .f32 rn) := by rw [hq]; exact k3
      clear hq k0 k3
      go_wp2_with fail
      go_quiet (fail)
      go_wp2
      go_ret3
      exact gaveg_yes HH.out HRN.out HOb.out (bel_q HBb.out _)
theorem implGrowthL_any (A : Option Addr) (n _n : Nat) (x : Nat → Nat) (B : Option Addr) (m _m : Nat) (y : Nat → Nat) (C : Option Addr) (l _l : Nat) (z : Nat → Nat) (t : Int) (w : World) (hn : n ≤ maxLen) (hs : SL w A n (fun j => .float .f32 (x j))) (hm : m ≤ maxLen) (hs' : SL w B m (fun j => .float .f32 (y j))) (hl : l ≤ maxLen) (hs'' : SL w C l (fun j => .float .f32 (z j))) :
    Calls Try.prog 18 #[.agg #[.slice A n n, .slice B m m, .slice C l l], .int .i64 t] w fun e w' => GaveG w w' e (grP x n y m z l t) n (grG x y z n (t.toNat - 1)) (gsV x y z n t.toNat) :=
  implGrowth_any A n n x B m m y C l l z t w (Nat.le_refl _) hn hs hm hs' hl hs''
end Go.Proofs.Ytpbbedelapnnnaa
