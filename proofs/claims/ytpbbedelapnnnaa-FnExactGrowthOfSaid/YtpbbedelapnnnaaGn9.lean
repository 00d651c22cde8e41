/- GrowthOf: one generation, by the program. -/
import Derived.Test.YtpbbedelapnnnaaGg9
import Derived.Test.YtpbbedelapnnnaaSo9
import Derived.Test.YtpbbedelapnnnaaNia
namespace Go.Proofs.Ytpbbedelapnnnaa
open Go.RowKit Go.Dues
attribute [local go_sem] run_store_float
/-- what a generation asks -/
def gnP (x : Nat → Nat) (n : Nat) (y : Nat → Nat) (m : Nat) (z : Nat → Nat) (l : Nat) : Prop := ppP x n y m z l ∧ abB (fsum x n) = true ∧ abB (fsum (nxV x y z n) n) = true
def gnV (x y z : Nat → Nat) (n j : Nat) : Nat := fop .quo .f32 (nxV x y z n j) (fsum (nxV x y z n) n)
theorem gn_np {x y z : Nat → Nat} {n m l : Nat} (h : gnP x n y m z l) : npP x n y m z l := gr_np h.1 (ab_fin h.2.2)
theorem gn_fin {x y z : Nat → Nat} {n m l : Nat} (h : gnP x n y m z l) (j : Nat) (hj : j < n) : ffin .f32 (gnV x y z n j) = true :=
  gs_fin (k := 0) (n := n) (m := m) (l := l) (x := x) h.1 h.2 j hj
def put4 (w : World) (N : Nat) (a b c d : Value) : World := (((w.setCell ⟨N, 0, none⟩ a).setCell ⟨N, 1, none⟩ b).setCell ⟨N, 2, none⟩ c).setCell ⟨N, 3, none⟩ d
theorem put4_block {w : World} {N : Nat} {a b c d a' b' c' d' : Value} {t : TypeId} (h : w.heap[N]? = some (.cells #[a', b', c', d'] t)) : (put4 w N a b c d).heap[N]? = some (.cells #[a, b, c, d] t) :=
  Joins.block_setCell (Joins.block_setCell (Joins.block_setCell (Joins.block_setCell h (i := 0) a) (i := 1) b) (i := 2) c) (i := 3) d
theorem put4_size {w : World} {N : Nat} {a b c d : Value} : (put4 w N a b c d).heap.size = w.heap.size := by unfold put4; simp
theorem put4_below {w0 w : World} {N g : Nat} {a b c d : Value} (h : Below g w0 w) (hg : g ≤ N) : Below g w0 (put4 w N a b c d) := (((h.setCell (by exact hg) _).setCell (by exact hg) _).setCell (by exact hg) _).setCell (by exact hg) _
theorem put4_ow {w : World} {lo hi n N : Nat} {A : Option Addr} {f : Nat → Value} {a b c d : Value} (h : OW w lo hi A n f) (hN : N < lo ∨ hi ≤ N) : OW (put4 w N a b c d) lo hi A n f := (((h.setCell (by exact hN)).setCell (by exact hN)).setCell (by exact hN)).setCell (by exact hN)
/-- people that were handed back whole, with room -/
theorem gaver_yes {w w' : World} {e : Ending} {p : Prop} {n : Nat} {X Y Z : Nat → Nat} (h : GaveR w w' e p n n n X Y Z) (hp : p) (hx : ∀ j, j < n → ffin .f32 (X j) = true) (hy : ∀ j, j < n → ffin .f32 (Y j) = true) (hz : ∀ j, j < n → ffin .f32 (Z j) = true) :
    ∃ G1 d1 G2 d2 G3 d3, ∃ l1 u1 l2 u2 l3 u3, e = .returned (.tuple #[.agg #[.slice G1 n d1, .slice G2 n d2, .slice G3 n d3], .bool true]) ∧ n ≤ d1 ∧
      OW w' l1 u1 G1 n (fun j => .float .f32 (X j)) ∧ OW w' l2 u2 G2 n (fun j => .float .f32 (Y j)) ∧ OW w' l3 u3 G3 n (fun j => .float .f32 (Z j)) ∧
      (w.heap.size ≤ l1 ∧ l1 ≤ u1 ∧ u1 ≤ w'.heap.size) ∧ (w.heap.size ≤ l2 ∧ l2 ≤ u2 ∧ u2 ≤ w'.heap.size) ∧ (w.heap.size ≤ l3 ∧ l3 ≤ u3 ∧ u3 ≤ w'.heap.size) ∧ (u1 ≤ l2 ∨ u2 ≤ l1) ∧ (u1 ≤ l3 ∨ u3 ≤ l1) ∧ Below w.heap.size w w' := by
  obtain ⟨G1, d1, z1, G2, d2, z2, G3, d3, z3, l1, u1, l2, u2, l3, u3, he, o1, o2, o3, f1, f2, f3, b1, b2, b3, c1, c2, c3, hr, hb⟩ := h
  rw [lenV_yes hp] at he o1 o2 o3 f1 f2 f3 hr
  rw [tru_yes hp] at he
  exact ⟨G1, d1, G2, d2, G3, d3, l1, u1, l2, u2, l3, u3, he, hr, o1.congr (fun j hj => by rw [fs_fin (f1 j hj) (hx j hj)]), o2.congr (fun j hj => by rw [fs_fin (f2 j hj) (hy j hj)]), o3.congr (fun j hj => by rw [fs_fin (f3 j hj) (hz j hj)]), b1, b2, b3, c1, c2, hb⟩
/-- one generation: the zero one if it can't be, else the next one -/
def GaveN (w w' : World) (e : Ending) (x : Nat → Nat) (n : Nat) (y : Nat → Nat) (m : Nat) (z : Nat → Nat) (l : Nat) : Prop :=
  (¬ gnP x n y m z l ∧ e = .returned (.tuple #[.agg #[.slice none 0 0, .slice none 0 0, .slice none 0 0, .float .f32 0], .bool false]) ∧ Below w.heap.size w w') ∨
  (gnP x n y m z l ∧ ∃ G1 d1 G2 d2 G3 d3 r, e = .returned (.tuple #[.agg #[.slice G1 n d1, .slice G2 m d2, .slice G3 l d3, .float .f32 r], .bool true]) ∧ n ≤ d1 ∧ FS .f32 r (fop .quo .f32 (fsum (nxV x y z n) n) (fsum x n)) ∧
    OW w' w.heap.size w'.heap.size G1 n (fun j => .float .f32 (gnV x y z n j)) ∧ OW w' w.heap.size w'.heap.size G2 m (fun j => .float .f32 (y j)) ∧ OW w' w.heap.size w'.heap.size G3 l (fun j => .float .f32 (z j)) ∧ Below w.heap.size w w')
set_option maxRecDepth 100000 in
set_option maxHeartbeats 16000000 in
theorem nextG_any (A : Option Addr) (n ca : Nat) (x : Nat → Nat) (B : Option Addr) (m cb : Nat) (y : Nat → Nat) (C : Option Addr) (l cc : Nat) (z : Nat → Nat) (gr : Nat) (w : World) (hca : n ≤ ca) (hn : n ≤ maxLen) (hs : SL w A n (fun j => .float .f32 (x j))) (hm : m ≤ maxLen) (hs' : SL w B m (fun j => .float .f32 (y j))) (hl : l ≤ maxLen) (hs'' : SL w C l (fun j => .float .f32 (z j))) :
    Calls Try.prog 90 #[.agg #[.slice A n ca, .slice B m cb, .slice C l cc, .float .f32 gr]] w fun e w' => GaveN w w' e x n y m z l := by
  obtain ⟨W1, hW1⟩ : ∃ u, u = w.alloc (.cells #[.slice A n ca, .slice B m cb, .slice C l cc, .float .f32 gr] 115) := ⟨_, rfl⟩
  obtain ⟨W, hW⟩ : ∃ u, u = W1.alloc (.cells #[.slice none 0 0, .slice none 0 0, .slice none 0 0, .float .f32 0] 115) := ⟨_, rfl⟩
  have z1 : W1.heap.size = w.heap.size + 1 := by rw [hW1]; simp
  have z2 : W.heap.size = w.heap.size + 2 := by rw [hW]; simp; omega
  have hB1 : Below w.heap.size w W1 := by rw [hW1]; exact (Below.refl _ _).alloc (Nat.le_refl _) _
  have hB2 : Below W1.heap.size W1 W := by rw [hW]; exact (Below.refl _ _).alloc (Nat.le_refl _) _
  have HBW : Hid (Below w.heap.size w W) := hB1.trans (hB2.mono (by omega))
  have HX : Hid (W.heap[w.heap.size]? = some (.cells #[.slice A n ca, .slice B m cb, .slice C l cc, .float .f32 gr] 115)) := by
    refine blk_below hB2 (by omega) ?_
    rw [hW1]; exact blocks1 w _
  have HR : Hid (W.heap[w.heap.size + 1]? = some (.cells #[.slice none 0 0, .slice none 0 0, .slice none 0 0, .float .f32 0] 115)) := by
    rw [← z1, hW]; exact blocks1 W1 _
  have HS := hide (hs.below HBW.out)
  have HS' := hide (hs'.below HBW.out)
  have HS'' := hide (hs''.below HBW.out)
  have HW1 := hide hW1
  have HWW := hide hW
  have hz : w.heap.size + 2 ≤ W.heap.size := by omega
  have k0 := Joins.cell_of_block HX.out 0
  have k1 := Joins.cell_of_block HX.out 1
  have k2 := Joins.cell_of_block HX.out 2
  simp at k0 k1 k2
  have i0 := k0
  have i1 := k1
  have i2 := k2
  rw [hW, hW1] at i0 i1 i2
  clear hs hs' hs'' hW1 hW z1 z2 hB1 hB2
  go_enter Try.func90, Try.ntmps90
  go_wp2_with fail
  rw [← HW1.out, ← HWW.out]
  clear HW1 HWW i0 i1 i2
  refine (someOf_any A n ca x B m cb y C l cc z W hca hn HS.out hm HS'.out hl HS''.out).mono ?_
  rintro e w1 ⟨ra, b1, rfl, hb1, hra, hb⟩
  have HE1 := hide hb1
  have HRA := hide hra
  have HB1 := hide (HBW.out.trans (hb.mono HBW.out.size))
  have HX1 := hide (blk_below hb (by omega) HX.out)
  have HR1 := hide (blk_below hb (by omega) HR.out)
  have HSa := hide (HS.out.below hb)
  have HSb := hide (HS'.out.below hb)
  have HSc := hide (HS''.out.below hb)
  have hz1 := hb.size
  clear hb hb1 hra k0 k1 k2 HX HR HS HS' HS'' HBW
  have k0 := Joins.cell_of_block HX1.out 0
  have k1 := Joins.cell_of_block HX1.out 1
  have k2 := Joins.cell_of_block HX1.out 2
  simp at k0 k1 k2
  go_wp2_with fail
  refine (implNextPplR_any A n ca x B m cb y C l cc z w1 hn HSa.out hm HSb.out hl HSc.out).mono ?_
  rintro e w2 hg
  cases b1
  · have HH := hide (show ¬ gnP x n y m z l from fun h => by have := HE1.out.2 ⟨h.1, h.2.1⟩; cases this)
    obtain ⟨G1, d1, z1, G2, d2, z2, G3, d3, z3, l1, u1, l2, u2, l3, u3, rfl, -, -, -, -, -, -, -, -, -, -, -, -, -, hb⟩ := hg
    obtain ⟨L1, hL1⟩ : ∃ q, lenV (npP x n y m z l) n = q := ⟨_, rfl⟩
    obtain ⟨TB, hTB⟩ : ∃ q, tru (npP x n y m z l) = q := ⟨_, rfl⟩
    rw [hL1, hTB]
    clear hL1 hTB
    have HB2 := hide (HB1.out.trans (hb.mono HB1.out.size))
    have HR2 := hide (blk_below hb (by omega) HR1.out)
    obtain ⟨V, hV⟩ : ∃ u, u = w2.alloc (.cells #[.slice G1 L1 d1, .slice G2 L1 d2, .slice G3 L1 d3] 29) := ⟨_, rfl⟩
    have hbv : Below w2.heap.size w2 V := by rw [hV]; exact (Below.refl _ _).alloc (Nat.le_refl _) _
    have HBV := hide (HB2.out.trans (hbv.mono HB2.out.size))
    have hzv := hb.size
    have HRV := hide (blk_below hbv (by omega) HR2.out)
    have HVV := hide hV
    clear hV hb k0 k1 k2 hbv
    have p0 := Joins.cell_of_block HRV.out 0
    have p1 := Joins.cell_of_block HRV.out 1
    have p2 := Joins.cell_of_block HRV.out 2
    have p3 := Joins.cell_of_block HRV.out 3
    have q0 := Joins.unfrozen_of_block HRV.out 0
    have q1 := Joins.unfrozen_of_block HRV.out 1
    have q2 := Joins.unfrozen_of_block HRV.out 2
    have q3 := Joins.unfrozen_of_block HRV.out 3
    simp at p0 p1 p2 p3
    (try simp at q0 q1 q2 q3)
    rw [HVV.out] at p0 p1 p2 p3 q0 q1 q2 q3
    go_wp2
    rw [← HVV.out]
    have R := put4_block (a := .slice none 0 0) (b := .slice none 0 0) (c := .slice none 0 0) (d := .float .f32 0) HRV.out
    unfold put4 at R
    have k3 := Joins.cell_of_block R 0
    have k4 := Joins.cell_of_block R 1
    have k5 := Joins.cell_of_block R 2
    have k6 := Joins.cell_of_block R 3
    simp at k3 k4 k5 k6
    refine bodyPost_ret (v := .tuple #[.agg #[.slice none 0 0, .slice none 0 0, .slice none 0 0, .float .f32 0], .bool false]) (by simp [results, Try.results90, go_sem, k3, k4, k5, k6]) rfl (.inl ⟨HH.out, rfl, ?_⟩)
    exact put4_below HBV.out (by omega)
  have HPA := hide (HE1.out.1 rfl)
  have HEA : Hid (ra = fsum x n) := fs_fin (HRA.out rfl) (ab_fin HPA.out.2)
  have hp := HPA.out.1
  have n12 := hp.1.2
  have n2 := hp.1.1
  obtain rfl : m = n := hp.2.1
  obtain rfl : l = m := hp.2.2.1
  clear hp
  by_cases hnp : npP x l y l z l
  rotate_left
  · have HH := hide (show ¬ gnP x l y l z l from fun h => hnp (gn_np h))
    obtain ⟨G1, d1, z1, G2, d2, z2, G3, d3, z3, l1, u1, l2, u2, l3, u3, rfl, -, -, -, -, -, -, -, -, -, -, -, -, -, hb⟩ := hg
    obtain ⟨L1, hL1⟩ : ∃ q, lenV (npP x l y l z l) l = q := ⟨_, rfl⟩
    rw [tru_no hnp, hL1]
    clear hL1 hnp
    have HB2 := hide (HB1.out.trans (hb.mono HB1.out.size))
    have HR2 := hide (blk_below hb (by omega) HR1.out)
    obtain ⟨V, hV⟩ : ∃ u, u = w2.alloc (.cells #[.slice G1 L1 d1, .slice G2 L1 d2, .slice G3 L1 d3] 29) := ⟨_, rfl⟩
    have hbv : Below w2.heap.size w2 V := by rw [hV]; exact (Below.refl _ _).alloc (Nat.le_refl _) _
    have HBV := hide (HB2.out.trans (hbv.mono HB2.out.size))
    have hzv := hb.size
    have HRV := hide (blk_below hbv (by omega) HR2.out)
    have HVV := hide hV
    clear hV hb k0 k1 k2 hbv
    have p0 := Joins.cell_of_block HRV.out 0
    have p1 := Joins.cell_of_block HRV.out 1
    have p2 := Joins.cell_of_block HRV.out 2
    have p3 := Joins.cell_of_block HRV.out 3
    have q0 := Joins.unfrozen_of_block HRV.out 0
    have q1 := Joins.unfrozen_of_block HRV.out 1
    have q2 := Joins.unfrozen_of_block HRV.out 2
    have q3 := Joins.unfrozen_of_block HRV.out 3
    simp at p0 p1 p2 p3
    (try simp at q0 q1 q2 q3)
    rw [HVV.out] at p0 p1 p2 p3 q0 q1 q2 q3
    go_wp2
    rw [← HVV.out]
    have R := put4_block (a := .slice none 0 0) (b := .slice none 0 0) (c := .slice none 0 0) (d := .float .f32 0) HRV.out
    unfold put4 at R
    have k3 := Joins.cell_of_block R 0
    have k4 := Joins.cell_of_block R 1
    have k5 := Joins.cell_of_block R 2
    have k6 := Joins.cell_of_block R 3
    simp at k3 k4 k5 k6
    refine bodyPost_ret (v := .tuple #[.agg #[.slice none 0 0, .slice none 0 0, .slice none 0 0, .float .f32 0], .bool false]) (by simp [results, Try.results90, go_sem, k3, k4, k5, k6]) rfl (.inl ⟨HH.out, rfl, ?_⟩)
    exact put4_below HBV.out (by omega)
  obtain ⟨G1, d1, G2, d2, G3, d3, l1, u1, l2, u2, l3, u3, rfl, hroom, o1, o2, o3, r1, r2, r3, s1, s2, hb⟩ := gaver_yes hg hnp (fun j hj => hd_fin (hnp.2 j hj)) (fun j hj => shB_fin (hnp.1.2.2.2.2.1 j hj)) (fun j hj => hd_fin (hnp.1.2.2.2.2.2 j hj))
  have HNP := hide hnp
  have HB2 := hide (HB1.out.trans (hb.mono HB1.out.size))
  have HR2 := hide (blk_below hb (by omega) HR1.out)
  obtain ⟨V, hV⟩ : ∃ u, u = w2.alloc (.cells #[.slice G1 l d1, .slice G2 l d2, .slice G3 l d3] 29) := ⟨_, rfl⟩
  have hbv : Below w2.heap.size w2 V := by rw [hV]; exact (Below.refl _ _).alloc (Nat.le_refl _) _
  have HBV := hide (HB2.out.trans (hbv.mono HB2.out.size))
  have hzv := hb.size
  have hzV : w2.heap.size + 1 ≤ V.heap.size := by rw [hV]; simp
  have HRV := hide (blk_below hbv (by omega) HR2.out)
  have HPV : Hid (V.heap[w2.heap.size]? = some (.cells #[.slice G1 l d1, .slice G2 l d2, .slice G3 l d3] 29)) := by rw [hV]; exact blocks1 w2 _
  have HO1 := hide (o1.below hbv)
  have HO2 := hide (o2.below hbv)
  have HO3 := hide (o3.below hbv)
  have HVV := hide hV
  clear hV hb k0 k1 k2 hbv o1 o2 o3 hg hnp HX1 HR1 HSa HSb HSc HB1
  have k0 := Joins.cell_of_block HPV.out 0
  have k1 := Joins.cell_of_block HPV.out 1
  have k2 := Joins.cell_of_block HPV.out 2
  simp at k0 k1 k2
  rw [HVV.out] at k0 k1 k2
  go_wp2_with fail
  rw [← HVV.out]
  clear HVV k0 k1 k2
  refine (someOf_any G1 l d1 (nxV x y z l) G2 l d2 y G3 l d3 z V hroom (by unfold maxLen; omega) HO1.out.sl (by unfold maxLen; omega) HO2.out.sl (by unfold maxLen; omega) HO3.out.sl).mono ?_
  rintro e w3 ⟨rb, b2, rfl, hb2, hrb, hb⟩
  have HE2 := hide hb2
  have HRB := hide hrb
  have HB3 := hide (HBV.out.trans (hb.mono HBV.out.size))
  have HP3 := hide (blk_below hb (by omega) HPV.out)
  have HR3 := hide (blk_below hb (by omega) HRV.out)
  have HO13 := hide (HO1.out.below hb)
  have HO23 := hide (HO2.out.below hb)
  have HO33 := hide (HO3.out.below hb)
  have hz3 := hb.size
  clear hb hb2 hrb HBV HPV HRV HO1 HO2 HO3
  cases b2
  · have HH := hide (show ¬ gnP x l y l z l from fun h => by have := HE2.out.2 ⟨np_next (gn_np h), h.2.2⟩; cases this)
    have p0 := Joins.cell_of_block HR3.out 0
    have p1 := Joins.cell_of_block HR3.out 1
    have p2 := Joins.cell_of_block HR3.out 2
    have p3 := Joins.cell_of_block HR3.out 3
    have q0 := Joins.unfrozen_of_block HR3.out 0
    have q1 := Joins.unfrozen_of_block HR3.out 1
    have q2 := Joins.unfrozen_of_block HR3.out 2
    have q3 := Joins.unfrozen_of_block HR3.out 3
    simp at p0 p1 p2 p3
    (try simp at q0 q1 q2 q3)
    go_wp2
    have R := put4_block (a := .slice none 0 0) (b := .slice none 0 0) (c := .slice none 0 0) (d := .float .f32 0) HR3.out
    unfold put4 at R
    have k3 := Joins.cell_of_block R 0
    have k4 := Joins.cell_of_block R 1
    have k5 := Joins.cell_of_block R 2
    have k6 := Joins.cell_of_block R 3
    simp at k3 k4 k5 k6
    refine bodyPost_ret (v := .tuple #[.agg #[.slice none 0 0, .slice none 0 0, .slice none 0 0, .float .f32 0], .bool false]) (by simp [results, Try.results90, go_sem, k3, k4, k5, k6]) rfl (.inl ⟨HH.out, rfl, ?_⟩)
    exact put4_below HB3.out (by omega)
  have HC := hide (HE2.out.1 rfl).2
  have HGN := hide (show gnP x l y l z l from ⟨HPA.out.1, HPA.out.2, HC.out⟩)
  have HEB : Hid (rb = fsum (nxV x y z l) l) := fs_fin (HRB.out rfl) (ab_fin HC.out)
  obtain ⟨g, hG, hg1, hg2, hg3⟩ := OW.at_ HO13.out (by omega)
  subst hG
  have k0 := Joins.cell_of_block HP3.out 0
  simp at k0
  go_wp2_with fail
  have HOM : Hid (OW w3 l1 u1 (some ⟨g, 0, none⟩) l (fun j => .float .f32 (mixG (nxV x y z l) (gnV x y z l) 0 j))) := HO13.out.congr fun j _ => by rw [mixG_zero]
  clear HO13 k0
  go_loopw [10, 41] (fun _ i wi => ∃ j : Nat, j ≤ l ∧ i = .int .i64 (j : Int) ∧ Hid (OW wi l1 u1 (some ⟨g, 0, none⟩) l (fun p => .float .f32 (mixG (nxV x y z l) (gnV x y z l) j p))) ∧ Hid (Marked g (g + 1) w3 wi)) (fun _ i _ => l - (intOf i).toNat)
  case atStart => exact ⟨0, Nat.zero_le _, rfl, HOM.out, Marked.refl8 _ _ _⟩
  case round =>
    clear HOM
    obtain ⟨j, hj, rfl, hO, hM⟩ := hrel
    have HPi := hide (blk_marked hM.out (by omega) (by omega) HP3.out)
    have HRi := hide (blk_marked hM.out (by omega) (by omega) HR3.out)
    have hzi := hM.out.size
    have n0 := Joins.cell_of_block HPi.out 0
    have n1 := Joins.cell_of_block HPi.out 1
    have n2' := Joins.cell_of_block HPi.out 2
    simp at n0 n1 n2'
    by_cases hjl : j < l
    · have hji : (j : Int) < (l : Int) := by omega
      obtain ⟨c0, f0⟩ := OW.cellAt hO.out hjl
      rw [mixG_at] at c0
      go_wp2_with (refine wpList_far _ rfl _ _ _ _ _ rfl (by decide) _ _ _ rfl rfl ?_; intro rq _ hrq)
      have HRQ := hide (show rq = gnV x y z l j from fs_fin (hrq.same.trans (.inl (by rw [HEB.out]; rfl))) (gn_fin HGN.out j hjl))
      clear hrq
      go_roundw
      case rel => exact ⟨j + 1, by omega, by go_num, (OW.put hO.out hjl).congr (fun p _ => by rw [HRQ.out]; exact mixG_step p), Marked.set8 (Marked.below8 hM.out (bel_q (Below.refl _ _) _)) _ _⟩
      case measure => simp [intOf]; omega
    · obtain rfl : j = l := by omega
      have hji : ¬ (j : Int) < (j : Int) := by omega
      have HBi := hide (HB3.out.trans (hM.out.bel (B := w.heap.size) (by omega) (by omega)))
      have HO2i := hide (HO23.out.marked hM.out (by omega))
      have HO3i := hide (HO33.out.marked hM.out (by omega))
      have HO1i := hide (hO.out.congr (f' := fun p => .float .f32 (gnV x y z j p)) (fun p hp => by rw [mixG_all _ _ hp]))
      clear hO hM HO23 HO33
      have p0 := Joins.cell_of_block HRi.out 0
      have p1 := Joins.cell_of_block HRi.out 1
      have p2 := Joins.cell_of_block HRi.out 2
      have p3 := Joins.cell_of_block HRi.out 3
      have q0 := Joins.unfrozen_of_block HRi.out 0
      have q1 := Joins.unfrozen_of_block HRi.out 1
      have q2 := Joins.unfrozen_of_block HRi.out 2
      have q3 := Joins.unfrozen_of_block HRi.out 3
      simp at p0 p1 p2 p3
      (try simp at q0 q1 q2 q3)
      go_wp2_with (refine wpList_far _ rfl _ _ _ _ _ rfl (by decide) _ _ _ rfl rfl ?_; intro rg nq hrg)
      have HG := hide (show FS .f32 rg (fop .quo .f32 (fsum (nxV x y z j) j) (fsum x j)) from hrg.same.trans (.inl (by rw [HEB.out, HEA.out])))
      clear hrg
      have R := put4_block (a := .slice (some ⟨g, 0, none⟩) j d1) (b := .slice G2 j d2) (c := .slice G3 j d3) (d := .float .f32 rg) (show (wr.drewN nq).heap[w.heap.size + 1]? = _ from HRi.out)
      unfold put4 at R
      have k3 := Joins.cell_of_block R 0
      have k4 := Joins.cell_of_block R 1
      have k5 := Joins.cell_of_block R 2
      have k6 := Joins.cell_of_block R 3
      simp at k3 k4 k5 k6
      refine bodyPost_ret (v := .tuple #[.agg #[.slice (some ⟨g, 0, none⟩) j d1, .slice G2 j d2, .slice G3 j d3, .float .f32 rg], .bool true]) (by simp [results, Try.results90, go_sem, k3, k4, k5, k6]) rfl (.inr ⟨HGN.out, _, d1, G2, d2, G3, d3, rg, rfl, hroom, HG.out, ?_, ?_, ?_, ?_⟩)
      · exact (put4_ow (HO1i.out.drewN nq) (.inl (by omega))).wide (by omega) (by show _ ≤ (put4 (wr.drewN nq) _ _ _ _ _).heap.size; rw [put4_size]; show _ ≤ wr.heap.size; omega)
      · exact (put4_ow (HO2i.out.drewN nq) (.inl (by omega))).wide (by omega) (by show _ ≤ (put4 (wr.drewN nq) _ _ _ _ _).heap.size; rw [put4_size]; show _ ≤ wr.heap.size; omega)
      · exact (put4_ow (HO3i.out.drewN nq) (.inl (by omega))).wide (by omega) (by show _ ≤ (put4 (wr.drewN nq) _ _ _ _ _).heap.size; rw [put4_size]; show _ ≤ wr.heap.size; omega)
      · exact put4_below (bel_q HBi.out _) (by omega)
end Go.Proofs.Ytpbbedelapnnnaa
