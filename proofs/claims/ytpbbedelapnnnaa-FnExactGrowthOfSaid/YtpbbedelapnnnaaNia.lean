/- NextPeople, by the program, with room. -/
import Derived.Test.YtpbbedelapnnnaaCp8
import Derived.Test.YtpbbedelapnnnaaCp9
import Derived.Test.YtpbbedelapnnnaaLa9
import Derived.Deep.CutRange
import Derived.Deep.RegionWith
namespace Go.Proofs.Ytpbbedelapnnnaa
open Go.RowKit Go.Dues
/-- people that are handed back, with what the counts have room for -/
def GaveR (w w' : World) (e : Ending) (p : Prop) (n m l : Nat) (X Y Z : Nat → Nat) : Prop :=
  ∃ G1 d1, ∃ z1 : Nat → Nat, ∃ G2 d2, ∃ z2 : Nat → Nat, ∃ G3 d3, ∃ z3 : Nat → Nat, ∃ l1 u1 l2 u2 l3 u3, e = .returned (.tuple #[.agg #[.slice G1 (lenV p n) d1, .slice G2 (lenV p m) d2, .slice G3 (lenV p l) d3], .bool (tru p)]) ∧
    OW w' l1 u1 G1 (lenV p n) (fun j => .float .f32 (z1 j)) ∧ OW w' l2 u2 G2 (lenV p m) (fun j => .float .f32 (z2 j)) ∧ OW w' l3 u3 G3 (lenV p l) (fun j => .float .f32 (z3 j)) ∧
    (∀ j, j < lenV p n → FS .f32 (z1 j) (X j)) ∧ (∀ j, j < lenV p m → FS .f32 (z2 j) (Y j)) ∧ (∀ j, j < lenV p l → FS .f32 (z3 j) (Z j)) ∧
    (w.heap.size ≤ l1 ∧ l1 ≤ u1 ∧ u1 ≤ w'.heap.size) ∧ (w.heap.size ≤ l2 ∧ l2 ≤ u2 ∧ u2 ≤ w'.heap.size) ∧ (w.heap.size ≤ l3 ∧ l3 ≤ u3 ∧ u3 ≤ w'.heap.size) ∧ (u1 ≤ l2 ∨ u2 ≤ l1) ∧ (u1 ≤ l3 ∨ u3 ≤ l1) ∧ (u2 ≤ l3 ∨ u3 ≤ l2) ∧ lenV p n ≤ d1 ∧ Below w.heap.size w w'
theorem gaver_no {w w' : World} {p : Prop} {n m l : Nat} {X Y Z : Nat → Nat} (h : ¬ p) (hb : Below w.heap.size w w') : GaveR w w' (.returned (.tuple #[.agg #[.slice none 0 0, .slice none 0 0, .slice none 0 0], .bool false])) p n m l X Y Z :=
  ⟨none, 0, fun _ => 0, none, 0, fun _ => 0, none, 0, fun _ => 0, w.heap.size, w.heap.size, w.heap.size, w.heap.size, w.heap.size, w.heap.size, by rw [lenV_no h, lenV_no h, lenV_no h, tru_no h], .inl (lenV_no h), .inl (lenV_no h), .inl (lenV_no h), fun j hj => absurd hj (by rw [lenV_no h]; omega), fun j hj => absurd hj (by rw [lenV_no h]; omega), fun j hj => absurd hj (by rw [lenV_no h]; omega), ⟨Nat.le_refl _, Nat.le_refl _, hb.size⟩, ⟨Nat.le_refl _, Nat.le_refl _, hb.size⟩, ⟨Nat.le_refl _, Nat.le_refl _, hb.size⟩, .inl (Nat.le_refl _), .inl (Nat.le_refl _), .inl (Nat.le_refl _), by rw [lenV_no h]; exact Nat.zero_le _, hb⟩
theorem GaveR.to {w w' : World} {e : Ending} {p : Prop} {n m l : Nat} {X Y Z : Nat → Nat} (h : GaveR w w' e p n m l X Y Z) : GaveP w w' e p n m l X Y Z := by
  obtain ⟨G1, d1, z1, G2, d2, z2, G3, d3, z3, l1, u1, l2, u2, l3, u3, he, o1, o2, o3, f1, f2, f3, b1, b2, b3, c1, c2, c3, _, hb⟩ := h
  exact ⟨G1, d1, z1, G2, d2, z2, G3, d3, z3, l1, u1, l2, u2, l3, u3, he, o1, o2, o3, f1, f2, f3, b1, b2, b3, c1, c2, c3, trivial, hb⟩
attribute [local go_sem] run_store_float
theorem Marked.below8 {lo hi : Nat} {w w' w'' : World} (h : Marked lo hi w w') (hb : Below w'.heap.size w' w'') : Marked lo hi w w'' :=
  ⟨hb.os.trans h.os, hb.tape.trans h.tape, hb.output.trans h.output, Nat.le_trans h.size hb.size, fun b hbs hd => (hb.block b (Nat.lt_of_lt_of_le hbs h.size)).trans (h.block b hbs hd)⟩
theorem Marked.set8 {g : Nat} {w w' : World} (h : Marked g (g + 1) w w') (o : Nat) (v : Value) : Marked g (g + 1) w (w'.setCell ⟨g, o, none⟩ v) :=
  ⟨h.os, h.tape, h.output, Nat.le_trans h.size (Nat.le_of_eq (by simp)), fun b hbs hd => (Below.heap_setCell _ _ _ b (by show b ≠ g; omega)).trans (h.block b hbs hd)⟩
theorem Marked.refl8 (lo hi : Nat) (w : World) : Marked lo hi w w := ⟨rfl, rfl, rfl, Nat.le_refl _, fun _ _ _ => rfl⟩
def nxB (G1 : Option Addr) (l d1 : Nat) (G2 : Option Addr) (d2 : Nat) (G3 : Option Addr) (d3 : Nat) : Array Value := #[.slice G1 l d1, .slice G2 l d2, .slice G3 l d3]
/-- what is known when the new people are made -/
def NPM (w1 : World) (l : Nat) (x y z : Nat → Nat) (s4 s5 : Value) (wx : World) : Prop :=
  ∃ N G1 d1 G2 d2 G3 d3, ∃ a1 b1 a2 b2 a3 b3 : Nat, s4 = .pointer (some ⟨N, 0, none⟩) ∧ s5 = .int .i64 ((l : Int) - 1) ∧ OW wx a1 b1 G1 l (fun j => .float .f32 (x j)) ∧ OW wx a2 b2 G2 l (fun j => .float .f32 (y j)) ∧ OW wx a3 b3 G3 l (fun j => .float .f32 (z j)) ∧ wx.heap[N]? = some (.cells #[.slice G1 l d1, .slice G2 l d2, .slice G3 l d3] 29) ∧
    (w1.heap.size ≤ N ∧ N < wx.heap.size) ∧ (w1.heap.size ≤ a1 ∧ a1 ≤ b1 ∧ b1 ≤ wx.heap.size ∧ (N < a1 ∨ b1 ≤ N)) ∧ (w1.heap.size ≤ a2 ∧ a2 ≤ b2 ∧ b2 ≤ wx.heap.size ∧ (N < a2 ∨ b2 ≤ N)) ∧ (w1.heap.size ≤ a3 ∧ a3 ≤ b3 ∧ b3 ≤ wx.heap.size ∧ (N < a3 ∨ b3 ≤ N)) ∧ b1 ≤ a2 ∧ b2 ≤ a3 ∧ l ≤ d1 ∧ Below w1.heap.size w1 wx
section
variable {w1 v1 v2 Y : World} {l : Nat} {x y z : Nat → Nat} {G1 : Option Addr} {d1 : Nat} {G2 : Option Addr} {d2 : Nat} {G3 : Option Addr} {d3 b0 e1 e2 e3 N : Nat}
def nxA (x y z : Nat → Nat) (l p : Nat) : Nat := if p = 0 then fdot x z l else fop .mul .f32 (x (p - 1)) (y (p - 1))
theorem nxA_0 (x y z : Nat → Nat) (l : Nat) : nxA x y z l 0 = fdot x z l := if_pos rfl
theorem nxA_s (x y z : Nat → Nat) (l k : Nat) : nxA x y z l (k + 1) = fop .mul .f32 (x k) (y k) := by unfold nxA; rw [if_neg (by omega), Nat.add_sub_cancel]
theorem nxA_V {x y z : Nat → Nat} {l p : Nat} (h : p + 1 < l) : nxA x y z l p = nxV x y z l p := by
  unfold nxA nxV
  by_cases h0 : p = 0
  · rw [if_pos h0, if_pos h0]
  · rw [if_neg h0, if_neg h0, if_neg (by omega)]
/-- a row in which the counts of the next year stand up to place k -/
def NXR (w1 wr : World) (g l k : Nat) (V : Nat → Nat) : Prop :=
  Marked g (g + 1) w1 wr ∧ ∃ ds t, wr.heap[g]? = some (.cells ds t (0, 0)) ∧ (∀ p, p < l → ∃ u, ds[p]? = some u) ∧ ∀ p, p < k → ∃ u, ds[p]? = some (.float .f32 u) ∧ FS .f32 u (V p)
theorem blk_set8 {w : World} {g : Nat} {p : Addr} {v : Value} {o : Option Obj} (hne : g ≠ p.block) (h : w.heap[g]? = o) : (w.setCell p v).heap[g]? = o := (Below.heap_setCell _ _ _ g hne).trans h
theorem NXR.put {w1 wr v : World} {g l k r : Nat} {V : Nat → Nat} (h : NXR w1 wr g l k V) (hb : Below wr.heap.size wr v) (hk : k < l) (hr : FS .f32 r (V k)) : NXR w1 (v.setCell ⟨g, k, none⟩ (.float .f32 r)) g l (k + 1) V := by
  obtain ⟨hm, ds, t, h1, h2, h3⟩ := h
  have h1v := (hb.block g (Array.getElem?_eq_some_iff.1 h1).1).trans h1
  refine ⟨Marked.set8 (Marked.below8 hm hb) k _, ds.setIfInBounds k (.float .f32 r), t, Joins.block_setCell h1v _, ?_, ?_⟩
  · intro p hp
    by_cases hpk : p = k
    · subst hpk
      obtain ⟨u, hu⟩ := h2 p hp
      exact ⟨.float .f32 r, by simp [(Array.getElem?_eq_some_iff.1 hu).1]⟩
    · obtain ⟨u, hu⟩ := h2 p hp
      exact ⟨u, by rw [Array.getElem?_setIfInBounds_ne (Ne.symm hpk)]; exact hu⟩
  · intro p hp
    by_cases hpk : p = k
    · subst hpk
      obtain ⟨u, hu⟩ := h2 p hk
      exact ⟨r, by simp [(Array.getElem?_eq_some_iff.1 hu).1], hr⟩
    · obtain ⟨u, hu, hs⟩ := h3 p (by omega)
      exact ⟨u, by rw [Array.getElem?_setIfInBounds_ne (Ne.symm hpk)]; exact hu, hs⟩
theorem NXR.putl {w1 wr v : World} {g l k r : Nat} {V : Nat → Nat} (h : NXR w1 wr g l k V) (hb : Below wr.heap.size wr v) (hk : k + 1 = l) (hr : FS .f32 r (V k)) : NXR w1 (v.setCell ⟨g, k, none⟩ (.float .f32 r)) g l l V := by
  have := NXR.put h hb (by omega) hr
  rw [hk] at this
  exact this
theorem NXR.val {w1 wr : World} {g l k p : Nat} {V : Nat → Nat} (h : NXR w1 wr g l k V) (hp : p < k) : ∃ u, FS .f32 u (V p) ∧ ∀ v, Below wr.heap.size wr v → v.cell? ⟨g, p, none⟩ = some (.float .f32 u) := by
  obtain ⟨hm, ds, t, h1, h2, h3⟩ := h
  obtain ⟨u, hu, hs⟩ := h3 p hp
  exact ⟨u, hs, fun v hb => (Joins.cell_of_block ((hb.block g (Array.getElem?_eq_some_iff.1 h1).1).trans h1) p).trans hu⟩
theorem NXR.less {w1 wr : World} {g l k j : Nat} {V U : Nat → Nat} (h : NXR w1 wr g l k V) (hj : j ≤ k) (he : ∀ p, p < j → V p = U p) : NXR w1 wr g l j U := by
  obtain ⟨hm, ds, t, h1, h2, h3⟩ := h
  exact ⟨hm, ds, t, h1, h2, fun p hp => by rw [← he p hp]; exact h3 p (by omega)⟩
theorem NXR.row {w1 wr : World} {g l a b : Nat} {V : Nat → Nat} (h : NXR w1 wr g l l V) (ha : a ≤ g) (hb : g < b) : ∃ u : Nat → Nat, OW wr a b (some ⟨g, 0, none⟩) l (fun j => .float .f32 (u j)) ∧ ∀ j, j < l → FS .f32 (u j) (V j) := by
  obtain ⟨hm, ds, t, h1, h2, h3⟩ := h
  have hc := fun j : {j // j < l} => h3 j.1 j.2
  refine ⟨fun j => if h : j < l then Classical.choose (hc ⟨j, h⟩) else 0, .inr ⟨g, ds, t, rfl, ha, hb, h1, fun j hj => ?_⟩, fun j hj => ?_⟩
  · have := (Classical.choose_spec (hc ⟨j, hj⟩)).1
    simp only [hj, dif_pos]
    exact this
  · have := (Classical.choose_spec (hc ⟨j, hj⟩)).2
    simp only [hj, dif_pos]
    exact this
theorem NXR.cell {w1 wr v : World} {g l k p : Nat} {V : Nat → Nat} (h : NXR w1 wr g l k V) (hb : Below wr.heap.size wr v) (hp : p < l) : (∃ u, v.cell? ⟨g, p, none⟩ = some u) ∧ v.frozen? ⟨g, p, none⟩ = false := by
  obtain ⟨hm, ds, t, h1, h2, h3⟩ := h
  have h1v := (hb.block g (Array.getElem?_eq_some_iff.1 h1).1).trans h1
  obtain ⟨u, hu⟩ := h2 p hp
  exact ⟨⟨u, (Joins.cell_of_block h1v p).trans hu⟩, Joins.unfrozen_of_block h1v p⟩
/-- what is known behind the clone -/
structure CL (w1 v1 : World) (l : Nat) (x y z : Nat → Nat) (G1 G2 G3 : Option Addr) (b0 e1 e2 e3 : Nat) : Prop where
  o1 : OW v1 b0 e1 G1 l (fun j => .float .f32 (x j))
  o2 : OW v1 e1 e2 G2 l (fun j => .float .f32 (y j))
  o3 : OW v1 e2 e3 G3 l (fun j => .float .f32 (z j))
  hb0 : w1.heap.size ≤ b0
  h1 : b0 ≤ e1
  h2 : e1 ≤ e2
  h3 : e2 ≤ e3
  h4 : e3 ≤ v1.heap.size
  bel : Below w1.heap.size w1 v1
theorem CL.below (h : CL w1 v1 l x y z G1 G2 G3 b0 e1 e2 e3) (hb : Below v1.heap.size v1 v2) : CL w1 v2 l x y z G1 G2 G3 b0 e1 e2 e3 :=
  ⟨h.o1.below hb, h.o2.below hb, h.o3.below hb, h.hb0, h.h1, h.h2, h.h3, Nat.le_trans h.h4 hb.size, h.bel.trans (hb.mono h.bel.size)⟩
theorem CL.drewN (h : CL w1 v1 l x y z G1 G2 G3 b0 e1 e2 e3) (q : Nat) : CL w1 (v1.drewN q) l x y z G1 G2 G3 b0 e1 e2 e3 :=
  h.below ⟨rfl, rfl, rfl, Nat.le_refl _, fun _ _ => rfl⟩
theorem CL.set (h : CL w1 v1 l x y z G1 G2 G3 b0 e1 e2 e3) (hN : N < b0 ∨ e3 ≤ N) (hw : w1.heap.size ≤ N) (o : Nat) (v : Value) : CL w1 (v1.setCell ⟨N, o, none⟩ v) l x y z G1 G2 G3 b0 e1 e2 e3 := by
  have := h.h1; have := h.h2; have := h.h3
  exact ⟨h.o1.setCell (by show N < b0 ∨ e1 ≤ N; omega), h.o2.setCell (by show N < e1 ∨ e2 ≤ N; omega), h.o3.setCell (by show N < e2 ∨ e3 ≤ N; omega), h.hb0, h.h1, h.h2, h.h3, Nat.le_trans h.h4 (Nat.le_of_eq (by simp)), h.bel.setCell hw _⟩
theorem CL.npm (h : CL w1 v1 l x y z G1 G2 G3 b0 e1 e2 e3) (hN : N < b0 ∨ e3 ≤ N) (hw : w1.heap.size ≤ N) (hb : v1.heap[N]? = some (.cells #[.slice G1 l d1, .slice G2 l d2, .slice G3 l d3] 29)) (hrm : l ≤ d1) : NPM w1 l x y z (.pointer (some ⟨N, 0, none⟩)) (.int .i64 ((l : Int) - 1)) v1 := by
  have g1 := h.h1; have g2 := h.h2; have g3 := h.h3; have g4 := h.h4; have g0 := h.hb0
  exact ⟨N, G1, d1, G2, d2, G3, d3, b0, e1, e1, e2, e2, e3, rfl, rfl, h.o1, h.o2, h.o3, hb, ⟨hw, (Array.getElem?_eq_some_iff.1 hb).1⟩, by omega, by omega, by omega, by omega, by omega, hrm, h.bel⟩
theorem CL.cells3 (hb : v1.heap[N]? = some (.cells #[.slice none 0 0, .slice none 0 0, .slice none 0 0] 29)) : (((v1.setCell ⟨N, 0, none⟩ (.slice G1 l d1)).setCell ⟨N, 1, none⟩ (.slice G2 l d2)).setCell ⟨N, 2, none⟩ (.slice G3 l d3)).heap[N]? = some (.cells #[.slice G1 l d1, .slice G2 l d2, .slice G3 l d3] 29) :=
  Joins.block_setCell (Joins.block_setCell (Joins.block_setCell hb (i := 0) (.slice G1 l d1)) (i := 1) (.slice G2 l d2)) (i := 2) (.slice G3 l d3)
theorem CL.set3 (h : CL w1 v1 l x y z G1 G2 G3 b0 e1 e2 e3) (hN : N < b0 ∨ e3 ≤ N) (hw : w1.heap.size ≤ N) : CL w1 (((v1.setCell ⟨N, 0, none⟩ (.slice G1 l d1)).setCell ⟨N, 1, none⟩ (.slice G2 l d2)).setCell ⟨N, 2, none⟩ (.slice G3 l d3)) l x y z G1 G2 G3 b0 e1 e2 e3 :=
  ((h.set hN hw _ _).set hN hw _ _).set hN hw _ _
end
set_option maxRecDepth 100000 in
set_option maxHeartbeats 64000000 in
theorem implNextPplR_any (A : Option Addr) (n ca : Nat) (x : Nat → Nat) (B : Option Addr) (m cb : Nat) (y : Nat → Nat) (C : Option Addr) (l cc : Nat) (z : Nat → Nat) (w : World) (hn : n ≤ maxLen) (hs : SL w A n (fun j => .float .f32 (x j))) (hm : m ≤ maxLen) (hs' : SL w B m (fun j => .float .f32 (y j))) (hl : l ≤ maxLen) (hs'' : SL w C l (fun j => .float .f32 (z j))) :
    Calls Try.prog 174 #[.agg #[.slice A n ca, .slice B m cb, .slice C l cc]] w fun e w' => GaveR w w' e (npP x n y m z l) n n n (nxV x y z n) y z := by
  obtain ⟨W1, hW1⟩ : ∃ u, u = w.alloc (.cells #[.slice A n ca, .slice B m cb, .slice C l cc] 29) := ⟨_, rfl⟩
  obtain ⟨W, hW⟩ : ∃ u, u = W1.alloc (.cells #[.slice none 0 0, .slice none 0 0, .slice none 0 0] 29) := ⟨_, rfl⟩
  have z1 : W1.heap.size = w.heap.size + 1 := by rw [hW1]; simp
  have z2 : W.heap.size = w.heap.size + 2 := by rw [hW]; simp; omega
  have hB1 : Below w.heap.size w W1 := by rw [hW1]; exact (Below.refl _ _).alloc (Nat.le_refl _) _
  have hB2 : Below W1.heap.size W1 W := by rw [hW]; exact (Below.refl _ _).alloc (Nat.le_refl _) _
  have HBW : Hid (Below w.heap.size w W) := hB1.trans (hB2.mono (by omega))
  have HX : Hid (W.heap[w.heap.size]? = some (.cells #[.slice A n ca, .slice B m cb, .slice C l cc] 29)) := by
    refine blk_below hB2 (by omega) ?_
    rw [hW1]; exact blocks1 w _
  have HR : Hid (W.heap[w.heap.size + 1]? = some (.cells #[.slice none 0 0, .slice none 0 0, .slice none 0 0] 29)) := by
    rw [← z1, hW]; exact blocks1 W1 _
  have HS := hide (hs.below HBW.out)
  have HS' := hide (hs'.below HBW.out)
  have HS'' := hide (hs''.below HBW.out)
  have HW1 := hide hW1
  have HWW := hide hW
  have hz : w.heap.size + 2 ≤ W.heap.size := by omega
  have HVP := hide (implValidPpl_any A n ca x B m cb y C l cc z W hn HS.out hm HS'.out hl HS''.out)
  have HLA := fun w => hide (lastAge9_any A n ca x B m cb y C l cc z w hn)
  unfold maxLen at hn hm hl
  have k0 := Joins.cell_of_block HX.out 0
  have k1 := Joins.cell_of_block HX.out 1
  have k2 := Joins.cell_of_block HX.out 2
  simp at k0 k1 k2
  have i0 := k0
  have i1 := k1
  have i2 := k2
  rw [hW, hW1] at i0 i1 i2
  clear hs hs' hs'' hW1 hW z1 z2 hB1 hB2
  by_cases hp : ppP x n y m z l
  rotate_left
  · have HT := hide (tru_no hp)
    have HH := hide (show ¬ npP x n y m z l from fun h => hp h.1)
    clear hp
    go_enter Try.func174, Try.ntmps174
    go_wp2_with fail
    rw [← HW1.out, ← HWW.out]
    clear HW1 HWW i0 i1 i2 k0 k1 k2
    refine HVP.out.mono ?_
    rw [HT.out]
    rintro e w1 ⟨rfl, hb⟩
    have HB1 := hide (HBW.out.trans (hb.mono HBW.out.size))
    have HR1 := hide (blk_below hb (by omega) HR.out)
    have p0 := Joins.cell_of_block HR1.out 0
    have p1 := Joins.cell_of_block HR1.out 1
    have p2 := Joins.cell_of_block HR1.out 2
    have q0 := Joins.unfrozen_of_block HR1.out 0
    have q1 := Joins.unfrozen_of_block HR1.out 1
    have q2 := Joins.unfrozen_of_block HR1.out 2
    simp at p0 p1 p2 q0 q1 q2
    clear hb
    go_wp2
    have R := Joins.block_setCell (Joins.block_setCell (Joins.block_setCell HR1.out (i := 0) (.slice none 0 0)) (i := 1) (.slice none 0 0)) (i := 2) (.slice none 0 0)
    have k3 := Joins.cell_of_block R 0
    have k4 := Joins.cell_of_block R 1
    have k5 := Joins.cell_of_block R 2
    simp at k3 k4 k5
    refine bodyPost_ret (v := .tuple #[.agg #[.slice none 0 0, .slice none 0 0, .slice none 0 0], .bool false]) (by simp [results, Try.results174, go_sem, k3, k4, k5]) rfl (gaver_no HH.out ?_)
    exact ((HB1.out.setCell (by simp) _).setCell (by simp) _).setCell (by simp) _
  have HT := hide (tru_yes hp)
  have HPP := hide hp
  have n12 := hp.1.2
  have n2 := hp.1.1
  obtain rfl : m = n := hp.2.1
  obtain rfl : l = m := hp.2.2.1
  clear hp
  go_enter Try.func174, Try.ntmps174
  go_wp2_with fail
  rw [← HW1.out, ← HWW.out]
  clear HW1 HWW i0 i1 i2 k0 k1 k2
  refine HVP.out.mono ?_
  rw [HT.out]
  rintro e w1 ⟨rfl, hb⟩
  have HB1 := hide (HBW.out.trans (hb.mono HBW.out.size))
  have HX1 := hide (blk_below hb (by omega) HX.out)
  have HR1 := hide (blk_below hb (by omega) HR.out)
  have HSa := hide (HS.out.below hb)
  have HSb := hide (HS'.out.below hb)
  have HSc := hide (HS''.out.below hb)
  have hzw1 : w.heap.size + 2 ≤ w1.heap.size := Nat.le_trans hz hb.size
  clear hb HX HR HS HS' HS'' HVP HBW
  have k0 := Joins.cell_of_block HX1.out 0
  have k1 := Joins.cell_of_block HX1.out 1
  have k2 := Joins.cell_of_block HX1.out 2
  simp at k0 k1 k2
  have AL1 := hide ((Below.refl w1.heap.size w1).alloc (Nat.le_refl _) (.cells #[.slice none 0 0, .slice none 0 0, .slice none 0 0] 29))
  have HZ1 := hide (blocks1 w1 (.cells #[.slice none 0 0, .slice none 0 0, .slice none 0 0] 29))
  have HSaZ := hide (HSa.out.below AL1.out)
  have HSbZ := hide (HSb.out.below AL1.out)
  have HScZ := hide (HSc.out.below AL1.out)
  have KK := hide (show ∀ u, Below w1.heap.size w1 u → u.cell? ⟨w.heap.size, 0, none⟩ = some (.slice A l ca) ∧ u.cell? ⟨w.heap.size, 1, none⟩ = some (.slice B l cb) ∧ u.cell? ⟨w.heap.size, 2, none⟩ = some (.slice C l cc) from fun u hu => ⟨(hu.cell (p := ⟨w.heap.size, 0, none⟩) (by show w.heap.size < _; omega)).trans k0, (hu.cell (p := ⟨w.heap.size, 1, none⟩) (by show w.heap.size < _; omega)).trans k1, (hu.cell (p := ⟨w.heap.size, 2, none⟩) (by show w.heap.size < _; omega)).trans k2⟩)
  have al0 := (KK.out _ AL1.out).1
  have al1 := (KK.out _ AL1.out).2.1
  have al2 := (KK.out _ AL1.out).2.2
  go_upto_region 3 with fail
  go_cut [4, 5] from 11 to 14 (fun s4 s5 wx => NPM w1 l x y z s4 s5 wx)
  case first =>
    go_region_with (first
      | (go_at_call 226; refine (implClonePplG_any A l ca x B l cb y C l cc z _ (by omega) (by omega) (by first | exact HSa.out | exact HSaZ.out) (by omega) (by omega) (by first | exact HSb.out | exact HSbZ.out) (by omega) (by omega) (by first | exact HSc.out | exact HScZ.out)).mono ?_; rintro e v1 ⟨G1, d1, G2, d2, G3, d3, e1, e2, e3, rfl, ho1, ho2, ho3, he1, he2, he3, he4, hrm, hb⟩; have HBv : Hid (Below w1.heap.size w1 v1) := (by first | exact ⟨hb.os, hb.tape, hb.output, hb.size, hb.block⟩ | (have hb' := hb.mono AL1.out.size; exact AL1.out.trans ⟨hb'.os, hb'.tape, hb'.output, hb'.size, hb'.block⟩)); have HCL := hide (CL.mk ho1 ho2 ho3 (by first | exact Nat.le_refl _ | exact AL1.out.size) he1 he2 he3 he4 HBv.out); (try (have HZv := hide (show v1.heap[w1.heap.size]? = some (.cells #[.slice none 0 0, .slice none 0 0, .slice none 0 0] 29) from (hb.block w1.heap.size (by simp)).trans HZ1.out); have pz0 := Joins.cell_of_block HZv.out 0; have pz1 := Joins.cell_of_block HZv.out 1; have pz2 := Joins.cell_of_block HZv.out 2; have uz0 := Joins.unfrozen_of_block HZv.out 0; have uz1 := Joins.unfrozen_of_block HZv.out 1; have uz2 := Joins.unfrozen_of_block HZv.out 2; simp at pz0 pz1 pz2 uz0 uz1 uz2)); have c0 := (KK.out _ HBv.out).1; have c1 := (KK.out _ HBv.out).2.1; have c2 := (KK.out _ HBv.out).2.2; have HBZ := hide ((Below.refl v1.heap.size v1).alloc (Nat.le_refl _) (.cells #[.slice none 0 0, .slice none 0 0, .slice none 0 0] 29)); have f0 := (KK.out _ (HBv.out.trans (HBZ.out.mono HBv.out.size))).1; have f1 := (KK.out _ (HBv.out.trans (HBZ.out.mono HBv.out.size))).2.1; have f2 := (KK.out _ (HBv.out.trans (HBZ.out.mono HBv.out.size))).2.2; have HBG := hide ((Below.refl v1.heap.size v1).alloc (Nat.le_refl _) (.cells #[.slice G1 l d1, .slice G2 l d2, .slice G3 l d3] 29)); have g0 := (KK.out _ (HBv.out.trans (HBG.out.mono HBv.out.size))).1; have g1 := (KK.out _ (HBv.out.trans (HBG.out.mono HBv.out.size))).2.1; have g2 := (KK.out _ (HBv.out.trans (HBG.out.mono HBv.out.size))).2.2; have HBS := hide (((HBv.out.setCell (p := ⟨w1.heap.size, 0, none⟩) (Nat.le_refl _) (.slice G1 l d1)).setCell (p := ⟨w1.heap.size, 1, none⟩) (Nat.le_refl _) (.slice G2 l d2)).setCell (p := ⟨w1.heap.size, 2, none⟩) (Nat.le_refl _) (.slice G3 l d3)); have s0 := (KK.out _ HBS.out).1; have s1 := (KK.out _ HBS.out).2.1; have s2 := (KK.out _ HBS.out).2.2; clear ho1 ho2 ho3 hb)
      | (go_at_call 224; refine (HLA _).out.mono ?_; rintro e v2 ⟨rfl, hb2⟩; (try (have HYv := hide (show v2.heap[w1.heap.size]? = some (.cells #[.slice none 0 0, .slice none 0 0, .slice none 0 0] 29) from (hb2.block w1.heap.size (Array.getElem?_eq_some_iff.1 HZv.out).1).trans HZv.out); have py0 := Joins.cell_of_block HYv.out 0; have py1 := Joins.cell_of_block HYv.out 1; have py2 := Joins.cell_of_block HYv.out 2; have uy0 := Joins.unfrozen_of_block HYv.out 0; have uy1 := Joins.unfrozen_of_block HYv.out 1; have uy2 := Joins.unfrozen_of_block HYv.out 2; simp at py0 py1 py2 uy0 uy1 uy2)); (try (have HYz := hide (show v2.heap[v1.heap.size]? = some (.cells #[.slice none 0 0, .slice none 0 0, .slice none 0 0] 29) from (hb2.block v1.heap.size (by simp)).trans (blocks1 v1 (.cells #[.slice none 0 0, .slice none 0 0, .slice none 0 0] 29))); have pw0 := Joins.cell_of_block HYz.out 0; have pw1 := Joins.cell_of_block HYz.out 1; have pw2 := Joins.cell_of_block HYz.out 2; have uw0 := Joins.unfrozen_of_block HYz.out 0; have uw1 := Joins.unfrozen_of_block HYz.out 1; have uw2 := Joins.unfrozen_of_block HYz.out 2; simp at pw0 pw1 pw2 uw0 uw1 uw2)); have HB2 := hide hb2; clear hb2))
    all_goals
      go_wp2_with fail
      go_meet
      first
        | exact ((HCL.out.below HB2.out).below ((Below.refl _ _).alloc (Nat.le_refl _) _)).npm (.inr (Nat.le_trans HCL.out.h4 HB2.out.size)) (Nat.le_trans HBv.out.size HB2.out.size) (blocks1 v2 _) hrm
        | exact (((HCL.out.below ((Below.refl _ _).alloc (Nat.le_refl _) _)).below HB2.out).set3 (.inr HCL.out.h4) HBv.out.size).npm (.inr HCL.out.h4) HBv.out.size (CL.cells3 HYz.out) hrm
        | exact ((HCL.out.below HB2.out).set3 (.inl (by simp)) (Nat.le_refl _)).npm (.inl (by simp)) (Nat.le_refl _) (CL.cells3 HYv.out) hrm
        | exact ((HCL.out.below ((Below.refl _ _).alloc (Nat.le_refl _) _)).below HB2.out).npm (.inr HCL.out.h4) HBv.out.size ((HB2.out.block v1.heap.size (by simp)).trans (blocks1 v1 _)) hrm
        | exact ((HCL.out.set3 (.inl (by simp)) (Nat.le_refl _)).below HB2.out).npm (.inl (by simp)) (Nat.le_refl _) ((HB2.out.block w1.heap.size (Array.getElem?_eq_some_iff.1 (CL.cells3 HZv.out)).1).trans (CL.cells3 HZv.out)) hrm
  case rest =>
  obtain ⟨W3, rfl⟩ : ∃ u, u = wc := ⟨_, rfl⟩
  obtain ⟨N, G1, d1, G2, d2, G3, d3, a1, b1, a2, b2, a3, b3, rfl, rfl, ho1, ho2, ho3, hN, hNb, hb1, hb2, hb3, h12, h23, hrm, hbel⟩ := hcut
  obtain ⟨g, cs, tg, hGe, hg1, hg2, hgb, hgc⟩ := ho1.resolve_left (by omega)
  subst hGe
  have hgN : g ≠ N := by omega
  have hNg : N ≠ g := by omega
  have hgw : g ≠ w.heap.size := by omega
  have hwg : w.heap.size ≠ g := by omega
  have HO2 := hide ho2
  have HO3 := hide ho3
  have HN := hide hN
  have HBC := hide hbel
  have HXc := hide (blk_below hbel (by omega) HX1.out)
  have HRc := hide (blk_below hbel (by omega) HR1.out)
  have HSac := hide (HSa.out.below hbel)
  have HSbc := hide (HSb.out.below hbel)
  have HScc := hide (HSc.out.below hbel)
  have HN0 : Hid (NXR W3 W3 g l 0 (nxA x y z l)) :=
    ⟨Marked.refl8 _ _ _, cs, tg, hgb, fun p hp => ⟨_, hgc p hp⟩, fun p hp => absurd hp (by omega)⟩
  obtain ⟨⟨u00, hu00⟩, hf00⟩ := HN0.out.cell (Below.refl _ _) (show 0 < l by omega)
  have c0 := Joins.cell_of_block HN.out 0
  have k0c := Joins.cell_of_block HXc.out 0
  have k1c := Joins.cell_of_block HXc.out 1
  have k2c := Joins.cell_of_block HXc.out 2
  simp at c0 k0c k1c k2c
  have HDN := fun w hs hs' => hide (implDot_yes A C l ca cc x z w (by omega) hs hs')
  have h0l : (0 : Int) < (l : Int) := by omega
  clear ho1 ho2 ho3 hN hbel hgb hgc k0 k1 k2 al0 al1 al2 HX1 HR1 HSaZ HSbZ HScZ AL1 HZ1 KK
  go_upto_region 4 with fail
  go_cut [] from 15 to 25 (fun wx => NXR W3 wx g l 1 (nxA x y z l))
  case first =>
    go_region_with (go_at_call 98; refine (HDN _ (by exact HSac.out) (by exact HScc.out)).out.mono ?_; rintro e w' ⟨r, rfl, hr, qd, rfl⟩; have HRR := hide hr; clear hr)
    all_goals
      go_wp2_with fail
      go_meet
      exact NXR.put HN0.out (bel_q (Below.refl _ _) _) (by omega) (by rw [nxA_0]; exact HRR.out)
  case rest =>
  obtain ⟨W4, rfl⟩ : ∃ u, u = wc := ⟨_, rfl⟩
  have HC4 := hide hcut
  clear hcut HN0 hu00 hf00 c0 k0c k1c k2c HDN HSac HSbc HScc h0l
  have hadd := fun (w : World) (t : TypeId) (x y : Nat) => run_far_eq (P := Try.prog) .add (by decide) w t .f32 x y
  go_wp2
  go_loopw [6, 27] (fun _ i wr => ∃ k : Nat, k + 1 ≤ l ∧ i = .int .i64 k ∧ Hid (NXR W3 wr g l (k + 1) (nxA x y z l))) (fun _ i _ => l - (intOf i).toNat)
  case atStart => exact ⟨0, by omega, rfl, HC4.out⟩
  case round =>
    clear HC4
    obtain ⟨k, hk, rfl, hn⟩ := hrel
    have HMr := hide hn.out.1
    have HBr := hide (HBC.out.trans (HMr.out.bel (B := w1.heap.size) (by omega) (by omega)))
    have HNr := hide (blk_marked HMr.out (by omega) (by omega) HN.out)
    have HXr := hide (blk_marked HMr.out (by omega) (by omega) HXc.out)
    have HRr := hide (blk_marked HMr.out (by omega) (by omega) HRc.out)
    have HSar := hide (HSa.out.below HBr.out)
    have HSbr := hide (HSb.out.below HBr.out)
    have hsz := HBr.out.size
    have hNr := Nat.lt_of_lt_of_le hNb.2 HMr.out.size
    have n0 := Joins.cell_of_block HNr.out 0
    have x0 := Joins.cell_of_block HXr.out 0
    have x1 := Joins.cell_of_block HXr.out 1
    have x2 := Joins.cell_of_block HXr.out 2
    simp at n0 x0 x1 x2
    by_cases hlt : k + 1 < l
    · have hki : (k : Int) < (l : Int) - 1 := by omega
      have hk1 : (k : Int) + 1 < (l : Int) := by omega
      have ht1 : ((k : Int) + 1).toNat = k + 1 := by omega
      have hwk : IntKind.i64.wrap ((k : Int) + 1) = (k : Int) + 1 := Go.IntWalk.i64_in _ (by omega)
      have hp1 : 0 ≤ (k : Int) + 1 := by omega
      have hp2 : ¬ (k : Int) + 1 < 0 := by omega
      obtain ⟨⟨u0, hu0⟩, hf0⟩ := hn.out.cell (Below.refl _ _) hlt
      go_wp2
      go_region_with (go_at_call 227; refine (staying_any A l ca x B l cb y (.slice C l cc) k (k : Int) rfl _ (by omega) rfl (by omega) (by exact HSar.out) (by exact HSbr.out)).mono ?_; rintro e v ⟨r, rfl, hr, hb⟩; replace hb : Below wr.heap.size wr v := ⟨hb.os, hb.tape, hb.output, hb.size, hb.block⟩; have m0 := (hb.cell (p := ⟨N, 0, none⟩) hNr).trans n0; obtain ⟨⟨u1, hu1⟩, hf1⟩ := hn.out.cell hb hlt; have HRR := hide hr; have HBV := hide hb; clear hr hb)
      all_goals
        go_wp2
        go_roundw
        case rel => exact ⟨k + 1, by omega, by go_num, NXR.put hn.out HBV.out hlt (by rw [nxA_s]; exact HRR.out.same)⟩
        case measure => simp [intOf]; omega
    · have hki : ¬ (k : Int) < (l : Int) - 1 := by omega
      have HK := hide (show k + 1 = l by omega)
      have HNL : Hid (NXR W3 wr g l l (nxA x y z l)) := by have h := hn.out; rw [HK.out] at h; exact h
      have i1 : (l : Int) - 1 < (l : Int) := by omega
      have i2 : ((l : Int) - 1).toNat = l - 1 := by omega
      have i3 : 0 ≤ (l : Int) - 1 := by omega
      have i4 : ¬ (l : Int) - 1 < 0 := by omega
      obtain ⟨uu, hus, huc⟩ := HNL.out.val (show l - 1 < l by omega)
      have u0 := huc wr (Below.refl _ _)
      obtain ⟨_, hf0⟩ := HNL.out.cell (Below.refl _ _) (show l - 1 < l by omega)
      have HUC := hide huc
      have HLA1 : Hid (FS .f32 uu (fop .mul .f32 (x (l - 1 - 1)) (y (l - 1 - 1)))) := by
        have h := hus
        rw [show l - 1 = (l - 1 - 1) + 1 by omega, nxA_s] at h
        exact h
      have HNXL := fun (r : Nat) (hr : FS .f32 r (fop .mul .f32 (x (l - 1)) (y (l - 1)))) (a : World) => hide (show FS .f32 (fv .add .f32 uu r a) (nxV x y z l (l - 1)) from by
        have e := nx_last x y z (n := l) (m := l - 1 - 1) (by omega)
        rw [show l - 1 - 1 + 1 = l - 1 by omega] at e
        rw [e]
        exact (fv_same _ _ _ _ _).same.trans (.inl (fop_same HLA1.out hr)))
      clear huc hus hn
      go_upto_region 10 with fail
      go_cut [] from 39 to 48 (fun wx => NXR W3 wx g l l (nxV x y z l))
      case first =>
        go_region_with (go_at_call 227; refine (staying_any A l ca x B l cb y (.slice C l cc) (l - 1) ((l : Int) - 1) (by omega) _ (by omega) rfl (by omega) (by exact HSar.out) (by exact HSbr.out)).mono ?_; rintro e v ⟨r, rfl, hr, hb⟩; replace hb : Below wr.heap.size wr v := ⟨hb.os, hb.tape, hb.output, hb.size, hb.block⟩; have m0 := (hb.cell (p := ⟨N, 0, none⟩) hNr).trans n0; have u1 := HUC.out v hb; obtain ⟨_, hf1⟩ := HNL.out.cell hb (show l - 1 < l by omega); have HRR := hide hr; have HBV := hide hb; clear hr hb)
        all_goals
          go_wp2_with fail
          go_meet
          first
            | exact NXR.putl (HNL.out.less (j := l - 1) (by omega) (fun p hp => nxA_V (by omega))) (bel_q HBV.out _) (by omega) (HNXL _ HRR.out.same _).out
            | exact NXR.putl (HNL.out.less (j := l - 1) (by omega) (fun p hp => nxA_V (by omega))) HBV.out (by omega) (HNXL _ HRR.out.same _).out
      case rest =>
      obtain ⟨W5, rfl⟩ : ∃ u, u = wc := ⟨_, rfl⟩
      have HC5 := hide hcut
      have HM5 := hide hcut.1
      have HB5 := hide (HBC.out.trans (HM5.out.bel (B := w1.heap.size) (by omega) (by omega)))
      have HN5 := hide (blk_marked HM5.out (by omega) (by omega) HN.out)
      have HR5 := hide (blk_marked HM5.out (by omega) (by omega) HRc.out)
      have HO25 := hide (HO2.out.marked HM5.out (by omega))
      have HO35 := hide (HO3.out.marked HM5.out (by omega))
      obtain ⟨uc, hrow, hus⟩ := hcut.row (a := a1) (b := b1) hg1 hg2
      have HROW := hide hrow
      have HUS := hide hus
      have hs5 := HB5.out.size
      have hN5 := Nat.lt_of_lt_of_le hNb.2 HM5.out.size
      have hm5 := HM5.out.size
      clear hcut n0 x0 x1 x2 u0 hf0 HNXL HLA1 HUC HNL HNr HXr HRr HSar HSbr HMr HBr hrow hus
      have n0 := Joins.cell_of_block HN5.out 0
      have n1 := Joins.cell_of_block HN5.out 1
      have n2' := Joins.cell_of_block HN5.out 2
      simp at n0 n1 n2'
      have HVP5 := hide (implValidPpl_any (some ⟨g, 0, none⟩) l d1 uc G2 l d2 y G3 l d3 z W5 (by unfold maxLen; omega) HROW.out.sl (by unfold maxLen; omega) HO25.out.sl (by unfold maxLen; omega) HO35.out.sl)
      go_wp2_with fail
      refine HVP5.out.mono ?_
      rintro e w6 ⟨rfl, hb6⟩
      have HB6 := hide (HB1.out.trans ((HB5.out.trans (hb6.mono HB5.out.size)).mono HB1.out.size))
      have HN6 := hide (blk_below hb6 hN5 HN5.out)
      have HR6 := hide (blk_below hb6 (by omega) HR5.out)
      have HO26 := hide (HO25.out.below hb6)
      have HO36 := hide (HO35.out.below hb6)
      have HROW6 := hide (HROW.out.below hb6)
      have hs6 := hb6.size
      have hz6 := HB1.out.size
      clear hb6 n0 n1 n2' HVP5
      have n0 := Joins.cell_of_block HN6.out 0
      have n1 := Joins.cell_of_block HN6.out 1
      have n2' := Joins.cell_of_block HN6.out 2
      have p0 := Joins.cell_of_block HR6.out 0
      have p1 := Joins.cell_of_block HR6.out 1
      have p2 := Joins.cell_of_block HR6.out 2
      have q0 := Joins.unfrozen_of_block HR6.out 0
      have q1 := Joins.unfrozen_of_block HR6.out 1
      have q2 := Joins.unfrozen_of_block HR6.out 2
      simp at n0 n1 n2' p0 p1 p2 q0 q1 q2
      have HIFF := hide (np_pp (u := uc) HPP.out HUS.out)
      by_cases hpv : ppP uc l y l z l
      rotate_left
      · have HH := hide (show ¬ npP x l y l z l from fun h => hpv (HIFF.out.2 h))
        rw [tru_no hpv]
        clear hpv n0 n1 n2'
        go_wp2
        have R := Joins.block_setCell (Joins.block_setCell (Joins.block_setCell HR6.out (i := 0) (.slice none 0 0)) (i := 1) (.slice none 0 0)) (i := 2) (.slice none 0 0)
        have k3 := Joins.cell_of_block R 0
        have k4 := Joins.cell_of_block R 1
        have k5 := Joins.cell_of_block R 2
        simp at k3 k4 k5
        refine bodyPost_ret (v := .tuple #[.agg #[.slice none 0 0, .slice none 0 0, .slice none 0 0], .bool false]) (by simp [results, Try.results174, go_sem, k3, k4, k5]) rfl (gaver_no HH.out ?_)
        exact ((HB6.out.setCell (by simp) _).setCell (by simp) _).setCell (by simp) _
      · have HH := hide (HIFF.out.1 hpv)
        rw [tru_yes hpv]
        clear hpv
        go_wp2
        have R := Joins.block_setCell (Joins.block_setCell (Joins.block_setCell HR6.out (i := 0) (.slice (some ⟨g, 0, none⟩) l d1)) (i := 1) (.slice G2 l d2)) (i := 2) (.slice G3 l d3)
        have k3 := Joins.cell_of_block R 0
        have k4 := Joins.cell_of_block R 1
        have k5 := Joins.cell_of_block R 2
        simp at k3 k4 k5
        have e1 := HROW6.out
        have e2 := HO26.out
        have e3 := HO36.out
        refine bodyPost_ret (v := .tuple #[.agg #[.slice (some ⟨g, 0, none⟩) l d1, .slice G2 l d2, .slice G3 l d3], .bool true]) (by simp [results, Try.results174, go_sem, k3, k4, k5]) rfl ⟨some ⟨g, 0, none⟩, d1, uc, G2, d2, y, G3, d3, z, a1, b1, a2, b2, a3, b3, by rw [lenV_yes HH.out, tru_yes HH.out], ?_, ?_, ?_, ?_, ?_, ?_, ?_, ?_, ?_, ?_, ?_, ?_, by rw [lenV_yes HH.out]; exact hrm, ?_⟩
        · rw [lenV_yes HH.out]
          exact ((e1.setCell (.inl (by show w.heap.size + 1 < a1; omega))).setCell (.inl (by show w.heap.size + 1 < a1; omega))).setCell (.inl (by show w.heap.size + 1 < a1; omega))
        · rw [lenV_yes HH.out]
          exact ((e2.setCell (.inl (by show w.heap.size + 1 < a2; omega))).setCell (.inl (by show w.heap.size + 1 < a2; omega))).setCell (.inl (by show w.heap.size + 1 < a2; omega))
        · rw [lenV_yes HH.out]
          exact ((e3.setCell (.inl (by show w.heap.size + 1 < a3; omega))).setCell (.inl (by show w.heap.size + 1 < a3; omega))).setCell (.inl (by show w.heap.size + 1 < a3; omega))
        · rw [lenV_yes HH.out]
          exact HUS.out
        · rw [lenV_yes HH.out]
          exact fun j hj => FS.refl _ _
        · rw [lenV_yes HH.out]
          exact fun j hj => FS.refl _ _
        · refine ⟨by omega, by omega, ?_⟩
          simp
          omega
        · refine ⟨by omega, by omega, ?_⟩
          simp
          omega
        · refine ⟨by omega, by omega, ?_⟩
          simp
          omega
        · omega
        · omega
        · omega
        · exact ((HB6.out.setCell (by simp) _).setCell (by simp) _).setCell (by simp) _
end Go.Proofs.Ytpbbedelapnnnaa
