/- Rows of a table out of bytes. -/
import Derived.Test.YtjndhcdanpnniaaSo8
import Derived.Test.YtjndhcdanpnniaaRw
import Derived.Test.YtjndhcdanpnniaaOs
import Derived.Test.YtjndhcdanpnniaaG1
import Derived.Maps.AppendAt
import Derived.Deep.RegionHeld3
namespace Go.Proofs.Ytjndhcdanpnniaa
open Go.RowKit Go.Dues
theorem row_and {a b : Int} {T : Nat} (hT : T ≤ 256) (a0 : 0 ≤ a) (a1 : a < T) (b0 : 0 ≤ b) (b1 : b < T) : (0 ≤ bits .and .i64 a b ∧ bits .and .i64 a b ≤ a) ∧ bits .and .i64 (bits .and .i64 a b) a = bits .and .i64 a b := by
  obtain ⟨p, rfl⟩ : ∃ p : Nat, a = p := ⟨a.toNat, by omega⟩
  obtain ⟨q, rfl⟩ : ∃ q : Nat, b = q := ⟨b.toNat, by omega⟩
  have h1 := Nat.and_le_left (n := p) (m := q)
  rw [and_nat (by omega) (by omega), and_nat (by omega) (by omega)]
  refine ⟨⟨by omega, by omega⟩, ?_⟩
  congr 1
  rw [Nat.and_assoc, Nat.and_comm q p, ← Nat.and_assoc, Nat.and_self]
/-- a row of rows, drawn: what lies in it -/
def DrR (xs : List Value) (k T : Nat) : Prop := ∀ j, j < k → ∃ a e r : Int, xs[j * 3]? = some (.int .i64 a) ∧ xs[j * 3 + 1]? = some (.int .i64 e) ∧ xs[j * 3 + 2]? = some (.int .i64 r) ∧ (0 ≤ a ∧ a ≤ (T : Int) - 1) ∧ ((0 ≤ e ∧ e ≤ a) ∧ bits .and .i64 e a = e) ∧ (0 ≤ r ∧ r ≤ 100)
theorem DrR.step {xs : List Value} {k T : Nat} {a e r : Int} (h : DrR xs k T) (hl : xs.length = k * 3) (ha : 0 ≤ a ∧ a ≤ (T : Int) - 1) (he : (0 ≤ e ∧ e ≤ a) ∧ bits .and .i64 e a = e) (hr : 0 ≤ r ∧ r ≤ 100) : DrR (xs ++ [.int .i64 a, .int .i64 e, .int .i64 r]) (k + 1) T := by
  intro j hj
  by_cases hjk : j = k
  · subst hjk
    refine ⟨a, e, r, ?_, ?_, ?_, ha, he, hr⟩
    · rw [List.getElem?_append_right (by omega), hl, Nat.sub_self]; rfl
    · rw [List.getElem?_append_right (by omega), hl, Nat.add_sub_cancel_left]; rfl
    · rw [List.getElem?_append_right (by omega), hl, Nat.add_sub_cancel_left]; rfl
  · obtain ⟨a', e', r', h1, h2, h3, h4⟩ := h j (by omega)
    refine ⟨a', e', r', ?_, ?_, ?_, h4⟩
    · rw [List.getElem?_append_left (by omega)]; exact h1
    · rw [List.getElem?_append_left (by omega)]; exact h2
    · rw [List.getElem?_append_left (by omega)]; exact h3
def zOf (xs : List Value) (j : Nat) : Int := match xs[j]? with | some (.int _ v) => v | _ => 0
theorem DrR.all {xs : List Value} {k T : Nat} (h : DrR xs k T) : (∀ j, j < k * 3 → xs[j]? = some (.int .i64 (zOf xs j))) ∧ ∀ j, j < k → rowP (zOf xs) T j := by
  have hz : ∀ {j : Nat} {v : Int}, xs[j]? = some (.int .i64 v) → zOf xs j = v := fun h => by unfold zOf; rw [h]
  refine ⟨fun j hj => ?_, fun j hj => ?_⟩
  · obtain ⟨a, e, r, h1, h2, h3, _⟩ := h (j / 3) (by omega)
    have hc : j = j / 3 * 3 ∨ j = j / 3 * 3 + 1 ∨ j = j / 3 * 3 + 2 := by omega
    rcases hc with hc | hc | hc
    · rw [← hc] at h1; rw [h1, hz h1]
    · rw [← hc] at h2; rw [h2, hz h2]
    · rw [← hc] at h3; rw [h3, hz h3]
  · obtain ⟨a, e, r, h1, h2, h3, h4, h5, h6⟩ := h j hj
    unfold rowP
    rw [hz h1, hz h2, hz h3]
    exact ⟨h4, h5, h6⟩
theorem brcast {r : Nat} (h : ¬ r = 0) : Value.int .i64 ((r : Int) - 1) = .int .i64 ((r - 1 : Nat) : Int) := by rw [show ((r : Int) - 1) = ((r - 1 : Nat) : Int) by omega]
theorem cell_3n (w : World) (x y z : Value) (t : TypeId) : ∀ j u, [x, y, z][j]? = some u → (w.alloc (.cells #[x, y, z] t)).cell? ((⟨w.heap.size, 0, none⟩ : Addr).add j) = some u := by
  intro j u hj
  match j, hj with
  | 0, hj => simp at hj; subst hj; simp [Addr.add]
  | 1, hj => simp at hj; subst hj; simp [Addr.add]
  | 2, hj => simp at hj; subst hj; simp [Addr.add]
  | j + 3, hj => simp at hj
theorem own_sl3 {w : World} {B e sz c n : Nat} {A : Option Addr} {f : Nat → Value} {xs : List Value} (h : w.ownsRow B e sz (.slice A n c) n xs) (hx : ∀ j, j < n * sz → xs[j]? = some (f j)) : SL w A (n * sz) f := by
  rcases h.2 with ⟨_, h⟩ | ⟨g, cap, cur, h1, h2, h3, h4, _, h5, h6⟩
  · subst h; exact .inl (Nat.zero_mul _)
  · injection h1 with h1
    refine .inr ⟨g, 0, h1, (Array.getElem?_eq_some_iff.1 h3).1, fun j hj => ?_⟩
    have h7 := hx j hj
    rw [← h6, List.getElem?_take, if_pos hj, Array.getElem?_toList] at h7
    have h8 := Joins.cell_of_block h3 (0 + j)
    rw [h8, Nat.zero_add]
    exact h7
theorem own_in {w w' : World} {B size n lo hi : Nat} {e : TypeId} {v : Value} {xs : List Value} (h : w.ownsRow B e size v n xs) (hw : Within lo hi w w') (hB : hi ≤ B) : w'.ownsRow B e size v n xs := by
  refine ⟨h.1, ?_⟩
  rcases h.2 with h0 | ⟨g, cap, cur, h1, h2, h3, h4⟩
  · exact .inl h0
  · exact .inr ⟨g, cap, cur, h1, h2, (hw.block g (.inr (by omega))).trans h3, h4⟩
theorem grown_put (W : World) (p : Addr) (v : Value) : W.grownBy (W.setCell p v) (some p.block) :=
  ⟨rfl, rfl, rfl, by simp [World.setCell], fun k _ hk => Below.heap_setCell W p v k (fun e => hk (by rw [e]))⟩
theorem own_put {w : World} {B size n : Nat} {e : TypeId} {v : Value} {xs : List Value} (h : w.ownsRow B e size v n xs) (p : Addr) (x : Value) (hne : v.ownBlock ≠ some p.block) : (w.setCell p x).ownsRow B e size v n xs :=
  h.kept (grown_put w p x) (.inr hne)
theorem within_bel {w w1 w2 : World} {b B : Nat} (h : Below B w w1) (hw : Within b (b + 1) w1 w2) (hb : B ≤ b) : Below B w w2 := h.trans (hw.bel hb)
theorem bfrom_any (A : Option Addr) (n c : Nat) (w : World) : Calls Try.prog 116 #[.slice A n c] w fun e w' => e = .returned (.pointer (some ⟨w.heap.size, 0, none⟩)) ∧ w' = w.alloc (.cells #[.slice A n c, .int .i64 0, .int .u64 0] 190) := by
  go_enter Try.func116, Try.ntmps116
  go_wp2
  go_ret
  exact ⟨rfl, rfl⟩
set_option maxRecDepth 100000 in
set_option maxHeartbeats 16000000 in
theorem b10Rows_any (A : Option Addr) (n c : Nat) (x : Nat → Int) (cs N0 : Int) (w : World) (hn : n ≤ maxLen) (hs : SL w A n (fun j => .int .u8 (x j))) (hx : ∀ j, j < n → 0 ≤ x j ∧ x j ≤ 255) (hc : 1 ≤ cs ∧ cs ≤ 8) (hN : 1 ≤ N0 ∧ N0 ≤ 32) :
    Calls Try.prog 49 #[.slice A n c, .int .i64 cs, .int .i64 N0] w fun e w' => ∃ (G : Option Addr) (d K : Nat) (z : Nat → Int), e = .returned (.slice G K d) ∧ (K : Int) = N0 ∧ SL w' G (K * 3) (fun j => .int .i64 (z j)) ∧ rowsP cs z K ∧ Below w.heap.size w w' := by
  obtain ⟨i0, hi, iz0, iz1, iz2⟩ := info_parts (P := Try.prog) (e := 74) (z := .agg #[.int .i64 0, .int .i64 0, .int .i64 0]) (size := 3) (bytes := 24) (by kernel_rfl)
  obtain ⟨hw1, hw2⟩ := tsz_wrap hc
  have htb := tsz_bd hc
  obtain ⟨c0, c1⟩ := hc
  obtain ⟨N, hNN⟩ : ∃ q : Nat, N0 = q := ⟨N0.toNat, by omega⟩
  subst hNN
  have HX := hide hx
  have hne : ∀ b' off, A = some ⟨b', off, none⟩ → n ≠ 0 → b' < w.heap.size := by
    intro b' off e h0
    obtain ⟨b2, off2, h1, h2, _⟩ := hs.at_ h0
    rw [h1] at e
    injection e with e
    injection e with e
    omega
  have HNE := hide hne
  obtain ⟨W, hW⟩ : ∃ u, u = (w.alloc (.cells #[.slice A n c, .int .i64 0, .int .u64 0] 190)).alloc (.cells #[] 74) := ⟨_, rfl⟩
  have HB := hide (show Below w.heap.size w W by rw [hW]; exact ((Below.refl w.heap.size w).alloc (Nat.le_refl _) _).alloc (by simp) _)
  have HQ := hide (show SrcAt W w.heap.size A n c 0 from ⟨0, 0, Nat.le_refl _, by rw [hW]; exact (blocks2 w _ _).1⟩)
  have HST := hide (show W.ownsRow (w.heap.size + 1) 74 3 (.slice (some ⟨w.heap.size + 1, 0, none⟩) 0 0) 0 [] from
    ⟨by simp, .inr ⟨w.heap.size + 1, 0, #[], rfl, Nat.le_refl _, by rw [hW]; exact (blocks2 w _ _).2, Nat.le_refl 0, by unfold maxLen; omega, rfl, rfl⟩⟩)
  have HS := hide (hs.below HB.out)
  have zW : w.heap.size + 2 ≤ W.heap.size := by rw [hW]; simp
  have HWW := hide hW
  clear hs hx hne hW
  obtain ⟨T, hT⟩ : ∃ q, tsz cs = q := ⟨_, rfl⟩
  rw [hT] at hw1 hw2 htb
  have HTS := hide hT.symm
  clear hT
  go_enter Try.func49, Try.ntmps49
  go_wp2_with fail
  refine (bfrom_any A n c _).mono ?_
  rintro e w1 ⟨rfl, rfl⟩
  go_wp2
  rw [← HWW.out]
  clear HWW
  go_loopw [2, 8] (fun rv vv wr => ∃ (k r : Nat) (xs : List Value) (G : Option Addr) (dG : Nat), k + r = N ∧ rv = .int .i64 (r : Int) ∧ vv = .slice G k dG ∧ Hid (wr.ownsRow (w.heap.size + 1) 74 3 (.slice G k dG) k xs) ∧ Hid (DrR xs k T) ∧ Hid (SrcAt wr w.heap.size A n c (8 * k)) ∧ Hid (SL wr A n (fun j => .int .u8 (x j))) ∧ Hid (Below w.heap.size w wr) ∧ w.heap.size + 2 ≤ wr.heap.size) (fun rv _ _ => (intOf rv).toNat)
  case atStart => exact ⟨0, N, [], _, _, by omega, rfl, rfl, HST.out, fun j hj => absurd hj (by omega), HQ.out, HS.out, HB.out, zW⟩
  case round =>
    obtain ⟨k, r, xs, G, dG, hkr, rfl, rfl, hown, hdr, hsr, hsl, hbel, zr⟩ := hrel
    by_cases hr0 : r = 0
    rotate_left
    · have hrp : (0 : Int) < (r : Int) := by omega
      go_wp2_with fail
      refine (pick_any w.heap.size A n c x (8 * k) (T : Int) wr hn hsl.out HX.out HNE.out (by omega) (by omega) (by omega) hsr.out).mono ?_
      rintro e w2 ⟨a, rfl, a0, a1, hs2, hv2⟩
      have z2 : wr.heap.size ≤ w2.heap.size := by rw [hv2.size]; exact Nat.le_refl _
      obtain ⟨Z, hZ⟩ : ∃ q, q = w2.heap.size := ⟨_, rfl⟩
      obtain ⟨w3, hw3⟩ : ∃ u, u = w2.alloc (.cells #[.int .i64 a, .int .i64 0, .int .i64 0] 74) := ⟨_, rfl⟩
      have hb23 : Below w2.heap.size w2 w3 := by rw [hw3]; exact (Below.refl _ _).alloc (Nat.le_refl _) _
      have zw3 : w2.heap.size + 1 ≤ w3.heap.size := by rw [hw3]; simp
      have HR3 : Hid (w3.heap[Z]? = some (.cells #[.int .i64 a, .int .i64 0, .int .i64 0] 74 (0, 0))) := by rw [hw3, hZ]; exact blocks1 w2 _
      have HS3 := hide (hs2.keep (hb23.block _ (by omega)))
      have HL3 := hide ((src_sl hsl.out HNE.out hv2).below hb23)
      have HO3 := hide (own_stays (own_in hown.out hv2 (by omega)) hb23)
      have HB3 := hide ((within_bel hbel.out hv2 (Nat.le_refl _)).trans (hb23.mono (by omega)))
      have HLT := hide (show ∀ g, (Value.slice G k dG).ownBlock = some g → g < Z from fun g hg => by have := (hown.out.lt g hg).2; omega)
      have HW3 := hide hw3
      have hZ0 : w.heap.size < Z := by omega
      have hZl := hZ ▸ zw3
      have HZ := hide hZ
      clear hZ
      clear hown hsr hsl hbel hs2 hv2 hw3 hb23
      go_wp2_with fail
      rw [← HW3.out, ← HZ.out]
      clear HW3 HZ
      have d0 := Joins.cell_of_block HR3.out 0
      have d1 := Joins.cell_of_block HR3.out 1
      have f1 := Joins.unfrozen_of_block HR3.out 1
      simp at d0 d1 f1
      go_region_held3 (fun u => u.cell? ⟨Z, 0, none⟩ = some (.int .i64 a)) ((first | exact d0 | exact q0 | exact (Joins.cell_of_block (Joins.block_setCell HR4.out (i := 1) _) 0).trans (by simp))) ((go_at_call 117; refine (pick_any w.heap.size A n c x (8 * k + 2) (T : Int) _ hn (by exact HL3.out) HX.out HNE.out (by omega) (by omega) (by omega) (by exact HS3.out)).mono ?_; rintro e w4 ⟨v, rfl, v0, v1, hs4, hv4⟩; replace hv4 : Within w.heap.size (w.heap.size + 1) w3 w4 := ⟨hv4.os, hv4.tape, hv4.output, hv4.size, hv4.block⟩; have HR4 := hide ((hv4.block Z (.inr (by omega))).trans HR3.out); have HS4 := hide hs4; have HV4 := hide hv4; have q0 := Joins.cell_of_block HR4.out 0; have q1 := Joins.cell_of_block HR4.out 1; have g1 := Joins.unfrozen_of_block HR4.out 1; clear hs4 hv4; simp at q0 q1 g1; simp only []))
      obtain ⟨⟨e0, e1⟩, e2⟩ := row_and htb.2 a0 a1 v0 v1
      generalize bits .and .i64 a v = e at *
      obtain ⟨w5, hw5⟩ : ∃ u, u = w4.setCell ⟨Z, 1, none⟩ (.int .i64 e) := ⟨_, rfl⟩
      have z4 : w3.heap.size ≤ w4.heap.size := by rw [HV4.out.size]; exact Nat.le_refl _
      have z5 : w4.heap.size ≤ w5.heap.size := by rw [hw5]; simp [World.setCell]
      have HR5 : Hid (w5.heap[Z]? = some (.cells #[.int .i64 a, .int .i64 e, .int .i64 0] 74 (0, 0))) := by rw [hw5]; exact Joins.block_setCell (i := 1) HR4.out _
      have keep5 : ∀ q, q ≠ Z → w5.heap[q]? = w4.heap[q]? := fun q hq => by rw [hw5]; exact Below.heap_setCell w4 _ _ q hq
      have HS5 := hide (HS4.out.keep (keep5 _ (by omega)))
      have HL5 : Hid (SL w5 A n (fun j => .int .u8 (x j))) := hide ((src_sl HL3.out HNE.out HV4.out).belowN (B := w.heap.size) HNE.out ⟨by rw [hw5]; rfl, by rw [hw5]; rfl, by rw [hw5]; rfl, z5, fun q hq => keep5 q (by omega)⟩)
      have HO5 : Hid (w5.ownsRow (w.heap.size + 1) 74 3 (.slice G k dG) k xs) := by rw [hw5]; exact own_put (own_in HO3.out HV4.out (by omega)) _ _ (fun h => by have := HLT.out _ h; simp at this)
      have HB5 : Hid (Below w.heap.size w w5) := hide ((within_bel HB3.out HV4.out (Nat.le_refl _)).trans ⟨by rw [hw5]; rfl, by rw [hw5]; rfl, by rw [hw5]; rfl, z5, fun q hq => keep5 q (by omega)⟩)
      have hb4 : w.heap.size < w4.heap.size := by omega
      rw [← hw5]
      have HW5 := hide hw5
      clear hw5 keep5 HS4 HV4 HR4 q0 q1 g1 f1 d0 d1 HR3 HS3 HL3 HO3 HB3 HW5
      go_wp2_with fail
      refine (pick_any w.heap.size A n c x (8 * k + 2 + 2) 4 w5 hn HL5.out HX.out HNE.out (by omega) (by omega) (by omega) HS5.out).mono ?_
      rintro e' w6 ⟨v3, rfl, v30, v31, hs6, hv6⟩
      have z6 : w5.heap.size ≤ w6.heap.size := by rw [hv6.size]; exact Nat.le_refl _
      have HR6 := hide ((hv6.block Z (.inr (by omega))).trans HR5.out)
      have HS6 := hide hs6
      have HL6 := hide (src_sl HL5.out HNE.out hv6)
      have HO6 := hide (own_put (own_in HO5.out hv6 (by omega)) ⟨Z, 2, none⟩ (.int .i64 v3) (fun h => by have := HLT.out _ h; simp at this))
      have HB6 := hide (within_bel HB5.out hv6 (Nat.le_refl _))
      have p0 := Joins.cell_of_block HR6.out 0
      have p1 := Joins.cell_of_block HR6.out 1
      have p2 := Joins.cell_of_block HR6.out 2
      have u2 := Joins.unfrozen_of_block HR6.out 2
      simp at p0 p1 p2 u2
      have HCN := hide (show ∀ j u, [Value.int .i64 a, .int .i64 e, .int .i64 v3][j]? = some u → ((w6.setCell ⟨Z, 2, none⟩ (.int .i64 v3)).alloc (.cells #[.int .i64 a, .int .i64 e, .int .i64 v3] 74)).cell? ((⟨w6.heap.size, 0, none⟩ : Addr).add j) = some u by
        have h := cell_3n (w6.setCell ⟨Z, 2, none⟩ (.int .i64 v3)) (.int .i64 a) (.int .i64 e) (.int .i64 v3) 74
        rw [show (w6.setCell ⟨Z, 2, none⟩ (.int .i64 v3)).heap.size = w6.heap.size by simp [World.setCell]] at h
        exact h)
      clear hs6 hv6 HR5 HS5 HL5 HO5 HB5
      go_wp2_with (at_builtin; go_loud (refine wpList_append_own_at _ rfl _ _ 68 rfl (w.heap.size + 1) 74 i0 (.agg #[.int .i64 0, .int .i64 0, .int .i64 0]) 3 24 Try.underlying68 hi iz0 iz1 iz2 rfl (by decide) _ _ _ rfl (by exact (HO6.out.alloc _)) ⟨_, 0, none⟩ 1 1 [.int .i64 a, .int .i64 e, .int .i64 v3] rfl rfl HCN.out (by intro u hu; simp at hu; rcases hu with rfl | rfl | rfl <;> rfl) (by unfold maxLen; omega) (by omega) (by simp [World.setCell]; omega) ?_))
      intro v' w7 hown7 hgrow _ hat
      obtain ⟨g7, d7, rfl⟩ := Joins.ownsRow_form hown7 (by omega)
      have hz7 : w6.heap.size + 1 ≤ w7.heap.size := by have := hgrow.size; simp [World.setCell] at this; omega
      have keep7 : ∀ q, q < Z → (∀ g, (Value.slice G k dG).ownBlock = some g → q ≠ g) → w7.heap[q]? = w6.heap[q]? := fun q hq hne => by
        refine (hgrow.block q (by simp [World.setCell]; omega) (fun e => hne q e.symm rfl)).trans ?_
        exact (Below.heap_alloc _ _ q (by simp [World.setCell]; omega)).trans (Below.heap_setCell w6 _ _ q (by simp; omega))
      have low7 : ∀ q, q < w.heap.size + 1 → w7.heap[q]? = w6.heap[q]? := fun q hq => keep7 q (by omega) (fun g hg => by have := (HO6.out.lt g hg).1; omega)
      have HO7 := hide hown7
      have HS7 := hide (HS6.out.keep (low7 _ (by omega)))
      have hbel7 : Below w.heap.size w6 w7 := ⟨hgrow.os, hgrow.tape, hgrow.output, by omega, fun q hq => low7 q (by omega)⟩
      have HL7 := hide (HL6.out.belowN (B := w.heap.size) HNE.out hbel7)
      have HB7 := hide (HB6.out.trans hbel7)
      have HDR := hide (hdr.out.step (show xs.length = k * 3 from HO6.out.1) ⟨a0, by omega⟩ ⟨⟨e0, e1⟩, e2⟩ ⟨v30, by omega⟩)
      clear hown7 hgrow hat keep7 low7 hbel7 p0 p1 p2 u2 HR6 HO6
      go_wp2
      go_roundw
      case rel => exact ⟨k + 1, r - 1, _, some ⟨g7, 0, none⟩, d7, by omega, brcast hr0, rfl, HO7.out, HDR.out, HS7.out.up (by omega), HL7.out, HB7.out, by omega⟩
      case measure => simp [intOf]; omega
    · subst hr0
      obtain rfl : k = N := by omega
      have ha := hdr.out.all
      have HSL := hide (own_sl3 hown.out (f := fun j => .int .i64 (zOf xs j)) ha.1)
      have HRW := hide ha.2
      go_wp2
      go_ret
      exact ⟨G, dG, k, zOf xs, rfl, rfl, HSL.out, ⟨⟨c0, c1⟩, ⟨by omega, by omega⟩, HTS.out ▸ HRW.out⟩, hbel.out⟩
end Go.Proofs.Ytjndhcdanpnniaa
