/- The laws' own helpers over peoples: sizes, copies, comparisons, marks. -/
import Derived.Test.YtpbbedelapnnnaaMf
import Derived.Test.YtpbbedelapnnnaaG1
namespace Go
open Go.RowKit
theorem bd32 {x : Nat} (h : (Lit.float .f32 x).wf = true) : x < 4294967296 := by simpa [Lit.wf] using h
section
open Go.ChangeShapes Go.WideShapes Go.Deep
variable {H : Type} {enc : TypeId × Value → H} {P : Program} {w : World}
theorem open_ppl {r : Reach} {b0 : Nat} {t ts e : TypeId} {f0 f1 f2 : Field} {v : Value} {d : DataW H} {p : List MemPlace} (hs : P.underlying t = some (.struct #[f0, f1, f2])) (hone : oneCellFields P #[f0, f1, f2] = true) (hC : P.cellsOf t = 3)
    (h0 : f0.type = ts) (h1 : f1.type = ts) (h2 : f2.type = ts) (ht : P.underlying ts = some (.slice e)) (he : P.underlying e = some (.float .f32)) (hc : P.cellsOf e = 1)
    (hv : Value.okWide P w r b0 t v) (hd : DataW.Trod enc P w 0 (fun _ => true) true t v d p) :
    ∃ A n c B m d C l f, ∃ x y z : Nat → Nat, v = .agg #[.slice A n c, .slice B m d, .slice C l f] ∧ n ≤ maxLen ∧ m ≤ maxLen ∧ l ≤ maxLen ∧ SL w A n (fun j => .float .f32 (x j)) ∧ SL w B m (fun j => .float .f32 (y j)) ∧ SL w C l (fun j => .float .f32 (z j)) ∧
      (∀ j, j < n → (Lit.float .f32 (x j)).wf = true) ∧ (∀ j, j < m → (Lit.float .f32 (y j)).wf = true) ∧ ∀ j, j < l → (Lit.float .f32 (z j)).wf = true := by
  obtain ⟨v0, v1, v2, y0, y1, y2, q, rfl, _, _, hy0, hy1, hy2⟩ := Joins.open_agg3 hs hone hC hv hd
  rw [h0] at hy0
  rw [h1] at hy1
  rw [h2] at hy2
  have form : ∀ (u : Value) (z : DataW H × List MemPlace), DataW.trod enc P w 0 (fun _ => true) true q ts [u] = some z → (∃ A n c, u = .slice A n c) ∧ DataW.Trod enc P w 0 (fun _ => true) true ts u z.1 z.2 := by
    intro u z hz
    rcases DataW.trod_slice ht hz with ⟨hh, _⟩ | ⟨a, len, cap, _, _, _, _, hh, _⟩
    · simp only [List.cons.injEq, and_true] at hh
      subst hh
      exact ⟨⟨_, _, _, rfl⟩, q, hz⟩
    · simp only [List.cons.injEq, and_true] at hh
      subst hh
      exact ⟨⟨_, _, _, rfl⟩, q, hz⟩
  obtain ⟨hv0, t0⟩ := form v0 y0 hy0
  obtain ⟨hv1, t1⟩ := form v1 y1 hy1
  obtain ⟨hv2, t2⟩ := form v2 y2 hy2
  obtain ⟨A, n, c, x, rfl, a1, a2, a3⟩ := open_fl ht he hc t0 hv0
  obtain ⟨B, m, d, y, rfl, b1, b2, b3⟩ := open_fl ht he hc t1 hv1
  obtain ⟨C, l, f, z, rfl, c1, c2, c3⟩ := open_fl ht he hc t2 hv2
  exact ⟨A, n, c, B, m, d, C, l, f, x, y, z, rfl, a1, b1, c1, a2, b2, c2, a3, b3, c3⟩
end
end Go
namespace Go.Proofs.Ytpbbedelapnnnaa
open Go.RowKit
theorem szFl_any (A : Option Addr) (n c : Nat) (l : Int) (w : World) (hn : n ≤ maxLen) (h0 : 0 ≤ l) (h1 : l ≤ 1048576) :
    Calls Try.prog 80 #[.slice A n c, .int .i64 l] w fun e w' => e = .returned (.int .i64 (if l < n then -1 else l - n)) ∧ w = w' := by
  unfold maxLen at hn
  by_cases h : l < n
  · rw [if_pos h]
    have h2 : l - (n : Int) < 0 := by omega
    go_enter Try.func80, Try.ntmps80
    go_wp2
    go_ret
    exact ⟨rfl, rfl⟩
  · rw [if_neg h]
    have h2 : ¬ l - (n : Int) < 0 := by omega
    go_enter Try.func80, Try.ntmps80
    go_wp2
    go_ret
    exact ⟨rfl, rfl⟩
theorem szPpl_any (A : Option Addr) (n c : Nat) (B : Option Addr) (m d : Nat) (C : Option Addr) (l f : Nat) (v : Int) (w : World) (hn : n ≤ maxLen) (hm : m ≤ maxLen) (hl : l ≤ maxLen) (h0 : 0 ≤ v) (h1 : v ≤ 1048576) :
    Calls Try.prog 15 #[.agg #[.slice A n c, .slice B m d, .slice C l f], .int .i64 v] w fun e w' => ∃ q : Int, e = .returned (.int .i64 q) ∧ ((0 ≤ q ∧ q ≤ v ∧ n ≤ 1048576 ∧ m ≤ 1048576 ∧ l ≤ 1048576) ∨ q = -1) ∧ Below w.heap.size w w' := by
  have HB := hide ((Below.refl w.heap.size w).alloc (Nat.le_refl _) (.cells #[.slice A n c, .slice B m d, .slice C l f] 24))
  have s1 := fun w => hide (szFl_any A n c v w hn h0 h1)
  by_cases g1 : v < n
  · rw [if_pos g1] at s1
    go_enter Try.func15, Try.ntmps15
    go_wp2_with (go_at_call 80; refine (s1 _).out.mono ?_; rintro e w' ⟨rfl, rfl⟩)
    go_ret
    exact ⟨-1, rfl, .inr rfl, HB.out⟩
  rw [if_neg g1] at s1
  have s2 := fun w => hide (szFl_any B m d (v - n) w hm (by omega) (by omega))
  have k1 : ¬ v - (n : Int) < 0 := by omega
  by_cases g2 : v - n < m
  · rw [if_pos g2] at s2
    go_enter Try.func15, Try.ntmps15
    go_wp2_with fail
    refine (s1 _).out.mono ?_
    rintro e w' ⟨rfl, rfl⟩
    go_wp2_with fail
    refine (s2 _).out.mono ?_
    rintro e w' ⟨rfl, rfl⟩
    go_wp2_with fail
    go_ret
    exact ⟨-1, rfl, .inr rfl, HB.out⟩
  rw [if_neg g2] at s2
  have s3 := fun w => hide (szFl_any C l f (v - n - m) w hl (by omega) (by omega))
  have k2 : ¬ v - (n : Int) - m < 0 := by omega
  by_cases g3 : v - n - m < l
  · rw [if_pos g3] at s3
    go_enter Try.func15, Try.ntmps15
    go_wp2_with fail
    refine (s1 _).out.mono ?_
    rintro e w' ⟨rfl, rfl⟩
    go_wp2_with fail
    refine (s2 _).out.mono ?_
    rintro e w' ⟨rfl, rfl⟩
    go_wp2_with fail
    refine (s3 _).out.mono ?_
    rintro e w' ⟨rfl, rfl⟩
    go_wp2_with fail
    go_ret
    exact ⟨-1, rfl, .inr rfl, HB.out⟩
  rw [if_neg g3] at s3
  have k3 : ¬ v - (n : Int) - m - l < 0 := by omega
  go_enter Try.func15, Try.ntmps15
  go_wp2_with fail
  refine (s1 _).out.mono ?_
  rintro e w' ⟨rfl, rfl⟩
  go_wp2_with fail
  refine (s2 _).out.mono ?_
  rintro e w' ⟨rfl, rfl⟩
  go_wp2_with fail
  refine (s3 _).out.mono ?_
  rintro e w' ⟨rfl, rfl⟩
  go_wp2_with fail
  go_ret
  exact ⟨_, rfl, .inl ⟨by omega, by omega, by omega, by omega, by omega⟩, HB.out⟩
set_option maxHeartbeats 4000000 in
theorem toPplW_any (A : Option Addr) (n c : Nat) (x : Nat → Nat) (B : Option Addr) (m d : Nat) (y : Nat → Nat) (C : Option Addr) (l f : Nat) (z : Nat → Nat) (w : World) (hn : n ≤ 1048576) (hs : SL w A n (fun j => .float .f32 (x j))) (hm : m ≤ 1048576) (hs' : SL w B m (fun j => .float .f32 (y j))) (hl : l ≤ 1048576) (hs'' : SL w C l (fun j => .float .f32 (z j))) :
    Calls Try.prog 17 #[.agg #[.slice A n c, .slice B m d, .slice C l f]] w fun e w' => ∃ g1 g2 g3 l1 u1 l2 u2 l3 u3, e = .returned (.agg #[.slice (some ⟨g1, 0, none⟩) n n, .slice (some ⟨g2, 0, none⟩) m m, .slice (some ⟨g3, 0, none⟩) l l]) ∧
      OW w' l1 u1 (some ⟨g1, 0, none⟩) n (fun j => .float .f32 (x j)) ∧ OW w' l2 u2 (some ⟨g2, 0, none⟩) m (fun j => .float .f32 (y j)) ∧ OW w' l3 u3 (some ⟨g3, 0, none⟩) l (fun j => .float .f32 (z j)) ∧
      w.heap.size ≤ l1 ∧ l1 ≤ u1 ∧ u1 ≤ l2 ∧ l2 ≤ u2 ∧ u2 ≤ l3 ∧ l3 ≤ u3 ∧ u3 ≤ w'.heap.size ∧ Below w.heap.size w w' := by
  have HS := hide hs
  have HS' := hide hs'
  have HS'' := hide hs''
  clear hs hs' hs''
  have HB := hide ((((Below.refl w.heap.size w).alloc (Nat.le_refl _) (.cells #[.slice A n c, .slice B m d, .slice C l f] 24)).alloc (by simp) (.cells #[.slice none 0 0, .slice none 0 0, .slice none 0 0] 29)).alloc (by simp; omega) (.cells #[.slice none 0 0, .slice none 0 0, .slice none 0 0] 29))
  have PP := hide (blocks3 w (.cells #[.slice A n c, .slice B m d, .slice C l f] 24) (.cells #[.slice none 0 0, .slice none 0 0, .slice none 0 0] 29) (.cells #[.slice none 0 0, .slice none 0 0, .slice none 0 0] 29))
  go_enter Try.func17, Try.ntmps17
  go_wp2_with fail
  refine (toFlW_any A n c x _ hn (HS.out.below HB.out)).mono ?_
  rintro e w1 ⟨g1, rfl, hb, hs1⟩
  have hz := hb.size
  simp at hz
  have Q0 := hide (blk_below hb (by simp; omega) PP.out.1)
  have Q1 := hide (blk_below hb (by simp) PP.out.2.1)
  have Q2 := hide (blk_below hb (by simp) PP.out.2.2)
  have c1 := Joins.cell_of_block Q2.out 0
  have c2 := Joins.unfrozen_of_block Q2.out 0
  have c3 := Joins.cell_of_block Q0.out 1
  simp at c1 c2 c3
  have HB1 := hide (HB.out.trans (hb.mono (by simp; omega)))
  have HS1 := hide (hs1.wide (lo' := w.heap.size + 1 + 1 + 1) (hi' := w1.heap.size) (by simp) (Nat.le_refl _))
  clear hb hs1
  go_wp2_with fail
  obtain ⟨v1, hv1⟩ : ∃ u, u = w1.setCell ⟨w.heap.size + 1 + 1, 0, none⟩ (.slice (some ⟨g1, 0, none⟩) n n) := ⟨_, rfl⟩
  have zv1 : v1.heap.size = w1.heap.size := by rw [hv1]; simp [World.setCell]
  have HB2 : Hid (Below w.heap.size w v1) := by rw [hv1]; exact HB1.out.setCell (by simp; omega) _
  have A1 : Hid (OW v1 (w.heap.size + 1 + 1 + 1) w1.heap.size (some ⟨g1, 0, none⟩) n (fun j => .float .f32 (x j))) := by rw [hv1]; exact HS1.out.setCell (.inl (by simp))
  have R0 : Hid (v1.heap[w.heap.size]? = some (.cells #[.slice A n c, .slice B m d, .slice C l f] 24)) := by rw [hv1]; exact blk_set (by simp; omega) Q0.out
  have R1 : Hid (v1.heap[w.heap.size + 1]? = some (.cells #[.slice none 0 0, .slice none 0 0, .slice none 0 0] 29)) := by rw [hv1]; exact blk_set (by simp) Q1.out
  have R2 : Hid (v1.heap[w.heap.size + 1 + 1]? = some (.cells ((#[.slice none 0 0, .slice none 0 0, .slice none 0 0] : Array Value).setIfInBounds 0 (.slice (some ⟨g1, 0, none⟩) n n)) 29)) := by rw [hv1]; exact Joins.block_setCell Q2.out (i := 0) (.slice (some ⟨g1, 0, none⟩) n n)
  rw [← hv1]
  clear hv1 c1 c2 c3 Q0 Q1 Q2 HS1
  refine (toFlW_any B m d y _ hm (HS'.out.below HB2.out)).mono ?_
  rintro e w2 ⟨g2, rfl, hb, hs2⟩
  have hz2 := hb.size
  have Q0 := hide (blk_below hb (by omega) R0.out)
  have Q1 := hide (blk_below hb (by omega) R1.out)
  have Q2 := hide (blk_below hb (by omega) R2.out)
  have A1' := hide (A1.out.below hb)
  have c1 := Joins.cell_of_block Q2.out 1
  have c2 := Joins.unfrozen_of_block Q2.out 1
  have c3 := Joins.cell_of_block Q0.out 2
  simp at c1 c2 c3
  have HB3 := hide (HB2.out.trans (hb.mono (by omega)))
  have HS2 := hide hs2
  clear hb hs2 R0 R1 R2 A1
  go_wp2_with fail
  obtain ⟨v2, hv2⟩ : ∃ u, u = w2.setCell ⟨w.heap.size + 1 + 1, 1, none⟩ (.slice (some ⟨g2, 0, none⟩) m m) := ⟨_, rfl⟩
  have zv2 : v2.heap.size = w2.heap.size := by rw [hv2]; simp [World.setCell]
  have HB4 : Hid (Below w.heap.size w v2) := by rw [hv2]; exact HB3.out.setCell (by simp; omega) _
  have A1 : Hid (OW v2 (w.heap.size + 1 + 1 + 1) w1.heap.size (some ⟨g1, 0, none⟩) n (fun j => .float .f32 (x j))) := by rw [hv2]; exact A1'.out.setCell (.inl (by simp))
  have A2 : Hid (OW v2 v1.heap.size w2.heap.size (some ⟨g2, 0, none⟩) m (fun j => .float .f32 (y j))) := by rw [hv2]; exact HS2.out.setCell (.inl (by simp; omega))
  have R1 : Hid (v2.heap[w.heap.size + 1]? = some (.cells #[.slice none 0 0, .slice none 0 0, .slice none 0 0] 29)) := by rw [hv2]; exact blk_set (by simp) Q1.out
  have R2 : Hid (v2.heap[w.heap.size + 1 + 1]? = some (.cells (((#[.slice none 0 0, .slice none 0 0, .slice none 0 0] : Array Value).setIfInBounds 0 (.slice (some ⟨g1, 0, none⟩) n n)).setIfInBounds 1 (.slice (some ⟨g2, 0, none⟩) m m)) 29)) := by rw [hv2]; exact Joins.block_setCell Q2.out (i := 1) (.slice (some ⟨g2, 0, none⟩) m m)
  rw [← hv2]
  clear hv2 c1 c2 c3 Q0 Q1 Q2 HS2 A1'
  refine (toFlW_any C l f z _ hl (HS''.out.below HB4.out)).mono ?_
  rintro e w3 ⟨g3, rfl, hb, hs3⟩
  have hz3 := hb.size
  have Q1 := hide (blk_below hb (by omega) R1.out)
  have Q2 := hide (blk_below hb (by omega) R2.out)
  have B1 := hide (A1.out.below hb)
  have B2 := hide (A2.out.below hb)
  have S2 := hide (Joins.block_setCell Q2.out (i := 2) (.slice (some ⟨g3, 0, none⟩) l l))
  have c1 := Joins.cell_of_block Q2.out 2
  have c2 := Joins.unfrozen_of_block Q2.out 2
  have k1 := Joins.cell_of_block S2.out 0
  have k2 := Joins.cell_of_block S2.out 1
  have k3 := Joins.cell_of_block S2.out 2
  have k4 := Joins.cell_of_block Q1.out 0
  have k5 := Joins.cell_of_block Q1.out 1
  have k6 := Joins.cell_of_block Q1.out 2
  have f4 := Joins.unfrozen_of_block Q1.out 0
  have f5 := Joins.unfrozen_of_block Q1.out 1
  have f6 := Joins.unfrozen_of_block Q1.out 2
  simp at c1 c2 k1 k2 k3 k4 k5 k6 f4 f5 f6
  have HB5 := hide (HB4.out.trans (hb.mono (by omega)))
  have B3 := hide hs3
  clear hb hs3 R1 R2 A1 A2
  go_wp2
  have R := Joins.block_setCell (Joins.block_setCell (Joins.block_setCell (blk_set (p := ⟨w.heap.size + 1 + 1, 2, none⟩) (v := .slice (some ⟨g3, 0, none⟩) l l) (by simp) Q1.out) (i := 0) (.slice (some ⟨g1, 0, none⟩) n n)) (i := 1) (.slice (some ⟨g2, 0, none⟩) m m)) (i := 2) (.slice (some ⟨g3, 0, none⟩) l l)
  have k7 := Joins.cell_of_block R 0
  have k8 := Joins.cell_of_block R 1
  have k9 := Joins.cell_of_block R 2
  simp at k7 k8 k9
  refine bodyPost_ret (v := .agg #[.slice (some ⟨g1, 0, none⟩) n n, .slice (some ⟨g2, 0, none⟩) m m, .slice (some ⟨g3, 0, none⟩) l l]) (by simp [results, Try.results17, go_sem, k7, k8, k9]) rfl ⟨g1, g2, g3, _, _, _, _, _, _, rfl, (((B1.out.setCell ?_).setCell ?_).setCell ?_).setCell ?_, (((B2.out.setCell ?_).setCell ?_).setCell ?_).setCell ?_, (((B3.out.setCell ?_).setCell ?_).setCell ?_).setCell ?_, ?_, ?_, ?_, ?_, ?_, ?_, ?_, (((HB5.out.setCell ?_ _).setCell ?_ _).setCell ?_ _).setCell ?_ _⟩
  all_goals first | (simp [World.setCell]; done) | (simp [World.setCell]; omega) | (exact .inl (by first | (simp; done) | (simp; omega) | omega)) | omega
set_option maxHeartbeats 2000000 in
theorem eqPpl_any (A1 B1 : Option Addr) (n1 c1 d1 : Nat) (x1 y1 : Nat → Nat) (A2 B2 : Option Addr) (n2 c2 d2 : Nat) (x2 y2 : Nat → Nat) (A3 B3 : Option Addr) (n3 c3 d3 : Nat) (x3 y3 : Nat → Nat) (w : World) (hn1 : n1 ≤ maxLen) (hs1 : SL w A1 n1 (fun j => .float .f32 (x1 j))) (ht1 : SL w B1 n1 (fun j => .float .f32 (y1 j))) (hxy1 : ∀ j, j < n1 → FS .f32 (x1 j) (y1 j)) (hn2 : n2 ≤ maxLen) (hs2 : SL w A2 n2 (fun j => .float .f32 (x2 j))) (ht2 : SL w B2 n2 (fun j => .float .f32 (y2 j))) (hxy2 : ∀ j, j < n2 → FS .f32 (x2 j) (y2 j)) (hn3 : n3 ≤ maxLen) (hs3 : SL w A3 n3 (fun j => .float .f32 (x3 j))) (ht3 : SL w B3 n3 (fun j => .float .f32 (y3 j))) (hxy3 : ∀ j, j < n3 → FS .f32 (x3 j) (y3 j)) :
    Calls Try.prog 21 #[.agg #[.slice A1 n1 c1, .slice A2 n2 c2, .slice A3 n3 c3], .agg #[.slice B1 n1 d1, .slice B2 n2 d2, .slice B3 n3 d3]] w fun e w' => e = .returned (.bool true) ∧ Below w.heap.size w w' := by
  obtain ⟨W, hW⟩ : ∃ u, u = (w.alloc (.cells #[.slice A1 n1 c1, .slice A2 n2 c2, .slice A3 n3 c3] 29)).alloc (.cells #[.slice B1 n1 d1, .slice B2 n2 d2, .slice B3 n3 d3] 29) := ⟨_, rfl⟩
  have HB : Hid (Below w.heap.size w W) := by rw [hW]; exact ((Below.refl w.heap.size w).alloc (Nat.le_refl _) _).alloc (by simp) _
  have HX1 : Hid (W.heap[w.heap.size]? = some (.cells #[.slice A1 n1 c1, .slice A2 n2 c2, .slice A3 n3 c3] 29)) := by rw [hW]; exact (blocks2 w _ _).1
  have HX2 : Hid (W.heap[w.heap.size + 1]? = some (.cells #[.slice B1 n1 d1, .slice B2 n2 d2, .slice B3 n3 d3] 29)) := by rw [hW]; exact (blocks2 w _ _).2
  have H1 := hide (eqFl_any A1 B1 n1 c1 d1 x1 y1 W hn1 (hs1.below HB.out) (ht1.below HB.out) hxy1)
  have HS2 := hide (hs2.below HB.out)
  have HT2 := hide (ht2.below HB.out)
  have HS3 := hide (hs3.below HB.out)
  have HT3 := hide (ht3.below HB.out)
  have HXY2 := hide hxy2
  have HXY3 := hide hxy3
  have HWW := hide hW
  have k0 := Joins.cell_of_block HX1.out 0
  have k1 := Joins.cell_of_block HX1.out 1
  have k2 := Joins.cell_of_block HX1.out 2
  have l0 := Joins.cell_of_block HX2.out 0
  have l1 := Joins.cell_of_block HX2.out 1
  have l2 := Joins.cell_of_block HX2.out 2
  simp at k0 k1 k2 l0 l1 l2
  clear hs1 hs2 hs3 ht1 ht2 ht3 hxy1 hxy2 hxy3 hW
  go_enter Try.func21, Try.ntmps21
  go_wp2_with fail
  rw [← HWW.out]
  refine H1.out.mono ?_
  rintro e w' ⟨rfl, q, rfl⟩
  go_wp2_with fail
  refine (eqFl_any A2 B2 n2 c2 d2 x2 y2 _ hn2 (show SL (W.drewN q) _ _ _ from HS2.out) (show SL (W.drewN q) _ _ _ from HT2.out) HXY2.out).mono ?_
  rintro e w' ⟨rfl, q2, rfl⟩
  go_wp2_with fail
  refine (eqFl_any A3 B3 n3 c3 d3 x3 y3 _ hn3 (show SL (World.drewN _ _) _ _ _ from HS3.out) (show SL (World.drewN _ _) _ _ _ from HT3.out) HXY3.out).mono ?_
  rintro e w' ⟨rfl, q3, rfl⟩
  go_wp2_with fail
  go_ret
  exact ⟨rfl, by first | exact bel_q HB.out _ | exact bel_q (bel_q HB.out _) _⟩
end Go.Proofs.Ytpbbedelapnnnaa
