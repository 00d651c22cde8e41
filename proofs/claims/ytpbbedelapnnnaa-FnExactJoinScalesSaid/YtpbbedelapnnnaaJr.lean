/- JoinScales, by the reference. -/
import Derived.Test.YtpbbedelapnnnaaJo
import Derived.Test.YtpbbedelapnnnaaDu
import Derived.Test.YtpbbedelapnnnaaTwo
import Derived.RangeFuncBox
import Derived.Deep.RegionLaw
import Derived.Deep.AppendLies
import Derived.Maps.AppendAt
namespace Go.Proofs.Ytpbbedelapnnnaa
open Go.RowKit Go.Dues
/-- so far: i breaks of the one, k of the other are taken -/
def joI (x : Nat → Int) (n : Nat) (y : Nat → Int) (m i k : Nat) (P : List Int) : Prop :=
  Rise P ∧ (∀ d, d ∈ P ↔ (∃ j, j < i ∧ d = x j) ∨ ∃ j, j < k ∧ d = y j) ∧ (∀ d, d ∈ P → (i < n → d < x i) ∧ (k < m → d < y k)) ∧ P.length ≤ i + k
theorem joI_step {x x' y y' : Nat → Int} {n n' m m' i k i' k' : Nat} {P : List Int} {X : Int} (hv : Val x x' n n') (hv' : Val y y' m m') (hi : i ≤ n) (hk : k ≤ m) (h : joI x n y m i k P)
    (h1 : i < n → X ≤ x i) (h2 : k < m → X ≤ y k) (hor : (i < n ∧ X = x i) ∨ (k < m ∧ X = y k)) (hi' : i' = if i < n ∧ x i = X then i + 1 else i) (hk' : k' = if k < m ∧ y k = X then k + 1 else k) : joI x n y m i' k' (P ++ [X]) := by
  obtain ⟨g1, g2, g3, g4⟩ := h
  have ei : (i < n ∧ x i = X ∧ i' = i + 1) ∨ (¬ (i < n ∧ x i = X) ∧ i' = i) := by
    by_cases c : i < n ∧ x i = X
    · rw [if_pos c] at hi'; exact .inl ⟨c.1, c.2, hi'⟩
    · rw [if_neg c] at hi'; exact .inr ⟨c, hi'⟩
  have ek : (k < m ∧ y k = X ∧ k' = k + 1) ∨ (¬ (k < m ∧ y k = X) ∧ k' = k) := by
    by_cases c : k < m ∧ y k = X
    · rw [if_pos c] at hk'; exact .inl ⟨c.1, c.2, hk'⟩
    · rw [if_neg c] at hk'; exact .inr ⟨c, hk'⟩
  clear hi' hk'
  refine ⟨rise_snoc g1 fun b hb => ?_, fun d => ?_, fun d hd => ?_, ?_⟩
  · rcases hor with ⟨c, rfl⟩ | ⟨c, rfl⟩
    · exact (g3 b hb).1 c
    · exact (g3 b hb).2 c
  · rw [List.mem_append, g2 d, List.mem_singleton]
    constructor
    · rintro ((⟨j, hj, e⟩ | ⟨j, hj, e⟩) | e)
      · exact .inl ⟨j, by omega, e⟩
      · exact .inr ⟨j, by omega, e⟩
      · rcases hor with ⟨c, c2⟩ | ⟨c, c2⟩
        · exact .inl ⟨i, by omega, by rw [e, c2]⟩
        · exact .inr ⟨k, by omega, by rw [e, c2]⟩
    · rintro (⟨j, hj, e⟩ | ⟨j, hj, e⟩)
      · by_cases hji : j < i
        · exact .inl (.inl ⟨j, hji, e⟩)
        · obtain rfl : j = i := by omega
          rcases ei with ⟨_, c, _⟩ | ⟨_, c⟩
          · exact .inr (by rw [e, c])
          · omega
      · by_cases hjk : j < k
        · exact .inl (.inr ⟨j, hjk, e⟩)
        · obtain rfl : j = k := by omega
          rcases ek with ⟨_, c, _⟩ | ⟨_, c⟩
          · exact .inr (by rw [e, c])
          · omega
  · have key : d ≤ X := by
      rcases List.mem_append.1 hd with hd | hd
      · rcases hor with ⟨c, c2⟩ | ⟨c, c2⟩
        · have := (g3 d hd).1 c; omega
        · have := (g3 d hd).2 c; omega
      · rw [List.mem_singleton.1 hd]; exact Int.le_refl _
    constructor
    · intro hlt
      rcases ei with ⟨c1, c2, rfl⟩ | ⟨c1, rfl⟩
      · have := hv.up i hlt; omega
      · have := h1 hlt
        have : x i' ≠ X := fun e => c1 ⟨hlt, e⟩
        omega
    · intro hlt
      rcases ek with ⟨c1, c2, rfl⟩ | ⟨c1, rfl⟩
      · have := hv'.up k hlt; omega
      · have := h2 hlt
        have : y k' ≠ X := fun e => c1 ⟨hlt, e⟩
        omega
  · rw [List.length_append, List.length_singleton]
    rcases hor with ⟨c, c2⟩ | ⟨c, c2⟩
    · rcases ei with ⟨_, _, c3⟩ | ⟨c3, _⟩
      · omega
      · exact absurd ⟨c, c2.symm⟩ c3
    · rcases ek with ⟨_, _, c3⟩ | ⟨c3, _⟩
      · omega
      · exact absurd ⟨c, c2.symm⟩ c3
/-- the scale that is made: two rows of the call's own, named by block T -/
structure JQ (T : Nat) (w3 wr : World) (P Q : List Int) (GA : Option Addr) (dA : Nat) (GB : Option Addr) (dB : Nat) : Prop where
  hT : wr.heap[T]? = some (.cells #[.slice GA P.length dA, .slice GB Q.length dB] 46)
  oA : wr.ownsRow (T + 1) 2 1 (.slice GA P.length dA) P.length (P.map (Value.int .i64))
  oB : wr.ownsRow (T + 1) 2 1 (.slice GB Q.length dB) Q.length (Q.map (Value.int .i64))
  ap : Apart (Value.slice GA P.length dA).ownBlock (Value.slice GB Q.length dB).ownBlock
  bel : Below T w3 wr
  sz : T + 1 ≤ wr.heap.size
theorem JQ.below {T : Nat} {w3 u u' : World} {P Q : List Int} {GA GB : Option Addr} {dA dB : Nat} (h : JQ T w3 u P Q GA dA GB dB) (hb : Below u.heap.size u u') : JQ T w3 u' P Q GA dA GB dB :=
  ⟨blk_below hb (by have := h.sz; omega) h.hT, h.oA.below9 hb, h.oB.below9 hb, h.ap, h.bel.trans (hb.mono (by have := h.sz; omega)), Nat.le_trans h.sz hb.size⟩
theorem joR_at {x x' y y' : Nat → Int} {n m j : Nat} (hj : j < joN x n y m) : (((joL x n y m).map fun v => rateK x x' v n + rateK y y' v m).map (Value.int .i64))[j]? = some (.int .i64 (joR x x' n y y' m j)) := by
  rw [List.getElem?_map, List.getElem?_map]
  unfold joR joV
  rw [List.getD_eq_getElem?_getD, List.getElem?_eq_getElem hj]
  rfl
theorem grown_setJ (W : World) (p : Addr) (v : Value) : W.grownBy (W.setCell p v) (some p.block) :=
  ⟨rfl, rfl, rfl, (KeepsWalks.setCell W _ v).size, fun k _ hk => Below.heap_setCell _ _ _ k (fun e => hk (by rw [e]))⟩
theorem JQ.notT {T : Nat} {w3 u : World} {P Q : List Int} {GA GB : Option Addr} {dA dB : Nat} (h : JQ T w3 u P Q GA dA GB dB) : some T ≠ (Value.slice GA P.length dA).ownBlock ∧ some T ≠ (Value.slice GB Q.length dB).ownBlock :=
  ⟨fun e => by have := (h.oA.lt T e.symm).1; omega, fun e => by have := (h.oB.lt T e.symm).1; omega⟩
theorem JQ.tA {T : Nat} {w3 u w5 : World} {P Q : List Int} {GA GB : Option Addr} {dA dB : Nat} (h : JQ T w3 u P Q GA dA GB dB) (hg : u.grownBy w5 (Value.slice GA P.length dA).ownBlock) : w5.heap[T]? = some (.cells #[.slice GA P.length dA, .slice GB Q.length dB] 46) :=
  (hg.block T (by have := h.sz; omega) h.notT.1).trans h.hT
theorem JQ.tB {T : Nat} {w3 u w5 : World} {P Q : List Int} {GA GB : Option Addr} {dA dB : Nat} (h : JQ T w3 u P Q GA dA GB dB) (hg : u.grownBy w5 (Value.slice GB Q.length dB).ownBlock) : w5.heap[T]? = some (.cells #[.slice GA P.length dA, .slice GB Q.length dB] 46) :=
  (hg.block T (by have := h.sz; omega) h.notT.2).trans h.hT
theorem JQ.stepA {T : Nat} {w3 u w5 : World} {P Q : List Int} {GA GB : Option Addr} {dA dB gg cap : Nat} {X : Int} (h : JQ T w3 u P Q GA dA GB dB) (hg : u.grownBy w5 (Value.slice GA P.length dA).ownBlock)
    (ho : w5.ownsRow (T + 1) 2 1 (.slice (some ⟨gg, 0, none⟩) (P.length + 1) cap) (P.length + 1) (P.map (Value.int .i64) ++ [.int .i64 X])) (hat : (Value.slice GA P.length dA).ownBlock = some gg ∨ gg = u.heap.size) :
    JQ T w3 (w5.setCell ⟨T, 0, none⟩ (.slice (some ⟨gg, 0, none⟩) (P.length + 1) cap)) (P ++ [X]) Q (some ⟨gg, 0, none⟩) cap GB dB := by
  have hgT : ¬ gg = T := by have := (ho.lt gg rfl).1; omega
  have hrB := h.oB.kept hg h.ap.symm.ne
  have hl : (P ++ [X]).length = P.length + 1 := by simp
  have hm : (P ++ [X]).map (Value.int .i64) = P.map (Value.int .i64) ++ [.int .i64 X] := by simp
  have hd := h.sz
  refine ⟨?_, ?_, ?_, ?_, ?_, ?_⟩
  · rw [hl]; exact Joins.block_setCell (i := 0) (h.tA hg) _
  · rw [hl, hm]; exact ho.kept (grown_setJ _ _ _) (.inr (by simp [Value.ownBlock]; omega))
  · refine hrB.kept (grown_setJ _ _ _) ?_
    cases hGB : (Value.slice GB Q.length dB).ownBlock with
    | none => exact .inl rfl
    | some b => exact .inr (fun e => by have h9 := (hrB.lt b hGB).1; injection e with e; have e' : b = T := e; omega)
  · refine h.ap.step (s := u.heap.size) (fun k' hk' => (h.oB.lt k' hk').2) ?_
    rcases hat with e | e
    · left; rw [e]; rfl
    · right; rw [e]; rfl
  · exact (h.bel.grown hg (by omega) (fun j hj => by have := (h.oA.lt j hj).1; omega)).setCell (by exact Nat.le_refl _) _
  · have := (ho.lt gg rfl).2
    have := (ho.lt gg rfl).1
    simp
    omega
theorem JQ.stepB {T : Nat} {w3 u w5 : World} {P Q : List Int} {GA GB : Option Addr} {dA dB gg cap : Nat} {X : Int} (h : JQ T w3 u P Q GA dA GB dB) (hg : u.grownBy w5 (Value.slice GB Q.length dB).ownBlock)
    (ho : w5.ownsRow (T + 1) 2 1 (.slice (some ⟨gg, 0, none⟩) (Q.length + 1) cap) (Q.length + 1) (Q.map (Value.int .i64) ++ [.int .i64 X])) (hat : (Value.slice GB Q.length dB).ownBlock = some gg ∨ gg = u.heap.size) :
    JQ T w3 (w5.setCell ⟨T, 1, none⟩ (.slice (some ⟨gg, 0, none⟩) (Q.length + 1) cap)) P (Q ++ [X]) GA dA (some ⟨gg, 0, none⟩) cap := by
  have hgT : ¬ gg = T := by have := (ho.lt gg rfl).1; omega
  have hrA := h.oA.kept hg h.ap.ne
  have hl : (Q ++ [X]).length = Q.length + 1 := by simp
  have hm : (Q ++ [X]).map (Value.int .i64) = Q.map (Value.int .i64) ++ [.int .i64 X] := by simp
  have hd := h.sz
  refine ⟨?_, ?_, ?_, ?_, ?_, ?_⟩
  · rw [hl]; exact Joins.block_setCell (i := 1) (h.tB hg) _
  · refine hrA.kept (grown_setJ _ _ _) ?_
    cases hGB : (Value.slice GA P.length dA).ownBlock with
    | none => exact .inl rfl
    | some b => exact .inr (fun e => by have h9 := (hrA.lt b hGB).1; injection e with e; have e' : b = T := e; omega)
  · rw [hl, hm]; exact ho.kept (grown_setJ _ _ _) (.inr (by simp [Value.ownBlock]; omega))
  · refine (h.ap.symm.step (s := u.heap.size) (fun k' hk' => (h.oA.lt k' hk').2) ?_).symm
    rcases hat with e | e
    · left; rw [e]; rfl
    · right; rw [e]; rfl
  · exact (h.bel.grown hg (by omega) (fun j hj => by have := (h.oB.lt j hj).1; omega)).setCell (by exact Nat.le_refl _) _
  · have := (ho.lt gg rfl).2
    have := (ho.lt gg rfl).1
    simp
    omega
theorem jo_len (x x' : Nat → Int) (n n' : Nat) (y y' : Nat → Int) (m m' : Nat) : lenV (joP x x' n n' y y' m m') (joN x n y m) ≤ 1048576 := by
  by_cases h : joP x x' n n' y y' m m'
  · rw [lenV_yes h]; have := h.2.2.n8; omega
  · rw [lenV_no h]; omega
def joRX (x x' : Nat → Int) (n : Nat) (y y' : Nat → Int) (m : Nat) (v : Int) : Int := rateK x x' v n + rateK y y' v m
set_option maxRecDepth 100000 in
set_option maxHeartbeats 32000000 in
theorem specJoin_any (A A' : Option Addr) (n c n' c' : Nat) (x x' : Nat → Int) (B B' : Option Addr) (m d m' d' : Nat) (y y' : Nat → Int) (w : World) (hn : n ≤ maxLen) (hn' : n' ≤ maxLen) (hs : SL w A n (fun j => .int .i64 (x j))) (hs' : SL w A' n' (fun j => .int .i64 (x' j))) (hm : m ≤ maxLen) (hm' : m' ≤ maxLen) (ht : SL w B m (fun j => .int .i64 (y j))) (ht' : SL w B' m' (fun j => .int .i64 (y' j))) :
    Calls Try.prog 29 #[.agg #[.slice A n c, .slice A' n' c'], .agg #[.slice B m d, .slice B' m' d']] w fun e w' => GaveT w w' e (joP x x' n n' y y' m m') (joN x n y m) (joN x n y m) (joV x n y m) (joR x x' n y y' m) := by
  obtain ⟨i0, hi, iz0, iz1, iz2⟩ := info_parts Try.info64
  obtain ⟨w0, hw0⟩ : ∃ u, u = ((w.alloc (.cells #[.slice A n c, .slice A' n' c'] 46)).alloc (.cells #[.slice B m d, .slice B' m' d'] 46)).alloc (.cells #[.slice none 0 0, .slice none 0 0] 46) := ⟨_, rfl⟩
  have HB0 : Hid (Below w.heap.size w w0) := by rw [hw0]; exact (((Below.refl w.heap.size w).alloc (Nat.le_refl _) _).alloc (by simp) _).alloc (by simp; omega) _
  have HX0 : Hid (w0.heap[w.heap.size]? = some (.cells #[.slice A n c, .slice A' n' c'] 46)) := by rw [hw0]; exact (blocks3 w _ _ _).1
  have HY0 : Hid (w0.heap[w.heap.size + 1]? = some (.cells #[.slice B m d, .slice B' m' d'] 46)) := by rw [hw0]; exact (blocks3 w _ _ _).2.1
  have HR0 : Hid (w0.heap[w.heap.size + 1 + 1]? = some (.cells #[.slice none 0 0, .slice none 0 0] 46)) := by rw [hw0]; exact (blocks3 w _ _ _).2.2
  have hz0 : w.heap.size + 3 ≤ w0.heap.size := by rw [hw0]; simp
  have HS := hide (hs.below HB0.out)
  have HS' := hide (hs'.below HB0.out)
  have HT := hide (ht.below HB0.out)
  have HT' := hide (ht'.below HB0.out)
  have k0 := Joins.cell_of_block HX0.out 0
  have k1 := Joins.cell_of_block HX0.out 1
  simp at k0 k1
  have HIA := hide (specIs_any w.heap.size A A' n c n' c' x x' w0 hn hn' k0 k1 HS.out HS'.out)
  have HIB := fun (u : World) (hu : Below w0.heap.size w0 u) => hide (specIs_any (w.heap.size + 1) B B' m d m' d' y y' u hm hm' (by have h := Joins.cell_of_block (blk_below hu (by omega) HY0.out) 0; simpa using h) (by have h := Joins.cell_of_block (blk_below hu (by omega) HY0.out) 1; simpa using h) (HT.out.below hu) (HT'.out.below hu))
  clear hs hs' ht ht' k0 k1
  have HW := hide hw0
  clear hw0
  by_cases hv : Val x x' n n'
  rotate_left
  · have HM := hide (show ¬ joP x x' n n' y y' m m' from fun h => hv h.1)
    have HTR := hide (tru_no hv)
    clear hv
    go_enter Try.func29, Try.ntmps29
    go_wp2_with fail
    rw [← HW.out]
    clear HW
    refine HIA.out.mono ?_
    rw [HTR.out]
    rintro e w1 ⟨rfl, qv, hq⟩
    have HR1 : Hid (w1.heap[w.heap.size + 1 + 1]? = some (.cells #[.slice none 0 0, .slice none 0 0] 46)) := by rw [hq]; exact HR0.out
    have HB1 : Hid (Below w.heap.size w w1) := by rw [hq]; exact bel_q HB0.out _
    clear hq
    have q0 := Joins.cell_of_block HR1.out 0
    have q1 := Joins.cell_of_block HR1.out 1
    simp at q0 q1
    have f0 := Joins.unfrozen_of_block HR1.out 0
    have f1 := Joins.unfrozen_of_block HR1.out 1
    (try simp at f0 f1)
    go_wp2
    have R := Joins.block_setCell (Joins.block_setCell HR1.out (i := 0) (.slice none 0 0)) (i := 1) (.slice none 0 0)
    have r0 := Joins.cell_of_block R 0
    have r1 := Joins.cell_of_block R 1
    simp at r0 r1
    refine bodyPost_ret (v := .tuple #[.agg #[.slice none 0 0, .slice none 0 0], .bool false]) (by simp [results, Try.results29, go_sem, r0, r1]) rfl (gavet_no HM.out ?_)
    exact (HB1.out.setCell (by simp; omega) _).setCell (by simp; omega) _
  have HV := hide hv
  have HTR := hide (tru_yes hv)
  have hn1 := hv.n1
  have hn8 := hv.n8
  clear hv
  go_enter Try.func29, Try.ntmps29
  go_wp2_with fail
  rw [← HW.out]
  clear HW
  refine HIA.out.mono ?_
  rw [HTR.out]
  rintro e w1 ⟨rfl, qv, hq⟩
  have HB01 : Hid (Below w0.heap.size w0 w1) := by rw [hq]; exact bel_q (Below.refl _ _) _
  clear hq
  go_wp2_with fail
  refine (HIB w1 HB01.out).out.mono ?_
  rintro e w3 ⟨rfl, qv2, hq2⟩
  have HB02 : Hid (Below w0.heap.size w0 w3) := by rw [hq2]; exact bel_q HB01.out _
  clear hq2
  have hz2 := HB02.out.size
  have HX2 := hide (blk_below HB02.out (by omega) HX0.out)
  have HY2 := hide (blk_below HB02.out (by omega) HY0.out)
  have HR2 := hide (blk_below HB02.out (by omega) HR0.out)
  have HB2 := hide (HB0.out.trans (HB02.out.mono HB0.out.size))
  by_cases hv : Val y y' m m'
  rotate_left
  · have HM := hide (show ¬ joP x x' n n' y y' m m' from fun h => hv h.2.1)
    rw [tru_no hv]
    clear hv
    have q0 := Joins.cell_of_block HR2.out 0
    have q1 := Joins.cell_of_block HR2.out 1
    simp at q0 q1
    have f0 := Joins.unfrozen_of_block HR2.out 0
    have f1 := Joins.unfrozen_of_block HR2.out 1
    (try simp at f0 f1)
    go_wp2
    have R := Joins.block_setCell (Joins.block_setCell HR2.out (i := 0) (.slice none 0 0)) (i := 1) (.slice none 0 0)
    have r0 := Joins.cell_of_block R 0
    have r1 := Joins.cell_of_block R 1
    simp at r0 r1
    refine bodyPost_ret (v := .tuple #[.agg #[.slice none 0 0, .slice none 0 0], .bool false]) (by simp [results, Try.results29, go_sem, r0, r1]) rfl (gavet_no HM.out ?_)
    exact (HB2.out.setCell (by simp; omega) _).setCell (by simp; omega) _
  rw [tru_yes hv]
  have HV' := hide hv
  have hm1 := hv.n1
  have hm8 := hv.n8
  clear hv
  obtain ⟨ba, oa, hA, hba, hcx⟩ := HS.out.at_ (by omega)
  obtain ⟨bb, ob, hB, hbb, hcy⟩ := HT.out.at_ (by omega)
  have HCX := hide hcx
  have HCY := hide hcy
  clear hcx hcy
  have hA2 := hide hA
  have hB2 := hide hB
  obtain ⟨T, hT⟩ : ∃ q, w3.heap.size = q := ⟨_, rfl⟩
  obtain ⟨V, hV⟩ : ∃ u, u = w3.alloc (.cells #[.slice none 0 0, .slice none 0 0] 46) := ⟨_, rfl⟩
  have HJ0 : Hid (JQ T w3 V [] [] none 0 none 0) := by
    rw [hV]
    refine ⟨?_, World.ownsRow_nil _ _ _ _, World.ownsRow_nil _ _ _ _, .inl rfl, ?_, ?_⟩
    · rw [← hT]; exact blocks1 w3 _
    · rw [← hT]; exact (Below.refl _ _).alloc (Nat.le_refl _) _
    · rw [← hT]; simp
  have HAT : ∀ u, Below T w3 u → ∀ v : Int, 0 ≤ v → Calls Try.prog 103 #[.pointer (some ⟨w.heap.size, 0, none⟩), .int .i64 v] u fun e w' => e = .returned (.int .i64 (rateK x x' v n)) ∧ u = w' := fun u hu v h0 => by
    have hb := HB02.out.trans ((show Below T w3 u from hu).mono (by omega))
    have h0' := Joins.cell_of_block (blk_below hb (by omega) HX0.out) 0
    have h1' := Joins.cell_of_block (blk_below hb (by omega) HX0.out) 1
    simp at h0' h1'
    exact specAt_any w.heap.size A A' n c n' c' x x' v u h0' h1' (HS.out.below hb) (HS'.out.below hb) HV.out h0
  have HBT : ∀ u, Below T w3 u → ∀ v : Int, 0 ≤ v → Calls Try.prog 103 #[.pointer (some ⟨w.heap.size + 1, 0, none⟩), .int .i64 v] u fun e w' => e = .returned (.int .i64 (rateK y y' v m)) ∧ u = w' := fun u hu v h0 => by
    have hb := HB02.out.trans ((show Below T w3 u from hu).mono (by omega))
    have h0' := Joins.cell_of_block (blk_below hb (by omega) HY0.out) 0
    have h1' := Joins.cell_of_block (blk_below hb (by omega) HY0.out) 1
    simp at h0' h1'
    exact specAt_any (w.heap.size + 1) B B' m d m' d' y y' v u h0' h1' (HT.out.below hb) (HT'.out.below hb) HV'.out h0
  have KK := hide (show ∀ u, Below T w3 u → (u.cell? ⟨w.heap.size, 0, none⟩ = some (.slice (some ⟨ba, oa, none⟩) n c) ∧ u.cell? ⟨w.heap.size + 1, 0, none⟩ = some (.slice (some ⟨bb, ob, none⟩) m d)) ∧ (∀ j, j < n → u.cell? ⟨ba, oa + j, none⟩ = some (.int .i64 (x j))) ∧ ∀ j, j < m → u.cell? ⟨bb, ob + j, none⟩ = some (.int .i64 (y j)) from fun u hu => by
    have hb := HB02.out.trans ((show Below T w3 u from hu).mono (by omega))
    have h0' := Joins.cell_of_block (blk_below hb (by omega) HX0.out) 0
    have h1' := Joins.cell_of_block (blk_below hb (by omega) HY0.out) 0
    simp at h0' h1'
    rw [hA2.out] at h0'
    rw [hB2.out] at h1'
    exact ⟨⟨h0', h1'⟩, fun j hj => (hb.cell (p := ⟨ba, oa + j, none⟩) hba).trans (HCX.out j hj), fun j hj => (hb.cell (p := ⟨bb, ob + j, none⟩) hbb).trans (HCY.out j hj)⟩)
  have HVV := hide hV
  have HTT := hide hT
  have HAT := hide HAT
  have HBT := hide HBT
  have hzT : w.heap.size + 3 ≤ T := by omega
  have hbaT : ba < T := by omega
  have hbbT : bb < T := by omega
  clear hV hA hB hT HX0 HY0 HR0 HB0 HB01 HIA HIB HX2 HY2 hA2 hB2 HCX HCY
  go_wp2_with fail
  rw [← HVV.out, HTT.out]
  clear HVV
  go_loopw [7, 8, 9, 41, 52] (fun s7 s8 _ _ _ wr => ∃ (i k : Nat) (P Q : List Int) (GA : Option Addr) (dA : Nat) (GB : Option Addr) (dB : Nat), i ≤ n ∧ k ≤ m ∧ s7 = .int .i64 (i : Int) ∧ s8 = .int .i64 (k : Int) ∧ Hid (joI x n y m i k P) ∧ Hid (Q.length = P.length) ∧ Hid (Q = P.map (joRX x x' n y y' m)) ∧ Hid (JQ T w3 wr P Q GA dA GB dB)) (fun s7 s8 _ _ _ _ => (n + m) - ((intOf s7).toNat + (intOf s8).toNat))
  case atStart => exact ⟨0, 0, [], [], none, 0, none, 0, Nat.zero_le _, Nat.zero_le _, rfl, rfl, ⟨trivial, fun d => ⟨fun h => (by cases h), fun h => by rcases h with ⟨j, hj, _⟩ | ⟨j, hj, _⟩ <;> omega⟩, fun d h => (by cases h), by simp⟩, rfl, rfl, HJ0.out⟩
  case round =>
    clear HJ0
    obtain ⟨i, k, P, Q, GA, dA, GB, dB, hin, hkm, rfl, rfl, HI, HQL, HQM, HJ⟩ := hrel
    have hbel := HJ.out.bel
    have hszT := HJ.out.sz
    obtain ⟨⟨b0, b1⟩, hxc, hyc⟩ := KK.out wr hbel
    have HXC := hide hxc
    have HYC := hide hyc
    clear hxc hyc
    by_cases hil : i < n
    · have hii : (i : Int) < (n : Int) := by omega
      have hie : ((i : Int) == (n : Int)) = false := by rw [beq_eq_false_iff_ne]; omega
      have xi := HXC.out i hil
      have HXI := hide (HV.out.amt i hil)
      by_cases hkl : k < m
      · have hkk : (k : Int) < (m : Int) := by omega
        have hke : ((k : Int) == (m : Int)) = false := by rw [beq_eq_false_iff_ne]; omega
        have yk := HYC.out k hkl
        have HYK := hide (HV'.out.amt k hkl)
        obtain ⟨X1, hX1⟩ : ∃ q, x i = q := ⟨_, rfl⟩
        obtain ⟨Y1, hY1⟩ : ∃ q, y k = q := ⟨_, rfl⟩
        rw [hX1] at xi HXI
        rw [hY1] at yk HYK
        have HX1 := hide hX1
        have HY1 := hide hY1
        clear hX1 hY1
        rcases Int.lt_trichotomy X1 Y1 with hlt | heq | hgt
        · have hxy : (Y1 == X1) = false := by rw [beq_eq_false_iff_ne]; omega
          have hxx : (X1 == X1) = true := by simp
          have HX0 := hide (show 0 ≤ X1 from HXI.out.1)
          go_wp2_with fail
          go_quiet ((go_at_call 102; exact Calls.quiet_of_same ((specMin_any _ _ X1 _ (by first | exact .inl ⟨by omega, by omega⟩ | exact .inr ⟨by omega, by omega⟩)).mono fun _ _ ⟨h, h'⟩ => ⟨h, h'.symm⟩)))
          obtain ⟨wd, hwd⟩ : ∃ u : World, u = wr.drewN nq := ⟨_, rfl⟩
          rw [← hwd]
          have HJ : Hid (JQ T w3 wd P Q GA dA GB dB) := by rw [hwd]; exact HJ.out.below (bel_q (Below.refl _ _) _)
          have xi : wd.cell? ⟨ba, oa + i, none⟩ = some (.int .i64 X1) := by rw [hwd]; exact xi
          have yk : wd.cell? ⟨bb, ob + k, none⟩ = some (.int .i64 Y1) := by rw [hwd]; exact yk
          have b0 : wd.cell? ⟨w.heap.size, 0, none⟩ = some (.slice (some ⟨ba, oa, none⟩) n c) := by rw [hwd]; exact b0
          have b1 : wd.cell? ⟨w.heap.size + 1, 0, none⟩ = some (.slice (some ⟨bb, ob, none⟩) m d) := by rw [hwd]; exact b1
          clear hwd
          have HJN := hide (joI_step HV.out HV'.out hin hkm HI.out (i' := i + 1) (k' := k) (X := X1) (fun _ => by rw [HX1.out]; exact Int.le_refl _) (fun _ => by rw [HY1.out]; omega) (.inl ⟨hil, HX1.out.symm⟩) (by rw [if_pos ⟨hil, HX1.out⟩]) (by rw [if_neg (fun h => by have := h.2; rw [HY1.out] at this; omega)]))
          have hq16 : P.length + 1 ≤ 17 := by have := HJN.out.2.2.2; rw [List.length_append, List.length_singleton] at this; omega
          have hn63 : P.length + 1 ≤ maxLen := by unfold maxLen; omega
          have hby : (P.length + 1) * 8 ≤ 140737488355328 := by omega
          have HJa := hide (HJ.out.below ((Below.refl _ _).alloc (Nat.le_refl _) (.cells #[.int .i64 X1] 2)))
          have t0 := Joins.cell_of_block HJ.out.hT 0
          have t1 := Joins.cell_of_block HJ.out.hT 1
          simp at t0 t1
          go_wp2_with (first | (go_at_call 102; refine (specMin_any _ _ X1 _ (by first | exact .inl ⟨by omega, by omega⟩ | exact .inr ⟨by omega, by omega⟩)).mono ?_; rintro e w' ⟨rfl, rfl⟩) | (at_builtin; refine wpList_append_own_at _ rfl _ _ 42 rfl (T + 1) 2 i0 (.int .i64 0) 1 8 Try.underlying42 hi iz0 iz1 iz2 rfl (by decide) _ _ _ rfl (by exact HJa.out.oA) ⟨_, 0, none⟩ 1 1 [.int .i64 X1] rfl rfl (cell_one_new _ _ _) (by intro u hu; simp at hu; subst hu; rfl) hn63 hby (by have := HJ.out.sz; simp; omega) ?_))
          intro v' w5 hown5 hgrow _ hat5
          obtain ⟨g5, d5, rfl⟩ := Joins.ownsRow_form hown5 (by omega)
          have ht5 := HJa.out.tA hgrow
          have c50 := Joins.cell_of_block ht5 0
          have c51 := Joins.cell_of_block ht5 1
          simp at c50 c51
          have f50 := Joins.unfrozen_of_block ht5 0
          have f51 := Joins.unfrozen_of_block ht5 1
          (try simp at f50 f51)
          obtain ⟨W6, hW6⟩ : ∃ u : World, u = w5.setCell ⟨T, 0, none⟩ (.slice (some ⟨g5, 0, none⟩) (P.length + 1) d5) := ⟨_, rfl⟩
          have HJ6 : Hid (JQ T w3 W6 (P ++ [X1]) Q (some ⟨g5, 0, none⟩) d5 GB dB) := by rw [hW6]; exact HJa.out.stepA hgrow hown5 (hat5.imp (fun h => h.symm) (fun h => (Option.some.inj (show some g5 = some _ from h)).trans (by simp)))
          have HW6 := hide hW6
          clear hW6 hown5 hgrow hat5 ht5 HJa t0 t1
          have hb6 := HJ6.out.bel
          have hs6 := HJ6.out.sz
          have t0 := Joins.cell_of_block HJ6.out.hT 0
          have t1 := Joins.cell_of_block HJ6.out.hT 1
          simp at t0 t1
          have u0 := Joins.unfrozen_of_block HJ6.out.hT 0
          have u1 := Joins.unfrozen_of_block HJ6.out.hT 1
          (try simp at u0 u1)
          have i1 := t1
          have j1 := u1
          rw [HW6.out] at i1 j1
          have HR1 := hide (HAT W6.drew ((HJ6.out.below (bel_q (Below.refl _ _) 1)).bel) X1 HX0.out)
          have HR2 := hide (HBT W6.drew ((HJ6.out.below (bel_q (Below.refl _ _) 1)).bel) X1 HX0.out)
          obtain ⟨R1, hR1⟩ : ∃ q, rateK x x' X1 n = q := ⟨_, rfl⟩
          obtain ⟨R2, hR2⟩ : ∃ q, rateK y y' X1 m = q := ⟨_, rfl⟩
          have hr1 := rateK_bd HV.out (c := X1) n (Nat.le_refl _)
          have hr2 := rateK_bd HV'.out (c := X1) m (Nat.le_refl _)
          rw [hR1] at HR1 hr1
          rw [hR2] at HR2 hr2
          obtain ⟨ra, rb⟩ := hr1
          obtain ⟨rc, rd⟩ := hr2
          have HRR := hide (show joRX x x' n y y' m X1 = R1 + R2 from by unfold joRX; rw [hR1, hR2])
          clear hR1 hR2
          have hwr : IntKind.i64.wrap (R1 + R2) = R1 + R2 := Go.IntWalk.i64_in _ (by omega)
          have hqb : Q.length + 1 ≤ 17 := by rw [HQL.out]; exact hq16
          have hnb : Q.length + 1 ≤ maxLen := by unfold maxLen; omega
          have hbb : (Q.length + 1) * 8 ≤ 140737488355328 := by omega
          have HJb := hide (HJ6.out.below (u' := (W6.alloc (.cells #[.int .i64 (R1 + R2)] 2)).drew) (bel_q ((Below.refl _ _).alloc (Nat.le_refl _) _) 1))
          clear t0 u0
          have m0 := Joins.cell_of_block HJb.out.hT 0
          have m1 := Joins.cell_of_block HJb.out.hT 1
          simp at m0 m1
          go_wp2_with fail
          rw [← HW6.out]
          clear i1 j1 HW6
          go_region_law (first
            | (go_simp; go_at_call 103; with_reducible refine HR1.out.mono ?_; rintro e w' ⟨rfl, rfl⟩)
            | (go_simp; go_at_call 103; with_reducible refine HR2.out.mono ?_; rintro e w' ⟨rfl, rfl⟩)
            | (refine step_append_lies _ (by rfl) _ _ _ (by rfl) (T + 1) 2 i0 _ 1 8 Try.underlying42 hi iz0 iz1 iz2 rfl (by omega) (.slice GB Q.length dB) Q.length (Q.map (Value.int .i64)) (by rfl) (by exact HJb.out.oB) ⟨W6.heap.size, 0, none⟩ 1 1 [.int .i64 (R1 + R2)] (by rfl) (by rfl) (World.news_of_block (cs := #[.int .i64 (R1 + R2)]) (t := 2) (fr := (0, 0)) (heap_alloc_new W6 _)) (by simp [Value.oneCell']) (by omega) hnb hbb (by have h9 := HJ6.out.sz; simp; omega) (W6.heap.size + 1) (by simp) ?_; intro gg cap w7 hown7 hgrow7 hat7 hlt7; have ht7 := HJb.out.tB hgrow7; have c71 := Joins.cell_of_block ht7 1; have f71 := Joins.unfrozen_of_block ht7 1; simp at c71))
          all_goals
            have HJ8 := hide (HJb.out.stepB hgrow7 hown7 (hat7.imp id (fun h => h.trans (by simp))))
            clear hown7 hgrow7 hat7 hlt7 ht7 c71 f71
            go_wp2
            go_roundw
            case rel => exact ⟨i + 1, k, P ++ [X1], Q ++ [R1 + R2], _, _, _, _, by omega, by omega, by go_num, by go_num, HJN.out, by rw [List.length_append, List.length_append, HQL.out]; rfl, by rw [List.map_append, HQM.out, List.map_singleton, HRR.out]; exact rfl, HJ8.out⟩
            case measure => simp [intOf]; omega
        · subst heq
          have hxx : (X1 == X1) = true := by simp
          have HX0 := hide (show 0 ≤ X1 from HXI.out.1)
          go_wp2_with fail
          go_quiet ((go_at_call 102; exact Calls.quiet_of_same ((specMin_any _ _ X1 _ (by first | exact .inl ⟨by omega, by omega⟩ | exact .inr ⟨by omega, by omega⟩)).mono fun _ _ ⟨h, h'⟩ => ⟨h, h'.symm⟩)))
          obtain ⟨wd, hwd⟩ : ∃ u : World, u = wr.drewN nq := ⟨_, rfl⟩
          rw [← hwd]
          have HJ : Hid (JQ T w3 wd P Q GA dA GB dB) := by rw [hwd]; exact HJ.out.below (bel_q (Below.refl _ _) _)
          have xi : wd.cell? ⟨ba, oa + i, none⟩ = some (.int .i64 X1) := by rw [hwd]; exact xi
          have yk : wd.cell? ⟨bb, ob + k, none⟩ = some (.int .i64 X1) := by rw [hwd]; exact yk
          have b0 : wd.cell? ⟨w.heap.size, 0, none⟩ = some (.slice (some ⟨ba, oa, none⟩) n c) := by rw [hwd]; exact b0
          have b1 : wd.cell? ⟨w.heap.size + 1, 0, none⟩ = some (.slice (some ⟨bb, ob, none⟩) m d) := by rw [hwd]; exact b1
          clear hwd
          have HJN := hide (joI_step HV.out HV'.out hin hkm HI.out (i' := i + 1) (k' := k + 1) (X := X1) (fun _ => by rw [HX1.out]; exact Int.le_refl _) (fun _ => by rw [HY1.out]; exact Int.le_refl _) (.inl ⟨hil, HX1.out.symm⟩) (by rw [if_pos ⟨hil, HX1.out⟩]) (by rw [if_pos ⟨hkl, HY1.out⟩]))
          have hq16 : P.length + 1 ≤ 17 := by have := HJN.out.2.2.2; rw [List.length_append, List.length_singleton] at this; omega
          have hn63 : P.length + 1 ≤ maxLen := by unfold maxLen; omega
          have hby : (P.length + 1) * 8 ≤ 140737488355328 := by omega
          have HJa := hide (HJ.out.below ((Below.refl _ _).alloc (Nat.le_refl _) (.cells #[.int .i64 X1] 2)))
          have t0 := Joins.cell_of_block HJ.out.hT 0
          have t1 := Joins.cell_of_block HJ.out.hT 1
          simp at t0 t1
          go_wp2_with (first | (go_at_call 102; refine (specMin_any _ _ X1 _ (by first | exact .inl ⟨by omega, by omega⟩ | exact .inr ⟨by omega, by omega⟩)).mono ?_; rintro e w' ⟨rfl, rfl⟩) | (at_builtin; refine wpList_append_own_at _ rfl _ _ 42 rfl (T + 1) 2 i0 (.int .i64 0) 1 8 Try.underlying42 hi iz0 iz1 iz2 rfl (by decide) _ _ _ rfl (by exact HJa.out.oA) ⟨_, 0, none⟩ 1 1 [.int .i64 X1] rfl rfl (cell_one_new _ _ _) (by intro u hu; simp at hu; subst hu; rfl) hn63 hby (by have := HJ.out.sz; simp; omega) ?_))
          intro v' w5 hown5 hgrow _ hat5
          obtain ⟨g5, d5, rfl⟩ := Joins.ownsRow_form hown5 (by omega)
          have ht5 := HJa.out.tA hgrow
          have c50 := Joins.cell_of_block ht5 0
          have c51 := Joins.cell_of_block ht5 1
          simp at c50 c51
          have f50 := Joins.unfrozen_of_block ht5 0
          have f51 := Joins.unfrozen_of_block ht5 1
          (try simp at f50 f51)
          obtain ⟨W6, hW6⟩ : ∃ u : World, u = w5.setCell ⟨T, 0, none⟩ (.slice (some ⟨g5, 0, none⟩) (P.length + 1) d5) := ⟨_, rfl⟩
          have HJ6 : Hid (JQ T w3 W6 (P ++ [X1]) Q (some ⟨g5, 0, none⟩) d5 GB dB) := by rw [hW6]; exact HJa.out.stepA hgrow hown5 (hat5.imp (fun h => h.symm) (fun h => (Option.some.inj (show some g5 = some _ from h)).trans (by simp)))
          have HW6 := hide hW6
          clear hW6 hown5 hgrow hat5 ht5 HJa t0 t1
          have hb6 := HJ6.out.bel
          have hs6 := HJ6.out.sz
          have t0 := Joins.cell_of_block HJ6.out.hT 0
          have t1 := Joins.cell_of_block HJ6.out.hT 1
          simp at t0 t1
          have u0 := Joins.unfrozen_of_block HJ6.out.hT 0
          have u1 := Joins.unfrozen_of_block HJ6.out.hT 1
          (try simp at u0 u1)
          have i1 := t1
          have j1 := u1
          rw [HW6.out] at i1 j1
          have HR1 := hide (HAT W6.drew ((HJ6.out.below (bel_q (Below.refl _ _) 1)).bel) X1 HX0.out)
          have HR2 := hide (HBT W6.drew ((HJ6.out.below (bel_q (Below.refl _ _) 1)).bel) X1 HX0.out)
          obtain ⟨R1, hR1⟩ : ∃ q, rateK x x' X1 n = q := ⟨_, rfl⟩
          obtain ⟨R2, hR2⟩ : ∃ q, rateK y y' X1 m = q := ⟨_, rfl⟩
          have hr1 := rateK_bd HV.out (c := X1) n (Nat.le_refl _)
          have hr2 := rateK_bd HV'.out (c := X1) m (Nat.le_refl _)
          rw [hR1] at HR1 hr1
          rw [hR2] at HR2 hr2
          obtain ⟨ra, rb⟩ := hr1
          obtain ⟨rc, rd⟩ := hr2
          have HRR := hide (show joRX x x' n y y' m X1 = R1 + R2 from by unfold joRX; rw [hR1, hR2])
          clear hR1 hR2
          have hwr : IntKind.i64.wrap (R1 + R2) = R1 + R2 := Go.IntWalk.i64_in _ (by omega)
          have hqb : Q.length + 1 ≤ 17 := by rw [HQL.out]; exact hq16
          have hnb : Q.length + 1 ≤ maxLen := by unfold maxLen; omega
          have hbb : (Q.length + 1) * 8 ≤ 140737488355328 := by omega
          have HJb := hide (HJ6.out.below (u' := (W6.alloc (.cells #[.int .i64 (R1 + R2)] 2)).drew) (bel_q ((Below.refl _ _).alloc (Nat.le_refl _) _) 1))
          clear t0 u0
          have m0 := Joins.cell_of_block HJb.out.hT 0
          have m1 := Joins.cell_of_block HJb.out.hT 1
          simp at m0 m1
          go_wp2_with fail
          rw [← HW6.out]
          clear i1 j1 HW6
          go_region_law (first
            | (go_simp; go_at_call 103; with_reducible refine HR1.out.mono ?_; rintro e w' ⟨rfl, rfl⟩)
            | (go_simp; go_at_call 103; with_reducible refine HR2.out.mono ?_; rintro e w' ⟨rfl, rfl⟩)
            | (refine step_append_lies _ (by rfl) _ _ _ (by rfl) (T + 1) 2 i0 _ 1 8 Try.underlying42 hi iz0 iz1 iz2 rfl (by omega) (.slice GB Q.length dB) Q.length (Q.map (Value.int .i64)) (by rfl) (by exact HJb.out.oB) ⟨W6.heap.size, 0, none⟩ 1 1 [.int .i64 (R1 + R2)] (by rfl) (by rfl) (World.news_of_block (cs := #[.int .i64 (R1 + R2)]) (t := 2) (fr := (0, 0)) (heap_alloc_new W6 _)) (by simp [Value.oneCell']) (by omega) hnb hbb (by have h9 := HJ6.out.sz; simp; omega) (W6.heap.size + 1) (by simp) ?_; intro gg cap w7 hown7 hgrow7 hat7 hlt7; have ht7 := HJb.out.tB hgrow7; have c71 := Joins.cell_of_block ht7 1; have f71 := Joins.unfrozen_of_block ht7 1; simp at c71))
          all_goals
            have HJ8 := hide (HJb.out.stepB hgrow7 hown7 (hat7.imp id (fun h => h.trans (by simp))))
            clear hown7 hgrow7 hat7 hlt7 ht7 c71 f71
            go_wp2
            go_roundw
            case rel => exact ⟨i + 1, k + 1, P ++ [X1], Q ++ [R1 + R2], _, _, _, _, by omega, by omega, by go_num, by go_num, HJN.out, by rw [List.length_append, List.length_append, HQL.out]; rfl, by rw [List.map_append, HQM.out, List.map_singleton, HRR.out]; exact rfl, HJ8.out⟩
            case measure => simp [intOf]; omega
        · have hxy : (X1 == Y1) = false := by rw [beq_eq_false_iff_ne]; omega
          have hyy : (Y1 == Y1) = true := by simp
          have HX0 := hide (show 0 ≤ Y1 from HYK.out.1)
          go_wp2_with fail
          go_quiet ((go_at_call 102; exact Calls.quiet_of_same ((specMin_any _ _ Y1 _ (by first | exact .inl ⟨by omega, by omega⟩ | exact .inr ⟨by omega, by omega⟩)).mono fun _ _ ⟨h, h'⟩ => ⟨h, h'.symm⟩)))
          obtain ⟨wd, hwd⟩ : ∃ u : World, u = wr.drewN nq := ⟨_, rfl⟩
          rw [← hwd]
          have HJ : Hid (JQ T w3 wd P Q GA dA GB dB) := by rw [hwd]; exact HJ.out.below (bel_q (Below.refl _ _) _)
          have xi : wd.cell? ⟨ba, oa + i, none⟩ = some (.int .i64 X1) := by rw [hwd]; exact xi
          have yk : wd.cell? ⟨bb, ob + k, none⟩ = some (.int .i64 Y1) := by rw [hwd]; exact yk
          have b0 : wd.cell? ⟨w.heap.size, 0, none⟩ = some (.slice (some ⟨ba, oa, none⟩) n c) := by rw [hwd]; exact b0
          have b1 : wd.cell? ⟨w.heap.size + 1, 0, none⟩ = some (.slice (some ⟨bb, ob, none⟩) m d) := by rw [hwd]; exact b1
          clear hwd
          have HJN := hide (joI_step HV.out HV'.out hin hkm HI.out (i' := i) (k' := k + 1) (X := Y1) (fun _ => by rw [HX1.out]; omega) (fun _ => by rw [HY1.out]; exact Int.le_refl _) (.inr ⟨hkl, HY1.out.symm⟩) (by rw [if_neg (fun h => by have := h.2; rw [HX1.out] at this; omega)]) (by rw [if_pos ⟨hkl, HY1.out⟩]))
          have hq16 : P.length + 1 ≤ 17 := by have := HJN.out.2.2.2; rw [List.length_append, List.length_singleton] at this; omega
          have hn63 : P.length + 1 ≤ maxLen := by unfold maxLen; omega
          have hby : (P.length + 1) * 8 ≤ 140737488355328 := by omega
          have HJa := hide (HJ.out.below ((Below.refl _ _).alloc (Nat.le_refl _) (.cells #[.int .i64 Y1] 2)))
          have t0 := Joins.cell_of_block HJ.out.hT 0
          have t1 := Joins.cell_of_block HJ.out.hT 1
          simp at t0 t1
          go_wp2_with (first | (go_at_call 102; refine (specMin_any _ _ Y1 _ (by first | exact .inl ⟨by omega, by omega⟩ | exact .inr ⟨by omega, by omega⟩)).mono ?_; rintro e w' ⟨rfl, rfl⟩) | (at_builtin; refine wpList_append_own_at _ rfl _ _ 42 rfl (T + 1) 2 i0 (.int .i64 0) 1 8 Try.underlying42 hi iz0 iz1 iz2 rfl (by decide) _ _ _ rfl (by exact HJa.out.oA) ⟨_, 0, none⟩ 1 1 [.int .i64 Y1] rfl rfl (cell_one_new _ _ _) (by intro u hu; simp at hu; subst hu; rfl) hn63 hby (by have := HJ.out.sz; simp; omega) ?_))
          intro v' w5 hown5 hgrow _ hat5
          obtain ⟨g5, d5, rfl⟩ := Joins.ownsRow_form hown5 (by omega)
          have ht5 := HJa.out.tA hgrow
          have c50 := Joins.cell_of_block ht5 0
          have c51 := Joins.cell_of_block ht5 1
          simp at c50 c51
          have f50 := Joins.unfrozen_of_block ht5 0
          have f51 := Joins.unfrozen_of_block ht5 1
          (try simp at f50 f51)
          obtain ⟨W6, hW6⟩ : ∃ u : World, u = w5.setCell ⟨T, 0, none⟩ (.slice (some ⟨g5, 0, none⟩) (P.length + 1) d5) := ⟨_, rfl⟩
          have HJ6 : Hid (JQ T w3 W6 (P ++ [Y1]) Q (some ⟨g5, 0, none⟩) d5 GB dB) := by rw [hW6]; exact HJa.out.stepA hgrow hown5 (hat5.imp (fun h => h.symm) (fun h => (Option.some.inj (show some g5 = some _ from h)).trans (by simp)))
          have HW6 := hide hW6
          clear hW6 hown5 hgrow hat5 ht5 HJa t0 t1
          have hb6 := HJ6.out.bel
          have hs6 := HJ6.out.sz
          have t0 := Joins.cell_of_block HJ6.out.hT 0
          have t1 := Joins.cell_of_block HJ6.out.hT 1
          simp at t0 t1
          have u0 := Joins.unfrozen_of_block HJ6.out.hT 0
          have u1 := Joins.unfrozen_of_block HJ6.out.hT 1
          (try simp at u0 u1)
          have i1 := t1
          have j1 := u1
          rw [HW6.out] at i1 j1
          have HR1 := hide (HAT W6.drew ((HJ6.out.below (bel_q (Below.refl _ _) 1)).bel) Y1 HX0.out)
          have HR2 := hide (HBT W6.drew ((HJ6.out.below (bel_q (Below.refl _ _) 1)).bel) Y1 HX0.out)
          obtain ⟨R1, hR1⟩ : ∃ q, rateK x x' Y1 n = q := ⟨_, rfl⟩
          obtain ⟨R2, hR2⟩ : ∃ q, rateK y y' Y1 m = q := ⟨_, rfl⟩
          have hr1 := rateK_bd HV.out (c := Y1) n (Nat.le_refl _)
          have hr2 := rateK_bd HV'.out (c := Y1) m (Nat.le_refl _)
          rw [hR1] at HR1 hr1
          rw [hR2] at HR2 hr2
          obtain ⟨ra, rb⟩ := hr1
          obtain ⟨rc, rd⟩ := hr2
          have HRR := hide (show joRX x x' n y y' m Y1 = R1 + R2 from by unfold joRX; rw [hR1, hR2])
          clear hR1 hR2
          have hwr : IntKind.i64.wrap (R1 + R2) = R1 + R2 := Go.IntWalk.i64_in _ (by omega)
          have hqb : Q.length + 1 ≤ 17 := by rw [HQL.out]; exact hq16
          have hnb : Q.length + 1 ≤ maxLen := by unfold maxLen; omega
          have hbb : (Q.length + 1) * 8 ≤ 140737488355328 := by omega
          have HJb := hide (HJ6.out.below (u' := (W6.alloc (.cells #[.int .i64 (R1 + R2)] 2)).drew) (bel_q ((Below.refl _ _).alloc (Nat.le_refl _) _) 1))
          clear t0 u0
          have m0 := Joins.cell_of_block HJb.out.hT 0
          have m1 := Joins.cell_of_block HJb.out.hT 1
          simp at m0 m1
          go_wp2_with fail
          rw [← HW6.out]
          clear i1 j1 HW6
          go_region_law (first
            | (go_simp; go_at_call 103; with_reducible refine HR1.out.mono ?_; rintro e w' ⟨rfl, rfl⟩)
            | (go_simp; go_at_call 103; with_reducible refine HR2.out.mono ?_; rintro e w' ⟨rfl, rfl⟩)
            | (refine step_append_lies _ (by rfl) _ _ _ (by rfl) (T + 1) 2 i0 _ 1 8 Try.underlying42 hi iz0 iz1 iz2 rfl (by omega) (.slice GB Q.length dB) Q.length (Q.map (Value.int .i64)) (by rfl) (by exact HJb.out.oB) ⟨W6.heap.size, 0, none⟩ 1 1 [.int .i64 (R1 + R2)] (by rfl) (by rfl) (World.news_of_block (cs := #[.int .i64 (R1 + R2)]) (t := 2) (fr := (0, 0)) (heap_alloc_new W6 _)) (by simp [Value.oneCell']) (by omega) hnb hbb (by have h9 := HJ6.out.sz; simp; omega) (W6.heap.size + 1) (by simp) ?_; intro gg cap w7 hown7 hgrow7 hat7 hlt7; have ht7 := HJb.out.tB hgrow7; have c71 := Joins.cell_of_block ht7 1; have f71 := Joins.unfrozen_of_block ht7 1; simp at c71))
          all_goals
            have HJ8 := hide (HJb.out.stepB hgrow7 hown7 (hat7.imp id (fun h => h.trans (by simp))))
            clear hown7 hgrow7 hat7 hlt7 ht7 c71 f71
            go_wp2
            go_roundw
            case rel => exact ⟨i, k + 1, P ++ [Y1], Q ++ [R1 + R2], _, _, _, _, by omega, by omega, by go_num, by go_num, HJN.out, by rw [List.length_append, List.length_append, HQL.out]; rfl, by rw [List.map_append, HQM.out, List.map_singleton, HRR.out]; exact rfl, HJ8.out⟩
            case measure => simp [intOf]; omega
      · have hkk : ¬ (k : Int) < (m : Int) := by omega
        have hke : ((k : Int) == (m : Int)) = true := by rw [beq_iff_eq]; omega
        obtain ⟨X, hX⟩ : ∃ q, x i = q := ⟨_, rfl⟩
        rw [hX] at xi HXI
        have HX1 := hide hX
        clear hX
        have hxx : (X == X) = true := by simp
        have HX0 := hide HXI.out.1
        have HJN := hide (joI_step HV.out HV'.out hin hkm HI.out (i' := i + 1) (k' := k) (X := X) (fun _ => by rw [HX1.out]; exact Int.le_refl _) (fun h => absurd h hkl) (.inl ⟨hil, HX1.out.symm⟩) (by rw [if_pos ⟨hil, HX1.out⟩]) (by rw [if_neg (fun h => hkl h.1)]))
        have hq16 : P.length + 1 ≤ 17 := by have := HJN.out.2.2.2; rw [List.length_append, List.length_singleton] at this; omega
        have hn63 : P.length + 1 ≤ maxLen := by unfold maxLen; omega
        have hby : (P.length + 1) * 8 ≤ 140737488355328 := by omega
        have HJa := hide (HJ.out.below ((Below.refl _ _).alloc (Nat.le_refl _) (.cells #[.int .i64 X] 2)))
        have t0 := Joins.cell_of_block HJ.out.hT 0
        have t1 := Joins.cell_of_block HJ.out.hT 1
        simp at t0 t1
        go_wp2_with (first | (go_at_call 102; refine (specMin_any _ _ X _ (by first | exact .inl ⟨by omega, by omega⟩ | exact .inr ⟨by omega, by omega⟩)).mono ?_; rintro e w' ⟨rfl, rfl⟩) | (at_builtin; refine wpList_append_own_at _ rfl _ _ 42 rfl (T + 1) 2 i0 (.int .i64 0) 1 8 Try.underlying42 hi iz0 iz1 iz2 rfl (by decide) _ _ _ rfl (by exact HJa.out.oA) ⟨_, 0, none⟩ 1 1 [.int .i64 X] rfl rfl (cell_one_new _ _ _) (by intro u hu; simp at hu; subst hu; rfl) hn63 hby (by have := HJ.out.sz; simp; omega) ?_))
        intro v' w5 hown5 hgrow _ hat5
        obtain ⟨g5, d5, rfl⟩ := Joins.ownsRow_form hown5 (by omega)
        have ht5 := HJa.out.tA hgrow
        have c50 := Joins.cell_of_block ht5 0
        have c51 := Joins.cell_of_block ht5 1
        simp at c50 c51
        have f50 := Joins.unfrozen_of_block ht5 0
        have f51 := Joins.unfrozen_of_block ht5 1
        (try simp at f50 f51)
        obtain ⟨W6, hW6⟩ : ∃ u : World, u = w5.setCell ⟨T, 0, none⟩ (.slice (some ⟨g5, 0, none⟩) (P.length + 1) d5) := ⟨_, rfl⟩
        have HJ6 : Hid (JQ T w3 W6 (P ++ [X]) Q (some ⟨g5, 0, none⟩) d5 GB dB) := by rw [hW6]; exact HJa.out.stepA hgrow hown5 (hat5.imp (fun h => h.symm) (fun h => (Option.some.inj (show some g5 = some _ from h)).trans (by simp)))
        have HW6 := hide hW6
        clear hW6 hown5 hgrow hat5 ht5 HJa t0 t1
        have hb6 := HJ6.out.bel
        have hs6 := HJ6.out.sz
        have t0 := Joins.cell_of_block HJ6.out.hT 0
        have t1 := Joins.cell_of_block HJ6.out.hT 1
        simp at t0 t1
        have u0 := Joins.unfrozen_of_block HJ6.out.hT 0
        have u1 := Joins.unfrozen_of_block HJ6.out.hT 1
        (try simp at u0 u1)
        have i1 := t1
        have j1 := u1
        rw [HW6.out] at i1 j1
        have HR1 := hide (HAT W6.drew ((HJ6.out.below (bel_q (Below.refl _ _) 1)).bel) X HX0.out)
        have HR2 := hide (HBT W6.drew ((HJ6.out.below (bel_q (Below.refl _ _) 1)).bel) X HX0.out)
        obtain ⟨R1, hR1⟩ : ∃ q, rateK x x' X n = q := ⟨_, rfl⟩
        obtain ⟨R2, hR2⟩ : ∃ q, rateK y y' X m = q := ⟨_, rfl⟩
        have hr1 := rateK_bd HV.out (c := X) n (Nat.le_refl _)
        have hr2 := rateK_bd HV'.out (c := X) m (Nat.le_refl _)
        rw [hR1] at HR1 hr1
        rw [hR2] at HR2 hr2
        obtain ⟨ra, rb⟩ := hr1
        obtain ⟨rc, rd⟩ := hr2
        have HRR := hide (show joRX x x' n y y' m X = R1 + R2 from by unfold joRX; rw [hR1, hR2])
        clear hR1 hR2
        have hwr : IntKind.i64.wrap (R1 + R2) = R1 + R2 := Go.IntWalk.i64_in _ (by omega)
        have hqb : Q.length + 1 ≤ 17 := by rw [HQL.out]; exact hq16
        have hnb : Q.length + 1 ≤ maxLen := by unfold maxLen; omega
        have hbb : (Q.length + 1) * 8 ≤ 140737488355328 := by omega
        have HJb := hide (HJ6.out.below (u' := (W6.alloc (.cells #[.int .i64 (R1 + R2)] 2)).drew) (bel_q ((Below.refl _ _).alloc (Nat.le_refl _) _) 1))
        clear t0 u0
        have m0 := Joins.cell_of_block HJb.out.hT 0
        have m1 := Joins.cell_of_block HJb.out.hT 1
        simp at m0 m1
        go_wp2_with fail
        rw [← HW6.out]
        clear i1 j1 HW6
        go_region_law (first
          | (go_simp; go_at_call 103; with_reducible refine HR1.out.mono ?_; rintro e w' ⟨rfl, rfl⟩)
          | (go_simp; go_at_call 103; with_reducible refine HR2.out.mono ?_; rintro e w' ⟨rfl, rfl⟩)
          | (refine step_append_lies _ (by rfl) _ _ _ (by rfl) (T + 1) 2 i0 _ 1 8 Try.underlying42 hi iz0 iz1 iz2 rfl (by omega) (.slice GB Q.length dB) Q.length (Q.map (Value.int .i64)) (by rfl) (by exact HJb.out.oB) ⟨W6.heap.size, 0, none⟩ 1 1 [.int .i64 (R1 + R2)] (by rfl) (by rfl) (World.news_of_block (cs := #[.int .i64 (R1 + R2)]) (t := 2) (fr := (0, 0)) (heap_alloc_new W6 _)) (by simp [Value.oneCell']) (by omega) hnb hbb (by have h9 := HJ6.out.sz; simp; omega) (W6.heap.size + 1) (by simp) ?_; intro gg cap w7 hown7 hgrow7 hat7 hlt7; have ht7 := HJb.out.tB hgrow7; have c71 := Joins.cell_of_block ht7 1; have f71 := Joins.unfrozen_of_block ht7 1; simp at c71))
        all_goals
          have HJ8 := hide (HJb.out.stepB hgrow7 hown7 (hat7.imp id (fun h => h.trans (by simp))))
          clear hown7 hgrow7 hat7 hlt7 ht7 c71 f71
          go_wp2
          go_roundw
          case rel => exact ⟨i + 1, k, P ++ [X], Q ++ [R1 + R2], _, _, _, _, by omega, by omega, by go_num, by go_num, HJN.out, by rw [List.length_append, List.length_append, HQL.out]; rfl, by rw [List.map_append, HQM.out, List.map_singleton, HRR.out]; exact rfl, HJ8.out⟩
          case measure => simp [intOf]; omega
    · have hii : ¬ (i : Int) < (n : Int) := by omega
      have hie : ((i : Int) == (n : Int)) = true := by rw [beq_iff_eq]; omega
      by_cases hkl : k < m
      · have hkk : (k : Int) < (m : Int) := by omega
        have yk := HYC.out k hkl
        have HYK := hide (HV'.out.amt k hkl)
        obtain ⟨X, hX⟩ : ∃ q, y k = q := ⟨_, rfl⟩
        rw [hX] at yk HYK
        have HX1 := hide hX
        clear hX
        have hxx : (X == X) = true := by simp
        have HX0 := hide HYK.out.1
        have HJN := hide (joI_step HV.out HV'.out hin hkm HI.out (i' := i) (k' := k + 1) (X := X) (fun h => absurd h hil) (fun _ => by rw [HX1.out]; exact Int.le_refl _) (.inr ⟨hkl, HX1.out.symm⟩) (by rw [if_neg (fun h => hil h.1)]) (by rw [if_pos ⟨hkl, HX1.out⟩]))
        have hq16 : P.length + 1 ≤ 17 := by have := HJN.out.2.2.2; rw [List.length_append, List.length_singleton] at this; omega
        have hn63 : P.length + 1 ≤ maxLen := by unfold maxLen; omega
        have hby : (P.length + 1) * 8 ≤ 140737488355328 := by omega
        have HJa := hide (HJ.out.below ((Below.refl _ _).alloc (Nat.le_refl _) (.cells #[.int .i64 X] 2)))
        have t0 := Joins.cell_of_block HJ.out.hT 0
        have t1 := Joins.cell_of_block HJ.out.hT 1
        simp at t0 t1
        go_wp2_with (first | (go_at_call 102; refine (specMin_any _ _ X _ (by first | exact .inl ⟨by omega, by omega⟩ | exact .inr ⟨by omega, by omega⟩)).mono ?_; rintro e w' ⟨rfl, rfl⟩) | (at_builtin; refine wpList_append_own_at _ rfl _ _ 42 rfl (T + 1) 2 i0 (.int .i64 0) 1 8 Try.underlying42 hi iz0 iz1 iz2 rfl (by decide) _ _ _ rfl (by exact HJa.out.oA) ⟨_, 0, none⟩ 1 1 [.int .i64 X] rfl rfl (cell_one_new _ _ _) (by intro u hu; simp at hu; subst hu; rfl) hn63 hby (by have := HJ.out.sz; simp; omega) ?_))
        intro v' w5 hown5 hgrow _ hat5
        obtain ⟨g5, d5, rfl⟩ := Joins.ownsRow_form hown5 (by omega)
        have ht5 := HJa.out.tA hgrow
        have c50 := Joins.cell_of_block ht5 0
        have c51 := Joins.cell_of_block ht5 1
        simp at c50 c51
        have f50 := Joins.unfrozen_of_block ht5 0
        have f51 := Joins.unfrozen_of_block ht5 1
        (try simp at f50 f51)
        obtain ⟨W6, hW6⟩ : ∃ u : World, u = w5.setCell ⟨T, 0, none⟩ (.slice (some ⟨g5, 0, none⟩) (P.length + 1) d5) := ⟨_, rfl⟩
        have HJ6 : Hid (JQ T w3 W6 (P ++ [X]) Q (some ⟨g5, 0, none⟩) d5 GB dB) := by rw [hW6]; exact HJa.out.stepA hgrow hown5 (hat5.imp (fun h => h.symm) (fun h => (Option.some.inj (show some g5 = some _ from h)).trans (by simp)))
        have HW6 := hide hW6
        clear hW6 hown5 hgrow hat5 ht5 HJa t0 t1
        have hb6 := HJ6.out.bel
        have hs6 := HJ6.out.sz
        have t0 := Joins.cell_of_block HJ6.out.hT 0
        have t1 := Joins.cell_of_block HJ6.out.hT 1
        simp at t0 t1
        have u0 := Joins.unfrozen_of_block HJ6.out.hT 0
        have u1 := Joins.unfrozen_of_block HJ6.out.hT 1
        (try simp at u0 u1)
        have i1 := t1
        have j1 := u1
        rw [HW6.out] at i1 j1
        have HR1 := hide (HAT W6.drew ((HJ6.out.below (bel_q (Below.refl _ _) 1)).bel) X HX0.out)
        have HR2 := hide (HBT W6.drew ((HJ6.out.below (bel_q (Below.refl _ _) 1)).bel) X HX0.out)
        obtain ⟨R1, hR1⟩ : ∃ q, rateK x x' X n = q := ⟨_, rfl⟩
        obtain ⟨R2, hR2⟩ : ∃ q, rateK y y' X m = q := ⟨_, rfl⟩
        have hr1 := rateK_bd HV.out (c := X) n (Nat.le_refl _)
        have hr2 := rateK_bd HV'.out (c := X) m (Nat.le_refl _)
        rw [hR1] at HR1 hr1
        rw [hR2] at HR2 hr2
        obtain ⟨ra, rb⟩ := hr1
        obtain ⟨rc, rd⟩ := hr2
        have HRR := hide (show joRX x x' n y y' m X = R1 + R2 from by unfold joRX; rw [hR1, hR2])
        clear hR1 hR2
        have hwr : IntKind.i64.wrap (R1 + R2) = R1 + R2 := Go.IntWalk.i64_in _ (by omega)
        have hqb : Q.length + 1 ≤ 17 := by rw [HQL.out]; exact hq16
        have hnb : Q.length + 1 ≤ maxLen := by unfold maxLen; omega
        have hbb : (Q.length + 1) * 8 ≤ 140737488355328 := by omega
        have HJb := hide (HJ6.out.below (u' := (W6.alloc (.cells #[.int .i64 (R1 + R2)] 2)).drew) (bel_q ((Below.refl _ _).alloc (Nat.le_refl _) _) 1))
        clear t0 u0
        have m0 := Joins.cell_of_block HJb.out.hT 0
        have m1 := Joins.cell_of_block HJb.out.hT 1
        simp at m0 m1
        go_wp2_with fail
        rw [← HW6.out]
        clear i1 j1 HW6
        go_region_law (first
          | (go_simp; go_at_call 103; with_reducible refine HR1.out.mono ?_; rintro e w' ⟨rfl, rfl⟩)
          | (go_simp; go_at_call 103; with_reducible refine HR2.out.mono ?_; rintro e w' ⟨rfl, rfl⟩)
          | (refine step_append_lies _ (by rfl) _ _ _ (by rfl) (T + 1) 2 i0 _ 1 8 Try.underlying42 hi iz0 iz1 iz2 rfl (by omega) (.slice GB Q.length dB) Q.length (Q.map (Value.int .i64)) (by rfl) (by exact HJb.out.oB) ⟨W6.heap.size, 0, none⟩ 1 1 [.int .i64 (R1 + R2)] (by rfl) (by rfl) (World.news_of_block (cs := #[.int .i64 (R1 + R2)]) (t := 2) (fr := (0, 0)) (heap_alloc_new W6 _)) (by simp [Value.oneCell']) (by omega) hnb hbb (by have h9 := HJ6.out.sz; simp; omega) (W6.heap.size + 1) (by simp) ?_; intro gg cap w7 hown7 hgrow7 hat7 hlt7; have ht7 := HJb.out.tB hgrow7; have c71 := Joins.cell_of_block ht7 1; have f71 := Joins.unfrozen_of_block ht7 1; simp at c71))
        all_goals
          have HJ8 := hide (HJb.out.stepB hgrow7 hown7 (hat7.imp id (fun h => h.trans (by simp))))
          clear hown7 hgrow7 hat7 hlt7 ht7 c71 f71
          go_wp2
          go_roundw
          case rel => exact ⟨i, k + 1, P ++ [X], Q ++ [R1 + R2], _, _, _, _, by omega, by omega, by go_num, by go_num, HJN.out, by rw [List.length_append, List.length_append, HQL.out]; rfl, by rw [List.map_append, HQM.out, List.map_singleton, HRR.out]; exact rfl, HJ8.out⟩
          case measure => simp [intOf]; omega
      · have hkk : ¬ (k : Int) < (m : Int) := by omega
        have e1 : i = n := by omega
        have e2 : k = m := by omega
        have HEQ := hide (show P = joL x n y m from joL_eq HI.out.1 (fun d => by rw [HI.out.2.1 d, e1, e2]))
        have HRr := hide (blk_below (show Below T w3 wr from hbel) (by omega) HR2.out)
        have HBr := hide (HB2.out.trans ((show Below T w3 wr from hbel).mono (by omega)))
        obtain ⟨N, hN⟩ : ∃ q, joN x n y m = q := ⟨_, rfl⟩
        have hNm := joN_le x n y m
        have hPN : P.length = N := by rw [HEQ.out]; exact hN
        have hQN : Q.length = N := by rw [HQL.out]; exact hPN
        have HOA : Hid (OW wr (T + 1) wr.heap.size GA N (fun j => .int .i64 (joV x n y m j))) := by
          have h := HJ.out.oA
          rw [hPN] at h
          exact OW.of_owns h (fun j hj => by rw [HEQ.out]; exact joV_at j (by omega))
        have HOB : Hid (OW wr (T + 1) wr.heap.size GB N (fun j => .int .i64 (joR x x' n y y' m j))) := by
          have h := HJ.out.oB
          rw [hQN] at h
          exact OW.of_owns h (fun j hj => by rw [HQM.out, HEQ.out]; exact joR_at (by omega))
        have HNE := hide (show N ≠ 0 → GA ≠ GB from fun h1 h2 => by
          subst h2
          have hA := HJ.out.oA
          rw [hPN] at hA
          rcases hA.2 with ⟨h3, h4⟩ | ⟨g, cp, cur, h3, _⟩
          · exact h1 h4
          · injection h3 with h3
            subst h3
            rcases HJ.out.ap with h5 | h5 | h5
            · cases h5
            · cases h5
            · exact h5 rfl)
        have hTT := HJ.out.hT
        rw [hPN, hQN] at hTT
        have t0 := Joins.cell_of_block hTT 0
        have t1 := Joins.cell_of_block hTT 1
        simp at t0 t1
        rw [hN] at hNm
        have HNN := hide hN
        clear hTT hN hPN hQN HJ HI HQM HQL
        by_cases hq : Val (joV x n y m) (joR x x' n y y' m) N N
        · have HM := hide (show joP x x' n n' y y' m m' from ⟨HV.out, HV'.out, by rw [HNN.out]; exact hq⟩)
          have HD := hide (give_yes GA GB N dA N dB (joV x n y m) (joR x x' n y y' m) wr (by unfold maxLen; omega) (by unfold maxLen; omega) HOA.out.sl HOB.out.sl hq)
          clear hq
          go_wp2_with fail
          refine HD.out.mono ?_
          rintro e w7 ⟨rfl, hb⟩
          have hz7 := hb.size
          have HA7 := hide (HOA.out.below hb)
          have HB7' := hide (HOB.out.below hb)
          have HR7 := hide (blk_below hb (by omega) HRr.out)
          have HB7 := hide (HBr.out.trans (hb.mono HBr.out.size))
          clear hb
          have q0 := Joins.cell_of_block HR7.out 0
          have q1 := Joins.cell_of_block HR7.out 1
          simp at q0 q1
          have f0 := Joins.unfrozen_of_block HR7.out 0
          have f1 := Joins.unfrozen_of_block HR7.out 1
          (try simp at f0 f1)
          go_wp2
          have R := Joins.block_setCell (Joins.block_setCell HR7.out (i := 0) (.slice GA N dA)) (i := 1) (.slice GB N dB)
          have r0 := Joins.cell_of_block R 0
          have r1 := Joins.cell_of_block R 1
          simp at r0 r1
          have hNN := HNN.out
          subst hNN
          refine bodyPost_ret (v := .tuple #[.agg #[.slice GA (joN x n y m) dA, .slice GB (joN x n y m) dB], .bool true]) (by simp [results, Try.results29, go_sem, r0, r1]) rfl (gavet_yes HM.out ⟨?_, ?_, fun h _ => HNE.out h⟩ ?_)
          · exact ((HA7.out.setCell (.inl (by simp; omega))).setCell (.inl (by simp; omega))).wide (by omega) (by simp; omega)
          · exact ((HB7'.out.setCell (.inl (by simp; omega))).setCell (.inl (by simp; omega))).wide (by omega) (by simp; omega)
          · exact (HB7.out.setCell (by simp; omega) _).setCell (by simp; omega) _
        · have HM := hide (show ¬ joP x x' n n' y y' m m' from fun h => hq (by rw [← HNN.out]; exact h.2.2))
          have HD := hide (give_no GA GB N dA N dB (joV x n y m) (joR x x' n y y' m) wr (by unfold maxLen; omega) (by unfold maxLen; omega) HOA.out.sl HOB.out.sl hq)
          clear hq
          go_wp2_with fail
          refine HD.out.mono ?_
          rintro e w7 ⟨rfl, hb⟩
          have hz7 := hb.size
          have HA7 := hide (HOA.out.below hb)
          have HB7' := hide (HOB.out.below hb)
          have HR7 := hide (blk_below hb (by omega) HRr.out)
          have HB7 := hide (HBr.out.trans (hb.mono HBr.out.size))
          clear hb
          have q0 := Joins.cell_of_block HR7.out 0
          have q1 := Joins.cell_of_block HR7.out 1
          simp at q0 q1
          have f0 := Joins.unfrozen_of_block HR7.out 0
          have f1 := Joins.unfrozen_of_block HR7.out 1
          (try simp at f0 f1)
          go_wp2
          have R := Joins.block_setCell (Joins.block_setCell HR7.out (i := 0) (.slice none 0 0)) (i := 1) (.slice none 0 0)
          have r0 := Joins.cell_of_block R 0
          have r1 := Joins.cell_of_block R 1
          simp at r0 r1
          refine bodyPost_ret (v := .tuple #[.agg #[.slice none 0 0, .slice none 0 0], .bool false]) (by simp [results, Try.results29, go_sem, r0, r1]) rfl (gavet_no HM.out ?_)
          exact (HB7.out.setCell (by simp; omega) _).setCell (by simp; omega) _
end Go.Proofs.Ytpbbedelapnnnaa
