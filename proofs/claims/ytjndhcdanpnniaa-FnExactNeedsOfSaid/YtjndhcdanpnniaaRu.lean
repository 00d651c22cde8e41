/- Lists of rules: what a slice of such structs holds, among the arguments and in memory of one's own. -/
import Derived.Test.YtjndhcdanpnniaaOw
import Derived.Deep.Slices
import Derived.Deep.Fields
import Derived.ChangeSame
namespace Go
open Go.RowKit

/-- a rule: its Head, its Ifs, From, To and Rank -/
structure RV where
  h : Int
  n : Nat
  x : Nat → Int
  f : Int
  t : Int
  k : Int
/-- where the Ifs of a rule lie -/
structure RP where
  A : Option Addr
  c : Nat
def ruCell (V : Nat → RV) (P : Nat → RP) (j : Nat) : Value :=
  if j % 5 = 0 then .int .i64 (V (j / 5)).h else if j % 5 = 1 then .slice (P (j / 5)).A (V (j / 5)).n (P (j / 5)).c else if j % 5 = 2 then .int .i64 (V (j / 5)).f else if j % 5 = 3 then .int .i64 (V (j / 5)).t else .int .i64 (V (j / 5)).k
theorem ruCell_0 {V : Nat → RV} {P : Nat → RP} (i : Nat) : ruCell V P (i * 5) = .int .i64 (V i).h := by
  unfold ruCell; rw [if_pos (by omega), show i * 5 / 5 = i by omega]
theorem ruCell_1 {V : Nat → RV} {P : Nat → RP} (i : Nat) : ruCell V P (i * 5 + 1) = .slice (P i).A (V i).n (P i).c := by
  unfold ruCell; rw [if_neg (by omega), if_pos (by omega), show (i * 5 + 1) / 5 = i by omega]
theorem ruCell_2 {V : Nat → RV} {P : Nat → RP} (i : Nat) : ruCell V P (i * 5 + 2) = .int .i64 (V i).f := by
  unfold ruCell; rw [if_neg (by omega), if_neg (by omega), if_pos (by omega), show (i * 5 + 2) / 5 = i by omega]
theorem ruCell_3 {V : Nat → RV} {P : Nat → RP} (i : Nat) : ruCell V P (i * 5 + 3) = .int .i64 (V i).t := by
  unfold ruCell; rw [if_neg (by omega), if_neg (by omega), if_neg (by omega), if_pos (by omega), show (i * 5 + 3) / 5 = i by omega]
theorem ruCell_4 {V : Nat → RV} {P : Nat → RP} (i : Nat) : ruCell V P (i * 5 + 4) = .int .i64 (V i).k := by
  unfold ruCell; rw [if_neg (by omega), if_neg (by omega), if_neg (by omega), if_neg (by omega), show (i * 5 + 4) / 5 = i by omega]

/-- the numbers of a rule fit -/
def RV.ok (r : RV) : Prop := (-9223372036854775808 ≤ r.h ∧ r.h ≤ 9223372036854775807) ∧ (-9223372036854775808 ≤ r.f ∧ r.f ≤ 9223372036854775807) ∧ (-9223372036854775808 ≤ r.t ∧ r.t ≤ 9223372036854775807) ∧ (-9223372036854775808 ≤ r.k ∧ r.k ≤ 9223372036854775807) ∧ r.n ≤ maxLen ∧ ∀ j, j < r.n → -9223372036854775808 ≤ r.x j ∧ r.x j ≤ 9223372036854775807

/-- the slice A of n rules holds V -/
def RS (w : World) (A : Option Addr) (n : Nat) (V : Nat → RV) : Prop :=
  ∃ P : Nat → RP, SL w A (n * 5) (ruCell V P) ∧ ∀ i, i < n → SL w (P i).A (V i).n (fun j => .int .i64 ((V i).x j))

/-- the slice A of n rules lies, its Ifs too, in blocks of their own from lo on, before hi -/
def RO (w : World) (lo hi : Nat) (A : Option Addr) (n : Nat) (V : Nat → RV) : Prop :=
  n = 0 ∨ ∃ g cs t, ∃ P : Nat → RP, A = some ⟨g, 0, none⟩ ∧ lo ≤ g ∧ g < hi ∧ w.heap[g]? = some (.cells cs t (0, 0)) ∧ (∀ j, j < n * 5 → cs[j]? = some (ruCell V P j)) ∧
    (∀ i, i < n → OW w lo hi (P i).A (V i).n (fun j => .int .i64 ((V i).x j))) ∧ (∀ i, i < n → (V i).n ≠ 0 → ∀ b, (P i).A = some b → b.block ≠ g) ∧
    (∀ i j, i < j → j < n → (V i).n ≠ 0 → (V j).n ≠ 0 → ∀ b b', (P i).A = some b → (P j).A = some b' → b.block ≠ b'.block)

section
variable {w w' : World} {lo hi lo' hi' : Nat} {A : Option Addr} {n : Nat} {V : Nat → RV}
theorem RS.below (h : RS w A n V) (hb : Below w.heap.size w w') : RS w' A n V := by
  obtain ⟨P, h1, h2⟩ := h
  exact ⟨P, h1.below hb, fun i hi => (h2 i hi).below hb⟩
theorem RS.drewN (h : RS w A n V) (k : Nat) : RS (w.drewN k) A n V := h
theorem RS.cells (h : RS w A n V) : Hid (∀ k, k < n → ∃ b off I c, A = some ⟨b, off, none⟩ ∧ b < w.heap.size ∧ w.cell? ⟨b, off + k * 5, none⟩ = some (.int .i64 (V k).h) ∧ w.cell? ⟨b, off + k * 5 + 1, none⟩ = some (.slice I (V k).n c) ∧
    w.cell? ⟨b, off + k * 5 + 2, none⟩ = some (.int .i64 (V k).f) ∧ w.cell? ⟨b, off + k * 5 + 3, none⟩ = some (.int .i64 (V k).t) ∧ w.cell? ⟨b, off + k * 5 + 4, none⟩ = some (.int .i64 (V k).k) ∧ SL w I (V k).n (fun j => .int .i64 ((V k).x j))) := by
  intro k hk
  obtain ⟨P, h1, h2⟩ := h
  obtain ⟨b, off, e1, e2, e3⟩ := h1.at_ (by omega)
  refine ⟨b, off, (P k).A, (P k).c, e1, e2, ?_, ?_, ?_, ?_, ?_, h2 k hk⟩
  · exact (e3 (k * 5) (by omega)).trans (by rw [ruCell_0])
  · exact (e3 (k * 5 + 1) (by omega)).trans (by rw [ruCell_1])
  · exact (e3 (k * 5 + 2) (by omega)).trans (by rw [ruCell_2])
  · exact (e3 (k * 5 + 3) (by omega)).trans (by rw [ruCell_3])
  · exact (e3 (k * 5 + 4) (by omega)).trans (by rw [ruCell_4])
theorem RO.rs (h : RO w lo hi A n V) : RS w A n V := by
  rcases h with h | ⟨g, cs, t, P, h1, _, _, h4, h5, h6, _⟩
  · exact ⟨fun _ => ⟨none, 0⟩, .inl (by omega), fun i hi => absurd hi (by omega)⟩
  · refine ⟨P, .inr ⟨g, 0, h1, (Array.getElem?_eq_some_iff.1 h4).1, fun j hj => ?_⟩, fun i hi => (h6 i hi).sl⟩
    rw [Nat.zero_add, Joins.cell_of_block h4 j]
    exact h5 j hj
theorem RO.below (h : RO w lo hi A n V) (hb : Below w.heap.size w w') : RO w' lo hi A n V := by
  rcases h with h | ⟨g, cs, t, P, h1, h2, h3, h4, h5, h6, h7⟩
  · exact .inl h
  · exact .inr ⟨g, cs, t, P, h1, h2, h3, blk_below hb (Array.getElem?_eq_some_iff.1 h4).1 h4, h5, fun i hi => (h6 i hi).below hb, h7⟩
theorem RO.within (h : RO w lo hi A n V) (hb : Within lo' hi' w w') (hd : hi ≤ lo' ∨ hi' ≤ lo) : RO w' lo hi A n V := by
  rcases h with h | ⟨g, cs, t, P, h1, h2, h3, h4, h5, h6, h7⟩
  · exact .inl h
  · exact .inr ⟨g, cs, t, P, h1, h2, h3, (hb.block g (by omega)).trans h4, h5, fun i hi => (h6 i hi).within hb hd, h7⟩
theorem RO.marked (h : RO w lo hi A n V) (hb : Marked lo' hi' w w') (hd : hi ≤ lo' ∨ hi' ≤ lo) : RO w' lo hi A n V := by
  rcases h with h | ⟨g, cs, t, P, h1, h2, h3, h4, h5, h6, h7⟩
  · exact .inl h
  · exact .inr ⟨g, cs, t, P, h1, h2, h3, (hb.block g (Array.getElem?_eq_some_iff.1 h4).1 (by omega)).trans h4, h5, fun i hi => (h6 i hi).marked hb hd, h7⟩
theorem RO.wide (h : RO w lo hi A n V) (h1 : lo' ≤ lo) (h2 : hi ≤ hi') : RO w lo' hi' A n V := by
  rcases h with h | ⟨g, cs, t, P, e1, e2, e3, h4, h5, h6, h7⟩
  · exact .inl h
  · exact .inr ⟨g, cs, t, P, e1, by omega, by omega, h4, h5, fun i hi => (h6 i hi).wide h1 h2, h7⟩
end

section
open Go.ChangeShapes Go.WideShapes Go.Deep
variable {H : Type} {enc : TypeId × Value → H} {P : Program} {w : World}
theorem array5 {cs : Array Value} (h : cs.size = 5) : ∃ a b c d e, cs = #[a, b, c, d, e] := by
  obtain ⟨l⟩ := cs
  match l, h with
  | [a, b, c, d, e], _ => exact ⟨a, b, c, d, e, rfl⟩
/-- A RULE BY VALUE, OPENED. -/
theorem open_rule {r : Reach} {b0 : Nat} {t ts ti : TypeId} {f0 f1 f2 f3 f4 : Field} {v : Value} {d : DataW H} {ps : List MemPlace} (he : P.underlying t = some (.struct #[f0, f1, f2, f3, f4]))
    (hone : oneCellFields P #[f0, f1, f2, f3, f4] = true) (hC : P.cellsOf t = 5) (h0 : P.underlying f0.type = some (.int .i64)) (h1 : f1.type = ts) (h2 : P.underlying f2.type = some (.int .i64)) (h3 : P.underlying f3.type = some (.int .i64)) (h4 : P.underlying f4.type = some (.int .i64))
    (hs : P.underlying ts = some (.slice ti)) (hi : P.underlying ti = some (.int .i64)) (hc : P.cellsOf ti = 1)
    (hv : Value.okWide P w r b0 t v) (hd : DataW.Trod enc P w 0 (fun _ => true) true t v d ps) :
    ∃ (R : RV) (I : Option Addr) (c : Nat), v = .agg #[.int .i64 R.h, .slice I R.n c, .int .i64 R.f, .int .i64 R.t, .int .i64 R.k] ∧ R.ok ∧ SL w I R.n (fun j => .int .i64 (R.x j)) := by
  obtain ⟨cs, rfl, hsz⟩ := okWide_struct he hv
  obtain ⟨a0, a1, a2, a3, a4, rfl⟩ := array5 (hsz.trans hC)
  obtain ⟨fuel, hf⟩ := hd
  have hmin : IntKind.i64.min = -9223372036854775808 := rfl
  have hmax : IntKind.i64.max = 9223372036854775807 := rfl
  obtain ⟨ys, n'', hn', hy, hlen, hyl, hg⟩ := DataW.trod_struct he hf
  have field : ∀ (q : Nat) (f : Field) (u : Value), (#[f0, f1, f2, f3, f4] : Array Field)[q]? = some f → q < 5 → [a0, a1, a2, a3, a4][q]? = some u → ∃ y, DataW.trod enc P w 0 (fun _ => true) true n'' f.type [u] = some y := by
    intro q f u hfe hq hu
    obtain ⟨ho, hk⟩ := hone_of hone q _ hfe
    have hg1 := hg q _ hfe
    rw [ho, hk] at hg1
    have hone' : (((Value.agg #[a0, a1, a2, a3, a4]).cells.toList).drop q).take 1 = [u] := by
      have e : (Value.agg #[a0, a1, a2, a3, a4]).cells.toList = [a0, a1, a2, a3, a4] := rfl
      rw [e]
      have hl : q < [a0, a1, a2, a3, a4].length := hq
      rw [List.drop_eq_getElem_cons hl]
      rw [List.getElem?_eq_getElem hl] at hu
      injection hu with hu
      rw [hu]; rfl
    rw [hone'] at hg1
    have hys : ys[q]? = some (ys[q]'(by have : (#[f0, f1, f2, f3, f4] : Array Field).size = 5 := rfl; omega)) := List.getElem?_eq_getElem _
    exact ⟨_, hg1.trans hys⟩
  have int : ∀ (f : Field) (u : Value) (y : DataW H × List MemPlace), P.underlying f.type = some (.int .i64) → DataW.trod enc P w 0 (fun _ => true) true n'' f.type [u] = some y → ∃ b : Int, u = .int .i64 b ∧ -9223372036854775808 ≤ b ∧ b ≤ 9223372036854775807 := by
    intro f u y hu hy
    obtain ⟨b, e1, _, e2⟩ := DataW.trod_int hu hy
    simp only [Lit.wf, Bool.and_eq_true, decide_eq_true_eq] at e2
    exact ⟨b, by injection e1, by omega, by omega⟩
  obtain ⟨y0, t0⟩ := field 0 f0 a0 rfl (by omega) rfl
  obtain ⟨y1, t1⟩ := field 1 f1 a1 rfl (by omega) rfl
  obtain ⟨y2, t2⟩ := field 2 f2 a2 rfl (by omega) rfl
  obtain ⟨y3, t3⟩ := field 3 f3 a3 rfl (by omega) rfl
  obtain ⟨y4, t4⟩ := field 4 f4 a4 rfl (by omega) rfl
  obtain ⟨b0, rfl, q0⟩ := int f0 a0 y0 h0 t0
  obtain ⟨b2, rfl, q2⟩ := int f2 a2 y2 h2 t2
  obtain ⟨b3, rfl, q3⟩ := int f3 a3 y3 h3 t3
  obtain ⟨b4, rfl, q4⟩ := int f4 a4 y4 h4 t4
  rw [h1] at t1
  have form : (∃ A n c, a1 = .slice A n c) ∧ DataW.Trod enc P w 0 (fun _ => true) true ts a1 y1.1 y1.2 := by
    rcases DataW.trod_slice hs t1 with ⟨hh, _⟩ | ⟨a, len, cap, _, _, _, _, hh, _⟩
    · simp only [List.cons.injEq, and_true] at hh
      subst hh
      exact ⟨⟨_, _, _, rfl⟩, n'', t1⟩
    · simp only [List.cons.injEq, and_true] at hh
      subst hh
      exact ⟨⟨_, _, _, rfl⟩, n'', t1⟩
  obtain ⟨I, l, cc, x, rfl, e1, e2, e3⟩ := open_is hs hi hc form.2 form.1
  exact ⟨⟨b0, l, x, b2, b3, b4⟩, I, cc, rfl, ⟨q0, q2, q3, q4, e1, e3⟩, e2⟩
/-- A SLICE OF RULES, OPENED. -/
theorem open_rules {t e ts ti : TypeId} {f0 f1 f2 f3 f4 : Field} {v : Value} {d : DataW H} {ps : List MemPlace} (ht : P.underlying t = some (.slice e)) (he : P.underlying e = some (.struct #[f0, f1, f2, f3, f4]))
    (hone : oneCellFields P #[f0, f1, f2, f3, f4] = true) (hC : P.cellsOf e = 5) (h0 : P.underlying f0.type = some (.int .i64)) (h1 : f1.type = ts) (h2 : P.underlying f2.type = some (.int .i64)) (h3 : P.underlying f3.type = some (.int .i64)) (h4 : P.underlying f4.type = some (.int .i64))
    (hs : P.underlying ts = some (.slice ti)) (hi : P.underlying ti = some (.int .i64)) (hc : P.cellsOf ti = 1)
    (hd : DataW.Trod enc P w 0 (fun _ => true) true t v d ps) (hv : ∃ A n c, v = .slice A n c) :
    ∃ A n c, ∃ V : Nat → RV, v = .slice A n c ∧ n ≤ maxLen ∧ RS w A n V ∧ ∀ i, i < n → (V i).ok := by
  obtain ⟨A, n, c, rfl⟩ := hv
  obtain ⟨fuel, hf⟩ := hd
  rcases open_slice ht hf with ⟨h00, _⟩ | ⟨a, len, cap, m', n', D, Pl, hcs, hb, hl, hm1, hmm, hx, hit⟩
  · have h0' : ([Value.slice A n c] : List Value) = [.slice none 0 0] := h00
    simp only [List.cons.injEq, Value.slice.injEq, and_true] at h0'
    obtain ⟨rfl, rfl, rfl⟩ := h0'
    exact ⟨_, _, _, fun _ => ⟨0, 0, fun _ => 0, 0, 0, 0⟩, rfl, Nat.zero_le _, ⟨fun _ => ⟨none, 0⟩, .inl (by simp), fun i hi => absurd hi (by simp)⟩, fun j hj => absurd hj (by simp)⟩
  · have h0' : ([Value.slice A n c] : List Value) = [.slice (some a) len cap] := hcs
    simp only [List.cons.injEq, Value.slice.injEq, and_true] at h0'
    obtain ⟨rfl, rfl, rfl⟩ := h0'
    have hmn : n ≤ m' := by rw [hmm]; simp; exact hl
    have hmin : IntKind.i64.min = -9223372036854775808 := rfl
    have hmax : IntKind.i64.max = 9223372036854775807 := rfl
    have each : ∀ i, ∃ r : RV × RP, i < n → r.1.ok ∧ SL w r.2.A r.1.n (fun j => .int .i64 (r.1.x j)) ∧ w.cell? (a.add (i * 5)) = some (.int .i64 r.1.h) ∧ w.cell? (a.add (i * 5 + 1)) = some (.slice r.2.A r.1.n r.2.c) ∧ w.cell? (a.add (i * 5 + 2)) = some (.int .i64 r.1.f) ∧ w.cell? (a.add (i * 5 + 3)) = some (.int .i64 r.1.t) ∧ w.cell? (a.add (i * 5 + 4)) = some (.int .i64 r.1.k) := by
      intro i
      by_cases hin : i < n
      · obtain ⟨cs', hc', ht'⟩ := hit i (by omega)
        rw [hC] at hc'
        obtain ⟨ys, n'', hn', hy, hlen, hyl, hg⟩ := DataW.trod_struct he ht'
        obtain ⟨_, hcl, hat⟩ := World.cells?_some hc'
        have field : ∀ (q : Nat) (f : Field), (#[f0, f1, f2, f3, f4] : Array Field)[q]? = some f → q < 5 → ∃ u y, w.cell? (a.add (i * 5 + q)) = some u ∧ DataW.trod enc P w 0 (fun _ => true) true n'' f.type [u] = some y := by
          intro q f hfe hq
          obtain ⟨ho, hk⟩ := hone_of hone q _ hfe
          have hcell := hat q (by omega)
          have hvv : cs'[q]? = some (cs'[q]'(by omega)) := List.getElem?_eq_getElem (by omega)
          have hg1 := hg q _ hfe
          rw [ho, hk] at hg1
          have hone' : (cs'.drop q).take 1 = [cs'[q]'(by omega)] := by
            rw [List.drop_eq_getElem_cons (by omega)]
            rfl
          rw [hone'] at hg1
          have hys : ys[q]? = some (ys[q]'(by have : (#[f0, f1, f2, f3, f4] : Array Field).size = 5 := rfl; omega)) := List.getElem?_eq_getElem _
          refine ⟨_, _, ?_, hg1.trans hys⟩
          have hadd : (a.add (i * 5)).add q = a.add (i * 5 + q) := Go.Deep.add_add ..
          rw [← hadd, hcell, hvv]
        have int : ∀ (f : Field) (u : Value) (y : DataW H × List MemPlace), P.underlying f.type = some (.int .i64) → DataW.trod enc P w 0 (fun _ => true) true n'' f.type [u] = some y → ∃ b : Int, u = .int .i64 b ∧ -9223372036854775808 ≤ b ∧ b ≤ 9223372036854775807 := by
          intro f u y hu hy
          obtain ⟨b, e1, _, e2⟩ := DataW.trod_int hu hy
          simp only [Lit.wf, Bool.and_eq_true, decide_eq_true_eq] at e2
          exact ⟨b, by injection e1, by omega, by omega⟩
        obtain ⟨u0, y0, c0, t0⟩ := field 0 f0 rfl (by omega)
        obtain ⟨u1, y1, c1, t1⟩ := field 1 f1 rfl (by omega)
        obtain ⟨u2, y2, c2, t2⟩ := field 2 f2 rfl (by omega)
        obtain ⟨u3, y3, c3, t3⟩ := field 3 f3 rfl (by omega)
        obtain ⟨u4, y4, c4, t4⟩ := field 4 f4 rfl (by omega)
        obtain ⟨b0, rfl, q0⟩ := int f0 u0 y0 h0 t0
        obtain ⟨b2, rfl, q2⟩ := int f2 u2 y2 h2 t2
        obtain ⟨b3, rfl, q3⟩ := int f3 u3 y3 h3 t3
        obtain ⟨b4, rfl, q4⟩ := int f4 u4 y4 h4 t4
        rw [h1] at t1
        have form : (∃ A n c, u1 = .slice A n c) ∧ DataW.Trod enc P w 0 (fun _ => true) true ts u1 y1.1 y1.2 := by
          rcases DataW.trod_slice hs t1 with ⟨hh, _⟩ | ⟨a, len, cap, _, _, _, _, hh, _⟩
          · simp only [List.cons.injEq, and_true] at hh
            subst hh
            exact ⟨⟨_, _, _, rfl⟩, n'', t1⟩
          · simp only [List.cons.injEq, and_true] at hh
            subst hh
            exact ⟨⟨_, _, _, rfl⟩, n'', t1⟩
        obtain ⟨I, l, cc, x, rfl, a1, a2, a3⟩ := open_is hs hi hc form.2 form.1
        exact ⟨(⟨b0, l, x, b2, b3, b4⟩, ⟨I, cc⟩), fun _ => ⟨⟨q0, q2, q3, q4, a1, a3⟩, a2, c0, c1, c2, c3, c4⟩⟩
      · exact ⟨(⟨0, 0, fun _ => 0, 0, 0, 0⟩, ⟨none, 0⟩), fun h => absurd h hin⟩
    obtain ⟨R, hR⟩ := Classical.axiomOfChoice each
    by_cases hn : n = 0
    · exact ⟨_, _, _, fun i => (R i).1, rfl, Nat.le_trans hl hm1, ⟨fun i => (R i).2, .inl (by simp [hn]), fun i hi => absurd hi (by omega)⟩, fun j hj => absurd hj (by omega)⟩
    · have hc0 := (hR 0 (by omega)).2.2.1
      have ha0 : (a.add (0 * 5)) = a := by unfold Addr.add; rw [if_pos (by omega)]
      rw [ha0] at hc0
      have hsp0 : a.spot = none := by
        unfold World.cell? at hc0
        split at hc0
        · split at hc0
          · cases hc0
          · rename_i hs; simpa using hs
        · cases hc0
      obtain ⟨b, off, sp⟩ := a
      simp only at hsp0
      subst hsp0
      have hadd : ∀ j, (Addr.mk b off none).add j = ⟨b, off + j, none⟩ := by
        intro j; unfold Addr.add
        split
        · rename_i h; subst h; rfl
        · rfl
      have hblk : b < w.heap.size := by
        unfold World.cell? at hc0
        split at hc0
        · rename_i h; exact (Array.getElem?_eq_some_iff.1 h).1
        · cases hc0
      refine ⟨_, _, _, fun i => (R i).1, rfl, Nat.le_trans hl hm1, ⟨fun i => (R i).2, .inr ⟨b, off, rfl, hblk, fun j hj => ?_⟩, fun i hi => (hR i hi).2.1⟩, fun i hi => (hR i hi).1⟩
      have hj5 : j / 5 < n := by omega
      obtain ⟨_, _, e0, e1, e2, e3, e4⟩ := hR (j / 5) hj5
      simp only [hadd] at e0 e1 e2 e3 e4
      have hcase : j % 5 = 0 ∨ j % 5 = 1 ∨ j % 5 = 2 ∨ j % 5 = 3 ∨ j % 5 = 4 := by omega
      rcases hcase with q | q | q | q | q
      · rw [show off + j = off + (j / 5 * 5) by omega, e0]; unfold ruCell; rw [if_pos q]
      · rw [show off + j = off + (j / 5 * 5 + 1) by omega, e1]; unfold ruCell; rw [if_neg (by omega), if_pos q]
      · rw [show off + j = off + (j / 5 * 5 + 2) by omega, e2]; unfold ruCell; rw [if_neg (by omega), if_neg (by omega), if_pos q]
      · rw [show off + j = off + (j / 5 * 5 + 3) by omega, e3]; unfold ruCell; rw [if_neg (by omega), if_neg (by omega), if_neg (by omega), if_pos q]
      · rw [show off + j = off + (j / 5 * 5 + 4) by omega, e4]; unfold ruCell; rw [if_neg (by omega), if_neg (by omega), if_neg (by omega), if_neg (by omega)]
end
end Go
